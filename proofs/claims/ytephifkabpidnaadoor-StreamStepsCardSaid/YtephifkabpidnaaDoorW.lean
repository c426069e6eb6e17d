/- The document's own Run. -/
import Derived.Test.YtephifkabpidnaaDoorV
namespace Go.Proofs.YtephifkabpidnaaDoor
open Go.RowKit Go.Shelf
attribute [local go_sem] Oper.semAt_some

set_option maxRecDepth 100000 in
set_option maxHeartbeats 2000000 in
theorem refRun_no (s : Int) (v : Value) (w : World) (hs : isSt s = false) : Calls Tryd.prog 15 #[.int .i64 s, v] w fun x w' => x = .returned (.tuple #[.int .i64 0, .int .i64 0, .int .i64 2]) ∧ Below w.heap.size w w' := by
  simp only [isSt, decide_eq_false_iff_not] at hs
  by_cases h : s < 0
  · go_enter Tryd.func15, Tryd.ntmps15
    go_wp2
    exact bodyPost_ret (v := .tuple #[.int .i64 0, .int .i64 0, .int .i64 2]) (by simp [results, Tryd.results15, go_sem]) rfl ⟨rfl, Below.refl _ _⟩
  · have h6 : 6 < s := by omega
    go_enter Tryd.func15, Tryd.ntmps15
    go_wp2
    exact bodyPost_ret (v := .tuple #[.int .i64 0, .int .i64 0, .int .i64 2]) (by simp [results, Tryd.results15, go_sem]) rfl ⟨rfl, Below.refl _ _⟩

set_option maxRecDepth 100000 in
set_option maxHeartbeats 2000000 in
theorem refRun_in (s : Int) (a : Option Addr) (cap : Nat) (l : List Int) (hl : l.length ≤ 1000) (w : World) (hs : isSt s = true) (hI : IntsAt w.heap.size w a l) :
    Calls Tryd.prog 15 #[.int .i64 s, .slice a l.length cap] w fun x w' => x = .returned (.tuple #[.int .i64 (run s l), .int .i64 (cnt s l), .int .i64 0]) ∧ Below w.heap.size w w' := by
  have HN := Lib.hid (fun s e W => refNext_c s e W)
  have HS := Lib.hid hs
  have HI := Lib.hid hI
  have hs0 : 0 ≤ s := by simp only [isSt, decide_eq_true_eq] at hs; omega
  have hs6 : s ≤ 6 := by simp only [isSt, decide_eq_true_eq] at hs; omega
  clear hs hI
  generalize hL : l.length = L at *
  go_enter Tryd.func15, Tryd.ntmps15
  go_wp2
  go_loopw [0, 7] (fun sv iv wr => ∃ k : Nat, k ≤ L ∧ iv = .int .i64 k ∧ sv = .int .i64 (run s (l.take k)) ∧ cnt s (l.take k) = k ∧ wr = w) (fun _ iv _ => L - (intOf iv).toNat)
  case atStart => exact ⟨0, Nat.zero_le _, rfl, by simp [run], by simp [cnt], rfl⟩
  case round =>
    obtain ⟨k, hk, rfl, rfl, hc, rfl⟩ := hrel
    by_cases hlt : k < L
    · have hlt' : k < l.length := by omega
      obtain ⟨b, off, rfl, hb, hcell⟩ := HI.out k hlt'
      have hlk : (l.take k).length = k := by rw [List.length_take]; omega
      have hst := run_st (l.take k) HS.out
      have e1 : run s (l.take (k + 1)) = run (run s (l.take k)) [l[k]] := by rw [take_snoc l k hlt', run_append, if_pos (by rw [hc, hlk])]
      have e2 : cnt s (l.take (k + 1)) = k + cnt (run s (l.take k)) [l[k]] := by rw [take_snoc l k hlt', cnt_append, if_pos (by rw [hc, hlk]), hlk]
      have e3 : goes (run s (l.take k)) l[k] = false → run s l = run s (l.take k) ∧ cnt s l = k := fun h => by
        have := run_stop (s := s) (q := l.take k) (by rw [hc, hlk]) h (l.drop (k + 1))
        rw [← take_snoc l k hlt', List.take_append_drop, hlk] at this
        exact this
      have hN := HN.out (run s (l.take k)) l[k]
      generalize hr : run s (l.take k) = r at *
      generalize l[k] = x at *
      cases hg : goes r x with
      | false =>
        rw [(next_not hst hg).1, (next_not hst hg).2] at hN
        have HN' := Lib.hid hN
        have F := Lib.hid (e3 hg)
        clear e1 e2 e3 hst hg hN HN hc hr
        go_wp2_with (go_at_call 13; refine (HN'.out _).mono ?_; rintro y w1 ⟨rfl, rfl⟩)
        exact bodyPost_ret (v := .tuple #[.int .i64 r, .int .i64 k, .int .i64 0]) (by simp [results, Tryd.results15, go_sem]) rfl ⟨by rw [F.out.1, F.out.2], Below.refl _ _⟩
      | true =>
        have n1 : nextN r x = dest r x := by unfold nextN; rw [if_pos hst, if_pos hg]
        have n2 : nextE r x = 0 := by unfold nextE; rw [if_pos hst, if_pos hg]
        rw [n1, n2] at hN
        have HN' := Lib.hid hN
        have e1' : run s (l.take (k + 1)) = dest r x := by rw [e1]; simp [run, hg]
        have e2' : cnt s (l.take (k + 1)) = k + 1 := by rw [e2]; simp [cnt, hg]
        have E := Lib.hid (And.intro e1' e2')
        clear e1 e2 e3 hst hg hN HN n1 n2 e1' e2' hr
        generalize dest r x = d at *
        go_wp2_with (go_at_call 13; refine (HN'.out _).mono ?_; rintro y w1 ⟨rfl, rfl⟩)
        go_roundw
        case rel => exact ⟨k + 1, by omega, by go_num, by rw [E.out.1], E.out.2, trivial⟩
        case measure => simp [intOf]; omega
    · obtain rfl : k = L := by omega
      have : l.take k = l := by rw [← hL]; exact List.take_length
      rw [this] at hc ⊢
      go_wp2
      exact bodyPost_ret (v := .tuple #[.int .i64 (run s l), .int .i64 k, .int .i64 0]) (by simp [results, Tryd.results15, go_sem]) rfl ⟨by rw [hc], Below.refl _ _⟩

theorem refRun_c (s : Int) (a : Option Addr) (cap : Nat) (l : List Int) (hl : l.length ≤ 1000) (w : World) (hI : IntsAt w.heap.size w a l) :
    Calls Tryd.prog 15 #[.int .i64 s, .slice a l.length cap] w fun x w' => x = .returned (.tuple #[.int .i64 (runS s l), .int .i64 (runN s l), .int .i64 (runE s)]) ∧ Below w.heap.size w w' := by
  unfold runS runN runE
  cases hs : isSt s with
  | false => exact refRun_no s _ w hs
  | true => exact refRun_in s a cap l hl w hs hI
end Go.Proofs.YtephifkabpidnaaDoor
