/- StreamParts: what it says, walked. -/
import Derived.Test.YtephifkabpidnaaDoorR
namespace Go.Proofs.YtephifkabpidnaaDoor
open Go.RowKit Go.Shelf
attribute [local go_sem] Oper.semAt_some

/-- Behind a place. -/
theorem IntsAt.drop {n : Nat} {W : World} {b off : Nat} {zs : List Int} (h : IntsAt n W (some ⟨b, off, none⟩) zs) (k : Nat) : IntsAt n W (some ⟨b, off + k, none⟩) (zs.drop k) := fun i hi => by
  rw [List.length_drop] at hi
  obtain ⟨b', off', e, hb, hc⟩ := h (k + i) (by omega)
  cases e
  exact ⟨b, off + k, rfl, hb, by rw [List.getElem_drop, Nat.add_assoc]; exact hc⟩
theorem IntsAt.from {n : Nat} {W : World} {a : Option Addr} {zs : List Int} (h : IntsAt n W a zs) (k : Nat) : IntsAt n W (a.map fun x => x.add k) (zs.drop k) := fun i hi => by
  obtain ⟨b, off, rfl, hb, _⟩ := h (k + i) (by rw [List.length_drop] at hi; omega)
  obtain ⟨b', off', e, hb', hc⟩ := h.drop k i hi
  cases e
  exact ⟨b, off + k, by simp [Addr.add], hb, hc⟩
theorem IntsAt.over {n : Nat} {W : World} (a : Option Addr) {zs : List Int} {k : Nat} (h : zs.length ≤ k) : IntsAt n W a (zs.drop k) := fun i hi => by
  rw [List.length_drop] at hi; omega
theorem parts_pure {s : Int} (l : List Int) (k : Nat) (hk : k ≤ l.length) (hs : isSt s = true) :
    (runN s (l.take k) < k ∧ runS s l = runS s (l.take k) ∧ runN s l = runN s (l.take k)) ∨
    (runN s (l.take k) = k ∧ isSt (runS s (l.take k)) = true ∧ runS s l = runS (runS s (l.take k)) (l.drop k) ∧ runN s l = k + runN (runS s (l.take k)) (l.drop k)) := by
  have hlk : (l.take k).length = k := by rw [List.length_take]; omega
  obtain ⟨e1, e2, _⟩ := run_vals l hs
  obtain ⟨f1, f2, _⟩ := run_vals (l.take k) hs
  have h1 := run_append s (l.take k) (l.drop k)
  have h2 := cnt_append s (l.take k) (l.drop k)
  rw [List.take_append_drop, hlk] at h1 h2
  have hle := cnt_le s (l.take k)
  rw [hlk] at hle
  by_cases hc : cnt s (l.take k) = k
  · rw [if_pos hc] at h1 h2
    have hst : isSt (runS s (l.take k)) = true := runS_st _ hs
    obtain ⟨g1, g2, _⟩ := run_vals (l.drop k) hst
    refine .inr ⟨by rw [f2, hc], hst, by rw [e1, g1, f1, h1], by rw [e2, g2, f1, h2]; simp⟩
  · rw [if_neg hc] at h1 h2
    exact .inl ⟨by rw [f2]; omega, by rw [e1, f1, h1], by rw [e2, f2, h2]⟩

set_option maxRecDepth 100000 in
set_option maxHeartbeats 4000000 in
theorem parts_out (s at_ : Int) (a : Option Addr) (l : List Int) (cap : Nat) (w : World) (hL : Laid w) (hc : l.length ≤ cap) (hm : cap ≤ maxLen) (ho : at_ < 0 ∨ (l.take 20).length < at_) :
    Calls Tryd.prog 6 #[.int .i64 s, .slice a l.length cap, .int .i64 at_] w fun x w' => x = .returned (.bool true) ∧ Below w.heap.size w w' := by
  have HS := Lib.hid (shown_c w hL)
  have HF := Lib.hid (fun W => few_c a l cap W hc hm)
  clear hL hc hm
  generalize l.take 20 = zs at *
  by_cases h0 : at_ < 0
  · clear ho
    go_enter Tryd.func6, Tryd.ntmps6
    go_wp2_with fail
    refine (HS.out).mono ?_; rintro e w1 ⟨rfl, hb1⟩
    go_wp2_with fail
    refine (HF.out _).mono ?_; rintro e w2 ⟨rfl, rfl⟩
    go_wp2
    go_ret
    exact ⟨rfl, hb1⟩
  · have h1 : (zs.length : Int) < at_ := by omega
    clear ho
    go_enter Tryd.func6, Tryd.ntmps6
    go_wp2_with fail
    refine (HS.out).mono ?_; rintro e w1 ⟨rfl, hb1⟩
    go_wp2_with fail
    refine (HF.out _).mono ?_; rintro e w2 ⟨rfl, rfl⟩
    go_wp2
    go_ret
    exact ⟨rfl, hb1⟩

set_option maxRecDepth 100000 in
set_option maxHeartbeats 4000000 in
theorem parts_in (s : Int) (k : Nat) (a : Option Addr) (l : List Int) (cap : Nat) (w : World) (hL : Laid w) (hc : l.length ≤ cap) (hm : cap ≤ maxLen) (hI : IntsAt w.heap.size w a l) (hk : k ≤ (l.take 20).length) :
    Calls Tryd.prog 6 #[.int .i64 s, .slice a l.length cap, .int .i64 k] w fun x w' => x = .returned (.bool true) ∧ Below w.heap.size w w' := by
  have hl : (l.take 20).length ≤ 20 := by rw [List.length_take]; omega
  have hlc : (l.take 20).length ≤ cap := by rw [List.length_take]; omega
  have HS := Lib.hid (shown_c w hL)
  have HF := Lib.hid (fun W => few_c a l cap W hc hm)
  have HI := Lib.hid (hI.take 20)
  clear hL hI hc hm
  generalize l.take 20 = zs at *
  have hzk : (zs.take k).length = k := by rw [List.length_take]; omega
  have HR := Lib.hid (fun W (h : Below w.heap.size w W) => run_c s a cap zs (by omega) W ((HI.out.below h).mono h.size))
  have HR2' := fun W (h : Below w.heap.size w W) => run_c s a cap (zs.take k) (by omega) W (((HI.out.take k).below h).mono h.size)
  rw [hzk] at HR2'
  have HR2 := Lib.hid HR2'
  clear HR2'
  go_enter Tryd.func6, Tryd.ntmps6
  go_wp2_with fail
  refine (HS.out).mono ?_; rintro e w1 ⟨rfl, hb1⟩
  go_wp2_with fail
  refine (HF.out _).mono ?_; rintro e w2 ⟨rfl, rfl⟩
  go_wp2_with fail
  refine (HR.out _ hb1).mono ?_; rintro e w2 ⟨rfl, hb2⟩
  have HB2 := Lib.hid (btr hb1 hb2)
  clear hb1 hb2 HS HF HR
  cases hs : isSt s with
  | false =>
    obtain ⟨f1, f2, f3⟩ := run_vals0 (zs.take k) hs
    rw [f1, f2, f3] at HR2
    rw [f3]
    generalize runS s zs = r at *
    generalize runN s zs = n at *
    clear f1 f2 f3 hs HI hzk
    go_wp2_with fail
    refine (HR2.out _ HB2.out).mono ?_; rintro e w3 ⟨rfl, hb3⟩
    have HB3 := Lib.hid (btr HB2.out hb3)
    clear hb3 HB2 HR2
    go_wp2
    go_ret
    exact ⟨rfl, HB3.out⟩
  | true =>
    have e3 := (run_vals (zs.take k) hs).2.2
    rw [e3] at HR2
    rw [e3]
    rcases parts_pure zs k hk hs with ⟨q1, q2, q3⟩ | ⟨q1, q2, q3, q4⟩
    · rw [q2, q3]
      generalize runS s (zs.take k) = r at *
      generalize runN s (zs.take k) = n at *
      clear q2 q3 hs HI hzk e3
      go_wp2_with fail
      refine (HR2.out _ HB2.out).mono ?_; rintro e w3 ⟨rfl, hb3⟩
      have HB3 := Lib.hid (btr HB2.out hb3)
      clear hb3 HB2 HR2
      go_wp2
      go_ret
      exact ⟨rfl, HB3.out⟩
    · rw [q1] at HR2
      have hld : (zs.drop k).length = zs.length - k := List.length_drop
      have hn2 : runN (runS s (zs.take k)) (zs.drop k) ≤ 20 ∧ 0 ≤ runN (runS s (zs.take k)) (zs.drop k) := by
        have h := cnt_le (runS s (zs.take k)) (zs.drop k)
        have h' := (run_vals (zs.drop k) q2).2.1
        omega
      have HD := Lib.hid (fun W a3 cap3 (h : IntsAt W.heap.size W a3 (zs.drop k)) => run_c (runS s (zs.take k)) a3 cap3 (zs.drop k) (by omega) W h)
      rw [(run_vals (zs.drop k) q2).2.2, hld] at HD
      rw [q3, q4]
      generalize runS s (zs.take k) = r2 at *
      have HI3 := Lib.hid (fun W (h : Below w.heap.size w W) => ((HI.out.below h).mono h.size))
      generalize runS r2 (zs.drop k) = r at *
      generalize runN r2 (zs.drop k) = n at *
      clear q1 q2 q3 q4 hs hzk e3 HI
      go_wp2_with fail
      refine (HR2.out _ HB2.out).mono ?_; rintro e w3 ⟨rfl, hb3⟩
      have HB3 := Lib.hid (btr HB2.out hb3)
      clear hb3 HB2 HR2
      go_wp2_with fail
      · refine (HD.out _ _ _ (IntsAt.over a (by omega))).mono ?_; rintro e w4 ⟨rfl, hb4⟩
        have HB4 := Lib.hid (btr HB3.out hb4)
        clear hb4 HB3 HD HI3
        go_wp2
        go_ret
        exact ⟨rfl, HB4.out⟩
      · refine (HD.out _ _ _ ((HI3.out _ HB3.out).from k)).mono ?_; rintro e w4 ⟨rfl, hb4⟩
        have HB4 := Lib.hid (btr HB3.out hb4)
        clear hb4 HB3 HD HI3
        go_wp2
        go_ret
        exact ⟨rfl, HB4.out⟩

theorem parts_c (s at_ : Int) (a : Option Addr) (l : List Int) (cap : Nat) (w : World) (hL : Laid w) (hc : l.length ≤ cap) (hm : cap ≤ maxLen) (hI : IntsAt w.heap.size w a l) :
    Calls Tryd.prog 6 #[.int .i64 s, .slice a l.length cap, .int .i64 at_] w fun x w' => x = .returned (.bool true) ∧ Below w.heap.size w w' := by
  by_cases h : at_ < 0 ∨ (l.take 20).length < at_
  · exact parts_out s at_ a l cap w hL hc hm h
  · obtain ⟨k, rfl⟩ : ∃ k : Nat, at_ = k := ⟨at_.toNat, by omega⟩
    exact parts_in s k a l cap w hL hc hm hI (by omega)
end Go.Proofs.YtephifkabpidnaaDoor
