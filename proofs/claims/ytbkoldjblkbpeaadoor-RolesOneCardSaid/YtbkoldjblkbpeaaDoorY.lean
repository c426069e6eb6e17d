/- The law's function RolesOne: it returns true. -/
import Derived.Test.YtbkoldjblkbpeaaDoorX
namespace Go.Proofs.YtbkoldjblkbpeaaDoor
open Go.RowKit Go.Shelf
attribute [local go_sem] Oper.semAt_some

/-- Is one of these of that name and role? -/
def inB (s : ByteArray) (n : Int) (l : List Opr) : Bool := l.any fun x => decide (x.n = s) && decide (x.r = n)
theorem inB_snoc (s : ByteArray) (n : Int) (l : List Opr) (x : Opr) : inB s n (l ++ [x]) = (inB s n l || (decide (x.n = s) && decide (x.r = n))) := by simp [inB]
theorem inB_of {s : ByteArray} {n : Int} {l : List Opr} (h : ∃ x ∈ l, x.n = s ∧ x.r = n) : inB s n l = true := by
  obtain ⟨x, hx, h1, h2⟩ := h
  unfold inB
  rw [List.any_eq_true]
  exact ⟨x, hx, by simp [h1, h2]⟩

set_option maxRecDepth 100000 in
set_option maxHeartbeats 4000000 in
theorem rolesOne_c (a : Option Addr) (cap : Nat) (raw : List (ByteArray × Int)) (s0 : ByteArray) (v : Int) (w : World) (hW : Wd w) (hR : RawAt w.heap.size w a raw) :
    Calls Tryd.prog 7 #[.slice a raw.length cap, .string s0, .int .i64 v] w fun x w' => x = .returned (.bool true) ∧ Below w.heap.size w w' := by
  have K0 := Lib.hid (shown_c w hW)
  have KC := Lib.hid (fun W => cut_c s0 W)
  have KF := Lib.hid (fun W h => few_i a cap raw w W hR h)
  have hlen : (fewOf raw).length ≤ 1000 := by have := fewOf_len raw; omega
  generalize cut100 s0 = s at *
  generalize fewOf raw = l at *
  have K22 := Lib.hid (show ∀ (W : World) a' c', Below w.heap.size w W → OprsAt W.heap.size W a' l → Calls Tryd.prog 22 #[.slice a' l.length c', .string s] W fun x w' => x = .returned (.tuple #[.int .i64 (fndN l s), .int .i64 (fndE l s)]) ∧ OprsAt w'.heap.size w' a' l ∧ Below w.heap.size w w' from fun W a' c' h hO =>
    (find_c a' c' l s hlen W hO).mono (fun _ _ ⟨e, hb⟩ => ⟨e, oprs_on hO hb, btr h hb⟩))
  have K16 := Lib.hid (fun W => may_at 0 v false (mayB_role 0 v (by omega)) w W)
  have HB := Below.refl w.heap.size w
  have hone := fnd_one l s
  generalize fndN l s = n at *
  generalize fndE l s = e at *
  have HOne := Lib.hid hone
  generalize hL : l.length = L at *
  clear hW hR hone
  go_enter Tryd.func7, Tryd.ntmps7
  go_wp2_with (first
      | (go_at_call 8; with_reducible refine K0.out.mono ?_; rintro e wn ⟨rfl, hB⟩)
      | (go_at_call 9; with_reducible refine (KC.out _).mono ?_; rintro e wn ⟨rfl, rfl⟩)
      | (go_at_call 21; with_reducible refine (KF.out _ (by with_reducible assumption)).mono ?_; rintro e wn ⟨a', c', rfl, hO, hB⟩)
      | (go_at_call 22; with_reducible refine (K22.out _ _ _ (by with_reducible assumption) (by with_reducible assumption)).mono ?_; rintro e wn ⟨rfl, hO, hB⟩))
  rename_i hBw hOw
  have HO := Lib.hid hO
  have HBn := Lib.hid hB
  clear hO hB
  go_loopw [10, 11] (fun c i wr => ∃ k : Nat, k ≤ L ∧ i = .int .i64 k ∧ c = .bool (inB s n (l.take k)) ∧ Below wn.heap.size wn wr) (fun _ i _ => L - (intOf i).toNat)
  case atStart => exact ⟨0, Nat.zero_le _, rfl, by simp [inB], Below.refl _ _⟩
  case round =>
    obtain ⟨k, hk, rfl, rfl, hb⟩ := hrel
    by_cases hlt : k < L
    · have hk1 : k < l.length := by omega
      obtain ⟨b, off, rfl, hbz, p0, p1⟩ := (HO.out.below hb) k hk1
      have hlt' : (k : Int) < (L : Int) := by omega
      have hT := inB_snoc s n (l.take k) l[k]
      rw [← take_snoc l k hk1] at hT
      have HT := Lib.hid hT
      clear hT
      generalize l[k] = y at *
      have HBe := Lib.hid hb
      generalize inB s n (l.take k) = d at *
      clear hb
      cases d with
      | true =>
        go_wp2_with fail
        go_roundw
        case rel => exact ⟨k + 1, by omega, by go_num, by rw [HT.out]; rfl, HBe.out⟩
        case measure => simp [intOf]; omega
      | false =>
        by_cases hys : y.n = s
        · rw [hys] at p0
          have HY := Lib.hid hys
          generalize y.r = r at *
          clear hys
          go_wp2_with fail
          go_roundw
          case rel => exact ⟨k + 1, by omega, by go_num, by rw [HT.out, HY.out, decide_eq_true rfl, Bool.false_or, Bool.true_and]; first | rfl | congr 1, HBe.out⟩
          case measure => simp [intOf]; omega
        · have hne := toList_ne hys
          have HY := Lib.hid hys
          clear hys
          go_wp2_with fail
          go_roundw
          case rel => exact ⟨k + 1, by omega, by go_num, by rw [HT.out, decide_eq_false HY.out]; rfl, HBe.out⟩
          case measure => simp [intOf]; omega
    · obtain rfl : k = L := by omega
      have HBt := btr HBn.out hb
      rw [List.take_of_length_le (by omega)]
      rcases HOne.out with ⟨rfl, hin, h1, h3⟩ | ⟨rfl, rfl⟩
      · rw [inB_of hin]
        clear hin hb
        go_wp2_with fail
        go_ret
        exact ⟨rfl, by assumption⟩
      · generalize inB s 0 l = d
        clear hb
        go_wp2_with (go_at_call 16; with_reducible refine (K16.out _ (by with_reducible assumption)).mono ?_; rintro e wn ⟨rfl, hB⟩)
        go_ret
        exact ⟨rfl, by assumption⟩
end Go.Proofs.YtbkoldjblkbpeaaDoor
