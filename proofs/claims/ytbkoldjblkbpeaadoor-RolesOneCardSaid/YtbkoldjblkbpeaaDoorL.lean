/- The document's own Ints: its contract; lists of numbers as lists. -/
import Derived.Test.YtbkoldjblkbpeaaDoorK
namespace Go.Proofs.YtbkoldjblkbpeaaDoor
open Go.RowKit Go.Shelf
attribute [local go_sem] Oper.semAt_some

/-- A slice's cells are these numbers. -/
def IntsA (w : World) (a : Option Addr) (l : List Int) : Prop := ∀ k, (h : k < l.length) → ∃ b, a = some ⟨b, 0, none⟩ ∧ w.cell? ⟨b, k, none⟩ = some (.int .i64 l[k])
theorem IntsA.on {a w : World} {v : Option Addr} {l : List Int} (h : IntsA a v l) (k : Below a.heap.size a w) : IntsA w v l := fun j hj => by
  obtain ⟨b, e, hc⟩ := h j hj
  exact ⟨b, e, (k.cell (p := ⟨b, j, none⟩) (blt hc)).trans hc⟩
theorem RowI.ints {w : World} {v : Value} {l : List Int} (h : RowI w v l) : ∃ a cap, v = .slice a l.length cap ∧ IntsA w a l := by
  rcases h with ⟨rfl, rfl⟩ | ⟨b, cap, rfl, hc⟩
  · exact ⟨none, 0, rfl, fun k hk => absurd hk (Nat.not_lt_zero _)⟩
  · exact ⟨_, cap, rfl, fun k hk => ⟨b, rfl, hc k hk⟩⟩
theorem list_ne_at {l1 l2 : List Int} {k : Nat} (h1 : k < l1.length) (h2 : k < l2.length) (h : l1[k] ≠ l2[k]) : l1 ≠ l2 := fun e => h (by subst e; rfl)
theorem list_eq_take {l1 l2 : List Int} {n : Nat} (h1 : l1.length = n) (h2 : l2.length = n) (h : l1.take n = l2.take n) : l1 = l2 := by
  rwa [List.take_of_length_le (by omega), List.take_of_length_le (by omega)] at h

set_option maxRecDepth 100000 in
set_option maxHeartbeats 2000000 in
theorem ints_c (a1 a2 : Option Addr) (c1 c2 : Nat) (l1 l2 : List Int) (hl1 : l1.length ≤ 1000) (w : World) (h1 : IntsA w a1 l1) (h2 : IntsA w a2 l2) :
    Calls Tryd.prog 18 #[.slice a1 l1.length c1, .slice a2 l2.length c2] w fun x w' => x = .returned (.bool (decide (l1 = l2))) ∧ Below w.heap.size w w' := by
  have HA := Lib.hid h1
  have HB := Lib.hid h2
  clear h1 h2
  by_cases hne : l1.length = l2.length
  · generalize hn1 : l1.length = n at *
    have hn2 : l2.length = n := hne.symm
    rw [hn2]
    clear hne
    go_enter Tryd.func18, Tryd.ntmps18
    go_wp2_with fail
    go_loopw [5] (fun i wr => ∃ k : Nat, k ≤ n ∧ i = .int .i64 k ∧ l1.take k = l2.take k ∧ Below w.heap.size w wr) (fun i _ => n - (intOf i).toNat)
    case atStart => exact ⟨0, Nat.zero_le _, rfl, by simp, Below.refl _ _⟩
    case round =>
      obtain ⟨k, hk, rfl, ht, hb⟩ := hrel
      by_cases hlt : k < n
      · have hk1 : k < l1.length := by omega
        have hk2 : k < l2.length := by omega
        obtain ⟨b1, rfl, q1⟩ := (HA.out.on hb) k hk1
        obtain ⟨b2, rfl, q2⟩ := (HB.out.on hb) k hk2
        have hlt' : (k : Int) < (n : Int) := by omega
        have HT1 := Lib.hid (show l1.take (k + 1) = l1.take k ++ [l1[k]] from List.take_succ_eq_append_getElem hk1)
        have HT2 := Lib.hid (show l2.take (k + 1) = l2.take k ++ [l2[k]] from List.take_succ_eq_append_getElem hk2)
        have HN := Lib.hid (list_ne_at hk1 hk2)
        have HT := Lib.hid ht
        have HBe := Lib.hid hb
        generalize l1[k] = x at *
        generalize l2[k] = y at *
        clear ht hb
        go_upto_region 6 with fail
        by_cases hxy : x = y
        · subst hxy
          clear HN
          go_quiet (fail)
          go_wp2_with fail
          go_roundw
          case rel => exact ⟨k + 1, by omega, by go_num, by rw [HT1.out, HT2.out, HT.out], below_drewN HBe.out _⟩
          case measure => simp [intOf]; omega
        · have hd : (x == y) = false := by simpa using hxy
          have e : decide (l1 = l2) = false := decide_eq_false (HN.out hxy)
          have E := Lib.hid e
          clear HN e
          go_quiet (fail)
          go_wp2_with fail
          go_ret
          exact ⟨ret_bool E.out.symm, below_drewN HBe.out _⟩
      · obtain rfl : k = n := by omega
        have E := Lib.hid (show decide (l1 = l2) = true from decide_eq_true (list_eq_take hn1 hn2 ht))
        have HBe := Lib.hid hb
        clear ht hb
        go_wp2_with fail
        go_ret
        exact ⟨ret_bool E.out.symm, HBe.out⟩
  · have e : decide (l1 = l2) = false := decide_eq_false (fun e => hne (by rw [e]))
    rw [e]
    generalize l1.length = n1 at *
    generalize l2.length = n2 at *
    have hne' : ¬ ((n1 : Int) = (n2 : Int)) := by omega
    clear e HA HB
    go_enter Tryd.func18, Tryd.ntmps18
    go_wp2_with fail
    go_ret
    exact ⟨rfl, Below.refl _ _⟩
end Go.Proofs.YtbkoldjblkbpeaaDoor
