/- The law's function RolesBack: it returns true. -/
import Derived.Test.YtbkoldjblkbpeaaDoorM
namespace Go.Proofs.YtbkoldjblkbpeaaDoor
open Go.RowKit Go.Shelf
attribute [local go_sem] Oper.semAt_some

theorem wordB_size : ∀ i : Fin 10, (wordB i.val).size ≤ 7 := by decide +kernel
theorem back_word (n : Int) : (wE n = 0 ∧ vE (wW n) = 0 ∧ vN (wW n) = n) ∨ (wE n = 121 ∧ wW n = ⟨#[]⟩) := by
  by_cases h : 1 ≤ n ∧ n ≤ 10
  · obtain ⟨k, rfl⟩ : ∃ k : Nat, n = k := ⟨n.toNat, by omega⟩
    have hw : wW (k : Int) = wordB (⟨k - 1, by omega⟩ : Fin 10).val := by
      unfold wW; rw [if_pos h]; congr 1; simp
    have hv := v_some (vO_word ⟨k - 1, by omega⟩)
    refine .inl ⟨by unfold wE; rw [if_pos h], by rw [hw]; exact hv.2, by rw [hw, hv.1]; simp; omega⟩
  · exact .inr ⟨by unfold wE; rw [if_neg h], by unfold wW; rw [if_neg h]⟩
theorem vO_eq {s : ByteArray} {x : Fin 10} (h : vO s = some x) : wordB x.val = s := by
  have := List.find?_some h
  simpa using this
theorem back_verb (s : ByteArray) : (vE s = 0 ∧ wE (vN s) = 0 ∧ wW (vN s) = s) ∨ (vE s = 121 ∧ vN s = 0) := by
  cases h : vO s with
  | none => exact .inr ⟨(v_none h).2, (v_none h).1⟩
  | some x =>
    have hv := v_some h
    have hx := vO_eq h
    have hr : (1 : Int) ≤ (x.val : Int) + 1 ∧ (x.val : Int) + 1 ≤ 10 := by have := x.isLt; omega
    refine .inl ⟨hv.2, by rw [hv.1]; unfold wE; rw [if_pos hr], ?_⟩
    rw [hv.1, ← hx]
    unfold wW
    rw [if_pos hr]
    congr 1
    omega

set_option maxRecDepth 100000 in
set_option maxHeartbeats 4000000 in
theorem rolesBack_walk (n : Int) (s0 s : ByteArray) (t : ByteArray) (e v f q g : Int) (u : ByteArray) (h : Int) (w : World)
    (C0 : Calls Tryd.prog 8 #[] w fun x w' => x = .returned (.bool true) ∧ Below w.heap.size w w')
    (CC : ∀ W : World, Calls Tryd.prog 9 #[.string s0] W fun x w' => x = .returned (.string s) ∧ W = w')
    (C1 : ∀ W, Below w.heap.size w W → Calls Tryd.prog 14 #[.int .i64 n] W fun x w' => x = .returned (.tuple #[.string t, .int .i64 e]) ∧ W = w')
    (C2 : ∀ W, Below w.heap.size w W → Calls Tryd.prog 12 #[.string t] W fun x w' => x = .returned (.tuple #[.int .i64 v, .int .i64 f]) ∧ Below w.heap.size w w')
    (C3 : ∀ W, Below w.heap.size w W → Calls Tryd.prog 12 #[.string s] W fun x w' => x = .returned (.tuple #[.int .i64 q, .int .i64 g]) ∧ Below w.heap.size w w')
    (C4 : ∀ W, Below w.heap.size w W → Calls Tryd.prog 14 #[.int .i64 q] W fun x w' => x = .returned (.tuple #[.string u, .int .i64 h]) ∧ W = w')
    (hA : (e = 0 ∧ f = 0 ∧ v = n) ∨ (e = 121 ∧ t = ⟨#[]⟩)) (hB : (g = 0 ∧ h = 0 ∧ u = s) ∨ (g = 121 ∧ q = 0)) :
    Calls Tryd.prog 6 #[.int .i64 n, .string s0] w fun x w' => x = .returned (.bool true) ∧ Below w.heap.size w w' := by
  have K0 := Lib.hid C0
  have KC := Lib.hid CC
  have K1 := Lib.hid C1
  have K2 := Lib.hid C2
  have K3 := Lib.hid C3
  have K4 := Lib.hid C4
  have HB := Below.refl w.heap.size w
  clear C0 CC C1 C2 C3 C4
  rcases hA with ⟨rfl, rfl, rfl⟩ | ⟨rfl, rfl⟩ <;> rcases hB with ⟨rfl, rfl, rfl⟩ | ⟨rfl, rfl⟩
  all_goals
    go_enter Tryd.func6, Tryd.ntmps6
    go_wp2_with (first
      | (go_at_call 8; with_reducible refine K0.out.mono ?_; rintro e wn ⟨rfl, hB⟩)
      | (go_at_call 9; with_reducible refine (KC.out _).mono ?_; rintro e wn ⟨rfl, rfl⟩)
      | (go_at_call 14; with_reducible refine (K1.out _ (by with_reducible assumption)).mono ?_; rintro e wn ⟨rfl, rfl⟩; clear K1)
      | (go_at_call 12; with_reducible refine (K2.out _ (by with_reducible assumption)).mono ?_; rintro e wn ⟨rfl, hB⟩; clear K2)
      | (go_at_call 12; with_reducible refine (K3.out _ (by with_reducible assumption)).mono ?_; rintro e wn ⟨rfl, hB⟩; clear K3)
      | (go_at_call 14; with_reducible refine (K4.out _ (by with_reducible assumption)).mono ?_; rintro e wn ⟨rfl, rfl⟩; clear K4))
    go_ret
    exact ⟨rfl, by assumption⟩

theorem rolesBack_c (n : Int) (s : ByteArray) (w : World) (hW : Wd w) : Calls Tryd.prog 6 #[.int .i64 n, .string s] w fun x w' => x = .returned (.bool true) ∧ Below w.heap.size w w' :=
  rolesBack_walk n s (cut100 s) (wW n) (wE n) (vN (wW n)) (vE (wW n)) (vN (cut100 s)) (vE (cut100 s)) (wW (vN (cut100 s))) (wE (vN (cut100 s))) w (shown_c w hW) (cut_c s)
    (fun W h => word_c n W (hW.on h)) (fun W h => (verb_c _ W (hW.on h)).mono (fun _ _ ⟨a, b⟩ => ⟨a, btr h b⟩)) (fun W h => (verb_c _ W (hW.on h)).mono (fun _ _ ⟨a, b⟩ => ⟨a, btr h b⟩)) (fun W h => word_c _ W (hW.on h))
    (back_word n) (back_verb _)
end Go.Proofs.YtbkoldjblkbpeaaDoor
