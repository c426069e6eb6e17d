/- The document's own Word, Role, Verb, May: their contracts. -/
import Derived.Test.YtbkoldjblkbpeaaDoorU
import Derived.Test.YtbkoldjblkbpeaaDoorN
namespace Go.Proofs.YtbkoldjblkbpeaaDoor
open Go.RowKit Go.Shelf
attribute [local go_sem] Oper.semAt_some

set_option maxHeartbeats 4000000 in
theorem refWord_c (n : Int) (w : World) (hW : Rd w) : Calls Tryd.prog 15 #[.int .i64 n] w fun x w' => x = .returned (.tuple #[.string (wW n), .int .i64 (wE n)]) ∧ w = w' := by
  unfold wW wE
  by_cases h1 : 1 ≤ n
  · by_cases h2 : n ≤ 10
    · rw [if_pos ⟨h1, h2⟩, if_pos ⟨h1, h2⟩]
      have hc := hW.1 (n - 1).toNat (by omega)
      generalize wordB (n - 1).toNat = s at *
      clear hW
      obtain rfl | rfl | rfl | rfl | rfl | rfl | rfl | rfl | rfl | rfl : n = 1 ∨ n = 2 ∨ n = 3 ∨ n = 4 ∨ n = 5 ∨ n = 6 ∨ n = 7 ∨ n = 8 ∨ n = 9 ∨ n = 10 := by omega
      all_goals
        simp only [Int.reduceSub, Int.reduceToNat, Int.toNat_zero, Int.sub_self] at hc
        go_enter Tryd.func15, Tryd.ntmps15
        go_wp2
        go_ret2
        exact ⟨rfl, rfl⟩
    · rw [if_neg (fun h => h2 h.2), if_neg (fun h => h2 h.2)]
      clear hW
      go_enter Tryd.func15, Tryd.ntmps15
      go_wp2
      go_ret2
      exact ⟨rfl, rfl⟩
  · rw [if_neg (fun h => h1 h.1), if_neg (fun h => h1 h.1)]
    clear hW
    go_enter Tryd.func15, Tryd.ntmps15
    go_wp2
    go_ret2
    exact ⟨rfl, rfl⟩

theorem lit_ne (l : List UInt8) {s : ByteArray} (h : s ≠ ⟨l.toArray⟩) : (l == s.toList) = false := by
  rw [beq_eq_false_iff_ne, ByteArray.toList_eq]
  intro e
  exact h (ByteArray.ext (Array.toList_inj.1 e.symm))
theorem allV_mem (i : Nat) (h : i < 10) : (⟨i, h⟩ : Fin 10) ∈ allV := by
  have : ∀ x : Fin 10, x ∈ allV := by decide
  exact this _
/-- No word up to k is this one: none is but a later one. -/
theorem vO_at {s : ByteArray} {k : Nat} (hk : k < 10) (h : wordB k = s) : vN s = (k : Int) + 1 ∧ vE s = 0 := v_some (vO_of (x := ⟨k, hk⟩) h)
theorem vO_no {s : ByteArray} (h : ∀ i, i < 10 → wordB i ≠ s) : vN s = 0 ∧ vE s = 121 := v_none (vO_not fun x _ => h x.val x.isLt)

set_option maxRecDepth 100000 in
set_option maxHeartbeats 4000000 in
theorem refVerb_c (s : ByteArray) (w : World) (hW : Rd w) : Calls Tryd.prog 13 #[.string s] w fun x w' => x = .returned (.tuple #[.int .i64 (vN s), .int .i64 (vE s)]) ∧ w = w' := by
  have HW := Lib.hid hW.1
  clear hW
  have HA := Lib.hid (fun k hk h => vO_at (s := s) (k := k) hk h)
  have HN := Lib.hid (fun h => vO_no (s := s) h)
  generalize vN s = n at *
  generalize vE s = e at *
  go_enter Tryd.func13, Tryd.ntmps13
  go_wp2
  go_loop [4] (fun i => ∃ k : Nat, k ≤ 10 ∧ i = .int .i64 (k : Int) ∧ ∀ j, j < k → wordB j ≠ s) (fun i => 10 - (intOf i).toNat)
  case atStart => exact ⟨0, Nat.zero_le _, rfl, fun j hj => absurd hj (Nat.not_lt_zero _)⟩
  case round =>
    obtain ⟨k, hk, rfl, hx⟩ := hrel
    by_cases hlt : k < 10
    · have hc := HW.out k hlt
      have hlt' : (k : Int) < 10 := by omega
      by_cases he : wordB k = s
      · obtain ⟨rfl, rfl⟩ := HA.out k hlt he
        rw [he] at hc
        clear hx he
        go_wp2
        go_ret2
        exact ⟨rfl, rfl⟩
      · have HX := Lib.hid hx
        have HE := Lib.hid he
        have hne := toList_ne he
        generalize wordB k = t at hc hne
        clear hx he
        go_wp2
        go_round
        case rel => exact ⟨k + 1, by omega, by go_num, fun j hj => by
          by_cases hjk : j < k
          · exact HX.out j hjk
          · obtain rfl : j = k := by omega
            exact HE.out⟩
        case measure => simp [intOf]; omega
    · obtain rfl : k = 10 := by omega
      obtain ⟨rfl, rfl⟩ := HN.out hx
      clear hx
      go_wp2
      go_ret2
      exact ⟨rfl, rfl⟩

theorem rN_cases (s : ByteArray) : (s = ⟨#[118, 105, 101, 119, 101, 114]⟩ ∧ rN s = 1 ∧ rE s = 0) ∨ (s = ⟨#[107, 101, 101, 112, 101, 114]⟩ ∧ rN s = 2 ∧ rE s = 0) ∨ (s = ⟨#[103, 111, 118, 101, 114, 110, 111, 114]⟩ ∧ rN s = 3 ∧ rE s = 0) ∨
    (s ≠ ⟨#[118, 105, 101, 119, 101, 114]⟩ ∧ s ≠ ⟨#[107, 101, 101, 112, 101, 114]⟩ ∧ s ≠ ⟨#[103, 111, 118, 101, 114, 110, 111, 114]⟩ ∧ rN s = 0 ∧ rE s = 120) := by
  by_cases h1 : s = ⟨#[118, 105, 101, 119, 101, 114]⟩
  · subst h1; exact .inl ⟨rfl, by decide +kernel, by decide +kernel⟩
  · by_cases h2 : s = ⟨#[107, 101, 101, 112, 101, 114]⟩
    · subst h2; exact .inr (.inl ⟨rfl, by decide +kernel, by decide +kernel⟩)
    · by_cases h3 : s = ⟨#[103, 111, 118, 101, 114, 110, 111, 114]⟩
      · subst h3; exact .inr (.inr (.inl ⟨rfl, by decide +kernel, by decide +kernel⟩))
      · have hr : rN s = 0 := by
          unfold rN
          rw [if_neg (fun e => h3 (ByteArray.ext (Array.toList_inj.1 e))), if_neg (fun e => h2 (ByteArray.ext (Array.toList_inj.1 e))), if_neg (fun e => h1 (ByteArray.ext (Array.toList_inj.1 e)))]
        exact .inr (.inr (.inr ⟨h1, h2, h3, hr, by unfold rE; rw [hr]; rfl⟩))

set_option maxRecDepth 100000 in
set_option maxHeartbeats 4000000 in
theorem refRole_c (s : ByteArray) (w : World) (hW : Rd w) : Calls Tryd.prog 11 #[.string s] w fun x w' => x = .returned (.tuple #[.int .i64 (rN s), .int .i64 (rE s)]) ∧ w = w' := by
  have c0 : w.cell? ⟨0, 0, none⟩ = some (.string ⟨#[118, 105, 101, 119, 101, 114]⟩) := hW.2 0 (by omega)
  have c1 : w.cell? ⟨0, 1, none⟩ = some (.string ⟨#[107, 101, 101, 112, 101, 114]⟩) := hW.2 1 (by omega)
  have c2 : w.cell? ⟨0, 2, none⟩ = some (.string ⟨#[103, 111, 118, 101, 114, 110, 111, 114]⟩) := hW.2 2 (by omega)
  clear hW
  rcases rN_cases s with ⟨h, e1, e2⟩ | ⟨h, e1, e2⟩ | ⟨h, e1, e2⟩ | ⟨h1, h2, h3, e1, e2⟩
  · rw [e1, e2]
    subst h
    clear e1 e2
    go_enter Tryd.func11, Tryd.ntmps11
    go_wp2
    refine wp_loop_rounds 4 ?_
    rw [rounds_succ]
    go_wp2
    go_ret2
    exact ⟨rfl, rfl⟩
  · rw [e1, e2]
    subst h
    clear e1 e2
    go_enter Tryd.func11, Tryd.ntmps11
    go_wp2
    refine wp_loop_rounds 4 ?_
    rw [rounds_succ]
    go_wp2
    rw [rounds_succ]
    go_wp2
    go_ret2
    exact ⟨rfl, rfl⟩
  · rw [e1, e2]
    subst h
    clear e1 e2
    go_enter Tryd.func11, Tryd.ntmps11
    go_wp2
    refine wp_loop_rounds 4 ?_
    rw [rounds_succ]
    go_wp2
    rw [rounds_succ]
    go_wp2
    rw [rounds_succ]
    go_wp2
    go_ret2
    exact ⟨rfl, rfl⟩
  · rw [e1, e2]
    clear e1 e2
    have n1 := lit_ne [118, 105, 101, 119, 101, 114] h1
    have n2 := lit_ne [107, 101, 101, 112, 101, 114] h2
    have n3 := lit_ne [103, 111, 118, 101, 114, 110, 111, 114] h3
    clear h1 h2 h3
    go_enter Tryd.func11, Tryd.ntmps11
    go_wp2
    refine wp_loop_rounds 5 ?_
    rw [rounds_succ]
    go_wp2
    rw [rounds_succ]
    go_wp2
    rw [rounds_succ]
    go_wp2
    rw [rounds_succ]
    go_wp2
    go_ret2
    exact ⟨rfl, rfl⟩

end Go.Proofs.YtbkoldjblkbpeaaDoor
