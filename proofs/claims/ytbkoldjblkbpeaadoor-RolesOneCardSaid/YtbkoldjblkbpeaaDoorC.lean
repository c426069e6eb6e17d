/- everyVerb: its iterator's contract. -/
import Derived.Test.YtbkoldjblkbpeaaDoorB
namespace Go.Proofs.YtbkoldjblkbpeaaDoor
open Go.RowKit Go.Shelf
attribute [local go_sem] Oper.semAt_some

def encV (x : Fin 10) : Array Value := #[.int .i64 ((x.val : Int) + 1)]
theorem allV_at (k : Nat) (h : k < 10) : ∃ h' : k < allV.length, (allV[k]'h').val = k := by
  have : ∀ k : Fin 10, (allV[k.val]'(by have := k.isLt; exact this)).val = k.val := by decide
  exact ⟨h, this ⟨k, h⟩⟩

set_option maxRecDepth 100000 in
set_option maxHeartbeats 1000000 in
theorem every1_in (F : Fence) (n : Nat) (h36 : F.fn 36) (hro : F.round = none) (hn : 1 ≤ n) (l : Nat) (J Jx : List (Fin 10) → World → Prop)
    (hY : ∀ pre x W, J pre W → pre.length < 10 → YieldAt F (n - 1) Tryd.prog l (encV x) W fun e W' =>
      (e = .returned (.bool true) ∧ J (pre ++ [x]) W' ∧ True) ∨ (e = .returned (.bool false) ∧ Jx (pre ++ [x]) W'))
    (W : World) (h0 : J [] W) :
    CallsIn F n Tryd.prog 36 #[.func (.yield l) #[] #[]] W fun e W' => (∃ v, e = .returned v) ∧
      ((∃ ys, ys = allV ∧ J ys W') ∨ (∃ pre, pre <+: allV ∧ Jx pre W')) := by
  refine callsIn_of_wp Tryd.func36 rfl h36 ?_ hro
  simp only [Tryd.ntmps36, List.size_toArray, List.length_cons, List.length_nil, Nat.reduceAdd, Nat.reduceSub, Array.replicate_succ, Array.replicate_zero, List.push_toArray, List.append_toArray, List.nil_append, List.cons_append]
  gi_wp2
  gi_loopw [3] (fun i wr => ∃ k : Nat, k ≤ 10 ∧ i = .int .i64 k ∧ J (allV.take k) wr)
    (fun i _ => 10 - (intOf i).toNat)
  case atStart => exact ⟨0, Nat.zero_le _, rfl, h0⟩
  case round =>
    obtain ⟨k, hk, rfl, hJs⟩ := hrel
    by_cases hlt : k < 10
    · obtain ⟨hlt', hv⟩ := allV_at k hlt
      obtain ⟨fn, tmps, assign, body, hy, hR⟩ := hY _ (allV[k]'hlt') wr hJs (by rw [List.length_take]; omega)
      have HJ := Lib.hid (show allV.take (k + 1) = allV.take k ++ [allV[k]'hlt'] from List.take_succ_eq_append_getElem hlt')
      generalize allV[k]'hlt' = x at *
      simp only [encV, hv] at hy
      clear hlt'
      gi_wp2
      refine hR.mono ?_
      rintro e W3 (⟨rfl, hJ3, -⟩ | ⟨rfl, hJx3⟩)
      · gi_wp2
        go_roundw
        case rel => exact ⟨k + 1, by omega, by simp, by rw [HJ.out]; exact hJ3⟩
        case measure => simp [intOf]; omega
      · gi_wp2
        refine bodyPost_ret (results_none rfl _ _ _) rfl ?_
        exact ⟨⟨_, rfl⟩, .inr ⟨_, by rw [← HJ.out]; exact List.take_prefix _ _, hJx3⟩⟩
    · obtain rfl : k = 10 := by omega
      gi_wp2
      go_end0
      exact ⟨⟨_, rfl⟩, .inl ⟨_, rfl, hJs⟩⟩

theorem every_stops (F : Fence) (n : Nat) (h36 : F.fn 36) (hro : F.round = none) (hn : 1 ≤ n) (w : World) :
    SeqStopsK F n Tryd.prog 36 #[] encV (fun _ _ => True) (fun ys => ys = allV) (fun pre => pre <+: allV) 10 w := fun l J Jx W _ _ _ hY h0 =>
  every1_in F n h36 hro hn l J Jx hY W h0
theorem every_c (w : World) : Calls Tryd.prog 26 #[] w fun x w' => x = .returned (.func (.func 36) #[] #[]) ∧ w = w' := by
  go_enter Tryd.func26, Tryd.ntmps26
  go_wp2
  go_ret
  exact ⟨rfl, rfl⟩
end Go.Proofs.YtbkoldjblkbpeaaDoor
