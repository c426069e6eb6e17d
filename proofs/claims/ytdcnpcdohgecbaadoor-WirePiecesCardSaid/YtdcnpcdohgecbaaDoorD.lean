/- What kinds ask for: the map. -/
import Derived.Test.YtdcnpcdohgecbaaDoorC
namespace Go.Proofs.YtdcnpcdohgecbaaDoor
open Go.RowKit Go.Shelf
attribute [local go_sem] Oper.semAt_some

/-- A literal's entry, laid into a map of the call's own ('wpList_mapUpdate_own' at 'Op.insert'). -/
theorem wpList_insert_own {H : Type} {P : Program} (w : World) {ops : Array Oper} {rest : List Oper} {o : Oper} {a : Act} {Q : Exit → Act → World → Prop}
    (hg : o.guard = none) (m x v : Operand) (t : TypeId) (hop : o.op = Op.insert t m x v)
    (k e : TypeId) (K : Maps.Keyed P k) (ht : P.underlying t = some (.map k e)) (R : Value → Option (DataW H × List MemPlace)) (b n : Nat) (D : DataW H)
    (hm : a.eval m = .map (some b)) (hown : w.ownsMap P k R b n D) (hn : n < maxLen) (key val : Value) (kl : Lit) (hx : a.eval x = key) (hv : a.eval v = val) (hkey : keyOf P k key = some kl)
    (d : DataW H) (ps : List MemPlace) (hval : R val = some (d, ps))
    (hK : ∀ w', w'.ownsMap P k R b (n + 1) (D.put kl d) → w.grownBy w' (some b) → wpList P ops Q rest (a.put o.dst undef) w') :
    wpList P ops Q (o :: rest) a w := by
  refine wpList_plain hg fun K' hK' => ?_
  obtain ⟨w', hrun, r1, r2⟩ := hown.update K ht hn hkey hval
  unfold Oper.wp
  simp [execOp, hop, hm, hx, hv, hrun, Result.andThen]
  exact hK' _ _ (hK w' r1 r2)

/-- How the map's elements read: a number each. -/
def demR (v : Value) : Option (DataW Unit × List MemPlace) :=
  match v with
  | .agg x => match x.toList with
    | [.bool b, .func (.func f) a c] => if a.size = 0 ∧ c.size = 0 then some (.lit (.int .i64 (2 * (f : Int) + if b = true then 1 else 0)), []) else none
    | [.bool false, .nilFunc] => some (.lit (.int .i64 (-1)), [])
    | _ => none
  | _ => none
theorem demR_of {b : Bool} {f : Nat} {v : Value} {ps : List MemPlace} (h : demR v = some (.lit (.int .i64 (2 * (f : Int) + if b = true then 1 else 0)), ps)) : v = .agg #[.bool b, .func (.func f) #[] #[]] := by
  unfold demR at h
  split at h
  · rename_i x
    split at h
    · rename_i b2 f2 a c hx
      split at h
      · rename_i hac
        simp only [Option.some.injEq, Prod.mk.injEq, DataW.lit.injEq, Lit.int.injEq, true_and] at h
        have hn := h.1
        have ha : a = #[] := Array.eq_empty_of_size_eq_zero hac.1
        have hc : c = #[] := Array.eq_empty_of_size_eq_zero hac.2
        subst ha hc
        obtain ⟨g2, hg2⟩ : ∃ g : Nat, g = f2 := ⟨f2, rfl⟩
        have hn2 : (2 * (g2 : Int) + if b2 = true then 1 else 0) = 2 * (f : Int) + if b = true then 1 else 0 := by rw [hg2]; exact hn
        have hff : g2 = f ∧ b2 = b := by cases b <;> cases b2 <;> simp only [Bool.false_eq_true, if_true, if_false] at hn2 <;> (first | exact ⟨by omega, rfl⟩ | (exfalso; omega))
        obtain ⟨h1, rfl⟩ := hff
        obtain rfl : f2 = f := hg2.symm.trans h1
        have : x = #[.bool b2, .func (.func f2) #[] #[]] := by
          obtain ⟨l⟩ := x
          simp only at hx
          rw [hx]
        rw [this]
      · cases h
    · simp only [Option.some.injEq, Prod.mk.injEq, DataW.lit.injEq, Lit.int.injEq, true_and] at h
      have := h.1
      exfalso
      cases b <;> simp at this <;> omega
    · cases h
  · cases h
theorem law3 : Maps.Keyed Tryd.prog 3 := Maps.int_keyed Tryd.underlying3
def demC (b : Bool) (f : Nat) : DataW Unit := .lit (.int .i64 (2 * (f : Int) + if b = true then 1 else 0))
def demD : DataW Unit := (((((((((((((((((DataW.map [])).put (.int .i64 1) (demC false 45))).put (.int .i64 2) (demC false 46))).put (.int .i64 3) (demC true 45))).put (.int .i64 4) (demC true 47))).put (.int .i64 5) (demC true 48))).put (.int .i64 6) (demC true 49))).put (.int .i64 7) (demC true 49))).put (.int .i64 8) (demC false 50))
set_option maxRecDepth 100000 in
set_option maxHeartbeats 4000000 in
theorem demands_c (w : World) : Calls Tryd.prog 30 #[] w fun x w' => x = .returned (.map (some w.heap.size)) ∧ w'.ownsMap Tryd.prog 3 demR w.heap.size 8 demD ∧ Below w.heap.size w w' := by
  have hmm := @run_makeMap Tryd.prog
  go_enter Tryd.func30, Tryd.ntmps30
  go_wp2_with (first
    | (refine wpList_insert_own _ rfl (.tmp 1) (.const (.int .i64 1)) (.tmp 2) 59 rfl 3 57 law3 Tryd.underlying59 demR w.heap.size 0 (.map []) rfl (World.ownsMap_made _ _ _ _) (by unfold maxLen; omega) _ _ (.int .i64 1) rfl rfl (by kernel_rfl) (demC false 45) [] (by rfl) ?_; intro w1 h1 g1)
    | (refine wpList_insert_own _ rfl (.tmp 1) (.const (.int .i64 2)) (.tmp 3) 59 rfl 3 57 law3 Tryd.underlying59 demR w.heap.size 1 _ rfl h1 (by unfold maxLen; omega) _ _ (.int .i64 2) rfl rfl (by kernel_rfl) (demC false 46) [] (by rfl) ?_; intro w2 h2 g2)
    | (refine wpList_insert_own _ rfl (.tmp 1) (.const (.int .i64 3)) (.tmp 4) 59 rfl 3 57 law3 Tryd.underlying59 demR w.heap.size 2 _ rfl h2 (by unfold maxLen; omega) _ _ (.int .i64 3) rfl rfl (by kernel_rfl) (demC true 45) [] (by rfl) ?_; intro w3 h3 g3)
    | (refine wpList_insert_own _ rfl (.tmp 1) (.const (.int .i64 4)) (.tmp 5) 59 rfl 3 57 law3 Tryd.underlying59 demR w.heap.size 3 _ rfl h3 (by unfold maxLen; omega) _ _ (.int .i64 4) rfl rfl (by kernel_rfl) (demC true 47) [] (by rfl) ?_; intro w4 h4 g4)
    | (refine wpList_insert_own _ rfl (.tmp 1) (.const (.int .i64 5)) (.tmp 6) 59 rfl 3 57 law3 Tryd.underlying59 demR w.heap.size 4 _ rfl h4 (by unfold maxLen; omega) _ _ (.int .i64 5) rfl rfl (by kernel_rfl) (demC true 48) [] (by rfl) ?_; intro w5 h5 g5)
    | (refine wpList_insert_own _ rfl (.tmp 1) (.const (.int .i64 6)) (.tmp 7) 59 rfl 3 57 law3 Tryd.underlying59 demR w.heap.size 5 _ rfl h5 (by unfold maxLen; omega) _ _ (.int .i64 6) rfl rfl (by kernel_rfl) (demC true 49) [] (by rfl) ?_; intro w6 h6 g6)
    | (refine wpList_insert_own _ rfl (.tmp 1) (.const (.int .i64 7)) (.tmp 8) 59 rfl 3 57 law3 Tryd.underlying59 demR w.heap.size 6 _ rfl h6 (by unfold maxLen; omega) _ _ (.int .i64 7) rfl rfl (by kernel_rfl) (demC true 49) [] (by rfl) ?_; intro w7 h7 g7)
    | (refine wpList_insert_own _ rfl (.tmp 1) (.const (.int .i64 8)) (.tmp 9) 59 rfl 3 57 law3 Tryd.underlying59 demR w.heap.size 7 _ rfl h7 (by unfold maxLen; omega) _ _ (.int .i64 8) rfl rfl (by kernel_rfl) (demC false 50) [] (by rfl) ?_; intro w8 h8 g8))
  go_ret
  have b1 := ((Below.refl w.heap.size w).alloc (Nat.le_refl _) _).grown g1 (by simp) (fun j hj => by cases hj; exact Nat.le_refl _)
  have b2 := b1.grown g2 b1.size (fun j hj => by cases hj; exact Nat.le_refl _)
  have b3 := b2.grown g3 b2.size (fun j hj => by cases hj; exact Nat.le_refl _)
  have b4 := b3.grown g4 b3.size (fun j hj => by cases hj; exact Nat.le_refl _)
  have b5 := b4.grown g5 b4.size (fun j hj => by cases hj; exact Nat.le_refl _)
  have b6 := b5.grown g6 b5.size (fun j hj => by cases hj; exact Nat.le_refl _)
  have b7 := b6.grown g7 b6.size (fun j hj => by cases hj; exact Nat.le_refl _)
  have b8 := b7.grown g8 b7.size (fun j hj => by cases hj; exact Nat.le_refl _)
  exact ⟨rfl, h8, b8⟩
end Go.Proofs.YtdcnpcdohgecbaaDoor
