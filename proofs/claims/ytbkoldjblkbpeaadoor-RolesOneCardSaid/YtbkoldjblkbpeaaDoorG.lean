/- The checks of one operator: their contracts. -/
import Derived.Test.YtbkoldjblkbpeaaDoorF
namespace Go.Proofs.YtbkoldjblkbpeaaDoor
open Go.RowKit Go.Shelf
attribute [local go_sem] Oper.semAt_some

/-- An operator: name and role. -/
structure Opr where
  n : ByteArray
  r : Int
  hs : n.size ≤ 1000
def opV (x : Opr) : Value := .agg #[.string x.n, .int .i64 x.r]
def nameOK (s : ByteArray) : Bool := !decide (s = ⟨#[]⟩) && wordOK s
def roleOK (r : Int) : Bool := decide (1 ≤ r ∧ r ≤ 3)
instance : DecidableEq Opr := fun a b => by
  cases a with
  | mk n r _ => cases b with
    | mk m q _ => exact if h : n = m ∧ r = q then isTrue (by obtain ⟨rfl, rfl⟩ := h; rfl) else isFalse (by intro e; cases e; exact h ⟨rfl, rfl⟩)

set_option maxRecDepth 100000 in
theorem hasName_c (s : ByteArray) (r : Int) (w : World) : Calls Tryd.prog 32 #[.agg #[.string s, .int .i64 r]] w fun x w' => x = .returned (.bool (nameOK s)) ∧ Below w.heap.size w w' := by
  unfold nameOK
  by_cases h : s = ⟨#[]⟩
  · subst h
    simp only [decide_true, Bool.not_true, Bool.false_and]
    go_enter Tryd.func32, Tryd.ntmps32
    go_wp2
    go_ret
    exact ⟨rfl, below_alloc _ _⟩
  · rw [decide_eq_false h]
    simp only [Bool.not_false, Bool.true_and]
    have HW := Lib.hid (fun W => wright_c s W)
    have hne := toList_ne h
    have hne2 : s.toList.isEmpty = false := by
      rw [ByteArray.toList_eq]
      cases hl : s.data.toList with
      | nil => exact absurd (ByteArray.ext (Array.toList_inj.1 hl)) h
      | cons _ _ => rfl
    generalize wordOK s = b at *
    go_enter Tryd.func32, Tryd.ntmps32
    go_wp2_with (go_at_call 39; refine (HW.out _).mono ?_; rintro x w1 ⟨rfl, hB⟩)
    go_ret
    exact ⟨rfl, btr (below_alloc _ _) hB⟩
theorem hasRole_c (s : ByteArray) (r : Int) (w : World) : Calls Tryd.prog 33 #[.agg #[.string s, .int .i64 r]] w fun x w' => x = .returned (.bool (roleOK r)) ∧ Below w.heap.size w w' := by
  by_cases h : 1 ≤ r
  · by_cases h' : r ≤ 3
    · have e : roleOK r = true := by simp only [roleOK, decide_eq_true_eq]; omega
      rw [e]
      clear e
      go_enter Tryd.func33, Tryd.ntmps33
      go_wp2
      go_ret
      exact ⟨ret_bool (by first | rfl | simp; omega), below_alloc _ _⟩
    · have e : roleOK r = false := by simp only [roleOK, decide_eq_false_iff_not]; omega
      rw [e]
      clear e
      go_enter Tryd.func33, Tryd.ntmps33
      go_wp2
      go_ret
      exact ⟨ret_bool (by first | rfl | simp; omega), below_alloc _ _⟩
  · have e : roleOK r = false := by simp only [roleOK, decide_eq_false_iff_not]; omega
    rw [e]
    clear e
    go_enter Tryd.func33, Tryd.ntmps33
    go_wp2
    go_ret
    exact ⟨ret_bool (by first | rfl | simp; omega), below_alloc _ _⟩

/-- The map of the names that were met. -/
def metD (l : List (List UInt8)) : DataW Unit := l.foldl (fun D x => D.put (.string x) (.lit (.bool true))) (.map [])
theorem metD_snoc (l : List (List UInt8)) (x : List UInt8) : metD (l ++ [x]) = (metD l).put (.string x) (.lit (.bool true)) := by simp [metD]
theorem snoc_ind {α : Type} {p : List α → Prop} (h0 : p []) (h1 : ∀ l x, p l → p (l ++ [x])) (l : List α) : p l := by
  have h : ∀ r : List α, p r.reverse := fun r => by
    induction r with
    | nil => exact h0
    | cons x r ih => rw [List.reverse_cons]; exact h1 _ _ ih
  have := h l.reverse
  rwa [List.reverse_reverse] at this
theorem metD_isMap (l : List (List UInt8)) : Maps.IsMap (metD l) := by
  refine snoc_ind (p := fun l => Maps.IsMap (metD l)) Maps.isMap_empty ?_ l
  intro l x ih
  rw [metD_snoc]; exact ih.put _ _
theorem metD_at (l : List (List UInt8)) (x : List UInt8) : (metD l).atKey (.string x) (.lit (.bool false)) = .lit (.bool (decide (x ∈ l))) := by
  refine snoc_ind (p := fun l => (metD l).atKey (.string x) (.lit (.bool false)) = .lit (.bool (decide (x ∈ l)))) ?_ ?_ l
  · simp [metD, DataW.atKey]
  · intro l y ih
    rw [metD_snoc]
    by_cases h : x = y
    · subst h
      rw [Maps.atKey_put_same (metD_isMap l) (show WideAt.IsKeyLit (.string x) from trivial)]
      simp
    · rw [Maps.atKey_put_other (by intro e; exact h (Lit.string.inj e)), ih]
      simp [h]
theorem bool_elem {H : Type} {P : Program} {e : TypeId} (he : P.underlying e = some .bool) {v : Value} {z : DataW H × List MemPlace} (h : plainElem P e v = some z) : ∃ c, v = .bool c ∧ z = (.lit (.bool c), []) := by
  unfold plainElem at h
  rw [he] at h
  cases v <;> simp at h
  exact ⟨_, rfl, h.symm⟩
theorem key_of {s : ByteArray} (h : s.size ≤ 1000) : keyOf Tryd.prog 9 (.string s) = some (.string s.data.toList) := WideMaps.keyOf_string_mk Tryd.underlying9 (by unfold maxLen; omega)
theorem met_look {W : World} {b n : Nat} {l : List (List UInt8)} (h : W.ownsMap Tryd.prog 9 (plainElem (H := Unit) Tryd.prog 4) b n (metD l)) (x : ByteArray) (hx : x.size ≤ 1000) :
    (Instr.lookup 61 (.map (some b)) (.string x) false).run Tryd.prog W = .ok (.bool (decide (x.data.toList ∈ l))) W := by
  obtain ⟨v, ps, hrun, hv⟩ := h.lookup law9 Tryd.underlying61 (z := .bool false) (by kernel_rfl) (plainElem_bool Tryd.underlying4 false) (key_of hx)
  rw [metD_at] at hv
  obtain ⟨c, rfl, hc⟩ := bool_elem Tryd.underlying4 hv
  simp only [Prod.mk.injEq, DataW.lit.injEq, Lit.bool.injEq] at hc
  rw [hrun, hc.1]

set_option maxRecDepth 100000 in
set_option maxHeartbeats 2000000 in
theorem isNew_c (s : ByteArray) (r : Int) (hs : s.size ≤ 1000) (b : Nat) (l : List (List UInt8)) (n : Nat) (hn : n ≤ 1000) (w : World) (hM : w.ownsMap Tryd.prog 9 (plainElem (H := Unit) Tryd.prog 4) b n (metD l)) :
    Calls Tryd.prog 34 #[.map (some b), .agg #[.string s, .int .i64 r]] w fun x w' => x = .returned (.bool (!decide (s.data.toList ∈ l))) ∧ w'.ownsMap Tryd.prog 9 (plainElem (H := Unit) Tryd.prog 4) b (n + 1) (metD (l ++ [s.data.toList])) ∧
      (w.alloc (.cells #[.string s, .int .i64 r] 56)).grownBy w' (some b) := by
  have hM1 : (w.alloc (.cells #[.string s, .int .i64 r] 56)).ownsMap Tryd.prog 9 (plainElem (H := Unit) Tryd.prog 4) b n (metD l) := hM.kept (World.grownBy_alloc w _ none) (fun e => by cases e)
  have hlook := met_look hM1 s hs
  have hsn := metD_snoc l s.data.toList
  go_enter Tryd.func34, Tryd.ntmps34
  go_wp2_with (at_mapUpdate; go_loud (refine wpList_mapUpdate_own _ rfl _ _ _ 61 rfl 9 4 law9 Tryd.underlying61 (plainElem (H := Unit) Tryd.prog 4) b _ _ rfl hM1 (by unfold maxLen; omega) (.string s) (.bool true) (.string s.data.toList) rfl rfl (key_of hs) (.lit (.bool true)) [] (plainElem_bool Tryd.underlying4 true) ?_; intro w2 h2 g2))
  go_ret
  exact ⟨rfl, by rw [hsn]; exact h2, g2⟩
end Go.Proofs.YtbkoldjblkbpeaaDoor
