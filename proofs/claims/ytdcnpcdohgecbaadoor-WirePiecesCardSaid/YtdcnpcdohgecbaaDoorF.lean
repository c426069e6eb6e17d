/- Right: its contract. -/
import Derived.Test.YtdcnpcdohgecbaaDoorD
import Derived.Laws.EntriesVeiled
namespace Go.Proofs.YtdcnpcdohgecbaaDoor
open Go.RowKit Go.Shelf
attribute [local go_sem] Oper.semAt_some

theorem demR_zero {v : Value} {ps : List MemPlace} (h : demR v = some (.lit (.int .i64 (-1)), ps)) : v = .agg #[.bool false, .nilFunc] := by
  unfold demR at h
  split at h
  · rename_i x
    split at h
    · rename_i b2 f2 a c hx
      split at h
      · simp only [Option.some.injEq, Prod.mk.injEq, DataW.lit.injEq, Lit.int.injEq, true_and] at h
        obtain ⟨g2, hg2⟩ : ∃ g : Nat, g = f2 := ⟨f2, rfl⟩
        have hn2 : (2 * (g2 : Int) + if b2 = true then 1 else 0) = -1 := by rw [hg2]; exact h.1
        exfalso
        split at hn2 <;> omega
      · cases h
    · rename_i hx
      have : x = #[.bool false, .nilFunc] := by
        obtain ⟨l⟩ := x
        simp only at hx
        rw [hx]
      rw [this]
    · cases h
  · cases h
/-- What a kind asks for: whether a stream, and of its data. -/
def demOf (k : Int) : Option (Bool × Nat) :=
  if k = 1 then some (false, 45)
  else if k = 2 then some (false, 46)
  else if k = 3 then some (true, 45)
  else if k = 4 then some (true, 47)
  else if k = 5 then some (true, 48)
  else if k = 6 then some (true, 49)
  else if k = 7 then some (true, 49)
  else if k = 8 then some (false, 50)
  else none
def rightW (k st : Int) (n : Nat) : Bool := match demOf k with
  | none => false
  | some (b, f) => (decide (0 ≤ st) && decide (st ≤ 65535)) && ((b == decide (0 < st)) && payB f n)
theorem dem_look {W : World} {b : Nat} (h : W.ownsMap Tryd.prog 3 demR b 8 demD) (k : Int) (hk : (Lit.int .i64 k).wf = true) :
    (demOf k = none ∧ (Instr.lookup 59 (.map (some b)) (.int .i64 k) true).run Tryd.prog W = .ok (.tuple #[.agg #[.bool false, .nilFunc], .bool false]) W) ∨
    (∃ bb f, demOf k = some (bb, f) ∧ (Instr.lookup 59 (.map (some b)) (.int .i64 k) true).run Tryd.prog W = .ok (.tuple #[.agg #[.bool bb, .func (.func f) #[] #[]], .bool true]) W) := by
  obtain ⟨v, ps, hrun, hv⟩ := h.look_ok law3 Tryd.underlying59 (z := .agg #[.bool false, .nilFunc]) (by kernel_rfl) (zd := .lit (.int .i64 (-1))) (zp := []) rfl (key := .int .i64 k) (kl := .int .i64 k) (Maps.keyOf_int_mk Tryd.underlying3 hk)
  by_cases h1 : k = 1
  · subst h1
    have hv' : demR v = some (demC false 45, ps) := hv
    rw [demR_of hv'] at hrun
    exact .inr ⟨false, 45, rfl, hrun⟩
  · skip
    by_cases h2 : k = 2
    · subst h2
      have hv' : demR v = some (demC false 46, ps) := hv
      rw [demR_of hv'] at hrun
      exact .inr ⟨false, 46, rfl, hrun⟩
    · skip
      by_cases h3 : k = 3
      · subst h3
        have hv' : demR v = some (demC true 45, ps) := hv
        rw [demR_of hv'] at hrun
        exact .inr ⟨true, 45, rfl, hrun⟩
      · skip
        by_cases h4 : k = 4
        · subst h4
          have hv' : demR v = some (demC true 47, ps) := hv
          rw [demR_of hv'] at hrun
          exact .inr ⟨true, 47, rfl, hrun⟩
        · skip
          by_cases h5 : k = 5
          · subst h5
            have hv' : demR v = some (demC true 48, ps) := hv
            rw [demR_of hv'] at hrun
            exact .inr ⟨true, 48, rfl, hrun⟩
          · skip
            by_cases h6 : k = 6
            · subst h6
              have hv' : demR v = some (demC true 49, ps) := hv
              rw [demR_of hv'] at hrun
              exact .inr ⟨true, 49, rfl, hrun⟩
            · skip
              by_cases h7 : k = 7
              · subst h7
                have hv' : demR v = some (demC true 49, ps) := hv
                rw [demR_of hv'] at hrun
                exact .inr ⟨true, 49, rfl, hrun⟩
              · skip
                by_cases h8 : k = 8
                · subst h8
                  have hv' : demR v = some (demC false 50, ps) := hv
                  rw [demR_of hv'] at hrun
                  exact .inr ⟨false, 50, rfl, hrun⟩
                · skip
                  have hfind : ∀ zd, demD.atKey (.int .i64 k) zd = zd := fun zd => by
                    have e : demD = .map [(.int .i64 1, demC false 45), (.int .i64 2, demC false 46), (.int .i64 3, demC true 45), (.int .i64 4, demC true 47), (.int .i64 5, demC true 48), (.int .i64 6, demC true 49), (.int .i64 7, demC true 49), (.int .i64 8, demC false 50)] := by rfl
                    rw [e]
                    have hs : ∀ j : Int, ¬ k = j → (Lit.int .i64 j).sameKey (.int .i64 k) = false := fun j hj => by simp [Lit.sameKey]; omega
                    simp [DataW.atKey, hs 1 h1, hs 2 h2, hs 3 h3, hs 4 h4, hs 5 h5, hs 6 h6, hs 7 h7, hs 8 h8]
                  rw [hfind] at hv
                  rw [demR_zero hv, Maps.has_false_of_atKey hfind] at hrun
                  exact .inl ⟨by simp [demOf, h1, h2, h3, h4, h5, h6, h7, h8], hrun⟩

set_option maxRecDepth 100000 in
set_option maxHeartbeats 4000000 in
theorem right_no (k st : Int) (s : ByteArray) (hk : (Lit.int .i64 k).wf = true) (hd : demOf k = none) (w : World) : Calls Tryd.prog 19 #[.agg #[.int .i64 k, .int .i64 st, .string s]] w fun x w' => x = .returned (.bool false) ∧ Below w.heap.size w w' := by
  have HD := Lib.hid (fun W => demands_c W)
  have HLK := Lib.hid (show ∀ (W : World) (b : Nat), W.ownsMap Tryd.prog 3 demR b 8 demD → _ from fun W b h => (dem_look h k hk).resolve_right (fun ⟨_, _, e, _⟩ => by rw [hd] at e; cases e))
  clear hk hd
  go_enter Tryd.func19, Tryd.ntmps19
  go_wp2_with fail
  have k0 : (w.alloc (.cells #[.int .i64 k, .int .i64 st, .string s] 23)).cell? ⟨w.heap.size, 0, none⟩ = some (.int .i64 k) := by go_simp
  have k1 : (w.alloc (.cells #[.int .i64 k, .int .i64 st, .string s] 23)).cell? ⟨w.heap.size, 1, none⟩ = some (.int .i64 st) := by go_simp
  have k2 : (w.alloc (.cells #[.int .i64 k, .int .i64 st, .string s] 23)).cell? ⟨w.heap.size, 2, none⟩ = some (.string s) := by go_simp
  have HA := Lib.hid (below_alloc w (.cells #[.int .i64 k, .int .i64 st, .string s] 23))
  generalize (w.alloc (.cells #[.int .i64 k, .int .i64 st, .string s] 23)) = U at *
  have hzU : w.heap.size < U.heap.size := blt k0
  go_region_with (go_at_call 30; refine (HD.out _).mono ?_; rintro e w1 ⟨rfl, hown, hb⟩; first | (have hlk := (HLK.out w1 U.heap.size hown).2; have hlk2 := (HLK.out (w1.alloc (.cells #[.bool false, .nilFunc] 57)) U.heap.size (hown.alloc _)).2; have HB : Below U.heap.size U w1 := (below_drew (Below.refl U.heap.size U)).trans hb; have p0 := (HB.cell (p := ⟨w.heap.size, 0, none⟩) (blt k0)).trans k0; have p1 := (HB.cell (p := ⟨w.heap.size, 1, none⟩) (blt k1)).trans k1; have p2 := (HB.cell (p := ⟨w.heap.size, 2, none⟩) (blt k2)).trans k2; have hsz : U.heap.size < w1.heap.size := hown.lt; have hsz2 : w.heap.size < w1.heap.size := (by omega); clear hown hb) | (have hlk := (HLK.out w1 (U.heap.size + 1) (by simpa using hown)).2; have HX : Below U.heap.size U ((U.alloc (.cells #[.bool false, .nilFunc] 57)).drew) := below_drew (below_alloc _ _); have hb' : Below ((U.alloc (.cells #[.bool false, .nilFunc] 57)).drew).heap.size ((U.alloc (.cells #[.bool false, .nilFunc] 57)).drew) w1 := hb; have HB : Below U.heap.size U w1 := btr HX hb'; have v0 : w1.cell? ⟨U.heap.size, 0, none⟩ = some (.bool false) := (hb'.cell (p := ⟨U.heap.size, 0, none⟩) (by simp)).trans (by go_simp); have v1 : w1.cell? ⟨U.heap.size, 1, none⟩ = some .nilFunc := (hb'.cell (p := ⟨U.heap.size, 1, none⟩) (by simp)).trans (by go_simp); have z0 : w1.frozen? ⟨U.heap.size, 0, none⟩ = false := (hb'.frozen (p := ⟨U.heap.size, 0, none⟩) (by simp)).trans (by go_simp); have z1 : w1.frozen? ⟨U.heap.size, 1, none⟩ = false := (hb'.frozen (p := ⟨U.heap.size, 1, none⟩) (by simp)).trans (by go_simp); have p0 := (HB.cell (p := ⟨w.heap.size, 0, none⟩) (blt k0)).trans k0; have p1 := (HB.cell (p := ⟨w.heap.size, 1, none⟩) (blt k1)).trans k1; have p2 := (HB.cell (p := ⟨w.heap.size, 2, none⟩) (blt k2)).trans k2; have hsz : U.heap.size < w1.heap.size := (by have := hb'.size; simp at this; omega); have hsz2 : w.heap.size < w1.heap.size := (by omega); clear hown hb hb' HX))
  all_goals
    go_wp2
    go_ret
    refine ⟨rfl, btr HA.out ?_⟩
    repeat' (first | exact HB | refine below_drew ?_ | refine Below.setCell ?_ ?_ _ | refine bal ?_ _ | (dsimp only; omega))
end Go.Proofs.YtdcnpcdohgecbaaDoor
