/- An argument that is slots, opened. -/
import Derived.Test.YtbalebnhjpjhgaaLG
import Derived.Deep.Grids
import Derived.Lib.SmallJoins
import Derived.ChangeSlices
namespace Go.Proofs.Ytbalebnhjpjhgaa
open Go.RowKit Go.ChangeShapes Go.WideShapes Go.Deep Go.Joins Go.ChangeAt

section
variable {H : Type} {enc : TypeId × Value → H} {W : World} {held : Bool}
theorem one3 : Try.prog.cellsOf 3 = 1 := by kernel_rfl
theorem one4 : Try.prog.cellsOf 4 = 1 := by kernel_rfl
theorem three25 : Try.prog.cellsOf 25 = 3 := by kernel_rfl

theorem open_int_cells {fuel : Nat} {v : Value} {x : DataW H × List MemPlace} (h : DataW.trod enc Try.prog W 0 (fun _ => true) held fuel 22 [v] = some x) :
    ∃ (a : Option Addr) (c : Nat) (zs : List Int), v = .slice a zs.length c ∧ zs.length ≤ c ∧ IntsAt W.heap.size W a zs := by
  rcases open_ints Try.underlying22 Try.underlying3 one3 h with ⟨hcs, _⟩ | ⟨a, len, cap, zs, hcs, _, hl, _, hz, _, hcell, _⟩
  · simp at hcs
    exact ⟨none, 0, [], hcs, Nat.le_refl _, IntsAt.nil _ _ _⟩
  · simp at hcs
    have hz' : zs.length = cap := by simpa using hz
    refine ⟨some a, cap, zs.take len, by rw [hcs, List.length_take, hz', Nat.min_eq_left hl], by rw [List.length_take]; omega, fun i hi => ?_⟩
    have hi' : i < zs.length := by simp at hi; omega
    have hc := hcell i hi'
    obtain ⟨b, o, spot⟩ := a
    have hspot : spot = none := by simpa [Addr.add] using World.cell?_spot (hcell 0 (by omega))
    subst hspot
    rw [add_at] at hc
    exact ⟨b, o, rfl, blt hc, by rw [hc, List.getElem_take, List.getD_eq_getElem?_getD, List.getElem?_eq_getElem hi', Option.getD_some]⟩
theorem open_bool_cells {fuel : Nat} {v : Value} {x : DataW H × List MemPlace} (h : DataW.trod enc Try.prog W 0 (fun _ => true) held fuel 23 [v] = some x) :
    ∃ (a : Option Addr) (c : Nat) (us : List Bool), v = .slice a us.length c ∧ us.length ≤ c ∧ BoolsAt W.heap.size W a us := by
  rcases open_bools Try.underlying23 Try.underlying4 one4 h with ⟨hcs, _⟩ | ⟨a, len, cap, B, hcs, _, hl, _, _, hcell⟩
  · simp at hcs
    exact ⟨none, 0, [], hcs, Nat.le_refl _, BoolsAt.nil _ _ _⟩
  · simp at hcs
    refine ⟨some a, cap, (List.range len).map B, by rw [hcs]; simp, by simpa using hl, fun i hi => ?_⟩
    have hi' : i < len := by simpa using hi
    have hc := hcell i (by omega)
    obtain ⟨b, o, spot⟩ := a
    have hspot : spot = none := by simpa [Addr.add] using World.cell?_spot (hcell 0 (by omega))
    subst hspot
    rw [add_at] at hc
    exact ⟨b, o, rfl, blt hc, by rw [hc]; simp⟩
theorem open_slots {b0 : Nat} {v : Value} {d : DataW H} {ps : List MemPlace} (hv : Value.okWide Try.prog W .any b0 25 v) (h : DataW.Trod enc Try.prog W 0 (fun _ => true) held 25 v d ps) :
    ∃ (a1 a2 a3 : Option Addr) (c1 c2 c3 : Nat) (s : Sl), v = .agg #[.slice a1 s.g.length c1, .slice a2 s.u.length c2, .slice a3 s.f.length c3] ∧ (s.g.length ≤ c1 ∧ s.u.length ≤ c2 ∧ s.f.length ≤ c3) ∧ SlotsAt W.heap.size W a1 a2 a3 s.g s.u s.f := by
  obtain ⟨v0, v1, v2, y0, y1, y2, n, rfl, _, _, h0, h1, h2⟩ := open_agg3 Try.underlying25 (by kernel_rfl) three25 hv h
  obtain ⟨a1, c1, g, rfl, k1, i1⟩ := open_int_cells h0
  obtain ⟨a2, c2, u, rfl, k2, i2⟩ := open_bool_cells h1
  obtain ⟨a3, c3, f, rfl, k3, i3⟩ := open_int_cells h2
  exact ⟨a1, a2, a3, c1, c2, c3, ⟨g, u, f⟩, rfl, ⟨k1, k2, k3⟩, i1, i2, i3⟩
end
end Go.Proofs.Ytbalebnhjpjhgaa
