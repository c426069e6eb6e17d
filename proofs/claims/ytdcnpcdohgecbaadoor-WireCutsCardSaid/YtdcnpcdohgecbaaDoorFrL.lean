/- An argument that is a slice of frames, opened. -/
import Derived.Test.YtdcnpcdohgecbaaDoorPE
import Derived.Test.YtdcnpcdohgecbaaDoorFrE
import Derived.ChangeShapes
import Derived.ChangeArms
import Derived.Deep.Slices
namespace Go.Proofs.YtdcnpcdohgecbaaDoor
open Go.RowKit Go.ChangeShapes Go.WideShapes Go.Deep

section
variable {H : Type} {enc : TypeId × Value → H} {w : World} {base : Nat} {spare : Nat → Bool} {held : Bool}
theorem frameFields : ∃ f0 f1 f2 : Field, Tryd.prog.underlying 23 = some (.struct #[f0, f1, f2]) ∧ (f0.type = 3 ∧ f0.offset = 0) ∧ (f1.type = 3 ∧ f1.offset = 1) ∧ (f2.type = 9 ∧ f2.offset = 2) :=
  ⟨_, _, _, Tryd.underlying23, ⟨rfl, rfl⟩, ⟨rfl, rfl⟩, ⟨rfl, rfl⟩⟩
theorem cellsFrame : Tryd.prog.cellsOf 23 = 3 := by kernel_rfl
theorem add_at (b o : Nat) (i : Nat) : (⟨b, o, none⟩ : Addr).add i = ⟨b, o + i, none⟩ := by unfold Addr.add; split <;> simp_all

theorem open_frames {fuel : Nat} {cs : List Value} {x : DataW H × List MemPlace} (h : DataW.trod enc Tryd.prog w base spare held fuel 25 cs = some x) :
    ∃ (a : Option Addr) (cap : Nat) (xs : List FrT), cs = [.slice a xs.length cap] ∧ ((FramesAt w.heap.size w a xs ∧ ∀ f ∈ xs, (Lit.int .i64 f.1).wf = true) ∧ xs.length ≤ 9223372036854775807) := by
  rcases open_slice Tryd.underlying25 h with ⟨rfl, rfl⟩ | ⟨a, len, cap, m, n, D, Pl, rfl, hb, hl, hm, hmm, hx, hi⟩
  · exact ⟨none, 0, [], rfl, ⟨fun i hi => by simp at hi, fun f hf => by cases hf⟩, by simp⟩
  · have hlm : len ≤ m := by rw [hmm]; split <;> omega
    rw [cellsFrame] at hi
    obtain ⟨V, hV⟩ := choose_lt (α := FrT) (n := len) (p := fun i v => (w.cell? (a.add (i * 3)) = some (.int .i64 v.1) ∧ w.cell? ((a.add (i * 3)).add 1) = some (.int .i64 v.2.1) ∧ w.cell? ((a.add (i * 3)).add 2) = some (.string v.2.2)) ∧ (Lit.int .i64 v.1).wf = true) (fun i hil => by
      obtain ⟨cs', h1, h2⟩ := hi i (by omega)
      obtain ⟨_, hlen, hcell⟩ := World.cells?_some h1
      match cs', hlen with
      | [c0, c1, c2], _ =>
        have e0 := hcell 0 (by omega)
        have e1 := hcell 1 (by omega)
        have e2 := hcell 2 (by omega)
        obtain ⟨f0, f1, f2, hu, ⟨t0, o0⟩, ⟨t1, o1⟩, ⟨t2, o2⟩⟩ := frameFields
        obtain ⟨ys, n', _, _, _, hyl, hf⟩ := DataW.trod_struct hu h2
        match ys, hyl with
        | [y0, y1, y2], _ =>
          have g0 := hf 0 f0 rfl
          have g1 := hf 1 f1 rfl
          have g2 := hf 2 f2 rfl
          rw [t0, o0, cells3] at g0
          rw [t1, o1, cells3] at g1
          rw [t2, o2, cells9] at g2
          obtain ⟨k0, hk0, _, hw0⟩ := DataW.trod_int Tryd.underlying3 g0
          obtain ⟨k1, hk1, _, _⟩ := DataW.trod_int Tryd.underlying3 g1
          obtain ⟨s, hs, _, _⟩ := DataW.trod_string Tryd.underlying9 g2
          simp at hk0 hk1 hs
          subst hk0 hk1 hs
          exact ⟨(k0, k1, s), ⟨e0, e1, e2⟩, hw0⟩)
    refine ⟨some a, cap, (List.range len).map V, by simp, ⟨fun i hil => ?_, fun f hf => ?_⟩, by simp; unfold maxLen at hm; omega⟩
    · have hil' : i < len := by simpa using hil
      obtain ⟨b, o, spot⟩ := a
      have hs0 := (hV 0 (by omega)).1.1
      have hspot : spot = none := by
        rw [Nat.zero_mul] at hs0
        simpa [Addr.add] using World.cell?_spot hs0
      subst hspot
      obtain ⟨⟨c0, c1, c2⟩, _⟩ := hV i hil'
      rw [add_at] at c0
      rw [add_at, add_at] at c1 c2
      refine ⟨b, o, rfl, blt c0, ?_, ?_, ?_⟩
      · simpa using c0
      · simpa using c1
      · simpa using c2
    · obtain ⟨i, hi2, rfl⟩ := List.mem_map.1 hf
      exact (hV i (List.mem_range.1 hi2)).2
end
end Go.Proofs.YtdcnpcdohgecbaaDoor
