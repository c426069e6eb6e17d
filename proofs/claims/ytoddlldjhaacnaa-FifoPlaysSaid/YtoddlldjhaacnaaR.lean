/- An argument that is a slice of calls, opened. -/
import Derived.Test.YtoddlldjhaacnaaQ
import Derived.Deep.Fields
namespace Go.Proofs.Ytoddlldjhaacnaa
open Go.RowKit Go.ChangeShapes Go.WideShapes Go.Deep

instance : Inhabited OpV := ⟨⟨0, 0, ⟨#[]⟩⟩⟩
section
variable {H : Type} {enc : TypeId × Value → H} {w : World} {base : Nat} {spare : Nat → Bool} {held : Bool}
theorem opFields : ∃ f0 f1 f2 : Field, Try.prog.underlying 38 = some (.struct #[f0, f1, f2]) ∧ (f0.type = 3 ∧ f0.offset = 0) ∧ (f1.type = 3 ∧ f1.offset = 1) ∧ (f2.type = 9 ∧ f2.offset = 2) :=
  ⟨_, _, _, Try.underlying38, ⟨rfl, rfl⟩, ⟨rfl, rfl⟩, ⟨rfl, rfl⟩⟩
theorem cells38 : Try.prog.cellsOf 38 = 3 := by kernel_rfl
theorem one3 : Try.prog.cellsOf 3 = 1 := by kernel_rfl
theorem one9 : Try.prog.cellsOf 9 = 1 := by kernel_rfl

theorem open_ops {fuel : Nat} {cs : List Value} {x : DataW H × List MemPlace} (h : DataW.trod enc Try.prog w base spare held fuel 22 cs = some x) :
    ∃ (a : Option Addr) (cap : Nat) (xs : List OpV), cs = [.slice a xs.length cap] ∧ OpsIn w.heap.size w a xs := by
  rcases open_slice Try.underlying22 h with ⟨rfl, rfl⟩ | ⟨a, len, cap, m, n, D, Pl, rfl, hb, hl, hm, hmm, hx, hi⟩
  · exact ⟨none, 0, [], rfl, fun i hi => by simp at hi⟩
  · have hlm : len ≤ m := by rw [hmm]; split <;> omega
    rw [cells38] at hi
    obtain ⟨V, hV⟩ := choose_lt (α := OpV) (n := len) (p := fun i v => w.cell? (a.add (i * 3)) = some (.int .i64 v.kind) ∧ w.cell? ((a.add (i * 3)).add 1) = some (.int .i64 v.n) ∧ w.cell? ((a.add (i * 3)).add 2) = some (.string v.s)) (fun i hil => by
      obtain ⟨cs', h1, h2⟩ := hi i (by omega)
      obtain ⟨_, hlen, hcell⟩ := World.cells?_some h1
      match cs', hlen with
      | [c0, c1, c2], _ =>
        have e0 := hcell 0 (by omega)
        have e1 := hcell 1 (by omega)
        have e2 := hcell 2 (by omega)
        obtain ⟨f0, f1, f2, hu, ⟨t0, o0⟩, ⟨t1, o1⟩, ⟨t2, o2⟩⟩ := opFields
        obtain ⟨ys, n', _, _, _, hyl, hf⟩ := DataW.trod_struct hu h2
        match ys, hyl with
        | [y0, y1, y2], _ =>
          have g0 := hf 0 f0 rfl
          have g1 := hf 1 f1 rfl
          have g2 := hf 2 f2 rfl
          rw [t0, o0, one3] at g0
          rw [t1, o1, one3] at g1
          rw [t2, o2, one9] at g2
          obtain ⟨k0, hk0, _, _⟩ := DataW.trod_int Try.underlying3 g0
          obtain ⟨k1, hk1, _, _⟩ := DataW.trod_int Try.underlying3 g1
          obtain ⟨s, hs, _, _⟩ := DataW.trod_string Try.underlying9 g2
          simp at hk0 hk1 hs
          subst hk0 hk1 hs
          exact ⟨⟨k0, k1, s⟩, e0, e1, e2⟩)
    refine ⟨some a, cap, (List.range len).map V, by simp, fun i hil => ?_⟩
    have hil' : i < len := by simpa using hil
    obtain ⟨b, o, spot⟩ := a
    have hs0 := (hV 0 (by omega)).1
    have hspot : spot = none := by
      rw [Nat.zero_mul] at hs0
      simpa [Addr.add] using World.cell?_spot hs0
    subst hspot
    obtain ⟨c0, c1, c2⟩ := hV i hil'
    rw [add_at] at c0
    rw [add_at, add_at] at c1 c2
    rw [Nat.mul_comm] at c0 c1 c2
    refine ⟨b, o, rfl, blt c0, ?_, ?_, ?_⟩
    · simpa using c0
    · simpa using c1
    · simpa using c2
end
end Go.Proofs.Ytoddlldjhaacnaa
