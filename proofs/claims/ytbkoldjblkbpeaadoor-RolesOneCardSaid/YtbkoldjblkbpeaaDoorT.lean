/- An argument that is a slice of operators, opened; who is found, as plain functions. -/
import Derived.Test.YtbkoldjblkbpeaaDoorS
import Derived.ChangeShapes
namespace Go.Proofs.YtbkoldjblkbpeaaDoor
open Go.RowKit Go.ChangeShapes Go.WideShapes Go.Deep

section
variable {H : Type} {enc : TypeId × Value → H} {w : World} {base : Nat} {spare : Nat → Bool} {held : Bool}
theorem oprFields : ∃ f0 f1 : Field, Tryd.prog.underlying 42 = some (.struct #[f0, f1]) ∧ (f0.type = 9 ∧ f0.offset = 0) ∧ (f1.type = 3 ∧ f1.offset = 1) :=
  ⟨_, _, Tryd.underlying42, ⟨rfl, rfl⟩, ⟨rfl, rfl⟩⟩
theorem cells42 : Tryd.prog.cellsOf 42 = 2 := by kernel_rfl
theorem one3 : Tryd.prog.cellsOf 3 = 1 := by kernel_rfl
theorem one9 : Tryd.prog.cellsOf 9 = 1 := by kernel_rfl
theorem add_at (b o : Nat) (i : Nat) : (⟨b, o, none⟩ : Addr).add i = ⟨b, o + i, none⟩ := by unfold Addr.add; split <;> simp_all

theorem open_oprs {fuel : Nat} {cs : List Value} {x : DataW H × List MemPlace} (h : DataW.trod enc Tryd.prog w base spare held fuel 34 cs = some x) :
    ∃ (a : Option Addr) (cap : Nat) (xs : List (ByteArray × Int)), cs = [.slice a xs.length cap] ∧ RawAt w.heap.size w a xs := by
  rcases open_slice Tryd.underlying34 h with ⟨rfl, rfl⟩ | ⟨a, len, cap, m, n, D, Pl, rfl, hb, hl, hm, hmm, hx, hi⟩
  · exact ⟨none, 0, [], rfl, fun i hi => by simp at hi⟩
  · have hlm : len ≤ m := by rw [hmm]; split <;> omega
    rw [cells42] at hi
    obtain ⟨V, hV⟩ := choose_lt (α := ByteArray × Int) (n := len) (p := fun i v => w.cell? (a.add (i * 2)) = some (.string v.1) ∧ w.cell? ((a.add (i * 2)).add 1) = some (.int .i64 v.2)) (fun i hil => by
      obtain ⟨cs', h1, h2⟩ := hi i (by omega)
      obtain ⟨_, hlen, hcell⟩ := World.cells?_some h1
      match cs', hlen with
      | [c0, c1], _ =>
        have e0 := hcell 0 (by omega)
        have e1 := hcell 1 (by omega)
        obtain ⟨f0, f1, hu, ⟨t0, o0⟩, ⟨t1, o1⟩⟩ := oprFields
        obtain ⟨ys, n', _, _, _, hyl, hf⟩ := DataW.trod_struct hu h2
        match ys, hyl with
        | [y0, y1], _ =>
          have g0 := hf 0 f0 rfl
          have g1 := hf 1 f1 rfl
          rw [t0, o0, one9] at g0
          rw [t1, o1, one3] at g1
          obtain ⟨s, hs, _, _⟩ := DataW.trod_string Tryd.underlying9 g0
          obtain ⟨k1, hk1, _, _⟩ := DataW.trod_int Tryd.underlying3 g1
          simp at hk1 hs
          subst hk1 hs
          exact ⟨(s, k1), e0, e1⟩)
    refine ⟨some a, cap, (List.range len).map V, by simp, fun i hil => ?_⟩
    have hil' : i < len := by simpa using hil
    obtain ⟨b, o, spot⟩ := a
    have hs0 := (hV 0 (by omega)).1
    have hspot : spot = none := by
      rw [Nat.zero_mul] at hs0
      simpa [Addr.add] using World.cell?_spot hs0
    subst hspot
    obtain ⟨c0, c1⟩ := hV i hil'
    rw [add_at] at c0
    rw [add_at, add_at] at c1
    refine ⟨b, o, rfl, blt c0, ?_, ?_⟩
    · simpa using c0
    · simpa using c1
end

/-- All of a list of operators are right. -/
def okP (l : List Opr) : Bool := okFrom [] l
theorem okP_snoc (l : List Opr) (x : Opr) : okP (l ++ [x]) = (okP l && oneOK (namesOf l) x) := by
  unfold okP; rw [okFrom_snoc, List.nil_append]
theorem okP_pre (l : List Opr) (h : okP l = false) (r : List Opr) : okP (l ++ r) = false := by
  refine snoc_ind (p := fun r => okP (l ++ r) = false) (by simpa using h) ?_ r
  intro r x ih
  rw [← List.append_assoc, okP_snoc, ih, Bool.false_and]
theorem okP_take (l : List Opr) (k : Nat) (h : okP (l.take k) = false) : okP l = false := by
  have := okP_pre _ h (l.drop k)
  rwa [List.take_append_drop] at this
theorem rightB_eq (l : List Opr) : rightB l = (decide (l.length ≤ 10) && okP l) := rfl
theorem mem_names {l : List Opr} {x : Opr} (h : x ∈ l) : x.n.data.toList ∈ namesOf l := List.mem_map.2 ⟨x, h, rfl⟩
theorem lastM_only (s : ByteArray) (l : List Opr) (hok : okP l = true) (x : Opr) (hx : x ∈ l) (hs : x.n = s) : lastM s l = x := by
  revert hok hx
  refine snoc_ind (p := fun l => okP l = true → x ∈ l → lastM s l = x) ?_ ?_ l
  · intro _ hx; cases hx
  · intro l y ih hok hx
    rw [okP_snoc, Bool.and_eq_true] at hok
    rw [lastM_snoc]
    rcases List.mem_append.1 hx with h | h
    · have hy : ¬ y.n = s := by
        intro e
        have h2 := hok.2
        simp only [oneOK, Bool.and_eq_true, Bool.not_eq_true', decide_eq_false_iff_not] at h2
        exact h2.2 (by rw [e, ← hs]; exact mem_names h)
      rw [if_neg hy]
      exact ih hok.1 h
    · obtain rfl := List.mem_singleton.1 h
      rw [if_pos hs]
theorem lastM_none (s : ByteArray) (l : List Opr) (h : ∀ x ∈ l, x.n ≠ s) : lastM s l = noO := by
  revert h
  refine snoc_ind (p := fun l => (∀ x ∈ l, x.n ≠ s) → lastM s l = noO) (fun _ => rfl) ?_ l
  intro l y ih h
  rw [lastM_snoc, if_neg (h y (by simp))]
  exact ih fun x hx => h x (List.mem_append_left _ hx)
theorem lastM_mem (s : ByteArray) (l : List Opr) : lastM s l = noO ∨ (lastM s l ∈ l ∧ (lastM s l).n = s) := by
  refine snoc_ind (p := fun l => lastM s l = noO ∨ (lastM s l ∈ l ∧ (lastM s l).n = s)) (.inl rfl) ?_ l
  intro l y ih
  rw [lastM_snoc]
  by_cases h : y.n = s
  · rw [if_pos h]; exact .inr ⟨by simp, h⟩
  · rw [if_neg h]
    rcases ih with e | ⟨h1, h2⟩
    · exact .inl e
    · exact .inr ⟨List.mem_append_left _ h1, h2⟩
theorem okP_mem (l : List Opr) (hok : okP l = true) (x : Opr) (hx : x ∈ l) : nameOK x.n = true ∧ roleOK x.r = true := by
  revert hok hx
  refine snoc_ind (p := fun l => okP l = true → x ∈ l → nameOK x.n = true ∧ roleOK x.r = true) ?_ ?_ l
  · intro _ hx; cases hx
  · intro l y ih hok hx
    rw [okP_snoc, Bool.and_eq_true] at hok
    rcases List.mem_append.1 hx with h | h
    · exact ih hok.1 h
    · obtain rfl := List.mem_singleton.1 h
      have h2 := hok.2
      simp only [oneOK, Bool.and_eq_true] at h2
      exact h2.1
theorem name_ne {s : ByteArray} (h : nameOK s = true) : s ≠ ⟨#[]⟩ := by
  intro e
  subst e
  simp [nameOK] at h
/-- Found: the one of this name. -/
theorem fnd_hit {l : List Opr} {s : ByteArray} {x : Opr} (hr : rightB l = true) (hx : x ∈ l) (hs : x.n = s) : fndN l s = x.r ∧ fndE l s = 0 := by
  have hok : okP l = true := by rw [rightB_eq, Bool.and_eq_true] at hr; exact hr.2
  have hl := lastM_only s l hok x hx hs
  have hn := name_ne (okP_mem l hok x hx).1
  rw [fndN_ok hr, fndE_ok hr, hl, if_neg (fun h => hn h.1), if_neg (fun h => hn h.1)]
  exact ⟨rfl, rfl⟩
/-- Not found. -/
theorem fnd_miss {l : List Opr} {s : ByteArray} (h : ∀ x ∈ l, x.n ≠ s) : fndN l s = 0 ∧ fndE l s = 120 := by
  have hl := lastM_none s l h
  unfold fndN fndE fndB
  rw [hl]
  simp [noO]
theorem fnd_wrong {l : List Opr} {s : ByteArray} (h : rightB l = false) : fndN l s = 0 ∧ fndE l s = 120 := by
  unfold fndN fndE fndB
  rw [h]
  simp
/-- Whoever is found is one of them, and has that role. -/
theorem fnd_one (l : List Opr) (s : ByteArray) : (fndE l s = 0 ∧ (∃ x ∈ l, x.n = s ∧ x.r = fndN l s) ∧ 1 ≤ fndN l s ∧ fndN l s ≤ 3) ∨ (fndE l s = 120 ∧ fndN l s = 0) := by
  cases hr : rightB l with
  | false => exact .inr ⟨(fnd_wrong hr).2, (fnd_wrong hr).1⟩
  | true =>
    rcases lastM_mem s l with h | ⟨h1, h2⟩
    · right
      rw [fndN_ok hr, fndE_ok hr, h]
      exact ⟨if_pos ⟨rfl, rfl⟩, if_pos ⟨rfl, rfl⟩⟩
    · obtain ⟨e1, e2⟩ := fnd_hit hr h1 h2
      have hok : okP l = true := by rw [rightB_eq, Bool.and_eq_true] at hr; exact hr.2
      have hro := (okP_mem l hok _ h1).2
      simp only [roleOK, decide_eq_true_eq] at hro
      rw [e1]
      exact .inl ⟨e2, ⟨_, h1, h2, rfl⟩, hro.1, hro.2⟩
end Go.Proofs.YtbkoldjblkbpeaaDoor
