/- New, Take, Give, by what they are to answer. -/
import Derived.Test.YtbalebnhjpjhgaaV
namespace Go.Proofs.Ytbalebnhjpjhgaa
open Go.RowKit

def nilS : Sl := ⟨[], [], []⟩
def newE (n : Int) : Sl × Int := if 1 ≤ n ∧ n ≤ 64 then (newS n.toNat, 0) else (nilS, 2)
def Sl.take (s : Sl) : Sl × (Int × Int) × Int :=
  if s.right = true then
    match s.f.getLast? with
    | none => (nilS, (0, 0), 92)
    | some p => if s.g[p.toNat]?.getD 0 = 1000000000 then (nilS, (0, 0), 92) else (⟨s.g.set p.toNat (s.g[p.toNat]?.getD 0 + 1), s.u.set p.toNat true, s.f.dropLast⟩, (p, s.g[p.toNat]?.getD 0 + 1), 0)
  else (nilS, (0, 0), 90)
def Sl.give (s : Sl) (h : Int × Int) : Sl × Int :=
  if s.right = true then if s.valid h = true then (⟨s.g, s.u.set h.1.toNat false, s.f ++ [h.1]⟩, 0) else (nilS, 91) else (nilS, 90)

theorem nil_at (n : Nat) (W : World) (a1 a2 a3 : Option Addr) : SlotsAt n W a1 a2 a3 nilS.g nilS.u nilS.f := ⟨IntsAt.nil _ _ _, BoolsAt.nil _ _ _, IntsAt.nil _ _ _⟩

theorem take_to (a1 a2 a3 : Option Addr) (c1 c2 c3 L1 L2 L3 : Nat) (s : Sl) (h1 : s.g.length = L1) (h2 : s.u.length = L2) (h3 : s.f.length = L3) (t : Sl) (p g er : Int) (ht : s.take = (t, (p, g), er)) (M1 M2 M3 : Nat) (m1 : t.g.length = M1) (m2 : t.u.length = M2) (m3 : t.f.length = M3)
    (w : World) (h : SlotsAt w.heap.size w a1 a2 a3 s.g s.u s.f) :
    Calls Try.prog 22 #[.agg #[.slice a1 L1 c1, .slice a2 L2 c2, .slice a3 L3 c3]] w fun e w' => ∃ b1 b2 b3 d1 d2 d3, e = .returned (.tuple #[.agg #[.slice b1 M1 d1, .slice b2 M2 d2, .slice b3 M3 d3], .agg #[.int .i64 p, .int .i64 g], .int .i64 er]) ∧
      SlotsAt w'.heap.size w' b1 b2 b3 t.g t.u t.f ∧ M3 ≤ d3 ∧ Below w.heap.size w w' := by
  unfold Sl.take at ht
  cases hr : s.right with
  | false =>
    rw [hr] at ht
    simp only [Bool.false_eq_true, if_false, Prod.mk.injEq] at ht
    obtain ⟨rfl, ⟨rfl, rfl⟩, rfl⟩ := ht
    simp only [nilS, List.length_nil] at m1 m2 m3
    subst m1 m2 m3
    refine (take_wrong a1 a2 a3 c1 c2 c3 L1 L2 L3 s h1 h2 h3 w h hr).mono ?_
    rintro e w' ⟨rfl, hb⟩
    exact ⟨_, _, _, _, _, _, rfl, nil_at _ _ _ _ _, Nat.le_refl _, hb⟩
  | true =>
    rw [hr] at ht
    simp only [if_true] at ht
    have R := (right_iff s).1 hr
    cases hl : s.f.getLast? with
    | none =>
      rw [hl] at ht
      simp only [Prod.mk.injEq] at ht
      obtain ⟨rfl, ⟨rfl, rfl⟩, rfl⟩ := ht
      simp only [nilS, List.length_nil] at m1 m2 m3
      subst m1 m2 m3
      have hf : s.f = [] := List.getLast?_eq_none_iff.1 hl
      have : L3 = 0 := by rw [← h3, hf]; rfl
      subst this
      refine (take_none a1 a2 a3 c1 c2 c3 L1 L2 s h1 h2 hf w h hr).mono ?_
      rintro e w' ⟨rfl, hb⟩
      exact ⟨_, _, _, _, _, _, rfl, nil_at _ _ _ _ _, Nat.le_refl _, hb⟩
    | some x =>
      rw [hl] at ht
      obtain ⟨fs, hf⟩ : ∃ fs, s.f = fs ++ [x] := List.getLast?_eq_some_iff.1 hl
      have hx := R.free x (by rw [hf]; simp)
      obtain ⟨k, rfl⟩ : ∃ k : Nat, x = k := ⟨x.toNat, by have := hx.1; omega⟩
      have hk : k < L1 := by have := hx.2.1; have := R.l3; omega
      obtain ⟨q, hq⟩ : ∃ q, s.g[k]? = some q := ⟨_, List.getElem?_eq_getElem (by omega)⟩
      simp only [Int.toNat_natCast, hq, Option.getD_some] at ht
      by_cases hm : q = 1000000000
      · subst hm
        simp only [if_true, Prod.mk.injEq] at ht
        obtain ⟨rfl, ⟨rfl, rfl⟩, rfl⟩ := ht
        simp only [nilS, List.length_nil] at m1 m2 m3
        subst m1 m2 m3
        refine (take_max a1 a2 a3 c1 c2 c3 L1 L2 L3 fs.length k s fs h1 h2 h3 hf rfl hk hq w h hr).mono ?_
        rintro e w' ⟨rfl, hb⟩
        exact ⟨_, _, _, _, _, _, rfl, nil_at _ _ _ _ _, Nat.le_refl _, hb⟩
      · simp only [hm, if_false, Prod.mk.injEq] at ht
        obtain ⟨rfl, ⟨rfl, rfl⟩, rfl⟩ := ht
        have hg := R.gen q (by obtain ⟨hj, e⟩ := List.getElem?_eq_some_iff.1 hq; rw [← e]; exact List.getElem_mem hj)
        have hdl : s.f.dropLast = fs := by rw [hf, List.dropLast_concat]
        simp only [hdl] at m3 ⊢
        simp only [List.length_set] at m1 m2
        have e1 : L1 = M1 := by omega
        have e2 : L2 = M2 := by omega
        subst e1 e2 m3
        refine (take_ok a1 a2 a3 c1 c2 c3 L1 L2 L3 fs.length k q s fs h1 h2 h3 hf rfl hk hq hg.1 (by omega) w h hr).mono ?_
        rintro e w' ⟨g1, g2, g3, d1, d2, rfl, hS, hb⟩
        exact ⟨_, _, _, _, _, _, rfl, hS, Nat.le_refl _, hb⟩

theorem give_to (a1 a2 a3 : Option Addr) (c1 c2 c3 L1 L2 L3 : Nat) (s : Sl) (h1 : s.g.length = L1) (h2 : s.u.length = L2) (h3 : s.f.length = L3) (p g : Int) (t : Sl) (er : Int) (ht : s.give (p, g) = (t, er)) (M1 M2 M3 : Nat) (m1 : t.g.length = M1) (m2 : t.u.length = M2) (m3 : t.f.length = M3)
    (w : World) (h : SlotsAt w.heap.size w a1 a2 a3 s.g s.u s.f) :
    Calls Try.prog 24 #[.agg #[.slice a1 L1 c1, .slice a2 L2 c2, .slice a3 L3 c3], .agg #[.int .i64 p, .int .i64 g]] w fun e w' => ∃ b1 b2 b3 d1 d2 d3, e = .returned (.tuple #[.agg #[.slice b1 M1 d1, .slice b2 M2 d2, .slice b3 M3 d3], .int .i64 er]) ∧
      SlotsAt w'.heap.size w' b1 b2 b3 t.g t.u t.f ∧ Below w.heap.size w w' := by
  unfold Sl.give at ht
  cases hr : s.right with
  | false =>
    rw [hr] at ht
    simp only [Bool.false_eq_true, if_false, Prod.mk.injEq] at ht
    obtain ⟨rfl, rfl⟩ := ht
    simp only [nilS, List.length_nil] at m1 m2 m3
    subst m1 m2 m3
    refine (give_wrong a1 a2 a3 c1 c2 c3 L1 L2 L3 s p g h1 h2 h3 w h hr).mono ?_
    rintro e w' ⟨rfl, hb⟩
    exact ⟨_, _, _, _, _, _, rfl, nil_at _ _ _ _ _, hb⟩
  | true =>
    rw [hr] at ht
    simp only [if_true] at ht
    cases hv : s.valid (p, g) with
    | false =>
      rw [hv] at ht
      simp only [Bool.false_eq_true, if_false, Prod.mk.injEq] at ht
      obtain ⟨rfl, rfl⟩ := ht
      simp only [nilS, List.length_nil] at m1 m2 m3
      subst m1 m2 m3
      refine (give_old a1 a2 a3 c1 c2 c3 L1 L2 L3 s p g h1 h2 h3 w h hr hv).mono ?_
      rintro e w' ⟨rfl, hb⟩
      exact ⟨_, _, _, _, _, _, rfl, nil_at _ _ _ _ _, hb⟩
    | true =>
      rw [hv] at ht
      simp only [if_true, Prod.mk.injEq] at ht
      obtain ⟨rfl, rfl⟩ := ht
      have hlive : Live s (p, g) := by
        unfold Sl.valid at hv
        exact of_decide_eq_true (Bool.and_eq_true _ _ ▸ hv : _ ∧ _).2
      obtain ⟨k, rfl⟩ : ∃ k : Nat, p = k := ⟨p.toNat, by have := hlive.1; simp only at this; omega⟩
      simp only [List.length_set, List.length_append, List.length_cons, List.length_nil, Int.toNat_natCast] at *
      have e1 : L1 = M1 := by omega
      have e2 : L2 = M2 := by omega
      have e3 : L3 + 1 = M3 := by omega
      subst e1 e2 e3
      exact give_ok a1 a2 a3 c1 c2 c3 L1 L2 L3 k s g h1 h2 h3 w h hr hv

theorem new_to (n : Int) (t : Sl) (er : Int) (ht : newE n = (t, er)) (M1 M2 M3 : Nat) (m1 : t.g.length = M1) (m2 : t.u.length = M2) (m3 : t.f.length = M3) (w : World) :
    Calls Try.prog 11 #[.int .i64 n] w fun e w' => ∃ b1 b2 b3 d1 d2 d3, e = .returned (.tuple #[.agg #[.slice b1 M1 d1, .slice b2 M2 d2, .slice b3 M3 d3], .int .i64 er]) ∧
      SlotsAt w'.heap.size w' b1 b2 b3 t.g t.u t.f ∧ Below w.heap.size w w' := by
  unfold newE at ht
  by_cases h : 1 ≤ n ∧ n ≤ 64
  · rw [if_pos h] at ht
    simp only [Prod.mk.injEq] at ht
    obtain ⟨rfl, rfl⟩ := ht
    obtain ⟨k, rfl⟩ : ∃ k : Nat, n = k := ⟨n.toNat, by omega⟩
    simp only [newS, Int.toNat_natCast, List.length_replicate, frees_length] at m1 m2 m3
    subst m1 m2 m3
    exact new_ok k (by omega) (by omega) w
  · rw [if_neg h] at ht
    simp only [Prod.mk.injEq] at ht
    obtain ⟨rfl, rfl⟩ := ht
    simp only [nilS, List.length_nil] at m1 m2 m3
    subst m1 m2 m3
    refine (new_wrong n w (by omega)).mono ?_
    rintro e w' ⟨rfl, hb⟩
    exact ⟨_, _, _, _, _, _, rfl, nil_at _ _ _ _ _, hb⟩
end Go.Proofs.Ytbalebnhjpjhgaa
