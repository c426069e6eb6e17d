/- copies.Slots. -/
import Derived.Test.YtbalebnhjpjhgaaH
namespace Go.Proofs.Ytbalebnhjpjhgaa
open Go.RowKit
theorem OwnI.on {base : Nat} {W W' : World} {v : Value} {zs : List Int} (h : OwnI base W v zs) (hb : Below W.heap.size W W') : OwnI base W' v zs := h.kept (grown_of_below hb) (by cases v.ownBlock <;> simp)
theorem OwnB.on {base : Nat} {W W' : World} {v : Value} {zs : List Bool} (h : OwnB base W v zs) (hb : Below W.heap.size W W') : OwnB base W' v zs := h.kept (grown_of_below hb) (by cases v.ownBlock <;> simp)

theorem OwnI.set {base : Nat} {W : World} {v x : Value} {zs : List Int} {B o : Nat} (h : OwnI base W v zs) (hB : B < base) : OwnI base (W.setCell ⟨B, o, none⟩ x) v zs := h.kept (grownBy_setCell _ _ _ _) (.inr fun e => by have := (h.lt B e).1; omega)
theorem OwnB.set {base : Nat} {W : World} {v x : Value} {zs : List Bool} {B o : Nat} (h : OwnB base W v zs) (hB : B < base) : OwnB base (W.setCell ⟨B, o, none⟩ x) v zs := h.kept (grownBy_setCell _ _ _ _) (.inr fun e => by have := (h.lt B e).1; omega)
theorem OwnI.mono {base base' : Nat} {W : World} {v : Value} {zs : List Int} (h : OwnI base W v zs) (hb : base' ≤ base) : OwnI base' W v zs := ⟨h.1, h.2.imp id fun ⟨g, cap, cur, hv, hb', rest⟩ => ⟨g, cap, cur, hv, Nat.le_trans hb hb', rest⟩⟩
theorem OwnB.mono {base base' : Nat} {W : World} {v : Value} {zs : List Bool} (h : OwnB base W v zs) (hb : base' ≤ base) : OwnB base' W v zs := ⟨h.1, h.2.imp id fun ⟨g, cap, cur, hv, hb', rest⟩ => ⟨g, cap, cur, hv, Nat.le_trans hb hb', rest⟩⟩

/-- What a call finds and leaves: the three cells of block B; what lay below n is as it was. -/
def Held (n B : Nat) (s1 s2 s3 : Value) (U W : World) : Prop := W.cell? ⟨B, 0, none⟩ = some s1 ∧ W.cell? ⟨B, 1, none⟩ = some s2 ∧ W.cell? ⟨B, 2, none⟩ = some s3 ∧ Below n U W
theorem Held.on {n B : Nat} {s1 s2 s3 : Value} {U W W' : World} (h : Held n B s1 s2 s3 U W) (hn : n ≤ W.heap.size) (hb : Below W.heap.size W W') : Held n B s1 s2 s3 U W' :=
  ⟨(hb.cell (p := ⟨B, 0, none⟩) (blt h.1)).trans h.1, (hb.cell (p := ⟨B, 1, none⟩) (blt h.1)).trans h.2.1, (hb.cell (p := ⟨B, 2, none⟩) (blt h.1)).trans h.2.2.1, h.2.2.2.trans (hb.mono hn)⟩

theorem clonI_held (n B : Nat) (s1 s2 s3 : Value) (a : Option Addr) (cap : Nat) (zs : List Int) (hlen : zs.length ≤ 1000) (U W : World) (hn : n ≤ U.heap.size) (hI : IntsAt n U a zs)
    (k0 : W.cell? ⟨B, 0, none⟩ = some s1) (k1 : W.cell? ⟨B, 1, none⟩ = some s2) (k2 : W.cell? ⟨B, 2, none⟩ = some s3) (hb : Below n U W) :
    Calls Try.prog 47 #[.slice a zs.length cap] W fun e W' => ∃ a' c', e = .returned (.slice a' zs.length c') ∧ W'.cell? ⟨B, 0, none⟩ = some s1 ∧ W'.cell? ⟨B, 1, none⟩ = some s2 ∧ W'.cell? ⟨B, 2, none⟩ = some s3 ∧ Below n U W' ∧ OwnI W.heap.size W' (.slice a' zs.length c') zs ∧ Below W.heap.size W W' := by
  refine (clonI_any a cap zs hlen W ((hI.below hb).mono (Nat.le_trans hn hb.size))).mono ?_
  rintro e W' ⟨v, rfl, ho, hB⟩
  obtain ⟨a', c', rfl, _⟩ := ho.form
  obtain ⟨q0, q1, q2, q3⟩ := Held.on (U := U) (n := n) ⟨k0, k1, k2, hb⟩ (Nat.le_trans hn hb.size) hB
  exact ⟨a', c', rfl, q0, q1, q2, q3, ho, hB⟩
theorem clonB_held (n B : Nat) (s1 s2 s3 : Value) (a : Option Addr) (cap : Nat) (zs : List Bool) (hlen : zs.length ≤ 1000) (U W : World) (hn : n ≤ U.heap.size) (hI : BoolsAt n U a zs)
    (k0 : W.cell? ⟨B, 0, none⟩ = some s1) (k1 : W.cell? ⟨B, 1, none⟩ = some s2) (k2 : W.cell? ⟨B, 2, none⟩ = some s3) (hb : Below n U W) :
    Calls Try.prog 48 #[.slice a zs.length cap] W fun e W' => ∃ a' c', e = .returned (.slice a' zs.length c') ∧ W'.cell? ⟨B, 0, none⟩ = some s1 ∧ W'.cell? ⟨B, 1, none⟩ = some s2 ∧ W'.cell? ⟨B, 2, none⟩ = some s3 ∧ Below n U W' ∧ OwnB W.heap.size W' (.slice a' zs.length c') zs ∧ Below W.heap.size W W' := by
  refine (clonB_any a cap zs hlen W ((hI.below hb).mono (Nat.le_trans hn hb.size))).mono ?_
  rintro e W' ⟨v, rfl, ho, hB⟩
  obtain ⟨a', c', rfl, _⟩ := ho.form
  obtain ⟨q0, q1, q2, q3⟩ := Held.on (U := U) (n := n) ⟨k0, k1, k2, hb⟩ (Nat.le_trans hn hb.size) hB
  exact ⟨a', c', rfl, q0, q1, q2, q3, ho, hB⟩
theorem held_drew {n B : Nat} {s1 s2 s3 : Value} {U W : World} (k0 : W.cell? ⟨B, 0, none⟩ = some s1) (k1 : W.cell? ⟨B, 1, none⟩ = some s2) (k2 : W.cell? ⟨B, 2, none⟩ = some s3) (hb : Below n U W) :
    W.drew.cell? ⟨B, 0, none⟩ = some s1 ∧ W.drew.cell? ⟨B, 1, none⟩ = some s2 ∧ W.drew.cell? ⟨B, 2, none⟩ = some s3 ∧ Below n U W.drew := ⟨k0, k1, k2, below_drew hb⟩
theorem held_stay {n B : Nat} {s1 s2 s3 : Value} {U W : World} (k0 : W.cell? ⟨B, 0, none⟩ = some s1) (k1 : W.cell? ⟨B, 1, none⟩ = some s2) (k2 : W.cell? ⟨B, 2, none⟩ = some s3) (hb : Below n U W) :
    W.cell? ⟨B, 0, none⟩ = some s1 ∧ W.cell? ⟨B, 1, none⟩ = some s2 ∧ W.cell? ⟨B, 2, none⟩ = some s3 ∧ Below n U W := ⟨k0, k1, k2, hb⟩
theorem held_set {n B B2 : Nat} {s1 s2 s3 v1 v2 v3 : Value} {U W : World} (k0 : W.cell? ⟨B, 0, none⟩ = some s1) (k1 : W.cell? ⟨B, 1, none⟩ = some s2) (k2 : W.cell? ⟨B, 2, none⟩ = some s3) (hb : Below n U W) (hn : n ≤ B2) (hne : B ≠ B2) :
    (((W.setCell ⟨B2, 0, none⟩ v1).setCell ⟨B2, 1, none⟩ v2).setCell ⟨B2, 2, none⟩ v3).cell? ⟨B, 0, none⟩ = some s1 ∧ (((W.setCell ⟨B2, 0, none⟩ v1).setCell ⟨B2, 1, none⟩ v2).setCell ⟨B2, 2, none⟩ v3).cell? ⟨B, 1, none⟩ = some s2 ∧ (((W.setCell ⟨B2, 0, none⟩ v1).setCell ⟨B2, 1, none⟩ v2).setCell ⟨B2, 2, none⟩ v3).cell? ⟨B, 2, none⟩ = some s3 ∧
    Below n U (((W.setCell ⟨B2, 0, none⟩ v1).setCell ⟨B2, 1, none⟩ v2).setCell ⟨B2, 2, none⟩ v3) :=
  ⟨(set_other _ _ hne).trans ((set_other _ _ hne).trans ((set_other _ _ hne).trans k0)), (set_other _ _ hne).trans ((set_other _ _ hne).trans ((set_other _ _ hne).trans k1)), (set_other _ _ hne).trans ((set_other _ _ hne).trans ((set_other _ _ hne).trans k2)),
    ((hb.setCell (p := ⟨B2, 0, none⟩) hn _).setCell (p := ⟨B2, 1, none⟩) hn _).setCell (p := ⟨B2, 2, none⟩) hn _⟩

set_option maxRecDepth 100000 in
set_option maxHeartbeats 4000000 in
theorem copy_any (a1 a2 a3 : Option Addr) (c1 c2 c3 : Nat) (gs : List Int) (us : List Bool) (fs : List Int) (hg : gs.length ≤ 1000) (hu : us.length ≤ 1000) (hf : fs.length ≤ 1000) (w : World) (h : SlotsAt w.heap.size w a1 a2 a3 gs us fs) :
    Calls Try.prog 39 #[tabV a1 a2 a3 c1 c2 c3 gs us fs] w fun e w' => ∃ v1 v2 v3, e = .returned (.agg #[v1, v2, v3]) ∧ OwnI w.heap.size w' v1 gs ∧ OwnB w.heap.size w' v2 us ∧ OwnI w.heap.size w' v3 fs ∧ (∀ b, v1.ownBlock = some b → v3.ownBlock ≠ some b) ∧ Below w.heap.size w w' := by
  have H1 := Lib.hid (fun B s1 s2 s3 U W hn hI k0 k1 k2 hb => clonI_held w.heap.size B s1 s2 s3 a1 c1 gs hg U W hn hI k0 k1 k2 hb)
  have H2 := Lib.hid (fun B s1 s2 s3 U W hn hI k0 k1 k2 hb => clonB_held w.heap.size B s1 s2 s3 a2 c2 us hu U W hn hI k0 k1 k2 hb)
  have H3 := Lib.hid (fun B s1 s2 s3 U W hn hI k0 k1 k2 hb => clonI_held w.heap.size B s1 s2 s3 a3 c3 fs hf U W hn hI k0 k1 k2 hb)
  unfold tabV
  have HS := Lib.hid h
  clear h
  generalize gs.length = L1 at *
  generalize us.length = L2 at *
  generalize fs.length = L3 at *
  go_enter Try.func39, Try.ntmps39
  go_wp2
  obtain ⟨U, hU⟩ : ∃ U, U = ((w.alloc (Obj.cells #[Value.slice a1 L1 c1, Value.slice a2 L2 c2, Value.slice a3 L3 c3] 25)).alloc (Obj.cells #[Value.slice none 0 0, Value.slice none 0 0, Value.slice none 0 0] 25)) := ⟨_, rfl⟩
  rw [← hU]
  have hB : Below w.heap.size w U := by rw [hU]; exact ((Below.refl _ _).alloc (Nat.le_refl _) _).alloc (by simp) _
  have hz : U.heap.size = w.heap.size + 2 := by rw [hU]; simp
  have k0 : U.cell? ⟨w.heap.size, 0, none⟩ = some (.slice a1 L1 c1) := by rw [hU]; go_simp
  have k1 : U.cell? ⟨w.heap.size, 1, none⟩ = some (.slice a2 L2 c2) := by rw [hU]; go_simp
  have k2 : U.cell? ⟨w.heap.size, 2, none⟩ = some (.slice a3 L3 c3) := by rw [hU]; go_simp
  have e0 : U.cell? ⟨w.heap.size + 1, 0, none⟩ = some (.slice none 0 0) := by rw [hU]; go_simp
  have e1 : U.cell? ⟨w.heap.size + 1, 1, none⟩ = some (.slice none 0 0) := by rw [hU]; go_simp
  have e2 : U.cell? ⟨w.heap.size + 1, 2, none⟩ = some (.slice none 0 0) := by rw [hU]; go_simp
  have f0 : U.frozen? ⟨w.heap.size + 1, 0, none⟩ = false := by rw [hU]; go_simp
  have f1 : U.frozen? ⟨w.heap.size + 1, 1, none⟩ = false := by rw [hU]; go_simp
  have f2 : U.frozen? ⟨w.heap.size + 1, 2, none⟩ = false := by rw [hU]; go_simp
  have hlt2 : w.heap.size + 1 < U.heap.size := by omega
  have G1 := Lib.hid (fun B s1 s2 s3 W k0 k1 k2 hb => H1.out B s1 s2 s3 U W (by omega) (HS.out.below hB).g k0 k1 k2 hb)
  have G2 := Lib.hid (fun B s1 s2 s3 W k0 k1 k2 hb => H2.out B s1 s2 s3 U W (by omega) (HS.out.below hB).u k0 k1 k2 hb)
  have G3 := Lib.hid (fun B s1 s2 s3 W k0 k1 k2 hb => H3.out B s1 s2 s3 U W (by omega) (HS.out.below hB).f k0 k1 k2 hb)
  have hUU : Below w.heap.size U U := Below.refl _ _
  clear hU H1 H2 H3
  go_region_held3 (fun w' => w'.cell? ⟨w.heap.size, 0, none⟩ = some (.slice a1 L1 c1) ∧ w'.cell? ⟨w.heap.size, 1, none⟩ = some (.slice a2 L2 c2) ∧ w'.cell? ⟨w.heap.size, 2, none⟩ = some (.slice a3 L3 c3) ∧ Below w.heap.size U w')
    (first | assumption | (go_split_ands; (try dsimp only); first | exact held_stay (by assumption) (by assumption) (by assumption) (by assumption) | exact held_drew (by assumption) (by assumption) (by assumption) (by assumption) | exact held_set (by assumption) (by assumption) (by assumption) (by assumption) (by omega) (by omega)))
    ((first
      | (go_at_call 47; go_split_ands; refine (G1.out _ _ _ _ _ (by assumption) (by assumption) (by assumption) (by assumption)).mono ?_; rintro e w1 ⟨b1, d1, rfl, p0, p1, p2, pb, po, pB⟩; obtain ⟨hc1, hf1⟩ := bcell pB; have hz1 := pB.size; (try simp at hz1); (have hy1 : w.heap.size + 1 < w1.heap.size := by omega); clear G1)
      | (go_at_call 48; go_split_ands; refine (G2.out _ _ _ _ _ (by assumption) (by assumption) (by assumption) (by assumption)).mono ?_; rintro e w2 ⟨b2, d2, rfl, q0, q1, q2, qb, qo, qB⟩; obtain ⟨hc2, hf2⟩ := bcell qB; have hz2 := qB.size; (try simp at hz2); (have hy2 : w.heap.size + 1 < w2.heap.size := by omega); clear G2)
      | (go_at_call 47; go_split_ands; refine (G3.out _ _ _ _ _ (by assumption) (by assumption) (by assumption) (by assumption)).mono ?_; rintro e w3 ⟨b3, d3, rfl, r0, r1, r2, rb, ro, rB⟩; obtain ⟨hc3, hf3⟩ := bcell rB; have hz3 := rB.size; (try simp at hz3); (have hy3 : w.heap.size + 1 < w3.heap.size := by omega); clear G3)))
  have hzd : U.drew.heap.size = U.heap.size := rfl
  have hd : ∀ b, Value.ownBlock (.slice b1 L1 d1) = some b → Value.ownBlock (.slice b3 L3 d3) ≠ some b := fun b e1 e3 => by
    have x1 := (po.lt b e1).2
    have x3 := (ro.lt b e3).1
    omega
  have o1 := ((po.on (qB.trans (rB.mono hz2))).set (B := w.heap.size + 1) (o := 0) (x := .slice b1 L1 d1) (by omega)).set (B := w.heap.size + 1) (o := 1) (x := .slice b2 L2 d2) (by omega) |>.set (B := w.heap.size + 1) (o := 2) (x := .slice b3 L3 d3) (by omega)
  have o2 := ((qo.on rB).set (B := w.heap.size + 1) (o := 0) (x := .slice b1 L1 d1) (by omega)).set (B := w.heap.size + 1) (o := 1) (x := .slice b2 L2 d2) (by omega) |>.set (B := w.heap.size + 1) (o := 2) (x := .slice b3 L3 d3) (by omega)
  have o3 := (ro.set (B := w.heap.size + 1) (o := 0) (x := .slice b1 L1 d1) (by omega)).set (B := w.heap.size + 1) (o := 1) (x := .slice b2 L2 d2) (by omega) |>.set (B := w.heap.size + 1) (o := 2) (x := .slice b3 L3 d3) (by omega)
  rename_i hHeld
  have hbe := hB.trans hHeld.2.2.2
  have j0 : w3.cell? ⟨w.heap.size + 1, 0, none⟩ = some (.slice none 0 0) := (hc3 _ _ hy2).trans ((hc2 _ _ hy1).trans ((hc1 _ _ hlt2).trans e0))
  have j1 : w3.cell? ⟨w.heap.size + 1, 1, none⟩ = some (.slice none 0 0) := (hc3 _ _ hy2).trans ((hc2 _ _ hy1).trans ((hc1 _ _ hlt2).trans e1))
  have j2 : w3.cell? ⟨w.heap.size + 1, 2, none⟩ = some (.slice none 0 0) := (hc3 _ _ hy2).trans ((hc2 _ _ hy1).trans ((hc1 _ _ hlt2).trans e2))
  clear hHeld hc1 hc2 hc3 hf1 hf2 hf3 pB qB rB
  go_wp2
  refine bodyPost_ret (v := .agg #[.slice b1 L1 d1, .slice b2 L2 d2, .slice b3 L3 d3]) (by simp [results, Try.results39, go_sem, j0, j1, j2]) rfl ⟨_, _, _, rfl, o1.mono (by omega), o2.mono (by omega), o3.mono (by omega), hd, hbe⟩
end Go.Proofs.Ytbalebnhjpjhgaa
