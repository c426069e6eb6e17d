/- RE, RF -/
import Derived.Test.YtbalebnhjpjhgaaZ6
set_option linter.unusedVariables false
set_option linter.unusedSimpArgs false
/- The document's Right of any slots; New; Same. -/
namespace Go.Proofs.Ytbalebnhjpjhgaa.L9
open Go.RowKit Go.Shelf
attribute [local go_sem] Oper.semAt_some
set_option linter.unusedSimpArgs false
set_option linter.unusedVariables false
set_option maxRecDepth 100000 in
set_option maxHeartbeats 4000000 in
theorem rright_c (a1 a2 a3 : Option Addr) (c1 c2 c3 L1 L2 L3 : Nat) (s : Sl) (h1 : s.g.length = L1) (h2 : s.u.length = L2) (h3 : s.f.length = L3) (l3 : L3 ≤ 1000) (w : World) (h : SlotsAt w.heap.size w a1 a2 a3 s.g s.u s.f) :
    Calls Try.prog 15 #[.agg #[.slice a1 L1 c1, .slice a2 L2 c2, .slice a3 L3 c3]] w fun e w' => e = .returned (.bool s.right) ∧ Below w.heap.size w w' := by
  by_cases p1 : L1 < 1
  · have HF := Lib.hid (rf_len (s := s) (by omega))
    have i1 : (L1 : Int) < 1 := by omega
    obtain rfl : L1 = 0 := by omega
    clear h1 h2 h3 h
    go_enter Try.func15, Try.ntmps15
    go_wp2
    go_ret
    exact ⟨ret_bool HF.out.symm, below_alloc w _⟩
  by_cases p2 : 64 < L1
  · have HF := Lib.hid (rf_len (s := s) (by omega))
    have i1 : ¬ (L1 : Int) < 1 := by omega
    have i2 : (L1 : Int) > 64 := by omega
    clear h1 h2 h3 h
    go_enter Try.func15, Try.ntmps15
    go_wp2
    go_ret
    exact ⟨ret_bool HF.out.symm, below_alloc w _⟩
  by_cases p3 : L2 = L1
  · subst p3
    exact rright_in a1 a2 a3 c1 c2 c3 L2 L3 s h1 h2 h3 (by omega) (by omega) l3 w h
  · have HF := Lib.hid (rf_len (s := s) (by omega))
    have i1 : ¬ (L1 : Int) < 1 := by omega
    have i2 : ¬ (L1 : Int) > 64 := by omega
    have i3 : ((L2 : Int) == (L1 : Int)) = false := by rw [beq_eq_false_iff_ne]; omega
    have i4 : ¬ (L2 : Int) = (L1 : Int) := by omega
    clear h1 h2 h3 h
    go_enter Try.func15, Try.ntmps15
    go_wp2
    go_ret
    exact ⟨ret_bool HF.out.symm, below_alloc w _⟩
set_option maxRecDepth 100000 in
set_option maxHeartbeats 1000000 in
theorem rnew_wrong (n : Int) (w : World) (h : n < 1 ∨ 64 < n) :
    Calls Try.prog 12 #[.int .i64 n] w fun e w' => e = .returned (.tuple #[nilV, .int .i64 2]) ∧ Below w.heap.size w w' := by
  obtain ⟨e0, e1, e2, f0, f1, f2⟩ := Fr3.new w 25
  by_cases h1 : n < 1
  · clear h
    go_enter Try.func12, Try.ntmps12
    go_wp2
    refine bodyPost_ret (v := .tuple #[nilV, .int .i64 2]) (by simp [results, Try.results12, go_sem, nilV, e0, e1, e2]) rfl ⟨rfl, ?_⟩
    exact (Below.refl _ _).alloc (Nat.le_refl _) _
  · have h2 : 64 < n := by omega
    clear h
    go_enter Try.func12, Try.ntmps12
    go_wp2
    refine bodyPost_ret (v := .tuple #[nilV, .int .i64 2]) (by simp [results, Try.results12, go_sem, nilV, e0, e1, e2]) rfl ⟨rfl, ?_⟩
    exact (Below.refl _ _).alloc (Nat.le_refl _) _
set_option maxRecDepth 100000 in
set_option maxHeartbeats 2000000 in
theorem rnew_ok (n : Nat) (h1 : 1 ≤ n) (h2 : n ≤ 64) (w : World) :
    Calls Try.prog 12 #[.int .i64 n] w fun e w' => ∃ b1 b2 b3 d1 d2 d3, e = .returned (.tuple #[.agg #[.slice b1 n d1, .slice b2 n d2, .slice b3 n d3], .int .i64 0]) ∧
      SlotsAt w'.heap.size w' b1 b2 b3 (newS n).g (newS n).u (newS n).f ∧ Below w.heap.size w w' := by
  obtain ⟨i0, hi0, hz0, hz1, hz2⟩ := info_parts info3
  have hmI := make_ints n (by omega)
  have hmB := make_bools n (by omega)
  have i1 : ¬ (n : Int) < 1 := by omega
  have i2 : (n : Int) ≤ 64 := by omega
  go_enter Try.func12, Try.ntmps12
  go_upto_region 3 with fail
  go_cut [4] from 13 (fun t wx => ∃ T g1 g2, t = .pointer (some ⟨T, 0, none⟩) ∧ Laid w n T g1 g2 wx)
  case first =>
    go_region
    all_goals go_wp2_with fail
    all_goals
      go_meet
      first
        | exact ⟨w.heap.size + 1, w.heap.size + 1 + 1, w.heap.size + 1 + 1 + 1, rfl, (by go_simp), (by go_simp), (by go_simp), (by go_simp), OwnI.dr (OwnI.al (ownI_made' _ _ _ _ (by omega) (by simp) (by simp))), OwnB.dr (ownB_made' _ _ _ _ (by omega) (by simp) (by simp)), (by omega), (by omega), (by omega), (by constructor <;> go_simp), below_drew (((((Below.refl _ _).alloc (Nat.le_refl _) _).alloc (by simp) _).alloc (by simp; omega) _).alloc (by simp; omega) _)⟩
        | exact ⟨w.heap.size + 1, w.heap.size + 1 + 1 + 1, w.heap.size + 1 + 1, rfl, (by go_simp), (by go_simp), (by go_simp), (by go_simp), OwnI.dr (ownI_made' _ _ _ _ (by omega) (by simp) (by simp)), OwnB.dr (OwnB.al (ownB_made' _ _ _ _ (by omega) (by simp) (by simp))), (by omega), (by omega), (by omega), (by constructor <;> go_simp), below_drew (((((Below.refl _ _).alloc (Nat.le_refl _) _).alloc (by simp) _).alloc (by simp; omega) _).alloc (by simp; omega) _)⟩
        | exact ⟨w.heap.size + 1 + 1, w.heap.size + 1, w.heap.size + 1 + 1 + 1, rfl, (by go_simp), (by go_simp), (by go_simp), (by go_simp), OwnI.dr (OwnI.al (OwnI.al (ownI_made' _ _ _ _ (by omega) (by simp) (by simp)))), OwnB.dr (ownB_made' _ _ _ _ (by omega) (by simp) (by simp)), (by omega), (by omega), (by omega), (by constructor <;> go_simp), below_drew (((((Below.refl _ _).alloc (Nat.le_refl _) _).alloc (by simp) _).alloc (by simp; omega) _).alloc (by simp; omega) _)⟩
        | exact ⟨w.heap.size + 1 + 1, w.heap.size + 1 + 1 + 1, w.heap.size + 1, rfl, (by go_simp), (by go_simp), (by go_simp), (by go_simp), OwnI.dr (ownI_made' _ _ _ _ (by omega) (by simp) (by simp)), OwnB.dr (OwnB.al (OwnB.al (ownB_made' _ _ _ _ (by omega) (by simp) (by simp)))), (by omega), (by omega), (by omega), (by constructor <;> go_simp), below_drew (((((Below.refl _ _).alloc (Nat.le_refl _) _).alloc (by simp) _).alloc (by simp; omega) _).alloc (by simp; omega) _)⟩
        | exact ⟨w.heap.size + 1 + 1 + 1, w.heap.size + 1, w.heap.size + 1 + 1, rfl, (by go_simp), (by go_simp), (by go_simp), (by go_simp), OwnI.dr (OwnI.al (OwnI.al (ownI_made' _ _ _ _ (by omega) (by simp) (by simp)))), OwnB.dr (OwnB.al (ownB_made' _ _ _ _ (by omega) (by simp) (by simp))), (by omega), (by omega), (by omega), (by constructor <;> go_simp), below_drew (((((Below.refl _ _).alloc (Nat.le_refl _) _).alloc (by simp) _).alloc (by simp; omega) _).alloc (by simp; omega) _)⟩
        | exact ⟨w.heap.size + 1 + 1 + 1, w.heap.size + 1 + 1, w.heap.size + 1, rfl, (by go_simp), (by go_simp), (by go_simp), (by go_simp), OwnI.dr (OwnI.al (ownI_made' _ _ _ _ (by omega) (by simp) (by simp))), OwnB.dr (OwnB.al (OwnB.al (ownB_made' _ _ _ _ (by omega) (by simp) (by simp)))), (by omega), (by omega), (by omega), (by constructor <;> go_simp), below_drew (((((Below.refl _ _).alloc (Nat.le_refl _) _).alloc (by simp) _).alloc (by simp; omega) _).alloc (by simp; omega) _)⟩
  case rest =>
    obtain ⟨T, g1, g2, rfl, hL⟩ := hcut
    have LL := Lib.hid hL
    have t0 := hL.t0
    have t1 := hL.t1
    have t2 := hL.t2
    have f2 := hL.f2
    have hTV : T < wc.heap.size := blt t0
    have h00 : w.heap.size < T := hL.lt
    clear hL hmI hmB
    generalize wc = V at *
    go_wp2_with fail
    go_loopw [5] (fun i wr => ∃ (k : Nat) (v3 : Value), k ≤ n ∧ i = .int .i64 ((n : Int) - 1 - (k : Int)) ∧ V.grownBy wr (some T) ∧ wr.cell? ⟨T, 0, none⟩ = some (.slice (some ⟨g1, 0, none⟩) n n) ∧ wr.cell? ⟨T, 1, none⟩ = some (.slice (some ⟨g2, 0, none⟩) n n) ∧
        wr.cell? ⟨T, 2, none⟩ = some v3 ∧ wr.frozen? ⟨T, 2, none⟩ = false ∧ OwnI V.heap.size wr v3 (frees n k)) (fun i _ => (intOf i + 1).toNat)
    case atStart => exact ⟨0, _, Nat.zero_le _, by simp, ⟨rfl, rfl, rfl, Nat.le_refl _, fun _ _ _ => rfl⟩, t0, t1, t2, f2, World.ownsRow_nil _ _ _ _⟩
    case round =>
      clear t0 t1 t2 f2
      obtain ⟨k, v3, hk, rfl, hg, c0, c1, c2, cf, ho⟩ := hrel
      obtain ⟨a3, d3, rfl, _⟩ := ho.form
      rw [frees_length] at c2 ho
      have hTr : T < wr.heap.size := blt c0
      have hVr := hg.size
      have HO := Lib.hid (show wr.ownsRow V.heap.size 3 1 (.slice a3 k d3) k (intVs (frees n k)) by have := ho; unfold OwnI at this; rwa [frees_length] at this)
      have HOO := Lib.hid ho
      have HG := Lib.hid hg
      have hTo : Value.ownBlock (.slice a3 k d3) ≠ some T := fun e => by have := (ho.lt T e).1; omega
      have hlo : ∀ b, Value.ownBlock (.slice a3 k d3) = some b → V.heap.size ≤ b := fun b e => (ho.lt b e).1
      clear ho hg
      by_cases hlt : k < n
      · obtain ⟨p, hp⟩ : ∃ p : Int, p = (n : Int) - 1 - (k : Int) := ⟨_, rfl⟩
        rw [← hp]
        have hp0 : 0 ≤ p := by omega
        have hp1 : p ≤ 64 := by omega
        have HP := Lib.hid hp
        have hz : (0 : Int) ≤ p := hp0
        clear hp
        go_wp2_with (refine wpList_append_lies _ rfl _ _ _ rfl V.heap.size 3 i0 _ 1 8 Try.underlying22 hi0 hz0 hz1 hz2 rfl (by omega) (.slice a3 k d3) k (intVs (frees n k)) rfl (HO.out.alloc _) ⟨wr.heap.size, 0, none⟩ 1 1 [.int .i64 p] rfl (by rfl) (cell_one_new _ _ _) (by simp [Value.oneCell']) (by omega) (by simp [maxLen]; omega) (by omega) (by simp; omega) _ rfl ?_; intro gg cap1 w5 hown hgrow hat hlt5; have HOW := Lib.hid hown; have HGW := Lib.hid hgrow; clear hown hgrow hat; have y0 := (HGW.out.cell_far ⟨T, 0, none⟩ (by simp; omega) hTo.symm).trans (keep_alloc _ c0); have y1 := (HGW.out.cell_far ⟨T, 1, none⟩ (by simp; omega) hTo.symm).trans (keep_alloc _ c1); have y2 := (HGW.out.cell_far ⟨T, 2, none⟩ (by simp; omega) hTo.symm).trans (keep_alloc _ c2); have yf2 := (HGW.out.frozen_far ⟨T, 2, none⟩ (by simp; omega) hTo.symm).trans (keep_alloc_f _ c2 cf))
        have HN := Lib.hid (show OwnI V.heap.size w5 (.slice (some ⟨gg, 0, none⟩) (k + 1) cap1) (frees n (k + 1)) by
          unfold OwnI
          rw [frees_length, frees_succ, ← HP.out]
          simpa [intVs] using HOW.out)
        have HK := Lib.hid (grow_step HG.out HGW.out hlo 2 (.slice (some ⟨gg, 0, none⟩) (k + 1) cap1))
        have hgT : gg ≠ T := fun e => by have := (HN.out.lt gg rfl).1; omega
        go_roundw
        case rel => exact ⟨k + 1, _, by omega, by rw [HP.out]; congr 1; omega, HK.out, (World.cell?_setCell_other _ _ _ _ (by simp)).trans y0, (World.cell?_setCell_other _ _ _ _ (by simp)).trans y1, World.cell?_setCell_same' _ _ _ (by rw [y2]; rfl), (World.frozen?_setCell ..).trans yf2, HN.out.set_ne hgT⟩
        case measure => simp [intOf]; omega
      · obtain rfl : k = n := by omega
        have hm1 : (k : Int) - 1 - (k : Int) = -1 := by omega
        rw [hm1]
        have hne0 : Value.ownBlock (.slice a3 k d3) ≠ some w.heap.size := fun e => by have := hlo _ e; omega
        have hwV : w.heap.size < V.heap.size := by omega
        obtain ⟨e0, e1, e2, f0, f1, f3⟩ := LL.out.r.far HG.out hwV (fun e => by cases e; omega)
        have hwT : w.heap.size ≠ T := by omega
        have P1 := Lib.hid (OwnI.at' ((LL.out.o1.far HG.out LL.out.n1).set3 (B2 := w.heap.size) (by omega) (.slice (some ⟨g1, 0, none⟩) k k) (.slice (some ⟨g2, 0, none⟩) k k) (.slice a3 k d3)))
        have P2 := Lib.hid (OwnB.at' ((LL.out.o2.far HG.out LL.out.n2).set3 (B2 := w.heap.size) (by omega) (.slice (some ⟨g1, 0, none⟩) k k) (.slice (some ⟨g2, 0, none⟩) k k) (.slice a3 k d3)))
        have P3 := Lib.hid (OwnI.at' (HOO.out.set3 (B2 := w.heap.size) (by omega) (.slice (some ⟨g1, 0, none⟩) k k) (.slice (some ⟨g2, 0, none⟩) k k) (.slice a3 k d3)))
        have P4 := Lib.hid (below_set3 (LL.out.b.grown HG.out (by omega) (fun b e => by cases e; omega)) (Nat.le_refl w.heap.size) (.slice (some ⟨g1, 0, none⟩) k k) (.slice (some ⟨g2, 0, none⟩) k k) (.slice a3 k d3))
        go_wp2
        refine bodyPost_ret (v := .tuple #[.agg #[.slice (some ⟨g1, 0, none⟩) k k, .slice (some ⟨g2, 0, none⟩) k k, .slice a3 k d3], .int .i64 0]) (by simp [results, Try.results12, go_sem, e0, e1, e2]) rfl ⟨_, _, _, _, _, _, rfl, ⟨P1.out, P2.out, P3.out⟩, P4.out⟩
theorem rnew_to (n : Int) (t : Sl) (er : Int) (ht : newE n = (t, er)) (M1 M2 M3 : Nat) (m1 : t.g.length = M1) (m2 : t.u.length = M2) (m3 : t.f.length = M3) (w : World) :
    Calls Try.prog 12 #[.int .i64 n] w fun e w' => ∃ b1 b2 b3 d1 d2 d3, e = .returned (.tuple #[.agg #[.slice b1 M1 d1, .slice b2 M2 d2, .slice b3 M3 d3], .int .i64 er]) ∧
      SlotsAt w'.heap.size w' b1 b2 b3 t.g t.u t.f ∧ Below w.heap.size w w' := by
  unfold newE at ht
  by_cases h : 1 ≤ n ∧ n ≤ 64
  · rw [if_pos h] at ht
    simp only [Prod.mk.injEq] at ht
    obtain ⟨rfl, rfl⟩ := ht
    obtain ⟨k, rfl⟩ : ∃ k : Nat, n = k := ⟨n.toNat, by omega⟩
    simp only [newS, Int.toNat_natCast, List.length_replicate, frees_length] at m1 m2 m3
    subst m1 m2 m3
    exact rnew_ok k (by omega) (by omega) w
  · rw [if_neg h] at ht
    simp only [Prod.mk.injEq] at ht
    obtain ⟨rfl, rfl⟩ := ht
    simp only [nilS, List.length_nil] at m1 m2 m3
    subst m1 m2 m3
    refine (rnew_wrong n w (by omega)).mono ?_
    rintro e w' ⟨rfl, hb⟩
    exact ⟨_, _, _, _, _, _, rfl, nil_at _ _ _ _ _, hb⟩
def eqS (s t : Sl) : Bool := decide (s.g = t.g) && decide (s.u = t.u) && decide (s.f = t.f)
theorem eqS_self (s : Sl) : eqS s s = true := by simp [eqS]
set_option maxRecDepth 100000 in
set_option maxHeartbeats 4000000 in
theorem same_c (a1 a2 a3 : Option Addr) (c1 c2 c3 L1 L2 L3 : Nat) (s : Sl) (h1 : s.g.length = L1) (h2 : s.u.length = L2) (h3 : s.f.length = L3) (b1 b2 b3 : Option Addr) (d1 d2 d3 M1 M2 M3 : Nat) (t : Sl) (k1 : t.g.length = M1) (k2 : t.u.length = M2) (k3 : t.f.length = M3) (l1 : L1 ≤ 1000) (l2 : L2 ≤ 1000) (l3 : L3 ≤ 1000) (m1 : M1 ≤ 1000) (m2 : M2 ≤ 1000) (m3 : M3 ≤ 1000) (w : World) (h : SlotsAt w.heap.size w a1 a2 a3 s.g s.u s.f) (k : SlotsAt w.heap.size w b1 b2 b3 t.g t.u t.f) :
    Calls Try.prog 16 #[.agg #[.slice a1 L1 c1, .slice a2 L2 c2, .slice a3 L3 c3], .agg #[.slice b1 M1 d1, .slice b2 M2 d2, .slice b3 M3 d3]] w fun e w' => e = .returned (.bool (eqS s t)) ∧ Below w.heap.size w w' := by
  have G1 := Lib.hid (fun W (hb : Below w.heap.size w W) => (by have := equalI_c a1 b1 c1 d1 s.g t.g W (by omega) (by omega) ((h.g.below hb).mono hb.size) ((k.g.below hb).mono hb.size); rw [h1, k1] at this; exact this : Calls Try.prog 31 #[.slice a1 L1 c1, .slice b1 M1 d1] W fun e w' => e = .returned (.bool (decide (s.g = t.g))) ∧ Below W.heap.size W w'))
  have G2 := Lib.hid (fun W (hb : Below w.heap.size w W) => (by have := equalB_c a2 b2 c2 d2 s.u t.u W (by omega) (by omega) ((h.u.below hb).mono hb.size) ((k.u.below hb).mono hb.size); rw [h2, k2] at this; exact this : Calls Try.prog 32 #[.slice a2 L2 c2, .slice b2 M2 d2] W fun e w' => e = .returned (.bool (decide (s.u = t.u))) ∧ Below W.heap.size W w'))
  have G3 := Lib.hid (fun W (hb : Below w.heap.size w W) => (by have := equalI_c a3 b3 c3 d3 s.f t.f W (by omega) (by omega) ((h.f.below hb).mono hb.size) ((k.f.below hb).mono hb.size); rw [h3, k3] at this; exact this : Calls Try.prog 31 #[.slice a3 L3 c3, .slice b3 M3 d3] W fun e w' => e = .returned (.bool (decide (s.f = t.f))) ∧ Below W.heap.size W w'))
  have hB : Below w.heap.size w ((w.alloc (.cells #[.slice a1 L1 c1, .slice a2 L2 c2, .slice a3 L3 c3] 25)).alloc (.cells #[.slice b1 M1 d1, .slice b2 M2 d2, .slice b3 M3 d3] 25)) := ((Below.refl _ _).alloc (Nat.le_refl _) _).alloc (by simp) _
  have hz : ((w.alloc (.cells #[.slice a1 L1 c1, .slice a2 L2 c2, .slice a3 L3 c3] 25)).alloc (.cells #[.slice b1 M1 d1, .slice b2 M2 d2, .slice b3 M3 d3] 25)).heap.size = w.heap.size + 2 := by simp
  have x0 : ((w.alloc (.cells #[.slice a1 L1 c1, .slice a2 L2 c2, .slice a3 L3 c3] 25)).alloc (.cells #[.slice b1 M1 d1, .slice b2 M2 d2, .slice b3 M3 d3] 25)).cell? ⟨w.heap.size, 0, none⟩ = some (.slice a1 L1 c1) := by go_simp
  have x1 : ((w.alloc (.cells #[.slice a1 L1 c1, .slice a2 L2 c2, .slice a3 L3 c3] 25)).alloc (.cells #[.slice b1 M1 d1, .slice b2 M2 d2, .slice b3 M3 d3] 25)).cell? ⟨w.heap.size, 1, none⟩ = some (.slice a2 L2 c2) := by go_simp
  have x2 : ((w.alloc (.cells #[.slice a1 L1 c1, .slice a2 L2 c2, .slice a3 L3 c3] 25)).alloc (.cells #[.slice b1 M1 d1, .slice b2 M2 d2, .slice b3 M3 d3] 25)).cell? ⟨w.heap.size, 2, none⟩ = some (.slice a3 L3 c3) := by go_simp
  have y0 : ((w.alloc (.cells #[.slice a1 L1 c1, .slice a2 L2 c2, .slice a3 L3 c3] 25)).alloc (.cells #[.slice b1 M1 d1, .slice b2 M2 d2, .slice b3 M3 d3] 25)).cell? ⟨w.heap.size + 1, 0, none⟩ = some (.slice b1 M1 d1) := by go_simp
  have y1 : ((w.alloc (.cells #[.slice a1 L1 c1, .slice a2 L2 c2, .slice a3 L3 c3] 25)).alloc (.cells #[.slice b1 M1 d1, .slice b2 M2 d2, .slice b3 M3 d3] 25)).cell? ⟨w.heap.size + 1, 1, none⟩ = some (.slice b2 M2 d2) := by go_simp
  have y2 : ((w.alloc (.cells #[.slice a1 L1 c1, .slice a2 L2 c2, .slice a3 L3 c3] 25)).alloc (.cells #[.slice b1 M1 d1, .slice b2 M2 d2, .slice b3 M3 d3] 25)).cell? ⟨w.heap.size + 1, 2, none⟩ = some (.slice b3 M3 d3) := by go_simp
  have HB := Lib.hid hB
  unfold eqS
  clear h k hB h1 h2 h3 k1 k2 k3
  generalize decide (s.g = t.g) = B1 at *
  generalize decide (s.u = t.u) = B2 at *
  generalize decide (s.f = t.f) = B3 at *
  cases B1 <;> cases B2
  all_goals
    go_enter Try.func16, Try.ntmps16
    go_wp2_with fail
    obtain ⟨T, hT⟩ : ∃ T, w.heap.size = T := ⟨_, rfl⟩
    rw [hT] at x0 x1 x2 y0 y1 y2 hz ⊢
    generalize ((w.alloc (.cells #[.slice a1 L1 c1, .slice a2 L2 c2, .slice a3 L3 c3] 25)).alloc (.cells #[.slice b1 M1 d1, .slice b2 M2 d2, .slice b3 M3 d3] 25)) = V at *
    go_wp2_with (first
    | (go_at_call 31; refine (G1.out _ HB.out).mono ?_; rintro e w1 ⟨rfl, hb⟩
       replace x0 := (hb.cell (p := ⟨T, 0, none⟩) (blt x0)).trans x0
       replace x1 := (hb.cell (p := ⟨T, 1, none⟩) (blt x1)).trans x1
       replace x2 := (hb.cell (p := ⟨T, 2, none⟩) (blt x2)).trans x2
       replace y0 := (hb.cell (p := ⟨T + 1, 0, none⟩) (blt y0)).trans y0
       replace y1 := (hb.cell (p := ⟨T + 1, 1, none⟩) (blt y1)).trans y1
       replace y2 := (hb.cell (p := ⟨T + 1, 2, none⟩) (blt y2)).trans y2
       have HB2 := Lib.hid (btr HB.out hb)
       clear HB hb
       have HB := HB2
       clear HB2 G1)
    | (go_at_call 32; refine (G2.out _ HB.out).mono ?_; rintro e w1 ⟨rfl, hb⟩
       replace x0 := (hb.cell (p := ⟨T, 0, none⟩) (blt x0)).trans x0
       replace x1 := (hb.cell (p := ⟨T, 1, none⟩) (blt x1)).trans x1
       replace x2 := (hb.cell (p := ⟨T, 2, none⟩) (blt x2)).trans x2
       replace y0 := (hb.cell (p := ⟨T + 1, 0, none⟩) (blt y0)).trans y0
       replace y1 := (hb.cell (p := ⟨T + 1, 1, none⟩) (blt y1)).trans y1
       replace y2 := (hb.cell (p := ⟨T + 1, 2, none⟩) (blt y2)).trans y2
       have HB2 := Lib.hid (btr HB.out hb)
       clear HB hb
       have HB := HB2
       clear HB2 G2)
    | (go_at_call 31; refine (G3.out _ HB.out).mono ?_; rintro e w1 ⟨rfl, hb⟩
       replace x0 := (hb.cell (p := ⟨T, 0, none⟩) (blt x0)).trans x0
       replace x1 := (hb.cell (p := ⟨T, 1, none⟩) (blt x1)).trans x1
       replace x2 := (hb.cell (p := ⟨T, 2, none⟩) (blt x2)).trans x2
       replace y0 := (hb.cell (p := ⟨T + 1, 0, none⟩) (blt y0)).trans y0
       replace y1 := (hb.cell (p := ⟨T + 1, 1, none⟩) (blt y1)).trans y1
       replace y2 := (hb.cell (p := ⟨T + 1, 2, none⟩) (blt y2)).trans y2
       have HB2 := Lib.hid (btr HB.out hb)
       clear HB hb
       have HB := HB2
       clear HB2 G3))
    go_ret
    exact ⟨rfl, HB.out⟩
end Go.Proofs.Ytbalebnhjpjhgaa.L9

/- The document's Same. -/
namespace Go.Proofs.Ytbalebnhjpjhgaa.L9
open Go.RowKit Go.Shelf
attribute [local go_sem] Oper.semAt_some
set_option linter.unusedSimpArgs false
set_option linter.unusedVariables false
set_option maxRecDepth 100000 in
set_option maxHeartbeats 4000000 in
theorem rsame_c (a1 a2 a3 : Option Addr) (c1 c2 c3 L1 L2 L3 : Nat) (s : Sl) (h1 : s.g.length = L1) (h2 : s.u.length = L2) (h3 : s.f.length = L3) (b1 b2 b3 : Option Addr) (d1 d2 d3 M1 M2 M3 : Nat) (t : Sl) (k1 : t.g.length = M1) (k2 : t.u.length = M2) (k3 : t.f.length = M3) (l1 : L1 ≤ 1000) (l2 : L2 ≤ 1000) (l3 : L3 ≤ 1000) (m1 : M1 ≤ 1000) (m2 : M2 ≤ 1000) (m3 : M3 ≤ 1000) (w : World) (h : SlotsAt w.heap.size w a1 a2 a3 s.g s.u s.f) (k : SlotsAt w.heap.size w b1 b2 b3 t.g t.u t.f) :
    Calls Try.prog 13 #[.agg #[.slice a1 L1 c1, .slice a2 L2 c2, .slice a3 L3 c3], .agg #[.slice b1 M1 d1, .slice b2 M2 d2, .slice b3 M3 d3]] w fun e w' => e = .returned (.bool (eqS s t)) ∧ Below w.heap.size w w' := by
  have G1 := Lib.hid (fun W (hb : Below w.heap.size w W) => (by have := rints_c a1 b1 c1 d1 s.g t.g W (by omega) (by omega) ((h.g.below hb).mono hb.size) ((k.g.below hb).mono hb.size); rw [h1, k1] at this; exact this : Calls Try.prog 26 #[.slice a1 L1 c1, .slice b1 M1 d1] W fun e w' => e = .returned (.bool (decide (s.g = t.g))) ∧ Below W.heap.size W w'))
  have G3 := Lib.hid (fun W (hb : Below w.heap.size w W) => (by have := rints_c a3 b3 c3 d3 s.f t.f W (by omega) (by omega) ((h.f.below hb).mono hb.size) ((k.f.below hb).mono hb.size); rw [h3, k3] at this; exact this : Calls Try.prog 26 #[.slice a3 L3 c3, .slice b3 M3 d3] W fun e w' => e = .returned (.bool (decide (s.f = t.f))) ∧ Below W.heap.size W w'))
  have hB : Below w.heap.size w ((w.alloc (.cells #[.slice a1 L1 c1, .slice a2 L2 c2, .slice a3 L3 c3] 25)).alloc (.cells #[.slice b1 M1 d1, .slice b2 M2 d2, .slice b3 M3 d3] 25)) := ((Below.refl _ _).alloc (Nat.le_refl _) _).alloc (by simp) _
  have hz : ((w.alloc (.cells #[.slice a1 L1 c1, .slice a2 L2 c2, .slice a3 L3 c3] 25)).alloc (.cells #[.slice b1 M1 d1, .slice b2 M2 d2, .slice b3 M3 d3] 25)).heap.size = w.heap.size + 2 := by simp
  have x0 : ((w.alloc (.cells #[.slice a1 L1 c1, .slice a2 L2 c2, .slice a3 L3 c3] 25)).alloc (.cells #[.slice b1 M1 d1, .slice b2 M2 d2, .slice b3 M3 d3] 25)).cell? ⟨w.heap.size, 0, none⟩ = some (.slice a1 L1 c1) := by go_simp
  have x1 : ((w.alloc (.cells #[.slice a1 L1 c1, .slice a2 L2 c2, .slice a3 L3 c3] 25)).alloc (.cells #[.slice b1 M1 d1, .slice b2 M2 d2, .slice b3 M3 d3] 25)).cell? ⟨w.heap.size, 1, none⟩ = some (.slice a2 L2 c2) := by go_simp
  have x2 : ((w.alloc (.cells #[.slice a1 L1 c1, .slice a2 L2 c2, .slice a3 L3 c3] 25)).alloc (.cells #[.slice b1 M1 d1, .slice b2 M2 d2, .slice b3 M3 d3] 25)).cell? ⟨w.heap.size, 2, none⟩ = some (.slice a3 L3 c3) := by go_simp
  have y0 : ((w.alloc (.cells #[.slice a1 L1 c1, .slice a2 L2 c2, .slice a3 L3 c3] 25)).alloc (.cells #[.slice b1 M1 d1, .slice b2 M2 d2, .slice b3 M3 d3] 25)).cell? ⟨w.heap.size + 1, 0, none⟩ = some (.slice b1 M1 d1) := by go_simp
  have y1 : ((w.alloc (.cells #[.slice a1 L1 c1, .slice a2 L2 c2, .slice a3 L3 c3] 25)).alloc (.cells #[.slice b1 M1 d1, .slice b2 M2 d2, .slice b3 M3 d3] 25)).cell? ⟨w.heap.size + 1, 1, none⟩ = some (.slice b2 M2 d2) := by go_simp
  have y2 : ((w.alloc (.cells #[.slice a1 L1 c1, .slice a2 L2 c2, .slice a3 L3 c3] 25)).alloc (.cells #[.slice b1 M1 d1, .slice b2 M2 d2, .slice b3 M3 d3] 25)).cell? ⟨w.heap.size + 1, 2, none⟩ = some (.slice b3 M3 d3) := by go_simp
  have HB := Lib.hid hB
  have HSu := Lib.hid h.u
  have HKu := Lib.hid k.u
  have HL := Lib.hid (And.intro h2 k2)
  unfold eqS
  clear h k hB h1 h2 h3 k1 k2 k3
  generalize decide (s.g = t.g) = B1 at *
  generalize decide (s.f = t.f) = B3 at *
  cases B1
  · rw [show (false && decide (s.u = t.u) && B3) = false from rfl]
    go_enter Try.func13, Try.ntmps13
    go_wp2_with fail
    obtain ⟨T, hT⟩ : ∃ T, w.heap.size = T := ⟨_, rfl⟩
    rw [hT] at x0 x1 x2 y0 y1 y2 hz ⊢
    have HTT := Lib.hid hT
    generalize ((w.alloc (.cells #[.slice a1 L1 c1, .slice a2 L2 c2, .slice a3 L3 c3] 25)).alloc (.cells #[.slice b1 M1 d1, .slice b2 M2 d2, .slice b3 M3 d3] 25)) = V at *
    go_wp2_with (first
    | (go_at_call 26; refine (G1.out _ HB.out).mono ?_; rintro e w1 ⟨rfl, hb⟩
       replace x0 := (hb.cell (p := ⟨T, 0, none⟩) (blt x0)).trans x0
       replace x1 := (hb.cell (p := ⟨T, 1, none⟩) (blt x1)).trans x1
       replace x2 := (hb.cell (p := ⟨T, 2, none⟩) (blt x2)).trans x2
       replace y0 := (hb.cell (p := ⟨T + 1, 0, none⟩) (blt y0)).trans y0
       replace y1 := (hb.cell (p := ⟨T + 1, 1, none⟩) (blt y1)).trans y1
       replace y2 := (hb.cell (p := ⟨T + 1, 2, none⟩) (blt y2)).trans y2
       have HB2 := Lib.hid (btr HB.out hb)
       clear HB hb
       have HB := HB2
       clear HB2 G1)
    | (go_at_call 26; refine (G3.out _ HB.out).mono ?_; rintro e w1 ⟨rfl, hb⟩
       replace x0 := (hb.cell (p := ⟨T, 0, none⟩) (blt x0)).trans x0
       replace x1 := (hb.cell (p := ⟨T, 1, none⟩) (blt x1)).trans x1
       replace x2 := (hb.cell (p := ⟨T, 2, none⟩) (blt x2)).trans x2
       replace y0 := (hb.cell (p := ⟨T + 1, 0, none⟩) (blt y0)).trans y0
       replace y1 := (hb.cell (p := ⟨T + 1, 1, none⟩) (blt y1)).trans y1
       replace y2 := (hb.cell (p := ⟨T + 1, 2, none⟩) (blt y2)).trans y2
       have HB2 := Lib.hid (btr HB.out hb)
       clear HB hb
       have HB := HB2
       clear HB2 G3))
    go_ret
    exact ⟨rfl, HB.out⟩
  cases B3
  · rw [show (true && decide (s.u = t.u) && false) = false by simp]
    go_enter Try.func13, Try.ntmps13
    go_wp2_with fail
    obtain ⟨T, hT⟩ : ∃ T, w.heap.size = T := ⟨_, rfl⟩
    rw [hT] at x0 x1 x2 y0 y1 y2 hz ⊢
    have HTT := Lib.hid hT
    generalize ((w.alloc (.cells #[.slice a1 L1 c1, .slice a2 L2 c2, .slice a3 L3 c3] 25)).alloc (.cells #[.slice b1 M1 d1, .slice b2 M2 d2, .slice b3 M3 d3] 25)) = V at *
    go_wp2_with (first
    | (go_at_call 26; refine (G1.out _ HB.out).mono ?_; rintro e w1 ⟨rfl, hb⟩
       replace x0 := (hb.cell (p := ⟨T, 0, none⟩) (blt x0)).trans x0
       replace x1 := (hb.cell (p := ⟨T, 1, none⟩) (blt x1)).trans x1
       replace x2 := (hb.cell (p := ⟨T, 2, none⟩) (blt x2)).trans x2
       replace y0 := (hb.cell (p := ⟨T + 1, 0, none⟩) (blt y0)).trans y0
       replace y1 := (hb.cell (p := ⟨T + 1, 1, none⟩) (blt y1)).trans y1
       replace y2 := (hb.cell (p := ⟨T + 1, 2, none⟩) (blt y2)).trans y2
       have HB2 := Lib.hid (btr HB.out hb)
       clear HB hb
       have HB := HB2
       clear HB2 G1)
    | (go_at_call 26; refine (G3.out _ HB.out).mono ?_; rintro e w1 ⟨rfl, hb⟩
       replace x0 := (hb.cell (p := ⟨T, 0, none⟩) (blt x0)).trans x0
       replace x1 := (hb.cell (p := ⟨T, 1, none⟩) (blt x1)).trans x1
       replace x2 := (hb.cell (p := ⟨T, 2, none⟩) (blt x2)).trans x2
       replace y0 := (hb.cell (p := ⟨T + 1, 0, none⟩) (blt y0)).trans y0
       replace y1 := (hb.cell (p := ⟨T + 1, 1, none⟩) (blt y1)).trans y1
       replace y2 := (hb.cell (p := ⟨T + 1, 2, none⟩) (blt y2)).trans y2
       have HB2 := Lib.hid (btr HB.out hb)
       clear HB hb
       have HB := HB2
       clear HB2 G3))
    go_ret
    exact ⟨rfl, HB.out⟩
  rw [show (true && decide (s.u = t.u) && true) = decide (s.u = t.u) by simp]
  by_cases hlen : L2 = M2
  · subst hlen
    go_enter Try.func13, Try.ntmps13
    go_wp2_with fail
    obtain ⟨T, hT⟩ : ∃ T, w.heap.size = T := ⟨_, rfl⟩
    rw [hT] at x0 x1 x2 y0 y1 y2 hz ⊢
    have HTT := Lib.hid hT
    generalize ((w.alloc (.cells #[.slice a1 L1 c1, .slice a2 L2 c2, .slice a3 L3 c3] 25)).alloc (.cells #[.slice b1 M1 d1, .slice b2 L2 d2, .slice b3 M3 d3] 25)) = V at *
    go_wp2_with (first
    | (go_at_call 26; refine (G1.out _ HB.out).mono ?_; rintro e w1 ⟨rfl, hb⟩
       replace x0 := (hb.cell (p := ⟨T, 0, none⟩) (blt x0)).trans x0
       replace x1 := (hb.cell (p := ⟨T, 1, none⟩) (blt x1)).trans x1
       replace x2 := (hb.cell (p := ⟨T, 2, none⟩) (blt x2)).trans x2
       replace y0 := (hb.cell (p := ⟨T + 1, 0, none⟩) (blt y0)).trans y0
       replace y1 := (hb.cell (p := ⟨T + 1, 1, none⟩) (blt y1)).trans y1
       replace y2 := (hb.cell (p := ⟨T + 1, 2, none⟩) (blt y2)).trans y2
       have HB2 := Lib.hid (btr HB.out hb)
       clear HB hb
       have HB := HB2
       clear HB2 G1)
    | (go_at_call 26; refine (G3.out _ HB.out).mono ?_; rintro e w1 ⟨rfl, hb⟩
       replace x0 := (hb.cell (p := ⟨T, 0, none⟩) (blt x0)).trans x0
       replace x1 := (hb.cell (p := ⟨T, 1, none⟩) (blt x1)).trans x1
       replace x2 := (hb.cell (p := ⟨T, 2, none⟩) (blt x2)).trans x2
       replace y0 := (hb.cell (p := ⟨T + 1, 0, none⟩) (blt y0)).trans y0
       replace y1 := (hb.cell (p := ⟨T + 1, 1, none⟩) (blt y1)).trans y1
       replace y2 := (hb.cell (p := ⟨T + 1, 2, none⟩) (blt y2)).trans y2
       have HB2 := Lib.hid (btr HB.out hb)
       clear HB hb
       have HB := HB2
       clear HB2 G3))
    have HC := Lib.hid (And.intro x1 y1)
    have hwz := HB.out.size
    go_loopw [5] (fun i wr => Hid (Below w1.heap.size w1 wr) ∧ ∃ k : Nat, k ≤ L2 ∧ i = .int .i64 (k : Int) ∧ s.u.take k = t.u.take k) (fun i _ => L2 - (intOf i).toNat)
    case atStart => exact ⟨Lib.hid (Below.refl _ _), 0, Nat.zero_le _, rfl, rfl⟩
    case round =>
      have hT1 := blt y0
      clear x0 x1 x2 y0 y1 y2
      obtain ⟨HW, k, hk, rfl, ht⟩ := hrel
      have x1 := (HW.out.cell (p := ⟨T, 1, none⟩) (show T < _ by omega)).trans HC.out.1
      have y1 := (HW.out.cell (p := ⟨T + 1, 1, none⟩) (show T + 1 < _ by omega)).trans HC.out.2
      by_cases hlt : k < L2
      · have hkx : k < s.u.length := by have := HL.out; omega
        have hky : k < t.u.length := by have := HL.out; omega
        have HX2 := Lib.hid (HB.out.trans (HW.out.mono hwz))
        obtain ⟨p1, o1, rfl, _, q1⟩ := (HSu.out.below HX2.out) k hkx
        obtain ⟨p2, o2, rfl, _, q2⟩ := (HKu.out.below HX2.out) k hky
        have hlt' : (k : Int) < (L2 : Int) := by omega
        have HT := Lib.hid ht
        have HS := Lib.hid (And.intro (List.take_succ_eq_append_getElem (l := s.u) hkx) (List.take_succ_eq_append_getElem (l := t.u) hky))
        have HG := Lib.hid (show s.u[k] ≠ t.u[k] → s.u ≠ t.u from fun h e => h (by congr 1))
        generalize s.u[k] = x at *
        generalize t.u[k] = y at *
        clear ht
        by_cases hxy : x = y
        · subst hxy
          go_wp2
          go_quiet (fail)
          go_wp2
          go_roundw
          case rel => exact ⟨Lib.hid (below_drewN HW.out _), k + 1, by omega, by go_num, by rw [HS.out.1, HS.out.2, HT.out]⟩
          case measure => simp [intOf]; omega
        · have HF := Lib.hid (HG.out hxy)
          have hxy' : (x == y) = false := by cases x <;> cases y <;> simp at hxy ⊢
          go_wp2
          go_quiet (fail)
          go_wp2
          go_ret
          exact ⟨ret_bool (decide_eq_false HF.out).symm, below_drewN HX2.out _⟩
      · obtain rfl : L2 = k := by omega
        have he : s.u = t.u := by
          have h1 := List.take_of_length_le (l := s.u) (i := L2) (by have := HL.out; omega)
          have h2 := List.take_of_length_le (l := t.u) (i := L2) (by have := HL.out; omega)
          rw [← h1, ht, h2]
        have HF := Lib.hid he
        clear he ht
        have hlt' : ¬ (L2 : Int) < (L2 : Int) := by omega
        go_wp2
        go_ret
        exact ⟨ret_bool (decide_eq_true HF.out).symm, by first | exact HB.out.trans (HW.out.mono hwz) | (rw [← HTT.out]; exact HB.out.trans (HW.out.mono hwz))⟩
  · rw [decide_eq_false (show s.u ≠ t.u from fun e => hlen (by rw [← HL.out.1, ← HL.out.2, e]))]
    have hl2 : ((L2 : Int) == (M2 : Int)) = false := by rw [beq_eq_false_iff_ne]; omega
    have hl3 : ¬ L2 = M2 := hlen
    go_enter Try.func13, Try.ntmps13
    go_wp2_with fail
    obtain ⟨T, hT⟩ : ∃ T, w.heap.size = T := ⟨_, rfl⟩
    rw [hT] at x0 x1 x2 y0 y1 y2 hz ⊢
    have HTT := Lib.hid hT
    generalize ((w.alloc (.cells #[.slice a1 L1 c1, .slice a2 L2 c2, .slice a3 L3 c3] 25)).alloc (.cells #[.slice b1 M1 d1, .slice b2 M2 d2, .slice b3 M3 d3] 25)) = V at *
    go_wp2_with (first
    | (go_at_call 26; refine (G1.out _ HB.out).mono ?_; rintro e w1 ⟨rfl, hb⟩
       replace x0 := (hb.cell (p := ⟨T, 0, none⟩) (blt x0)).trans x0
       replace x1 := (hb.cell (p := ⟨T, 1, none⟩) (blt x1)).trans x1
       replace x2 := (hb.cell (p := ⟨T, 2, none⟩) (blt x2)).trans x2
       replace y0 := (hb.cell (p := ⟨T + 1, 0, none⟩) (blt y0)).trans y0
       replace y1 := (hb.cell (p := ⟨T + 1, 1, none⟩) (blt y1)).trans y1
       replace y2 := (hb.cell (p := ⟨T + 1, 2, none⟩) (blt y2)).trans y2
       have HB2 := Lib.hid (btr HB.out hb)
       clear HB hb
       have HB := HB2
       clear HB2 G1)
    | (go_at_call 26; refine (G3.out _ HB.out).mono ?_; rintro e w1 ⟨rfl, hb⟩
       replace x0 := (hb.cell (p := ⟨T, 0, none⟩) (blt x0)).trans x0
       replace x1 := (hb.cell (p := ⟨T, 1, none⟩) (blt x1)).trans x1
       replace x2 := (hb.cell (p := ⟨T, 2, none⟩) (blt x2)).trans x2
       replace y0 := (hb.cell (p := ⟨T + 1, 0, none⟩) (blt y0)).trans y0
       replace y1 := (hb.cell (p := ⟨T + 1, 1, none⟩) (blt y1)).trans y1
       replace y2 := (hb.cell (p := ⟨T + 1, 2, none⟩) (blt y2)).trans y2
       have HB2 := Lib.hid (btr HB.out hb)
       clear HB hb
       have HB := HB2
       clear HB2 G3))
    go_ret
    exact ⟨rfl, HB.out⟩
end Go.Proofs.Ytbalebnhjpjhgaa.L9
