/- Wtu -/
import Derived.Test.YtbalebnhjpjhgaaZ10
import Derived.Test.YtbalebnhjpjhgaaZ3
/- The law: slots taken, and given back. -/
namespace Go.Proofs.Ytbalebnhjpjhgaa.L9
open Go.RowKit Go.Shelf
attribute [local go_sem] Oper.semAt_some
set_option linter.unusedSimpArgs false
set_option linter.unusedVariables false
theorem cut_len (s : Sl) {L1 L2 L3 m1 m2 m3 : Nat} (h1 : s.g.length = L1) (h2 : s.u.length = L2) (h3 : s.f.length = L3) (hm : m1 = min L1 66 ∧ m2 = min L2 66 ∧ m3 = min L3 66) : s.cut.g.length = m1 ∧ s.cut.u.length = m2 ∧ s.cut.f.length = m3 := by
  simp only [Sl.cut, List.length_take, h1, h2, h3]
  omega
theorem take_len (s : Sl) : s.take.1.g.length ≤ s.g.length ∧ s.take.1.u.length ≤ s.u.length ∧ s.take.1.f.length ≤ s.f.length := by
  unfold Sl.take
  split
  · split
    · simp [nilS]
    · split
      · simp [nilS]
      · simp
  · simp [nilS]
theorem give_len (s : Sl) (h : Int × Int) : (s.give h).1.g.length ≤ s.g.length ∧ (s.give h).1.u.length ≤ s.u.length ∧ (s.give h).1.f.length ≤ s.f.length + 1 := by
  unfold Sl.give
  split
  · split
    · simp
    · simp [nilS]
  · simp [nilS]
theorem new_len (n : Int) : (newE n).1.g.length ≤ 64 ∧ (newE n).1.u.length ≤ 64 ∧ (newE n).1.f.length ≤ 64 := by
  unfold newE
  split
  · simp only [newS, List.length_replicate, frees_length]; omega
  · simp [nilS]
set_option maxRecDepth 100000 in
set_option maxHeartbeats 4000000 in
theorem turns_walk (a1 a2 a3 : Option Addr) (c1 c2 c3 L1 L2 L3 m1 m2 m3 : Nat) (s : Sl) (p g : Int) (h1 : s.g.length = L1) (h2 : s.u.length = L2) (h3 : s.f.length = L3) (hm : m1 = min L1 66 ∧ m2 = min L2 66 ∧ m3 = min L3 66) (hk : L1 ≤ c1 ∧ L2 ≤ c2 ∧ L3 ≤ c3) (w : World) (h : SlotsAt w.heap.size w a1 a2 a3 s.g s.u s.f) :
    Calls Try.prog 4 #[.agg #[.slice a1 L1 c1, .slice a2 L2 c2, .slice a3 L3 c3], .agg #[.int .i64 p, .int .i64 g]] w fun e w' => e = .returned (.bool true) ∧ Below w.heap.size w w' := by
  obtain ⟨l1, l2, l3⟩ := cut_len s h1 h2 h3 hm
  obtain ⟨⟨t, ⟨k1, k2⟩, er⟩, ht⟩ : ∃ x, s.cut.take = x := ⟨_, rfl⟩
  obtain ⟨⟨t2, er2⟩, ht2⟩ : ∃ x, s.cut.give (p, g) = x := ⟨_, rfl⟩
  have bt : t.g.length ≤ 1000 ∧ t.u.length ≤ 1000 ∧ t.f.length ≤ 1000 := by have := take_len s.cut; rw [ht] at this; simp only at this; omega
  have bt2 : t2.g.length ≤ 1000 ∧ t2.u.length ≤ 1000 ∧ t2.f.length ≤ 1000 := by have := give_len s.cut (p, g); rw [ht2] at this; simp only at this; omega
  have C1 := Lib.hid (fun W hW => take_to a1 a2 a3 c1 c2 c3 m1 m2 m3 s.cut l1 l2 l3 t k1 k2 er ht _ _ _ rfl rfl rfl W hW)
  have C2 := Lib.hid (fun W hW => rtake_to a1 a2 a3 c1 c2 c3 m1 m2 m3 s.cut l1 l2 l3 t k1 k2 er ht _ _ _ rfl rfl rfl (by omega) W hW)
  have C3 := Lib.hid (fun W hW => give_to a1 a2 a3 c1 c2 c3 m1 m2 m3 s.cut l1 l2 l3 p g t2 er2 ht2 _ _ _ rfl rfl rfl W hW)
  have C4 := Lib.hid (fun W hW => rgive_to a1 a2 a3 c1 c2 c3 m1 m2 m3 s.cut l1 l2 l3 p g t2 er2 ht2 _ _ _ rfl rfl rfl (by omega) W hW)
  have Q1 := Lib.hid (fun b1 b2 b3 d1 d2 d3 q1 q2 q3 r1 r2 r3 W k l => rsame_c b1 b2 b3 d1 d2 d3 _ _ _ t rfl rfl rfl q1 q2 q3 r1 r2 r3 _ _ _ t rfl rfl rfl bt.1 bt.2.1 bt.2.2 bt.1 bt.2.1 bt.2.2 W k l)
  have Q2 := Lib.hid (fun b1 b2 b3 d1 d2 d3 q1 q2 q3 r1 r2 r3 W k l => rsame_c b1 b2 b3 d1 d2 d3 _ _ _ t2 rfl rfl rfl q1 q2 q3 r1 r2 r3 _ _ _ t2 rfl rfl rfl bt2.1 bt2.2.1 bt2.2.2 bt2.1 bt2.2.1 bt2.2.2 W k l)
  rw [eqS_self] at Q1 Q2
  have HM := Lib.hid hm
  have HK := Lib.hid hk
  have HS0 := Lib.hid h
  clear h h1 h2 h3 hm hk l1 l2 l3 ht ht2 bt bt2
  generalize t.g.length = N1 at *
  generalize t.u.length = N2 at *
  generalize t.f.length = N3 at *
  generalize t2.g.length = O1 at *
  generalize t2.u.length = O2 at *
  generalize t2.f.length = O3 at *
  go_enter Try.func4, Try.ntmps4
  have hA : Below w.heap.size w ((w.alloc (.cells #[.slice a1 L1 c1, .slice a2 L2 c2, .slice a3 L3 c3] 25)).alloc (.cells #[.int .i64 p, .int .i64 g] 27)) := bal (below_alloc w _) _
  go_wp2_with fail
  go_at_call 9
  refine (shown_any _).mono ?_
  rintro e w1 ⟨rfl, hb1⟩
  obtain ⟨T, hT⟩ : ∃ T, w.heap.size = T := ⟨_, rfl⟩
  have e0 : w1.cell? ⟨w.heap.size, 0, none⟩ = some (.slice a1 L1 c1) := (hb1.cell (p := ⟨w.heap.size, 0, none⟩) (by first | (simp; done) | (simp; omega))).trans (by go_simp)
  have e1 : w1.cell? ⟨w.heap.size, 1, none⟩ = some (.slice a2 L2 c2) := (hb1.cell (p := ⟨w.heap.size, 1, none⟩) (by first | (simp; done) | (simp; omega))).trans (by go_simp)
  have e2 : w1.cell? ⟨w.heap.size, 2, none⟩ = some (.slice a3 L3 c3) := (hb1.cell (p := ⟨w.heap.size, 2, none⟩) (by first | (simp; done) | (simp; omega))).trans (by go_simp)
  have g0 : w1.cell? ⟨(w.heap.size + 1), 0, none⟩ = some (.int .i64 p) := (hb1.cell (p := ⟨(w.heap.size + 1), 0, none⟩) (by first | (simp; done) | (simp; omega))).trans (by go_simp)
  have g1 : w1.cell? ⟨(w.heap.size + 1), 1, none⟩ = some (.int .i64 g) := (hb1.cell (p := ⟨(w.heap.size + 1), 1, none⟩) (by first | (simp; done) | (simp; omega))).trans (by go_simp)
  have fe0 : w1.frozen? ⟨w.heap.size, 0, none⟩ = false := (hb1.frozen (p := ⟨w.heap.size, 0, none⟩) (by first | (simp; done) | (simp; omega))).trans (by go_simp)
  have fe1 : w1.frozen? ⟨w.heap.size, 1, none⟩ = false := (hb1.frozen (p := ⟨w.heap.size, 1, none⟩) (by first | (simp; done) | (simp; omega))).trans (by go_simp)
  have fe2 : w1.frozen? ⟨w.heap.size, 2, none⟩ = false := (hb1.frozen (p := ⟨w.heap.size, 2, none⟩) (by first | (simp; done) | (simp; omega))).trans (by go_simp)
  have HB1 := Lib.hid (btr hA hb1)
  have hz1 := hb1.size
  simp only [World.size_alloc] at hz1
  clear hA hb1
  rw [hT] at e0 e1 e2 g0 g1 fe0 fe1 fe2 hz1 ⊢
  have HTT := Lib.hid hT
  go_wp2_with fail
  go_at_call 10
  refine (cut_raw a1 a2 a3 c1 c2 c3 L1 L2 L3 m1 m2 m3 HM.out.1 HM.out.2.1 HM.out.2.2 HK.out.1 HK.out.2.1 HK.out.2.2 _).mono ?_
  rintro e w2 ⟨rfl, hb2⟩
  replace fe0 := (hb2.frozen (p := ⟨T, 0, none⟩) (blt e0)).trans fe0
  replace fe1 := (hb2.frozen (p := ⟨T, 1, none⟩) (blt e1)).trans fe1
  replace fe2 := (hb2.frozen (p := ⟨T, 2, none⟩) (blt e2)).trans fe2
  replace e0 := (hb2.cell (p := ⟨T, 0, none⟩) (blt e0)).trans e0
  replace e1 := (hb2.cell (p := ⟨T, 1, none⟩) (blt e1)).trans e1
  replace e2 := (hb2.cell (p := ⟨T, 2, none⟩) (blt e2)).trans e2
  replace g0 := (hb2.cell (p := ⟨(T + 1), 0, none⟩) (blt g0)).trans g0
  replace g1 := (hb2.cell (p := ⟨(T + 1), 1, none⟩) (blt g1)).trans g1
  have hv2 : VarS T a1 a2 a3 L1 L2 L3 c1 c2 c3 w2 := ⟨e0, e1, e2, fe0, fe1, fe2⟩
  have hw2 := btr HB1.out hb2
  obtain ⟨V2, hV2⟩ : ∃ V, V = put3 w2 T (.slice a1 m1 c1) (.slice a2 m2 c2) (.slice a3 m3 c3) := ⟨_, rfl⟩
  have hvv2 : VarS T a1 a2 a3 m1 m2 m3 c1 c2 c3 V2 := by rw [hV2]; exact hv2.put a1 a2 a3 m1 m2 m3 c1 c2 c3
  have hSz2 : V2.heap.size = w2.heap.size := by rw [hV2]; exact put3_size _ _ _ _ _
  have HSn2 := Lib.hid (show SlotsAt V2.heap.size V2 a1 a2 a3 s.cut.g s.cut.u s.cut.f by rw [hSz2, hV2]; exact (HS0.out.cut.on hw2).put hv2 a1 a2 a3 m1 m2 m3 c1 c2 c3)
  have HBn2 := Lib.hid (show Below w.heap.size w V2 by rw [hV2]; exact put3_below hw2 (by omega) _ _ _)
  have ng0 : V2.cell? ⟨(T + 1), 0, none⟩ = some (.int .i64 p) := (by rw [hV2]; exact (set_other _ _ (by omega)).trans ((set_other _ _ (by omega)).trans ((set_other _ _ (by omega)).trans g0)))
  have ng1 : V2.cell? ⟨(T + 1), 1, none⟩ = some (.int .i64 g) := (by rw [hV2]; exact (set_other _ _ (by omega)).trans ((set_other _ _ (by omega)).trans ((set_other _ _ (by omega)).trans g1)))
  go_upto_region 3 with fail
  unfold put3 at hV2
  rw [← hV2]
  clear hV2 HB1 HS0
  clear e0 e1 e2 g0 g1 fe0 fe1 fe2
  obtain ⟨e0, e1, e2, _, _, _⟩ := hvv2
  have g0 := ng0
  clear ng0
  have g1 := ng1
  clear ng1
  have HB1 := HBn2
  have HS := HSn2
  clear HBn2 HSn2 hw2 hv2 hb2 hSz2
  have HB := HB1
  clear HB1
  go_wp2_with fail
  go_at_call 22
  refine (C1.out _ HS.out).mono ?_
  rintro e w3 ⟨b1_3, b2_3, b3_3, d1_3, d2_3, d3_3, rfl, hs3, _, hb3⟩
  replace e0 := (hb3.cell (p := ⟨T, 0, none⟩) (blt e0)).trans e0
  replace e1 := (hb3.cell (p := ⟨T, 1, none⟩) (blt e1)).trans e1
  replace e2 := (hb3.cell (p := ⟨T, 2, none⟩) (blt e2)).trans e2
  replace g0 := (hb3.cell (p := ⟨(T + 1), 0, none⟩) (blt g0)).trans g0
  replace g1 := (hb3.cell (p := ⟨(T + 1), 1, none⟩) (blt g1)).trans g1
  replace e0 := keep_alloc (.cells #[.slice b1_3 N1 d1_3, .slice b2_3 N2 d2_3, .slice b3_3 N3 d3_3] 25) e0
  replace e0 := keep_alloc (.cells #[.int .i64 k1, .int .i64 k2] 27) e0
  replace e1 := keep_alloc (.cells #[.slice b1_3 N1 d1_3, .slice b2_3 N2 d2_3, .slice b3_3 N3 d3_3] 25) e1
  replace e1 := keep_alloc (.cells #[.int .i64 k1, .int .i64 k2] 27) e1
  replace e2 := keep_alloc (.cells #[.slice b1_3 N1 d1_3, .slice b2_3 N2 d2_3, .slice b3_3 N3 d3_3] 25) e2
  replace e2 := keep_alloc (.cells #[.int .i64 k1, .int .i64 k2] 27) e2
  replace g0 := keep_alloc (.cells #[.slice b1_3 N1 d1_3, .slice b2_3 N2 d2_3, .slice b3_3 N3 d3_3] 25) g0
  replace g0 := keep_alloc (.cells #[.int .i64 k1, .int .i64 k2] 27) g0
  replace g1 := keep_alloc (.cells #[.slice b1_3 N1 d1_3, .slice b2_3 N2 d2_3, .slice b3_3 N3 d3_3] 25) g1
  replace g1 := keep_alloc (.cells #[.int .i64 k1, .int .i64 k2] 27) g1
  have x10 : ((w3.alloc (.cells #[.slice b1_3 N1 d1_3, .slice b2_3 N2 d2_3, .slice b3_3 N3 d3_3] 25)).alloc (.cells #[.int .i64 k1, .int .i64 k2] 27)).cell? ⟨w3.heap.size, 0, none⟩ = some (.slice b1_3 N1 d1_3) := by go_simp
  have x11 : ((w3.alloc (.cells #[.slice b1_3 N1 d1_3, .slice b2_3 N2 d2_3, .slice b3_3 N3 d3_3] 25)).alloc (.cells #[.int .i64 k1, .int .i64 k2] 27)).cell? ⟨w3.heap.size, 1, none⟩ = some (.slice b2_3 N2 d2_3) := by go_simp
  have x12 : ((w3.alloc (.cells #[.slice b1_3 N1 d1_3, .slice b2_3 N2 d2_3, .slice b3_3 N3 d3_3] 25)).alloc (.cells #[.int .i64 k1, .int .i64 k2] 27)).cell? ⟨w3.heap.size, 2, none⟩ = some (.slice b3_3 N3 d3_3) := by go_simp
  have y10 : ((w3.alloc (.cells #[.slice b1_3 N1 d1_3, .slice b2_3 N2 d2_3, .slice b3_3 N3 d3_3] 25)).alloc (.cells #[.int .i64 k1, .int .i64 k2] 27)).cell? ⟨w3.heap.size + 1, 0, none⟩ = some (.int .i64 k1) := by go_simp
  have y11 : ((w3.alloc (.cells #[.slice b1_3 N1 d1_3, .slice b2_3 N2 d2_3, .slice b3_3 N3 d3_3] 25)).alloc (.cells #[.int .i64 k1, .int .i64 k2] 27)).cell? ⟨w3.heap.size + 1, 1, none⟩ = some (.int .i64 k2) := by go_simp
  have hbu3 : Below w3.heap.size w3 ((w3.alloc (.cells #[.slice b1_3 N1 d1_3, .slice b2_3 N2 d2_3, .slice b3_3 N3 d3_3] 25)).alloc (.cells #[.int .i64 k1, .int .i64 k2] 27)) := bal (below_alloc _ _) _
  have hB3 := HB.out
  have hS3 := HS.out
  clear HB HS
  have HB := Lib.hid (btr (btr hB3 hb3) hbu3)
  have HS := Lib.hid ((hS3.on hb3).on hbu3)
  have R1 := Lib.hid (hs3.on hbu3)
  obtain ⟨B1, hB1⟩ : ∃ B, w3.heap.size = B := ⟨_, rfl⟩
  rw [hB1] at x10 x11 x12 y10 y11
  have HB1 := Lib.hid hB1
  clear hb3 hbu3 hB3 hS3 hs3
  go_upto_region 4 with fail
  try rw [hB1]
  generalize ((w3.alloc (.cells #[.slice b1_3 N1 d1_3, .slice b2_3 N2 d2_3, .slice b3_3 N3 d3_3] 25)).alloc (.cells #[.int .i64 k1, .int .i64 k2] 27)) = U3 at *
  clear hB1
  go_wp2_with fail
  go_at_call 23
  refine (C2.out _ HS.out).mono ?_
  rintro e w4 ⟨b1_4, b2_4, b3_4, d1_4, d2_4, d3_4, rfl, hs4, _, hb4⟩
  replace e0 := (hb4.cell (p := ⟨T, 0, none⟩) (blt e0)).trans e0
  replace e1 := (hb4.cell (p := ⟨T, 1, none⟩) (blt e1)).trans e1
  replace e2 := (hb4.cell (p := ⟨T, 2, none⟩) (blt e2)).trans e2
  replace g0 := (hb4.cell (p := ⟨(T + 1), 0, none⟩) (blt g0)).trans g0
  replace g1 := (hb4.cell (p := ⟨(T + 1), 1, none⟩) (blt g1)).trans g1
  replace x10 := (hb4.cell (p := ⟨B1, 0, none⟩) (blt x10)).trans x10
  replace x11 := (hb4.cell (p := ⟨B1, 1, none⟩) (blt x11)).trans x11
  replace x12 := (hb4.cell (p := ⟨B1, 2, none⟩) (blt x12)).trans x12
  replace y10 := (hb4.cell (p := ⟨(B1 + 1), 0, none⟩) (blt y10)).trans y10
  replace y11 := (hb4.cell (p := ⟨(B1 + 1), 1, none⟩) (blt y11)).trans y11
  replace e0 := keep_alloc (.cells #[.slice b1_4 N1 d1_4, .slice b2_4 N2 d2_4, .slice b3_4 N3 d3_4] 25) e0
  replace e0 := keep_alloc (.cells #[.int .i64 k1, .int .i64 k2] 27) e0
  replace e1 := keep_alloc (.cells #[.slice b1_4 N1 d1_4, .slice b2_4 N2 d2_4, .slice b3_4 N3 d3_4] 25) e1
  replace e1 := keep_alloc (.cells #[.int .i64 k1, .int .i64 k2] 27) e1
  replace e2 := keep_alloc (.cells #[.slice b1_4 N1 d1_4, .slice b2_4 N2 d2_4, .slice b3_4 N3 d3_4] 25) e2
  replace e2 := keep_alloc (.cells #[.int .i64 k1, .int .i64 k2] 27) e2
  replace g0 := keep_alloc (.cells #[.slice b1_4 N1 d1_4, .slice b2_4 N2 d2_4, .slice b3_4 N3 d3_4] 25) g0
  replace g0 := keep_alloc (.cells #[.int .i64 k1, .int .i64 k2] 27) g0
  replace g1 := keep_alloc (.cells #[.slice b1_4 N1 d1_4, .slice b2_4 N2 d2_4, .slice b3_4 N3 d3_4] 25) g1
  replace g1 := keep_alloc (.cells #[.int .i64 k1, .int .i64 k2] 27) g1
  replace x10 := keep_alloc (.cells #[.slice b1_4 N1 d1_4, .slice b2_4 N2 d2_4, .slice b3_4 N3 d3_4] 25) x10
  replace x10 := keep_alloc (.cells #[.int .i64 k1, .int .i64 k2] 27) x10
  replace x11 := keep_alloc (.cells #[.slice b1_4 N1 d1_4, .slice b2_4 N2 d2_4, .slice b3_4 N3 d3_4] 25) x11
  replace x11 := keep_alloc (.cells #[.int .i64 k1, .int .i64 k2] 27) x11
  replace x12 := keep_alloc (.cells #[.slice b1_4 N1 d1_4, .slice b2_4 N2 d2_4, .slice b3_4 N3 d3_4] 25) x12
  replace x12 := keep_alloc (.cells #[.int .i64 k1, .int .i64 k2] 27) x12
  replace y10 := keep_alloc (.cells #[.slice b1_4 N1 d1_4, .slice b2_4 N2 d2_4, .slice b3_4 N3 d3_4] 25) y10
  replace y10 := keep_alloc (.cells #[.int .i64 k1, .int .i64 k2] 27) y10
  replace y11 := keep_alloc (.cells #[.slice b1_4 N1 d1_4, .slice b2_4 N2 d2_4, .slice b3_4 N3 d3_4] 25) y11
  replace y11 := keep_alloc (.cells #[.int .i64 k1, .int .i64 k2] 27) y11
  have x20 : ((w4.alloc (.cells #[.slice b1_4 N1 d1_4, .slice b2_4 N2 d2_4, .slice b3_4 N3 d3_4] 25)).alloc (.cells #[.int .i64 k1, .int .i64 k2] 27)).cell? ⟨w4.heap.size, 0, none⟩ = some (.slice b1_4 N1 d1_4) := by go_simp
  have x21 : ((w4.alloc (.cells #[.slice b1_4 N1 d1_4, .slice b2_4 N2 d2_4, .slice b3_4 N3 d3_4] 25)).alloc (.cells #[.int .i64 k1, .int .i64 k2] 27)).cell? ⟨w4.heap.size, 1, none⟩ = some (.slice b2_4 N2 d2_4) := by go_simp
  have x22 : ((w4.alloc (.cells #[.slice b1_4 N1 d1_4, .slice b2_4 N2 d2_4, .slice b3_4 N3 d3_4] 25)).alloc (.cells #[.int .i64 k1, .int .i64 k2] 27)).cell? ⟨w4.heap.size, 2, none⟩ = some (.slice b3_4 N3 d3_4) := by go_simp
  have y20 : ((w4.alloc (.cells #[.slice b1_4 N1 d1_4, .slice b2_4 N2 d2_4, .slice b3_4 N3 d3_4] 25)).alloc (.cells #[.int .i64 k1, .int .i64 k2] 27)).cell? ⟨w4.heap.size + 1, 0, none⟩ = some (.int .i64 k1) := by go_simp
  have y21 : ((w4.alloc (.cells #[.slice b1_4 N1 d1_4, .slice b2_4 N2 d2_4, .slice b3_4 N3 d3_4] 25)).alloc (.cells #[.int .i64 k1, .int .i64 k2] 27)).cell? ⟨w4.heap.size + 1, 1, none⟩ = some (.int .i64 k2) := by go_simp
  have hbu4 : Below w4.heap.size w4 ((w4.alloc (.cells #[.slice b1_4 N1 d1_4, .slice b2_4 N2 d2_4, .slice b3_4 N3 d3_4] 25)).alloc (.cells #[.int .i64 k1, .int .i64 k2] 27)) := bal (below_alloc _ _) _
  have hB4 := HB.out
  have hS4 := HS.out
  clear HB HS
  have HB := Lib.hid (btr (btr hB4 hb4) hbu4)
  have HS := Lib.hid ((hS4.on hb4).on hbu4)
  have R2 := Lib.hid (hs4.on hbu4)
  have r1 := R1.out
  clear R1
  have R1 := Lib.hid ((r1.on hb4).on hbu4)
  clear r1
  obtain ⟨B2, hB2⟩ : ∃ B, w4.heap.size = B := ⟨_, rfl⟩
  rw [hB2] at x20 x21 x22 y20 y21
  have HB2 := Lib.hid hB2
  clear hb4 hbu4 hB4 hS4 hs4
  go_upto_region 5 with fail
  try rw [hB2]
  generalize ((w4.alloc (.cells #[.slice b1_4 N1 d1_4, .slice b2_4 N2 d2_4, .slice b3_4 N3 d3_4] 25)).alloc (.cells #[.int .i64 k1, .int .i64 k2] 27)) = U4 at *
  clear hB2
  go_wp2_with fail
  go_at_call 24
  refine (C3.out _ HS.out).mono ?_
  rintro e w5 ⟨b1_5, b2_5, b3_5, d1_5, d2_5, d3_5, rfl, hs5, hb5⟩
  replace e0 := (hb5.cell (p := ⟨T, 0, none⟩) (blt e0)).trans e0
  replace e1 := (hb5.cell (p := ⟨T, 1, none⟩) (blt e1)).trans e1
  replace e2 := (hb5.cell (p := ⟨T, 2, none⟩) (blt e2)).trans e2
  replace g0 := (hb5.cell (p := ⟨(T + 1), 0, none⟩) (blt g0)).trans g0
  replace g1 := (hb5.cell (p := ⟨(T + 1), 1, none⟩) (blt g1)).trans g1
  replace x10 := (hb5.cell (p := ⟨B1, 0, none⟩) (blt x10)).trans x10
  replace x11 := (hb5.cell (p := ⟨B1, 1, none⟩) (blt x11)).trans x11
  replace x12 := (hb5.cell (p := ⟨B1, 2, none⟩) (blt x12)).trans x12
  replace y10 := (hb5.cell (p := ⟨(B1 + 1), 0, none⟩) (blt y10)).trans y10
  replace y11 := (hb5.cell (p := ⟨(B1 + 1), 1, none⟩) (blt y11)).trans y11
  replace x20 := (hb5.cell (p := ⟨B2, 0, none⟩) (blt x20)).trans x20
  replace x21 := (hb5.cell (p := ⟨B2, 1, none⟩) (blt x21)).trans x21
  replace x22 := (hb5.cell (p := ⟨B2, 2, none⟩) (blt x22)).trans x22
  replace y20 := (hb5.cell (p := ⟨(B2 + 1), 0, none⟩) (blt y20)).trans y20
  replace y21 := (hb5.cell (p := ⟨(B2 + 1), 1, none⟩) (blt y21)).trans y21
  replace e0 := keep_alloc (.cells #[.slice b1_5 O1 d1_5, .slice b2_5 O2 d2_5, .slice b3_5 O3 d3_5] 25) e0
  replace e1 := keep_alloc (.cells #[.slice b1_5 O1 d1_5, .slice b2_5 O2 d2_5, .slice b3_5 O3 d3_5] 25) e1
  replace e2 := keep_alloc (.cells #[.slice b1_5 O1 d1_5, .slice b2_5 O2 d2_5, .slice b3_5 O3 d3_5] 25) e2
  replace g0 := keep_alloc (.cells #[.slice b1_5 O1 d1_5, .slice b2_5 O2 d2_5, .slice b3_5 O3 d3_5] 25) g0
  replace g1 := keep_alloc (.cells #[.slice b1_5 O1 d1_5, .slice b2_5 O2 d2_5, .slice b3_5 O3 d3_5] 25) g1
  replace x10 := keep_alloc (.cells #[.slice b1_5 O1 d1_5, .slice b2_5 O2 d2_5, .slice b3_5 O3 d3_5] 25) x10
  replace x11 := keep_alloc (.cells #[.slice b1_5 O1 d1_5, .slice b2_5 O2 d2_5, .slice b3_5 O3 d3_5] 25) x11
  replace x12 := keep_alloc (.cells #[.slice b1_5 O1 d1_5, .slice b2_5 O2 d2_5, .slice b3_5 O3 d3_5] 25) x12
  replace y10 := keep_alloc (.cells #[.slice b1_5 O1 d1_5, .slice b2_5 O2 d2_5, .slice b3_5 O3 d3_5] 25) y10
  replace y11 := keep_alloc (.cells #[.slice b1_5 O1 d1_5, .slice b2_5 O2 d2_5, .slice b3_5 O3 d3_5] 25) y11
  replace x20 := keep_alloc (.cells #[.slice b1_5 O1 d1_5, .slice b2_5 O2 d2_5, .slice b3_5 O3 d3_5] 25) x20
  replace x21 := keep_alloc (.cells #[.slice b1_5 O1 d1_5, .slice b2_5 O2 d2_5, .slice b3_5 O3 d3_5] 25) x21
  replace x22 := keep_alloc (.cells #[.slice b1_5 O1 d1_5, .slice b2_5 O2 d2_5, .slice b3_5 O3 d3_5] 25) x22
  replace y20 := keep_alloc (.cells #[.slice b1_5 O1 d1_5, .slice b2_5 O2 d2_5, .slice b3_5 O3 d3_5] 25) y20
  replace y21 := keep_alloc (.cells #[.slice b1_5 O1 d1_5, .slice b2_5 O2 d2_5, .slice b3_5 O3 d3_5] 25) y21
  have x30 : (w5.alloc (.cells #[.slice b1_5 O1 d1_5, .slice b2_5 O2 d2_5, .slice b3_5 O3 d3_5] 25)).cell? ⟨w5.heap.size, 0, none⟩ = some (.slice b1_5 O1 d1_5) := by go_simp
  have x31 : (w5.alloc (.cells #[.slice b1_5 O1 d1_5, .slice b2_5 O2 d2_5, .slice b3_5 O3 d3_5] 25)).cell? ⟨w5.heap.size, 1, none⟩ = some (.slice b2_5 O2 d2_5) := by go_simp
  have x32 : (w5.alloc (.cells #[.slice b1_5 O1 d1_5, .slice b2_5 O2 d2_5, .slice b3_5 O3 d3_5] 25)).cell? ⟨w5.heap.size, 2, none⟩ = some (.slice b3_5 O3 d3_5) := by go_simp
  have hbu5 : Below w5.heap.size w5 (w5.alloc (.cells #[.slice b1_5 O1 d1_5, .slice b2_5 O2 d2_5, .slice b3_5 O3 d3_5] 25)) := below_alloc _ _
  have hB5 := HB.out
  have hS5 := HS.out
  clear HB HS
  have HB := Lib.hid (btr (btr hB5 hb5) hbu5)
  have HS := Lib.hid ((hS5.on hb5).on hbu5)
  have R3 := Lib.hid (hs5.on hbu5)
  have r1 := R1.out
  clear R1
  have R1 := Lib.hid ((r1.on hb5).on hbu5)
  clear r1
  have r2 := R2.out
  clear R2
  have R2 := Lib.hid ((r2.on hb5).on hbu5)
  clear r2
  obtain ⟨B3, hB3⟩ : ∃ B, w5.heap.size = B := ⟨_, rfl⟩
  rw [hB3] at x30 x31 x32
  have HB3 := Lib.hid hB3
  clear hb5 hbu5 hB5 hS5 hs5
  go_upto_region 6 with fail
  try rw [hB3]
  generalize (w5.alloc (.cells #[.slice b1_5 O1 d1_5, .slice b2_5 O2 d2_5, .slice b3_5 O3 d3_5] 25)) = U5 at *
  clear hB3
  go_wp2_with fail
  go_at_call 25
  refine (C4.out _ HS.out).mono ?_
  rintro e w6 ⟨b1_6, b2_6, b3_6, d1_6, d2_6, d3_6, rfl, hs6, hb6⟩
  replace e0 := (hb6.cell (p := ⟨T, 0, none⟩) (blt e0)).trans e0
  replace e1 := (hb6.cell (p := ⟨T, 1, none⟩) (blt e1)).trans e1
  replace e2 := (hb6.cell (p := ⟨T, 2, none⟩) (blt e2)).trans e2
  replace g0 := (hb6.cell (p := ⟨(T + 1), 0, none⟩) (blt g0)).trans g0
  replace g1 := (hb6.cell (p := ⟨(T + 1), 1, none⟩) (blt g1)).trans g1
  replace x10 := (hb6.cell (p := ⟨B1, 0, none⟩) (blt x10)).trans x10
  replace x11 := (hb6.cell (p := ⟨B1, 1, none⟩) (blt x11)).trans x11
  replace x12 := (hb6.cell (p := ⟨B1, 2, none⟩) (blt x12)).trans x12
  replace y10 := (hb6.cell (p := ⟨(B1 + 1), 0, none⟩) (blt y10)).trans y10
  replace y11 := (hb6.cell (p := ⟨(B1 + 1), 1, none⟩) (blt y11)).trans y11
  replace x20 := (hb6.cell (p := ⟨B2, 0, none⟩) (blt x20)).trans x20
  replace x21 := (hb6.cell (p := ⟨B2, 1, none⟩) (blt x21)).trans x21
  replace x22 := (hb6.cell (p := ⟨B2, 2, none⟩) (blt x22)).trans x22
  replace y20 := (hb6.cell (p := ⟨(B2 + 1), 0, none⟩) (blt y20)).trans y20
  replace y21 := (hb6.cell (p := ⟨(B2 + 1), 1, none⟩) (blt y21)).trans y21
  replace x30 := (hb6.cell (p := ⟨B3, 0, none⟩) (blt x30)).trans x30
  replace x31 := (hb6.cell (p := ⟨B3, 1, none⟩) (blt x31)).trans x31
  replace x32 := (hb6.cell (p := ⟨B3, 2, none⟩) (blt x32)).trans x32
  replace e0 := keep_alloc (.cells #[.slice b1_6 O1 d1_6, .slice b2_6 O2 d2_6, .slice b3_6 O3 d3_6] 25) e0
  replace e1 := keep_alloc (.cells #[.slice b1_6 O1 d1_6, .slice b2_6 O2 d2_6, .slice b3_6 O3 d3_6] 25) e1
  replace e2 := keep_alloc (.cells #[.slice b1_6 O1 d1_6, .slice b2_6 O2 d2_6, .slice b3_6 O3 d3_6] 25) e2
  replace g0 := keep_alloc (.cells #[.slice b1_6 O1 d1_6, .slice b2_6 O2 d2_6, .slice b3_6 O3 d3_6] 25) g0
  replace g1 := keep_alloc (.cells #[.slice b1_6 O1 d1_6, .slice b2_6 O2 d2_6, .slice b3_6 O3 d3_6] 25) g1
  replace x10 := keep_alloc (.cells #[.slice b1_6 O1 d1_6, .slice b2_6 O2 d2_6, .slice b3_6 O3 d3_6] 25) x10
  replace x11 := keep_alloc (.cells #[.slice b1_6 O1 d1_6, .slice b2_6 O2 d2_6, .slice b3_6 O3 d3_6] 25) x11
  replace x12 := keep_alloc (.cells #[.slice b1_6 O1 d1_6, .slice b2_6 O2 d2_6, .slice b3_6 O3 d3_6] 25) x12
  replace y10 := keep_alloc (.cells #[.slice b1_6 O1 d1_6, .slice b2_6 O2 d2_6, .slice b3_6 O3 d3_6] 25) y10
  replace y11 := keep_alloc (.cells #[.slice b1_6 O1 d1_6, .slice b2_6 O2 d2_6, .slice b3_6 O3 d3_6] 25) y11
  replace x20 := keep_alloc (.cells #[.slice b1_6 O1 d1_6, .slice b2_6 O2 d2_6, .slice b3_6 O3 d3_6] 25) x20
  replace x21 := keep_alloc (.cells #[.slice b1_6 O1 d1_6, .slice b2_6 O2 d2_6, .slice b3_6 O3 d3_6] 25) x21
  replace x22 := keep_alloc (.cells #[.slice b1_6 O1 d1_6, .slice b2_6 O2 d2_6, .slice b3_6 O3 d3_6] 25) x22
  replace y20 := keep_alloc (.cells #[.slice b1_6 O1 d1_6, .slice b2_6 O2 d2_6, .slice b3_6 O3 d3_6] 25) y20
  replace y21 := keep_alloc (.cells #[.slice b1_6 O1 d1_6, .slice b2_6 O2 d2_6, .slice b3_6 O3 d3_6] 25) y21
  replace x30 := keep_alloc (.cells #[.slice b1_6 O1 d1_6, .slice b2_6 O2 d2_6, .slice b3_6 O3 d3_6] 25) x30
  replace x31 := keep_alloc (.cells #[.slice b1_6 O1 d1_6, .slice b2_6 O2 d2_6, .slice b3_6 O3 d3_6] 25) x31
  replace x32 := keep_alloc (.cells #[.slice b1_6 O1 d1_6, .slice b2_6 O2 d2_6, .slice b3_6 O3 d3_6] 25) x32
  have x40 : (w6.alloc (.cells #[.slice b1_6 O1 d1_6, .slice b2_6 O2 d2_6, .slice b3_6 O3 d3_6] 25)).cell? ⟨w6.heap.size, 0, none⟩ = some (.slice b1_6 O1 d1_6) := by go_simp
  have x41 : (w6.alloc (.cells #[.slice b1_6 O1 d1_6, .slice b2_6 O2 d2_6, .slice b3_6 O3 d3_6] 25)).cell? ⟨w6.heap.size, 1, none⟩ = some (.slice b2_6 O2 d2_6) := by go_simp
  have x42 : (w6.alloc (.cells #[.slice b1_6 O1 d1_6, .slice b2_6 O2 d2_6, .slice b3_6 O3 d3_6] 25)).cell? ⟨w6.heap.size, 2, none⟩ = some (.slice b3_6 O3 d3_6) := by go_simp
  have hbu6 : Below w6.heap.size w6 (w6.alloc (.cells #[.slice b1_6 O1 d1_6, .slice b2_6 O2 d2_6, .slice b3_6 O3 d3_6] 25)) := below_alloc _ _
  have hB6 := HB.out
  have hS6 := HS.out
  clear HB HS
  have HB := Lib.hid (btr (btr hB6 hb6) hbu6)
  have HS := Lib.hid ((hS6.on hb6).on hbu6)
  have R4 := Lib.hid (hs6.on hbu6)
  have r1 := R1.out
  clear R1
  have R1 := Lib.hid ((r1.on hb6).on hbu6)
  clear r1
  have r2 := R2.out
  clear R2
  have R2 := Lib.hid ((r2.on hb6).on hbu6)
  clear r2
  have r3 := R3.out
  clear R3
  have R3 := Lib.hid ((r3.on hb6).on hbu6)
  clear r3
  obtain ⟨B4, hB4⟩ : ∃ B, w6.heap.size = B := ⟨_, rfl⟩
  rw [hB4] at x40 x41 x42
  have HB4 := Lib.hid hB4
  clear hb6 hbu6 hB6 hS6 hs6
  go_upto_region 7 with fail
  try rw [hB4]
  generalize (w6.alloc (.cells #[.slice b1_6 O1 d1_6, .slice b2_6 O2 d2_6, .slice b3_6 O3 d3_6] 25)) = U6 at *
  clear hB4
  go_wp2_with fail
  go_at_call 13
  refine (Q1.out _ _ _ _ _ _ _ _ _ _ _ _ _ R1.out R2.out).mono ?_
  rintro e w7 ⟨rfl, hb7⟩
  replace e0 := (hb7.cell (p := ⟨T, 0, none⟩) (blt e0)).trans e0
  replace e1 := (hb7.cell (p := ⟨T, 1, none⟩) (blt e1)).trans e1
  replace e2 := (hb7.cell (p := ⟨T, 2, none⟩) (blt e2)).trans e2
  replace g0 := (hb7.cell (p := ⟨(T + 1), 0, none⟩) (blt g0)).trans g0
  replace g1 := (hb7.cell (p := ⟨(T + 1), 1, none⟩) (blt g1)).trans g1
  replace x10 := (hb7.cell (p := ⟨B1, 0, none⟩) (blt x10)).trans x10
  replace x11 := (hb7.cell (p := ⟨B1, 1, none⟩) (blt x11)).trans x11
  replace x12 := (hb7.cell (p := ⟨B1, 2, none⟩) (blt x12)).trans x12
  replace y10 := (hb7.cell (p := ⟨(B1 + 1), 0, none⟩) (blt y10)).trans y10
  replace y11 := (hb7.cell (p := ⟨(B1 + 1), 1, none⟩) (blt y11)).trans y11
  replace x20 := (hb7.cell (p := ⟨B2, 0, none⟩) (blt x20)).trans x20
  replace x21 := (hb7.cell (p := ⟨B2, 1, none⟩) (blt x21)).trans x21
  replace x22 := (hb7.cell (p := ⟨B2, 2, none⟩) (blt x22)).trans x22
  replace y20 := (hb7.cell (p := ⟨(B2 + 1), 0, none⟩) (blt y20)).trans y20
  replace y21 := (hb7.cell (p := ⟨(B2 + 1), 1, none⟩) (blt y21)).trans y21
  replace x30 := (hb7.cell (p := ⟨B3, 0, none⟩) (blt x30)).trans x30
  replace x31 := (hb7.cell (p := ⟨B3, 1, none⟩) (blt x31)).trans x31
  replace x32 := (hb7.cell (p := ⟨B3, 2, none⟩) (blt x32)).trans x32
  replace x40 := (hb7.cell (p := ⟨B4, 0, none⟩) (blt x40)).trans x40
  replace x41 := (hb7.cell (p := ⟨B4, 1, none⟩) (blt x41)).trans x41
  replace x42 := (hb7.cell (p := ⟨B4, 2, none⟩) (blt x42)).trans x42
  have HB2 := Lib.hid (btr HB.out hb7)
  have R5 := Lib.hid (R3.out.on hb7)
  have R6 := Lib.hid (R4.out.on hb7)
  clear hb7 HB
  go_wp2_with fail
  go_at_call 13
  refine (Q2.out _ _ _ _ _ _ _ _ _ _ _ _ _ R5.out R6.out).mono ?_
  rintro e w8 ⟨rfl, hb8⟩
  replace e0 := (hb8.cell (p := ⟨T, 0, none⟩) (blt e0)).trans e0
  replace e1 := (hb8.cell (p := ⟨T, 1, none⟩) (blt e1)).trans e1
  replace e2 := (hb8.cell (p := ⟨T, 2, none⟩) (blt e2)).trans e2
  replace g0 := (hb8.cell (p := ⟨(T + 1), 0, none⟩) (blt g0)).trans g0
  replace g1 := (hb8.cell (p := ⟨(T + 1), 1, none⟩) (blt g1)).trans g1
  replace x10 := (hb8.cell (p := ⟨B1, 0, none⟩) (blt x10)).trans x10
  replace x11 := (hb8.cell (p := ⟨B1, 1, none⟩) (blt x11)).trans x11
  replace x12 := (hb8.cell (p := ⟨B1, 2, none⟩) (blt x12)).trans x12
  replace y10 := (hb8.cell (p := ⟨(B1 + 1), 0, none⟩) (blt y10)).trans y10
  replace y11 := (hb8.cell (p := ⟨(B1 + 1), 1, none⟩) (blt y11)).trans y11
  replace x20 := (hb8.cell (p := ⟨B2, 0, none⟩) (blt x20)).trans x20
  replace x21 := (hb8.cell (p := ⟨B2, 1, none⟩) (blt x21)).trans x21
  replace x22 := (hb8.cell (p := ⟨B2, 2, none⟩) (blt x22)).trans x22
  replace y20 := (hb8.cell (p := ⟨(B2 + 1), 0, none⟩) (blt y20)).trans y20
  replace y21 := (hb8.cell (p := ⟨(B2 + 1), 1, none⟩) (blt y21)).trans y21
  replace x30 := (hb8.cell (p := ⟨B3, 0, none⟩) (blt x30)).trans x30
  replace x31 := (hb8.cell (p := ⟨B3, 1, none⟩) (blt x31)).trans x31
  replace x32 := (hb8.cell (p := ⟨B3, 2, none⟩) (blt x32)).trans x32
  replace x40 := (hb8.cell (p := ⟨B4, 0, none⟩) (blt x40)).trans x40
  replace x41 := (hb8.cell (p := ⟨B4, 1, none⟩) (blt x41)).trans x41
  replace x42 := (hb8.cell (p := ⟨B4, 2, none⟩) (blt x42)).trans x42
  have HB3 := Lib.hid (btr HB2.out hb8)
  clear hb8 HB2
  go_wp2_with fail
  go_ret
  exact ⟨rfl, HB3.out⟩
end Go.Proofs.Ytbalebnhjpjhgaa.L9
