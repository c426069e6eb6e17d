/- wicketgatelaw09.SlotsKeeps: the walk, where nothing is taken. -/
import Derived.Test.YtbalebnhjpjhgaaLA
namespace Go.Proofs.Ytbalebnhjpjhgaa
open Go.RowKit

theorem cut_len (s : Sl) {L1 L2 L3 m1 m2 m3 : Nat} (h1 : s.g.length = L1) (h2 : s.u.length = L2) (h3 : s.f.length = L3) (hm : m1 = min L1 66 ∧ m2 = min L2 66 ∧ m3 = min L3 66) : s.cut.g.length = m1 ∧ s.cut.u.length = m2 ∧ s.cut.f.length = m3 := by
  simp only [Sl.cut, List.length_take, h1, h2, h3]
  omega

set_option maxRecDepth 100000 in
set_option maxHeartbeats 1000000 in
theorem keeps_wrong (a1 a2 a3 : Option Addr) (c1 c2 c3 L1 L2 L3 m1 m2 m3 : Nat) (s : Sl) (p g : Int) (h1 : s.g.length = L1) (h2 : s.u.length = L2) (h3 : s.f.length = L3) (hm : m1 = min L1 66 ∧ m2 = min L2 66 ∧ m3 = min L3 66) (hk : L1 ≤ c1 ∧ L2 ≤ c2 ∧ L3 ≤ c3) (w : World) (h : SlotsAt w.heap.size w a1 a2 a3 s.g s.u s.f) (ht : s.cut.take = (nilS, (0, 0), 90)) (hb : s.cut.right = false) :
    Calls Try.prog 5 #[.agg #[.slice a1 L1 c1, .slice a2 L2 c2, .slice a3 L3 c3], .agg #[.int .i64 p, .int .i64 g]] w fun e w' => e = .returned (.bool true) ∧ Below w.heap.size w w' := by
  obtain ⟨l1, l2, l3⟩ := cut_len s h1 h2 h3 hm
  have C := Lib.hid (fun W hW => take_to a1 a2 a3 c1 c2 c3 m1 m2 m3 s.cut l1 l2 l3 nilS 0 0 90 ht 0 0 0 rfl rfl rfl W hW)
  have D := Lib.hid (fun W hW => right2_any a1 a2 a3 c1 c2 c3 m1 m2 m3 s.cut l1 l2 l3 W hW)
  rw [hb] at D
  have HM := Lib.hid hm
  have HK := Lib.hid hk
  have HS0 := Lib.hid h
  clear h h1 h2 h3 hm hk l1 l2 l3 ht hb
  go_enter Try.func5, Try.ntmps5
  go_wp2_with fail
  refine (shown_any _).mono ?_; rintro e w1 ⟨rfl, hb1⟩
  have hv1 := (((VarS.new w 25 a1 a2 a3 L1 L2 L3 c1 c2 c3).on (Below.refl _ (w.alloc (.cells #[.slice a1 L1 c1, .slice a2 L2 c2, .slice a3 L3 c3] 25)) |> fun h => h.alloc (Nat.le_refl _) (.cells #[.int .i64 p, .int .i64 g] 27)) (by simp)).on hb1 (by simp; omega))
  have hw1 := btr (bal (bal (Below.refl w.heap.size w) (.cells #[.slice a1 L1 c1, .slice a2 L2 c2, .slice a3 L3 c3] 25)) (.cells #[.int .i64 p, .int .i64 g] 27)) hb1
  have y0 : w1.cell? ⟨w.heap.size + 1, 0, none⟩ = some (.int .i64 p) := (hb1.cell (p := ⟨w.heap.size + 1, 0, none⟩) (by simp)).trans (by go_simp)
  have y1 : w1.cell? ⟨w.heap.size + 1, 1, none⟩ = some (.int .i64 g) := (hb1.cell (p := ⟨w.heap.size + 1, 1, none⟩) (by simp)).trans (by go_simp)
  have hz1 := hb1.size
  simp only [World.size_alloc] at hz1
  obtain ⟨e0, e1, e2, f0, f1, f2⟩ := id hv1
  have HV1 := Lib.hid hv1
  have HW1 := Lib.hid hw1
  clear hb1 hv1 hw1
  go_wp2_with fail
  refine (cut_raw a1 a2 a3 c1 c2 c3 L1 L2 L3 m1 m2 m3 HM.out.1 HM.out.2.1 HM.out.2.2 HK.out.1 HK.out.2.1 HK.out.2.2 _).mono ?_; rintro e w2 ⟨rfl, hb2⟩
  have hv2 := HV1.out.on hb2 (show w.heap.size < w1.heap.size by omega)
  have hw2 := btr HW1.out hb2
  have z0 := (hb2.cell (p := ⟨w.heap.size + 1, 0, none⟩) (show w.heap.size + 1 < w1.heap.size by omega)).trans y0
  have z1 := (hb2.cell (p := ⟨w.heap.size + 1, 1, none⟩) (show w.heap.size + 1 < w1.heap.size by omega)).trans y1
  have hz2 := hb2.size
  clear e0 e1 e2 f0 f1 f2 y0 y1 hb2
  obtain ⟨e0, e1, e2, f0, f1, f2⟩ := id hv2
  obtain ⟨V, hV⟩ : ∃ V, V = put3 w2 w.heap.size (.slice a1 m1 c1) (.slice a2 m2 c2) (.slice a3 m3 c3) := ⟨_, rfl⟩
  have HV := Lib.hid (show VarS w.heap.size a1 a2 a3 m1 m2 m3 c1 c2 c3 V by rw [hV]; exact hv2.put a1 a2 a3 m1 m2 m3 c1 c2 c3)
  have hSz : V.heap.size = w2.heap.size := by rw [hV]; exact put3_size _ _ _ _ _
  have HS := Lib.hid (show SlotsAt V.heap.size V a1 a2 a3 s.cut.g s.cut.u s.cut.f by rw [hSz, hV]; exact (HS0.out.cut.on hw2).put hv2 a1 a2 a3 m1 m2 m3 c1 c2 c3)
  have HB := Lib.hid (show Below w.heap.size w V by rw [hV]; exact put3_below hw2 (Nat.le_refl _) _ _ _)
  have g0 : V.cell? ⟨w.heap.size + 1, 0, none⟩ = some (.int .i64 p) := by rw [hV]; exact (set_other _ _ (by omega)).trans ((set_other _ _ (by omega)).trans ((set_other _ _ (by omega)).trans z0))
  have g1 : V.cell? ⟨w.heap.size + 1, 1, none⟩ = some (.int .i64 g) := by rw [hV]; exact (set_other _ _ (by omega)).trans ((set_other _ _ (by omega)).trans ((set_other _ _ (by omega)).trans z1))
  have hVz : w.heap.size + 1 < V.heap.size := by omega
  clear hv2 hw2
  go_wp2_with fail
  unfold put3 at hV
  rw [← hV]
  clear hV e0 e1 e2 f0 f1 f2 z0 z1 hz1 hz2 hSz HV1 HW1 HM HK HS0
  obtain ⟨e0, e1, e2, f0, f1, f2⟩ := id HV.out
  refine (C.out _ HS.out).mono ?_; rintro e w3 ⟨x1, x2, x3, v1, v2, v3, rfl, _, _, hb3⟩
  have V3 := Lib.hid (HV.out.on hb3 HV.out.lt)
  have S3 := Lib.hid (HS.out.on hb3)
  have B3 := Lib.hid (btr HB.out hb3)
  clear e0 e1 e2 f0 f1 f2 hb3 HV HS HB C
  obtain ⟨e0, e1, e2, f0, f1, f2⟩ := id V3.out
  have hX3 := V3.out.lt
  go_wp2_with fail
  refine (D.out _ (S3.out.on (bal (bal (Below.refl w3.heap.size w3) _) _))).mono ?_; rintro e w4 ⟨rfl, hb4⟩
  go_wp2
  go_ret
  exact ⟨rfl, btr (bal (bal B3.out _) _) hb4⟩

set_option maxRecDepth 100000 in
set_option maxHeartbeats 1000000 in
theorem keeps_full (a1 a2 a3 : Option Addr) (c1 c2 c3 L1 L2 L3 m1 m2 m3 : Nat) (s : Sl) (p g : Int) (h1 : s.g.length = L1) (h2 : s.u.length = L2) (h3 : s.f.length = L3) (hm : m1 = min L1 66 ∧ m2 = min L2 66 ∧ m3 = min L3 66) (hk : L1 ≤ c1 ∧ L2 ≤ c2 ∧ L3 ≤ c3) (w : World) (h : SlotsAt w.heap.size w a1 a2 a3 s.g s.u s.f) (ht : s.cut.take = (nilS, (0, 0), 92)) (hb : s.cut.right = true) :
    Calls Try.prog 5 #[.agg #[.slice a1 L1 c1, .slice a2 L2 c2, .slice a3 L3 c3], .agg #[.int .i64 p, .int .i64 g]] w fun e w' => e = .returned (.bool true) ∧ Below w.heap.size w w' := by
  obtain ⟨l1, l2, l3⟩ := cut_len s h1 h2 h3 hm
  have C := Lib.hid (fun W hW => take_to a1 a2 a3 c1 c2 c3 m1 m2 m3 s.cut l1 l2 l3 nilS 0 0 92 ht 0 0 0 rfl rfl rfl W hW)
  have D := Lib.hid (fun W hW => right2_any a1 a2 a3 c1 c2 c3 m1 m2 m3 s.cut l1 l2 l3 W hW)
  rw [hb] at D
  have HM := Lib.hid hm
  have HK := Lib.hid hk
  have HS0 := Lib.hid h
  clear h h1 h2 h3 hm hk l1 l2 l3 ht hb
  go_enter Try.func5, Try.ntmps5
  go_wp2_with fail
  refine (shown_any _).mono ?_; rintro e w1 ⟨rfl, hb1⟩
  have hv1 := (((VarS.new w 25 a1 a2 a3 L1 L2 L3 c1 c2 c3).on (Below.refl _ (w.alloc (.cells #[.slice a1 L1 c1, .slice a2 L2 c2, .slice a3 L3 c3] 25)) |> fun h => h.alloc (Nat.le_refl _) (.cells #[.int .i64 p, .int .i64 g] 27)) (by simp)).on hb1 (by simp; omega))
  have hw1 := btr (bal (bal (Below.refl w.heap.size w) (.cells #[.slice a1 L1 c1, .slice a2 L2 c2, .slice a3 L3 c3] 25)) (.cells #[.int .i64 p, .int .i64 g] 27)) hb1
  have y0 : w1.cell? ⟨w.heap.size + 1, 0, none⟩ = some (.int .i64 p) := (hb1.cell (p := ⟨w.heap.size + 1, 0, none⟩) (by simp)).trans (by go_simp)
  have y1 : w1.cell? ⟨w.heap.size + 1, 1, none⟩ = some (.int .i64 g) := (hb1.cell (p := ⟨w.heap.size + 1, 1, none⟩) (by simp)).trans (by go_simp)
  have hz1 := hb1.size
  simp only [World.size_alloc] at hz1
  obtain ⟨e0, e1, e2, f0, f1, f2⟩ := id hv1
  have HV1 := Lib.hid hv1
  have HW1 := Lib.hid hw1
  clear hb1 hv1 hw1
  go_wp2_with fail
  refine (cut_raw a1 a2 a3 c1 c2 c3 L1 L2 L3 m1 m2 m3 HM.out.1 HM.out.2.1 HM.out.2.2 HK.out.1 HK.out.2.1 HK.out.2.2 _).mono ?_; rintro e w2 ⟨rfl, hb2⟩
  have hv2 := HV1.out.on hb2 (show w.heap.size < w1.heap.size by omega)
  have hw2 := btr HW1.out hb2
  have z0 := (hb2.cell (p := ⟨w.heap.size + 1, 0, none⟩) (show w.heap.size + 1 < w1.heap.size by omega)).trans y0
  have z1 := (hb2.cell (p := ⟨w.heap.size + 1, 1, none⟩) (show w.heap.size + 1 < w1.heap.size by omega)).trans y1
  have hz2 := hb2.size
  clear e0 e1 e2 f0 f1 f2 y0 y1 hb2
  obtain ⟨e0, e1, e2, f0, f1, f2⟩ := id hv2
  obtain ⟨V, hV⟩ : ∃ V, V = put3 w2 w.heap.size (.slice a1 m1 c1) (.slice a2 m2 c2) (.slice a3 m3 c3) := ⟨_, rfl⟩
  have HV := Lib.hid (show VarS w.heap.size a1 a2 a3 m1 m2 m3 c1 c2 c3 V by rw [hV]; exact hv2.put a1 a2 a3 m1 m2 m3 c1 c2 c3)
  have hSz : V.heap.size = w2.heap.size := by rw [hV]; exact put3_size _ _ _ _ _
  have HS := Lib.hid (show SlotsAt V.heap.size V a1 a2 a3 s.cut.g s.cut.u s.cut.f by rw [hSz, hV]; exact (HS0.out.cut.on hw2).put hv2 a1 a2 a3 m1 m2 m3 c1 c2 c3)
  have HB := Lib.hid (show Below w.heap.size w V by rw [hV]; exact put3_below hw2 (Nat.le_refl _) _ _ _)
  have g0 : V.cell? ⟨w.heap.size + 1, 0, none⟩ = some (.int .i64 p) := by rw [hV]; exact (set_other _ _ (by omega)).trans ((set_other _ _ (by omega)).trans ((set_other _ _ (by omega)).trans z0))
  have g1 : V.cell? ⟨w.heap.size + 1, 1, none⟩ = some (.int .i64 g) := by rw [hV]; exact (set_other _ _ (by omega)).trans ((set_other _ _ (by omega)).trans ((set_other _ _ (by omega)).trans z1))
  have hVz : w.heap.size + 1 < V.heap.size := by omega
  clear hv2 hw2
  go_wp2_with fail
  unfold put3 at hV
  rw [← hV]
  clear hV e0 e1 e2 f0 f1 f2 z0 z1 hz1 hz2 hSz HV1 HW1 HM HK HS0
  obtain ⟨e0, e1, e2, f0, f1, f2⟩ := id HV.out
  refine (C.out _ HS.out).mono ?_; rintro e w3 ⟨x1, x2, x3, v1, v2, v3, rfl, _, _, hb3⟩
  have V3 := Lib.hid (HV.out.on hb3 HV.out.lt)
  have S3 := Lib.hid (HS.out.on hb3)
  have B3 := Lib.hid (btr HB.out hb3)
  clear e0 e1 e2 f0 f1 f2 hb3 HV HS HB C
  obtain ⟨e0, e1, e2, f0, f1, f2⟩ := id V3.out
  have hX3 := V3.out.lt
  go_wp2_with fail
  refine (D.out _ (S3.out.on (bal (bal (Below.refl w3.heap.size w3) _) _))).mono ?_; rintro e w4 ⟨rfl, hb4⟩
  go_wp2
  go_ret
  exact ⟨rfl, btr (bal (bal B3.out _) _) hb4⟩
end Go.Proofs.Ytbalebnhjpjhgaa
