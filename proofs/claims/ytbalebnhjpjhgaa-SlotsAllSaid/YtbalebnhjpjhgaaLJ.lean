/- wicketgatelaw09.SlotsOld: the walk. -/
import Derived.Test.YtbalebnhjpjhgaaLI
namespace Go.Proofs.Ytbalebnhjpjhgaa
open Go.RowKit

set_option maxRecDepth 100000 in
set_option maxHeartbeats 1000000 in
theorem old_no (a1 a2 a3 : Option Addr) (c1 c2 c3 L1 L2 L3 m1 m2 m3 : Nat) (s : Sl) (p g keep : Int) (h1 : s.g.length = L1) (h2 : s.u.length = L2) (h3 : s.f.length = L3) (hm : m1 = min L1 66 ∧ m2 = min L2 66 ∧ m3 = min L3 66) (hk : L1 ≤ c1 ∧ L2 ≤ c2 ∧ L3 ≤ c3) (w : World) (h : SlotsAt w.heap.size w a1 a2 a3 s.g s.u s.f) (er : Int) (ht : s.cut.give (p, g) = (nilS, er)) (her : ¬ er = 0) :
    Calls Try.prog 6 #[.agg #[.slice a1 L1 c1, .slice a2 L2 c2, .slice a3 L3 c3], .agg #[.int .i64 p, .int .i64 g], .int .i64 keep] w fun e w' => e = .returned (.bool true) ∧ Below w.heap.size w w' := by
  obtain ⟨l1, l2, l3⟩ := cut_len s h1 h2 h3 hm
  have C := Lib.hid (fun W hW => give_to a1 a2 a3 c1 c2 c3 m1 m2 m3 s.cut l1 l2 l3 p g nilS er ht 0 0 0 rfl rfl rfl W hW)
  have HM := Lib.hid hm
  have HK := Lib.hid hk
  have HS0 := Lib.hid h
  clear h h1 h2 h3 hm hk l1 l2 l3 ht
  go_enter Try.func6, Try.ntmps6
  go_wp2_with fail
  refine (shown_any _).mono ?_; rintro e w1 ⟨rfl, hb1⟩
  have hv1 := (((VarS.new w 25 a1 a2 a3 L1 L2 L3 c1 c2 c3).on (Below.refl _ (w.alloc (.cells #[.slice a1 L1 c1, .slice a2 L2 c2, .slice a3 L3 c3] 25)) |> fun h => h.alloc (Nat.le_refl _) (.cells #[.int .i64 p, .int .i64 g] 27)) (by simp)).on hb1 (by simp; omega))
  have hw1 := btr (bal (bal (Below.refl w.heap.size w) (.cells #[.slice a1 L1 c1, .slice a2 L2 c2, .slice a3 L3 c3] 25)) (.cells #[.int .i64 p, .int .i64 g] 27)) hb1
  have y0 : w1.cell? ⟨w.heap.size + 1, 0, none⟩ = some (.int .i64 p) := (hb1.cell (p := ⟨w.heap.size + 1, 0, none⟩) (by simp)).trans (by go_simp)
  have y1 : w1.cell? ⟨w.heap.size + 1, 1, none⟩ = some (.int .i64 g) := (hb1.cell (p := ⟨w.heap.size + 1, 1, none⟩) (by simp)).trans (by go_simp)
  have hz1 := hb1.size
  simp only [World.size_alloc] at hz1
  obtain ⟨e0, e1, e2, f0, f1, f2⟩ := id hv1
  have HV1 := Lib.hid hv1
  have HW1 := Lib.hid hw1
  clear hb1 hv1 hw1
  go_wp2_with fail
  refine (cut_raw a1 a2 a3 c1 c2 c3 L1 L2 L3 m1 m2 m3 HM.out.1 HM.out.2.1 HM.out.2.2 HK.out.1 HK.out.2.1 HK.out.2.2 _).mono ?_; rintro e w2 ⟨rfl, hb2⟩
  have hv2 := HV1.out.on hb2 (show w.heap.size < w1.heap.size by omega)
  have hw2 := btr HW1.out hb2
  have z0 := (hb2.cell (p := ⟨w.heap.size + 1, 0, none⟩) (show w.heap.size + 1 < w1.heap.size by omega)).trans y0
  have z1 := (hb2.cell (p := ⟨w.heap.size + 1, 1, none⟩) (show w.heap.size + 1 < w1.heap.size by omega)).trans y1
  have hz2 := hb2.size
  clear e0 e1 e2 f0 f1 f2 y0 y1 hb2
  obtain ⟨e0, e1, e2, f0, f1, f2⟩ := id hv2
  obtain ⟨V, hV⟩ : ∃ V, V = put3 w2 w.heap.size (.slice a1 m1 c1) (.slice a2 m2 c2) (.slice a3 m3 c3) := ⟨_, rfl⟩
  have HV := Lib.hid (show VarS w.heap.size a1 a2 a3 m1 m2 m3 c1 c2 c3 V by rw [hV]; exact hv2.put a1 a2 a3 m1 m2 m3 c1 c2 c3)
  have hSz : V.heap.size = w2.heap.size := by rw [hV]; exact put3_size _ _ _ _ _
  have HS := Lib.hid (show SlotsAt V.heap.size V a1 a2 a3 s.cut.g s.cut.u s.cut.f by rw [hSz, hV]; exact (HS0.out.cut.on hw2).put hv2 a1 a2 a3 m1 m2 m3 c1 c2 c3)
  have HB := Lib.hid (show Below w.heap.size w V by rw [hV]; exact put3_below hw2 (Nat.le_refl _) _ _ _)
  have g0 : V.cell? ⟨w.heap.size + 1, 0, none⟩ = some (.int .i64 p) := by rw [hV]; exact (set_other _ _ (by omega)).trans ((set_other _ _ (by omega)).trans ((set_other _ _ (by omega)).trans z0))
  have g1 : V.cell? ⟨w.heap.size + 1, 1, none⟩ = some (.int .i64 g) := by rw [hV]; exact (set_other _ _ (by omega)).trans ((set_other _ _ (by omega)).trans ((set_other _ _ (by omega)).trans z1))
  have hVz : w.heap.size + 1 < V.heap.size := by omega
  clear hv2 hw2
  go_wp2_with fail
  unfold put3 at hV
  rw [← hV]
  clear hV e0 e1 e2 f0 f1 f2 z0 z1 hz1 hz2 hSz HV1 HW1 HM HK HS0
  obtain ⟨e0, e1, e2, f0, f1, f2⟩ := id HV.out
  refine (C.out _ HS.out).mono ?_; rintro e w3 ⟨x1, x2, x3, v1, v2, v3, rfl, _, hb3⟩
  have B3 := Lib.hid (btr HB.out hb3)
  clear e0 e1 e2 f0 f1 f2 hb3 HV HS HB C
  go_wp2
  go_ret
  exact ⟨rfl, bal B3.out _⟩

set_option maxRecDepth 100000 in
set_option maxHeartbeats 4000000 in
theorem old_yes (a1 a2 a3 : Option Addr) (c1 c2 c3 L1 L2 L3 m1 m2 m3 : Nat) (s : Sl) (g keep : Int) (k : Nat) (h1 : s.g.length = L1) (h2 : s.u.length = L2) (h3 : s.f.length = L3) (hm : m1 = min L1 66 ∧ m2 = min L2 66 ∧ m3 = min L3 66) (hk : L1 ≤ c1 ∧ L2 ≤ c2 ∧ L3 ≤ c3) (w : World) (h : SlotsAt w.heap.size w a1 a2 a3 s.g s.u s.f) (t0 : Sl) (ht : s.cut.give ((k : Int), g) = (t0, 0)) (hA : Aged t0 k g m1 m2) :
    Calls Try.prog 6 #[.agg #[.slice a1 L1 c1, .slice a2 L2 c2, .slice a3 L3 c3], .agg #[.int .i64 k, .int .i64 g], .int .i64 keep] w fun e w' => e = .returned (.bool true) ∧ Below w.heap.size w w' := by
  obtain ⟨l1, l2, l3⟩ := cut_len s h1 h2 h3 hm
  obtain ⟨N0, hN0⟩ : ∃ N0, N0 = t0.f.length := ⟨_, rfl⟩
  have C := Lib.hid (fun W hW => give_to a1 a2 a3 c1 c2 c3 m1 m2 m3 s.cut l1 l2 l3 k g t0 0 ht m1 m2 N0 hA.l1 hA.l2 hN0.symm W hW)
  have AA := Lib.hid hA
  have HN0 := Lib.hid hN0
  have HM := Lib.hid hm
  have HK := Lib.hid hk
  have HS0 := Lib.hid h
  clear h h1 h2 h3 hm hk l1 l2 l3 ht hA hN0
  go_enter Try.func6, Try.ntmps6
  go_wp2_with fail
  refine (shown_any _).mono ?_; rintro e w1 ⟨rfl, hb1⟩
  have hv1 := (((VarS.new w 25 a1 a2 a3 L1 L2 L3 c1 c2 c3).on (Below.refl _ (w.alloc (.cells #[.slice a1 L1 c1, .slice a2 L2 c2, .slice a3 L3 c3] 25)) |> fun h => h.alloc (Nat.le_refl _) (.cells #[.int .i64 (k : Int), .int .i64 g] 27)) (by simp)).on hb1 (by simp; omega))
  have hw1 := btr (bal (bal (Below.refl w.heap.size w) (.cells #[.slice a1 L1 c1, .slice a2 L2 c2, .slice a3 L3 c3] 25)) (.cells #[.int .i64 (k : Int), .int .i64 g] 27)) hb1
  have y0 : w1.cell? ⟨w.heap.size + 1, 0, none⟩ = some (.int .i64 (k : Int)) := (hb1.cell (p := ⟨w.heap.size + 1, 0, none⟩) (by simp)).trans (by go_simp)
  have y1 : w1.cell? ⟨w.heap.size + 1, 1, none⟩ = some (.int .i64 g) := (hb1.cell (p := ⟨w.heap.size + 1, 1, none⟩) (by simp)).trans (by go_simp)
  have hz1 := hb1.size
  simp only [World.size_alloc] at hz1
  obtain ⟨e0, e1, e2, f0, f1, f2⟩ := id hv1
  have HV1 := Lib.hid hv1
  have HW1 := Lib.hid hw1
  clear hb1 hv1 hw1
  go_wp2_with fail
  refine (cut_raw a1 a2 a3 c1 c2 c3 L1 L2 L3 m1 m2 m3 HM.out.1 HM.out.2.1 HM.out.2.2 HK.out.1 HK.out.2.1 HK.out.2.2 _).mono ?_; rintro e w2 ⟨rfl, hb2⟩
  have hv2 := HV1.out.on hb2 (show w.heap.size < w1.heap.size by omega)
  have hw2 := btr HW1.out hb2
  have z0 := (hb2.cell (p := ⟨w.heap.size + 1, 0, none⟩) (show w.heap.size + 1 < w1.heap.size by omega)).trans y0
  have z1 := (hb2.cell (p := ⟨w.heap.size + 1, 1, none⟩) (show w.heap.size + 1 < w1.heap.size by omega)).trans y1
  have hz2 := hb2.size
  clear e0 e1 e2 f0 f1 f2 y0 y1 hb2
  obtain ⟨e0, e1, e2, f0, f1, f2⟩ := id hv2
  obtain ⟨V, hV⟩ : ∃ V, V = put3 w2 w.heap.size (.slice a1 m1 c1) (.slice a2 m2 c2) (.slice a3 m3 c3) := ⟨_, rfl⟩
  have HV := Lib.hid (show VarS w.heap.size a1 a2 a3 m1 m2 m3 c1 c2 c3 V by rw [hV]; exact hv2.put a1 a2 a3 m1 m2 m3 c1 c2 c3)
  have hSz : V.heap.size = w2.heap.size := by rw [hV]; exact put3_size _ _ _ _ _
  have HS := Lib.hid (show SlotsAt V.heap.size V a1 a2 a3 s.cut.g s.cut.u s.cut.f by rw [hSz, hV]; exact (HS0.out.cut.on hw2).put hv2 a1 a2 a3 m1 m2 m3 c1 c2 c3)
  have HB := Lib.hid (show Below w.heap.size w V by rw [hV]; exact put3_below hw2 (Nat.le_refl _) _ _ _)
  have g0 : V.cell? ⟨w.heap.size + 1, 0, none⟩ = some (.int .i64 (k : Int)) := by rw [hV]; exact (set_other _ _ (by omega)).trans ((set_other _ _ (by omega)).trans ((set_other _ _ (by omega)).trans z0))
  have g1 : V.cell? ⟨w.heap.size + 1, 1, none⟩ = some (.int .i64 g) := by rw [hV]; exact (set_other _ _ (by omega)).trans ((set_other _ _ (by omega)).trans ((set_other _ _ (by omega)).trans z1))
  have hVz : w.heap.size + 1 < V.heap.size := by omega
  clear hv2 hw2
  go_wp2_with fail
  unfold put3 at hV
  rw [← hV]
  clear hV e0 e1 e2 f0 f1 f2 z0 z1 hz1 hz2 hSz HV1 HW1 HM HK HS0
  obtain ⟨e0, e1, e2, f0, f1, f2⟩ := id HV.out
  refine (C.out _ HS.out).mono ?_; rintro e w3 ⟨x1, x2, x3, v1, v2, v3, rfl, hS3, hb3⟩
  have V3 := Lib.hid (VarS.new w3 25 x1 x2 x3 m1 m2 N0 v1 v2 v3)
  have S3 := Lib.hid (hS3.on (bal (Below.refl w3.heap.size w3) (.cells #[.slice x1 m1 v1, .slice x2 m2 v2, .slice x3 N0 v3] 25)))
  have B3 := Lib.hid (bal (btr HB.out hb3) (.cells #[.slice x1 m1 v1, .slice x2 m2 v2, .slice x3 N0 v3] 25))
  have gg0 := keep_alloc (.cells #[.slice x1 m1 v1, .slice x2 m2 v2, .slice x3 N0 v3] 25) ((hb3.cell (p := ⟨w.heap.size + 1, 0, none⟩) hVz).trans g0)
  have gg1 := keep_alloc (.cells #[.slice x1 m1 v1, .slice x2 m2 v2, .slice x3 N0 v3] 25) ((hb3.cell (p := ⟨w.heap.size + 1, 1, none⟩) hVz).trans g1)
  have hX3 : w.heap.size + 1 < w3.heap.size := Nat.lt_of_lt_of_le hVz hb3.size
  have hX0 : w.heap.size ≤ w3.heap.size := by omega
  clear e0 e1 e2 f0 f1 f2 hb3 HV HS HB C g0 g1 hS3 hVz
  go_wp2_with fail
  generalize hX : w3.heap.size = X at *
  generalize w3.alloc (.cells #[.slice x1 m1 v1, .slice x2 m2 v2, .slice x3 N0 v3] 25) = U at *
  clear hX
  go_loopw [10] (fun i wr => ∃ (j : Nat) (t : Sl) (a b c : Option Addr) (d f ee M : Nat), j ≤ 12 ∧ i = .int .i64 j ∧ M = t.f.length ∧ Aged t k g m1 m2 ∧ VarS X a b c m1 m2 M d f ee wr ∧ SlotsAt wr.heap.size wr a b c t.g t.u t.f ∧
      wr.cell? ⟨w.heap.size + 1, 0, none⟩ = some (.int .i64 k) ∧ wr.cell? ⟨w.heap.size + 1, 1, none⟩ = some (.int .i64 g) ∧ Below w.heap.size w wr) (fun i _ => 12 - (intOf i).toNat)
  case atStart => exact ⟨0, t0, x1, x2, x3, v1, v2, v3, N0, by omega, rfl, HN0.out, AA.out, V3.out, S3.out, gg0, gg1, B3.out⟩
  case round =>
    clear V3 S3 B3 gg0 gg1 AA HN0
    obtain ⟨j, t, a, b, c, d, f, ee, M, hj, rfl, hM, hA, hV, hS, y0, y1, hB⟩ := hrel
    have HM := Lib.hid hM
    have AA := Lib.hid hA
    obtain ⟨e0, e1, e2, f0, f1, f2⟩ := id hV
    have hXr := hV.lt
    have hYr := blt y0
    have VV := Lib.hid hV
    have SS := Lib.hid hS
    have BB := Lib.hid hB
    have hT := turn hA
    have TR := Lib.hid hA.right
    have TV := Lib.hid hA.not_valid
    clear hM hA hV hS hB
    by_cases hlt : j < 12
    · have hlt' : (j : Int) < 12 := by omega
      have D := Lib.hid (fun W hW => valid_any a b c d f ee m1 m2 M t k g AA.out.l1 AA.out.l2 HM.out.symm W hW)
      rw [TV.out] at D
      cases hT with
      | full hq =>
        have C := Lib.hid (fun W hW => take_to a b c d f ee m1 m2 M t AA.out.l1 AA.out.l2 HM.out.symm nilS 0 0 92 hq 0 0 0 rfl rfl rfl W hW)
        have E := Lib.hid (fun z1 z2 z3 z4 z5 z6 W hW => valid_any z1 z2 z3 z4 z5 z6 0 0 0 nilS k g rfl rfl rfl W hW)
        rw [nil_valid] at E
        clear hq
        go_wp2_with fail
        refine (C.out _ SS.out).mono ?_; rintro e w4 ⟨x1, x2, x3, v1, v2, v3, rfl, hS4, _, hb4⟩
        have V4 := Lib.hid ((VV.out.on hb4 hXr))
        have S4 := Lib.hid (SS.out.on hb4)
        have N4 := Lib.hid hS4
        have B4 := Lib.hid (btr BB.out hb4)
        have y0 := (hb4.cell (p := ⟨w.heap.size + 1, 0, none⟩) hYr).trans y0
        have y1 := (hb4.cell (p := ⟨w.heap.size + 1, 1, none⟩) hYr).trans y1
        have hX4 : X < w4.heap.size := V4.out.lt
        have hY4 : w.heap.size + 1 < w4.heap.size := blt y0
        have hY5 : w.heap.size < w4.heap.size := by omega
        clear e0 e1 e2 f0 f1 f2 hb4 hS4
        obtain ⟨e0, e1, e2, f0, f1, f2⟩ := id V4.out
        go_wp2_with fail
        refine (D.out _ (S4.out.on (bal (bal (Below.refl w4.heap.size w4) _) _))).mono ?_; rintro e w5 ⟨rfl, hb5⟩
        have hbb := btr (bal (bal (Below.refl w4.heap.size w4) (.cells #[.slice x1 0 v1, .slice x2 0 v2, .slice x3 0 v3] 25)) (.cells #[.int .i64 0, .int .i64 0] 27)) hb5
        obtain ⟨hc5, hf5⟩ := bcell hb5
        have hz5 := hb5.size
        simp only [World.size_alloc] at hz5
        have V5 := Lib.hid (V4.out.on hbb hX4)
        have S5 := Lib.hid (S4.out.on hbb)
        have N5 := Lib.hid (N4.out.on hbb)
        have B5 := Lib.hid (btr B4.out hbb)
        have y0 := (hbb.cell (p := ⟨w.heap.size + 1, 0, none⟩) hY4).trans y0
        have y1 := (hbb.cell (p := ⟨w.heap.size + 1, 1, none⟩) hY4).trans y1
        have hself : w4.heap.size < w4.heap.size + 1 + 1 := by omega
        have hX5 : X < w5.heap.size := V5.out.lt
        have hY6 : w.heap.size + 1 < w5.heap.size := blt y0
        clear e0 e1 e2 f0 f1 f2 hb5 hbb
        obtain ⟨e0, e1, e2, f0, f1, f2⟩ := id V5.out
        go_wp2_with fail
        refine (E.out x1 x2 x3 v1 v2 v3 _ N5.out).mono ?_; rintro e w6 ⟨rfl, hb6⟩
        have V6 := Lib.hid (V5.out.on hb6 hX5)
        have S6 := Lib.hid (S5.out.on hb6)
        have B6 := Lib.hid (btr B5.out hb6)
        have y0 := (hb6.cell (p := ⟨w.heap.size + 1, 0, none⟩) hY6).trans y0
        have y1 := (hb6.cell (p := ⟨w.heap.size + 1, 1, none⟩) hY6).trans y1
        clear e0 e1 e2 f0 f1 f2 hb6 hc5 hf5
        obtain ⟨e0, e1, e2, f0, f1, f2⟩ := id V6.out
        go_wp2
        exact ⟨⟨j + 1, t, a, b, c, d, f, ee, M, hlt, by go_num, HM.out, AA.out, V6.out, S6.out, y0, y1, B6.out⟩, by simp [intOf]; omega⟩
      | ok u v p' g' hq hAu hvu hgv hAv hne =>
        obtain ⟨N, hN⟩ : ∃ N, N = u.f.length := ⟨_, rfl⟩
        obtain ⟨N', hN'⟩ : ∃ N', N' = v.f.length := ⟨_, rfl⟩
        have C := Lib.hid (fun W hW => take_to a b c d f ee m1 m2 M t AA.out.l1 AA.out.l2 HM.out.symm u p' g' 0 hq m1 m2 N hAu.l1 hAu.l2 hN.symm W hW)
        have E := Lib.hid (fun z1 z2 z3 z4 z5 z6 W hW => valid_any z1 z2 z3 z4 z5 z6 m1 m2 N u k g hAu.l1 hAu.l2 hN.symm W hW)
        rw [hvu] at E
        have G := Lib.hid (fun z1 z2 z3 z4 z5 z6 W hW => give_to z1 z2 z3 z4 z5 z6 m1 m2 N u hAu.l1 hAu.l2 hN.symm p' g' v 0 hgv m1 m2 N' hAv.l1 hAv.l2 hN'.symm W hW)
        have AU := Lib.hid hAu
        have AV := Lib.hid hAv
        have HN := Lib.hid hN
        have HN' := Lib.hid hN'
        clear hq hAu hvu hgv hAv hN hN'
        rcases hne with hne | ⟨hpk, hne⟩
        · go_wp2_with fail
          refine (C.out _ SS.out).mono ?_; rintro e w4 ⟨x1, x2, x3, v1, v2, v3, rfl, hS4, _, hb4⟩
          have V4 := Lib.hid ((VV.out.on hb4 hXr))
          have S4 := Lib.hid (SS.out.on hb4)
          have N4 := Lib.hid hS4
          have B4 := Lib.hid (btr BB.out hb4)
          have y0 := (hb4.cell (p := ⟨w.heap.size + 1, 0, none⟩) hYr).trans y0
          have y1 := (hb4.cell (p := ⟨w.heap.size + 1, 1, none⟩) hYr).trans y1
          have hX4 : X < w4.heap.size := V4.out.lt
          have hY4 : w.heap.size + 1 < w4.heap.size := blt y0
          have hY5 : w.heap.size < w4.heap.size := by omega
          clear e0 e1 e2 f0 f1 f2 hb4 hS4
          obtain ⟨e0, e1, e2, f0, f1, f2⟩ := id V4.out
          go_wp2_with fail
          refine (D.out _ (S4.out.on (bal (bal (Below.refl w4.heap.size w4) _) _))).mono ?_; rintro e w5 ⟨rfl, hb5⟩
          have hbb := btr (bal (bal (Below.refl w4.heap.size w4) (.cells #[.slice x1 m1 v1, .slice x2 m2 v2, .slice x3 N v3] 25)) (.cells #[.int .i64 p', .int .i64 g'] 27)) hb5
          obtain ⟨hc5, hf5⟩ := bcell hb5
          have hz5 := hb5.size
          simp only [World.size_alloc] at hz5
          have V5 := Lib.hid (V4.out.on hbb hX4)
          have N5 := Lib.hid (N4.out.on hbb)
          have B5 := Lib.hid (btr B4.out hbb)
          have y0 := (hbb.cell (p := ⟨w.heap.size + 1, 0, none⟩) hY4).trans y0
          have y1 := (hbb.cell (p := ⟨w.heap.size + 1, 1, none⟩) hY4).trans y1
          have hself : w4.heap.size < w4.heap.size + 1 + 1 := by omega
          have hX5 : X < w5.heap.size := V5.out.lt
          have hY6 : w.heap.size + 1 < w5.heap.size := blt y0
          have T0 := VarS.on (VarS.new w4 25 x1 x2 x3 m1 m2 N v1 v2 v3) (bal (Below.refl _ _) (.cells #[.int .i64 p', .int .i64 g'] 27)) (by simp)
          have T5 := Lib.hid (T0.on hb5 (by simp; omega))
          have q0 : w5.cell? ⟨w4.heap.size + 1, 0, none⟩ = some (.int .i64 p') := (hb5.cell (p := ⟨w4.heap.size + 1, 0, none⟩) (by simp)).trans (by have e := World.cell?_alloc_new (w4.alloc (.cells #[.slice x1 m1 v1, .slice x2 m2 v2, .slice x3 N v3] 25)) #[.int .i64 p', .int .i64 g'] 27 0; rw [World.size_alloc] at e; exact e.trans rfl)
          have q1 : w5.cell? ⟨w4.heap.size + 1, 1, none⟩ = some (.int .i64 g') := (hb5.cell (p := ⟨w4.heap.size + 1, 1, none⟩) (by simp)).trans (by have e := World.cell?_alloc_new (w4.alloc (.cells #[.slice x1 m1 v1, .slice x2 m2 v2, .slice x3 N v3] 25)) #[.int .i64 p', .int .i64 g'] 27 1; rw [World.size_alloc] at e; exact e.trans rfl)
          have hT5 : w4.heap.size < w5.heap.size := by omega
          have hQ5 : w4.heap.size + 1 < w5.heap.size := by omega
          clear e0 e1 e2 f0 f1 f2 hb5 hbb T0 hc5 hf5 hz5
          obtain ⟨e0, e1, e2, f0, f1, f2⟩ := id V5.out
          obtain ⟨r0, r1, r2, _, _, _⟩ := id T5.out
          go_wp2_with fail
          refine (E.out x1 x2 x3 v1 v2 v3 _ N5.out).mono ?_; rintro e w6 ⟨rfl, hb6⟩
          have V6 := Lib.hid (V5.out.on hb6 hX5)
          have N6 := Lib.hid (N5.out.on hb6)
          have B6 := Lib.hid (btr B5.out hb6)
          have T6 := T5.out.on hb6 hT5
          have y0 := (hb6.cell (p := ⟨w.heap.size + 1, 0, none⟩) hY6).trans y0
          have y1 := (hb6.cell (p := ⟨w.heap.size + 1, 1, none⟩) hY6).trans y1
          have q0 := (hb6.cell (p := ⟨w4.heap.size + 1, 0, none⟩) hQ5).trans q0
          have q1 := (hb6.cell (p := ⟨w4.heap.size + 1, 1, none⟩) hQ5).trans q1
          clear e0 e1 e2 f0 f1 f2 r0 r1 r2 hb6
          obtain ⟨e0, e1, e2, f0, f1, f2⟩ := id V6.out
          obtain ⟨r0, r1, r2, _, _, _⟩ := id T6
          have nYX : w.heap.size + 1 ≠ X := by omega
          have nQX : w4.heap.size + 1 ≠ X := by omega
          have Z1 := Lib.hid (V6.out.put x1 x2 x3 m1 m2 N v1 v2 v3)
          have Z2 := Lib.hid ((N6.out.put V6.out x1 x2 x3 m1 m2 N v1 v2 v3).mono (Nat.le_of_eq (put3_size w6 X (.slice x1 m1 v1) (.slice x2 m2 v2) (.slice x3 N v3)).symm))
          have Z3 := Lib.hid (put3_below B6.out (Nat.le_trans (show w.heap.size ≤ X by omega) (Nat.le_refl X)) (.slice x1 m1 v1) (.slice x2 m2 v2) (.slice x3 N v3))
          have oth := fun (bq o : Nat) (x : Value) (hx : w6.cell? ⟨bq, o, none⟩ = some x) (hne : bq ≠ X) => (show (put3 w6 X (.slice x1 m1 v1) (.slice x2 m2 v2) (.slice x3 N v3)).cell? ⟨bq, o, none⟩ = some x from (set_other _ _ hne).trans ((set_other _ _ hne).trans ((set_other _ _ hne).trans hx)))
          have Y0 := Lib.hid (oth _ _ _ y0 nYX)
          have Y1 := Lib.hid (oth _ _ _ y1 nYX)
          clear oth
          by_cases h3 : (j : Int) % 3 = keep
          · go_wp2_with fail
            exact ⟨⟨j + 1, u, x1, x2, x3, v1, v2, v3, N, hlt, by go_num, HN.out, AU.out, Z1.out, Z2.out, Y0.out, Y1.out, Z3.out⟩, by simp [intOf]; omega⟩
          · have hX6 : X < (put3 w6 X (.slice x1 m1 v1) (.slice x2 m2 v2) (.slice x3 N v3)).heap.size := by rw [put3_size]; exact V6.out.lt
            have hY7 : w.heap.size + 1 < (put3 w6 X (.slice x1 m1 v1) (.slice x2 m2 v2) (.slice x3 N v3)).heap.size := by rw [put3_size]; exact blt y0
            have HX6 := Lib.hid hX6
            have HY7 := Lib.hid hY7
            clear hX6 hY7
            go_wp2_with fail
            refine (G.out x1 x2 x3 v1 v2 v3 _ Z2.out).mono ?_; rintro e w7 ⟨b1, b2, b3, d1, d2, d3, rfl, hS7, hb7⟩
            have V7 := Z1.out.on hb7 HX6.out
            have z0 := (hb7.cell (p := ⟨w.heap.size + 1, 0, none⟩) HY7.out).trans Y0.out
            have z1 := (hb7.cell (p := ⟨w.heap.size + 1, 1, none⟩) HY7.out).trans Y1.out
            have hX7 : X < w7.heap.size := V7.lt
            have hXp : X < (put3 w7 X (.slice b1 m1 d1) (.slice b2 m2 d2) (.slice b3 N' d3)).heap.size := by rw [put3_size]; exact hX7
            have W1 := Lib.hid ((V7.put b1 b2 b3 m1 m2 N' d1 d2 d3).on (bal (Below.refl _ _) (.cells #[.slice b1 m1 d1, .slice b2 m2 d2, .slice b3 N' d3] 25)) hXp)
            have W2 := Lib.hid (((hS7.put V7 b1 b2 b3 m1 m2 N' d1 d2 d3).mono (Nat.le_of_eq (put3_size w7 X (.slice b1 m1 d1) (.slice b2 m2 d2) (.slice b3 N' d3)).symm)).on (bal (Below.refl _ _) (.cells #[.slice b1 m1 d1, .slice b2 m2 d2, .slice b3 N' d3] 25)))
            have W3 := Lib.hid (bal (put3_below (btr Z3.out hb7) (show w.heap.size ≤ X by omega) (.slice b1 m1 d1) (.slice b2 m2 d2) (.slice b3 N' d3)) (.cells #[.slice b1 m1 d1, .slice b2 m2 d2, .slice b3 N' d3] 25))
            have oth := fun (bq o : Nat) (x : Value) (hx : w7.cell? ⟨bq, o, none⟩ = some x) (hne : bq ≠ X) => (show (put3 w7 X (.slice b1 m1 d1) (.slice b2 m2 d2) (.slice b3 N' d3)).cell? ⟨bq, o, none⟩ = some x from (set_other _ _ hne).trans ((set_other _ _ hne).trans ((set_other _ _ hne).trans hx)))
            have Q0 := Lib.hid (keep_alloc (.cells #[.slice b1 m1 d1, .slice b2 m2 d2, .slice b3 N' d3] 25) (oth _ _ _ z0 nYX))
            have Q1 := Lib.hid (keep_alloc (.cells #[.slice b1 m1 d1, .slice b2 m2 d2, .slice b3 N' d3] 25) (oth _ _ _ z1 nYX))
            clear hXp
            clear e0 e1 e2 f0 f1 f2 r0 r1 r2 hb7 oth z0 z1 q0 q1 y0 y1 hS7
            obtain ⟨e0, e1, e2, f0, f1, f2⟩ := V7
            go_wp2_with fail
            exact ⟨⟨j + 1, v, b1, b2, b3, d1, d2, d3, N', hlt, by go_num, HN'.out, AV.out, W1.out, W2.out, Q0.out, Q1.out, W3.out⟩, by simp [intOf]; omega⟩
        · subst hpk
          go_wp2_with fail
          refine (C.out _ SS.out).mono ?_; rintro e w4 ⟨x1, x2, x3, v1, v2, v3, rfl, hS4, _, hb4⟩
          have V4 := Lib.hid ((VV.out.on hb4 hXr))
          have S4 := Lib.hid (SS.out.on hb4)
          have N4 := Lib.hid hS4
          have B4 := Lib.hid (btr BB.out hb4)
          have y0 := (hb4.cell (p := ⟨w.heap.size + 1, 0, none⟩) hYr).trans y0
          have y1 := (hb4.cell (p := ⟨w.heap.size + 1, 1, none⟩) hYr).trans y1
          have hX4 : X < w4.heap.size := V4.out.lt
          have hY4 : w.heap.size + 1 < w4.heap.size := blt y0
          have hY5 : w.heap.size < w4.heap.size := by omega
          clear e0 e1 e2 f0 f1 f2 hb4 hS4
          obtain ⟨e0, e1, e2, f0, f1, f2⟩ := id V4.out
          go_wp2_with fail
          refine (D.out _ (S4.out.on (bal (bal (Below.refl w4.heap.size w4) _) _))).mono ?_; rintro e w5 ⟨rfl, hb5⟩
          have hbb := btr (bal (bal (Below.refl w4.heap.size w4) (.cells #[.slice x1 m1 v1, .slice x2 m2 v2, .slice x3 N v3] 25)) (.cells #[.int .i64 (k : Int), .int .i64 g'] 27)) hb5
          obtain ⟨hc5, hf5⟩ := bcell hb5
          have hz5 := hb5.size
          simp only [World.size_alloc] at hz5
          have V5 := Lib.hid (V4.out.on hbb hX4)
          have N5 := Lib.hid (N4.out.on hbb)
          have B5 := Lib.hid (btr B4.out hbb)
          have y0 := (hbb.cell (p := ⟨w.heap.size + 1, 0, none⟩) hY4).trans y0
          have y1 := (hbb.cell (p := ⟨w.heap.size + 1, 1, none⟩) hY4).trans y1
          have hself : w4.heap.size < w4.heap.size + 1 + 1 := by omega
          have hX5 : X < w5.heap.size := V5.out.lt
          have hY6 : w.heap.size + 1 < w5.heap.size := blt y0
          have T0 := VarS.on (VarS.new w4 25 x1 x2 x3 m1 m2 N v1 v2 v3) (bal (Below.refl _ _) (.cells #[.int .i64 (k : Int), .int .i64 g'] 27)) (by simp)
          have T5 := Lib.hid (T0.on hb5 (by simp; omega))
          have q0 : w5.cell? ⟨w4.heap.size + 1, 0, none⟩ = some (.int .i64 (k : Int)) := (hb5.cell (p := ⟨w4.heap.size + 1, 0, none⟩) (by simp)).trans (by have e := World.cell?_alloc_new (w4.alloc (.cells #[.slice x1 m1 v1, .slice x2 m2 v2, .slice x3 N v3] 25)) #[.int .i64 (k : Int), .int .i64 g'] 27 0; rw [World.size_alloc] at e; exact e.trans rfl)
          have q1 : w5.cell? ⟨w4.heap.size + 1, 1, none⟩ = some (.int .i64 g') := (hb5.cell (p := ⟨w4.heap.size + 1, 1, none⟩) (by simp)).trans (by have e := World.cell?_alloc_new (w4.alloc (.cells #[.slice x1 m1 v1, .slice x2 m2 v2, .slice x3 N v3] 25)) #[.int .i64 (k : Int), .int .i64 g'] 27 1; rw [World.size_alloc] at e; exact e.trans rfl)
          have hT5 : w4.heap.size < w5.heap.size := by omega
          have hQ5 : w4.heap.size + 1 < w5.heap.size := by omega
          clear e0 e1 e2 f0 f1 f2 hb5 hbb T0 hc5 hf5 hz5
          obtain ⟨e0, e1, e2, f0, f1, f2⟩ := id V5.out
          obtain ⟨r0, r1, r2, _, _, _⟩ := id T5.out
          go_wp2_with fail
          refine (E.out x1 x2 x3 v1 v2 v3 _ N5.out).mono ?_; rintro e w6 ⟨rfl, hb6⟩
          have V6 := Lib.hid (V5.out.on hb6 hX5)
          have N6 := Lib.hid (N5.out.on hb6)
          have B6 := Lib.hid (btr B5.out hb6)
          have T6 := T5.out.on hb6 hT5
          have y0 := (hb6.cell (p := ⟨w.heap.size + 1, 0, none⟩) hY6).trans y0
          have y1 := (hb6.cell (p := ⟨w.heap.size + 1, 1, none⟩) hY6).trans y1
          have q0 := (hb6.cell (p := ⟨w4.heap.size + 1, 0, none⟩) hQ5).trans q0
          have q1 := (hb6.cell (p := ⟨w4.heap.size + 1, 1, none⟩) hQ5).trans q1
          clear e0 e1 e2 f0 f1 f2 r0 r1 r2 hb6
          obtain ⟨e0, e1, e2, f0, f1, f2⟩ := id V6.out
          obtain ⟨r0, r1, r2, _, _, _⟩ := id T6
          have nYX : w.heap.size + 1 ≠ X := by omega
          have nQX : w4.heap.size + 1 ≠ X := by omega
          have Z1 := Lib.hid (V6.out.put x1 x2 x3 m1 m2 N v1 v2 v3)
          have Z2 := Lib.hid ((N6.out.put V6.out x1 x2 x3 m1 m2 N v1 v2 v3).mono (Nat.le_of_eq (put3_size w6 X (.slice x1 m1 v1) (.slice x2 m2 v2) (.slice x3 N v3)).symm))
          have Z3 := Lib.hid (put3_below B6.out (Nat.le_trans (show w.heap.size ≤ X by omega) (Nat.le_refl X)) (.slice x1 m1 v1) (.slice x2 m2 v2) (.slice x3 N v3))
          have oth := fun (bq o : Nat) (x : Value) (hx : w6.cell? ⟨bq, o, none⟩ = some x) (hne : bq ≠ X) => (show (put3 w6 X (.slice x1 m1 v1) (.slice x2 m2 v2) (.slice x3 N v3)).cell? ⟨bq, o, none⟩ = some x from (set_other _ _ hne).trans ((set_other _ _ hne).trans ((set_other _ _ hne).trans hx)))
          have Y0 := Lib.hid (oth _ _ _ y0 nYX)
          have Y1 := Lib.hid (oth _ _ _ y1 nYX)
          clear oth
          by_cases h3 : (j : Int) % 3 = keep
          · go_wp2_with fail
            exact ⟨⟨j + 1, u, x1, x2, x3, v1, v2, v3, N, hlt, by go_num, HN.out, AU.out, Z1.out, Z2.out, Y0.out, Y1.out, Z3.out⟩, by simp [intOf]; omega⟩
          · have hX6 : X < (put3 w6 X (.slice x1 m1 v1) (.slice x2 m2 v2) (.slice x3 N v3)).heap.size := by rw [put3_size]; exact V6.out.lt
            have hY7 : w.heap.size + 1 < (put3 w6 X (.slice x1 m1 v1) (.slice x2 m2 v2) (.slice x3 N v3)).heap.size := by rw [put3_size]; exact blt y0
            have HX6 := Lib.hid hX6
            have HY7 := Lib.hid hY7
            clear hX6 hY7
            go_wp2_with fail
            refine (G.out x1 x2 x3 v1 v2 v3 _ Z2.out).mono ?_; rintro e w7 ⟨b1, b2, b3, d1, d2, d3, rfl, hS7, hb7⟩
            have V7 := Z1.out.on hb7 HX6.out
            have z0 := (hb7.cell (p := ⟨w.heap.size + 1, 0, none⟩) HY7.out).trans Y0.out
            have z1 := (hb7.cell (p := ⟨w.heap.size + 1, 1, none⟩) HY7.out).trans Y1.out
            have hX7 : X < w7.heap.size := V7.lt
            have hXp : X < (put3 w7 X (.slice b1 m1 d1) (.slice b2 m2 d2) (.slice b3 N' d3)).heap.size := by rw [put3_size]; exact hX7
            have W1 := Lib.hid ((V7.put b1 b2 b3 m1 m2 N' d1 d2 d3).on (bal (Below.refl _ _) (.cells #[.slice b1 m1 d1, .slice b2 m2 d2, .slice b3 N' d3] 25)) hXp)
            have W2 := Lib.hid (((hS7.put V7 b1 b2 b3 m1 m2 N' d1 d2 d3).mono (Nat.le_of_eq (put3_size w7 X (.slice b1 m1 d1) (.slice b2 m2 d2) (.slice b3 N' d3)).symm)).on (bal (Below.refl _ _) (.cells #[.slice b1 m1 d1, .slice b2 m2 d2, .slice b3 N' d3] 25)))
            have W3 := Lib.hid (bal (put3_below (btr Z3.out hb7) (show w.heap.size ≤ X by omega) (.slice b1 m1 d1) (.slice b2 m2 d2) (.slice b3 N' d3)) (.cells #[.slice b1 m1 d1, .slice b2 m2 d2, .slice b3 N' d3] 25))
            have oth := fun (bq o : Nat) (x : Value) (hx : w7.cell? ⟨bq, o, none⟩ = some x) (hne : bq ≠ X) => (show (put3 w7 X (.slice b1 m1 d1) (.slice b2 m2 d2) (.slice b3 N' d3)).cell? ⟨bq, o, none⟩ = some x from (set_other _ _ hne).trans ((set_other _ _ hne).trans ((set_other _ _ hne).trans hx)))
            have Q0 := Lib.hid (keep_alloc (.cells #[.slice b1 m1 d1, .slice b2 m2 d2, .slice b3 N' d3] 25) (oth _ _ _ z0 nYX))
            have Q1 := Lib.hid (keep_alloc (.cells #[.slice b1 m1 d1, .slice b2 m2 d2, .slice b3 N' d3] 25) (oth _ _ _ z1 nYX))
            clear hXp
            clear e0 e1 e2 f0 f1 f2 r0 r1 r2 hb7 oth z0 z1 q0 q1 y0 y1 hS7
            obtain ⟨e0, e1, e2, f0, f1, f2⟩ := V7
            go_wp2_with fail
            exact ⟨⟨j + 1, v, b1, b2, b3, d1, d2, d3, N', hlt, by go_num, HN'.out, AV.out, W1.out, W2.out, Q0.out, Q1.out, W3.out⟩, by simp [intOf]; omega⟩
    · obtain rfl : j = 12 := by omega
      have D := Lib.hid (fun W hW => right2_any a b c d f ee m1 m2 M t AA.out.l1 AA.out.l2 HM.out.symm W hW)
      rw [TR.out] at D
      go_wp2_with fail
      refine (D.out _ SS.out).mono ?_; rintro e w4 ⟨rfl, hb4⟩
      go_wp2
      go_ret
      exact ⟨rfl, btr BB.out hb4⟩
end Go.Proofs.Ytbalebnhjpjhgaa
