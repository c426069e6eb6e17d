/- wicketgatelaw09.SlotsKeeps: the walk. -/
import Derived.Test.YtbalebnhjpjhgaaLD
namespace Go.Proofs.Ytbalebnhjpjhgaa
open Go.RowKit

theorem onU {P : Program} {f : FuncId} {args : Array Value} {U W : World} {e0 : Ending} (h : Below U.heap.size U W) (c : Calls P f args W fun e w' => e = e0 ∧ Below W.heap.size W w') : Calls P f args W fun e w' => e = e0 ∧ Below U.heap.size U w' := c.mono fun _ _ ⟨a, b⟩ => ⟨a, btr h b⟩
theorem all_onU {U W : World} (a1 a2 a3 : Option Addr) (c1 c2 c3 L1 L2 L3 M : Nat) (s : Sl) (h1 : s.g.length = L1) (h2 : s.u.length = L2) (h3 : s.f.length = L3) (hM : s.all.length = M) (h : SlotsAt U.heap.size U a1 a2 a3 s.g s.u s.f) (hb : Below U.heap.size U W) :
    Calls Try.prog 20 #[.agg #[.slice a1 L1 c1, .slice a2 L2 c2, .slice a3 L3 c3]] W fun e w' => ∃ a c, e = .returned (.slice a M c) ∧ Below U.heap.size U w' := by
  refine (all_any a1 a2 a3 c1 c2 c3 L1 L2 L3 s h1 h2 h3 W (h.on hb)).mono ?_
  rintro e w' ⟨v, rfl, ho, hb'⟩
  obtain ⟨c, a, rfl⟩ := ho.slice
  exact ⟨a, c, by rw [hM], btr hb hb'⟩

set_option maxRecDepth 100000 in
set_option maxHeartbeats 4000000 in
theorem keeps_ok_ne (a1 a2 a3 : Option Addr) (c1 c2 c3 L1 L2 L3 m1 m2 m3 : Nat) (s : Sl) (p g : Int) (k : Nat) (h1 : s.g.length = L1) (h2 : s.u.length = L2) (h3 : s.f.length = L3) (hm : m1 = min L1 66 ∧ m2 = min L2 66 ∧ m3 = min L3 66) (hk : L1 ≤ c1 ∧ L2 ≤ c2 ∧ L3 ≤ c3) (w : World) (h : SlotsAt w.heap.size w a1 a2 a3 s.g s.u s.f) (t : Sl) (M3 M N : Nat) (q : Int) (vb : Bool) (ht : s.cut.take = (t, ((k : Int), q), 0)) (T : t.g.length = m1 ∧ t.u.length = m2 ∧ t.f.length = M3) (tr : t.right = true)
    (f1 : s.cut.valid ((k : Int), q) = false) (f2 : t.valid ((k : Int), q) = true) (f3 : s.cut.valid (p, g) = vb) (f4 : t.valid (p, g) = vb) (f5 : t.all.length = N) (f6 : s.cut.all.length = M) (hMN : N = M + 1) (hM : M ≤ 1000) (hne : ¬ p = (k : Int)) :
    Calls Try.prog 5 #[.agg #[.slice a1 L1 c1, .slice a2 L2 c2, .slice a3 L3 c3], .agg #[.int .i64 p, .int .i64 g]] w fun e w' => e = .returned (.bool true) ∧ Below w.heap.size w w' := by
  obtain ⟨l1, l2, l3⟩ := cut_len s h1 h2 h3 hm
  have hN : (N : Int) = (M : Int) + 1 := by omega
  have hM1 : (M : Int) ≤ 1000 := by omega
  have hw : IntKind.i64.wrap ((M : Int) + 1) = (M : Int) + 1 := IntWalk.i64_in _ (by omega)
  have C := Lib.hid (fun W hW => take_to a1 a2 a3 c1 c2 c3 m1 m2 m3 s.cut l1 l2 l3 t k q 0 ht m1 m2 M3 T.1 T.2.1 T.2.2 W hW)
  have R := Lib.hid (fun x1 x2 x3 v1 v2 v3 W hW => right2_any x1 x2 x3 v1 v2 v3 m1 m2 M3 t T.1 T.2.1 T.2.2 W hW)
  rw [tr] at R
  have Q1 := Lib.hid (fun W hW => valid_any a1 a2 a3 c1 c2 c3 m1 m2 m3 s.cut k q l1 l2 l3 W hW)
  rw [f1] at Q1
  have Q2 := Lib.hid (fun x1 x2 x3 v1 v2 v3 W hW => valid_any x1 x2 x3 v1 v2 v3 m1 m2 M3 t k q T.1 T.2.1 T.2.2 W hW)
  rw [f2] at Q2
  have Q3 := Lib.hid (fun W hW => valid_any a1 a2 a3 c1 c2 c3 m1 m2 m3 s.cut p g l1 l2 l3 W hW)
  rw [f3] at Q3
  have Q4 := Lib.hid (fun x1 x2 x3 v1 v2 v3 W hW => valid_any x1 x2 x3 v1 v2 v3 m1 m2 M3 t p g T.1 T.2.1 T.2.2 W hW)
  rw [f4] at Q4
  have A1 := Lib.hid (fun x1 x2 x3 v1 v2 v3 (U W : World) hW hb => all_onU (U := U) (W := W) x1 x2 x3 v1 v2 v3 m1 m2 M3 N t T.1 T.2.1 T.2.2 f5 hW hb)
  have A2 := Lib.hid (fun (U W : World) hW hb => all_onU (U := U) (W := W) a1 a2 a3 c1 c2 c3 m1 m2 m3 M s.cut l1 l2 l3 f6 hW hb)
  have HM := Lib.hid hm
  have HK := Lib.hid hk
  have HS0 := Lib.hid h
  clear h h1 h2 h3 hm hk l1 l2 l3 ht T tr f1 f2 f3 f4 f5 f6 hMN hM
  go_enter Try.func5, Try.ntmps5
  go_wp2_with fail
  refine (shown_any _).mono ?_; rintro e w1 ⟨rfl, hb1⟩
  have hv1 := (((VarS.new w 25 a1 a2 a3 L1 L2 L3 c1 c2 c3).on (Below.refl _ (w.alloc (.cells #[.slice a1 L1 c1, .slice a2 L2 c2, .slice a3 L3 c3] 25)) |> fun h => h.alloc (Nat.le_refl _) (.cells #[.int .i64 p, .int .i64 g] 27)) (by simp)).on hb1 (by simp; omega))
  have hw1 := btr (bal (bal (Below.refl w.heap.size w) (.cells #[.slice a1 L1 c1, .slice a2 L2 c2, .slice a3 L3 c3] 25)) (.cells #[.int .i64 p, .int .i64 g] 27)) hb1
  have y0 : w1.cell? ⟨w.heap.size + 1, 0, none⟩ = some (.int .i64 p) := (hb1.cell (p := ⟨w.heap.size + 1, 0, none⟩) (by simp)).trans (by go_simp)
  have y1 : w1.cell? ⟨w.heap.size + 1, 1, none⟩ = some (.int .i64 g) := (hb1.cell (p := ⟨w.heap.size + 1, 1, none⟩) (by simp)).trans (by go_simp)
  have hz1 := hb1.size
  simp only [World.size_alloc] at hz1
  obtain ⟨e0, e1, e2, f0, f1, f2⟩ := id hv1
  have HV1 := Lib.hid hv1
  have HW1 := Lib.hid hw1
  clear hb1 hv1 hw1
  go_wp2_with fail
  refine (cut_raw a1 a2 a3 c1 c2 c3 L1 L2 L3 m1 m2 m3 HM.out.1 HM.out.2.1 HM.out.2.2 HK.out.1 HK.out.2.1 HK.out.2.2 _).mono ?_; rintro e w2 ⟨rfl, hb2⟩
  have hv2 := HV1.out.on hb2 (show w.heap.size < w1.heap.size by omega)
  have hw2 := btr HW1.out hb2
  have z0 := (hb2.cell (p := ⟨w.heap.size + 1, 0, none⟩) (show w.heap.size + 1 < w1.heap.size by omega)).trans y0
  have z1 := (hb2.cell (p := ⟨w.heap.size + 1, 1, none⟩) (show w.heap.size + 1 < w1.heap.size by omega)).trans y1
  have hz2 := hb2.size
  clear e0 e1 e2 f0 f1 f2 y0 y1 hb2
  obtain ⟨e0, e1, e2, f0, f1, f2⟩ := id hv2
  obtain ⟨V, hV⟩ : ∃ V, V = put3 w2 w.heap.size (.slice a1 m1 c1) (.slice a2 m2 c2) (.slice a3 m3 c3) := ⟨_, rfl⟩
  have HV := Lib.hid (show VarS w.heap.size a1 a2 a3 m1 m2 m3 c1 c2 c3 V by rw [hV]; exact hv2.put a1 a2 a3 m1 m2 m3 c1 c2 c3)
  have hSz : V.heap.size = w2.heap.size := by rw [hV]; exact put3_size _ _ _ _ _
  have HS := Lib.hid (show SlotsAt V.heap.size V a1 a2 a3 s.cut.g s.cut.u s.cut.f by rw [hSz, hV]; exact (HS0.out.cut.on hw2).put hv2 a1 a2 a3 m1 m2 m3 c1 c2 c3)
  have HB := Lib.hid (show Below w.heap.size w V by rw [hV]; exact put3_below hw2 (Nat.le_refl _) _ _ _)
  have g0 : V.cell? ⟨w.heap.size + 1, 0, none⟩ = some (.int .i64 p) := by rw [hV]; exact (set_other _ _ (by omega)).trans ((set_other _ _ (by omega)).trans ((set_other _ _ (by omega)).trans z0))
  have g1 : V.cell? ⟨w.heap.size + 1, 1, none⟩ = some (.int .i64 g) := by rw [hV]; exact (set_other _ _ (by omega)).trans ((set_other _ _ (by omega)).trans ((set_other _ _ (by omega)).trans z1))
  have hVz : w.heap.size + 1 < V.heap.size := by omega
  clear hv2 hw2
  go_wp2_with fail
  unfold put3 at hV
  rw [← hV]
  clear hV e0 e1 e2 f0 f1 f2 z0 z1 hz1 hz2 hSz HV1 HW1 HM HK HS0
  obtain ⟨e0, e1, e2, f0, f1, f2⟩ := id HV.out
  refine (C.out _ HS.out).mono ?_; rintro e w3 ⟨x1, x2, x3, v1, v2, v3, rfl, hS3, _, hb3⟩
  have V3 := Lib.hid (HV.out.on hb3 HV.out.lt)
  have S3 := Lib.hid (HS.out.on hb3)
  have T3 := Lib.hid hS3
  have B3 := Lib.hid (btr HB.out hb3)
  have gg0 := (hb3.cell (p := ⟨w.heap.size + 1, 0, none⟩) hVz).trans g0
  have gg1 := (hb3.cell (p := ⟨w.heap.size + 1, 1, none⟩) hVz).trans g1
  have hX3 : w.heap.size + 1 < w3.heap.size := Nat.lt_of_lt_of_le hVz hb3.size
  clear e0 e1 e2 f0 f1 f2 hb3 HV HS HB C g0 g1 hS3 hVz
  go_wp2_with fail
  have hU1 := bal (Below.refl w3.heap.size w3) (.cells #[.slice x1 m1 v1, .slice x2 m2 v2, .slice x3 M3 v3] 25)
  have hU2 := bal hU1 (.cells #[.int .i64 k, .int .i64 q] 27)
  have r0 : ((w3.alloc (.cells #[.slice x1 m1 v1, .slice x2 m2 v2, .slice x3 M3 v3] 25)).alloc (.cells #[.int .i64 k, .int .i64 q] 27)).cell? ⟨w.heap.size, 0, none⟩ = some (.slice a1 m1 c1) := keep_alloc _ (keep_alloc _ V3.out.e0)
  have r1 : ((w3.alloc (.cells #[.slice x1 m1 v1, .slice x2 m2 v2, .slice x3 M3 v3] 25)).alloc (.cells #[.int .i64 k, .int .i64 q] 27)).cell? ⟨w.heap.size, 1, none⟩ = some (.slice a2 m2 c2) := keep_alloc _ (keep_alloc _ V3.out.e1)
  have r2 : ((w3.alloc (.cells #[.slice x1 m1 v1, .slice x2 m2 v2, .slice x3 M3 v3] 25)).alloc (.cells #[.int .i64 k, .int .i64 q] 27)).cell? ⟨w.heap.size, 2, none⟩ = some (.slice a3 m3 c3) := keep_alloc _ (keep_alloc _ V3.out.e2)
  have r3 : ((w3.alloc (.cells #[.slice x1 m1 v1, .slice x2 m2 v2, .slice x3 M3 v3] 25)).alloc (.cells #[.int .i64 k, .int .i64 q] 27)).cell? ⟨w.heap.size + 1, 0, none⟩ = some (.int .i64 p) := keep_alloc _ (keep_alloc _ gg0)
  have r4 : ((w3.alloc (.cells #[.slice x1 m1 v1, .slice x2 m2 v2, .slice x3 M3 v3] 25)).alloc (.cells #[.int .i64 k, .int .i64 q] 27)).cell? ⟨w.heap.size + 1, 1, none⟩ = some (.int .i64 g) := keep_alloc _ (keep_alloc _ gg1)
  have r5 : ((w3.alloc (.cells #[.slice x1 m1 v1, .slice x2 m2 v2, .slice x3 M3 v3] 25)).alloc (.cells #[.int .i64 k, .int .i64 q] 27)).cell? ⟨w3.heap.size, 0, none⟩ = some (.slice x1 m1 v1) := keep_alloc _ ((World.cell?_alloc_new w3 _ _ 0).trans rfl)
  have r6 : ((w3.alloc (.cells #[.slice x1 m1 v1, .slice x2 m2 v2, .slice x3 M3 v3] 25)).alloc (.cells #[.int .i64 k, .int .i64 q] 27)).cell? ⟨w3.heap.size, 1, none⟩ = some (.slice x2 m2 v2) := keep_alloc _ ((World.cell?_alloc_new w3 _ _ 1).trans rfl)
  have r7 : ((w3.alloc (.cells #[.slice x1 m1 v1, .slice x2 m2 v2, .slice x3 M3 v3] 25)).alloc (.cells #[.int .i64 k, .int .i64 q] 27)).cell? ⟨w3.heap.size, 2, none⟩ = some (.slice x3 M3 v3) := keep_alloc _ ((World.cell?_alloc_new w3 _ _ 2).trans rfl)
  have r8 : ((w3.alloc (.cells #[.slice x1 m1 v1, .slice x2 m2 v2, .slice x3 M3 v3] 25)).alloc (.cells #[.int .i64 k, .int .i64 q] 27)).cell? ⟨w3.heap.size + 1, 0, none⟩ = some (.int .i64 k) := by have e := World.cell?_alloc_new (w3.alloc (.cells #[.slice x1 m1 v1, .slice x2 m2 v2, .slice x3 M3 v3] 25)) #[.int .i64 (k : Int), .int .i64 q] 27 0; rw [World.size_alloc] at e; exact e.trans rfl
  have r9 : ((w3.alloc (.cells #[.slice x1 m1 v1, .slice x2 m2 v2, .slice x3 M3 v3] 25)).alloc (.cells #[.int .i64 k, .int .i64 q] 27)).cell? ⟨w3.heap.size + 1, 1, none⟩ = some (.int .i64 q) := by have e := World.cell?_alloc_new (w3.alloc (.cells #[.slice x1 m1 v1, .slice x2 m2 v2, .slice x3 M3 v3] 25)) #[.int .i64 (k : Int), .int .i64 q] 27 1; rw [World.size_alloc] at e; exact e.trans rfl
  have l0 : w.heap.size < ((w3.alloc (.cells #[.slice x1 m1 v1, .slice x2 m2 v2, .slice x3 M3 v3] 25)).alloc (.cells #[.int .i64 k, .int .i64 q] 27)).heap.size := by simp; omega
  have l1 : w.heap.size + 1 < ((w3.alloc (.cells #[.slice x1 m1 v1, .slice x2 m2 v2, .slice x3 M3 v3] 25)).alloc (.cells #[.int .i64 k, .int .i64 q] 27)).heap.size := by simp; omega
  have l2 : w3.heap.size < ((w3.alloc (.cells #[.slice x1 m1 v1, .slice x2 m2 v2, .slice x3 M3 v3] 25)).alloc (.cells #[.int .i64 k, .int .i64 q] 27)).heap.size := by simp; omega
  have l3 : w3.heap.size + 1 < ((w3.alloc (.cells #[.slice x1 m1 v1, .slice x2 m2 v2, .slice x3 M3 v3] 25)).alloc (.cells #[.int .i64 k, .int .i64 q] 27)).heap.size := by simp
  have SU := Lib.hid (S3.out.on hU2)
  have TU := Lib.hid (T3.out.on hU2)
  have BU := Lib.hid (bal (bal B3.out (.cells #[.slice x1 m1 v1, .slice x2 m2 v2, .slice x3 M3 v3] 25)) (.cells #[.int .i64 k, .int .i64 q] 27))
  clear V3 S3 T3 B3 gg0 gg1 hU1 hU2 hX3
  generalize ((w3.alloc (.cells #[.slice x1 m1 v1, .slice x2 m2 v2, .slice x3 M3 v3] 25)).alloc (.cells #[.int .i64 k, .int .i64 q] 27)) = U at *
  generalize w3.heap.size = Z at *
  have hUU : Below U.heap.size U U := Below.refl _ _
  have R := Lib.hid (fun W hb => onU (U := U) hb (R.out x1 x2 x3 v1 v2 v3 W (TU.out.on hb)))
  have Q1 := Lib.hid (fun W hb => onU (U := U) hb (Q1.out W (SU.out.on hb)))
  have Q2 := Lib.hid (fun W hb => onU (U := U) hb (Q2.out x1 x2 x3 v1 v2 v3 W (TU.out.on hb)))
  have Q3 := Lib.hid (fun W hb => onU (U := U) hb (Q3.out W (SU.out.on hb)))
  have Q4 := Lib.hid (fun W hb => onU (U := U) hb (Q4.out x1 x2 x3 v1 v2 v3 W (TU.out.on hb)))
  have A1 := Lib.hid (fun W hb => A1.out x1 x2 x3 v1 v2 v3 U W TU.out hb)
  have A2 := Lib.hid (fun W hb => A2.out U W SU.out hb)
  have mk : ∀ w', Below U.heap.size U w' → w'.cell? ⟨w.heap.size, 0, none⟩ = some (.slice a1 m1 c1) ∧ w'.cell? ⟨w.heap.size, 1, none⟩ = some (.slice a2 m2 c2) ∧ w'.cell? ⟨w.heap.size, 2, none⟩ = some (.slice a3 m3 c3) ∧ w'.cell? ⟨w.heap.size + 1, 0, none⟩ = some (.int .i64 p) ∧ w'.cell? ⟨w.heap.size + 1, 1, none⟩ = some (.int .i64 g) ∧ w'.cell? ⟨Z, 0, none⟩ = some (.slice x1 m1 v1) ∧ w'.cell? ⟨Z, 1, none⟩ = some (.slice x2 m2 v2) ∧ w'.cell? ⟨Z, 2, none⟩ = some (.slice x3 M3 v3) ∧ w'.cell? ⟨Z + 1, 0, none⟩ = some (.int .i64 k) ∧ w'.cell? ⟨Z + 1, 1, none⟩ = some (.int .i64 q) ∧ Below U.heap.size U w' := fun W hb => ⟨(hb.cell (p := ⟨w.heap.size, 0, none⟩) l0).trans r0, (hb.cell (p := ⟨w.heap.size, 1, none⟩) l0).trans r1, (hb.cell (p := ⟨w.heap.size, 2, none⟩) l0).trans r2, (hb.cell (p := ⟨w.heap.size + 1, 0, none⟩) l1).trans r3, (hb.cell (p := ⟨w.heap.size + 1, 1, none⟩) l1).trans r4, (hb.cell (p := ⟨Z, 0, none⟩) l2).trans r5, (hb.cell (p := ⟨Z, 1, none⟩) l2).trans r6, (hb.cell (p := ⟨Z, 2, none⟩) l2).trans r7, (hb.cell (p := ⟨Z + 1, 0, none⟩) l3).trans r8, (hb.cell (p := ⟨Z + 1, 1, none⟩) l3).trans r9, hb⟩
  have MK := Lib.hid mk
  clear mk
  go_region_held3 (fun w' => w'.cell? ⟨w.heap.size, 0, none⟩ = some (.slice a1 m1 c1) ∧ w'.cell? ⟨w.heap.size, 1, none⟩ = some (.slice a2 m2 c2) ∧ w'.cell? ⟨w.heap.size, 2, none⟩ = some (.slice a3 m3 c3) ∧ w'.cell? ⟨w.heap.size + 1, 0, none⟩ = some (.int .i64 p) ∧ w'.cell? ⟨w.heap.size + 1, 1, none⟩ = some (.int .i64 g) ∧ w'.cell? ⟨Z, 0, none⟩ = some (.slice x1 m1 v1) ∧ w'.cell? ⟨Z, 1, none⟩ = some (.slice x2 m2 v2) ∧ w'.cell? ⟨Z, 2, none⟩ = some (.slice x3 M3 v3) ∧ w'.cell? ⟨Z + 1, 0, none⟩ = some (.int .i64 k) ∧ w'.cell? ⟨Z + 1, 1, none⟩ = some (.int .i64 q) ∧ Below U.heap.size U w')
    (first | with_reducible assumption | exact MK.out _ (by with_reducible assumption) | exact MK.out _ (below_drew (by with_reducible assumption)))
    ((first
      | (go_at_call 14; go_split_ands; with_reducible refine (R.out _ ?_).mono ?_; (first | with_reducible assumption | exact below_drew (by with_reducible assumption)); rintro e wn ⟨rfl, sB⟩; clear R)
      | (go_at_call 17; go_split_ands; with_reducible refine (Q1.out _ ?_).mono ?_; (first | with_reducible assumption | exact below_drew (by with_reducible assumption)); rintro e wn ⟨rfl, sB⟩; clear Q1)
      | (go_at_call 17; go_split_ands; with_reducible refine (Q2.out _ ?_).mono ?_; (first | with_reducible assumption | exact below_drew (by with_reducible assumption)); rintro e wn ⟨rfl, sB⟩; clear Q2)
      | (go_at_call 17; go_split_ands; with_reducible refine (Q3.out _ ?_).mono ?_; (first | with_reducible assumption | exact below_drew (by with_reducible assumption)); rintro e wn ⟨rfl, sB⟩; clear Q3)
      | (go_at_call 17; go_split_ands; with_reducible refine (Q4.out _ ?_).mono ?_; (first | with_reducible assumption | exact below_drew (by with_reducible assumption)); rintro e wn ⟨rfl, sB⟩; clear Q4)
      | (go_at_call 20; go_split_ands; with_reducible refine (A1.out _ ?_).mono ?_; (first | with_reducible assumption | exact below_drew (by with_reducible assumption)); rintro e wn ⟨av, ac, rfl, sB⟩; clear A1)
      | (go_at_call 20; go_split_ands; with_reducible refine (A2.out _ ?_).mono ?_; (first | with_reducible assumption | exact below_drew (by with_reducible assumption)); rintro e wn ⟨bv, bc, rfl, sB⟩; clear A2)))
  go_wp2
  go_ret
  exact ⟨rfl, btr BU.out sB⟩

set_option maxRecDepth 100000 in
set_option maxHeartbeats 4000000 in
theorem keeps_ok_ne2 (a1 a2 a3 : Option Addr) (c1 c2 c3 L1 L2 L3 m1 m2 m3 : Nat) (s : Sl) (g : Int) (k : Nat) (h1 : s.g.length = L1) (h2 : s.u.length = L2) (h3 : s.f.length = L3) (hm : m1 = min L1 66 ∧ m2 = min L2 66 ∧ m3 = min L3 66) (hk : L1 ≤ c1 ∧ L2 ≤ c2 ∧ L3 ≤ c3) (w : World) (h : SlotsAt w.heap.size w a1 a2 a3 s.g s.u s.f) (t : Sl) (M3 M N : Nat) (q : Int) (vb : Bool) (ht : s.cut.take = (t, ((k : Int), q), 0)) (T : t.g.length = m1 ∧ t.u.length = m2 ∧ t.f.length = M3) (tr : t.right = true)
    (f1 : s.cut.valid ((k : Int), q) = false) (f2 : t.valid ((k : Int), q) = true) (f3 : s.cut.valid ((k : Int), g) = vb) (f4 : t.valid ((k : Int), g) = vb) (f5 : t.all.length = N) (f6 : s.cut.all.length = M) (hMN : N = M + 1) (hM : M ≤ 1000) (hne : ¬ g = q) :
    Calls Try.prog 5 #[.agg #[.slice a1 L1 c1, .slice a2 L2 c2, .slice a3 L3 c3], .agg #[.int .i64 (k : Int), .int .i64 g]] w fun e w' => e = .returned (.bool true) ∧ Below w.heap.size w w' := by
  obtain ⟨l1, l2, l3⟩ := cut_len s h1 h2 h3 hm
  have hN : (N : Int) = (M : Int) + 1 := by omega
  have hM1 : (M : Int) ≤ 1000 := by omega
  have hw : IntKind.i64.wrap ((M : Int) + 1) = (M : Int) + 1 := IntWalk.i64_in _ (by omega)
  have C := Lib.hid (fun W hW => take_to a1 a2 a3 c1 c2 c3 m1 m2 m3 s.cut l1 l2 l3 t k q 0 ht m1 m2 M3 T.1 T.2.1 T.2.2 W hW)
  have R := Lib.hid (fun x1 x2 x3 v1 v2 v3 W hW => right2_any x1 x2 x3 v1 v2 v3 m1 m2 M3 t T.1 T.2.1 T.2.2 W hW)
  rw [tr] at R
  have Q1 := Lib.hid (fun W hW => valid_any a1 a2 a3 c1 c2 c3 m1 m2 m3 s.cut k q l1 l2 l3 W hW)
  rw [f1] at Q1
  have Q2 := Lib.hid (fun x1 x2 x3 v1 v2 v3 W hW => valid_any x1 x2 x3 v1 v2 v3 m1 m2 M3 t k q T.1 T.2.1 T.2.2 W hW)
  rw [f2] at Q2
  have Q3 := Lib.hid (fun W hW => valid_any a1 a2 a3 c1 c2 c3 m1 m2 m3 s.cut (k : Int) g l1 l2 l3 W hW)
  rw [f3] at Q3
  have Q4 := Lib.hid (fun x1 x2 x3 v1 v2 v3 W hW => valid_any x1 x2 x3 v1 v2 v3 m1 m2 M3 t (k : Int) g T.1 T.2.1 T.2.2 W hW)
  rw [f4] at Q4
  have A1 := Lib.hid (fun x1 x2 x3 v1 v2 v3 (U W : World) hW hb => all_onU (U := U) (W := W) x1 x2 x3 v1 v2 v3 m1 m2 M3 N t T.1 T.2.1 T.2.2 f5 hW hb)
  have A2 := Lib.hid (fun (U W : World) hW hb => all_onU (U := U) (W := W) a1 a2 a3 c1 c2 c3 m1 m2 m3 M s.cut l1 l2 l3 f6 hW hb)
  have HM := Lib.hid hm
  have HK := Lib.hid hk
  have HS0 := Lib.hid h
  clear h h1 h2 h3 hm hk l1 l2 l3 ht T tr f1 f2 f3 f4 f5 f6 hMN hM
  go_enter Try.func5, Try.ntmps5
  go_wp2_with fail
  refine (shown_any _).mono ?_; rintro e w1 ⟨rfl, hb1⟩
  have hv1 := (((VarS.new w 25 a1 a2 a3 L1 L2 L3 c1 c2 c3).on (Below.refl _ (w.alloc (.cells #[.slice a1 L1 c1, .slice a2 L2 c2, .slice a3 L3 c3] 25)) |> fun h => h.alloc (Nat.le_refl _) (.cells #[.int .i64 (k : Int), .int .i64 g] 27)) (by simp)).on hb1 (by simp; omega))
  have hw1 := btr (bal (bal (Below.refl w.heap.size w) (.cells #[.slice a1 L1 c1, .slice a2 L2 c2, .slice a3 L3 c3] 25)) (.cells #[.int .i64 (k : Int), .int .i64 g] 27)) hb1
  have y0 : w1.cell? ⟨w.heap.size + 1, 0, none⟩ = some (.int .i64 (k : Int)) := (hb1.cell (p := ⟨w.heap.size + 1, 0, none⟩) (by simp)).trans (by go_simp)
  have y1 : w1.cell? ⟨w.heap.size + 1, 1, none⟩ = some (.int .i64 g) := (hb1.cell (p := ⟨w.heap.size + 1, 1, none⟩) (by simp)).trans (by go_simp)
  have hz1 := hb1.size
  simp only [World.size_alloc] at hz1
  obtain ⟨e0, e1, e2, f0, f1, f2⟩ := id hv1
  have HV1 := Lib.hid hv1
  have HW1 := Lib.hid hw1
  clear hb1 hv1 hw1
  go_wp2_with fail
  refine (cut_raw a1 a2 a3 c1 c2 c3 L1 L2 L3 m1 m2 m3 HM.out.1 HM.out.2.1 HM.out.2.2 HK.out.1 HK.out.2.1 HK.out.2.2 _).mono ?_; rintro e w2 ⟨rfl, hb2⟩
  have hv2 := HV1.out.on hb2 (show w.heap.size < w1.heap.size by omega)
  have hw2 := btr HW1.out hb2
  have z0 := (hb2.cell (p := ⟨w.heap.size + 1, 0, none⟩) (show w.heap.size + 1 < w1.heap.size by omega)).trans y0
  have z1 := (hb2.cell (p := ⟨w.heap.size + 1, 1, none⟩) (show w.heap.size + 1 < w1.heap.size by omega)).trans y1
  have hz2 := hb2.size
  clear e0 e1 e2 f0 f1 f2 y0 y1 hb2
  obtain ⟨e0, e1, e2, f0, f1, f2⟩ := id hv2
  obtain ⟨V, hV⟩ : ∃ V, V = put3 w2 w.heap.size (.slice a1 m1 c1) (.slice a2 m2 c2) (.slice a3 m3 c3) := ⟨_, rfl⟩
  have HV := Lib.hid (show VarS w.heap.size a1 a2 a3 m1 m2 m3 c1 c2 c3 V by rw [hV]; exact hv2.put a1 a2 a3 m1 m2 m3 c1 c2 c3)
  have hSz : V.heap.size = w2.heap.size := by rw [hV]; exact put3_size _ _ _ _ _
  have HS := Lib.hid (show SlotsAt V.heap.size V a1 a2 a3 s.cut.g s.cut.u s.cut.f by rw [hSz, hV]; exact (HS0.out.cut.on hw2).put hv2 a1 a2 a3 m1 m2 m3 c1 c2 c3)
  have HB := Lib.hid (show Below w.heap.size w V by rw [hV]; exact put3_below hw2 (Nat.le_refl _) _ _ _)
  have g0 : V.cell? ⟨w.heap.size + 1, 0, none⟩ = some (.int .i64 (k : Int)) := by rw [hV]; exact (set_other _ _ (by omega)).trans ((set_other _ _ (by omega)).trans ((set_other _ _ (by omega)).trans z0))
  have g1 : V.cell? ⟨w.heap.size + 1, 1, none⟩ = some (.int .i64 g) := by rw [hV]; exact (set_other _ _ (by omega)).trans ((set_other _ _ (by omega)).trans ((set_other _ _ (by omega)).trans z1))
  have hVz : w.heap.size + 1 < V.heap.size := by omega
  clear hv2 hw2
  go_wp2_with fail
  unfold put3 at hV
  rw [← hV]
  clear hV e0 e1 e2 f0 f1 f2 z0 z1 hz1 hz2 hSz HV1 HW1 HM HK HS0
  obtain ⟨e0, e1, e2, f0, f1, f2⟩ := id HV.out
  refine (C.out _ HS.out).mono ?_; rintro e w3 ⟨x1, x2, x3, v1, v2, v3, rfl, hS3, _, hb3⟩
  have V3 := Lib.hid (HV.out.on hb3 HV.out.lt)
  have S3 := Lib.hid (HS.out.on hb3)
  have T3 := Lib.hid hS3
  have B3 := Lib.hid (btr HB.out hb3)
  have gg0 := (hb3.cell (p := ⟨w.heap.size + 1, 0, none⟩) hVz).trans g0
  have gg1 := (hb3.cell (p := ⟨w.heap.size + 1, 1, none⟩) hVz).trans g1
  have hX3 : w.heap.size + 1 < w3.heap.size := Nat.lt_of_lt_of_le hVz hb3.size
  clear e0 e1 e2 f0 f1 f2 hb3 HV HS HB C g0 g1 hS3 hVz
  go_wp2_with fail
  have hU1 := bal (Below.refl w3.heap.size w3) (.cells #[.slice x1 m1 v1, .slice x2 m2 v2, .slice x3 M3 v3] 25)
  have hU2 := bal hU1 (.cells #[.int .i64 k, .int .i64 q] 27)
  have r0 : ((w3.alloc (.cells #[.slice x1 m1 v1, .slice x2 m2 v2, .slice x3 M3 v3] 25)).alloc (.cells #[.int .i64 k, .int .i64 q] 27)).cell? ⟨w.heap.size, 0, none⟩ = some (.slice a1 m1 c1) := keep_alloc _ (keep_alloc _ V3.out.e0)
  have r1 : ((w3.alloc (.cells #[.slice x1 m1 v1, .slice x2 m2 v2, .slice x3 M3 v3] 25)).alloc (.cells #[.int .i64 k, .int .i64 q] 27)).cell? ⟨w.heap.size, 1, none⟩ = some (.slice a2 m2 c2) := keep_alloc _ (keep_alloc _ V3.out.e1)
  have r2 : ((w3.alloc (.cells #[.slice x1 m1 v1, .slice x2 m2 v2, .slice x3 M3 v3] 25)).alloc (.cells #[.int .i64 k, .int .i64 q] 27)).cell? ⟨w.heap.size, 2, none⟩ = some (.slice a3 m3 c3) := keep_alloc _ (keep_alloc _ V3.out.e2)
  have r3 : ((w3.alloc (.cells #[.slice x1 m1 v1, .slice x2 m2 v2, .slice x3 M3 v3] 25)).alloc (.cells #[.int .i64 k, .int .i64 q] 27)).cell? ⟨w.heap.size + 1, 0, none⟩ = some (.int .i64 (k : Int)) := keep_alloc _ (keep_alloc _ gg0)
  have r4 : ((w3.alloc (.cells #[.slice x1 m1 v1, .slice x2 m2 v2, .slice x3 M3 v3] 25)).alloc (.cells #[.int .i64 k, .int .i64 q] 27)).cell? ⟨w.heap.size + 1, 1, none⟩ = some (.int .i64 g) := keep_alloc _ (keep_alloc _ gg1)
  have r5 : ((w3.alloc (.cells #[.slice x1 m1 v1, .slice x2 m2 v2, .slice x3 M3 v3] 25)).alloc (.cells #[.int .i64 k, .int .i64 q] 27)).cell? ⟨w3.heap.size, 0, none⟩ = some (.slice x1 m1 v1) := keep_alloc _ ((World.cell?_alloc_new w3 _ _ 0).trans rfl)
  have r6 : ((w3.alloc (.cells #[.slice x1 m1 v1, .slice x2 m2 v2, .slice x3 M3 v3] 25)).alloc (.cells #[.int .i64 k, .int .i64 q] 27)).cell? ⟨w3.heap.size, 1, none⟩ = some (.slice x2 m2 v2) := keep_alloc _ ((World.cell?_alloc_new w3 _ _ 1).trans rfl)
  have r7 : ((w3.alloc (.cells #[.slice x1 m1 v1, .slice x2 m2 v2, .slice x3 M3 v3] 25)).alloc (.cells #[.int .i64 k, .int .i64 q] 27)).cell? ⟨w3.heap.size, 2, none⟩ = some (.slice x3 M3 v3) := keep_alloc _ ((World.cell?_alloc_new w3 _ _ 2).trans rfl)
  have r8 : ((w3.alloc (.cells #[.slice x1 m1 v1, .slice x2 m2 v2, .slice x3 M3 v3] 25)).alloc (.cells #[.int .i64 k, .int .i64 q] 27)).cell? ⟨w3.heap.size + 1, 0, none⟩ = some (.int .i64 k) := by have e := World.cell?_alloc_new (w3.alloc (.cells #[.slice x1 m1 v1, .slice x2 m2 v2, .slice x3 M3 v3] 25)) #[.int .i64 (k : Int), .int .i64 q] 27 0; rw [World.size_alloc] at e; exact e.trans rfl
  have r9 : ((w3.alloc (.cells #[.slice x1 m1 v1, .slice x2 m2 v2, .slice x3 M3 v3] 25)).alloc (.cells #[.int .i64 k, .int .i64 q] 27)).cell? ⟨w3.heap.size + 1, 1, none⟩ = some (.int .i64 q) := by have e := World.cell?_alloc_new (w3.alloc (.cells #[.slice x1 m1 v1, .slice x2 m2 v2, .slice x3 M3 v3] 25)) #[.int .i64 (k : Int), .int .i64 q] 27 1; rw [World.size_alloc] at e; exact e.trans rfl
  have l0 : w.heap.size < ((w3.alloc (.cells #[.slice x1 m1 v1, .slice x2 m2 v2, .slice x3 M3 v3] 25)).alloc (.cells #[.int .i64 k, .int .i64 q] 27)).heap.size := by simp; omega
  have l1 : w.heap.size + 1 < ((w3.alloc (.cells #[.slice x1 m1 v1, .slice x2 m2 v2, .slice x3 M3 v3] 25)).alloc (.cells #[.int .i64 k, .int .i64 q] 27)).heap.size := by simp; omega
  have l2 : w3.heap.size < ((w3.alloc (.cells #[.slice x1 m1 v1, .slice x2 m2 v2, .slice x3 M3 v3] 25)).alloc (.cells #[.int .i64 k, .int .i64 q] 27)).heap.size := by simp; omega
  have l3 : w3.heap.size + 1 < ((w3.alloc (.cells #[.slice x1 m1 v1, .slice x2 m2 v2, .slice x3 M3 v3] 25)).alloc (.cells #[.int .i64 k, .int .i64 q] 27)).heap.size := by simp
  have SU := Lib.hid (S3.out.on hU2)
  have TU := Lib.hid (T3.out.on hU2)
  have BU := Lib.hid (bal (bal B3.out (.cells #[.slice x1 m1 v1, .slice x2 m2 v2, .slice x3 M3 v3] 25)) (.cells #[.int .i64 k, .int .i64 q] 27))
  clear V3 S3 T3 B3 gg0 gg1 hU1 hU2 hX3
  generalize ((w3.alloc (.cells #[.slice x1 m1 v1, .slice x2 m2 v2, .slice x3 M3 v3] 25)).alloc (.cells #[.int .i64 k, .int .i64 q] 27)) = U at *
  generalize w3.heap.size = Z at *
  have hUU : Below U.heap.size U U := Below.refl _ _
  have R := Lib.hid (fun W hb => onU (U := U) hb (R.out x1 x2 x3 v1 v2 v3 W (TU.out.on hb)))
  have Q1 := Lib.hid (fun W hb => onU (U := U) hb (Q1.out W (SU.out.on hb)))
  have Q2 := Lib.hid (fun W hb => onU (U := U) hb (Q2.out x1 x2 x3 v1 v2 v3 W (TU.out.on hb)))
  have Q3 := Lib.hid (fun W hb => onU (U := U) hb (Q3.out W (SU.out.on hb)))
  have Q4 := Lib.hid (fun W hb => onU (U := U) hb (Q4.out x1 x2 x3 v1 v2 v3 W (TU.out.on hb)))
  have A1 := Lib.hid (fun W hb => A1.out x1 x2 x3 v1 v2 v3 U W TU.out hb)
  have A2 := Lib.hid (fun W hb => A2.out U W SU.out hb)
  have mk : ∀ w', Below U.heap.size U w' → w'.cell? ⟨w.heap.size, 0, none⟩ = some (.slice a1 m1 c1) ∧ w'.cell? ⟨w.heap.size, 1, none⟩ = some (.slice a2 m2 c2) ∧ w'.cell? ⟨w.heap.size, 2, none⟩ = some (.slice a3 m3 c3) ∧ w'.cell? ⟨w.heap.size + 1, 0, none⟩ = some (.int .i64 (k : Int)) ∧ w'.cell? ⟨w.heap.size + 1, 1, none⟩ = some (.int .i64 g) ∧ w'.cell? ⟨Z, 0, none⟩ = some (.slice x1 m1 v1) ∧ w'.cell? ⟨Z, 1, none⟩ = some (.slice x2 m2 v2) ∧ w'.cell? ⟨Z, 2, none⟩ = some (.slice x3 M3 v3) ∧ w'.cell? ⟨Z + 1, 0, none⟩ = some (.int .i64 k) ∧ w'.cell? ⟨Z + 1, 1, none⟩ = some (.int .i64 q) ∧ Below U.heap.size U w' := fun W hb => ⟨(hb.cell (p := ⟨w.heap.size, 0, none⟩) l0).trans r0, (hb.cell (p := ⟨w.heap.size, 1, none⟩) l0).trans r1, (hb.cell (p := ⟨w.heap.size, 2, none⟩) l0).trans r2, (hb.cell (p := ⟨w.heap.size + 1, 0, none⟩) l1).trans r3, (hb.cell (p := ⟨w.heap.size + 1, 1, none⟩) l1).trans r4, (hb.cell (p := ⟨Z, 0, none⟩) l2).trans r5, (hb.cell (p := ⟨Z, 1, none⟩) l2).trans r6, (hb.cell (p := ⟨Z, 2, none⟩) l2).trans r7, (hb.cell (p := ⟨Z + 1, 0, none⟩) l3).trans r8, (hb.cell (p := ⟨Z + 1, 1, none⟩) l3).trans r9, hb⟩
  have MK := Lib.hid mk
  clear mk
  go_region_held3 (fun w' => w'.cell? ⟨w.heap.size, 0, none⟩ = some (.slice a1 m1 c1) ∧ w'.cell? ⟨w.heap.size, 1, none⟩ = some (.slice a2 m2 c2) ∧ w'.cell? ⟨w.heap.size, 2, none⟩ = some (.slice a3 m3 c3) ∧ w'.cell? ⟨w.heap.size + 1, 0, none⟩ = some (.int .i64 (k : Int)) ∧ w'.cell? ⟨w.heap.size + 1, 1, none⟩ = some (.int .i64 g) ∧ w'.cell? ⟨Z, 0, none⟩ = some (.slice x1 m1 v1) ∧ w'.cell? ⟨Z, 1, none⟩ = some (.slice x2 m2 v2) ∧ w'.cell? ⟨Z, 2, none⟩ = some (.slice x3 M3 v3) ∧ w'.cell? ⟨Z + 1, 0, none⟩ = some (.int .i64 k) ∧ w'.cell? ⟨Z + 1, 1, none⟩ = some (.int .i64 q) ∧ Below U.heap.size U w')
    (first | with_reducible assumption | exact MK.out _ (by with_reducible assumption) | exact MK.out _ (below_drew (by with_reducible assumption)))
    ((first
      | (go_at_call 14; go_split_ands; with_reducible refine (R.out _ ?_).mono ?_; (first | with_reducible assumption | exact below_drew (by with_reducible assumption)); rintro e wn ⟨rfl, sB⟩; clear R)
      | (go_at_call 17; go_split_ands; with_reducible refine (Q1.out _ ?_).mono ?_; (first | with_reducible assumption | exact below_drew (by with_reducible assumption)); rintro e wn ⟨rfl, sB⟩; clear Q1)
      | (go_at_call 17; go_split_ands; with_reducible refine (Q2.out _ ?_).mono ?_; (first | with_reducible assumption | exact below_drew (by with_reducible assumption)); rintro e wn ⟨rfl, sB⟩; clear Q2)
      | (go_at_call 17; go_split_ands; with_reducible refine (Q3.out _ ?_).mono ?_; (first | with_reducible assumption | exact below_drew (by with_reducible assumption)); rintro e wn ⟨rfl, sB⟩; clear Q3)
      | (go_at_call 17; go_split_ands; with_reducible refine (Q4.out _ ?_).mono ?_; (first | with_reducible assumption | exact below_drew (by with_reducible assumption)); rintro e wn ⟨rfl, sB⟩; clear Q4)
      | (go_at_call 20; go_split_ands; with_reducible refine (A1.out _ ?_).mono ?_; (first | with_reducible assumption | exact below_drew (by with_reducible assumption)); rintro e wn ⟨av, ac, rfl, sB⟩; clear A1)
      | (go_at_call 20; go_split_ands; with_reducible refine (A2.out _ ?_).mono ?_; (first | with_reducible assumption | exact below_drew (by with_reducible assumption)); rintro e wn ⟨bv, bc, rfl, sB⟩; clear A2)))
  go_wp2
  go_ret
  exact ⟨rfl, btr BU.out sB⟩
end Go.Proofs.Ytbalebnhjpjhgaa
