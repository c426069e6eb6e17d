/- wicketgatelaw09.SlotsKeeps: the walk, the handle being the one that is taken. -/
import Derived.Test.YtbalebnhjpjhgaaLE
namespace Go.Proofs.Ytbalebnhjpjhgaa
open Go.RowKit

theorem takeH {P : Program} {ops : Array Oper} {Q : Exit → Act → World → Prop} {md : Region.Mode} {S : World → Prop} {i : Nat} {oi : Oper} (d : Option Tmp) {v : Value} {fuel : Nat} {listed : Array Bool} {a : Act} {w : World} (hi : ops[i]? = some oi) (hd : oi.dst = d)
    (hs : Region.noSelect ops = true) (hf : Region.free md ops listed i = true) (hr : (Region.ready md ops listed).contains i = true)
    (hQ : ∀ c a w, Q (.panic c) (a.put d v) w → Q (.panic c) a w) (hy : YieldsIf P ops S oi v a) (hS : S w)
    (h : wpAnyH P md ops Q S fuel (listed.setIfInBounds i true) (a.put d v) w) : wpAnyH P md ops Q S (fuel + 1) listed a w := by
  subst hd
  exact wpAnyH_take hi hs hf hr hQ hy hS h

set_option maxRecDepth 100000 in
set_option maxHeartbeats 4000000 in
theorem keeps_ok_eq (a1 a2 a3 : Option Addr) (c1 c2 c3 L1 L2 L3 m1 m2 m3 : Nat) (s : Sl) (k : Nat) (q : Int) (h1 : s.g.length = L1) (h2 : s.u.length = L2) (h3 : s.f.length = L3) (hm : m1 = min L1 66 ∧ m2 = min L2 66 ∧ m3 = min L3 66) (hk : L1 ≤ c1 ∧ L2 ≤ c2 ∧ L3 ≤ c3) (w : World) (h : SlotsAt w.heap.size w a1 a2 a3 s.g s.u s.f) (t : Sl) (M3 M N : Nat)  (ht : s.cut.take = (t, ((k : Int), q), 0)) (T : t.g.length = m1 ∧ t.u.length = m2 ∧ t.f.length = M3) (tr : t.right = true)
    (f1 : s.cut.valid ((k : Int), q) = false) (f2 : t.valid ((k : Int), q) = true) (f5 : t.all.length = N) (f6 : s.cut.all.length = M) (hMN : N = M + 1) (hM : M ≤ 1000) :
    Calls Try.prog 5 #[.agg #[.slice a1 L1 c1, .slice a2 L2 c2, .slice a3 L3 c3], .agg #[.int .i64 (k : Int), .int .i64 q]] w fun e w' => e = .returned (.bool true) ∧ Below w.heap.size w w' := by
  obtain ⟨l1, l2, l3⟩ := cut_len s h1 h2 h3 hm
  have hN : (N : Int) = (M : Int) + 1 := by omega
  have hM1 : (M : Int) ≤ 1000 := by omega
  have hw : IntKind.i64.wrap ((M : Int) + 1) = (M : Int) + 1 := IntWalk.i64_in _ (by omega)
  have C := Lib.hid (fun W hW => take_to a1 a2 a3 c1 c2 c3 m1 m2 m3 s.cut l1 l2 l3 t k q 0 ht m1 m2 M3 T.1 T.2.1 T.2.2 W hW)
  have R := Lib.hid (fun x1 x2 x3 v1 v2 v3 W hW => right2_any x1 x2 x3 v1 v2 v3 m1 m2 M3 t T.1 T.2.1 T.2.2 W hW)
  rw [tr] at R
  have Q1 := Lib.hid (fun W hW => valid_any a1 a2 a3 c1 c2 c3 m1 m2 m3 s.cut k q l1 l2 l3 W hW)
  rw [f1] at Q1
  have Q2 := Lib.hid (fun x1 x2 x3 v1 v2 v3 W hW => valid_any x1 x2 x3 v1 v2 v3 m1 m2 M3 t k q T.1 T.2.1 T.2.2 W hW)
  rw [f2] at Q2
  have A1 := Lib.hid (fun x1 x2 x3 v1 v2 v3 (U W : World) hW hb => all_onU (U := U) (W := W) x1 x2 x3 v1 v2 v3 m1 m2 M3 N t T.1 T.2.1 T.2.2 f5 hW hb)
  have A2 := Lib.hid (fun (U W : World) hW hb => all_onU (U := U) (W := W) a1 a2 a3 c1 c2 c3 m1 m2 m3 M s.cut l1 l2 l3 f6 hW hb)
  have HM := Lib.hid hm
  have HK := Lib.hid hk
  have HS0 := Lib.hid h
  clear h h1 h2 h3 hm hk l1 l2 l3 ht T tr f1 f2 f5 f6 hMN hM
  go_enter Try.func5, Try.ntmps5
  go_wp2_with fail
  refine (shown_any _).mono ?_; rintro e w1 ⟨rfl, hb1⟩
  have hv1 := (((VarS.new w 25 a1 a2 a3 L1 L2 L3 c1 c2 c3).on (Below.refl _ (w.alloc (.cells #[.slice a1 L1 c1, .slice a2 L2 c2, .slice a3 L3 c3] 25)) |> fun h => h.alloc (Nat.le_refl _) (.cells #[.int .i64 (k : Int), .int .i64 q] 27)) (by simp)).on hb1 (by simp; omega))
  have hw1 := btr (bal (bal (Below.refl w.heap.size w) (.cells #[.slice a1 L1 c1, .slice a2 L2 c2, .slice a3 L3 c3] 25)) (.cells #[.int .i64 (k : Int), .int .i64 q] 27)) hb1
  have y0 : w1.cell? ⟨w.heap.size + 1, 0, none⟩ = some (.int .i64 (k : Int)) := (hb1.cell (p := ⟨w.heap.size + 1, 0, none⟩) (by simp)).trans (by go_simp)
  have y1 : w1.cell? ⟨w.heap.size + 1, 1, none⟩ = some (.int .i64 q) := (hb1.cell (p := ⟨w.heap.size + 1, 1, none⟩) (by simp)).trans (by go_simp)
  have hz1 := hb1.size
  simp only [World.size_alloc] at hz1
  obtain ⟨e0, e1, e2, f0, f1, f2⟩ := id hv1
  have HV1 := Lib.hid hv1
  have HW1 := Lib.hid hw1
  clear hb1 hv1 hw1
  go_wp2_with fail
  refine (cut_raw a1 a2 a3 c1 c2 c3 L1 L2 L3 m1 m2 m3 HM.out.1 HM.out.2.1 HM.out.2.2 HK.out.1 HK.out.2.1 HK.out.2.2 _).mono ?_; rintro e w2 ⟨rfl, hb2⟩
  have hv2 := HV1.out.on hb2 (show w.heap.size < w1.heap.size by omega)
  have hw2 := btr HW1.out hb2
  have z0 := (hb2.cell (p := ⟨w.heap.size + 1, 0, none⟩) (show w.heap.size + 1 < w1.heap.size by omega)).trans y0
  have z1 := (hb2.cell (p := ⟨w.heap.size + 1, 1, none⟩) (show w.heap.size + 1 < w1.heap.size by omega)).trans y1
  have hz2 := hb2.size
  clear e0 e1 e2 f0 f1 f2 y0 y1 hb2
  obtain ⟨e0, e1, e2, f0, f1, f2⟩ := id hv2
  obtain ⟨V, hV⟩ : ∃ V, V = put3 w2 w.heap.size (.slice a1 m1 c1) (.slice a2 m2 c2) (.slice a3 m3 c3) := ⟨_, rfl⟩
  have HV := Lib.hid (show VarS w.heap.size a1 a2 a3 m1 m2 m3 c1 c2 c3 V by rw [hV]; exact hv2.put a1 a2 a3 m1 m2 m3 c1 c2 c3)
  have hSz : V.heap.size = w2.heap.size := by rw [hV]; exact put3_size _ _ _ _ _
  have HS := Lib.hid (show SlotsAt V.heap.size V a1 a2 a3 s.cut.g s.cut.u s.cut.f by rw [hSz, hV]; exact (HS0.out.cut.on hw2).put hv2 a1 a2 a3 m1 m2 m3 c1 c2 c3)
  have HB := Lib.hid (show Below w.heap.size w V by rw [hV]; exact put3_below hw2 (Nat.le_refl _) _ _ _)
  have g0 : V.cell? ⟨w.heap.size + 1, 0, none⟩ = some (.int .i64 (k : Int)) := by rw [hV]; exact (set_other _ _ (by omega)).trans ((set_other _ _ (by omega)).trans ((set_other _ _ (by omega)).trans z0))
  have g1 : V.cell? ⟨w.heap.size + 1, 1, none⟩ = some (.int .i64 q) := by rw [hV]; exact (set_other _ _ (by omega)).trans ((set_other _ _ (by omega)).trans ((set_other _ _ (by omega)).trans z1))
  have hVz : w.heap.size + 1 < V.heap.size := by omega
  clear hv2 hw2
  go_wp2_with fail
  unfold put3 at hV
  rw [← hV]
  clear hV e0 e1 e2 f0 f1 f2 z0 z1 hz1 hz2 hSz HV1 HW1 HM HK HS0
  obtain ⟨e0, e1, e2, f0, f1, f2⟩ := id HV.out
  refine (C.out _ HS.out).mono ?_; rintro e w3 ⟨x1, x2, x3, v1, v2, v3, rfl, hS3, _, hb3⟩
  have V3 := Lib.hid (HV.out.on hb3 HV.out.lt)
  have S3 := Lib.hid (HS.out.on hb3)
  have T3 := Lib.hid hS3
  have B3 := Lib.hid (btr HB.out hb3)
  have gg0 := (hb3.cell (p := ⟨w.heap.size + 1, 0, none⟩) hVz).trans g0
  have gg1 := (hb3.cell (p := ⟨w.heap.size + 1, 1, none⟩) hVz).trans g1
  have hX3 : w.heap.size + 1 < w3.heap.size := Nat.lt_of_lt_of_le hVz hb3.size
  clear e0 e1 e2 f0 f1 f2 hb3 HV HS HB C g0 g1 hS3 hVz
  go_wp2_with fail
  have hU1 := bal (Below.refl w3.heap.size w3) (.cells #[.slice x1 m1 v1, .slice x2 m2 v2, .slice x3 M3 v3] 25)
  have hU2 := bal hU1 (.cells #[.int .i64 k, .int .i64 q] 27)
  have r0 : ((w3.alloc (.cells #[.slice x1 m1 v1, .slice x2 m2 v2, .slice x3 M3 v3] 25)).alloc (.cells #[.int .i64 k, .int .i64 q] 27)).cell? ⟨w.heap.size, 0, none⟩ = some (.slice a1 m1 c1) := keep_alloc _ (keep_alloc _ V3.out.e0)
  have r1 : ((w3.alloc (.cells #[.slice x1 m1 v1, .slice x2 m2 v2, .slice x3 M3 v3] 25)).alloc (.cells #[.int .i64 k, .int .i64 q] 27)).cell? ⟨w.heap.size, 1, none⟩ = some (.slice a2 m2 c2) := keep_alloc _ (keep_alloc _ V3.out.e1)
  have r2 : ((w3.alloc (.cells #[.slice x1 m1 v1, .slice x2 m2 v2, .slice x3 M3 v3] 25)).alloc (.cells #[.int .i64 k, .int .i64 q] 27)).cell? ⟨w.heap.size, 2, none⟩ = some (.slice a3 m3 c3) := keep_alloc _ (keep_alloc _ V3.out.e2)
  have r3 : ((w3.alloc (.cells #[.slice x1 m1 v1, .slice x2 m2 v2, .slice x3 M3 v3] 25)).alloc (.cells #[.int .i64 k, .int .i64 q] 27)).cell? ⟨w.heap.size + 1, 0, none⟩ = some (.int .i64 (k : Int)) := keep_alloc _ (keep_alloc _ gg0)
  have r4 : ((w3.alloc (.cells #[.slice x1 m1 v1, .slice x2 m2 v2, .slice x3 M3 v3] 25)).alloc (.cells #[.int .i64 k, .int .i64 q] 27)).cell? ⟨w.heap.size + 1, 1, none⟩ = some (.int .i64 q) := keep_alloc _ (keep_alloc _ gg1)
  have r5 : ((w3.alloc (.cells #[.slice x1 m1 v1, .slice x2 m2 v2, .slice x3 M3 v3] 25)).alloc (.cells #[.int .i64 k, .int .i64 q] 27)).cell? ⟨w3.heap.size, 0, none⟩ = some (.slice x1 m1 v1) := keep_alloc _ ((World.cell?_alloc_new w3 _ _ 0).trans rfl)
  have r6 : ((w3.alloc (.cells #[.slice x1 m1 v1, .slice x2 m2 v2, .slice x3 M3 v3] 25)).alloc (.cells #[.int .i64 k, .int .i64 q] 27)).cell? ⟨w3.heap.size, 1, none⟩ = some (.slice x2 m2 v2) := keep_alloc _ ((World.cell?_alloc_new w3 _ _ 1).trans rfl)
  have r7 : ((w3.alloc (.cells #[.slice x1 m1 v1, .slice x2 m2 v2, .slice x3 M3 v3] 25)).alloc (.cells #[.int .i64 k, .int .i64 q] 27)).cell? ⟨w3.heap.size, 2, none⟩ = some (.slice x3 M3 v3) := keep_alloc _ ((World.cell?_alloc_new w3 _ _ 2).trans rfl)
  have r8 : ((w3.alloc (.cells #[.slice x1 m1 v1, .slice x2 m2 v2, .slice x3 M3 v3] 25)).alloc (.cells #[.int .i64 k, .int .i64 q] 27)).cell? ⟨w3.heap.size + 1, 0, none⟩ = some (.int .i64 k) := by have e := World.cell?_alloc_new (w3.alloc (.cells #[.slice x1 m1 v1, .slice x2 m2 v2, .slice x3 M3 v3] 25)) #[.int .i64 (k : Int), .int .i64 q] 27 0; rw [World.size_alloc] at e; exact e.trans rfl
  have r9 : ((w3.alloc (.cells #[.slice x1 m1 v1, .slice x2 m2 v2, .slice x3 M3 v3] 25)).alloc (.cells #[.int .i64 k, .int .i64 q] 27)).cell? ⟨w3.heap.size + 1, 1, none⟩ = some (.int .i64 q) := by have e := World.cell?_alloc_new (w3.alloc (.cells #[.slice x1 m1 v1, .slice x2 m2 v2, .slice x3 M3 v3] 25)) #[.int .i64 (k : Int), .int .i64 q] 27 1; rw [World.size_alloc] at e; exact e.trans rfl
  have l0 : w.heap.size < ((w3.alloc (.cells #[.slice x1 m1 v1, .slice x2 m2 v2, .slice x3 M3 v3] 25)).alloc (.cells #[.int .i64 k, .int .i64 q] 27)).heap.size := by simp; omega
  have l1 : w.heap.size + 1 < ((w3.alloc (.cells #[.slice x1 m1 v1, .slice x2 m2 v2, .slice x3 M3 v3] 25)).alloc (.cells #[.int .i64 k, .int .i64 q] 27)).heap.size := by simp; omega
  have l2 : w3.heap.size < ((w3.alloc (.cells #[.slice x1 m1 v1, .slice x2 m2 v2, .slice x3 M3 v3] 25)).alloc (.cells #[.int .i64 k, .int .i64 q] 27)).heap.size := by simp; omega
  have l3 : w3.heap.size + 1 < ((w3.alloc (.cells #[.slice x1 m1 v1, .slice x2 m2 v2, .slice x3 M3 v3] 25)).alloc (.cells #[.int .i64 k, .int .i64 q] 27)).heap.size := by simp
  have SU := Lib.hid (S3.out.on hU2)
  have TU := Lib.hid (T3.out.on hU2)
  have BU := Lib.hid (bal (bal B3.out (.cells #[.slice x1 m1 v1, .slice x2 m2 v2, .slice x3 M3 v3] 25)) (.cells #[.int .i64 k, .int .i64 q] 27))
  clear V3 S3 T3 B3 gg0 gg1 hU1 hU2 hX3
  generalize ((w3.alloc (.cells #[.slice x1 m1 v1, .slice x2 m2 v2, .slice x3 M3 v3] 25)).alloc (.cells #[.int .i64 k, .int .i64 q] 27)) = U at *
  generalize w3.heap.size = Z at *
  have hUU : Below U.heap.size U U := Below.refl _ _
  have R := Lib.hid (fun W hb => onU (U := U) hb (R.out x1 x2 x3 v1 v2 v3 W (TU.out.on hb)))
  have Q1 := Lib.hid (fun W hb => onU (U := U) hb (Q1.out W (SU.out.on hb)))
  have Q2 := Lib.hid (fun W hb => onU (U := U) hb (Q2.out x1 x2 x3 v1 v2 v3 W (TU.out.on hb)))
  have A1 := Lib.hid (fun W hb => A1.out x1 x2 x3 v1 v2 v3 U W TU.out hb)
  have A2 := Lib.hid (fun W hb => A2.out U W SU.out hb)
  have mk : ∀ w', Below U.heap.size U w' → w'.cell? ⟨w.heap.size, 0, none⟩ = some (.slice a1 m1 c1) ∧ w'.cell? ⟨w.heap.size, 1, none⟩ = some (.slice a2 m2 c2) ∧ w'.cell? ⟨w.heap.size, 2, none⟩ = some (.slice a3 m3 c3) ∧ w'.cell? ⟨w.heap.size + 1, 0, none⟩ = some (.int .i64 (k : Int)) ∧ w'.cell? ⟨w.heap.size + 1, 1, none⟩ = some (.int .i64 q) ∧ w'.cell? ⟨Z, 0, none⟩ = some (.slice x1 m1 v1) ∧ w'.cell? ⟨Z, 1, none⟩ = some (.slice x2 m2 v2) ∧ w'.cell? ⟨Z, 2, none⟩ = some (.slice x3 M3 v3) ∧ w'.cell? ⟨Z + 1, 0, none⟩ = some (.int .i64 k) ∧ w'.cell? ⟨Z + 1, 1, none⟩ = some (.int .i64 q) ∧ Below U.heap.size U w' := fun W hb => ⟨(hb.cell (p := ⟨w.heap.size, 0, none⟩) l0).trans r0, (hb.cell (p := ⟨w.heap.size, 1, none⟩) l0).trans r1, (hb.cell (p := ⟨w.heap.size, 2, none⟩) l0).trans r2, (hb.cell (p := ⟨w.heap.size + 1, 0, none⟩) l1).trans r3, (hb.cell (p := ⟨w.heap.size + 1, 1, none⟩) l1).trans r4, (hb.cell (p := ⟨Z, 0, none⟩) l2).trans r5, (hb.cell (p := ⟨Z, 1, none⟩) l2).trans r6, (hb.cell (p := ⟨Z, 2, none⟩) l2).trans r7, (hb.cell (p := ⟨Z + 1, 0, none⟩) l3).trans r8, (hb.cell (p := ⟨Z + 1, 1, none⟩) l3).trans r9, hb⟩
  have MK := Lib.hid mk
  clear mk
  refine wp_region_held_drew (S := (fun w' => w'.cell? ⟨w.heap.size, 0, none⟩ = some (.slice a1 m1 c1) ∧ w'.cell? ⟨w.heap.size, 1, none⟩ = some (.slice a2 m2 c2) ∧ w'.cell? ⟨w.heap.size, 2, none⟩ = some (.slice a3 m3 c3) ∧ w'.cell? ⟨w.heap.size + 1, 0, none⟩ = some (.int .i64 (k : Int)) ∧ w'.cell? ⟨w.heap.size + 1, 1, none⟩ = some (.int .i64 q) ∧ w'.cell? ⟨Z, 0, none⟩ = some (.slice x1 m1 v1) ∧ w'.cell? ⟨Z, 1, none⟩ = some (.slice x2 m2 v2) ∧ w'.cell? ⟨Z, 2, none⟩ = some (.slice x3 M3 v3) ∧ w'.cell? ⟨Z + 1, 0, none⟩ = some (.int .i64 k) ∧ w'.cell? ⟨Z + 1, 1, none⟩ = some (.int .i64 q) ∧ Below U.heap.size U w')) (by kernel_rfl) ?_ (fun hHeld => ?_)
  · (first | exact MK.out _ (by with_reducible assumption) | exact MK.out _ (below_drew (by with_reducible assumption)))
  refine takeH (i := 0) (some 35) (v := ?_) rfl rfl (by kernel_rfl) (by kernel_rfl) (by kernel_rfl) (fun _ _ _ h => h) (Or.inl ⟨by rfl, ?hy0⟩) hHeld ?rest0
  case hy0 => (intro w hSw; (try dsimp only at hSw); go_simp; (try with_reducible rfl))
  try simp only [Act.put, List.setIfInBounds_toArray, List.set_cons_zero, List.set_cons_succ]
  refine takeH (i := 1) (some 36) (v := ?_) rfl rfl (by kernel_rfl) (by kernel_rfl) (by kernel_rfl) (fun _ _ _ h => h) (Or.inl ⟨by rfl, ?hy1⟩) hHeld ?rest1
  case hy1 => (intro w hSw; (try dsimp only at hSw); go_simp; (try with_reducible rfl))
  try simp only [Act.put, List.setIfInBounds_toArray, List.set_cons_zero, List.set_cons_succ]
  refine takeH (i := 2) (some 37) (v := ?_) rfl rfl (by kernel_rfl) (by kernel_rfl) (by kernel_rfl) (fun _ _ _ h => h) (Or.inl ⟨by rfl, ?hy2⟩) hHeld ?rest2
  case hy2 => (intro w hSw; (try dsimp only at hSw); go_simp; (try with_reducible rfl))
  try simp only [Act.put, List.setIfInBounds_toArray, List.set_cons_zero, List.set_cons_succ]
  refine wpAnyH_ready (rs := [3]) (by kernel_rfl) (by simp) ?_
  refine AllReadyH.cons rfl (fun K hK => ?_) AllReadyH.nil
  go_simp
  with_reducible refine (R.out _ ?_).mono ?_; (first | with_reducible assumption | exact hHeld.2.2.2.2.2.2.2.2.2.2); rintro e wn ⟨rfl, sB⟩; clear hHeld
  refine hK.out _ _ ?_ (fun hHeld => ?_)
  · (first | exact MK.out _ (by with_reducible assumption) | exact MK.out _ (below_drew (by with_reducible assumption)))
  clear hK K
  try simp only [Act.put, List.setIfInBounds_toArray, List.set_cons_zero, List.set_cons_succ]
  refine takeH (i := 4) (some 39) (v := ?_) rfl rfl (by kernel_rfl) (by kernel_rfl) (by kernel_rfl) (fun _ _ _ h => h) (Or.inl ⟨by rfl, ?hy4⟩) hHeld ?rest4
  case hy4 => (intro w hSw; (try dsimp only at hSw); go_simp; (try with_reducible rfl))
  try simp only [Act.put, List.setIfInBounds_toArray, List.set_cons_zero, List.set_cons_succ]
  refine takeH (i := 5) (some 40) (v := ?_) rfl rfl (by kernel_rfl) (by kernel_rfl) (by kernel_rfl) (fun _ _ _ h => h) (Or.inl ⟨by rfl, ?hy5⟩) hHeld ?rest5
  case hy5 => (intro w hSw; (try dsimp only at hSw); go_simp; (try with_reducible rfl))
  try simp only [Act.put, List.setIfInBounds_toArray, List.set_cons_zero, List.set_cons_succ]
  refine takeH (i := 6) (some 41) (v := ?_) rfl rfl (by kernel_rfl) (by kernel_rfl) (by kernel_rfl) (fun _ _ _ h => h) (Or.inl ⟨by rfl, ?hy6⟩) hHeld ?rest6
  case hy6 => (intro w hSw; (try dsimp only at hSw); go_simp; (try with_reducible rfl))
  try simp only [Act.put, List.setIfInBounds_toArray, List.set_cons_zero, List.set_cons_succ]
  refine takeH (i := 7) (some 42) (v := ?_) rfl rfl (by kernel_rfl) (by kernel_rfl) (by kernel_rfl) (fun _ _ _ h => h) (Or.inl ⟨by rfl, ?hy7⟩) hHeld ?rest7
  case hy7 => (intro w hSw; (try dsimp only at hSw); go_simp; (try with_reducible rfl))
  try simp only [Act.put, List.setIfInBounds_toArray, List.set_cons_zero, List.set_cons_succ]
  refine wpAnyH_ready (rs := [8]) (by kernel_rfl) (by simp) ?_
  refine AllReadyH.cons rfl (fun K hK => ?_) AllReadyH.nil
  go_simp
  with_reducible refine (Q1.out _ ?_).mono ?_; (first | with_reducible assumption | exact hHeld.2.2.2.2.2.2.2.2.2.2); rintro e wn ⟨rfl, sB⟩; clear hHeld
  refine hK.out _ _ ?_ (fun hHeld => ?_)
  · (first | exact MK.out _ (by with_reducible assumption) | exact MK.out _ (below_drew (by with_reducible assumption)))
  clear hK K
  try simp only [Act.put, List.setIfInBounds_toArray, List.set_cons_zero, List.set_cons_succ]
  refine takeH (i := 9) (some 44) (v := ?_) rfl rfl (by kernel_rfl) (by kernel_rfl) (by kernel_rfl) (fun _ _ _ h => h) (Or.inl ⟨by rfl, ?hy9⟩) hHeld ?rest9
  case hy9 => (intro w hSw; (try dsimp only at hSw); go_simp; (try with_reducible rfl))
  try simp only [Act.put, List.setIfInBounds_toArray, List.set_cons_zero, List.set_cons_succ]
  refine takeH (i := 10) (some 45) (v := ?_) rfl rfl (by kernel_rfl) (by kernel_rfl) (by kernel_rfl) (fun _ _ _ h => h) (Or.inl ⟨by rfl, ?hy10⟩) hHeld ?rest10
  case hy10 => (intro w hSw; (try dsimp only at hSw); go_simp; (try with_reducible rfl))
  try simp only [Act.put, List.setIfInBounds_toArray, List.set_cons_zero, List.set_cons_succ]
  refine takeH (i := 11) (some 46) (v := ?_) rfl rfl (by kernel_rfl) (by kernel_rfl) (by kernel_rfl) (fun _ _ _ h => h) (Or.inl ⟨by rfl, ?hy11⟩) hHeld ?rest11
  case hy11 => (intro w hSw; (try dsimp only at hSw); go_simp; (try with_reducible rfl))
  try simp only [Act.put, List.setIfInBounds_toArray, List.set_cons_zero, List.set_cons_succ]
  refine takeH (i := 12) (some 47) (v := ?_) rfl rfl (by kernel_rfl) (by kernel_rfl) (by kernel_rfl) (fun _ _ _ h => h) (Or.inl ⟨by rfl, ?hy12⟩) hHeld ?rest12
  case hy12 => (intro w hSw; (try dsimp only at hSw); go_simp; (try with_reducible rfl))
  try simp only [Act.put, List.setIfInBounds_toArray, List.set_cons_zero, List.set_cons_succ]
  refine takeH (i := 13) (some 48) (v := ?_) rfl rfl (by kernel_rfl) (by kernel_rfl) (by kernel_rfl) (fun _ _ _ h => h) (Or.inl ⟨by rfl, ?hy13⟩) hHeld ?rest13
  case hy13 => (intro w hSw; (try dsimp only at hSw); go_simp; (try with_reducible rfl))
  try simp only [Act.put, List.setIfInBounds_toArray, List.set_cons_zero, List.set_cons_succ]
  refine wpAnyH_ready (rs := [14]) (by kernel_rfl) (by simp) ?_
  refine AllReadyH.cons rfl (fun K hK => ?_) AllReadyH.nil
  go_simp
  with_reducible refine (Q2.out _ ?_).mono ?_; (first | with_reducible assumption | exact hHeld.2.2.2.2.2.2.2.2.2.2); rintro e wn ⟨rfl, sB⟩; clear hHeld
  refine hK.out _ _ ?_ (fun hHeld => ?_)
  · (first | exact MK.out _ (by with_reducible assumption) | exact MK.out _ (below_drew (by with_reducible assumption)))
  clear hK K
  try simp only [Act.put, List.setIfInBounds_toArray, List.set_cons_zero, List.set_cons_succ]
  refine takeH (i := 15) (some 50) (v := ?_) rfl rfl (by kernel_rfl) (by kernel_rfl) (by kernel_rfl) (fun _ _ _ h => h) (Or.inl ⟨by rfl, ?hy15⟩) hHeld ?rest15
  case hy15 => (intro w hSw; (try dsimp only at hSw); go_simp; (try with_reducible rfl))
  try simp only [Act.put, List.setIfInBounds_toArray, List.set_cons_zero, List.set_cons_succ]
  refine takeH (i := 16) (some 51) (v := ?_) rfl rfl (by kernel_rfl) (by kernel_rfl) (by kernel_rfl) (fun _ _ _ h => h) (Or.inl ⟨by rfl, ?hy16⟩) hHeld ?rest16
  case hy16 => (intro w hSw; (try dsimp only at hSw); go_simp; (try with_reducible rfl))
  try simp only [Act.put, List.setIfInBounds_toArray, List.set_cons_zero, List.set_cons_succ]
  refine takeH (i := 17) (some 52) (v := ?_) rfl rfl (by kernel_rfl) (by kernel_rfl) (by kernel_rfl) (fun _ _ _ h => h) (Or.inl ⟨by rfl, ?hy17⟩) hHeld ?rest17
  case hy17 => (intro w hSw; (try dsimp only at hSw); go_simp; (try with_reducible rfl))
  try simp only [Act.put, List.setIfInBounds_toArray, List.set_cons_zero, List.set_cons_succ]
  refine takeH (i := 18) (some 53) (v := ?_) rfl rfl (by kernel_rfl) (by kernel_rfl) (by kernel_rfl) (fun _ _ _ h => h) (Or.inl ⟨by rfl, ?hy18⟩) hHeld ?rest18
  case hy18 => (intro w hSw; (try dsimp only at hSw); go_simp; (try with_reducible rfl))
  try simp only [Act.put, List.setIfInBounds_toArray, List.set_cons_zero, List.set_cons_succ]
  refine takeH (i := 19) (some 54) (v := ?_) rfl rfl (by kernel_rfl) (by kernel_rfl) (by kernel_rfl) (fun _ _ _ h => h) (Or.inl ⟨by rfl, ?hy19⟩) hHeld ?rest19
  case hy19 => (intro w hSw; (try dsimp only at hSw); go_simp; (try with_reducible rfl))
  try simp only [Act.put, List.setIfInBounds_toArray, List.set_cons_zero, List.set_cons_succ]
  refine takeH (i := 20) (some 55) (v := ?_) rfl rfl (by kernel_rfl) (by kernel_rfl) (by kernel_rfl) (fun _ _ _ h => h) (Or.inl ⟨by rfl, ?hy20⟩) hHeld ?rest20
  case hy20 => (intro w hSw; (try dsimp only at hSw); go_simp; (try with_reducible rfl))
  try simp only [Act.put, List.setIfInBounds_toArray, List.set_cons_zero, List.set_cons_succ]
  refine takeH (i := 21) (some 56) (v := undef) rfl rfl (by kernel_rfl) (by kernel_rfl) (by kernel_rfl) (fun _ _ _ h => h) (Or.inr ⟨by rfl, rfl⟩) hHeld ?_
  try simp only [Act.put, List.setIfInBounds_toArray, List.set_cons_zero, List.set_cons_succ]
  refine takeH (i := 22) (some 57) (v := undef) rfl rfl (by kernel_rfl) (by kernel_rfl) (by kernel_rfl) (fun _ _ _ h => h) (Or.inr ⟨by rfl, rfl⟩) hHeld ?_
  try simp only [Act.put, List.setIfInBounds_toArray, List.set_cons_zero, List.set_cons_succ]
  refine takeH (i := 23) (some 58) (v := undef) rfl rfl (by kernel_rfl) (by kernel_rfl) (by kernel_rfl) (fun _ _ _ h => h) (Or.inr ⟨by rfl, rfl⟩) hHeld ?_
  try simp only [Act.put, List.setIfInBounds_toArray, List.set_cons_zero, List.set_cons_succ]
  refine takeH (i := 24) (some 59) (v := undef) rfl rfl (by kernel_rfl) (by kernel_rfl) (by kernel_rfl) (fun _ _ _ h => h) (Or.inr ⟨by rfl, rfl⟩) hHeld ?_
  try simp only [Act.put, List.setIfInBounds_toArray, List.set_cons_zero, List.set_cons_succ]
  refine takeH (i := 25) (some 60) (v := undef) rfl rfl (by kernel_rfl) (by kernel_rfl) (by kernel_rfl) (fun _ _ _ h => h) (Or.inr ⟨by rfl, rfl⟩) hHeld ?_
  try simp only [Act.put, List.setIfInBounds_toArray, List.set_cons_zero, List.set_cons_succ]
  refine takeH (i := 26) (some 61) (v := undef) rfl rfl (by kernel_rfl) (by kernel_rfl) (by kernel_rfl) (fun _ _ _ h => h) (Or.inr ⟨by rfl, rfl⟩) hHeld ?_
  try simp only [Act.put, List.setIfInBounds_toArray, List.set_cons_zero, List.set_cons_succ]
  refine takeH (i := 27) (some 62) (v := undef) rfl rfl (by kernel_rfl) (by kernel_rfl) (by kernel_rfl) (fun _ _ _ h => h) (Or.inr ⟨by rfl, rfl⟩) hHeld ?_
  try simp only [Act.put, List.setIfInBounds_toArray, List.set_cons_zero, List.set_cons_succ]
  refine takeH (i := 28) (some 63) (v := ?_) rfl rfl (by kernel_rfl) (by kernel_rfl) (by kernel_rfl) (fun _ _ _ h => h) (Or.inl ⟨by rfl, ?hy28⟩) hHeld ?rest28
  case hy28 => (intro w hSw; (try dsimp only at hSw); go_simp; (try with_reducible rfl))
  try simp only [Act.put, List.setIfInBounds_toArray, List.set_cons_zero, List.set_cons_succ]
  refine takeH (i := 29) (some 64) (v := ?_) rfl rfl (by kernel_rfl) (by kernel_rfl) (by kernel_rfl) (fun _ _ _ h => h) (Or.inl ⟨by rfl, ?hy29⟩) hHeld ?rest29
  case hy29 => (intro w hSw; (try dsimp only at hSw); go_simp; (try with_reducible rfl))
  try simp only [Act.put, List.setIfInBounds_toArray, List.set_cons_zero, List.set_cons_succ]
  refine takeH (i := 30) (some 65) (v := ?_) rfl rfl (by kernel_rfl) (by kernel_rfl) (by kernel_rfl) (fun _ _ _ h => h) (Or.inl ⟨by rfl, ?hy30⟩) hHeld ?rest30
  case hy30 => (intro w hSw; (try dsimp only at hSw); go_simp; (try with_reducible rfl))
  try simp only [Act.put, List.setIfInBounds_toArray, List.set_cons_zero, List.set_cons_succ]
  refine takeH (i := 31) (some 66) (v := ?_) rfl rfl (by kernel_rfl) (by kernel_rfl) (by kernel_rfl) (fun _ _ _ h => h) (Or.inl ⟨by rfl, ?hy31⟩) hHeld ?rest31
  case hy31 => (intro w hSw; (try dsimp only at hSw); go_simp; (try with_reducible rfl))
  try simp only [Act.put, List.setIfInBounds_toArray, List.set_cons_zero, List.set_cons_succ]
  refine takeH (i := 34) (some 69) (v := ?_) rfl rfl (by kernel_rfl) (by kernel_rfl) (by kernel_rfl) (fun _ _ _ h => h) (Or.inl ⟨by rfl, ?hy34⟩) hHeld ?rest34
  case hy34 => (intro w hSw; (try dsimp only at hSw); go_simp; (try with_reducible rfl))
  try simp only [Act.put, List.setIfInBounds_toArray, List.set_cons_zero, List.set_cons_succ]
  refine wpAnyH_ready (rs := [32]) (by kernel_rfl) (by simp) ?_
  refine AllReadyH.cons rfl (fun K hK => ?_) AllReadyH.nil
  go_simp
  with_reducible refine (A1.out _ ?_).mono ?_; (first | with_reducible assumption | exact hHeld.2.2.2.2.2.2.2.2.2.2); rintro e wn ⟨av, ac, rfl, sB⟩; clear hHeld
  refine hK.out _ _ ?_ (fun hHeld => ?_)
  · (first | exact MK.out _ (by with_reducible assumption) | exact MK.out _ (below_drew (by with_reducible assumption)))
  clear hK K
  try simp only [Act.put, List.setIfInBounds_toArray, List.set_cons_zero, List.set_cons_succ]
  refine takeH (i := 33) (some 68) (v := ?_) rfl rfl (by kernel_rfl) (by kernel_rfl) (by kernel_rfl) (fun _ _ _ h => h) (Or.inl ⟨by rfl, ?hy33⟩) hHeld ?rest33
  case hy33 => (intro w hSw; (try dsimp only at hSw); go_simp; (try with_reducible rfl))
  try simp only [Act.put, List.setIfInBounds_toArray, List.set_cons_zero, List.set_cons_succ]
  refine wpAnyH_ready (rs := [35]) (by kernel_rfl) (by simp) ?_
  refine AllReadyH.cons rfl (fun K hK => ?_) AllReadyH.nil
  go_simp
  with_reducible refine (A2.out _ ?_).mono ?_; (first | with_reducible assumption | exact hHeld.2.2.2.2.2.2.2.2.2.2); rintro e wn ⟨bv, bc, rfl, sB⟩; clear hHeld
  refine hK.out _ _ ?_ (fun hHeld => ?_)
  · (first | exact MK.out _ (by with_reducible assumption) | exact MK.out _ (below_drew (by with_reducible assumption)))
  clear hK K
  try simp only [Act.put, List.setIfInBounds_toArray, List.set_cons_zero, List.set_cons_succ]
  refine takeH (i := 36) (some 71) (v := ?_) rfl rfl (by kernel_rfl) (by kernel_rfl) (by kernel_rfl) (fun _ _ _ h => h) (Or.inl ⟨by rfl, ?hy36⟩) hHeld ?rest36
  case hy36 => (intro w hSw; (try dsimp only at hSw); go_simp; (try with_reducible rfl))
  try simp only [Act.put, List.setIfInBounds_toArray, List.set_cons_zero, List.set_cons_succ]
  refine takeH (i := 37) (some 72) (v := ?_) rfl rfl (by kernel_rfl) (by kernel_rfl) (by kernel_rfl) (fun _ _ _ h => h) (Or.inl ⟨by rfl, ?hy37⟩) hHeld ?rest37
  case hy37 => (intro w hSw; (try dsimp only at hSw); go_simp; (try with_reducible rfl))
  try simp only [Act.put, List.setIfInBounds_toArray, List.set_cons_zero, List.set_cons_succ]
  refine takeH (i := 38) (some 73) (v := ?_) rfl rfl (by kernel_rfl) (by kernel_rfl) (by kernel_rfl) (fun _ _ _ h => h) (Or.inl ⟨by rfl, ?hy38⟩) hHeld ?rest38
  case hy38 => (intro w hSw; (try dsimp only at hSw); go_simp; (try with_reducible rfl))
  try simp only [Act.put, List.setIfInBounds_toArray, List.set_cons_zero, List.set_cons_succ]
  refine takeH (i := 39) (some 74) (v := ?_) rfl rfl (by kernel_rfl) (by kernel_rfl) (by kernel_rfl) (fun _ _ _ h => h) (Or.inl ⟨by rfl, ?hy39⟩) hHeld ?rest39
  case hy39 => (intro w hSw; (try dsimp only at hSw); go_simp; (try with_reducible rfl))
  try simp only [Act.put, List.setIfInBounds_toArray, List.set_cons_zero, List.set_cons_succ]
  refine takeH (i := 40) (some 4) (v := ?_) rfl rfl (by kernel_rfl) (by kernel_rfl) (by kernel_rfl) (fun _ _ _ h => h) (Or.inl ⟨by rfl, ?hy40⟩) hHeld ?rest40
  case hy40 => (intro w hSw; (try dsimp only at hSw); go_simp; (try with_reducible rfl))
  try simp only [Act.put, List.setIfInBounds_toArray, List.set_cons_zero, List.set_cons_succ]
  refine wpAnyH_done (by kernel_rfl) ?_ _
  go_wp2
  go_ret
  exact ⟨rfl, btr BU.out sB⟩
end Go.Proofs.Ytbalebnhjpjhgaa
