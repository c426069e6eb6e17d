/- Wte -/
import Derived.Test.YtbalebnhjpjhgaaZWtu
/- The law: what slots tell. -/
namespace Go.Proofs.Ytbalebnhjpjhgaa.L9
open Go.RowKit Go.Shelf
attribute [local go_sem] Oper.semAt_some
set_option linter.unusedSimpArgs false
set_option linter.unusedVariables false
theorem all_len (s : Sl) : s.all.length ≤ s.u.length := by
  unfold Sl.all
  split
  · exact takenUpto_length_le _ _ _
  · exact Nat.zero_le _
theorem HandAt.mono {n m : Nat} {W : World} {a : Option Addr} {l : List (Int × Int)} (k : HandAt n W a l) (h : n ≤ m) : HandAt m W a l := fun i hi => by
  obtain ⟨b, off, e, hb, r⟩ := k i hi
  exact ⟨b, off, e, by omega, r⟩
set_option maxRecDepth 100000 in
set_option maxHeartbeats 4000000 in
theorem tells_walk (a1 a2 a3 : Option Addr) (c1 c2 c3 L1 L2 L3 m1 m2 m3 : Nat) (s : Sl) (b1 b2 b3 : Option Addr) (d1 d2 d3 K1 K2 K3 n1 n2 n3 : Nat) (t : Sl) (n p g : Int) (h1 : s.g.length = L1) (h2 : s.u.length = L2) (h3 : s.f.length = L3) (hm : m1 = min L1 66 ∧ m2 = min L2 66 ∧ m3 = min L3 66) (hk : L1 ≤ c1 ∧ L2 ≤ c2 ∧ L3 ≤ c3) (q1 : t.g.length = K1) (q2 : t.u.length = K2) (q3 : t.f.length = K3) (qm : n1 = min K1 66 ∧ n2 = min K2 66 ∧ n3 = min K3 66) (qk : K1 ≤ d1 ∧ K2 ≤ d2 ∧ K3 ≤ d3) (w : World) (h : SlotsAt w.heap.size w a1 a2 a3 s.g s.u s.f) (k : SlotsAt w.heap.size w b1 b2 b3 t.g t.u t.f) :
    Calls Try.prog 3 #[.agg #[.slice a1 L1 c1, .slice a2 L2 c2, .slice a3 L3 c3], .agg #[.slice b1 K1 d1, .slice b2 K2 d2, .slice b3 K3 d3], .int .i64 n, .agg #[.int .i64 p, .int .i64 g]] w fun e w' => e = .returned (.bool true) ∧ Below w.heap.size w w' := by
  obtain ⟨l1, l2, l3⟩ := cut_len s h1 h2 h3 hm
  obtain ⟨l4, l5, l6⟩ := cut_len t q1 q2 q3 qm
  obtain ⟨⟨r, er⟩, hr⟩ : ∃ x, newE n = x := ⟨_, rfl⟩
  have br : r.g.length ≤ 1000 ∧ r.u.length ≤ 1000 ∧ r.f.length ≤ 1000 := by have := new_len n; rw [hr] at this; simp only at this; omega
  have ba : s.cut.all.length ≤ 1000 := Nat.le_trans (all_len s.cut) (by omega)
  have C1 := Lib.hid (fun W => new_to n r er hr _ _ _ rfl rfl rfl W)
  have C2 := Lib.hid (fun W => rnew_to n r er hr _ _ _ rfl rfl rfl W)
  have Q1 := Lib.hid (fun b1 b2 b3 d1 d2 d3 q1 q2 q3 r1 r2 r3 W k l => rsame_c b1 b2 b3 d1 d2 d3 _ _ _ r rfl rfl rfl q1 q2 q3 r1 r2 r3 _ _ _ r rfl rfl rfl br.1 br.2.1 br.2.2 br.1 br.2.1 br.2.2 W k l)
  rw [eqS_self] at Q1
  have F1 := Lib.hid (fun W k => right2_any a1 a2 a3 c1 c2 c3 m1 m2 m3 s.cut l1 l2 l3 W k)
  have F2 := Lib.hid (fun W k => rright_c a1 a2 a3 c1 c2 c3 m1 m2 m3 s.cut l1 l2 l3 (by omega) W k)
  have F3 := Lib.hid (fun W k l => same_c a1 a2 a3 c1 c2 c3 m1 m2 m3 s.cut l1 l2 l3 b1 b2 b3 d1 d2 d3 n1 n2 n3 t.cut l4 l5 l6 (by omega) (by omega) (by omega) (by omega) (by omega) (by omega) W k l)
  have F4 := Lib.hid (fun W k l => rsame_c a1 a2 a3 c1 c2 c3 m1 m2 m3 s.cut l1 l2 l3 b1 b2 b3 d1 d2 d3 n1 n2 n3 t.cut l4 l5 l6 (by omega) (by omega) (by omega) (by omega) (by omega) (by omega) W k l)
  have F5 := Lib.hid (fun W k l => same_c a1 a2 a3 c1 c2 c3 m1 m2 m3 s.cut l1 l2 l3 a1 a2 a3 c1 c2 c3 m1 m2 m3 s.cut l1 l2 l3 (by omega) (by omega) (by omega) (by omega) (by omega) (by omega) W k l)
  rw [eqS_self] at F5
  have F6 := Lib.hid (fun W k => valid_any a1 a2 a3 c1 c2 c3 m1 m2 m3 s.cut p g l1 l2 l3 W k)
  have F7 := Lib.hid (fun W k => rvalid_c a1 a2 a3 c1 c2 c3 m1 m2 m3 s.cut p g l1 l2 l3 (by omega) W k)
  have F8 := Lib.hid (fun W k => all_any a1 a2 a3 c1 c2 c3 m1 m2 m3 s.cut l1 l2 l3 W k)
  have F9 := Lib.hid (fun W k => rall_c a1 a2 a3 c1 c2 c3 m1 m2 m3 s.cut l1 l2 l3 (by omega) W k)
  have F10 := Lib.hid (fun a b c d W k l => rhandles_c a b c d s.cut.all s.cut.all W ba ba k l)
  rw [decide_eq_true (rfl : s.cut.all = s.cut.all)] at F10
  have HM := Lib.hid hm
  have HK := Lib.hid hk
  have HM2 := Lib.hid qm
  have HK2 := Lib.hid qk
  have HS0 := Lib.hid h
  have HT0 := Lib.hid k
  clear h k h1 h2 h3 hm hk q1 q2 q3 qm qk l1 l2 l3 l4 l5 l6 hr br ba
  generalize s.cut.right = RV at *
  generalize eqS s.cut t.cut = EV at *
  generalize s.cut.valid (p, g) = VV at *
  generalize r.g.length = N1 at *
  generalize r.u.length = N2 at *
  generalize r.f.length = N3 at *
  go_enter Try.func3, Try.ntmps3
  have hA : Below w.heap.size w (((w.alloc (.cells #[.slice a1 L1 c1, .slice a2 L2 c2, .slice a3 L3 c3] 25)).alloc (.cells #[.slice b1 K1 d1, .slice b2 K2 d2, .slice b3 K3 d3] 25)).alloc (.cells #[.int .i64 p, .int .i64 g] 27)) := bal (bal (below_alloc w _) _) _
  go_wp2_with fail
  go_at_call 9
  refine (shown_any _).mono ?_
  rintro e w1 ⟨rfl, hb1⟩
  obtain ⟨T, hT⟩ : ∃ T, w.heap.size = T := ⟨_, rfl⟩
  have e0 : w1.cell? ⟨w.heap.size, 0, none⟩ = some (.slice a1 L1 c1) := (hb1.cell (p := ⟨w.heap.size, 0, none⟩) (by first | (simp; done) | (simp; omega))).trans (by go_simp)
  have e1 : w1.cell? ⟨w.heap.size, 1, none⟩ = some (.slice a2 L2 c2) := (hb1.cell (p := ⟨w.heap.size, 1, none⟩) (by first | (simp; done) | (simp; omega))).trans (by go_simp)
  have e2 : w1.cell? ⟨w.heap.size, 2, none⟩ = some (.slice a3 L3 c3) := (hb1.cell (p := ⟨w.heap.size, 2, none⟩) (by first | (simp; done) | (simp; omega))).trans (by go_simp)
  have u0 : w1.cell? ⟨(w.heap.size + 1), 0, none⟩ = some (.slice b1 K1 d1) := (hb1.cell (p := ⟨(w.heap.size + 1), 0, none⟩) (by first | (simp; done) | (simp; omega))).trans (by go_simp)
  have u1 : w1.cell? ⟨(w.heap.size + 1), 1, none⟩ = some (.slice b2 K2 d2) := (hb1.cell (p := ⟨(w.heap.size + 1), 1, none⟩) (by first | (simp; done) | (simp; omega))).trans (by go_simp)
  have u2 : w1.cell? ⟨(w.heap.size + 1), 2, none⟩ = some (.slice b3 K3 d3) := (hb1.cell (p := ⟨(w.heap.size + 1), 2, none⟩) (by first | (simp; done) | (simp; omega))).trans (by go_simp)
  have g0 : w1.cell? ⟨(w.heap.size + 2), 0, none⟩ = some (.int .i64 p) := (hb1.cell (p := ⟨(w.heap.size + 2), 0, none⟩) (by first | (simp; done) | (simp; omega))).trans (by go_simp)
  have g1 : w1.cell? ⟨(w.heap.size + 2), 1, none⟩ = some (.int .i64 g) := (hb1.cell (p := ⟨(w.heap.size + 2), 1, none⟩) (by first | (simp; done) | (simp; omega))).trans (by go_simp)
  have fe0 : w1.frozen? ⟨w.heap.size, 0, none⟩ = false := (hb1.frozen (p := ⟨w.heap.size, 0, none⟩) (by first | (simp; done) | (simp; omega))).trans (by go_simp)
  have fe1 : w1.frozen? ⟨w.heap.size, 1, none⟩ = false := (hb1.frozen (p := ⟨w.heap.size, 1, none⟩) (by first | (simp; done) | (simp; omega))).trans (by go_simp)
  have fe2 : w1.frozen? ⟨w.heap.size, 2, none⟩ = false := (hb1.frozen (p := ⟨w.heap.size, 2, none⟩) (by first | (simp; done) | (simp; omega))).trans (by go_simp)
  have fu0 : w1.frozen? ⟨(w.heap.size + 1), 0, none⟩ = false := (hb1.frozen (p := ⟨(w.heap.size + 1), 0, none⟩) (by first | (simp; done) | (simp; omega))).trans (by go_simp)
  have fu1 : w1.frozen? ⟨(w.heap.size + 1), 1, none⟩ = false := (hb1.frozen (p := ⟨(w.heap.size + 1), 1, none⟩) (by first | (simp; done) | (simp; omega))).trans (by go_simp)
  have fu2 : w1.frozen? ⟨(w.heap.size + 1), 2, none⟩ = false := (hb1.frozen (p := ⟨(w.heap.size + 1), 2, none⟩) (by first | (simp; done) | (simp; omega))).trans (by go_simp)
  have HB1 := Lib.hid (btr hA hb1)
  have hz1 := hb1.size
  simp only [World.size_alloc] at hz1
  clear hA hb1
  rw [hT] at e0 e1 e2 u0 u1 u2 g0 g1 fe0 fe1 fe2 fu0 fu1 fu2 hz1 ⊢
  have HTT := Lib.hid hT
  go_wp2_with fail
  go_at_call 10
  refine (cut_raw a1 a2 a3 c1 c2 c3 L1 L2 L3 m1 m2 m3 HM.out.1 HM.out.2.1 HM.out.2.2 HK.out.1 HK.out.2.1 HK.out.2.2 _).mono ?_
  rintro e w2 ⟨rfl, hb2⟩
  replace fe0 := (hb2.frozen (p := ⟨T, 0, none⟩) (blt e0)).trans fe0
  replace fe1 := (hb2.frozen (p := ⟨T, 1, none⟩) (blt e1)).trans fe1
  replace fe2 := (hb2.frozen (p := ⟨T, 2, none⟩) (blt e2)).trans fe2
  replace fu0 := (hb2.frozen (p := ⟨(T + 1), 0, none⟩) (blt u0)).trans fu0
  replace fu1 := (hb2.frozen (p := ⟨(T + 1), 1, none⟩) (blt u1)).trans fu1
  replace fu2 := (hb2.frozen (p := ⟨(T + 1), 2, none⟩) (blt u2)).trans fu2
  replace e0 := (hb2.cell (p := ⟨T, 0, none⟩) (blt e0)).trans e0
  replace e1 := (hb2.cell (p := ⟨T, 1, none⟩) (blt e1)).trans e1
  replace e2 := (hb2.cell (p := ⟨T, 2, none⟩) (blt e2)).trans e2
  replace u0 := (hb2.cell (p := ⟨(T + 1), 0, none⟩) (blt u0)).trans u0
  replace u1 := (hb2.cell (p := ⟨(T + 1), 1, none⟩) (blt u1)).trans u1
  replace u2 := (hb2.cell (p := ⟨(T + 1), 2, none⟩) (blt u2)).trans u2
  replace g0 := (hb2.cell (p := ⟨(T + 2), 0, none⟩) (blt g0)).trans g0
  replace g1 := (hb2.cell (p := ⟨(T + 2), 1, none⟩) (blt g1)).trans g1
  have hv2 : VarS T a1 a2 a3 L1 L2 L3 c1 c2 c3 w2 := ⟨e0, e1, e2, fe0, fe1, fe2⟩
  have hw2 := btr HB1.out hb2
  obtain ⟨V2, hV2⟩ : ∃ V, V = put3 w2 T (.slice a1 m1 c1) (.slice a2 m2 c2) (.slice a3 m3 c3) := ⟨_, rfl⟩
  have hvv2 : VarS T a1 a2 a3 m1 m2 m3 c1 c2 c3 V2 := by rw [hV2]; exact hv2.put a1 a2 a3 m1 m2 m3 c1 c2 c3
  have hSz2 : V2.heap.size = w2.heap.size := by rw [hV2]; exact put3_size _ _ _ _ _
  have HSn2 := Lib.hid (show SlotsAt V2.heap.size V2 a1 a2 a3 s.cut.g s.cut.u s.cut.f by rw [hSz2, hV2]; exact (HS0.out.cut.on hw2).put hv2 a1 a2 a3 m1 m2 m3 c1 c2 c3)
  have HBn2 := Lib.hid (show Below w.heap.size w V2 by rw [hV2]; exact put3_below hw2 (by omega) _ _ _)
  have nu0 : V2.cell? ⟨(T + 1), 0, none⟩ = some (.slice b1 K1 d1) := (by rw [hV2]; exact (set_other _ _ (by omega)).trans ((set_other _ _ (by omega)).trans ((set_other _ _ (by omega)).trans u0)))
  have nu1 : V2.cell? ⟨(T + 1), 1, none⟩ = some (.slice b2 K2 d2) := (by rw [hV2]; exact (set_other _ _ (by omega)).trans ((set_other _ _ (by omega)).trans ((set_other _ _ (by omega)).trans u1)))
  have nu2 : V2.cell? ⟨(T + 1), 2, none⟩ = some (.slice b3 K3 d3) := (by rw [hV2]; exact (set_other _ _ (by omega)).trans ((set_other _ _ (by omega)).trans ((set_other _ _ (by omega)).trans u2)))
  have ng0 : V2.cell? ⟨(T + 2), 0, none⟩ = some (.int .i64 p) := (by rw [hV2]; exact (set_other _ _ (by omega)).trans ((set_other _ _ (by omega)).trans ((set_other _ _ (by omega)).trans g0)))
  have ng1 : V2.cell? ⟨(T + 2), 1, none⟩ = some (.int .i64 g) := (by rw [hV2]; exact (set_other _ _ (by omega)).trans ((set_other _ _ (by omega)).trans ((set_other _ _ (by omega)).trans g1)))
  have nfu0 : V2.frozen? ⟨(T + 1), 0, none⟩ = false := (by rw [hV2]; exact (World.frozen?_setCell ..).trans ((World.frozen?_setCell ..).trans ((World.frozen?_setCell ..).trans fu0)))
  have nfu1 : V2.frozen? ⟨(T + 1), 1, none⟩ = false := (by rw [hV2]; exact (World.frozen?_setCell ..).trans ((World.frozen?_setCell ..).trans ((World.frozen?_setCell ..).trans fu1)))
  have nfu2 : V2.frozen? ⟨(T + 1), 2, none⟩ = false := (by rw [hV2]; exact (World.frozen?_setCell ..).trans ((World.frozen?_setCell ..).trans ((World.frozen?_setCell ..).trans fu2)))
  go_upto_region 3 with fail
  unfold put3 at hV2
  rw [← hV2]
  clear hV2 HB1 HS0
  clear e0 e1 e2 u0 u1 u2 g0 g1 fe0 fe1 fe2 fu0 fu1 fu2
  obtain ⟨e0, e1, e2, _, _, _⟩ := hvv2
  have u0 := nu0
  clear nu0
  have u1 := nu1
  clear nu1
  have u2 := nu2
  clear nu2
  have g0 := ng0
  clear ng0
  have g1 := ng1
  clear ng1
  have fu0 := nfu0
  clear nfu0
  have fu1 := nfu1
  clear nfu1
  have fu2 := nfu2
  clear nfu2
  have HB1 := HBn2
  have HS := HSn2
  clear HBn2 HSn2 hw2 hv2 hb2 hSz2
  have hz2 : w.heap.size + 3 ≤ V2.heap.size := by have := HB1.out.size; have := blt g0; have := HTT.out; omega
  go_wp2_with fail
  go_at_call 10
  refine (cut_raw b1 b2 b3 d1 d2 d3 K1 K2 K3 n1 n2 n3 HM2.out.1 HM2.out.2.1 HM2.out.2.2 HK2.out.1 HK2.out.2.1 HK2.out.2.2 _).mono ?_
  rintro e w3 ⟨rfl, hb3⟩
  replace fu0 := (hb3.frozen (p := ⟨(T + 1), 0, none⟩) (blt u0)).trans fu0
  replace fu1 := (hb3.frozen (p := ⟨(T + 1), 1, none⟩) (blt u1)).trans fu1
  replace fu2 := (hb3.frozen (p := ⟨(T + 1), 2, none⟩) (blt u2)).trans fu2
  replace e0 := (hb3.cell (p := ⟨T, 0, none⟩) (blt e0)).trans e0
  replace e1 := (hb3.cell (p := ⟨T, 1, none⟩) (blt e1)).trans e1
  replace e2 := (hb3.cell (p := ⟨T, 2, none⟩) (blt e2)).trans e2
  replace u0 := (hb3.cell (p := ⟨(T + 1), 0, none⟩) (blt u0)).trans u0
  replace u1 := (hb3.cell (p := ⟨(T + 1), 1, none⟩) (blt u1)).trans u1
  replace u2 := (hb3.cell (p := ⟨(T + 1), 2, none⟩) (blt u2)).trans u2
  replace g0 := (hb3.cell (p := ⟨(T + 2), 0, none⟩) (blt g0)).trans g0
  replace g1 := (hb3.cell (p := ⟨(T + 2), 1, none⟩) (blt g1)).trans g1
  have hv3 : VarS (T + 1) b1 b2 b3 K1 K2 K3 d1 d2 d3 w3 := ⟨u0, u1, u2, fu0, fu1, fu2⟩
  have hw3 := btr HB1.out hb3
  obtain ⟨V3, hV3⟩ : ∃ V, V = put3 w3 (T + 1) (.slice b1 n1 d1) (.slice b2 n2 d2) (.slice b3 n3 d3) := ⟨_, rfl⟩
  have hvv3 : VarS (T + 1) b1 b2 b3 n1 n2 n3 d1 d2 d3 V3 := by rw [hV3]; exact hv3.put b1 b2 b3 n1 n2 n3 d1 d2 d3
  have hSz3 : V3.heap.size = w3.heap.size := by rw [hV3]; exact put3_size _ _ _ _ _
  have HSn3 := Lib.hid (show SlotsAt V3.heap.size V3 b1 b2 b3 t.cut.g t.cut.u t.cut.f by rw [hSz3, hV3]; exact (HT0.out.cut.on hw3).put hv3 b1 b2 b3 n1 n2 n3 d1 d2 d3)
  have HBn3 := Lib.hid (show Below w.heap.size w V3 by rw [hV3]; exact put3_below hw3 (by omega) _ _ _)
  have hHS3 := (HS.out.on hb3).put hv3 b1 b2 b3 n1 n2 n3 d1 d2 d3
  rw [← hV3, ← hSz3] at hHS3
  clear HS
  have HS := Lib.hid hHS3
  clear hHS3
  have ne0 : V3.cell? ⟨T, 0, none⟩ = some (.slice a1 m1 c1) := (by rw [hV3]; exact (set_other _ _ (by omega)).trans ((set_other _ _ (by omega)).trans ((set_other _ _ (by omega)).trans e0)))
  have ne1 : V3.cell? ⟨T, 1, none⟩ = some (.slice a2 m2 c2) := (by rw [hV3]; exact (set_other _ _ (by omega)).trans ((set_other _ _ (by omega)).trans ((set_other _ _ (by omega)).trans e1)))
  have ne2 : V3.cell? ⟨T, 2, none⟩ = some (.slice a3 m3 c3) := (by rw [hV3]; exact (set_other _ _ (by omega)).trans ((set_other _ _ (by omega)).trans ((set_other _ _ (by omega)).trans e2)))
  have ng0 : V3.cell? ⟨(T + 2), 0, none⟩ = some (.int .i64 p) := (by rw [hV3]; exact (set_other _ _ (by omega)).trans ((set_other _ _ (by omega)).trans ((set_other _ _ (by omega)).trans g0)))
  have ng1 : V3.cell? ⟨(T + 2), 1, none⟩ = some (.int .i64 g) := (by rw [hV3]; exact (set_other _ _ (by omega)).trans ((set_other _ _ (by omega)).trans ((set_other _ _ (by omega)).trans g1)))
  go_upto_region 4 with fail
  unfold put3 at hV3
  rw [← hV3]
  clear hV3 HB1 HT0
  clear e0 e1 e2 u0 u1 u2 g0 g1 fu0 fu1 fu2
  obtain ⟨u0, u1, u2, _, _, _⟩ := hvv3
  have e0 := ne0
  clear ne0
  have e1 := ne1
  clear ne1
  have e2 := ne2
  clear ne2
  have g0 := ng0
  clear ng0
  have g1 := ng1
  clear ng1
  have HB1 := HBn3
  have HT := HSn3
  clear HBn3 HSn3 hw3 hv3 hb3 hSz3
  have HB := HB1
  clear HB1
  go_wp2_with fail
  go_at_call 11
  refine (C1.out _).mono ?_
  rintro e w4 ⟨b1_4, b2_4, b3_4, d1_4, d2_4, d3_4, rfl, hs4, hb4⟩
  replace e0 := (hb4.cell (p := ⟨T, 0, none⟩) (blt e0)).trans e0
  replace e1 := (hb4.cell (p := ⟨T, 1, none⟩) (blt e1)).trans e1
  replace e2 := (hb4.cell (p := ⟨T, 2, none⟩) (blt e2)).trans e2
  replace u0 := (hb4.cell (p := ⟨(T + 1), 0, none⟩) (blt u0)).trans u0
  replace u1 := (hb4.cell (p := ⟨(T + 1), 1, none⟩) (blt u1)).trans u1
  replace u2 := (hb4.cell (p := ⟨(T + 1), 2, none⟩) (blt u2)).trans u2
  replace g0 := (hb4.cell (p := ⟨(T + 2), 0, none⟩) (blt g0)).trans g0
  replace g1 := (hb4.cell (p := ⟨(T + 2), 1, none⟩) (blt g1)).trans g1
  replace e0 := keep_alloc (.cells #[.slice b1_4 N1 d1_4, .slice b2_4 N2 d2_4, .slice b3_4 N3 d3_4] 25) e0
  replace e1 := keep_alloc (.cells #[.slice b1_4 N1 d1_4, .slice b2_4 N2 d2_4, .slice b3_4 N3 d3_4] 25) e1
  replace e2 := keep_alloc (.cells #[.slice b1_4 N1 d1_4, .slice b2_4 N2 d2_4, .slice b3_4 N3 d3_4] 25) e2
  replace u0 := keep_alloc (.cells #[.slice b1_4 N1 d1_4, .slice b2_4 N2 d2_4, .slice b3_4 N3 d3_4] 25) u0
  replace u1 := keep_alloc (.cells #[.slice b1_4 N1 d1_4, .slice b2_4 N2 d2_4, .slice b3_4 N3 d3_4] 25) u1
  replace u2 := keep_alloc (.cells #[.slice b1_4 N1 d1_4, .slice b2_4 N2 d2_4, .slice b3_4 N3 d3_4] 25) u2
  replace g0 := keep_alloc (.cells #[.slice b1_4 N1 d1_4, .slice b2_4 N2 d2_4, .slice b3_4 N3 d3_4] 25) g0
  replace g1 := keep_alloc (.cells #[.slice b1_4 N1 d1_4, .slice b2_4 N2 d2_4, .slice b3_4 N3 d3_4] 25) g1
  have x10 : (w4.alloc (.cells #[.slice b1_4 N1 d1_4, .slice b2_4 N2 d2_4, .slice b3_4 N3 d3_4] 25)).cell? ⟨w4.heap.size, 0, none⟩ = some (.slice b1_4 N1 d1_4) := by go_simp
  have x11 : (w4.alloc (.cells #[.slice b1_4 N1 d1_4, .slice b2_4 N2 d2_4, .slice b3_4 N3 d3_4] 25)).cell? ⟨w4.heap.size, 1, none⟩ = some (.slice b2_4 N2 d2_4) := by go_simp
  have x12 : (w4.alloc (.cells #[.slice b1_4 N1 d1_4, .slice b2_4 N2 d2_4, .slice b3_4 N3 d3_4] 25)).cell? ⟨w4.heap.size, 2, none⟩ = some (.slice b3_4 N3 d3_4) := by go_simp
  have hbu4 : Below w4.heap.size w4 (w4.alloc (.cells #[.slice b1_4 N1 d1_4, .slice b2_4 N2 d2_4, .slice b3_4 N3 d3_4] 25)) := below_alloc _ _
  have hB4 := HB.out
  have hS4 := HS.out
  clear HB HS
  have HB := Lib.hid (btr (btr hB4 hb4) hbu4)
  have HS := Lib.hid ((hS4.on hb4).on hbu4)
  have R1 := Lib.hid (hs4.on hbu4)
  have rHT := HT.out
  clear HT
  have HT := Lib.hid ((rHT.on hb4).on hbu4)
  clear rHT
  obtain ⟨B1, hB1⟩ : ∃ B, w4.heap.size = B := ⟨_, rfl⟩
  rw [hB1] at x10 x11 x12
  have HB1 := Lib.hid hB1
  clear hb4 hbu4 hB4 hS4 hs4
  go_upto_region 5 with fail
  try rw [hB1]
  generalize (w4.alloc (.cells #[.slice b1_4 N1 d1_4, .slice b2_4 N2 d2_4, .slice b3_4 N3 d3_4] 25)) = U4 at *
  clear hB1
  go_wp2_with fail
  go_at_call 12
  refine (C2.out _).mono ?_
  rintro e w5 ⟨b1_5, b2_5, b3_5, d1_5, d2_5, d3_5, rfl, hs5, hb5⟩
  replace e0 := (hb5.cell (p := ⟨T, 0, none⟩) (blt e0)).trans e0
  replace e1 := (hb5.cell (p := ⟨T, 1, none⟩) (blt e1)).trans e1
  replace e2 := (hb5.cell (p := ⟨T, 2, none⟩) (blt e2)).trans e2
  replace u0 := (hb5.cell (p := ⟨(T + 1), 0, none⟩) (blt u0)).trans u0
  replace u1 := (hb5.cell (p := ⟨(T + 1), 1, none⟩) (blt u1)).trans u1
  replace u2 := (hb5.cell (p := ⟨(T + 1), 2, none⟩) (blt u2)).trans u2
  replace g0 := (hb5.cell (p := ⟨(T + 2), 0, none⟩) (blt g0)).trans g0
  replace g1 := (hb5.cell (p := ⟨(T + 2), 1, none⟩) (blt g1)).trans g1
  replace x10 := (hb5.cell (p := ⟨B1, 0, none⟩) (blt x10)).trans x10
  replace x11 := (hb5.cell (p := ⟨B1, 1, none⟩) (blt x11)).trans x11
  replace x12 := (hb5.cell (p := ⟨B1, 2, none⟩) (blt x12)).trans x12
  replace e0 := keep_alloc (.cells #[.slice b1_5 N1 d1_5, .slice b2_5 N2 d2_5, .slice b3_5 N3 d3_5] 25) e0
  replace e1 := keep_alloc (.cells #[.slice b1_5 N1 d1_5, .slice b2_5 N2 d2_5, .slice b3_5 N3 d3_5] 25) e1
  replace e2 := keep_alloc (.cells #[.slice b1_5 N1 d1_5, .slice b2_5 N2 d2_5, .slice b3_5 N3 d3_5] 25) e2
  replace u0 := keep_alloc (.cells #[.slice b1_5 N1 d1_5, .slice b2_5 N2 d2_5, .slice b3_5 N3 d3_5] 25) u0
  replace u1 := keep_alloc (.cells #[.slice b1_5 N1 d1_5, .slice b2_5 N2 d2_5, .slice b3_5 N3 d3_5] 25) u1
  replace u2 := keep_alloc (.cells #[.slice b1_5 N1 d1_5, .slice b2_5 N2 d2_5, .slice b3_5 N3 d3_5] 25) u2
  replace g0 := keep_alloc (.cells #[.slice b1_5 N1 d1_5, .slice b2_5 N2 d2_5, .slice b3_5 N3 d3_5] 25) g0
  replace g1 := keep_alloc (.cells #[.slice b1_5 N1 d1_5, .slice b2_5 N2 d2_5, .slice b3_5 N3 d3_5] 25) g1
  replace x10 := keep_alloc (.cells #[.slice b1_5 N1 d1_5, .slice b2_5 N2 d2_5, .slice b3_5 N3 d3_5] 25) x10
  replace x11 := keep_alloc (.cells #[.slice b1_5 N1 d1_5, .slice b2_5 N2 d2_5, .slice b3_5 N3 d3_5] 25) x11
  replace x12 := keep_alloc (.cells #[.slice b1_5 N1 d1_5, .slice b2_5 N2 d2_5, .slice b3_5 N3 d3_5] 25) x12
  have x20 : (w5.alloc (.cells #[.slice b1_5 N1 d1_5, .slice b2_5 N2 d2_5, .slice b3_5 N3 d3_5] 25)).cell? ⟨w5.heap.size, 0, none⟩ = some (.slice b1_5 N1 d1_5) := by go_simp
  have x21 : (w5.alloc (.cells #[.slice b1_5 N1 d1_5, .slice b2_5 N2 d2_5, .slice b3_5 N3 d3_5] 25)).cell? ⟨w5.heap.size, 1, none⟩ = some (.slice b2_5 N2 d2_5) := by go_simp
  have x22 : (w5.alloc (.cells #[.slice b1_5 N1 d1_5, .slice b2_5 N2 d2_5, .slice b3_5 N3 d3_5] 25)).cell? ⟨w5.heap.size, 2, none⟩ = some (.slice b3_5 N3 d3_5) := by go_simp
  have hbu5 : Below w5.heap.size w5 (w5.alloc (.cells #[.slice b1_5 N1 d1_5, .slice b2_5 N2 d2_5, .slice b3_5 N3 d3_5] 25)) := below_alloc _ _
  have hB5 := HB.out
  have hS5 := HS.out
  clear HB HS
  have HB := Lib.hid (btr (btr hB5 hb5) hbu5)
  have HS := Lib.hid ((hS5.on hb5).on hbu5)
  have R2 := Lib.hid (hs5.on hbu5)
  have rHT := HT.out
  clear HT
  have HT := Lib.hid ((rHT.on hb5).on hbu5)
  clear rHT
  have r1 := R1.out
  clear R1
  have R1 := Lib.hid ((r1.on hb5).on hbu5)
  clear r1
  obtain ⟨B2, hB2⟩ : ∃ B, w5.heap.size = B := ⟨_, rfl⟩
  rw [hB2] at x20 x21 x22
  have HB2 := Lib.hid hB2
  clear hb5 hbu5 hB5 hS5 hs5
  go_upto_region 6 with fail
  try rw [hB2]
  generalize (w5.alloc (.cells #[.slice b1_5 N1 d1_5, .slice b2_5 N2 d2_5, .slice b3_5 N3 d3_5] 25)) = U5 at *
  clear hB2
  refine wp_region_held_drew (S := fun w' => w'.cell? ⟨T, 0, none⟩ = some (.slice a1 m1 c1) ∧ w'.cell? ⟨T, 1, none⟩ = some (.slice a2 m2 c2) ∧ w'.cell? ⟨T, 2, none⟩ = some (.slice a3 m3 c3) ∧ w'.cell? ⟨(T + 1), 0, none⟩ = some (.slice b1 n1 d1) ∧ w'.cell? ⟨(T + 1), 1, none⟩ = some (.slice b2 n2 d2) ∧ w'.cell? ⟨(T + 1), 2, none⟩ = some (.slice b3 n3 d3) ∧ w'.cell? ⟨(T + 2), 0, none⟩ = some (.int .i64 p) ∧ w'.cell? ⟨(T + 2), 1, none⟩ = some (.int .i64 g) ∧ w'.cell? ⟨B1, 0, none⟩ = some (.slice b1_4 N1 d1_4) ∧ w'.cell? ⟨B1, 1, none⟩ = some (.slice b2_4 N2 d2_4) ∧ w'.cell? ⟨B1, 2, none⟩ = some (.slice b3_4 N3 d3_4) ∧ w'.cell? ⟨B2, 0, none⟩ = some (.slice b1_5 N1 d1_5) ∧ w'.cell? ⟨B2, 1, none⟩ = some (.slice b2_5 N2 d2_5) ∧ w'.cell? ⟨B2, 2, none⟩ = some (.slice b3_5 N3 d3_5)) (by kernel_rfl) ?_ (fun hHeld => ?_)
  · exact ⟨e0, e1, e2, u0, u1, u2, g0, g1, x10, x11, x12, x20, x21, x22⟩
  have PB0 := Lib.hid (below_drew HB.out)
  have I0 := Lib.hid (HS.out.on (below_drew (Below.refl U5.heap.size U5)))
  have J0 := Lib.hid (HT.out.on (below_drew (Below.refl U5.heap.size U5)))
  have K0 := Lib.hid (R2.out.on (below_drew (Below.refl U5.heap.size U5)))
  have M0 := Lib.hid (R1.out.on (below_drew (Below.refl U5.heap.size U5)))
  clear HB HS HT R1 R2 e0 e1 e2 u0 u1 u2 g0 g1 x10 x11 x12 x20 x21 x22
  refine takeH (i := 0) (some 29) (v := ?_) rfl rfl (by kernel_rfl) (by kernel_rfl) (by kernel_rfl) (fun _ _ _ h => h) (Or.inl ⟨by rfl, ?hyte0⟩) hHeld ?restte0
  case hyte0 => (intro w hSw; (try dsimp only at hSw); go_simp; (try with_reducible rfl))
  try simp only [Act.put, List.setIfInBounds_toArray, List.set_cons_zero, List.set_cons_succ]
  refine takeH (i := 1) (some 30) (v := ?_) rfl rfl (by kernel_rfl) (by kernel_rfl) (by kernel_rfl) (fun _ _ _ h => h) (Or.inl ⟨by rfl, ?hyte1⟩) hHeld ?restte1
  case hyte1 => (intro w hSw; (try dsimp only at hSw); go_simp; (try with_reducible rfl))
  try simp only [Act.put, List.setIfInBounds_toArray, List.set_cons_zero, List.set_cons_succ]
  refine takeH (i := 2) (some 31) (v := ?_) rfl rfl (by kernel_rfl) (by kernel_rfl) (by kernel_rfl) (fun _ _ _ h => h) (Or.inl ⟨by rfl, ?hyte2⟩) hHeld ?restte2
  case hyte2 => (intro w hSw; (try dsimp only at hSw); go_simp; (try with_reducible rfl))
  try simp only [Act.put, List.setIfInBounds_toArray, List.set_cons_zero, List.set_cons_succ]
  refine takeH (i := 3) (some 32) (v := ?_) rfl rfl (by kernel_rfl) (by kernel_rfl) (by kernel_rfl) (fun _ _ _ h => h) (Or.inl ⟨by rfl, ?hyte3⟩) hHeld ?restte3
  case hyte3 => (intro w hSw; (try dsimp only at hSw); go_simp; (try with_reducible rfl))
  try simp only [Act.put, List.setIfInBounds_toArray, List.set_cons_zero, List.set_cons_succ]
  refine wpAnyH_ready (rs := [4]) (by kernel_rfl) (by simp) ?_
  refine AllReadyH.cons rfl (fun K hK => ?_) AllReadyH.nil
  go_simp
  refine (Q1.out _ _ _ _ _ _ _ _ _ _ _ _ _ M0.out K0.out).mono ?_
  rintro e z1 ⟨rfl, hb⟩
  refine hK.out _ _ ⟨(hb.cell (p := ⟨T, 0, none⟩) (blt hHeld.1)).trans hHeld.1, (hb.cell (p := ⟨T, 1, none⟩) (blt hHeld.2.1)).trans hHeld.2.1, (hb.cell (p := ⟨T, 2, none⟩) (blt hHeld.2.2.1)).trans hHeld.2.2.1, (hb.cell (p := ⟨(T + 1), 0, none⟩) (blt hHeld.2.2.2.1)).trans hHeld.2.2.2.1, (hb.cell (p := ⟨(T + 1), 1, none⟩) (blt hHeld.2.2.2.2.1)).trans hHeld.2.2.2.2.1, (hb.cell (p := ⟨(T + 1), 2, none⟩) (blt hHeld.2.2.2.2.2.1)).trans hHeld.2.2.2.2.2.1, (hb.cell (p := ⟨(T + 2), 0, none⟩) (blt hHeld.2.2.2.2.2.2.1)).trans hHeld.2.2.2.2.2.2.1, (hb.cell (p := ⟨(T + 2), 1, none⟩) (blt hHeld.2.2.2.2.2.2.2.1)).trans hHeld.2.2.2.2.2.2.2.1, (hb.cell (p := ⟨B1, 0, none⟩) (blt hHeld.2.2.2.2.2.2.2.2.1)).trans hHeld.2.2.2.2.2.2.2.2.1, (hb.cell (p := ⟨B1, 1, none⟩) (blt hHeld.2.2.2.2.2.2.2.2.2.1)).trans hHeld.2.2.2.2.2.2.2.2.2.1, (hb.cell (p := ⟨B1, 2, none⟩) (blt hHeld.2.2.2.2.2.2.2.2.2.2.1)).trans hHeld.2.2.2.2.2.2.2.2.2.2.1, (hb.cell (p := ⟨B2, 0, none⟩) (blt hHeld.2.2.2.2.2.2.2.2.2.2.2.1)).trans hHeld.2.2.2.2.2.2.2.2.2.2.2.1, (hb.cell (p := ⟨B2, 1, none⟩) (blt hHeld.2.2.2.2.2.2.2.2.2.2.2.2.1)).trans hHeld.2.2.2.2.2.2.2.2.2.2.2.2.1, (hb.cell (p := ⟨B2, 2, none⟩) (blt hHeld.2.2.2.2.2.2.2.2.2.2.2.2.2)).trans hHeld.2.2.2.2.2.2.2.2.2.2.2.2.2⟩ (fun hHeld => ?_)
  clear hK K
  try simp only [Act.put, List.setIfInBounds_toArray, List.set_cons_zero, List.set_cons_succ]
  have PB1 := Lib.hid (btr PB0.out hb)
  have I1 := Lib.hid (I0.out.on hb)
  have J1 := Lib.hid (J0.out.on hb)
  have K1 := Lib.hid (K0.out.on hb)
  have M1 := Lib.hid (M0.out.on hb)
  clear hb PB0 I0 J0 K0 M0
  refine takeH (i := 5) (some 34) (v := ?_) rfl rfl (by kernel_rfl) (by kernel_rfl) (by kernel_rfl) (fun _ _ _ h => h) (Or.inl ⟨by rfl, ?hyte5⟩) hHeld ?restte5
  case hyte5 => (intro w hSw; (try dsimp only at hSw); go_simp; (try with_reducible rfl))
  try simp only [Act.put, List.setIfInBounds_toArray, List.set_cons_zero, List.set_cons_succ]
  refine takeH (i := 6) (some 35) (v := ?_) rfl rfl (by kernel_rfl) (by kernel_rfl) (by kernel_rfl) (fun _ _ _ h => h) (Or.inl ⟨by rfl, ?hyte6⟩) hHeld ?restte6
  case hyte6 => (intro w hSw; (try dsimp only at hSw); go_simp; (try with_reducible rfl))
  try simp only [Act.put, List.setIfInBounds_toArray, List.set_cons_zero, List.set_cons_succ]
  refine takeH (i := 7) (some 36) (v := ?_) rfl rfl (by kernel_rfl) (by kernel_rfl) (by kernel_rfl) (fun _ _ _ h => h) (Or.inl ⟨by rfl, ?hyte7⟩) hHeld ?restte7
  case hyte7 => (intro w hSw; (try dsimp only at hSw); go_simp; (try with_reducible rfl))
  try simp only [Act.put, List.setIfInBounds_toArray, List.set_cons_zero, List.set_cons_succ]
  refine takeH (i := 8) (some 37) (v := ?_) rfl rfl (by kernel_rfl) (by kernel_rfl) (by kernel_rfl) (fun _ _ _ h => h) (Or.inl ⟨by rfl, ?hyte8⟩) hHeld ?restte8
  case hyte8 => (intro w hSw; (try dsimp only at hSw); go_simp; (try with_reducible rfl))
  try simp only [Act.put, List.setIfInBounds_toArray, List.set_cons_zero, List.set_cons_succ]
  refine takeH (i := 9) (some 38) (v := ?_) rfl rfl (by kernel_rfl) (by kernel_rfl) (by kernel_rfl) (fun _ _ _ h => h) (Or.inl ⟨by rfl, ?hyte9⟩) hHeld ?restte9
  case hyte9 => (intro w hSw; (try dsimp only at hSw); go_simp; (try with_reducible rfl))
  try simp only [Act.put, List.setIfInBounds_toArray, List.set_cons_zero, List.set_cons_succ]
  refine takeH (i := 10) (some 39) (v := ?_) rfl rfl (by kernel_rfl) (by kernel_rfl) (by kernel_rfl) (fun _ _ _ h => h) (Or.inl ⟨by rfl, ?hyte10⟩) hHeld ?restte10
  case hyte10 => (intro w hSw; (try dsimp only at hSw); go_simp; (try with_reducible rfl))
  try simp only [Act.put, List.setIfInBounds_toArray, List.set_cons_zero, List.set_cons_succ]
  refine takeH (i := 11) (some 40) (v := ?_) rfl rfl (by kernel_rfl) (by kernel_rfl) (by kernel_rfl) (fun _ _ _ h => h) (Or.inl ⟨by rfl, ?hyte11⟩) hHeld ?restte11
  case hyte11 => (intro w hSw; (try dsimp only at hSw); go_simp; (try with_reducible rfl))
  try simp only [Act.put, List.setIfInBounds_toArray, List.set_cons_zero, List.set_cons_succ]
  refine takeH (i := 12) (some 41) (v := ?_) rfl rfl (by kernel_rfl) (by kernel_rfl) (by kernel_rfl) (fun _ _ _ h => h) (Or.inl ⟨by rfl, ?hyte12⟩) hHeld ?restte12
  case hyte12 => (intro w hSw; (try dsimp only at hSw); go_simp; (try with_reducible rfl))
  try simp only [Act.put, List.setIfInBounds_toArray, List.set_cons_zero, List.set_cons_succ]
  refine takeH (i := 14) (some 43) (v := ?_) rfl rfl (by kernel_rfl) (by kernel_rfl) (by kernel_rfl) (fun _ _ _ h => h) (Or.inl ⟨by rfl, ?hyte14⟩) hHeld ?restte14
  case hyte14 => (intro w hSw; (try dsimp only at hSw); go_simp; (try with_reducible rfl))
  try simp only [Act.put, List.setIfInBounds_toArray, List.set_cons_zero, List.set_cons_succ]
  refine wpAnyH_ready (rs := [13]) (by kernel_rfl) (by simp) ?_
  refine AllReadyH.cons rfl (fun K hK => ?_) AllReadyH.nil
  go_simp
  refine (F1.out _ I1.out).mono ?_
  rintro e z2 ⟨rfl, hb⟩
  refine hK.out _ _ ⟨(hb.cell (p := ⟨T, 0, none⟩) (blt hHeld.1)).trans hHeld.1, (hb.cell (p := ⟨T, 1, none⟩) (blt hHeld.2.1)).trans hHeld.2.1, (hb.cell (p := ⟨T, 2, none⟩) (blt hHeld.2.2.1)).trans hHeld.2.2.1, (hb.cell (p := ⟨(T + 1), 0, none⟩) (blt hHeld.2.2.2.1)).trans hHeld.2.2.2.1, (hb.cell (p := ⟨(T + 1), 1, none⟩) (blt hHeld.2.2.2.2.1)).trans hHeld.2.2.2.2.1, (hb.cell (p := ⟨(T + 1), 2, none⟩) (blt hHeld.2.2.2.2.2.1)).trans hHeld.2.2.2.2.2.1, (hb.cell (p := ⟨(T + 2), 0, none⟩) (blt hHeld.2.2.2.2.2.2.1)).trans hHeld.2.2.2.2.2.2.1, (hb.cell (p := ⟨(T + 2), 1, none⟩) (blt hHeld.2.2.2.2.2.2.2.1)).trans hHeld.2.2.2.2.2.2.2.1, (hb.cell (p := ⟨B1, 0, none⟩) (blt hHeld.2.2.2.2.2.2.2.2.1)).trans hHeld.2.2.2.2.2.2.2.2.1, (hb.cell (p := ⟨B1, 1, none⟩) (blt hHeld.2.2.2.2.2.2.2.2.2.1)).trans hHeld.2.2.2.2.2.2.2.2.2.1, (hb.cell (p := ⟨B1, 2, none⟩) (blt hHeld.2.2.2.2.2.2.2.2.2.2.1)).trans hHeld.2.2.2.2.2.2.2.2.2.2.1, (hb.cell (p := ⟨B2, 0, none⟩) (blt hHeld.2.2.2.2.2.2.2.2.2.2.2.1)).trans hHeld.2.2.2.2.2.2.2.2.2.2.2.1, (hb.cell (p := ⟨B2, 1, none⟩) (blt hHeld.2.2.2.2.2.2.2.2.2.2.2.2.1)).trans hHeld.2.2.2.2.2.2.2.2.2.2.2.2.1, (hb.cell (p := ⟨B2, 2, none⟩) (blt hHeld.2.2.2.2.2.2.2.2.2.2.2.2.2)).trans hHeld.2.2.2.2.2.2.2.2.2.2.2.2.2⟩ (fun hHeld => ?_)
  clear hK K
  try simp only [Act.put, List.setIfInBounds_toArray, List.set_cons_zero, List.set_cons_succ]
  have PB2 := Lib.hid (btr PB1.out hb)
  have I2 := Lib.hid (I1.out.on hb)
  have J2 := Lib.hid (J1.out.on hb)
  have K2 := Lib.hid (K1.out.on hb)
  have M2 := Lib.hid (M1.out.on hb)
  clear hb PB1 I1 J1 K1 M1
  refine wpAnyH_ready (rs := [15]) (by kernel_rfl) (by simp) ?_
  refine AllReadyH.cons rfl (fun K hK => ?_) AllReadyH.nil
  go_simp
  refine (F2.out _ I2.out).mono ?_
  rintro e z3 ⟨rfl, hb⟩
  refine hK.out _ _ ⟨(hb.cell (p := ⟨T, 0, none⟩) (blt hHeld.1)).trans hHeld.1, (hb.cell (p := ⟨T, 1, none⟩) (blt hHeld.2.1)).trans hHeld.2.1, (hb.cell (p := ⟨T, 2, none⟩) (blt hHeld.2.2.1)).trans hHeld.2.2.1, (hb.cell (p := ⟨(T + 1), 0, none⟩) (blt hHeld.2.2.2.1)).trans hHeld.2.2.2.1, (hb.cell (p := ⟨(T + 1), 1, none⟩) (blt hHeld.2.2.2.2.1)).trans hHeld.2.2.2.2.1, (hb.cell (p := ⟨(T + 1), 2, none⟩) (blt hHeld.2.2.2.2.2.1)).trans hHeld.2.2.2.2.2.1, (hb.cell (p := ⟨(T + 2), 0, none⟩) (blt hHeld.2.2.2.2.2.2.1)).trans hHeld.2.2.2.2.2.2.1, (hb.cell (p := ⟨(T + 2), 1, none⟩) (blt hHeld.2.2.2.2.2.2.2.1)).trans hHeld.2.2.2.2.2.2.2.1, (hb.cell (p := ⟨B1, 0, none⟩) (blt hHeld.2.2.2.2.2.2.2.2.1)).trans hHeld.2.2.2.2.2.2.2.2.1, (hb.cell (p := ⟨B1, 1, none⟩) (blt hHeld.2.2.2.2.2.2.2.2.2.1)).trans hHeld.2.2.2.2.2.2.2.2.2.1, (hb.cell (p := ⟨B1, 2, none⟩) (blt hHeld.2.2.2.2.2.2.2.2.2.2.1)).trans hHeld.2.2.2.2.2.2.2.2.2.2.1, (hb.cell (p := ⟨B2, 0, none⟩) (blt hHeld.2.2.2.2.2.2.2.2.2.2.2.1)).trans hHeld.2.2.2.2.2.2.2.2.2.2.2.1, (hb.cell (p := ⟨B2, 1, none⟩) (blt hHeld.2.2.2.2.2.2.2.2.2.2.2.2.1)).trans hHeld.2.2.2.2.2.2.2.2.2.2.2.2.1, (hb.cell (p := ⟨B2, 2, none⟩) (blt hHeld.2.2.2.2.2.2.2.2.2.2.2.2.2)).trans hHeld.2.2.2.2.2.2.2.2.2.2.2.2.2⟩ (fun hHeld => ?_)
  clear hK K
  try simp only [Act.put, List.setIfInBounds_toArray, List.set_cons_zero, List.set_cons_succ]
  have PB3 := Lib.hid (btr PB2.out hb)
  have I3 := Lib.hid (I2.out.on hb)
  have J3 := Lib.hid (J2.out.on hb)
  have K3 := Lib.hid (K2.out.on hb)
  have M3 := Lib.hid (M2.out.on hb)
  clear hb PB2 I2 J2 K2 M2
  refine takeH (i := 16) (some 45) (v := ?_) rfl rfl (by kernel_rfl) (by kernel_rfl) (by kernel_rfl) (fun _ _ _ h => h) (Or.inl ⟨by rfl, ?hyte16⟩) hHeld ?restte16
  case hyte16 => (intro w hSw; (try dsimp only at hSw); go_simp; (try with_reducible rfl))
  try simp only [Act.put, List.setIfInBounds_toArray, List.set_cons_zero, List.set_cons_succ]
  refine takeH (i := 17) (some 46) (v := ?_) rfl rfl (by kernel_rfl) (by kernel_rfl) (by kernel_rfl) (fun _ _ _ h => h) (Or.inl ⟨by rfl, ?hyte17⟩) hHeld ?restte17
  case hyte17 => (intro w hSw; (try dsimp only at hSw); go_simp; (try with_reducible rfl))
  try simp only [Act.put, List.setIfInBounds_toArray, List.set_cons_zero, List.set_cons_succ]
  refine takeH (i := 18) (some 47) (v := ?_) rfl rfl (by kernel_rfl) (by kernel_rfl) (by kernel_rfl) (fun _ _ _ h => h) (Or.inl ⟨by rfl, ?hyte18⟩) hHeld ?restte18
  case hyte18 => (intro w hSw; (try dsimp only at hSw); go_simp; (try with_reducible rfl))
  try simp only [Act.put, List.setIfInBounds_toArray, List.set_cons_zero, List.set_cons_succ]
  refine takeH (i := 19) (some 48) (v := ?_) rfl rfl (by kernel_rfl) (by kernel_rfl) (by kernel_rfl) (fun _ _ _ h => h) (Or.inl ⟨by rfl, ?hyte19⟩) hHeld ?restte19
  case hyte19 => (intro w hSw; (try dsimp only at hSw); go_simp; (try with_reducible rfl))
  try simp only [Act.put, List.setIfInBounds_toArray, List.set_cons_zero, List.set_cons_succ]
  refine takeH (i := 20) (some 49) (v := ?_) rfl rfl (by kernel_rfl) (by kernel_rfl) (by kernel_rfl) (fun _ _ _ h => h) (Or.inl ⟨by rfl, ?hyte20⟩) hHeld ?restte20
  case hyte20 => (intro w hSw; (try dsimp only at hSw); go_simp; (try with_reducible rfl))
  try simp only [Act.put, List.setIfInBounds_toArray, List.set_cons_zero, List.set_cons_succ]
  refine takeH (i := 22) (some 51) (v := ?_) rfl rfl (by kernel_rfl) (by kernel_rfl) (by kernel_rfl) (fun _ _ _ h => h) (Or.inl ⟨by rfl, ?hyte22⟩) hHeld ?restte22
  case hyte22 => (intro w hSw; (try dsimp only at hSw); go_simp; (try with_reducible rfl))
  try simp only [Act.put, List.setIfInBounds_toArray, List.set_cons_zero, List.set_cons_succ]
  refine takeH (i := 23) (some 52) (v := ?_) rfl rfl (by kernel_rfl) (by kernel_rfl) (by kernel_rfl) (fun _ _ _ h => h) (Or.inl ⟨by rfl, ?hyte23⟩) hHeld ?restte23
  case hyte23 => (intro w hSw; (try dsimp only at hSw); go_simp; (try with_reducible rfl))
  try simp only [Act.put, List.setIfInBounds_toArray, List.set_cons_zero, List.set_cons_succ]
  refine wpAnyH_ready (rs := [21]) (by kernel_rfl) (by simp) ?_
  refine AllReadyH.cons rfl (fun K hK => ?_) AllReadyH.nil
  go_simp
  refine (F3.out _ I3.out J3.out).mono ?_
  rintro e z4 ⟨rfl, hb⟩
  refine hK.out _ _ ⟨(hb.cell (p := ⟨T, 0, none⟩) (blt hHeld.1)).trans hHeld.1, (hb.cell (p := ⟨T, 1, none⟩) (blt hHeld.2.1)).trans hHeld.2.1, (hb.cell (p := ⟨T, 2, none⟩) (blt hHeld.2.2.1)).trans hHeld.2.2.1, (hb.cell (p := ⟨(T + 1), 0, none⟩) (blt hHeld.2.2.2.1)).trans hHeld.2.2.2.1, (hb.cell (p := ⟨(T + 1), 1, none⟩) (blt hHeld.2.2.2.2.1)).trans hHeld.2.2.2.2.1, (hb.cell (p := ⟨(T + 1), 2, none⟩) (blt hHeld.2.2.2.2.2.1)).trans hHeld.2.2.2.2.2.1, (hb.cell (p := ⟨(T + 2), 0, none⟩) (blt hHeld.2.2.2.2.2.2.1)).trans hHeld.2.2.2.2.2.2.1, (hb.cell (p := ⟨(T + 2), 1, none⟩) (blt hHeld.2.2.2.2.2.2.2.1)).trans hHeld.2.2.2.2.2.2.2.1, (hb.cell (p := ⟨B1, 0, none⟩) (blt hHeld.2.2.2.2.2.2.2.2.1)).trans hHeld.2.2.2.2.2.2.2.2.1, (hb.cell (p := ⟨B1, 1, none⟩) (blt hHeld.2.2.2.2.2.2.2.2.2.1)).trans hHeld.2.2.2.2.2.2.2.2.2.1, (hb.cell (p := ⟨B1, 2, none⟩) (blt hHeld.2.2.2.2.2.2.2.2.2.2.1)).trans hHeld.2.2.2.2.2.2.2.2.2.2.1, (hb.cell (p := ⟨B2, 0, none⟩) (blt hHeld.2.2.2.2.2.2.2.2.2.2.2.1)).trans hHeld.2.2.2.2.2.2.2.2.2.2.2.1, (hb.cell (p := ⟨B2, 1, none⟩) (blt hHeld.2.2.2.2.2.2.2.2.2.2.2.2.1)).trans hHeld.2.2.2.2.2.2.2.2.2.2.2.2.1, (hb.cell (p := ⟨B2, 2, none⟩) (blt hHeld.2.2.2.2.2.2.2.2.2.2.2.2.2)).trans hHeld.2.2.2.2.2.2.2.2.2.2.2.2.2⟩ (fun hHeld => ?_)
  clear hK K
  try simp only [Act.put, List.setIfInBounds_toArray, List.set_cons_zero, List.set_cons_succ]
  have PB4 := Lib.hid (btr PB3.out hb)
  have I4 := Lib.hid (I3.out.on hb)
  have J4 := Lib.hid (J3.out.on hb)
  have K4 := Lib.hid (K3.out.on hb)
  have M4 := Lib.hid (M3.out.on hb)
  clear hb PB3 I3 J3 K3 M3
  refine wpAnyH_ready (rs := [24]) (by kernel_rfl) (by simp) ?_
  refine AllReadyH.cons rfl (fun K hK => ?_) AllReadyH.nil
  go_simp
  refine (F4.out _ I4.out J4.out).mono ?_
  rintro e z5 ⟨rfl, hb⟩
  refine hK.out _ _ ⟨(hb.cell (p := ⟨T, 0, none⟩) (blt hHeld.1)).trans hHeld.1, (hb.cell (p := ⟨T, 1, none⟩) (blt hHeld.2.1)).trans hHeld.2.1, (hb.cell (p := ⟨T, 2, none⟩) (blt hHeld.2.2.1)).trans hHeld.2.2.1, (hb.cell (p := ⟨(T + 1), 0, none⟩) (blt hHeld.2.2.2.1)).trans hHeld.2.2.2.1, (hb.cell (p := ⟨(T + 1), 1, none⟩) (blt hHeld.2.2.2.2.1)).trans hHeld.2.2.2.2.1, (hb.cell (p := ⟨(T + 1), 2, none⟩) (blt hHeld.2.2.2.2.2.1)).trans hHeld.2.2.2.2.2.1, (hb.cell (p := ⟨(T + 2), 0, none⟩) (blt hHeld.2.2.2.2.2.2.1)).trans hHeld.2.2.2.2.2.2.1, (hb.cell (p := ⟨(T + 2), 1, none⟩) (blt hHeld.2.2.2.2.2.2.2.1)).trans hHeld.2.2.2.2.2.2.2.1, (hb.cell (p := ⟨B1, 0, none⟩) (blt hHeld.2.2.2.2.2.2.2.2.1)).trans hHeld.2.2.2.2.2.2.2.2.1, (hb.cell (p := ⟨B1, 1, none⟩) (blt hHeld.2.2.2.2.2.2.2.2.2.1)).trans hHeld.2.2.2.2.2.2.2.2.2.1, (hb.cell (p := ⟨B1, 2, none⟩) (blt hHeld.2.2.2.2.2.2.2.2.2.2.1)).trans hHeld.2.2.2.2.2.2.2.2.2.2.1, (hb.cell (p := ⟨B2, 0, none⟩) (blt hHeld.2.2.2.2.2.2.2.2.2.2.2.1)).trans hHeld.2.2.2.2.2.2.2.2.2.2.2.1, (hb.cell (p := ⟨B2, 1, none⟩) (blt hHeld.2.2.2.2.2.2.2.2.2.2.2.2.1)).trans hHeld.2.2.2.2.2.2.2.2.2.2.2.2.1, (hb.cell (p := ⟨B2, 2, none⟩) (blt hHeld.2.2.2.2.2.2.2.2.2.2.2.2.2)).trans hHeld.2.2.2.2.2.2.2.2.2.2.2.2.2⟩ (fun hHeld => ?_)
  clear hK K
  try simp only [Act.put, List.setIfInBounds_toArray, List.set_cons_zero, List.set_cons_succ]
  have PB5 := Lib.hid (btr PB4.out hb)
  have I5 := Lib.hid (I4.out.on hb)
  have J5 := Lib.hid (J4.out.on hb)
  have K5 := Lib.hid (K4.out.on hb)
  have M5 := Lib.hid (M4.out.on hb)
  clear hb PB4 I4 J4 K4 M4
  refine takeH (i := 25) (some 54) (v := ?_) rfl rfl (by kernel_rfl) (by kernel_rfl) (by kernel_rfl) (fun _ _ _ h => h) (Or.inl ⟨by rfl, ?hyte25⟩) hHeld ?restte25
  case hyte25 => (intro w hSw; (try dsimp only at hSw); go_simp; (try with_reducible rfl))
  try simp only [Act.put, List.setIfInBounds_toArray, List.set_cons_zero, List.set_cons_succ]
  refine takeH (i := 26) (some 55) (v := ?_) rfl rfl (by kernel_rfl) (by kernel_rfl) (by kernel_rfl) (fun _ _ _ h => h) (Or.inl ⟨by rfl, ?hyte26⟩) hHeld ?restte26
  case hyte26 => (intro w hSw; (try dsimp only at hSw); go_simp; (try with_reducible rfl))
  try simp only [Act.put, List.setIfInBounds_toArray, List.set_cons_zero, List.set_cons_succ]
  refine takeH (i := 27) (some 56) (v := ?_) rfl rfl (by kernel_rfl) (by kernel_rfl) (by kernel_rfl) (fun _ _ _ h => h) (Or.inl ⟨by rfl, ?hyte27⟩) hHeld ?restte27
  case hyte27 => (intro w hSw; (try dsimp only at hSw); go_simp; (try with_reducible rfl))
  try simp only [Act.put, List.setIfInBounds_toArray, List.set_cons_zero, List.set_cons_succ]
  refine takeH (i := 28) (some 57) (v := ?_) rfl rfl (by kernel_rfl) (by kernel_rfl) (by kernel_rfl) (fun _ _ _ h => h) (Or.inl ⟨by rfl, ?hyte28⟩) hHeld ?restte28
  case hyte28 => (intro w hSw; (try dsimp only at hSw); go_simp; (try with_reducible rfl))
  try simp only [Act.put, List.setIfInBounds_toArray, List.set_cons_zero, List.set_cons_succ]
  refine takeH (i := 29) (some 58) (v := ?_) rfl rfl (by kernel_rfl) (by kernel_rfl) (by kernel_rfl) (fun _ _ _ h => h) (Or.inl ⟨by rfl, ?hyte29⟩) hHeld ?restte29
  case hyte29 => (intro w hSw; (try dsimp only at hSw); go_simp; (try with_reducible rfl))
  try simp only [Act.put, List.setIfInBounds_toArray, List.set_cons_zero, List.set_cons_succ]
  refine wpAnyH_ready (rs := [30]) (by kernel_rfl) (by simp) ?_
  refine AllReadyH.cons rfl (fun K hK => ?_) AllReadyH.nil
  go_simp
  refine (F5.out _ I5.out I5.out).mono ?_
  rintro e z6 ⟨rfl, hb⟩
  refine hK.out _ _ ⟨(hb.cell (p := ⟨T, 0, none⟩) (blt hHeld.1)).trans hHeld.1, (hb.cell (p := ⟨T, 1, none⟩) (blt hHeld.2.1)).trans hHeld.2.1, (hb.cell (p := ⟨T, 2, none⟩) (blt hHeld.2.2.1)).trans hHeld.2.2.1, (hb.cell (p := ⟨(T + 1), 0, none⟩) (blt hHeld.2.2.2.1)).trans hHeld.2.2.2.1, (hb.cell (p := ⟨(T + 1), 1, none⟩) (blt hHeld.2.2.2.2.1)).trans hHeld.2.2.2.2.1, (hb.cell (p := ⟨(T + 1), 2, none⟩) (blt hHeld.2.2.2.2.2.1)).trans hHeld.2.2.2.2.2.1, (hb.cell (p := ⟨(T + 2), 0, none⟩) (blt hHeld.2.2.2.2.2.2.1)).trans hHeld.2.2.2.2.2.2.1, (hb.cell (p := ⟨(T + 2), 1, none⟩) (blt hHeld.2.2.2.2.2.2.2.1)).trans hHeld.2.2.2.2.2.2.2.1, (hb.cell (p := ⟨B1, 0, none⟩) (blt hHeld.2.2.2.2.2.2.2.2.1)).trans hHeld.2.2.2.2.2.2.2.2.1, (hb.cell (p := ⟨B1, 1, none⟩) (blt hHeld.2.2.2.2.2.2.2.2.2.1)).trans hHeld.2.2.2.2.2.2.2.2.2.1, (hb.cell (p := ⟨B1, 2, none⟩) (blt hHeld.2.2.2.2.2.2.2.2.2.2.1)).trans hHeld.2.2.2.2.2.2.2.2.2.2.1, (hb.cell (p := ⟨B2, 0, none⟩) (blt hHeld.2.2.2.2.2.2.2.2.2.2.2.1)).trans hHeld.2.2.2.2.2.2.2.2.2.2.2.1, (hb.cell (p := ⟨B2, 1, none⟩) (blt hHeld.2.2.2.2.2.2.2.2.2.2.2.2.1)).trans hHeld.2.2.2.2.2.2.2.2.2.2.2.2.1, (hb.cell (p := ⟨B2, 2, none⟩) (blt hHeld.2.2.2.2.2.2.2.2.2.2.2.2.2)).trans hHeld.2.2.2.2.2.2.2.2.2.2.2.2.2⟩ (fun hHeld => ?_)
  clear hK K
  try simp only [Act.put, List.setIfInBounds_toArray, List.set_cons_zero, List.set_cons_succ]
  have PB6 := Lib.hid (btr PB5.out hb)
  have I6 := Lib.hid (I5.out.on hb)
  have J6 := Lib.hid (J5.out.on hb)
  have K6 := Lib.hid (K5.out.on hb)
  have M6 := Lib.hid (M5.out.on hb)
  clear hb PB5 I5 J5 K5 M5
  refine takeH (i := 31) (some 60) (v := ?_) rfl rfl (by kernel_rfl) (by kernel_rfl) (by kernel_rfl) (fun _ _ _ h => h) (Or.inl ⟨by rfl, ?hyte31⟩) hHeld ?restte31
  case hyte31 => (intro w hSw; (try dsimp only at hSw); go_simp; (try with_reducible rfl))
  try simp only [Act.put, List.setIfInBounds_toArray, List.set_cons_zero, List.set_cons_succ]
  refine takeH (i := 32) (some 61) (v := ?_) rfl rfl (by kernel_rfl) (by kernel_rfl) (by kernel_rfl) (fun _ _ _ h => h) (Or.inl ⟨by rfl, ?hyte32⟩) hHeld ?restte32
  case hyte32 => (intro w hSw; (try dsimp only at hSw); go_simp; (try with_reducible rfl))
  try simp only [Act.put, List.setIfInBounds_toArray, List.set_cons_zero, List.set_cons_succ]
  refine takeH (i := 33) (some 62) (v := ?_) rfl rfl (by kernel_rfl) (by kernel_rfl) (by kernel_rfl) (fun _ _ _ h => h) (Or.inl ⟨by rfl, ?hyte33⟩) hHeld ?restte33
  case hyte33 => (intro w hSw; (try dsimp only at hSw); go_simp; (try with_reducible rfl))
  try simp only [Act.put, List.setIfInBounds_toArray, List.set_cons_zero, List.set_cons_succ]
  refine takeH (i := 34) (some 63) (v := ?_) rfl rfl (by kernel_rfl) (by kernel_rfl) (by kernel_rfl) (fun _ _ _ h => h) (Or.inl ⟨by rfl, ?hyte34⟩) hHeld ?restte34
  case hyte34 => (intro w hSw; (try dsimp only at hSw); go_simp; (try with_reducible rfl))
  try simp only [Act.put, List.setIfInBounds_toArray, List.set_cons_zero, List.set_cons_succ]
  refine takeH (i := 36) (some 65) (v := ?_) rfl rfl (by kernel_rfl) (by kernel_rfl) (by kernel_rfl) (fun _ _ _ h => h) (Or.inl ⟨by rfl, ?hyte36⟩) hHeld ?restte36
  case hyte36 => (intro w hSw; (try dsimp only at hSw); go_simp; (try with_reducible rfl))
  try simp only [Act.put, List.setIfInBounds_toArray, List.set_cons_zero, List.set_cons_succ]
  refine takeH (i := 37) (some 66) (v := ?_) rfl rfl (by kernel_rfl) (by kernel_rfl) (by kernel_rfl) (fun _ _ _ h => h) (Or.inl ⟨by rfl, ?hyte37⟩) hHeld ?restte37
  case hyte37 => (intro w hSw; (try dsimp only at hSw); go_simp; (try with_reducible rfl))
  try simp only [Act.put, List.setIfInBounds_toArray, List.set_cons_zero, List.set_cons_succ]
  refine wpAnyH_ready (rs := [35]) (by kernel_rfl) (by simp) ?_
  refine AllReadyH.cons rfl (fun K hK => ?_) AllReadyH.nil
  go_simp
  refine (F6.out _ I6.out).mono ?_
  rintro e z7 ⟨rfl, hb⟩
  refine hK.out _ _ ⟨(hb.cell (p := ⟨T, 0, none⟩) (blt hHeld.1)).trans hHeld.1, (hb.cell (p := ⟨T, 1, none⟩) (blt hHeld.2.1)).trans hHeld.2.1, (hb.cell (p := ⟨T, 2, none⟩) (blt hHeld.2.2.1)).trans hHeld.2.2.1, (hb.cell (p := ⟨(T + 1), 0, none⟩) (blt hHeld.2.2.2.1)).trans hHeld.2.2.2.1, (hb.cell (p := ⟨(T + 1), 1, none⟩) (blt hHeld.2.2.2.2.1)).trans hHeld.2.2.2.2.1, (hb.cell (p := ⟨(T + 1), 2, none⟩) (blt hHeld.2.2.2.2.2.1)).trans hHeld.2.2.2.2.2.1, (hb.cell (p := ⟨(T + 2), 0, none⟩) (blt hHeld.2.2.2.2.2.2.1)).trans hHeld.2.2.2.2.2.2.1, (hb.cell (p := ⟨(T + 2), 1, none⟩) (blt hHeld.2.2.2.2.2.2.2.1)).trans hHeld.2.2.2.2.2.2.2.1, (hb.cell (p := ⟨B1, 0, none⟩) (blt hHeld.2.2.2.2.2.2.2.2.1)).trans hHeld.2.2.2.2.2.2.2.2.1, (hb.cell (p := ⟨B1, 1, none⟩) (blt hHeld.2.2.2.2.2.2.2.2.2.1)).trans hHeld.2.2.2.2.2.2.2.2.2.1, (hb.cell (p := ⟨B1, 2, none⟩) (blt hHeld.2.2.2.2.2.2.2.2.2.2.1)).trans hHeld.2.2.2.2.2.2.2.2.2.2.1, (hb.cell (p := ⟨B2, 0, none⟩) (blt hHeld.2.2.2.2.2.2.2.2.2.2.2.1)).trans hHeld.2.2.2.2.2.2.2.2.2.2.2.1, (hb.cell (p := ⟨B2, 1, none⟩) (blt hHeld.2.2.2.2.2.2.2.2.2.2.2.2.1)).trans hHeld.2.2.2.2.2.2.2.2.2.2.2.2.1, (hb.cell (p := ⟨B2, 2, none⟩) (blt hHeld.2.2.2.2.2.2.2.2.2.2.2.2.2)).trans hHeld.2.2.2.2.2.2.2.2.2.2.2.2.2⟩ (fun hHeld => ?_)
  clear hK K
  try simp only [Act.put, List.setIfInBounds_toArray, List.set_cons_zero, List.set_cons_succ]
  have PB7 := Lib.hid (btr PB6.out hb)
  have I7 := Lib.hid (I6.out.on hb)
  have J7 := Lib.hid (J6.out.on hb)
  have K7 := Lib.hid (K6.out.on hb)
  have M7 := Lib.hid (M6.out.on hb)
  clear hb PB6 I6 J6 K6 M6
  refine wpAnyH_ready (rs := [38]) (by kernel_rfl) (by simp) ?_
  refine AllReadyH.cons rfl (fun K hK => ?_) AllReadyH.nil
  go_simp
  refine (F7.out _ I7.out).mono ?_
  rintro e z8 ⟨rfl, hb⟩
  refine hK.out _ _ ⟨(hb.cell (p := ⟨T, 0, none⟩) (blt hHeld.1)).trans hHeld.1, (hb.cell (p := ⟨T, 1, none⟩) (blt hHeld.2.1)).trans hHeld.2.1, (hb.cell (p := ⟨T, 2, none⟩) (blt hHeld.2.2.1)).trans hHeld.2.2.1, (hb.cell (p := ⟨(T + 1), 0, none⟩) (blt hHeld.2.2.2.1)).trans hHeld.2.2.2.1, (hb.cell (p := ⟨(T + 1), 1, none⟩) (blt hHeld.2.2.2.2.1)).trans hHeld.2.2.2.2.1, (hb.cell (p := ⟨(T + 1), 2, none⟩) (blt hHeld.2.2.2.2.2.1)).trans hHeld.2.2.2.2.2.1, (hb.cell (p := ⟨(T + 2), 0, none⟩) (blt hHeld.2.2.2.2.2.2.1)).trans hHeld.2.2.2.2.2.2.1, (hb.cell (p := ⟨(T + 2), 1, none⟩) (blt hHeld.2.2.2.2.2.2.2.1)).trans hHeld.2.2.2.2.2.2.2.1, (hb.cell (p := ⟨B1, 0, none⟩) (blt hHeld.2.2.2.2.2.2.2.2.1)).trans hHeld.2.2.2.2.2.2.2.2.1, (hb.cell (p := ⟨B1, 1, none⟩) (blt hHeld.2.2.2.2.2.2.2.2.2.1)).trans hHeld.2.2.2.2.2.2.2.2.2.1, (hb.cell (p := ⟨B1, 2, none⟩) (blt hHeld.2.2.2.2.2.2.2.2.2.2.1)).trans hHeld.2.2.2.2.2.2.2.2.2.2.1, (hb.cell (p := ⟨B2, 0, none⟩) (blt hHeld.2.2.2.2.2.2.2.2.2.2.2.1)).trans hHeld.2.2.2.2.2.2.2.2.2.2.2.1, (hb.cell (p := ⟨B2, 1, none⟩) (blt hHeld.2.2.2.2.2.2.2.2.2.2.2.2.1)).trans hHeld.2.2.2.2.2.2.2.2.2.2.2.2.1, (hb.cell (p := ⟨B2, 2, none⟩) (blt hHeld.2.2.2.2.2.2.2.2.2.2.2.2.2)).trans hHeld.2.2.2.2.2.2.2.2.2.2.2.2.2⟩ (fun hHeld => ?_)
  clear hK K
  try simp only [Act.put, List.setIfInBounds_toArray, List.set_cons_zero, List.set_cons_succ]
  have PB8 := Lib.hid (btr PB7.out hb)
  have I8 := Lib.hid (I7.out.on hb)
  have J8 := Lib.hid (J7.out.on hb)
  have K8 := Lib.hid (K7.out.on hb)
  have M8 := Lib.hid (M7.out.on hb)
  clear hb PB7 I7 J7 K7 M7
  refine takeH (i := 39) (some 68) (v := ?_) rfl rfl (by kernel_rfl) (by kernel_rfl) (by kernel_rfl) (fun _ _ _ h => h) (Or.inl ⟨by rfl, ?hyte39⟩) hHeld ?restte39
  case hyte39 => (intro w hSw; (try dsimp only at hSw); go_simp; (try with_reducible rfl))
  try simp only [Act.put, List.setIfInBounds_toArray, List.set_cons_zero, List.set_cons_succ]
  refine takeH (i := 40) (some 69) (v := ?_) rfl rfl (by kernel_rfl) (by kernel_rfl) (by kernel_rfl) (fun _ _ _ h => h) (Or.inl ⟨by rfl, ?hyte40⟩) hHeld ?restte40
  case hyte40 => (intro w hSw; (try dsimp only at hSw); go_simp; (try with_reducible rfl))
  try simp only [Act.put, List.setIfInBounds_toArray, List.set_cons_zero, List.set_cons_succ]
  refine takeH (i := 41) (some 70) (v := ?_) rfl rfl (by kernel_rfl) (by kernel_rfl) (by kernel_rfl) (fun _ _ _ h => h) (Or.inl ⟨by rfl, ?hyte41⟩) hHeld ?restte41
  case hyte41 => (intro w hSw; (try dsimp only at hSw); go_simp; (try with_reducible rfl))
  try simp only [Act.put, List.setIfInBounds_toArray, List.set_cons_zero, List.set_cons_succ]
  refine takeH (i := 42) (some 71) (v := ?_) rfl rfl (by kernel_rfl) (by kernel_rfl) (by kernel_rfl) (fun _ _ _ h => h) (Or.inl ⟨by rfl, ?hyte42⟩) hHeld ?restte42
  case hyte42 => (intro w hSw; (try dsimp only at hSw); go_simp; (try with_reducible rfl))
  try simp only [Act.put, List.setIfInBounds_toArray, List.set_cons_zero, List.set_cons_succ]
  refine takeH (i := 44) (some 73) (v := ?_) rfl rfl (by kernel_rfl) (by kernel_rfl) (by kernel_rfl) (fun _ _ _ h => h) (Or.inl ⟨by rfl, ?hyte44⟩) hHeld ?restte44
  case hyte44 => (intro w hSw; (try dsimp only at hSw); go_simp; (try with_reducible rfl))
  try simp only [Act.put, List.setIfInBounds_toArray, List.set_cons_zero, List.set_cons_succ]
  refine wpAnyH_ready (rs := [43]) (by kernel_rfl) (by simp) ?_
  refine AllReadyH.cons rfl (fun K hK => ?_) AllReadyH.nil
  go_simp
  refine (F8.out _ I8.out).mono ?_
  rintro e z9 ⟨v8, rfl, ho8, hb⟩
  refine hK.out _ _ ⟨(hb.cell (p := ⟨T, 0, none⟩) (blt hHeld.1)).trans hHeld.1, (hb.cell (p := ⟨T, 1, none⟩) (blt hHeld.2.1)).trans hHeld.2.1, (hb.cell (p := ⟨T, 2, none⟩) (blt hHeld.2.2.1)).trans hHeld.2.2.1, (hb.cell (p := ⟨(T + 1), 0, none⟩) (blt hHeld.2.2.2.1)).trans hHeld.2.2.2.1, (hb.cell (p := ⟨(T + 1), 1, none⟩) (blt hHeld.2.2.2.2.1)).trans hHeld.2.2.2.2.1, (hb.cell (p := ⟨(T + 1), 2, none⟩) (blt hHeld.2.2.2.2.2.1)).trans hHeld.2.2.2.2.2.1, (hb.cell (p := ⟨(T + 2), 0, none⟩) (blt hHeld.2.2.2.2.2.2.1)).trans hHeld.2.2.2.2.2.2.1, (hb.cell (p := ⟨(T + 2), 1, none⟩) (blt hHeld.2.2.2.2.2.2.2.1)).trans hHeld.2.2.2.2.2.2.2.1, (hb.cell (p := ⟨B1, 0, none⟩) (blt hHeld.2.2.2.2.2.2.2.2.1)).trans hHeld.2.2.2.2.2.2.2.2.1, (hb.cell (p := ⟨B1, 1, none⟩) (blt hHeld.2.2.2.2.2.2.2.2.2.1)).trans hHeld.2.2.2.2.2.2.2.2.2.1, (hb.cell (p := ⟨B1, 2, none⟩) (blt hHeld.2.2.2.2.2.2.2.2.2.2.1)).trans hHeld.2.2.2.2.2.2.2.2.2.2.1, (hb.cell (p := ⟨B2, 0, none⟩) (blt hHeld.2.2.2.2.2.2.2.2.2.2.2.1)).trans hHeld.2.2.2.2.2.2.2.2.2.2.2.1, (hb.cell (p := ⟨B2, 1, none⟩) (blt hHeld.2.2.2.2.2.2.2.2.2.2.2.2.1)).trans hHeld.2.2.2.2.2.2.2.2.2.2.2.2.1, (hb.cell (p := ⟨B2, 2, none⟩) (blt hHeld.2.2.2.2.2.2.2.2.2.2.2.2.2)).trans hHeld.2.2.2.2.2.2.2.2.2.2.2.2.2⟩ (fun hHeld => ?_)
  clear hK K
  try simp only [Act.put, List.setIfInBounds_toArray, List.set_cons_zero, List.set_cons_succ]
  have PB9 := Lib.hid (btr PB8.out hb)
  have I9 := Lib.hid (I8.out.on hb)
  have J9 := Lib.hid (J8.out.on hb)
  have K9 := Lib.hid (K8.out.on hb)
  have M9 := Lib.hid (M8.out.on hb)
  obtain ⟨a8, e8, rfl, hv8⟩ := ho8.form
  have G8 := Lib.hid hv8
  clear ho8 hv8
  clear hb PB8 I8 J8 K8 M8
  refine wpAnyH_ready (rs := [45]) (by kernel_rfl) (by simp) ?_
  refine AllReadyH.cons rfl (fun K hK => ?_) AllReadyH.nil
  go_simp
  refine (F9.out _ I9.out).mono ?_
  rintro e z10 ⟨v9, rfl, ho9, hb⟩
  refine hK.out _ _ ⟨(hb.cell (p := ⟨T, 0, none⟩) (blt hHeld.1)).trans hHeld.1, (hb.cell (p := ⟨T, 1, none⟩) (blt hHeld.2.1)).trans hHeld.2.1, (hb.cell (p := ⟨T, 2, none⟩) (blt hHeld.2.2.1)).trans hHeld.2.2.1, (hb.cell (p := ⟨(T + 1), 0, none⟩) (blt hHeld.2.2.2.1)).trans hHeld.2.2.2.1, (hb.cell (p := ⟨(T + 1), 1, none⟩) (blt hHeld.2.2.2.2.1)).trans hHeld.2.2.2.2.1, (hb.cell (p := ⟨(T + 1), 2, none⟩) (blt hHeld.2.2.2.2.2.1)).trans hHeld.2.2.2.2.2.1, (hb.cell (p := ⟨(T + 2), 0, none⟩) (blt hHeld.2.2.2.2.2.2.1)).trans hHeld.2.2.2.2.2.2.1, (hb.cell (p := ⟨(T + 2), 1, none⟩) (blt hHeld.2.2.2.2.2.2.2.1)).trans hHeld.2.2.2.2.2.2.2.1, (hb.cell (p := ⟨B1, 0, none⟩) (blt hHeld.2.2.2.2.2.2.2.2.1)).trans hHeld.2.2.2.2.2.2.2.2.1, (hb.cell (p := ⟨B1, 1, none⟩) (blt hHeld.2.2.2.2.2.2.2.2.2.1)).trans hHeld.2.2.2.2.2.2.2.2.2.1, (hb.cell (p := ⟨B1, 2, none⟩) (blt hHeld.2.2.2.2.2.2.2.2.2.2.1)).trans hHeld.2.2.2.2.2.2.2.2.2.2.1, (hb.cell (p := ⟨B2, 0, none⟩) (blt hHeld.2.2.2.2.2.2.2.2.2.2.2.1)).trans hHeld.2.2.2.2.2.2.2.2.2.2.2.1, (hb.cell (p := ⟨B2, 1, none⟩) (blt hHeld.2.2.2.2.2.2.2.2.2.2.2.2.1)).trans hHeld.2.2.2.2.2.2.2.2.2.2.2.2.1, (hb.cell (p := ⟨B2, 2, none⟩) (blt hHeld.2.2.2.2.2.2.2.2.2.2.2.2.2)).trans hHeld.2.2.2.2.2.2.2.2.2.2.2.2.2⟩ (fun hHeld => ?_)
  clear hK K
  try simp only [Act.put, List.setIfInBounds_toArray, List.set_cons_zero, List.set_cons_succ]
  have PB10 := Lib.hid (btr PB9.out hb)
  have I10 := Lib.hid (I9.out.on hb)
  have J10 := Lib.hid (J9.out.on hb)
  have K10 := Lib.hid (K9.out.on hb)
  have M10 := Lib.hid (M9.out.on hb)
  obtain ⟨a9, e9, rfl, hv9⟩ := ho9.form
  have G9 := Lib.hid hv9
  have G7 := Lib.hid ((G8.out.below hb).mono hb.size)
  clear ho9 hv9 G8
  clear hb PB9 I9 J9 K9 M9
  refine wpAnyH_ready (rs := [46]) (by kernel_rfl) (by simp) ?_
  refine AllReadyH.cons rfl (fun K hK => ?_) AllReadyH.nil
  go_simp
  refine (F10.out _ _ _ _ _ G7.out G9.out).mono ?_
  rintro e z11 ⟨rfl, hb⟩
  refine hK.out _ _ ⟨(hb.cell (p := ⟨T, 0, none⟩) (blt hHeld.1)).trans hHeld.1, (hb.cell (p := ⟨T, 1, none⟩) (blt hHeld.2.1)).trans hHeld.2.1, (hb.cell (p := ⟨T, 2, none⟩) (blt hHeld.2.2.1)).trans hHeld.2.2.1, (hb.cell (p := ⟨(T + 1), 0, none⟩) (blt hHeld.2.2.2.1)).trans hHeld.2.2.2.1, (hb.cell (p := ⟨(T + 1), 1, none⟩) (blt hHeld.2.2.2.2.1)).trans hHeld.2.2.2.2.1, (hb.cell (p := ⟨(T + 1), 2, none⟩) (blt hHeld.2.2.2.2.2.1)).trans hHeld.2.2.2.2.2.1, (hb.cell (p := ⟨(T + 2), 0, none⟩) (blt hHeld.2.2.2.2.2.2.1)).trans hHeld.2.2.2.2.2.2.1, (hb.cell (p := ⟨(T + 2), 1, none⟩) (blt hHeld.2.2.2.2.2.2.2.1)).trans hHeld.2.2.2.2.2.2.2.1, (hb.cell (p := ⟨B1, 0, none⟩) (blt hHeld.2.2.2.2.2.2.2.2.1)).trans hHeld.2.2.2.2.2.2.2.2.1, (hb.cell (p := ⟨B1, 1, none⟩) (blt hHeld.2.2.2.2.2.2.2.2.2.1)).trans hHeld.2.2.2.2.2.2.2.2.2.1, (hb.cell (p := ⟨B1, 2, none⟩) (blt hHeld.2.2.2.2.2.2.2.2.2.2.1)).trans hHeld.2.2.2.2.2.2.2.2.2.2.1, (hb.cell (p := ⟨B2, 0, none⟩) (blt hHeld.2.2.2.2.2.2.2.2.2.2.2.1)).trans hHeld.2.2.2.2.2.2.2.2.2.2.2.1, (hb.cell (p := ⟨B2, 1, none⟩) (blt hHeld.2.2.2.2.2.2.2.2.2.2.2.2.1)).trans hHeld.2.2.2.2.2.2.2.2.2.2.2.2.1, (hb.cell (p := ⟨B2, 2, none⟩) (blt hHeld.2.2.2.2.2.2.2.2.2.2.2.2.2)).trans hHeld.2.2.2.2.2.2.2.2.2.2.2.2.2⟩ (fun hHeld => ?_)
  clear hK K
  try simp only [Act.put, List.setIfInBounds_toArray, List.set_cons_zero, List.set_cons_succ]
  have PB11 := Lib.hid (btr PB10.out hb)
  have I11 := Lib.hid (I10.out.on hb)
  have J11 := Lib.hid (J10.out.on hb)
  have K11 := Lib.hid (K10.out.on hb)
  have M11 := Lib.hid (M10.out.on hb)
  clear hb PB10 I10 J10 K10 M10
  refine takeH (i := 47) (some 76) (v := ?_) rfl rfl (by kernel_rfl) (by kernel_rfl) (by kernel_rfl) (fun _ _ _ h => h) (Or.inl ⟨by rfl, ?hyte47⟩) hHeld ?restte47
  case hyte47 => (intro w hSw; (try dsimp only at hSw); go_simp; (try with_reducible rfl))
  try simp only [Act.put, List.setIfInBounds_toArray, List.set_cons_zero, List.set_cons_succ]
  refine takeH (i := 48) (some 8) (v := ?_) rfl rfl (by kernel_rfl) (by kernel_rfl) (by kernel_rfl) (fun _ _ _ h => h) (Or.inl ⟨by rfl, ?hyte48⟩) hHeld ?restte48
  case hyte48 => (intro w hSw; (try dsimp only at hSw); go_simp; (try with_reducible rfl))
  try simp only [Act.put, List.setIfInBounds_toArray, List.set_cons_zero, List.set_cons_succ]
  refine wpAnyH_done (by kernel_rfl) ?_ _
  go_wp2_with fail
  go_ret
  exact ⟨rfl, PB11.out⟩
end Go.Proofs.Ytbalebnhjpjhgaa.L9
