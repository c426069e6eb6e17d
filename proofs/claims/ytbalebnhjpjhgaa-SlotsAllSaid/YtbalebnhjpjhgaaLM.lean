/- wicketgatelaw09.SlotsAll: the walk. -/
import Derived.Test.YtbalebnhjpjhgaaLL
import Derived.Deep.CutRange
namespace Go.Proofs.Ytbalebnhjpjhgaa
open Go.RowKit

set_option maxRecDepth 100000 in
set_option maxHeartbeats 1000000 in
theorem all_no (a1 a2 a3 : Option Addr) (c1 c2 c3 L1 L2 L3 m1 m2 m3 : Nat) (s : Sl) (p g : Int) (h1 : s.g.length = L1) (h2 : s.u.length = L2) (h3 : s.f.length = L3) (hm : m1 = min L1 66 ∧ m2 = min L2 66 ∧ m3 = min L3 66) (hk : L1 ≤ c1 ∧ L2 ≤ c2 ∧ L3 ≤ c3) (w : World) (h : SlotsAt w.heap.size w a1 a2 a3 s.g s.u s.f) (hr : s.cut.right = false) :
    Calls Try.prog 7 #[.agg #[.slice a1 L1 c1, .slice a2 L2 c2, .slice a3 L3 c3], .agg #[.int .i64 p, .int .i64 g]] w fun e w' => e = .returned (.bool true) ∧ Below w.heap.size w w' := by
  obtain ⟨l1, l2, l3⟩ := cut_len s h1 h2 h3 hm
  have R := Lib.hid (fun W hW => right2_any a1 a2 a3 c1 c2 c3 m1 m2 m3 s.cut l1 l2 l3 W hW)
  have Q := Lib.hid (fun W hW => valid_any a1 a2 a3 c1 c2 c3 m1 m2 m3 s.cut p g l1 l2 l3 W hW)
  have A := Lib.hid (fun W hW => all_any a1 a2 a3 c1 c2 c3 m1 m2 m3 s.cut l1 l2 l3 W hW)
  have HM := Lib.hid hm
  have HK := Lib.hid hk
  have HS0 := Lib.hid h
  rw [hr] at R
  rw [show s.cut.valid (p, g) = false by unfold Sl.valid; rw [hr]; rfl] at Q
  rw [show s.cut.all = [] by unfold Sl.all; rw [hr]; rfl] at A
  clear h h1 h2 h3 hm hk l1 l2 l3 hr
  go_enter Try.func7, Try.ntmps7
  go_wp2_with fail
  refine (shown_any _).mono ?_; rintro e w1 ⟨rfl, hb1⟩
  have hv1 := (((VarS.new w 25 a1 a2 a3 L1 L2 L3 c1 c2 c3).on (Below.refl _ (w.alloc (.cells #[.slice a1 L1 c1, .slice a2 L2 c2, .slice a3 L3 c3] 25)) |> fun h => h.alloc (Nat.le_refl _) (.cells #[.int .i64 p, .int .i64 g] 27)) (by simp)).on hb1 (by simp; omega))
  have hw1 := btr (bal (bal (Below.refl w.heap.size w) (.cells #[.slice a1 L1 c1, .slice a2 L2 c2, .slice a3 L3 c3] 25)) (.cells #[.int .i64 p, .int .i64 g] 27)) hb1
  have y0 : w1.cell? ⟨w.heap.size + 1, 0, none⟩ = some (.int .i64 p) := (hb1.cell (p := ⟨w.heap.size + 1, 0, none⟩) (by simp)).trans (by go_simp)
  have y1 : w1.cell? ⟨w.heap.size + 1, 1, none⟩ = some (.int .i64 g) := (hb1.cell (p := ⟨w.heap.size + 1, 1, none⟩) (by simp)).trans (by go_simp)
  have hz1 := hb1.size
  simp only [World.size_alloc] at hz1
  obtain ⟨e0, e1, e2, f0, f1, f2⟩ := id hv1
  have HV1 := Lib.hid hv1
  have HW1 := Lib.hid hw1
  clear hb1 hv1 hw1
  go_wp2_with fail
  refine (cut_raw a1 a2 a3 c1 c2 c3 L1 L2 L3 m1 m2 m3 HM.out.1 HM.out.2.1 HM.out.2.2 HK.out.1 HK.out.2.1 HK.out.2.2 _).mono ?_; rintro e w2 ⟨rfl, hb2⟩
  have hv2 := HV1.out.on hb2 (show w.heap.size < w1.heap.size by omega)
  have hw2 := btr HW1.out hb2
  have z0 := (hb2.cell (p := ⟨w.heap.size + 1, 0, none⟩) (show w.heap.size + 1 < w1.heap.size by omega)).trans y0
  have z1 := (hb2.cell (p := ⟨w.heap.size + 1, 1, none⟩) (show w.heap.size + 1 < w1.heap.size by omega)).trans y1
  have hz2 := hb2.size
  clear e0 e1 e2 f0 f1 f2 y0 y1 hb2
  obtain ⟨e0, e1, e2, f0, f1, f2⟩ := id hv2
  obtain ⟨V, hV⟩ : ∃ V, V = put3 w2 w.heap.size (.slice a1 m1 c1) (.slice a2 m2 c2) (.slice a3 m3 c3) := ⟨_, rfl⟩
  have HV := Lib.hid (show VarS w.heap.size a1 a2 a3 m1 m2 m3 c1 c2 c3 V by rw [hV]; exact hv2.put a1 a2 a3 m1 m2 m3 c1 c2 c3)
  have hSz : V.heap.size = w2.heap.size := by rw [hV]; exact put3_size _ _ _ _ _
  have HS := Lib.hid (show SlotsAt V.heap.size V a1 a2 a3 s.cut.g s.cut.u s.cut.f by rw [hSz, hV]; exact (HS0.out.cut.on hw2).put hv2 a1 a2 a3 m1 m2 m3 c1 c2 c3)
  have HB := Lib.hid (show Below w.heap.size w V by rw [hV]; exact put3_below hw2 (Nat.le_refl _) _ _ _)
  have g0 : V.cell? ⟨w.heap.size + 1, 0, none⟩ = some (.int .i64 p) := by rw [hV]; exact (set_other _ _ (by omega)).trans ((set_other _ _ (by omega)).trans ((set_other _ _ (by omega)).trans z0))
  have g1 : V.cell? ⟨w.heap.size + 1, 1, none⟩ = some (.int .i64 g) := by rw [hV]; exact (set_other _ _ (by omega)).trans ((set_other _ _ (by omega)).trans ((set_other _ _ (by omega)).trans z1))
  have hVz : w.heap.size + 1 < V.heap.size := by omega
  clear hv2 hw2
  go_wp2_with fail
  unfold put3 at hV
  rw [← hV]
  clear hV e0 e1 e2 f0 f1 f2 z0 z1 hz1 hz2 hSz HV1 HW1 HM HK HS0
  obtain ⟨e0, e1, e2, f0, f1, f2⟩ := id HV.out
  refine (A.out _ HS.out).mono ?_; rintro e w3 ⟨v, rfl, ho, hb3⟩
  obtain ⟨cap, av, rfl⟩ := ho.slice
  have V3 := Lib.hid (HV.out.on hb3 HV.out.lt)
  have S3 := Lib.hid (HS.out.on hb3)
  have B3 := Lib.hid (btr HB.out hb3)
  have y0 := (hb3.cell (p := ⟨w.heap.size + 1, 0, none⟩) hVz).trans g0
  have y1 := (hb3.cell (p := ⟨w.heap.size + 1, 1, none⟩) hVz).trans g1
  clear e0 e1 e2 f0 f1 f2 hb3 HV HS HB A g0 g1 hVz ho
  obtain ⟨e0, e1, e2, f0, f1, f2⟩ := id V3.out
  have hX3 := V3.out.lt
  go_wp2_with fail
  go_loop [8, 7] (fun i b => i = .int .i64 0 ∧ b = .bool false) (fun _ _ => 0)
  case atStart => exact ⟨rfl, rfl⟩
  case round =>
    obtain ⟨rfl, rfl⟩ := hrel
    go_wp2_with fail
    refine (Q.out _ S3.out).mono ?_; rintro e w4 ⟨rfl, hb4⟩
    obtain ⟨hc4, hf4⟩ := bcell hb4
    have S4 := Lib.hid (S3.out.on hb4)
    have B4 := Lib.hid (btr B3.out hb4)
    clear hb4
    go_wp2_with fail
    refine (R.out _ S4.out).mono ?_; rintro e w5 ⟨rfl, hb5⟩
    go_wp2
    go_ret
    exact ⟨rfl, btr B4.out hb5⟩

set_option maxRecDepth 100000 in
set_option maxHeartbeats 4000000 in
theorem all_yes (a1 a2 a3 : Option Addr) (c1 c2 c3 L1 L2 L3 m1 m2 m3 : Nat) (s : Sl) (p g : Int) (h1 : s.g.length = L1) (h2 : s.u.length = L2) (h3 : s.f.length = L3) (hm : m1 = min L1 66 ∧ m2 = min L2 66 ∧ m3 = min L3 66) (hk : L1 ≤ c1 ∧ L2 ≤ c2 ∧ L3 ≤ c3) (w : World) (h : SlotsAt w.heap.size w a1 a2 a3 s.g s.u s.f) (hr : s.cut.right = true) :
    Calls Try.prog 7 #[.agg #[.slice a1 L1 c1, .slice a2 L2 c2, .slice a3 L3 c3], .agg #[.int .i64 p, .int .i64 g]] w fun e w' => e = .returned (.bool true) ∧ Below w.heap.size w w' := by
  obtain ⟨l1, l2, l3⟩ := cut_len s h1 h2 h3 hm
  have R := Lib.hid (fun W hW => right2_any a1 a2 a3 c1 c2 c3 m1 m2 m3 s.cut l1 l2 l3 W hW)
  have Q := Lib.hid (fun W hW => valid_any a1 a2 a3 c1 c2 c3 m1 m2 m3 s.cut p g l1 l2 l3 W hW)
  have A := Lib.hid (fun W hW => all_any a1 a2 a3 c1 c2 c3 m1 m2 m3 s.cut l1 l2 l3 W hW)
  have HM := Lib.hid hm
  have HK := Lib.hid hk
  have HS0 := Lib.hid h
  rw [hr] at R
  rw [valid_mem hr] at Q
  obtain ⟨l, hl⟩ : ∃ l, l = s.cut.all := ⟨_, rfl⟩
  have hn : l.length ≤ 1000 := by rw [hl]; exact all_le hr
  have hcnt := all_count hr
  have hm64 : m1 ≤ 64 := by have := ((right_iff _).1 hr).l2; omega
  rw [← hl, l1, l3] at hcnt
  have HSort := Lib.hid (fun i a b ha hb => all_sorted s.cut (i := i) (a := a) (b := b) ha hb)
  rw [← hl] at HSort Q A
  have D := Lib.hid (fun (x : Int × Int) W hW => valid_any a1 a2 a3 c1 c2 c3 m1 m2 m3 s.cut x.1 x.2 l1 l2 l3 W hW)
  have DV := Lib.hid (fun x => valid_mem hr x)
  rw [← hl] at DV
  clear h h1 h2 h3 hm hk l1 l2 l3 hr hl
  go_enter Try.func7, Try.ntmps7
  go_wp2_with fail
  refine (shown_any _).mono ?_; rintro e w1 ⟨rfl, hb1⟩
  have hv1 := (((VarS.new w 25 a1 a2 a3 L1 L2 L3 c1 c2 c3).on (Below.refl _ (w.alloc (.cells #[.slice a1 L1 c1, .slice a2 L2 c2, .slice a3 L3 c3] 25)) |> fun h => h.alloc (Nat.le_refl _) (.cells #[.int .i64 p, .int .i64 g] 27)) (by simp)).on hb1 (by simp; omega))
  have hw1 := btr (bal (bal (Below.refl w.heap.size w) (.cells #[.slice a1 L1 c1, .slice a2 L2 c2, .slice a3 L3 c3] 25)) (.cells #[.int .i64 p, .int .i64 g] 27)) hb1
  have y0 : w1.cell? ⟨w.heap.size + 1, 0, none⟩ = some (.int .i64 p) := (hb1.cell (p := ⟨w.heap.size + 1, 0, none⟩) (by simp)).trans (by go_simp)
  have y1 : w1.cell? ⟨w.heap.size + 1, 1, none⟩ = some (.int .i64 g) := (hb1.cell (p := ⟨w.heap.size + 1, 1, none⟩) (by simp)).trans (by go_simp)
  have hz1 := hb1.size
  simp only [World.size_alloc] at hz1
  obtain ⟨e0, e1, e2, f0, f1, f2⟩ := id hv1
  have HV1 := Lib.hid hv1
  have HW1 := Lib.hid hw1
  clear hb1 hv1 hw1
  go_wp2_with fail
  refine (cut_raw a1 a2 a3 c1 c2 c3 L1 L2 L3 m1 m2 m3 HM.out.1 HM.out.2.1 HM.out.2.2 HK.out.1 HK.out.2.1 HK.out.2.2 _).mono ?_; rintro e w2 ⟨rfl, hb2⟩
  have hv2 := HV1.out.on hb2 (show w.heap.size < w1.heap.size by omega)
  have hw2 := btr HW1.out hb2
  have z0 := (hb2.cell (p := ⟨w.heap.size + 1, 0, none⟩) (show w.heap.size + 1 < w1.heap.size by omega)).trans y0
  have z1 := (hb2.cell (p := ⟨w.heap.size + 1, 1, none⟩) (show w.heap.size + 1 < w1.heap.size by omega)).trans y1
  have hz2 := hb2.size
  clear e0 e1 e2 f0 f1 f2 y0 y1 hb2
  obtain ⟨e0, e1, e2, f0, f1, f2⟩ := id hv2
  obtain ⟨V, hV⟩ : ∃ V, V = put3 w2 w.heap.size (.slice a1 m1 c1) (.slice a2 m2 c2) (.slice a3 m3 c3) := ⟨_, rfl⟩
  have HV := Lib.hid (show VarS w.heap.size a1 a2 a3 m1 m2 m3 c1 c2 c3 V by rw [hV]; exact hv2.put a1 a2 a3 m1 m2 m3 c1 c2 c3)
  have hSz : V.heap.size = w2.heap.size := by rw [hV]; exact put3_size _ _ _ _ _
  have HS := Lib.hid (show SlotsAt V.heap.size V a1 a2 a3 s.cut.g s.cut.u s.cut.f by rw [hSz, hV]; exact (HS0.out.cut.on hw2).put hv2 a1 a2 a3 m1 m2 m3 c1 c2 c3)
  have HB := Lib.hid (show Below w.heap.size w V by rw [hV]; exact put3_below hw2 (Nat.le_refl _) _ _ _)
  have g0 : V.cell? ⟨w.heap.size + 1, 0, none⟩ = some (.int .i64 p) := by rw [hV]; exact (set_other _ _ (by omega)).trans ((set_other _ _ (by omega)).trans ((set_other _ _ (by omega)).trans z0))
  have g1 : V.cell? ⟨w.heap.size + 1, 1, none⟩ = some (.int .i64 g) := by rw [hV]; exact (set_other _ _ (by omega)).trans ((set_other _ _ (by omega)).trans ((set_other _ _ (by omega)).trans z1))
  have hVz : w.heap.size + 1 < V.heap.size := by omega
  clear hv2 hw2
  go_wp2_with fail
  unfold put3 at hV
  rw [← hV]
  clear hV e0 e1 e2 f0 f1 f2 z0 z1 hz1 hz2 hSz HV1 HW1 HM HK HS0
  obtain ⟨e0, e1, e2, f0, f1, f2⟩ := id HV.out
  refine (A.out _ HS.out).mono ?_; rintro e w3 ⟨v, rfl, ho, hb3⟩
  obtain ⟨cap, av, hv⟩ := ho.slice
  subst hv
  have HC := Lib.hid (show ∀ i x, l[i]? = some x → ∃ G, av = some ⟨G, 0, none⟩ ∧ G < w3.heap.size ∧ w3.cell? ⟨G, i * 2, none⟩ = some (.int .i64 x.1) ∧ w3.cell? ⟨G, i * 2 + 1, none⟩ = some (.int .i64 x.2) from fun i x hx => by
    obtain ⟨G, cap', e, hG, hc⟩ := ho.cells (Nat.lt_of_le_of_lt (Nat.zero_le i) (List.getElem?_eq_some_iff.1 hx).1)
    simp only [Value.slice.injEq] at e
    exact ⟨G, e.1, hG, hc i x hx⟩)
  have V3 := Lib.hid (HV.out.on hb3 HV.out.lt)
  have S3 := Lib.hid (HS.out.on hb3)
  have B3 := Lib.hid (btr HB.out hb3)
  have Y0 := Lib.hid ((hb3.cell (p := ⟨w.heap.size + 1, 0, none⟩) hVz).trans g0)
  have Y1 := Lib.hid ((hb3.cell (p := ⟨w.heap.size + 1, 1, none⟩) hVz).trans g1)
  have hX3 := V3.out.lt
  have hY3 := blt Y0.out
  clear e0 e1 e2 f0 f1 f2 hb3 HV HS HB A g0 g1 hVz ho
  generalize hn' : l.length = n at *
  have HN := Lib.hid hn'
  clear hn'
  go_wp2_with fail
  generalize hXe : w.heap.size = X at *
  go_loopw [8, 7] (fun i b wr => ∃ k : Nat, k ≤ n ∧ i = .int .i64 k ∧ b = .bool (decide ((p, g) ∈ l.take k)) ∧ Below w3.heap.size w3 wr) (fun i _ _ => n - (intOf i).toNat)
  case atStart => exact ⟨0, Nat.zero_le _, rfl, by simp, Below.refl _ _⟩
  case round =>
    obtain ⟨k, hk, rfl, rfl, hbel⟩ := hrel
    have HBel := Lib.hid hbel
    have e0 := (hbel.cell (p := ⟨X, 0, none⟩) hX3).trans V3.out.e0
    have e1 := (hbel.cell (p := ⟨X, 1, none⟩) hX3).trans V3.out.e1
    have e2 := (hbel.cell (p := ⟨X, 2, none⟩) hX3).trans V3.out.e2
    have y0 := (hbel.cell (p := ⟨X + 1, 0, none⟩) hY3).trans Y0.out
    have y1 := (hbel.cell (p := ⟨X + 1, 1, none⟩) hY3).trans Y1.out
    by_cases hlt : k < n
    · have hkl : k < l.length := by rw [HN.out]; exact hlt
      obtain ⟨⟨x1, x2⟩, hx⟩ : ∃ x, l[k]? = some x := ⟨_, List.getElem?_eq_getElem hkl⟩
      obtain ⟨G, rfl, hG, q0, q1⟩ := HC.out k _ hx
      have c0 := (hbel.cell (p := ⟨G, k * 2, none⟩) hG).trans q0
      have c1' := (hbel.cell (p := ⟨G, k * 2 + 1, none⟩) hG).trans q1
      simp only at c0 c1'
      have hT : decide ((p, g) ∈ l.take (k + 1)) = (decide ((p, g) ∈ l.take k) || decide (x1 = p ∧ x2 = g)) := by
        obtain ⟨_, ex⟩ := List.getElem?_eq_some_iff.1 hx
        rw [List.take_succ_eq_append_getElem hkl, ex, Bool.eq_iff_iff]
        simp
        constructor <;> (rintro (h | ⟨rfl, rfl⟩) <;> first | exact .inl h | exact .inr ⟨rfl, rfl⟩)
      have hlt' : (k : Int) < (n : Int) := by omega
      have HX := Lib.hid hx
      have HQ0 := Lib.hid q0
      have HQ1 := Lib.hid q1
      have HT := Lib.hid hT
      clear hx q0 q1 hT
      go_upto_region 8 with fail
      go_cut [7] from 20 to 53 (fun v wx => v = .bool (decide ((p, g) ∈ l.take (k + 1))) ∧ Below w3.heap.size w3 wx)
      case first =>
        generalize hb : decide ((p, g) ∈ l.take k) = b at *
        have HTb := Lib.hid (show decide ((p, g) ∈ l.take (k + 1)) = (b || decide (x1 = p ∧ x2 = g)) from HT.out)
        clear hb
        cases b with
        | true =>
          go_quiet (fail)
          go_wp2_with fail
          go_meet
          exact ⟨by rw [HTb.out]; rfl, below_drewN HBel.out _⟩
        | false =>
          by_cases hx1 : x1 = p
          · subst hx1
            by_cases hx2 : x2 = g
            · subst hx2
              go_quiet (fail)
              go_wp2_with fail
              go_meet
              exact ⟨by rw [HTb.out]; simp, below_drewN HBel.out _⟩
            · go_quiet (fail)
              go_wp2_with fail
              go_meet
              exact ⟨by rw [HTb.out]; simp [hx2], below_drewN HBel.out _⟩
          · go_quiet (fail)
            go_wp2_with fail
            go_meet
            exact ⟨by rw [HTb.out]; simp [hx1], below_drewN HBel.out _⟩
      case rest =>
        obtain ⟨hv, hbel2⟩ := hcut
        subst hv
        generalize hbb : decide ((p, g) ∈ l.take (k + 1)) = bb
        have HBB := Lib.hid hbb
        clear e0 e1 e2 c0 c1' y0 y1 hbel HT hbb
        go_upto_region 9 with fail
        generalize wc = U at *
        have e0 := (hbel2.cell (p := ⟨X, 0, none⟩) hX3).trans V3.out.e0
        have e1 := (hbel2.cell (p := ⟨X, 1, none⟩) hX3).trans V3.out.e1
        have e2 := (hbel2.cell (p := ⟨X, 2, none⟩) hX3).trans V3.out.e2
        have c0 := (hbel2.cell (p := ⟨G, k * 2, none⟩) hG).trans HQ0.out
        have c1' := (hbel2.cell (p := ⟨G, k * 2 + 1, none⟩) hG).trans HQ1.out
        simp only at c0 c1'
        have lX : X < U.heap.size := Nat.lt_of_lt_of_le hX3 hbel2.size
        have lG : G < U.heap.size := Nat.lt_of_lt_of_le hG hbel2.size
        have hvt : s.cut.valid (x1, x2) = true := by rw [DV.out]; exact decide_eq_true (List.mem_of_getElem? HX.out)
        have D9 := Lib.hid (fun W hW => D.out (x1, x2) W hW)
        rw [hvt] at D9
        have HB2 := Lib.hid hbel2
        have D8 := Lib.hid (fun W (hb : Below U.heap.size U W) => onU (U := U) hb (D9.out W ((S3.out.on HB2.out).on hb)))
        have hUU : Below U.heap.size U U := Below.refl _ _
        clear hvt hbel2
        rcases Nat.eq_zero_or_pos k with hk0 | hpos
        · subst hk0
          simp only [Nat.zero_mul, Nat.zero_add] at c0 c1'
          have MK := Lib.hid (show ∀ w', Below U.heap.size U w' → w'.cell? ⟨X, 0, none⟩ = some (.slice a1 m1 c1) ∧ w'.cell? ⟨X, 1, none⟩ = some (.slice a2 m2 c2) ∧ w'.cell? ⟨X, 2, none⟩ = some (.slice a3 m3 c3) ∧ w'.cell? ⟨G, 0, none⟩ = some (.int .i64 x1) ∧ w'.cell? ⟨G, 1, none⟩ = some (.int .i64 x2) ∧ Below U.heap.size U w' from fun W hb => ⟨(hb.cell (p := ⟨X, 0, none⟩) lX).trans e0, (hb.cell (p := ⟨X, 1, none⟩) lX).trans e1, (hb.cell (p := ⟨X, 2, none⟩) lX).trans e2, (hb.cell (p := ⟨G, 0, none⟩) lG).trans c0, (hb.cell (p := ⟨G, 1, none⟩) lG).trans c1', hb⟩)
          refine wp_region_held_drew (S := (fun w' => w'.cell? ⟨X, 0, none⟩ = some (.slice a1 m1 c1) ∧ w'.cell? ⟨X, 1, none⟩ = some (.slice a2 m2 c2) ∧ w'.cell? ⟨X, 2, none⟩ = some (.slice a3 m3 c3) ∧ w'.cell? ⟨G, 0, none⟩ = some (.int .i64 x1) ∧ w'.cell? ⟨G, 1, none⟩ = some (.int .i64 x2) ∧ Below U.heap.size U w')) (by kernel_rfl) ?_ (fun hHeld => ?_)
          · (first | exact MK.out _ (by with_reducible assumption) | exact MK.out _ (below_drew (by with_reducible assumption)))
          refine takeH (i := 0) (some 29) (v := ?_) rfl rfl (by kernel_rfl) (by kernel_rfl) (by kernel_rfl) (fun _ _ _ h => h) (Or.inl ⟨by rfl, ?hy0⟩) hHeld ?rest0
          case hy0 => (intro w hSw; (try dsimp only at hSw); go_simp; (try with_reducible rfl))
          try simp only [Act.put, List.setIfInBounds_toArray, List.set_cons_zero, List.set_cons_succ]
          refine takeH (i := 1) (some 30) (v := ?_) rfl rfl (by kernel_rfl) (by kernel_rfl) (by kernel_rfl) (fun _ _ _ h => h) (Or.inl ⟨by rfl, ?hy1⟩) hHeld ?rest1
          case hy1 => (intro w hSw; (try dsimp only at hSw); go_simp; (try with_reducible rfl))
          try simp only [Act.put, List.setIfInBounds_toArray, List.set_cons_zero, List.set_cons_succ]
          refine takeH (i := 2) (some 31) (v := ?_) rfl rfl (by kernel_rfl) (by kernel_rfl) (by kernel_rfl) (fun _ _ _ h => h) (Or.inl ⟨by rfl, ?hy2⟩) hHeld ?rest2
          case hy2 => (intro w hSw; (try dsimp only at hSw); go_simp; (try with_reducible rfl))
          try simp only [Act.put, List.setIfInBounds_toArray, List.set_cons_zero, List.set_cons_succ]
          refine takeH (i := 3) (some 32) (v := ?_) rfl rfl (by kernel_rfl) (by kernel_rfl) (by kernel_rfl) (fun _ _ _ h => h) (Or.inl ⟨by rfl, ?hy3⟩) hHeld ?rest3
          case hy3 => (intro w hSw; (try dsimp only at hSw); go_simp; (try with_reducible rfl))
          try simp only [Act.put, List.setIfInBounds_toArray, List.set_cons_zero, List.set_cons_succ]
          refine takeH (i := 4) (some 33) (v := ?_) rfl rfl (by kernel_rfl) (by kernel_rfl) (by kernel_rfl) (fun _ _ _ h => h) (Or.inl ⟨by rfl, ?hy4⟩) hHeld ?rest4
          case hy4 => (intro w hSw; (try dsimp only at hSw); go_simp; (try with_reducible rfl))
          try simp only [Act.put, List.setIfInBounds_toArray, List.set_cons_zero, List.set_cons_succ]
          refine wpAnyH_ready (rs := [5]) (by kernel_rfl) (by simp) ?_
          refine AllReadyH.cons rfl (fun K hK => ?_) AllReadyH.nil
          go_simp
          with_reducible refine (D8.out _ ?_).mono ?_; (first | with_reducible assumption | exact hHeld.2.2.2.2.2); rintro e wn ⟨rfl, sB⟩; clear hHeld
          refine hK.out _ _ ?_ (fun hHeld => ?_)
          · (first | exact MK.out _ (by with_reducible assumption) | exact MK.out _ (below_drew (by with_reducible assumption)))
          clear hK K
          try simp only [Act.put, List.setIfInBounds_toArray, List.set_cons_zero, List.set_cons_succ]
          refine takeH (i := 6) (some 35) (v := ?_) rfl rfl (by kernel_rfl) (by kernel_rfl) (by kernel_rfl) (fun _ _ _ h => h) (Or.inl ⟨by rfl, ?hy6⟩) hHeld ?rest6
          case hy6 => (intro w hSw; (try dsimp only at hSw); go_simp; (try with_reducible rfl))
          try simp only [Act.put, List.setIfInBounds_toArray, List.set_cons_zero, List.set_cons_succ]
          refine takeH (i := 7) (some 36) (v := ?_) rfl rfl (by kernel_rfl) (by kernel_rfl) (by kernel_rfl) (fun _ _ _ h => h) (Or.inl ⟨by rfl, ?hy7⟩) hHeld ?rest7
          case hy7 => (intro w hSw; (try dsimp only at hSw); go_simp; (try with_reducible rfl))
          try simp only [Act.put, List.setIfInBounds_toArray, List.set_cons_zero, List.set_cons_succ]
          refine takeH (i := 8) (some 37) (v := ?_) rfl rfl (by kernel_rfl) (by kernel_rfl) (by kernel_rfl) (fun _ _ _ h => h) (Or.inl ⟨by rfl, ?hy8⟩) hHeld ?rest8
          case hy8 => (intro w hSw; (try dsimp only at hSw); go_simp; (try with_reducible rfl))
          try simp only [Act.put, List.setIfInBounds_toArray, List.set_cons_zero, List.set_cons_succ]
          refine takeH (i := 9) (some 38) (v := ?_) rfl rfl (by kernel_rfl) (by kernel_rfl) (by kernel_rfl) (fun _ _ _ h => h) (Or.inl ⟨by rfl, ?hy9⟩) hHeld ?rest9
          case hy9 => (intro w hSw; (try dsimp only at hSw); go_simp; (try with_reducible rfl))
          try simp only [Act.put, List.setIfInBounds_toArray, List.set_cons_zero, List.set_cons_succ]
          refine takeH (i := 10) (some 39) (v := ?_) rfl rfl (by kernel_rfl) (by kernel_rfl) (by kernel_rfl) (fun _ _ _ h => h) (Or.inl ⟨by rfl, ?hy10⟩) hHeld ?rest10
          case hy10 => (intro w hSw; (try dsimp only at hSw); go_simp; (try with_reducible rfl))
          try simp only [Act.put, List.setIfInBounds_toArray, List.set_cons_zero, List.set_cons_succ]
          refine takeH (i := 11) (some 40) (v := undef) rfl rfl (by kernel_rfl) (by kernel_rfl) (by kernel_rfl) (fun _ _ _ h => h) (Or.inr ⟨by rfl, rfl⟩) hHeld ?_
          try simp only [Act.put, List.setIfInBounds_toArray, List.set_cons_zero, List.set_cons_succ]
          refine takeH (i := 12) (some 41) (v := undef) rfl rfl (by kernel_rfl) (by kernel_rfl) (by kernel_rfl) (fun _ _ _ h => h) (Or.inr ⟨by rfl, rfl⟩) hHeld ?_
          try simp only [Act.put, List.setIfInBounds_toArray, List.set_cons_zero, List.set_cons_succ]
          refine takeH (i := 13) (some 42) (v := undef) rfl rfl (by kernel_rfl) (by kernel_rfl) (by kernel_rfl) (fun _ _ _ h => h) (Or.inr ⟨by rfl, rfl⟩) hHeld ?_
          try simp only [Act.put, List.setIfInBounds_toArray, List.set_cons_zero, List.set_cons_succ]
          refine takeH (i := 14) (some 43) (v := undef) rfl rfl (by kernel_rfl) (by kernel_rfl) (by kernel_rfl) (fun _ _ _ h => h) (Or.inr ⟨by rfl, rfl⟩) hHeld ?_
          try simp only [Act.put, List.setIfInBounds_toArray, List.set_cons_zero, List.set_cons_succ]
          refine takeH (i := 15) (some 44) (v := undef) rfl rfl (by kernel_rfl) (by kernel_rfl) (by kernel_rfl) (fun _ _ _ h => h) (Or.inr ⟨by rfl, rfl⟩) hHeld ?_
          try simp only [Act.put, List.setIfInBounds_toArray, List.set_cons_zero, List.set_cons_succ]
          refine takeH (i := 16) (some 45) (v := undef) rfl rfl (by kernel_rfl) (by kernel_rfl) (by kernel_rfl) (fun _ _ _ h => h) (Or.inr ⟨by rfl, rfl⟩) hHeld ?_
          try simp only [Act.put, List.setIfInBounds_toArray, List.set_cons_zero, List.set_cons_succ]
          refine takeH (i := 17) (some 46) (v := undef) rfl rfl (by kernel_rfl) (by kernel_rfl) (by kernel_rfl) (fun _ _ _ h => h) (Or.inr ⟨by rfl, rfl⟩) hHeld ?_
          try simp only [Act.put, List.setIfInBounds_toArray, List.set_cons_zero, List.set_cons_succ]
          refine takeH (i := 18) (some 47) (v := undef) rfl rfl (by kernel_rfl) (by kernel_rfl) (by kernel_rfl) (fun _ _ _ h => h) (Or.inr ⟨by rfl, rfl⟩) hHeld ?_
          try simp only [Act.put, List.setIfInBounds_toArray, List.set_cons_zero, List.set_cons_succ]
          refine takeH (i := 19) (some 48) (v := undef) rfl rfl (by kernel_rfl) (by kernel_rfl) (by kernel_rfl) (fun _ _ _ h => h) (Or.inr ⟨by rfl, rfl⟩) hHeld ?_
          try simp only [Act.put, List.setIfInBounds_toArray, List.set_cons_zero, List.set_cons_succ]
          refine takeH (i := 20) (some 49) (v := undef) rfl rfl (by kernel_rfl) (by kernel_rfl) (by kernel_rfl) (fun _ _ _ h => h) (Or.inr ⟨by rfl, rfl⟩) hHeld ?_
          try simp only [Act.put, List.setIfInBounds_toArray, List.set_cons_zero, List.set_cons_succ]
          refine takeH (i := 21) (some 50) (v := undef) rfl rfl (by kernel_rfl) (by kernel_rfl) (by kernel_rfl) (fun _ _ _ h => h) (Or.inr ⟨by rfl, rfl⟩) hHeld ?_
          try simp only [Act.put, List.setIfInBounds_toArray, List.set_cons_zero, List.set_cons_succ]
          refine takeH (i := 22) (some 51) (v := undef) rfl rfl (by kernel_rfl) (by kernel_rfl) (by kernel_rfl) (fun _ _ _ h => h) (Or.inr ⟨by rfl, rfl⟩) hHeld ?_
          try simp only [Act.put, List.setIfInBounds_toArray, List.set_cons_zero, List.set_cons_succ]
          refine takeH (i := 23) (some 52) (v := ?_) rfl rfl (by kernel_rfl) (by kernel_rfl) (by kernel_rfl) (fun _ _ _ h => h) (Or.inl ⟨by rfl, ?hy23⟩) hHeld ?rest23
          case hy23 => (intro w hSw; (try dsimp only at hSw); go_simp; (try with_reducible rfl))
          try simp only [Act.put, List.setIfInBounds_toArray, List.set_cons_zero, List.set_cons_succ]
          refine takeH (i := 24) (some 53) (v := ?_) rfl rfl (by kernel_rfl) (by kernel_rfl) (by kernel_rfl) (fun _ _ _ h => h) (Or.inl ⟨by rfl, ?hy24⟩) hHeld ?rest24
          case hy24 => (intro w hSw; (try dsimp only at hSw); go_simp; (try with_reducible rfl))
          try simp only [Act.put, List.setIfInBounds_toArray, List.set_cons_zero, List.set_cons_succ]
          refine wpAnyH_done (by kernel_rfl) ?_ _
          go_wp2_with fail
          go_roundw
          case rel => exact ⟨0 + 1, hlt, by go_num, by rw [HBB.out], btr HB2.out sB⟩
          case measure => simp [intOf]; omega
        · obtain ⟨k0, hk0⟩ : ∃ k0, k = k0 + 1 := ⟨k - 1, by omega⟩
          have hk1 : k0 < l.length := by omega
          have hxk : l[k0 + 1]? = some (x1, x2) := by rw [← hk0]; exact HX.out
          obtain ⟨⟨z1, z2⟩, hz⟩ : ∃ z, l[k0]? = some z := ⟨_, List.getElem?_eq_getElem hk1⟩
          have hzx : z1 < x1 := HSort.out k0 (z1, z2) (x1, x2) hz hxk
          obtain ⟨G', hG', _, zq, _⟩ := HC.out k0 _ hz
          simp only [Option.some.injEq, Addr.mk.injEq, and_true] at hG'
          subst hG'
          have zc := (HB2.out.cell (p := ⟨G, k0 * 2, none⟩) hG).trans zq
          simp only at zc
          have hks : (k : Int) - 1 = (k0 : Int) := by omega
          have hkp : (0 : Int) < (k : Int) := by omega
          have hkw : IntKind.i64.wrap (k0 : Int) = (k0 : Int) := IntWalk.i64_in _ (by omega)
          have hk00 : (0 : Int) ≤ (k0 : Int) := by omega
          have hkd : decide ((0 : Int) < (k : Int)) = true := decide_eq_true hkp
          have hxd : decide (x1 ≤ z1) = false := decide_eq_false (by omega)
          have hkn : (k0 : Int) < (n : Int) := by omega
          have hkn' : k0 < n := by omega
          have hle : ¬ x1 ≤ z1 := by omega
          have MK := Lib.hid (show ∀ w', Below U.heap.size U w' → w'.cell? ⟨X, 0, none⟩ = some (.slice a1 m1 c1) ∧ w'.cell? ⟨X, 1, none⟩ = some (.slice a2 m2 c2) ∧ w'.cell? ⟨X, 2, none⟩ = some (.slice a3 m3 c3) ∧ w'.cell? ⟨G, k * 2, none⟩ = some (.int .i64 x1) ∧ w'.cell? ⟨G, k * 2 + 1, none⟩ = some (.int .i64 x2) ∧ w'.cell? ⟨G, k0 * 2, none⟩ = some (.int .i64 z1) ∧ Below U.heap.size U w' from fun W hb => ⟨(hb.cell (p := ⟨X, 0, none⟩) lX).trans e0, (hb.cell (p := ⟨X, 1, none⟩) lX).trans e1, (hb.cell (p := ⟨X, 2, none⟩) lX).trans e2, (hb.cell (p := ⟨G, k * 2, none⟩) lG).trans c0, (hb.cell (p := ⟨G, k * 2 + 1, none⟩) lG).trans c1', (hb.cell (p := ⟨G, k0 * 2, none⟩) lG).trans zc, hb⟩)
          clear hz zq hk0 hxk
          refine wp_region_held_drew (S := (fun w' => w'.cell? ⟨X, 0, none⟩ = some (.slice a1 m1 c1) ∧ w'.cell? ⟨X, 1, none⟩ = some (.slice a2 m2 c2) ∧ w'.cell? ⟨X, 2, none⟩ = some (.slice a3 m3 c3) ∧ w'.cell? ⟨G, k * 2, none⟩ = some (.int .i64 x1) ∧ w'.cell? ⟨G, k * 2 + 1, none⟩ = some (.int .i64 x2) ∧ w'.cell? ⟨G, k0 * 2, none⟩ = some (.int .i64 z1) ∧ Below U.heap.size U w')) (by kernel_rfl) ?_ (fun hHeld => ?_)
          · (first | exact MK.out _ (by with_reducible assumption) | exact MK.out _ (below_drew (by with_reducible assumption)))
          refine takeH (i := 0) (some 29) (v := ?_) rfl rfl (by kernel_rfl) (by kernel_rfl) (by kernel_rfl) (fun _ _ _ h => h) (Or.inl ⟨by rfl, ?hyb0⟩) hHeld ?restb0
          case hyb0 => (intro w hSw; (try dsimp only at hSw); go_simp; (try with_reducible rfl))
          try simp only [Act.put, List.setIfInBounds_toArray, List.set_cons_zero, List.set_cons_succ]
          refine takeH (i := 1) (some 30) (v := ?_) rfl rfl (by kernel_rfl) (by kernel_rfl) (by kernel_rfl) (fun _ _ _ h => h) (Or.inl ⟨by rfl, ?hyb1⟩) hHeld ?restb1
          case hyb1 => (intro w hSw; (try dsimp only at hSw); go_simp; (try with_reducible rfl))
          try simp only [Act.put, List.setIfInBounds_toArray, List.set_cons_zero, List.set_cons_succ]
          refine takeH (i := 2) (some 31) (v := ?_) rfl rfl (by kernel_rfl) (by kernel_rfl) (by kernel_rfl) (fun _ _ _ h => h) (Or.inl ⟨by rfl, ?hyb2⟩) hHeld ?restb2
          case hyb2 => (intro w hSw; (try dsimp only at hSw); go_simp; (try with_reducible rfl))
          try simp only [Act.put, List.setIfInBounds_toArray, List.set_cons_zero, List.set_cons_succ]
          refine takeH (i := 3) (some 32) (v := ?_) rfl rfl (by kernel_rfl) (by kernel_rfl) (by kernel_rfl) (fun _ _ _ h => h) (Or.inl ⟨by rfl, ?hyb3⟩) hHeld ?restb3
          case hyb3 => (intro w hSw; (try dsimp only at hSw); go_simp; (try with_reducible rfl))
          try simp only [Act.put, List.setIfInBounds_toArray, List.set_cons_zero, List.set_cons_succ]
          refine takeH (i := 4) (some 33) (v := ?_) rfl rfl (by kernel_rfl) (by kernel_rfl) (by kernel_rfl) (fun _ _ _ h => h) (Or.inl ⟨by rfl, ?hyb4⟩) hHeld ?restb4
          case hyb4 => (intro w hSw; (try dsimp only at hSw); go_simp; (try with_reducible rfl))
          try simp only [Act.put, List.setIfInBounds_toArray, List.set_cons_zero, List.set_cons_succ]
          refine wpAnyH_ready (rs := [5]) (by kernel_rfl) (by simp) ?_
          refine AllReadyH.cons rfl (fun K hK => ?_) AllReadyH.nil
          go_simp
          with_reducible refine (D8.out _ ?_).mono ?_; (first | with_reducible assumption | exact hHeld.2.2.2.2.2.2); rintro e wn ⟨rfl, sB⟩; clear hHeld
          refine hK.out _ _ ?_ (fun hHeld => ?_)
          · (first | exact MK.out _ (by with_reducible assumption) | exact MK.out _ (below_drew (by with_reducible assumption)))
          clear hK K
          try simp only [Act.put, List.setIfInBounds_toArray, List.set_cons_zero, List.set_cons_succ]
          refine takeH (i := 6) (some 35) (v := ?_) rfl rfl (by kernel_rfl) (by kernel_rfl) (by kernel_rfl) (fun _ _ _ h => h) (Or.inl ⟨by rfl, ?hyb6⟩) hHeld ?restb6
          case hyb6 => (intro w hSw; (try dsimp only at hSw); go_simp; (try with_reducible rfl))
          try simp only [Act.put, List.setIfInBounds_toArray, List.set_cons_zero, List.set_cons_succ]
          refine takeH (i := 7) (some 36) (v := ?_) rfl rfl (by kernel_rfl) (by kernel_rfl) (by kernel_rfl) (fun _ _ _ h => h) (Or.inl ⟨by rfl, ?hyb7⟩) hHeld ?restb7
          case hyb7 => (intro w hSw; (try dsimp only at hSw); go_simp; (try with_reducible rfl))
          try simp only [Act.put, List.setIfInBounds_toArray, List.set_cons_zero, List.set_cons_succ]
          refine takeH (i := 8) (some 37) (v := ?_) rfl rfl (by kernel_rfl) (by kernel_rfl) (by kernel_rfl) (fun _ _ _ h => h) (Or.inl ⟨by rfl, ?hyb8⟩) hHeld ?restb8
          case hyb8 => (intro w hSw; (try dsimp only at hSw); go_simp; (try with_reducible rfl))
          try simp only [Act.put, List.setIfInBounds_toArray, List.set_cons_zero, List.set_cons_succ]
          refine takeH (i := 9) (some 38) (v := ?_) rfl rfl (by kernel_rfl) (by kernel_rfl) (by kernel_rfl) (fun _ _ _ h => h) (Or.inl ⟨by rfl, ?hyb9⟩) hHeld ?restb9
          case hyb9 => (intro w hSw; (try dsimp only at hSw); go_simp; (try with_reducible rfl))
          try simp only [Act.put, List.setIfInBounds_toArray, List.set_cons_zero, List.set_cons_succ]
          refine takeH (i := 10) (some 39) (v := ?_) rfl rfl (by kernel_rfl) (by kernel_rfl) (by kernel_rfl) (fun _ _ _ h => h) (Or.inl ⟨by rfl, ?hyb10⟩) hHeld ?restb10
          case hyb10 => (intro w hSw; (try dsimp only at hSw); go_simp; (try with_reducible rfl))
          try simp only [Act.put, List.setIfInBounds_toArray, List.set_cons_zero, List.set_cons_succ]
          refine takeH (i := 11) (some 40) (v := ?_) rfl rfl (by kernel_rfl) (by kernel_rfl) (by kernel_rfl) (fun _ _ _ h => h) (Or.inl ⟨by rfl, ?hyb11⟩) hHeld ?restb11
          case hyb11 => (intro w hSw; (try dsimp only at hSw); go_simp; (try with_reducible rfl))
          try simp only [Act.put, List.setIfInBounds_toArray, List.set_cons_zero, List.set_cons_succ]
          refine takeH (i := 12) (some 41) (v := ?_) rfl rfl (by kernel_rfl) (by kernel_rfl) (by kernel_rfl) (fun _ _ _ h => h) (Or.inl ⟨by rfl, ?hyb12⟩) hHeld ?restb12
          case hyb12 => (intro w hSw; (try dsimp only at hSw); go_simp; (try with_reducible rfl))
          try simp only [Act.put, List.setIfInBounds_toArray, List.set_cons_zero, List.set_cons_succ]
          refine takeH (i := 13) (some 42) (v := ?_) rfl rfl (by kernel_rfl) (by kernel_rfl) (by kernel_rfl) (fun _ _ _ h => h) (Or.inl ⟨by rfl, ?hyb13⟩) hHeld ?restb13
          case hyb13 => (intro w hSw; (try dsimp only at hSw); go_simp; (try with_reducible rfl))
          try simp only [Act.put, List.setIfInBounds_toArray, List.set_cons_zero, List.set_cons_succ]
          refine takeH (i := 14) (some 43) (v := ?_) rfl rfl (by kernel_rfl) (by kernel_rfl) (by kernel_rfl) (fun _ _ _ h => h) (Or.inl ⟨by rfl, ?hyb14⟩) hHeld ?restb14
          case hyb14 => (intro w hSw; (try dsimp only at hSw); go_simp; (try with_reducible rfl))
          try simp only [Act.put, List.setIfInBounds_toArray, List.set_cons_zero, List.set_cons_succ]
          refine takeH (i := 15) (some 44) (v := ?_) rfl rfl (by kernel_rfl) (by kernel_rfl) (by kernel_rfl) (fun _ _ _ h => h) (Or.inl ⟨by rfl, ?hyb15⟩) hHeld ?restb15
          case hyb15 => (intro w hSw; (try dsimp only at hSw); go_simp; (try with_reducible rfl))
          try simp only [Act.put, List.setIfInBounds_toArray, List.set_cons_zero, List.set_cons_succ]
          refine takeH (i := 16) (some 45) (v := ?_) rfl rfl (by kernel_rfl) (by kernel_rfl) (by kernel_rfl) (fun _ _ _ h => h) (Or.inl ⟨by rfl, ?hyb16⟩) hHeld ?restb16
          case hyb16 => (intro w hSw; (try dsimp only at hSw); go_simp; (try with_reducible rfl))
          try simp only [Act.put, List.setIfInBounds_toArray, List.set_cons_zero, List.set_cons_succ]
          refine takeH (i := 17) (some 46) (v := ?_) rfl rfl (by kernel_rfl) (by kernel_rfl) (by kernel_rfl) (fun _ _ _ h => h) (Or.inl ⟨by rfl, ?hyb17⟩) hHeld ?restb17
          case hyb17 => (intro w hSw; (try dsimp only at hSw); go_simp; (try with_reducible rfl))
          try simp only [Act.put, List.setIfInBounds_toArray, List.set_cons_zero, List.set_cons_succ]
          refine takeH (i := 18) (some 47) (v := ?_) rfl rfl (by kernel_rfl) (by kernel_rfl) (by kernel_rfl) (fun _ _ _ h => h) (Or.inl ⟨by rfl, ?hyb18⟩) hHeld ?restb18
          case hyb18 => (intro w hSw; (try dsimp only at hSw); go_simp; (try with_reducible rfl))
          try simp only [Act.put, List.setIfInBounds_toArray, List.set_cons_zero, List.set_cons_succ]
          refine takeH (i := 19) (some 48) (v := ?_) rfl rfl (by kernel_rfl) (by kernel_rfl) (by kernel_rfl) (fun _ _ _ h => h) (Or.inl ⟨by rfl, ?hyb19⟩) hHeld ?restb19
          case hyb19 => (intro w hSw; (try dsimp only at hSw); go_simp; (try with_reducible rfl))
          try simp only [Act.put, List.setIfInBounds_toArray, List.set_cons_zero, List.set_cons_succ]
          refine takeH (i := 20) (some 49) (v := ?_) rfl rfl (by kernel_rfl) (by kernel_rfl) (by kernel_rfl) (fun _ _ _ h => h) (Or.inl ⟨by rfl, ?hyb20⟩) hHeld ?restb20
          case hyb20 => (intro w hSw; (try dsimp only at hSw); go_simp; (try with_reducible rfl))
          try simp only [Act.put, List.setIfInBounds_toArray, List.set_cons_zero, List.set_cons_succ]
          refine takeH (i := 21) (some 50) (v := ?_) rfl rfl (by kernel_rfl) (by kernel_rfl) (by kernel_rfl) (fun _ _ _ h => h) (Or.inl ⟨by rfl, ?hyb21⟩) hHeld ?restb21
          case hyb21 => (intro w hSw; (try dsimp only at hSw); go_simp; (try with_reducible rfl))
          try simp only [Act.put, List.setIfInBounds_toArray, List.set_cons_zero, List.set_cons_succ]
          refine takeH (i := 22) (some 51) (v := ?_) rfl rfl (by kernel_rfl) (by kernel_rfl) (by kernel_rfl) (fun _ _ _ h => h) (Or.inl ⟨by rfl, ?hyb22⟩) hHeld ?restb22
          case hyb22 => (intro w hSw; (try dsimp only at hSw); go_simp; (try with_reducible rfl))
          try simp only [Act.put, List.setIfInBounds_toArray, List.set_cons_zero, List.set_cons_succ]
          refine takeH (i := 23) (some 52) (v := ?_) rfl rfl (by kernel_rfl) (by kernel_rfl) (by kernel_rfl) (fun _ _ _ h => h) (Or.inl ⟨by rfl, ?hyb23⟩) hHeld ?restb23
          case hyb23 => (intro w hSw; (try dsimp only at hSw); go_simp; (try with_reducible rfl))
          try simp only [Act.put, List.setIfInBounds_toArray, List.set_cons_zero, List.set_cons_succ]
          refine takeH (i := 24) (some 53) (v := ?_) rfl rfl (by kernel_rfl) (by kernel_rfl) (by kernel_rfl) (fun _ _ _ h => h) (Or.inl ⟨by rfl, ?hyb24⟩) hHeld ?restb24
          case hyb24 => (intro w hSw; (try dsimp only at hSw); go_simp; (try with_reducible rfl))
          try simp only [Act.put, List.setIfInBounds_toArray, List.set_cons_zero, List.set_cons_succ]
          refine wpAnyH_done (by kernel_rfl) ?_ _
          go_wp2_with fail
          go_roundw
          case rel => exact ⟨k + 1, hlt, by go_num, by rw [HBB.out], btr HB2.out sB⟩
          case measure => simp [intOf]; omega
    · obtain rfl : k = n := by omega
      have hfin : decide ((p, g) ∈ l.take k) = decide ((p, g) ∈ l) := by rw [List.take_of_length_le (Nat.le_of_eq HN.out)]
      rw [hfin]
      generalize decide ((p, g) ∈ l) = bv at *
      have hcI : (k : Int) + (m3 : Int) = (m1 : Int) := by omega
      have hcw : IntKind.i64.wrap ((k : Int) + (m3 : Int)) = (m1 : Int) := by rw [IntWalk.i64_in _ (by omega)]; exact hcI
      have hkk : ¬ (k : Int) < (k : Int) := by omega
      clear hfin
      go_wp2_with fail
      refine (Q.out _ (S3.out.on HBel.out)).mono ?_; rintro e w4 ⟨rfl, hb4⟩
      obtain ⟨hc4, hf4⟩ := bcell hb4
      have hXr := Nat.lt_of_lt_of_le hX3 HBel.out.size
      have B4 := Lib.hid (btr HBel.out hb4)
      have hX4 := Nat.lt_of_lt_of_le hXr hb4.size
      clear hb4
      go_wp2_with fail
      refine (R.out _ (S3.out.on B4.out)).mono ?_; rintro e w5 ⟨rfl, hb5⟩
      obtain ⟨hc5, hf5⟩ := bcell hb5
      have B5 := Lib.hid (btr B4.out hb5)
      have hX5 := Nat.lt_of_lt_of_le hX4 hb5.size
      clear hb5
      go_wp2_with fail
      refine (R.out _ (S3.out.on B5.out)).mono ?_; rintro e w6 ⟨rfl, hb6⟩
      obtain ⟨hc6, hf6⟩ := bcell hb6
      have B6 := Lib.hid (btr B5.out hb6)
      clear hb6
      go_wp2
      go_ret
      refine ⟨rfl, ?_⟩
      rw [hXe]
      exact B3.out.trans (B6.out.mono (Nat.le_of_lt hX3))

theorem all_walk (a1 a2 a3 : Option Addr) (c1 c2 c3 L1 L2 L3 : Nat) (s : Sl) (p g : Int) (h1 : s.g.length = L1) (h2 : s.u.length = L2) (h3 : s.f.length = L3) (hk : L1 ≤ c1 ∧ L2 ≤ c2 ∧ L3 ≤ c3) (w : World) (h : SlotsAt w.heap.size w a1 a2 a3 s.g s.u s.f) :
    Calls Try.prog 7 #[.agg #[.slice a1 L1 c1, .slice a2 L2 c2, .slice a3 L3 c3], .agg #[.int .i64 p, .int .i64 g]] w fun e w' => e = .returned (.bool true) ∧ Below w.heap.size w w' := by
  cases hr : s.cut.right with
  | false => exact all_no a1 a2 a3 c1 c2 c3 L1 L2 L3 _ _ _ s p g h1 h2 h3 ⟨rfl, rfl, rfl⟩ hk w h hr
  | true => exact all_yes a1 a2 a3 c1 c2 c3 L1 L2 L3 _ _ _ s p g h1 h2 h3 ⟨rfl, rfl, rfl⟩ hk w h hr
end Go.Proofs.Ytbalebnhjpjhgaa
