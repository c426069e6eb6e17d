/- RD -/
import Derived.Test.YtbalebnhjpjhgaaZ5
import Derived.Test.YtbalebnhjpjhgaaZ3
/- The document's Own: its walk. -/
namespace Go.Proofs.Ytbalebnhjpjhgaa.L9
open Go.RowKit Go.Shelf
attribute [local go_sem] Oper.semAt_some
set_option linter.unusedSimpArgs false
set_option linter.unusedVariables false
set_option maxRecDepth 100000 in
set_option maxHeartbeats 4000000 in
theorem rown_c (a1 a2 a3 : Option Addr) (c1 c2 c3 L1 L2 L3 : Nat) (s : Sl) (h1 : s.g.length = L1) (h2 : s.u.length = L2) (h3 : s.f.length = L3) (l1 : L1 ≤ 1000) (l2 : L2 ≤ 1000) (l3 : L3 ≤ 1000) (w : World) (h : SlotsAt w.heap.size w a1 a2 a3 s.g s.u s.f) :
    Calls Try.prog 41 #[.agg #[.slice a1 L1 c1, .slice a2 L2 c2, .slice a3 L3 c3]] w fun e w' => ∃ v1 v2 v3, e = .returned (.agg #[v1, v2, v3]) ∧ OwnI w.heap.size w' v1 s.g ∧ OwnB w.heap.size w' v2 s.u ∧ OwnI w.heap.size w' v3 s.f ∧ (∀ b, v1.ownBlock = some b → v3.ownBlock ≠ some b) ∧ Below w.heap.size w w' := by
  have HLn := Lib.hid (And.intro h1 (And.intro h2 h3))
  have hB : Below w.heap.size w ((w.alloc (.cells #[.slice a1 L1 c1, .slice a2 L2 c2, .slice a3 L3 c3] 25)).alloc (.cells #[.slice none 0 0, .slice none 0 0, .slice none 0 0] 25)) := ((Below.refl _ _).alloc (Nat.le_refl _) _).alloc (by simp) _
  have hz : ((w.alloc (.cells #[.slice a1 L1 c1, .slice a2 L2 c2, .slice a3 L3 c3] 25)).alloc (.cells #[.slice none 0 0, .slice none 0 0, .slice none 0 0] 25)).heap.size = w.heap.size + 2 := by simp
  have k0 : ((w.alloc (.cells #[.slice a1 L1 c1, .slice a2 L2 c2, .slice a3 L3 c3] 25)).alloc (.cells #[.slice none 0 0, .slice none 0 0, .slice none 0 0] 25)).cell? ⟨w.heap.size, 0, none⟩ = some (.slice a1 L1 c1) := by go_simp
  have k1 : ((w.alloc (.cells #[.slice a1 L1 c1, .slice a2 L2 c2, .slice a3 L3 c3] 25)).alloc (.cells #[.slice none 0 0, .slice none 0 0, .slice none 0 0] 25)).cell? ⟨w.heap.size, 1, none⟩ = some (.slice a2 L2 c2) := by go_simp
  have k2 : ((w.alloc (.cells #[.slice a1 L1 c1, .slice a2 L2 c2, .slice a3 L3 c3] 25)).alloc (.cells #[.slice none 0 0, .slice none 0 0, .slice none 0 0] 25)).cell? ⟨w.heap.size, 2, none⟩ = some (.slice a3 L3 c3) := by go_simp
  have e0 : ((w.alloc (.cells #[.slice a1 L1 c1, .slice a2 L2 c2, .slice a3 L3 c3] 25)).alloc (.cells #[.slice none 0 0, .slice none 0 0, .slice none 0 0] 25)).cell? ⟨w.heap.size + 1, 0, none⟩ = some (.slice none 0 0) := by go_simp
  have e1 : ((w.alloc (.cells #[.slice a1 L1 c1, .slice a2 L2 c2, .slice a3 L3 c3] 25)).alloc (.cells #[.slice none 0 0, .slice none 0 0, .slice none 0 0] 25)).cell? ⟨w.heap.size + 1, 1, none⟩ = some (.slice none 0 0) := by go_simp
  have e2 : ((w.alloc (.cells #[.slice a1 L1 c1, .slice a2 L2 c2, .slice a3 L3 c3] 25)).alloc (.cells #[.slice none 0 0, .slice none 0 0, .slice none 0 0] 25)).cell? ⟨w.heap.size + 1, 2, none⟩ = some (.slice none 0 0) := by go_simp
  have f0 : ((w.alloc (.cells #[.slice a1 L1 c1, .slice a2 L2 c2, .slice a3 L3 c3] 25)).alloc (.cells #[.slice none 0 0, .slice none 0 0, .slice none 0 0] 25)).frozen? ⟨w.heap.size + 1, 0, none⟩ = false := by go_simp
  have f1 : ((w.alloc (.cells #[.slice a1 L1 c1, .slice a2 L2 c2, .slice a3 L3 c3] 25)).alloc (.cells #[.slice none 0 0, .slice none 0 0, .slice none 0 0] 25)).frozen? ⟨w.heap.size + 1, 1, none⟩ = false := by go_simp
  have f2 : ((w.alloc (.cells #[.slice a1 L1 c1, .slice a2 L2 c2, .slice a3 L3 c3] 25)).alloc (.cells #[.slice none 0 0, .slice none 0 0, .slice none 0 0] 25)).frozen? ⟨w.heap.size + 1, 2, none⟩ = false := by go_simp
  have HS := Lib.hid (h.below hB |>.mono (show w.heap.size ≤ w.heap.size + 2 by omega))
  have HB := Lib.hid hB
  clear h hB
  go_enter Try.func41, Try.ntmps41
  go_wp2
  obtain ⟨T, hT⟩ : ∃ T, w.heap.size = T := ⟨_, rfl⟩
  obtain ⟨n0, hn0⟩ : ∃ n, T + 2 = n := ⟨_, rfl⟩
  rw [hT] at k0 k1 k2 e0 e1 e2 f0 f1 f2 hz HS ⊢
  rw [hn0] at hz HS
  generalize ((w.alloc (.cells #[.slice a1 L1 c1, .slice a2 L2 c2, .slice a3 L3 c3] 25)).alloc (.cells #[.slice none 0 0, .slice none 0 0, .slice none 0 0] 25)) = U at *
  have hTn : T + 1 < n0 := by omega
  have HE := Lib.hid (And.intro (And.intro e0 (And.intro e1 e2)) (And.intro f0 (And.intro f1 f2)))
  have MK := Lib.hid (show ∀ W, Below n0 U W → W.cell? ⟨T, 0, none⟩ = some (.slice a1 L1 c1) ∧ W.cell? ⟨T, 1, none⟩ = some (.slice a2 L2 c2) ∧ W.cell? ⟨T, 2, none⟩ = some (.slice a3 L3 c3) from fun W h => ⟨(h.cell (p := ⟨T, 0, none⟩) (show T < n0 by omega)).trans k0, (h.cell (p := ⟨T, 1, none⟩) (show T < n0 by omega)).trans k1, (h.cell (p := ⟨T, 2, none⟩) (show T < n0 by omega)).trans k2⟩)
  have H0 : Hid (St n0 U U.drew none none none) := Lib.hid (St.mk (Nat.le_of_eq hz.symm) (below_drew (Below.refl _ _)) (fun _ _ e => nomatch e) (fun _ _ e => nomatch e) (fun _ _ e => nomatch e) (fun _ _ _ _ e => nomatch e) (fun _ _ _ _ e => nomatch e) (fun _ _ _ _ e => nomatch e))
  have FIN := Lib.hid (show ∀ (W : World) (v1 v2 v3 : Value), St n0 U W (some (v1, s.g)) (some (v2, s.u)) (some (v3, s.f)) → ∃ u1 u2 u3, Ending.returned (.agg #[v1, v2, v3]) = .returned (.agg #[u1, u2, u3]) ∧ OwnI w.heap.size (((W.setCell ⟨T + 1, 0, none⟩ v1).setCell ⟨T + 1, 1, none⟩ v2).setCell ⟨T + 1, 2, none⟩ v3) u1 s.g ∧ OwnB w.heap.size (((W.setCell ⟨T + 1, 0, none⟩ v1).setCell ⟨T + 1, 1, none⟩ v2).setCell ⟨T + 1, 2, none⟩ v3) u2 s.u ∧ OwnI w.heap.size (((W.setCell ⟨T + 1, 0, none⟩ v1).setCell ⟨T + 1, 1, none⟩ v2).setCell ⟨T + 1, 2, none⟩ v3) u3 s.f ∧ (∀ b, u1.ownBlock = some b → u3.ownBlock ≠ some b) ∧ Below w.heap.size w (((W.setCell ⟨T + 1, 0, none⟩ v1).setCell ⟨T + 1, 1, none⟩ v2).setCell ⟨T + 1, 2, none⟩ v3) from fun W v1 v2 v3 h =>
    ⟨v1, v2, v3, rfl, OwnI.mono ((h.px _ _ rfl).set3 (by omega) v1 v2 v3) (by omega), OwnB.mono ((h.py _ _ rfl).set3 (by omega) v1 v2 v3) (by omega), OwnI.mono ((h.pz _ _ rfl).set3 (by omega) v1 v2 v3) (by omega), fun b e => h.dxz _ _ _ _ rfl rfl b e, below_set3 (HB.out.trans (h.b.mono (by omega))) (by omega) v1 v2 v3⟩)
  clear e0 e1 e2 f0 f1 f2 h1 h2 h3 HB
  refine wp_region_held_drew (S := fun w' => w'.cell? ⟨T, 0, none⟩ = some (.slice a1 L1 c1) ∧ w'.cell? ⟨T, 1, none⟩ = some (.slice a2 L2 c2) ∧ w'.cell? ⟨T, 2, none⟩ = some (.slice a3 L3 c3)) (by kernel_rfl) ?_ (fun hHeld => ?_)
  · exact ⟨k0, k1, k2⟩
  clear k0 k1 k2
  generalize U.drew = W0 at *
  refine takeH (i := 1) (some 4) (v := ?_) rfl rfl (by kernel_rfl) (by kernel_rfl) (by kernel_rfl) (fun _ _ _ h => h) (Or.inl ⟨by rfl, ?hyow1⟩) hHeld ?restow1
  case hyow1 => (intro w hSw; (try dsimp only at hSw); go_simp; (try with_reducible rfl))
  try simp only [Act.put, List.setIfInBounds_toArray, List.set_cons_zero, List.set_cons_succ]
  refine takeH (i := 2) (some 5) (v := ?_) rfl rfl (by kernel_rfl) (by kernel_rfl) (by kernel_rfl) (fun _ _ _ h => h) (Or.inl ⟨by rfl, ?hyow2⟩) hHeld ?restow2
  case hyow2 => (intro w hSw; (try dsimp only at hSw); go_simp; (try with_reducible rfl))
  try simp only [Act.put, List.setIfInBounds_toArray, List.set_cons_zero, List.set_cons_succ]
  refine takeH (i := 5) (some 8) (v := ?_) rfl rfl (by kernel_rfl) (by kernel_rfl) (by kernel_rfl) (fun _ _ _ h => h) (Or.inl ⟨by rfl, ?hyow5⟩) hHeld ?restow5
  case hyow5 => (intro w hSw; (try dsimp only at hSw); go_simp; (try with_reducible rfl))
  try simp only [Act.put, List.setIfInBounds_toArray, List.set_cons_zero, List.set_cons_succ]
  refine takeH (i := 6) (some 9) (v := ?_) rfl rfl (by kernel_rfl) (by kernel_rfl) (by kernel_rfl) (fun _ _ _ h => h) (Or.inl ⟨by rfl, ?hyow6⟩) hHeld ?restow6
  case hyow6 => (intro w hSw; (try dsimp only at hSw); go_simp; (try with_reducible rfl))
  try simp only [Act.put, List.setIfInBounds_toArray, List.set_cons_zero, List.set_cons_succ]
  refine takeH (i := 9) (some 12) (v := ?_) rfl rfl (by kernel_rfl) (by kernel_rfl) (by kernel_rfl) (fun _ _ _ h => h) (Or.inl ⟨by rfl, ?hyow9⟩) hHeld ?restow9
  case hyow9 => (intro w hSw; (try dsimp only at hSw); go_simp; (try with_reducible rfl))
  try simp only [Act.put, List.setIfInBounds_toArray, List.set_cons_zero, List.set_cons_succ]
  refine takeH (i := 10) (some 13) (v := ?_) rfl rfl (by kernel_rfl) (by kernel_rfl) (by kernel_rfl) (fun _ _ _ h => h) (Or.inl ⟨by rfl, ?hyow10⟩) hHeld ?restow10
  case hyow10 => (intro w hSw; (try dsimp only at hSw); go_simp; (try with_reducible rfl))
  try simp only [Act.put, List.setIfInBounds_toArray, List.set_cons_zero, List.set_cons_succ]
  refine wpAnyH_ready (rs := [0, 4, 8]) (by kernel_rfl) (by simp) ?_
  refine AllReadyH.cons rfl (fun K hK => ?q3) (AllReadyH.cons rfl (fun K hK => ?q2) (AllReadyH.cons rfl (fun K hK => ?q1) AllReadyH.nil))
  case q3 =>
    clear hHeld
    go_simp
    have H4 := Lib.hid H0.out.al_x
    obtain ⟨g4, hg4⟩ : ∃ g, W0.heap.size = g := ⟨_, rfl⟩
    rw [hg4] at H4 ⊢
    generalize (W0.alloc (.cells #[] 3)) = W4 at *
    refine hK.out _ _ (MK.out _ H4.out.b) (fun hHeld => ?_)
    clear hK K H0 hg4
    try simp only [Act.put, List.setIfInBounds_toArray, List.set_cons_zero, List.set_cons_succ]
    refine wpAnyH_ready (rs := [3, 4, 8]) (by kernel_rfl) (by simp) ?_
    refine AllReadyH.cons rfl (fun K hK => ?q7) (AllReadyH.cons rfl (fun K hK => ?q6) (AllReadyH.cons rfl (fun K hK => ?q5) AllReadyH.nil))
    case q7 =>
      clear hHeld
      obtain ⟨v8, W8, hr, hst⟩ := H4.out.ap_x a1 c1 s.g (by have := HLn.out; omega) HS.out.g
      obtain ⟨b8, e8, rfl, _⟩ := (hst.px _ _ rfl).form
      rw [HLn.out.1] at hr hst
      have H8 := Lib.hid hst
      clear hst
      rw [if_pos (by rfl)]
      refine wp_app rfl rfl rfl hr ?_
      refine hK.out _ _ (MK.out _ H8.out.b) (fun hHeld => ?_)
      clear hK K H4 hr
      try simp only [Act.put, List.setIfInBounds_toArray, List.set_cons_zero, List.set_cons_succ]
      refine wpAnyH_ready (rs := [4, 8]) (by kernel_rfl) (by simp) ?_
      refine AllReadyH.cons rfl (fun K hK => ?q10) (AllReadyH.cons rfl (fun K hK => ?q9) AllReadyH.nil)
      case q10 =>
        clear hHeld
        go_simp
        have H11 := Lib.hid H8.out.al_y
        obtain ⟨g11, hg11⟩ : ∃ g, W8.heap.size = g := ⟨_, rfl⟩
        rw [hg11] at H11 ⊢
        generalize (W8.alloc (.cells #[] 4)) = W11 at *
        refine hK.out _ _ (MK.out _ H11.out.b) (fun hHeld => ?_)
        clear hK K H8 hg11
        try simp only [Act.put, List.setIfInBounds_toArray, List.set_cons_zero, List.set_cons_succ]
        refine wpAnyH_ready (rs := [7, 8]) (by kernel_rfl) (by simp) ?_
        refine AllReadyH.cons rfl (fun K hK => ?q13) (AllReadyH.cons rfl (fun K hK => ?q12) AllReadyH.nil)
        case q13 =>
          clear hHeld
          obtain ⟨v14, W14, hr, hst⟩ := H11.out.ap_y a2 c2 s.u (by have := HLn.out; omega) HS.out.u
          obtain ⟨b14, e14, rfl, _⟩ := (hst.py _ _ rfl).form
          rw [HLn.out.2.1] at hr hst
          have H14 := Lib.hid hst
          clear hst
          rw [if_pos (by rfl)]
          refine wp_app rfl rfl rfl hr ?_
          refine hK.out _ _ (MK.out _ H14.out.b) (fun hHeld => ?_)
          clear hK K H11 hr
          try simp only [Act.put, List.setIfInBounds_toArray, List.set_cons_zero, List.set_cons_succ]
          refine wpAnyH_ready (rs := [8]) (by kernel_rfl) (by simp) ?_
          refine AllReadyH.cons rfl (fun K hK => ?q15) AllReadyH.nil
          case q15 =>
            clear hHeld
            go_simp
            have H16 := Lib.hid H14.out.al_z
            obtain ⟨g16, hg16⟩ : ∃ g, W14.heap.size = g := ⟨_, rfl⟩
            rw [hg16] at H16 ⊢
            generalize (W14.alloc (.cells #[] 3)) = W16 at *
            refine hK.out _ _ (MK.out _ H16.out.b) (fun hHeld => ?_)
            clear hK K H14 hg16
            try simp only [Act.put, List.setIfInBounds_toArray, List.set_cons_zero, List.set_cons_succ]
            refine wpAnyH_ready (rs := [11]) (by kernel_rfl) (by simp) ?_
            refine AllReadyH.cons rfl (fun K hK => ?q17) AllReadyH.nil
            case q17 =>
              clear hHeld
              obtain ⟨v18, W18, hr, hst⟩ := H16.out.ap_z a3 c3 s.f (by have := HLn.out; omega) HS.out.f
              obtain ⟨b18, e18, rfl, _⟩ := (hst.pz _ _ rfl).form
              rw [HLn.out.2.2] at hr hst
              have H18 := Lib.hid hst
              clear hst
              rw [if_pos (by rfl)]
              refine wp_app rfl rfl rfl hr ?_
              refine hK.out _ _ (MK.out _ H18.out.b) (fun hHeld => ?_)
              clear hK K H16 hr
              try simp only [Act.put, List.setIfInBounds_toArray, List.set_cons_zero, List.set_cons_succ]
              refine takeH (i := 12) (some 15) (v := ?_) rfl rfl (by kernel_rfl) (by kernel_rfl) (by kernel_rfl) (fun _ _ _ h => h) (Or.inl ⟨by rfl, ?hyt1812⟩) hHeld ?restt1812
              case hyt1812 => (intro w hSw; (try dsimp only at hSw); go_simp; (try with_reducible rfl))
              try simp only [Act.put, List.setIfInBounds_toArray, List.set_cons_zero, List.set_cons_succ]
              have hb := H18.out.b
              have j0 := (hb.cell (p := ⟨T + 1, 0, none⟩) (show T + 1 < n0 by omega)).trans HE.out.1.1
              have j1 := (hb.cell (p := ⟨T + 1, 1, none⟩) (show T + 1 < n0 by omega)).trans HE.out.1.2.1
              have j2 := (hb.cell (p := ⟨T + 1, 2, none⟩) (show T + 1 < n0 by omega)).trans HE.out.1.2.2
              have m0 := (hb.frozen (p := ⟨T + 1, 0, none⟩) (show T + 1 < n0 by omega)).trans HE.out.2.1
              have m1 := (hb.frozen (p := ⟨T + 1, 1, none⟩) (show T + 1 < n0 by omega)).trans HE.out.2.2.1
              have m2 := (hb.frozen (p := ⟨T + 1, 2, none⟩) (show T + 1 < n0 by omega)).trans HE.out.2.2.2
              refine wpAnyH_ready (rs := [13]) (by kernel_rfl) (by simp) ?_
              refine AllReadyH.cons rfl (fun K hK => ?_) AllReadyH.nil
              go_simp
              refine hK.out _ _ (by simp only [set_other _ _ (show T ≠ T + 1 by omega)]; exact hHeld) (fun hHeld => ?_)
              clear hK K
              try simp only [Act.put, List.setIfInBounds_toArray, List.set_cons_zero, List.set_cons_succ]
              refine wpAnyH_done (by kernel_rfl) ?_ _
              go_wp2
              refine bodyPost_ret (v := .agg #[.slice b8 L1 e8, .slice b14 L2 e14, .slice b18 L3 e18]) (by simp [results, Try.results41, go_sem, j0, j1, j2]) rfl ?_
              exact FIN.out _ _ _ _ H18.out
        case q12 =>
          clear hHeld
          go_simp
          have H20 := Lib.hid H11.out.al_z
          obtain ⟨g20, hg20⟩ : ∃ g, W11.heap.size = g := ⟨_, rfl⟩
          rw [hg20] at H20 ⊢
          generalize (W11.alloc (.cells #[] 3)) = W20 at *
          refine hK.out _ _ (MK.out _ H20.out.b) (fun hHeld => ?_)
          clear hK K H11 hg20
          try simp only [Act.put, List.setIfInBounds_toArray, List.set_cons_zero, List.set_cons_succ]
          refine wpAnyH_ready (rs := [7]) (by kernel_rfl) (by simp) ?_
          refine AllReadyH.cons rfl (fun K hK => ?q21) AllReadyH.nil
          case q21 =>
            clear hHeld
            obtain ⟨v22, W22, hr, hst⟩ := H20.out.ap_y a2 c2 s.u (by have := HLn.out; omega) HS.out.u
            obtain ⟨b22, e22, rfl, _⟩ := (hst.py _ _ rfl).form
            rw [HLn.out.2.1] at hr hst
            have H22 := Lib.hid hst
            clear hst
            rw [if_pos (by rfl)]
            refine wp_app rfl rfl rfl hr ?_
            refine hK.out _ _ (MK.out _ H22.out.b) (fun hHeld => ?_)
            clear hK K H20 hr
            try simp only [Act.put, List.setIfInBounds_toArray, List.set_cons_zero, List.set_cons_succ]
            refine wpAnyH_ready (rs := [11]) (by kernel_rfl) (by simp) ?_
            refine AllReadyH.cons rfl (fun K hK => ?q23) AllReadyH.nil
            case q23 =>
              clear hHeld
              obtain ⟨v24, W24, hr, hst⟩ := H22.out.ap_z a3 c3 s.f (by have := HLn.out; omega) HS.out.f
              obtain ⟨b24, e24, rfl, _⟩ := (hst.pz _ _ rfl).form
              rw [HLn.out.2.2] at hr hst
              have H24 := Lib.hid hst
              clear hst
              rw [if_pos (by rfl)]
              refine wp_app rfl rfl rfl hr ?_
              refine hK.out _ _ (MK.out _ H24.out.b) (fun hHeld => ?_)
              clear hK K H22 hr
              try simp only [Act.put, List.setIfInBounds_toArray, List.set_cons_zero, List.set_cons_succ]
              refine takeH (i := 12) (some 15) (v := ?_) rfl rfl (by kernel_rfl) (by kernel_rfl) (by kernel_rfl) (fun _ _ _ h => h) (Or.inl ⟨by rfl, ?hyt2412⟩) hHeld ?restt2412
              case hyt2412 => (intro w hSw; (try dsimp only at hSw); go_simp; (try with_reducible rfl))
              try simp only [Act.put, List.setIfInBounds_toArray, List.set_cons_zero, List.set_cons_succ]
              have hb := H24.out.b
              have j0 := (hb.cell (p := ⟨T + 1, 0, none⟩) (show T + 1 < n0 by omega)).trans HE.out.1.1
              have j1 := (hb.cell (p := ⟨T + 1, 1, none⟩) (show T + 1 < n0 by omega)).trans HE.out.1.2.1
              have j2 := (hb.cell (p := ⟨T + 1, 2, none⟩) (show T + 1 < n0 by omega)).trans HE.out.1.2.2
              have m0 := (hb.frozen (p := ⟨T + 1, 0, none⟩) (show T + 1 < n0 by omega)).trans HE.out.2.1
              have m1 := (hb.frozen (p := ⟨T + 1, 1, none⟩) (show T + 1 < n0 by omega)).trans HE.out.2.2.1
              have m2 := (hb.frozen (p := ⟨T + 1, 2, none⟩) (show T + 1 < n0 by omega)).trans HE.out.2.2.2
              refine wpAnyH_ready (rs := [13]) (by kernel_rfl) (by simp) ?_
              refine AllReadyH.cons rfl (fun K hK => ?_) AllReadyH.nil
              go_simp
              refine hK.out _ _ (by simp only [set_other _ _ (show T ≠ T + 1 by omega)]; exact hHeld) (fun hHeld => ?_)
              clear hK K
              try simp only [Act.put, List.setIfInBounds_toArray, List.set_cons_zero, List.set_cons_succ]
              refine wpAnyH_done (by kernel_rfl) ?_ _
              go_wp2
              refine bodyPost_ret (v := .agg #[.slice b8 L1 e8, .slice b22 L2 e22, .slice b24 L3 e24]) (by simp [results, Try.results41, go_sem, j0, j1, j2]) rfl ?_
              exact FIN.out _ _ _ _ H24.out
      case q9 =>
        clear hHeld
        go_simp
        have H26 := Lib.hid H8.out.al_z
        obtain ⟨g26, hg26⟩ : ∃ g, W8.heap.size = g := ⟨_, rfl⟩
        rw [hg26] at H26 ⊢
        generalize (W8.alloc (.cells #[] 3)) = W26 at *
        refine hK.out _ _ (MK.out _ H26.out.b) (fun hHeld => ?_)
        clear hK K H8 hg26
        try simp only [Act.put, List.setIfInBounds_toArray, List.set_cons_zero, List.set_cons_succ]
        refine wpAnyH_ready (rs := [4]) (by kernel_rfl) (by simp) ?_
        refine AllReadyH.cons rfl (fun K hK => ?q27) AllReadyH.nil
        case q27 =>
          clear hHeld
          go_simp
          have H28 := Lib.hid H26.out.al_y
          obtain ⟨g28, hg28⟩ : ∃ g, W26.heap.size = g := ⟨_, rfl⟩
          rw [hg28] at H28 ⊢
          generalize (W26.alloc (.cells #[] 4)) = W28 at *
          refine hK.out _ _ (MK.out _ H28.out.b) (fun hHeld => ?_)
          clear hK K H26 hg28
          try simp only [Act.put, List.setIfInBounds_toArray, List.set_cons_zero, List.set_cons_succ]
          refine wpAnyH_ready (rs := [7]) (by kernel_rfl) (by simp) ?_
          refine AllReadyH.cons rfl (fun K hK => ?q29) AllReadyH.nil
          case q29 =>
            clear hHeld
            obtain ⟨v30, W30, hr, hst⟩ := H28.out.ap_y a2 c2 s.u (by have := HLn.out; omega) HS.out.u
            obtain ⟨b30, e30, rfl, _⟩ := (hst.py _ _ rfl).form
            rw [HLn.out.2.1] at hr hst
            have H30 := Lib.hid hst
            clear hst
            rw [if_pos (by rfl)]
            refine wp_app rfl rfl rfl hr ?_
            refine hK.out _ _ (MK.out _ H30.out.b) (fun hHeld => ?_)
            clear hK K H28 hr
            try simp only [Act.put, List.setIfInBounds_toArray, List.set_cons_zero, List.set_cons_succ]
            refine wpAnyH_ready (rs := [11]) (by kernel_rfl) (by simp) ?_
            refine AllReadyH.cons rfl (fun K hK => ?q31) AllReadyH.nil
            case q31 =>
              clear hHeld
              obtain ⟨v32, W32, hr, hst⟩ := H30.out.ap_z a3 c3 s.f (by have := HLn.out; omega) HS.out.f
              obtain ⟨b32, e32, rfl, _⟩ := (hst.pz _ _ rfl).form
              rw [HLn.out.2.2] at hr hst
              have H32 := Lib.hid hst
              clear hst
              rw [if_pos (by rfl)]
              refine wp_app rfl rfl rfl hr ?_
              refine hK.out _ _ (MK.out _ H32.out.b) (fun hHeld => ?_)
              clear hK K H30 hr
              try simp only [Act.put, List.setIfInBounds_toArray, List.set_cons_zero, List.set_cons_succ]
              refine takeH (i := 12) (some 15) (v := ?_) rfl rfl (by kernel_rfl) (by kernel_rfl) (by kernel_rfl) (fun _ _ _ h => h) (Or.inl ⟨by rfl, ?hyt3212⟩) hHeld ?restt3212
              case hyt3212 => (intro w hSw; (try dsimp only at hSw); go_simp; (try with_reducible rfl))
              try simp only [Act.put, List.setIfInBounds_toArray, List.set_cons_zero, List.set_cons_succ]
              have hb := H32.out.b
              have j0 := (hb.cell (p := ⟨T + 1, 0, none⟩) (show T + 1 < n0 by omega)).trans HE.out.1.1
              have j1 := (hb.cell (p := ⟨T + 1, 1, none⟩) (show T + 1 < n0 by omega)).trans HE.out.1.2.1
              have j2 := (hb.cell (p := ⟨T + 1, 2, none⟩) (show T + 1 < n0 by omega)).trans HE.out.1.2.2
              have m0 := (hb.frozen (p := ⟨T + 1, 0, none⟩) (show T + 1 < n0 by omega)).trans HE.out.2.1
              have m1 := (hb.frozen (p := ⟨T + 1, 1, none⟩) (show T + 1 < n0 by omega)).trans HE.out.2.2.1
              have m2 := (hb.frozen (p := ⟨T + 1, 2, none⟩) (show T + 1 < n0 by omega)).trans HE.out.2.2.2
              refine wpAnyH_ready (rs := [13]) (by kernel_rfl) (by simp) ?_
              refine AllReadyH.cons rfl (fun K hK => ?_) AllReadyH.nil
              go_simp
              refine hK.out _ _ (by simp only [set_other _ _ (show T ≠ T + 1 by omega)]; exact hHeld) (fun hHeld => ?_)
              clear hK K
              try simp only [Act.put, List.setIfInBounds_toArray, List.set_cons_zero, List.set_cons_succ]
              refine wpAnyH_done (by kernel_rfl) ?_ _
              go_wp2
              refine bodyPost_ret (v := .agg #[.slice b8 L1 e8, .slice b30 L2 e30, .slice b32 L3 e32]) (by simp [results, Try.results41, go_sem, j0, j1, j2]) rfl ?_
              exact FIN.out _ _ _ _ H32.out
    case q6 =>
      clear hHeld
      go_simp
      have H34 := Lib.hid H4.out.al_y
      obtain ⟨g34, hg34⟩ : ∃ g, W4.heap.size = g := ⟨_, rfl⟩
      rw [hg34] at H34 ⊢
      generalize (W4.alloc (.cells #[] 4)) = W34 at *
      refine hK.out _ _ (MK.out _ H34.out.b) (fun hHeld => ?_)
      clear hK K H4 hg34
      try simp only [Act.put, List.setIfInBounds_toArray, List.set_cons_zero, List.set_cons_succ]
      refine wpAnyH_ready (rs := [3, 8]) (by kernel_rfl) (by simp) ?_
      refine AllReadyH.cons rfl (fun K hK => ?q36) (AllReadyH.cons rfl (fun K hK => ?q35) AllReadyH.nil)
      case q36 =>
        clear hHeld
        obtain ⟨v37, W37, hr, hst⟩ := H34.out.ap_x a1 c1 s.g (by have := HLn.out; omega) HS.out.g
        obtain ⟨b37, e37, rfl, _⟩ := (hst.px _ _ rfl).form
        rw [HLn.out.1] at hr hst
        have H37 := Lib.hid hst
        clear hst
        rw [if_pos (by rfl)]
        refine wp_app rfl rfl rfl hr ?_
        refine hK.out _ _ (MK.out _ H37.out.b) (fun hHeld => ?_)
        clear hK K H34 hr
        try simp only [Act.put, List.setIfInBounds_toArray, List.set_cons_zero, List.set_cons_succ]
        refine wpAnyH_ready (rs := [7, 8]) (by kernel_rfl) (by simp) ?_
        refine AllReadyH.cons rfl (fun K hK => ?q39) (AllReadyH.cons rfl (fun K hK => ?q38) AllReadyH.nil)
        case q39 =>
          clear hHeld
          obtain ⟨v40, W40, hr, hst⟩ := H37.out.ap_y a2 c2 s.u (by have := HLn.out; omega) HS.out.u
          obtain ⟨b40, e40, rfl, _⟩ := (hst.py _ _ rfl).form
          rw [HLn.out.2.1] at hr hst
          have H40 := Lib.hid hst
          clear hst
          rw [if_pos (by rfl)]
          refine wp_app rfl rfl rfl hr ?_
          refine hK.out _ _ (MK.out _ H40.out.b) (fun hHeld => ?_)
          clear hK K H37 hr
          try simp only [Act.put, List.setIfInBounds_toArray, List.set_cons_zero, List.set_cons_succ]
          refine wpAnyH_ready (rs := [8]) (by kernel_rfl) (by simp) ?_
          refine AllReadyH.cons rfl (fun K hK => ?q41) AllReadyH.nil
          case q41 =>
            clear hHeld
            go_simp
            have H42 := Lib.hid H40.out.al_z
            obtain ⟨g42, hg42⟩ : ∃ g, W40.heap.size = g := ⟨_, rfl⟩
            rw [hg42] at H42 ⊢
            generalize (W40.alloc (.cells #[] 3)) = W42 at *
            refine hK.out _ _ (MK.out _ H42.out.b) (fun hHeld => ?_)
            clear hK K H40 hg42
            try simp only [Act.put, List.setIfInBounds_toArray, List.set_cons_zero, List.set_cons_succ]
            refine wpAnyH_ready (rs := [11]) (by kernel_rfl) (by simp) ?_
            refine AllReadyH.cons rfl (fun K hK => ?q43) AllReadyH.nil
            case q43 =>
              clear hHeld
              obtain ⟨v44, W44, hr, hst⟩ := H42.out.ap_z a3 c3 s.f (by have := HLn.out; omega) HS.out.f
              obtain ⟨b44, e44, rfl, _⟩ := (hst.pz _ _ rfl).form
              rw [HLn.out.2.2] at hr hst
              have H44 := Lib.hid hst
              clear hst
              rw [if_pos (by rfl)]
              refine wp_app rfl rfl rfl hr ?_
              refine hK.out _ _ (MK.out _ H44.out.b) (fun hHeld => ?_)
              clear hK K H42 hr
              try simp only [Act.put, List.setIfInBounds_toArray, List.set_cons_zero, List.set_cons_succ]
              refine takeH (i := 12) (some 15) (v := ?_) rfl rfl (by kernel_rfl) (by kernel_rfl) (by kernel_rfl) (fun _ _ _ h => h) (Or.inl ⟨by rfl, ?hyt4412⟩) hHeld ?restt4412
              case hyt4412 => (intro w hSw; (try dsimp only at hSw); go_simp; (try with_reducible rfl))
              try simp only [Act.put, List.setIfInBounds_toArray, List.set_cons_zero, List.set_cons_succ]
              have hb := H44.out.b
              have j0 := (hb.cell (p := ⟨T + 1, 0, none⟩) (show T + 1 < n0 by omega)).trans HE.out.1.1
              have j1 := (hb.cell (p := ⟨T + 1, 1, none⟩) (show T + 1 < n0 by omega)).trans HE.out.1.2.1
              have j2 := (hb.cell (p := ⟨T + 1, 2, none⟩) (show T + 1 < n0 by omega)).trans HE.out.1.2.2
              have m0 := (hb.frozen (p := ⟨T + 1, 0, none⟩) (show T + 1 < n0 by omega)).trans HE.out.2.1
              have m1 := (hb.frozen (p := ⟨T + 1, 1, none⟩) (show T + 1 < n0 by omega)).trans HE.out.2.2.1
              have m2 := (hb.frozen (p := ⟨T + 1, 2, none⟩) (show T + 1 < n0 by omega)).trans HE.out.2.2.2
              refine wpAnyH_ready (rs := [13]) (by kernel_rfl) (by simp) ?_
              refine AllReadyH.cons rfl (fun K hK => ?_) AllReadyH.nil
              go_simp
              refine hK.out _ _ (by simp only [set_other _ _ (show T ≠ T + 1 by omega)]; exact hHeld) (fun hHeld => ?_)
              clear hK K
              try simp only [Act.put, List.setIfInBounds_toArray, List.set_cons_zero, List.set_cons_succ]
              refine wpAnyH_done (by kernel_rfl) ?_ _
              go_wp2
              refine bodyPost_ret (v := .agg #[.slice b37 L1 e37, .slice b40 L2 e40, .slice b44 L3 e44]) (by simp [results, Try.results41, go_sem, j0, j1, j2]) rfl ?_
              exact FIN.out _ _ _ _ H44.out
        case q38 =>
          clear hHeld
          go_simp
          have H46 := Lib.hid H37.out.al_z
          obtain ⟨g46, hg46⟩ : ∃ g, W37.heap.size = g := ⟨_, rfl⟩
          rw [hg46] at H46 ⊢
          generalize (W37.alloc (.cells #[] 3)) = W46 at *
          refine hK.out _ _ (MK.out _ H46.out.b) (fun hHeld => ?_)
          clear hK K H37 hg46
          try simp only [Act.put, List.setIfInBounds_toArray, List.set_cons_zero, List.set_cons_succ]
          refine wpAnyH_ready (rs := [7]) (by kernel_rfl) (by simp) ?_
          refine AllReadyH.cons rfl (fun K hK => ?q47) AllReadyH.nil
          case q47 =>
            clear hHeld
            obtain ⟨v48, W48, hr, hst⟩ := H46.out.ap_y a2 c2 s.u (by have := HLn.out; omega) HS.out.u
            obtain ⟨b48, e48, rfl, _⟩ := (hst.py _ _ rfl).form
            rw [HLn.out.2.1] at hr hst
            have H48 := Lib.hid hst
            clear hst
            rw [if_pos (by rfl)]
            refine wp_app rfl rfl rfl hr ?_
            refine hK.out _ _ (MK.out _ H48.out.b) (fun hHeld => ?_)
            clear hK K H46 hr
            try simp only [Act.put, List.setIfInBounds_toArray, List.set_cons_zero, List.set_cons_succ]
            refine wpAnyH_ready (rs := [11]) (by kernel_rfl) (by simp) ?_
            refine AllReadyH.cons rfl (fun K hK => ?q49) AllReadyH.nil
            case q49 =>
              clear hHeld
              obtain ⟨v50, W50, hr, hst⟩ := H48.out.ap_z a3 c3 s.f (by have := HLn.out; omega) HS.out.f
              obtain ⟨b50, e50, rfl, _⟩ := (hst.pz _ _ rfl).form
              rw [HLn.out.2.2] at hr hst
              have H50 := Lib.hid hst
              clear hst
              rw [if_pos (by rfl)]
              refine wp_app rfl rfl rfl hr ?_
              refine hK.out _ _ (MK.out _ H50.out.b) (fun hHeld => ?_)
              clear hK K H48 hr
              try simp only [Act.put, List.setIfInBounds_toArray, List.set_cons_zero, List.set_cons_succ]
              refine takeH (i := 12) (some 15) (v := ?_) rfl rfl (by kernel_rfl) (by kernel_rfl) (by kernel_rfl) (fun _ _ _ h => h) (Or.inl ⟨by rfl, ?hyt5012⟩) hHeld ?restt5012
              case hyt5012 => (intro w hSw; (try dsimp only at hSw); go_simp; (try with_reducible rfl))
              try simp only [Act.put, List.setIfInBounds_toArray, List.set_cons_zero, List.set_cons_succ]
              have hb := H50.out.b
              have j0 := (hb.cell (p := ⟨T + 1, 0, none⟩) (show T + 1 < n0 by omega)).trans HE.out.1.1
              have j1 := (hb.cell (p := ⟨T + 1, 1, none⟩) (show T + 1 < n0 by omega)).trans HE.out.1.2.1
              have j2 := (hb.cell (p := ⟨T + 1, 2, none⟩) (show T + 1 < n0 by omega)).trans HE.out.1.2.2
              have m0 := (hb.frozen (p := ⟨T + 1, 0, none⟩) (show T + 1 < n0 by omega)).trans HE.out.2.1
              have m1 := (hb.frozen (p := ⟨T + 1, 1, none⟩) (show T + 1 < n0 by omega)).trans HE.out.2.2.1
              have m2 := (hb.frozen (p := ⟨T + 1, 2, none⟩) (show T + 1 < n0 by omega)).trans HE.out.2.2.2
              refine wpAnyH_ready (rs := [13]) (by kernel_rfl) (by simp) ?_
              refine AllReadyH.cons rfl (fun K hK => ?_) AllReadyH.nil
              go_simp
              refine hK.out _ _ (by simp only [set_other _ _ (show T ≠ T + 1 by omega)]; exact hHeld) (fun hHeld => ?_)
              clear hK K
              try simp only [Act.put, List.setIfInBounds_toArray, List.set_cons_zero, List.set_cons_succ]
              refine wpAnyH_done (by kernel_rfl) ?_ _
              go_wp2
              refine bodyPost_ret (v := .agg #[.slice b37 L1 e37, .slice b48 L2 e48, .slice b50 L3 e50]) (by simp [results, Try.results41, go_sem, j0, j1, j2]) rfl ?_
              exact FIN.out _ _ _ _ H50.out
      case q35 =>
        clear hHeld
        go_simp
        have H52 := Lib.hid H34.out.al_z
        obtain ⟨g52, hg52⟩ : ∃ g, W34.heap.size = g := ⟨_, rfl⟩
        rw [hg52] at H52 ⊢
        generalize (W34.alloc (.cells #[] 3)) = W52 at *
        refine hK.out _ _ (MK.out _ H52.out.b) (fun hHeld => ?_)
        clear hK K H34 hg52
        try simp only [Act.put, List.setIfInBounds_toArray, List.set_cons_zero, List.set_cons_succ]
        refine wpAnyH_ready (rs := [3]) (by kernel_rfl) (by simp) ?_
        refine AllReadyH.cons rfl (fun K hK => ?q53) AllReadyH.nil
        case q53 =>
          clear hHeld
          obtain ⟨v54, W54, hr, hst⟩ := H52.out.ap_x a1 c1 s.g (by have := HLn.out; omega) HS.out.g
          obtain ⟨b54, e54, rfl, _⟩ := (hst.px _ _ rfl).form
          rw [HLn.out.1] at hr hst
          have H54 := Lib.hid hst
          clear hst
          rw [if_pos (by rfl)]
          refine wp_app rfl rfl rfl hr ?_
          refine hK.out _ _ (MK.out _ H54.out.b) (fun hHeld => ?_)
          clear hK K H52 hr
          try simp only [Act.put, List.setIfInBounds_toArray, List.set_cons_zero, List.set_cons_succ]
          refine wpAnyH_ready (rs := [7]) (by kernel_rfl) (by simp) ?_
          refine AllReadyH.cons rfl (fun K hK => ?q55) AllReadyH.nil
          case q55 =>
            clear hHeld
            obtain ⟨v56, W56, hr, hst⟩ := H54.out.ap_y a2 c2 s.u (by have := HLn.out; omega) HS.out.u
            obtain ⟨b56, e56, rfl, _⟩ := (hst.py _ _ rfl).form
            rw [HLn.out.2.1] at hr hst
            have H56 := Lib.hid hst
            clear hst
            rw [if_pos (by rfl)]
            refine wp_app rfl rfl rfl hr ?_
            refine hK.out _ _ (MK.out _ H56.out.b) (fun hHeld => ?_)
            clear hK K H54 hr
            try simp only [Act.put, List.setIfInBounds_toArray, List.set_cons_zero, List.set_cons_succ]
            refine wpAnyH_ready (rs := [11]) (by kernel_rfl) (by simp) ?_
            refine AllReadyH.cons rfl (fun K hK => ?q57) AllReadyH.nil
            case q57 =>
              clear hHeld
              obtain ⟨v58, W58, hr, hst⟩ := H56.out.ap_z a3 c3 s.f (by have := HLn.out; omega) HS.out.f
              obtain ⟨b58, e58, rfl, _⟩ := (hst.pz _ _ rfl).form
              rw [HLn.out.2.2] at hr hst
              have H58 := Lib.hid hst
              clear hst
              rw [if_pos (by rfl)]
              refine wp_app rfl rfl rfl hr ?_
              refine hK.out _ _ (MK.out _ H58.out.b) (fun hHeld => ?_)
              clear hK K H56 hr
              try simp only [Act.put, List.setIfInBounds_toArray, List.set_cons_zero, List.set_cons_succ]
              refine takeH (i := 12) (some 15) (v := ?_) rfl rfl (by kernel_rfl) (by kernel_rfl) (by kernel_rfl) (fun _ _ _ h => h) (Or.inl ⟨by rfl, ?hyt5812⟩) hHeld ?restt5812
              case hyt5812 => (intro w hSw; (try dsimp only at hSw); go_simp; (try with_reducible rfl))
              try simp only [Act.put, List.setIfInBounds_toArray, List.set_cons_zero, List.set_cons_succ]
              have hb := H58.out.b
              have j0 := (hb.cell (p := ⟨T + 1, 0, none⟩) (show T + 1 < n0 by omega)).trans HE.out.1.1
              have j1 := (hb.cell (p := ⟨T + 1, 1, none⟩) (show T + 1 < n0 by omega)).trans HE.out.1.2.1
              have j2 := (hb.cell (p := ⟨T + 1, 2, none⟩) (show T + 1 < n0 by omega)).trans HE.out.1.2.2
              have m0 := (hb.frozen (p := ⟨T + 1, 0, none⟩) (show T + 1 < n0 by omega)).trans HE.out.2.1
              have m1 := (hb.frozen (p := ⟨T + 1, 1, none⟩) (show T + 1 < n0 by omega)).trans HE.out.2.2.1
              have m2 := (hb.frozen (p := ⟨T + 1, 2, none⟩) (show T + 1 < n0 by omega)).trans HE.out.2.2.2
              refine wpAnyH_ready (rs := [13]) (by kernel_rfl) (by simp) ?_
              refine AllReadyH.cons rfl (fun K hK => ?_) AllReadyH.nil
              go_simp
              refine hK.out _ _ (by simp only [set_other _ _ (show T ≠ T + 1 by omega)]; exact hHeld) (fun hHeld => ?_)
              clear hK K
              try simp only [Act.put, List.setIfInBounds_toArray, List.set_cons_zero, List.set_cons_succ]
              refine wpAnyH_done (by kernel_rfl) ?_ _
              go_wp2
              refine bodyPost_ret (v := .agg #[.slice b54 L1 e54, .slice b56 L2 e56, .slice b58 L3 e58]) (by simp [results, Try.results41, go_sem, j0, j1, j2]) rfl ?_
              exact FIN.out _ _ _ _ H58.out
    case q5 =>
      clear hHeld
      go_simp
      have H60 := Lib.hid H4.out.al_z
      obtain ⟨g60, hg60⟩ : ∃ g, W4.heap.size = g := ⟨_, rfl⟩
      rw [hg60] at H60 ⊢
      generalize (W4.alloc (.cells #[] 3)) = W60 at *
      refine hK.out _ _ (MK.out _ H60.out.b) (fun hHeld => ?_)
      clear hK K H4 hg60
      try simp only [Act.put, List.setIfInBounds_toArray, List.set_cons_zero, List.set_cons_succ]
      refine wpAnyH_ready (rs := [3, 4]) (by kernel_rfl) (by simp) ?_
      refine AllReadyH.cons rfl (fun K hK => ?q62) (AllReadyH.cons rfl (fun K hK => ?q61) AllReadyH.nil)
      case q62 =>
        clear hHeld
        obtain ⟨v63, W63, hr, hst⟩ := H60.out.ap_x a1 c1 s.g (by have := HLn.out; omega) HS.out.g
        obtain ⟨b63, e63, rfl, _⟩ := (hst.px _ _ rfl).form
        rw [HLn.out.1] at hr hst
        have H63 := Lib.hid hst
        clear hst
        rw [if_pos (by rfl)]
        refine wp_app rfl rfl rfl hr ?_
        refine hK.out _ _ (MK.out _ H63.out.b) (fun hHeld => ?_)
        clear hK K H60 hr
        try simp only [Act.put, List.setIfInBounds_toArray, List.set_cons_zero, List.set_cons_succ]
        refine wpAnyH_ready (rs := [4]) (by kernel_rfl) (by simp) ?_
        refine AllReadyH.cons rfl (fun K hK => ?q64) AllReadyH.nil
        case q64 =>
          clear hHeld
          go_simp
          have H65 := Lib.hid H63.out.al_y
          obtain ⟨g65, hg65⟩ : ∃ g, W63.heap.size = g := ⟨_, rfl⟩
          rw [hg65] at H65 ⊢
          generalize (W63.alloc (.cells #[] 4)) = W65 at *
          refine hK.out _ _ (MK.out _ H65.out.b) (fun hHeld => ?_)
          clear hK K H63 hg65
          try simp only [Act.put, List.setIfInBounds_toArray, List.set_cons_zero, List.set_cons_succ]
          refine wpAnyH_ready (rs := [7]) (by kernel_rfl) (by simp) ?_
          refine AllReadyH.cons rfl (fun K hK => ?q66) AllReadyH.nil
          case q66 =>
            clear hHeld
            obtain ⟨v67, W67, hr, hst⟩ := H65.out.ap_y a2 c2 s.u (by have := HLn.out; omega) HS.out.u
            obtain ⟨b67, e67, rfl, _⟩ := (hst.py _ _ rfl).form
            rw [HLn.out.2.1] at hr hst
            have H67 := Lib.hid hst
            clear hst
            rw [if_pos (by rfl)]
            refine wp_app rfl rfl rfl hr ?_
            refine hK.out _ _ (MK.out _ H67.out.b) (fun hHeld => ?_)
            clear hK K H65 hr
            try simp only [Act.put, List.setIfInBounds_toArray, List.set_cons_zero, List.set_cons_succ]
            refine wpAnyH_ready (rs := [11]) (by kernel_rfl) (by simp) ?_
            refine AllReadyH.cons rfl (fun K hK => ?q68) AllReadyH.nil
            case q68 =>
              clear hHeld
              obtain ⟨v69, W69, hr, hst⟩ := H67.out.ap_z a3 c3 s.f (by have := HLn.out; omega) HS.out.f
              obtain ⟨b69, e69, rfl, _⟩ := (hst.pz _ _ rfl).form
              rw [HLn.out.2.2] at hr hst
              have H69 := Lib.hid hst
              clear hst
              rw [if_pos (by rfl)]
              refine wp_app rfl rfl rfl hr ?_
              refine hK.out _ _ (MK.out _ H69.out.b) (fun hHeld => ?_)
              clear hK K H67 hr
              try simp only [Act.put, List.setIfInBounds_toArray, List.set_cons_zero, List.set_cons_succ]
              refine takeH (i := 12) (some 15) (v := ?_) rfl rfl (by kernel_rfl) (by kernel_rfl) (by kernel_rfl) (fun _ _ _ h => h) (Or.inl ⟨by rfl, ?hyt6912⟩) hHeld ?restt6912
              case hyt6912 => (intro w hSw; (try dsimp only at hSw); go_simp; (try with_reducible rfl))
              try simp only [Act.put, List.setIfInBounds_toArray, List.set_cons_zero, List.set_cons_succ]
              have hb := H69.out.b
              have j0 := (hb.cell (p := ⟨T + 1, 0, none⟩) (show T + 1 < n0 by omega)).trans HE.out.1.1
              have j1 := (hb.cell (p := ⟨T + 1, 1, none⟩) (show T + 1 < n0 by omega)).trans HE.out.1.2.1
              have j2 := (hb.cell (p := ⟨T + 1, 2, none⟩) (show T + 1 < n0 by omega)).trans HE.out.1.2.2
              have m0 := (hb.frozen (p := ⟨T + 1, 0, none⟩) (show T + 1 < n0 by omega)).trans HE.out.2.1
              have m1 := (hb.frozen (p := ⟨T + 1, 1, none⟩) (show T + 1 < n0 by omega)).trans HE.out.2.2.1
              have m2 := (hb.frozen (p := ⟨T + 1, 2, none⟩) (show T + 1 < n0 by omega)).trans HE.out.2.2.2
              refine wpAnyH_ready (rs := [13]) (by kernel_rfl) (by simp) ?_
              refine AllReadyH.cons rfl (fun K hK => ?_) AllReadyH.nil
              go_simp
              refine hK.out _ _ (by simp only [set_other _ _ (show T ≠ T + 1 by omega)]; exact hHeld) (fun hHeld => ?_)
              clear hK K
              try simp only [Act.put, List.setIfInBounds_toArray, List.set_cons_zero, List.set_cons_succ]
              refine wpAnyH_done (by kernel_rfl) ?_ _
              go_wp2
              refine bodyPost_ret (v := .agg #[.slice b63 L1 e63, .slice b67 L2 e67, .slice b69 L3 e69]) (by simp [results, Try.results41, go_sem, j0, j1, j2]) rfl ?_
              exact FIN.out _ _ _ _ H69.out
      case q61 =>
        clear hHeld
        go_simp
        have H71 := Lib.hid H60.out.al_y
        obtain ⟨g71, hg71⟩ : ∃ g, W60.heap.size = g := ⟨_, rfl⟩
        rw [hg71] at H71 ⊢
        generalize (W60.alloc (.cells #[] 4)) = W71 at *
        refine hK.out _ _ (MK.out _ H71.out.b) (fun hHeld => ?_)
        clear hK K H60 hg71
        try simp only [Act.put, List.setIfInBounds_toArray, List.set_cons_zero, List.set_cons_succ]
        refine wpAnyH_ready (rs := [3]) (by kernel_rfl) (by simp) ?_
        refine AllReadyH.cons rfl (fun K hK => ?q72) AllReadyH.nil
        case q72 =>
          clear hHeld
          obtain ⟨v73, W73, hr, hst⟩ := H71.out.ap_x a1 c1 s.g (by have := HLn.out; omega) HS.out.g
          obtain ⟨b73, e73, rfl, _⟩ := (hst.px _ _ rfl).form
          rw [HLn.out.1] at hr hst
          have H73 := Lib.hid hst
          clear hst
          rw [if_pos (by rfl)]
          refine wp_app rfl rfl rfl hr ?_
          refine hK.out _ _ (MK.out _ H73.out.b) (fun hHeld => ?_)
          clear hK K H71 hr
          try simp only [Act.put, List.setIfInBounds_toArray, List.set_cons_zero, List.set_cons_succ]
          refine wpAnyH_ready (rs := [7]) (by kernel_rfl) (by simp) ?_
          refine AllReadyH.cons rfl (fun K hK => ?q74) AllReadyH.nil
          case q74 =>
            clear hHeld
            obtain ⟨v75, W75, hr, hst⟩ := H73.out.ap_y a2 c2 s.u (by have := HLn.out; omega) HS.out.u
            obtain ⟨b75, e75, rfl, _⟩ := (hst.py _ _ rfl).form
            rw [HLn.out.2.1] at hr hst
            have H75 := Lib.hid hst
            clear hst
            rw [if_pos (by rfl)]
            refine wp_app rfl rfl rfl hr ?_
            refine hK.out _ _ (MK.out _ H75.out.b) (fun hHeld => ?_)
            clear hK K H73 hr
            try simp only [Act.put, List.setIfInBounds_toArray, List.set_cons_zero, List.set_cons_succ]
            refine wpAnyH_ready (rs := [11]) (by kernel_rfl) (by simp) ?_
            refine AllReadyH.cons rfl (fun K hK => ?q76) AllReadyH.nil
            case q76 =>
              clear hHeld
              obtain ⟨v77, W77, hr, hst⟩ := H75.out.ap_z a3 c3 s.f (by have := HLn.out; omega) HS.out.f
              obtain ⟨b77, e77, rfl, _⟩ := (hst.pz _ _ rfl).form
              rw [HLn.out.2.2] at hr hst
              have H77 := Lib.hid hst
              clear hst
              rw [if_pos (by rfl)]
              refine wp_app rfl rfl rfl hr ?_
              refine hK.out _ _ (MK.out _ H77.out.b) (fun hHeld => ?_)
              clear hK K H75 hr
              try simp only [Act.put, List.setIfInBounds_toArray, List.set_cons_zero, List.set_cons_succ]
              refine takeH (i := 12) (some 15) (v := ?_) rfl rfl (by kernel_rfl) (by kernel_rfl) (by kernel_rfl) (fun _ _ _ h => h) (Or.inl ⟨by rfl, ?hyt7712⟩) hHeld ?restt7712
              case hyt7712 => (intro w hSw; (try dsimp only at hSw); go_simp; (try with_reducible rfl))
              try simp only [Act.put, List.setIfInBounds_toArray, List.set_cons_zero, List.set_cons_succ]
              have hb := H77.out.b
              have j0 := (hb.cell (p := ⟨T + 1, 0, none⟩) (show T + 1 < n0 by omega)).trans HE.out.1.1
              have j1 := (hb.cell (p := ⟨T + 1, 1, none⟩) (show T + 1 < n0 by omega)).trans HE.out.1.2.1
              have j2 := (hb.cell (p := ⟨T + 1, 2, none⟩) (show T + 1 < n0 by omega)).trans HE.out.1.2.2
              have m0 := (hb.frozen (p := ⟨T + 1, 0, none⟩) (show T + 1 < n0 by omega)).trans HE.out.2.1
              have m1 := (hb.frozen (p := ⟨T + 1, 1, none⟩) (show T + 1 < n0 by omega)).trans HE.out.2.2.1
              have m2 := (hb.frozen (p := ⟨T + 1, 2, none⟩) (show T + 1 < n0 by omega)).trans HE.out.2.2.2
              refine wpAnyH_ready (rs := [13]) (by kernel_rfl) (by simp) ?_
              refine AllReadyH.cons rfl (fun K hK => ?_) AllReadyH.nil
              go_simp
              refine hK.out _ _ (by simp only [set_other _ _ (show T ≠ T + 1 by omega)]; exact hHeld) (fun hHeld => ?_)
              clear hK K
              try simp only [Act.put, List.setIfInBounds_toArray, List.set_cons_zero, List.set_cons_succ]
              refine wpAnyH_done (by kernel_rfl) ?_ _
              go_wp2
              refine bodyPost_ret (v := .agg #[.slice b73 L1 e73, .slice b75 L2 e75, .slice b77 L3 e77]) (by simp [results, Try.results41, go_sem, j0, j1, j2]) rfl ?_
              exact FIN.out _ _ _ _ H77.out
  case q2 =>
    clear hHeld
    go_simp
    have H79 := Lib.hid H0.out.al_y
    obtain ⟨g79, hg79⟩ : ∃ g, W0.heap.size = g := ⟨_, rfl⟩
    rw [hg79] at H79 ⊢
    generalize (W0.alloc (.cells #[] 4)) = W79 at *
    refine hK.out _ _ (MK.out _ H79.out.b) (fun hHeld => ?_)
    clear hK K H0 hg79
    try simp only [Act.put, List.setIfInBounds_toArray, List.set_cons_zero, List.set_cons_succ]
    refine wpAnyH_ready (rs := [0, 8]) (by kernel_rfl) (by simp) ?_
    refine AllReadyH.cons rfl (fun K hK => ?q81) (AllReadyH.cons rfl (fun K hK => ?q80) AllReadyH.nil)
    case q81 =>
      clear hHeld
      go_simp
      have H82 := Lib.hid H79.out.al_x
      obtain ⟨g82, hg82⟩ : ∃ g, W79.heap.size = g := ⟨_, rfl⟩
      rw [hg82] at H82 ⊢
      generalize (W79.alloc (.cells #[] 3)) = W82 at *
      refine hK.out _ _ (MK.out _ H82.out.b) (fun hHeld => ?_)
      clear hK K H79 hg82
      try simp only [Act.put, List.setIfInBounds_toArray, List.set_cons_zero, List.set_cons_succ]
      refine wpAnyH_ready (rs := [3, 8]) (by kernel_rfl) (by simp) ?_
      refine AllReadyH.cons rfl (fun K hK => ?q84) (AllReadyH.cons rfl (fun K hK => ?q83) AllReadyH.nil)
      case q84 =>
        clear hHeld
        obtain ⟨v85, W85, hr, hst⟩ := H82.out.ap_x a1 c1 s.g (by have := HLn.out; omega) HS.out.g
        obtain ⟨b85, e85, rfl, _⟩ := (hst.px _ _ rfl).form
        rw [HLn.out.1] at hr hst
        have H85 := Lib.hid hst
        clear hst
        rw [if_pos (by rfl)]
        refine wp_app rfl rfl rfl hr ?_
        refine hK.out _ _ (MK.out _ H85.out.b) (fun hHeld => ?_)
        clear hK K H82 hr
        try simp only [Act.put, List.setIfInBounds_toArray, List.set_cons_zero, List.set_cons_succ]
        refine wpAnyH_ready (rs := [7, 8]) (by kernel_rfl) (by simp) ?_
        refine AllReadyH.cons rfl (fun K hK => ?q87) (AllReadyH.cons rfl (fun K hK => ?q86) AllReadyH.nil)
        case q87 =>
          clear hHeld
          obtain ⟨v88, W88, hr, hst⟩ := H85.out.ap_y a2 c2 s.u (by have := HLn.out; omega) HS.out.u
          obtain ⟨b88, e88, rfl, _⟩ := (hst.py _ _ rfl).form
          rw [HLn.out.2.1] at hr hst
          have H88 := Lib.hid hst
          clear hst
          rw [if_pos (by rfl)]
          refine wp_app rfl rfl rfl hr ?_
          refine hK.out _ _ (MK.out _ H88.out.b) (fun hHeld => ?_)
          clear hK K H85 hr
          try simp only [Act.put, List.setIfInBounds_toArray, List.set_cons_zero, List.set_cons_succ]
          refine wpAnyH_ready (rs := [8]) (by kernel_rfl) (by simp) ?_
          refine AllReadyH.cons rfl (fun K hK => ?q89) AllReadyH.nil
          case q89 =>
            clear hHeld
            go_simp
            have H90 := Lib.hid H88.out.al_z
            obtain ⟨g90, hg90⟩ : ∃ g, W88.heap.size = g := ⟨_, rfl⟩
            rw [hg90] at H90 ⊢
            generalize (W88.alloc (.cells #[] 3)) = W90 at *
            refine hK.out _ _ (MK.out _ H90.out.b) (fun hHeld => ?_)
            clear hK K H88 hg90
            try simp only [Act.put, List.setIfInBounds_toArray, List.set_cons_zero, List.set_cons_succ]
            refine wpAnyH_ready (rs := [11]) (by kernel_rfl) (by simp) ?_
            refine AllReadyH.cons rfl (fun K hK => ?q91) AllReadyH.nil
            case q91 =>
              clear hHeld
              obtain ⟨v92, W92, hr, hst⟩ := H90.out.ap_z a3 c3 s.f (by have := HLn.out; omega) HS.out.f
              obtain ⟨b92, e92, rfl, _⟩ := (hst.pz _ _ rfl).form
              rw [HLn.out.2.2] at hr hst
              have H92 := Lib.hid hst
              clear hst
              rw [if_pos (by rfl)]
              refine wp_app rfl rfl rfl hr ?_
              refine hK.out _ _ (MK.out _ H92.out.b) (fun hHeld => ?_)
              clear hK K H90 hr
              try simp only [Act.put, List.setIfInBounds_toArray, List.set_cons_zero, List.set_cons_succ]
              refine takeH (i := 12) (some 15) (v := ?_) rfl rfl (by kernel_rfl) (by kernel_rfl) (by kernel_rfl) (fun _ _ _ h => h) (Or.inl ⟨by rfl, ?hyt9212⟩) hHeld ?restt9212
              case hyt9212 => (intro w hSw; (try dsimp only at hSw); go_simp; (try with_reducible rfl))
              try simp only [Act.put, List.setIfInBounds_toArray, List.set_cons_zero, List.set_cons_succ]
              have hb := H92.out.b
              have j0 := (hb.cell (p := ⟨T + 1, 0, none⟩) (show T + 1 < n0 by omega)).trans HE.out.1.1
              have j1 := (hb.cell (p := ⟨T + 1, 1, none⟩) (show T + 1 < n0 by omega)).trans HE.out.1.2.1
              have j2 := (hb.cell (p := ⟨T + 1, 2, none⟩) (show T + 1 < n0 by omega)).trans HE.out.1.2.2
              have m0 := (hb.frozen (p := ⟨T + 1, 0, none⟩) (show T + 1 < n0 by omega)).trans HE.out.2.1
              have m1 := (hb.frozen (p := ⟨T + 1, 1, none⟩) (show T + 1 < n0 by omega)).trans HE.out.2.2.1
              have m2 := (hb.frozen (p := ⟨T + 1, 2, none⟩) (show T + 1 < n0 by omega)).trans HE.out.2.2.2
              refine wpAnyH_ready (rs := [13]) (by kernel_rfl) (by simp) ?_
              refine AllReadyH.cons rfl (fun K hK => ?_) AllReadyH.nil
              go_simp
              refine hK.out _ _ (by simp only [set_other _ _ (show T ≠ T + 1 by omega)]; exact hHeld) (fun hHeld => ?_)
              clear hK K
              try simp only [Act.put, List.setIfInBounds_toArray, List.set_cons_zero, List.set_cons_succ]
              refine wpAnyH_done (by kernel_rfl) ?_ _
              go_wp2
              refine bodyPost_ret (v := .agg #[.slice b85 L1 e85, .slice b88 L2 e88, .slice b92 L3 e92]) (by simp [results, Try.results41, go_sem, j0, j1, j2]) rfl ?_
              exact FIN.out _ _ _ _ H92.out
        case q86 =>
          clear hHeld
          go_simp
          have H94 := Lib.hid H85.out.al_z
          obtain ⟨g94, hg94⟩ : ∃ g, W85.heap.size = g := ⟨_, rfl⟩
          rw [hg94] at H94 ⊢
          generalize (W85.alloc (.cells #[] 3)) = W94 at *
          refine hK.out _ _ (MK.out _ H94.out.b) (fun hHeld => ?_)
          clear hK K H85 hg94
          try simp only [Act.put, List.setIfInBounds_toArray, List.set_cons_zero, List.set_cons_succ]
          refine wpAnyH_ready (rs := [7]) (by kernel_rfl) (by simp) ?_
          refine AllReadyH.cons rfl (fun K hK => ?q95) AllReadyH.nil
          case q95 =>
            clear hHeld
            obtain ⟨v96, W96, hr, hst⟩ := H94.out.ap_y a2 c2 s.u (by have := HLn.out; omega) HS.out.u
            obtain ⟨b96, e96, rfl, _⟩ := (hst.py _ _ rfl).form
            rw [HLn.out.2.1] at hr hst
            have H96 := Lib.hid hst
            clear hst
            rw [if_pos (by rfl)]
            refine wp_app rfl rfl rfl hr ?_
            refine hK.out _ _ (MK.out _ H96.out.b) (fun hHeld => ?_)
            clear hK K H94 hr
            try simp only [Act.put, List.setIfInBounds_toArray, List.set_cons_zero, List.set_cons_succ]
            refine wpAnyH_ready (rs := [11]) (by kernel_rfl) (by simp) ?_
            refine AllReadyH.cons rfl (fun K hK => ?q97) AllReadyH.nil
            case q97 =>
              clear hHeld
              obtain ⟨v98, W98, hr, hst⟩ := H96.out.ap_z a3 c3 s.f (by have := HLn.out; omega) HS.out.f
              obtain ⟨b98, e98, rfl, _⟩ := (hst.pz _ _ rfl).form
              rw [HLn.out.2.2] at hr hst
              have H98 := Lib.hid hst
              clear hst
              rw [if_pos (by rfl)]
              refine wp_app rfl rfl rfl hr ?_
              refine hK.out _ _ (MK.out _ H98.out.b) (fun hHeld => ?_)
              clear hK K H96 hr
              try simp only [Act.put, List.setIfInBounds_toArray, List.set_cons_zero, List.set_cons_succ]
              refine takeH (i := 12) (some 15) (v := ?_) rfl rfl (by kernel_rfl) (by kernel_rfl) (by kernel_rfl) (fun _ _ _ h => h) (Or.inl ⟨by rfl, ?hyt9812⟩) hHeld ?restt9812
              case hyt9812 => (intro w hSw; (try dsimp only at hSw); go_simp; (try with_reducible rfl))
              try simp only [Act.put, List.setIfInBounds_toArray, List.set_cons_zero, List.set_cons_succ]
              have hb := H98.out.b
              have j0 := (hb.cell (p := ⟨T + 1, 0, none⟩) (show T + 1 < n0 by omega)).trans HE.out.1.1
              have j1 := (hb.cell (p := ⟨T + 1, 1, none⟩) (show T + 1 < n0 by omega)).trans HE.out.1.2.1
              have j2 := (hb.cell (p := ⟨T + 1, 2, none⟩) (show T + 1 < n0 by omega)).trans HE.out.1.2.2
              have m0 := (hb.frozen (p := ⟨T + 1, 0, none⟩) (show T + 1 < n0 by omega)).trans HE.out.2.1
              have m1 := (hb.frozen (p := ⟨T + 1, 1, none⟩) (show T + 1 < n0 by omega)).trans HE.out.2.2.1
              have m2 := (hb.frozen (p := ⟨T + 1, 2, none⟩) (show T + 1 < n0 by omega)).trans HE.out.2.2.2
              refine wpAnyH_ready (rs := [13]) (by kernel_rfl) (by simp) ?_
              refine AllReadyH.cons rfl (fun K hK => ?_) AllReadyH.nil
              go_simp
              refine hK.out _ _ (by simp only [set_other _ _ (show T ≠ T + 1 by omega)]; exact hHeld) (fun hHeld => ?_)
              clear hK K
              try simp only [Act.put, List.setIfInBounds_toArray, List.set_cons_zero, List.set_cons_succ]
              refine wpAnyH_done (by kernel_rfl) ?_ _
              go_wp2
              refine bodyPost_ret (v := .agg #[.slice b85 L1 e85, .slice b96 L2 e96, .slice b98 L3 e98]) (by simp [results, Try.results41, go_sem, j0, j1, j2]) rfl ?_
              exact FIN.out _ _ _ _ H98.out
      case q83 =>
        clear hHeld
        go_simp
        have H100 := Lib.hid H82.out.al_z
        obtain ⟨g100, hg100⟩ : ∃ g, W82.heap.size = g := ⟨_, rfl⟩
        rw [hg100] at H100 ⊢
        generalize (W82.alloc (.cells #[] 3)) = W100 at *
        refine hK.out _ _ (MK.out _ H100.out.b) (fun hHeld => ?_)
        clear hK K H82 hg100
        try simp only [Act.put, List.setIfInBounds_toArray, List.set_cons_zero, List.set_cons_succ]
        refine wpAnyH_ready (rs := [3]) (by kernel_rfl) (by simp) ?_
        refine AllReadyH.cons rfl (fun K hK => ?q101) AllReadyH.nil
        case q101 =>
          clear hHeld
          obtain ⟨v102, W102, hr, hst⟩ := H100.out.ap_x a1 c1 s.g (by have := HLn.out; omega) HS.out.g
          obtain ⟨b102, e102, rfl, _⟩ := (hst.px _ _ rfl).form
          rw [HLn.out.1] at hr hst
          have H102 := Lib.hid hst
          clear hst
          rw [if_pos (by rfl)]
          refine wp_app rfl rfl rfl hr ?_
          refine hK.out _ _ (MK.out _ H102.out.b) (fun hHeld => ?_)
          clear hK K H100 hr
          try simp only [Act.put, List.setIfInBounds_toArray, List.set_cons_zero, List.set_cons_succ]
          refine wpAnyH_ready (rs := [7]) (by kernel_rfl) (by simp) ?_
          refine AllReadyH.cons rfl (fun K hK => ?q103) AllReadyH.nil
          case q103 =>
            clear hHeld
            obtain ⟨v104, W104, hr, hst⟩ := H102.out.ap_y a2 c2 s.u (by have := HLn.out; omega) HS.out.u
            obtain ⟨b104, e104, rfl, _⟩ := (hst.py _ _ rfl).form
            rw [HLn.out.2.1] at hr hst
            have H104 := Lib.hid hst
            clear hst
            rw [if_pos (by rfl)]
            refine wp_app rfl rfl rfl hr ?_
            refine hK.out _ _ (MK.out _ H104.out.b) (fun hHeld => ?_)
            clear hK K H102 hr
            try simp only [Act.put, List.setIfInBounds_toArray, List.set_cons_zero, List.set_cons_succ]
            refine wpAnyH_ready (rs := [11]) (by kernel_rfl) (by simp) ?_
            refine AllReadyH.cons rfl (fun K hK => ?q105) AllReadyH.nil
            case q105 =>
              clear hHeld
              obtain ⟨v106, W106, hr, hst⟩ := H104.out.ap_z a3 c3 s.f (by have := HLn.out; omega) HS.out.f
              obtain ⟨b106, e106, rfl, _⟩ := (hst.pz _ _ rfl).form
              rw [HLn.out.2.2] at hr hst
              have H106 := Lib.hid hst
              clear hst
              rw [if_pos (by rfl)]
              refine wp_app rfl rfl rfl hr ?_
              refine hK.out _ _ (MK.out _ H106.out.b) (fun hHeld => ?_)
              clear hK K H104 hr
              try simp only [Act.put, List.setIfInBounds_toArray, List.set_cons_zero, List.set_cons_succ]
              refine takeH (i := 12) (some 15) (v := ?_) rfl rfl (by kernel_rfl) (by kernel_rfl) (by kernel_rfl) (fun _ _ _ h => h) (Or.inl ⟨by rfl, ?hyt10612⟩) hHeld ?restt10612
              case hyt10612 => (intro w hSw; (try dsimp only at hSw); go_simp; (try with_reducible rfl))
              try simp only [Act.put, List.setIfInBounds_toArray, List.set_cons_zero, List.set_cons_succ]
              have hb := H106.out.b
              have j0 := (hb.cell (p := ⟨T + 1, 0, none⟩) (show T + 1 < n0 by omega)).trans HE.out.1.1
              have j1 := (hb.cell (p := ⟨T + 1, 1, none⟩) (show T + 1 < n0 by omega)).trans HE.out.1.2.1
              have j2 := (hb.cell (p := ⟨T + 1, 2, none⟩) (show T + 1 < n0 by omega)).trans HE.out.1.2.2
              have m0 := (hb.frozen (p := ⟨T + 1, 0, none⟩) (show T + 1 < n0 by omega)).trans HE.out.2.1
              have m1 := (hb.frozen (p := ⟨T + 1, 1, none⟩) (show T + 1 < n0 by omega)).trans HE.out.2.2.1
              have m2 := (hb.frozen (p := ⟨T + 1, 2, none⟩) (show T + 1 < n0 by omega)).trans HE.out.2.2.2
              refine wpAnyH_ready (rs := [13]) (by kernel_rfl) (by simp) ?_
              refine AllReadyH.cons rfl (fun K hK => ?_) AllReadyH.nil
              go_simp
              refine hK.out _ _ (by simp only [set_other _ _ (show T ≠ T + 1 by omega)]; exact hHeld) (fun hHeld => ?_)
              clear hK K
              try simp only [Act.put, List.setIfInBounds_toArray, List.set_cons_zero, List.set_cons_succ]
              refine wpAnyH_done (by kernel_rfl) ?_ _
              go_wp2
              refine bodyPost_ret (v := .agg #[.slice b102 L1 e102, .slice b104 L2 e104, .slice b106 L3 e106]) (by simp [results, Try.results41, go_sem, j0, j1, j2]) rfl ?_
              exact FIN.out _ _ _ _ H106.out
    case q80 =>
      clear hHeld
      go_simp
      have H108 := Lib.hid H79.out.al_z
      obtain ⟨g108, hg108⟩ : ∃ g, W79.heap.size = g := ⟨_, rfl⟩
      rw [hg108] at H108 ⊢
      generalize (W79.alloc (.cells #[] 3)) = W108 at *
      refine hK.out _ _ (MK.out _ H108.out.b) (fun hHeld => ?_)
      clear hK K H79 hg108
      try simp only [Act.put, List.setIfInBounds_toArray, List.set_cons_zero, List.set_cons_succ]
      refine wpAnyH_ready (rs := [0]) (by kernel_rfl) (by simp) ?_
      refine AllReadyH.cons rfl (fun K hK => ?q109) AllReadyH.nil
      case q109 =>
        clear hHeld
        go_simp
        have H110 := Lib.hid H108.out.al_x
        obtain ⟨g110, hg110⟩ : ∃ g, W108.heap.size = g := ⟨_, rfl⟩
        rw [hg110] at H110 ⊢
        generalize (W108.alloc (.cells #[] 3)) = W110 at *
        refine hK.out _ _ (MK.out _ H110.out.b) (fun hHeld => ?_)
        clear hK K H108 hg110
        try simp only [Act.put, List.setIfInBounds_toArray, List.set_cons_zero, List.set_cons_succ]
        refine wpAnyH_ready (rs := [3]) (by kernel_rfl) (by simp) ?_
        refine AllReadyH.cons rfl (fun K hK => ?q111) AllReadyH.nil
        case q111 =>
          clear hHeld
          obtain ⟨v112, W112, hr, hst⟩ := H110.out.ap_x a1 c1 s.g (by have := HLn.out; omega) HS.out.g
          obtain ⟨b112, e112, rfl, _⟩ := (hst.px _ _ rfl).form
          rw [HLn.out.1] at hr hst
          have H112 := Lib.hid hst
          clear hst
          rw [if_pos (by rfl)]
          refine wp_app rfl rfl rfl hr ?_
          refine hK.out _ _ (MK.out _ H112.out.b) (fun hHeld => ?_)
          clear hK K H110 hr
          try simp only [Act.put, List.setIfInBounds_toArray, List.set_cons_zero, List.set_cons_succ]
          refine wpAnyH_ready (rs := [7]) (by kernel_rfl) (by simp) ?_
          refine AllReadyH.cons rfl (fun K hK => ?q113) AllReadyH.nil
          case q113 =>
            clear hHeld
            obtain ⟨v114, W114, hr, hst⟩ := H112.out.ap_y a2 c2 s.u (by have := HLn.out; omega) HS.out.u
            obtain ⟨b114, e114, rfl, _⟩ := (hst.py _ _ rfl).form
            rw [HLn.out.2.1] at hr hst
            have H114 := Lib.hid hst
            clear hst
            rw [if_pos (by rfl)]
            refine wp_app rfl rfl rfl hr ?_
            refine hK.out _ _ (MK.out _ H114.out.b) (fun hHeld => ?_)
            clear hK K H112 hr
            try simp only [Act.put, List.setIfInBounds_toArray, List.set_cons_zero, List.set_cons_succ]
            refine wpAnyH_ready (rs := [11]) (by kernel_rfl) (by simp) ?_
            refine AllReadyH.cons rfl (fun K hK => ?q115) AllReadyH.nil
            case q115 =>
              clear hHeld
              obtain ⟨v116, W116, hr, hst⟩ := H114.out.ap_z a3 c3 s.f (by have := HLn.out; omega) HS.out.f
              obtain ⟨b116, e116, rfl, _⟩ := (hst.pz _ _ rfl).form
              rw [HLn.out.2.2] at hr hst
              have H116 := Lib.hid hst
              clear hst
              rw [if_pos (by rfl)]
              refine wp_app rfl rfl rfl hr ?_
              refine hK.out _ _ (MK.out _ H116.out.b) (fun hHeld => ?_)
              clear hK K H114 hr
              try simp only [Act.put, List.setIfInBounds_toArray, List.set_cons_zero, List.set_cons_succ]
              refine takeH (i := 12) (some 15) (v := ?_) rfl rfl (by kernel_rfl) (by kernel_rfl) (by kernel_rfl) (fun _ _ _ h => h) (Or.inl ⟨by rfl, ?hyt11612⟩) hHeld ?restt11612
              case hyt11612 => (intro w hSw; (try dsimp only at hSw); go_simp; (try with_reducible rfl))
              try simp only [Act.put, List.setIfInBounds_toArray, List.set_cons_zero, List.set_cons_succ]
              have hb := H116.out.b
              have j0 := (hb.cell (p := ⟨T + 1, 0, none⟩) (show T + 1 < n0 by omega)).trans HE.out.1.1
              have j1 := (hb.cell (p := ⟨T + 1, 1, none⟩) (show T + 1 < n0 by omega)).trans HE.out.1.2.1
              have j2 := (hb.cell (p := ⟨T + 1, 2, none⟩) (show T + 1 < n0 by omega)).trans HE.out.1.2.2
              have m0 := (hb.frozen (p := ⟨T + 1, 0, none⟩) (show T + 1 < n0 by omega)).trans HE.out.2.1
              have m1 := (hb.frozen (p := ⟨T + 1, 1, none⟩) (show T + 1 < n0 by omega)).trans HE.out.2.2.1
              have m2 := (hb.frozen (p := ⟨T + 1, 2, none⟩) (show T + 1 < n0 by omega)).trans HE.out.2.2.2
              refine wpAnyH_ready (rs := [13]) (by kernel_rfl) (by simp) ?_
              refine AllReadyH.cons rfl (fun K hK => ?_) AllReadyH.nil
              go_simp
              refine hK.out _ _ (by simp only [set_other _ _ (show T ≠ T + 1 by omega)]; exact hHeld) (fun hHeld => ?_)
              clear hK K
              try simp only [Act.put, List.setIfInBounds_toArray, List.set_cons_zero, List.set_cons_succ]
              refine wpAnyH_done (by kernel_rfl) ?_ _
              go_wp2
              refine bodyPost_ret (v := .agg #[.slice b112 L1 e112, .slice b114 L2 e114, .slice b116 L3 e116]) (by simp [results, Try.results41, go_sem, j0, j1, j2]) rfl ?_
              exact FIN.out _ _ _ _ H116.out
  case q1 =>
    clear hHeld
    go_simp
    have H118 := Lib.hid H0.out.al_z
    obtain ⟨g118, hg118⟩ : ∃ g, W0.heap.size = g := ⟨_, rfl⟩
    rw [hg118] at H118 ⊢
    generalize (W0.alloc (.cells #[] 3)) = W118 at *
    refine hK.out _ _ (MK.out _ H118.out.b) (fun hHeld => ?_)
    clear hK K H0 hg118
    try simp only [Act.put, List.setIfInBounds_toArray, List.set_cons_zero, List.set_cons_succ]
    refine wpAnyH_ready (rs := [0, 4]) (by kernel_rfl) (by simp) ?_
    refine AllReadyH.cons rfl (fun K hK => ?q120) (AllReadyH.cons rfl (fun K hK => ?q119) AllReadyH.nil)
    case q120 =>
      clear hHeld
      go_simp
      have H121 := Lib.hid H118.out.al_x
      obtain ⟨g121, hg121⟩ : ∃ g, W118.heap.size = g := ⟨_, rfl⟩
      rw [hg121] at H121 ⊢
      generalize (W118.alloc (.cells #[] 3)) = W121 at *
      refine hK.out _ _ (MK.out _ H121.out.b) (fun hHeld => ?_)
      clear hK K H118 hg121
      try simp only [Act.put, List.setIfInBounds_toArray, List.set_cons_zero, List.set_cons_succ]
      refine wpAnyH_ready (rs := [3, 4]) (by kernel_rfl) (by simp) ?_
      refine AllReadyH.cons rfl (fun K hK => ?q123) (AllReadyH.cons rfl (fun K hK => ?q122) AllReadyH.nil)
      case q123 =>
        clear hHeld
        obtain ⟨v124, W124, hr, hst⟩ := H121.out.ap_x a1 c1 s.g (by have := HLn.out; omega) HS.out.g
        obtain ⟨b124, e124, rfl, _⟩ := (hst.px _ _ rfl).form
        rw [HLn.out.1] at hr hst
        have H124 := Lib.hid hst
        clear hst
        rw [if_pos (by rfl)]
        refine wp_app rfl rfl rfl hr ?_
        refine hK.out _ _ (MK.out _ H124.out.b) (fun hHeld => ?_)
        clear hK K H121 hr
        try simp only [Act.put, List.setIfInBounds_toArray, List.set_cons_zero, List.set_cons_succ]
        refine wpAnyH_ready (rs := [4]) (by kernel_rfl) (by simp) ?_
        refine AllReadyH.cons rfl (fun K hK => ?q125) AllReadyH.nil
        case q125 =>
          clear hHeld
          go_simp
          have H126 := Lib.hid H124.out.al_y
          obtain ⟨g126, hg126⟩ : ∃ g, W124.heap.size = g := ⟨_, rfl⟩
          rw [hg126] at H126 ⊢
          generalize (W124.alloc (.cells #[] 4)) = W126 at *
          refine hK.out _ _ (MK.out _ H126.out.b) (fun hHeld => ?_)
          clear hK K H124 hg126
          try simp only [Act.put, List.setIfInBounds_toArray, List.set_cons_zero, List.set_cons_succ]
          refine wpAnyH_ready (rs := [7]) (by kernel_rfl) (by simp) ?_
          refine AllReadyH.cons rfl (fun K hK => ?q127) AllReadyH.nil
          case q127 =>
            clear hHeld
            obtain ⟨v128, W128, hr, hst⟩ := H126.out.ap_y a2 c2 s.u (by have := HLn.out; omega) HS.out.u
            obtain ⟨b128, e128, rfl, _⟩ := (hst.py _ _ rfl).form
            rw [HLn.out.2.1] at hr hst
            have H128 := Lib.hid hst
            clear hst
            rw [if_pos (by rfl)]
            refine wp_app rfl rfl rfl hr ?_
            refine hK.out _ _ (MK.out _ H128.out.b) (fun hHeld => ?_)
            clear hK K H126 hr
            try simp only [Act.put, List.setIfInBounds_toArray, List.set_cons_zero, List.set_cons_succ]
            refine wpAnyH_ready (rs := [11]) (by kernel_rfl) (by simp) ?_
            refine AllReadyH.cons rfl (fun K hK => ?q129) AllReadyH.nil
            case q129 =>
              clear hHeld
              obtain ⟨v130, W130, hr, hst⟩ := H128.out.ap_z a3 c3 s.f (by have := HLn.out; omega) HS.out.f
              obtain ⟨b130, e130, rfl, _⟩ := (hst.pz _ _ rfl).form
              rw [HLn.out.2.2] at hr hst
              have H130 := Lib.hid hst
              clear hst
              rw [if_pos (by rfl)]
              refine wp_app rfl rfl rfl hr ?_
              refine hK.out _ _ (MK.out _ H130.out.b) (fun hHeld => ?_)
              clear hK K H128 hr
              try simp only [Act.put, List.setIfInBounds_toArray, List.set_cons_zero, List.set_cons_succ]
              refine takeH (i := 12) (some 15) (v := ?_) rfl rfl (by kernel_rfl) (by kernel_rfl) (by kernel_rfl) (fun _ _ _ h => h) (Or.inl ⟨by rfl, ?hyt13012⟩) hHeld ?restt13012
              case hyt13012 => (intro w hSw; (try dsimp only at hSw); go_simp; (try with_reducible rfl))
              try simp only [Act.put, List.setIfInBounds_toArray, List.set_cons_zero, List.set_cons_succ]
              have hb := H130.out.b
              have j0 := (hb.cell (p := ⟨T + 1, 0, none⟩) (show T + 1 < n0 by omega)).trans HE.out.1.1
              have j1 := (hb.cell (p := ⟨T + 1, 1, none⟩) (show T + 1 < n0 by omega)).trans HE.out.1.2.1
              have j2 := (hb.cell (p := ⟨T + 1, 2, none⟩) (show T + 1 < n0 by omega)).trans HE.out.1.2.2
              have m0 := (hb.frozen (p := ⟨T + 1, 0, none⟩) (show T + 1 < n0 by omega)).trans HE.out.2.1
              have m1 := (hb.frozen (p := ⟨T + 1, 1, none⟩) (show T + 1 < n0 by omega)).trans HE.out.2.2.1
              have m2 := (hb.frozen (p := ⟨T + 1, 2, none⟩) (show T + 1 < n0 by omega)).trans HE.out.2.2.2
              refine wpAnyH_ready (rs := [13]) (by kernel_rfl) (by simp) ?_
              refine AllReadyH.cons rfl (fun K hK => ?_) AllReadyH.nil
              go_simp
              refine hK.out _ _ (by simp only [set_other _ _ (show T ≠ T + 1 by omega)]; exact hHeld) (fun hHeld => ?_)
              clear hK K
              try simp only [Act.put, List.setIfInBounds_toArray, List.set_cons_zero, List.set_cons_succ]
              refine wpAnyH_done (by kernel_rfl) ?_ _
              go_wp2
              refine bodyPost_ret (v := .agg #[.slice b124 L1 e124, .slice b128 L2 e128, .slice b130 L3 e130]) (by simp [results, Try.results41, go_sem, j0, j1, j2]) rfl ?_
              exact FIN.out _ _ _ _ H130.out
      case q122 =>
        clear hHeld
        go_simp
        have H132 := Lib.hid H121.out.al_y
        obtain ⟨g132, hg132⟩ : ∃ g, W121.heap.size = g := ⟨_, rfl⟩
        rw [hg132] at H132 ⊢
        generalize (W121.alloc (.cells #[] 4)) = W132 at *
        refine hK.out _ _ (MK.out _ H132.out.b) (fun hHeld => ?_)
        clear hK K H121 hg132
        try simp only [Act.put, List.setIfInBounds_toArray, List.set_cons_zero, List.set_cons_succ]
        refine wpAnyH_ready (rs := [3]) (by kernel_rfl) (by simp) ?_
        refine AllReadyH.cons rfl (fun K hK => ?q133) AllReadyH.nil
        case q133 =>
          clear hHeld
          obtain ⟨v134, W134, hr, hst⟩ := H132.out.ap_x a1 c1 s.g (by have := HLn.out; omega) HS.out.g
          obtain ⟨b134, e134, rfl, _⟩ := (hst.px _ _ rfl).form
          rw [HLn.out.1] at hr hst
          have H134 := Lib.hid hst
          clear hst
          rw [if_pos (by rfl)]
          refine wp_app rfl rfl rfl hr ?_
          refine hK.out _ _ (MK.out _ H134.out.b) (fun hHeld => ?_)
          clear hK K H132 hr
          try simp only [Act.put, List.setIfInBounds_toArray, List.set_cons_zero, List.set_cons_succ]
          refine wpAnyH_ready (rs := [7]) (by kernel_rfl) (by simp) ?_
          refine AllReadyH.cons rfl (fun K hK => ?q135) AllReadyH.nil
          case q135 =>
            clear hHeld
            obtain ⟨v136, W136, hr, hst⟩ := H134.out.ap_y a2 c2 s.u (by have := HLn.out; omega) HS.out.u
            obtain ⟨b136, e136, rfl, _⟩ := (hst.py _ _ rfl).form
            rw [HLn.out.2.1] at hr hst
            have H136 := Lib.hid hst
            clear hst
            rw [if_pos (by rfl)]
            refine wp_app rfl rfl rfl hr ?_
            refine hK.out _ _ (MK.out _ H136.out.b) (fun hHeld => ?_)
            clear hK K H134 hr
            try simp only [Act.put, List.setIfInBounds_toArray, List.set_cons_zero, List.set_cons_succ]
            refine wpAnyH_ready (rs := [11]) (by kernel_rfl) (by simp) ?_
            refine AllReadyH.cons rfl (fun K hK => ?q137) AllReadyH.nil
            case q137 =>
              clear hHeld
              obtain ⟨v138, W138, hr, hst⟩ := H136.out.ap_z a3 c3 s.f (by have := HLn.out; omega) HS.out.f
              obtain ⟨b138, e138, rfl, _⟩ := (hst.pz _ _ rfl).form
              rw [HLn.out.2.2] at hr hst
              have H138 := Lib.hid hst
              clear hst
              rw [if_pos (by rfl)]
              refine wp_app rfl rfl rfl hr ?_
              refine hK.out _ _ (MK.out _ H138.out.b) (fun hHeld => ?_)
              clear hK K H136 hr
              try simp only [Act.put, List.setIfInBounds_toArray, List.set_cons_zero, List.set_cons_succ]
              refine takeH (i := 12) (some 15) (v := ?_) rfl rfl (by kernel_rfl) (by kernel_rfl) (by kernel_rfl) (fun _ _ _ h => h) (Or.inl ⟨by rfl, ?hyt13812⟩) hHeld ?restt13812
              case hyt13812 => (intro w hSw; (try dsimp only at hSw); go_simp; (try with_reducible rfl))
              try simp only [Act.put, List.setIfInBounds_toArray, List.set_cons_zero, List.set_cons_succ]
              have hb := H138.out.b
              have j0 := (hb.cell (p := ⟨T + 1, 0, none⟩) (show T + 1 < n0 by omega)).trans HE.out.1.1
              have j1 := (hb.cell (p := ⟨T + 1, 1, none⟩) (show T + 1 < n0 by omega)).trans HE.out.1.2.1
              have j2 := (hb.cell (p := ⟨T + 1, 2, none⟩) (show T + 1 < n0 by omega)).trans HE.out.1.2.2
              have m0 := (hb.frozen (p := ⟨T + 1, 0, none⟩) (show T + 1 < n0 by omega)).trans HE.out.2.1
              have m1 := (hb.frozen (p := ⟨T + 1, 1, none⟩) (show T + 1 < n0 by omega)).trans HE.out.2.2.1
              have m2 := (hb.frozen (p := ⟨T + 1, 2, none⟩) (show T + 1 < n0 by omega)).trans HE.out.2.2.2
              refine wpAnyH_ready (rs := [13]) (by kernel_rfl) (by simp) ?_
              refine AllReadyH.cons rfl (fun K hK => ?_) AllReadyH.nil
              go_simp
              refine hK.out _ _ (by simp only [set_other _ _ (show T ≠ T + 1 by omega)]; exact hHeld) (fun hHeld => ?_)
              clear hK K
              try simp only [Act.put, List.setIfInBounds_toArray, List.set_cons_zero, List.set_cons_succ]
              refine wpAnyH_done (by kernel_rfl) ?_ _
              go_wp2
              refine bodyPost_ret (v := .agg #[.slice b134 L1 e134, .slice b136 L2 e136, .slice b138 L3 e138]) (by simp [results, Try.results41, go_sem, j0, j1, j2]) rfl ?_
              exact FIN.out _ _ _ _ H138.out
    case q119 =>
      clear hHeld
      go_simp
      have H140 := Lib.hid H118.out.al_y
      obtain ⟨g140, hg140⟩ : ∃ g, W118.heap.size = g := ⟨_, rfl⟩
      rw [hg140] at H140 ⊢
      generalize (W118.alloc (.cells #[] 4)) = W140 at *
      refine hK.out _ _ (MK.out _ H140.out.b) (fun hHeld => ?_)
      clear hK K H118 hg140
      try simp only [Act.put, List.setIfInBounds_toArray, List.set_cons_zero, List.set_cons_succ]
      refine wpAnyH_ready (rs := [0]) (by kernel_rfl) (by simp) ?_
      refine AllReadyH.cons rfl (fun K hK => ?q141) AllReadyH.nil
      case q141 =>
        clear hHeld
        go_simp
        have H142 := Lib.hid H140.out.al_x
        obtain ⟨g142, hg142⟩ : ∃ g, W140.heap.size = g := ⟨_, rfl⟩
        rw [hg142] at H142 ⊢
        generalize (W140.alloc (.cells #[] 3)) = W142 at *
        refine hK.out _ _ (MK.out _ H142.out.b) (fun hHeld => ?_)
        clear hK K H140 hg142
        try simp only [Act.put, List.setIfInBounds_toArray, List.set_cons_zero, List.set_cons_succ]
        refine wpAnyH_ready (rs := [3]) (by kernel_rfl) (by simp) ?_
        refine AllReadyH.cons rfl (fun K hK => ?q143) AllReadyH.nil
        case q143 =>
          clear hHeld
          obtain ⟨v144, W144, hr, hst⟩ := H142.out.ap_x a1 c1 s.g (by have := HLn.out; omega) HS.out.g
          obtain ⟨b144, e144, rfl, _⟩ := (hst.px _ _ rfl).form
          rw [HLn.out.1] at hr hst
          have H144 := Lib.hid hst
          clear hst
          rw [if_pos (by rfl)]
          refine wp_app rfl rfl rfl hr ?_
          refine hK.out _ _ (MK.out _ H144.out.b) (fun hHeld => ?_)
          clear hK K H142 hr
          try simp only [Act.put, List.setIfInBounds_toArray, List.set_cons_zero, List.set_cons_succ]
          refine wpAnyH_ready (rs := [7]) (by kernel_rfl) (by simp) ?_
          refine AllReadyH.cons rfl (fun K hK => ?q145) AllReadyH.nil
          case q145 =>
            clear hHeld
            obtain ⟨v146, W146, hr, hst⟩ := H144.out.ap_y a2 c2 s.u (by have := HLn.out; omega) HS.out.u
            obtain ⟨b146, e146, rfl, _⟩ := (hst.py _ _ rfl).form
            rw [HLn.out.2.1] at hr hst
            have H146 := Lib.hid hst
            clear hst
            rw [if_pos (by rfl)]
            refine wp_app rfl rfl rfl hr ?_
            refine hK.out _ _ (MK.out _ H146.out.b) (fun hHeld => ?_)
            clear hK K H144 hr
            try simp only [Act.put, List.setIfInBounds_toArray, List.set_cons_zero, List.set_cons_succ]
            refine wpAnyH_ready (rs := [11]) (by kernel_rfl) (by simp) ?_
            refine AllReadyH.cons rfl (fun K hK => ?q147) AllReadyH.nil
            case q147 =>
              clear hHeld
              obtain ⟨v148, W148, hr, hst⟩ := H146.out.ap_z a3 c3 s.f (by have := HLn.out; omega) HS.out.f
              obtain ⟨b148, e148, rfl, _⟩ := (hst.pz _ _ rfl).form
              rw [HLn.out.2.2] at hr hst
              have H148 := Lib.hid hst
              clear hst
              rw [if_pos (by rfl)]
              refine wp_app rfl rfl rfl hr ?_
              refine hK.out _ _ (MK.out _ H148.out.b) (fun hHeld => ?_)
              clear hK K H146 hr
              try simp only [Act.put, List.setIfInBounds_toArray, List.set_cons_zero, List.set_cons_succ]
              refine takeH (i := 12) (some 15) (v := ?_) rfl rfl (by kernel_rfl) (by kernel_rfl) (by kernel_rfl) (fun _ _ _ h => h) (Or.inl ⟨by rfl, ?hyt14812⟩) hHeld ?restt14812
              case hyt14812 => (intro w hSw; (try dsimp only at hSw); go_simp; (try with_reducible rfl))
              try simp only [Act.put, List.setIfInBounds_toArray, List.set_cons_zero, List.set_cons_succ]
              have hb := H148.out.b
              have j0 := (hb.cell (p := ⟨T + 1, 0, none⟩) (show T + 1 < n0 by omega)).trans HE.out.1.1
              have j1 := (hb.cell (p := ⟨T + 1, 1, none⟩) (show T + 1 < n0 by omega)).trans HE.out.1.2.1
              have j2 := (hb.cell (p := ⟨T + 1, 2, none⟩) (show T + 1 < n0 by omega)).trans HE.out.1.2.2
              have m0 := (hb.frozen (p := ⟨T + 1, 0, none⟩) (show T + 1 < n0 by omega)).trans HE.out.2.1
              have m1 := (hb.frozen (p := ⟨T + 1, 1, none⟩) (show T + 1 < n0 by omega)).trans HE.out.2.2.1
              have m2 := (hb.frozen (p := ⟨T + 1, 2, none⟩) (show T + 1 < n0 by omega)).trans HE.out.2.2.2
              refine wpAnyH_ready (rs := [13]) (by kernel_rfl) (by simp) ?_
              refine AllReadyH.cons rfl (fun K hK => ?_) AllReadyH.nil
              go_simp
              refine hK.out _ _ (by simp only [set_other _ _ (show T ≠ T + 1 by omega)]; exact hHeld) (fun hHeld => ?_)
              clear hK K
              try simp only [Act.put, List.setIfInBounds_toArray, List.set_cons_zero, List.set_cons_succ]
              refine wpAnyH_done (by kernel_rfl) ?_ _
              go_wp2
              refine bodyPost_ret (v := .agg #[.slice b144 L1 e144, .slice b146 L2 e146, .slice b148 L3 e148]) (by simp [results, Try.results41, go_sem, j0, j1, j2]) rfl ?_
              exact FIN.out _ _ _ _ H148.out
end Go.Proofs.Ytbalebnhjpjhgaa.L9
