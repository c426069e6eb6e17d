/- Su, Sv -/
import Derived.Test.YtgceecfjammnaaaDoorZ6
set_option linter.unusedVariables false
set_option linter.unusedSimpArgs false
/- What Page asks. -/
namespace Go.Proofs.YtgceecfjammnaaaDoor.L16
open Go.RowKit Go.Shelf
attribute [local go_sem] Oper.semAt_some
set_option linter.unusedSimpArgs false
set_option linter.unusedVariables false

def sOf (p : Pl) (c : Int) : Snp := (findS p c).getD ⟨0, [], 0⟩
theorem find_map (l : List SnM) (c n : Int) : findS ⟨l.map SnM.p, n⟩ c = (l.find? (fun s => decide (s.c = c))).map SnM.p := by
  unfold findS
  rw [List.find?_map]
  rfl
theorem findM_p (l : List SnM) (c n : Int) : (findM l c).p = sOf ⟨l.map SnM.p, n⟩ c := by
  unfold sOf findM
  rw [find_map]
  cases l.find? (fun s => decide (s.c = c)) <;> rfl
theorem findM_mem {l : List SnM} {c : Int} : findM l c = SnM.zero ∨ findM l c ∈ l := by
  unfold findM
  cases h : l.find? (fun s => decide (s.c = c)) with
  | none => exact .inl rfl
  | some s => exact .inr (List.mem_of_find?_eq_some h)
def pageCh (p : Pl) (c frm n t : Int) : List (Bool × Int) := [(rightP wordB p, 160), (nowB p t, 160), (btB n 1 10, 2), (decide (0 < (sOf p c).c) && fresh t (sOf p c), 161), (btB frm 0 (sOf p c).it.length, 161)]
theorem pageCh_n (p : Pl) (c frm n t : Int) : firstN (pageCh p c frm n t) = pageE wordB p c frm n t := by
  unfold pageCh pageE
  cases h1 : rightP wordB p
  · simp [firstN]
  · cases h2 : nowB p t
    · simp [firstN]
    · by_cases h3 : 1 ≤ n ∧ n ≤ 10
      · have e3 : btB n 1 10 = true := by unfold btB; rw [decide_eq_true h3.1, decide_eq_true h3.2]; rfl
        rw [e3]
        simp only [firstN, Bool.and_self, if_true, h3, and_self]
        cases hf : findS p c with
        | none =>
          have : sOf p c = ⟨0, [], 0⟩ := by unfold sOf; rw [hf]; rfl
          rw [this]; rfl
        | some s =>
          have e : sOf p c = s := by unfold sOf; rw [hf]; rfl
          have hc := ((right_iff.1 h1).num s (find_mem hf).1).1
          rw [e, decide_eq_true (by omega : 0 < s.c), Bool.true_and]
          simp only []
          by_cases h4 : t - s.u < 1000
          · by_cases h5 : 0 ≤ frm ∧ frm ≤ s.it.length
            · have e5 : btB frm 0 s.it.length = true := by unfold btB; rw [decide_eq_true h5.1, decide_eq_true h5.2]; rfl
              have e4 : fresh t s = true := decide_eq_true h4
              rw [e4, e5, if_pos ⟨h4, h5.1, h5.2⟩]; rfl
            · have e5 : btB frm 0 s.it.length = false := by
                unfold btB
                rw [← Bool.decide_and]
                exact decide_eq_false h5
              have e4 : fresh t s = true := decide_eq_true h4
              rw [e4, e5, if_neg (fun h => h5 h.2)]; rfl
          · have e4 : fresh t s = false := decide_eq_false h4
            rw [e4, if_neg (fun h => h4 h.1)]; rfl
      · have e3 : btB n 1 10 = false := by
          unfold btB
          rw [← Bool.decide_and]
          exact decide_eq_false h3
        rw [e3]
        simp [firstN, h3]
theorem pageCh_ne (p : Pl) (c frm n t : Int) (h : (pageCh p c frm n t).all (·.1) = false) : firstN (pageCh p c frm n t) ≠ 0 := by
  unfold pageCh at h ⊢
  generalize rightP wordB p = b1 at *
  generalize nowB p t = b2 at *
  generalize btB n 1 10 = b3 at *
  generalize (decide (0 < (sOf p c).c) && fresh t (sOf p c)) = b4 at *
  generalize btB frm 0 (sOf p c).it.length = b5 at *
  cases b1 <;> cases b2 <;> cases b3 <;> cases b4 <;> cases b5 <;> first | (cases h; done) | (simp [firstN]; done)
set_option maxRecDepth 100000 in
set_option maxHeartbeats 4000000 in
theorem page2_c (x : SnM) (c : Int) (b : Nat) (w : World) (h : w.cell? ⟨b, 0, none⟩ = some (.int .i64 c)) :
    Calls Tryd.prog 38 #[.agg #[.int .i64 x.c, .slice x.ita x.it.length x.itd, .int .i64 x.u], .pointer (some ⟨b, 0, none⟩)] w fun y w' => y = .returned (.bool (decide (x.p.c ≠ c))) ∧ Below w.heap.size w w' := by
  have HF := Lib.hid (show decide (x.p.c ≠ c) = decide (¬ x.c = c) from rfl)
  generalize decide (x.p.c ≠ c) = B at *
  have h' := keep_alloc (.cells #[.int .i64 x.c, .slice x.ita x.it.length x.itd, .int .i64 x.u] 42) h
  generalize x.c = k at *
  by_cases g : k = c
  · have HG := Lib.hid (show B = false by rw [HF.out]; simp [g])
    have e1 : (k == c) = true := by simpa using g
    have e2 : (k != c) = false := by simpa using g
    clear g
    go_enter Tryd.func38, Tryd.ntmps38
    go_wp2
    go_ret
    exact ⟨by rw [HG.out]; rfl, below_alloc _ _⟩
  · have HG := Lib.hid (show B = true by rw [HF.out]; simp [g])
    have e1 : (k == c) = false := by simpa using g
    have e2 : (k != c) = true := by simpa using g
    clear g
    go_enter Tryd.func38, Tryd.ntmps38
    go_wp2
    go_ret
    exact ⟨by rw [HG.out]; rfl, below_alloc _ _⟩
set_option maxRecDepth 100000 in
set_option maxHeartbeats 4000000 in
theorem page1_c (x : SnM) (t : Int) (ht : 0 ≤ t ∧ t ≤ 1000000000000) (hu : 0 ≤ x.u ∧ x.u ≤ 1000000000000) (sb nb : Nat) (w : World) (s0 : w.cell? ⟨sb, 0, none⟩ = some (.int .i64 x.c)) (s1 : w.cell? ⟨sb, 1, none⟩ = some (.slice x.ita x.it.length x.itd)) (s2 : w.cell? ⟨sb, 2, none⟩ = some (.int .i64 x.u)) (h : w.cell? ⟨nb, 0, none⟩ = some (.int .i64 t)) :
    Calls Tryd.prog 36 #[.pointer (some ⟨sb, 0, none⟩), .pointer (some ⟨nb, 0, none⟩)] w fun y w' => y = .returned (errV (decide (0 < x.c) && fresh t x.p) 161) ∧ Below w.heap.size w w' := by
  have HU := Lib.hid (fun W b => unless_c W b 161)
  have HFR := Lib.hid (fun W => fresh_e t W)
  have HF1 := Lib.hid (fun b W h => fresh1_c x t ht hu b W h)
  generalize fresh t x.p = B at *
  by_cases g : 0 < x.c
  · have HG := Lib.hid (show (decide (0 < x.c) && B) = B by rw [decide_eq_true g]; rfl)
    generalize (decide (0 < x.c) && B) = B2 at *
    have g2 : x.c > 0 := g
    have MK := Lib.hid (show ∀ w', Below w.heap.size w w' → w'.cell? ⟨sb, 0, none⟩ = some (.int .i64 x.c) ∧ w'.cell? ⟨sb, 1, none⟩ = some (.slice x.ita x.it.length x.itd) ∧ w'.cell? ⟨sb, 2, none⟩ = some (.int .i64 x.u) ∧ w'.cell? ⟨nb, 0, none⟩ = some (.int .i64 t) ∧ Below w.heap.size w w' from fun w' k => ⟨(k.cell (blt s0)).trans s0, (k.cell (blt s1)).trans s1, (k.cell (blt s2)).trans s2, (k.cell (blt h)).trans h, k⟩)
    go_enter Tryd.func36, Tryd.ntmps36
    go_wp2_with fail
    refine wp_region_held_drew (S := (fun w' => w'.cell? ⟨sb, 0, none⟩ = some (.int .i64 x.c) ∧ w'.cell? ⟨sb, 1, none⟩ = some (.slice x.ita x.it.length x.itd) ∧ w'.cell? ⟨sb, 2, none⟩ = some (.int .i64 x.u) ∧ w'.cell? ⟨nb, 0, none⟩ = some (.int .i64 t) ∧ Below w.heap.size w w')) (by kernel_rfl) ?_ (fun hHeld => ?_)
    · exact MK.out _ (below_drew (Below.refl _ _))
    refine takeH (i := 0) (some 3) (v := ?_) rfl rfl (by kernel_rfl) (by kernel_rfl) (by kernel_rfl) (fun _ _ _ h => h) (Or.inl ⟨by rfl, ?hyA0⟩) hHeld ?restA0
    case hyA0 => (intro w hSw; (try dsimp only at hSw); go_simp; (try with_reducible rfl))
    try simp only [Act.put, List.setIfInBounds_toArray, List.set_cons_zero, List.set_cons_succ]
    refine takeH (i := 1) (some 4) (v := ?_) rfl rfl (by kernel_rfl) (by kernel_rfl) (by kernel_rfl) (fun _ _ _ h => h) (Or.inl ⟨by rfl, ?hyA1⟩) hHeld ?restA1
    case hyA1 => (intro w hSw; (try dsimp only at hSw); go_simp; (try with_reducible rfl))
    try simp only [Act.put, List.setIfInBounds_toArray, List.set_cons_zero, List.set_cons_succ]
    refine takeH (i := 2) (some 5) (v := ?_) rfl rfl (by kernel_rfl) (by kernel_rfl) (by kernel_rfl) (fun _ _ _ h => h) (Or.inl ⟨by rfl, ?hyA2⟩) hHeld ?restA2
    case hyA2 => (intro w hSw; (try dsimp only at hSw); go_simp; (try with_reducible rfl))
    try simp only [Act.put, List.setIfInBounds_toArray, List.set_cons_zero, List.set_cons_succ]
    refine takeH (i := 3) (some 6) (v := ?_) rfl rfl (by kernel_rfl) (by kernel_rfl) (by kernel_rfl) (fun _ _ _ h => h) (Or.inl ⟨by rfl, ?hyA3⟩) hHeld ?restA3
    case hyA3 => (intro w hSw; (try dsimp only at hSw); go_simp; (try with_reducible rfl))
    try simp only [Act.put, List.setIfInBounds_toArray, List.set_cons_zero, List.set_cons_succ]
    refine takeH (i := 4) (some 7) (v := ?_) rfl rfl (by kernel_rfl) (by kernel_rfl) (by kernel_rfl) (fun _ _ _ h => h) (Or.inl ⟨by rfl, ?hyA4⟩) hHeld ?restA4
    case hyA4 => (intro w hSw; (try dsimp only at hSw); go_simp; (try with_reducible rfl))
    try simp only [Act.put, List.setIfInBounds_toArray, List.set_cons_zero, List.set_cons_succ]
    refine takeH (i := 6) (some 9) (v := ?_) rfl rfl (by kernel_rfl) (by kernel_rfl) (by kernel_rfl) (fun _ _ _ h => h) (Or.inl ⟨by rfl, ?hyA6⟩) hHeld ?restA6
    case hyA6 => (intro w hSw; (try dsimp only at hSw); go_simp; (try with_reducible rfl))
    try simp only [Act.put, List.setIfInBounds_toArray, List.set_cons_zero, List.set_cons_succ]
    refine wpAnyH_ready (rs := [5]) (by kernel_rfl) (by simp) ?_
    refine AllReadyH.cons rfl (fun K2 hK => ?_) AllReadyH.nil
    go_simp
    (with_reducible refine (HFR.out _).mono ?_); rintro e w2 ⟨b, rfl, k1, pB⟩; have sB := btr hHeld.2.2.2.2 pB; clear pB hHeld
    refine hK.out _ _ ?_ (fun hHeld => ?_)
    · exact MK.out _ sB
    clear hK K2
    try simp only [Act.put, List.setIfInBounds_toArray, List.set_cons_zero, List.set_cons_succ]
    refine wpAnyH_ready (rs := [7]) (by kernel_rfl) (by simp) ?_
    refine AllReadyH.cons rfl (fun K2 hK => ?_) AllReadyH.nil
    go_simp
    refine (HF1.out b _ k1).mono ?_; rintro e w3 ⟨rfl, pB⟩; replace sB := btr hHeld.2.2.2.2 pB; clear pB hHeld k1
    refine hK.out _ _ ?_ (fun hHeld => ?_)
    · exact MK.out _ sB
    clear hK K2
    try simp only [Act.put, List.setIfInBounds_toArray, List.set_cons_zero, List.set_cons_succ]
    refine takeH (i := 8) (some 11) (v := ?_) rfl rfl (by kernel_rfl) (by kernel_rfl) (by kernel_rfl) (fun _ _ _ h => h) (Or.inl ⟨by rfl, ?hyA8⟩) hHeld ?restA8
    case hyA8 => (intro w hSw; (try dsimp only at hSw); go_simp; (try with_reducible rfl))
    try simp only [Act.put, List.setIfInBounds_toArray, List.set_cons_zero, List.set_cons_succ]
    refine wpAnyH_ready (rs := [9]) (by kernel_rfl) (by simp) ?_
    refine AllReadyH.cons rfl (fun K2 hK => ?_) AllReadyH.nil
    go_simp
    (with_reducible refine (HU.out _ _).mono ?_); rintro e w4 ⟨rfl, rfl⟩
    refine hK.out _ _ ?_ (fun hHeld => ?_)
    · exact MK.out _ sB
    clear hK K2
    try simp only [Act.put, List.setIfInBounds_toArray, List.set_cons_zero, List.set_cons_succ]
    refine takeH (i := 10) (some 2) (v := ?_) rfl rfl (by kernel_rfl) (by kernel_rfl) (by kernel_rfl) (fun _ _ _ h => h) (Or.inl ⟨by rfl, ?hyA10⟩) hHeld ?restA10
    case hyA10 => (intro w hSw; (try dsimp only at hSw); go_simp; (try with_reducible rfl))
    try simp only [Act.put, List.setIfInBounds_toArray, List.set_cons_zero, List.set_cons_succ]
    refine wpAnyH_done (by kernel_rfl) ?_ _
    go_wp2
    go_ret
    exact ⟨by rw [HG.out]; first | rfl | (cases B <;> rfl), sB⟩
  · have HG := Lib.hid (show (decide (0 < x.c) && B) = false by rw [decide_eq_false g]; rfl)
    generalize (decide (0 < x.c) && B) = B2 at *
    have g2 : ¬ x.c > 0 := g
    have g3 : decide (x.c > 0) = false := decide_eq_false g
    have g4 : decide (0 < x.c) = false := decide_eq_false g
    go_enter Tryd.func36, Tryd.ntmps36
    go_wp2_with fail
    refine wp_region_held_drew (S := (fun w' => w'.cell? ⟨sb, 0, none⟩ = some (.int .i64 x.c) ∧ w' = w.drew)) (by kernel_rfl) ?_ (fun hHeld => ?_)
    · exact ⟨s0, rfl⟩
    refine takeH (i := 0) (some 3) (v := ?_) rfl rfl (by kernel_rfl) (by kernel_rfl) (by kernel_rfl) (fun _ _ _ h => h) (Or.inl ⟨by rfl, ?hyB0⟩) hHeld ?restB0
    case hyB0 => (intro w hSw; (try dsimp only at hSw); go_simp; (try with_reducible rfl))
    try simp only [Act.put, List.setIfInBounds_toArray, List.set_cons_zero, List.set_cons_succ]
    refine takeH (i := 1) (some 4) (v := ?_) rfl rfl (by kernel_rfl) (by kernel_rfl) (by kernel_rfl) (fun _ _ _ h => h) (Or.inl ⟨by rfl, ?hyB1⟩) hHeld ?restB1
    case hyB1 => (intro w hSw; (try dsimp only at hSw); go_simp; (try with_reducible rfl))
    try simp only [Act.put, List.setIfInBounds_toArray, List.set_cons_zero, List.set_cons_succ]
    refine takeH (i := 2) (some 5) (v := ?_) rfl rfl (by kernel_rfl) (by kernel_rfl) (by kernel_rfl) (fun _ _ _ h => h) (Or.inl ⟨by rfl, ?hyB2⟩) hHeld ?restB2
    case hyB2 => (intro w hSw; (try dsimp only at hSw); go_simp; (try with_reducible rfl))
    try simp only [Act.put, List.setIfInBounds_toArray, List.set_cons_zero, List.set_cons_succ]
    refine takeH (i := 3) (some 6) (v := ?_) rfl rfl (by kernel_rfl) (by kernel_rfl) (by kernel_rfl) (fun _ _ _ h => h) (Or.inl ⟨by rfl, ?hyB3⟩) hHeld ?restB3
    case hyB3 => (intro w hSw; (try dsimp only at hSw); go_simp; (try with_reducible rfl))
    try simp only [Act.put, List.setIfInBounds_toArray, List.set_cons_zero, List.set_cons_succ]
    refine takeH (i := 4) (some 7) (v := undef) rfl rfl (by kernel_rfl) (by kernel_rfl) (by kernel_rfl) (fun _ _ _ h => h) (Or.inr ⟨by rfl, rfl⟩) hHeld ?_
    try simp only [Act.put, List.setIfInBounds_toArray, List.set_cons_zero, List.set_cons_succ]
    refine takeH (i := 5) (some 8) (v := undef) rfl rfl (by kernel_rfl) (by kernel_rfl) (by kernel_rfl) (fun _ _ _ h => h) (Or.inr ⟨by rfl, rfl⟩) hHeld ?_
    try simp only [Act.put, List.setIfInBounds_toArray, List.set_cons_zero, List.set_cons_succ]
    refine takeH (i := 6) (some 9) (v := undef) rfl rfl (by kernel_rfl) (by kernel_rfl) (by kernel_rfl) (fun _ _ _ h => h) (Or.inr ⟨by rfl, rfl⟩) hHeld ?_
    try simp only [Act.put, List.setIfInBounds_toArray, List.set_cons_zero, List.set_cons_succ]
    refine takeH (i := 7) (some 10) (v := undef) rfl rfl (by kernel_rfl) (by kernel_rfl) (by kernel_rfl) (fun _ _ _ h => h) (Or.inr ⟨by rfl, rfl⟩) hHeld ?_
    try simp only [Act.put, List.setIfInBounds_toArray, List.set_cons_zero, List.set_cons_succ]
    refine takeH (i := 8) (some 11) (v := ?_) rfl rfl (by kernel_rfl) (by kernel_rfl) (by kernel_rfl) (fun _ _ _ h => h) (Or.inl ⟨by rfl, ?hyB8⟩) hHeld ?restB8
    case hyB8 => (intro w hSw; (try dsimp only at hSw); go_simp; (try with_reducible rfl))
    try simp only [Act.put, List.setIfInBounds_toArray, List.set_cons_zero, List.set_cons_succ]
    refine wpAnyH_ready (rs := [9]) (by kernel_rfl) (by simp) ?_
    refine AllReadyH.cons rfl (fun K2 hK => ?_) AllReadyH.nil
    go_simp
    (with_reducible refine (HU.out _ _).mono ?_); rintro e w4 ⟨rfl, rfl⟩
    refine hK.out _ _ ?_ (fun hHeld => ?_)
    · exact hHeld
    clear hK K2
    try simp only [Act.put, List.setIfInBounds_toArray, List.set_cons_zero, List.set_cons_succ]
    refine takeH (i := 10) (some 2) (v := ?_) rfl rfl (by kernel_rfl) (by kernel_rfl) (by kernel_rfl) (fun _ _ _ h => h) (Or.inl ⟨by rfl, ?hyB10⟩) hHeld ?restB10
    case hyB10 => (intro w hSw; (try dsimp only at hSw); go_simp; (try with_reducible rfl))
    try simp only [Act.put, List.setIfInBounds_toArray, List.set_cons_zero, List.set_cons_succ]
    refine wpAnyH_done (by kernel_rfl) ?_ _
    go_wp2
    go_ret
    exact ⟨by rw [HG.out]; rfl, below_drew (Below.refl _ _)⟩
end Go.Proofs.YtgceecfjammnaaaDoor.L16

/- Page. -/
namespace Go.Proofs.YtgceecfjammnaaaDoor.L16
open Go.RowKit Go.Shelf
attribute [local go_sem] Oper.semAt_some
set_option linter.unusedSimpArgs false
set_option linter.unusedVariables false

theorem now_facts {p : Pl} {t : Int} (h : rightP wordB p = true) (k : nowB p t = true) : (0 ≤ t ∧ t ≤ 1000000000000) ∧ ∀ s ∈ p.l, 0 ≤ s.u ∧ s.u ≤ 1000000000000 := by
  have r := right_iff.1 h
  have hu := usedB_lo r.used
  unfold nowB at k
  simp only [decide_eq_true_eq] at k
  refine ⟨⟨?_, k.2⟩, hu⟩
  by_cases e : p.l = []
  · have : lastU p.l = 0 := by rw [e]; rfl
    omega
  · obtain ⟨s, hs⟩ := List.exists_mem_of_ne_nil _ e
    have := (hu s hs).1
    have := usedB_le_last r.used s hs
    omega
theorem pageFirst_c (a : Option Addr) (cap : Nat) (n c fr k t : Int) (hn : n ≤ 9223372036854775807) (l : List SnM) (hl : l.length ≤ 100000) (hi : ∀ x ∈ l, x.it.length ≤ 100000 ∧ ∀ s ∈ x.it, s.size ≤ 1000000)
    (x : SnM) (hx : findM l c = x) (w : World) (b b0 b1 p0 p1 p2 p3 sb nb q0 q1 q2 q3 : Nat)
    (c0 : w.cell? ⟨b, 0, none⟩ = some (.func (.func 24) #[.agg #[.slice a l.length cap, .int .i64 n]] #[]))
    (c1 : w.cell? ⟨b, 1, none⟩ = some (.func (.func 55) #[] #[.pointer (some ⟨b0, 0, none⟩), .pointer (some ⟨b1, 0, none⟩)]))
    (c2 : w.cell? ⟨b, 2, none⟩ = some (.func (.func 60) #[] #[.pointer (some ⟨p0, 0, none⟩), .pointer (some ⟨p1, 0, none⟩), .pointer (some ⟨p2, 0, none⟩), .pointer (some ⟨p3, 0, none⟩)]))
    (c3 : w.cell? ⟨b, 3, none⟩ = some (.func (.func 36) #[] #[.pointer (some ⟨sb, 0, none⟩), .pointer (some ⟨nb, 0, none⟩)]))
    (c4 : w.cell? ⟨b, 4, none⟩ = some (.func (.func 60) #[] #[.pointer (some ⟨q0, 0, none⟩), .pointer (some ⟨q1, 0, none⟩), .pointer (some ⟨q2, 0, none⟩), .pointer (some ⟨q3, 0, none⟩)]))
    (k2 : w.cell? ⟨b0, 0, none⟩ = some (.slice a l.length cap) ∧ w.cell? ⟨b1, 0, none⟩ = some (.int .i64 t)) (kp : BtAt p0 p1 p2 p3 k 1 10 2 w)
    (s0 : w.cell? ⟨sb, 0, none⟩ = some (.int .i64 x.c)) (s1 : w.cell? ⟨sb, 1, none⟩ = some (.slice x.ita x.it.length x.itd)) (s2 : w.cell? ⟨sb, 2, none⟩ = some (.int .i64 x.u)) (kn : w.cell? ⟨nb, 0, none⟩ = some (.int .i64 t))
    (kq : BtAt q0 q1 q2 q3 fr 0 (x.it.length : Int) 161 w) (hA : PlAt w.heap.size w a l) :
    Calls Tryd.prog 23 #[.slice (some ⟨b, 0, none⟩) 5 5] w fun y w' => y = .returned (firstB (pageCh ⟨l.map SnM.p, n⟩ c fr k t)) ∧ Below w.heap.size w w' := by
  have h5 : ∀ i, i < 5 → i = 0 ∨ i = 1 ∨ i = 2 ∨ i = 3 ∨ i = 4 := fun i h => by omega
  have hs : sOf ⟨l.map SnM.p, n⟩ c = x.p := by rw [← findM_p, hx]
  have hf : firstE (atL (pageCh ⟨l.map SnM.p, n⟩ c fr k t)) 0 5 = firstB (pageCh ⟨l.map SnM.p, n⟩ c fr k t) := firstE_list (pageCh ⟨l.map SnM.p, n⟩ c fr k t)
  have hch : pageCh ⟨l.map SnM.p, n⟩ c fr k t = [(rightP wordB ⟨l.map SnM.p, n⟩, 160), (nowB ⟨l.map SnM.p, n⟩ t, 160), (btB k 1 10, 2), (decide (0 < x.c) && fresh t x.p, 161), (btB fr 0 (x.it.length : Int), 161)] := by
    unfold pageCh; rw [hs]; rfl
  rw [← hf]
  refine faultFirst_c 5 (by omega) b (fun i => match i with | 0 => 24 | 1 => 55 | 2 => 60 | 3 => 36 | _ => 60) (fun i => match i with | 0 => #[.agg #[.slice a l.length cap, .int .i64 n]] | _ => #[]) (fun i => match i with | 0 => #[] | 1 => #[.pointer (some ⟨b0, 0, none⟩), .pointer (some ⟨b1, 0, none⟩)] | 2 => #[.pointer (some ⟨p0, 0, none⟩), .pointer (some ⟨p1, 0, none⟩), .pointer (some ⟨p2, 0, none⟩), .pointer (some ⟨p3, 0, none⟩)] | 3 => #[.pointer (some ⟨sb, 0, none⟩), .pointer (some ⟨nb, 0, none⟩)] | _ => #[.pointer (some ⟨q0, 0, none⟩), .pointer (some ⟨q1, 0, none⟩), .pointer (some ⟨q2, 0, none⟩), .pointer (some ⟨q3, 0, none⟩)]) (atL (pageCh ⟨l.map SnM.p, n⟩ c fr k t)) w ?_ ?_ ?_ ?_
  · intro i hi
    obtain rfl | rfl | rfl | rfl | rfl := h5 i hi
    · exact c0
    · exact c1
    · exact c2
    · exact c3
    · exact c4
  · intro i hii hprev W hW
    rw [hch] at hprev ⊢
    obtain rfl | rfl | rfl | rfl | rfl := h5 i hii
    · exact isRight_c a cap n hn l hl hi W (hA.on hW)
    · refine (isNow1_c a cap l hl n t b0 b1 W ((hW.cell (blt k2.1)).trans k2.1) ((hW.cell (blt k2.2)).trans k2.2) (hA.on hW)).mono ?_
      rintro x w' ⟨rfl, rfl⟩
      exact ⟨rfl, Below.refl _ _⟩
    · exact between1_g k 1 10 2 p0 p1 p2 p3 W (kp.on hW)
    · have hr : rightP wordB ⟨l.map SnM.p, n⟩ = true := atL_ok (c := 160) rfl (hprev 0 (by omega))
      have hw : nowB ⟨l.map SnM.p, n⟩ t = true := atL_ok (c := 160) rfl (hprev 1 (by omega))
      obtain ⟨ht, hus⟩ := now_facts hr hw
      have hu : 0 ≤ x.u ∧ x.u ≤ 1000000000000 := by
        rcases findM_mem (l := l) (c := c) with e | e
        · rw [hx] at e; subst e; exact ⟨by decide, by decide⟩
        · rw [hx] at e; exact hus x.p (List.mem_map_of_mem e)
      exact page1_c x t ht hu sb nb W ((hW.cell (blt s0)).trans s0) ((hW.cell (blt s1)).trans s1) ((hW.cell (blt s2)).trans s2) ((hW.cell (blt kn)).trans kn)
    · exact between1_g fr 0 (x.it.length : Int) 161 q0 q1 q2 q3 W (kq.on hW)
  · intro i hi args W
    obtain rfl | rfl | rfl | rfl | rfl := h5 i hi
    · exact enters_of Tryd.func24 (by kernel_rfl) rfl args W
    · exact enters_of Tryd.func55 (by kernel_rfl) rfl args W
    · exact enters_of Tryd.func60 (by kernel_rfl) rfl args W
    · exact enters_of Tryd.func36 (by kernel_rfl) rfl args W
    · exact enters_of Tryd.func60 (by kernel_rfl) rfl args W
  · exact fun i _ => atL_two _ i
def pageS (p : Pl) (c fr k t : Int) : Pl := if pageE wordB p c fr k t = 0 then pageT p c t (sOf p c) else Pl.nil
def pageL (p : Pl) (c fr k t : Int) : List ByteArray := if pageE wordB p c fr k t = 0 then pageI (sOf p c) fr k else []
def pageB (p : Pl) (c fr k t : Int) : Int := if pageE wordB p c fr k t = 0 then pageN (sOf p c) fr k else 0
/-- What Page leaves. -/
def PageP (p : Pl) (c fr k t : Int) (w : World) (y : Ending) (w' : World) : Prop := ∃ v a d, y = .returned (.tuple #[v, .slice a (pageL p c fr k t).length d, .int .i64 (pageB p c fr k t), .int .i64 (pageE wordB p c fr k t)]) ∧ PoolV w.heap.size (pageS p c fr k t) v w' ∧ StrsAt w'.heap.size w' a (pageL p c fr k t) ∧ Below w.heap.size w w'
end Go.Proofs.YtgceecfjammnaaaDoor.L16
