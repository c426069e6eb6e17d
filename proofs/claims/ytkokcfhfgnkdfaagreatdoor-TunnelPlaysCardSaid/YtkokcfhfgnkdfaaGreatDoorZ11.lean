/- Ud, Ue, S4V, Uf, Ug -/
import Derived.Test.YtkokcfhfgnkdfaaGreatDoorZ10
import Derived.Test.YtkokcfhfgnkdfaaGreatDoorZ6
set_option linter.unusedVariables false
set_option linter.unusedSimpArgs false
/- The document's tunnel: what a store does; Grant. -/
namespace Go.Proofs.YtkokcfhfgnkdfaaGreatDoor.L17
open Go.RowKit Go.Shelf
open L1 (str IsR Off)
open L14 (isSt goes dest inB outB endB Laid)
attribute [local go_sem] Oper.semAt_some
theorem RWayQ.put2 {A : World} {lo hi Y I O cap : Nat} {y : Wy} (q : RWayQ A lo hi Y I O cap y) (v : Int) (hk : ({ y with g := v } : Wy).Ok cap) : RWayQ (A.setCell ⟨Y, 2, none⟩ (.int .i64 v)) lo hi Y I O cap { y with g := v } := by
  have q1 := q.l1; have q2 := q.l2; have q3 := q.l3; have q4 := q.l4
  have hg : Goes (fun i => i = Y) A (A.setCell ⟨Y, 2, none⟩ (.int .i64 v)) := goes_set _ _ _ _ rfl
  exact ⟨(cell_oth A Y 2 0 _ (by decide)).trans q.c0, (cell_oth A Y 2 1 _ (by decide)).trans q.c1, World.cell?_setCell_same' A ⟨Y, 2, none⟩ _ (by rw [q.c2]; rfl), (World.frozen?_setCell ..).trans q.f2, (cell_oth A Y 2 3 _ (by decide)).trans q.c3, (World.frozen?_setCell ..).trans q.f3, (cell_oth A Y 2 4 _ (by decide)).trans q.c4, (World.frozen?_setCell ..).trans q.f4, (cell_oth A Y 2 5 _ (by decide)).trans q.c5, (World.frozen?_setCell ..).trans q.f5, (cell_oth A Y 2 6 _ (by decide)).trans q.c6, (World.frozen?_setCell ..).trans q.f6, isr_goes q.i hg (by omega), isr_goes q.o hg (by omega), q1, q2, q3, q4, hk⟩
theorem RWayQ.put3 {A : World} {lo hi Y I O cap : Nat} {y : Wy} (q : RWayQ A lo hi Y I O cap y) (v : Int) (hk : ({ y with s := v } : Wy).Ok cap) : RWayQ (A.setCell ⟨Y, 3, none⟩ (.int .i64 v)) lo hi Y I O cap { y with s := v } := by
  have q1 := q.l1; have q2 := q.l2; have q3 := q.l3; have q4 := q.l4
  have hg : Goes (fun i => i = Y) A (A.setCell ⟨Y, 3, none⟩ (.int .i64 v)) := goes_set _ _ _ _ rfl
  exact ⟨(cell_oth A Y 3 0 _ (by decide)).trans q.c0, (cell_oth A Y 3 1 _ (by decide)).trans q.c1, (cell_oth A Y 3 2 _ (by decide)).trans q.c2, (World.frozen?_setCell ..).trans q.f2, World.cell?_setCell_same' A ⟨Y, 3, none⟩ _ (by rw [q.c3]; rfl), (World.frozen?_setCell ..).trans q.f3, (cell_oth A Y 3 4 _ (by decide)).trans q.c4, (World.frozen?_setCell ..).trans q.f4, (cell_oth A Y 3 5 _ (by decide)).trans q.c5, (World.frozen?_setCell ..).trans q.f5, (cell_oth A Y 3 6 _ (by decide)).trans q.c6, (World.frozen?_setCell ..).trans q.f6, isr_goes q.i hg (by omega), isr_goes q.o hg (by omega), q1, q2, q3, q4, hk⟩
theorem RWayQ.put4 {A : World} {lo hi Y I O cap : Nat} {y : Wy} (q : RWayQ A lo hi Y I O cap y) (v : Nat) (hk : ({ y with fd := v } : Wy).Ok cap) : RWayQ (A.setCell ⟨Y, 4, none⟩ (.int .i64 (v : Nat))) lo hi Y I O cap { y with fd := v } := by
  have q1 := q.l1; have q2 := q.l2; have q3 := q.l3; have q4 := q.l4
  have hg : Goes (fun i => i = Y) A (A.setCell ⟨Y, 4, none⟩ (.int .i64 (v : Nat))) := goes_set _ _ _ _ rfl
  exact ⟨(cell_oth A Y 4 0 _ (by decide)).trans q.c0, (cell_oth A Y 4 1 _ (by decide)).trans q.c1, (cell_oth A Y 4 2 _ (by decide)).trans q.c2, (World.frozen?_setCell ..).trans q.f2, (cell_oth A Y 4 3 _ (by decide)).trans q.c3, (World.frozen?_setCell ..).trans q.f3, World.cell?_setCell_same' A ⟨Y, 4, none⟩ _ (by rw [q.c4]; rfl), (World.frozen?_setCell ..).trans q.f4, (cell_oth A Y 4 5 _ (by decide)).trans q.c5, (World.frozen?_setCell ..).trans q.f5, (cell_oth A Y 4 6 _ (by decide)).trans q.c6, (World.frozen?_setCell ..).trans q.f6, isr_goes q.i hg (by omega), isr_goes q.o hg (by omega), q1, q2, q3, q4, hk⟩
theorem RWayQ.put5 {A : World} {lo hi Y I O cap : Nat} {y : Wy} (q : RWayQ A lo hi Y I O cap y) (v : Nat) (hk : ({ y with mv := v } : Wy).Ok cap) : RWayQ (A.setCell ⟨Y, 5, none⟩ (.int .i64 (v : Nat))) lo hi Y I O cap { y with mv := v } := by
  have q1 := q.l1; have q2 := q.l2; have q3 := q.l3; have q4 := q.l4
  have hg : Goes (fun i => i = Y) A (A.setCell ⟨Y, 5, none⟩ (.int .i64 (v : Nat))) := goes_set _ _ _ _ rfl
  exact ⟨(cell_oth A Y 5 0 _ (by decide)).trans q.c0, (cell_oth A Y 5 1 _ (by decide)).trans q.c1, (cell_oth A Y 5 2 _ (by decide)).trans q.c2, (World.frozen?_setCell ..).trans q.f2, (cell_oth A Y 5 3 _ (by decide)).trans q.c3, (World.frozen?_setCell ..).trans q.f3, (cell_oth A Y 5 4 _ (by decide)).trans q.c4, (World.frozen?_setCell ..).trans q.f4, World.cell?_setCell_same' A ⟨Y, 5, none⟩ _ (by rw [q.c5]; rfl), (World.frozen?_setCell ..).trans q.f5, (cell_oth A Y 5 6 _ (by decide)).trans q.c6, (World.frozen?_setCell ..).trans q.f6, isr_goes q.i hg (by omega), isr_goes q.o hg (by omega), q1, q2, q3, q4, hk⟩
theorem RWayQ.put6 {A : World} {lo hi Y I O cap : Nat} {y : Wy} (q : RWayQ A lo hi Y I O cap y) (v : Nat) (hk : ({ y with dr := v } : Wy).Ok cap) : RWayQ (A.setCell ⟨Y, 6, none⟩ (.int .i64 (v : Nat))) lo hi Y I O cap { y with dr := v } := by
  have q1 := q.l1; have q2 := q.l2; have q3 := q.l3; have q4 := q.l4
  have hg : Goes (fun i => i = Y) A (A.setCell ⟨Y, 6, none⟩ (.int .i64 (v : Nat))) := goes_set _ _ _ _ rfl
  exact ⟨(cell_oth A Y 6 0 _ (by decide)).trans q.c0, (cell_oth A Y 6 1 _ (by decide)).trans q.c1, (cell_oth A Y 6 2 _ (by decide)).trans q.c2, (World.frozen?_setCell ..).trans q.f2, (cell_oth A Y 6 3 _ (by decide)).trans q.c3, (World.frozen?_setCell ..).trans q.f3, (cell_oth A Y 6 4 _ (by decide)).trans q.c4, (World.frozen?_setCell ..).trans q.f4, (cell_oth A Y 6 5 _ (by decide)).trans q.c5, (World.frozen?_setCell ..).trans q.f5, World.cell?_setCell_same' A ⟨Y, 6, none⟩ _ (by rw [q.c6]; rfl), (World.frozen?_setCell ..).trans q.f6, isr_goes q.i hg (by omega), isr_goes q.o hg (by omega), q1, q2, q3, q4, hk⟩
theorem RefQ.put0 {A B : World} {R Y0 Y1 m hi cap : Nat} {t : Tn} {y : Wy} (q : RefQ A R Y0 Y1 m hi cap t) (hw : RWay B (R + 1) m Y0 cap y) (hg : Goes (Rin (R + 1) m) A B) : RefQ B R Y0 Y1 m hi cap ⟨t.st, y, t.b⟩ :=
  RefQ.put (S := fun _ => False) q 0 (by decide) hw (hg.mono (fun i h => Or.inl h)) (fun _ h => h.elim)
theorem rin_0 {R m hi : Nat} (lm : R + 1 ≤ m) (lh : m ≤ hi) {A B : World} (hg : Goes (Rin (R + 1) m) A B) : Goes (Rin R hi) A B := hg.mono (fun i h => ⟨by have := h.1; have := lm; omega, by have := h.2; have := lh; omega⟩)
theorem RefQ.put1 {A B : World} {R Y0 Y1 m hi cap : Nat} {t : Tn} {y : Wy} (q : RefQ A R Y0 Y1 m hi cap t) (hw : RWay B m hi Y1 cap y) (hg : Goes (Rin m hi) A B) : RefQ B R Y0 Y1 m hi cap ⟨t.st, t.a, y⟩ :=
  RefQ.put (S := fun _ => False) q 1 (by decide) hw (hg.mono (fun i h => Or.inl h)) (fun _ h => h.elim)
theorem rin_1 {R m hi : Nat} (lm : R + 1 ≤ m) (lh : m ≤ hi) {A B : World} (hg : Goes (Rin m hi) A B) : Goes (Rin R hi) A B := hg.mono (fun i h => ⟨by have := h.1; have := lm; omega, by have := h.2; have := lh; omega⟩)
set_option maxRecDepth 100000 in
set_option maxHeartbeats 4000000 in
theorem rgrant_0 (R hi cap : Nat) (t : Tn) (n : Int) (w : World) (h : RefAt w R hi cap t) :
    Calls Tryz.prog 33 #[.pointer (some ⟨R, 0, none⟩), .int .i64 0, .int .i64 n] w fun x w' => x = .returned (.int .i64 (grantTE t 0 n)) ∧ RefAt w' R hi cap (grantT t 0 n) ∧ Goes (Rin R hi) w w' := by
  have HS := Lib.hid (fun W => show Calls Tryz.prog 63 #[.int .i64 0] W fun x w' => x = .returned (.bool true) ∧ W = w' from rside_c 0 W)
  rw [show grantTE t 0 n = grantE t.a n from rfl, show grantT t 0 n = t.put 0 (grantW t.a n) from rfl]
  obtain ⟨Y0, Y1, m, q⟩ := h
  have r0 := q.c0
  have r1 := q.c1
  have lm := q.lm
  have lh := q.lh
  have lz := q.lz
  obtain ⟨I, O, y⟩ := q.a
  have l1 := y.l1; have l2 := y.l2; have l3 := y.l3; have l4 := y.l4
  have y2 := y.c2
  have y3 := y.c3
  have z2 := y.f2
  have z3 := y.f3
  obtain ⟨hE, hG⟩ := grant_same y.ok n
  have HG := Lib.hid (fun W => L13.refGrant_any t.a.g t.a.s n W)
  rw [hE] at HG
  have HQ := Lib.hid q
  have HY := Lib.hid y
  have hok := grant_ok y.ok n
  have hYl := blt y2
  clear q y
  by_cases h0 : grantE t.a n = 0
  · obtain ⟨e1, e2⟩ := hG h0
    rw [e1, e2, h0] at HG
    have hw : grantW t.a n = { t.a with g := t.a.g + n } := by unfold grantW; rw [if_pos h0]
    rw [hw] at hok ⊢
    rw [h0]
    have HOK := Lib.hid hok
    clear hok hw e1 e2 hE hG h0
    generalize t.a.g + n = g2 at *
    obtain ⟨gg, hgg⟩ : ∃ gg, t.a.g = gg := ⟨_, rfl⟩
    obtain ⟨ss, hss⟩ : ∃ ss, t.a.s = ss := ⟨_, rfl⟩
    have HH := Lib.hid (And.intro hgg hss)
    rw [hgg] at y2 HG
    rw [hss] at y3 HG
    clear hgg hss
    go_enter Tryz.func33, Tryz.ntmps33
    go_wp2_with (first
      | (go_at_call 63; refine (HS.out _).mono ?_; rintro e w1 ⟨rfl, rfl⟩)
      | (go_at_call 64; refine (HG.out _).mono ?_; rintro e w1 ⟨rfl, hb1⟩
         replace y2 := (hb1.cell (p := ⟨Y0, 2, none⟩) hYl).trans y2
         replace y3 := (hb1.cell (p := ⟨Y0, 3, none⟩) hYl).trans y3
         replace z2 := (hb1.frozen (p := ⟨Y0, 2, none⟩) hYl).trans z2
         replace z3 := (hb1.frozen (p := ⟨Y0, 3, none⟩) hYl).trans z3
         replace r1 := (hb1.cell (p := ⟨R, 1, none⟩) (blt r1)).trans r1
         have HB := Lib.hid hb1
         clear hb1))
    have k0 : (w1.alloc (.cells #[.int .i64 g2, .int .i64 ss] 74)).cell? ⟨w1.heap.size, 0, none⟩ = some (.int .i64 g2) := by go_simp
    have k1 : (w1.alloc (.cells #[.int .i64 g2, .int .i64 ss] 74)).cell? ⟨w1.heap.size, 1, none⟩ = some (.int .i64 ss) := by go_simp
    replace z2 := keep_alloc_fr (.cells #[.int .i64 g2, .int .i64 ss] 74) y2 z2
    replace z3 := keep_alloc_fr (.cells #[.int .i64 g2, .int .i64 ss] 74) y3 z3
    replace y2 := keep_alloc (.cells #[.int .i64 g2, .int .i64 ss] 74) y2
    replace y3 := keep_alloc (.cells #[.int .i64 g2, .int .i64 ss] 74) y3
    replace r1 := keep_alloc (.cells #[.int .i64 g2, .int .i64 ss] 74) r1
    have HV := Lib.hid (below_drew (bal HB.out (.cells #[.int .i64 g2, .int .i64 ss] 74)))
    generalize (w1.alloc (.cells #[.int .i64 g2, .int .i64 ss] 74)) = V5 at *
    go_still_tail 9, (by kernel_rfl)
    change wpList _ _ _ _ _ V5.drew
    change V5.drew.cell? _ = _ at y2
    change V5.drew.cell? _ = _ at y3
    change V5.drew.frozen? _ = _ at z2
    change V5.drew.frozen? _ = _ at z3
    generalize V5.drew = V6 at *
    go_wp2
    go_ret
    obtain ⟨I', O', qa⟩ := RWay.goes (Pv := fun _ => False) ⟨I, O, HY.out⟩ (Goes.of_below HV.out) (fun _ _ h => h)
    have q2 := (qa.put2 g2 HOK.out).put3 ss (by rw [← HH.out.2]; exact HOK.out)
    have e : ({ t.a with g := g2, s := ss } : Wy) = { t.a with g := g2 } := by rw [← HH.out.2]
    have hg : Goes (Rin (R + 1) m) V6 ((V6.setCell ⟨Y0, 2, none⟩ (.int .i64 g2)).setCell ⟨Y0, 3, none⟩ (.int .i64 ss)) := (goes_set _ _ _ _ ⟨by omega, by omega⟩).trans (goes_set _ _ _ _ ⟨by omega, by omega⟩)
    refine ⟨rfl, ⟨Y0, Y1, m, ?_⟩, (Goes.of_below HV.out).trans (rin_0 lm lh hg)⟩
    rw [← e]
    exact (HQ.out.below HV.out).put0 ⟨_, _, q2⟩ hg
  · have hw : grantW t.a n = t.a := by unfold grantW; rw [if_neg h0]
    rw [hw, show t.put 0 t.a = t from rfl]
    clear hok hw hE hG
    obtain ⟨E6, hE6⟩ : ∃ E, grantE t.a n = E := ⟨_, rfl⟩
    rw [hE6] at HG h0 ⊢
    clear hE6
    have h0' : (E6 == 0) = false := by simpa using h0
    generalize L13.gG t.a.g t.a.s n = g2 at *
    generalize L13.gS t.a.g t.a.s n = s2 at *
    generalize t.a.g = gg at *
    generalize t.a.s = ss at *
    go_enter Tryz.func33, Tryz.ntmps33
    go_wp2_with (first
      | (go_at_call 63; refine (HS.out _).mono ?_; rintro e w1 ⟨rfl, rfl⟩)
      | (go_at_call 64; refine (HG.out _).mono ?_; rintro e w1 ⟨rfl, hb1⟩; have HB := Lib.hid hb1; clear hb1))
    go_ret
    exact ⟨rfl, ⟨Y0, Y1, m, HQ.out.below (bal HB.out _)⟩, Goes.of_below (bal HB.out _)⟩
set_option maxRecDepth 100000 in
set_option maxHeartbeats 4000000 in
theorem rgrant_1 (R hi cap : Nat) (t : Tn) (n : Int) (w : World) (h : RefAt w R hi cap t) :
    Calls Tryz.prog 33 #[.pointer (some ⟨R, 0, none⟩), .int .i64 1, .int .i64 n] w fun x w' => x = .returned (.int .i64 (grantTE t 1 n)) ∧ RefAt w' R hi cap (grantT t 1 n) ∧ Goes (Rin R hi) w w' := by
  have HS := Lib.hid (fun W => show Calls Tryz.prog 63 #[.int .i64 1] W fun x w' => x = .returned (.bool true) ∧ W = w' from rside_c 1 W)
  rw [show grantTE t 1 n = grantE t.b n from rfl, show grantT t 1 n = t.put 1 (grantW t.b n) from rfl]
  obtain ⟨Y0, Y1, m, q⟩ := h
  have r0 := q.c0
  have r2 := q.c2
  have lm := q.lm
  have lh := q.lh
  have lz := q.lz
  obtain ⟨I, O, y⟩ := q.b
  have l1 := y.l1; have l2 := y.l2; have l3 := y.l3; have l4 := y.l4
  have y2 := y.c2
  have y3 := y.c3
  have z2 := y.f2
  have z3 := y.f3
  obtain ⟨hE, hG⟩ := grant_same y.ok n
  have HG := Lib.hid (fun W => L13.refGrant_any t.b.g t.b.s n W)
  rw [hE] at HG
  have HQ := Lib.hid q
  have HY := Lib.hid y
  have hok := grant_ok y.ok n
  have hYl := blt y2
  clear q y
  by_cases h0 : grantE t.b n = 0
  · obtain ⟨e1, e2⟩ := hG h0
    rw [e1, e2, h0] at HG
    have hw : grantW t.b n = { t.b with g := t.b.g + n } := by unfold grantW; rw [if_pos h0]
    rw [hw] at hok ⊢
    rw [h0]
    have HOK := Lib.hid hok
    clear hok hw e1 e2 hE hG h0
    generalize t.b.g + n = g2 at *
    obtain ⟨gg, hgg⟩ : ∃ gg, t.b.g = gg := ⟨_, rfl⟩
    obtain ⟨ss, hss⟩ : ∃ ss, t.b.s = ss := ⟨_, rfl⟩
    have HH := Lib.hid (And.intro hgg hss)
    rw [hgg] at y2 HG
    rw [hss] at y3 HG
    clear hgg hss
    go_enter Tryz.func33, Tryz.ntmps33
    go_wp2_with (first
      | (go_at_call 63; refine (HS.out _).mono ?_; rintro e w1 ⟨rfl, rfl⟩)
      | (go_at_call 64; refine (HG.out _).mono ?_; rintro e w1 ⟨rfl, hb1⟩
         replace y2 := (hb1.cell (p := ⟨Y1, 2, none⟩) hYl).trans y2
         replace y3 := (hb1.cell (p := ⟨Y1, 3, none⟩) hYl).trans y3
         replace z2 := (hb1.frozen (p := ⟨Y1, 2, none⟩) hYl).trans z2
         replace z3 := (hb1.frozen (p := ⟨Y1, 3, none⟩) hYl).trans z3
         replace r2 := (hb1.cell (p := ⟨R, 2, none⟩) (blt r2)).trans r2
         have HB := Lib.hid hb1
         clear hb1))
    have k0 : (w1.alloc (.cells #[.int .i64 g2, .int .i64 ss] 74)).cell? ⟨w1.heap.size, 0, none⟩ = some (.int .i64 g2) := by go_simp
    have k1 : (w1.alloc (.cells #[.int .i64 g2, .int .i64 ss] 74)).cell? ⟨w1.heap.size, 1, none⟩ = some (.int .i64 ss) := by go_simp
    replace z2 := keep_alloc_fr (.cells #[.int .i64 g2, .int .i64 ss] 74) y2 z2
    replace z3 := keep_alloc_fr (.cells #[.int .i64 g2, .int .i64 ss] 74) y3 z3
    replace y2 := keep_alloc (.cells #[.int .i64 g2, .int .i64 ss] 74) y2
    replace y3 := keep_alloc (.cells #[.int .i64 g2, .int .i64 ss] 74) y3
    replace r2 := keep_alloc (.cells #[.int .i64 g2, .int .i64 ss] 74) r2
    have HV := Lib.hid (below_drew (bal HB.out (.cells #[.int .i64 g2, .int .i64 ss] 74)))
    generalize (w1.alloc (.cells #[.int .i64 g2, .int .i64 ss] 74)) = V5 at *
    go_still_tail 9, (by kernel_rfl)
    change wpList _ _ _ _ _ V5.drew
    change V5.drew.cell? _ = _ at y2
    change V5.drew.cell? _ = _ at y3
    change V5.drew.frozen? _ = _ at z2
    change V5.drew.frozen? _ = _ at z3
    generalize V5.drew = V6 at *
    go_wp2
    go_ret
    obtain ⟨I', O', qa⟩ := RWay.goes (Pv := fun _ => False) ⟨I, O, HY.out⟩ (Goes.of_below HV.out) (fun _ _ h => h)
    have q2 := (qa.put2 g2 HOK.out).put3 ss (by rw [← HH.out.2]; exact HOK.out)
    have e : ({ t.b with g := g2, s := ss } : Wy) = { t.b with g := g2 } := by rw [← HH.out.2]
    have hg : Goes (Rin m hi) V6 ((V6.setCell ⟨Y1, 2, none⟩ (.int .i64 g2)).setCell ⟨Y1, 3, none⟩ (.int .i64 ss)) := (goes_set _ _ _ _ ⟨by omega, by omega⟩).trans (goes_set _ _ _ _ ⟨by omega, by omega⟩)
    refine ⟨rfl, ⟨Y0, Y1, m, ?_⟩, (Goes.of_below HV.out).trans (rin_1 lm lh hg)⟩
    rw [← e]
    exact (HQ.out.below HV.out).put1 ⟨_, _, q2⟩ hg
  · have hw : grantW t.b n = t.b := by unfold grantW; rw [if_neg h0]
    rw [hw, show t.put 1 t.b = t from rfl]
    clear hok hw hE hG
    obtain ⟨E6, hE6⟩ : ∃ E, grantE t.b n = E := ⟨_, rfl⟩
    rw [hE6] at HG h0 ⊢
    clear hE6
    have h0' : (E6 == 0) = false := by simpa using h0
    generalize L13.gG t.b.g t.b.s n = g2 at *
    generalize L13.gS t.b.g t.b.s n = s2 at *
    generalize t.b.g = gg at *
    generalize t.b.s = ss at *
    go_enter Tryz.func33, Tryz.ntmps33
    go_wp2_with (first
      | (go_at_call 63; refine (HS.out _).mono ?_; rintro e w1 ⟨rfl, rfl⟩)
      | (go_at_call 64; refine (HG.out _).mono ?_; rintro e w1 ⟨rfl, hb1⟩; have HB := Lib.hid hb1; clear hb1))
    go_ret
    exact ⟨rfl, ⟨Y0, Y1, m, HQ.out.below (bal HB.out _)⟩, Goes.of_below (bal HB.out _)⟩
set_option maxRecDepth 100000 in
set_option maxHeartbeats 4000000 in
theorem rgrant_c (R hi cap : Nat) (t : Tn) (d n : Int) (w : World) (h : RefAt w R hi cap t) :
    Calls Tryz.prog 33 #[.pointer (some ⟨R, 0, none⟩), .int .i64 d, .int .i64 n] w fun x w' => x = .returned (.int .i64 (grantTE t d n)) ∧ RefAt w' R hi cap (grantT t d n) ∧ Goes (Rin R hi) w w' := by
  by_cases h0 : d = 0
  · subst h0; exact rgrant_0 R hi cap t n w h
  by_cases h1 : d = 1
  · subst h1; exact rgrant_1 R hi cap t n w h
  have hs := side_no h0 h1
  have HS := Lib.hid (fun W => (by have := rside_c d W; rw [hs] at this; exact this : Calls Tryz.prog 63 #[.int .i64 d] W fun x w' => x = .returned (.bool false) ∧ W = w'))
  rw [(grant_te (t := t) (n := n)).2 hs |>.1, (grant_te (t := t) (n := n)).2 hs |>.2]
  clear h0 h1 hs
  have H := Lib.hid h
  clear h
  go_enter Tryz.func33, Tryz.ntmps33
  go_wp2_with (go_at_call 63; refine (HS.out _).mono ?_; rintro e w1 ⟨rfl, rfl⟩)
  go_ret
  exact ⟨rfl, H.out, Goes.refl _ _⟩
end Go.Proofs.YtkokcfhfgnkdfaaGreatDoor.L17

/- The document's tunnel: Drain. -/
namespace Go.Proofs.YtkokcfhfgnkdfaaGreatDoor.L17
open Go.RowKit Go.Shelf
open L1 (str IsR Off)
open L14 (isSt goes dest inB outB endB Laid)
attribute [local go_sem] Oper.semAt_some
set_option maxRecDepth 100000 in
set_option maxHeartbeats 4000000 in
theorem rdrain_0 (R hi cap : Nat) (t : Tn) (n : Int) (w : World) (hm : t.Sm) (h : RefAt w R hi cap t) :
    Calls Tryz.prog 36 #[.pointer (some ⟨R, 0, none⟩), .int .i64 0, .int .i64 n] w fun x w' => x = .returned (.tuple #[.string (str (drainS t 0 n)), .int .i64 (drainE 0)]) ∧ RefAt w' R hi cap (drainT t 0 n) ∧ Goes (Rin R hi) w w' := by
  have HS := Lib.hid (fun W => show Calls Tryz.prog 63 #[.int .i64 0] W fun x w' => x = .returned (.bool true) ∧ W = w' from rside_c 0 W)
  rw [show drainS t 0 n = t.a.o.take n.toNat from rfl, show drainE 0 = 0 from rfl, show drainT t 0 n = t.put 0 (drainW t.a n) from rfl]
  have hdr : t.a.dr ≤ 1000000000 := (hm 0).2.2
  obtain ⟨Y0, Y1, m, q⟩ := h
  have r0 := q.c0
  have r1 := q.c1
  have lm := q.lm
  have lh := q.lh
  have lz := q.lz
  obtain ⟨I, O, y⟩ := q.a
  have l1 := y.l1; have l2 := y.l2; have l3 := y.l3; have l4 := y.l4
  have y1 := y.c1
  have y6 := y.c6
  have z6 := y.f6
  have HP := Lib.hid (L1.rpop_any O cap t.a.o n w y.o)
  have HQ := Lib.hid q
  have HY := Lib.hid y
  have HOK := Lib.hid (drain_ok y.ok n)
  have hol := y.ok.ol
  have hcc := q.lc
  clear q y
  obtain ⟨A, hA⟩ : ∃ A, t.a.o.take n.toNat = A := ⟨_, rfl⟩
  obtain ⟨B, hB⟩ : ∃ B, t.a.o.drop n.toNat = B := ⟨_, rfl⟩
  have hal : A.length ≤ 4096 := by rw [← hA, List.length_take]; omega
  have HD := Lib.hid (show drainW t.a n = { t.a with o := B, dr := t.a.dr + A.length } by unfold drainW; rw [hA, hB])
  rw [hA, hB] at HP
  rw [hA]
  clear hA hB
  obtain ⟨D, hD⟩ : ∃ D, t.a.dr = D := ⟨_, rfl⟩
  rw [hD] at y6 HD hdr
  clear hD
  have hsz : (str A).size = A.length := L1.str_size A
  have hwr : IntKind.i64.wrap ((D : Int) + (A.length : Int)) = ((D + A.length : Nat) : Int) := (IntWalk.i64_in _ (by omega)).trans (by omega)
  go_enter Tryz.func36, Tryz.ntmps36
  go_wp2_with (first
    | (go_at_call 63; refine (HS.out _).mono ?_; rintro e w1 ⟨rfl, rfl⟩)
    | (go_at_call 69; refine HP.out.mono ?_; rintro e w1 ⟨rfl, hi1, ho1⟩
       have g1 := goes_one ho1
       replace r1 := g1.cell r1 (by omega)
       replace z6 := (g1.frozen y6 (by omega)).trans z6
       replace y6 := g1.cell y6 (by omega)
       have HG1 := Lib.hid g1
       have HI1 := Lib.hid hi1
       clear g1 hi1 ho1 y1 r0))
  go_still_tail 20, (by kernel_rfl)
  change wpList _ _ _ _ _ w1.drew
  change w1.drew.cell? _ = _ at y6
  change w1.drew.frozen? _ = _ at z6
  have HI2 := Lib.hid (IsR.same (w' := w1.drew) HI1.out rfl)
  have HG2 := Lib.hid (HG1.out.trans (Goes.of_below (below_drew (Below.refl _ _))))
  generalize w1.drew = V6 at *
  go_wp2
  go_ret2
  have qo := HY.out.setO HI2.out HG2.out (by have := HOK.out; rw [HD.out] at this; exact ⟨this.il, this.ol, this.s0, this.sg, this.gm, this.gs⟩)
  have q2 := qo.put6 (D + A.length) (by have := HOK.out; rw [HD.out] at this; exact this)
  have hg : Goes (Rin (R + 1) m) w (V6.setCell ⟨Y0, 6, none⟩ (.int .i64 (D + A.length : Nat))) := (HG2.out.mono (fun i (h : i = O) => ⟨by omega, by omega⟩)).trans (goes_set _ _ _ _ ⟨by omega, by omega⟩)
  refine ⟨rfl, ⟨Y0, Y1, m, ?_⟩, rin_0 lm lh hg⟩
  rw [HD.out]
  exact HQ.out.put0 ⟨_, _, q2⟩ hg
set_option maxRecDepth 100000 in
set_option maxHeartbeats 4000000 in
theorem rdrain_1 (R hi cap : Nat) (t : Tn) (n : Int) (w : World) (hm : t.Sm) (h : RefAt w R hi cap t) :
    Calls Tryz.prog 36 #[.pointer (some ⟨R, 0, none⟩), .int .i64 1, .int .i64 n] w fun x w' => x = .returned (.tuple #[.string (str (drainS t 1 n)), .int .i64 (drainE 1)]) ∧ RefAt w' R hi cap (drainT t 1 n) ∧ Goes (Rin R hi) w w' := by
  have HS := Lib.hid (fun W => show Calls Tryz.prog 63 #[.int .i64 1] W fun x w' => x = .returned (.bool true) ∧ W = w' from rside_c 1 W)
  rw [show drainS t 1 n = t.b.o.take n.toNat from rfl, show drainE 1 = 0 from rfl, show drainT t 1 n = t.put 1 (drainW t.b n) from rfl]
  have hdr : t.b.dr ≤ 1000000000 := (hm 1).2.2
  obtain ⟨Y0, Y1, m, q⟩ := h
  have r0 := q.c0
  have r2 := q.c2
  have lm := q.lm
  have lh := q.lh
  have lz := q.lz
  obtain ⟨I, O, y⟩ := q.b
  have l1 := y.l1; have l2 := y.l2; have l3 := y.l3; have l4 := y.l4
  have y1 := y.c1
  have y6 := y.c6
  have z6 := y.f6
  have HP := Lib.hid (L1.rpop_any O cap t.b.o n w y.o)
  have HQ := Lib.hid q
  have HY := Lib.hid y
  have HOK := Lib.hid (drain_ok y.ok n)
  have hol := y.ok.ol
  have hcc := q.lc
  clear q y
  obtain ⟨A, hA⟩ : ∃ A, t.b.o.take n.toNat = A := ⟨_, rfl⟩
  obtain ⟨B, hB⟩ : ∃ B, t.b.o.drop n.toNat = B := ⟨_, rfl⟩
  have hal : A.length ≤ 4096 := by rw [← hA, List.length_take]; omega
  have HD := Lib.hid (show drainW t.b n = { t.b with o := B, dr := t.b.dr + A.length } by unfold drainW; rw [hA, hB])
  rw [hA, hB] at HP
  rw [hA]
  clear hA hB
  obtain ⟨D, hD⟩ : ∃ D, t.b.dr = D := ⟨_, rfl⟩
  rw [hD] at y6 HD hdr
  clear hD
  have hsz : (str A).size = A.length := L1.str_size A
  have hwr : IntKind.i64.wrap ((D : Int) + (A.length : Int)) = ((D + A.length : Nat) : Int) := (IntWalk.i64_in _ (by omega)).trans (by omega)
  go_enter Tryz.func36, Tryz.ntmps36
  go_wp2_with (first
    | (go_at_call 63; refine (HS.out _).mono ?_; rintro e w1 ⟨rfl, rfl⟩)
    | (go_at_call 69; refine HP.out.mono ?_; rintro e w1 ⟨rfl, hi1, ho1⟩
       have g1 := goes_one ho1
       replace r2 := g1.cell r2 (by omega)
       replace z6 := (g1.frozen y6 (by omega)).trans z6
       replace y6 := g1.cell y6 (by omega)
       have HG1 := Lib.hid g1
       have HI1 := Lib.hid hi1
       clear g1 hi1 ho1 y1 r0))
  go_still_tail 20, (by kernel_rfl)
  change wpList _ _ _ _ _ w1.drew
  change w1.drew.cell? _ = _ at y6
  change w1.drew.frozen? _ = _ at z6
  have HI2 := Lib.hid (IsR.same (w' := w1.drew) HI1.out rfl)
  have HG2 := Lib.hid (HG1.out.trans (Goes.of_below (below_drew (Below.refl _ _))))
  generalize w1.drew = V6 at *
  go_wp2
  go_ret2
  have qo := HY.out.setO HI2.out HG2.out (by have := HOK.out; rw [HD.out] at this; exact ⟨this.il, this.ol, this.s0, this.sg, this.gm, this.gs⟩)
  have q2 := qo.put6 (D + A.length) (by have := HOK.out; rw [HD.out] at this; exact this)
  have hg : Goes (Rin m hi) w (V6.setCell ⟨Y1, 6, none⟩ (.int .i64 (D + A.length : Nat))) := (HG2.out.mono (fun i (h : i = O) => ⟨by omega, by omega⟩)).trans (goes_set _ _ _ _ ⟨by omega, by omega⟩)
  refine ⟨rfl, ⟨Y0, Y1, m, ?_⟩, rin_1 lm lh hg⟩
  rw [HD.out]
  exact HQ.out.put1 ⟨_, _, q2⟩ hg
set_option maxRecDepth 100000 in
set_option maxHeartbeats 4000000 in
theorem rdrain_c (R hi cap : Nat) (t : Tn) (d n : Int) (w : World) (hm : t.Sm) (h : RefAt w R hi cap t) :
    Calls Tryz.prog 36 #[.pointer (some ⟨R, 0, none⟩), .int .i64 d, .int .i64 n] w fun x w' => x = .returned (.tuple #[.string (str (drainS t d n)), .int .i64 (drainE d)]) ∧ RefAt w' R hi cap (drainT t d n) ∧ Goes (Rin R hi) w w' := by
  by_cases h0 : d = 0
  · subst h0; exact rdrain_0 R hi cap t n w hm h
  by_cases h1 : d = 1
  · subst h1; exact rdrain_1 R hi cap t n w hm h
  have hs := side_no h0 h1
  have HS := Lib.hid (fun W => (by have := rside_c d W; rw [hs] at this; exact this : Calls Tryz.prog 63 #[.int .i64 d] W fun x w' => x = .returned (.bool false) ∧ W = w'))
  have e1 : drainS t d n = [] := by unfold drainS; rw [if_neg (by rw [hs]; decide)]
  have e2 : drainE d = 170 := by unfold drainE; rw [if_neg (by rw [hs]; decide)]
  have e3 : drainT t d n = t := by unfold drainT; rw [if_neg (by rw [hs]; decide)]
  rw [e1, e2, e3]
  clear h0 h1 hs e1 e2 e3 hm
  have H := Lib.hid h
  clear h
  go_enter Tryz.func36, Tryz.ntmps36
  go_wp2_with (go_at_call 63; refine (HS.out _).mono ?_; rintro e w1 ⟨rfl, rfl⟩)
  go_ret2
  exact ⟨rfl, H.out, Goes.refl _ _⟩
end Go.Proofs.YtkokcfhfgnkdfaaGreatDoor.L17

/- The document's own answers for layer 14: Next, In, Out, IsEnd. -/
namespace Go.Proofs.YtkokcfhfgnkdfaaGreatDoor.L14
open Go.RowKit Go.Shelf
attribute [local go_sem] Oper.semAt_some

theorem ret_two {a b c d : Int} (h : a = b) (h' : c = d) : Ending.returned (.tuple #[.int .i64 a, .int .i64 c]) = .returned (.tuple #[.int .i64 b, .int .i64 d]) := by rw [h, h']
theorem next_out {s e : Int} (hs : isSt s = false) : nextN s e = 0 ∧ nextE s e = 2 := by
  unfold nextN nextE
  rw [if_neg (by simp [hs]), if_neg (by simp [hs])]
  exact ⟨rfl, rfl⟩
theorem next_not {s e : Int} (hs : isSt s = true) (hg : goes s e = false) : nextN s e = 0 ∧ nextE s e = 140 := by
  unfold nextN nextE
  rw [if_pos hs, if_pos hs, hg]
  exact ⟨rfl, rfl⟩
theorem goes_not {s e : Int} (h : ¬ ((s = 0 ∧ e = 1) ∨ (s = 1 ∧ e = 2) ∨ (s = 1 ∧ e = 3) ∨ (s = 1 ∧ e = 6) ∨ (s = 2 ∧ e = 4) ∨ (s = 2 ∧ e = 5) ∨ (s = 2 ∧ e = 6) ∨ (s = 3 ∧ e = 5) ∨ (s = 3 ∧ e = 6) ∨ (s = 4 ∧ e = 4) ∨ (s = 4 ∧ e = 6))) : goes s e = false := by
  cases hg : goes s e with
  | false => rfl
  | true => exact absurd (goes_cases hg) h

theorem refNext_out (s e : Int) (w : World) (hs : isSt s = false) : Calls Tryz.prog 61 #[.int .i64 s, .int .i64 e] w fun x w' => x = .returned (.tuple #[.int .i64 (nextN s e), .int .i64 (nextE s e)]) ∧ w = w' := by
  obtain ⟨h1, h2⟩ := next_out (e := e) hs
  rw [h1, h2]
  simp only [isSt, decide_eq_false_iff_not] at hs
  by_cases h : s < 0
  · go_enter Tryz.func61, Tryz.ntmps61
    go_wp2
    go_ret2
    exact ⟨rfl, rfl⟩
  · have h6 : 6 < s := by omega
    go_enter Tryz.func61, Tryz.ntmps61
    go_wp2
    go_ret2
    exact ⟨rfl, rfl⟩

set_option maxRecDepth 100000 in
set_option maxHeartbeats 2000000 in
theorem refNext_0 (e : Int) (w : World) : Calls Tryz.prog 61 #[.int .i64 0, .int .i64 e] w fun x w' => x = .returned (.tuple #[.int .i64 (nextN 0 e), .int .i64 (nextE 0 e)]) ∧ w = w' := by
  by_cases h1 : e = 1
  · subst h1
    go_enter Tryz.func61, Tryz.ntmps61
    go_wp2
    go_ret2
    exact ⟨ret_two (by decide +kernel) (by decide +kernel), rfl⟩
  have d1 : (e == 1) = false := by simpa using h1
  obtain ⟨g1, g2⟩ := next_not (s := 0) (e := e) (by decide) (goes_not (by omega))
  rw [g1, g2]
  clear g1 g2
  go_enter Tryz.func61, Tryz.ntmps61
  go_wp2
  go_ret2
  exact ⟨rfl, rfl⟩
set_option maxRecDepth 100000 in
set_option maxHeartbeats 2000000 in
theorem refNext_1 (e : Int) (w : World) : Calls Tryz.prog 61 #[.int .i64 1, .int .i64 e] w fun x w' => x = .returned (.tuple #[.int .i64 (nextN 1 e), .int .i64 (nextE 1 e)]) ∧ w = w' := by
  by_cases h2 : e = 2
  · subst h2
    go_enter Tryz.func61, Tryz.ntmps61
    go_wp2
    go_ret2
    exact ⟨ret_two (by decide +kernel) (by decide +kernel), rfl⟩
  have d2 : (e == 2) = false := by simpa using h2
  by_cases h3 : e = 3
  · subst h3
    go_enter Tryz.func61, Tryz.ntmps61
    go_wp2
    go_ret2
    exact ⟨ret_two (by decide +kernel) (by decide +kernel), rfl⟩
  have d3 : (e == 3) = false := by simpa using h3
  by_cases h6 : e = 6
  · subst h6
    go_enter Tryz.func61, Tryz.ntmps61
    go_wp2
    go_ret2
    exact ⟨ret_two (by decide +kernel) (by decide +kernel), rfl⟩
  have d6 : (e == 6) = false := by simpa using h6
  obtain ⟨g1, g2⟩ := next_not (s := 1) (e := e) (by decide) (goes_not (by omega))
  rw [g1, g2]
  clear g1 g2
  go_enter Tryz.func61, Tryz.ntmps61
  go_wp2
  go_ret2
  exact ⟨rfl, rfl⟩
set_option maxRecDepth 100000 in
set_option maxHeartbeats 2000000 in
theorem refNext_2 (e : Int) (w : World) : Calls Tryz.prog 61 #[.int .i64 2, .int .i64 e] w fun x w' => x = .returned (.tuple #[.int .i64 (nextN 2 e), .int .i64 (nextE 2 e)]) ∧ w = w' := by
  by_cases h4 : e = 4
  · subst h4
    go_enter Tryz.func61, Tryz.ntmps61
    go_wp2
    go_ret2
    exact ⟨ret_two (by decide +kernel) (by decide +kernel), rfl⟩
  have d4 : (e == 4) = false := by simpa using h4
  by_cases h5 : e = 5
  · subst h5
    go_enter Tryz.func61, Tryz.ntmps61
    go_wp2
    go_ret2
    exact ⟨ret_two (by decide +kernel) (by decide +kernel), rfl⟩
  have d5 : (e == 5) = false := by simpa using h5
  by_cases h6 : e = 6
  · subst h6
    go_enter Tryz.func61, Tryz.ntmps61
    go_wp2
    go_ret2
    exact ⟨ret_two (by decide +kernel) (by decide +kernel), rfl⟩
  have d6 : (e == 6) = false := by simpa using h6
  obtain ⟨g1, g2⟩ := next_not (s := 2) (e := e) (by decide) (goes_not (by omega))
  rw [g1, g2]
  clear g1 g2
  go_enter Tryz.func61, Tryz.ntmps61
  go_wp2
  go_ret2
  exact ⟨rfl, rfl⟩
set_option maxRecDepth 100000 in
set_option maxHeartbeats 2000000 in
theorem refNext_3 (e : Int) (w : World) : Calls Tryz.prog 61 #[.int .i64 3, .int .i64 e] w fun x w' => x = .returned (.tuple #[.int .i64 (nextN 3 e), .int .i64 (nextE 3 e)]) ∧ w = w' := by
  by_cases h5 : e = 5
  · subst h5
    go_enter Tryz.func61, Tryz.ntmps61
    go_wp2
    go_ret2
    exact ⟨ret_two (by decide +kernel) (by decide +kernel), rfl⟩
  have d5 : (e == 5) = false := by simpa using h5
  by_cases h6 : e = 6
  · subst h6
    go_enter Tryz.func61, Tryz.ntmps61
    go_wp2
    go_ret2
    exact ⟨ret_two (by decide +kernel) (by decide +kernel), rfl⟩
  have d6 : (e == 6) = false := by simpa using h6
  obtain ⟨g1, g2⟩ := next_not (s := 3) (e := e) (by decide) (goes_not (by omega))
  rw [g1, g2]
  clear g1 g2
  go_enter Tryz.func61, Tryz.ntmps61
  go_wp2
  go_ret2
  exact ⟨rfl, rfl⟩
set_option maxRecDepth 100000 in
set_option maxHeartbeats 2000000 in
theorem refNext_4 (e : Int) (w : World) : Calls Tryz.prog 61 #[.int .i64 4, .int .i64 e] w fun x w' => x = .returned (.tuple #[.int .i64 (nextN 4 e), .int .i64 (nextE 4 e)]) ∧ w = w' := by
  by_cases h4 : e = 4
  · subst h4
    go_enter Tryz.func61, Tryz.ntmps61
    go_wp2
    go_ret2
    exact ⟨ret_two (by decide +kernel) (by decide +kernel), rfl⟩
  have d4 : (e == 4) = false := by simpa using h4
  by_cases h6 : e = 6
  · subst h6
    go_enter Tryz.func61, Tryz.ntmps61
    go_wp2
    go_ret2
    exact ⟨ret_two (by decide +kernel) (by decide +kernel), rfl⟩
  have d6 : (e == 6) = false := by simpa using h6
  obtain ⟨g1, g2⟩ := next_not (s := 4) (e := e) (by decide) (goes_not (by omega))
  rw [g1, g2]
  clear g1 g2
  go_enter Tryz.func61, Tryz.ntmps61
  go_wp2
  go_ret2
  exact ⟨rfl, rfl⟩
set_option maxRecDepth 100000 in
set_option maxHeartbeats 2000000 in
theorem refNext_5 (e : Int) (w : World) : Calls Tryz.prog 61 #[.int .i64 5, .int .i64 e] w fun x w' => x = .returned (.tuple #[.int .i64 (nextN 5 e), .int .i64 (nextE 5 e)]) ∧ w = w' := by
  obtain ⟨g1, g2⟩ := next_not (s := 5) (e := e) (by decide) (goes_not (by omega))
  rw [g1, g2]
  clear g1 g2
  go_enter Tryz.func61, Tryz.ntmps61
  go_wp2
  go_ret2
  exact ⟨rfl, rfl⟩
set_option maxRecDepth 100000 in
set_option maxHeartbeats 2000000 in
theorem refNext_6 (e : Int) (w : World) : Calls Tryz.prog 61 #[.int .i64 6, .int .i64 e] w fun x w' => x = .returned (.tuple #[.int .i64 (nextN 6 e), .int .i64 (nextE 6 e)]) ∧ w = w' := by
  obtain ⟨g1, g2⟩ := next_not (s := 6) (e := e) (by decide) (goes_not (by omega))
  rw [g1, g2]
  clear g1 g2
  go_enter Tryz.func61, Tryz.ntmps61
  go_wp2
  go_ret2
  exact ⟨rfl, rfl⟩
theorem refNext_c (s e : Int) (w : World) : Calls Tryz.prog 61 #[.int .i64 s, .int .i64 e] w fun x w' => x = .returned (.tuple #[.int .i64 (nextN s e), .int .i64 (nextE s e)]) ∧ w = w' := by
  cases hs : isSt s with
  | false => exact refNext_out s e w hs
  | true =>
    rcases isSt_cases hs with rfl | rfl | rfl | rfl | rfl | rfl | rfl
    · exact refNext_0 e w
    · exact refNext_1 e w
    · exact refNext_2 e w
    · exact refNext_3 e w
    · exact refNext_4 e w
    · exact refNext_5 e w
    · exact refNext_6 e w

theorem refIn_c (s : Int) (w : World) : Calls Tryz.prog 65 #[.int .i64 s] w fun x w' => x = .returned (.bool (inB s)) ∧ w = w' := by
  by_cases h : s = 2
  · subst h
    go_enter Tryz.func65, Tryz.ntmps65
    go_wp2
    go_ret
    exact ⟨rfl, rfl⟩
  · have d : (s == 2) = false := by simpa using h
    by_cases h' : s = 4
    · subst h'
      go_enter Tryz.func65, Tryz.ntmps65
      go_wp2
      go_ret
      exact ⟨rfl, rfl⟩
    · have d' : (s == 4) = false := by simpa using h'
      have e : inB s = false := by simp only [inB, decide_eq_false_iff_not]; omega
      rw [e]
      go_enter Tryz.func65, Tryz.ntmps65
      go_wp2
      go_ret
      exact ⟨rfl, rfl⟩
theorem refOut_c (s : Int) (w : World) : Calls Tryz.prog 66 #[.int .i64 s] w fun x w' => x = .returned (.bool (outB s)) ∧ w = w' := by
  by_cases h : s = 2
  · subst h
    go_enter Tryz.func66, Tryz.ntmps66
    go_wp2
    go_ret
    exact ⟨rfl, rfl⟩
  · have d : (s == 2) = false := by simpa using h
    by_cases h' : s = 3
    · subst h'
      go_enter Tryz.func66, Tryz.ntmps66
      go_wp2
      go_ret
      exact ⟨rfl, rfl⟩
    · have d' : (s == 3) = false := by simpa using h'
      have e : outB s = false := by simp only [outB, decide_eq_false_iff_not]; omega
      rw [e]
      go_enter Tryz.func66, Tryz.ntmps66
      go_wp2
      go_ret
      exact ⟨rfl, rfl⟩
theorem refEnd_c (s : Int) (w : World) : Calls Tryz.prog 71 #[.int .i64 s] w fun x w' => x = .returned (.bool (endB s)) ∧ w = w' := by
  by_cases h : s = 5
  · subst h
    go_enter Tryz.func71, Tryz.ntmps71
    go_wp2
    go_ret
    exact ⟨rfl, rfl⟩
  · have d : (s == 5) = false := by simpa using h
    by_cases h' : s = 6
    · subst h'
      go_enter Tryz.func71, Tryz.ntmps71
      go_wp2
      go_ret
      exact ⟨rfl, rfl⟩
    · have d' : (s == 6) = false := by simpa using h'
      have e : endB s = false := by simp only [endB, decide_eq_false_iff_not]; omega
      rw [e]
      go_enter Tryz.func71, Tryz.ntmps71
      go_wp2
      go_ret
      exact ⟨rfl, rfl⟩
end Go.Proofs.YtkokcfhfgnkdfaaGreatDoor.L14

/- The document's tunnel: Feed. -/
namespace Go.Proofs.YtkokcfhfgnkdfaaGreatDoor.L17
open Go.RowKit Go.Shelf
open L1 (str IsR Off)
open L14 (isSt goes dest inB outB endB Laid refIn_c refOut_c)
attribute [local go_sem] Oper.semAt_some
set_option maxRecDepth 100000 in
set_option maxHeartbeats 4000000 in
theorem rfeed_0 (R hi cap : Nat) (t : Tn) (s : ByteArray) (w : World) (hs : s.size ≤ 5000) (hm : t.Sm) (h : RefAt w R hi cap t) :
    Calls Tryz.prog 34 #[.pointer (some ⟨R, 0, none⟩), .int .i64 0, .string s] w fun x w' => x = .returned (.tuple #[.int .i64 (feedTN cap t 0 s : Nat), .int .i64 (feedE t 0)]) ∧ RefAt w' R hi cap (feedT cap t 0 s) ∧ Goes (Rin R hi) w w' := by
  have HS := Lib.hid (fun W => show Calls Tryz.prog 63 #[.int .i64 0] W fun x w' => x = .returned (.bool true) ∧ W = w' from rside_c 0 W)
  have HI := Lib.hid (fun W => refIn_c t.st W)
  have HO := Lib.hid (fun W => refOut_c t.st W)
  have hE : feedE t 0 = (if inB t.st = true then 0 else 171) := rfl
  cases hb : inB t.st
  · rw [hb] at hE
    have e1 : feedE t 0 = 171 := hE
    have e2 : feedTN cap t 0 s = 0 := by unfold feedTN; rw [e1]; rfl
    have e3 : feedT cap t 0 s = t := by unfold feedT; rw [e1]; rfl
    rw [e1, e2, e3]
    obtain ⟨Y0, Y1, m, q⟩ := h
    have r0 := q.c0
    have HQ := Lib.hid q
    rw [hb] at HI
    clear hE e1 e2 e3 hb q hm
    generalize t.st = st at *
    go_enter Tryz.func34, Tryz.ntmps34
    go_wp2_with (first
      | (go_at_call 63; refine (HS.out _).mono ?_; rintro e w1 ⟨rfl, rfl⟩)
      | (go_at_call 65; refine (HI.out _).mono ?_; rintro e w1 ⟨rfl, rfl⟩))
    go_ret2
    exact ⟨rfl, ⟨Y0, Y1, m, HQ.out⟩, Goes.refl _ _⟩
  · rw [hb] at hE
    have e1 : feedE t 0 = 0 := hE
    have e2 : feedTN cap t 0 s = feedN cap t.a s := by unfold feedTN; rw [e1]; rfl
    have e3 : feedT cap t 0 s = t.put 0 (feedW cap t.a s) := by unfold feedT; rw [e1]; rfl
    rw [e1, e2, e3]
    have hfd : t.a.fd ≤ 1000000000 := (hm 0).1
    obtain ⟨Y0, Y1, m, q⟩ := h
    have r0 := q.c0
    have r1 := q.c1
    have lm := q.lm
    have lh := q.lh
    have lz := q.lz
    obtain ⟨I, O, y⟩ := q.a
    have l1 := y.l1; have l2 := y.l2; have l3 := y.l3; have l4 := y.l4
    have y0 := y.c0
    have y4 := y.c4
    have z4 := y.f4
    have HP := Lib.hid (L1.rpush_any I cap t.a.i s w y.i)
    have HQ := Lib.hid q
    have HY := Lib.hid y
    have HOK := Lib.hid (feed_ok y.ok s)
    rw [hb] at HI
    clear hE e1 e2 e3 hb q y hm
    have hN : feedN cap t.a s ≤ 5000 := by unfold feedN; omega
    have hP : L1.fits cap t.a.i.length s.size = feedN cap t.a s := rfl
    rw [hP] at HP
    clear hP
    have HD := Lib.hid (show feedW cap t.a s = { t.a with i := t.a.i ++ s.data.toList.take (cap - t.a.i.length), fd := t.a.fd + feedN cap t.a s } from rfl)
    obtain ⟨A, hA⟩ : ∃ A, t.a.i ++ s.data.toList.take (cap - t.a.i.length) = A := ⟨_, rfl⟩
    obtain ⟨N, hN2⟩ : ∃ N, feedN cap t.a s = N := ⟨_, rfl⟩
    obtain ⟨D, hD⟩ : ∃ D, t.a.fd = D := ⟨_, rfl⟩
    obtain ⟨st, hst⟩ : ∃ st, t.st = st := ⟨_, rfl⟩
    rw [hA] at HP HD
    rw [hN2] at HP HD hN ⊢
    rw [hD] at y4 HD hfd
    rw [hst] at r0 HI
    clear hA hN2 hD hst
    have hwr : IntKind.i64.wrap ((D : Int) + (N : Int)) = ((D + N : Nat) : Int) := (IntWalk.i64_in _ (by omega)).trans (by omega)
    go_enter Tryz.func34, Tryz.ntmps34
    go_wp2_with (first
      | (go_at_call 63; refine (HS.out _).mono ?_; rintro e w1 ⟨rfl, rfl⟩)
      | (go_at_call 65; refine (HI.out _).mono ?_; rintro e w1 ⟨rfl, rfl⟩)
      | (go_at_call 67; refine HP.out.mono ?_; rintro e w1 ⟨rfl, hi1, ho1⟩
         have g1 := goes_one ho1
         replace r1 := g1.cell r1 (by omega)
         replace z4 := (g1.frozen y4 (by omega)).trans z4
         replace y4 := g1.cell y4 (by omega)
         have HG1 := Lib.hid g1
         have HI1 := Lib.hid hi1
         clear g1 hi1 ho1 y0 r0))
    go_still_tail 19, (by kernel_rfl)
    change wpList _ _ _ _ _ w1.drew
    change w1.drew.cell? _ = _ at y4
    change w1.drew.frozen? _ = _ at z4
    have HI2 := Lib.hid (IsR.same (w' := w1.drew) HI1.out rfl)
    have HG2 := Lib.hid (HG1.out.trans (Goes.of_below (below_drew (Below.refl _ _))))
    generalize w1.drew = V6 at *
    go_wp2
    go_ret2
    have qo := HY.out.setI HI2.out HG2.out (by have := HOK.out; rw [HD.out] at this; exact ⟨this.il, this.ol, this.s0, this.sg, this.gm, this.gs⟩)
    have q2 := qo.put4 (D + N) (by have := HOK.out; rw [HD.out] at this; exact this)
    have hg : Goes (Rin (R + 1) m) w (V6.setCell ⟨Y0, 4, none⟩ (.int .i64 (D + N : Nat))) := (HG2.out.mono (fun i (h : i = I) => ⟨by omega, by omega⟩)).trans (goes_set _ _ _ _ ⟨by omega, by omega⟩)
    refine ⟨rfl, ⟨Y0, Y1, m, ?_⟩, rin_0 lm lh hg⟩
    rw [HD.out]
    exact HQ.out.put0 ⟨_, _, q2⟩ hg
set_option maxRecDepth 100000 in
set_option maxHeartbeats 4000000 in
theorem rfeed_1 (R hi cap : Nat) (t : Tn) (s : ByteArray) (w : World) (hs : s.size ≤ 5000) (hm : t.Sm) (h : RefAt w R hi cap t) :
    Calls Tryz.prog 34 #[.pointer (some ⟨R, 0, none⟩), .int .i64 1, .string s] w fun x w' => x = .returned (.tuple #[.int .i64 (feedTN cap t 1 s : Nat), .int .i64 (feedE t 1)]) ∧ RefAt w' R hi cap (feedT cap t 1 s) ∧ Goes (Rin R hi) w w' := by
  have HS := Lib.hid (fun W => show Calls Tryz.prog 63 #[.int .i64 1] W fun x w' => x = .returned (.bool true) ∧ W = w' from rside_c 1 W)
  have HI := Lib.hid (fun W => refIn_c t.st W)
  have HO := Lib.hid (fun W => refOut_c t.st W)
  have hE : feedE t 1 = (if outB t.st = true then 0 else 171) := rfl
  cases hb : outB t.st
  · rw [hb] at hE
    have e1 : feedE t 1 = 171 := hE
    have e2 : feedTN cap t 1 s = 0 := by unfold feedTN; rw [e1]; rfl
    have e3 : feedT cap t 1 s = t := by unfold feedT; rw [e1]; rfl
    rw [e1, e2, e3]
    obtain ⟨Y0, Y1, m, q⟩ := h
    have r0 := q.c0
    have HQ := Lib.hid q
    rw [hb] at HO
    clear hE e1 e2 e3 hb q hm
    generalize t.st = st at *
    go_enter Tryz.func34, Tryz.ntmps34
    go_wp2_with (first
      | (go_at_call 63; refine (HS.out _).mono ?_; rintro e w1 ⟨rfl, rfl⟩)
      | (go_at_call 66; refine (HO.out _).mono ?_; rintro e w1 ⟨rfl, rfl⟩))
    go_ret2
    exact ⟨rfl, ⟨Y0, Y1, m, HQ.out⟩, Goes.refl _ _⟩
  · rw [hb] at hE
    have e1 : feedE t 1 = 0 := hE
    have e2 : feedTN cap t 1 s = feedN cap t.b s := by unfold feedTN; rw [e1]; rfl
    have e3 : feedT cap t 1 s = t.put 1 (feedW cap t.b s) := by unfold feedT; rw [e1]; rfl
    rw [e1, e2, e3]
    have hfd : t.b.fd ≤ 1000000000 := (hm 1).1
    obtain ⟨Y0, Y1, m, q⟩ := h
    have r0 := q.c0
    have r2 := q.c2
    have lm := q.lm
    have lh := q.lh
    have lz := q.lz
    obtain ⟨I, O, y⟩ := q.b
    have l1 := y.l1; have l2 := y.l2; have l3 := y.l3; have l4 := y.l4
    have y0 := y.c0
    have y4 := y.c4
    have z4 := y.f4
    have HP := Lib.hid (L1.rpush_any I cap t.b.i s w y.i)
    have HQ := Lib.hid q
    have HY := Lib.hid y
    have HOK := Lib.hid (feed_ok y.ok s)
    rw [hb] at HO
    clear hE e1 e2 e3 hb q y hm
    have hN : feedN cap t.b s ≤ 5000 := by unfold feedN; omega
    have hP : L1.fits cap t.b.i.length s.size = feedN cap t.b s := rfl
    rw [hP] at HP
    clear hP
    have HD := Lib.hid (show feedW cap t.b s = { t.b with i := t.b.i ++ s.data.toList.take (cap - t.b.i.length), fd := t.b.fd + feedN cap t.b s } from rfl)
    obtain ⟨A, hA⟩ : ∃ A, t.b.i ++ s.data.toList.take (cap - t.b.i.length) = A := ⟨_, rfl⟩
    obtain ⟨N, hN2⟩ : ∃ N, feedN cap t.b s = N := ⟨_, rfl⟩
    obtain ⟨D, hD⟩ : ∃ D, t.b.fd = D := ⟨_, rfl⟩
    obtain ⟨st, hst⟩ : ∃ st, t.st = st := ⟨_, rfl⟩
    rw [hA] at HP HD
    rw [hN2] at HP HD hN ⊢
    rw [hD] at y4 HD hfd
    rw [hst] at r0 HO
    clear hA hN2 hD hst
    have hwr : IntKind.i64.wrap ((D : Int) + (N : Int)) = ((D + N : Nat) : Int) := (IntWalk.i64_in _ (by omega)).trans (by omega)
    go_enter Tryz.func34, Tryz.ntmps34
    go_wp2_with (first
      | (go_at_call 63; refine (HS.out _).mono ?_; rintro e w1 ⟨rfl, rfl⟩)
      | (go_at_call 66; refine (HO.out _).mono ?_; rintro e w1 ⟨rfl, rfl⟩)
      | (go_at_call 67; refine HP.out.mono ?_; rintro e w1 ⟨rfl, hi1, ho1⟩
         have g1 := goes_one ho1
         replace r2 := g1.cell r2 (by omega)
         replace z4 := (g1.frozen y4 (by omega)).trans z4
         replace y4 := g1.cell y4 (by omega)
         have HG1 := Lib.hid g1
         have HI1 := Lib.hid hi1
         clear g1 hi1 ho1 y0 r0))
    go_still_tail 19, (by kernel_rfl)
    change wpList _ _ _ _ _ w1.drew
    change w1.drew.cell? _ = _ at y4
    change w1.drew.frozen? _ = _ at z4
    have HI2 := Lib.hid (IsR.same (w' := w1.drew) HI1.out rfl)
    have HG2 := Lib.hid (HG1.out.trans (Goes.of_below (below_drew (Below.refl _ _))))
    generalize w1.drew = V6 at *
    go_wp2
    go_ret2
    have qo := HY.out.setI HI2.out HG2.out (by have := HOK.out; rw [HD.out] at this; exact ⟨this.il, this.ol, this.s0, this.sg, this.gm, this.gs⟩)
    have q2 := qo.put4 (D + N) (by have := HOK.out; rw [HD.out] at this; exact this)
    have hg : Goes (Rin m hi) w (V6.setCell ⟨Y1, 4, none⟩ (.int .i64 (D + N : Nat))) := (HG2.out.mono (fun i (h : i = I) => ⟨by omega, by omega⟩)).trans (goes_set _ _ _ _ ⟨by omega, by omega⟩)
    refine ⟨rfl, ⟨Y0, Y1, m, ?_⟩, rin_1 lm lh hg⟩
    rw [HD.out]
    exact HQ.out.put1 ⟨_, _, q2⟩ hg
set_option maxRecDepth 100000 in
set_option maxHeartbeats 4000000 in
theorem rfeed_c (R hi cap : Nat) (t : Tn) (d : Int) (s : ByteArray) (w : World) (hs : s.size ≤ 5000) (hm : t.Sm) (h : RefAt w R hi cap t) :
    Calls Tryz.prog 34 #[.pointer (some ⟨R, 0, none⟩), .int .i64 d, .string s] w fun x w' => x = .returned (.tuple #[.int .i64 (feedTN cap t d s : Nat), .int .i64 (feedE t d)]) ∧ RefAt w' R hi cap (feedT cap t d s) ∧ Goes (Rin R hi) w w' := by
  by_cases h0 : d = 0
  · subst h0; exact rfeed_0 R hi cap t s w hs hm h
  by_cases h1 : d = 1
  · subst h1; exact rfeed_1 R hi cap t s w hs hm h
  have hn := side_no h0 h1
  have HS := Lib.hid (fun W => (by have := rside_c d W; rw [hn] at this; exact this : Calls Tryz.prog 63 #[.int .i64 d] W fun x w' => x = .returned (.bool false) ∧ W = w'))
  have e1 : feedE t d = 170 := by unfold feedE; rw [if_neg (by rw [hn]; decide)]
  have e2 : feedTN cap t d s = 0 := by unfold feedTN; rw [e1]; rfl
  have e3 : feedT cap t d s = t := by unfold feedT; rw [e1]; rfl
  rw [e1, e2, e3]
  clear h0 h1 hn e1 e2 e3 hm
  have H := Lib.hid h
  clear h
  go_enter Tryz.func34, Tryz.ntmps34
  go_wp2_with (go_at_call 63; refine (HS.out _).mono ?_; rintro e w1 ⟨rfl, rfl⟩)
  go_ret2
  exact ⟨rfl, H.out, Goes.refl _ _⟩
end Go.Proofs.YtkokcfhfgnkdfaaGreatDoor.L17

/- The document's tunnel: Event, Stop. -/
namespace Go.Proofs.YtkokcfhfgnkdfaaGreatDoor.L17
open Go.RowKit Go.Shelf
open L1 (str IsR Off)
open L14 (isSt goes dest inB outB endB Laid nextN nextE refNext_c refEnd_c next_not)
attribute [local go_sem] Oper.semAt_some
theorem RefQ.setS {A : World} {R Y0 Y1 m hi cap : Nat} {t : Tn} (q : RefQ A R Y0 Y1 m hi cap t) (v : Int) (hv : isSt v = true) : RefQ (A.setCell ⟨R, 0, none⟩ (.int .i64 v)) R Y0 Y1 m hi cap { t with st := v } := by
  have lm := q.lm; have lh := q.lh
  have hg : Goes (fun i => i = R) A (A.setCell ⟨R, 0, none⟩ (.int .i64 v)) := goes_set _ _ _ _ rfl
  exact ⟨World.cell?_setCell_same' A ⟨R, 0, none⟩ _ (by rw [q.c0]; rfl), (cell_oth A R 0 1 _ (by decide)).trans q.c1, (cell_oth A R 0 2 _ (by decide)).trans q.c2, (World.frozen?_setCell ..).trans q.f0, q.a.goes hg (fun i h e => by have := h.1; omega), q.b.goes hg (fun i h e => by have := h.1; omega), lm, lh, Nat.le_trans q.lz hg.size, hv, q.lc⟩
set_option maxRecDepth 100000 in
set_option maxHeartbeats 4000000 in
theorem revent_c (R hi cap : Nat) (t : Tn) (e : Int) (w : World) (h : RefAt w R hi cap t) :
    Calls Tryz.prog 32 #[.pointer (some ⟨R, 0, none⟩), .int .i64 e] w fun x w' => x = .returned (.int .i64 (eventE t e)) ∧ RefAt w' R hi cap (eventT t e) ∧ Goes (Rin R hi) w w' := by
  obtain ⟨Y0, Y1, m, q⟩ := h
  have r0 := q.c0
  have z0 := q.f0
  have lm := q.lm
  have lh := q.lh
  have hst := q.st
  have HQ := Lib.hid q
  have HN := Lib.hid (fun W => refNext_c t.st e W)
  clear q
  cases hg : goes t.st e
  · obtain ⟨n1, n2⟩ := next_not hst hg
    rw [n1, n2] at HN
    rw [show eventE t e = 140 by unfold eventE; rw [hg]; rfl, show eventT t e = t by unfold eventT; rw [hg]; rfl]
    clear n1 n2 hg hst
    generalize t.st = st at *
    go_enter Tryz.func32, Tryz.ntmps32
    go_wp2_with (go_at_call 61; refine (HN.out _).mono ?_; rintro x w1 ⟨rfl, rfl⟩)
    go_ret
    exact ⟨rfl, ⟨Y0, Y1, m, HQ.out⟩, Goes.refl _ _⟩
  · have n1 : nextN t.st e = dest t.st e := by simp [nextN, hst, hg]
    have n2 : nextE t.st e = 0 := by simp [nextE, hst, hg]
    have HD := Lib.hid (L14.dest_st hg)
    rw [n1, n2] at HN
    rw [show eventE t e = 0 by unfold eventE; rw [hg]; rfl]
    by_cases h6 : dest t.st e = 6
    · rw [show eventT t e = ⟨6, clearW t.a, clearW t.b⟩ by unfold eventT; rw [hg, if_pos rfl, if_pos h6]]
      rw [h6] at HN
      clear n1 n2 hg hst h6 HD
      have HC := Lib.hid (fun W h => rtclear_c R hi cap { t with st := 6 } W h)
      obtain ⟨st, hst⟩ : ∃ st, t.st = st := ⟨_, rfl⟩
      rw [hst] at r0 HN
      clear hst
      go_enter Tryz.func32, Tryz.ntmps32
      go_wp2_with (first
        | (go_at_call 61; refine (HN.out _).mono ?_; rintro x w1 ⟨rfl, rfl⟩)
        | (go_at_call 62; refine (HC.out _ ⟨Y0, Y1, m, HQ.out.setS 6 (by decide)⟩).mono ?_; rintro x w2 ⟨rfl, hr, hgo⟩))
      go_ret
      exact ⟨rfl, hr, (goes_set _ _ _ _ ⟨Nat.le_refl _, by omega⟩).trans hgo⟩
    · rw [show eventT t e = { t with st := dest t.st e } by unfold eventT; rw [hg, if_pos rfl, if_neg h6]]
      have h6' : (dest t.st e == 6) = false := by simpa using h6
      clear n1 n2 hg hst
      obtain ⟨D, hD⟩ : ∃ D, dest t.st e = D := ⟨_, rfl⟩
      rw [hD] at HN HD h6 h6' ⊢
      clear hD
      obtain ⟨st, hst⟩ : ∃ st, t.st = st := ⟨_, rfl⟩
      rw [hst] at r0 HN
      clear hst
      go_enter Tryz.func32, Tryz.ntmps32
      go_wp2_with (go_at_call 61; refine (HN.out _).mono ?_; rintro x w1 ⟨rfl, rfl⟩)
      go_ret
      exact ⟨rfl, ⟨Y0, Y1, m, HQ.out.setS D HD.out⟩, goes_set _ _ _ _ ⟨Nat.le_refl _, by omega⟩⟩
set_option maxRecDepth 100000 in
set_option maxHeartbeats 4000000 in
theorem rstop_c (R hi cap : Nat) (t : Tn) (w : World) (h : RefAt w R hi cap t) :
    Calls Tryz.prog 37 #[.pointer (some ⟨R, 0, none⟩)] w fun x w' => x = .returned (.int .i64 (stopN t : Nat)) ∧ RefAt w' R hi cap (stopT t) ∧ Goes (Rin R hi) w w' := by
  have HC := Lib.hid (rtclear_c R hi cap t w h)
  have HE := Lib.hid (fun W => refEnd_c t.st W)
  clear h
  cases hb : endB t.st
  · rw [show stopT t = ⟨6, clearW t.a, clearW t.b⟩ by unfold stopT; rw [hb]; rfl]
    rw [hb] at HE
    obtain ⟨N, hN⟩ : ∃ N, stopN t = N := ⟨_, rfl⟩
    rw [hN] at HC ⊢
    clear hN hb
    go_enter Tryz.func37, Tryz.ntmps37
    go_wp2_with (first
      | (go_at_call 62; refine HC.out.mono ?_; rintro x w2 ⟨rfl, ⟨Y0, Y1, m, q⟩, hgo⟩
         have r0 := q.c0
         have z0 := q.f0
         have lm := q.lm
         have lh := q.lh
         have HQ := Lib.hid q
         have HGo := Lib.hid hgo
         change w2.cell? _ = some (.int .i64 t.st) at r0
         clear q hgo)
      | (go_at_call 71; refine (HE.out _).mono ?_; rintro x w3 ⟨rfl, rfl⟩))
    go_ret
    exact ⟨rfl, ⟨Y0, Y1, m, HQ.out.setS 6 (by decide)⟩, HGo.out.trans (goes_set _ _ _ _ ⟨Nat.le_refl _, by omega⟩)⟩
  · rw [show stopT t = ⟨t.st, clearW t.a, clearW t.b⟩ by unfold stopT; rw [hb]; rfl]
    rw [hb] at HE
    obtain ⟨N, hN⟩ : ∃ N, stopN t = N := ⟨_, rfl⟩
    rw [hN] at HC ⊢
    clear hN hb
    go_enter Tryz.func37, Tryz.ntmps37
    go_wp2_with (first
      | (go_at_call 62; refine HC.out.mono ?_; rintro x w2 ⟨rfl, ⟨Y0, Y1, m, q⟩, hgo⟩
         have r0 := q.c0
         have HQ := Lib.hid q
         have HGo := Lib.hid hgo
         change w2.cell? _ = some (.int .i64 t.st) at r0
         clear q hgo)
      | (go_at_call 71; refine (HE.out _).mono ?_; rintro x w3 ⟨rfl, rfl⟩))
    go_ret
    exact ⟨rfl, ⟨Y0, Y1, m, HQ.out⟩, HGo.out⟩
end Go.Proofs.YtkokcfhfgnkdfaaGreatDoor.L17
