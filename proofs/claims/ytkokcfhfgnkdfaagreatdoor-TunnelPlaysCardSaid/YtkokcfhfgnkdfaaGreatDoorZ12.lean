/- Uh -/
import Derived.Test.YtkokcfhfgnkdfaaGreatDoorZ11
/- The document's tunnel: Move. -/
namespace Go.Proofs.YtkokcfhfgnkdfaaGreatDoor.L17
open Go.RowKit Go.Shelf
open L1 (str IsR Off)
open L14 (isSt goes dest inB outB endB Laid)
attribute [local go_sem] Oper.semAt_some
theorem RWayQ.goes {A B : World} {Pv : Nat → Prop} {lo hi Y I O cap : Nat} {y : Wy} (q : RWayQ A lo hi Y I O cap y) (hg : Goes Pv A B) (hp : ∀ i, Rin lo hi i → ¬ Pv i) : RWayQ B lo hi Y I O cap y := by
  have q1 := q.l1; have q2 := q.l2; have q3 := q.l3; have q4 := q.l4
  have hY : ¬ Pv Y := hp Y ⟨by omega, q4⟩
  have hI : ¬ Pv I := hp I ⟨q1, by omega⟩
  have hO : ¬ Pv O := hp O ⟨by omega, by omega⟩
  exact ⟨hg.cell q.c0 hY, hg.cell q.c1 hY, hg.cell q.c2 hY, (hg.frozen q.c2 hY).trans q.f2, hg.cell q.c3 hY, (hg.frozen q.c3 hY).trans q.f3, hg.cell q.c4 hY, (hg.frozen q.c4 hY).trans q.f4, hg.cell q.c5 hY, (hg.frozen q.c5 hY).trans q.f5, hg.cell q.c6 hY, (hg.frozen q.c6 hY).trans q.f6, isr_goes q.i hg hI, isr_goes q.o hg hO, q1, q2, q3, q4, q.ok⟩
theorem min_4 {P : Program} (a b c d K : Int) (h : K = min (min a b) (min c d)) (W : World) : (Builtin.min_ #[3, 3, 3, 3] 3 #[.int .i64 a, .int .i64 b, .int .i64 c, .int .i64 d]).run P W = .ok (.int .i64 K) W := by
  subst h
  simp [Builtin.min_, Builtin.min2, List.foldlM, go_sem]
  repeat' split
  all_goals omega
set_option maxRecDepth 100000 in
set_option maxHeartbeats 4000000 in
theorem rmove_0 (R hi cap : Nat) (t : Tn) (n : Int) (w : World) (hm : t.Sm) (h : RefAt w R hi cap t) :
    Calls Tryz.prog 35 #[.pointer (some ⟨R, 0, none⟩), .int .i64 0, .int .i64 n] w fun x w' => x = .returned (.tuple #[.int .i64 (moveTN cap t 0 n : Nat), .int .i64 (moveE t 0 n)]) ∧ RefAt w' R hi cap (moveT cap t 0 n) ∧ Goes (Rin R hi) w w' := by
  have HS := Lib.hid (fun W => show Calls Tryz.prog 63 #[.int .i64 0] W fun x w' => x = .returned (.bool true) ∧ W = w' from rside_c 0 W)
  have hE : moveE t 0 n = (if 2 ≤ t.st ∧ t.st ≤ 5 then (if n < 0 then 2 else 0) else 171) := rfl
  by_cases hst : 2 ≤ t.st ∧ t.st ≤ 5
  · rw [if_pos hst] at hE
    obtain ⟨s2, s5⟩ := hst
    have s2' : ¬ t.st < 2 := by omega
    have s5' : ¬ t.st > 5 := by omega
    by_cases hn : n < 0
    · rw [if_pos hn] at hE
      rw [hE, show moveTN cap t 0 n = 0 by unfold moveTN; rw [hE]; rfl, show moveT cap t 0 n = t by unfold moveT; rw [hE]; rfl]
      obtain ⟨Y0, Y1, m, q⟩ := h
      have r0 := q.c0
      have HQ := Lib.hid q
      clear q hE hm
      generalize t.st = st at *
      go_enter Tryz.func35, Tryz.ntmps35
      go_wp2_with (go_at_call 63; refine (HS.out _).mono ?_; rintro e w1 ⟨rfl, rfl⟩)
      go_ret2
      exact ⟨rfl, ⟨Y0, Y1, m, HQ.out⟩, Goes.refl _ _⟩
    · rw [if_neg hn] at hE
      rw [hE, show moveTN cap t 0 n = moveN cap t.a n by unfold moveTN; rw [hE]; rfl, show moveT cap t 0 n = t.put 0 (moveW cap t.a n) by unfold moveT; rw [hE]; rfl]
      have hmv : t.a.mv ≤ 1000000000 := (hm 0).2.1
      obtain ⟨Y0, Y1, m, q⟩ := h
      have r0 := q.c0
      have r1 := q.c1
      have lm := q.lm
      have lh := q.lh
      have lz := q.lz
      obtain ⟨I, O, y⟩ := q.a
      have l1 := y.l1; have l2 := y.l2; have l3 := y.l3; have l4 := y.l4
      have y0 := y.c0
      have y1 := y.c1
      have y2 := y.c2
      have y3 := y.c3
      have y5 := y.c5
      have z2 := y.f2
      have z3 := y.f3
      have z5 := y.f5
      have i1 := y.i.c1
      have o0 := y.o.c0
      have o1 := y.o.c1
      have hok := y.ok
      have hil := hok.il
      have hol := hok.ol
      have hsg := hok.sg
      have hcc := q.lc
      have HL := Lib.hid (fun W => L13.refLeft_any t.a.g t.a.s W)
      rw [if_pos (L13.right_of ⟨hok.s0, hok.sg, hok.gm, hok.gs⟩)] at HL
      have HQ := Lib.hid q
      have HY := Lib.hid y
      have HII := Lib.hid y.i
      have HIO := Lib.hid y.o
      have HOK := Lib.hid (move_ok y.ok n)
      have hYl := blt y2
      clear q y hE
      have hsi : (str t.a.i).size = t.a.i.length := L1.str_size _
      have hso : (str t.a.o).size = t.a.o.length := L1.str_size _
      obtain ⟨st, hst⟩ : ∃ st, t.st = st := ⟨_, rfl⟩
      rw [hst] at r0 s2 s5 s2' s5'
      clear hst
      go_enter Tryz.func35, Tryz.ntmps35
      go_wp2_with (first
        | (go_at_call 63; refine (HS.out _).mono ?_; rintro e w1 ⟨rfl, rfl⟩))
      clear HS
      have hwc : IntKind.i64.wrap ((cap : Int) - (t.a.o.length : Int)) = ((cap - t.a.o.length : Nat) : Int) := (IntWalk.i64_in _ (by omega)).trans (by omega)
      have HK := Lib.hid (move_le cap t.a n)
      have hmin : ∀ W, (Builtin.min_ #[3, 3, 3, 3] 3 #[.int .i64 n, .int .i64 (t.a.g - t.a.s), .int .i64 (t.a.i.length : Int), .int .i64 ((cap - t.a.o.length : Nat) : Int)]).run Tryz.prog W = .ok (.int .i64 ((moveN cap t.a n : Nat) : Int)) W := fun W => min_4 _ _ _ _ _ (by unfold moveN; omega) W
      have HW := Lib.hid (show moveW cap t.a n = { t.a with i := t.a.i.drop (moveN cap t.a n), o := t.a.o ++ t.a.i.take (moveN cap t.a n), s := t.a.s + moveN cap t.a n, mv := t.a.mv + moveN cap t.a n } from rfl)
      generalize hKK : moveN cap t.a n = K6 at *
      have HKK := Lib.hid hKK
      clear hKK
      refine wp_region_held_drew (S := fun w' => w'.cell? ⟨Y0, 0, none⟩ = some (.pointer (some ⟨I, 0, none⟩)) ∧ w'.cell? ⟨Y0, 1, none⟩ = some (.pointer (some ⟨O, 0, none⟩)) ∧ w'.cell? ⟨Y0, 2, none⟩ = some (.int .i64 t.a.g) ∧ w'.cell? ⟨Y0, 3, none⟩ = some (.int .i64 t.a.s) ∧ w'.cell? ⟨I, 1, none⟩ = some (.string (str t.a.i)) ∧ w'.cell? ⟨O, 0, none⟩ = some (.int .i64 cap) ∧ w'.cell? ⟨O, 1, none⟩ = some (.string (str t.a.o))) (by kernel_rfl) ?_ (fun hHeld => ?_)
      · exact ⟨y0, y1, y2, y3, i1, o0, o1⟩
      refine takeH (i := 0) (some 35) (v := ?_) rfl rfl (by kernel_rfl) (by kernel_rfl) (by kernel_rfl) (fun _ _ _ h => h) (Or.inl ⟨by rfl, ?hymv0⟩) hHeld ?restmv0
      case hymv0 => (intro w hSw; (try dsimp only at hSw); go_simp; (try with_reducible rfl))
      try simp only [Act.put, List.setIfInBounds_toArray, List.set_cons_zero, List.set_cons_succ]
      refine takeH (i := 1) (some 36) (v := ?_) rfl rfl (by kernel_rfl) (by kernel_rfl) (by kernel_rfl) (fun _ _ _ h => h) (Or.inl ⟨by rfl, ?hymv1⟩) hHeld ?restmv1
      case hymv1 => (intro w hSw; (try dsimp only at hSw); go_simp; (try with_reducible rfl))
      try simp only [Act.put, List.setIfInBounds_toArray, List.set_cons_zero, List.set_cons_succ]
      refine takeH (i := 2) (some 37) (v := ?_) rfl rfl (by kernel_rfl) (by kernel_rfl) (by kernel_rfl) (fun _ _ _ h => h) (Or.inl ⟨by rfl, ?hymv2⟩) hHeld ?restmv2
      case hymv2 => (intro w hSw; (try dsimp only at hSw); go_simp; (try with_reducible rfl))
      try simp only [Act.put, List.setIfInBounds_toArray, List.set_cons_zero, List.set_cons_succ]
      refine takeH (i := 3) (some 38) (v := ?_) rfl rfl (by kernel_rfl) (by kernel_rfl) (by kernel_rfl) (fun _ _ _ h => h) (Or.inl ⟨by rfl, ?hymv3⟩) hHeld ?restmv3
      case hymv3 => (intro w hSw; (try dsimp only at hSw); go_simp; (try with_reducible rfl))
      try simp only [Act.put, List.setIfInBounds_toArray, List.set_cons_zero, List.set_cons_succ]
      refine takeH (i := 4) (some 39) (v := ?_) rfl rfl (by kernel_rfl) (by kernel_rfl) (by kernel_rfl) (fun _ _ _ h => h) (Or.inl ⟨by rfl, ?hymv4⟩) hHeld ?restmv4
      case hymv4 => (intro w hSw; (try dsimp only at hSw); go_simp; (try with_reducible rfl))
      try simp only [Act.put, List.setIfInBounds_toArray, List.set_cons_zero, List.set_cons_succ]
      refine takeH (i := 6) (some 41) (v := ?_) rfl rfl (by kernel_rfl) (by kernel_rfl) (by kernel_rfl) (fun _ _ _ h => h) (Or.inl ⟨by rfl, ?hymv6⟩) hHeld ?restmv6
      case hymv6 => (intro w hSw; (try dsimp only at hSw); go_simp; (try with_reducible rfl))
      try simp only [Act.put, List.setIfInBounds_toArray, List.set_cons_zero, List.set_cons_succ]
      refine takeH (i := 7) (some 42) (v := ?_) rfl rfl (by kernel_rfl) (by kernel_rfl) (by kernel_rfl) (fun _ _ _ h => h) (Or.inl ⟨by rfl, ?hymv7⟩) hHeld ?restmv7
      case hymv7 => (intro w hSw; (try dsimp only at hSw); go_simp; (try with_reducible rfl))
      try simp only [Act.put, List.setIfInBounds_toArray, List.set_cons_zero, List.set_cons_succ]
      refine takeH (i := 8) (some 43) (v := ?_) rfl rfl (by kernel_rfl) (by kernel_rfl) (by kernel_rfl) (fun _ _ _ h => h) (Or.inl ⟨by rfl, ?hymv8⟩) hHeld ?restmv8
      case hymv8 => (intro w hSw; (try dsimp only at hSw); go_simp; (try with_reducible rfl))
      try simp only [Act.put, List.setIfInBounds_toArray, List.set_cons_zero, List.set_cons_succ]
      refine takeH (i := 9) (some 44) (v := ?_) rfl rfl (by kernel_rfl) (by kernel_rfl) (by kernel_rfl) (fun _ _ _ h => h) (Or.inl ⟨by rfl, ?hymv9⟩) hHeld ?restmv9
      case hymv9 => (intro w hSw; (try dsimp only at hSw); go_simp; (try with_reducible rfl))
      try simp only [Act.put, List.setIfInBounds_toArray, List.set_cons_zero, List.set_cons_succ]
      refine takeH (i := 10) (some 45) (v := ?_) rfl rfl (by kernel_rfl) (by kernel_rfl) (by kernel_rfl) (fun _ _ _ h => h) (Or.inl ⟨by rfl, ?hymv10⟩) hHeld ?restmv10
      case hymv10 => (intro w hSw; (try dsimp only at hSw); go_simp; (try with_reducible rfl))
      try simp only [Act.put, List.setIfInBounds_toArray, List.set_cons_zero, List.set_cons_succ]
      refine takeH (i := 11) (some 46) (v := ?_) rfl rfl (by kernel_rfl) (by kernel_rfl) (by kernel_rfl) (fun _ _ _ h => h) (Or.inl ⟨by rfl, ?hymv11⟩) hHeld ?restmv11
      case hymv11 => (intro w hSw; (try dsimp only at hSw); go_simp; (try with_reducible rfl))
      try simp only [Act.put, List.setIfInBounds_toArray, List.set_cons_zero, List.set_cons_succ]
      refine takeH (i := 12) (some 47) (v := ?_) rfl rfl (by kernel_rfl) (by kernel_rfl) (by kernel_rfl) (fun _ _ _ h => h) (Or.inl ⟨by rfl, ?hymv12⟩) hHeld ?restmv12
      case hymv12 => (intro w hSw; (try dsimp only at hSw); go_simp; (try with_reducible rfl))
      try simp only [Act.put, List.setIfInBounds_toArray, List.set_cons_zero, List.set_cons_succ]
      refine takeH (i := 13) (some 48) (v := ?_) rfl rfl (by kernel_rfl) (by kernel_rfl) (by kernel_rfl) (fun _ _ _ h => h) (Or.inl ⟨by rfl, ?hymv13⟩) hHeld ?restmv13
      case hymv13 => (intro w hSw; (try dsimp only at hSw); go_simp; (try with_reducible rfl))
      try simp only [Act.put, List.setIfInBounds_toArray, List.set_cons_zero, List.set_cons_succ]
      refine takeH (i := 14) (some 49) (v := ?_) rfl rfl (by kernel_rfl) (by kernel_rfl) (by kernel_rfl) (fun _ _ _ h => h) (Or.inl ⟨by rfl, ?hymv14⟩) hHeld ?restmv14
      case hymv14 => (intro w hSw; (try dsimp only at hSw); go_simp; (try with_reducible rfl))
      try simp only [Act.put, List.setIfInBounds_toArray, List.set_cons_zero, List.set_cons_succ]
      refine takeH (i := 15) (some 50) (v := ?_) rfl rfl (by kernel_rfl) (by kernel_rfl) (by kernel_rfl) (fun _ _ _ h => h) (Or.inl ⟨by rfl, ?hymv15⟩) hHeld ?restmv15
      case hymv15 => (intro w hSw; (try dsimp only at hSw); go_simp; (try with_reducible rfl))
      try simp only [Act.put, List.setIfInBounds_toArray, List.set_cons_zero, List.set_cons_succ]
      refine takeH (i := 16) (some 51) (v := ?_) rfl rfl (by kernel_rfl) (by kernel_rfl) (by kernel_rfl) (fun _ _ _ h => h) (Or.inl ⟨by rfl, ?hymv16⟩) hHeld ?restmv16
      case hymv16 => (intro w hSw; (try dsimp only at hSw); go_simp; (try with_reducible rfl))
      try simp only [Act.put, List.setIfInBounds_toArray, List.set_cons_zero, List.set_cons_succ]
      refine takeH (i := 17) (some 52) (v := ?_) rfl rfl (by kernel_rfl) (by kernel_rfl) (by kernel_rfl) (fun _ _ _ h => h) (Or.inl ⟨by rfl, ?hymv17⟩) hHeld ?restmv17
      case hymv17 => (intro w hSw; (try dsimp only at hSw); go_simp; (try with_reducible rfl))
      try simp only [Act.put, List.setIfInBounds_toArray, List.set_cons_zero, List.set_cons_succ]
      refine takeH (i := 18) (some 53) (v := ?_) rfl rfl (by kernel_rfl) (by kernel_rfl) (by kernel_rfl) (fun _ _ _ h => h) (Or.inl ⟨by rfl, ?hymv18⟩) hHeld ?restmv18
      case hymv18 => (intro w hSw; (try dsimp only at hSw); go_simp; (try with_reducible rfl))
      try simp only [Act.put, List.setIfInBounds_toArray, List.set_cons_zero, List.set_cons_succ]
      refine takeH (i := 19) (some 54) (v := ?_) rfl rfl (by kernel_rfl) (by kernel_rfl) (by kernel_rfl) (fun _ _ _ h => h) (Or.inl ⟨by rfl, ?hymv19⟩) hHeld ?restmv19
      case hymv19 => (intro w hSw; (try dsimp only at hSw); go_simp; (try with_reducible rfl))
      try simp only [Act.put, List.setIfInBounds_toArray, List.set_cons_zero, List.set_cons_succ]
      refine takeH (i := 20) (some 55) (v := ?_) rfl rfl (by kernel_rfl) (by kernel_rfl) (by kernel_rfl) (fun _ _ _ h => h) (Or.inl ⟨by rfl, ?hymv20⟩) hHeld ?restmv20
      case hymv20 => (intro w hSw; (try dsimp only at hSw); go_simp; (try with_reducible rfl))
      try simp only [Act.put, List.setIfInBounds_toArray, List.set_cons_zero, List.set_cons_succ]
      refine takeH (i := 21) (some 56) (v := ?_) rfl rfl (by kernel_rfl) (by kernel_rfl) (by kernel_rfl) (fun _ _ _ h => h) (Or.inl ⟨by rfl, ?hymv21⟩) hHeld ?restmv21
      case hymv21 => (intro w hSw; (try dsimp only at hSw); go_simp; (try with_reducible rfl))
      try simp only [Act.put, List.setIfInBounds_toArray, List.set_cons_zero, List.set_cons_succ]
      refine takeH (i := 22) (some 57) (v := ?_) rfl rfl (by kernel_rfl) (by kernel_rfl) (by kernel_rfl) (fun _ _ _ h => h) (Or.inl ⟨by rfl, ?hymv22⟩) hHeld ?restmv22
      case hymv22 => (intro w hSw; (try dsimp only at hSw); go_simp; (try with_reducible rfl))
      try simp only [Act.put, List.setIfInBounds_toArray, List.set_cons_zero, List.set_cons_succ]
      refine takeH (i := 23) (some 58) (v := ?_) rfl rfl (by kernel_rfl) (by kernel_rfl) (by kernel_rfl) (fun _ _ _ h => h) (Or.inl ⟨by rfl, ?hymv23⟩) hHeld ?restmv23
      case hymv23 => (intro w hSw; (try dsimp only at hSw); go_simp; (try with_reducible rfl))
      try simp only [Act.put, List.setIfInBounds_toArray, List.set_cons_zero, List.set_cons_succ]
      refine takeH (i := 24) (some 59) (v := ?_) rfl rfl (by kernel_rfl) (by kernel_rfl) (by kernel_rfl) (fun _ _ _ h => h) (Or.inl ⟨by rfl, ?hymv24⟩) hHeld ?restmv24
      case hymv24 => (intro w hSw; (try dsimp only at hSw); go_simp; (try with_reducible rfl))
      try simp only [Act.put, List.setIfInBounds_toArray, List.set_cons_zero, List.set_cons_succ]
      refine takeH (i := 25) (some 60) (v := ?_) rfl rfl (by kernel_rfl) (by kernel_rfl) (by kernel_rfl) (fun _ _ _ h => h) (Or.inl ⟨by rfl, ?hymv25⟩) hHeld ?restmv25
      case hymv25 => (intro w hSw; (try dsimp only at hSw); go_simp; (try with_reducible rfl))
      try simp only [Act.put, List.setIfInBounds_toArray, List.set_cons_zero, List.set_cons_succ]
      refine takeH (i := 26) (some 61) (v := ?_) rfl rfl (by kernel_rfl) (by kernel_rfl) (by kernel_rfl) (fun _ _ _ h => h) (Or.inl ⟨by rfl, ?hymv26⟩) hHeld ?restmv26
      case hymv26 => (intro w hSw; (try dsimp only at hSw); go_simp; (try with_reducible rfl))
      try simp only [Act.put, List.setIfInBounds_toArray, List.set_cons_zero, List.set_cons_succ]
      refine takeH (i := 27) (some 62) (v := ?_) rfl rfl (by kernel_rfl) (by kernel_rfl) (by kernel_rfl) (fun _ _ _ h => h) (Or.inl ⟨by rfl, ?hymv27⟩) hHeld ?restmv27
      case hymv27 => (intro w hSw; (try dsimp only at hSw); go_simp; (try with_reducible rfl))
      try simp only [Act.put, List.setIfInBounds_toArray, List.set_cons_zero, List.set_cons_succ]
      refine takeH (i := 28) (some 63) (v := ?_) rfl rfl (by kernel_rfl) (by kernel_rfl) (by kernel_rfl) (fun _ _ _ h => h) (Or.inl ⟨by rfl, ?hymv28⟩) hHeld ?restmv28
      case hymv28 => (intro w hSw; (try dsimp only at hSw); go_simp; (try with_reducible rfl))
      try simp only [Act.put, List.setIfInBounds_toArray, List.set_cons_zero, List.set_cons_succ]
      refine takeH (i := 29) (some 64) (v := ?_) rfl rfl (by kernel_rfl) (by kernel_rfl) (by kernel_rfl) (fun _ _ _ h => h) (Or.inl ⟨by rfl, ?hymv29⟩) hHeld ?restmv29
      case hymv29 => (intro w hSw; (try dsimp only at hSw); go_simp; (try with_reducible rfl))
      try simp only [Act.put, List.setIfInBounds_toArray, List.set_cons_zero, List.set_cons_succ]
      refine wpAnyH_ready (rs := [5]) (by kernel_rfl) (by simp) ?_
      refine AllReadyH.cons rfl (fun K hK => ?_) AllReadyH.nil
      go_simp
      refine (HL.out _).mono ?_
      rintro e w1 ⟨rfl, hb1⟩
      have hb0 : Below w.heap.size w w1 := btr (below_drew (Below.refl _ _)) hb1
      refine hK.out _ _ ⟨(hb0.cell (p := ⟨Y0, 0, none⟩) (blt y0)).trans y0, (hb0.cell (p := ⟨Y0, 1, none⟩) (blt y1)).trans y1, (hb0.cell (p := ⟨Y0, 2, none⟩) (blt y2)).trans y2, (hb0.cell (p := ⟨Y0, 3, none⟩) (blt y3)).trans y3, (hb0.cell (p := ⟨I, 1, none⟩) (blt i1)).trans i1, (hb0.cell (p := ⟨O, 0, none⟩) (blt o0)).trans o0, (hb0.cell (p := ⟨O, 1, none⟩) (blt o1)).trans o1⟩ (fun hHeld => ?_)
      clear hK K
      try simp only [Act.put, List.setIfInBounds_toArray, List.set_cons_zero, List.set_cons_succ]
      refine takeH (i := 30) (some 65) (v := ?_) rfl rfl (by kernel_rfl) (by kernel_rfl) (by kernel_rfl) (fun _ _ _ h => h) (Or.inl ⟨by rfl, ?hymv30⟩) hHeld ?restmv30
      case hymv30 => (intro w hSw; (try dsimp only at hSw); go_simp; (try with_reducible rfl))
      try simp only [Act.put, List.setIfInBounds_toArray, List.set_cons_zero, List.set_cons_succ]
      refine takeH (i := 31) (some 9) (v := ?_) rfl rfl (by kernel_rfl) (by kernel_rfl) (by kernel_rfl) (fun _ _ _ h => h) (Or.inl ⟨by rfl, ?hymv31⟩) hHeld ?restmv31
      case hymv31 => (intro w hSw; (try dsimp only at hSw); go_simp; (try with_reducible rfl))
      try simp only [Act.put, List.setIfInBounds_toArray, List.set_cons_zero, List.set_cons_succ]
      refine wpAnyH_done (by kernel_rfl) ?_ _
      replace z2 := (hb0.frozen (p := ⟨Y0, 2, none⟩) (blt y2)).trans z2
      replace z3 := (hb0.frozen (p := ⟨Y0, 3, none⟩) (blt y3)).trans z3
      replace z5 := (hb0.frozen (p := ⟨Y0, 5, none⟩) (blt y5)).trans z5
      replace y0 := (hb0.cell (p := ⟨Y0, 0, none⟩) (blt y0)).trans y0
      replace y1 := (hb0.cell (p := ⟨Y0, 1, none⟩) (blt y1)).trans y1
      replace y2 := (hb0.cell (p := ⟨Y0, 2, none⟩) (blt y2)).trans y2
      replace y3 := (hb0.cell (p := ⟨Y0, 3, none⟩) (blt y3)).trans y3
      replace y5 := (hb0.cell (p := ⟨Y0, 5, none⟩) (blt y5)).trans y5
      replace r1 := (hb0.cell (p := ⟨R, 1, none⟩) (blt r1)).trans r1
      have HI1 := Lib.hid (HII.out.below hb0 HII.out.lt)
      have HO1 := Lib.hid (HIO.out.below hb0 HIO.out.lt)
      have HB0 := Lib.hid hb0
      clear hb0 hb1 i1 o0 o1 HII HIO hmin hwc
      have HP := Lib.hid (fun W h => (by have := L1.rpop_any I cap t.a.i (K6 : Int) W h; rw [Int.toNat_natCast] at this; exact this : Calls Tryz.prog 69 #[.pointer (some ⟨I, 0, none⟩), .int .i64 (K6 : Int)] W fun e w' => e = .returned (.string (str (t.a.i.take K6))) ∧ IsR w' I cap (t.a.i.drop K6) ∧ Off I I W w'))
      have HPu := Lib.hid (fun W h => L1.rpush_any O cap t.a.o (str (t.a.i.take K6)) W h)
      go_wp2_with fail
      refine wp_region_held_drew (S := fun w' => w'.cell? ⟨Y0, 0, none⟩ = some (.pointer (some ⟨I, 0, none⟩)) ∧ w'.cell? ⟨Y0, 1, none⟩ = some (.pointer (some ⟨O, 0, none⟩))) (by kernel_rfl) ?_ (fun hHeld => ?_)
      · exact ⟨y0, y1⟩
      refine takeH (i := 0) (some 66) (v := ?_) rfl rfl (by kernel_rfl) (by kernel_rfl) (by kernel_rfl) (fun _ _ _ h => h) (Or.inl ⟨by rfl, ?hymw0⟩) hHeld ?restmw0
      case hymw0 => (intro w hSw; (try dsimp only at hSw); go_simp; (try with_reducible rfl))
      try simp only [Act.put, List.setIfInBounds_toArray, List.set_cons_zero, List.set_cons_succ]
      refine takeH (i := 1) (some 67) (v := ?_) rfl rfl (by kernel_rfl) (by kernel_rfl) (by kernel_rfl) (fun _ _ _ h => h) (Or.inl ⟨by rfl, ?hymw1⟩) hHeld ?restmw1
      case hymw1 => (intro w hSw; (try dsimp only at hSw); go_simp; (try with_reducible rfl))
      try simp only [Act.put, List.setIfInBounds_toArray, List.set_cons_zero, List.set_cons_succ]
      refine takeH (i := 2) (some 68) (v := ?_) rfl rfl (by kernel_rfl) (by kernel_rfl) (by kernel_rfl) (fun _ _ _ h => h) (Or.inl ⟨by rfl, ?hymw2⟩) hHeld ?restmw2
      case hymw2 => (intro w hSw; (try dsimp only at hSw); go_simp; (try with_reducible rfl))
      try simp only [Act.put, List.setIfInBounds_toArray, List.set_cons_zero, List.set_cons_succ]
      refine takeH (i := 3) (some 69) (v := ?_) rfl rfl (by kernel_rfl) (by kernel_rfl) (by kernel_rfl) (fun _ _ _ h => h) (Or.inl ⟨by rfl, ?hymw3⟩) hHeld ?restmw3
      case hymw3 => (intro w hSw; (try dsimp only at hSw); go_simp; (try with_reducible rfl))
      try simp only [Act.put, List.setIfInBounds_toArray, List.set_cons_zero, List.set_cons_succ]
      refine takeH (i := 4) (some 70) (v := ?_) rfl rfl (by kernel_rfl) (by kernel_rfl) (by kernel_rfl) (fun _ _ _ h => h) (Or.inl ⟨by rfl, ?hymw4⟩) hHeld ?restmw4
      case hymw4 => (intro w hSw; (try dsimp only at hSw); go_simp; (try with_reducible rfl))
      try simp only [Act.put, List.setIfInBounds_toArray, List.set_cons_zero, List.set_cons_succ]
      refine takeH (i := 5) (some 71) (v := ?_) rfl rfl (by kernel_rfl) (by kernel_rfl) (by kernel_rfl) (fun _ _ _ h => h) (Or.inl ⟨by rfl, ?hymw5⟩) hHeld ?restmw5
      case hymw5 => (intro w hSw; (try dsimp only at hSw); go_simp; (try with_reducible rfl))
      try simp only [Act.put, List.setIfInBounds_toArray, List.set_cons_zero, List.set_cons_succ]
      refine takeH (i := 6) (some 72) (v := ?_) rfl rfl (by kernel_rfl) (by kernel_rfl) (by kernel_rfl) (fun _ _ _ h => h) (Or.inl ⟨by rfl, ?hymw6⟩) hHeld ?restmw6
      case hymw6 => (intro w hSw; (try dsimp only at hSw); go_simp; (try with_reducible rfl))
      try simp only [Act.put, List.setIfInBounds_toArray, List.set_cons_zero, List.set_cons_succ]
      refine takeH (i := 7) (some 73) (v := ?_) rfl rfl (by kernel_rfl) (by kernel_rfl) (by kernel_rfl) (fun _ _ _ h => h) (Or.inl ⟨by rfl, ?hymw7⟩) hHeld ?restmw7
      case hymw7 => (intro w hSw; (try dsimp only at hSw); go_simp; (try with_reducible rfl))
      try simp only [Act.put, List.setIfInBounds_toArray, List.set_cons_zero, List.set_cons_succ]
      refine takeH (i := 8) (some 74) (v := ?_) rfl rfl (by kernel_rfl) (by kernel_rfl) (by kernel_rfl) (fun _ _ _ h => h) (Or.inl ⟨by rfl, ?hymw8⟩) hHeld ?restmw8
      case hymw8 => (intro w hSw; (try dsimp only at hSw); go_simp; (try with_reducible rfl))
      try simp only [Act.put, List.setIfInBounds_toArray, List.set_cons_zero, List.set_cons_succ]
      refine wpAnyH_ready (rs := [9]) (by kernel_rfl) (by simp) ?_
      refine AllReadyH.cons rfl (fun K hK => ?_) AllReadyH.nil
      go_simp
      refine (HP.out _ (IsR.same (w' := w1.drew) HI1.out rfl)).mono ?_
      rintro e w2 ⟨rfl, hi2, ho2⟩
      have g2 := goes_one ho2
      have n1 : ¬ Y0 = I := by omega
      have hj2 := isr_goes (IsR.same (w' := w1.drew) HO1.out rfl) g2 (by omega)
      refine hK.out _ _ ⟨g2.cell hHeld.1 n1, g2.cell hHeld.2 n1⟩ (fun hHeld => ?_)
      clear hK K
      try simp only [Act.put, List.setIfInBounds_toArray, List.set_cons_zero, List.set_cons_succ]
      refine wpAnyH_ready (rs := [10]) (by kernel_rfl) (by simp) ?_
      refine AllReadyH.cons rfl (fun K hK => ?_) AllReadyH.nil
      go_simp
      refine (HPu.out _ hj2).mono ?_
      rintro e w3 ⟨rfl, hi3, ho3⟩
      have g3 := goes_one ho3
      have n2 : ¬ Y0 = O := by omega
      refine hK.out _ _ ⟨g3.cell hHeld.1 n2, g3.cell hHeld.2 n2⟩ (fun hHeld => ?_)
      clear hK K
      try simp only [Act.put, List.setIfInBounds_toArray, List.set_cons_zero, List.set_cons_succ]
      refine wpAnyH_done (by kernel_rfl) ?_ _
      change w1.drew.cell? _ = _ at y2
      change w1.drew.frozen? _ = _ at z2
      replace z2 := (g2.frozen y2 n1).trans z2
      replace y2 := g2.cell y2 n1
      replace z2 := (g3.frozen y2 n2).trans z2
      replace y2 := g3.cell y2 n2
      change w1.drew.cell? _ = _ at y3
      change w1.drew.frozen? _ = _ at z3
      replace z3 := (g2.frozen y3 n1).trans z3
      replace y3 := g2.cell y3 n1
      replace z3 := (g3.frozen y3 n2).trans z3
      replace y3 := g3.cell y3 n2
      change w1.drew.cell? _ = _ at y5
      change w1.drew.frozen? _ = _ at z5
      replace z5 := (g2.frozen y5 n1).trans z5
      replace y5 := g2.cell y5 n1
      replace z5 := (g3.frozen y5 n2).trans z5
      replace y5 := g3.cell y5 n2
      have ok2 := HOK.out
      rw [HW.out] at ok2
      have k0 : (0 : Int) ≤ (K6 : Int) := by omega
      have hr1 : L13.rightB t.a.g t.a.s = true := L13.right_of ⟨hok.s0, hok.sg, hok.gm, hok.gs⟩
      have hr2 : L13.rightB t.a.g (t.a.s + (K6 : Int)) = true := L13.right_of ⟨ok2.s0, ok2.sg, ok2.gm, ok2.gs⟩
      have hsE : L13.sE t.a.g t.a.s (K6 : Int) = 0 := by
        unfold L13.sE
        rw [if_neg (by rw [hr1]; simp), if_neg (by rw [hr2]; have := hok.gs; have := ok2.sg; simp only [Bool.true_eq_false, or_false]; simp only at this; omega)]
      have HSp := Lib.hid (fun W => L13.refSpend_any t.a.g t.a.s (K6 : Int) W)
      rw [hsE, show L13.sG t.a.g t.a.s (K6 : Int) = t.a.g by unfold L13.sG; rw [if_pos hsE], show L13.sS t.a.g t.a.s (K6 : Int) = t.a.s + (K6 : Int) by unfold L13.sS; rw [if_pos hsE]] at HSp
      clear ok2 hr1 hr2 hsE
      go_wp2_with (go_at_call 70; refine (HSp.out _).mono ?_; rintro e w4 ⟨rfl, hb4⟩; replace z2 := (hb4.frozen (p := ⟨Y0, 2, none⟩) (blt y2)).trans z2; replace y2 := (hb4.cell (p := ⟨Y0, 2, none⟩) (blt y2)).trans y2; replace z3 := (hb4.frozen (p := ⟨Y0, 3, none⟩) (blt y3)).trans z3; replace y3 := (hb4.cell (p := ⟨Y0, 3, none⟩) (blt y3)).trans y3; replace z5 := (hb4.frozen (p := ⟨Y0, 5, none⟩) (blt y5)).trans z5; replace y5 := (hb4.cell (p := ⟨Y0, 5, none⟩) (blt y5)).trans y5; have hYw : Y0 < w4.heap.size := blt y2)
      rw [HKK.out]
      have hK1 := HK.out
      have hwr : wrap64 ((t.a.mv : Int) + (K6 : Int)) = ((t.a.mv + K6 : Nat) : Int) := (IntWalk.wrap64_in _ (by omega)).trans (by omega)
      rw [hwr]
      go_ret2
      have ok2 := HOK.out
      rw [HW.out] at ok2
      have hlen : (t.a.i.take K6).length = K6 := by rw [List.length_take]; omega
      have e3 : t.a.o ++ (str (t.a.i.take K6)).data.toList.take (cap - t.a.o.length) = t.a.o ++ t.a.i.take K6 := by
        show t.a.o ++ List.take (cap - t.a.o.length) (t.a.i.take K6) = _
        rw [List.take_of_length_le (by omega)]
      rw [e3] at hi3
      have p1 := HY.out.goes (Pv := fun _ => False) (Goes.of_below (below_drew HB0.out)) (fun _ _ h => h)
      have p2 := p1.setI hi2 g2 ⟨by show (t.a.i.drop K6).length ≤ cap; rw [List.length_drop]; omega, hok.ol, hok.s0, hok.sg, hok.gm, hok.gs⟩
      have p3 := p2.setO hi3 g3 ⟨p2.ok.il, ok2.ol, hok.s0, hok.sg, hok.gm, hok.gs⟩
      have p4 := p3.goes (Pv := fun _ => False) (Goes.of_below hb4) (fun _ _ h => h)
      have p5 := p4.put2 t.a.g p4.ok
      have p6 := p5.put3 (t.a.s + (K6 : Int)) ⟨p4.ok.il, ok2.ol, ok2.s0, ok2.sg, ok2.gm, ok2.gs⟩
      have p7 := p6.put5 (t.a.mv + K6) ⟨p4.ok.il, ok2.ol, ok2.s0, ok2.sg, ok2.gm, ok2.gs⟩
      have hgA : Goes (Rin (R + 1) m) w w4 := ((Goes.of_below (below_drew HB0.out)).trans (g2.mono (fun i (h : i = I) => ⟨by omega, by omega⟩))).trans ((g3.mono (fun i (h : i = O) => ⟨by omega, by omega⟩)).trans (Goes.of_below hb4))
      have hg := hgA.trans ((goes_set w4 Y0 2 (.int .i64 t.a.g) (show Rin (R + 1) m Y0 from ⟨by omega, by omega⟩)).trans ((goes_set _ Y0 3 (.int .i64 (t.a.s + (K6 : Int))) (show Rin (R + 1) m Y0 from ⟨by omega, by omega⟩)).trans (goes_set _ Y0 5 (.int .i64 (t.a.mv + K6 : Nat)) (show Rin (R + 1) m Y0 from ⟨by omega, by omega⟩))))
      have hq := HQ.out.put0 ⟨_, _, p7⟩ hg
      rw [HW.out]
      refine ⟨rfl, ⟨Y0, Y1, m, RefQ.below hq (below_alloc _ _)⟩, rin_0 lm lh (hg.trans (Goes.of_below (below_alloc _ _)))⟩
  · rw [if_neg hst] at hE
    rw [hE, show moveTN cap t 0 n = 0 by unfold moveTN; rw [hE]; rfl, show moveT cap t 0 n = t by unfold moveT; rw [hE]; rfl]
    obtain ⟨Y0, Y1, m, q⟩ := h
    have r0 := q.c0
    have HQ := Lib.hid q
    clear q hE hm
    generalize t.st = st at *
    by_cases h2 : st < 2
    · 
      go_enter Tryz.func35, Tryz.ntmps35
      go_wp2_with (go_at_call 63; refine (HS.out _).mono ?_; rintro e w1 ⟨rfl, rfl⟩)
      go_ret2
      exact ⟨rfl, ⟨Y0, Y1, m, HQ.out⟩, Goes.refl _ _⟩
    · have h5 : st > 5 := by omega
      go_enter Tryz.func35, Tryz.ntmps35
      go_wp2_with (go_at_call 63; refine (HS.out _).mono ?_; rintro e w1 ⟨rfl, rfl⟩)
      go_ret2
      exact ⟨rfl, ⟨Y0, Y1, m, HQ.out⟩, Goes.refl _ _⟩
set_option maxRecDepth 100000 in
set_option maxHeartbeats 4000000 in
theorem rmove_1 (R hi cap : Nat) (t : Tn) (n : Int) (w : World) (hm : t.Sm) (h : RefAt w R hi cap t) :
    Calls Tryz.prog 35 #[.pointer (some ⟨R, 0, none⟩), .int .i64 1, .int .i64 n] w fun x w' => x = .returned (.tuple #[.int .i64 (moveTN cap t 1 n : Nat), .int .i64 (moveE t 1 n)]) ∧ RefAt w' R hi cap (moveT cap t 1 n) ∧ Goes (Rin R hi) w w' := by
  have HS := Lib.hid (fun W => show Calls Tryz.prog 63 #[.int .i64 1] W fun x w' => x = .returned (.bool true) ∧ W = w' from rside_c 1 W)
  have hE : moveE t 1 n = (if 2 ≤ t.st ∧ t.st ≤ 5 then (if n < 0 then 2 else 0) else 171) := rfl
  by_cases hst : 2 ≤ t.st ∧ t.st ≤ 5
  · rw [if_pos hst] at hE
    obtain ⟨s2, s5⟩ := hst
    have s2' : ¬ t.st < 2 := by omega
    have s5' : ¬ t.st > 5 := by omega
    by_cases hn : n < 0
    · rw [if_pos hn] at hE
      rw [hE, show moveTN cap t 1 n = 0 by unfold moveTN; rw [hE]; rfl, show moveT cap t 1 n = t by unfold moveT; rw [hE]; rfl]
      obtain ⟨Y0, Y1, m, q⟩ := h
      have r0 := q.c0
      have HQ := Lib.hid q
      clear q hE hm
      generalize t.st = st at *
      go_enter Tryz.func35, Tryz.ntmps35
      go_wp2_with (go_at_call 63; refine (HS.out _).mono ?_; rintro e w1 ⟨rfl, rfl⟩)
      go_ret2
      exact ⟨rfl, ⟨Y0, Y1, m, HQ.out⟩, Goes.refl _ _⟩
    · rw [if_neg hn] at hE
      rw [hE, show moveTN cap t 1 n = moveN cap t.b n by unfold moveTN; rw [hE]; rfl, show moveT cap t 1 n = t.put 1 (moveW cap t.b n) by unfold moveT; rw [hE]; rfl]
      have hmv : t.b.mv ≤ 1000000000 := (hm 1).2.1
      obtain ⟨Y0, Y1, m, q⟩ := h
      have r0 := q.c0
      have r2 := q.c2
      have lm := q.lm
      have lh := q.lh
      have lz := q.lz
      obtain ⟨I, O, y⟩ := q.b
      have l1 := y.l1; have l2 := y.l2; have l3 := y.l3; have l4 := y.l4
      have y0 := y.c0
      have y1 := y.c1
      have y2 := y.c2
      have y3 := y.c3
      have y5 := y.c5
      have z2 := y.f2
      have z3 := y.f3
      have z5 := y.f5
      have i1 := y.i.c1
      have o0 := y.o.c0
      have o1 := y.o.c1
      have hok := y.ok
      have hil := hok.il
      have hol := hok.ol
      have hsg := hok.sg
      have hcc := q.lc
      have HL := Lib.hid (fun W => L13.refLeft_any t.b.g t.b.s W)
      rw [if_pos (L13.right_of ⟨hok.s0, hok.sg, hok.gm, hok.gs⟩)] at HL
      have HQ := Lib.hid q
      have HY := Lib.hid y
      have HII := Lib.hid y.i
      have HIO := Lib.hid y.o
      have HOK := Lib.hid (move_ok y.ok n)
      have hYl := blt y2
      clear q y hE
      have hsi : (str t.b.i).size = t.b.i.length := L1.str_size _
      have hso : (str t.b.o).size = t.b.o.length := L1.str_size _
      obtain ⟨st, hst⟩ : ∃ st, t.st = st := ⟨_, rfl⟩
      rw [hst] at r0 s2 s5 s2' s5'
      clear hst
      go_enter Tryz.func35, Tryz.ntmps35
      go_wp2_with (first
        | (go_at_call 63; refine (HS.out _).mono ?_; rintro e w1 ⟨rfl, rfl⟩))
      clear HS
      have hwc : IntKind.i64.wrap ((cap : Int) - (t.b.o.length : Int)) = ((cap - t.b.o.length : Nat) : Int) := (IntWalk.i64_in _ (by omega)).trans (by omega)
      have HK := Lib.hid (move_le cap t.b n)
      have hmin : ∀ W, (Builtin.min_ #[3, 3, 3, 3] 3 #[.int .i64 n, .int .i64 (t.b.g - t.b.s), .int .i64 (t.b.i.length : Int), .int .i64 ((cap - t.b.o.length : Nat) : Int)]).run Tryz.prog W = .ok (.int .i64 ((moveN cap t.b n : Nat) : Int)) W := fun W => min_4 _ _ _ _ _ (by unfold moveN; omega) W
      have HW := Lib.hid (show moveW cap t.b n = { t.b with i := t.b.i.drop (moveN cap t.b n), o := t.b.o ++ t.b.i.take (moveN cap t.b n), s := t.b.s + moveN cap t.b n, mv := t.b.mv + moveN cap t.b n } from rfl)
      generalize hKK : moveN cap t.b n = K6 at *
      have HKK := Lib.hid hKK
      clear hKK
      refine wp_region_held_drew (S := fun w' => w'.cell? ⟨Y1, 0, none⟩ = some (.pointer (some ⟨I, 0, none⟩)) ∧ w'.cell? ⟨Y1, 1, none⟩ = some (.pointer (some ⟨O, 0, none⟩)) ∧ w'.cell? ⟨Y1, 2, none⟩ = some (.int .i64 t.b.g) ∧ w'.cell? ⟨Y1, 3, none⟩ = some (.int .i64 t.b.s) ∧ w'.cell? ⟨I, 1, none⟩ = some (.string (str t.b.i)) ∧ w'.cell? ⟨O, 0, none⟩ = some (.int .i64 cap) ∧ w'.cell? ⟨O, 1, none⟩ = some (.string (str t.b.o))) (by kernel_rfl) ?_ (fun hHeld => ?_)
      · exact ⟨y0, y1, y2, y3, i1, o0, o1⟩
      refine takeH (i := 0) (some 35) (v := ?_) rfl rfl (by kernel_rfl) (by kernel_rfl) (by kernel_rfl) (fun _ _ _ h => h) (Or.inl ⟨by rfl, ?hymv0⟩) hHeld ?restmv0
      case hymv0 => (intro w hSw; (try dsimp only at hSw); go_simp; (try with_reducible rfl))
      try simp only [Act.put, List.setIfInBounds_toArray, List.set_cons_zero, List.set_cons_succ]
      refine takeH (i := 1) (some 36) (v := ?_) rfl rfl (by kernel_rfl) (by kernel_rfl) (by kernel_rfl) (fun _ _ _ h => h) (Or.inl ⟨by rfl, ?hymv1⟩) hHeld ?restmv1
      case hymv1 => (intro w hSw; (try dsimp only at hSw); go_simp; (try with_reducible rfl))
      try simp only [Act.put, List.setIfInBounds_toArray, List.set_cons_zero, List.set_cons_succ]
      refine takeH (i := 2) (some 37) (v := ?_) rfl rfl (by kernel_rfl) (by kernel_rfl) (by kernel_rfl) (fun _ _ _ h => h) (Or.inl ⟨by rfl, ?hymv2⟩) hHeld ?restmv2
      case hymv2 => (intro w hSw; (try dsimp only at hSw); go_simp; (try with_reducible rfl))
      try simp only [Act.put, List.setIfInBounds_toArray, List.set_cons_zero, List.set_cons_succ]
      refine takeH (i := 3) (some 38) (v := ?_) rfl rfl (by kernel_rfl) (by kernel_rfl) (by kernel_rfl) (fun _ _ _ h => h) (Or.inl ⟨by rfl, ?hymv3⟩) hHeld ?restmv3
      case hymv3 => (intro w hSw; (try dsimp only at hSw); go_simp; (try with_reducible rfl))
      try simp only [Act.put, List.setIfInBounds_toArray, List.set_cons_zero, List.set_cons_succ]
      refine takeH (i := 4) (some 39) (v := ?_) rfl rfl (by kernel_rfl) (by kernel_rfl) (by kernel_rfl) (fun _ _ _ h => h) (Or.inl ⟨by rfl, ?hymv4⟩) hHeld ?restmv4
      case hymv4 => (intro w hSw; (try dsimp only at hSw); go_simp; (try with_reducible rfl))
      try simp only [Act.put, List.setIfInBounds_toArray, List.set_cons_zero, List.set_cons_succ]
      refine takeH (i := 6) (some 41) (v := ?_) rfl rfl (by kernel_rfl) (by kernel_rfl) (by kernel_rfl) (fun _ _ _ h => h) (Or.inl ⟨by rfl, ?hymv6⟩) hHeld ?restmv6
      case hymv6 => (intro w hSw; (try dsimp only at hSw); go_simp; (try with_reducible rfl))
      try simp only [Act.put, List.setIfInBounds_toArray, List.set_cons_zero, List.set_cons_succ]
      refine takeH (i := 7) (some 42) (v := ?_) rfl rfl (by kernel_rfl) (by kernel_rfl) (by kernel_rfl) (fun _ _ _ h => h) (Or.inl ⟨by rfl, ?hymv7⟩) hHeld ?restmv7
      case hymv7 => (intro w hSw; (try dsimp only at hSw); go_simp; (try with_reducible rfl))
      try simp only [Act.put, List.setIfInBounds_toArray, List.set_cons_zero, List.set_cons_succ]
      refine takeH (i := 8) (some 43) (v := ?_) rfl rfl (by kernel_rfl) (by kernel_rfl) (by kernel_rfl) (fun _ _ _ h => h) (Or.inl ⟨by rfl, ?hymv8⟩) hHeld ?restmv8
      case hymv8 => (intro w hSw; (try dsimp only at hSw); go_simp; (try with_reducible rfl))
      try simp only [Act.put, List.setIfInBounds_toArray, List.set_cons_zero, List.set_cons_succ]
      refine takeH (i := 9) (some 44) (v := ?_) rfl rfl (by kernel_rfl) (by kernel_rfl) (by kernel_rfl) (fun _ _ _ h => h) (Or.inl ⟨by rfl, ?hymv9⟩) hHeld ?restmv9
      case hymv9 => (intro w hSw; (try dsimp only at hSw); go_simp; (try with_reducible rfl))
      try simp only [Act.put, List.setIfInBounds_toArray, List.set_cons_zero, List.set_cons_succ]
      refine takeH (i := 10) (some 45) (v := ?_) rfl rfl (by kernel_rfl) (by kernel_rfl) (by kernel_rfl) (fun _ _ _ h => h) (Or.inl ⟨by rfl, ?hymv10⟩) hHeld ?restmv10
      case hymv10 => (intro w hSw; (try dsimp only at hSw); go_simp; (try with_reducible rfl))
      try simp only [Act.put, List.setIfInBounds_toArray, List.set_cons_zero, List.set_cons_succ]
      refine takeH (i := 11) (some 46) (v := ?_) rfl rfl (by kernel_rfl) (by kernel_rfl) (by kernel_rfl) (fun _ _ _ h => h) (Or.inl ⟨by rfl, ?hymv11⟩) hHeld ?restmv11
      case hymv11 => (intro w hSw; (try dsimp only at hSw); go_simp; (try with_reducible rfl))
      try simp only [Act.put, List.setIfInBounds_toArray, List.set_cons_zero, List.set_cons_succ]
      refine takeH (i := 12) (some 47) (v := ?_) rfl rfl (by kernel_rfl) (by kernel_rfl) (by kernel_rfl) (fun _ _ _ h => h) (Or.inl ⟨by rfl, ?hymv12⟩) hHeld ?restmv12
      case hymv12 => (intro w hSw; (try dsimp only at hSw); go_simp; (try with_reducible rfl))
      try simp only [Act.put, List.setIfInBounds_toArray, List.set_cons_zero, List.set_cons_succ]
      refine takeH (i := 13) (some 48) (v := ?_) rfl rfl (by kernel_rfl) (by kernel_rfl) (by kernel_rfl) (fun _ _ _ h => h) (Or.inl ⟨by rfl, ?hymv13⟩) hHeld ?restmv13
      case hymv13 => (intro w hSw; (try dsimp only at hSw); go_simp; (try with_reducible rfl))
      try simp only [Act.put, List.setIfInBounds_toArray, List.set_cons_zero, List.set_cons_succ]
      refine takeH (i := 14) (some 49) (v := ?_) rfl rfl (by kernel_rfl) (by kernel_rfl) (by kernel_rfl) (fun _ _ _ h => h) (Or.inl ⟨by rfl, ?hymv14⟩) hHeld ?restmv14
      case hymv14 => (intro w hSw; (try dsimp only at hSw); go_simp; (try with_reducible rfl))
      try simp only [Act.put, List.setIfInBounds_toArray, List.set_cons_zero, List.set_cons_succ]
      refine takeH (i := 15) (some 50) (v := ?_) rfl rfl (by kernel_rfl) (by kernel_rfl) (by kernel_rfl) (fun _ _ _ h => h) (Or.inl ⟨by rfl, ?hymv15⟩) hHeld ?restmv15
      case hymv15 => (intro w hSw; (try dsimp only at hSw); go_simp; (try with_reducible rfl))
      try simp only [Act.put, List.setIfInBounds_toArray, List.set_cons_zero, List.set_cons_succ]
      refine takeH (i := 16) (some 51) (v := ?_) rfl rfl (by kernel_rfl) (by kernel_rfl) (by kernel_rfl) (fun _ _ _ h => h) (Or.inl ⟨by rfl, ?hymv16⟩) hHeld ?restmv16
      case hymv16 => (intro w hSw; (try dsimp only at hSw); go_simp; (try with_reducible rfl))
      try simp only [Act.put, List.setIfInBounds_toArray, List.set_cons_zero, List.set_cons_succ]
      refine takeH (i := 17) (some 52) (v := ?_) rfl rfl (by kernel_rfl) (by kernel_rfl) (by kernel_rfl) (fun _ _ _ h => h) (Or.inl ⟨by rfl, ?hymv17⟩) hHeld ?restmv17
      case hymv17 => (intro w hSw; (try dsimp only at hSw); go_simp; (try with_reducible rfl))
      try simp only [Act.put, List.setIfInBounds_toArray, List.set_cons_zero, List.set_cons_succ]
      refine takeH (i := 18) (some 53) (v := ?_) rfl rfl (by kernel_rfl) (by kernel_rfl) (by kernel_rfl) (fun _ _ _ h => h) (Or.inl ⟨by rfl, ?hymv18⟩) hHeld ?restmv18
      case hymv18 => (intro w hSw; (try dsimp only at hSw); go_simp; (try with_reducible rfl))
      try simp only [Act.put, List.setIfInBounds_toArray, List.set_cons_zero, List.set_cons_succ]
      refine takeH (i := 19) (some 54) (v := ?_) rfl rfl (by kernel_rfl) (by kernel_rfl) (by kernel_rfl) (fun _ _ _ h => h) (Or.inl ⟨by rfl, ?hymv19⟩) hHeld ?restmv19
      case hymv19 => (intro w hSw; (try dsimp only at hSw); go_simp; (try with_reducible rfl))
      try simp only [Act.put, List.setIfInBounds_toArray, List.set_cons_zero, List.set_cons_succ]
      refine takeH (i := 20) (some 55) (v := ?_) rfl rfl (by kernel_rfl) (by kernel_rfl) (by kernel_rfl) (fun _ _ _ h => h) (Or.inl ⟨by rfl, ?hymv20⟩) hHeld ?restmv20
      case hymv20 => (intro w hSw; (try dsimp only at hSw); go_simp; (try with_reducible rfl))
      try simp only [Act.put, List.setIfInBounds_toArray, List.set_cons_zero, List.set_cons_succ]
      refine takeH (i := 21) (some 56) (v := ?_) rfl rfl (by kernel_rfl) (by kernel_rfl) (by kernel_rfl) (fun _ _ _ h => h) (Or.inl ⟨by rfl, ?hymv21⟩) hHeld ?restmv21
      case hymv21 => (intro w hSw; (try dsimp only at hSw); go_simp; (try with_reducible rfl))
      try simp only [Act.put, List.setIfInBounds_toArray, List.set_cons_zero, List.set_cons_succ]
      refine takeH (i := 22) (some 57) (v := ?_) rfl rfl (by kernel_rfl) (by kernel_rfl) (by kernel_rfl) (fun _ _ _ h => h) (Or.inl ⟨by rfl, ?hymv22⟩) hHeld ?restmv22
      case hymv22 => (intro w hSw; (try dsimp only at hSw); go_simp; (try with_reducible rfl))
      try simp only [Act.put, List.setIfInBounds_toArray, List.set_cons_zero, List.set_cons_succ]
      refine takeH (i := 23) (some 58) (v := ?_) rfl rfl (by kernel_rfl) (by kernel_rfl) (by kernel_rfl) (fun _ _ _ h => h) (Or.inl ⟨by rfl, ?hymv23⟩) hHeld ?restmv23
      case hymv23 => (intro w hSw; (try dsimp only at hSw); go_simp; (try with_reducible rfl))
      try simp only [Act.put, List.setIfInBounds_toArray, List.set_cons_zero, List.set_cons_succ]
      refine takeH (i := 24) (some 59) (v := ?_) rfl rfl (by kernel_rfl) (by kernel_rfl) (by kernel_rfl) (fun _ _ _ h => h) (Or.inl ⟨by rfl, ?hymv24⟩) hHeld ?restmv24
      case hymv24 => (intro w hSw; (try dsimp only at hSw); go_simp; (try with_reducible rfl))
      try simp only [Act.put, List.setIfInBounds_toArray, List.set_cons_zero, List.set_cons_succ]
      refine takeH (i := 25) (some 60) (v := ?_) rfl rfl (by kernel_rfl) (by kernel_rfl) (by kernel_rfl) (fun _ _ _ h => h) (Or.inl ⟨by rfl, ?hymv25⟩) hHeld ?restmv25
      case hymv25 => (intro w hSw; (try dsimp only at hSw); go_simp; (try with_reducible rfl))
      try simp only [Act.put, List.setIfInBounds_toArray, List.set_cons_zero, List.set_cons_succ]
      refine takeH (i := 26) (some 61) (v := ?_) rfl rfl (by kernel_rfl) (by kernel_rfl) (by kernel_rfl) (fun _ _ _ h => h) (Or.inl ⟨by rfl, ?hymv26⟩) hHeld ?restmv26
      case hymv26 => (intro w hSw; (try dsimp only at hSw); go_simp; (try with_reducible rfl))
      try simp only [Act.put, List.setIfInBounds_toArray, List.set_cons_zero, List.set_cons_succ]
      refine takeH (i := 27) (some 62) (v := ?_) rfl rfl (by kernel_rfl) (by kernel_rfl) (by kernel_rfl) (fun _ _ _ h => h) (Or.inl ⟨by rfl, ?hymv27⟩) hHeld ?restmv27
      case hymv27 => (intro w hSw; (try dsimp only at hSw); go_simp; (try with_reducible rfl))
      try simp only [Act.put, List.setIfInBounds_toArray, List.set_cons_zero, List.set_cons_succ]
      refine takeH (i := 28) (some 63) (v := ?_) rfl rfl (by kernel_rfl) (by kernel_rfl) (by kernel_rfl) (fun _ _ _ h => h) (Or.inl ⟨by rfl, ?hymv28⟩) hHeld ?restmv28
      case hymv28 => (intro w hSw; (try dsimp only at hSw); go_simp; (try with_reducible rfl))
      try simp only [Act.put, List.setIfInBounds_toArray, List.set_cons_zero, List.set_cons_succ]
      refine takeH (i := 29) (some 64) (v := ?_) rfl rfl (by kernel_rfl) (by kernel_rfl) (by kernel_rfl) (fun _ _ _ h => h) (Or.inl ⟨by rfl, ?hymv29⟩) hHeld ?restmv29
      case hymv29 => (intro w hSw; (try dsimp only at hSw); go_simp; (try with_reducible rfl))
      try simp only [Act.put, List.setIfInBounds_toArray, List.set_cons_zero, List.set_cons_succ]
      refine wpAnyH_ready (rs := [5]) (by kernel_rfl) (by simp) ?_
      refine AllReadyH.cons rfl (fun K hK => ?_) AllReadyH.nil
      go_simp
      refine (HL.out _).mono ?_
      rintro e w1 ⟨rfl, hb1⟩
      have hb0 : Below w.heap.size w w1 := btr (below_drew (Below.refl _ _)) hb1
      refine hK.out _ _ ⟨(hb0.cell (p := ⟨Y1, 0, none⟩) (blt y0)).trans y0, (hb0.cell (p := ⟨Y1, 1, none⟩) (blt y1)).trans y1, (hb0.cell (p := ⟨Y1, 2, none⟩) (blt y2)).trans y2, (hb0.cell (p := ⟨Y1, 3, none⟩) (blt y3)).trans y3, (hb0.cell (p := ⟨I, 1, none⟩) (blt i1)).trans i1, (hb0.cell (p := ⟨O, 0, none⟩) (blt o0)).trans o0, (hb0.cell (p := ⟨O, 1, none⟩) (blt o1)).trans o1⟩ (fun hHeld => ?_)
      clear hK K
      try simp only [Act.put, List.setIfInBounds_toArray, List.set_cons_zero, List.set_cons_succ]
      refine takeH (i := 30) (some 65) (v := ?_) rfl rfl (by kernel_rfl) (by kernel_rfl) (by kernel_rfl) (fun _ _ _ h => h) (Or.inl ⟨by rfl, ?hymv30⟩) hHeld ?restmv30
      case hymv30 => (intro w hSw; (try dsimp only at hSw); go_simp; (try with_reducible rfl))
      try simp only [Act.put, List.setIfInBounds_toArray, List.set_cons_zero, List.set_cons_succ]
      refine takeH (i := 31) (some 9) (v := ?_) rfl rfl (by kernel_rfl) (by kernel_rfl) (by kernel_rfl) (fun _ _ _ h => h) (Or.inl ⟨by rfl, ?hymv31⟩) hHeld ?restmv31
      case hymv31 => (intro w hSw; (try dsimp only at hSw); go_simp; (try with_reducible rfl))
      try simp only [Act.put, List.setIfInBounds_toArray, List.set_cons_zero, List.set_cons_succ]
      refine wpAnyH_done (by kernel_rfl) ?_ _
      replace z2 := (hb0.frozen (p := ⟨Y1, 2, none⟩) (blt y2)).trans z2
      replace z3 := (hb0.frozen (p := ⟨Y1, 3, none⟩) (blt y3)).trans z3
      replace z5 := (hb0.frozen (p := ⟨Y1, 5, none⟩) (blt y5)).trans z5
      replace y0 := (hb0.cell (p := ⟨Y1, 0, none⟩) (blt y0)).trans y0
      replace y1 := (hb0.cell (p := ⟨Y1, 1, none⟩) (blt y1)).trans y1
      replace y2 := (hb0.cell (p := ⟨Y1, 2, none⟩) (blt y2)).trans y2
      replace y3 := (hb0.cell (p := ⟨Y1, 3, none⟩) (blt y3)).trans y3
      replace y5 := (hb0.cell (p := ⟨Y1, 5, none⟩) (blt y5)).trans y5
      replace r2 := (hb0.cell (p := ⟨R, 2, none⟩) (blt r2)).trans r2
      have HI1 := Lib.hid (HII.out.below hb0 HII.out.lt)
      have HO1 := Lib.hid (HIO.out.below hb0 HIO.out.lt)
      have HB0 := Lib.hid hb0
      clear hb0 hb1 i1 o0 o1 HII HIO hmin hwc
      have HP := Lib.hid (fun W h => (by have := L1.rpop_any I cap t.b.i (K6 : Int) W h; rw [Int.toNat_natCast] at this; exact this : Calls Tryz.prog 69 #[.pointer (some ⟨I, 0, none⟩), .int .i64 (K6 : Int)] W fun e w' => e = .returned (.string (str (t.b.i.take K6))) ∧ IsR w' I cap (t.b.i.drop K6) ∧ Off I I W w'))
      have HPu := Lib.hid (fun W h => L1.rpush_any O cap t.b.o (str (t.b.i.take K6)) W h)
      go_wp2_with fail
      refine wp_region_held_drew (S := fun w' => w'.cell? ⟨Y1, 0, none⟩ = some (.pointer (some ⟨I, 0, none⟩)) ∧ w'.cell? ⟨Y1, 1, none⟩ = some (.pointer (some ⟨O, 0, none⟩))) (by kernel_rfl) ?_ (fun hHeld => ?_)
      · exact ⟨y0, y1⟩
      refine takeH (i := 0) (some 66) (v := ?_) rfl rfl (by kernel_rfl) (by kernel_rfl) (by kernel_rfl) (fun _ _ _ h => h) (Or.inl ⟨by rfl, ?hymw0⟩) hHeld ?restmw0
      case hymw0 => (intro w hSw; (try dsimp only at hSw); go_simp; (try with_reducible rfl))
      try simp only [Act.put, List.setIfInBounds_toArray, List.set_cons_zero, List.set_cons_succ]
      refine takeH (i := 1) (some 67) (v := ?_) rfl rfl (by kernel_rfl) (by kernel_rfl) (by kernel_rfl) (fun _ _ _ h => h) (Or.inl ⟨by rfl, ?hymw1⟩) hHeld ?restmw1
      case hymw1 => (intro w hSw; (try dsimp only at hSw); go_simp; (try with_reducible rfl))
      try simp only [Act.put, List.setIfInBounds_toArray, List.set_cons_zero, List.set_cons_succ]
      refine takeH (i := 2) (some 68) (v := ?_) rfl rfl (by kernel_rfl) (by kernel_rfl) (by kernel_rfl) (fun _ _ _ h => h) (Or.inl ⟨by rfl, ?hymw2⟩) hHeld ?restmw2
      case hymw2 => (intro w hSw; (try dsimp only at hSw); go_simp; (try with_reducible rfl))
      try simp only [Act.put, List.setIfInBounds_toArray, List.set_cons_zero, List.set_cons_succ]
      refine takeH (i := 3) (some 69) (v := ?_) rfl rfl (by kernel_rfl) (by kernel_rfl) (by kernel_rfl) (fun _ _ _ h => h) (Or.inl ⟨by rfl, ?hymw3⟩) hHeld ?restmw3
      case hymw3 => (intro w hSw; (try dsimp only at hSw); go_simp; (try with_reducible rfl))
      try simp only [Act.put, List.setIfInBounds_toArray, List.set_cons_zero, List.set_cons_succ]
      refine takeH (i := 4) (some 70) (v := ?_) rfl rfl (by kernel_rfl) (by kernel_rfl) (by kernel_rfl) (fun _ _ _ h => h) (Or.inl ⟨by rfl, ?hymw4⟩) hHeld ?restmw4
      case hymw4 => (intro w hSw; (try dsimp only at hSw); go_simp; (try with_reducible rfl))
      try simp only [Act.put, List.setIfInBounds_toArray, List.set_cons_zero, List.set_cons_succ]
      refine takeH (i := 5) (some 71) (v := ?_) rfl rfl (by kernel_rfl) (by kernel_rfl) (by kernel_rfl) (fun _ _ _ h => h) (Or.inl ⟨by rfl, ?hymw5⟩) hHeld ?restmw5
      case hymw5 => (intro w hSw; (try dsimp only at hSw); go_simp; (try with_reducible rfl))
      try simp only [Act.put, List.setIfInBounds_toArray, List.set_cons_zero, List.set_cons_succ]
      refine takeH (i := 6) (some 72) (v := ?_) rfl rfl (by kernel_rfl) (by kernel_rfl) (by kernel_rfl) (fun _ _ _ h => h) (Or.inl ⟨by rfl, ?hymw6⟩) hHeld ?restmw6
      case hymw6 => (intro w hSw; (try dsimp only at hSw); go_simp; (try with_reducible rfl))
      try simp only [Act.put, List.setIfInBounds_toArray, List.set_cons_zero, List.set_cons_succ]
      refine takeH (i := 7) (some 73) (v := ?_) rfl rfl (by kernel_rfl) (by kernel_rfl) (by kernel_rfl) (fun _ _ _ h => h) (Or.inl ⟨by rfl, ?hymw7⟩) hHeld ?restmw7
      case hymw7 => (intro w hSw; (try dsimp only at hSw); go_simp; (try with_reducible rfl))
      try simp only [Act.put, List.setIfInBounds_toArray, List.set_cons_zero, List.set_cons_succ]
      refine takeH (i := 8) (some 74) (v := ?_) rfl rfl (by kernel_rfl) (by kernel_rfl) (by kernel_rfl) (fun _ _ _ h => h) (Or.inl ⟨by rfl, ?hymw8⟩) hHeld ?restmw8
      case hymw8 => (intro w hSw; (try dsimp only at hSw); go_simp; (try with_reducible rfl))
      try simp only [Act.put, List.setIfInBounds_toArray, List.set_cons_zero, List.set_cons_succ]
      refine wpAnyH_ready (rs := [9]) (by kernel_rfl) (by simp) ?_
      refine AllReadyH.cons rfl (fun K hK => ?_) AllReadyH.nil
      go_simp
      refine (HP.out _ (IsR.same (w' := w1.drew) HI1.out rfl)).mono ?_
      rintro e w2 ⟨rfl, hi2, ho2⟩
      have g2 := goes_one ho2
      have n1 : ¬ Y1 = I := by omega
      have hj2 := isr_goes (IsR.same (w' := w1.drew) HO1.out rfl) g2 (by omega)
      refine hK.out _ _ ⟨g2.cell hHeld.1 n1, g2.cell hHeld.2 n1⟩ (fun hHeld => ?_)
      clear hK K
      try simp only [Act.put, List.setIfInBounds_toArray, List.set_cons_zero, List.set_cons_succ]
      refine wpAnyH_ready (rs := [10]) (by kernel_rfl) (by simp) ?_
      refine AllReadyH.cons rfl (fun K hK => ?_) AllReadyH.nil
      go_simp
      refine (HPu.out _ hj2).mono ?_
      rintro e w3 ⟨rfl, hi3, ho3⟩
      have g3 := goes_one ho3
      have n2 : ¬ Y1 = O := by omega
      refine hK.out _ _ ⟨g3.cell hHeld.1 n2, g3.cell hHeld.2 n2⟩ (fun hHeld => ?_)
      clear hK K
      try simp only [Act.put, List.setIfInBounds_toArray, List.set_cons_zero, List.set_cons_succ]
      refine wpAnyH_done (by kernel_rfl) ?_ _
      change w1.drew.cell? _ = _ at y2
      change w1.drew.frozen? _ = _ at z2
      replace z2 := (g2.frozen y2 n1).trans z2
      replace y2 := g2.cell y2 n1
      replace z2 := (g3.frozen y2 n2).trans z2
      replace y2 := g3.cell y2 n2
      change w1.drew.cell? _ = _ at y3
      change w1.drew.frozen? _ = _ at z3
      replace z3 := (g2.frozen y3 n1).trans z3
      replace y3 := g2.cell y3 n1
      replace z3 := (g3.frozen y3 n2).trans z3
      replace y3 := g3.cell y3 n2
      change w1.drew.cell? _ = _ at y5
      change w1.drew.frozen? _ = _ at z5
      replace z5 := (g2.frozen y5 n1).trans z5
      replace y5 := g2.cell y5 n1
      replace z5 := (g3.frozen y5 n2).trans z5
      replace y5 := g3.cell y5 n2
      have ok2 := HOK.out
      rw [HW.out] at ok2
      have k0 : (0 : Int) ≤ (K6 : Int) := by omega
      have hr1 : L13.rightB t.b.g t.b.s = true := L13.right_of ⟨hok.s0, hok.sg, hok.gm, hok.gs⟩
      have hr2 : L13.rightB t.b.g (t.b.s + (K6 : Int)) = true := L13.right_of ⟨ok2.s0, ok2.sg, ok2.gm, ok2.gs⟩
      have hsE : L13.sE t.b.g t.b.s (K6 : Int) = 0 := by
        unfold L13.sE
        rw [if_neg (by rw [hr1]; simp), if_neg (by rw [hr2]; have := hok.gs; have := ok2.sg; simp only [Bool.true_eq_false, or_false]; simp only at this; omega)]
      have HSp := Lib.hid (fun W => L13.refSpend_any t.b.g t.b.s (K6 : Int) W)
      rw [hsE, show L13.sG t.b.g t.b.s (K6 : Int) = t.b.g by unfold L13.sG; rw [if_pos hsE], show L13.sS t.b.g t.b.s (K6 : Int) = t.b.s + (K6 : Int) by unfold L13.sS; rw [if_pos hsE]] at HSp
      clear ok2 hr1 hr2 hsE
      go_wp2_with (go_at_call 70; refine (HSp.out _).mono ?_; rintro e w4 ⟨rfl, hb4⟩; replace z2 := (hb4.frozen (p := ⟨Y1, 2, none⟩) (blt y2)).trans z2; replace y2 := (hb4.cell (p := ⟨Y1, 2, none⟩) (blt y2)).trans y2; replace z3 := (hb4.frozen (p := ⟨Y1, 3, none⟩) (blt y3)).trans z3; replace y3 := (hb4.cell (p := ⟨Y1, 3, none⟩) (blt y3)).trans y3; replace z5 := (hb4.frozen (p := ⟨Y1, 5, none⟩) (blt y5)).trans z5; replace y5 := (hb4.cell (p := ⟨Y1, 5, none⟩) (blt y5)).trans y5; have hYw : Y1 < w4.heap.size := blt y2)
      rw [HKK.out]
      have hK1 := HK.out
      have hwr : wrap64 ((t.b.mv : Int) + (K6 : Int)) = ((t.b.mv + K6 : Nat) : Int) := (IntWalk.wrap64_in _ (by omega)).trans (by omega)
      rw [hwr]
      go_ret2
      have ok2 := HOK.out
      rw [HW.out] at ok2
      have hlen : (t.b.i.take K6).length = K6 := by rw [List.length_take]; omega
      have e3 : t.b.o ++ (str (t.b.i.take K6)).data.toList.take (cap - t.b.o.length) = t.b.o ++ t.b.i.take K6 := by
        show t.b.o ++ List.take (cap - t.b.o.length) (t.b.i.take K6) = _
        rw [List.take_of_length_le (by omega)]
      rw [e3] at hi3
      have p1 := HY.out.goes (Pv := fun _ => False) (Goes.of_below (below_drew HB0.out)) (fun _ _ h => h)
      have p2 := p1.setI hi2 g2 ⟨by show (t.b.i.drop K6).length ≤ cap; rw [List.length_drop]; omega, hok.ol, hok.s0, hok.sg, hok.gm, hok.gs⟩
      have p3 := p2.setO hi3 g3 ⟨p2.ok.il, ok2.ol, hok.s0, hok.sg, hok.gm, hok.gs⟩
      have p4 := p3.goes (Pv := fun _ => False) (Goes.of_below hb4) (fun _ _ h => h)
      have p5 := p4.put2 t.b.g p4.ok
      have p6 := p5.put3 (t.b.s + (K6 : Int)) ⟨p4.ok.il, ok2.ol, ok2.s0, ok2.sg, ok2.gm, ok2.gs⟩
      have p7 := p6.put5 (t.b.mv + K6) ⟨p4.ok.il, ok2.ol, ok2.s0, ok2.sg, ok2.gm, ok2.gs⟩
      have hgA : Goes (Rin m hi) w w4 := ((Goes.of_below (below_drew HB0.out)).trans (g2.mono (fun i (h : i = I) => ⟨by omega, by omega⟩))).trans ((g3.mono (fun i (h : i = O) => ⟨by omega, by omega⟩)).trans (Goes.of_below hb4))
      have hg := hgA.trans ((goes_set w4 Y1 2 (.int .i64 t.b.g) (show Rin m hi Y1 from ⟨by omega, by omega⟩)).trans ((goes_set _ Y1 3 (.int .i64 (t.b.s + (K6 : Int))) (show Rin m hi Y1 from ⟨by omega, by omega⟩)).trans (goes_set _ Y1 5 (.int .i64 (t.b.mv + K6 : Nat)) (show Rin m hi Y1 from ⟨by omega, by omega⟩))))
      have hq := HQ.out.put1 ⟨_, _, p7⟩ hg
      rw [HW.out]
      refine ⟨rfl, ⟨Y0, Y1, m, RefQ.below hq (below_alloc _ _)⟩, rin_1 lm lh (hg.trans (Goes.of_below (below_alloc _ _)))⟩
  · rw [if_neg hst] at hE
    rw [hE, show moveTN cap t 1 n = 0 by unfold moveTN; rw [hE]; rfl, show moveT cap t 1 n = t by unfold moveT; rw [hE]; rfl]
    obtain ⟨Y0, Y1, m, q⟩ := h
    have r0 := q.c0
    have HQ := Lib.hid q
    clear q hE hm
    generalize t.st = st at *
    by_cases h2 : st < 2
    · 
      go_enter Tryz.func35, Tryz.ntmps35
      go_wp2_with (go_at_call 63; refine (HS.out _).mono ?_; rintro e w1 ⟨rfl, rfl⟩)
      go_ret2
      exact ⟨rfl, ⟨Y0, Y1, m, HQ.out⟩, Goes.refl _ _⟩
    · have h5 : st > 5 := by omega
      go_enter Tryz.func35, Tryz.ntmps35
      go_wp2_with (go_at_call 63; refine (HS.out _).mono ?_; rintro e w1 ⟨rfl, rfl⟩)
      go_ret2
      exact ⟨rfl, ⟨Y0, Y1, m, HQ.out⟩, Goes.refl _ _⟩
set_option maxRecDepth 100000 in
set_option maxHeartbeats 4000000 in
theorem rmove_c (R hi cap : Nat) (t : Tn) (d n : Int) (w : World) (hm : t.Sm) (h : RefAt w R hi cap t) :
    Calls Tryz.prog 35 #[.pointer (some ⟨R, 0, none⟩), .int .i64 d, .int .i64 n] w fun x w' => x = .returned (.tuple #[.int .i64 (moveTN cap t d n : Nat), .int .i64 (moveE t d n)]) ∧ RefAt w' R hi cap (moveT cap t d n) ∧ Goes (Rin R hi) w w' := by
  by_cases h0 : d = 0
  · subst h0; exact rmove_0 R hi cap t n w hm h
  by_cases h1 : d = 1
  · subst h1; exact rmove_1 R hi cap t n w hm h
  have hn := side_no h0 h1
  have HS := Lib.hid (fun W => (by have := rside_c d W; rw [hn] at this; exact this : Calls Tryz.prog 63 #[.int .i64 d] W fun x w' => x = .returned (.bool false) ∧ W = w'))
  have e1 : moveE t d n = 170 := by unfold moveE; rw [if_neg (by rw [hn]; decide)]
  have e2 : moveTN cap t d n = 0 := by unfold moveTN; rw [e1]; rfl
  have e3 : moveT cap t d n = t := by unfold moveT; rw [e1]; rfl
  rw [e1, e2, e3]
  clear h0 h1 hn e1 e2 e3 hm
  have H := Lib.hid h
  clear h
  go_enter Tryz.func35, Tryz.ntmps35
  go_wp2_with (go_at_call 63; refine (HS.out _).mono ?_; rintro e w1 ⟨rfl, rfl⟩)
  go_ret2
  exact ⟨rfl, H.out, Goes.refl _ _⟩
end Go.Proofs.YtkokcfhfgnkdfaaGreatDoor.L17
