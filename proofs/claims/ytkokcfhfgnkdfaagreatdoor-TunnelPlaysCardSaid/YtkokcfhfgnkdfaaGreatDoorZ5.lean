/- Tc, S4C -/
import Derived.Test.YtkokcfhfgnkdfaaGreatDoorZ4
import Derived.Test.YtkokcfhfgnkdfaaGreatDoorZ3
import Derived.Test.YtkokcfhfgnkdfaaGreatDoorZ0
import Derived.WalkKit
import Derived.WalkLawsBesides
import Derived.WalkSpells
import Derived.WalkSmall
import Derived.Outline
import Derived.Deep.DeepFit
import Derived.Lib.Hide
import Derived.BigQuiet
import Derived.Deep.QuietTactic
import Derived.Sort.QuietIn
import Derived.Deep.RegionHeld3
import Derived.IntWalk
import Derived.Laws.StructEq
import Derived.Maps.RangeWalk
import Derived.RangeFuncNested
import Derived.RangeFuncBound
import Derived.RangeFuncCalls
import Derived.RangeFuncLeaves
import Derived.RangeFuncBox
import Derived.Shelf.Abstract
import Derived.Shelf.RegionOpen
import Derived.OwnWalkIn
import Derived.TacticsInMore
import Derived.LoopNIn
import Derived.LoopIn
set_option linter.unusedVariables false
set_option linter.unusedSimpArgs false
/- move. -/
namespace Go.Proofs.YtkokcfhfgnkdfaaGreatDoor.L17
open Go.RowKit
open L1 (Qs Off)

theorem pop_m (F K cap : Nat) (i : List UInt8) (m : Nat) (W : World) (h : Qs W F K cap i) :
    Calls Tryz.prog 79 #[.pointer (some ⟨F, 0, none⟩), .int .i64 (m : Int)] W fun e w' => e = .returned (.string (L1.str (i.take m))) ∧ Qs w' F K cap (i.drop m) ∧ Off F K W w' := by
  have := L1.pop_any F K cap i (m : Int) W h
  rw [Int.toNat_natCast] at this
  exact this
theorem push_m (G L cap : Nat) (o i : List UInt8) (m : Nat) (h1 : m ≤ i.length) (h2 : m ≤ cap - o.length) (hc : cap ≤ 4096) (hi : i.length ≤ cap) (W : World) (h : Qs W G L cap o) :
    Calls Tryz.prog 78 #[.pointer (some ⟨G, 0, none⟩), .string (L1.str (i.take m))] W fun e w' => e = .returned (.int .i64 (m : Int)) ∧ Qs w' G L cap (o ++ i.take m) ∧ Off G L W w' := by
  have hl : (i.take m).length = m := by rw [List.length_take]; omega
  have hz : (L1.str (i.take m)).size = m := by rw [L1.str_size, hl]
  generalize i.take m = t at *
  have := L1.push_any G L cap o (L1.str t) (by rw [hz]; omega) W h
  rw [hz, show L1.fits cap o.length m = m by unfold L1.fits; omega, show (L1.str t).data.toList = t from rfl, List.take_of_length_le (by rw [hl]; exact h2)] at this
  exact this
theorem most_same {cap : Nat} {y : Wy} (h : y.Ok cap) (n : Int) (hn : 0 ≤ n) : L13.mostR y.g y.s [(y.i.length : Int), ((cap - y.o.length : Nat) : Int), n] = (moveN cap y n : Nat) := by
  have hr : L13.rightB y.g y.s = true := L13.right_of ⟨h.s0, h.sg, h.gm, h.gs⟩
  unfold L13.mostR
  rw [if_pos ⟨hr, by intro x hx; simp only [List.mem_cons, List.not_mem_nil, or_false] at hx; rcases hx with rfl | rfl | rfl <;> omega⟩]
  simp only [L13.lowest, List.foldl_cons, List.foldl_nil, moveN]
  have := h.sg
  omega
theorem most_c {cap : Nat} {y : Wy} (h : y.Ok cap) (n : Int) (hn : 0 ≤ n) (B : Nat) (W : World) (k0 : W.cell? ⟨B, 0, none⟩ = some (.int .i64 (y.i.length : Nat))) (k1 : W.cell? ⟨B, 1, none⟩ = some (.int .i64 ((cap - y.o.length : Nat) : Int))) (k2 : W.cell? ⟨B, 2, none⟩ = some (.int .i64 n)) :
    Calls Tryz.prog 73 #[.agg #[.int .i64 y.g, .int .i64 y.s], .slice (some ⟨B, 0, none⟩) 3 3] W fun e w' => e = .returned (.int .i64 (moveN cap y n : Nat)) ∧ Below W.heap.size W w' := by
  rw [← most_same h n hn]
  refine L13.Most_any y.g y.s (some ⟨B, 0, none⟩) 3 3 [(y.i.length : Int), ((cap - y.o.length : Nat) : Int), n] (by simp) W (.inr ⟨B, 0, 3, rfl, blt k0, fun j hj => ?_⟩)
  match j, hj with
  | 0, _ => simpa using k0
  | 1, _ => simpa using k1
  | 2, _ => simpa using k2
theorem spend_c {cap : Nat} {y : Wy} (h : y.Ok cap) (n : Int) (W : World) :
    Calls Tryz.prog 77 #[.agg #[.int .i64 y.g, .int .i64 y.s], .int .i64 (moveN cap y n : Nat)] W fun e w' => e = .returned (.tuple #[.agg #[.int .i64 y.g, .int .i64 (y.s + (moveN cap y n : Nat))], .int .i64 0]) ∧ Below W.heap.size W w' := by
  obtain ⟨m1, m2, m3⟩ := move_le cap y n
  have hr : L13.rightB y.g y.s = true := L13.right_of ⟨h.s0, h.sg, h.gm, h.gs⟩
  obtain ⟨h1, h2, h3, h4, h5, h6⟩ := h
  have hr2 : L13.rightB y.g (y.s + (moveN cap y n : Nat)) = true := L13.right_of ⟨by omega, by omega, h5, by omega⟩
  have he : L13.sE y.g y.s (moveN cap y n : Nat) = 0 := by unfold L13.sE; rw [if_neg (by rw [hr]; simp), if_neg (by rw [hr2]; simp; omega)]
  have h7 : L13.sG y.g y.s (moveN cap y n : Nat) = y.g := by unfold L13.sG; rw [if_pos he]
  have h8 : L13.sS y.g y.s (moveN cap y n : Nat) = y.s + (moveN cap y n : Nat) := by unfold L13.sS; rw [if_pos he]
  have := L13.Spend_any y.g y.s (moveN cap y n : Nat) W
  rw [he, h7, h8] at this
  exact this
set_option maxRecDepth 100000 in
set_option maxHeartbeats 4000000 in
theorem wmove_c (lo hi X cap : Nat) (y : Wy) (n : Int) (hn : 0 ≤ n) (hf : y.mv ≤ 1000000000) (w : World) (h : WayAt w lo hi X cap y) (hc : cap ≤ 4096) :
    Calls Tryz.prog 48 #[.pointer (some ⟨X, 0, none⟩), .int .i64 n] w fun x w' => x = .returned (.int .i64 (moveN cap y n : Nat)) ∧ WayAt w' lo hi X cap (moveW cap y n) ∧ Goes (Rin lo hi) w w' := by
  obtain ⟨F, K, G, L, q, rX, rF, rK, rG, rL⟩ := h
  have c1 := q.st.c1
  have c3 := q.st.c3
  have c4 := q.st.c4
  have c5 := q.st.c5
  have c6 := q.st.c6
  have f1 := q.st.fr 1 (by decide)
  have f5 := q.st.fr 5 (by decide)
  have f6 := q.st.fr 6 (by decide)
  obtain ⟨g, hg⟩ : ∃ g, y.g = g := ⟨_, rfl⟩
  obtain ⟨s, hs⟩ : ∃ s, y.s = s := ⟨_, rfl⟩
  rw [hg] at c5
  rw [hs] at c6
  have HQ := Lib.hid q
  have HR := Lib.hid (And.intro rX (And.intro rF (And.intro rK (And.intro rG rL))))
  have hXl := q.lt
  have HQS := Lib.hid (show ∀ W, Below w.heap.size w W → Qs W F K cap y.i ∧ Qs W G L cap y.o from fun W hb => ⟨q.qi.below hb q.qi.lt.1 q.qi.lt.2, q.qo.below hb q.qo.lt.1 q.qo.lt.2⟩)
  have HN := Lib.hid (fun b W h0 h1 hi ho => numbers_c b F K G L cap y.i y.o W h0 h1 hi ho)
  obtain ⟨m, hm⟩ : ∃ m, moveN cap y n = m := ⟨_, rfl⟩
  have HM := Lib.hid (fun B W k0 k1 k2 => most_c q.ok n hn B W k0 k1 k2)
  have HSp := Lib.hid (fun W => spend_c q.ok n W)
  have HPop := Lib.hid (fun W h => pop_m F K cap y.i m W h)
  have HPush := Lib.hid (fun W h => push_m G L cap y.o y.i m (by rw [← hm]; exact (move_le cap y n).1) (by rw [← hm]; exact (move_le cap y n).2.1) hc q.qi.le W h)
  have hwr : IntKind.i64.wrap (((y.mv : Nat) : Int) + (m : Int)) = ((y.mv + m : Nat) : Int) := by rw [IntWalk.i64_in _ (by have := (move_le cap y n).1; have := q.ok.il; omega)]; omega
  obtain ⟨fg, fl, kg, kl⟩ : F ≠ G ∧ F ≠ L ∧ K ≠ G ∧ K ≠ L := ⟨q.fg, q.fl, q.kg, q.kl⟩
  have hE := Lib.hid (show moveW cap y n = { y with i := y.i.drop m, o := y.o ++ y.i.take m, s := y.s + m, mv := y.mv + m } by rw [← hm]; rfl)
  have hml : m ≤ 4096 := by have := (move_le cap y n).1; have := q.ok.il; omega
  have hok := Lib.hid (move_ok q.ok n)
  rw [hg, hs, hm] at HM HSp
  clear q rX rF rK rG rL
  go_enter Tryz.func48, Tryz.ntmps48
  go_wp2_with fail
  rename_i Kc hKK
  suffices hgo : ∀ (t22 t23 t25 t26 : Value) (W : World), Below w.heap.size w W → Kc { tmps := #[.pointer (some ⟨X, 0, none⟩), .int .i64 n, undef, undef, .int .i64 0, .int .i64 (m : Int), undef, undef, .pointer (some ⟨X, 0, none⟩), .pointer (some ⟨X, 0, none⟩), .pointer (some ⟨X, 5, none⟩), .agg #[.int .i64 g, .int .i64 s], .pointer (some ⟨X, 0, none⟩), .pointer (some ⟨X, 0, none⟩), .pointer (some ⟨X, 3, none⟩), .pointer (some ⟨F, 0, none⟩), .func (.func 75) #[.pointer (some ⟨F, 0, none⟩)] #[], .pointer (some ⟨X, 0, none⟩), .pointer (some ⟨X, 0, none⟩), .pointer (some ⟨X, 4, none⟩), .pointer (some ⟨G, 0, none⟩), .func (.func 76) #[.pointer (some ⟨G, 0, none⟩)] #[], t22, t23, .int .i64 n, t25, t26, .int .i64 (m : Int), undef, undef, undef, undef, undef, undef, undef, undef, undef, undef, undef, undef, undef, undef, undef, undef, undef, undef, undef, undef, undef, undef, undef, undef, undef, undef, undef, undef, undef, undef, undef, undef, undef, undef, undef, undef], defers := [] } W by
    have u0 : Below w.heap.size w w := Below.refl _ w
    have MK := Lib.hid (show ∀ w', Below w.heap.size w w' → w'.cell? ⟨X, 3, none⟩ = some (.pointer (some ⟨F, 0, none⟩)) ∧ w'.cell? ⟨X, 4, none⟩ = some (.pointer (some ⟨G, 0, none⟩)) ∧ w'.cell? ⟨X, 5, none⟩ = some (.int .i64 g) ∧ w'.cell? ⟨X, 6, none⟩ = some (.int .i64 s) ∧ Below w.heap.size w w' from fun w' h => ⟨(h.cell (blt c3)).trans c3, (h.cell (blt c4)).trans c4, (h.cell (blt c5)).trans c5, (h.cell (blt c6)).trans c6, h⟩)
    refine wp_region_held_drew (S := (fun w' => w'.cell? ⟨X, 3, none⟩ = some (.pointer (some ⟨F, 0, none⟩)) ∧ w'.cell? ⟨X, 4, none⟩ = some (.pointer (some ⟨G, 0, none⟩)) ∧ w'.cell? ⟨X, 5, none⟩ = some (.int .i64 g) ∧ w'.cell? ⟨X, 6, none⟩ = some (.int .i64 s) ∧ Below w.heap.size w w')) (by kernel_rfl) ?_ (fun hHeld => ?_)
    · (first | with_reducible assumption | exact MK.out _ (by with_reducible assumption) | exact MK.out _ (below_drew (by with_reducible assumption)))
    refine takeH (i := 0) (some 8) (v := ?_) rfl rfl (by kernel_rfl) (by kernel_rfl) (by kernel_rfl) (fun _ _ _ h => h) (Or.inl ⟨by rfl, ?hy0⟩) hHeld ?rest0
    case hy0 => (intro w hSw; (try dsimp only at hSw); go_simp; (try with_reducible rfl))
    try simp only [Act.put, List.setIfInBounds_toArray, List.set_cons_zero, List.set_cons_succ]
    refine takeH (i := 1) (some 9) (v := ?_) rfl rfl (by kernel_rfl) (by kernel_rfl) (by kernel_rfl) (fun _ _ _ h => h) (Or.inl ⟨by rfl, ?hy1⟩) hHeld ?rest1
    case hy1 => (intro w hSw; (try dsimp only at hSw); go_simp; (try with_reducible rfl))
    try simp only [Act.put, List.setIfInBounds_toArray, List.set_cons_zero, List.set_cons_succ]
    refine takeH (i := 2) (some 10) (v := ?_) rfl rfl (by kernel_rfl) (by kernel_rfl) (by kernel_rfl) (fun _ _ _ h => h) (Or.inl ⟨by rfl, ?hy2⟩) hHeld ?rest2
    case hy2 => (intro w hSw; (try dsimp only at hSw); go_simp; (try with_reducible rfl))
    try simp only [Act.put, List.setIfInBounds_toArray, List.set_cons_zero, List.set_cons_succ]
    refine takeH (i := 3) (some 11) (v := ?_) rfl rfl (by kernel_rfl) (by kernel_rfl) (by kernel_rfl) (fun _ _ _ h => h) (Or.inl ⟨by rfl, ?hy3⟩) hHeld ?rest3
    case hy3 => (intro w hSw; (try dsimp only at hSw); go_simp; (try with_reducible rfl))
    try simp only [Act.put, List.setIfInBounds_toArray, List.set_cons_zero, List.set_cons_succ]
    refine takeH (i := 4) (some 12) (v := ?_) rfl rfl (by kernel_rfl) (by kernel_rfl) (by kernel_rfl) (fun _ _ _ h => h) (Or.inl ⟨by rfl, ?hy4⟩) hHeld ?rest4
    case hy4 => (intro w hSw; (try dsimp only at hSw); go_simp; (try with_reducible rfl))
    try simp only [Act.put, List.setIfInBounds_toArray, List.set_cons_zero, List.set_cons_succ]
    refine takeH (i := 5) (some 13) (v := ?_) rfl rfl (by kernel_rfl) (by kernel_rfl) (by kernel_rfl) (fun _ _ _ h => h) (Or.inl ⟨by rfl, ?hy5⟩) hHeld ?rest5
    case hy5 => (intro w hSw; (try dsimp only at hSw); go_simp; (try with_reducible rfl))
    try simp only [Act.put, List.setIfInBounds_toArray, List.set_cons_zero, List.set_cons_succ]
    refine takeH (i := 6) (some 14) (v := ?_) rfl rfl (by kernel_rfl) (by kernel_rfl) (by kernel_rfl) (fun _ _ _ h => h) (Or.inl ⟨by rfl, ?hy6⟩) hHeld ?rest6
    case hy6 => (intro w hSw; (try dsimp only at hSw); go_simp; (try with_reducible rfl))
    try simp only [Act.put, List.setIfInBounds_toArray, List.set_cons_zero, List.set_cons_succ]
    refine takeH (i := 7) (some 15) (v := ?_) rfl rfl (by kernel_rfl) (by kernel_rfl) (by kernel_rfl) (fun _ _ _ h => h) (Or.inl ⟨by rfl, ?hy7⟩) hHeld ?rest7
    case hy7 => (intro w hSw; (try dsimp only at hSw); go_simp; (try with_reducible rfl))
    try simp only [Act.put, List.setIfInBounds_toArray, List.set_cons_zero, List.set_cons_succ]
    refine takeH (i := 8) (some 16) (v := ?_) rfl rfl (by kernel_rfl) (by kernel_rfl) (by kernel_rfl) (fun _ _ _ h => h) (Or.inl ⟨by rfl, ?hy8⟩) hHeld ?rest8
    case hy8 => (intro w hSw; (try dsimp only at hSw); go_simp; (try with_reducible rfl))
    try simp only [Act.put, List.setIfInBounds_toArray, List.set_cons_zero, List.set_cons_succ]
    refine takeH (i := 9) (some 17) (v := ?_) rfl rfl (by kernel_rfl) (by kernel_rfl) (by kernel_rfl) (fun _ _ _ h => h) (Or.inl ⟨by rfl, ?hy9⟩) hHeld ?rest9
    case hy9 => (intro w hSw; (try dsimp only at hSw); go_simp; (try with_reducible rfl))
    try simp only [Act.put, List.setIfInBounds_toArray, List.set_cons_zero, List.set_cons_succ]
    refine takeH (i := 10) (some 18) (v := ?_) rfl rfl (by kernel_rfl) (by kernel_rfl) (by kernel_rfl) (fun _ _ _ h => h) (Or.inl ⟨by rfl, ?hy10⟩) hHeld ?rest10
    case hy10 => (intro w hSw; (try dsimp only at hSw); go_simp; (try with_reducible rfl))
    try simp only [Act.put, List.setIfInBounds_toArray, List.set_cons_zero, List.set_cons_succ]
    refine takeH (i := 11) (some 19) (v := ?_) rfl rfl (by kernel_rfl) (by kernel_rfl) (by kernel_rfl) (fun _ _ _ h => h) (Or.inl ⟨by rfl, ?hy11⟩) hHeld ?rest11
    case hy11 => (intro w hSw; (try dsimp only at hSw); go_simp; (try with_reducible rfl))
    try simp only [Act.put, List.setIfInBounds_toArray, List.set_cons_zero, List.set_cons_succ]
    refine takeH (i := 12) (some 20) (v := ?_) rfl rfl (by kernel_rfl) (by kernel_rfl) (by kernel_rfl) (fun _ _ _ h => h) (Or.inl ⟨by rfl, ?hy12⟩) hHeld ?rest12
    case hy12 => (intro w hSw; (try dsimp only at hSw); go_simp; (try with_reducible rfl))
    try simp only [Act.put, List.setIfInBounds_toArray, List.set_cons_zero, List.set_cons_succ]
    refine takeH (i := 13) (some 21) (v := ?_) rfl rfl (by kernel_rfl) (by kernel_rfl) (by kernel_rfl) (fun _ _ _ h => h) (Or.inl ⟨by rfl, ?hy13⟩) hHeld ?rest13
    case hy13 => (intro w hSw; (try dsimp only at hSw); go_simp; (try with_reducible rfl))
    try simp only [Act.put, List.setIfInBounds_toArray, List.set_cons_zero, List.set_cons_succ]
    refine takeH (i := 16) (some 24) (v := ?_) rfl rfl (by kernel_rfl) (by kernel_rfl) (by kernel_rfl) (fun _ _ _ h => h) (Or.inl ⟨by rfl, ?hy16⟩) hHeld ?rest16
    case hy16 => (intro w hSw; (try dsimp only at hSw); go_simp; (try with_reducible rfl))
    try simp only [Act.put, List.setIfInBounds_toArray, List.set_cons_zero, List.set_cons_succ]
    generalize w.drew = V0 at hHeld ⊢
    refine wpAnyH_ready (rs := [14, 17]) (by kernel_rfl) (by simp) ?_
    refine AllReadyH.cons rfl (fun K2 hK => ?A) (AllReadyH.cons rfl (fun K2 hK => ?B) AllReadyH.nil)
    case A =>
      go_simp
      have pB1 := below_alloc V0 (.cells #[.func (.func 75) #[.pointer (some ⟨F, 0, none⟩)] #[], .func (.func 76) #[.pointer (some ⟨G, 0, none⟩)] #[]] 33)
      have e0 : (V0.alloc (.cells #[.func (.func 75) #[.pointer (some ⟨F, 0, none⟩)] #[], .func (.func 76) #[.pointer (some ⟨G, 0, none⟩)] #[]] 33)).cell? ⟨V0.heap.size, 0, none⟩ = some (.func (.func 75) #[.pointer (some ⟨F, 0, none⟩)] #[]) := by go_simp
      have e1 : (V0.alloc (.cells #[.func (.func 75) #[.pointer (some ⟨F, 0, none⟩)] #[], .func (.func 76) #[.pointer (some ⟨G, 0, none⟩)] #[]] 33)).cell? ⟨V0.heap.size, 1, none⟩ = some (.func (.func 76) #[.pointer (some ⟨G, 0, none⟩)] #[]) := by go_simp
      refine hK.out _ _ (MK.out _ (btr hHeld.2.2.2.2 pB1)) (fun hHeld => ?_)
      clear hK K2
      try simp only [Act.put, List.setIfInBounds_toArray, List.set_cons_zero, List.set_cons_succ]
      clear pB1
      generalize (V0.alloc (.cells #[.func (.func 75) #[.pointer (some ⟨F, 0, none⟩)] #[], .func (.func 76) #[.pointer (some ⟨G, 0, none⟩)] #[]] 33)) = V1 at *
      obtain ⟨bA, hbA⟩ : ∃ b, V0.heap.size = b := ⟨_, rfl⟩
      rw [hbA] at e0
      rw [hbA] at e1
      rw [hbA]
      clear hbA
      refine wpAnyH_ready (rs := [15, 17]) (by kernel_rfl) (by simp) ?_
      refine AllReadyH.cons rfl (fun K2 hK => ?C) (AllReadyH.cons rfl (fun K2 hK => ?D) AllReadyH.nil)
      case C =>
        go_simp
        with_reducible refine (HN.out bA V1 e0 e1 (HQS.out V1 hHeld.2.2.2.2).1 (HQS.out V1 hHeld.2.2.2.2).2).mono ?_
        rintro e V2 ⟨B, rfl, k0, k1, k2, r2, hBB, pB2⟩
        replace hBB := Nat.le_trans hHeld.2.2.2.2.size hBB
        replace e0 := (pB2.cell (p := ⟨bA, 0, none⟩) (blt e0)).trans e0
        replace e1 := (pB2.cell (p := ⟨bA, 1, none⟩) (blt e1)).trans e1
        refine hK.out _ _ (MK.out _ (btr hHeld.2.2.2.2 pB2)) (fun hHeld => ?_)
        clear hK K2
        try simp only [Act.put, List.setIfInBounds_toArray, List.set_cons_zero, List.set_cons_succ]
        clear pB2
        refine wpAnyH_ready (rs := [17]) (by kernel_rfl) (by simp) ?_
        refine AllReadyH.cons rfl (fun K2 hK => ?_) AllReadyH.nil
        go_simp
        have pB3 := below_alloc V2 (.cells #[.int .i64 n] 3)
        have e2 : (V2.alloc (.cells #[.int .i64 n] 3)).cell? ⟨V2.heap.size, 0, none⟩ = some (.int .i64 n) := by go_simp
        replace r2 := (pB3.frozen (p := ⟨B, 2, none⟩) (blt k2)).trans r2
        replace e0 := (pB3.cell (p := ⟨bA, 0, none⟩) (blt e0)).trans e0
        replace e1 := (pB3.cell (p := ⟨bA, 1, none⟩) (blt e1)).trans e1
        replace k0 := (pB3.cell (p := ⟨B, 0, none⟩) (blt k0)).trans k0
        replace k1 := (pB3.cell (p := ⟨B, 1, none⟩) (blt k1)).trans k1
        replace k2 := (pB3.cell (p := ⟨B, 2, none⟩) (blt k2)).trans k2
        refine hK.out _ _ (MK.out _ (btr hHeld.2.2.2.2 pB3)) (fun hHeld => ?_)
        clear hK K2
        try simp only [Act.put, List.setIfInBounds_toArray, List.set_cons_zero, List.set_cons_succ]
        clear pB3
        generalize (V2.alloc (.cells #[.int .i64 n] 3)) = V3 at *
        obtain ⟨bC, hbC⟩ : ∃ b, V2.heap.size = b := ⟨_, rfl⟩
        rw [hbC] at e2
        rw [hbC]
        clear hbC
        refine wpAnyH_ready (rs := [18]) (by kernel_rfl) (by simp) ?_
        refine AllReadyH.cons rfl (fun K2 hK => ?_) AllReadyH.nil
        go_simp
        refine hK.out _ _ (MK.out _ (hHeld.2.2.2.2.setCell (p := ⟨B, 2, none⟩) hBB _)) (fun hHeld => ?_)
        clear hK K2
        try simp only [Act.put, List.setIfInBounds_toArray, List.set_cons_zero, List.set_cons_succ]
        replace k0 := (cell_oth V3 B 2 0 (.int .i64 n) (by decide)).trans k0
        replace k1 := (cell_oth V3 B 2 1 (.int .i64 n) (by decide)).trans k1
        replace k2 := World.cell?_setCell_same' V3 ⟨B, 2, none⟩ (.int .i64 n) (by rw [k2]; rfl)
        clear e0 e1 e2 r2
        generalize (V3.setCell ⟨B, 2, none⟩ (.int .i64 n)) = V8 at *
        refine wpAnyH_ready (rs := [19]) (by kernel_rfl) (by simp) ?_
        refine AllReadyH.cons rfl (fun K2 hK => ?_) AllReadyH.nil
        go_simp
        with_reducible refine (HM.out B V8 k0 k1 k2).mono ?_
        rintro e V9 ⟨rfl, pB9⟩
        refine hK.out _ _ (MK.out _ (btr hHeld.2.2.2.2 pB9)) (fun hHeld => ?_)
        clear hK K2
        try simp only [Act.put, List.setIfInBounds_toArray, List.set_cons_zero, List.set_cons_succ]
        clear pB9 k0 k1 k2
        refine takeH (i := 20) (some 5) (v := ?_) rfl rfl (by kernel_rfl) (by kernel_rfl) (by kernel_rfl) (fun _ _ _ h => h) (Or.inl ⟨by rfl, ?hyA20⟩) hHeld ?restA20
        case hyA20 => (intro w hSw; (try dsimp only at hSw); go_simp; (try with_reducible rfl))
        try simp only [Act.put, List.setIfInBounds_toArray, List.set_cons_zero, List.set_cons_succ]
        refine wpAnyH_done (by kernel_rfl) ?_ _
        exact hgo _ _ _ _ _ hHeld.2.2.2.2
      case D =>
        go_simp
        have pB2 := below_alloc V1 (.cells #[.int .i64 n] 3)
        have e2 : (V1.alloc (.cells #[.int .i64 n] 3)).cell? ⟨V1.heap.size, 0, none⟩ = some (.int .i64 n) := by go_simp
        replace e0 := (pB2.cell (p := ⟨bA, 0, none⟩) (blt e0)).trans e0
        replace e1 := (pB2.cell (p := ⟨bA, 1, none⟩) (blt e1)).trans e1
        refine hK.out _ _ (MK.out _ (btr hHeld.2.2.2.2 pB2)) (fun hHeld => ?_)
        clear hK K2
        try simp only [Act.put, List.setIfInBounds_toArray, List.set_cons_zero, List.set_cons_succ]
        clear pB2
        generalize (V1.alloc (.cells #[.int .i64 n] 3)) = V2 at *
        obtain ⟨bC, hbC⟩ : ∃ b, V1.heap.size = b := ⟨_, rfl⟩
        rw [hbC] at e2
        rw [hbC]
        clear hbC
        refine wpAnyH_ready (rs := [15]) (by kernel_rfl) (by simp) ?_
        refine AllReadyH.cons rfl (fun K2 hK => ?_) AllReadyH.nil
        go_simp
        with_reducible refine (HN.out bA V2 e0 e1 (HQS.out V2 hHeld.2.2.2.2).1 (HQS.out V2 hHeld.2.2.2.2).2).mono ?_
        rintro e V3 ⟨B, rfl, k0, k1, k2, r2, hBB, pB3⟩
        replace hBB := Nat.le_trans hHeld.2.2.2.2.size hBB
        replace e0 := (pB3.cell (p := ⟨bA, 0, none⟩) (blt e0)).trans e0
        replace e1 := (pB3.cell (p := ⟨bA, 1, none⟩) (blt e1)).trans e1
        replace e2 := (pB3.cell (p := ⟨bC, 0, none⟩) (blt e2)).trans e2
        refine hK.out _ _ (MK.out _ (btr hHeld.2.2.2.2 pB3)) (fun hHeld => ?_)
        clear hK K2
        try simp only [Act.put, List.setIfInBounds_toArray, List.set_cons_zero, List.set_cons_succ]
        clear pB3
        refine wpAnyH_ready (rs := [18]) (by kernel_rfl) (by simp) ?_
        refine AllReadyH.cons rfl (fun K2 hK => ?_) AllReadyH.nil
        go_simp
        refine hK.out _ _ (MK.out _ (hHeld.2.2.2.2.setCell (p := ⟨B, 2, none⟩) hBB _)) (fun hHeld => ?_)
        clear hK K2
        try simp only [Act.put, List.setIfInBounds_toArray, List.set_cons_zero, List.set_cons_succ]
        replace k0 := (cell_oth V3 B 2 0 (.int .i64 n) (by decide)).trans k0
        replace k1 := (cell_oth V3 B 2 1 (.int .i64 n) (by decide)).trans k1
        replace k2 := World.cell?_setCell_same' V3 ⟨B, 2, none⟩ (.int .i64 n) (by rw [k2]; rfl)
        clear e0 e1 e2 r2
        generalize (V3.setCell ⟨B, 2, none⟩ (.int .i64 n)) = V8 at *
        refine wpAnyH_ready (rs := [19]) (by kernel_rfl) (by simp) ?_
        refine AllReadyH.cons rfl (fun K2 hK => ?_) AllReadyH.nil
        go_simp
        with_reducible refine (HM.out B V8 k0 k1 k2).mono ?_
        rintro e V9 ⟨rfl, pB9⟩
        refine hK.out _ _ (MK.out _ (btr hHeld.2.2.2.2 pB9)) (fun hHeld => ?_)
        clear hK K2
        try simp only [Act.put, List.setIfInBounds_toArray, List.set_cons_zero, List.set_cons_succ]
        clear pB9 k0 k1 k2
        refine takeH (i := 20) (some 5) (v := ?_) rfl rfl (by kernel_rfl) (by kernel_rfl) (by kernel_rfl) (fun _ _ _ h => h) (Or.inl ⟨by rfl, ?hyB20⟩) hHeld ?restB20
        case hyB20 => (intro w hSw; (try dsimp only at hSw); go_simp; (try with_reducible rfl))
        try simp only [Act.put, List.setIfInBounds_toArray, List.set_cons_zero, List.set_cons_succ]
        refine wpAnyH_done (by kernel_rfl) ?_ _
        exact hgo _ _ _ _ _ hHeld.2.2.2.2
    case B =>
      go_simp
      have pB1 := below_alloc V0 (.cells #[.int .i64 n] 3)
      have e2 : (V0.alloc (.cells #[.int .i64 n] 3)).cell? ⟨V0.heap.size, 0, none⟩ = some (.int .i64 n) := by go_simp
      refine hK.out _ _ (MK.out _ (btr hHeld.2.2.2.2 pB1)) (fun hHeld => ?_)
      clear hK K2
      try simp only [Act.put, List.setIfInBounds_toArray, List.set_cons_zero, List.set_cons_succ]
      clear pB1
      generalize (V0.alloc (.cells #[.int .i64 n] 3)) = V1 at *
      obtain ⟨bC, hbC⟩ : ∃ b, V0.heap.size = b := ⟨_, rfl⟩
      rw [hbC] at e2
      rw [hbC]
      clear hbC
      refine wpAnyH_ready (rs := [14]) (by kernel_rfl) (by simp) ?_
      refine AllReadyH.cons rfl (fun K2 hK => ?_) AllReadyH.nil
      go_simp
      have pB2 := below_alloc V1 (.cells #[.func (.func 75) #[.pointer (some ⟨F, 0, none⟩)] #[], .func (.func 76) #[.pointer (some ⟨G, 0, none⟩)] #[]] 33)
      have e0 : (V1.alloc (.cells #[.func (.func 75) #[.pointer (some ⟨F, 0, none⟩)] #[], .func (.func 76) #[.pointer (some ⟨G, 0, none⟩)] #[]] 33)).cell? ⟨V1.heap.size, 0, none⟩ = some (.func (.func 75) #[.pointer (some ⟨F, 0, none⟩)] #[]) := by go_simp
      have e1 : (V1.alloc (.cells #[.func (.func 75) #[.pointer (some ⟨F, 0, none⟩)] #[], .func (.func 76) #[.pointer (some ⟨G, 0, none⟩)] #[]] 33)).cell? ⟨V1.heap.size, 1, none⟩ = some (.func (.func 76) #[.pointer (some ⟨G, 0, none⟩)] #[]) := by go_simp
      replace e2 := (pB2.cell (p := ⟨bC, 0, none⟩) (blt e2)).trans e2
      refine hK.out _ _ (MK.out _ (btr hHeld.2.2.2.2 pB2)) (fun hHeld => ?_)
      clear hK K2
      try simp only [Act.put, List.setIfInBounds_toArray, List.set_cons_zero, List.set_cons_succ]
      clear pB2
      generalize (V1.alloc (.cells #[.func (.func 75) #[.pointer (some ⟨F, 0, none⟩)] #[], .func (.func 76) #[.pointer (some ⟨G, 0, none⟩)] #[]] 33)) = V2 at *
      obtain ⟨bA, hbA⟩ : ∃ b, V1.heap.size = b := ⟨_, rfl⟩
      rw [hbA] at e0
      rw [hbA] at e1
      rw [hbA]
      clear hbA
      refine wpAnyH_ready (rs := [15]) (by kernel_rfl) (by simp) ?_
      refine AllReadyH.cons rfl (fun K2 hK => ?_) AllReadyH.nil
      go_simp
      with_reducible refine (HN.out bA V2 e0 e1 (HQS.out V2 hHeld.2.2.2.2).1 (HQS.out V2 hHeld.2.2.2.2).2).mono ?_
      rintro e V3 ⟨B, rfl, k0, k1, k2, r2, hBB, pB3⟩
      replace hBB := Nat.le_trans hHeld.2.2.2.2.size hBB
      replace e2 := (pB3.cell (p := ⟨bC, 0, none⟩) (blt e2)).trans e2
      replace e0 := (pB3.cell (p := ⟨bA, 0, none⟩) (blt e0)).trans e0
      replace e1 := (pB3.cell (p := ⟨bA, 1, none⟩) (blt e1)).trans e1
      refine hK.out _ _ (MK.out _ (btr hHeld.2.2.2.2 pB3)) (fun hHeld => ?_)
      clear hK K2
      try simp only [Act.put, List.setIfInBounds_toArray, List.set_cons_zero, List.set_cons_succ]
      clear pB3
      refine wpAnyH_ready (rs := [18]) (by kernel_rfl) (by simp) ?_
      refine AllReadyH.cons rfl (fun K2 hK => ?_) AllReadyH.nil
      go_simp
      refine hK.out _ _ (MK.out _ (hHeld.2.2.2.2.setCell (p := ⟨B, 2, none⟩) hBB _)) (fun hHeld => ?_)
      clear hK K2
      try simp only [Act.put, List.setIfInBounds_toArray, List.set_cons_zero, List.set_cons_succ]
      replace k0 := (cell_oth V3 B 2 0 (.int .i64 n) (by decide)).trans k0
      replace k1 := (cell_oth V3 B 2 1 (.int .i64 n) (by decide)).trans k1
      replace k2 := World.cell?_setCell_same' V3 ⟨B, 2, none⟩ (.int .i64 n) (by rw [k2]; rfl)
      clear e0 e1 e2 r2
      generalize (V3.setCell ⟨B, 2, none⟩ (.int .i64 n)) = V8 at *
      refine wpAnyH_ready (rs := [19]) (by kernel_rfl) (by simp) ?_
      refine AllReadyH.cons rfl (fun K2 hK => ?_) AllReadyH.nil
      go_simp
      with_reducible refine (HM.out B V8 k0 k1 k2).mono ?_
      rintro e V9 ⟨rfl, pB9⟩
      refine hK.out _ _ (MK.out _ (btr hHeld.2.2.2.2 pB9)) (fun hHeld => ?_)
      clear hK K2
      try simp only [Act.put, List.setIfInBounds_toArray, List.set_cons_zero, List.set_cons_succ]
      clear pB9 k0 k1 k2
      refine takeH (i := 20) (some 5) (v := ?_) rfl rfl (by kernel_rfl) (by kernel_rfl) (by kernel_rfl) (fun _ _ _ h => h) (Or.inl ⟨by rfl, ?hyC20⟩) hHeld ?restC20
      case hyC20 => (intro w hSw; (try dsimp only at hSw); go_simp; (try with_reducible rfl))
      try simp only [Act.put, List.setIfInBounds_toArray, List.set_cons_zero, List.set_cons_succ]
      refine wpAnyH_done (by kernel_rfl) ?_ _
      exact hgo _ _ _ _ _ hHeld.2.2.2.2
  intro t22 t23 t25 t26 W hW
  have HW := Lib.hid hW
  have d1 := (hW.cell (p := ⟨X, 1, none⟩) hXl).trans c1
  have d3 := (hW.cell (p := ⟨X, 3, none⟩) hXl).trans c3
  have d4 := (hW.cell (p := ⟨X, 4, none⟩) hXl).trans c4
  have d5 := (hW.cell (p := ⟨X, 5, none⟩) hXl).trans c5
  have d6 := (hW.cell (p := ⟨X, 6, none⟩) hXl).trans c6
  have j1 := (hW.frozen (p := ⟨X, 1, none⟩) hXl).trans f1
  have j5 := (hW.frozen (p := ⟨X, 5, none⟩) hXl).trans f5
  have j6 := (hW.frozen (p := ⟨X, 6, none⟩) hXl).trans f6
  have hXW := Nat.lt_of_lt_of_le hXl hW.size
  clear hW c1 c3 c4 c5 c6 f1 f5 f6
  refine hKK _ _ ?_
  go_wp2_with (go_at_call 77
               refine (HSp.out _).mono ?_
               rintro e w1 ⟨rfl, hb1⟩
               replace d1 := (hb1.cell (p := ⟨X, 1, none⟩) hXW).trans d1
               replace d3 := (hb1.cell (p := ⟨X, 3, none⟩) hXW).trans d3
               replace d4 := (hb1.cell (p := ⟨X, 4, none⟩) hXW).trans d4
               replace d5 := (hb1.cell (p := ⟨X, 5, none⟩) hXW).trans d5
               replace d6 := (hb1.cell (p := ⟨X, 6, none⟩) hXW).trans d6
               replace j1 := (hb1.frozen (p := ⟨X, 1, none⟩) hXW).trans j1
               replace j5 := (hb1.frozen (p := ⟨X, 5, none⟩) hXW).trans j5
               replace j6 := (hb1.frozen (p := ⟨X, 6, none⟩) hXW).trans j6
               have hX1 := Nat.lt_of_lt_of_le hXW hb1.size
               have HB1 := Lib.hid (btr HW.out hb1)
               clear hb1)
  rename_i K3 hK3
  have q := HQ.out
  have hb1 := HB1.out
  have hst : StA w1 X F G y.fd y.mv y.dr g s := by rw [← hg, ← hs]; exact q.st.same (hb1.block X q.lt)
  have hqi : Qs w1 F K cap y.i := q.qi.below hb1 q.qi.lt.1 q.qi.lt.2
  have hqo : Qs w1 G L cap y.o := q.qo.below hb1 q.qo.lt.1 q.qo.lt.2
  have hgo1 : Goes (Rin lo hi) w1 (((w1.setCell ⟨X, 5, none⟩ (.int .i64 g)).setCell ⟨X, 6, none⟩ (.int .i64 (s + (m : Int)))).alloc (.cells #[.int .i64 g, .int .i64 (s + (m : Int))] 74)) :=
    ((goes_set _ _ _ _ HR.out.1).trans (goes_set _ _ _ _ HR.out.1)).trans (Goes.alloc _ _ _)
  have hst2 : StA (((w1.setCell ⟨X, 5, none⟩ (.int .i64 g)).setCell ⟨X, 6, none⟩ (.int .i64 (s + (m : Int)))).alloc (.cells #[.int .i64 g, .int .i64 (s + (m : Int))] 74)) X F G y.fd y.mv y.dr g (s + (m : Int)) :=
    ((hst.set5 g).set6 (s + (m : Int))).same (Below.heap_alloc _ _ _ (by simp [World.setCell]; exact hX1))
  have hqi2 : Qs (((w1.setCell ⟨X, 5, none⟩ (.int .i64 g)).setCell ⟨X, 6, none⟩ (.int .i64 (s + (m : Int)))).alloc (.cells #[.int .i64 g, .int .i64 (s + (m : Int))] 74)) F K cap y.i :=
    (hqi.same ((heap_set _ _ _ q.xf).trans (heap_set _ _ _ q.xf)) ((heap_set _ _ _ q.xk).trans (heap_set _ _ _ q.xk))).alloc _
  have hqo2 : Qs (((w1.setCell ⟨X, 5, none⟩ (.int .i64 g)).setCell ⟨X, 6, none⟩ (.int .i64 (s + (m : Int)))).alloc (.cells #[.int .i64 g, .int .i64 (s + (m : Int))] 74)) G L cap y.o :=
    (hqo.same ((heap_set _ _ _ q.xg).trans (heap_set _ _ _ q.xg)) ((heap_set _ _ _ q.xl).trans (heap_set _ _ _ q.xl))).alloc _
  have HG1 := Lib.hid (show Goes (Rin lo hi) w _ from (Goes.of_below hb1).trans hgo1)
  obtain ⟨xf, xk, xg, xl⟩ : X ≠ F ∧ X ≠ K ∧ X ≠ G ∧ X ≠ L := ⟨q.xf, q.xk, q.xg, q.xl⟩
  clear hst hqi hqo hgo1 d1 d3 d4 d5 d6 j1 j5 j6 hb1 hX1 q
  obtain ⟨c0, c1, c2, c3, c4, c5, c6, fr⟩ := hst2
  have hst2 : Hid (StA (((w1.setCell ⟨X, 5, none⟩ (.int .i64 g)).setCell ⟨X, 6, none⟩ (.int .i64 (s + (m : Int)))).alloc (.cells #[.int .i64 g, .int .i64 (s + (m : Int))] 74)) X F G y.fd y.mv y.dr g (s + (m : Int))) := Lib.hid ⟨c0, c1, c2, c3, c4, c5, c6, fr⟩
  clear c0 c2 c5 c6
  have f1 := fr 1 (by decide)
  clear fr
  have HQI := Lib.hid hqi2
  have HQO := Lib.hid hqo2
  clear hqi2 hqo2
  generalize (((w1.setCell ⟨X, 5, none⟩ (.int .i64 g)).setCell ⟨X, 6, none⟩ (.int .i64 (s + (m : Int)))).alloc (.cells #[.int .i64 g, .int .i64 (s + (m : Int))] 74)) = V at *
  have hXV := blt c1
  suffices hgo : ∀ (V1 V2 : World), Hid (Off F K V V1) → Hid (Qs V1 F K cap (y.i.drop m)) → Hid (Off G L V1 V2) → Hid (Qs V2 G L cap (y.o ++ y.i.take m)) → K3 { tmps := #[.pointer (some ⟨X, 0, none⟩), .int .i64 n, undef, undef, .int .i64 0, .int .i64 (m : Int), .pointer (some ⟨w1.heap.size, 0, none⟩), .int .i64 0, .pointer (some ⟨X, 0, none⟩), .pointer (some ⟨X, 0, none⟩), .pointer (some ⟨X, 5, none⟩), .agg #[.int .i64 g, .int .i64 s], .pointer (some ⟨X, 0, none⟩), .pointer (some ⟨X, 0, none⟩), .pointer (some ⟨X, 3, none⟩), .pointer (some ⟨F, 0, none⟩), .func (.func 75) #[.pointer (some ⟨F, 0, none⟩)] #[], .pointer (some ⟨X, 0, none⟩), .pointer (some ⟨X, 0, none⟩), .pointer (some ⟨X, 4, none⟩), .pointer (some ⟨G, 0, none⟩), .func (.func 76) #[.pointer (some ⟨G, 0, none⟩)] #[], t22, t23, .int .i64 n, t25, t26, .int .i64 (m : Int), .tuple #[.agg #[.int .i64 g, .int .i64 (s + (m : Int))], .int .i64 0], .pointer (some ⟨X, 0, none⟩), .pointer (some ⟨X, 0, none⟩), .pointer (some ⟨X, 5, none⟩), .agg #[.int .i64 g, .int .i64 s], .int .i64 (m : Int), .tuple #[.agg #[.int .i64 g, .int .i64 (s + (m : Int))], .int .i64 0], .agg #[.int .i64 g, .int .i64 (s + (m : Int))], .int .i64 0, .int .i64 0, .bool false, .pointer (some ⟨X, 0, none⟩), .agg #[.int .i64 g, .int .i64 (s + (m : Int))], .pointer (some ⟨X, 0, none⟩), .pointer (some ⟨X, 5, none⟩), .pointer (some ⟨X, 0, none⟩), .pointer (some ⟨X, 0, none⟩), .pointer (some ⟨X, 0, none⟩), .pointer (some ⟨X, 1, none⟩), .int .i64 (y.mv : Nat), .pointer (some ⟨X, 0, none⟩), .pointer (some ⟨X, 0, none⟩), .pointer (some ⟨X, 4, none⟩), .pointer (some ⟨G, 0, none⟩), .pointer (some ⟨X, 0, none⟩), .pointer (some ⟨X, 0, none⟩), .pointer (some ⟨X, 3, none⟩), .pointer (some ⟨F, 0, none⟩), .int .i64 (m : Int), .string (L1.str (y.i.take m)), .int .i64 (m : Int), .int .i64 ((y.mv + m : Nat) : Int), .pointer (some ⟨X, 0, none⟩), .pointer (some ⟨X, 0, none⟩), .pointer (some ⟨X, 1, none⟩), undef], defers := [] } (V2.setCell ⟨X, 1, none⟩ (.int .i64 ((y.mv + m : Nat) : Int))) by
    refine wp_region_held_drew (S := (fun w' => w'.cell? ⟨X, 3, none⟩ = some (.pointer (some ⟨F, 0, none⟩)) ∧ w'.cell? ⟨X, 4, none⟩ = some (.pointer (some ⟨G, 0, none⟩)))) (by kernel_rfl) ?_ (fun hHeld => ?_)
    · exact ⟨c3, c4⟩
    refine takeH (i := 0) (some 43) (v := ?_) rfl rfl (by kernel_rfl) (by kernel_rfl) (by kernel_rfl) (fun _ _ _ h => h) (Or.inl ⟨by rfl, ?hyZ0⟩) hHeld ?restZ0
    case hyZ0 => (intro w hSw; (try dsimp only at hSw); go_simp; (try with_reducible rfl))
    try simp only [Act.put, List.setIfInBounds_toArray, List.set_cons_zero, List.set_cons_succ]
    refine takeH (i := 1) (some 44) (v := ?_) rfl rfl (by kernel_rfl) (by kernel_rfl) (by kernel_rfl) (fun _ _ _ h => h) (Or.inl ⟨by rfl, ?hyZ1⟩) hHeld ?restZ1
    case hyZ1 => (intro w hSw; (try dsimp only at hSw); go_simp; (try with_reducible rfl))
    try simp only [Act.put, List.setIfInBounds_toArray, List.set_cons_zero, List.set_cons_succ]
    refine takeH (i := 2) (some 45) (v := ?_) rfl rfl (by kernel_rfl) (by kernel_rfl) (by kernel_rfl) (fun _ _ _ h => h) (Or.inl ⟨by rfl, ?hyZ2⟩) hHeld ?restZ2
    case hyZ2 => (intro w hSw; (try dsimp only at hSw); go_simp; (try with_reducible rfl))
    try simp only [Act.put, List.setIfInBounds_toArray, List.set_cons_zero, List.set_cons_succ]
    refine takeH (i := 3) (some 46) (v := ?_) rfl rfl (by kernel_rfl) (by kernel_rfl) (by kernel_rfl) (fun _ _ _ h => h) (Or.inl ⟨by rfl, ?hyZ3⟩) hHeld ?restZ3
    case hyZ3 => (intro w hSw; (try dsimp only at hSw); go_simp; (try with_reducible rfl))
    try simp only [Act.put, List.setIfInBounds_toArray, List.set_cons_zero, List.set_cons_succ]
    refine takeH (i := 5) (some 48) (v := ?_) rfl rfl (by kernel_rfl) (by kernel_rfl) (by kernel_rfl) (fun _ _ _ h => h) (Or.inl ⟨by rfl, ?hyZ5⟩) hHeld ?restZ5
    case hyZ5 => (intro w hSw; (try dsimp only at hSw); go_simp; (try with_reducible rfl))
    try simp only [Act.put, List.setIfInBounds_toArray, List.set_cons_zero, List.set_cons_succ]
    refine takeH (i := 6) (some 49) (v := ?_) rfl rfl (by kernel_rfl) (by kernel_rfl) (by kernel_rfl) (fun _ _ _ h => h) (Or.inl ⟨by rfl, ?hyZ6⟩) hHeld ?restZ6
    case hyZ6 => (intro w hSw; (try dsimp only at hSw); go_simp; (try with_reducible rfl))
    try simp only [Act.put, List.setIfInBounds_toArray, List.set_cons_zero, List.set_cons_succ]
    refine takeH (i := 7) (some 50) (v := ?_) rfl rfl (by kernel_rfl) (by kernel_rfl) (by kernel_rfl) (fun _ _ _ h => h) (Or.inl ⟨by rfl, ?hyZ7⟩) hHeld ?restZ7
    case hyZ7 => (intro w hSw; (try dsimp only at hSw); go_simp; (try with_reducible rfl))
    try simp only [Act.put, List.setIfInBounds_toArray, List.set_cons_zero, List.set_cons_succ]
    refine takeH (i := 8) (some 51) (v := ?_) rfl rfl (by kernel_rfl) (by kernel_rfl) (by kernel_rfl) (fun _ _ _ h => h) (Or.inl ⟨by rfl, ?hyZ8⟩) hHeld ?restZ8
    case hyZ8 => (intro w hSw; (try dsimp only at hSw); go_simp; (try with_reducible rfl))
    try simp only [Act.put, List.setIfInBounds_toArray, List.set_cons_zero, List.set_cons_succ]
    refine takeH (i := 9) (some 52) (v := ?_) rfl rfl (by kernel_rfl) (by kernel_rfl) (by kernel_rfl) (fun _ _ _ h => h) (Or.inl ⟨by rfl, ?hyZ9⟩) hHeld ?restZ9
    case hyZ9 => (intro w hSw; (try dsimp only at hSw); go_simp; (try with_reducible rfl))
    try simp only [Act.put, List.setIfInBounds_toArray, List.set_cons_zero, List.set_cons_succ]
    refine takeH (i := 10) (some 53) (v := ?_) rfl rfl (by kernel_rfl) (by kernel_rfl) (by kernel_rfl) (fun _ _ _ h => h) (Or.inl ⟨by rfl, ?hyZ10⟩) hHeld ?restZ10
    case hyZ10 => (intro w hSw; (try dsimp only at hSw); go_simp; (try with_reducible rfl))
    try simp only [Act.put, List.setIfInBounds_toArray, List.set_cons_zero, List.set_cons_succ]
    refine takeH (i := 11) (some 54) (v := ?_) rfl rfl (by kernel_rfl) (by kernel_rfl) (by kernel_rfl) (fun _ _ _ h => h) (Or.inl ⟨by rfl, ?hyZ11⟩) hHeld ?restZ11
    case hyZ11 => (intro w hSw; (try dsimp only at hSw); go_simp; (try with_reducible rfl))
    try simp only [Act.put, List.setIfInBounds_toArray, List.set_cons_zero, List.set_cons_succ]
    refine takeH (i := 12) (some 55) (v := ?_) rfl rfl (by kernel_rfl) (by kernel_rfl) (by kernel_rfl) (fun _ _ _ h => h) (Or.inl ⟨by rfl, ?hyZ12⟩) hHeld ?restZ12
    case hyZ12 => (intro w hSw; (try dsimp only at hSw); go_simp; (try with_reducible rfl))
    try simp only [Act.put, List.setIfInBounds_toArray, List.set_cons_zero, List.set_cons_succ]
    refine takeH (i := 13) (some 56) (v := ?_) rfl rfl (by kernel_rfl) (by kernel_rfl) (by kernel_rfl) (fun _ _ _ h => h) (Or.inl ⟨by rfl, ?hyZ13⟩) hHeld ?restZ13
    case hyZ13 => (intro w hSw; (try dsimp only at hSw); go_simp; (try with_reducible rfl))
    try simp only [Act.put, List.setIfInBounds_toArray, List.set_cons_zero, List.set_cons_succ]
    have HQI1 := Lib.hid (Qs.drew HQI.out)
    have HQO1 := Lib.hid (Qs.drew HQO.out)
    have HO0 := Lib.hid ((Off.refl F K V).drew)
    have b1 : V.drew.cell? ⟨X, 1, none⟩ = some (.int .i64 (y.mv : Nat)) := c1
    have g1 : V.drew.frozen? ⟨X, 1, none⟩ = false := f1
    have hXD : X < V.drew.heap.size := hXV
    clear c1 c3 c4 f1
    generalize V.drew = V0 at *
    refine wpAnyH_ready (rs := [4, 14]) (by kernel_rfl) (by simp) ?_
    refine AllReadyH.cons rfl (fun K2 hK => ?E) (AllReadyH.cons rfl (fun K2 hK => ?F) AllReadyH.nil)
    case E =>
      go_simp
      refine hK.out _ _ (hHeld) (fun hHeld => ?_)
      clear hK K2
      try simp only [Act.put, List.setIfInBounds_toArray, List.set_cons_zero, List.set_cons_succ]
      refine wpAnyH_ready (rs := [14]) (by kernel_rfl) (by simp) ?_
      refine AllReadyH.cons rfl (fun K2 hK => ?_) AllReadyH.nil
      go_simp
      with_reducible refine (HPop.out V0 HQI1.out).mono ?_
      rintro e V1 ⟨rfl, hq1, ho1⟩
      refine hK.out _ _ (⟨(ho1.cell hXD xf xk).trans hHeld.1, (ho1.cell hXD xf xk).trans hHeld.2⟩) (fun hHeld => ?_)
      clear hK K2
      try simp only [Act.put, List.setIfInBounds_toArray, List.set_cons_zero, List.set_cons_succ]
      have HO1 := Lib.hid ho1
      have HQ1 := Lib.hid hq1
      have hXV1 := Nat.lt_of_lt_of_le hXD ho1.size
      replace b1 := (ho1.cell hXD xf xk).trans b1
      replace g1 := (ho1.frozen hXD xf xk).trans g1
      clear ho1 hq1
      refine wpAnyH_ready (rs := [15]) (by kernel_rfl) (by simp) ?_
      refine AllReadyH.cons rfl (fun K2 hK => ?_) AllReadyH.nil
      go_simp
      with_reducible refine (HPush.out V1 (Qs.off HQO1.out HO1.out fg.symm kg.symm fl.symm kl.symm)).mono ?_
      rintro e V2 ⟨rfl, hq2, ho2⟩
      refine hK.out _ _ (⟨(ho2.cell hXV1 xg xl).trans hHeld.1, (ho2.cell hXV1 xg xl).trans hHeld.2⟩) (fun hHeld => ?_)
      clear hK K2
      try simp only [Act.put, List.setIfInBounds_toArray, List.set_cons_zero, List.set_cons_succ]
      have HO2 := Lib.hid ho2
      have HQ2 := Lib.hid hq2
      replace b1 := (ho2.cell hXV1 xg xl).trans b1
      replace g1 := (ho2.frozen hXV1 xg xl).trans g1
      clear ho2 hq2
      refine takeH (i := 16) (some 59) (v := ?_) rfl rfl (by kernel_rfl) (by kernel_rfl) (by kernel_rfl) (fun _ _ _ h => h) (Or.inl ⟨by rfl, ?hyTA16⟩) hHeld ?restTA16
      case hyTA16 => (intro w hSw; (try dsimp only at hSw); go_simp; (try with_reducible rfl))
      try simp only [Act.put, List.setIfInBounds_toArray, List.set_cons_zero, List.set_cons_succ]
      refine takeH (i := 17) (some 60) (v := ?_) rfl rfl (by kernel_rfl) (by kernel_rfl) (by kernel_rfl) (fun _ _ _ h => h) (Or.inl ⟨by rfl, ?hyTA17⟩) hHeld ?restTA17
      case hyTA17 => (intro w hSw; (try dsimp only at hSw); go_simp; (try with_reducible rfl))
      try simp only [Act.put, List.setIfInBounds_toArray, List.set_cons_zero, List.set_cons_succ]
      refine takeH (i := 18) (some 61) (v := ?_) rfl rfl (by kernel_rfl) (by kernel_rfl) (by kernel_rfl) (fun _ _ _ h => h) (Or.inl ⟨by rfl, ?hyTA18⟩) hHeld ?restTA18
      case hyTA18 => (intro w hSw; (try dsimp only at hSw); go_simp; (try with_reducible rfl))
      try simp only [Act.put, List.setIfInBounds_toArray, List.set_cons_zero, List.set_cons_succ]
      refine takeH (i := 19) (some 62) (v := ?_) rfl rfl (by kernel_rfl) (by kernel_rfl) (by kernel_rfl) (fun _ _ _ h => h) (Or.inl ⟨by rfl, ?hyTA19⟩) hHeld ?restTA19
      case hyTA19 => (intro w hSw; (try dsimp only at hSw); go_simp; (try with_reducible rfl))
      try simp only [Act.put, List.setIfInBounds_toArray, List.set_cons_zero, List.set_cons_succ]
      refine wpAnyH_ready (rs := [20]) (by kernel_rfl) (by simp) ?_
      refine AllReadyH.cons rfl (fun K2 hK => ?_) AllReadyH.nil
      go_simp
      refine hK.out _ _ (⟨(cell_oth V2 X 1 3 _ (by decide)).trans hHeld.1, (cell_oth V2 X 1 4 _ (by decide)).trans hHeld.2⟩) (fun hHeld => ?_)
      clear hK K2
      try simp only [Act.put, List.setIfInBounds_toArray, List.set_cons_zero, List.set_cons_succ]
      refine wpAnyH_done (by kernel_rfl) ?_ _
      exact hgo V1 V2 (Lib.hid (HO0.out.trans HO1.out)) HQ1 HO2 HQ2
    case F =>
      go_simp
      with_reducible refine (HPop.out V0 HQI1.out).mono ?_
      rintro e V1 ⟨rfl, hq1, ho1⟩
      refine hK.out _ _ (⟨(ho1.cell hXD xf xk).trans hHeld.1, (ho1.cell hXD xf xk).trans hHeld.2⟩) (fun hHeld => ?_)
      clear hK K2
      try simp only [Act.put, List.setIfInBounds_toArray, List.set_cons_zero, List.set_cons_succ]
      have HO1 := Lib.hid ho1
      have HQ1 := Lib.hid hq1
      have hXV1 := Nat.lt_of_lt_of_le hXD ho1.size
      replace b1 := (ho1.cell hXD xf xk).trans b1
      replace g1 := (ho1.frozen hXD xf xk).trans g1
      clear ho1 hq1
      refine wpAnyH_ready (rs := [4, 15]) (by kernel_rfl) (by simp) ?_
      refine AllReadyH.cons rfl (fun K2 hK => ?G) (AllReadyH.cons rfl (fun K2 hK => ?H) AllReadyH.nil)
      case G =>
        go_simp
        refine hK.out _ _ (hHeld) (fun hHeld => ?_)
        clear hK K2
        try simp only [Act.put, List.setIfInBounds_toArray, List.set_cons_zero, List.set_cons_succ]
        refine wpAnyH_ready (rs := [15]) (by kernel_rfl) (by simp) ?_
        refine AllReadyH.cons rfl (fun K2 hK => ?_) AllReadyH.nil
        go_simp
        with_reducible refine (HPush.out V1 (Qs.off HQO1.out HO1.out fg.symm kg.symm fl.symm kl.symm)).mono ?_
        rintro e V2 ⟨rfl, hq2, ho2⟩
        refine hK.out _ _ (⟨(ho2.cell hXV1 xg xl).trans hHeld.1, (ho2.cell hXV1 xg xl).trans hHeld.2⟩) (fun hHeld => ?_)
        clear hK K2
        try simp only [Act.put, List.setIfInBounds_toArray, List.set_cons_zero, List.set_cons_succ]
        have HO2 := Lib.hid ho2
        have HQ2 := Lib.hid hq2
        replace b1 := (ho2.cell hXV1 xg xl).trans b1
        replace g1 := (ho2.frozen hXV1 xg xl).trans g1
        clear ho2 hq2
        refine takeH (i := 16) (some 59) (v := ?_) rfl rfl (by kernel_rfl) (by kernel_rfl) (by kernel_rfl) (fun _ _ _ h => h) (Or.inl ⟨by rfl, ?hyTB16⟩) hHeld ?restTB16
        case hyTB16 => (intro w hSw; (try dsimp only at hSw); go_simp; (try with_reducible rfl))
        try simp only [Act.put, List.setIfInBounds_toArray, List.set_cons_zero, List.set_cons_succ]
        refine takeH (i := 17) (some 60) (v := ?_) rfl rfl (by kernel_rfl) (by kernel_rfl) (by kernel_rfl) (fun _ _ _ h => h) (Or.inl ⟨by rfl, ?hyTB17⟩) hHeld ?restTB17
        case hyTB17 => (intro w hSw; (try dsimp only at hSw); go_simp; (try with_reducible rfl))
        try simp only [Act.put, List.setIfInBounds_toArray, List.set_cons_zero, List.set_cons_succ]
        refine takeH (i := 18) (some 61) (v := ?_) rfl rfl (by kernel_rfl) (by kernel_rfl) (by kernel_rfl) (fun _ _ _ h => h) (Or.inl ⟨by rfl, ?hyTB18⟩) hHeld ?restTB18
        case hyTB18 => (intro w hSw; (try dsimp only at hSw); go_simp; (try with_reducible rfl))
        try simp only [Act.put, List.setIfInBounds_toArray, List.set_cons_zero, List.set_cons_succ]
        refine takeH (i := 19) (some 62) (v := ?_) rfl rfl (by kernel_rfl) (by kernel_rfl) (by kernel_rfl) (fun _ _ _ h => h) (Or.inl ⟨by rfl, ?hyTB19⟩) hHeld ?restTB19
        case hyTB19 => (intro w hSw; (try dsimp only at hSw); go_simp; (try with_reducible rfl))
        try simp only [Act.put, List.setIfInBounds_toArray, List.set_cons_zero, List.set_cons_succ]
        refine wpAnyH_ready (rs := [20]) (by kernel_rfl) (by simp) ?_
        refine AllReadyH.cons rfl (fun K2 hK => ?_) AllReadyH.nil
        go_simp
        refine hK.out _ _ (⟨(cell_oth V2 X 1 3 _ (by decide)).trans hHeld.1, (cell_oth V2 X 1 4 _ (by decide)).trans hHeld.2⟩) (fun hHeld => ?_)
        clear hK K2
        try simp only [Act.put, List.setIfInBounds_toArray, List.set_cons_zero, List.set_cons_succ]
        refine wpAnyH_done (by kernel_rfl) ?_ _
        exact hgo V1 V2 (Lib.hid (HO0.out.trans HO1.out)) HQ1 HO2 HQ2
      case H =>
        go_simp
        with_reducible refine (HPush.out V1 (Qs.off HQO1.out HO1.out fg.symm kg.symm fl.symm kl.symm)).mono ?_
        rintro e V2 ⟨rfl, hq2, ho2⟩
        refine hK.out _ _ (⟨(ho2.cell hXV1 xg xl).trans hHeld.1, (ho2.cell hXV1 xg xl).trans hHeld.2⟩) (fun hHeld => ?_)
        clear hK K2
        try simp only [Act.put, List.setIfInBounds_toArray, List.set_cons_zero, List.set_cons_succ]
        have HO2 := Lib.hid ho2
        have HQ2 := Lib.hid hq2
        replace b1 := (ho2.cell hXV1 xg xl).trans b1
        replace g1 := (ho2.frozen hXV1 xg xl).trans g1
        clear ho2 hq2
        refine wpAnyH_ready (rs := [4]) (by kernel_rfl) (by simp) ?_
        refine AllReadyH.cons rfl (fun K2 hK => ?_) AllReadyH.nil
        go_simp
        refine hK.out _ _ (hHeld) (fun hHeld => ?_)
        clear hK K2
        try simp only [Act.put, List.setIfInBounds_toArray, List.set_cons_zero, List.set_cons_succ]
        refine takeH (i := 16) (some 59) (v := ?_) rfl rfl (by kernel_rfl) (by kernel_rfl) (by kernel_rfl) (fun _ _ _ h => h) (Or.inl ⟨by rfl, ?hyTC16⟩) hHeld ?restTC16
        case hyTC16 => (intro w hSw; (try dsimp only at hSw); go_simp; (try with_reducible rfl))
        try simp only [Act.put, List.setIfInBounds_toArray, List.set_cons_zero, List.set_cons_succ]
        refine takeH (i := 17) (some 60) (v := ?_) rfl rfl (by kernel_rfl) (by kernel_rfl) (by kernel_rfl) (fun _ _ _ h => h) (Or.inl ⟨by rfl, ?hyTC17⟩) hHeld ?restTC17
        case hyTC17 => (intro w hSw; (try dsimp only at hSw); go_simp; (try with_reducible rfl))
        try simp only [Act.put, List.setIfInBounds_toArray, List.set_cons_zero, List.set_cons_succ]
        refine takeH (i := 18) (some 61) (v := ?_) rfl rfl (by kernel_rfl) (by kernel_rfl) (by kernel_rfl) (fun _ _ _ h => h) (Or.inl ⟨by rfl, ?hyTC18⟩) hHeld ?restTC18
        case hyTC18 => (intro w hSw; (try dsimp only at hSw); go_simp; (try with_reducible rfl))
        try simp only [Act.put, List.setIfInBounds_toArray, List.set_cons_zero, List.set_cons_succ]
        refine takeH (i := 19) (some 62) (v := ?_) rfl rfl (by kernel_rfl) (by kernel_rfl) (by kernel_rfl) (fun _ _ _ h => h) (Or.inl ⟨by rfl, ?hyTC19⟩) hHeld ?restTC19
        case hyTC19 => (intro w hSw; (try dsimp only at hSw); go_simp; (try with_reducible rfl))
        try simp only [Act.put, List.setIfInBounds_toArray, List.set_cons_zero, List.set_cons_succ]
        refine wpAnyH_ready (rs := [20]) (by kernel_rfl) (by simp) ?_
        refine AllReadyH.cons rfl (fun K2 hK => ?_) AllReadyH.nil
        go_simp
        refine hK.out _ _ (⟨(cell_oth V2 X 1 3 _ (by decide)).trans hHeld.1, (cell_oth V2 X 1 4 _ (by decide)).trans hHeld.2⟩) (fun hHeld => ?_)
        clear hK K2
        try simp only [Act.put, List.setIfInBounds_toArray, List.set_cons_zero, List.set_cons_succ]
        refine wpAnyH_done (by kernel_rfl) ?_ _
        exact hgo V1 V2 (Lib.hid (HO0.out.trans HO1.out)) HQ1 HO2 HQ2
  intro V1 V2 HO1 HQ1 HO2 HQ2
  refine hK3 _ _ ?_
  go_wp2
  go_ret
  obtain ⟨rX, rF, rK, rG, rL⟩ := HR.out
  have q := HQ.out
  have hok2 := hok.out
  rw [hE.out] at hok2 ⊢
  rw [hm]
  refine ⟨rfl, ⟨F, K, G, L, ?_, rX, rF, rK, rG, rL⟩, ?_⟩
  · refine q.to (y' := { y with i := y.i.drop m, o := y.o ++ y.i.take m, s := y.s + m, mv := y.mv + m }) ?_ ?_ ?_ hok2
    · have h2 := (hst2.out.same (HO1.out.block X hXV xf xk))
      have h3 := (h2.same (HO2.out.block X (Nat.lt_of_lt_of_le hXV HO1.out.size) xg xl)).set1 (y.mv + m)
      rw [← hg, ← hs] at h3
      exact h3
    · exact (HQ1.out.off HO2.out fg fl kg kl).same (heap_set _ _ _ xf) (heap_set _ _ _ xk)
    · exact HQ2.out.same (heap_set _ _ _ xg) (heap_set _ _ _ xl)
  · exact ((HG1.out.trans (goes_off HO1.out rF rK)).trans (goes_off HO2.out rG rL)).trans (goes_set _ _ _ _ rX)

end Go.Proofs.YtkokcfhfgnkdfaaGreatDoor.L17

/- What one event does to a state: the six moves, isState, fault.Unless: their contracts. -/
namespace Go.Proofs.YtkokcfhfgnkdfaaGreatDoor.L14
open Go.RowKit

theorem ret_bool {a b : Bool} (h : a = b) : Ending.returned (.bool a) = .returned (.bool b) := by rw [h]
theorem ret_int {k : IntKind} {a b : Int} (h : a = b) : Ending.returned (.int k a) = .returned (.int k b) := by rw [h]
theorem ret_move {k : IntKind} {a b : Int} {c d : Bool} (h : a = b) (h' : c = d) : Ending.returned (.tuple #[.int k a, .bool c]) = .returned (.tuple #[.int k b, .bool d]) := by rw [h, h']
theorem bcell {W w1 : World} (hb : Below W.heap.size W w1) : (∀ b o, b < W.heap.size → w1.cell? ⟨b, o, none⟩ = W.cell? ⟨b, o, none⟩) ∧ (∀ b o, b < W.heap.size → w1.frozen? ⟨b, o, none⟩ = W.frozen? ⟨b, o, none⟩) :=
  ⟨fun b o h => hb.cell (p := ⟨b, o, none⟩) h, fun b o h => hb.frozen (p := ⟨b, o, none⟩) h⟩
theorem blt {w : World} {b o : Nat} {v : Value} (h : w.cell? ⟨b, o, none⟩ = some v) : b < w.heap.size := World.block_lt_of_cell? w ⟨b, o, none⟩ h
theorem keep_alloc {W : World} {b o : Nat} {v : Value} (X : Obj) (h : W.cell? ⟨b, o, none⟩ = some v) : (W.alloc X).cell? ⟨b, o, none⟩ = some v :=
  (World.cell?_of_block (w := W) (Below.heap_alloc W X b (blt h))).trans h
theorem set_other (W : World) (v : Value) {b bm o om : Nat} (hne : b ≠ bm) : (W.setCell ⟨bm, om, none⟩ v).cell? ⟨b, o, none⟩ = W.cell? ⟨b, o, none⟩ :=
  World.cell?_of_block (w := W) (Below.heap_setCell W ⟨bm, om, none⟩ v b hne)
theorem below_drewN {m : Nat} {a w : World} (h : Below m a w) (n : Nat) : Below m a (w.drewN n) := h.trans ⟨rfl, rfl, rfl, Nat.le_refl _, fun _ _ => rfl⟩
theorem below_drew {m : Nat} {a w : World} (h : Below m a w) : Below m a w.drew := h.trans ⟨rfl, rfl, rfl, Nat.le_refl _, fun _ _ => rfl⟩
theorem below_alloc (w : World) (o : Obj) : Below w.heap.size w (w.alloc o) := (Below.refl _ w).alloc (Nat.le_refl _) o

def faultV (e : Int) : Value := .iface 103 (.agg #[.int .i64 e])
theorem unless_t (e : Int) (w : World) : Calls Tryz.prog 47 #[.bool true, .int .i64 e] w fun x w' => x = .returned .nilIface ∧ w = w' := by
  go_enter Tryz.func47, Tryz.ntmps47
  go_wp2
  go_ret
  exact ⟨rfl, rfl⟩
theorem unless_f (e : Int) (w : World) : Calls Tryz.prog 47 #[.bool false, .int .i64 e] w fun x w' => x = .returned (faultV e) ∧ w = w' := by
  go_enter Tryz.func47, Tryz.ntmps47
  go_wp2
  go_ret
  exact ⟨rfl, rfl⟩
theorem unless_c (b : Bool) (e : Int) (w : World) : Calls Tryz.prog 47 #[.bool b, .int .i64 e] w fun x w' => x = .returned (if b = true then .nilIface else faultV e) ∧ w = w' := by
  cases b
  · exact unless_f e w
  · exact unless_t e w
theorem isState_c (s : Int) (w : World) : Calls Tryz.prog 108 #[.int .i64 s] w fun x w' => x = .returned (.bool (isSt s)) ∧ w = w' := by
  by_cases h : 0 ≤ s
  · by_cases h' : s ≤ 6
    · have e : isSt s = true := by simp only [isSt, decide_eq_true_eq]; omega
      go_enter Tryz.func108, Tryz.ntmps108
      go_wp2
      go_ret
      exact ⟨ret_bool (by first | rfl | rw [e] | exact e.symm), rfl⟩
    · have e : isSt s = false := by simp only [isSt, decide_eq_false_iff_not]; omega
      go_enter Tryz.func108, Tryz.ntmps108
      go_wp2
      go_ret
      exact ⟨ret_bool (by first | rfl | rw [e] | exact e.symm), rfl⟩
  · have e : isSt s = false := by simp only [isSt, decide_eq_false_iff_not]; omega
    go_enter Tryz.func108, Tryz.ntmps108
    go_wp2
    go_ret
    exact ⟨ret_bool (by first | rfl | rw [e] | exact e.symm), rfl⟩

theorem open_c (s e : Int) (w : World) :
    Calls Tryz.prog 109 #[.agg #[.int .i64 s, .int .i64 e]] w fun x w' => x = .returned (.tuple #[.int .i64 1, .bool (decide (s = 0 ∧ e = 1))]) ∧ Below w.heap.size w w' := by
  by_cases h : s = 0
  · by_cases h' : e = 1
    · subst h h'
      go_enter Tryz.func109, Tryz.ntmps109
      go_wp2_with fail
      go_quiet (fail)
      go_wp2
      go_ret2
      exact ⟨ret_move rfl rfl, below_drewN (below_alloc _ _) _⟩
    · subst h
      have hd : (e == 1) = false := by simpa using h'
      go_enter Tryz.func109, Tryz.ntmps109
      go_wp2_with fail
      go_quiet (fail)
      go_wp2
      go_ret2
      exact ⟨ret_move rfl (by simp [h']), below_drewN (below_alloc _ _) _⟩
  · have hd : (s == 0) = false := by simpa using h
    go_enter Tryz.func109, Tryz.ntmps109
    go_wp2_with fail
    go_quiet (fail)
    go_wp2
    go_ret2
    exact ⟨ret_move rfl (by simp [h]), below_drewN (below_alloc _ _) _⟩

theorem accept_c (s e : Int) (w : World) :
    Calls Tryz.prog 110 #[.agg #[.int .i64 s, .int .i64 e]] w fun x w' => x = .returned (.tuple #[.int .i64 2, .bool (decide (s = 1 ∧ e = 2))]) ∧ Below w.heap.size w w' := by
  by_cases h : s = 1
  · by_cases h' : e = 2
    · subst h h'
      go_enter Tryz.func110, Tryz.ntmps110
      go_wp2_with fail
      go_quiet (fail)
      go_wp2
      go_ret2
      exact ⟨ret_move rfl rfl, below_drewN (below_alloc _ _) _⟩
    · subst h
      have hd : (e == 2) = false := by simpa using h'
      go_enter Tryz.func110, Tryz.ntmps110
      go_wp2_with fail
      go_quiet (fail)
      go_wp2
      go_ret2
      exact ⟨ret_move rfl (by simp [h']), below_drewN (below_alloc _ _) _⟩
  · have hd : (s == 1) = false := by simpa using h
    go_enter Tryz.func110, Tryz.ntmps110
    go_wp2_with fail
    go_quiet (fail)
    go_wp2
    go_ret2
    exact ⟨ret_move rfl (by simp [h]), below_drewN (below_alloc _ _) _⟩

theorem refuse_c (s e : Int) (w : World) :
    Calls Tryz.prog 111 #[.agg #[.int .i64 s, .int .i64 e]] w fun x w' => x = .returned (.tuple #[.int .i64 6, .bool (decide (s = 1 ∧ e = 3))]) ∧ Below w.heap.size w w' := by
  by_cases h : s = 1
  · by_cases h' : e = 3
    · subst h h'
      go_enter Tryz.func111, Tryz.ntmps111
      go_wp2_with fail
      go_quiet (fail)
      go_wp2
      go_ret2
      exact ⟨ret_move rfl rfl, below_drewN (below_alloc _ _) _⟩
    · subst h
      have hd : (e == 3) = false := by simpa using h'
      go_enter Tryz.func111, Tryz.ntmps111
      go_wp2_with fail
      go_quiet (fail)
      go_wp2
      go_ret2
      exact ⟨ret_move rfl (by simp [h']), below_drewN (below_alloc _ _) _⟩
  · have hd : (s == 1) = false := by simpa using h
    go_enter Tryz.func111, Tryz.ntmps111
    go_wp2_with fail
    go_quiet (fail)
    go_wp2
    go_ret2
    exact ⟨ret_move rfl (by simp [h]), below_drewN (below_alloc _ _) _⟩

theorem endIn_c (s e : Int) (w : World) :
    Calls Tryz.prog 112 #[.agg #[.int .i64 s, .int .i64 e]] w fun x w' => x = .returned (.tuple #[.int .i64 (if s = 4 then 5 else 3), .bool (decide (s = 4 ∨ s = 2))]) ∧ Below w.heap.size w w' := by
  by_cases h : s = 4
  · subst h
    go_enter Tryz.func112, Tryz.ntmps112
    go_wp2
    go_ret2
    exact ⟨ret_move rfl rfl, below_alloc _ _⟩
  · have hd : decide (s = 4) = false := decide_eq_false h
    go_enter Tryz.func112, Tryz.ntmps112
    go_wp2_with fail
    go_quiet (fail)
    go_wp2
    go_ret2
    exact ⟨ret_move (by first | rfl | rw [if_neg h]) (by rw [Bool.eq_iff_iff]; simp), below_drewN (below_alloc _ _) _⟩

theorem endOut_c (s e : Int) (w : World) :
    Calls Tryz.prog 113 #[.agg #[.int .i64 s, .int .i64 e]] w fun x w' => x = .returned (.tuple #[.int .i64 (if s = 3 then 5 else 4), .bool (decide (s = 3 ∨ s = 2))]) ∧ Below w.heap.size w w' := by
  by_cases h : s = 3
  · subst h
    go_enter Tryz.func113, Tryz.ntmps113
    go_wp2
    go_ret2
    exact ⟨ret_move rfl rfl, below_alloc _ _⟩
  · have hd : decide (s = 3) = false := decide_eq_false h
    go_enter Tryz.func113, Tryz.ntmps113
    go_wp2_with fail
    go_quiet (fail)
    go_wp2
    go_ret2
    exact ⟨ret_move (by first | rfl | rw [if_neg h]) (by rw [Bool.eq_iff_iff]; simp), below_drewN (below_alloc _ _) _⟩

theorem reset_c (s e : Int) (w : World) :
    Calls Tryz.prog 114 #[.agg #[.int .i64 s, .int .i64 e]] w fun x w' => x = .returned (.tuple #[.int .i64 6, .bool (decide (1 ≤ s ∧ s ≤ 4))]) ∧ Below w.heap.size w w' := by
  by_cases h : 1 ≤ s
  · by_cases h' : s ≤ 4
    · go_enter Tryz.func114, Tryz.ntmps114
      go_wp2_with fail
      go_quiet (fail)
      go_wp2
      go_ret2
      exact ⟨ret_move rfl (by rw [Bool.eq_iff_iff]; simp [h, h']), below_drewN (below_alloc _ _) _⟩
    · have hd : decide (s ≤ 4) = false := decide_eq_false h'
      go_enter Tryz.func114, Tryz.ntmps114
      go_wp2_with fail
      go_quiet (fail)
      go_wp2
      go_ret2
      exact ⟨ret_move rfl (by rw [Bool.eq_iff_iff]; simp; omega), below_drewN (below_alloc _ _) _⟩
  · have hd : decide (1 ≤ s) = false := decide_eq_false h
    go_enter Tryz.func114, Tryz.ntmps114
    go_wp2_with fail
    go_quiet (fail)
    go_wp2
    go_ret2
    exact ⟨ret_move rfl (by rw [Bool.eq_iff_iff]; simp; omega), below_drewN (below_alloc _ _) _⟩
end Go.Proofs.YtkokcfhfgnkdfaaGreatDoor.L14
