/- isAddr, behind, cut, hasBits, hasAddr: their contracts. -/
import Derived.Test.YtlmgdhhlflmghaaDoorProg
import Derived.Test.YtlmgdhhlflmghaaDoorP
import Derived.WalkKit
import Derived.WalkLawsBesides
import Derived.WalkSpells
import Derived.WalkSmall
import Derived.Outline
import Derived.Deep.DeepFit
import Derived.Lib.Hide
import Derived.BigQuiet
import Derived.Deep.QuietTactic
import Derived.Sort.QuietIn
import Derived.Deep.RegionHeld3
import Derived.IntWalk
import Derived.Laws.StructEq
import Derived.Maps.RangeWalk
import Derived.RangeFuncNested
import Derived.RangeFuncBound
import Derived.RangeFuncCalls
import Derived.RangeFuncLeaves
import Derived.RangeFuncBox
import Derived.Shelf.Abstract
import Derived.Shelf.RegionOpen
import Derived.OwnWalkIn
import Derived.TacticsInMore
import Derived.LoopNIn
import Derived.LoopIn
import Derived.Lib.OthersKept
namespace Go.Proofs.YtlmgdhhlflmghaaDoor
open Go.RowKit

theorem ret_bool {a b : Bool} (h : a = b) : Ending.returned (.bool a) = .returned (.bool b) := by rw [h]
theorem bcell {W w1 : World} (hb : Below W.heap.size W w1) : (∀ b o, b < W.heap.size → w1.cell? ⟨b, o, none⟩ = W.cell? ⟨b, o, none⟩) ∧ (∀ b o, b < W.heap.size → w1.frozen? ⟨b, o, none⟩ = W.frozen? ⟨b, o, none⟩) :=
  ⟨fun b o h => hb.cell (p := ⟨b, o, none⟩) h, fun b o h => hb.frozen (p := ⟨b, o, none⟩) h⟩
theorem blt {w : World} {b o : Nat} {v : Value} (h : w.cell? ⟨b, o, none⟩ = some v) : b < w.heap.size := World.block_lt_of_cell? w ⟨b, o, none⟩ h
theorem keep_alloc {W : World} {b o : Nat} {v : Value} (X : Obj) (h : W.cell? ⟨b, o, none⟩ = some v) : (W.alloc X).cell? ⟨b, o, none⟩ = some v :=
  (World.cell?_of_block (w := W) (Below.heap_alloc W X b (blt h))).trans h
theorem set_other (W : World) (v : Value) {b bm o om : Nat} (hne : b ≠ bm) : (W.setCell ⟨bm, om, none⟩ v).cell? ⟨b, o, none⟩ = W.cell? ⟨b, o, none⟩ :=
  World.cell?_of_block (w := W) (Below.heap_setCell W ⟨bm, om, none⟩ v b hne)
theorem below_drewN {m : Nat} {a w : World} (h : Below m a w) (n : Nat) : Below m a (w.drewN n) := h.trans ⟨rfl, rfl, rfl, Nat.le_refl _, fun _ _ => rfl⟩
theorem below_drew {m : Nat} {a w : World} (h : Below m a w) : Below m a w.drew := h.trans ⟨rfl, rfl, rfl, Nat.le_refl _, fun _ _ => rfl⟩
theorem below_alloc (w : World) (o : Obj) : Below w.heap.size w (w.alloc o) := (Below.refl _ w).alloc (Nat.le_refl _) o
theorem bal {a W : World} (h : Below a.heap.size a W) (o : Obj) : Below a.heap.size a (W.alloc o) := h.alloc h.size o
theorem btr {a W W' : World} (h : Below a.heap.size a W) (k : Below W.heap.size W W') : Below a.heap.size a W' := h.trans (k.mono h.size)

/-- The bits of a number that a mask leaves. -/
theorem and_mask {a : Int} {m : Nat} (h0 : 0 ≤ a) (h1 : a ≤ 4294967295) (hm : m ≤ 32) : (((BitVec.ofInt 64 a &&& BitVec.ofInt 64 (((2 ^ m : Nat) : Int) - 1)).toNat : Nat) : Int) = a % ((2 ^ m : Nat) : Int) := by
  obtain ⟨n, rfl⟩ : ∃ n : Nat, a = n := ⟨a.toNat, by omega⟩
  have hp : (2 : Nat) ^ m ≤ 2 ^ 32 := Nat.pow_le_pow_right (by omega) hm
  have hp0 := Nat.two_pow_pos m
  rw [show (((2 ^ m : Nat) : Int) - 1) = (((2 ^ m - 1 : Nat)) : Int) by omega]
  simp only [BitVec.ofInt_natCast, BitVec.toNat_and, BitVec.toNat_ofNat]
  rw [Nat.mod_eq_of_lt (show n < 2 ^ 64 by omega), Nat.mod_eq_of_lt (show 2 ^ m - 1 < 2 ^ 64 by omega), Nat.and_two_pow_sub_one_eq_mod]
  rfl
theorem or_mask {a : Int} {m : Nat} (h0 : 0 ≤ a) (h1 : a ≤ 4294967295) (hm : m ≤ 32) (hd : a % ((2 ^ m : Nat) : Int) = 0) : (((BitVec.ofInt 64 a ||| BitVec.ofInt 64 (((2 ^ m : Nat) : Int) - 1)).toNat : Nat) : Int) = a + (((2 ^ m : Nat) : Int) - 1) := by
  obtain ⟨n, rfl⟩ : ∃ n : Nat, a = n := ⟨a.toNat, by omega⟩
  have hp : (2 : Nat) ^ m ≤ 2 ^ 32 := Nat.pow_le_pow_right (by omega) hm
  have hp0 := Nat.two_pow_pos m
  have hd' : n % 2 ^ m = 0 := by omega
  have e := Nat.div_add_mod n (2 ^ m)
  rw [hd', Nat.add_zero] at e
  rw [show (((2 ^ m : Nat) : Int) - 1) = (((2 ^ m - 1 : Nat)) : Int) by omega]
  simp only [BitVec.ofInt_natCast, BitVec.toNat_or, BitVec.toNat_ofNat]
  rw [Nat.mod_eq_of_lt (show n < 2 ^ 64 by omega), Nat.mod_eq_of_lt (show 2 ^ m - 1 < 2 ^ 64 by omega), ← e, ← Nat.two_pow_add_eq_or_of_lt (by omega)]
  omega

theorem pow_cast (m : Nat) : (((2 ^ m : Nat) : Int)) = (2 : Int) ^ m := by simp
theorem pow_le {m : Nat} (hm : m ≤ 32) : (0 : Int) < 2 ^ m ∧ (2 : Int) ^ m ≤ 4294967296 := by
  have hp : (2 : Nat) ^ m ≤ 2 ^ 32 := Nat.pow_le_pow_right (by omega) hm
  have hp0 := Nat.two_pow_pos m
  rw [← pow_cast]; omega
theorem bits_and {a : Int} {m : Nat} (h0 : 0 ≤ a) (h1 : a ≤ 4294967295) (hm : m ≤ 32) : bits .and .i64 a ((2 : Int) ^ m - 1) = a % (2 : Int) ^ m := by
  have e := and_mask h0 h1 hm
  rw [pow_cast] at e
  have e2 : bits .and .i64 a ((2 : Int) ^ m - 1) = IntKind.i64.wrap (((BitVec.ofInt 64 a &&& BitVec.ofInt 64 ((2 : Int) ^ m - 1)).toNat : Nat) : Int) := rfl
  have hp := pow_le hm
  have g1 := Int.emod_nonneg a (show (2 : Int) ^ m ≠ 0 by omega)
  have g2 := Int.emod_lt_of_pos a hp.1
  rw [e2, e]
  exact IntWalk.i64_in _ (by omega)
theorem bits_or {a : Int} {m : Nat} (h0 : 0 ≤ a) (h1 : a ≤ 4294967295) (hm : m ≤ 32) (hd : a % (2 : Int) ^ m = 0) : bits .or .i64 a ((2 : Int) ^ m - 1) = a + ((2 : Int) ^ m - 1) := by
  have e := or_mask h0 h1 hm (by rw [pow_cast]; exact hd)
  rw [pow_cast] at e
  have e2 : bits .or .i64 a ((2 : Int) ^ m - 1) = IntKind.i64.wrap (((BitVec.ofInt 64 a ||| BitVec.ofInt 64 ((2 : Int) ^ m - 1)).toNat : Nat) : Int) := rfl
  have hp := pow_le hm
  rw [e2, e]
  exact IntWalk.i64_in _ (by omega)

theorem isAddr_c (a : Int) (w : World) : Calls Tryd.prog 30 #[.int .i64 a] w fun x w' => x = .returned (.bool (isA a)) ∧ w = w' := by
  by_cases h : 0 ≤ a
  · by_cases h' : a ≤ 4294967295
    · have e : isA a = true := by simp only [isA, decide_eq_true_eq]; omega
      go_enter Tryd.func30, Tryd.ntmps30
      go_wp2
      go_ret
      exact ⟨ret_bool (by first | rfl | rw [e] | exact e.symm), rfl⟩
    · have e : isA a = false := by simp only [isA, decide_eq_false_iff_not]; omega
      go_enter Tryd.func30, Tryd.ntmps30
      go_wp2
      go_ret
      exact ⟨ret_bool (by first | rfl | rw [e] | exact e.symm), rfl⟩
  · have e : isA a = false := by simp only [isA, decide_eq_false_iff_not]; omega
    go_enter Tryd.func30, Tryd.ntmps30
    go_wp2
    go_ret
    exact ⟨ret_bool (by first | rfl | rw [e] | exact e.symm), rfl⟩

set_option maxRecDepth 100000 in
theorem behind_c (k : Int) (hk : okK k = true) (w : World) : Calls Tryd.prog 47 #[.int .i64 k] w fun x w' => x = .returned (.func (.func 55) #[] #[.pointer (some ⟨w.heap.size, 0, none⟩)]) ∧ w' = w.alloc (.cells #[.int .i64 (blk k - 1)] 3) := by
  obtain ⟨m, hm, rfl, e⟩ := okK_cases hk
  rw [e]
  clear hk e
  have e1 : (32 - (32 - m)) = m := by omega
  have hp : (2 : Nat) ^ m ≤ 2 ^ 32 := Nat.pow_le_pow_right (by omega) hm
  have hp0 := Nat.two_pow_pos m
  have e2 : wrap64 (wrap64 (2 ^ m) - 1) = ((2 ^ m : Nat) : Int) - 1 := by
    rw [show ((2 : Int) ^ m) = ((2 ^ m : Nat) : Int) by simp]
    generalize 2 ^ m = x at *
    unfold wrap64; omega
  go_enter Tryd.func47, Tryd.ntmps47
  go_wp2
  rw [e1, e2]
  go_ret
  exact ⟨rfl, rfl⟩
theorem mask_c (a k : Int) (b : Nat) (w : World) (h0 : 0 ≤ a) (h1 : a ≤ 4294967295) (hk : okK k = true) (hc : w.cell? ⟨b, 0, none⟩ = some (.int .i64 (blk k - 1))) :
    Calls Tryd.prog 55 #[.int .i64 a, .pointer (some ⟨b, 0, none⟩)] w fun x w' => x = .returned (.int .i64 (a % blk k)) ∧ w = w' := by
  obtain ⟨m, hm, rfl, e⟩ := okK_cases hk
  rw [e, pow_cast] at hc ⊢
  have hb := bits_and h0 h1 hm
  go_enter Tryd.func55, Tryd.ntmps55
  go_wp2
  go_ret
  exact ⟨rfl, rfl⟩

set_option maxRecDepth 100000 in
theorem cut_c (a k : Int) (ha : isA a = true) (hk : okK k = true) (w : World) : Calls Tryd.prog 48 #[.int .i64 a, .int .i64 k] w fun x w' => x = .returned (.agg #[.int .i64 (cutI a k), .int .i64 k]) ∧ Below w.heap.size w w' := by
  have h0 := (isA_iff.1 ha).1
  have h1 := (isA_iff.1 ha).2
  have HB := Lib.hid (fun W => behind_c k hk W)
  have hc := cut_lt a k
  have hc0 := cut_nonneg (a := a) (k := k) h0
  have hcut : a - a % blk k = cutI a k := rfl
  have hmod : a % blk k = a - cutI a k := by unfold cutI; omega
  have HM := Lib.hid (fun b W h => mask_c a k b W h0 h1 hk h)
  rw [hmod] at HM
  generalize cutI a k = c at *
  clear hmod hcut hk ha
  go_enter Tryd.func48, Tryd.ntmps48
  go_wp2_with fail
  refine (HB.out _).mono ?_; rintro e w1 ⟨rfl, rfl⟩
  go_wp2_with (go_at_call 55; refine (HM.out _ _ (by simp)).mono ?_; rintro e w1 ⟨rfl, rfl⟩)
  have e : a - (a - c) = c := by omega
  rw [e]
  exact bodyPost_ret (v := .agg #[.int .i64 c, .int .i64 k]) (by simp [results, Tryd.results48, go_sem]) rfl ⟨rfl, bal (below_alloc _ _) _⟩

theorem hasBits_c (A K : Int) (w : World) : Calls Tryd.prog 43 #[.agg #[.int .i64 A, .int .i64 K]] w fun x w' => x = .returned (.bool (okK K)) ∧ Below w.heap.size w w' := by
  by_cases h : 0 ≤ K
  · by_cases h' : K ≤ 32
    · have e : okK K = true := by simp only [okK, decide_eq_true_eq]; omega
      go_enter Tryd.func43, Tryd.ntmps43
      go_wp2
      go_ret
      exact ⟨ret_bool (by first | rfl | rw [e] | exact e.symm), below_alloc _ _⟩
    · have e : okK K = false := by simp only [okK, decide_eq_false_iff_not]; omega
      go_enter Tryd.func43, Tryd.ntmps43
      go_wp2
      go_ret
      exact ⟨ret_bool (by first | rfl | rw [e] | exact e.symm), below_alloc _ _⟩
  · have e : okK K = false := by simp only [okK, decide_eq_false_iff_not]; omega
    go_enter Tryd.func43, Tryd.ntmps43
    go_wp2
    go_ret
    exact ⟨ret_bool (by first | rfl | rw [e] | exact e.symm), below_alloc _ _⟩
theorem hasAddr_c (A K : Int) (w : World) : Calls Tryd.prog 44 #[.agg #[.int .i64 A, .int .i64 K]] w fun x w' => x = .returned (.bool (isA A)) ∧ Below w.heap.size w w' := by
  have H := Lib.hid (fun W => isAddr_c A W)
  go_enter Tryd.func44, Tryd.ntmps44
  go_wp2_with (go_at_call 30; refine (H.out _).mono ?_; rintro x w' ⟨rfl, rfl⟩)
  go_ret
  exact ⟨rfl, below_alloc _ _⟩

set_option maxRecDepth 100000 in
set_option maxHeartbeats 2000000 in
theorem isCut_at (A K c : Int) (hc : cutI A K = c) (ha : isA A = true) (hk : okK K = true) (w : World) (r : Bool) (hr : (c = A ∧ r = true) ∨ ((c == A) = false ∧ r = false)) : Calls Tryd.prog 45 #[.agg #[.int .i64 A, .int .i64 K]] w fun x w' => x = .returned (.bool r) ∧ Below w.heap.size w w' := by
  have HC := Lib.hid (fun W => cut_c A K ha hk W)
  rw [hc] at HC
  clear hc ha hk
  rcases hr with ⟨rfl, rfl⟩ | ⟨hne, rfl⟩
  · go_enter Tryd.func45, Tryd.ntmps45
    go_wp2_with fail
    have k0 : (w.alloc (.cells #[.int .i64 c, .int .i64 K] 56)).cell? ⟨w.heap.size, 0, none⟩ = some (.int .i64 c) := by go_simp
    have k1 : (w.alloc (.cells #[.int .i64 c, .int .i64 K] 56)).cell? ⟨w.heap.size, 1, none⟩ = some (.int .i64 K) := by go_simp
    have HA := Lib.hid (below_alloc w (.cells #[.int .i64 c, .int .i64 K] 56))
    generalize (w.alloc (.cells #[.int .i64 c, .int .i64 K] 56)) = U at *
    have u0 : Below U.heap.size U U := Below.refl _ U
    have MK := Lib.hid (show ∀ w', Below U.heap.size U w' → w'.cell? ⟨w.heap.size, 0, none⟩ = some (.int .i64 c) ∧ w'.cell? ⟨w.heap.size, 1, none⟩ = some (.int .i64 K) ∧ Below U.heap.size U w' from
      (fun w' h => ⟨(h.cell (p := ⟨w.heap.size, 0, none⟩) (blt k0)).trans k0, (h.cell (p := ⟨w.heap.size, 1, none⟩) (blt k0)).trans k1, h⟩))
    go_region_held3 (fun w' => w'.cell? ⟨w.heap.size, 0, none⟩ = some (.int .i64 c) ∧ w'.cell? ⟨w.heap.size, 1, none⟩ = some (.int .i64 K) ∧ Below U.heap.size U w')
      (first | with_reducible assumption | exact MK.out _ (by with_reducible assumption) | exact MK.out _ (below_drew (by with_reducible assumption)))
      ((first | (go_at_call 48; go_split_ands; with_reducible refine (HC.out _).mono ?_; rintro e wn ⟨rfl, pB⟩; have sB := btr (by with_reducible assumption) pB; clear HC pB)))
    go_wp2
    go_ret
    exact ⟨rfl, btr HA.out sB⟩
  · go_enter Tryd.func45, Tryd.ntmps45
    go_wp2_with fail
    have k0 : (w.alloc (.cells #[.int .i64 A, .int .i64 K] 56)).cell? ⟨w.heap.size, 0, none⟩ = some (.int .i64 A) := by go_simp
    have k1 : (w.alloc (.cells #[.int .i64 A, .int .i64 K] 56)).cell? ⟨w.heap.size, 1, none⟩ = some (.int .i64 K) := by go_simp
    have HA := Lib.hid (below_alloc w (.cells #[.int .i64 A, .int .i64 K] 56))
    generalize (w.alloc (.cells #[.int .i64 A, .int .i64 K] 56)) = U at *
    have u0 : Below U.heap.size U U := Below.refl _ U
    have MK := Lib.hid (show ∀ w', Below U.heap.size U w' → w'.cell? ⟨w.heap.size, 0, none⟩ = some (.int .i64 A) ∧ w'.cell? ⟨w.heap.size, 1, none⟩ = some (.int .i64 K) ∧ Below U.heap.size U w' from
      (fun w' h => ⟨(h.cell (p := ⟨w.heap.size, 0, none⟩) (blt k0)).trans k0, (h.cell (p := ⟨w.heap.size, 1, none⟩) (blt k0)).trans k1, h⟩))
    go_region_held3 (fun w' => w'.cell? ⟨w.heap.size, 0, none⟩ = some (.int .i64 A) ∧ w'.cell? ⟨w.heap.size, 1, none⟩ = some (.int .i64 K) ∧ Below U.heap.size U w')
      (first | with_reducible assumption | exact MK.out _ (by with_reducible assumption) | exact MK.out _ (below_drew (by with_reducible assumption)))
      ((first | (go_at_call 48; go_split_ands; with_reducible refine (HC.out _).mono ?_; rintro e wn ⟨rfl, pB⟩; have sB := btr (by with_reducible assumption) pB; clear HC pB)))
    go_wp2
    go_ret
    exact ⟨rfl, btr HA.out sB⟩
theorem isCut_c (A K : Int) (ha : isA A = true) (hk : okK K = true) (w : World) : Calls Tryd.prog 45 #[.agg #[.int .i64 A, .int .i64 K]] w fun x w' => x = .returned (.bool (decide (A % blk K = 0))) ∧ Below w.heap.size w w' := by
  refine isCut_at A K (cutI A K) rfl ha hk w _ ?_
  by_cases h : A % blk K = 0
  · exact .inl ⟨cut_self h, decide_eq_true h⟩
  · exact .inr ⟨by have : ¬ cutI A K = A := by unfold cutI; omega
                   simpa using this, decide_eq_false h⟩

end Go.Proofs.YtlmgdhhlflmghaaDoor
