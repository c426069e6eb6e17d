/- Sum. -/
import Derived.Test.YtjlpkndbnaknaaaGreatDoorO
namespace Go.Proofs.YtjlpkndbnaknaaaGreatDoor
open Go.RowKit Go.Shelf
attribute [local go_sem] Oper.semAt_some

theorem foldS_cons (st : Sta) (x : Blk) (xs : List Blk) : foldS st (x :: xs) = foldS (blockS st (bL x.t)) xs := by unfold foldS; rw [List.foldl_cons]
theorem foldS_range (p : ByteArray) : ∀ (n k : Nat) (st : Sta), 64 * (k + n) ≤ p.size → foldS st ((List.range' k n).map (blkAt p)) = mixS st n ((bL p).drop (64 * k))
  | 0, _, _, _ => rfl
  | n + 1, k, st, h => by
    rw [List.range'_succ, List.map_cons, foldS_cons, foldS_range p n (k + 1) _ (by omega), mixS, blkAt_t p k (by omega), bL_extract, List.drop_take, show 64 * k + 64 - 64 * k = 64 by omega, List.drop_drop, show 64 * k + 64 = 64 * (k + 1) by omega]
theorem foldS_part (p : ByteArray) (st : Sta) : foldS st (partB p) = mixS st (p.size / 64) (bL p) := by
  unfold partB
  rw [List.range_eq_range', foldS_range p _ 0 st (by omega), Nat.mul_zero, List.drop_zero]
theorem foldS_append (st : Sta) (xs ys : List Blk) : foldS st (xs ++ ys) = foldS (foldS st xs) ys := by unfold foldS; rw [List.foldl_append]
theorem foldS_all (s : ByteArray) : textS (foldS beg (blocksB s)) = sumL (bL s) := by
  rw [sumL_parts, bL_length]
  have e : blocksB s = partB (pt s 0) ++ partB (pt s 1) := by
    show (([] ++ partB (pt s 0)) ++ partB (pt s 1)) = _
    rw [List.nil_append]
  have h0 : bL (pt s 0) = (bL s).take (wholeN s.size) := by
    show bL (s.extract 0 (wholeN s.size)) = _
    rw [bL_extract, List.drop_zero]
  have h1 : bL (pt s 1) = endL (bL s) := bL_ofL _ (endL_lt s)
  have h2 : (pt s 0).size = wholeN s.size := by
    rw [← bL_length, h0, List.length_take, bL_length]
    have := wholeN_le s.size
    omega
  have h3 : (pt s 1).size = (endL (bL s)).length := by rw [← bL_length, h1]
  rw [e, foldS_append, foldS_part, foldS_part, h0, h1, h2, h3]
theorem zero_at (w : World) : StaAt w.heap.size zeroS (w.alloc (.cells #[.int .u32 0, .int .u32 0, .int .u32 0, .int .u32 0, .int .u32 0, .int .u32 0, .int .u32 0, .int .u32 0] 60)) := ⟨by go_simp; rfl, by go_simp; rfl, by go_simp; rfl, by go_simp; rfl, by go_simp; rfl, by go_simp; rfl, by go_simp; rfl, by go_simp; rfl, by go_simp, by go_simp, by go_simp, by go_simp, by go_simp, by go_simp, by go_simp, by go_simp⟩
set_option maxRecDepth 100000 in
set_option maxHeartbeats 8000000 in
theorem Sum_c (s : ByteArray) (hs : s.size ≤ 100000) (w : World) (hT : Tabs w) : Calls Tryz.prog 17 #[.string s] w fun r w' => r = .returned (.string (ofL (sumL (bL s)))) ∧ Below w.heap.size w w' := by
  have hl1 := hT.lt1
  have hl2 := hT.lt2
  have HTx := Lib.hid (fun o => hT.on (below_alloc w o))
  have HM := Lib.hid (fun W hS hT' => mix_c w.heap.size s hs W hS hT' (by omega) (by omega))
  have HX := Lib.hid (fun st W h => text_c w.heap.size st W h)
  have HF := Lib.hid (foldS_all s)
  clear hT
  go_enter Tryz.func17, Tryz.ntmps17
  go_wp2_with fail
  have hZ := zero_at w
  refine (HM.out _ hZ (HTx.out _)).mono ?_
  rintro e w1 ⟨⟨v, rfl⟩, hS1, hg1⟩
  have hb1 := Lib.hid (show Below w.heap.size w w1 from (below_alloc w (.cells #[.int .u32 0, .int .u32 0, .int .u32 0, .int .u32 0, .int .u32 0, .int .u32 0, .int .u32 0, .int .u32 0] 60)).grown hg1 (by simp) (fun j hj => by cases hj; exact Nat.le_refl _))
  have hZs := Lib.hid hS1
  clear hg1 hZ hS1
  go_wp2_with fail
  refine (HX.out _ _ hZs.out).mono ?_
  rintro e w2 ⟨rfl, hb2⟩
  rw [HF.out]
  go_wp2
  go_ret
  exact ⟨rfl, btr hb1.out hb2⟩
end Go.Proofs.YtjlpkndbnaknaaaGreatDoor
