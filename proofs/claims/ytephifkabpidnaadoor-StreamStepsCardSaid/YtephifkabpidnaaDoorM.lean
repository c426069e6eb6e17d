/- Run, Least: by one contract each; few; shown. -/
import Derived.Test.YtephifkabpidnaaDoorL
namespace Go.Proofs.YtephifkabpidnaaDoor
open Go.RowKit Go.Shelf
attribute [local go_sem] Oper.semAt_some

def runS (s : Int) (l : List Int) : Int := if isSt s = true then run s l else 0
def runN (s : Int) (l : List Int) : Int := if isSt s = true then (cnt s l : Int) else 0
def runE (s : Int) : Int := if isSt s = true then 0 else 2
theorem run_c (s : Int) (a : Option Addr) (cap : Nat) (l : List Int) (hl : l.length ≤ 1000) (w : World) (hI : IntsAt w.heap.size w a l) :
    Calls Tryd.prog 14 #[.int .i64 s, .slice a l.length cap] w fun x w' => x = .returned (.tuple #[.int .i64 (runS s l), .int .i64 (runN s l), .int .i64 (runE s)]) ∧ Below w.heap.size w w' := by
  unfold runS runN runE
  cases hs : isSt s with
  | false => exact run_no s _ w hs
  | true => exact callsIn_wide.1 (run_in s a cap l hl w hs hI)
theorem reach_none {s : Int} (h : isSt s = false) : reach s = [] := by
  simp only [isSt, decide_eq_false_iff_not] at h
  unfold reach
  repeat (rw [if_neg (by omega)])
theorem least_c (s t : Int) (w : World) : Calls Tryd.prog 16 #[.int .i64 s, .int .i64 t] w fun x w' => x = .returned (.tuple #[.int .i64 (leastN s t), .bool (leastB s t)]) ∧ Below w.heap.size w w' := by
  cases hs : isSt s with
  | false => unfold leastN leastB; rw [reach_none hs]; exact least_no s t w hs
  | true => exact callsIn_wide.1 (least_in s t w hs)

theorem IntsAt.take {n : Nat} {W : World} {a : Option Addr} {zs : List Int} (h : IntsAt n W a zs) (k : Nat) : IntsAt n W a (zs.take k) := fun i hi => by
  obtain ⟨b, off, e, hb, hc⟩ := h i (by rw [List.length_take] at hi; omega)
  exact ⟨b, off, e, hb, by rw [List.getElem_take]; exact hc⟩
theorem few_c (a : Option Addr) (zs : List Int) (cap : Nat) (w : World) (h : zs.length ≤ cap) (hm : cap ≤ maxLen) :
    Calls Tryd.prog 11 #[.slice a zs.length cap] w fun e w' => e = .returned (.slice a (zs.take 20).length cap) ∧ w = w' := by
  unfold maxLen at hm
  rw [List.length_take]
  generalize zs.length = len at *
  by_cases h20 : 20 < len
  · rw [show min 20 len = 20 by omega]
    have d : decide ((20 : Int) < (len : Int)) = true := decide_eq_true (by omega)
    go_enter Tryd.func11, Tryd.ntmps11
    go_wp2
    go_ret
    exact ⟨rfl, rfl⟩
  · rw [show min 20 len = len by omega]
    have h3 : (len : Int) ≤ 20 := by omega
    go_enter Tryd.func11, Tryd.ntmps11
    go_wp2
    go_ret
    exact ⟨rfl, rfl⟩

set_option maxRecDepth 100000 in
set_option maxHeartbeats 2000000 in
theorem shown_c (w : World) (hL : Laid w) : Calls Tryd.prog 10 #[] w fun x w' => x = .returned (.bool true) ∧ Below w.heap.size w w' := by
  have HL := Lib.hid hL
  clear hL
  have r1 : runS 0 [1, 2, 4, 4] = 3 := by decide +kernel
  have r2 : runN 0 [1, 2, 4, 4] = 3 := by decide +kernel
  have r3 : runE 0 = 0 := by decide +kernel
  have r4 : nextE 7 1 = 2 := by decide +kernel
  have r5 : nextE 5 6 = 140 := by decide +kernel
  have r6 : leastN 0 5 = 4 := by decide +kernel
  have r7 : leastB 0 5 = true := by decide +kernel
  have r8 : inB 3 = false := by decide +kernel
  have r9 : outB 3 = true := by decide +kernel
  have HI : IntsAt (w.heap.size + 1) (w.alloc (.cells #[.int .i64 1, .int .i64 2, .int .i64 4, .int .i64 4] 3)) (some ⟨w.heap.size, 0, none⟩) [1, 2, 4, 4] := by
    intro i hi
    have : i = 0 ∨ i = 1 ∨ i = 2 ∨ i = 3 := by simp at hi; omega
    rcases this with rfl | rfl | rfl | rfl <;> exact ⟨w.heap.size, 0, rfl, by simp, by simp⟩
  go_enter Tryd.func10, Tryd.ntmps10
  go_wp2_with fail
  refine (run_c 0 (some ⟨w.heap.size, 0, none⟩) 4 [1, 2, 4, 4] (by decide) _ (by simpa using HI)).mono ?_; rintro e w1 ⟨rfl, hb1⟩
  have B1 := btr (bal (Below.refl w.heap.size w) _) hb1
  rw [r1, r2, r3]
  have L1 := Lib.hid (HL.out.on B1)
  have HB1 := Lib.hid B1
  clear B1 hb1 HI
  go_wp2_with fail
  refine (next_c _ _ _ L1.out).mono ?_; rintro e w2 ⟨rfl, hb2⟩
  rw [r4]
  have L2 := Lib.hid (L1.out.on hb2)
  have HB2 := Lib.hid (btr HB1.out hb2)
  clear hb2
  go_wp2_with fail
  refine (next_c _ _ _ L2.out).mono ?_; rintro e w3 ⟨rfl, hb3⟩
  rw [r5]
  have HB3 := Lib.hid (btr HB2.out hb3)
  clear hb3
  go_wp2_with fail
  refine (least_c _ _ _).mono ?_; rintro e w4 ⟨rfl, hb4⟩
  rw [r6, r7]
  have HB4 := Lib.hid (btr HB3.out hb4)
  clear hb4
  go_wp2_with (first | (go_at_call 18; refine (in_c _ _).mono ?_; rintro e w5 ⟨rfl, rfl⟩; rw [r8]) | (go_at_call 20; refine (out_c _ _).mono ?_; rintro e w5 ⟨rfl, rfl⟩; rw [r9]))
  go_ret
  exact ⟨rfl, HB4.out⟩
end Go.Proofs.YtephifkabpidnaaDoor
