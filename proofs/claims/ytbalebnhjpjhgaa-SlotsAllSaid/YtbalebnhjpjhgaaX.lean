/- wicketgatelaw09.shown: true. -/
import Derived.Test.YtbalebnhjpjhgaaW
namespace Go.Proofs.Ytbalebnhjpjhgaa
open Go.RowKit

theorem bal {a W : World} (h : Below a.heap.size a W) (o : Obj) : Below a.heap.size a (W.alloc o) := h.alloc h.size o
theorem btr {a W W' : World} (h : Below a.heap.size a W) (k : Below W.heap.size W W') : Below a.heap.size a W' := h.trans (k.mono h.size)
instance : DecidableEq Sl := fun a b => decidable_of_iff (a.g = b.g ∧ a.u = b.u ∧ a.f = b.f) (by cases a; cases b; simp)
theorem OwnH.slice {base : Nat} {w : World} {v : Value} {l : List (Int × Int)} (h : OwnH base w v l) : ∃ cap a, v = .slice a l.length cap := by
  rcases h.2 with ⟨rfl, hn⟩ | ⟨g, cap, cur, rfl, _⟩
  · exact ⟨0, none, by rw [hn]⟩
  · exact ⟨cap, _, rfl⟩
def x1 : Sl := ⟨[0, 0], [false, false], [1, 0]⟩
def x2 : Sl := ⟨[1, 0], [true, false], [1]⟩
def x3 : Sl := ⟨[1, 1], [true, true], []⟩
def x4 : Sl := ⟨[1, 1], [false, true], [0]⟩
def x5 : Sl := ⟨[2, 1], [true, true], []⟩

set_option maxRecDepth 100000 in
set_option maxHeartbeats 4000000 in
theorem shown_any (w : World) :
    Calls Try.prog 9 #[] w fun e w' => e = .returned (.bool true) ∧ Below w.heap.size w w' := by
  have n1 : newE 2 = (x1, 0) := by decide +kernel
  have n2 : x1.take = (x2, (0, 1), 0) := by decide +kernel
  have n3 : x2.take = (x3, (1, 1), 0) := by decide +kernel
  have n4 : x3.give (0, 1) = (x4, 0) := by decide +kernel
  have n5 : x4.take = (x5, (0, 2), 0) := by decide +kernel
  have n6 : x5.take = (nilS, (0, 0), 92) := by decide +kernel
  have n7 : x5.give (0, 1) = (nilS, 91) := by decide +kernel
  have n8 : x5.all.length = 2 := by decide +kernel
  go_enter Try.func9, Try.ntmps9
  go_wp2_with fail
  refine (new_to 2 x1 0 n1 2 2 2 rfl rfl rfl w).mono ?_; rintro e w1 ⟨a1, b1, c1, d1, f1, g1, rfl, hS, hb⟩
  obtain ⟨hc1, hf1⟩ := bcell hb; have hz1 := hb.size; (try simp only [World.size_alloc] at hz1)
  have HB_w_w1 := Lib.hid (btr (Below.refl w.heap.size w) hb)
  clear hb
  have S1 := Lib.hid hS
  clear hS
  go_wp2_with fail
  refine (take_to _ _ _ _ _ _ 2 2 2 x1 rfl rfl rfl x2 0 1 0 n2 2 2 1 rfl rfl rfl _ (S1.out.on (bal (Below.refl w1.heap.size w1) _))).mono ?_; rintro e w2 ⟨a2, b2, c2, d2, f2, g2, rfl, hS, _, hb⟩
  obtain ⟨hc2, hf2⟩ := bcell hb; have hz2 := hb.size; (try simp only [World.size_alloc] at hz2)
  have HB_w_w2 := Lib.hid (btr (bal (HB_w_w1.out) _) hb)
  have HB_w1_w2 := Lib.hid (btr (bal (Below.refl w1.heap.size w1) _) hb)
  have lt0_w2 : w1.heap.size < w2.heap.size := by omega
  clear hb
  have S2 := Lib.hid hS
  clear hS
  go_wp2_with fail
  refine (take_to _ _ _ _ _ _ 2 2 1 x2 rfl rfl rfl x3 1 1 0 n3 2 2 0 rfl rfl rfl _ (S2.out.on (bal (bal (Below.refl w2.heap.size w2) _) _))).mono ?_; rintro e w3 ⟨a3, b3, c3, d3, f3, g3, rfl, hS, _, hb⟩
  obtain ⟨hc3, hf3⟩ := bcell hb; have hz3 := hb.size; (try simp only [World.size_alloc] at hz3)
  have HB_w_w3 := Lib.hid (btr (bal (bal (HB_w_w2.out) _) _) hb)
  have HB_w1_w3 := Lib.hid (btr (bal (bal (HB_w1_w2.out) _) _) hb)
  have HB_w2_w3 := Lib.hid (btr (bal (bal (Below.refl w2.heap.size w2) _) _) hb)
  have lt0_w3 : w1.heap.size < w3.heap.size := by omega
  have lt1_w3 : w2.heap.size < w3.heap.size := by omega
  have lt2_w3 : w2.heap.size + 1 < w3.heap.size := by omega
  clear hb
  have S3 := Lib.hid hS
  clear hS
  go_wp2_with fail
  refine (give_to _ _ _ _ _ _ 2 2 0 x3 rfl rfl rfl 0 1 x4 0 n4 2 2 1 rfl rfl rfl _ (S3.out.on (bal (bal (Below.refl w3.heap.size w3) _) _))).mono ?_; rintro e w4 ⟨a4, b4, c4, d4, f4, g4, rfl, hS, hb⟩
  obtain ⟨hc4, hf4⟩ := bcell hb; have hz4 := hb.size; (try simp only [World.size_alloc] at hz4)
  have HB_w_w4 := Lib.hid (btr (bal (bal (HB_w_w3.out) _) _) hb)
  have HB_w1_w4 := Lib.hid (btr (bal (bal (HB_w1_w3.out) _) _) hb)
  have HB_w2_w4 := Lib.hid (btr (bal (bal (HB_w2_w3.out) _) _) hb)
  have HB_w3_w4 := Lib.hid (btr (bal (bal (Below.refl w3.heap.size w3) _) _) hb)
  have lt0_w4 : w1.heap.size < w4.heap.size := by omega
  have lt1_w4 : w2.heap.size < w4.heap.size := by omega
  have lt2_w4 : w2.heap.size + 1 < w4.heap.size := by omega
  have lt3_w4 : w3.heap.size < w4.heap.size := by omega
  have lt4_w4 : w3.heap.size + 1 < w4.heap.size := by omega
  clear hb
  have S4 := Lib.hid hS
  clear hS
  go_wp2_with fail
  refine (take_to _ _ _ _ _ _ 2 2 1 x4 rfl rfl rfl x5 0 2 0 n5 2 2 0 rfl rfl rfl _ (S4.out.on (bal (Below.refl w4.heap.size w4) _))).mono ?_; rintro e w5 ⟨a5, b5, c5, d5, f5, g5, rfl, hS, _, hb⟩
  obtain ⟨hc5, hf5⟩ := bcell hb; have hz5 := hb.size; (try simp only [World.size_alloc] at hz5)
  have HB_w_w5 := Lib.hid (btr (bal (HB_w_w4.out) _) hb)
  have HB_w1_w5 := Lib.hid (btr (bal (HB_w1_w4.out) _) hb)
  have HB_w2_w5 := Lib.hid (btr (bal (HB_w2_w4.out) _) hb)
  have HB_w3_w5 := Lib.hid (btr (bal (HB_w3_w4.out) _) hb)
  have HB_w4_w5 := Lib.hid (btr (bal (Below.refl w4.heap.size w4) _) hb)
  have lt0_w5 : w1.heap.size < w5.heap.size := by omega
  have lt1_w5 : w2.heap.size < w5.heap.size := by omega
  have lt2_w5 : w2.heap.size + 1 < w5.heap.size := by omega
  have lt3_w5 : w3.heap.size < w5.heap.size := by omega
  have lt4_w5 : w3.heap.size + 1 < w5.heap.size := by omega
  have lt5_w5 : w4.heap.size < w5.heap.size := by omega
  clear hb
  have S5 := Lib.hid hS
  clear hS
  go_wp2_with fail
  refine (take_to _ _ _ _ _ _ 2 2 0 x5 rfl rfl rfl nilS 0 0 92 n6 0 0 0 rfl rfl rfl _ (S5.out.on (bal (bal (Below.refl w5.heap.size w5) _) _))).mono ?_; rintro e w6 ⟨a6, b6, c6, d6, f6, g6, rfl, hS, _, hb⟩
  obtain ⟨hc6, hf6⟩ := bcell hb; have hz6 := hb.size; (try simp only [World.size_alloc] at hz6)
  have HB_w_w6 := Lib.hid (btr (bal (bal (HB_w_w5.out) _) _) hb)
  have HB_w1_w6 := Lib.hid (btr (bal (bal (HB_w1_w5.out) _) _) hb)
  have HB_w2_w6 := Lib.hid (btr (bal (bal (HB_w2_w5.out) _) _) hb)
  have HB_w3_w6 := Lib.hid (btr (bal (bal (HB_w3_w5.out) _) _) hb)
  have HB_w4_w6 := Lib.hid (btr (bal (bal (HB_w4_w5.out) _) _) hb)
  have HB_w5_w6 := Lib.hid (btr (bal (bal (Below.refl w5.heap.size w5) _) _) hb)
  have lt0_w6 : w1.heap.size < w6.heap.size := by omega
  have lt1_w6 : w2.heap.size < w6.heap.size := by omega
  have lt2_w6 : w2.heap.size + 1 < w6.heap.size := by omega
  have lt3_w6 : w3.heap.size < w6.heap.size := by omega
  have lt4_w6 : w3.heap.size + 1 < w6.heap.size := by omega
  have lt5_w6 : w4.heap.size < w6.heap.size := by omega
  have lt6_w6 : w5.heap.size < w6.heap.size := by omega
  have lt7_w6 : w5.heap.size + 1 < w6.heap.size := by omega
  clear hb
  clear hS
  have k0 : w6.cell? ⟨w5.heap.size, 0, none⟩ = some (.slice a5 2 d5) := (hc6 _ _ (by simp; omega)).trans (keep_alloc _ ((World.cell?_alloc_new w5 _ _ 0).trans rfl))
  have k1 : w6.cell? ⟨w5.heap.size, 1, none⟩ = some (.slice b5 2 f5) := (hc6 _ _ (by simp; omega)).trans (keep_alloc _ ((World.cell?_alloc_new w5 _ _ 1).trans rfl))
  have k2 : w6.cell? ⟨w5.heap.size, 2, none⟩ = some (.slice c5 0 g5) := (hc6 _ _ (by simp; omega)).trans (keep_alloc _ ((World.cell?_alloc_new w5 _ _ 2).trans rfl))
  go_wp2_with fail
  refine (give_to _ _ _ _ _ _ 2 2 0 x5 rfl rfl rfl 0 1 nilS 91 n7 0 0 0 rfl rfl rfl _ (S5.out.on (bal (bal (HB_w5_w6.out) _) _))).mono ?_; rintro e w7 ⟨a7, b7, c7, d7, f7, g7, rfl, hS, hb⟩
  obtain ⟨hc7, hf7⟩ := bcell hb; have hz7 := hb.size; (try simp only [World.size_alloc] at hz7)
  have HB_w_w7 := Lib.hid (btr (bal (bal (HB_w_w6.out) _) _) hb)
  have HB_w1_w7 := Lib.hid (btr (bal (bal (HB_w1_w6.out) _) _) hb)
  have HB_w2_w7 := Lib.hid (btr (bal (bal (HB_w2_w6.out) _) _) hb)
  have HB_w3_w7 := Lib.hid (btr (bal (bal (HB_w3_w6.out) _) _) hb)
  have HB_w4_w7 := Lib.hid (btr (bal (bal (HB_w4_w6.out) _) _) hb)
  have HB_w5_w7 := Lib.hid (btr (bal (bal (HB_w5_w6.out) _) _) hb)
  have HB_w6_w7 := Lib.hid (btr (bal (bal (Below.refl w6.heap.size w6) _) _) hb)
  have lt0_w7 : w1.heap.size < w7.heap.size := by omega
  have lt1_w7 : w2.heap.size < w7.heap.size := by omega
  have lt2_w7 : w2.heap.size + 1 < w7.heap.size := by omega
  have lt3_w7 : w3.heap.size < w7.heap.size := by omega
  have lt4_w7 : w3.heap.size + 1 < w7.heap.size := by omega
  have lt5_w7 : w4.heap.size < w7.heap.size := by omega
  have lt6_w7 : w5.heap.size < w7.heap.size := by omega
  have lt7_w7 : w5.heap.size + 1 < w7.heap.size := by omega
  have lt8_w7 : w6.heap.size < w7.heap.size := by omega
  have lt9_w7 : w6.heap.size + 1 < w7.heap.size := by omega
  clear hb
  clear hS
  have m0 := (hc7 _ _ (by simp; omega)).trans (keep_alloc _ (keep_alloc _ k0))
  have m1 := (hc7 _ _ (by simp; omega)).trans (keep_alloc _ (keep_alloc _ k1))
  have m2 := (hc7 _ _ (by simp; omega)).trans (keep_alloc _ (keep_alloc _ k2))
  go_wp2_with fail
  refine (all_any _ _ _ _ _ _ 2 2 0 x5 rfl rfl rfl _ (S5.out.on (bal (HB_w5_w7.out) _))).mono ?_; rintro e w8 ⟨v, rfl, ho, hb⟩
  obtain ⟨hc8, hf8⟩ := bcell hb; have hz8 := hb.size; (try simp only [World.size_alloc] at hz8)
  have HB_w_w8 := Lib.hid (btr (bal (HB_w_w7.out) _) hb)
  have HB_w1_w8 := Lib.hid (btr (bal (HB_w1_w7.out) _) hb)
  have HB_w2_w8 := Lib.hid (btr (bal (HB_w2_w7.out) _) hb)
  have HB_w3_w8 := Lib.hid (btr (bal (HB_w3_w7.out) _) hb)
  have HB_w4_w8 := Lib.hid (btr (bal (HB_w4_w7.out) _) hb)
  have HB_w5_w8 := Lib.hid (btr (bal (HB_w5_w7.out) _) hb)
  have HB_w6_w8 := Lib.hid (btr (bal (HB_w6_w7.out) _) hb)
  have HB_w7_w8 := Lib.hid (btr (bal (Below.refl w7.heap.size w7) _) hb)
  have lt0_w8 : w1.heap.size < w8.heap.size := by omega
  have lt1_w8 : w2.heap.size < w8.heap.size := by omega
  have lt2_w8 : w2.heap.size + 1 < w8.heap.size := by omega
  have lt3_w8 : w3.heap.size < w8.heap.size := by omega
  have lt4_w8 : w3.heap.size + 1 < w8.heap.size := by omega
  have lt5_w8 : w4.heap.size < w8.heap.size := by omega
  have lt6_w8 : w5.heap.size < w8.heap.size := by omega
  have lt7_w8 : w5.heap.size + 1 < w8.heap.size := by omega
  have lt8_w8 : w6.heap.size < w8.heap.size := by omega
  have lt9_w8 : w6.heap.size + 1 < w8.heap.size := by omega
  have lt10_w8 : w7.heap.size < w8.heap.size := by omega
  clear hb
  obtain ⟨cap, hv⟩ := ho.slice
  rw [n8] at hv
  obtain ⟨av, rfl⟩ := hv
  clear ho
  go_wp2
  go_ret
  exact ⟨rfl, HB_w_w8.out⟩
end Go.Proofs.Ytbalebnhjpjhgaa
