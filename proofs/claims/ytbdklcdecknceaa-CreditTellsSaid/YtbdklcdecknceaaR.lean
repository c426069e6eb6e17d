/- wicketgatelaw13.CreditTells: the walk. -/
import Derived.Test.YtbdklcdecknceaaQ
namespace Go.Proofs.Ytbdklcdecknceaa
open Go.RowKit

/-- What Left answers. -/
def leftR (g s : Int) : Int := if rightB g s = true then g - s else 0
theorem left2_r (g s : Int) (w : World) : Calls Try.prog 15 #[.agg #[.int .i64 g, .int .i64 s]] w fun e w' => e = .returned (.int .i64 (leftR g s)) ∧ Below w.heap.size w w' := left2_any g s w
theorem refLeft_r (g s : Int) (w : World) : Calls Try.prog 16 #[.agg #[.int .i64 g, .int .i64 s]] w fun e w' => e = .returned (.int .i64 (leftR g s)) ∧ Below w.heap.size w w' := refLeft_any g s w

theorem six_held {f : Nat} {args : Array Value} {r : Ending} {U W : World} {b1 b2 b3 : Nat} {x0 x1 y0 y1 z0 z1 : Value} (k : Calls Try.prog f args W fun e w' => e = r ∧ Below W.heap.size W w') (l1 : b1 < U.heap.size) (l2 : b2 < U.heap.size) (l3 : b3 < U.heap.size)
    (h0 : W.cell? ⟨b1, 0, none⟩ = some x0) (h1 : W.cell? ⟨b1, 1, none⟩ = some x1) (h2 : W.cell? ⟨b2, 0, none⟩ = some y0) (h3 : W.cell? ⟨b2, 1, none⟩ = some y1) (h4 : W.cell? ⟨b3, 0, none⟩ = some z0) (h5 : W.cell? ⟨b3, 1, none⟩ = some z1) (h : Below U.heap.size U W) :
    Calls Try.prog f args W fun e w' => e = r ∧ w'.cell? ⟨b1, 0, none⟩ = some x0 ∧ w'.cell? ⟨b1, 1, none⟩ = some x1 ∧ w'.cell? ⟨b2, 0, none⟩ = some y0 ∧ w'.cell? ⟨b2, 1, none⟩ = some y1 ∧ w'.cell? ⟨b3, 0, none⟩ = some z0 ∧ w'.cell? ⟨b3, 1, none⟩ = some z1 ∧ Below U.heap.size U w' := by
  refine k.mono fun e w' ⟨he, hb⟩ => ?_
  have hk := hb.mono h.size
  exact ⟨he, (hk.cell (p := ⟨b1, 0, none⟩) l1).trans h0, (hk.cell (p := ⟨b1, 1, none⟩) l1).trans h1, (hk.cell (p := ⟨b2, 0, none⟩) l2).trans h2, (hk.cell (p := ⟨b2, 1, none⟩) l2).trans h3, (hk.cell (p := ⟨b3, 0, none⟩) l3).trans h4, (hk.cell (p := ⟨b3, 1, none⟩) l3).trans h5, h.trans hk⟩

theorem ints_in {w U W : World} {sv : Value} {zs : List Int} (hI : Ints w.heap.size w sv zs) (hU : Below w.heap.size w U) (hS : Below U.heap.size U W) : Ints W.heap.size W sv zs :=
  ((hI.below hU).below (hS.mono hU.size)).mono (Nat.le_trans hU.size hS.size)

set_option maxRecDepth 100000 in
set_option maxHeartbeats 4000000 in
theorem tells_walk (g s n : Int) (a : Option Addr) (len cap : Nat) (zs : List Int) (w : World) (_hn : -9223372036854775808 ≤ n) (_hn' : n ≤ 9223372036854775807) (hz' : zs.length = len) (_hz : ∀ x ∈ zs, -9223372036854775808 ≤ x ∧ x ≤ 9223372036854775807) (hlc : len ≤ cap) (hcm : cap ≤ maxLen) (hI : Ints w.heap.size w (.slice a len cap) zs) :
    Calls Try.prog 3 #[.agg #[.int .i64 g, .int .i64 s], .int .i64 n, .slice a len cap] w fun e w' => e = .returned (.bool true) ∧ Below w.heap.size w w' := by
  have hJ := Lib.hid (hI.few hz')
  have hlen : (fewOf zs).length ≤ 20 := by rw [fewOf_length]; omega
  have hreach : (fewOf zs).length * 8 ≤ 140737488351232 := by omega
  clear hI
  have H1 := Lib.hid hlen
  have H2 := Lib.hid hreach
  clear hlen hreach hz' _hz
  go_enter Try.func3, Try.ntmps3
  go_wp2_with fail
  refine (shown_any _).mono ?_; rintro e w1 ⟨rfl, hb1⟩; obtain ⟨hc1, hf1⟩ := bcell hb1; have hz1 := hb1.size
  try simp only [World.size_alloc] at hz1
  have hW1 : Below w.heap.size w w1 := ((Below.refl w.heap.size w).alloc (by have := (Below.refl w.heap.size w).size; (try simp only [World.size_alloc]); omega) _).trans (hb1.mono (by have := (Below.refl w.heap.size w).size; (try simp only [World.size_alloc]); omega))
  have lt_w_w1 : w.heap.size < w1.heap.size := by omega
  clear hb1
  go_wp2_with fail
  refine (few_any _ _ _ _ hlc hcm).mono ?_; rintro e wf ⟨rfl, rfl⟩
  go_wp2_with fail
  refine (New_any n _).mono ?_; rintro e w2 ⟨rfl, hb2⟩; obtain ⟨hc2, hf2⟩ := bcell hb2; have hz2 := hb2.size
  try simp only [World.size_alloc] at hz2
  have hW2 : Below w.heap.size w w2 := (hW1).trans (hb2.mono (by have := (hW1).size; (try simp only [World.size_alloc]); omega))
  have lt_w_w2 : w.heap.size < w2.heap.size := by omega
  clear hb2
  go_wp2_with fail
  refine (refNew_any n _).mono ?_; rintro e w3 ⟨rfl, hb3⟩; obtain ⟨hc3, hf3⟩ := bcell hb3; have hz3 := hb3.size
  try simp only [World.size_alloc] at hz3
  have hW3 : Below w.heap.size w w3 := ((hW2).alloc (by have := (hW2).size; (try simp only [World.size_alloc]); omega) _).trans (hb3.mono (by have := (hW2).size; (try simp only [World.size_alloc]); omega))
  have lt_w_w3 : w.heap.size < w3.heap.size := by omega
  have lt_w2_w3 : w2.heap.size < w3.heap.size := by omega
  clear hb3
  go_wp2_with fail
  have hU : Below w.heap.size w (w3.alloc (.cells #[.int .i64 (nG n), .int .i64 0] 23)) := hW3.alloc hW3.size _
  have c0 : (w3.alloc (.cells #[.int .i64 (nG n), .int .i64 0] 23)).cell? ⟨w.heap.size, 0, none⟩ = some (.int .i64 g) := by go_simp
  have c1 : (w3.alloc (.cells #[.int .i64 (nG n), .int .i64 0] 23)).cell? ⟨w.heap.size, 1, none⟩ = some (.int .i64 s) := by go_simp
  have c2 : (w3.alloc (.cells #[.int .i64 (nG n), .int .i64 0] 23)).cell? ⟨w2.heap.size, 0, none⟩ = some (.int .i64 (nG n)) := by go_simp
  have c3 : (w3.alloc (.cells #[.int .i64 (nG n), .int .i64 0] 23)).cell? ⟨w2.heap.size, 1, none⟩ = some (.int .i64 0) := by go_simp
  have c4 : (w3.alloc (.cells #[.int .i64 (nG n), .int .i64 0] 23)).cell? ⟨w3.heap.size, 0, none⟩ = some (.int .i64 (nG n)) := by go_simp
  have c5 : (w3.alloc (.cells #[.int .i64 (nG n), .int .i64 0] 23)).cell? ⟨w3.heap.size, 1, none⟩ = some (.int .i64 0) := by go_simp
  have u0 : w.heap.size < (w3.alloc (.cells #[.int .i64 (nG n), .int .i64 0] 23)).heap.size := by simp only [World.size_alloc]; omega
  have u2 : w2.heap.size < (w3.alloc (.cells #[.int .i64 (nG n), .int .i64 0] 23)).heap.size := by simp only [World.size_alloc]; omega
  have u3 : w3.heap.size < (w3.alloc (.cells #[.int .i64 (nG n), .int .i64 0] 23)).heap.size := by simp only [World.size_alloc]; omega
  generalize w3.alloc (.cells #[.int .i64 (nG n), .int .i64 0] 23) = U at *
  generalize w3.heap.size = B3 at *
  generalize w2.heap.size = B2 at *
  clear hc1 hf1 hc2 hf2 hc3 hf3 hz1 hz2 hz3 hW1 hW2 hW3 lt_w_w1 lt_w_w2 lt_w_w3 lt_w2_w3 hlc hcm
  have hS : Below U.heap.size U U := Below.refl _ _
  go_region_held3 (fun w' => w'.cell? ⟨w.heap.size, 0, none⟩ = some (.int .i64 g) ∧ w'.cell? ⟨w.heap.size, 1, none⟩ = some (.int .i64 s) ∧ w'.cell? ⟨B2, 0, none⟩ = some (.int .i64 (nG n)) ∧ w'.cell? ⟨B2, 1, none⟩ = some (.int .i64 0) ∧ w'.cell? ⟨B3, 0, none⟩ = some (.int .i64 (nG n)) ∧ w'.cell? ⟨B3, 1, none⟩ = some (.int .i64 0) ∧ Below U.heap.size U w')
    (first | assumption | ((try dsimp only); refine ⟨?_, ?_, ?_, ?_, ?_, ?_, ?_⟩ <;> first | assumption | (refine Below.drew ?_; assumption)) | go_keep)
    ((first
      | (go_at_call 13; go_split_ands; refine (six_held (right_any _ _ _) u0 u2 u3 (by assumption) (by assumption) (by assumption) (by assumption) (by assumption) (by assumption) (by assumption)).mono ?_; rintro e wr ⟨rfl, hk⟩)
      | (go_at_call 14; go_split_ands; refine (six_held (refRight_any _ _ _) u0 u2 u3 (by assumption) (by assumption) (by assumption) (by assumption) (by assumption) (by assumption) (by assumption)).mono ?_; rintro e wr ⟨rfl, hk⟩)
      | (go_at_call 15; go_split_ands; refine (six_held (left2_r _ _ _) u0 u2 u3 (by assumption) (by assumption) (by assumption) (by assumption) (by assumption) (by assumption) (by assumption)).mono ?_; rintro e wr ⟨rfl, hk⟩)
      | (go_at_call 16; go_split_ands; refine (six_held (refLeft_r _ _ _) u0 u2 u3 (by assumption) (by assumption) (by assumption) (by assumption) (by assumption) (by assumption) (by assumption)).mono ?_; rintro e wr ⟨rfl, hk⟩)
      | (go_at_call 17; go_split_ands; refine (six_held (Most_any _ _ _ _ _ (fewOf zs) H2.out _ (ints_in hJ.out hU (by assumption))) u0 u2 u3 (by assumption) (by assumption) (by assumption) (by assumption) (by assumption) (by assumption) (by assumption)).mono ?_; rintro e wr ⟨rfl, hk⟩)
      | (go_at_call 18; go_split_ands; refine (six_held (refMost_any _ _ _ _ _ (fewOf zs) H1.out _ (ints_in hJ.out hU (by assumption))) u0 u2 u3 (by assumption) (by assumption) (by assumption) (by assumption) (by assumption) (by assumption) (by assumption)).mono ?_; rintro e wr ⟨rfl, hk⟩)))
  go_wp2
  go_split_ands
  go_ret
  exact ⟨rfl, hU.trans (Below.mono (by assumption) hU.size)⟩
end Go.Proofs.Ytbdklcdecknceaa
