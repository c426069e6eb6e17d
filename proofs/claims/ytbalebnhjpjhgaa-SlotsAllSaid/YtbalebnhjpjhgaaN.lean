/- isPlace, isUsed, isYoung. -/
import Derived.Test.YtbalebnhjpjhgaaM
namespace Go.Proofs.Ytbalebnhjpjhgaa
open Go.RowKit

set_option maxRecDepth 100000 in
set_option maxHeartbeats 1000000 in
theorem place_any (s1 s3 : Value) (a2 : Option Addr) (c2 L : Nat) (p g : Int) (w : World) :
    Calls Try.prog 34 #[.agg #[s1, .slice a2 L c2, s3], .agg #[.int .i64 p, .int .i64 g]] w fun e w' => e = .returned (.bool (decide (0 ≤ p ∧ p < L))) ∧ Below w.heap.size w w' := by
  obtain ⟨b, hb⟩ : ∃ b, b = decide (0 ≤ p ∧ p < (L : Int)) := ⟨_, rfl⟩
  rw [← hb]
  have HB := Lib.hid hb
  clear hb
  by_cases h0 : p < 0
  · go_enter Try.func34, Try.ntmps34
    go_wp2
    go_ret
    exact ⟨ret_bool (by rw [HB.out, decide_eq_false (by omega)]), ((Below.refl _ _).alloc (Nat.le_refl _) _).alloc (by simp) _⟩
  have h0' : 0 ≤ p := by omega
  by_cases h1 : p < (L : Int)
  · go_enter Try.func34, Try.ntmps34
    go_wp2
    go_ret
    exact ⟨ret_bool (by rw [HB.out, decide_eq_true (by omega)]), ((Below.refl _ _).alloc (Nat.le_refl _) _).alloc (by simp) _⟩
  · go_enter Try.func34, Try.ntmps34
    go_wp2
    go_ret
    exact ⟨ret_bool (by rw [HB.out, decide_eq_false (by omega)]), ((Below.refl _ _).alloc (Nat.le_refl _) _).alloc (by simp) _⟩

set_option maxRecDepth 100000 in
set_option maxHeartbeats 1000000 in
theorem used_any (s1 s3 : Value) (a2 : Option Addr) (c2 L k : Nat) (us : List Bool) (x : Bool) (hL : us.length = L) (g : Int) (hx : us[k]? = some x) (w : World) (hU : BoolsAt w.heap.size w a2 us) :
    Calls Try.prog 35 #[.agg #[s1, .slice a2 L c2, s3], .agg #[.int .i64 k, .int .i64 g]] w fun e w' => e = .returned (.bool x) ∧ Below w.heap.size w w' := by
  obtain ⟨hk, hxe⟩ := List.getElem?_eq_some_iff.1 hx
  obtain ⟨b, off, rfl, hb, hc⟩ := hU k hk
  rw [hxe] at hc
  have hkL : (k : Int) < (L : Int) := by omega
  have hkn : k < L := by omega
  clear hU hxe hx hL hk
  go_enter Try.func35, Try.ntmps35
  go_wp2
  go_ret
  exact ⟨rfl, ((Below.refl _ _).alloc (Nat.le_refl _) _).alloc (by simp) _⟩

set_option maxRecDepth 100000 in
set_option maxHeartbeats 4000000 in
theorem young_yes (a1 : Option Addr) (s2 s3 : Value) (c1 L k : Nat) (gs : List Int) (x g : Int) (hL : gs.length = L) (hx : gs[k]? = some x) (w : World) (hI : IntsAt w.heap.size w a1 gs) (hxg : x = g) :
    Calls Try.prog 36 #[.agg #[.slice a1 L c1, s2, s3], .agg #[.int .i64 k, .int .i64 g]] w fun e w' => e = .returned (.bool true) ∧ Below w.heap.size w w' := by
  have hgx : g = x := hxg.symm
  subst hgx
  have G := Lib.hid (fun W hW => handle_any a1 s2 s3 c1 L gs hL k g hx W hW)
  have HI := Lib.hid hI
  clear hI hL hx
  go_enter Try.func36, Try.ntmps36
  go_wp2_with fail
  obtain ⟨V, hV⟩ : ∃ V, V = ((w.alloc (.cells #[.slice a1 L c1, s2, s3] 47)).alloc (.cells #[.int .i64 k, .int .i64 g] 27)) := ⟨_, rfl⟩
  have k0 : V.cell? ⟨w.heap.size, 0, none⟩ = some (.slice a1 L c1) := by rw [hV]; go_simp
  have k1 : V.cell? ⟨w.heap.size, 1, none⟩ = some s2 := by rw [hV]; go_simp
  have k2 : V.cell? ⟨w.heap.size, 2, none⟩ = some s3 := by rw [hV]; go_simp
  have k3 : V.cell? ⟨w.heap.size + 1, 0, none⟩ = some (.int .i64 k) := by rw [hV]; go_simp
  have k4 : V.cell? ⟨w.heap.size + 1, 1, none⟩ = some (.int .i64 g) := by rw [hV]; go_simp
  have hB : Below w.heap.size w V := by rw [hV]; exact ((Below.refl _ _).alloc (Nat.le_refl _) _).alloc (by simp) _
  rw [← hV]
  have hz : V.heap.size = w.heap.size + 2 := by rw [hV]; simp
  have hI : IntsAt V.heap.size V a1 gs := (HI.out.below hB).mono hB.size
  have h1V : w.heap.size + 1 < V.heap.size := by omega
  have h0V : w.heap.size < V.heap.size := by omega
  have hUU : Below w.heap.size V V := Below.refl _ _
  clear hV
  go_region_held3 (fun w' => w'.cell? ⟨w.heap.size, 0, none⟩ = some (.slice a1 L c1) ∧ w'.cell? ⟨w.heap.size, 1, none⟩ = some s2 ∧ w'.cell? ⟨w.heap.size, 2, none⟩ = some s3 ∧ w'.cell? ⟨w.heap.size + 1, 0, none⟩ = some (.int .i64 k) ∧ w'.cell? ⟨w.heap.size + 1, 1, none⟩ = some (.int .i64 g) ∧ Below w.heap.size V w')
    (first | with_reducible assumption | (go_split_ands; (try dsimp only); first
      | with_reducible exact ⟨(by with_reducible assumption), (by with_reducible assumption), (by with_reducible assumption), (by with_reducible assumption), (by with_reducible assumption), (by with_reducible assumption)⟩
      | exact ⟨k0, k1, k2, k3, k4, below_drew hUU⟩))
    ((first
      | (go_at_call 40; refine (G.out _ ?_).mono ?_; exact hI; rintro e w4 ⟨rfl, pB⟩; have s0 := (pB.cell (p := ⟨w.heap.size, 0, none⟩) h0V).trans k0; have s1 := (pB.cell (p := ⟨w.heap.size, 1, none⟩) h0V).trans k1; have s2 := (pB.cell (p := ⟨w.heap.size, 2, none⟩) h0V).trans k2; have s3 := (pB.cell (p := ⟨w.heap.size + 1, 0, none⟩) h1V).trans k3; have s4 := (pB.cell (p := ⟨w.heap.size + 1, 1, none⟩) h1V).trans k4; have sB : Below w.heap.size V w4 := ⟨pB.os, pB.tape, pB.output, pB.size, fun i hi => pB.block i (Nat.lt_trans hi h0V)⟩; clear pB)))
  go_wp2
  go_ret
  exact ⟨rfl, hB.trans sB⟩

set_option maxRecDepth 100000 in
set_option maxHeartbeats 4000000 in
theorem young_no (a1 : Option Addr) (s2 s3 : Value) (c1 L k : Nat) (gs : List Int) (x g : Int) (hL : gs.length = L) (hx : gs[k]? = some x) (w : World) (hI : IntsAt w.heap.size w a1 gs) (hxg : ¬ x = g) :
    Calls Try.prog 36 #[.agg #[.slice a1 L c1, s2, s3], .agg #[.int .i64 k, .int .i64 g]] w fun e w' => e = .returned (.bool false) ∧ Below w.heap.size w w' := by
  have G := Lib.hid (fun W hW => handle_any a1 s2 s3 c1 L gs hL k x hx W hW)
  have HI := Lib.hid hI
  clear hI hL hx
  go_enter Try.func36, Try.ntmps36
  go_wp2_with fail
  obtain ⟨V, hV⟩ : ∃ V, V = ((w.alloc (.cells #[.slice a1 L c1, s2, s3] 47)).alloc (.cells #[.int .i64 k, .int .i64 g] 27)) := ⟨_, rfl⟩
  have k0 : V.cell? ⟨w.heap.size, 0, none⟩ = some (.slice a1 L c1) := by rw [hV]; go_simp
  have k1 : V.cell? ⟨w.heap.size, 1, none⟩ = some s2 := by rw [hV]; go_simp
  have k2 : V.cell? ⟨w.heap.size, 2, none⟩ = some s3 := by rw [hV]; go_simp
  have k3 : V.cell? ⟨w.heap.size + 1, 0, none⟩ = some (.int .i64 k) := by rw [hV]; go_simp
  have k4 : V.cell? ⟨w.heap.size + 1, 1, none⟩ = some (.int .i64 g) := by rw [hV]; go_simp
  have hB : Below w.heap.size w V := by rw [hV]; exact ((Below.refl _ _).alloc (Nat.le_refl _) _).alloc (by simp) _
  rw [← hV]
  have hz : V.heap.size = w.heap.size + 2 := by rw [hV]; simp
  have hI : IntsAt V.heap.size V a1 gs := (HI.out.below hB).mono hB.size
  have h1V : w.heap.size + 1 < V.heap.size := by omega
  have h0V : w.heap.size < V.heap.size := by omega
  have hUU : Below w.heap.size V V := Below.refl _ _
  clear hV
  go_region_held3 (fun w' => w'.cell? ⟨w.heap.size, 0, none⟩ = some (.slice a1 L c1) ∧ w'.cell? ⟨w.heap.size, 1, none⟩ = some s2 ∧ w'.cell? ⟨w.heap.size, 2, none⟩ = some s3 ∧ w'.cell? ⟨w.heap.size + 1, 0, none⟩ = some (.int .i64 k) ∧ w'.cell? ⟨w.heap.size + 1, 1, none⟩ = some (.int .i64 g) ∧ Below w.heap.size V w')
    (first | with_reducible assumption | (go_split_ands; (try dsimp only); first
      | with_reducible exact ⟨(by with_reducible assumption), (by with_reducible assumption), (by with_reducible assumption), (by with_reducible assumption), (by with_reducible assumption), (by with_reducible assumption)⟩
      | exact ⟨k0, k1, k2, k3, k4, below_drew hUU⟩))
    ((first
      | (go_at_call 40; refine (G.out _ ?_).mono ?_; exact hI; rintro e w4 ⟨rfl, pB⟩; have s0 := (pB.cell (p := ⟨w.heap.size, 0, none⟩) h0V).trans k0; have s1 := (pB.cell (p := ⟨w.heap.size, 1, none⟩) h0V).trans k1; have s2 := (pB.cell (p := ⟨w.heap.size, 2, none⟩) h0V).trans k2; have s3 := (pB.cell (p := ⟨w.heap.size + 1, 0, none⟩) h1V).trans k3; have s4 := (pB.cell (p := ⟨w.heap.size + 1, 1, none⟩) h1V).trans k4; have sB : Below w.heap.size V w4 := ⟨pB.os, pB.tape, pB.output, pB.size, fun i hi => pB.block i (Nat.lt_trans hi h0V)⟩; clear pB)))
  go_wp2
  go_ret
  exact ⟨rfl, hB.trans sB⟩

theorem young_any (a1 : Option Addr) (s2 s3 : Value) (c1 L k : Nat) (gs : List Int) (x g : Int) (hL : gs.length = L) (hx : gs[k]? = some x) (w : World) (hI : IntsAt w.heap.size w a1 gs) :
    Calls Try.prog 36 #[.agg #[.slice a1 L c1, s2, s3], .agg #[.int .i64 k, .int .i64 g]] w fun e w' => e = .returned (.bool (decide (x = g))) ∧ Below w.heap.size w w' := by
  by_cases h : x = g
  · rw [decide_eq_true h]; exact young_yes a1 s2 s3 c1 L k gs x g hL hx w hI h
  · rw [decide_eq_false h]; exact young_no a1 s2 s3 c1 L k gs x g hL hx w hI h
end Go.Proofs.Ytbalebnhjpjhgaa
