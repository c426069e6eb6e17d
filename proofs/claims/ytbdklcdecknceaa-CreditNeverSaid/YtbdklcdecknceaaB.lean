/- credit.Right: in whatever order its rules are met. -/
import Derived.Test.YtbdklcdecknceaaA
namespace Go.Proofs.Ytbdklcdecknceaa
open Go.RowKit
open Go.WideMaps (string_law)

/-- The rule that an element is. -/
def fnOf (c : Int) : Value := if c = 31 then .func (.func 31) #[] #[] else .func (.func 32) #[] #[]
theorem fnElem_inv (v : Value) (y : DataW Unit × List MemPlace) (h : fnElem v = some y) : ∃ c : Int, v = fnOf c := by
  unfold fnElem at h
  split at h
  · rename_i f a c
    by_cases h1 : a.size = 0
    · by_cases h2 : c.size = 0
      · obtain rfl := Array.eq_empty_of_size_eq_zero h1
        obtain rfl := Array.eq_empty_of_size_eq_zero h2
        by_cases h3 : f = 31
        · subst h3; exact ⟨31, rfl⟩
        · by_cases h4 : f = 32
          · subst h4; exact ⟨32, rfl⟩
          · simp [h3, h4] at h
      · simp [h2] at h
    · simp [h1] at h
  · cases h

theorem str_inv (key : Value) (kl : Lit) (h : keyOf Try.prog 9 key = some kl) : ∃ s : ByteArray, key = .string s := by
  obtain ⟨s, e, _, _⟩ := Go.WideMaps.string_of_keyOf Try.underlying9 h
  exact ⟨s, e⟩

theorem at_bounds (z : DataW Unit) : rulesD.atKey kBounds z = .lit (.int .i64 31) := rfl
theorem at_window (z : DataW Unit) : rulesD.atKey kWindow z = .lit (.int .i64 32) := rfl
theorem same_bounds {kl : Lit} (h : kBounds.sameKey kl = true) : kl = kBounds := (WideAt.sameKey_eq h).symm
theorem same_window {kl : Lit} (h : kWindow.sameKey kl = true) : kl = kWindow := (WideAt.sameKey_eq h).symm

/-- What has been asked of the two rules. -/
def Asked (g s : Int) (left : Lit → Bool) : Prop := (left kBounds = false → bndB g s = true) ∧ (left kWindow = false → winB g s = true)
theorem asked_start (g s : Int) : Asked g s (Maps.has rulesD) := ⟨fun h => (by cases h), fun h => (by cases h)⟩
theorem asked_end {g s : Int} {left : Lit → Bool} (h : Asked g s left) (h0 : ∀ kl, left kl = false) : true = rightB g s := by
  unfold rightB; rw [h.1 (h0 _), h.2 (h0 _)]; rfl
theorem asked_bounds {g s : Int} {left : Lit → Bool} (h : Asked g s left) {kl : Lit} (hb : bndB g s = true) (hat : ∀ z, rulesD.atKey kl z = .lit (.int .i64 31)) : Asked g s (fun z => left z && !z.sameKey kl) := by
  refine ⟨fun _ => hb, fun h1 => ?_⟩
  rcases Bool.and_eq_false_iff.1 h1 with h2 | h2
  · exact h.2 h2
  · have e := same_window (by simpa using h2)
    subst e
    have := hat (.lit (.int .i64 0))
    rw [at_window] at this
    cases this
theorem asked_window {g s : Int} {left : Lit → Bool} (h : Asked g s left) {kl : Lit} (hb : winB g s = true) (hat : ∀ z, rulesD.atKey kl z = .lit (.int .i64 32)) : Asked g s (fun z => left z && !z.sameKey kl) := by
  refine ⟨fun h1 => ?_, fun _ => hb⟩
  rcases Bool.and_eq_false_iff.1 h1 with h2 | h2
  · exact h.1 h2
  · have e := same_bounds (by simpa using h2)
    subst e
    have := hat (.lit (.int .i64 0))
    rw [at_bounds] at this
    cases this

theorem grown_of_below {W W' : World} (h : Below W.heap.size W W') : W.grownBy W' none := ⟨h.os, h.tape, h.output, h.size, fun i hi _ => h.block i hi⟩
theorem cell_grown {W W' : World} {r : Nat} (h : W.grownBy W' (some r)) {b o : Nat} (hb : b < W.heap.size) (hne : b ≠ r) : W'.cell? ⟨b, o, none⟩ = W.cell? ⟨b, o, none⟩ :=
  World.cell?_of_block (w := W) (h.block b hb (by simpa using hne))

set_option maxRecDepth 100000 in
set_option maxHeartbeats 1000000 in
theorem right_any (g s : Int) (w : World) :
    Calls Try.prog 13 #[.agg #[.int .i64 g, .int .i64 s]] w fun e w' => e = .returned (.bool (rightB g s)) ∧ Below w.heap.size w w' := by
  go_enter Try.func13, Try.ntmps13
  go_wp2_with (first
    | (go_at_call 23; refine (rules_any _).mono ?_; rintro e w0 ⟨rfl, hown, hb0⟩; simp only [World.size_alloc] at hown hb0)
    | (at_range; refine wpList_range_own _ rfl _ 39 rfl 9 41 law9 Try.underlying39 _ _ 2 _ rfl hown ?_; intro w1 hrg1 hg1 hs1))
  go_frame
  have hz0 : w.heap.size + 1 ≤ w0.heap.size := by have := hb0.size; simp at this; omega
  have hb1 : Below (w.heap.size + 1) (w.alloc (.cells #[.int .i64 g, .int .i64 s] 23)) w1 := hb0.grown hg1 hz0 (fun j hj => by cases hj)
  have hbw : Below w.heap.size w w1 := ((Below.refl _ _).alloc (Nat.le_refl _) _).trans (hb1.mono (by omega))
  have k0 : w1.cell? ⟨w.heap.size, 0, none⟩ = some (.int .i64 g) := (hb1.cell (p := ⟨w.heap.size, 0, none⟩) (by simp)).trans (by go_simp)
  have k1 : w1.cell? ⟨w.heap.size, 1, none⟩ = some (.int .i64 s) := (hb1.cell (p := ⟨w.heap.size, 1, none⟩) (by simp)).trans (by go_simp)
  have hle1 : w0.heap.size < w1.heap.size := by omega
  clear hb0 hown hb1 hg1 hs1
  go_loopw [4] (fun _ wr => ∃ left cnt, wr.ranges Try.prog 9 fnElem (w.heap.size + 1) w0.heap.size 2 rulesD left cnt ∧ Asked g s left ∧
      wr.cell? ⟨w.heap.size, 0, none⟩ = some (.int .i64 g) ∧ wr.cell? ⟨w.heap.size, 1, none⟩ = some (.int .i64 s) ∧ w0.heap.size < wr.heap.size ∧ Below w.heap.size w wr)
    (fun _ wr => wr.rangeLeft (w.heap.size + 1) w0.heap.size)
  case atStart => exact ⟨_, _, hrg1, asked_start g s, k0, k1, hle1, hbw⟩
  case round =>
    clear hrg1 k0 k1 hle1 hbw
    obtain ⟨left, cnt, hrg, hA, hc0, hc1, hle, hnx⟩ := hrel
    go_wp2_with (first
      | (at_next; refine wpList_next_ranges _ rfl _ rfl 9 law9 fnElem Value.string fnOf str_inv fnElem_inv (w.heap.size + 1) w0.heap.size 2 rulesD left cnt rfl hrg ?_ ?_))
    · intro hcnt hl0
      go_wp2
      go_ret
      exact ⟨ret_bool (asked_end hA hl0), hnx⟩
    · intro x c kl ya yb w2 cnt2 hkey hlk hy hat hrg2 hlt hg2 hs2 hen
      have hd0 : w2.cell? ⟨w.heap.size, 0, none⟩ = some (.int .i64 g) := (cell_grown hg2 (by omega) (by omega)).trans hc0
      have hd1 : w2.cell? ⟨w.heap.size, 1, none⟩ = some (.int .i64 s) := (cell_grown hg2 (by omega) (by omega)).trans hc1
      have hnx2 : Below w.heap.size w w2 := hnx.grown hg2 hnx.size (fun j hj => by cases hj; omega)
      have hm := hrg.left_eq
      have hle2 : w0.heap.size < w2.heap.size := by omega
      clear hc0 hc1 hg2 hs2 hkey hlk
      by_cases hc : c = 31
      rotate_left
      · have hat' : ∀ z, rulesD.atKey kl z = .lit (.int .i64 32) := fun z => by rw [hat z]; simp [fnElem, fnOf, hc] at hy; rw [← hy.1]
        clear hat hy
        have hat := Lib.hid hat'; clear hat'
        simp only [fnOf, hc, if_false] at hen ⊢
        clear hc
        by_cases hB : winB g s = true
        · go_wp2_with (go_at_call 32; refine (window_any _ _ _).mono ?_; rintro e w3 ⟨rfl, hb3⟩)
          have hrg3 := hrg2.kept (row := none) (grown_of_below hb3) (by simp) (by simp)
          go_roundw
          case rel => exact ⟨_, cnt2, hrg3, asked_window hA hB hat.out, (hb3.cell (p := ⟨w.heap.size, 0, none⟩) (show w.heap.size < w2.heap.size by omega)).trans hd0, (hb3.cell (p := ⟨w.heap.size, 1, none⟩) (show w.heap.size < w2.heap.size by omega)).trans hd1, by have := hb3.size; omega, hnx2.trans (hb3.mono (by omega))⟩
          case measure => rw [hrg3.left_eq, hm]; exact hlt
        · have hB' : winB g s = false := by simpa using hB
          clear hB
          go_wp2_with (go_at_call 32; refine (window_any _ _ _).mono ?_; rintro e w3 ⟨rfl, hb3⟩)
          go_ret
          exact ⟨ret_bool (by unfold rightB; rw [hB', Bool.and_false]), hnx2.trans (hb3.mono (by omega))⟩
      · have hat' : ∀ z, rulesD.atKey kl z = .lit (.int .i64 31) := fun z => by rw [hat z]; simp [fnElem, fnOf, hc] at hy; rw [← hy.1]
        clear hat hy
        have hat := Lib.hid hat'; clear hat'
        simp only [fnOf, hc, if_true] at hen ⊢
        clear hc
        by_cases hB : bndB g s = true
        · go_wp2_with (go_at_call 31; refine (bounded_any _ _ _).mono ?_; rintro e w3 ⟨rfl, hb3⟩)
          have hrg3 := hrg2.kept (row := none) (grown_of_below hb3) (by simp) (by simp)
          go_roundw
          case rel => exact ⟨_, cnt2, hrg3, asked_bounds hA hB hat.out, (hb3.cell (p := ⟨w.heap.size, 0, none⟩) (show w.heap.size < w2.heap.size by omega)).trans hd0, (hb3.cell (p := ⟨w.heap.size, 1, none⟩) (show w.heap.size < w2.heap.size by omega)).trans hd1, by have := hb3.size; omega, hnx2.trans (hb3.mono (by omega))⟩
          case measure => rw [hrg3.left_eq, hm]; exact hlt
        · have hB' : bndB g s = false := by simpa using hB
          clear hB
          go_wp2_with (go_at_call 31; refine (bounded_any _ _ _).mono ?_; rintro e w3 ⟨rfl, hb3⟩)
          go_ret
          exact ⟨ret_bool (by unfold rightB; rw [hB', Bool.false_and]), hnx2.trans (hb3.mono (by omega))⟩
end Go.Proofs.Ytbdklcdecknceaa
