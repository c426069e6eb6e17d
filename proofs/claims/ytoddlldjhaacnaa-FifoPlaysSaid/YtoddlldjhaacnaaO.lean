/- do. -/
import Derived.Test.YtoddlldjhaacnaaN
namespace Go.Proofs.Ytoddlldjhaacnaa
open Go.RowKit

/-- What a queue of a capacity has behind a call. -/
def stepL (cap : Nat) (l : List UInt8) (x : OpV) : List UInt8 :=
  if x.kind = 0 then l ++ x.s.data.toList.take (cap - l.length) else if x.kind = 1 then l.drop x.n.toNat else if x.kind = 2 then l else if x.kind = 3 then [] else l
/-- The number that a call answers. -/
def stepN (cap : Nat) (l : List UInt8) (x : OpV) : Nat :=
  if x.kind = 0 then fits cap l.length x.s.size else if x.kind = 3 then l.length else 0
/-- The text that a call answers. -/
def stepT (l : List UInt8) (x : OpV) : List UInt8 := if x.kind = 1 ∨ x.kind = 2 then l.take x.n.toNat else []
/-- A call's answer. -/
def Told (cap : Nat) (l : List UInt8) (x : OpV) : Value := .tuple #[.int .i64 (stepN cap l x : Nat), .string (str (stepT l x))]
theorem stepL_le {cap : Nat} {l : List UInt8} (x : OpV) (h : l.length ≤ cap) : (stepL cap l x).length ≤ cap := by
  unfold stepL
  split
  · simp; omega
  · split
    · simp; omega
    · split
      · exact h
      · split
        · simp
        · exact h

set_option maxRecDepth 100000 in
set_option maxHeartbeats 1000000 in
theorem do_any (F K cap : Nat) (l : List UInt8) (x : OpV) (hs : x.s.size ≤ 5000) (w : World) (h : Qs w F K cap l) :
    Calls Try.prog 15 #[.pointer (some ⟨F, 0, none⟩), .agg #[.int .i64 x.kind, .int .i64 x.n, .string x.s]] w fun e w' =>
      e = .returned (Told cap l x) ∧ Qs w' F K cap (stepL cap l x) ∧ Off F K w w' := by
  have hq := h.alloc (.cells #[.int .i64 x.kind, .int .i64 x.n, .string x.s] 38)
  have ho : Off F K w (w.alloc (.cells #[.int .i64 x.kind, .int .i64 x.n, .string x.s] 38)) := (Off.refl F K w).alloc _
  obtain ⟨kd, n, s⟩ := x
  dsimp only at hs hq ho ⊢
  have HQ := Lib.hid hq
  have HO := Lib.hid ho
  clear hq ho h
  by_cases k0 : kd = 0
  · subst k0
    go_enter Try.func15, Try.ntmps15
    go_wp2_with (first | (go_at_call 13; refine (push_any F K cap l s hs _ HQ.out).mono ?_; rintro e w1 ⟨rfl, hq, ho⟩))
    go_ret2
    exact ⟨rfl, hq, HO.out.trans ho⟩
  · by_cases k1 : kd = 1
    · subst k1
      go_enter Try.func15, Try.ntmps15
      go_wp2_with (first | (go_at_call 14; refine (pop_any F K cap l n _ HQ.out).mono ?_; rintro e w1 ⟨rfl, hq, ho⟩))
      go_ret2
      exact ⟨rfl, hq, HO.out.trans ho⟩
    · by_cases k2 : kd = 2
      · subst k2
        go_enter Try.func15, Try.ntmps15
        go_wp2_with (first | (go_at_call 18; refine (peek_any F K cap l n _ HQ.out).mono ?_; rintro e w1 ⟨rfl, hb⟩))
        go_ret2
        exact ⟨rfl, HQ.out.below hb HQ.out.lt.1 HQ.out.lt.2, HO.out.trans (Off.of_below hb)⟩
      · by_cases k3 : kd = 3
        · subst k3
          go_enter Try.func15, Try.ntmps15
          go_wp2_with (first | (go_at_call 19; refine (clear_any F K cap l _ HQ.out).mono ?_; rintro e w1 ⟨rfl, hq, ho⟩))
          go_ret2
          exact ⟨rfl, hq, HO.out.trans ho⟩
        · go_enter Try.func15, Try.ntmps15
          go_wp2
          go_ret2
          have e1 : stepL cap l ⟨kd, n, s⟩ = l := by simp [stepL, k0, k1, k2, k3]
          refine ⟨?_, by rw [e1]; exact HQ.out, HO.out⟩
          simp [Told, stepN, stepT, k0, k1, k2, k3]; rfl
end Go.Proofs.Ytoddlldjhaacnaa
