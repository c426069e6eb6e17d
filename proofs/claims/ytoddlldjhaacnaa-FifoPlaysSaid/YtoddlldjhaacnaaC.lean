/- What a queue has, as a list; drop and put over it; repeat, Len, Room, New, Clear. -/
import Derived.Test.YtoddlldjhaacnaaB
namespace Go.Proofs.Ytoddlldjhaacnaa
open Go.RowKit

/-- What a ring has: cnt cells from the first one on. -/
def ringOf (cs : List Int) (first cnt : Nat) : List Int := (List.range cnt).map fun i => cs.getD ((first + i) % cs.length) 0
theorem ringOf_length (cs : List Int) (first cnt : Nat) : (ringOf cs first cnt).length = cnt := by simp [ringOf]
theorem mod_ne {a b n : Nat} (h : a < n) (h2 : b < n) {f : Nat} (hne : a ≠ b) : (f + a) % n ≠ (f + b) % n := fun e => by
  have h1 := Nat.mod_add_div (f + a) n
  have h2' := Nat.mod_add_div (f + b) n
  rw [e] at h1
  have h3 : ((f + a) : Int) - (f + b) = n * (((f + a) / n : Nat) - ((f + b) / n : Nat) : Int) := by
    have e1 : ((f + a : Nat) : Int) = ((f + b) % n : Nat) + n * ((f + a) / n : Nat) := by exact_mod_cast h1.symm
    have e2 : ((f + b : Nat) : Int) = ((f + b) % n : Nat) + n * ((f + b) / n : Nat) := by exact_mod_cast h2'.symm
    rw [Int.mul_sub]; push_cast at e1 e2 ⊢; omega
  generalize (((f + a) / n : Nat) - ((f + b) / n : Nat) : Int) = d at h3
  have hd : d = 0 := by
    rcases Int.lt_trichotomy d 0 with h | h | h
    · have := Int.mul_le_mul_of_nonneg_left (show d ≤ -1 by omega) (show (0 : Int) ≤ n by omega); omega
    · exact h
    · have := Int.mul_le_mul_of_nonneg_left (show 1 ≤ d by omega) (show (0 : Int) ≤ n by omega); omega
  rw [hd] at h3; simp at h3; omega
theorem ringOf_put (cs : List Int) (first cnt : Nat) (b : Int) (h : cnt < cs.length) : ringOf (cs.set ((first + cnt) % cs.length) b) first (cnt + 1) = ringOf cs first cnt ++ [b] := by
  have hm : (first + cnt) % cs.length < cs.length := Nat.mod_lt _ (by omega)
  simp only [ringOf, List.range_succ, List.map_append, List.map_cons, List.map_nil, List.length_set]
  congr 1
  · apply List.map_congr_left
    intro i hi
    have hi' : i < cnt := by simpa using hi
    have : (first + cnt) % cs.length ≠ (first + i) % cs.length := mod_ne h (by omega) (by omega)
    simp [List.getD_eq_getElem?_getD, this]
  · simp [List.getD_eq_getElem?_getD, hm]
theorem ringOf_drop (cs : List Int) (first cnt : Nat) (hf : first < cs.length) (h : cnt < cs.length) : ringOf cs first (cnt + 1) = cs.getD first 0 :: ringOf (cs.set first 0) ((first + 1) % cs.length) cnt := by
  simp only [ringOf, List.range_succ_eq_map, List.map_cons, List.map_map, List.length_set, Nat.add_zero, Nat.mod_eq_of_lt hf]
  congr 1
  apply List.map_congr_left
  intro i hi
  have hi' : i < cnt := by simpa using hi
  have e : ((first + 1) % cs.length + i) % cs.length = (first + (i + 1)) % cs.length := by rw [Nat.mod_add_mod]; congr 1; omega
  have hne : (first + 0) % cs.length ≠ (first + (i + 1)) % cs.length := mod_ne (by omega) (by omega) (by omega)
  rw [Nat.add_zero, Nat.mod_eq_of_lt hf] at hne
  simp only [Function.comp, e, Nat.succ_eq_add_one]
  simp [List.getD_eq_getElem?_getD, hne]

/-- A queue of a capacity, and its bytes. -/
def Qs (w : World) (F K cap : Nat) (l : List UInt8) : Prop := ∃ first cs, IsQ w F K cap first l.length cs ∧ ringOf cs first l.length = l.map fun b => (b.toNat : Int)
theorem Qs.lt {w : World} {F K cap : Nat} {l : List UInt8} : Qs w F K cap l → F < w.heap.size ∧ K < w.heap.size := fun ⟨_, _, h, _⟩ => h.lt
theorem Qs.ne {w : World} {F K cap : Nat} {l : List UInt8} : Qs w F K cap l → F ≠ K := fun ⟨_, _, h, _⟩ => h.ne
theorem Qs.le {w : World} {F K cap : Nat} {l : List UInt8} : Qs w F K cap l → l.length ≤ cap := fun ⟨_, _, h, _⟩ => h.cnt_le
theorem Qs.cap_le {w : World} {F K cap : Nat} {l : List UInt8} : Qs w F K cap l → cap ≤ 4096 := fun ⟨_, _, h, _⟩ => h.cap_le
theorem Qs.cap_pos {w : World} {F K cap : Nat} {l : List UInt8} : Qs w F K cap l → 0 < cap := fun ⟨_, _, h, _⟩ => by have := h.first_lt; omega
theorem Qs.same {w w' : World} {F K cap : Nat} {l : List UInt8} (hF : w'.heap[F]? = w.heap[F]?) (hK : w'.heap[K]? = w.heap[K]?) : Qs w F K cap l → Qs w' F K cap l := fun ⟨a, b, h, e⟩ => ⟨a, b, h.same hF hK, e⟩
theorem Qs.drew {w : World} {F K cap : Nat} {l : List UInt8} (h : Qs w F K cap l) : Qs w.drew F K cap l := Qs.same (w := w) (w' := w.drew) rfl rfl h
theorem Qs.drewN {w : World} {F K cap : Nat} {l : List UInt8} (h : Qs w F K cap l) (n : Nat) : Qs (w.drewN n) F K cap l := Qs.same (w := w) (w' := w.drewN n) rfl rfl h
theorem Qs.below {w w' : World} {n F K cap : Nat} {l : List UInt8} (h : Qs w F K cap l) (hb : Below n w w') (hF : F < n) (hK : K < n) : Qs w' F K cap l := h.same (hb.block F hF) (hb.block K hK)
theorem Qs.off {w w' : World} {F K F' K' cap : Nat} {l : List UInt8} (h : Qs w F K cap l) (hb : Off F' K' w w') (h1 : F ≠ F') (h2 : F ≠ K') (h3 : K ≠ F') (h4 : K ≠ K') : Qs w' F K cap l := h.same (hb.block F h.lt.1 h1 h2) (hb.block K h.lt.2 h3 h4)
theorem Qs.alloc {w : World} {F K cap : Nat} {l : List UInt8} (h : Qs w F K cap l) (o : Obj) : Qs (w.alloc o) F K cap l := h.same (Below.heap_alloc _ _ _ h.lt.1) (Below.heap_alloc _ _ _ h.lt.2)

theorem put_no (F K cap : Nat) (l : List UInt8) (b : UInt8) (w : World) (h : Qs w F K cap l) (hl : l.length = cap) :
    Calls Try.prog 21 #[.pointer (some ⟨F, 0, none⟩), .int .u8 b.toNat] w fun e w' => e = .returned (.bool false) ∧ Qs w' F K cap l ∧ Off F K w w' := by
  obtain ⟨first, cs, h, hr⟩ := h
  subst hl
  exact (put_full F K _ first cs _ w h).mono fun e w' ⟨h1, h2, h3⟩ => ⟨h1, ⟨first, cs, h2, hr⟩, h3⟩
theorem put_yes (F K cap : Nat) (l : List UInt8) (b : UInt8) (w : World) (h : Qs w F K cap l) (hl : l.length < cap) :
    Calls Try.prog 21 #[.pointer (some ⟨F, 0, none⟩), .int .u8 b.toNat] w fun e w' => e = .returned (.bool true) ∧ Qs w' F K cap (l ++ [b]) ∧ Off F K w w' := by
  obtain ⟨first, cs, h, hr⟩ := h
  refine (put_room F K _ first _ cs _ w h hl).mono fun e w' ⟨h1, h2, h3⟩ => ⟨h1, ⟨first, cs.set ((first + l.length) % cap) b.toNat, ?_, ?_⟩, h3⟩
  · simpa using h2
  · have hc := h.len
    subst hc
    rw [List.length_append]; exact (ringOf_put cs first l.length _ hl).trans (by rw [hr]; simp)
theorem drop_no (F K cap : Nat) (w : World) (h : Qs w F K cap []) :
    Calls Try.prog 23 #[.pointer (some ⟨F, 0, none⟩)] w fun e w' => e = .returned (.bool false) ∧ Qs w' F K cap [] ∧ Off F K w w' := by
  obtain ⟨first, cs, h, hr⟩ := h
  exact (drop_empty F K _ first cs w h).mono fun e w' ⟨h1, h2, h3⟩ => ⟨h1, ⟨first, cs, h2, hr⟩, h3⟩
theorem drop_yes (F K cap : Nat) (x : UInt8) (l : List UInt8) (w : World) (h : Qs w F K cap (x :: l)) :
    Calls Try.prog 23 #[.pointer (some ⟨F, 0, none⟩)] w fun e w' => e = .returned (.bool true) ∧ Qs w' F K cap l ∧ Off F K w w' := by
  obtain ⟨first, cs, h, hr⟩ := h
  refine (drop_some F K _ first _ cs w h).mono fun e w' ⟨h1, h2, h3⟩ => ⟨h1, ⟨_, _, h2, ?_⟩, h3⟩
  have hc := h.len
  subst hc
  have := ringOf_drop cs first l.length h.first_lt (by have := h.cnt_le; simp at this; omega)
  rw [List.length_cons, this] at hr
  exact (List.cons.inj hr).2
end Go.Proofs.Ytoddlldjhaacnaa
