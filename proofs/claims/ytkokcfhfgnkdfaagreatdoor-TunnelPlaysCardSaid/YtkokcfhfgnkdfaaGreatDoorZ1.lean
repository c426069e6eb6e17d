/- F1B, F1C, F1D, F1E, F1G, F1H, F1I, F1J, F1K, F1L -/
import Derived.Test.YtkokcfhfgnkdfaaGreatDoorZ0
import Derived.Laws.MakeOwn
import Derived.Laws.CopyOwn
import Derived.StillTailTactics
import Derived.Deep.DeepCutAuto
import Derived.RangeFuncRecord
import Derived.Laws.IdiomStrings
import Derived.RangeFuncNested
import Derived.RangeFuncBound
import Derived.RangeFuncCalls
import Derived.RangeFuncLeaves
import Derived.RangeFuncBox
import Derived.Shelf.Abstract
import Derived.Shelf.RegionOpen
import Derived.OwnWalkIn
import Derived.TacticsInMore
import Derived.LoopNIn
import Derived.LoopIn
set_option linter.unusedVariables false
set_option linter.unusedSimpArgs false
/- put and drop. -/
namespace Go.Proofs.YtkokcfhfgnkdfaaGreatDoor.L1
open Go.RowKit

set_option maxRecDepth 100000 in
set_option maxHeartbeats 1000000 in
theorem put_full (F K cap first : Nat) (cs : List Int) (b : Int) (w : World) (h : IsQ w F K cap first cap cs) :
    Calls Tryz.prog 103 #[.pointer (some ⟨F, 0, none⟩), .int .u8 b] w fun e w' => e = .returned (.bool false) ∧ IsQ w' F K cap first cap cs ∧ Off F K w w' := by
  have c0 := h.c0
  have c2 := h.c2
  have H := Lib.hid h
  clear h
  go_enter Tryz.func103, Tryz.ntmps103
  go_wp2_with fail
  go_quiet (fail)
  go_wp2
  go_ret
  exact ⟨rfl, H.out.same rfl rfl, (Off.refl _ _ _).drewN _⟩

set_option maxRecDepth 100000 in
set_option maxHeartbeats 2000000 in
theorem put_room (F K cap first cnt : Nat) (cs : List Int) (b : Int) (w : World) (h : IsQ w F K cap first cnt cs) (hr : cnt < cap) :
    Calls Tryz.prog 103 #[.pointer (some ⟨F, 0, none⟩), .int .u8 b] w fun e w' => e = .returned (.bool true) ∧ IsQ w' F K cap first (cnt + 1) (cs.set ((first + cnt) % cap) b) ∧ Off F K w w' := by
  have c0 := h.c0
  have c1 := h.c1
  have c2 := h.c2
  have f2 := h.f2
  have b1 : first ≤ 1000000 := by have := h.first_lt; have := h.cap_le; omega
  have b2 : cnt ≤ 1000000 := by have := h.cap_le; omega
  have b3 : cap ≤ 1000000 := by have := h.cap_le; omega
  have b4 : 0 < cap := by omega
  have hi : (first + cnt) % cap < cap := Nat.mod_lt _ b4
  have ck := h.k _ hi
  have fk := h.fk _ hi
  have hne := h.ne
  have d1 : ((cnt : Int) == (cap : Int)) = false := by simp; omega
  obtain ⟨lF, lK⟩ := h.lt
  have H := Lib.hid h
  clear h
  generalize hie : (first + cnt) % cap = i at *
  have Hi := Lib.hid hie
  clear hie
  have i1 : (i : Int) < (cap : Int) := by omega
  have i2 : (0 : Int) ≤ (i : Int) := by omega
  go_enter Tryz.func103, Tryz.ntmps103
  go_wp2_with fail
  go_quiet (fail)
  go_wp2_with (first | (go_at_call 122; refine (turner_any _ _).mono ?_; rintro e w1 ⟨rfl, rfl⟩))
  obtain ⟨V, hV⟩ : ∃ V, V = (w.drewN nq).alloc (.cells #[.int .i64 cap] 3) := ⟨_, rfl⟩
  have hO : Off F K w V := by rw [hV]; exact ((Off.refl _ _ _).drewN _).alloc _
  have hF : V.heap[F]? = w.heap[F]? := by rw [hV]; exact Below.heap_alloc _ _ _ lF
  have hK : V.heap[K]? = w.heap[K]? := by rw [hV]; exact Below.heap_alloc _ _ _ lK
  have hT : V.cell? ⟨w.heap.size, 0, none⟩ = some (.int .i64 cap) := by rw [hV]; exact alloc_cell (w.drewN nq) _ _
  have v0 := (World.cell?_of_block (a := ⟨F, 0, none⟩) (w := w) hF).trans c0
  have v1 := (World.cell?_of_block (a := ⟨F, 1, none⟩) (w := w) hF).trans c1
  have v2 := (World.cell?_of_block (a := ⟨F, 2, none⟩) (w := w) hF).trans c2
  have vf2 := (World.frozen?_of_block (a := ⟨F, 2, none⟩) (w := w) hF).trans f2
  have vk := (World.cell?_of_block (a := ⟨K, i, none⟩) (w := w) hK).trans ck
  have vfk := (World.frozen?_of_block (a := ⟨K, i, none⟩) (w := w) hK).trans fk
  rw [← hV]
  clear hV c0 c1 c2 f2 ck fk
  have nT : w.heap.size ≠ K := by omega
  generalize w.heap.size = T at *
  go_region_held3 (fun w' => w'.cell? ⟨F, 0, none⟩ = some (.slice (some ⟨K, 0, none⟩) cap cap) ∧ w'.cell? ⟨F, 1, none⟩ = some (.int .i64 first) ∧ w'.cell? ⟨F, 2, none⟩ = some (.int .i64 cnt) ∧ w'.cell? ⟨T, 0, none⟩ = some (.int .i64 cap))
    (first | assumption | (go_split_ands; (try dsimp only); refine ⟨?_, ?_, ?_, ?_⟩ <;> first | assumption | exact (set_other _ _ hne).trans (by assumption) | exact (set_other _ _ nT).trans (by assumption)))
    ((first
      | (go_at_call 128; go_split_ands; refine (turn_any _ _ _ T _ b1 b2 b3 b4 (by assumption)).mono ?_; rintro e wt ⟨rfl, rfl⟩; rw [Hi.out])))
  go_split_ands
  go_wp2_with fail
  go_ret
  have hcap : (cnt : Int) + 1 = ((cnt + 1 : Nat) : Int) := by omega
  have hq : IsQ V F K cap first cnt cs := H.out.same hF hK
  refine ⟨rfl, ?_, ?_⟩
  · rw [hcap]; exact ((hq.setK (Hi.out ▸ Nat.mod_lt _ b4) b).setCnt (n := cnt + 1) hr).drew
  · exact ((hO.setK _ _).setF _ _).drew

set_option maxRecDepth 100000 in
set_option maxHeartbeats 1000000 in
theorem drop_empty (F K cap first : Nat) (cs : List Int) (w : World) (h : IsQ w F K cap first 0 cs) :
    Calls Tryz.prog 106 #[.pointer (some ⟨F, 0, none⟩)] w fun e w' => e = .returned (.bool false) ∧ IsQ w' F K cap first 0 cs ∧ Off F K w w' := by
  have c2 := h.c2
  have H := Lib.hid h
  clear h
  go_enter Tryz.func106, Tryz.ntmps106
  go_wp2
  go_ret
  exact ⟨rfl, H.out.same rfl rfl, (Off.refl _ _ _)⟩

set_option maxRecDepth 100000 in
set_option maxHeartbeats 2000000 in
theorem drop_some (F K cap first cnt : Nat) (cs : List Int) (w : World) (h : IsQ w F K cap first (cnt + 1) cs) :
    Calls Tryz.prog 106 #[.pointer (some ⟨F, 0, none⟩)] w fun e w' => e = .returned (.bool true) ∧ IsQ w' F K cap ((first + 1) % cap) cnt (cs.set first 0) ∧ Off F K w w' := by
  have c0 := h.c0
  have c1 := h.c1
  have c2 := h.c2
  have f1 := h.f1
  have f2 := h.f2
  have b1 : first ≤ 1000000 := by have := h.first_lt; have := h.cap_le; omega
  have b2 : cnt + 1 ≤ 1000000 := by have := h.cap_le; have := h.cnt_le; omega
  have b3 : cap ≤ 1000000 := by have := h.cap_le; omega
  have b4 : 0 < cap := by have := h.first_lt; omega
  have hi : first < cap := h.first_lt
  have ck := h.k _ hi
  have fk := h.fk _ hi
  have hne := h.ne
  have d1 : (((cnt + 1 : Nat) : Int) == 0) = false := by simp; omega
  have hc1 : ((cnt + 1 : Nat) : Int) - 1 = (cnt : Int) := by omega
  obtain ⟨lF, lK⟩ := h.lt
  have H := Lib.hid h
  clear h
  have i1 : (first : Int) < (cap : Int) := by omega
  have i2 : (0 : Int) ≤ (first : Int) := by omega
  generalize hcc : ((cnt + 1 : Nat) : Int) = c at *
  have Hcc := Lib.hid hcc
  have q1 : 0 < c := by omega
  have q2 : c ≤ 1000000 := by omega
  clear hcc
  go_enter Tryz.func106, Tryz.ntmps106
  go_wp2_with (first | (go_at_call 122; refine (turner_any _ _).mono ?_; rintro e w1 ⟨rfl, rfl⟩))
  obtain ⟨V, hV⟩ : ∃ V, V = w.alloc (.cells #[.int .i64 cap] 3) := ⟨_, rfl⟩
  have hO : Off F K w V := by rw [hV]; exact (Off.refl _ _ _).alloc _
  have hF : V.heap[F]? = w.heap[F]? := by rw [hV]; exact Below.heap_alloc _ _ _ lF
  have hK : V.heap[K]? = w.heap[K]? := by rw [hV]; exact Below.heap_alloc _ _ _ lK
  have hT : V.cell? ⟨w.heap.size, 0, none⟩ = some (.int .i64 cap) := by rw [hV]; go_simp
  have v0 := (World.cell?_of_block (a := ⟨F, 0, none⟩) (w := w) hF).trans c0
  have v1 := (World.cell?_of_block (a := ⟨F, 1, none⟩) (w := w) hF).trans c1
  have v2 := (World.cell?_of_block (a := ⟨F, 2, none⟩) (w := w) hF).trans c2
  have vf1 := (World.frozen?_of_block (a := ⟨F, 1, none⟩) (w := w) hF).trans f1
  have vf2 := (World.frozen?_of_block (a := ⟨F, 2, none⟩) (w := w) hF).trans f2
  have vk := (World.cell?_of_block (a := ⟨K, first, none⟩) (w := w) hK).trans ck
  have vfk := (World.frozen?_of_block (a := ⟨K, first, none⟩) (w := w) hK).trans fk
  rw [← hV]
  clear hV c0 c1 c2 f1 f2 ck fk
  have nT : w.heap.size ≠ K := by omega
  have nTF : w.heap.size ≠ F := by omega
  generalize w.heap.size = T at *
  go_region_held3 (fun w' => w'.cell? ⟨F, 0, none⟩ = some (.slice (some ⟨K, 0, none⟩) cap cap) ∧ w'.cell? ⟨F, 1, none⟩ = some (.int .i64 first) ∧ w'.cell? ⟨F, 2, none⟩ = some (.int .i64 c) ∧ w'.cell? ⟨T, 0, none⟩ = some (.int .i64 cap))
    (first | assumption | (go_split_ands; (try dsimp only); refine ⟨?_, ?_, ?_, ?_⟩ <;> first | assumption | exact (set_other _ _ hne).trans (by assumption) | exact (set_other _ _ nT).trans (by assumption)))
    ((first | fail))
  go_split_ands
  go_wp2_with (first | (go_at_call 128; refine (turn_any first 1 cap T _ b1 (by omega) b3 b4 (by assumption)).mono ?_; rintro e wt ⟨rfl, rfl⟩))
  go_ret
  have hq : IsQ V F K cap first (cnt + 1) cs := H.out.same hF hK
  have hmm : ((first : Int) + 1) % (cap : Int) = (((first + 1) % cap : Nat) : Int) := by rw [Int.natCast_emod, Int.natCast_add]; rfl
  refine ⟨rfl, ?_, ?_⟩
  · rw [hmm]; exact (((hq.setK hi 0).setFirst (Nat.mod_lt (first + 1) b4)).setCnt (n := cnt) (by have := H.out.cnt_le; omega)).drew
  · exact (((hO.setK _ _).setF _ _).setF _ _).drew
end Go.Proofs.YtkokcfhfgnkdfaaGreatDoor.L1

/- What a queue has, as a list; drop and put over it; repeat, Len, Room, New, Clear. -/
namespace Go.Proofs.YtkokcfhfgnkdfaaGreatDoor.L1
open Go.RowKit

/-- What a ring has: cnt cells from the first one on. -/
def ringOf (cs : List Int) (first cnt : Nat) : List Int := (List.range cnt).map fun i => cs.getD ((first + i) % cs.length) 0
theorem ringOf_length (cs : List Int) (first cnt : Nat) : (ringOf cs first cnt).length = cnt := by simp [ringOf]
theorem mod_ne {a b n : Nat} (h : a < n) (h2 : b < n) {f : Nat} (hne : a ≠ b) : (f + a) % n ≠ (f + b) % n := fun e => by
  have h1 := Nat.mod_add_div (f + a) n
  have h2' := Nat.mod_add_div (f + b) n
  rw [e] at h1
  have h3 : ((f + a) : Int) - (f + b) = n * (((f + a) / n : Nat) - ((f + b) / n : Nat) : Int) := by
    have e1 : ((f + a : Nat) : Int) = ((f + b) % n : Nat) + n * ((f + a) / n : Nat) := by exact_mod_cast h1.symm
    have e2 : ((f + b : Nat) : Int) = ((f + b) % n : Nat) + n * ((f + b) / n : Nat) := by exact_mod_cast h2'.symm
    rw [Int.mul_sub]; push_cast at e1 e2 ⊢; omega
  generalize (((f + a) / n : Nat) - ((f + b) / n : Nat) : Int) = d at h3
  have hd : d = 0 := by
    rcases Int.lt_trichotomy d 0 with h | h | h
    · have := Int.mul_le_mul_of_nonneg_left (show d ≤ -1 by omega) (show (0 : Int) ≤ n by omega); omega
    · exact h
    · have := Int.mul_le_mul_of_nonneg_left (show 1 ≤ d by omega) (show (0 : Int) ≤ n by omega); omega
  rw [hd] at h3; simp at h3; omega
theorem ringOf_put (cs : List Int) (first cnt : Nat) (b : Int) (h : cnt < cs.length) : ringOf (cs.set ((first + cnt) % cs.length) b) first (cnt + 1) = ringOf cs first cnt ++ [b] := by
  have hm : (first + cnt) % cs.length < cs.length := Nat.mod_lt _ (by omega)
  simp only [ringOf, List.range_succ, List.map_append, List.map_cons, List.map_nil, List.length_set]
  congr 1
  · apply List.map_congr_left
    intro i hi
    have hi' : i < cnt := by simpa using hi
    have : (first + cnt) % cs.length ≠ (first + i) % cs.length := mod_ne h (by omega) (by omega)
    simp [List.getD_eq_getElem?_getD, this]
  · simp [List.getD_eq_getElem?_getD, hm]
theorem ringOf_drop (cs : List Int) (first cnt : Nat) (hf : first < cs.length) (h : cnt < cs.length) : ringOf cs first (cnt + 1) = cs.getD first 0 :: ringOf (cs.set first 0) ((first + 1) % cs.length) cnt := by
  simp only [ringOf, List.range_succ_eq_map, List.map_cons, List.map_map, List.length_set, Nat.add_zero, Nat.mod_eq_of_lt hf]
  congr 1
  apply List.map_congr_left
  intro i hi
  have hi' : i < cnt := by simpa using hi
  have e : ((first + 1) % cs.length + i) % cs.length = (first + (i + 1)) % cs.length := by rw [Nat.mod_add_mod]; congr 1; omega
  have hne : (first + 0) % cs.length ≠ (first + (i + 1)) % cs.length := mod_ne (by omega) (by omega) (by omega)
  rw [Nat.add_zero, Nat.mod_eq_of_lt hf] at hne
  simp only [Function.comp, e, Nat.succ_eq_add_one]
  simp [List.getD_eq_getElem?_getD, hne]

/-- A queue of a capacity, and its bytes. -/
def Qs (w : World) (F K cap : Nat) (l : List UInt8) : Prop := ∃ first cs, IsQ w F K cap first l.length cs ∧ ringOf cs first l.length = l.map fun b => (b.toNat : Int)
theorem Qs.lt {w : World} {F K cap : Nat} {l : List UInt8} : Qs w F K cap l → F < w.heap.size ∧ K < w.heap.size := fun ⟨_, _, h, _⟩ => h.lt
theorem Qs.ne {w : World} {F K cap : Nat} {l : List UInt8} : Qs w F K cap l → F ≠ K := fun ⟨_, _, h, _⟩ => h.ne
theorem Qs.le {w : World} {F K cap : Nat} {l : List UInt8} : Qs w F K cap l → l.length ≤ cap := fun ⟨_, _, h, _⟩ => h.cnt_le
theorem Qs.cap_le {w : World} {F K cap : Nat} {l : List UInt8} : Qs w F K cap l → cap ≤ 4096 := fun ⟨_, _, h, _⟩ => h.cap_le
theorem Qs.cap_pos {w : World} {F K cap : Nat} {l : List UInt8} : Qs w F K cap l → 0 < cap := fun ⟨_, _, h, _⟩ => by have := h.first_lt; omega
theorem Qs.same {w w' : World} {F K cap : Nat} {l : List UInt8} (hF : w'.heap[F]? = w.heap[F]?) (hK : w'.heap[K]? = w.heap[K]?) : Qs w F K cap l → Qs w' F K cap l := fun ⟨a, b, h, e⟩ => ⟨a, b, h.same hF hK, e⟩
theorem Qs.drew {w : World} {F K cap : Nat} {l : List UInt8} (h : Qs w F K cap l) : Qs w.drew F K cap l := Qs.same (w := w) (w' := w.drew) rfl rfl h
theorem Qs.drewN {w : World} {F K cap : Nat} {l : List UInt8} (h : Qs w F K cap l) (n : Nat) : Qs (w.drewN n) F K cap l := Qs.same (w := w) (w' := w.drewN n) rfl rfl h
theorem Qs.below {w w' : World} {n F K cap : Nat} {l : List UInt8} (h : Qs w F K cap l) (hb : Below n w w') (hF : F < n) (hK : K < n) : Qs w' F K cap l := h.same (hb.block F hF) (hb.block K hK)
theorem Qs.off {w w' : World} {F K F' K' cap : Nat} {l : List UInt8} (h : Qs w F K cap l) (hb : Off F' K' w w') (h1 : F ≠ F') (h2 : F ≠ K') (h3 : K ≠ F') (h4 : K ≠ K') : Qs w' F K cap l := h.same (hb.block F h.lt.1 h1 h2) (hb.block K h.lt.2 h3 h4)
theorem Qs.alloc {w : World} {F K cap : Nat} {l : List UInt8} (h : Qs w F K cap l) (o : Obj) : Qs (w.alloc o) F K cap l := h.same (Below.heap_alloc _ _ _ h.lt.1) (Below.heap_alloc _ _ _ h.lt.2)

theorem put_no (F K cap : Nat) (l : List UInt8) (b : UInt8) (w : World) (h : Qs w F K cap l) (hl : l.length = cap) :
    Calls Tryz.prog 103 #[.pointer (some ⟨F, 0, none⟩), .int .u8 b.toNat] w fun e w' => e = .returned (.bool false) ∧ Qs w' F K cap l ∧ Off F K w w' := by
  obtain ⟨first, cs, h, hr⟩ := h
  subst hl
  exact (put_full F K _ first cs _ w h).mono fun e w' ⟨h1, h2, h3⟩ => ⟨h1, ⟨first, cs, h2, hr⟩, h3⟩
theorem put_yes (F K cap : Nat) (l : List UInt8) (b : UInt8) (w : World) (h : Qs w F K cap l) (hl : l.length < cap) :
    Calls Tryz.prog 103 #[.pointer (some ⟨F, 0, none⟩), .int .u8 b.toNat] w fun e w' => e = .returned (.bool true) ∧ Qs w' F K cap (l ++ [b]) ∧ Off F K w w' := by
  obtain ⟨first, cs, h, hr⟩ := h
  refine (put_room F K _ first _ cs _ w h hl).mono fun e w' ⟨h1, h2, h3⟩ => ⟨h1, ⟨first, cs.set ((first + l.length) % cap) b.toNat, ?_, ?_⟩, h3⟩
  · simpa using h2
  · have hc := h.len
    subst hc
    rw [List.length_append]; exact (ringOf_put cs first l.length _ hl).trans (by rw [hr]; simp)
theorem drop_no (F K cap : Nat) (w : World) (h : Qs w F K cap []) :
    Calls Tryz.prog 106 #[.pointer (some ⟨F, 0, none⟩)] w fun e w' => e = .returned (.bool false) ∧ Qs w' F K cap [] ∧ Off F K w w' := by
  obtain ⟨first, cs, h, hr⟩ := h
  exact (drop_empty F K _ first cs w h).mono fun e w' ⟨h1, h2, h3⟩ => ⟨h1, ⟨first, cs, h2, hr⟩, h3⟩
theorem drop_yes (F K cap : Nat) (x : UInt8) (l : List UInt8) (w : World) (h : Qs w F K cap (x :: l)) :
    Calls Tryz.prog 106 #[.pointer (some ⟨F, 0, none⟩)] w fun e w' => e = .returned (.bool true) ∧ Qs w' F K cap l ∧ Off F K w w' := by
  obtain ⟨first, cs, h, hr⟩ := h
  refine (drop_some F K _ first _ cs w h).mono fun e w' ⟨h1, h2, h3⟩ => ⟨h1, ⟨_, _, h2, ?_⟩, h3⟩
  have hc := h.len
  subst hc
  have := ringOf_drop cs first l.length h.first_lt (by have := h.cnt_le; simp at this; omega)
  rw [List.length_cons, this] at hr
  exact (List.cons.inj hr).2
end Go.Proofs.YtkokcfhfgnkdfaaGreatDoor.L1

/- repeat, Len, Room, New, Clear. -/
namespace Go.Proofs.YtkokcfhfgnkdfaaGreatDoor.L1
open Go.RowKit

set_option maxRecDepth 100000 in
set_option maxHeartbeats 1000000 in
theorem repeat_any (F K cap : Nat) (l : List UInt8) (n : Nat) (hn : n ≤ 1000000) (w : World) (h : Qs w F K cap l) :
    Calls Tryz.prog 105 #[.pointer (some ⟨F, 0, none⟩), .int .i64 n, .func (.func 106) #[] #[]] w fun e w' => e = .returned (.int .i64 ((min n l.length : Nat) : Int)) ∧ Qs w' F K cap (l.drop n) ∧ Off F K w w' := by
  go_enter Tryz.func105, Tryz.ntmps105
  go_wp2
  go_loopw [7] (fun d wr => ∃ k : Nat, k ≤ n ∧ k ≤ l.length ∧ d = .int .i64 k ∧ Qs wr F K cap (l.drop k) ∧ Off F K w wr)
    (fun d _ => n - (intOf d).toNat)
  case atStart => exact ⟨0, Nat.zero_le _, Nat.zero_le _, rfl, h, Off.refl _ _ _⟩
  case round =>
    obtain ⟨k, hk, hkl, rfl, hq, ho⟩ := hrel
    by_cases hlt : k < n
    · by_cases hll : k < l.length
      · have hq' : Qs wr F K cap (l[k] :: l.drop (k + 1)) := by rw [← List.drop_eq_getElem_cons hll]; exact hq
        have Hq := Lib.hid hq'
        clear hq hq'
        go_wp2_with (first | (go_at_call 106; refine (drop_yes F K cap _ _ _ Hq.out).mono ?_; rintro e w1 ⟨rfl, hq1, ho1⟩))
        go_roundw
        case rel => exact ⟨k + 1, by omega, by omega, by go_num, hq1, ho.trans ho1⟩
        case measure => simp [intOf]; omega
      · have hq' : Qs wr F K cap [] := by rw [← List.drop_of_length_le (show l.length ≤ k by omega)]; exact hq
        have Hq := Lib.hid hq'
        clear hq hq'
        go_wp2_with (first | (go_at_call 106; refine (drop_no F K cap _ Hq.out).mono ?_; rintro e w1 ⟨rfl, hq1, ho1⟩))
        go_ret
        exact ⟨ret_int (by omega), by rw [List.drop_of_length_le (by omega)]; exact hq1, ho.trans ho1⟩
    · obtain rfl : k = n := by omega
      have Hq := Lib.hid hq
      clear hq
      go_wp2
      go_ret
      exact ⟨ret_int (by omega), Hq.out, ho⟩

set_option maxHeartbeats 400000 in
theorem len_any (F K cap : Nat) (l : List UInt8) (w : World) (h : Qs w F K cap l) :
    Calls Tryz.prog 75 #[.pointer (some ⟨F, 0, none⟩)] w fun e w' => e = .returned (.int .i64 l.length) ∧ w = w' := by
  obtain ⟨first, cs, h, _⟩ := h
  have c2 := h.c2
  clear h
  go_enter Tryz.func75, Tryz.ntmps75
  go_wp2
  go_ret
  exact ⟨rfl, rfl⟩
set_option maxHeartbeats 400000 in
theorem len_nil (w : World) :
    Calls Tryz.prog 75 #[.pointer none] w fun e w' => e = .returned (.int .i64 0) ∧ w = w' := by
  go_enter Tryz.func75, Tryz.ntmps75
  go_wp2
  go_ret
  exact ⟨rfl, rfl⟩

set_option maxHeartbeats 400000 in
theorem room_any (F K cap : Nat) (l : List UInt8) (w : World) (h : Qs w F K cap l) :
    Calls Tryz.prog 76 #[.pointer (some ⟨F, 0, none⟩)] w fun e w' => e = .returned (.int .i64 ((cap - l.length : Nat) : Int)) ∧ ∃ n, w' = w.drewN n := by
  have hle := h.le
  have hcl := h.cap_le
  obtain ⟨first, cs, h, _⟩ := h
  have c0 := h.c0
  have c2 := h.c2
  clear h
  have hs : IntKind.i64.wrap ((cap : Int) - (l.length : Int)) = (cap : Int) - (l.length : Int) := IntWalk.i64_in _ (by omega)
  have hb : ((cap - l.length : Nat) : Int) = (cap : Int) - (l.length : Int) := by omega
  rw [hb]
  clear hb
  go_enter Tryz.func76, Tryz.ntmps76
  go_wp2_with fail
  go_quiet (fail)
  go_wp2
  go_ret
  exact ⟨rfl, _, rfl⟩

/-- A new queue. -/
def Fresh (w : World) (cap : Nat) (e : Ending) (w' : World) : Prop := ∃ F K, e = .returned (.tuple #[.pointer (some ⟨F, 0, none⟩), .int .i64 0]) ∧ Qs w' F K cap [] ∧ Below w.heap.size w w' ∧ w.heap.size ≤ F ∧ w.heap.size ≤ K

set_option maxHeartbeats 1000000 in
theorem new_err (n : Int) (h : n < 1 ∨ 4096 < n) (w : World) :
    Calls Tryz.prog 55 #[.int .i64 n] w fun e w' => e = .returned (.tuple #[.pointer none, .int .i64 2]) ∧ w = w' := by
  go_enter Tryz.func55, Tryz.ntmps55
  rcases h with h | h
  · go_wp2
    go_ret2
    exact ⟨rfl, rfl⟩
  · have h' : ¬ n < 1 := by omega
    go_wp2
    go_ret2
    exact ⟨rfl, rfl⟩
end Go.Proofs.YtkokcfhfgnkdfaaGreatDoor.L1

/- New; front: its copies. -/
namespace Go.Proofs.YtkokcfhfgnkdfaaGreatDoor.L1
open Go.RowKit

theorem made_cells (n j : Nat) (h : j < n) : (madeCells #[.int .u8 0] n)[j]? = some (.int .u8 0) := by
  simp [madeCells, h, Nat.mod_one]
theorem made_eq (n : Nat) : madeCells #[.int .u8 0] n = ((List.replicate n (Value.int .u8 0))).toArray := by
  apply Array.ext_getElem?
  intro j
  by_cases h : j < n
  · rw [made_cells n j h]; simp [h]
  · simp [madeCells, h]
theorem make_bytes (n : Nat) (h : n ≤ 100000) (W : World) : (Instr.makeSlice 117 (.int .i64 n) (.int .i64 n)).run Tryz.prog W = .ok (.slice (some ⟨W.heap.size, 0, none⟩) n n) (W.alloc (.cells (madeCells #[.int .u8 0] n) 5)) := by
  obtain ⟨i, hi, hz, hb, hs⟩ : ∃ i, Tryz.prog.info? 5 = some i ∧ i.zero = some (.int .u8 0) ∧ i.bytes = 1 ∧ i.size = 1 := by
    have z : (Tryz.prog.info? 5).bind (·.zero) = some (.int .u8 0) := by kernel_rfl
    have b : (Tryz.prog.info? 5).map (·.bytes) = some 1 := by kernel_rfl
    have s : (Tryz.prog.info? 5).map (·.size) = some 1 := by kernel_rfl
    cases hi : Tryz.prog.info? 5 with
    | none => rw [hi] at z; cases z
    | some i => rw [hi] at z b s; exact ⟨i, rfl, z, Option.some.inj b, Option.some.inj s⟩
  have := run_make (P := Tryz.prog) W 117 5 i (.int .u8 0) (by kernel_rfl) hi hz .i64 .i64 (n : Int) (n : Int) (by omega) (by omega) (by rw [hb]; omega) (by omega)
  simp only [Int.toNat_natCast, hs, Nat.mul_one] at this
  exact this

theorem new_world (w : World) (n : Nat) (h : 1 ≤ n) (h2 : n ≤ 4096) :
    Qs ((w.alloc (.cells (madeCells #[.int .u8 0] n) 5)).alloc (.cells #[.slice (some ⟨w.heap.size, 0, none⟩) n n, .int .i64 0, .int .i64 0] 121)) (w.heap.size + 1) w.heap.size n [] := by
  refine ⟨0, List.replicate n 0, ⟨?_, ?_, ?_, ?_, ?_, by simp, ?_, ?_, by omega, by omega, by simp, h2⟩, by simp [ringOf]⟩
  · go_simp
  · go_simp
  · go_simp
  · go_simp
  · go_simp
  · intro j hj
    refine (keep_alloc _ ((World.cell?_alloc_new w _ 5 j).trans (made_cells n j hj))).trans ?_
    simp [List.getD_eq_getElem?_getD, hj]
  · intro j hj
    go_simp

set_option maxRecDepth 100000 in
set_option maxHeartbeats 1000000 in
theorem new_ok (n : Nat) (h : 1 ≤ n) (h2 : n ≤ 4096) (w : World) :
    Calls Tryz.prog 55 #[.int .i64 n] w (Fresh w n) := by
  have hmk := make_bytes n (by omega)
  have i1 : ¬ (n : Int) < 1 := by omega
  have i2 : (n : Int) ≤ 4096 := by omega
  go_enter Tryz.func55, Tryz.ntmps55
  go_wp2
  go_ret2
  refine ⟨w.heap.size + 1, w.heap.size, rfl, new_world w n h h2, ?_, by omega, Nat.le_refl _⟩
  exact ((Below.refl _ w).alloc (Nat.le_refl _) _).alloc (by simp) _

/-- The cells that front copies first, and then. -/
def piece (cs : List Int) (o k : Nat) : List Value := (List.range k).map fun j => .int .u8 (cs.getD (o + j) 0)
theorem piece_length (cs : List Int) (o k : Nat) : (piece cs o k).length = k := by simp [piece]
theorem piece_get {cs : List Int} {o k j : Nat} {v : Value} (h : (piece cs o k)[j]? = some v) : j < k ∧ v = .int .u8 (cs.getD (o + j) 0) := by
  have hj : j < k := by
    have := (List.getElem?_eq_some_iff.1 h).1
    simpa [piece] using this
  refine ⟨hj, ?_⟩
  simp [piece, hj] at h
  exact h.symm
theorem piece_one (cs : List Int) (o k : Nat) : ∀ v ∈ piece cs o k, v.oneCell' = true := by
  intro v hv
  simp only [piece, List.mem_map] at hv
  obtain ⟨_, _, rfl⟩ := hv
  rfl
theorem pieces (cs : List Int) (first m k : Nat) (hf : first < cs.length) (hm : m ≤ cs.length) (hk : k = min m (cs.length - first)) (Z : List Value) (hZ : Z.length = m) :
    splice (splice Z 0 (piece cs first k)) k (piece cs 0 (m - k)) = (ringOf cs first m).map (Value.int .u8) := by
  have hkm : k ≤ m := by omega
  have e1 : splice Z 0 (piece cs first k) = piece cs first k ++ Z.drop k := by simp [splice, piece_length]
  have e2 : splice (splice Z 0 (piece cs first k)) k (piece cs 0 (m - k)) = piece cs first k ++ piece cs 0 (m - k) := by
    rw [e1]
    simp only [splice, piece_length]
    rw [List.take_left' (piece_length _ _ _), List.drop_of_length_le (by simp [piece_length]; omega), List.append_nil]
  rw [e2]
  apply List.ext_getElem
  · simp [piece_length, ringOf]; omega
  · intro i h1 h2
    have hi : i < m := by simp [ringOf] at h2; exact h2
    by_cases h : i < k
    · rw [List.getElem_append_left (by simpa [piece_length] using h)]
      simp [piece, ringOf, Nat.mod_eq_of_lt (show first + i < cs.length by omega)]
    · rw [List.getElem_append_right (by simpa [piece_length] using h)]
      have e : (first + i) % cs.length = i - k := by
        have : first + i = (i - k) + cs.length := by omega
        rw [this, Nat.add_mod_right, Nat.mod_eq_of_lt (by omega)]
      simp [piece, ringOf, e]

end Go.Proofs.YtkokcfhfgnkdfaaGreatDoor.L1

/- front. -/
namespace Go.Proofs.YtkokcfhfgnkdfaaGreatDoor.L1
open Go.RowKit

/-- What front makes: a new block with the bytes. -/
def Bytes (w : World) (l : List UInt8) (e : Ending) (w' : World) : Prop :=
  e = .returned (.slice (some ⟨w.heap.size, 0, none⟩) l.length l.length) ∧ w'.heap[w.heap.size]? = some (.cells ((l.map fun b => Value.int .u8 (b.toNat : Int)).toArray) 5 (0, 0)) ∧ Below w.heap.size w w'

theorem ring_take (cs : List Int) (first : Nat) {m n : Nat} (h : m ≤ n) : ringOf cs first m = (ringOf cs first n).take m := by
  simp only [ringOf, ← List.map_take]
  congr 1
  apply List.ext_getElem
  · simp; omega
  · intro i h1 h2
    simp
theorem add_at (b o j : Nat) : (⟨b, o, none⟩ : Addr).add j = ⟨b, o + j, none⟩ := by simp [Addr.add]
set_option maxRecDepth 100000 in
set_option maxHeartbeats 2000000 in
theorem front_any (F K cap first : Nat) (cs : List Int) (l : List UInt8) (n : Int) (m : Nat) (w : World) (h : IsQ w F K cap first l.length cs) (hr : ringOf cs first l.length = l.map fun b => (b.toNat : Int))
    (hm : (n ≤ 0 ∧ m = 0) ∨ (0 < n ∧ n ≤ l.length ∧ (m : Int) = n) ∨ ((l.length : Int) < n ∧ m = l.length)) :
    Calls Tryz.prog 123 #[.pointer (some ⟨F, 0, none⟩), .int .i64 n] w (Bytes w (l.take m)) := by
  have hml : m ≤ l.length := by omega
  have hlen : (l.take m).length = m := by simp; omega
  have c0 := h.c0
  have c1 := h.c1
  have c2 := h.c2
  have hf := h.first_lt
  have hcl := h.cap_le
  have hcn := h.cnt_le
  have hcs := h.len
  obtain ⟨lF, lK⟩ := h.lt
  have hmk := make_bytes m (by omega)
  generalize hcnt : l.length = cnt at *
  have HH := Lib.hid h
  have HR := Lib.hid hr
  have Hcs := Lib.hid hcs
  have Hcnt := Lib.hid hcnt
  have Hlen := Lib.hid hlen
  have i0 : (0 : Int) ≤ (cnt : Int) := by omega
  clear h hr hcs hcnt hlen
  go_enter Tryz.func123, Tryz.ntmps123
  go_upto_region 1 with fail
  go_cut [1] (fun s wx => s = .int .i64 m ∧ w = wx)
  case first =>
    rcases hm with ⟨h1, rfl⟩ | ⟨h1, h2, h3⟩ | ⟨h1, rfl⟩
    · go_wp2_with fail
      go_meet
      exact ⟨rfl, rfl⟩
    · go_wp2_with fail
      go_meet
      exact ⟨by rw [h3], rfl⟩
    · go_wp2_with fail
      all_goals
        go_meet
        exact ⟨by (try congr 1); (try omega), rfl⟩
  case rest =>
    obtain ⟨rfl, rfl⟩ := hcut
    clear hm
    go_wp2_with fail
    obtain ⟨V, hV⟩ : ∃ V, V = w.alloc (.cells (madeCells #[.int .u8 0] m) 5) := ⟨_, rfl⟩
    rw [← hV]
    have hB : Below w.heap.size w V := by rw [hV]; exact (Below.refl _ w).alloc (Nat.le_refl _) _
    have hG : V.heap[w.heap.size]? = some (.cells (List.replicate m (Value.int .u8 0)).toArray 5 (0, 0)) := by rw [hV, ← made_eq]; exact World.alloc_heap_new w _
    have v0 := (hB.cell (p := ⟨F, 0, none⟩) lF).trans c0
    have v1 := (hB.cell (p := ⟨F, 1, none⟩) lF).trans c1
    clear c0 c1 c2 hmk hV
    have s1 : IntKind.i64.wrap ((first : Int) + (m : Int)) = (first : Int) + (m : Int) := IntWalk.i64_in _ (by omega)
    obtain ⟨en, hen⟩ : ∃ en, en = min (first + m) cap := ⟨_, rfl⟩
    have Hen := Lib.hid hen
    clear hen
    go_upto_region 3 with fail
    go_cut [6] (fun s wx => s = .int .i64 en ∧ ∃ q, wx = V.drewN q)
    case first =>
      by_cases hw : first + m ≤ cap
      · have hw' : (first : Int) + (m : Int) ≤ (cap : Int) := by omega
        go_quiet (fail)
        go_wp2_with fail
        all_goals
          go_meet
          exact ⟨by have := Hen.out; congr 1; omega, _, rfl⟩
      · have hw' : ¬ (first : Int) + (m : Int) ≤ (cap : Int) := by omega
        go_quiet (fail)
        go_wp2_with fail
        all_goals
          go_meet
          exact ⟨by have := Hen.out; congr 1; omega, _, rfl⟩
    case rest =>
      obtain ⟨rfl, q, rfl⟩ := hcut
      have e1 : first ≤ en := by have := Hen.out; omega
      have e2 : en ≤ cap := by have := Hen.out; omega
      have e3 : (first : Int) ≤ (en : Int) := by omega
      have e4 : (en : Int) ≤ (cap : Int) := by omega
      go_wp2_with fail
      generalize hVq : V.drewN q = Vq
      have hB : Below w.heap.size w Vq := by rw [← hVq]; exact ⟨hB.os, hB.tape, hB.output, hB.size, hB.block⟩
      have hG : Vq.heap[w.heap.size]? = some (.cells (List.replicate m (Value.int .u8 0)).toArray 5 (0, 0)) := by rw [← hVq]; exact hG
      have v0 : Vq.cell? ⟨F, 0, none⟩ = some (.slice (some ⟨K, 0, none⟩) cap cap) := by rw [← hVq]; exact v0
      have v1 : Vq.cell? ⟨F, 1, none⟩ = some (.int .i64 first) := by rw [← hVq]; exact v1
      clear hVq
      go_still_tail 12, (by kernel_rfl)
      have hk1 : first + (en - first) = en := by omega
      have hk2 : en - first = min m (cap - first) := by have := Hen.out; omega
      obtain ⟨sp, hsp⟩ : ∃ sp : Option Addr, sp = if en = first then some ⟨K, 0, none⟩ else some ⟨K, first, none⟩ := ⟨_, rfl⟩
      rw [← hsp]
      have hsp' : 0 < en - first → sp = some ⟨K, first, none⟩ := fun h0 => by rw [hsp, if_neg (by omega)]
      clear hsp
      generalize hkk : en - first = k at *
      have Hk2 := Lib.hid hk2
      have Hsp := Lib.hid hsp'
      clear hk1 hk2 hsp' hkk
      change wpList _ _ _ _ _ Vq.drew
      have hB : Below w.heap.size w Vq.drew := hB.drew
      have hG : Vq.drew.heap[w.heap.size]? = some (.cells (List.replicate m (Value.int .u8 0)).toArray 5 (0, 0)) := hG
      generalize Vq.drew = Vr at *
      have v0 : Vr.cell? ⟨F, 0, none⟩ = some (.slice (some ⟨K, 0, none⟩) cap cap) := (hB.cell (p := ⟨F, 0, none⟩) lF).trans HH.out.c0
      have km : k ≤ m := by have := Hk2.out; omega
      refine wpList_copy_splice rfl (.tmp 30) (.tmp 41) 117 117 rfl 5 (by kernel_rfl) (by kernel_rfl) _ _ m m k k rfl rfl w.heap.size 0 (List.replicate m (Value.int .u8 0)) 5 hG (piece cs first k) (by rw [piece_length]; exact (Nat.min_eq_left km).symm)
        (fun h0 => ⟨rfl, _, Hsp.out (by rwa [piece_length] at h0), fun j v hv => ?src1⟩) (by rw [piece_length]; simp; exact km) (piece_one _ _ _) w.heap.size w hB (Nat.le_refl _) ?_
      case src1 =>
        obtain ⟨hj, rfl⟩ := piece_get hv
        have := Hk2.out
        rw [add_at]
        exact (hB.cell (p := ⟨K, first + j, none⟩) lK).trans (HH.out.k (first + j) (by omega))
      rw [piece_length]
      intro Vs hGs hBs
      clear v0 v1 hG hB
      have v0 : Vs.cell? ⟨F, 0, none⟩ = some (.slice (some ⟨K, 0, none⟩) cap cap) := (hBs.cell (p := ⟨F, 0, none⟩) lF).trans HH.out.c0
      obtain ⟨r, hr⟩ : ∃ r : Nat, r = m - k := ⟨_, rfl⟩
      have hmr : (m : Int) - (k : Int) = (r : Int) := by omega
      have Hr := Lib.hid hr
      clear hr
      have kr : (k : Int) ≤ (m : Int) := by omega
      have rr : (r : Int) ≤ (cap : Int) := by omega
      go_wp2_with fail
      go_still_tail 10, (by kernel_rfl)
      obtain ⟨dp, hdp⟩ : ∃ dp : Option Addr, dp = if m = k then some ⟨w.heap.size, 0, none⟩ else some ⟨w.heap.size, k, none⟩ := ⟨_, rfl⟩
      rw [← hdp]
      have hdp' : 0 < r → dp = some ⟨w.heap.size, k, none⟩ := fun h0 => by rw [hdp, if_neg (by omega)]
      clear hdp
      have hrr : m - k = r := Hr.out.symm
      rw [hrr]
      have Hdp := Lib.hid hdp'
      clear hdp' hrr
      change wpList _ _ _ _ _ Vs.drew
      have hB : Below w.heap.size w Vs.drew := hBs.drew
      have hG := hGs.out
      refine wpList_copy_splice rfl (.tmp 48) (.tmp 55) 117 117 rfl 5 (by kernel_rfl) (by kernel_rfl) _ _ r r r r rfl rfl w.heap.size k (splice (List.replicate m (Value.int .u8 0)) 0 (piece cs first k)) 5 hG (piece cs 0 r) (by rw [piece_length]; exact (Nat.min_eq_left (Nat.le_refl r)).symm)
        (fun h0 => ⟨Hdp.out (by rwa [piece_length] at h0), _, rfl, fun j v hv => ?src2⟩) (by rw [piece_length, length_splice _ _ _ (by rw [piece_length]; simp; exact km)]; simp; omega) (piece_one _ _ _) w.heap.size w hB (Nat.le_refl _) ?_
      case src2 =>
        obtain ⟨hj, rfl⟩ := piece_get hv
        rw [add_at]
        exact (hB.cell (p := ⟨K, 0 + j, none⟩) lK).trans (HH.out.k (0 + j) (by omega))
      rw [piece_length]
      intro Vt hGt hBt
      have hz : splice (splice (List.replicate m (Value.int .u8 0)) 0 (piece cs first k)) k (piece cs 0 r) = ((l.take m).map fun b => Value.int .u8 (b.toNat : Int)) := by
        rw [Hr.out, pieces cs first m k (by rw [Hcs.out]; exact hf) (by rw [Hcs.out]; omega) (by rw [Hcs.out]; exact Hk2.out) _ (by simp), ring_take cs first hml, HR.out, ← List.map_take, List.map_map]
        rfl
      rw [hz] at hGt
      have HGt := Lib.hid hGt
      clear hGt hGs hG hz hBs hB
      go_wp2
      go_ret
      exact ⟨by rw [Hlen.out]; rfl, HGt.out.out, hBt⟩
end Go.Proofs.YtkokcfhfgnkdfaaGreatDoor.L1

/- Peek, Pop, Clear. -/
namespace Go.Proofs.YtkokcfhfgnkdfaaGreatDoor.L1
open Go.RowKit

/-- A list's string. -/
def str (l : List UInt8) : ByteArray := ⟨l.toArray⟩
theorem str_size (l : List UInt8) : (str l).size = l.length := by simp [str, ByteArray.size]
theorem str_list (s : ByteArray) : str s.data.toList = s := rfl
theorem str_toList (l : List UInt8) : (str l).toList = l := (ByteArray.toList_eq _).trans rfl
theorem str_inj {a b : List UInt8} (h : str a = str b) : a = b := by
  have := congrArg (fun s => s.data.toList) h
  simpa [str] using this

theorem front_n (F K cap : Nat) (l : List UInt8) (n : Int) (w : World) (h : Qs w F K cap l) :
    Calls Tryz.prog 123 #[.pointer (some ⟨F, 0, none⟩), .int .i64 n] w (Bytes w (l.take n.toNat)) := by
  obtain ⟨first, cs, hq, hr⟩ := h
  have e : l.take n.toNat = l.take (min n.toNat l.length) := by
    rcases Nat.le_total n.toNat l.length with h | h
    · rw [Nat.min_eq_left h]
    · rw [Nat.min_eq_right h, List.take_of_length_le h, List.take_length]
  rw [e]
  refine front_any F K cap first cs l n (min n.toNat l.length) w hq hr ?_
  omega

theorem conv_row (w1 : World) (G : Nat) (l : List UInt8) (hh : w1.heap[G]? = some (.cells ((l.map fun b => Value.int .u8 (b.toNat : Int)).toArray) 5 (0, 0))) :
    (convert 117 9 (.slice (some ⟨G, 0, none⟩) l.length l.length)).run Tryz.prog w1 = .ok (.string (str l)) w1 := by
  refine run_convert_bytes_back (P := Tryz.prog) w1 117 9 5 ⟨G, 0, none⟩ l.length l (by kernel_rfl) (by kernel_rfl) (by kernel_rfl) (fun j hj => ?_)
  rw [add_at]
  simp [World.cell?, hh, hj]

set_option maxHeartbeats 1000000 in
theorem peek_any (F K cap : Nat) (l : List UInt8) (n : Int) (w : World) (h : Qs w F K cap l) :
    Calls Tryz.prog 104 #[.pointer (some ⟨F, 0, none⟩), .int .i64 n] w fun e w' => e = .returned (.string (str (l.take n.toNat))) ∧ Below w.heap.size w w' := by
  have hF := front_n F K cap l n w h
  generalize l.take n.toNat = t at *
  have H := Lib.hid hF
  clear hF
  obtain ⟨first, cs, hq, hr⟩ := h
  have c0 := hq.c0
  clear hq hr
  go_enter Tryz.func104, Tryz.ntmps104
  go_wp2_with (first | (go_at_call 123; refine H.out.mono ?_; rintro e w1 ⟨rfl, hh, hb⟩; (have hcv := conv_row w1 w.heap.size _ hh); clear hh))
  go_ret
  exact ⟨rfl, hb⟩
set_option maxHeartbeats 400000 in
theorem peek_nil (n : Int) (w : World) :
    Calls Tryz.prog 104 #[.pointer none, .int .i64 n] w fun e w' => e = .returned (.string (str [])) ∧ w = w' := by
  go_enter Tryz.func104, Tryz.ntmps104
  go_wp2
  go_ret
  exact ⟨rfl, rfl⟩

set_option maxRecDepth 100000 in
set_option maxHeartbeats 1000000 in
theorem clear_any (F K cap : Nat) (l : List UInt8) (w : World) (h : Qs w F K cap l) :
    Calls Tryz.prog 89 #[.pointer (some ⟨F, 0, none⟩)] w fun e w' => e = .returned (.int .i64 l.length) ∧ Qs w' F K cap [] ∧ Off F K w w' := by
  have hle : l.length ≤ 1000000 := by have := h.le; have := h.cap_le; omega
  have c2 : w.cell? ⟨F, 2, none⟩ = some (.int .i64 l.length) := by obtain ⟨first, cs, hq, hr⟩ := h; exact hq.c2
  have H := Lib.hid h
  clear h
  go_enter Tryz.func89, Tryz.ntmps89
  go_wp2_with fail
  go_still_tail 8, (by kernel_rfl)
  change wpList _ _ _ _ _ w.drew
  go_wp2_with (first | (go_at_call 105; refine (repeat_any F K cap l l.length hle _ H.out.drew).mono ?_; rintro e w1 ⟨rfl, hq, ho⟩))
  go_ret
  exact ⟨ret_int (by omega), by simpa using hq, ((Off.refl F K w).drew).trans ho⟩
end Go.Proofs.YtkokcfhfgnkdfaaGreatDoor.L1

/- Pop. -/
namespace Go.Proofs.YtkokcfhfgnkdfaaGreatDoor.L1
open Go.RowKit

set_option maxHeartbeats 1000000 in
theorem pop_any (F K cap : Nat) (l : List UInt8) (n : Int) (w : World) (h : Qs w F K cap l) :
    Calls Tryz.prog 79 #[.pointer (some ⟨F, 0, none⟩), .int .i64 n] w fun e w' => e = .returned (.string (str (l.take n.toNat))) ∧ Qs w' F K cap (l.drop n.toNat) ∧ Off F K w w' := by
  have hP := peek_any F K cap l n w h
  have hlt := h.lt
  have c2 : w.cell? ⟨F, 2, none⟩ = some (.int .i64 l.length) := by obtain ⟨first, cs, hq, hr⟩ := h; exact hq.c2
  have hlen : (l.take n.toNat).length ≤ 1000000 := by have := h.le; have := h.cap_le; rw [List.length_take]; omega
  have hdr : l.drop (l.take n.toNat).length = l.drop n.toNat := by
    rw [List.length_take]
    rcases Nat.le_total n.toNat l.length with h | h
    · rw [Nat.min_eq_left h]
    · rw [Nat.min_eq_right h, List.drop_length, List.drop_of_length_le h]
  have hmn : min (l.take n.toNat).length l.length = (l.take n.toNat).length := by simp
  have hnil : l.take n.toNat = [] → l.drop n.toNat = l := fun e => by
    rw [← hdr, e]; rfl
  generalize l.take n.toNat = t at *
  have H := Lib.hid h
  have HP := Lib.hid hP
  have Hdr := Lib.hid hdr
  have Hmn := Lib.hid hmn
  clear h hP hdr hmn
  by_cases ht : t = []
  · have Hnil := Lib.hid (hnil ht)
    clear hnil
    subst ht
    have e0 : str [] = ByteArray.mk #[] := rfl
    rw [e0] at HP ⊢
    go_enter Tryz.func79, Tryz.ntmps79
    go_wp2_with (first | (go_at_call 104; refine HP.out.mono ?_; rintro e w1 ⟨rfl, hb⟩))
    go_ret
    exact ⟨rfl, by rw [Hnil.out]; exact H.out.below hb hlt.1 hlt.2, Off.of_below hb⟩
  · clear hnil
    have f1 : (str t).toList.isEmpty = false := by rw [str_toList]; simpa using ht
    have f2 : (str t).toList ≠ [] := by rw [str_toList]; exact ht
    have f3 : (str t).size = t.length := str_size t
    go_enter Tryz.func79, Tryz.ntmps79
    go_wp2_with (first
      | (go_at_call 104; refine HP.out.mono ?_; rintro e w1 ⟨rfl, hb⟩)
      | (go_at_call 105; refine (repeat_any F K cap l t.length hlen _ (H.out.below hb hlt.1 hlt.2)).mono ?_; rintro e w2 ⟨rfl, hq, ho⟩))
    go_ret
    refine ⟨rfl, by rw [← Hdr.out]; exact hq, (Off.of_below hb).trans ho⟩
end Go.Proofs.YtkokcfhfgnkdfaaGreatDoor.L1

/- bytesOf: its contract. -/
namespace Go.Proofs.YtkokcfhfgnkdfaaGreatDoor.L1
open Go.RowKit Go.Shelf
attribute [local go_sem] Oper.semAt_some

theorem bytes_take (s : ByteArray) (k : Nat) (h : k < s.size) : s.data.toList.take (k + 1) = s.data.toList.take k ++ [s[k]] := by
  rw [List.take_succ_eq_append_getElem (by simpa using h)]; rfl

set_option maxHeartbeats 1000000 in
theorem bytesOf_in (F : Fence) (n : Nat) (h29 : F.fn 121) (hro : F.round = none) (s : ByteArray) (w : World) :
    CallsIn F n Tryz.prog 121 #[.string s] w fun e w' => e = .returned (.func (.func 127) #[] #[.pointer (some ⟨w.heap.size, 0, none⟩)]) ∧ w' = w.alloc (.cells #[.string s] 9) := by
  refine callsIn_of_wp Tryz.func121 rfl h29 ?_ hro
  simp only [Tryz.ntmps121, List.size_toArray, List.length_cons, List.length_nil, Nat.reduceAdd, Nat.reduceSub, Array.replicate_succ, Array.replicate_zero, List.push_toArray, List.append_toArray, List.nil_append, List.cons_append]
  gi_wp2
  go_ret
  exact ⟨rfl, rfl⟩

set_option maxRecDepth 100000 in
set_option maxHeartbeats 2000000 in
theorem each_in (F : Fence) (n : Nat) (h31 : F.fn 127) (hro : F.round = none) (hn : 1 ≤ n) (l Bs : Nat) (s : ByteArray) (hs : s.size ≤ 5000) (J Jx : List UInt8 → World → Prop)
    (hY : ∀ pre x W, J pre W → pre.length < s.size → YieldAt F (n - 1) Tryz.prog l #[.int .u8 (x : UInt8).toNat] W fun e W' =>
      (e = .returned (.bool true) ∧ J (pre ++ [x]) W' ∧ W'.heap[Bs]? = W.heap[Bs]?) ∨ (e = .returned (.bool false) ∧ Jx (pre ++ [x]) W'))
    (W : World) (hBs : W.cell? ⟨Bs, 0, none⟩ = some (.string s)) (h0 : J [] W) :
    CallsIn F n Tryz.prog 127 #[.func (.yield l) #[] #[], .pointer (some ⟨Bs, 0, none⟩)] W fun e W' => (∃ v, e = .returned v) ∧
      ((∃ ys, ys = s.data.toList ∧ J ys W') ∨ (∃ pre, pre <+: s.data.toList ∧ Jx pre W')) := by
  refine callsIn_of_wp Tryz.func127 rfl h31 ?_ hro
  simp only [Tryz.ntmps127, List.size_toArray, List.length_cons, List.length_nil, Nat.reduceAdd, Nat.reduceSub, Array.replicate_succ, Array.replicate_zero, List.push_toArray, List.append_toArray, List.nil_append, List.cons_append]
  gi_wp2
  gi_loopw [6] (fun i wr => ∃ k : Nat, k ≤ s.size ∧ i = .int .i64 k ∧ J (s.data.toList.take k) wr ∧ wr.heap[Bs]? = W.heap[Bs]?)
    (fun i _ => s.size - (intOf i).toNat)
  case atStart => exact ⟨0, Nat.zero_le _, rfl, h0, rfl⟩
  case round =>
    obtain ⟨k, hk, rfl, hJs, hnx⟩ := hrel
    by_cases hlt : k < s.size
    · have hc := (World.cell?_of_block (a := ⟨Bs, 0, none⟩) (w := W) hnx).trans hBs
      obtain ⟨fn, tmps, assign, body, hy, hR⟩ := hY _ s[k] wr hJs (by simp; omega)
      have Hnx := Lib.hid hnx
      have HJ := Lib.hid (bytes_take s k hlt)
      clear hnx
      gi_wp2
      refine hR.mono ?_
      rintro e W3 (⟨rfl, hJ3, hk3⟩ | ⟨rfl, hJx3⟩)
      · gi_wp2
        go_roundw
        case rel => exact ⟨k + 1, by omega, by simp, by rw [HJ.out]; exact hJ3, hk3.trans Hnx.out⟩
        case measure => simp [intOf]; omega
      · gi_wp2
        refine bodyPost_ret (results_none rfl _ _ _) rfl ?_
        exact ⟨⟨_, rfl⟩, .inr ⟨_, by rw [← HJ.out]; exact List.take_prefix _ _, hJx3⟩⟩
    · obtain rfl : k = s.size := by omega
      gi_wp2
      go_end0
      exact ⟨⟨_, rfl⟩, .inl ⟨_, by rw [List.take_of_length_le (by simp)], hJs⟩⟩
end Go.Proofs.YtkokcfhfgnkdfaaGreatDoor.L1

/- fill, Push. -/
namespace Go.Proofs.YtkokcfhfgnkdfaaGreatDoor.L1
open Go.RowKit Go.Shelf
attribute [local go_sem] Oper.semAt_some

section
variable {F : Fence} {n : Nat} {P : Program} {b : Frame} {a : Act} {k : List Item} {cs : List Frame} {w : World} {Q : Exit → Act → World → Prop}

theorem stepR_scope {c : Code} : step P (lone (b.atR a (.code (.scope c) :: k)) cs w) = .next (lone (b.atR a (.code c :: .inScope c :: k)) cs w) :=
  step_lone_go (by simp [stepG, stepG.exec, Frame.atR])
theorem stepR_inScope {c : Code} : step P (lone (b.atR a (.inScope c :: k)) cs w) = .next (lone (b.atR a k) cs w) :=
  step_lone_go (by simp [stepG, stepG.exec, Frame.atR])

/-- A scope through which the run goes without a goto, inside a fence. -/
theorem wpIn_scope_straight {c : Code} (h : c.wpIn F n P (Exit.noGoto Q) a w) : (Code.scope c).wpIn F n P Q a w := by
  intro b k cs hro hb hr
  have h0 : (lone (b.atR a (.code (.scope c) :: k)) cs w).fenced P F := fenced_calm hb hr rfl
  obtain ⟨e, a₁, w₁, hq, harr⟩ := h b (.inScope c :: k) cs hro hb hr
  cases e with
  | normal => exact ⟨.normal, a₁, w₁, hq, .head h0 stepR_scope (StepsIn.trans harr (.one (fenced_calm hb hr rfl) stepR_inScope))⟩
  | exit id =>
    have hx : exitTo id (.inScope c :: k) = exitTo id k := by simp [exitTo]
    exact ⟨.exit id, a₁, w₁, hq, fun k' hk => .head h0 stepR_scope (harr.1 k' (by rw [hx]; exact hk)),
      fun hr' hk => let ⟨k₁, h1, h2⟩ := harr.2 hr' (by rw [hx]; exact hk); ⟨k₁, h1, .head h0 stepR_scope h2⟩⟩
  | goto l => exact hq.elim
  | ret => exact ⟨_, a₁, w₁, hq, .of_steps (.one h0 stepR_scope) harr⟩
  | panic ch => exact ⟨_, a₁, w₁, hq, .of_steps (.one h0 stepR_scope) harr⟩
  | outgrown => exact ⟨_, a₁, w₁, hq, .of_steps (.one h0 stepR_scope) harr⟩
end

/-- The text's own block is kept. -/
def KeepsAt (Bs : Nat) (A W : World) : Prop := W.heap[Bs]? = A.heap[Bs]?
theorem each_stops (F : Fence) (n : Nat) (h31 : F.fn 127) (hro : F.round = none) (hn : 1 ≤ n) (Bs : Nat) (s : ByteArray) (hs : s.size ≤ 5000) (w : World)
    (hc : w.cell? ⟨Bs, 0, none⟩ = some (.string s)) :
    SeqStopsK F n Tryz.prog 127 #[.pointer (some ⟨Bs, 0, none⟩)] (fun x : UInt8 => #[Value.int .u8 (x.toNat : Int)]) (KeepsAt Bs) (fun ys => ys = s.data.toList) (fun pre => pre <+: s.data.toList) s.size w := fun l J Jx W hW _ _ hY h0 => by
  have hc' := (hW.cell (p := ⟨Bs, 0, none⟩) (blt hc)).trans hc
  exact each_in F n h31 hro hn l Bs s hs J Jx hY W hc' h0
theorem keepsAt_t {Bs : Nat} {A B C : World} (h : KeepsAt Bs A B) (k : KeepsAt Bs B C) : KeepsAt Bs A C := Eq.trans k h
theorem keepsAt_b {Bs : Nat} {w : World} (hn : Bs < w.heap.size) (W : World) (l : Nat) (o o' : Obj) (hl : w.heap.size ≤ l) (_ : W.heap[l]? = some o) (_ : o.isCells = false) (_ : o.isWalk = false) : KeepsAt Bs W (W.putObj l o') :=
  World.putObj_heap_other (by omega)

theorem Off.keeps {Fb Kb B : Nat} {A W : World} (h : Off Fb Kb A W) (hF : Fb < B) (hK : Kb < B) : KeepsFrom B A W :=
  ⟨h.size, fun k o hB hk _ => (h.block k (Array.getElem?_eq_some_iff.1 hk).1 (by omega) (by omega)).trans hk⟩
theorem Off.grown {Fb Kb B : Nat} {A W W' : World} {row : Option Nat} (h : Off Fb Kb A W) (hB : A.heap.size ≤ B) (hg : W.grownBy W' row) (hr : ∀ r, row = some r → B ≤ r) : Off Fb Kb A W' :=
  ⟨hg.os.trans h.os, hg.tape.trans h.tape, hg.output.trans h.output, Nat.le_trans h.size hg.size, fun i hi h1 h2 =>
    (hg.block i (Nat.lt_of_lt_of_le hi h.size) (fun e => by have := hr i e.symm; omega)).trans (h.block i hi h1 h2)⟩
theorem Qs.grown {Fb Kb cap B : Nat} {l : List UInt8} {W W' : World} {row : Option Nat} (h : Qs W Fb Kb cap l) (hF : Fb < B) (hK : Kb < B) (hg : W.grownBy W' row) (hr : ∀ r, row = some r → B ≤ r) : Qs W' Fb Kb cap l :=
  h.same (hg.block Fb h.lt.1 (fun e => by have := hr Fb e.symm; omega)) (hg.block Kb h.lt.2 (fun e => by have := hr Kb e.symm; omega))
/-- How many of a text are put where some are there already. -/
def fits (cap have_ n : Nat) : Nat := min n (cap - have_)

/-- What holds while bytes are put. -/
structure Going (Fb Kb cap T N : Nat) (l : List UInt8) (w : World) (pre : List UInt8) (W : World) : Prop where
  q : Qs W Fb Kb cap (l ++ pre)
  t : W.cell? ⟨T, 0, none⟩ = some (.func (.func 103) #[.pointer (some ⟨Fb, 0, none⟩)] #[])
  c : W.cell? ⟨N, 0, none⟩ = some (.int .i64 pre.length)
  f : W.frozen? ⟨N, 0, none⟩ = false
  o : Off Fb Kb w W
  z : N + 1 < W.heap.size
/-- What holds where one was refused. -/
structure Over (Fb Kb cap N : Nat) (l : List UInt8) (w : World) (pre : List UInt8) (W : World) : Prop where
  q : Qs W Fb Kb cap (l ++ pre.dropLast)
  full : (l ++ pre.dropLast).length = cap
  c : W.cell? ⟨N, 0, none⟩ = some (.int .i64 pre.dropLast.length)
  o : Off Fb Kb w W

theorem ownFrom_going {Fb Kb cap T N B : Nat} {l : List UInt8} {w : World} (hF : Fb < B) (hK : Kb < B) (hB : w.heap.size ≤ B) : OwnFrom B (Going Fb Kb cap T N l w) := fun _ _ _ _ h hg hr =>
  ⟨h.q.grown hF hK hg (fun r e => (hr r e).1), cell_kept h.t hg (fun r e => (hr r e).2), cell_kept h.c hg (fun r e => (hr r e).2), (frozen_kept h.c hg (fun r e => (hr r e).2)).trans h.f, h.o.grown hB hg (fun r e => (hr r e).1), Nat.lt_of_lt_of_le h.z hg.size⟩
theorem Off.setNew {Fb Kb N : Nat} {w W : World} (h : Off Fb Kb w W) (hN : w.heap.size ≤ N) (v : Value) : Off Fb Kb w (W.setCell ⟨N, 0, none⟩ v) :=
  ⟨h.os, h.tape, h.output, Nat.le_trans h.size (by simp [World.setCell]), fun i hi h1 h2 => (Below.heap_setCell W ⟨N, 0, none⟩ v i (Nat.ne_of_lt (Nat.lt_of_lt_of_le hi hN))).trans (h.block i hi h1 h2)⟩
theorem ownFrom_over {Fb Kb cap N B : Nat} {l : List UInt8} {w : World} (c : Prop) (hF : Fb < B) (hK : Kb < B) (hB : w.heap.size ≤ B) : OwnFrom B (fun s W => c ∧ Over Fb Kb cap N l w s W) := fun _ _ _ _ h hg hr =>
  ⟨h.1, h.2.q.grown hF hK hg (fun r e => (hr r e).1), h.2.full, cell_kept h.2.c hg (fun r e => (hr r e).2), h.2.o.grown hB hg (fun r e => (hr r e).1)⟩


set_option maxRecDepth 100000 in
set_option maxHeartbeats 2000000 in
theorem fill_any (Fb Kb cap B : Nat) (l : List UInt8) (s : ByteArray) (hs : s.size ≤ 5000) (w : World) (h : Qs w Fb Kb cap l) (hB : w.cell? ⟨B, 0, none⟩ = some (.string s)) :
    Calls Tryz.prog 102 #[.func (.func 103) #[.pointer (some ⟨Fb, 0, none⟩)] #[], .slice (some ⟨B, 0, none⟩) 1 1] w fun e w' =>
      e = .returned (.int .i64 (fits cap l.length s.size : Nat)) ∧ Qs w' Fb Kb cap (l ++ s.data.toList.take (cap - l.length)) ∧ Off Fb Kb w w' := by
  refine (callsIn_wide (n := 5)).1 ?_
  have hro : Fence.wide.round = none := rfl
  obtain ⟨lF, lK⟩ := h.lt
  have hcl := h.cap_le
  have hle := h.le
  have hBl := blt hB
  refine callsIn_of_wp_marks Tryz.func102 rfl trivial ?_ hro
  simp only [Tryz.ntmps102, List.size_toArray, List.length_cons, List.length_nil, Nat.reduceAdd, Nat.reduceSub, Array.replicate_succ, Array.replicate_zero, List.push_toArray, List.append_toArray, List.nil_append, List.cons_append]
  gi_wp2
  refine wpIn_scope_straight ?_
  gi_wp2
  refine wpIn_label ?_
  gi_wp2_with fail
  refine wpIn_loop_rounds 2 ?_
  rw [roundsIn_succ]
  gi_wp2_with (refine ⟨trivial, ?_⟩; gi_at_call 121; refine (bytesOf_in Fence.wide _ trivial hro _ _).mono ?_; rintro e w' ⟨rfl, rfl⟩)
  have bT := Boxed.new w 152 (.func (.func 103) #[.pointer (some ⟨Fb, 0, none⟩)] #[])
  have bN := Boxed.new (w.alloc (.cells #[.func (.func 103) #[.pointer (some ⟨Fb, 0, none⟩)] #[]] 152)) 3 (.int .i64 0)
  have bS := Boxed.new ((w.alloc (.cells #[.func (.func 103) #[.pointer (some ⟨Fb, 0, none⟩)] #[]] 152)).alloc (.cells #[.int .i64 0] 3)) 9 (.string s)
  simp only [World.size_alloc] at bN bS
  refine wpIn_rangeFunc_ownG hro (by omega) (gf := 127) (lb := #[.pointer (some ⟨w.heap.size + 1 + 1, 0, none⟩)]) rfl trivial (enters_of Tryz.func127 (by kernel_rfl) rfl)
    (each_stops Fence.wide _ trivial hro (by omega) (w.heap.size + 1 + 1) s hs _ bS.cell) keepsAt_t (keepsAt_b (by simp)) (Below.refl _ _) (fun _ => rfl)
    (Going Fb Kb cap w.heap.size (w.heap.size + 1) l w) (fun c pre W => c = .exit 0 ∧ Over Fb Kb cap (w.heap.size + 1) l w pre W)
    (ownFrom_going (by simp; omega) (by simp; omega) (by simp; omega)) (fun c => ownFrom_over (c = .exit 0) (by simp; omega) (by simp; omega) (by simp; omega))
    ⟨by simpa using ((h.alloc _).alloc _).alloc _, ((bT.alloc _).alloc _).cell, (bN.alloc _).cell, (bN.alloc _).frozen, (((Off.refl _ _ _).alloc _).alloc _).alloc _, by simp⟩
    (fun x => { tmps := #[Value.func (Fn.func 103) #[Value.pointer (some { block := Fb, off := 0 })] #[],
                Value.slice (some { block := B, off := 0 }) 1 1,
                Value.pointer (some { block := w.heap.size, off := 0 }), undef, Value.int IntKind.i64 0,
                Value.pointer (some { block := w.heap.size + 1, off := 0 }), undef, Value.string s, .int .u8 (x : UInt8).toNat,
                Value.slice (some { block := B, off := 0 }) 1 1, Value.int IntKind.i64 1, Value.int IntKind.i64 0,
                Value.bool true, Value.pointer (some { block := B, off := 0 }), Value.string s, Value.string s, .func (.func 127) #[] #[.pointer (some ⟨w.heap.size + 1 + 1, 0, none⟩)],
                .int .u8 (x : UInt8).toNat, undef, undef, undef, undef, undef, undef, undef, undef], defers := [] }) ?assign ?body ?done ?stop
  case assign =>
    intro l x W K hK
    gi_wp2
    exact hK
  case body =>
    rintro l' pre x W g hlen
    have kq := g.q
    have kT := g.t
    have kc := g.c
    have kf := g.f
    have ko := g.o
    have hp : (pre.length : Int) ≤ 5000 := by omega
    have nF : w.heap.size + 1 ≠ Fb := by omega
    have nK : w.heap.size + 1 ≠ Kb := by omega
    have mF : w.heap.size ≠ Fb := by omega
    have mK : w.heap.size ≠ Kb := by omega
    have sF : w.heap.size + 1 + 1 ≠ Fb := by omega
    have sK : w.heap.size + 1 + 1 ≠ Kb := by omega
    clear bT bN bS
    have HQ := Lib.hid kq
    have KO := Lib.hid ko
    have hz := g.z
    clear g
    clear kq ko
    by_cases hc : (l ++ pre).length < cap
    · have Hput := Lib.hid (put_yes Fb Kb cap (l ++ pre) x W HQ.out hc)
      have HC := Lib.hid hc
      clear hc
      gi_wp2_with (first
        | (refine ⟨trivial, ?_⟩; gi_at_call 103; refine (CallsIn.inRound l' (callsIn_wide.2 Hput.out)).mono ?_; rintro e w' ⟨rfl, hq, ho⟩; have HQ' := Lib.hid hq; have HO' := Lib.hid ho; (have jT := (ho.cell (o := 0) (blt kT) mF mK).trans kT); (have jc := (ho.cell (o := 0) (blt kc) nF nK).trans kc); (have jf := (ho.frozen (o := 0) (blt kc) nF nK).trans kf); clear hq ho))
      have hk : KeepsAt (w.heap.size + 1 + 1) W (w'.setCell ⟨w.heap.size + 1, 0, none⟩ (.int .i64 ((pre.length : Int) + 1))) := (Below.heap_setCell _ _ _ _ (by simp)).trans (HO'.out.block _ hz sF sK)
      refine ⟨(HO'.out.keeps (by simp; omega) (by simp; omega)).trans ((KeepsOthers.setCell _ _ _).from _), hk, ⟨?_, ?_, ?_, ?_, ?_, ?_⟩⟩
      · rw [← List.append_assoc]
        exact HQ'.out.same (Below.heap_setCell _ _ _ _ nF.symm) (Below.heap_setCell _ _ _ _ nK.symm)
      · exact (set_other _ _ (by omega)).trans jT
      · rw [List.length_append]; exact World.cell?_setCell_same' _ _ _ (by rw [jc]; rfl)
      · exact (World.frozen?_setCell ..).trans jf
      · exact (KO.out.trans HO'.out).setNew (by omega) _
      · exact Nat.lt_of_lt_of_le hz (Nat.le_trans HO'.out.size (by simp [World.setCell]))
    · have hful : (l ++ pre).length = cap := by have := HQ.out.le; omega
      have Hput := Lib.hid (put_no Fb Kb cap (l ++ pre) x W HQ.out hful)
      have HC := Lib.hid hful
      clear hc hful
      gi_wp2_with (first
        | (refine ⟨trivial, ?_⟩; gi_at_call 103; refine (CallsIn.inRound l' (callsIn_wide.2 Hput.out)).mono ?_; rintro e w' ⟨rfl, hq, ho⟩; have HQ' := Lib.hid hq; have HO' := Lib.hid ho; (have jc := (ho.cell (o := 0) (blt kc) nF nK).trans kc); clear hq ho))
      refine ⟨HO'.out.keeps (by simp; omega) (by simp; omega), rfl, ⟨?_, ?_, ?_, ?_⟩⟩
      · rw [List.dropLast_concat]; exact HQ'.out
      · rw [List.dropLast_concat]; exact HC.out
      · rw [List.dropLast_concat]; exact jc
      · exact KO.out.trans HO'.out
  case done =>
    rintro D ys W hD rfl g hK
    have kq := g.q
    have kc := g.c
    have ko := g.o
    clear bT bN bS g
    have HQ := Lib.hid kq
    have KO := Lib.hid ko
    clear kq ko
    gi_wp2
    rw [roundsIn_succ]
    gi_wp2
    have hD' : w.heap.size ≤ D := by simp at hD; omega
    have hg := grownBy_putObj' W D (.deferred none)
    refine ⟨by simp, .inl ⟨_, _, rfl, run_takeDeferred hK, ?_⟩⟩
    have hle' := HQ.out.le
    simp only [List.length_append, Array.length_toList] at hle'
    have hsz : s.data.size = s.size := rfl
    refine ⟨.int .i64 s.size, by simp [results, Tryz.f102, go_sem], ret_int (by unfold fits; omega), ?_, ?_⟩
    · rw [List.take_of_length_le (by simp; omega)]
      exact HQ.out.grown lF lK hg (fun r e => by cases e; exact hD')
    · exact KO.out.grown (Nat.le_refl _) hg (fun r e => by cases e; exact hD')
  case stop =>
    rintro D c pre W hD ⟨r, hpre⟩ ⟨rfl, g⟩ hK
    have kq := g.q
    have kc := g.c
    have ko := g.o
    have kfu := g.full
    clear bT bN bS g
    have HQ := Lib.hid kq
    have KO := Lib.hid ko
    have KF := Lib.hid kfu
    have HP := Lib.hid hpre
    clear kq ko kfu hpre
    gi_wp2
    have hD' : w.heap.size ≤ D := by simp at hD; omega
    have hg := grownBy_putObj' W D (.deferred none)
    refine ⟨by simp, .inl ⟨_, _, rfl, run_takeDeferred hK, ?_⟩⟩
    have hfl := KF.out
    simp only [List.length_append] at hfl
    have hpl : pre.dropLast.length ≤ s.size := by
      have : pre.length ≤ s.data.toList.length := by rw [← HP.out]; simp
      have h2 : s.data.toList.length = s.size := rfl
      simp only [List.length_dropLast]; omega
    have htk : s.data.toList.take (cap - l.length) = pre.dropLast := by
      have e : cap - l.length = pre.dropLast.length := by omega
      rw [e, ← HP.out, List.take_append_of_le_length (by simp), List.dropLast_eq_take]
      simp
    refine ⟨.int .i64 pre.dropLast.length, by simp [results, Tryz.f102, go_sem], ret_int (by unfold fits; omega), ?_, ?_⟩
    · rw [htk]
      exact HQ.out.grown lF lK hg (fun r e => by cases e; exact hD')
    · exact KO.out.grown (Nat.le_refl _) hg (fun r e => by cases e; exact hD')
end Go.Proofs.YtkokcfhfgnkdfaaGreatDoor.L1

/- Push; shown. -/
namespace Go.Proofs.YtkokcfhfgnkdfaaGreatDoor.L1
open Go.RowKit

set_option maxHeartbeats 1000000 in
theorem push_any (F K cap : Nat) (l : List UInt8) (s : ByteArray) (hs : s.size ≤ 5000) (w : World) (h : Qs w F K cap l) :
    Calls Tryz.prog 78 #[.pointer (some ⟨F, 0, none⟩), .string s] w fun e w' =>
      e = .returned (.int .i64 (fits cap l.length s.size : Nat)) ∧ Qs w' F K cap (l ++ s.data.toList.take (cap - l.length)) ∧ Off F K w w' := by
  have H := Lib.hid h
  have c0 : w.cell? ⟨F, 2, none⟩ = some (.int .i64 l.length) := by obtain ⟨first, cs, hq, hr⟩ := h; exact hq.c2
  clear h
  go_enter Tryz.func78, Tryz.ntmps78
  go_wp2_with (first
    | (go_at_call 102; refine (fill_any F K cap _ l s hs _ (H.out.alloc _) (alloc_cell w _ _)).mono ?_; rintro e w1 ⟨rfl, hq, ho⟩))
  go_ret
  exact ⟨rfl, hq, ((Off.refl _ _ _).alloc _).trans ho⟩
set_option maxHeartbeats 400000 in
theorem push_nil (s : ByteArray) (w : World) :
    Calls Tryz.prog 78 #[.pointer none, .string s] w fun e w' => e = .returned (.int .i64 0) ∧ w = w' := by
  go_enter Tryz.func78, Tryz.ntmps78
  go_wp2
  go_ret
  exact ⟨rfl, rfl⟩
end Go.Proofs.YtkokcfhfgnkdfaaGreatDoor.L1
