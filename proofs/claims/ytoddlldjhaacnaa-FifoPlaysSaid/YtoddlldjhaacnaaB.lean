/- put and drop. -/
import Derived.Test.YtoddlldjhaacnaaA
namespace Go.Proofs.Ytoddlldjhaacnaa
open Go.RowKit

set_option maxRecDepth 100000 in
set_option maxHeartbeats 1000000 in
theorem put_full (F K cap first : Nat) (cs : List Int) (b : Int) (w : World) (h : IsQ w F K cap first cap cs) :
    Calls Try.prog 21 #[.pointer (some ⟨F, 0, none⟩), .int .u8 b] w fun e w' => e = .returned (.bool false) ∧ IsQ w' F K cap first cap cs ∧ Off F K w w' := by
  have c0 := h.c0
  have c2 := h.c2
  have H := Lib.hid h
  clear h
  go_enter Try.func21, Try.ntmps21
  go_wp2_with fail
  go_quiet (fail)
  go_wp2
  go_ret
  exact ⟨rfl, H.out.same rfl rfl, (Off.refl _ _ _).drewN _⟩

set_option maxRecDepth 100000 in
set_option maxHeartbeats 2000000 in
theorem put_room (F K cap first cnt : Nat) (cs : List Int) (b : Int) (w : World) (h : IsQ w F K cap first cnt cs) (hr : cnt < cap) :
    Calls Try.prog 21 #[.pointer (some ⟨F, 0, none⟩), .int .u8 b] w fun e w' => e = .returned (.bool true) ∧ IsQ w' F K cap first (cnt + 1) (cs.set ((first + cnt) % cap) b) ∧ Off F K w w' := by
  have c0 := h.c0
  have c1 := h.c1
  have c2 := h.c2
  have f2 := h.f2
  have b1 : first ≤ 1000000 := by have := h.first_lt; have := h.cap_le; omega
  have b2 : cnt ≤ 1000000 := by have := h.cap_le; omega
  have b3 : cap ≤ 1000000 := by have := h.cap_le; omega
  have b4 : 0 < cap := by omega
  have hi : (first + cnt) % cap < cap := Nat.mod_lt _ b4
  have ck := h.k _ hi
  have fk := h.fk _ hi
  have hne := h.ne
  have d1 : ((cnt : Int) == (cap : Int)) = false := by simp; omega
  obtain ⟨lF, lK⟩ := h.lt
  have H := Lib.hid h
  clear h
  generalize hie : (first + cnt) % cap = i at *
  have Hi := Lib.hid hie
  clear hie
  have i1 : (i : Int) < (cap : Int) := by omega
  have i2 : (0 : Int) ≤ (i : Int) := by omega
  go_enter Try.func21, Try.ntmps21
  go_wp2_with fail
  go_quiet (fail)
  go_wp2_with (first | (go_at_call 30; refine (turner_any _ _).mono ?_; rintro e w1 ⟨rfl, rfl⟩))
  obtain ⟨V, hV⟩ : ∃ V, V = (w.drewN nq).alloc (.cells #[.int .i64 cap] 3) := ⟨_, rfl⟩
  have hO : Off F K w V := by rw [hV]; exact ((Off.refl _ _ _).drewN _).alloc _
  have hF : V.heap[F]? = w.heap[F]? := by rw [hV]; exact Below.heap_alloc _ _ _ lF
  have hK : V.heap[K]? = w.heap[K]? := by rw [hV]; exact Below.heap_alloc _ _ _ lK
  have hT : V.cell? ⟨w.heap.size, 0, none⟩ = some (.int .i64 cap) := by rw [hV]; exact alloc_cell (w.drewN nq) _ _
  have v0 := (World.cell?_of_block (a := ⟨F, 0, none⟩) (w := w) hF).trans c0
  have v1 := (World.cell?_of_block (a := ⟨F, 1, none⟩) (w := w) hF).trans c1
  have v2 := (World.cell?_of_block (a := ⟨F, 2, none⟩) (w := w) hF).trans c2
  have vf2 := (World.frozen?_of_block (a := ⟨F, 2, none⟩) (w := w) hF).trans f2
  have vk := (World.cell?_of_block (a := ⟨K, i, none⟩) (w := w) hK).trans ck
  have vfk := (World.frozen?_of_block (a := ⟨K, i, none⟩) (w := w) hK).trans fk
  rw [← hV]
  clear hV c0 c1 c2 f2 ck fk
  have nT : w.heap.size ≠ K := by omega
  generalize w.heap.size = T at *
  go_region_held3 (fun w' => w'.cell? ⟨F, 0, none⟩ = some (.slice (some ⟨K, 0, none⟩) cap cap) ∧ w'.cell? ⟨F, 1, none⟩ = some (.int .i64 first) ∧ w'.cell? ⟨F, 2, none⟩ = some (.int .i64 cnt) ∧ w'.cell? ⟨T, 0, none⟩ = some (.int .i64 cap))
    (first | assumption | (go_split_ands; (try dsimp only); refine ⟨?_, ?_, ?_, ?_⟩ <;> first | assumption | exact (set_other _ _ hne).trans (by assumption) | exact (set_other _ _ nT).trans (by assumption)))
    ((first
      | (go_at_call 32; go_split_ands; refine (turn_any _ _ _ T _ b1 b2 b3 b4 (by assumption)).mono ?_; rintro e wt ⟨rfl, rfl⟩; rw [Hi.out])))
  go_split_ands
  go_wp2_with fail
  go_ret
  have hcap : (cnt : Int) + 1 = ((cnt + 1 : Nat) : Int) := by omega
  have hq : IsQ V F K cap first cnt cs := H.out.same hF hK
  refine ⟨rfl, ?_, ?_⟩
  · rw [hcap]; exact ((hq.setK (Hi.out ▸ Nat.mod_lt _ b4) b).setCnt (n := cnt + 1) hr).drew
  · exact ((hO.setK _ _).setF _ _).drew

set_option maxRecDepth 100000 in
set_option maxHeartbeats 1000000 in
theorem drop_empty (F K cap first : Nat) (cs : List Int) (w : World) (h : IsQ w F K cap first 0 cs) :
    Calls Try.prog 23 #[.pointer (some ⟨F, 0, none⟩)] w fun e w' => e = .returned (.bool false) ∧ IsQ w' F K cap first 0 cs ∧ Off F K w w' := by
  have c2 := h.c2
  have H := Lib.hid h
  clear h
  go_enter Try.func23, Try.ntmps23
  go_wp2
  go_ret
  exact ⟨rfl, H.out.same rfl rfl, (Off.refl _ _ _)⟩

set_option maxRecDepth 100000 in
set_option maxHeartbeats 2000000 in
theorem drop_some (F K cap first cnt : Nat) (cs : List Int) (w : World) (h : IsQ w F K cap first (cnt + 1) cs) :
    Calls Try.prog 23 #[.pointer (some ⟨F, 0, none⟩)] w fun e w' => e = .returned (.bool true) ∧ IsQ w' F K cap ((first + 1) % cap) cnt (cs.set first 0) ∧ Off F K w w' := by
  have c0 := h.c0
  have c1 := h.c1
  have c2 := h.c2
  have f1 := h.f1
  have f2 := h.f2
  have b1 : first ≤ 1000000 := by have := h.first_lt; have := h.cap_le; omega
  have b2 : cnt + 1 ≤ 1000000 := by have := h.cap_le; have := h.cnt_le; omega
  have b3 : cap ≤ 1000000 := by have := h.cap_le; omega
  have b4 : 0 < cap := by have := h.first_lt; omega
  have hi : first < cap := h.first_lt
  have ck := h.k _ hi
  have fk := h.fk _ hi
  have hne := h.ne
  have d1 : (((cnt + 1 : Nat) : Int) == 0) = false := by simp; omega
  have hc1 : ((cnt + 1 : Nat) : Int) - 1 = (cnt : Int) := by omega
  obtain ⟨lF, lK⟩ := h.lt
  have H := Lib.hid h
  clear h
  have i1 : (first : Int) < (cap : Int) := by omega
  have i2 : (0 : Int) ≤ (first : Int) := by omega
  generalize hcc : ((cnt + 1 : Nat) : Int) = c at *
  have Hcc := Lib.hid hcc
  have q1 : 0 < c := by omega
  have q2 : c ≤ 1000000 := by omega
  clear hcc
  go_enter Try.func23, Try.ntmps23
  go_wp2_with (first | (go_at_call 30; refine (turner_any _ _).mono ?_; rintro e w1 ⟨rfl, rfl⟩))
  obtain ⟨V, hV⟩ : ∃ V, V = w.alloc (.cells #[.int .i64 cap] 3) := ⟨_, rfl⟩
  have hO : Off F K w V := by rw [hV]; exact (Off.refl _ _ _).alloc _
  have hF : V.heap[F]? = w.heap[F]? := by rw [hV]; exact Below.heap_alloc _ _ _ lF
  have hK : V.heap[K]? = w.heap[K]? := by rw [hV]; exact Below.heap_alloc _ _ _ lK
  have hT : V.cell? ⟨w.heap.size, 0, none⟩ = some (.int .i64 cap) := by rw [hV]; go_simp
  have v0 := (World.cell?_of_block (a := ⟨F, 0, none⟩) (w := w) hF).trans c0
  have v1 := (World.cell?_of_block (a := ⟨F, 1, none⟩) (w := w) hF).trans c1
  have v2 := (World.cell?_of_block (a := ⟨F, 2, none⟩) (w := w) hF).trans c2
  have vf1 := (World.frozen?_of_block (a := ⟨F, 1, none⟩) (w := w) hF).trans f1
  have vf2 := (World.frozen?_of_block (a := ⟨F, 2, none⟩) (w := w) hF).trans f2
  have vk := (World.cell?_of_block (a := ⟨K, first, none⟩) (w := w) hK).trans ck
  have vfk := (World.frozen?_of_block (a := ⟨K, first, none⟩) (w := w) hK).trans fk
  rw [← hV]
  clear hV c0 c1 c2 f1 f2 ck fk
  have nT : w.heap.size ≠ K := by omega
  have nTF : w.heap.size ≠ F := by omega
  generalize w.heap.size = T at *
  go_region_held3 (fun w' => w'.cell? ⟨F, 0, none⟩ = some (.slice (some ⟨K, 0, none⟩) cap cap) ∧ w'.cell? ⟨F, 1, none⟩ = some (.int .i64 first) ∧ w'.cell? ⟨F, 2, none⟩ = some (.int .i64 c) ∧ w'.cell? ⟨T, 0, none⟩ = some (.int .i64 cap))
    (first | assumption | (go_split_ands; (try dsimp only); refine ⟨?_, ?_, ?_, ?_⟩ <;> first | assumption | exact (set_other _ _ hne).trans (by assumption) | exact (set_other _ _ nT).trans (by assumption)))
    ((first | fail))
  go_split_ands
  go_wp2_with (first | (go_at_call 32; refine (turn_any first 1 cap T _ b1 (by omega) b3 b4 (by assumption)).mono ?_; rintro e wt ⟨rfl, rfl⟩))
  go_ret
  have hq : IsQ V F K cap first (cnt + 1) cs := H.out.same hF hK
  have hmm : ((first : Int) + 1) % (cap : Int) = (((first + 1) % cap : Nat) : Int) := by rw [Int.natCast_emod, Int.natCast_add]; rfl
  refine ⟨rfl, ?_, ?_⟩
  · rw [hmm]; exact (((hq.setK hi 0).setFirst (Nat.mod_lt (first + 1) b4)).setCnt (n := cnt) (by have := H.out.cnt_le; omega)).drew
  · exact (((hO.setK _ _).setF _ _).setF _ _).drew
end Go.Proofs.Ytoddlldjhaacnaa
