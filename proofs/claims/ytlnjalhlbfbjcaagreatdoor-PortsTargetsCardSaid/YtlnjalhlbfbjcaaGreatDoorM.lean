/- Ports' and targets' texts: contracts. -/
import Derived.Test.YtlnjalhlbfbjcaaGreatDoorL
import Derived.Lib.ItoaLen
namespace Go.Proofs.YtlnjalhlbfbjcaaGreatDoor
open Go.RowKit Go.Shelf
attribute [local go_sem] Oper.semAt_some

/-- Ports' text. -/
def prS (F T : Int) : List UInt8 :=
  if rightQ F T = true then (if F = 0 ∧ T = 65535 then [42] else if F = T then Lib.itoa F else (Lib.itoa F ++ [45]) ++ Lib.itoa T) else []
def prE (F T : Int) : Int := if rightQ F T = true then 0 else 70
def ptOk (A P : Int) : Bool := isA A && decide (1 ≤ P ∧ P ≤ 65535)
def ptS (A P : Int) : List UInt8 := if ptOk A P = true then (printS A ++ [58]) ++ Lib.itoa P else []
def ptE (A P : Int) : Int := if ptOk A P = true then 0 else 71

theorem itoa21 {n : Int} (h0 : 0 ≤ n) (h1 : n ≤ 65535) : (Lib.itoa n).length ≤ 21 := Lib.itoa_length_le n (by omega) (by omega)

theorem bytes3 (t1 t2 : List UInt8) (c : UInt8) : (⟨t1.toArray⟩ : ByteArray) ++ (⟨#[c]⟩ : ByteArray) ++ (⟨t2.toArray⟩ : ByteArray) = ⟨((t1 ++ [c]) ++ t2).toArray⟩ := by
  rw [show (⟨#[c]⟩ : ByteArray) = ⟨[c].toArray⟩ from rfl, bytes_append, bytes_append]

set_option maxRecDepth 100000 in
theorem ports_print_0 (F T : Int) (w : World) (h : rightQ F T = false) : Calls Tryz.prog 7 #[.agg #[.int .i64 F, .int .i64 T]] w fun x w' => x = .returned (.tuple #[.string ⟨#[]⟩, .int .i64 70]) ∧ Below w.heap.size w w' := by
  have C1 := fun W => rightQ_c F T W
  rw [h] at C1
  have H1 := Lib.hid C1
  clear C1 h
  go_enter Tryz.func7, Tryz.ntmps7
  go_wp2_with (go_at_call 13; refine (H1.out _).mono ?_; rintro x w1 ⟨rfl, hb1⟩)
  go_ret2
  exact ⟨rfl, btr (below_alloc _ _) hb1⟩

set_option maxRecDepth 100000 in
set_option maxHeartbeats 4000000 in
theorem ports_print_1 (w : World) : Calls Tryz.prog 7 #[.agg #[.int .i64 0, .int .i64 65535]] w fun x w' => x = .returned (.tuple #[.string ⟨#[42]⟩, .int .i64 0]) ∧ Below w.heap.size w w' := by
  have H1 := Lib.hid (fun W => (show rightQ 0 65535 = true from rfl) ▸ rightQ_c 0 65535 W)
  have HW := Lib.hid (fun W => whole_c W)
  go_enter Tryz.func7, Tryz.ntmps7
  go_wp2_with fail
  have k0 : (w.alloc (.cells #[.int .i64 0, .int .i64 65535] 23)).cell? ⟨w.heap.size, 0, none⟩ = some (.int .i64 0) := by go_simp
  have k1 : (w.alloc (.cells #[.int .i64 0, .int .i64 65535] 23)).cell? ⟨w.heap.size, 1, none⟩ = some (.int .i64 65535) := by go_simp
  have HA := Lib.hid (below_alloc w (.cells #[.int .i64 0, .int .i64 65535] 23))
  generalize (w.alloc (.cells #[.int .i64 0, .int .i64 65535] 23)) = U at *
  refine (H1.out _).mono ?_; rintro e w1 ⟨rfl, hb1⟩
  have l0 := (hb1.cell (p := ⟨w.heap.size, 0, none⟩) (blt k0)).trans k0
  have l1 := (hb1.cell (p := ⟨w.heap.size, 1, none⟩) (blt k0)).trans k1
  have HB := Lib.hid (btr HA.out hb1)
  clear k0 k1 HA hb1
  go_wp2_with fail
  have u0 : Below w1.heap.size w1 w1 := Below.refl _ w1
  have MK := Lib.hid (show ∀ w', Below w1.heap.size w1 w' → w'.cell? ⟨w.heap.size, 0, none⟩ = some (.int .i64 0) ∧ w'.cell? ⟨w.heap.size, 1, none⟩ = some (.int .i64 65535) ∧ Below w1.heap.size w1 w' from
    (fun w' h => ⟨(h.cell (p := ⟨w.heap.size, 0, none⟩) (blt l0)).trans l0, (h.cell (p := ⟨w.heap.size, 1, none⟩) (blt l1)).trans l1, h⟩))
  go_region_held3 (fun w' => w'.cell? ⟨w.heap.size, 0, none⟩ = some (.int .i64 0) ∧ w'.cell? ⟨w.heap.size, 1, none⟩ = some (.int .i64 65535) ∧ Below w1.heap.size w1 w')
    (first | with_reducible assumption | exact MK.out _ (by with_reducible assumption) | exact MK.out _ (below_drew (by with_reducible assumption)))
    ((first | (go_at_call 21; go_split_ands; with_reducible refine (HW.out _).mono ?_; rintro e wn ⟨rfl, pB⟩; have sB := btr (by with_reducible assumption) pB; clear HW pB)))
  go_wp2
  go_ret2
  exact ⟨rfl, btr HB.out sB⟩
set_option maxRecDepth 100000 in
set_option maxHeartbeats 4000000 in
theorem ports_print_2 (F : Int) (w : World) (hT : Tabs w) (hr : rightQ F F = true) (hF : (F == 0) = false) : Calls Tryz.prog 7 #[.agg #[.int .i64 F, .int .i64 F]] w fun x w' => x = .returned (.tuple #[.string ⟨(Lib.itoa F).toArray⟩, .int .i64 0]) ∧ Below w.heap.size w w' := by
  have C1 := fun W => rightQ_c F F W
  rw [hr] at C1
  have H1 := Lib.hid C1
  have HW := Lib.hid (fun W => whole_c W)
  obtain ⟨b1, b2, b3⟩ := rightQ_iff.1 hr
  clear C1 hr
  go_enter Tryz.func7, Tryz.ntmps7
  go_wp2_with fail
  have k0 : (w.alloc (.cells #[.int .i64 F, .int .i64 F] 23)).cell? ⟨w.heap.size, 0, none⟩ = some (.int .i64 F) := by go_simp
  have k1 : (w.alloc (.cells #[.int .i64 F, .int .i64 F] 23)).cell? ⟨w.heap.size, 1, none⟩ = some (.int .i64 F) := by go_simp
  have HA := Lib.hid (below_alloc w (.cells #[.int .i64 F, .int .i64 F] 23))
  generalize (w.alloc (.cells #[.int .i64 F, .int .i64 F] 23)) = U at *
  refine (H1.out _).mono ?_; rintro e w1 ⟨rfl, hb1⟩
  have l0 := (hb1.cell (p := ⟨w.heap.size, 0, none⟩) (blt k0)).trans k0
  have l1 := (hb1.cell (p := ⟨w.heap.size, 1, none⟩) (blt k0)).trans k1
  have HB := Lib.hid (btr HA.out hb1)
  clear k0 k1 HA hb1
  go_wp2_with fail
  have u0 : Below w1.heap.size w1 w1 := Below.refl _ w1
  have MK := Lib.hid (show ∀ w', Below w1.heap.size w1 w' → w'.cell? ⟨w.heap.size, 0, none⟩ = some (.int .i64 F) ∧ w'.cell? ⟨w.heap.size, 1, none⟩ = some (.int .i64 F) ∧ Below w1.heap.size w1 w' from
    (fun w' h => ⟨(h.cell (p := ⟨w.heap.size, 0, none⟩) (blt l0)).trans l0, (h.cell (p := ⟨w.heap.size, 1, none⟩) (blt l1)).trans l1, h⟩))
  go_region_held3 (fun w' => w'.cell? ⟨w.heap.size, 0, none⟩ = some (.int .i64 F) ∧ w'.cell? ⟨w.heap.size, 1, none⟩ = some (.int .i64 F) ∧ Below w1.heap.size w1 w')
    (first | with_reducible assumption | exact MK.out _ (by with_reducible assumption) | exact MK.out _ (below_drew (by with_reducible assumption)))
    ((first | (go_at_call 21; go_split_ands; with_reducible refine (HW.out _).mono ?_; rintro e wn ⟨rfl, pB⟩; have sB := btr (by with_reducible assumption) pB; clear HW pB)))
  obtain ⟨m0, m1, -⟩ := MK.out _ sB
  have HT := Lib.hid (itoa_c F (by omega) (by omega) _ (hT.on (btr HB.out sB)))
  go_wp2_with (go_at_call 22; with_reducible refine HT.out.mono ?_; rintro e w3 ⟨rfl, hb3⟩)
  go_ret2
  exact ⟨rfl, btr (btr HB.out sB) hb3⟩

set_option maxRecDepth 100000 in
set_option maxHeartbeats 4000000 in
theorem ports_print_2z  (w : World) (hT : Tabs w) (hr : rightQ 0 0 = true) : Calls Tryz.prog 7 #[.agg #[.int .i64 0, .int .i64 0]] w fun x w' => x = .returned (.tuple #[.string ⟨(Lib.itoa 0).toArray⟩, .int .i64 0]) ∧ Below w.heap.size w w' := by
  have C1 := fun W => rightQ_c 0 0 W
  rw [hr] at C1
  have H1 := Lib.hid C1
  have HW := Lib.hid (fun W => whole_c W)
  clear C1 hr
  go_enter Tryz.func7, Tryz.ntmps7
  go_wp2_with fail
  have k0 : (w.alloc (.cells #[.int .i64 0, .int .i64 0] 23)).cell? ⟨w.heap.size, 0, none⟩ = some (.int .i64 0) := by go_simp
  have k1 : (w.alloc (.cells #[.int .i64 0, .int .i64 0] 23)).cell? ⟨w.heap.size, 1, none⟩ = some (.int .i64 0) := by go_simp
  have HA := Lib.hid (below_alloc w (.cells #[.int .i64 0, .int .i64 0] 23))
  generalize (w.alloc (.cells #[.int .i64 0, .int .i64 0] 23)) = U at *
  refine (H1.out _).mono ?_; rintro e w1 ⟨rfl, hb1⟩
  have l0 := (hb1.cell (p := ⟨w.heap.size, 0, none⟩) (blt k0)).trans k0
  have l1 := (hb1.cell (p := ⟨w.heap.size, 1, none⟩) (blt k0)).trans k1
  have HB := Lib.hid (btr HA.out hb1)
  clear k0 k1 HA hb1
  go_wp2_with fail
  have u0 : Below w1.heap.size w1 w1 := Below.refl _ w1
  have MK := Lib.hid (show ∀ w', Below w1.heap.size w1 w' → w'.cell? ⟨w.heap.size, 0, none⟩ = some (.int .i64 0) ∧ w'.cell? ⟨w.heap.size, 1, none⟩ = some (.int .i64 0) ∧ Below w1.heap.size w1 w' from
    (fun w' h => ⟨(h.cell (p := ⟨w.heap.size, 0, none⟩) (blt l0)).trans l0, (h.cell (p := ⟨w.heap.size, 1, none⟩) (blt l1)).trans l1, h⟩))
  go_region_held3 (fun w' => w'.cell? ⟨w.heap.size, 0, none⟩ = some (.int .i64 0) ∧ w'.cell? ⟨w.heap.size, 1, none⟩ = some (.int .i64 0) ∧ Below w1.heap.size w1 w')
    (first | with_reducible assumption | exact MK.out _ (by with_reducible assumption) | exact MK.out _ (below_drew (by with_reducible assumption)))
    ((first | (go_at_call 21; go_split_ands; with_reducible refine (HW.out _).mono ?_; rintro e wn ⟨rfl, pB⟩; have sB := btr (by with_reducible assumption) pB; clear HW pB)))
  obtain ⟨m0, m1, -⟩ := MK.out _ sB
  have HT := Lib.hid (itoa_c 0 (by omega) (by omega) _ (hT.on (btr HB.out sB)))
  go_wp2_with (go_at_call 22; with_reducible refine HT.out.mono ?_; rintro e w3 ⟨rfl, hb3⟩)
  go_ret2
  exact ⟨rfl, btr (btr HB.out sB) hb3⟩

set_option maxRecDepth 100000 in
set_option maxHeartbeats 4000000 in
theorem ports_print_3 (F T : Int) (w : World) (hT : Tabs w) (hr : rightQ F T = true) (hF : (F == 0) = false) (hFT : (F == T) = false) : Calls Tryz.prog 7 #[.agg #[.int .i64 F, .int .i64 T]] w fun x w' => x = .returned (.tuple #[.string ⟨((Lib.itoa F ++ [45]) ++ Lib.itoa T).toArray⟩, .int .i64 0]) ∧ Below w.heap.size w w' := by
  have C1 := fun W => rightQ_c F T W
  rw [hr] at C1
  have H1 := Lib.hid C1
  have HW := Lib.hid (fun W => whole_c W)
  obtain ⟨b1, b2, b3⟩ := rightQ_iff.1 hr
  clear C1 hr
  go_enter Tryz.func7, Tryz.ntmps7
  go_wp2_with fail
  have k0 : (w.alloc (.cells #[.int .i64 F, .int .i64 T] 23)).cell? ⟨w.heap.size, 0, none⟩ = some (.int .i64 F) := by go_simp
  have k1 : (w.alloc (.cells #[.int .i64 F, .int .i64 T] 23)).cell? ⟨w.heap.size, 1, none⟩ = some (.int .i64 T) := by go_simp
  have HA := Lib.hid (below_alloc w (.cells #[.int .i64 F, .int .i64 T] 23))
  generalize (w.alloc (.cells #[.int .i64 F, .int .i64 T] 23)) = U at *
  refine (H1.out _).mono ?_; rintro e w1 ⟨rfl, hb1⟩
  have l0 := (hb1.cell (p := ⟨w.heap.size, 0, none⟩) (blt k0)).trans k0
  have l1 := (hb1.cell (p := ⟨w.heap.size, 1, none⟩) (blt k0)).trans k1
  have HB := Lib.hid (btr HA.out hb1)
  clear k0 k1 HA hb1
  go_wp2_with fail
  have u0 : Below w1.heap.size w1 w1 := Below.refl _ w1
  have MK := Lib.hid (show ∀ w', Below w1.heap.size w1 w' → w'.cell? ⟨w.heap.size, 0, none⟩ = some (.int .i64 F) ∧ w'.cell? ⟨w.heap.size, 1, none⟩ = some (.int .i64 T) ∧ Below w1.heap.size w1 w' from
    (fun w' h => ⟨(h.cell (p := ⟨w.heap.size, 0, none⟩) (blt l0)).trans l0, (h.cell (p := ⟨w.heap.size, 1, none⟩) (blt l1)).trans l1, h⟩))
  go_region_held3 (fun w' => w'.cell? ⟨w.heap.size, 0, none⟩ = some (.int .i64 F) ∧ w'.cell? ⟨w.heap.size, 1, none⟩ = some (.int .i64 T) ∧ Below w1.heap.size w1 w')
    (first | with_reducible assumption | exact MK.out _ (by with_reducible assumption) | exact MK.out _ (below_drew (by with_reducible assumption)))
    ((first | (go_at_call 21; go_split_ands; with_reducible refine (HW.out _).mono ?_; rintro e wn ⟨rfl, pB⟩; have sB := btr (by with_reducible assumption) pB; clear HW pB)))
  obtain ⟨m0, m1, -⟩ := MK.out _ sB
  have HB2 := Lib.hid (btr HB.out sB)
  have HT1 := Lib.hid (fun W h => itoa_c F (by omega) (by omega) W (hT.on (btr HB2.out h)))
  have HT2 := Lib.hid (fun W h => itoa_c T (by omega) (by omega) W (hT.on (btr HB2.out h)))
  have s1 := itoa21 (n := F) (by omega) (by omega)
  have s2 := itoa21 (n := T) (by omega) (by omega)
  obtain ⟨t1, ht1⟩ : ∃ t, t = Lib.itoa F := ⟨_, rfl⟩
  obtain ⟨t2, ht2⟩ : ∃ t, t = Lib.itoa T := ⟨_, rfl⟩
  rw [← ht1] at HT1 s1
  rw [← ht2] at HT2 s2
  have E1 := Lib.hid ht1
  have E2 := Lib.hid ht2
  clear ht1 ht2
  clear MK HB u0 sB l0 l1 b1 b2 b3 H1
  go_wp2_with fail
  have u0 : Below wn.heap.size wn wn := Below.refl _ wn
  have MK := Lib.hid (show ∀ w', Below wn.heap.size wn w' → w'.cell? ⟨w.heap.size, 0, none⟩ = some (.int .i64 F) ∧ w'.cell? ⟨w.heap.size, 1, none⟩ = some (.int .i64 T) ∧ Below wn.heap.size wn w' from
    (fun w' h => ⟨(h.cell (p := ⟨w.heap.size, 0, none⟩) (blt m0)).trans m0, (h.cell (p := ⟨w.heap.size, 1, none⟩) (blt m1)).trans m1, h⟩))
  have c1 : ¬ 9223372036854775807 < t1.length + 1 := by omega
  have c2 : ¬ 9223372036854775807 < t1.length + 1 + t2.length := by omega
  go_region_held3 (fun w' => w'.cell? ⟨w.heap.size, 0, none⟩ = some (.int .i64 F) ∧ w'.cell? ⟨w.heap.size, 1, none⟩ = some (.int .i64 T) ∧ Below wn.heap.size wn w')
    (first | with_reducible assumption | exact MK.out _ (by with_reducible assumption) | exact MK.out _ (below_drew (by with_reducible assumption)))
    ((first
      | (go_at_call 22; go_split_ands; with_reducible refine (HT1.out _ (by with_reducible assumption)).mono ?_; rintro e wk ⟨rfl, pB⟩; have sC := btr (by with_reducible assumption) pB; clear HT1 pB)
      | (go_at_call 22; go_split_ands; with_reducible refine (HT2.out _ (by with_reducible assumption)).mono ?_; rintro e wl ⟨rfl, pB⟩; have sD := btr (by with_reducible assumption) pB; clear HT2 pB)))
  go_wp2
  go_ret2
  refine ⟨?_, btr HB2.out sD⟩
  show Ending.returned (.tuple #[.string (⟨t1.toArray⟩ ++ ⟨#[45]⟩ ++ ⟨t2.toArray⟩), .int .i64 0]) = _
  rw [bytes3, E1.out, E2.out]

set_option maxRecDepth 100000 in
set_option maxHeartbeats 4000000 in
theorem ports_print_3z (T : Int) (w : World) (hT : Tabs w) (hr : rightQ 0 T = true) (hTM : (T == 65535) = false) (hFT : (0 == T) = false) : Calls Tryz.prog 7 #[.agg #[.int .i64 0, .int .i64 T]] w fun x w' => x = .returned (.tuple #[.string ⟨((Lib.itoa 0 ++ [45]) ++ Lib.itoa T).toArray⟩, .int .i64 0]) ∧ Below w.heap.size w w' := by
  have C1 := fun W => rightQ_c 0 T W
  rw [hr] at C1
  have H1 := Lib.hid C1
  have HW := Lib.hid (fun W => whole_c W)
  obtain ⟨b1, b2, b3⟩ := rightQ_iff.1 hr
  clear C1 hr
  go_enter Tryz.func7, Tryz.ntmps7
  go_wp2_with fail
  have k0 : (w.alloc (.cells #[.int .i64 0, .int .i64 T] 23)).cell? ⟨w.heap.size, 0, none⟩ = some (.int .i64 0) := by go_simp
  have k1 : (w.alloc (.cells #[.int .i64 0, .int .i64 T] 23)).cell? ⟨w.heap.size, 1, none⟩ = some (.int .i64 T) := by go_simp
  have HA := Lib.hid (below_alloc w (.cells #[.int .i64 0, .int .i64 T] 23))
  generalize (w.alloc (.cells #[.int .i64 0, .int .i64 T] 23)) = U at *
  refine (H1.out _).mono ?_; rintro e w1 ⟨rfl, hb1⟩
  have l0 := (hb1.cell (p := ⟨w.heap.size, 0, none⟩) (blt k0)).trans k0
  have l1 := (hb1.cell (p := ⟨w.heap.size, 1, none⟩) (blt k0)).trans k1
  have HB := Lib.hid (btr HA.out hb1)
  clear k0 k1 HA hb1
  go_wp2_with fail
  have u0 : Below w1.heap.size w1 w1 := Below.refl _ w1
  have MK := Lib.hid (show ∀ w', Below w1.heap.size w1 w' → w'.cell? ⟨w.heap.size, 0, none⟩ = some (.int .i64 0) ∧ w'.cell? ⟨w.heap.size, 1, none⟩ = some (.int .i64 T) ∧ Below w1.heap.size w1 w' from
    (fun w' h => ⟨(h.cell (p := ⟨w.heap.size, 0, none⟩) (blt l0)).trans l0, (h.cell (p := ⟨w.heap.size, 1, none⟩) (blt l1)).trans l1, h⟩))
  go_region_held3 (fun w' => w'.cell? ⟨w.heap.size, 0, none⟩ = some (.int .i64 0) ∧ w'.cell? ⟨w.heap.size, 1, none⟩ = some (.int .i64 T) ∧ Below w1.heap.size w1 w')
    (first | with_reducible assumption | exact MK.out _ (by with_reducible assumption) | exact MK.out _ (below_drew (by with_reducible assumption)))
    ((first | (go_at_call 21; go_split_ands; with_reducible refine (HW.out _).mono ?_; rintro e wn ⟨rfl, pB⟩; have sB := btr (by with_reducible assumption) pB; clear HW pB)))
  obtain ⟨m0, m1, -⟩ := MK.out _ sB
  have HB2 := Lib.hid (btr HB.out sB)
  have HT1 := Lib.hid (fun W h => itoa_c 0 (by omega) (by omega) W (hT.on (btr HB2.out h)))
  have HT2 := Lib.hid (fun W h => itoa_c T (by omega) (by omega) W (hT.on (btr HB2.out h)))
  have s1 := itoa21 (n := 0) (by omega) (by omega)
  have s2 := itoa21 (n := T) (by omega) (by omega)
  obtain ⟨t1, ht1⟩ : ∃ t, t = Lib.itoa 0 := ⟨_, rfl⟩
  obtain ⟨t2, ht2⟩ : ∃ t, t = Lib.itoa T := ⟨_, rfl⟩
  rw [← ht1] at HT1 s1
  rw [← ht2] at HT2 s2
  have E1 := Lib.hid ht1
  have E2 := Lib.hid ht2
  clear ht1 ht2
  clear MK HB u0 sB l0 l1 b1 b2 b3 H1
  go_wp2_with fail
  have u0 : Below wn.heap.size wn wn := Below.refl _ wn
  have MK := Lib.hid (show ∀ w', Below wn.heap.size wn w' → w'.cell? ⟨w.heap.size, 0, none⟩ = some (.int .i64 0) ∧ w'.cell? ⟨w.heap.size, 1, none⟩ = some (.int .i64 T) ∧ Below wn.heap.size wn w' from
    (fun w' h => ⟨(h.cell (p := ⟨w.heap.size, 0, none⟩) (blt m0)).trans m0, (h.cell (p := ⟨w.heap.size, 1, none⟩) (blt m1)).trans m1, h⟩))
  have c1 : ¬ 9223372036854775807 < t1.length + 1 := by omega
  have c2 : ¬ 9223372036854775807 < t1.length + 1 + t2.length := by omega
  go_region_held3 (fun w' => w'.cell? ⟨w.heap.size, 0, none⟩ = some (.int .i64 0) ∧ w'.cell? ⟨w.heap.size, 1, none⟩ = some (.int .i64 T) ∧ Below wn.heap.size wn w')
    (first | with_reducible assumption | exact MK.out _ (by with_reducible assumption) | exact MK.out _ (below_drew (by with_reducible assumption)))
    ((first
      | (go_at_call 22; go_split_ands; with_reducible refine (HT1.out _ (by with_reducible assumption)).mono ?_; rintro e wk ⟨rfl, pB⟩; have sC := btr (by with_reducible assumption) pB; clear HT1 pB)
      | (go_at_call 22; go_split_ands; with_reducible refine (HT2.out _ (by with_reducible assumption)).mono ?_; rintro e wl ⟨rfl, pB⟩; have sD := btr (by with_reducible assumption) pB; clear HT2 pB)))
  go_wp2
  go_ret2
  refine ⟨?_, btr HB2.out sD⟩
  show Ending.returned (.tuple #[.string (⟨t1.toArray⟩ ++ ⟨#[45]⟩ ++ ⟨t2.toArray⟩), .int .i64 0]) = _
  rw [bytes3, E1.out, E2.out]

theorem ports_print_c (F T : Int) (w : World) (hT : Tabs w) : Calls Tryz.prog 7 #[.agg #[.int .i64 F, .int .i64 T]] w fun x w' => x = .returned (.tuple #[.string ⟨(prS F T).toArray⟩, .int .i64 (prE F T)]) ∧ Below w.heap.size w w' := by
  cases hr : rightQ F T with
  | false =>
    have e : prS F T = [] ∧ prE F T = 70 := by unfold prS prE; rw [hr]; exact ⟨rfl, rfl⟩
    rw [e.1, e.2]; exact ports_print_0 F T w hr
  | true =>
    have e : prE F T = 0 := by unfold prE; rw [hr]; rfl
    rw [e]
    have hp : prS F T = (if F = 0 ∧ T = 65535 then [42] else if F = T then Lib.itoa F else (Lib.itoa F ++ [45]) ++ Lib.itoa T) := by unfold prS; rw [hr]; rfl
    rw [hp]
    by_cases h0 : F = 0
    · subst h0
      by_cases h1 : T = 65535
      · subst h1
        rw [if_pos ⟨rfl, rfl⟩]; exact ports_print_1 w
      · rw [if_neg (by omega)]
        by_cases h2 : 0 = T
        · subst h2
          rw [if_pos rfl]; exact ports_print_2z w hT hr
        · rw [if_neg h2]; exact ports_print_3z T w hT hr (by simpa using h1) (by simpa using h2)
    · rw [if_neg (by omega)]
      by_cases h2 : F = T
      · subst h2
        rw [if_pos rfl]; exact ports_print_2 F w hT hr (by simpa using h0)
      · rw [if_neg h2]; exact ports_print_3 F T w hT hr (by simpa using h0) (by simpa using h2)
end Go.Proofs.YtlnjalhlbfbjcaaGreatDoor
