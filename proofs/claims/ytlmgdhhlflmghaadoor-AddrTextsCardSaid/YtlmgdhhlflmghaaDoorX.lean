/- PrintPrefix, cut: their contracts. -/
import Derived.Test.YtlmgdhhlflmghaaDoorL
import Derived.Test.YtlmgdhhlflmghaaDoorW
namespace Go.Proofs.YtlmgdhhlflmghaaDoor
open Go.RowKit

def ppS (A K : Int) : List UInt8 := if rightB A K = true then aT A ++ 47 :: Lib.itoa K else []
def ppF (A K : Int) : Int := if rightB A K = true then 0 else 61

set_option maxRecDepth 100000 in
set_option maxHeartbeats 4000000 in
theorem pp_no (A K : Int) (hr : rightB A K = false) (w : World) : Calls Tryd.prog 16 #[.agg #[.int .i64 A, .int .i64 K]] w fun x w' => x = .returned (.tuple #[.string ⟨#[]⟩, .int .i64 61]) ∧ Below w.heap.size w w' := by
  have HR := Lib.hid (fun W => right_c A K W)
  rw [hr] at HR
  clear hr
  go_enter Tryd.func16, Tryd.ntmps16
  go_wp2_with (go_at_call 20; refine (HR.out _).mono ?_; rintro x w1 ⟨rfl, hB1⟩)
  exact bodyPost_ret (v := .tuple #[.string ⟨#[]⟩, .int .i64 61]) (by simp [results, Tryd.results16, go_sem]) rfl ⟨rfl, btr (below_alloc _ _) hB1⟩

set_option maxRecDepth 100000 in
set_option maxHeartbeats 4000000 in
theorem pp_ok (A K : Int) (hr : rightB A K = true) (w : World) (hT : Tabs w) : Calls Tryd.prog 16 #[.agg #[.int .i64 A, .int .i64 K]] w fun x w' => x = .returned (.tuple #[.string ⟨(aT A ++ 47 :: Lib.itoa K).toArray⟩, .int .i64 0]) ∧ Below w.heap.size w w' := by
  obtain ⟨h1, h2, h3⟩ := right_parts hr
  have HR := Lib.hid (fun W => right_c A K W)
  rw [hr] at HR
  have hA := isA_iff.1 h2
  have hK : 0 ≤ K ∧ K ≤ 32 := by simpa [okK] using h1
  have HX := Lib.hid (show ∀ W, Tabs W → Calls Tryd.prog 31 #[.int .i64 A] W fun x w' => x = .returned (.string ⟨(aT A).toArray⟩) ∧ Below W.heap.size W w' by
    intro W h
    have := text_c A.toNat (by omega) W h
    rw [show ((A.toNat : Nat) : Int) = A by omega] at this
    exact this)
  have HI := Lib.hid (fun W h => itoa_c K hK.1 (by omega) W h)
  have l1 : (aT A).length ≤ 16 := txt_len
  have l2 : (Lib.itoa K).length ≤ 3 := by
    have := itoa_len K.toNat (by omega)
    rwa [show ((K.toNat : Nat) : Int) = K by omega] at this
  generalize aT A = t at *
  generalize Lib.itoa K = u at *
  clear hr h1 h2 h3
  have m1 : ¬ 9223372036854775807 < t.length + 1 := by omega
  have m2 : ¬ 9223372036854775807 < t.length + 1 + u.length := by omega
  go_enter Tryd.func16, Tryd.ntmps16
  go_wp2_with fail
  refine (HR.out _).mono ?_; rintro x w1 ⟨rfl, hB1⟩
  have k0 : w1.cell? ⟨w.heap.size, 0, none⟩ = some (.int .i64 A) := (hB1.cell (p := ⟨w.heap.size, 0, none⟩) (by simp)).trans (by go_simp)
  have k1 : w1.cell? ⟨w.heap.size, 1, none⟩ = some (.int .i64 K) := (hB1.cell (p := ⟨w.heap.size, 1, none⟩) (by simp)).trans (by go_simp)
  have HA := Lib.hid (btr (below_alloc w (.cells #[.int .i64 A, .int .i64 K] 23)) hB1)
  have HT := Lib.hid (hT.on HA.out)
  clear hB1 HR hT
  go_wp2_with fail
  have u0 : Below w1.heap.size w1 w1 := Below.refl _ w1
  have MK := Lib.hid (show ∀ w', Below w1.heap.size w1 w' → w'.cell? ⟨w.heap.size, 0, none⟩ = some (.int .i64 A) ∧ w'.cell? ⟨w.heap.size, 1, none⟩ = some (.int .i64 K) ∧ Below w1.heap.size w1 w' from
    (fun w' h => ⟨(h.cell (p := ⟨w.heap.size, 0, none⟩) (blt k0)).trans k0, (h.cell (p := ⟨w.heap.size, 1, none⟩) (blt k0)).trans k1, h⟩))
  refine wp_region_held_drew (S := (fun w' => w'.cell? ⟨w.heap.size, 0, none⟩ = some (.int .i64 A) ∧ w'.cell? ⟨w.heap.size, 1, none⟩ = some (.int .i64 K) ∧ Below w1.heap.size w1 w')) (by kernel_rfl) ?_ (fun hHeld => ?_)
  · (first | with_reducible assumption | exact MK.out _ (by with_reducible assumption) | exact MK.out _ (below_drew (by with_reducible assumption)))
  refine takeH (i := 0) (some 7) (v := ?_) rfl rfl (by kernel_rfl) (by kernel_rfl) (by kernel_rfl) (fun _ _ _ h => h) (Or.inl ⟨by rfl, ?hy0⟩) hHeld ?rest0
  case hy0 => (intro w hSw; (try dsimp only at hSw); go_simp; (try with_reducible rfl))
  try simp only [Act.put, List.setIfInBounds_toArray, List.set_cons_zero, List.set_cons_succ]
  refine takeH (i := 1) (some 8) (v := ?_) rfl rfl (by kernel_rfl) (by kernel_rfl) (by kernel_rfl) (fun _ _ _ h => h) (Or.inl ⟨by rfl, ?hy1⟩) hHeld ?rest1
  case hy1 => (intro w hSw; (try dsimp only at hSw); go_simp; (try with_reducible rfl))
  try simp only [Act.put, List.setIfInBounds_toArray, List.set_cons_zero, List.set_cons_succ]
  refine takeH (i := 4) (some 11) (v := ?_) rfl rfl (by kernel_rfl) (by kernel_rfl) (by kernel_rfl) (fun _ _ _ h => h) (Or.inl ⟨by rfl, ?hy4⟩) hHeld ?rest4
  case hy4 => (intro w hSw; (try dsimp only at hSw); go_simp; (try with_reducible rfl))
  try simp only [Act.put, List.setIfInBounds_toArray, List.set_cons_zero, List.set_cons_succ]
  refine takeH (i := 5) (some 12) (v := ?_) rfl rfl (by kernel_rfl) (by kernel_rfl) (by kernel_rfl) (fun _ _ _ h => h) (Or.inl ⟨by rfl, ?hy5⟩) hHeld ?rest5
  case hy5 => (intro w hSw; (try dsimp only at hSw); go_simp; (try with_reducible rfl))
  try simp only [Act.put, List.setIfInBounds_toArray, List.set_cons_zero, List.set_cons_succ]
  refine wpAnyH_ready (rs := [2]) (by kernel_rfl) (by simp) ?_
  refine AllReadyH.cons rfl (fun K hK => ?_) AllReadyH.nil
  go_simp
  with_reducible refine (HX.out _ (HT.out.on hHeld.2.2)).mono ?_; rintro e wn ⟨rfl, pB⟩; have sB := btr hHeld.2.2 pB; clear pB hHeld
  refine hK.out _ _ ?_ (fun hHeld => ?_)
  · (first | with_reducible assumption | exact MK.out _ (by with_reducible assumption) | exact MK.out _ (below_drew (by with_reducible assumption)))
  clear hK K
  try simp only [Act.put, List.setIfInBounds_toArray, List.set_cons_zero, List.set_cons_succ]
  refine takeH (i := 3) (some 10) (v := ?_) rfl rfl (by kernel_rfl) (by kernel_rfl) (by kernel_rfl) (fun _ _ _ h => h) (Or.inl ⟨by rfl, ?hy3⟩) hHeld ?rest3
  case hy3 => (intro w hSw; (try dsimp only at hSw); go_simp; (try with_reducible rfl))
  try simp only [Act.put, List.setIfInBounds_toArray, List.set_cons_zero, List.set_cons_succ]
  refine wpAnyH_ready (rs := [6]) (by kernel_rfl) (by simp) ?_
  refine AllReadyH.cons rfl (fun K hK => ?_) AllReadyH.nil
  go_simp
  with_reducible refine (HI.out _ (HT.out.on hHeld.2.2)).mono ?_; rintro e wn ⟨rfl, pB⟩; have sB := btr hHeld.2.2 pB; clear pB hHeld
  refine hK.out _ _ ?_ (fun hHeld => ?_)
  · (first | with_reducible assumption | exact MK.out _ (by with_reducible assumption) | exact MK.out _ (below_drew (by with_reducible assumption)))
  clear hK K
  try simp only [Act.put, List.setIfInBounds_toArray, List.set_cons_zero, List.set_cons_succ]
  refine takeH (i := 7) (some 14) (v := ?_) rfl rfl (by kernel_rfl) (by kernel_rfl) (by kernel_rfl) (fun _ _ _ h => h) (Or.inl ⟨by rfl, ?hy7⟩) hHeld ?rest7
  case hy7 => (intro w hSw; (try dsimp only at hSw); go_simp; (try with_reducible rfl))
  try simp only [Act.put, List.setIfInBounds_toArray, List.set_cons_zero, List.set_cons_succ]
  refine takeH (i := 8) (some 2) (v := ?_) rfl rfl (by kernel_rfl) (by kernel_rfl) (by kernel_rfl) (fun _ _ _ h => h) (Or.inl ⟨by rfl, ?hy8⟩) hHeld ?rest8
  case hy8 => (intro w hSw; (try dsimp only at hSw); go_simp; (try with_reducible rfl))
  try simp only [Act.put, List.setIfInBounds_toArray, List.set_cons_zero, List.set_cons_succ]
  refine takeH (i := 9) (some 3) (v := ?_) rfl rfl (by kernel_rfl) (by kernel_rfl) (by kernel_rfl) (fun _ _ _ h => h) (Or.inl ⟨by rfl, ?hy9⟩) hHeld ?rest9
  case hy9 => (intro w hSw; (try dsimp only at hSw); go_simp; (try with_reducible rfl))
  try simp only [Act.put, List.setIfInBounds_toArray, List.set_cons_zero, List.set_cons_succ]
  refine wpAnyH_done (by kernel_rfl) ?_ _
  go_wp2
  exact bodyPost_ret (v := .tuple #[.string ⟨(t ++ 47 :: u).toArray⟩, .int .i64 0]) (by simp [results, Tryd.results16, go_sem, bytes_append]) rfl ⟨rfl, btr HA.out (by first | exact sB | exact below_drew sB)⟩

theorem pp_c (A K : Int) (w : World) (hT : Tabs w) : Calls Tryd.prog 16 #[.agg #[.int .i64 A, .int .i64 K]] w fun x w' => x = .returned (.tuple #[.string ⟨(ppS A K).toArray⟩, .int .i64 (ppF A K)]) ∧ Below w.heap.size w w' := by
  unfold ppS ppF
  cases hr : rightB A K with
  | false => exact pp_no A K hr w
  | true => exact pp_ok A K hr w hT

/-- A text's first forty bytes. -/
def cut40 (s : ByteArray) : ByteArray := s.extract 0 (min (s.size : Int) 40).toNat
theorem cut_size (s : ByteArray) : (cut40 s).size ≤ 40 := by unfold cut40; rw [ByteArray.size_extract]; omega

set_option maxRecDepth 100000 in
set_option maxHeartbeats 4000000 in
theorem cut11_c (s : ByteArray) (w : World) : Calls Tryd.prog 11 #[.string s] w fun x w' => x = .returned (.string (cut40 s)) ∧ w = w' := by
  go_enter Tryd.func11, Tryd.ntmps11
  go_wp2
  exact bodyPost_ret (v := .string (s.extract 0 (min (s.size : Int) 40).toNat)) (by simp [results, Tryd.results11, go_sem]) rfl ⟨rfl, rfl⟩

end Go.Proofs.YtlmgdhhlflmghaaDoor
