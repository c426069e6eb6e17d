/- shown; Has and In at prefixes; laws of arithmetic: what they say, walked. -/
import Derived.Test.YtlmgdhhlflmghaaDoorJ
namespace Go.Proofs.YtlmgdhhlflmghaaDoor
open Go.RowKit Go.Shelf
attribute [local go_sem] Oper.semAt_some

set_option maxRecDepth 100000 in
set_option maxHeartbeats 4000000 in
theorem shown_c (w : World) (hT : Tabs w) : Calls Tryd.prog 10 #[] w fun x w' => x = .returned (.bool true) ∧ Below w.heap.size w w' := by
  have HT := Lib.hid hT
  clear hT
  have P1' := fun W => parsePrefix_c ⟨#[49, 48, 46, 49, 46, 48, 46, 48, 47, 49, 54]⟩ (by decide) W
  rw [show ppA ((⟨#[49, 48, 46, 49, 46, 48, 46, 48, 47, 49, 54]⟩ : ByteArray).data.toList) = 167837696 by decide +kernel, show ppK ((⟨#[49, 48, 46, 49, 46, 48, 46, 48, 47, 49, 54]⟩ : ByteArray).data.toList) = 16 by decide +kernel, show ppE ((⟨#[49, 48, 46, 49, 46, 48, 46, 48, 47, 49, 54]⟩ : ByteArray).data.toList) = 0 by decide +kernel] at P1'
  have P1 := Lib.hid P1'
  clear P1'
  have P2' := fun W => parse_c ⟨#[49, 48, 46, 49, 46, 50, 46, 51]⟩ (by decide) W
  rw [show parseN ((⟨#[49, 48, 46, 49, 46, 50, 46, 51]⟩ : ByteArray).data.toList) = 167838211 by decide +kernel, show parseE ((⟨#[49, 48, 46, 49, 46, 50, 46, 51]⟩ : ByteArray).data.toList) = 0 by decide +kernel] at P2'
  have P2 := Lib.hid P2'
  clear P2'
  have P3' := fun W => parse_c ⟨#[49, 48, 46, 50, 46, 48, 46, 48]⟩ (by decide) W
  rw [show parseN ((⟨#[49, 48, 46, 50, 46, 48, 46, 48]⟩ : ByteArray).data.toList) = 167903232 by decide +kernel, show parseE ((⟨#[49, 48, 46, 50, 46, 48, 46, 48]⟩ : ByteArray).data.toList) = 0 by decide +kernel] at P3'
  have P3 := Lib.hid P3'
  clear P3'
  have P4' := fun W => parse_c ⟨#[49, 46, 50, 46, 51, 46, 48, 52]⟩ (by decide) W
  rw [show parseN ((⟨#[49, 46, 50, 46, 51, 46, 48, 52]⟩ : ByteArray).data.toList) = 0 by decide +kernel, show parseE ((⟨#[49, 46, 50, 46, 51, 46, 48, 52]⟩ : ByteArray).data.toList) = 60 by decide +kernel] at P4'
  have P4 := Lib.hid P4'
  clear P4'
  have P5' := fun W => parsePrefix_c ⟨#[49, 48, 46, 49, 46, 48, 46, 49, 47, 49, 54]⟩ (by decide) W
  rw [show ppA ((⟨#[49, 48, 46, 49, 46, 48, 46, 49, 47, 49, 54]⟩ : ByteArray).data.toList) = 0 by decide +kernel, show ppK ((⟨#[49, 48, 46, 49, 46, 48, 46, 49, 47, 49, 54]⟩ : ByteArray).data.toList) = 0 by decide +kernel, show ppE ((⟨#[49, 48, 46, 49, 46, 48, 46, 49, 47, 49, 54]⟩ : ByteArray).data.toList) = 61 by decide +kernel] at P5'
  have P5 := Lib.hid P5'
  clear P5'
  have E1' := fun W => ends_c 167837696 16 W
  rw [show endsA 167837696 16 = 167837696 by decide +kernel, show endsT 167837696 16 = 167903231 by decide +kernel, show endsE 167837696 16 = 0 by decide +kernel] at E1'
  have E1 := Lib.hid E1'
  clear E1'
  have R1' := fun W h => print_c 167903231 W h
  rw [show printS 167903231 = [49, 48, 46, 49, 46, 50, 53, 53, 46, 50, 53, 53] by decide +kernel, show printE 167903231 = 0 by decide +kernel] at R1'
  have R1 := Lib.hid R1'
  clear R1'
  have A1' := fun W => has_c 167837696 16 167838211 W
  rw [show hasB 167837696 16 167838211 = true by decide +kernel] at A1'
  have A1 := Lib.hid A1'
  clear A1'
  have A2' := fun W => has_c 167837696 16 167903232 W
  rw [show hasB 167837696 16 167903232 = false by decide +kernel] at A2'
  have A2 := Lib.hid A2'
  clear A2'
  go_enter Tryd.func10, Tryd.ntmps10
  go_wp2_with fail
  refine (P1.out _).mono ?_; rintro e w1 ⟨rfl, hb⟩
  have B1 := Lib.hid (bal hb (.cells #[.int .i64 167837696, .int .i64 16] 23))
  have k0 : (w1.alloc (.cells #[.int .i64 167837696, .int .i64 16] 23)).cell? ⟨w1.heap.size, 0, none⟩ = some (.int .i64 167837696) := by go_simp
  have k1 : (w1.alloc (.cells #[.int .i64 167837696, .int .i64 16] 23)).cell? ⟨w1.heap.size, 1, none⟩ = some (.int .i64 16) := by go_simp
  have KK := Lib.hid (show ∀ W, Below (w1.alloc (.cells #[.int .i64 167837696, .int .i64 16] 23)).heap.size (w1.alloc (.cells #[.int .i64 167837696, .int .i64 16] 23)) W → W.cell? ⟨w1.heap.size, 0, none⟩ = some (.int .i64 167837696) ∧ W.cell? ⟨w1.heap.size, 1, none⟩ = some (.int .i64 16) from
    fun W h => ⟨(h.cell (p := ⟨w1.heap.size, 0, none⟩) (blt k0)).trans k0, (h.cell (p := ⟨w1.heap.size, 1, none⟩) (blt k0)).trans k1⟩)
  clear hb
  go_wp2_with fail
  refine (P2.out _).mono ?_; rintro e w2 ⟨rfl, hb2⟩
  have B2 := Lib.hid (btr B1.out hb2)
  have C2 := Lib.hid hb2
  clear hb2 k0 k1
  go_wp2_with fail
  refine (P3.out _).mono ?_; rintro e w3 ⟨rfl, hb3⟩
  have B3 := Lib.hid (btr B2.out hb3)
  have C3 := Lib.hid (btr C2.out hb3)
  obtain ⟨c30, c31⟩ := KK.out w3 C3.out
  clear hb3
  go_wp2_with fail
  refine (E1.out _).mono ?_; rintro e w4 ⟨rfl, hb4⟩
  have B4 := Lib.hid (btr B3.out hb4)
  have C4 := Lib.hid (btr C3.out hb4)
  clear hb4 c30 c31
  go_wp2_with fail
  refine (R1.out _ (HT.out.on B4.out)).mono ?_; rintro e w5 ⟨rfl, hb5⟩
  have B5 := Lib.hid (btr B4.out hb5)
  have C5 := Lib.hid (btr C4.out hb5)
  clear hb5
  go_wp2_with fail
  refine (P4.out _).mono ?_; rintro e w6 ⟨rfl, hb6⟩
  have B6 := Lib.hid (btr B5.out hb6)
  have C6 := Lib.hid (btr C5.out hb6)
  clear hb6
  go_wp2_with fail
  refine (P5.out _).mono ?_; rintro e w7 ⟨rfl, hb7⟩
  have B7 := Lib.hid (bal (btr B6.out hb7) (.cells #[.int .i64 0, .int .i64 0] 23))
  have C7 := Lib.hid (bal (btr C6.out hb7) (.cells #[.int .i64 0, .int .i64 0] 23))
  obtain ⟨c70, c71⟩ := KK.out _ C7.out
  clear hb7
  go_wp2_with fail
  refine (A1.out _).mono ?_; rintro e w8 ⟨rfl, hb8⟩
  have B8 := Lib.hid (btr B7.out hb8)
  have C8 := Lib.hid (btr C7.out hb8)
  obtain ⟨c80, c81⟩ := KK.out w8 C8.out
  clear hb8 c70 c71
  go_wp2_with fail
  refine (A2.out _).mono ?_; rintro e w9 ⟨rfl, hb9⟩
  have B9 := Lib.hid (btr B8.out hb9)
  obtain ⟨c90, c91⟩ := KK.out w9 (btr C8.out hb9)
  clear hb9 c80 c81
  go_wp2
  go_ret
  exact ⟨rfl, B9.out⟩
end Go.Proofs.YtlmgdhhlflmghaaDoor
