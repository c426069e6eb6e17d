/- The document's own Encode. -/
import Derived.Test.YtdcnpcdohgecbaaDoorPH
namespace Go.Proofs.YtdcnpcdohgecbaaDoor
open Go.RowKit Go.Shelf
attribute [local go_sem] Oper.semAt_some

theorem rByt {n : Nat} (h : n ≤ 65535) (w : World) : Calls Tryd.prog 18 #[.int .i64 (n : Int)] w fun x w' => x = .returned (.tuple #[.string ⟨#[UInt8.ofNat (n / 256), UInt8.ofNat (n % 256)]⟩, .int .i64 0]) ∧ Below w.heap.size w w' := by
  have := rBytes_c n w
  unfold bytS bytE at this
  rw [show isNum (n : Int) = true by simp [isNum]; omega] at this
  exact this
set_option maxRecDepth 100000 in
set_option maxHeartbeats 8000000 in
theorem rEncode_yes (kn st : Nat) (s : ByteArray) (hk : kn ≤ 255) (hst : st ≤ 65535) (hs : s.size ≤ 65535) (hr : rightW kn st s.size = true) (w : World) : Calls Tryd.prog 14 #[.agg #[.int .i64 (kn : Int), .int .i64 (st : Int), .string s]] w fun x w' => x = .returned (.tuple #[.string (⟨#[UInt8.ofNat kn]⟩ ++ ⟨#[UInt8.ofNat (st / 256), UInt8.ofNat (st % 256)]⟩ ++ ⟨#[UInt8.ofNat (s.size / 256), UInt8.ofNat (s.size % 256)]⟩ ++ s), .int .i64 0]) ∧ Below w.heap.size w w' := by
  have C1 := fun W => rRight_c kn st s W
  rw [hr] at C1
  have H1 := Lib.hid C1
  have HP1 := Lib.hid (fun W => rByt hst W)
  have HP2 := Lib.hid (fun W => rByt hs W)
  have hC := fun (B : Nat) (W : World) h => conv_one kn hk B W h
  have E8 : IntKind.u8.wrap (kn : Int) = (kn : Int) := wrap8 kn hk
  have HN : ¬ 9223372036854775807 < 5 + s.size := by omega
  clear C1 hr
  go_enter Tryd.func14, Tryd.ntmps14
  go_wp2_with fail
  have k0 : (w.alloc (.cells #[.int .i64 (kn : Int), .int .i64 (st : Int), .string s] 23)).cell? ⟨w.heap.size, 0, none⟩ = some (.int .i64 (kn : Int)) := by go_simp
  have k1 : (w.alloc (.cells #[.int .i64 (kn : Int), .int .i64 (st : Int), .string s] 23)).cell? ⟨w.heap.size, 1, none⟩ = some (.int .i64 (st : Int)) := by go_simp
  have k2 : (w.alloc (.cells #[.int .i64 (kn : Int), .int .i64 (st : Int), .string s] 23)).cell? ⟨w.heap.size, 2, none⟩ = some (.string s) := by go_simp
  have HA := Lib.hid (below_alloc w (.cells #[.int .i64 (kn : Int), .int .i64 (st : Int), .string s] 23))
  generalize (w.alloc (.cells #[.int .i64 (kn : Int), .int .i64 (st : Int), .string s] 23)) = U at *
  refine (H1.out _).mono ?_; rintro e w1 ⟨rfl, hb⟩
  replace k0 := (hb.cell (blt k0)).trans k0
  replace k1 := (hb.cell (blt k1)).trans k1
  replace k2 := (hb.cell (blt k2)).trans k2
  replace HA := Lib.hid (btr HA.out hb)
  clear hb
  go_wp2_with fail
  refine (HP1.out _).mono ?_; rintro e w2 ⟨rfl, hb⟩
  replace k0 := (hb.cell (blt k0)).trans k0
  replace k1 := (hb.cell (blt k1)).trans k1
  replace k2 := (hb.cell (blt k2)).trans k2
  replace HA := Lib.hid (btr HA.out hb)
  clear hb
  go_wp2_with fail
  refine (HP2.out _).mono ?_; rintro e w3 ⟨rfl, hb⟩
  replace k0 := (hb.cell (blt k0)).trans k0
  replace k1 := (hb.cell (blt k1)).trans k1
  replace k2 := (hb.cell (blt k2)).trans k2
  replace HA := Lib.hid (btr HA.out hb)
  clear hb
  have hcv := hC w3.heap.size (w3.alloc (.cells #[.int .u8 (kn : Int)] 5)) (by go_simp)
  have k2a := keep_alloc (.cells #[.int .u8 (kn : Int)] 5) k2
  clear hC
  go_wp2
  go_ret2
  exact ⟨rfl, bal HA.out _⟩
set_option maxRecDepth 100000 in
theorem rEncode_no (k st : Int) (s : ByteArray) (hr : rightW k st s.size = false) (w : World) : Calls Tryd.prog 14 #[.agg #[.int .i64 k, .int .i64 st, .string s]] w fun x w' => x = .returned (.tuple #[.string ⟨#[]⟩, .int .i64 33]) ∧ Below w.heap.size w w' := by
  have C1 := fun W => rRight_c k st s W
  rw [hr] at C1
  have H1 := Lib.hid C1
  clear C1 hr
  go_enter Tryd.func14, Tryd.ntmps14
  go_wp2_with fail
  have HA := Lib.hid (below_alloc w (.cells #[.int .i64 k, .int .i64 st, .string s] 23))
  generalize (w.alloc (.cells #[.int .i64 k, .int .i64 st, .string s] 23)) = U at *
  refine (H1.out _).mono ?_; rintro e w1 ⟨rfl, hb1⟩
  go_wp2
  go_ret2
  exact ⟨rfl, btr HA.out hb1⟩
theorem rEncode_c (k st : Int) (s : ByteArray) (w : World) : Calls Tryd.prog 14 #[.agg #[.int .i64 k, .int .i64 st, .string s]] w fun x w' => x = .returned (encOf k st s) ∧ Below w.heap.size w w' := by
  unfold encOf
  cases hr : rightW k st s.size with
  | false => exact rEncode_no k st s hr w
  | true =>
    obtain ⟨h1, h2, h3, h4, h5⟩ := right_facts hr
    obtain ⟨kn, rfl⟩ : ∃ n : Nat, k = n := ⟨k.toNat, by omega⟩
    obtain ⟨sn, rfl⟩ : ∃ n : Nat, st = n := ⟨st.toNat, by omega⟩
    exact rEncode_yes kn sn s (by omega) (by omega) (by omega) hr w
end Go.Proofs.YtdcnpcdohgecbaaDoor
