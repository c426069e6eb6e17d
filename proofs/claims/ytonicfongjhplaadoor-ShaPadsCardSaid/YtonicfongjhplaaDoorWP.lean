/- ShaPads. -/
import Derived.Test.YtonicfongjhplaaDoorV
namespace Go.Proofs.YtonicfongjhplaaDoor
open Go.RowKit Go.Shelf
attribute [local go_sem] Oper.semAt_some

theorem pad_at (s : ByteArray) (i : Nat) (h : i < (ofL (padL (bL s))).size) (v : Nat) (hv : (padL (bL s))[i]? = some v) : ((ofL (padL (bL s)))[i]'h).toNat = v := by
  have h1 := bL_get (ofL (padL (bL s))) i h
  rw [bL_ofL _ (padL_lt s), hv] at h1
  exact (Option.some.inj h1).symm
theorem pad_end (s : ByteArray) (m : Nat) (hm : m < 8) : (padL (bL s))[(padL (bL s)).length - 8 + m]? = some (8 * s.size / 256 ^ (7 - m) % 256) := by
  have h := padL_last (bL s)
  rw [← List.getElem?_drop, h, bL_length]
  unfold lenL
  rw [List.getElem?_map, List.getElem?_range hm]
  rfl
theorem val_next (x m : Nat) (hm : m < 8) : x / 256 ^ (8 - (m + 1)) = 256 * (x / 256 ^ (8 - m)) + x / 256 ^ (7 - m) % 256 := by
  rw [show 8 - (m + 1) = 7 - m by omega, show 8 - m = (7 - m) + 1 by omega, Nat.pow_succ, ← Nat.div_div_eq_div_mul]
  omega
set_option maxRecDepth 100000 in
set_option maxHeartbeats 8000000 in
theorem pads_law (s0 : ByteArray) (w : World) (hT : Tabs w) : Calls Tryd.prog 5 #[.string s0] w fun x w' => x = .returned (.bool true) ∧ Below w.heap.size w w' := by
  have SH := Lib.hid (shown_c w hT)
  have K1 := Lib.hid (fun W => cut3_c s0 W)
  have hs := cut3_size s0
  generalize cut3 s0 = s at *
  have P1 := Lib.hid (fun W => Pad_c s (by omega) W)
  have hL : (ofL (padL (bL s))).size = s.size + 9 + zerosN s.size := by rw [ofL_size, padL_length, bL_length]
  have hlen : (padL (bL s)).length = (ofL (padL (bL s))).size := (ofL_size _).symm
  have hz : zerosN s.size < 64 := by unfold zerosN; omega
  have hmod : (s.size + 9 + zerosN s.size) % 64 = 0 := by unfold zerosN; omega
  have GA := Lib.hid (fun i h v hv => pad_at s i h v hv)
  have GM := Lib.hid (show (padL (bL s))[s.size]? = some 128 by have := padL_mark (bL s); rwa [bL_length] at this)
  have GZ := Lib.hid (fun i h1 h2 => padL_zero (bL s) i (by rw [bL_length]; exact h1) h2)
  have GE := Lib.hid (fun m hm => pad_end s m hm)
  have hX : (ofL (padL (bL s))).extract 0 s.size = s := by
    apply bL_inj
    rw [bL_extract, List.drop_zero, bL_ofL _ (padL_lt s), ← bL_length, padL_take]
  rw [hlen] at GZ GE
  generalize ofL (padL (bL s)) = P at *
  generalize padL (bL s) = pl at *
  clear hlen hT
  obtain ⟨L, hLL⟩ : ∃ L, P.size = L := ⟨_, rfl⟩
  rw [hLL] at hL
  have hP : s.size < P.size := by omega
  have hmk := GA.out s.size hP 128 GM.out
  have r1 : (P.size : Int).tmod 64 = 0 := by rw [Int.tmod_eq_emod_of_nonneg (by omega)]; omega
  have r2 : ¬ (P.size : Int) < (s.size : Int) + 9 := by omega
  have r3 : ¬ (s.size : Int) + 72 < (P.size : Int) := by omega
  have r4 : (s.size : Int) < (P.size : Int) := by omega
  have r5 : (0 : Int) ≤ (s.size : Int) ∧ (s.size : Int) ≤ (P.size : Int) := by omega
  have r6 : s.size ≤ P.size := by omega
  have m1 : IntKind.i64.wrap ((s.size : Int) + 9) = (s.size : Int) + 9 := IntWalk.i64_in _ (by omega)
  have m2 : IntKind.i64.wrap ((s.size : Int) + 72) = (s.size : Int) + 72 := IntWalk.i64_in _ (by omega)
  have m3 : IntKind.i64.wrap ((P.size : Int) - 8) = (P.size : Int) - 8 := IntWalk.i64_in _ (by omega)
  have m4 : IntKind.i64.wrap ((s.size : Int) + 1) = (s.size : Int) + 1 := IntWalk.i64_in _ (by omega)
  have HLs := Lib.hid hL
  have HLL := Lib.hid hLL
  clear hL hLL hmod
  go_enter Tryd.func5, Tryd.ntmps5
  have B0 := Lib.hid (Below.refl w.heap.size w)
  go_wp2_with fail
  refine (SH.out).mono ?_; rintro e w1 ⟨rfl, hb⟩
  have B1 := Lib.hid (btr B0.out hb); clear hb
  go_wp2_with fail
  refine (K1.out _).mono ?_; rintro e w2 ⟨rfl, hb⟩
  have B2 := Lib.hid (btr B1.out hb); clear hb
  go_wp2_with fail
  refine (P1.out _).mono ?_; rintro e w3 ⟨rfl, hb⟩
  have B3 := Lib.hid (btr B2.out hb); clear hb
  go_wp2_with fail
  go_loopw [6] (fun i wr => ∃ k : Nat, s.size + 1 ≤ k ∧ k + 8 ≤ P.size ∧ i = .int .i64 (k : Int) ∧ Hid (Below w.heap.size w wr)) (fun i _ => P.size - (intOf i).toNat)
  case atStart => exact ⟨s.size + 1, Nat.le_refl _, by have := HLs.out; have := HLL.out; omega, by go_num, B3⟩
  case round =>
    obtain ⟨k, hk1, hk2, rfl, hbk⟩ := hrel
    by_cases hlt : k + 8 < P.size
    · have hlt' : (k : Int) < (P.size : Int) - 8 := by omega
      have hkP : k < P.size := by omega
      have hkP' : (k : Int) < (P.size : Int) := by omega
      have hk0 := GA.out k hkP 0 (GZ.out k (by omega) hlt)
      have mk1 : IntKind.i64.wrap ((k : Int) + 1) = (k : Int) + 1 := IntWalk.i64_in _ (by have := HLs.out; have := HLL.out; omega)
      go_wp2
      go_roundw
      case rel => exact ⟨k + 1, by omega, by omega, by go_num, hbk⟩
      case measure => simp [intOf]; omega
    · have hlt' : ¬ (k : Int) < (P.size : Int) - 8 := by omega
      have h8 : (8 * s.size / 256 ^ (8 - 0) : Nat) = 0 := Nat.div_eq_of_lt (by have : (256 : Nat) ^ (8 - 0) = 18446744073709551616 := rfl; omega)
      go_wp2
      go_loopw [7, 8] (fun b i wr => ∃ m q : Nat, m ≤ 8 ∧ q + 8 = P.size + m ∧ i = .int .i64 (q : Int) ∧ b = .int .i64 ((8 * s.size / 256 ^ (8 - m) : Nat) : Int) ∧ Hid (Below w.heap.size w wr)) (fun _ i _ => P.size + 1 - (intOf i).toNat)
      case atStart => exact ⟨0, P.size - 8, by omega, by omega, by rw [show (((P.size - 8 : Nat)) : Int) = (P.size : Int) - 8 by omega], by rw [h8]; rfl, hbk⟩
      case round =>
        obtain ⟨m, q, hm, hq, rfl, rfl, hbk⟩ := hrel
        by_cases hlm : m < 8
        · have hqP : q < P.size := by omega
          have hqP' : (q : Int) < (P.size : Int) := by omega
          have hge := GE.out m hlm
          rw [show P.size - 8 + m = q by omega] at hge
          have hby := GA.out q hqP _ hge
          have HV := Lib.hid (val_next (8 * s.size) m hlm)
          have hsm : 8 * s.size / 256 ^ (8 - m) ≤ 8 * s.size := Nat.div_le_self _ _
          have hbl : 8 * s.size / 256 ^ (7 - m) % 256 < 256 := Nat.mod_lt _ (by omega)
          clear hge
          generalize 8 * s.size / 256 ^ (8 - m) = vb at *
          generalize 8 * s.size / 256 ^ (7 - m) % 256 = by8 at *
          have w1' : IntKind.i64.wrap (256 * (vb : Int)) = 256 * (vb : Int) := IntWalk.i64_in _ (by omega)
          have w2' : IntKind.i64.wrap (256 * (vb : Int) + (by8 : Int)) = 256 * (vb : Int) + (by8 : Int) := IntWalk.i64_in _ (by omega)
          have w3' : IntKind.i64.wrap ((q : Int) + 1) = (q : Int) + 1 := IntWalk.i64_in _ (by have := HLs.out; have := HLL.out; omega)
          have w4' : IntKind.i64.wrap (by8 : Int) = (by8 : Int) := IntWalk.i64_in _ (by omega)
          go_wp2
          go_roundw
          case rel => exact ⟨m + 1, q + 1, by omega, by omega, by go_num, by rw [HV.out]; go_num, hbk⟩
          case measure => simp [intOf]; omega
        · obtain rfl : m = 8 := by omega
          have hqP' : ¬ (q : Int) < (P.size : Int) := by omega
          have hv : 8 * s.size / 256 ^ (8 - 8) = 8 * s.size := by rw [Nat.sub_self, Nat.pow_zero, Nat.div_one]
          rw [hv]
          have w1' : IntKind.i64.wrap (8 * (s.size : Int)) = 8 * (s.size : Int) := IntWalk.i64_in _ (by omega)
          go_wp2
          go_ret
          exact ⟨ret_bool (by first | rfl | (simp <;> omega)), hbk.out⟩
end Go.Proofs.YtonicfongjhplaaDoor
