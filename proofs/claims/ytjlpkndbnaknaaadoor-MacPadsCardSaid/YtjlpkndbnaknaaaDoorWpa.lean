/- MacPads. -/
import Derived.Test.YtjlpkndbnaknaaaDoorVa
namespace Go.Proofs.YtjlpkndbnaknaaaDoor
open Go.RowKit Go.Shelf
attribute [local go_sem] Oper.semAt_some

theorem mac_empty {key : ByteArray} (h : isKeyB key = false) (s : ByteArray) : macV key s = .tuple #[.string ⟨#[]⟩, .int .i64 50] := by unfold macV; rw [h]; rfl
theorem mac_right {key : ByteArray} (h : isKeyB key = true) (s : ByteArray) : macV key s = .tuple #[.string (ofL (macL (bL key) (bL s))), .int .i64 0] := by unfold macV; rw [h]; rfl
theorem mac_zeros (key s : ByteArray) (N : Nat) : macL (bL (key ++ ofL (List.replicate N 0))) (bL s) = macL (bL key) (bL s) := by
  rw [bL_append, bL_ofL _ (by intro c hc; rw [(List.mem_replicate.1 hc).2]; omega), macL_zeros]
set_option maxRecDepth 100000 in
set_option maxHeartbeats 4000000 in
theorem pads_law (k0 s0 : ByteArray) (n : Int) (w : World) (hL : Lay w) : Calls Tryd.prog 3 #[.string k0, .string s0, .int .i64 n] w fun x w' => x = .returned (.bool true) ∧ Below w.heap.size w w' := by
  have HL := Lib.hid hL
  have SH := Lib.hid (shown_c w hL)
  have K1 := Lib.hid (fun W => cut2_c k0 W)
  have K2 := Lib.hid (fun W => cut2_c s0 W)
  have hk := cut2_size k0
  have hs := cut2_size s0
  generalize cut2 k0 = k at *
  generalize cut2 s0 = s at *
  obtain ⟨N, hN⟩ : ∃ N : Nat, min (max n 0) 64 = (N : Int) := ⟨(min (max n 0) 64).toNat, by omega⟩
  have hN64 : N ≤ 64 := by omega
  have hZs : (ofL (List.replicate N 0)).size = N := by rw [ofL_size, List.length_replicate]
  have hZlt : ∀ c ∈ List.replicate N 0, c < 256 := by intro c hc; rw [(List.mem_replicate.1 hc).2]; omega
  have HZ := Lib.hid (mac_zeros k s N)
  have M1 := Lib.hid (fun W h => Mac_c k s (by omega) W h)
  have M2 := Lib.hid (fun W h => Mac_c (k ++ ofL (List.replicate N 0)) s (by omega) W h)
  clear hL
  have HMK := Lib.hid (fun W => make_by N N (Nat.le_refl _) (by omega) W)
  have HCV := Lib.hid (fun b W h => conv_cells (List.replicate N 0) hZlt b N W h)
  rw [List.length_replicate] at HCV
  have hl1 : (macL (bL k) (bL s)).length = 32 := macL_length _ _
  have hz1 : (ofL (macL (bL k) (bL s))).size = 32 := by rw [ofL_size, hl1]
  clear hl1 hZlt
  cases h1 : isKeyB k
  all_goals cases h2 : isKeyB (k ++ ofL (List.replicate N 0))
  all_goals first | rw [mac_empty h1] at M1 | rw [mac_right h1] at M1
  all_goals first | rw [mac_empty h2] at M2 | (rw [mac_right h2, HZ.out] at M2)
  all_goals
    clear h1 h2 HZ
    generalize ofL (macL (bL k) (bL s)) = A at *
    generalize hZ : ofL (List.replicate N 0) = Z at *
    clear hZ
    go_enter Tryd.func3, Tryd.ntmps3
    have B0 := Lib.hid (Below.refl w.heap.size w)
    go_wp2_with fail
    refine (SH.out).mono ?_; rintro e w1 ⟨rfl, hb⟩
    have B1 := Lib.hid (btr B0.out hb); clear hb
    go_wp2_with fail
    refine (K1.out _).mono ?_; rintro e w2 ⟨rfl, hb⟩
    have B2 := Lib.hid (btr B1.out hb); clear hb
    go_wp2_with fail
    refine (K2.out _).mono ?_; rintro e w3 ⟨rfl, hb⟩
    have B3 := Lib.hid (btr B2.out hb); clear hb
    go_wp2_with fail
    refine (M1.out _ (HL.out.on B3.out)).mono ?_; rintro e w4 ⟨rfl, hb⟩
    have B4 := Lib.hid (btr B3.out hb); clear hb

    have hmk := HMK.out w4
    have hB := BysAt.new (List.replicate N 0) w4
    have hcv := HCV.out w4.heap.size _ (fun j m h => hB.cell h)
    have B5 := Lib.hid (bal B4.out (.cells (byVs (List.replicate N 0)).toArray 5))
    clear hB
    go_wp2_with fail
    refine (M2.out _ (HL.out.on B5.out)).mono ?_; rintro e w6 ⟨rfl, hb⟩
    have B6 := Lib.hid (btr B5.out hb); clear hb hmk hcv
    go_wp2
    go_ret
    exact ⟨ret_bool (by first | rfl | simp), B6.out⟩
end Go.Proofs.YtjlpkndbnaknaaaDoor
