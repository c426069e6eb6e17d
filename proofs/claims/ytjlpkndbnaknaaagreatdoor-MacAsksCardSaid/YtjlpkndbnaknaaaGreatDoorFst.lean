/- fault.First over checks of any kind, by their contracts (layer 3 has it as its text S). -/
import Derived.Test.YtjlpkndbnaknaaaGreatDoorA
import Derived.LoopTactic
namespace Go.Proofs.YtjlpkndbnaknaaaGreatDoor
open Go.RowKit Go.Shelf
attribute [local go_sem] Oper.semAt_some

/-- The first of k errors from the i-th on. -/
def firstE (er : Nat → Value) (i : Nat) : Nat → Value
  | 0 => .nilIface
  | k + 1 => match er i with
    | .nilIface => firstE er (i + 1) k
    | v => v
theorem firstE_nil {er : Nat → Value} {i k : Nat} (h : er i = .nilIface) : firstE er i (k + 1) = firstE er (i + 1) k := by simp [firstE, h]
theorem firstE_err {er : Nat → Value} {i k : Nat} {t : TypeId} {v : Value} (h : er i = .iface t v) : firstE er i (k + 1) = .iface t v := by simp [firstE, h]
set_option maxRecDepth 100000 in
set_option maxHeartbeats 4000000 in
theorem faultFirst_c (n : Nat) (hn : n ≤ 1000) (b : Nat) (f : Nat → Nat) (rc cp : Nat → Array Value) (er : Nat → Value) (w : World)
    (hc : ∀ i, i < n → w.cell? ⟨b, i, none⟩ = some (.func (.func (f i)) (rc i) (cp i)))
    (HC : ∀ i, i < n → (∀ j, j < i → er j = .nilIface) → ∀ W, Below w.heap.size w W → Calls Tryz.prog (f i) (rc i ++ cp i) W fun x w' => x = .returned (er i) ∧ Below W.heap.size W w')
    (eg : ∀ i, i < n → ∀ args W, (callFunc (f i) args).run Tryz.prog W = .ok (.enter (f i) args) W)
    (her : ∀ i, i < n → er i = .nilIface ∨ ∃ t v, er i = .iface t v) :
    Calls Tryz.prog 18 #[.slice (some ⟨b, 0, none⟩) n n] w fun x w' => x = .returned (firstE er 0 n) ∧ Below w.heap.size w w' := by
  have HCC := Lib.hid HC
  have HCL := Lib.hid hc
  have HER := Lib.hid her
  have EG := Lib.hid eg
  clear HC hc her eg
  go_enter Tryz.func18, Tryz.ntmps18
  go_wp2
  go_loopw [8] (fun i wr => ∃ k : Nat, k ≤ n ∧ i = .int .i64 k ∧ Hid (∀ j, j < k → er j = .nilIface) ∧ Hid (firstE er k (n - k) = firstE er 0 n) ∧ Hid (Below w.heap.size w wr)) (fun i _ => n - (intOf i).toNat)
  case atStart => exact ⟨0, Nat.zero_le _, rfl, Lib.hid (fun _ h => absurd h (by omega)), Lib.hid rfl, Lib.hid (Below.refl _ _)⟩
  case round =>
    obtain ⟨k, hk, rfl, hj, hf, hb⟩ := hrel
    by_cases hlt : k < n
    · have hlt' : (k : Int) < (n : Int) := by omega
      have hce := (hb.out.cell (p := ⟨b, k, none⟩) (blt (HCL.out k hlt))).trans (HCL.out k hlt)
      have ek := EG.out k hlt
      have HK := Lib.hid (HCC.out k hlt hj.out)
      rcases HER.out k hlt with he | ⟨t, v, he⟩
      · rw [he] at HK
        have hj2 := Lib.hid (show ∀ j, j < k + 1 → er j = .nilIface from fun j h => by rcases Nat.lt_succ_iff_lt_or_eq.1 h with h | rfl; exact hj.out j h; exact he)
        have hf2 := Lib.hid (show firstE er (k + 1) (n - (k + 1)) = firstE er 0 n by rw [← hf.out, show n - k = (n - (k + 1)) + 1 by omega, firstE_nil he])
        clear he
        go_wp2_with fail
        refine (HK.out _ hb.out).mono ?_; rintro e w1 ⟨rfl, hb1⟩
        have HB := Lib.hid (btr hb.out hb1)
        clear hb1 ek hce
        go_wp2
        go_roundw
        case rel => exact ⟨k + 1, by omega, by go_num, hj2, hf2, HB⟩
        case measure => simp [intOf]; omega
      · rw [he] at HK
        have hf2 : firstE er 0 n = .iface t v := by rw [← hf.out, show n - k = (n - (k + 1)) + 1 by omega, firstE_err he]
        clear he
        go_wp2_with fail
        refine (HK.out _ hb.out).mono ?_; rintro e w1 ⟨rfl, hb1⟩
        have HB := Lib.hid (btr hb.out hb1)
        clear hb1 ek hce
        go_wp2
        go_ret
        exact ⟨by first | rfl | (rw [hf2]; rfl), HB.out⟩
    · have hge : ¬ (k : Int) < (n : Int) := by omega
      have hf2 : firstE er 0 n = .nilIface := by rw [← hf.out, show n - k = 0 by omega]; rfl
      go_wp2
      go_ret
      exact ⟨by first | rfl | (rw [hf2]; rfl), hb.out⟩
end Go.Proofs.YtjlpkndbnaknaaaGreatDoor
