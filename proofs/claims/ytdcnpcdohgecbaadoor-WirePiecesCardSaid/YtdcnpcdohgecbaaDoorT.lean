/- A taker's check isRight; take's seven checks. -/
import Derived.Test.YtdcnpcdohgecbaaDoorR
import Derived.Test.YtdcnpcdohgecbaaDoorS
namespace Go.Proofs.YtdcnpcdohgecbaaDoor
open Go.RowKit Go.Shelf
attribute [local go_sem] Oper.semAt_some

def byteAt (s : ByteArray) (n : Nat) : Int := ((s.data.toList.getD n 0).toNat : Int)
set_option maxRecDepth 100000 in
set_option maxHeartbeats 4000000 in
theorem isRight_c (s : ByteArray) (n L : Nat) (hL : numAt s (n + 3) = (L : Int)) (hk : n + 5 + L ≤ s.size) (hs : (s.size : Int) ≤ 4611686018427387904) (w : World) : Calls Tryd.prog 41 #[.agg #[.string s, .int .i64 (n : Int)]] w fun x w' => x = .returned (errV (rightW (byteAt s n) (numAt s (n + 1)) L) 33) ∧ Below w.heap.size w w' := by
  have hsz : (s.extract (n + 5) (n + 5 + L)).size = L := by rw [ByteArray.size_extract]; omega
  have hkw : (Lit.int .i64 (byteAt s n)).wf = true := WalkArith.wf_i64 (by have := (s.data.toList.getD n 0).toNat_lt; unfold byteAt; omega)
  have HL := Lib.hid (fun W => frame_c s n L hL hk hs W)
  have HR := Lib.hid (fun W => right_c (byteAt s n) (numAt s (n + 1)) (s.extract (n + 5) (n + 5 + L)) hkw W)
  rw [hsz] at HR
  have HU := Lib.hid (fun W b c => unless_c W b c)
  change RowKit.Hid (∀ W, Calls Tryd.prog 42 _ W fun x w' => x = .returned (.agg #[.int .i64 (byteAt s n), _, _]) ∧ _) at HL
  generalize rightW (byteAt s n) (numAt s (n + 1)) L = RR at *
  generalize byteAt s n = K at *
  generalize numAt s (n + 1) = N1 at *
  generalize s.extract (n + 5) (n + 5 + L) = DD at *
  clear hk hs hL hsz hkw
  go_enter Tryd.func41, Tryd.ntmps41
  go_wp2_with (first | (go_at_call 42; refine (HL.out _).mono ?_; rintro e w1 ⟨rfl, hb⟩) | (go_at_call 19; refine (HR.out _).mono ?_; rintro e w2 ⟨rfl, hb2⟩) | (go_at_call 54; refine (HU.out _ _ _).mono ?_; rintro e w3 ⟨rfl, rfl⟩))
  go_ret
  exact ⟨rfl, btr (btr (below_alloc _ _) hb) hb2⟩

/-- Take's checks, in their order. -/
def okT (s : ByteArray) (a : Int) : Nat → Bool
  | 0 => decide (0 ≤ a) && decide (a ≤ s.size)
  | 1 => decide (a < s.size)
  | 2 => decide (1 ≤ byteAt s a.toNat) && decide (byteAt s a.toNat ≤ 8)
  | 3 => decide (a.toNat + 5 ≤ s.size)
  | 4 => decide (numAt s (a.toNat + 3) ≤ 512)
  | 5 => decide ((a.toNat : Int) + 5 + numAt s (a.toNat + 3) ≤ s.size)
  | _ => rightW (byteAt s a.toNat) (numAt s (a.toNat + 1)) (numAt s (a.toNat + 3)).toNat
def noT : Nat → Int
  | 0 => 2
  | 1 => 30
  | 2 => 31
  | 3 => 30
  | 4 => 32
  | 5 => 30
  | _ => 33
def fT : Nat → Nat
  | 0 => 35
  | 1 => 36
  | 2 => 37
  | 3 => 38
  | 4 => 39
  | 5 => 40
  | _ => 41
def erT (s : ByteArray) (a : Int) (i : Nat) : Value := errV (okT s a i) (noT i)
theorem erT_ok {s : ByteArray} {a : Int} {i : Nat} (h : erT s a i = .nilIface) : okT s a i = true := by
  unfold erT errV at h
  cases hb : okT s a i with
  | true => rfl
  | false => rw [hb] at h; cases h
theorem erT_form (s : ByteArray) (a : Int) (i : Nat) : erT s a i = .nilIface ∨ ∃ t v, erT s a i = .iface t v := by
  unfold erT errV
  cases okT s a i with
  | true => exact .inl rfl
  | false => exact .inr ⟨_, _, rfl⟩
theorem checks_c (s : ByteArray) (a : Int) (hs : (s.size : Int) ≤ 4611686018427387904) (i : Nat) (hi : i < 7) (hp : ∀ j, j < i → erT s a j = .nilIface) (W : World) :
    Calls Tryd.prog (fT i) (#[.agg #[.string s, .int .i64 a]] ++ #[]) W fun x w' => x = .returned (erT s a i) ∧ Below W.heap.size W w' := by
  have hq := fun j h => erT_ok (hp j h)
  match i, hi with
  | 0, _ => exact isPlace_c s a W
  | 1, _ => exact isBegun_c s a W
  | 2, _ =>
    have h0 := hq 0 (by omega)
    have h1 := hq 1 (by omega)
    simp only [okT, Bool.and_eq_true, decide_eq_true_eq] at h0 h1
    obtain ⟨n, rfl⟩ : ∃ n : Nat, a = n := ⟨a.toNat, by omega⟩
    exact isKind_c s n (by omega) W
  | 3, _ =>
    have h0 := hq 0 (by omega)
    have h1 := hq 1 (by omega)
    simp only [okT, Bool.and_eq_true, decide_eq_true_eq] at h0 h1
    obtain ⟨n, rfl⟩ : ∃ n : Nat, a = n := ⟨a.toNat, by omega⟩
    exact isHead_c s n (by omega) (by omega) W
  | 4, _ =>
    have h0 := hq 0 (by omega)
    have h3 := hq 3 (by omega)
    simp only [okT, Bool.and_eq_true, decide_eq_true_eq] at h0 h3
    obtain ⟨n, rfl⟩ : ∃ n : Nat, a = n := ⟨a.toNat, by omega⟩
    exact isShort_c s n h3 hs W
  | 5, _ =>
    have h0 := hq 0 (by omega)
    have h3 := hq 3 (by omega)
    simp only [okT, Bool.and_eq_true, decide_eq_true_eq] at h0 h3
    obtain ⟨n, rfl⟩ : ∃ n : Nat, a = n := ⟨a.toNat, by omega⟩
    exact isWhole_c s n h3 hs W
  | 6, _ =>
    have h0 := hq 0 (by omega)
    have h5 := hq 5 (by omega)
    simp only [okT, Bool.and_eq_true, decide_eq_true_eq] at h0 h5
    obtain ⟨n, rfl⟩ : ∃ n : Nat, a = n := ⟨a.toNat, by omega⟩
    have hr := numAt_range s (n + 3)
    simp only [Int.toNat_natCast] at h5
    obtain ⟨L, hL⟩ : ∃ L : Nat, numAt s (n + 3) = L := ⟨(numAt s (n + 3)).toNat, by omega⟩
    have := isRight_c s n L hL (by omega) hs W
    have e : L = (numAt s (n + 3)).toNat := by omega
    rw [e] at this
    exact this

/-- Why there is no frame at a place, or nought. -/
def tkE (s : ByteArray) (a : Int) : Int :=
  if okT s a 0 = false then 2 else if okT s a 1 = false then 30 else if okT s a 2 = false then 31 else if okT s a 3 = false then 30 else if okT s a 4 = false then 32 else if okT s a 5 = false then 30 else if okT s a 6 = false then 33 else 0
theorem first_is (s : ByteArray) (a : Int) : firstE (erT s a) 0 7 = errV (decide (tkE s a = 0)) (tkE s a) := by
  unfold tkE
  simp only [firstE, erT, errV, noT]
  cases okT s a 0 with
  | false => rfl
  | true =>
    cases okT s a 1 with
    | false => rfl
    | true =>
      cases okT s a 2 with
      | false => rfl
      | true =>
        cases okT s a 3 with
        | false => rfl
        | true =>
          cases okT s a 4 with
          | false => rfl
          | true =>
            cases okT s a 5 with
            | false => rfl
            | true =>
              cases okT s a 6 with
              | false => rfl
              | true => rfl
theorem tkE_zero {s : ByteArray} {a : Int} (h : tkE s a = 0) : ∀ i, i < 7 → okT s a i = true := by
  unfold tkE at h
  repeat' (split at h)
  all_goals (first | (exfalso; revert h; decide) | skip)
  intro i hi
  rename_i h0 h1 h2 h3 h4 h5 h6
  match i, hi with
  | 0, _ => simpa using h0
  | 1, _ => simpa using h1
  | 2, _ => simpa using h2
  | 3, _ => simpa using h3
  | 4, _ => simpa using h4
  | 5, _ => simpa using h5
  | 6, _ => simpa using h6
end Go.Proofs.YtdcnpcdohgecbaaDoor
