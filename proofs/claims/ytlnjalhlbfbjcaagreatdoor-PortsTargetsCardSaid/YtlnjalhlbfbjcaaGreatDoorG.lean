/- A reader's parts: a number, a mark, the end, an octet, a point. -/
import Derived.Test.YtlnjalhlbfbjcaaGreatDoorF
import Derived.Test.YtlnjalhlbfbjcaaGreatDoorShelf
namespace Go.Proofs.YtlnjalhlbfbjcaaGreatDoor
open Go.RowKit Go.Shelf
attribute [local go_sem] Oper.semAt_some

theorem list_size (s : ByteArray) : s.data.toList.length = s.size := rfl
theorem extract_list (s : ByteArray) (k : Nat) : (s.extract k s.size).data.toList = s.data.toList.drop k := by
  have : (s.extract k s.size).data = s.data.extract k s.size := by simp
  rw [this, Array.toList_extract]
  simp only [List.extract]
  rw [List.take_of_length_le]
  simp only [List.length_drop, list_size]
  omega
/-- What a number's digits tell, and what is left. -/
def numP (most : Int) (L : List UInt8) : Option (Int × List UInt8) := match runD most (0, 0) (digN 0 L) with
  | none => none
  | some (n, k) => if 0 < k then some (n, L.drop k.toNat) else none
theorem number_c (b : Nat) (s : ByteArray) (hsz : s.size ≤ 1000) (most : Int) (vs : List Value) (hm : 0 ≤ most ∧ most ≤ 100000) (w : World) (hR : RdL b s vs w) :
    Calls Tryz.prog 54 #[.pointer (some ⟨b, 0, none⟩), .int .i64 most] w fun x w' =>
      (numP most s.data.toList = none ∧ (∃ n, x = .returned (.tuple #[.int .i64 n, .bool false])) ∧ (∃ s', RdL b s' vs w') ∧ w.grownBy w' (some b)) ∨
      (∃ n L, numP most s.data.toList = some (n, L) ∧ 0 ≤ n ∧ n ≤ most ∧ x = .returned (.tuple #[.int .i64 n, .bool true]) ∧ w.grownBy w' (some b) ∧ ∃ s', s'.data.toList = L ∧ s'.size ≤ 1000 ∧ RdL b s' vs w') := by
  refine (callsIn_wide.1 (number_in b s hsz most vs hm w hR)).mono ?_
  rintro x w' (⟨h, rfl, hR', g⟩ | ⟨n, k, h, rfl, hR', g⟩)
  · exact .inl ⟨by unfold numP; rw [h], ⟨_, rfl⟩, ⟨_, hR'⟩, g⟩
  · have hbd := runD_bound (most := most) (D := digN 0 s.data.toList) (st := (0, 0)) (st' := (n, k)) ⟨by simp, by simp; omega, by simp, by simp⟩ h
    simp only at hbd
    by_cases hk : 0 < k
    · rw [decide_eq_true hk]
      refine .inr ⟨n, s.data.toList.drop k.toNat, by unfold numP; rw [h]; simp only [if_pos hk], hbd.1, hbd.2.1, rfl, g, _, extract_list s k.toNat, ?_, hR'⟩
      have e := congrArg List.length (extract_list s k.toNat)
      rw [list_size, List.length_drop, list_size] at e
      omega
    · rw [decide_eq_false hk]
      exact .inl ⟨by unfold numP; rw [h]; simp only [if_neg hk], ⟨_, rfl⟩, ⟨_, hR'⟩, g⟩

/-- The texts behind a mark. -/
def markP (c : UInt8) : List UInt8 → Option (List UInt8)
  | [] => none
  | x :: r => if x = c then some r else none
theorem mark_lists (c : UInt8) (L : List UInt8) : (markP c L = none ∧ Lib.hasPrefix L [c] = false ∧ Lib.trimPrefix L [c] = L) ∨ (∃ r, markP c L = some r ∧ Lib.hasPrefix L [c] = true ∧ Lib.trimPrefix L [c] = r ∧ r.length ≤ L.length) := by
  cases L with
  | nil => exact .inl ⟨rfl, by simp [Lib.hasPrefix], by simp [Lib.trimPrefix, Lib.hasPrefix]⟩
  | cons x r =>
    by_cases h : x = c
    · subst h
      exact .inr ⟨r, by simp [markP], by simp [Lib.hasPrefix], by simp [Lib.trimPrefix, Lib.hasPrefix], by simp⟩
    · have h' : ¬ c = x := fun e => h e.symm
      exact .inl ⟨by simp [markP, h], by simp only [Lib.hasPrefix, List.isPrefixOf]; simp [h'], by simp only [Lib.trimPrefix, Lib.hasPrefix, List.isPrefixOf]; simp [h']⟩

set_option maxRecDepth 100000 in
set_option maxHeartbeats 2000000 in
theorem mark_c (b : Nat) (s : ByteArray) (hsz : s.size ≤ 1000) (vs : List Value) (c : UInt8) (w : World) (hR : RdL b s vs w) :
    Calls Tryz.prog 74 #[.pointer (some ⟨b, 0, none⟩), .string ⟨#[c]⟩] w fun x w' =>
      (markP c s.data.toList = none ∧ x = .returned (.bool false) ∧ w.grownBy w' (some b) ∧ ∃ s', RdL b s' vs w') ∨
      (∃ L, markP c s.data.toList = some L ∧ x = .returned (.bool true) ∧ w.grownBy w' (some b) ∧ ∃ s', s'.data.toList = L ∧ s'.size ≤ 1000 ∧ RdL b s' vs w') := by
  have HC := fun W => Tryz.strings_CutPrefix s ⟨#[c]⟩ W
  have c0 := hR.c0
  have f0 := hR.f0
  have HR := Lib.hid hR
  clear hR
  have g0 : w.grownBy w (some b) := gr_below (Below.refl _ _)
  rcases mark_lists c s.data.toList with ⟨h1, h2, h3⟩ | ⟨r, h1, h2, h3, h4⟩
  · rw [show (⟨#[c]⟩ : ByteArray).data.toList = [c] from rfl, h2, h3] at HC
    have HC' := Lib.hid HC
    clear HC h2 h3
    have H1 := Lib.hid h1
    clear h1
    go_enter Tryz.func74, Tryz.ntmps74
    go_wp2_with (go_at_call 88; refine (HC'.out _).mono ?_; rintro x w1 ⟨rfl, rfl⟩)
    go_ret
    exact .inl ⟨H1.out, rfl, gr_set g0 (.inl rfl) _, _, HR.out.set0 _⟩
  · rw [show (⟨#[c]⟩ : ByteArray).data.toList = [c] from rfl, h2, h3] at HC
    have HC' := Lib.hid HC
    have hsr : (⟨r.toArray⟩ : ByteArray).size ≤ 1000 := by rw [← list_size]; show r.length ≤ 1000; rw [← list_size] at hsz; omega
    clear HC h2 h3 h4
    have H1 := Lib.hid h1
    clear h1
    go_enter Tryz.func74, Tryz.ntmps74
    go_wp2_with (go_at_call 88; refine (HC'.out _).mono ?_; rintro x w1 ⟨rfl, rfl⟩)
    go_ret
    exact .inr ⟨r, H1.out, rfl, gr_set g0 (.inl rfl) _, ⟨r.toArray⟩, by simp, hsr, HR.out.set0 _⟩

set_option maxRecDepth 100000 in
theorem end_c (b : Nat) (s : ByteArray) (vs : List Value) (w : World) (hR : RdL b s vs w) :
    Calls Tryz.prog 53 #[.pointer (some ⟨b, 0, none⟩)] w fun x w' => x = .returned (.bool (decide (s.data.toList = []))) ∧ w = w' := by
  have c0 := hR.c0
  cases hl : s.data.toList with
  | nil =>
    have he : s.toList.isEmpty = true := by rw [ByteArray.toList_eq, hl]; rfl
    rw [decide_eq_true rfl]
    go_enter Tryz.func53, Tryz.ntmps53
    go_wp2
    go_ret
    exact ⟨rfl, rfl⟩
  | cons x r =>
    have he : s.toList.isEmpty = false := by rw [ByteArray.toList_eq, hl]; rfl
    rw [decide_eq_false (by simp)]
    go_enter Tryz.func53, Tryz.ntmps53
    go_wp2
    go_ret
    exact ⟨rfl, rfl⟩

theorem or_byte {A n : Int} (hA : 0 ≤ A ∧ A ≤ 16777215) (h0 : 0 ≤ n) (h1 : n ≤ 255) : bits .or .i64 (A * 256) n = A * 256 + n := by
  obtain ⟨a, rfl⟩ : ∃ a : Nat, A = a := ⟨A.toNat, by omega⟩
  obtain ⟨m, rfl⟩ : ∃ m : Nat, n = m := ⟨n.toNat, by omega⟩
  have e2 : bits .or .i64 ((a : Int) * 256) (m : Int) = IntKind.i64.wrap (((BitVec.ofInt 64 ((a : Int) * 256) ||| BitVec.ofInt 64 (m : Int)).toNat : Nat) : Int) := rfl
  rw [e2, show ((a : Int) * 256) = ((2 ^ 8 * a : Nat) : Int) by omega]
  simp only [BitVec.ofInt_natCast, BitVec.toNat_or, BitVec.toNat_ofNat]
  rw [Nat.mod_eq_of_lt (show 2 ^ 8 * a < 2 ^ 64 by omega), Nat.mod_eq_of_lt (show m < 2 ^ 64 by omega), ← Nat.two_pow_add_eq_or_of_lt (by omega)]
  exact IntWalk.i64_in _ (by omega)

set_option maxRecDepth 100000 in
set_option maxHeartbeats 2000000 in
theorem octet_c (b : Nat) (s : ByteArray) (hsz : s.size ≤ 1000) (A K : Int) (hA : 0 ≤ A ∧ A ≤ 16777215) (w : World) (hR : RdAt b s A K w) :
    Calls Tryz.prog 67 #[.pointer (some ⟨b, 0, none⟩)] w fun x w' =>
      (numP 255 s.data.toList = none ∧ x = .returned (.bool false) ∧ w.grownBy w' (some b)) ∨
      (∃ n L, numP 255 s.data.toList = some (n, L) ∧ 0 ≤ n ∧ n ≤ 255 ∧ x = .returned (.bool true) ∧ w.grownBy w' (some b) ∧ ∃ s', s'.data.toList = L ∧ s'.size ≤ 1000 ∧ RdAt b s' (A * 256 + n) K w') := by
  have HC := Lib.hid (fun W h => number_c b s hsz 255 [.int .i64 A, .int .i64 K] (by omega) W h)
  go_enter Tryz.func67, Tryz.ntmps67
  go_wp2_with fail
  refine (HC.out _ hR).mono ?_
  rintro x w1 (⟨h, ⟨n, rfl⟩, ⟨s', hR'⟩, g⟩ | ⟨n, L, h, h0, h1, rfl, g, s', hs', hz', hR'⟩)
  · replace hR' : RdAt b s' A K w1 := hR'
    have c1 := hR'.c1
    have f1 := hR'.f1
    clear hR HC
    go_wp2
    go_ret
    exact .inl ⟨h, rfl, gr_set g (.inl rfl) _⟩
  · replace hR' : RdAt b s' A K w1 := hR'
    have c1 := hR'.c1
    have f1 := hR'.f1
    have hor := or_byte hA h0 h1
    clear hR HC
    go_wp2
    go_ret
    exact .inr ⟨n, L, h, h0, h1, rfl, gr_set g (.inl rfl) _, s', hs', hz', hR'.set1 _⟩

theorem point_c (b : Nat) (s : ByteArray) (hsz : s.size ≤ 1000) (A K : Int) (w : World) (hR : RdAt b s A K w) :
    Calls Tryz.prog 68 #[.pointer (some ⟨b, 0, none⟩)] w fun x w' =>
      (markP 46 s.data.toList = none ∧ x = .returned (.bool false) ∧ w.grownBy w' (some b)) ∨
      (∃ L, markP 46 s.data.toList = some L ∧ x = .returned (.bool true) ∧ w.grownBy w' (some b) ∧ ∃ s', s'.data.toList = L ∧ s'.size ≤ 1000 ∧ RdAt b s' A K w') := by
  have HC := Lib.hid (mark_c b s hsz [.int .i64 A, .int .i64 K] 46 w hR)
  go_enter Tryz.func68, Tryz.ntmps68
  go_wp2_with fail
  refine HC.out.mono ?_
  rintro x w1 (⟨h, rfl, g, -⟩ | ⟨L, h, rfl, g, hh⟩)
  · go_wp2
    go_ret
    exact .inl ⟨h, rfl, g⟩
  · go_wp2
    go_ret
    exact .inr ⟨L, h, rfl, g, hh⟩
end Go.Proofs.YtlnjalhlbfbjcaaGreatDoor
