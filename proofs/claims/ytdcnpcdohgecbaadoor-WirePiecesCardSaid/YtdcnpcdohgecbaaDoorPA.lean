/- Frames as plain bytes. -/
import Derived.Test.YtdcnpcdohgecbaaDoorY
namespace Go.Proofs.YtdcnpcdohgecbaaDoor
open Go.RowKit

abbrev FrT := Int × Int × ByteArray
def rightF (f : FrT) : Bool := rightW f.1 f.2.1 f.2.2.size
def encL (f : FrT) : List UInt8 := UInt8.ofNat f.1.toNat :: UInt8.ofNat (f.2.1.toNat / 256) :: UInt8.ofNat (f.2.1.toNat % 256) :: UInt8.ofNat (f.2.2.size / 256) :: UInt8.ofNat (f.2.2.size % 256) :: f.2.2.data.toList
theorem encL_is (f : FrT) : (frameB f.1.toNat f.2.1.toNat f.2.2).data.toList = encL f := by
  unfold frameB encL
  simp
theorem encL_length (f : FrT) : (encL f).length = 5 + f.2.2.size := by
  unfold encL
  simp; omega
def hdK (l : List UInt8) : Int := ((l.getD 0 0).toNat : Int)
def hdS (l : List UInt8) : Int := numB (List.take 2 (List.drop 1 l))
def hdL (l : List UInt8) : Int := numB (List.take 2 (List.drop 3 l))
def hdD (l : List UInt8) : List UInt8 := List.take (hdL l).toNat (List.drop 5 l)
/-- Why a text begins with no frame, or nought. -/
def hdE (l : List UInt8) : Int :=
  if l.length = 0 then 30 else if ¬ (1 ≤ hdK l ∧ hdK l ≤ 8) then 31 else if l.length < 5 then 30 else if ¬ hdL l ≤ 512 then 32 else if (l.length : Int) < 5 + hdL l then 30 else if rightW (hdK l) (hdS l) (hdL l).toNat = false then 33 else 0
theorem numB_range (l : List UInt8) : 0 ≤ numB l ∧ numB l ≤ 65535 := by
  match l with
  | [] => exact ⟨by decide, by decide⟩
  | [_] => exact ⟨by show (0 : Int) ≤ 0; omega, by show (0 : Int) ≤ 65535; omega⟩
  | [a, b] =>
    have ha := a.toNat_lt
    have hb := b.toNat_lt
    constructor
    · show (0 : Int) ≤ 256 * (a.toNat : Int) + (b.toNat : Int); omega
    · show 256 * (a.toNat : Int) + (b.toNat : Int) ≤ 65535; omega
  | _ :: _ :: _ :: _ => exact ⟨by show (0 : Int) ≤ 0; omega, by show (0 : Int) ≤ 65535; omega⟩
theorem tkE_hd (s : ByteArray) (n : Nat) (hn : n ≤ s.size) : tkE s (n : Int) = hdE (List.drop n s.data.toList) := by
  have hl : (List.drop n s.data.toList).length = s.size - n := by simp
  have hK : byteAt s n = hdK (List.drop n s.data.toList) := by
    unfold byteAt hdK
    simp [List.getD_eq_getElem?_getD]
  have hS : numAt s (n + 1) = hdS (List.drop n s.data.toList) := by unfold numAt hdS; rw [List.drop_drop]
  have hL : numAt s (n + 3) = hdL (List.drop n s.data.toList) := by unfold numAt hdL; rw [List.drop_drop]
  have hr := numAt_range s (n + 3)
  unfold tkE hdE okT
  simp only [Int.toNat_natCast, hK, hS, hL] at hr ⊢
  rw [hl]
  generalize hdK (List.drop n s.data.toList) = K at *
  generalize hdS (List.drop n s.data.toList) = S at *
  generalize hdL (List.drop n s.data.toList) = L at *
  have e0 : (decide ((0 : Int) ≤ (n : Int)) && decide ((n : Int) ≤ (s.size : Int))) = true := by simp; omega
  rw [e0]
  simp only [Bool.true_eq_false, if_false, decide_eq_false_iff_not, Bool.and_eq_false_iff]
  clear hK hS hL e0 hl
  repeat' split
  all_goals (first | rfl | (exfalso; omega) | (exfalso; simp_all; done))
theorem five {l : List UInt8} (h : ¬ l.length < 5) : ∃ b0 b1 b2 b3 b4 t, l = b0 :: b1 :: b2 :: b3 :: b4 :: t := by
  match l with
  | [] => exact absurd (by simp) h
  | [_] => exact absurd (by simp) h
  | [_, _] => exact absurd (by simp) h
  | [_, _, _] => exact absurd (by simp) h
  | [_, _, _, _] => exact absurd (by simp) h
  | b0 :: b1 :: b2 :: b3 :: b4 :: t => exact ⟨b0, b1, b2, b3, b4, t, rfl⟩
theorem tk_hd {s : ByteArray} {n : Nat} (_hn : n ≤ s.size) (h : tkE s (n : Int) = 0) : tkK s n = hdK (List.drop n s.data.toList) ∧ tkS s n = hdS (List.drop n s.data.toList) ∧ (tkD s n).data.toList = hdD (List.drop n s.data.toList) ∧ tkN s n = (n : Int) + 5 + hdL (List.drop n s.data.toList) := by
  have hL : numAt s (n + 3) = hdL (List.drop n s.data.toList) := by unfold numAt hdL; rw [List.drop_drop]
  unfold tkK tkS tkD tkN
  simp only [h, if_true, Int.toNat_natCast]
  refine ⟨?_, ?_, ?_, ?_⟩
  · unfold byteAt hdK
    simp [List.getD_eq_getElem?_getD]
  · unfold numAt hdS; rw [List.drop_drop]
  · rw [hL]
    unfold hdD
    rw [List.drop_drop]
    rw [ByteArray.data_extract]
    simp only [Array.toList_extract, List.extract_eq_take_drop]
    congr 1
    omega
  · rw [hL]
theorem ofNat_toNat (b : UInt8) : UInt8.ofNat b.toNat = b := UInt8.ofNat_toNat
/-- A text that begins with a frame. -/
theorem hd_frame {l : List UInt8} (h : hdE l = 0) : rightF (hdK l, hdS l, ⟨(hdD l).toArray⟩) = true ∧ l = encL (hdK l, hdS l, ⟨(hdD l).toArray⟩) ++ List.drop (5 + (hdL l).toNat) l ∧ (hdD l).length = (hdL l).toNat ∧ 5 + (hdL l).toNat ≤ l.length := by
  unfold hdE at h
  split at h
  · cases h
  split at h
  · cases h
  split at h
  · cases h
  split at h
  · cases h
  split at h
  · cases h
  split at h
  · cases h
  rename_i h0 h1 h2 h3 h4 h5
  obtain ⟨b0, b1, b2, b3, b4, t, rfl⟩ := five h2
  · 
    have hK : hdK (b0 :: b1 :: b2 :: b3 :: b4 :: t) = (b0.toNat : Int) := rfl
    have hS : hdS (b0 :: b1 :: b2 :: b3 :: b4 :: t) = 256 * (b1.toNat : Int) + (b2.toNat : Int) := rfl
    have hL : hdL (b0 :: b1 :: b2 :: b3 :: b4 :: t) = 256 * (b3.toNat : Int) + (b4.toNat : Int) := rfl
    have hD : hdD (b0 :: b1 :: b2 :: b3 :: b4 :: t) = List.take (256 * b3.toNat + b4.toNat) t := by
      unfold hdD; rw [hL]; rw [show ((256 * (b3.toNat : Int) + (b4.toNat : Int))).toNat = 256 * b3.toNat + b4.toNat by omega]; rfl
    have q1 := b1.toNat_lt
    have q2 := b2.toNat_lt
    have q3 := b3.toNat_lt
    have q4 := b4.toNat_lt
    rw [hK, hS, hL] at h5
    rw [hL] at h4
    simp only [List.length_cons] at h4
    rw [hK, hS, hL, hD]
    have e : (256 * (b3.toNat : Int) + (b4.toNat : Int)).toNat = 256 * b3.toNat + b4.toNat := by omega
    rw [e] at h5 ⊢
    have hlen : (List.take (256 * b3.toNat + b4.toNat) t).length = 256 * b3.toNat + b4.toNat := by rw [List.length_take]; omega
    have hsz : (⟨(List.take (256 * b3.toNat + b4.toNat) t).toArray⟩ : ByteArray).size = 256 * b3.toNat + b4.toNat := by show (List.take (256 * b3.toNat + b4.toNat) t).toArray.size = _; simp; omega
    refine ⟨?_, ?_, hlen, by simp; omega⟩
    · unfold rightF
      simp only [hsz]
      simpa using h5
    · unfold encL
      simp only [hsz, Int.toNat_natCast]
      rw [show (256 * (b1.toNat : Int) + (b2.toNat : Int)).toNat = 256 * b1.toNat + b2.toNat by omega]
      rw [show (256 * b1.toNat + b2.toNat) / 256 = b1.toNat by omega, show (256 * b1.toNat + b2.toNat) % 256 = b2.toNat by omega, show (256 * b3.toNat + b4.toNat) / 256 = b3.toNat by omega, show (256 * b3.toNat + b4.toNat) % 256 = b4.toNat by omega]
      simp only [ofNat_toNat]
      rw [show 5 + (256 * b3.toNat + b4.toNat) = (256 * b3.toNat + b4.toNat) + 5 by omega]
      simp
/-- A frame's bytes, whatever stands behind. -/
theorem enc_hd {f : FrT} (h : rightF f = true) (r : List UInt8) : hdE (encL f ++ r) = 0 ∧ hdK (encL f ++ r) = f.1 ∧ hdS (encL f ++ r) = f.2.1 ∧ hdL (encL f ++ r) = f.2.2.size ∧ hdD (encL f ++ r) = f.2.2.data.toList := by
  obtain ⟨k, st, d⟩ := f
  obtain ⟨h1, h2, h3, h4, h5⟩ := right_facts h
  simp only at h1 h2 h3 h4 h5
  have hK : hdK (encL (k, st, d) ++ r) = k := by
    show (((UInt8.ofNat k.toNat).toNat : Nat) : Int) = k
    rw [UInt8.toNat_ofNat']; omega
  have hS : hdS (encL (k, st, d) ++ r) = st := by
    show 256 * (((UInt8.ofNat (st.toNat / 256)).toNat : Nat) : Int) + (((UInt8.ofNat (st.toNat % 256)).toNat : Nat) : Int) = st
    rw [UInt8.toNat_ofNat', UInt8.toNat_ofNat']; omega
  have hL : hdL (encL (k, st, d) ++ r) = d.size := by
    show 256 * (((UInt8.ofNat (d.size / 256)).toNat : Nat) : Int) + (((UInt8.ofNat (d.size % 256)).toNat : Nat) : Int) = d.size
    rw [UInt8.toNat_ofNat', UInt8.toNat_ofNat']; omega
  have hlen : (encL (k, st, d) ++ r).length = 5 + d.size + r.length := by rw [List.length_append, encL_length]
  refine ⟨?_, hK, hS, hL, ?_⟩
  · unfold hdE
    rw [hK, hS, hL, hlen, if_neg (by omega), if_neg (by omega), if_neg (by omega), if_neg (by omega), if_neg (by omega), if_neg]
    rw [Int.toNat_natCast]
    have : rightW k st d.size = true := h
    rw [this]; simp
  · unfold hdD
    rw [hL, Int.toNat_natCast]
    show List.take d.size (d.data.toList ++ r) = d.data.toList
    rw [List.take_append_of_le_length (by simp)]
    exact List.take_of_length_le (by simp)
/-- What is wrong stays so, whatever stands behind, but for what is cut. -/
theorem hd_app {p : List UInt8} (h : ¬ hdE p = 30) (q : List UInt8) : hdE (p ++ q) = hdE p := by
  have h0 : ¬ p.length = 0 := fun e => h (by unfold hdE; rw [if_pos e])
  have hK : hdK (p ++ q) = hdK p := by
    unfold hdK
    cases p with
    | nil => exact absurd rfl h0
    | cons => rfl
  have hl : (p ++ q).length = p.length + q.length := List.length_append
  by_cases h5 : p.length < 5
  · unfold hdE at h ⊢
    rw [hK, hl]
    revert h
    generalize hdK p = K
    generalize hdS p = S
    generalize hdS (p ++ q) = S'
    generalize hdL p = L
    generalize hdL (p ++ q) = L'
    repeat' split
    all_goals (intro h; first | rfl | (exfalso; omega) | (exfalso; simp_all; done))
  · obtain ⟨b0, b1, b2, b3, b4, t, rfl⟩ := five h5
    have hS : hdS ((b0 :: b1 :: b2 :: b3 :: b4 :: t) ++ q) = hdS (b0 :: b1 :: b2 :: b3 :: b4 :: t) := rfl
    have hL : hdL ((b0 :: b1 :: b2 :: b3 :: b4 :: t) ++ q) = hdL (b0 :: b1 :: b2 :: b3 :: b4 :: t) := rfl
    unfold hdE at h ⊢
    rw [hK, hS, hL, hl]
    clear hK hS hL hl
    generalize (b0 :: b1 :: b2 :: b3 :: b4 :: t) = p at *
    revert h
    generalize hdK p = K
    generalize hdS p = S
    generalize hdL p = L
    repeat' split
    all_goals (intro h; first | rfl | (exfalso; omega) | (exfalso; simp_all; done))
/-- Of a frame that is cut more is to come. -/
theorem hd_cut {f : FrT} (h : rightF f = true) (i : Nat) (hi : i < (encL f).length) : hdE (List.take i (encL f)) = 30 := by
  rw [encL_length] at hi
  have hf := enc_hd h []
  rw [List.append_nil] at hf
  obtain ⟨k, st, d⟩ := f
  obtain ⟨h1, h2, h3, h4, h5⟩ := right_facts h
  simp only at h1 h2 h3 h4 h5 hi
  have hl : (List.take i (encL (k, st, d))).length = i := by rw [List.length_take, encL_length]; simp only; omega
  unfold hdE
  rw [hl]
  by_cases e0 : i = 0
  · rw [if_pos e0]
  · rw [if_neg e0]
    have hK : hdK (List.take i (encL (k, st, d))) = k := by
      refine Eq.trans ?_ (show hdK (encL (k, st, d)) = k from hf.2.1)
      match i, e0 with
      | i + 1, _ => rfl
    rw [hK, if_neg (by omega)]
    by_cases e5 : i < 5
    · rw [if_pos e5]
    · rw [if_neg e5]
      have hL : hdL (List.take i (encL (k, st, d))) = d.size := by
        refine Eq.trans ?_ (show hdL (encL (k, st, d)) = d.size from hf.2.2.2.1)
        match i, e5 with
        | i + 5, _ => rfl
      rw [hL, if_neg (by omega), if_pos (by omega)]
end Go.Proofs.YtdcnpcdohgecbaaDoor
