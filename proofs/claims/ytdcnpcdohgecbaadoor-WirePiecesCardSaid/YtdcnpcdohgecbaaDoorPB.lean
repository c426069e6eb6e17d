/- The frames of a text as a list; All by it. -/
import Derived.Test.YtdcnpcdohgecbaaDoorPA
namespace Go.Proofs.YtdcnpcdohgecbaaDoor
open Go.RowKit

def encs (l : List FrT) : List UInt8 := (l.map encL).flatten
theorem encs_cons (f : FrT) (l : List FrT) : encs (f :: l) = encL f ++ encs l := by simp [encs]
theorem encs_append (l m : List FrT) : encs (l ++ m) = encs l ++ encs m := by simp [encs]
def frOf (s : ByteArray) (a : Int) : FrT := (tkK s a, tkS s a, tkD s a)
def fCells : List FrT → List Value
  | [] => []
  | f :: l => .int .i64 f.1 :: .int .i64 f.2.1 :: .string f.2.2 :: fCells l
theorem fCells_append (l m : List FrT) : fCells (l ++ m) = fCells l ++ fCells m := by
  induction l with
  | nil => rfl
  | cons f l ih => simp [fCells, ih]
theorem fCells_length (l : List FrT) : (fCells l).length = l.length * 3 := by
  induction l with
  | nil => rfl
  | cons f l ih => simp [fCells, ih]; omega
theorem frCells_is (s : ByteArray) (l : List Int) : frCells s l = fCells (l.map (frOf s)) := by
  induction l with
  | nil => rfl
  | cons a l ih => simp [frCells, fCells, frOf, ih]
/-- A text's frames, and what is left. -/
def AllS (L : List UInt8) (fs : List FrT) (r : List UInt8) : Prop := L = encs fs ++ r ∧ (∀ f ∈ fs, rightF f = true) ∧ ¬ hdE r = 0
theorem bytes_eq {d : ByteArray} {l : List UInt8} (h : d.data.toList = l) : d = ⟨l.toArray⟩ := by
  subst h; obtain ⟨⟨d⟩⟩ := d; rfl
theorem bytes_ext {d e : ByteArray} (h : d.data.toList = e.data.toList) : d = e := by
  obtain ⟨⟨d⟩⟩ := d
  obtain ⟨⟨e⟩⟩ := e
  simp only at h
  rw [h]
theorem Chain.lists {s : ByteArray} {pre : List Int} {a : Int} (h : Chain s pre a) : s.data.toList = encs (pre.map (frOf s)) ++ List.drop a.toNat s.data.toList ∧ (∀ f ∈ pre.map (frOf s), rightF f = true) ∧ a = ((encs (pre.map (frOf s))).length : Int) := by
  induction h with
  | nil => exact ⟨rfl, by simp, rfl⟩
  | snoc hc hz ih =>
    rename_i pre b
    obtain ⟨i1, i2, i3⟩ := ih
    obtain ⟨n, L, rfl, hL, hk, _⟩ := tk_facts hz
    have hn : n ≤ s.size := by omega
    have he := tkE_hd s n hn
    rw [hz] at he
    obtain ⟨k1, k2, k3, k4⟩ := tk_hd hn hz
    obtain ⟨r1, r2, r3, r4⟩ := hd_frame he.symm
    have hf : frOf s (n : Int) = (hdK (List.drop n s.data.toList), hdS (List.drop n s.data.toList), ⟨(hdD (List.drop n s.data.toList)).toArray⟩) := by
      unfold frOf
      rw [k1, k2, bytes_eq k3]
    rw [← hf] at r1 r2
    simp only [Int.toNat_natCast] at i1
    have hr := numB_range (List.take 2 (List.drop 3 (List.drop n s.data.toList)))
    have hr' : 0 ≤ hdL (List.drop n s.data.toList) := hr.1
    have ed : List.drop (tkN s (n : Int)).toNat s.data.toList = List.drop (5 + (hdL (List.drop n s.data.toList)).toNat) (List.drop n s.data.toList) := by
      rw [k4, List.drop_drop]
      congr 1
      omega
    have hlen : (encL (frOf s (n : Int))).length = 5 + (hdL (List.drop n s.data.toList)).toNat := by
      rw [encL_length, hf]
      show 5 + (hdD (List.drop n s.data.toList)).toArray.size = _
      rw [List.size_toArray, r3]
    rw [List.map_append, List.map_singleton, encs_append]
    have e1 : encs [frOf s (n : Int)] = encL (frOf s (n : Int)) := by simp [encs]
    rw [e1]
    refine ⟨?_, ?_, ?_⟩
    · rw [ed, List.append_assoc, ← r2]
      exact i1
    · intro f hm
      rcases List.mem_append.1 hm with h | h
      · exact i2 f h
      · rw [List.mem_singleton.1 h]; exact r1
    · rw [k4, List.length_append, hlen]
      omega
theorem Chain.alls {s : ByteArray} {pre : List Int} {a : Int} (h : Chain s pre a) (hn : ¬ tkE s a = 0) : AllS s.data.toList (pre.map (frOf s)) (List.drop a.toNat s.data.toList) ∧ tkE s a = hdE (List.drop a.toNat s.data.toList) ∧ a = ((encs (pre.map (frOf s))).length : Int) := by
  obtain ⟨h1, h2, h3⟩ := h.lists
  obtain ⟨n, rfl⟩ : ∃ n : Nat, a = n := ⟨a.toNat, by omega⟩
  have hr := h.range
  have he := tkE_hd s n (by omega)
  refine ⟨⟨h1, h2, ?_⟩, ?_, h3⟩
  · rw [Int.toNat_natCast, ← he]; exact hn
  · rw [Int.toNat_natCast]; exact he
theorem AllS.uniq : ∀ (fs fs' : List FrT) {L r r' : List UInt8}, AllS L fs r → AllS L fs' r' → fs = fs' ∧ r = r'
  | [], [], L, r, r', h, k => ⟨rfl, h.1.symm.trans k.1⟩
  | [], f :: fs, L, r, r', h, k => by
    exfalso
    have h1 : L = r := h.1
    have k1 := k.1
    rw [encs_cons, List.append_assoc] at k1
    have := (enc_hd (k.2.1 f (by simp)) (encs fs ++ r')).1
    rw [← k1, h1] at this
    exact h.2.2 this
  | f :: fs, [], L, r, r', h, k => by
    exfalso
    have k1 : L = r' := k.1
    have h1 := h.1
    rw [encs_cons, List.append_assoc] at h1
    have := (enc_hd (h.2.1 f (by simp)) (encs fs ++ r)).1
    rw [← h1, k1] at this
    exact k.2.2 this
  | f :: fs, g :: gs, L, r, r', h, k => by
    have h1 := h.1
    have k1 := k.1
    rw [encs_cons, List.append_assoc] at h1 k1
    have p := enc_hd (h.2.1 f (by simp)) (encs fs ++ r)
    have q := enc_hd (k.2.1 g (by simp)) (encs gs ++ r')
    rw [← h1] at p
    rw [← k1] at q
    have e : f = g := by
      obtain ⟨f1, f2, f3⟩ := f
      obtain ⟨g1, g2, g3⟩ := g
      have a1 := p.2.1.symm.trans q.2.1
      have a2 := p.2.2.1.symm.trans q.2.2.1
      have a3 := bytes_ext (p.2.2.2.2.symm.trans q.2.2.2.2)
      simp only at a1 a2 a3
      rw [a1, a2, a3]
    subst e
    have c := List.append_cancel_left (h1.symm.trans k1)
    obtain ⟨e1, e2⟩ := AllS.uniq fs gs (L := encs fs ++ r) ⟨rfl, fun x hx => h.2.1 x (by simp [hx]), h.2.2⟩ ⟨c, fun x hx => k.2.1 x (by simp [hx]), k.2.2⟩
    exact ⟨by rw [e1], e2⟩
/-- What is told of what is left. -/
def errOf (r : List UInt8) : Int := if hdE r = 30 then 0 else hdE r
/-- All, by a text's frames. -/
theorem all2_c (s : ByteArray) (hs : (s.size : Int) ≤ 100000) (fs : List FrT) (r : List UInt8) (hA : AllS s.data.toList fs r) (w : World) (hE : ErrT w) : Calls Tryd.prog 23 #[.string s] w fun x w' => ∃ v : Value, x = .returned (.tuple #[v, .int .i64 ((encs fs).length : Int), .int .i64 (errOf r)]) ∧ w'.ownsRow w.heap.size 23 3 v fs.length (fCells fs) ∧ Below w.heap.size w w' := by
  refine (all_c s hs w hE).mono ?_
  rintro x w' ⟨pre, a, v, rfl, hc, hn, ho, hb⟩
  obtain ⟨a1, a2, a3⟩ := hc.alls hn
  obtain ⟨e1, e2⟩ := AllS.uniq _ _ a1 hA
  refine ⟨v, ?_, ?_, hb⟩
  · have ha : a = ((encs fs).length : Int) := by rw [a3, e1]
    rw [a2, e2, ha]
    rfl
  · rw [frCells_is, e1] at ho
    have : pre.length = fs.length := by rw [← e1]; simp
    rw [this] at ho
    exact ho
/-- Each text has its frames. -/
theorem alls_ex : ∀ (n : Nat) (L : List UInt8), L.length ≤ n → ∃ fs r, AllS L fs r
  | 0, L, h => ⟨[], L, rfl, by simp, by
      have : L = [] := List.length_eq_zero_iff.1 (by omega)
      subst this; decide⟩
  | n + 1, L, h => by
    by_cases hz : hdE L = 0
    · obtain ⟨r1, r2, r3, r4⟩ := hd_frame hz
      obtain ⟨fs, r, h1, h2, h3⟩ := alls_ex n (List.drop (5 + (hdL L).toNat) L) (by rw [List.length_drop]; omega)
      refine ⟨(hdK L, hdS L, ⟨(hdD L).toArray⟩) :: fs, r, ?_, ?_, h3⟩
      · rw [encs_cons, List.append_assoc, ← h1]; exact r2
      · intro f hf
        rcases List.mem_cons.1 hf with rfl | h
        · exact r1
        · exact h2 f h
    · exact ⟨[], L, rfl, by simp, hz⟩
/-- Take, from a frame's bytes. -/
theorem take_at {T : ByteArray} {f : FrT} (hf : rightF f = true) {S R : List UInt8} (h : T.data.toList = S ++ encL f ++ R) : tkE T (S.length : Int) = 0 ∧ tkK T (S.length : Int) = f.1 ∧ tkS T (S.length : Int) = f.2.1 ∧ tkD T (S.length : Int) = f.2.2 ∧ tkN T (S.length : Int) = (S.length : Int) + 5 + f.2.2.size := by
  have hs : T.size = T.data.toList.length := by simp
  have hn : S.length ≤ T.size := by rw [hs, h]; simp
  have hd : List.drop S.length T.data.toList = encL f ++ R := by rw [h, List.append_assoc]; simp
  have hp := enc_hd hf R
  have he := tkE_hd T S.length hn
  rw [hd, hp.1] at he
  obtain ⟨k1, k2, k3, k4⟩ := tk_hd hn he
  rw [hd] at k1 k2 k3 k4
  exact ⟨he, k1.trans hp.2.1, k2.trans hp.2.2.1, bytes_ext (k3.trans hp.2.2.2.2), by rw [k4, hp.2.2.2.1]⟩
end Go.Proofs.YtdcnpcdohgecbaaDoor
