/- Tw -/
import Derived.Test.YtkokcfhfgnkdfaaGreatDoorZ9
/- Plain facts: a direction that is emptied. -/
namespace Go.Proofs.YtkokcfhfgnkdfaaGreatDoor.L17
open L14 (isSt goes dest inB outB endB)

theorem st_keep (cap : Nat) (t : Tn) (x : OpV) (h0 : x.kind ≠ 0) (h5 : x.kind ≠ 5) : (doT cap t x).st = t.st := by
  unfold doT
  rw [if_neg h0]
  split
  · unfold grantT; split; exact st_put _ _ _; rfl
  split
  · unfold feedT; split; exact st_put _ _ _; rfl
  split
  · unfold moveT; split; exact st_put _ _ _; rfl
  split
  · unfold drainT; split; exact st_put _ _ _; rfl
  first | rfl | rw [if_neg h5]
/-- What holds of a direction that is not ended. -/
structure AllS (n : Nat) (d : Int) (t : Tn) (inn out : List UInt8) (c : Nat) : Prop where
  w : Way1 n (t.way d) inn out false
  st : t.st = 2
  cn : t.Cn c
theorem AllS.step {n : Nat} {d : Int} {t : Tn} {inn out : List UInt8} {c B : Nat} (h : AllS n d t inn out c) (hd : sideB d = true) (x : OpV) (h0 : x.kind ≠ 0) (h5 : x.kind ≠ 5) (hB : x.s.size ≤ B) :
    AllS n d (doT n t x) (inn ++ inX n t x d) (out ++ outX t x d) (c + B) := by
  have hs := st_keep n t x h0 h5
  have e1 : endB t.st = false := by rw [h.st]; decide
  have e2 : endB (doT n t x).st = false := by rw [hs]; exact e1
  have hw := h.w
  rw [← e1] at hw
  have := Way1.step (did n t x hd) hw (fun e => by rw [e1] at e; exact absurd e (by decide))
  rw [e2] at this
  exact ⟨this, hs.trans h.st, h.cn.step x hB⟩
theorem up_alls (n : Nat) (d : Int) : AllS n d upT [] [] 0 := ⟨by unfold Tn.way; split <;> exact up_way n _ rfl, rfl, up_cn⟩
theorem AllS.len {n : Nat} {d : Int} {t : Tn} {inn out : List UInt8} {c : Nat} (h : AllS n d t inn out c) : inn.length = out.length + (t.way d).o.length + (t.way d).i.length := by
  have := congrArg List.length (h.w.all rfl)
  simp only [List.length_append] at this
  omega
theorem AllS.eq {n : Nat} {d : Int} {t : Tn} {inn out : List UInt8} {c : Nat} (h : AllS n d t inn out c) (hl : ¬ out.length < inn.length) : out = inn := by
  have h1 := h.len
  have ho : (t.way d).o = [] := List.length_eq_zero_iff.1 (by omega)
  have hi : (t.way d).i = [] := List.length_eq_zero_iff.1 (by omega)
  have := h.w.all rfl
  rw [ho, hi, List.append_nil, List.append_nil] at this
  exact this
def g1 (t : Tn) (d : Int) : Tn := grantT t d 100
def m1 (n : Nat) (t : Tn) (d : Int) : Tn := moveT n (g1 t d) d 100
def r1 (n : Nat) (t : Tn) (d : Int) : Tn := drainT (m1 n t d) d 200
/-- How much is left behind some rounds. -/
structure AllQ (n j : Nat) (o i : Nat) : Prop where
  big : 100 ≤ n → o + i + 100 * j ≤ 2500 ∨ o + i = 0
  one : n < 100 → 1 ≤ j → o = 0
  two : n < 100 → 2 ≤ j → o + i = 0
theorem AllS.round {n : Nat} {d : Int} {t : Tn} {inn out : List UInt8} {c : Nat} (h : AllS n d t inn out c) (hd : sideB d = true) (hc : c ≤ 100000) {j : Nat} (hq : AllQ n j (t.way d).o.length (t.way d).i.length) :
    AllS n d (r1 n t d) inn (out ++ drainS (m1 n t d) d 200) c ∧ AllQ n (j + 1) ((r1 n t d).way d).o.length ((r1 n t d).way d).i.length := by
  have s1 := h.step hd ⟨1, d, 100, ⟨#[]⟩⟩ (show (1 : Int) ≠ 0 by decide) (show (1 : Int) ≠ 5 by decide) (B := 0) (Nat.le_refl _)
  have e1 : doT n t ⟨1, d, 100, ⟨#[]⟩⟩ = g1 t d := rfl
  have i1 : inX n t ⟨1, d, 100, ⟨#[]⟩⟩ d = [] := by unfold inX; rw [if_neg (fun h => absurd (show (1 : Int) = 2 from h.2.1) (by decide))]
  have o1 : outX t ⟨1, d, 100, ⟨#[]⟩⟩ d = [] := by unfold outX doS; rw [if_neg (show ¬ (1 : Int) = 4 by decide)]; split <;> rfl
  rw [e1, i1, o1, List.append_nil, List.append_nil, Nat.add_zero] at s1
  have s2 := s1.step hd ⟨3, d, 100, ⟨#[]⟩⟩ (show (3 : Int) ≠ 0 by decide) (show (3 : Int) ≠ 5 by decide) (B := 0) (Nat.le_refl _)
  have e2 : doT n (g1 t d) ⟨3, d, 100, ⟨#[]⟩⟩ = m1 n t d := rfl
  have i2 : inX n (g1 t d) ⟨3, d, 100, ⟨#[]⟩⟩ d = [] := by unfold inX; rw [if_neg (fun h => absurd (show (3 : Int) = 2 from h.2.1) (by decide))]
  have o2 : outX (g1 t d) ⟨3, d, 100, ⟨#[]⟩⟩ d = [] := by unfold outX doS; rw [if_neg (show ¬ (3 : Int) = 4 by decide)]; split <;> rfl
  rw [e2, i2, o2, List.append_nil, List.append_nil, Nat.add_zero] at s2
  have s3 := s2.step hd ⟨4, d, 200, ⟨#[]⟩⟩ (show (4 : Int) ≠ 0 by decide) (show (4 : Int) ≠ 5 by decide) (B := 0) (Nat.le_refl _)
  have e3 : doT n (m1 n t d) ⟨4, d, 200, ⟨#[]⟩⟩ = r1 n t d := rfl
  have i3 : inX n (m1 n t d) ⟨4, d, 200, ⟨#[]⟩⟩ d = [] := by unfold inX; rw [if_neg (fun h => absurd (show (4 : Int) = 2 from h.2.1) (by decide))]
  have o3 : outX (m1 n t d) ⟨4, d, 200, ⟨#[]⟩⟩ d = drainS (m1 n t d) d 200 := by
    have : doE (m1 n t d) ⟨4, d, 200, ⟨#[]⟩⟩ = 0 := by
      show drainE d = 0
      unfold drainE; rw [if_pos hd]
    unfold outX; rw [if_pos ⟨rfl, this⟩]; rfl
  rw [e3, i3, o3, List.append_nil, Nat.add_zero] at s3
  refine ⟨s3, ?_⟩
  -- lengths
  have wg : (g1 t d).way d = grantW (t.way d) 100 := by unfold g1 grantT; rw [if_pos hd, way_put_same]
  have mE : moveE (g1 t d) d 100 = 0 := by unfold moveE; rw [if_pos hd, if_pos (by rw [s1.st]; decide), if_neg (by decide)]
  have wm : (m1 n t d).way d = moveW n ((g1 t d).way d) 100 := by unfold m1 moveT; rw [if_pos mE, way_put_same]
  have wr : (r1 n t d).way d = drainW ((m1 n t d).way d) 200 := by unfold r1 drainT; rw [if_pos hd, way_put_same]
  have ok := h.w.ok
  have ms := h.w.ms
  have hmv : ((t.way d).mv : Int) ≤ c := by
    have := h.cn.sm (show c ≤ 1000000000 by omega) d
    have ha := h.cn.a.mv; have hb := h.cn.b.mv
    unfold Tn.way
    split <;> omega
  have cr : 100 ≤ ((g1 t d).way d).g - ((g1 t d).way d).s := by
    rw [wg]
    have h1 := ok.sg; have h2 := ok.gs
    unfold grantW grantE
    by_cases hg : 65536 < (100 : Int) ∨ 65536 < (t.way d).g + 100 - (t.way d).s ∨ 1000000000000 < (t.way d).g + 100
    · rw [if_neg (show ¬ (100 : Int) < 0 by decide), if_pos hg, if_neg (by decide)]
      rcases hg with hg | hg | hg
      · omega
      · omega
      · omega
    · rw [if_neg (show ¬ (100 : Int) < 0 by decide), if_neg hg, if_pos rfl]
      show 100 ≤ (t.way d).g + 100 - (t.way d).s
      omega
  have gi : ((g1 t d).way d).i = (t.way d).i ∧ ((g1 t d).way d).o = (t.way d).o := by rw [wg]; unfold grantW; split <;> exact ⟨rfl, rfl⟩
  have mk : moveN n ((g1 t d).way d) 100 = min 100 (min (t.way d).i.length (n - (t.way d).o.length)) := by
    unfold moveN
    rw [gi.1, gi.2]
    omega
  have lo : ((r1 n t d).way d).o.length = (t.way d).o.length + moveN n ((g1 t d).way d) 100 - 200 := by
    have hk := (move_le n ((g1 t d).way d) 100).1
    rw [gi.1] at hk
    rw [wr]
    show (((m1 n t d).way d).o.drop 200).length = _
    rw [List.length_drop, wm]
    show (((g1 t d).way d).o ++ ((g1 t d).way d).i.take (moveN n ((g1 t d).way d) 100)).length - 200 = _
    rw [gi.1, gi.2, List.length_append, List.length_take]
    omega
  have li : ((r1 n t d).way d).i.length = (t.way d).i.length - moveN n ((g1 t d).way d) 100 := by
    rw [wr]
    show ((m1 n t d).way d).i.length = _
    rw [wm]
    show (((g1 t d).way d).i.drop (moveN n ((g1 t d).way d) 100)).length = _
    rw [gi.1, List.length_drop]
  have il := ok.il
  have ol := ok.ol
  obtain ⟨b1, b2, b3⟩ := hq
  rw [lo, li, mk]
  refine ⟨fun hn => ?_, fun hn _ => ?_, fun hn hj => ?_⟩
  · rcases b1 hn with b | b
    · omega
    · right; omega
  · omega
  · have := b2 hn (by omega)
    omega
theorem all_start {n : Nat} {d : Int} {t : Tn} {inn out : List UInt8} {c : Nat} (h : AllS n d t inn out c) (hc : inn.length ≤ 2500) : AllQ n 0 (t.way d).o.length (t.way d).i.length := by
  have := h.len
  exact ⟨fun _ => .inl (by omega), fun _ h => absurd h (by omega), fun _ h => absurd h (by omega)⟩
theorem all_stop {n : Nat} {d : Int} {t : Tn} {inn out : List UInt8} {c : Nat} (h : AllS n d t inn out c) (hq : AllQ n 60 (t.way d).o.length (t.way d).i.length) : out = inn := by
  have hl := h.len
  refine h.eq ?_
  by_cases hn : 100 ≤ n
  · rcases hq.big hn with b | b <;> omega
  · have := hq.two (by omega) (by decide); omega
theorem inn_len {n : Nat} {d : Int} {t : Tn} {inn out : List UInt8} {c : Nat} (h : AllS n d t inn out c) : inn.length ≤ c := by
  have h1 := h.w.fd
  have ha := h.cn.a.fd; have hb := h.cn.b.fd
  unfold Tn.way at h1
  split at h1 <;> omega
end Go.Proofs.YtkokcfhfgnkdfaaGreatDoor.L17
