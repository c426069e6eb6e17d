/- Tw, F1W, Ua, Ub, Uc, C3I, C3J -/
import Derived.Test.YtkokcfhfgnkdfaaGreatDoorZ9
import Derived.Test.YtkokcfhfgnkdfaaGreatDoorZ1
import Derived.Test.YtkokcfhfgnkdfaaGreatDoorZ7
import Derived.Test.YtkokcfhfgnkdfaaGreatDoorZ2
set_option linter.unusedVariables false
set_option linter.unusedSimpArgs false
/- Plain facts: a direction that is emptied. -/
namespace Go.Proofs.YtkokcfhfgnkdfaaGreatDoor.L17
open L14 (isSt goes dest inB outB endB)

theorem st_keep (cap : Nat) (t : Tn) (x : OpV) (h0 : x.kind ≠ 0) (h5 : x.kind ≠ 5) : (doT cap t x).st = t.st := by
  unfold doT
  rw [if_neg h0]
  split
  · unfold grantT; split; exact st_put _ _ _; rfl
  split
  · unfold feedT; split; exact st_put _ _ _; rfl
  split
  · unfold moveT; split; exact st_put _ _ _; rfl
  split
  · unfold drainT; split; exact st_put _ _ _; rfl
  first | rfl | rw [if_neg h5]
/-- What holds of a direction that is not ended. -/
structure AllS (n : Nat) (d : Int) (t : Tn) (inn out : List UInt8) (c : Nat) : Prop where
  w : Way1 n (t.way d) inn out false
  st : t.st = 2
  cn : t.Cn c
theorem AllS.step {n : Nat} {d : Int} {t : Tn} {inn out : List UInt8} {c B : Nat} (h : AllS n d t inn out c) (hd : sideB d = true) (x : OpV) (h0 : x.kind ≠ 0) (h5 : x.kind ≠ 5) (hB : x.s.size ≤ B) :
    AllS n d (doT n t x) (inn ++ inX n t x d) (out ++ outX t x d) (c + B) := by
  have hs := st_keep n t x h0 h5
  have e1 : endB t.st = false := by rw [h.st]; decide
  have e2 : endB (doT n t x).st = false := by rw [hs]; exact e1
  have hw := h.w
  rw [← e1] at hw
  have := Way1.step (did n t x hd) hw (fun e => by rw [e1] at e; exact absurd e (by decide))
  rw [e2] at this
  exact ⟨this, hs.trans h.st, h.cn.step x hB⟩
theorem up_alls (n : Nat) (d : Int) : AllS n d upT [] [] 0 := ⟨by unfold Tn.way; split <;> exact up_way n _ rfl, rfl, up_cn⟩
theorem AllS.len {n : Nat} {d : Int} {t : Tn} {inn out : List UInt8} {c : Nat} (h : AllS n d t inn out c) : inn.length = out.length + (t.way d).o.length + (t.way d).i.length := by
  have := congrArg List.length (h.w.all rfl)
  simp only [List.length_append] at this
  omega
theorem AllS.eq {n : Nat} {d : Int} {t : Tn} {inn out : List UInt8} {c : Nat} (h : AllS n d t inn out c) (hl : ¬ out.length < inn.length) : out = inn := by
  have h1 := h.len
  have ho : (t.way d).o = [] := List.length_eq_zero_iff.1 (by omega)
  have hi : (t.way d).i = [] := List.length_eq_zero_iff.1 (by omega)
  have := h.w.all rfl
  rw [ho, hi, List.append_nil, List.append_nil] at this
  exact this
def g1 (t : Tn) (d : Int) : Tn := grantT t d 100
def m1 (n : Nat) (t : Tn) (d : Int) : Tn := moveT n (g1 t d) d 100
def r1 (n : Nat) (t : Tn) (d : Int) : Tn := drainT (m1 n t d) d 200
/-- How much is left behind some rounds. -/
structure AllQ (n j : Nat) (o i : Nat) : Prop where
  big : 100 ≤ n → o + i + 100 * j ≤ 2500 ∨ o + i = 0
  one : n < 100 → 1 ≤ j → o = 0
  two : n < 100 → 2 ≤ j → o + i = 0
theorem AllS.round {n : Nat} {d : Int} {t : Tn} {inn out : List UInt8} {c : Nat} (h : AllS n d t inn out c) (hd : sideB d = true) (hc : c ≤ 100000) {j : Nat} (hq : AllQ n j (t.way d).o.length (t.way d).i.length) :
    AllS n d (r1 n t d) inn (out ++ drainS (m1 n t d) d 200) c ∧ AllQ n (j + 1) ((r1 n t d).way d).o.length ((r1 n t d).way d).i.length := by
  have s1 := h.step hd ⟨1, d, 100, ⟨#[]⟩⟩ (show (1 : Int) ≠ 0 by decide) (show (1 : Int) ≠ 5 by decide) (B := 0) (Nat.le_refl _)
  have e1 : doT n t ⟨1, d, 100, ⟨#[]⟩⟩ = g1 t d := rfl
  have i1 : inX n t ⟨1, d, 100, ⟨#[]⟩⟩ d = [] := by unfold inX; rw [if_neg (fun h => absurd (show (1 : Int) = 2 from h.2.1) (by decide))]
  have o1 : outX t ⟨1, d, 100, ⟨#[]⟩⟩ d = [] := by unfold outX doS; rw [if_neg (show ¬ (1 : Int) = 4 by decide)]; split <;> rfl
  rw [e1, i1, o1, List.append_nil, List.append_nil, Nat.add_zero] at s1
  have s2 := s1.step hd ⟨3, d, 100, ⟨#[]⟩⟩ (show (3 : Int) ≠ 0 by decide) (show (3 : Int) ≠ 5 by decide) (B := 0) (Nat.le_refl _)
  have e2 : doT n (g1 t d) ⟨3, d, 100, ⟨#[]⟩⟩ = m1 n t d := rfl
  have i2 : inX n (g1 t d) ⟨3, d, 100, ⟨#[]⟩⟩ d = [] := by unfold inX; rw [if_neg (fun h => absurd (show (3 : Int) = 2 from h.2.1) (by decide))]
  have o2 : outX (g1 t d) ⟨3, d, 100, ⟨#[]⟩⟩ d = [] := by unfold outX doS; rw [if_neg (show ¬ (3 : Int) = 4 by decide)]; split <;> rfl
  rw [e2, i2, o2, List.append_nil, List.append_nil, Nat.add_zero] at s2
  have s3 := s2.step hd ⟨4, d, 200, ⟨#[]⟩⟩ (show (4 : Int) ≠ 0 by decide) (show (4 : Int) ≠ 5 by decide) (B := 0) (Nat.le_refl _)
  have e3 : doT n (m1 n t d) ⟨4, d, 200, ⟨#[]⟩⟩ = r1 n t d := rfl
  have i3 : inX n (m1 n t d) ⟨4, d, 200, ⟨#[]⟩⟩ d = [] := by unfold inX; rw [if_neg (fun h => absurd (show (4 : Int) = 2 from h.2.1) (by decide))]
  have o3 : outX (m1 n t d) ⟨4, d, 200, ⟨#[]⟩⟩ d = drainS (m1 n t d) d 200 := by
    have : doE (m1 n t d) ⟨4, d, 200, ⟨#[]⟩⟩ = 0 := by
      show drainE d = 0
      unfold drainE; rw [if_pos hd]
    unfold outX; rw [if_pos ⟨rfl, this⟩]; rfl
  rw [e3, i3, o3, List.append_nil, Nat.add_zero] at s3
  refine ⟨s3, ?_⟩
  -- lengths
  have wg : (g1 t d).way d = grantW (t.way d) 100 := by unfold g1 grantT; rw [if_pos hd, way_put_same]
  have mE : moveE (g1 t d) d 100 = 0 := by unfold moveE; rw [if_pos hd, if_pos (by rw [s1.st]; decide), if_neg (by decide)]
  have wm : (m1 n t d).way d = moveW n ((g1 t d).way d) 100 := by unfold m1 moveT; rw [if_pos mE, way_put_same]
  have wr : (r1 n t d).way d = drainW ((m1 n t d).way d) 200 := by unfold r1 drainT; rw [if_pos hd, way_put_same]
  have ok := h.w.ok
  have ms := h.w.ms
  have hmv : ((t.way d).mv : Int) ≤ c := by
    have := h.cn.sm (show c ≤ 1000000000 by omega) d
    have ha := h.cn.a.mv; have hb := h.cn.b.mv
    unfold Tn.way
    split <;> omega
  have cr : 100 ≤ ((g1 t d).way d).g - ((g1 t d).way d).s := by
    rw [wg]
    have h1 := ok.sg; have h2 := ok.gs
    unfold grantW grantE
    by_cases hg : 65536 < (100 : Int) ∨ 65536 < (t.way d).g + 100 - (t.way d).s ∨ 1000000000000 < (t.way d).g + 100
    · rw [if_neg (show ¬ (100 : Int) < 0 by decide), if_pos hg, if_neg (by decide)]
      rcases hg with hg | hg | hg
      · omega
      · omega
      · omega
    · rw [if_neg (show ¬ (100 : Int) < 0 by decide), if_neg hg, if_pos rfl]
      show 100 ≤ (t.way d).g + 100 - (t.way d).s
      omega
  have gi : ((g1 t d).way d).i = (t.way d).i ∧ ((g1 t d).way d).o = (t.way d).o := by rw [wg]; unfold grantW; split <;> exact ⟨rfl, rfl⟩
  have mk : moveN n ((g1 t d).way d) 100 = min 100 (min (t.way d).i.length (n - (t.way d).o.length)) := by
    unfold moveN
    rw [gi.1, gi.2]
    omega
  have lo : ((r1 n t d).way d).o.length = (t.way d).o.length + moveN n ((g1 t d).way d) 100 - 200 := by
    have hk := (move_le n ((g1 t d).way d) 100).1
    rw [gi.1] at hk
    rw [wr]
    show (((m1 n t d).way d).o.drop 200).length = _
    rw [List.length_drop, wm]
    show (((g1 t d).way d).o ++ ((g1 t d).way d).i.take (moveN n ((g1 t d).way d) 100)).length - 200 = _
    rw [gi.1, gi.2, List.length_append, List.length_take]
    omega
  have li : ((r1 n t d).way d).i.length = (t.way d).i.length - moveN n ((g1 t d).way d) 100 := by
    rw [wr]
    show ((m1 n t d).way d).i.length = _
    rw [wm]
    show (((g1 t d).way d).i.drop (moveN n ((g1 t d).way d) 100)).length = _
    rw [gi.1, List.length_drop]
  have il := ok.il
  have ol := ok.ol
  obtain ⟨b1, b2, b3⟩ := hq
  rw [lo, li, mk]
  refine ⟨fun hn => ?_, fun hn _ => ?_, fun hn hj => ?_⟩
  · rcases b1 hn with b | b
    · omega
    · right; omega
  · omega
  · have := b2 hn (by omega)
    omega
theorem all_start {n : Nat} {d : Int} {t : Tn} {inn out : List UInt8} {c : Nat} (h : AllS n d t inn out c) (hc : inn.length ≤ 2500) : AllQ n 0 (t.way d).o.length (t.way d).i.length := by
  have := h.len
  exact ⟨fun _ => .inl (by omega), fun _ h => absurd h (by omega), fun _ h => absurd h (by omega)⟩
theorem all_stop {n : Nat} {d : Int} {t : Tn} {inn out : List UInt8} {c : Nat} (h : AllS n d t inn out c) (hq : AllQ n 60 (t.way d).o.length (t.way d).i.length) : out = inn := by
  have hl := h.len
  refine h.eq ?_
  by_cases hn : 100 ≤ n
  · rcases hq.big hn with b | b <;> omega
  · have := hq.two (by omega) (by decide); omega
theorem inn_len {n : Nat} {d : Int} {t : Tn} {inn out : List UInt8} {c : Nat} (h : AllS n d t inn out c) : inn.length ≤ c := by
  have h1 := h.w.fd
  have ha := h.cn.a.fd; have hb := h.cn.b.fd
  unfold Tn.way at h1
  split at h1 <;> omega
end Go.Proofs.YtkokcfhfgnkdfaaGreatDoor.L17

/- The document's own queue; want. -/
namespace Go.Proofs.YtkokcfhfgnkdfaaGreatDoor.L1
open Go.RowKit

theorem ext_list (t : ByteArray) (i j : Nat) : (t.extract i j).data.toList = (t.data.toList.take j).drop i := by
  simp [ByteArray.data_extract, Array.toList_extract, List.extract, List.take_drop]
  by_cases h : i ≤ j
  · rw [Nat.add_sub_cancel' h]
  · rw [List.drop_of_length_le (by simp; omega), List.drop_of_length_le (by simp; omega)]
theorem str_append (a b : List UInt8) : str a ++ str b = str (a ++ b) := by
  apply ByteArray.ext
  simp [str, ByteArray.data_append]
/-- The document's queue in block G. -/
structure IsR (w : World) (G cap : Nat) (l : List UInt8) : Prop where
  c0 : w.cell? ⟨G, 0, none⟩ = some (.int .i64 cap)
  c1 : w.cell? ⟨G, 1, none⟩ = some (.string (str l))
  f1 : w.frozen? ⟨G, 1, none⟩ = false
  le : l.length ≤ cap
  cap_le : cap ≤ 4096
theorem IsR.same {w w' : World} {G cap : Nat} {l : List UInt8} (h : IsR w G cap l) (hG : w'.heap[G]? = w.heap[G]?) : IsR w' G cap l :=
  ⟨(World.cell?_of_block (w := w) hG).trans h.c0, (World.cell?_of_block (w := w) hG).trans h.c1, (World.frozen?_of_block (w := w) hG).trans h.f1, h.le, h.cap_le⟩
theorem IsR.lt {w : World} {G cap : Nat} {l : List UInt8} (h : IsR w G cap l) : G < w.heap.size := blt h.c0
theorem IsR.off {w w' : World} {F K G cap : Nat} {l : List UInt8} (h : IsR w G cap l) (ho : Off F K w w') (h1 : G ≠ F) (h2 : G ≠ K) : IsR w' G cap l := h.same (ho.block G h.lt h1 h2)
theorem IsR.below {w w' : World} {n G cap : Nat} {l : List UInt8} (h : IsR w G cap l) (hb : Below n w w') (hG : G < n) : IsR w' G cap l := h.same (hb.block G hG)
theorem IsR.drewN {w : World} {G cap : Nat} {l : List UInt8} (h : IsR w G cap l) (n : Nat) : IsR (w.drewN n) G cap l := IsR.same (w := w) (w' := w.drewN n) h rfl
theorem IsR.set {w : World} {G cap : Nat} {l l2 : List UInt8} (h : IsR w G cap l) (h2 : l2.length ≤ cap) : IsR (w.setCell ⟨G, 1, none⟩ (.string (str l2))) G cap l2 :=
  ⟨(World.cell?_setCell_other _ _ _ _ (by intro x; cases x)).trans h.c0, World.cell?_setCell_same' _ _ _ (by rw [h.c1]; rfl), (World.frozen?_setCell ..).trans h.f1, h2, h.cap_le⟩

theorem ext_string2 (s : ByteArray) (p : Nat) : s.extract 0 p = str (s.data.toList.take p) := by
  have := ext_list s 0 p
  rw [List.drop_zero] at this
  rw [← this]; rfl
theorem ext_head (l : List UInt8) (p : Nat) : (str l).extract 0 p = str (l.take p) := by
  have := ext_list (str l) 0 p
  rw [List.drop_zero] at this
  have e : (str l).data.toList = l := rfl
  rw [e] at this
  rw [← this]; rfl
theorem ext_tail (l : List UInt8) (p : Nat) : (str l).extract p (str l).size = str (l.drop p) := by
  have := ext_list (str l) p (str l).size
  have e : (str l).data.toList = l := rfl
  rw [e, str_size, List.take_length] at this
  rw [← this]; rfl

set_option maxRecDepth 100000 in
set_option maxHeartbeats 1000000 in
theorem rnew_ok (n : Nat) (h : 1 ≤ n) (h2 : n ≤ 4096) (w : World) :
    Calls Tryz.prog 27 #[.int .i64 n] w fun e w' => e = .returned (.tuple #[.pointer (some ⟨w.heap.size, 0, none⟩), .int .i64 0]) ∧ IsR w' w.heap.size n [] ∧ Below w.heap.size w w' := by
  have i1 : ¬ (n : Int) < 1 := by omega
  have i2 : (n : Int) ≤ 4096 := by omega
  go_enter Tryz.func27, Tryz.ntmps27
  go_wp2
  go_ret2
  refine ⟨rfl, ⟨by go_simp, by go_simp; rfl, by go_simp, by simp, h2⟩, (Below.refl _ w).alloc (Nat.le_refl _) _⟩
set_option maxHeartbeats 1000000 in
theorem rnew_err (n : Int) (h : n < 1 ∨ 4096 < n) (w : World) :
    Calls Tryz.prog 27 #[.int .i64 n] w fun e w' => e = .returned (.tuple #[.pointer none, .int .i64 2]) ∧ w = w' := by
  go_enter Tryz.func27, Tryz.ntmps27
  rcases h with h | h
  · go_wp2
    go_ret2
    exact ⟨rfl, rfl⟩
  · have h' : ¬ n < 1 := by omega
    go_wp2
    go_ret2
    exact ⟨rfl, rfl⟩

set_option maxRecDepth 100000 in
set_option maxHeartbeats 1000000 in
theorem rclear_any (G cap : Nat) (l : List UInt8) (w : World) (h : IsR w G cap l) :
    Calls Tryz.prog 91 #[.pointer (some ⟨G, 0, none⟩)] w fun e w' => e = .returned (.int .i64 l.length) ∧ IsR w' G cap [] ∧ Off G G w w' := by
  have c1 := h.c1
  have f1 := h.f1
  have hz := str_size l
  have H := Lib.hid h
  clear h
  go_enter Tryz.func91, Tryz.ntmps91
  go_wp2
  go_ret
  exact ⟨rfl, H.out.set (by simp), (Off.refl _ _ _).setF _ _⟩

set_option maxRecDepth 100000 in
set_option maxHeartbeats 1000000 in
theorem rpeek_any (G cap : Nat) (l : List UInt8) (n : Int) (w : World) (h : IsR w G cap l) :
    Calls Tryz.prog 93 #[.pointer (some ⟨G, 0, none⟩), .int .i64 n] w fun e w' => e = .returned (.string (str (l.take n.toNat))) ∧ ∃ q, w' = w.drewN q := by
  have c1 := h.c1
  have hz := str_size l
  have hx := ext_head l
  have H := Lib.hid h
  have HX := Lib.hid hx
  clear h hx
  by_cases n0 : n < 0
  · have t0 : n.toNat = 0 := by omega
    rw [t0]
    clear t0
    go_enter Tryz.func93, Tryz.ntmps93
    go_wp2_with fail
    go_quiet (fail)
    go_wp2
    go_ret
    exact ⟨rfl, _, rfl⟩
  · obtain ⟨m, rfl⟩ : ∃ m : Nat, n = m := ⟨n.toNat, by omega⟩
    have j0 : (0 : Int) ≤ (m : Int) := by omega
    rw [Int.toNat_natCast]
    by_cases n1 : m ≤ l.length
    · have j1 : (m : Int) ≤ (l.length : Int) := by omega
      have j2 : (if (l.length : Int) < (m : Int) then (l.length : Int) else (m : Int)) = (m : Int) := if_neg (by omega)
      have j3 : (if (m : Int) < 0 then (0 : Int) else (m : Int)) = (m : Int) := if_neg (by omega)
      go_enter Tryz.func93, Tryz.ntmps93
      go_wp2_with fail
      go_quiet (fail)
      go_wp2
      go_ret
      exact ⟨by rw [← HX.out]; rfl, _, rfl⟩
    · have j1 : (l.length : Int) < (m : Int) := by omega
      rw [List.take_of_length_le (by omega)]
      have hall := Lib.hid (show (str l).extract 0 l.length = str l by rw [HX.out, List.take_length])
      go_enter Tryz.func93, Tryz.ntmps93
      go_wp2_with fail
      go_quiet (fail)
      go_wp2
      go_ret
      exact ⟨congrArg (fun s => Ending.returned (Value.string s)) hall.out, _, rfl⟩

set_option maxRecDepth 100000 in
set_option maxHeartbeats 1000000 in
theorem rpop_any (G cap : Nat) (l : List UInt8) (n : Int) (w : World) (h : IsR w G cap l) :
    Calls Tryz.prog 69 #[.pointer (some ⟨G, 0, none⟩), .int .i64 n] w fun e w' => e = .returned (.string (str (l.take n.toNat))) ∧ IsR w' G cap (l.drop n.toNat) ∧ Off G G w w' := by
  have hP := rpeek_any G cap l n w h
  have c1 := h.c1
  have f1 := h.f1
  have hle := h.le
  have hz := str_size (l.take n.toNat)
  have hzl := str_size l
  have ht1 : (l.take n.toNat).length ≤ l.length := by rw [List.length_take]; omega
  have hdr : (str l).extract (l.take n.toNat).length l.length = str (l.drop n.toNat) := by
    have := ext_tail l (l.take n.toNat).length
    rw [str_size] at this
    rw [this, List.length_take]
    rcases Nat.le_total n.toNat l.length with h | h
    · rw [Nat.min_eq_left h]
    · rw [Nat.min_eq_right h, List.drop_length, List.drop_of_length_le h]
  have hdl : (l.drop n.toNat).length ≤ cap := by rw [List.length_drop]; omega
  generalize l.drop n.toNat = d at *
  generalize l.take n.toNat = t at *
  have HP := Lib.hid hP
  have H := Lib.hid h
  clear h hP
  go_enter Tryz.func69, Tryz.ntmps69
  go_wp2_with (first | (go_at_call 93; refine HP.out.mono ?_; rintro e w1 ⟨rfl, q, rfl⟩))
  go_ret
  exact ⟨rfl, (H.out.drewN q).set hdl, ((Off.refl _ _ _).drewN q).setF _ _⟩

set_option maxRecDepth 100000 in
set_option maxHeartbeats 1000000 in
theorem rpush_any (G cap : Nat) (l : List UInt8) (s : ByteArray) (w : World) (h : IsR w G cap l) :
    Calls Tryz.prog 67 #[.pointer (some ⟨G, 0, none⟩), .string s] w fun e w' => e = .returned (.int .i64 (fits cap l.length s.size : Nat)) ∧ IsR w' G cap (l ++ s.data.toList.take (cap - l.length)) ∧ Off G G w w' := by
  have c0 := h.c0
  have c1 := h.c1
  have f1 := h.f1
  have hle := h.le
  have hcl := h.cap_le
  have hzl := str_size l
  have hsz : s.data.toList.length = s.size := rfl
  have hp2 : s.data.toList.take (cap - l.length) = s.data.toList.take (fits cap l.length s.size) := by
    unfold fits
    rcases Nat.le_total s.size (cap - l.length) with h | h
    · rw [Nat.min_eq_left h, List.take_of_length_le (by rw [hsz]; exact h), List.take_of_length_le (by rw [hsz]; exact Nat.le_refl _)]
    · rw [Nat.min_eq_right h]
  have hpl : fits cap l.length s.size ≤ s.size ∧ fits cap l.length s.size + l.length ≤ cap := by unfold fits; omega
  have hpm : (fits cap l.length s.size : Int) = if ((cap : Int) - (l.length : Int)) < (s.size : Int) then (cap : Int) - (l.length : Int) else (s.size : Int) := by
    unfold fits
    split <;> omega
  have hl2 : (l ++ s.data.toList.take (cap - l.length)).length ≤ cap := by simp; omega
  generalize fits cap l.length s.size = p at *
  have hsub : IntKind.i64.wrap ((cap : Int) - (l.length : Int)) = (cap : Int) - (l.length : Int) := IntWalk.i64_in _ (by omega)
  have hex := ext_string2 s p
  rw [← hp2] at hex
  generalize hgt : s.data.toList.take (cap - l.length) = t at *
  have happ := str_append l t
  have htl : (str t).size = t.length := str_size t
  have hb1 : l.length + t.length ≤ 9223372036854775807 := by rw [List.length_append] at hl2; omega
  have hadd := fun W => run_string_add_sum (P := Tryz.prog) W (str l) (str t) (by rw [hzl, htl]; exact hb1)
  have hpi : (p : Int) ≤ (s.size : Int) := by omega
  have hj : (if (cap : Int) - (l.length : Int) < (s.size : Int) then (cap : Int) - (l.length : Int) else (s.size : Int)) = (p : Int) := hpm.symm
  have H := Lib.hid h
  have HX := Lib.hid happ
  clear hgt hp2 hpm h happ
  go_enter Tryz.func67, Tryz.ntmps67
  go_wp2_with fail
  go_quiet (fail)
  go_wp2_with fail
  generalize hV : w.drewN nq = V
  have v1 : V.cell? ⟨G, 1, none⟩ = some (.string (str l)) := by rw [← hV]; exact c1
  have vf : V.frozen? ⟨G, 1, none⟩ = false := by rw [← hV]; exact f1
  have hR := Lib.hid (show IsR V G cap l by rw [← hV]; exact H.out.drewN nq)
  have hO := Lib.hid (show Off G G w V by rw [← hV]; exact (Off.refl _ _ _).drewN nq)
  clear hV c0 c1 f1
  go_still_tail 11, (by kernel_rfl)
  change wpList _ _ _ _ _ V.drew
  go_wp2
  go_ret
  rw [HX.out]
  exact ⟨rfl, (IsR.same (w := V) (w' := V.drew) hR.out rfl).set hl2, (hO.out.drew).setF _ _⟩
end Go.Proofs.YtkokcfhfgnkdfaaGreatDoor.L1

/- The document's tunnel in memory. -/
namespace Go.Proofs.YtkokcfhfgnkdfaaGreatDoor.L17
open Go.RowKit Go.Shelf
open L1 (str IsR Off)
open L14 (isSt goes dest inB outB endB Laid)
attribute [local go_sem] Oper.semAt_some

theorem isr_goes {A B : World} {Pv : Nat → Prop} {G cap : Nat} {l : List UInt8} (h : IsR A G cap l) (hg : Goes Pv A B) (hp : ¬ Pv G) : IsR B G cap l := h.same (hg.same G h.lt hp)
/-- The document's way: its struct in block Y, its queues in I and O. -/
structure RWayQ (w : World) (lo hi Y I O cap : Nat) (y : Wy) : Prop where
  c0 : w.cell? ⟨Y, 0, none⟩ = some (.pointer (some ⟨I, 0, none⟩))
  c1 : w.cell? ⟨Y, 1, none⟩ = some (.pointer (some ⟨O, 0, none⟩))
  c2 : w.cell? ⟨Y, 2, none⟩ = some (.int .i64 y.g)
  f2 : w.frozen? ⟨Y, 2, none⟩ = false
  c3 : w.cell? ⟨Y, 3, none⟩ = some (.int .i64 y.s)
  f3 : w.frozen? ⟨Y, 3, none⟩ = false
  c4 : w.cell? ⟨Y, 4, none⟩ = some (.int .i64 (y.fd : Nat))
  f4 : w.frozen? ⟨Y, 4, none⟩ = false
  c5 : w.cell? ⟨Y, 5, none⟩ = some (.int .i64 (y.mv : Nat))
  f5 : w.frozen? ⟨Y, 5, none⟩ = false
  c6 : w.cell? ⟨Y, 6, none⟩ = some (.int .i64 (y.dr : Nat))
  f6 : w.frozen? ⟨Y, 6, none⟩ = false
  i : IsR w I cap y.i
  o : IsR w O cap y.o
  l1 : lo ≤ I
  l2 : I < O
  l3 : O < Y
  l4 : Y < hi
  ok : y.Ok cap
def RWay (w : World) (lo hi Y cap : Nat) (y : Wy) : Prop := ∃ I O, RWayQ w lo hi Y I O cap y
theorem RWay.ok {w : World} {lo hi Y cap : Nat} {y : Wy} (h : RWay w lo hi Y cap y) : y.Ok cap := by obtain ⟨_, _, q⟩ := h; exact q.ok
theorem RWay.goes {A B : World} {Pv : Nat → Prop} {lo hi Y cap : Nat} {y : Wy} (h : RWay A lo hi Y cap y) (hg : Goes Pv A B) (hp : ∀ i, Rin lo hi i → ¬ Pv i) : RWay B lo hi Y cap y := by
  obtain ⟨I, O, q⟩ := h
  have q1 := q.l1; have q2 := q.l2; have q3 := q.l3; have q4 := q.l4
  have hY : ¬ Pv Y := hp Y ⟨by omega, q4⟩
  have hI : ¬ Pv I := hp I ⟨q1, by omega⟩
  have hO : ¬ Pv O := hp O ⟨by omega, by omega⟩
  exact ⟨I, O, hg.cell q.c0 hY, hg.cell q.c1 hY, hg.cell q.c2 hY, (hg.frozen q.c2 hY).trans q.f2, hg.cell q.c3 hY, (hg.frozen q.c3 hY).trans q.f3, hg.cell q.c4 hY, (hg.frozen q.c4 hY).trans q.f4, hg.cell q.c5 hY, (hg.frozen q.c5 hY).trans q.f5, hg.cell q.c6 hY, (hg.frozen q.c6 hY).trans q.f6, isr_goes q.i hg hI, isr_goes q.o hg hO, q1, q2, q3, q4, q.ok⟩
/-- The document's tunnel: its struct in block T, its ways' in X0 and X1; all its blocks lie in the stretch from T to hi. -/
structure RefQ (w : World) (T X0 X1 m hi cap : Nat) (t : Tn) : Prop where
  c0 : w.cell? ⟨T, 0, none⟩ = some (.int .i64 t.st)
  c1 : w.cell? ⟨T, 1, none⟩ = some (.pointer (some ⟨X0, 0, none⟩))
  c2 : w.cell? ⟨T, 2, none⟩ = some (.pointer (some ⟨X1, 0, none⟩))
  f0 : w.frozen? ⟨T, 0, none⟩ = false
  a : RWay w (T + 1) m X0 cap t.a
  b : RWay w m hi X1 cap t.b
  lm : T + 1 ≤ m
  lh : m ≤ hi
  lz : hi ≤ w.heap.size
  st : isSt t.st = true
  lc : cap ≤ 4096
def RefAt (w : World) (T hi cap : Nat) (t : Tn) : Prop := ∃ X0 X1 m, RefQ w T X0 X1 m hi cap t
theorem RefQ.lt {w : World} {T X0 X1 m hi cap : Nat} {t : Tn} (h : RefQ w T X0 X1 m hi cap t) : T < w.heap.size := blt h.c0
theorem RefQ.ok {w : World} {T X0 X1 m hi cap : Nat} {t : Tn} (h : RefQ w T X0 X1 m hi cap t) : t.Ok cap := ⟨h.st, h.a.ok, h.b.ok⟩
theorem RefAt.ok {w : World} {T hi cap : Nat} {t : Tn} (h : RefAt w T hi cap t) : t.Ok cap := by obtain ⟨_, _, _, q⟩ := h; exact q.ok
theorem RefQ.goes {A B : World} {Pv : Nat → Prop} {T X0 X1 m hi cap : Nat} {t : Tn} (h : RefQ A T X0 X1 m hi cap t) (hg : Goes Pv A B) (hp : ∀ i, Rin T hi i → ¬ Pv i) : RefQ B T X0 X1 m hi cap t := by
  have hT : ¬ Pv T := hp T ⟨Nat.le_refl _, by have := h.lm; have := h.lh; omega⟩
  exact ⟨hg.cell h.c0 hT, hg.cell h.c1 hT, hg.cell h.c2 hT, (hg.frozen h.c0 hT).trans h.f0, h.a.goes hg (fun i hi => hp i ⟨by have := hi.1; omega, by have := hi.2; have := h.lh; omega⟩), h.b.goes hg (fun i hi => hp i ⟨by have := hi.1; have := h.lm; omega, hi.2⟩), h.lm, h.lh, Nat.le_trans h.lz hg.size, h.st, h.lc⟩
theorem RefAt.goes {A B : World} {Pv : Nat → Prop} {T hi cap : Nat} {t : Tn} (h : RefAt A T hi cap t) (hg : Goes Pv A B) (hp : ∀ i, Rin T hi i → ¬ Pv i) : RefAt B T hi cap t := by
  obtain ⟨X0, X1, m, q⟩ := h; exact ⟨X0, X1, m, q.goes hg hp⟩
theorem RefQ.below {A B : World} {T X0 X1 m hi cap : Nat} {t : Tn} (h : RefQ A T X0 X1 m hi cap t) (hb : Below A.heap.size A B) : RefQ B T X0 X1 m hi cap t := h.goes (Goes.of_below (Pv := fun _ => False) hb) (fun _ _ k => k)
theorem RefAt.below {A B : World} {T hi cap : Nat} {t : Tn} (h : RefAt A T hi cap t) (hb : Below A.heap.size A B) : RefAt B T hi cap t := by
  obtain ⟨X0, X1, m, q⟩ := h; exact ⟨X0, X1, m, q.below hb⟩
theorem RefQ.way {w : World} {T X0 X1 m hi cap : Nat} {t : Tn} (h : RefQ w T X0 X1 m hi cap t) (k : Nat) (hk : k < 2) : RWay w (pick (T + 1) m k) (pick m hi k) (pick X0 X1 k) cap (t.way (k : Int)) := by
  match k, hk with
  | 0, _ => exact h.a
  | 1, _ => exact h.b
theorem RefQ.put {A B : World} {T X0 X1 m hi cap : Nat} {t : Tn} {y : Wy} {S : Nat → Prop} (h : RefQ A T X0 X1 m hi cap t) (k : Nat) (hk : k < 2) (hw : RWay B (pick (T + 1) m k) (pick m hi k) (pick X0 X1 k) cap y)
    (hg : Goes (fun i => Rin (pick (T + 1) m k) (pick m hi k) i ∨ S i) A B) (hS : ∀ i, S i → ¬ Rin T hi i) : RefQ B T X0 X1 m hi cap (t.put (k : Int) y) := by
  have hT : ¬ (Rin (pick (T + 1) m k) (pick m hi k) T ∨ S T) := fun e => by
    rcases e with e | e
    · have := (pick_in h.lm h.lh hk e).1; omega
    · exact hS T e ⟨Nat.le_refl _, by have := h.lm; have := h.lh; omega⟩
  have c0 := hg.cell h.c0 hT
  have c1 := hg.cell h.c1 hT
  have c2 := hg.cell h.c2 hT
  have f0 := (hg.frozen h.c0 hT).trans h.f0
  match k, hk, hw, hg, hT with
  | 0, _, hw, hg, _ =>
    exact ⟨c0, c1, c2, f0, hw, h.b.goes hg (fun i hi e => by
      rcases e with e | e
      · have h1 : i < m := e.2; have h2 : m ≤ i := hi.1; omega
      · exact hS i e ⟨by have := h.lm; have := hi.1; omega, hi.2⟩), h.lm, h.lh, Nat.le_trans h.lz hg.size, h.st, h.lc⟩
  | 1, _, hw, hg, _ =>
    exact ⟨c0, c1, c2, f0, h.a.goes hg (fun i hi e => by
      rcases e with e | e
      · have h1 : m ≤ i := e.1; have h2 : i < m := hi.2; omega
      · exact hS i e ⟨by have := hi.1; omega, by have := hi.2; have := h.lh; omega⟩), hw, h.lm, h.lh, Nat.le_trans h.lz hg.size, h.st, h.lc⟩
end Go.Proofs.YtkokcfhfgnkdfaaGreatDoor.L17

/- The document's tunnel: side, Counts, clear. -/
namespace Go.Proofs.YtkokcfhfgnkdfaaGreatDoor.L17
open Go.RowKit Go.Shelf
open L1 (str IsR Off)
open L14 (isSt goes dest inB outB endB Laid)
attribute [local go_sem] Oper.semAt_some
set_option maxRecDepth 100000 in
set_option maxHeartbeats 4000000 in
theorem rside_c (n : Int) (w : World) : Calls Tryz.prog 63 #[.int .i64 n] w fun x w' => x = .returned (.bool (sideB n)) ∧ w = w' := by
  by_cases h0 : n = 0
  · subst h0
    rw [show sideB 0 = true from rfl]
    go_enter Tryz.func63, Tryz.ntmps63
    go_wp2
    go_ret
    exact ⟨rfl, rfl⟩
  by_cases h1 : n = 1
  · subst h1
    rw [show sideB 1 = true from rfl]
    go_enter Tryz.func63, Tryz.ntmps63
    go_wp2
    go_ret
    exact ⟨rfl, rfl⟩
  rw [side_no h0 h1]
  have e0 : (n == 0) = false := by simpa using h0
  have e1 : (n == 1) = false := by simpa using h1
  go_enter Tryz.func63, Tryz.ntmps63
  go_wp2
  go_ret
  exact ⟨rfl, rfl⟩
set_option maxRecDepth 100000 in
set_option maxHeartbeats 4000000 in
theorem rcounts_0 (R hi cap : Nat) (t : Tn) (w : World) (h : RefAt w R hi cap t) :
    Calls Tryz.prog 38 #[.pointer (some ⟨R, 0, none⟩), .int .i64 0] w fun x w' => x = .returned (.tuple #[.int .i64 (cntF t 0 : Nat), .int .i64 (cntM t 0 : Nat), .int .i64 (cntD t 0 : Nat)]) ∧ Below w.heap.size w w' := by
  rw [show cntF t 0 = t.a.fd from rfl, show cntM t 0 = t.a.mv from rfl, show cntD t 0 = t.a.dr from rfl]
  obtain ⟨Y0, Y1, m, q⟩ := h
  have r1 := q.c1
  obtain ⟨I, O, y⟩ := q.a
  have y4 := y.c4
  have y5 := y.c5
  have y6 := y.c6
  generalize t.a = v at *
  clear q y
  have HS := Lib.hid (fun W => show Calls Tryz.prog 63 #[.int .i64 0] W fun x w' => x = .returned (.bool true) ∧ W = w' from rside_c 0 W)
  go_enter Tryz.func38, Tryz.ntmps38
  go_wp2_with (go_at_call 63; refine (HS.out _).mono ?_; rintro e w1 ⟨rfl, rfl⟩)
  go_quiet (fail)
  go_wp2_with fail
  go_ret3
  exact ⟨rfl, by first | exact below_drewN (Below.refl _ _) _ | exact Below.refl _ _ | exact below_drew (Below.refl _ _)⟩
set_option maxRecDepth 100000 in
set_option maxHeartbeats 4000000 in
theorem rcounts_1 (R hi cap : Nat) (t : Tn) (w : World) (h : RefAt w R hi cap t) :
    Calls Tryz.prog 38 #[.pointer (some ⟨R, 0, none⟩), .int .i64 1] w fun x w' => x = .returned (.tuple #[.int .i64 (cntF t 1 : Nat), .int .i64 (cntM t 1 : Nat), .int .i64 (cntD t 1 : Nat)]) ∧ Below w.heap.size w w' := by
  rw [show cntF t 1 = t.b.fd from rfl, show cntM t 1 = t.b.mv from rfl, show cntD t 1 = t.b.dr from rfl]
  obtain ⟨Y0, Y1, m, q⟩ := h
  have r2 := q.c2
  obtain ⟨I, O, y⟩ := q.b
  have y4 := y.c4
  have y5 := y.c5
  have y6 := y.c6
  generalize t.b = v at *
  clear q y
  have HS := Lib.hid (fun W => show Calls Tryz.prog 63 #[.int .i64 1] W fun x w' => x = .returned (.bool true) ∧ W = w' from rside_c 1 W)
  go_enter Tryz.func38, Tryz.ntmps38
  go_wp2_with (go_at_call 63; refine (HS.out _).mono ?_; rintro e w1 ⟨rfl, rfl⟩)
  go_quiet (fail)
  go_wp2_with fail
  go_ret3
  exact ⟨rfl, by first | exact below_drewN (Below.refl _ _) _ | exact Below.refl _ _ | exact below_drew (Below.refl _ _)⟩
end Go.Proofs.YtkokcfhfgnkdfaaGreatDoor.L17

/- The document's tunnel: clear; what a change does. -/
namespace Go.Proofs.YtkokcfhfgnkdfaaGreatDoor.L17
open Go.RowKit Go.Shelf
open L1 (str IsR Off)
open L14 (isSt goes dest inB outB endB Laid)
attribute [local go_sem] Oper.semAt_some

theorem goes_one {A B : World} {G : Nat} (h : Off G G A B) : Goes (fun i => i = G) A B := ⟨h.os, h.tape, h.output, h.size, fun i hi hn => h.block i hi hn hn⟩
theorem RWayQ.setI {A B : World} {lo hi Y I O cap : Nat} {y : Wy} {l : List UInt8} (q : RWayQ A lo hi Y I O cap y) (hI : IsR B I cap l) (hg : Goes (fun i => i = I) A B) (hk : ({ y with i := l } : Wy).Ok cap) : RWayQ B lo hi Y I O cap { y with i := l } := by
  have q1 := q.l1; have q2 := q.l2; have q3 := q.l3; have q4 := q.l4
  have hY : ¬ Y = I := by omega
  have hO : ¬ O = I := by omega
  exact ⟨hg.cell q.c0 hY, hg.cell q.c1 hY, hg.cell q.c2 hY, (hg.frozen q.c2 hY).trans q.f2, hg.cell q.c3 hY, (hg.frozen q.c3 hY).trans q.f3, hg.cell q.c4 hY, (hg.frozen q.c4 hY).trans q.f4, hg.cell q.c5 hY, (hg.frozen q.c5 hY).trans q.f5, hg.cell q.c6 hY, (hg.frozen q.c6 hY).trans q.f6, hI, isr_goes q.o hg hO, q1, q2, q3, q4, hk⟩
theorem RWayQ.setO {A B : World} {lo hi Y I O cap : Nat} {y : Wy} {l : List UInt8} (q : RWayQ A lo hi Y I O cap y) (hI : IsR B O cap l) (hg : Goes (fun i => i = O) A B) (hk : ({ y with o := l } : Wy).Ok cap) : RWayQ B lo hi Y I O cap { y with o := l } := by
  have q1 := q.l1; have q2 := q.l2; have q3 := q.l3; have q4 := q.l4
  have hY : ¬ Y = O := by omega
  have hO : ¬ I = O := by omega
  exact ⟨hg.cell q.c0 hY, hg.cell q.c1 hY, hg.cell q.c2 hY, (hg.frozen q.c2 hY).trans q.f2, hg.cell q.c3 hY, (hg.frozen q.c3 hY).trans q.f3, hg.cell q.c4 hY, (hg.frozen q.c4 hY).trans q.f4, hg.cell q.c5 hY, (hg.frozen q.c5 hY).trans q.f5, hg.cell q.c6 hY, (hg.frozen q.c6 hY).trans q.f6, isr_goes q.i hg hO, hI, q1, q2, q3, q4, hk⟩
theorem RefQ.lz' {w : World} {R Y0 Y1 m hi cap : Nat} {t : Tn} (q : RefQ w R Y0 Y1 m hi cap t) : hi ≤ w.heap.size := q.lz
set_option maxRecDepth 100000 in
set_option maxHeartbeats 4000000 in
theorem rtclear_c (R hi cap : Nat) (t : Tn) (w : World) (h : RefAt w R hi cap t) :
    Calls Tryz.prog 62 #[.pointer (some ⟨R, 0, none⟩)] w fun x w' => x = .returned (.int .i64 (stopN t : Nat)) ∧ RefAt w' R hi cap ⟨t.st, clearW t.a, clearW t.b⟩ ∧ Goes (Rin R hi) w w' := by
  obtain ⟨Y0, Y1, m, q⟩ := h
  have r1 := q.c1
  have r2 := q.c2
  have lm := q.lm
  have lh := q.lh
  have lc := q.lc
  obtain ⟨I0, O0, ya⟩ := q.a
  obtain ⟨I1, O1, yb⟩ := q.b
  have a0 := ya.c0
  have b0 := yb.c0
  have la := ya.l1; have la2 := ya.l2; have la3 := ya.l3; have la4 := ya.l4
  have lb := yb.l1; have lb2 := yb.l2; have lb3 := yb.l3; have lb4 := yb.l4
  have ka := ya.ok.il
  have kb := yb.ok.il
  have HQ := Lib.hid q
  have HYA := Lib.hid ya
  have HYB := Lib.hid yb
  have HSN := Lib.hid (show stopN t = t.a.i.length + t.b.i.length from rfl)
  have HI0 := Lib.hid ya.i
  have HI1 := Lib.hid yb.i
  clear q ya yb
  obtain ⟨A, hA⟩ : ∃ A, t.a.i = A := ⟨_, rfl⟩
  obtain ⟨B, hB⟩ : ∃ B, t.b.i = B := ⟨_, rfl⟩
  rw [hA] at HI0 HSN ka
  rw [hB] at HI1 HSN kb
  rw [HSN.out]
  clear hA hB
  have HC0 := Lib.hid (fun W h => L1.rclear_any I0 cap A W h)
  have HC1 := Lib.hid (fun W h => L1.rclear_any I1 cap B W h)
  have hwr : IntKind.i64.wrap ((A.length : Int) + (B.length : Int)) = ((A.length + B.length : Nat) : Int) := (IntWalk.i64_in _ (by omega)).trans (by omega)
  go_enter Tryz.func62, Tryz.ntmps62
  go_wp2_with fail
  refine wp_region_held_drew (S := fun w' => w'.cell? ⟨R, 1, none⟩ = some (.pointer (some ⟨Y0, 0, none⟩)) ∧ w'.cell? ⟨R, 2, none⟩ = some (.pointer (some ⟨Y1, 0, none⟩)) ∧ w'.cell? ⟨Y0, 0, none⟩ = some (.pointer (some ⟨I0, 0, none⟩)) ∧ w'.cell? ⟨Y1, 0, none⟩ = some (.pointer (some ⟨I1, 0, none⟩))) (by kernel_rfl) ?_ (fun hHeld => ?_)
  · exact ⟨r1, r2, a0, b0⟩
  refine takeH (i := 0) (some 3) (v := ?_) rfl rfl (by kernel_rfl) (by kernel_rfl) (by kernel_rfl) (fun _ _ _ h => h) (Or.inl ⟨by rfl, ?hy0⟩) hHeld ?rest0
  case hy0 => (intro w hSw; (try dsimp only at hSw); go_simp; (try with_reducible rfl))
  try simp only [Act.put, List.setIfInBounds_toArray, List.set_cons_zero, List.set_cons_succ]
  refine takeH (i := 1) (some 4) (v := ?_) rfl rfl (by kernel_rfl) (by kernel_rfl) (by kernel_rfl) (fun _ _ _ h => h) (Or.inl ⟨by rfl, ?hy1⟩) hHeld ?rest1
  case hy1 => (intro w hSw; (try dsimp only at hSw); go_simp; (try with_reducible rfl))
  try simp only [Act.put, List.setIfInBounds_toArray, List.set_cons_zero, List.set_cons_succ]
  refine takeH (i := 2) (some 5) (v := ?_) rfl rfl (by kernel_rfl) (by kernel_rfl) (by kernel_rfl) (fun _ _ _ h => h) (Or.inl ⟨by rfl, ?hy2⟩) hHeld ?rest2
  case hy2 => (intro w hSw; (try dsimp only at hSw); go_simp; (try with_reducible rfl))
  try simp only [Act.put, List.setIfInBounds_toArray, List.set_cons_zero, List.set_cons_succ]
  refine takeH (i := 3) (some 6) (v := ?_) rfl rfl (by kernel_rfl) (by kernel_rfl) (by kernel_rfl) (fun _ _ _ h => h) (Or.inl ⟨by rfl, ?hy3⟩) hHeld ?rest3
  case hy3 => (intro w hSw; (try dsimp only at hSw); go_simp; (try with_reducible rfl))
  try simp only [Act.put, List.setIfInBounds_toArray, List.set_cons_zero, List.set_cons_succ]
  refine takeH (i := 4) (some 7) (v := ?_) rfl rfl (by kernel_rfl) (by kernel_rfl) (by kernel_rfl) (fun _ _ _ h => h) (Or.inl ⟨by rfl, ?hy4⟩) hHeld ?rest4
  case hy4 => (intro w hSw; (try dsimp only at hSw); go_simp; (try with_reducible rfl))
  try simp only [Act.put, List.setIfInBounds_toArray, List.set_cons_zero, List.set_cons_succ]
  refine takeH (i := 5) (some 8) (v := ?_) rfl rfl (by kernel_rfl) (by kernel_rfl) (by kernel_rfl) (fun _ _ _ h => h) (Or.inl ⟨by rfl, ?hy5⟩) hHeld ?rest5
  case hy5 => (intro w hSw; (try dsimp only at hSw); go_simp; (try with_reducible rfl))
  try simp only [Act.put, List.setIfInBounds_toArray, List.set_cons_zero, List.set_cons_succ]
  refine takeH (i := 6) (some 9) (v := ?_) rfl rfl (by kernel_rfl) (by kernel_rfl) (by kernel_rfl) (fun _ _ _ h => h) (Or.inl ⟨by rfl, ?hy6⟩) hHeld ?rest6
  case hy6 => (intro w hSw; (try dsimp only at hSw); go_simp; (try with_reducible rfl))
  try simp only [Act.put, List.setIfInBounds_toArray, List.set_cons_zero, List.set_cons_succ]
  refine takeH (i := 7) (some 10) (v := ?_) rfl rfl (by kernel_rfl) (by kernel_rfl) (by kernel_rfl) (fun _ _ _ h => h) (Or.inl ⟨by rfl, ?hy7⟩) hHeld ?rest7
  case hy7 => (intro w hSw; (try dsimp only at hSw); go_simp; (try with_reducible rfl))
  try simp only [Act.put, List.setIfInBounds_toArray, List.set_cons_zero, List.set_cons_succ]
  refine takeH (i := 9) (some 12) (v := ?_) rfl rfl (by kernel_rfl) (by kernel_rfl) (by kernel_rfl) (fun _ _ _ h => h) (Or.inl ⟨by rfl, ?hy9⟩) hHeld ?rest9
  case hy9 => (intro w hSw; (try dsimp only at hSw); go_simp; (try with_reducible rfl))
  try simp only [Act.put, List.setIfInBounds_toArray, List.set_cons_zero, List.set_cons_succ]
  refine takeH (i := 10) (some 13) (v := ?_) rfl rfl (by kernel_rfl) (by kernel_rfl) (by kernel_rfl) (fun _ _ _ h => h) (Or.inl ⟨by rfl, ?hy10⟩) hHeld ?rest10
  case hy10 => (intro w hSw; (try dsimp only at hSw); go_simp; (try with_reducible rfl))
  try simp only [Act.put, List.setIfInBounds_toArray, List.set_cons_zero, List.set_cons_succ]
  refine takeH (i := 11) (some 14) (v := ?_) rfl rfl (by kernel_rfl) (by kernel_rfl) (by kernel_rfl) (fun _ _ _ h => h) (Or.inl ⟨by rfl, ?hy11⟩) hHeld ?rest11
  case hy11 => (intro w hSw; (try dsimp only at hSw); go_simp; (try with_reducible rfl))
  try simp only [Act.put, List.setIfInBounds_toArray, List.set_cons_zero, List.set_cons_succ]
  refine takeH (i := 12) (some 15) (v := ?_) rfl rfl (by kernel_rfl) (by kernel_rfl) (by kernel_rfl) (fun _ _ _ h => h) (Or.inl ⟨by rfl, ?hy12⟩) hHeld ?rest12
  case hy12 => (intro w hSw; (try dsimp only at hSw); go_simp; (try with_reducible rfl))
  try simp only [Act.put, List.setIfInBounds_toArray, List.set_cons_zero, List.set_cons_succ]
  refine takeH (i := 13) (some 16) (v := ?_) rfl rfl (by kernel_rfl) (by kernel_rfl) (by kernel_rfl) (fun _ _ _ h => h) (Or.inl ⟨by rfl, ?hy13⟩) hHeld ?rest13
  case hy13 => (intro w hSw; (try dsimp only at hSw); go_simp; (try with_reducible rfl))
  try simp only [Act.put, List.setIfInBounds_toArray, List.set_cons_zero, List.set_cons_succ]
  refine takeH (i := 14) (some 17) (v := ?_) rfl rfl (by kernel_rfl) (by kernel_rfl) (by kernel_rfl) (fun _ _ _ h => h) (Or.inl ⟨by rfl, ?hy14⟩) hHeld ?rest14
  case hy14 => (intro w hSw; (try dsimp only at hSw); go_simp; (try with_reducible rfl))
  try simp only [Act.put, List.setIfInBounds_toArray, List.set_cons_zero, List.set_cons_succ]
  refine takeH (i := 15) (some 18) (v := ?_) rfl rfl (by kernel_rfl) (by kernel_rfl) (by kernel_rfl) (fun _ _ _ h => h) (Or.inl ⟨by rfl, ?hy15⟩) hHeld ?rest15
  case hy15 => (intro w hSw; (try dsimp only at hSw); go_simp; (try with_reducible rfl))
  try simp only [Act.put, List.setIfInBounds_toArray, List.set_cons_zero, List.set_cons_succ]
  refine takeH (i := 16) (some 19) (v := ?_) rfl rfl (by kernel_rfl) (by kernel_rfl) (by kernel_rfl) (fun _ _ _ h => h) (Or.inl ⟨by rfl, ?hy16⟩) hHeld ?rest16
  case hy16 => (intro w hSw; (try dsimp only at hSw); go_simp; (try with_reducible rfl))
  try simp only [Act.put, List.setIfInBounds_toArray, List.set_cons_zero, List.set_cons_succ]
  refine wpAnyH_ready (rs := [8]) (by kernel_rfl) (by simp) ?_
  refine AllReadyH.cons rfl (fun K hK => ?_) AllReadyH.nil
  go_simp
  refine (HC0.out _ (IsR.same (w' := w.drew) HI0.out rfl)).mono ?_
  rintro e w1 ⟨rfl, hi1, ho1⟩
  have g1 := goes_one ho1
  have n1 : ¬ R = I0 := by omega
  have n2 : ¬ Y0 = I0 := by omega
  have n3 : ¬ Y1 = I0 := by omega
  have hj1 := isr_goes (IsR.same (w' := w.drew) HI1.out rfl) g1 (by omega)
  refine hK.out _ _ ⟨g1.cell hHeld.1 n1, g1.cell hHeld.2.1 n1, g1.cell hHeld.2.2.1 n2, g1.cell hHeld.2.2.2 n3⟩ (fun hHeld => ?_)
  clear hK K
  try simp only [Act.put, List.setIfInBounds_toArray, List.set_cons_zero, List.set_cons_succ]
  refine wpAnyH_ready (rs := [17]) (by kernel_rfl) (by simp) ?_
  refine AllReadyH.cons rfl (fun K hK => ?_) AllReadyH.nil
  go_simp
  refine (HC1.out _ hj1).mono ?_
  rintro e w2 ⟨rfl, hi2, ho2⟩
  have g2 := goes_one ho2
  have n4 : ¬ R = I1 := by omega
  have n5 : ¬ Y0 = I1 := by omega
  have n6 : ¬ Y1 = I1 := by omega
  refine hK.out _ _ ⟨g2.cell hHeld.1 n4, g2.cell hHeld.2.1 n4, g2.cell hHeld.2.2.1 n5, g2.cell hHeld.2.2.2 n6⟩ (fun hHeld => ?_)
  clear hK K
  try simp only [Act.put, List.setIfInBounds_toArray, List.set_cons_zero, List.set_cons_succ]
  refine takeH (i := 18) (some 21) (v := ?_) rfl rfl (by kernel_rfl) (by kernel_rfl) (by kernel_rfl) (fun _ _ _ h => h) (Or.inl ⟨by rfl, ?hy18⟩) hHeld ?rest18
  case hy18 => (intro w hSw; (try dsimp only at hSw); go_simp; (try with_reducible rfl))
  try simp only [Act.put, List.setIfInBounds_toArray, List.set_cons_zero, List.set_cons_succ]
  refine takeH (i := 19) (some 2) (v := ?_) rfl rfl (by kernel_rfl) (by kernel_rfl) (by kernel_rfl) (fun _ _ _ h => h) (Or.inl ⟨by rfl, ?hy19⟩) hHeld ?rest19
  case hy19 => (intro w hSw; (try dsimp only at hSw); go_simp; (try with_reducible rfl))
  try simp only [Act.put, List.setIfInBounds_toArray, List.set_cons_zero, List.set_cons_succ]
  refine wpAnyH_done (by kernel_rfl) ?_ _
  go_wp2
  go_ret
  refine ⟨rfl, ?_, ?_⟩
  · have g0 := goes_one ho1
    have g1 : Goes (fun i => i = I0) w w1 := ⟨g0.os, g0.tape, g0.output, g0.size, g0.same⟩
    have g2 := goes_one ho2
    have nR0 : ¬ R = I0 := by omega
    have nR1 : ¬ R = I1 := by omega
    have qa := HYA.out.setI (A := w) (B := w1) hi1 g1 (clear_ok HYA.out.ok)
    have qa2 : RWay w2 (R + 1) m Y0 cap (clearW t.a) := RWay.goes ⟨I0, O0, qa⟩ g2 (fun i h e => by have := h.2; omega)
    have qb : RWay w1 m hi Y1 cap t.b := RWay.goes ⟨I1, O1, HYB.out⟩ g1 (fun i h e => by have := h.1; omega)
    obtain ⟨I1', O1', qb1⟩ := qb
    have e1 : I1' = I1 := by have := qb1.c0.symm.trans (g1.cell b0 (fun e => by omega)); injection this with this; injection this with this; injection this with this; injection this
    subst e1
    have qb2 := qb1.setI hi2 g2 (clear_ok qb1.ok)
    exact ⟨Y0, Y1, m, g2.cell (g1.cell HQ.out.c0 nR0) nR1, g2.cell (g1.cell r1 nR0) nR1, g2.cell (g1.cell r2 nR0) nR1, (g2.frozen (g1.cell HQ.out.c0 nR0) nR1).trans ((g1.frozen HQ.out.c0 nR0).trans HQ.out.f0), qa2, ⟨_, _, qb2⟩, lm, lh, Nat.le_trans HQ.out.lz (Nat.le_trans g1.size g2.size), HQ.out.st, lc⟩
  · have g0 := goes_one ho1
    have g1 : Goes (fun i => i = I0) w w1 := ⟨g0.os, g0.tape, g0.output, g0.size, g0.same⟩
    have p1 : Goes (Rin R hi) w w1 := g1.mono (fun i e => ⟨by omega, by omega⟩)
    have p2 : Goes (Rin R hi) w1 w2 := (goes_one ho2).mono (fun i e => ⟨by omega, by omega⟩)
    exact p1.trans p2
end Go.Proofs.YtkokcfhfgnkdfaaGreatDoor.L17

/- The document's own answers (wicketgateref13): what they answer. -/
namespace Go.Proofs.YtkokcfhfgnkdfaaGreatDoor.L13
open Go.RowKit

set_option maxRecDepth 100000 in
set_option maxHeartbeats 1000000 in
theorem refRight_any (g s : Int) (w : World) :
    Calls Tryz.prog 92 #[.agg #[.int .i64 g, .int .i64 s]] w fun e w' => e = .returned (.bool (rightB g s)) ∧ Below w.heap.size w w' := by
  by_cases h1 : 0 ≤ s
  · by_cases h2 : s ≤ g
    · by_cases h3 : g ≤ 1000000000000
      · have d1 : decide (0 ≤ s) = true := decide_eq_true h1
        have d2 : decide (s ≤ g) = true := decide_eq_true h2
        have d3 : decide (g ≤ 1000000000000) = true := decide_eq_true h3
        go_enter Tryz.func92, Tryz.ntmps92
        go_wp2
        go_ret
        refine ⟨ret_bool ?_, (Below.refl _ _).alloc (Nat.le_refl _) _⟩
        rw [Bool.eq_iff_iff, right_iff, decide_eq_true_eq]
        omega
      · have d3 : decide (g ≤ 1000000000000) = false := decide_eq_false h3
        have hr : rightB g s = false := by rw [← Bool.not_eq_true, right_iff]; omega
        rw [hr]
        clear hr
        go_enter Tryz.func92, Tryz.ntmps92
        go_wp2
        go_ret
        exact ⟨rfl, (Below.refl _ _).alloc (Nat.le_refl _) _⟩
    · have d2 : decide (s ≤ g) = false := decide_eq_false h2
      have hr : rightB g s = false := by rw [← Bool.not_eq_true, right_iff]; omega
      rw [hr]
      clear hr
      go_enter Tryz.func92, Tryz.ntmps92
      go_wp2
      go_ret
      exact ⟨rfl, (Below.refl _ _).alloc (Nat.le_refl _) _⟩
  · have d1 : decide (0 ≤ s) = false := decide_eq_false h1
    have hr : rightB g s = false := by rw [← Bool.not_eq_true, right_iff]; omega
    rw [hr]
    clear hr
    go_enter Tryz.func92, Tryz.ntmps92
    go_wp2
    go_ret
    exact ⟨rfl, (Below.refl _ _).alloc (Nat.le_refl _) _⟩

set_option maxHeartbeats 400000 in
theorem refLeft_any (g s : Int) (w : World) :
    Calls Tryz.prog 68 #[.agg #[.int .i64 g, .int .i64 s]] w fun e w' => e = .returned (.int .i64 (if rightB g s = true then g - s else 0)) ∧ Below w.heap.size w w' := by
  by_cases h : rightB g s = true
  · obtain ⟨b1, b2, b3, b4⟩ := bnd_of h
    rw [if_pos h]
    go_enter Tryz.func68, Tryz.ntmps68
    go_wp2_with (first
      | (go_at_call 92; refine (refRight_any _ _ _).mono ?_; rintro e w1 ⟨rfl, hb1⟩; obtain ⟨hc1, hf1⟩ := bcell hb1))
    go_ret
    exact ⟨rfl, (((Below.refl _ _).alloc (Nat.le_refl _) _).trans (hb1.mono (by simp)))⟩
  · have h' : rightB g s = false := by simpa using h
    rw [if_neg h]
    clear h
    go_enter Tryz.func68, Tryz.ntmps68
    go_wp2_with (first
      | (go_at_call 92; refine (refRight_any _ _ _).mono ?_; rintro e w1 ⟨rfl, hb1⟩))
    go_ret
    exact ⟨rfl, (((Below.refl _ _).alloc (Nat.le_refl _) _).trans (hb1.mono (by simp)))⟩
end Go.Proofs.YtkokcfhfgnkdfaaGreatDoor.L13

/- The document's Grant, Spend, New. -/
namespace Go.Proofs.YtkokcfhfgnkdfaaGreatDoor.L13
open Go.RowKit

set_option maxRecDepth 100000 in
set_option maxHeartbeats 2000000 in
theorem refGrant_any (g s n : Int) (w : World) :
    Calls Tryz.prog 64 #[.agg #[.int .i64 g, .int .i64 s], .int .i64 n] w fun e w' => e = .returned (.tuple #[.agg #[.int .i64 (gG g s n), .int .i64 (gS g s n)], .int .i64 (gE g s n)]) ∧ Below w.heap.size w w' := by
  cases h : rightB g s
  · rw [show gE g s n = 2 by simp [gE, h], show gG g s n = 0 by simp [gG, gE, h], show gS g s n = 0 by simp [gS, gE, h]]
    go_enter Tryz.func64, Tryz.ntmps64
    go_wp2_with fail
    refine (refRight_any _ _ _).mono ?_; rintro e w1 ⟨rfl, hb1⟩; obtain ⟨hc1, hf1⟩ := bcell hb1; have hz1 := hb1.size; simp only [World.size_alloc] at hz1 hb1
    have hW : Below w.heap.size w w1 := (((Below.refl _ _).alloc (Nat.le_refl _) _).alloc (by simp) _).trans (hb1.mono (by omega))
    have hy : w.heap.size + 1 < w1.heap.size := by omega
    have hyz : w.heap.size < w1.heap.size := by omega
    clear hb1 hz1
    go_wp2_with fail
    refine bodyPost_ret (v := .tuple #[.agg #[.int .i64 0, .int .i64 0], .int .i64 2]) ?_ rfl ⟨rfl, ?_⟩
    · simp [results, Tryz.results64, go_sem, hc1]
    · repeat (refine Below.setCell ?_ (by simp) _)
      exact hW
  · obtain ⟨b1, b2, b3, b4⟩ := bnd_of h
    by_cases h0 : n < 0
    · rw [show gE g s n = 2 by simp [gE, h0], show gG g s n = 0 by simp [gG, gE, h0], show gS g s n = 0 by simp [gS, gE, h0]]
      have d0 : decide (n < 0) = true := decide_eq_true h0
      go_enter Tryz.func64, Tryz.ntmps64
      go_wp2_with fail
      refine (refRight_any _ _ _).mono ?_; rintro e w1 ⟨rfl, hb1⟩; obtain ⟨hc1, hf1⟩ := bcell hb1; have hz1 := hb1.size; simp only [World.size_alloc] at hz1 hb1
      have hW : Below w.heap.size w w1 := (((Below.refl _ _).alloc (Nat.le_refl _) _).alloc (by simp) _).trans (hb1.mono (by omega))
      have hy : w.heap.size + 1 < w1.heap.size := by omega
      have hyz : w.heap.size < w1.heap.size := by omega
      clear hb1 hz1
      go_wp2_with fail
      refine bodyPost_ret (v := .tuple #[.agg #[.int .i64 0, .int .i64 0], .int .i64 2]) ?_ rfl ⟨rfl, ?_⟩
      · simp [results, Tryz.results64, go_sem, hc1]
      · repeat (refine Below.setCell ?_ (by simp) _)
        exact hW
    · have d0 : decide (n < 0) = false := decide_eq_false h0
      by_cases h1 : 65536 - (g - s) < n
      · have hE : gE g s n = 130 := by
          have : 65536 < n ∨ rightB (g + n) s = false := by right; rw [← Bool.not_eq_true, right_iff]; omega
          unfold gE; rw [if_neg (by simp [h, h0]), if_pos this]
        rw [hE, show gG g s n = 0 by simp [gG, hE], show gS g s n = 0 by simp [gS, hE]]
        have d1 : decide (65536 - (g - s) < n) = true := decide_eq_true h1
        clear hE
        go_enter Tryz.func64, Tryz.ntmps64
        go_wp2_with fail
        refine (refRight_any _ _ _).mono ?_; rintro e w1 ⟨rfl, hb1⟩; obtain ⟨hc1, hf1⟩ := bcell hb1; have hz1 := hb1.size; simp only [World.size_alloc] at hz1 hb1
        have hW : Below w.heap.size w w1 := (((Below.refl _ _).alloc (Nat.le_refl _) _).alloc (by simp) _).trans (hb1.mono (by omega))
        have hy : w.heap.size + 1 < w1.heap.size := by omega
        have hyz : w.heap.size < w1.heap.size := by omega
        clear hb1 hz1
        go_wp2_with fail
        refine (refLeft_any _ _ _).mono ?_; rintro e w2 ⟨rfl, hb2⟩; obtain ⟨hc2, hf2⟩ := bcell hb2; have hz2 := hb2.size
        have hW2 : Below w.heap.size w w2 := hW.trans (hb2.mono hW.size)
        have hy2 : w.heap.size + 1 < w2.heap.size := by omega
        clear hb2 hz2
        go_wp2
        clear hW
        have hW := hW2
        refine bodyPost_ret (v := .tuple #[.agg #[.int .i64 0, .int .i64 0], .int .i64 130]) ?_ rfl ⟨rfl, ?_⟩
        · simp [results, Tryz.results64, go_sem, hc1, hc2, hy]
        · repeat (refine Below.setCell ?_ (by simp) _)
          exact hW
      · have d1 : decide (65536 - (g - s) < n) = false := decide_eq_false h1
        by_cases h2 : 1000000000000 - g < n
        · have hE : gE g s n = 130 := by
            have : 65536 < n ∨ rightB (g + n) s = false := by right; rw [← Bool.not_eq_true, right_iff]; omega
            unfold gE; rw [if_neg (by simp [h, h0]), if_pos this]
          rw [hE, show gG g s n = 0 by simp [gG, hE], show gS g s n = 0 by simp [gS, hE]]
          have d2 : decide (1000000000000 - g < n) = true := decide_eq_true h2
          clear hE
          go_enter Tryz.func64, Tryz.ntmps64
          go_wp2_with fail
          refine (refRight_any _ _ _).mono ?_; rintro e w1 ⟨rfl, hb1⟩; obtain ⟨hc1, hf1⟩ := bcell hb1; have hz1 := hb1.size; simp only [World.size_alloc] at hz1 hb1
          have hW : Below w.heap.size w w1 := (((Below.refl _ _).alloc (Nat.le_refl _) _).alloc (by simp) _).trans (hb1.mono (by omega))
          have hy : w.heap.size + 1 < w1.heap.size := by omega
          have hyz : w.heap.size < w1.heap.size := by omega
          clear hb1 hz1
          go_wp2_with fail
          refine (refLeft_any _ _ _).mono ?_; rintro e w2 ⟨rfl, hb2⟩; obtain ⟨hc2, hf2⟩ := bcell hb2; have hz2 := hb2.size
          have hW2 : Below w.heap.size w w2 := hW.trans (hb2.mono hW.size)
          have hy2 : w.heap.size + 1 < w2.heap.size := by omega
          clear hb2 hz2
          go_wp2
          clear hW
          have hW := hW2
          refine bodyPost_ret (v := .tuple #[.agg #[.int .i64 0, .int .i64 0], .int .i64 130]) ?_ rfl ⟨rfl, ?_⟩
          · simp [results, Tryz.results64, go_sem, hc1, hc2, hy]
          · repeat (refine Below.setCell ?_ (by simp) _)
            exact hW
        · have hE : gE g s n = 0 := by
            have : ¬ (65536 < n ∨ rightB (g + n) s = false) := by rw [← Bool.not_eq_true, right_iff]; omega
            unfold gE; rw [if_neg (by simp [h, h0]), if_neg this]
          rw [hE, show gG g s n = g + n by simp [gG, hE], show gS g s n = s by simp [gS, hE]]
          have d2 : decide (1000000000000 - g < n) = false := decide_eq_false h2
          clear hE
          go_enter Tryz.func64, Tryz.ntmps64
          go_wp2_with fail
          refine (refRight_any _ _ _).mono ?_; rintro e w1 ⟨rfl, hb1⟩; obtain ⟨hc1, hf1⟩ := bcell hb1; have hz1 := hb1.size; simp only [World.size_alloc] at hz1 hb1
          have hW : Below w.heap.size w w1 := (((Below.refl _ _).alloc (Nat.le_refl _) _).alloc (by simp) _).trans (hb1.mono (by omega))
          have hy : w.heap.size + 1 < w1.heap.size := by omega
          have hyz : w.heap.size < w1.heap.size := by omega
          clear hb1 hz1
          go_wp2_with fail
          refine (refLeft_any _ _ _).mono ?_; rintro e w2 ⟨rfl, hb2⟩; obtain ⟨hc2, hf2⟩ := bcell hb2; have hz2 := hb2.size
          have hW2 : Below w.heap.size w w2 := hW.trans (hb2.mono hW.size)
          have hy2 : w.heap.size + 1 < w2.heap.size := by omega
          clear hb2 hz2
          go_wp2
          clear hW
          have hW := hW2
          refine bodyPost_ret (v := .tuple #[.agg #[.int .i64 (g + n), .int .i64 s], .int .i64 0]) ?_ rfl ⟨rfl, ?_⟩
          · simp [results, Tryz.results64, go_sem, hc1, hc2, hy]
          · repeat (refine Below.setCell ?_ (by simp) _)
            exact hW

set_option maxRecDepth 100000 in
set_option maxHeartbeats 2000000 in
theorem refSpend_any (g s n : Int) (w : World) :
    Calls Tryz.prog 70 #[.agg #[.int .i64 g, .int .i64 s], .int .i64 n] w fun e w' => e = .returned (.tuple #[.agg #[.int .i64 (sG g s n), .int .i64 (sS g s n)], .int .i64 (sE g s n)]) ∧ Below w.heap.size w w' := by
  cases h : rightB g s
  · rw [show sE g s n = 2 by simp [sE, h], show sG g s n = 0 by simp [sG, sE, h], show sS g s n = 0 by simp [sS, sE, h]]
    go_enter Tryz.func70, Tryz.ntmps70
    go_wp2_with fail
    refine (refRight_any _ _ _).mono ?_; rintro e w1 ⟨rfl, hb1⟩; obtain ⟨hc1, hf1⟩ := bcell hb1; have hz1 := hb1.size; simp only [World.size_alloc] at hz1 hb1
    have hW : Below w.heap.size w w1 := (((Below.refl _ _).alloc (Nat.le_refl _) _).alloc (by simp) _).trans (hb1.mono (by omega))
    have hy : w.heap.size + 1 < w1.heap.size := by omega
    have hyz : w.heap.size < w1.heap.size := by omega
    clear hb1 hz1
    go_wp2_with fail
    refine bodyPost_ret (v := .tuple #[.agg #[.int .i64 0, .int .i64 0], .int .i64 2]) ?_ rfl ⟨rfl, ?_⟩
    · simp [results, Tryz.results70, go_sem, hc1]
    · repeat (refine Below.setCell ?_ (by simp) _)
      exact hW
  · obtain ⟨b1, b2, b3, b4⟩ := bnd_of h
    by_cases h0 : n < 0
    · rw [show sE g s n = 2 by simp [sE, h0], show sG g s n = 0 by simp [sG, sE, h0], show sS g s n = 0 by simp [sS, sE, h0]]
      have d0 : decide (n < 0) = true := decide_eq_true h0
      go_enter Tryz.func70, Tryz.ntmps70
      go_wp2_with fail
      refine (refRight_any _ _ _).mono ?_; rintro e w1 ⟨rfl, hb1⟩; obtain ⟨hc1, hf1⟩ := bcell hb1; have hz1 := hb1.size; simp only [World.size_alloc] at hz1 hb1
      have hW : Below w.heap.size w w1 := (((Below.refl _ _).alloc (Nat.le_refl _) _).alloc (by simp) _).trans (hb1.mono (by omega))
      have hy : w.heap.size + 1 < w1.heap.size := by omega
      have hyz : w.heap.size < w1.heap.size := by omega
      clear hb1 hz1
      go_wp2_with fail
      refine bodyPost_ret (v := .tuple #[.agg #[.int .i64 0, .int .i64 0], .int .i64 2]) ?_ rfl ⟨rfl, ?_⟩
      · simp [results, Tryz.results70, go_sem, hc1]
      · repeat (refine Below.setCell ?_ (by simp) _)
        exact hW
    · have d0 : decide (n < 0) = false := decide_eq_false h0
      by_cases h1 : g - s < n
      · have hE : sE g s n = 130 := by
          have : 65536 < n ∨ rightB g (s + n) = false := by right; rw [← Bool.not_eq_true, right_iff]; omega
          unfold sE; rw [if_neg (by simp [h, h0]), if_pos this]
        rw [hE, show sG g s n = 0 by simp [sG, hE], show sS g s n = 0 by simp [sS, hE]]
        have d1 : decide (g - s < n) = true := decide_eq_true h1
        clear hE
        go_enter Tryz.func70, Tryz.ntmps70
        go_wp2_with fail
        refine (refRight_any _ _ _).mono ?_; rintro e w1 ⟨rfl, hb1⟩; obtain ⟨hc1, hf1⟩ := bcell hb1; have hz1 := hb1.size; simp only [World.size_alloc] at hz1 hb1
        have hW : Below w.heap.size w w1 := (((Below.refl _ _).alloc (Nat.le_refl _) _).alloc (by simp) _).trans (hb1.mono (by omega))
        have hy : w.heap.size + 1 < w1.heap.size := by omega
        have hyz : w.heap.size < w1.heap.size := by omega
        clear hb1 hz1
        go_wp2_with fail
        refine (refLeft_any _ _ _).mono ?_; rintro e w2 ⟨rfl, hb2⟩; obtain ⟨hc2, hf2⟩ := bcell hb2; have hz2 := hb2.size
        have hW2 : Below w.heap.size w w2 := hW.trans (hb2.mono hW.size)
        have hy2 : w.heap.size + 1 < w2.heap.size := by omega
        clear hb2 hz2
        go_wp2
        clear hW
        have hW := hW2
        refine bodyPost_ret (v := .tuple #[.agg #[.int .i64 0, .int .i64 0], .int .i64 130]) ?_ rfl ⟨rfl, ?_⟩
        · simp [results, Tryz.results70, go_sem, hc1, hc2, hy]
        · repeat (refine Below.setCell ?_ (by simp) _)
          exact hW
      · have d1 : decide (g - s < n) = false := decide_eq_false h1
        have hE : sE g s n = 0 := by
          have : ¬ (65536 < n ∨ rightB g (s + n) = false) := by rw [← Bool.not_eq_true, right_iff]; omega
          unfold sE; rw [if_neg (by simp [h, h0]), if_neg this]
        rw [hE, show sG g s n = g by simp [sG, hE], show sS g s n = s + n by simp [sS, hE]]
        clear hE
        go_enter Tryz.func70, Tryz.ntmps70
        go_wp2_with fail
        refine (refRight_any _ _ _).mono ?_; rintro e w1 ⟨rfl, hb1⟩; obtain ⟨hc1, hf1⟩ := bcell hb1; have hz1 := hb1.size; simp only [World.size_alloc] at hz1 hb1
        have hW : Below w.heap.size w w1 := (((Below.refl _ _).alloc (Nat.le_refl _) _).alloc (by simp) _).trans (hb1.mono (by omega))
        have hy : w.heap.size + 1 < w1.heap.size := by omega
        have hyz : w.heap.size < w1.heap.size := by omega
        clear hb1 hz1
        go_wp2_with fail
        refine (refLeft_any _ _ _).mono ?_; rintro e w2 ⟨rfl, hb2⟩; obtain ⟨hc2, hf2⟩ := bcell hb2; have hz2 := hb2.size
        have hW2 : Below w.heap.size w w2 := hW.trans (hb2.mono hW.size)
        have hy2 : w.heap.size + 1 < w2.heap.size := by omega
        clear hb2 hz2
        go_wp2
        clear hW
        have hW := hW2
        refine bodyPost_ret (v := .tuple #[.agg #[.int .i64 g, .int .i64 (s + n)], .int .i64 0]) ?_ rfl ⟨rfl, ?_⟩
        · simp [results, Tryz.results70, go_sem, hc1, hc2, hy]
        · repeat (refine Below.setCell ?_ (by simp) _)
          exact hW

end Go.Proofs.YtkokcfhfgnkdfaaGreatDoor.L13
