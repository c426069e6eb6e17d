/- The document's own queue; want. -/
import Derived.Test.YtoddlldjhaacnaaU
namespace Go.Proofs.Ytoddlldjhaacnaa
open Go.RowKit

/-- The document's queue in block G. -/
structure IsR (w : World) (G cap : Nat) (l : List UInt8) : Prop where
  c0 : w.cell? ⟨G, 0, none⟩ = some (.int .i64 cap)
  c1 : w.cell? ⟨G, 1, none⟩ = some (.string (str l))
  f1 : w.frozen? ⟨G, 1, none⟩ = false
  le : l.length ≤ cap
  cap_le : cap ≤ 4096
theorem IsR.same {w w' : World} {G cap : Nat} {l : List UInt8} (h : IsR w G cap l) (hG : w'.heap[G]? = w.heap[G]?) : IsR w' G cap l :=
  ⟨(World.cell?_of_block (w := w) hG).trans h.c0, (World.cell?_of_block (w := w) hG).trans h.c1, (World.frozen?_of_block (w := w) hG).trans h.f1, h.le, h.cap_le⟩
theorem IsR.lt {w : World} {G cap : Nat} {l : List UInt8} (h : IsR w G cap l) : G < w.heap.size := blt h.c0
theorem IsR.off {w w' : World} {F K G cap : Nat} {l : List UInt8} (h : IsR w G cap l) (ho : Off F K w w') (h1 : G ≠ F) (h2 : G ≠ K) : IsR w' G cap l := h.same (ho.block G h.lt h1 h2)
theorem IsR.below {w w' : World} {n G cap : Nat} {l : List UInt8} (h : IsR w G cap l) (hb : Below n w w') (hG : G < n) : IsR w' G cap l := h.same (hb.block G hG)
theorem IsR.drewN {w : World} {G cap : Nat} {l : List UInt8} (h : IsR w G cap l) (n : Nat) : IsR (w.drewN n) G cap l := IsR.same (w := w) (w' := w.drewN n) h rfl
theorem IsR.set {w : World} {G cap : Nat} {l l2 : List UInt8} (h : IsR w G cap l) (h2 : l2.length ≤ cap) : IsR (w.setCell ⟨G, 1, none⟩ (.string (str l2))) G cap l2 :=
  ⟨(World.cell?_setCell_other _ _ _ _ (by intro x; cases x)).trans h.c0, World.cell?_setCell_same' _ _ _ (by rw [h.c1]; rfl), (World.frozen?_setCell ..).trans h.f1, h2, h.cap_le⟩

theorem ext_string2 (s : ByteArray) (p : Nat) : s.extract 0 p = str (s.data.toList.take p) := by
  have := ext_list s 0 p
  rw [List.drop_zero] at this
  rw [← this]; rfl
theorem ext_head (l : List UInt8) (p : Nat) : (str l).extract 0 p = str (l.take p) := by
  have := ext_list (str l) 0 p
  rw [List.drop_zero] at this
  have e : (str l).data.toList = l := rfl
  rw [e] at this
  rw [← this]; rfl
theorem ext_tail (l : List UInt8) (p : Nat) : (str l).extract p (str l).size = str (l.drop p) := by
  have := ext_list (str l) p (str l).size
  have e : (str l).data.toList = l := rfl
  rw [e, str_size, List.take_length] at this
  rw [← this]; rfl

set_option maxRecDepth 100000 in
set_option maxHeartbeats 1000000 in
theorem rnew_ok (n : Nat) (h : 1 ≤ n) (h2 : n ≤ 4096) (w : World) :
    Calls Try.prog 11 #[.int .i64 n] w fun e w' => e = .returned (.tuple #[.pointer (some ⟨w.heap.size, 0, none⟩), .int .i64 0]) ∧ IsR w' w.heap.size n [] ∧ Below w.heap.size w w' := by
  have i1 : ¬ (n : Int) < 1 := by omega
  have i2 : (n : Int) ≤ 4096 := by omega
  go_enter Try.func11, Try.ntmps11
  go_wp2
  go_ret2
  refine ⟨rfl, ⟨by go_simp, by go_simp; rfl, by go_simp, by simp, h2⟩, (Below.refl _ w).alloc (Nat.le_refl _) _⟩
set_option maxHeartbeats 1000000 in
theorem rnew_err (n : Int) (h : n < 1 ∨ 4096 < n) (w : World) :
    Calls Try.prog 11 #[.int .i64 n] w fun e w' => e = .returned (.tuple #[.pointer none, .int .i64 2]) ∧ w = w' := by
  go_enter Try.func11, Try.ntmps11
  rcases h with h | h
  · go_wp2
    go_ret2
    exact ⟨rfl, rfl⟩
  · have h' : ¬ n < 1 := by omega
    go_wp2
    go_ret2
    exact ⟨rfl, rfl⟩

set_option maxRecDepth 100000 in
set_option maxHeartbeats 1000000 in
theorem rclear_any (G cap : Nat) (l : List UInt8) (w : World) (h : IsR w G cap l) :
    Calls Try.prog 27 #[.pointer (some ⟨G, 0, none⟩)] w fun e w' => e = .returned (.int .i64 l.length) ∧ IsR w' G cap [] ∧ Off G G w w' := by
  have c1 := h.c1
  have f1 := h.f1
  have hz := str_size l
  have H := Lib.hid h
  clear h
  go_enter Try.func27, Try.ntmps27
  go_wp2
  go_ret
  exact ⟨rfl, H.out.set (by simp), (Off.refl _ _ _).setF _ _⟩

set_option maxRecDepth 100000 in
set_option maxHeartbeats 1000000 in
theorem rpeek_any (G cap : Nat) (l : List UInt8) (n : Int) (w : World) (h : IsR w G cap l) :
    Calls Try.prog 26 #[.pointer (some ⟨G, 0, none⟩), .int .i64 n] w fun e w' => e = .returned (.string (str (l.take n.toNat))) ∧ ∃ q, w' = w.drewN q := by
  have c1 := h.c1
  have hz := str_size l
  have hx := ext_head l
  have H := Lib.hid h
  have HX := Lib.hid hx
  clear h hx
  by_cases n0 : n < 0
  · have t0 : n.toNat = 0 := by omega
    rw [t0]
    clear t0
    go_enter Try.func26, Try.ntmps26
    go_wp2_with fail
    go_quiet (fail)
    go_wp2
    go_ret
    exact ⟨rfl, _, rfl⟩
  · obtain ⟨m, rfl⟩ : ∃ m : Nat, n = m := ⟨n.toNat, by omega⟩
    have j0 : (0 : Int) ≤ (m : Int) := by omega
    rw [Int.toNat_natCast]
    by_cases n1 : m ≤ l.length
    · have j1 : (m : Int) ≤ (l.length : Int) := by omega
      have j2 : (if (l.length : Int) < (m : Int) then (l.length : Int) else (m : Int)) = (m : Int) := if_neg (by omega)
      have j3 : (if (m : Int) < 0 then (0 : Int) else (m : Int)) = (m : Int) := if_neg (by omega)
      go_enter Try.func26, Try.ntmps26
      go_wp2_with fail
      go_quiet (fail)
      go_wp2
      go_ret
      exact ⟨by rw [← HX.out]; rfl, _, rfl⟩
    · have j1 : (l.length : Int) < (m : Int) := by omega
      rw [List.take_of_length_le (by omega)]
      have hall := Lib.hid (show (str l).extract 0 l.length = str l by rw [HX.out, List.take_length])
      go_enter Try.func26, Try.ntmps26
      go_wp2_with fail
      go_quiet (fail)
      go_wp2
      go_ret
      exact ⟨congrArg (fun s => Ending.returned (Value.string s)) hall.out, _, rfl⟩

set_option maxRecDepth 100000 in
set_option maxHeartbeats 1000000 in
theorem rpop_any (G cap : Nat) (l : List UInt8) (n : Int) (w : World) (h : IsR w G cap l) :
    Calls Try.prog 25 #[.pointer (some ⟨G, 0, none⟩), .int .i64 n] w fun e w' => e = .returned (.string (str (l.take n.toNat))) ∧ IsR w' G cap (l.drop n.toNat) ∧ Off G G w w' := by
  have hP := rpeek_any G cap l n w h
  have c1 := h.c1
  have f1 := h.f1
  have hle := h.le
  have hz := str_size (l.take n.toNat)
  have hzl := str_size l
  have ht1 : (l.take n.toNat).length ≤ l.length := by rw [List.length_take]; omega
  have hdr : (str l).extract (l.take n.toNat).length l.length = str (l.drop n.toNat) := by
    have := ext_tail l (l.take n.toNat).length
    rw [str_size] at this
    rw [this, List.length_take]
    rcases Nat.le_total n.toNat l.length with h | h
    · rw [Nat.min_eq_left h]
    · rw [Nat.min_eq_right h, List.drop_length, List.drop_of_length_le h]
  have hdl : (l.drop n.toNat).length ≤ cap := by rw [List.length_drop]; omega
  generalize l.drop n.toNat = d at *
  generalize l.take n.toNat = t at *
  have HP := Lib.hid hP
  have H := Lib.hid h
  clear h hP
  go_enter Try.func25, Try.ntmps25
  go_wp2_with (first | (go_at_call 26; refine HP.out.mono ?_; rintro e w1 ⟨rfl, q, rfl⟩))
  go_ret
  exact ⟨rfl, (H.out.drewN q).set hdl, ((Off.refl _ _ _).drewN q).setF _ _⟩

set_option maxRecDepth 100000 in
set_option maxHeartbeats 1000000 in
theorem rpush_any (G cap : Nat) (l : List UInt8) (s : ByteArray) (w : World) (h : IsR w G cap l) :
    Calls Try.prog 24 #[.pointer (some ⟨G, 0, none⟩), .string s] w fun e w' => e = .returned (.int .i64 (fits cap l.length s.size : Nat)) ∧ IsR w' G cap (l ++ s.data.toList.take (cap - l.length)) ∧ Off G G w w' := by
  have c0 := h.c0
  have c1 := h.c1
  have f1 := h.f1
  have hle := h.le
  have hcl := h.cap_le
  have hzl := str_size l
  have hsz : s.data.toList.length = s.size := rfl
  have hp2 : s.data.toList.take (cap - l.length) = s.data.toList.take (fits cap l.length s.size) := by
    unfold fits
    rcases Nat.le_total s.size (cap - l.length) with h | h
    · rw [Nat.min_eq_left h, List.take_of_length_le (by rw [hsz]; exact h), List.take_of_length_le (by rw [hsz]; exact Nat.le_refl _)]
    · rw [Nat.min_eq_right h]
  have hpl : fits cap l.length s.size ≤ s.size ∧ fits cap l.length s.size + l.length ≤ cap := by unfold fits; omega
  have hpm : (fits cap l.length s.size : Int) = if ((cap : Int) - (l.length : Int)) < (s.size : Int) then (cap : Int) - (l.length : Int) else (s.size : Int) := by
    unfold fits
    split <;> omega
  have hl2 : (l ++ s.data.toList.take (cap - l.length)).length ≤ cap := by simp; omega
  generalize fits cap l.length s.size = p at *
  have hsub : IntKind.i64.wrap ((cap : Int) - (l.length : Int)) = (cap : Int) - (l.length : Int) := IntWalk.i64_in _ (by omega)
  have hex := ext_string2 s p
  rw [← hp2] at hex
  generalize hgt : s.data.toList.take (cap - l.length) = t at *
  have happ := str_append l t
  have htl : (str t).size = t.length := str_size t
  have hb1 : l.length + t.length ≤ 9223372036854775807 := by rw [List.length_append] at hl2; omega
  have hadd := fun W => run_string_add_sum (P := Try.prog) W (str l) (str t) (by rw [hzl, htl]; exact hb1)
  have hpi : (p : Int) ≤ (s.size : Int) := by omega
  have hj : (if (cap : Int) - (l.length : Int) < (s.size : Int) then (cap : Int) - (l.length : Int) else (s.size : Int)) = (p : Int) := hpm.symm
  have H := Lib.hid h
  have HX := Lib.hid happ
  clear hgt hp2 hpm h happ
  go_enter Try.func24, Try.ntmps24
  go_wp2_with fail
  go_quiet (fail)
  go_wp2_with fail
  generalize hV : w.drewN nq = V
  have v1 : V.cell? ⟨G, 1, none⟩ = some (.string (str l)) := by rw [← hV]; exact c1
  have vf : V.frozen? ⟨G, 1, none⟩ = false := by rw [← hV]; exact f1
  have hR := Lib.hid (show IsR V G cap l by rw [← hV]; exact H.out.drewN nq)
  have hO := Lib.hid (show Off G G w V by rw [← hV]; exact (Off.refl _ _ _).drewN nq)
  clear hV c0 c1 f1
  go_still_tail 11, (by kernel_rfl)
  change wpList _ _ _ _ _ V.drew
  go_wp2
  go_ret
  rw [HX.out]
  exact ⟨rfl, (IsR.same (w := V) (w' := V.drew) hR.out rfl).set hl2, (hO.out.drew).setF _ _⟩

/-- want: what the document says of a call. -/
theorem want_any (G cap : Nat) (l : List UInt8) (x : OpV) (w : World) (h : IsR w G cap l) :
    Calls Try.prog 16 #[.pointer (some ⟨G, 0, none⟩), .agg #[.int .i64 x.kind, .int .i64 x.n, .string x.s]] w fun e w' =>
      e = .returned (Told cap l x) ∧ IsR w' G cap (stepL cap l x) ∧ Off G G w w' := by
  have hq := h.below ((Below.refl w.heap.size w).alloc (Nat.le_refl _) (.cells #[.int .i64 x.kind, .int .i64 x.n, .string x.s] 38)) h.lt
  have ho : Off G G w (w.alloc (.cells #[.int .i64 x.kind, .int .i64 x.n, .string x.s] 38)) := (Off.refl G G w).alloc _
  obtain ⟨kd, n, s⟩ := x
  dsimp only at hq ho ⊢
  have HQ := Lib.hid hq
  have HO := Lib.hid ho
  clear hq ho h
  by_cases k0 : kd = 0
  · subst k0
    go_enter Try.func16, Try.ntmps16
    go_wp2_with (first | (go_at_call 24; refine (rpush_any G cap l s _ HQ.out).mono ?_; rintro e w1 ⟨rfl, hq, ho⟩))
    go_ret2
    exact ⟨rfl, hq, HO.out.trans ho⟩
  · by_cases k1 : kd = 1
    · subst k1
      go_enter Try.func16, Try.ntmps16
      go_wp2_with (first | (go_at_call 25; refine (rpop_any G cap l n _ HQ.out).mono ?_; rintro e w1 ⟨rfl, hq, ho⟩))
      go_ret2
      exact ⟨rfl, hq, HO.out.trans ho⟩
    · by_cases k2 : kd = 2
      · subst k2
        go_enter Try.func16, Try.ntmps16
        go_wp2_with (first | (go_at_call 26; refine (rpeek_any G cap l n _ HQ.out).mono ?_; rintro e w1 ⟨rfl, q, rfl⟩))
        go_ret2
        exact ⟨rfl, HQ.out.drewN q, HO.out.drewN q⟩
      · by_cases k3 : kd = 3
        · subst k3
          go_enter Try.func16, Try.ntmps16
          go_wp2_with (first | (go_at_call 27; refine (rclear_any G cap l _ HQ.out).mono ?_; rintro e w1 ⟨rfl, hq, ho⟩))
          go_ret2
          exact ⟨rfl, hq, HO.out.trans ho⟩
        · go_enter Try.func16, Try.ntmps16
          go_wp2
          go_ret2
          have e1 : stepL cap l ⟨kd, n, s⟩ = l := by simp [stepL, k0, k1, k2, k3]
          refine ⟨?_, by rw [e1]; exact HQ.out, HO.out⟩
          simp [Told, stepN, stepT, k0, k1, k2, k3]; rfl
end Go.Proofs.Ytoddlldjhaacnaa
