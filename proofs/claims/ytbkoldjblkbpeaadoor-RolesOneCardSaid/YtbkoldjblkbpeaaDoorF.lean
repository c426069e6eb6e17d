/- fault's Of, Unless; the rules of words: their contracts. -/
import Derived.Test.YtbkoldjblkbpeaaDoorE
import Derived.Laws.RangeAny
namespace Go.Proofs.YtbkoldjblkbpeaaDoor
open Go.RowKit Go.Shelf
attribute [local go_sem] Oper.semAt_some

/-- An error's value, by its number. -/
def fV (no : Int) : Value := .iface 76 (.agg #[.int .i64 no])
/-- The error of a number, unless all is well. -/
def errV (b : Bool) (no : Int) : Value := match b with
  | true => .nilIface
  | false => fV no
theorem of11_c (w : World) : Calls Tryd.prog 47 #[.int .i64 11] w fun x w' => x = .returned (fV 11) ∧ w = w' := by
  go_enter Tryd.func47, Tryd.ntmps47
  go_wp2
  go_ret
  exact ⟨rfl, rfl⟩
theorem unless_c (b : Bool) (w : World) : Calls Tryd.prog 46 #[.bool b, .int .i64 14] w fun x w' => x = .returned (errV b 14) ∧ w = w' := by
  cases b
  · go_enter Tryd.func46, Tryd.ntmps46
    go_wp2
    go_ret
    exact ⟨rfl, rfl⟩
  · go_enter Tryd.func46, Tryd.ntmps46
    go_wp2
    go_ret
    exact ⟨rfl, rfl⟩
/-- Are all bytes from 20 to 7e? -/
def okL (L : List UInt8) : Bool := L.all fun c => decide (32 ≤ c.toNat ∧ c.toNat ≤ 126)
theorem drop_at (s : ByteArray) (k : Nat) (h : k < s.size) : s.data.toList.drop k = s[k]'h :: s.data.toList.drop (k + 1) := by
  rw [List.drop_eq_getElem_cons (show k < s.data.toList.length from h)]
  rfl
theorem takeS (s : ByteArray) (k : Nat) (h : k < s.size) : s.data.toList.take (k + 1) = s.data.toList.take k ++ [s[k]'h] := by
  have h' : k < s.data.toList.length := h
  rw [List.take_succ_eq_append_getElem h']
  rfl
theorem in_list (s : ByteArray) (k : Nat) (h : k < s.size) : (s[k]'h) ∈ s.data.toList := by
  have : s.data.toList = s.data.toList.take k ++ s[k]'h :: s.data.toList.drop (k + 1) := by rw [← drop_at s k h, List.take_append_drop]
  rw [this]; simp
theorem okL_not {L : List UInt8} {c : UInt8} (hc : c ∈ L) (h : ¬ (32 ≤ c.toNat ∧ c.toNat ≤ 126)) : okL L = false := by
  unfold okL
  rw [List.all_eq_false]
  exact ⟨c, hc, by simpa using h⟩
theorem okL_snoc (L : List UInt8) (c : UInt8) : okL (L ++ [c]) = (okL L && decide (32 ≤ c.toNat ∧ c.toNat ≤ 126)) := by simp [okL]
theorem grown_iterAt (W : World) (k : Nat) (s : ByteArray) (pos : Nat) : W.grownBy (W.iterAt k s pos) (some k) :=
  ⟨rfl, rfl, rfl, by rw [Lib.iterAt_size]; exact Nat.le_refl _, fun i _ hi => Lib.iterAt_other W k i s pos (fun e => hi (by rw [e]))⟩

set_option maxRecDepth 100000 in
set_option maxHeartbeats 2000000 in
theorem printable_c (s : ByteArray) (w : World) : Calls Tryd.prog 44 #[.string s] w fun x w' => x = .returned (errV (okL s.data.toList) 11) ∧ Below w.heap.size w w' := by
  have HO := Lib.hid (fun W => of11_c W)
  go_enter Tryd.func44, Tryd.ntmps44
  go_wp2
  go_loopw [] (fun wr => ∃ k : Nat, k ≤ s.size ∧ okL (s.data.toList.take k) = true ∧ wr.heap[w.heap.size]? = some (.stringIter s k) ∧ Below w.heap.size w wr) (fun wr => s.size + 1 - wr.iterPos w.heap.size)
  case atStart => exact ⟨0, Nat.zero_le _, rfl, World.iter_heap w s 0, (Below.refl _ w).grown (World.grownBy_alloc w _ none) (Nat.le_refl _) (fun j e => by cases e)⟩
  case round =>
    obtain ⟨k, hk, hok, hit, hB⟩ := hrel
    by_cases hp : k < s.size
    · have hit2 := Lib.iterAt_heap wr w.heap.size s k (k + (Utf8.decode s k).2) hit
      have hB2 := hB.grown (grown_iterAt wr w.heap.size s (k + (Utf8.decode s k).2)) hB.size (fun j e => by cases e; exact Nat.le_refl _)
      have hnx : ∀ ty, (Instr.next (.pointer (some ⟨w.heap.size, 0, none⟩)) true ty).run Tryd.prog wr = _ := fun ty => Lib.run_next_any_at wr w.heap.size s k ty hit hp
      have hin := in_list s k hp
      have hts := takeS s k hp
      by_cases ha : (s[k]'hp).toNat < 128
      · have hdec := decode_ascii s k hp ha
        rw [hdec] at hnx hit2 hB2
        dsimp only at hnx hit2 hB2
        clear hdec
        by_cases hc : 32 ≤ (s[k]'hp).toNat ∧ (s[k]'hp).toNat ≤ 126
        · have hok2 : okL (s.data.toList.take (k + 1)) = true := by rw [hts, okL_snoc, hok, decide_eq_true hc]; rfl
          have H1 := Lib.hid hok2
          have H2 := Lib.hid hB2
          have H3 := Lib.hid hit2
          have hc1 := hc.1
          have hc2 := hc.2
          clear hok2 hB2 hit2 hts hin hc hok hB
          generalize (s[k]'hp).toNat = c at *
          have h1 : ¬ (c : Int) < 32 := by omega
          have h2 : ¬ 126 < (c : Int) := by omega
          go_wp2
          refine ⟨⟨k + 1, by omega, H1.out, H3.out, H2.out⟩, ?_⟩
          simp only [World.iterPos, H3.out, hit]
          omega
        · have HE := Lib.hid (okL_not hin hc)
          have H2 := Lib.hid hB2
          clear hB2 hit2 hts hin hok hB
          generalize (s[k]'hp).toNat = c at *
          by_cases h1 : (c : Int) < 32
          · go_wp2_with (go_at_call 47; refine (HO.out _).mono ?_; rintro x w1 ⟨rfl, rfl⟩)
            go_ret
            exact ⟨by rw [HE.out]; rfl, H2.out⟩
          · have h2 : 126 < (c : Int) := by omega
            go_wp2_with (go_at_call 47; refine (HO.out _).mono ?_; rintro x w1 ⟨rfl, rfl⟩)
            go_ret
            exact ⟨by rw [HE.out]; rfl, H2.out⟩
      · have hge := (decode_high s k hp (by omega)).1
        have HE := Lib.hid (okL_not hin (by omega))
        have H2 := Lib.hid hB2
        clear hB2 hit2 hts hin hok hB
        generalize (Utf8.decode s k).1 = r at *
        have h2 : 126 < (r : Int) := by omega
        have h3 : ¬ (r : Int) < 32 := by omega
        go_wp2_with (go_at_call 47; refine (HO.out _).mono ?_; rintro x w1 ⟨rfl, rfl⟩)
        go_ret
        exact ⟨by rw [HE.out]; rfl, H2.out⟩
    · obtain rfl : k = s.size := by omega
      have hnx : ∀ ty, (Instr.next (.pointer (some ⟨w.heap.size, 0, none⟩)) true ty).run Tryd.prog wr = _ := fun ty => Lib.run_next_end_at wr w.heap.size s s.size ty hit hp
      rw [List.take_of_length_le (show s.data.toList.length ≤ s.size from Nat.le_refl _)] at hok
      have H1 := Lib.hid hok
      clear hok
      go_wp2
      go_ret
      exact ⟨by rw [H1.out]; rfl, hB⟩
theorem most_c (s : ByteArray) (b1 b2 : Nat) (w : World) (h1 : w.cell? ⟨b1, 0, none⟩ = some (.int .i64 64)) (h2 : w.cell? ⟨b2, 0, none⟩ = some (.int .i64 14)) :
    Calls Tryd.prog 45 #[.string s, .pointer (some ⟨b1, 0, none⟩), .pointer (some ⟨b2, 0, none⟩)] w fun x w' => x = .returned (errV (decide (s.size ≤ 64)) 14) ∧ w = w' := by
  have HU := Lib.hid (fun b W => unless_c b W)
  have e : decide (s.size ≤ 64) = decide ((s.size : Int) ≤ 64) := by rw [decide_eq_decide]; omega
  rw [e]
  clear e
  go_enter Tryd.func45, Tryd.ntmps45
  go_wp2_with (go_at_call 46; refine (HU.out _ _).mono ?_; rintro x w1 ⟨rfl, rfl⟩)
  go_ret
  exact ⟨rfl, rfl⟩
theorem atMost_c (w : World) : Calls Tryd.prog 43 #[.int .i64 64, .int .i64 14] w fun x w' => x = .returned (.func (.func 45) #[] #[.pointer (some ⟨w.heap.size, 0, none⟩), .pointer (some ⟨w.heap.size + 1, 0, none⟩)]) ∧ w' = (w.alloc (.cells #[.int .i64 64] 3)).alloc (.cells #[.int .i64 14] 24) := by
  go_enter Tryd.func43, Tryd.ntmps43
  go_wp2
  go_ret
  exact ⟨rfl, rfl⟩
/-- Is a text a word? -/
def wordOK (s : ByteArray) : Bool := decide (s.size ≤ 64) && okL s.data.toList
def wrV (a b : Bool) : Value := match a, b with
  | false, _ => fV 14
  | true, false => fV 11
  | true, true => .nilIface
set_option maxRecDepth 100000 in
set_option maxHeartbeats 2000000 in
theorem obey_c (s : ByteArray) (b b1 b2 : Nat) (w : World) (h1 : w.cell? ⟨b1, 0, none⟩ = some (.int .i64 64)) (h2 : w.cell? ⟨b2, 0, none⟩ = some (.int .i64 14))
    (k0 : w.cell? ⟨b, 0, none⟩ = some (.func (.func 45) #[] #[.pointer (some ⟨b1, 0, none⟩), .pointer (some ⟨b2, 0, none⟩)])) (k1 : w.cell? ⟨b, 1, none⟩ = some (.func (.func 44) #[] #[])) :
    Calls Tryd.prog 42 #[.string s, .slice (some ⟨b, 0, none⟩) 2 2] w fun x w' => x = .returned (wrV (decide (s.size ≤ 64)) (okL s.data.toList)) ∧ Below w.heap.size w w' := by
  have C1' := most_c s b1 b2 w h1 h2
  have C2' := printable_c s w
  cases hz : decide (s.size ≤ 64) with
  | false =>
    rw [hz, show errV false 14 = .iface 76 (.agg #[.int .i64 14]) from rfl] at C1'
    have C1 := Lib.hid C1'
    clear C1' C2' hz h1 h2 k1
    go_enter Tryd.func42, Tryd.ntmps42
    go_wp2
    refine wp_loop_rounds 3 ?_
    rw [rounds_succ]
    go_wp2_with (go_at_call 45; refine C1.out.mono ?_; rintro x w1 ⟨rfl, rfl⟩)
    go_ret
    exact ⟨rfl, Below.refl _ _⟩
  | true =>
    rw [hz, show errV true 14 = .nilIface from rfl] at C1'
    have C1 := Lib.hid C1'
    have e0 : errV false 11 = .iface 76 (.agg #[.int .i64 11]) := rfl
    have e1 : errV true 11 = .nilIface := rfl
    cases hl : okL s.data.toList
    all_goals
      rw [hl] at C2'
      first | rw [e0] at C2' | rw [e1] at C2'
      clear e0 e1
      have C2 := Lib.hid C2'
      clear C1' C2' hz hl h1 h2
      go_enter Tryd.func42, Tryd.ntmps42
      go_wp2
      refine wp_loop_rounds 3 ?_
      rw [rounds_succ]
      go_wp2_with (go_at_call 45; refine C1.out.mono ?_; rintro x w1 ⟨rfl, rfl⟩)
      rw [rounds_succ]
      go_wp2_with (go_at_call 44; refine C2.out.mono ?_; rintro x w2 ⟨rfl, hB⟩)
      first
        | (go_ret; exact ⟨rfl, hB⟩)
        | (rw [rounds_succ]; go_wp2; go_ret; exact ⟨rfl, hB⟩)
set_option maxRecDepth 100000 in
theorem wrong_c (s : ByteArray) (w : World) : Calls Tryd.prog 41 #[.string s] w fun x w' => x = .returned (wrV (decide (s.size ≤ 64)) (okL s.data.toList)) ∧ Below w.heap.size w w' := by
  have HA := Lib.hid (fun W => atMost_c W)
  have HO := Lib.hid (fun b b1 b2 W h1 h2 k0 k1 => obey_c s b b1 b2 W h1 h2 k0 k1)
  go_enter Tryd.func41, Tryd.ntmps41
  go_wp2_with fail
  refine (HA.out _).mono ?_; rintro e w1 ⟨rfl, rfl⟩
  go_wp2_with fail
  refine (HO.out (w.heap.size + 2) w.heap.size (w.heap.size + 1) _ (by go_simp) (by go_simp) (by go_simp) (by go_simp)).mono ?_; rintro e w2 ⟨rfl, hB⟩
  go_wp2
  go_ret
  exact ⟨rfl, btr (bal (bal (below_alloc _ _) _) _) hB⟩
theorem wright_c (s : ByteArray) (w : World) : Calls Tryd.prog 39 #[.string s] w fun x w' => x = .returned (.bool (wordOK s)) ∧ Below w.heap.size w w' := by
  have HW' := fun W => wrong_c s W
  unfold wordOK
  have e0 : ∀ b, wrV false b = .iface 76 (.agg #[.int .i64 14]) := fun _ => rfl
  have e1 : wrV true false = .iface 76 (.agg #[.int .i64 11]) := rfl
  have e2 : wrV true true = .nilIface := rfl
  cases h1 : decide (s.size ≤ 64) <;> cases h2 : okL s.data.toList
  all_goals
    rw [h1, h2] at HW'
    first | rw [e0] at HW' | rw [e1] at HW' | rw [e2] at HW'
    clear e0 e1 e2
    have HW := Lib.hid HW'
    clear HW' h1 h2
    go_enter Tryd.func39, Tryd.ntmps39
    go_wp2_with (go_at_call 41; refine (HW.out _).mono ?_; rintro x w1 ⟨rfl, hB⟩)
    go_ret
    exact ⟨rfl, hB⟩
end Go.Proofs.YtbkoldjblkbpeaaDoor
