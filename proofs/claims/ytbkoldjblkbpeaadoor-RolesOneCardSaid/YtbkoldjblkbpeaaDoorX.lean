/- The document's own Find; the law's functions RolesFinds and RolesOne: each returns true. -/
import Derived.Test.YtbkoldjblkbpeaaDoorW
namespace Go.Proofs.YtbkoldjblkbpeaaDoor
open Go.RowKit Go.Shelf
attribute [local go_sem] Oper.semAt_some

set_option maxRecDepth 100000 in
set_option maxHeartbeats 4000000 in
theorem refFind_c (a : Option Addr) (cap : Nat) (zs : List Opr) (s : ByteArray) (hlen : zs.length ≤ 1000) (w : World) (hI : OprsAt w.heap.size w a zs) :
    Calls Tryd.prog 23 #[.slice a zs.length cap, .string s] w fun x w' => x = .returned (.tuple #[.int .i64 (fndN zs s), .int .i64 (fndE zs s)]) ∧ Below w.heap.size w w' := by
  have HI := Lib.hid hI
  have HR := Lib.hid (fun W (h : OprsAt W.heap.size W a zs) => refRight_c a cap zs hlen W h)
  have HW := Lib.hid (fun h => fnd_wrong (l := zs) (s := s) h)
  have HM := Lib.hid (fun h => fnd_miss (l := zs) (s := s) h)
  have HH := Lib.hid (fun x hr hx hs => fnd_hit (l := zs) (s := s) (x := x) hr hx hs)
  clear hI
  generalize fndN zs s = fN at *
  generalize fndE zs s = fE at *
  generalize hL : zs.length = L at *
  go_enter Tryd.func23, Tryd.ntmps23
  go_wp2_with fail
  go_loopw [6] (fun i wr => ∃ k : Nat, k ≤ L ∧ i = .int .i64 (k : Int) ∧ (∀ x ∈ zs.take k, x.n ≠ s) ∧ Below w.heap.size w wr) (fun i _ => L - (intOf i).toNat)
  case atStart => exact ⟨0, Nat.zero_le _, rfl, by simp, Below.refl _ _⟩
  case round =>
    obtain ⟨k, hk, rfl, hno, hB⟩ := hrel
    have hIr : OprsAt wr.heap.size wr a zs := fun i hi => by
      obtain ⟨b, off, e, hb, h1, h2⟩ := (HI.out.below hB) i hi
      exact ⟨b, off, e, Nat.lt_of_lt_of_le hb hB.size, h1, h2⟩
    have C := HR.out wr hIr
    have HNo := Lib.hid hno
    have HB := Lib.hid hB
    have HIr := Lib.hid hIr
    clear hno hB hIr
    by_cases hlt : k < L
    · have hkl : k < zs.length := by omega
      have hlt' : (k : Int) < (L : Int) := by omega
      cases hrb : rightB zs with
      | false =>
        obtain ⟨rfl, rfl⟩ := HW.out hrb
        rw [hrb] at C
        have HC := Lib.hid C
        clear C hrb
        go_wp2_with (go_at_call 25; refine HC.out.mono ?_; rintro e w1 ⟨rfl, hB1⟩)
        go_ret2
        exact ⟨rfl, btr HB.out hB1⟩
      | true =>
        have HHk := Lib.hid (HH.out (zs[k]'hkl) hrb (List.getElem_mem hkl))
        have hT := take_snoc zs k hkl
        rw [hrb] at C
        have HC := Lib.hid C
        obtain ⟨b, off, rfl, hb, p0, p1⟩ := HIr.out k hkl
        have HT := Lib.hid hT
        generalize zs[k] = y at *
        clear C hrb hT
        by_cases hys : y.n = s
        · obtain ⟨rfl, rfl⟩ := HHk.out hys
          rw [hys] at p0
          have P0 := Lib.hid p0
          have P1 := Lib.hid p1
          clear hys p0 p1
          go_wp2_with (go_at_call 25; refine HC.out.mono ?_; rintro e w1 ⟨rfl, hB1⟩; have q0 := (hB1.cell (p := ⟨b, off + k * 2, none⟩) hb).trans P0.out; have q1 := (hB1.cell (p := ⟨b, off + k * 2 + 1, none⟩) hb).trans P1.out; have HBo := Lib.hid (btr HB.out hB1); clear hB1)
          go_ret2
          exact ⟨rfl, HBo.out⟩
        · have hne := toList_ne hys
          have P0 := Lib.hid p0
          clear p0 p1
          go_wp2_with (go_at_call 25; refine HC.out.mono ?_; rintro e w1 ⟨rfl, hB1⟩; have q0 := (hB1.cell (p := ⟨b, off + k * 2, none⟩) hb).trans P0.out; have HBo := Lib.hid (btr HB.out hB1); clear hB1)
          go_roundw
          case rel => exact ⟨k + 1, by omega, by go_num, by
            rw [HT.out]
            intro x hx
            rcases List.mem_append.1 hx with h | h
            · exact HNo.out x h
            · obtain rfl := List.mem_singleton.1 h
              exact hys, HBo.out⟩
          case measure => simp [intOf]; omega
    · obtain rfl : k = L := by omega
      obtain ⟨rfl, rfl⟩ := HM.out (by have := HNo.out; rwa [List.take_of_length_le (by omega)] at this)
      clear C
      go_wp2_with fail
      go_ret2
      exact ⟨rfl, HB.out⟩

theorem oprs_on {w W : World} {a : Option Addr} {l : List Opr} (h : OprsAt w.heap.size w a l) (k : Below w.heap.size w W) : OprsAt W.heap.size W a l := fun i hi => by
  obtain ⟨b, off, e, hb, h1, h2⟩ := (h.below k) i hi
  exact ⟨b, off, e, Nat.lt_of_lt_of_le hb k.size, h1, h2⟩
/-- Few, as a slice of operators. -/
theorem few_i (a : Option Addr) (cap : Nat) (l : List (ByteArray × Int)) (w W : World) (hR : RawAt w.heap.size w a l) (h : Below w.heap.size w W) :
    Calls Tryd.prog 21 #[.slice a l.length cap] W fun x w' => ∃ a' c', x = .returned (.slice a' (fewOf l).length c') ∧ OprsAt w'.heap.size w' a' (fewOf l) ∧ Below w.heap.size w w' := by
  have hR' : RawAt W.heap.size W a l := fun i hi => by
    obtain ⟨b, off, e, hb, h1, h2⟩ := (hR.below h) i hi
    exact ⟨b, off, e, Nat.lt_of_lt_of_le hb h.size, h1, h2⟩
  refine (few_c a cap l W hR').mono ?_
  rintro e w' ⟨v, rfl, hO, hB⟩
  obtain ⟨a', c', rfl, hA⟩ := hO.form
  exact ⟨a', c', rfl, hA, btr h hB⟩

set_option maxRecDepth 100000 in
set_option maxHeartbeats 4000000 in
theorem rolesFinds_c (a : Option Addr) (cap : Nat) (raw : List (ByteArray × Int)) (s0 : ByteArray) (w : World) (hW : Wd w) (hR : RawAt w.heap.size w a raw) :
    Calls Tryd.prog 4 #[.slice a raw.length cap, .string s0] w fun x w' => x = .returned (.bool true) ∧ Below w.heap.size w w' := by
  have K0 := Lib.hid (shown_c w hW)
  have KC := Lib.hid (fun W => cut_c s0 W)
  have KF := Lib.hid (fun W h => few_i a cap raw w W hR h)
  have hlen : (fewOf raw).length ≤ 1000 := by have := fewOf_len raw; omega
  generalize cut100 s0 = s at *
  generalize fewOf raw = l at *
  have K22 := Lib.hid (show ∀ (W : World) a' c', Below w.heap.size w W → OprsAt W.heap.size W a' l → Calls Tryd.prog 22 #[.slice a' l.length c', .string s] W fun x w' => x = .returned (.tuple #[.int .i64 (fndN l s), .int .i64 (fndE l s)]) ∧ OprsAt w'.heap.size w' a' l ∧ Below w.heap.size w w' from fun W a' c' h hO =>
    (find_c a' c' l s hlen W hO).mono (fun _ _ ⟨e, hb⟩ => ⟨e, oprs_on hO hb, btr h hb⟩))
  have K23 := Lib.hid (show ∀ (W : World) a' c', Below w.heap.size w W → OprsAt W.heap.size W a' l → Calls Tryd.prog 23 #[.slice a' l.length c', .string s] W fun x w' => x = .returned (.tuple #[.int .i64 (fndN l s), .int .i64 (fndE l s)]) ∧ OprsAt w'.heap.size w' a' l ∧ Below w.heap.size w w' from fun W a' c' h hO =>
    (refFind_c a' c' l s hlen W hO).mono (fun _ _ ⟨e, hb⟩ => ⟨e, oprs_on hO hb, btr h hb⟩))
  have K24 := Lib.hid (show ∀ (W : World) a' c', Below w.heap.size w W → OprsAt W.heap.size W a' l → Calls Tryd.prog 24 #[.slice a' l.length c'] W fun x w' => x = .returned (.bool (rightB l)) ∧ OprsAt w'.heap.size w' a' l ∧ Below w.heap.size w w' from fun W a' c' h hO =>
    (right_c a' c' l hlen W hO).mono (fun _ _ ⟨e, hb⟩ => ⟨e, oprs_on hO hb, btr h hb⟩))
  have K25 := Lib.hid (show ∀ (W : World) a' c', Below w.heap.size w W → OprsAt W.heap.size W a' l → Calls Tryd.prog 25 #[.slice a' l.length c'] W fun x w' => x = .returned (.bool (rightB l)) ∧ OprsAt w'.heap.size w' a' l ∧ Below w.heap.size w w' from fun W a' c' h hO =>
    (refRight_c a' c' l hlen W hO).mono (fun _ _ ⟨e, hb⟩ => ⟨e, oprs_on hO hb, btr h hb⟩))
  have HB := Below.refl w.heap.size w
  generalize fndN l s = q1 at *
  generalize fndE l s = q2 at *
  generalize rightB l = q3 at *
  clear hW hlen hR
  go_enter Tryd.func4, Tryd.ntmps4
  go_wp2_with (first
      | (go_at_call 8; with_reducible refine K0.out.mono ?_; rintro e wn ⟨rfl, hB⟩)
      | (go_at_call 9; with_reducible refine (KC.out _).mono ?_; rintro e wn ⟨rfl, rfl⟩)
      | (go_at_call 21; with_reducible refine (KF.out _ (by with_reducible assumption)).mono ?_; rintro e wn ⟨a', c', rfl, hO, hB⟩)
      | (go_at_call 22; with_reducible refine (K22.out _ _ _ (by with_reducible assumption) (by with_reducible assumption)).mono ?_; rintro e wn ⟨rfl, hO, hB⟩)
      | (go_at_call 23; with_reducible refine (K23.out _ _ _ (by with_reducible assumption) (by with_reducible assumption)).mono ?_; rintro e wn ⟨rfl, hO, hB⟩)
      | (go_at_call 24; with_reducible refine (K24.out _ _ _ (by with_reducible assumption) (by with_reducible assumption)).mono ?_; rintro e wn ⟨rfl, hO, hB⟩)
      | (go_at_call 25; with_reducible refine (K25.out _ _ _ (by with_reducible assumption) (by with_reducible assumption)).mono ?_; rintro e wn ⟨rfl, hO, hB⟩))
  go_ret
  exact ⟨rfl, by assumption⟩
end Go.Proofs.YtbkoldjblkbpeaaDoor
