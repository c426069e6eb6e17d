/- The document's own Verbs; the law's function RolesTells: it returns true. -/
import Derived.Test.YtbkoldjblkbpeaaDoorQ
namespace Go.Proofs.YtbkoldjblkbpeaaDoor
open Go.RowKit Go.Shelf
attribute [local go_sem] Oper.semAt_some

/-- The verbs up to one that a role may. -/
def vUp (r : Int) (k : Nat) : List (Fin 10) := (allV.take k).filter (mayV r)
theorem vUp_succ (r : Int) (k : Nat) (hk : k < 10) : vUp r (k + 1) = vUp r k ++ (if mayV r ⟨k, hk⟩ = true then [⟨k, hk⟩] else []) := by
  obtain ⟨h', hv⟩ := allV_at k hk
  have e : allV[k]'h' = ⟨k, hk⟩ := Fin.ext hv
  unfold vUp
  rw [List.take_succ_eq_append_getElem h', List.filter_append, e]
  congr 1
  cases h : mayV r ⟨k, hk⟩ <;> simp [h]
theorem vUp_len (r : Int) (k : Nat) : (vUp r k).length ≤ k := by
  unfold vUp
  refine Nat.le_trans (List.length_filter_le _ _) ?_
  rw [List.length_take]
  omega
theorem vUp_all (r : Int) : vUp r 10 = mayL r := by
  unfold vUp
  rw [List.take_of_length_le (by decide)]
  exact mayL_filter r
theorem mayB_at (r : Int) (k : Nat) (hk : k < 10) : mayB r ((k : Int) + 1) = mayV r ⟨k, hk⟩ := by
  unfold mayB mayV
  rw [Bool.eq_iff_iff, decide_eq_true_eq, decide_eq_true_eq]
  simp only [vInts, List.mem_map]
  constructor
  · rintro ⟨x, hx, e⟩
    have : x = ⟨k, hk⟩ := Fin.ext (by simp; omega)
    rwa [← this]
  · intro h
    exact ⟨_, h, rfl⟩

set_option maxRecDepth 100000 in
set_option maxHeartbeats 2000000 in
theorem refVerbs_c (r : Int) (w : World) : Calls Tryd.prog 20 #[.int .i64 r] w fun x w' => ∃ v, x = .returned v ∧ OwnV w.heap.size w' v (mayL r) ∧ Below w.heap.size w w' := by
  obtain ⟨i0, hi, hz0, hz1, hz2⟩ := info_parts info3
  have HT := Lib.hid (fun e W => refMay_c r e W)
  have HF := Lib.hid (vUp_all r)
  go_enter Tryd.func20, Tryd.ntmps20
  go_wp2
  go_loopw [3, 4] (fun v i wr => ∃ k : Nat, k ≤ 10 ∧ i = .int .i64 ((k : Int) + 1) ∧ OwnV w.heap.size wr v (vUp r k) ∧ Below w.heap.size w wr) (fun _ i _ => 11 - (intOf i).toNat)
  case atStart => exact ⟨0, by omega, rfl, World.ownsRow_nil _ _ _ _, Below.refl _ _⟩
  case round =>
    obtain ⟨k, hk, rfl, hown, hB⟩ := hrel
    by_cases hlt : k < 10
    · have H := HT.out ((k : Int) + 1)
      rw [mayB_at r k hlt] at H
      have hn := vUp_len r k
      have hU := vUp_succ r k hlt
      have hlt' : (k : Int) + 1 ≤ 10 := by omega
      cases hg : mayV r ⟨k, hlt⟩ with
      | false =>
        rw [hg] at H hU
        simp only [Bool.false_eq_true, if_false, List.append_nil] at hU
        have HH := Lib.hid H
        have HU := Lib.hid hU
        have HO := Lib.hid hown
        have HB := Lib.hid hB
        clear H hU hg hown hB
        go_wp2_with (go_at_call 17; refine (HH.out _).mono ?_; rintro x w1 ⟨rfl, rfl⟩)
        go_roundw
        case rel => exact ⟨k + 1, by omega, by go_num, by rw [HU.out]; exact HO.out, HB.out⟩
        case measure => simp [intOf]; omega
      | true =>
        rw [hg] at H hU
        simp only [if_true] at hU
        have HH := Lib.hid H
        have HU := Lib.hid hU
        have HO := Lib.hid hown
        have HB := Lib.hid hB
        clear H hU hg hown hB
        go_wp2_with fail
        refine (HH.out _).mono ?_
        rintro x w1 ⟨rfl, rfl⟩
        have ho1 := HO.out
        have hB1 := HB.out
        have hz := hB1.size
        unfold OwnV at ho1
        go_wp2_with (at_builtin; refine wpList_append_own _ rfl _ _ 31 rfl w.heap.size 3 i0 (.int .i64 0) 1 8 Tryd.underlying31 hi hz0 hz1 hz2 rfl (by decide) _ _ _ rfl (ho1.alloc _) ⟨wr.heap.size, 0, none⟩ 1 1 [.int .i64 ((k : Int) + 1)] rfl rfl (World.news_of_block (cs := #[.int .i64 ((k : Int) + 1)]) (t := 3) (fr := (0, 0)) (heap_alloc_new wr _)) (by simp [Value.oneCell']) (by unfold maxLen; omega) (by omega) (by simp; omega) ?_; intro v' w2 hown' hgrow _)
        go_roundw
        case rel =>
          have hv : OwnV w.heap.size w2 v' (vUp r (k + 1)) := by rw [HU.out]; unfold OwnV; rw [List.length_append]; simpa [vCells] using hown'
          exact ⟨k + 1, by omega, by go_num, hv, (bal hB1 _).grown hgrow (by simp; omega) (fun j e => (World.ownsRow.lt ho1 j e).1)⟩
        case measure => simp [intOf]; omega
    · obtain rfl : k = 10 := by omega
      rw [HF.out] at hown
      go_wp2
      go_ret
      exact ⟨_, rfl, hown, hB⟩
theorem refVerbs_i (r : Int) (l : List Int) (hl : vInts (mayL r) = l) (w : World) : Calls Tryd.prog 20 #[.int .i64 r] w fun x w' => ∃ a cap, x = .returned (.slice a l.length cap) ∧ IntsA w' a l ∧ Below w.heap.size w w' := by
  refine (refVerbs_c r w).mono ?_
  rintro e w' ⟨v, rfl, hO, hB⟩
  obtain ⟨a, cap, rfl, hA⟩ := hO.row.ints
  rw [hl] at hA ⊢
  exact ⟨a, cap, rfl, hA, hB⟩

set_option maxRecDepth 100000 in
set_option maxHeartbeats 4000000 in
theorem rolesTells_c (s0 : ByteArray) (r v : Int) (w : World) (hW : Wd w ∧ Rd w) : Calls Tryd.prog 3 #[.string s0, .int .i64 r, .int .i64 v] w fun x w' => x = .returned (.bool true) ∧ Below w.heap.size w w' := by
  have K0 := Lib.hid (shown_c w hW.1)
  have KC := Lib.hid (fun W => cut_c s0 W)
  have hcs := cut_size s0
  generalize cut100 s0 = s at *
  have hs : s.size ≤ 1000 := by omega
  have K10 := Lib.hid (fun W => role_at s (rN s) (rE s) hs rfl rfl w W)
  have K11 := Lib.hid (fun W (h : Below w.heap.size w W) => refRole_c s W (hW.2.on h))
  have K12 := Lib.hid (fun W => verb_at s (vN s) (vE s) rfl rfl w W hW.1)
  have K13 := Lib.hid (fun W (h : Below w.heap.size w W) => refVerb_c s W (hW.2.on h))
  have K14 := Lib.hid (fun W => word_at v (wW v) (wE v) rfl rfl w W hW.1)
  have K15 := Lib.hid (fun W (h : Below w.heap.size w W) => refWord_c v W (hW.2.on h))
  have K16 := Lib.hid (fun W => may_at r v (mayB r v) rfl w W)
  have K17 := Lib.hid (fun W => refMay_c r v W)
  have hlen : (vInts (mayL r)).length ≤ 1000 := by have := mayL_len r; simp [vInts]; omega
  have K19 := Lib.hid (fun W h => (verbs_i r (vInts (mayL r)) rfl W).mono (R' := fun x w' => ∃ ad cap, x = .returned (.slice ad (vInts (mayL r)).length cap) ∧ IntsA w' ad (vInts (mayL r)) ∧ Below w.heap.size w w') (fun _ _ ⟨ad, c, e, hA, hb⟩ => ⟨ad, c, e, hA, btr h hb⟩))
  have K20 := Lib.hid (fun (W : World) (a1 : Option Addr) (h : Below w.heap.size w W) (h1 : IntsA W a1 (vInts (mayL r))) => (refVerbs_i r (vInts (mayL r)) rfl W).mono (R' := fun x w' => ∃ ad cap, x = .returned (.slice ad (vInts (mayL r)).length cap) ∧ IntsA w' a1 (vInts (mayL r)) ∧ IntsA w' ad (vInts (mayL r)) ∧ Below w.heap.size w w') (fun _ _ ⟨ad, c, e, hA, hb⟩ => ⟨ad, c, e, h1.on hb, hA, btr h hb⟩))
  have K18 := Lib.hid (fun (W : World) a1 a2 c1 c2 (h : Below w.heap.size w W) (h1 : IntsA W a1 (vInts (mayL r))) h2 => (ints_c a1 a2 c1 c2 (vInts (mayL r)) (vInts (mayL r)) hlen W h1 h2).mono (R' := fun x w' => x = .returned (.bool true) ∧ Below w.heap.size w w') (fun _ _ ⟨e, hb⟩ => ⟨by rw [e]; simp, btr h hb⟩))
  have HB := Below.refl w.heap.size w
  generalize rN s = q1 at *
  generalize rE s = q2 at *
  generalize vN s = q3 at *
  generalize vE s = q4 at *
  generalize wW v = q5 at *
  generalize wE v = q6 at *
  generalize mayB r v = q7 at *
  generalize vInts (mayL r) = l at *
  clear hW hlen hcs hs
  go_enter Tryd.func3, Tryd.ntmps3
  go_wp2_with (first
      | (go_at_call 8; with_reducible refine K0.out.mono ?_; rintro e wn ⟨rfl, hB⟩)
      | (go_at_call 9; with_reducible refine (KC.out _).mono ?_; rintro e wn ⟨rfl, rfl⟩)
      | (go_at_call 10; with_reducible refine (K10.out _ (by with_reducible assumption)).mono ?_; rintro e wn ⟨rfl, hB⟩)
      | (go_at_call 11; with_reducible refine (K11.out _ (by with_reducible assumption)).mono ?_; rintro e wn ⟨rfl, rfl⟩)
      | (go_at_call 12; with_reducible refine (K12.out _ (by with_reducible assumption)).mono ?_; rintro e wn ⟨rfl, hB⟩)
      | (go_at_call 13; with_reducible refine (K13.out _ (by with_reducible assumption)).mono ?_; rintro e wn ⟨rfl, rfl⟩)
      | (go_at_call 14; with_reducible refine (K14.out _ (by with_reducible assumption)).mono ?_; rintro e wn ⟨rfl, rfl⟩)
      | (go_at_call 15; with_reducible refine (K15.out _ (by with_reducible assumption)).mono ?_; rintro e wn ⟨rfl, rfl⟩)
      | (go_at_call 16; with_reducible refine (K16.out _ (by with_reducible assumption)).mono ?_; rintro e wn ⟨rfl, hB⟩)
      | (go_at_call 17; with_reducible refine (K17.out _).mono ?_; rintro e wn ⟨rfl, rfl⟩)
      | (go_at_call 19; with_reducible refine (K19.out _ (by with_reducible assumption)).mono ?_; rintro e wn ⟨a1, c1, rfl, hA, hB⟩)
      | (go_at_call 20; with_reducible refine (K20.out _ _ (by with_reducible assumption) (by with_reducible assumption)).mono ?_; rintro e wn ⟨a2, c2, rfl, hA1, hA2, hB⟩)
      | (go_at_call 18; with_reducible refine (K18.out _ _ _ _ _ (by with_reducible assumption) (by with_reducible assumption) (by with_reducible assumption)).mono ?_; rintro e wn ⟨rfl, hB⟩))
  go_ret
  exact ⟨rfl, by assumption⟩
end Go.Proofs.YtbkoldjblkbpeaaDoor
