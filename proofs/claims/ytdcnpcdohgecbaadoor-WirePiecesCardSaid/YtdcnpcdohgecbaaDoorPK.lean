/- The document's own Same, All. -/
import Derived.Test.YtdcnpcdohgecbaaDoorPJ
import Derived.Maps.AppendAt
namespace Go.Proofs.YtdcnpcdohgecbaaDoor
open Go.RowKit Go.Shelf
attribute [local go_sem] Oper.semAt_some

set_option maxRecDepth 100000 in
set_option maxHeartbeats 8000000 in
theorem rSame_c (a b : Option Addr) (c1 c2 : Nat) (l : List FrT) (hlen : (l.length : Int) ≤ 9223372036854775807) (w : World) (hA : FramesAt w.heap.size w a l) (hB : FramesAt w.heap.size w b l) : Calls Tryd.prog 25 #[.slice a l.length c1, .slice b l.length c2] w fun x w' => x = .returned (.bool true) ∧ Below w.heap.size w w' := by
  have HA := Lib.hid hA
  have HB := Lib.hid hB
  clear hA hB
  generalize hL : l.length = L at *
  go_enter Tryd.func25, Tryd.ntmps25
  go_wp2
  go_loopw [5] (fun i wr => ∃ k : Nat, k ≤ L ∧ i = .int .i64 (k : Int) ∧ Below w.heap.size w wr) (fun i _ => L - (intOf i).toNat)
  case atStart => exact ⟨0, by omega, rfl, Below.refl _ _⟩
  case round =>
    obtain ⟨k, hk, rfl, hbl⟩ := hrel
    by_cases hlt : k < L
    · have hkl : k < l.length := by omega
      obtain ⟨b1, o1, rfl, hb1, c0, c1', c2'⟩ := (HA.out.below hbl) k hkl
      obtain ⟨b2, o2, rfl, hb2, d0, d1, d2⟩ := (HB.out.below hbl) k hkl
      have hlt' : (k : Int) < (L : Int) := by omega
      have HBl := Lib.hid hbl
      clear hbl
      generalize l[k].1 = K at *
      generalize l[k].2.1 = ST at *
      generalize l[k].2.2 = DD at *
      go_wp2_with fail
      refine wp_region_held_drew (S := fun w' => w' = wr.drew) (by kernel_rfl) rfl (fun hHeld => ?_)
      refine takeH (i := 0) (some 17) (v := ?_) rfl rfl (by kernel_rfl) (by kernel_rfl) (by kernel_rfl) (fun _ _ _ h => h) (Or.inl ⟨by rfl, ?hys0⟩) hHeld ?rests0
      case hys0 => (intro w hSw; subst hSw; go_simp; (try with_reducible rfl))
      try simp only [Act.put, List.setIfInBounds_toArray, List.set_cons_zero, List.set_cons_succ]
      refine takeH (i := 1) (some 18) (v := ?_) rfl rfl (by kernel_rfl) (by kernel_rfl) (by kernel_rfl) (fun _ _ _ h => h) (Or.inl ⟨by rfl, ?hys1⟩) hHeld ?rests1
      case hys1 => (intro w hSw; subst hSw; go_simp; (try with_reducible rfl))
      try simp only [Act.put, List.setIfInBounds_toArray, List.set_cons_zero, List.set_cons_succ]
      refine takeH (i := 2) (some 19) (v := ?_) rfl rfl (by kernel_rfl) (by kernel_rfl) (by kernel_rfl) (fun _ _ _ h => h) (Or.inl ⟨by rfl, ?hys2⟩) hHeld ?rests2
      case hys2 => (intro w hSw; subst hSw; go_simp; (try with_reducible rfl))
      try simp only [Act.put, List.setIfInBounds_toArray, List.set_cons_zero, List.set_cons_succ]
      refine takeH (i := 3) (some 20) (v := ?_) rfl rfl (by kernel_rfl) (by kernel_rfl) (by kernel_rfl) (fun _ _ _ h => h) (Or.inl ⟨by rfl, ?hys3⟩) hHeld ?rests3
      case hys3 => (intro w hSw; subst hSw; go_simp; (try with_reducible rfl))
      try simp only [Act.put, List.setIfInBounds_toArray, List.set_cons_zero, List.set_cons_succ]
      refine takeH (i := 4) (some 21) (v := ?_) rfl rfl (by kernel_rfl) (by kernel_rfl) (by kernel_rfl) (fun _ _ _ h => h) (Or.inl ⟨by rfl, ?hys4⟩) hHeld ?rests4
      case hys4 => (intro w hSw; subst hSw; go_simp; (try with_reducible rfl))
      try simp only [Act.put, List.setIfInBounds_toArray, List.set_cons_zero, List.set_cons_succ]
      refine takeH (i := 5) (some 22) (v := ?_) rfl rfl (by kernel_rfl) (by kernel_rfl) (by kernel_rfl) (fun _ _ _ h => h) (Or.inl ⟨by rfl, ?hys5⟩) hHeld ?rests5
      case hys5 => (intro w hSw; subst hSw; go_simp; (try with_reducible rfl))
      try simp only [Act.put, List.setIfInBounds_toArray, List.set_cons_zero, List.set_cons_succ]
      refine takeH (i := 6) (some 23) (v := ?_) rfl rfl (by kernel_rfl) (by kernel_rfl) (by kernel_rfl) (fun _ _ _ h => h) (Or.inl ⟨by rfl, ?hys6⟩) hHeld ?rests6
      case hys6 => (intro w hSw; subst hSw; go_simp; (try with_reducible rfl))
      try simp only [Act.put, List.setIfInBounds_toArray, List.set_cons_zero, List.set_cons_succ]
      refine takeH (i := 7) (some 24) (v := ?_) rfl rfl (by kernel_rfl) (by kernel_rfl) (by kernel_rfl) (fun _ _ _ h => h) (Or.inl ⟨by rfl, ?hys7⟩) hHeld ?rests7
      case hys7 => (intro w hSw; subst hSw; go_simp; (try with_reducible rfl))
      try simp only [Act.put, List.setIfInBounds_toArray, List.set_cons_zero, List.set_cons_succ]
      refine takeH (i := 8) (some 25) (v := ?_) rfl rfl (by kernel_rfl) (by kernel_rfl) (by kernel_rfl) (fun _ _ _ h => h) (Or.inl ⟨by rfl, ?hys8⟩) hHeld ?rests8
      case hys8 => (intro w hSw; subst hSw; go_simp; (try with_reducible rfl))
      try simp only [Act.put, List.setIfInBounds_toArray, List.set_cons_zero, List.set_cons_succ]
      refine wpAnyH_done (by kernel_rfl) ?_ _
      clear hHeld
      go_wp2
      go_roundw
      case rel => exact ⟨k + 1, by omega, by go_num, below_drew HBl.out⟩
      case measure => simp [intOf]; omega
    · have hlt' : ¬ (k : Int) < (L : Int) := by omega
      have HBl := Lib.hid hbl
      clear hbl
      go_wp2
      go_ret
      exact ⟨rfl, HBl.out⟩
/-- The box of the frame at hand. -/
structure BoxF (s : ByteArray) (B : Nat) (a : Int) (W : World) : Prop where
  c0 : W.cell? ⟨B, 0, none⟩ = some (.int .i64 (tkK s a))
  c1 : W.cell? ⟨B, 1, none⟩ = some (.int .i64 (tkS s a))
  c2 : W.cell? ⟨B, 2, none⟩ = some (.string (tkD s a))
  f0 : W.frozen? ⟨B, 0, none⟩ = false
  f1 : W.frozen? ⟨B, 1, none⟩ = false
  f2 : W.frozen? ⟨B, 2, none⟩ = false
theorem BoxF.blk {s : ByteArray} {B : Nat} {a : Int} {W W' : World} (h : BoxF s B a W) (e : W'.heap[B]? = W.heap[B]?) : BoxF s B a W' :=
  ⟨(World.cell?_of_block (w := W) e).trans h.c0, (World.cell?_of_block (w := W) e).trans h.c1, (World.cell?_of_block (w := W) e).trans h.c2, (World.frozen?_of_block (w := W) e).trans h.f0, (World.frozen?_of_block (w := W) e).trans h.f1, (World.frozen?_of_block (w := W) e).trans h.f2⟩
theorem BoxF.on {s : ByteArray} {B : Nat} {a : Int} {W W' : World} (h : BoxF s B a W) (hb : Below W.heap.size W W') : BoxF s B a W' := h.blk (hb.block B (blt h.c0))
theorem Chain.ofNat {s : ByteArray} {pre : List Int} {a : Int} (h : Chain s pre a) : ∃ n : Nat, a = n ∧ n ≤ s.size := ⟨a.toNat, by have := h.range; omega, by have := h.range; omega⟩
set_option maxRecDepth 100000 in
set_option maxHeartbeats 8000000 in
theorem rAll0_c (s : ByteArray) (hs : (s.size : Int) ≤ 2000) (w : World) : Calls Tryd.prog 24 #[.string s] w fun x w' => ∃ (pre : List Int) (a : Int) (v : Value), x = .returned (.tuple #[v, .int .i64 a, .int .i64 (if tkE s a = 30 then 0 else tkE s a)]) ∧ Chain s pre a ∧ ¬ tkE s a = 0 ∧ w'.ownsRow w.heap.size 23 3 v pre.length (frCells s pre) ∧ Below w.heap.size w w' := by
  obtain ⟨i0, hi, hz0, hz1, hz2⟩ := info_parts infoFrame
  have HT := Lib.hid (fun a W => rTake_c s a (by omega) W)
  go_enter Tryd.func24, Tryd.ntmps24
  go_wp2_with (refine (HT.out 0 _).mono ?_; rintro e w1 ⟨rfl, hb1⟩)
  have g0 : BoxF s w1.heap.size 0 (w1.alloc (.cells #[.int .i64 (tkK s 0), .int .i64 (tkS s 0), .string (tkD s 0)] 23)) := ⟨by go_simp, by go_simp, by go_simp, by go_simp, by go_simp, by go_simp⟩
  have hbU := bal hb1 (.cells #[.int .i64 (tkK s 0), .int .i64 (tkS s 0), .string (tkD s 0)] 23)
  have hzB : w.heap.size ≤ w1.heap.size := hb1.size
  generalize (w1.alloc (.cells #[.int .i64 (tkK s 0), .int .i64 (tkS s 0), .string (tkD s 0)] 23)) = U at *
  generalize w1.heap.size = B at *
  clear hb1
  go_loopw [5, 6, 8, 9] (fun v at_ nx e wr => ∃ (pre : List Int) (a : Int), Chain s pre a ∧ at_ = .int .i64 a ∧ nx = .int .i64 (tkN s a) ∧ e = .int .i64 (tkE s a) ∧ BoxF s B a wr ∧ (∀ g, v.ownBlock = some g → g ≠ B) ∧ wr.ownsRow w.heap.size 23 3 v pre.length (frCells s pre) ∧ Below w.heap.size w wr) (fun _ i _ _ _ => s.size + 1 - (intOf i).toNat)
  case atStart => exact ⟨[], 0, .nil, rfl, rfl, rfl, g0, (fun g h => by cases h), World.ownsRow_nil _ _ _ _, hbU⟩
  case round =>
    clear g0 hbU
    obtain ⟨pre, a, hc, rfl, rfl, rfl, hg, hgb, ho, hb⟩ := hrel
    have hlong := hc.long
    have hrng := hc.range
    obtain ⟨ao, cp, rfl⟩ := own_form ho
    obtain ⟨c0, c1, c2, f0, f1, f2⟩ := id hg
    have hBr : B < wr.heap.size := blt c0
    by_cases hz : tkE s a = 0
    · have HC := Lib.hid (And.intro hc (And.intro hz (And.intro (tkN_more hz) (Chain.snoc hc hz).range)))
      have HO := Lib.hid ho
      have HB := Lib.hid hb
      have hwr := hb.size
      have HG := Lib.hid hg
      clear hc ho hb hg
      rw [hz]
      go_wp2_with (at_builtin; refine wpList_append_own_at _ rfl _ _ 25 rfl w.heap.size 23 i0 (.agg #[.int .i64 0, .int .i64 0, .string ⟨#[]⟩]) 3 32 Tryd.underlying25 hi hz0 hz1 hz2 rfl (by decide) _ _ _ rfl (HO.out.alloc _) ⟨wr.heap.size, 0, none⟩ 1 1 [.int .i64 (tkK s a), .int .i64 (tkS s a), .string (tkD s a)] rfl rfl (World.news_of_block (cs := #[.int .i64 (tkK s a), .int .i64 (tkS s a), .string (tkD s a)]) (t := 23) (fr := (0, 0)) (heap_alloc_new wr _)) (by simp [Value.oneCell']) (by unfold maxLen; omega) (by omega) (by simp; omega) ?_; intro v' w2 hown' hgrow hnn hat)
      have hg2 : BoxF s B a w2 := (HG.out.on (below_alloc _ _)).blk (hgrow.block B (by simp; omega) (fun e => hgb B e.symm rfl))
      have hb2 : Below w.heap.size w w2 := (bal HB.out _).grown hgrow (by simp; omega) (fun j hj => (World.ownsRow.lt HO.out j hj).1)
      have hgb2 : ∀ g, v'.ownBlock = some g → g ≠ B := fun g h => by
        rcases hat with e | e
        · exact hgb g (e.symm.trans h)
        · rw [h] at e; cases e; simp; omega
      have HO2 := Lib.hid hown'
      clear hown' hgrow hnn hat HG HO HB hgb
      refine (HT.out _ _).mono ?_; rintro e w3 ⟨rfl, hb3⟩
      have hg3 := hg2.on hb3
      have HB3 := Lib.hid (btr hb2 hb3)
      have HO3 := Lib.hid (show w3.ownsRow w.heap.size 23 3 v' _ _ from (Goes.of_below (Pv := fun _ => False) hb3).ownsRow HO2.out (fun _ _ h => h))
      obtain ⟨d0, d1, d2, e0, e1, e2⟩ := id hg3
      clear hg2 hb2 hb3 HO2 hg3
      go_wp2
      go_roundw
      case rel =>
        obtain ⟨hc, hz', _⟩ := HC.out
        refine ⟨pre ++ [a], tkN s a, .snoc hc hz', rfl, rfl, rfl, ⟨by go_simp, by go_simp, by go_simp, by go_simp, by go_simp, by go_simp⟩, hgb2, ?_, ?_⟩
        · have hnB : ∀ i v (W : World), W.ownsRow w.heap.size 23 3 v' (pre.length + 1) (frCells s pre ++ [.int .i64 (tkK s a), .int .i64 (tkS s a), .string (tkD s a)]) → (W.setCell ⟨B, i, none⟩ v).ownsRow w.heap.size 23 3 v' (pre.length + 1) (frCells s pre ++ [.int .i64 (tkK s a), .int .i64 (tkS s a), .string (tkD s a)]) := fun i v W h =>
            h.kept (row := some B) ⟨rfl, rfl, rfl, (KeepsWalks.setCell W _ v).size, fun k _ hk => Below.heap_setCell _ _ _ k (fun e => hk (by rw [e]))⟩ (.inr (fun e => hgb2 B e rfl))
          rw [frCells_append, List.length_append]
          exact hnB _ _ _ (hnB _ _ _ (hnB _ _ _ HO3.out))
        · exact ((HB3.out.setCell (p := ⟨B, 0, none⟩) hzB _).setCell (p := ⟨B, 1, none⟩) hzB _).setCell (p := ⟨B, 2, none⟩) hzB _
      case measure => have := HC.out; simp [intOf]; omega
    · have HC := Lib.hid (And.intro hc (And.intro hz (And.intro ho hb)))
      have hz' : (tkE s a == 0) = false := by simpa using hz
      clear hc ho hb hg
      by_cases h30 : tkE s a = 30
      · have e30 : (if tkE s a = 30 then 0 else tkE s a) = (0 : Int) := if_pos h30
        have HE := Lib.hid e30
        clear e30
        generalize (if tkE s a = 30 then 0 else tkE s a) = EE at *
        go_wp2
        go_ret3
        obtain ⟨hc, hz, ho, hb⟩ := HC.out
        exact ⟨pre, a, _, by rw [if_pos h30]; rfl, hc, hz, ho, hb⟩
      · have h30' : (tkE s a == 30) = false := by simpa using h30
        go_wp2
        go_ret3
        obtain ⟨hc, hz, ho, hb⟩ := HC.out
        exact ⟨pre, a, _, by rw [if_neg h30]; rfl, hc, hz, ho, hb⟩
theorem rAll_c (s : ByteArray) (hs : (s.size : Int) ≤ 2000) (fs : List FrT) (r : List UInt8) (hA : AllS s.data.toList fs r) (w : World) : Calls Tryd.prog 24 #[.string s] w fun x w' => ∃ v : Value, x = .returned (.tuple #[v, .int .i64 ((encs fs).length : Int), .int .i64 (errOf r)]) ∧ w'.ownsRow w.heap.size 23 3 v fs.length (fCells fs) ∧ Below w.heap.size w w' := by
  refine (rAll0_c s hs w).mono ?_
  rintro x w' ⟨pre, a, v, rfl, hc, hn, ho, hb⟩
  obtain ⟨a1, a2, a3⟩ := hc.alls hn
  obtain ⟨e1, e2⟩ := AllS.uniq _ _ a1 hA
  refine ⟨v, ?_, ?_, hb⟩
  · have ha : a = ((encs fs).length : Int) := by rw [a3, e1]
    rw [a2, e2, ha]
    rfl
  · rw [frCells_is, e1] at ho
    have : pre.length = fs.length := by rw [← e1]; simp
    rw [this] at ho
    exact ho
end Go.Proofs.YtdcnpcdohgecbaaDoor
