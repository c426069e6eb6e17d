/- Ta, Tb -/
import Derived.Test.YtgceecfjammnaaaDoorZ8
set_option linter.unusedVariables false
set_option linter.unusedSimpArgs false
/- The document's comparison of texts; items, cut. (Written by hand: no generator.) -/
namespace Go.Proofs.YtgceecfjammnaaaDoor.L16
open Go.RowKit Go.Shelf
attribute [local go_sem] Oper.semAt_some
set_option linter.unusedSimpArgs false
set_option linter.unusedVariables false
set_option maxRecDepth 100000 in
set_option maxHeartbeats 4000000 in
theorem rSame_c (a b : Option Addr) (c d : Nat) (xs ys : List ByteArray) (w : World) (hx : xs.length ≤ 100000) (hy : ys.length ≤ 100000) (hA : StrsAt w.heap.size w a xs) (hB : StrsAt w.heap.size w b ys) :
    Calls Tryd.prog 22 #[.slice a xs.length c, .slice b ys.length d] w fun e w' => e = .returned (.bool (decide (xs = ys))) ∧ Below w.heap.size w w' := by
  by_cases hl : xs.length = ys.length
  · have HA := Lib.hid hA
    have HB := Lib.hid hB
    have HL := Lib.hid hl
    clear hA hB
    rw [← hl]
    clear hl hy
    obtain ⟨N, hN⟩ : ∃ N, xs.length = N := ⟨_, rfl⟩
    have HN := Lib.hid hN
    rw [hN] at hx ⊢
    clear hN
    go_enter Tryd.func22, Tryd.ntmps22
    go_wp2
    go_loopw [5] (fun i wr => Hid (Below w.heap.size w wr) ∧ ∃ k : Nat, k ≤ N ∧ i = .int .i64 (k : Int) ∧ Hid (xs.take k = ys.take k)) (fun i _ => N - (intOf i).toNat)
    case atStart => exact ⟨Lib.hid (Below.refl _ _), 0, Nat.zero_le _, rfl, Lib.hid rfl⟩
    case round =>
      obtain ⟨HW, k, hk, rfl, HT⟩ := hrel
      by_cases hlt : k < N
      · have hkx : k < xs.length := by have := HN.out; omega
        have hky : k < ys.length := by have := HN.out; have := HL.out; omega
        obtain ⟨b1, o1, rfl, _, p1⟩ := (HA.out.below HW.out) k hkx
        obtain ⟨b2, o2, rfl, _, p2⟩ := (HB.out.below HW.out) k hky
        have hlt' : (k : Int) < (N : Int) := by omega
        have HS := Lib.hid (And.intro (List.take_succ_eq_append_getElem (l := xs) hkx) (List.take_succ_eq_append_getElem (l := ys) hky))
        have HG := Lib.hid (show xs[k] ≠ ys[k] → xs ≠ ys from fun h e => h (by subst e; rfl))
        generalize xs[k] = x at *
        generalize ys[k] = y at *
        by_cases hxy : x = y
        · subst hxy
          go_wp2
          go_quiet (fail)
          go_wp2
          go_roundw
          case rel => exact ⟨Lib.hid (below_drewN HW.out _), k + 1, by omega, by go_num, Lib.hid (by rw [HS.out.1, HS.out.2, HT.out])⟩
          case measure => simp [intOf]; omega
        · have HF := Lib.hid (HG.out hxy)
          have hxp : ¬ x.toList = y.toList := fun e => hxy (toList_inj e)
          have hxl : (x.toList == y.toList) = false := by rw [beq_eq_false_iff_ne]; intro e; exact hxy (toList_inj e)
          go_wp2
          go_quiet (fail)
          go_wp2
          go_ret
          exact ⟨ret_bool (decide_eq_false HF.out).symm, below_drewN HW.out _⟩
      · obtain rfl : k = N := by omega
        have he : xs = ys := by
          have h1 := List.take_of_length_le (l := xs) (i := k) (by have := HN.out; omega)
          have h2 := List.take_of_length_le (l := ys) (i := k) (by have := HN.out; have := HL.out; omega)
          rw [← h1, HT.out, h2]
        have hlt' : ¬ (k : Int) < (k : Int) := by omega
        have HF := Lib.hid he
        clear he
        go_wp2
        go_ret
        exact ⟨ret_bool (decide_eq_true HF.out).symm, HW.out⟩
  · have hne : xs ≠ ys := fun e => hl (by rw [e])
    rw [decide_eq_false hne]
    clear hA hB hne
    generalize xs.length = N at *
    generalize ys.length = M at *
    have hl' : ¬ (N : Int) = (M : Int) := by omega
    have hl2 : (((N : Int) == (M : Int)) = false) := by simpa using hl'
    go_enter Tryd.func22, Tryd.ntmps22
    go_wp2
    go_ret
    exact ⟨rfl, Below.refl _ _⟩
/-- Cut at sixty-five bytes; the first sixty-six. -/
def cut65 (s : ByteArray) : ByteArray := s.extract 0 (min (s.size : Int) 65).toNat
theorem cut65_size (s : ByteArray) : (cut65 s).size ≤ 65 := by unfold cut65; rw [ByteArray.size_extract]; omega
def itemsL (l : List ByteArray) : List ByteArray := (l.take 66).map cut65
theorem itemsL_len (l : List ByteArray) : (itemsL l).length ≤ 66 := by unfold itemsL; rw [List.length_map, List.length_take]; omega
theorem itemsL_size (l : List ByteArray) : ∀ s ∈ itemsL l, s.size ≤ 65 := by
  intro s hs
  unfold itemsL at hs
  obtain ⟨x, _, rfl⟩ := List.mem_map.1 hs
  exact cut65_size x
theorem strVs_snoc (l : List ByteArray) (s : ByteArray) : strVs (l ++ [s]) = strVs l ++ [.string s] := by simp [strVs]
set_option maxRecDepth 100000 in
set_option maxHeartbeats 4000000 in
theorem Items_c (a : Option Addr) (cap : Nat) (l : List ByteArray) (hs : l.length ≤ 9223372036854775807) (hss : ∀ s ∈ l, s.size ≤ 9223372036854775807) (w : World) (hA : StrsAt w.heap.size w a l) :
    Calls Tryd.prog 11 #[.slice a l.length cap] w fun y w' => ∃ v d, y = .returned (.slice v (itemsL l).length d) ∧ OwnS w.heap.size w' (.slice v (itemsL l).length d) (itemsL l) ∧ Below w.heap.size w w' := by
  have HA := Lib.hid hA
  have HSS := Lib.hid hss
  obtain ⟨i0, hi0, hz0, hz1, hz2⟩ := info_parts info9
  clear hA hss
  go_enter Tryd.func11, Tryd.ntmps11
  go_wp2
  go_loopw [3, 4] (fun v i wr => ∃ k : Nat, k ≤ l.length ∧ k ≤ 66 ∧ i = .int .i64 (k : Int) ∧ wr.ownsRow w.heap.size 9 1 v k (strVs ((l.take k).map cut65)) ∧ Below w.heap.size w wr) (fun _ i _ => 66 - (intOf i).toNat)
  case atStart => exact ⟨0, Nat.zero_le _, Nat.zero_le _, rfl, World.ownsRow_nil _ _ _ _, Below.refl _ _⟩
  case round =>
    obtain ⟨k, hk, hk6, rfl, hO, hb⟩ := hrel
    have HO := Lib.hid hO
    have HB := Lib.hid hb
    clear hO hb
    by_cases hlt : k < l.length
    · have hlt' : (k : Int) < (l.length : Int) := by omega
      by_cases h6 : k < 66
      · have h6' : (k : Int) < 66 := by omega
        obtain ⟨b, off, rfl, hbn, c0⟩ := (HA.out.below HB.out) k hlt
        have HN := Lib.hid (show strVs ((l.take (k + 1)).map cut65) = strVs ((l.take k).map cut65) ++ [.string (cut65 l[k])] by rw [List.take_succ_eq_append_getElem hlt, List.map_append, List.map_singleton, strVs_snoc])
        have hsz := HSS.out _ (List.getElem_mem hlt)
        generalize l[k] = x at *
        obtain ⟨N, hN⟩ : ∃ N : Nat, min (x.size : Int) 65 = (N : Int) := ⟨(min (x.size : Int) 65).toNat, by omega⟩
        have hN1 : N ≤ x.size := by omega
        have hN2 : (if 65 < (x.size : Int) then (65 : Int) else (x.size : Int)) = (N : Int) := by rw [← hN]; split <;> omega
        obtain ⟨kk, hkk⟩ : ∃ kk, cut65 x = kk := ⟨_, rfl⟩
        rw [hkk] at HN
        have hkN : x.extract 0 N = kk := by rw [← hkk]; unfold cut65; rw [hN]; rfl
        clear hkk
        obtain ⟨xs, hxs⟩ : ∃ xs, strVs ((l.take k).map cut65) = xs := ⟨_, rfl⟩
        rw [hxs] at HO HN
        clear hxs
        have hzb := HB.out.size
        go_wp2_with fail
        have HXW := Lib.hid hbn
        refine wp_region_held_drew (S := (fun w' => w'.cell? ⟨b, off + k, none⟩ = some (.string x))) (by kernel_rfl) ?_ (fun hHeld => ?_)
        · exact c0
        have HOD := Lib.hid (show wr.drew.ownsRow w.heap.size 9 1 _ k xs from HO.out)
        have HBD := Lib.hid (below_drew HB.out)
        have hzd : w.heap.size ≤ wr.drew.heap.size := hzb
        clear HO HB c0 hzb
        generalize wr.drew = D at *
        have HCX := Lib.hid hHeld
        refine takeH (i := 0) (some 15) (v := ?_) rfl rfl (by kernel_rfl) (by kernel_rfl) (by kernel_rfl) (fun _ _ _ h => h) (Or.inl ⟨by rfl, ?hyA0⟩) hHeld ?restA0
        case hyA0 => (intro w hSw; (try dsimp only at hSw); go_simp; (try with_reducible rfl))
        try simp only [Act.put, List.setIfInBounds_toArray, List.set_cons_zero, List.set_cons_succ]
        refine takeH (i := 1) (some 16) (v := ?_) rfl rfl (by kernel_rfl) (by kernel_rfl) (by kernel_rfl) (fun _ _ _ h => h) (Or.inl ⟨by rfl, ?hyA1⟩) hHeld ?restA1
        case hyA1 => (intro w hSw; (try dsimp only at hSw); go_simp; (try with_reducible rfl))
        try simp only [Act.put, List.setIfInBounds_toArray, List.set_cons_zero, List.set_cons_succ]
        refine takeH (i := 2) (some 17) (v := ?_) rfl rfl (by kernel_rfl) (by kernel_rfl) (by kernel_rfl) (fun _ _ _ h => h) (Or.inl ⟨by rfl, ?hyA2⟩) hHeld ?restA2
        case hyA2 => (intro w hSw; (try dsimp only at hSw); go_simp; (try with_reducible rfl))
        try simp only [Act.put, List.setIfInBounds_toArray, List.set_cons_zero, List.set_cons_succ]
        refine takeH (i := 3) (some 18) (v := ?_) rfl rfl (by kernel_rfl) (by kernel_rfl) (by kernel_rfl) (fun _ _ _ h => h) (Or.inl ⟨by rfl, ?hyA3⟩) hHeld ?restA3
        case hyA3 => (intro w hSw; (try dsimp only at hSw); go_simp; (try with_reducible rfl))
        try simp only [Act.put, List.setIfInBounds_toArray, List.set_cons_zero, List.set_cons_succ]
        refine takeH (i := 4) (some 19) (v := ?_) rfl rfl (by kernel_rfl) (by kernel_rfl) (by kernel_rfl) (fun _ _ _ h => h) (Or.inl ⟨by rfl, ?hyA4⟩) hHeld ?restA4
        case hyA4 => (intro w hSw; (try dsimp only at hSw); go_simp; (try with_reducible rfl))
        try simp only [Act.put, List.setIfInBounds_toArray, List.set_cons_zero, List.set_cons_succ]
        refine takeH (i := 5) (some 20) (v := ?_) rfl rfl (by kernel_rfl) (by kernel_rfl) (by kernel_rfl) (fun _ _ _ h => h) (Or.inl ⟨by rfl, ?hyA5⟩) hHeld ?restA5
        case hyA5 => (intro w hSw; (try dsimp only at hSw); go_simp; (try with_reducible rfl))
        try simp only [Act.put, List.setIfInBounds_toArray, List.set_cons_zero, List.set_cons_succ]
        refine takeH (i := 6) (some 21) (v := ?_) rfl rfl (by kernel_rfl) (by kernel_rfl) (by kernel_rfl) (fun _ _ _ h => h) (Or.inl ⟨by rfl, ?hyA6⟩) hHeld ?restA6
        case hyA6 => (intro w hSw; (try dsimp only at hSw); go_simp; (try with_reducible rfl))
        try simp only [Act.put, List.setIfInBounds_toArray, List.set_cons_zero, List.set_cons_succ]
        refine takeH (i := 7) (some 22) (v := ?_) rfl rfl (by kernel_rfl) (by kernel_rfl) (by kernel_rfl) (fun _ _ _ h => h) (Or.inl ⟨by rfl, ?hyA7⟩) hHeld ?restA7
        case hyA7 => (intro w hSw; (try dsimp only at hSw); go_simp; (try with_reducible rfl))
        try simp only [Act.put, List.setIfInBounds_toArray, List.set_cons_zero, List.set_cons_succ]
        refine takeH (i := 8) (some 23) (v := ?_) rfl rfl (by kernel_rfl) (by kernel_rfl) (by kernel_rfl) (fun _ _ _ h => h) (Or.inl ⟨by rfl, ?hyA8⟩) hHeld ?restA8
        case hyA8 => (intro w hSw; (try dsimp only at hSw); go_simp; (try with_reducible rfl))
        try simp only [Act.put, List.setIfInBounds_toArray, List.set_cons_zero, List.set_cons_succ]
        refine takeH (i := 9) (some 24) (v := ?_) rfl rfl (by kernel_rfl) (by kernel_rfl) (by kernel_rfl) (fun _ _ _ h => h) (Or.inl ⟨by rfl, ?hyA9⟩) hHeld ?restA9
        case hyA9 => (intro w hSw; (try dsimp only at hSw); go_simp; (try with_reducible rfl))
        try simp only [Act.put, List.setIfInBounds_toArray, List.set_cons_zero, List.set_cons_succ]
        refine takeH (i := 10) (some 25) (v := ?_) rfl rfl (by kernel_rfl) (by kernel_rfl) (by kernel_rfl) (fun _ _ _ h => h) (Or.inl ⟨by rfl, ?hyA10⟩) hHeld ?restA10
        case hyA10 => (intro w hSw; (try dsimp only at hSw); go_simp; (try with_reducible rfl))
        try simp only [Act.put, List.setIfInBounds_toArray, List.set_cons_zero, List.set_cons_succ]
        refine takeH (i := 11) (some 26) (v := ?_) rfl rfl (by kernel_rfl) (by kernel_rfl) (by kernel_rfl) (fun _ _ _ h => h) (Or.inl ⟨by rfl, ?hyA11⟩) hHeld ?restA11
        case hyA11 => (intro w hSw; (try dsimp only at hSw); go_simp; (try with_reducible rfl))
        try simp only [Act.put, List.setIfInBounds_toArray, List.set_cons_zero, List.set_cons_succ]
        refine wpAnyH_ready (rs := [12]) (by kernel_rfl) (by simp) ?_
        refine AllReadyH.cons rfl (fun K2 hK => ?_) AllReadyH.nil
        go_simp
        refine hK.out _ _ ?_ (fun hHeld => ?_)
        · exact (below_alloc D _).cell (blt hHeld) |>.trans hHeld
        clear hK K2
        try simp only [Act.put, List.setIfInBounds_toArray, List.set_cons_zero, List.set_cons_succ]
        refine wpAnyH_ready (rs := [13]) (by kernel_rfl) (by simp) ?_
        refine AllReadyH.cons rfl (fun K2 hK => ?_) AllReadyH.nil
        rw [if_pos (by rfl)]
        refine wp_append_own _ (.tmp 15) (.tmp 27) 25 rfl w.heap.size 9 i0 (.string ⟨#[]⟩) 1 16 Tryd.underlying25 hi0 hz0 hz1 hz2 rfl (by decide) _ k xs rfl (HOD.out.alloc _) ⟨D.heap.size, 0, none⟩ 1 1 [.string kk] rfl rfl (World.news_of_block (cs := #[.string kk]) (t := 9) (fr := (0, 0)) (by first | exact World.alloc_heap_new D _ | exact heap_alloc_new D _)) (by simp [Value.oneCell']) (by unfold maxLen; omega) (by omega) (by rw [World.size_alloc]; omega) ?_
        intro v' w3 hown hgrow _
        obtain ⟨au, cu, rfl⟩ := row_form hown
        have HB3 := Lib.hid ((bal HBD.out _).grown hgrow (bal HBD.out _).size (fun j hj => (row_lt HOD.out hj).1))
        rw [← HN.out] at hown
        have HO3 := Lib.hid hown
        have hcx := (World.cell?_of_block (w := D) (a := ⟨b, off + k, none⟩) ((hgrow.block b (by rw [World.size_alloc]; have := HXW.out; omega) (fun e => by have := (row_lt HOD.out e.symm).1; have := HXW.out; omega)).trans (Below.heap_alloc D _ b (by have := HXW.out; omega)))).trans (show D.cell? ⟨b, off + k, none⟩ = some (.string x) from HCX.out)
        clear hown hgrow
        refine hK.out _ _ ?_ (fun hHeld => ?_)
        · exact hcx
        clear hK K2
        try simp only [Act.put, List.setIfInBounds_toArray, List.set_cons_zero, List.set_cons_succ]
        refine takeH (i := 14) (some 3) (v := ?_) rfl rfl (by kernel_rfl) (by kernel_rfl) (by kernel_rfl) (fun _ _ _ h => h) (Or.inl ⟨by rfl, ?hyA14⟩) hHeld ?restA14
        case hyA14 => (intro w hSw; (try dsimp only at hSw); go_simp; (try with_reducible rfl))
        try simp only [Act.put, List.setIfInBounds_toArray, List.set_cons_zero, List.set_cons_succ]
        refine wpAnyH_done (by kernel_rfl) ?_ _
        go_wp2
        go_roundw
        case rel => exact ⟨k + 1, by omega, by omega, by go_num, HO3.out, HB3.out⟩
        case measure => simp [intOf]; omega
      · have h6' : ¬ (k : Int) < 66 := by omega
        obtain rfl : k = 66 := by omega
        have hlen : (itemsL l).length = 66 := by unfold itemsL; rw [List.length_map, List.length_take]; omega
        have hO := HO.out
        obtain ⟨au, cu, rfl⟩ := row_form hO
        clear h6
        have HX := Lib.hid hO
        clear hO HO
        go_wp2
        go_ret
        exact ⟨au, cu, by first | rfl | (rw [hlen]; rfl), by unfold OwnS; rw [hlen]; exact HX.out, HB.out⟩
    · have hlt' : ¬ (k : Int) < (l.length : Int) := by omega
      obtain rfl : k = l.length := by omega
      have hfl : itemsL l = (l.take l.length).map cut65 := by unfold itemsL; rw [List.take_of_length_le (show l.length ≤ 66 by omega), List.take_length]
      have hlen : (itemsL l).length = l.length := by rw [hfl, List.length_map, List.take_length]
      have HH := Lib.hid (And.intro hfl hlen)
      have hO := HO.out
      obtain ⟨au, cu, rfl⟩ := row_form hO
      have HX := Lib.hid hO
      clear hO HO hfl hlen
      go_wp2
      go_ret
      exact ⟨au, cu, by first | rfl | (rw [HH.out.2]; rfl), by unfold OwnS; rw [HH.out.2, HH.out.1]; exact HX.out, HB.out⟩
end Go.Proofs.YtgceecfjammnaaaDoor.L16

/- A pool, cut. -/
namespace Go.Proofs.YtgceecfjammnaaaDoor.L16
open Go.RowKit Go.Shelf
attribute [local go_sem] Oper.semAt_some
set_option linter.unusedSimpArgs false
set_option linter.unusedVariables false

def cutS (s : Snp) : Snp := ⟨s.c, itemsL s.it, s.u⟩
def cutL (l : List Snp) : List Snp := (l.take 5).map cutS
def cutP (p : Pl) : Pl := ⟨cutL p.l, p.n⟩
theorem obj_not_row {W : World} {B : Nat} {cs : Array Value} {T E : TypeId} (h : W.heap[B]? = some (.cells cs T (0, 0))) (hne : T ≠ E) {z sz n : Nat} {v : Value} {xs : List Value} (hr : W.ownsRow z E sz v n xs) : some B ≠ v.ownBlock := by
  rcases hr.2 with ⟨rfl, _⟩ | ⟨g, cap, cur, rfl, _, hg, _⟩
  · simp [Value.ownBlock]
  · intro e
    have e2 : B = g := by simpa [Value.ownBlock] using e
    subst e2
    rw [h] at hg
    simp at hg
    exact hne hg.2
structure CuR (w : World) (sl : Value) (n : Int) (L : List Snp) (W : World) (v : Value) (l' : List SnM) : Prop where
  p : W.heap[w.heap.size]? = some (.cells #[sl, .int .i64 n] 24 (0, 0))
  r : W.heap[w.heap.size + 1]? = some (.cells #[.slice none 0 0, .int .i64 0] 24 (0, 0))
  box : W.heap[w.heap.size + 2]? = some (.cells #[v, .int .i64 n] 24 (0, 0))
  own : W.ownsRow w.heap.size 42 3 v l'.length (snmCs l')
  map : l'.map SnM.p = L
  it : ∀ y ∈ l', OwnS w.heap.size W (.slice y.ita y.it.length y.itd) y.it
  below : Below w.heap.size w W
theorem CuR.on {w : World} {sl : Value} {n : Int} {L : List Snp} {A B : World} {v : Value} {l' : List SnM} (h : CuR w sl n L A v l') (hb : Below A.heap.size A B) : CuR w sl n L B v l' := by
  have k : ∀ {i : Nat} {o : Obj}, A.heap[i]? = some o → B.heap[i]? = some o := fun hi => (hb.block _ (Array.getElem?_eq_some_iff.1 hi).1).trans hi
  exact ⟨k h.p, k h.r, k h.box, h.own.kept (grown_of_below hb) (by cases v.ownBlock <;> simp), h.map, fun y hy => (h.it y hy).on hb, btr h.below hb⟩
theorem cut_end {w V1 w4 : World} {sl : Value} {n : Int} {L : List Snp} {v : Value} {l' : List SnM} {mk : SnM} {g cap : Nat} (h : CuR w sl n L V1 v l')
    (ho : OwnS w.heap.size V1 (.slice mk.ita mk.it.length mk.itd) mk.it)
    (ho4 : w4.ownsRow w.heap.size 42 3 (.slice (some ⟨g, 0, none⟩) (l'.length + 1) cap) (l'.length + 1) (snmCs l' ++ [.int .i64 mk.c, .slice mk.ita mk.it.length mk.itd, .int .i64 mk.u])) {o : Obj}
    (hg4 : (V1.alloc o).grownBy w4 v.ownBlock) :
    w4.heap[w.heap.size + 2]? = some (.cells #[v, .int .i64 n] 24 (0, 0)) ∧ CuR w sl n (L ++ [mk.p]) (w4.setCell ⟨w.heap.size + 2, 0, none⟩ (.slice (some ⟨g, 0, none⟩) (l'.length + 1) cap)) (.slice (some ⟨g, 0, none⟩) (l'.length + 1) cap) (l' ++ [mk]) := by
  have z := (Array.getElem?_eq_some_iff.1 h.box).1
  have k : ∀ {i : Nat} {cs : Array Value}, V1.heap[i]? = some (.cells cs 24 (0, 0)) → w4.heap[i]? = some (.cells cs 24 (0, 0)) := fun {i} {cs} hi => by
    have hlt := (Array.getElem?_eq_some_iff.1 hi).1
    have e1 := (Below.heap_alloc V1 o i hlt).trans hi
    exact (hg4.block i (by rw [World.size_alloc]; omega) (obj_not_row e1 (by decide) (h.own.alloc o))).trans e1
  have b4 := k h.box
  have hl : (l' ++ [mk]).length = l'.length + 1 := by simp
  have hsz := (Array.getElem?_eq_some_iff.1 b4).1
  refine ⟨b4, ⟨?_, ?_, ?_, ?_, ?_, ?_, ?_⟩⟩
  · rw [Below.heap_setCell _ _ _ _ (by show w.heap.size ≠ w.heap.size + 2; omega)]; exact k h.p
  · rw [Below.heap_setCell _ _ _ _ (by show w.heap.size + 1 ≠ w.heap.size + 2; omega)]; exact k h.r
  · simp only [World.setCell, Array.getElem?_modify, if_true, b4]
    rfl
  · rw [hl, snmCs_one]
    exact ho4.kept (grownBy_setCell w4 (w.heap.size + 2) 0 _) (.inr (obj_not_row b4 (by decide) ho4).symm)
  · rw [List.map_append, h.map]; rfl
  · have kk : ∀ {y : SnM}, OwnS w.heap.size V1 (.slice y.ita y.it.length y.itd) y.it → OwnS w.heap.size (w4.setCell ⟨w.heap.size + 2, 0, none⟩ (.slice (some ⟨g, 0, none⟩) (l'.length + 1) cap)) (.slice y.ita y.it.length y.itd) y.it := fun {y} hy => by
      have k1 := (World.ownsRow.alloc hy o).kept hg4 (rows_ne (h.own.alloc o) (World.ownsRow.alloc hy o) (by decide))
      exact k1.kept (grownBy_setCell w4 (w.heap.size + 2) 0 _) (.inr (obj_not_row b4 (by decide) k1).symm)
    intro y hy
    rcases List.mem_append.1 hy with hy | hy
    · exact kk (h.it y hy)
    · rw [List.mem_singleton] at hy; subst hy; exact kk ho
  · exact ((bal h.below o).grown hg4 (bal h.below o).size (fun j hj => (row_lt h.own hj).1)).setCell (p := ⟨w.heap.size + 2, 0, none⟩) (by show w.heap.size ≤ w.heap.size + 2; omega) _
theorem cut_snoc (l : List SnM) (k : Nat) (h : k < l.length) : ((l.take (k + 1)).map SnM.p).map cutS = ((l.take k).map SnM.p).map cutS ++ [cutS (l[k]'h).p] := by
  rw [List.take_succ_eq_append_getElem h, List.map_append, List.map_append]; rfl
theorem obj2 {W : World} {b : Nat} {t : TypeId} {v0 v1 : Value} (h : W.heap[b]? = some (.cells #[v0, v1] t (0, 0))) :
    W.cell? ⟨b, 0, none⟩ = some v0 ∧ W.cell? ⟨b, 1, none⟩ = some v1 ∧ W.frozen? ⟨b, 0, none⟩ = false ∧ W.frozen? ⟨b, 1, none⟩ = false := by
  refine ⟨?_, ?_, ?_, ?_⟩ <;> simp [World.cell?, World.frozen?, h]
theorem World.alloc_heap_old_p {W : World} {o : Obj} {i : Nat} {x : Obj} (h : W.heap[i]? = some x) : (W.alloc o).heap[i]? = some x := (Below.heap_alloc W o i (Array.getElem?_eq_some_iff.1 h).1).trans h
/-- The result's box written: the row lies elsewhere. -/
theorem cut_plat {w wr : World} {sl : Value} {n : Int} {L : List Snp} {ao : Option Addr} {co : Nat} {l' : List SnM} {v0 v1 : Value} (h : CuR w sl n L wr (.slice ao l'.length co) l') :
    ((wr.setCell ⟨w.heap.size + 1, 0, none⟩ v0).setCell ⟨w.heap.size + 1, 1, none⟩ v1).ownsRow w.heap.size 42 3 (.slice ao l'.length co) l'.length (snmCs l') ∧ ∀ y ∈ l', OwnS w.heap.size ((wr.setCell ⟨w.heap.size + 1, 0, none⟩ v0).setCell ⟨w.heap.size + 1, 1, none⟩ v1) (.slice y.ita y.it.length y.itd) y.it := by
  have hr0 : (wr.setCell ⟨w.heap.size + 1, 0, none⟩ v0).heap[w.heap.size + 1]? = some (.cells #[v0, .int .i64 0] 24 (0, 0)) := by
    simp only [World.setCell, Array.getElem?_modify, if_true, h.r]
    rfl
  have k1 := h.own.kept (grownBy_setCell wr (w.heap.size + 1) 0 v0) (.inr (obj_not_row h.r (by decide) h.own).symm)
  have k2 := k1.kept (grownBy_setCell _ (w.heap.size + 1) 1 v1) (.inr (obj_not_row hr0 (by decide) k1).symm)
  have ki : ∀ y ∈ l', OwnS w.heap.size ((wr.setCell ⟨w.heap.size + 1, 0, none⟩ v0).setCell ⟨w.heap.size + 1, 1, none⟩ v1) (.slice y.ita y.it.length y.itd) y.it := fun y hy => by
    have j1 := World.ownsRow.kept (h.it y hy) (grownBy_setCell wr (w.heap.size + 1) 0 v0) (.inr (obj_not_row h.r (by decide) (h.it y hy)).symm)
    exact j1.kept (grownBy_setCell _ (w.heap.size + 1) 1 v1) (.inr (obj_not_row hr0 (by decide) j1).symm)
  exact ⟨k2, ki⟩
/-- A caller's box written: what was cut lies elsewhere. -/
theorem cut_store {W : World} {z B : Nat} (hB : B < z) {v0 v1 : Value} {a : Option Addr} {c : Nat} {l : List SnM} (h : W.ownsRow z 42 3 (.slice a l.length c) l.length (snmCs l) ∧ ∀ y ∈ l, OwnS z W (.slice y.ita y.it.length y.itd) y.it) :
    PlAt ((W.setCell ⟨B, 0, none⟩ v0).setCell ⟨B, 1, none⟩ v1).heap.size ((W.setCell ⟨B, 0, none⟩ v0).setCell ⟨B, 1, none⟩ v1) a l := by
  have k2 := (h.1.kept (grownBy_setCell W B 0 v0) (.inr (by intro e; have := (row_lt h.1 e).1; omega))).kept (grownBy_setCell _ B 1 v1) (.inr (by intro e; have := (row_lt h.1 e).1; omega))
  obtain ⟨a3, c3, e3, hp3⟩ := pl_of_row k2 (fun y hy => ((h.2 y hy).set hB).set hB)
  cases e3
  exact hp3
set_option maxRecDepth 100000 in
set_option maxHeartbeats 4000000 in
theorem Cut_c (a : Option Addr) (cap : Nat) (n : Int) (l : List SnM) (hs : l.length ≤ 9223372036854775807) (hi : ∀ x ∈ l, x.it.length ≤ 9223372036854775807 ∧ ∀ s ∈ x.it, s.size ≤ 9223372036854775807) (w : World) (hA : PlAt w.heap.size w a l) :
    Calls Tryd.prog 10 #[.agg #[.slice a l.length cap, .int .i64 n]] w fun y w' => ∃ a' c' l', y = .returned (.agg #[.slice a' (l' : List SnM).length c', .int .i64 n]) ∧ (w'.ownsRow w.heap.size 42 3 (.slice a' l'.length c') l'.length (snmCs l') ∧ ∀ y ∈ l', OwnS w.heap.size w' (.slice y.ita y.it.length y.itd) y.it) ∧ l'.map SnM.p = cutL (l.map SnM.p) ∧ Below w.heap.size w w' := by
  have HA := Lib.hid hA
  have HII := Lib.hid hi
  obtain ⟨i0, hi0, hz0, hz1, hz2⟩ := infoSnM
  clear hA hi
  go_enter Tryd.func10, Tryd.ntmps10
  go_wp2_with fail
  rw [show w.heap.size + 1 + 1 = w.heap.size + 2 from rfl]
  have hC : CuR w (.slice a l.length cap) n (((l.take 0).map SnM.p).map cutS) (((w.alloc (.cells #[.slice a l.length cap, .int .i64 n] 24)).alloc (.cells #[.slice none 0 0, .int .i64 0] 24)).alloc (.cells #[.slice none 0 0, .int .i64 n] 24)) (.slice none 0 0) [] := by
    have e0 := World.alloc_heap_new w (.cells #[.slice a l.length cap, .int .i64 n] 24)
    have e1 := World.alloc_heap_new (w.alloc (.cells #[.slice a l.length cap, .int .i64 n] 24)) (.cells #[.slice none 0 0, .int .i64 0] 24)
    have e2 := World.alloc_heap_new ((w.alloc (.cells #[.slice a l.length cap, .int .i64 n] 24)).alloc (.cells #[.slice none 0 0, .int .i64 0] 24)) (.cells #[.slice none 0 0, .int .i64 n] 24)
    rw [World.size_alloc] at e1
    rw [World.size_alloc, World.size_alloc] at e2
    refine ⟨?_, ?_, e2, World.ownsRow_nil _ _ _ _, rfl, (fun y hy => nomatch hy), bal (bal (below_alloc w _) _) _⟩
    · exact (Below.heap_alloc _ _ _ (by simp; omega)).trans ((Below.heap_alloc _ _ _ (by simp)).trans e0)
    · exact (Below.heap_alloc _ _ _ (by simp)).trans e1
  generalize (((w.alloc (.cells #[.slice a l.length cap, .int .i64 n] 24)).alloc (.cells #[.slice none 0 0, .int .i64 0] 24)).alloc (.cells #[.slice none 0 0, .int .i64 n] 24)) = U at *
  have hC0 := Lib.hid hC
  clear hC
  go_loopw [4] (fun i wr => ∃ (k : Nat) (v : Value) (l' : List SnM), k ≤ l.length ∧ k ≤ 5 ∧ i = .int .i64 (k : Int) ∧ l'.length = k ∧ Hid (CuR w (.slice a l.length cap) n (((l.take k).map SnM.p).map cutS) wr v l')) (fun i _ => 5 - (intOf i).toNat)
  case atStart => exact ⟨0, _, [], Nat.zero_le _, Nat.zero_le _, rfl, rfl, hC0⟩
  case round =>
    obtain ⟨k, v, l', hk, hk5, rfl, hlk, HR⟩ := hrel
    have HLK := Lib.hid hlk
    have hl5 : l'.length ≤ 5 := by omega
    clear hlk
    obtain ⟨ao, co, rfl⟩ := row_form HR.out.own
    obtain ⟨p0, p1, _, _⟩ := obj2 HR.out.p
    obtain ⟨o0, o1, of0, of1⟩ := obj2 HR.out.box
    have zO := blt o0
    clear hC0
    by_cases hlt : k < l.length
    · have hlt' : (k : Int) < (l.length : Int) := by omega
      by_cases h5 : k < 5
      · have h5' : (k : Int) < 5 := by omega
        obtain ⟨b, off, rfl, hbn, c0, c1, c2⟩ := (HA.out.s.below HR.out.below) k hlt
        obtain ⟨hi1, hi2⟩ := HII.out _ (List.getElem_mem hlt)
        have HSN := Lib.hid (cut_snoc l k hlt)
        have HIT := Lib.hid (fun W (hb : Below wr.heap.size wr W) => Items_c l[k].ita l[k].itd l[k].it hi1 hi2 W ((HA.out.i _ (List.getElem_mem hlt)).below (btr HR.out.below hb) |>.mono (btr HR.out.below hb).size))
        have HLN := Lib.hid (show (itemsL l[k].it).length ≤ 66 from itemsL_len _)
        generalize l[k] = x at *
        have HXE := Lib.hid (show cutS x.p = ⟨x.c, itemsL x.it, x.u⟩ from rfl)
        generalize itemsL x.it = its at *
        clear hi1 hi2
        go_wp2_with fail
        have HRD := Lib.hid (HR.out.on (below_drew (Below.refl _ wr)))
        have HBN := Lib.hid hbn
        have d0 : wr.drew.cell? ⟨w.heap.size, 0, none⟩ = _ := p0
        have d1 : wr.drew.cell? ⟨b, off + k * 3, none⟩ = _ := c0
        have d2 : wr.drew.cell? ⟨b, off + k * 3 + 1, none⟩ = _ := c1
        have d3 : wr.drew.cell? ⟨b, off + k * 3 + 2, none⟩ = _ := c2
        have o0' : wr.drew.cell? ⟨w.heap.size + 2, 0, none⟩ = _ := o0
        replace HIT := Lib.hid (fun W (hb : Below wr.drew.heap.size wr.drew W) => HIT.out W (btr (below_drew (Below.refl _ wr)) hb))
        refine wp_region_held_drew (S := (fun w' => w'.cell? ⟨w.heap.size, 0, none⟩ = some (.slice (some ⟨b, off, none⟩) l.length cap) ∧ w'.cell? ⟨b, off + k * 3, none⟩ = some (.int .i64 x.c) ∧ w'.cell? ⟨b, off + k * 3 + 1, none⟩ = some (.slice x.ita x.it.length x.itd) ∧ w'.cell? ⟨b, off + k * 3 + 2, none⟩ = some (.int .i64 x.u))) (by kernel_rfl) ?_ (fun hHeld => ?_)
        · exact ⟨d0, d1, d2, d3⟩
        have zO' : w.heap.size + 2 < wr.drew.heap.size := zO
        clear p0 p1 o0 o1 of0 of1 c0 c1 c2 zO hbn HR
        generalize wr.drew = D at *
        have MK := Lib.hid (show ∀ w' : World, (∀ b o, b ≤ w.heap.size → w'.cell? ⟨b, o, none⟩ = D.cell? ⟨b, o, none⟩) → w'.cell? ⟨w.heap.size, 0, none⟩ = some (.slice (some ⟨b, off, none⟩) l.length cap) ∧ w'.cell? ⟨b, off + k * 3, none⟩ = some (.int .i64 x.c) ∧ w'.cell? ⟨b, off + k * 3 + 1, none⟩ = some (.slice x.ita x.it.length x.itd) ∧ w'.cell? ⟨b, off + k * 3 + 2, none⟩ = some (.int .i64 x.u) from fun (w' : World) h => ⟨(h _ _ (Nat.le_refl _)).trans d0, (h _ _ (Nat.le_of_lt HBN.out)).trans d1, (h _ _ (Nat.le_of_lt HBN.out)).trans d2, (h _ _ (Nat.le_of_lt HBN.out)).trans d3⟩)
        clear d0 d1 d2 d3
        refine takeH (i := 0) (some 19) (v := ?_) rfl rfl (by kernel_rfl) (by kernel_rfl) (by kernel_rfl) (fun _ _ _ h => h) (Or.inl ⟨by rfl, ?hyA0⟩) hHeld ?restA0
        case hyA0 => (intro w hSw; (try dsimp only at hSw); go_simp; (try with_reducible rfl))
        try simp only [Act.put, List.setIfInBounds_toArray, List.set_cons_zero, List.set_cons_succ]
        refine takeH (i := 2) (some 21) (v := ?_) rfl rfl (by kernel_rfl) (by kernel_rfl) (by kernel_rfl) (fun _ _ _ h => h) (Or.inl ⟨by rfl, ?hyA2⟩) hHeld ?restA2
        case hyA2 => (intro w hSw; (try dsimp only at hSw); go_simp; (try with_reducible rfl))
        try simp only [Act.put, List.setIfInBounds_toArray, List.set_cons_zero, List.set_cons_succ]
        refine takeH (i := 3) (some 22) (v := ?_) rfl rfl (by kernel_rfl) (by kernel_rfl) (by kernel_rfl) (fun _ _ _ h => h) (Or.inl ⟨by rfl, ?hyA3⟩) hHeld ?restA3
        case hyA3 => (intro w hSw; (try dsimp only at hSw); go_simp; (try with_reducible rfl))
        try simp only [Act.put, List.setIfInBounds_toArray, List.set_cons_zero, List.set_cons_succ]
        refine takeH (i := 4) (some 23) (v := ?_) rfl rfl (by kernel_rfl) (by kernel_rfl) (by kernel_rfl) (fun _ _ _ h => h) (Or.inl ⟨by rfl, ?hyA4⟩) hHeld ?restA4
        case hyA4 => (intro w hSw; (try dsimp only at hSw); go_simp; (try with_reducible rfl))
        try simp only [Act.put, List.setIfInBounds_toArray, List.set_cons_zero, List.set_cons_succ]
        refine takeH (i := 5) (some 24) (v := ?_) rfl rfl (by kernel_rfl) (by kernel_rfl) (by kernel_rfl) (fun _ _ _ h => h) (Or.inl ⟨by rfl, ?hyA5⟩) hHeld ?restA5
        case hyA5 => (intro w hSw; (try dsimp only at hSw); go_simp; (try with_reducible rfl))
        try simp only [Act.put, List.setIfInBounds_toArray, List.set_cons_zero, List.set_cons_succ]
        refine takeH (i := 6) (some 25) (v := ?_) rfl rfl (by kernel_rfl) (by kernel_rfl) (by kernel_rfl) (fun _ _ _ h => h) (Or.inl ⟨by rfl, ?hyA6⟩) hHeld ?restA6
        case hyA6 => (intro w hSw; (try dsimp only at hSw); go_simp; (try with_reducible rfl))
        try simp only [Act.put, List.setIfInBounds_toArray, List.set_cons_zero, List.set_cons_succ]
        refine takeH (i := 7) (some 26) (v := ?_) rfl rfl (by kernel_rfl) (by kernel_rfl) (by kernel_rfl) (fun _ _ _ h => h) (Or.inl ⟨by rfl, ?hyA7⟩) hHeld ?restA7
        case hyA7 => (intro w hSw; (try dsimp only at hSw); go_simp; (try with_reducible rfl))
        try simp only [Act.put, List.setIfInBounds_toArray, List.set_cons_zero, List.set_cons_succ]
        refine takeH (i := 8) (some 27) (v := ?_) rfl rfl (by kernel_rfl) (by kernel_rfl) (by kernel_rfl) (fun _ _ _ h => h) (Or.inl ⟨by rfl, ?hyA8⟩) hHeld ?restA8
        case hyA8 => (intro w hSw; (try dsimp only at hSw); go_simp; (try with_reducible rfl))
        try simp only [Act.put, List.setIfInBounds_toArray, List.set_cons_zero, List.set_cons_succ]
        refine takeH (i := 9) (some 28) (v := ?_) rfl rfl (by kernel_rfl) (by kernel_rfl) (by kernel_rfl) (fun _ _ _ h => h) (Or.inl ⟨by rfl, ?hyA9⟩) hHeld ?restA9
        case hyA9 => (intro w hSw; (try dsimp only at hSw); go_simp; (try with_reducible rfl))
        try simp only [Act.put, List.setIfInBounds_toArray, List.set_cons_zero, List.set_cons_succ]
        refine takeH (i := 10) (some 29) (v := ?_) rfl rfl (by kernel_rfl) (by kernel_rfl) (by kernel_rfl) (fun _ _ _ h => h) (Or.inl ⟨by rfl, ?hyA10⟩) hHeld ?restA10
        case hyA10 => (intro w hSw; (try dsimp only at hSw); go_simp; (try with_reducible rfl))
        try simp only [Act.put, List.setIfInBounds_toArray, List.set_cons_zero, List.set_cons_succ]
        refine takeH (i := 11) (some 30) (v := ?_) rfl rfl (by kernel_rfl) (by kernel_rfl) (by kernel_rfl) (fun _ _ _ h => h) (Or.inl ⟨by rfl, ?hyA11⟩) hHeld ?restA11
        case hyA11 => (intro w hSw; (try dsimp only at hSw); go_simp; (try with_reducible rfl))
        try simp only [Act.put, List.setIfInBounds_toArray, List.set_cons_zero, List.set_cons_succ]
        refine takeH (i := 12) (some 31) (v := ?_) rfl rfl (by kernel_rfl) (by kernel_rfl) (by kernel_rfl) (fun _ _ _ h => h) (Or.inl ⟨by rfl, ?hyA12⟩) hHeld ?restA12
        case hyA12 => (intro w hSw; (try dsimp only at hSw); go_simp; (try with_reducible rfl))
        try simp only [Act.put, List.setIfInBounds_toArray, List.set_cons_zero, List.set_cons_succ]
        refine takeH (i := 13) (some 32) (v := ?_) rfl rfl (by kernel_rfl) (by kernel_rfl) (by kernel_rfl) (fun _ _ _ h => h) (Or.inl ⟨by rfl, ?hyA13⟩) hHeld ?restA13
        case hyA13 => (intro w hSw; (try dsimp only at hSw); go_simp; (try with_reducible rfl))
        try simp only [Act.put, List.setIfInBounds_toArray, List.set_cons_zero, List.set_cons_succ]
        refine takeH (i := 15) (some 34) (v := ?_) rfl rfl (by kernel_rfl) (by kernel_rfl) (by kernel_rfl) (fun _ _ _ h => h) (Or.inl ⟨by rfl, ?hyA15⟩) hHeld ?restA15
        case hyA15 => (intro w hSw; (try dsimp only at hSw); go_simp; (try with_reducible rfl))
        try simp only [Act.put, List.setIfInBounds_toArray, List.set_cons_zero, List.set_cons_succ]
        refine takeH (i := 16) (some 35) (v := ?_) rfl rfl (by kernel_rfl) (by kernel_rfl) (by kernel_rfl) (fun _ _ _ h => h) (Or.inl ⟨by rfl, ?hyA16⟩) hHeld ?restA16
        case hyA16 => (intro w hSw; (try dsimp only at hSw); go_simp; (try with_reducible rfl))
        try simp only [Act.put, List.setIfInBounds_toArray, List.set_cons_zero, List.set_cons_succ]
        refine takeH (i := 17) (some 36) (v := ?_) rfl rfl (by kernel_rfl) (by kernel_rfl) (by kernel_rfl) (fun _ _ _ h => h) (Or.inl ⟨by rfl, ?hyA17⟩) hHeld ?restA17
        case hyA17 => (intro w hSw; (try dsimp only at hSw); go_simp; (try with_reducible rfl))
        try simp only [Act.put, List.setIfInBounds_toArray, List.set_cons_zero, List.set_cons_succ]
        refine takeH (i := 18) (some 37) (v := ?_) rfl rfl (by kernel_rfl) (by kernel_rfl) (by kernel_rfl) (fun _ _ _ h => h) (Or.inl ⟨by rfl, ?hyA18⟩) hHeld ?restA18
        case hyA18 => (intro w hSw; (try dsimp only at hSw); go_simp; (try with_reducible rfl))
        try simp only [Act.put, List.setIfInBounds_toArray, List.set_cons_zero, List.set_cons_succ]
        refine takeH (i := 19) (some 38) (v := ?_) rfl rfl (by kernel_rfl) (by kernel_rfl) (by kernel_rfl) (fun _ _ _ h => h) (Or.inl ⟨by rfl, ?hyA19⟩) hHeld ?restA19
        case hyA19 => (intro w hSw; (try dsimp only at hSw); go_simp; (try with_reducible rfl))
        try simp only [Act.put, List.setIfInBounds_toArray, List.set_cons_zero, List.set_cons_succ]
        refine takeH (i := 20) (some 39) (v := ?_) rfl rfl (by kernel_rfl) (by kernel_rfl) (by kernel_rfl) (fun _ _ _ h => h) (Or.inl ⟨by rfl, ?hyA20⟩) hHeld ?restA20
        case hyA20 => (intro w hSw; (try dsimp only at hSw); go_simp; (try with_reducible rfl))
        try simp only [Act.put, List.setIfInBounds_toArray, List.set_cons_zero, List.set_cons_succ]
        refine wpAnyH_ready (rs := [1, 14]) (by kernel_rfl) (by simp) ?_
        refine AllReadyH.cons rfl (fun K2 hK => ?ca1) (AllReadyH.cons rfl (fun K2 hK => ?cb1) AllReadyH.nil)
        case ca1 =>
          go_simp
          refine hK.out _ _ ?_ (fun hHeld => ?_)
          · exact hHeld
          clear hK K2
          try simp only [Act.put, List.setIfInBounds_toArray, List.set_cons_zero, List.set_cons_succ]
          refine wpAnyH_ready (rs := [14]) (by kernel_rfl) (by simp) ?_
          refine AllReadyH.cons rfl (fun K2 hK => ?_) AllReadyH.nil
          go_simp
          with_reducible refine (HIT.out _ (Below.refl _ _)).mono ?_
          rintro e V1 ⟨v2, d2, rfl, ho2, hb2⟩
          have HR1 := Lib.hid (HRD.out.on hb2)
          have HO1 := Lib.hid (OwnS.mono ho2 (base' := w.heap.size) HRD.out.below.size)
          have o1' : V1.cell? ⟨w.heap.size + 2, 0, none⟩ = _ := (hb2.cell zO').trans o0'
          have zV : w.heap.size + 2 < V1.heap.size := Nat.lt_of_lt_of_le zO' hb2.size
          have MK1 := Lib.hid (show ∀ b o, b ≤ w.heap.size → V1.cell? ⟨b, o, none⟩ = D.cell? ⟨b, o, none⟩ from fun b o h => hb2.cell (p := ⟨b, o, none⟩) (by show b < D.heap.size; omega))
          refine hK.out _ _ ?_ (fun hHeld => ?_)
          · exact MK.out _ MK1.out
          clear hK K2
          try simp only [Act.put, List.setIfInBounds_toArray, List.set_cons_zero, List.set_cons_succ]
          clear ho2 hb2
          refine takeH (i := 21) (some 40) (v := ?_) rfl rfl (by kernel_rfl) (by kernel_rfl) (by kernel_rfl) (fun _ _ _ h => h) (Or.inl ⟨by rfl, ?hyU221⟩) hHeld ?restU221
          case hyU221 => (intro w hSw; (try dsimp only at hSw); go_simp; (try with_reducible rfl))
          try simp only [Act.put, List.setIfInBounds_toArray, List.set_cons_zero, List.set_cons_succ]
          refine wpAnyH_ready (rs := [22]) (by kernel_rfl) (by simp) ?_
          refine AllReadyH.cons rfl (fun K2 hK => ?_) AllReadyH.nil
          go_simp
          refine hK.out _ _ ?_ (fun hHeld => ?_)
          · exact MK.out _ (fun b o h => ((below_alloc V1 _).cell (p := ⟨b, o, none⟩) (by show b < V1.heap.size; omega)).trans (MK1.out b o h))
          clear hK K2
          try simp only [Act.put, List.setIfInBounds_toArray, List.set_cons_zero, List.set_cons_succ]
          refine wpAnyH_ready (rs := [23]) (by kernel_rfl) (by simp) ?_
          refine AllReadyH.cons rfl (fun K2 hK => ?_) AllReadyH.nil
          rw [if_pos (by rfl)]
          refine wp_append_lies _ (.tmp 20) (.tmp 41) 22 rfl w.heap.size 42 i0 (.agg #[.int .i64 0, .slice none 0 0, .int .i64 0]) 3 40 Tryd.underlying22 hi0 hz0 hz1 hz2 rfl (by decide) _ l'.length (snmCs l') rfl (HR1.out.own.alloc _) ⟨V1.heap.size, 0, none⟩ 1 1 [.int .i64 x.c, .slice v2 its.length d2, .int .i64 x.u] rfl rfl (World.news_of_block (cs := #[.int .i64 x.c, .slice v2 its.length d2, .int .i64 x.u]) (t := 42) (fr := (0, 0)) (by first | exact World.alloc_heap_new V1 _ | exact heap_alloc_new V1 _)) (by simp [Value.oneCell']) (by decide) (by unfold maxLen; omega) (by omega) (by rw [World.size_alloc]; omega) _ rfl ?_
          intro g cg w4 ho4 hg4 hat hlt4
          have hcl := cut_end (mk := ⟨x.c, its, v2, d2, x.u⟩) HR1.out HO1.out ho4 hg4
          rw [show (⟨x.c, its, v2, d2, x.u⟩ : SnM).p = cutS x.p from HXE.out.symm, ← HSN.out] at hcl
          have HEND := Lib.hid (And.intro hcl.1 (Lib.hid hcl.2))
          obtain ⟨b0, b1, bf0, bf1⟩ := obj2 hcl.1
          have MK4 := Lib.hid (show ∀ b o, b ≤ w.heap.size → w4.cell? ⟨b, o, none⟩ = D.cell? ⟨b, o, none⟩ from fun b o h => (World.cell?_of_block (w := V1) (a := ⟨b, o, none⟩) ((hg4.block b (by rw [World.size_alloc]; omega) (fun e => by by_cases eb : b = w.heap.size; (subst eb; exact obj_not_row HR1.out.p (by decide) HR1.out.own e); (have := (row_lt HR1.out.own e.symm).1; omega))).trans (Below.heap_alloc V1 _ b (by omega)))).trans (MK1.out b o h))
          clear hcl ho4 hg4 hat hlt4
          refine hK.out _ _ ?_ (fun hHeld => ?_)
          · exact MK.out _ MK4.out
          clear hK K2
          try simp only [Act.put, List.setIfInBounds_toArray, List.set_cons_zero, List.set_cons_succ]
          refine takeH (i := 24) (some 43) (v := ?_) rfl rfl (by kernel_rfl) (by kernel_rfl) (by kernel_rfl) (fun _ _ _ h => h) (Or.inl ⟨by rfl, ?hyT324⟩) hHeld ?restT324
          case hyT324 => (intro w hSw; (try dsimp only at hSw); go_simp; (try with_reducible rfl))
          try simp only [Act.put, List.setIfInBounds_toArray, List.set_cons_zero, List.set_cons_succ]
          refine wpAnyH_ready (rs := [25]) (by kernel_rfl) (by simp) ?_
          refine AllReadyH.cons rfl (fun K2 hK => ?_) AllReadyH.nil
          go_simp
          refine hK.out _ _ ?_ (fun hHeld => ?_)
          · exact MK.out _ (fun b o h => (set_other _ _ (by omega)).trans (MK4.out b o h))
          clear hK K2
          try simp only [Act.put, List.setIfInBounds_toArray, List.set_cons_zero, List.set_cons_succ]
          refine wpAnyH_done (by kernel_rfl) ?_ _
          go_wp2
          go_roundw
          case rel => exact ⟨k + 1, _, _, by omega, by omega, by go_num, by simp [HLK.out], HEND.out.2⟩
          case measure => simp [intOf]; omega
        case cb1 =>
          go_simp
          with_reducible refine (HIT.out _ (Below.refl _ _)).mono ?_
          rintro e V1 ⟨v2, d2, rfl, ho2, hb2⟩
          have HR1 := Lib.hid (HRD.out.on hb2)
          have HO1 := Lib.hid (OwnS.mono ho2 (base' := w.heap.size) HRD.out.below.size)
          have o1' : V1.cell? ⟨w.heap.size + 2, 0, none⟩ = _ := (hb2.cell zO').trans o0'
          have zV : w.heap.size + 2 < V1.heap.size := Nat.lt_of_lt_of_le zO' hb2.size
          have MK1 := Lib.hid (show ∀ b o, b ≤ w.heap.size → V1.cell? ⟨b, o, none⟩ = D.cell? ⟨b, o, none⟩ from fun b o h => hb2.cell (p := ⟨b, o, none⟩) (by show b < D.heap.size; omega))
          refine hK.out _ _ ?_ (fun hHeld => ?_)
          · exact MK.out _ MK1.out
          clear hK K2
          try simp only [Act.put, List.setIfInBounds_toArray, List.set_cons_zero, List.set_cons_succ]
          clear ho2 hb2
          refine takeH (i := 21) (some 40) (v := ?_) rfl rfl (by kernel_rfl) (by kernel_rfl) (by kernel_rfl) (fun _ _ _ h => h) (Or.inl ⟨by rfl, ?hyU421⟩) hHeld ?restU421
          case hyU421 => (intro w hSw; (try dsimp only at hSw); go_simp; (try with_reducible rfl))
          try simp only [Act.put, List.setIfInBounds_toArray, List.set_cons_zero, List.set_cons_succ]
          refine wpAnyH_ready (rs := [1, 22]) (by kernel_rfl) (by simp) ?_
          refine AllReadyH.cons rfl (fun K2 hK => ?ca5) (AllReadyH.cons rfl (fun K2 hK => ?cb5) AllReadyH.nil)
          case ca5 =>
            go_simp
            refine hK.out _ _ ?_ (fun hHeld => ?_)
            · exact hHeld
            clear hK K2
            try simp only [Act.put, List.setIfInBounds_toArray, List.set_cons_zero, List.set_cons_succ]
            refine wpAnyH_ready (rs := [22]) (by kernel_rfl) (by simp) ?_
            refine AllReadyH.cons rfl (fun K2 hK => ?_) AllReadyH.nil
            go_simp
            refine hK.out _ _ ?_ (fun hHeld => ?_)
            · exact MK.out _ (fun b o h => ((below_alloc V1 _).cell (p := ⟨b, o, none⟩) (by show b < V1.heap.size; omega)).trans (MK1.out b o h))
            clear hK K2
            try simp only [Act.put, List.setIfInBounds_toArray, List.set_cons_zero, List.set_cons_succ]
            refine wpAnyH_ready (rs := [23]) (by kernel_rfl) (by simp) ?_
            refine AllReadyH.cons rfl (fun K2 hK => ?_) AllReadyH.nil
            rw [if_pos (by rfl)]
            refine wp_append_lies _ (.tmp 20) (.tmp 41) 22 rfl w.heap.size 42 i0 (.agg #[.int .i64 0, .slice none 0 0, .int .i64 0]) 3 40 Tryd.underlying22 hi0 hz0 hz1 hz2 rfl (by decide) _ l'.length (snmCs l') rfl (HR1.out.own.alloc _) ⟨V1.heap.size, 0, none⟩ 1 1 [.int .i64 x.c, .slice v2 its.length d2, .int .i64 x.u] rfl rfl (World.news_of_block (cs := #[.int .i64 x.c, .slice v2 its.length d2, .int .i64 x.u]) (t := 42) (fr := (0, 0)) (by first | exact World.alloc_heap_new V1 _ | exact heap_alloc_new V1 _)) (by simp [Value.oneCell']) (by decide) (by unfold maxLen; omega) (by omega) (by rw [World.size_alloc]; omega) _ rfl ?_
            intro g cg w4 ho4 hg4 hat hlt4
            have hcl := cut_end (mk := ⟨x.c, its, v2, d2, x.u⟩) HR1.out HO1.out ho4 hg4
            rw [show (⟨x.c, its, v2, d2, x.u⟩ : SnM).p = cutS x.p from HXE.out.symm, ← HSN.out] at hcl
            have HEND := Lib.hid (And.intro hcl.1 (Lib.hid hcl.2))
            obtain ⟨b0, b1, bf0, bf1⟩ := obj2 hcl.1
            have MK4 := Lib.hid (show ∀ b o, b ≤ w.heap.size → w4.cell? ⟨b, o, none⟩ = D.cell? ⟨b, o, none⟩ from fun b o h => (World.cell?_of_block (w := V1) (a := ⟨b, o, none⟩) ((hg4.block b (by rw [World.size_alloc]; omega) (fun e => by by_cases eb : b = w.heap.size; (subst eb; exact obj_not_row HR1.out.p (by decide) HR1.out.own e); (have := (row_lt HR1.out.own e.symm).1; omega))).trans (Below.heap_alloc V1 _ b (by omega)))).trans (MK1.out b o h))
            clear hcl ho4 hg4 hat hlt4
            refine hK.out _ _ ?_ (fun hHeld => ?_)
            · exact MK.out _ MK4.out
            clear hK K2
            try simp only [Act.put, List.setIfInBounds_toArray, List.set_cons_zero, List.set_cons_succ]
            refine takeH (i := 24) (some 43) (v := ?_) rfl rfl (by kernel_rfl) (by kernel_rfl) (by kernel_rfl) (fun _ _ _ h => h) (Or.inl ⟨by rfl, ?hyT624⟩) hHeld ?restT624
            case hyT624 => (intro w hSw; (try dsimp only at hSw); go_simp; (try with_reducible rfl))
            try simp only [Act.put, List.setIfInBounds_toArray, List.set_cons_zero, List.set_cons_succ]
            refine wpAnyH_ready (rs := [25]) (by kernel_rfl) (by simp) ?_
            refine AllReadyH.cons rfl (fun K2 hK => ?_) AllReadyH.nil
            go_simp
            refine hK.out _ _ ?_ (fun hHeld => ?_)
            · exact MK.out _ (fun b o h => (set_other _ _ (by omega)).trans (MK4.out b o h))
            clear hK K2
            try simp only [Act.put, List.setIfInBounds_toArray, List.set_cons_zero, List.set_cons_succ]
            refine wpAnyH_done (by kernel_rfl) ?_ _
            go_wp2
            go_roundw
            case rel => exact ⟨k + 1, _, _, by omega, by omega, by go_num, by simp [HLK.out], HEND.out.2⟩
            case measure => simp [intOf]; omega
          case cb5 =>
            go_simp
            refine hK.out _ _ ?_ (fun hHeld => ?_)
            · exact MK.out _ (fun b o h => ((below_alloc V1 _).cell (p := ⟨b, o, none⟩) (by show b < V1.heap.size; omega)).trans (MK1.out b o h))
            clear hK K2
            try simp only [Act.put, List.setIfInBounds_toArray, List.set_cons_zero, List.set_cons_succ]
            have o2' := keep_alloc (.cells #[.int .i64 x.c, .slice v2 its.length d2, .int .i64 x.u] 42) o1'
            refine wpAnyH_ready (rs := [1]) (by kernel_rfl) (by simp) ?_
            refine AllReadyH.cons rfl (fun K2 hK => ?_) AllReadyH.nil
            go_simp
            refine hK.out _ _ ?_ (fun hHeld => ?_)
            · exact hHeld
            clear hK K2
            try simp only [Act.put, List.setIfInBounds_toArray, List.set_cons_zero, List.set_cons_succ]
            refine wpAnyH_ready (rs := [23]) (by kernel_rfl) (by simp) ?_
            refine AllReadyH.cons rfl (fun K2 hK => ?_) AllReadyH.nil
            rw [if_pos (by rfl)]
            refine wp_append_lies _ (.tmp 20) (.tmp 41) 22 rfl w.heap.size 42 i0 (.agg #[.int .i64 0, .slice none 0 0, .int .i64 0]) 3 40 Tryd.underlying22 hi0 hz0 hz1 hz2 rfl (by decide) _ l'.length (snmCs l') rfl (HR1.out.own.alloc _) ⟨V1.heap.size, 0, none⟩ 1 1 [.int .i64 x.c, .slice v2 its.length d2, .int .i64 x.u] rfl rfl (World.news_of_block (cs := #[.int .i64 x.c, .slice v2 its.length d2, .int .i64 x.u]) (t := 42) (fr := (0, 0)) (by first | exact World.alloc_heap_new V1 _ | exact heap_alloc_new V1 _)) (by simp [Value.oneCell']) (by decide) (by unfold maxLen; omega) (by omega) (by rw [World.size_alloc]; omega) _ rfl ?_
            intro g cg w4 ho4 hg4 hat hlt4
            have hcl := cut_end (mk := ⟨x.c, its, v2, d2, x.u⟩) HR1.out HO1.out ho4 hg4
            rw [show (⟨x.c, its, v2, d2, x.u⟩ : SnM).p = cutS x.p from HXE.out.symm, ← HSN.out] at hcl
            have HEND := Lib.hid (And.intro hcl.1 (Lib.hid hcl.2))
            obtain ⟨b0, b1, bf0, bf1⟩ := obj2 hcl.1
            have MK4 := Lib.hid (show ∀ b o, b ≤ w.heap.size → w4.cell? ⟨b, o, none⟩ = D.cell? ⟨b, o, none⟩ from fun b o h => (World.cell?_of_block (w := V1) (a := ⟨b, o, none⟩) ((hg4.block b (by rw [World.size_alloc]; omega) (fun e => by by_cases eb : b = w.heap.size; (subst eb; exact obj_not_row HR1.out.p (by decide) HR1.out.own e); (have := (row_lt HR1.out.own e.symm).1; omega))).trans (Below.heap_alloc V1 _ b (by omega)))).trans (MK1.out b o h))
            clear hcl ho4 hg4 hat hlt4
            refine hK.out _ _ ?_ (fun hHeld => ?_)
            · exact MK.out _ MK4.out
            clear hK K2
            try simp only [Act.put, List.setIfInBounds_toArray, List.set_cons_zero, List.set_cons_succ]
            refine takeH (i := 24) (some 43) (v := ?_) rfl rfl (by kernel_rfl) (by kernel_rfl) (by kernel_rfl) (fun _ _ _ h => h) (Or.inl ⟨by rfl, ?hyT724⟩) hHeld ?restT724
            case hyT724 => (intro w hSw; (try dsimp only at hSw); go_simp; (try with_reducible rfl))
            try simp only [Act.put, List.setIfInBounds_toArray, List.set_cons_zero, List.set_cons_succ]
            refine wpAnyH_ready (rs := [25]) (by kernel_rfl) (by simp) ?_
            refine AllReadyH.cons rfl (fun K2 hK => ?_) AllReadyH.nil
            go_simp
            refine hK.out _ _ ?_ (fun hHeld => ?_)
            · exact MK.out _ (fun b o h => (set_other _ _ (by omega)).trans (MK4.out b o h))
            clear hK K2
            try simp only [Act.put, List.setIfInBounds_toArray, List.set_cons_zero, List.set_cons_succ]
            refine wpAnyH_done (by kernel_rfl) ?_ _
            go_wp2
            go_roundw
            case rel => exact ⟨k + 1, _, _, by omega, by omega, by go_num, by simp [HLK.out], HEND.out.2⟩
            case measure => simp [intOf]; omega
      · have h5' : ¬ (k : Int) < 5 := by omega
        obtain rfl : k = 5 := by omega
        have HCL := Lib.hid (show cutL (l.map SnM.p) = ((l.take 5).map SnM.p).map cutS by unfold cutL; rw [← List.map_take])
        obtain ⟨r0, r1, rf0, rf1⟩ := obj2 HR.out.r
        go_wp2
        have e0 : (((wr.setCell ⟨w.heap.size + 1, 0, none⟩ (.slice ao l'.length co)).setCell ⟨w.heap.size + 1, 1, none⟩ (.int .i64 n))).cell? ⟨w.heap.size + 1, 0, none⟩ = some (.slice ao l'.length co) := by go_simp
        have e1 : (((wr.setCell ⟨w.heap.size + 1, 0, none⟩ (.slice ao l'.length co)).setCell ⟨w.heap.size + 1, 1, none⟩ (.int .i64 n))).cell? ⟨w.heap.size + 1, 1, none⟩ = some (.int .i64 n) := by go_simp
        refine bodyPost_ret (results_cell rfl _ _ (by rfl) (pool_load e0 e1)) rfl ⟨ao, co, l', rfl, ?_, ?_, ?_⟩
        · exact cut_plat HR.out
        · rw [HR.out.map, HCL.out]
        · exact (HR.out.below.setCell (p := ⟨w.heap.size + 1, 0, none⟩) (Nat.le_succ _) _).setCell (p := ⟨w.heap.size + 1, 1, none⟩) (Nat.le_succ _) _
    · have hlt' : ¬ (k : Int) < (l.length : Int) := by omega
      obtain rfl : k = l.length := by omega
      have HCL := Lib.hid (show cutL (l.map SnM.p) = ((l.take l.length).map SnM.p).map cutS by unfold cutL; rw [List.take_of_length_le (show (l.map SnM.p).length ≤ 5 by rw [List.length_map]; omega), List.take_length])
      obtain ⟨r0, r1, rf0, rf1⟩ := obj2 HR.out.r
      go_wp2
      have e0 : (((wr.setCell ⟨w.heap.size + 1, 0, none⟩ (.slice ao l'.length co)).setCell ⟨w.heap.size + 1, 1, none⟩ (.int .i64 n))).cell? ⟨w.heap.size + 1, 0, none⟩ = some (.slice ao l'.length co) := by go_simp
      have e1 : (((wr.setCell ⟨w.heap.size + 1, 0, none⟩ (.slice ao l'.length co)).setCell ⟨w.heap.size + 1, 1, none⟩ (.int .i64 n))).cell? ⟨w.heap.size + 1, 1, none⟩ = some (.int .i64 n) := by go_simp
      refine bodyPost_ret (results_cell rfl _ _ (by rfl) (pool_load e0 e1)) rfl ⟨ao, co, l', rfl, ?_, ?_, ?_⟩
      · exact cut_plat HR.out
      · rw [HR.out.map, HCL.out]
      · exact (HR.out.below.setCell (p := ⟨w.heap.size + 1, 0, none⟩) (Nat.le_succ _) _).setCell (p := ⟨w.heap.size + 1, 1, none⟩) (Nat.le_succ _) _
end Go.Proofs.YtgceecfjammnaaaDoor.L16
