/- O, S -/
import Derived.Test.YtikpmkidfppknaaGreatDoorZ3
import Derived.Laws.StructEq
set_option linter.unusedVariables false
set_option linter.unusedSimpArgs false
/- mix. -/
namespace Go.Proofs.YtikpmkidfppknaaGreatDoor
open Go.RowKit Go.Shelf
attribute [local go_sem] Oper.semAt_some

/-- The program's two tables. -/
structure Tabs (W : World) : Prop where
  b0 : W.cell? ⟨1, 0, none⟩ = some (.int .u32 (beg.a.toNat : Int))
  b1 : W.cell? ⟨1, 1, none⟩ = some (.int .u32 (beg.b.toNat : Int))
  b2 : W.cell? ⟨1, 2, none⟩ = some (.int .u32 (beg.c.toNat : Int))
  b3 : W.cell? ⟨1, 3, none⟩ = some (.int .u32 (beg.d.toNat : Int))
  b4 : W.cell? ⟨1, 4, none⟩ = some (.int .u32 (beg.e.toNat : Int))
  b5 : W.cell? ⟨1, 5, none⟩ = some (.int .u32 (beg.f.toNat : Int))
  b6 : W.cell? ⟨1, 6, none⟩ = some (.int .u32 (beg.g.toNat : Int))
  b7 : W.cell? ⟨1, 7, none⟩ = some (.int .u32 (beg.h.toNat : Int))
  r : ∀ (j : Nat) (x : Wd), rootsL[j]? = some x → W.cell? ⟨2, j, none⟩ = some (.int .u32 (x.toNat : Int))
theorem Tabs.block {W W' : World} (h : Tabs W) (k1 : W'.heap[1]? = W.heap[1]?) (k2 : W'.heap[2]? = W.heap[2]?) : Tabs W' := by
  have kc : ∀ i, W'.cell? ⟨1, i, none⟩ = W.cell? ⟨1, i, none⟩ := fun i => World.cell?_of_block (w := W) k1
  have kr : ∀ i, W'.cell? ⟨2, i, none⟩ = W.cell? ⟨2, i, none⟩ := fun i => World.cell?_of_block (w := W) k2
  exact ⟨(kc 0).trans h.b0, (kc 1).trans h.b1, (kc 2).trans h.b2, (kc 3).trans h.b3, (kc 4).trans h.b4, (kc 5).trans h.b5, (kc 6).trans h.b6, (kc 7).trans h.b7, fun j x hx => (kr j).trans (h.r j x hx)⟩
theorem Tabs.lt1 {W : World} (h : Tabs W) : 1 < W.heap.size := blt h.b0
theorem Tabs.lt2 {W : World} (h : Tabs W) : 2 < W.heap.size := blt (h.r 0 _ rfl)
theorem Tabs.on {W W' : World} (h : Tabs W) (k : Below W.heap.size W W') : Tabs W' := h.block (k.block _ h.lt1) (k.block _ h.lt2)
theorem Tabs.grown {W W' : World} {b : Nat} (h : Tabs W) (k : W.grownBy W' (some b)) (h1 : b ≠ 1) (h2 : b ≠ 2) : Tabs W' :=
  h.block (k.block _ h.lt1 (fun e => by cases e; exact h1 rfl)) (k.block _ h.lt2 (fun e => by cases e; exact h2 rfl))
def zeroS : Sta := ⟨0, 0, 0, 0, 0, 0, 0, 0⟩
def foldS (st : Sta) (xs : List Blk) : Sta := xs.foldl (fun s x => blockS s (bL x.t)) st
theorem foldS_snoc (st : Sta) (xs : List Blk) (x : Blk) : foldS st (xs ++ [x]) = blockS (foldS st xs) (bL x.t) := by
  unfold foldS
  rw [List.foldl_append]
  rfl
/-- What holds between two rounds. -/
structure MixI (B : Nat) (w : World) (pre : List Blk) (Pv : Nat → Prop) (W : World) : Prop where
  st : StaAt B (foldS beg pre) W
  box : W.cell? ⟨w.heap.size, 0, none⟩ = some (.pointer (some ⟨B, 0, none⟩))
  tabs : Tabs W
  grown : w.grownBy W (some B)
  pv : ∀ i, Pv i → w.heap.size < i
  lt : B < w.heap.size
  t1 : 1 < w.heap.size
  t2 : 2 < w.heap.size
theorem MixI.steady (B : Nat) (w : World) : Steady (MixI B w) := by
  rintro s Pv Pv' X Y ⟨h1, h2, h3, h4, h5, h6, h7, h8⟩ hg hm
  have hX := h4.size
  have np : ∀ i, i ≤ w.heap.size → ¬ Pv i := fun i hi h => by have := h5 i h; omega
  have hbx := blt h2
  refine ⟨h1.block (hg.same B h1.lt (np B (by omega))), hg.cell h2 (np _ (Nat.le_refl _)), h3.block (hg.same _ h3.lt1 (np _ (by omega))) (hg.same _ h3.lt2 (np _ (by omega))), ?_, ?_, h6, h7, h8⟩
  · exact ⟨hg.os.trans h4.os, hg.tape.trans h4.tape, hg.output.trans h4.output, Nat.le_trans hX hg.size, fun i hi hne => (hg.same i (by omega) (np i (by omega))).trans (h4.block i hi hne)⟩
  · intro i hi
    rcases hm i hi with h | ⟨h, _⟩
    · exact h5 i h
    · omega
theorem wVs_one (l : List Wd) : (wVs l).toArray.all (·.oneCell') = true := by
  refine Array.all_eq_true_iff_forall_mem.2 (fun v hv => ?_)
  obtain ⟨x, _, rfl⟩ := List.mem_map.1 (show v ∈ l.map wV by simpa [wVs] using hv)
  rfl
theorem wpListIn_store_wds {F : Fence} {n : Nat} {P : Program} {w : World} {ops : Array Oper} {rest : List Oper} {o : Oper} {a : Act} {Q : Exit → Act → World → Prop} (hgd : o.guard = none) (p x : Operand) (ty : TypeId) (ho : o.op = .store ty p x) (hdst : o.dst = none)
    (g : Nat) (t : TypeId) (old : Array Value) (l : List Wd) (hp : a.eval p = .pointer (some ⟨g, 0, none⟩)) (hx : a.eval x = .agg (wVs l).toArray) (hg : w.heap[g]? = some (.cells old t (0, 0)))
    (hi : (P.info? ty).map (·.size) = some (wVs l).toArray.size) (hz : old.size = (wVs l).toArray.size) (B : Nat) (w0 : World) (hb : Below B w0 w) (hBg : B ≤ g)
    (h : ∀ w', WdsAt g l w' → Below B w0 w' → wpListIn F n P ops Q rest (a.put none undef) w') : wpListIn F n P ops Q (o :: rest) a w := by
  refine wpListIn_plain hgd fun K hK => ?_
  have hrun := run_storeVar_row (P := P) w g t ty old _ hg hi hz (wVs_one l)
  unfold Oper.wpIn
  refine ⟨?_, ?_⟩
  · simp [Oper.about, ho]
  · rw [Oper.semAt_plain F _ _ (by rw [ho]; intro c hc'; cases hc')]
    simp [execOp, ho, hp, hx, Instr.storeAt, Instr.sureAddr, hrun, Result.andThen]
    exact hK _ _ (by rw [hdst]; exact h _ ⟨⟨t, setRow_heap w g old _ t _ hg⟩⟩ (below_setRow hb hBg _))
theorem rounds_take (st : Sta) (SC : List Wd) (k : Nat) (x1 x2 : Wd) (h1 : rootsL[k]? = some x1) (h2 : SC[k]? = some x2) : roundsS st ((rootsL.zip SC).take (k + 1)) = roundS (roundsS st ((rootsL.zip SC).take k)) x1 x2 := by
  have h : (rootsL.zip SC)[k]? = some (x1, x2) := by
    rw [List.getElem?_zip_eq_some]
    exact ⟨h1, h2⟩
  unfold roundsS
  rw [List.take_add_one, h, List.foldl_append]
  rfl
theorem blocks_c (s : ByteArray) (w : World) : Calls Tryz.prog 82 #[.string s] w fun x w' => x = .returned (.func (.func 95) #[] #[.pointer (some ⟨w.heap.size, 0, none⟩)]) ∧ w' = w.alloc (.cells #[.string s] 9) := by
  go_enter Tryz.func82, Tryz.ntmps82
  go_wp2
  go_ret
  exact ⟨rfl, rfl⟩
theorem eq_zero (W : World) : (Op.equalIn 10000 98 (.agg #[.int .u32 0, .int .u32 0, .int .u32 0, .int .u32 0, .int .u32 0, .int .u32 0, .int .u32 0, .int .u32 0]) (.agg #[.int .u32 0, .int .u32 0, .int .u32 0, .int .u32 0, .int .u32 0, .int .u32 0, .int .u32 0, .int .u32 0])).run Tryz.prog W = .ok true W := by kernel_rfl
set_option maxRecDepth 100000 in
set_option maxHeartbeats 8000000 in
theorem mix_c (B : Nat) (s : ByteArray) (hs : s.size ≤ 100000) (w : World) (hS : StaAt B zeroS w) (hT : Tabs w) (hB1 : B ≠ 1) (hB2 : B ≠ 2) : Calls Tryz.prog 65 #[.pointer (some ⟨B, 0, none⟩), .string s] w fun r w' => (∃ v, r = .returned v) ∧ StaAt B (foldS beg (blocksB s)) w' ∧ w.grownBy w' (some B) := by
  refine (callsIn_wide (n := 8)).1 ?_
  have HS := Lib.hid hS
  have HT := Lib.hid hT
  have hBl := hS.lt
  have hl1 := hT.lt1
  have hl2 := hT.lt2
  obtain ⟨c0, c1, c2, c3, c4, c5, c6, c7, f0, f1, f2, f3, f4, f5, f6, f7⟩ := hS
  obtain ⟨b0, b1, b2, b3, b4, b5, b6, b7, _⟩ := hT
  simp only [zeroS] at c0 c1 c2 c3 c4 c5 c6 c7
  rw [show (((0 : Wd).toNat : Nat) : Int) = 0 from rfl] at c0 c1 c2 c3 c4 c5 c6 c7
  refine callsIn_of_wp_marks Tryz.func65 rfl trivial ?_ rfl
  simp only [Tryz.ntmps65, List.size_toArray, List.length_cons, List.length_nil, Nat.reduceAdd, Nat.reduceSub, Array.replicate_succ, Array.replicate_zero, List.push_toArray, List.append_toArray, List.nil_append, List.cons_append]
  gi_wp2
  refine wpIn_scope_straight ?_
  have HEq := eq_zero
  have HBl := Lib.hid (fun W => blocks_c s W)
  gi_wp2_with fail
  refine wpIn_label ?_
  gi_wp2_with fail
  refine ⟨trivial, (callsIn_wide.2 (HBl.out _)).mono ?_⟩
  rintro e w' ⟨rfl, rfl⟩
  clear HBl
  have hP : StaAt B beg (putSta w B beg) := HS.out.put beg
  have hG : w.grownBy (putSta w B beg) (some B) := gr_put (gr_below (Below.refl _ w)) beg
  have hTP := HT.out.grown hG hB1 hB2
  have hsz : (putSta w B beg).heap.size = w.heap.size := by simp [putSta]
  rw [show (((((((w.setCell ⟨B, 0, none⟩ (.int .u32 (beg.a.toNat : Int))).setCell ⟨B, 1, none⟩ (.int .u32 (beg.b.toNat : Int))).setCell ⟨B, 2, none⟩ (.int .u32 (beg.c.toNat : Int))).setCell ⟨B, 3, none⟩ (.int .u32 (beg.d.toNat : Int))).setCell ⟨B, 4, none⟩ (.int .u32 (beg.e.toNat : Int))).setCell ⟨B, 5, none⟩ (.int .u32 (beg.f.toNat : Int))).setCell ⟨B, 6, none⟩ (.int .u32 (beg.g.toNat : Int))).setCell ⟨B, 7, none⟩ (.int .u32 (beg.h.toNat : Int)) = putSta w B beg from rfl]
  generalize putSta w B beg = w1 at *
  have hV : Below w1.heap.size w1 ((w1.alloc (.cells #[.pointer (some ⟨B, 0, none⟩)] 126)).alloc (.cells #[.string s] 9)) := bal (below_alloc w1 _) _
  have hbx : ((w1.alloc (.cells #[.pointer (some ⟨B, 0, none⟩)] 126)).alloc (.cells #[.string s] 9)).cell? ⟨w.heap.size, 0, none⟩ = some (.pointer (some ⟨B, 0, none⟩)) := by rw [← hsz]; go_simp
  have hst : ((w1.alloc (.cells #[.pointer (some ⟨B, 0, none⟩)] 126)).alloc (.cells #[.string s] 9)).cell? ⟨w.heap.size + 1, 0, none⟩ = some (.string s) := by rw [← hsz]; go_simp
  have hI : MixI B w [] (fun _ => False) ((w1.alloc (.cells #[.pointer (some ⟨B, 0, none⟩)] 126)).alloc (.cells #[.string s] 9)) :=
    ⟨hP.on hV, hbx, hTP.on hV, gr_grown hG (row := none) ⟨hV.os, hV.tape, hV.output, hV.size, fun i hi _ => hV.block i hi⟩ (fun r e => by cases e), fun i h => h.elim, hBl, hl1, hl2⟩
  have hsb : (w1.alloc (.cells #[.pointer (some ⟨B, 0, none⟩)] 126)).heap.size = w.heap.size + 1 := by simp [hsz]
  rw [hsb]
  generalize ((w1.alloc (.cells #[.pointer (some ⟨B, 0, none⟩)] 126)).alloc (.cells #[.string s] 9)) = V at *
  clear hP hG hTP hV hbx hsb c0 c1 c2 c3 c4 c5 c6 c7 f0 f1 f2 f3 f4 f5 f6 f7 b0 b1 b2 b3 b4 b5 b6 b7 HEq
  have HBI := Lib.hid (blocks_it 7 (by omega) s hs (w.heap.size + 1) V hst)
  gi_wp2_with fail
  refine wpIn_range_iters (n := 8) (encs := encB) (ps := #[21]) rfl (by omega) (gf := 95) (lb := #[.pointer (some ⟨w.heap.size + 1, 0, none⟩)]) rfl trivial (enters_of Tryz.func95 (by kernel_rfl) rfl)
    HBI.out (Below.refl _ _) (fun _ => rfl) (fun i h => h.elim) (MixI B w) (fun _ _ _ _ => False) (MixI.steady B w) (fun _ _ _ _ _ _ h _ _ => h) hI ?round ?done ?stop
  case round =>
    clear HBI hI HS HT
    rintro l pre ⟨t, ht⟩ Pv W hc hI2 hPl hl ⟨rec, hrec⟩
    simp only [encB]
    gi_wp2
    refine ⟨Mid.refl Pv W, fun W2 hG hr2 => ?_⟩
    have hI3 := MixI.steady B w pre Pv Pv W W2 hI2 (hG.mono (fun i h => h ▸ hPl)) (More.same _ _ _)
    clear hI2 hG hr2 hrec
    obtain ⟨h1, h2, h3, h4, h5, h6, h7, h8⟩ := hI3
    have HSC := Lib.hid (fun W => schedule_c t ht W)
    have hla := schedL_length (bL t) 64
    obtain ⟨SC, hSC⟩ : ∃ SC, SC = schedL (bL t) 64 := ⟨_, rfl⟩
    rw [← hSC] at HSC hla
    have HBK := Lib.hid (show blockS (foldS beg pre) (bL t) = joinS (foldS beg pre) (roundsS (foldS beg pre) (rootsL.zip SC)) by rw [hSC]; rfl)
    have HFS := Lib.hid (foldS_snoc beg pre ⟨t, ht⟩)
    clear hSC
    generalize foldS beg pre = st at *
    have hbox := h2
    have hBW := h1.lt
    have hwW := h4.size
    have hz : (wVs SC).toArray.size = 64 := by rw [List.size_toArray, wVs, List.length_map, hla]
    have ha : (wVs SC).toArray.all (·.oneCell') = true := wVs_one SC
    gi_wp2_with fail
    refine ⟨trivial, (CallsIn.inRound l (callsIn_wide.2 (HSC.out _))).mono ?_⟩
    rintro e w2 ⟨rfl, hb2⟩
    gi_wp2_with (refine wpListIn_store_wds rfl (.tmp 5) (.tmp 23) 130 rfl rfl w2.heap.size 130 _ SC rfl rfl (World.alloc_heap_new w2 _) (by rw [hz]; kernel_rfl) (by rw [hz]; rfl) W2.heap.size W2 (bal hb2 _) hb2.size ?_; intro w3 hW3 hb3; have hbox3 := (hb3.cell (p := ⟨w.heap.size, 0, none⟩) (blt h2)).trans h2; have HS3 := Lib.hid (h1.on hb3); obtain ⟨c0, c1, c2, c3, c4, c5, c6, c7, _, _, _, _, _, _, _, _⟩ := h1.on hb3)
    have hT0 : StaAt w3.heap.size st (w3.alloc (.cells #[.int .u32 (st.a.toNat : Int), .int .u32 (st.b.toNat : Int), .int .u32 (st.c.toNat : Int), .int .u32 (st.d.toNat : Int), .int .u32 (st.e.toNat : Int), .int .u32 (st.f.toNat : Int), .int .u32 (st.g.toNat : Int), .int .u32 (st.h.toNat : Int)] 98)) := ⟨by go_simp, by go_simp, by go_simp, by go_simp, by go_simp, by go_simp, by go_simp, by go_simp, by go_simp, by go_simp, by go_simp, by go_simp, by go_simp, by go_simp, by go_simp, by go_simp⟩
    have hb4 : Below W2.heap.size W2 (w3.alloc (.cells #[.int .u32 (st.a.toNat : Int), .int .u32 (st.b.toNat : Int), .int .u32 (st.c.toNat : Int), .int .u32 (st.d.toNat : Int), .int .u32 (st.e.toNat : Int), .int .u32 (st.f.toNat : Int), .int .u32 (st.g.toNat : Int), .int .u32 (st.h.toNat : Int)] 98)) := bal hb3 _
    have hW4 := hW3.on (below_alloc w3 (.cells #[.int .u32 (st.a.toNat : Int), .int .u32 (st.b.toNat : Int), .int .u32 (st.c.toNat : Int), .int .u32 (st.d.toNat : Int), .int .u32 (st.e.toNat : Int), .int .u32 (st.f.toNat : Int), .int .u32 (st.g.toNat : Int), .int .u32 (st.h.toNat : Int)] 98))
    have hTz := hb3.size
    have hWz := hb2.size
    have hWT := hW3.lt
    have hB2z := h4.size
    generalize (w3.alloc (.cells #[.int .u32 (st.a.toNat : Int), .int .u32 (st.b.toNat : Int), .int .u32 (st.c.toNat : Int), .int .u32 (st.d.toNat : Int), .int .u32 (st.e.toNat : Int), .int .u32 (st.f.toNat : Int), .int .u32 (st.g.toNat : Int), .int .u32 (st.h.toNat : Int)] 98)) = w4 at *
    generalize w3.heap.size = T at *
    generalize w2.heap.size = Wb at *
    clear c0 c1 c2 c3 c4 c5 c6 c7 hbox3 HS3 hb2 hb3 hW3 hz ha HSC
    gi_loopw [8] (fun i wr => ∃ k : Nat, k ≤ 64 ∧ i = .int .i64 (k : Int) ∧ StaAt T (roundsS st ((rootsL.zip SC).take k)) wr ∧ WdsAt Wb SC wr ∧ Below W2.heap.size W2 wr) (fun i _ => 64 - (intOf i).toNat)
    case atStart => exact ⟨0, by omega, rfl, hT0, hW4, hb4⟩
    case round =>
      obtain ⟨k, hk, rfl, hTf, hWk, hbk⟩ := hrel
      clear hT0 hW4 hb4
      have hBf := h1.on hbk
      have hTb := h3.on hbk
      have hbx := (hbk.cell (p := ⟨w.heap.size, 0, none⟩) (blt h2)).trans h2
      have hzr := hTb.lt2
      have hzw := hWk.lt
      have hTw : T ≠ Wb := by omega
      have hTr : T ≠ 2 := by omega
      by_cases hlt : k < 64
      · have hne : ¬ (k : Int) = 64 := by omega
        have hlt' : (k : Int) < 64 := by omega
        obtain ⟨x1, hx1⟩ : ∃ x, rootsL[k]? = some x := ⟨_, List.getElem?_eq_getElem (by show k < 64; exact hlt)⟩
        obtain ⟨x2, hx2⟩ : ∃ x, SC[k]? = some x := ⟨_, List.getElem?_eq_getElem (by rw [hla]; exact hlt)⟩
        have HN := Lib.hid (rounds_take st SC k x1 x2 hx1 hx2)
        have hcr := hTb.r k x1 hx1
        have hcw := hWk.cell hx2
        have hcr' : wr.drew.cell? ⟨2, k, none⟩ = some (.int .u32 (x1.toNat : Int)) := hcr
        have hcw' : wr.drew.cell? ⟨Wb, k, none⟩ = some (.int .u32 (x2.toNat : Int)) := hcw
        have HBk := Lib.hid hbk
        have HWk := Lib.hid hWk
        have HTf := Lib.hid hTf
        generalize roundsS st ((rootsL.zip SC).take k) = fin at *
        have HRD := Lib.hid (fun W hS => round_c T fin x1 x2 W hS)
        clear hbk hWk hTf hBf hTb hbx hx1 hx2 hcr hcw
        gi_wp2_with fail
        refine wpIn_region_held_drew (S := (fun w' => w'.cell? ⟨2, k, none⟩ = some (.int .u32 (x1.toNat : Int)) ∧ w'.cell? ⟨Wb, k, none⟩ = some (.int .u32 (x2.toNat : Int)))) (by kernel_rfl) (by kernel_rfl) (by rintro ⟨_, _, h⟩; exact h) ⟨hcr', hcw'⟩ (fun hHeld => ?_)
        refine takeH (i := 0) (some 38) (v := ?_) rfl rfl (by kernel_rfl) (by kernel_rfl) (by kernel_rfl) (fun _ _ _ h => h) (Or.inl ⟨by rfl, ?hyR0⟩) hHeld ?restR0
        case hyR0 => (intro w hSw; (try dsimp only at hSw); go_simp; (try with_reducible rfl))
        try simp only [Act.put, List.setIfInBounds_toArray, List.set_cons_zero, List.set_cons_succ]
        refine takeH (i := 1) (some 39) (v := ?_) rfl rfl (by kernel_rfl) (by kernel_rfl) (by kernel_rfl) (fun _ _ _ h => h) (Or.inl ⟨by rfl, ?hyR1⟩) hHeld ?restR1
        case hyR1 => (intro w hSw; (try dsimp only at hSw); go_simp; (try with_reducible rfl))
        try simp only [Act.put, List.setIfInBounds_toArray, List.set_cons_zero, List.set_cons_succ]
        refine takeH (i := 2) (some 40) (v := ?_) rfl rfl (by kernel_rfl) (by kernel_rfl) (by kernel_rfl) (fun _ _ _ h => h) (Or.inl ⟨by rfl, ?hyR2⟩) hHeld ?restR2
        case hyR2 => (intro w hSw; (try dsimp only at hSw); go_simp; (try with_reducible rfl))
        try simp only [Act.put, List.setIfInBounds_toArray, List.set_cons_zero, List.set_cons_succ]
        refine takeH (i := 3) (some 41) (v := ?_) rfl rfl (by kernel_rfl) (by kernel_rfl) (by kernel_rfl) (fun _ _ _ h => h) (Or.inl ⟨by rfl, ?hyR3⟩) hHeld ?restR3
        case hyR3 => (intro w hSw; (try dsimp only at hSw); go_simp; (try with_reducible rfl))
        try simp only [Act.put, List.setIfInBounds_toArray, List.set_cons_zero, List.set_cons_succ]
        refine takeH (i := 4) (some 42) (v := ?_) rfl rfl (by kernel_rfl) (by kernel_rfl) (by kernel_rfl) (fun _ _ _ h => h) (Or.inl ⟨by rfl, ?hyR4⟩) hHeld ?restR4
        case hyR4 => (intro w hSw; (try dsimp only at hSw); go_simp; (try with_reducible rfl))
        try simp only [Act.put, List.setIfInBounds_toArray, List.set_cons_zero, List.set_cons_succ]
        refine takeH (i := 5) (some 43) (v := ?_) rfl rfl (by kernel_rfl) (by kernel_rfl) (by kernel_rfl) (fun _ _ _ h => h) (Or.inl ⟨by rfl, ?hyR5⟩) hHeld ?restR5
        case hyR5 => (intro w hSw; (try dsimp only at hSw); go_simp; (try with_reducible rfl))
        try simp only [Act.put, List.setIfInBounds_toArray, List.set_cons_zero, List.set_cons_succ]
        refine takeH (i := 6) (some 44) (v := ?_) rfl rfl (by kernel_rfl) (by kernel_rfl) (by kernel_rfl) (fun _ _ _ h => h) (Or.inl ⟨by rfl, ?hyR6⟩) hHeld ?restR6
        case hyR6 => (intro w hSw; (try dsimp only at hSw); go_simp; (try with_reducible rfl))
        try simp only [Act.put, List.setIfInBounds_toArray, List.set_cons_zero, List.set_cons_succ]
        refine wpAnyH_ready (rs := [7]) (by kernel_rfl) (by simp) ?_
        refine AllReadyH.cons rfl (fun K hK => ?_) AllReadyH.nil
        go_simp
        with_reducible refine (HRD.out _ HTf.out.drew).mono ?_; rintro e w5 ⟨⟨v, rfl⟩, hst5, hg5⟩
        refine hK.out _ _ ?_ (fun hHeld => ?_)
        · exact ⟨(World.cell?_of_block (hg5.block _ hzr (fun e => hTr (by cases e; rfl)))).trans hcr', (World.cell?_of_block (hg5.block _ hzw (fun e => hTw (by cases e; rfl)))).trans hcw'⟩
        clear hK K
        try simp only [Act.put, List.setIfInBounds_toArray, List.set_cons_zero, List.set_cons_succ]
        refine wpAnyH_done (by kernel_rfl) ?_ _
        have hb5 : Below W2.heap.size W2 w5 := (below_drew HBk.out).grown hg5 (by have := HBk.out.size; exact this) (fun j hj => by cases hj; exact hTz)
        have hW5 : WdsAt Wb SC w5 := HWk.out.drew.grown hg5 (fun e => by cases e; exact hTw rfl)
        rw [← HN.out] at hst5
        gi_wp2
        go_roundw
        case rel => exact ⟨k + 1, by omega, by go_num, hst5, hW5, hb5⟩
        case measure => simp [intOf]; omega
      · have heq : (k : Int) = 64 := by omega
        obtain rfl : k = 64 := by omega
        have hfull : (rootsL.zip SC).take 64 = rootsL.zip SC := List.take_of_length_le (by rw [List.length_zip, hla]; show min 64 64 ≤ 64; omega)
        rw [hfull] at hTf
        generalize roundsS st (rootsL.zip SC) = fin at *
        have HJN := Lib.hid (show ∀ W, StaAt B st W → Calls Tryz.prog 85 #[.pointer (some ⟨B, 0, none⟩), .agg #[.int .u32 (fin.a.toNat : Int), .int .u32 (fin.b.toNat : Int), .int .u32 (fin.c.toNat : Int), .int .u32 (fin.d.toNat : Int), .int .u32 (fin.e.toNat : Int), .int .u32 (fin.f.toNat : Int), .int .u32 (fin.g.toNat : Int), .int .u32 (fin.h.toNat : Int)]] W fun r w' => (∃ v, r = .returned v) ∧ StaAt B (joinS st fin) w' ∧ W.grownBy w' (some B) from fun W h => join_c B st fin W h)
        have HK0 := Lib.hid (show wr.drew.cell? ⟨w.heap.size, 0, none⟩ = some (.pointer (some ⟨B, 0, none⟩)) ∧ wr.drew.cell? ⟨T, 0, none⟩ = some (.int .u32 (fin.a.toNat : Int)) ∧ wr.drew.cell? ⟨T, 1, none⟩ = some (.int .u32 (fin.b.toNat : Int)) ∧ wr.drew.cell? ⟨T, 2, none⟩ = some (.int .u32 (fin.c.toNat : Int)) ∧ wr.drew.cell? ⟨T, 3, none⟩ = some (.int .u32 (fin.d.toNat : Int)) ∧ wr.drew.cell? ⟨T, 4, none⟩ = some (.int .u32 (fin.e.toNat : Int)) ∧ wr.drew.cell? ⟨T, 5, none⟩ = some (.int .u32 (fin.f.toNat : Int)) ∧ wr.drew.cell? ⟨T, 6, none⟩ = some (.int .u32 (fin.g.toNat : Int)) ∧ wr.drew.cell? ⟨T, 7, none⟩ = some (.int .u32 (fin.h.toNat : Int)) from ⟨hbx, hTf.c0, hTf.c1, hTf.c2, hTf.c3, hTf.c4, hTf.c5, hTf.c6, hTf.c7⟩)
        have hbe : B ≠ w.heap.size := by omega
        have hbxz : w.heap.size < wr.drew.heap.size := blt hbx
        have hTB : B ≠ T := by omega
        have HK5 := Lib.hid (show ∀ w5, wr.drew.grownBy w5 (some B) → w5.cell? ⟨w.heap.size, 0, none⟩ = some (.pointer (some ⟨B, 0, none⟩)) ∧ w5.cell? ⟨T, 0, none⟩ = some (.int .u32 (fin.a.toNat : Int)) ∧ w5.cell? ⟨T, 1, none⟩ = some (.int .u32 (fin.b.toNat : Int)) ∧ w5.cell? ⟨T, 2, none⟩ = some (.int .u32 (fin.c.toNat : Int)) ∧ w5.cell? ⟨T, 3, none⟩ = some (.int .u32 (fin.d.toNat : Int)) ∧ w5.cell? ⟨T, 4, none⟩ = some (.int .u32 (fin.e.toNat : Int)) ∧ w5.cell? ⟨T, 5, none⟩ = some (.int .u32 (fin.f.toNat : Int)) ∧ w5.cell? ⟨T, 6, none⟩ = some (.int .u32 (fin.g.toNat : Int)) ∧ w5.cell? ⟨T, 7, none⟩ = some (.int .u32 (fin.h.toNat : Int)) from fun w5 hg => by
          have hq := hTf.drew.grown hg (fun e => by cases e; exact hTB rfl)
          exact ⟨(World.cell?_of_block (hg.block _ hbxz (fun e => by cases e; exact hbe rfl))).trans hbx, hq.c0, hq.c1, hq.c2, hq.c3, hq.c4, hq.c5, hq.c6, hq.c7⟩)
        have HBk := Lib.hid hbk
        have HTb := Lib.hid hTb
        have HBf := Lib.hid hBf
        have HBX := Lib.hid hbx
        clear hbk hTb hBf hbx hWk hTf
        gi_wp2_with fail
        refine wpIn_region_held_drew (S := (fun w' => w'.cell? ⟨w.heap.size, 0, none⟩ = some (.pointer (some ⟨B, 0, none⟩)) ∧ w'.cell? ⟨T, 0, none⟩ = some (.int .u32 (fin.a.toNat : Int)) ∧ w'.cell? ⟨T, 1, none⟩ = some (.int .u32 (fin.b.toNat : Int)) ∧ w'.cell? ⟨T, 2, none⟩ = some (.int .u32 (fin.c.toNat : Int)) ∧ w'.cell? ⟨T, 3, none⟩ = some (.int .u32 (fin.d.toNat : Int)) ∧ w'.cell? ⟨T, 4, none⟩ = some (.int .u32 (fin.e.toNat : Int)) ∧ w'.cell? ⟨T, 5, none⟩ = some (.int .u32 (fin.f.toNat : Int)) ∧ w'.cell? ⟨T, 6, none⟩ = some (.int .u32 (fin.g.toNat : Int)) ∧ w'.cell? ⟨T, 7, none⟩ = some (.int .u32 (fin.h.toNat : Int)))) (by kernel_rfl) (by kernel_rfl) (by rintro ⟨_, _, h⟩; exact h) HK0.out (fun hHeld => ?_)
        refine takeH (i := 0) (some 33) (v := ?_) rfl rfl (by kernel_rfl) (by kernel_rfl) (by kernel_rfl) (fun _ _ _ h => h) (Or.inl ⟨by rfl, ?hyJ0⟩) hHeld ?restJ0
        case hyJ0 => (intro w hSw; (try dsimp only at hSw); go_simp; (try with_reducible rfl))
        try simp only [Act.put, List.setIfInBounds_toArray, List.set_cons_zero, List.set_cons_succ]
        refine takeH (i := 1) (some 34) (v := ?_) rfl rfl (by kernel_rfl) (by kernel_rfl) (by kernel_rfl) (fun _ _ _ h => h) (Or.inl ⟨by rfl, ?hyJ1⟩) hHeld ?restJ1
        case hyJ1 => (intro w hSw; (try dsimp only at hSw); go_simp; (try with_reducible rfl))
        try simp only [Act.put, List.setIfInBounds_toArray, List.set_cons_zero, List.set_cons_succ]
        refine takeH (i := 2) (some 35) (v := ?_) rfl rfl (by kernel_rfl) (by kernel_rfl) (by kernel_rfl) (fun _ _ _ h => h) (Or.inl ⟨by rfl, ?hyJ2⟩) hHeld ?restJ2
        case hyJ2 => (intro w hSw; (try dsimp only at hSw); go_simp; (try with_reducible rfl))
        try simp only [Act.put, List.setIfInBounds_toArray, List.set_cons_zero, List.set_cons_succ]
        refine takeH (i := 3) (some 36) (v := ?_) rfl rfl (by kernel_rfl) (by kernel_rfl) (by kernel_rfl) (fun _ _ _ h => h) (Or.inl ⟨by rfl, ?hyJ3⟩) hHeld ?restJ3
        case hyJ3 => (intro w hSw; (try dsimp only at hSw); go_simp; (try with_reducible rfl))
        try simp only [Act.put, List.setIfInBounds_toArray, List.set_cons_zero, List.set_cons_succ]
        refine wpAnyH_ready (rs := [4]) (by kernel_rfl) (by simp) ?_
        refine AllReadyH.cons rfl (fun K hK => ?_) AllReadyH.nil
        go_simp
        with_reducible refine (HJN.out _ HBf.out.drew).mono ?_; rintro e w5 ⟨⟨v, rfl⟩, hst5, hg5⟩
        refine hK.out _ _ ?_ (fun hHeld => ?_)
        · exact HK5.out _ hg5
        clear hK K
        try simp only [Act.put, List.setIfInBounds_toArray, List.set_cons_zero, List.set_cons_succ]
        refine wpAnyH_done (by kernel_rfl) ?_ _
        have G1 : w.grownBy w5 (some B) := gr_grown (gr_drew (gr_grown h4 (row := none) ⟨HBk.out.os, HBk.out.tape, HBk.out.output, HBk.out.size, fun i hi _ => HBk.out.block i hi⟩ (fun r e => by cases e))) hg5 (fun r e => by cases e; exact .inl rfl)
        have M1 : Mid Pv W2 w5 := (Mid.of_below (below_drew HBk.out)).trans (Mid.of_grown hg5 (fun r e => by cases e; intro hp; have := h5 _ hp; omega))
        have T1 : Tabs w5 := (HTb.out.on (below_drew (Below.refl _ wr))).grown hg5 hB1 hB2
        have X1 := (HK5.out w5 hg5).1
        have Q1 : itPost (MixI B w) (fun _ _ _ _ => False) (pre ++ [⟨t, ht⟩]) Pv W2 .normal { tmps := #[], defers := [] } w5 :=
          ⟨⟨by rw [HFS.out, HBK.out]; exact hst5, X1, T1, G1, h5, h6, h7, h8⟩, M1⟩
        gi_wp2
        exact Q1
  case done =>
    rintro D xs Pv W hlD hpD rfl hIs hdef
    have HI := Lib.hid hIs
    gi_wp2
    rw [Exit.noGoto_normal]
    have hVz : w.heap.size + 1 < V.heap.size := blt hst
    refine ⟨by simp, .inl ⟨_, _, rfl, run_takeDeferred hdef, ?_⟩⟩
    refine ⟨_, results_none rfl _ _ _, ⟨_, rfl⟩, HI.out.st.block (World.putObj_heap_other (by omega)), gr_grown HI.out.grown (grownBy_putObj' W D _) (fun r e => by cases e; exact .inr (by omega))⟩
  case stop =>
    rintro D c pre Pv W _ _ _ h _
    exact h.elim
end Go.Proofs.YtikpmkidfppknaaGreatDoor

/- Sum. -/
namespace Go.Proofs.YtikpmkidfppknaaGreatDoor
open Go.RowKit Go.Shelf
attribute [local go_sem] Oper.semAt_some

theorem foldS_cons (st : Sta) (x : Blk) (xs : List Blk) : foldS st (x :: xs) = foldS (blockS st (bL x.t)) xs := by unfold foldS; rw [List.foldl_cons]
theorem foldS_range (p : ByteArray) : ∀ (n k : Nat) (st : Sta), 64 * (k + n) ≤ p.size → foldS st ((List.range' k n).map (blkAt p)) = mixS st n ((bL p).drop (64 * k))
  | 0, _, _, _ => rfl
  | n + 1, k, st, h => by
    rw [List.range'_succ, List.map_cons, foldS_cons, foldS_range p n (k + 1) _ (by omega), mixS, blkAt_t p k (by omega), bL_extract, List.drop_take, show 64 * k + 64 - 64 * k = 64 by omega, List.drop_drop, show 64 * k + 64 = 64 * (k + 1) by omega]
theorem foldS_part (p : ByteArray) (st : Sta) : foldS st (partB p) = mixS st (p.size / 64) (bL p) := by
  unfold partB
  rw [List.range_eq_range', foldS_range p _ 0 st (by omega), Nat.mul_zero, List.drop_zero]
theorem foldS_append (st : Sta) (xs ys : List Blk) : foldS st (xs ++ ys) = foldS (foldS st xs) ys := by unfold foldS; rw [List.foldl_append]
theorem foldS_all (s : ByteArray) : textS (foldS beg (blocksB s)) = sumL (bL s) := by
  rw [sumL_parts, bL_length]
  have e : blocksB s = partB (pt s 0) ++ partB (pt s 1) := by
    show (([] ++ partB (pt s 0)) ++ partB (pt s 1)) = _
    rw [List.nil_append]
  have h0 : bL (pt s 0) = (bL s).take (wholeN s.size) := by
    show bL (s.extract 0 (wholeN s.size)) = _
    rw [bL_extract, List.drop_zero]
  have h1 : bL (pt s 1) = endL (bL s) := bL_ofL _ (endL_lt s)
  have h2 : (pt s 0).size = wholeN s.size := by
    rw [← bL_length, h0, List.length_take, bL_length]
    have := wholeN_le s.size
    omega
  have h3 : (pt s 1).size = (endL (bL s)).length := by rw [← bL_length, h1]
  rw [e, foldS_append, foldS_part, foldS_part, h0, h1, h2, h3]
theorem zero_at (w : World) : StaAt w.heap.size zeroS (w.alloc (.cells #[.int .u32 0, .int .u32 0, .int .u32 0, .int .u32 0, .int .u32 0, .int .u32 0, .int .u32 0, .int .u32 0] 100)) := ⟨by go_simp; rfl, by go_simp; rfl, by go_simp; rfl, by go_simp; rfl, by go_simp; rfl, by go_simp; rfl, by go_simp; rfl, by go_simp; rfl, by go_simp, by go_simp, by go_simp, by go_simp, by go_simp, by go_simp, by go_simp, by go_simp⟩
set_option maxRecDepth 100000 in
set_option maxHeartbeats 8000000 in
theorem Sum_c (s : ByteArray) (hs : s.size ≤ 100000) (w : World) (hT : Tabs w) : Calls Tryz.prog 43 #[.string s] w fun r w' => r = .returned (.string (ofL (sumL (bL s)))) ∧ Below w.heap.size w w' := by
  have hl1 := hT.lt1
  have hl2 := hT.lt2
  have HTx := Lib.hid (fun o => hT.on (below_alloc w o))
  have HM := Lib.hid (fun W hS hT' => mix_c w.heap.size s hs W hS hT' (by omega) (by omega))
  have HX := Lib.hid (fun st W h => text_c w.heap.size st W h)
  have HF := Lib.hid (foldS_all s)
  clear hT
  go_enter Tryz.func43, Tryz.ntmps43
  go_wp2_with fail
  have hZ := zero_at w
  refine (HM.out _ hZ (HTx.out _)).mono ?_
  rintro e w1 ⟨⟨v, rfl⟩, hS1, hg1⟩
  have hb1 := Lib.hid (show Below w.heap.size w w1 from (below_alloc w (.cells #[.int .u32 0, .int .u32 0, .int .u32 0, .int .u32 0, .int .u32 0, .int .u32 0, .int .u32 0, .int .u32 0] 100)).grown hg1 (by simp) (fun j hj => by cases hj; exact Nat.le_refl _))
  have hZs := Lib.hid hS1
  clear hg1 hZ hS1
  go_wp2_with fail
  refine (HX.out _ _ hZs.out).mono ?_
  rintro e w2 ⟨rfl, hb2⟩
  rw [HF.out]
  go_wp2
  go_ret
  exact ⟨rfl, btr hb1.out hb2⟩
end Go.Proofs.YtikpmkidfppknaaGreatDoor
