/- fill, Push. -/
import Derived.Test.YtoddlldjhaacnaaJ
namespace Go.Proofs.Ytoddlldjhaacnaa
open Go.RowKit Go.Shelf
attribute [local go_sem] Oper.semAt_some

section
variable {F : Fence} {n : Nat} {P : Program} {b : Frame} {a : Act} {k : List Item} {cs : List Frame} {w : World} {Q : Exit → Act → World → Prop}

theorem stepR_scope {c : Code} : step P (lone (b.atR a (.code (.scope c) :: k)) cs w) = .next (lone (b.atR a (.code c :: .inScope c :: k)) cs w) :=
  step_lone_go (by simp [stepG, stepG.exec, Frame.atR])
theorem stepR_inScope {c : Code} : step P (lone (b.atR a (.inScope c :: k)) cs w) = .next (lone (b.atR a k) cs w) :=
  step_lone_go (by simp [stepG, stepG.exec, Frame.atR])

/-- A scope through which the run goes without a goto, inside a fence. -/
theorem wpIn_scope_straight {c : Code} (h : c.wpIn F n P (Exit.noGoto Q) a w) : (Code.scope c).wpIn F n P Q a w := by
  intro b k cs hro hb hr
  have h0 : (lone (b.atR a (.code (.scope c) :: k)) cs w).fenced P F := fenced_calm hb hr rfl
  obtain ⟨e, a₁, w₁, hq, harr⟩ := h b (.inScope c :: k) cs hro hb hr
  cases e with
  | normal => exact ⟨.normal, a₁, w₁, hq, .head h0 stepR_scope (StepsIn.trans harr (.one (fenced_calm hb hr rfl) stepR_inScope))⟩
  | exit id =>
    have hx : exitTo id (.inScope c :: k) = exitTo id k := by simp [exitTo]
    exact ⟨.exit id, a₁, w₁, hq, fun k' hk => .head h0 stepR_scope (harr.1 k' (by rw [hx]; exact hk)),
      fun hr' hk => let ⟨k₁, h1, h2⟩ := harr.2 hr' (by rw [hx]; exact hk); ⟨k₁, h1, .head h0 stepR_scope h2⟩⟩
  | goto l => exact hq.elim
  | ret => exact ⟨_, a₁, w₁, hq, .of_steps (.one h0 stepR_scope) harr⟩
  | panic ch => exact ⟨_, a₁, w₁, hq, .of_steps (.one h0 stepR_scope) harr⟩
  | outgrown => exact ⟨_, a₁, w₁, hq, .of_steps (.one h0 stepR_scope) harr⟩
end

/-- The text's own block is kept. -/
def KeepsAt (Bs : Nat) (A W : World) : Prop := W.heap[Bs]? = A.heap[Bs]?
theorem each_stops (F : Fence) (n : Nat) (h31 : F.fn 31) (hro : F.round = none) (hn : 1 ≤ n) (Bs : Nat) (s : ByteArray) (hs : s.size ≤ 5000) (w : World)
    (hc : w.cell? ⟨Bs, 0, none⟩ = some (.string s)) :
    SeqStopsK F n Try.prog 31 #[.pointer (some ⟨Bs, 0, none⟩)] (fun x : UInt8 => #[Value.int .u8 (x.toNat : Int)]) (KeepsAt Bs) (fun ys => ys = s.data.toList) (fun pre => pre <+: s.data.toList) s.size w := fun l J Jx W hW _ _ hY h0 => by
  have hc' := (hW.cell (p := ⟨Bs, 0, none⟩) (blt hc)).trans hc
  exact each_in F n h31 hro hn l Bs s hs J Jx hY W hc' h0
theorem keepsAt_t {Bs : Nat} {A B C : World} (h : KeepsAt Bs A B) (k : KeepsAt Bs B C) : KeepsAt Bs A C := Eq.trans k h
theorem keepsAt_b {Bs : Nat} {w : World} (hn : Bs < w.heap.size) (W : World) (l : Nat) (o o' : Obj) (hl : w.heap.size ≤ l) (_ : W.heap[l]? = some o) (_ : o.isCells = false) (_ : o.isWalk = false) : KeepsAt Bs W (W.putObj l o') :=
  World.putObj_heap_other (by omega)

theorem Off.keeps {Fb Kb B : Nat} {A W : World} (h : Off Fb Kb A W) (hF : Fb < B) (hK : Kb < B) : KeepsFrom B A W :=
  ⟨h.size, fun k o hB hk _ => (h.block k (Array.getElem?_eq_some_iff.1 hk).1 (by omega) (by omega)).trans hk⟩
theorem Off.grown {Fb Kb B : Nat} {A W W' : World} {row : Option Nat} (h : Off Fb Kb A W) (hB : A.heap.size ≤ B) (hg : W.grownBy W' row) (hr : ∀ r, row = some r → B ≤ r) : Off Fb Kb A W' :=
  ⟨hg.os.trans h.os, hg.tape.trans h.tape, hg.output.trans h.output, Nat.le_trans h.size hg.size, fun i hi h1 h2 =>
    (hg.block i (Nat.lt_of_lt_of_le hi h.size) (fun e => by have := hr i e.symm; omega)).trans (h.block i hi h1 h2)⟩
theorem Qs.grown {Fb Kb cap B : Nat} {l : List UInt8} {W W' : World} {row : Option Nat} (h : Qs W Fb Kb cap l) (hF : Fb < B) (hK : Kb < B) (hg : W.grownBy W' row) (hr : ∀ r, row = some r → B ≤ r) : Qs W' Fb Kb cap l :=
  h.same (hg.block Fb h.lt.1 (fun e => by have := hr Fb e.symm; omega)) (hg.block Kb h.lt.2 (fun e => by have := hr Kb e.symm; omega))
/-- How many of a text are put where some are there already. -/
def fits (cap have_ n : Nat) : Nat := min n (cap - have_)

/-- What holds while bytes are put. -/
structure Going (Fb Kb cap T N : Nat) (l : List UInt8) (w : World) (pre : List UInt8) (W : World) : Prop where
  q : Qs W Fb Kb cap (l ++ pre)
  t : W.cell? ⟨T, 0, none⟩ = some (.func (.func 21) #[.pointer (some ⟨Fb, 0, none⟩)] #[])
  c : W.cell? ⟨N, 0, none⟩ = some (.int .i64 pre.length)
  f : W.frozen? ⟨N, 0, none⟩ = false
  o : Off Fb Kb w W
  z : N + 1 < W.heap.size
/-- What holds where one was refused. -/
structure Over (Fb Kb cap N : Nat) (l : List UInt8) (w : World) (pre : List UInt8) (W : World) : Prop where
  q : Qs W Fb Kb cap (l ++ pre.dropLast)
  full : (l ++ pre.dropLast).length = cap
  c : W.cell? ⟨N, 0, none⟩ = some (.int .i64 pre.dropLast.length)
  o : Off Fb Kb w W

theorem ownFrom_going {Fb Kb cap T N B : Nat} {l : List UInt8} {w : World} (hF : Fb < B) (hK : Kb < B) (hB : w.heap.size ≤ B) : OwnFrom B (Going Fb Kb cap T N l w) := fun _ _ _ _ h hg hr =>
  ⟨h.q.grown hF hK hg (fun r e => (hr r e).1), cell_kept h.t hg (fun r e => (hr r e).2), cell_kept h.c hg (fun r e => (hr r e).2), (frozen_kept h.c hg (fun r e => (hr r e).2)).trans h.f, h.o.grown hB hg (fun r e => (hr r e).1), Nat.lt_of_lt_of_le h.z hg.size⟩
theorem Off.setNew {Fb Kb N : Nat} {w W : World} (h : Off Fb Kb w W) (hN : w.heap.size ≤ N) (v : Value) : Off Fb Kb w (W.setCell ⟨N, 0, none⟩ v) :=
  ⟨h.os, h.tape, h.output, Nat.le_trans h.size (by simp [World.setCell]), fun i hi h1 h2 => (Below.heap_setCell W ⟨N, 0, none⟩ v i (Nat.ne_of_lt (Nat.lt_of_lt_of_le hi hN))).trans (h.block i hi h1 h2)⟩
theorem ownFrom_over {Fb Kb cap N B : Nat} {l : List UInt8} {w : World} (c : Prop) (hF : Fb < B) (hK : Kb < B) (hB : w.heap.size ≤ B) : OwnFrom B (fun s W => c ∧ Over Fb Kb cap N l w s W) := fun _ _ _ _ h hg hr =>
  ⟨h.1, h.2.q.grown hF hK hg (fun r e => (hr r e).1), h.2.full, cell_kept h.2.c hg (fun r e => (hr r e).2), h.2.o.grown hB hg (fun r e => (hr r e).1)⟩


set_option maxRecDepth 100000 in
set_option maxHeartbeats 2000000 in
theorem fill_any (Fb Kb cap B : Nat) (l : List UInt8) (s : ByteArray) (hs : s.size ≤ 5000) (w : World) (h : Qs w Fb Kb cap l) (hB : w.cell? ⟨B, 0, none⟩ = some (.string s)) :
    Calls Try.prog 20 #[.func (.func 21) #[.pointer (some ⟨Fb, 0, none⟩)] #[], .slice (some ⟨B, 0, none⟩) 1 1] w fun e w' =>
      e = .returned (.int .i64 (fits cap l.length s.size : Nat)) ∧ Qs w' Fb Kb cap (l ++ s.data.toList.take (cap - l.length)) ∧ Off Fb Kb w w' := by
  refine (callsIn_wide (n := 5)).1 ?_
  have hro : Fence.wide.round = none := rfl
  obtain ⟨lF, lK⟩ := h.lt
  have hcl := h.cap_le
  have hle := h.le
  have hBl := blt hB
  refine callsIn_of_wp_marks Try.func20 rfl trivial ?_ hro
  simp only [Try.ntmps20, List.size_toArray, List.length_cons, List.length_nil, Nat.reduceAdd, Nat.reduceSub, Array.replicate_succ, Array.replicate_zero, List.push_toArray, List.append_toArray, List.nil_append, List.cons_append]
  gi_wp2
  refine wpIn_scope_straight ?_
  gi_wp2
  refine wpIn_label ?_
  gi_wp2_with fail
  refine wpIn_loop_rounds 2 ?_
  rw [roundsIn_succ]
  gi_wp2_with (refine ⟨trivial, ?_⟩; gi_at_call 29; refine (bytesOf_in Fence.wide _ trivial hro _ _).mono ?_; rintro e w' ⟨rfl, rfl⟩)
  have bT := Boxed.new w 52 (.func (.func 21) #[.pointer (some ⟨Fb, 0, none⟩)] #[])
  have bN := Boxed.new (w.alloc (.cells #[.func (.func 21) #[.pointer (some ⟨Fb, 0, none⟩)] #[]] 52)) 3 (.int .i64 0)
  have bS := Boxed.new ((w.alloc (.cells #[.func (.func 21) #[.pointer (some ⟨Fb, 0, none⟩)] #[]] 52)).alloc (.cells #[.int .i64 0] 3)) 9 (.string s)
  simp only [World.size_alloc] at bN bS
  refine wpIn_rangeFunc_ownG hro (by omega) (gf := 31) (lb := #[.pointer (some ⟨w.heap.size + 1 + 1, 0, none⟩)]) rfl trivial (enters_of Try.func31 (by kernel_rfl) rfl)
    (each_stops Fence.wide _ trivial hro (by omega) (w.heap.size + 1 + 1) s hs _ bS.cell) keepsAt_t (keepsAt_b (by simp)) (Below.refl _ _) (fun _ => rfl)
    (Going Fb Kb cap w.heap.size (w.heap.size + 1) l w) (fun c pre W => c = .exit 0 ∧ Over Fb Kb cap (w.heap.size + 1) l w pre W)
    (ownFrom_going (by simp; omega) (by simp; omega) (by simp; omega)) (fun c => ownFrom_over (c = .exit 0) (by simp; omega) (by simp; omega) (by simp; omega))
    ⟨by simpa using ((h.alloc _).alloc _).alloc _, ((bT.alloc _).alloc _).cell, (bN.alloc _).cell, (bN.alloc _).frozen, (((Off.refl _ _ _).alloc _).alloc _).alloc _, by simp⟩
    (fun x => { tmps := #[Value.func (Fn.func 21) #[Value.pointer (some { block := Fb, off := 0 })] #[],
                Value.slice (some { block := B, off := 0 }) 1 1,
                Value.pointer (some { block := w.heap.size, off := 0 }), undef, Value.int IntKind.i64 0,
                Value.pointer (some { block := w.heap.size + 1, off := 0 }), undef, Value.string s, .int .u8 (x : UInt8).toNat,
                Value.slice (some { block := B, off := 0 }) 1 1, Value.int IntKind.i64 1, Value.int IntKind.i64 0,
                Value.bool true, Value.pointer (some { block := B, off := 0 }), Value.string s, Value.string s, .func (.func 31) #[] #[.pointer (some ⟨w.heap.size + 1 + 1, 0, none⟩)],
                .int .u8 (x : UInt8).toNat, undef, undef, undef, undef, undef, undef, undef, undef], defers := [] }) ?assign ?body ?done ?stop
  case assign =>
    intro l x W K hK
    gi_wp2
    exact hK
  case body =>
    rintro l' pre x W g hlen
    have kq := g.q
    have kT := g.t
    have kc := g.c
    have kf := g.f
    have ko := g.o
    have hp : (pre.length : Int) ≤ 5000 := by omega
    have nF : w.heap.size + 1 ≠ Fb := by omega
    have nK : w.heap.size + 1 ≠ Kb := by omega
    have mF : w.heap.size ≠ Fb := by omega
    have mK : w.heap.size ≠ Kb := by omega
    have sF : w.heap.size + 1 + 1 ≠ Fb := by omega
    have sK : w.heap.size + 1 + 1 ≠ Kb := by omega
    clear bT bN bS
    have HQ := Lib.hid kq
    have KO := Lib.hid ko
    have hz := g.z
    clear g
    clear kq ko
    by_cases hc : (l ++ pre).length < cap
    · have Hput := Lib.hid (put_yes Fb Kb cap (l ++ pre) x W HQ.out hc)
      have HC := Lib.hid hc
      clear hc
      gi_wp2_with (first
        | (refine ⟨trivial, ?_⟩; gi_at_call 21; refine (CallsIn.inRound l' (callsIn_wide.2 Hput.out)).mono ?_; rintro e w' ⟨rfl, hq, ho⟩; have HQ' := Lib.hid hq; have HO' := Lib.hid ho; (have jT := (ho.cell (o := 0) (blt kT) mF mK).trans kT); (have jc := (ho.cell (o := 0) (blt kc) nF nK).trans kc); (have jf := (ho.frozen (o := 0) (blt kc) nF nK).trans kf); clear hq ho))
      have hk : KeepsAt (w.heap.size + 1 + 1) W (w'.setCell ⟨w.heap.size + 1, 0, none⟩ (.int .i64 ((pre.length : Int) + 1))) := (Below.heap_setCell _ _ _ _ (by simp)).trans (HO'.out.block _ hz sF sK)
      refine ⟨(HO'.out.keeps (by simp; omega) (by simp; omega)).trans ((KeepsOthers.setCell _ _ _).from _), hk, ⟨?_, ?_, ?_, ?_, ?_, ?_⟩⟩
      · rw [← List.append_assoc]
        exact HQ'.out.same (Below.heap_setCell _ _ _ _ nF.symm) (Below.heap_setCell _ _ _ _ nK.symm)
      · exact (set_other _ _ (by omega)).trans jT
      · rw [List.length_append]; exact World.cell?_setCell_same' _ _ _ (by rw [jc]; rfl)
      · exact (World.frozen?_setCell ..).trans jf
      · exact (KO.out.trans HO'.out).setNew (by omega) _
      · exact Nat.lt_of_lt_of_le hz (Nat.le_trans HO'.out.size (by simp [World.setCell]))
    · have hful : (l ++ pre).length = cap := by have := HQ.out.le; omega
      have Hput := Lib.hid (put_no Fb Kb cap (l ++ pre) x W HQ.out hful)
      have HC := Lib.hid hful
      clear hc hful
      gi_wp2_with (first
        | (refine ⟨trivial, ?_⟩; gi_at_call 21; refine (CallsIn.inRound l' (callsIn_wide.2 Hput.out)).mono ?_; rintro e w' ⟨rfl, hq, ho⟩; have HQ' := Lib.hid hq; have HO' := Lib.hid ho; (have jc := (ho.cell (o := 0) (blt kc) nF nK).trans kc); clear hq ho))
      refine ⟨HO'.out.keeps (by simp; omega) (by simp; omega), rfl, ⟨?_, ?_, ?_, ?_⟩⟩
      · rw [List.dropLast_concat]; exact HQ'.out
      · rw [List.dropLast_concat]; exact HC.out
      · rw [List.dropLast_concat]; exact jc
      · exact KO.out.trans HO'.out
  case done =>
    rintro D ys W hD rfl g hK
    have kq := g.q
    have kc := g.c
    have ko := g.o
    clear bT bN bS g
    have HQ := Lib.hid kq
    have KO := Lib.hid ko
    clear kq ko
    gi_wp2
    rw [roundsIn_succ]
    gi_wp2
    have hD' : w.heap.size ≤ D := by simp at hD; omega
    have hg := grownBy_putObj' W D (.deferred none)
    refine ⟨by simp, .inl ⟨_, _, rfl, run_takeDeferred hK, ?_⟩⟩
    have hle' := HQ.out.le
    simp only [List.length_append, Array.length_toList] at hle'
    have hsz : s.data.size = s.size := rfl
    refine ⟨.int .i64 s.size, by simp [results, Try.f20, go_sem], ret_int (by unfold fits; omega), ?_, ?_⟩
    · rw [List.take_of_length_le (by simp; omega)]
      exact HQ.out.grown lF lK hg (fun r e => by cases e; exact hD')
    · exact KO.out.grown (Nat.le_refl _) hg (fun r e => by cases e; exact hD')
  case stop =>
    rintro D c pre W hD ⟨r, hpre⟩ ⟨rfl, g⟩ hK
    have kq := g.q
    have kc := g.c
    have ko := g.o
    have kfu := g.full
    clear bT bN bS g
    have HQ := Lib.hid kq
    have KO := Lib.hid ko
    have KF := Lib.hid kfu
    have HP := Lib.hid hpre
    clear kq ko kfu hpre
    gi_wp2
    have hD' : w.heap.size ≤ D := by simp at hD; omega
    have hg := grownBy_putObj' W D (.deferred none)
    refine ⟨by simp, .inl ⟨_, _, rfl, run_takeDeferred hK, ?_⟩⟩
    have hfl := KF.out
    simp only [List.length_append] at hfl
    have hpl : pre.dropLast.length ≤ s.size := by
      have : pre.length ≤ s.data.toList.length := by rw [← HP.out]; simp
      have h2 : s.data.toList.length = s.size := rfl
      simp only [List.length_dropLast]; omega
    have htk : s.data.toList.take (cap - l.length) = pre.dropLast := by
      have e : cap - l.length = pre.dropLast.length := by omega
      rw [e, ← HP.out, List.take_append_of_le_length (by simp), List.dropLast_eq_take]
      simp
    refine ⟨.int .i64 pre.dropLast.length, by simp [results, Try.f20, go_sem], ret_int (by unfold fits; omega), ?_, ?_⟩
    · rw [htk]
      exact HQ.out.grown lF lK hg (fun r e => by cases e; exact hD')
    · exact KO.out.grown (Nat.le_refl _) hg (fun r e => by cases e; exact hD')
end Go.Proofs.Ytoddlldjhaacnaa
