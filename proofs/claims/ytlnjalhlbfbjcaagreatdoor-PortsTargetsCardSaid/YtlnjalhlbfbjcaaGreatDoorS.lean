/- A range over the three ways of reading: the law, the iterator's contract. -/
import Derived.Test.YtlnjalhlbfbjcaaGreatDoorR
namespace Go.Proofs.YtlnjalhlbfbjcaaGreatDoor
open Go.RowKit Go.Shelf
attribute [local go_sem] Oper.semAt_some

/-- Whatever is done to blocks from B on, I stands. -/
def Firm (B : Nat) (I : World → Prop) : Prop := ∀ A A' row, I A → A.grownBy A' row → (∀ r, row = some r → B ≤ r) → I A'
theorem Firm.alloc {B : Nat} {I : World → Prop} (h : Firm B I) {W : World} (hi : I W) (o : Obj) : I (W.alloc o) := h _ _ none hi (World.grownBy_alloc W o none) (fun _ e => by cases e)
theorem Firm.putObj {B : Nat} {I : World → Prop} (h : Firm B I) {W : World} (hi : I W) {l : Nat} (hl : B ≤ l) (o : Obj) : I (W.putObj l o) := h _ _ (some l) hi (grownBy_putObj' W l o) (fun _ e => by cases e; exact hl)
/-- All blocks but two lie as they lay. -/
structure Lie2 (r e : Nat) (A B : World) : Prop where
  size : A.heap.size ≤ B.heap.size
  same : ∀ i, i < A.heap.size → i ≠ r → i ≠ e → B.heap[i]? = A.heap[i]?
theorem Lie2.refl (r e : Nat) (A : World) : Lie2 r e A A := ⟨Nat.le_refl _, fun _ _ _ _ => rfl⟩
theorem Lie2.trans {r e : Nat} {A B C : World} (h : Lie2 r e A B) (k : Lie2 r e B C) : Lie2 r e A C := ⟨Nat.le_trans h.size k.size, fun i hi h1 h2 => (k.same i (Nat.lt_of_lt_of_le hi h.size) h1 h2).trans (h.same i hi h1 h2)⟩
theorem Lie2.obj {r e i : Nat} {A B : World} {o : Obj} (h : Lie2 r e A B) (hi : A.heap[i]? = some o) (h1 : i ≠ r) (h2 : i ≠ e) : B.heap[i]? = some o := (h.same i (Array.getElem?_eq_some_iff.1 hi).1 h1 h2).trans hi
theorem Lie2.cell {r e b o : Nat} {A B : World} {v : Value} (h : Lie2 r e A B) (hc : A.cell? ⟨b, o, none⟩ = some v) (h1 : b ≠ r) (h2 : b ≠ e) : B.cell? ⟨b, o, none⟩ = some v :=
  (World.cell?_of_block (w := A) (h.same b (blt hc) h1 h2)).trans hc
theorem Lie2.of_r {r e : Nat} {A B : World} (g : A.grownBy B (some r)) : Lie2 r e A B := ⟨g.size, fun i hi h1 _ => g.block i hi (by simpa using h1)⟩
theorem Lie2.of_e {r e : Nat} {A B : World} (g : A.grownBy B (some e)) : Lie2 r e A B := ⟨g.size, fun i hi _ h2 => g.block i hi (by simpa using h2)⟩
theorem Lie2.of_below {r e : Nat} {A B : World} (g : Below A.heap.size A B) : Lie2 r e A B := ⟨g.size, fun i hi _ _ => g.block i hi⟩

/-- What the iterator promises: the reader's text is laid anew for each way. -/
def Reads (F : Fence) (n : Nat) (P : Program) (g : Nat) (lb : Array Value) (encs : Nat → Array Value) (rb eb : Nat) (s : ByteArray) (w : World) : Prop :=
  ∀ (l : Nat) (J Jy Jx : Nat → World → Prop) (W : World), Below w.heap.size w W → (∀ A o, J 0 A → J 0 (A.alloc o)) →
    (∀ k A, J k A → (∃ s', A.cell? ⟨rb, 0, none⟩ = some (.string s')) ∧ A.frozen? ⟨rb, 0, none⟩ = false ∧ Jy k (A.setCell ⟨rb, 0, none⟩ (.string s))) →
    (∀ k W1, k < 3 → Jy k W1 → YieldAt F (n - 1) P l (encs k) W1 fun e W' =>
      (e = .returned (.bool true) ∧ J (k + 1) W' ∧ Lie2 rb eb W1 W') ∨ (e = .returned (.bool false) ∧ Jx (k + 1) W')) →
    J 0 W →
    CallsIn F n P g (#[.func (.yield l) #[] #[]] ++ lb) W fun e W' => (∃ v, e = .returned v) ∧ (J 3 W' ∨ ∃ k, Jx k W')

theorem wpIn_range_reads {F : Fence} {n : Nat} {P : Program} {g : Operand} {ps : Array Tmp} {assign body : Code} {Q : Exit → Act → World → Prop} {a : Act} {w : World}
    (hro : F.round = none) (h1 : 1 ≤ n) {gf : Nat} {lb : Array Value} (hg : a.eval g = .func (.func gf) #[] lb) (hFg : F.fn gf) (eg : ∀ args w, (callFunc gf args).run P w = .ok (.enter gf args) w)
    {encs : Nat → Array Value} {rb eb : Nat} {s : ByteArray} (hseq : Reads F (n - 1) P gf lb encs rb eb s w) (hrb : rb < w.heap.size) (heb : eb < w.heap.size) (hps : ∀ k, (encs k).size = ps.size)
    (I Iy Ix : Nat → World → Prop) (x0 : Nat) (hI : ∀ k, Firm w.heap.size (I k)) (hIy : ∀ k, Firm w.heap.size (Iy k)) (hIx : ∀ k, Firm w.heap.size (Ix k))
    (hset : ∀ k A, I k A → (∃ s', A.cell? ⟨rb, 0, none⟩ = some (.string s')) ∧ A.frozen? ⟨rb, 0, none⟩ = false ∧ Iy k (A.setCell ⟨rb, 0, none⟩ (.string s)))
    (h0 : I 0 w) (a₁ : Nat → Act)
    (hassign : ∀ (l k : Nat) (W : World) (K : Act → World → Prop), K (a₁ k) W →
      assign.wpIn (F.inRound l) (n - 1 - 1) P (Exit.then K (fun _ _ _ => False)) { tmps := (ps.zip (encs k)).foldl (fun t (p, v) => t.setIfInBounds p v) a.tmps, defers := [] } W)
    (hbody : ∀ (l k : Nat) (W : World), k < 3 → Iy k W → body.wpIn (F.inRound l) (n - 1 - 1) P
      (fun e _ W' => (e = .normal ∧ Lie2 rb eb W W' ∧ I (k + 1) W') ∨ (e = .exit x0 ∧ Lie2 rb eb W W' ∧ Ix (k + 1) W')) (a₁ k) W)
    (hdone : ∀ (D : Nat) (W : World), w.heap.size ≤ D → I 3 W → W.heap[D]? = some (.deferred (some [])) → Q .normal { a with defers := { target := .collected D, args := #[] } :: a.defers } W)
    (hstop : ∀ (D k : Nat) (W : World), w.heap.size ≤ D → Ix k W → W.heap[D]? = some (.deferred (some [])) → (Code.exit x0).wpIn F n P Q { a with defers := { target := .collected D, args := #[] } :: a.defers } W) :
    (Code.rangeFunc g ps assign body).wpIn F n P Q a w := by
  refine wpIn_rangeFunc ?_
  intro fn hfn
  rw [hro]
  have hrecs : ∃ rec : LoopState → Option Code → Loop, rec = fun st pe => { state := st, pending := pe, fn, tmps := a.tmps, params := ps, assign, body, defers := w.heap.size } := ⟨_, rfl⟩
  obtain ⟨rec, hrec⟩ := hrecs
  let V := (w.alloc (.deferred (some []))).alloc (.loop (rec .ready none))
  have hVs : V.heap.size = w.heap.size + 2 := by simp [V]
  have hLV : V.heap[w.heap.size + 1]? = some (.loop (rec .ready none)) := by
    have := World.alloc_heap_new (w.alloc (.deferred (some []))) (.loop (rec .ready none)); rwa [World.size_alloc] at this
  have hDV : V.heap[w.heap.size]? = some (.deferred (some [])) := (Below.heap_alloc _ _ _ (by simp)).trans (World.alloc_heap_new w _)
  have hIV : I 0 V := (hI 0).alloc ((hI 0).alloc h0 _) _
  have hbV : Below w.heap.size w V := bal (below_alloc w _) _
  refine ⟨w.heap.size + 1, [{ target := .collected w.heap.size, args := #[] }], V, { target := .fn (.func gf) lb, args := #[.func (.yield (w.heap.size + 1)) #[] #[]] }, V, gf,
    #[.func (.yield (w.heap.size + 1)) #[] #[]] ++ lb, V, ?_, ?_, ?_, ?_, fun _ => h1, ?_⟩
  · rw [show V = (w.alloc (.deferred (some []))).alloc (.loop (rec .ready none)) from rfl, hrec]; exact run_enterLoop_outer _ _ _ _ _
  · simp only [resolve, hg]
    simp [go_sem]
  · intro f' hf'; simp [Target.leads] at hf'; subst hf'; exact hFg
  · simp [invoke, go_sem, eg]
  · clear_value V
    refine (hseq (w.heap.size + 1)
      (fun k W => I k W ∧ W.heap[w.heap.size + 1]? = some (.loop (rec .ready none)) ∧ W.heap[w.heap.size]? = some (.deferred (some [])))
      (fun k W => Iy k W ∧ W.heap[w.heap.size + 1]? = some (.loop (rec .ready none)) ∧ W.heap[w.heap.size]? = some (.deferred (some [])))
      (fun k W => Ix k W ∧ W.heap[w.heap.size + 1]? = some (.loop (rec .done (some (.exit x0)))) ∧ W.heap[w.heap.size]? = some (.deferred (some [])))
      V hbV
      (fun A o ⟨hs1, hs2, hs3⟩ => ⟨(hI 0).alloc hs1 o, (Below.heap_alloc A o _ (Array.getElem?_eq_some_iff.1 hs2).1).trans hs2, (Below.heap_alloc A o _ (Array.getElem?_eq_some_iff.1 hs3).1).trans hs3⟩)
      (fun k A ⟨hs1, hs2, hs3⟩ => by
        obtain ⟨t1, t2, t3⟩ := hset k A hs1
        exact ⟨t1, t2, t3, (Below.heap_setCell A ⟨rb, 0, none⟩ _ _ (show w.heap.size + 1 ≠ rb by omega)).trans hs2, (Below.heap_setCell A ⟨rb, 0, none⟩ _ _ (show w.heap.size ≠ rb by omega)).trans hs3⟩)
      ?_ ⟨hIV, hLV, hDV⟩).mono ?_
    · rintro k W hk3 ⟨hi, hl, hk⟩
      have hy := run_yield (P := P) (args := encs k) hl (by rw [hrec]; exact hps k)
      rw [hrec] at hy
      refine ⟨fn, _, assign, body, hy, roundIn_of_wpIn hfn (hassign _ k W _ ⟨_, run_beginRound hl (by rw [hrec]), ?_⟩)⟩
      let B := W.putObj (w.heap.size + 1) (.loop { rec .ready none with state := .busy })
      have hlB : B.heap[w.heap.size + 1]? = some (.loop { rec .ready none with state := .busy }) := World.putObj_heap_same (Array.getElem?_eq_some_iff.1 hl).1
      have hkB : B.heap[w.heap.size]? = some (.deferred (some [])) := (World.putObj_heap_other (by omega)).trans hk
      have hsB : B.heap.size = W.heap.size := by simp [B, World.putObj]
      have hoB : ∀ i, i ≠ w.heap.size + 1 → B.heap[i]? = W.heap[i]? := fun i hi => World.putObj_heap_other hi
      refine wpIn_mono (hbody _ k B hk3 ((hIy k).putObj hi (by omega) _)) ?_
      clear_value B
      rintro e a3 W3 (⟨rfl, hk3, hi3⟩ | ⟨rfl, hk3, hi3⟩)
      · have hl3 := hk3.obj hlB (by omega) (by omega)
        have hd3 := hk3.obj hkB (by omega) (by omega)
        have := run_endRound (P := P) none hl3
        rw [hrec] at this ⊢
        rw [hrec] at hl3
        refine ⟨_, _, this, .inl ⟨rfl, ⟨(hI _).putObj hi3 (by omega) _, World.putObj_heap_same (Array.getElem?_eq_some_iff.1 hl3).1, (World.putObj_heap_other (by omega)).trans hd3⟩, ?_⟩⟩
        refine ⟨by have := hk3.size; simp [World.putObj]; omega, fun i hi h1 h2 => ?_⟩
        by_cases hil : i = w.heap.size + 1
        · subst hil
          rw [hl, hrec]
          exact World.putObj_heap_same (Array.getElem?_eq_some_iff.1 hl3).1
        · exact (World.putObj_heap_other hil).trans ((hk3.same i (by omega) h1 h2).trans (hoB i hil))
      · have hl3 := hk3.obj hlB (by omega) (by omega)
        have hd3 := hk3.obj hkB (by omega) (by omega)
        have := run_endRound (P := P) (some (.exit x0)) hl3
        rw [hrec] at this ⊢
        rw [hrec] at hl3
        exact ⟨_, _, this, .inr ⟨rfl, (hIx _).putObj hi3 (by omega) _, World.putObj_heap_same (Array.getElem?_eq_some_iff.1 hl3).1, (World.putObj_heap_other (by omega)).trans hd3⟩⟩
    · rintro e W2 ⟨⟨v, rfl⟩, (⟨hi, hl, hk⟩ | ⟨k, hi, hl, hk⟩)⟩
      · exact ⟨none, _, by have := run_endLoop (P := P) hl (by rw [hrec]; simp); rw [hrec] at this; exact this, hdone _ _ (Nat.le_refl _) ((hI _).putObj hi (by omega) _) ((World.putObj_heap_other (by omega)).trans hk)⟩
      · exact ⟨some (.exit x0), _, by have := run_endLoop (P := P) hl (by rw [hrec]; simp); rw [hrec] at this; exact this, hstop _ k _ (Nat.le_refl _) ((hIx _).putObj hi (by omega) _) ((World.putObj_heap_other (by omega)).trans hk)⟩

/-- The ways of reading, in their order. -/
def wayFn (k : Nat) : Nat := if k = 0 then 41 else if k = 1 then 42 else 43
def encW (rb k : Nat) : Array Value := #[.func (.func (wayFn k)) #[.pointer (some ⟨rb, 0, none⟩)] #[]]
set_option maxRecDepth 100000 in
set_option maxHeartbeats 4000000 in
theorem readings_in (F : Fence) (n : Nat) (hF : F.fn 40) (hro : F.round = none) (hn : 1 ≤ n) (rb eb t1 t2 : Nat) (s : ByteArray) (w : World) (h1 : w.cell? ⟨t1, 0, none⟩ = some (.pointer (some ⟨rb, 0, none⟩))) (h2 : w.cell? ⟨t2, 0, none⟩ = some (.string s))
    (n1 : t1 ≠ rb) (n2 : t1 ≠ eb) (n3 : t2 ≠ rb) (n4 : t2 ≠ eb) (hrb : rb < w.heap.size) (heb : eb < w.heap.size) : Reads F n Tryz.prog 40 #[.pointer (some ⟨t1, 0, none⟩), .pointer (some ⟨t2, 0, none⟩)] (encW rb) rb eb s w := by
  intro l J Jy Jx W hW hal hJ hY h0
  have H1 := (hW.cell (p := ⟨t1, 0, none⟩) (blt h1)).trans h1
  have H2 := (hW.cell (p := ⟨t2, 0, none⟩) (blt h2)).trans h2
  have HAL := Lib.hid hal
  have HJ := Lib.hid hJ
  have HY := Lib.hid hY
  have hWs := Lib.hid hW.size
  have HJ0 := Lib.hid (fun o => hal W o h0)
  clear hal hJ hY h0 h1 h2 hW
  refine callsIn_of_wp Tryz.func40 rfl hF ?_ hro
  simp only [Tryz.ntmps40, List.size_toArray, List.length_cons, List.length_nil, Nat.reduceAdd, Nat.reduceSub, Array.replicate_succ, Array.replicate_zero, List.push_toArray, List.append_toArray, List.nil_append, List.cons_append]
  gi_wp2
  have hJ0 := HJ0.out (Obj.cells #[.func (.func 41) #[.pointer (some ⟨rb, 0, none⟩)] #[], .func (.func 42) #[.pointer (some ⟨rb, 0, none⟩)] #[], .func (.func 43) #[.pointer (some ⟨rb, 0, none⟩)] #[]] 55)
  have a00 : (W.alloc (Obj.cells #[.func (.func 41) #[.pointer (some ⟨rb, 0, none⟩)] #[], .func (.func 42) #[.pointer (some ⟨rb, 0, none⟩)] #[], .func (.func 43) #[.pointer (some ⟨rb, 0, none⟩)] #[]] 55)).cell? ⟨W.heap.size, 0, none⟩ = some (.func (.func 41) #[.pointer (some ⟨rb, 0, none⟩)] #[]) := by go_simp
  have a01 : (W.alloc (Obj.cells #[.func (.func 41) #[.pointer (some ⟨rb, 0, none⟩)] #[], .func (.func 42) #[.pointer (some ⟨rb, 0, none⟩)] #[], .func (.func 43) #[.pointer (some ⟨rb, 0, none⟩)] #[]] 55)).cell? ⟨W.heap.size, 1, none⟩ = some (.func (.func 42) #[.pointer (some ⟨rb, 0, none⟩)] #[]) := by go_simp
  have a02 : (W.alloc (Obj.cells #[.func (.func 41) #[.pointer (some ⟨rb, 0, none⟩)] #[], .func (.func 42) #[.pointer (some ⟨rb, 0, none⟩)] #[], .func (.func 43) #[.pointer (some ⟨rb, 0, none⟩)] #[]] 55)).cell? ⟨W.heap.size, 2, none⟩ = some (.func (.func 43) #[.pointer (some ⟨rb, 0, none⟩)] #[]) := by go_simp
  have b01 := keep_alloc (Obj.cells #[.func (.func 41) #[.pointer (some ⟨rb, 0, none⟩)] #[], .func (.func 42) #[.pointer (some ⟨rb, 0, none⟩)] #[], .func (.func 43) #[.pointer (some ⟨rb, 0, none⟩)] #[]] 55) H1
  have b02 := keep_alloc (Obj.cells #[.func (.func 41) #[.pointer (some ⟨rb, 0, none⟩)] #[], .func (.func 42) #[.pointer (some ⟨rb, 0, none⟩)] #[], .func (.func 43) #[.pointer (some ⟨rb, 0, none⟩)] #[]] 55) H2
  have hc1 : W.heap.size ≠ rb := by have := hWs.out; omega
  have hc2 : W.heap.size ≠ eb := by have := hWs.out; omega
  clear HJ0 H1 H2
  generalize (W.alloc (Obj.cells #[.func (.func 41) #[.pointer (some ⟨rb, 0, none⟩)] #[], .func (.func 42) #[.pointer (some ⟨rb, 0, none⟩)] #[], .func (.func 43) #[.pointer (some ⟨rb, 0, none⟩)] #[]] 55)) = V0 at *
  generalize W.heap.size = c at *
  refine wpIn_loop_rounds 4 ?_
  rw [roundsIn_succ]
  obtain ⟨⟨s0, r0⟩, f0, y0⟩ := HJ.out 0 V0 hJ0
  obtain ⟨fn, tmps, assign, body, hy, hR⟩ := HY.out 0 _ (by omega) y0
  simp only [encW, wayFn, if_true, Nat.succ_ne_self, Nat.one_ne_zero, if_false, Nat.reduceEqDiff] at hy
  clear y0
  have hne := Lib.hid hJ0
  clear hJ0
  gi_wp2
  refine hR.mono ?_
  clear hy hR hne
  rintro e V1 (⟨rfl, hJ1, hL⟩ | ⟨rfl, hX⟩)
  · replace hL := Lie2.trans (Lie2.of_r (gr_set (b := rb) (c := rb) (gr_below (Below.refl _ V0)) (.inl rfl) (o := 0) (.string s))) hL
    have a11 := hL.cell a01 hc1 hc2
    have a12 := hL.cell a02 hc1 hc2
    have b11 := hL.cell b01 n1 n2
    have b12 := hL.cell b02 n3 n4
    clear hL a00 b01 b02 r0 f0 a01 a02
    gi_wp2
    rw [roundsIn_succ]
    obtain ⟨⟨s1, r1⟩, f1, y1⟩ := HJ.out 1 V1 hJ1
    obtain ⟨fn, tmps, assign, body, hy, hR⟩ := HY.out 1 _ (by omega) y1
    simp only [encW, wayFn, if_true, Nat.succ_ne_self, Nat.one_ne_zero, if_false, Nat.reduceEqDiff] at hy
    clear y1
    have hne := Lib.hid hJ1
    clear hJ1
    gi_wp2
    refine hR.mono ?_
    clear hy hR hne
    rintro e V2 (⟨rfl, hJ2, hL⟩ | ⟨rfl, hX⟩)
    · replace hL := Lie2.trans (Lie2.of_r (gr_set (b := rb) (c := rb) (gr_below (Below.refl _ V1)) (.inl rfl) (o := 0) (.string s))) hL
      have a22 := hL.cell a12 hc1 hc2
      have b21 := hL.cell b11 n1 n2
      have b22 := hL.cell b12 n3 n4
      clear hL a11 b11 b12 r1 f1 a12
      gi_wp2
      rw [roundsIn_succ]
      obtain ⟨⟨s2, r2⟩, f2, y2⟩ := HJ.out 2 V2 hJ2
      obtain ⟨fn, tmps, assign, body, hy, hR⟩ := HY.out 2 _ (by omega) y2
      simp only [encW, wayFn, if_true, Nat.succ_ne_self, Nat.one_ne_zero, if_false, Nat.reduceEqDiff] at hy
      clear y2
      have hne := Lib.hid hJ2
      clear hJ2
      gi_wp2
      refine hR.mono ?_
      clear hy hR hne
      rintro e V3 (⟨rfl, hJ3, hL⟩ | ⟨rfl, hX⟩)
      · clear hL
        gi_wp2
        rw [roundsIn_succ]
        gi_wp2
        go_end0
        exact ⟨⟨_, rfl⟩, .inl hJ3⟩
      · gi_wp2
        refine bodyPost_ret (results_none rfl _ _ _) rfl ?_
        exact ⟨⟨_, rfl⟩, .inr ⟨_, hX⟩⟩
    · gi_wp2
      refine bodyPost_ret (results_none rfl _ _ _) rfl ?_
      exact ⟨⟨_, rfl⟩, .inr ⟨_, hX⟩⟩
  · gi_wp2
    refine bodyPost_ret (results_none rfl _ _ _) rfl ?_
    exact ⟨⟨_, rfl⟩, .inr ⟨_, hX⟩⟩
end Go.Proofs.YtlnjalhlbfbjcaaGreatDoor
