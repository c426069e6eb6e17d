/- Rn, Sp, Sq, Fst, Bt -/
import Derived.Test.YtgceecfjammnaaaDoorZ1
import Derived.Maps.AppendAt
import Derived.Test.YtgceecfjammnaaaDoorZ3
import Derived.Test.YtgceecfjammnaaaDoorZ0
import Derived.LoopTactic
set_option linter.unusedVariables false
set_option linter.unusedSimpArgs false
/- A variable that holds a row of the call's own, one append further, inside of a range. -/
namespace Go.Proofs.YtgceecfjammnaaaDoor
open Go.RowKit Go.Shelf

theorem row_lt {W : World} {z : Nat} {t : TypeId} {n k : Nat} {v : Value} {xs : List Value} (h : W.ownsRow z t n v k xs) {g : Nat} (hg : v.ownBlock = some g) : z ≤ g ∧ g < W.heap.size := h.lt g hg
theorem row_form {W : World} {z : Nat} {t : TypeId} {n k : Nat} {v : Value} {xs : List Value} (h : W.ownsRow z t n v k xs) : ∃ ao c, v = .slice ao k c := by
  rcases h.2 with ⟨rfl, rfl⟩ | ⟨g', cap, cur, rfl, _⟩
  · exact ⟨_, _, rfl⟩
  · exact ⟨_, _, rfl⟩
theorem Goes.boxedG {Pv : Nat → Prop} {A B : World} {b : Nat} {t : TypeId} {v : Value} (h : Goes Pv A B) (hb : Boxed A b t v) (hp : ¬ Pv b) : Boxed B b t v := h.obj hb hp
theorem More.notG {Pv Pv' : Nat → Prop} {A B : World} (hm : More Pv Pv' A B) {i : Nat} (h : ¬ Pv i) (hi : i < A.heap.size) : ¬ Pv' i := fun k => (hm i k).elim h (fun k => by omega)
/-- What an append to a row in a variable's box, and the box written, leave. -/
structure RowNext (Pv : Nat → Prop) (z B : Nat) (T E : TypeId) (sz : Nat) (w Y w4 : World) (v' : Value) (n : Nat) (xs : List Value) : Prop where
  box : Boxed (w4.setCell ⟨B, 0, none⟩ v') B T v'
  own : (w4.setCell ⟨B, 0, none⟩ v').ownsRow z E sz v' n xs
  below : Below z w (w4.setCell ⟨B, 0, none⟩ v')
  pg : ∀ g, v'.ownBlock = some g → ¬ Pv g
  pt : ∀ i, Pv i → i < (w4.setCell ⟨B, 0, none⟩ v').heap.size
  mid : Mid Pv Y (w4.setCell ⟨B, 0, none⟩ v')
  other : ∀ (b : Nat) (t : TypeId) (u : Value), Boxed Y b t u → t ≠ E → b ≠ B → Boxed (w4.setCell ⟨B, 0, none⟩ v') b t u
  maps : ∀ (b : Nat) es c, Y.heap[b]? = some (Obj.map es c) → (w4.setCell ⟨B, 0, none⟩ v').heap[b]? = some (Obj.map es c)
theorem row_next {Pv : Nat → Prop} {z B : Nat} {T E : TypeId} (hTE : T ≠ E) {sz n m : Nat} {w Y w4 : World} {v v' : Value} {xs ys : List Value} {o : Obj} (b1 : Boxed Y B T v) (ho : Y.ownsRow z E sz v n xs) (hb : Below z w Y) (hB : z ≤ B)
    (hg4 : (Y.alloc o).grownBy w4 v.ownBlock) (ho4 : w4.ownsRow z E sz v' (n + m) ys) (hat : v'.ownBlock = v.ownBlock ∨ v'.ownBlock = some (Y.alloc o).heap.size) (pB : ¬ Pv B) (pg : ∀ g, v.ownBlock = some g → ¬ Pv g) (pt : ∀ i, Pv i → i < Y.heap.size) :
    Boxed w4 B T v ∧ RowNext Pv z B T E sz w Y w4 v' (n + m) ys := by
  have hz : z ≤ Y.heap.size := by have := b1.lt; omega
  have n1 := (b1.alloc o).not_row hTE (ho.alloc o)
  have c1 := (b1.alloc o).kept hg4 n1
  have m1 := c1.not_row hTE ho4
  have hs4 : (Y.alloc o).heap.size ≤ w4.heap.size := hg4.size
  rw [World.size_alloc] at hs4
  have hss : (w4.setCell ⟨B, 0, none⟩ v').heap.size = w4.heap.size := World.size_setCell ..
  refine ⟨c1, c1.set _, ho4.kept (grownBy_setCell' w4 B _) (.inr m1.symm), ?_, ?_, ?_, ?_, ?_, ?_⟩
  · exact ((hb.alloc hz o).grown hg4 (by rw [World.size_alloc]; omega) (fun j hj => (row_lt ho hj).1)).setCell (p := ⟨B, 0, none⟩) hB _
  · intro g hg
    rcases hat with h | h
    · exact pg g (h.symm.trans hg)
    · rw [h] at hg
      cases hg
      intro k
      have := pt _ k
      rw [World.size_alloc] at this
      omega
  · intro i hi
    have := pt i hi
    omega
  · exact (((Mid.refl Pv Y).alloc o).trans (Mid.of_grown hg4 (fun r e => pg r e))).setCell _ pB
  · intro b t u hbx hte hne
    have n2 := (hbx.alloc o).not_row hte (ho.alloc o)
    exact ((hbx.alloc o).kept hg4 n2).other hne _
  · intro b es c hm
    have hbl : b < Y.heap.size := (Array.getElem?_eq_some_iff.1 hm).1
    have e1 : (Y.alloc o).heap[b]? = some (Obj.map es c) := (Below.heap_alloc Y o b hbl).trans hm
    have n2 : some b ≠ v.ownBlock := by
      intro e
      rcases ho.2 with ⟨rfl, _⟩ | ⟨g, cap, cur, rfl, _, hg, _⟩
      · cases e
      · cases e
        rw [hm] at hg
        cases hg
    have e2 : w4.heap[b]? = some (Obj.map es c) := (hg4.block b (Array.getElem?_eq_some_iff.1 e1).1 n2).trans e1
    have n3 : b ≠ B := by
      rintro rfl
      have : w4.heap[b]? = _ := c1
      rw [e2] at this
      cases this
    exact (Below.heap_setCell w4 ⟨B, 0, none⟩ v' b n3).trans e2
end Go.Proofs.YtgceecfjammnaaaDoor

/- The snapshots that stay. (By tools/gen_stay16.py.) -/
namespace Go.Proofs.YtgceecfjammnaaaDoor.L16
open Go.RowKit Go.Shelf
attribute [local go_sem] Oper.semAt_some
set_option linter.unusedSimpArgs false
set_option linter.unusedVariables false
theorem rows_ne {W : World} {z z' : Nat} {t t' : TypeId} {s s' n n' : Nat} {v v' : Value} {xs xs' : List Value} (h : W.ownsRow z t s v n xs) (h' : W.ownsRow z' t' s' v' n' xs') (hne : t' ≠ t) : v'.ownBlock = none ∨ v'.ownBlock ≠ v.ownBlock := by
  rcases h' with ⟨_, ⟨rfl, _⟩ | ⟨g', cap', cur', rfl, _, hg', _⟩⟩
  · exact .inl rfl
  · refine .inr ?_
    rcases h with ⟨_, ⟨rfl, _⟩ | ⟨g, cap, cur, rfl, _, hg, _⟩⟩
    · intro e; cases e
    · intro e
      have e2 : g' = g := by simpa [Value.ownBlock] using e
      subst e2
      rw [hg] at hg'
      simp at hg'
      exact hne hg'.2.symm
theorem row_others {Y w4 : World} {B : Nat} {T E t' : TypeId} {z sz n z' sz' n' : Nat} {v v' u vb : Value} {xs xs' : List Value} {o : Obj} (b1 : Boxed w4 B T vb) (ho : Y.ownsRow z E sz v n xs) (hg4 : (Y.alloc o).grownBy w4 v.ownBlock) (hr : Y.ownsRow z' t' sz' v' n' xs') (h1 : t' ≠ E) (h2 : T ≠ t') : (w4.setCell ⟨B, 0, none⟩ u).ownsRow z' t' sz' v' n' xs' := by
  have k := (hr.alloc o).kept hg4 (rows_ne (ho.alloc o) (hr.alloc o) h1)
  exact k.kept (grownBy_setCell' w4 B u) (.inr (Boxed.not_row b1 h2 k).symm)
structure StR (sP : Snp → Bool) (w : World) (pre : List (SnM × Nat)) (Pv : Nat → Prop) (W : World) (v : Value) (l' : List SnM) : Prop where
  box : Boxed W (w.heap.size + 2) 22 v
  own : W.ownsRow w.heap.size 42 3 v l'.length (snmCs l')
  pg : ∀ g, v.ownBlock = some g → ¬ Pv g
  map : l'.map SnM.p = (PP pre).filter sP
  it : ∀ y ∈ l', OwnS w.heap.size W (.slice y.ita y.it.length y.itd) y.it ∧ ∀ g, (Value.slice y.ita y.it.length y.itd).ownBlock = some g → ¬ Pv g
  below : Below w.heap.size w W
  pv : ∀ i, Pv i → w.heap.size + 2 < i
  pt : ∀ i, Pv i → i < W.heap.size
theorem StR.go {sP : Snp → Bool} {w : World} {pre : List (SnM × Nat)} {Pv Pv' : Nat → Prop} {X Y : World} {v : Value} {l' : List SnM} (h : StR sP w pre Pv X v l') (hg : Goes Pv X Y) (hm : More Pv Pv' X Y) : StR sP w pre Pv' Y v l' := by
  obtain ⟨h2, h3, h4, hmp, hit, h5, h6, h7⟩ := h
  have n1 : ¬ Pv (w.heap.size + 2) := fun h => by have := h6 _ h; omega
  have z := h2.lt
  refine ⟨hg.boxedG h2 n1, hg.ownsRow h3 h4, fun g hgg => hm.notG (h4 g hgg) (row_lt h3 hgg).2, hmp, fun y hy => ?_, hg.below h5 (fun i h => by have := h6 i h; omega), fun i hi => ?_, fun i hi => ?_⟩
  · obtain ⟨o, op⟩ := hit y hy
    exact ⟨hg.ownsRow o op, fun g hgg => hm.notG (op g hgg) (row_lt o hgg).2⟩
  · rcases hm i hi with h | ⟨h, _⟩
    · exact h6 i h
    · omega
  · rcases hm i hi with h | ⟨_, h⟩
    · have := h7 i h; have := hg.size; omega
    · exact h
structure StI (f : Nat) (rc cp : Array Value) (sP : Snp → Bool) (w : World) (pre : List (SnM × Nat)) (Pv : Nat → Prop) (W : World) : Prop where
  fn : Boxed W (w.heap.size + 1) 57 (.func (.func f) rc cp)
  ex : ∃ v l', StR sP w pre Pv W v l'
theorem StI.steady (f : Nat) (rc cp : Array Value) (sP : Snp → Bool) (w : World) : Steady (StI f rc cp sP w) := by
  rintro s Pv Pv' X Y ⟨h1, v, l', h⟩ hg hm
  have n0 : ¬ Pv (w.heap.size + 1) := fun k => by have := h.pv _ k; omega
  exact ⟨hg.boxedG h1 n0, v, l', h.go hg hm⟩
def StX (_ : Code) (_ : List (SnM × Nat)) (_ : Nat → Prop) (_ : World) : Prop := False
/-- What staying leaves. -/
def StP (m : List Snp) (w : World) (y : Ending) (w' : World) : Prop := ∃ v l', y = .returned v ∧ w'.ownsRow w.heap.size 42 3 v l'.length (snmCs l') ∧ l'.map SnM.p = m ∧ (∀ x ∈ l', OwnS w.heap.size w' (.slice x.ita x.it.length x.itd) x.it) ∧ Below w.heap.size w w'
theorem stay_end {f : Nat} {rc cp : Array Value} {sP : Snp → Bool} {w W2 V V1 w4 : World} {pre : List (SnM × Nat)} {x : SnM × Nat} {Pv : Nat → Prop} {v : Value} {l' : List SnM} {v2 : Option Addr} {d2 g cap : Nat}
    (hf : Boxed V (w.heap.size + 1) 57 (.func (.func f) rc cp)) (h : StR sP w pre Pv V v l') (hb : Below V.heap.size V V1) (hs : sP x.1.p = true)
    (ho : OwnS V.heap.size V1 (.slice v2 x.1.it.length d2) x.1.it) (hm : Mid Pv W2 V)
    (ho4 : w4.ownsRow w.heap.size 42 3 (.slice (some ⟨g, 0, none⟩) (l'.length + 1) cap) (l'.length + 1) (snmCs l' ++ [.int .i64 x.1.c, .slice v2 x.1.it.length d2, .int .i64 x.1.u]))
    (hg4 : (V1.alloc (.cells #[.int .i64 x.1.c, .slice v2 x.1.it.length d2, .int .i64 x.1.u] 42)).grownBy w4 v.ownBlock)
    (hat : v.ownBlock = some g ∨ g = (V1.alloc (.cells #[.int .i64 x.1.c, .slice v2 x.1.it.length d2, .int .i64 x.1.u] 42)).heap.size) :
    Boxed w4 (w.heap.size + 2) 22 v ∧ StI f rc cp sP w (pre ++ [x]) Pv (w4.setCell ⟨w.heap.size + 2, 0, none⟩ (.slice (some ⟨g, 0, none⟩) (l'.length + 1) cap)) ∧ Mid Pv W2 (w4.setCell ⟨w.heap.size + 2, 0, none⟩ (.slice (some ⟨g, 0, none⟩) (l'.length + 1) cap)) := by
  have h1 := h.go (Goes.of_below hb) (More.same _ _ _)
  have hf1 := Goes.boxedG (Goes.of_below (Pv := Pv) hb) hf (fun k => by have := h.pv _ k; omega)
  have hat' : (Value.slice (some ⟨g, 0, none⟩) (l'.length + 1) cap).ownBlock = v.ownBlock ∨ (Value.slice (some ⟨g, 0, none⟩) (l'.length + 1) cap).ownBlock = some (V1.alloc (.cells #[.int .i64 x.1.c, .slice v2 x.1.it.length d2, .int .i64 x.1.u] 42)).heap.size := by
    rcases hat with e | e
    · exact .inl e.symm
    · exact .inr (by rw [← e]; rfl)
  obtain ⟨c1, r⟩ := row_next (T := 22) (by decide) h1.box h1.own h1.below (by omega) hg4 ho4 hat' (fun k => by have := h1.pv _ k; omega) h1.pg h1.pt
  refine ⟨c1, ⟨r.other _ _ _ hf1 (by decide) (by omega), .slice (some ⟨g, 0, none⟩) (l'.length + 1) cap, l' ++ [⟨x.1.c, x.1.it, v2, d2, x.1.u⟩], ?_⟩, (hm.trans (Mid.of_below hb)).trans r.mid⟩
  have hl : (l' ++ [(⟨x.1.c, x.1.it, v2, d2, x.1.u⟩ : SnM)]).length = l'.length + 1 := by simp
  refine ⟨r.box, ?_, r.pg, ?_, fun y hy => ?_, r.below, h1.pv, r.pt⟩
  · rw [hl, snmCs_one]; exact r.own
  · rw [List.map_append, h.map, PP_snoc, List.filter_append]
    congr 1
    simp only [List.map_cons, List.map_nil, List.filter_cons, hs, if_true, List.filter_nil]
    rfl
  · rcases List.mem_append.1 hy with hy | hy
    · obtain ⟨o, op⟩ := h1.it y hy
      exact ⟨row_others c1 h1.own hg4 o (by decide) (by decide), op⟩
    · rw [List.mem_singleton] at hy
      subst hy
      refine ⟨row_others c1 h1.own hg4 (ho.mono (by have := h.below.size; omega)) (by decide) (by decide), fun g hgg k => ?_⟩
      have := (row_lt ho hgg).1
      have := h.pt _ k
      omega
set_option maxRecDepth 100000 in
set_option maxHeartbeats 4000000 in
theorem staying_c (a : Option Addr) (cap : Nat) (n : Int) (l : List SnM) (hl : l.length ≤ 100000) (hi : ∀ x ∈ l, x.it.length ≤ 1000) (f : Nat) (rc cp : Array Value) (sP : Snp → Bool) (w : World) (h : PlAt w.heap.size w a l)
    (eg : ∀ args W, (callFunc f args).run Tryd.prog W = .ok (.enter f args) W)
    (HF : ∀ x ∈ l, ∀ W, Below w.heap.size w W → Calls Tryd.prog f (rc ++ #[.agg #[.int .i64 x.c, .slice x.ita x.it.length x.itd, .int .i64 x.u]] ++ cp) W fun y w' => y = .returned (.bool (sP x.p)) ∧ Below W.heap.size W w') :
    Calls Tryd.prog 29 #[.agg #[.slice a l.length cap, .int .i64 n], .func (.func f) rc cp] w (StP ((l.map SnM.p).filter sP) w) := by
  refine (callsIn_wide (n := 8)).1 ?_
  have HE := Lib.hid (fun W => snaps_c a l.length cap n W)
  have HA := Lib.hid h
  have HFF := Lib.hid HF
  have HIL := Lib.hid hi
  clear h HF hi
  obtain ⟨i0, hi, hz0, hz1, hz2⟩ := infoSnM
  refine callsIn_of_wp_marks Tryd.func29 rfl trivial ?_ rfl
  simp only [Tryd.ntmps29, List.size_toArray, List.length_cons, List.length_nil, Nat.reduceAdd, Nat.reduceSub, Array.replicate_succ, Array.replicate_zero, List.push_toArray, List.append_toArray, List.nil_append, List.cons_append]
  gi_wp2_with fail
  refine ⟨trivial, (callsIn_wide.2 (HE.out _)).mono ?_⟩
  rintro e w' ⟨rfl, rfl⟩
  clear HE
  have hst : (((((w.alloc (.cells #[.slice a l.length cap, .int .i64 n] 48)).alloc (.cells #[.func (.func f) rc cp] 57)).alloc (.cells #[.slice none 0 0] 22)).alloc (.cells #[.slice a l.length cap, .int .i64 n] 48)).alloc (.cells #[.slice a l.length cap] 22)).cell? ⟨w.heap.size + 4, 0, none⟩ = some (.slice a l.length cap) := by go_simp
  have k1 : Boxed (((((w.alloc (.cells #[.slice a l.length cap, .int .i64 n] 48)).alloc (.cells #[.func (.func f) rc cp] 57)).alloc (.cells #[.slice none 0 0] 22)).alloc (.cells #[.slice a l.length cap, .int .i64 n] 48)).alloc (.cells #[.slice a l.length cap] 22)) (w.heap.size + 1) 57 (.func (.func f) rc cp) := by
    have := ((((Boxed.new (w.alloc (.cells #[.slice a l.length cap, .int .i64 n] 48)) 57 (.func (.func f) rc cp)).alloc (.cells #[.slice none 0 0] 22)).alloc (.cells #[.slice a l.length cap, .int .i64 n] 48))).alloc (.cells #[.slice a l.length cap] 22)
    rw [World.size_alloc] at this
    exact this
  have k2 : Boxed (((((w.alloc (.cells #[.slice a l.length cap, .int .i64 n] 48)).alloc (.cells #[.func (.func f) rc cp] 57)).alloc (.cells #[.slice none 0 0] 22)).alloc (.cells #[.slice a l.length cap, .int .i64 n] 48)).alloc (.cells #[.slice a l.length cap] 22)) (w.heap.size + 2) 22 (.slice none 0 0) := by
    have := ((Boxed.new ((w.alloc (.cells #[.slice a l.length cap, .int .i64 n] 48)).alloc (.cells #[.func (.func f) rc cp] 57)) 22 (.slice none 0 0)).alloc (.cells #[.slice a l.length cap, .int .i64 n] 48)).alloc (.cells #[.slice a l.length cap] 22)
    rw [World.size_alloc, World.size_alloc] at this
    exact this
  have hI : StI f rc cp sP w [] (fun i => i = w.heap.size + 4) (((((w.alloc (.cells #[.slice a l.length cap, .int .i64 n] 48)).alloc (.cells #[.func (.func f) rc cp] 57)).alloc (.cells #[.slice none 0 0] 22)).alloc (.cells #[.slice a l.length cap, .int .i64 n] 48)).alloc (.cells #[.slice a l.length cap] 22)) := ⟨k1, .slice none 0 0, [], k2, World.ownsRow_nil _ _ _ _, (fun g h => by cases h), rfl, (fun y hy => nomatch hy), bal (bal (bal (bal (below_alloc w _) _) _) _) _, fun i h => by omega, fun i h => by rw [h]; simp⟩
  have hsb : (((w.alloc (.cells #[.slice a l.length cap, .int .i64 n] 48)).alloc (.cells #[.func (.func f) rc cp] 57)).alloc (.cells #[.slice none 0 0] 22)).heap.size = w.heap.size + 3 := by simp
  simp only [hsb]
  clear k1 k2
  generalize (((((w.alloc (.cells #[.slice a l.length cap, .int .i64 n] 48)).alloc (.cells #[.func (.func f) rc cp] 57)).alloc (.cells #[.slice none 0 0] 22)).alloc (.cells #[.slice a l.length cap, .int .i64 n] 48)).alloc (.cells #[.slice a l.length cap] 22)) = Z at *
  have HBI := Lib.hid (snaps_it 7 (by omega) a cap l hl w.heap.size (w.heap.size + 4) Z hst)
  clear hsb
  gi_wp2_with fail
  refine wpIn_range_itersG (n := 8) (encs := fun p : SnM × Nat => #[.int .i64 (p.2 : Int), snmV p.1]) (ps := #[10, 11]) rfl (by omega) (gf := 76) (lb := #[.pointer (some ⟨w.heap.size + 4, 0, none⟩)]) rfl trivial (enters_of Tryd.func76 (by kernel_rfl) rfl)
    HBI.out (Below.refl _ _) (fun _ => rfl) (fun i h => by rw [h]; exact blt hst) (StI f rc cp sP w) (StX) (fun s Pv W h => by obtain ⟨_, v, l', h⟩ := h; exact HA.out.s.below h.below) (StI.steady f rc cp sP w) ?steadyx hI ?round ?done ?stop
  case steadyx => intro c s Pv Pv' X Y h; exact h.elim
  case round =>
    clear HBI hI
    rintro K pre x Pv W hc hI2 hPl hll ⟨rec, hrec⟩
    simp only [snmV]
    gi_wp2
    refine ⟨(Mid.refl Pv W).alloc _, fun W2 hG hr2 => ?_⟩
    have hKW : K < W.heap.size := (Array.getElem?_eq_some_iff.1 hrec).1
    have x0 : (W.alloc (.cells #[.int .i64 x.1.c, .slice x.1.ita x.1.it.length x.1.itd, .int .i64 x.1.u] 42)).cell? ⟨W.heap.size, 0, none⟩ = some (.int .i64 x.1.c) := by go_simp
    have x1 : (W.alloc (.cells #[.int .i64 x.1.c, .slice x.1.ita x.1.it.length x.1.itd, .int .i64 x.1.u] 42)).cell? ⟨W.heap.size, 1, none⟩ = some (.slice x.1.ita x.1.it.length x.1.itd) := by go_simp
    have x2 : (W.alloc (.cells #[.int .i64 x.1.c, .slice x.1.ita x.1.it.length x.1.itd, .int .i64 x.1.u] 42)).cell? ⟨W.heap.size, 2, none⟩ = some (.int .i64 x.1.u) := by go_simp
    replace x0 := hG.cell x0 (fun h => by omega)
    replace x1 := hG.cell x1 (fun h => by omega)
    replace x2 := hG.cell x2 (fun h => by omega)
    have hI3 := StI.steady f rc cp sP w _ _ _ _ _ (StI.steady f rc cp sP w _ _ _ _ _ hI2 (Goes.of_below (below_alloc W (.cells #[.int .i64 x.1.c, .slice x.1.ita x.1.it.length x.1.itd, .int .i64 x.1.u] 42))) (More.same _ _ _)) (hG.mono (fun i h => h ▸ hPl)) (More.same _ _ _)
    have hx := mem_idx hc
    have hpl : pre.length < l.length := by have := hc.length_le; simp at this; omega
    clear hI2 hG hr2 hrec hll hc
    obtain ⟨qf, v, l', hst3⟩ := hI3
    have hm1 : ((PP pre).filter sP).length ≤ pre.length := Nat.le_trans (List.length_filter_le _ _) (by simp [PP])
    have hcl : l'.length ≤ pre.length := by rw [← List.length_map (f := SnM.p), hst3.map]; exact hm1
    clear hm1
    have HX := Lib.hid (HFF.out x.1 hx W2 hst3.below)
    have HIX := Lib.hid (HIL.out x.1 hx)
    have HAX := Lib.hid (fun V (hb : Below W2.heap.size W2 V) => (((HA.out.i x.1 hx).below hst3.below).mono hst3.below.size).below hb)
    have qf0 := qf.cell
    generalize W.heap.size = B at *
    cases hsx : sP x.1.p
    · rw [hsx] at HX
      have HM := Lib.hid (show (PP (pre ++ [x])).filter sP = (PP pre).filter sP by rw [PP_snoc, List.filter_append]; simp [hsx])
      have HI := Lib.hid (And.intro qf hst3)
      clear hsx qf hst3 hcl hx HAX HIX
      gi_wp2_with fail
      refine ⟨trivial, ?_⟩
      refine (CallsIn.inRound K (callsIn_wide.2 HX.out)).mono ?_
      rintro e w1 ⟨rfl, hb⟩
      have HB1 := Lib.hid hb
      clear hb x0 x1 x2 qf0
      gi_wp2
      obtain ⟨qf, h3⟩ := HI.out
      have hG1 : Goes Pv W2 w1 := Goes.of_below HB1.out
      obtain ⟨qf', v', l'', h4⟩ := StI.steady f rc cp sP w pre Pv Pv W2 w1 ⟨qf, v, l', h3⟩ hG1 (More.same _ _ _)
      exact ⟨⟨qf', v', l'', h4.box, h4.own, h4.pg, by rw [HM.out]; exact h4.map, h4.it, h4.below, h4.pv, h4.pt⟩, Mid.of_below HB1.out⟩
    · rw [hsx] at HX
      have HSX := Lib.hid hsx
      clear hsx hx
      gi_wp2_with fail
      refine ⟨trivial, ?_⟩
      refine (CallsIn.inRound K (callsIn_wide.2 HX.out)).mono ?_
      rintro e w1 ⟨rfl, hb⟩
      have y0 : w1.drew.cell? ⟨B, 0, none⟩ = _ := (hb.cell (blt x0)).trans x0
      have y1 : w1.drew.cell? ⟨B, 1, none⟩ = _ := (hb.cell (blt x1)).trans x1
      have y2 : w1.drew.cell? ⟨B, 2, none⟩ = _ := (hb.cell (blt x2)).trans x2
      have hbd : Below W2.heap.size W2 w1.drew := below_drew hb
      have HR := Lib.hid (hst3.go (Goes.of_below hbd) (More.same _ _ _))
      have HFB := Lib.hid (Goes.boxedG (Goes.of_below (Pv := fun _ => False) hbd) qf (fun k => k))
      have HMD := Lib.hid (Mid.of_below (Pv := Pv) hbd)
      have HSC := Lib.hid (snap_c x.1.c x.1.u x.1.ita x.1.itd x.1.it HIX.out w1.drew ((HAX.out _ hbd).mono hbd.size))
      have HMS := Lib.hid hbd.size
      clear x0 x1 x2 qf0 qf hst3 hb hbd HAX HX HIX
      gi_wp2_with fail
      refine wpIn_region_held_drew (S := fun _ => True) (by kernel_rfl) (by kernel_rfl) (by rintro ⟨_, _, h⟩; exact h) trivial (fun hHeld => ?_)
      clear hHeld
      generalize w1.drew = V at *
      clear w1
      have bx := HR.out.box
      have bc : V.cell? ⟨w.heap.size + 2, 0, none⟩ = some v := bx.cell
      obtain ⟨ao, co, rfl⟩ := row_form HR.out.own
      have zb := bx.lt
      clear bx
      generalize hk : x.1.c = kc at *
      generalize hu : x.1.u = ku at *
      have HKU := Lib.hid (And.intro hk hu)
      clear hk hu
      refine wpAnyH_ready (rs := [0, 1]) (by kernel_rfl) (by simp) ?_
      refine AllReadyH.cons rfl (fun K2 hK => ?ca1) (AllReadyH.cons rfl (fun K2 hK => ?cb1) AllReadyH.nil)
      case ca1 =>
        go_simp
        refine hK.out _ _ trivial (fun hHeld => ?_)
        clear hK K2 hHeld
        try simp only [Act.put, List.setIfInBounds_toArray, List.set_cons_zero, List.set_cons_succ]
        refine wpAnyH_ready (rs := [1]) (by kernel_rfl) (by simp) ?_
        refine AllReadyH.cons rfl (fun K2 hK => ?_) AllReadyH.nil
        go_simp
        refine hK.out _ _ trivial (fun hHeld => ?_)
        clear hK K2 hHeld
        try simp only [Act.put, List.setIfInBounds_toArray, List.set_cons_zero, List.set_cons_succ]
        refine wpAnyH_ready (rs := [2]) (by kernel_rfl) (by simp) ?_
        refine AllReadyH.cons rfl (fun K2 hK => ?_) AllReadyH.nil
        go_simp
        with_reducible refine HSC.out.mono ?_
        rintro e V1 ⟨v2, d2, rfl, ho2, hb2⟩
        have bc1 := (hb2.cell zb).trans bc
        have HO2 := Lib.hid (And.intro ho2 hb2)
        have HR1 := Lib.hid (HR.out.go (Goes.of_below hb2) (More.same _ _ _))
        have zb1 := HR1.out.box.lt
        clear ho2 hb2
        refine hK.out _ _ trivial (fun hHeld => ?_)
        clear hK K2 hHeld
        try simp only [Act.put, List.setIfInBounds_toArray, List.set_cons_zero, List.set_cons_succ]
        refine wpAnyH_ready (rs := [3]) (by kernel_rfl) (by simp) ?_
        refine AllReadyH.cons rfl (fun K2 hK => ?_) AllReadyH.nil
        go_simp
        refine hK.out _ _ trivial (fun hHeld => ?_)
        clear hK K2 hHeld
        try simp only [Act.put, List.setIfInBounds_toArray, List.set_cons_zero, List.set_cons_succ]
        refine wpAnyH_ready (rs := [4]) (by kernel_rfl) (by simp) ?_
        refine AllReadyH.cons rfl (fun K2 hK => ?_) AllReadyH.nil
        rw [if_pos (by rfl)]
        refine wp_append_lies _ (.tmp 15) (.tmp 18) 22 rfl w.heap.size 42 i0 (.agg #[.int .i64 0, .slice none 0 0, .int .i64 0]) 3 40 Tryd.underlying22 hi hz0 hz1 hz2 rfl (by decide) _ l'.length (snmCs l') rfl (HR1.out.own.alloc _) ⟨V1.heap.size, 0, none⟩ 1 1 [.int .i64 kc, .slice v2 x.1.it.length d2, .int .i64 ku] rfl rfl (World.news_of_block (cs := #[.int .i64 kc, .slice v2 x.1.it.length d2, .int .i64 ku]) (t := 42) (fr := (0, 0)) (by first | exact World.alloc_heap_new V1 _ | exact heap_alloc_new V1 _)) (by simp [Value.oneCell']) (by decide) (by unfold maxLen; omega) (by omega) (by rw [World.size_alloc]; have := HR1.out.below.size; omega) _ rfl ?_
        intro g cg w4 ho4 hg4 hat hlt
        have HEND := Lib.hid (stay_end (x := x) HFB.out HR.out HO2.out.2 HSX.out HO2.out.1 HMD.out (by rw [HKU.out.1, HKU.out.2]; exact ho4) (by rw [HKU.out.1, HKU.out.2]; exact hg4) (by rw [HKU.out.1, HKU.out.2]; exact hat))
        have c4 := HEND.out.1.cell
        have f4 := HEND.out.1.frozen
        clear ho4 hg4 hat
        refine hK.out _ _ trivial (fun hHeld => ?_)
        clear hK K2 hHeld
        try simp only [Act.put, List.setIfInBounds_toArray, List.set_cons_zero, List.set_cons_succ]
        refine wpAnyH_ready (rs := [5]) (by kernel_rfl) (by simp) ?_
        refine AllReadyH.cons rfl (fun K2 hK => ?_) AllReadyH.nil
        go_simp
        refine hK.out _ _ trivial (fun hHeld => ?_)
        clear hK K2 hHeld
        try simp only [Act.put, List.setIfInBounds_toArray, List.set_cons_zero, List.set_cons_succ]
        refine wpAnyH_done (by kernel_rfl) ?_ _
        gi_wp2
        exact HEND.out.2
      case cb1 =>
        go_simp
        refine hK.out _ _ trivial (fun hHeld => ?_)
        clear hK K2 hHeld
        try simp only [Act.put, List.setIfInBounds_toArray, List.set_cons_zero, List.set_cons_succ]
        refine wpAnyH_ready (rs := [0, 2]) (by kernel_rfl) (by simp) ?_
        refine AllReadyH.cons rfl (fun K2 hK => ?ca2) (AllReadyH.cons rfl (fun K2 hK => ?cb2) AllReadyH.nil)
        case ca2 =>
          go_simp
          refine hK.out _ _ trivial (fun hHeld => ?_)
          clear hK K2 hHeld
          try simp only [Act.put, List.setIfInBounds_toArray, List.set_cons_zero, List.set_cons_succ]
          refine wpAnyH_ready (rs := [2]) (by kernel_rfl) (by simp) ?_
          refine AllReadyH.cons rfl (fun K2 hK => ?_) AllReadyH.nil
          go_simp
          with_reducible refine HSC.out.mono ?_
          rintro e V1 ⟨v2, d2, rfl, ho2, hb2⟩
          have bc1 := (hb2.cell zb).trans bc
          have HO2 := Lib.hid (And.intro ho2 hb2)
          have HR1 := Lib.hid (HR.out.go (Goes.of_below hb2) (More.same _ _ _))
          have zb1 := HR1.out.box.lt
          clear ho2 hb2
          refine hK.out _ _ trivial (fun hHeld => ?_)
          clear hK K2 hHeld
          try simp only [Act.put, List.setIfInBounds_toArray, List.set_cons_zero, List.set_cons_succ]
          refine wpAnyH_ready (rs := [3]) (by kernel_rfl) (by simp) ?_
          refine AllReadyH.cons rfl (fun K2 hK => ?_) AllReadyH.nil
          go_simp
          refine hK.out _ _ trivial (fun hHeld => ?_)
          clear hK K2 hHeld
          try simp only [Act.put, List.setIfInBounds_toArray, List.set_cons_zero, List.set_cons_succ]
          refine wpAnyH_ready (rs := [4]) (by kernel_rfl) (by simp) ?_
          refine AllReadyH.cons rfl (fun K2 hK => ?_) AllReadyH.nil
          rw [if_pos (by rfl)]
          refine wp_append_lies _ (.tmp 15) (.tmp 18) 22 rfl w.heap.size 42 i0 (.agg #[.int .i64 0, .slice none 0 0, .int .i64 0]) 3 40 Tryd.underlying22 hi hz0 hz1 hz2 rfl (by decide) _ l'.length (snmCs l') rfl (HR1.out.own.alloc _) ⟨V1.heap.size, 0, none⟩ 1 1 [.int .i64 kc, .slice v2 x.1.it.length d2, .int .i64 ku] rfl rfl (World.news_of_block (cs := #[.int .i64 kc, .slice v2 x.1.it.length d2, .int .i64 ku]) (t := 42) (fr := (0, 0)) (by first | exact World.alloc_heap_new V1 _ | exact heap_alloc_new V1 _)) (by simp [Value.oneCell']) (by decide) (by unfold maxLen; omega) (by omega) (by rw [World.size_alloc]; have := HR1.out.below.size; omega) _ rfl ?_
          intro g cg w4 ho4 hg4 hat hlt
          have HEND := Lib.hid (stay_end (x := x) HFB.out HR.out HO2.out.2 HSX.out HO2.out.1 HMD.out (by rw [HKU.out.1, HKU.out.2]; exact ho4) (by rw [HKU.out.1, HKU.out.2]; exact hg4) (by rw [HKU.out.1, HKU.out.2]; exact hat))
          have c4 := HEND.out.1.cell
          have f4 := HEND.out.1.frozen
          clear ho4 hg4 hat
          refine hK.out _ _ trivial (fun hHeld => ?_)
          clear hK K2 hHeld
          try simp only [Act.put, List.setIfInBounds_toArray, List.set_cons_zero, List.set_cons_succ]
          refine wpAnyH_ready (rs := [5]) (by kernel_rfl) (by simp) ?_
          refine AllReadyH.cons rfl (fun K2 hK => ?_) AllReadyH.nil
          go_simp
          refine hK.out _ _ trivial (fun hHeld => ?_)
          clear hK K2 hHeld
          try simp only [Act.put, List.setIfInBounds_toArray, List.set_cons_zero, List.set_cons_succ]
          refine wpAnyH_done (by kernel_rfl) ?_ _
          gi_wp2
          exact HEND.out.2
        case cb2 =>
          go_simp
          with_reducible refine HSC.out.mono ?_
          rintro e V1 ⟨v2, d2, rfl, ho2, hb2⟩
          have bc1 := (hb2.cell zb).trans bc
          have HO2 := Lib.hid (And.intro ho2 hb2)
          have HR1 := Lib.hid (HR.out.go (Goes.of_below hb2) (More.same _ _ _))
          have zb1 := HR1.out.box.lt
          clear ho2 hb2
          refine hK.out _ _ trivial (fun hHeld => ?_)
          clear hK K2 hHeld
          try simp only [Act.put, List.setIfInBounds_toArray, List.set_cons_zero, List.set_cons_succ]
          refine wpAnyH_ready (rs := [0, 3]) (by kernel_rfl) (by simp) ?_
          refine AllReadyH.cons rfl (fun K2 hK => ?ca3) (AllReadyH.cons rfl (fun K2 hK => ?cb3) AllReadyH.nil)
          case ca3 =>
            go_simp
            refine hK.out _ _ trivial (fun hHeld => ?_)
            clear hK K2 hHeld
            try simp only [Act.put, List.setIfInBounds_toArray, List.set_cons_zero, List.set_cons_succ]
            refine wpAnyH_ready (rs := [3]) (by kernel_rfl) (by simp) ?_
            refine AllReadyH.cons rfl (fun K2 hK => ?_) AllReadyH.nil
            go_simp
            refine hK.out _ _ trivial (fun hHeld => ?_)
            clear hK K2 hHeld
            try simp only [Act.put, List.setIfInBounds_toArray, List.set_cons_zero, List.set_cons_succ]
            refine wpAnyH_ready (rs := [4]) (by kernel_rfl) (by simp) ?_
            refine AllReadyH.cons rfl (fun K2 hK => ?_) AllReadyH.nil
            rw [if_pos (by rfl)]
            refine wp_append_lies _ (.tmp 15) (.tmp 18) 22 rfl w.heap.size 42 i0 (.agg #[.int .i64 0, .slice none 0 0, .int .i64 0]) 3 40 Tryd.underlying22 hi hz0 hz1 hz2 rfl (by decide) _ l'.length (snmCs l') rfl (HR1.out.own.alloc _) ⟨V1.heap.size, 0, none⟩ 1 1 [.int .i64 kc, .slice v2 x.1.it.length d2, .int .i64 ku] rfl rfl (World.news_of_block (cs := #[.int .i64 kc, .slice v2 x.1.it.length d2, .int .i64 ku]) (t := 42) (fr := (0, 0)) (by first | exact World.alloc_heap_new V1 _ | exact heap_alloc_new V1 _)) (by simp [Value.oneCell']) (by decide) (by unfold maxLen; omega) (by omega) (by rw [World.size_alloc]; have := HR1.out.below.size; omega) _ rfl ?_
            intro g cg w4 ho4 hg4 hat hlt
            have HEND := Lib.hid (stay_end (x := x) HFB.out HR.out HO2.out.2 HSX.out HO2.out.1 HMD.out (by rw [HKU.out.1, HKU.out.2]; exact ho4) (by rw [HKU.out.1, HKU.out.2]; exact hg4) (by rw [HKU.out.1, HKU.out.2]; exact hat))
            have c4 := HEND.out.1.cell
            have f4 := HEND.out.1.frozen
            clear ho4 hg4 hat
            refine hK.out _ _ trivial (fun hHeld => ?_)
            clear hK K2 hHeld
            try simp only [Act.put, List.setIfInBounds_toArray, List.set_cons_zero, List.set_cons_succ]
            refine wpAnyH_ready (rs := [5]) (by kernel_rfl) (by simp) ?_
            refine AllReadyH.cons rfl (fun K2 hK => ?_) AllReadyH.nil
            go_simp
            refine hK.out _ _ trivial (fun hHeld => ?_)
            clear hK K2 hHeld
            try simp only [Act.put, List.setIfInBounds_toArray, List.set_cons_zero, List.set_cons_succ]
            refine wpAnyH_done (by kernel_rfl) ?_ _
            gi_wp2
            exact HEND.out.2
          case cb3 =>
            go_simp
            refine hK.out _ _ trivial (fun hHeld => ?_)
            clear hK K2 hHeld
            try simp only [Act.put, List.setIfInBounds_toArray, List.set_cons_zero, List.set_cons_succ]
            have bc2 := keep_alloc (.cells #[.int .i64 kc, .slice v2 x.1.it.length d2, .int .i64 ku] 42) bc1
            refine wpAnyH_ready (rs := [0]) (by kernel_rfl) (by simp) ?_
            refine AllReadyH.cons rfl (fun K2 hK => ?_) AllReadyH.nil
            go_simp
            refine hK.out _ _ trivial (fun hHeld => ?_)
            clear hK K2 hHeld
            try simp only [Act.put, List.setIfInBounds_toArray, List.set_cons_zero, List.set_cons_succ]
            refine wpAnyH_ready (rs := [4]) (by kernel_rfl) (by simp) ?_
            refine AllReadyH.cons rfl (fun K2 hK => ?_) AllReadyH.nil
            rw [if_pos (by rfl)]
            refine wp_append_lies _ (.tmp 15) (.tmp 18) 22 rfl w.heap.size 42 i0 (.agg #[.int .i64 0, .slice none 0 0, .int .i64 0]) 3 40 Tryd.underlying22 hi hz0 hz1 hz2 rfl (by decide) _ l'.length (snmCs l') rfl (HR1.out.own.alloc _) ⟨V1.heap.size, 0, none⟩ 1 1 [.int .i64 kc, .slice v2 x.1.it.length d2, .int .i64 ku] rfl rfl (World.news_of_block (cs := #[.int .i64 kc, .slice v2 x.1.it.length d2, .int .i64 ku]) (t := 42) (fr := (0, 0)) (by first | exact World.alloc_heap_new V1 _ | exact heap_alloc_new V1 _)) (by simp [Value.oneCell']) (by decide) (by unfold maxLen; omega) (by omega) (by rw [World.size_alloc]; have := HR1.out.below.size; omega) _ rfl ?_
            intro g cg w4 ho4 hg4 hat hlt
            have HEND := Lib.hid (stay_end (x := x) HFB.out HR.out HO2.out.2 HSX.out HO2.out.1 HMD.out (by rw [HKU.out.1, HKU.out.2]; exact ho4) (by rw [HKU.out.1, HKU.out.2]; exact hg4) (by rw [HKU.out.1, HKU.out.2]; exact hat))
            have c4 := HEND.out.1.cell
            have f4 := HEND.out.1.frozen
            clear ho4 hg4 hat
            refine hK.out _ _ trivial (fun hHeld => ?_)
            clear hK K2 hHeld
            try simp only [Act.put, List.setIfInBounds_toArray, List.set_cons_zero, List.set_cons_succ]
            refine wpAnyH_ready (rs := [5]) (by kernel_rfl) (by simp) ?_
            refine AllReadyH.cons rfl (fun K2 hK => ?_) AllReadyH.nil
            go_simp
            refine hK.out _ _ trivial (fun hHeld => ?_)
            clear hK K2 hHeld
            try simp only [Act.put, List.setIfInBounds_toArray, List.set_cons_zero, List.set_cons_succ]
            refine wpAnyH_done (by kernel_rfl) ?_ _
            gi_wp2
            exact HEND.out.2
  case done =>
    rintro D xs Pv W hlD hpD rfl ⟨qf, v, l', h3⟩ hdef
    have HD := Lib.hid hdef
    have HR := Lib.hid h3
    have zD := blt hst
    have q1 := h3.box.cell
    obtain ⟨ao, co, rfl⟩ := row_form h3.own
    clear hdef h3 hI HBI hst qf
    gi_wp2
    refine ⟨by simp, .inl ⟨_, _, rfl, run_takeDeferred HD.out, ?_⟩⟩
    refine ⟨_, results_tmp rfl _ _ _, ?_⟩
    have hDg : ∀ (u : Value), (∀ g, u.ownBlock = some g → ¬ Pv g) → u.ownBlock = none ∨ u.ownBlock ≠ some D := fun u hu => by
      cases hv : u.ownBlock with
      | none => exact .inl rfl
      | some g => exact .inr (fun e => hu g hv (by cases e; exact hpD))
    refine ⟨_, l', rfl, HR.out.own.kept (grownBy_putObj' _ D _) (hDg _ HR.out.pg), ?_, fun y hy => ?_, HR.out.below.grown (grownBy_putObj' _ D _) HR.out.below.size (fun j hj => by cases hj; omega)⟩
    · rw [HR.out.map, PP_idx]
    · exact (HR.out.it y hy).1.kept (grownBy_putObj' _ D _) (hDg _ (HR.out.it y hy).2)
  case stop =>
    rintro D c pre Pv W hlD hpD hSp h hdef
    exact h.elim
end Go.Proofs.YtgceecfjammnaaaDoor.L16

/- Which pools are the same. (Written by hand: no generator.) -/
namespace Go.Proofs.YtgceecfjammnaaaDoor.L16
open Go.RowKit Go.Shelf
attribute [local go_sem] Oper.semAt_some
set_option linter.unusedSimpArgs false
set_option linter.unusedVariables false
def sameS (x y : Snp) : Bool := decide (x.c = y.c ∧ x.u = y.u ∧ x.it = y.it)
def sameL : List Snp → List Snp → Bool
  | [], [] => true
  | x :: l, y :: m => sameS x y && sameL l m
  | _, _ => false
def sameP (p q : Pl) : Bool := decide (p.n = q.n) && sameL p.l q.l
theorem sameS_iff (x y : Snp) : sameS x y = true ↔ x = y := by
  unfold sameS
  rw [decide_eq_true_eq]
  constructor
  · rintro ⟨h1, h2, h3⟩
    cases x; cases y
    simp only at h1 h2 h3
    rw [h1, h2, h3]
  · rintro rfl; exact ⟨rfl, rfl, rfl⟩
theorem sameL_iff : ∀ (l m : List Snp), sameL l m = true ↔ l = m
  | [], [] => by simp [sameL]
  | [], y :: m => by simp [sameL]
  | x :: l, [] => by simp [sameL]
  | x :: l, y :: m => by simp [sameL, sameS_iff, sameL_iff l m]
theorem sameP_iff (p q : Pl) : sameP p q = true ↔ p = q := by
  unfold sameP
  rw [Bool.and_eq_true, decide_eq_true_eq, sameL_iff]
  cases p; cases q
  simp only [Pl.mk.injEq]
  exact And.comm
theorem sameL_len {l m : List Snp} (h : l.length ≠ m.length) : sameL l m = false := by
  cases e : sameL l m
  · rfl
  · exact absurd (congrArg List.length ((sameL_iff l m).1 e)) h
theorem sameL_no {l m : List Snp} {k : Nat} (h1 : k < l.length) (h2 : k < m.length) (h : sameS l[k] m[k] = false) : sameL l m = false := by
  cases e : sameL l m
  · rfl
  · have := (sameL_iff l m).1 e
    subst this
    rw [(sameS_iff _ _).2 rfl] at h
    cases h
theorem sameL_yes {l m : List Snp} (hl : l.length = m.length) (h : ∀ k, (h1 : k < l.length) → (h2 : k < m.length) → sameS l[k] m[k] = true) : sameL l m = true :=
  (sameL_iff l m).2 (List.ext_getElem hl (fun k h1 h2 => (sameS_iff _ _).1 (h k h1 h2)))
set_option maxRecDepth 100000 in
set_option maxHeartbeats 4000000 in
theorem same1_c (x y : SnM) (hx : x.it.length ≤ 1000) (hy : y.it.length ≤ 1000) (w : World) (h1 : StrsAt w.heap.size w x.ita x.it) (h2 : StrsAt w.heap.size w y.ita y.it) :
    Calls Tryd.prog 43 #[.agg #[.int .i64 x.c, .slice x.ita x.it.length x.itd, .int .i64 x.u], .agg #[.int .i64 y.c, .slice y.ita y.it.length y.itd, .int .i64 y.u]] w fun e w' => e = .returned (.bool (sameS x.p y.p)) ∧ Below w.heap.size w w' := by
  have HC := Lib.hid (fun W (hb : Below w.heap.size w W) => equalS_c x.ita y.ita x.itd y.itd x.it y.it W hx hy ((h1.below hb).mono hb.size) ((h2.below hb).mono hb.size))
  have HS := Lib.hid (show sameS x.p y.p = (decide (x.c = y.c) && (decide (x.u = y.u) && decide (x.it = y.it))) by unfold sameS SnM.p; rw [Bool.decide_and, Bool.decide_and])
  generalize sameS x.p y.p = R at *
  generalize decide (x.it = y.it) = D at *
  generalize x.c = c1 at *
  generalize y.c = c2 at *
  generalize x.u = u1 at *
  generalize y.u = u2 at *
  clear h1 h2 hx hy
  by_cases k1 : c1 = c2
  · have e1 : (c1 == c2) = true := by simpa using k1
    by_cases k2 : u1 = u2
    · have e2 : (u1 == u2) = true := by simpa using k2
      have HR := Lib.hid (show R = D by rw [HS.out, decide_eq_true k1, decide_eq_true k2]; rfl)
      clear k1 k2
      go_enter Tryd.func43, Tryd.ntmps43
      go_wp2_with fail
      refine (HC.out _ (bal (below_alloc w _) _)).mono ?_
      rintro e w1 ⟨rfl, hb⟩
      have HB := Lib.hid (btr (bal (below_alloc w _) _) hb)
      clear hb HC
      go_wp2
      go_ret
      exact ⟨by rw [HR.out]; first | rfl | (cases D <;> rfl), HB.out⟩
    · have e2 : (u1 == u2) = false := by simpa using k2
      have HR := Lib.hid (show R = false by rw [HS.out, decide_eq_false k2]; simp)
      go_enter Tryd.func43, Tryd.ntmps43
      go_wp2
      go_ret
      exact ⟨by rw [HR.out]; rfl, bal (below_alloc w _) _⟩
  · have e1 : (c1 == c2) = false := by simpa using k1
    have HR := Lib.hid (show R = false by rw [HS.out, decide_eq_false k1]; rfl)
    go_enter Tryd.func43, Tryd.ntmps43
    go_wp2
    go_ret
    exact ⟨by rw [HR.out]; rfl, bal (below_alloc w _) _⟩
set_option maxRecDepth 100000 in
set_option maxHeartbeats 4000000 in
theorem equalF_c (a b : Option Addr) (c d : Nat) (l m : List SnM) (hl : l.length ≤ 100000) (hm : m.length ≤ 100000) (hil : ∀ x ∈ l, x.it.length ≤ 1000) (him : ∀ x ∈ m, x.it.length ≤ 1000) (w : World) (hA : PlAt w.heap.size w a l) (hB : PlAt w.heap.size w b m) :
    Calls Tryd.prog 42 #[.slice a l.length c, .slice b m.length d, .func (.func 43) #[] #[]] w fun e w' => e = .returned (.bool (sameL (l.map SnM.p) (m.map SnM.p))) ∧ Below w.heap.size w w' := by
  by_cases hlm : l.length = m.length
  · have HA := Lib.hid hA
    have HB := Lib.hid hB
    have HL := Lib.hid hlm
    have HI := Lib.hid (And.intro hil him)
    clear hA hB hil him
    rw [← hlm]
    clear hlm hm
    obtain ⟨N, hN⟩ : ∃ N, l.length = N := ⟨_, rfl⟩
    have HN := Lib.hid hN
    rw [hN] at hl ⊢
    clear hN
    go_enter Tryd.func42, Tryd.ntmps42
    go_wp2
    go_loopw [17] (fun i wr => Hid (Below w.heap.size w wr) ∧ ∃ k : Nat, k ≤ N ∧ i = .int .i64 (k : Int) ∧ Hid (∀ j, j < k → (h1 : j < l.length) → (h2 : j < m.length) → sameS l[j].p m[j].p = true)) (fun i _ => N - (intOf i).toNat)
    case atStart => exact ⟨Lib.hid (Below.refl _ _), 0, Nat.zero_le _, rfl, Lib.hid (fun j h => absurd h (by omega))⟩
    case round =>
      obtain ⟨HW, k, hk, rfl, HT⟩ := hrel
      by_cases hlt : k < N
      · have hkl : k < l.length := by have := HN.out; omega
        have hkm : k < m.length := by have := HN.out; have := HL.out; omega
        obtain ⟨b1, o1, rfl, _, p0, p1, p2⟩ := (HA.out.s.below HW.out) k hkl
        obtain ⟨b2, o2, rfl, _, q0, q1, q2⟩ := (HB.out.s.below HW.out) k hkm
        have hlt' : (k : Int) < (N : Int) := by omega
        have HC := Lib.hid (fun V (hb : Below w.heap.size w V) => same1_c l[k] m[k] (HI.out.1 _ (List.getElem_mem hkl)) (HI.out.2 _ (List.getElem_mem hkm)) V (((HA.out.i _ (List.getElem_mem hkl)).below hb).mono hb.size) (((HB.out.i _ (List.getElem_mem hkm)).below hb).mono hb.size))
        have H1 := Lib.hid (show sameS l[k].p m[k].p = true → ∀ j, j < k + 1 → (h1 : j < l.length) → (h2 : j < m.length) → sameS l[j].p m[j].p = true from fun e j hj h1 h2 => by
          by_cases e2 : j < k
          · exact HT.out j e2 h1 h2
          · obtain rfl : j = k := by omega
            exact e)
        have H2 := Lib.hid (show sameS l[k].p m[k].p = false → sameL (l.map SnM.p) (m.map SnM.p) = false from fun e => sameL_no (k := k) (by simpa using hkl) (by simpa using hkm) (by simpa using e))
        generalize l[k] = x at *
        generalize m[k] = y at *
        clear hkl hkm
        replace q0 := keep_alloc (.cells #[.int .i64 x.c, .slice x.ita x.it.length x.itd, .int .i64 x.u] 42) q0
        replace q1 := keep_alloc (.cells #[.int .i64 x.c, .slice x.ita x.it.length x.itd, .int .i64 x.u] 42) q1
        replace q2 := keep_alloc (.cells #[.int .i64 x.c, .slice x.ita x.it.length x.itd, .int .i64 x.u] 42) q2
        cases hs : sameS x.p y.p
        · rw [hs] at HC
          have HF := Lib.hid (H2.out hs)
          clear hs H1 H2
          go_wp2_with fail
          refine (HC.out _ (btr HW.out (bal (below_alloc _ _) _))).mono ?_
          rintro e w2 ⟨rfl, hb⟩
          have HB2 := Lib.hid (btr (btr HW.out (bal (below_alloc _ _) _)) hb)
          clear hb HC p0 p1 p2 q0 q1 q2
          go_wp2
          go_ret
          exact ⟨by rw [HF.out]; rfl, HB2.out⟩
        · rw [hs] at HC
          have HF := Lib.hid (H1.out hs)
          clear hs H1 H2
          go_wp2_with fail
          refine (HC.out _ (btr HW.out (bal (below_alloc _ _) _))).mono ?_
          rintro e w2 ⟨rfl, hb⟩
          have HB2 := Lib.hid (btr (btr HW.out (bal (below_alloc _ _) _)) hb)
          clear hb HC p0 p1 p2 q0 q1 q2
          go_wp2
          go_roundw
          case rel => exact ⟨HB2, k + 1, by omega, by go_num, HF⟩
          case measure => simp [intOf]; omega
      · obtain rfl : k = N := by omega
        have hlt' : ¬ (k : Int) < (k : Int) := by omega
        have HF := Lib.hid (show sameL (l.map SnM.p) (m.map SnM.p) = true from sameL_yes (by simpa using HL.out) (fun j h1 h2 => by
          have := HT.out j (by have := HN.out; simp at h1; omega) (by simpa using h1) (by simpa using h2)
          simpa using this))
        go_wp2
        go_ret
        exact ⟨by rw [HF.out]; rfl, HW.out⟩
  · have HF := Lib.hid (show sameL (l.map SnM.p) (m.map SnM.p) = false from sameL_len (by simpa using hlm))
    have hl' : ¬ (l.length : Int) = (m.length : Int) := by omega
    have hl2 : (((l.length : Int) == (m.length : Int)) = false) := by simpa using hl'
    clear hA hB hil him
    generalize l.length = N at *
    generalize m.length = M at *
    go_enter Tryd.func42, Tryd.ntmps42
    go_wp2
    go_ret
    exact ⟨by rw [HF.out]; rfl, Below.refl _ _⟩
set_option maxRecDepth 100000 in
set_option maxHeartbeats 4000000 in
theorem pSame_c (a b : Option Addr) (c d : Nat) (n1 n2 : Int) (l m : List SnM) (hl : l.length ≤ 100000) (hm : m.length ≤ 100000) (hil : ∀ x ∈ l, x.it.length ≤ 1000) (him : ∀ x ∈ m, x.it.length ≤ 1000) (w : World) (hA : PlAt w.heap.size w a l) (hB : PlAt w.heap.size w b m) :
    Calls Tryd.prog 18 #[.agg #[.slice a l.length c, .int .i64 n1], .agg #[.slice b m.length d, .int .i64 n2]] w fun e w' => e = .returned (.bool (sameP ⟨l.map SnM.p, n1⟩ ⟨m.map SnM.p, n2⟩)) ∧ Below w.heap.size w w' := by
  have HC := Lib.hid (fun W (hb : Below w.heap.size w W) => equalF_c a b c d l m hl hm hil him W (hA.on hb) (hB.on hb))
  have HS := Lib.hid (show sameP ⟨l.map SnM.p, n1⟩ ⟨m.map SnM.p, n2⟩ = (decide (n1 = n2) && sameL (l.map SnM.p) (m.map SnM.p)) from rfl)
  generalize sameP ⟨l.map SnM.p, n1⟩ ⟨m.map SnM.p, n2⟩ = R at *
  generalize sameL (l.map SnM.p) (m.map SnM.p) = D at *
  clear hA hB hil him
  by_cases k1 : n1 = n2
  · have e1 : (n1 == n2) = true := by simpa using k1
    have HR := Lib.hid (show R = D by rw [HS.out, decide_eq_true k1]; rfl)
    clear k1
    go_enter Tryd.func18, Tryd.ntmps18
    go_wp2_with fail
    refine (HC.out _ (bal (below_alloc w _) _)).mono ?_
    rintro e w1 ⟨rfl, hb⟩
    have HB := Lib.hid (btr (bal (below_alloc w _) _) hb)
    clear hb HC
    go_wp2
    go_ret
    exact ⟨by rw [HR.out]; first | rfl | (cases D <;> rfl), HB.out⟩
  · have e1 : (n1 == n2) = false := by simpa using k1
    have HR := Lib.hid (show R = false by rw [HS.out, decide_eq_false k1]; rfl)
    go_enter Tryd.func18, Tryd.ntmps18
    go_wp2
    go_ret
    exact ⟨by rw [HR.out]; rfl, bal (below_alloc w _) _⟩
end Go.Proofs.YtgceecfjammnaaaDoor.L16

/- fault.First over checks of any kind, by their contracts (layer 3 has it as its text S). -/
namespace Go.Proofs.YtgceecfjammnaaaDoor
open Go.RowKit Go.Shelf
attribute [local go_sem] Oper.semAt_some

/-- The first of k errors from the i-th on. -/
def firstE (er : Nat → Value) (i : Nat) : Nat → Value
  | 0 => .nilIface
  | k + 1 => match er i with
    | .nilIface => firstE er (i + 1) k
    | v => v
theorem firstE_nil {er : Nat → Value} {i k : Nat} (h : er i = .nilIface) : firstE er i (k + 1) = firstE er (i + 1) k := by simp [firstE, h]
theorem firstE_err {er : Nat → Value} {i k : Nat} {t : TypeId} {v : Value} (h : er i = .iface t v) : firstE er i (k + 1) = .iface t v := by simp [firstE, h]
set_option maxRecDepth 100000 in
set_option maxHeartbeats 4000000 in
theorem faultFirst_c (n : Nat) (hn : n ≤ 1000) (b : Nat) (f : Nat → Nat) (rc cp : Nat → Array Value) (er : Nat → Value) (w : World)
    (hc : ∀ i, i < n → w.cell? ⟨b, i, none⟩ = some (.func (.func (f i)) (rc i) (cp i)))
    (HC : ∀ i, i < n → (∀ j, j < i → er j = .nilIface) → ∀ W, Below w.heap.size w W → Calls Tryd.prog (f i) (rc i ++ cp i) W fun x w' => x = .returned (er i) ∧ Below W.heap.size W w')
    (eg : ∀ i, i < n → ∀ args W, (callFunc (f i) args).run Tryd.prog W = .ok (.enter (f i) args) W)
    (her : ∀ i, i < n → er i = .nilIface ∨ ∃ t v, er i = .iface t v) :
    Calls Tryd.prog 23 #[.slice (some ⟨b, 0, none⟩) n n] w fun x w' => x = .returned (firstE er 0 n) ∧ Below w.heap.size w w' := by
  have HCC := Lib.hid HC
  have HCL := Lib.hid hc
  have HER := Lib.hid her
  have EG := Lib.hid eg
  clear HC hc her eg
  go_enter Tryd.func23, Tryd.ntmps23
  go_wp2
  go_loopw [8] (fun i wr => ∃ k : Nat, k ≤ n ∧ i = .int .i64 k ∧ Hid (∀ j, j < k → er j = .nilIface) ∧ Hid (firstE er k (n - k) = firstE er 0 n) ∧ Hid (Below w.heap.size w wr)) (fun i _ => n - (intOf i).toNat)
  case atStart => exact ⟨0, Nat.zero_le _, rfl, Lib.hid (fun _ h => absurd h (by omega)), Lib.hid rfl, Lib.hid (Below.refl _ _)⟩
  case round =>
    obtain ⟨k, hk, rfl, hj, hf, hb⟩ := hrel
    by_cases hlt : k < n
    · have hlt' : (k : Int) < (n : Int) := by omega
      have hce := (hb.out.cell (p := ⟨b, k, none⟩) (blt (HCL.out k hlt))).trans (HCL.out k hlt)
      have ek := EG.out k hlt
      have HK := Lib.hid (HCC.out k hlt hj.out)
      rcases HER.out k hlt with he | ⟨t, v, he⟩
      · rw [he] at HK
        have hj2 := Lib.hid (show ∀ j, j < k + 1 → er j = .nilIface from fun j h => by rcases Nat.lt_succ_iff_lt_or_eq.1 h with h | rfl; exact hj.out j h; exact he)
        have hf2 := Lib.hid (show firstE er (k + 1) (n - (k + 1)) = firstE er 0 n by rw [← hf.out, show n - k = (n - (k + 1)) + 1 by omega, firstE_nil he])
        clear he
        go_wp2_with fail
        refine (HK.out _ hb.out).mono ?_; rintro e w1 ⟨rfl, hb1⟩
        have HB := Lib.hid (btr hb.out hb1)
        clear hb1 ek hce
        go_wp2
        go_roundw
        case rel => exact ⟨k + 1, by omega, by go_num, hj2, hf2, HB⟩
        case measure => simp [intOf]; omega
      · rw [he] at HK
        have hf2 : firstE er 0 n = .iface t v := by rw [← hf.out, show n - k = (n - (k + 1)) + 1 by omega, firstE_err he]
        clear he
        go_wp2_with fail
        refine (HK.out _ hb.out).mono ?_; rintro e w1 ⟨rfl, hb1⟩
        have HB := Lib.hid (btr hb.out hb1)
        clear hb1 ek hce
        go_wp2
        go_ret
        exact ⟨by first | rfl | (rw [hf2]; rfl), HB.out⟩
    · have hge : ¬ (k : Int) < (n : Int) := by omega
      have hf2 : firstE er 0 n = .nilIface := by rw [← hf.out, show n - k = 0 by omega]; rfl
      go_wp2
      go_ret
      exact ⟨by first | rfl | (rw [hf2]; rfl), hb.out⟩
end Go.Proofs.YtgceecfjammnaaaDoor

/- fault.Between, for any bounds; checks one behind the other. -/
namespace Go.Proofs.YtgceecfjammnaaaDoor
open Go.RowKit Go.Shelf
attribute [local go_sem] Oper.semAt_some

def btB (n lo hi : Int) : Bool := decide (lo ≤ n) && decide (n ≤ hi)
/-- What Between's check reads. -/
structure BtAt (b0 b1 b2 b3 : Nat) (n lo hi no : Int) (W : World) : Prop where
  c0 : W.cell? ⟨b0, 0, none⟩ = some (.int .i64 n)
  c1 : W.cell? ⟨b1, 0, none⟩ = some (.int .i64 lo)
  c2 : W.cell? ⟨b2, 0, none⟩ = some (.int .i64 hi)
  c3 : W.cell? ⟨b3, 0, none⟩ = some (.int .i64 no)
theorem BtAt.on {b0 b1 b2 b3 : Nat} {n lo hi no : Int} {W W' : World} (h : BtAt b0 b1 b2 b3 n lo hi no W) (k : Below W.heap.size W W') : BtAt b0 b1 b2 b3 n lo hi no W' :=
  ⟨(k.cell (blt h.c0)).trans h.c0, (k.cell (blt h.c1)).trans h.c1, (k.cell (blt h.c2)).trans h.c2, (k.cell (blt h.c3)).trans h.c3⟩
def BtP (n lo hi no : Int) (w : World) (y : Ending) (w' : World) : Prop := ∃ b0 b1 b2 b3, y = .returned (.func (.func 60) #[] #[.pointer (some ⟨b0, 0, none⟩), .pointer (some ⟨b1, 0, none⟩), .pointer (some ⟨b2, 0, none⟩), .pointer (some ⟨b3, 0, none⟩)]) ∧ BtAt b0 b1 b2 b3 n lo hi no w' ∧ Below w.heap.size w w'
set_option maxRecDepth 100000 in
set_option maxHeartbeats 4000000 in
theorem between_e (n lo hi no : Int) (w : World) : Calls Tryd.prog 35 #[.int .i64 n, .int .i64 lo, .int .i64 hi, .int .i64 no] w (BtP n lo hi no w) := by
  go_enter Tryd.func35, Tryd.ntmps35
  go_wp2
  go_ret
  exact ⟨w.heap.size, w.heap.size + 1, w.heap.size + 1 + 1, w.heap.size + 1 + 1 + 1, rfl, ⟨by go_simp, by go_simp, by go_simp, by go_simp⟩, bal (bal (bal (below_alloc _ _) _) _) _⟩
set_option maxRecDepth 100000 in
set_option maxHeartbeats 4000000 in
theorem between1_g (n lo hi no : Int) (b0 b1 b2 b3 : Nat) (w : World) (h : BtAt b0 b1 b2 b3 n lo hi no w) : Calls Tryd.prog 60 #[.pointer (some ⟨b0, 0, none⟩), .pointer (some ⟨b1, 0, none⟩), .pointer (some ⟨b2, 0, none⟩), .pointer (some ⟨b3, 0, none⟩)] w fun r w' => r = .returned (errV (btB n lo hi) no) ∧ Below w.heap.size w w' := by
  obtain ⟨c0, c1, c2, c3⟩ := h
  have HU := Lib.hid (fun b => unless_c w b no)
  by_cases k0 : lo ≤ n
  · by_cases k1 : n ≤ hi
    · have he : btB n lo hi = true := by unfold btB; rw [decide_eq_true k0, decide_eq_true k1]; rfl
      rw [he]
      clear he
      go_enter Tryd.func60, Tryd.ntmps60
      go_wp2_with fail
      refine (HU.out true).mono ?_
      rintro e w1 ⟨rfl, rfl⟩
      go_wp2
      go_ret
      exact ⟨rfl, Below.refl _ _⟩
    · have he : btB n lo hi = false := by unfold btB; rw [decide_eq_false k1, Bool.and_false]
      rw [he]
      clear he
      go_enter Tryd.func60, Tryd.ntmps60
      go_wp2_with fail
      refine (HU.out false).mono ?_
      rintro e w1 ⟨rfl, rfl⟩
      go_wp2
      go_ret
      exact ⟨rfl, Below.refl _ _⟩
  · have he : btB n lo hi = false := by unfold btB; rw [decide_eq_false k0, Bool.false_and]
    rw [he]
    clear he
    go_enter Tryd.func60, Tryd.ntmps60
    go_wp2_with fail
    refine (HU.out false).mono ?_
    rintro e w1 ⟨rfl, rfl⟩
    go_wp2
    go_ret
    exact ⟨rfl, Below.refl _ _⟩
theorem errV_two (b : Bool) (c : Int) : errV b c = .nilIface ∨ ∃ t v, errV b c = .iface t v := by
  cases b
  · exact .inr ⟨_, _, rfl⟩
  · exact .inl rfl
/-- The first error of checks that are told by bools and numbers. -/
def firstB : List (Bool × Int) → Value
  | [] => .nilIface
  | (true, _) :: l => firstB l
  | (false, c) :: _ => errV false c
def atL (l : List (Bool × Int)) (i : Nat) : Value := match l[i]? with
  | some p => errV p.1 p.2
  | none => .nilIface
theorem firstE_atL : ∀ (l m : List (Bool × Int)) (i : Nat), m.length = i → firstE (atL (m ++ l)) i l.length = firstB l
  | [], _, _, _ => rfl
  | (b, c) :: l, m, i, hi => by
    have e : atL (m ++ (b, c) :: l) i = errV b c := by
      unfold atL
      rw [List.getElem?_append_right (by omega), hi, Nat.sub_self]
      rfl
    have ih := firstE_atL l (m ++ [(b, c)]) (i + 1) (by simp [hi])
    rw [List.append_assoc] at ih
    cases b
    · rw [List.length_cons, firstE_err (show atL (m ++ (false, c) :: l) i = .iface _ _ from e)]
      rfl
    · rw [List.length_cons, firstE_nil (show atL (m ++ (true, c) :: l) i = .nilIface from e)]
      exact ih
theorem firstE_list (l : List (Bool × Int)) : firstE (atL l) 0 l.length = firstB l := firstE_atL l [] 0 rfl
theorem atL_two (l : List (Bool × Int)) (i : Nat) : atL l i = .nilIface ∨ ∃ t v, atL l i = .iface t v := by
  unfold atL
  cases l[i]? with
  | none => exact .inl rfl
  | some p => exact errV_two _ _
theorem atL_ok {l : List (Bool × Int)} {i : Nat} {b : Bool} {c : Int} (h : l[i]? = some (b, c)) (k : atL l i = .nilIface) : b = true := by
  unfold atL at k
  rw [h] at k
  cases b
  · cases k
  · rfl
/-- The number of the first error, 0 of none. -/
def firstN : List (Bool × Int) → Int
  | [] => 0
  | (true, _) :: l => firstN l
  | (false, c) :: _ => c
theorem firstB_two : ∀ l : List (Bool × Int), (l.all (·.1) = true ∧ firstB l = .nilIface ∧ firstN l = 0) ∨ (l.all (·.1) = false ∧ firstB l = .iface 75 (.agg #[.int .i64 (firstN l)]))
  | [] => .inl ⟨rfl, rfl, rfl⟩
  | (true, c) :: l => by
    rcases firstB_two l with ⟨h1, h2, h3⟩ | ⟨h1, h2⟩
    · exact .inl ⟨by rw [List.all_cons, h1]; rfl, h2, h3⟩
    · exact .inr ⟨by rw [List.all_cons, h1]; rfl, h2⟩
  | (false, c) :: l => .inr ⟨by rw [List.all_cons]; rfl, rfl⟩
end Go.Proofs.YtgceecfjammnaaaDoor
