/- Lx, Ol, Pe, Rh -/
import Derived.Test.YtikpmkidfppknaaGreatDoorZ10
import Derived.Test.YtikpmkidfppknaaGreatDoorZ5
import Derived.ChangeShapes
import Derived.ChangeArms
import Derived.Deep.Slices
set_option linter.unusedVariables false
set_option linter.unusedSimpArgs false
/- Contracts as the laws take them. -/
namespace Go.Proofs.YtikpmkidfppknaaGreatDoor
open Go.RowKit Go.Shelf
attribute [local go_sem] Oper.semAt_some

def RotW (m : List Crd) (n : Nat) (i e : Int) (w : World) (y : Ending) (w' : World) : Prop := ∃ a c, y = .returned (.tuple #[.slice a n c, .int .i64 i, .int .i64 e]) ∧ CrdAt w'.heap.size w' a m ∧ Below w.heap.size w w'
theorem rot_w (a : Option Addr) (cap : Nat) (l : List Crd) (hs : l.length ≤ 100000) (key : ByteArray) (now overlap span : Int) (w : World) (hA : CrdAt w.heap.size w a l) (hE : ErrT w) :
    Calls Tryz.prog 11 #[.slice a l.length cap, .string key, .int .i64 now, .int .i64 overlap, .int .i64 span] w (RotW (rotM l key now overlap span) (rotM l key now overlap span).length (rotI l key now overlap span) (rotN l key now overlap span) w) := by
  refine (Rotate_c a cap l hs key now overlap span w hA hE).mono ?_
  rintro y w' ⟨v, rfl, ho, hb⟩
  obtain ⟨a, c, rfl, hA⟩ := crd_of_row ho
  exact ⟨a, c, rfl, hA, hb⟩
theorem hold_w (a : Option Addr) (cap : Nat) (l : List Crd) (hs : l.length ≤ 100000) (now : Int) (w : World) (hA : CrdAt w.heap.size w a l) :
    Calls Tryz.prog 17 #[.slice a l.length cap, .int .i64 now] w (RowP (holdL l now) (holdL l now).length w) := (Holding_c a cap l hs now w hA).mono fun _ _ h => h.row rfl
theorem few_w (a : Option Addr) (cap : Nat) (l : List Crd) (hs : l.length ≤ 9223372036854775807) (w : World) (hA : CrdAt w.heap.size w a l) :
    Calls Tryz.prog 9 #[.slice a l.length cap] w (RowP (fewL l) (fewL l).length w) := (Few_c a cap l hs w hA).mono fun _ _ h => h.row rfl
def EndW (m : List Crd) (n : Nat) (e : Int) (w : World) (y : Ending) (w' : World) : Prop := ∃ a c, y = .returned (.tuple #[.slice a n c, .int .i64 e]) ∧ CrdAt w'.heap.size w' a m ∧ Below w.heap.size w w'
theorem end_w (a : Option Addr) (cap : Nat) (l : List Crd) (hs : l.length ≤ 100000) (id now : Int) (hid : -9223372036854775808 ≤ id ∧ id ≤ 9223372036854775807) (w : World) (hA : CrdAt w.heap.size w a l) (hE : ErrT w) :
    Calls Tryz.prog 13 #[.slice a l.length cap, .int .i64 id, .int .i64 now] w (EndW (endM l id now) (endM l id now).length (endN l id now) w) := by
  refine (End_c a cap l hs id now hid w hA hE).mono ?_
  rintro y w' ⟨v, rfl, ho, hb⟩
  obtain ⟨a, c, rfl, hA⟩ := crd_of_row ho
  exact ⟨a, c, rfl, hA, hb⟩
theorem hold_len (l : List Crd) (now : Int) : (holdL l now).length ≤ l.length := by
  unfold holdL
  split
  · exact List.length_filter_le _ _
  · exact Nat.zero_le _
theorem rotM_len {l : List Crd} {key : ByteArray} {now overlap span : Int} : (rotM l key now overlap span).length ≤ 4 := by
  rcases rot_two l key now overlap span with ⟨_, _, h3, h4, _⟩ | ⟨_, h4, _⟩
  · rw [h4]
    unfold rotF at h3
    rw [Bool.or_eq_false_iff, decide_eq_false_iff_not] at h3
    omega
  · rw [h4]; exact Nat.zero_le _
end Go.Proofs.YtikpmkidfppknaaGreatDoor

/- An argument that is a slice of credentials, opened. -/
namespace Go.Proofs.YtikpmkidfppknaaGreatDoor
open Go.RowKit Go.ChangeShapes Go.WideShapes Go.Deep

section
variable {H : Type} {enc : TypeId × Value → H} {w : World} {base : Nat} {spare : Nat → Bool} {held : Bool}
instance inhCrd : Inhabited Crd := ⟨⟨0, ⟨#[]⟩, 0, 0⟩⟩
theorem crdFields : ∃ f0 f1 f2 f3 : Field, Tryz.prog.underlying 37 = some (.struct #[f0, f1, f2, f3]) ∧ (f0.type = 3 ∧ f0.offset = 0) ∧ (f1.type = 9 ∧ f1.offset = 1) ∧ (f2.type = 3 ∧ f2.offset = 2) ∧ (f3.type = 3 ∧ f3.offset = 3) :=
  ⟨_, _, _, _, Tryz.underlying37, ⟨rfl, rfl⟩, ⟨rfl, rfl⟩, ⟨rfl, rfl⟩, ⟨rfl, rfl⟩⟩
theorem cellsCrd : Tryz.prog.cellsOf 37 = 4 := by kernel_rfl
theorem cellsI : Tryz.prog.cellsOf 3 = 1 := by kernel_rfl
theorem cellsS : Tryz.prog.cellsOf 9 = 1 := by kernel_rfl
theorem cellsB : Tryz.prog.cellsOf 4 = 1 := by kernel_rfl
theorem add_pl (b o : Nat) (i : Nat) : (⟨b, o, none⟩ : Addr).add i = ⟨b, o + i, none⟩ := by unfold Addr.add; split <;> simp_all
theorem open_crds {fuel : Nat} {cs : List Value} {x : DataW H × List MemPlace} (h : DataW.trod enc Tryz.prog w base spare held fuel 22 cs = some x) :
    ∃ (a : Option Addr) (cap : Nat) (xs : List Crd), cs = [.slice a xs.length cap] ∧ CrdAt w.heap.size w a xs ∧ xs.length ≤ 9223372036854775807 := by
  rcases open_slice Tryz.underlying22 h with ⟨rfl, rfl⟩ | ⟨a, len, cap, m, n, D, Pl, rfl, hb, hl, hm, hmm, hx, hi⟩
  · exact ⟨none, 0, [], rfl, CrdAt.nil _ _ _, by simp⟩
  · have hlm : len ≤ m := by rw [hmm]; split <;> omega
    rw [cellsCrd] at hi
    obtain ⟨V, hV⟩ := choose_lt (α := Crd) (n := len) (p := fun i v => w.cell? (a.add (i * 4)) = some (.int .i64 v.i) ∧ w.cell? ((a.add (i * 4)).add 1) = some (.string v.k) ∧ w.cell? ((a.add (i * 4)).add 2) = some (.int .i64 v.f) ∧ w.cell? ((a.add (i * 4)).add 3) = some (.int .i64 v.t)) (fun i hil => by
      obtain ⟨cs', h1, h2⟩ := hi i (by omega)
      obtain ⟨_, hlen, hcell⟩ := World.cells?_some h1
      match cs', hlen with
      | [c0, c1, c2, c3], _ =>
        have e0 := hcell 0 (by omega)
        have e1 := hcell 1 (by omega)
        have e2 := hcell 2 (by omega)
        have e3 := hcell 3 (by omega)
        obtain ⟨f0, f1, f2, f3, hu, ⟨t0, o0⟩, ⟨t1, o1⟩, ⟨t2, o2⟩, ⟨t3, o3⟩⟩ := crdFields
        obtain ⟨ys, n', _, _, _, hyl, hf⟩ := DataW.trod_struct hu h2
        match ys, hyl with
        | [y0, y1, y2, y3], _ =>
          have g0 := hf 0 f0 rfl
          have g1 := hf 1 f1 rfl
          have g2 := hf 2 f2 rfl
          have g3 := hf 3 f3 rfl
          rw [t0, o0, cellsI] at g0
          rw [t1, o1, cellsS] at g1
          rw [t2, o2, cellsI] at g2
          rw [t3, o3, cellsI] at g3
          obtain ⟨k0, hk0, _⟩ := DataW.trod_int Tryz.underlying3 g0
          obtain ⟨k1, hk1, _⟩ := DataW.trod_string Tryz.underlying9 g1
          obtain ⟨k2, hk2, _⟩ := DataW.trod_int Tryz.underlying3 g2
          obtain ⟨k3, hk3, _⟩ := DataW.trod_int Tryz.underlying3 g3
          simp at hk0 hk1 hk2 hk3
          subst hk0 hk1 hk2 hk3
          exact ⟨⟨k0, k1, k2, k3⟩, e0, e1, e2, e3⟩)
    refine ⟨some a, cap, (List.range len).map V, by simp, fun i hil => ?_, by simp; unfold maxLen at hm; omega⟩
    have hil' : i < len := by simpa using hil
    obtain ⟨b, o, spot⟩ := a
    have hs0 := (hV 0 (by omega)).1
    have hspot : spot = none := by
      rw [Nat.zero_mul] at hs0
      simpa [Addr.add] using World.cell?_spot hs0
    subst hspot
    obtain ⟨c0, c1, c2, c3⟩ := hV i hil'
    rw [add_pl] at c0
    rw [add_pl, add_pl] at c1 c2 c3
    refine ⟨b, o, rfl, blt c0, ?_, ?_, ?_, ?_⟩
    · simpa using c0
    · simpa using c1
    · simpa using c2
    · simpa using c3
end
end Go.Proofs.YtikpmkidfppknaaGreatDoor

/- Ends, and two rotations, as plain functions. -/
namespace Go.Proofs.YtikpmkidfppknaaGreatDoor
open Go.RowKit Go.Shelf
attribute [local go_sem] Oper.semAt_some

theorem end_two (l : List Crd) (id now : Int) : (endN l id now = 0 ∧ rightB l = true ∧ (0 ≤ now ∧ now ≤ 1000000000000) ∧ hasB l id now = true ∧ endM l id now = chL (endS now id) (endD now id) l) ∨ (endN l id now ≠ 0 ∧ endM l id now = []) := by
  unfold endN endM
  cases hk : (endCh l id now).all (·.1)
  · exact .inr ⟨firstN_ne _ (by simp [endCh]) hk, rfl⟩
  · refine .inl ⟨?_, ?_, ?_, ?_, rfl⟩
    · rcases firstB_two (endCh l id now) with ⟨_, _, h⟩ | ⟨h, _⟩
      · exact h
      · rw [hk] at h; cases h
    all_goals
      simp only [endCh, btB, List.all_cons, List.all_nil, Bool.and_eq_true, decide_eq_true_eq, Bool.and_true] at hk
    · exact hk.1
    · exact hk.2.1
    · exact hk.2.2
theorem endD_i (now id : Int) (x : Crd) : (endD now id x).i = x.i := by unfold endD; split <;> rfl
theorem has_iff {l : List Crd} {id now : Int} : hasB l id now = true ↔ ∃ x ∈ l, x.i = id ∧ x.f ≤ now ∧ now < x.t := by
  unfold hasB
  rw [List.any_eq_true]
  constructor
  · rintro ⟨x, hx, h⟩
    rw [Bool.and_eq_true, decide_eq_true_iff, holdB_iff] at h
    exact ⟨x, hx, h.1, h.2⟩
  · rintro ⟨x, hx, h1, h2⟩
    exact ⟨x, hx, by rw [Bool.and_eq_true, decide_eq_true_iff, holdB_iff]; exact ⟨h1, h2⟩⟩
theorem end_right {l : List Crd} {id now : Int} (hr : rightB l = true) (hn : 0 ≤ now ∧ now ≤ 1000000000000) : rightB (chL (endS now id) (endD now id) l) = true := by
  obtain ⟨g1, g2, g3⟩ := (right_iff l).1 hr
  refine (right_iff _).2 ⟨Nat.le_trans (chL_len _ _ _) g1, fun y hy => ?_, rise_ch (endD_i now id) g3⟩
  obtain ⟨x, hx, hs, rfl⟩ := mem_ch.1 hy
  obtain ⟨q1, q2, q3⟩ := (credOK_iff x).1 (g2 x hx)
  by_cases e : x.i = id
  · have e1 : endD now id x = ⟨x.i, x.k, x.f, now⟩ := if_pos e
    rw [e1]
    unfold endS at hs
    rw [decide_eq_true e, Bool.not_true, Bool.false_or, decide_eq_true_iff] at hs
    exact (credOK_iff _).2 ⟨q1, q2, q3.1, hs, hn.2⟩
  · have e1 : endD now id x = x := if_neg e
    rw [e1]
    exact g2 x hx
theorem end_keep {l : List Crd} {id now at_ : Int} (hr : rightB l = true) (hn : 0 ≤ now ∧ now ≤ 1000000000000) {x : Crd} (hx : x ∈ holdL l at_) (he : ¬ x.i = id) : inB (holdL (chL (endS now id) (endD now id) l) at_) x.i = true := by
  unfold holdL at hx
  rw [if_pos hr] at hx
  obtain ⟨hx, hh⟩ := List.mem_filter.1 hx
  rw [in_hold (end_right hr hn)]
  refine ⟨x, mem_ch.2 ⟨x, hx, ?_, if_neg he⟩, rfl, hh⟩
  unfold endS
  rw [decide_eq_false he]
  rfl
theorem end_was {l : List Crd} {id now at_ : Int} (hr : rightB l = true) (hn : 0 ≤ now ∧ now ≤ 1000000000000) (hh : hasB l id now = true) {y : Crd} (hy : y ∈ holdL (chL (endS now id) (endD now id) l) at_) : inB (holdL l at_) y.i = true := by
  unfold holdL at hy
  rw [if_pos (end_right hr hn)] at hy
  obtain ⟨hy, hb⟩ := List.mem_filter.1 hy
  obtain ⟨x, hx, hs, rfl⟩ := mem_ch.1 hy
  rw [in_hold hr]
  refine ⟨x, hx, (endD_i now id x).symm, ?_⟩
  by_cases e : x.i = id
  · obtain ⟨z, hz, h1, h2, h3⟩ := has_iff.1 hh
    obtain rfl : z = x := uniq_id (right_nodup hr) hz hx (h1.trans e.symm)
    have e1 : endD now id z = ⟨z.i, z.k, z.f, now⟩ := if_pos e
    rw [e1, holdB_iff] at hb
    have hb1 : z.f ≤ at_ := hb.1
    have hb2 : at_ < now := hb.2
    exact (holdB_iff _ _).2 ⟨hb1, by omega⟩
  · have e1 : endD now id x = x := if_neg e
    rw [e1] at hb
    exact hb
theorem end_gone {l : List Crd} {id now at_ : Int} (hr : rightB l = true) (hn : 0 ≤ now ∧ now ≤ 1000000000000) (ha : now ≤ at_) : inB (holdL (chL (endS now id) (endD now id) l) at_) id = false := by
  cases h : inB (holdL (chL (endS now id) (endD now id) l) at_) id
  · rfl
  · obtain ⟨y, hy, hi, hb⟩ := (in_hold (end_right hr hn) _ _).1 h
    obtain ⟨x, hx, hs, rfl⟩ := mem_ch.1 hy
    rw [endD_i] at hi
    have e1 : endD now id x = ⟨x.i, x.k, x.f, now⟩ := if_pos hi
    rw [e1, holdB_iff] at hb
    have hb2 : at_ < now := hb.2
    omega
theorem rotL_last (l : List Crd) (key : ByteArray) (now overlap span : Int) : grtL (rotL l key now overlap span) = grtL l + 1 := by
  unfold rotL grtL
  rw [List.getLast?_append]
  rfl
end Go.Proofs.YtikpmkidfppknaaGreatDoor

/- The document's own Right and holds. -/
namespace Go.Proofs.YtikpmkidfppknaaGreatDoor
open Go.RowKit Go.Shelf
attribute [local go_sem] Oper.semAt_some

/-- Is the k-th as it must be, and above the one ahead of it? -/
def StepOK (l : List Crd) (k : Nat) : Prop := ∀ h : k < l.length, credOK l[k] = true ∧ ∀ q, (hq : q + 1 = k) → (l[q]'(by omega)).i < l[k].i
theorem ids_get2 (l : List Crd) (k : Nat) (h : k < (idsL l).length) : (idsL l)[k] = (l[k]'(by unfold idsL at h; rw [List.length_map] at h; exact h)).i := by
  exact List.getElem_map Crd.i
theorem right_step {l : List Crd} (h : rightB l = true) (k : Nat) : StepOK l k := by
  intro hk
  unfold rightB at h
  simp only [Bool.and_eq_true] at h
  obtain ⟨_, h1, h2⟩ := h
  refine ⟨List.all_eq_true.1 h1 _ (List.getElem_mem hk), fun q hq => ?_⟩
  have hp := (riseB_iff l).1 h2
  rw [List.pairwise_iff_getElem] at hp
  have hl : (idsL l).length = l.length := by unfold idsL; rw [List.length_map]
  have := hp q k (by omega) (by omega) (by omega)
  rw [ids_get2, ids_get2] at this
  exact this
theorem right_no {l : List Crd} {k : Nat} (hn : ¬ StepOK l k) : rightB l = false := by
  cases e : rightB l
  · rfl
  · exact absurd (right_step e k) hn
theorem rise_far {l : List Crd} (h : ∀ k, StepOK l k) : ∀ d q, (hq : q + d + 1 < l.length) → (l[q]'(by omega)).i < (l[q + d + 1]'hq).i
  | 0, q, hq => (h (q + 1) hq).2 q rfl
  | d + 1, q, hq => Int.lt_trans (rise_far h d q (by omega)) ((h (q + (d + 1) + 1) hq).2 (q + d + 1) rfl)
theorem right_all {l : List Crd} (h : ∀ k, StepOK l k) : rightB l = decide (l.length ≤ 4) := by
  have h1 : l.all credOK = true := by
    rw [List.all_eq_true]
    intro x hx
    obtain ⟨j, hj, rfl⟩ := List.getElem_of_mem hx
    exact (h j hj).1
  have h2 : riseB l = true := by
    rw [riseB_iff, List.pairwise_iff_getElem]
    intro i j hi hj hij
    rw [ids_get2, ids_get2]
    have hl : (idsL l).length = l.length := by unfold idsL; rw [List.length_map]
    obtain ⟨d, rfl⟩ : ∃ d, j = i + d + 1 := ⟨j - i - 1, by omega⟩
    exact rise_far h d i (by omega)
  unfold rightB
  rw [h1, h2]
  simp
set_option maxRecDepth 100000 in
set_option maxHeartbeats 4000000 in
theorem rRight_c (key : ByteArray) (w : World) : Calls Tryz.prog 32 #[.string key] w fun r w' => r = .returned (.bool (isKeyB key)) ∧ Below w.heap.size w w' := by
  by_cases h0 : 1 ≤ key.size
  · by_cases h1 : key.size ≤ 64
    · have e : isKeyB key = true := decide_eq_true ⟨h0, h1⟩
      have h0' : (1 : Int) ≤ (key.size : Int) := by omega
      have h1' : (key.size : Int) ≤ 64 := by omega
      rw [e]
      go_enter Tryz.func32, Tryz.ntmps32
      go_wp2
      go_ret
      exact ⟨rfl, Below.refl _ _⟩
    · have e : isKeyB key = false := decide_eq_false (fun h => h1 h.2)
      have h0' : (1 : Int) ≤ (key.size : Int) := by omega
      have h1' : ¬ (key.size : Int) ≤ 64 := by omega
      rw [e]
      go_enter Tryz.func32, Tryz.ntmps32
      go_wp2
      go_ret
      exact ⟨rfl, Below.refl _ _⟩
  · have e : isKeyB key = false := decide_eq_false (fun h => h0 h.1)
    have h0' : ¬ (1 : Int) ≤ (key.size : Int) := by omega
    rw [e]
    go_enter Tryz.func32, Tryz.ntmps32
    go_wp2
    go_ret
    exact ⟨rfl, Below.refl _ _⟩
set_option maxRecDepth 100000 in
set_option maxHeartbeats 4000000 in
theorem rholds_c (x : Crd) (now : Int) (w : World) : Calls Tryz.prog 35 #[.agg #[.int .i64 x.i, .string x.k, .int .i64 x.f, .int .i64 x.t], .int .i64 now] w fun y w' => y = .returned (.bool (holdB now x)) ∧ Below w.heap.size w w' := by
  by_cases h0 : x.f ≤ now
  · by_cases h1 : now < x.t
    · have e : holdB now x = true := by simp [holdB, h0, h1]
      rw [e]
      go_enter Tryz.func35, Tryz.ntmps35
      go_wp2
      go_ret
      exact ⟨ret_bool (by first | rfl | (simp; done) | (simp; omega)), below_alloc _ _⟩
    · have e : holdB now x = false := by simp [holdB, h1]
      rw [e]
      go_enter Tryz.func35, Tryz.ntmps35
      go_wp2
      go_ret
      exact ⟨ret_bool (by first | rfl | (simp; done) | (simp; omega)), below_alloc _ _⟩
  · have e : holdB now x = false := by simp [holdB, h0]
    rw [e]
    go_enter Tryz.func35, Tryz.ntmps35
    go_wp2
    go_ret
    exact ⟨ret_bool (by first | rfl | (simp; done) | (simp; omega)), below_alloc _ _⟩
end Go.Proofs.YtikpmkidfppknaaGreatDoor
