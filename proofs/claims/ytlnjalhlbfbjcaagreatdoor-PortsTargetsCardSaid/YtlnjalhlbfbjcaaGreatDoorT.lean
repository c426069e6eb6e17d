/- Parse: the contract. -/
import Derived.Test.YtlnjalhlbfbjcaaGreatDoorS
namespace Go.Proofs.YtlnjalhlbfbjcaaGreatDoor
open Go.RowKit Go.Shelf
attribute [local go_sem] Oper.semAt_some

theorem readings_c (b : Nat) (s : ByteArray) (w : World) : Calls Tryz.prog 25 #[.pointer (some ⟨b, 0, none⟩), .string s] w fun x w' => x = .returned (.func (.func 40) #[] #[.pointer (some ⟨w.heap.size, 0, none⟩), .pointer (some ⟨w.heap.size + 1, 0, none⟩)]) ∧ w' = (w.alloc (.cells #[.pointer (some ⟨b, 0, none⟩)] 44)).alloc (.cells #[.string s] 9) := by
  go_enter Tryz.func25, Tryz.ntmps25
  go_wp2
  go_ret
  exact ⟨rfl, rfl⟩

/-- The ports of a text. -/
def rwP (L : List UInt8) : Option (Int × Int) := if L = [42] then some (0, 65535) else match snP 65535 L with
  | some n => some (n, n)
  | none => sevP L
/-- Which ways are known to fail. -/
def Tried (k : Nat) (L : List UInt8) : Prop := (1 ≤ k → L ≠ [42]) ∧ (2 ≤ k → snP 65535 L = none) ∧ (3 ≤ k → sevP L = none)
theorem cell_row {W W' : World} {row : Option Nat} {b o B : Nat} {v : Value} (h : W.cell? ⟨b, o, none⟩ = some v) (g : W.grownBy W' row) (hr : ∀ r, row = some r → B ≤ r) (hb : b < B) : W'.cell? ⟨b, o, none⟩ = some v :=
  (World.cell?_of_block (w := W) (g.block b (blt h) (fun e => by have := hr b e.symm; omega))).trans h
theorem frozen_row {W W' : World} {row : Option Nat} {b o B : Nat} {v : Value} (h : W.cell? ⟨b, o, none⟩ = some v) (g : W.grownBy W' row) (hr : ∀ r, row = some r → B ≤ r) (hb : b < B) : W'.frozen? ⟨b, o, none⟩ = W.frozen? ⟨b, o, none⟩ :=
  World.frozen?_of_block (w := W) (g.block b (blt h) (fun e => by have := hr b e.symm; omega))
/-- Parse's own cells: the result, the reader, the error. -/
structure PaAt (z : Nat) (w : World) (ev : Value) (s : ByteArray) (A K : Int) (W : World) : Prop where
  rd : RdAt (z + 1) s A K W
  e0 : W.cell? ⟨z + 1 + 1, 0, none⟩ = some ev
  ef : W.frozen? ⟨z + 1 + 1, 0, none⟩ = false
  r0 : W.cell? ⟨z, 0, none⟩ = some (.int .i64 0)
  r1 : W.cell? ⟨z, 1, none⟩ = some (.int .i64 0)
  f0 : W.frozen? ⟨z, 0, none⟩ = false
  f1 : W.frozen? ⟨z, 1, none⟩ = false
  bl : Below z w W
theorem PaAt.row {z : Nat} {w : World} {ev : Value} {s : ByteArray} {A K : Int} {W W' : World} {row : Option Nat} (h : PaAt z w ev s A K W) (g : W.grownBy W' row) (hr : ∀ r, row = some r → z + 5 ≤ r) : PaAt z w ev s A K W' :=
  ⟨⟨cell_row h.rd.c0 g hr (by omega), (frozen_row h.rd.c0 g hr (by omega)).trans h.rd.f0, fun i v e => ⟨cell_row (h.rd.cs i v e).1 g hr (by omega), (frozen_row (h.rd.cs i v e).1 g hr (by omega)).trans (h.rd.cs i v e).2⟩⟩,
    cell_row h.e0 g hr (by omega), (frozen_row h.e0 g hr (by omega)).trans h.ef, cell_row h.r0 g hr (by omega), cell_row h.r1 g hr (by omega), (frozen_row h.r0 g hr (by omega)).trans h.f0, (frozen_row h.r1 g hr (by omega)).trans h.f1,
    h.bl.grown g (by have := blt h.r0; omega) (fun j hj => by have := hr j hj; omega)⟩
/-- The reader goes on: its block alone is another. -/
theorem PaAt.read {z : Nat} {w : World} {ev : Value} {s s' : ByteArray} {A K A' K' : Int} {W W' : World} (h : PaAt z w ev s A K W) (g : W.grownBy W' (some (z + 1))) (hR : RdAt (z + 1) s' A' K' W') : PaAt z w ev s' A' K' W' :=
  ⟨hR, cell_gr g (by omega) h.e0, (frozen_gr g (by omega) h.e0).trans h.ef, cell_gr g (by omega) h.r0, cell_gr g (by omega) h.r1, (frozen_gr g (by omega) h.r0).trans h.f0, (frozen_gr g (by omega) h.r1).trans h.f1,
    h.bl.grown g (by have := blt h.r0; omega) (fun j hj => by cases hj; omega)⟩
theorem PaAt.err {z : Nat} {w : World} {ev : Value} {s : ByteArray} {A K : Int} {W : World} (h : PaAt z w ev s A K W) (v : Value) : PaAt z w v s A K (W.setCell ⟨z + 1 + 1, 0, none⟩ v) := by
  have e0 := h.e0
  have ef := h.ef
  have r0 := h.r0
  have r1 := h.r1
  have f0 := h.f0
  have f1 := h.f1
  exact ⟨RdL.other h.rd (by omega) 0 v, by go_simp, by go_simp, by go_simp, by go_simp, by go_simp, by go_simp, h.bl.setCell (p := ⟨z + 1 + 1, 0, none⟩) (show z ≤ z + 1 + 1 by omega) v⟩
theorem PaAt.drew {z : Nat} {w : World} {ev : Value} {s : ByteArray} {A K : Int} {W : World} (h : PaAt z w ev s A K W) : PaAt z w ev s A K W.drew := ⟨RdL.drew h.rd, h.e0, h.ef, h.r0, h.r1, h.f0, h.f1, below_drew h.bl⟩
theorem PaAt.lay {z : Nat} {w : World} {ev : Value} {s : ByteArray} {A K : Int} {W : World} (h : PaAt z w ev s A K W) (s' : ByteArray) : PaAt z w ev s' A K (W.setCell ⟨z + 1, 0, none⟩ (.string s')) := by
  have e0 := h.e0
  have ef := h.ef
  have r0 := h.r0
  have r1 := h.r1
  have f0 := h.f0
  have f1 := h.f1
  exact ⟨RdL.set0 h.rd s', by go_simp, by go_simp, by go_simp, by go_simp, by go_simp, by go_simp, h.bl.setCell (p := ⟨z + 1, 0, none⟩) (show z ≤ z + 1 by omega) _⟩

theorem Lie2.drew {r e : Nat} {A B : World} (h : Lie2 r e A B) : Lie2 r e A B.drew := ⟨h.size, h.same⟩
/-- What one way leaves. -/
def wayP (k : Nat) (L : List UInt8) : Option (Int × Int) := if k = 0 then (if L = [42] then some (0, 65535) else none) else if k = 1 then (snP 65535 L).map fun n => (n, n) else sevP L
theorem way_c (k : Nat) (hk : k < 3) (b : Nat) (s : ByteArray) (hsz : s.size ≤ 1000) (A K : Int) (w : World) (hR : RdAt b s A K w) :
    Calls Tryz.prog (wayFn k) #[.pointer (some ⟨b, 0, none⟩)] w fun x w' =>
      (wayP k s.data.toList = none ∧ x = .returned (.iface 70 (.agg #[.int .i64 70])) ∧ w.grownBy w' (some b) ∧ ∃ s' A' K', RdAt b s' A' K' w') ∨
      (∃ f t, wayP k s.data.toList = some (f, t) ∧ x = .returned .nilIface ∧ w.grownBy w' (some b) ∧ ∃ s', RdAt b s' f t w') := by
  have hk' : k = 0 ∨ k = 1 ∨ k = 2 := by omega
  rcases hk' with rfl | rfl | rfl
  · refine (every_c b s hsz A K w hR).mono ?_
    rintro x w' ⟨rfl, g, s', R⟩
    by_cases h : s.data.toList = [42]
    · exact .inr ⟨0, 65535, by simp [wayP, h], by rw [decide_eq_true h]; rfl, g, s', R⟩
    · exact .inl ⟨by simp [wayP, h], by rw [decide_eq_false h]; rfl, g, s', 0, 65535, R⟩
  · refine (single_c b s hsz A K w hR).mono ?_
    rintro x w' (⟨h, rfl, g, hh⟩ | ⟨n, h, rfl, g, hh⟩)
    · exact .inl ⟨by simp [wayP, h], rfl, g, hh⟩
    · exact .inr ⟨n, n, by simp [wayP, h], rfl, g, hh⟩
  · refine (several_c b s hsz A K w hR).mono ?_
    rintro x w' (⟨h, rfl, g, hh⟩ | ⟨f, t, h, rfl, g, hh⟩)
    · exact .inl ⟨by simp [wayP, h], rfl, g, hh⟩
    · exact .inr ⟨f, t, by simp [wayP, h], rfl, g, hh⟩
theorem tried_next {k : Nat} (hk : k < 3) {L : List UInt8} (h : Tried k L) (hw : wayP k L = none) : Tried (k + 1) L := by
  have hk' : k = 0 ∨ k = 1 ∨ k = 2 := by omega
  rcases hk' with rfl | rfl | rfl
  · exact ⟨fun _ e => by simp [wayP, e] at hw, fun h => by omega, fun h => by omega⟩
  · refine ⟨fun _ => h.1 (by omega), fun _ => by simpa [wayP] using hw, fun h => by omega⟩
  · exact ⟨fun _ => h.1 (by omega), fun _ => h.2.1 (by omega), fun _ => by simpa [wayP] using hw⟩
theorem tried_some {k : Nat} (hk : k < 3) {L : List UInt8} {f t : Int} (h : Tried k L) (hw : wayP k L = some (f, t)) : rwP L = some (f, t) := by
  have hk' : k = 0 ∨ k = 1 ∨ k = 2 := by omega
  rcases hk' with rfl | rfl | rfl
  · by_cases e : L = [42]
    · simp [wayP, e] at hw; simp [rwP, e, hw]
    · simp [wayP, e] at hw
  · have h1 := h.1 (by omega)
    cases hs : snP 65535 L with
    | none => simp [wayP, hs] at hw
    | some n =>
      simp [wayP, hs] at hw
      obtain ⟨rfl, rfl⟩ := hw
      simp [rwP, h1, hs]
  · have h1 := h.1 (by omega)
    have h2 := h.2.1 (by omega)
    simp [wayP] at hw
    simp [rwP, h1, h2, hw]
theorem tried_all {L : List UInt8} (h : Tried 3 L) : rwP L = none := by
  have h1 := h.1 (by omega)
  have h2 := h.2.1 (by omega)
  have h3 := h.2.2 (by omega)
  simp [rwP, h1, h2, h3]

set_option maxRecDepth 100000 in
set_option maxHeartbeats 4000000 in
theorem ports_parse_in (s : ByteArray) (hsz : s.size ≤ 1000) (w : World) (hg : w.cell? ⟨0, 0, none⟩ = some (.iface 88 (.agg #[.pointer (some ⟨5, 50, none⟩)]))) :
    CallsIn Fence.wide 6 Tryz.prog 9 #[.string s] w fun x w' =>
      ((∃ f t, rwP s.data.toList = some (f, t) ∧ x = .returned (.tuple #[.agg #[.int .i64 f, .int .i64 t], .int .i64 0])) ∨ (rwP s.data.toList = none ∧ x = .returned (.tuple #[.agg #[.int .i64 0, .int .i64 0], .int .i64 70]))) ∧ Below w.heap.size w w' := by
  have q1 : Fence.wide.fn 24 := trivial
  have q2 : Fence.wide.fn 25 := trivial
  have q3 : Fence.wide.fn 26 := trivial
  have q4 : Fence.wide.fn 27 := trivial
  have HO := Lib.hid (fun W => of_c W 70 rfl)
  have HRD := Lib.hid (fun b W => readings_c b s W)
  have HGL := Lib.hid (fun W (h : Below w.heap.size w W) => (h.cell (p := ⟨0, 0, none⟩) (blt hg)).trans hg)
  clear hg
  refine callsIn_of_wp_marks Tryz.func9 rfl trivial ?_ rfl
  simp only [Tryz.ntmps9, List.size_toArray, List.length_cons, List.length_nil, Nat.reduceAdd, Nat.reduceSub, Array.replicate_succ, Array.replicate_zero, List.push_toArray, List.append_toArray, List.nil_append, List.cons_append]
  gi_wp2
  refine wpIn_scope_straight ?_
  gi_wp2_with (gi_at_call 24; refine (callsIn_wide.2 (HO.out _)).mono ?_; rintro e w' ⟨rfl, rfl⟩)
  refine wpIn_label ?_
  gi_wp2_with (gi_at_call 25; refine (callsIn_wide.2 (HRD.out _ _)).mono ?_; rintro e w' ⟨rfl, rfl⟩)
  rename_i K hK
  have P0 : PaAt w.heap.size w (.iface 70 (.agg #[.int .i64 70])) ⟨#[]⟩ 0 0 (((((w.alloc (Obj.cells #[Value.int IntKind.i64 0, Value.int IntKind.i64 0] 23)).alloc (Obj.cells #[Value.string { data := #[] }, Value.int IntKind.i64 0, Value.int IntKind.i64 0] 48)).alloc (Obj.cells #[Value.iface 70 (Value.agg #[Value.int IntKind.i64 70])] 50)).alloc (Obj.cells #[Value.pointer (some { block := w.heap.size + 1, off := 0 })] 44)).alloc (Obj.cells #[Value.string s] 9)) :=
    ⟨RdAt.mk' (by go_simp) (by go_simp) (by go_simp) (by go_simp) (by go_simp) (by go_simp), by go_simp, by go_simp, by go_simp, by go_simp, by go_simp, by go_simp, bal (bal (bal (bal (below_alloc _ _) _) _) _) _⟩
  have t1 : (((((w.alloc (Obj.cells #[Value.int IntKind.i64 0, Value.int IntKind.i64 0] 23)).alloc (Obj.cells #[Value.string { data := #[] }, Value.int IntKind.i64 0, Value.int IntKind.i64 0] 48)).alloc (Obj.cells #[Value.iface 70 (Value.agg #[Value.int IntKind.i64 70])] 50)).alloc (Obj.cells #[Value.pointer (some { block := w.heap.size + 1, off := 0 })] 44)).alloc (Obj.cells #[Value.string s] 9)).cell? ⟨w.heap.size + 1 + 1 + 1, 0, none⟩ = some (.pointer (some ⟨w.heap.size + 1, 0, none⟩)) := by go_simp
  have t2 : (((((w.alloc (Obj.cells #[Value.int IntKind.i64 0, Value.int IntKind.i64 0] 23)).alloc (Obj.cells #[Value.string { data := #[] }, Value.int IntKind.i64 0, Value.int IntKind.i64 0] 48)).alloc (Obj.cells #[Value.iface 70 (Value.agg #[Value.int IntKind.i64 70])] 50)).alloc (Obj.cells #[Value.pointer (some { block := w.heap.size + 1, off := 0 })] 44)).alloc (Obj.cells #[Value.string s] 9)).cell? ⟨w.heap.size + 1 + 1 + 1 + 1, 0, none⟩ = some (.string s) := by go_simp
  have zV : (((((w.alloc (Obj.cells #[Value.int IntKind.i64 0, Value.int IntKind.i64 0] 23)).alloc (Obj.cells #[Value.string { data := #[] }, Value.int IntKind.i64 0, Value.int IntKind.i64 0] 48)).alloc (Obj.cells #[Value.iface 70 (Value.agg #[Value.int IntKind.i64 70])] 50)).alloc (Obj.cells #[Value.pointer (some { block := w.heap.size + 1, off := 0 })] 44)).alloc (Obj.cells #[Value.string s] 9)).heap.size = w.heap.size + 5 := by simp
  clear HRD
  generalize (((((w.alloc (Obj.cells #[Value.int IntKind.i64 0, Value.int IntKind.i64 0] 23)).alloc (Obj.cells #[Value.string { data := #[] }, Value.int IntKind.i64 0, Value.int IntKind.i64 0] 48)).alloc (Obj.cells #[Value.iface 70 (Value.agg #[Value.int IntKind.i64 70])] 50)).alloc (Obj.cells #[Value.pointer (some { block := w.heap.size + 1, off := 0 })] 44)).alloc (Obj.cells #[Value.string s] 9)) = V at *
  have HK := Lib.hid hK
  clear hK
  generalize hz : w.heap.size = z at *
  have HR := Lib.hid (readings_in Fence.wide 5 trivial rfl (by omega) (z + 1) (z + 1 + 1) (z + 1 + 1 + 1) (z + 1 + 1 + 1 + 1) s V t1 t2 (by omega) (by omega) (by omega) (by omega) (by omega) (by omega))
  clear t1 t2
  refine wpIn_range_reads rfl (by omega) (gf := 40) (lb := #[.pointer (some ⟨z + 1 + 1 + 1, 0, none⟩), .pointer (some ⟨z + 1 + 1 + 1 + 1, 0, none⟩)]) rfl trivial (enters_of Tryz.func40 (by kernel_rfl) rfl)
    HR.out (by omega) (by omega) (fun _ => rfl)
    (fun k W => ∃ s' A K, PaAt z w (.iface 70 (.agg #[.int .i64 70])) s' A K W ∧ Tried k s.data.toList)
    (fun k W => ∃ A K, PaAt z w (.iface 70 (.agg #[.int .i64 70])) s A K W ∧ Tried k s.data.toList)
    (fun _ W => ∃ s' f t, PaAt z w .nilIface s' f t W ∧ rwP s.data.toList = some (f, t)) 0
    (fun k A A' row ⟨s', B, D, h, ht⟩ g hr => ⟨s', B, D, h.row g (fun r e => by have := hr r e; omega), ht⟩)
    (fun k A A' row ⟨B, D, h, ht⟩ g hr => ⟨B, D, h.row g (fun r e => by have := hr r e; omega), ht⟩)
    (fun k A A' row ⟨s', B, D, h, ht⟩ g hr => ⟨s', B, D, h.row g (fun r e => by have := hr r e; omega), ht⟩)
    (fun k A ⟨s', B, D, h, ht⟩ => ⟨⟨s', h.rd.c0⟩, h.rd.f0, B, D, h.lay s, ht⟩)
    ⟨_, _, _, P0, fun h => by omega, fun h => by omega, fun h => by omega⟩
    (fun k => { tmps := #[.string s, undef, .pointer (some ⟨z, 0, none⟩), .int .i64 0, .pointer (some ⟨z + 1, 0, none⟩), .pointer (some ⟨z + 1 + 1, 0, none⟩), (.func (.func (wayFn k)) #[.pointer (some ⟨z + 1, 0, none⟩)] #[]), .agg #[.string ⟨#[]⟩, .int .i64 0, .int .i64 0], .pointer (some ⟨z + 1, 0, none⟩), .iface 70 (.agg #[.int .i64 70]), .pointer (some ⟨z + 1, 0, none⟩), .string s, .func (.func 40) #[] #[.pointer (some ⟨z + 1 + 1 + 1, 0, none⟩), .pointer (some ⟨z + 1 + 1 + 1 + 1, 0, none⟩)], (.func (.func (wayFn k)) #[.pointer (some ⟨z + 1, 0, none⟩)] #[]), undef, undef, undef, undef, undef, undef, undef, undef, undef, undef, undef, undef, undef, undef, undef], defers := [] }) ?assign ?body ?done ?stop
  case assign =>
    intro l k W K' hK'
    simp only [encW]
    gi_wp2
    exact hK'
  case body =>
    rintro l k W hk ⟨A, D, hP, hT⟩
    have HWY := Lib.hid (way_c k hk (z + 1) s hsz A D W hP.rd)
    have HP := Lib.hid hP
    have HT := Lib.hid hT
    have HIS := Lib.hid (fun W => is_same 70 W)
    have HIN := Lib.hid (fun W => is_nil 70 W)
    clear hP hT HR P0 HK HGL
    have hk' : k = 0 ∨ k = 1 ∨ k = 2 := by omega
    rcases hk' with rfl | rfl | rfl
    all_goals
      simp only [wayFn, if_true, Nat.one_ne_zero, if_false, Nat.reduceEqDiff] at HWY ⊢
      gi_wp2_with fail
      refine ⟨trivial, ?_⟩
      refine (CallsIn.inRound l (callsIn_wide.2 HWY.out)).mono ?_
      rintro x W1 (⟨hw, rfl, g, s', A', K', R⟩ | ⟨f, t, hw, rfl, g, s', R⟩)
      · have hP1 := HP.out.read g R
        have e0 := hP1.e0
        have ef := hP1.ef
        have HP1 := Lib.hid (hP1.err (.iface 70 (.agg #[.int .i64 70]))).drew
        have HTn := Lib.hid (tried_next (by omega) HT.out hw)
        have HG := Lib.hid ((Lie2.of_r (e := z + 1 + 1) g).trans ((Lie2.of_e (r := z + 1) (gr_set (b := z + 1 + 1) (c := z + 1 + 1) (gr_below (Below.refl _ W1)) (.inl rfl) (o := 0) (.iface 70 (.agg #[.int .i64 70]))))).drew)
        clear hP1 R hw g HWY
        gi_wp2_with fail
        gi_region_with (first | (gi_at_call 24; refine (CallsIn.inRound l (callsIn_wide.2 (HO.out _))).mono ?_; rintro e w' ⟨rfl, rfl⟩) | (gi_at_call 26; refine (CallsIn.inRound l (callsIn_wide.2 (HIS.out _))).mono ?_; rintro e w' ⟨rfl, rfl⟩))
        all_goals
          gi_wp2
          exact ⟨HG.out, ⟨_, _, _, HP1.out⟩, HTn.out⟩
      · have hP1 := HP.out.read g R
        have e0 := hP1.e0
        have ef := hP1.ef
        have HP1 := Lib.hid (hP1.err .nilIface).drew
        have HTn := Lib.hid (tried_some (by omega) HT.out hw)
        have HG := Lib.hid ((Lie2.of_r (e := z + 1 + 1) g).trans ((Lie2.of_e (r := z + 1) (gr_set (b := z + 1 + 1) (c := z + 1 + 1) (gr_below (Below.refl _ W1)) (.inl rfl) (o := 0) .nilIface))).drew)
        clear hP1 R hw g HWY
        gi_wp2_with fail
        gi_region_with (first | (gi_at_call 24; refine (CallsIn.inRound l (callsIn_wide.2 (HO.out _))).mono ?_; rintro e w' ⟨rfl, rfl⟩) | (gi_at_call 26; refine (CallsIn.inRound l (callsIn_wide.2 (HIN.out _))).mono ?_; rintro e w' ⟨rfl, rfl⟩))
        all_goals
          gi_wp2
          exact ⟨HG.out, _, _, _, HP1.out, HTn.out⟩
  case done =>
    rintro D W hD ⟨s', A, D2, hP, hT⟩ hdef
    refine HK.out _ _ ?_
    have e0 := hP.e0
    have HT := Lib.hid (tried_all hT)
    have HN := Lib.hid (no_c W 70 (HGL.out W hP.bl))
    have HP := Lib.hid hP
    have HD := Lib.hid hdef
    clear hP hT HR P0 HK HGL hdef
    gi_wp2_with fail
    gi_at_call 27
    refine (callsIn_wide.2 HN.out).mono ?_
    rintro x W1 ⟨rfl, hb⟩
    have hzW := blt HP.out.r0
    have r0 := (hb.cell (p := ⟨z, 0, none⟩) hzW).trans HP.out.r0
    have r1 := (hb.cell (p := ⟨z, 1, none⟩) hzW).trans HP.out.r1
    have f0 := (hb.frozen (p := ⟨z, 0, none⟩) hzW).trans HP.out.f0
    have f1 := (hb.frozen (p := ⟨z, 1, none⟩) hzW).trans HP.out.f1
    have HB := Lib.hid (HP.out.bl.trans (hb.mono (by omega)))
    have HD1 := Lib.hid ((hb.block D (Array.getElem?_eq_some_iff.1 HD.out).1).trans HD.out)
    have HS := Lib.hid hb.size
    clear hb HN HD
    gi_wp2
    have hd' : ((W1.setCell ⟨z, 0, none⟩ (.int .i64 0)).setCell ⟨z, 1, none⟩ (.int .i64 0)).heap[D]? = some (.deferred (some [])) := (Below.heap_setCell _ ⟨z, 1, none⟩ _ D (show D ≠ z by omega)).trans ((Below.heap_setCell _ ⟨z, 0, none⟩ _ D (show D ≠ z by omega)).trans HD1.out)
    have m0 : ((W1.setCell ⟨z, 0, none⟩ (.int .i64 0)).setCell ⟨z, 1, none⟩ (.int .i64 0)).cell? ⟨z, 0, none⟩ = some (.int .i64 0) := by go_simp
    have m1 : ((W1.setCell ⟨z, 0, none⟩ (.int .i64 0)).setCell ⟨z, 1, none⟩ (.int .i64 0)).cell? ⟨z, 1, none⟩ = some (.int .i64 0) := by go_simp
    have BF : Below z w ((W1.setCell ⟨z, 0, none⟩ (.int .i64 0)).setCell ⟨z, 1, none⟩ (.int .i64 0)) := (HB.out.setCell (p := ⟨z, 0, none⟩) (Nat.le_refl _) _).setCell (p := ⟨z, 1, none⟩) (Nat.le_refl _) _
    rw [Exit.noGoto_ret]
    refine ⟨by simp, .inl ⟨_, _, rfl, run_takeDeferred hd', ?_⟩⟩
    have gP := grownBy_putObj' ((W1.setCell ⟨z, 0, none⟩ (.int .i64 0)).setCell ⟨z, 1, none⟩ (.int .i64 0)) D (Obj.deferred none)
    have hr5 : ∀ r, some D = some r → z + 5 ≤ r := fun r e => by cases e; omega
    have n0 := cell_row m0 gP hr5 (by omega)
    have n1 := cell_row m1 gP hr5 (by omega)
    refine ⟨.tuple #[.agg #[.int .i64 0, .int .i64 0], .int .i64 70], by simp [results, Tryz.results9, go_sem, n0, n1], .inr ⟨HT.out, rfl⟩, ?_⟩
    rw [hz]
    exact BF.grown gP (by have := BF.size; omega) (fun j hj => by have := hr5 j hj; omega)
  case stop =>
    rintro D k W hD ⟨s', f, t, hP, hr⟩ hdef
    have e0 := hP.e0
    have r0 := hP.r0
    have r1 := hP.r1
    have f0 := hP.f0
    have f1 := hP.f1
    have c1 := hP.rd.c1
    have c2 := hP.rd.c2
    have HRR := Lib.hid hr
    have HB := Lib.hid hP.bl
    have HD1 := Lib.hid hdef
    clear hP hr HR P0 HGL hdef
    gi_wp2
    refine HK.out _ _ ?_
    have hzW := blt r0
    gi_wp2
    have hd' : ((W.setCell ⟨z, 0, none⟩ (.int .i64 f)).setCell ⟨z, 1, none⟩ (.int .i64 t)).heap[D]? = some (.deferred (some [])) := (Below.heap_setCell _ ⟨z, 1, none⟩ _ D (show D ≠ z by omega)).trans ((Below.heap_setCell _ ⟨z, 0, none⟩ _ D (show D ≠ z by omega)).trans HD1.out)
    have m0 : ((W.setCell ⟨z, 0, none⟩ (.int .i64 f)).setCell ⟨z, 1, none⟩ (.int .i64 t)).cell? ⟨z, 0, none⟩ = some (.int .i64 f) := by go_simp
    have m1 : ((W.setCell ⟨z, 0, none⟩ (.int .i64 f)).setCell ⟨z, 1, none⟩ (.int .i64 t)).cell? ⟨z, 1, none⟩ = some (.int .i64 t) := by go_simp
    have BF : Below z w ((W.setCell ⟨z, 0, none⟩ (.int .i64 f)).setCell ⟨z, 1, none⟩ (.int .i64 t)) := (HB.out.setCell (p := ⟨z, 0, none⟩) (Nat.le_refl _) _).setCell (p := ⟨z, 1, none⟩) (Nat.le_refl _) _
    rw [Exit.noGoto_ret]
    refine ⟨by simp, .inl ⟨_, _, rfl, run_takeDeferred hd', ?_⟩⟩
    have gP := grownBy_putObj' ((W.setCell ⟨z, 0, none⟩ (.int .i64 f)).setCell ⟨z, 1, none⟩ (.int .i64 t)) D (Obj.deferred none)
    have hr5 : ∀ r, some D = some r → z + 5 ≤ r := fun r e => by cases e; omega
    have n0 := cell_row m0 gP hr5 (by omega)
    have n1 := cell_row m1 gP hr5 (by omega)
    refine ⟨.tuple #[.agg #[.int .i64 f, .int .i64 t], .int .i64 0], by simp [results, Tryz.results9, go_sem, n0, n1], .inl ⟨f, t, HRR.out, rfl⟩, ?_⟩
    rw [hz]
    exact BF.grown gP (by have := BF.size; omega) (fun j hj => by have := hr5 j hj; omega)

def pqR (L : List UInt8) : Option (Int × Int) := rwP L
def pqF (L : List UInt8) : Int := match rwP L with
  | some x => x.1
  | none => 0
def pqT (L : List UInt8) : Int := match rwP L with
  | some x => x.2
  | none => 0
def pqE (L : List UInt8) : Int := if (rwP L).isSome = true then 0 else 70
theorem pq_none {L : List UInt8} (h : rwP L = none) : pqF L = 0 ∧ pqT L = 0 ∧ pqE L = 70 := by unfold pqF pqT pqE; rw [h]; exact ⟨rfl, rfl, rfl⟩
theorem pq_some {L : List UInt8} {a n : Int} (h : rwP L = some (a, n)) : pqF L = a ∧ pqT L = n ∧ pqE L = 0 := by unfold pqF pqT pqE; rw [h]; exact ⟨rfl, rfl, rfl⟩
def ErrT (w : World) : Prop := w.cell? ⟨0, 0, none⟩ = some (.iface 88 (.agg #[.pointer (some ⟨5, 50, none⟩)]))
theorem ErrT.on {a w : World} (h : ErrT a) (b : Below a.heap.size a w) : ErrT w := (b.cell (p := ⟨0, 0, none⟩) (blt h)).trans h
theorem ports_parse_c (s : ByteArray) (hsz : s.size ≤ 1000) (w : World) (hg : ErrT w) : Calls Tryz.prog 9 #[.string s] w fun x w' =>
      x = .returned (.tuple #[.agg #[.int .i64 (pqF s.data.toList), .int .i64 (pqT s.data.toList)], .int .i64 (pqE s.data.toList)]) ∧ Below w.heap.size w w' := by
  refine (callsIn_wide.1 (ports_parse_in s hsz w hg)).mono ?_
  rintro x w' ⟨(⟨f, t, h, rfl⟩ | ⟨h, rfl⟩), hb⟩
  · have e := pq_some h
    exact ⟨by rw [e.1, e.2.1, e.2.2], hb⟩
  · have e := pq_none h
    exact ⟨by rw [e.1, e.2.1, e.2.2], hb⟩
end Go.Proofs.YtlnjalhlbfbjcaaGreatDoor
