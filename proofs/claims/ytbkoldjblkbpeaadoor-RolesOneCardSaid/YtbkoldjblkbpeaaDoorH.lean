/- check.Of at an operator's three checks: its contract. -/
import Derived.Test.YtbkoldjblkbpeaaDoorG
namespace Go.Proofs.YtbkoldjblkbpeaaDoor
open Go.RowKit Go.Shelf
attribute [local go_sem] Oper.semAt_some

/-- The map at a block is that of the names that were met. -/
abbrev MapN (w : World) (b n : Nat) (l : List (List UInt8)) : Prop := w.ownsMap Tryd.prog 9 (plainElem (H := Unit) Tryd.prog 4) b n (metD l)
theorem MapN.no_cells {w : World} {b n : Nat} {l : List (List UInt8)} (h : MapN w b n l) : ∃ o : Obj, w.heap[b]? = some o ∧ o.isCells = false := by
  obtain ⟨es, ck, hh, _⟩ := h
  exact ⟨_, hh, rfl⟩
theorem MapN.lt {w : World} {b n : Nat} {l : List (List UInt8)} (h : MapN w b n l) : b < w.heap.size := by
  obtain ⟨o, hh, _⟩ := h.no_cells
  exact (Array.getElem?_eq_some_iff.1 hh).1
theorem MapN.on {a w : World} {b n : Nat} {l : List (List UInt8)} (h : MapN a b n l) (k : Below a.heap.size a w) : MapN w b n l := World.ownsMap.kept h (grown_of_below k) (by simp)
/-- One operator is right behind others. -/
def oneOK (l : List (List UInt8)) (x : Opr) : Bool := nameOK x.n && roleOK x.r && !decide (x.n.data.toList ∈ l)

set_option maxRecDepth 100000 in
set_option maxHeartbeats 2000000 in
theorem checks_c (s : ByteArray) (r : Int) (hs : s.size ≤ 1000) (b mb n : Nat) (l : List (List UInt8)) (hn : n ≤ 1000) (w : World) (hM : MapN w mb n l)
    (h0 : w.cell? ⟨b, 0, none⟩ = some (.func (.func 32) #[] #[])) (h1 : w.cell? ⟨b, 1, none⟩ = some (.func (.func 33) #[] #[])) (h2 : w.cell? ⟨b, 2, none⟩ = some (.func (.func 34) #[.map (some mb)] #[])) :
    Calls Tryd.prog 31 #[.agg #[.string s, .int .i64 r], .slice (some ⟨b, 0, none⟩) 3 3] w fun x w' => x = .returned (.bool (nameOK s && roleOK r && !decide (s.data.toList ∈ l))) ∧ w.grownBy w' (some mb) ∧
      ((nameOK s && roleOK r && !decide (s.data.toList ∈ l)) = true → MapN w' mb (n + 1) (l ++ [s.data.toList])) := by
  have hb := blt h0
  have H1 := Lib.hid (fun W (h : Below w.heap.size w W) => (h.cell (p := ⟨b, 1, none⟩) hb).trans h1)
  have H2 := Lib.hid (fun W (h : Below w.heap.size w W) => (h.cell (p := ⟨b, 2, none⟩) hb).trans h2)
  have HM := Lib.hid (fun W (h : Below w.heap.size w W) => hM.on h)
  have G1 := fun W => hasName_c s r W
  have G2 := fun W => hasRole_c s r W
  have hw0 : (w.alloc (.cells #[.string s, .int .i64 r] 56)).cell? ⟨w.heap.size, 0, none⟩ = some (.string s) := by go_simp
  have hw1 : (w.alloc (.cells #[.string s, .int .i64 r] 56)).cell? ⟨w.heap.size, 1, none⟩ = some (.int .i64 r) := by go_simp
  have HV := Lib.hid (show ∀ W, Below (w.alloc (.cells #[.string s, .int .i64 r] 56)).heap.size (w.alloc (.cells #[.string s, .int .i64 r] 56)) W → W.cell? ⟨w.heap.size, 0, none⟩ = some (.string s) ∧ W.cell? ⟨w.heap.size, 1, none⟩ = some (.int .i64 r) from
    fun W h => ⟨(h.cell (p := ⟨w.heap.size, 0, none⟩) (blt hw0)).trans hw0, (h.cell (p := ⟨w.heap.size, 1, none⟩) (blt hw1)).trans hw1⟩)
  clear h1 h2 hw0 hw1
  cases hk : nameOK s with
  | false =>
    rw [hk] at G1
    simp only [Bool.false_and]
    have C1 := Lib.hid G1
    clear G1 G2 hk H1 H2
    go_enter Tryd.func31, Tryd.ntmps31
    go_wp2
    refine wp_loop_rounds 4 ?_
    rw [rounds_succ]
    go_wp2_with (go_at_call 32; refine (C1.out _).mono ?_; rintro x w1 ⟨rfl, hB1⟩)
    go_ret
    exact ⟨rfl, (grown_of_below (btr (below_alloc _ _) hB1)).but _, fun e => by cases e⟩
  | true =>
    rw [hk] at G1
    have C1 := Lib.hid G1
    clear G1
    cases ha : roleOK r with
    | false =>
      rw [ha] at G2
      simp only [Bool.true_and, Bool.false_and]
      have C2 := Lib.hid G2
      clear G2 hk H2 ha
      go_enter Tryd.func31, Tryd.ntmps31
      go_wp2
      refine wp_loop_rounds 4 ?_
      rw [rounds_succ]
      go_wp2_with (go_at_call 32; refine (C1.out _).mono ?_; rintro x w1 ⟨rfl, hB1⟩)
      obtain ⟨c0, c1⟩ := HV.out w1 hB1
      have k1 := H1.out w1 (btr (below_alloc _ _) hB1)
      rw [rounds_succ]
      go_wp2_with (go_at_call 33; refine (C2.out _).mono ?_; rintro x w2 ⟨rfl, hB2⟩)
      go_ret
      exact ⟨rfl, (grown_of_below (btr (btr (below_alloc _ _) hB1) hB2)).but _, fun e => by cases e⟩
    | true =>
      rw [ha] at G2
      simp only [Bool.true_and]
      have C2 := Lib.hid G2
      have C3 := Lib.hid (fun W h => isNew_c s r hs mb l n hn W h)
      clear G2 hk ha
      generalize (!decide (s.data.toList ∈ l)) = q at *
      cases q
      all_goals
        go_enter Tryd.func31, Tryd.ntmps31
        go_wp2
        refine wp_loop_rounds 4 ?_
        rw [rounds_succ]
        go_wp2_with (go_at_call 32; refine (C1.out _).mono ?_; rintro x w1 ⟨rfl, hB1⟩)
        obtain ⟨c0, c1⟩ := HV.out w1 hB1
        have k1 := H1.out w1 (btr (below_alloc _ _) hB1)
        rw [rounds_succ]
        go_wp2_with (go_at_call 33; refine (C2.out _).mono ?_; rintro x w2 ⟨rfl, hB2⟩)
        obtain ⟨c2, c3⟩ := HV.out w2 (btr hB1 hB2)
        have hB12 := btr (btr (below_alloc _ _) hB1) hB2
        have k2 := H2.out w2 hB12
        have hM2 := HM.out w2 hB12
        rw [rounds_succ]
        go_wp2_with (go_at_call 34; refine (C3.out _ hM2).mono ?_; rintro x w3 ⟨rfl, hM3, hg3⟩)
        have hE := ((grown_of_below (bal hB12 _)).but (some mb)).trans hg3
        clear hB1 hB2 hB12 hg3
        first
          | (go_ret; exact ⟨rfl, hE, fun e => by first | exact hM3 | cases e⟩)
          | (rw [rounds_succ]; go_wp2; go_ret; exact ⟨rfl, hE, fun e => by first | exact hM3 | cases e⟩)
end Go.Proofs.YtbkoldjblkbpeaaDoor
