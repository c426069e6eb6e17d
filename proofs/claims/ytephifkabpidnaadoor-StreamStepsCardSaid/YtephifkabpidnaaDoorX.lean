/- The document's own Least: level by level, over an array of seven. -/
import Derived.Test.YtephifkabpidnaaDoorV
namespace Go.Proofs.YtephifkabpidnaaDoor
open Go.RowKit Go.Shelf
attribute [local go_sem] Oper.semAt_some

def ev1 (S : List Bool) (s : Nat) (M : List Bool) (e : Nat) : List Bool := if S.getD s false = true ∧ goes s e = true then M.set (dest s e).toNat true else M
def inn (S : List Bool) (s : Nat) (M : List Bool) : Nat → List Bool
  | 0 => M
  | k + 1 => ev1 S s (inn S s M k) (k + 1)
def outr (S : List Bool) : Nat → List Bool
  | 0 => S
  | j + 1 => inn S j (outr S j) 6
def lvl (f : Nat) : Nat → List Bool
  | 0 => (List.replicate 7 false).set f true
  | n + 1 => outr (lvl f n) 7
theorem ev1_len (S : List Bool) (s : Nat) (M : List Bool) (e : Nat) : (ev1 S s M e).length = M.length := by unfold ev1; split <;> simp
theorem inn_len (S : List Bool) (s : Nat) (M : List Bool) (k : Nat) : (inn S s M k).length = M.length := by
  induction k with
  | zero => rfl
  | succ k ih => simp only [inn, ev1_len, ih]
theorem outr_len (S : List Bool) (j : Nat) : (outr S j).length = S.length := by
  induction j with
  | zero => rfl
  | succ j ih => simp only [outr, inn_len, ih]
theorem lvl_len (f n : Nat) : (lvl f n).length = 7 := by
  induction n with
  | zero => simp [lvl]
  | succ n ih => simp only [lvl, outr_len, ih]
theorem inn_idle {S : List Bool} {s : Nat} (h : S.getD s false = false) (M : List Bool) (k : Nat) : inn S s M k = M := by
  induction k with
  | zero => rfl
  | succ k ih => simp only [inn, ih]; unfold ev1; rw [h]; simp
theorem lvl_tab : ((List.range 7).all fun f => (List.range 7).all fun t => (List.range 7).all fun n => !(((List.range n).all fun m => !(lvl f m).getD t false) && (lvl f n).getD t false) || (decide (leastN f t = n) && leastB f t)) = true := by decide +kernel
theorem lvl_tab0 : ((List.range 7).all fun f => (List.range 7).all fun t => !((List.range 7).all fun m => !(lvl f m).getD t false) || (decide (leastN f t = 0) && !leastB f t)) = true := by decide +kernel
theorem lvl_first {f t n : Nat} (hf : f < 7) (ht : t < 7) (hn : n < 7) (h1 : ∀ m, m < n → (lvl f m).getD t false = false) (h2 : (lvl f n).getD t false = true) : leastN f t = n ∧ leastB f t = true := by
  have h := List.all_eq_true.1 (List.all_eq_true.1 (List.all_eq_true.1 lvl_tab f (List.mem_range.2 hf)) t (List.mem_range.2 ht)) n (List.mem_range.2 hn)
  have h3 : ((List.range n).all fun m => !(lvl f m).getD t false) = true := List.all_eq_true.2 fun m hm => by rw [h1 m (List.mem_range.1 hm)]; rfl
  rw [h3, h2] at h
  simpa using h
theorem lvl_none {f t : Nat} (hf : f < 7) (ht : t < 7) (h1 : ∀ m, m < 7 → (lvl f m).getD t false = false) : leastN f t = 0 ∧ leastB f t = false := by
  have h := List.all_eq_true.1 (List.all_eq_true.1 lvl_tab0 f (List.mem_range.2 hf)) t (List.mem_range.2 ht)
  have h3 : ((List.range 7).all fun m => !(lvl f m).getD t false) = true := List.all_eq_true.2 fun m hm => by rw [h1 m (List.mem_range.1 hm)]; rfl
  rw [h3] at h
  simpa using h
theorem far_out {s t : Int} (h : isSt t = false) : far (reach s) t = none := by
  simp only [isSt, decide_eq_false_iff_not] at h
  cases hs : isSt s with
  | false => rw [reach_none hs]; rfl
  | true =>
    have h0 : ¬ 0 = t := by omega
    have h1 : ¬ 1 = t := by omega
    have h2 : ¬ 2 = t := by omega
    have h3 : ¬ 3 = t := by omega
    have h4 : ¬ 4 = t := by omega
    have h5 : ¬ 5 = t := by omega
    have h6 : ¬ 6 = t := by omega
    rcases isSt_cases hs with rfl | rfl | rfl | rfl | rfl | rfl | rfl <;> simp [reach, far, h0, h1, h2, h3, h4, h5, h6]

/-- Seven cells of a block. -/
structure Sev (b : Nat) (M : List Bool) (W : World) : Prop where
  len : M.length = 7
  cell : ∀ i, i < 7 → W.cell? ⟨b, i, none⟩ = some (.bool (M.getD i false))
  froz : ∀ i, i < 7 → W.frozen? ⟨b, i, none⟩ = false
theorem Sev.on {b : Nat} {M : List Bool} {W W' : World} (h : Sev b M W) (k : Below W.heap.size W W') : Sev b M W' :=
  have hb := blt (h.cell 0 (by omega))
  ⟨h.len, fun i hi => (k.cell (p := ⟨b, i, none⟩) hb).trans (h.cell i hi), fun i hi => (k.frozen (p := ⟨b, i, none⟩) hb).trans (h.froz i hi)⟩
theorem Sev.set {b : Nat} {M : List Bool} {W : World} (h : Sev b M W) {i : Nat} (hi : i < 7) (v : Bool) : Sev b (M.set i v) (W.setCell ⟨b, i, none⟩ (.bool v)) := by
  have hl := h.len
  refine ⟨by simp [hl], fun j hj => ?_, fun j hj => ?_⟩
  · by_cases e : j = i
    · subst e
      have c := h.cell j hj
      have f := h.froz j hj
      go_simp
    · rw [World.cell?_setCell_other _ _ _ _ (by simp), h.cell j hj]
      simp [List.getD_eq_getElem?_getD, Ne.symm e]
  · have f := h.froz j hj
    go_simp
theorem Sev.other {b b2 : Nat} {M : List Bool} {W : World} (h : Sev b M W) (hb : b ≠ b2) (i : Nat) (v : Value) : Sev b M (W.setCell ⟨b2, i, none⟩ v) :=
  ⟨h.len, fun j hj => (set_other W v hb).trans (h.cell j hj), fun j hj => by have f := h.froz j hj; go_simp⟩

theorem refLeast_no (s t : Int) (w : World) (h : isSt s = false ∨ isSt t = false) : Calls Tryd.prog 17 #[.int .i64 s, .int .i64 t] w fun x w' => x = .returned (.tuple #[.int .i64 0, .bool false]) ∧ Below w.heap.size w w' := by
  have h' : s < 0 ∨ (¬ s < 0 ∧ 6 < s) ∨ (¬ s < 0 ∧ ¬ 6 < s ∧ t < 0) ∨ (¬ s < 0 ∧ ¬ 6 < s ∧ ¬ t < 0 ∧ 6 < t) := by simp only [isSt, decide_eq_false_iff_not] at h; omega
  clear h
  rcases h' with h | ⟨h0, h⟩ | ⟨h0, h1, h⟩ | ⟨h0, h1, h2, h⟩
  all_goals
    go_enter Tryd.func17, Tryd.ntmps17
    go_wp2
    exact bodyPost_ret (v := .tuple #[.int .i64 0, .bool false]) (by simp [results, Tryd.results17, go_sem]) rfl ⟨rfl, Below.refl _ _⟩

theorem fresh_sev (W : World) (b0 b1 b2 b3 b4 b5 b6 : Bool) : Sev W.heap.size [b0, b1, b2, b3, b4, b5, b6] (W.alloc (.cells #[.bool b0, .bool b1, .bool b2, .bool b3, .bool b4, .bool b5, .bool b6] 55)) := by
  refine ⟨rfl, fun i hi => ?_, fun i hi => by simp⟩
  rw [World.cell?_alloc_new]
  have : i = 0 ∨ i = 1 ∨ i = 2 ∨ i = 3 ∨ i = 4 ∨ i = 5 ∨ i = 6 := by omega
  rcases this with rfl | rfl | rfl | rfl | rfl | rfl | rfl <;> rfl
theorem start_sev (w : World) (f : Nat) : Sev w.heap.size (lvl f 0) (w.alloc (.cells ([Value.bool false, .bool false, .bool false, .bool false, .bool false, .bool false, .bool false].set f (.bool true)).toArray 55)) := by
  refine ⟨lvl_len f 0, fun i hi => ?_, fun i hi => by simp⟩
  have e : ([Value.bool false, .bool false, .bool false, .bool false, .bool false, .bool false, .bool false].set f (.bool true)) = (lvl f 0).map Value.bool := by
    simp only [lvl, List.map_set]; rfl
  have hl : i < (lvl f 0).length := by rw [lvl_len]; exact hi
  rw [e, World.cell?_alloc_new]
  simp [List.getD_eq_getElem?_getD, hl]
theorem seven {M : List Bool} (h : M.length = 7) : ∃ b0 b1 b2 b3 b4 b5 b6, M = [b0, b1, b2, b3, b4, b5, b6] := by
  match M, h with
  | [b0, b1, b2, b3, b4, b5, b6], _ => exact ⟨b0, b1, b2, b3, b4, b5, b6, rfl⟩
theorem put_all {b : Nat} {S : List Bool} {W : World} (h : Sev b S W) (b0 b1 b2 b3 b4 b5 b6 : Bool) :
    Sev b [b0, b1, b2, b3, b4, b5, b6] (((((((W.setCell ⟨b, 0, none⟩ (.bool b0)).setCell ⟨b, 1, none⟩ (.bool b1)).setCell ⟨b, 2, none⟩ (.bool b2)).setCell ⟨b, 3, none⟩ (.bool b3)).setCell ⟨b, 4, none⟩ (.bool b4)).setCell ⟨b, 5, none⟩ (.bool b5)).setCell ⟨b, 6, none⟩ (.bool b6)) := by
  obtain ⟨a0, a1, a2, a3, a4, a5, a6, rfl⟩ := seven h.len
  exact ((((((h.set (i := 0) (by omega) b0).set (i := 1) (by omega) b1).set (i := 2) (by omega) b2).set (i := 3) (by omega) b3).set (i := 4) (by omega) b4).set (i := 5) (by omega) b5).set (i := 6) (by omega) b6

set_option maxRecDepth 100000 in
set_option maxHeartbeats 4000000 in
theorem refLeast_in (f t : Nat) (hf : f < 7) (ht : t < 7) (w : World) : Calls Tryd.prog 17 #[.int .i64 f, .int .i64 t] w fun x w' => x = .returned (.tuple #[.int .i64 (leastN f t), .bool (leastB f t)]) ∧ Below w.heap.size w w' := by
  have HN := Lib.hid (fun s e W => refNext_c s e W)
  go_enter Tryd.func17, Tryd.ntmps17
  go_wp2
  go_loopw [7] (fun nv wr => ∃ n : Nat, n ≤ 7 ∧ nv = .int .i64 n ∧ Sev w.heap.size (lvl f n) wr ∧ (∀ m, m < n → (lvl f m).getD t false = false) ∧ Below w.heap.size w wr) (fun nv _ => 7 - (intOf nv).toNat)
  case atStart => exact ⟨0, by omega, rfl, start_sev w f, fun m hm => by omega, below_alloc _ _⟩
  case round =>
    obtain ⟨n, hn, rfl, hS, hno, hB⟩ := hrel
    by_cases hlt : n < 7
    · have hc := hS.cell t ht
      cases hv : (lvl f n).getD t false with
      | true =>
        obtain ⟨l1, l2⟩ := lvl_first hf ht hlt hno hv
        rw [hv] at hc
        have HB := Lib.hid hB
        have HL := Lib.hid (And.intro l1 l2)
        clear hS hno hB hv l1 l2
        go_wp2
        exact bodyPost_ret (v := .tuple #[.int .i64 n, .bool true]) (by simp [results, Tryd.results17, go_sem]) rfl ⟨by rw [HL.out.1, HL.out.2], HB.out⟩
      | false =>
        rw [hv] at hc
        have hno' : ∀ m, m < n + 1 → (lvl f m).getD t false = false := fun m hm => by
          by_cases e : m = n
          · rw [e]; exact hv
          · exact hno m (by omega)
        have HNO := Lib.hid hno'
        have hlv : lvl f (n + 1) = outr (lvl f n) 7 := rfl
        have HLV := Lib.hid hlv
        clear hno hno' hv hlv
        obtain ⟨b0, b1, b2, b3, b4, b5, b6, hM⟩ := seven hS.len
        generalize lvl f n = S at *
        have c0 := hS.cell 0 (by omega)
        have c1 := hS.cell 1 (by omega)
        have c2 := hS.cell 2 (by omega)
        have c3 := hS.cell 3 (by omega)
        have c4 := hS.cell 4 (by omega)
        have c5 := hS.cell 5 (by omega)
        have c6 := hS.cell 6 (by omega)
        subst hM
        simp only [List.getD_cons_zero, List.getD_cons_succ] at c0 c1 c2 c3 c4 c5 c6
        have HS := Lib.hid hS
        have HB := Lib.hid hB
        clear hS hB
        go_wp2
        have hT0 := fresh_sev wr b0 b1 b2 b3 b4 b5 b6
        have hS0 := HS.out.on (below_alloc wr (.cells #[.bool b0, .bool b1, .bool b2, .bool b3, .bool b4, .bool b5, .bool b6] 55))
        have hB0 := bal HB.out (.cells #[.bool b0, .bool b1, .bool b2, .bool b3, .bool b4, .bool b5, .bool b6] 55)
        have hne : w.heap.size ≠ wr.heap.size := by have := blt (HS.out.cell 0 (by omega)); omega
        have hle : w.heap.size ≤ wr.heap.size := HB.out.size
        clear c0 c1 c2 c3 c4 c5 c6 hc HS HB
        generalize (wr.alloc (.cells #[.bool b0, .bool b1, .bool b2, .bool b3, .bool b4, .bool b5, .bool b6] 55)) = V at *
        generalize [b0, b1, b2, b3, b4, b5, b6] = S at *
        generalize wr.heap.size = T at *
        generalize decide ((n : Int) < 7) = dn
        go_loopw [9] (fun jv V => ∃ j : Nat, j ≤ 7 ∧ jv = .int .i64 j ∧ Sev w.heap.size S V ∧ Sev T (outr S j) V ∧ Below w.heap.size w V) (fun jv _ => 7 - (intOf jv).toNat)
        case atStart => exact ⟨0, by omega, rfl, hS0, hT0, hB0⟩
        case round =>
          clear hS0 hT0 hB0
          obtain ⟨j, hj, rfl, hS1, hT1, hB1⟩ := hrel
          by_cases hj7 : j < 7
          · have hO : outr S (j + 1) = inn S j (outr S j) 6 := rfl
            generalize outr S j = M at *
            have HT1 := Lib.hid hT1
            have HS1 := Lib.hid hS1
            have HB1 := Lib.hid hB1
            clear hT1 hS1 hB1
            go_wp2
            generalize decide ((j : Int) < 7) = dj
            go_loopw [10] (fun ev V => ∃ k : Nat, k ≤ 6 ∧ ev = .int .i64 ((k : Int) + 1) ∧ Sev w.heap.size S V ∧ Sev T (inn S j M k) V ∧ Below w.heap.size w V) (fun ev _ => 7 - (intOf ev).toNat)
            case atStart => exact ⟨0, by omega, rfl, HS1.out, HT1.out, HB1.out⟩
            case round =>
              clear HS1 HT1 HB1
              obtain ⟨k, hk, rfl, hS2, hT2, hB2⟩ := hrel
              by_cases hk6 : k < 6
              · have hc := hS2.cell j hj7
                cases hv : S.getD j false with
                | false =>
                  rw [hv] at hc
                  rw [inn_idle hv] at hT2 hO
                  have HO := Lib.hid hO
                  have HT2 := Lib.hid hT2
                  have HS2 := Lib.hid hS2
                  have HB2 := Lib.hid hB2
                  clear hv hT2 hS2 hB2 hO
                  go_wp2
                  exact ⟨⟨j + 1, by omega, by go_num, HS2.out, by rw [HO.out]; exact HT2.out, HB2.out⟩, by simp [intOf]; omega⟩
                | true =>
                  rw [hv] at hc
                  have hst : isSt (j : Int) = true := by simp only [isSt, decide_eq_true_eq]; omega
                  have hN := HN.out j ((k : Int) + 1)
                  have hi : inn S j M (k + 1) = ev1 S j (inn S j M k) (k + 1) := rfl
                  cases hg : goes j ((k : Int) + 1) with
                  | false =>
                    rw [(next_not hst hg).1, (next_not hst hg).2] at hN
                    have hi' : inn S j M (k + 1) = inn S j M k := by rw [hi]; unfold ev1; rw [show (((k + 1 : Nat)) : Int) = (k : Int) + 1 by omega, hg]; simp
                    have HI := Lib.hid hi'
                    have HN' := Lib.hid hN
                    have HT2 := Lib.hid hT2
                    have HS2 := Lib.hid hS2
                    have HB2 := Lib.hid hB2
                    clear hv hT2 hS2 hB2 hO hi hi' hN hg hst
                    go_wp2_with (go_at_call 13; refine (HN'.out _).mono ?_; rintro y w1 ⟨rfl, rfl⟩)
                    exact ⟨⟨k + 1, by omega, by go_num, HS2.out, by rw [HI.out]; exact HT2.out, HB2.out⟩, by simp [intOf]; omega⟩
                  | true =>
                    have hds := dest_st hg
                    simp only [isSt, decide_eq_true_eq] at hds
                    have n1 : nextN j ((k : Int) + 1) = dest j ((k : Int) + 1) := by unfold nextN; rw [if_pos hst, if_pos hg]
                    have n2 : nextE j ((k : Int) + 1) = 0 := by unfold nextE; rw [if_pos hst, if_pos hg]
                    rw [n1, n2] at hN
                    have hi' : inn S j M (k + 1) = (inn S j M k).set (dest j ((k : Int) + 1)).toNat true := by rw [hi]; unfold ev1; rw [show (((k + 1 : Nat)) : Int) = (k : Int) + 1 by omega, hg, hv]; simp
                    obtain ⟨d, hd⟩ : ∃ d : Nat, dest j ((k : Int) + 1) = d := ⟨(dest j ((k : Int) + 1)).toNat, by omega⟩
                    rw [hd] at hN hi' hds
                    have hd7 : d < 7 := by omega
                    rw [Int.toNat_natCast] at hi'
                    have ct := hT2.cell d hd7
                    have ft := hT2.froz d hd7
                    have HI := Lib.hid hi'
                    have HN' := Lib.hid hN
                    have HT2 := Lib.hid hT2
                    have HS2 := Lib.hid hS2
                    have HB2 := Lib.hid hB2
                    clear hv hT2 hS2 hB2 hO hi hi' hN hg hst hds n1 n2 hd
                    go_wp2_with (go_at_call 13; refine (HN'.out _).mono ?_; rintro y w1 ⟨rfl, rfl⟩)
                    exact ⟨⟨k + 1, by omega, by go_num, HS2.out.other hne d _, by rw [HI.out]; exact HT2.out.set hd7 true, HB2.out.setCell (p := ⟨T, d, none⟩) hle _⟩, by simp [intOf]; omega⟩
              · obtain rfl : k = 6 := by omega
                rw [← hO] at hT2
                have HT2 := Lib.hid hT2
                have HS2 := Lib.hid hS2
                have HB2 := Lib.hid hB2
                clear hT2 hS2 hB2 hO
                go_wp2
                exact ⟨⟨j + 1, by omega, by go_num, HS2.out, HT2.out, HB2.out⟩, by simp [intOf]; omega⟩
          · obtain rfl : j = 7 := by omega
            rw [← HLV.out] at hT1
            obtain ⟨b0, b1, b2, b3, b4, b5, b6, hM⟩ := seven hT1.len
            rw [hM] at hT1
            have HM := Lib.hid hM
            have c0 := hT1.cell 0 (by omega)
            have c1 := hT1.cell 1 (by omega)
            have c2 := hT1.cell 2 (by omega)
            have c3 := hT1.cell 3 (by omega)
            have c4 := hT1.cell 4 (by omega)
            have c5 := hT1.cell 5 (by omega)
            have c6 := hT1.cell 6 (by omega)
            clear hM
            simp only [List.getD_cons_zero, List.getD_cons_succ] at c0 c1 c2 c3 c4 c5 c6
            have s0 := hS1.cell 0 (by omega)
            have g0 := hS1.froz 0 (by omega)
            have s1 := hS1.cell 1 (by omega)
            have g1 := hS1.froz 1 (by omega)
            have s2 := hS1.cell 2 (by omega)
            have g2 := hS1.froz 2 (by omega)
            have s3 := hS1.cell 3 (by omega)
            have g3 := hS1.froz 3 (by omega)
            have s4 := hS1.cell 4 (by omega)
            have g4 := hS1.froz 4 (by omega)
            have s5 := hS1.cell 5 (by omega)
            have g5 := hS1.froz 5 (by omega)
            have s6 := hS1.cell 6 (by omega)
            have g6 := hS1.froz 6 (by omega)
            have HS1 := Lib.hid hS1
            have HT1 := Lib.hid hT1
            have HB1 := Lib.hid hB1
            clear hS1 hT1 hB1
            go_wp2
            refine ⟨⟨n + 1, by omega, by go_num, ?_, HNO.out, ?_⟩, by simp [intOf]; omega⟩
            · rw [HM.out]; exact put_all HS1.out b0 b1 b2 b3 b4 b5 b6
            · exact ((((((HB1.out.setCell (p := ⟨w.heap.size, 0, none⟩) (Nat.le_refl _) _).setCell (p := ⟨w.heap.size, 1, none⟩) (Nat.le_refl _) _).setCell (p := ⟨w.heap.size, 2, none⟩) (Nat.le_refl _) _).setCell (p := ⟨w.heap.size, 3, none⟩) (Nat.le_refl _) _).setCell (p := ⟨w.heap.size, 4, none⟩) (Nat.le_refl _) _).setCell (p := ⟨w.heap.size, 5, none⟩) (Nat.le_refl _) _).setCell (p := ⟨w.heap.size, 6, none⟩) (Nat.le_refl _) _
    · obtain rfl : n = 7 := by omega
      obtain ⟨l1, l2⟩ := lvl_none hf ht hno
      have HB := Lib.hid hB
      have HL := Lib.hid (And.intro l1 l2)
      clear hS hno hB l1 l2
      go_wp2
      exact bodyPost_ret (v := .tuple #[.int .i64 0, .bool false]) (by simp [results, Tryd.results17, go_sem]) rfl ⟨by rw [HL.out.1, HL.out.2], HB.out⟩

theorem refLeast_c (s t : Int) (w : World) : Calls Tryd.prog 17 #[.int .i64 s, .int .i64 t] w fun x w' => x = .returned (.tuple #[.int .i64 (leastN s t), .bool (leastB s t)]) ∧ Below w.heap.size w w' := by
  cases hs : isSt s with
  | false => unfold leastN leastB; rw [reach_none hs]; exact refLeast_no s t w (.inl hs)
  | true =>
    cases ht : isSt t with
    | false => unfold leastN leastB; rw [far_out ht]; exact refLeast_no s t w (.inr ht)
    | true =>
      simp only [isSt, decide_eq_true_eq] at hs ht
      obtain ⟨f, rfl⟩ : ∃ f : Nat, s = f := ⟨s.toNat, by omega⟩
      obtain ⟨u, rfl⟩ : ∃ u : Nat, t = u := ⟨t.toNat, by omega⟩
      exact refLeast_in f u (by omega) (by omega) w
end Go.Proofs.YtephifkabpidnaaDoor
