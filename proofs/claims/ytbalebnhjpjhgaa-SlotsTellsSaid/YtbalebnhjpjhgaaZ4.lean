/- RB -/
import Derived.Test.YtbalebnhjpjhgaaZ3
/- The document's Right. -/
namespace Go.Proofs.Ytbalebnhjpjhgaa.L9
open Go.RowKit Go.Shelf
attribute [local go_sem] Oper.semAt_some
set_option linter.unusedSimpArgs false
set_option linter.unusedVariables false

theorem IntsAt.get {n b off k : Nat} {W : World} {zs : List Int} {x : Int} (h : IntsAt n W (some ⟨b, off, none⟩) zs) (hx : zs[k]? = some x) : W.cell? ⟨b, off + k, none⟩ = some (.int .i64 x) := by
  obtain ⟨hk, rfl⟩ := List.getElem?_eq_some_iff.1 hx
  obtain ⟨b', off', e, _, hc⟩ := h k hk
  simp at e; obtain ⟨rfl, rfl⟩ := e
  exact hc
theorem BoolsAt.get {n b off k : Nat} {W : World} {zs : List Bool} {x : Bool} (h : BoolsAt n W (some ⟨b, off, none⟩) zs) (hx : zs[k]? = some x) : W.cell? ⟨b, off + k, none⟩ = some (.bool x) := by
  obtain ⟨hk, rfl⟩ := List.getElem?_eq_some_iff.1 hx
  obtain ⟨b', off', e, _, hc⟩ := h k hk
  simp at e; obtain ⟨rfl, rfl⟩ := e
  exact hc
theorem rf_len {s : Sl} (h : ¬ (1 ≤ s.g.length ∧ s.g.length ≤ 64 ∧ s.u.length = s.g.length)) : s.right = false := by
  cases hr : s.right
  · rfl
  · have R := (right_iff s).1 hr
    exact absurd ⟨R.l1, R.l2, R.l3⟩ h
theorem rf_gen {s : Sl} {k : Nat} {x : Int} (hx : s.g[k]? = some x) (h : x < 0 ∨ 1000000000 < x) : s.right = false := by
  cases hr : s.right
  · rfl
  · have R := (right_iff s).1 hr
    have := R.gen x (List.mem_of_getElem? hx)
    omega
theorem rf_free {s : Sl} {k : Nat} {x : Int} (hx : s.f[k]? = some x) (h : ¬ isFree s.u x) : s.right = false := by
  cases hr : s.right
  · rfl
  · exact absurd (((right_iff s).1 hr).free x (List.mem_of_getElem? hx)) h
theorem rf_dup {s : Sl} {i j : Nat} {x : Int} (hij : i < j) (hi : s.f[i]? = some x) (hj : s.f[j]? = some x) : s.right = false := by
  cases hr : s.right
  · rfl
  · have R := ((right_iff s).1 hr).nodup
    obtain ⟨hi1, hi2⟩ := List.getElem?_eq_some_iff.1 hi
    obtain ⟨hj1, hj2⟩ := List.getElem?_eq_some_iff.1 hj
    have := (List.nodup_iff_pairwise_ne.1 R)
    rw [List.pairwise_iff_getElem] at this
    exact absurd (hi2.trans hj2.symm) (this i j hi1 hj1 hij)
theorem r_end {s : Sl} (h : 1 ≤ s.g.length ∧ s.g.length ≤ 64 ∧ s.u.length = s.g.length) (hg : ∀ g ∈ s.g, 0 ≤ g ∧ g ≤ 1000000000) (hf : ∀ x ∈ s.f, isFree s.u x) (hn : s.f.Nodup) : s.right = decide ((s.f.length : Int) = (s.u.count false : Nat)) := by
  have hc : s.u.count false + s.u.count true = s.u.length := by
    induction s.u with
    | nil => rfl
    | cons y r ih => cases y <;> simp [List.count_cons] at ih ⊢ <;> omega
  by_cases he : s.f.length = s.u.count false
  · rw [decide_eq_true (by omega)]
    exact (right_iff s).2 ⟨h.1, h.2.1, h.2.2, by omega, hg, hf, hn, by rw [takenOf_length]; omega⟩
  · rw [decide_eq_false (by omega)]
    cases hr : s.right
    · rfl
    · have R := ((right_iff s).1 hr).count
      rw [takenOf_length] at R
      omega
set_option maxRecDepth 100000 in
set_option maxHeartbeats 4000000 in
theorem rright_in (a1 a2 a3 : Option Addr) (c1 c2 c3 L L3 : Nat) (s : Sl) (h1 : s.g.length = L) (h2 : s.u.length = L) (h3 : s.f.length = L3) (l1 : 1 ≤ L) (l2 : L ≤ 64) (l3 : L3 ≤ 1000) (w : World) (h : SlotsAt w.heap.size w a1 a2 a3 s.g s.u s.f) :
    Calls Try.prog 15 #[.agg #[.slice a1 L c1, .slice a2 L c2, .slice a3 L3 c3]] w fun e w' => e = .returned (.bool s.right) ∧ Below w.heap.size w w' := by
  have HL := Lib.hid (And.intro h1 (And.intro h2 h3))
  have hb : Below w.heap.size w (w.alloc (.cells #[.slice a1 L c1, .slice a2 L c2, .slice a3 L3 c3] 25)) := below_alloc w _
  have hz : (w.alloc (.cells #[.slice a1 L c1, .slice a2 L c2, .slice a3 L3 c3] 25)).heap.size = w.heap.size + 1 := World.size_alloc ..
  have s0 : (w.alloc (.cells #[.slice a1 L c1, .slice a2 L c2, .slice a3 L3 c3] 25)).cell? ⟨w.heap.size, 0, none⟩ = some (.slice a1 L c1) := by go_simp
  have s1 : (w.alloc (.cells #[.slice a1 L c1, .slice a2 L c2, .slice a3 L3 c3] 25)).cell? ⟨w.heap.size, 1, none⟩ = some (.slice a2 L c2) := by go_simp
  have s2 : (w.alloc (.cells #[.slice a1 L c1, .slice a2 L c2, .slice a3 L3 c3] 25)).cell? ⟨w.heap.size, 2, none⟩ = some (.slice a3 L3 c3) := by go_simp
  have HS := Lib.hid (h.below hb)
  have HB := Lib.hid hb
  have i1 : ¬ (L : Int) < 1 := by omega
  have i2 : ¬ (L : Int) > 64 := by omega
  clear h hb
  go_enter Try.func15, Try.ntmps15
  go_wp2
  obtain ⟨T, hT⟩ : ∃ T, w.heap.size = T := ⟨_, rfl⟩
  rw [hT] at s0 s1 s2 hz HS ⊢
  generalize (w.alloc (.cells #[.slice a1 L c1, .slice a2 L c2, .slice a3 L3 c3] 25)) = V at *
  have HC := Lib.hid (And.intro s0 (And.intro s1 s2))
  clear s0 s1 s2 h1 h2 h3
  have HT := Lib.hid hT
  clear hT
  go_loopw [4, 5] (fun f i wr => Hid (Below V.heap.size V wr) ∧ ∃ k : Nat, k ≤ L ∧ i = .int .i64 (k : Int) ∧ f = .int .i64 ((s.u.take k).count false : Nat) ∧ Hid (∀ j x, j < k → s.g[j]? = some x → 0 ≤ x ∧ x ≤ 1000000000)) (fun _ i _ => L - (intOf i).toNat)
  case atStart => exact ⟨Lib.hid (Below.refl _ _), 0, Nat.zero_le _, rfl, rfl, Lib.hid (fun j x h => by omega)⟩
  case round =>
    obtain ⟨HW, k, hk, rfl, rfl, HG⟩ := hrel
    have s0 := (HW.out.cell (p := ⟨T, 0, none⟩) (show T < _ by omega)).trans HC.out.1
    have s1 := (HW.out.cell (p := ⟨T, 1, none⟩) (show T < _ by omega)).trans HC.out.2.1
    have s2 := (HW.out.cell (p := ⟨T, 2, none⟩) (show T < _ by omega)).trans HC.out.2.2
    by_cases hlt : k < L
    · have hkg : k < s.g.length := by have := HL.out; omega
      have hku : k < s.u.length := by have := HL.out; omega
      have hlt' : (k : Int) < (L : Int) := by omega
      have HS2 := Lib.hid (HS.out.below (HW.out.mono (by omega)))
      obtain ⟨b1, o1, rfl, _, p1⟩ := HS2.out.g k hkg
      obtain ⟨b2, o2, rfl, _, p2⟩ := HS2.out.u k hku
      have HX := Lib.hid (And.intro (List.getElem?_eq_getElem hkg) (List.take_succ_eq_append_getElem (l := s.u) hku))
      generalize s.g[k] = x at *
      generalize s.u[k] = y at *
      have hcl : ((s.u.take k).count false : Int) ≤ 64 := by
        have : (s.u.take k).count false ≤ (s.u.take k).length := List.count_le_length
        rw [List.length_take] at this
        omega
      have HY := Lib.hid (show (s.u.take (k + 1)).count false = (s.u.take k).count false + (if y = false then 1 else 0) by rw [HX.out.2, List.count_append]; cases y <;> simp)
      generalize (s.u.take k).count false = C at *
      clear hkg hku HS2
      by_cases x0 : x < 0
      · have HF := Lib.hid (rf_gen HX.out.1 (Or.inl x0))
        go_wp2
        go_ret
        exact ⟨ret_bool HF.out.symm, HB.out.trans (HW.out.mono (by have := HT.out; omega))⟩
      · have x0' : 0 ≤ x := by omega
        by_cases x1 : x > 1000000000
        · have HF := Lib.hid (rf_gen HX.out.1 (Or.inr (by omega)))
          go_wp2
          go_ret
          exact ⟨ret_bool HF.out.symm, HB.out.trans (HW.out.mono (by have := HT.out; omega))⟩
        · have x1' : x ≤ 1000000000 := by omega
          have hrec : ∀ j z, j < k + 1 → s.g[j]? = some z → 0 ≤ z ∧ z ≤ 1000000000 := fun j z hj hz => by
            by_cases hjk : j < k
            · exact HG.out j z hjk hz
            · obtain rfl : j = k := by omega
              rw [HX.out.1] at hz
              injection hz with hz
              omega
          have HR := Lib.hid hrec
          clear hrec
          cases y
          · go_wp2
            go_roundw
            case rel => exact ⟨HW, k + 1, by omega, by go_num, by rw [HY.out]; go_num, HR⟩
            case measure => simp [intOf]; omega
          · go_wp2
            go_roundw
            case rel => exact ⟨HW, k + 1, by omega, by go_num, by rw [HY.out]; rfl, HR⟩
            case measure => simp [intOf]; omega
    · obtain rfl : L = k := by omega
      have hlt' : ¬ (L : Int) < (L : Int) := by omega
      have hC : (s.u.take L).count false = s.u.count false := by rw [List.take_of_length_le (by have := HL.out; omega)]
      rw [hC]
      have HC2 := Lib.hid (show ∀ g ∈ s.g, 0 ≤ g ∧ g ≤ 1000000000 from fun g hg => by
        obtain ⟨j, hj, e⟩ := List.mem_iff_getElem.1 hg
        exact HG.out j g (by have := HL.out; omega) (by rw [← e]; exact List.getElem?_eq_getElem hj))
      clear hC HG
      generalize hCC : s.u.count false = C at *
      have HCC := Lib.hid hCC
      clear hCC
      go_wp2
      go_loopw [6] (fun i wr => Hid (Below V.heap.size V wr) ∧ ∃ k : Nat, k ≤ L3 ∧ i = .int .i64 (k : Int) ∧ Hid (∀ j x, j < k → s.f[j]? = some x → isFree s.u x) ∧ Hid ((s.f.take k).Nodup)) (fun i _ => L3 - (intOf i).toNat)
      case atStart => exact ⟨HW, 0, Nat.zero_le _, rfl, Lib.hid (fun j x h => by omega), Lib.hid (by simp)⟩
      case round =>
        clear s0 s1 s2 HW
        obtain ⟨HW, k, hk, rfl, HFr, HNd⟩ := hrel
        have s0 := (HW.out.cell (p := ⟨T, 0, none⟩) (show T < _ by omega)).trans HC.out.1
        have s1 := (HW.out.cell (p := ⟨T, 1, none⟩) (show T < _ by omega)).trans HC.out.2.1
        have s2 := (HW.out.cell (p := ⟨T, 2, none⟩) (show T < _ by omega)).trans HC.out.2.2
        by_cases hlt : k < L3
        · have hkf : k < s.f.length := by have := HL.out; omega
          have hlt2 : (k : Int) < (L3 : Int) := by omega
          have HS2 := Lib.hid (HS.out.below (HW.out.mono (by omega)))
          obtain ⟨b3, o3, rfl, _, p3⟩ := HS2.out.f k hkf
          have HX := Lib.hid (And.intro (List.getElem?_eq_getElem hkf) (List.take_succ_eq_append_getElem (l := s.f) hkf))
          generalize s.f[k] = x at *
          clear hkf
          by_cases x0 : x < 0
          · have HF := Lib.hid (rf_free HX.out.1 (fun h => by have := h.1; omega))
            go_wp2
            refine wp_region_held_drew (S := fun w' => w'.cell? ⟨T, 2, none⟩ = some (.slice (some ⟨b3, o3, none⟩) L3 c3) ∧ w'.cell? ⟨b3, o3 + k, none⟩ = some (.int .i64 x)) (by kernel_rfl) ?_ (fun hHeld => ?_)
            · exact ⟨s2, p3⟩
            refine takeH (i := 0) (some 58) (v := ?_) rfl rfl (by kernel_rfl) (by kernel_rfl) (by kernel_rfl) (fun _ _ _ h => h) (Or.inl ⟨by rfl, ?hyqa0⟩) hHeld ?restqa0
            case hyqa0 => (intro w hSw; (try dsimp only at hSw); go_simp; (try with_reducible rfl))
            try simp only [Act.put, List.setIfInBounds_toArray, List.set_cons_zero, List.set_cons_succ]
            refine takeH (i := 1) (some 59) (v := ?_) rfl rfl (by kernel_rfl) (by kernel_rfl) (by kernel_rfl) (fun _ _ _ h => h) (Or.inl ⟨by rfl, ?hyqa1⟩) hHeld ?restqa1
            case hyqa1 => (intro w hSw; (try dsimp only at hSw); go_simp; (try with_reducible rfl))
            try simp only [Act.put, List.setIfInBounds_toArray, List.set_cons_zero, List.set_cons_succ]
            refine takeH (i := 2) (some 60) (v := ?_) rfl rfl (by kernel_rfl) (by kernel_rfl) (by kernel_rfl) (fun _ _ _ h => h) (Or.inl ⟨by rfl, ?hyqa2⟩) hHeld ?restqa2
            case hyqa2 => (intro w hSw; (try dsimp only at hSw); go_simp; (try with_reducible rfl))
            try simp only [Act.put, List.setIfInBounds_toArray, List.set_cons_zero, List.set_cons_succ]
            refine takeH (i := 3) (some 61) (v := ?_) rfl rfl (by kernel_rfl) (by kernel_rfl) (by kernel_rfl) (fun _ _ _ h => h) (Or.inl ⟨by rfl, ?hyqa3⟩) hHeld ?restqa3
            case hyqa3 => (intro w hSw; (try dsimp only at hSw); go_simp; (try with_reducible rfl))
            try simp only [Act.put, List.setIfInBounds_toArray, List.set_cons_zero, List.set_cons_succ]
            refine takeH (i := 4) (some 62) (v := ?_) rfl rfl (by kernel_rfl) (by kernel_rfl) (by kernel_rfl) (fun _ _ _ h => h) (Or.inl ⟨by rfl, ?hyqa4⟩) hHeld ?restqa4
            case hyqa4 => (intro w hSw; (try dsimp only at hSw); go_simp; (try with_reducible rfl))
            try simp only [Act.put, List.setIfInBounds_toArray, List.set_cons_zero, List.set_cons_succ]
            refine takeH (i := 5) (some 63) (v := ?_) rfl rfl (by kernel_rfl) (by kernel_rfl) (by kernel_rfl) (fun _ _ _ h => h) (Or.inl ⟨by rfl, ?hyqa5⟩) hHeld ?restqa5
            case hyqa5 => (intro w hSw; (try dsimp only at hSw); go_simp; (try with_reducible rfl))
            try simp only [Act.put, List.setIfInBounds_toArray, List.set_cons_zero, List.set_cons_succ]
            refine takeH (i := 6) (some 64) (v := ?_) rfl rfl (by kernel_rfl) (by kernel_rfl) (by kernel_rfl) (fun _ _ _ h => h) (Or.inl ⟨by rfl, ?hyqa6⟩) hHeld ?restqa6
            case hyqa6 => (intro w hSw; (try dsimp only at hSw); go_simp; (try with_reducible rfl))
            try simp only [Act.put, List.setIfInBounds_toArray, List.set_cons_zero, List.set_cons_succ]
            refine takeH (i := 7) (some 65) (v := undef) rfl rfl (by kernel_rfl) (by kernel_rfl) (by kernel_rfl) (fun _ _ _ h => h) (Or.inr ⟨by rfl, rfl⟩) hHeld ?_
            try simp only [Act.put, List.setIfInBounds_toArray, List.set_cons_zero, List.set_cons_succ]
            refine takeH (i := 8) (some 66) (v := undef) rfl rfl (by kernel_rfl) (by kernel_rfl) (by kernel_rfl) (fun _ _ _ h => h) (Or.inr ⟨by rfl, rfl⟩) hHeld ?_
            try simp only [Act.put, List.setIfInBounds_toArray, List.set_cons_zero, List.set_cons_succ]
            refine takeH (i := 9) (some 67) (v := undef) rfl rfl (by kernel_rfl) (by kernel_rfl) (by kernel_rfl) (fun _ _ _ h => h) (Or.inr ⟨by rfl, rfl⟩) hHeld ?_
            try simp only [Act.put, List.setIfInBounds_toArray, List.set_cons_zero, List.set_cons_succ]
            refine takeH (i := 10) (some 68) (v := undef) rfl rfl (by kernel_rfl) (by kernel_rfl) (by kernel_rfl) (fun _ _ _ h => h) (Or.inr ⟨by rfl, rfl⟩) hHeld ?_
            try simp only [Act.put, List.setIfInBounds_toArray, List.set_cons_zero, List.set_cons_succ]
            refine takeH (i := 11) (some 69) (v := undef) rfl rfl (by kernel_rfl) (by kernel_rfl) (by kernel_rfl) (fun _ _ _ h => h) (Or.inr ⟨by rfl, rfl⟩) hHeld ?_
            try simp only [Act.put, List.setIfInBounds_toArray, List.set_cons_zero, List.set_cons_succ]
            refine takeH (i := 12) (some 70) (v := undef) rfl rfl (by kernel_rfl) (by kernel_rfl) (by kernel_rfl) (fun _ _ _ h => h) (Or.inr ⟨by rfl, rfl⟩) hHeld ?_
            try simp only [Act.put, List.setIfInBounds_toArray, List.set_cons_zero, List.set_cons_succ]
            refine takeH (i := 13) (some 71) (v := undef) rfl rfl (by kernel_rfl) (by kernel_rfl) (by kernel_rfl) (fun _ _ _ h => h) (Or.inr ⟨by rfl, rfl⟩) hHeld ?_
            try simp only [Act.put, List.setIfInBounds_toArray, List.set_cons_zero, List.set_cons_succ]
            refine takeH (i := 14) (some 72) (v := ?_) rfl rfl (by kernel_rfl) (by kernel_rfl) (by kernel_rfl) (fun _ _ _ h => h) (Or.inl ⟨by rfl, ?hyqa14⟩) hHeld ?restqa14
            case hyqa14 => (intro w hSw; (try dsimp only at hSw); go_simp; (try with_reducible rfl))
            try simp only [Act.put, List.setIfInBounds_toArray, List.set_cons_zero, List.set_cons_succ]
            refine takeH (i := 15) (some 73) (v := ?_) rfl rfl (by kernel_rfl) (by kernel_rfl) (by kernel_rfl) (fun _ _ _ h => h) (Or.inl ⟨by rfl, ?hyqa15⟩) hHeld ?restqa15
            case hyqa15 => (intro w hSw; (try dsimp only at hSw); go_simp; (try with_reducible rfl))
            try simp only [Act.put, List.setIfInBounds_toArray, List.set_cons_zero, List.set_cons_succ]
            refine takeH (i := 16) (some 74) (v := undef) rfl rfl (by kernel_rfl) (by kernel_rfl) (by kernel_rfl) (fun _ _ _ h => h) (Or.inr ⟨by rfl, rfl⟩) hHeld ?_
            try simp only [Act.put, List.setIfInBounds_toArray, List.set_cons_zero, List.set_cons_succ]
            refine takeH (i := 17) (some 75) (v := undef) rfl rfl (by kernel_rfl) (by kernel_rfl) (by kernel_rfl) (fun _ _ _ h => h) (Or.inr ⟨by rfl, rfl⟩) hHeld ?_
            try simp only [Act.put, List.setIfInBounds_toArray, List.set_cons_zero, List.set_cons_succ]
            refine takeH (i := 18) (some 76) (v := undef) rfl rfl (by kernel_rfl) (by kernel_rfl) (by kernel_rfl) (fun _ _ _ h => h) (Or.inr ⟨by rfl, rfl⟩) hHeld ?_
            try simp only [Act.put, List.setIfInBounds_toArray, List.set_cons_zero, List.set_cons_succ]
            refine takeH (i := 19) (some 77) (v := undef) rfl rfl (by kernel_rfl) (by kernel_rfl) (by kernel_rfl) (fun _ _ _ h => h) (Or.inr ⟨by rfl, rfl⟩) hHeld ?_
            try simp only [Act.put, List.setIfInBounds_toArray, List.set_cons_zero, List.set_cons_succ]
            refine takeH (i := 20) (some 78) (v := undef) rfl rfl (by kernel_rfl) (by kernel_rfl) (by kernel_rfl) (fun _ _ _ h => h) (Or.inr ⟨by rfl, rfl⟩) hHeld ?_
            try simp only [Act.put, List.setIfInBounds_toArray, List.set_cons_zero, List.set_cons_succ]
            refine takeH (i := 21) (some 79) (v := undef) rfl rfl (by kernel_rfl) (by kernel_rfl) (by kernel_rfl) (fun _ _ _ h => h) (Or.inr ⟨by rfl, rfl⟩) hHeld ?_
            try simp only [Act.put, List.setIfInBounds_toArray, List.set_cons_zero, List.set_cons_succ]
            refine takeH (i := 22) (some 80) (v := undef) rfl rfl (by kernel_rfl) (by kernel_rfl) (by kernel_rfl) (fun _ _ _ h => h) (Or.inr ⟨by rfl, rfl⟩) hHeld ?_
            try simp only [Act.put, List.setIfInBounds_toArray, List.set_cons_zero, List.set_cons_succ]
            refine takeH (i := 23) (some 81) (v := undef) rfl rfl (by kernel_rfl) (by kernel_rfl) (by kernel_rfl) (fun _ _ _ h => h) (Or.inr ⟨by rfl, rfl⟩) hHeld ?_
            try simp only [Act.put, List.setIfInBounds_toArray, List.set_cons_zero, List.set_cons_succ]
            refine takeH (i := 24) (some 82) (v := undef) rfl rfl (by kernel_rfl) (by kernel_rfl) (by kernel_rfl) (fun _ _ _ h => h) (Or.inr ⟨by rfl, rfl⟩) hHeld ?_
            try simp only [Act.put, List.setIfInBounds_toArray, List.set_cons_zero, List.set_cons_succ]
            refine takeH (i := 25) (some 83) (v := ?_) rfl rfl (by kernel_rfl) (by kernel_rfl) (by kernel_rfl) (fun _ _ _ h => h) (Or.inl ⟨by rfl, ?hyqa25⟩) hHeld ?restqa25
            case hyqa25 => (intro w hSw; (try dsimp only at hSw); go_simp; (try with_reducible rfl))
            try simp only [Act.put, List.setIfInBounds_toArray, List.set_cons_zero, List.set_cons_succ]
            refine wpAnyH_done (by kernel_rfl) ?_ _
            go_wp2
            go_ret
            exact ⟨ret_bool HF.out.symm, below_drew (HB.out.trans (HW.out.mono (by have := HT.out; omega)))⟩
          by_cases x1 : (L : Int) ≤ x
          · have HF := Lib.hid (rf_free HX.out.1 (fun h => by have := h.2.1; have := HL.out; omega))
            have x0' : 0 ≤ x := by omega
            have xd : decide (x < 0) = false := decide_eq_false x0
            have xe : decide ((L : Int) ≤ x) = true := decide_eq_true x1
            go_wp2
            refine wp_region_held_drew (S := fun w' => w'.cell? ⟨T, 2, none⟩ = some (.slice (some ⟨b3, o3, none⟩) L3 c3) ∧ w'.cell? ⟨b3, o3 + k, none⟩ = some (.int .i64 x)) (by kernel_rfl) ?_ (fun hHeld => ?_)
            · exact ⟨s2, p3⟩
            refine takeH (i := 0) (some 58) (v := ?_) rfl rfl (by kernel_rfl) (by kernel_rfl) (by kernel_rfl) (fun _ _ _ h => h) (Or.inl ⟨by rfl, ?hyqb0⟩) hHeld ?restqb0
            case hyqb0 => (intro w hSw; (try dsimp only at hSw); go_simp; (try with_reducible rfl))
            try simp only [Act.put, List.setIfInBounds_toArray, List.set_cons_zero, List.set_cons_succ]
            refine takeH (i := 1) (some 59) (v := ?_) rfl rfl (by kernel_rfl) (by kernel_rfl) (by kernel_rfl) (fun _ _ _ h => h) (Or.inl ⟨by rfl, ?hyqb1⟩) hHeld ?restqb1
            case hyqb1 => (intro w hSw; (try dsimp only at hSw); go_simp; (try with_reducible rfl))
            try simp only [Act.put, List.setIfInBounds_toArray, List.set_cons_zero, List.set_cons_succ]
            refine takeH (i := 2) (some 60) (v := ?_) rfl rfl (by kernel_rfl) (by kernel_rfl) (by kernel_rfl) (fun _ _ _ h => h) (Or.inl ⟨by rfl, ?hyqb2⟩) hHeld ?restqb2
            case hyqb2 => (intro w hSw; (try dsimp only at hSw); go_simp; (try with_reducible rfl))
            try simp only [Act.put, List.setIfInBounds_toArray, List.set_cons_zero, List.set_cons_succ]
            refine takeH (i := 3) (some 61) (v := ?_) rfl rfl (by kernel_rfl) (by kernel_rfl) (by kernel_rfl) (fun _ _ _ h => h) (Or.inl ⟨by rfl, ?hyqb3⟩) hHeld ?restqb3
            case hyqb3 => (intro w hSw; (try dsimp only at hSw); go_simp; (try with_reducible rfl))
            try simp only [Act.put, List.setIfInBounds_toArray, List.set_cons_zero, List.set_cons_succ]
            refine takeH (i := 4) (some 62) (v := ?_) rfl rfl (by kernel_rfl) (by kernel_rfl) (by kernel_rfl) (fun _ _ _ h => h) (Or.inl ⟨by rfl, ?hyqb4⟩) hHeld ?restqb4
            case hyqb4 => (intro w hSw; (try dsimp only at hSw); go_simp; (try with_reducible rfl))
            try simp only [Act.put, List.setIfInBounds_toArray, List.set_cons_zero, List.set_cons_succ]
            refine takeH (i := 5) (some 63) (v := ?_) rfl rfl (by kernel_rfl) (by kernel_rfl) (by kernel_rfl) (fun _ _ _ h => h) (Or.inl ⟨by rfl, ?hyqb5⟩) hHeld ?restqb5
            case hyqb5 => (intro w hSw; (try dsimp only at hSw); go_simp; (try with_reducible rfl))
            try simp only [Act.put, List.setIfInBounds_toArray, List.set_cons_zero, List.set_cons_succ]
            refine takeH (i := 6) (some 64) (v := ?_) rfl rfl (by kernel_rfl) (by kernel_rfl) (by kernel_rfl) (fun _ _ _ h => h) (Or.inl ⟨by rfl, ?hyqb6⟩) hHeld ?restqb6
            case hyqb6 => (intro w hSw; (try dsimp only at hSw); go_simp; (try with_reducible rfl))
            try simp only [Act.put, List.setIfInBounds_toArray, List.set_cons_zero, List.set_cons_succ]
            refine takeH (i := 7) (some 65) (v := ?_) rfl rfl (by kernel_rfl) (by kernel_rfl) (by kernel_rfl) (fun _ _ _ h => h) (Or.inl ⟨by rfl, ?hyqb7⟩) hHeld ?restqb7
            case hyqb7 => (intro w hSw; (try dsimp only at hSw); go_simp; (try with_reducible rfl))
            try simp only [Act.put, List.setIfInBounds_toArray, List.set_cons_zero, List.set_cons_succ]
            refine takeH (i := 8) (some 66) (v := ?_) rfl rfl (by kernel_rfl) (by kernel_rfl) (by kernel_rfl) (fun _ _ _ h => h) (Or.inl ⟨by rfl, ?hyqb8⟩) hHeld ?restqb8
            case hyqb8 => (intro w hSw; (try dsimp only at hSw); go_simp; (try with_reducible rfl))
            try simp only [Act.put, List.setIfInBounds_toArray, List.set_cons_zero, List.set_cons_succ]
            refine takeH (i := 9) (some 67) (v := ?_) rfl rfl (by kernel_rfl) (by kernel_rfl) (by kernel_rfl) (fun _ _ _ h => h) (Or.inl ⟨by rfl, ?hyqb9⟩) hHeld ?restqb9
            case hyqb9 => (intro w hSw; (try dsimp only at hSw); go_simp; (try with_reducible rfl))
            try simp only [Act.put, List.setIfInBounds_toArray, List.set_cons_zero, List.set_cons_succ]
            refine takeH (i := 10) (some 68) (v := ?_) rfl rfl (by kernel_rfl) (by kernel_rfl) (by kernel_rfl) (fun _ _ _ h => h) (Or.inl ⟨by rfl, ?hyqb10⟩) hHeld ?restqb10
            case hyqb10 => (intro w hSw; (try dsimp only at hSw); go_simp; (try with_reducible rfl))
            try simp only [Act.put, List.setIfInBounds_toArray, List.set_cons_zero, List.set_cons_succ]
            refine takeH (i := 11) (some 69) (v := ?_) rfl rfl (by kernel_rfl) (by kernel_rfl) (by kernel_rfl) (fun _ _ _ h => h) (Or.inl ⟨by rfl, ?hyqb11⟩) hHeld ?restqb11
            case hyqb11 => (intro w hSw; (try dsimp only at hSw); go_simp; (try with_reducible rfl))
            try simp only [Act.put, List.setIfInBounds_toArray, List.set_cons_zero, List.set_cons_succ]
            refine takeH (i := 12) (some 70) (v := ?_) rfl rfl (by kernel_rfl) (by kernel_rfl) (by kernel_rfl) (fun _ _ _ h => h) (Or.inl ⟨by rfl, ?hyqb12⟩) hHeld ?restqb12
            case hyqb12 => (intro w hSw; (try dsimp only at hSw); go_simp; (try with_reducible rfl))
            try simp only [Act.put, List.setIfInBounds_toArray, List.set_cons_zero, List.set_cons_succ]
            refine takeH (i := 13) (some 71) (v := ?_) rfl rfl (by kernel_rfl) (by kernel_rfl) (by kernel_rfl) (fun _ _ _ h => h) (Or.inl ⟨by rfl, ?hyqb13⟩) hHeld ?restqb13
            case hyqb13 => (intro w hSw; (try dsimp only at hSw); go_simp; (try with_reducible rfl))
            try simp only [Act.put, List.setIfInBounds_toArray, List.set_cons_zero, List.set_cons_succ]
            refine takeH (i := 14) (some 72) (v := ?_) rfl rfl (by kernel_rfl) (by kernel_rfl) (by kernel_rfl) (fun _ _ _ h => h) (Or.inl ⟨by rfl, ?hyqb14⟩) hHeld ?restqb14
            case hyqb14 => (intro w hSw; (try dsimp only at hSw); go_simp; (try with_reducible rfl))
            try simp only [Act.put, List.setIfInBounds_toArray, List.set_cons_zero, List.set_cons_succ]
            refine takeH (i := 15) (some 73) (v := ?_) rfl rfl (by kernel_rfl) (by kernel_rfl) (by kernel_rfl) (fun _ _ _ h => h) (Or.inl ⟨by rfl, ?hyqb15⟩) hHeld ?restqb15
            case hyqb15 => (intro w hSw; (try dsimp only at hSw); go_simp; (try with_reducible rfl))
            try simp only [Act.put, List.setIfInBounds_toArray, List.set_cons_zero, List.set_cons_succ]
            refine takeH (i := 16) (some 74) (v := undef) rfl rfl (by kernel_rfl) (by kernel_rfl) (by kernel_rfl) (fun _ _ _ h => h) (Or.inr ⟨by rfl, rfl⟩) hHeld ?_
            try simp only [Act.put, List.setIfInBounds_toArray, List.set_cons_zero, List.set_cons_succ]
            refine takeH (i := 17) (some 75) (v := undef) rfl rfl (by kernel_rfl) (by kernel_rfl) (by kernel_rfl) (fun _ _ _ h => h) (Or.inr ⟨by rfl, rfl⟩) hHeld ?_
            try simp only [Act.put, List.setIfInBounds_toArray, List.set_cons_zero, List.set_cons_succ]
            refine takeH (i := 18) (some 76) (v := undef) rfl rfl (by kernel_rfl) (by kernel_rfl) (by kernel_rfl) (fun _ _ _ h => h) (Or.inr ⟨by rfl, rfl⟩) hHeld ?_
            try simp only [Act.put, List.setIfInBounds_toArray, List.set_cons_zero, List.set_cons_succ]
            refine takeH (i := 19) (some 77) (v := undef) rfl rfl (by kernel_rfl) (by kernel_rfl) (by kernel_rfl) (fun _ _ _ h => h) (Or.inr ⟨by rfl, rfl⟩) hHeld ?_
            try simp only [Act.put, List.setIfInBounds_toArray, List.set_cons_zero, List.set_cons_succ]
            refine takeH (i := 20) (some 78) (v := undef) rfl rfl (by kernel_rfl) (by kernel_rfl) (by kernel_rfl) (fun _ _ _ h => h) (Or.inr ⟨by rfl, rfl⟩) hHeld ?_
            try simp only [Act.put, List.setIfInBounds_toArray, List.set_cons_zero, List.set_cons_succ]
            refine takeH (i := 21) (some 79) (v := undef) rfl rfl (by kernel_rfl) (by kernel_rfl) (by kernel_rfl) (fun _ _ _ h => h) (Or.inr ⟨by rfl, rfl⟩) hHeld ?_
            try simp only [Act.put, List.setIfInBounds_toArray, List.set_cons_zero, List.set_cons_succ]
            refine takeH (i := 22) (some 80) (v := undef) rfl rfl (by kernel_rfl) (by kernel_rfl) (by kernel_rfl) (fun _ _ _ h => h) (Or.inr ⟨by rfl, rfl⟩) hHeld ?_
            try simp only [Act.put, List.setIfInBounds_toArray, List.set_cons_zero, List.set_cons_succ]
            refine takeH (i := 23) (some 81) (v := undef) rfl rfl (by kernel_rfl) (by kernel_rfl) (by kernel_rfl) (fun _ _ _ h => h) (Or.inr ⟨by rfl, rfl⟩) hHeld ?_
            try simp only [Act.put, List.setIfInBounds_toArray, List.set_cons_zero, List.set_cons_succ]
            refine takeH (i := 24) (some 82) (v := undef) rfl rfl (by kernel_rfl) (by kernel_rfl) (by kernel_rfl) (fun _ _ _ h => h) (Or.inr ⟨by rfl, rfl⟩) hHeld ?_
            try simp only [Act.put, List.setIfInBounds_toArray, List.set_cons_zero, List.set_cons_succ]
            refine takeH (i := 25) (some 83) (v := ?_) rfl rfl (by kernel_rfl) (by kernel_rfl) (by kernel_rfl) (fun _ _ _ h => h) (Or.inl ⟨by rfl, ?hyqb25⟩) hHeld ?restqb25
            case hyqb25 => (intro w hSw; (try dsimp only at hSw); go_simp; (try with_reducible rfl))
            try simp only [Act.put, List.setIfInBounds_toArray, List.set_cons_zero, List.set_cons_succ]
            refine wpAnyH_done (by kernel_rfl) ?_ _
            go_wp2
            go_ret
            exact ⟨ret_bool HF.out.symm, below_drew (HB.out.trans (HW.out.mono (by have := HT.out; omega)))⟩
          obtain ⟨p, rfl⟩ : ∃ p : Nat, x = p := ⟨x.toNat, by omega⟩
          have hpL : p < L := by omega
          have hpu : p < s.u.length := by have := HL.out; omega
          have x2 : (p : Int) < (L : Int) := by omega
          have x3 : ¬ (p : Int) ≥ (L : Int) := by omega
          have xd : decide ((p : Int) < 0) = false := decide_eq_false (by omega)
          have xe : decide ((L : Int) ≤ (p : Int)) = false := decide_eq_false (by omega)
          have xf : ¬ L ≤ p := by omega
          obtain ⟨b2, o2, rfl, _, p2⟩ := HS2.out.u p hpu
          have HU := Lib.hid (List.getElem?_eq_getElem hpu)
          generalize s.u[p] = y at *
          clear hpu HS2 x0 x1
          cases y
          case true =>
            have HF := Lib.hid (rf_free HX.out.1 (fun h => by have := h.2.2; rw [Int.toNat_natCast, HU.out] at this; cases this))
            go_wp2
            refine wp_region_held_drew (S := fun w' => w'.cell? ⟨T, 1, none⟩ = some (.slice (some ⟨b2, o2, none⟩) L c2) ∧ w'.cell? ⟨T, 2, none⟩ = some (.slice (some ⟨b3, o3, none⟩) L3 c3) ∧ w'.cell? ⟨b3, o3 + k, none⟩ = some (.int .i64 (p : Int)) ∧ w'.cell? ⟨b2, o2 + p, none⟩ = some (.bool true)) (by kernel_rfl) ?_ (fun hHeld => ?_)
            · exact ⟨s1, s2, p3, p2⟩
            refine takeH (i := 0) (some 58) (v := ?_) rfl rfl (by kernel_rfl) (by kernel_rfl) (by kernel_rfl) (fun _ _ _ h => h) (Or.inl ⟨by rfl, ?hyqc0⟩) hHeld ?restqc0
            case hyqc0 => (intro w hSw; (try dsimp only at hSw); go_simp; (try with_reducible rfl))
            try simp only [Act.put, List.setIfInBounds_toArray, List.set_cons_zero, List.set_cons_succ]
            refine takeH (i := 1) (some 59) (v := ?_) rfl rfl (by kernel_rfl) (by kernel_rfl) (by kernel_rfl) (fun _ _ _ h => h) (Or.inl ⟨by rfl, ?hyqc1⟩) hHeld ?restqc1
            case hyqc1 => (intro w hSw; (try dsimp only at hSw); go_simp; (try with_reducible rfl))
            try simp only [Act.put, List.setIfInBounds_toArray, List.set_cons_zero, List.set_cons_succ]
            refine takeH (i := 2) (some 60) (v := ?_) rfl rfl (by kernel_rfl) (by kernel_rfl) (by kernel_rfl) (fun _ _ _ h => h) (Or.inl ⟨by rfl, ?hyqc2⟩) hHeld ?restqc2
            case hyqc2 => (intro w hSw; (try dsimp only at hSw); go_simp; (try with_reducible rfl))
            try simp only [Act.put, List.setIfInBounds_toArray, List.set_cons_zero, List.set_cons_succ]
            refine takeH (i := 3) (some 61) (v := ?_) rfl rfl (by kernel_rfl) (by kernel_rfl) (by kernel_rfl) (fun _ _ _ h => h) (Or.inl ⟨by rfl, ?hyqc3⟩) hHeld ?restqc3
            case hyqc3 => (intro w hSw; (try dsimp only at hSw); go_simp; (try with_reducible rfl))
            try simp only [Act.put, List.setIfInBounds_toArray, List.set_cons_zero, List.set_cons_succ]
            refine takeH (i := 4) (some 62) (v := ?_) rfl rfl (by kernel_rfl) (by kernel_rfl) (by kernel_rfl) (fun _ _ _ h => h) (Or.inl ⟨by rfl, ?hyqc4⟩) hHeld ?restqc4
            case hyqc4 => (intro w hSw; (try dsimp only at hSw); go_simp; (try with_reducible rfl))
            try simp only [Act.put, List.setIfInBounds_toArray, List.set_cons_zero, List.set_cons_succ]
            refine takeH (i := 5) (some 63) (v := ?_) rfl rfl (by kernel_rfl) (by kernel_rfl) (by kernel_rfl) (fun _ _ _ h => h) (Or.inl ⟨by rfl, ?hyqc5⟩) hHeld ?restqc5
            case hyqc5 => (intro w hSw; (try dsimp only at hSw); go_simp; (try with_reducible rfl))
            try simp only [Act.put, List.setIfInBounds_toArray, List.set_cons_zero, List.set_cons_succ]
            refine takeH (i := 6) (some 64) (v := ?_) rfl rfl (by kernel_rfl) (by kernel_rfl) (by kernel_rfl) (fun _ _ _ h => h) (Or.inl ⟨by rfl, ?hyqc6⟩) hHeld ?restqc6
            case hyqc6 => (intro w hSw; (try dsimp only at hSw); go_simp; (try with_reducible rfl))
            try simp only [Act.put, List.setIfInBounds_toArray, List.set_cons_zero, List.set_cons_succ]
            refine takeH (i := 7) (some 65) (v := ?_) rfl rfl (by kernel_rfl) (by kernel_rfl) (by kernel_rfl) (fun _ _ _ h => h) (Or.inl ⟨by rfl, ?hyqc7⟩) hHeld ?restqc7
            case hyqc7 => (intro w hSw; (try dsimp only at hSw); go_simp; (try with_reducible rfl))
            try simp only [Act.put, List.setIfInBounds_toArray, List.set_cons_zero, List.set_cons_succ]
            refine takeH (i := 8) (some 66) (v := ?_) rfl rfl (by kernel_rfl) (by kernel_rfl) (by kernel_rfl) (fun _ _ _ h => h) (Or.inl ⟨by rfl, ?hyqc8⟩) hHeld ?restqc8
            case hyqc8 => (intro w hSw; (try dsimp only at hSw); go_simp; (try with_reducible rfl))
            try simp only [Act.put, List.setIfInBounds_toArray, List.set_cons_zero, List.set_cons_succ]
            refine takeH (i := 9) (some 67) (v := ?_) rfl rfl (by kernel_rfl) (by kernel_rfl) (by kernel_rfl) (fun _ _ _ h => h) (Or.inl ⟨by rfl, ?hyqc9⟩) hHeld ?restqc9
            case hyqc9 => (intro w hSw; (try dsimp only at hSw); go_simp; (try with_reducible rfl))
            try simp only [Act.put, List.setIfInBounds_toArray, List.set_cons_zero, List.set_cons_succ]
            refine takeH (i := 10) (some 68) (v := ?_) rfl rfl (by kernel_rfl) (by kernel_rfl) (by kernel_rfl) (fun _ _ _ h => h) (Or.inl ⟨by rfl, ?hyqc10⟩) hHeld ?restqc10
            case hyqc10 => (intro w hSw; (try dsimp only at hSw); go_simp; (try with_reducible rfl))
            try simp only [Act.put, List.setIfInBounds_toArray, List.set_cons_zero, List.set_cons_succ]
            refine takeH (i := 11) (some 69) (v := ?_) rfl rfl (by kernel_rfl) (by kernel_rfl) (by kernel_rfl) (fun _ _ _ h => h) (Or.inl ⟨by rfl, ?hyqc11⟩) hHeld ?restqc11
            case hyqc11 => (intro w hSw; (try dsimp only at hSw); go_simp; (try with_reducible rfl))
            try simp only [Act.put, List.setIfInBounds_toArray, List.set_cons_zero, List.set_cons_succ]
            refine takeH (i := 12) (some 70) (v := ?_) rfl rfl (by kernel_rfl) (by kernel_rfl) (by kernel_rfl) (fun _ _ _ h => h) (Or.inl ⟨by rfl, ?hyqc12⟩) hHeld ?restqc12
            case hyqc12 => (intro w hSw; (try dsimp only at hSw); go_simp; (try with_reducible rfl))
            try simp only [Act.put, List.setIfInBounds_toArray, List.set_cons_zero, List.set_cons_succ]
            refine takeH (i := 13) (some 71) (v := ?_) rfl rfl (by kernel_rfl) (by kernel_rfl) (by kernel_rfl) (fun _ _ _ h => h) (Or.inl ⟨by rfl, ?hyqc13⟩) hHeld ?restqc13
            case hyqc13 => (intro w hSw; (try dsimp only at hSw); go_simp; (try with_reducible rfl))
            try simp only [Act.put, List.setIfInBounds_toArray, List.set_cons_zero, List.set_cons_succ]
            refine takeH (i := 14) (some 72) (v := ?_) rfl rfl (by kernel_rfl) (by kernel_rfl) (by kernel_rfl) (fun _ _ _ h => h) (Or.inl ⟨by rfl, ?hyqc14⟩) hHeld ?restqc14
            case hyqc14 => (intro w hSw; (try dsimp only at hSw); go_simp; (try with_reducible rfl))
            try simp only [Act.put, List.setIfInBounds_toArray, List.set_cons_zero, List.set_cons_succ]
            refine takeH (i := 15) (some 73) (v := ?_) rfl rfl (by kernel_rfl) (by kernel_rfl) (by kernel_rfl) (fun _ _ _ h => h) (Or.inl ⟨by rfl, ?hyqc15⟩) hHeld ?restqc15
            case hyqc15 => (intro w hSw; (try dsimp only at hSw); go_simp; (try with_reducible rfl))
            try simp only [Act.put, List.setIfInBounds_toArray, List.set_cons_zero, List.set_cons_succ]
            refine takeH (i := 16) (some 74) (v := ?_) rfl rfl (by kernel_rfl) (by kernel_rfl) (by kernel_rfl) (fun _ _ _ h => h) (Or.inl ⟨by rfl, ?hyqc16⟩) hHeld ?restqc16
            case hyqc16 => (intro w hSw; (try dsimp only at hSw); go_simp; (try with_reducible rfl))
            try simp only [Act.put, List.setIfInBounds_toArray, List.set_cons_zero, List.set_cons_succ]
            refine takeH (i := 17) (some 75) (v := ?_) rfl rfl (by kernel_rfl) (by kernel_rfl) (by kernel_rfl) (fun _ _ _ h => h) (Or.inl ⟨by rfl, ?hyqc17⟩) hHeld ?restqc17
            case hyqc17 => (intro w hSw; (try dsimp only at hSw); go_simp; (try with_reducible rfl))
            try simp only [Act.put, List.setIfInBounds_toArray, List.set_cons_zero, List.set_cons_succ]
            refine takeH (i := 18) (some 76) (v := ?_) rfl rfl (by kernel_rfl) (by kernel_rfl) (by kernel_rfl) (fun _ _ _ h => h) (Or.inl ⟨by rfl, ?hyqc18⟩) hHeld ?restqc18
            case hyqc18 => (intro w hSw; (try dsimp only at hSw); go_simp; (try with_reducible rfl))
            try simp only [Act.put, List.setIfInBounds_toArray, List.set_cons_zero, List.set_cons_succ]
            refine takeH (i := 19) (some 77) (v := ?_) rfl rfl (by kernel_rfl) (by kernel_rfl) (by kernel_rfl) (fun _ _ _ h => h) (Or.inl ⟨by rfl, ?hyqc19⟩) hHeld ?restqc19
            case hyqc19 => (intro w hSw; (try dsimp only at hSw); go_simp; (try with_reducible rfl))
            try simp only [Act.put, List.setIfInBounds_toArray, List.set_cons_zero, List.set_cons_succ]
            refine takeH (i := 20) (some 78) (v := ?_) rfl rfl (by kernel_rfl) (by kernel_rfl) (by kernel_rfl) (fun _ _ _ h => h) (Or.inl ⟨by rfl, ?hyqc20⟩) hHeld ?restqc20
            case hyqc20 => (intro w hSw; (try dsimp only at hSw); go_simp; (try with_reducible rfl))
            try simp only [Act.put, List.setIfInBounds_toArray, List.set_cons_zero, List.set_cons_succ]
            refine takeH (i := 21) (some 79) (v := ?_) rfl rfl (by kernel_rfl) (by kernel_rfl) (by kernel_rfl) (fun _ _ _ h => h) (Or.inl ⟨by rfl, ?hyqc21⟩) hHeld ?restqc21
            case hyqc21 => (intro w hSw; (try dsimp only at hSw); go_simp; (try with_reducible rfl))
            try simp only [Act.put, List.setIfInBounds_toArray, List.set_cons_zero, List.set_cons_succ]
            refine takeH (i := 22) (some 80) (v := ?_) rfl rfl (by kernel_rfl) (by kernel_rfl) (by kernel_rfl) (fun _ _ _ h => h) (Or.inl ⟨by rfl, ?hyqc22⟩) hHeld ?restqc22
            case hyqc22 => (intro w hSw; (try dsimp only at hSw); go_simp; (try with_reducible rfl))
            try simp only [Act.put, List.setIfInBounds_toArray, List.set_cons_zero, List.set_cons_succ]
            refine takeH (i := 23) (some 81) (v := ?_) rfl rfl (by kernel_rfl) (by kernel_rfl) (by kernel_rfl) (fun _ _ _ h => h) (Or.inl ⟨by rfl, ?hyqc23⟩) hHeld ?restqc23
            case hyqc23 => (intro w hSw; (try dsimp only at hSw); go_simp; (try with_reducible rfl))
            try simp only [Act.put, List.setIfInBounds_toArray, List.set_cons_zero, List.set_cons_succ]
            refine takeH (i := 24) (some 82) (v := ?_) rfl rfl (by kernel_rfl) (by kernel_rfl) (by kernel_rfl) (fun _ _ _ h => h) (Or.inl ⟨by rfl, ?hyqc24⟩) hHeld ?restqc24
            case hyqc24 => (intro w hSw; (try dsimp only at hSw); go_simp; (try with_reducible rfl))
            try simp only [Act.put, List.setIfInBounds_toArray, List.set_cons_zero, List.set_cons_succ]
            refine takeH (i := 25) (some 83) (v := ?_) rfl rfl (by kernel_rfl) (by kernel_rfl) (by kernel_rfl) (fun _ _ _ h => h) (Or.inl ⟨by rfl, ?hyqc25⟩) hHeld ?restqc25
            case hyqc25 => (intro w hSw; (try dsimp only at hSw); go_simp; (try with_reducible rfl))
            try simp only [Act.put, List.setIfInBounds_toArray, List.set_cons_zero, List.set_cons_succ]
            refine wpAnyH_done (by kernel_rfl) ?_ _
            go_wp2
            go_ret
            exact ⟨ret_bool HF.out.symm, below_drew (HB.out.trans (HW.out.mono (by have := HT.out; omega)))⟩
          have HFr2 := Lib.hid (show ∀ j z, j < k + 1 → s.f[j]? = some z → isFree s.u z from fun j z hj hz => by
            by_cases hjk : j < k
            · exact HFr.out j z hjk hz
            · obtain rfl : k = j := by omega
              rw [HX.out.1] at hz
              injection hz with hz
              subst hz
              exact ⟨by omega, by have := HL.out; omega, by rw [Int.toNat_natCast, HU.out]; rfl⟩)
          go_wp2
          refine wp_region_held_drew (S := fun w' => w'.cell? ⟨T, 1, none⟩ = some (.slice (some ⟨b2, o2, none⟩) L c2) ∧ w'.cell? ⟨T, 2, none⟩ = some (.slice (some ⟨b3, o3, none⟩) L3 c3) ∧ w'.cell? ⟨b3, o3 + k, none⟩ = some (.int .i64 (p : Int)) ∧ w'.cell? ⟨b2, o2 + p, none⟩ = some (.bool false)) (by kernel_rfl) ?_ (fun hHeld => ?_)
          · exact ⟨s1, s2, p3, p2⟩
          refine takeH (i := 0) (some 58) (v := ?_) rfl rfl (by kernel_rfl) (by kernel_rfl) (by kernel_rfl) (fun _ _ _ h => h) (Or.inl ⟨by rfl, ?hyqd0⟩) hHeld ?restqd0
          case hyqd0 => (intro w hSw; (try dsimp only at hSw); go_simp; (try with_reducible rfl))
          try simp only [Act.put, List.setIfInBounds_toArray, List.set_cons_zero, List.set_cons_succ]
          refine takeH (i := 1) (some 59) (v := ?_) rfl rfl (by kernel_rfl) (by kernel_rfl) (by kernel_rfl) (fun _ _ _ h => h) (Or.inl ⟨by rfl, ?hyqd1⟩) hHeld ?restqd1
          case hyqd1 => (intro w hSw; (try dsimp only at hSw); go_simp; (try with_reducible rfl))
          try simp only [Act.put, List.setIfInBounds_toArray, List.set_cons_zero, List.set_cons_succ]
          refine takeH (i := 2) (some 60) (v := ?_) rfl rfl (by kernel_rfl) (by kernel_rfl) (by kernel_rfl) (fun _ _ _ h => h) (Or.inl ⟨by rfl, ?hyqd2⟩) hHeld ?restqd2
          case hyqd2 => (intro w hSw; (try dsimp only at hSw); go_simp; (try with_reducible rfl))
          try simp only [Act.put, List.setIfInBounds_toArray, List.set_cons_zero, List.set_cons_succ]
          refine takeH (i := 3) (some 61) (v := ?_) rfl rfl (by kernel_rfl) (by kernel_rfl) (by kernel_rfl) (fun _ _ _ h => h) (Or.inl ⟨by rfl, ?hyqd3⟩) hHeld ?restqd3
          case hyqd3 => (intro w hSw; (try dsimp only at hSw); go_simp; (try with_reducible rfl))
          try simp only [Act.put, List.setIfInBounds_toArray, List.set_cons_zero, List.set_cons_succ]
          refine takeH (i := 4) (some 62) (v := ?_) rfl rfl (by kernel_rfl) (by kernel_rfl) (by kernel_rfl) (fun _ _ _ h => h) (Or.inl ⟨by rfl, ?hyqd4⟩) hHeld ?restqd4
          case hyqd4 => (intro w hSw; (try dsimp only at hSw); go_simp; (try with_reducible rfl))
          try simp only [Act.put, List.setIfInBounds_toArray, List.set_cons_zero, List.set_cons_succ]
          refine takeH (i := 5) (some 63) (v := ?_) rfl rfl (by kernel_rfl) (by kernel_rfl) (by kernel_rfl) (fun _ _ _ h => h) (Or.inl ⟨by rfl, ?hyqd5⟩) hHeld ?restqd5
          case hyqd5 => (intro w hSw; (try dsimp only at hSw); go_simp; (try with_reducible rfl))
          try simp only [Act.put, List.setIfInBounds_toArray, List.set_cons_zero, List.set_cons_succ]
          refine takeH (i := 6) (some 64) (v := ?_) rfl rfl (by kernel_rfl) (by kernel_rfl) (by kernel_rfl) (fun _ _ _ h => h) (Or.inl ⟨by rfl, ?hyqd6⟩) hHeld ?restqd6
          case hyqd6 => (intro w hSw; (try dsimp only at hSw); go_simp; (try with_reducible rfl))
          try simp only [Act.put, List.setIfInBounds_toArray, List.set_cons_zero, List.set_cons_succ]
          refine takeH (i := 7) (some 65) (v := ?_) rfl rfl (by kernel_rfl) (by kernel_rfl) (by kernel_rfl) (fun _ _ _ h => h) (Or.inl ⟨by rfl, ?hyqd7⟩) hHeld ?restqd7
          case hyqd7 => (intro w hSw; (try dsimp only at hSw); go_simp; (try with_reducible rfl))
          try simp only [Act.put, List.setIfInBounds_toArray, List.set_cons_zero, List.set_cons_succ]
          refine takeH (i := 8) (some 66) (v := ?_) rfl rfl (by kernel_rfl) (by kernel_rfl) (by kernel_rfl) (fun _ _ _ h => h) (Or.inl ⟨by rfl, ?hyqd8⟩) hHeld ?restqd8
          case hyqd8 => (intro w hSw; (try dsimp only at hSw); go_simp; (try with_reducible rfl))
          try simp only [Act.put, List.setIfInBounds_toArray, List.set_cons_zero, List.set_cons_succ]
          refine takeH (i := 9) (some 67) (v := ?_) rfl rfl (by kernel_rfl) (by kernel_rfl) (by kernel_rfl) (fun _ _ _ h => h) (Or.inl ⟨by rfl, ?hyqd9⟩) hHeld ?restqd9
          case hyqd9 => (intro w hSw; (try dsimp only at hSw); go_simp; (try with_reducible rfl))
          try simp only [Act.put, List.setIfInBounds_toArray, List.set_cons_zero, List.set_cons_succ]
          refine takeH (i := 10) (some 68) (v := ?_) rfl rfl (by kernel_rfl) (by kernel_rfl) (by kernel_rfl) (fun _ _ _ h => h) (Or.inl ⟨by rfl, ?hyqd10⟩) hHeld ?restqd10
          case hyqd10 => (intro w hSw; (try dsimp only at hSw); go_simp; (try with_reducible rfl))
          try simp only [Act.put, List.setIfInBounds_toArray, List.set_cons_zero, List.set_cons_succ]
          refine takeH (i := 11) (some 69) (v := ?_) rfl rfl (by kernel_rfl) (by kernel_rfl) (by kernel_rfl) (fun _ _ _ h => h) (Or.inl ⟨by rfl, ?hyqd11⟩) hHeld ?restqd11
          case hyqd11 => (intro w hSw; (try dsimp only at hSw); go_simp; (try with_reducible rfl))
          try simp only [Act.put, List.setIfInBounds_toArray, List.set_cons_zero, List.set_cons_succ]
          refine takeH (i := 12) (some 70) (v := ?_) rfl rfl (by kernel_rfl) (by kernel_rfl) (by kernel_rfl) (fun _ _ _ h => h) (Or.inl ⟨by rfl, ?hyqd12⟩) hHeld ?restqd12
          case hyqd12 => (intro w hSw; (try dsimp only at hSw); go_simp; (try with_reducible rfl))
          try simp only [Act.put, List.setIfInBounds_toArray, List.set_cons_zero, List.set_cons_succ]
          refine takeH (i := 13) (some 71) (v := ?_) rfl rfl (by kernel_rfl) (by kernel_rfl) (by kernel_rfl) (fun _ _ _ h => h) (Or.inl ⟨by rfl, ?hyqd13⟩) hHeld ?restqd13
          case hyqd13 => (intro w hSw; (try dsimp only at hSw); go_simp; (try with_reducible rfl))
          try simp only [Act.put, List.setIfInBounds_toArray, List.set_cons_zero, List.set_cons_succ]
          refine takeH (i := 14) (some 72) (v := ?_) rfl rfl (by kernel_rfl) (by kernel_rfl) (by kernel_rfl) (fun _ _ _ h => h) (Or.inl ⟨by rfl, ?hyqd14⟩) hHeld ?restqd14
          case hyqd14 => (intro w hSw; (try dsimp only at hSw); go_simp; (try with_reducible rfl))
          try simp only [Act.put, List.setIfInBounds_toArray, List.set_cons_zero, List.set_cons_succ]
          refine takeH (i := 15) (some 73) (v := ?_) rfl rfl (by kernel_rfl) (by kernel_rfl) (by kernel_rfl) (fun _ _ _ h => h) (Or.inl ⟨by rfl, ?hyqd15⟩) hHeld ?restqd15
          case hyqd15 => (intro w hSw; (try dsimp only at hSw); go_simp; (try with_reducible rfl))
          try simp only [Act.put, List.setIfInBounds_toArray, List.set_cons_zero, List.set_cons_succ]
          refine takeH (i := 16) (some 74) (v := ?_) rfl rfl (by kernel_rfl) (by kernel_rfl) (by kernel_rfl) (fun _ _ _ h => h) (Or.inl ⟨by rfl, ?hyqd16⟩) hHeld ?restqd16
          case hyqd16 => (intro w hSw; (try dsimp only at hSw); go_simp; (try with_reducible rfl))
          try simp only [Act.put, List.setIfInBounds_toArray, List.set_cons_zero, List.set_cons_succ]
          refine takeH (i := 17) (some 75) (v := ?_) rfl rfl (by kernel_rfl) (by kernel_rfl) (by kernel_rfl) (fun _ _ _ h => h) (Or.inl ⟨by rfl, ?hyqd17⟩) hHeld ?restqd17
          case hyqd17 => (intro w hSw; (try dsimp only at hSw); go_simp; (try with_reducible rfl))
          try simp only [Act.put, List.setIfInBounds_toArray, List.set_cons_zero, List.set_cons_succ]
          refine takeH (i := 18) (some 76) (v := ?_) rfl rfl (by kernel_rfl) (by kernel_rfl) (by kernel_rfl) (fun _ _ _ h => h) (Or.inl ⟨by rfl, ?hyqd18⟩) hHeld ?restqd18
          case hyqd18 => (intro w hSw; (try dsimp only at hSw); go_simp; (try with_reducible rfl))
          try simp only [Act.put, List.setIfInBounds_toArray, List.set_cons_zero, List.set_cons_succ]
          refine takeH (i := 19) (some 77) (v := ?_) rfl rfl (by kernel_rfl) (by kernel_rfl) (by kernel_rfl) (fun _ _ _ h => h) (Or.inl ⟨by rfl, ?hyqd19⟩) hHeld ?restqd19
          case hyqd19 => (intro w hSw; (try dsimp only at hSw); go_simp; (try with_reducible rfl))
          try simp only [Act.put, List.setIfInBounds_toArray, List.set_cons_zero, List.set_cons_succ]
          refine takeH (i := 20) (some 78) (v := ?_) rfl rfl (by kernel_rfl) (by kernel_rfl) (by kernel_rfl) (fun _ _ _ h => h) (Or.inl ⟨by rfl, ?hyqd20⟩) hHeld ?restqd20
          case hyqd20 => (intro w hSw; (try dsimp only at hSw); go_simp; (try with_reducible rfl))
          try simp only [Act.put, List.setIfInBounds_toArray, List.set_cons_zero, List.set_cons_succ]
          refine takeH (i := 21) (some 79) (v := ?_) rfl rfl (by kernel_rfl) (by kernel_rfl) (by kernel_rfl) (fun _ _ _ h => h) (Or.inl ⟨by rfl, ?hyqd21⟩) hHeld ?restqd21
          case hyqd21 => (intro w hSw; (try dsimp only at hSw); go_simp; (try with_reducible rfl))
          try simp only [Act.put, List.setIfInBounds_toArray, List.set_cons_zero, List.set_cons_succ]
          refine takeH (i := 22) (some 80) (v := ?_) rfl rfl (by kernel_rfl) (by kernel_rfl) (by kernel_rfl) (fun _ _ _ h => h) (Or.inl ⟨by rfl, ?hyqd22⟩) hHeld ?restqd22
          case hyqd22 => (intro w hSw; (try dsimp only at hSw); go_simp; (try with_reducible rfl))
          try simp only [Act.put, List.setIfInBounds_toArray, List.set_cons_zero, List.set_cons_succ]
          refine takeH (i := 23) (some 81) (v := ?_) rfl rfl (by kernel_rfl) (by kernel_rfl) (by kernel_rfl) (fun _ _ _ h => h) (Or.inl ⟨by rfl, ?hyqd23⟩) hHeld ?restqd23
          case hyqd23 => (intro w hSw; (try dsimp only at hSw); go_simp; (try with_reducible rfl))
          try simp only [Act.put, List.setIfInBounds_toArray, List.set_cons_zero, List.set_cons_succ]
          refine takeH (i := 24) (some 82) (v := ?_) rfl rfl (by kernel_rfl) (by kernel_rfl) (by kernel_rfl) (fun _ _ _ h => h) (Or.inl ⟨by rfl, ?hyqd24⟩) hHeld ?restqd24
          case hyqd24 => (intro w hSw; (try dsimp only at hSw); go_simp; (try with_reducible rfl))
          try simp only [Act.put, List.setIfInBounds_toArray, List.set_cons_zero, List.set_cons_succ]
          refine takeH (i := 25) (some 83) (v := ?_) rfl rfl (by kernel_rfl) (by kernel_rfl) (by kernel_rfl) (fun _ _ _ h => h) (Or.inl ⟨by rfl, ?hyqd25⟩) hHeld ?restqd25
          case hyqd25 => (intro w hSw; (try dsimp only at hSw); go_simp; (try with_reducible rfl))
          try simp only [Act.put, List.setIfInBounds_toArray, List.set_cons_zero, List.set_cons_succ]
          refine wpAnyH_done (by kernel_rfl) ?_ _
          go_wp2
          have HW2 := Lib.hid (below_drew HW.out)
          generalize wr.drew = wd at *
          go_loopw [7] (fun i wq => Hid (Below V.heap.size V wq) ∧ ∃ j : Nat, j ≤ k ∧ i = .int .i64 (j : Int) ∧ Hid (∀ i z, i < j → s.f[i]? = some z → z ≠ (p : Int))) (fun i _ => k - (intOf i).toNat)
          case atStart => exact ⟨HW2, 0, Nat.zero_le _, rfl, Lib.hid (fun j x h => by omega)⟩
          case round =>
            clear s0 s1 s2 HW HW2 p2 p3
            obtain ⟨HW, j, hj, rfl, HNe⟩ := hrel
            have s0 := (HW.out.cell (p := ⟨T, 0, none⟩) (show T < _ by omega)).trans HC.out.1
            have s1 := (HW.out.cell (p := ⟨T, 1, none⟩) (show T < _ by omega)).trans HC.out.2.1
            have s2 := (HW.out.cell (p := ⟨T, 2, none⟩) (show T < _ by omega)).trans HC.out.2.2
            have HS3 := Lib.hid (HS.out.below (HW.out.mono (by omega)))
            have p3 := IntsAt.get HS3.out.f HX.out.1
            by_cases hlj : j < k
            · have hjf : j < s.f.length := by have := HL.out; omega
              have hlj' : (j : Int) < (k : Int) := by omega
              have HZ := Lib.hid (List.getElem?_eq_getElem hjf)
              generalize s.f[j] = z at *
              have p4 := IntsAt.get HS3.out.f HZ.out
              have hj3 : (j : Int) < (L3 : Int) := by omega
              clear hjf HS3
              by_cases hz : z = (p : Int)
              · subst hz
                have HF := Lib.hid (rf_dup hlj HZ.out HX.out.1)
                go_wp2
                go_quiet (fail)
                go_wp2
                go_ret
                exact ⟨ret_bool HF.out.symm, below_drewN (HB.out.trans (HW.out.mono (by have := HT.out; omega))) _⟩
              · have hz' : (z == (p : Int)) = false := by simpa using hz
                have HN2 := Lib.hid (show ∀ i u, i < j + 1 → s.f[i]? = some u → u ≠ (p : Int) from fun i u hi hu => by
                  by_cases hij : i < j
                  · exact HNe.out i u hij hu
                  · obtain rfl : j = i := by omega
                    rw [HZ.out] at hu
                    injection hu with hu
                    exact hu ▸ hz)
                go_wp2
                go_quiet (fail)
                go_wp2
                go_roundw
                case rel => exact ⟨Lib.hid (below_drewN HW.out _), j + 1, by omega, by go_num, HN2⟩
                case measure => simp [intOf]; omega
            · obtain rfl : k = j := by omega
              have hlj' : ¬ (k : Int) < (k : Int) := by omega
              have HN3 := Lib.hid (show (s.f.take (k + 1)).Nodup by
                rw [List.take_succ_eq_append_getElem (by have := HL.out; omega), List.nodup_append]
                refine ⟨HNd.out, by simp, fun a ha b hb => ?_⟩
                rw [List.mem_singleton] at hb
                obtain ⟨i, hi, e⟩ := List.mem_iff_getElem.1 ha
                have h5 : s.f[i]? = some a := by
                  rw [List.length_take] at hi
                  rw [List.getElem_take] at e
                  rw [← e]; exact List.getElem?_eq_getElem _
                have h6 := HNe.out i a (by rw [List.length_take] at hi; omega) h5
                have h7 : s.f[k]? = some b := by rw [hb]; exact List.getElem?_eq_getElem _
                rw [HX.out.1] at h7
                injection h7 with h7
                exact h7 ▸ h6)
              clear HS3
              go_wp2
              go_roundw
              case rel => exact ⟨HW, k + 1, by omega, by go_num, HFr2, HN3⟩
              case measure => simp [intOf]; omega
        · obtain rfl : L3 = k := by omega
          have hlt2 : ¬ (L3 : Int) < (L3 : Int) := by omega
          have HE := Lib.hid (r_end (s := s) ⟨by have := HL.out; omega, by have := HL.out; omega, by have := HL.out; omega⟩ HC2.out (fun x hx => by
            obtain ⟨j, hj, e⟩ := List.mem_iff_getElem.1 hx
            exact HFr.out j x (by have := HL.out; omega) (by rw [← e]; exact List.getElem?_eq_getElem hj)) (by have := HNd.out; rw [List.take_of_length_le (by have := HL.out; omega)] at this; exact this))
          go_wp2
          go_ret
          exact ⟨by rw [HE.out, HL.out.2.2, HCC.out]; rfl, HB.out.trans (HW.out.mono (by have := HT.out; omega))⟩
end Go.Proofs.Ytbalebnhjpjhgaa.L9
