/- RH, RI, RJ, RK -/
import Derived.Test.YtbalebnhjpjhgaaZ8
import Derived.Test.YtbalebnhjpjhgaaZ3
set_option linter.unusedVariables false
set_option linter.unusedSimpArgs false
/- The document's All. -/
namespace Go.Proofs.Ytbalebnhjpjhgaa.L9
open Go.RowKit Go.Shelf
attribute [local go_sem] Oper.semAt_some
set_option linter.unusedSimpArgs false
set_option linter.unusedVariables false

theorem cell_two_new (w : World) (x y : Value) (t : TypeId) : ∀ j u, [x, y][j]? = some u → (w.alloc (.cells #[x, y] t)).cell? ((⟨w.heap.size, 0, none⟩ : Addr).add j) = some u := by
  intro j u hj
  rw [add_at, Nat.zero_add]
  match j, hj with
  | 0, hj => simp at hj; subst hj; go_simp
  | 1, hj => simp at hj; subst hj; go_simp
theorem OwnH.on {base : Nat} {W W' : World} {v : Value} {l : List (Int × Int)} (h : OwnH base W v l) (hb : Below W.heap.size W W') : OwnH base W' v l := World.ownsRow.kept h (grown_of_below hb) (by cases v.ownBlock <;> simp)
theorem OwnH.mono {base base' : Nat} {W : World} {v : Value} {l : List (Int × Int)} (h : OwnH base W v l) (hb : base' ≤ base) : OwnH base' W v l := ⟨h.1, h.2.imp id fun ⟨g, cap, cur, hv, hb', rest⟩ => ⟨g, cap, cur, hv, Nat.le_trans hb hb', rest⟩⟩
theorem tu_false {gs : List Int} {us : List Bool} {k : Nat} (h : us[k]? = some false) : takenUpto gs us (k + 1) = takenUpto gs us k := by simp [takenUpto, h]
theorem tu_true {gs : List Int} {us : List Bool} {k : Nat} {x : Int} (h : us[k]? = some true) (hx : gs[k]? = some x) : takenUpto gs us (k + 1) = takenUpto gs us k ++ [((k : Int), x)] := by simp [takenUpto, h, hx]
set_option maxRecDepth 100000 in
set_option maxHeartbeats 4000000 in
theorem rall_c (a1 a2 a3 : Option Addr) (c1 c2 c3 L1 L2 L3 : Nat) (s : Sl) (h1 : s.g.length = L1) (h2 : s.u.length = L2) (h3 : s.f.length = L3) (l3 : L3 ≤ 1000) (w : World) (h : SlotsAt w.heap.size w a1 a2 a3 s.g s.u s.f) :
    Calls Try.prog 21 #[.agg #[.slice a1 L1 c1, .slice a2 L2 c2, .slice a3 L3 c3]] w fun e w' => ∃ v, e = .returned v ∧ OwnH w.heap.size w' v s.all ∧ Below w.heap.size w w' := by
  have HR := Lib.hid (fun W (hb : Below w.heap.size w W) => rright_c a1 a2 a3 c1 c2 c3 L1 L2 L3 s h1 h2 h3 l3 W ((h.below hb).mono hb.size))
  have hB : Below w.heap.size w (w.alloc (.cells #[.slice a1 L1 c1, .slice a2 L2 c2, .slice a3 L3 c3] 25)) := below_alloc w _
  have hz : (w.alloc (.cells #[.slice a1 L1 c1, .slice a2 L2 c2, .slice a3 L3 c3] 25)).heap.size = w.heap.size + 1 := by simp
  have x0 : (w.alloc (.cells #[.slice a1 L1 c1, .slice a2 L2 c2, .slice a3 L3 c3] 25)).cell? ⟨w.heap.size, 0, none⟩ = some (.slice a1 L1 c1) := by go_simp
  have x1 : (w.alloc (.cells #[.slice a1 L1 c1, .slice a2 L2 c2, .slice a3 L3 c3] 25)).cell? ⟨w.heap.size, 1, none⟩ = some (.slice a2 L2 c2) := by go_simp
  have x2 : (w.alloc (.cells #[.slice a1 L1 c1, .slice a2 L2 c2, .slice a3 L3 c3] 25)).cell? ⟨w.heap.size, 2, none⟩ = some (.slice a3 L3 c3) := by go_simp
  have HB := Lib.hid hB
  have HS := Lib.hid (h.below hB)
  clear h hB
  unfold Sl.all
  cases hr : s.right
  · rw [hr] at HR
    rw [if_neg (by decide)]
    clear h1 h2 h3
    by_cases h0 : L1 = 0
    · subst h0
      go_enter Try.func21, Try.ntmps21
      go_wp2_with fail
      refine wp_loop_rounds 1 ?_
      rw [rounds_succ]
      go_wp2_with fail
      go_ret
      exact ⟨_, rfl, World.ownsRow_nil _ _ _ _, HB.out⟩
    · have hlt : (0 : Int) < (L1 : Int) := by omega
      have hlt2 : 0 < L1 := by omega
      go_enter Try.func21, Try.ntmps21
      go_wp2_with fail
      refine wp_loop_rounds 1 ?_
      rw [rounds_succ]
      go_wp2_with (go_at_call 15; refine (HR.out _ HB.out).mono ?_; rintro e w1 ⟨rfl, hb⟩)
      go_ret
      exact ⟨_, rfl, World.ownsRow_nil _ _ _ _, btr HB.out hb⟩
  rw [hr] at HR
  rw [if_pos rfl]
  have R := (right_iff s).1 hr
  obtain rfl : L1 = L2 := by have := R.l3; omega
  have l2 : L1 ≤ 64 := by have := R.l2; omega
  have HL := Lib.hid (And.intro h1 h2)
  obtain ⟨i0, hi0, hz0, hz1, hz2⟩ := info_parts info27
  clear h1 h2 h3 R
  go_enter Try.func21, Try.ntmps21
  go_wp2_with fail
  obtain ⟨n0, hn0⟩ : ∃ n, (w.alloc (.cells #[.slice a1 L1 c1, .slice a2 L1 c2, .slice a3 L3 c3] 25)).heap.size = n := ⟨_, rfl⟩
  obtain ⟨T, hT⟩ : ∃ T, w.heap.size = T := ⟨_, rfl⟩
  have HTT := Lib.hid hT
  rw [hn0] at hz
  rw [hT] at x0 x1 x2 hz HS ⊢
  have HN0 := Lib.hid hn0
  generalize (w.alloc (.cells #[.slice a1 L1 c1, .slice a2 L1 c2, .slice a3 L3 c3] 25)) = V at *
  have HC := Lib.hid (And.intro x0 (And.intro x1 x2))
  clear hn0
  go_loopw [3, 4] (fun o i wr => Hid (Below n0 V wr) ∧ ∃ (k : Nat) (m : Option Addr) (d : Nat), k ≤ L1 ∧ i = .int .i64 (k : Int) ∧ o = .slice m (takenUpto s.g s.u k).length d ∧ Hid (OwnH n0 wr (.slice m (takenUpto s.g s.u k).length d) (takenUpto s.g s.u k))) (fun _ i _ => L1 - (intOf i).toNat)
  case atStart => exact ⟨Lib.hid (Below.refl _ _), 0, _, _, Nat.zero_le _, rfl, rfl, Lib.hid (World.ownsRow_nil _ _ _ _)⟩
  case round =>
    clear x0 x1 x2
    obtain ⟨HW, k, m, d, hk, rfl, rfl, HO⟩ := hrel
    have x0 := (HW.out.cell (p := ⟨T, 0, none⟩) (show T < _ by omega)).trans HC.out.1
    have x1 := (HW.out.cell (p := ⟨T, 1, none⟩) (show T < _ by omega)).trans HC.out.2.1
    have x2 := (HW.out.cell (p := ⟨T, 2, none⟩) (show T < _ by omega)).trans HC.out.2.2
    have HWw := Lib.hid (HB.out.trans (HW.out.mono (show w.heap.size ≤ n0 by have := HTT.out; omega)))
    have hwz : n0 ≤ wr.heap.size := by have := HW.out.size; have := HN0.out; omega
    by_cases hlt : k < L1
    · have hkg : k < s.g.length := by have := HL.out; omega
      have hku : k < s.u.length := by have := HL.out; omega
      have hlt' : (k : Int) < (L1 : Int) := by omega
      have HS2 := Lib.hid (HS.out.below (HW.out.mono (by omega)))
      obtain ⟨b1, o1, rfl, q1, g0⟩ := HS2.out.g k hkg
      obtain ⟨b2, o2, rfl, q2, u0⟩ := HS2.out.u k hku
      have HG := Lib.hid (List.getElem?_eq_getElem hkg)
      have HU := Lib.hid (List.getElem?_eq_getElem hku)
      generalize s.g[k] = x at *
      generalize s.u[k] = y at *
      have hml : (takenUpto s.g s.u k).length ≤ 64 := Nat.le_trans (takenUpto_length_le _ _ _) (by omega)
      clear hkg hku HS2 q1 q2
      obtain ⟨m6, hm6⟩ : ∃ m6, (takenUpto s.g s.u k).length = m6 := ⟨_, rfl⟩
      have HM := Lib.hid hm6
      rw [hm6] at HO hml ⊢
      clear hm6
      cases y
      case false =>
        go_wp2_with (go_at_call 15; refine (HR.out _ HWw.out).mono ?_; rintro e w1 ⟨rfl, hb⟩
                     replace x0 := (hb.cell (p := ⟨T, 0, none⟩) (blt x0)).trans x0
                     replace x1 := (hb.cell (p := ⟨T, 1, none⟩) (blt x1)).trans x1
                     replace x2 := (hb.cell (p := ⟨T, 2, none⟩) (blt x2)).trans x2
                     replace g0 := (hb.cell (p := ⟨b1, o1 + k, none⟩) (blt g0)).trans g0
                     replace u0 := (hb.cell (p := ⟨b2, o2 + k, none⟩) (blt u0)).trans u0
                     have hw1 := Nat.le_trans hwz hb.size
                     have HO1 := Lib.hid (HO.out.on hb)
                     have HOR := Lib.hid (show w1.ownsRow n0 27 2 (.slice m m6 d) m6 (handCells (takenUpto s.g s.u k)) by have := HO1.out; unfold OwnH at this; rw [HM.out] at this; exact this)
                     have HOL := Lib.hid (fun r e => (HO1.out.lt r e).1)
                     have HW1 := Lib.hid (HW.out.trans (hb.mono hwz))
                     clear hb HO HW HR HWw hwz)
        go_roundw
        case rel => exact ⟨HW1, k + 1, m, d, by omega, by go_num, by rw [tu_false HU.out, HM.out], by rw [tu_false HU.out, HM.out]; exact HO1⟩
        case measure => simp [intOf]; omega
      case true =>
        go_wp2_with (first
          | (go_at_call 15; refine (HR.out _ HWw.out).mono ?_; rintro e w1 ⟨rfl, hb⟩
             replace x0 := (hb.cell (p := ⟨T, 0, none⟩) (blt x0)).trans x0
             replace x1 := (hb.cell (p := ⟨T, 1, none⟩) (blt x1)).trans x1
             replace x2 := (hb.cell (p := ⟨T, 2, none⟩) (blt x2)).trans x2
             replace g0 := (hb.cell (p := ⟨b1, o1 + k, none⟩) (blt g0)).trans g0
             replace u0 := (hb.cell (p := ⟨b2, o2 + k, none⟩) (blt u0)).trans u0
             have hw1 := Nat.le_trans hwz hb.size
             have HO1 := Lib.hid (HO.out.on hb)
             have HOR := Lib.hid (show w1.ownsRow n0 27 2 (.slice m m6 d) m6 (handCells (takenUpto s.g s.u k)) by have := HO1.out; unfold OwnH at this; rw [HM.out] at this; exact this)
             have HOL := Lib.hid (fun r e => (HO1.out.lt r e).1)
             have HW1 := Lib.hid (HW.out.trans (hb.mono hwz))
             clear hb HO HW HR HWw hwz)
          | (refine wpList_append_lies _ rfl _ _ _ rfl n0 27 i0 _ 2 16 Try.underlying37 hi0 hz0 hz1 hz2 rfl (by omega) (.slice m m6 d) m6 (handCells (takenUpto s.g s.u k)) rfl (HOR.out.alloc _) ⟨w1.heap.size, 0, none⟩ 1 1 [.int .i64 (k : Int), .int .i64 x] rfl (by rfl) (cell_two_new _ _ _ _) (by simp [Value.oneCell']) (by omega) (by simp [maxLen]; omega) (by omega) (by simp; omega) _ rfl ?_; intro gg cap1 w5 hown hgrow hat hlt5
             have HOW := Lib.hid hown
             have HGW := Lib.hid hgrow
             clear hown hgrow hat))
        go_roundw
        case rel => exact ⟨Lib.hid ((HW1.out.alloc hw1 _).grown HGW.out (by simp; omega) (fun r e => HOL.out r e)), k + 1, some ⟨gg, 0, none⟩, cap1, by omega, by go_num, by rw [tu_true HU.out HG.out, List.length_append, HM.out]; rfl, by
          rw [tu_true HU.out HG.out, List.length_append, HM.out]
          exact Lib.hid (show OwnH n0 w5 _ _ by unfold OwnH; rw [List.length_append, HM.out, handCells_snoc]; exact HOW.out)⟩
        case measure => simp [intOf]; omega
    · obtain rfl : L1 = k := by omega
      have hlt' : ¬ (L1 : Int) < (L1 : Int) := by omega
      go_wp2_with fail
      go_ret
      have hTO : takenUpto s.g s.u L1 = takenOf s.g s.u := by unfold takenOf; rw [HL.out.2]
      have HF1 : OwnH n0 wr (.slice m (takenUpto s.g s.u L1).length d) (takenOf s.g s.u) := by have := HO.out; rw [hTO] at this ⊢; exact this
      have HF := HF1.mono (show w.heap.size ≤ n0 by have := HTT.out; omega)
      have hBF := HWw.out
      rw [HTT.out] at HF hBF
      exact ⟨_, rfl, HF, hBF⟩
end Go.Proofs.Ytbalebnhjpjhgaa.L9

/- The document's Handles. -/
namespace Go.Proofs.Ytbalebnhjpjhgaa.L9
open Go.RowKit Go.Shelf
attribute [local go_sem] Oper.semAt_some
set_option linter.unusedSimpArgs false
set_option linter.unusedVariables false
theorem handCells_get (l : List (Int × Int)) (i : Nat) (x : Int × Int) (h : l[i]? = some x) : (handCells l)[i * 2]? = some (.int .i64 x.1) ∧ (handCells l)[i * 2 + 1]? = some (.int .i64 x.2) := by
  induction l generalizing i with
  | nil => simp at h
  | cons y r ih =>
    cases i with
    | zero => simp at h; subst h; simp [handCells]
    | succ i =>
      simp at h
      have := ih i h
      have e : (i + 1) * 2 = i * 2 + 2 := by omega
      rw [e]
      simpa [handCells] using this
theorem OwnH.cells {base : Nat} {w : World} {v : Value} {l : List (Int × Int)} (h : OwnH base w v l) (hl : 0 < l.length) : ∃ G cap, v = .slice (some ⟨G, 0, none⟩) l.length cap ∧ G < w.heap.size ∧
    ∀ i x, l[i]? = some x → w.cell? ⟨G, i * 2, none⟩ = some (.int .i64 x.1) ∧ w.cell? ⟨G, i * 2 + 1, none⟩ = some (.int .i64 x.2) := by
  obtain ⟨G, cap, rfl, _, hG⟩ := World.ownsRow.form h hl
  refine ⟨G, cap, rfl, hG, fun i x hx => ?_⟩
  have hi := (List.getElem?_eq_some_iff.1 hx).1
  obtain ⟨q1, q2⟩ := handCells_get l i x hx
  exact ⟨(World.ownsRow.cellAt h (i * 2) (by omega)).trans q1, (World.ownsRow.cellAt h (i * 2 + 1) (by omega)).trans q2⟩
def HandAt (n₀ : Nat) (W : World) (a : Option Addr) (l : List (Int × Int)) : Prop :=
  ∀ i, (h : i < l.length) → ∃ b off, a = some ⟨b, off, none⟩ ∧ b < n₀ ∧ W.cell? ⟨b, off + i * 2, none⟩ = some (.int .i64 l[i].1) ∧ W.cell? ⟨b, off + i * 2 + 1, none⟩ = some (.int .i64 l[i].2)
theorem HandAt.below {n₀ : Nat} {A B : World} (h : Below n₀ A B) {a : Option Addr} {zs : List (Int × Int)} (k : HandAt n₀ A a zs) : HandAt n₀ B a zs := fun i hi => by
  obtain ⟨b, off, e, hb, hc, hd⟩ := k i hi
  exact ⟨b, off, e, hb, (h.cell (p := ⟨b, off + i * 2, none⟩) hb).trans hc, (h.cell (p := ⟨b, off + i * 2 + 1, none⟩) hb).trans hd⟩
theorem OwnH.form {base : Nat} {w : World} {v : Value} {l : List (Int × Int)} (h : OwnH base w v l) : ∃ a c, v = .slice a l.length c ∧ HandAt w.heap.size w a l := by
  by_cases hl : 0 < l.length
  · obtain ⟨G, cap, rfl, hG, hc⟩ := OwnH.cells h hl
    exact ⟨_, _, rfl, fun i hi => ⟨G, 0, rfl, hG, by rw [Nat.zero_add]; exact (hc i _ (List.getElem?_eq_getElem hi)).1, by rw [Nat.zero_add]; exact (hc i _ (List.getElem?_eq_getElem hi)).2⟩⟩
  · obtain ⟨c, a, e⟩ := OwnH.slice h
    exact ⟨a, c, e, fun i hi => by omega⟩
set_option maxRecDepth 100000 in
set_option maxHeartbeats 4000000 in
theorem rhandles_c (a b : Option Addr) (c d : Nat) (xs ys : List (Int × Int)) (w : World) (hx : xs.length ≤ 1000) (hy : ys.length ≤ 1000) (hA : HandAt w.heap.size w a xs) (hB : HandAt w.heap.size w b ys) :
    Calls Try.prog 19 #[.slice a xs.length c, .slice b ys.length d] w fun e w' => e = .returned (.bool (decide (xs = ys))) ∧ Below w.heap.size w w' := by
  by_cases hl : xs.length = ys.length
  · have HA := Lib.hid hA
    have HB := Lib.hid hB
    have HL := Lib.hid hl
    clear hA hB
    rw [← hl]
    clear hl hy
    obtain ⟨N, hN⟩ : ∃ N, xs.length = N := ⟨_, rfl⟩
    have HN := Lib.hid hN
    rw [hN] at hx ⊢
    clear hN
    go_enter Try.func19, Try.ntmps19
    go_wp2
    go_loopw [5] (fun i wr => Hid (Below w.heap.size w wr) ∧ ∃ k : Nat, k ≤ N ∧ i = .int .i64 (k : Int) ∧ xs.take k = ys.take k) (fun i _ => N - (intOf i).toNat)
    case atStart => exact ⟨Lib.hid (Below.refl _ _), 0, Nat.zero_le _, rfl, rfl⟩
    case round =>
      obtain ⟨HW, k, hk, rfl, ht⟩ := hrel
      by_cases hlt : k < N
      · have hkx : k < xs.length := by have := HN.out; omega
        have hky : k < ys.length := by have := HN.out; have := HL.out; omega
        obtain ⟨b1, o1, rfl, _, p1⟩ := (HA.out.below HW.out) k hkx
        have q1 := p1.2
        replace p1 := p1.1
        obtain ⟨b2, o2, rfl, _, p2⟩ := (HB.out.below HW.out) k hky
        have q2 := p2.2
        replace p2 := p2.1
        have hlt' : (k : Int) < (N : Int) := by omega
        have HT := Lib.hid ht
        have HS := Lib.hid (And.intro (List.take_succ_eq_append_getElem (l := xs) hkx) (List.take_succ_eq_append_getElem (l := ys) hky))
        have HG := Lib.hid (show xs[k] ≠ ys[k] → xs ≠ ys from fun h e => h (by subst e; rfl))
        generalize xs[k] = x at *
        generalize ys[k] = y at *
        clear ht
        by_cases hxy : x = y
        · subst hxy
          go_wp2
          go_quiet (fail)
          go_wp2
          go_roundw
          case rel => exact ⟨Lib.hid (below_drewN HW.out _), k + 1, by omega, by go_num, by rw [HS.out.1, HS.out.2, HT.out]⟩
          case measure => simp [intOf]; omega
        · have HF := Lib.hid (HG.out hxy)
          obtain ⟨u1, u2⟩ := x
          obtain ⟨z1, z2⟩ := y
          simp only at p1 q1 p2 q2
          by_cases hq : u1 = z1
          · subst hq
            have hq2 : (u2 == z2) = false := by simpa using fun e => hxy (by rw [e])
            have hq3 : ¬ u2 = z2 := fun e => hxy (by rw [e])
            go_wp2
            go_quiet (fail)
            go_wp2
            go_ret
            exact ⟨ret_bool (decide_eq_false HF.out).symm, below_drewN HW.out _⟩
          · have hq2 : (u1 == z1) = false := by simpa using hq
            go_wp2
            go_quiet (fail)
            go_wp2
            go_ret
            exact ⟨ret_bool (decide_eq_false HF.out).symm, below_drewN HW.out _⟩
      · obtain rfl : k = N := by omega
        have he : xs = ys := by
          have h1 := List.take_of_length_le (l := xs) (i := k) (by have := HN.out; omega)
          have h2 := List.take_of_length_le (l := ys) (i := k) (by have := HN.out; have := HL.out; omega)
          rw [← h1, ht, h2]
        have hlt' : ¬ (k : Int) < (k : Int) := by omega
        have HF := Lib.hid he
        clear he ht
        go_wp2
        go_ret
        exact ⟨ret_bool (decide_eq_true HF.out).symm, HW.out⟩
  · have hne : xs ≠ ys := fun e => hl (by rw [e])
    rw [decide_eq_false hne]
    clear hA hB hne
    generalize xs.length = N at *
    generalize ys.length = M at *
    have hl' : ¬ (N : Int) = (M : Int) := by omega
    have hl2 : (((N : Int) == (M : Int)) = false) := by simpa using hl'
    go_enter Try.func19, Try.ntmps19
    go_wp2
    go_ret
    exact ⟨rfl, Below.refl _ _⟩
end Go.Proofs.Ytbalebnhjpjhgaa.L9

/- The document's Take: refused. -/
namespace Go.Proofs.Ytbalebnhjpjhgaa.L9
open Go.RowKit Go.Shelf
attribute [local go_sem] Oper.semAt_some
set_option linter.unusedSimpArgs false
set_option linter.unusedVariables false
set_option maxRecDepth 100000 in
set_option maxHeartbeats 1000000 in
theorem rtake_wrong (a1 a2 a3 : Option Addr) (c1 c2 c3 L1 L2 L3 : Nat) (s : Sl) (h1 : s.g.length = L1) (h2 : s.u.length = L2) (h3 : s.f.length = L3) (l3 : L3 ≤ 1000) (w : World) (h : SlotsAt w.heap.size w a1 a2 a3 s.g s.u s.f) (hr : s.right = false) :
    Calls Try.prog 23 #[.agg #[.slice a1 L1 c1, .slice a2 L2 c2, .slice a3 L3 c3]] w fun e w' => e = .returned (.tuple #[nilV, handV (0, 0), .int .i64 90]) ∧ Below w.heap.size w w' := by
  have H := Lib.hid (fun w hS => rright_c a1 a2 a3 c1 c2 c3 L1 L2 L3 s h1 h2 h3 l3 w hS)
  rw [hr] at H
  have HS := Lib.hid h
  clear h hr h1 h2 h3
  go_enter Try.func23, Try.ntmps23
  go_wp2_with fail
  refine (H.out _ ?_).mono ?_
  · exact HS.out.on ((((Below.refl _ _).alloc (Nat.le_refl _) _).alloc (by simp) _).alloc (by simp; omega) _)
  rintro e w1 ⟨rfl, hb1⟩
  have hz1 := hb1.size
  have hW : Below w.heap.size w w1 := ((((Below.refl _ _).alloc (Nat.le_refl _) _).alloc (by simp) _).alloc (by simp; omega) _).trans (hb1.mono (by simp; omega))
  have r3 := ((Fr3.new (w.alloc (.cells #[.slice a1 L1 c1, .slice a2 L2 c2, .slice a3 L3 c3] 25)) 25).on ((Below.refl _ _).alloc (Nat.le_refl _) (.cells #[.int .i64 0, .int .i64 0] 27)) (by simp)).on hb1 (by simp)
  have r2 := (Fr2.new ((w.alloc (.cells #[.slice a1 L1 c1, .slice a2 L2 c2, .slice a3 L3 c3] 25)).alloc (.cells #[.slice none 0 0, .slice none 0 0, .slice none 0 0] 25)) 27).on hb1 (by simp)
  simp only [World.size_alloc] at r2 r3 hz1
  obtain ⟨e0, e1, e2, f0, f1, f2⟩ := r3
  obtain ⟨e3, e4, f3, f4⟩ := r2
  clear hb1
  go_wp2
  refine bodyPost_ret (v := .tuple #[nilV, handV (0, 0), .int .i64 90]) (by simp [results, Try.results23, go_sem, nilV, handV, e0, e1, e2, e3, e4]) rfl ⟨rfl, ?_⟩
  exact below_set5 hW (by omega) (by omega) _ _ _ _ _
set_option maxRecDepth 100000 in
set_option maxHeartbeats 4000000 in
theorem rtake_none (a1 a2 a3 : Option Addr) (c1 c2 c3 L1 L2 : Nat) (s : Sl) (h1 : s.g.length = L1) (h2 : s.u.length = L2) (h3 : s.f = []) (w : World) (h : SlotsAt w.heap.size w a1 a2 a3 s.g s.u s.f) (hr : s.right = true) :
    Calls Try.prog 23 #[.agg #[.slice a1 L1 c1, .slice a2 L2 c2, .slice a3 0 c3]] w fun e w' => e = .returned (.tuple #[nilV, handV (0, 0), .int .i64 92]) ∧ Below w.heap.size w w' := by
  have H := Lib.hid (fun w hS => rright_c a1 a2 a3 c1 c2 c3 L1 L2 0 s h1 h2 (by rw [h3]; rfl) (by omega) w hS)
  rw [hr] at H
  have HS := Lib.hid h
  clear h hr h1 h2 h3
  go_enter Try.func23, Try.ntmps23
  go_wp2_with fail
  have hA : Below w.heap.size w (((w.alloc (.cells #[.slice a1 L1 c1, .slice a2 L2 c2, .slice a3 0 c3] 25)).alloc (.cells #[.slice none 0 0, .slice none 0 0, .slice none 0 0] 25)).alloc (.cells #[.int .i64 0, .int .i64 0] 27)) := (((Below.refl _ _).alloc (Nat.le_refl _) _).alloc (by simp) _).alloc (by simp; omega) _
  refine (H.out _ (HS.out.on hA)).mono ?_
  rintro e w1 ⟨rfl, hb1⟩
  have hz1 := hb1.size
  have hW := hA.trans (hb1.mono hA.size)
  have r3 := ((Fr3.new (w.alloc (.cells #[.slice a1 L1 c1, .slice a2 L2 c2, .slice a3 0 c3] 25)) 25).on ((Below.refl _ _).alloc (Nat.le_refl _) (.cells #[.int .i64 0, .int .i64 0] 27)) (by simp)).on hb1 (by simp)
  have r2 := (Fr2.new ((w.alloc (.cells #[.slice a1 L1 c1, .slice a2 L2 c2, .slice a3 0 c3] 25)).alloc (.cells #[.slice none 0 0, .slice none 0 0, .slice none 0 0] 25)) 27).on hb1 (by simp)
  have k0 : w1.cell? ⟨w.heap.size, 0, none⟩ = some (.slice a1 L1 c1) := (hb1.cell (p := ⟨w.heap.size, 0, none⟩) (by simp; omega)).trans (by go_simp)
  have k1 : w1.cell? ⟨w.heap.size, 1, none⟩ = some (.slice a2 L2 c2) := (hb1.cell (p := ⟨w.heap.size, 1, none⟩) (by simp; omega)).trans (by go_simp)
  have k2 : w1.cell? ⟨w.heap.size, 2, none⟩ = some (.slice a3 0 c3) := (hb1.cell (p := ⟨w.heap.size, 2, none⟩) (by simp; omega)).trans (by go_simp)
  simp only [World.size_alloc] at r2 r3 hz1
  clear hb1 hA
  obtain ⟨e0, e1, e2, f0, f1, f2⟩ := r3
  obtain ⟨e3, e4, f3, f4⟩ := r2
  go_wp2_with fail
  go_quiet (fail)
  go_wp2
  refine bodyPost_ret (v := .tuple #[nilV, handV (0, 0), .int .i64 92]) (by simp [results, Try.results23, go_sem, nilV, handV, e0, e1, e2, e3, e4]) rfl ⟨rfl, ?_⟩
  exact below_set5 (below_drewN hW _) (by omega) (by omega) _ _ _ _ _
set_option maxRecDepth 100000 in
set_option maxHeartbeats 4000000 in
theorem rtake_max (a1 a2 a3 : Option Addr) (c1 c2 c3 L1 L2 L3 m k : Nat) (s : Sl) (fs : List Int) (h1 : s.g.length = L1) (h2 : s.u.length = L2) (h3 : s.f.length = L3) (hf : s.f = fs ++ [(k : Int)]) (hm : fs.length = m) (hk : k < L1) (hq : s.g[k]? = some 1000000000) (w : World) (h : SlotsAt w.heap.size w a1 a2 a3 s.g s.u s.f) (hr : s.right = true) :
    Calls Try.prog 23 #[.agg #[.slice a1 L1 c1, .slice a2 L2 c2, .slice a3 L3 c3]] w fun e w' => e = .returned (.tuple #[nilV, handV (0, 0), .int .i64 92]) ∧ Below w.heap.size w w' := by
  obtain ⟨R1, R2, R3, R4, R5, R6, R7, R8⟩ := (right_iff s).1 hr
  clear R5 R6 R7 R8
  have hL3 : L3 = m + 1 := by rw [← h3, hf]; simp [hm]
  have hlast : s.f[m]? = some (k : Int) := by rw [hf, ← hm]; simp
  obtain ⟨b1, o1, rfl, q1, q2⟩ := h.g k (by omega)
  obtain ⟨b3, o3, rfl, q3, q4⟩ := h.f m (by omega)
  clear q1 q2 q3 q4
  have H := Lib.hid (fun w hS => rright_c (some ⟨b1, o1, none⟩) a2 (some ⟨b3, o3, none⟩) c1 c2 c3 L1 L2 L3 s h1 h2 h3 (by omega) w hS)
  rw [hr] at H
  have HS := Lib.hid h
  have hs1 : (L3 : Int) - 1 = (m : Int) := by omega
  have hmm : (m : Int) ≤ 1000 := by omega
  have hm3 : m < L3 := by omega
  have hd0 : decide ((m : Int) < 0) = false := decide_eq_false (by omega)
  have HF := Lib.hid hlast
  have HQ := Lib.hid hq
  clear h hr h1 h2 h3 R1 R2 R3 R4 hf hlast hq hL3 hm
  go_enter Try.func23, Try.ntmps23
  go_wp2_with fail
  have hA : Below w.heap.size w (((w.alloc (.cells #[.slice (some ⟨b1, o1, none⟩) L1 c1, .slice a2 L2 c2, .slice (some ⟨b3, o3, none⟩) L3 c3] 25)).alloc (.cells #[.slice none 0 0, .slice none 0 0, .slice none 0 0] 25)).alloc (.cells #[.int .i64 0, .int .i64 0] 27)) := (((Below.refl _ _).alloc (Nat.le_refl _) _).alloc (by simp) _).alloc (by simp; omega) _
  refine (H.out _ (HS.out.on hA)).mono ?_
  rintro e w1 ⟨rfl, hb1⟩
  have hz1 := hb1.size
  have hW := hA.trans (hb1.mono hA.size)
  have r3 := ((Fr3.new (w.alloc (.cells #[.slice (some ⟨b1, o1, none⟩) L1 c1, .slice a2 L2 c2, .slice (some ⟨b3, o3, none⟩) L3 c3] 25)) 25).on ((Below.refl _ _).alloc (Nat.le_refl _) (.cells #[.int .i64 0, .int .i64 0] 27)) (by simp)).on hb1 (by simp)
  have r2 := (Fr2.new ((w.alloc (.cells #[.slice (some ⟨b1, o1, none⟩) L1 c1, .slice a2 L2 c2, .slice (some ⟨b3, o3, none⟩) L3 c3] 25)).alloc (.cells #[.slice none 0 0, .slice none 0 0, .slice none 0 0] 25)) 27).on hb1 (by simp)
  have k0 : w1.cell? ⟨w.heap.size, 0, none⟩ = some (.slice (some ⟨b1, o1, none⟩) L1 c1) := (hb1.cell (p := ⟨w.heap.size, 0, none⟩) (by simp; omega)).trans (by go_simp)
  have k1 : w1.cell? ⟨w.heap.size, 1, none⟩ = some (.slice a2 L2 c2) := (hb1.cell (p := ⟨w.heap.size, 1, none⟩) (by simp; omega)).trans (by go_simp)
  have k2 : w1.cell? ⟨w.heap.size, 2, none⟩ = some (.slice (some ⟨b3, o3, none⟩) L3 c3) := (hb1.cell (p := ⟨w.heap.size, 2, none⟩) (by simp; omega)).trans (by go_simp)
  simp only [World.size_alloc] at r2 r3 hz1
  clear hb1 hA
  have x1 := IntsAt.get (HS.out.on hW).g HQ.out
  have x3 := IntsAt.get (HS.out.on hW).f HF.out
  obtain ⟨e0, e1, e2, f0, f1, f2⟩ := r3
  obtain ⟨e3, e4, f3, f4⟩ := r2
  go_wp2_with fail
  go_quiet (fail)
  go_wp2
  refine bodyPost_ret (v := .tuple #[nilV, handV (0, 0), .int .i64 92]) (by simp [results, Try.results23, go_sem, nilV, handV, e0, e1, e2, e3, e4]) rfl ⟨rfl, ?_⟩
  exact below_set5 (below_drewN hW _) (by omega) (by omega) _ _ _ _ _
end Go.Proofs.Ytbalebnhjpjhgaa.L9

/- The document's Take. -/
namespace Go.Proofs.Ytbalebnhjpjhgaa.L9
open Go.RowKit Go.Shelf
attribute [local go_sem] Oper.semAt_some
set_option linter.unusedSimpArgs false
set_option linter.unusedVariables false
theorem rown4_c (a1 a2 a3 : Option Addr) (c1 c2 c3 L1 L2 L3 : Nat) (s : Sl) (h1 : s.g.length = L1) (h2 : s.u.length = L2) (h3 : s.f.length = L3) (l1 : L1 ≤ 1000) (l2 : L2 ≤ 1000) (l3 : L3 ≤ 1000) (p1 : 0 < L1) (p2 : 0 < L2) (w : World) (h : SlotsAt w.heap.size w a1 a2 a3 s.g s.u s.f) :
    Calls Try.prog 41 #[.agg #[.slice a1 L1 c1, .slice a2 L2 c2, .slice a3 L3 c3]] w fun e w' => ∃ g1 g2 b3 d1 d2 d3, e = .returned (.agg #[.slice (some ⟨g1, 0, none⟩) L1 d1, .slice (some ⟨g2, 0, none⟩) L2 d2, .slice b3 L3 d3]) ∧
      OwnI w.heap.size w' (.slice (some ⟨g1, 0, none⟩) L1 d1) s.g ∧ OwnB w.heap.size w' (.slice (some ⟨g2, 0, none⟩) L2 d2) s.u ∧ OwnI w.heap.size w' (.slice b3 L3 d3) s.f ∧ (∀ b, Value.ownBlock (.slice (some ⟨g1, 0, none⟩) L1 d1) = some b → Value.ownBlock (.slice b3 L3 d3) ≠ some b) ∧ L3 ≤ d3 ∧ Below w.heap.size w w' := by
  refine (rown_c a1 a2 a3 c1 c2 c3 L1 L2 L3 s h1 h2 h3 l1 l2 l3 w h).mono ?_
  rintro e w' ⟨v1, v2, v3, rfl, o1, o2, o3, hd, hb⟩
  obtain ⟨b1, d1, rfl, _⟩ := o1.form
  obtain ⟨b2, d2, rfl, _⟩ := o2.form
  obtain ⟨b3, d3, rfl, _⟩ := o3.form
  obtain ⟨g1, k1, e1, _, _⟩ := World.ownsRow.form o1 (by omega)
  obtain ⟨g2, k2, e2, _, _⟩ := World.ownsRow.form o2 (by omega)
  simp only [Value.slice.injEq] at e1 e2
  obtain ⟨rfl, _, rfl⟩ := e1
  obtain ⟨rfl, _, rfl⟩ := e2
  rw [h1] at o1 hd ⊢
  rw [h2] at o2 ⊢
  rw [h3] at o3 hd ⊢
  refine ⟨g1, g2, b3, d1, d2, d3, rfl, o1, o2, o3, hd, ?_, hb⟩
  rcases o3.2 with ⟨h', h0⟩ | ⟨g, cap, cur, h', _, _, hc, _⟩
  · omega
  · simp only [Value.slice.injEq] at h'; omega
theorem rown3_c (a1 a2 a3 : Option Addr) (c1 c2 c3 L1 L2 L3 : Nat) (s : Sl) (h1 : s.g.length = L1) (h2 : s.u.length = L2) (h3 : s.f.length = L3) (l1 : L1 ≤ 1000) (l2 : L2 ≤ 1000) (l3 : L3 ≤ 1000) (p1 : 0 < L1) (p2 : 0 < L2) (p3 : 0 < L3) (w : World) (h : SlotsAt w.heap.size w a1 a2 a3 s.g s.u s.f) :
    Calls Try.prog 41 #[.agg #[.slice a1 L1 c1, .slice a2 L2 c2, .slice a3 L3 c3]] w fun e w' => ∃ g1 g2 g3 d1 d2 d3, e = .returned (.agg #[.slice (some ⟨g1, 0, none⟩) L1 d1, .slice (some ⟨g2, 0, none⟩) L2 d2, .slice (some ⟨g3, 0, none⟩) L3 d3]) ∧
      OwnI w.heap.size w' (.slice (some ⟨g1, 0, none⟩) L1 d1) s.g ∧ OwnB w.heap.size w' (.slice (some ⟨g2, 0, none⟩) L2 d2) s.u ∧ OwnI w.heap.size w' (.slice (some ⟨g3, 0, none⟩) L3 d3) s.f ∧ g1 ≠ g3 ∧ L3 ≤ d3 ∧ Below w.heap.size w w' := by
  refine (rown4_c a1 a2 a3 c1 c2 c3 L1 L2 L3 s h1 h2 h3 l1 l2 l3 p1 p2 w h).mono ?_
  rintro e w' ⟨g1, g2, b3, d1, d2, d3, rfl, o1, o2, o3, hd, hl, hb⟩
  obtain ⟨g3, k3, e3, _, _⟩ := World.ownsRow.form o3 (by omega)
  simp only [Value.slice.injEq] at e3
  obtain ⟨rfl, _, rfl⟩ := e3
  exact ⟨g1, g2, g3, d1, d2, d3, rfl, o1, o2, o3, fun e => hd g1 rfl (by rw [e]; rfl), hl, hb⟩
set_option maxRecDepth 100000 in
set_option maxHeartbeats 4000000 in
theorem rtake_ok (a1 a2 a3 : Option Addr) (c1 c2 c3 L1 L2 L3 m k : Nat) (q : Int) (s : Sl) (fs : List Int) (h1 : s.g.length = L1) (h2 : s.u.length = L2) (h3 : s.f.length = L3) (hf : s.f = fs ++ [(k : Int)]) (hm : fs.length = m) (hk : k < L1) (hq : s.g[k]? = some q) (hq0 : 0 ≤ q) (hq1 : q < 1000000000) (w : World) (h : SlotsAt w.heap.size w a1 a2 a3 s.g s.u s.f) (hr : s.right = true) :
    Calls Try.prog 23 #[.agg #[.slice a1 L1 c1, .slice a2 L2 c2, .slice a3 L3 c3]] w fun e w' => ∃ g1 g2 g3 d1 d2 d3, e = .returned (.tuple #[.agg #[.slice (some ⟨g1, 0, none⟩) L1 d1, .slice (some ⟨g2, 0, none⟩) L2 d2, .slice (some ⟨g3, 0, none⟩) m d3], handV ((k : Int), q + 1), .int .i64 0]) ∧
      SlotsAt w'.heap.size w' (some ⟨g1, 0, none⟩) (some ⟨g2, 0, none⟩) (some ⟨g3, 0, none⟩) (s.g.set k (q + 1)) (s.u.set k true) fs ∧ m ≤ d3 ∧ Below w.heap.size w w' := by
  obtain ⟨R1, R2, R3, R4, R5, R6, R7, R8⟩ := (right_iff s).1 hr
  clear R5 R6 R7 R8
  have hL3 : L3 = m + 1 := by rw [← h3, hf]; simp [hm]
  have hlast : s.f[m]? = some (k : Int) := by rw [hf, ← hm]; simp
  obtain ⟨b1, o1, rfl, q1, q2⟩ := h.g k (by omega)
  obtain ⟨b3, o3, rfl, q3, q4⟩ := h.f m (by omega)
  clear q1 q2 q3 q4
  have H := Lib.hid (fun w hS => rright_c (some ⟨b1, o1, none⟩) a2 (some ⟨b3, o3, none⟩) c1 c2 c3 L1 L2 L3 s h1 h2 h3 (by omega) w hS)
  have H2 := Lib.hid (fun w hS => rown3_c (some ⟨b1, o1, none⟩) a2 (some ⟨b3, o3, none⟩) c1 c2 c3 L1 L2 L3 s h1 h2 h3 (by omega) (by omega) (by omega) (by omega) (by omega) (by omega) w hS)
  rw [hr] at H
  have HS := Lib.hid h
  have hs1 : (L3 : Int) - 1 = (m : Int) := by omega
  have hmm : (m : Int) ≤ 1000 := by omega
  have hm3 : m < L3 := by omega
  have hd0 : decide ((m : Int) < 0) = false := decide_eq_false (by omega)
  have hq2 : ¬ q = 1000000000 := by omega
  have hk1 : (k : Int) < (L1 : Int) := by omega
  have hkL2 : k < L2 := by omega
  have hmd : (m : Int) ≤ (L3 : Int) := by omega
  have HF := Lib.hid hlast
  have HF2 := Lib.hid hf
  have HQ := Lib.hid hq
  have HL := Lib.hid h3
  have HL1 := Lib.hid h1
  have HL2 := Lib.hid h2
  have HM := Lib.hid hL3
  clear h hr h1 h2 h3 R1 R2 R3 R4 hf hlast hq hL3 hm
  go_enter Try.func23, Try.ntmps23
  go_wp2_with fail
  have hA : Below w.heap.size w (((w.alloc (.cells #[.slice (some ⟨b1, o1, none⟩) L1 c1, .slice a2 L2 c2, .slice (some ⟨b3, o3, none⟩) L3 c3] 25)).alloc (.cells #[.slice none 0 0, .slice none 0 0, .slice none 0 0] 25)).alloc (.cells #[.int .i64 0, .int .i64 0] 27)) := (((Below.refl _ _).alloc (Nat.le_refl _) _).alloc (by simp) _).alloc (by simp; omega) _
  refine (H.out _ (HS.out.on hA)).mono ?_
  rintro e w1 ⟨rfl, hb1⟩
  have hz1 := hb1.size
  have hW := hA.trans (hb1.mono hA.size)
  have r3 := ((Fr3.new (w.alloc (.cells #[.slice (some ⟨b1, o1, none⟩) L1 c1, .slice a2 L2 c2, .slice (some ⟨b3, o3, none⟩) L3 c3] 25)) 25).on ((Below.refl _ _).alloc (Nat.le_refl _) (.cells #[.int .i64 0, .int .i64 0] 27)) (by simp)).on hb1 (by simp)
  have r2 := (Fr2.new ((w.alloc (.cells #[.slice (some ⟨b1, o1, none⟩) L1 c1, .slice a2 L2 c2, .slice (some ⟨b3, o3, none⟩) L3 c3] 25)).alloc (.cells #[.slice none 0 0, .slice none 0 0, .slice none 0 0] 25)) 27).on hb1 (by simp)
  have k0 : w1.cell? ⟨w.heap.size, 0, none⟩ = some (.slice (some ⟨b1, o1, none⟩) L1 c1) := (hb1.cell (p := ⟨w.heap.size, 0, none⟩) (by simp; omega)).trans (by go_simp)
  have k1 : w1.cell? ⟨w.heap.size, 1, none⟩ = some (.slice a2 L2 c2) := (hb1.cell (p := ⟨w.heap.size, 1, none⟩) (by simp; omega)).trans (by go_simp)
  have k2 : w1.cell? ⟨w.heap.size, 2, none⟩ = some (.slice (some ⟨b3, o3, none⟩) L3 c3) := (hb1.cell (p := ⟨w.heap.size, 2, none⟩) (by simp; omega)).trans (by go_simp)
  simp only [World.size_alloc] at r2 r3 hz1
  clear hb1 hA
  have x1 := IntsAt.get (HS.out.on hW).g HQ.out
  have x3 := IntsAt.get (HS.out.on hW).f HF.out
  go_wp2_with fail
  go_quiet (fail)
  go_wp2_with fail
  refine (H2.out _ (HS.out.on (below_drewN hW nq))).mono ?_
  rintro e w2 ⟨g1, g2, g3, d1, d2, d3, rfl, o1, o2, o3, hd, hcd, hb2⟩
  have hz2 := hb2.size
  simp only [World.heap_drewN] at hz2
  have hW2 := (below_drewN hW nq).trans (hb2.mono (show w.heap.size ≤ _ from (below_drewN hW nq).size))
  have hX : Below w2.heap.size w2 (w2.alloc (.cells #[.slice (some ⟨g1, 0, none⟩) L1 d1, .slice (some ⟨g2, 0, none⟩) L2 d2, .slice (some ⟨g3, 0, none⟩) L3 d3] 25)) := (Below.refl w2.heap.size w2).alloc (Nat.le_refl _) _
  have hbd : Below w1.heap.size w1 w2 := (below_drewN (Below.refl _ _) nq).trans hb2
  obtain ⟨e0, e1, e2, f0, f1, f2⟩ := (r3.on hbd (by omega)).on hX (by omega)
  obtain ⟨e3, e4, f3, f4⟩ := (r2.on hbd (by omega)).on hX (by omega)
  have fr1 := (o1.on hX).frozen HL1.out k
  have fr2 := (o2.on hX).frozen HL2.out k
  have x4 := (o1.on hX).cell HL1.out HQ.out
  have x5 := (o3.on hX).cell HL.out HF.out
  have t0 : (w2.alloc (.cells #[.slice (some ⟨g1, 0, none⟩) L1 d1, .slice (some ⟨g2, 0, none⟩) L2 d2, .slice (some ⟨g3, 0, none⟩) L3 d3] 25)).cell? ⟨w2.heap.size, 0, none⟩ = some (.slice (some ⟨g1, 0, none⟩) L1 d1) := by go_simp
  have t1 : (w2.alloc (.cells #[.slice (some ⟨g1, 0, none⟩) L1 d1, .slice (some ⟨g2, 0, none⟩) L2 d2, .slice (some ⟨g3, 0, none⟩) L3 d3] 25)).cell? ⟨w2.heap.size, 1, none⟩ = some (.slice (some ⟨g2, 0, none⟩) L2 d2) := by go_simp
  have t2 : (w2.alloc (.cells #[.slice (some ⟨g1, 0, none⟩) L1 d1, .slice (some ⟨g2, 0, none⟩) L2 d2, .slice (some ⟨g3, 0, none⟩) L3 d3] 25)).cell? ⟨w2.heap.size, 2, none⟩ = some (.slice (some ⟨g3, 0, none⟩) L3 d3) := by go_simp
  have tf2 : (w2.alloc (.cells #[.slice (some ⟨g1, 0, none⟩) L1 d1, .slice (some ⟨g2, 0, none⟩) L2 d2, .slice (some ⟨g3, 0, none⟩) L3 d3] 25)).frozen? ⟨w2.heap.size, 2, none⟩ = false := by go_simp
  obtain ⟨lo1, hi1⟩ := o1.lt g1 rfl
  obtain ⟨lo2, hi2⟩ := o2.lt g2 rfl
  obtain ⟨lo3, hi3⟩ := o3.lt g3 rfl
  simp only [World.heap_drewN] at lo1 lo2 lo3
  have ne1 : g1 ≠ w2.heap.size := by omega
  have ne2 : g2 ≠ w2.heap.size := by omega
  have ne3 : g3 ≠ w2.heap.size := by omega
  have ne12 : g1 ≠ g2 := own_ne o1 o2
  have ne32 : g3 ≠ g2 := own_ne o3 o2
  have x6 := (o2.on hX).cell HL2.out (List.getElem?_eq_getElem (by rw [HL2.out]; omega))
  have O1 := Lib.hid (o1.on hX)
  have O2 := Lib.hid (o2.on hX)
  have O3 := Lib.hid (o3.on hX)
  have hW3 := hW2.trans (hX.mono hW2.size)
  have hmcd : (m : Int) ≤ (d3 : Int) := by omega
  clear hb2 o1 o2 o3 hW r3 r2 k0 k1 k2 hX x1 x3 hbd
  go_upto_region 7 with fail
  generalize (w2.alloc (.cells #[.slice (some ⟨g1, 0, none⟩) L1 d1, .slice (some ⟨g2, 0, none⟩) L2 d2, .slice (some ⟨g3, 0, none⟩) L3 d3] 25)) = U at *
  go_upto_region 11 with fail
  have O1' := (O1.out.set_ne (B := w2.heap.size) (o := 2) (x := .slice (some ⟨g3, 0, none⟩) m d3) ne1).set_ne (B := g2) (o := k) (x := .bool true) ne12 |>.put HL1.out k (q + 1)
  have O2' := ((O2.out.set_ne (B := w2.heap.size) (o := 2) (x := .slice (some ⟨g3, 0, none⟩) m d3) ne2).put HL2.out k true).set_ne (B := g1) (o := k) (x := .int .i64 (q + 1)) ne12.symm
  have O3' := (O3.out.set_ne (B := w2.heap.size) (o := 2) (x := .slice (some ⟨g3, 0, none⟩) m d3) ne3).set_ne (B := g2) (o := k) (x := .bool true) ne32 |>.set_ne (B := g1) (o := k) (x := .int .i64 (q + 1)) hd.symm
  have nb1 : w.heap.size + 1 ≠ g1 := by omega
  have nb2 : w.heap.size + 1 ≠ g2 := by omega
  have nc1 : w.heap.size + 1 + 1 ≠ g1 := by omega
  have nc2 : w.heap.size + 1 + 1 ≠ g2 := by omega
  have nbT : w.heap.size + 1 ≠ w2.heap.size := by omega
  have ncT : w.heap.size + 1 + 1 ≠ w2.heap.size := by omega
  obtain ⟨V, hV⟩ : ∃ V, V = (((U.setCell ⟨w2.heap.size, 2, none⟩ (.slice (some ⟨g3, 0, none⟩) m d3)).setCell ⟨g2, k, none⟩ (.bool true)).setCell ⟨g1, k, none⟩ (.int .i64 (q + 1))) := ⟨_, rfl⟩
  rw [← hV] at O1' O2' O3' ⊢
  have q0 : V.cell? ⟨w2.heap.size, 0, none⟩ = some (.slice (some ⟨g1, 0, none⟩) L1 d1) := by rw [hV]; go_simp
  have q1 : V.cell? ⟨w2.heap.size, 1, none⟩ = some (.slice (some ⟨g2, 0, none⟩) L2 d2) := by rw [hV]; go_simp
  have q2 : V.cell? ⟨w2.heap.size, 2, none⟩ = some (.slice (some ⟨g3, 0, none⟩) m d3) := by rw [hV]; go_simp
  have x9 : V.cell? ⟨g1, k, none⟩ = some (.int .i64 (q + 1)) := by rw [hV]; go_simp
  have y0 : V.cell? ⟨w.heap.size + 1, 0, none⟩ = some (.slice none 0 0) := by rw [hV]; go_simp
  have y1 : V.cell? ⟨w.heap.size + 1, 1, none⟩ = some (.slice none 0 0) := by rw [hV]; go_simp
  have y2 : V.cell? ⟨w.heap.size + 1, 2, none⟩ = some (.slice none 0 0) := by rw [hV]; go_simp
  have y3 : V.cell? ⟨w.heap.size + 1 + 1, 0, none⟩ = some (.int .i64 0) := by rw [hV]; go_simp
  have y4 : V.cell? ⟨w.heap.size + 1 + 1, 1, none⟩ = some (.int .i64 0) := by rw [hV]; go_simp
  have z0 : V.frozen? ⟨w.heap.size + 1, 0, none⟩ = false := by rw [hV]; go_simp
  have z1 : V.frozen? ⟨w.heap.size + 1, 1, none⟩ = false := by rw [hV]; go_simp
  have z2 : V.frozen? ⟨w.heap.size + 1, 2, none⟩ = false := by rw [hV]; go_simp
  have z3 : V.frozen? ⟨w.heap.size + 1 + 1, 0, none⟩ = false := by rw [hV]; go_simp
  have z4 : V.frozen? ⟨w.heap.size + 1 + 1, 1, none⟩ = false := by rw [hV]; go_simp
  have hBV : Below w.heap.size w V := by
    rw [hV]
    exact ((hW3.setCell (p := ⟨w2.heap.size, 2, none⟩) (show w.heap.size ≤ w2.heap.size by omega) _).setCell (p := ⟨g2, k, none⟩) (show w.heap.size ≤ g2 by omega) _).setCell (p := ⟨g1, k, none⟩) (show w.heap.size ≤ g1 by omega) _
  have hb2 : w.heap.size + 1 < w1.heap.size := by omega
  have hb3 : w.heap.size + 1 + 1 < w1.heap.size := by omega
  have n1 := OwnI.at' ((OwnI.mono (OwnI.dr O1') (base' := w1.heap.size) (Nat.le_refl _)).set5 hb2 hb3 (.slice (some ⟨g1, 0, none⟩) L1 d1) (.slice (some ⟨g2, 0, none⟩) L2 d2) (.slice (some ⟨g3, 0, none⟩) m d3) (.int .i64 k) (.int .i64 (q + 1)))
  have n2 := OwnB.at' ((OwnB.mono (OwnB.dr O2') (base' := w1.heap.size) (Nat.le_refl _)).set5 hb2 hb3 (.slice (some ⟨g1, 0, none⟩) L1 d1) (.slice (some ⟨g2, 0, none⟩) L2 d2) (.slice (some ⟨g3, 0, none⟩) m d3) (.int .i64 k) (.int .i64 (q + 1)))
  have n3 := OwnI.at' ((OwnI.mono (OwnI.dr O3') (base' := w1.heap.size) (Nat.le_refl _)).set5 hb2 hb3 (.slice (some ⟨g1, 0, none⟩) L1 d1) (.slice (some ⟨g2, 0, none⟩) L2 d2) (.slice (some ⟨g3, 0, none⟩) m d3) (.int .i64 k) (.int .i64 (q + 1)))
  rw [HF2.out] at n3
  have n4 := below_set5 (below_drew hBV) (show w.heap.size ≤ w.heap.size + 1 by omega) (show w.heap.size ≤ w.heap.size + 1 + 1 by omega) (.slice (some ⟨g1, 0, none⟩) L1 d1) (.slice (some ⟨g2, 0, none⟩) L2 d2) (.slice (some ⟨g3, 0, none⟩) m d3) (.int .i64 k) (.int .i64 (q + 1))
  have N1 := Lib.hid n1
  have N2x := Lib.hid n2
  have N3 := Lib.hid n3.init
  have N4 := Lib.hid n4
  have hmd3 : m ≤ d3 := by omega
  have HMD := Lib.hid hmd3
  have nT1 : w2.heap.size ≠ w.heap.size + 1 := nbT.symm
  have nT2 : w2.heap.size ≠ w.heap.size + 1 + 1 := ncT.symm
  have nG1 : g1 ≠ w.heap.size + 1 := nb1.symm
  have nG2 : g1 ≠ w.heap.size + 1 + 1 := nc1.symm
  clear hV O1' O2' O3' t0 t1 t2 tf2 fr1 fr2 e0 e1 e2 e3 e4 f0 f1 f2 f3 f4 O1 O2 O3 hW3 hW2 ne1 ne2 ne3 ne12 ne32 lo1 lo2 lo3 hi1 hi2 hi3 hd hcd hmcd hmd hd0 hs1 hmm hm3 hq2 hkL2 x4 x5 x6 n1 n2 n3 n4 hBV hmd3
  obtain ⟨N2, hN2⟩ : ∃ n, w2.heap.size = n := ⟨_, rfl⟩
  rw [hN2] at q0 q1 q2 nT1 nT2 ncT nbT ⊢
  refine wp_region_held_drew (S := fun w' => w'.cell? ⟨N2, 0, none⟩ = some (.slice (some ⟨g1, 0, none⟩) L1 d1) ∧ w'.cell? ⟨N2, 1, none⟩ = some (.slice (some ⟨g2, 0, none⟩) L2 d2) ∧ w'.cell? ⟨N2, 2, none⟩ = some (.slice (some ⟨g3, 0, none⟩) m d3) ∧ w'.cell? ⟨g1, k, none⟩ = some (.int .i64 (q + 1))) (by kernel_rfl) ?_ (fun hHeld => ?_)
  · exact ⟨q0, q1, q2, x9⟩
  change V.drew.cell? _ = _ at y0
  change V.drew.cell? _ = _ at y1
  change V.drew.cell? _ = _ at y2
  change V.drew.cell? _ = _ at y3
  change V.drew.cell? _ = _ at y4
  change V.drew.frozen? _ = _ at z0
  change V.drew.frozen? _ = _ at z1
  change V.drew.frozen? _ = _ at z2
  change V.drew.frozen? _ = _ at z3
  change V.drew.frozen? _ = _ at z4
  generalize V.drew = Vd at *
  refine takeH (i := 0) (some 56) (v := ?_) rfl rfl (by kernel_rfl) (by kernel_rfl) (by kernel_rfl) (fun _ _ _ h => h) (Or.inl ⟨by rfl, ?hytk0⟩) hHeld ?resttk0
  case hytk0 => (intro w hSw; (try dsimp only at hSw); go_simp; (try with_reducible rfl))
  try simp only [Act.put, List.setIfInBounds_toArray, List.set_cons_zero, List.set_cons_succ]
  refine takeH (i := 1) (some 57) (v := ?_) rfl rfl (by kernel_rfl) (by kernel_rfl) (by kernel_rfl) (fun _ _ _ h => h) (Or.inl ⟨by rfl, ?hytk1⟩) hHeld ?resttk1
  case hytk1 => (intro w hSw; (try dsimp only at hSw); go_simp; (try with_reducible rfl))
  try simp only [Act.put, List.setIfInBounds_toArray, List.set_cons_zero, List.set_cons_succ]
  refine takeH (i := 2) (some 58) (v := ?_) rfl rfl (by kernel_rfl) (by kernel_rfl) (by kernel_rfl) (fun _ _ _ h => h) (Or.inl ⟨by rfl, ?hytk2⟩) hHeld ?resttk2
  case hytk2 => (intro w hSw; (try dsimp only at hSw); go_simp; (try with_reducible rfl))
  try simp only [Act.put, List.setIfInBounds_toArray, List.set_cons_zero, List.set_cons_succ]
  refine takeH (i := 3) (some 59) (v := ?_) rfl rfl (by kernel_rfl) (by kernel_rfl) (by kernel_rfl) (fun _ _ _ h => h) (Or.inl ⟨by rfl, ?hytk3⟩) hHeld ?resttk3
  case hytk3 => (intro w hSw; (try dsimp only at hSw); go_simp; (try with_reducible rfl))
  try simp only [Act.put, List.setIfInBounds_toArray, List.set_cons_zero, List.set_cons_succ]
  refine takeH (i := 4) (some 60) (v := ?_) rfl rfl (by kernel_rfl) (by kernel_rfl) (by kernel_rfl) (fun _ _ _ h => h) (Or.inl ⟨by rfl, ?hytk4⟩) hHeld ?resttk4
  case hytk4 => (intro w hSw; (try dsimp only at hSw); go_simp; (try with_reducible rfl))
  try simp only [Act.put, List.setIfInBounds_toArray, List.set_cons_zero, List.set_cons_succ]
  refine takeH (i := 5) (some 61) (v := ?_) rfl rfl (by kernel_rfl) (by kernel_rfl) (by kernel_rfl) (fun _ _ _ h => h) (Or.inl ⟨by rfl, ?hytk5⟩) hHeld ?resttk5
  case hytk5 => (intro w hSw; (try dsimp only at hSw); go_simp; (try with_reducible rfl))
  try simp only [Act.put, List.setIfInBounds_toArray, List.set_cons_zero, List.set_cons_succ]
  refine takeH (i := 6) (some 62) (v := ?_) rfl rfl (by kernel_rfl) (by kernel_rfl) (by kernel_rfl) (fun _ _ _ h => h) (Or.inl ⟨by rfl, ?hytk6⟩) hHeld ?resttk6
  case hytk6 => (intro w hSw; (try dsimp only at hSw); go_simp; (try with_reducible rfl))
  try simp only [Act.put, List.setIfInBounds_toArray, List.set_cons_zero, List.set_cons_succ]
  refine takeH (i := 7) (some 63) (v := ?_) rfl rfl (by kernel_rfl) (by kernel_rfl) (by kernel_rfl) (fun _ _ _ h => h) (Or.inl ⟨by rfl, ?hytk7⟩) hHeld ?resttk7
  case hytk7 => (intro w hSw; (try dsimp only at hSw); go_simp; (try with_reducible rfl))
  try simp only [Act.put, List.setIfInBounds_toArray, List.set_cons_zero, List.set_cons_succ]
  refine wpAnyH_ready (rs := [8]) (by kernel_rfl) (by simp) ?_
  refine AllReadyH.cons rfl (fun K hK => ?_) AllReadyH.nil
  go_simp
  refine hK.out _ _ (by simp only [set_other _ _ nT1, set_other _ _ nG1]; exact hHeld) (fun hHeld => ?_)
  clear hK K
  try simp only [Act.put, List.setIfInBounds_toArray, List.set_cons_zero, List.set_cons_succ]
  refine wpAnyH_ready (rs := [9]) (by kernel_rfl) (by simp) ?_
  refine AllReadyH.cons rfl (fun K hK => ?_) AllReadyH.nil
  go_simp
  refine hK.out _ _ (by simp only [set_other _ _ nT2, set_other _ _ nG2]; exact hHeld) (fun hHeld => ?_)
  clear hK K
  try simp only [Act.put, List.setIfInBounds_toArray, List.set_cons_zero, List.set_cons_succ]
  refine takeH (i := 10) (some 4) (v := ?_) rfl rfl (by kernel_rfl) (by kernel_rfl) (by kernel_rfl) (fun _ _ _ h => h) (Or.inl ⟨by rfl, ?hytk10⟩) hHeld ?resttk10
  case hytk10 => (intro w hSw; (try dsimp only at hSw); go_simp; (try with_reducible rfl))
  try simp only [Act.put, List.setIfInBounds_toArray, List.set_cons_zero, List.set_cons_succ]
  refine wpAnyH_done (by kernel_rfl) ?_ _
  go_wp2
  refine bodyPost_ret (v := .tuple #[.agg #[.slice (some ⟨g1, 0, none⟩) L1 d1, .slice (some ⟨g2, 0, none⟩) L2 d2, .slice (some ⟨g3, 0, none⟩) m d3], handV ((k : Int), q + 1), .int .i64 0]) (by simp [results, Try.results23, go_sem, handV, y0, y1, y2, y3, y4]) rfl ⟨g1, g2, g3, d1, d2, d3, rfl, ⟨N1.out, N2x.out, N3.out⟩, HMD.out, N4.out⟩
end Go.Proofs.Ytbalebnhjpjhgaa.L9
