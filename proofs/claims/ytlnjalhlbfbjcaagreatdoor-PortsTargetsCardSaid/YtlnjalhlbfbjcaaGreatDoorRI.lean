/- The document's own ParseTarget: its contract. -/
import Derived.Test.YtlnjalhlbfbjcaaGreatDoorRH
namespace Go.Proofs.YtlnjalhlbfbjcaaGreatDoor
open Go.RowKit Go.Shelf
attribute [local go_sem] Oper.semAt_some

structure TgAt (z y : Nat) (F T : Int) (W : World) : Prop where
  ne : z < y
  r0 : W.cell? ⟨z, 0, none⟩ = some (.int .i64 0)
  r1 : W.cell? ⟨z, 1, none⟩ = some (.int .i64 0)
  f0 : W.frozen? ⟨z, 0, none⟩ = false
  f1 : W.frozen? ⟨z, 1, none⟩ = false
  p0 : W.cell? ⟨y, 0, none⟩ = some (.int .i64 F)
  p1 : W.cell? ⟨y, 1, none⟩ = some (.int .i64 T)
  g0 : W.frozen? ⟨y, 0, none⟩ = false
  g1 : W.frozen? ⟨y, 1, none⟩ = false
theorem TgAt.on {z y : Nat} {F T : Int} {W W' : World} (h : TgAt z y F T W) (k : Below W.heap.size W W') : TgAt z y F T W' :=
  have hb := blt h.r0
  have hc := blt h.p0
  ⟨h.ne, (k.cell (p := ⟨z, 0, none⟩) hb).trans h.r0, (k.cell (p := ⟨z, 1, none⟩) hb).trans h.r1, (k.frozen (p := ⟨z, 0, none⟩) hb).trans h.f0, (k.frozen (p := ⟨z, 1, none⟩) hb).trans h.f1,
    (k.cell (p := ⟨y, 0, none⟩) hc).trans h.p0, (k.cell (p := ⟨y, 1, none⟩) hc).trans h.p1, (k.frozen (p := ⟨y, 0, none⟩) hc).trans h.g0, (k.frozen (p := ⟨y, 1, none⟩) hc).trans h.g1⟩
theorem TgAt.set0 {z y : Nat} {F T : Int} {W : World} (h : TgAt z y F T W) (F' : Int) : TgAt z y F' T (W.setCell ⟨y, 0, none⟩ (.int .i64 F')) := by
  obtain ⟨ne, r0, r1, f0, f1, p0, p1, g0, g1⟩ := h
  have n1 : z ≠ y := by omega
  exact ⟨ne, (set_other W _ n1).trans r0, (set_other W _ n1).trans r1, by go_simp, by go_simp, by go_simp, by go_simp, by go_simp, by go_simp⟩
theorem TgAt.set1 {z y : Nat} {F T : Int} {W : World} (h : TgAt z y F T W) (T' : Int) : TgAt z y F T' (W.setCell ⟨y, 1, none⟩ (.int .i64 T')) := by
  obtain ⟨ne, r0, r1, f0, f1, p0, p1, g0, g1⟩ := h
  have n1 : z ≠ y := by omega
  exact ⟨ne, (set_other W _ n1).trans r0, (set_other W _ n1).trans r1, by go_simp, by go_simp, by go_simp, by go_simp, by go_simp, by go_simp⟩
theorem rparseW_c (s : ByteArray) (hsz : s.size ≤ 1000) (w : World) : Calls Tryz.prog 38 #[.string s] w fun x w' => x = .returned (.tuple #[.int .i64 (parseN s.data.toList), .int .i64 (parseE s.data.toList)]) ∧ Below w.heap.size w w' := by
  have := rparse_c s.data.toList hsz w
  rwa [← str_eq (s := s) rfl] at this

def HeldT (L : List UInt8) (A N : Int) : Prop := ∀ a n, tgP L = some (a, n) → A = a ∧ N = n
theorem heldT_none {L : List UInt8} {A N : Int} (hc : cutP 58 L = none) : HeldT L A N := fun a n h => by
  obtain ⟨h1, h2⟩ := tg_iff.1 h
  rw [ptS_ok h1] at h2
  have : (58 : UInt8) ∈ L := by rw [h2]; simp
  exact absurd this (cutP_not hc)
theorem heldT_some {L a b : List UInt8} {m : Int} (hc : cutP 58 L = some (a, b)) (hm : ∀ k, numR 65535 b = some k → m = k) : HeldT L (parseN a) m := fun x n h => by
  obtain ⟨h1, h2⟩ := tg_iff.1 h
  have hp := h1
  simp only [ptOk, Bool.and_eq_true, decide_eq_true_eq] at hp
  rw [ptS_ok h1] at h2
  have e : L = aT x ++ 58 :: Lib.itoa n := by rw [h2]; simp
  have := cutP_some (r := Lib.itoa n) (colon_aT x)
  rw [← e, hc] at this
  cases this
  exact ⟨(parse_some (parse_iff.2 ⟨hp.1, rfl⟩)).1, hm n ((numR_iff (by omega)).2 ⟨by omega, by omega, rfl⟩)⟩
theorem heldT_ok {L : List UInt8} {A N : Int} (hr : ptOk A N = true) (he : ptS A N = L) : tgA L = A ∧ tgN L = N ∧ tgE L = 0 := tg_some (tg_iff.2 ⟨hr, he.symm⟩)
theorem heldT_no {L : List UInt8} {A N : Int} (h : HeldT L A N) (hn : ¬ (ptOk A N = true ∧ ptS A N = L)) : tgA L = 0 ∧ tgN L = 0 ∧ tgE L = 71 := by
  refine tg_none ?_
  cases hp : tgP L with
  | none => rfl
  | some x =>
    obtain ⟨a, n⟩ := x
    obtain ⟨rfl, rfl⟩ := h a n hp
    obtain ⟨h1, h2⟩ := tg_iff.1 hp
    exact absurd ⟨h1, h2.symm⟩ hn
theorem printT_cases (A N : Int) (s : ByteArray) :
    (ptOk A N = true ∧ ptS A N = s.data.toList ∧ ∀ W, Calls Tryz.prog 18 #[.agg #[.int .i64 A, .int .i64 N]] W fun x w' => x = .returned (.tuple #[.string s, .int .i64 0]) ∧ Below W.heap.size W w') ∨
    (¬ (ptOk A N = true ∧ ptS A N = s.data.toList) ∧ ∃ (a : ByteArray) (e : Int), (e = 71 ∨ (e = 0 ∧ ¬ a.toList = s.toList)) ∧ ∀ W, Calls Tryz.prog 18 #[.agg #[.int .i64 A, .int .i64 N]] W fun x w' => x = .returned (.tuple #[.string a, .int .i64 e]) ∧ Below W.heap.size W w') := by
  have HP := fun W => rprintT7_c A N W
  cases hr : ptOk A N with
  | false =>
    exact .inr ⟨by simp, ⟨(ptS A N).toArray⟩, ptE A N, .inl (by unfold ptE; rw [hr]; rfl), HP⟩
  | true =>
    have e : ptE A N = 0 := by unfold ptE; rw [hr]; rfl
    rw [e] at HP
    by_cases h : ptS A N = s.data.toList
    · rw [h, ← str_eq rfl] at HP
      exact .inl ⟨rfl, h, HP⟩
    · refine .inr ⟨fun hh => h hh.2, ⟨(ptS A N).toArray⟩, 0, .inr ⟨rfl, ?_⟩, HP⟩
      rw [ByteArray.toList_eq, ByteArray.toList_eq]
      simpa using h

set_option maxRecDepth 100000 in
set_option maxHeartbeats 4000000 in
theorem rparseT7_c (s : ByteArray) (hsz : s.size ≤ 1000) (w : World) : Calls Tryz.prog 20 #[.string s] w fun x w' => x = .returned (.tuple #[.agg #[.int .i64 (tgA s.data.toList), .int .i64 (tgN s.data.toList)], .int .i64 (tgE s.data.toList)]) ∧ Below w.heap.size w w' := by
  have HC := Lib.hid (fun W => rcutW_c s hsz 58 W)
  go_enter Tryz.func20, Tryz.ntmps20
  go_wp2_with fail
  refine (HC.out _).mono ?_
  rintro x w1 ⟨(⟨hc, rfl⟩ | ⟨a, b, hc, ha, hb, rfl⟩), hb1⟩
  · skip
    have hlt : w.heap.size < w1.heap.size := by have := hb1.size; simp at this; omega
    have K0 : TgAt w.heap.size w1.heap.size 0 0 (w1.alloc (.cells #[.int .i64 0, .int .i64 0] 37)) := ⟨hlt, keep_alloc _ ((hb1.cell (p := ⟨w.heap.size, 0, none⟩) (by simp)).trans (by go_simp)), keep_alloc _ ((hb1.cell (p := ⟨w.heap.size, 1, none⟩) (by simp)).trans (by go_simp)), by have := (hb1.frozen (p := ⟨w.heap.size, 0, none⟩) (by simp)).trans (show (w.alloc (.cells #[.int .i64 0, .int .i64 0] 37)).frozen? ⟨w.heap.size, 0, none⟩ = false by go_simp); go_simp, by have := (hb1.frozen (p := ⟨w.heap.size, 1, none⟩) (by simp)).trans (show (w.alloc (.cells #[.int .i64 0, .int .i64 0] 37)).frozen? ⟨w.heap.size, 1, none⟩ = false by go_simp); go_simp, by go_simp, by go_simp, by go_simp, by go_simp⟩
    have B1 : Below w.heap.size w (w1.alloc (.cells #[.int .i64 0, .int .i64 0] 37)) := bal (btr (below_alloc _ _) hb1) _
    have HPA := Lib.hid (fun W => rparseW_c s hsz W)
    have HNB := Lib.hid (fun W => rnumW_c (⟨#[]⟩ : ByteArray) (by decide) W)
    clear hb1 HC
    generalize hy : w1.heap.size = y at *
    go_wp2_with fail
    generalize (w1.alloc (.cells #[.int .i64 0, .int .i64 0] 37)) = V1 at *
    refine (HPA.out _).mono ?_
    rintro x w2 ⟨rfl, hb2⟩
    have T2 := K0.on hb2
    generalize hpa : parseN s.data.toList = pa at *
    generalize parseE s.data.toList = pe at *
    have T2' := Lib.hid (T2.set0 pa)
    have B2 := Lib.hid ((btr B1 hb2).setCell (p := ⟨y, 0, none⟩) (show w.heap.size ≤ y by omega) (.int .i64 pa))
    obtain ⟨ne, r0, r1, f0, f1, p0, p1, g0, g1⟩ := T2
    clear hb2 K0 B1 HPA
    go_wp2_with fail
    refine (HNB.out _).mono ?_
    rintro x w3 ⟨⟨m, b2, rfl, hm⟩, hb3⟩
    have T3 := T2'.out.on hb3
    have HH := Lib.hid (show HeldT s.data.toList pa m from by exact heldT_none hc)
    have TT := Lib.hid (T3.set1 m)
    have BT := Lib.hid ((btr B2.out hb3).setCell (p := ⟨y, 1, none⟩) (show w.heap.size ≤ y by omega) (.int .i64 m))
    clear r0 r1 f0 f1 p0 p1 g0 g1 ne
    obtain ⟨ne, r0, r1, f0, f1, p0, p1, g0, g1⟩ := T3
    clear hb3 hm hc hpa T2' B2 HNB
    rcases printT_cases pa m s with ⟨hr, he, HP⟩ | ⟨hn9, a9, e9, hae, HP⟩
    · have E3 := Lib.hid (heldT_ok hr he)
      have HP' := Lib.hid HP
      clear HP hr he
      go_wp2_with fail
      refine (HP'.out _).mono ?_
      rintro x w9 ⟨rfl, hb9⟩
      obtain ⟨ne, r0, r1, f0, f1, p0, p1, g0, g1⟩ := TT.out.on hb9
      have BB := Lib.hid (btr BT.out hb9)
      clear hb9
      go_wp2
      exact bodyPost_ret (v := .tuple #[.agg #[.int .i64 pa, .int .i64 m], .int .i64 0]) (by simp [results, Tryz.results20, go_sem, r0, r1]) rfl ⟨by rw [E3.out.1, E3.out.2.1, E3.out.2.2], (BB.out.setCell (p := ⟨w.heap.size, 0, none⟩) (Nat.le_refl _) _).setCell (p := ⟨w.heap.size, 1, none⟩) (Nat.le_refl _) _⟩
    · have E3 := Lib.hid (heldT_no HH.out hn9)
      have HP' := Lib.hid HP
      clear HP hn9
      rcases hae with rfl | ⟨rfl, hae⟩
      all_goals
        try (have hae2 : (a9.toList == s.toList) = false := by simpa using hae)
        go_wp2_with fail
        refine (HP'.out _).mono ?_
        rintro x w9 ⟨rfl, hb9⟩
        obtain ⟨ne, r0, r1, f0, f1, p0, p1, g0, g1⟩ := TT.out.on hb9
        have BB := Lib.hid (btr BT.out hb9)
        clear hb9
        go_wp2
        exact bodyPost_ret (v := .tuple #[.agg #[.int .i64 0, .int .i64 0], .int .i64 71]) (by simp [results, Tryz.results20, go_sem, r0, r1]) rfl ⟨by rw [E3.out.1, E3.out.2.1, E3.out.2.2], (BB.out.setCell (p := ⟨w.heap.size, 0, none⟩) (Nat.le_refl _) _).setCell (p := ⟨w.heap.size, 1, none⟩) (Nat.le_refl _) _⟩
  · skip
    have hlt : w.heap.size < w1.heap.size := by have := hb1.size; simp at this; omega
    have K0 : TgAt w.heap.size w1.heap.size 0 0 (w1.alloc (.cells #[.int .i64 0, .int .i64 0] 37)) := ⟨hlt, keep_alloc _ ((hb1.cell (p := ⟨w.heap.size, 0, none⟩) (by simp)).trans (by go_simp)), keep_alloc _ ((hb1.cell (p := ⟨w.heap.size, 1, none⟩) (by simp)).trans (by go_simp)), by have := (hb1.frozen (p := ⟨w.heap.size, 0, none⟩) (by simp)).trans (show (w.alloc (.cells #[.int .i64 0, .int .i64 0] 37)).frozen? ⟨w.heap.size, 0, none⟩ = false by go_simp); go_simp, by have := (hb1.frozen (p := ⟨w.heap.size, 1, none⟩) (by simp)).trans (show (w.alloc (.cells #[.int .i64 0, .int .i64 0] 37)).frozen? ⟨w.heap.size, 1, none⟩ = false by go_simp); go_simp, by go_simp, by go_simp, by go_simp, by go_simp⟩
    have B1 : Below w.heap.size w (w1.alloc (.cells #[.int .i64 0, .int .i64 0] 37)) := bal (btr (below_alloc _ _) hb1) _
    have HPA := Lib.hid (fun W => rparseW_c a ha W)
    have HNB := Lib.hid (fun W => rnumW_c b hb W)
    clear hb1 HC
    generalize hy : w1.heap.size = y at *
    go_wp2_with fail
    generalize (w1.alloc (.cells #[.int .i64 0, .int .i64 0] 37)) = V1 at *
    refine (HPA.out _).mono ?_
    rintro x w2 ⟨rfl, hb2⟩
    have T2 := K0.on hb2
    generalize hpa : parseN a.data.toList = pa at *
    generalize parseE a.data.toList = pe at *
    have T2' := Lib.hid (T2.set0 pa)
    have B2 := Lib.hid ((btr B1 hb2).setCell (p := ⟨y, 0, none⟩) (show w.heap.size ≤ y by omega) (.int .i64 pa))
    obtain ⟨ne, r0, r1, f0, f1, p0, p1, g0, g1⟩ := T2
    clear hb2 K0 B1 HPA
    go_wp2_with fail
    refine (HNB.out _).mono ?_
    rintro x w3 ⟨⟨m, b2, rfl, hm⟩, hb3⟩
    have T3 := T2'.out.on hb3
    have HH := Lib.hid (show HeldT s.data.toList pa m from by rw [← hpa]; exact heldT_some hc hm)
    have TT := Lib.hid (T3.set1 m)
    have BT := Lib.hid ((btr B2.out hb3).setCell (p := ⟨y, 1, none⟩) (show w.heap.size ≤ y by omega) (.int .i64 m))
    clear r0 r1 f0 f1 p0 p1 g0 g1 ne
    obtain ⟨ne, r0, r1, f0, f1, p0, p1, g0, g1⟩ := T3
    clear hb3 hm hc hpa T2' B2 HNB
    rcases printT_cases pa m s with ⟨hr, he, HP⟩ | ⟨hn9, a9, e9, hae, HP⟩
    · have E3 := Lib.hid (heldT_ok hr he)
      have HP' := Lib.hid HP
      clear HP hr he
      go_wp2_with fail
      refine (HP'.out _).mono ?_
      rintro x w9 ⟨rfl, hb9⟩
      obtain ⟨ne, r0, r1, f0, f1, p0, p1, g0, g1⟩ := TT.out.on hb9
      have BB := Lib.hid (btr BT.out hb9)
      clear hb9
      go_wp2
      exact bodyPost_ret (v := .tuple #[.agg #[.int .i64 pa, .int .i64 m], .int .i64 0]) (by simp [results, Tryz.results20, go_sem, r0, r1]) rfl ⟨by rw [E3.out.1, E3.out.2.1, E3.out.2.2], (BB.out.setCell (p := ⟨w.heap.size, 0, none⟩) (Nat.le_refl _) _).setCell (p := ⟨w.heap.size, 1, none⟩) (Nat.le_refl _) _⟩
    · have E3 := Lib.hid (heldT_no HH.out hn9)
      have HP' := Lib.hid HP
      clear HP hn9
      rcases hae with rfl | ⟨rfl, hae⟩
      all_goals
        try (have hae2 : (a9.toList == s.toList) = false := by simpa using hae)
        go_wp2_with fail
        refine (HP'.out _).mono ?_
        rintro x w9 ⟨rfl, hb9⟩
        obtain ⟨ne, r0, r1, f0, f1, p0, p1, g0, g1⟩ := TT.out.on hb9
        have BB := Lib.hid (btr BT.out hb9)
        clear hb9
        go_wp2
        exact bodyPost_ret (v := .tuple #[.agg #[.int .i64 0, .int .i64 0], .int .i64 71]) (by simp [results, Tryz.results20, go_sem, r0, r1]) rfl ⟨by rw [E3.out.1, E3.out.2.1, E3.out.2.2], (BB.out.setCell (p := ⟨w.heap.size, 0, none⟩) (Nat.le_refl _) _).setCell (p := ⟨w.heap.size, 1, none⟩) (Nat.le_refl _) _⟩
end Go.Proofs.YtlnjalhlbfbjcaaGreatDoor
