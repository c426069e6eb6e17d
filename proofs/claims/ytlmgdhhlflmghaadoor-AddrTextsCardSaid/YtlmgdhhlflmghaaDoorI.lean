/- Parse, ParsePrefix: their contracts. -/
import Derived.Test.YtlmgdhhlflmghaaDoorH
namespace Go.Proofs.YtlmgdhhlflmghaaDoor
open Go.RowKit Go.Shelf
attribute [local go_sem] Oper.semAt_some

theorem frozen_gr {b c i : Nat} {w W : World} {v : Value} (g : w.grownBy W (some b)) (hne : c ≠ b) (h : w.cell? ⟨c, i, none⟩ = some v) : W.frozen? ⟨c, i, none⟩ = w.frozen? ⟨c, i, none⟩ :=
  World.frozen?_of_block (w := w) (g.block c (blt h) (by simpa using hne))
def parseN (L : List UInt8) : Int := (parseP L).getD 0
def parseE (L : List UInt8) : Int := if (parseP L).isSome = true then 0 else 60

set_option maxRecDepth 100000 in
set_option maxHeartbeats 2000000 in
theorem parse_c (s : ByteArray) (hsz : s.size ≤ 1000) (w : World) :
    Calls Tryd.prog 14 #[.string s] w fun x w' => x = .returned (.tuple #[.int .i64 (parseN s.data.toList), .int .i64 (parseE s.data.toList)]) ∧ Below w.heap.size w w' := by
  have HA := Lib.hid (fun b c hne W h k0 k1 => all2_c b c hne s hsz 0 W h k0 k1)
  have hR : RdAt w.heap.size s 0 0 (w.alloc (.cells #[.string s, .int .i64 0, .int .i64 0] 49)) := ⟨by go_simp, by go_simp, by go_simp, by go_simp, by go_simp, by go_simp⟩
  have HW := Lib.hid (fun o => hR.on (below_alloc (w.alloc (.cells #[.string s, .int .i64 0, .int .i64 0] 49)) o))
  clear hR
  go_enter Tryd.func14, Tryd.ntmps14
  go_wp2_with fail
  refine (HA.out w.heap.size (w.heap.size + 1) (by omega) _ (HW.out _) (by go_simp) (by go_simp)).mono ?_
  rintro x w1 (⟨h, rfl, g⟩ | ⟨a, h, l, u, rfl, g, s1, R1⟩)
  · have hB := (bal (below_alloc w (.cells #[.string s, .int .i64 0, .int .i64 0] 49)) _).grown g (by simp; omega) (fun j hj => by cases hj; exact Nat.le_refl _)
    have H1 := Lib.hid (show parseN s.data.toList = 0 ∧ parseE s.data.toList = 60 by unfold parseN parseE; rw [h]; exact ⟨rfl, rfl⟩)
    clear h g
    go_wp2
    exact bodyPost_ret (v := .tuple #[.int .i64 0, .int .i64 60]) (by simp [results, Tryd.results14, go_sem]) rfl ⟨by rw [H1.out.1, H1.out.2], hB⟩
  · have hB := (bal (below_alloc w (.cells #[.string s, .int .i64 0, .int .i64 0] 49)) _).grown g (by simp; omega) (fun j hj => by cases hj; exact Nat.le_refl _)
    have H1 := Lib.hid (show parseN s.data.toList = a ∧ parseE s.data.toList = 0 by unfold parseN parseE; rw [h]; exact ⟨rfl, rfl⟩)
    have c1 := R1.c1
    clear h g
    go_wp2
    exact bodyPost_ret (v := .tuple #[.int .i64 a, .int .i64 0]) (by simp [results, Tryd.results14, go_sem]) rfl ⟨by rw [H1.out.1, H1.out.2], hB⟩

def ppR (L : List UInt8) : Option (Int × Int) := (prefP L).bind fun x => if rightB x.1 x.2 = true then some x else none
def ppA (L : List UInt8) : Int := match ppR L with
  | none => 0
  | some x => x.1
def ppK (L : List UInt8) : Int := match ppR L with
  | none => 0
  | some x => x.2
def ppE (L : List UInt8) : Int := match ppR L with
  | none => 61
  | some _ => 0

theorem pp_none {L : List UInt8} (h : ppR L = none) : ppA L = 0 ∧ ppK L = 0 ∧ ppE L = 61 := by unfold ppA ppK ppE; rw [h]; exact ⟨rfl, rfl, rfl⟩
theorem pp_some {L : List UInt8} {a k : Int} (h : ppR L = some (a, k)) : ppA L = a ∧ ppK L = k ∧ ppE L = 0 := by unfold ppA ppK ppE; rw [h]; exact ⟨rfl, rfl, rfl⟩

set_option maxRecDepth 100000 in
set_option maxHeartbeats 2000000 in
theorem parsePrefix_c (s : ByteArray) (hsz : s.size ≤ 1000) (w : World) :
    Calls Tryd.prog 18 #[.string s] w fun x w' => x = .returned (.tuple #[.agg #[.int .i64 (ppA s.data.toList), .int .i64 (ppK s.data.toList)], .int .i64 (ppE s.data.toList)]) ∧ Below w.heap.size w w' := by
  have HA := Lib.hid (fun b c hne W h k0 k1 k2 k3 => all4_c b c hne s hsz W h k0 k1 k2 k3)
  have hR : RdAt (w.heap.size + 1) s 0 0 ((w.alloc (.cells #[.int .i64 0, .int .i64 0] 23)).alloc (.cells #[.string s, .int .i64 0, .int .i64 0] 49)) := ⟨by go_simp, by go_simp, by go_simp, by go_simp, by go_simp, by go_simp⟩
  have HW := Lib.hid (fun o => hR.on (below_alloc ((w.alloc (.cells #[.int .i64 0, .int .i64 0] 23)).alloc (.cells #[.string s, .int .i64 0, .int .i64 0] 49)) o))
  have HQ := Lib.hid (fun A K W => right_c A K W)
  clear hR
  go_enter Tryd.func18, Tryd.ntmps18
  go_wp2_with fail
  refine (HA.out (w.heap.size + 1) (w.heap.size + 2) (by omega) _ (HW.out _) (by go_simp) (by go_simp) (by go_simp) (by go_simp)).mono ?_
  rintro x w1 (⟨h, rfl, g⟩ | ⟨a, k, h, rfl, g, s1, R1⟩)
  · have hB := (bal (bal (below_alloc w (.cells #[.int .i64 0, .int .i64 0] 23)) (.cells #[.string s, .int .i64 0, .int .i64 0] 49)) _).grown g (by simp; omega) (fun j hj => by cases hj; exact Nat.le_succ _)
    have c0 := cell_gr (c := w.heap.size) (i := 0) (v := .int .i64 0) g (by omega) (by go_simp)
    have c1 := cell_gr (c := w.heap.size) (i := 1) (v := .int .i64 0) g (by omega) (by go_simp)
    have f0 : w1.frozen? ⟨w.heap.size, 0, none⟩ = false := (frozen_gr (c := w.heap.size) (i := 0) (v := .int .i64 0) g (by omega) (by go_simp)).trans (by go_simp)
    have f1 : w1.frozen? ⟨w.heap.size, 1, none⟩ = false := (frozen_gr (c := w.heap.size) (i := 1) (v := .int .i64 0) g (by omega) (by go_simp)).trans (by go_simp)
    have H1 := Lib.hid (pp_none (show ppR s.data.toList = none by unfold ppR; rw [h]; rfl))
    clear h g
    go_wp2
    exact bodyPost_ret (v := .tuple #[.agg #[.int .i64 0, .int .i64 0], .int .i64 61]) (by simp [results, Tryd.results18, go_sem, c0, c1]) rfl ⟨by rw [H1.out.1, H1.out.2.1, H1.out.2.2], (hB.setCell (p := ⟨w.heap.size, 0, none⟩) (Nat.le_refl _) _).setCell (p := ⟨w.heap.size, 1, none⟩) (Nat.le_refl _) _⟩
  · have hB := (bal (bal (below_alloc w (.cells #[.int .i64 0, .int .i64 0] 23)) (.cells #[.string s, .int .i64 0, .int .i64 0] 49)) _).grown g (by simp; omega) (fun j hj => by cases hj; exact Nat.le_succ _)
    have c0 := cell_gr (c := w.heap.size) (i := 0) (v := .int .i64 0) g (by omega) (by go_simp)
    have c1 := cell_gr (c := w.heap.size) (i := 1) (v := .int .i64 0) g (by omega) (by go_simp)
    have f0 : w1.frozen? ⟨w.heap.size, 0, none⟩ = false := (frozen_gr (c := w.heap.size) (i := 0) (v := .int .i64 0) g (by omega) (by go_simp)).trans (by go_simp)
    have f1 : w1.frozen? ⟨w.heap.size, 1, none⟩ = false := (frozen_gr (c := w.heap.size) (i := 1) (v := .int .i64 0) g (by omega) (by go_simp)).trans (by go_simp)
    have r1 := R1.c1
    have r2 := R1.c2
    have HB := Lib.hid hB
    have d0 := keep_alloc (.cells #[.int .i64 a, .int .i64 k] 23) c0
    have d1 := keep_alloc (.cells #[.int .i64 a, .int .i64 k] 23) c1
    have e0 : (w1.alloc (.cells #[.int .i64 a, .int .i64 k] 23)).frozen? ⟨w.heap.size, 0, none⟩ = false := ((below_alloc w1 _).frozen (p := ⟨w.heap.size, 0, none⟩) (blt c0)).trans f0
    have e1 : (w1.alloc (.cells #[.int .i64 a, .int .i64 k] 23)).frozen? ⟨w.heap.size, 1, none⟩ = false := ((below_alloc w1 _).frozen (p := ⟨w.heap.size, 1, none⟩) (blt c0)).trans f1
    have hlt := blt c0
    cases hr : rightB a k with
    | false =>
      have H1 := Lib.hid (pp_none (show ppR s.data.toList = none by unfold ppR; rw [h]; simp [hr]))
      have HQ' := HQ.out a k
      rw [hr] at HQ'
      have HQ2 := Lib.hid HQ'
      clear h g HQ HQ' hB hr
      go_wp2_with (go_at_call 20; refine (HQ2.out _).mono ?_; rintro x w2 ⟨rfl, hB2⟩; have y0 := (hB2.cell (p := ⟨w.heap.size, 0, none⟩) (blt d0)).trans d0; have y1 := (hB2.cell (p := ⟨w.heap.size, 1, none⟩) (blt d0)).trans d1; have z0 := (hB2.frozen (p := ⟨w.heap.size, 0, none⟩) (blt d0)).trans e0; have z1 := (hB2.frozen (p := ⟨w.heap.size, 1, none⟩) (blt d0)).trans e1)
      have hE := btr (bal HB.out (.cells #[.int .i64 a, .int .i64 k] 23)) hB2
      exact bodyPost_ret (v := .tuple #[.agg #[.int .i64 0, .int .i64 0], .int .i64 61]) (by simp [results, Tryd.results18, go_sem, y0, y1]) rfl ⟨by rw [H1.out.1, H1.out.2.1, H1.out.2.2], (hE.setCell (p := ⟨w.heap.size, 0, none⟩) (Nat.le_refl _) _).setCell (p := ⟨w.heap.size, 1, none⟩) (Nat.le_refl _) _⟩
    | true =>
      have H1 := Lib.hid (pp_some (show ppR s.data.toList = some (a, k) by unfold ppR; rw [h]; simp [hr]))
      have HQ' := HQ.out a k
      rw [hr] at HQ'
      have HQ2 := Lib.hid HQ'
      have p0 : (w1.alloc (.cells #[.int .i64 a, .int .i64 k] 23)).cell? ⟨w1.heap.size, 0, none⟩ = some (.int .i64 a) := by go_simp
      have p1 : (w1.alloc (.cells #[.int .i64 a, .int .i64 k] 23)).cell? ⟨w1.heap.size, 1, none⟩ = some (.int .i64 k) := by go_simp
      clear h g HQ HQ' hB hr
      go_wp2_with (go_at_call 20; refine (HQ2.out _).mono ?_; rintro x w2 ⟨rfl, hB2⟩; have y0 := (hB2.cell (p := ⟨w.heap.size, 0, none⟩) (blt d0)).trans d0; have y1 := (hB2.cell (p := ⟨w.heap.size, 1, none⟩) (blt d0)).trans d1; have z0 := (hB2.frozen (p := ⟨w.heap.size, 0, none⟩) (blt d0)).trans e0; have z1 := (hB2.frozen (p := ⟨w.heap.size, 1, none⟩) (blt d0)).trans e1; have x0 := (hB2.cell (p := ⟨w1.heap.size, 0, none⟩) (blt p0)).trans p0; have x1 := (hB2.cell (p := ⟨w1.heap.size, 1, none⟩) (blt p0)).trans p1)
      have hE := btr (bal HB.out (.cells #[.int .i64 a, .int .i64 k] 23)) hB2
      exact bodyPost_ret (v := .tuple #[.agg #[.int .i64 a, .int .i64 k], .int .i64 0]) (by simp [results, Tryd.results18, go_sem, y0, y1]) rfl ⟨by rw [H1.out.1, H1.out.2.1, H1.out.2.2], (hE.setCell (p := ⟨w.heap.size, 0, none⟩) (Nat.le_refl _) _).setCell (p := ⟨w.heap.size, 1, none⟩) (Nat.le_refl _) _⟩
end Go.Proofs.YtlmgdhhlflmghaaDoor
