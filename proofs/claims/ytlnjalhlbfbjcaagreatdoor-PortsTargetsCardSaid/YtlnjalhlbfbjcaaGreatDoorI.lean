/- addr.Parse: its contract. -/
import Derived.Test.YtlnjalhlbfbjcaaGreatDoorH
namespace Go.Proofs.YtlnjalhlbfbjcaaGreatDoor
open Go.RowKit Go.Shelf
attribute [local go_sem] Oper.semAt_some

theorem frozen_gr {b c i : Nat} {w W : World} {v : Value} (g : w.grownBy W (some b)) (hne : c ≠ b) (h : w.cell? ⟨c, i, none⟩ = some v) : W.frozen? ⟨c, i, none⟩ = w.frozen? ⟨c, i, none⟩ :=
  World.frozen?_of_block (w := w) (g.block c (blt h) (by simpa using hne))
def parseN (L : List UInt8) : Int := (parseP L).getD 0
def parseE (L : List UInt8) : Int := if (parseP L).isSome = true then 0 else 60

set_option maxRecDepth 100000 in
set_option maxHeartbeats 2000000 in
theorem parse_c (s : ByteArray) (hsz : s.size ≤ 1000) (w : World) :
    Calls Tryz.prog 36 #[.string s] w fun x w' => x = .returned (.tuple #[.int .i64 (parseN s.data.toList), .int .i64 (parseE s.data.toList)]) ∧ Below w.heap.size w w' := by
  have HA := Lib.hid (fun b c hne W h k0 k1 => all2_c b c hne s hsz 0 W h k0 k1)
  have hR : RdAt w.heap.size s 0 0 (w.alloc (.cells #[.string s, .int .i64 0, .int .i64 0] 82)) := RdAt.mk' (by go_simp) (by go_simp) (by go_simp) (by go_simp) (by go_simp) (by go_simp)
  have HW := Lib.hid (fun o => hR.on (below_alloc (w.alloc (.cells #[.string s, .int .i64 0, .int .i64 0] 82)) o))
  clear hR
  go_enter Tryz.func36, Tryz.ntmps36
  go_wp2_with fail
  refine (HA.out w.heap.size (w.heap.size + 1) (by omega) _ (HW.out _) (by go_simp) (by go_simp)).mono ?_
  rintro x w1 (⟨h, rfl, g⟩ | ⟨a, h, l, u, rfl, g, s1, R1⟩)
  · have hB := (bal (below_alloc w (.cells #[.string s, .int .i64 0, .int .i64 0] 82)) _).grown g (by simp; omega) (fun j hj => by cases hj; exact Nat.le_refl _)
    have H1 := Lib.hid (show parseN s.data.toList = 0 ∧ parseE s.data.toList = 60 by unfold parseN parseE; rw [h]; exact ⟨rfl, rfl⟩)
    clear h g
    go_wp2
    exact bodyPost_ret (v := .tuple #[.int .i64 0, .int .i64 60]) (by simp [results, Tryz.results36, go_sem]) rfl ⟨by rw [H1.out.1, H1.out.2], hB⟩
  · have hB := (bal (below_alloc w (.cells #[.string s, .int .i64 0, .int .i64 0] 82)) _).grown g (by simp; omega) (fun j hj => by cases hj; exact Nat.le_refl _)
    have H1 := Lib.hid (show parseN s.data.toList = a ∧ parseE s.data.toList = 0 by unfold parseN parseE; rw [h]; exact ⟨rfl, rfl⟩)
    have c1 := R1.c1
    clear h g
    go_wp2
    exact bodyPost_ret (v := .tuple #[.int .i64 a, .int .i64 0]) (by simp [results, Tryz.results36, go_sem]) rfl ⟨by rw [H1.out.1, H1.out.2], hB⟩
end Go.Proofs.YtlnjalhlbfbjcaaGreatDoor
