/- shown: its contract. -/
import Derived.Test.YtbkoldjblkbpeaaDoorL
namespace Go.Proofs.YtbkoldjblkbpeaaDoor
open Go.RowKit Go.Shelf
attribute [local go_sem] Oper.semAt_some

theorem find_c (a : Option Addr) (cap : Nat) (zs : List Opr) (s : ByteArray) (hlen : zs.length ≤ 1000) (w : World) (hI : OprsAt w.heap.size w a zs) :
    Calls Tryd.prog 22 #[.slice a zs.length cap, .string s] w fun e w' => e = .returned (.tuple #[.int .i64 (fndN zs s), .int .i64 (fndE zs s)]) ∧ Below w.heap.size w w' := callsIn_wide.1 (find_in a cap zs s hlen w hI)
theorem right_c (a : Option Addr) (cap : Nat) (zs : List Opr) (hlen : zs.length ≤ 1000) (w : World) (hI : OprsAt w.heap.size w a zs) :
    Calls Tryd.prog 24 #[.slice a zs.length cap] w fun e w' => e = .returned (.bool (rightB zs)) ∧ Below w.heap.size w w' := callsIn_wide.1 (right_in a cap zs hlen w hI)
/-- The row of a role's verbs, as a slice of numbers. -/
theorem verbs_i (r : Int) (l : List Int) (hl : vInts (mayL r) = l) (w : World) : Calls Tryd.prog 19 #[.int .i64 r] w fun x w' => ∃ a cap, x = .returned (.slice a l.length cap) ∧ IntsA w' a l ∧ Below w.heap.size w w' := by
  refine (verbs_c r w).mono ?_
  rintro e w' ⟨v, rfl, hO, hB⟩
  obtain ⟨a, cap, rfl, hA⟩ := hO.row.ints
  rw [hl] at hA ⊢
  exact ⟨a, cap, rfl, hA, hB⟩

theorem verb_at (s : ByteArray) (n e : Int) (h1 : vN s = n) (h2 : vE s = e) (w W : World) (hW : Wd w) (h : Below w.heap.size w W) : Calls Tryd.prog 12 #[.string s] W fun x w' => x = .returned (.tuple #[.int .i64 n, .int .i64 e]) ∧ Below w.heap.size w w' := by
  subst h1 h2
  exact (verb_c s W (hW.on h)).mono (fun _ _ ⟨a, b⟩ => ⟨a, btr h b⟩)
theorem role_at (s : ByteArray) (n e : Int) (hs : s.size ≤ 1000) (h1 : rN s = n) (h2 : rE s = e) (w W : World) (h : Below w.heap.size w W) : Calls Tryd.prog 10 #[.string s] W fun x w' => x = .returned (.tuple #[.int .i64 n, .int .i64 e]) ∧ Below w.heap.size w w' := by
  subst h1 h2
  exact (role_c s hs W).mono (fun _ _ ⟨a, b⟩ => ⟨a, btr h b⟩)
theorem word_at (n : Int) (s : ByteArray) (e : Int) (h1 : wW n = s) (h2 : wE n = e) (w W : World) (hW : Wd w) (h : Below w.heap.size w W) : Calls Tryd.prog 14 #[.int .i64 n] W fun x w' => x = .returned (.tuple #[.string s, .int .i64 e]) ∧ W = w' := by
  subst h1 h2
  exact word_c n W (hW.on h)
theorem may_at (r v : Int) (b : Bool) (h1 : mayB r v = b) (w W : World) (h : Below w.heap.size w W) : Calls Tryd.prog 16 #[.int .i64 r, .int .i64 v] W fun x w' => x = .returned (.bool b) ∧ Below w.heap.size w w' := by
  subst h1
  exact (may_c r v W).mono (fun _ _ ⟨a, b⟩ => ⟨a, btr h b⟩)
theorem find_at (x : Opr) (s : ByteArray) (n e : Int) (h1 : fndN [x] s = n) (h2 : fndE [x] s = e) (w W : World) (b : Nat) (h : Below w.heap.size w W) (hb : b < W.heap.size) (c0 : W.cell? ⟨b, 0, none⟩ = some (.string x.n)) (c1 : W.cell? ⟨b, 1, none⟩ = some (.int .i64 x.r)) :
    Calls Tryd.prog 22 #[.slice (some ⟨b, 0, none⟩) 1 1, .string s] W fun x w' => x = .returned (.tuple #[.int .i64 n, .int .i64 e]) ∧ Below w.heap.size w w' := by
  subst h1 h2
  exact (find_c (some ⟨b, 0, none⟩) 1 [x] s (by simp) W (fun k hk => by
      obtain rfl : k = 0 := Nat.lt_one_iff.1 hk
      exact ⟨b, 0, rfl, hb, c0, c1⟩)).mono (fun _ _ ⟨a, b⟩ => ⟨a, btr h b⟩)
theorem v_kill : vN ⟨#[107, 105, 108, 108]⟩ = 8 ∧ vE ⟨#[107, 105, 108, 108]⟩ = 0 := by decide +kernel
theorem v_Kill : vN ⟨#[75, 105, 108, 108]⟩ = 0 ∧ vE ⟨#[75, 105, 108, 108]⟩ = 121 := by decide +kernel
theorem w_8 : wW 8 = ⟨#[107, 105, 108, 108]⟩ ∧ wE 8 = 0 := by decide +kernel
theorem r_gov : rN ⟨#[103, 111, 118, 101, 114, 110, 111, 114]⟩ = 3 ∧ rE ⟨#[103, 111, 118, 101, 114, 110, 111, 114]⟩ = 0 := by decide +kernel
theorem m_28 : mayB 2 8 = true := by decide +kernel
theorem m_18 : mayB 1 8 = false := by decide +kernel
def annO : Opr := ⟨⟨#[97, 110, 110]⟩, 2, by decide⟩

theorem f_ann : fndN [annO] ⟨#[97, 110, 110]⟩ = 2 ∧ fndE [annO] ⟨#[97, 110, 110]⟩ = 0 := by decide +kernel
theorem l_1 : vInts (mayL 1) = [9, 10] := by decide +kernel

set_option maxRecDepth 100000 in
set_option maxHeartbeats 2000000 in
theorem shown_c (w : World) (hW : Wd w) : Calls Tryd.prog 8 #[] w fun x w' => x = .returned (.bool true) ∧ Below w.heap.size w w' := by
  have V1 := Lib.hid (fun W => verb_at ⟨#[107, 105, 108, 108]⟩ 8 0 v_kill.1 v_kill.2 w W hW)
  have V2 := Lib.hid (fun W => verb_at ⟨#[75, 105, 108, 108]⟩ 0 121 v_Kill.1 v_Kill.2 w W hW)
  have W1 := Lib.hid (fun W => word_at 8 ⟨#[107, 105, 108, 108]⟩ 0 w_8.1 w_8.2 w W hW)
  have R1 := Lib.hid (fun W => role_at ⟨#[103, 111, 118, 101, 114, 110, 111, 114]⟩ 3 0 (by decide) r_gov.1 r_gov.2 w W)
  have F1 := Lib.hid (show ∀ (W : World) b, Below w.heap.size w W → b < W.heap.size → W.cell? ⟨b, 0, none⟩ = some (.string ⟨#[97, 110, 110]⟩) → W.cell? ⟨b, 1, none⟩ = some (.int .i64 2) →
      Calls Tryd.prog 22 #[.slice (some ⟨b, 0, none⟩) 1 1, .string ⟨#[97, 110, 110]⟩] W fun x w' => x = .returned (.tuple #[.int .i64 2, .int .i64 0]) ∧ Below w.heap.size w w' from fun W b => find_at annO ⟨#[97, 110, 110]⟩ 2 0 f_ann.1 f_ann.2 w W b)
  have M1 := Lib.hid (fun W => may_at 2 8 true m_28 w W)
  have M2 := Lib.hid (fun W => may_at 1 8 false m_18 w W)
  have L1 := Lib.hid (show ∀ W, Below w.heap.size w W → Calls Tryd.prog 19 #[.int .i64 1] W fun x w' => ∃ a cap, x = .returned (.slice a 2 cap) ∧ IntsA w' a [9, 10] ∧ Below w.heap.size w w' from fun W h =>
    (verbs_i 1 [9, 10] l_1 W).mono (fun _ _ ⟨a, c, e, hA, b⟩ => ⟨a, c, e, hA, btr h b⟩))
  have I1 := Lib.hid (show ∀ (W : World) a cap b, Below w.heap.size w W → IntsA W a [9, 10] → W.cell? ⟨b, 0, none⟩ = some (.int .i64 9) → W.cell? ⟨b, 1, none⟩ = some (.int .i64 10) →
      Calls Tryd.prog 18 #[.slice a 2 cap, .slice (some ⟨b, 0, none⟩) 2 2] W fun x w' => x = .returned (.bool true) ∧ Below w.heap.size w w' from fun W a cap b h hA h0 h1 =>
    (ints_c a (some ⟨b, 0, none⟩) cap 2 [9, 10] [9, 10] (by decide) W hA (fun k hk => by
      match k, hk with
      | 0, _ => exact ⟨b, rfl, h0⟩
      | 1, _ => exact ⟨b, rfl, h1⟩)).mono (fun _ _ ⟨a, b⟩ => ⟨a, btr h b⟩))
  have HB := Below.refl w.heap.size w
  clear hW
  go_enter Tryd.func8, Tryd.ntmps8
  go_wp2_with (first
    | (go_at_call 12; with_reducible refine (V1.out _ (by with_reducible assumption)).mono ?_; rintro e wn ⟨rfl, hB⟩)
    | (go_at_call 14; with_reducible refine (W1.out _ (by with_reducible assumption)).mono ?_; rintro e wn ⟨rfl, rfl⟩)
    | (go_at_call 10; with_reducible refine (R1.out _ (by with_reducible assumption)).mono ?_; rintro e wn ⟨rfl, hB⟩)
    | (go_at_call 12; with_reducible refine (V2.out _ (by with_reducible assumption)).mono ?_; rintro e wn ⟨rfl, hB⟩)
    | (go_at_call 22; with_reducible refine (F1.out _ _ ?h1 ?h2 ?h3 ?h4).mono ?hk; (case h1 => exact bal (by assumption) _); (case h2 => go_simp); (case h3 => go_simp); (case h4 => go_simp); rintro e wn ⟨rfl, hB⟩)
    | (go_at_call 16; with_reducible refine (M1.out _ (by with_reducible assumption)).mono ?_; rintro e wn ⟨rfl, hB⟩)
    | (go_at_call 16; with_reducible refine (M2.out _ (by with_reducible assumption)).mono ?_; rintro e wn ⟨rfl, hB⟩)
    | (go_at_call 19; with_reducible refine (L1.out _ (by with_reducible assumption)).mono ?_; rintro e wn ⟨a, cap, rfl, hA, hB⟩)
    | (go_at_call 18; go_loud (with_reducible refine (I1.out _ _ _ _ ?i1 ?i2 ?i3 ?i4).mono ?ik); (case i1 => exact bal (by assumption) _); (case i2 => exact IntsA.on (by assumption) (below_alloc _ _)); (case i3 => go_simp); (case i4 => go_simp); rintro e wn ⟨rfl, hB⟩))
  go_ret
  exact ⟨rfl, by assumption⟩
end Go.Proofs.YtbkoldjblkbpeaaDoor
