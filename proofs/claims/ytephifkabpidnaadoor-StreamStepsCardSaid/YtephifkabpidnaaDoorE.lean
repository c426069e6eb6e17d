/- A move's checks; the first fault of them; the number of a fault. -/
import Derived.Test.YtephifkabpidnaaDoorD
namespace Go.Proofs.YtephifkabpidnaaDoor
open Go.RowKit
attribute [local go_sem] Oper.semAt_some

def errV (b : Bool) (e : Int) : Value := if b = true then .nilIface else faultV e
set_option maxHeartbeats 2000000 in
theorem isFrom_c (s e : Int) (w : World) : Calls Tryd.prog 25 #[.agg #[.int .i64 s, .int .i64 e]] w fun x w' => x = .returned (errV (isSt s) 2) ∧ Below w.heap.size w w' := by
  have hC := fun W => isState_c s W
  generalize isSt s = b at *
  have U := fun W => unless_c b 2 W
  unfold errV
  generalize (if b = true then Value.nilIface else faultV 2) = v at *
  have HC := Lib.hid hC
  have HU := Lib.hid U
  clear hC U
  go_enter Tryd.func25, Tryd.ntmps25
  go_wp2_with (first
    | (go_at_call 29; refine (HC.out _).mono ?_; rintro x w' ⟨rfl, rfl⟩)
    | (go_at_call 34; refine (HU.out _).mono ?_; rintro x w' ⟨rfl, rfl⟩))
  go_ret
  exact ⟨rfl, below_alloc _ _⟩

set_option maxHeartbeats 2000000 in
theorem mayHappen_c (s e : Int) (w : World) : Calls Tryd.prog 26 #[.agg #[.int .i64 s, .int .i64 e]] w fun x w' => x = .returned (errV (goes s e) 140) ∧ Below w.heap.size w w' := by
  have hC := fun W => to_c s e W
  generalize goes s e = b at *
  generalize dest s e = d at *
  have U := fun W => unless_c b 140 W
  unfold errV
  generalize (if b = true then Value.nilIface else faultV 140) = v at *
  have HC := Lib.hid hC
  have HU := Lib.hid U
  clear hC U
  go_enter Tryd.func26, Tryd.ntmps26
  go_wp2_with (first
    | (go_at_call 28; refine (HC.out _).mono ?_; rintro x w1 ⟨rfl, hB⟩)
    | (go_at_call 34; refine (HU.out _).mono ?_; rintro x w' ⟨rfl, rfl⟩))
  go_ret
  exact ⟨rfl, btr (below_alloc _ _) hB⟩

/-- What the two checks of a move tell together. -/
def checkV (s e : Int) : Value := if isSt s = true then errV (goes s e) 140 else faultV 2
set_option maxRecDepth 100000 in
set_option maxHeartbeats 2000000 in
theorem first_c (s e : Int) (b : Nat) (w : World) (h0 : w.cell? ⟨b, 0, none⟩ = some (.func (.func 25) #[.agg #[.int .i64 s, .int .i64 e]] #[])) (h1 : w.cell? ⟨b, 1, none⟩ = some (.func (.func 26) #[.agg #[.int .i64 s, .int .i64 e]] #[])) :
    Calls Tryd.prog 24 #[.slice (some ⟨b, 0, none⟩) 2 2] w fun x w' => x = .returned (checkV s e) ∧ Below w.heap.size w w' := by
  have hb := blt h0
  have h1' : ∀ W, Below w.heap.size w W → W.cell? ⟨b, 1, none⟩ = some (.func (.func 26) #[.agg #[.int .i64 s, .int .i64 e]] #[]) := fun W h => (h.cell (p := ⟨b, 1, none⟩) hb).trans h1
  have H1 := Lib.hid h1'
  clear h1' h1
  have C1 := fun W => isFrom_c s e W
  have C2 := fun W => mayHappen_c s e W
  unfold checkV
  cases hs : isSt s with
  | false =>
    rw [hs] at C1
    simp only [errV, faultV, Bool.false_eq_true, if_false] at C1 ⊢
    have HC := Lib.hid C1
    clear C1 C2 hs H1
    go_enter Tryd.func24, Tryd.ntmps24
    go_wp2
    refine wp_loop_rounds 3 ?_
    rw [rounds_succ]
    go_wp2_with (go_at_call 25; refine (HC.out _).mono ?_; rintro x w1 ⟨rfl, hB1⟩)
    go_ret
    exact ⟨rfl, hB1⟩
  | true =>
    rw [hs] at C1
    simp only [errV, if_true] at C1 ⊢
    have HC := Lib.hid C1
    clear C1 hs
    cases hg : goes s e with
    | false =>
      rw [hg] at C2
      simp only [errV, faultV, Bool.false_eq_true, if_false] at C2 ⊢
      have HD := Lib.hid C2
      clear C2 hg
      go_enter Tryd.func24, Tryd.ntmps24
      go_wp2
      refine wp_loop_rounds 3 ?_
      rw [rounds_succ]
      go_wp2_with (go_at_call 25; refine (HC.out _).mono ?_; rintro x w1 ⟨rfl, hB1⟩)
      have k1 := H1.out w1 hB1
      rw [rounds_succ]
      go_wp2_with (go_at_call 26; refine (HD.out _).mono ?_; rintro x w2 ⟨rfl, hB2⟩)
      go_ret
      exact ⟨rfl, btr hB1 hB2⟩
    | true =>
      rw [hg] at C2
      simp only [errV, if_true] at C2 ⊢
      have HD := Lib.hid C2
      clear C2 hg
      go_enter Tryd.func24, Tryd.ntmps24
      go_wp2
      refine wp_loop_rounds 3 ?_
      rw [rounds_succ]
      go_wp2_with (go_at_call 25; refine (HC.out _).mono ?_; rintro x w1 ⟨rfl, hB1⟩)
      have k1 := H1.out w1 hB1
      rw [rounds_succ]
      go_wp2_with (go_at_call 26; refine (HD.out _).mono ?_; rintro x w2 ⟨rfl, hB2⟩)
      rw [rounds_succ]
      go_wp2
      go_ret
      exact ⟨rfl, btr hB1 hB2⟩

/-- The variable of package errors that is read holds what it holds from the start. -/
def Laid (w : World) : Prop := w.cell? ⟨0, 0, none⟩ = some (.iface 84 (.agg #[.pointer (some ⟨1, 41, none⟩)]))
theorem Laid.on {a w : World} (h : Laid a) (b : Below a.heap.size a w) : Laid w := (b.cell (p := ⟨0, 0, none⟩) (blt h)).trans h

theorem no_nil (w : World) : Calls Tryd.prog 27 #[.nilIface] w fun x w' => x = .returned (.int .i64 0) ∧ w = w' := by
  go_enter Tryd.func27, Tryd.ntmps27
  go_wp2
  go_ret
  exact ⟨rfl, rfl⟩
theorem as_c (e : Int) (t m : Nat) (old : Value) (w : World) (hL : Laid w) (ht0 : w.cell? ⟨t, 0, none⟩ = some old) (hf0 : w.frozen? ⟨t, 0, none⟩ = false) (hm : m ≤ t) :
    Calls Tryd.prog 35 #[.iface 61 (.agg #[.int .i64 e]), .iface 63 (.pointer (some ⟨t, 0, none⟩))] w fun x w' => x = .returned (.bool true) ∧ w'.cell? ⟨t, 0, none⟩ = some (.int .i64 e) ∧ Below m w w' := by
  have hlt := blt ht0
  refine (as_hit e ⟨t, 0, none⟩ old w hL ht0 hf0).mono ?_
  rintro x w' ⟨rfl, rfl⟩
  refine ⟨rfl, World.cell?_setCell_same' _ _ _ ?_, ?_⟩
  · rw [keep_alloc _ (keep_alloc _ (keep_alloc _ (keep_alloc _ ht0)))]; rfl
  · exact ((((((Below.refl m w).alloc (by omega) _).alloc (by simp; omega) _).alloc (by simp; omega) _).alloc (by simp; omega) _).setCell (p := ⟨t, 0, none⟩) hm _)

set_option maxRecDepth 100000 in
set_option maxHeartbeats 2000000 in
theorem no_fault (e : Int) (w : World) (hL : Laid w) : Calls Tryd.prog 27 #[faultV e] w fun x w' => x = .returned (.int .i64 e) ∧ Below w.heap.size w w' := by
  have hg : Laid (w.alloc (.cells #[.int .i64 0] 61)) := hL.on (below_alloc _ _)
  have ht : (w.alloc (.cells #[.int .i64 0] 61)).cell? ⟨w.heap.size, 0, none⟩ = some (.int .i64 0) := by go_simp
  have hf : (w.alloc (.cells #[.int .i64 0] 61)).frozen? ⟨w.heap.size, 0, none⟩ = false := by go_simp
  have hB : Below w.heap.size w (w.alloc (.cells #[.int .i64 0] 61)) := below_alloc _ _
  have H := Lib.hid (as_c e w.heap.size w.heap.size _ _ hg ht hf (Nat.le_refl _))
  have HB := Lib.hid hB
  clear hg ht hf hB
  unfold faultV
  go_enter Tryd.func27, Tryd.ntmps27
  go_wp2_with (go_at_call 35; refine H.out.mono ?_; rintro x w' ⟨rfl, hc, hb⟩)
  go_ret
  exact ⟨rfl, HB.out.trans hb⟩

/-- What Next answers. -/
def nextE (s e : Int) : Int := if isSt s = true then (if goes s e = true then 0 else 140) else 2
def nextN (s e : Int) : Int := if isSt s = true then (if goes s e = true then dest s e else 0) else 0
set_option maxRecDepth 100000 in
set_option maxHeartbeats 2000000 in
theorem next_no (s e : Int) (k : Int) (hk : checkV s e = faultV k) (w : World) (hL : Laid w) : Calls Tryd.prog 12 #[.int .i64 s, .int .i64 e] w fun x w' => x = .returned (.tuple #[.int .i64 0, .int .i64 k]) ∧ Below w.heap.size w w' := by
  have F := Lib.hid (fun b W h0 h1 => first_c s e b W h0 h1)
  rw [hk] at F
  have HL := Lib.hid hL
  have HN := Lib.hid (fun W hW => no_fault k W hW)
  clear hL hk
  simp only [faultV] at F HN
  go_enter Tryd.func12, Tryd.ntmps12
  go_wp2_with fail
  have hA : Below w.heap.size w ((w.alloc (.cells #[.int .i64 s, .int .i64 e] 39)).alloc (.cells #[.func (.func 25) #[.agg #[.int .i64 s, .int .i64 e]] #[], .func (.func 26) #[.agg #[.int .i64 s, .int .i64 e]] #[]] 43)) := bal (below_alloc _ _) _
  refine (F.out (w.heap.size + 1) _ ?_ ?_).mono ?_
  · go_simp
  · go_simp
  rintro x w1 ⟨rfl, hb1⟩
  have hB1 := btr hA hb1
  clear hA hb1 F
  go_wp2_with (go_at_call 27; refine (HN.out _ (HL.out.on hB1)).mono ?_; rintro x w2 ⟨rfl, hb2⟩)
  go_ret2
  exact ⟨rfl, btr hB1 hb2⟩

set_option maxRecDepth 100000 in
set_option maxHeartbeats 2000000 in
theorem next_ok (s e : Int) (hk : checkV s e = .nilIface) (w : World) : Calls Tryd.prog 12 #[.int .i64 s, .int .i64 e] w fun x w' => x = .returned (.tuple #[.int .i64 (dest s e), .int .i64 0]) ∧ Below w.heap.size w w' := by
  have F := Lib.hid (fun b W h0 h1 => first_c s e b W h0 h1)
  rw [hk] at F
  have HN := Lib.hid (fun W => to_c s e W)
  clear hk
  generalize dest s e = d at *
  generalize goes s e = g at *
  go_enter Tryd.func12, Tryd.ntmps12
  go_wp2_with fail
  have hA : Below w.heap.size w ((w.alloc (.cells #[.int .i64 s, .int .i64 e] 39)).alloc (.cells #[.func (.func 25) #[.agg #[.int .i64 s, .int .i64 e]] #[], .func (.func 26) #[.agg #[.int .i64 s, .int .i64 e]] #[]] 43)) := bal (below_alloc _ _) _
  refine (F.out (w.heap.size + 1) _ ?_ ?_).mono ?_
  · go_simp
  · go_simp
  rintro x w1 ⟨rfl, hb1⟩
  have k0 : w1.cell? ⟨w.heap.size, 0, none⟩ = some (.int .i64 s) := (hb1.cell (p := ⟨w.heap.size, 0, none⟩) (by simp; omega)).trans (by go_simp)
  have k1 : w1.cell? ⟨w.heap.size, 1, none⟩ = some (.int .i64 e) := (hb1.cell (p := ⟨w.heap.size, 1, none⟩) (by simp; omega)).trans (by go_simp)
  have hB1 := btr hA hb1
  clear hA hb1 F
  go_wp2_with (go_at_call 28; refine (HN.out _).mono ?_; rintro x w2 ⟨rfl, hb2⟩)
  go_ret2
  exact ⟨rfl, btr hB1 hb2⟩

theorem next_c (s e : Int) (w : World) (hL : Laid w) : Calls Tryd.prog 12 #[.int .i64 s, .int .i64 e] w fun x w' => x = .returned (.tuple #[.int .i64 (nextN s e), .int .i64 (nextE s e)]) ∧ Below w.heap.size w w' := by
  unfold nextN nextE
  cases hs : isSt s with
  | false => exact next_no s e 2 (by unfold checkV; rw [hs]; rfl) w hL
  | true =>
    cases hg : goes s e with
    | false => exact next_no s e 140 (by unfold checkV errV; rw [hs, hg]; rfl) w hL
    | true => exact next_ok s e (by unfold checkV errV; rw [hs, hg]; rfl) w
end Go.Proofs.YtephifkabpidnaaDoor
