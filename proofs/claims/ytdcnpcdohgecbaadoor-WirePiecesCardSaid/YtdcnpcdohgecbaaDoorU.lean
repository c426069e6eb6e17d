/- take. -/
import Derived.Test.YtdcnpcdohgecbaaDoorT
namespace Go.Proofs.YtdcnpcdohgecbaaDoor
open Go.RowKit Go.Shelf
attribute [local go_sem] Oper.semAt_some

set_option maxRecDepth 100000 in
set_option maxHeartbeats 8000000 in
theorem take_no (s : ByteArray) (a : Int) (hs : (s.size : Int) ≤ 4611686018427387904) (c : Int) (htc : tkE s a = c) (hne : ¬ c = 0) (w : World) : Calls Tryd.prog 28 #[.string s, .int .i64 a] w fun x w' => x = .returned (.agg #[.int .i64 0, .int .i64 0, .string ⟨#[]⟩, .int .i64 0, .iface 76 (.agg #[.int .i64 c])]) ∧ Below w.heap.size w w' := by
  have HF := Lib.hid (show ∀ b W, (∀ i, i < 7 → W.cell? ⟨b, i, none⟩ = some (.func (.func (fT i)) #[.agg #[.string s, .int .i64 a]] #[])) → Calls Tryd.prog 34 #[.slice (some ⟨b, 0, none⟩) 7 7] W fun x w' => x = .returned (.iface 76 (.agg #[.int .i64 c])) ∧ Below W.heap.size W w' from fun b W hc => by
    have := first_c 7 (by omega) b fT (fun _ => #[.agg #[.string s, .int .i64 a]]) (fun _ => #[]) (erT s a) W hc (fun i hi hp W' _ => checks_c s a hs i hi hp W') (fun i hi => by match i, hi with | 0, _ => exact fun _ _ => rfl | 1, _ => exact fun _ _ => rfl | 2, _ => exact fun _ _ => rfl | 3, _ => exact fun _ _ => rfl | 4, _ => exact fun _ _ => rfl | 5, _ => exact fun _ _ => rfl | 6, _ => exact fun _ _ => rfl) (fun i _ => erT_form s a i)
    rw [first_is, htc, decide_eq_false hne] at this
    exact this)
  clear hs htc hne
  go_enter Tryd.func28, Tryd.ntmps28
  go_wp2_with fail
  have hB : Below w.heap.size w (((w.alloc (.cells #[.int .i64 0, .int .i64 0, .string ⟨#[]⟩, .int .i64 0, .nilIface] 52)).alloc (.cells #[.string s, .int .i64 a] 70)).alloc (.cells #[.func (.func 35) #[.agg #[.string s, .int .i64 a]] #[], .func (.func 36) #[.agg #[.string s, .int .i64 a]] #[], .func (.func 37) #[.agg #[.string s, .int .i64 a]] #[], .func (.func 38) #[.agg #[.string s, .int .i64 a]] #[], .func (.func 39) #[.agg #[.string s, .int .i64 a]] #[], .func (.func 40) #[.agg #[.string s, .int .i64 a]] #[], .func (.func 41) #[.agg #[.string s, .int .i64 a]] #[]] 72)) := bal (bal (below_alloc w _) _) _
  have t0 : (((w.alloc (.cells #[.int .i64 0, .int .i64 0, .string ⟨#[]⟩, .int .i64 0, .nilIface] 52)).alloc (.cells #[.string s, .int .i64 a] 70)).alloc (.cells #[.func (.func 35) #[.agg #[.string s, .int .i64 a]] #[], .func (.func 36) #[.agg #[.string s, .int .i64 a]] #[], .func (.func 37) #[.agg #[.string s, .int .i64 a]] #[], .func (.func 38) #[.agg #[.string s, .int .i64 a]] #[], .func (.func 39) #[.agg #[.string s, .int .i64 a]] #[], .func (.func 40) #[.agg #[.string s, .int .i64 a]] #[], .func (.func 41) #[.agg #[.string s, .int .i64 a]] #[]] 72)).cell? ⟨w.heap.size + 1, 0, none⟩ = some (.string s) := by go_simp
  have t1 : (((w.alloc (.cells #[.int .i64 0, .int .i64 0, .string ⟨#[]⟩, .int .i64 0, .nilIface] 52)).alloc (.cells #[.string s, .int .i64 a] 70)).alloc (.cells #[.func (.func 35) #[.agg #[.string s, .int .i64 a]] #[], .func (.func 36) #[.agg #[.string s, .int .i64 a]] #[], .func (.func 37) #[.agg #[.string s, .int .i64 a]] #[], .func (.func 38) #[.agg #[.string s, .int .i64 a]] #[], .func (.func 39) #[.agg #[.string s, .int .i64 a]] #[], .func (.func 40) #[.agg #[.string s, .int .i64 a]] #[], .func (.func 41) #[.agg #[.string s, .int .i64 a]] #[]] 72)).cell? ⟨w.heap.size + 1, 1, none⟩ = some (.int .i64 a) := by go_simp
  have r0 : (((w.alloc (.cells #[.int .i64 0, .int .i64 0, .string ⟨#[]⟩, .int .i64 0, .nilIface] 52)).alloc (.cells #[.string s, .int .i64 a] 70)).alloc (.cells #[.func (.func 35) #[.agg #[.string s, .int .i64 a]] #[], .func (.func 36) #[.agg #[.string s, .int .i64 a]] #[], .func (.func 37) #[.agg #[.string s, .int .i64 a]] #[], .func (.func 38) #[.agg #[.string s, .int .i64 a]] #[], .func (.func 39) #[.agg #[.string s, .int .i64 a]] #[], .func (.func 40) #[.agg #[.string s, .int .i64 a]] #[], .func (.func 41) #[.agg #[.string s, .int .i64 a]] #[]] 72)).cell? ⟨w.heap.size, 0, none⟩ = some (.int .i64 0) := by go_simp
  have r1 : (((w.alloc (.cells #[.int .i64 0, .int .i64 0, .string ⟨#[]⟩, .int .i64 0, .nilIface] 52)).alloc (.cells #[.string s, .int .i64 a] 70)).alloc (.cells #[.func (.func 35) #[.agg #[.string s, .int .i64 a]] #[], .func (.func 36) #[.agg #[.string s, .int .i64 a]] #[], .func (.func 37) #[.agg #[.string s, .int .i64 a]] #[], .func (.func 38) #[.agg #[.string s, .int .i64 a]] #[], .func (.func 39) #[.agg #[.string s, .int .i64 a]] #[], .func (.func 40) #[.agg #[.string s, .int .i64 a]] #[], .func (.func 41) #[.agg #[.string s, .int .i64 a]] #[]] 72)).cell? ⟨w.heap.size, 1, none⟩ = some (.int .i64 0) := by go_simp
  have r2 : (((w.alloc (.cells #[.int .i64 0, .int .i64 0, .string ⟨#[]⟩, .int .i64 0, .nilIface] 52)).alloc (.cells #[.string s, .int .i64 a] 70)).alloc (.cells #[.func (.func 35) #[.agg #[.string s, .int .i64 a]] #[], .func (.func 36) #[.agg #[.string s, .int .i64 a]] #[], .func (.func 37) #[.agg #[.string s, .int .i64 a]] #[], .func (.func 38) #[.agg #[.string s, .int .i64 a]] #[], .func (.func 39) #[.agg #[.string s, .int .i64 a]] #[], .func (.func 40) #[.agg #[.string s, .int .i64 a]] #[], .func (.func 41) #[.agg #[.string s, .int .i64 a]] #[]] 72)).cell? ⟨w.heap.size, 2, none⟩ = some (.string ⟨#[]⟩) := by go_simp
  have r3 : (((w.alloc (.cells #[.int .i64 0, .int .i64 0, .string ⟨#[]⟩, .int .i64 0, .nilIface] 52)).alloc (.cells #[.string s, .int .i64 a] 70)).alloc (.cells #[.func (.func 35) #[.agg #[.string s, .int .i64 a]] #[], .func (.func 36) #[.agg #[.string s, .int .i64 a]] #[], .func (.func 37) #[.agg #[.string s, .int .i64 a]] #[], .func (.func 38) #[.agg #[.string s, .int .i64 a]] #[], .func (.func 39) #[.agg #[.string s, .int .i64 a]] #[], .func (.func 40) #[.agg #[.string s, .int .i64 a]] #[], .func (.func 41) #[.agg #[.string s, .int .i64 a]] #[]] 72)).cell? ⟨w.heap.size, 3, none⟩ = some (.int .i64 0) := by go_simp
  have r4 : (((w.alloc (.cells #[.int .i64 0, .int .i64 0, .string ⟨#[]⟩, .int .i64 0, .nilIface] 52)).alloc (.cells #[.string s, .int .i64 a] 70)).alloc (.cells #[.func (.func 35) #[.agg #[.string s, .int .i64 a]] #[], .func (.func 36) #[.agg #[.string s, .int .i64 a]] #[], .func (.func 37) #[.agg #[.string s, .int .i64 a]] #[], .func (.func 38) #[.agg #[.string s, .int .i64 a]] #[], .func (.func 39) #[.agg #[.string s, .int .i64 a]] #[], .func (.func 40) #[.agg #[.string s, .int .i64 a]] #[], .func (.func 41) #[.agg #[.string s, .int .i64 a]] #[]] 72)).cell? ⟨w.heap.size, 4, none⟩ = some .nilIface := by go_simp
  have z0 : (((w.alloc (.cells #[.int .i64 0, .int .i64 0, .string ⟨#[]⟩, .int .i64 0, .nilIface] 52)).alloc (.cells #[.string s, .int .i64 a] 70)).alloc (.cells #[.func (.func 35) #[.agg #[.string s, .int .i64 a]] #[], .func (.func 36) #[.agg #[.string s, .int .i64 a]] #[], .func (.func 37) #[.agg #[.string s, .int .i64 a]] #[], .func (.func 38) #[.agg #[.string s, .int .i64 a]] #[], .func (.func 39) #[.agg #[.string s, .int .i64 a]] #[], .func (.func 40) #[.agg #[.string s, .int .i64 a]] #[], .func (.func 41) #[.agg #[.string s, .int .i64 a]] #[]] 72)).frozen? ⟨w.heap.size, 0, none⟩ = false := by go_simp
  have z1 : (((w.alloc (.cells #[.int .i64 0, .int .i64 0, .string ⟨#[]⟩, .int .i64 0, .nilIface] 52)).alloc (.cells #[.string s, .int .i64 a] 70)).alloc (.cells #[.func (.func 35) #[.agg #[.string s, .int .i64 a]] #[], .func (.func 36) #[.agg #[.string s, .int .i64 a]] #[], .func (.func 37) #[.agg #[.string s, .int .i64 a]] #[], .func (.func 38) #[.agg #[.string s, .int .i64 a]] #[], .func (.func 39) #[.agg #[.string s, .int .i64 a]] #[], .func (.func 40) #[.agg #[.string s, .int .i64 a]] #[], .func (.func 41) #[.agg #[.string s, .int .i64 a]] #[]] 72)).frozen? ⟨w.heap.size, 1, none⟩ = false := by go_simp
  have z2 : (((w.alloc (.cells #[.int .i64 0, .int .i64 0, .string ⟨#[]⟩, .int .i64 0, .nilIface] 52)).alloc (.cells #[.string s, .int .i64 a] 70)).alloc (.cells #[.func (.func 35) #[.agg #[.string s, .int .i64 a]] #[], .func (.func 36) #[.agg #[.string s, .int .i64 a]] #[], .func (.func 37) #[.agg #[.string s, .int .i64 a]] #[], .func (.func 38) #[.agg #[.string s, .int .i64 a]] #[], .func (.func 39) #[.agg #[.string s, .int .i64 a]] #[], .func (.func 40) #[.agg #[.string s, .int .i64 a]] #[], .func (.func 41) #[.agg #[.string s, .int .i64 a]] #[]] 72)).frozen? ⟨w.heap.size, 2, none⟩ = false := by go_simp
  have z3 : (((w.alloc (.cells #[.int .i64 0, .int .i64 0, .string ⟨#[]⟩, .int .i64 0, .nilIface] 52)).alloc (.cells #[.string s, .int .i64 a] 70)).alloc (.cells #[.func (.func 35) #[.agg #[.string s, .int .i64 a]] #[], .func (.func 36) #[.agg #[.string s, .int .i64 a]] #[], .func (.func 37) #[.agg #[.string s, .int .i64 a]] #[], .func (.func 38) #[.agg #[.string s, .int .i64 a]] #[], .func (.func 39) #[.agg #[.string s, .int .i64 a]] #[], .func (.func 40) #[.agg #[.string s, .int .i64 a]] #[], .func (.func 41) #[.agg #[.string s, .int .i64 a]] #[]] 72)).frozen? ⟨w.heap.size, 3, none⟩ = false := by go_simp
  have z4 : (((w.alloc (.cells #[.int .i64 0, .int .i64 0, .string ⟨#[]⟩, .int .i64 0, .nilIface] 52)).alloc (.cells #[.string s, .int .i64 a] 70)).alloc (.cells #[.func (.func 35) #[.agg #[.string s, .int .i64 a]] #[], .func (.func 36) #[.agg #[.string s, .int .i64 a]] #[], .func (.func 37) #[.agg #[.string s, .int .i64 a]] #[], .func (.func 38) #[.agg #[.string s, .int .i64 a]] #[], .func (.func 39) #[.agg #[.string s, .int .i64 a]] #[], .func (.func 40) #[.agg #[.string s, .int .i64 a]] #[], .func (.func 41) #[.agg #[.string s, .int .i64 a]] #[]] 72)).frozen? ⟨w.heap.size, 4, none⟩ = false := by go_simp
  have hcs : ∀ i, i < 7 → (((w.alloc (.cells #[.int .i64 0, .int .i64 0, .string ⟨#[]⟩, .int .i64 0, .nilIface] 52)).alloc (.cells #[.string s, .int .i64 a] 70)).alloc (.cells #[.func (.func 35) #[.agg #[.string s, .int .i64 a]] #[], .func (.func 36) #[.agg #[.string s, .int .i64 a]] #[], .func (.func 37) #[.agg #[.string s, .int .i64 a]] #[], .func (.func 38) #[.agg #[.string s, .int .i64 a]] #[], .func (.func 39) #[.agg #[.string s, .int .i64 a]] #[], .func (.func 40) #[.agg #[.string s, .int .i64 a]] #[], .func (.func 41) #[.agg #[.string s, .int .i64 a]] #[]] 72)).cell? ⟨w.heap.size + 1 + 1, i, none⟩ = some (.func (.func (fT i)) #[.agg #[.string s, .int .i64 a]] #[]) := by
    intro i hi
    match i, hi with
    | 0, _ => go_simp; rfl
    | 1, _ => go_simp; rfl
    | 2, _ => go_simp; rfl
    | 3, _ => go_simp; rfl
    | 4, _ => go_simp; rfl
    | 5, _ => go_simp; rfl
    | 6, _ => go_simp; rfl
  generalize (((w.alloc (.cells #[.int .i64 0, .int .i64 0, .string ⟨#[]⟩, .int .i64 0, .nilIface] 52)).alloc (.cells #[.string s, .int .i64 a] 70)).alloc (.cells #[.func (.func 35) #[.agg #[.string s, .int .i64 a]] #[], .func (.func 36) #[.agg #[.string s, .int .i64 a]] #[], .func (.func 37) #[.agg #[.string s, .int .i64 a]] #[], .func (.func 38) #[.agg #[.string s, .int .i64 a]] #[], .func (.func 39) #[.agg #[.string s, .int .i64 a]] #[], .func (.func 40) #[.agg #[.string s, .int .i64 a]] #[], .func (.func 41) #[.agg #[.string s, .int .i64 a]] #[]] 72)) = U at *
  refine (HF.out _ _ hcs).mono ?_; rintro e w1 ⟨rfl, hb⟩
  clear hcs
  have q0 := (hb.cell (blt r0)).trans r0
  have q1 := (hb.cell (blt r1)).trans r1
  have q2 := (hb.cell (blt r2)).trans r2
  have q3 := (hb.cell (blt r3)).trans r3
  have q4 := (hb.cell (blt r4)).trans r4
  have y0 := (hb.frozen (blt r0)).trans z0
  have y1 := (hb.frozen (blt r1)).trans z1
  have y2 := (hb.frozen (blt r2)).trans z2
  have y3 := (hb.frozen (blt r3)).trans z3
  have y4 := (hb.frozen (blt r4)).trans z4
  have x0 := (hb.cell (blt t0)).trans t0
  have x1 := (hb.cell (blt t1)).trans t1
  have HB := Lib.hid (btr hB hb)
  clear hB hb r0 r1 r2 r3 r4 z0 z1 z2 z3 z4 t0 t1 HF
  clear x0 x1
  go_wp2_with fail
  have e0 : (((((w1.setCell ⟨w.heap.size, 0, none⟩ ((.int .i64 0))).setCell ⟨w.heap.size, 1, none⟩ ((.int .i64 0))).setCell ⟨w.heap.size, 2, none⟩ ((.string ⟨#[]⟩))).setCell ⟨w.heap.size, 3, none⟩ ((.int .i64 0))).setCell ⟨w.heap.size, 4, none⟩ ((.iface 76 (.agg #[.int .i64 c])))).cell? ⟨w.heap.size, 0, none⟩ = some ((.int .i64 0)) := by go_simp
  have e1 : (((((w1.setCell ⟨w.heap.size, 0, none⟩ ((.int .i64 0))).setCell ⟨w.heap.size, 1, none⟩ ((.int .i64 0))).setCell ⟨w.heap.size, 2, none⟩ ((.string ⟨#[]⟩))).setCell ⟨w.heap.size, 3, none⟩ ((.int .i64 0))).setCell ⟨w.heap.size, 4, none⟩ ((.iface 76 (.agg #[.int .i64 c])))).cell? ⟨w.heap.size, 1, none⟩ = some ((.int .i64 0)) := by go_simp
  have e2 : (((((w1.setCell ⟨w.heap.size, 0, none⟩ ((.int .i64 0))).setCell ⟨w.heap.size, 1, none⟩ ((.int .i64 0))).setCell ⟨w.heap.size, 2, none⟩ ((.string ⟨#[]⟩))).setCell ⟨w.heap.size, 3, none⟩ ((.int .i64 0))).setCell ⟨w.heap.size, 4, none⟩ ((.iface 76 (.agg #[.int .i64 c])))).cell? ⟨w.heap.size, 2, none⟩ = some ((.string ⟨#[]⟩)) := by go_simp
  have e3 : (((((w1.setCell ⟨w.heap.size, 0, none⟩ ((.int .i64 0))).setCell ⟨w.heap.size, 1, none⟩ ((.int .i64 0))).setCell ⟨w.heap.size, 2, none⟩ ((.string ⟨#[]⟩))).setCell ⟨w.heap.size, 3, none⟩ ((.int .i64 0))).setCell ⟨w.heap.size, 4, none⟩ ((.iface 76 (.agg #[.int .i64 c])))).cell? ⟨w.heap.size, 3, none⟩ = some ((.int .i64 0)) := by go_simp
  have e4 : (((((w1.setCell ⟨w.heap.size, 0, none⟩ ((.int .i64 0))).setCell ⟨w.heap.size, 1, none⟩ ((.int .i64 0))).setCell ⟨w.heap.size, 2, none⟩ ((.string ⟨#[]⟩))).setCell ⟨w.heap.size, 3, none⟩ ((.int .i64 0))).setCell ⟨w.heap.size, 4, none⟩ ((.iface 76 (.agg #[.int .i64 c])))).cell? ⟨w.heap.size, 4, none⟩ = some ((.iface 76 (.agg #[.int .i64 c]))) := by go_simp
  have HE : Hid (Below w.heap.size w (((((w1.setCell ⟨w.heap.size, 0, none⟩ ((.int .i64 0))).setCell ⟨w.heap.size, 1, none⟩ ((.int .i64 0))).setCell ⟨w.heap.size, 2, none⟩ ((.string ⟨#[]⟩))).setCell ⟨w.heap.size, 3, none⟩ ((.int .i64 0))).setCell ⟨w.heap.size, 4, none⟩ ((.iface 76 (.agg #[.int .i64 c]))))) := Lib.hid (by repeat' (first | exact HB.out | refine Below.setCell ?_ ?_ _ | (dsimp only; omega)))
  generalize (((((w1.setCell ⟨w.heap.size, 0, none⟩ ((.int .i64 0))).setCell ⟨w.heap.size, 1, none⟩ ((.int .i64 0))).setCell ⟨w.heap.size, 2, none⟩ ((.string ⟨#[]⟩))).setCell ⟨w.heap.size, 3, none⟩ ((.int .i64 0))).setCell ⟨w.heap.size, 4, none⟩ ((.iface 76 (.agg #[.int .i64 c])))) = Z at *
  have hl : (loadVar 52 ⟨w.heap.size, 0, none⟩).run Tryd.prog Z = .ok (.agg #[(.int .i64 0), (.int .i64 0), (.string ⟨#[]⟩), (.int .i64 0), (.iface 76 (.agg #[.int .i64 c]))]) Z := by simp [loadVar, isAgg, underlying, Tryd.underlying52, Result.andThen, loadCells, loadCellsFrom, Addr.add, e0, e1, e2, e3, e4]
  go_wp2
  refine bodyPost_ret (results_cell rfl _ _ (by rfl) hl) rfl ?_
  exact ⟨rfl, HE.out⟩
/-- What the making of what was taken keeps. -/
def TkS (w : World) (s : ByteArray) (n : Nat) (w' : World) : Prop := w'.cell? ⟨w.heap.size + 1, 0, none⟩ = some (.string s) ∧ w'.cell? ⟨w.heap.size + 1, 1, none⟩ = some (.int .i64 (n : Int)) ∧ Below w.heap.size w w' ∧ (∃ u0 u1 u2 u3 u4, w'.cell? ⟨w.heap.size, 0, none⟩ = some u0 ∧ w'.cell? ⟨w.heap.size, 1, none⟩ = some u1 ∧ w'.cell? ⟨w.heap.size, 2, none⟩ = some u2 ∧ w'.cell? ⟨w.heap.size, 3, none⟩ = some u3 ∧ w'.cell? ⟨w.heap.size, 4, none⟩ = some u4 ∧ w'.frozen? ⟨w.heap.size, 0, none⟩ = false ∧ w'.frozen? ⟨w.heap.size, 1, none⟩ = false ∧ w'.frozen? ⟨w.heap.size, 2, none⟩ = false ∧ w'.frozen? ⟨w.heap.size, 3, none⟩ = false ∧ w'.frozen? ⟨w.heap.size, 4, none⟩ = false)
theorem TkS.on {w : World} {s : ByteArray} {n : Nat} {A B : World} (h : TkS w s n A) (hb : Below A.heap.size A B) : TkS w s n B := by
  obtain ⟨a, b, c, u0, u1, u2, u3, u4, e0, e1, e2, e3, e4, f0, f1, f2, f3, f4⟩ := h
  exact ⟨(hb.cell (blt a)).trans a, (hb.cell (blt b)).trans b, btr c hb, u0, u1, u2, u3, u4, (hb.cell (blt e0)).trans e0, (hb.cell (blt e1)).trans e1, (hb.cell (blt e2)).trans e2, (hb.cell (blt e3)).trans e3, (hb.cell (blt e4)).trans e4, (hb.frozen (blt e0)).trans f0, (hb.frozen (blt e1)).trans f1, (hb.frozen (blt e2)).trans f2, (hb.frozen (blt e3)).trans f3, (hb.frozen (blt e4)).trans f4⟩
set_option maxRecDepth 100000 in
set_option maxHeartbeats 8000000 in
theorem take_yes (s : ByteArray) (n L : Nat) (hL : numAt s (n + 3) = (L : Int)) (hk : n + 5 + L ≤ s.size) (hs : (s.size : Int) ≤ 4611686018427387904) (hz : tkE s (n : Int) = 0) (w : World) : Calls Tryd.prog 28 #[.string s, .int .i64 (n : Int)] w fun x w' => x = .returned (.agg #[.int .i64 (byteAt s n), .int .i64 (numAt s (n + 1)), .string (s.extract (n + 5) (n + 5 + L)), .int .i64 ((n : Int) + 5 + (L : Int)), .nilIface]) ∧ Below w.heap.size w w' := by
  have H1 := Lib.hid (show ∀ W, Calls Tryd.prog 42 #[.agg #[.string s, .int .i64 (n : Int)]] W fun x w' => x = .returned (.agg #[.int .i64 (byteAt s n), .int .i64 (numAt s (n + 1)), .string (s.extract (n + 5) (n + 5 + L))]) ∧ Below W.heap.size W w' from fun W => frame_c s n L hL hk hs W)
  have H2 := Lib.hid (show ∀ W, Calls Tryd.prog 43 #[.agg #[.string s, .int .i64 (n : Int)]] W fun x w' => x = .returned (.int .i64 ((n : Int) + 5 + (L : Int))) ∧ Below W.heap.size W w' from fun W => by have := end_c s n (by omega) hs W; rwa [hL] at this)
  have HF := Lib.hid (show ∀ b W, (∀ i, i < 7 → W.cell? ⟨b, i, none⟩ = some (.func (.func (fT i)) #[.agg #[.string s, .int .i64 (n : Int)]] #[])) → Calls Tryd.prog 34 #[.slice (some ⟨b, 0, none⟩) 7 7] W fun x w' => x = .returned (.nilIface) ∧ Below W.heap.size W w' from fun b W hc => by
    have := first_c 7 (by omega) b fT (fun _ => #[.agg #[.string s, .int .i64 (n : Int)]]) (fun _ => #[]) (erT s (n : Int)) W hc (fun i hi hp W' _ => checks_c s (n : Int) hs i hi hp W') (fun i hi => by match i, hi with | 0, _ => exact fun _ _ => rfl | 1, _ => exact fun _ _ => rfl | 2, _ => exact fun _ _ => rfl | 3, _ => exact fun _ _ => rfl | 4, _ => exact fun _ _ => rfl | 5, _ => exact fun _ _ => rfl | 6, _ => exact fun _ _ => rfl) (fun i _ => erT_form s (n : Int) i)
    rw [first_is, hz] at this
    exact this)
  clear hs hz hL hk
  generalize byteAt s n = K1 at *
  generalize numAt s (n + 1) = N1 at *
  generalize s.extract (n + 5) (n + 5 + L) = D1 at *
  generalize (n : Int) + 5 + (L : Int) = E1 at *
  go_enter Tryd.func28, Tryd.ntmps28
  go_wp2_with fail
  have hB : Below w.heap.size w (((w.alloc (.cells #[.int .i64 0, .int .i64 0, .string ⟨#[]⟩, .int .i64 0, .nilIface] 52)).alloc (.cells #[.string s, .int .i64 (n : Int)] 70)).alloc (.cells #[.func (.func 35) #[.agg #[.string s, .int .i64 (n : Int)]] #[], .func (.func 36) #[.agg #[.string s, .int .i64 (n : Int)]] #[], .func (.func 37) #[.agg #[.string s, .int .i64 (n : Int)]] #[], .func (.func 38) #[.agg #[.string s, .int .i64 (n : Int)]] #[], .func (.func 39) #[.agg #[.string s, .int .i64 (n : Int)]] #[], .func (.func 40) #[.agg #[.string s, .int .i64 (n : Int)]] #[], .func (.func 41) #[.agg #[.string s, .int .i64 (n : Int)]] #[]] 72)) := bal (bal (below_alloc w _) _) _
  have t0 : (((w.alloc (.cells #[.int .i64 0, .int .i64 0, .string ⟨#[]⟩, .int .i64 0, .nilIface] 52)).alloc (.cells #[.string s, .int .i64 (n : Int)] 70)).alloc (.cells #[.func (.func 35) #[.agg #[.string s, .int .i64 (n : Int)]] #[], .func (.func 36) #[.agg #[.string s, .int .i64 (n : Int)]] #[], .func (.func 37) #[.agg #[.string s, .int .i64 (n : Int)]] #[], .func (.func 38) #[.agg #[.string s, .int .i64 (n : Int)]] #[], .func (.func 39) #[.agg #[.string s, .int .i64 (n : Int)]] #[], .func (.func 40) #[.agg #[.string s, .int .i64 (n : Int)]] #[], .func (.func 41) #[.agg #[.string s, .int .i64 (n : Int)]] #[]] 72)).cell? ⟨w.heap.size + 1, 0, none⟩ = some (.string s) := by go_simp
  have t1 : (((w.alloc (.cells #[.int .i64 0, .int .i64 0, .string ⟨#[]⟩, .int .i64 0, .nilIface] 52)).alloc (.cells #[.string s, .int .i64 (n : Int)] 70)).alloc (.cells #[.func (.func 35) #[.agg #[.string s, .int .i64 (n : Int)]] #[], .func (.func 36) #[.agg #[.string s, .int .i64 (n : Int)]] #[], .func (.func 37) #[.agg #[.string s, .int .i64 (n : Int)]] #[], .func (.func 38) #[.agg #[.string s, .int .i64 (n : Int)]] #[], .func (.func 39) #[.agg #[.string s, .int .i64 (n : Int)]] #[], .func (.func 40) #[.agg #[.string s, .int .i64 (n : Int)]] #[], .func (.func 41) #[.agg #[.string s, .int .i64 (n : Int)]] #[]] 72)).cell? ⟨w.heap.size + 1, 1, none⟩ = some (.int .i64 (n : Int)) := by go_simp
  have r0 : (((w.alloc (.cells #[.int .i64 0, .int .i64 0, .string ⟨#[]⟩, .int .i64 0, .nilIface] 52)).alloc (.cells #[.string s, .int .i64 (n : Int)] 70)).alloc (.cells #[.func (.func 35) #[.agg #[.string s, .int .i64 (n : Int)]] #[], .func (.func 36) #[.agg #[.string s, .int .i64 (n : Int)]] #[], .func (.func 37) #[.agg #[.string s, .int .i64 (n : Int)]] #[], .func (.func 38) #[.agg #[.string s, .int .i64 (n : Int)]] #[], .func (.func 39) #[.agg #[.string s, .int .i64 (n : Int)]] #[], .func (.func 40) #[.agg #[.string s, .int .i64 (n : Int)]] #[], .func (.func 41) #[.agg #[.string s, .int .i64 (n : Int)]] #[]] 72)).cell? ⟨w.heap.size, 0, none⟩ = some (.int .i64 0) := by go_simp
  have r1 : (((w.alloc (.cells #[.int .i64 0, .int .i64 0, .string ⟨#[]⟩, .int .i64 0, .nilIface] 52)).alloc (.cells #[.string s, .int .i64 (n : Int)] 70)).alloc (.cells #[.func (.func 35) #[.agg #[.string s, .int .i64 (n : Int)]] #[], .func (.func 36) #[.agg #[.string s, .int .i64 (n : Int)]] #[], .func (.func 37) #[.agg #[.string s, .int .i64 (n : Int)]] #[], .func (.func 38) #[.agg #[.string s, .int .i64 (n : Int)]] #[], .func (.func 39) #[.agg #[.string s, .int .i64 (n : Int)]] #[], .func (.func 40) #[.agg #[.string s, .int .i64 (n : Int)]] #[], .func (.func 41) #[.agg #[.string s, .int .i64 (n : Int)]] #[]] 72)).cell? ⟨w.heap.size, 1, none⟩ = some (.int .i64 0) := by go_simp
  have r2 : (((w.alloc (.cells #[.int .i64 0, .int .i64 0, .string ⟨#[]⟩, .int .i64 0, .nilIface] 52)).alloc (.cells #[.string s, .int .i64 (n : Int)] 70)).alloc (.cells #[.func (.func 35) #[.agg #[.string s, .int .i64 (n : Int)]] #[], .func (.func 36) #[.agg #[.string s, .int .i64 (n : Int)]] #[], .func (.func 37) #[.agg #[.string s, .int .i64 (n : Int)]] #[], .func (.func 38) #[.agg #[.string s, .int .i64 (n : Int)]] #[], .func (.func 39) #[.agg #[.string s, .int .i64 (n : Int)]] #[], .func (.func 40) #[.agg #[.string s, .int .i64 (n : Int)]] #[], .func (.func 41) #[.agg #[.string s, .int .i64 (n : Int)]] #[]] 72)).cell? ⟨w.heap.size, 2, none⟩ = some (.string ⟨#[]⟩) := by go_simp
  have r3 : (((w.alloc (.cells #[.int .i64 0, .int .i64 0, .string ⟨#[]⟩, .int .i64 0, .nilIface] 52)).alloc (.cells #[.string s, .int .i64 (n : Int)] 70)).alloc (.cells #[.func (.func 35) #[.agg #[.string s, .int .i64 (n : Int)]] #[], .func (.func 36) #[.agg #[.string s, .int .i64 (n : Int)]] #[], .func (.func 37) #[.agg #[.string s, .int .i64 (n : Int)]] #[], .func (.func 38) #[.agg #[.string s, .int .i64 (n : Int)]] #[], .func (.func 39) #[.agg #[.string s, .int .i64 (n : Int)]] #[], .func (.func 40) #[.agg #[.string s, .int .i64 (n : Int)]] #[], .func (.func 41) #[.agg #[.string s, .int .i64 (n : Int)]] #[]] 72)).cell? ⟨w.heap.size, 3, none⟩ = some (.int .i64 0) := by go_simp
  have r4 : (((w.alloc (.cells #[.int .i64 0, .int .i64 0, .string ⟨#[]⟩, .int .i64 0, .nilIface] 52)).alloc (.cells #[.string s, .int .i64 (n : Int)] 70)).alloc (.cells #[.func (.func 35) #[.agg #[.string s, .int .i64 (n : Int)]] #[], .func (.func 36) #[.agg #[.string s, .int .i64 (n : Int)]] #[], .func (.func 37) #[.agg #[.string s, .int .i64 (n : Int)]] #[], .func (.func 38) #[.agg #[.string s, .int .i64 (n : Int)]] #[], .func (.func 39) #[.agg #[.string s, .int .i64 (n : Int)]] #[], .func (.func 40) #[.agg #[.string s, .int .i64 (n : Int)]] #[], .func (.func 41) #[.agg #[.string s, .int .i64 (n : Int)]] #[]] 72)).cell? ⟨w.heap.size, 4, none⟩ = some .nilIface := by go_simp
  have z0 : (((w.alloc (.cells #[.int .i64 0, .int .i64 0, .string ⟨#[]⟩, .int .i64 0, .nilIface] 52)).alloc (.cells #[.string s, .int .i64 (n : Int)] 70)).alloc (.cells #[.func (.func 35) #[.agg #[.string s, .int .i64 (n : Int)]] #[], .func (.func 36) #[.agg #[.string s, .int .i64 (n : Int)]] #[], .func (.func 37) #[.agg #[.string s, .int .i64 (n : Int)]] #[], .func (.func 38) #[.agg #[.string s, .int .i64 (n : Int)]] #[], .func (.func 39) #[.agg #[.string s, .int .i64 (n : Int)]] #[], .func (.func 40) #[.agg #[.string s, .int .i64 (n : Int)]] #[], .func (.func 41) #[.agg #[.string s, .int .i64 (n : Int)]] #[]] 72)).frozen? ⟨w.heap.size, 0, none⟩ = false := by go_simp
  have z1 : (((w.alloc (.cells #[.int .i64 0, .int .i64 0, .string ⟨#[]⟩, .int .i64 0, .nilIface] 52)).alloc (.cells #[.string s, .int .i64 (n : Int)] 70)).alloc (.cells #[.func (.func 35) #[.agg #[.string s, .int .i64 (n : Int)]] #[], .func (.func 36) #[.agg #[.string s, .int .i64 (n : Int)]] #[], .func (.func 37) #[.agg #[.string s, .int .i64 (n : Int)]] #[], .func (.func 38) #[.agg #[.string s, .int .i64 (n : Int)]] #[], .func (.func 39) #[.agg #[.string s, .int .i64 (n : Int)]] #[], .func (.func 40) #[.agg #[.string s, .int .i64 (n : Int)]] #[], .func (.func 41) #[.agg #[.string s, .int .i64 (n : Int)]] #[]] 72)).frozen? ⟨w.heap.size, 1, none⟩ = false := by go_simp
  have z2 : (((w.alloc (.cells #[.int .i64 0, .int .i64 0, .string ⟨#[]⟩, .int .i64 0, .nilIface] 52)).alloc (.cells #[.string s, .int .i64 (n : Int)] 70)).alloc (.cells #[.func (.func 35) #[.agg #[.string s, .int .i64 (n : Int)]] #[], .func (.func 36) #[.agg #[.string s, .int .i64 (n : Int)]] #[], .func (.func 37) #[.agg #[.string s, .int .i64 (n : Int)]] #[], .func (.func 38) #[.agg #[.string s, .int .i64 (n : Int)]] #[], .func (.func 39) #[.agg #[.string s, .int .i64 (n : Int)]] #[], .func (.func 40) #[.agg #[.string s, .int .i64 (n : Int)]] #[], .func (.func 41) #[.agg #[.string s, .int .i64 (n : Int)]] #[]] 72)).frozen? ⟨w.heap.size, 2, none⟩ = false := by go_simp
  have z3 : (((w.alloc (.cells #[.int .i64 0, .int .i64 0, .string ⟨#[]⟩, .int .i64 0, .nilIface] 52)).alloc (.cells #[.string s, .int .i64 (n : Int)] 70)).alloc (.cells #[.func (.func 35) #[.agg #[.string s, .int .i64 (n : Int)]] #[], .func (.func 36) #[.agg #[.string s, .int .i64 (n : Int)]] #[], .func (.func 37) #[.agg #[.string s, .int .i64 (n : Int)]] #[], .func (.func 38) #[.agg #[.string s, .int .i64 (n : Int)]] #[], .func (.func 39) #[.agg #[.string s, .int .i64 (n : Int)]] #[], .func (.func 40) #[.agg #[.string s, .int .i64 (n : Int)]] #[], .func (.func 41) #[.agg #[.string s, .int .i64 (n : Int)]] #[]] 72)).frozen? ⟨w.heap.size, 3, none⟩ = false := by go_simp
  have z4 : (((w.alloc (.cells #[.int .i64 0, .int .i64 0, .string ⟨#[]⟩, .int .i64 0, .nilIface] 52)).alloc (.cells #[.string s, .int .i64 (n : Int)] 70)).alloc (.cells #[.func (.func 35) #[.agg #[.string s, .int .i64 (n : Int)]] #[], .func (.func 36) #[.agg #[.string s, .int .i64 (n : Int)]] #[], .func (.func 37) #[.agg #[.string s, .int .i64 (n : Int)]] #[], .func (.func 38) #[.agg #[.string s, .int .i64 (n : Int)]] #[], .func (.func 39) #[.agg #[.string s, .int .i64 (n : Int)]] #[], .func (.func 40) #[.agg #[.string s, .int .i64 (n : Int)]] #[], .func (.func 41) #[.agg #[.string s, .int .i64 (n : Int)]] #[]] 72)).frozen? ⟨w.heap.size, 4, none⟩ = false := by go_simp
  have hcs : ∀ i, i < 7 → (((w.alloc (.cells #[.int .i64 0, .int .i64 0, .string ⟨#[]⟩, .int .i64 0, .nilIface] 52)).alloc (.cells #[.string s, .int .i64 (n : Int)] 70)).alloc (.cells #[.func (.func 35) #[.agg #[.string s, .int .i64 (n : Int)]] #[], .func (.func 36) #[.agg #[.string s, .int .i64 (n : Int)]] #[], .func (.func 37) #[.agg #[.string s, .int .i64 (n : Int)]] #[], .func (.func 38) #[.agg #[.string s, .int .i64 (n : Int)]] #[], .func (.func 39) #[.agg #[.string s, .int .i64 (n : Int)]] #[], .func (.func 40) #[.agg #[.string s, .int .i64 (n : Int)]] #[], .func (.func 41) #[.agg #[.string s, .int .i64 (n : Int)]] #[]] 72)).cell? ⟨w.heap.size + 1 + 1, i, none⟩ = some (.func (.func (fT i)) #[.agg #[.string s, .int .i64 (n : Int)]] #[]) := by
    intro i hi
    match i, hi with
    | 0, _ => go_simp; rfl
    | 1, _ => go_simp; rfl
    | 2, _ => go_simp; rfl
    | 3, _ => go_simp; rfl
    | 4, _ => go_simp; rfl
    | 5, _ => go_simp; rfl
    | 6, _ => go_simp; rfl
  generalize (((w.alloc (.cells #[.int .i64 0, .int .i64 0, .string ⟨#[]⟩, .int .i64 0, .nilIface] 52)).alloc (.cells #[.string s, .int .i64 (n : Int)] 70)).alloc (.cells #[.func (.func 35) #[.agg #[.string s, .int .i64 (n : Int)]] #[], .func (.func 36) #[.agg #[.string s, .int .i64 (n : Int)]] #[], .func (.func 37) #[.agg #[.string s, .int .i64 (n : Int)]] #[], .func (.func 38) #[.agg #[.string s, .int .i64 (n : Int)]] #[], .func (.func 39) #[.agg #[.string s, .int .i64 (n : Int)]] #[], .func (.func 40) #[.agg #[.string s, .int .i64 (n : Int)]] #[], .func (.func 41) #[.agg #[.string s, .int .i64 (n : Int)]] #[]] 72)) = U at *
  refine (HF.out _ _ hcs).mono ?_; rintro e w1 ⟨rfl, hb⟩
  clear hcs
  have q0 := (hb.cell (blt r0)).trans r0
  have q1 := (hb.cell (blt r1)).trans r1
  have q2 := (hb.cell (blt r2)).trans r2
  have q3 := (hb.cell (blt r3)).trans r3
  have q4 := (hb.cell (blt r4)).trans r4
  have y0 := (hb.frozen (blt r0)).trans z0
  have y1 := (hb.frozen (blt r1)).trans z1
  have y2 := (hb.frozen (blt r2)).trans z2
  have y3 := (hb.frozen (blt r3)).trans z3
  have y4 := (hb.frozen (blt r4)).trans z4
  have x0 := (hb.cell (blt t0)).trans t0
  have x1 := (hb.cell (blt t1)).trans t1
  have HB := Lib.hid (btr hB hb)
  clear hB hb r0 r1 r2 r3 r4 z0 z1 z2 z3 z4 t0 t1 HF
  have MK : TkS w s n w1 := ⟨x0, x1, HB.out, _, _, _, _, _, q0, q1, q2, q3, q4, y0, y1, y2, y3, y4⟩
  clear x0 x1 HB q0 q1 q2 q3 q4 y0 y1 y2 y3 y4
  go_wp2_with fail
  refine wp_region_held_drew (S := (fun w' => w'.cell? ⟨w.heap.size + 1, 0, none⟩ = some (.string s) ∧ w'.cell? ⟨w.heap.size + 1, 1, none⟩ = some (.int .i64 (n : Int)) ∧ Below w.heap.size w w' ∧ (∃ u0 u1 u2 u3 u4, w'.cell? ⟨w.heap.size, 0, none⟩ = some u0 ∧ w'.cell? ⟨w.heap.size, 1, none⟩ = some u1 ∧ w'.cell? ⟨w.heap.size, 2, none⟩ = some u2 ∧ w'.cell? ⟨w.heap.size, 3, none⟩ = some u3 ∧ w'.cell? ⟨w.heap.size, 4, none⟩ = some u4 ∧ w'.frozen? ⟨w.heap.size, 0, none⟩ = false ∧ w'.frozen? ⟨w.heap.size, 1, none⟩ = false ∧ w'.frozen? ⟨w.heap.size, 2, none⟩ = false ∧ w'.frozen? ⟨w.heap.size, 3, none⟩ = false ∧ w'.frozen? ⟨w.heap.size, 4, none⟩ = false))) (by kernel_rfl) ?_ (fun hHeld => ?_)
  · exact TkS.on MK (below_drew (Below.refl _ _))
  clear MK
  refine takeH (i := 0) (some 34) (v := ?_) rfl rfl (by kernel_rfl) (by kernel_rfl) (by kernel_rfl) (fun _ _ _ h => h) (Or.inl ⟨by rfl, ?hy0⟩) hHeld ?rest0
  case hy0 => (intro w hSw; (try dsimp only at hSw); go_simp; (try with_reducible rfl))
  try simp only [Act.put, List.setIfInBounds_toArray, List.set_cons_zero, List.set_cons_succ]
  refine takeH (i := 2) (some 36) (v := ?_) rfl rfl (by kernel_rfl) (by kernel_rfl) (by kernel_rfl) (fun _ _ _ h => h) (Or.inl ⟨by rfl, ?hy2⟩) hHeld ?rest2
  case hy2 => (intro w hSw; (try dsimp only at hSw); go_simp; (try with_reducible rfl))
  try simp only [Act.put, List.setIfInBounds_toArray, List.set_cons_zero, List.set_cons_succ]
  refine wpAnyH_ready (rs := [1]) (by kernel_rfl) (by simp) ?_
  refine AllReadyH.cons rfl (fun K hK => ?_) AllReadyH.nil
  go_simp
  go_at_call 42; (with_reducible refine (H1.out _).mono ?_); rintro e wn1 ⟨rfl, pB⟩; have sB := TkS.on (show TkS w s n _ from hHeld) pB; clear pB hHeld
  refine hK.out _ _ sB (fun hHeld => ?_)
  clear hK K
  try simp only [Act.put, List.setIfInBounds_toArray, List.set_cons_zero, List.set_cons_succ]
  clear sB
  refine wpAnyH_ready (rs := [3]) (by kernel_rfl) (by simp) ?_
  refine AllReadyH.cons rfl (fun K hK => ?_) AllReadyH.nil
  go_simp
  go_at_call 43; (with_reducible refine (H2.out _).mono ?_); rintro e wn3 ⟨rfl, pB⟩; have sB := TkS.on (show TkS w s n _ from hHeld) pB; clear pB hHeld
  refine hK.out _ _ sB (fun hHeld => ?_)
  clear hK K
  try simp only [Act.put, List.setIfInBounds_toArray, List.set_cons_zero, List.set_cons_succ]
  clear sB
  refine takeH (i := 4) (some 38) (v := ?_) rfl rfl (by kernel_rfl) (by kernel_rfl) (by kernel_rfl) (fun _ _ _ h => h) (Or.inl ⟨by rfl, ?hy4⟩) hHeld ?rest4
  case hy4 => (intro w hSw; (try dsimp only at hSw); go_simp; (try with_reducible rfl))
  try simp only [Act.put, List.setIfInBounds_toArray, List.set_cons_zero, List.set_cons_succ]
  refine wpAnyH_ready (rs := [5]) (by kernel_rfl) (by simp) ?_
  refine AllReadyH.cons rfl (fun K hK => ?_) AllReadyH.nil
  obtain ⟨k0, k1, c, u0, u1, u2, u3, u4, r0, r1, r2, r3, r4, f0, f1, f2, f3, f4⟩ := hHeld
  go_simp
  clear H1 H2
  refine hK.out _ _ ⟨by go_simp, by go_simp, ?_, (.int .i64 K1), (.int .i64 N1), (.string D1), (.int .i64 E1), .nilIface, by go_simp, by go_simp, by go_simp, by go_simp, by go_simp, by go_simp, by go_simp, by go_simp, by go_simp, by go_simp⟩ (fun hHeld => ?_)
  · repeat' (first | exact c | refine Below.setCell ?_ ?_ _ | (dsimp only; omega))
  clear hK K hHeld
  try simp only [Act.put, List.setIfInBounds_toArray, List.set_cons_zero, List.set_cons_succ]
  refine wpAnyH_done (by kernel_rfl) ?_ _
  have e0 : (((((wn3.setCell ⟨w.heap.size, 0, none⟩ ((.int .i64 K1))).setCell ⟨w.heap.size, 1, none⟩ ((.int .i64 N1))).setCell ⟨w.heap.size, 2, none⟩ ((.string D1))).setCell ⟨w.heap.size, 3, none⟩ ((.int .i64 E1))).setCell ⟨w.heap.size, 4, none⟩ (.nilIface)).cell? ⟨w.heap.size, 0, none⟩ = some ((.int .i64 K1)) := by go_simp
  have e1 : (((((wn3.setCell ⟨w.heap.size, 0, none⟩ ((.int .i64 K1))).setCell ⟨w.heap.size, 1, none⟩ ((.int .i64 N1))).setCell ⟨w.heap.size, 2, none⟩ ((.string D1))).setCell ⟨w.heap.size, 3, none⟩ ((.int .i64 E1))).setCell ⟨w.heap.size, 4, none⟩ (.nilIface)).cell? ⟨w.heap.size, 1, none⟩ = some ((.int .i64 N1)) := by go_simp
  have e2 : (((((wn3.setCell ⟨w.heap.size, 0, none⟩ ((.int .i64 K1))).setCell ⟨w.heap.size, 1, none⟩ ((.int .i64 N1))).setCell ⟨w.heap.size, 2, none⟩ ((.string D1))).setCell ⟨w.heap.size, 3, none⟩ ((.int .i64 E1))).setCell ⟨w.heap.size, 4, none⟩ (.nilIface)).cell? ⟨w.heap.size, 2, none⟩ = some ((.string D1)) := by go_simp
  have e3 : (((((wn3.setCell ⟨w.heap.size, 0, none⟩ ((.int .i64 K1))).setCell ⟨w.heap.size, 1, none⟩ ((.int .i64 N1))).setCell ⟨w.heap.size, 2, none⟩ ((.string D1))).setCell ⟨w.heap.size, 3, none⟩ ((.int .i64 E1))).setCell ⟨w.heap.size, 4, none⟩ (.nilIface)).cell? ⟨w.heap.size, 3, none⟩ = some ((.int .i64 E1)) := by go_simp
  have e4 : (((((wn3.setCell ⟨w.heap.size, 0, none⟩ ((.int .i64 K1))).setCell ⟨w.heap.size, 1, none⟩ ((.int .i64 N1))).setCell ⟨w.heap.size, 2, none⟩ ((.string D1))).setCell ⟨w.heap.size, 3, none⟩ ((.int .i64 E1))).setCell ⟨w.heap.size, 4, none⟩ (.nilIface)).cell? ⟨w.heap.size, 4, none⟩ = some (.nilIface) := by go_simp
  have HE : Hid (Below w.heap.size w (((((wn3.setCell ⟨w.heap.size, 0, none⟩ ((.int .i64 K1))).setCell ⟨w.heap.size, 1, none⟩ ((.int .i64 N1))).setCell ⟨w.heap.size, 2, none⟩ ((.string D1))).setCell ⟨w.heap.size, 3, none⟩ ((.int .i64 E1))).setCell ⟨w.heap.size, 4, none⟩ (.nilIface))) := Lib.hid (by repeat' (first | exact c | refine Below.setCell ?_ ?_ _ | (dsimp only; omega)))
  generalize (((((wn3.setCell ⟨w.heap.size, 0, none⟩ ((.int .i64 K1))).setCell ⟨w.heap.size, 1, none⟩ ((.int .i64 N1))).setCell ⟨w.heap.size, 2, none⟩ ((.string D1))).setCell ⟨w.heap.size, 3, none⟩ ((.int .i64 E1))).setCell ⟨w.heap.size, 4, none⟩ (.nilIface)) = Z at *
  have hl : (loadVar 52 ⟨w.heap.size, 0, none⟩).run Tryd.prog Z = .ok (.agg #[(.int .i64 K1), (.int .i64 N1), (.string D1), (.int .i64 E1), .nilIface]) Z := by simp [loadVar, isAgg, underlying, Tryd.underlying52, Result.andThen, loadCells, loadCellsFrom, Addr.add, e0, e1, e2, e3, e4]
  clear k0 k1 r0 r1 r2 r3 r4 f0 f1 f2 f3 f4 c
  go_wp2
  refine bodyPost_ret (results_cell rfl _ _ (by rfl) hl) rfl ?_
  exact ⟨rfl, HE.out⟩
end Go.Proofs.YtdcnpcdohgecbaaDoor
