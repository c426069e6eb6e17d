/- join, text. -/
import Derived.Test.YtjlpkndbnaknaaaGreatDoorG
import Derived.Laws.AppendOwn
namespace Go.Proofs.YtjlpkndbnaknaaaGreatDoor
open Go.RowKit Go.Shelf
attribute [local go_sem] Oper.semAt_some

def Sta.get (s : Sta) : Nat → Wd
  | 0 => s.a | 1 => s.b | 2 => s.c | 3 => s.d | 4 => s.e | 5 => s.f | 6 => s.g | _ => s.h
def Sta.upd (s : Sta) (k : Nat) (x : Wd) : Sta :=
  match k with
  | 0 => { s with a := x } | 1 => { s with b := x } | 2 => { s with c := x } | 3 => { s with d := x } | 4 => { s with e := x } | 5 => { s with f := x } | 6 => { s with g := x } | _ => { s with h := x }
def staV (s : Sta) : Array Value := #[.int .u32 (s.a.toNat : Int), .int .u32 (s.b.toNat : Int), .int .u32 (s.c.toNat : Int), .int .u32 (s.d.toNat : Int), .int .u32 (s.e.toNat : Int), .int .u32 (s.f.toNat : Int), .int .u32 (s.g.toNat : Int), .int .u32 (s.h.toNat : Int)]
theorem lt8 {k : Nat} (h : k < 8) : k = 0 ∨ k = 1 ∨ k = 2 ∨ k = 3 ∨ k = 4 ∨ k = 5 ∨ k = 6 ∨ k = 7 := by omega
theorem StaAt.cell {b : Nat} {s : Sta} {W : World} (h : StaAt b s W) {k : Nat} (hk : k < 8) : W.cell? ⟨b, k, none⟩ = some (.int .u32 ((s.get k).toNat : Int)) := by
  obtain rfl | rfl | rfl | rfl | rfl | rfl | rfl | rfl := lt8 hk
  · exact h.c0
  · exact h.c1
  · exact h.c2
  · exact h.c3
  · exact h.c4
  · exact h.c5
  · exact h.c6
  · exact h.c7
theorem StaAt.frozen {b : Nat} {s : Sta} {W : World} (h : StaAt b s W) {k : Nat} (hk : k < 8) : W.frozen? ⟨b, k, none⟩ = false := by
  obtain rfl | rfl | rfl | rfl | rfl | rfl | rfl | rfl := lt8 hk
  · exact h.f0
  · exact h.f1
  · exact h.f2
  · exact h.f3
  · exact h.f4
  · exact h.f5
  · exact h.f6
  · exact h.f7
theorem staV_get (s : Sta) {k : Nat} (hk : k < 8) : (staV s)[k]? = some (.int .u32 ((s.get k).toNat : Int)) := by
  obtain rfl | rfl | rfl | rfl | rfl | rfl | rfl | rfl := lt8 hk <;> rfl
set_option maxHeartbeats 4000000 in
theorem StaAt.set {b : Nat} {s : Sta} {W : World} (h : StaAt b s W) {k : Nat} (hk : k < 8) (x : Wd) : StaAt b (s.upd k x) (W.setCell ⟨b, k, none⟩ (.int .u32 (x.toNat : Int))) := by
  obtain ⟨c0, c1, c2, c3, c4, c5, c6, c7, f0, f1, f2, f3, f4, f5, f6, f7⟩ := h
  obtain rfl | rfl | rfl | rfl | rfl | rfl | rfl | rfl := lt8 hk <;> (unfold Sta.upd; exact ⟨by go_simp, by go_simp, by go_simp, by go_simp, by go_simp, by go_simp, by go_simp, by go_simp, by go_simp, by go_simp, by go_simp, by go_simp, by go_simp, by go_simp, by go_simp, by go_simp⟩)
theorem index_sta (o : Sta) {k : Nat} (hk : k < 8) (W : World) : (Instr.index 58 (.agg (staV o)) (.int .i64 (k : Int))).run Tryz.prog W = .ok (.int .u32 ((o.get k).toNat : Int)) W := by
  obtain rfl | rfl | rfl | rfl | rfl | rfl | rfl | rfl := lt8 hk <;> kernel_rfl
def joinK (s o : Sta) : Nat → Sta
  | 0 => s
  | k + 1 => (joinK s o k).upd k ((joinK s o k).get k + o.get k)
theorem joinK_all (s o : Sta) : joinK s o 8 = joinS s o := rfl
set_option maxRecDepth 100000 in
set_option maxHeartbeats 8000000 in
theorem join_c (B : Nat) (s o : Sta) (w : World) (hS : StaAt B s w) : Calls Tryz.prog 52 #[.pointer (some ⟨B, 0, none⟩), .agg (staV o)] w fun r w' => (∃ v, r = .returned v) ∧ StaAt B (joinS s o) w' ∧ w.grownBy w' (some B) := by
  have HV := Lib.hid (fun (k : Nat) (hk : k < 8) W => index_sta o hk W)
  have hz : (staV o).size = 8 := rfl
  generalize staV o = V at *
  go_enter Tryz.func52, Tryz.ntmps52
  go_wp2_with (refine wpList_load_row rfl (.tmp 3) 58 rfl w.heap.size _ V (0, 0) (.array 8 56) rfl (World.alloc_heap_new w _) (by kernel_rfl) rfl (by rw [hz]; kernel_rfl) ?_)
  have hS2 := hS.on (below_alloc w (.cells V 58))
  have hG2 : w.grownBy (w.alloc (.cells V 58)) (some B) := gr_below (below_alloc w _)
  generalize w.alloc (.cells V 58) = w2 at *
  clear hS
  go_loopw [7] (fun i wr => ∃ k : Nat, k ≤ 8 ∧ i = .int .i64 (k : Int) ∧ StaAt B (joinK s o k) wr ∧ w.grownBy wr (some B)) (fun i _ => 8 - (intOf i).toNat)
  case atStart => exact ⟨0, by omega, rfl, hS2, hG2⟩
  case round =>
    obtain ⟨k, hk, rfl, hSk, hGk⟩ := hrel
    clear hS2 hG2
    by_cases hlt : k < 8
    · have hlt' : (k : Int) < 8 := by omega
      have hix := fun W => HV.out k hlt W
      have hck := hSk.cell hlt
      have hfk := hSk.frozen hlt
      have HS := Lib.hid (hSk.set hlt ((joinK s o k).get k + o.get k))
      have HG := Lib.hid hGk
      rw [show (joinK s o k).upd k ((joinK s o k).get k + o.get k) = joinK s o (k + 1) from rfl] at HS
      clear hSk hGk
      generalize (joinK s o k).get k = x at *
      generalize o.get k = y at *
      go_wp2_with fail
      refine wp_region_held_drew (S := (fun _ => True)) (by kernel_rfl) ?_ (fun hHeld => ?_)
      · exact trivial
      refine takeH (i := 0) (some 11) (v := ?_) rfl rfl (by kernel_rfl) (by kernel_rfl) (by kernel_rfl) (fun _ _ _ h => h) (Or.inl ⟨by rfl, ?hyJ0⟩) hHeld ?restJ0
      case hyJ0 => (intro w hSw; (try dsimp only at hSw); go_simp; (try with_reducible rfl))
      try simp only [Act.put, List.setIfInBounds_toArray, List.set_cons_zero, List.set_cons_succ]
      refine takeH (i := 1) (some 12) (v := ?_) rfl rfl (by kernel_rfl) (by kernel_rfl) (by kernel_rfl) (fun _ _ _ h => h) (Or.inl ⟨by rfl, ?hyJ1⟩) hHeld ?restJ1
      case hyJ1 => (intro w hSw; (try dsimp only at hSw); go_simp; (try with_reducible rfl))
      try simp only [Act.put, List.setIfInBounds_toArray, List.set_cons_zero, List.set_cons_succ]
      refine takeH (i := 2) (some 13) (v := ?_) rfl rfl (by kernel_rfl) (by kernel_rfl) (by kernel_rfl) (fun _ _ _ h => h) (Or.inl ⟨by rfl, ?hyJ2⟩) hHeld ?restJ2
      case hyJ2 => (intro w hSw; (try dsimp only at hSw); go_simp; (try with_reducible rfl))
      try simp only [Act.put, List.setIfInBounds_toArray, List.set_cons_zero, List.set_cons_succ]
      refine takeH (i := 3) (some 14) (v := ?_) rfl rfl (by kernel_rfl) (by kernel_rfl) (by kernel_rfl) (fun _ _ _ h => h) (Or.inl ⟨by rfl, ?hyJ3⟩) hHeld ?restJ3
      case hyJ3 => (intro w hSw; (try dsimp only at hSw); go_simp; (try with_reducible rfl))
      try simp only [Act.put, List.setIfInBounds_toArray, List.set_cons_zero, List.set_cons_succ]
      refine takeH (i := 5) (some 16) (v := ?_) rfl rfl (by kernel_rfl) (by kernel_rfl) (by kernel_rfl) (fun _ _ _ h => h) (Or.inl ⟨by rfl, ?hyJ5⟩) hHeld ?restJ5
      case hyJ5 => (intro w hSw; (try dsimp only at hSw); go_simp; (try with_reducible rfl))
      try simp only [Act.put, List.setIfInBounds_toArray, List.set_cons_zero, List.set_cons_succ]
      refine takeH (i := 7) (some 18) (v := ?_) rfl rfl (by kernel_rfl) (by kernel_rfl) (by kernel_rfl) (fun _ _ _ h => h) (Or.inl ⟨by rfl, ?hyJ7⟩) hHeld ?restJ7
      case hyJ7 => (intro w hSw; (try dsimp only at hSw); go_simp; (try with_reducible rfl))
      try simp only [Act.put, List.setIfInBounds_toArray, List.set_cons_zero, List.set_cons_succ]
      refine wpAnyH_ready (rs := [4]) (by kernel_rfl) (by simp) ?_
      refine AllReadyH.cons rfl (fun K hK => ?_) AllReadyH.nil
      go_simp
      refine hK.out _ _ ?_ (fun hHeld => ?_)
      · exact trivial
      clear hK K
      try simp only [Act.put, List.setIfInBounds_toArray, List.set_cons_zero, List.set_cons_succ]
      refine takeH (i := 6) (some 17) (v := ?_) rfl rfl (by kernel_rfl) (by kernel_rfl) (by kernel_rfl) (fun _ _ _ h => h) (Or.inl ⟨by rfl, ?hyJ6⟩) hHeld ?restJ6
      case hyJ6 => (intro w hSw; (try dsimp only at hSw); go_simp; (try with_reducible rfl))
      try simp only [Act.put, List.setIfInBounds_toArray, List.set_cons_zero, List.set_cons_succ]
      refine takeH (i := 8) (some 19) (v := ?_) rfl rfl (by kernel_rfl) (by kernel_rfl) (by kernel_rfl) (fun _ _ _ h => h) (Or.inl ⟨by rfl, ?hyJ8⟩) hHeld ?restJ8
      case hyJ8 => (intro w hSw; (try dsimp only at hSw); go_simp; (try with_reducible rfl))
      try simp only [Act.put, List.setIfInBounds_toArray, List.set_cons_zero, List.set_cons_succ]
      refine wpAnyH_ready (rs := [9]) (by kernel_rfl) (by simp) ?_
      refine AllReadyH.cons rfl (fun K hK => ?_) AllReadyH.nil
      go_simp
      refine hK.out _ _ ?_ (fun hHeld => ?_)
      · exact trivial
      clear hK K
      try simp only [Act.put, List.setIfInBounds_toArray, List.set_cons_zero, List.set_cons_succ]
      refine wpAnyH_done (by kernel_rfl) ?_ _
      rw [w_add]
      go_wp2
      go_roundw
      case rel => exact ⟨k + 1, by omega, by go_num, HS.out.drew, gr_drew (gr_set HG.out (.inl rfl) _)⟩
      case measure => simp [intOf]; omega
    · have hlt' : ¬ (k : Int) < 8 := by omega
      obtain rfl : k = 8 := by omega
      go_wp2
      go_end0
      exact ⟨⟨_, rfl⟩, hSk, hGk⟩
end Go.Proofs.YtjlpkndbnaknaaaGreatDoor
