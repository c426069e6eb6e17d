/- slices.Values; what flows; the walk's step. -/
import Derived.Test.YtephifkabpidnaaDoorE
namespace Go.Proofs.YtephifkabpidnaaDoor
open Go.RowKit Go.Shelf
attribute [local go_sem] Oper.semAt_some

/-- The cells from a hold the numbers zs, in a block below n₀. -/
def IntsAt (n₀ : Nat) (W : World) (a : Option Addr) (zs : List Int) : Prop :=
  ∀ i, (h : i < zs.length) → ∃ b off, a = some ⟨b, off, none⟩ ∧ b < n₀ ∧ W.cell? ⟨b, off + i, none⟩ = some (.int .i64 zs[i])
theorem IntsAt.below {n₀ : Nat} {A B : World} (h : Below n₀ A B) {a : Option Addr} {zs : List Int} (k : IntsAt n₀ A a zs) : IntsAt n₀ B a zs := fun i hi => by
  obtain ⟨b, off, e, hb, hc⟩ := k i hi
  exact ⟨b, off, e, hb, (h.cell (p := ⟨b, off + i, none⟩) hb).trans hc⟩
theorem IntsAt.mono {n₀ m : Nat} (h : n₀ ≤ m) {W : World} {a : Option Addr} {zs : List Int} (k : IntsAt n₀ W a zs) : IntsAt m W a zs := fun i hi => by
  obtain ⟨b, off, e, hb, hc⟩ := k i hi
  exact ⟨b, off, e, by omega, hc⟩
theorem IntsAt.nil (n₀ : Nat) (W : World) (a : Option Addr) : IntsAt n₀ W a [] := fun i hi => by simp at hi
theorem take_snoc (l : List Int) (k : Nat) (h : k < l.length) : l.take (k + 1) = l.take k ++ [l[k]] := List.take_succ_eq_append_getElem h

set_option maxRecDepth 100000 in
set_option maxHeartbeats 1000000 in
theorem grown_of_below {W W' : World} (h : Below W.heap.size W W') : W.grownBy W' none := ⟨h.os, h.tape, h.output, h.size, fun i hi _ => h.block i hi⟩

set_option maxHeartbeats 1000000 in
theorem values_in (F : Fence) (n : Nat) (h30 : F.fn 30) (hro : F.round = none) (a : Option Addr) (len cap : Nat) (w : World) :
    CallsIn F n Tryd.prog 30 #[.slice a len cap] w fun e w' => e = .returned (.func (.func 42) #[] #[.pointer (some ⟨w.heap.size, 0, none⟩)]) ∧ w' = w.alloc (.cells #[.slice a len cap] 22) := by
  refine callsIn_of_wp Tryd.func30 rfl h30 ?_ hro
  simp only [Tryd.ntmps30, List.size_toArray, List.length_cons, List.length_nil, Nat.reduceAdd, Nat.reduceSub, Array.replicate_succ, Array.replicate_zero, List.push_toArray, List.append_toArray, List.nil_append, List.cons_append]
  gi_wp2
  go_ret
  exact ⟨rfl, rfl⟩

set_option maxRecDepth 100000 in
set_option maxHeartbeats 2000000 in
theorem values1_in (F : Fence) (n : Nat) (h42 : F.fn 42) (hro : F.round = none) (hn : 1 ≤ n) (l Bs n₀ : Nat) (a : Option Addr) (cap : Nat) (zs : List Int) (hlen : zs.length ≤ 1000) (J Jx : List Int → World → Prop)
    (hY : ∀ pre x W, J pre W → pre.length < zs.length → YieldAt F (n - 1) Tryd.prog l #[.int .i64 x] W fun e W' =>
      (e = .returned (.bool true) ∧ J (pre ++ [x]) W' ∧ Below n₀ W W') ∨ (e = .returned (.bool false) ∧ Jx (pre ++ [x]) W'))
    (W : World) (hBs : W.cell? ⟨Bs, 0, none⟩ = some (.slice a zs.length cap)) (hI : IntsAt n₀ W a zs) (h0 : J [] W) :
    CallsIn F n Tryd.prog 42 #[.func (.yield l) #[] #[], .pointer (some ⟨Bs, 0, none⟩)] W fun e W' => (∃ v, e = .returned v) ∧
      ((∃ ys, ys = zs ∧ J ys W') ∨ (∃ pre, pre <+: zs ∧ Jx pre W')) := by
  generalize hL : zs.length = L at *
  have HI := Lib.hid hI
  clear hI
  refine callsIn_of_wp Tryd.func42 rfl h42 ?_ hro
  simp only [Tryd.ntmps42, List.size_toArray, List.length_cons, List.length_nil, Nat.reduceAdd, Nat.reduceSub, Array.replicate_succ, Array.replicate_zero, List.push_toArray, List.append_toArray, List.nil_append, List.cons_append]
  gi_wp2
  gi_loopw [7] (fun i wr => ∃ k : Nat, k ≤ L ∧ i = .int .i64 k ∧ J (zs.take k) wr ∧ Below n₀ W wr)
    (fun i _ => L - (intOf i).toNat)
  case atStart => exact ⟨0, Nat.zero_le _, rfl, h0, Below.refl _ _⟩
  case round =>
    obtain ⟨k, hk, rfl, hJs, hnx⟩ := hrel
    by_cases hlt : k < L
    · have hlt' : k < zs.length := by omega
      obtain ⟨b, off, rfl, hb, hc⟩ := (HI.out.below hnx) k hlt'
      obtain ⟨fn, tmps, assign, body, hy, hR⟩ := hY _ zs[k] wr hJs (by rw [List.length_take, hL]; omega)
      have Hnx := Lib.hid hnx
      have HJ := Lib.hid (take_snoc zs k hlt')
      generalize zs[k] = x at *
      clear hnx hlt'
      gi_wp2
      refine hR.mono ?_
      rintro e W3 (⟨rfl, hJ3, hk3⟩ | ⟨rfl, hJx3⟩)
      · gi_wp2
        go_roundw
        case rel => exact ⟨k + 1, by omega, by simp, by rw [HJ.out]; exact hJ3, Hnx.out.trans hk3⟩
        case measure => simp [intOf]; omega
      · gi_wp2
        refine bodyPost_ret (results_none rfl _ _ _) rfl ?_
        exact ⟨⟨_, rfl⟩, .inr ⟨_, by rw [← HJ.out]; exact List.take_prefix _ _, hJx3⟩⟩
    · obtain rfl : k = L := by omega
      gi_wp2
      go_end0
      exact ⟨⟨_, rfl⟩, .inl ⟨_, by rw [← hL, List.take_length], hJs⟩⟩

theorem values_stops (F : Fence) (n : Nat) (h42 : F.fn 42) (hro : F.round = none) (hn : 1 ≤ n) (Bs n₀ : Nat) (a : Option Addr) (cap : Nat) (zs : List Int) (hlen : zs.length ≤ 1000) (w : World) (hn₀ : n₀ ≤ w.heap.size)
    (hc : w.cell? ⟨Bs, 0, none⟩ = some (.slice a zs.length cap)) (hI : IntsAt n₀ w a zs) :
    SeqStopsK F n Tryd.prog 42 #[.pointer (some ⟨Bs, 0, none⟩)] (fun x : Int => #[Value.int .i64 x]) (Below n₀) (fun ys => ys = zs) (fun pre => pre <+: zs) zs.length w := fun l J Jx W hW _ _ hY h0 =>
  values1_in F n h42 hro hn l Bs n₀ a cap zs hlen J Jx hY W ((hW.cell (p := ⟨Bs, 0, none⟩) (blt hc)).trans hc) (hI.below (hW.mono hn₀)) h0


theorem keeps_of_below {W W' : World} (h : Below W.heap.size W W') : KeepsOthers W W' := ⟨h.size, fun k _ hk _ => (h.block k (Array.getElem?_eq_some_iff.1 hk).1).trans hk⟩

theorem flows_c (s : Int) (w : World) : Calls Tryd.prog 33 #[.int .i64 s] w fun x w' => x = .returned (.tuple #[.bool (inB s), .bool (outB s)]) ∧ w = w' := by
  by_cases h2 : s = 2
  · subst h2
    go_enter Tryd.func33, Tryd.ntmps33
    go_wp2
    go_ret2
    exact ⟨rfl, rfl⟩
  · by_cases h4 : s = 4
    · subst h4
      go_enter Tryd.func33, Tryd.ntmps33
      go_wp2
      go_ret2
      exact ⟨rfl, rfl⟩
    · by_cases h3 : s = 3
      · subst h3
        go_enter Tryd.func33, Tryd.ntmps33
        go_wp2
        go_ret2
        exact ⟨rfl, rfl⟩
      · have e1 : inB s = false := by simp only [inB, decide_eq_false_iff_not]; omega
        have e2 : outB s = false := by simp only [outB, decide_eq_false_iff_not]; omega
        rw [e1, e2]
        go_enter Tryd.func33, Tryd.ntmps33
        go_wp2
        go_ret2
        exact ⟨rfl, rfl⟩
theorem in_c (s : Int) (w : World) : Calls Tryd.prog 18 #[.int .i64 s] w fun x w' => x = .returned (.bool (inB s)) ∧ w = w' := by
  have H := Lib.hid (fun W => flows_c s W)
  generalize inB s = b at *
  generalize outB s = c at *
  go_enter Tryd.func18, Tryd.ntmps18
  go_wp2_with (go_at_call 33; refine (H.out _).mono ?_; rintro x w' ⟨rfl, rfl⟩)
  go_ret
  exact ⟨rfl, rfl⟩
theorem out_c (s : Int) (w : World) : Calls Tryd.prog 20 #[.int .i64 s] w fun x w' => x = .returned (.bool (outB s)) ∧ w = w' := by
  have H := Lib.hid (fun W => flows_c s W)
  generalize inB s = b at *
  generalize outB s = c at *
  go_enter Tryd.func20, Tryd.ntmps20
  go_wp2_with (go_at_call 33; refine (H.out _).mono ?_; rintro x w' ⟨rfl, rfl⟩)
  go_ret
  exact ⟨rfl, rfl⟩
theorem isEnd_c (s : Int) (w : World) : Calls Tryd.prog 22 #[.int .i64 s] w fun x w' => x = .returned (.bool (endB s)) ∧ w = w' := by
  by_cases h : s = 5
  · subst h
    go_enter Tryd.func22, Tryd.ntmps22
    go_wp2
    go_ret
    exact ⟨rfl, rfl⟩
  · have e : endB s = decide (s = 6) := by unfold endB; rw [Bool.eq_iff_iff]; simp [h]
    rw [e]
    go_enter Tryd.func22, Tryd.ntmps22
    go_wp2
    go_ret
    exact ⟨ret_bool (by rw [Bool.eq_iff_iff]; simp <;> omega), rfl⟩

set_option maxRecDepth 100000 in
set_option maxHeartbeats 2000000 in
theorem step_no (s e : Int) (b : Nat) (w : World) (hg : goes s e = false) (c0 : w.cell? ⟨b, 0, none⟩ = some (.int .i64 s)) :
    Calls Tryd.prog 31 #[.pointer (some ⟨b, 0, none⟩), .int .i64 e] w fun x w' => x = .returned (.bool false) ∧ Below w.heap.size w w' := by
  have g0 := fun W => to_c s e W
  rw [hg] at g0
  generalize dest s e = d at *
  have H := Lib.hid g0
  clear g0 hg
  go_enter Tryd.func31, Tryd.ntmps31
  go_wp2_with (go_at_call 28; refine (H.out _).mono ?_; rintro x w1 ⟨rfl, hB⟩)
  go_ret
  exact ⟨rfl, hB⟩
set_option maxRecDepth 100000 in
set_option maxHeartbeats 2000000 in
theorem step_yes (s e : Int) (n b : Nat) (hn : n ≤ 1000) (w : World) (hg : goes s e = true) (c0 : w.cell? ⟨b, 0, none⟩ = some (.int .i64 s)) (c1 : w.cell? ⟨b, 1, none⟩ = some (.int .i64 n)) (f0 : w.frozen? ⟨b, 0, none⟩ = false) (f1 : w.frozen? ⟨b, 1, none⟩ = false) :
    Calls Tryd.prog 31 #[.pointer (some ⟨b, 0, none⟩), .int .i64 e] w fun x w' => x = .returned (.bool true) ∧ ∃ w1, Below w.heap.size w w1 ∧ w' = (w1.setCell ⟨b, 0, none⟩ (.int .i64 (dest s e))).setCell ⟨b, 1, none⟩ (.int .i64 ((n : Int) + 1)) := by
  have g0 := fun W => to_c s e W
  rw [hg] at g0
  generalize dest s e = d at *
  have H := Lib.hid g0
  have hb := blt c0
  have hw : IntKind.i64.wrap ((n : Int) + 1) = (n : Int) + 1 := IntWalk.i64_in _ (by omega)
  clear g0 hg
  go_enter Tryd.func31, Tryd.ntmps31
  go_wp2_with fail
  refine (H.out _).mono ?_
  rintro x w1 ⟨rfl, hB⟩
  have k1 : w1.cell? ⟨b, 1, none⟩ = some (.int .i64 n) := (hB.cell (p := ⟨b, 1, none⟩) hb).trans c1
  have k0 : w1.cell? ⟨b, 0, none⟩ = some (.int .i64 s) := (hB.cell (p := ⟨b, 0, none⟩) hb).trans c0
  have j0 : w1.frozen? ⟨b, 0, none⟩ = false := (hB.frozen (p := ⟨b, 0, none⟩) hb).trans f0
  have j1 : w1.frozen? ⟨b, 1, none⟩ = false := (hB.frozen (p := ⟨b, 1, none⟩) hb).trans f1
  go_wp2
  go_ret
  exact ⟨rfl, w1, hB, rfl⟩
end Go.Proofs.YtephifkabpidnaaDoor
