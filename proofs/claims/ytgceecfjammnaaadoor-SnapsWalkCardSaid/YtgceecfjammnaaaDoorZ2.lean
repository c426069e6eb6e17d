/- Sd, Se, Res, Sf, Sg, Sh, Si -/
import Derived.Test.YtgceecfjammnaaaDoorZ0
import Derived.Test.YtgceecfjammnaaaDoorZ1
import Derived.LoopIn
import Derived.LoopNIn
set_option linter.unusedVariables false
set_option linter.unusedSimpArgs false
/- Snapshots in memory; slices.All over them. -/
namespace Go.Proofs.YtgceecfjammnaaaDoor.L16
open Go.RowKit Go.Shelf
attribute [local go_sem] Oper.semAt_some
set_option linter.unusedSimpArgs false
set_option linter.unusedVariables false
structure SnM where
  c : Int
  it : List ByteArray
  ita : Option Addr
  itd : Nat
  u : Int
def snmV (x : SnM) : Value := .agg #[.int .i64 x.c, .slice x.ita x.it.length x.itd, .int .i64 x.u]
def snmC (x : SnM) : List Value := [.int .i64 x.c, .slice x.ita x.it.length x.itd, .int .i64 x.u]
def snmCs (l : List SnM) : List Value := l.flatMap snmC
theorem snmCs_append (l m : List SnM) : snmCs (l ++ m) = snmCs l ++ snmCs m := List.flatMap_append
theorem snmCs_one (l : List SnM) (x : SnM) : snmCs (l ++ [x]) = snmCs l ++ [.int .i64 x.c, .slice x.ita x.it.length x.itd, .int .i64 x.u] := by rw [snmCs_append]; simp [snmCs, snmC]
theorem snmCs_length : ∀ l : List SnM, (snmCs l).length = l.length * 3
  | [] => rfl
  | x :: l => by
    have := snmCs_length l
    simp only [snmCs, List.flatMap_cons, List.length_append, List.length_cons] at this ⊢
    rw [this]; simp [snmC]; omega
theorem snmCs_get : ∀ (l : List SnM) (k : Nat) (h : k < l.length), (snmCs l)[k * 3]? = some (.int .i64 l[k].c) ∧ (snmCs l)[k * 3 + 1]? = some (.slice l[k].ita l[k].it.length l[k].itd) ∧ (snmCs l)[k * 3 + 2]? = some (.int .i64 l[k].u)
  | x :: l, 0, h => ⟨rfl, rfl, rfl⟩
  | x :: l, k + 1, h => by
    have := snmCs_get l k (by simpa using h)
    rw [show (k + 1) * 3 = k * 3 + 1 + 1 + 1 by omega]
    simpa [snmCs, snmC] using this
theorem snmCs_cells (l : List SnM) : ∀ u ∈ snmCs l, u.oneCell' = true := by
  intro u hu
  obtain ⟨x, _, hx⟩ := List.mem_flatMap.1 hu
  simp only [snmC, List.mem_cons, List.not_mem_nil, or_false] at hx
  rcases hx with rfl | rfl | rfl <;> rfl
/-- A slice in memory, below n₀, that reads as a list. -/
def SnMAt (n₀ : Nat) (W : World) (a : Option Addr) (l : List SnM) : Prop := ∀ k, (h : k < l.length) → ∃ b off, a = some ⟨b, off, none⟩ ∧ b < n₀ ∧ W.cell? ⟨b, off + k * 3, none⟩ = some (.int .i64 l[k].c) ∧ W.cell? ⟨b, off + k * 3 + 1, none⟩ = some (.slice l[k].ita l[k].it.length l[k].itd) ∧ W.cell? ⟨b, off + k * 3 + 2, none⟩ = some (.int .i64 l[k].u)
theorem SnMAt.below {n₀ : Nat} {A B : World} {a : Option Addr} {l : List SnM} (h : SnMAt n₀ A a l) (hb : Below n₀ A B) : SnMAt n₀ B a l := fun k hk => by
  obtain ⟨b, off, rfl, hlt, c0, c1, c2⟩ := h k hk
  exact ⟨b, off, rfl, hlt, (hb.cell (p := ⟨b, off + k * 3, none⟩) hlt).trans c0, (hb.cell (p := ⟨b, off + k * 3 + 1, none⟩) hlt).trans c1, (hb.cell (p := ⟨b, off + k * 3 + 2, none⟩) hlt).trans c2⟩
theorem SnMAt.mono {n m : Nat} {A : World} {a : Option Addr} {l : List SnM} (h : SnMAt n A a l) (hm : n ≤ m) : SnMAt m A a l := fun k hk => by
  obtain ⟨b, off, rfl, hlt, r⟩ := h k hk
  exact ⟨b, off, rfl, by omega, r⟩
theorem SnMAt.on {A B : World} {a : Option Addr} {l : List SnM} (h : SnMAt A.heap.size A a l) (hb : Below A.heap.size A B) : SnMAt B.heap.size B a l := (h.below hb).mono hb.size
theorem SnMAt.nil (n₀ : Nat) (W : World) (a : Option Addr) : SnMAt n₀ W a [] := fun k hk => absurd hk (Nat.not_lt_zero k)
theorem snm_of_row {W : World} {z : Nat} {v : Value} {l : List SnM} (h : W.ownsRow z 42 3 v l.length (snmCs l)) : ∃ a c, v = .slice a l.length c ∧ SnMAt W.heap.size W a l := by
  rcases h.2 with ⟨rfl, h0⟩ | ⟨g, cap, cur, rfl, hz, hg, hn, hm, hs, ht⟩
  · have e : l = [] := List.length_eq_zero_iff.1 h0
    subst e
    exact ⟨_, _, rfl, SnMAt.nil _ _ _⟩
  · refine ⟨_, _, rfl, fun k hk => ⟨g, 0, rfl, (Array.getElem?_eq_some_iff.1 hg).1, ?_⟩⟩
    have hc := fun j u (hu : (snmCs l)[j]? = some u) => h.cells (g := g) rfl j u hu
    obtain ⟨g0, g1, g2⟩ := snmCs_get l k hk
    have e : ∀ i, (⟨g, 0, none⟩ : Addr).add i = ⟨g, 0 + i, none⟩ := fun i => by unfold Addr.add; split <;> simp_all
    refine ⟨?_, ?_, ?_⟩
    · have := hc _ _ g0; rw [e] at this; exact this
    · have := hc _ _ g1; rw [e] at this; exact this
    · have := hc _ _ g2; rw [e] at this; exact this
theorem infoSnM : ∃ i, Tryd.prog.info? 42 = some i ∧ i.zero = some (.agg #[.int .i64 0, .slice none 0 0, .int .i64 0]) ∧ i.size = 3 ∧ i.bytes = 40 := by
  have z : (Tryd.prog.info? 42).map (fun i => (i.zero, i.size, i.bytes)) = some (some (.agg #[.int .i64 0, .slice none 0 0, .int .i64 0]), 3, 40) := by kernel_rfl
  cases hi : Tryd.prog.info? 42 with
  | none => rw [hi] at z; cases z
  | some i =>
    rw [hi] at z
    have z := Option.some.inj z
    simp only [Prod.mk.injEq] at z
    exact ⟨i, rfl, z.1, z.2.1, z.2.2⟩
theorem snm_load {W : World} {b : Nat} {x : SnM} (h0 : W.cell? ⟨b, 0, none⟩ = some (.int .i64 x.c)) (h1 : W.cell? ⟨b, 1, none⟩ = some (.slice x.ita x.it.length x.itd)) (h2 : W.cell? ⟨b, 2, none⟩ = some (.int .i64 x.u)) : (loadVar 42 ⟨b, 0, none⟩).run Tryd.prog W = .ok (.agg #[.int .i64 x.c, .slice x.ita x.it.length x.itd, .int .i64 x.u]) W := by simp [loadVar, isAgg, underlying, Tryd.underlying42, Result.andThen, loadCells, loadCellsFrom, Addr.add, h0, h1, h2]
set_option maxRecDepth 100000 in
set_option maxHeartbeats 4000000 in
theorem snaps_it (n : Nat) (hn : 2 ≤ n) (a : Option Addr) (cap : Nat) (l : List SnM) (hs : l.length ≤ 100000) (n₀ sb : Nat) (w : World) (h0 : w.cell? ⟨sb, 0, none⟩ = some (.slice a l.length cap)) :
    ItersG Fence.wide n Tryd.prog 76 #[.pointer (some ⟨sb, 0, none⟩)] (fun p : SnM × Nat => #[.int .i64 (p.2 : Int), snmV p.1]) (fun pre x => pre ++ [x] <+: l.zipIdx) (fun xs => xs = l.zipIdx) (fun pre => pre <+: l.zipIdx) (fun i => i = sb) (fun W => SnMAt n₀ W a l) w := by
  intro ll J Jx W Pv hW hcap hJ hJx hG hY hj
  have H0 := (hW.cell (p := ⟨sb, 0, none⟩) (blt h0)).trans h0
  have HP := Lib.hid (hcap sb rfl)
  have HY := Lib.hid hY
  have HJ := Lib.hid hJ
  have HGG := Lib.hid hG
  have hJ0 := Lib.hid hj
  clear hW hcap hJ hJx hG hY hj h0
  refine callsIn_of_wp Tryd.func76 rfl trivial ?_ rfl
  simp only [Tryd.ntmps76, List.size_toArray, List.length_cons, List.length_nil, Nat.reduceAdd, Nat.reduceSub, Array.replicate_succ, Array.replicate_zero, List.push_toArray, List.append_toArray, List.nil_append, List.cons_append]
  gi_wp2
  gi_loopw [7] (fun i wr => ∃ (k : Nat) (Pv : Nat → Prop), k ≤ l.length ∧ i = .int .i64 (k : Int) ∧ Hid (J (l.zipIdx.take k) Pv wr) ∧ Hid (Pv sb)) (fun i _ => l.length + 1 - (intOf i).toNat)
  case atStart => exact ⟨0, Pv, by omega, rfl, hJ0, HP⟩
  case round =>
    clear hJ0 HP H0
    obtain ⟨k, Pv, hk, rfl, hj, hp⟩ := hrel
    by_cases hlt : k < l.length
    · have hlt' : (k : Int) < (l.length : Int) := by omega
      have HT := Lib.hid (show l.zipIdx.take (k + 1) = l.zipIdx.take k ++ [(l[k], k)] by rw [List.take_succ_eq_append_getElem (by simpa using hlt)]; simp)
      have hpre : l.zipIdx.take k ++ [(l[k], k)] <+: l.zipIdx := by rw [← HT.out]; exact List.take_prefix _ _
      obtain ⟨b, off, rfl, hbn, c0, c1, c2⟩ := HGG.out _ _ _ hj.out k hlt
      generalize l[k] = x at *
      have hj1 : J (l.zipIdx.take k) Pv (wr.alloc (.cells #[.int .i64 x.c, .slice x.ita x.it.length x.itd, .int .i64 x.u] 42)) := HJ.out _ _ _ _ _ hj.out (Goes.of_below (below_alloc wr _)) (More.same _ _ _)
      obtain ⟨fn, tmps, assign, body, hy, hR⟩ := HY.out _ _ Pv _ hpre hj1
      unfold snmV at hy
      have HPR := Lib.hid hpre
      clear hpre hj1 hbn hj
      gi_wp2
      refine ⟨fun _ => (by omega), hR.mono ?_⟩
      clear hy hR c0 c1 c2
      rintro e V2 (⟨rfl, hJ2, hM⟩ | ⟨rfl, hX2, hM⟩)
      · have HJ2 := Lib.hid hJ2
        clear hJ2 hM
        gi_wp2
        go_roundw
        case rel => exact ⟨k + 1, Pv, by omega, by go_num, by rw [HT.out]; exact HJ2, hp⟩
        case measure => simp [intOf]; omega
      · have HX2 := Lib.hid hX2
        clear hX2 hM
        gi_wp2
        refine bodyPost_ret (results_none rfl _ _ _) rfl ?_
        exact ⟨⟨_, rfl⟩, .inr ⟨_, _, HPR.out, HX2.out⟩⟩
    · have hlt' : ¬ (k : Int) < (l.length : Int) := by omega
      obtain rfl : k = l.length := by omega
      rw [show l.zipIdx.take l.length = l.zipIdx from List.take_of_length_le (by simp)] at hj
      gi_wp2
      go_end0
      first | exact ⟨⟨_, rfl⟩, .inl ⟨_, hj.out⟩⟩ | exact ⟨⟨_, rfl⟩, .inl ⟨_, _, rfl, hj.out⟩⟩

/-- Without where it lies. -/
def SnM.p (x : SnM) : Snp := ⟨x.c, x.it, x.u⟩
/-- Snapshots, and their items, in memory. -/
structure PlAt (n : Nat) (W : World) (a : Option Addr) (l : List SnM) : Prop where
  s : SnMAt n W a l
  i : ∀ x ∈ l, StrsAt n W x.ita x.it
theorem PlAt.below {n : Nat} {A B : World} {a : Option Addr} {l : List SnM} (h : PlAt n A a l) (hb : Below n A B) : PlAt n B a l := ⟨h.s.below hb, fun x hx => (h.i x hx).below hb⟩
theorem PlAt.mono {n m : Nat} {A : World} {a : Option Addr} {l : List SnM} (h : PlAt n A a l) (hm : n ≤ m) : PlAt m A a l := ⟨h.s.mono hm, fun x hx => (h.i x hx).mono hm⟩
theorem PlAt.on {A B : World} {a : Option Addr} {l : List SnM} (h : PlAt A.heap.size A a l) (hb : Below A.heap.size A B) : PlAt B.heap.size B a l := (h.below hb).mono hb.size
end Go.Proofs.YtgceecfjammnaaaDoor.L16

/- Items: which are right. -/
namespace Go.Proofs.YtgceecfjammnaaaDoor.L16
open Go.RowKit Go.Shelf
attribute [local go_sem] Oper.semAt_some
set_option linter.unusedSimpArgs false
set_option linter.unusedVariables false
set_option maxRecDepth 100000 in
set_option maxHeartbeats 4000000 in
theorem notWord_c (s : ByteArray) (hs : s.size ≤ 1000000) (w : World) : Calls Tryd.prog 53 #[.string s] w fun x w' => x = .returned (.bool (!wordB s)) ∧ Below w.heap.size w w' := by
  have HW := Lib.hid (fun W => word_c s hs W)
  generalize wordB s = B at *
  go_enter Tryd.func53, Tryd.ntmps53
  go_wp2_with (go_at_call 54; refine (HW.out _).mono ?_; rintro e w2 ⟨rfl, hb⟩)
  go_ret
  exact ⟨rfl, hb⟩
set_option maxRecDepth 100000 in
set_option maxHeartbeats 4000000 in
theorem index_c (a : Option Addr) (cap : Nat) (l : List ByteArray) (hl : l.length ≤ 100000) (hs : ∀ s ∈ l, s.size ≤ 1000000) (w : World) (h : StrsAt w.heap.size w a l) :
    Calls Tryd.prog 63 #[.slice a l.length cap, .func (.func 53) #[] #[]] w fun x w' => ∃ i : Int, x = .returned (.int .i64 i) ∧ decide (0 ≤ i) = (!l.all wordB) ∧ Below w.heap.size w w' := by
  have HA := Lib.hid h
  have HS := Lib.hid hs
  clear h hs
  obtain ⟨N, hN⟩ : ∃ N, l.length = N := ⟨_, rfl⟩
  have HN := Lib.hid hN
  rw [hN] at hl ⊢
  clear hN
  go_enter Tryd.func63, Tryd.ntmps63
  go_wp2
  go_loopw [8] (fun i wr => Hid (Below w.heap.size w wr) ∧ ∃ k : Nat, k ≤ N ∧ i = .int .i64 (k : Int) ∧ Hid ((l.take k).all wordB = true)) (fun i _ => N - (intOf i).toNat)
  case atStart => exact ⟨Lib.hid (Below.refl _ _), 0, Nat.zero_le _, rfl, Lib.hid rfl⟩
  case round =>
    obtain ⟨HW, k, hk, rfl, HT⟩ := hrel
    by_cases hlt : k < N
    · have hkl : k < l.length := by have := HN.out; omega
      obtain ⟨b, o, rfl, _, p1⟩ := (HA.out.below HW.out) k hkl
      have hlt' : (k : Int) < (N : Int) := by omega
      have HC := Lib.hid (fun W => notWord_c l[k] (HS.out _ (List.getElem_mem hkl)) W)
      have H1 := Lib.hid (show wordB l[k] = true → (l.take (k + 1)).all wordB = true from fun e => by rw [List.take_succ_eq_append_getElem hkl, List.all_append, HT.out]; simp [e])
      have H2 := Lib.hid (show wordB l[k] = false → l.all wordB = false from fun e => List.all_eq_false.2 ⟨l[k], List.getElem_mem hkl, by rw [e]; simp⟩)
      generalize l[k] = s at *
      clear hkl
      cases hw : wordB s
      · rw [hw] at HC
        have HF := Lib.hid (H2.out hw)
        clear hw
        go_wp2_with (go_at_call 53; refine (HC.out _).mono ?_; rintro e w2 ⟨rfl, hb⟩)
        go_ret
        exact ⟨_, rfl, by rw [HF.out]; simp, btr HW.out hb⟩
      · rw [hw] at HC
        have HF := Lib.hid (H1.out hw)
        clear hw
        go_wp2_with (go_at_call 53; refine (HC.out _).mono ?_; rintro e w2 ⟨rfl, hb⟩)
        go_roundw
        case rel => exact ⟨Lib.hid (btr HW.out hb), k + 1, by omega, by go_num, HF⟩
        case measure => simp [intOf]; omega
    · obtain rfl : N = k := by omega
      have hlt' : ¬ (N : Int) < (N : Int) := by omega
      have HF := Lib.hid (show l.all wordB = true by have := HT.out; rw [List.take_of_length_le (by have := HN.out; omega)] at this; exact this)
      go_wp2
      go_ret
      exact ⟨_, rfl, by rw [HF.out]; decide, HW.out⟩
set_option maxRecDepth 100000 in
set_option maxHeartbeats 4000000 in
theorem items1_c (a : Option Addr) (cap b : Nat) (l : List ByteArray) (hl : l.length ≤ 100000) (hs : ∀ s ∈ l, s.size ≤ 1000000) (w : World) (h0 : w.cell? ⟨b, 0, none⟩ = some (.slice a l.length cap)) (h : StrsAt w.heap.size w a l) :
    Calls Tryd.prog 51 #[.pointer (some ⟨b, 0, none⟩)] w fun x w' => x = .returned (errV (itemsB wordB l) 160) ∧ Below w.heap.size w w' := by
  have HI := Lib.hid (index_c a cap l hl hs w h)
  have HC := Lib.hid (show Calls Tryd.prog 52 #[.slice a l.length cap, .func (.func 53) #[] #[]] w fun x w' => x = .returned (.bool (!l.all wordB)) ∧ Below w.heap.size w w' by
    go_enter Tryd.func52, Tryd.ntmps52
    go_wp2_with (go_at_call 63; refine HI.out.mono ?_; rintro e w2 ⟨i, rfl, hi, hb⟩)
    go_ret
    exact ⟨by first | rfl | exact ret_bool hi, hb⟩)
  have HU := Lib.hid (fun W b => unless_c W b 160)
  clear HI h
  unfold itemsB
  generalize l.all wordB = B at *
  generalize l.length = N at *
  by_cases hn : N ≤ 64
  · have h2 : (N : Int) ≤ 64 := by omega
    have HF := Lib.hid (decide_eq_true hn)
    go_enter Tryd.func51, Tryd.ntmps51
    go_wp2_with (first
      | (go_at_call 52; refine HC.out.mono ?_; rintro e w2 ⟨rfl, hb⟩)
      | (go_at_call 37; refine (HU.out _ _).mono ?_; rintro e w1 ⟨rfl, rfl⟩))
    go_ret
    exact ⟨by rw [HF.out]; simp, hb⟩
  · have h2 : ¬ (N : Int) ≤ 64 := by omega
    have HF := Lib.hid (decide_eq_false hn)
    go_enter Tryd.func51, Tryd.ntmps51
    go_wp2_with (go_at_call 37; refine (HU.out _ _).mono ?_; rintro e w1 ⟨rfl, rfl⟩)
    go_ret
    exact ⟨by rw [HF.out]; rfl, Below.refl _ _⟩
end Go.Proofs.YtgceecfjammnaaaDoor.L16

/- Results that lie in a cell (layer 3 has these in its texts R, V). -/
namespace Go.Proofs.YtgceecfjammnaaaDoor
open Go.RowKit Go.Shelf

theorem results_cell {P : Program} {fn : Func} {p : Tmp} {ty : TypeId} (h : fn.results = #[.cell p ty]) (tmps : Array Value) (w : World) {a : Addr} {v : Value} (hp : tmps.getD p undef = .pointer (some a)) (hl : (loadVar ty a).run P w = .ok v w) : (results fn tmps).run P w = .ok v w := by
  simp only [results, h]
  have hp2 : tmps[p]?.getD undef = .pointer (some a) := by simpa using hp
  simp [asAddr, hp2, hl]
theorem results_cell2 {P : Program} {fn : Func} {p u v : Tmp} {ty : TypeId} (h : fn.results = #[.cell p ty, .tmp u, .tmp v]) (tmps : Array Value) (w : World) {a : Addr} {x : Value} (hp : tmps.getD p undef = .pointer (some a)) (hl : (loadVar ty a).run P w = .ok x w) : (results fn tmps).run P w = .ok (.tuple #[x, tmps.getD u undef, tmps.getD v undef]) w := by
  simp only [results, h]
  have hp2 : tmps[p]?.getD undef = .pointer (some a) := by simpa using hp
  simp [Result.andThen, asAddr, hp2, hl]
theorem results_cellt {P : Program} {fn : Func} {p u : Tmp} {ty : TypeId} (h : fn.results = #[.cell p ty, .tmp u]) (tmps : Array Value) (w : World) {a : Addr} {x y : Value} (hp : tmps.getD p undef = .pointer (some a)) (hu : tmps.getD u undef = y) (hl : (loadVar ty a).run P w = .ok x w) : (results fn tmps).run P w = .ok (.tuple #[x, y]) w := by
  subst hu
  simp only [results, h]
  have hp2 : tmps[p]?.getD undef = .pointer (some a) := by simpa using hp
  simp [Result.andThen, asAddr, hp2, hl]
end Go.Proofs.YtgceecfjammnaaaDoor

/- A pool's checks: Next, room, items. -/
namespace Go.Proofs.YtgceecfjammnaaaDoor.L16
open Go.RowKit Go.Shelf
attribute [local go_sem] Oper.semAt_some
set_option linter.unusedSimpArgs false
set_option linter.unusedVariables false
def nextB (n : Int) : Bool := decide (1 ≤ n ∧ n ≤ 1000000000000)
def roomB (L : Nat) : Bool := decide (L ≤ 3)
set_option maxRecDepth 100000 in
set_option maxHeartbeats 4000000 in
theorem hasNext_c (a : Option Addr) (L cap : Nat) (n : Int) (w : World) : Calls Tryd.prog 46 #[.agg #[.slice a L cap, .int .i64 n]] w fun x w' => x = .returned (.bool (nextB n)) ∧ Below w.heap.size w w' := by
  by_cases h1 : n ≥ 1
  · by_cases h2 : n ≤ 1000000000000
    · have HF := Lib.hid (show nextB n = true from decide_eq_true (And.intro (show 1 ≤ n from h1) h2))
      go_enter Tryd.func46, Tryd.ntmps46
      go_wp2
      go_ret
      exact ⟨ret_bool HF.out.symm, below_alloc _ _⟩
    · have HF := Lib.hid (show nextB n = false from decide_eq_false (fun h => h2 h.2))
      go_enter Tryd.func46, Tryd.ntmps46
      go_wp2
      go_ret
      exact ⟨ret_bool HF.out.symm, below_alloc _ _⟩
  · have HF := Lib.hid (show nextB n = false from decide_eq_false (fun h => h1 h.1))
    go_enter Tryd.func46, Tryd.ntmps46
    go_wp2
    go_ret
    exact ⟨ret_bool HF.out.symm, below_alloc _ _⟩
set_option maxRecDepth 100000 in
set_option maxHeartbeats 4000000 in
theorem hasRoom_c (a : Option Addr) (L cap : Nat) (n : Int) (w : World) : Calls Tryd.prog 47 #[.agg #[.slice a L cap, .int .i64 n]] w fun x w' => x = .returned (.bool (roomB L)) ∧ Below w.heap.size w w' := by
  by_cases h1 : L ≤ 3
  · have HF := Lib.hid (show roomB L = true from decide_eq_true h1)
    have h2 : (L : Int) ≤ 3 := by omega
    go_enter Tryd.func47, Tryd.ntmps47
    go_wp2
    go_ret
    exact ⟨ret_bool HF.out.symm, below_alloc _ _⟩
  · have HF := Lib.hid (show roomB L = false from decide_eq_false h1)
    have h2 : ¬ (L : Int) ≤ 3 := by omega
    go_enter Tryd.func47, Tryd.ntmps47
    go_wp2
    go_ret
    exact ⟨ret_bool HF.out.symm, below_alloc _ _⟩
set_option maxRecDepth 100000 in
set_option maxHeartbeats 4000000 in
theorem snaps_c (a : Option Addr) (L cap : Nat) (n : Int) (w : World) : Calls Tryd.prog 57 #[.agg #[.slice a L cap, .int .i64 n]] w fun x w' => x = .returned (.func (.func 76) #[] #[.pointer (some ⟨w.heap.size + 1, 0, none⟩)]) ∧ w' = (w.alloc (.cells #[.slice a L cap, .int .i64 n] 48)).alloc (.cells #[.slice a L cap] 22) := by
  have HV := Lib.hid (show ∀ W : World, Calls Tryd.prog 69 #[.slice a L cap] W fun x w' => x = .returned (.func (.func 76) #[] #[.pointer (some ⟨W.heap.size, 0, none⟩)]) ∧ w' = W.alloc (.cells #[.slice a L cap] 22) from fun W => by
    go_enter Tryd.func69, Tryd.ntmps69
    go_wp2
    go_ret
    exact ⟨rfl, rfl⟩)
  go_enter Tryd.func57, Tryd.ntmps57
  go_wp2_with fail
  refine (HV.out _).mono ?_
  rintro e w1 ⟨rfl, rfl⟩
  go_wp2
  go_ret
  exact ⟨by simp, rfl⟩
theorem areItems_c (a : Option Addr) (L cap : Nat) (w : World) : Calls Tryd.prog 25 #[.slice a L cap] w fun x w' => x = .returned (.func (.func 51) #[] #[.pointer (some ⟨w.heap.size, 0, none⟩)]) ∧ w' = w.alloc (.cells #[.slice a L cap] 25) := by
  go_enter Tryd.func25, Tryd.ntmps25
  go_wp2
  go_ret
  exact ⟨rfl, rfl⟩
end Go.Proofs.YtgceecfjammnaaaDoor.L16

/- A pool's check of its items. -/
namespace Go.Proofs.YtgceecfjammnaaaDoor.L16
open Go.RowKit Go.Shelf
attribute [local go_sem] Oper.semAt_some
set_option linter.unusedSimpArgs false
set_option linter.unusedVariables false

structure ItI (w : World) (pre : List (SnM × Nat)) (Pv : Nat → Prop) (W : World) : Prop where
  c1 : W.cell? ⟨w.heap.size + 1, 0, none⟩ = some (.bool false)
  f1 : W.frozen? ⟨w.heap.size + 1, 0, none⟩ = false
  ok : pre.all (fun x => itemsB wordB x.1.it) = true
  below : Below w.heap.size w W
  pv : ∀ i, Pv i → w.heap.size + 1 < i
theorem ItI.steady (w : World) : Steady (ItI w) := by
  rintro s Pv Pv' X Y ⟨h2, h3, h4, h5, h6⟩ hg hm
  have n1 : ¬ Pv (w.heap.size + 1) := fun h => by have := h6 _ h; omega
  have z := blt h2
  refine ⟨hg.cell h2 n1, (hg.frozen h2 n1).trans h3, h4, hg.below h5 (fun i h => by have := h6 i h; omega), fun i hi => ?_⟩
  rcases hm i hi with h | ⟨h, _⟩
  · exact h6 i h
  · omega
structure ItX (l : List SnM) (w : World) (c : Code) (_ : List (SnM × Nat)) (Pv : Nat → Prop) (W : World) : Prop where
  c : c = .ret
  c1 : W.cell? ⟨w.heap.size + 1, 0, none⟩ = some (.bool false)
  no : l.all (fun x => itemsB wordB x.it) = false
  below : Below w.heap.size w W
  pv : ∀ i, Pv i → w.heap.size + 1 < i
theorem ItX.steady (l : List SnM) (w : World) (c : Code) : Steady (ItX l w c) := by
  rintro s Pv Pv' X Y ⟨h0, h2, h4, h5, h6⟩ hg hm
  have n1 : ¬ Pv (w.heap.size + 1) := fun h => by have := h6 _ h; omega
  have z := blt h2
  refine ⟨h0, hg.cell h2 n1, h4, hg.below h5 (fun i h => by have := h6 i h; omega), fun i hi => ?_⟩
  rcases hm i hi with h | ⟨h, _⟩
  · exact h6 i h
  · omega
theorem mem_idx {pre : List (SnM × Nat)} {l : List SnM} {x : SnM × Nat} (h : pre ++ [x] <+: l.zipIdx) : x.1 ∈ l := by
  have := h.subset (List.mem_append_right _ (List.mem_singleton.2 rfl))
  obtain ⟨s, k⟩ := x
  exact (List.mem_zipIdx' this).2 ▸ List.getElem_mem _
theorem all_idx (l : List SnM) (f : SnM → Bool) : l.zipIdx.all (fun x => f x.1) = l.all f := by
  rw [show (fun x : SnM × Nat => f x.1) = f ∘ Prod.fst from rfl, ← List.all_map, List.zipIdx_map_fst]
theorem all_no {l : List SnM} {f : SnM → Bool} {x : SnM} (hx : x ∈ l) (h : f x = false) : l.all f = false := List.all_eq_false.2 ⟨x, hx, by rw [h]; simp⟩
set_option maxRecDepth 100000 in
set_option maxHeartbeats 4000000 in
theorem hasItems_c (a : Option Addr) (cap : Nat) (n : Int) (l : List SnM) (hl : l.length ≤ 100000) (hi : ∀ x ∈ l, x.it.length ≤ 100000 ∧ ∀ s ∈ x.it, s.size ≤ 1000000) (w : World) (h : PlAt w.heap.size w a l) :
    Calls Tryd.prog 48 #[.agg #[.slice a l.length cap, .int .i64 n]] w fun x w' => x = .returned (.bool (l.all fun x => itemsB wordB x.it)) ∧ Below w.heap.size w w' := by
  refine (callsIn_wide (n := 8)).1 ?_
  have HE := Lib.hid (fun W => snaps_c a l.length cap n W)
  have HR := Lib.hid (fun a L c W => areItems_c a L c W)
  have HA := Lib.hid h
  have HI := Lib.hid hi
  clear h hi
  refine callsIn_of_wp_marks Tryd.func48 rfl trivial ?_ rfl
  simp only [Tryd.ntmps48, List.size_toArray, List.length_cons, List.length_nil, Nat.reduceAdd, Nat.reduceSub, Array.replicate_succ, Array.replicate_zero, List.push_toArray, List.append_toArray, List.nil_append, List.cons_append]
  gi_wp2_with fail
  refine ⟨trivial, (callsIn_wide.2 (HE.out _)).mono ?_⟩
  rintro e w' ⟨rfl, rfl⟩
  clear HE
  have hst : ((((w.alloc (.cells #[.slice a l.length cap, .int .i64 n] 48)).alloc (.cells #[.bool false] 4)).alloc (.cells #[.slice a l.length cap, .int .i64 n] 48)).alloc (.cells #[.slice a l.length cap] 22)).cell? ⟨w.heap.size + 3, 0, none⟩ = some (.slice a l.length cap) := by go_simp
  have hI : ItI w [] (fun i => i = w.heap.size + 3) ((((w.alloc (.cells #[.slice a l.length cap, .int .i64 n] 48)).alloc (.cells #[.bool false] 4)).alloc (.cells #[.slice a l.length cap, .int .i64 n] 48)).alloc (.cells #[.slice a l.length cap] 22)) := ⟨by go_simp, by go_simp, rfl, bal (bal (bal (below_alloc w _) _) _) _, fun i h => by omega⟩
  have hsb : ((w.alloc (.cells #[.slice a l.length cap, .int .i64 n] 48)).alloc (.cells #[.bool false] 4)).heap.size = w.heap.size + 2 := by simp
  simp only [hsb]
  generalize ((((w.alloc (.cells #[.slice a l.length cap, .int .i64 n] 48)).alloc (.cells #[.bool false] 4)).alloc (.cells #[.slice a l.length cap, .int .i64 n] 48)).alloc (.cells #[.slice a l.length cap] 22)) = Z at *
  have HBI := Lib.hid (snaps_it 7 (by omega) a cap l hl w.heap.size (w.heap.size + 3) Z hst)
  clear hsb
  gi_wp2_with fail
  refine wpIn_range_itersG (n := 8) (encs := fun p : SnM × Nat => #[.int .i64 (p.2 : Int), snmV p.1]) (ps := #[7, 8]) rfl (by omega) (gf := 76) (lb := #[.pointer (some ⟨w.heap.size + 3, 0, none⟩)]) rfl trivial (enters_of Tryd.func76 (by kernel_rfl) rfl)
    HBI.out (Below.refl _ _) (fun _ => rfl) (fun i h => by rw [h]; exact blt hst) (ItI w) (ItX l w) (fun s Pv W h => HA.out.s.below h.below) (ItI.steady w) ?steadyx hI ?round ?done ?stop
  case steadyx => exact fun c => ItX.steady l w c
  case round =>
    clear HBI hI
    rintro K pre x Pv W hc hI2 hPl hll ⟨rec, hrec⟩
    simp only [snmV]
    gi_wp2
    refine ⟨(Mid.refl Pv W).alloc _, fun W2 hG hr2 => ?_⟩
    have hKW : K < W.heap.size := (Array.getElem?_eq_some_iff.1 hrec).1
    have x0 : (W.alloc (.cells #[.int .i64 x.1.c, .slice x.1.ita x.1.it.length x.1.itd, .int .i64 x.1.u] 42)).cell? ⟨W.heap.size, 0, none⟩ = some (.int .i64 x.1.c) := by go_simp
    have x1 : (W.alloc (.cells #[.int .i64 x.1.c, .slice x.1.ita x.1.it.length x.1.itd, .int .i64 x.1.u] 42)).cell? ⟨W.heap.size, 1, none⟩ = some (.slice x.1.ita x.1.it.length x.1.itd) := by go_simp
    have x2 : (W.alloc (.cells #[.int .i64 x.1.c, .slice x.1.ita x.1.it.length x.1.itd, .int .i64 x.1.u] 42)).cell? ⟨W.heap.size, 2, none⟩ = some (.int .i64 x.1.u) := by go_simp
    replace x0 := hG.cell x0 (fun h => by omega)
    replace x1 := hG.cell x1 (fun h => by omega)
    replace x2 := hG.cell x2 (fun h => by omega)
    have hI3 := ItI.steady w _ _ _ _ _ (ItI.steady w _ _ _ _ _ hI2 (Goes.of_below (below_alloc W (.cells #[.int .i64 x.1.c, .slice x.1.ita x.1.it.length x.1.itd, .int .i64 x.1.u] 42))) (More.same _ _ _)) (hG.mono (fun i h => h ▸ hPl)) (More.same _ _ _)
    have hx := mem_idx hc
    clear hI2 hG hr2 hrec hll hc
    obtain ⟨q1, f1, hok, hbw, hpv⟩ := hI3
    obtain ⟨hi1, hi2⟩ := HI.out x.1 hx
    have HX := Lib.hid (items1_c x.1.ita x.1.itd W2.heap.size x.1.it hi1 hi2 (W2.alloc (.cells #[.slice x.1.ita x.1.it.length x.1.itd] 25)) (by go_simp) (((HA.out.i x.1 hx).below (hbw.trans ((below_alloc W2 _).mono hbw.size))).mono (by have := hbw.size; simp; omega)))
    generalize W.heap.size = B at *
    cases hxo : itemsB wordB x.1.it
    · rw [hxo, show errV false 160 = Value.iface 75 (.agg #[.int .i64 160]) from rfl] at HX
      have HN := Lib.hid (all_no (f := fun x => itemsB wordB x.it) hx hxo)
      have HB := Lib.hid hbw
      have HP := Lib.hid hpv
      have z1 := blt q1
      clear hxo hx hok hbw hpv hi1 hi2
      gi_wp2_with fail
      refine ⟨trivial, (CallsIn.inRound K (callsIn_wide.2 (HR.out _ _ _ _))).mono ?_⟩
      rintro e w1 ⟨rfl, rfl⟩
      gi_wp2_with fail
      refine ⟨trivial, (CallsIn.inRound K (callsIn_wide.2 HX.out)).mono ?_⟩
      (rintro e w1 ⟨rfl, hb⟩; have hb2 := btr (below_alloc W2 _) hb; have q1' := (hb2.cell (blt q1)).trans q1; have f1' := (hb2.frozen (blt q1)).trans f1; have HB1 := Lib.hid hb2; clear hb hb2)
      gi_wp2
      refine ⟨⟨rfl, by go_simp, HN.out, (btr HB.out HB1.out).setCell (by show w.heap.size ≤ w.heap.size + 1; omega) _, HP.out⟩, (Mid.of_below HB1.out).setCell _ (fun h => by have := HP.out _ h; omega)⟩
    · rw [hxo, show errV true 160 = Value.nilIface from rfl] at HX
      have HO := Lib.hid (show (pre ++ [x]).all (fun x => itemsB wordB x.1.it) = true by rw [List.all_append, hok]; simp [hxo])
      have HB := Lib.hid hbw
      have HP := Lib.hid hpv
      clear hxo hx hok hbw hpv hi1 hi2
      gi_wp2_with fail
      refine ⟨trivial, (CallsIn.inRound K (callsIn_wide.2 (HR.out _ _ _ _))).mono ?_⟩
      rintro e w1 ⟨rfl, rfl⟩
      gi_wp2_with fail
      refine ⟨trivial, (CallsIn.inRound K (callsIn_wide.2 HX.out)).mono ?_⟩
      (rintro e w1 ⟨rfl, hb⟩; have hb2 := btr (below_alloc W2 _) hb; have q1' := (hb2.cell (blt q1)).trans q1; have f1' := (hb2.frozen (blt q1)).trans f1; have HB1 := Lib.hid hb2; clear hb hb2)
      gi_wp2
      exact ⟨⟨q1', f1', HO.out, btr HB.out HB1.out, HP.out⟩, Mid.of_below HB1.out⟩
  case done =>
    rintro D xs Pv W hlD hpD rfl ⟨q1, f1, hok, hbw, hpv⟩ hdef
    rw [all_idx l (fun x => itemsB wordB x.it)] at hok
    have HBW := Lib.hid hbw
    have HD := Lib.hid hdef
    have HO := Lib.hid hok
    have hDW : D < W.heap.size := (Array.getElem?_eq_some_iff.1 hdef).1
    have z1 := blt q1
    have zD := blt hst
    clear hbw hdef hpv hok hI HBI hst
    gi_wp2
    have HD2 : (W.setCell ⟨w.heap.size + 1, 0, none⟩ (.bool true)).heap[D]? = some (.deferred (some [])) := (Below.heap_setCell W ⟨w.heap.size + 1, 0, none⟩ _ D (by show D ≠ w.heap.size + 1; omega)).trans HD.out
    have e1 : (W.setCell ⟨w.heap.size + 1, 0, none⟩ (.bool true)).cell? ⟨w.heap.size + 1, 0, none⟩ = some (.bool true) := by go_simp
    have HB2 := Lib.hid (HBW.out.setCell (p := ⟨w.heap.size + 1, 0, none⟩) (by show w.heap.size ≤ w.heap.size + 1; omega) (.bool true))
    refine ⟨by simp, .inl ⟨_, _, rfl, run_takeDeferred HD2, ?_⟩⟩
    have e2 : ((W.setCell ⟨w.heap.size + 1, 0, none⟩ (.bool true)).putObj D (.deferred none)).cell? ⟨w.heap.size + 1, 0, none⟩ = some (.bool true) := (World.cell?_of_block (World.putObj_heap_other (by show w.heap.size + 1 ≠ D; omega))).trans e1
    refine ⟨_, results_cell rfl _ _ (by rfl) (show (loadVar 4 ⟨w.heap.size + 1, 0, none⟩).run Tryd.prog _ = .ok (.bool true) _ by simp [loadVar, isAgg, underlying, Tryd.underlying4, e2]), ?_, ?_⟩
    · rw [HO.out]
    · exact HB2.out.grown (grownBy_putObj' _ D _) HB2.out.size (fun j hj => by cases hj; omega)
  case stop =>
    rintro D c pre Pv W hlD hpD hSp ⟨rfl, q1, hno, hbw, hpv⟩ hdef
    have HBW := Lib.hid hbw
    have HD := Lib.hid hdef
    have HN := Lib.hid hno
    have hDW : D < W.heap.size := (Array.getElem?_eq_some_iff.1 hdef).1
    have zD := blt hst
    clear hbw hdef hpv hno hI HBI hst
    gi_wp2
    refine ⟨by simp, .inl ⟨_, _, rfl, run_takeDeferred HD.out, ?_⟩⟩
    have e2 : (W.putObj D (.deferred none)).cell? ⟨w.heap.size + 1, 0, none⟩ = some (.bool false) := (World.cell?_of_block (World.putObj_heap_other (by show w.heap.size + 1 ≠ D; omega))).trans q1
    refine ⟨_, results_cell rfl _ _ (by rfl) (show (loadVar 4 ⟨w.heap.size + 1, 0, none⟩).run Tryd.prog _ = .ok (.bool false) _ by simp [loadVar, isAgg, underlying, Tryd.underlying4, e2]), ?_, ?_⟩
    · rw [HN.out]
    · exact HBW.out.grown (grownBy_putObj' _ D _) HBW.out.size (fun j hj => by cases hj; omega)
end Go.Proofs.YtgceecfjammnaaaDoor.L16

/- A pool's check of its order. -/
namespace Go.Proofs.YtgceecfjammnaaaDoor.L16
open Go.RowKit Go.Shelf
attribute [local go_sem] Oper.semAt_some
set_option linter.unusedSimpArgs false
set_option linter.unusedVariables false

def lastD (a : Int) (l : List Snp) : Int := match l.getLast? with | none => a | some s => s.u
theorem lastD_snoc (a : Int) (l : List Snp) (x : Snp) : lastD a (l ++ [x]) = x.u := by simp [lastD]
theorem lastD_cons (a : Int) (x : Snp) (l : List Snp) : lastD a (x :: l) = lastD x.u l := by
  cases l with
  | nil => rfl
  | cons y r =>
    unfold lastD
    rw [List.getLast?_cons_cons]
    cases h : (y :: r).getLast? with
    | none => simp at h
    | some s => rfl
theorem usedB_two : ∀ (l : List Snp) (x : Snp) (a : Int), usedB a (l ++ [x]) = (usedB a l && decide (lastD a l ≤ x.u ∧ x.u ≤ 1000000000000))
  | [], x, a => by
    show (decide (a ≤ x.u ∧ x.u ≤ 1000000000000) && true) = (true && decide (a ≤ x.u ∧ x.u ≤ 1000000000000))
    rw [Bool.and_true, Bool.true_and]
  | y :: l, x, a => by
    rw [List.cons_append, usedB, usedB, usedB_two l x y.u, lastD_cons, Bool.and_assoc]
theorem usedB_pre {l m : List Snp} {a : Int} (h : usedB a l = false) : usedB a (l ++ m) = false := by
  induction l generalizing a with
  | nil => cases h
  | cons y l ih =>
    rw [List.cons_append, usedB]
    rw [usedB] at h
    cases hd : decide (a ≤ y.u ∧ y.u ≤ 1000000000000)
    · rfl
    · rw [hd, Bool.true_and] at h
      rw [Bool.true_and]
      exact ih h
def PP (pre : List (SnM × Nat)) : List Snp := pre.map fun x => x.1.p
theorem PP_snoc (pre : List (SnM × Nat)) (x : SnM × Nat) : PP (pre ++ [x]) = PP pre ++ [x.1.p] := by simp [PP]
theorem PP_idx (l : List SnM) : PP l.zipIdx = l.map SnM.p := by
  unfold PP
  rw [show (fun x : SnM × Nat => x.1.p) = SnM.p ∘ Prod.fst from rfl, ← List.map_map, List.zipIdx_map_fst]
theorem PP_no {pre : List (SnM × Nat)} {l : List SnM} {x : SnM × Nat} (h : pre ++ [x] <+: l.zipIdx) (hn : usedB 0 (PP (pre ++ [x])) = false) : usedB 0 (l.map SnM.p) = false := by
  obtain ⟨m, e⟩ := h
  rw [← PP_idx, ← e]
  unfold PP at hn ⊢
  rw [List.map_append]
  exact usedB_pre hn
structure OrI (w : World) (pre : List (SnM × Nat)) (Pv : Nat → Prop) (W : World) : Prop where
  c1 : W.cell? ⟨w.heap.size + 1, 0, none⟩ = some (.bool false)
  f1 : W.frozen? ⟨w.heap.size + 1, 0, none⟩ = false
  c2 : W.cell? ⟨w.heap.size + 2, 0, none⟩ = some (.int .i64 (lastD 0 (PP pre)))
  f2 : W.frozen? ⟨w.heap.size + 2, 0, none⟩ = false
  ok : usedB 0 (PP pre) = true
  below : Below w.heap.size w W
  pv : ∀ i, Pv i → w.heap.size + 2 < i
theorem OrI.steady (w : World) : Steady (OrI w) := by
  rintro s Pv Pv' X Y ⟨h2, h3, g2, g3, h4, h5, h6⟩ hg hm
  have n1 : ¬ Pv (w.heap.size + 1) := fun h => by have := h6 _ h; omega
  have n2 : ¬ Pv (w.heap.size + 2) := fun h => by have := h6 _ h; omega
  have z := blt g2
  refine ⟨hg.cell h2 n1, (hg.frozen h2 n1).trans h3, hg.cell g2 n2, (hg.frozen g2 n2).trans g3, h4, hg.below h5 (fun i h => by have := h6 i h; omega), fun i hi => ?_⟩
  rcases hm i hi with h | ⟨h, _⟩
  · exact h6 i h
  · omega
structure OrX (l : List SnM) (w : World) (c : Code) (_ : List (SnM × Nat)) (Pv : Nat → Prop) (W : World) : Prop where
  c : c = .ret
  c1 : W.cell? ⟨w.heap.size + 1, 0, none⟩ = some (.bool false)
  no : usedB 0 (l.map SnM.p) = false
  below : Below w.heap.size w W
  pv : ∀ i, Pv i → w.heap.size + 2 < i
  z : w.heap.size + 2 < W.heap.size
theorem OrX.steady (l : List SnM) (w : World) (c : Code) : Steady (OrX l w c) := by
  rintro s Pv Pv' X Y ⟨h0, h2, h4, h5, h6, h7⟩ hg hm
  have n1 : ¬ Pv (w.heap.size + 1) := fun h => by have := h6 _ h; omega
  have z := hg.size
  refine ⟨h0, hg.cell h2 n1, h4, hg.below h5 (fun i h => by have := h6 i h; omega), fun i hi => ?_, by omega⟩
  rcases hm i hi with h | ⟨h, _⟩
  · exact h6 i h
  · have := h; omega
set_option maxRecDepth 100000 in
set_option maxHeartbeats 4000000 in
theorem hasOrder_c (a : Option Addr) (cap : Nat) (n : Int) (l : List SnM) (hl : l.length ≤ 100000) (w : World) (h : PlAt w.heap.size w a l) :
    Calls Tryd.prog 49 #[.agg #[.slice a l.length cap, .int .i64 n]] w fun x w' => x = .returned (.bool (usedB 0 (l.map SnM.p))) ∧ Below w.heap.size w w' := by
  refine (callsIn_wide (n := 8)).1 ?_
  have HE := Lib.hid (fun W => snaps_c a l.length cap n W)
  have HA := Lib.hid h
  clear h
  refine callsIn_of_wp_marks Tryd.func49 rfl trivial ?_ rfl
  simp only [Tryd.ntmps49, List.size_toArray, List.length_cons, List.length_nil, Nat.reduceAdd, Nat.reduceSub, Array.replicate_succ, Array.replicate_zero, List.push_toArray, List.append_toArray, List.nil_append, List.cons_append]
  gi_wp2_with fail
  refine ⟨trivial, (callsIn_wide.2 (HE.out _)).mono ?_⟩
  rintro e w' ⟨rfl, rfl⟩
  clear HE
  have hst : (((((w.alloc (.cells #[.slice a l.length cap, .int .i64 n] 48)).alloc (.cells #[.bool false] 4)).alloc (.cells #[.int .i64 0] 3)).alloc (.cells #[.slice a l.length cap, .int .i64 n] 48)).alloc (.cells #[.slice a l.length cap] 22)).cell? ⟨w.heap.size + 4, 0, none⟩ = some (.slice a l.length cap) := by go_simp
  have hI : OrI w [] (fun i => i = w.heap.size + 4) (((((w.alloc (.cells #[.slice a l.length cap, .int .i64 n] 48)).alloc (.cells #[.bool false] 4)).alloc (.cells #[.int .i64 0] 3)).alloc (.cells #[.slice a l.length cap, .int .i64 n] 48)).alloc (.cells #[.slice a l.length cap] 22)) := ⟨by go_simp, by go_simp, by simp only [PP, List.map_nil, lastD, List.getLast?_nil]; go_simp, by go_simp, rfl, bal (bal (bal (bal (below_alloc w _) _) _) _) _, fun i h => by omega⟩
  have hsb : (((w.alloc (.cells #[.slice a l.length cap, .int .i64 n] 48)).alloc (.cells #[.bool false] 4)).alloc (.cells #[.int .i64 0] 3)).heap.size = w.heap.size + 3 := by simp
  simp only [hsb]
  generalize (((((w.alloc (.cells #[.slice a l.length cap, .int .i64 n] 48)).alloc (.cells #[.bool false] 4)).alloc (.cells #[.int .i64 0] 3)).alloc (.cells #[.slice a l.length cap, .int .i64 n] 48)).alloc (.cells #[.slice a l.length cap] 22)) = Z at *
  have HBI := Lib.hid (snaps_it 7 (by omega) a cap l hl w.heap.size (w.heap.size + 4) Z hst)
  clear hsb
  gi_wp2_with fail
  refine wpIn_range_itersG (n := 8) (encs := fun p : SnM × Nat => #[.int .i64 (p.2 : Int), snmV p.1]) (ps := #[8, 9]) rfl (by omega) (gf := 76) (lb := #[.pointer (some ⟨w.heap.size + 4, 0, none⟩)]) rfl trivial (enters_of Tryd.func76 (by kernel_rfl) rfl)
    HBI.out (Below.refl _ _) (fun _ => rfl) (fun i h => by rw [h]; exact blt hst) (OrI w) (OrX l w) (fun s Pv W h => HA.out.s.below h.below) (OrI.steady w) ?steadyx hI ?round ?done ?stop
  case steadyx => exact fun c => OrX.steady l w c
  case round =>
    clear HBI hI
    rintro K pre x Pv W hc hI2 hPl hll ⟨rec, hrec⟩
    simp only [snmV]
    gi_wp2
    refine ⟨(Mid.refl Pv W).alloc _, fun W2 hG hr2 => ?_⟩
    have hKW : K < W.heap.size := (Array.getElem?_eq_some_iff.1 hrec).1
    have x2 : (W.alloc (.cells #[.int .i64 x.1.c, .slice x.1.ita x.1.it.length x.1.itd, .int .i64 x.1.u] 42)).cell? ⟨W.heap.size, 2, none⟩ = some (.int .i64 x.1.u) := by go_simp
    replace x2 := hG.cell x2 (fun h => by omega)
    have hI3 := OrI.steady w _ _ _ _ _ (OrI.steady w _ _ _ _ _ hI2 (Goes.of_below (below_alloc W (.cells #[.int .i64 x.1.c, .slice x.1.ita x.1.it.length x.1.itd, .int .i64 x.1.u] 42))) (More.same _ _ _)) (hG.mono (fun i h => h ▸ hPl)) (More.same _ _ _)
    have HN := Lib.hid (PP_no (l := l) hc)
    rw [PP_snoc, usedB_two] at HN
    have HU := Lib.hid (show usedB 0 (PP (pre ++ [x])) = _ from by rw [PP_snoc, usedB_two])
    have HL := Lib.hid (show lastD 0 (PP (pre ++ [x])) = x.1.u by rw [PP_snoc, lastD_snoc]; rfl)
    have hBT : w.heap.size + 2 < W.heap.size := blt hI2.c2
    clear hI2 hG hr2 hrec hll hc
    obtain ⟨q1, f1, q2, f2, hok, hbw, hpv⟩ := hI3
    rw [hok] at HN HU
    have HB := Lib.hid hbw
    have HP := Lib.hid hpv
    have z1 := blt q1
    have z2 := blt q2
    have hxu : x.1.p.u = x.1.u := rfl
    rw [hxu] at HN HU
    clear hok hbw hpv hxu
    generalize x.1.u = u at *
    generalize lastD 0 (PP pre) = v at *
    generalize W.heap.size = B at *
    by_cases c1 : u < v
    · have HF := Lib.hid (HN.out (by rw [decide_eq_false (by omega)]; rfl))
      gi_wp2
      refine ⟨⟨rfl, by go_simp, HF.out, HB.out.setCell (by show w.heap.size ≤ w.heap.size + 1; omega) _, HP.out, (by simp [World.setCell]; exact z2)⟩, (Mid.refl _ _).setCell _ (fun h => by have := HP.out _ h; omega)⟩
    · by_cases c2 : u > 1000000000000
      · have HF := Lib.hid (HN.out (by rw [decide_eq_false (by omega)]; rfl))
        gi_wp2
        refine ⟨⟨rfl, by go_simp, HF.out, HB.out.setCell (by show w.heap.size ≤ w.heap.size + 1; omega) _, HP.out, (by simp [World.setCell]; exact z2)⟩, (Mid.refl _ _).setCell _ (fun h => by have := HP.out _ h; omega)⟩
      · have HO := Lib.hid (show usedB 0 (PP (pre ++ [x])) = true by rw [HU.out, decide_eq_true (by omega)]; rfl)
        gi_wp2
        refine ⟨⟨by go_simp, by go_simp, by rw [HL.out]; go_simp, by go_simp, HO.out, HB.out.setCell (by show w.heap.size ≤ w.heap.size + 2; omega) _, HP.out⟩, (Mid.refl _ _).setCell _ (fun h => by have := HP.out _ h; omega)⟩
  case done =>
    rintro D xs Pv W hlD hpD rfl ⟨q1, f1, q2, f2, hok, hbw, hpv⟩ hdef
    rw [PP_idx] at hok
    have HBW := Lib.hid hbw
    have HD := Lib.hid hdef
    have HO := Lib.hid hok
    have hDW : D < W.heap.size := (Array.getElem?_eq_some_iff.1 hdef).1
    have z1 := blt q1
    have zD := blt hst
    clear hbw hdef hpv hok hI HBI hst
    gi_wp2
    have HD2 : (W.setCell ⟨w.heap.size + 1, 0, none⟩ (.bool true)).heap[D]? = some (.deferred (some [])) := (Below.heap_setCell W ⟨w.heap.size + 1, 0, none⟩ _ D (by show D ≠ w.heap.size + 1; omega)).trans HD.out
    have e1 : (W.setCell ⟨w.heap.size + 1, 0, none⟩ (.bool true)).cell? ⟨w.heap.size + 1, 0, none⟩ = some (.bool true) := by go_simp
    have HB2 := Lib.hid (HBW.out.setCell (p := ⟨w.heap.size + 1, 0, none⟩) (by show w.heap.size ≤ w.heap.size + 1; omega) (.bool true))
    refine ⟨by simp, .inl ⟨_, _, rfl, run_takeDeferred HD2, ?_⟩⟩
    have e2 : ((W.setCell ⟨w.heap.size + 1, 0, none⟩ (.bool true)).putObj D (.deferred none)).cell? ⟨w.heap.size + 1, 0, none⟩ = some (.bool true) := (World.cell?_of_block (World.putObj_heap_other (by show w.heap.size + 1 ≠ D; omega))).trans e1
    refine ⟨_, results_cell rfl _ _ (by rfl) (show (loadVar 4 ⟨w.heap.size + 1, 0, none⟩).run Tryd.prog _ = .ok (.bool true) _ by simp [loadVar, isAgg, underlying, Tryd.underlying4, e2]), ?_, ?_⟩
    · rw [HO.out]
    · exact HB2.out.grown (grownBy_putObj' _ D _) HB2.out.size (fun j hj => by cases hj; omega)
  case stop =>
    rintro D c pre Pv W hlD hpD hSp ⟨rfl, q1, hno, hbw, hpv⟩ hdef
    have HBW := Lib.hid hbw
    have HD := Lib.hid hdef
    have HN := Lib.hid hno
    have hDW : D < W.heap.size := (Array.getElem?_eq_some_iff.1 hdef).1
    have zD := blt hst
    clear hbw hdef hpv hno hI HBI hst
    gi_wp2
    refine ⟨by simp, .inl ⟨_, _, rfl, run_takeDeferred HD.out, ?_⟩⟩
    have e2 : (W.putObj D (.deferred none)).cell? ⟨w.heap.size + 1, 0, none⟩ = some (.bool false) := (World.cell?_of_block (World.putObj_heap_other (by show w.heap.size + 1 ≠ D; omega))).trans q1
    refine ⟨_, results_cell rfl _ _ (by rfl) (show (loadVar 4 ⟨w.heap.size + 1, 0, none⟩).run Tryd.prog _ = .ok (.bool false) _ by simp [loadVar, isAgg, underlying, Tryd.underlying4, e2]), ?_, ?_⟩
    · rw [HN.out]
    · exact HBW.out.grown (grownBy_putObj' _ D _) HBW.out.size (fun j hj => by cases hj; omega)
end Go.Proofs.YtgceecfjammnaaaDoor.L16

/- Its other checks; a snapshot's copy; texts compared. -/
namespace Go.Proofs.YtgceecfjammnaaaDoor.L16
open Go.RowKit Go.Shelf
attribute [local go_sem] Oper.semAt_some
set_option linter.unusedSimpArgs false
set_option linter.unusedVariables false
theorem ret_bool' {a b : Bool} (h : a = b) : Ending.returned (.bool a) = .returned (.bool b) := by rw [h]
theorem errV_t (c : Int) : errV true c = Value.nilIface := rfl
set_option maxRecDepth 100000 in
set_option maxHeartbeats 4000000 in
theorem hasCursors_c (a : Option Addr) (L cap : Nat) (n : Int) (w : World) : Calls Tryd.prog 26 #[.agg #[.slice a L cap, .int .i64 n]] w fun x w' => x = .returned (errV (decide (n < 1000000000000)) 160) ∧ Below w.heap.size w w' := by
  have HU := Lib.hid (fun W b => unless_c W b 160)
  by_cases h : n < 1000000000000
  · have HF := Lib.hid (decide_eq_true h)
    go_enter Tryd.func26, Tryd.ntmps26
    go_wp2_with (go_at_call 37; refine (HU.out _ _).mono ?_; rintro e w1 ⟨rfl, rfl⟩)
    go_ret
    exact ⟨by rw [HF.out]; rfl, below_alloc _ _⟩
  · have HF := Lib.hid (decide_eq_false h)
    go_enter Tryd.func26, Tryd.ntmps26
    go_wp2_with (go_at_call 37; refine (HU.out _ _).mono ?_; rintro e w1 ⟨rfl, rfl⟩)
    go_ret
    exact ⟨by rw [HF.out]; rfl, below_alloc _ _⟩
theorem isNow_c (a : Option Addr) (L cap : Nat) (n t : Int) (w : World) : Calls Tryd.prog 27 #[.agg #[.slice a L cap, .int .i64 n], .int .i64 t] w fun x w' => x = .returned (.func (.func 55) #[] #[.pointer (some ⟨w.heap.size, 0, none⟩), .pointer (some ⟨w.heap.size + 1, 0, none⟩)]) ∧ w' = (w.alloc (.cells #[.slice a L cap, .int .i64 n] 48)).alloc (.cells #[.int .i64 t] 3) := by
  go_enter Tryd.func27, Tryd.ntmps27
  go_wp2
  go_ret
  exact ⟨by simp, rfl⟩
theorem lastU_last {l : List SnM} {x : SnM} (h : l[l.length - 1]? = some x) : lastU (l.map SnM.p) = x.u := by
  unfold lastU
  rw [List.getLast?_eq_getElem?, List.length_map, List.getElem?_map, h]
  rfl
set_option maxRecDepth 100000 in
set_option maxHeartbeats 4000000 in
theorem isNow1_c (a : Option Addr) (cap : Nat) (l : List SnM) (hl : l.length ≤ 100000) (n t : Int) (b0 b1 : Nat) (w : World) (h0 : w.cell? ⟨b0, 0, none⟩ = some (.slice a l.length cap)) (h1 : w.cell? ⟨b1, 0, none⟩ = some (.int .i64 t)) (h : PlAt w.heap.size w a l) :
    Calls Tryd.prog 55 #[.pointer (some ⟨b0, 0, none⟩), .pointer (some ⟨b1, 0, none⟩)] w fun x w' => x = .returned (errV (nowB ⟨l.map SnM.p, n⟩ t) 160) ∧ w = w' := by
  have HU := Lib.hid (fun W b => unless_c W b 160)
  have HN : ∃ u : Int, lastU (l.map SnM.p) = u ∧ (l.length = 0 ∧ u = 0 ∨ 0 < l.length ∧ ∃ b off, a = some ⟨b, off, none⟩ ∧ w.cell? ⟨b, off + (l.length - 1) * 3 + 2, none⟩ = some (.int .i64 u)) := by
    by_cases hz : l.length = 0
    · have : l = [] := List.length_eq_zero_iff.1 hz
      subst this
      exact ⟨0, rfl, .inl ⟨rfl, rfl⟩⟩
    · obtain ⟨b, off, e, hb, c0, c1, c2⟩ := h.s (l.length - 1) (by omega)
      exact ⟨_, lastU_last (List.getElem?_eq_getElem (by omega)), .inr ⟨by omega, b, off, e, c2⟩⟩
  obtain ⟨u, hu, hc⟩ := HN
  have HB := Lib.hid (show nowB ⟨l.map SnM.p, n⟩ t = decide (u ≤ t ∧ t ≤ 1000000000000) by unfold nowB; rw [hu])
  clear h hu
  generalize nowB ⟨l.map SnM.p, n⟩ t = B at *
  generalize l.length = L at *
  rcases hc with ⟨hL, hz⟩ | ⟨hL, b, off, rfl, c2⟩
  · subst hL hz
    by_cases g1 : t ≥ 0
    · by_cases g2 : t ≤ 1000000000000
      · have HF := Lib.hid (HB.out.trans (decide_eq_true ⟨g1, g2⟩))
        go_enter Tryd.func55, Tryd.ntmps55
        go_wp2_with (go_at_call 37; refine (HU.out _ _).mono ?_; rintro e w1 ⟨rfl, rfl⟩)
        go_ret
        exact ⟨by rw [HF.out]; rfl, rfl⟩
      · have HF := Lib.hid (HB.out.trans (decide_eq_false (fun k => g2 k.2)))
        go_enter Tryd.func55, Tryd.ntmps55
        go_wp2_with (go_at_call 37; refine (HU.out _ _).mono ?_; rintro e w1 ⟨rfl, rfl⟩)
        go_ret
        exact ⟨by rw [HF.out]; rfl, rfl⟩
    · have HF := Lib.hid (HB.out.trans (decide_eq_false (fun k => g1 k.1)))
      go_enter Tryd.func55, Tryd.ntmps55
      go_wp2_with (go_at_call 37; refine (HU.out _ _).mono ?_; rintro e w1 ⟨rfl, rfl⟩)
      go_ret
      exact ⟨by rw [HF.out]; rfl, rfl⟩
  · obtain ⟨m, rfl⟩ : ∃ m, L = m + 1 := ⟨L - 1, by omega⟩
    rw [Nat.add_sub_cancel] at c2
    have hm : (m : Int) < 100000 := by omega
    have hp : (0 : Int) < ((m + 1 : Nat) : Int) := by omega
    have hw : IntKind.i64.wrap (((m + 1 : Nat) : Int) - 1) = (m : Int) := (IntWalk.i64_in _ (by omega)).trans (by omega)
    have hw2 : ((m + 1 : Nat) : Int) - 1 = (m : Int) := by omega
    have hm3 : m < m + 1 := by omega
    by_cases g1 : t ≥ u
    · by_cases g2 : t ≤ 1000000000000
      · have HF := Lib.hid (HB.out.trans (decide_eq_true ⟨g1, g2⟩))
        go_enter Tryd.func55, Tryd.ntmps55
        go_wp2_with (go_at_call 37; refine (HU.out _ _).mono ?_; rintro e w1 ⟨rfl, rfl⟩)
        go_ret
        exact ⟨by rw [HF.out]; rfl, rfl⟩
      · have HF := Lib.hid (HB.out.trans (decide_eq_false (fun k => g2 k.2)))
        go_enter Tryd.func55, Tryd.ntmps55
        go_wp2_with (go_at_call 37; refine (HU.out _ _).mono ?_; rintro e w1 ⟨rfl, rfl⟩)
        go_ret
        exact ⟨by rw [HF.out]; rfl, rfl⟩
    · have HF := Lib.hid (HB.out.trans (decide_eq_false (fun k => g1 k.1)))
      go_enter Tryd.func55, Tryd.ntmps55
      go_wp2_with (go_at_call 37; refine (HU.out _ _).mono ?_; rintro e w1 ⟨rfl, rfl⟩)
      go_ret
      exact ⟨by rw [HF.out]; rfl, rfl⟩
theorem fresh_c (t : Int) (w : World) : Calls Tryd.prog 30 #[.int .i64 t] w fun x w' => x = .returned (.func (.func 58) #[] #[.pointer (some ⟨w.heap.size, 0, none⟩)]) ∧ w' = w.alloc (.cells #[.int .i64 t] 3) := by
  go_enter Tryd.func30, Tryd.ntmps30
  go_wp2
  go_ret
  exact ⟨rfl, rfl⟩
set_option maxRecDepth 100000 in
set_option maxHeartbeats 4000000 in
theorem fresh1_c (x : SnM) (t : Int) (ht : 0 ≤ t ∧ t ≤ 1000000000000) (hu : 0 ≤ x.u ∧ x.u ≤ 1000000000000) (b : Nat) (w : World) (h : w.cell? ⟨b, 0, none⟩ = some (.int .i64 t)) :
    Calls Tryd.prog 58 #[.agg #[.int .i64 x.c, .slice x.ita x.it.length x.itd, .int .i64 x.u], .pointer (some ⟨b, 0, none⟩)] w fun y w' => y = .returned (.bool (fresh t x.p)) ∧ Below w.heap.size w w' := by
  have HF := Lib.hid (show fresh t x.p = decide (t - x.u < 1000) from rfl)
  generalize fresh t x.p = B at *
  generalize x.u = u at *
  have hw : IntKind.i64.wrap (t - u) = t - u := IntWalk.i64_in _ (by omega)
  have hw3 : wrap64 (t - u) = t - u := IntWalk.wrap64_in _ (by omega)
  have h' := keep_alloc (.cells #[.int .i64 x.c, .slice x.ita x.it.length x.itd, .int .i64 u] 42) h
  by_cases g : t - u < 1000
  · have HG := Lib.hid (HF.out.trans (decide_eq_true g))
    go_enter Tryd.func58, Tryd.ntmps58
    go_wp2
    go_ret
    exact ⟨by rw [HG.out]; rfl, below_alloc _ _⟩
  · have HG := Lib.hid (HF.out.trans (decide_eq_false g))
    go_enter Tryd.func58, Tryd.ntmps58
    go_wp2
    go_ret
    exact ⟨by rw [HG.out]; rfl, below_alloc _ _⟩
end Go.Proofs.YtgceecfjammnaaaDoor.L16
