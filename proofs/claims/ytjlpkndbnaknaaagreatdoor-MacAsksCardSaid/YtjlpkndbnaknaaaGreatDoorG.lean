/- schedule: words in a row. -/
import Derived.Test.YtjlpkndbnaknaaaGreatDoorBy
import Derived.Test.YtjlpkndbnaknaaaGreatDoorRes
import Derived.Laws.EntriesVeiled
import Derived.Laws.CopyOwn
namespace Go.Proofs.YtjlpkndbnaknaaaGreatDoor
open Go.RowKit Go.Shelf
attribute [local go_sem] Oper.semAt_some

def wV (x : Wd) : Value := .int .u32 (x.toNat : Int)
def wVs (l : List Wd) : List Value := l.map wV
theorem below_set2 {w W : World} {b o : Nat} {v : Value} (h : Below w.heap.size w W) (hb : w.heap.size ≤ b) : Below w.heap.size w (W.setCell ⟨b, o, none⟩ v) :=
  ⟨h.os, h.tape, h.output, Nat.le_trans h.size (Nat.le_of_eq (by simp)), fun i hi => (Below.heap_setCell W ⟨b, o, none⟩ v i (by intro e; simp at e; omega)).trans (h.block i hi)⟩
/-- Words in the cells of a block. -/
structure WdsAt (b : Nat) (l : List Wd) (W : World) : Prop where
  ex : ∃ t, W.heap[b]? = some (.cells (wVs l).toArray t (0, 0))
theorem WdsAt.lt {b : Nat} {l : List Wd} {W : World} (h : WdsAt b l W) : b < W.heap.size := by
  obtain ⟨t, h⟩ := h.ex
  exact (Array.getElem?_eq_some_iff.1 h).1
theorem WdsAt.block {b : Nat} {l : List Wd} {W W' : World} (h : WdsAt b l W) (k : W'.heap[b]? = W.heap[b]?) : WdsAt b l W' := by
  obtain ⟨t, h⟩ := h.ex
  exact ⟨⟨t, k.trans h⟩⟩
theorem WdsAt.on {b : Nat} {l : List Wd} {W W' : World} (h : WdsAt b l W) (k : Below W.heap.size W W') : WdsAt b l W' := h.block (k.block b h.lt)
theorem WdsAt.grown {b : Nat} {l : List Wd} {W W' : World} {row : Option Nat} (h : WdsAt b l W) (k : W.grownBy W' row) (hr : row ≠ some b) : WdsAt b l W' := h.block (k.block b h.lt (fun e => hr e.symm))
theorem WdsAt.drew {b : Nat} {l : List Wd} {W : World} (h : WdsAt b l W) : WdsAt b l W.drew := h.block rfl
theorem WdsAt.cell {b : Nat} {l : List Wd} {W : World} (h : WdsAt b l W) {j : Nat} {x : Wd} (hj : l[j]? = some x) : W.cell? ⟨b, j, none⟩ = some (.int .u32 (x.toNat : Int)) := by
  obtain ⟨t, h⟩ := h.ex
  rw [cell_of_row W b j _ _ _ h]
  simp [wVs, hj, wV]
theorem WdsAt.frozen {b : Nat} {l : List Wd} {W : World} (h : WdsAt b l W) (j : Nat) : W.frozen? ⟨b, j, none⟩ = false := by
  obtain ⟨t, h⟩ := h.ex
  simp [World.frozen?, h]
theorem WdsAt.set {b : Nat} {l : List Wd} {W : World} (h : WdsAt b l W) (j : Nat) (x : Wd) : WdsAt b (l.set j x) (W.setCell ⟨b, j, none⟩ (.int .u32 (x.toNat : Int))) := by
  obtain ⟨t, h⟩ := h.ex
  refine ⟨⟨t, ?_⟩⟩
  rw [setCell_eq_setRow W b j _ _ _ _ h, setRow_heap W b _ _ _ _ h]
  congr 2
  simp [wVs, wV]
theorem WdsAt.other {b c o : Nat} {l : List Wd} {W : World} (h : WdsAt b l W) (hne : b ≠ c) (v : Value) : WdsAt b l (W.setCell ⟨c, o, none⟩ v) := h.block (Below.heap_setCell W ⟨c, o, none⟩ v b hne)
theorem load_row (W : World) (b n : Nat) (V : Array Value) (t : TypeId) (h : W.heap[b]? = some (.cells V t (0, 0))) (hz : V.size = n) : (loadCellsFrom ⟨b, 0, none⟩ 0 n #[]).run Tryz.prog W = .ok V W := by
  subst hz
  have := run_loadCells_list (P := Tryz.prog) W ⟨b, 0, none⟩ V.toList (fun j v hv => by
    have hadd : (⟨b, 0, none⟩ : Addr).add j = ⟨b, j, none⟩ := by unfold Addr.add; split <;> simp_all
    rw [hadd, cell_of_row W b j V t (0, 0) h]
    simpa using hv)
  simpa [loadCells] using this
theorem store_row (W : World) (b : Nat) (V old : Array Value) (t : TypeId) (h : W.heap[b]? = some (.cells old t (0, 0))) (hz : old.size = V.size) (ho : ∀ v ∈ V.toList, v.oneCell' = true) : (storeCells ⟨b, 0, none⟩ V.toList 0).run Tryz.prog W = .ok () (W.setRow b V) := by
  have := run_storeCells_from (P := Tryz.prog) b t V.toList 0 old W h (by simp [hz]) ho
  simpa using this
theorem wpList_load_row {P : Program} {w : World} {ops : Array Oper} {rest : List Oper} {o : Oper} {a : Act} {Q : Exit → Act → World → Prop} (hgd : o.guard = none) (p : Operand) (ty : TypeId) (ho : o.op = .load ty p)
    (g : Nat) (t : TypeId) (cs : Array Value) (fr : Nat × Nat) (d : TypeDesc) (hp : a.eval p = .pointer (some ⟨g, 0, none⟩)) (hg : w.heap[g]? = some (.cells cs t fr))
    (hu : P.underlying ty = some d) (hd : (match d with | .struct _ | .array _ _ => true | _ => false) = true) (hi : (P.info? ty).map (·.size) = some cs.size)
    (h : wpList P ops Q rest (a.put o.dst (.agg cs)) w) : wpList P ops Q (o :: rest) a w := by
  refine wpList_plain hgd fun K hK => ?_
  have hrun := run_loadVar_row (P := P) w g t ty cs fr d hg hu hd hi
  unfold Oper.wp
  simp [execOp, ho, hp, Instr.loadAt, Instr.sureAddr, hrun, Result.andThen]
  exact hK _ _ h
theorem wpList_store_row {P : Program} {w : World} {ops : Array Oper} {rest : List Oper} {o : Oper} {a : Act} {Q : Exit → Act → World → Prop} (hgd : o.guard = none) (p x : Operand) (ty : TypeId) (ho : o.op = .store ty p x) (hdst : o.dst = none)
    (g : Nat) (t : TypeId) (old cs : Array Value) (hp : a.eval p = .pointer (some ⟨g, 0, none⟩)) (hx : a.eval x = .agg cs) (hg : w.heap[g]? = some (.cells old t (0, 0)))
    (hi : (P.info? ty).map (·.size) = some cs.size) (hz : old.size = cs.size) (h1 : cs.all (·.oneCell') = true)
    (h : wpList P ops Q rest (a.put none undef) (w.setRow g cs)) : wpList P ops Q (o :: rest) a w := by
  refine wpList_plain hgd fun K hK => ?_
  have hrun := run_storeVar_row (P := P) w g t ty old cs hg hi hz h1
  unfold Oper.wp
  simp [execOp, ho, hp, hx, Instr.storeAt, Instr.sureAddr, hrun, Result.andThen]
  exact hK _ _ (by rw [hdst]; exact h)
theorem heap_new_at {W : World} {n : Nat} (o : Obj) (h : W.heap.size = n) : (W.alloc o).heap[n]? = some o := by
  subst h
  exact World.alloc_heap_new W o
theorem sched_zero (b : List Nat) (k : Nat) (h : k < 64) : (schedL b k ++ List.replicate (64 - k) (0 : Wd))[k]? = some 0 := by
  rw [List.getElem?_append_right (by rw [schedL_length]; exact Nat.le_refl _), schedL_length, Nat.sub_self, List.getElem?_replicate, if_pos (by omega)]
theorem sched_old (b : List Nat) (k j : Nat) (h : j < k) : (schedL b k ++ List.replicate (64 - k) (0 : Wd))[j]? = some ((schedL b k).getD j 0) := by
  have hl : j < (schedL b k).length := by rw [schedL_length]; exact h
  rw [List.getElem?_append_left hl, List.getD_eq_getElem?_getD, List.getElem?_eq_getElem hl]
  rfl
theorem sched_set (b : List Nat) (k : Nat) (h : k < 64) : (schedL b k ++ List.replicate (64 - k) (0 : Wd)).set k (nextW b (schedL b k)) = schedL b (k + 1) ++ List.replicate (64 - (k + 1)) 0 := by
  rw [List.set_append_right _ _ (by rw [schedL_length]; exact Nat.le_refl _), schedL_length, Nat.sub_self, show 64 - k = (64 - (k + 1)) + 1 by omega, List.replicate_succ, List.set_cons_zero, schedL, List.append_assoc]
  rfl
theorem ext4 (b : ByteArray) (k : Nat) (_hb : b.size = 64) (h : k < 16) : nextW (bL b) (schedL (bL b) k) = wordL (bL (b.extract (4 * k) (4 * k + 4))) := by
  unfold nextW
  rw [schedL_length, if_pos h]
  unfold wordAt
  rw [bL_extract, List.drop_take, show 4 * k + 4 - 4 * k = 4 by omega]
theorem next16 (b : List Nat) (k : Nat) (h : ¬ k < 16) : nextW b (schedL b k) = totalL [(schedL b k).getD (k - 16) 0, nearW ((schedL b k).getD (k - 15) 0), (schedL b k).getD (k - 7) 0, farW ((schedL b k).getD (k - 2) 0)] := by
  unfold nextW
  rw [schedL_length, if_neg h]
theorem w_b (n : Nat) (_h : n < 256) : IntKind.u32.wrap (n : Int) = ((BitVec.ofNat 32 n).toNat : Int) := by
  rw [IntKind.wrap_u32', BitVec.toNat_ofNat]; omega
theorem w_shl24 (x : Wd) : IntKind.u32.wrap ((x.toNat : Int) * 16777216) = ((x <<< 24).toNat : Int) := by
  have h := w_shl x 24
  rwa [show (2 : Int) ^ 24 = 16777216 by decide] at h
theorem w_shl16 (x : Wd) : IntKind.u32.wrap ((x.toNat : Int) * 65536) = ((x <<< 16).toNat : Int) := by
  have h := w_shl x 16
  rwa [show (2 : Int) ^ 16 = 65536 by decide] at h
theorem w_shl8 (x : Wd) : IntKind.u32.wrap ((x.toNat : Int) * 256) = ((x <<< 8).toNat : Int) := by
  have h := w_shl x 8
  rwa [show (2 : Int) ^ 8 = 256 by decide] at h
theorem bL_four (s : ByteArray) (h : s.size = 4) : bL s = [(s[0]'(by omega)).toNat, (s[1]'(by omega)).toNat, (s[2]'(by omega)).toNat, (s[3]'(by omega)).toNat] := by
  apply List.ext_getElem?
  intro i
  match i with
  | 0 => rw [bL_get s 0 (by omega)]; rfl
  | 1 => rw [bL_get s 1 (by omega)]; rfl
  | 2 => rw [bL_get s 2 (by omega)]; rfl
  | 3 => rw [bL_get s 3 (by omega)]; rfl
  | i + 4 => rw [List.getElem?_eq_none (by rw [bL_length]; omega)]; rfl
theorem word4 (s : ByteArray) (h : s.size = 4) : bits .or .u32 (bits .or .u32 (bits .or .u32 (IntKind.u32.wrap (IntKind.u32.wrap ((s[0]'(by omega)).toNat : Int) * 16777216)) (IntKind.u32.wrap (IntKind.u32.wrap ((s[1]'(by omega)).toNat : Int) * 65536))) (IntKind.u32.wrap (IntKind.u32.wrap ((s[2]'(by omega)).toNat : Int) * 256))) (IntKind.u32.wrap ((s[3]'(by omega)).toNat : Int)) = ((wordL (bL s)).toNat : Int) := by
  rw [bL_four s h, w_b _ (UInt8.toNat_lt _), w_b _ (UInt8.toNat_lt _), w_b _ (UInt8.toNat_lt _), w_b _ (UInt8.toNat_lt _), w_shl24, w_shl16, w_shl8, w_or, w_or, w_or]
  rfl
/-- The schedule's world: n words are made. -/
structure SchedAt (b : List Nat) (w : World) (n : Nat) (W : World) : Prop where
  words : WdsAt (w.heap.size + 1 + 1) (schedL b n ++ List.replicate (64 - n) 0) W
  res : WdsAt w.heap.size (List.replicate 64 0) W
  f0 : W.cell? ⟨w.heap.size + 1, 0, none⟩ = some (.func (.func 64) #[] #[])
  f1 : W.cell? ⟨w.heap.size + 1, 1, none⟩ = some (.func (.func 65) #[] #[])
  below : Below w.heap.size w W
theorem SchedAt.on {b : List Nat} {w : World} {n : Nat} {W W' : World} (h : SchedAt b w n W) (k : Below W.heap.size W W') : SchedAt b w n W' :=
  ⟨h.words.on k, h.res.on k, (k.cell (p := ⟨w.heap.size + 1, 0, none⟩) (blt h.f0)).trans h.f0, (k.cell (p := ⟨w.heap.size + 1, 1, none⟩) (blt h.f1)).trans h.f1, btr h.below k⟩
theorem SchedAt.set {b : List Nat} {w : World} {k : Nat} {W : World} (h : SchedAt b w k W) (hk : k < 64) : SchedAt b w (k + 1) (W.setCell ⟨w.heap.size + 1 + 1, k, none⟩ (.int .u32 ((nextW b (schedL b k)).toNat : Int))) :=
  ⟨by rw [← sched_set b k hk]; exact h.words.set k _, h.res.other (by omega) _, (set_other W _ (by omega)).trans h.f0, (set_other W _ (by omega)).trans h.f1, (below_set2 h.below (by omega))⟩
/-- In the midst of a round. -/
structure SchedIn (b : List Nat) (w : World) (n : Nat) (W : World) : Prop where
  words : ∃ y, WdsAt (w.heap.size + 1 + 1) ((schedL b n ++ List.replicate (64 - n) 0).set n y) W
  lt : n < 64
  f0 : W.cell? ⟨w.heap.size + 1, 0, none⟩ = some (.func (.func 64) #[] #[])
  f1 : W.cell? ⟨w.heap.size + 1, 1, none⟩ = some (.func (.func 65) #[] #[])
theorem SchedIn.of {b : List Nat} {w : World} {n : Nat} {W : World} (h : SchedAt b w n W) (hn : n < 64) : SchedIn b w n W := by
  refine ⟨⟨0, ?_⟩, hn, h.f0, h.f1⟩
  have e : (schedL b n ++ List.replicate (64 - n) (0 : Wd)).set n 0 = schedL b n ++ List.replicate (64 - n) 0 := by
    obtain ⟨hl, h1⟩ := List.getElem?_eq_some_iff.1 (sched_zero b n hn)
    generalize (schedL b n ++ List.replicate (64 - n) (0 : Wd)) = L at *
    rw [← h1]
    exact List.set_getElem_self hl
  rw [e]
  exact h.words
theorem SchedIn.on {b : List Nat} {w : World} {n : Nat} {W W' : World} (h : SchedIn b w n W) (k : Below W.heap.size W W') : SchedIn b w n W' := by
  obtain ⟨y, hy⟩ := h.words
  exact ⟨⟨y, hy.on k⟩, h.lt, (k.cell (p := ⟨w.heap.size + 1, 0, none⟩) (blt h.f0)).trans h.f0, (k.cell (p := ⟨w.heap.size + 1, 1, none⟩) (blt h.f1)).trans h.f1⟩
theorem SchedIn.alloc {b : List Nat} {w : World} {n : Nat} {W : World} (h : SchedIn b w n W) (o : Obj) : SchedIn b w n (W.alloc o) := h.on (below_alloc W o)
theorem SchedIn.drew {b : List Nat} {w : World} {n : Nat} {W : World} (h : SchedIn b w n W) : SchedIn b w n W.drew := h.on (below_drew (Below.refl _ W))
theorem SchedIn.set {b : List Nat} {w : World} {n : Nat} {W : World} (h : SchedIn b w n W) (x : Wd) : SchedIn b w n (W.setCell ⟨w.heap.size + 1 + 1, n, none⟩ (.int .u32 (x.toNat : Int))) := by
  obtain ⟨y, hy⟩ := h.words
  refine ⟨⟨x, ?_⟩, h.lt, (set_other W _ (by omega)).trans h.f0, (set_other W _ (by omega)).trans h.f1⟩
  have := hy.set n x
  rwa [List.set_set] at this
theorem SchedIn.cell {b : List Nat} {w : World} {n : Nat} {W : World} (h : SchedIn b w n W) {j : Nat} {x : Wd} (hx : (schedL b n ++ List.replicate (64 - n) (0 : Wd))[j]? = some x) (hne : j < n) : W.cell? ⟨w.heap.size + 1 + 1, j, none⟩ = some (.int .u32 (x.toNat : Int)) := by
  obtain ⟨y, hy⟩ := h.words
  exact hy.cell (by rw [List.getElem?_set_ne (by omega)]; exact hx)
theorem SchedIn.ck {b : List Nat} {w : World} {n : Nat} {W : World} (h : SchedIn b w n W) : ∃ v, W.cell? ⟨w.heap.size + 1 + 1, n, none⟩ = some v := by
  obtain ⟨y, hy⟩ := h.words
  have hn := h.lt
  have hl : n < (schedL b n ++ List.replicate (64 - n) (0 : Wd)).length := by rw [List.length_append, schedL_length, List.length_replicate]; omega
  exact ⟨_, hy.cell (j := n) (x := y) (by rw [List.getElem?_set_self hl])⟩
theorem SchedIn.fk {b : List Nat} {w : World} {n : Nat} {W : World} (h : SchedIn b w n W) : W.frozen? ⟨w.heap.size + 1 + 1, n, none⟩ = false := by
  obtain ⟨y, hy⟩ := h.words
  exact hy.frozen n
set_option maxRecDepth 100000 in
set_option maxHeartbeats 8000000 in
theorem schedule_c (b : ByteArray) (hb : b.size = 64) (w : World) : Calls Tryz.prog 50 #[.string b] w fun r w' => r = .returned (.agg (wVs (schedL (bL b) 64)).toArray) ∧ Below w.heap.size w w' := by
  go_enter Tryz.func50, Tryz.ntmps50
  go_wp2
  go_loopw [8] (fun i wr => ∃ k : Nat, k ≤ 64 ∧ i = .int .i64 (k : Int) ∧ SchedAt (bL b) w k wr) (fun i _ => 64 - (intOf i).toNat)
  case atStart =>
    exact ⟨0, by omega, rfl, ⟨⟨⟨_, heap_new_at _ (by simp)⟩⟩, ⟨⟨_, ((Below.heap_alloc _ _ _ (by simp; omega)).trans (Below.heap_alloc _ _ _ (by simp))).trans (World.alloc_heap_new _ _)⟩⟩, by go_simp, by go_simp, bal (bal (below_alloc _ _) _) _⟩⟩
  case round =>
    obtain ⟨k, hk, rfl, hS⟩ := hrel
    by_cases hlt : k < 64
    · have hlt' : (k : Int) < 64 := by omega
      by_cases h16 : k < 16
      · have h16' : (k : Int) < 16 := by omega
        have HS := Lib.hid hS
        have hm : IntKind.i64.wrap (4 * (k : Int)) = 4 * (k : Int) := IntWalk.i64_in _ (by omega)
        have hm2 : IntKind.i64.wrap (4 * (k : Int) + 4) = 4 * (k : Int) + 4 := IntWalk.i64_in _ (by omega)
        have hc0 := hS.words.cell (j := k) (x := 0) (sched_zero _ _ hlt)
        have hf0 := hS.words.frozen k
        have HX := Lib.hid (ext4 b k hb h16)
        clear hS
        go_wp2_with fail
        have h4 : (b.extract (4 * k) (4 * k + 4)).size = 4 := by rw [ByteArray.size_extract]; omega
        generalize b.extract (4 * k) (4 * k + 4) = s4 at *
        have g0 : 0 < s4.size := by omega
        have g1 : 1 < s4.size := by omega
        have g2 : 2 < s4.size := by omega
        have g3 : 3 < s4.size := by omega
        refine wp_region_held_drew (S := (fun _ => True)) (by kernel_rfl) ?_ (fun hHeld => ?_)
        · exact trivial
        refine takeH (i := 0) (some 20) (v := ?_) rfl rfl (by kernel_rfl) (by kernel_rfl) (by kernel_rfl) (fun _ _ _ h => h) (Or.inl ⟨by rfl, ?hyA0⟩) hHeld ?restA0
        case hyA0 => (intro w hSw; (try dsimp only at hSw); go_simp; (try with_reducible rfl))
        try simp only [Act.put, List.setIfInBounds_toArray, List.set_cons_zero, List.set_cons_succ]
        refine takeH (i := 1) (some 21) (v := ?_) rfl rfl (by kernel_rfl) (by kernel_rfl) (by kernel_rfl) (fun _ _ _ h => h) (Or.inl ⟨by rfl, ?hyA1⟩) hHeld ?restA1
        case hyA1 => (intro w hSw; (try dsimp only at hSw); go_simp; (try with_reducible rfl))
        try simp only [Act.put, List.setIfInBounds_toArray, List.set_cons_zero, List.set_cons_succ]
        refine takeH (i := 2) (some 22) (v := ?_) rfl rfl (by kernel_rfl) (by kernel_rfl) (by kernel_rfl) (fun _ _ _ h => h) (Or.inl ⟨by rfl, ?hyA2⟩) hHeld ?restA2
        case hyA2 => (intro w hSw; (try dsimp only at hSw); go_simp; (try with_reducible rfl))
        try simp only [Act.put, List.setIfInBounds_toArray, List.set_cons_zero, List.set_cons_succ]
        refine takeH (i := 3) (some 23) (v := ?_) rfl rfl (by kernel_rfl) (by kernel_rfl) (by kernel_rfl) (fun _ _ _ h => h) (Or.inl ⟨by rfl, ?hyA3⟩) hHeld ?restA3
        case hyA3 => (intro w hSw; (try dsimp only at hSw); go_simp; (try with_reducible rfl))
        try simp only [Act.put, List.setIfInBounds_toArray, List.set_cons_zero, List.set_cons_succ]
        refine takeH (i := 4) (some 24) (v := ?_) rfl rfl (by kernel_rfl) (by kernel_rfl) (by kernel_rfl) (fun _ _ _ h => h) (Or.inl ⟨by rfl, ?hyA4⟩) hHeld ?restA4
        case hyA4 => (intro w hSw; (try dsimp only at hSw); go_simp; (try with_reducible rfl))
        try simp only [Act.put, List.setIfInBounds_toArray, List.set_cons_zero, List.set_cons_succ]
        refine takeH (i := 5) (some 25) (v := ?_) rfl rfl (by kernel_rfl) (by kernel_rfl) (by kernel_rfl) (fun _ _ _ h => h) (Or.inl ⟨by rfl, ?hyA5⟩) hHeld ?restA5
        case hyA5 => (intro w hSw; (try dsimp only at hSw); go_simp; (try with_reducible rfl))
        try simp only [Act.put, List.setIfInBounds_toArray, List.set_cons_zero, List.set_cons_succ]
        refine takeH (i := 6) (some 26) (v := ?_) rfl rfl (by kernel_rfl) (by kernel_rfl) (by kernel_rfl) (fun _ _ _ h => h) (Or.inl ⟨by rfl, ?hyA6⟩) hHeld ?restA6
        case hyA6 => (intro w hSw; (try dsimp only at hSw); go_simp; (try with_reducible rfl))
        try simp only [Act.put, List.setIfInBounds_toArray, List.set_cons_zero, List.set_cons_succ]
        refine takeH (i := 7) (some 27) (v := ?_) rfl rfl (by kernel_rfl) (by kernel_rfl) (by kernel_rfl) (fun _ _ _ h => h) (Or.inl ⟨by rfl, ?hyA7⟩) hHeld ?restA7
        case hyA7 => (intro w hSw; (try dsimp only at hSw); go_simp; (try with_reducible rfl))
        try simp only [Act.put, List.setIfInBounds_toArray, List.set_cons_zero, List.set_cons_succ]
        refine takeH (i := 8) (some 28) (v := ?_) rfl rfl (by kernel_rfl) (by kernel_rfl) (by kernel_rfl) (fun _ _ _ h => h) (Or.inl ⟨by rfl, ?hyA8⟩) hHeld ?restA8
        case hyA8 => (intro w hSw; (try dsimp only at hSw); go_simp; (try with_reducible rfl))
        try simp only [Act.put, List.setIfInBounds_toArray, List.set_cons_zero, List.set_cons_succ]
        refine takeH (i := 9) (some 29) (v := ?_) rfl rfl (by kernel_rfl) (by kernel_rfl) (by kernel_rfl) (fun _ _ _ h => h) (Or.inl ⟨by rfl, ?hyA9⟩) hHeld ?restA9
        case hyA9 => (intro w hSw; (try dsimp only at hSw); go_simp; (try with_reducible rfl))
        try simp only [Act.put, List.setIfInBounds_toArray, List.set_cons_zero, List.set_cons_succ]
        refine takeH (i := 10) (some 30) (v := ?_) rfl rfl (by kernel_rfl) (by kernel_rfl) (by kernel_rfl) (fun _ _ _ h => h) (Or.inl ⟨by rfl, ?hyA10⟩) hHeld ?restA10
        case hyA10 => (intro w hSw; (try dsimp only at hSw); go_simp; (try with_reducible rfl))
        try simp only [Act.put, List.setIfInBounds_toArray, List.set_cons_zero, List.set_cons_succ]
        refine takeH (i := 11) (some 31) (v := ?_) rfl rfl (by kernel_rfl) (by kernel_rfl) (by kernel_rfl) (fun _ _ _ h => h) (Or.inl ⟨by rfl, ?hyA11⟩) hHeld ?restA11
        case hyA11 => (intro w hSw; (try dsimp only at hSw); go_simp; (try with_reducible rfl))
        try simp only [Act.put, List.setIfInBounds_toArray, List.set_cons_zero, List.set_cons_succ]
        refine takeH (i := 12) (some 32) (v := ?_) rfl rfl (by kernel_rfl) (by kernel_rfl) (by kernel_rfl) (fun _ _ _ h => h) (Or.inl ⟨by rfl, ?hyA12⟩) hHeld ?restA12
        case hyA12 => (intro w hSw; (try dsimp only at hSw); go_simp; (try with_reducible rfl))
        try simp only [Act.put, List.setIfInBounds_toArray, List.set_cons_zero, List.set_cons_succ]
        refine takeH (i := 13) (some 33) (v := ?_) rfl rfl (by kernel_rfl) (by kernel_rfl) (by kernel_rfl) (fun _ _ _ h => h) (Or.inl ⟨by rfl, ?hyA13⟩) hHeld ?restA13
        case hyA13 => (intro w hSw; (try dsimp only at hSw); go_simp; (try with_reducible rfl))
        try simp only [Act.put, List.setIfInBounds_toArray, List.set_cons_zero, List.set_cons_succ]
        refine takeH (i := 14) (some 34) (v := ?_) rfl rfl (by kernel_rfl) (by kernel_rfl) (by kernel_rfl) (fun _ _ _ h => h) (Or.inl ⟨by rfl, ?hyA14⟩) hHeld ?restA14
        case hyA14 => (intro w hSw; (try dsimp only at hSw); go_simp; (try with_reducible rfl))
        try simp only [Act.put, List.setIfInBounds_toArray, List.set_cons_zero, List.set_cons_succ]
        refine takeH (i := 15) (some 35) (v := ?_) rfl rfl (by kernel_rfl) (by kernel_rfl) (by kernel_rfl) (fun _ _ _ h => h) (Or.inl ⟨by rfl, ?hyA15⟩) hHeld ?restA15
        case hyA15 => (intro w hSw; (try dsimp only at hSw); go_simp; (try with_reducible rfl))
        try simp only [Act.put, List.setIfInBounds_toArray, List.set_cons_zero, List.set_cons_succ]
        refine takeH (i := 16) (some 36) (v := ?_) rfl rfl (by kernel_rfl) (by kernel_rfl) (by kernel_rfl) (fun _ _ _ h => h) (Or.inl ⟨by rfl, ?hyA16⟩) hHeld ?restA16
        case hyA16 => (intro w hSw; (try dsimp only at hSw); go_simp; (try with_reducible rfl))
        try simp only [Act.put, List.setIfInBounds_toArray, List.set_cons_zero, List.set_cons_succ]
        refine takeH (i := 17) (some 37) (v := ?_) rfl rfl (by kernel_rfl) (by kernel_rfl) (by kernel_rfl) (fun _ _ _ h => h) (Or.inl ⟨by rfl, ?hyA17⟩) hHeld ?restA17
        case hyA17 => (intro w hSw; (try dsimp only at hSw); go_simp; (try with_reducible rfl))
        try simp only [Act.put, List.setIfInBounds_toArray, List.set_cons_zero, List.set_cons_succ]
        refine takeH (i := 18) (some 38) (v := ?_) rfl rfl (by kernel_rfl) (by kernel_rfl) (by kernel_rfl) (fun _ _ _ h => h) (Or.inl ⟨by rfl, ?hyA18⟩) hHeld ?restA18
        case hyA18 => (intro w hSw; (try dsimp only at hSw); go_simp; (try with_reducible rfl))
        try simp only [Act.put, List.setIfInBounds_toArray, List.set_cons_zero, List.set_cons_succ]
        refine takeH (i := 19) (some 39) (v := ?_) rfl rfl (by kernel_rfl) (by kernel_rfl) (by kernel_rfl) (fun _ _ _ h => h) (Or.inl ⟨by rfl, ?hyA19⟩) hHeld ?restA19
        case hyA19 => (intro w hSw; (try dsimp only at hSw); go_simp; (try with_reducible rfl))
        try simp only [Act.put, List.setIfInBounds_toArray, List.set_cons_zero, List.set_cons_succ]
        refine wpAnyH_ready (rs := [20]) (by kernel_rfl) (by simp) ?_
        refine AllReadyH.cons rfl (fun K hK => ?_) AllReadyH.nil
        go_simp
        refine hK.out _ _ ?_ (fun hHeld => ?_)
        · exact trivial
        clear hK K
        try simp only [Act.put, List.setIfInBounds_toArray, List.set_cons_zero, List.set_cons_succ]
        refine wpAnyH_done (by kernel_rfl) ?_ _
        rw [word4 s4 h4, ← HX.out]
        go_wp2
        go_roundw
        case rel => exact ⟨k + 1, by omega, by go_num, (HS.out.set hlt).on (below_drew (Below.refl _ _))⟩
        case measure => simp [intOf]; omega
      · have h16' : ¬ (k : Int) < 16 := by omega
        have HX := Lib.hid (next16 (bL b) k h16)
        have HX0 := Lib.hid (sched_old (bL b) k (k - 16) (by omega))
        have HX1 := Lib.hid (sched_old (bL b) k (k - 15) (by omega))
        have HX2 := Lib.hid (sched_old (bL b) k (k - 7) (by omega))
        have HX3 := Lib.hid (sched_old (bL b) k (k - 2) (by omega))
        have HSi := Lib.hid hS
        generalize (schedL (bL b) k).getD (k - 16) 0 = x0 at *
        generalize (schedL (bL b) k).getD (k - 15) 0 = x1 at *
        generalize (schedL (bL b) k).getD (k - 7) 0 = x2 at *
        generalize (schedL (bL b) k).getD (k - 2) 0 = x3 at *
        have HN := Lib.hid (fun W => near_c x1 W)
        have HF := Lib.hid (fun W => far_c x3 W)
        generalize nearW x1 = N at *
        generalize farW x3 = F at *
        obtain ⟨j0, hj0, hk0⟩ : ∃ j : Nat, (k : Int) - 16 = (j : Int) ∧ k - 16 = j := ⟨k - 16, by omega, rfl⟩
        obtain ⟨j1, hj1, hk1⟩ : ∃ j : Nat, (k : Int) - 15 = (j : Int) ∧ k - 15 = j := ⟨k - 15, by omega, rfl⟩
        obtain ⟨j2, hj2, hk2⟩ : ∃ j : Nat, (k : Int) - 7 = (j : Int) ∧ k - 7 = j := ⟨k - 7, by omega, rfl⟩
        obtain ⟨j3, hj3, hk3⟩ : ∃ j : Nat, (k : Int) - 2 = (j : Int) ∧ k - 2 = j := ⟨k - 2, by omega, rfl⟩
        rw [hk0] at HX0
        rw [hk1] at HX1
        rw [hk2] at HX2
        rw [hk3] at HX3
        have m0 : IntKind.i64.wrap (j0 : Int) = j0 := IntWalk.i64_in _ (by omega)
        have m1 : IntKind.i64.wrap (j1 : Int) = j1 := IntWalk.i64_in _ (by omega)
        have m2 : IntKind.i64.wrap (j2 : Int) = j2 := IntWalk.i64_in _ (by omega)
        have m3 : IntKind.i64.wrap (j3 : Int) = j3 := IntWalk.i64_in _ (by omega)
        have l0 : (j0 : Int) < 64 := by omega
        have l1 : (j1 : Int) < 64 := by omega
        have l2 : (j2 : Int) < 64 := by omega
        have l3 : (j3 : Int) < 64 := by omega
        have n0 : j0 < 64 := by omega
        have n1 : j1 < 64 := by omega
        have n2 : j2 < 64 := by omega
        have n3 : j3 < 64 := by omega
        go_wp2_with fail
        refine wp_region_held_drew (S := (SchedIn (bL b) w k)) (by kernel_rfl) ?_ (fun hHeld => ?_)
        · exact (SchedIn.of hS hlt).drew
        refine takeH (i := 0) (some 40) (v := ?_) rfl rfl (by kernel_rfl) (by kernel_rfl) (by kernel_rfl) (fun _ _ _ h => h) (Or.inl ⟨by rfl, ?hyB0⟩) hHeld ?restB0
        case hyB0 => (intro w hSw; (try dsimp only at hSw); go_simp; (try with_reducible rfl))
        try simp only [Act.put, List.setIfInBounds_toArray, List.set_cons_zero, List.set_cons_succ]
        refine takeH (i := 1) (some 41) (v := ?_) rfl rfl (by kernel_rfl) (by kernel_rfl) (by kernel_rfl) (fun _ _ _ h => h) (Or.inl ⟨by rfl, ?hyB1⟩) hHeld ?restB1
        case hyB1 => (intro w hSw; (try dsimp only at hSw); go_simp; (try with_reducible rfl))
        try simp only [Act.put, List.setIfInBounds_toArray, List.set_cons_zero, List.set_cons_succ]
        refine takeH (i := 2) (some 42) (v := ?_) rfl rfl (by kernel_rfl) (by kernel_rfl) (by kernel_rfl) (fun _ _ _ h => h) (Or.inl ⟨by rfl, ?hyB2⟩) hHeld ?restB2
        case hyB2 => (intro w hSw; (try dsimp only at hSw); go_simp; (try with_reducible rfl))
        try simp only [Act.put, List.setIfInBounds_toArray, List.set_cons_zero, List.set_cons_succ]
        refine takeH (i := 3) (some 43) (v := ?_) rfl rfl (by kernel_rfl) (by kernel_rfl) (by kernel_rfl) (fun _ _ _ h => h) (Or.inl ⟨by rfl, ?hyB3⟩) hHeld ?restB3
        case hyB3 => (intro w hSw; (try dsimp only at hSw); go_simp; (try with_reducible rfl))
        try simp only [Act.put, List.setIfInBounds_toArray, List.set_cons_zero, List.set_cons_succ]
        refine takeH (i := 4) (some 44) (v := ?_) rfl rfl (by kernel_rfl) (by kernel_rfl) (by kernel_rfl) (fun _ _ _ h => h) (Or.inl ⟨by rfl, ?hyB4⟩) hHeld ?restB4
        case hyB4 => (intro w' hSw; have q0 := hSw.cell HX0.out (by omega); have q1 := hSw.cell HX1.out (by omega); have q2 := hSw.cell HX2.out (by omega); have q3 := hSw.cell HX3.out (by omega); have q4 := hSw.f0; have q5 := hSw.f1; clear hSw; go_simp; (try with_reducible rfl))
        try simp only [Act.put, List.setIfInBounds_toArray, List.set_cons_zero, List.set_cons_succ]
        refine takeH (i := 5) (some 45) (v := ?_) rfl rfl (by kernel_rfl) (by kernel_rfl) (by kernel_rfl) (fun _ _ _ h => h) (Or.inl ⟨by rfl, ?hyB5⟩) hHeld ?restB5
        case hyB5 => (intro w hSw; (try dsimp only at hSw); go_simp; (try with_reducible rfl))
        try simp only [Act.put, List.setIfInBounds_toArray, List.set_cons_zero, List.set_cons_succ]
        refine takeH (i := 6) (some 46) (v := ?_) rfl rfl (by kernel_rfl) (by kernel_rfl) (by kernel_rfl) (fun _ _ _ h => h) (Or.inl ⟨by rfl, ?hyB6⟩) hHeld ?restB6
        case hyB6 => (intro w' hSw; have q0 := hSw.cell HX0.out (by omega); have q1 := hSw.cell HX1.out (by omega); have q2 := hSw.cell HX2.out (by omega); have q3 := hSw.cell HX3.out (by omega); have q4 := hSw.f0; have q5 := hSw.f1; clear hSw; go_simp; (try with_reducible rfl))
        try simp only [Act.put, List.setIfInBounds_toArray, List.set_cons_zero, List.set_cons_succ]
        refine takeH (i := 7) (some 47) (v := ?_) rfl rfl (by kernel_rfl) (by kernel_rfl) (by kernel_rfl) (fun _ _ _ h => h) (Or.inl ⟨by rfl, ?hyB7⟩) hHeld ?restB7
        case hyB7 => (intro w hSw; (try dsimp only at hSw); go_simp; (try with_reducible rfl))
        try simp only [Act.put, List.setIfInBounds_toArray, List.set_cons_zero, List.set_cons_succ]
        refine takeH (i := 8) (some 48) (v := ?_) rfl rfl (by kernel_rfl) (by kernel_rfl) (by kernel_rfl) (fun _ _ _ h => h) (Or.inl ⟨by rfl, ?hyB8⟩) hHeld ?restB8
        case hyB8 => (intro w hSw; (try dsimp only at hSw); go_simp; (try with_reducible rfl))
        try simp only [Act.put, List.setIfInBounds_toArray, List.set_cons_zero, List.set_cons_succ]
        refine takeH (i := 9) (some 49) (v := ?_) rfl rfl (by kernel_rfl) (by kernel_rfl) (by kernel_rfl) (fun _ _ _ h => h) (Or.inl ⟨by rfl, ?hyB9⟩) hHeld ?restB9
        case hyB9 => (intro w hSw; (try dsimp only at hSw); go_simp; (try with_reducible rfl))
        try simp only [Act.put, List.setIfInBounds_toArray, List.set_cons_zero, List.set_cons_succ]
        refine takeH (i := 10) (some 50) (v := ?_) rfl rfl (by kernel_rfl) (by kernel_rfl) (by kernel_rfl) (fun _ _ _ h => h) (Or.inl ⟨by rfl, ?hyB10⟩) hHeld ?restB10
        case hyB10 => (intro w' hSw; have q0 := hSw.cell HX0.out (by omega); have q1 := hSw.cell HX1.out (by omega); have q2 := hSw.cell HX2.out (by omega); have q3 := hSw.cell HX3.out (by omega); have q4 := hSw.f0; have q5 := hSw.f1; clear hSw; go_simp; (try with_reducible rfl))
        try simp only [Act.put, List.setIfInBounds_toArray, List.set_cons_zero, List.set_cons_succ]
        refine takeH (i := 12) (some 52) (v := ?_) rfl rfl (by kernel_rfl) (by kernel_rfl) (by kernel_rfl) (fun _ _ _ h => h) (Or.inl ⟨by rfl, ?hyB12⟩) hHeld ?restB12
        case hyB12 => (intro w hSw; (try dsimp only at hSw); go_simp; (try with_reducible rfl))
        try simp only [Act.put, List.setIfInBounds_toArray, List.set_cons_zero, List.set_cons_succ]
        refine takeH (i := 13) (some 53) (v := ?_) rfl rfl (by kernel_rfl) (by kernel_rfl) (by kernel_rfl) (fun _ _ _ h => h) (Or.inl ⟨by rfl, ?hyB13⟩) hHeld ?restB13
        case hyB13 => (intro w hSw; (try dsimp only at hSw); go_simp; (try with_reducible rfl))
        try simp only [Act.put, List.setIfInBounds_toArray, List.set_cons_zero, List.set_cons_succ]
        refine takeH (i := 14) (some 54) (v := ?_) rfl rfl (by kernel_rfl) (by kernel_rfl) (by kernel_rfl) (fun _ _ _ h => h) (Or.inl ⟨by rfl, ?hyB14⟩) hHeld ?restB14
        case hyB14 => (intro w hSw; (try dsimp only at hSw); go_simp; (try with_reducible rfl))
        try simp only [Act.put, List.setIfInBounds_toArray, List.set_cons_zero, List.set_cons_succ]
        refine takeH (i := 15) (some 55) (v := ?_) rfl rfl (by kernel_rfl) (by kernel_rfl) (by kernel_rfl) (fun _ _ _ h => h) (Or.inl ⟨by rfl, ?hyB15⟩) hHeld ?restB15
        case hyB15 => (intro w' hSw; have q0 := hSw.cell HX0.out (by omega); have q1 := hSw.cell HX1.out (by omega); have q2 := hSw.cell HX2.out (by omega); have q3 := hSw.cell HX3.out (by omega); have q4 := hSw.f0; have q5 := hSw.f1; clear hSw; go_simp; (try with_reducible rfl))
        try simp only [Act.put, List.setIfInBounds_toArray, List.set_cons_zero, List.set_cons_succ]
        refine takeH (i := 16) (some 56) (v := ?_) rfl rfl (by kernel_rfl) (by kernel_rfl) (by kernel_rfl) (fun _ _ _ h => h) (Or.inl ⟨by rfl, ?hyB16⟩) hHeld ?restB16
        case hyB16 => (intro w hSw; (try dsimp only at hSw); go_simp; (try with_reducible rfl))
        try simp only [Act.put, List.setIfInBounds_toArray, List.set_cons_zero, List.set_cons_succ]
        refine takeH (i := 17) (some 57) (v := ?_) rfl rfl (by kernel_rfl) (by kernel_rfl) (by kernel_rfl) (fun _ _ _ h => h) (Or.inl ⟨by rfl, ?hyB17⟩) hHeld ?restB17
        case hyB17 => (intro w' hSw; have q0 := hSw.cell HX0.out (by omega); have q1 := hSw.cell HX1.out (by omega); have q2 := hSw.cell HX2.out (by omega); have q3 := hSw.cell HX3.out (by omega); have q4 := hSw.f0; have q5 := hSw.f1; clear hSw; go_simp; (try with_reducible rfl))
        try simp only [Act.put, List.setIfInBounds_toArray, List.set_cons_zero, List.set_cons_succ]
        refine takeH (i := 18) (some 58) (v := ?_) rfl rfl (by kernel_rfl) (by kernel_rfl) (by kernel_rfl) (fun _ _ _ h => h) (Or.inl ⟨by rfl, ?hyB18⟩) hHeld ?restB18
        case hyB18 => (intro w hSw; (try dsimp only at hSw); go_simp; (try with_reducible rfl))
        try simp only [Act.put, List.setIfInBounds_toArray, List.set_cons_zero, List.set_cons_succ]
        refine takeH (i := 19) (some 59) (v := ?_) rfl rfl (by kernel_rfl) (by kernel_rfl) (by kernel_rfl) (fun _ _ _ h => h) (Or.inl ⟨by rfl, ?hyB19⟩) hHeld ?restB19
        case hyB19 => (intro w hSw; (try dsimp only at hSw); go_simp; (try with_reducible rfl))
        try simp only [Act.put, List.setIfInBounds_toArray, List.set_cons_zero, List.set_cons_succ]
        refine takeH (i := 20) (some 60) (v := ?_) rfl rfl (by kernel_rfl) (by kernel_rfl) (by kernel_rfl) (fun _ _ _ h => h) (Or.inl ⟨by rfl, ?hyB20⟩) hHeld ?restB20
        case hyB20 => (intro w hSw; (try dsimp only at hSw); go_simp; (try with_reducible rfl))
        try simp only [Act.put, List.setIfInBounds_toArray, List.set_cons_zero, List.set_cons_succ]
        refine takeH (i := 21) (some 61) (v := ?_) rfl rfl (by kernel_rfl) (by kernel_rfl) (by kernel_rfl) (fun _ _ _ h => h) (Or.inl ⟨by rfl, ?hyB21⟩) hHeld ?restB21
        case hyB21 => (intro w' hSw; have q0 := hSw.cell HX0.out (by omega); have q1 := hSw.cell HX1.out (by omega); have q2 := hSw.cell HX2.out (by omega); have q3 := hSw.cell HX3.out (by omega); have q4 := hSw.f0; have q5 := hSw.f1; clear hSw; go_simp; (try with_reducible rfl))
        try simp only [Act.put, List.setIfInBounds_toArray, List.set_cons_zero, List.set_cons_succ]
        refine wpAnyH_ready (rs := [11]) (by kernel_rfl) (by simp) ?_
        refine AllReadyH.cons rfl (fun K hK => ?_) AllReadyH.nil
        go_simp
        with_reducible refine (HN.out _).mono ?_; rintro e w1 ⟨rfl, hb1⟩; have s1 := hHeld.on hb1; clear hHeld
        refine hK.out _ _ ?_ (fun hHeld => ?_)
        · exact s1
        clear hK K
        try simp only [Act.put, List.setIfInBounds_toArray, List.set_cons_zero, List.set_cons_succ]
        refine wpAnyH_ready (rs := [22]) (by kernel_rfl) (by simp) ?_
        refine AllReadyH.cons rfl (fun K hK => ?_) AllReadyH.nil
        go_simp
        with_reducible refine (HF.out _).mono ?_; rintro e w2 ⟨rfl, hb2⟩; have s2 := hHeld.on hb2; clear hHeld
        refine hK.out _ _ ?_ (fun hHeld => ?_)
        · exact s2
        clear hK K
        try simp only [Act.put, List.setIfInBounds_toArray, List.set_cons_zero, List.set_cons_succ]
        refine wpAnyH_ready (rs := [23]) (by kernel_rfl) (by simp) ?_
        refine AllReadyH.cons rfl (fun K hK => ?_) AllReadyH.nil
        go_simp
        refine hK.out _ _ ?_ (fun hHeld => ?_)
        · exact hHeld.alloc _
        clear hK K
        try simp only [Act.put, List.setIfInBounds_toArray, List.set_cons_zero, List.set_cons_succ]
        refine wpAnyH_ready (rs := [24]) (by kernel_rfl) (by simp) ?_
        refine AllReadyH.cons rfl (fun K hK => ?_) AllReadyH.nil
        go_simp
        refine (total_c [x0, N, x2, F] w2.heap.size 0 4 _ (cellsW [x0, N, x2, F] w2) (by simp)).mono ?_; rintro e w3 ⟨rfl, hb3⟩; have s3 := hHeld.on hb3; obtain ⟨v6, q6⟩ := s3.ck; have q7 := s3.fk; clear hHeld
        refine hK.out _ _ ?_ (fun hHeld => ?_)
        · exact s3
        clear hK K
        try simp only [Act.put, List.setIfInBounds_toArray, List.set_cons_zero, List.set_cons_succ]
        refine takeH (i := 25) (some 65) (v := ?_) rfl rfl (by kernel_rfl) (by kernel_rfl) (by kernel_rfl) (fun _ _ _ h => h) (Or.inl ⟨by rfl, ?hyB25⟩) hHeld ?restB25
        case hyB25 => (intro w hSw; (try dsimp only at hSw); go_simp; (try with_reducible rfl))
        try simp only [Act.put, List.setIfInBounds_toArray, List.set_cons_zero, List.set_cons_succ]
        refine wpAnyH_ready (rs := [26]) (by kernel_rfl) (by simp) ?_
        refine AllReadyH.cons rfl (fun K hK => ?_) AllReadyH.nil
        go_simp
        refine hK.out _ _ ?_ (fun hHeld => ?_)
        · exact s3.set _
        clear hK K
        try simp only [Act.put, List.setIfInBounds_toArray, List.set_cons_zero, List.set_cons_succ]
        refine wpAnyH_done (by kernel_rfl) ?_ _
        have bW := btr (btr (below_drew (Below.refl wr.heap.size wr)) hb1) (btr hb2 (btr (below_alloc w2 _) hb3))
        clear hb1 hb2 hb3 s1 s2
        rw [← HX.out]
        go_wp2
        go_roundw
        case rel => exact ⟨k + 1, by omega, by go_num, ((HSi.out.on bW).set hlt).on (Below.refl _ _)⟩
        case measure => simp [intOf]; omega
    · have hlt' : ¬ (k : Int) < 64 := by omega
      obtain rfl : k = 64 := by omega
      have HSi := Lib.hid hS.below
      obtain ⟨tw, hw⟩ := hS.words.ex
      obtain ⟨tr, hr⟩ := hS.res.ex
      have hlen := schedL_length (bL b) 64
      clear hS
      obtain ⟨SL, hSL⟩ : ∃ SL, SL = schedL (bL b) 64 := ⟨_, rfl⟩
      rw [← hSL] at hw hlen
      have HSL := Lib.hid hSL
      clear hSL
      rw [show List.replicate (64 - 64) (0 : Wd) = [] from rfl, List.append_nil] at hw
      have hz : (wVs SL).toArray.size = 64 := by rw [List.size_toArray, wVs, List.length_map, hlen]
      have ho : ∀ v ∈ (wVs SL).toArray.toList, v.oneCell' = true := by
        intro v hv
        obtain ⟨x, _, rfl⟩ := List.mem_map.1 (show v ∈ SL.map wV from hv)
        rfl
      obtain ⟨R0, hR0⟩ : ∃ R0, R0 = (wVs (List.replicate 64 0)).toArray := ⟨_, rfl⟩
      rw [← hR0] at hr
      have hRz : R0.size = 64 := by rw [hR0]; simp [wVs]
      clear hR0 hlen
      obtain ⟨V, hV⟩ : ∃ V, V = (wVs SL).toArray := ⟨_, rfl⟩
      rw [← hV] at hw hz ho
      have HV := Lib.hid hV
      clear hV
      have hres : (wr.setRow w.heap.size V).heap[w.heap.size]? = some (.cells V tr (0, 0)) := setRow_heap wr _ _ V tr _ hr
      have ha : V.all (·.oneCell') = true := Array.all_eq_true_iff_forall_mem.2 (fun v hv => ho v (by simpa using hv))
      go_wp2_with (first | (refine wpList_load_row rfl (.tmp 4) 86 rfl (w.heap.size + 1 + 1) tw V (0, 0) (.array 64 56) rfl hw (by kernel_rfl) rfl (by rw [hz]; kernel_rfl) ?_) | (refine wpList_store_row rfl (.tmp 2) (.tmp 67) 86 rfl rfl w.heap.size tr R0 V rfl rfl hr (by rw [hz]; kernel_rfl) (by rw [hz]; exact hRz) ha ?_))
      have hl : (loadVar 86 ⟨w.heap.size, 0, none⟩).run Tryz.prog (wr.setRow w.heap.size V) = .ok (.agg V) (wr.setRow w.heap.size V) := run_loadVar_row _ _ tr _ V (0, 0) (.array 64 56) hres (by kernel_rfl) rfl (by rw [hz]; kernel_rfl)
      refine bodyPost_ret (results_cell rfl _ _ (by rfl) hl) rfl ?_
      have hb2 := below_setRow HSi.out (Nat.le_refl _) V
      refine ⟨?_, hb2⟩
      rw [HV.out, HSL.out]
end Go.Proofs.YtjlpkndbnaknaaaGreatDoor
