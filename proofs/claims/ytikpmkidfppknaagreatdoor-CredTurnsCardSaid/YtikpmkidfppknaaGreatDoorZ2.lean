/- Bo, Hr, Res, G, Mk -/
import Derived.Test.YtikpmkidfppknaaGreatDoorZ1
import Derived.LoopIn
import Derived.LoopNIn
import Derived.Test.YtikpmkidfppknaaGreatDoorZ0
import Derived.Laws.EntriesVeiled
import Derived.Laws.CopyOwn
import Derived.Laws.BitsAllLaws
set_option linter.unusedVariables false
set_option linter.unusedSimpArgs false
/- bytesOf: the iterator's contract. -/
namespace Go.Proofs.YtikpmkidfppknaaGreatDoor
open Go.RowKit Go.Shelf
attribute [local go_sem] Oper.semAt_some

/-- A byte and its place. -/
structure Byt where
  i : Nat
  b : Nat
  hb : b < 256
def encY (x : Byt) : Array Value := #[.int .i64 (x.i : Int), .int .u8 (x.b : Int)]
def bytAt (s : ByteArray) (k : Nat) : Byt := ⟨k, (bL s).getD k 0 % 256, Nat.mod_lt _ (by decide)⟩
def bytsB (s : ByteArray) : List Byt := (List.range s.size).map (bytAt s)
theorem bytsB_length (s : ByteArray) : (bytsB s).length = s.size := by rw [bytsB, List.length_map, List.length_range]
theorem bytsB_take (s : ByteArray) (k : Nat) (h : k < s.size) : (bytsB s).take (k + 1) = (bytsB s).take k ++ [bytAt s k] := by
  have hl : k < (bytsB s).length := by rw [bytsB_length]; exact h
  rw [List.take_add_one, List.getElem?_eq_getElem hl]
  simp [bytsB]
theorem bytAt_b (s : ByteArray) (k : Nat) (h : k < s.size) : (bytAt s k).b = (s[k]'h).toNat := by
  show (bL s).getD k 0 % 256 = _
  rw [List.getD_eq_getElem?_getD, bL_get s k h]
  exact Nat.mod_eq_of_lt (s[k]'h).toNat_lt
set_option maxRecDepth 100000 in
set_option maxHeartbeats 8000000 in
theorem bytes_it (n : Nat) (hn : 2 ≤ n) (s : ByteArray) (hs : s.size ≤ 100000) (sb : Nat) (w : World) (h0 : w.cell? ⟨sb, 0, none⟩ = some (.string s)) :
    Iters Fence.wide n Tryz.prog 90 #[.pointer (some ⟨sb, 0, none⟩)] encY (fun pre x => pre ++ [x] <+: bytsB s) (fun xs => xs = bytsB s) (fun pre => pre <+: bytsB s) (fun i => i = sb) w := by
  intro l J Jx W Pv hW hcap hJ hJx hY hj
  have H0 := (hW.cell (p := ⟨sb, 0, none⟩) (blt h0)).trans h0
  have HP := Lib.hid (hcap sb rfl)
  have HY := Lib.hid hY
  have hJ0 := Lib.hid hj
  clear hW hcap hJ hJx hY hj h0
  refine callsIn_of_wp Tryz.func90 rfl trivial ?_ rfl
  simp only [Tryz.ntmps90, List.size_toArray, List.length_cons, List.length_nil, Nat.reduceAdd, Nat.reduceSub, Array.replicate_succ, Array.replicate_zero, List.push_toArray, List.append_toArray, List.nil_append, List.cons_append]
  gi_wp2
  gi_loopw [6] (fun i wr => ∃ (k : Nat) (Pv : Nat → Prop), k ≤ s.size ∧ i = .int .i64 (k : Int) ∧ Hid (J ((bytsB s).take k) Pv wr) ∧ Hid (Pv sb) ∧ wr.cell? ⟨sb, 0, none⟩ = some (.string s)) (fun i _ => s.size + 1 - (intOf i).toNat)
  case atStart => exact ⟨0, Pv, by omega, rfl, hJ0, HP, H0⟩
  case round =>
    clear hJ0 HP H0
    obtain ⟨k, Pv, hk, rfl, hj, hp, hb⟩ := hrel
    by_cases hlt : k < s.size
    · have hlt' : (k : Int) < (s.size : Int) := by omega
      have HT := Lib.hid (bytsB_take s k hlt)
      have hpre : (bytsB s).take k ++ [bytAt s k] <+: bytsB s := by rw [← HT.out]; exact List.take_prefix _ _
      obtain ⟨fn, tmps, assign, body, hy, hR⟩ := HY.out _ _ Pv wr hpre hj.out
      have hy' := hy
      unfold encY at hy'
      rw [bytAt_b s k hlt, show (bytAt s k).i = k from rfl] at hy'
      have HPR := Lib.hid hpre
      have HP := Lib.hid hp.out
      have HB := Lib.hid hb
      clear hy hpre hj hp
      gi_wp2
      refine ⟨fun _ => (by omega), hR.mono ?_⟩
      clear hy' hR hb
      rintro e V2 (⟨rfl, hJ2, hM⟩ | ⟨rfl, hX2, hM⟩)
      · have hb2 := hM.cell HB.out HP.out
        have HJ2 := Lib.hid hJ2
        clear hJ2 hM
        gi_wp2
        go_roundw
        case rel => exact ⟨k + 1, Pv, by omega, by go_num, by rw [HT.out]; exact HJ2, HP, hb2⟩
        case measure => simp [intOf]; omega
      · have HX2 := Lib.hid hX2
        clear hX2 hM
        gi_wp2
        refine bodyPost_ret (results_none rfl _ _ _) rfl ?_
        exact ⟨⟨_, rfl⟩, .inr ⟨_, _, HPR.out, HX2.out⟩⟩
    · have hlt' : ¬ (k : Int) < (s.size : Int) := by omega
      obtain rfl : k = s.size := by omega
      have hall : (bytsB s).take s.size = bytsB s := List.take_of_length_le (by rw [bytsB_length]; exact Nat.le_refl _)
      rw [hall] at hj
      gi_wp2
      go_end0
      first | exact ⟨⟨_, rfl⟩, .inl ⟨_, hj.out⟩⟩ | exact ⟨⟨_, rfl⟩, .inl ⟨_, _, rfl, hj.out⟩⟩
theorem bytesOf_c (s : ByteArray) (w : World) : Calls Tryz.prog 74 #[.string s] w fun x w' => x = .returned (.func (.func 90) #[] #[.pointer (some ⟨w.heap.size, 0, none⟩)]) ∧ w' = w.alloc (.cells #[.string s] 9) := by
  go_enter Tryz.func74, Tryz.ntmps74
  go_wp2
  go_ret
  exact ⟨rfl, rfl⟩
end Go.Proofs.YtikpmkidfppknaaGreatDoor

/- A region that draws its order, held, in a round of a range over a function. -/
namespace Go.Proofs.YtikpmkidfppknaaGreatDoor
open Go.RowKit

theorem wpOpIn_of_wpOp {l n : Nat} {P : Program} {ops : Array Oper} {Q : Exit → Act → World → Prop} {i : Nat} {K K' : Act → World → Prop} {a : Act} {w : World}
    (hd : ∀ (j : Nat) (o : Oper), ops[j]? = some o → ∀ c, o.op ≠ .defer c) (hno : ¬ LetsOut Q) (hK : ∀ a w, K a w → K' a w) (h : wpOp P ops Q i K a w) : wpOpIn (Fence.wide.inRound l) n P ops Q i K' a w := by
  refine wpOpIn_mono hK ?_
  unfold wpOp at h
  unfold wpOpIn
  cases ho : ops[i]? with
  | none => rw [ho] at h; exact h
  | some o =>
    rw [ho] at h
    simp only [] at h ⊢
    by_cases hw : Region.wanted o (yielded ops a.tmps) = true
    · rw [if_pos hw] at h ⊢
      rcases h with h | ⟨_, h⟩
      · refine ⟨fun _ _ => trivial, ?_⟩
        have hs : o.semAt (Fence.wide.inRound l).round a.eval = execOp a.eval o := Oper.semAt_some l _ _ (hd _ _ ho)
        rw [hs]
        unfold Oper.wp at h
        generalize (execOp a.eval o).run P w = r at *
        cases r with
        | ok x w' =>
          cases x with
          | enter f args => exact ⟨fun k => by simp [Fence.wide] at k, CallsIn.inRound l (callsIn_wide.2 h)⟩
          | row row args => exact ⟨fun k => by simp [Fence.wide] at k, fun c cs _ => let ⟨v, w', r, s⟩ := h c cs; ⟨v, w', r, stepsIn_wide.2 s⟩⟩
          | _ => first | exact h | exact (h : False).elim
        | halt x w' => cases x <;> first | exact h | exact (h : False).elim
      · exact absurd h hno
    · rw [if_neg hw] at h ⊢
      exact ⟨fun _ _ => trivial, h⟩
theorem wpAnyIn_of_wpAny {l n : Nat} {P : Program} {md : Region.Mode} {ops : Array Oper} {Q : Exit → Act → World → Prop}
    (hd : ∀ (j : Nat) (o : Oper), ops[j]? = some o → ∀ c, o.op ≠ .defer c) (hno : ¬ LetsOut Q) : ∀ (fuel : Nat) (listed : Array Bool) (a : Act) (w : World), wpAny P md ops Q fuel listed a w → wpAnyIn (Fence.wide.inRound l) n P md ops Q fuel listed a w
  | 0, _, _, _, h => h
  | fuel + 1, _, _, _, h => ⟨h.1, fun i hi => wpOpIn_of_wpOp hd hno (fun a' w' h' => wpAnyIn_of_wpAny hd hno fuel _ a' w' h') (h.2 i hi)⟩
/-- No operation of a region is a defer statement: by a look. -/
def noDefer (ops : Array Oper) : Bool := ops.all fun o => match o.op with | .defer _ => false | _ => true
theorem noDefer_spec {ops : Array Oper} (h : noDefer ops = true) : ∀ (j : Nat) (o : Oper), ops[j]? = some o → ∀ c, o.op ≠ .defer c := by
  intro j o ho c hc
  have := (Array.all_eq_true.1 h) j (Array.getElem?_eq_some_iff.1 ho).1
  rw [(Array.getElem?_eq_some_iff.1 ho).2, hc] at this
  cases this
theorem wpIn_region_held_drew {l n : Nat} {P : Program} {ops : Array Oper} {Q : Exit → Act → World → Prop} {S : World → Prop} {id : Nat} {a : Act} {w : World} (hm : P.follows .mixedOrders = true) (hd : noDefer ops = true) (hno : ¬ LetsOut Q)
    (hS : S w.drew) (h : S w.drew → wpAnyH P .any ops Q S ops.size (Array.replicate ops.size false) a w.drew) : (Code.region id ops true).wpIn (Fence.wide.inRound l) n P Q a w :=
  wpIn_region_any hm (wpAnyIn_of_wpAny (noDefer_spec hd) hno _ _ _ _ (wpAny_of_held _ _ _ _ (h hS)))
end Go.Proofs.YtikpmkidfppknaaGreatDoor

/- Results that lie in a cell (layer 3 has these in its texts R, V). -/
namespace Go.Proofs.YtikpmkidfppknaaGreatDoor
open Go.RowKit Go.Shelf

theorem results_cell {P : Program} {fn : Func} {p : Tmp} {ty : TypeId} (h : fn.results = #[.cell p ty]) (tmps : Array Value) (w : World) {a : Addr} {v : Value} (hp : tmps.getD p undef = .pointer (some a)) (hl : (loadVar ty a).run P w = .ok v w) : (results fn tmps).run P w = .ok v w := by
  simp only [results, h]
  have hp2 : tmps[p]?.getD undef = .pointer (some a) := by simpa using hp
  simp [asAddr, hp2, hl]
theorem results_cell2 {P : Program} {fn : Func} {p u v : Tmp} {ty : TypeId} (h : fn.results = #[.cell p ty, .tmp u, .tmp v]) (tmps : Array Value) (w : World) {a : Addr} {x : Value} (hp : tmps.getD p undef = .pointer (some a)) (hl : (loadVar ty a).run P w = .ok x w) : (results fn tmps).run P w = .ok (.tuple #[x, tmps.getD u undef, tmps.getD v undef]) w := by
  simp only [results, h]
  have hp2 : tmps[p]?.getD undef = .pointer (some a) := by simpa using hp
  simp [Result.andThen, asAddr, hp2, hl]
theorem results_cellt {P : Program} {fn : Func} {p u : Tmp} {ty : TypeId} (h : fn.results = #[.cell p ty, .tmp u]) (tmps : Array Value) (w : World) {a : Addr} {x y : Value} (hp : tmps.getD p undef = .pointer (some a)) (hu : tmps.getD u undef = y) (hl : (loadVar ty a).run P w = .ok x w) : (results fn tmps).run P w = .ok (.tuple #[x, y]) w := by
  subst hu
  simp only [results, h]
  have hp2 : tmps[p]?.getD undef = .pointer (some a) := by simpa using hp
  simp [Result.andThen, asAddr, hp2, hl]
end Go.Proofs.YtikpmkidfppknaaGreatDoor

/- schedule: words in a row. -/
namespace Go.Proofs.YtikpmkidfppknaaGreatDoor
open Go.RowKit Go.Shelf
attribute [local go_sem] Oper.semAt_some

def wV (x : Wd) : Value := .int .u32 (x.toNat : Int)
def wVs (l : List Wd) : List Value := l.map wV
theorem below_set2 {w W : World} {b o : Nat} {v : Value} (h : Below w.heap.size w W) (hb : w.heap.size ≤ b) : Below w.heap.size w (W.setCell ⟨b, o, none⟩ v) :=
  ⟨h.os, h.tape, h.output, Nat.le_trans h.size (Nat.le_of_eq (by simp)), fun i hi => (Below.heap_setCell W ⟨b, o, none⟩ v i (by intro e; simp at e; omega)).trans (h.block i hi)⟩
/-- Words in the cells of a block. -/
structure WdsAt (b : Nat) (l : List Wd) (W : World) : Prop where
  ex : ∃ t, W.heap[b]? = some (.cells (wVs l).toArray t (0, 0))
theorem WdsAt.lt {b : Nat} {l : List Wd} {W : World} (h : WdsAt b l W) : b < W.heap.size := by
  obtain ⟨t, h⟩ := h.ex
  exact (Array.getElem?_eq_some_iff.1 h).1
theorem WdsAt.block {b : Nat} {l : List Wd} {W W' : World} (h : WdsAt b l W) (k : W'.heap[b]? = W.heap[b]?) : WdsAt b l W' := by
  obtain ⟨t, h⟩ := h.ex
  exact ⟨⟨t, k.trans h⟩⟩
theorem WdsAt.on {b : Nat} {l : List Wd} {W W' : World} (h : WdsAt b l W) (k : Below W.heap.size W W') : WdsAt b l W' := h.block (k.block b h.lt)
theorem WdsAt.grown {b : Nat} {l : List Wd} {W W' : World} {row : Option Nat} (h : WdsAt b l W) (k : W.grownBy W' row) (hr : row ≠ some b) : WdsAt b l W' := h.block (k.block b h.lt (fun e => hr e.symm))
theorem WdsAt.drew {b : Nat} {l : List Wd} {W : World} (h : WdsAt b l W) : WdsAt b l W.drew := h.block rfl
theorem WdsAt.cell {b : Nat} {l : List Wd} {W : World} (h : WdsAt b l W) {j : Nat} {x : Wd} (hj : l[j]? = some x) : W.cell? ⟨b, j, none⟩ = some (.int .u32 (x.toNat : Int)) := by
  obtain ⟨t, h⟩ := h.ex
  rw [cell_of_row W b j _ _ _ h]
  simp [wVs, hj, wV]
theorem WdsAt.frozen {b : Nat} {l : List Wd} {W : World} (h : WdsAt b l W) (j : Nat) : W.frozen? ⟨b, j, none⟩ = false := by
  obtain ⟨t, h⟩ := h.ex
  simp [World.frozen?, h]
theorem WdsAt.set {b : Nat} {l : List Wd} {W : World} (h : WdsAt b l W) (j : Nat) (x : Wd) : WdsAt b (l.set j x) (W.setCell ⟨b, j, none⟩ (.int .u32 (x.toNat : Int))) := by
  obtain ⟨t, h⟩ := h.ex
  refine ⟨⟨t, ?_⟩⟩
  rw [setCell_eq_setRow W b j _ _ _ _ h, setRow_heap W b _ _ _ _ h]
  congr 2
  simp [wVs, wV]
theorem WdsAt.other {b c o : Nat} {l : List Wd} {W : World} (h : WdsAt b l W) (hne : b ≠ c) (v : Value) : WdsAt b l (W.setCell ⟨c, o, none⟩ v) := h.block (Below.heap_setCell W ⟨c, o, none⟩ v b hne)
theorem load_row (W : World) (b n : Nat) (V : Array Value) (t : TypeId) (h : W.heap[b]? = some (.cells V t (0, 0))) (hz : V.size = n) : (loadCellsFrom ⟨b, 0, none⟩ 0 n #[]).run Tryz.prog W = .ok V W := by
  subst hz
  have := run_loadCells_list (P := Tryz.prog) W ⟨b, 0, none⟩ V.toList (fun j v hv => by
    have hadd : (⟨b, 0, none⟩ : Addr).add j = ⟨b, j, none⟩ := by unfold Addr.add; split <;> simp_all
    rw [hadd, cell_of_row W b j V t (0, 0) h]
    simpa using hv)
  simpa [loadCells] using this
theorem store_row (W : World) (b : Nat) (V old : Array Value) (t : TypeId) (h : W.heap[b]? = some (.cells old t (0, 0))) (hz : old.size = V.size) (ho : ∀ v ∈ V.toList, v.oneCell' = true) : (storeCells ⟨b, 0, none⟩ V.toList 0).run Tryz.prog W = .ok () (W.setRow b V) := by
  have := run_storeCells_from (P := Tryz.prog) b t V.toList 0 old W h (by simp [hz]) ho
  simpa using this
theorem wpList_load_row {P : Program} {w : World} {ops : Array Oper} {rest : List Oper} {o : Oper} {a : Act} {Q : Exit → Act → World → Prop} (hgd : o.guard = none) (p : Operand) (ty : TypeId) (ho : o.op = .load ty p)
    (g : Nat) (t : TypeId) (cs : Array Value) (fr : Nat × Nat) (d : TypeDesc) (hp : a.eval p = .pointer (some ⟨g, 0, none⟩)) (hg : w.heap[g]? = some (.cells cs t fr))
    (hu : P.underlying ty = some d) (hd : (match d with | .struct _ | .array _ _ => true | _ => false) = true) (hi : (P.info? ty).map (·.size) = some cs.size)
    (h : wpList P ops Q rest (a.put o.dst (.agg cs)) w) : wpList P ops Q (o :: rest) a w := by
  refine wpList_plain hgd fun K hK => ?_
  have hrun := run_loadVar_row (P := P) w g t ty cs fr d hg hu hd hi
  unfold Oper.wp
  simp [execOp, ho, hp, Instr.loadAt, Instr.sureAddr, hrun, Result.andThen]
  exact hK _ _ h
theorem wpList_store_row {P : Program} {w : World} {ops : Array Oper} {rest : List Oper} {o : Oper} {a : Act} {Q : Exit → Act → World → Prop} (hgd : o.guard = none) (p x : Operand) (ty : TypeId) (ho : o.op = .store ty p x) (hdst : o.dst = none)
    (g : Nat) (t : TypeId) (old cs : Array Value) (hp : a.eval p = .pointer (some ⟨g, 0, none⟩)) (hx : a.eval x = .agg cs) (hg : w.heap[g]? = some (.cells old t (0, 0)))
    (hi : (P.info? ty).map (·.size) = some cs.size) (hz : old.size = cs.size) (h1 : cs.all (·.oneCell') = true)
    (h : wpList P ops Q rest (a.put none undef) (w.setRow g cs)) : wpList P ops Q (o :: rest) a w := by
  refine wpList_plain hgd fun K hK => ?_
  have hrun := run_storeVar_row (P := P) w g t ty old cs hg hi hz h1
  unfold Oper.wp
  simp [execOp, ho, hp, hx, Instr.storeAt, Instr.sureAddr, hrun, Result.andThen]
  exact hK _ _ (by rw [hdst]; exact h)
theorem heap_new_at {W : World} {n : Nat} (o : Obj) (h : W.heap.size = n) : (W.alloc o).heap[n]? = some o := by
  subst h
  exact World.alloc_heap_new W o
theorem sched_zero (b : List Nat) (k : Nat) (h : k < 64) : (schedL b k ++ List.replicate (64 - k) (0 : Wd))[k]? = some 0 := by
  rw [List.getElem?_append_right (by rw [schedL_length]; exact Nat.le_refl _), schedL_length, Nat.sub_self, List.getElem?_replicate, if_pos (by omega)]
theorem sched_old (b : List Nat) (k j : Nat) (h : j < k) : (schedL b k ++ List.replicate (64 - k) (0 : Wd))[j]? = some ((schedL b k).getD j 0) := by
  have hl : j < (schedL b k).length := by rw [schedL_length]; exact h
  rw [List.getElem?_append_left hl, List.getD_eq_getElem?_getD, List.getElem?_eq_getElem hl]
  rfl
theorem sched_set (b : List Nat) (k : Nat) (h : k < 64) : (schedL b k ++ List.replicate (64 - k) (0 : Wd)).set k (nextW b (schedL b k)) = schedL b (k + 1) ++ List.replicate (64 - (k + 1)) 0 := by
  rw [List.set_append_right _ _ (by rw [schedL_length]; exact Nat.le_refl _), schedL_length, Nat.sub_self, show 64 - k = (64 - (k + 1)) + 1 by omega, List.replicate_succ, List.set_cons_zero, schedL, List.append_assoc]
  rfl
theorem ext4 (b : ByteArray) (k : Nat) (_hb : b.size = 64) (h : k < 16) : nextW (bL b) (schedL (bL b) k) = wordL (bL (b.extract (4 * k) (4 * k + 4))) := by
  unfold nextW
  rw [schedL_length, if_pos h]
  unfold wordAt
  rw [bL_extract, List.drop_take, show 4 * k + 4 - 4 * k = 4 by omega]
theorem next16 (b : List Nat) (k : Nat) (h : ¬ k < 16) : nextW b (schedL b k) = totalL [(schedL b k).getD (k - 16) 0, nearW ((schedL b k).getD (k - 15) 0), (schedL b k).getD (k - 7) 0, farW ((schedL b k).getD (k - 2) 0)] := by
  unfold nextW
  rw [schedL_length, if_neg h]
theorem w_b (n : Nat) (_h : n < 256) : IntKind.u32.wrap (n : Int) = ((BitVec.ofNat 32 n).toNat : Int) := by
  rw [IntKind.wrap_u32', BitVec.toNat_ofNat]; omega
theorem w_shl24 (x : Wd) : IntKind.u32.wrap ((x.toNat : Int) * 16777216) = ((x <<< 24).toNat : Int) := by
  have h := w_shl x 24
  rwa [show (2 : Int) ^ 24 = 16777216 by decide] at h
theorem w_shl16 (x : Wd) : IntKind.u32.wrap ((x.toNat : Int) * 65536) = ((x <<< 16).toNat : Int) := by
  have h := w_shl x 16
  rwa [show (2 : Int) ^ 16 = 65536 by decide] at h
theorem w_shl8 (x : Wd) : IntKind.u32.wrap ((x.toNat : Int) * 256) = ((x <<< 8).toNat : Int) := by
  have h := w_shl x 8
  rwa [show (2 : Int) ^ 8 = 256 by decide] at h
theorem bL_four (s : ByteArray) (h : s.size = 4) : bL s = [(s[0]'(by omega)).toNat, (s[1]'(by omega)).toNat, (s[2]'(by omega)).toNat, (s[3]'(by omega)).toNat] := by
  apply List.ext_getElem?
  intro i
  match i with
  | 0 => rw [bL_get s 0 (by omega)]; rfl
  | 1 => rw [bL_get s 1 (by omega)]; rfl
  | 2 => rw [bL_get s 2 (by omega)]; rfl
  | 3 => rw [bL_get s 3 (by omega)]; rfl
  | i + 4 => rw [List.getElem?_eq_none (by rw [bL_length]; omega)]; rfl
theorem word4 (s : ByteArray) (h : s.size = 4) : bits .or .u32 (bits .or .u32 (bits .or .u32 (IntKind.u32.wrap (IntKind.u32.wrap ((s[0]'(by omega)).toNat : Int) * 16777216)) (IntKind.u32.wrap (IntKind.u32.wrap ((s[1]'(by omega)).toNat : Int) * 65536))) (IntKind.u32.wrap (IntKind.u32.wrap ((s[2]'(by omega)).toNat : Int) * 256))) (IntKind.u32.wrap ((s[3]'(by omega)).toNat : Int)) = ((wordL (bL s)).toNat : Int) := by
  rw [bL_four s h, w_b _ (UInt8.toNat_lt _), w_b _ (UInt8.toNat_lt _), w_b _ (UInt8.toNat_lt _), w_b _ (UInt8.toNat_lt _), w_shl24, w_shl16, w_shl8, w_or, w_or, w_or]
  rfl
/-- The schedule's world: n words are made. -/
structure SchedAt (b : List Nat) (w : World) (n : Nat) (W : World) : Prop where
  words : WdsAt (w.heap.size + 1 + 1) (schedL b n ++ List.replicate (64 - n) 0) W
  res : WdsAt w.heap.size (List.replicate 64 0) W
  f0 : W.cell? ⟨w.heap.size + 1, 0, none⟩ = some (.func (.func 98) #[] #[])
  f1 : W.cell? ⟨w.heap.size + 1, 1, none⟩ = some (.func (.func 99) #[] #[])
  below : Below w.heap.size w W
theorem SchedAt.on {b : List Nat} {w : World} {n : Nat} {W W' : World} (h : SchedAt b w n W) (k : Below W.heap.size W W') : SchedAt b w n W' :=
  ⟨h.words.on k, h.res.on k, (k.cell (p := ⟨w.heap.size + 1, 0, none⟩) (blt h.f0)).trans h.f0, (k.cell (p := ⟨w.heap.size + 1, 1, none⟩) (blt h.f1)).trans h.f1, btr h.below k⟩
theorem SchedAt.set {b : List Nat} {w : World} {k : Nat} {W : World} (h : SchedAt b w k W) (hk : k < 64) : SchedAt b w (k + 1) (W.setCell ⟨w.heap.size + 1 + 1, k, none⟩ (.int .u32 ((nextW b (schedL b k)).toNat : Int))) :=
  ⟨by rw [← sched_set b k hk]; exact h.words.set k _, h.res.other (by omega) _, (set_other W _ (by omega)).trans h.f0, (set_other W _ (by omega)).trans h.f1, (below_set2 h.below (by omega))⟩
/-- In the midst of a round. -/
structure SchedIn (b : List Nat) (w : World) (n : Nat) (W : World) : Prop where
  words : ∃ y, WdsAt (w.heap.size + 1 + 1) ((schedL b n ++ List.replicate (64 - n) 0).set n y) W
  lt : n < 64
  f0 : W.cell? ⟨w.heap.size + 1, 0, none⟩ = some (.func (.func 98) #[] #[])
  f1 : W.cell? ⟨w.heap.size + 1, 1, none⟩ = some (.func (.func 99) #[] #[])
theorem SchedIn.of {b : List Nat} {w : World} {n : Nat} {W : World} (h : SchedAt b w n W) (hn : n < 64) : SchedIn b w n W := by
  refine ⟨⟨0, ?_⟩, hn, h.f0, h.f1⟩
  have e : (schedL b n ++ List.replicate (64 - n) (0 : Wd)).set n 0 = schedL b n ++ List.replicate (64 - n) 0 := by
    obtain ⟨hl, h1⟩ := List.getElem?_eq_some_iff.1 (sched_zero b n hn)
    generalize (schedL b n ++ List.replicate (64 - n) (0 : Wd)) = L at *
    rw [← h1]
    exact List.set_getElem_self hl
  rw [e]
  exact h.words
theorem SchedIn.on {b : List Nat} {w : World} {n : Nat} {W W' : World} (h : SchedIn b w n W) (k : Below W.heap.size W W') : SchedIn b w n W' := by
  obtain ⟨y, hy⟩ := h.words
  exact ⟨⟨y, hy.on k⟩, h.lt, (k.cell (p := ⟨w.heap.size + 1, 0, none⟩) (blt h.f0)).trans h.f0, (k.cell (p := ⟨w.heap.size + 1, 1, none⟩) (blt h.f1)).trans h.f1⟩
theorem SchedIn.alloc {b : List Nat} {w : World} {n : Nat} {W : World} (h : SchedIn b w n W) (o : Obj) : SchedIn b w n (W.alloc o) := h.on (below_alloc W o)
theorem SchedIn.drew {b : List Nat} {w : World} {n : Nat} {W : World} (h : SchedIn b w n W) : SchedIn b w n W.drew := h.on (below_drew (Below.refl _ W))
theorem SchedIn.set {b : List Nat} {w : World} {n : Nat} {W : World} (h : SchedIn b w n W) (x : Wd) : SchedIn b w n (W.setCell ⟨w.heap.size + 1 + 1, n, none⟩ (.int .u32 (x.toNat : Int))) := by
  obtain ⟨y, hy⟩ := h.words
  refine ⟨⟨x, ?_⟩, h.lt, (set_other W _ (by omega)).trans h.f0, (set_other W _ (by omega)).trans h.f1⟩
  have := hy.set n x
  rwa [List.set_set] at this
theorem SchedIn.cell {b : List Nat} {w : World} {n : Nat} {W : World} (h : SchedIn b w n W) {j : Nat} {x : Wd} (hx : (schedL b n ++ List.replicate (64 - n) (0 : Wd))[j]? = some x) (hne : j < n) : W.cell? ⟨w.heap.size + 1 + 1, j, none⟩ = some (.int .u32 (x.toNat : Int)) := by
  obtain ⟨y, hy⟩ := h.words
  exact hy.cell (by rw [List.getElem?_set_ne (by omega)]; exact hx)
theorem SchedIn.ck {b : List Nat} {w : World} {n : Nat} {W : World} (h : SchedIn b w n W) : ∃ v, W.cell? ⟨w.heap.size + 1 + 1, n, none⟩ = some v := by
  obtain ⟨y, hy⟩ := h.words
  have hn := h.lt
  have hl : n < (schedL b n ++ List.replicate (64 - n) (0 : Wd)).length := by rw [List.length_append, schedL_length, List.length_replicate]; omega
  exact ⟨_, hy.cell (j := n) (x := y) (by rw [List.getElem?_set_self hl])⟩
theorem SchedIn.fk {b : List Nat} {w : World} {n : Nat} {W : World} (h : SchedIn b w n W) : W.frozen? ⟨w.heap.size + 1 + 1, n, none⟩ = false := by
  obtain ⟨y, hy⟩ := h.words
  exact hy.frozen n
set_option maxRecDepth 100000 in
set_option maxHeartbeats 8000000 in
theorem schedule_c (b : ByteArray) (hb : b.size = 64) (w : World) : Calls Tryz.prog 83 #[.string b] w fun r w' => r = .returned (.agg (wVs (schedL (bL b) 64)).toArray) ∧ Below w.heap.size w w' := by
  go_enter Tryz.func83, Tryz.ntmps83
  go_wp2
  go_loopw [8] (fun i wr => ∃ k : Nat, k ≤ 64 ∧ i = .int .i64 (k : Int) ∧ SchedAt (bL b) w k wr) (fun i _ => 64 - (intOf i).toNat)
  case atStart =>
    exact ⟨0, by omega, rfl, ⟨⟨⟨_, heap_new_at _ (by simp)⟩⟩, ⟨⟨_, ((Below.heap_alloc _ _ _ (by simp; omega)).trans (Below.heap_alloc _ _ _ (by simp))).trans (World.alloc_heap_new _ _)⟩⟩, by go_simp, by go_simp, bal (bal (below_alloc _ _) _) _⟩⟩
  case round =>
    obtain ⟨k, hk, rfl, hS⟩ := hrel
    by_cases hlt : k < 64
    · have hlt' : (k : Int) < 64 := by omega
      by_cases h16 : k < 16
      · have h16' : (k : Int) < 16 := by omega
        have HS := Lib.hid hS
        have hm : IntKind.i64.wrap (4 * (k : Int)) = 4 * (k : Int) := IntWalk.i64_in _ (by omega)
        have hm2 : IntKind.i64.wrap (4 * (k : Int) + 4) = 4 * (k : Int) + 4 := IntWalk.i64_in _ (by omega)
        have hc0 := hS.words.cell (j := k) (x := 0) (sched_zero _ _ hlt)
        have hf0 := hS.words.frozen k
        have HX := Lib.hid (ext4 b k hb h16)
        clear hS
        go_wp2_with fail
        have h4 : (b.extract (4 * k) (4 * k + 4)).size = 4 := by rw [ByteArray.size_extract]; omega
        generalize b.extract (4 * k) (4 * k + 4) = s4 at *
        have g0 : 0 < s4.size := by omega
        have g1 : 1 < s4.size := by omega
        have g2 : 2 < s4.size := by omega
        have g3 : 3 < s4.size := by omega
        refine wp_region_held_drew (S := (fun _ => True)) (by kernel_rfl) ?_ (fun hHeld => ?_)
        · exact trivial
        refine takeH (i := 0) (some 20) (v := ?_) rfl rfl (by kernel_rfl) (by kernel_rfl) (by kernel_rfl) (fun _ _ _ h => h) (Or.inl ⟨by rfl, ?hyA0⟩) hHeld ?restA0
        case hyA0 => (intro w hSw; (try dsimp only at hSw); go_simp; (try with_reducible rfl))
        try simp only [Act.put, List.setIfInBounds_toArray, List.set_cons_zero, List.set_cons_succ]
        refine takeH (i := 1) (some 21) (v := ?_) rfl rfl (by kernel_rfl) (by kernel_rfl) (by kernel_rfl) (fun _ _ _ h => h) (Or.inl ⟨by rfl, ?hyA1⟩) hHeld ?restA1
        case hyA1 => (intro w hSw; (try dsimp only at hSw); go_simp; (try with_reducible rfl))
        try simp only [Act.put, List.setIfInBounds_toArray, List.set_cons_zero, List.set_cons_succ]
        refine takeH (i := 2) (some 22) (v := ?_) rfl rfl (by kernel_rfl) (by kernel_rfl) (by kernel_rfl) (fun _ _ _ h => h) (Or.inl ⟨by rfl, ?hyA2⟩) hHeld ?restA2
        case hyA2 => (intro w hSw; (try dsimp only at hSw); go_simp; (try with_reducible rfl))
        try simp only [Act.put, List.setIfInBounds_toArray, List.set_cons_zero, List.set_cons_succ]
        refine takeH (i := 3) (some 23) (v := ?_) rfl rfl (by kernel_rfl) (by kernel_rfl) (by kernel_rfl) (fun _ _ _ h => h) (Or.inl ⟨by rfl, ?hyA3⟩) hHeld ?restA3
        case hyA3 => (intro w hSw; (try dsimp only at hSw); go_simp; (try with_reducible rfl))
        try simp only [Act.put, List.setIfInBounds_toArray, List.set_cons_zero, List.set_cons_succ]
        refine takeH (i := 4) (some 24) (v := ?_) rfl rfl (by kernel_rfl) (by kernel_rfl) (by kernel_rfl) (fun _ _ _ h => h) (Or.inl ⟨by rfl, ?hyA4⟩) hHeld ?restA4
        case hyA4 => (intro w hSw; (try dsimp only at hSw); go_simp; (try with_reducible rfl))
        try simp only [Act.put, List.setIfInBounds_toArray, List.set_cons_zero, List.set_cons_succ]
        refine takeH (i := 5) (some 25) (v := ?_) rfl rfl (by kernel_rfl) (by kernel_rfl) (by kernel_rfl) (fun _ _ _ h => h) (Or.inl ⟨by rfl, ?hyA5⟩) hHeld ?restA5
        case hyA5 => (intro w hSw; (try dsimp only at hSw); go_simp; (try with_reducible rfl))
        try simp only [Act.put, List.setIfInBounds_toArray, List.set_cons_zero, List.set_cons_succ]
        refine takeH (i := 6) (some 26) (v := ?_) rfl rfl (by kernel_rfl) (by kernel_rfl) (by kernel_rfl) (fun _ _ _ h => h) (Or.inl ⟨by rfl, ?hyA6⟩) hHeld ?restA6
        case hyA6 => (intro w hSw; (try dsimp only at hSw); go_simp; (try with_reducible rfl))
        try simp only [Act.put, List.setIfInBounds_toArray, List.set_cons_zero, List.set_cons_succ]
        refine takeH (i := 7) (some 27) (v := ?_) rfl rfl (by kernel_rfl) (by kernel_rfl) (by kernel_rfl) (fun _ _ _ h => h) (Or.inl ⟨by rfl, ?hyA7⟩) hHeld ?restA7
        case hyA7 => (intro w hSw; (try dsimp only at hSw); go_simp; (try with_reducible rfl))
        try simp only [Act.put, List.setIfInBounds_toArray, List.set_cons_zero, List.set_cons_succ]
        refine takeH (i := 8) (some 28) (v := ?_) rfl rfl (by kernel_rfl) (by kernel_rfl) (by kernel_rfl) (fun _ _ _ h => h) (Or.inl ⟨by rfl, ?hyA8⟩) hHeld ?restA8
        case hyA8 => (intro w hSw; (try dsimp only at hSw); go_simp; (try with_reducible rfl))
        try simp only [Act.put, List.setIfInBounds_toArray, List.set_cons_zero, List.set_cons_succ]
        refine takeH (i := 9) (some 29) (v := ?_) rfl rfl (by kernel_rfl) (by kernel_rfl) (by kernel_rfl) (fun _ _ _ h => h) (Or.inl ⟨by rfl, ?hyA9⟩) hHeld ?restA9
        case hyA9 => (intro w hSw; (try dsimp only at hSw); go_simp; (try with_reducible rfl))
        try simp only [Act.put, List.setIfInBounds_toArray, List.set_cons_zero, List.set_cons_succ]
        refine takeH (i := 10) (some 30) (v := ?_) rfl rfl (by kernel_rfl) (by kernel_rfl) (by kernel_rfl) (fun _ _ _ h => h) (Or.inl ⟨by rfl, ?hyA10⟩) hHeld ?restA10
        case hyA10 => (intro w hSw; (try dsimp only at hSw); go_simp; (try with_reducible rfl))
        try simp only [Act.put, List.setIfInBounds_toArray, List.set_cons_zero, List.set_cons_succ]
        refine takeH (i := 11) (some 31) (v := ?_) rfl rfl (by kernel_rfl) (by kernel_rfl) (by kernel_rfl) (fun _ _ _ h => h) (Or.inl ⟨by rfl, ?hyA11⟩) hHeld ?restA11
        case hyA11 => (intro w hSw; (try dsimp only at hSw); go_simp; (try with_reducible rfl))
        try simp only [Act.put, List.setIfInBounds_toArray, List.set_cons_zero, List.set_cons_succ]
        refine takeH (i := 12) (some 32) (v := ?_) rfl rfl (by kernel_rfl) (by kernel_rfl) (by kernel_rfl) (fun _ _ _ h => h) (Or.inl ⟨by rfl, ?hyA12⟩) hHeld ?restA12
        case hyA12 => (intro w hSw; (try dsimp only at hSw); go_simp; (try with_reducible rfl))
        try simp only [Act.put, List.setIfInBounds_toArray, List.set_cons_zero, List.set_cons_succ]
        refine takeH (i := 13) (some 33) (v := ?_) rfl rfl (by kernel_rfl) (by kernel_rfl) (by kernel_rfl) (fun _ _ _ h => h) (Or.inl ⟨by rfl, ?hyA13⟩) hHeld ?restA13
        case hyA13 => (intro w hSw; (try dsimp only at hSw); go_simp; (try with_reducible rfl))
        try simp only [Act.put, List.setIfInBounds_toArray, List.set_cons_zero, List.set_cons_succ]
        refine takeH (i := 14) (some 34) (v := ?_) rfl rfl (by kernel_rfl) (by kernel_rfl) (by kernel_rfl) (fun _ _ _ h => h) (Or.inl ⟨by rfl, ?hyA14⟩) hHeld ?restA14
        case hyA14 => (intro w hSw; (try dsimp only at hSw); go_simp; (try with_reducible rfl))
        try simp only [Act.put, List.setIfInBounds_toArray, List.set_cons_zero, List.set_cons_succ]
        refine takeH (i := 15) (some 35) (v := ?_) rfl rfl (by kernel_rfl) (by kernel_rfl) (by kernel_rfl) (fun _ _ _ h => h) (Or.inl ⟨by rfl, ?hyA15⟩) hHeld ?restA15
        case hyA15 => (intro w hSw; (try dsimp only at hSw); go_simp; (try with_reducible rfl))
        try simp only [Act.put, List.setIfInBounds_toArray, List.set_cons_zero, List.set_cons_succ]
        refine takeH (i := 16) (some 36) (v := ?_) rfl rfl (by kernel_rfl) (by kernel_rfl) (by kernel_rfl) (fun _ _ _ h => h) (Or.inl ⟨by rfl, ?hyA16⟩) hHeld ?restA16
        case hyA16 => (intro w hSw; (try dsimp only at hSw); go_simp; (try with_reducible rfl))
        try simp only [Act.put, List.setIfInBounds_toArray, List.set_cons_zero, List.set_cons_succ]
        refine takeH (i := 17) (some 37) (v := ?_) rfl rfl (by kernel_rfl) (by kernel_rfl) (by kernel_rfl) (fun _ _ _ h => h) (Or.inl ⟨by rfl, ?hyA17⟩) hHeld ?restA17
        case hyA17 => (intro w hSw; (try dsimp only at hSw); go_simp; (try with_reducible rfl))
        try simp only [Act.put, List.setIfInBounds_toArray, List.set_cons_zero, List.set_cons_succ]
        refine takeH (i := 18) (some 38) (v := ?_) rfl rfl (by kernel_rfl) (by kernel_rfl) (by kernel_rfl) (fun _ _ _ h => h) (Or.inl ⟨by rfl, ?hyA18⟩) hHeld ?restA18
        case hyA18 => (intro w hSw; (try dsimp only at hSw); go_simp; (try with_reducible rfl))
        try simp only [Act.put, List.setIfInBounds_toArray, List.set_cons_zero, List.set_cons_succ]
        refine takeH (i := 19) (some 39) (v := ?_) rfl rfl (by kernel_rfl) (by kernel_rfl) (by kernel_rfl) (fun _ _ _ h => h) (Or.inl ⟨by rfl, ?hyA19⟩) hHeld ?restA19
        case hyA19 => (intro w hSw; (try dsimp only at hSw); go_simp; (try with_reducible rfl))
        try simp only [Act.put, List.setIfInBounds_toArray, List.set_cons_zero, List.set_cons_succ]
        refine wpAnyH_ready (rs := [20]) (by kernel_rfl) (by simp) ?_
        refine AllReadyH.cons rfl (fun K hK => ?_) AllReadyH.nil
        go_simp
        refine hK.out _ _ ?_ (fun hHeld => ?_)
        · exact trivial
        clear hK K
        try simp only [Act.put, List.setIfInBounds_toArray, List.set_cons_zero, List.set_cons_succ]
        refine wpAnyH_done (by kernel_rfl) ?_ _
        rw [word4 s4 h4, ← HX.out]
        go_wp2
        go_roundw
        case rel => exact ⟨k + 1, by omega, by go_num, (HS.out.set hlt).on (below_drew (Below.refl _ _))⟩
        case measure => simp [intOf]; omega
      · have h16' : ¬ (k : Int) < 16 := by omega
        have HX := Lib.hid (next16 (bL b) k h16)
        have HX0 := Lib.hid (sched_old (bL b) k (k - 16) (by omega))
        have HX1 := Lib.hid (sched_old (bL b) k (k - 15) (by omega))
        have HX2 := Lib.hid (sched_old (bL b) k (k - 7) (by omega))
        have HX3 := Lib.hid (sched_old (bL b) k (k - 2) (by omega))
        have HSi := Lib.hid hS
        generalize (schedL (bL b) k).getD (k - 16) 0 = x0 at *
        generalize (schedL (bL b) k).getD (k - 15) 0 = x1 at *
        generalize (schedL (bL b) k).getD (k - 7) 0 = x2 at *
        generalize (schedL (bL b) k).getD (k - 2) 0 = x3 at *
        have HN := Lib.hid (fun W => near_c x1 W)
        have HF := Lib.hid (fun W => far_c x3 W)
        generalize nearW x1 = N at *
        generalize farW x3 = F at *
        obtain ⟨j0, hj0, hk0⟩ : ∃ j : Nat, (k : Int) - 16 = (j : Int) ∧ k - 16 = j := ⟨k - 16, by omega, rfl⟩
        obtain ⟨j1, hj1, hk1⟩ : ∃ j : Nat, (k : Int) - 15 = (j : Int) ∧ k - 15 = j := ⟨k - 15, by omega, rfl⟩
        obtain ⟨j2, hj2, hk2⟩ : ∃ j : Nat, (k : Int) - 7 = (j : Int) ∧ k - 7 = j := ⟨k - 7, by omega, rfl⟩
        obtain ⟨j3, hj3, hk3⟩ : ∃ j : Nat, (k : Int) - 2 = (j : Int) ∧ k - 2 = j := ⟨k - 2, by omega, rfl⟩
        rw [hk0] at HX0
        rw [hk1] at HX1
        rw [hk2] at HX2
        rw [hk3] at HX3
        have m0 : IntKind.i64.wrap (j0 : Int) = j0 := IntWalk.i64_in _ (by omega)
        have m1 : IntKind.i64.wrap (j1 : Int) = j1 := IntWalk.i64_in _ (by omega)
        have m2 : IntKind.i64.wrap (j2 : Int) = j2 := IntWalk.i64_in _ (by omega)
        have m3 : IntKind.i64.wrap (j3 : Int) = j3 := IntWalk.i64_in _ (by omega)
        have l0 : (j0 : Int) < 64 := by omega
        have l1 : (j1 : Int) < 64 := by omega
        have l2 : (j2 : Int) < 64 := by omega
        have l3 : (j3 : Int) < 64 := by omega
        have n0 : j0 < 64 := by omega
        have n1 : j1 < 64 := by omega
        have n2 : j2 < 64 := by omega
        have n3 : j3 < 64 := by omega
        go_wp2_with fail
        refine wp_region_held_drew (S := (SchedIn (bL b) w k)) (by kernel_rfl) ?_ (fun hHeld => ?_)
        · exact (SchedIn.of hS hlt).drew
        refine takeH (i := 0) (some 40) (v := ?_) rfl rfl (by kernel_rfl) (by kernel_rfl) (by kernel_rfl) (fun _ _ _ h => h) (Or.inl ⟨by rfl, ?hyB0⟩) hHeld ?restB0
        case hyB0 => (intro w hSw; (try dsimp only at hSw); go_simp; (try with_reducible rfl))
        try simp only [Act.put, List.setIfInBounds_toArray, List.set_cons_zero, List.set_cons_succ]
        refine takeH (i := 1) (some 41) (v := ?_) rfl rfl (by kernel_rfl) (by kernel_rfl) (by kernel_rfl) (fun _ _ _ h => h) (Or.inl ⟨by rfl, ?hyB1⟩) hHeld ?restB1
        case hyB1 => (intro w hSw; (try dsimp only at hSw); go_simp; (try with_reducible rfl))
        try simp only [Act.put, List.setIfInBounds_toArray, List.set_cons_zero, List.set_cons_succ]
        refine takeH (i := 2) (some 42) (v := ?_) rfl rfl (by kernel_rfl) (by kernel_rfl) (by kernel_rfl) (fun _ _ _ h => h) (Or.inl ⟨by rfl, ?hyB2⟩) hHeld ?restB2
        case hyB2 => (intro w hSw; (try dsimp only at hSw); go_simp; (try with_reducible rfl))
        try simp only [Act.put, List.setIfInBounds_toArray, List.set_cons_zero, List.set_cons_succ]
        refine takeH (i := 3) (some 43) (v := ?_) rfl rfl (by kernel_rfl) (by kernel_rfl) (by kernel_rfl) (fun _ _ _ h => h) (Or.inl ⟨by rfl, ?hyB3⟩) hHeld ?restB3
        case hyB3 => (intro w hSw; (try dsimp only at hSw); go_simp; (try with_reducible rfl))
        try simp only [Act.put, List.setIfInBounds_toArray, List.set_cons_zero, List.set_cons_succ]
        refine takeH (i := 4) (some 44) (v := ?_) rfl rfl (by kernel_rfl) (by kernel_rfl) (by kernel_rfl) (fun _ _ _ h => h) (Or.inl ⟨by rfl, ?hyB4⟩) hHeld ?restB4
        case hyB4 => (intro w' hSw; have q0 := hSw.cell HX0.out (by omega); have q1 := hSw.cell HX1.out (by omega); have q2 := hSw.cell HX2.out (by omega); have q3 := hSw.cell HX3.out (by omega); have q4 := hSw.f0; have q5 := hSw.f1; clear hSw; go_simp; (try with_reducible rfl))
        try simp only [Act.put, List.setIfInBounds_toArray, List.set_cons_zero, List.set_cons_succ]
        refine takeH (i := 5) (some 45) (v := ?_) rfl rfl (by kernel_rfl) (by kernel_rfl) (by kernel_rfl) (fun _ _ _ h => h) (Or.inl ⟨by rfl, ?hyB5⟩) hHeld ?restB5
        case hyB5 => (intro w hSw; (try dsimp only at hSw); go_simp; (try with_reducible rfl))
        try simp only [Act.put, List.setIfInBounds_toArray, List.set_cons_zero, List.set_cons_succ]
        refine takeH (i := 6) (some 46) (v := ?_) rfl rfl (by kernel_rfl) (by kernel_rfl) (by kernel_rfl) (fun _ _ _ h => h) (Or.inl ⟨by rfl, ?hyB6⟩) hHeld ?restB6
        case hyB6 => (intro w' hSw; have q0 := hSw.cell HX0.out (by omega); have q1 := hSw.cell HX1.out (by omega); have q2 := hSw.cell HX2.out (by omega); have q3 := hSw.cell HX3.out (by omega); have q4 := hSw.f0; have q5 := hSw.f1; clear hSw; go_simp; (try with_reducible rfl))
        try simp only [Act.put, List.setIfInBounds_toArray, List.set_cons_zero, List.set_cons_succ]
        refine takeH (i := 7) (some 47) (v := ?_) rfl rfl (by kernel_rfl) (by kernel_rfl) (by kernel_rfl) (fun _ _ _ h => h) (Or.inl ⟨by rfl, ?hyB7⟩) hHeld ?restB7
        case hyB7 => (intro w hSw; (try dsimp only at hSw); go_simp; (try with_reducible rfl))
        try simp only [Act.put, List.setIfInBounds_toArray, List.set_cons_zero, List.set_cons_succ]
        refine takeH (i := 8) (some 48) (v := ?_) rfl rfl (by kernel_rfl) (by kernel_rfl) (by kernel_rfl) (fun _ _ _ h => h) (Or.inl ⟨by rfl, ?hyB8⟩) hHeld ?restB8
        case hyB8 => (intro w hSw; (try dsimp only at hSw); go_simp; (try with_reducible rfl))
        try simp only [Act.put, List.setIfInBounds_toArray, List.set_cons_zero, List.set_cons_succ]
        refine takeH (i := 9) (some 49) (v := ?_) rfl rfl (by kernel_rfl) (by kernel_rfl) (by kernel_rfl) (fun _ _ _ h => h) (Or.inl ⟨by rfl, ?hyB9⟩) hHeld ?restB9
        case hyB9 => (intro w hSw; (try dsimp only at hSw); go_simp; (try with_reducible rfl))
        try simp only [Act.put, List.setIfInBounds_toArray, List.set_cons_zero, List.set_cons_succ]
        refine takeH (i := 10) (some 50) (v := ?_) rfl rfl (by kernel_rfl) (by kernel_rfl) (by kernel_rfl) (fun _ _ _ h => h) (Or.inl ⟨by rfl, ?hyB10⟩) hHeld ?restB10
        case hyB10 => (intro w' hSw; have q0 := hSw.cell HX0.out (by omega); have q1 := hSw.cell HX1.out (by omega); have q2 := hSw.cell HX2.out (by omega); have q3 := hSw.cell HX3.out (by omega); have q4 := hSw.f0; have q5 := hSw.f1; clear hSw; go_simp; (try with_reducible rfl))
        try simp only [Act.put, List.setIfInBounds_toArray, List.set_cons_zero, List.set_cons_succ]
        refine takeH (i := 12) (some 52) (v := ?_) rfl rfl (by kernel_rfl) (by kernel_rfl) (by kernel_rfl) (fun _ _ _ h => h) (Or.inl ⟨by rfl, ?hyB12⟩) hHeld ?restB12
        case hyB12 => (intro w hSw; (try dsimp only at hSw); go_simp; (try with_reducible rfl))
        try simp only [Act.put, List.setIfInBounds_toArray, List.set_cons_zero, List.set_cons_succ]
        refine takeH (i := 13) (some 53) (v := ?_) rfl rfl (by kernel_rfl) (by kernel_rfl) (by kernel_rfl) (fun _ _ _ h => h) (Or.inl ⟨by rfl, ?hyB13⟩) hHeld ?restB13
        case hyB13 => (intro w hSw; (try dsimp only at hSw); go_simp; (try with_reducible rfl))
        try simp only [Act.put, List.setIfInBounds_toArray, List.set_cons_zero, List.set_cons_succ]
        refine takeH (i := 14) (some 54) (v := ?_) rfl rfl (by kernel_rfl) (by kernel_rfl) (by kernel_rfl) (fun _ _ _ h => h) (Or.inl ⟨by rfl, ?hyB14⟩) hHeld ?restB14
        case hyB14 => (intro w hSw; (try dsimp only at hSw); go_simp; (try with_reducible rfl))
        try simp only [Act.put, List.setIfInBounds_toArray, List.set_cons_zero, List.set_cons_succ]
        refine takeH (i := 15) (some 55) (v := ?_) rfl rfl (by kernel_rfl) (by kernel_rfl) (by kernel_rfl) (fun _ _ _ h => h) (Or.inl ⟨by rfl, ?hyB15⟩) hHeld ?restB15
        case hyB15 => (intro w' hSw; have q0 := hSw.cell HX0.out (by omega); have q1 := hSw.cell HX1.out (by omega); have q2 := hSw.cell HX2.out (by omega); have q3 := hSw.cell HX3.out (by omega); have q4 := hSw.f0; have q5 := hSw.f1; clear hSw; go_simp; (try with_reducible rfl))
        try simp only [Act.put, List.setIfInBounds_toArray, List.set_cons_zero, List.set_cons_succ]
        refine takeH (i := 16) (some 56) (v := ?_) rfl rfl (by kernel_rfl) (by kernel_rfl) (by kernel_rfl) (fun _ _ _ h => h) (Or.inl ⟨by rfl, ?hyB16⟩) hHeld ?restB16
        case hyB16 => (intro w hSw; (try dsimp only at hSw); go_simp; (try with_reducible rfl))
        try simp only [Act.put, List.setIfInBounds_toArray, List.set_cons_zero, List.set_cons_succ]
        refine takeH (i := 17) (some 57) (v := ?_) rfl rfl (by kernel_rfl) (by kernel_rfl) (by kernel_rfl) (fun _ _ _ h => h) (Or.inl ⟨by rfl, ?hyB17⟩) hHeld ?restB17
        case hyB17 => (intro w' hSw; have q0 := hSw.cell HX0.out (by omega); have q1 := hSw.cell HX1.out (by omega); have q2 := hSw.cell HX2.out (by omega); have q3 := hSw.cell HX3.out (by omega); have q4 := hSw.f0; have q5 := hSw.f1; clear hSw; go_simp; (try with_reducible rfl))
        try simp only [Act.put, List.setIfInBounds_toArray, List.set_cons_zero, List.set_cons_succ]
        refine takeH (i := 18) (some 58) (v := ?_) rfl rfl (by kernel_rfl) (by kernel_rfl) (by kernel_rfl) (fun _ _ _ h => h) (Or.inl ⟨by rfl, ?hyB18⟩) hHeld ?restB18
        case hyB18 => (intro w hSw; (try dsimp only at hSw); go_simp; (try with_reducible rfl))
        try simp only [Act.put, List.setIfInBounds_toArray, List.set_cons_zero, List.set_cons_succ]
        refine takeH (i := 19) (some 59) (v := ?_) rfl rfl (by kernel_rfl) (by kernel_rfl) (by kernel_rfl) (fun _ _ _ h => h) (Or.inl ⟨by rfl, ?hyB19⟩) hHeld ?restB19
        case hyB19 => (intro w hSw; (try dsimp only at hSw); go_simp; (try with_reducible rfl))
        try simp only [Act.put, List.setIfInBounds_toArray, List.set_cons_zero, List.set_cons_succ]
        refine takeH (i := 20) (some 60) (v := ?_) rfl rfl (by kernel_rfl) (by kernel_rfl) (by kernel_rfl) (fun _ _ _ h => h) (Or.inl ⟨by rfl, ?hyB20⟩) hHeld ?restB20
        case hyB20 => (intro w hSw; (try dsimp only at hSw); go_simp; (try with_reducible rfl))
        try simp only [Act.put, List.setIfInBounds_toArray, List.set_cons_zero, List.set_cons_succ]
        refine takeH (i := 21) (some 61) (v := ?_) rfl rfl (by kernel_rfl) (by kernel_rfl) (by kernel_rfl) (fun _ _ _ h => h) (Or.inl ⟨by rfl, ?hyB21⟩) hHeld ?restB21
        case hyB21 => (intro w' hSw; have q0 := hSw.cell HX0.out (by omega); have q1 := hSw.cell HX1.out (by omega); have q2 := hSw.cell HX2.out (by omega); have q3 := hSw.cell HX3.out (by omega); have q4 := hSw.f0; have q5 := hSw.f1; clear hSw; go_simp; (try with_reducible rfl))
        try simp only [Act.put, List.setIfInBounds_toArray, List.set_cons_zero, List.set_cons_succ]
        refine wpAnyH_ready (rs := [11]) (by kernel_rfl) (by simp) ?_
        refine AllReadyH.cons rfl (fun K hK => ?_) AllReadyH.nil
        go_simp
        with_reducible refine (HN.out _).mono ?_; rintro e w1 ⟨rfl, hb1⟩; have s1 := hHeld.on hb1; clear hHeld
        refine hK.out _ _ ?_ (fun hHeld => ?_)
        · exact s1
        clear hK K
        try simp only [Act.put, List.setIfInBounds_toArray, List.set_cons_zero, List.set_cons_succ]
        refine wpAnyH_ready (rs := [22]) (by kernel_rfl) (by simp) ?_
        refine AllReadyH.cons rfl (fun K hK => ?_) AllReadyH.nil
        go_simp
        with_reducible refine (HF.out _).mono ?_; rintro e w2 ⟨rfl, hb2⟩; have s2 := hHeld.on hb2; clear hHeld
        refine hK.out _ _ ?_ (fun hHeld => ?_)
        · exact s2
        clear hK K
        try simp only [Act.put, List.setIfInBounds_toArray, List.set_cons_zero, List.set_cons_succ]
        refine wpAnyH_ready (rs := [23]) (by kernel_rfl) (by simp) ?_
        refine AllReadyH.cons rfl (fun K hK => ?_) AllReadyH.nil
        go_simp
        refine hK.out _ _ ?_ (fun hHeld => ?_)
        · exact hHeld.alloc _
        clear hK K
        try simp only [Act.put, List.setIfInBounds_toArray, List.set_cons_zero, List.set_cons_succ]
        refine wpAnyH_ready (rs := [24]) (by kernel_rfl) (by simp) ?_
        refine AllReadyH.cons rfl (fun K hK => ?_) AllReadyH.nil
        go_simp
        refine (total_c [x0, N, x2, F] w2.heap.size 0 4 _ (cellsW [x0, N, x2, F] w2) (by simp)).mono ?_; rintro e w3 ⟨rfl, hb3⟩; have s3 := hHeld.on hb3; obtain ⟨v6, q6⟩ := s3.ck; have q7 := s3.fk; clear hHeld
        refine hK.out _ _ ?_ (fun hHeld => ?_)
        · exact s3
        clear hK K
        try simp only [Act.put, List.setIfInBounds_toArray, List.set_cons_zero, List.set_cons_succ]
        refine takeH (i := 25) (some 65) (v := ?_) rfl rfl (by kernel_rfl) (by kernel_rfl) (by kernel_rfl) (fun _ _ _ h => h) (Or.inl ⟨by rfl, ?hyB25⟩) hHeld ?restB25
        case hyB25 => (intro w hSw; (try dsimp only at hSw); go_simp; (try with_reducible rfl))
        try simp only [Act.put, List.setIfInBounds_toArray, List.set_cons_zero, List.set_cons_succ]
        refine wpAnyH_ready (rs := [26]) (by kernel_rfl) (by simp) ?_
        refine AllReadyH.cons rfl (fun K hK => ?_) AllReadyH.nil
        go_simp
        refine hK.out _ _ ?_ (fun hHeld => ?_)
        · exact s3.set _
        clear hK K
        try simp only [Act.put, List.setIfInBounds_toArray, List.set_cons_zero, List.set_cons_succ]
        refine wpAnyH_done (by kernel_rfl) ?_ _
        have bW := btr (btr (below_drew (Below.refl wr.heap.size wr)) hb1) (btr hb2 (btr (below_alloc w2 _) hb3))
        clear hb1 hb2 hb3 s1 s2
        rw [← HX.out]
        go_wp2
        go_roundw
        case rel => exact ⟨k + 1, by omega, by go_num, ((HSi.out.on bW).set hlt).on (Below.refl _ _)⟩
        case measure => simp [intOf]; omega
    · have hlt' : ¬ (k : Int) < 64 := by omega
      obtain rfl : k = 64 := by omega
      have HSi := Lib.hid hS.below
      obtain ⟨tw, hw⟩ := hS.words.ex
      obtain ⟨tr, hr⟩ := hS.res.ex
      have hlen := schedL_length (bL b) 64
      clear hS
      obtain ⟨SL, hSL⟩ : ∃ SL, SL = schedL (bL b) 64 := ⟨_, rfl⟩
      rw [← hSL] at hw hlen
      have HSL := Lib.hid hSL
      clear hSL
      rw [show List.replicate (64 - 64) (0 : Wd) = [] from rfl, List.append_nil] at hw
      have hz : (wVs SL).toArray.size = 64 := by rw [List.size_toArray, wVs, List.length_map, hlen]
      have ho : ∀ v ∈ (wVs SL).toArray.toList, v.oneCell' = true := by
        intro v hv
        obtain ⟨x, _, rfl⟩ := List.mem_map.1 (show v ∈ SL.map wV from hv)
        rfl
      obtain ⟨R0, hR0⟩ : ∃ R0, R0 = (wVs (List.replicate 64 0)).toArray := ⟨_, rfl⟩
      rw [← hR0] at hr
      have hRz : R0.size = 64 := by rw [hR0]; simp [wVs]
      clear hR0 hlen
      obtain ⟨V, hV⟩ : ∃ V, V = (wVs SL).toArray := ⟨_, rfl⟩
      rw [← hV] at hw hz ho
      have HV := Lib.hid hV
      clear hV
      have hres : (wr.setRow w.heap.size V).heap[w.heap.size]? = some (.cells V tr (0, 0)) := setRow_heap wr _ _ V tr _ hr
      have ha : V.all (·.oneCell') = true := Array.all_eq_true_iff_forall_mem.2 (fun v hv => ho v (by simpa using hv))
      go_wp2_with (first | (refine wpList_load_row rfl (.tmp 4) 130 rfl (w.heap.size + 1 + 1) tw V (0, 0) (.array 64 96) rfl hw (by kernel_rfl) rfl (by rw [hz]; kernel_rfl) ?_) | (refine wpList_store_row rfl (.tmp 2) (.tmp 67) 130 rfl rfl w.heap.size tr R0 V rfl rfl hr (by rw [hz]; kernel_rfl) (by rw [hz]; exact hRz) ha ?_))
      have hl : (loadVar 130 ⟨w.heap.size, 0, none⟩).run Tryz.prog (wr.setRow w.heap.size V) = .ok (.agg V) (wr.setRow w.heap.size V) := run_loadVar_row _ _ tr _ V (0, 0) (.array 64 96) hres (by kernel_rfl) rfl (by rw [hz]; kernel_rfl)
      refine bodyPost_ret (results_cell rfl _ _ (by rfl) hl) rfl ?_
      have hb2 := below_setRow HSi.out (Nat.le_refl _) V
      refine ⟨?_, hb2⟩
      rw [HV.out, HSL.out]
end Go.Proofs.YtikpmkidfppknaaGreatDoor

/- masked. -/
namespace Go.Proofs.YtikpmkidfppknaaGreatDoor
open Go.RowKit Go.Shelf
attribute [local go_sem] Oper.semAt_some

/-- Bytes in the cells of a block of any type. -/
structure BysIn (b : Nat) (l : List Nat) (W : World) : Prop where
  ex : ∃ t, W.heap[b]? = some (.cells (byVs l).toArray t (0, 0))
theorem BysIn.lt {b : Nat} {l : List Nat} {W : World} (h : BysIn b l W) : b < W.heap.size := by
  obtain ⟨t, h⟩ := h.ex
  exact (Array.getElem?_eq_some_iff.1 h).1
theorem BysIn.block {b : Nat} {l : List Nat} {W W' : World} (h : BysIn b l W) (k : W'.heap[b]? = W.heap[b]?) : BysIn b l W' := by
  obtain ⟨t, h⟩ := h.ex
  exact ⟨⟨t, k.trans h⟩⟩
theorem BysIn.on {b : Nat} {l : List Nat} {W W' : World} (h : BysIn b l W) (k : Below W.heap.size W W') : BysIn b l W' := h.block (k.block b h.lt)
theorem BysIn.drew {b : Nat} {l : List Nat} {W : World} (h : BysIn b l W) : BysIn b l W.drew := h.block rfl
theorem BysIn.cell {b : Nat} {l : List Nat} {W : World} (h : BysIn b l W) {j n : Nat} (hj : l[j]? = some n) : W.cell? ⟨b, j, none⟩ = some (.int .u8 (n : Int)) := by
  obtain ⟨t, h⟩ := h.ex
  rw [cell_of_row W b j _ _ _ h]
  simp [byVs, hj, byV]
theorem BysIn.frozen {b : Nat} {l : List Nat} {W : World} (h : BysIn b l W) (j : Nat) : W.frozen? ⟨b, j, none⟩ = false := by
  obtain ⟨t, h⟩ := h.ex
  simp [World.frozen?, h]
theorem BysIn.set {b : Nat} {l : List Nat} {W : World} (h : BysIn b l W) (j n : Nat) : BysIn b (l.set j n) (W.setCell ⟨b, j, none⟩ (.int .u8 (n : Int))) := by
  obtain ⟨t, h⟩ := h.ex
  refine ⟨⟨t, ?_⟩⟩
  rw [setCell_eq_setRow W b j _ _ _ _ h, setRow_heap W b _ _ _ _ h]
  congr 2
  simp [byVs, byV]
theorem BysIn.new (l : List Nat) (W : World) (t : TypeId) : BysIn W.heap.size l (W.alloc (.cells (byVs l).toArray t)) := ⟨⟨t, World.alloc_heap_new W _⟩⟩
/-- k bytes put together with m. -/
def mixN (l : List Nat) (m k : Nat) : List Nat := (l.take k).map (· ^^^ m) ++ l.drop k
theorem mixN_length (l : List Nat) (m k : Nat) : (mixN l m k).length = l.length := by
  rw [mixN, List.length_append, List.length_map, List.length_take, List.length_drop]; omega
theorem mixN_get (l : List Nat) (m k : Nat) (h : k < l.length) : (mixN l m k)[k]? = some (l[k]'h) := by
  rw [mixN, List.getElem?_append_right (by rw [List.length_map, List.length_take]; omega), List.length_map, List.length_take, List.getElem?_drop, List.getElem?_eq_getElem (by omega)]
  congr 2; omega
theorem mixN_set (l : List Nat) (m k : Nat) (h : k < l.length) : (mixN l m k).set k ((l[k]'h) ^^^ m) = mixN l m (k + 1) := by
  have hk : (l.take k).length = k := by rw [List.length_take]; omega
  have hk2 : ((l.take k).map (· ^^^ m)).length = k := by rw [List.length_map, hk]
  unfold mixN
  rw [List.set_append_right _ _ (by omega), hk2, Nat.sub_self, List.drop_eq_getElem_cons h, List.set_cons_zero, List.take_add_one, List.getElem?_eq_getElem h, Option.toList_some, List.map_append]
  simp
theorem mixN_all (l : List Nat) (m : Nat) : mixN l m l.length = l.map (· ^^^ m) := by
  rw [mixN, List.take_length, List.drop_length, List.append_nil]
/-- What holds between two rounds. -/
structure MkI (l : List Nat) (m : Nat) (w : World) (pre : List Byt) (Pv : Nat → Prop) (W : World) : Prop where
  c0 : BysIn w.heap.size (mixN l m pre.length) W
  c1 : W.cell? ⟨w.heap.size + 1, 0, none⟩ = some (.int .u8 (m : Int))
  le : pre.length ≤ 64
  below : Below w.heap.size w W
  pv : ∀ i, Pv i → w.heap.size + 1 < i
theorem MkI.steady (l : List Nat) (m : Nat) (w : World) : Steady (MkI l m w) := by
  rintro s Pv Pv' X Y ⟨h1, h2, h4, h5, h6⟩ hg hm
  have n0 : ¬ Pv w.heap.size := fun h => by have := h6 _ h; omega
  have n1 : ¬ Pv (w.heap.size + 1) := fun h => by have := h6 _ h; omega
  have z := blt h2
  refine ⟨h1.block (hg.same _ h1.lt n0), hg.cell h2 n1, h4, hg.below h5 (fun i h => by have := h6 i h; omega), fun i hi => ?_⟩
  rcases hm i hi with h | ⟨h, _⟩
  · exact h6 i h
  · omega
def MkX (_ : Code) (_ : List Byt) (_ : Nat → Prop) (_ : World) : Prop := False
theorem byt_of' (s : ByteArray) (pre : List Byt) (x : Byt) (h : pre ++ [x] <+: bytsB s) : pre.length < s.size ∧ x = bytAt s pre.length := by
  obtain ⟨r, hr⟩ := h
  have hl : (pre ++ [x] ++ r).length = s.size := by rw [hr, bytsB_length]
  simp at hl
  have hlt : pre.length < s.size := by omega
  refine ⟨hlt, ?_⟩
  have h1 : (pre ++ [x] ++ r)[pre.length]? = some x := by simp
  rw [hr, bytsB, List.getElem?_map, List.getElem?_range hlt] at h1
  exact (Option.some.inj h1).symm
set_option maxRecDepth 100000 in
set_option maxHeartbeats 8000000 in
theorem masked_c (l : List Nat) (hl : l.length = 64) (hlt : ∀ c ∈ l, c < 256) (m : Nat) (hm : m < 256) (w : World) : Calls Tryz.prog 88 #[.agg (byVs l).toArray, .int .u8 (m : Int)] w fun r w' => r = .returned (.string (ofL (l.map (· ^^^ m)))) ∧ Below w.heap.size w w' := by
  refine (callsIn_wide (n := 8)).1 ?_
  have HBl := Lib.hid (fun W => bytesOf_c (ofL l) W)
  refine callsIn_of_wp_marks Tryz.func88 rfl trivial ?_ rfl
  simp only [Tryz.ntmps88, List.size_toArray, List.length_cons, List.length_nil, Nat.reduceAdd, Nat.reduceSub, Array.replicate_succ, Array.replicate_zero, List.push_toArray, List.append_toArray, List.nil_append, List.cons_append]
  have hV0 : BysIn w.heap.size l (w.alloc (.cells (byVs l).toArray 70)) := BysIn.new l w _
  have hV1 : BysIn w.heap.size l ((w.alloc (.cells (byVs l).toArray 70)).alloc (.cells #[.int .u8 (m : Int)] 5)) := hV0.on (below_alloc _ _)
  have hcv := conv_cells l hlt w.heap.size 64 _ (fun j n h => hV1.cell h)
  rw [hl] at hcv
  have hB1 : Below w.heap.size w ((w.alloc (.cells (byVs l).toArray 70)).alloc (.cells #[.int .u8 (m : Int)] 5)) := bal (below_alloc w _) _
  have hM1 : ((w.alloc (.cells (byVs l).toArray 70)).alloc (.cells #[.int .u8 (m : Int)] 5)).cell? ⟨w.heap.size + 1, 0, none⟩ = some (.int .u8 (m : Int)) := by go_simp
  have hs1 : ((w.alloc (.cells (byVs l).toArray 70)).alloc (.cells #[.int .u8 (m : Int)] 5)).heap.size = w.heap.size + 2 := by simp
  have HV := Lib.hid (And.intro hV1 (And.intro hM1 (And.intro hs1 hB1)))
  clear hV0 hV1 hM1 hs1 hB1
  gi_wp2_with fail
  refine ⟨trivial, (callsIn_wide.2 (HBl.out _)).mono ?_⟩
  rintro e w' ⟨rfl, rfl⟩
  clear HBl hcv
  obtain ⟨hV1, hM1, hs1, hB1⟩ := HV.out
  clear HV
  have hst : (((w.alloc (.cells (byVs l).toArray 70)).alloc (.cells #[.int .u8 (m : Int)] 5)).alloc (.cells #[.string (ofL l)] 9)).cell? ⟨w.heap.size + 2, 0, none⟩ = some (.string (ofL l)) := by
    have := (Boxed.new ((w.alloc (.cells (byVs l).toArray 70)).alloc (.cells #[.int .u8 (m : Int)] 5)) 9 (.string (ofL l))).cell
    rw [hs1] at this
    exact this
  have hI : MkI l m w [] (fun i => i = w.heap.size + 2) (((w.alloc (.cells (byVs l).toArray 70)).alloc (.cells #[.int .u8 (m : Int)] 5)).alloc (.cells #[.string (ofL l)] 9)) :=
    ⟨by rw [show mixN l m ([] : List Byt).length = l by simp [mixN]]; exact hV1.on (below_alloc _ _), keep_alloc _ hM1, Nat.zero_le _, bal hB1 _, fun i h => by omega⟩
  simp only [hs1]
  clear hV1 hM1 hB1
  generalize (((w.alloc (.cells (byVs l).toArray 70)).alloc (.cells #[.int .u8 (m : Int)] 5)).alloc (.cells #[.string (ofL l)] 9)) = V at *
  have hsz : (ofL l).size = 64 := by rw [ofL_size, hl]
  have HBI := Lib.hid (bytes_it 7 (by omega) (ofL l) (by omega) (w.heap.size + 2) V hst)
  clear hs1
  gi_wp2_with fail
  try refine wpIn_label ?_
  gi_wp2_with fail
  refine wpIn_range_iters (n := 8) (encs := encY) (ps := #[10, 11]) rfl (by omega) (gf := 90) (lb := #[.pointer (some ⟨w.heap.size + 2, 0, none⟩)]) rfl trivial (enters_of Tryz.func90 (by kernel_rfl) rfl)
    HBI.out (Below.refl _ _) (fun _ => rfl) (fun i h => by rw [h]; exact blt hst) (MkI l m w) MkX (MkI.steady l m w) ?steadyx hI ?round ?done ?stop
  case steadyx => intro c s Pv Pv' X Y h; exact h.elim
  case round =>
    clear HBI hI
    rintro K pre x Pv W hc hI2 hPl hll ⟨rec, hrec⟩
    obtain ⟨hk, rfl⟩ := byt_of' (ofL l) pre x hc
    have hxb := bytAt_b (ofL l) pre.length hk
    have hk2 : pre.length < l.length := by rw [ofL_size] at hk; exact hk
    have hxl : ((ofL l)[pre.length]'hk).toNat = l[pre.length]'hk2 := by
      have := bL_get (ofL l) pre.length hk
      rw [bL_ofL l hlt, List.getElem?_eq_getElem hk2] at this
      exact (Option.some.inj this).symm
    rw [hxl] at hxb
    have hcl : l[pre.length]'hk2 < 256 := hlt _ (List.getElem_mem hk2)
    have hset := mixN_set l m pre.length hk2
    have hget := mixN_get l m pre.length hk2
    generalize l[pre.length]'hk2 = c at *
    simp only [encY, hxb, show (bytAt (ofL l) pre.length).i = pre.length from rfl]
    gi_wp2
    refine ⟨Mid.refl Pv W, fun W2 hG hr2 => ?_⟩
    have hI3 := MkI.steady l m w pre Pv Pv W W2 hI2 (hG.mono (fun i h => h ▸ hPl)) (More.same _ _ _)
    clear hI2 hG hr2 hrec
    obtain ⟨q0, q1, hle, hbw, hpv⟩ := hI3
    have ux := u8_xor_nat c m hcl hm
    have HS := Lib.hid (show MkI l m w (pre ++ [bytAt (ofL l) pre.length]) Pv (W2.setCell ⟨w.heap.size, pre.length, none⟩ (.int .u8 ((c ^^^ m : Nat) : Int))) from
      ⟨by rw [List.length_append, List.length_singleton, ← hset]; exact q0.set _ _, (set_other W2 _ (by omega)).trans q1, by rw [List.length_append, List.length_singleton]; omega, hbw.setCell (Nat.le_refl _) _, hpv⟩)
    have HM := Lib.hid (show Mid Pv W2 (W2.setCell ⟨w.heap.size, pre.length, none⟩ (.int .u8 ((c ^^^ m : Nat) : Int))) from (Mid.refl Pv W2).setCell _ (fun h => by have := hpv _ h; omega))
    have hc0 := q0.cell hget
    have hf0 := q0.frozen pre.length
    have hk3 : (pre.length : Int) < 64 := by omega
    have hk4 : pre.length < 64 := by omega
    clear hc hxb hxl hset hget hbw q0
    gi_wp2
    exact ⟨HS.out, HM.out⟩
  case done =>
    rintro D xs Pv W hlD hpD rfl ⟨q0, q1, hle, hbw, hpv⟩ hdef
    rw [bytsB_length, hsz, ← hl, mixN_all] at q0
    have hlt2 : ∀ c ∈ l.map (· ^^^ m), c < 256 := by
      intro c hc
      obtain ⟨x, hx, rfl⟩ := List.mem_map.1 hc
      exact Nat.xor_lt_two_pow (n := 8) (hlt x hx) hm
    have hcv := conv_cells _ hlt2 w.heap.size 64 W (fun j n h => q0.cell h)
    rw [List.length_map, hl] at hcv
    have HBW := Lib.hid hbw
    have HD := Lib.hid hdef
    clear hbw hdef
    gi_wp2
    refine ⟨by simp, .inl ⟨_, _, rfl, run_takeDeferred HD.out, ?_⟩⟩
    refine ⟨_, results_tmp rfl _ _ _, ?_, ?_⟩
    · rfl
    · exact HBW.out.grown (grownBy_putObj' W D _) HBW.out.size (fun j hj => by cases hj; have := blt hst; omega)
  case stop =>
    rintro D c pre Pv W hlD hpD hSp h hdef
    exact h.elim
end Go.Proofs.YtikpmkidfppknaaGreatDoor
