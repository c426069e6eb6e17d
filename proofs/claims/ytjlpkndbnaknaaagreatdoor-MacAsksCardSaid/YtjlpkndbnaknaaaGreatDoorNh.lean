/- inner, outer, newHasher. -/
import Derived.Test.YtjlpkndbnaknaaaGreatDoorMk
import Derived.Test.YtjlpkndbnaknaaaGreatDoorPm
import Derived.Test.YtjlpkndbnaknaaaGreatDoorRes
namespace Go.Proofs.YtjlpkndbnaknaaaGreatDoor
open Go.RowKit Go.Shelf
attribute [local go_sem] Oper.semAt_some

/-- A key's block. -/
def blkL (key : List Nat) : List Nat := key ++ List.replicate (64 - key.length) 0
theorem blkL_length (key : List Nat) (h : key.length ≤ 64) : (blkL key).length = 64 := by rw [blkL, List.length_append, List.length_replicate]; omega
theorem blkL_lt (key : List Nat) (hk : ∀ c ∈ key, c < 256) : ∀ c ∈ blkL key, c < 256 := by
  intro c hc
  rcases List.mem_append.1 hc with h | h
  · exact hk c h
  · rw [(List.mem_replicate.1 h).2]; omega
theorem blkL_pad (key : List Nat) (h : key.length ≤ 64) (m : Nat) : (blkL key).map (· ^^^ m) = padK key m := by
  apply List.ext_getElem?
  intro i
  by_cases hi : i < 64
  · rw [padK_get key m i hi, List.getElem?_map, ← getD_zeros key (64 - key.length) i]
    have hl : i < (blkL key).length := by rw [blkL_length key h]; exact hi
    show ((blkL key)[i]?).map _ = some ((blkL key).getD i 0 ^^^ m)
    rw [List.getD_eq_getElem?_getD, List.getElem?_eq_getElem hl]
    rfl
  · rw [List.getElem?_eq_none (by rw [List.length_map, blkL_length key h]; omega), List.getElem?_eq_none (by rw [padK_length]; omega)]
theorem byVs_all (l : List Nat) : (byVs l).toArray.all (·.oneCell') = true := Array.all_eq_true_iff_forall_mem.2 (fun v hv => byVs_one l v (by simpa using hv))
/-- copy, out of a text, to the beginning of a block's row. -/
theorem wpList_copy_text_in {w : World} {ops : Array Oper} {rest : List Oper} {o : Oper} {a : Act} {Q : Exit → Act → World → Prop} (hgd : o.guard = none) (d s : Operand)
    (ho : o.op = .call { callee := .builtin .copy, args := #[d, s], argTypes := #[53, 9] })
    (b dLen dCap : Nat) (x : ByteArray) (hd : a.eval d = .slice (some ⟨b, 0, none⟩) dLen dCap) (hs : a.eval s = .string x) (l : List Nat) (t : TypeId) (hg : w.heap[b]? = some (.cells (byVs l).toArray t (0, 0))) (hle : x.size ≤ dLen) (hfit : x.size ≤ l.length)
    (h : ∀ w', w'.heap[b]? = some (.cells (byVs (bL x ++ l.drop x.size)).toArray t (0, 0)) → Hid (w' = w.setRow b (byVs (bL x ++ l.drop x.size)).toArray) → wpList Tryz.prog ops Q rest (a.put o.dst (goInt x.size)) w') : wpList Tryz.prog ops Q (o :: rest) a w := by
  refine wpList_plain hgd fun K hK => ?_
  have hrun := Lib.run_copy_row_string (P := Tryz.prog) w 53 9 o.type 5 b 0 dLen dCap x _ t (by kernel_rfl) (by kernel_rfl) hg hle (by simpa [byVs] using hfit)
  have e : (List.take 0 (byVs l).toArray.toList ++ Lib.byteCells x.data.toList ++ List.drop (0 + x.size) (byVs l).toArray.toList).toArray = (byVs (bL x ++ l.drop x.size)).toArray := by
    rw [byVs_append, byVs_bL, Nat.zero_add]
    simp [byVs]
  rw [e] at hrun
  unfold Oper.wp
  simp [execOp, ho, resolve, invoke, builtin, hd, hs, hrun, Result.andThen]
  exact hK _ _ (h _ (setRow_heap w b _ _ _ _ hg) (Lib.hid rfl))
set_option maxRecDepth 100000 in
set_option maxHeartbeats 8000000 in
theorem inner_c (l : List Nat) (hl : l.length = 64) (hlt : ∀ c ∈ l, c < 256) (w : World) : Calls Tryz.prog 38 #[.agg (byVs l).toArray] w fun r w' => r = .returned (.string (ofL (l.map (· ^^^ 54)))) ∧ Below w.heap.size w w' := by
  have HM := Lib.hid (fun W => masked_c l hl hlt 54 (by omega) W)
  have hz : (byVs l).toArray.size = 64 := by rw [List.size_toArray, byVs_length, hl]
  go_enter Tryz.func38, Tryz.ntmps38
  go_wp2_with (refine wpList_load_row rfl (.tmp 1) 40 rfl w.heap.size _ (byVs l).toArray (0, 0) (.array 64 5) rfl (World.alloc_heap_new w _) (by kernel_rfl) rfl (by rw [hz]; kernel_rfl) ?_)
  refine (HM.out _).mono ?_
  rintro e w2 ⟨rfl, hb2⟩
  go_wp2
  go_ret
  exact ⟨rfl, btr (below_alloc w _) hb2⟩
set_option maxRecDepth 100000 in
set_option maxHeartbeats 8000000 in
theorem outer_c (l : List Nat) (hl : l.length = 64) (hlt : ∀ c ∈ l, c < 256) (w : World) : Calls Tryz.prog 39 #[.agg (byVs l).toArray] w fun r w' => r = .returned (.string (ofL (l.map (· ^^^ 92)))) ∧ Below w.heap.size w w' := by
  have HM := Lib.hid (fun W => masked_c l hl hlt 92 (by omega) W)
  have hz : (byVs l).toArray.size = 64 := by rw [List.size_toArray, byVs_length, hl]
  go_enter Tryz.func39, Tryz.ntmps39
  go_wp2_with (refine wpList_load_row rfl (.tmp 1) 40 rfl w.heap.size _ (byVs l).toArray (0, 0) (.array 64 5) rfl (World.alloc_heap_new w _) (by kernel_rfl) rfl (by rw [hz]; kernel_rfl) ?_)
  refine (HM.out _).mono ?_
  rintro e w2 ⟨rfl, hb2⟩
  go_wp2
  go_ret
  exact ⟨rfl, btr (below_alloc w _) hb2⟩
set_option maxRecDepth 100000 in
set_option maxHeartbeats 8000000 in
theorem newHasher_c (key : ByteArray) (hk : key.size ≤ 64) (w : World) : Calls Tryz.prog 21 #[.string key] w fun r w' => r = .returned (.agg (byVs (blkL (bL key))).toArray) ∧ Below w.heap.size w w' := by
  obtain ⟨d, hu, hd⟩ : ∃ d, Tryz.prog.underlying 42 = some d ∧ (match d with | .struct _ | .array _ _ => true | _ => false) = true := by
    have h : (Tryz.prog.underlying 42).map (fun d => match d with | .struct _ | .array _ _ => true | _ => false) = some true := by kernel_rfl
    cases hx : Tryz.prog.underlying 42 with
    | none => rw [hx] at h; cases h
    | some d => rw [hx] at h; exact ⟨d, rfl, Option.some.inj h⟩
  have hdrop : bL key ++ (List.replicate 64 0).drop key.size = blkL (bL key) := by rw [List.drop_replicate, blkL, bL_length]
  have hz : (byVs (blkL (bL key))).toArray.size = 64 := by rw [List.size_toArray, byVs_length, blkL_length _ (by rw [bL_length]; omega)]
  have ha := byVs_all (blkL (bL key))
  obtain ⟨V, hV⟩ : ∃ V, V = (byVs (blkL (bL key))).toArray := ⟨_, rfl⟩
  rw [← hV] at hz ha
  go_enter Tryz.func21, Tryz.ntmps21
  have E0 : ((w.alloc (.cells (byVs (List.replicate 64 0)).toArray 42)).alloc (.cells (byVs (List.replicate 64 0)).toArray 42)).heap[w.heap.size]? = some (.cells (byVs (List.replicate 64 0)).toArray 42 (0, 0)) := (Below.heap_alloc _ _ _ (by simp)).trans (World.alloc_heap_new _ _)
  have EB : Below w.heap.size w ((w.alloc (.cells (byVs (List.replicate 64 0)).toArray 42)).alloc (.cells (byVs (List.replicate 64 0)).toArray 42)) := bal (below_alloc _ _) _
  have HE := Lib.hid (And.intro E0 EB)
  obtain ⟨R0, hR0⟩ : ∃ R0, R0 = (byVs (List.replicate 64 0)).toArray := ⟨_, rfl⟩
  have hRz : R0.size = 64 := by rw [hR0]; simp [byVs]
  have HR0 := Lib.hid hR0
  have HV := Lib.hid hV
  have HDr := Lib.hid hdrop
  clear E0 EB hV hdrop hR0
  go_wp2_with (first
    | (refine wpList_copy_text_in rfl (.tmp 5) (.tmp 6) rfl (w.heap.size + 1) 64 64 key rfl rfl (List.replicate 64 0) 42 (heap_new_at _ (by simp)) (by omega) (by rw [List.length_replicate]; omega) (fun w1 hg1 hw1 => ?_)
       rw [HDr.out, ← HV.out] at hg1 hw1
       have hw2 : Hid (w1 = ((w.alloc (.cells (byVs (List.replicate 64 0)).toArray 42)).alloc (.cells (byVs (List.replicate 64 0)).toArray 42)).setRow (w.heap.size + 1) V) := hw1
       clear hw1
       have hg0 : w1.heap[w.heap.size]? = some (.cells R0 42 (0, 0)) := by rw [hw2.out, HR0.out, (below_setRow (Below.refl (w.heap.size + 1) _) (Nat.le_refl _) _).block _ (Nat.lt_succ_self _)]; exact HE.out.1
       have hB1 := Lib.hid (show Below w.heap.size w w1 by rw [hw2.out]; exact below_setRow HE.out.2 (Nat.le_succ _) _))
    | refine wpList_load_row rfl (.tmp 3) 42 rfl (w.heap.size + 1) 42 V (0, 0) d rfl hg1 hu (by cases d <;> first | rfl | exact hd) (by rw [hz]; kernel_rfl) ?_
    | refine wpList_store_row rfl (.tmp 2) (.tmp 8) 42 rfl rfl w.heap.size 42 R0 V rfl rfl hg0 (by rw [hz]; kernel_rfl) (by rw [hz]; exact hRz) ha ?_)
  have hres : (w1.setRow w.heap.size V).heap[w.heap.size]? = some (.cells V 42 (0, 0)) := setRow_heap w1 _ _ V _ _ hg0
  have hl : (loadVar 42 ⟨w.heap.size, 0, none⟩).run Tryz.prog (w1.setRow w.heap.size V) = .ok (.agg V) (w1.setRow w.heap.size V) := run_loadVar_row _ _ _ _ V (0, 0) d hres hu (by cases d <;> first | rfl | exact hd) (by rw [hz]; kernel_rfl)
  refine bodyPost_ret (results_cell rfl _ _ (by rfl) hl) rfl ?_
  refine ⟨by rw [HV.out], below_setRow hB1.out (Nat.le_refl _) V⟩
end Go.Proofs.YtjlpkndbnaknaaaGreatDoor
