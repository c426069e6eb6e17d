/- Pm, Nh, I, Hw, M, H, J -/
import Derived.Test.YtikpmkidfppknaaGreatDoorZ0
import Derived.Test.YtikpmkidfppknaaGreatDoorZ2
import Derived.Test.YtikpmkidfppknaaGreatDoorZ1
import Derived.Laws.AppendOwn
import Derived.Laws.MakeOwn
import Derived.Deep.AppendLies
set_option linter.unusedVariables false
set_option linter.unusedSimpArgs false
/- Layer 5 as plain functions: HMACs over lists of bytes (natural numbers below 256). -/
namespace Go.Proofs.YtikpmkidfppknaaGreatDoor

/-- A key, bytes 0 behind it, each put together with m. -/
def padK (key : List Nat) (m : Nat) : List Nat := (List.range 64).map fun i => (key.getD i 0) ^^^ m
/-- A key's HMAC of a text. -/
def macL (key s : List Nat) : List Nat := sumL (padK key 0x5c ++ sumL (padK key 0x36 ++ s))
theorem padK_length (key : List Nat) (m : Nat) : (padK key m).length = 64 := by rw [padK, List.length_map, List.length_range]
theorem padK_get (key : List Nat) (m i : Nat) (h : i < 64) : (padK key m)[i]? = some ((key.getD i 0) ^^^ m) := by
  rw [padK, List.getElem?_map, List.getElem?_range h]
  rfl
theorem getD_zeros (key : List Nat) (n i : Nat) : (key ++ List.replicate n 0).getD i 0 = key.getD i 0 := by
  rw [List.getD_eq_getElem?_getD, List.getD_eq_getElem?_getD]
  by_cases h : i < key.length
  · rw [List.getElem?_append_left h]
  · rw [List.getElem?_append_right (by omega), List.getElem?_eq_none (show key.length ≤ i by omega), List.getElem?_replicate]
    split <;> rfl
/-- Bytes 0 behind a key make no difference. -/
theorem padK_zeros (key : List Nat) (n m : Nat) : padK (key ++ List.replicate n 0) m = padK key m := by
  unfold padK
  refine List.map_congr_left fun i _ => ?_
  rw [getD_zeros]
theorem macL_zeros (key s : List Nat) (n : Nat) : macL (key ++ List.replicate n 0) s = macL key s := by
  unfold macL
  rw [padK_zeros, padK_zeros]
theorem padK_lt (key : List Nat) (m : Nat) (hk : ∀ c ∈ key, c < 256) (hm : m < 256) : ∀ c ∈ padK key m, c < 256 := by
  intro c hc
  obtain ⟨i, _, rfl⟩ := List.mem_map.1 hc
  have h1 : key.getD i 0 < 2 ^ 8 := by
    rw [List.getD_eq_getElem?_getD]
    cases h : key[i]? with
    | none => exact (by omega : (0 : Nat) < 2 ^ 8)
    | some x => exact hk x (List.mem_of_getElem? h)
  exact Nat.xor_lt_two_pow h1 (show m < 2 ^ 8 by omega)
/-- A known one. -/
theorem macL_known : hexL (macL ("key".toList.map Char.toNat) ("The quick brown fox jumps over the lazy dog".toList.map Char.toNat)) = "f7bc83f430538424b13298e6aa6fb143ef4d59a14946175997479dbc2d1a3cd8".toList.map Char.toNat := by decide +kernel
/-- A number in decimal digits. -/
def numL (n : Nat) : List Nat := (Nat.toDigits 10 n).map Char.toNat
end Go.Proofs.YtikpmkidfppknaaGreatDoor

/- inner, outer, newHasher. -/
namespace Go.Proofs.YtikpmkidfppknaaGreatDoor
open Go.RowKit Go.Shelf
attribute [local go_sem] Oper.semAt_some

/-- A key's block. -/
def blkL (key : List Nat) : List Nat := key ++ List.replicate (64 - key.length) 0
theorem blkL_length (key : List Nat) (h : key.length ≤ 64) : (blkL key).length = 64 := by rw [blkL, List.length_append, List.length_replicate]; omega
theorem blkL_lt (key : List Nat) (hk : ∀ c ∈ key, c < 256) : ∀ c ∈ blkL key, c < 256 := by
  intro c hc
  rcases List.mem_append.1 hc with h | h
  · exact hk c h
  · rw [(List.mem_replicate.1 h).2]; omega
theorem blkL_pad (key : List Nat) (h : key.length ≤ 64) (m : Nat) : (blkL key).map (· ^^^ m) = padK key m := by
  apply List.ext_getElem?
  intro i
  by_cases hi : i < 64
  · rw [padK_get key m i hi, List.getElem?_map, ← getD_zeros key (64 - key.length) i]
    have hl : i < (blkL key).length := by rw [blkL_length key h]; exact hi
    show ((blkL key)[i]?).map _ = some ((blkL key).getD i 0 ^^^ m)
    rw [List.getD_eq_getElem?_getD, List.getElem?_eq_getElem hl]
    rfl
  · rw [List.getElem?_eq_none (by rw [List.length_map, blkL_length key h]; omega), List.getElem?_eq_none (by rw [padK_length]; omega)]
theorem byVs_all (l : List Nat) : (byVs l).toArray.all (·.oneCell') = true := Array.all_eq_true_iff_forall_mem.2 (fun v hv => byVs_one l v (by simpa using hv))
/-- copy, out of a text, to the beginning of a block's row. -/
theorem wpList_copy_text_in {w : World} {ops : Array Oper} {rest : List Oper} {o : Oper} {a : Act} {Q : Exit → Act → World → Prop} (hgd : o.guard = none) (d s : Operand)
    (ho : o.op = .call { callee := .builtin .copy, args := #[d, s], argTypes := #[103, 9] })
    (b dLen dCap : Nat) (x : ByteArray) (hd : a.eval d = .slice (some ⟨b, 0, none⟩) dLen dCap) (hs : a.eval s = .string x) (l : List Nat) (t : TypeId) (hg : w.heap[b]? = some (.cells (byVs l).toArray t (0, 0))) (hle : x.size ≤ dLen) (hfit : x.size ≤ l.length)
    (h : ∀ w', w'.heap[b]? = some (.cells (byVs (bL x ++ l.drop x.size)).toArray t (0, 0)) → Hid (w' = w.setRow b (byVs (bL x ++ l.drop x.size)).toArray) → wpList Tryz.prog ops Q rest (a.put o.dst (goInt x.size)) w') : wpList Tryz.prog ops Q (o :: rest) a w := by
  refine wpList_plain hgd fun K hK => ?_
  have hrun := Lib.run_copy_row_string (P := Tryz.prog) w 103 9 o.type 5 b 0 dLen dCap x _ t (by kernel_rfl) (by kernel_rfl) hg hle (by simpa [byVs] using hfit)
  have e : (List.take 0 (byVs l).toArray.toList ++ Lib.byteCells x.data.toList ++ List.drop (0 + x.size) (byVs l).toArray.toList).toArray = (byVs (bL x ++ l.drop x.size)).toArray := by
    rw [byVs_append, byVs_bL, Nat.zero_add]
    simp [byVs]
  rw [e] at hrun
  unfold Oper.wp
  simp [execOp, ho, resolve, invoke, builtin, hd, hs, hrun, Result.andThen]
  exact hK _ _ (h _ (setRow_heap w b _ _ _ _ hg) (Lib.hid rfl))
set_option maxRecDepth 100000 in
set_option maxHeartbeats 8000000 in
theorem inner_c (l : List Nat) (hl : l.length = 64) (hlt : ∀ c ∈ l, c < 256) (w : World) : Calls Tryz.prog 71 #[.agg (byVs l).toArray] w fun r w' => r = .returned (.string (ofL (l.map (· ^^^ 54)))) ∧ Below w.heap.size w w' := by
  have HM := Lib.hid (fun W => masked_c l hl hlt 54 (by omega) W)
  have hz : (byVs l).toArray.size = 64 := by rw [List.size_toArray, byVs_length, hl]
  go_enter Tryz.func71, Tryz.ntmps71
  go_wp2_with (refine wpList_load_row rfl (.tmp 1) 70 rfl w.heap.size _ (byVs l).toArray (0, 0) (.array 64 5) rfl (World.alloc_heap_new w _) (by kernel_rfl) rfl (by rw [hz]; kernel_rfl) ?_)
  refine (HM.out _).mono ?_
  rintro e w2 ⟨rfl, hb2⟩
  go_wp2
  go_ret
  exact ⟨rfl, btr (below_alloc w _) hb2⟩
set_option maxRecDepth 100000 in
set_option maxHeartbeats 8000000 in
theorem outer_c (l : List Nat) (hl : l.length = 64) (hlt : ∀ c ∈ l, c < 256) (w : World) : Calls Tryz.prog 72 #[.agg (byVs l).toArray] w fun r w' => r = .returned (.string (ofL (l.map (· ^^^ 92)))) ∧ Below w.heap.size w w' := by
  have HM := Lib.hid (fun W => masked_c l hl hlt 92 (by omega) W)
  have hz : (byVs l).toArray.size = 64 := by rw [List.size_toArray, byVs_length, hl]
  go_enter Tryz.func72, Tryz.ntmps72
  go_wp2_with (refine wpList_load_row rfl (.tmp 1) 70 rfl w.heap.size _ (byVs l).toArray (0, 0) (.array 64 5) rfl (World.alloc_heap_new w _) (by kernel_rfl) rfl (by rw [hz]; kernel_rfl) ?_)
  refine (HM.out _).mono ?_
  rintro e w2 ⟨rfl, hb2⟩
  go_wp2
  go_ret
  exact ⟨rfl, btr (below_alloc w _) hb2⟩
set_option maxRecDepth 100000 in
set_option maxHeartbeats 8000000 in
theorem newHasher_c (key : ByteArray) (hk : key.size ≤ 64) (w : World) : Calls Tryz.prog 47 #[.string key] w fun r w' => r = .returned (.agg (byVs (blkL (bL key))).toArray) ∧ Below w.heap.size w w' := by
  obtain ⟨d, hu, hd⟩ : ∃ d, Tryz.prog.underlying 72 = some d ∧ (match d with | .struct _ | .array _ _ => true | _ => false) = true := by
    have h : (Tryz.prog.underlying 72).map (fun d => match d with | .struct _ | .array _ _ => true | _ => false) = some true := by kernel_rfl
    cases hx : Tryz.prog.underlying 72 with
    | none => rw [hx] at h; cases h
    | some d => rw [hx] at h; exact ⟨d, rfl, Option.some.inj h⟩
  have hdrop : bL key ++ (List.replicate 64 0).drop key.size = blkL (bL key) := by rw [List.drop_replicate, blkL, bL_length]
  have hz : (byVs (blkL (bL key))).toArray.size = 64 := by rw [List.size_toArray, byVs_length, blkL_length _ (by rw [bL_length]; omega)]
  have ha := byVs_all (blkL (bL key))
  obtain ⟨V, hV⟩ : ∃ V, V = (byVs (blkL (bL key))).toArray := ⟨_, rfl⟩
  rw [← hV] at hz ha
  go_enter Tryz.func47, Tryz.ntmps47
  have E0 : ((w.alloc (.cells (byVs (List.replicate 64 0)).toArray 72)).alloc (.cells (byVs (List.replicate 64 0)).toArray 72)).heap[w.heap.size]? = some (.cells (byVs (List.replicate 64 0)).toArray 72 (0, 0)) := (Below.heap_alloc _ _ _ (by simp)).trans (World.alloc_heap_new _ _)
  have EB : Below w.heap.size w ((w.alloc (.cells (byVs (List.replicate 64 0)).toArray 72)).alloc (.cells (byVs (List.replicate 64 0)).toArray 72)) := bal (below_alloc _ _) _
  have HE := Lib.hid (And.intro E0 EB)
  obtain ⟨R0, hR0⟩ : ∃ R0, R0 = (byVs (List.replicate 64 0)).toArray := ⟨_, rfl⟩
  have hRz : R0.size = 64 := by rw [hR0]; simp [byVs]
  have HR0 := Lib.hid hR0
  have HV := Lib.hid hV
  have HDr := Lib.hid hdrop
  clear E0 EB hV hdrop hR0
  go_wp2_with (first
    | (refine wpList_copy_text_in rfl (.tmp 5) (.tmp 6) rfl (w.heap.size + 1) 64 64 key rfl rfl (List.replicate 64 0) 72 (heap_new_at _ (by simp)) (by omega) (by rw [List.length_replicate]; omega) (fun w1 hg1 hw1 => ?_)
       rw [HDr.out, ← HV.out] at hg1 hw1
       have hw2 : Hid (w1 = ((w.alloc (.cells (byVs (List.replicate 64 0)).toArray 72)).alloc (.cells (byVs (List.replicate 64 0)).toArray 72)).setRow (w.heap.size + 1) V) := hw1
       clear hw1
       have hg0 : w1.heap[w.heap.size]? = some (.cells R0 72 (0, 0)) := by rw [hw2.out, HR0.out, (below_setRow (Below.refl (w.heap.size + 1) _) (Nat.le_refl _) _).block _ (Nat.lt_succ_self _)]; exact HE.out.1
       have hB1 := Lib.hid (show Below w.heap.size w w1 by rw [hw2.out]; exact below_setRow HE.out.2 (Nat.le_succ _) _))
    | refine wpList_load_row rfl (.tmp 3) 72 rfl (w.heap.size + 1) 72 V (0, 0) d rfl hg1 hu (by cases d <;> first | rfl | exact hd) (by rw [hz]; kernel_rfl) ?_
    | refine wpList_store_row rfl (.tmp 2) (.tmp 8) 72 rfl rfl w.heap.size 72 R0 V rfl rfl hg0 (by rw [hz]; kernel_rfl) (by rw [hz]; exact hRz) ha ?_)
  have hres : (w1.setRow w.heap.size V).heap[w.heap.size]? = some (.cells V 72 (0, 0)) := setRow_heap w1 _ _ V _ _ hg0
  have hl : (loadVar 72 ⟨w.heap.size, 0, none⟩).run Tryz.prog (w1.setRow w.heap.size V) = .ok (.agg V) (w1.setRow w.heap.size V) := run_loadVar_row _ _ _ _ V (0, 0) d hres hu (by cases d <;> first | rfl | exact hd) (by rw [hz]; kernel_rfl)
  refine bodyPost_ret (results_cell rfl _ _ (by rfl) hl) rfl ?_
  refine ⟨by rw [HV.out], below_setRow hB1.out (Nat.le_refl _) V⟩
end Go.Proofs.YtikpmkidfppknaaGreatDoor

/- ending; Pad. -/
namespace Go.Proofs.YtikpmkidfppknaaGreatDoor
open Go.RowKit Go.Shelf
attribute [local go_sem] Oper.semAt_some

theorem set_tail {α : Type} (A B : List α) (p j : Nat) (x : α) (h : p = A.length + j) : (A ++ B).set p x = A ++ B.set j x := by
  rw [List.set_append_right _ _ (by omega), show p - A.length = j by omega]
/-- What lies in the row at the end. -/
theorem end_row (R : List Nat) (n N : Nat) (h8 : R.length + 9 ≤ N) (hN : N ≤ 128) :
    ((((((((((R ++ List.replicate (128 - R.length) 0).set R.length 128).set (N - 1) (8 * n / 256 ^ 0 % 256)).set (N - 2) (8 * n / 256 ^ 1 % 256)).set (N - 3) (8 * n / 256 ^ 2 % 256)).set (N - 4) (8 * n / 256 ^ 3 % 256)).set (N - 5) (8 * n / 256 ^ 4 % 256)).set (N - 6) (8 * n / 256 ^ 5 % 256)).set (N - 7) (8 * n / 256 ^ 6 % 256)).set (N - 8) (8 * n / 256 ^ 7 % 256)).take N
      = R ++ 128 :: (List.replicate (N - R.length - 9) 0 ++ lenL n) := by
  have e1 : (R ++ List.replicate (128 - R.length) 0).set R.length 128 = (R ++ 128 :: List.replicate (N - R.length - 9) 0) ++ ([0, 0, 0, 0, 0, 0, 0, 0] ++ List.replicate (128 - N) 0) := by
    rw [set_tail R _ R.length 0 128 (by omega), show 128 - R.length = ((N - R.length - 9) + (8 + (128 - N))) + 1 by omega, List.replicate_succ, List.set_cons_zero, List.append_assoc, List.cons_append, ← List.replicate_append_replicate, ← List.replicate_append_replicate]
    rfl
  rw [e1]
  generalize hA : R ++ 128 :: List.replicate (N - R.length - 9) 0 = A
  have hl : A.length = N - 8 := by rw [← hA]; simp only [List.length_append, List.length_cons, List.length_replicate]; omega
  rw [set_tail A _ (N - 1) 7 _ (by omega), set_tail A _ (N - 2) 6 _ (by omega), set_tail A _ (N - 3) 5 _ (by omega), set_tail A _ (N - 4) 4 _ (by omega), set_tail A _ (N - 5) 3 _ (by omega), set_tail A _ (N - 6) 2 _ (by omega), set_tail A _ (N - 7) 1 _ (by omega), set_tail A _ (N - 8) 0 _ (by omega)]
  have e2 : ((((((((([0, 0, 0, 0, 0, 0, 0, 0] ++ List.replicate (128 - N) 0).set 7 (8 * n / 256 ^ 0 % 256)).set 6 (8 * n / 256 ^ 1 % 256)).set 5 (8 * n / 256 ^ 2 % 256)).set 4 (8 * n / 256 ^ 3 % 256)).set 3 (8 * n / 256 ^ 4 % 256)).set 2 (8 * n / 256 ^ 5 % 256)).set 1 (8 * n / 256 ^ 6 % 256)).set 0 (8 * n / 256 ^ 7 % 256)) = lenL n ++ List.replicate (128 - N) 0 := rfl
  rw [e2, List.take_append, ← hA]
  have hlen := lenL_length n
  rw [List.take_of_length_le (by rw [hA, hl]; omega), hA, hl, List.take_append_of_le_length (by omega), List.take_of_length_le (by omega), ← hA, List.append_assoc, List.cons_append]
theorem endL_lt (s : ByteArray) : ∀ c ∈ endL (bL s), c < 256 := by
  intro c hc
  unfold endL at hc
  rcases List.mem_append.1 hc with h | h
  · exact bL_lt s c (List.mem_of_mem_drop h)
  · rcases List.mem_cons.1 h with rfl | h
    · omega
    · rcases List.mem_append.1 h with h | h
      · rw [(List.mem_replicate.1 h).2]; omega
      · unfold lenL at h
        obtain ⟨i, _, rfl⟩ := List.mem_map.1 h
        omega
/-- The row, k bytes of the length written. -/
def endK (L : List Nat) (N n : Nat) : Nat → List Nat
  | 0 => L
  | k + 1 => (endK L N n k).set (N - (k + 1)) (8 * n / 256 ^ k % 256)
theorem endK_length (L : List Nat) (N n : Nat) : ∀ k, (endK L N n k).length = L.length
  | 0 => rfl
  | k + 1 => by rw [endK, List.length_set, endK_length L N n k]
theorem get_D {l : List Nat} {j : Nat} (h : j < l.length) : l[j]? = some (l.getD j 0) := by
  rw [List.getD_eq_getElem?_getD, List.getElem?_eq_getElem h]; rfl
theorem get_take {l : List Nat} {N j n : Nat} (h : (l.take N)[j]? = some n) : l[j]? = some n := by
  rw [List.getElem?_take] at h
  split at h
  · exact h
  · cases h
theorem shrv (n k : Nat) : 8 * (n : Int) / 2 ^ (8 * k) % 256 = ((8 * n / 256 ^ k % 256 : Nat) : Int) := by
  rw [show (256 : Nat) ^ k = 2 ^ (8 * k) by rw [show (256 : Nat) = 2 ^ 8 from rfl, ← Nat.pow_mul]]
  rw [Int.natCast_emod, Int.natCast_ediv, Int.natCast_mul, Int.natCast_pow]
  rfl
theorem end_zero {X : ByteArray} {Z : List Nat} {r : Nat} (hX : X.size = r) (_hl : Z.length = 128) (hZ : Z = List.replicate 128 0) (h : r < 64) : (bL X ++ Z.drop X.size)[r]? = some 0 := by
  rw [List.getElem?_append_right (by rw [bL_length]; omega), bL_length, hX, Nat.sub_self, List.getElem?_drop, hZ, List.getElem?_replicate, if_pos (by omega)]
set_option maxRecDepth 100000 in
set_option maxHeartbeats 8000000 in
theorem ending_c (s : ByteArray) (hs : s.size ≤ 100000) (w : World) : Calls Tryz.prog 97 #[.string s] w fun r w' => r = .returned (.string (ofL (endL (bL s)))) ∧ Below w.heap.size w w' := by
  have HW := Lib.hid (fun W => whole_c s hs W)
  have hwl : wholeN s.size ≤ s.size := wholeN_le _
  obtain ⟨Z, hZ⟩ : ∃ Z, Z = List.replicate 128 0 := ⟨_, rfl⟩
  have HM := fun W => make_by 64 128 (by omega) (by omega) W
  rw [show ((64 : Nat) : Int) = 64 from rfl, show ((128 : Nat) : Int) = 128 from rfl, ← hZ] at HM
  have hwm : (s.extract (wholeN s.size) s.size).size = s.size % 64 := by rw [ByteArray.size_extract]; unfold wholeN; omega
  have hR : bL (s.extract (wholeN s.size) s.size) = (bL s).drop (wholeN s.size) := by rw [bL_extract, ← bL_length, List.take_length]
  obtain ⟨X, hX⟩ : ∃ X, s.extract (wholeN s.size) s.size = X := ⟨_, rfl⟩
  rw [hX] at hwm hR
  have HR := Lib.hid hR
  clear hR
  obtain ⟨r, hr⟩ : ∃ r, s.size % 64 = r := ⟨_, rfl⟩
  rw [hr] at hwm
  have hr64 : r < 64 := by omega
  have HZ := Lib.hid hZ
  have hZl : Z.length = 128 := by rw [hZ, List.length_replicate]
  clear hZ
  have hr9 : IntKind.i64.wrap ((r : Int) + 9) = (r : Int) + 9 := IntWalk.i64_in _ (by omega)
  have hi64 : (r : Int) < 64 := by omega
  have hi128 : (r : Int) < 128 := by omega
  have hn128 : r < 128 := by omega
  have hB8 : IntKind.u64.wrap ((s.size : Int) * 8) = 8 * (s.size : Int) := by rw [IntKind.wrap_u64]; omega
  go_enter Tryz.func97, Tryz.ntmps97
  by_cases h64 : 64 < r + 9
  · have h64' : (64 : Int) < (r : Int) + 9 := by omega
    go_wp2_with (first | (with_reducible refine (HW.out _).mono ?_; rintro e w1 ⟨rfl, hb1⟩) | (refine wpList_copy_text rfl (.tmp 18) (.tmp 19) rfl w1.heap.size 128 128 X rfl rfl Z (BysAt.new Z w1) (by omega) (by omega) w.heap.size w (bal hb1 _) hb1.size ?_; intro w2 hA hb2; have hc0 := hA.cell (j := r) (n := 0) (end_zero hwm hZl HZ.out hr64); have hf0 := hA.frozen r))
    have hA2 := hA.set r 128
    have hb3 : Below w.heap.size w (w2.setCell ⟨w1.heap.size, r, none⟩ (.int .u8 128)) := hb2.setCell (by have := hb1.size; exact this) _
    have hlen : ((bL X ++ Z.drop X.size).set r 128).length = 128 := by rw [List.length_set, List.length_append, List.length_drop, bL_length, hZl]; omega
    obtain ⟨L0, hL0⟩ : ∃ L0, L0 = (bL X ++ Z.drop X.size).set r 128 := ⟨_, rfl⟩
    rw [← hL0] at hA2 hlen
    have HL0 := Lib.hid hL0
    clear hL0 hc0 hf0 hA hb2
    rw [show (Value.int IntKind.u8 ((128 : Nat) : Int)) = .int .u8 128 from rfl] at hA2
    generalize w2.setCell ⟨w1.heap.size, r, none⟩ (.int .u8 128) = w3 at *
    go_loopw [29] (fun i wr => ∃ k : Nat, k ≤ 8 ∧ i = .int .i64 (k : Int) ∧ BysAt w1.heap.size (endK L0 128 s.size k) wr ∧ Below w.heap.size w wr) (fun i _ => 8 - (intOf i).toNat)
    case atStart => exact ⟨0, by omega, rfl, hA2, hb3⟩
    case round =>
      obtain ⟨k, hk, rfl, hK, hbk⟩ := hrel
      clear hA2 hb3
      by_cases hlt : k < 8
      · have hlt' : (k : Int) < 8 := by omega
        obtain ⟨j, hj, hjn⟩ : ∃ j : Nat, (127 : Int) - (k : Int) = (j : Int) ∧ 128 - (k + 1) = j := ⟨128 - (k + 1), by omega, rfl⟩
        have hjw : IntKind.i64.wrap (j : Int) = (j : Int) := IntWalk.i64_in _ (by omega)
        have hj1 : (j : Int) < 128 := by omega
        have hj2 : j < 128 := by omega
        have h8k : IntKind.i64.wrap (8 * (k : Int)) = 8 * (k : Int) := IntWalk.i64_in _ (by omega)
        obtain ⟨M, hM⟩ : ∃ M, M = 8 * s.size / 256 ^ k := ⟨_, rfl⟩
        have HV := Lib.hid (shrv s.size k)
        rw [← hM] at HV
        have hck := hK.cell (j := j) (n := (endK L0 128 s.size k).getD j 0) (get_D (by rw [endK_length, hlen]; omega))
        have hfk := hK.frozen j
        have HK := Lib.hid (hK.set j (M % 256))
        have hE : endK L0 128 s.size (k + 1) = (endK L0 128 s.size k).set j (M % 256) := by rw [endK, hjn, hM]
        rw [← hE] at HK
        have HBk := Lib.hid hbk
        have HSZ := Lib.hid hb1.size
        clear hE hM hK hbk
        generalize (endK L0 128 s.size k).getD j 0 = v0 at *
        generalize M % 256 = M8 at *
        go_wp2
        rw [HV.out]
        go_roundw
        case rel => exact ⟨k + 1, by omega, by go_num, HK.out, HBk.out.setCell HSZ.out _⟩
        case measure => simp [intOf]; omega
      · obtain rfl : k = 8 := by omega
        have hE := end_row (bL X) s.size 128 (by rw [bL_length]; omega) (by omega)
        rw [bL_length, hwm] at hE
        have hL1 : L0 = (bL X ++ List.replicate (128 - r) 0).set r 128 := by rw [HL0.out, HZ.out, hwm, List.drop_replicate]
        rw [← hL1] at hE
        have hE2 : (endK L0 128 s.size 8).take 128 = endL (bL s) := by
          refine Eq.trans hE ?_
          unfold endL
          rw [HR.out, bL_length, show zerosN s.size = 128 - r - 9 by unfold zerosN; omega]
        have hlt2 : ∀ c ∈ (endK L0 128 s.size 8).take 128, c < 256 := by rw [hE2]; exact endL_lt s
        have hlen2 : ((endK L0 128 s.size 8).take 128).length = 128 := by rw [List.length_take, endK_length, hlen]; rfl
        have hcv := conv_cells _ hlt2 w1.heap.size 128 wr (fun j n h => hK.cell (get_take h))
        rw [hlen2, hE2] at hcv
        clear hE hE2 hL1 hlt2 hlen2
        go_wp2
        go_ret
        exact ⟨rfl, hbk⟩
  · have h64' : ¬ (64 : Int) < (r : Int) + 9 := by omega
    go_wp2_with (first | (with_reducible refine (HW.out _).mono ?_; rintro e w1 ⟨rfl, hb1⟩) | (refine wpList_copy_text rfl (.tmp 18) (.tmp 19) rfl w1.heap.size 64 128 X rfl rfl Z (BysAt.new Z w1) (by omega) (by omega) w.heap.size w (bal hb1 _) hb1.size ?_; intro w2 hA hb2; have hc0 := hA.cell (j := r) (n := 0) (end_zero hwm hZl HZ.out hr64); have hf0 := hA.frozen r))
    have hA2 := hA.set r 128
    have hb3 : Below w.heap.size w (w2.setCell ⟨w1.heap.size, r, none⟩ (.int .u8 128)) := hb2.setCell (by have := hb1.size; exact this) _
    have hlen : ((bL X ++ Z.drop X.size).set r 128).length = 128 := by rw [List.length_set, List.length_append, List.length_drop, bL_length, hZl]; omega
    obtain ⟨L0, hL0⟩ : ∃ L0, L0 = (bL X ++ Z.drop X.size).set r 128 := ⟨_, rfl⟩
    rw [← hL0] at hA2 hlen
    have HL0 := Lib.hid hL0
    clear hL0 hc0 hf0 hA hb2
    rw [show (Value.int IntKind.u8 ((128 : Nat) : Int)) = .int .u8 128 from rfl] at hA2
    generalize w2.setCell ⟨w1.heap.size, r, none⟩ (.int .u8 128) = w3 at *
    go_loopw [29] (fun i wr => ∃ k : Nat, k ≤ 8 ∧ i = .int .i64 (k : Int) ∧ BysAt w1.heap.size (endK L0 64 s.size k) wr ∧ Below w.heap.size w wr) (fun i _ => 8 - (intOf i).toNat)
    case atStart => exact ⟨0, by omega, rfl, hA2, hb3⟩
    case round =>
      obtain ⟨k, hk, rfl, hK, hbk⟩ := hrel
      clear hA2 hb3
      by_cases hlt : k < 8
      · have hlt' : (k : Int) < 8 := by omega
        obtain ⟨j, hj, hjn⟩ : ∃ j : Nat, (63 : Int) - (k : Int) = (j : Int) ∧ 64 - (k + 1) = j := ⟨64 - (k + 1), by omega, rfl⟩
        have hjw : IntKind.i64.wrap (j : Int) = (j : Int) := IntWalk.i64_in _ (by omega)
        have hj1 : (j : Int) < 64 := by omega
        have hj2 : j < 64 := by omega
        have h8k : IntKind.i64.wrap (8 * (k : Int)) = 8 * (k : Int) := IntWalk.i64_in _ (by omega)
        obtain ⟨M, hM⟩ : ∃ M, M = 8 * s.size / 256 ^ k := ⟨_, rfl⟩
        have HV := Lib.hid (shrv s.size k)
        rw [← hM] at HV
        have hck := hK.cell (j := j) (n := (endK L0 64 s.size k).getD j 0) (get_D (by rw [endK_length, hlen]; omega))
        have hfk := hK.frozen j
        have HK := Lib.hid (hK.set j (M % 256))
        have hE : endK L0 64 s.size (k + 1) = (endK L0 64 s.size k).set j (M % 256) := by rw [endK, hjn, hM]
        rw [← hE] at HK
        have HBk := Lib.hid hbk
        have HSZ := Lib.hid hb1.size
        clear hE hM hK hbk
        generalize (endK L0 64 s.size k).getD j 0 = v0 at *
        generalize M % 256 = M8 at *
        go_wp2
        rw [HV.out]
        go_roundw
        case rel => exact ⟨k + 1, by omega, by go_num, HK.out, HBk.out.setCell HSZ.out _⟩
        case measure => simp [intOf]; omega
      · obtain rfl : k = 8 := by omega
        have hE := end_row (bL X) s.size 64 (by rw [bL_length]; omega) (by omega)
        rw [bL_length, hwm] at hE
        have hL1 : L0 = (bL X ++ List.replicate (128 - r) 0).set r 128 := by rw [HL0.out, HZ.out, hwm, List.drop_replicate]
        rw [← hL1] at hE
        have hE2 : (endK L0 64 s.size 8).take 64 = endL (bL s) := by
          refine Eq.trans hE ?_
          unfold endL
          rw [HR.out, bL_length, show zerosN s.size = 64 - r - 9 by unfold zerosN; omega]
        have hlt2 : ∀ c ∈ (endK L0 64 s.size 8).take 64, c < 256 := by rw [hE2]; exact endL_lt s
        have hlen2 : ((endK L0 64 s.size 8).take 64).length = 64 := by rw [List.length_take, endK_length, hlen]; rfl
        have hcv := conv_cells _ hlt2 w1.heap.size 128 wr (fun j n h => hK.cell (get_take h))
        rw [hlen2, hE2] at hcv
        clear hE hE2 hL1 hlt2 hlen2
        go_wp2
        go_ret
        exact ⟨rfl, hbk⟩
end Go.Proofs.YtikpmkidfppknaaGreatDoor

/- A region that draws its order, held, inside the wide fence (no round). -/
namespace Go.Proofs.YtikpmkidfppknaaGreatDoor
open Go.RowKit

theorem wpOpIn_of_wpOp_wide {n : Nat} {P : Program} {ops : Array Oper} {Q : Exit → Act → World → Prop} {i : Nat} {K K' : Act → World → Prop} {a : Act} {w : World}
    (hno : ¬ LetsOut Q) (hK : ∀ a w, K a w → K' a w) (h : wpOp P ops Q i K a w) : wpOpIn Fence.wide n P ops Q i K' a w := by
  refine wpOpIn_mono hK ?_
  unfold wpOp at h
  unfold wpOpIn
  cases ho : ops[i]? with
  | none => rw [ho] at h; exact h
  | some o =>
    rw [ho] at h
    simp only [] at h ⊢
    by_cases hw : Region.wanted o (yielded ops a.tmps) = true
    · rw [if_pos hw] at h ⊢
      rcases h with h | ⟨_, h⟩
      · refine ⟨fun _ _ => trivial, ?_⟩
        have hs : o.semAt Fence.wide.round a.eval = execOp a.eval o := rfl
        rw [hs]
        unfold Oper.wp at h
        generalize (execOp a.eval o).run P w = r at *
        cases r with
        | ok x w' =>
          cases x with
          | enter f args => exact ⟨fun k => by simp [Fence.wide] at k, callsIn_wide.2 h⟩
          | row row args => exact ⟨fun k => by simp [Fence.wide] at k, fun c cs _ => let ⟨v, w', r, s⟩ := h c cs; ⟨v, w', r, stepsIn_wide.2 s⟩⟩
          | _ => first | exact h | exact (h : False).elim
        | halt x w' => cases x <;> first | exact h | exact (h : False).elim
      · exact absurd h hno
    · rw [if_neg hw] at h ⊢
      exact ⟨fun _ _ => trivial, h⟩
theorem wpAnyIn_of_wpAny_wide {n : Nat} {P : Program} {md : Region.Mode} {ops : Array Oper} {Q : Exit → Act → World → Prop}
    (hno : ¬ LetsOut Q) : ∀ (fuel : Nat) (listed : Array Bool) (a : Act) (w : World), wpAny P md ops Q fuel listed a w → wpAnyIn Fence.wide n P md ops Q fuel listed a w
  | 0, _, _, _, h => h
  | fuel + 1, _, _, _, h => ⟨h.1, fun i hi => wpOpIn_of_wpOp_wide hno (fun a' w' h' => wpAnyIn_of_wpAny_wide hno fuel _ a' w' h') (h.2 i hi)⟩
theorem wpIn_region_held_drew_wide {n : Nat} {P : Program} {ops : Array Oper} {Q : Exit → Act → World → Prop} {S : World → Prop} {id : Nat} {a : Act} {w : World} (hm : P.follows .mixedOrders = true) (hno : ¬ LetsOut Q)
    (hS : S w.drew) (h : S w.drew → wpAnyH P .any ops Q S ops.size (Array.replicate ops.size false) a w.drew) : (Code.region id ops true).wpIn Fence.wide n P Q a w :=
  wpIn_region_any hm (wpAnyIn_of_wpAny_wide hno _ _ _ _ (wpAny_of_held _ _ _ _ (h hS)))
end Go.Proofs.YtikpmkidfppknaaGreatDoor

/- blocks: the iterator's contract. -/
namespace Go.Proofs.YtikpmkidfppknaaGreatDoor
open Go.RowKit Go.Shelf
attribute [local go_sem] Oper.semAt_some

structure Blk where
  t : ByteArray
  h : t.size = 64
def encB (x : Blk) : Array Value := #[.string x.t]
/-- The k-th block of a text. -/
def blkAt (p : ByteArray) (k : Nat) : Blk := if h : 64 * k + 64 ≤ p.size then ⟨p.extract (64 * k) (64 * k + 64), by rw [ByteArray.size_extract]; omega⟩ else ⟨ofL (List.replicate 64 0), by rw [ofL_size, List.length_replicate]⟩
def partB (p : ByteArray) : List Blk := (List.range (p.size / 64)).map (blkAt p)
theorem partB_length (p : ByteArray) : (partB p).length = p.size / 64 := by rw [partB, List.length_map, List.length_range]
theorem partB_take (p : ByteArray) (k : Nat) (h : k < p.size / 64) : (partB p).take (k + 1) = (partB p).take k ++ [blkAt p k] := by
  have hl : k < (partB p).length := by rw [partB_length]; exact h
  rw [List.take_add_one, List.getElem?_eq_getElem hl]
  simp [partB]
theorem blkAt_t (p : ByteArray) (k : Nat) (h : k < p.size / 64) : (blkAt p k).t = p.extract (64 * k) (64 * k + 64) := by
  unfold blkAt
  rw [dif_pos (by omega)]
/-- The two parts of a padded text. -/
def pt (s : ByteArray) (k : Nat) : ByteArray := if k = 0 then s.extract 0 (wholeN s.size) else ofL (endL (bL s))
theorem pt_size (s : ByteArray) (k : Nat) : (pt s k).size % 64 = 0 ∧ (pt s k).size ≤ s.size + 128 := by
  unfold pt
  split
  · rw [ByteArray.size_extract]
    have h1 := wholeN_mod s.size
    have h2 := wholeN_le s.size
    omega
  · rw [ofL_size, endL_length]
    split <;> omega
def doneB (s : ByteArray) : Nat → List Blk
  | 0 => []
  | k + 1 => doneB s k ++ partB (pt s k)
def blocksB (s : ByteArray) : List Blk := doneB s 2
theorem done_pre (s : ByteArray) (k : Nat) (hk : k < 2) : doneB s (k + 1) <+: blocksB s := by
  obtain rfl | rfl : k = 0 ∨ k = 1 := by omega
  · exact ⟨partB (pt s 1), rfl⟩
  · exact ⟨[], by rw [List.append_nil]; rfl⟩
theorem next_pre (s : ByteArray) (k m : Nat) (hk : k < 2) (hm : m < (pt s k).size / 64) : doneB s k ++ (partB (pt s k)).take m ++ [blkAt (pt s k) m] <+: blocksB s := by
  rw [List.append_assoc, ← partB_take _ _ hm]
  refine List.IsPrefix.trans ?_ (done_pre s k hk)
  rw [doneB]
  exact (List.prefix_append_right_inj _).2 (List.take_prefix _ _)
set_option maxRecDepth 100000 in
set_option maxHeartbeats 8000000 in
theorem blocks_it (n : Nat) (hn : 2 ≤ n) (s : ByteArray) (hs : s.size ≤ 100000) (sb : Nat) (w : World) (h0 : w.cell? ⟨sb, 0, none⟩ = some (.string s)) :
    Iters Fence.wide n Tryz.prog 95 #[.pointer (some ⟨sb, 0, none⟩)] encB (fun pre x => pre ++ [x] <+: blocksB s) (fun xs => xs = blocksB s) (fun pre => pre <+: blocksB s) (fun _ => False) w := by
  intro l J Jx W Pv hW hcap hJ hJx hY hj
  have H0 := (hW.cell (p := ⟨sb, 0, none⟩) (blt h0)).trans h0
  have HJ := Lib.hid hJ
  have HY := Lib.hid hY
  have HW := Lib.hid (fun W => whole_c s hs W)
  have HE := Lib.hid (fun W => ending_c s hs W)
  have hJ0 := Lib.hid hj
  have hwl : wholeN s.size ≤ s.size := wholeN_le _
  have hp0 : s.extract 0 (wholeN s.size) = pt s 0 := rfl
  have hp1 : ofL (endL (bL s)) = pt s 1 := rfl
  rw [hp1] at HE
  have hz0 := Lib.hid (pt_size s)
  clear hW hcap hJ hJx hY hj h0 hp1
  refine callsIn_of_wp Tryz.func95 rfl trivial ?_ rfl
  simp only [Tryz.ntmps95, List.size_toArray, List.length_cons, List.length_nil, Nat.reduceAdd, Nat.reduceSub, Array.replicate_succ, Array.replicate_zero, List.push_toArray, List.append_toArray, List.nil_append, List.cons_append]
  gi_wp2
  refine wpIn_region_held_drew_wide (S := (fun w' => w'.cell? ⟨sb, 0, none⟩ = some (.string s))) (by kernel_rfl) (by rintro ⟨_, _, ⟨⟨v, hv⟩, _⟩⟩; cases hv) ?_ (fun hHeld => ?_)
  · exact H0
  refine takeH (i := 0) (some 6) (v := ?_) rfl rfl (by kernel_rfl) (by kernel_rfl) (by kernel_rfl) (fun _ _ _ h => h) (Or.inl ⟨by rfl, ?hyM0⟩) hHeld ?restM0
  case hyM0 => (intro w hSw; (try dsimp only at hSw); go_simp; (try with_reducible rfl))
  try simp only [Act.put, List.setIfInBounds_toArray, List.set_cons_zero, List.set_cons_succ]
  refine takeH (i := 1) (some 7) (v := ?_) rfl rfl (by kernel_rfl) (by kernel_rfl) (by kernel_rfl) (fun _ _ _ h => h) (Or.inl ⟨by rfl, ?hyM1⟩) hHeld ?restM1
  case hyM1 => (intro w hSw; (try dsimp only at hSw); go_simp; (try with_reducible rfl))
  try simp only [Act.put, List.setIfInBounds_toArray, List.set_cons_zero, List.set_cons_succ]
  refine takeH (i := 4) (some 10) (v := ?_) rfl rfl (by kernel_rfl) (by kernel_rfl) (by kernel_rfl) (fun _ _ _ h => h) (Or.inl ⟨by rfl, ?hyM4⟩) hHeld ?restM4
  case hyM4 => (intro w hSw; (try dsimp only at hSw); go_simp; (try with_reducible rfl))
  try simp only [Act.put, List.setIfInBounds_toArray, List.set_cons_zero, List.set_cons_succ]
  refine takeH (i := 8) (some 14) (v := ?_) rfl rfl (by kernel_rfl) (by kernel_rfl) (by kernel_rfl) (fun _ _ _ h => h) (Or.inl ⟨by rfl, ?hyM8⟩) hHeld ?restM8
  case hyM8 => (intro w hSw; (try dsimp only at hSw); go_simp; (try with_reducible rfl))
  try simp only [Act.put, List.setIfInBounds_toArray, List.set_cons_zero, List.set_cons_succ]
  refine wpAnyH_ready (rs := [2]) (by kernel_rfl) (by simp) ?_
  refine AllReadyH.cons rfl (fun K hK => ?_) AllReadyH.nil
  go_simp
  with_reducible refine (HW.out _).mono ?_; rintro e w1 ⟨rfl, hb1⟩; have s1 := (hb1.cell (p := ⟨sb, 0, none⟩) (blt hHeld)).trans hHeld; clear hHeld
  refine hK.out _ _ ?_ (fun hHeld => ?_)
  · exact s1
  clear hK K
  try simp only [Act.put, List.setIfInBounds_toArray, List.set_cons_zero, List.set_cons_succ]
  refine takeH (i := 3) (some 9) (v := ?_) rfl rfl (by kernel_rfl) (by kernel_rfl) (by kernel_rfl) (fun _ _ _ h => h) (Or.inl ⟨by rfl, ?hyM3⟩) hHeld ?restM3
  case hyM3 => (intro w hSw; (try dsimp only at hSw); go_simp; (try with_reducible rfl))
  try simp only [Act.put, List.setIfInBounds_toArray, List.set_cons_zero, List.set_cons_succ]
  refine wpAnyH_ready (rs := [5]) (by kernel_rfl) (by simp) ?_
  refine AllReadyH.cons rfl (fun K hK => ?_) AllReadyH.nil
  go_simp
  with_reducible refine (HE.out _).mono ?_; rintro e w2 ⟨rfl, hb2⟩; have s2 := (hb2.cell (p := ⟨sb, 0, none⟩) (blt hHeld)).trans hHeld; clear hHeld
  refine hK.out _ _ ?_ (fun hHeld => ?_)
  · exact s2
  clear hK K
  try simp only [Act.put, List.setIfInBounds_toArray, List.set_cons_zero, List.set_cons_succ]
  refine wpAnyH_ready (rs := [6]) (by kernel_rfl) (by simp) ?_
  refine AllReadyH.cons rfl (fun K hK => ?_) AllReadyH.nil
  go_simp
  refine hK.out _ _ ?_ (fun hHeld => ?_)
  · exact keep_alloc _ s2
  clear hK K
  try simp only [Act.put, List.setIfInBounds_toArray, List.set_cons_zero, List.set_cons_succ]
  refine takeH (i := 7) (some 13) (v := ?_) rfl rfl (by kernel_rfl) (by kernel_rfl) (by kernel_rfl) (fun _ _ _ h => h) (Or.inl ⟨by rfl, ?hyM7⟩) hHeld ?restM7
  case hyM7 => (intro w hSw; (try dsimp only at hSw); go_simp; (try with_reducible rfl))
  try simp only [Act.put, List.setIfInBounds_toArray, List.set_cons_zero, List.set_cons_succ]
  refine wpAnyH_done (by kernel_rfl) ?_ _
  have HB := Lib.hid (bal (btr (btr (below_drew (Below.refl W.heap.size W)) hb1) hb2) (.cells #[.string (pt s 0), .string (pt s 1)] 9))
  have hj2 : J [] (fun i => Pv i ∨ i = w2.heap.size) (w2.alloc (.cells #[.string (pt s 0), .string (pt s 1)] 9)) := by
    refine HJ.out [] Pv _ _ _ hJ0.out (Goes.of_below HB.out) (fun i h => ?_)
    rcases h with h | rfl
    · exact .inl h
    · exact .inr ⟨(btr (btr (below_drew (Below.refl W.heap.size W)) hb1) hb2).size, by simp⟩
  have HJ2 := Lib.hid hj2
  have r0 : (w2.alloc (.cells #[.string (pt s 0), .string (pt s 1)] 9)).cell? ⟨w2.heap.size, 0, none⟩ = some (.string (pt s 0)) := by go_simp
  have r1 : (w2.alloc (.cells #[.string (pt s 0), .string (pt s 1)] 9)).cell? ⟨w2.heap.size, 1, none⟩ = some (.string (pt s 1)) := by go_simp
  have HP := Lib.hid (show (fun i => Pv i ∨ i = w2.heap.size) w2.heap.size from .inr rfl)
  generalize (fun i => Pv i ∨ i = w2.heap.size) = Pw at *
  generalize (w2.alloc (.cells #[.string (pt s 0), .string (pt s 1)] 9)) = V at *
  generalize w2.heap.size = B at *
  clear hj2 hJ0 H0 hb1 hb2 s1 s2 HB HW HE hHeld
  gi_wp2
  gi_loopw [14] (fun i wr => ∃ (k : Nat) (Pv : Nat → Prop), k ≤ 2 ∧ i = .int .i64 (k : Int) ∧ Hid (J (doneB s k) Pv wr) ∧ Hid (Pv B) ∧ wr.cell? ⟨B, 0, none⟩ = some (.string (pt s 0)) ∧ wr.cell? ⟨B, 1, none⟩ = some (.string (pt s 1))) (fun i _ => 2 - (intOf i).toNat)
  case atStart => exact ⟨0, Pw, by omega, rfl, HJ2, HP, r0, r1⟩
  case round =>
    clear HJ2 HP r0 r1
    obtain ⟨k, Pv, hk, rfl, hj, hp, q0, q1⟩ := hrel
    by_cases hlt : k < 2
    · have hlt' : (k : Int) < 2 := by omega
      have hck : wr.cell? ⟨B, k, none⟩ = some (.string (pt s k)) := by
        obtain rfl | rfl : k = 0 ∨ k = 1 := by omega
        · exact q0
        · exact q1
      obtain ⟨hm0, hm1⟩ := hz0.out k
      have HN := Lib.hid (fun m hm => next_pre s k m hlt hm)
      have HD := Lib.hid (show doneB s (k + 1) = doneB s k ++ (partB (pt s k)).take ((pt s k).size / 64) by rw [← partB_length, List.take_length]; rfl)
      have HT := Lib.hid (fun m (hm : m < (pt s k).size / 64) => partB_take (pt s k) m hm)
      have HX := Lib.hid (fun m (hm : m < (pt s k).size / 64) => blkAt_t (pt s k) m hm)
      generalize pt s k = p at *
      gi_wp2
      gi_loopw [5] (fun i wr => ∃ (m : Nat) (Pv : Nat → Prop), m ≤ p.size / 64 ∧ i = .int .i64 ((64 * m : Nat) : Int) ∧ Hid (J (doneB s k ++ (partB p).take m) Pv wr) ∧ Hid (Pv B) ∧ wr.cell? ⟨B, 0, none⟩ = some (.string (pt s 0)) ∧ wr.cell? ⟨B, 1, none⟩ = some (.string (pt s 1))) (fun i _ => p.size + 1 - (intOf i).toNat)
      case atStart => exact ⟨0, Pv, by omega, rfl, Lib.hid (by rw [List.take_zero, List.append_nil]; exact hj.out), hp, q0, q1⟩
      case round =>
        clear hj hp q0 q1 hck
        obtain ⟨m, Pv, hm, rfl, hj, hp, q0, q1⟩ := hrel
        by_cases hlm : m < p.size / 64
        · have hlm' : ((64 * m : Nat) : Int) < (p.size : Int) := by omega
          have hnx := HN.out m hlm
          have hx := HX.out m hlm
          obtain ⟨fn, tmps, assign, body, hy, hR⟩ := HY.out _ _ Pv wr hnx hj.out
          have hy' := hy
          unfold encB at hy'
          rw [hx] at hy'
          clear hy hx hnx
          have hmw : IntKind.i64.wrap (((64 * m : Nat) : Int) + 64) = ((64 * m : Nat) : Int) + 64 := IntWalk.i64_in _ (by omega)
          have HT2 := Lib.hid (HT.out m hlm)
          have HQ0 := Lib.hid q0
          have HQ1 := Lib.hid q1
          have HP := Lib.hid hp.out
          have hlm2 : 64 * (m : Int) < (p.size : Int) := by omega
          clear hj hp
          gi_wp2
          refine ⟨fun _ => (by omega), hR.mono ?_⟩
          clear hy' hR q0 q1
          rintro e V2 (⟨rfl, hJ2, hM⟩ | ⟨rfl, hX2, hM⟩)
          · have q0 := hM.cell HQ0.out HP.out
            have q1 := hM.cell HQ1.out HP.out
            have HJ2 := Lib.hid hJ2
            clear hJ2 hM HQ0 HQ1
            gi_wp2
            go_roundw
            case rel => exact ⟨m + 1, Pv, by omega, by go_num, by rw [HT2.out, ← List.append_assoc]; exact HJ2, HP, q0, q1⟩
            case measure => simp [intOf]; omega
          · have HX2 := Lib.hid hX2
            have HN2 := Lib.hid (HN.out m hlm)
            clear hX2 hM HQ0 HQ1
            gi_wp2
            refine bodyPost_ret (results_none rfl _ _ _) rfl ?_
            exact ⟨⟨_, rfl⟩, .inr ⟨_, _, HN2.out, HX2.out⟩⟩
        · have hlm' : ¬ ((64 * m : Nat) : Int) < (p.size : Int) := by omega
          obtain rfl : m = p.size / 64 := by omega
          gi_wp2
          go_roundw
          case rel => exact ⟨k + 1, Pv, by omega, by go_num, by rw [HD.out]; exact hj, hp, q0, q1⟩
          case measure => simp [intOf]; omega
    · have hlt' : ¬ (k : Int) < 2 := by omega
      obtain rfl : k = 2 := by omega
      gi_wp2
      go_end0
      exact ⟨⟨_, rfl⟩, .inl ⟨_, hj.out⟩⟩
end Go.Proofs.YtikpmkidfppknaaGreatDoor

/- join, text. -/
namespace Go.Proofs.YtikpmkidfppknaaGreatDoor
open Go.RowKit Go.Shelf
attribute [local go_sem] Oper.semAt_some

def Sta.get (s : Sta) : Nat → Wd
  | 0 => s.a | 1 => s.b | 2 => s.c | 3 => s.d | 4 => s.e | 5 => s.f | 6 => s.g | _ => s.h
def Sta.upd (s : Sta) (k : Nat) (x : Wd) : Sta :=
  match k with
  | 0 => { s with a := x } | 1 => { s with b := x } | 2 => { s with c := x } | 3 => { s with d := x } | 4 => { s with e := x } | 5 => { s with f := x } | 6 => { s with g := x } | _ => { s with h := x }
def staV (s : Sta) : Array Value := #[.int .u32 (s.a.toNat : Int), .int .u32 (s.b.toNat : Int), .int .u32 (s.c.toNat : Int), .int .u32 (s.d.toNat : Int), .int .u32 (s.e.toNat : Int), .int .u32 (s.f.toNat : Int), .int .u32 (s.g.toNat : Int), .int .u32 (s.h.toNat : Int)]
theorem lt8 {k : Nat} (h : k < 8) : k = 0 ∨ k = 1 ∨ k = 2 ∨ k = 3 ∨ k = 4 ∨ k = 5 ∨ k = 6 ∨ k = 7 := by omega
theorem StaAt.cell {b : Nat} {s : Sta} {W : World} (h : StaAt b s W) {k : Nat} (hk : k < 8) : W.cell? ⟨b, k, none⟩ = some (.int .u32 ((s.get k).toNat : Int)) := by
  obtain rfl | rfl | rfl | rfl | rfl | rfl | rfl | rfl := lt8 hk
  · exact h.c0
  · exact h.c1
  · exact h.c2
  · exact h.c3
  · exact h.c4
  · exact h.c5
  · exact h.c6
  · exact h.c7
theorem StaAt.frozen {b : Nat} {s : Sta} {W : World} (h : StaAt b s W) {k : Nat} (hk : k < 8) : W.frozen? ⟨b, k, none⟩ = false := by
  obtain rfl | rfl | rfl | rfl | rfl | rfl | rfl | rfl := lt8 hk
  · exact h.f0
  · exact h.f1
  · exact h.f2
  · exact h.f3
  · exact h.f4
  · exact h.f5
  · exact h.f6
  · exact h.f7
theorem staV_get (s : Sta) {k : Nat} (hk : k < 8) : (staV s)[k]? = some (.int .u32 ((s.get k).toNat : Int)) := by
  obtain rfl | rfl | rfl | rfl | rfl | rfl | rfl | rfl := lt8 hk <;> rfl
set_option maxHeartbeats 4000000 in
theorem StaAt.set {b : Nat} {s : Sta} {W : World} (h : StaAt b s W) {k : Nat} (hk : k < 8) (x : Wd) : StaAt b (s.upd k x) (W.setCell ⟨b, k, none⟩ (.int .u32 (x.toNat : Int))) := by
  obtain ⟨c0, c1, c2, c3, c4, c5, c6, c7, f0, f1, f2, f3, f4, f5, f6, f7⟩ := h
  obtain rfl | rfl | rfl | rfl | rfl | rfl | rfl | rfl := lt8 hk <;> (unfold Sta.upd; exact ⟨by go_simp, by go_simp, by go_simp, by go_simp, by go_simp, by go_simp, by go_simp, by go_simp, by go_simp, by go_simp, by go_simp, by go_simp, by go_simp, by go_simp, by go_simp, by go_simp⟩)
theorem index_sta (o : Sta) {k : Nat} (hk : k < 8) (W : World) : (Instr.index 98 (.agg (staV o)) (.int .i64 (k : Int))).run Tryz.prog W = .ok (.int .u32 ((o.get k).toNat : Int)) W := by
  obtain rfl | rfl | rfl | rfl | rfl | rfl | rfl | rfl := lt8 hk <;> kernel_rfl
def joinK (s o : Sta) : Nat → Sta
  | 0 => s
  | k + 1 => (joinK s o k).upd k ((joinK s o k).get k + o.get k)
theorem joinK_all (s o : Sta) : joinK s o 8 = joinS s o := rfl
set_option maxRecDepth 100000 in
set_option maxHeartbeats 8000000 in
theorem join_c (B : Nat) (s o : Sta) (w : World) (hS : StaAt B s w) : Calls Tryz.prog 85 #[.pointer (some ⟨B, 0, none⟩), .agg (staV o)] w fun r w' => (∃ v, r = .returned v) ∧ StaAt B (joinS s o) w' ∧ w.grownBy w' (some B) := by
  have HV := Lib.hid (fun (k : Nat) (hk : k < 8) W => index_sta o hk W)
  have hz : (staV o).size = 8 := rfl
  generalize staV o = V at *
  go_enter Tryz.func85, Tryz.ntmps85
  go_wp2_with (refine wpList_load_row rfl (.tmp 3) 98 rfl w.heap.size _ V (0, 0) (.array 8 96) rfl (World.alloc_heap_new w _) (by kernel_rfl) rfl (by rw [hz]; kernel_rfl) ?_)
  have hS2 := hS.on (below_alloc w (.cells V 98))
  have hG2 : w.grownBy (w.alloc (.cells V 98)) (some B) := gr_below (below_alloc w _)
  generalize w.alloc (.cells V 98) = w2 at *
  clear hS
  go_loopw [7] (fun i wr => ∃ k : Nat, k ≤ 8 ∧ i = .int .i64 (k : Int) ∧ StaAt B (joinK s o k) wr ∧ w.grownBy wr (some B)) (fun i _ => 8 - (intOf i).toNat)
  case atStart => exact ⟨0, by omega, rfl, hS2, hG2⟩
  case round =>
    obtain ⟨k, hk, rfl, hSk, hGk⟩ := hrel
    clear hS2 hG2
    by_cases hlt : k < 8
    · have hlt' : (k : Int) < 8 := by omega
      have hix := fun W => HV.out k hlt W
      have hck := hSk.cell hlt
      have hfk := hSk.frozen hlt
      have HS := Lib.hid (hSk.set hlt ((joinK s o k).get k + o.get k))
      have HG := Lib.hid hGk
      rw [show (joinK s o k).upd k ((joinK s o k).get k + o.get k) = joinK s o (k + 1) from rfl] at HS
      clear hSk hGk
      generalize (joinK s o k).get k = x at *
      generalize o.get k = y at *
      go_wp2_with fail
      refine wp_region_held_drew (S := (fun _ => True)) (by kernel_rfl) ?_ (fun hHeld => ?_)
      · exact trivial
      refine takeH (i := 0) (some 11) (v := ?_) rfl rfl (by kernel_rfl) (by kernel_rfl) (by kernel_rfl) (fun _ _ _ h => h) (Or.inl ⟨by rfl, ?hyJ0⟩) hHeld ?restJ0
      case hyJ0 => (intro w hSw; (try dsimp only at hSw); go_simp; (try with_reducible rfl))
      try simp only [Act.put, List.setIfInBounds_toArray, List.set_cons_zero, List.set_cons_succ]
      refine takeH (i := 1) (some 12) (v := ?_) rfl rfl (by kernel_rfl) (by kernel_rfl) (by kernel_rfl) (fun _ _ _ h => h) (Or.inl ⟨by rfl, ?hyJ1⟩) hHeld ?restJ1
      case hyJ1 => (intro w hSw; (try dsimp only at hSw); go_simp; (try with_reducible rfl))
      try simp only [Act.put, List.setIfInBounds_toArray, List.set_cons_zero, List.set_cons_succ]
      refine takeH (i := 2) (some 13) (v := ?_) rfl rfl (by kernel_rfl) (by kernel_rfl) (by kernel_rfl) (fun _ _ _ h => h) (Or.inl ⟨by rfl, ?hyJ2⟩) hHeld ?restJ2
      case hyJ2 => (intro w hSw; (try dsimp only at hSw); go_simp; (try with_reducible rfl))
      try simp only [Act.put, List.setIfInBounds_toArray, List.set_cons_zero, List.set_cons_succ]
      refine takeH (i := 3) (some 14) (v := ?_) rfl rfl (by kernel_rfl) (by kernel_rfl) (by kernel_rfl) (fun _ _ _ h => h) (Or.inl ⟨by rfl, ?hyJ3⟩) hHeld ?restJ3
      case hyJ3 => (intro w hSw; (try dsimp only at hSw); go_simp; (try with_reducible rfl))
      try simp only [Act.put, List.setIfInBounds_toArray, List.set_cons_zero, List.set_cons_succ]
      refine takeH (i := 5) (some 16) (v := ?_) rfl rfl (by kernel_rfl) (by kernel_rfl) (by kernel_rfl) (fun _ _ _ h => h) (Or.inl ⟨by rfl, ?hyJ5⟩) hHeld ?restJ5
      case hyJ5 => (intro w hSw; (try dsimp only at hSw); go_simp; (try with_reducible rfl))
      try simp only [Act.put, List.setIfInBounds_toArray, List.set_cons_zero, List.set_cons_succ]
      refine takeH (i := 7) (some 18) (v := ?_) rfl rfl (by kernel_rfl) (by kernel_rfl) (by kernel_rfl) (fun _ _ _ h => h) (Or.inl ⟨by rfl, ?hyJ7⟩) hHeld ?restJ7
      case hyJ7 => (intro w hSw; (try dsimp only at hSw); go_simp; (try with_reducible rfl))
      try simp only [Act.put, List.setIfInBounds_toArray, List.set_cons_zero, List.set_cons_succ]
      refine wpAnyH_ready (rs := [4]) (by kernel_rfl) (by simp) ?_
      refine AllReadyH.cons rfl (fun K hK => ?_) AllReadyH.nil
      go_simp
      refine hK.out _ _ ?_ (fun hHeld => ?_)
      · exact trivial
      clear hK K
      try simp only [Act.put, List.setIfInBounds_toArray, List.set_cons_zero, List.set_cons_succ]
      refine takeH (i := 6) (some 17) (v := ?_) rfl rfl (by kernel_rfl) (by kernel_rfl) (by kernel_rfl) (fun _ _ _ h => h) (Or.inl ⟨by rfl, ?hyJ6⟩) hHeld ?restJ6
      case hyJ6 => (intro w hSw; (try dsimp only at hSw); go_simp; (try with_reducible rfl))
      try simp only [Act.put, List.setIfInBounds_toArray, List.set_cons_zero, List.set_cons_succ]
      refine takeH (i := 8) (some 19) (v := ?_) rfl rfl (by kernel_rfl) (by kernel_rfl) (by kernel_rfl) (fun _ _ _ h => h) (Or.inl ⟨by rfl, ?hyJ8⟩) hHeld ?restJ8
      case hyJ8 => (intro w hSw; (try dsimp only at hSw); go_simp; (try with_reducible rfl))
      try simp only [Act.put, List.setIfInBounds_toArray, List.set_cons_zero, List.set_cons_succ]
      refine wpAnyH_ready (rs := [9]) (by kernel_rfl) (by simp) ?_
      refine AllReadyH.cons rfl (fun K hK => ?_) AllReadyH.nil
      go_simp
      refine hK.out _ _ ?_ (fun hHeld => ?_)
      · exact trivial
      clear hK K
      try simp only [Act.put, List.setIfInBounds_toArray, List.set_cons_zero, List.set_cons_succ]
      refine wpAnyH_done (by kernel_rfl) ?_ _
      rw [w_add]
      go_wp2
      go_roundw
      case rel => exact ⟨k + 1, by omega, by go_num, HS.out.drew, gr_drew (gr_set HG.out (.inl rfl) _)⟩
      case measure => simp [intOf]; omega
    · have hlt' : ¬ (k : Int) < 8 := by omega
      obtain rfl : k = 8 := by omega
      go_wp2
      go_end0
      exact ⟨⟨_, rfl⟩, hSk, hGk⟩
end Go.Proofs.YtikpmkidfppknaaGreatDoor

/- text. -/
namespace Go.Proofs.YtikpmkidfppknaaGreatDoor
open Go.RowKit Go.Shelf
attribute [local go_sem] Oper.semAt_some

theorem add_at (g j : Nat) : (⟨g, 0, none⟩ : Addr).add j = ⟨g, j, none⟩ := by unfold Addr.add; split <;> simp_all
theorem ownsRow_succ {w : World} {base : Nat} {e : TypeId} {size : Nat} {v : Value} {n : Nat} {xs : List Value} (h : w.ownsRow base e size v (n + 1) xs) : ∃ g c, v = .slice (some ⟨g, 0, none⟩) (n + 1) c := by
  rcases h.2 with ⟨_, h0⟩ | ⟨g, cap, cur, h1, _⟩
  · cases h0
  · exact ⟨g, cap, h1⟩
def textK (s : Sta) : Nat → List Nat
  | 0 => []
  | k + 1 => textK s k ++ wordBs (s.get k)
theorem textK_all (s : Sta) : textK s 8 = textS s := rfl
theorem textK_length (s : Sta) : ∀ k, (textK s k).length = 4 * k
  | 0 => rfl
  | k + 1 => by rw [textK, List.length_append, textK_length s k]; show 4 * k + 4 = _; omega
theorem wordBs_lt (x : Wd) : ∀ c ∈ wordBs x, c < 256 := by
  have h := x.isLt
  intro c hc
  simp only [wordBs, List.mem_cons, List.not_mem_nil, or_false] at hc
  rcases hc with rfl | rfl | rfl | rfl <;> omega
theorem textS_lt (s : Sta) : ∀ c ∈ textS s, c < 256 := by
  intro c hc
  simp only [textS, List.mem_append] at hc
  rcases hc with ((((((h | h) | h) | h) | h) | h) | h) | h <;> exact wordBs_lt _ c h
set_option maxRecDepth 100000 in
set_option maxHeartbeats 8000000 in
theorem text_c (B : Nat) (s : Sta) (w : World) (hS : StaAt B s w) : Calls Tryz.prog 66 #[.pointer (some ⟨B, 0, none⟩)] w fun r w' => r = .returned (.string (ofL (textS s))) ∧ Below w.heap.size w w' := by
  obtain ⟨Z, hZ⟩ : ∃ Z, Z = List.replicate 32 0 := ⟨_, rfl⟩
  have HM := fun W => make_by 0 32 (by omega) (by omega) W
  rw [show ((0 : Nat) : Int) = 0 from rfl, show ((32 : Nat) : Int) = 32 from rfl, ← hZ] at HM
  have hZl : (byVs Z).toArray.size = 32 * 1 := by rw [hZ]; simp [byVs]
  clear hZ
  obtain ⟨i0, hi, hz0, hz1, hz2⟩ := info_by
  have HS2 := Lib.hid hS.lt
  go_enter Tryz.func66, Tryz.ntmps66
  go_wp2
  have hO : (w.alloc (.cells (byVs Z).toArray 5)).ownsRow w.heap.size 5 1 (.slice (some ⟨w.heap.size, 0, none⟩) 0 32) 0 [] := World.ownsRow_made w _ 32 (Nat.le_refl _) (by unfold maxLen; omega) hZl
  have hS2 := hS.on (below_alloc w (.cells (byVs Z).toArray 5))
  have hb2 := below_alloc w (.cells (byVs Z).toArray 5)
  generalize w.alloc (.cells (byVs Z).toArray 5) = w2 at *
  clear hS HM hZl
  go_loopw [3, 8] (fun u i wr => ∃ k : Nat, k ≤ 8 ∧ i = .int .i64 (k : Int) ∧ wr.ownsRow w.heap.size 5 1 u (4 * k) (byVs (textK s k)) ∧ (∃ g c, u = .slice (some ⟨g, 0, none⟩) (4 * k) c) ∧ Below w.heap.size w wr ∧ StaAt B s wr) (fun _ i _ => 8 - (intOf i).toNat)
  case atStart => exact ⟨0, by omega, rfl, hO, ⟨_, _, rfl⟩, hb2, hS2⟩
  case round =>
    obtain ⟨k, hk, rfl, hOk, ⟨g, c, rfl⟩, hbk, hSk⟩ := hrel
    clear hO hb2 hS2
    by_cases hlt : k < 8
    · have hlt' : (k : Int) < 8 := by omega
      have hck := hSk.cell hlt
      have HB := Lib.hid hbk
      have HS := Lib.hid hSk
      have HO := Lib.hid hOk
      have HT := Lib.hid (show textK s (k + 1) = textK s k ++ wordBs (s.get k) from rfl)
      have hbs := hbk.size
      clear hbk hSk hOk
      generalize s.get k = x at *
      generalize textK s k = tk at *
      have HN := Lib.hid (show byVs tk ++ [.int .u8 ((x.toNat : Int) / 16777216), .int .u8 ((x.toNat : Int) / 65536 % 256), .int .u8 ((x.toNat : Int) / 256 % 256), .int .u8 ((x.toNat : Int) % 256)] = byVs (tk ++ wordBs x) by rw [byVs_append]; rfl)
      go_wp2_with (at_builtin; refine wpList_append_own _ rfl (.tmp 13) (.tmp 25) 103 rfl w.heap.size 5 i0 (.int .u8 0) 1 1 Tryz.underlying103 hi hz0 hz2 hz1 rfl (by decide) _ (4 * k) (byVs tk) rfl (HO.out.alloc _) ⟨wr.heap.size, 0, none⟩ 4 4 [.int .u8 ((x.toNat : Int) / 16777216), .int .u8 ((x.toNat : Int) / 65536 % 256), .int .u8 ((x.toNat : Int) / 256 % 256), .int .u8 ((x.toNat : Int) % 256)] rfl rfl (World.news_of_block (cs := #[.int .u8 ((x.toNat : Int) / 16777216), .int .u8 ((x.toNat : Int) / 65536 % 256), .int .u8 ((x.toNat : Int) / 256 % 256), .int .u8 ((x.toNat : Int) % 256)]) (t := 5) (fr := (0, 0)) (heap_alloc_new wr _)) (by simp [Value.oneCell']) (by unfold maxLen; omega) (by omega) (by simp; omega) ?_; intro v' w3 hown' hgrow _; obtain ⟨g', c', rfl⟩ := ownsRow_succ hown')
      rw [HN.out, ← HT.out] at hown'
      have hg3 : w.heap.size ≤ g := (HO.out.lt g rfl).1
      have HA := Lib.hid (below_alloc wr (.cells #[.int .u8 ((x.toNat : Int) / 16777216), .int .u8 ((x.toNat : Int) / 65536 % 256), .int .u8 ((x.toNat : Int) / 256 % 256), .int .u8 ((x.toNat : Int) % 256)] 5))
      have HB3 := Lib.hid ((btr HB.out HA.out).grown hgrow (by simp; omega) (fun j hj => by cases hj; exact hg3))
      have hBg : B ≠ g := by have := HS2.out; omega
      have HS3 := Lib.hid ((HS.out.on HA.out).grown hgrow (fun e => by cases e; exact hBg rfl))
      have HO3 := Lib.hid hown'
      clear hown' hgrow HA
      go_roundw
      case rel => exact ⟨k + 1, by omega, by go_num, HO3.out, ⟨_, _, rfl⟩, HB3.out, HS3.out⟩
      case measure => simp [intOf]; omega
    · have hlt' : ¬ (k : Int) < 8 := by omega
      obtain rfl : k = 8 := by omega
      have hlen : (textS s).length = 32 := textS_length s
      rw [textK_all] at hOk
      have hcv := conv_cells (textS s) (textS_lt s) g c wr (fun j n h => by
        have := hOk.cells (g := g) rfl j (.int .u8 (n : Int)) (by simp [byVs, h, byV])
        rwa [add_at] at this)
      rw [hlen] at hcv
      clear hOk hSk
      go_wp2
      go_ret
      exact ⟨rfl, hbk⟩
end Go.Proofs.YtikpmkidfppknaaGreatDoor
