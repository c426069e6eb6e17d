/- Bytes in a row; texts as lists of natural numbers. -/
import Derived.Test.YtjlpkndbnaknaaaGreatDoorF
import Derived.Laws.Tables
import Derived.Lib.BufferWrite
import Derived.Deep.WholeRow
import Derived.Laws.MakeOwn
import Derived.Laws.CopyOwn
namespace Go.Proofs.YtjlpkndbnaknaaaGreatDoor
open Go.RowKit Go.Shelf

/-- A text's bytes as numbers, and back. -/
def bL (s : ByteArray) : List Nat := s.data.toList.map UInt8.toNat
def ofL (l : List Nat) : ByteArray := ⟨(l.map UInt8.ofNat).toArray⟩
theorem bL_length (s : ByteArray) : (bL s).length = s.size := by rw [bL, List.length_map]; rfl
theorem bL_lt (s : ByteArray) : ∀ c ∈ bL s, c < 256 := by
  intro c hc
  obtain ⟨x, _, rfl⟩ := List.mem_map.1 hc
  exact x.toNat_lt
theorem ofL_size (l : List Nat) : (ofL l).size = l.length := by
  show (l.map UInt8.ofNat).toArray.size = _
  rw [List.size_toArray, List.length_map]
theorem ofL_bL (s : ByteArray) : ofL (bL s) = s := by
  unfold ofL bL
  rw [List.map_map]
  have : (UInt8.ofNat ∘ UInt8.toNat) = id := by funext x; exact UInt8.ofNat_toNat
  rw [this, List.map_id]
theorem bL_ofL (l : List Nat) (h : ∀ c ∈ l, c < 256) : bL (ofL l) = l := by
  show (l.map UInt8.ofNat).map UInt8.toNat = l
  rw [List.map_map]
  conv => rhs; rw [← List.map_id l]
  refine List.map_congr_left fun c hc => ?_
  show (UInt8.ofNat c).toNat = c
  rw [UInt8.toNat_ofNat', Nat.mod_eq_of_lt (h c hc)]
theorem bL_append (s t : ByteArray) : bL (s ++ t) = bL s ++ bL t := by
  unfold bL
  rw [← List.map_append]
  congr 1
theorem ofL_append (l m : List Nat) : ofL (l ++ m) = ofL l ++ ofL m := by
  have h : (ofL l ++ ofL m).data = (ofL l).data ++ (ofL m).data := by simp
  show (⟨((l ++ m).map UInt8.ofNat).toArray⟩ : ByteArray) = ⟨(ofL l ++ ofL m).data⟩
  rw [h]
  simp [ofL]
theorem bL_inj {s t : ByteArray} (h : bL s = bL t) : s = t := by rw [← ofL_bL s, h, ofL_bL]
theorem bL_extract (s : ByteArray) (i j : Nat) : bL (s.extract i j) = ((bL s).take j).drop i := by
  unfold bL
  rw [← List.map_take, ← List.map_drop]
  congr 1
  rw [ByteArray.data_extract, Array.toList_extract, List.extract_eq_take_drop, List.drop_take]
theorem bL_get (s : ByteArray) (k : Nat) (h : k < s.size) : (bL s)[k]? = some (s[k]'h).toNat := by
  unfold bL
  rw [List.getElem?_map]
  have : s.data.toList[k]? = some (s[k]'h) := by
    rw [List.getElem?_eq_getElem (show k < s.data.toList.length from h)]; rfl
  rw [this]; rfl

def byV (n : Nat) : Value := .int .u8 (n : Int)
def byVs (l : List Nat) : List Value := l.map byV
theorem byVs_append (l m : List Nat) : byVs (l ++ m) = byVs l ++ byVs m := List.map_append
theorem byVs_length (l : List Nat) : (byVs l).length = l.length := List.length_map _
theorem byVs_one (l : List Nat) : ∀ u ∈ byVs l, u.oneCell' = true := by
  intro u hu
  obtain ⟨x, _, rfl⟩ := List.mem_map.1 hu
  rfl
/-- Bytes in a row of their own. -/
def BysAt (b : Nat) (l : List Nat) (W : World) : Prop := W.heap[b]? = some (.cells (byVs l).toArray 5 (0, 0))
theorem BysAt.lt {b : Nat} {l : List Nat} {W : World} (h : BysAt b l W) : b < W.heap.size := (Array.getElem?_eq_some_iff.1 h).1
theorem BysAt.on {b : Nat} {l : List Nat} {W W' : World} (h : BysAt b l W) (k : Below W.heap.size W W') : BysAt b l W' := (k.block b h.lt).trans h
theorem BysAt.cell {b : Nat} {l : List Nat} {W : World} (h : BysAt b l W) {j n : Nat} (hj : l[j]? = some n) : W.cell? ⟨b, j, none⟩ = some (.int .u8 (n : Int)) := by
  rw [cell_of_row W b j _ _ _ h]
  simp [byVs, hj, byV]
theorem BysAt.frozen {b : Nat} {l : List Nat} {W : World} (h : BysAt b l W) (j : Nat) : W.frozen? ⟨b, j, none⟩ = false := by
  have h' : W.heap[b]? = some (.cells (byVs l).toArray 5 (0, 0)) := h
  simp [World.frozen?, h']
theorem BysAt.set {b : Nat} {l : List Nat} {W : World} (h : BysAt b l W) (j n : Nat) : BysAt b (l.set j n) (W.setCell ⟨b, j, none⟩ (.int .u8 (n : Int))) := by
  unfold BysAt
  rw [setCell_eq_setRow W b j _ _ _ _ h, setRow_heap W b _ _ _ _ h]
  congr 2
  simp [byVs, byV]
theorem conv_cells (l : List Nat) (hl : ∀ c ∈ l, c < 256) (b c : Nat) (W : World) (h : ∀ (j n : Nat), l[j]? = some n → W.cell? ⟨b, j, none⟩ = some (.int .u8 (n : Int))) : (convert 53 9 (.slice (some ⟨b, 0, none⟩) l.length c)).run Tryz.prog W = .ok (.string (ofL l)) W := by
  have := run_convert_bytes_back (P := Tryz.prog) W 53 9 5 ⟨b, 0, none⟩ c (l.map UInt8.ofNat) (by kernel_rfl) (by kernel_rfl) (by kernel_rfl) (fun j hj => by
    have hj' : j < l.length := by simpa using hj
    have hadd : (⟨b, 0, none⟩ : Addr).add j = ⟨b, j, none⟩ := by unfold Addr.add; split <;> simp_all
    rw [hadd, h j l[j] (List.getElem?_eq_getElem hj')]
    have hc := hl l[j] (List.getElem_mem hj')
    simp [UInt8.toNat_ofNat', Nat.mod_eq_of_lt hc])
  rw [List.length_map] at this
  exact this
theorem made_by (n : Nat) : madeCells #[.int .u8 0] n = (byVs (List.replicate n 0)).toArray := by
  apply Array.ext_getElem?
  intro j
  by_cases h : j < n
  · simp [madeCells, h, Nat.mod_one, byVs, byV]
  · simp [madeCells, h, byVs]
theorem info_by : ∃ i, Tryz.prog.info? 5 = some i ∧ i.zero = some (.int .u8 0) ∧ i.bytes = 1 ∧ i.size = 1 := by
  have z : (Tryz.prog.info? 5).bind (·.zero) = some (.int .u8 0) := by kernel_rfl
  have b : (Tryz.prog.info? 5).map (·.bytes) = some 1 := by kernel_rfl
  have s : (Tryz.prog.info? 5).map (·.size) = some 1 := by kernel_rfl
  cases hi : Tryz.prog.info? 5 with
  | none => rw [hi] at z; cases z
  | some i => rw [hi] at z b s; exact ⟨i, rfl, z, Option.some.inj b, Option.some.inj s⟩
theorem make_by (l n : Nat) (hl : l ≤ n) (h : n ≤ 1000000) (W : World) : (Instr.makeSlice 53 (.int .i64 l) (.int .i64 n)).run Tryz.prog W = .ok (.slice (some ⟨W.heap.size, 0, none⟩) l n) (W.alloc (.cells (byVs (List.replicate n 0)).toArray 5)) := by
  obtain ⟨i, hi, hz, hb, hs⟩ := info_by
  have := run_make (P := Tryz.prog) W 53 5 i (.int .u8 0) (by kernel_rfl) hi hz .i64 .i64 (l : Int) (n : Int) (by omega) (by omega) (by rw [hb]; omega) (by omega)
  simp only [Int.toNat_natCast, hs, Nat.mul_one] at this
  rw [← made_by]
  exact this
theorem BysAt.new (l : List Nat) (W : World) : BysAt W.heap.size l (W.alloc (.cells (byVs l).toArray 5)) := World.alloc_heap_new W _
theorem byVs_bL (s : ByteArray) : byVs (bL s) = Lib.byteCells s.data.toList := by
  unfold byVs bL Lib.byteCells
  rw [List.map_map]
  rfl
theorem BysAt.row {b : Nat} {l : List Nat} {W : World} (h : BysAt b l W) (m : List Nat) : BysAt b m (W.setRow b (byVs m).toArray) := setRow_heap W b _ _ _ _ h
/-- copy, out of a text, to a row's beginning. -/
theorem wpList_copy_text {w : World} {ops : Array Oper} {rest : List Oper} {o : Oper} {a : Act} {Q : Exit → Act → World → Prop} (hgd : o.guard = none) (d s : Operand)
    (ho : o.op = .call { callee := .builtin .copy, args := #[d, s], argTypes := #[53, 9] })
    (b dLen dCap : Nat) (x : ByteArray) (hd : a.eval d = .slice (some ⟨b, 0, none⟩) dLen dCap) (hs : a.eval s = .string x) (l : List Nat) (hg : BysAt b l w) (hle : x.size ≤ dLen) (hfit : x.size ≤ l.length)
    (B : Nat) (w0 : World) (hb : Below B w0 w) (hBb : B ≤ b)
    (h : ∀ w', BysAt b (bL x ++ l.drop x.size) w' → Below B w0 w' → wpList Tryz.prog ops Q rest (a.put o.dst (goInt x.size)) w') : wpList Tryz.prog ops Q (o :: rest) a w := by
  refine wpList_plain hgd fun K hK => ?_
  have hrun := Lib.run_copy_row_string (P := Tryz.prog) w 53 9 o.type 5 b 0 dLen dCap x _ _ (by kernel_rfl) (by kernel_rfl) hg hle (by simpa [byVs] using hfit)
  have e : (List.take 0 (byVs l).toArray.toList ++ Lib.byteCells x.data.toList ++ List.drop (0 + x.size) (byVs l).toArray.toList).toArray = (byVs (bL x ++ l.drop x.size)).toArray := by
    rw [byVs_append, byVs_bL, Nat.zero_add]
    simp [byVs]
  rw [e] at hrun
  unfold Oper.wp
  simp [execOp, ho, resolve, invoke, builtin, hd, hs, hrun, Result.andThen]
  exact hK _ _ (h _ (hg.row _) (below_setRow hb hBb _))
end Go.Proofs.YtjlpkndbnaknaaaGreatDoor
