/- masked. -/
import Derived.Test.YtjlpkndbnaknaaaGreatDoorBo
import Derived.Test.YtjlpkndbnaknaaaGreatDoorHr
import Derived.Test.YtjlpkndbnaknaaaGreatDoorG
import Derived.Laws.BitsAllLaws
namespace Go.Proofs.YtjlpkndbnaknaaaGreatDoor
open Go.RowKit Go.Shelf
attribute [local go_sem] Oper.semAt_some

/-- Bytes in the cells of a block of any type. -/
structure BysIn (b : Nat) (l : List Nat) (W : World) : Prop where
  ex : ∃ t, W.heap[b]? = some (.cells (byVs l).toArray t (0, 0))
theorem BysIn.lt {b : Nat} {l : List Nat} {W : World} (h : BysIn b l W) : b < W.heap.size := by
  obtain ⟨t, h⟩ := h.ex
  exact (Array.getElem?_eq_some_iff.1 h).1
theorem BysIn.block {b : Nat} {l : List Nat} {W W' : World} (h : BysIn b l W) (k : W'.heap[b]? = W.heap[b]?) : BysIn b l W' := by
  obtain ⟨t, h⟩ := h.ex
  exact ⟨⟨t, k.trans h⟩⟩
theorem BysIn.on {b : Nat} {l : List Nat} {W W' : World} (h : BysIn b l W) (k : Below W.heap.size W W') : BysIn b l W' := h.block (k.block b h.lt)
theorem BysIn.drew {b : Nat} {l : List Nat} {W : World} (h : BysIn b l W) : BysIn b l W.drew := h.block rfl
theorem BysIn.cell {b : Nat} {l : List Nat} {W : World} (h : BysIn b l W) {j n : Nat} (hj : l[j]? = some n) : W.cell? ⟨b, j, none⟩ = some (.int .u8 (n : Int)) := by
  obtain ⟨t, h⟩ := h.ex
  rw [cell_of_row W b j _ _ _ h]
  simp [byVs, hj, byV]
theorem BysIn.frozen {b : Nat} {l : List Nat} {W : World} (h : BysIn b l W) (j : Nat) : W.frozen? ⟨b, j, none⟩ = false := by
  obtain ⟨t, h⟩ := h.ex
  simp [World.frozen?, h]
theorem BysIn.set {b : Nat} {l : List Nat} {W : World} (h : BysIn b l W) (j n : Nat) : BysIn b (l.set j n) (W.setCell ⟨b, j, none⟩ (.int .u8 (n : Int))) := by
  obtain ⟨t, h⟩ := h.ex
  refine ⟨⟨t, ?_⟩⟩
  rw [setCell_eq_setRow W b j _ _ _ _ h, setRow_heap W b _ _ _ _ h]
  congr 2
  simp [byVs, byV]
theorem BysIn.new (l : List Nat) (W : World) (t : TypeId) : BysIn W.heap.size l (W.alloc (.cells (byVs l).toArray t)) := ⟨⟨t, World.alloc_heap_new W _⟩⟩
/-- k bytes put together with m. -/
def mixN (l : List Nat) (m k : Nat) : List Nat := (l.take k).map (· ^^^ m) ++ l.drop k
theorem mixN_length (l : List Nat) (m k : Nat) : (mixN l m k).length = l.length := by
  rw [mixN, List.length_append, List.length_map, List.length_take, List.length_drop]; omega
theorem mixN_get (l : List Nat) (m k : Nat) (h : k < l.length) : (mixN l m k)[k]? = some (l[k]'h) := by
  rw [mixN, List.getElem?_append_right (by rw [List.length_map, List.length_take]; omega), List.length_map, List.length_take, List.getElem?_drop, List.getElem?_eq_getElem (by omega)]
  congr 2; omega
theorem mixN_set (l : List Nat) (m k : Nat) (h : k < l.length) : (mixN l m k).set k ((l[k]'h) ^^^ m) = mixN l m (k + 1) := by
  have hk : (l.take k).length = k := by rw [List.length_take]; omega
  have hk2 : ((l.take k).map (· ^^^ m)).length = k := by rw [List.length_map, hk]
  unfold mixN
  rw [List.set_append_right _ _ (by omega), hk2, Nat.sub_self, List.drop_eq_getElem_cons h, List.set_cons_zero, List.take_add_one, List.getElem?_eq_getElem h, Option.toList_some, List.map_append]
  simp
theorem mixN_all (l : List Nat) (m : Nat) : mixN l m l.length = l.map (· ^^^ m) := by
  rw [mixN, List.take_length, List.drop_length, List.append_nil]
/-- What holds between two rounds. -/
structure MkI (l : List Nat) (m : Nat) (w : World) (pre : List Byt) (Pv : Nat → Prop) (W : World) : Prop where
  c0 : BysIn w.heap.size (mixN l m pre.length) W
  c1 : W.cell? ⟨w.heap.size + 1, 0, none⟩ = some (.int .u8 (m : Int))
  le : pre.length ≤ 64
  below : Below w.heap.size w W
  pv : ∀ i, Pv i → w.heap.size + 1 < i
theorem MkI.steady (l : List Nat) (m : Nat) (w : World) : Steady (MkI l m w) := by
  rintro s Pv Pv' X Y ⟨h1, h2, h4, h5, h6⟩ hg hm
  have n0 : ¬ Pv w.heap.size := fun h => by have := h6 _ h; omega
  have n1 : ¬ Pv (w.heap.size + 1) := fun h => by have := h6 _ h; omega
  have z := blt h2
  refine ⟨h1.block (hg.same _ h1.lt n0), hg.cell h2 n1, h4, hg.below h5 (fun i h => by have := h6 i h; omega), fun i hi => ?_⟩
  rcases hm i hi with h | ⟨h, _⟩
  · exact h6 i h
  · omega
def MkX (_ : Code) (_ : List Byt) (_ : Nat → Prop) (_ : World) : Prop := False
theorem byt_of' (s : ByteArray) (pre : List Byt) (x : Byt) (h : pre ++ [x] <+: bytsB s) : pre.length < s.size ∧ x = bytAt s pre.length := by
  obtain ⟨r, hr⟩ := h
  have hl : (pre ++ [x] ++ r).length = s.size := by rw [hr, bytsB_length]
  simp at hl
  have hlt : pre.length < s.size := by omega
  refine ⟨hlt, ?_⟩
  have h1 : (pre ++ [x] ++ r)[pre.length]? = some x := by simp
  rw [hr, bytsB, List.getElem?_map, List.getElem?_range hlt] at h1
  exact (Option.some.inj h1).symm
set_option maxRecDepth 100000 in
set_option maxHeartbeats 8000000 in
theorem masked_c (l : List Nat) (hl : l.length = 64) (hlt : ∀ c ∈ l, c < 256) (m : Nat) (hm : m < 256) (w : World) : Calls Tryz.prog 58 #[.agg (byVs l).toArray, .int .u8 (m : Int)] w fun r w' => r = .returned (.string (ofL (l.map (· ^^^ m)))) ∧ Below w.heap.size w w' := by
  refine (callsIn_wide (n := 8)).1 ?_
  have HBl := Lib.hid (fun W => bytesOf_c (ofL l) W)
  refine callsIn_of_wp_marks Tryz.func58 rfl trivial ?_ rfl
  simp only [Tryz.ntmps58, List.size_toArray, List.length_cons, List.length_nil, Nat.reduceAdd, Nat.reduceSub, Array.replicate_succ, Array.replicate_zero, List.push_toArray, List.append_toArray, List.nil_append, List.cons_append]
  have hV0 : BysIn w.heap.size l (w.alloc (.cells (byVs l).toArray 40)) := BysIn.new l w _
  have hV1 : BysIn w.heap.size l ((w.alloc (.cells (byVs l).toArray 40)).alloc (.cells #[.int .u8 (m : Int)] 5)) := hV0.on (below_alloc _ _)
  have hcv := conv_cells l hlt w.heap.size 64 _ (fun j n h => hV1.cell h)
  rw [hl] at hcv
  have hB1 : Below w.heap.size w ((w.alloc (.cells (byVs l).toArray 40)).alloc (.cells #[.int .u8 (m : Int)] 5)) := bal (below_alloc w _) _
  have hM1 : ((w.alloc (.cells (byVs l).toArray 40)).alloc (.cells #[.int .u8 (m : Int)] 5)).cell? ⟨w.heap.size + 1, 0, none⟩ = some (.int .u8 (m : Int)) := by go_simp
  have hs1 : ((w.alloc (.cells (byVs l).toArray 40)).alloc (.cells #[.int .u8 (m : Int)] 5)).heap.size = w.heap.size + 2 := by simp
  have HV := Lib.hid (And.intro hV1 (And.intro hM1 (And.intro hs1 hB1)))
  clear hV0 hV1 hM1 hs1 hB1
  gi_wp2_with fail
  refine ⟨trivial, (callsIn_wide.2 (HBl.out _)).mono ?_⟩
  rintro e w' ⟨rfl, rfl⟩
  clear HBl hcv
  obtain ⟨hV1, hM1, hs1, hB1⟩ := HV.out
  clear HV
  have hst : (((w.alloc (.cells (byVs l).toArray 40)).alloc (.cells #[.int .u8 (m : Int)] 5)).alloc (.cells #[.string (ofL l)] 9)).cell? ⟨w.heap.size + 2, 0, none⟩ = some (.string (ofL l)) := by
    have := (Boxed.new ((w.alloc (.cells (byVs l).toArray 40)).alloc (.cells #[.int .u8 (m : Int)] 5)) 9 (.string (ofL l))).cell
    rw [hs1] at this
    exact this
  have hI : MkI l m w [] (fun i => i = w.heap.size + 2) (((w.alloc (.cells (byVs l).toArray 40)).alloc (.cells #[.int .u8 (m : Int)] 5)).alloc (.cells #[.string (ofL l)] 9)) :=
    ⟨by rw [show mixN l m ([] : List Byt).length = l by simp [mixN]]; exact hV1.on (below_alloc _ _), keep_alloc _ hM1, Nat.zero_le _, bal hB1 _, fun i h => by omega⟩
  simp only [hs1]
  clear hV1 hM1 hB1
  generalize (((w.alloc (.cells (byVs l).toArray 40)).alloc (.cells #[.int .u8 (m : Int)] 5)).alloc (.cells #[.string (ofL l)] 9)) = V at *
  have hsz : (ofL l).size = 64 := by rw [ofL_size, hl]
  have HBI := Lib.hid (bytes_it 7 (by omega) (ofL l) (by omega) (w.heap.size + 2) V hst)
  clear hs1
  gi_wp2_with fail
  try refine wpIn_label ?_
  gi_wp2_with fail
  refine wpIn_range_iters (n := 8) (encs := encY) (ps := #[10, 11]) rfl (by omega) (gf := 45) (lb := #[.pointer (some ⟨w.heap.size + 2, 0, none⟩)]) rfl trivial (enters_of Tryz.func45 (by kernel_rfl) rfl)
    HBI.out (Below.refl _ _) (fun _ => rfl) (fun i h => by rw [h]; exact blt hst) (MkI l m w) MkX (MkI.steady l m w) ?steadyx hI ?round ?done ?stop
  case steadyx => intro c s Pv Pv' X Y h; exact h.elim
  case round =>
    clear HBI hI
    rintro K pre x Pv W hc hI2 hPl hll ⟨rec, hrec⟩
    obtain ⟨hk, rfl⟩ := byt_of' (ofL l) pre x hc
    have hxb := bytAt_b (ofL l) pre.length hk
    have hk2 : pre.length < l.length := by rw [ofL_size] at hk; exact hk
    have hxl : ((ofL l)[pre.length]'hk).toNat = l[pre.length]'hk2 := by
      have := bL_get (ofL l) pre.length hk
      rw [bL_ofL l hlt, List.getElem?_eq_getElem hk2] at this
      exact (Option.some.inj this).symm
    rw [hxl] at hxb
    have hcl : l[pre.length]'hk2 < 256 := hlt _ (List.getElem_mem hk2)
    have hset := mixN_set l m pre.length hk2
    have hget := mixN_get l m pre.length hk2
    generalize l[pre.length]'hk2 = c at *
    simp only [encY, hxb, show (bytAt (ofL l) pre.length).i = pre.length from rfl]
    gi_wp2
    refine ⟨Mid.refl Pv W, fun W2 hG hr2 => ?_⟩
    have hI3 := MkI.steady l m w pre Pv Pv W W2 hI2 (hG.mono (fun i h => h ▸ hPl)) (More.same _ _ _)
    clear hI2 hG hr2 hrec
    obtain ⟨q0, q1, hle, hbw, hpv⟩ := hI3
    have ux := u8_xor_nat c m hcl hm
    have HS := Lib.hid (show MkI l m w (pre ++ [bytAt (ofL l) pre.length]) Pv (W2.setCell ⟨w.heap.size, pre.length, none⟩ (.int .u8 ((c ^^^ m : Nat) : Int))) from
      ⟨by rw [List.length_append, List.length_singleton, ← hset]; exact q0.set _ _, (set_other W2 _ (by omega)).trans q1, by rw [List.length_append, List.length_singleton]; omega, hbw.setCell (Nat.le_refl _) _, hpv⟩)
    have HM := Lib.hid (show Mid Pv W2 (W2.setCell ⟨w.heap.size, pre.length, none⟩ (.int .u8 ((c ^^^ m : Nat) : Int))) from (Mid.refl Pv W2).setCell _ (fun h => by have := hpv _ h; omega))
    have hc0 := q0.cell hget
    have hf0 := q0.frozen pre.length
    have hk3 : (pre.length : Int) < 64 := by omega
    have hk4 : pre.length < 64 := by omega
    clear hc hxb hxl hset hget hbw q0
    gi_wp2
    exact ⟨HS.out, HM.out⟩
  case done =>
    rintro D xs Pv W hlD hpD rfl ⟨q0, q1, hle, hbw, hpv⟩ hdef
    rw [bytsB_length, hsz, ← hl, mixN_all] at q0
    have hlt2 : ∀ c ∈ l.map (· ^^^ m), c < 256 := by
      intro c hc
      obtain ⟨x, hx, rfl⟩ := List.mem_map.1 hc
      exact Nat.xor_lt_two_pow (n := 8) (hlt x hx) hm
    have hcv := conv_cells _ hlt2 w.heap.size 64 W (fun j n h => q0.cell h)
    rw [List.length_map, hl] at hcv
    have HBW := Lib.hid hbw
    have HD := Lib.hid hdef
    clear hbw hdef
    gi_wp2
    refine ⟨by simp, .inl ⟨_, _, rfl, run_takeDeferred HD.out, ?_⟩⟩
    refine ⟨_, results_tmp rfl _ _ _, ?_, ?_⟩
    · rfl
    · exact HBW.out.grown (grownBy_putObj' W D _) HBW.out.size (fun j hj => by cases hj; have := blt hst; omega)
  case stop =>
    rintro D c pre Pv W hlD hpD hSp h hdef
    exact h.elim
end Go.Proofs.YtjlpkndbnaknaaaGreatDoor
