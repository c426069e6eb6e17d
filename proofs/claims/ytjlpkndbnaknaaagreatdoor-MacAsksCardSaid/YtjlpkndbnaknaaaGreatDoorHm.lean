/- behind, mac. -/
import Derived.Test.YtjlpkndbnaknaaaGreatDoorNh
import Derived.Test.YtjlpkndbnaknaaaGreatDoorS
import Derived.Test.YtjlpkndbnaknaaaGreatDoorShelf
namespace Go.Proofs.YtjlpkndbnaknaaaGreatDoor
open Go.RowKit Go.Shelf
attribute [local go_sem] Oper.semAt_some

/-- Texts put together. -/
def catB (xs : List ByteArray) : ByteArray := ⟨(Lib.join (xs.map (·.data.toList)) []).toArray⟩
theorem catB_one (x : ByteArray) : catB [x] = x := by
  unfold catB Lib.join
  simp
theorem catB_two (x y : ByteArray) : catB [x, y] = x ++ y := by
  unfold catB Lib.join
  have h : (x ++ y).data = x.data ++ y.data := by simp
  show (⟨_⟩ : ByteArray) = ⟨(x ++ y).data⟩
  rw [h]
  simp [List.intercalate]
theorem ofL_bL_append (l : List Nat) (s : ByteArray) : ofL l ++ s = ofL (l ++ bL s) := by rw [ofL_append, ofL_bL]
theorem pad_lt (l : List Nat) (hl : ∀ c ∈ l, c < 256) (m : Nat) (hm : m < 256) : ∀ c ∈ l.map (· ^^^ m), c < 256 := by
  intro c hc
  obtain ⟨x, hx, rfl⟩ := List.mem_map.1 hc
  exact Nat.xor_lt_two_pow (n := 8) (hl x hx) hm
set_option maxRecDepth 100000 in
set_option maxHeartbeats 8000000 in
theorem behind_c (l : List Nat) (hl : l.length = 64) (hlt : ∀ c ∈ l, c < 256) (bk : Nat) (xs : List ByteArray) (w : World) (hT : Tabs w) (hcells : ∀ (j : Nat) x, xs[j]? = some x → w.cell? ⟨bk, j, none⟩ = some (.string x)) (hbk : bk < w.heap.size) (hN : xs.length ≤ 1000) (hs : (catB xs).size ≤ 90000) :
    Calls Tryz.prog 37 #[.func (.func 38) #[.agg (byVs l).toArray] #[], .slice (some ⟨bk, 0, none⟩) xs.length xs.length] w fun r w' => r = .returned (.string (ofL (sumL (l.map (· ^^^ 54) ++ bL (catB xs))))) ∧ Below w.heap.size w w' := by
  have HI := Lib.hid (fun W => inner_c l hl hlt W)
  have HC := Lib.hid hcells
  have HT := Lib.hid hT
  clear hT hcells
  have hpl := pad_lt l hlt 54 (by omega)
  have hps : (ofL (l.map (· ^^^ 54))).size = 64 := by rw [ofL_size, List.length_map, hl]
  have HA := Lib.hid (ofL_bL_append (l.map (· ^^^ 54)) (catB xs))
  have hbA : bL (ofL (l.map (· ^^^ 54) ++ bL (catB xs))) = l.map (· ^^^ 54) ++ bL (catB xs) := bL_ofL _ (fun c hc => by
    rcases List.mem_append.1 hc with h | h
    · exact hpl c h
    · exact bL_lt _ c h)
  have hsA : (ofL (l.map (· ^^^ 54) ++ bL (catB xs))).size ≤ 100000 := by rw [ofL_size, List.length_append, List.length_map, bL_length, hl]; omega
  have HS := Lib.hid (fun W (h : Tabs W) => Sum_c (ofL (l.map (· ^^^ 54) ++ bL (catB xs))) hsA W h)
  rw [hbA] at HS
  have HJ := Lib.hid (show ∀ W : World, (∀ (j : Nat) x, xs[j]? = some x → W.cell? ⟨bk, 0 + j, none⟩ = some (.string x)) → bk < W.heap.size → Calls Tryz.prog 57 #[.slice (some ⟨bk, 0, none⟩) xs.length xs.length, .string ⟨#[]⟩] W fun e w' => e = .returned (.string (catB xs)) ∧ Below W.heap.size W w' from fun W h1 h2 => Tryz.strings_Join bk 0 xs.length xs ⟨#[]⟩ W h1 h2 (by omega) (Nat.le_refl _) (by
    have e : (catB xs).size = (Lib.join (xs.map (·.data.toList)) (ByteArray.mk #[]).data.toList).length := rfl
    rw [← e]; omega))
  clear hbA hsA hpl
  generalize catB xs = C at *
  generalize l.map (· ^^^ 54) = P at *
  go_enter Tryz.func37, Tryz.ntmps37
  go_wp2_with fail
  refine (HI.out _).mono ?_
  rintro e w1 ⟨rfl, hb1⟩
  have HT1 := Lib.hid (HT.out.on hb1)
  have HB1 := Lib.hid hb1
  clear hb1
  go_wp2_with fail
  refine (HJ.out _ (fun j x h => by rw [Nat.zero_add]; exact (HB1.out.cell (p := ⟨bk, j, none⟩) hbk).trans (HC.out j x h)) (Nat.lt_of_lt_of_le hbk HB1.out.size)).mono ?_
  rintro e w2 ⟨rfl, hb2⟩
  have HT2 := Lib.hid (HT1.out.on hb2)
  have HB2 := Lib.hid (btr HB1.out hb2)
  have ha := HA.out
  clear hb2
  go_wp2_with fail
  try rw [ha]
  refine (HS.out _ HT2.out).mono ?_
  rintro e w3 ⟨rfl, hb3⟩
  go_wp2
  go_ret
  exact ⟨rfl, btr HB2.out hb3⟩
set_option maxRecDepth 100000 in
set_option maxHeartbeats 8000000 in
theorem mac_c (l : List Nat) (hl : l.length = 64) (hlt : ∀ c ∈ l, c < 256) (bk : Nat) (xs : List ByteArray) (w : World) (hT : Tabs w) (hcells : ∀ (j : Nat) x, xs[j]? = some x → w.cell? ⟨bk, j, none⟩ = some (.string x)) (hbk : bk < w.heap.size) (hN : xs.length ≤ 1000) (hs : (catB xs).size ≤ 90000) :
    Calls Tryz.prog 22 #[.agg (byVs l).toArray, .slice (some ⟨bk, 0, none⟩) xs.length xs.length] w fun r w' => r = .returned (.string (ofL (sumL (l.map (· ^^^ 92) ++ sumL (l.map (· ^^^ 54) ++ bL (catB xs)))))) ∧ Below w.heap.size w w' := by
  have HB := Lib.hid (fun W (h1 : Tabs W) h2 h3 => behind_c l hl hlt bk xs W h1 h2 h3 hN hs)
  have HO := Lib.hid (fun W => outer_c l hl hlt W)
  have HC := Lib.hid hcells
  have HT := Lib.hid hT
  have hz : (byVs l).toArray.size = 64 := by rw [List.size_toArray, byVs_length, hl]
  clear hT hcells
  have hpl := pad_lt l hlt 92 (by omega)
  have hps : (ofL (l.map (· ^^^ 92))).size = 64 := by rw [ofL_size, List.length_map, hl]
  have hIl : ∀ c ∈ sumL (l.map (· ^^^ 54) ++ bL (catB xs)), c < 256 := textS_lt _
  have hIn : (sumL (l.map (· ^^^ 54) ++ bL (catB xs))).length = 32 := textS_length _
  generalize sumL (l.map (· ^^^ 54) ++ bL (catB xs)) = I at *
  have HA := Lib.hid (ofL_append (l.map (· ^^^ 92)) I).symm
  have hbA : bL (ofL (l.map (· ^^^ 92) ++ I)) = l.map (· ^^^ 92) ++ I := bL_ofL _ (fun c hc => by
    rcases List.mem_append.1 hc with h | h
    · exact hpl c h
    · exact hIl c h)
  have hsA : (ofL (l.map (· ^^^ 92) ++ I)).size ≤ 100000 := by rw [ofL_size, List.length_append, List.length_map, hl]; omega
  have HS := Lib.hid (fun W (h : Tabs W) => Sum_c (ofL (l.map (· ^^^ 92) ++ I)) hsA W h)
  rw [hbA] at HS
  clear hbA hsA hpl hIl
  have hIs : (ofL I).size = 32 := by rw [ofL_size, hIn]
  generalize l.map (· ^^^ 92) = P at *
  go_enter Tryz.func22, Tryz.ntmps22
  have HT0 := Lib.hid (HT.out.on (below_alloc w (.cells (byVs l).toArray 42)))
  have HB0 := Lib.hid (below_alloc w (.cells (byVs l).toArray 42))
  go_wp2_with (first
    | refine wpList_load_row rfl (.tmp 7) 40 rfl w.heap.size 42 (byVs l).toArray (0, 0) (.array 64 5) rfl (World.alloc_heap_new w _) (by kernel_rfl) rfl (by rw [hz]; kernel_rfl) ?_
    | fail)
  refine (HB.out _ HT0.out (fun j x h => (HB0.out.cell (p := ⟨bk, j, none⟩) hbk).trans (HC.out j x h)) (Nat.lt_of_lt_of_le hbk HB0.out.size)).mono ?_
  rintro e w1 ⟨rfl, hb1⟩
  have HT1 := Lib.hid (HT0.out.on hb1)
  have HB1 := Lib.hid (btr HB0.out hb1)
  have hg1 : w1.heap[w.heap.size]? = some (.cells (byVs l).toArray 42 (0, 0)) := (hb1.block _ (by simp)).trans (World.alloc_heap_new w _)
  clear hb1
  go_wp2_with (first
    | refine wpList_load_row rfl (.tmp 13) 40 rfl w.heap.size 42 (byVs l).toArray (0, 0) (.array 64 5) rfl hg1 (by kernel_rfl) rfl (by rw [hz]; kernel_rfl) ?_
    | fail)
  refine (HO.out _).mono ?_
  rintro e w2 ⟨rfl, hb2⟩
  have HT2 := Lib.hid (HT1.out.on hb2)
  have HB2 := Lib.hid (btr HB1.out hb2)
  have ha := HA.out
  clear hb2 hg1
  go_wp2_with fail
  refine (HS.out _ HT2.out).mono ?_
  rintro e w3 ⟨rfl, hb3⟩
  go_wp2
  go_ret
  exact ⟨rfl, btr HB2.out hb3⟩
/-- The whole: a key's HMAC of texts. -/
theorem mac_key (key : List Nat) (h : key.length ≤ 64) (T : List Nat) : sumL ((blkL key).map (· ^^^ 92) ++ sumL ((blkL key).map (· ^^^ 54) ++ T)) = macL key T := by
  unfold macL
  rw [blkL_pad key h, blkL_pad key h]
end Go.Proofs.YtjlpkndbnaknaaaGreatDoor
