/- Hm, Mc, FrN, Ca, Cb, Pc, Ig, Cv -/
import Derived.Test.YtikpmkidfppknaaGreatDoorZ3
import Derived.Test.YtikpmkidfppknaaGreatDoorZ4
import Derived.Test.YtikpmkidfppknaaGreatDoorShelf
import Derived.Test.YtikpmkidfppknaaGreatDoorZ1
import Derived.Lib.ItoaLen
import Derived.Lib.ItoaMem
import Derived.Test.YtikpmkidfppknaaGreatDoorRows
import Derived.ChangeSame
import Derived.ChangeVars
import Derived.JoinedOf
import Derived.ProofKit
import Derived.OpenShut
import Derived.RowKitTokens
import Derived.LaidLaws
import Derived.LaidHandle
import Derived.Stop.Joined
import Derived.Lib.LaidTab
import Derived.Lib.LaidIn
import Derived.Test.YtikpmkidfppknaaGreatDoorZ0
import Derived.Maps.AppendAt
import Derived.Maps.Views
import Derived.Maps.OwnSet
import Derived.LoopIn
import Derived.LoopNIn
set_option linter.unusedVariables false
set_option linter.unusedSimpArgs false
/- behind, mac. -/
namespace Go.Proofs.YtikpmkidfppknaaGreatDoor
open Go.RowKit Go.Shelf
attribute [local go_sem] Oper.semAt_some

/-- Texts put together. -/
def catB (xs : List ByteArray) : ByteArray := ⟨(Lib.join (xs.map (·.data.toList)) []).toArray⟩
theorem catB_one (x : ByteArray) : catB [x] = x := by
  unfold catB Lib.join
  simp
theorem catB_two (x y : ByteArray) : catB [x, y] = x ++ y := by
  unfold catB Lib.join
  have h : (x ++ y).data = x.data ++ y.data := by simp
  show (⟨_⟩ : ByteArray) = ⟨(x ++ y).data⟩
  rw [h]
  simp [List.intercalate]
theorem ofL_bL_append (l : List Nat) (s : ByteArray) : ofL l ++ s = ofL (l ++ bL s) := by rw [ofL_append, ofL_bL]
theorem pad_lt (l : List Nat) (hl : ∀ c ∈ l, c < 256) (m : Nat) (hm : m < 256) : ∀ c ∈ l.map (· ^^^ m), c < 256 := by
  intro c hc
  obtain ⟨x, hx, rfl⟩ := List.mem_map.1 hc
  exact Nat.xor_lt_two_pow (n := 8) (hl x hx) hm
set_option maxRecDepth 100000 in
set_option maxHeartbeats 8000000 in
theorem behind_c (l : List Nat) (hl : l.length = 64) (hlt : ∀ c ∈ l, c < 256) (bk : Nat) (xs : List ByteArray) (w : World) (hT : Tabs w) (hcells : ∀ (j : Nat) x, xs[j]? = some x → w.cell? ⟨bk, j, none⟩ = some (.string x)) (hbk : bk < w.heap.size) (hN : xs.length ≤ 1000) (hs : (catB xs).size ≤ 90000) :
    Calls Tryz.prog 70 #[.func (.func 71) #[.agg (byVs l).toArray] #[], .slice (some ⟨bk, 0, none⟩) xs.length xs.length] w fun r w' => r = .returned (.string (ofL (sumL (l.map (· ^^^ 54) ++ bL (catB xs))))) ∧ Below w.heap.size w w' := by
  have HI := Lib.hid (fun W => inner_c l hl hlt W)
  have HC := Lib.hid hcells
  have HT := Lib.hid hT
  clear hT hcells
  have hpl := pad_lt l hlt 54 (by omega)
  have hps : (ofL (l.map (· ^^^ 54))).size = 64 := by rw [ofL_size, List.length_map, hl]
  have HA := Lib.hid (ofL_bL_append (l.map (· ^^^ 54)) (catB xs))
  have hbA : bL (ofL (l.map (· ^^^ 54) ++ bL (catB xs))) = l.map (· ^^^ 54) ++ bL (catB xs) := bL_ofL _ (fun c hc => by
    rcases List.mem_append.1 hc with h | h
    · exact hpl c h
    · exact bL_lt _ c h)
  have hsA : (ofL (l.map (· ^^^ 54) ++ bL (catB xs))).size ≤ 100000 := by rw [ofL_size, List.length_append, List.length_map, bL_length, hl]; omega
  have HS := Lib.hid (fun W (h : Tabs W) => Sum_c (ofL (l.map (· ^^^ 54) ++ bL (catB xs))) hsA W h)
  rw [hbA] at HS
  have HJ := Lib.hid (show ∀ W : World, (∀ (j : Nat) x, xs[j]? = some x → W.cell? ⟨bk, 0 + j, none⟩ = some (.string x)) → bk < W.heap.size → Calls Tryz.prog 87 #[.slice (some ⟨bk, 0, none⟩) xs.length xs.length, .string ⟨#[]⟩] W fun e w' => e = .returned (.string (catB xs)) ∧ Below W.heap.size W w' from fun W h1 h2 => Tryz.strings_Join bk 0 xs.length xs ⟨#[]⟩ W h1 h2 (by omega) (Nat.le_refl _) (by
    have e : (catB xs).size = (Lib.join (xs.map (·.data.toList)) (ByteArray.mk #[]).data.toList).length := rfl
    rw [← e]; omega))
  clear hbA hsA hpl
  generalize catB xs = C at *
  generalize l.map (· ^^^ 54) = P at *
  go_enter Tryz.func70, Tryz.ntmps70
  go_wp2_with fail
  refine (HI.out _).mono ?_
  rintro e w1 ⟨rfl, hb1⟩
  have HT1 := Lib.hid (HT.out.on hb1)
  have HB1 := Lib.hid hb1
  clear hb1
  go_wp2_with fail
  refine (HJ.out _ (fun j x h => by rw [Nat.zero_add]; exact (HB1.out.cell (p := ⟨bk, j, none⟩) hbk).trans (HC.out j x h)) (Nat.lt_of_lt_of_le hbk HB1.out.size)).mono ?_
  rintro e w2 ⟨rfl, hb2⟩
  have HT2 := Lib.hid (HT1.out.on hb2)
  have HB2 := Lib.hid (btr HB1.out hb2)
  have ha := HA.out
  clear hb2
  go_wp2_with fail
  try rw [ha]
  refine (HS.out _ HT2.out).mono ?_
  rintro e w3 ⟨rfl, hb3⟩
  go_wp2
  go_ret
  exact ⟨rfl, btr HB2.out hb3⟩
set_option maxRecDepth 100000 in
set_option maxHeartbeats 8000000 in
theorem mac_c (l : List Nat) (hl : l.length = 64) (hlt : ∀ c ∈ l, c < 256) (bk : Nat) (xs : List ByteArray) (w : World) (hT : Tabs w) (hcells : ∀ (j : Nat) x, xs[j]? = some x → w.cell? ⟨bk, j, none⟩ = some (.string x)) (hbk : bk < w.heap.size) (hN : xs.length ≤ 1000) (hs : (catB xs).size ≤ 90000) :
    Calls Tryz.prog 48 #[.agg (byVs l).toArray, .slice (some ⟨bk, 0, none⟩) xs.length xs.length] w fun r w' => r = .returned (.string (ofL (sumL (l.map (· ^^^ 92) ++ sumL (l.map (· ^^^ 54) ++ bL (catB xs)))))) ∧ Below w.heap.size w w' := by
  have HB := Lib.hid (fun W (h1 : Tabs W) h2 h3 => behind_c l hl hlt bk xs W h1 h2 h3 hN hs)
  have HO := Lib.hid (fun W => outer_c l hl hlt W)
  have HC := Lib.hid hcells
  have HT := Lib.hid hT
  have hz : (byVs l).toArray.size = 64 := by rw [List.size_toArray, byVs_length, hl]
  clear hT hcells
  have hpl := pad_lt l hlt 92 (by omega)
  have hps : (ofL (l.map (· ^^^ 92))).size = 64 := by rw [ofL_size, List.length_map, hl]
  have hIl : ∀ c ∈ sumL (l.map (· ^^^ 54) ++ bL (catB xs)), c < 256 := textS_lt _
  have hIn : (sumL (l.map (· ^^^ 54) ++ bL (catB xs))).length = 32 := textS_length _
  generalize sumL (l.map (· ^^^ 54) ++ bL (catB xs)) = I at *
  have HA := Lib.hid (ofL_append (l.map (· ^^^ 92)) I).symm
  have hbA : bL (ofL (l.map (· ^^^ 92) ++ I)) = l.map (· ^^^ 92) ++ I := bL_ofL _ (fun c hc => by
    rcases List.mem_append.1 hc with h | h
    · exact hpl c h
    · exact hIl c h)
  have hsA : (ofL (l.map (· ^^^ 92) ++ I)).size ≤ 100000 := by rw [ofL_size, List.length_append, List.length_map, hl]; omega
  have HS := Lib.hid (fun W (h : Tabs W) => Sum_c (ofL (l.map (· ^^^ 92) ++ I)) hsA W h)
  rw [hbA] at HS
  clear hbA hsA hpl hIl
  have hIs : (ofL I).size = 32 := by rw [ofL_size, hIn]
  generalize l.map (· ^^^ 92) = P at *
  go_enter Tryz.func48, Tryz.ntmps48
  have HT0 := Lib.hid (HT.out.on (below_alloc w (.cells (byVs l).toArray 72)))
  have HB0 := Lib.hid (below_alloc w (.cells (byVs l).toArray 72))
  go_wp2_with (first
    | refine wpList_load_row rfl (.tmp 7) 70 rfl w.heap.size 72 (byVs l).toArray (0, 0) (.array 64 5) rfl (World.alloc_heap_new w _) (by kernel_rfl) rfl (by rw [hz]; kernel_rfl) ?_
    | fail)
  refine (HB.out _ HT0.out (fun j x h => (HB0.out.cell (p := ⟨bk, j, none⟩) hbk).trans (HC.out j x h)) (Nat.lt_of_lt_of_le hbk HB0.out.size)).mono ?_
  rintro e w1 ⟨rfl, hb1⟩
  have HT1 := Lib.hid (HT0.out.on hb1)
  have HB1 := Lib.hid (btr HB0.out hb1)
  have hg1 : w1.heap[w.heap.size]? = some (.cells (byVs l).toArray 72 (0, 0)) := (hb1.block _ (by simp)).trans (World.alloc_heap_new w _)
  clear hb1
  go_wp2_with (first
    | refine wpList_load_row rfl (.tmp 13) 70 rfl w.heap.size 72 (byVs l).toArray (0, 0) (.array 64 5) rfl hg1 (by kernel_rfl) rfl (by rw [hz]; kernel_rfl) ?_
    | fail)
  refine (HO.out _).mono ?_
  rintro e w2 ⟨rfl, hb2⟩
  have HT2 := Lib.hid (HT1.out.on hb2)
  have HB2 := Lib.hid (btr HB1.out hb2)
  have ha := HA.out
  clear hb2 hg1
  go_wp2_with fail
  refine (HS.out _ HT2.out).mono ?_
  rintro e w3 ⟨rfl, hb3⟩
  go_wp2
  go_ret
  exact ⟨rfl, btr HB2.out hb3⟩
/-- The whole: a key's HMAC of texts. -/
theorem mac_key (key : List Nat) (h : key.length ≤ 64) (T : List Nat) : sumL ((blkL key).map (· ^^^ 92) ++ sumL ((blkL key).map (· ^^^ 54) ++ T)) = macL key T := by
  unfold macL
  rw [blkL_pad key h, blkL_pad key h]
end Go.Proofs.YtikpmkidfppknaaGreatDoor

/- Right, Answer. -/
namespace Go.Proofs.YtikpmkidfppknaaGreatDoor
open Go.RowKit Go.Shelf
attribute [local go_sem] Oper.semAt_some

def ErrT (W : World) : Prop := W.cell? ⟨0, 0, none⟩ = some (.iface 144 (.agg #[.pointer (some ⟨7, 47, none⟩)]))
def PowT (w : World) : Prop := Lib.TabIs Tryz.prog w "internal/strconv.uint64pow10" .u64 Lib.pow10Tab
theorem gTab : Tryz.prog.globalNamed "internal/strconv.uint64pow10" = some 3 := by kernel_rfl
theorem PowT.on {a w : World} (h : PowT a) (b : Below a.heap.size a w) : PowT w := by
  unfold PowT Lib.TabIs World.var? at h ⊢
  rw [gTab] at h ⊢
  simp only [Option.bind_some] at h ⊢
  have hl : 3 < a.heap.size := by
    rcases Nat.lt_or_ge 3 a.heap.size with e | e
    · exact e
    · have : a.heap[3]? = none := Array.getElem?_eq_none e
      rw [this] at h; cases h
  rw [b.block 3 hl]; exact h
/-- What the program's tables are. -/
structure Lay (W : World) : Prop where
  tabs : Tabs W
  et : ErrT W
  pw : PowT W
theorem Lay.on {W W' : World} (h : Lay W) (k : Below W.heap.size W W') : Lay W' := ⟨h.tabs.on k, (k.cell (p := ⟨0, 0, none⟩) (blt h.et)).trans h.et, h.pw.on k⟩
theorem below_grow (W : World) (k : Nat) (os : Array Obj) : Below W.heap.size W (Sort.grow (W.drewN k) os) :=
  ⟨rfl, rfl, rfl, by show W.heap.size ≤ (W.heap ++ os).size; rw [Array.size_append]; omega, fun i hi => by show (W.heap ++ os)[i]? = _; exact Array.getElem?_append_left hi⟩
theorem itoa_c (n : Int) (h0 : 0 ≤ n) (h1 : n ≤ 2147483647) (W : World) (hT : PowT W) : Calls Tryz.prog 44 #[.int .i64 n] W fun e w' => e = .returned (.string ⟨(Lib.itoa n).toArray⟩) ∧ Below W.heap.size W w' := by
  refine (Tryz.strconv_Itoa n (by omega) (by omega) W hT).mono ?_
  rintro e w' ⟨rfl, k, os, rfl⟩
  exact ⟨rfl, below_grow W k os⟩
theorem one_err (b : Bool) (c : Int) : firstE (fun _ => errV b c) 0 1 = errV b c := by cases b <;> rfl
theorem errV_or (b : Bool) (c : Int) : errV b c = .nilIface ∨ ∃ t v, errV b c = .iface t v := by
  cases b
  · exact .inr ⟨_, _, rfl⟩
  · exact .inl rfl
set_option maxRecDepth 100000 in
set_option maxHeartbeats 8000000 in
theorem Right_c (key : ByteArray) (w : World) : Calls Tryz.prog 54 #[.string key] w fun r w' => r = .returned (.bool (isKeyB key)) ∧ Below w.heap.size w w' := by
  have HK := Lib.hid (fun W => isKey_c key W)
  have HK1 := Lib.hid (fun b W h => isKey1_c key b W h)
  have HO := Lib.hid (fun W => of_c W 50 rfl)
  have HN := Lib.hid (fun W => is_nil 50 W)
  have HS := Lib.hid (fun W => is_same 50 W)
  go_enter Tryz.func54, Tryz.ntmps54
  go_wp2_with fail
  refine (HK.out _).mono ?_
  rintro e w1 ⟨rfl, rfl⟩
  go_wp2_with fail
  refine (HK1.out _ _ (by go_simp)).mono ?_
  rintro e w1 ⟨rfl, hb1⟩
  have HB1 := Lib.hid (btr (below_alloc w _) hb1)
  clear hb1
  go_wp2_with fail
  refine (HO.out _).mono ?_
  rintro e w1 ⟨rfl, rfl⟩
  cases hb : isKeyB key
  · rw [show errV false 50 = .iface 82 (.agg #[.int .i64 50]) from rfl]
    go_wp2_with fail
    refine (HS.out _).mono ?_
    rintro e w1 ⟨rfl, rfl⟩
    go_wp2
    go_ret
    exact ⟨by rw [hb]; rfl, HB1.out⟩
  · rw [show errV true 50 = .nilIface from rfl]
    go_wp2_with fail
    refine (HN.out _).mono ?_
    rintro e w1 ⟨rfl, rfl⟩
    go_wp2
    go_ret
    exact ⟨by rw [hb]; rfl, HB1.out⟩
theorem two_err (b b' : Bool) (c c' : Int) : firstE (fun i => if i = 0 then errV b c else errV b' c') 0 2 = if b = true then errV b' c' else errV b c := by cases b <;> cases b' <;> rfl
/-- What Answer answers. -/
def ansV (key ch name : ByteArray) : Value := .tuple (if isKeyB key = true then (if isChB ch = true then #[.string (ofL (macL (bL key) (bL (ch ++ name)))), .int .i64 0] else #[.string ⟨#[]⟩, .int .i64 2]) else #[.string ⟨#[]⟩, .int .i64 50])
set_option maxRecDepth 100000 in
set_option maxHeartbeats 8000000 in
theorem Answer_c (key ch name : ByteArray) (hs : ch.size ≤ 1000) (hn : name.size ≤ 1000) (w : World) (hL : Lay w) : Calls Tryz.prog 20 #[.string key, .string ch, .string name] w fun r w' => r = .returned (ansV key ch name) ∧ Below w.heap.size w w' := by
  have HK := Lib.hid (fun W => isKey_c key W)
  have HK1 := Lib.hid (fun b W h => isKey1_c key b W h)
  have HC := Lib.hid (fun W => isChallenge_c ch W)
  have HC1 := Lib.hid (fun b W h => isChallenge1_c ch b W h)
  have HN := Lib.hid (fun c W h => no_c W c h)
  have HL := Lib.hid hL
  clear hL
  go_enter Tryz.func20, Tryz.ntmps20
  go_wp2_with fail
  refine (HK.out _).mono ?_
  rintro e w1 ⟨rfl, rfl⟩
  go_wp2_with fail
  refine (HC.out _).mono ?_
  rintro e w1 ⟨rfl, rfl⟩
  go_wp2_with fail
  have hW : ∃ W3, W3 = (((w.alloc (.cells #[.string key] 9)).alloc (.cells #[.string ch] 9)).alloc (.cells #[.func (.func 68) #[] #[.pointer (some ⟨w.heap.size, 0, none⟩)], .func (.func 69) #[] #[.pointer (some ⟨w.heap.size + 1, 0, none⟩)]] 49)) ∧ W3.cell? ⟨w.heap.size, 0, none⟩ = some (.string key) ∧ W3.cell? ⟨w.heap.size + 1, 0, none⟩ = some (.string ch) ∧ W3.cell? ⟨w.heap.size + 1 + 1, 0, none⟩ = some (.func (.func 68) #[] #[.pointer (some ⟨w.heap.size, 0, none⟩)]) ∧ W3.cell? ⟨w.heap.size + 1 + 1, 1, none⟩ = some (.func (.func 69) #[] #[.pointer (some ⟨w.heap.size + 1, 0, none⟩)]) ∧ Below w.heap.size w W3 :=
    ⟨_, rfl, by go_simp, by go_simp, by go_simp, by go_simp, bal (bal (below_alloc _ _) _) _⟩
  obtain ⟨W3, hW3, hc0, hc1, hf0, hf1, hB3⟩ := hW
  rw [← hW3]
  clear hW3
  refine (faultFirst_c 2 (by omega) (w.heap.size + 1 + 1) (fun i => if i = 0 then 68 else 69) (fun _ => #[]) (fun i => if i = 0 then #[.pointer (some ⟨w.heap.size, 0, none⟩)] else #[.pointer (some ⟨w.heap.size + 1, 0, none⟩)]) (fun i => if i = 0 then errV (isKeyB key) 50 else errV (isChB ch) 2) _ ?hc ?HC ?eg ?her).mono ?_
  case hc =>
    intro i hi
    obtain rfl | rfl : i = 0 ∨ i = 1 := by omega
    · exact hf0
    · exact hf1
  case HC =>
    intro i hi _ W hW
    obtain rfl | rfl : i = 0 ∨ i = 1 := by omega
    · exact HK1.out _ W ((hW.cell (p := ⟨w.heap.size, 0, none⟩) (blt hc0)).trans hc0)
    · exact HC1.out _ W ((hW.cell (p := ⟨w.heap.size + 1, 0, none⟩) (blt hc1)).trans hc1)
  case eg =>
    intro i hi args W
    obtain rfl | rfl : i = 0 ∨ i = 1 := by omega
    · exact enters_of Tryz.func68 (by kernel_rfl) rfl args W
    · exact enters_of Tryz.func69 (by kernel_rfl) rfl args W
  case her =>
    intro i hi
    obtain rfl | rfl : i = 0 ∨ i = 1 := by omega
    · exact errV_or _ _
    · exact errV_or _ _
  rintro e w2 ⟨rfl, hb2⟩
  rw [two_err]
  have HB2 := Lib.hid (btr hB3 hb2)
  have HL2 := Lib.hid (HL.out.on HB2.out)
  clear hb2 hB3 hc0 hc1 hf0 hf1
  cases hb : isKeyB key
  · rw [if_neg (by decide), show errV false 50 = .iface 82 (.agg #[.int .i64 50]) from rfl]
    go_wp2_with fail
    refine (HN.out _ _ HL2.out.et).mono ?_
    rintro e w3 ⟨rfl, hb3⟩
    go_wp2
    go_ret2
    exact ⟨by unfold ansV; rw [hb]; rfl, btr HB2.out hb3⟩
  · rw [if_pos rfl]
    cases hb' : isChB ch
    · rw [show errV false 2 = .iface 82 (.agg #[.int .i64 2]) from rfl]
      go_wp2_with fail
      refine (HN.out _ _ HL2.out.et).mono ?_
      rintro e w3 ⟨rfl, hb3⟩
      go_wp2
      go_ret2
      exact ⟨by unfold ansV; rw [hb, hb']; rfl, btr HB2.out hb3⟩
    · rw [show errV true 2 = .nilIface from rfl]
      have hk64 : key.size ≤ 64 := (of_decide_eq_true hb).2
      have HH := Lib.hid (fun W => newHasher_c key hk64 W)
      have hl64 : (blkL (bL key)).length = 64 := blkL_length _ (by rw [bL_length]; exact hk64)
      have HM := Lib.hid (fun bk W h1 h2 h3 => mac_c (blkL (bL key)) hl64 (blkL_lt _ (bL_lt key)) bk [ch, name] W h1 h2 h3 (by simp) (by rw [catB_two, ByteArray.size_append]; omega))
      rw [catB_two, mac_key (bL key) (by rw [bL_length]; exact hk64)] at HM
      have HQ := Lib.hid (show ansV key ch name = .tuple #[.string (ofL (macL (bL key) (bL (ch ++ name)))), .int .i64 0] by unfold ansV; rw [hb, hb']; rfl)
      clear hl64
      generalize blkL (bL key) = B at *
      go_wp2_with fail
      refine (HH.out _).mono ?_
      rintro e w3 ⟨rfl, hb3⟩
      have HB3 := Lib.hid (btr HB2.out hb3)
      have HL3 := Lib.hid (HL2.out.on hb3)
      clear hb3
      go_wp2_with fail
      have HB4 := Lib.hid (bal HB3.out (.cells #[.string ch, .string name] 9))
      have HL4 := Lib.hid (HL3.out.on (below_alloc w3 (.cells #[.string ch, .string name] 9)))
      refine (HM.out _ _ HL4.out.tabs (fun j x h => ?_) (by simp)).mono ?_
      · match j, h with
        | 0, h => cases h; go_simp
        | 1, h => cases h; go_simp
        | j + 2, h => simp at h
      rintro e w5 ⟨rfl, hb5⟩
      go_wp2
      go_ret2
      exact ⟨by rw [HQ.out]; rfl, btr HB4.out hb5⟩
end Go.Proofs.YtikpmkidfppknaaGreatDoor

/- What every row of this seat shares: the listed tables, a world that meets the condition. -/
namespace Go.Proofs.YtikpmkidfppknaaGreatDoor
open Go.ChangeShapes Go.WideShapes Go.ChangeAt Go.RowKit

theorem own : ownKnob Tryz.prog.godebug = none := by kernel_rfl
theorem laidOut : laidOutB Tryz.prog = true := by kernel_rfl
abbrev layD : List (String × DataW Unit) := [("math/bits.deBruijn32tab", Rows.laid_math_bits_deBruijn32tab), ("math/bits.deBruijn64tab", Rows.laid_math_bits_deBruijn64tab), ("internal/strconv.uint64pow10", Rows.laid_internal_strconv_uint64pow10), ("wicketgate/sha.beginning", Rows.laid_wicketgate_sha_beginning), ("wicketgate/sha.roots", Rows.laid_wicketgate_sha_roots)]
abbrev layH : List (String × DataW Unit) := [("errors.errorType", Rows.laid_errors_errorType)]
abbrev layA : List (String × DataW Unit) := [("math/bits.deBruijn32tab", Rows.laid_math_bits_deBruijn32tab), ("math/bits.deBruijn64tab", Rows.laid_math_bits_deBruijn64tab), ("internal/strconv.uint64pow10", Rows.laid_internal_strconv_uint64pow10), ("errors.errorType", Rows.laid_errors_errorType), ("wicketgate/sha.beginning", Rows.laid_wicketgate_sha_beginning), ("wicketgate/sha.roots", Rows.laid_wicketgate_sha_roots)]
def tab32 : List Int := [0, 1, 28, 2, 29, 14, 24, 3, 30, 22, 20, 15, 25, 17, 4, 8, 31, 27, 13, 23, 21, 19, 16, 7, 26, 12, 18, 6, 11, 5, 10, 9]
def tab64 : List Int := [0, 1, 56, 2, 57, 49, 28, 3, 61, 58, 42, 50, 38, 29, 17, 4, 62, 47, 59, 36, 45, 43, 51, 22, 53, 39, 33, 30, 24, 18, 12, 5, 63, 55, 48, 27, 60, 41, 37, 16, 46, 35, 44, 21, 52, 32, 23, 11, 54, 26, 40, 15, 34, 20, 31, 10, 25, 14, 19, 9, 13, 8, 7, 6]
def begI : List Int := [1779033703, 3144134277, 1013904242, 2773480762, 1359893119, 2600822924, 528734635, 1541459225]
def rootsI : List Int := rootsL.map fun x => (x.toNat : Int)
theorem rootsI_at (j : Nat) (x : Wd) (h : rootsL[j]? = some x) : j < rootsI.length ∧ rootsI.getD j 0 = (x.toNat : Int) := by
  obtain ⟨hl, hx⟩ := List.getElem?_eq_some_iff.1 h
  refine ⟨by rw [rootsI, List.length_map]; exact hl, ?_⟩
  rw [List.getD_eq_getElem?_getD, rootsI, List.getElem?_map, h]
  rfl
theorem gT2 : Tryz.prog.globalNamed "internal/strconv.uint64pow10" = some 3 := by kernel_rfl
theorem yT2 : (Tryz.prog.globals[3]?).map (·.type) = some 179 := by kernel_rfl
theorem is2 : (Rows.laid_internal_strconv_uint64pow10 : DataW Unit) = Lib.tabData .u64 Lib.pow10Tab := by rfl
theorem gT3 : Tryz.prog.globalNamed "wicketgate/sha.beginning" = some 1 := by kernel_rfl
theorem yT3 : (Tryz.prog.globals[1]?).map (·.type) = some 98 := by kernel_rfl
theorem is3 : (Rows.laid_wicketgate_sha_beginning : DataW Unit) = Lib.tabData .u32 begI := by rfl
theorem gT4 : Tryz.prog.globalNamed "wicketgate/sha.roots" = some 2 := by kernel_rfl
theorem yT4 : (Tryz.prog.globals[2]?).map (·.type) = some 130 := by kernel_rfl
theorem is4 : (Rows.laid_wicketgate_sha_roots : DataW Unit) = Lib.tabData .u32 rootsI := by rfl
theorem laidMet_drop {P : Program} {x : String × DataW Unit} {l : List (String × DataW Unit)} {w : World} (h : laidMet P (x :: l) w) : laidMet P l w := by
  obtain ⟨n, d⟩ := x
  obtain ⟨ps, ⟨g, t, cs, fuel, p, q, _, _, _, _, hq, rfl⟩, h2, h3⟩ := h
  exact ⟨q, hq, (List.nodup_append.1 h2).2.1, fun b off hm => h3 b off (List.mem_append_right _ hm)⟩
theorem et0 : Tryz.prog.globalNamed "errors.errorType" = some 0 := by kernel_rfl
theorem rt0 : (Tryz.prog.cutTypes.find? (·.1 == "internal/reflectlite.rtype")).map (·.2) = some 144 := by kernel_rfl
theorem size0 : Tryz.prog.types.size = 216 := by kernel_rfl
theorem oneRow : ((List.range 216).filter fun t => Tryz.prog.rowNamed t [101, 114, 114, 111, 114]) = [47] := by kernel_rfl
theorem err_of {W : World} (h : handlesMet Tryz.prog layH W) : ErrT W := by
  obtain ⟨name, u, ty, e1, e2, e3, e4, e5⟩ := h _ (List.mem_singleton.2 rfl)
  have en : name = [101, 114, 114, 111, 114] := (Option.some.inj e1).symm
  subst en
  obtain rfl := Option.some.inj (rt0.symm.trans e2)
  have hm : ty ∈ (List.range 216).filter fun t => Tryz.prog.rowNamed t [101, 114, 114, 111, 114] := List.mem_filter.2 ⟨List.mem_range.2 (by rw [← size0]; exact e3), e4⟩
  rw [oneRow] at hm
  obtain rfl := List.mem_singleton.1 hm
  have hh : typeHandle Tryz.prog 47 = .pointer (some ⟨7, 47, none⟩) := by kernel_rfl
  rw [hh] at e5
  unfold ErrT
  simpa using World.var?_cell et0 e5 0
theorem laid_of {W : World} (h : laidMetH Tryz.prog layA W) : Lay W := by
  have h' : laidMet Tryz.prog layD W ∧ handlesMet Tryz.prog layH W := h
  have et := err_of h'.2
  have d2 : laidMet Tryz.prog (("internal/strconv.uint64pow10", Lib.tabData .u64 Lib.pow10Tab) :: [("wicketgate/sha.beginning", Rows.laid_wicketgate_sha_beginning), ("wicketgate/sha.roots", Rows.laid_wicketgate_sha_roots)]) W := by
    have := (laidMet_drop (laidMet_drop h'.1))
    rw [← is2]
    exact this
  have t2 := Lib.tabIs_of_head (n := 20) (e := 161) gT2 yT2 (by kernel_rfl) (by kernel_rfl) (by kernel_rfl) (by kernel_rfl) d2
  have d3 : laidMet Tryz.prog (("wicketgate/sha.beginning", Lib.tabData .u32 begI) :: [("wicketgate/sha.roots", Rows.laid_wicketgate_sha_roots)]) W := by
    have := (laidMet_drop (laidMet_drop (laidMet_drop h'.1)))
    rw [← is3]
    exact this
  have t3 := Lib.tabIs_of_head (n := 8) (e := 96) gT3 yT3 (by kernel_rfl) (by kernel_rfl) (by kernel_rfl) (by kernel_rfl) d3
  have d4 : laidMet Tryz.prog (("wicketgate/sha.roots", Lib.tabData .u32 rootsI) :: []) W := by
    have := (laidMet_drop (laidMet_drop (laidMet_drop (laidMet_drop h'.1))))
    rw [← is4]
    exact this
  have t4 := Lib.tabIs_of_head (n := 64) (e := 96) gT4 yT4 (by kernel_rfl) (by kernel_rfl) (by kernel_rfl) (by kernel_rfl) d4
  have tb : Tabs W := ⟨t3.cell gT3 0 (by decide), t3.cell gT3 1 (by decide), t3.cell gT3 2 (by decide), t3.cell gT3 3 (by decide), t3.cell gT3 4 (by decide), t3.cell gT3 5 (by decide), t3.cell gT3 6 (by decide), t3.cell gT3 7 (by decide), fun j x hx => by
    obtain ⟨a, b⟩ := rootsI_at j x hx
    have := t4.cell gT4 j a
    rwa [b] at this⟩
  exact ⟨tb, et, t2⟩
/-- A world that meets the condition: the settled one, the tables laid. -/
noncomputable def laidWorld (os : Os) : World :=
  let w0 := World.holding Tryz.prog os ⟨#[], #[], []⟩
  { w0 with heap := ((((((w0.heap.modify 4 fun
      | .cells _ t frozen => .cells (tab32.map fun z => Value.int .u8 z).toArray t frozen
      | o => o).modify 5 fun
      | .cells _ t frozen => .cells (tab64.map fun z => Value.int .u8 z).toArray t frozen
      | o => o).modify 3 fun
      | .cells _ t frozen => .cells (Lib.pow10Tab.map fun z => Value.int .u64 z).toArray t frozen
      | o => o).modify 1 fun
      | .cells _ t frozen => .cells (begI.map fun z => Value.int .u32 z).toArray t frozen
      | o => o).modify 2 fun
      | .cells _ t frozen => .cells (rootsI.map fun z => Value.int .u32 z).toArray t frozen
      | o => o).modify 0 fun
      | .cells _ t frozen => .cells #[.iface 144 (.agg #[.pointer (some ⟨7, 47, none⟩)])] t frozen
      | o => o) }
theorem laid_met (os : Os) (args : Array Value) : laidMet Tryz.prog layD ((laidWorld os).forCall (fun _ _ => 0) ⟨#[], args, []⟩).memory :=
  (LaidIn.of_run [4, 5, 3, 1, 2] 8 (by kernel_rfl) (by kernel_rfl) (by kernel_rfl) (by kernel_rfl)).met
theorem laidWorld_met (os : Os) (args : Array Value) : laidMetH Tryz.prog layA ((laidWorld os).forCall (fun _ _ => 0) ⟨#[], args, []⟩).memory :=
  laidMetH_of_parts (laid_met os args) (by kernel_rfl)
end Go.Proofs.YtikpmkidfppknaaGreatDoor

/- Credentials in memory. -/
namespace Go.Proofs.YtikpmkidfppknaaGreatDoor
open Go.RowKit Go.Shelf
attribute [local go_sem] Oper.semAt_some

structure Crd where
  i : Int
  k : ByteArray
  f : Int
  t : Int
def crdV (x : Crd) : Value := .agg #[.int .i64 x.i, .string x.k, .int .i64 x.f, .int .i64 x.t]
def crdC (x : Crd) : List Value := [.int .i64 x.i, .string x.k, .int .i64 x.f, .int .i64 x.t]
def crdCs (l : List Crd) : List Value := l.flatMap crdC
theorem crdCs_append (l m : List Crd) : crdCs (l ++ m) = crdCs l ++ crdCs m := List.flatMap_append
theorem crdCs_one (l : List Crd) (x : Crd) : crdCs (l ++ [x]) = crdCs l ++ [.int .i64 x.i, .string x.k, .int .i64 x.f, .int .i64 x.t] := by rw [crdCs_append]; simp [crdCs, crdC]
theorem crdCs_length : ∀ l : List Crd, (crdCs l).length = l.length * 4
  | [] => rfl
  | x :: l => by
    have := crdCs_length l
    simp only [crdCs, List.flatMap_cons, List.length_append, List.length_cons] at this ⊢
    rw [this]; simp [crdC]; omega
theorem crdCs_get : ∀ (l : List Crd) (k : Nat) (h : k < l.length), (crdCs l)[k * 4]? = some (.int .i64 l[k].i) ∧ (crdCs l)[k * 4 + 1]? = some (.string l[k].k) ∧ (crdCs l)[k * 4 + 2]? = some (.int .i64 l[k].f) ∧ (crdCs l)[k * 4 + 3]? = some (.int .i64 l[k].t)
  | x :: l, 0, h => ⟨rfl, rfl, rfl, rfl⟩
  | x :: l, k + 1, h => by
    have := crdCs_get l k (by simpa using h)
    rw [show (k + 1) * 4 = k * 4 + 1 + 1 + 1 + 1 by omega]
    simpa [crdCs, crdC] using this
theorem crdCs_cells (l : List Crd) : ∀ u ∈ crdCs l, u.oneCell' = true := by
  intro u hu
  obtain ⟨x, _, hx⟩ := List.mem_flatMap.1 hu
  simp only [crdC, List.mem_cons, List.not_mem_nil, or_false] at hx
  rcases hx with rfl | rfl | rfl | rfl <;> rfl
/-- A slice in memory, below n₀, that reads as a list. -/
def CrdAt (n₀ : Nat) (W : World) (a : Option Addr) (l : List Crd) : Prop := ∀ k, (h : k < l.length) → ∃ b off, a = some ⟨b, off, none⟩ ∧ b < n₀ ∧ W.cell? ⟨b, off + k * 4, none⟩ = some (.int .i64 l[k].i) ∧ W.cell? ⟨b, off + k * 4 + 1, none⟩ = some (.string l[k].k) ∧ W.cell? ⟨b, off + k * 4 + 2, none⟩ = some (.int .i64 l[k].f) ∧ W.cell? ⟨b, off + k * 4 + 3, none⟩ = some (.int .i64 l[k].t)
theorem CrdAt.below {n₀ : Nat} {A B : World} {a : Option Addr} {l : List Crd} (h : CrdAt n₀ A a l) (hb : Below n₀ A B) : CrdAt n₀ B a l := fun k hk => by
  obtain ⟨b, off, rfl, hlt, c0, c1, c2, c3⟩ := h k hk
  exact ⟨b, off, rfl, hlt, (hb.cell (p := ⟨b, off + k * 4, none⟩) hlt).trans c0, (hb.cell (p := ⟨b, off + k * 4 + 1, none⟩) hlt).trans c1, (hb.cell (p := ⟨b, off + k * 4 + 2, none⟩) hlt).trans c2, (hb.cell (p := ⟨b, off + k * 4 + 3, none⟩) hlt).trans c3⟩
theorem CrdAt.mono {n m : Nat} {A : World} {a : Option Addr} {l : List Crd} (h : CrdAt n A a l) (hm : n ≤ m) : CrdAt m A a l := fun k hk => by
  obtain ⟨b, off, rfl, hlt, r⟩ := h k hk
  exact ⟨b, off, rfl, by omega, r⟩
theorem CrdAt.on {A B : World} {a : Option Addr} {l : List Crd} (h : CrdAt A.heap.size A a l) (hb : Below A.heap.size A B) : CrdAt B.heap.size B a l := (h.below hb).mono hb.size
theorem CrdAt.nil (n₀ : Nat) (W : World) (a : Option Addr) : CrdAt n₀ W a [] := fun k hk => absurd hk (Nat.not_lt_zero k)
theorem crd_of_row {W : World} {z : Nat} {v : Value} {l : List Crd} (h : W.ownsRow z 37 4 v l.length (crdCs l)) : ∃ a c, v = .slice a l.length c ∧ CrdAt W.heap.size W a l := by
  rcases h.2 with ⟨rfl, h0⟩ | ⟨g, cap, cur, rfl, hz, hg, hn, hm, hs, ht⟩
  · have e : l = [] := List.length_eq_zero_iff.1 h0
    subst e
    exact ⟨_, _, rfl, CrdAt.nil _ _ _⟩
  · refine ⟨_, _, rfl, fun k hk => ⟨g, 0, rfl, (Array.getElem?_eq_some_iff.1 hg).1, ?_⟩⟩
    have hc := fun j u (hu : (crdCs l)[j]? = some u) => h.cells (g := g) rfl j u hu
    obtain ⟨g0, g1, g2, g3⟩ := crdCs_get l k hk
    have e : ∀ i, (⟨g, 0, none⟩ : Addr).add i = ⟨g, 0 + i, none⟩ := fun i => by unfold Addr.add; split <;> simp_all
    refine ⟨?_, ?_, ?_, ?_⟩
    · have := hc _ _ g0; rw [e] at this; exact this
    · have := hc _ _ g1; rw [e] at this; exact this
    · have := hc _ _ g2; rw [e] at this; exact this
    · have := hc _ _ g3; rw [e] at this; exact this
theorem infoCrd : ∃ i, Tryz.prog.info? 37 = some i ∧ i.zero = some (.agg #[.int .i64 0, .string ⟨#[]⟩, .int .i64 0, .int .i64 0]) ∧ i.size = 4 ∧ i.bytes = 40 := by
  have z : (Tryz.prog.info? 37).map (fun i => (i.zero, i.size, i.bytes)) = some (some (.agg #[.int .i64 0, .string ⟨#[]⟩, .int .i64 0, .int .i64 0]), 4, 40) := by kernel_rfl
  cases hi : Tryz.prog.info? 37 with
  | none => rw [hi] at z; cases z
  | some i =>
    rw [hi] at z
    have z := Option.some.inj z
    simp only [Prod.mk.injEq] at z
    exact ⟨i, rfl, z.1, z.2.1, z.2.2⟩
theorem crd_load {W : World} {b : Nat} {x : Crd} (h0 : W.cell? ⟨b, 0, none⟩ = some (.int .i64 x.i)) (h1 : W.cell? ⟨b, 1, none⟩ = some (.string x.k)) (h2 : W.cell? ⟨b, 2, none⟩ = some (.int .i64 x.f)) (h3 : W.cell? ⟨b, 3, none⟩ = some (.int .i64 x.t)) : (loadVar 37 ⟨b, 0, none⟩).run Tryz.prog W = .ok (.agg #[.int .i64 x.i, .string x.k, .int .i64 x.f, .int .i64 x.t]) W := by simp [loadVar, isAgg, underlying, Tryz.underlying37, Result.andThen, loadCells, loadCellsFrom, Addr.add, h0, h1, h2, h3]
end Go.Proofs.YtikpmkidfppknaaGreatDoor

/- What a credential must have. -/
namespace Go.Proofs.YtikpmkidfppknaaGreatDoor
open Go.RowKit Go.Shelf
attribute [local go_sem] Oper.semAt_some

def idOK (x : Crd) : Bool := decide (1 ≤ x.i) && decide (x.i ≤ 1000000000)
def spanOK (x : Crd) : Bool := decide (0 ≤ x.f) && decide (x.f < x.t) && decide (x.t ≤ 1000000000000)
def credOK (x : Crd) : Bool := idOK x && (isKeyB x.k && (spanOK x && true))
set_option maxRecDepth 100000 in
set_option maxHeartbeats 4000000 in
theorem hasId_c (x : Crd) (w : World) : Calls Tryz.prog 37 #[.agg #[.int .i64 x.i, .string x.k, .int .i64 x.f, .int .i64 x.t]] w fun y w' => y = .returned (.bool (idOK x)) ∧ Below w.heap.size w w' := by
  by_cases h0 : 1 ≤ x.i
  · by_cases h1 : x.i ≤ 1000000000
    · go_enter Tryz.func37, Tryz.ntmps37
      go_wp2
      go_ret
      exact ⟨ret_bool (by simp [idOK] <;> omega), below_alloc _ _⟩
    · go_enter Tryz.func37, Tryz.ntmps37
      go_wp2
      go_ret
      exact ⟨ret_bool (by simp [idOK] <;> omega), below_alloc _ _⟩
  · go_enter Tryz.func37, Tryz.ntmps37
    go_wp2
    go_ret
    exact ⟨ret_bool (by simp [idOK] <;> omega), below_alloc _ _⟩
set_option maxRecDepth 100000 in
set_option maxHeartbeats 4000000 in
theorem hasSpan_c (x : Crd) (w : World) : Calls Tryz.prog 39 #[.agg #[.int .i64 x.i, .string x.k, .int .i64 x.f, .int .i64 x.t]] w fun y w' => y = .returned (.bool (spanOK x)) ∧ Below w.heap.size w w' := by
  by_cases h0 : 0 ≤ x.f
  · by_cases h1 : x.f < x.t
    · by_cases h2 : x.t ≤ 1000000000000
      · go_enter Tryz.func39, Tryz.ntmps39
        go_wp2
        go_ret
        exact ⟨ret_bool (by simp [spanOK] <;> omega), below_alloc _ _⟩
      · go_enter Tryz.func39, Tryz.ntmps39
        go_wp2
        go_ret
        exact ⟨ret_bool (by simp [spanOK] <;> omega), below_alloc _ _⟩
    · go_enter Tryz.func39, Tryz.ntmps39
      go_wp2
      go_ret
      exact ⟨ret_bool (by simp [spanOK] <;> omega), below_alloc _ _⟩
  · go_enter Tryz.func39, Tryz.ntmps39
    go_wp2
    go_ret
    exact ⟨ret_bool (by simp [spanOK] <;> omega), below_alloc _ _⟩
set_option maxRecDepth 100000 in
set_option maxHeartbeats 4000000 in
theorem hasKey_c (x : Crd) (w : World) : Calls Tryz.prog 38 #[.agg #[.int .i64 x.i, .string x.k, .int .i64 x.f, .int .i64 x.t]] w fun y w' => y = .returned (.bool (isKeyB x.k)) ∧ Below w.heap.size w w' := by
  have HR := Lib.hid (fun W => Right_c x.k W)
  go_enter Tryz.func38, Tryz.ntmps38
  go_wp2_with fail
  refine (HR.out _).mono ?_
  rintro e w1 ⟨rfl, hb⟩
  have HB := Lib.hid (btr (below_alloc w _) hb)
  clear hb
  go_wp2
  go_ret
  exact ⟨rfl, HB.out⟩
/-- Do all of k checks hold, from the i-th on? -/
def allE (er : Nat → Bool) (i : Nat) : Nat → Bool
  | 0 => true
  | k + 1 => er i && allE er (i + 1) k
set_option maxRecDepth 100000 in
set_option maxHeartbeats 4000000 in
theorem checkOf_c (n : Nat) (hn : n ≤ 1000) (b : Nat) (f : Nat → Nat) (er : Nat → Bool) (x : Crd) (w : World)
    (hc : ∀ i, i < n → w.cell? ⟨b, i, none⟩ = some (.func (.func (f i)) #[] #[]))
    (HC : ∀ i, i < n → ∀ W, Calls Tryz.prog (f i) #[.agg #[.int .i64 x.i, .string x.k, .int .i64 x.f, .int .i64 x.t]] W fun y w' => y = .returned (.bool (er i)) ∧ Below W.heap.size W w')
    (eg : ∀ i, i < n → ∀ args W, (callFunc (f i) args).run Tryz.prog W = .ok (.enter (f i) args) W) :
    Calls Tryz.prog 62 #[.agg #[.int .i64 x.i, .string x.k, .int .i64 x.f, .int .i64 x.t], .slice (some ⟨b, 0, none⟩) n n] w fun y w' => y = .returned (.bool (allE er 0 n)) ∧ Below w.heap.size w w' := by
  have HCC := Lib.hid HC
  have HCL := Lib.hid hc
  have EG := Lib.hid eg
  have x0 : (w.alloc (.cells #[.int .i64 x.i, .string x.k, .int .i64 x.f, .int .i64 x.t] 67)).cell? ⟨w.heap.size, 0, none⟩ = some (.int .i64 x.i) := by go_simp
  have x1 : (w.alloc (.cells #[.int .i64 x.i, .string x.k, .int .i64 x.f, .int .i64 x.t] 67)).cell? ⟨w.heap.size, 1, none⟩ = some (.string x.k) := by go_simp
  have x2 : (w.alloc (.cells #[.int .i64 x.i, .string x.k, .int .i64 x.f, .int .i64 x.t] 67)).cell? ⟨w.heap.size, 2, none⟩ = some (.int .i64 x.f) := by go_simp
  have x3 : (w.alloc (.cells #[.int .i64 x.i, .string x.k, .int .i64 x.f, .int .i64 x.t] 67)).cell? ⟨w.heap.size, 3, none⟩ = some (.int .i64 x.t) := by go_simp
  have HX := Lib.hid (And.intro x0 (And.intro x1 (And.intro x2 x3)))
  clear HC hc eg x0 x1 x2 x3
  go_enter Tryz.func62, Tryz.ntmps62
  go_wp2
  have B1 := Lib.hid (below_alloc w (.cells #[.int .i64 x.i, .string x.k, .int .i64 x.f, .int .i64 x.t] 67))
  generalize w.alloc (.cells #[.int .i64 x.i, .string x.k, .int .i64 x.f, .int .i64 x.t] 67) = w1 at *
  go_loopw [9] (fun i wr => ∃ k : Nat, k ≤ n ∧ i = .int .i64 k ∧ Hid (allE er k (n - k) = allE er 0 n) ∧ Hid (Below w1.heap.size w1 wr)) (fun i _ => n - (intOf i).toNat)
  case atStart => exact ⟨0, Nat.zero_le _, rfl, Lib.hid rfl, Lib.hid (Below.refl _ _)⟩
  case round =>
    obtain ⟨k, hk, rfl, hf, hb⟩ := hrel
    by_cases hlt : k < n
    · have hlt' : (k : Int) < (n : Int) := by omega
      have hce := ((btr B1.out hb.out).cell (p := ⟨b, k, none⟩) (blt (HCL.out k hlt))).trans (HCL.out k hlt)
      obtain ⟨x0, x1, x2, x3⟩ := HX.out
      replace x0 := (hb.out.cell (blt x0)).trans x0
      replace x1 := (hb.out.cell (blt x1)).trans x1
      replace x2 := (hb.out.cell (blt x2)).trans x2
      replace x3 := (hb.out.cell (blt x3)).trans x3
      have ek := EG.out k hlt
      have HK := Lib.hid (HCC.out k hlt)
      cases he : er k
      · rw [he] at HK
        have hf2 := Lib.hid (show allE er 0 n = false by rw [← hf.out, show n - k = (n - (k + 1)) + 1 by omega, allE, he]; rfl)
        clear he
        go_wp2_with fail
        refine (HK.out _).mono ?_; rintro e w2 ⟨rfl, hb1⟩
        have HB := Lib.hid (btr B1.out (btr hb.out hb1))
        clear hb1 ek hce x0 x1 x2 x3
        go_wp2
        go_ret
        exact ⟨(by show Ending.returned (.bool false) = _; rw [hf2.out]), HB.out⟩
      · rw [he] at HK
        have hf2 := Lib.hid (show allE er (k + 1) (n - (k + 1)) = allE er 0 n by rw [← hf.out, show n - k = (n - (k + 1)) + 1 by omega, allE, he, Bool.true_and])
        clear he
        go_wp2_with fail
        refine (HK.out _).mono ?_; rintro e w2 ⟨rfl, hb1⟩
        have HB := Lib.hid (btr hb.out hb1)
        clear hb1 ek hce x0 x1 x2 x3
        go_wp2
        go_roundw
        case rel => exact ⟨k + 1, by omega, by go_num, hf2, HB⟩
        case measure => simp [intOf]; omega
    · have hge : ¬ (k : Int) < (n : Int) := by omega
      have hf2 := Lib.hid (show allE er 0 n = true by rw [← hf.out, show n - k = 0 by omega]; rfl)
      go_wp2
      go_ret
      exact ⟨(by show Ending.returned (.bool true) = _; rw [hf2.out]), btr B1.out hb.out⟩
end Go.Proofs.YtikpmkidfppknaaGreatDoor

/- Credentials as plain functions. -/
namespace Go.Proofs.YtikpmkidfppknaaGreatDoor
open Go.RowKit Go.Shelf
attribute [local go_sem] Oper.semAt_some

theorem snoc_ind {α : Type} {p : List α → Prop} (h0 : p []) (h1 : ∀ l x, p l → p (l ++ [x])) (l : List α) : p l := by
  have h : ∀ r : List α, p r.reverse := fun r => by
    induction r with
    | nil => exact h0
    | cons x r ih => rw [List.reverse_cons]; exact h1 _ _ ih
  have := h l.reverse
  rwa [List.reverse_reverse] at this
def idsL (l : List Crd) : List Int := l.map Crd.i
theorem idsL_append (l m : List Crd) : idsL (l ++ m) = idsL l ++ idsL m := List.map_append
/-- None is less than the one ahead of it. -/
def sortB (l : List Crd) : Bool := decide (∀ k, k < l.length - 1 → (idsL l).getD k 0 ≤ (idsL l).getD (k + 1) 0)
def riseB (l : List Crd) : Bool := sortB l && decide ((idsL l).Nodup)
def rightB (l : List Crd) : Bool := decide (l.length ≤ 4) && (l.all credOK && riseB l)
theorem pair_iff (l : List Int) : l.Pairwise (· < ·) ↔ (∀ k, k < l.length - 1 → l.getD k 0 ≤ l.getD (k + 1) 0) ∧ l.Nodup := by
  constructor
  · intro h
    refine ⟨fun k hk => ?_, h.imp (fun h => Int.ne_of_lt h)⟩
    have := List.pairwise_iff_getElem.1 h k (k + 1) (by omega) (by omega) (by omega)
    rw [List.getD_eq_getElem?_getD, List.getD_eq_getElem?_getD, List.getElem?_eq_getElem (by omega), List.getElem?_eq_getElem (by omega)]
    exact Int.le_of_lt this
  · rintro ⟨h, hn⟩
    have hle : ∀ d i, i + d < l.length → l.getD i 0 ≤ l.getD (i + d) 0 := by
      intro d
      induction d with
      | zero => intro i _; exact Int.le_refl _
      | succ d ih =>
        intro i hi
        exact Int.le_trans (ih i (by omega)) (h (i + d) (by omega))
    rw [List.pairwise_iff_getElem]
    intro i j hi hj hij
    have h1 := hle (j - i) i (by omega)
    rw [show i + (j - i) = j by omega, List.getD_eq_getElem?_getD, List.getD_eq_getElem?_getD, List.getElem?_eq_getElem hi, List.getElem?_eq_getElem hj] at h1
    have h2 := List.pairwise_iff_getElem.1 hn i j hi hj hij
    have h3 : l[i] ≤ l[j] := h1
    omega
theorem riseB_iff (l : List Crd) : riseB l = true ↔ (idsL l).Pairwise (· < ·) := by
  rw [pair_iff]
  unfold riseB sortB
  rw [Bool.and_eq_true, decide_eq_true_iff, decide_eq_true_iff]
  have : (idsL l).length = l.length := List.length_map _
  rw [this]
def holdB (now : Int) (x : Crd) : Bool := decide (x.f ≤ now) && decide (now < x.t)
def holdL (l : List Crd) (now : Int) : List Crd := if rightB l = true then l.filter (holdB now) else []
def grtL (l : List Crd) : Int := (l.getLast?.map Crd.i).getD 0
def rotC (now last : Int) (x : Crd) : Option Crd := if now < x.t ∧ x.f < last then some ⟨x.i, x.k, x.f, min x.t last⟩ else none
def endC (now id : Int) (x : Crd) : Option Crd := if x.i = id then (if x.f < now then some ⟨x.i, x.k, x.f, now⟩ else none) else some x
def holC (now : Int) (x : Crd) : Option Crd := if holdB now x = true then some x else none
theorem holC_filter (now : Int) (l : List Crd) : l.filterMap (holC now) = l.filter (holdB now) := by
  induction l with
  | nil => rfl
  | cons x l ih =>
    rw [List.filterMap_cons, List.filter_cons]
    unfold holC
    cases h : holdB now x
    · rw [if_neg (by decide), if_neg (by decide)]; exact ih
    · rw [if_pos rfl, if_pos rfl]; exact congrArg (x :: ·) ih
/-- The map from numbers to credentials. -/
def crdD (x : Crd) : DataW Unit := .agg [.lit (.int .i64 x.i), .lit (.string x.k.data.toList), .lit (.int .i64 x.f), .lit (.int .i64 x.t)]
def byD (l : List Crd) : DataW Unit := l.foldl (fun D x => D.put (.int .i64 x.i) (crdD x)) (.map [])
theorem byD_snoc (l : List Crd) (x : Crd) : byD (l ++ [x]) = (byD l).put (.int .i64 x.i) (crdD x) := by simp [byD]
theorem byD_tidy (l : List Crd) : Maps.Tidy (byD l) := by
  refine snoc_ind (p := fun l => Maps.Tidy (byD l)) Maps.tidy_empty ?_ l
  intro l x h
  rw [byD_snoc]
  exact h.put (show WideAt.IsKeyLit (.int .i64 x.i) from trivial) _
theorem byD_has (l : List Crd) (i : Int) : Maps.has (byD l) (.int .i64 i) = decide (i ∈ idsL l) := by
  refine snoc_ind (p := fun l => Maps.has (byD l) (.int .i64 i) = decide (i ∈ idsL l)) rfl ?_ l
  intro l x h
  rw [byD_snoc, idsL_append]
  by_cases e : x.i = i
  · subst e
    rw [Maps.has_put_same (byD_tidy l).isMap (show WideAt.IsKeyLit (.int .i64 x.i) from trivial)]
    simp [idsL]
  · rw [Maps.has_put_other (fun h => e (by injection h with _ h; exact h.symm)), h]
    have : ¬ i = x.i := fun h => e h.symm
    simp [idsL, this]
theorem byD_size_snoc (l : List Crd) (x : Crd) : Maps.size (byD (l ++ [x])) = if x.i ∈ idsL l then Maps.size (byD l) else Maps.size (byD l) + 1 := by
  rw [byD_snoc, Maps.size_put (byD_tidy l), byD_has]
  simp
theorem byD_size_le (l : List Crd) : Maps.size (byD l) ≤ l.length := by
  refine snoc_ind (p := fun l => Maps.size (byD l) ≤ l.length) (by simp [byD, Maps.size]) ?_ l
  intro l x ih
  rw [byD_size_snoc, List.length_append]; split <;> simp <;> omega
theorem byD_size_eq (l : List Crd) : Maps.size (byD l) = l.length ↔ (idsL l).Nodup := by
  refine snoc_ind (p := fun l => Maps.size (byD l) = l.length ↔ (idsL l).Nodup) (by simp [byD, Maps.size, idsL]) ?_ l
  intro l x ih
  have := byD_size_le l
  rw [byD_size_snoc, List.length_append, idsL_append, List.nodup_append]
  by_cases h : x.i ∈ idsL l
  · simp only [h, if_true, List.length_singleton]
    constructor
    · intro e; omega
    · rintro ⟨_, _, h3⟩; exact absurd rfl (h3 x.i h x.i (by simp [idsL]))
  · simp only [h, if_false, List.length_singleton]
    constructor
    · intro e
      refine ⟨ih.1 (by omega), by simp [idsL], ?_⟩
      rintro a ha b hb rfl
      simp [idsL] at hb; subst hb; exact h ha
    · rintro ⟨h1, _, _⟩
      have := ih.2 h1
      omega
/-- The last one of a number. -/
def lastL (l : List Crd) (i : Int) : Option Crd := (l.filter (fun x => decide (x.i = i))).getLast?
theorem byD_at (l : List Crd) (i : Int) (z : DataW Unit) : (byD l).atKey (.int .i64 i) z = match lastL l i with
    | some x => crdD x
    | none => z := by
  refine snoc_ind (p := fun l => (byD l).atKey (.int .i64 i) z = match lastL l i with | some x => crdD x | none => z) ?_ ?_ l
  · rfl
  · intro l x ih
    rw [byD_snoc]
    by_cases e : x.i = i
    · subst e
      rw [Maps.atKey_put_same (byD_tidy l).isMap (show WideAt.IsKeyLit (.int .i64 x.i) from trivial)]
      simp [lastL]
    · rw [Maps.atKey_put_other (fun h => e (by injection h with _ h; exact h.symm)), ih]
      simp [lastL, e]
end Go.Proofs.YtikpmkidfppknaaGreatDoor

/- A range over a function of any kind (It), where the iterator reads what the caller keeps: the caller's invariant gives a guard. -/
namespace Go.Proofs.YtikpmkidfppknaaGreatDoor
open Go.RowKit

/-- The contract of an iterator that may make and write memory of its own. -/
def ItersG {α : Type} (F : Fence) (n : Nat) (P : Program) (g : Nat) (lb : Array Value) (encs : α → Array Value) (Nx : List α → α → Prop) (S Sp : List α → Prop) (Cap : Nat → Prop) (G : World → Prop) (w : World) : Prop :=
  ∀ (l : Nat) (J Jx : List α → (Nat → Prop) → World → Prop) (W : World) (Pv : Nat → Prop), Below w.heap.size w W → (∀ i, Cap i → Pv i) → Steady J → Steady Jx → (∀ s Pv W, J s Pv W → G W) →
    (∀ pre x Pv W1, Nx pre x → J pre Pv W1 → YieldAt F (n - 1) P l (encs x) W1 fun e W' =>
      (e = .returned (.bool true) ∧ J (pre ++ [x]) Pv W' ∧ Mid Pv W1 W') ∨ (e = .returned (.bool false) ∧ Jx (pre ++ [x]) Pv W' ∧ Mid Pv W1 W')) →
    J [] Pv W →
    CallsIn F n P g (#[.func (.yield l) #[] #[]] ++ lb) W fun e W' => (∃ v, e = .returned v) ∧ ((∃ xs Pv, S xs ∧ J xs Pv W') ∨ (∃ pre Pv, Sp pre ∧ Jx pre Pv W'))
/-- The range itself. -/
theorem wpIn_range_itersG {F : Fence} {n : Nat} {P : Program} {α : Type} {g : Operand} {ps : Array Tmp} {assign body : Code} {Q : Exit → Act → World → Prop} {a : Act} {w : World}
    (hro : F.round = none) (h1 : 1 ≤ n) {gf : Nat} {lb : Array Value} (hg : a.eval g = .func (.func gf) #[] lb) (hFg : F.fn gf) (eg : ∀ args w, (callFunc gf args).run P w = .ok (.enter gf args) w)
    {encs : α → Array Value} {Nx : List α → α → Prop} {S Sp : List α → Prop} {Cap : Nat → Prop} {w0 : World} {G : World → Prop} (hseq : ItersG F (n - 1) P gf lb encs Nx S Sp Cap G w0) (hb0 : Below w0.heap.size w0 w) (hps : ∀ x, (encs x).size = ps.size) (hcap : ∀ i, Cap i → i < w.heap.size)
    (I : List α → (Nat → Prop) → World → Prop) (Ix : Code → List α → (Nat → Prop) → World → Prop) (hG : ∀ s Pv W, I s Pv W → G W) (hI : Steady I) (hIx : ∀ c, Steady (Ix c)) (h0 : I [] Cap w)
    (hround : ∀ (l : Nat) (pre : List α) (x : α) (Pv : Nat → Prop) (W : World), Nx pre x → I pre Pv W → Pv l → w.heap.size ≤ l → (∃ r, W.heap[l]? = some (.loop r)) →
      assign.wpIn (F.inRound l) (n - 1 - 1) P (Exit.then (fun a' W' => Mid Pv W W' ∧ ∀ W'', Goes (fun i => i = l) W' W'' → (∃ r, W''.heap[l]? = some (.loop r)) →
        body.wpIn (F.inRound l) (n - 1 - 1) P (itPost I Ix (pre ++ [x]) Pv W'') a' W'') (fun _ _ _ => False)) { tmps := (ps.zip (encs x)).foldl (fun t (p, v) => t.setIfInBounds p v) a.tmps, defers := [] } W)
    (hdone : ∀ (D : Nat) (xs : List α) (Pv : Nat → Prop) (W : World), w.heap.size ≤ D → Pv D → S xs → I xs Pv W → W.heap[D]? = some (.deferred (some [])) → Q .normal { a with defers := { target := .collected D, args := #[] } :: a.defers } W)
    (hstop : ∀ (D : Nat) (c : Code) (pre : List α) (Pv : Nat → Prop) (W : World), w.heap.size ≤ D → Pv D → Sp pre → Ix c pre Pv W → W.heap[D]? = some (.deferred (some [])) → c.wpIn F n P Q { a with defers := { target := .collected D, args := #[] } :: a.defers } W) :
    (Code.rangeFunc g ps assign body).wpIn F n P Q a w := by
  refine wpIn_rangeFunc ?_
  intro fn hfn
  rw [hro]
  obtain ⟨rec, hrec⟩ : ∃ rec : LoopState → Option Code → Loop, rec = fun st pe => { state := st, pending := pe, fn, tmps := a.tmps, params := ps, assign, body, defers := w.heap.size } := ⟨_, rfl⟩
  let V := (w.alloc (.deferred (some []))).alloc (.loop (rec .ready none))
  have hVs : V.heap.size = w.heap.size + 2 := by simp [V]
  have hLV : V.heap[w.heap.size + 1]? = some (.loop (rec .ready none)) := by
    have := World.alloc_heap_new (w.alloc (.deferred (some []))) (.loop (rec .ready none)); rwa [World.size_alloc] at this
  have hDV : V.heap[w.heap.size]? = some (.deferred (some [])) := (Below.heap_alloc _ _ _ (by simp)).trans (World.alloc_heap_new w _)
  have hbV : Below w.heap.size w V := bal (below_alloc w _) _
  let Pv0 : Nat → Prop := fun i => Cap i ∨ i = w.heap.size ∨ i = w.heap.size + 1
  have hIV : I [] Pv0 V := hI _ _ _ _ _ h0 (Goes.of_below hbV) (fun i h => by rcases h with h | rfl | rfl; exact .inl h; exact .inr ⟨by omega, by omega⟩; exact .inr ⟨by omega, by omega⟩)
  have wide : ∀ {Pv Pv' : Nat → Prop} {A B : World}, More Pv Pv' A B → More (fun i => Pv i ∨ i = w.heap.size ∨ i = w.heap.size + 1) (fun i => Pv' i ∨ i = w.heap.size ∨ i = w.heap.size + 1) A B := fun hm i h => by
    rcases h with h | h
    · exact (hm i h).elim (fun k => .inl (.inl k)) .inr
    · exact .inl (.inr h)
  refine ⟨w.heap.size + 1, [{ target := .collected w.heap.size, args := #[] }], V, { target := .fn (.func gf) lb, args := #[.func (.yield (w.heap.size + 1)) #[] #[]] }, V, gf,
    #[.func (.yield (w.heap.size + 1)) #[] #[]] ++ lb, V, ?_, ?_, ?_, ?_, fun _ => h1, ?_⟩
  · rw [show V = (w.alloc (.deferred (some []))).alloc (.loop (rec .ready none)) from rfl, hrec]; exact run_enterLoop_outer _ _ _ _ _
  · simp only [resolve, hg]
    simp [go_sem]
  · intro f' hf'; simp [Target.leads] at hf'; subst hf'; exact hFg
  · simp [invoke, go_sem, eg]
  · clear_value V
    refine (hseq (w.heap.size + 1)
      (fun pre Pv W => I pre (fun i => Pv i ∨ i = w.heap.size ∨ i = w.heap.size + 1) W ∧ w.heap.size + 2 ≤ W.heap.size ∧ ¬ Pv w.heap.size ∧ ¬ Pv (w.heap.size + 1) ∧ W.heap[w.heap.size + 1]? = some (.loop (rec .ready none)) ∧ W.heap[w.heap.size]? = some (.deferred (some [])))
      (fun pre Pv W => ∃ c, Ix c pre (fun i => Pv i ∨ i = w.heap.size ∨ i = w.heap.size + 1) W ∧ w.heap.size + 2 ≤ W.heap.size ∧ ¬ Pv w.heap.size ∧ ¬ Pv (w.heap.size + 1) ∧ W.heap[w.heap.size + 1]? = some (.loop (rec .done (some c))) ∧ W.heap[w.heap.size]? = some (.deferred (some [])))
      V Cap (btr hb0 hbV) (fun _ h => h) ?_ ?_ (fun _ _ _ h => hG _ _ _ h.1) ?_ ⟨hIV, by omega, fun h => by have := hcap _ h; omega, fun h => by have := hcap _ h; omega, hLV, hDV⟩).mono ?_
    · rintro s Pv Pv' A B ⟨j1, j2, j3, j4, j5, j6⟩ hg hm
      exact ⟨hI s _ _ A B j1 (hg.mono fun i h => .inl h) (wide hm), Nat.le_trans j2 hg.size, fun h => (hm _ h).elim j3 (fun h => by omega), fun h => (hm _ h).elim j4 (fun h => by omega), hg.obj j5 j4, hg.obj j6 j3⟩
    · rintro s Pv Pv' A B ⟨c, j1, j2, j3, j4, j5, j6⟩ hg hm
      exact ⟨c, hIx c s _ _ A B j1 (hg.mono fun i h => .inl h) (wide hm), Nat.le_trans j2 hg.size, fun h => (hm _ h).elim j3 (fun h => by omega), fun h => (hm _ h).elim j4 (fun h => by omega), hg.obj j5 j4, hg.obj j6 j3⟩
    · rintro pre x Pv W hnx ⟨hi, hz, n1, n2, hl, hk⟩
      have hy := run_yield (P := P) (args := encs x) hl (by rw [hrec]; exact hps x)
      rw [hrec] at hy
      refine ⟨fn, _, assign, body, hy, roundIn_of_wpIn hfn (wpIn_mono (hround (w.heap.size + 1) pre x (fun i => Pv i ∨ i = w.heap.size ∨ i = w.heap.size + 1) W hnx hi (.inr (.inr rfl)) (by omega) ⟨_, hl⟩) ?_)⟩
      rintro e a2 W2 h2
      cases e with
      | normal =>
        obtain ⟨hm2, hbody⟩ := h2
        have hl2 := hm2.obj hl (.inr (.inr rfl))
        have hk2 := hm2.obj hk (.inr (.inl rfl))
        refine ⟨_, run_beginRound hl2 (by rw [hrec]), ?_⟩
        have hlB : (W2.putObj (w.heap.size + 1) (.loop { rec .ready none with state := .busy })).heap[w.heap.size + 1]? = some (.loop { rec .ready none with state := .busy }) := World.putObj_heap_same (Array.getElem?_eq_some_iff.1 hl2).1
        have hkB : (W2.putObj (w.heap.size + 1) (.loop { rec .ready none with state := .busy })).heap[w.heap.size]? = some (.deferred (some [])) := (World.putObj_heap_other (by omega)).trans hk2
        have hmB : ∀ W3, Mid (fun i => Pv i ∨ i = w.heap.size ∨ i = w.heap.size + 1) (W2.putObj (w.heap.size + 1) (.loop { rec .ready none with state := .busy })) W3 → ∀ o, Mid Pv W (W3.putObj (w.heap.size + 1) o) := fun W3 h o =>
          (hm2.mono fun i h => .inl h).trans ((Mid.of_grown (grownBy_putObj' W2 _ _) (fun r e => by cases e; exact n2)).trans ((h.mono fun i h => .inl h).trans (Mid.of_grown (grownBy_putObj' W3 _ _) (fun r e => by cases e; exact n2))))
        refine wpIn_mono (hbody _ (Goes.putObj W2 _ rfl) ⟨_, hlB⟩) ?_
        have fin : ∀ (jump : Option Code) (W3 : World), Mid (fun i => Pv i ∨ i = w.heap.size ∨ i = w.heap.size + 1) (W2.putObj (w.heap.size + 1) (.loop { rec .ready none with state := .busy })) W3 →
            (Instr.endRound (w.heap.size + 1) jump).run P W3 = .ok (.bool jump.isNone) (W3.putObj (w.heap.size + 1) (.loop (rec (if jump.isNone then .ready else .done) jump))) ∧
            (W3.putObj (w.heap.size + 1) (.loop (rec (if jump.isNone then .ready else .done) jump))).heap[w.heap.size + 1]? = some (.loop (rec (if jump.isNone then .ready else .done) jump)) ∧
            (W3.putObj (w.heap.size + 1) (.loop (rec (if jump.isNone then .ready else .done) jump))).heap[w.heap.size]? = some (.deferred (some [])) ∧
            w.heap.size + 2 ≤ (W3.putObj (w.heap.size + 1) (.loop (rec (if jump.isNone then .ready else .done) jump))).heap.size := fun jump W3 h => by
          have hl3 := h.obj hlB (.inr (.inr rfl))
          have hk3 := h.obj hkB (.inr (.inl rfl))
          have := run_endRound (P := P) jump hl3
          rw [hrec] at this ⊢
          refine ⟨this, World.putObj_heap_same (Array.getElem?_eq_some_iff.1 hl3).1, (World.putObj_heap_other (by omega)).trans hk3, ?_⟩
          have h4 := (Array.getElem?_eq_some_iff.1 hl3).1
          simp [World.putObj]; omega
        rintro e a3 W3 hp
        cases e with
        | normal =>
          obtain ⟨q1, q2⟩ := hp
          obtain ⟨f1, f2, f3, f4⟩ := fin none W3 q2
          exact ⟨_, _, f1, .inl ⟨rfl, ⟨hI _ _ _ _ _ q1 (Goes.putObj W3 _ (.inr (.inr rfl))) (More.same _ _ _), f4, n1, n2, f2, f3⟩, hmB W3 q2 _⟩⟩
        | ret =>
          obtain ⟨q1, q2⟩ := hp
          obtain ⟨f1, f2, f3, f4⟩ := fin (some .ret) W3 q2
          exact ⟨_, _, f1, .inr ⟨rfl, ⟨.ret, hIx _ _ _ _ _ _ q1 (Goes.putObj W3 _ (.inr (.inr rfl))) (More.same _ _ _), f4, n1, n2, f2, f3⟩, hmB W3 q2 _⟩⟩
        | exit id =>
          obtain ⟨q1, q2⟩ := hp
          obtain ⟨f1, f2, f3, f4⟩ := fin (some (.exit id)) W3 q2
          exact ⟨_, _, f1, .inr ⟨rfl, ⟨.exit id, hIx _ _ _ _ _ _ q1 (Goes.putObj W3 _ (.inr (.inr rfl))) (More.same _ _ _), f4, n1, n2, f2, f3⟩, hmB W3 q2 _⟩⟩
        | goto t =>
          obtain ⟨q1, q2⟩ := hp
          obtain ⟨f1, f2, f3, f4⟩ := fin (some (.goto t)) W3 q2
          exact ⟨_, _, f1, .inr ⟨rfl, ⟨.goto t, hIx _ _ _ _ _ _ q1 (Goes.putObj W3 _ (.inr (.inr rfl))) (More.same _ _ _), f4, n1, n2, f2, f3⟩, hmB W3 q2 _⟩⟩
        | panic _ => exact hp.elim
        | outgrown => exact hp.elim
      | ret => exact h2.elim
      | exit _ => exact h2.elim
      | goto _ => exact h2.elim
      | panic _ => exact h2.elim
      | outgrown => exact h2.elim
    · rintro e W2 ⟨⟨v, rfl⟩, (⟨xs, Pv, hS, hi, hz, n1, n2, hl, hk⟩ | ⟨pre, Pv, hSp, c, hi, hz, n1, n2, hl, hk⟩)⟩
      · exact ⟨none, _, by have := run_endLoop (P := P) hl (by rw [hrec]; simp); rw [hrec] at this; exact this, hdone _ xs _ _ (Nat.le_refl _) (.inr (.inl rfl)) hS (hI _ _ _ _ _ hi (Goes.putObj W2 _ (.inr (.inr rfl))) (More.same _ _ _)) ((World.putObj_heap_other (by omega)).trans hk)⟩
      · exact ⟨some c, _, by have := run_endLoop (P := P) hl (by rw [hrec]; simp); rw [hrec] at this; exact this, hstop _ c pre _ _ (Nat.le_refl _) (.inr (.inl rfl)) hSp (hIx c _ _ _ _ _ hi (Goes.putObj W2 _ (.inr (.inr rfl))) (More.same _ _ _)) ((World.putObj_heap_other (by omega)).trans hk)⟩
end Go.Proofs.YtikpmkidfppknaaGreatDoor

/- slices.Values over credentials. -/
namespace Go.Proofs.YtikpmkidfppknaaGreatDoor
open Go.RowKit Go.Shelf
attribute [local go_sem] Oper.semAt_some

set_option maxRecDepth 100000 in
set_option maxHeartbeats 4000000 in
theorem values_it (n : Nat) (hn : 2 ≤ n) (a : Option Addr) (cap : Nat) (l : List Crd) (hs : l.length ≤ 100000) (n₀ sb : Nat) (w : World) (h0 : w.cell? ⟨sb, 0, none⟩ = some (.slice a l.length cap)) :
    ItersG Fence.wide n Tryz.prog 89 #[.pointer (some ⟨sb, 0, none⟩)] (fun x => #[crdV x]) (fun pre x => pre ++ [x] <+: l) (fun xs => xs = l) (fun pre => pre <+: l) (fun i => i = sb) (fun W => CrdAt n₀ W a l) w := by
  intro ll J Jx W Pv hW hcap hJ hJx hG hY hj
  have H0 := (hW.cell (p := ⟨sb, 0, none⟩) (blt h0)).trans h0
  have HP := Lib.hid (hcap sb rfl)
  have HY := Lib.hid hY
  have HJ := Lib.hid hJ
  have HGG := Lib.hid hG
  have hJ0 := Lib.hid hj
  clear hW hcap hJ hJx hG hY hj h0
  refine callsIn_of_wp Tryz.func89 rfl trivial ?_ rfl
  simp only [Tryz.ntmps89, List.size_toArray, List.length_cons, List.length_nil, Nat.reduceAdd, Nat.reduceSub, Array.replicate_succ, Array.replicate_zero, List.push_toArray, List.append_toArray, List.nil_append, List.cons_append]
  gi_wp2
  gi_loopw [7] (fun i wr => ∃ (k : Nat) (Pv : Nat → Prop), k ≤ l.length ∧ i = .int .i64 (k : Int) ∧ Hid (J (l.take k) Pv wr) ∧ Hid (Pv sb)) (fun i _ => l.length + 1 - (intOf i).toNat)
  case atStart => exact ⟨0, Pv, by omega, rfl, hJ0, HP⟩
  case round =>
    clear hJ0 HP H0
    obtain ⟨k, Pv, hk, rfl, hj, hp⟩ := hrel
    by_cases hlt : k < l.length
    · have hlt' : (k : Int) < (l.length : Int) := by omega
      have HT := Lib.hid (show l.take (k + 1) = l.take k ++ [l[k]] by rw [List.take_succ_eq_append_getElem hlt])
      have hpre : l.take k ++ [l[k]] <+: l := by rw [← HT.out]; exact List.take_prefix _ _
      obtain ⟨b, off, rfl, hbn, c0, c1, c2, c3⟩ := HGG.out _ _ _ hj.out k hlt
      generalize l[k] = x at *
      have hj1 : J (l.take k) Pv (wr.alloc (.cells #[.int .i64 x.i, .string x.k, .int .i64 x.f, .int .i64 x.t] 37)) := HJ.out _ _ _ _ _ hj.out (Goes.of_below (below_alloc wr _)) (More.same _ _ _)
      obtain ⟨fn, tmps, assign, body, hy, hR⟩ := HY.out _ _ Pv _ hpre hj1
      unfold crdV at hy
      have HPR := Lib.hid hpre
      clear hpre hj1 hbn hj
      gi_wp2
      refine ⟨fun _ => (by omega), hR.mono ?_⟩
      clear hy hR c0 c1 c2 c3
      rintro e V2 (⟨rfl, hJ2, hM⟩ | ⟨rfl, hX2, hM⟩)
      · have HJ2 := Lib.hid hJ2
        clear hJ2 hM
        gi_wp2
        go_roundw
        case rel => exact ⟨k + 1, Pv, by omega, by go_num, by rw [HT.out]; exact HJ2, hp⟩
        case measure => simp [intOf]; omega
      · have HX2 := Lib.hid hX2
        clear hX2 hM
        gi_wp2
        refine bodyPost_ret (results_none rfl _ _ _) rfl ?_
        exact ⟨⟨_, rfl⟩, .inr ⟨_, _, HPR.out, HX2.out⟩⟩
    · have hlt' : ¬ (k : Int) < (l.length : Int) := by omega
      obtain rfl : k = l.length := by omega
      rw [List.take_length] at hj
      gi_wp2
      go_end0
      first | exact ⟨⟨_, rfl⟩, .inl ⟨_, hj.out⟩⟩ | exact ⟨⟨_, rfl⟩, .inl ⟨_, _, rfl, hj.out⟩⟩
theorem each_c (a : Option Addr) (m c : Nat) (w : World) : Calls Tryz.prog 49 #[.slice a m c] w fun x w' => x = .returned (.func (.func 89) #[] #[.pointer (some ⟨w.heap.size, 0, none⟩)]) ∧ w' = w.alloc (.cells #[.slice a m c] 55) := by
  have HV := Lib.hid (show ∀ W : World, Calls Tryz.prog 73 #[.slice a m c] W fun x w' => x = .returned (.func (.func 89) #[] #[.pointer (some ⟨W.heap.size, 0, none⟩)]) ∧ w' = W.alloc (.cells #[.slice a m c] 55) from fun W => by
    go_enter Tryz.func73, Tryz.ntmps73
    go_wp2
    go_ret
    exact ⟨rfl, rfl⟩)
  go_enter Tryz.func49, Tryz.ntmps49
  go_wp2_with fail
  refine (HV.out _).mono ?_
  rintro e w1 ⟨rfl, rfl⟩
  go_wp2
  go_ret
  exact ⟨rfl, rfl⟩
end Go.Proofs.YtikpmkidfppknaaGreatDoor
