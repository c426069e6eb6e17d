/- Right, Mac, Challenge, Answer. -/
import Derived.Test.YtjlpkndbnaknaaaGreatDoorCk
import Derived.Test.YtjlpkndbnaknaaaGreatDoorHm
import Derived.Lib.ItoaLen
import Derived.Lib.ItoaMem
namespace Go.Proofs.YtjlpkndbnaknaaaGreatDoor
open Go.RowKit Go.Shelf
attribute [local go_sem] Oper.semAt_some

def ErrT (W : World) : Prop := W.cell? ⟨3, 0, none⟩ = some (.iface 104 (.agg #[.pointer (some ⟨8, 34, none⟩)]))
def PowT (w : World) : Prop := Lib.TabIs Tryz.prog w "internal/strconv.uint64pow10" .u64 Lib.pow10Tab
theorem gTab : Tryz.prog.globalNamed "internal/strconv.uint64pow10" = some 4 := by kernel_rfl
theorem PowT.on {a w : World} (h : PowT a) (b : Below a.heap.size a w) : PowT w := by
  unfold PowT Lib.TabIs World.var? at h ⊢
  rw [gTab] at h ⊢
  simp only [Option.bind_some] at h ⊢
  have hl : 4 < a.heap.size := by
    rcases Nat.lt_or_ge 4 a.heap.size with e | e
    · exact e
    · have : a.heap[4]? = none := Array.getElem?_eq_none e
      rw [this] at h; cases h
  rw [b.block 4 hl]; exact h
/-- What the program's tables are. -/
structure Lay (W : World) : Prop where
  tabs : Tabs W
  et : ErrT W
  pw : PowT W
theorem Lay.on {W W' : World} (h : Lay W) (k : Below W.heap.size W W') : Lay W' := ⟨h.tabs.on k, (k.cell (p := ⟨3, 0, none⟩) (blt h.et)).trans h.et, h.pw.on k⟩
theorem below_grow (W : World) (k : Nat) (os : Array Obj) : Below W.heap.size W (Sort.grow (W.drewN k) os) :=
  ⟨rfl, rfl, rfl, by show W.heap.size ≤ (W.heap ++ os).size; rw [Array.size_append]; omega, fun i hi => by show (W.heap ++ os)[i]? = _; exact Array.getElem?_append_left hi⟩
theorem itoa_c (n : Int) (h0 : 0 ≤ n) (h1 : n ≤ 2147483647) (W : World) (hT : PowT W) : Calls Tryz.prog 29 #[.int .i64 n] W fun e w' => e = .returned (.string ⟨(Lib.itoa n).toArray⟩) ∧ Below W.heap.size W w' := by
  refine (Tryz.strconv_Itoa n (by omega) (by omega) W hT).mono ?_
  rintro e w' ⟨rfl, k, os, rfl⟩
  exact ⟨rfl, below_grow W k os⟩
theorem one_err (b : Bool) (c : Int) : firstE (fun _ => errV b c) 0 1 = errV b c := by cases b <;> rfl
theorem errV_or (b : Bool) (c : Int) : errV b c = .nilIface ∨ ∃ t v, errV b c = .iface t v := by
  cases b
  · exact .inr ⟨_, _, rfl⟩
  · exact .inl rfl
set_option maxRecDepth 100000 in
set_option maxHeartbeats 8000000 in
theorem Right_c (key : ByteArray) (w : World) : Calls Tryz.prog 9 #[.string key] w fun r w' => r = .returned (.bool (isKeyB key)) ∧ Below w.heap.size w w' := by
  have HK := Lib.hid (fun W => isKey_c key W)
  have HK1 := Lib.hid (fun b W h => isKey1_c key b W h)
  have HO := Lib.hid (fun W => of_c W 50 rfl)
  have HN := Lib.hid (fun W => is_nil 50 W)
  have HS := Lib.hid (fun W => is_same 50 W)
  go_enter Tryz.func9, Tryz.ntmps9
  go_wp2_with fail
  refine (HK.out _).mono ?_
  rintro e w1 ⟨rfl, rfl⟩
  go_wp2_with fail
  refine (HK1.out _ _ (by go_simp)).mono ?_
  rintro e w1 ⟨rfl, hb1⟩
  have HB1 := Lib.hid (btr (below_alloc w _) hb1)
  clear hb1
  go_wp2_with fail
  refine (HO.out _).mono ?_
  rintro e w1 ⟨rfl, rfl⟩
  cases hb : isKeyB key
  · rw [show errV false 50 = .iface 66 (.agg #[.int .i64 50]) from rfl]
    go_wp2_with fail
    refine (HS.out _).mono ?_
    rintro e w1 ⟨rfl, rfl⟩
    go_wp2
    go_ret
    exact ⟨by rw [hb]; rfl, HB1.out⟩
  · rw [show errV true 50 = .nilIface from rfl]
    go_wp2_with fail
    refine (HN.out _).mono ?_
    rintro e w1 ⟨rfl, rfl⟩
    go_wp2
    go_ret
    exact ⟨by rw [hb]; rfl, HB1.out⟩
/-- What Mac answers. -/
def macV (key s : ByteArray) : Value := .tuple (if isKeyB key = true then #[.string (ofL (macL (bL key) (bL s))), .int .i64 0] else #[.string ⟨#[]⟩, .int .i64 50])
set_option maxRecDepth 100000 in
set_option maxHeartbeats 8000000 in
theorem Mac_c (key s : ByteArray) (hs : s.size ≤ 90000) (w : World) (hL : Lay w) : Calls Tryz.prog 7 #[.string key, .string s] w fun r w' => r = .returned (macV key s) ∧ Below w.heap.size w w' := by
  have HK := Lib.hid (fun W => isKey_c key W)
  have HK1 := Lib.hid (fun b W h => isKey1_c key b W h)
  have HN := Lib.hid (fun W h => no_c W 50 h)
  have HL := Lib.hid hL
  clear hL
  go_enter Tryz.func7, Tryz.ntmps7
  go_wp2_with fail
  refine (HK.out _).mono ?_
  rintro e w1 ⟨rfl, rfl⟩
  go_wp2_with fail
  have hc0 : ((w.alloc (.cells #[.string key] 9)).alloc (.cells #[.func (.func 34) #[] #[.pointer (some ⟨w.heap.size, 0, none⟩)]] 36)).cell? ⟨w.heap.size, 0, none⟩ = some (.string key) := by go_simp
  have hB2 : Below w.heap.size w ((w.alloc (.cells #[.string key] 9)).alloc (.cells #[.func (.func 34) #[] #[.pointer (some ⟨w.heap.size, 0, none⟩)]] 36)) := bal (below_alloc _ _) _
  refine (faultFirst_c 1 (by omega) (w.heap.size + 1) (fun _ => 34) (fun _ => #[]) (fun _ => #[.pointer (some ⟨w.heap.size, 0, none⟩)]) (fun _ => errV (isKeyB key) 50) _ ?hc ?HC ?eg ?her).mono ?_
  case hc =>
    intro i hi
    obtain rfl : i = 0 := by omega
    go_simp
  case HC =>
    intro i hi _ W hW
    exact HK1.out _ W ((hW.cell (p := ⟨w.heap.size, 0, none⟩) (blt hc0)).trans hc0)
  case eg => intro i hi args W; exact enters_of Tryz.func34 (by kernel_rfl) rfl args W
  case her => intro i hi; exact errV_or _ _
  rintro e w2 ⟨rfl, hb2⟩
  rw [one_err]
  have HB2 := Lib.hid (btr hB2 hb2)
  have HL2 := Lib.hid (HL.out.on HB2.out)
  clear hb2 hB2 hc0
  cases hb : isKeyB key
  · rw [show errV false 50 = .iface 66 (.agg #[.int .i64 50]) from rfl]
    go_wp2_with fail
    refine (HN.out _ HL2.out.et).mono ?_
    rintro e w3 ⟨rfl, hb3⟩
    go_wp2
    go_ret2
    exact ⟨by unfold macV; rw [hb]; rfl, btr HB2.out hb3⟩
  · rw [show errV true 50 = .nilIface from rfl]
    have hk64 : key.size ≤ 64 := (of_decide_eq_true hb).2
    have HH := Lib.hid (fun W => newHasher_c key hk64 W)
    have hl64 : (blkL (bL key)).length = 64 := blkL_length _ (by rw [bL_length]; exact hk64)
    have HM := Lib.hid (fun bk W h1 h2 h3 => mac_c (blkL (bL key)) hl64 (blkL_lt _ (bL_lt key)) bk [s] W h1 h2 h3 (by simp) (by rw [catB_one]; exact hs))
    rw [catB_one, mac_key (bL key) (by rw [bL_length]; exact hk64)] at HM
    have HQ := Lib.hid (show macV key s = .tuple #[.string (ofL (macL (bL key) (bL s))), .int .i64 0] by unfold macV; rw [hb]; rfl)
    clear hl64
    generalize blkL (bL key) = B at *
    go_wp2_with fail
    refine (HH.out _).mono ?_
    rintro e w3 ⟨rfl, hb3⟩
    have HB3 := Lib.hid (btr HB2.out hb3)
    have HL3 := Lib.hid (HL2.out.on hb3)
    clear hb3
    go_wp2_with fail
    have HB4 := Lib.hid (bal HB3.out (.cells #[.string s] 9))
    have HL4 := Lib.hid (HL3.out.on (below_alloc w3 (.cells #[.string s] 9)))
    refine (HM.out _ _ HL4.out.tabs (fun j x h => ?_) (by simp)).mono ?_
    · cases j with
      | zero => cases h; go_simp
      | succ j => simp at h
    rintro e w5 ⟨rfl, hb5⟩
    go_wp2
    go_ret2
    exact ⟨by rw [HQ.out]; rfl, btr HB4.out hb5⟩
theorem two_err (b b' : Bool) (c c' : Int) : firstE (fun i => if i = 0 then errV b c else errV b' c') 0 2 = if b = true then errV b' c' else errV b c := by cases b <;> cases b' <;> rfl
/-- What Answer answers. -/
def ansV (key ch name : ByteArray) : Value := .tuple (if isKeyB key = true then (if isChB ch = true then #[.string (ofL (macL (bL key) (bL (ch ++ name)))), .int .i64 0] else #[.string ⟨#[]⟩, .int .i64 2]) else #[.string ⟨#[]⟩, .int .i64 50])
set_option maxRecDepth 100000 in
set_option maxHeartbeats 8000000 in
theorem Answer_c (key ch name : ByteArray) (hs : ch.size ≤ 1000) (hn : name.size ≤ 1000) (w : World) (hL : Lay w) : Calls Tryz.prog 14 #[.string key, .string ch, .string name] w fun r w' => r = .returned (ansV key ch name) ∧ Below w.heap.size w w' := by
  have HK := Lib.hid (fun W => isKey_c key W)
  have HK1 := Lib.hid (fun b W h => isKey1_c key b W h)
  have HC := Lib.hid (fun W => isChallenge_c ch W)
  have HC1 := Lib.hid (fun b W h => isChallenge1_c ch b W h)
  have HN := Lib.hid (fun c W h => no_c W c h)
  have HL := Lib.hid hL
  clear hL
  go_enter Tryz.func14, Tryz.ntmps14
  go_wp2_with fail
  refine (HK.out _).mono ?_
  rintro e w1 ⟨rfl, rfl⟩
  go_wp2_with fail
  refine (HC.out _).mono ?_
  rintro e w1 ⟨rfl, rfl⟩
  go_wp2_with fail
  have hW : ∃ W3, W3 = (((w.alloc (.cells #[.string key] 9)).alloc (.cells #[.string ch] 9)).alloc (.cells #[.func (.func 34) #[] #[.pointer (some ⟨w.heap.size, 0, none⟩)], .func (.func 48) #[] #[.pointer (some ⟨w.heap.size + 1, 0, none⟩)]] 36)) ∧ W3.cell? ⟨w.heap.size, 0, none⟩ = some (.string key) ∧ W3.cell? ⟨w.heap.size + 1, 0, none⟩ = some (.string ch) ∧ W3.cell? ⟨w.heap.size + 1 + 1, 0, none⟩ = some (.func (.func 34) #[] #[.pointer (some ⟨w.heap.size, 0, none⟩)]) ∧ W3.cell? ⟨w.heap.size + 1 + 1, 1, none⟩ = some (.func (.func 48) #[] #[.pointer (some ⟨w.heap.size + 1, 0, none⟩)]) ∧ Below w.heap.size w W3 :=
    ⟨_, rfl, by go_simp, by go_simp, by go_simp, by go_simp, bal (bal (below_alloc _ _) _) _⟩
  obtain ⟨W3, hW3, hc0, hc1, hf0, hf1, hB3⟩ := hW
  rw [← hW3]
  clear hW3
  refine (faultFirst_c 2 (by omega) (w.heap.size + 1 + 1) (fun i => if i = 0 then 34 else 48) (fun _ => #[]) (fun i => if i = 0 then #[.pointer (some ⟨w.heap.size, 0, none⟩)] else #[.pointer (some ⟨w.heap.size + 1, 0, none⟩)]) (fun i => if i = 0 then errV (isKeyB key) 50 else errV (isChB ch) 2) _ ?hc ?HC ?eg ?her).mono ?_
  case hc =>
    intro i hi
    obtain rfl | rfl : i = 0 ∨ i = 1 := by omega
    · exact hf0
    · exact hf1
  case HC =>
    intro i hi _ W hW
    obtain rfl | rfl : i = 0 ∨ i = 1 := by omega
    · exact HK1.out _ W ((hW.cell (p := ⟨w.heap.size, 0, none⟩) (blt hc0)).trans hc0)
    · exact HC1.out _ W ((hW.cell (p := ⟨w.heap.size + 1, 0, none⟩) (blt hc1)).trans hc1)
  case eg =>
    intro i hi args W
    obtain rfl | rfl : i = 0 ∨ i = 1 := by omega
    · exact enters_of Tryz.func34 (by kernel_rfl) rfl args W
    · exact enters_of Tryz.func48 (by kernel_rfl) rfl args W
  case her =>
    intro i hi
    obtain rfl | rfl : i = 0 ∨ i = 1 := by omega
    · exact errV_or _ _
    · exact errV_or _ _
  rintro e w2 ⟨rfl, hb2⟩
  rw [two_err]
  have HB2 := Lib.hid (btr hB3 hb2)
  have HL2 := Lib.hid (HL.out.on HB2.out)
  clear hb2 hB3 hc0 hc1 hf0 hf1
  cases hb : isKeyB key
  · rw [if_neg (by decide), show errV false 50 = .iface 66 (.agg #[.int .i64 50]) from rfl]
    go_wp2_with fail
    refine (HN.out _ _ HL2.out.et).mono ?_
    rintro e w3 ⟨rfl, hb3⟩
    go_wp2
    go_ret2
    exact ⟨by unfold ansV; rw [hb]; rfl, btr HB2.out hb3⟩
  · rw [if_pos rfl]
    cases hb' : isChB ch
    · rw [show errV false 2 = .iface 66 (.agg #[.int .i64 2]) from rfl]
      go_wp2_with fail
      refine (HN.out _ _ HL2.out.et).mono ?_
      rintro e w3 ⟨rfl, hb3⟩
      go_wp2
      go_ret2
      exact ⟨by unfold ansV; rw [hb, hb']; rfl, btr HB2.out hb3⟩
    · rw [show errV true 2 = .nilIface from rfl]
      have hk64 : key.size ≤ 64 := (of_decide_eq_true hb).2
      have HH := Lib.hid (fun W => newHasher_c key hk64 W)
      have hl64 : (blkL (bL key)).length = 64 := blkL_length _ (by rw [bL_length]; exact hk64)
      have HM := Lib.hid (fun bk W h1 h2 h3 => mac_c (blkL (bL key)) hl64 (blkL_lt _ (bL_lt key)) bk [ch, name] W h1 h2 h3 (by simp) (by rw [catB_two, ByteArray.size_append]; omega))
      rw [catB_two, mac_key (bL key) (by rw [bL_length]; exact hk64)] at HM
      have HQ := Lib.hid (show ansV key ch name = .tuple #[.string (ofL (macL (bL key) (bL (ch ++ name)))), .int .i64 0] by unfold ansV; rw [hb, hb']; rfl)
      clear hl64
      generalize blkL (bL key) = B at *
      go_wp2_with fail
      refine (HH.out _).mono ?_
      rintro e w3 ⟨rfl, hb3⟩
      have HB3 := Lib.hid (btr HB2.out hb3)
      have HL3 := Lib.hid (HL2.out.on hb3)
      clear hb3
      go_wp2_with fail
      have HB4 := Lib.hid (bal HB3.out (.cells #[.string ch, .string name] 9))
      have HL4 := Lib.hid (HL3.out.on (below_alloc w3 (.cells #[.string ch, .string name] 9)))
      refine (HM.out _ _ HL4.out.tabs (fun j x h => ?_) (by simp)).mono ?_
      · match j, h with
        | 0, h => cases h; go_simp
        | 1, h => cases h; go_simp
        | j + 2, h => simp at h
      rintro e w5 ⟨rfl, hb5⟩
      go_wp2
      go_ret2
      exact ⟨by rw [HQ.out]; rfl, btr HB4.out hb5⟩
end Go.Proofs.YtjlpkndbnaknaaaGreatDoor
