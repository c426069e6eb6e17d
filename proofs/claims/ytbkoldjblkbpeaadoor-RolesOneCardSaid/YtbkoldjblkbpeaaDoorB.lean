/- roles: Index, Contains, Word, cut, Role: their contracts. -/
import Derived.Test.YtbkoldjblkbpeaaDoorA
import Derived.Maps.OwnOps
import Derived.Maps.OwnSet
namespace Go.Proofs.YtbkoldjblkbpeaaDoor
open Go.RowKit

/-- A slice that holds just these numbers. -/
def RowI (w : World) (v : Value) (l : List Int) : Prop := (v = .slice none 0 0 ∧ l = []) ∨ ∃ b cap, v = .slice (some ⟨b, 0, none⟩) l.length cap ∧ ∀ k, (h : k < l.length) → w.cell? ⟨b, k, none⟩ = some (.int .i64 l[k])
theorem RowI.on {a w : World} {v : Value} {l : List Int} (h : RowI a v l) (k : Below a.heap.size a w) : RowI w v l := by
  rcases h with h | ⟨b, cap, h1, h2⟩
  · exact .inl h
  · exact .inr ⟨b, cap, h1, fun j hj => (k.cell (p := ⟨b, j, none⟩) (blt (h2 j hj))).trans (h2 j hj)⟩

set_option maxRecDepth 100000 in
theorem index_some (b cap L : Nat) (l : List Int) (hL : l.length = L) (hl : L ≤ 1000) (x : Int) (w : World) (hc : ∀ k, (h : k < l.length) → w.cell? ⟨b, k, none⟩ = some (.int .i64 l[k])) :
    Calls Tryd.prog 37 #[.slice (some ⟨b, 0, none⟩) L cap, .int .i64 x] w fun y w' => (∃ i : Int, y = .returned (.int .i64 i) ∧ -1 ≤ i ∧ i ≤ 1000 ∧ (0 ≤ i ↔ x ∈ l)) ∧ w = w' := by
  have hL2 : (L : Int) ≤ 1000 := by omega
  have HC := Lib.hid hc
  clear hc
  go_enter Tryd.func37, Tryd.ntmps37
  go_wp2
  go_loop [8] (fun i => ∃ k : Nat, k ≤ L ∧ i = .int .i64 (k : Int) ∧ x ∉ l.take k) (fun i => L - (intOf i).toNat)
  case atStart => exact ⟨0, Nat.zero_le _, rfl, by simp⟩
  case round =>
    obtain ⟨k, hk, rfl, hx⟩ := hrel
    by_cases hlt : k < L
    · have hlt' : k < l.length := by omega
      have hck := HC.out k hlt'
      have hts : l.take (k + 1) = l.take k ++ [l[k]] := List.take_succ_eq_append_getElem hlt'
      have hin : l[k] ∈ l := List.getElem_mem hlt'
      generalize l[k] = y at *
      have hd : (k : Int) < (L : Int) := by omega
      by_cases he : x = y
      · subst he
        have H := Lib.hid hin
        clear hts hin hx
        go_wp2
        go_ret
        exact ⟨⟨_, rfl, by omega, by omega, by simp [H.out]⟩, rfl⟩
      · have hb : (x == y) = false := by simpa using he
        have HT := Lib.hid hts
        have HX := Lib.hid hx
        clear hts hin hx
        go_wp2
        go_round
        case rel => exact ⟨k + 1, by omega, by go_num, by rw [HT.out]; intro hm; rcases List.mem_append.1 hm with e | e; exact HX.out e; exact he (List.mem_singleton.1 e)⟩
        case measure => simp [intOf]; omega
    · obtain rfl : k = L := by omega
      rw [List.take_of_length_le (by omega)] at hx
      have HX := Lib.hid hx
      clear hx
      go_wp2
      go_ret
      exact ⟨⟨-1, rfl, by omega, by omega, by simp [HX.out]⟩, rfl⟩
theorem index_none (x : Int) (w : World) :
    Calls Tryd.prog 37 #[.slice none 0 0, .int .i64 x] w fun y w' => y = .returned (.int .i64 (-1)) ∧ w = w' := by
  go_enter Tryd.func37, Tryd.ntmps37
  go_wp2
  go_loop [8] (fun i => i = .int .i64 0) (fun _ => 0)
  case atStart => rfl
  case round =>
    obtain rfl := hrel
    go_wp2
    go_ret
    exact ⟨rfl, rfl⟩
theorem contains_c (v : Value) (l : List Int) (hl : l.length ≤ 1000) (x : Int) (w : World) (hR : RowI w v l) : Calls Tryd.prog 27 #[v, .int .i64 x] w fun y w' => y = .returned (.bool (decide (x ∈ l))) ∧ w = w' := by
  rcases hR with ⟨rfl, rfl⟩ | ⟨b, cap, rfl, hc⟩
  · have H := Lib.hid (fun W => index_none x W)
    go_enter Tryd.func27, Tryd.ntmps27
    go_wp2_with (go_at_call 37; refine (H.out _).mono ?_; rintro y w1 ⟨rfl, rfl⟩)
    go_ret
    exact ⟨ret_bool (by first | rfl | simp), rfl⟩
  · have H := Lib.hid (index_some b cap l.length l rfl hl x w hc)
    clear hc
    go_enter Tryd.func27, Tryd.ntmps27
    go_wp2_with (go_at_call 37; refine H.out.mono ?_; rintro y w1 ⟨⟨i, rfl, h0, h1, h2⟩, rfl⟩)
    go_ret
    exact ⟨ret_bool (by first | rfl | exact decide_eq_decide.2 h2), rfl⟩

/-- A verb's word. -/
def wW (n : Int) : ByteArray := if 1 ≤ n ∧ n ≤ 10 then wordB (n - 1).toNat else ⟨#[]⟩
def wE (n : Int) : Int := if 1 ≤ n ∧ n ≤ 10 then 0 else 121
set_option maxHeartbeats 4000000 in
theorem word_c (n : Int) (w : World) (hW : Wd w) : Calls Tryd.prog 14 #[.int .i64 n] w fun x w' => x = .returned (.tuple #[.string (wW n), .int .i64 (wE n)]) ∧ w = w' := by
  unfold wW wE
  by_cases h1 : 1 ≤ n
  · by_cases h2 : n ≤ 10
    · rw [if_pos ⟨h1, h2⟩, if_pos ⟨h1, h2⟩]
      have hc := hW (n - 1).toNat (by omega)
      generalize wordB (n - 1).toNat = s at *
      obtain rfl | rfl | rfl | rfl | rfl | rfl | rfl | rfl | rfl | rfl : n = 1 ∨ n = 2 ∨ n = 3 ∨ n = 4 ∨ n = 5 ∨ n = 6 ∨ n = 7 ∨ n = 8 ∨ n = 9 ∨ n = 10 := by omega
      all_goals
        simp only [Int.reduceSub, Int.reduceToNat, Int.toNat_zero, Int.sub_self] at hc
        go_enter Tryd.func14, Tryd.ntmps14
        go_wp2
        go_ret2
        exact ⟨rfl, rfl⟩
    · rw [if_neg (fun h => h2 h.2), if_neg (fun h => h2 h.2)]
      go_enter Tryd.func14, Tryd.ntmps14
      go_wp2
      go_ret2
      exact ⟨rfl, rfl⟩
  · rw [if_neg (fun h => h1 h.1), if_neg (fun h => h1 h.1)]
    go_enter Tryd.func14, Tryd.ntmps14
    go_wp2
    go_ret2
    exact ⟨rfl, rfl⟩

/-- A text's first one hundred bytes. -/
def cut100 (s : ByteArray) : ByteArray := s.extract 0 (min (s.size : Int) 100).toNat
theorem cut_size (s : ByteArray) : (cut100 s).size ≤ 100 := by unfold cut100; rw [ByteArray.size_extract]; omega
theorem cut_c (s : ByteArray) (w : World) : Calls Tryd.prog 9 #[.string s] w fun x w' => x = .returned (.string (cut100 s)) ∧ w = w' := by
  by_cases h : 100 < (s.size : Int)
  · have e : cut100 s = s.extract 0 100 := by unfold cut100; rw [show (min (s.size : Int) 100).toNat = 100 by omega]
    rw [e]
    clear e
    go_enter Tryd.func9, Tryd.ntmps9
    go_wp2
    exact bodyPost_ret (v := .string (s.extract 0 100)) (by simp [results, Tryd.results9, go_sem]) rfl ⟨rfl, rfl⟩
  · have e : cut100 s = s := by unfold cut100; rw [show (min (s.size : Int) 100).toNat = s.size by omega]; exact ByteArray.extract_zero_size
    rw [e]
    clear e
    have h' : (s.size : Int) ≤ 100 := by omega
    go_enter Tryd.func9, Tryd.ntmps9
    go_wp2
    exact bodyPost_ret (v := .string s) (by simp [results, Tryd.results9, go_sem]) rfl ⟨rfl, rfl⟩

/-- A literal's entry, laid into a map of the call's own ('wpList_mapUpdate_own' at 'Op.insert'). -/
theorem wpList_insert_own {H : Type} {P : Program} (w : World) {ops : Array Oper} {rest : List Oper} {o : Oper} {a : Act} {Q : Exit → Act → World → Prop}
    (hg : o.guard = none) (m x v : Operand) (t : TypeId) (hop : o.op = Op.insert t m x v)
    (k e : TypeId) (K : Maps.Keyed P k) (ht : P.underlying t = some (.map k e)) (R : Value → Option (DataW H × List MemPlace)) (b n : Nat) (D : DataW H)
    (hm : a.eval m = .map (some b)) (hown : w.ownsMap P k R b n D) (hn : n < maxLen) (key val : Value) (kl : Lit) (hx : a.eval x = key) (hv : a.eval v = val) (hkey : keyOf P k key = some kl)
    (d : DataW H) (ps : List MemPlace) (hval : R val = some (d, ps))
    (hK : ∀ w', w'.ownsMap P k R b (n + 1) (D.put kl d) → w.grownBy w' (some b) → wpList P ops Q rest (a.put o.dst undef) w') :
    wpList P ops Q (o :: rest) a w := by
  refine wpList_plain hg fun K' hK' => ?_
  obtain ⟨w', hrun, r1, r2⟩ := hown.update K ht hn hkey hval
  unfold Oper.wp
  simp [execOp, hop, hm, hx, hv, hrun, Result.andThen]
  exact hK' _ _ (hK w' r1 r2)

theorem law9 : Maps.Keyed Tryd.prog 9 := Maps.string_keyed Tryd.underlying9
def kViewer : Lit := .string [118, 105, 101, 119, 101, 114]
def kKeeper : Lit := .string [107, 101, 101, 112, 101, 114]
def kGovernor : Lit := .string [103, 111, 118, 101, 114, 110, 111, 114]
def roleD : DataW Unit := (((DataW.map []).put kViewer (.lit (.int .i64 1))).put kKeeper (.lit (.int .i64 2))).put kGovernor (.lit (.int .i64 3))
/-- A role's number. -/
def rN (s : ByteArray) : Int := if s.data.toList = [103, 111, 118, 101, 114, 110, 111, 114] then 3 else if s.data.toList = [107, 101, 101, 112, 101, 114] then 2 else if s.data.toList = [118, 105, 101, 119, 101, 114] then 1 else 0
def rE (s : ByteArray) : Int := if rN s = 0 then 120 else 0
theorem map0 : Maps.IsMap (DataW.map [] : DataW Unit) := Maps.isMap_empty
theorem roleD_at (s : ByteArray) : roleD.atKey (.string s.data.toList) (.lit (.int .i64 0)) = .lit (.int .i64 (rN s)) := by
  unfold roleD rN
  by_cases h3 : s.data.toList = [103, 111, 118, 101, 114, 110, 111, 114]
  · rw [if_pos h3, h3]
    exact Maps.atKey_put_same ((map0.put _ _).put _ _) (show WideAt.IsKeyLit kGovernor from trivial) _ _
  · rw [if_neg h3, Maps.atKey_put_other (by unfold kGovernor; intro e; exact h3 (Lit.string.inj e))]
    by_cases h2 : s.data.toList = [107, 101, 101, 112, 101, 114]
    · rw [if_pos h2, h2]
      exact Maps.atKey_put_same (map0.put _ _) (show WideAt.IsKeyLit kKeeper from trivial) _ _
    · rw [if_neg h2, Maps.atKey_put_other (by unfold kKeeper; intro e; exact h2 (Lit.string.inj e))]
      by_cases h1 : s.data.toList = [118, 105, 101, 119, 101, 114]
      · rw [if_pos h1, h1]
        exact Maps.atKey_put_same map0 (show WideAt.IsKeyLit kViewer from trivial) _ _
      · rw [if_neg h1, Maps.atKey_put_other (by unfold kViewer; intro e; exact h1 (Lit.string.inj e))]
        simp [DataW.atKey]
theorem roleD_has (s : ByteArray) : Maps.has roleD (.string s.data.toList) = !decide (rN s = 0) := by
  unfold roleD rN
  by_cases h3 : s.data.toList = [103, 111, 118, 101, 114, 110, 111, 114]
  · rw [if_pos h3, h3]
    exact Maps.has_put_same ((map0.put _ _).put _ _) (show WideAt.IsKeyLit kGovernor from trivial) _
  · rw [if_neg h3, Maps.has_put_other (by unfold kGovernor; intro e; exact h3 (Lit.string.inj e))]
    by_cases h2 : s.data.toList = [107, 101, 101, 112, 101, 114]
    · rw [if_pos h2, h2]
      exact Maps.has_put_same (map0.put _ _) (show WideAt.IsKeyLit kKeeper from trivial) _
    · rw [if_neg h2, Maps.has_put_other (by unfold kKeeper; intro e; exact h2 (Lit.string.inj e))]
      by_cases h1 : s.data.toList = [118, 105, 101, 119, 101, 114]
      · rw [if_pos h1, h1]
        exact Maps.has_put_same map0 (show WideAt.IsKeyLit kViewer from trivial) _
      · rw [if_neg h1, Maps.has_put_other (by unfold kViewer; intro e; exact h1 (Lit.string.inj e))]
        rfl
theorem role_c (s : ByteArray) (hs : s.size ≤ 1000) (w : World) : Calls Tryd.prog 10 #[.string s] w fun x w' => x = .returned (.tuple #[.int .i64 (rN s), .int .i64 (rE s)]) ∧ Below w.heap.size w w' := by
  have hmm := @run_makeMap Tryd.prog
  have hkey : keyOf Tryd.prog 9 (.string s) = some (.string s.data.toList) := WideMaps.keyOf_string_mk Tryd.underlying9 (by unfold maxLen; omega)
  have hat0 := roleD_at s
  have hh := roleD_has s
  unfold rE
  by_cases h0 : rN s = 0
  · rw [h0] at hat0 hh ⊢
    simp only [decide_true, Bool.not_true] at hh
    rw [if_pos rfl]
    clear h0
    go_enter Tryd.func10, Tryd.ntmps10
    go_wp2_with (first
      | (refine wpList_insert_own _ rfl (.tmp 7) (.const (.string ⟨#[118, 105, 101, 119, 101, 114]⟩)) (.const (.int .i64 1)) 44 rfl 9 3 law9 Tryd.underlying44 (plainElem (H := Unit) Tryd.prog 3) w.heap.size 0 (.map []) rfl (World.ownsMap_made _ _ _ _) (by unfold maxLen; omega) _ _ kViewer rfl rfl (by kernel_rfl) (.lit (.int .i64 1)) [] (plainElem_int Tryd.underlying3 (by decide)) ?_; intro w1 h1 g1)
      | (refine wpList_insert_own _ rfl (.tmp 7) (.const (.string ⟨#[107, 101, 101, 112, 101, 114]⟩)) (.const (.int .i64 2)) 44 rfl 9 3 law9 Tryd.underlying44 (plainElem (H := Unit) Tryd.prog 3) w.heap.size 1 _ rfl h1 (by unfold maxLen; omega) _ _ kKeeper rfl rfl (by kernel_rfl) (.lit (.int .i64 2)) [] (plainElem_int Tryd.underlying3 (by decide)) ?_; intro w2 h2 g2)
      | (refine wpList_insert_own _ rfl (.tmp 7) (.const (.string ⟨#[103, 111, 118, 101, 114, 110, 111, 114]⟩)) (.const (.int .i64 3)) 44 rfl 9 3 law9 Tryd.underlying44 (plainElem (H := Unit) Tryd.prog 3) w.heap.size 2 _ rfl h2 (by unfold maxLen; omega) _ _ kGovernor rfl rfl (by kernel_rfl) (.lit (.int .i64 3)) [] (plainElem_int Tryd.underlying3 (by decide)) ?_; intro w3 h3 g3)
      | (at_lookup; go_loud (refine wpList_lookup_own_ok_int _ rfl (.tmp 10) (.tmp 11) 44 rfl 9 3 .i64 law9 Tryd.underlying44 Tryd.underlying3 (by kernel_rfl) w.heap.size 3 roleD rfl h3 _ _ rfl hkey ?_; intro c hat hwc; rw [hh]; obtain rfl : (0 : Int) = c := by (have e := hat0.symm.trans hat; simp only [DataW.lit.injEq, Lit.int.injEq, true_and] at e; exact e))))
    go_ret2
    exact ⟨rfl, (((below_alloc _ _).grown g1 (by simp) (fun j hj => by cases hj; exact Nat.le_refl _)).grown g2 (by have := g1.size; simp at this; omega) (fun j hj => by cases hj; exact Nat.le_refl _)).grown g3 (by have := g1.size; have := g2.size; simp at *; omega) (fun j hj => by cases hj; exact Nat.le_refl _)⟩
  · rw [decide_eq_false h0] at hh
    simp only [Bool.not_false] at hh
    rw [if_neg h0]
    generalize rN s = r at *
    go_enter Tryd.func10, Tryd.ntmps10
    go_wp2_with (first
      | (refine wpList_insert_own _ rfl (.tmp 7) (.const (.string ⟨#[118, 105, 101, 119, 101, 114]⟩)) (.const (.int .i64 1)) 44 rfl 9 3 law9 Tryd.underlying44 (plainElem (H := Unit) Tryd.prog 3) w.heap.size 0 (.map []) rfl (World.ownsMap_made _ _ _ _) (by unfold maxLen; omega) _ _ kViewer rfl rfl (by kernel_rfl) (.lit (.int .i64 1)) [] (plainElem_int Tryd.underlying3 (by decide)) ?_; intro w1 h1 g1)
      | (refine wpList_insert_own _ rfl (.tmp 7) (.const (.string ⟨#[107, 101, 101, 112, 101, 114]⟩)) (.const (.int .i64 2)) 44 rfl 9 3 law9 Tryd.underlying44 (plainElem (H := Unit) Tryd.prog 3) w.heap.size 1 _ rfl h1 (by unfold maxLen; omega) _ _ kKeeper rfl rfl (by kernel_rfl) (.lit (.int .i64 2)) [] (plainElem_int Tryd.underlying3 (by decide)) ?_; intro w2 h2 g2)
      | (refine wpList_insert_own _ rfl (.tmp 7) (.const (.string ⟨#[103, 111, 118, 101, 114, 110, 111, 114]⟩)) (.const (.int .i64 3)) 44 rfl 9 3 law9 Tryd.underlying44 (plainElem (H := Unit) Tryd.prog 3) w.heap.size 2 _ rfl h2 (by unfold maxLen; omega) _ _ kGovernor rfl rfl (by kernel_rfl) (.lit (.int .i64 3)) [] (plainElem_int Tryd.underlying3 (by decide)) ?_; intro w3 h3 g3)
      | (at_lookup; go_loud (refine wpList_lookup_own_ok_int _ rfl (.tmp 10) (.tmp 11) 44 rfl 9 3 .i64 law9 Tryd.underlying44 Tryd.underlying3 (by kernel_rfl) w.heap.size 3 roleD rfl h3 _ _ rfl hkey ?_; intro c hat hwc; rw [hh]; obtain rfl : r = c := by (have e := hat0.symm.trans hat; simp only [DataW.lit.injEq, Lit.int.injEq, true_and] at e; exact e))))
    go_ret2
    exact ⟨rfl, (((below_alloc _ _).grown g1 (by simp) (fun j hj => by cases hj; exact Nat.le_refl _)).grown g2 (by have := g1.size; simp at this; omega) (fun j hj => by cases hj; exact Nat.le_refl _)).grown g3 (by have := g1.size; have := g2.size; simp at *; omega) (fun j hj => by cases hj; exact Nat.le_refl _)⟩
end Go.Proofs.YtbkoldjblkbpeaaDoor
