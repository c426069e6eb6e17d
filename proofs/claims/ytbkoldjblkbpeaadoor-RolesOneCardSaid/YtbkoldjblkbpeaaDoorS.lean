/- A slice of operators that came in; Few: its contract. -/
import Derived.Test.YtbkoldjblkbpeaaDoorR
import Derived.Deep.Fields
import Derived.StillTailTactics
import Derived.Deep.AppendLies
import Derived.Deep.RegionLaw
namespace Go.Proofs.YtbkoldjblkbpeaaDoor
open Go.RowKit Go.Shelf
attribute [local go_sem] Oper.semAt_some

/-- A slice's cells are these names and roles. -/
def RawAt (n₀ : Nat) (W : World) (a : Option Addr) (l : List (ByteArray × Int)) : Prop := ∀ k, (h : k < l.length) → ∃ b off, a = some ⟨b, off, none⟩ ∧ b < n₀ ∧ W.cell? ⟨b, off + k * 2, none⟩ = some (.string l[k].1) ∧ W.cell? ⟨b, off + k * 2 + 1, none⟩ = some (.int .i64 l[k].2)
theorem RawAt.below {n₀ : Nat} {W W' : World} {a : Option Addr} {l : List (ByteArray × Int)} (h : RawAt n₀ W a l) (k : Below n₀ W W') : RawAt n₀ W' a l := fun i hi => by
  obtain ⟨b, off, rfl, hb, h1, h2⟩ := h i hi
  exact ⟨b, off, rfl, hb, (k.cell (p := ⟨b, _, none⟩) hb).trans h1, (k.cell (p := ⟨b, _, none⟩) hb).trans h2⟩
def cut66 (s : ByteArray) : ByteArray := s.extract 0 (min (s.size : Int) 66).toNat
theorem cut66_size (s : ByteArray) : (cut66 s).size ≤ 1000 := by unfold cut66; rw [ByteArray.size_extract]; omega
def cutO (p : ByteArray × Int) : Opr := ⟨cut66 p.1, p.2, cut66_size _⟩
/-- The first twelve operators, names at sixty-six bytes. -/
def fewOf (l : List (ByteArray × Int)) : List Opr := (l.take 12).map cutO
theorem fewOf_len (l : List (ByteArray × Int)) : (fewOf l).length ≤ 12 := by simp [fewOf]; omega
def oCells (l : List Opr) : List Value := l.flatMap fun x => [.string x.n, .int .i64 x.r]
theorem oCells_snoc (l : List Opr) (x : Opr) : oCells (l ++ [x]) = oCells l ++ [.string x.n, .int .i64 x.r] := by simp [oCells]
theorem oCells_len (l : List Opr) : (oCells l).length = l.length * 2 := by
  induction l with
  | nil => rfl
  | cons x l ih => simp only [oCells, List.flatMap_cons, List.length_append, List.length_cons, List.length_nil] at ih ⊢; omega
theorem oCells_at (l : List Opr) (k : Nat) (h : k < l.length) : (oCells l)[k * 2]? = some (.string l[k].n) ∧ (oCells l)[k * 2 + 1]? = some (.int .i64 l[k].r) := by
  induction l generalizing k with
  | nil => exact absurd h (Nat.not_lt_zero _)
  | cons x l ih =>
    cases k with
    | zero => simp [oCells]
    | succ k =>
      have hk : k < l.length := by simpa using h
      obtain ⟨h1, h2⟩ := ih k hk
      have e : (k + 1) * 2 = k * 2 + 2 := by omega
      have e' : oCells (x :: l) = .string x.n :: .int .i64 x.r :: oCells l := by simp [oCells]
      rw [e, e']
      simp only [List.getElem?_cons_succ, List.getElem_cons_succ]
      exact ⟨h1, h2⟩
/-- v owns these operators. -/
def OwnO (base : Nat) (w : World) (v : Value) (l : List Opr) : Prop := w.ownsRow base 42 2 v l.length (oCells l)
theorem OwnO.on {base : Nat} {W W' : World} {v : Value} {l : List Opr} (h : OwnO base W v l) (hb : Below W.heap.size W W') : OwnO base W' v l := h.kept (grown_of_below hb) (by cases v.ownBlock <;> simp)
theorem OwnO.form {base : Nat} {w : World} {v : Value} {l : List Opr} (h : OwnO base w v l) : ∃ a c, v = .slice a l.length c ∧ OprsAt w.heap.size w a l := by
  rcases h.2 with ⟨rfl, hn⟩ | ⟨g, cap, cur, rfl, hb, hg, _⟩
  · exact ⟨none, 0, by rw [hn], fun i hi => by omega⟩
  · refine ⟨some ⟨g, 0, none⟩, cap, rfl, fun i hi => ⟨g, 0, rfl, (Array.getElem?_eq_some_iff.1 hg).1, ?_, ?_⟩⟩
    · rw [Nat.zero_add, World.ownsRow.cellAt h (i * 2) (by omega)]
      exact (oCells_at l i hi).1
    · rw [Nat.zero_add, World.ownsRow.cellAt h (i * 2 + 1) (by omega)]
      exact (oCells_at l i hi).2
theorem info42 : (Tryd.prog.info? 42).map (fun i => (i.zero, i.size, i.bytes)) = some (some (.agg #[.string ⟨#[]⟩, .int .i64 0]), 2, 24) := by kernel_rfl
theorem fewOf_take (l : List (ByteArray × Int)) (k : Nat) (hk : k < l.length) : (l.take (k + 1)).map cutO = (l.take k).map cutO ++ [cutO l[k]] := by
  rw [List.take_succ_eq_append_getElem hk, List.map_append]
  rfl

set_option maxRecDepth 100000 in
set_option maxHeartbeats 2000000 in
theorem few_c (a : Option Addr) (cap : Nat) (l : List (ByteArray × Int)) (w : World) (hR : RawAt w.heap.size w a l) : Calls Tryd.prog 21 #[.slice a l.length cap] w fun x w' => ∃ v, x = .returned v ∧ OwnO w.heap.size w' v (fewOf l) ∧ Below w.heap.size w w' := by
  obtain ⟨i0, hi, hz0, hz1, hz2⟩ := info_parts info42
  have HR := Lib.hid hR
  clear hR
  have HF := Lib.hid (show ∀ k, (12 ≤ k ∨ l.length ≤ k) → k ≤ 12 → (l.take k).map cutO = fewOf l from fun k h h' => by
    unfold fewOf
    rcases h with h | h
    · rw [show k = 12 by omega]
    · rw [List.take_of_length_le h, List.take_of_length_le (by omega)])
  generalize hL : l.length = L at *
  go_enter Tryd.func21, Tryd.ntmps21
  go_wp2
  go_loopw [3, 4] (fun v i wr => ∃ k : Nat, k ≤ 12 ∧ k ≤ L ∧ i = .int .i64 (k : Int) ∧ OwnO w.heap.size wr v ((l.take k).map cutO) ∧ Below w.heap.size w wr) (fun _ i _ => 13 - (intOf i).toNat)
  case atStart => exact ⟨0, by omega, by omega, rfl, World.ownsRow_nil _ _ _ _, Below.refl _ _⟩
  case round =>
    obtain ⟨k, hk, hkL, rfl, hown, hB⟩ := hrel
    by_cases hlt : k < L
    · by_cases h12 : k < 12
      · have hkl : k < l.length := by omega
        obtain ⟨b, off, rfl, hb, q0, q1⟩ := (HR.out.below hB) k hkl
        have HT := Lib.hid (fewOf_take l k hkl)
        have hlen : ((l.take k).map cutO).length = k := by simp; omega
        have hlt' : (k : Int) < (L : Int) := by omega
        have h12' : (k : Int) < 12 := by omega
        have hs66 : (cutO l[k]).n = cut66 l[k].1 := rfl
        have hr66 : (cutO l[k]).r = l[k].2 := rfl
        have HX := Lib.hid (And.intro hs66 hr66)
        clear hs66 hr66
        generalize cutO l[k] = y at *
        generalize l[k].1 = nm at *
        generalize l[k].2 = ro at *
        have HO := Lib.hid (show OwnO w.heap.size wr.drew u3 _ from hown.on (below_drew (Below.refl _ _)))
        have HB := Lib.hid hB
        have hzw := hB.size
        clear hown hB
        by_cases h66 : 66 < (nm.size : Int)
        · have h66' : (66 : Int) ≤ (nm.size : Int) := by omega
          have hcut : cut66 nm = nm.extract 0 66 := by unfold cut66; rw [show (min (nm.size : Int) 66).toNat = 66 by omega]
          have HN : Hid (∀ L' : List Opr, oCells (L' ++ [y]) = oCells L' ++ [.string (nm.extract 0 66), .int .i64 ro]) := Lib.hid (fun L' => by rw [oCells_snoc, HX.out.1, HX.out.2, hcut])
          have hnil : ∀ a b c : Nat, a ≤ b → a ≤ b + c := fun a b c h => by omega
          clear hcut hnil
          go_upto_region 5 with fail
          go_region_law (refine step_append_lies _ rfl (.tmp 15) (.tmp 35) 34 rfl w.heap.size 42 i0 (.agg #[.string ⟨#[]⟩, .int .i64 0]) 2 24 Tryd.underlying34 hi hz0 hz1 hz2 rfl (by decide) _ _ _ rfl (HO.out.alloc _) ⟨wr.heap.size, 0, none⟩ 1 1 [.string (nm.extract 0 66), .int .i64 ro] rfl rfl (World.news_of_block (cs := #[.string (nm.extract 0 66), .int .i64 ro]) (t := 42) (fr := (0, 0)) (heap_alloc_new wr.drew _)) (by simp [Value.oneCell']) (by decide) (by unfold maxLen; omega) (by omega) (by simp; omega) _ rfl ?_; intro g' cap' w2 hown' hgrow hat hlt2)
          all_goals
            have HOW := Lib.hid hown'
            clear hown'
            go_wp2_with fail
            go_roundw
            case rel =>
              refine ⟨k + 1, by omega, by omega, by go_num, ?_, ?_⟩
              · have := HOW.out
                rw [HT.out]
                unfold OwnO
                rw [List.length_append, HN.out]
                simp only [hlen, List.length_cons, List.length_nil, Nat.zero_add] at this ⊢
                exact this
              · exact (bal (below_drew HB.out) _).grown hgrow (by simp; omega) (fun j e => (World.ownsRow.lt HO.out j e).1)
            case measure => simp [intOf]; omega
        · have h66' : (nm.size : Int) ≤ 66 := by omega
          have hcut : cut66 nm = nm := by unfold cut66; rw [show (min (nm.size : Int) 66).toNat = nm.size by omega]; exact ByteArray.extract_zero_size
          have HN : Hid (∀ L' : List Opr, oCells (L' ++ [y]) = oCells L' ++ [.string (nm), .int .i64 ro]) := Lib.hid (fun L' => by rw [oCells_snoc, HX.out.1, HX.out.2, hcut])
          have hnil : ∀ a b c : Nat, a ≤ b → a ≤ b + c := fun a b c h => by omega
          clear hcut hnil
          go_upto_region 5 with fail
          go_region_law (refine step_append_lies _ rfl (.tmp 15) (.tmp 35) 34 rfl w.heap.size 42 i0 (.agg #[.string ⟨#[]⟩, .int .i64 0]) 2 24 Tryd.underlying34 hi hz0 hz1 hz2 rfl (by decide) _ _ _ rfl (HO.out.alloc _) ⟨wr.heap.size, 0, none⟩ 1 1 [.string (nm), .int .i64 ro] rfl rfl (World.news_of_block (cs := #[.string (nm), .int .i64 ro]) (t := 42) (fr := (0, 0)) (heap_alloc_new wr.drew _)) (by simp [Value.oneCell']) (by decide) (by unfold maxLen; omega) (by omega) (by simp; omega) _ rfl ?_; intro g' cap' w2 hown' hgrow hat hlt2)
          all_goals
            have HOW := Lib.hid hown'
            clear hown'
            go_wp2_with fail
            go_roundw
            case rel =>
              refine ⟨k + 1, by omega, by omega, by go_num, ?_, ?_⟩
              · have := HOW.out
                rw [HT.out]
                unfold OwnO
                rw [List.length_append, HN.out]
                simp only [hlen, List.length_cons, List.length_nil, Nat.zero_add] at this ⊢
                exact this
              · exact (bal (below_drew HB.out) _).grown hgrow (by simp; omega) (fun j e => (World.ownsRow.lt HO.out j e).1)
            case measure => simp [intOf]; omega
      · obtain rfl : k = 12 := by omega
        rw [HF.out 12 (.inl (by omega)) (by omega)] at hown
        have h1 : ((12 : Nat) : Int) < (L : Int) := by omega
        go_wp2_with fail
        go_ret
        exact ⟨_, rfl, hown, hB⟩
    · obtain rfl : k = L := by omega
      rw [HF.out k (.inr (by omega)) (by omega)] at hown
      go_wp2_with fail
      go_ret
      exact ⟨_, rfl, hown, hB⟩
end Go.Proofs.YtbkoldjblkbpeaaDoor
