/- Ct, Res, Do, Tr, Sw, Md, Ts, Lw, Tv -/
import Derived.Test.YtkokcfhfgnkdfaaGreatDoorZ8
import Derived.Test.YtkokcfhfgnkdfaaGreatDoorZ6
import Derived.Deep.AppendLies
import Derived.Test.YtkokcfhfgnkdfaaGreatDoorZ0
import Derived.Test.YtkokcfhfgnkdfaaGreatDoorZ7
set_option linter.unusedVariables false
set_option linter.unusedSimpArgs false
/- Cut: fifty calls, texts at fifty bytes. -/
namespace Go.Proofs.YtkokcfhfgnkdfaaGreatDoor.L17
open Go.RowKit Go.Shelf
open L1 (str)
open L14 (isSt goes dest inB outB endB Laid)
attribute [local go_sem] Oper.semAt_some

def ck (s : ByteArray) : ByteArray := s.extract 0 (min (s.size : Int) 50).toNat
theorem ck_size (s : ByteArray) : (ck s).size ≤ 50 := by unfold ck; rw [ByteArray.size_extract]; omega
def cutC (x : OpV) : OpV := ⟨x.kind, x.side, x.n, ck x.s⟩
def cutL (l : List OpV) : List OpV := (l.take 50).map cutC
theorem cutL_len (l : List OpV) : (cutL l).length ≤ 50 := by unfold cutL; rw [List.length_map, List.length_take]; omega
theorem cutL_size (l : List OpV) : ∀ x ∈ cutL l, x.s.size ≤ 50 := by
  intro x hx
  obtain ⟨y, _, rfl⟩ := List.mem_map.1 hx
  exact ck_size y.s
theorem cut_snoc (l : List OpV) (k : Nat) (h : k < l.length) : (l.take (k + 1)).map cutC = (l.take k).map cutC ++ [cutC (l[k]'h)] := by
  rw [List.take_succ_eq_append_getElem h, List.map_append]
  rfl
/-- New calls in a row. -/
def CutP (l : List OpV) (w : World) (y : Ending) (w' : World) : Prop := ∃ v, y = .returned v ∧ w'.ownsRow w.heap.size 38 4 v l.length (opCs l) ∧ Below w.heap.size w w'
set_option maxRecDepth 100000 in
set_option maxHeartbeats 4000000 in
theorem Cut_c (a : Option Addr) (cap : Nat) (l : List OpV) (hs : l.length ≤ 9223372036854775807) (w : World) (hA : OpVAt w.heap.size w a l) :
    Calls Tryz.prog 11 #[.slice a l.length cap] w (CutP (cutL l) w) := by
  have HA := Lib.hid hA
  obtain ⟨i0, hi, hz0, hz1, hz2⟩ := infoOpV
  clear hA
  go_enter Tryz.func11, Tryz.ntmps11
  go_wp2
  go_loopw [3, 4] (fun v i wr => ∃ k : Nat, k ≤ l.length ∧ k ≤ 50 ∧ i = .int .i64 (k : Int) ∧ wr.ownsRow w.heap.size 38 4 v k (opCs ((l.take k).map cutC)) ∧ Below w.heap.size w wr) (fun _ i _ => 50 - (intOf i).toNat)
  case atStart => exact ⟨0, Nat.zero_le _, Nat.zero_le _, rfl, World.ownsRow_nil _ _ _ _, Below.refl _ _⟩
  case round =>
    obtain ⟨k, hk, hk6, rfl, hO, hb⟩ := hrel
    have HO := Lib.hid hO
    have HB := Lib.hid hb
    clear hO hb
    by_cases hlt : k < l.length
    · have hlt' : (k : Int) < (l.length : Int) := by omega
      by_cases h6 : k < 50
      · have h6' : (k : Int) < 50 := by omega
        have HN := Lib.hid (cut_snoc l k hlt)
        obtain ⟨b, off, rfl, hbn, c0, c1, c2, c3⟩ := (HA.out.below HB.out) k hlt
        have HXX := Lib.hid (show cutC l[k] = ⟨l[k].kind, l[k].side, l[k].n, ck l[k].s⟩ from rfl)
        generalize l[k] = x at *
        obtain ⟨kk, hkk⟩ : ∃ kk, ck x.s = kk := ⟨_, rfl⟩
        rw [hkk] at HXX
        have HL := Lib.hid (show opCs ((l.take (k + 1)).map cutC) = opCs ((l.take k).map cutC) ++ [.int .i64 x.kind, .int .i64 x.side, .int .i64 x.n, .string kk] by rw [HN.out, HXX.out, opCs_append]; rfl)
        obtain ⟨N, hN⟩ : ∃ N : Nat, min (x.s.size : Int) 50 = (N : Int) := ⟨(min (x.s.size : Int) 50).toNat, by omega⟩
        have hN2 : (if (50 : Int) < (x.s.size : Int) then (50 : Int) else (x.s.size : Int)) = (N : Int) := by rw [← hN]; split <;> omega
        have hN1 : N ≤ x.s.size := by omega
        have hkN : x.s.extract 0 N = kk := by rw [← hkk]; unfold ck; rw [hN]; rfl
        clear HN HXX hkk hbn
        obtain ⟨xs, hxs⟩ : ∃ xs, opCs ((l.take k).map cutC) = xs := ⟨_, rfl⟩
        rw [hxs] at HO HL
        clear hxs
        have hzb := HB.out.size
        go_wp2_with (at_builtin; refine wpList_append_own _ rfl (.tmp 28) (.tmp 30) 22 rfl w.heap.size 38 i0 (.agg #[.int .i64 0, .int .i64 0, .int .i64 0, .string ⟨#[]⟩]) 4 40 Tryz.underlying22 hi hz0 hz1 hz2 rfl (by decide) _ k xs rfl ((HO.out.alloc _).alloc _) ⟨wr.heap.size + 1, 0, none⟩ 1 1 [.int .i64 x.kind, .int .i64 x.side, .int .i64 x.n, .string kk] rfl rfl (World.news_of_block (cs := #[.int .i64 x.kind, .int .i64 x.side, .int .i64 x.n, .string kk]) (t := 38) (fr := (0, 0)) (by have h := World.alloc_heap_new (wr.alloc (.cells #[.int .i64 x.kind, .int .i64 x.side, .int .i64 x.n, .string kk] 38)) (.cells #[.int .i64 x.kind, .int .i64 x.side, .int .i64 x.n, .string kk] 38); rw [World.size_alloc] at h; exact h)) (by simp [Value.oneCell']) (by unfold maxLen; omega) (by omega) (by simp; omega) ?_; intro v' w3 hown hgrow _; obtain ⟨au, cu, rfl⟩ := row_form hown)
        have HB3 := Lib.hid ((bal (bal HB.out (.cells #[.int .i64 x.kind, .int .i64 x.side, .int .i64 x.n, .string kk] 38)) (.cells #[.int .i64 x.kind, .int .i64 x.side, .int .i64 x.n, .string kk] 38)).grown hgrow (bal (bal HB.out (.cells #[.int .i64 x.kind, .int .i64 x.side, .int .i64 x.n, .string kk] 38)) (.cells #[.int .i64 x.kind, .int .i64 x.side, .int .i64 x.n, .string kk] 38)).size (fun j hj => (row_lt HO.out hj).1))
        rw [← HL.out] at hown
        have HO3 := Lib.hid hown
        clear hown hgrow
        go_roundw
        case rel => exact ⟨k + 1, by omega, by omega, by go_num, HO3.out, HB3.out⟩
        case measure => simp [intOf]; omega
      · have h6' : ¬ (k : Int) < 50 := by omega
        obtain rfl : k = 50 := by omega
        have hlen : (cutL l).length = 50 := by unfold cutL; rw [List.length_map, List.length_take]; omega
        have hO := HO.out
        obtain ⟨au, cu, rfl⟩ := row_form hO
        clear h6
        have HX := Lib.hid hO
        clear hO HO
        go_wp2
        go_ret
        exact ⟨_, rfl, by rw [hlen]; exact HX.out, HB.out⟩
    · have hlt' : ¬ (k : Int) < (l.length : Int) := by omega
      obtain rfl : k = l.length := by omega
      have hfl : cutL l = (l.take l.length).map cutC := by unfold cutL; rw [List.take_of_length_le (show l.length ≤ 50 by omega), List.take_length]
      have hlen : (cutL l).length = l.length := by rw [hfl, List.length_map, List.take_length]
      have HH := Lib.hid (And.intro hfl hlen)
      have hO := HO.out
      obtain ⟨au, cu, rfl⟩ := row_form hO
      have HX := Lib.hid hO
      clear hO HO hfl hlen
      go_wp2
      go_ret
      exact ⟨_, rfl, by rw [HH.out.2, HH.out.1]; exact HX.out, HB.out⟩
/-- .. as a slice that reads as the calls. -/
theorem Cut_s (a : Option Addr) (cap : Nat) (l : List OpV) (hs : l.length ≤ 9223372036854775807) (w : World) (hA : OpVAt w.heap.size w a l) :
    Calls Tryz.prog 11 #[.slice a l.length cap] w fun y w' => ∃ a' c', y = .returned (.slice a' (cutL l).length c') ∧ OpVAt w'.heap.size w' a' (cutL l) ∧ Below w.heap.size w w' :=
  (Cut_c a cap l hs w hA).mono fun y w' ⟨v, hy, ho, hb⟩ => by
    obtain ⟨a', c', rfl, h⟩ := op_of_row ho
    exact ⟨a', c', hy, h, hb⟩
end Go.Proofs.YtkokcfhfgnkdfaaGreatDoor.L17

/- Results that lie in a cell (layer 3 has these in its texts R, V). -/
namespace Go.Proofs.YtkokcfhfgnkdfaaGreatDoor
open Go.RowKit Go.Shelf

theorem results_cell {P : Program} {fn : Func} {p : Tmp} {ty : TypeId} (h : fn.results = #[.cell p ty]) (tmps : Array Value) (w : World) {a : Addr} {v : Value} (hp : tmps.getD p undef = .pointer (some a)) (hl : (loadVar ty a).run P w = .ok v w) : (results fn tmps).run P w = .ok v w := by
  simp only [results, h]
  have hp2 : tmps[p]?.getD undef = .pointer (some a) := by simpa using hp
  simp [asAddr, hp2, hl]
theorem results_cell2 {P : Program} {fn : Func} {p u v : Tmp} {ty : TypeId} (h : fn.results = #[.cell p ty, .tmp u, .tmp v]) (tmps : Array Value) (w : World) {a : Addr} {x : Value} (hp : tmps.getD p undef = .pointer (some a)) (hl : (loadVar ty a).run P w = .ok x w) : (results fn tmps).run P w = .ok (.tuple #[x, tmps.getD u undef, tmps.getD v undef]) w := by
  simp only [results, h]
  have hp2 : tmps[p]?.getD undef = .pointer (some a) := by simpa using hp
  simp [Result.andThen, asAddr, hp2, hl]
theorem results_cellt {P : Program} {fn : Func} {p u : Tmp} {ty : TypeId} (h : fn.results = #[.cell p ty, .tmp u]) (tmps : Array Value) (w : World) {a : Addr} {x y : Value} (hp : tmps.getD p undef = .pointer (some a)) (hu : tmps.getD u undef = y) (hl : (loadVar ty a).run P w = .ok x w) : (results fn tmps).run P w = .ok (.tuple #[x, y]) w := by
  subst hu
  simp only [results, h]
  have hp2 : tmps[p]?.getD undef = .pointer (some a) := by simpa using hp
  simp [Result.andThen, asAddr, hp2, hl]
end Go.Proofs.YtkokcfhfgnkdfaaGreatDoor

/- do: a call's answer. -/
namespace Go.Proofs.YtkokcfhfgnkdfaaGreatDoor.L17
open Go.RowKit Go.Shelf
open L1 (str)
open L14 (isSt goes dest inB outB endB Laid)
attribute [local go_sem] Oper.semAt_some

abbrev doV (w : World) (a b c d : Value) : World := (((w.alloc (.cells #[a, b, c, d] 38)).alloc (.cells #[.int .i64 0, .string ⟨#[]⟩, .int .i64 0] 35)).alloc (.cells #[.int .i64 0, .string ⟨#[]⟩, .int .i64 0] 35))
/-- A new answer's box. -/
structure BoxS (W : World) (b : Nat) : Prop where
  c0 : W.cell? ⟨b, 0, none⟩ = some (.int .i64 0)
  c1 : W.cell? ⟨b, 1, none⟩ = some (.string ⟨#[]⟩)
  c2 : W.cell? ⟨b, 2, none⟩ = some (.int .i64 0)
  f0 : W.frozen? ⟨b, 0, none⟩ = false
  f1 : W.frozen? ⟨b, 1, none⟩ = false
  f2 : W.frozen? ⟨b, 2, none⟩ = false
theorem boxS2_on {T hi N : Nat} {A B : World} (h : BoxS A (N + 1) ∧ BoxS A (N + 2)) (hg : Goes (Rin T hi) A B) (lz : hi ≤ N) : BoxS B (N + 1) ∧ BoxS B (N + 2) := by
  have n1 : ¬ Rin T hi (N + 1) := fun e => by have := e.2; omega
  have n2 : ¬ Rin T hi (N + 2) := fun e => by have := e.2; omega
  exact ⟨⟨hg.cell h.1.c0 n1, hg.cell h.1.c1 n1, hg.cell h.1.c2 n1, (hg.frozen h.1.c0 n1).trans h.1.f0, (hg.frozen h.1.c1 n1).trans h.1.f1, (hg.frozen h.1.c2 n1).trans h.1.f2⟩,
    ⟨hg.cell h.2.c0 n2, hg.cell h.2.c1 n2, hg.cell h.2.c2 n2, (hg.frozen h.2.c0 n2).trans h.2.f0, (hg.frozen h.2.c1 n2).trans h.2.f1, (hg.frozen h.2.c2 n2).trans h.2.f2⟩⟩
theorem said_load {W : World} {b : Nat} {N E : Int} {S : ByteArray} (h0 : W.cell? ⟨b, 0, none⟩ = some (.int .i64 N)) (h1 : W.cell? ⟨b, 1, none⟩ = some (.string S)) (h2 : W.cell? ⟨b, 2, none⟩ = some (.int .i64 E)) : (loadVar 35 ⟨b, 0, none⟩).run Tryz.prog W = .ok (.agg #[.int .i64 N, .string S, .int .i64 E]) W := by
  simp [loadVar, isAgg, underlying, Tryz.underlying35, Result.andThen, loadCells, loadCellsFrom, Addr.add, h0, h1, h2]
theorem goes_new {P : Nat → Prop} {A B C : World} {N : Nat} (h : Goes (fun i => P i ∨ N ≤ i) A B) (k : Goes (fun i => N ≤ i) B C) (hN : A.heap.size = N) : Goes P A C := by
  have hg := h.trans (k.mono (Pv' := fun i => P i ∨ N ≤ i) (fun _ h => .inr h))
  exact ⟨hg.os, hg.tape, hg.output, hg.size, fun i hi hp => hg.same i hi (fun e => e.elim hp (fun e => by omega))⟩
set_option maxRecDepth 100000 in
set_option maxHeartbeats 4000000 in
theorem do0 (T hi cap : Nat) (t : Tn) (side n : Int) (s : ByteArray) (hs : s.size ≤ 5000) (hm : t.Sm) (w : World) (h : TunAt w T hi cap t) (hL : Laid w) :
    Calls Tryz.prog 17 #[.pointer (some ⟨T, 0, none⟩), .agg #[.int .i64 0, .int .i64 side, .int .i64 n, .string s]] w fun y w' => y = .returned (.agg #[.int .i64 (0), .string (⟨#[]⟩), .int .i64 (eventE t n)]) ∧ TunAt w' T hi cap (eventT t n) ∧ Goes (Rin T hi) w w' := by
  have lz : hi ≤ w.heap.size := by obtain ⟨_, _, _, q⟩ := h; exact q.lz
  have hB : Below w.heap.size w (doV w (.int .i64 0) (.int .i64 side) (.int .i64 n) (.string s)) := bal (bal (below_alloc w _) _) _
  have HB := Lib.hid hB
  have HT := Lib.hid (h.below hB)
  have HL := Lib.hid (hL.on hB)
  have HF := Lib.hid (show BoxS (doV w (.int .i64 0) (.int .i64 side) (.int .i64 n) (.string s)) (w.heap.size + 1) ∧ BoxS (doV w (.int .i64 0) (.int .i64 side) (.int .i64 n) (.string s)) (w.heap.size + 2) from ⟨by constructor <;> go_simp, by constructor <;> go_simp⟩)
  have HC := Lib.hid (tevent_c T hi cap t n _ HT.out HL.out)
  obtain ⟨EE, hE⟩ : ∃ v : Int, (eventE t n) = v := ⟨_, rfl⟩
  rw [hE] at HC ⊢
  clear hE
  clear h hL hB
  go_enter Tryz.func17, Tryz.ntmps17
  go_wp2_with fail
  go_at_call 14
  refine HC.out.mono ?_
  rintro e w1 ⟨rfl, ht, hg⟩
  obtain ⟨⟨a0, a1, a2, b0, b1, b2⟩, ⟨c0, c1, c2, d0, d1, d2⟩⟩ := boxS2_on HF.out hg lz
  have HT1 := Lib.hid ht
  have HG1 : Hid (Goes (fun i => Rin T hi i ∨ w.heap.size ≤ i) w w1) := Lib.hid ((Goes.of_below HB.out).trans (hg.mono (fun _ h => .inl h)))
  clear ht hg HF HC
  obtain ⟨z, hz⟩ : ∃ z, w.heap.size = z := ⟨_, rfl⟩
  rw [hz] at a0 a1 a2 b0 b1 b2 c0 c1 c2 d0 d1 d2 ⊢
  have hne : z + 1 ≠ z + 2 := by omega
  go_wp2
  rw [hz] at lz
  have key : ∀ W, Goes (fun i => z ≤ i) w1 W → TunAt W T hi cap (eventT t n) ∧ Goes (Rin T hi) w W := fun W hgs => ⟨HT1.out.goes hgs (fun i h e => by have := h.2; omega), goes_new (N := z) (by rw [← hz]; exact HG1.out) hgs hz⟩
  clear HT1 HG1
  refine bodyPost_ret (results_cell rfl _ _ (by rfl) (said_load (by go_simp) (by go_simp) (by go_simp))) rfl ⟨rfl, ?_⟩
  refine key _ ?_
  repeat (first | exact Goes.refl _ _ | refine Goes.trans ?_ (goes_set _ _ _ _ (by omega)))
set_option maxRecDepth 100000 in
set_option maxHeartbeats 4000000 in
theorem do1 (T hi cap : Nat) (t : Tn) (side n : Int) (s : ByteArray) (hs : s.size ≤ 5000) (hm : t.Sm) (w : World) (h : TunAt w T hi cap t) (hL : Laid w) :
    Calls Tryz.prog 17 #[.pointer (some ⟨T, 0, none⟩), .agg #[.int .i64 1, .int .i64 side, .int .i64 n, .string s]] w fun y w' => y = .returned (.agg #[.int .i64 (0), .string (⟨#[]⟩), .int .i64 (grantTE t side n)]) ∧ TunAt w' T hi cap (grantT t side n) ∧ Goes (Rin T hi) w w' := by
  have lz : hi ≤ w.heap.size := by obtain ⟨_, _, _, q⟩ := h; exact q.lz
  have hB : Below w.heap.size w (doV w (.int .i64 1) (.int .i64 side) (.int .i64 n) (.string s)) := bal (bal (below_alloc w _) _) _
  have HB := Lib.hid hB
  have HT := Lib.hid (h.below hB)
  have HL := Lib.hid (hL.on hB)
  have HF := Lib.hid (show BoxS (doV w (.int .i64 1) (.int .i64 side) (.int .i64 n) (.string s)) (w.heap.size + 1) ∧ BoxS (doV w (.int .i64 1) (.int .i64 side) (.int .i64 n) (.string s)) (w.heap.size + 2) from ⟨by constructor <;> go_simp, by constructor <;> go_simp⟩)
  have HC := Lib.hid (tgrant_c T hi cap t side n _ HT.out HL.out)
  obtain ⟨EE, hE⟩ : ∃ v : Int, (grantTE t side n) = v := ⟨_, rfl⟩
  rw [hE] at HC ⊢
  clear hE
  clear h hL hB
  go_enter Tryz.func17, Tryz.ntmps17
  go_wp2_with fail
  go_at_call 22
  refine HC.out.mono ?_
  rintro e w1 ⟨rfl, ht, hg⟩
  obtain ⟨⟨a0, a1, a2, b0, b1, b2⟩, ⟨c0, c1, c2, d0, d1, d2⟩⟩ := boxS2_on HF.out hg lz
  have HT1 := Lib.hid ht
  have HG1 : Hid (Goes (fun i => Rin T hi i ∨ w.heap.size ≤ i) w w1) := Lib.hid ((Goes.of_below HB.out).trans (hg.mono (fun _ h => .inl h)))
  clear ht hg HF HC
  obtain ⟨z, hz⟩ : ∃ z, w.heap.size = z := ⟨_, rfl⟩
  rw [hz] at a0 a1 a2 b0 b1 b2 c0 c1 c2 d0 d1 d2 ⊢
  have hne : z + 1 ≠ z + 2 := by omega
  go_wp2
  rw [hz] at lz
  have key : ∀ W, Goes (fun i => z ≤ i) w1 W → TunAt W T hi cap (grantT t side n) ∧ Goes (Rin T hi) w W := fun W hgs => ⟨HT1.out.goes hgs (fun i h e => by have := h.2; omega), goes_new (N := z) (by rw [← hz]; exact HG1.out) hgs hz⟩
  clear HT1 HG1
  refine bodyPost_ret (results_cell rfl _ _ (by rfl) (said_load (by go_simp) (by go_simp) (by go_simp))) rfl ⟨rfl, ?_⟩
  refine key _ ?_
  repeat (first | exact Goes.refl _ _ | refine Goes.trans ?_ (goes_set _ _ _ _ (by omega)))
set_option maxRecDepth 100000 in
set_option maxHeartbeats 4000000 in
theorem do2 (T hi cap : Nat) (t : Tn) (side n : Int) (s : ByteArray) (hs : s.size ≤ 5000) (hm : t.Sm) (w : World) (h : TunAt w T hi cap t) (hL : Laid w) :
    Calls Tryz.prog 17 #[.pointer (some ⟨T, 0, none⟩), .agg #[.int .i64 2, .int .i64 side, .int .i64 n, .string s]] w fun y w' => y = .returned (.agg #[.int .i64 ((feedTN cap t side s : Nat)), .string (⟨#[]⟩), .int .i64 (feedE t side)]) ∧ TunAt w' T hi cap (feedT cap t side s) ∧ Goes (Rin T hi) w w' := by
  have lz : hi ≤ w.heap.size := by obtain ⟨_, _, _, q⟩ := h; exact q.lz
  have hB : Below w.heap.size w (doV w (.int .i64 2) (.int .i64 side) (.int .i64 n) (.string s)) := bal (bal (below_alloc w _) _) _
  have HB := Lib.hid hB
  have HT := Lib.hid (h.below hB)
  have HL := Lib.hid (hL.on hB)
  have HF := Lib.hid (show BoxS (doV w (.int .i64 2) (.int .i64 side) (.int .i64 n) (.string s)) (w.heap.size + 1) ∧ BoxS (doV w (.int .i64 2) (.int .i64 side) (.int .i64 n) (.string s)) (w.heap.size + 2) from ⟨by constructor <;> go_simp, by constructor <;> go_simp⟩)
  have HC := Lib.hid (tfeed_c T hi cap t side s _ hs hm HT.out HL.out)
  obtain ⟨EE, hE⟩ : ∃ v : Int, (feedE t side) = v := ⟨_, rfl⟩
  rw [hE] at HC ⊢
  clear hE
  obtain ⟨NN, hN⟩ : ∃ v : Int, ((feedTN cap t side s : Nat)) = v := ⟨_, rfl⟩
  rw [hN] at HC ⊢
  clear hN
  clear h hL hB
  go_enter Tryz.func17, Tryz.ntmps17
  go_wp2_with fail
  go_at_call 25
  refine HC.out.mono ?_
  rintro e w1 ⟨rfl, ht, hg⟩
  obtain ⟨⟨a0, a1, a2, b0, b1, b2⟩, ⟨c0, c1, c2, d0, d1, d2⟩⟩ := boxS2_on HF.out hg lz
  have HT1 := Lib.hid ht
  have HG1 : Hid (Goes (fun i => Rin T hi i ∨ w.heap.size ≤ i) w w1) := Lib.hid ((Goes.of_below HB.out).trans (hg.mono (fun _ h => .inl h)))
  clear ht hg HF HC
  obtain ⟨z, hz⟩ : ∃ z, w.heap.size = z := ⟨_, rfl⟩
  rw [hz] at a0 a1 a2 b0 b1 b2 c0 c1 c2 d0 d1 d2 ⊢
  have hne : z + 1 ≠ z + 2 := by omega
  go_wp2
  rw [hz] at lz
  have key : ∀ W, Goes (fun i => z ≤ i) w1 W → TunAt W T hi cap (feedT cap t side s) ∧ Goes (Rin T hi) w W := fun W hgs => ⟨HT1.out.goes hgs (fun i h e => by have := h.2; omega), goes_new (N := z) (by rw [← hz]; exact HG1.out) hgs hz⟩
  clear HT1 HG1
  refine bodyPost_ret (results_cell rfl _ _ (by rfl) (said_load (by go_simp) (by go_simp) (by go_simp))) rfl ⟨rfl, ?_⟩
  refine key _ ?_
  repeat (first | exact Goes.refl _ _ | refine Goes.trans ?_ (goes_set _ _ _ _ (by omega)))
set_option maxRecDepth 100000 in
set_option maxHeartbeats 4000000 in
theorem do3 (T hi cap : Nat) (t : Tn) (side n : Int) (s : ByteArray) (hs : s.size ≤ 5000) (hm : t.Sm) (w : World) (h : TunAt w T hi cap t) (hL : Laid w) :
    Calls Tryz.prog 17 #[.pointer (some ⟨T, 0, none⟩), .agg #[.int .i64 3, .int .i64 side, .int .i64 n, .string s]] w fun y w' => y = .returned (.agg #[.int .i64 ((moveTN cap t side n : Nat)), .string (⟨#[]⟩), .int .i64 (moveE t side n)]) ∧ TunAt w' T hi cap (moveT cap t side n) ∧ Goes (Rin T hi) w w' := by
  have lz : hi ≤ w.heap.size := by obtain ⟨_, _, _, q⟩ := h; exact q.lz
  have hB : Below w.heap.size w (doV w (.int .i64 3) (.int .i64 side) (.int .i64 n) (.string s)) := bal (bal (below_alloc w _) _) _
  have HB := Lib.hid hB
  have HT := Lib.hid (h.below hB)
  have HL := Lib.hid (hL.on hB)
  have HF := Lib.hid (show BoxS (doV w (.int .i64 3) (.int .i64 side) (.int .i64 n) (.string s)) (w.heap.size + 1) ∧ BoxS (doV w (.int .i64 3) (.int .i64 side) (.int .i64 n) (.string s)) (w.heap.size + 2) from ⟨by constructor <;> go_simp, by constructor <;> go_simp⟩)
  have HC := Lib.hid (tmove_c T hi cap t side n _ hm HT.out HL.out)
  obtain ⟨EE, hE⟩ : ∃ v : Int, (moveE t side n) = v := ⟨_, rfl⟩
  rw [hE] at HC ⊢
  clear hE
  obtain ⟨NN, hN⟩ : ∃ v : Int, ((moveTN cap t side n : Nat)) = v := ⟨_, rfl⟩
  rw [hN] at HC ⊢
  clear hN
  clear h hL hB
  go_enter Tryz.func17, Tryz.ntmps17
  go_wp2_with fail
  go_at_call 23
  refine HC.out.mono ?_
  rintro e w1 ⟨rfl, ht, hg⟩
  obtain ⟨⟨a0, a1, a2, b0, b1, b2⟩, ⟨c0, c1, c2, d0, d1, d2⟩⟩ := boxS2_on HF.out hg lz
  have HT1 := Lib.hid ht
  have HG1 : Hid (Goes (fun i => Rin T hi i ∨ w.heap.size ≤ i) w w1) := Lib.hid ((Goes.of_below HB.out).trans (hg.mono (fun _ h => .inl h)))
  clear ht hg HF HC
  obtain ⟨z, hz⟩ : ∃ z, w.heap.size = z := ⟨_, rfl⟩
  rw [hz] at a0 a1 a2 b0 b1 b2 c0 c1 c2 d0 d1 d2 ⊢
  have hne : z + 1 ≠ z + 2 := by omega
  go_wp2
  rw [hz] at lz
  have key : ∀ W, Goes (fun i => z ≤ i) w1 W → TunAt W T hi cap (moveT cap t side n) ∧ Goes (Rin T hi) w W := fun W hgs => ⟨HT1.out.goes hgs (fun i h e => by have := h.2; omega), goes_new (N := z) (by rw [← hz]; exact HG1.out) hgs hz⟩
  clear HT1 HG1
  refine bodyPost_ret (results_cell rfl _ _ (by rfl) (said_load (by go_simp) (by go_simp) (by go_simp))) rfl ⟨rfl, ?_⟩
  refine key _ ?_
  repeat (first | exact Goes.refl _ _ | refine Goes.trans ?_ (goes_set _ _ _ _ (by omega)))
set_option maxRecDepth 100000 in
set_option maxHeartbeats 4000000 in
theorem do4 (T hi cap : Nat) (t : Tn) (side n : Int) (s : ByteArray) (hs : s.size ≤ 5000) (hm : t.Sm) (w : World) (h : TunAt w T hi cap t) (hL : Laid w) :
    Calls Tryz.prog 17 #[.pointer (some ⟨T, 0, none⟩), .agg #[.int .i64 4, .int .i64 side, .int .i64 n, .string s]] w fun y w' => y = .returned (.agg #[.int .i64 (0), .string (str (drainS t side n)), .int .i64 (drainE side)]) ∧ TunAt w' T hi cap (drainT t side n) ∧ Goes (Rin T hi) w w' := by
  have lz : hi ≤ w.heap.size := by obtain ⟨_, _, _, q⟩ := h; exact q.lz
  have hB : Below w.heap.size w (doV w (.int .i64 4) (.int .i64 side) (.int .i64 n) (.string s)) := bal (bal (below_alloc w _) _) _
  have HB := Lib.hid hB
  have HT := Lib.hid (h.below hB)
  have HL := Lib.hid (hL.on hB)
  have HF := Lib.hid (show BoxS (doV w (.int .i64 4) (.int .i64 side) (.int .i64 n) (.string s)) (w.heap.size + 1) ∧ BoxS (doV w (.int .i64 4) (.int .i64 side) (.int .i64 n) (.string s)) (w.heap.size + 2) from ⟨by constructor <;> go_simp, by constructor <;> go_simp⟩)
  have HC := Lib.hid (tdrain_c T hi cap t side n _ hm HT.out HL.out)
  obtain ⟨EE, hE⟩ : ∃ v : Int, (drainE side) = v := ⟨_, rfl⟩
  rw [hE] at HC ⊢
  clear hE
  obtain ⟨SS, hS⟩ : ∃ v : ByteArray, (str (drainS t side n)) = v := ⟨_, rfl⟩
  rw [hS] at HC ⊢
  clear hS
  clear h hL hB
  go_enter Tryz.func17, Tryz.ntmps17
  go_wp2_with fail
  go_at_call 24
  refine HC.out.mono ?_
  rintro e w1 ⟨rfl, ht, hg⟩
  obtain ⟨⟨a0, a1, a2, b0, b1, b2⟩, ⟨c0, c1, c2, d0, d1, d2⟩⟩ := boxS2_on HF.out hg lz
  have HT1 := Lib.hid ht
  have HG1 : Hid (Goes (fun i => Rin T hi i ∨ w.heap.size ≤ i) w w1) := Lib.hid ((Goes.of_below HB.out).trans (hg.mono (fun _ h => .inl h)))
  clear ht hg HF HC
  obtain ⟨z, hz⟩ : ∃ z, w.heap.size = z := ⟨_, rfl⟩
  rw [hz] at a0 a1 a2 b0 b1 b2 c0 c1 c2 d0 d1 d2 ⊢
  have hne : z + 1 ≠ z + 2 := by omega
  go_wp2
  rw [hz] at lz
  have key : ∀ W, Goes (fun i => z ≤ i) w1 W → TunAt W T hi cap (drainT t side n) ∧ Goes (Rin T hi) w W := fun W hgs => ⟨HT1.out.goes hgs (fun i h e => by have := h.2; omega), goes_new (N := z) (by rw [← hz]; exact HG1.out) hgs hz⟩
  clear HT1 HG1
  refine bodyPost_ret (results_cell rfl _ _ (by rfl) (said_load (by go_simp) (by go_simp) (by go_simp))) rfl ⟨rfl, ?_⟩
  refine key _ ?_
  repeat (first | exact Goes.refl _ _ | refine Goes.trans ?_ (goes_set _ _ _ _ (by omega)))
set_option maxRecDepth 100000 in
set_option maxHeartbeats 4000000 in
theorem do5 (T hi cap : Nat) (t : Tn) (side n : Int) (s : ByteArray) (hs : s.size ≤ 5000) (hm : t.Sm) (w : World) (h : TunAt w T hi cap t) (hL : Laid w) :
    Calls Tryz.prog 17 #[.pointer (some ⟨T, 0, none⟩), .agg #[.int .i64 5, .int .i64 side, .int .i64 n, .string s]] w fun y w' => y = .returned (.agg #[.int .i64 ((stopN t : Nat)), .string (⟨#[]⟩), .int .i64 (0)]) ∧ TunAt w' T hi cap (stopT t) ∧ Goes (Rin T hi) w w' := by
  have lz : hi ≤ w.heap.size := by obtain ⟨_, _, _, q⟩ := h; exact q.lz
  have hB : Below w.heap.size w (doV w (.int .i64 5) (.int .i64 side) (.int .i64 n) (.string s)) := bal (bal (below_alloc w _) _) _
  have HB := Lib.hid hB
  have HT := Lib.hid (h.below hB)
  have HL := Lib.hid (hL.on hB)
  have HF := Lib.hid (show BoxS (doV w (.int .i64 5) (.int .i64 side) (.int .i64 n) (.string s)) (w.heap.size + 1) ∧ BoxS (doV w (.int .i64 5) (.int .i64 side) (.int .i64 n) (.string s)) (w.heap.size + 2) from ⟨by constructor <;> go_simp, by constructor <;> go_simp⟩)
  have HC := Lib.hid (tstop_c T hi cap t _ HT.out)
  obtain ⟨NN, hN⟩ : ∃ v : Int, ((stopN t : Nat)) = v := ⟨_, rfl⟩
  rw [hN] at HC ⊢
  clear hN
  clear h hL hB
  go_enter Tryz.func17, Tryz.ntmps17
  go_wp2_with fail
  go_at_call 16
  refine HC.out.mono ?_
  rintro e w1 ⟨rfl, ht, hg⟩
  obtain ⟨⟨a0, a1, a2, b0, b1, b2⟩, ⟨c0, c1, c2, d0, d1, d2⟩⟩ := boxS2_on HF.out hg lz
  have HT1 := Lib.hid ht
  have HG1 : Hid (Goes (fun i => Rin T hi i ∨ w.heap.size ≤ i) w w1) := Lib.hid ((Goes.of_below HB.out).trans (hg.mono (fun _ h => .inl h)))
  clear ht hg HF HC
  obtain ⟨z, hz⟩ : ∃ z, w.heap.size = z := ⟨_, rfl⟩
  rw [hz] at a0 a1 a2 b0 b1 b2 c0 c1 c2 d0 d1 d2 ⊢
  have hne : z + 1 ≠ z + 2 := by omega
  go_wp2
  rw [hz] at lz
  have key : ∀ W, Goes (fun i => z ≤ i) w1 W → TunAt W T hi cap (stopT t) ∧ Goes (Rin T hi) w W := fun W hgs => ⟨HT1.out.goes hgs (fun i h e => by have := h.2; omega), goes_new (N := z) (by rw [← hz]; exact HG1.out) hgs hz⟩
  clear HT1 HG1
  refine bodyPost_ret (results_cell rfl _ _ (by rfl) (said_load (by go_simp) (by go_simp) (by go_simp))) rfl ⟨rfl, ?_⟩
  refine key _ ?_
  repeat (first | exact Goes.refl _ _ | refine Goes.trans ?_ (goes_set _ _ _ _ (by omega)))
set_option maxRecDepth 100000 in
set_option maxHeartbeats 4000000 in
theorem do6 (k : Int) (hk0 : k ≠ 0) (hk1 : k ≠ 1) (hk2 : k ≠ 2) (hk3 : k ≠ 3) (hk4 : k ≠ 4) (hk5 : k ≠ 5) (T hi cap : Nat) (t : Tn) (side n : Int) (s : ByteArray) (hs : s.size ≤ 5000) (hm : t.Sm) (w : World) (h : TunAt w T hi cap t) (hL : Laid w) :
    Calls Tryz.prog 17 #[.pointer (some ⟨T, 0, none⟩), .agg #[.int .i64 k, .int .i64 side, .int .i64 n, .string s]] w fun y w' => y = .returned (.agg #[.int .i64 (0), .string (⟨#[]⟩), .int .i64 (0)]) ∧ TunAt w' T hi cap (t) ∧ Goes (Rin T hi) w w' := by
  have lz : hi ≤ w.heap.size := by obtain ⟨_, _, _, q⟩ := h; exact q.lz
  have hB : Below w.heap.size w (doV w (.int .i64 k) (.int .i64 side) (.int .i64 n) (.string s)) := bal (bal (below_alloc w _) _) _
  have HB := Lib.hid hB
  have HT := Lib.hid (h.below hB)
  have HL := Lib.hid (hL.on hB)
  have HF := Lib.hid (show BoxS (doV w (.int .i64 k) (.int .i64 side) (.int .i64 n) (.string s)) (w.heap.size + 1) ∧ BoxS (doV w (.int .i64 k) (.int .i64 side) (.int .i64 n) (.string s)) (w.heap.size + 2) from ⟨by constructor <;> go_simp, by constructor <;> go_simp⟩)
  have e0 : (k == 0) = false := by simpa using hk0
  have e1 : (k == 1) = false := by simpa using hk1
  have e2 : (k == 2) = false := by simpa using hk2
  have e3 : (k == 3) = false := by simpa using hk3
  have e4 : (k == 4) = false := by simpa using hk4
  have e5 : (k == 5) = false := by simpa using hk5
  clear h hL hB
  go_enter Tryz.func17, Tryz.ntmps17
  go_wp2_with fail
  obtain ⟨⟨a0, a1, a2, b0, b1, b2⟩, ⟨c0, c1, c2, d0, d1, d2⟩⟩ := HF.out
  have key : ∀ W, Goes (fun i => w.heap.size ≤ i) (doV w (.int .i64 k) (.int .i64 side) (.int .i64 n) (.string s)) W → TunAt W T hi cap (t) ∧ Goes (Rin T hi) w W := fun W hgs => ⟨HT.out.goes hgs (fun i h e => by have := h.2; omega), goes_new (N := w.heap.size) (Goes.of_below HB.out) hgs rfl⟩
  clear HT HB HF HL
  refine bodyPost_ret (results_cell rfl _ _ (by rfl) (said_load (by go_simp) (by go_simp) (by go_simp))) rfl ⟨rfl, ?_⟩
  refine key _ ?_
  repeat (first | exact Goes.refl _ _ | refine Goes.trans ?_ (goes_set _ _ _ _ (by omega)))
/-- A call's answer. -/
theorem do_c (T hi cap : Nat) (t : Tn) (x : OpV) (hs : x.s.size ≤ 5000) (hm : t.Sm) (w : World) (h : TunAt w T hi cap t) (hL : Laid w) :
    Calls Tryz.prog 17 #[.pointer (some ⟨T, 0, none⟩), opV x] w fun y w' => y = .returned (.agg #[.int .i64 (doN cap t x : Nat), .string (str (doS t x)), .int .i64 (doE t x)]) ∧ TunAt w' T hi cap (doT cap t x) ∧ Goes (Rin T hi) w w' := by
  obtain ⟨k, side, n, s⟩ := x
  by_cases k0 : k = 0
  · subst k0; exact do0 T hi cap t side n s hs hm w h hL
  by_cases k1 : k = 1
  · subst k1; exact do1 T hi cap t side n s hs hm w h hL
  by_cases k2 : k = 2
  · subst k2; exact do2 T hi cap t side n s hs hm w h hL
  by_cases k3 : k = 3
  · subst k3; exact do3 T hi cap t side n s hs hm w h hL
  by_cases k4 : k = 4
  · subst k4; exact do4 T hi cap t side n s hs hm w h hL
  by_cases k5 : k = 5
  · subst k5; exact do5 T hi cap t side n s hs hm w h hL
  have := do6 k k0 k1 k2 k3 k4 k5 T hi cap t side n s hs hm w h hL
  unfold doN doS doE doT
  simp only [k0, k1, k2, k3, k4, k5, if_false]
  exact this
end Go.Proofs.YtkokcfhfgnkdfaaGreatDoor.L17

/- Plain facts of runs: counts stay small; what is up. -/
namespace Go.Proofs.YtkokcfhfgnkdfaaGreatDoor.L17
open L14 (isSt goes dest inB outB endB)

/-- Counts of a way are at most c. -/
structure Wy.Cn (y : Wy) (c : Nat) : Prop where
  fd : y.fd ≤ c
  mv : y.mv + y.i.length ≤ c
  dr : y.dr + y.o.length ≤ y.mv
theorem Wy.Cn.mono {y : Wy} {c d : Nat} (h : y.Cn c) (hd : c ≤ d) : y.Cn d := ⟨Nat.le_trans h.fd hd, Nat.le_trans h.mv hd, h.dr⟩
theorem Did.cn {cap : Nat} {t : Tn} {x : OpV} {d : Int} {y : Wy} {i o : List UInt8} (hd : Did cap t x d y i o) {c B : Nat} (h : (t.way d).Cn c) (hB : x.s.size ≤ B) : y.Cn (c + B) := by
  obtain ⟨h1, h2, h3⟩ := h
  cases hd with
  | none _ => exact ⟨by omega, by omega, h3⟩
  | grant _ _ _ _ => exact ⟨by show (t.way d).fd ≤ _; omega, by show (t.way d).mv + (t.way d).i.length ≤ _; omega, h3⟩
  | feed _ _ _ _ =>
    have hm : feedN cap (t.way d) x.s ≤ x.s.size := Nat.min_le_left _ _
    have hl : ((t.way d).i ++ x.s.data.toList.take (cap - (t.way d).i.length)).length ≤ (t.way d).i.length + x.s.size := by
      rw [List.length_append, List.length_take, Array.length_toList]; have : x.s.data.size = x.s.size := rfl; omega
    exact ⟨by show (t.way d).fd + _ ≤ _; omega, by show (t.way d).mv + _ ≤ _; simp only [feedW]; omega, h3⟩
  | move _ _ _ _ _ =>
    obtain ⟨m1, m2, m3⟩ := move_le cap (t.way d) x.n
    exact ⟨by show (t.way d).fd ≤ _; omega, by simp only [moveW, List.length_drop]; omega, by simp only [moveW, List.length_append, List.length_take]; omega⟩
  | drain _ _ _ =>
    exact ⟨by show (t.way d).fd ≤ _; omega, by show (t.way d).mv + (t.way d).i.length ≤ _; omega, by
      simp only [drainW, List.length_take, List.length_drop]; omega⟩
  | clear _ _ => exact ⟨by show (t.way d).fd ≤ _; omega, by simp only [clearW, List.length_nil]; omega, h3⟩
/-- .. of both ways. -/
structure Tn.Cn (t : Tn) (c : Nat) : Prop where
  a : t.a.Cn c
  b : t.b.Cn c
theorem Tn.Cn.mono' {t : Tn} {c d : Nat} (h : t.Cn c) (hd : c ≤ d) : t.Cn d := ⟨h.a.mono hd, h.b.mono hd⟩
theorem Tn.Cn.sm {t : Tn} {c : Nat} (h : t.Cn c) (hc : c ≤ 1000000000) : t.Sm := by
  intro d
  unfold Tn.way
  obtain ⟨⟨a1, a2, a3⟩, ⟨b1, b2, b3⟩⟩ := h
  split
  · exact ⟨by omega, by omega, by omega⟩
  · exact ⟨by omega, by omega, by omega⟩
theorem Tn.Cn.step {cap : Nat} {t : Tn} {c B : Nat} (h : t.Cn c) (x : OpV) (hB : x.s.size ≤ B) : (doT cap t x).Cn (c + B) :=
  ⟨(did cap t x (d := 0) rfl).cn h.a hB, (did cap t x (d := 1) rfl).cn h.b hB⟩
theorem Tn.Cn.run {cap B : Nat} (l : List OpV) : ∀ {t : Tn} {c : Nat}, t.Cn c → (∀ x ∈ l, x.s.size ≤ B) → (runT cap t l).Cn (c + B * l.length) := by
  induction l with
  | nil => intro t c h _; simpa [runT] using h
  | cons x l ih =>
    intro t c h hl
    have := ih (h.step (cap := cap) x (hl x List.mem_cons_self)) (fun y hy => hl y (List.mem_cons_of_mem _ hy))
    refine ⟨this.a.mono ?_, this.b.mono ?_⟩ <;> (simp only [List.length_cons, Nat.mul_succ]; omega)
/-- A tunnel that is up, with some credit. -/
def upT : Tn := ⟨2, ⟨[], [], 10, 0, 0, 0, 0⟩, ⟨[], [], 10, 0, 0, 0, 0⟩⟩
theorem up_cn : upT.Cn 0 := ⟨⟨Nat.le_refl _, Nat.le_refl _, Nat.le_refl _⟩, ⟨Nat.le_refl _, Nat.le_refl _, Nat.le_refl _⟩⟩
theorem new_cn : Tn.new.Cn 0 := ⟨⟨Nat.le_refl _, Nat.le_refl _, Nat.le_refl _⟩, ⟨Nat.le_refl _, Nat.le_refl _, Nat.le_refl _⟩⟩
theorem up_way (cap : Nat) (y : Wy) (h : y = ⟨[], [], 10, 0, 0, 0, 0⟩) : Way1 cap y [] [] false := by
  subst h
  exact ⟨⟨by simp, by simp, by simp, by simp, by simp, by simp⟩, rfl, rfl, rfl, rfl, List.prefix_refl _, fun _ => rfl⟩
theorem up_both (cap : Nat) : Both cap upT [] [] [] [] := ⟨by decide, up_way cap _ rfl, up_way cap _ rfl⟩
theorem take_le50 {B : Nat} {l : List OpV} (h : ∀ x ∈ l, x.s.size ≤ B) (k : Nat) : ∀ x ∈ l.take k, x.s.size ≤ B := fun x hx => h x (List.mem_of_mem_take hx)
theorem up_sm {cap : Nat} {l : List OpV} (h : ∀ x ∈ l, x.s.size ≤ 50) (hl : l.length ≤ 50) (k : Nat) : (runT cap upT (l.take k)).Sm := by
  have := up_cn.run (cap := cap) (l.take k) (take_le50 h k)
  refine this.sm ?_
  rw [List.length_take]
  omega
end Go.Proofs.YtkokcfhfgnkdfaaGreatDoor.L17

/- shown. -/
namespace Go.Proofs.YtkokcfhfgnkdfaaGreatDoor.L17
open Go.RowKit Go.Shelf
open L1 (str)
open L14 (isSt goes dest inB outB endB Laid)
attribute [local go_sem] Oper.semAt_some
def sh0 : Tn := Tn.new
def sh1 : Tn := eventT sh0 1
def sh2 : Tn := feedT 4 sh1 0 ⟨#[97]⟩
def sh3 : Tn := eventT sh2 2
def sh4 : Tn := grantT sh3 0 3
def sh5 : Tn := feedT 4 sh4 0 ⟨#[97, 98, 99, 100, 101, 102]⟩
def sh6 : Tn := moveT 4 sh5 0 9
def sh7 : Tn := drainT sh6 0 9
def sh8 : Tn := stopT sh7
def sh9 : Tn := moveT 4 sh8 0 1
theorem sh_v0 : eventE sh0 1 = 0 := by decide +kernel
theorem sh_v1 : feedE sh1 0 = 171 ∧ feedTN 4 sh1 0 ⟨#[97]⟩ = 0 := by decide +kernel
theorem sh_v2 : eventE sh2 2 = 0 := by decide +kernel
theorem sh_v3 : grantTE sh3 0 3 = 0 := by decide +kernel
theorem sh_v4 : feedE sh4 0 = 0 ∧ feedTN 4 sh4 0 ⟨#[97, 98, 99, 100, 101, 102]⟩ = 4 := by decide +kernel
theorem sh_v5 : moveE sh5 0 9 = 0 ∧ moveTN 4 sh5 0 9 = 3 := by decide +kernel
theorem sh_v6 : drainE 0 = 0 ∧ str (drainS sh6 0 9) = ⟨#[97, 98, 99]⟩ := by decide +kernel
theorem sh_v7 : stopN sh7 = 1 := by decide +kernel
theorem sh_v8 : moveE sh8 0 1 = 171 ∧ moveTN 4 sh8 0 1 = 0 := by decide +kernel
theorem sh_m0 : sh0.Sm := by
  have h : sh0.a.fd ≤ 10 ∧ sh0.a.mv ≤ 10 ∧ sh0.a.dr ≤ 10 ∧ sh0.b.fd ≤ 10 ∧ sh0.b.mv ≤ 10 ∧ sh0.b.dr ≤ 10 := by decide +kernel
  intro d; unfold Tn.way; split <;> omega
theorem sh_m1 : sh1.Sm := by
  have h : sh1.a.fd ≤ 10 ∧ sh1.a.mv ≤ 10 ∧ sh1.a.dr ≤ 10 ∧ sh1.b.fd ≤ 10 ∧ sh1.b.mv ≤ 10 ∧ sh1.b.dr ≤ 10 := by decide +kernel
  intro d; unfold Tn.way; split <;> omega
theorem sh_m2 : sh2.Sm := by
  have h : sh2.a.fd ≤ 10 ∧ sh2.a.mv ≤ 10 ∧ sh2.a.dr ≤ 10 ∧ sh2.b.fd ≤ 10 ∧ sh2.b.mv ≤ 10 ∧ sh2.b.dr ≤ 10 := by decide +kernel
  intro d; unfold Tn.way; split <;> omega
theorem sh_m3 : sh3.Sm := by
  have h : sh3.a.fd ≤ 10 ∧ sh3.a.mv ≤ 10 ∧ sh3.a.dr ≤ 10 ∧ sh3.b.fd ≤ 10 ∧ sh3.b.mv ≤ 10 ∧ sh3.b.dr ≤ 10 := by decide +kernel
  intro d; unfold Tn.way; split <;> omega
theorem sh_m4 : sh4.Sm := by
  have h : sh4.a.fd ≤ 10 ∧ sh4.a.mv ≤ 10 ∧ sh4.a.dr ≤ 10 ∧ sh4.b.fd ≤ 10 ∧ sh4.b.mv ≤ 10 ∧ sh4.b.dr ≤ 10 := by decide +kernel
  intro d; unfold Tn.way; split <;> omega
theorem sh_m5 : sh5.Sm := by
  have h : sh5.a.fd ≤ 10 ∧ sh5.a.mv ≤ 10 ∧ sh5.a.dr ≤ 10 ∧ sh5.b.fd ≤ 10 ∧ sh5.b.mv ≤ 10 ∧ sh5.b.dr ≤ 10 := by decide +kernel
  intro d; unfold Tn.way; split <;> omega
theorem sh_m6 : sh6.Sm := by
  have h : sh6.a.fd ≤ 10 ∧ sh6.a.mv ≤ 10 ∧ sh6.a.dr ≤ 10 ∧ sh6.b.fd ≤ 10 ∧ sh6.b.mv ≤ 10 ∧ sh6.b.dr ≤ 10 := by decide +kernel
  intro d; unfold Tn.way; split <;> omega
theorem sh_m7 : sh7.Sm := by
  have h : sh7.a.fd ≤ 10 ∧ sh7.a.mv ≤ 10 ∧ sh7.a.dr ≤ 10 ∧ sh7.b.fd ≤ 10 ∧ sh7.b.mv ≤ 10 ∧ sh7.b.dr ≤ 10 := by decide +kernel
  intro d; unfold Tn.way; split <;> omega
theorem sh_m8 : sh8.Sm := by
  have h : sh8.a.fd ≤ 10 ∧ sh8.a.mv ≤ 10 ∧ sh8.a.dr ≤ 10 ∧ sh8.b.fd ≤ 10 ∧ sh8.b.mv ≤ 10 ∧ sh8.b.dr ≤ 10 := by decide +kernel
  intro d; unfold Tn.way; split <;> omega
theorem sh_m9 : sh9.Sm := by
  have h : sh9.a.fd ≤ 10 ∧ sh9.a.mv ≤ 10 ∧ sh9.a.dr ≤ 10 ∧ sh9.b.fd ≤ 10 ∧ sh9.b.mv ≤ 10 ∧ sh9.b.dr ≤ 10 := by decide +kernel
  intro d; unfold Tn.way; split <;> omega
theorem sh_s : sh9.st = 6 := by decide +kernel
set_option maxRecDepth 100000 in
set_option maxHeartbeats 4000000 in
theorem shown_c (w : World) (hL : Laid w) : Calls Tryz.prog 10 #[] w fun y w' => y = .returned (.bool true) ∧ Below w.heap.size w w' := by
  have HN := Lib.hid (tnew_ok 4 (by decide) (by decide) w hL)
  have HL := Lib.hid hL
  have lg0 := blt hL
  clear hL
  go_enter Tryz.func10, Tryz.ntmps10
  go_wp2_with fail
  go_at_call 12
  refine HN.out.mono ?_
  rintro e v0 ⟨rfl, ht, hb⟩
  have HTn0 := Lib.hid ht
  have HB0 := Lib.hid hb
  have HLn0 := Lib.hid (HL.out.on hb)
  have HG0 := Lib.hid (Goes.refl (Rin w.heap.size v0.heap.size) v0)
  clear ht hb
  obtain ⟨T, hT⟩ : ∃ T, w.heap.size = T := ⟨_, rfl⟩
  obtain ⟨hi, hh⟩ : ∃ hi, v0.heap.size = hi := ⟨_, rfl⟩
  have lg : 0 < T := by omega
  rw [hT, hh] at HTn0 HG0
  rw [hT]
  go_wp2_with fail
  have hc := tevent_c T hi 4 sh0 1 _ HTn0.out HLn0.out
  rw [sh_v0] at hc
  change Calls Tryz.prog _ _ _ (fun x w' => _ ∧ TunAt w' T hi 4 sh1 ∧ _) at hc
  go_at_call 14
  refine hc.mono ?_
  clear hc
  rintro e v1 ⟨rfl, ht, hg⟩
  have HTn1 := Lib.hid ht
  have HLn1 := Lib.hid (laid_on HLn0.out hg lg)
  have HG1 := Lib.hid (HG0.out.trans hg)
  clear ht hg
  go_wp2_with fail
  have hc := tfeed_c T hi 4 sh1 0 ⟨#[97]⟩ _ (by decide) sh_m1 HTn1.out HLn1.out
  rw [sh_v1.1, sh_v1.2] at hc
  change Calls Tryz.prog _ _ _ (fun x w' => _ ∧ TunAt w' T hi 4 sh2 ∧ _) at hc
  go_at_call 25
  refine hc.mono ?_
  clear hc
  rintro e v2 ⟨rfl, ht, hg⟩
  have HTn2 := Lib.hid ht
  have HLn2 := Lib.hid (laid_on HLn1.out hg lg)
  have HG2 := Lib.hid (HG1.out.trans hg)
  clear ht hg
  go_wp2_with fail
  have hc := tevent_c T hi 4 sh2 2 _ HTn2.out HLn2.out
  rw [sh_v2] at hc
  change Calls Tryz.prog _ _ _ (fun x w' => _ ∧ TunAt w' T hi 4 sh3 ∧ _) at hc
  go_at_call 14
  refine hc.mono ?_
  clear hc
  rintro e v3 ⟨rfl, ht, hg⟩
  have HTn3 := Lib.hid ht
  have HLn3 := Lib.hid (laid_on HLn2.out hg lg)
  have HG3 := Lib.hid (HG2.out.trans hg)
  clear ht hg
  go_wp2_with fail
  have hc := tgrant_c T hi 4 sh3 0 3 _ HTn3.out HLn3.out
  rw [sh_v3] at hc
  change Calls Tryz.prog _ _ _ (fun x w' => _ ∧ TunAt w' T hi 4 sh4 ∧ _) at hc
  go_at_call 22
  refine hc.mono ?_
  clear hc
  rintro e v4 ⟨rfl, ht, hg⟩
  have HTn4 := Lib.hid ht
  have HLn4 := Lib.hid (laid_on HLn3.out hg lg)
  have HG4 := Lib.hid (HG3.out.trans hg)
  clear ht hg
  go_wp2_with fail
  have hc := tfeed_c T hi 4 sh4 0 ⟨#[97, 98, 99, 100, 101, 102]⟩ _ (by decide) sh_m4 HTn4.out HLn4.out
  rw [sh_v4.1, sh_v4.2] at hc
  change Calls Tryz.prog _ _ _ (fun x w' => _ ∧ TunAt w' T hi 4 sh5 ∧ _) at hc
  go_at_call 25
  refine hc.mono ?_
  clear hc
  rintro e v5 ⟨rfl, ht, hg⟩
  have HTn5 := Lib.hid ht
  have HLn5 := Lib.hid (laid_on HLn4.out hg lg)
  have HG5 := Lib.hid (HG4.out.trans hg)
  clear ht hg
  go_wp2_with fail
  have hc := tmove_c T hi 4 sh5 0 9 _ sh_m5 HTn5.out HLn5.out
  rw [sh_v5.1, sh_v5.2] at hc
  change Calls Tryz.prog _ _ _ (fun x w' => _ ∧ TunAt w' T hi 4 sh6 ∧ _) at hc
  go_at_call 23
  refine hc.mono ?_
  clear hc
  rintro e v6 ⟨rfl, ht, hg⟩
  have HTn6 := Lib.hid ht
  have HLn6 := Lib.hid (laid_on HLn5.out hg lg)
  have HG6 := Lib.hid (HG5.out.trans hg)
  clear ht hg
  go_wp2_with fail
  have hc := tdrain_c T hi 4 sh6 0 9 _ sh_m6 HTn6.out HLn6.out
  rw [sh_v6.1, sh_v6.2] at hc
  change Calls Tryz.prog _ _ _ (fun x w' => _ ∧ TunAt w' T hi 4 sh7 ∧ _) at hc
  go_at_call 24
  refine hc.mono ?_
  clear hc
  rintro e v7 ⟨rfl, ht, hg⟩
  have HTn7 := Lib.hid ht
  have HLn7 := Lib.hid (laid_on HLn6.out hg lg)
  have HG7 := Lib.hid (HG6.out.trans hg)
  clear ht hg
  go_wp2_with fail
  have hc := tstop_c T hi 4 sh7 _ HTn7.out
  rw [sh_v7] at hc
  change Calls Tryz.prog _ _ _ (fun x w' => _ ∧ TunAt w' T hi 4 sh8 ∧ _) at hc
  go_at_call 16
  refine hc.mono ?_
  clear hc
  rintro e v8 ⟨rfl, ht, hg⟩
  have HTn8 := Lib.hid ht
  have HLn8 := Lib.hid (laid_on HLn7.out hg lg)
  have HG8 := Lib.hid (HG7.out.trans hg)
  clear ht hg
  go_wp2_with fail
  have hc := tmove_c T hi 4 sh8 0 1 _ sh_m8 HTn8.out HLn8.out
  rw [sh_v8.1, sh_v8.2] at hc
  change Calls Tryz.prog _ _ _ (fun x w' => _ ∧ TunAt w' T hi 4 sh9 ∧ _) at hc
  go_at_call 23
  refine hc.mono ?_
  clear hc
  rintro e v9 ⟨rfl, ht, hg⟩
  have HTn9 := Lib.hid ht
  have HLn9 := Lib.hid (laid_on HLn8.out hg lg)
  have HG9 := Lib.hid (HG8.out.trans hg)
  clear ht hg
  have hc := tstate_c T hi 4 sh9 _ HTn9.out
  rw [sh_s] at hc
  have HC := Lib.hid hc
  clear hc
  go_wp2_with (go_at_call 15; refine HC.out.mono ?_; rintro e v10 ⟨rfl, rfl⟩)
  go_ret
  refine ⟨rfl, HG9.out.below HB0.out (fun i h => by have := h.1; omega)⟩
end Go.Proofs.YtkokcfhfgnkdfaaGreatDoor.L17

/- Made: a tunnel that is up, behind some calls. -/
namespace Go.Proofs.YtkokcfhfgnkdfaaGreatDoor.L17
open Go.RowKit Go.Shelf
open L1 (str)
open L14 (isSt goes dest inB outB endB Laid)
attribute [local go_sem] Oper.semAt_some
/-- Calls that lie outside of a stretch. -/
def OpsF (T hi : Nat) (W : World) (a : Option Addr) (l : List OpV) : Prop := ∀ k, (h : k < l.length) → ∃ b off, a = some ⟨b, off, none⟩ ∧ ¬ Rin T hi b ∧ W.cell? ⟨b, off + k * 4, none⟩ = some (.int .i64 l[k].kind) ∧ W.cell? ⟨b, off + k * 4 + 1, none⟩ = some (.int .i64 l[k].side) ∧ W.cell? ⟨b, off + k * 4 + 2, none⟩ = some (.int .i64 l[k].n) ∧ W.cell? ⟨b, off + k * 4 + 3, none⟩ = some (.string l[k].s)
theorem OpsF.goes {T hi : Nat} {A B : World} {a : Option Addr} {l : List OpV} (h : OpsF T hi A a l) (hg : Goes (Rin T hi) A B) : OpsF T hi B a l := fun k hk => by
  obtain ⟨b, off, rfl, hn, c0, c1, c2, c3⟩ := h k hk
  exact ⟨b, off, rfl, hn, hg.cell c0 hn, hg.cell c1 hn, hg.cell c2 hn, hg.cell c3 hn⟩
theorem OpsF.below {T hi : Nat} {A B : World} {a : Option Addr} {l : List OpV} (h : OpsF T hi A a l) (hb : Below A.heap.size A B) : OpsF T hi B a l := h.goes (Goes.of_below hb)
theorem OpVAt.out {n T hi : Nat} {A : World} {a : Option Addr} {l : List OpV} (h : OpVAt n A a l) (hn : n ≤ T) : OpsF T hi A a l := fun k hk => by
  obtain ⟨b, off, rfl, hb, c⟩ := h k hk
  exact ⟨b, off, rfl, fun e => by have := e.1; omega, c⟩
theorem row_out {W : World} {z T hi : Nat} {v : Value} {l : List OpV} (h : W.ownsRow z 38 4 v l.length (opCs l)) (hz : hi ≤ z) : ∃ a c, v = .slice a l.length c ∧ OpsF T hi W a l := by
  have hlt := fun g e => (row_lt h (g := g) e).1
  obtain ⟨a, c, rfl, hA⟩ := op_of_row h
  refine ⟨a, c, rfl, fun k hk => ?_⟩
  obtain ⟨b, off, ha, hb, cc⟩ := hA k hk
  refine ⟨b, off, ha, fun e => ?_, cc⟩
  rcases h.2 with ⟨h1, h0⟩ | ⟨g, cap, cur, h1, h2, _⟩
  · omega
  · have e1 : a = some ⟨g, 0, none⟩ := by injection h1
    rw [e1] at ha
    have e2 : g = b := by injection ha with ha; injection ha
    have := e.2
    omega
theorem laid_go {T hi : Nat} {A B : World} (hL : Laid A) (hg : Goes (Rin T hi) A B) (hl : 0 < T) : Laid B := laid_on hL hg hl

def mk1 : Tn := eventT Tn.new 1
def mk2 : Tn := eventT mk1 2
def mk3 : Tn := grantT mk2 0 10
theorem mk4_up : grantT mk3 1 10 = upT := by rfl
/-- What Made leaves. -/
def MadeP (n : Nat) (l : List OpV) (w : World) (y : Ending) (w' : World) : Prop := ∃ T hi, y = .returned (.tuple #[.pointer (some ⟨T, 0, none⟩), .bool true]) ∧ TunAt w' T hi n (runT n upT (cutL l)) ∧ w.heap.size ≤ T ∧ Below w.heap.size w w'
set_option maxRecDepth 100000 in
set_option maxHeartbeats 4000000 in
theorem Made_ok (n : Nat) (h1 : 1 ≤ n) (h2 : n ≤ 4096) (a : Option Addr) (cap : Nat) (l : List OpV) (hs : l.length ≤ 9223372036854775807) (w : World) (hA : OpVAt w.heap.size w a l) (hL : Laid w) :
    Calls Tryz.prog 20 #[.int .i64 (n : Int), .slice a l.length cap] w (MadeP n l w) := by
  have HN := Lib.hid (tnew_ok n h1 h2 w hL)
  have HL := Lib.hid hL
  have HA := Lib.hid hA
  have lg0 := blt hL
  have HCu := Lib.hid (fun W h => Cut_c a cap l hs W h)
  clear hL hA
  go_enter Tryz.func20, Tryz.ntmps20
  go_wp2_with fail
  go_at_call 12
  refine HN.out.mono ?_
  rintro e v0 ⟨rfl, ht, hb⟩
  have HTn0 := Lib.hid ht
  have HB0 := Lib.hid hb
  have HLn0 := Lib.hid (HL.out.on hb)
  have HG0 := Lib.hid (Goes.refl (Rin w.heap.size v0.heap.size) v0)
  clear ht hb
  obtain ⟨T, hT⟩ : ∃ T, w.heap.size = T := ⟨_, rfl⟩
  obtain ⟨hi, hh⟩ : ∃ hi, v0.heap.size = hi := ⟨_, rfl⟩
  have lg : 0 < T := by omega
  rw [hT, hh] at HTn0 HG0
  rw [hT]
  go_wp2_with fail
  have hc := tevent_c T hi n Tn.new 1 _ HTn0.out HLn0.out
  change Calls Tryz.prog _ _ _ (fun x w' => _ ∧ TunAt w' T hi n mk1 ∧ _) at hc
  go_at_call 14
  refine hc.mono ?_
  clear hc
  rintro e v1 ⟨rfl, ht, hg⟩
  have HTn1 := Lib.hid ht
  have HLn1 := Lib.hid (laid_on HLn0.out hg lg)
  have HG1 := Lib.hid (HG0.out.trans hg)
  clear ht hg
  go_wp2_with fail
  have hc := tevent_c T hi n mk1 2 _ HTn1.out HLn1.out
  change Calls Tryz.prog _ _ _ (fun x w' => _ ∧ TunAt w' T hi n mk2 ∧ _) at hc
  go_at_call 14
  refine hc.mono ?_
  clear hc
  rintro e v2 ⟨rfl, ht, hg⟩
  have HTn2 := Lib.hid ht
  have HLn2 := Lib.hid (laid_on HLn1.out hg lg)
  have HG2 := Lib.hid (HG1.out.trans hg)
  clear ht hg
  go_wp2_with fail
  have hc := tgrant_c T hi n mk2 0 10 _ HTn2.out HLn2.out
  change Calls Tryz.prog _ _ _ (fun x w' => _ ∧ TunAt w' T hi n mk3 ∧ _) at hc
  go_at_call 22
  refine hc.mono ?_
  clear hc
  rintro e v3 ⟨rfl, ht, hg⟩
  have HTn3 := Lib.hid ht
  have HLn3 := Lib.hid (laid_on HLn2.out hg lg)
  have HG3 := Lib.hid (HG2.out.trans hg)
  clear ht hg
  go_wp2_with fail
  have hc := tgrant_c T hi n mk3 1 10 _ HTn3.out HLn3.out
  rw [mk4_up] at hc
  go_at_call 22
  refine hc.mono ?_
  clear hc
  rintro e v4 ⟨rfl, ht, hg⟩
  have HTn4 := Lib.hid ht
  have HLn4 := Lib.hid (laid_on HLn3.out hg lg)
  have HG4 := Lib.hid (HG3.out.trans hg)
  clear ht hg
  have HB4 : Hid (Below w.heap.size w v4) := Lib.hid (HG4.out.below HB0.out (fun i h => by have := h.1; omega))
  go_wp2_with fail
  go_at_call 11
  refine (HCu.out _ (HA.out.on HB4.out)).mono ?_
  rintro e v5 ⟨v, rfl, ho, hb⟩
  have z4 : hi ≤ v4.heap.size := by have := HG4.out.size; omega
  obtain ⟨a2, c2, rfl, hof⟩ := row_out (T := T) (hi := hi) ho z4
  have HOF := Lib.hid hof
  have HT5 := Lib.hid (HTn4.out.below hb)
  have HL5 := Lib.hid (HLn4.out.on hb)
  have HB5 := Lib.hid (btr HB4.out hb)
  have hsz := cutL_size l
  have hln := cutL_len l
  have HZ := Lib.hid (And.intro hsz hln)
  obtain ⟨ys, hys⟩ : ∃ ys, cutL l = ys := ⟨_, rfl⟩
  rw [hys] at HOF HZ hln ⊢
  have HY := Lib.hid hys
  clear ho hof hb hsz hys
  go_wp2
  go_loopw [8] (fun i wr => ∃ k : Nat, k ≤ ys.length ∧ i = .int .i64 (k : Int) ∧ Hid (TunAt wr T hi n (runT n upT (ys.take k))) ∧ Hid (Goes (Rin T hi) v5 wr)) (fun i _ => ys.length - (intOf i).toNat)
  case atStart => exact ⟨0, Nat.zero_le _, rfl, Lib.hid (by simpa [runT] using HT5.out), Lib.hid (Goes.refl _ _)⟩
  case round =>
    obtain ⟨k, hk, rfl, HT, HG⟩ := hrel
    by_cases hlt : k < ys.length
    · have hlt' : (k : Int) < (ys.length : Int) := by omega
      obtain ⟨b, off, rfl, hbn, d0, d1, d2, d3⟩ := (HOF.out.goes HG.out) k hlt
      have hstep := Lib.hid (run_take n upT ys k hlt)
      have hxs := HZ.out.1 ys[k] (List.getElem_mem hlt)
      have HD := Lib.hid (do_c T hi n (runT n upT (ys.take k)) ys[k] (by omega) (up_sm HZ.out.1 HZ.out.2 k) wr HT.out (laid_on HL5.out HG.out lg))
      unfold opV at HD
      generalize ys[k] = x at *
      clear hbn hxs
      go_wp2_with (go_at_call 17; refine HD.out.mono ?_; rintro e w6 ⟨rfl, ht6, hg6⟩; have HT6 := Lib.hid ht6; have HG6 := Lib.hid hg6; clear ht6 hg6)
      go_roundw
      case rel => exact ⟨k + 1, by omega, by go_num, by rw [hstep.out]; exact HT6, Lib.hid (HG.out.trans HG6.out)⟩
      case measure => simp [intOf]; omega
    · obtain rfl : k = ys.length := by omega
      have hlt' : ¬ (ys.length : Int) < (ys.length : Int) := by omega
      rw [List.take_length] at HT
      go_wp2
      go_ret2
      exact ⟨T, hi, rfl, by rw [HY.out]; exact HT.out, by omega, HG.out.below HB5.out (fun i h => by have := h.1; omega)⟩
theorem Made_err (n : Int) (h : n < 1 ∨ 4096 < n) (sv : Value) (w : World) :
    Calls Tryz.prog 20 #[.int .i64 n, sv] w fun y w' => y = .returned (.tuple #[.pointer none, .bool false]) ∧ Below w.heap.size w w' := by
  have HN := Lib.hid (tnew_err n h w)
  clear h
  go_enter Tryz.func20, Tryz.ntmps20
  go_wp2_with (go_at_call 12; refine HN.out.mono ?_; rintro e v0 ⟨rfl, hb⟩)
  go_ret2
  exact ⟨rfl, hb⟩
end Go.Proofs.YtkokcfhfgnkdfaaGreatDoor.L17

/- Plain facts of runs behind Stop, in one direction, and their counts. -/
namespace Go.Proofs.YtkokcfhfgnkdfaaGreatDoor.L17
open L14 (isSt goes dest inB outB endB)

theorem Did.dead {cap : Nat} {t : Tn} {x : OpV} {d : Int} {y : Wy} {i o : List UInt8} (hd : Did cap t x d y i o) (he : endB t.st = true) (hi : (t.way d).i = []) : y.i = [] ∧ y.fd = (t.way d).fd ∧ y.mv = (t.way d).mv := by
  cases hd with
  | none _ => exact ⟨hi, rfl, rfl⟩
  | grant _ _ _ _ => exact ⟨hi, rfl, rfl⟩
  | feed _ _ _ ho => rw [open_end ho] at he; exact absurd he (by decide)
  | move _ _ _ _ _ =>
    have m0 : moveN cap (t.way d) x.n = 0 := by have := (move_le cap (t.way d) x.n).1; rw [hi] at this; simpa using this
    refine ⟨?_, rfl, ?_⟩
    · simp only [moveW, hi, List.drop_nil]
    · simp only [moveW, m0, Nat.add_zero]
  | drain _ _ _ => exact ⟨hi, rfl, rfl⟩
  | clear _ _ => exact ⟨rfl, rfl, rfl⟩
/-- A tunnel that is as dead as another one. -/
structure DeadT (s t : Tn) : Prop where
  st : t.st = s.st
  en : endB s.st = true
  ai : t.a.i = []
  bi : t.b.i = []
  af : t.a.fd = s.a.fd
  am : t.a.mv = s.a.mv
  bf : t.b.fd = s.b.fd
  bm : t.b.mv = s.b.mv
theorem DeadT.step {cap : Nat} {s t : Tn} (h : DeadT s t) (x : OpV) : DeadT s (doT cap t x) := by
  have he : endB t.st = true := by rw [h.st]; exact h.en
  obtain ⟨a1, a2, a3⟩ := (did cap t x (d := 0) rfl).dead he h.ai
  obtain ⟨b1, b2, b3⟩ := (did cap t x (d := 1) rfl).dead he h.bi
  exact ⟨(st_end cap t x he).trans h.st, h.en, a1, b1, a2.trans h.af, a3.trans h.am, b2.trans h.bf, b3.trans h.bm⟩
theorem DeadT.run {cap : Nat} {s : Tn} (l : List OpV) : ∀ {t : Tn}, DeadT s t → DeadT s (runT cap t l) := by
  induction l with
  | nil => intro t h; exact h
  | cons x l ih => intro t h; exact ih (h.step x)
theorem dead_stop (t : Tn) : DeadT (stopT t) (stopT t) := by
  refine ⟨rfl, ?_, rfl, rfl, rfl, rfl, rfl, rfl⟩
  unfold stopT
  simp only
  split
  · assumption
  · decide
theorem stop_cn {t : Tn} {c : Nat} (h : t.Cn c) : (stopT t).Cn c := by
  have := h.step (cap := 0) (B := 0) ⟨5, 0, 0, ⟨#[]⟩⟩ (Nat.le_refl _)
  simpa [doT] using this
theorem end_two {s : Int} (h : endB s = true) : s = 5 ∨ s = 6 := by simpa [endB] using h
/-- .. what holds at the end of the law. -/
theorem stops_end {cap : Nat} (t : Tn) {c : Nat} (h : t.Cn c) (l : List OpV) (hl : ∀ x ∈ l, x.s.size ≤ 50) :
    (runT cap (stopT t) l).a.fd = (stopT t).a.fd ∧ (runT cap (stopT t) l).a.mv = (stopT t).a.mv ∧ (runT cap (stopT t) l).a.dr ≤ (stopT t).a.mv ∧ (runT cap (stopT t) l).b.fd = (stopT t).b.fd ∧ (runT cap (stopT t) l).b.mv = (stopT t).b.mv ∧ (runT cap (stopT t) l).b.dr ≤ (stopT t).b.mv ∧ ((runT cap (stopT t) l).st = 5 ∨ (runT cap (stopT t) l).st = 6) := by
  have hd := (dead_stop t).run (cap := cap) l
  have hc := (stop_cn h).run (cap := cap) l hl
  have h1 := hc.a.dr
  have h2 := hc.b.dr
  have h3 := hd.am
  have h4 := hd.bm
  exact ⟨hd.af, hd.am, by omega, hd.bf, hd.bm, by omega, by rw [hd.st]; exact end_two hd.en⟩
theorem run_cn {cap : Nat} {t : Tn} {c : Nat} (h : t.Cn c) (hc : c ≤ 1000000) {l : List OpV} (hl : ∀ x ∈ l, x.s.size ≤ 50) (hn : l.length ≤ 50) (k : Nat) : (runT cap t (l.take k)).Sm := by
  have := h.run (cap := cap) (l.take k) (take_le50 hl k)
  refine this.sm ?_
  rw [List.length_take]
  omega
/-- A call of one direction leaves the other one. -/
theorem other_step (cap : Nat) (t : Tn) (x : OpV) {d e : Int} (hd : sideB d = true) (hs : x.side = e) (hne : e ≠ d) (hk : 1 ≤ x.kind) (hk2 : x.kind ≤ 4) : ((doT cap t x).way d).fd = (t.way d).fd ∧ ((doT cap t x).way d).mv = (t.way d).mv ∧ ((doT cap t x).way d).dr = (t.way d).dr := by
  have h := did cap t x hd
  revert h
  generalize (doT cap t x).way d = y
  generalize inX cap t x d = i
  generalize outX t x d = o
  intro h
  cases h with
  | none _ => exact ⟨rfl, rfl, rfl⟩
  | grant h1 _ _ _ => exact absurd (hs.symm.trans h1) hne
  | feed h1 _ _ _ => exact absurd (hs.symm.trans h1) hne
  | move h1 _ _ _ _ => exact absurd (hs.symm.trans h1) hne
  | drain h1 _ _ => exact absurd (hs.symm.trans h1) hne
  | clear h1 _ => omega
end Go.Proofs.YtkokcfhfgnkdfaaGreatDoor.L17

/- What laws share. -/
namespace Go.Proofs.YtkokcfhfgnkdfaaGreatDoor.L17
open Go.RowKit Go.Shelf
open L1 (str)
open L14 (isSt goes dest inB outB endB Laid)
attribute [local go_sem] Oper.semAt_some

theorem goes_b {T hi : Nat} {w A B : World} (hb : Below w.heap.size w A) (hg : Goes (Rin T hi) A B) (hz : w.heap.size ≤ T) : Below w.heap.size w B := hg.below hb (fun i h => by have := h.1; omega)
theorem TunAt.lz {w : World} {T hi cap : Nat} {t : Tn} (h : TunAt w T hi cap t) : hi ≤ w.heap.size := by obtain ⟨_, _, _, q⟩ := h; exact q.lz
theorem cap_cases (n : Int) : (∃ k : Nat, n = (k : Int) ∧ 1 ≤ k ∧ k ≤ 4096) ∨ (n < 1 ∨ 4096 < n) := by
  by_cases h : 1 ≤ n ∧ n ≤ 4096
  · exact .inl ⟨n.toNat, by omega, by omega, by omega⟩
  · exact .inr (by omega)
end Go.Proofs.YtkokcfhfgnkdfaaGreatDoor.L17

/- Plain facts of credit along a run. -/
namespace Go.Proofs.YtkokcfhfgnkdfaaGreatDoor.L17
open L14 (isSt goes dest inB outB endB)

theorem Did.g {cap : Nat} {t : Tn} {x : OpV} {d : Int} {y : Wy} {i o : List UInt8} (hd : Did cap t x d y i o) : (x.kind = 1 → x.side = d → doE t x = 0 → y.g = (t.way d).g + x.n) ∧ (¬ (x.kind = 1 ∧ x.side = d ∧ doE t x = 0) → y.g = (t.way d).g) := by
  cases hd with
  | none h => exact ⟨fun h1 h2 h3 => absurd h3 (h h1 h2), fun _ => rfl⟩
  | grant h1 h2 h3 _ => exact ⟨fun _ _ _ => rfl, fun h => absurd ⟨h2, h1, h3⟩ h⟩
  | feed _ h2 _ _ => exact ⟨fun h => by omega, fun _ => rfl⟩
  | move _ h2 _ _ _ => exact ⟨fun h => by omega, fun _ => rfl⟩
  | drain _ h2 _ => exact ⟨fun h => by omega, fun _ => rfl⟩
  | clear h2 _ => exact ⟨fun h => by omega, fun _ => rfl⟩
theorem grant_side {t : Tn} {x : OpV} (hk : x.kind = 1) (he : doE t x = 0) : x.side = 0 ∨ x.side = 1 := by
  have e4 : doE t x = grantTE t x.side x.n := by unfold doE; rw [if_neg (by omega), if_pos hk]
  rw [e4] at he
  unfold grantTE at he
  split at he
  · rename_i h; exact side_cases h
  · exact absurd he (by decide)
theorem run_both {cap : Nat} (l : List OpV) : ∃ i0 o0 i1 o1, Both cap (runT cap upT l) i0 o0 i1 o1 := ⟨_, _, _, _, (up_both cap).run l⟩
/-- What is moved is granted; what is granted is bounded. -/
theorem run_mg {cap : Nat} (l : List OpV) : ((runT cap upT l).a.mv : Int) ≤ (runT cap upT l).a.g ∧ ((runT cap upT l).b.mv : Int) ≤ (runT cap upT l).b.g ∧ (runT cap upT l).a.g ≤ 1000000000000 ∧ (runT cap upT l).b.g ≤ 1000000000000 := by
  obtain ⟨_, _, _, _, h⟩ := run_both (cap := cap) l
  have a1 := h.a.ms; have a2 := h.a.ok.sg; have b1 := h.b.ms; have b2 := h.b.ok.sg
  exact ⟨by omega, by omega, h.a.ok.gm, h.b.ok.gm⟩
end Go.Proofs.YtkokcfhfgnkdfaaGreatDoor.L17
