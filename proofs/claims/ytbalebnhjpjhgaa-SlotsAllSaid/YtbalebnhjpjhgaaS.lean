/- slices.AppendSeq, slices.Collect over the handles that are taken; All. -/
import Derived.Test.YtbalebnhjpjhgaaR
namespace Go.Proofs.Ytbalebnhjpjhgaa
open Go.RowKit Go.Shelf
attribute [local go_sem] Oper.semAt_some

theorem info27 : (Try.prog.info? 27).map (fun i => (i.zero, i.size, i.bytes)) = some (some (.agg #[.int .i64 0, .int .i64 0]), 2, 16) := by kernel_rfl
/-- The cells of some handles. -/
def handCells (l : List (Int × Int)) : List Value := l.flatMap fun x => [.int .i64 x.1, .int .i64 x.2]
theorem handCells_snoc (l : List (Int × Int)) (x : Int × Int) : handCells (l ++ [x]) = handCells l ++ [.int .i64 x.1, .int .i64 x.2] := by simp [handCells]
theorem handCells_length (l : List (Int × Int)) : (handCells l).length = l.length * 2 := by
  induction l with
  | nil => rfl
  | cons x r ih => simp only [handCells, List.flatMap_cons, List.length_append, List.length_cons, List.length_nil] at *; omega
/-- v owns the handles l. -/
def OwnH (base : Nat) (w : World) (v : Value) (l : List (Int × Int)) : Prop := w.ownsRow base 27 2 v l.length (handCells l)

theorem kept_of_below {n₀ Bs : Nat} {A B : World} (h : Below n₀ A B) (hB : Bs < n₀) : Kept n₀ Bs A B := ⟨h, h.block Bs hB⟩

set_option maxRecDepth 100000 in
set_option maxHeartbeats 2000000 in
theorem seq_in (F : Fence) (n : Nat) (h45 : F.fn 45) (h46 : F.fn 46) (h40 : F.fn 40) (hro : F.round = none) (hn : 5 ≤ n) (Bs : Nat) (a1 a2 : Option Addr) (s3 : Value) (c1 c2 : Nat) (gs : List Int) (us : List Bool) (hlu : us.length = gs.length) (hlen : gs.length ≤ 1000) (w : World)
    (hB0 : w.cell? ⟨Bs, 0, none⟩ = some (.slice a1 gs.length c1)) (hB1 : w.cell? ⟨Bs, 1, none⟩ = some (.slice a2 us.length c2)) (hB2 : w.cell? ⟨Bs, 2, none⟩ = some s3) (hI : IntsAt w.heap.size w a1 gs) (hU : BoolsAt w.heap.size w a2 us) :
    CallsIn F n Try.prog 45 #[.slice none 0 0, .func (.func 46) #[] #[.pointer (some ⟨Bs, 0, none⟩)]] w fun e w' => ∃ v, e = .returned v ∧ OwnH w.heap.size w' v (takenOf gs us) ∧ Below w.heap.size w w' := by
  have h1 : 1 ≤ n := by omega
  have hBw := blt hB0
  obtain ⟨i0, hi, hz0, hz1, hz2⟩ := info_parts info27
  have HS2 := Lib.hid (fun W hn hc0 hc1 hc2 hi hu => taken_stops F (n - 1) h46 h40 hro (by omega) Bs w.heap.size a1 a2 s3 c1 c2 gs us hlu hlen W hn hc0 hc1 hc2 hi hu)
  have hbO : Below w.heap.size w (w.alloc (.cells #[.slice none 0 0] 37)) := (Below.refl _ w).alloc (Nat.le_refl _) _
  have HC0 := Lib.hid (keep_alloc (.cells #[.slice none 0 0] 37) hB0)
  have HC1 := Lib.hid (keep_alloc (.cells #[.slice none 0 0] 37) hB1)
  have HC2 := Lib.hid (keep_alloc (.cells #[.slice none 0 0] 37) hB2)
  have HI := Lib.hid (hI.below hbO)
  have HU := Lib.hid (hU.below hbO)
  clear hI hU hB0 hB1 hB2
  refine callsIn_of_wp_marks Try.func45 rfl h45 ?_ hro
  simp only [Try.ntmps45, List.size_toArray, List.length_cons, List.length_nil, Nat.reduceAdd, Nat.reduceSub, Array.replicate_succ, Array.replicate_zero, List.push_toArray, List.append_toArray, List.nil_append, List.cons_append]
  gi_wp2
  have bO := Boxed.new w 37 (.slice none 0 0)
  refine wpIn_rangeFunc_ownH hro h1 (gf := 46) (lb := #[.pointer (some ⟨Bs, 0, none⟩)]) rfl h46 (enters_of Try.func46 (by kernel_rfl) rfl)
    (HS2.out _ hbO.size HC0.out HC1.out HC2.out HI.out HU.out) kept_t (kept_b (by simp) (by simp; omega)) (Below.refl _ _) (fun _ => rfl)
    (fun pre W => (∃ v, Boxed W w.heap.size 37 v ∧ W.ownsRow w.heap.size 27 2 v pre.length (handCells pre) ∧ (v = .slice none 0 0 ↔ pre = [])) ∧ Below w.heap.size w W)
    (fun _ _ _ => False)
    (OwnFrom.and (Own.from (holdsRow_own w.heap.size w.heap.size 37 27 2 (fun pre : List (Int × Int) => pre.length) handCells (fun pre v => v = .slice none 0 0 ↔ pre = [])) _) (ownFrom_below (Nat.le_refl _) (by simp)))
    (fun _ _ _ _ _ hs _ _ => hs)
    ⟨⟨_, bO, World.ownsRow_nil _ _ _ _, by simp⟩, hbO⟩
    (fun x a' W => ∃ B5, a' = { tmps := #[.slice none 0 0, .func (.func 46) #[] #[.pointer (some ⟨Bs, 0, none⟩)], .pointer (some ⟨w.heap.size, 0, none⟩), undef, .slice none 0 0, .pointer (some ⟨B5, 0, none⟩), .func (.func 46) #[] #[.pointer (some ⟨Bs, 0, none⟩)], handV x, undef, undef, undef, undef, undef], defers := [] } ∧
      W.cell? ⟨B5, 0, none⟩ = some (.int .i64 x.1) ∧ W.cell? ⟨B5, 1, none⟩ = some (.int .i64 x.2))
    (fun x a' _ _ _ row hs hg hr => by obtain ⟨B5, h1, h2, h3⟩ := hs; exact ⟨B5, h1, cell_kept h2 hg (fun r e => (hr r e).2), cell_kept h3 hg (fun r e => (hr r e).2)⟩) ?assign ?body ?done ?stop
  case assign =>
    rintro l pre x W K ⟨⟨v, hv, hrow, hnil⟩, hB⟩ hK
    have HK := Lib.hid hK
    unfold handV
    gi_wp2
    exact HK.out _ _ ((KeepsOthers.alloc W _).from _) (kept_of_below ((Below.refl _ W).alloc hB.size _) hBw) ⟨⟨v, hv.alloc _, hrow.alloc _, hnil⟩, hB.alloc hB.size _⟩ ⟨W.heap.size, rfl, by go_simp, by go_simp⟩
  case body =>
    rintro l pre x a' W hl hrec ⟨⟨v, hv, hrow, hnil⟩, hB⟩ ⟨B5, rfl, k0, k1⟩ hlt
    have hc := hv.cell
    have hBz := hB.size
    unfold handV
    gi_wp2_with (gi_at_builtin; refine wpListIn_append_own _ rfl _ _ 37 rfl w.heap.size 27 i0 (.agg #[.int .i64 0, .int .i64 0]) 2 16 Try.underlying37 hi hz0 hz1 hz2 rfl (by decide) _ _ _ rfl (hrow.alloc _) ⟨W.heap.size, 0, none⟩ 1 1 [.int .i64 x.1, .int .i64 x.2] rfl rfl (World.news_of_block (cs := #[.int .i64 x.1, .int .i64 x.2]) (t := 27) (fr := (0, 0)) (heap_alloc_new W _)) (by simp [Value.oneCell']) (by unfold maxLen; omega) (by omega) (by simp; omega) ?_; intro v' w1 hown' hgrow _; obtain ⟨g', cap', rfl⟩ := ownsRow_succ hown'; obtain ⟨hv1, hv2, hr2, hk2, hb2⟩ := hv.appended (by decide) hrow hBz (Nat.le_refl _) hown' hgrow; have hc1 := hv1.cell; have hf1 := hv1.frozen)
    exact ⟨hk2.from _, kept_of_below hb2 hBw, ⟨_, hv2, by rw [handCells_snoc, List.length_append]; exact hr2, by simp⟩, hB.trans hb2⟩
  case done =>
    rintro D ys W hD rfl ⟨⟨v, hv, hrow, hnil⟩, hB⟩ hK
    have hc := hv.cell
    gi_wp2
    refine ⟨by simp, .inl ⟨_, _, rfl, run_takeDeferred hK, ?_⟩⟩
    exact ⟨_, results_tmp rfl _ _ _, v, rfl, ownsRow_putObj hrow _ hK rfl, hB.trans (belowK_b (w := w) (Nat.le_refl _) W D _ _ (by simp at hD; omega) hK rfl rfl)⟩
  case stop =>
    rintro D c pre W _ _ h _
    exact h.elim
end Go.Proofs.Ytbalebnhjpjhgaa
