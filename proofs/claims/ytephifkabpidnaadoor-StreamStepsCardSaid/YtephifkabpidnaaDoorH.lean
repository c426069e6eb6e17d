/- nexts: the states that one event leads to. -/
import Derived.Test.YtephifkabpidnaaDoorG
import Derived.Deep.AppendLies
namespace Go.Proofs.YtephifkabpidnaaDoor
open Go.RowKit Go.Shelf
attribute [local go_sem] Oper.semAt_some

theorem info37 : (Tryd.prog.info? 37).map (fun i => (i.zero, i.size, i.bytes)) = some (some (.int .i64 0), 1, 8) := by kernel_rfl
def intVs (zs : List Int) : List Value := zs.map (Value.int .i64)
@[simp] theorem intVs_length (zs : List Int) : (intVs zs).length = zs.length := by simp [intVs]
/-- v owns the states l. -/
def OwnP (base : Nat) (w : World) (v : Value) (zs : List Int) : Prop := w.ownsRow base 37 1 v zs.length (intVs zs)
theorem OwnP.form {base : Nat} {w : World} {v : Value} {zs : List Int} (h : OwnP base w v zs) : ∃ a c, v = .slice a zs.length c ∧ IntsAt w.heap.size w a zs := by
  rcases h.2 with ⟨rfl, hn⟩ | ⟨g, cap, cur, rfl, hb, hg, _⟩
  · exact ⟨none, 0, by rw [hn], fun i hi => by omega⟩
  · refine ⟨some ⟨g, 0, none⟩, cap, rfl, fun i hi => ⟨g, 0, rfl, (Array.getElem?_eq_some_iff.1 hg).1, ?_⟩⟩
    have := World.ownsRow.cellAt h i (by omega)
    rw [Nat.zero_add, this]
    simp [intVs, hi]

theorem OwnP.on {base : Nat} {W W' : World} {v : Value} {zs : List Int} (h : OwnP base W v zs) (hb : Below W.heap.size W W') : OwnP base W' v zs := h.kept (grown_of_below hb) (by cases v.ownBlock <;> simp)

/-- Where the events up to one lead. -/
def nextsUpto (s : Int) : Nat → List Int
  | 0 => []
  | k + 1 => nextsUpto s k ++ (if goes s ((k : Int) + 1) = true then [dest s ((k : Int) + 1)] else [])
theorem nextsUpto_len (s : Int) (k : Nat) : (nextsUpto s k).length ≤ k := by
  induction k with
  | zero => simp [nextsUpto]
  | succ k ih => simp only [nextsUpto, List.length_append]; split <;> simp <;> omega

set_option maxRecDepth 100000 in
set_option maxHeartbeats 2000000 in
theorem nexts_c (s : Int) (w : World) : Calls Tryd.prog 44 #[.int .i64 s] w fun x w' => ∃ v, x = .returned v ∧ OwnP w.heap.size w' v (nextsUpto s 6) ∧ Below w.heap.size w w' := by
  obtain ⟨i0, hi, hz0, hz1, hz2⟩ := info_parts info37
  have HT := Lib.hid (fun e W => to_c s e W)
  go_enter Tryd.func44, Tryd.ntmps44
  go_wp2
  go_loopw [3, 4] (fun v i wr => ∃ k : Nat, k ≤ 6 ∧ i = .int .i64 ((k : Int) + 1) ∧ OwnP w.heap.size wr v (nextsUpto s k) ∧ Below w.heap.size w wr) (fun _ i _ => 7 - (intOf i).toNat)
  case atStart => exact ⟨0, by omega, rfl, World.ownsRow_nil _ _ _ _, Below.refl _ _⟩
  case round =>
    obtain ⟨k, hk, rfl, hown, hB⟩ := hrel
    by_cases hlt : k < 6
    · have H := HT.out ((k : Int) + 1)
      have hn := nextsUpto_len s k
      have hU : nextsUpto s (k + 1) = nextsUpto s k ++ (if goes s ((k : Int) + 1) = true then [dest s ((k : Int) + 1)] else []) := rfl
      generalize dest s ((k : Int) + 1) = d at *
      cases hg : goes s ((k : Int) + 1) with
      | false =>
        rw [hg] at H hU
        simp only [Bool.false_eq_true, if_false, List.append_nil] at hU
        have HH := Lib.hid H
        have HU := Lib.hid hU
        have HO := Lib.hid hown
        have HB := Lib.hid hB
        clear H hU hg hown hB
        go_wp2_with (go_at_call 28; refine (HH.out _).mono ?_; rintro x w1 ⟨rfl, hb1⟩)
        go_roundw
        case rel => exact ⟨k + 1, by omega, by go_num, by rw [HU.out]; exact HO.out.on hb1, btr HB.out hb1⟩
        case measure => simp [intOf]; omega
      | true =>
        rw [hg] at H hU
        simp only [if_true] at hU
        have HH := Lib.hid H
        have HU := Lib.hid hU
        have HO := Lib.hid hown
        have HB := Lib.hid hB
        clear H hU hg hown hB
        go_wp2_with fail
        refine (HH.out _).mono ?_
        rintro x w1 ⟨rfl, hb1⟩
        have ho1 := HO.out.on hb1
        have hB1 := btr HB.out hb1
        have hz := hB1.size
        unfold OwnP at ho1
        go_wp2_with (at_builtin; refine wpList_append_own _ rfl _ _ 69 rfl w.heap.size 37 i0 (.int .i64 0) 1 8 Tryd.underlying69 hi hz0 hz1 hz2 rfl (by decide) _ _ _ rfl (ho1.alloc _) ⟨w1.heap.size, 0, none⟩ 1 1 [.int .i64 d] rfl rfl (World.news_of_block (cs := #[.int .i64 d]) (t := 37) (fr := (0, 0)) (heap_alloc_new w1 _)) (by simp [Value.oneCell']) (by unfold maxLen; omega) (by omega) (by simp; omega) ?_; intro v' w2 hown' hgrow _)
        go_roundw
        case rel =>
          have hv : OwnP w.heap.size w2 v' (nextsUpto s (k + 1)) := by rw [HU.out]; unfold OwnP; rw [List.length_append]; simpa [intVs] using hown'
          exact ⟨k + 1, by omega, by go_num, hv, (bal hB1 _).grown hgrow (by simp; omega) (fun j e => (World.ownsRow.lt ho1 j e).1)⟩
        case measure => simp [intOf]; omega
    · obtain rfl : k = 6 := by omega
      go_wp2
      go_ret
      exact ⟨_, rfl, hown, hB⟩
end Go.Proofs.YtephifkabpidnaaDoor
