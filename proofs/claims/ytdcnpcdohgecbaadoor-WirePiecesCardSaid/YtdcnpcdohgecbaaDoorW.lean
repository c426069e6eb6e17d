/- frames: the iterator's contract. -/
import Derived.Test.YtdcnpcdohgecbaaDoorV
import Derived.Test.YtdcnpcdohgecbaaDoorIt
import Derived.LoopIn
import Derived.LoopNIn
namespace Go.Proofs.YtdcnpcdohgecbaaDoor
open Go.RowKit Go.Shelf
attribute [local go_sem] Oper.semAt_some

/-- The places at which one takes, as long as there are frames. -/
inductive Chain (s : ByteArray) : List Int → Int → Prop
  | nil : Chain s [] 0
  | snoc {pre : List Int} {b : Int} : Chain s pre b → tkE s b = 0 → Chain s (pre ++ [b]) (tkN s b)
def framesS (s : ByteArray) (xs : List Int) : Prop := ∃ pre a, xs = pre ++ [a] ∧ Chain s pre a ∧ ¬ tkE s a = 0
theorem Chain.range {s : ByteArray} {pre : List Int} {a : Int} (h : Chain s pre a) : 0 ≤ a ∧ a ≤ s.size := by
  cases h with
  | nil => omega
  | snoc _ hz =>
    obtain ⟨n, L, rfl, hL, hk, _⟩ := tk_facts hz
    unfold tkN
    rw [if_pos hz]
    simp only [Int.toNat_natCast, hL]
    omega
theorem tkN_more {s : ByteArray} {a : Int} (hz : tkE s a = 0) : a < tkN s a := by
  obtain ⟨n, L, rfl, hL, hk, _⟩ := tk_facts hz
  unfold tkN
  rw [if_pos hz]
  simp only [Int.toNat_natCast, hL]
  omega
set_option maxRecDepth 100000 in
set_option maxHeartbeats 4000000 in
theorem frames_it (n : Nat) (hn : 2 ≤ n) (s : ByteArray) (hs : (s.size : Int) ≤ 4611686018427387904) (sb : Nat) (w : World) (h0 : w.cell? ⟨sb, 0, none⟩ = some (.string s)) :
    Iters Fence.wide n Tryd.prog 51 #[.pointer (some ⟨sb, 0, none⟩)] (fun a => #[takV s a]) (Chain s) (framesS s) (fun xs => ∃ pre a, xs = pre ++ [a] ∧ Chain s pre a) (fun i => i = sb) w := by
  intro l J Jx W Pv hW hcap hJ hJx hY hj
  have H0 := (hW.cell (p := ⟨sb, 0, none⟩) (blt h0)).trans h0
  have HP := Lib.hid (hcap sb rfl)
  have HJ := Lib.hid hJ
  have HJX := Lib.hid hJx
  have HY := Lib.hid hY
  have HT := Lib.hid (fun a W => (callsIn_wide (n := n - 1)).2 (take_c s a hs W))
  have hJ0 := Lib.hid hj
  have hs0 := Lib.hid hs
  clear hW hcap hJ hJx hY hj h0 hs
  refine callsIn_of_wp Tryd.func51 rfl trivial ?_ rfl
  simp only [Tryd.ntmps51, List.size_toArray, List.length_cons, List.length_nil, Nat.reduceAdd, Nat.reduceSub, Array.replicate_succ, Array.replicate_zero, List.push_toArray, List.append_toArray, List.nil_append, List.cons_append]
  gi_wp2
  gi_loopw [3] (fun i wr => ∃ (a : Int) (pre : List Int) (Pv : Nat → Prop), i = .int .i64 a ∧ Hid (Chain s pre a) ∧ Hid (J pre Pv wr) ∧ Hid (Pv sb) ∧ wr.cell? ⟨sb, 0, none⟩ = some (.string s)) (fun i _ => (s.size : Nat) + 1 - (intOf i).toNat)
  case atStart => exact ⟨0, [], Pv, rfl, Lib.hid .nil, hJ0, HP, H0⟩
  case round =>
    clear hJ0 HP H0
    obtain ⟨a, pre, Pv, rfl, hc, hj, hp, hb⟩ := hrel
    by_cases hz : tkE s a = 0
    · have hlt := Lib.hid (tkN_more hz)
      have hc2 := Lib.hid (Chain.snoc hc.out hz)
      have hrg := Lib.hid hc2.out.range
      have HTa := Lib.hid (HT.out a)
      have HYa := Lib.hid (HY.out pre a)
      unfold takV tkX errV at HTa HYa
      simp only [hz, decide_true, if_true] at HTa HYa
      generalize tkN s a = N at *
      clear hz
      gi_wp2
      refine ⟨trivial, fun _ => (by omega), (HTa.out wr).mono ?_⟩
      rintro e w1 ⟨rfl, hb1⟩
      have hB := (hb1.cell (p := ⟨sb, 0, none⟩) (blt hb)).trans hb
      have hsb : sb < wr.heap.size := blt hb
      gi_wp2
      have HB1 := Lib.hid (keep_alloc (.cells #[.int .i64 (tkK s a), .int .i64 (tkS s a), .string (tkD s a), .int .i64 N, .nilIface] 52) hB)
      have hj2 : J pre (fun i => Pv i ∨ i = w1.heap.size) (w1.alloc (.cells #[.int .i64 (tkK s a), .int .i64 (tkS s a), .string (tkD s a), .int .i64 N, .nilIface] 52)) := by
        have hbb := bal hb1 (.cells #[.int .i64 (tkK s a), .int .i64 (tkS s a), .string (tkD s a), .int .i64 N, .nilIface] 52)
        refine HJ.out pre Pv _ _ _ hj.out (Goes.of_below hbb) (fun i h => ?_)
        rcases h with h | rfl
        · exact .inl h
        · exact .inr ⟨hb1.size, by simp⟩
      obtain ⟨fn, tmps, assign, body, hy, hR⟩ := HYa.out _ _ hc.out hj2
      have hbe : (w1.alloc (.cells #[.int .i64 (tkK s a), .int .i64 (tkS s a), .string (tkD s a), .int .i64 N, .nilIface] 52)).cell? ⟨sb, 0, none⟩ = some (.string s) := HB1.out
      have x3 : (w1.alloc (.cells #[.int .i64 (tkK s a), .int .i64 (tkS s a), .string (tkD s a), .int .i64 N, .nilIface] 52)).cell? ⟨w1.heap.size, 3, none⟩ = some (.int .i64 N) := by go_simp
      have x4 : (w1.alloc (.cells #[.int .i64 (tkK s a), .int .i64 (tkS s a), .string (tkD s a), .int .i64 N, .nilIface] 52)).cell? ⟨w1.heap.size, 4, none⟩ = some .nilIface := by go_simp
      generalize (w1.alloc (.cells #[.int .i64 (tkK s a), .int .i64 (tkS s a), .string (tkD s a), .int .i64 N, .nilIface] 52)) = V at *
      generalize w1.heap.size = B at *
      clear hj2 hj HB1 hB hsb hb1 hb
      go_simp
      refine ⟨fun _ => (by omega), hR.mono ?_⟩
      clear hy hR
      rintro e V2 (⟨rfl, hJ2, hM⟩ | ⟨rfl, hX2, hM⟩)
      · have x3' := hM.cell x3 (.inr rfl)
        have x4' := hM.cell x4 (.inr rfl)
        have hbe' := hM.cell hbe (.inl hp.out)
        have HJ2 := Lib.hid hJ2
        clear x3 x4 hbe hJ2 hM
        gi_wp2
        go_roundw
        case rel => exact ⟨N, pre ++ [a], _, rfl, hc2, HJ2, Lib.hid (.inl hp.out), hbe'⟩
        case measure => have h1 := hlt.out; have h2 := hrg.out; have h3 := hc.out.range; simp [intOf]; omega
      · have hbe' := hM.cell hbe (.inl hp.out)
        have HX2 := Lib.hid hX2
        clear x3 x4 hbe hX2 hM
        gi_wp2
        refine bodyPost_ret (results_none rfl _ _ _) rfl ?_
        exact ⟨⟨_, rfl⟩, .inr ⟨_, _, ⟨pre, a, rfl, hc.out⟩, HX2.out⟩⟩
    · have HTa := Lib.hid (HT.out a)
      have HYa := Lib.hid (HY.out pre a)
      have hzz := Lib.hid hz
      unfold takV tkX errV at HTa HYa
      simp only [hz, decide_false, Bool.false_eq_true, if_false] at HTa HYa
      generalize tkN s a = N at *
      generalize (Value.agg #[.int .i64 (tkE s a)]) = XV at *
      clear hz
      gi_wp2
      refine ⟨trivial, fun _ => (by omega), (HTa.out wr).mono ?_⟩
      rintro e w1 ⟨rfl, hb1⟩
      have hB := (hb1.cell (p := ⟨sb, 0, none⟩) (blt hb)).trans hb
      have hsb : sb < wr.heap.size := blt hb
      gi_wp2
      have HB1 := Lib.hid (keep_alloc (.cells #[.int .i64 (tkK s a), .int .i64 (tkS s a), .string (tkD s a), .int .i64 N, (.iface 76 XV)] 52) hB)
      have hj2 : J pre (fun i => Pv i ∨ i = w1.heap.size) (w1.alloc (.cells #[.int .i64 (tkK s a), .int .i64 (tkS s a), .string (tkD s a), .int .i64 N, (.iface 76 XV)] 52)) := by
        have hbb := bal hb1 (.cells #[.int .i64 (tkK s a), .int .i64 (tkS s a), .string (tkD s a), .int .i64 N, (.iface 76 XV)] 52)
        refine HJ.out pre Pv _ _ _ hj.out (Goes.of_below hbb) (fun i h => ?_)
        rcases h with h | rfl
        · exact .inl h
        · exact .inr ⟨hb1.size, by simp⟩
      obtain ⟨fn, tmps, assign, body, hy, hR⟩ := HYa.out _ _ hc.out hj2
      have hbe : (w1.alloc (.cells #[.int .i64 (tkK s a), .int .i64 (tkS s a), .string (tkD s a), .int .i64 N, (.iface 76 XV)] 52)).cell? ⟨sb, 0, none⟩ = some (.string s) := HB1.out
      have x3 : (w1.alloc (.cells #[.int .i64 (tkK s a), .int .i64 (tkS s a), .string (tkD s a), .int .i64 N, (.iface 76 XV)] 52)).cell? ⟨w1.heap.size, 3, none⟩ = some (.int .i64 N) := by go_simp
      have x4 : (w1.alloc (.cells #[.int .i64 (tkK s a), .int .i64 (tkS s a), .string (tkD s a), .int .i64 N, (.iface 76 XV)] 52)).cell? ⟨w1.heap.size, 4, none⟩ = some (.iface 76 XV) := by go_simp
      generalize (w1.alloc (.cells #[.int .i64 (tkK s a), .int .i64 (tkS s a), .string (tkD s a), .int .i64 N, (.iface 76 XV)] 52)) = V at *
      generalize w1.heap.size = B at *
      clear hj2 hj HB1 hB hsb hb1 hb
      go_simp
      refine ⟨fun _ => (by omega), hR.mono ?_⟩
      clear hy hR
      rintro e V2 (⟨rfl, hJ2, hM⟩ | ⟨rfl, hX2, hM⟩)
      · have x4' := hM.cell x4 (.inr rfl)
        have HJ2 := Lib.hid hJ2
        clear x3 x4 hbe hJ2 hM
        gi_wp2
        refine bodyPost_ret (results_none rfl _ _ _) rfl ?_
        exact ⟨⟨_, rfl⟩, .inl ⟨_, _, ⟨pre, a, rfl, hc.out, hzz.out⟩, HJ2.out⟩⟩
      · have HX2 := Lib.hid hX2
        clear x3 x4 hbe hX2 hM
        gi_wp2
        refine bodyPost_ret (results_none rfl _ _ _) rfl ?_
        exact ⟨⟨_, rfl⟩, .inr ⟨_, _, ⟨pre, a, rfl, hc.out⟩, HX2.out⟩⟩
end Go.Proofs.YtdcnpcdohgecbaaDoor
