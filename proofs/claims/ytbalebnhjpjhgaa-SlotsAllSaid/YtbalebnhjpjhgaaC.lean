/- taken: the handles of the slots that are used. -/
import Derived.Test.YtbalebnhjpjhgaaB
namespace Go.Proofs.Ytbalebnhjpjhgaa
open Go.RowKit Go.Shelf
attribute [local go_sem] Oper.semAt_some

/-- The handles of the first k slots that are used. -/
def takenUpto (gs : List Int) (us : List Bool) : Nat → List (Int × Int)
  | 0 => []
  | k + 1 => takenUpto gs us k ++ (if us[k]?.getD false = true then [((k : Int), gs[k]?.getD 0)] else [])
def takenOf (gs : List Int) (us : List Bool) : List (Int × Int) := takenUpto gs us us.length
theorem takenUpto_length_le (gs : List Int) (us : List Bool) (k : Nat) : (takenUpto gs us k).length ≤ k := by
  induction k with
  | zero => simp [takenUpto]
  | succ k ih => simp only [takenUpto, List.length_append]; split <;> simp <;> omega
theorem takenUpto_prefix (gs : List Int) (us : List Bool) {j k : Nat} (h : j ≤ k) : takenUpto gs us j <+: takenUpto gs us k := by
  induction k with
  | zero => obtain rfl : j = 0 := by omega
            exact List.prefix_rfl
  | succ k ih =>
    by_cases e : j = k + 1
    · subst e; exact List.prefix_rfl
    · exact (ih (by omega)).trans (List.prefix_append _ _)
def handV (x : Int × Int) : Value := .agg #[.int .i64 x.1, .int .i64 x.2]

/-- What yields keep: what lies below n₀, and the block Bs. -/
def Kept (n₀ Bs : Nat) (A B : World) : Prop := Below n₀ A B ∧ B.heap[Bs]? = A.heap[Bs]?
theorem Kept.refl (n₀ Bs : Nat) (A : World) : Kept n₀ Bs A A := ⟨Below.refl _ _, rfl⟩
theorem kept_t {n₀ Bs : Nat} {A B C : World} (h : Kept n₀ Bs A B) (k : Kept n₀ Bs B C) : Kept n₀ Bs A C := ⟨h.1.trans k.1, k.2.trans h.2⟩
theorem kept_below {n₀ Bs : Nat} {A B : World} (h : Below A.heap.size A B) (hn : n₀ ≤ A.heap.size) (hB : Bs < A.heap.size) : Kept n₀ Bs A B := ⟨h.mono hn, h.block Bs hB⟩
theorem kept_b {n₀ Bs : Nat} {w : World} (hn : n₀ ≤ w.heap.size) (hB : Bs < w.heap.size) (W : World) (l : Nat) (o o' : Obj) (hl : w.heap.size ≤ l) (h1 : W.heap[l]? = some o) (h2 : o.isCells = false) (h3 : o.isWalk = false) : Kept n₀ Bs W (W.putObj l o') :=
  ⟨belowK_b hn W l o o' hl h1 h2 h3, World.putObj_heap_other (by omega)⟩

set_option maxHeartbeats 1000000 in
theorem taken_in (F : Fence) (n : Nat) (h38 : F.fn 38) (hro : F.round = none) (s1 s2 s3 : Value) (w : World) :
    CallsIn F n Try.prog 38 #[.agg #[s1, s2, s3]] w fun e w' => e = .returned (.func (.func 46) #[] #[.pointer (some ⟨w.heap.size, 0, none⟩)]) ∧ w' = w.alloc (.cells #[s1, s2, s3] 47) := by
  refine callsIn_of_wp Try.func38 rfl h38 ?_ hro
  simp only [Try.ntmps38, List.size_toArray, List.length_cons, List.length_nil, Nat.reduceAdd, Nat.reduceSub, Array.replicate_succ, Array.replicate_zero, List.push_toArray, List.append_toArray, List.nil_append, List.cons_append]
  gi_wp2
  go_ret
  exact ⟨rfl, rfl⟩

set_option maxRecDepth 100000 in
set_option maxHeartbeats 2000000 in
theorem taken1_in (F : Fence) (n : Nat) (h46 : F.fn 46) (h40 : F.fn 40) (hro : F.round = none) (hn : 2 ≤ n) (l Bs n₀ : Nat) (a1 a2 : Option Addr) (s3 : Value) (c1 c2 : Nat) (gs : List Int) (us : List Bool) (hlu : us.length = gs.length) (hlen : gs.length ≤ 1000) (J Jx : List (Int × Int) → World → Prop) (B₀ : Nat) (hJ : AbidesFrom B₀ J)
    (hY : ∀ pre x W, J pre W → pre.length < us.length → YieldAt F (n - 1) Try.prog l #[handV x] W fun e W' =>
      (e = .returned (.bool true) ∧ J (pre ++ [x]) W' ∧ Kept n₀ Bs W W') ∨ (e = .returned (.bool false) ∧ Jx (pre ++ [x]) W'))
    (W : World) (hn₀ : n₀ ≤ W.heap.size) (hB0 : W.cell? ⟨Bs, 0, none⟩ = some (.slice a1 gs.length c1)) (hB1 : W.cell? ⟨Bs, 1, none⟩ = some (.slice a2 us.length c2)) (hB2 : W.cell? ⟨Bs, 2, none⟩ = some s3) (hI : IntsAt n₀ W a1 gs) (hU : BoolsAt n₀ W a2 us) (h0 : J [] W) :
    CallsIn F n Try.prog 46 #[.func (.yield l) #[] #[], .pointer (some ⟨Bs, 0, none⟩)] W fun e W' => (∃ v, e = .returned v) ∧
      ((∃ ys, ys = takenOf gs us ∧ J ys W') ∨ (∃ pre, pre <+: takenOf gs us ∧ Jx pre W')) := by
  have hBW : Bs < W.heap.size := blt hB0
  rw [hlu] at hB1
  generalize hL : gs.length = L at *
  have HI := Lib.hid hI
  have HU := Lib.hid hU
  have HB0 := Lib.hid hB0
  have HB2 := Lib.hid hB2
  clear hI hU
  refine callsIn_of_wp Try.func46 rfl h46 ?_ hro
  simp only [Try.ntmps46, List.size_toArray, List.length_cons, List.length_nil, Nat.reduceAdd, Nat.reduceSub, Array.replicate_succ, Array.replicate_zero, List.push_toArray, List.append_toArray, List.nil_append, List.cons_append]
  gi_wp2
  gi_loopw [9] (fun i wr => ∃ k : Nat, k ≤ L ∧ i = .int .i64 k ∧ J (takenUpto gs us k) wr ∧ Kept n₀ Bs W wr)
    (fun i _ => L - (intOf i).toNat)
  case atStart => exact ⟨0, Nat.zero_le _, rfl, h0, Kept.refl _ _ _⟩
  case round =>
    obtain ⟨k, hk, rfl, hJs, hnx⟩ := hrel
    by_cases hlt : k < L
    · have hltu : k < us.length := by omega
      have hltg : k < gs.length := by omega
      obtain ⟨b, off, rfl, hb, hc⟩ := (HU.out.below hnx.1) k hltu
      have d0 := (World.cell?_of_block (a := ⟨Bs, 0, none⟩) (w := W) hnx.2).trans HB0.out
      have d1 := (World.cell?_of_block (a := ⟨Bs, 1, none⟩) (w := W) hnx.2).trans hB1
      have d2 := (World.cell?_of_block (a := ⟨Bs, 2, none⟩) (w := W) hnx.2).trans HB2.out
      have hIr := HI.out.below hnx.1
      have hnr : n₀ ≤ wr.heap.size := Nat.le_trans hn₀ hnx.1.size
      have hBr : Bs < wr.heap.size := blt d0
      have hT : takenUpto gs us (k + 1) = takenUpto gs us k ++ (if us[k] = true then [((k : Int), gs[k])] else []) := by
        simp [takenUpto, hltu, hltg]
      have htl := takenUpto_length_le gs us k
      generalize takenUpto gs us k = pre at *
      have Hnx := Lib.hid hnx
      have HIr := Lib.hid hIr
      clear hnx hIr
      cases hu : us[k] with
      | false =>
        rw [hu] at hc hT
        simp only [Bool.false_eq_true, if_false, List.append_nil] at hT
        have HT := Lib.hid hT
        clear hT hu
        gi_wp2_with fail
        refine ⟨fun _ hf => (by cases hf), ?_⟩
        gi_wp2
        go_roundw
        case rel => exact ⟨k + 1, by omega, by simp, by rw [HT.out]; exact hJs, Hnx.out⟩
        case measure => simp [intOf]; omega
      | true =>
        rw [hu] at hc hT
        simp only [if_true] at hT
        have hpf := takenUpto_prefix gs us (show k + 1 ≤ us.length by omega)
        have HT := Lib.hid hT
        have HP := Lib.hid hpf
        have Hh := Lib.hid (fun wq hq hz => handle_in F (n - 1) h40 hro a1 (.slice (some ⟨b, off, none⟩) L c2) s3 c1 L n₀ gs hL k hltg wq hq hz)
        clear hT hu hpf
        gi_wp2_with fail
        refine ⟨fun _ => by omega, (Hh.out _ hnr HIr.out).mono ?_⟩
        rintro e w3 ⟨rfl, hb3⟩
        have hJ3 := hJ pre wr w3 none hJs (grown_of_below hb3) (by simp)
        obtain ⟨fn, tmps, assign, body, hy, hR⟩ := hY pre ((k : Int), gs[k]) w3 hJ3 (by omega)
        have Hk := Lib.hid (kept_t Hnx.out (kept_below hb3 hnr hBr))
        simp only [handV] at hy
        generalize gs[k] = g at *
        gi_wp2
        refine ⟨fun _ => by omega, hR.mono ?_⟩
        rintro e W3 (⟨rfl, hJ3, hk3⟩ | ⟨rfl, hJx3⟩)
        · gi_wp2
          go_roundw
          case rel => exact ⟨k + 1, by omega, by simp, by rw [HT.out]; exact hJ3, kept_t Hk.out hk3⟩
          case measure => simp [intOf]; omega
        · gi_wp2
          refine bodyPost_ret (results_none rfl _ _ _) rfl ?_
          exact ⟨⟨_, rfl⟩, .inr ⟨_, by rw [← HT.out]; exact HP.out, hJx3⟩⟩
    · obtain rfl : k = L := by omega
      gi_wp2
      go_end0
      exact ⟨⟨_, rfl⟩, .inl ⟨_, by unfold takenOf; rw [hlu], hJs⟩⟩
end Go.Proofs.Ytbalebnhjpjhgaa
