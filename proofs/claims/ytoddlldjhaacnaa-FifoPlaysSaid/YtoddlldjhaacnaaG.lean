/- front. -/
import Derived.Test.YtoddlldjhaacnaaE
import Derived.Deep.DeepCutAuto
import Derived.RangeFuncRecord
namespace Go.Proofs.Ytoddlldjhaacnaa
open Go.RowKit

/-- What front makes: a new block with the bytes. -/
def Bytes (w : World) (l : List UInt8) (e : Ending) (w' : World) : Prop :=
  e = .returned (.slice (some ⟨w.heap.size, 0, none⟩) l.length l.length) ∧ w'.heap[w.heap.size]? = some (.cells ((l.map fun b => Value.int .u8 (b.toNat : Int)).toArray) 5 (0, 0)) ∧ Below w.heap.size w w'

theorem ring_take (cs : List Int) (first : Nat) {m n : Nat} (h : m ≤ n) : ringOf cs first m = (ringOf cs first n).take m := by
  simp only [ringOf, ← List.map_take]
  congr 1
  apply List.ext_getElem
  · simp; omega
  · intro i h1 h2
    simp
theorem add_at (b o j : Nat) : (⟨b, o, none⟩ : Addr).add j = ⟨b, o + j, none⟩ := by simp [Addr.add]
set_option maxRecDepth 100000 in
set_option maxHeartbeats 2000000 in
theorem front_any (F K cap first : Nat) (cs : List Int) (l : List UInt8) (n : Int) (m : Nat) (w : World) (h : IsQ w F K cap first l.length cs) (hr : ringOf cs first l.length = l.map fun b => (b.toNat : Int))
    (hm : (n ≤ 0 ∧ m = 0) ∨ (0 < n ∧ n ≤ l.length ∧ (m : Int) = n) ∨ ((l.length : Int) < n ∧ m = l.length)) :
    Calls Try.prog 28 #[.pointer (some ⟨F, 0, none⟩), .int .i64 n] w (Bytes w (l.take m)) := by
  have hml : m ≤ l.length := by omega
  have hlen : (l.take m).length = m := by simp; omega
  have c0 := h.c0
  have c1 := h.c1
  have c2 := h.c2
  have hf := h.first_lt
  have hcl := h.cap_le
  have hcn := h.cnt_le
  have hcs := h.len
  obtain ⟨lF, lK⟩ := h.lt
  have hmk := make_bytes m (by omega)
  generalize hcnt : l.length = cnt at *
  have HH := Lib.hid h
  have HR := Lib.hid hr
  have Hcs := Lib.hid hcs
  have Hcnt := Lib.hid hcnt
  have Hlen := Lib.hid hlen
  have i0 : (0 : Int) ≤ (cnt : Int) := by omega
  clear h hr hcs hcnt hlen
  go_enter Try.func28, Try.ntmps28
  go_upto_region 1 with fail
  go_cut [1] (fun s wx => s = .int .i64 m ∧ w = wx)
  case first =>
    rcases hm with ⟨h1, rfl⟩ | ⟨h1, h2, h3⟩ | ⟨h1, rfl⟩
    · go_wp2_with fail
      go_meet
      exact ⟨rfl, rfl⟩
    · go_wp2_with fail
      go_meet
      exact ⟨by rw [h3], rfl⟩
    · go_wp2_with fail
      all_goals
        go_meet
        exact ⟨by (try congr 1); (try omega), rfl⟩
  case rest =>
    obtain ⟨rfl, rfl⟩ := hcut
    clear hm
    go_wp2_with fail
    obtain ⟨V, hV⟩ : ∃ V, V = w.alloc (.cells (madeCells #[.int .u8 0] m) 5) := ⟨_, rfl⟩
    rw [← hV]
    have hB : Below w.heap.size w V := by rw [hV]; exact (Below.refl _ w).alloc (Nat.le_refl _) _
    have hG : V.heap[w.heap.size]? = some (.cells (List.replicate m (Value.int .u8 0)).toArray 5 (0, 0)) := by rw [hV, ← made_eq]; exact World.alloc_heap_new w _
    have v0 := (hB.cell (p := ⟨F, 0, none⟩) lF).trans c0
    have v1 := (hB.cell (p := ⟨F, 1, none⟩) lF).trans c1
    clear c0 c1 c2 hmk hV
    have s1 : IntKind.i64.wrap ((first : Int) + (m : Int)) = (first : Int) + (m : Int) := IntWalk.i64_in _ (by omega)
    obtain ⟨en, hen⟩ : ∃ en, en = min (first + m) cap := ⟨_, rfl⟩
    have Hen := Lib.hid hen
    clear hen
    go_upto_region 3 with fail
    go_cut [6] (fun s wx => s = .int .i64 en ∧ ∃ q, wx = V.drewN q)
    case first =>
      by_cases hw : first + m ≤ cap
      · have hw' : (first : Int) + (m : Int) ≤ (cap : Int) := by omega
        go_quiet (fail)
        go_wp2_with fail
        all_goals
          go_meet
          exact ⟨by have := Hen.out; congr 1; omega, _, rfl⟩
      · have hw' : ¬ (first : Int) + (m : Int) ≤ (cap : Int) := by omega
        go_quiet (fail)
        go_wp2_with fail
        all_goals
          go_meet
          exact ⟨by have := Hen.out; congr 1; omega, _, rfl⟩
    case rest =>
      obtain ⟨rfl, q, rfl⟩ := hcut
      have e1 : first ≤ en := by have := Hen.out; omega
      have e2 : en ≤ cap := by have := Hen.out; omega
      have e3 : (first : Int) ≤ (en : Int) := by omega
      have e4 : (en : Int) ≤ (cap : Int) := by omega
      go_wp2_with fail
      generalize hVq : V.drewN q = Vq
      have hB : Below w.heap.size w Vq := by rw [← hVq]; exact ⟨hB.os, hB.tape, hB.output, hB.size, hB.block⟩
      have hG : Vq.heap[w.heap.size]? = some (.cells (List.replicate m (Value.int .u8 0)).toArray 5 (0, 0)) := by rw [← hVq]; exact hG
      have v0 : Vq.cell? ⟨F, 0, none⟩ = some (.slice (some ⟨K, 0, none⟩) cap cap) := by rw [← hVq]; exact v0
      have v1 : Vq.cell? ⟨F, 1, none⟩ = some (.int .i64 first) := by rw [← hVq]; exact v1
      clear hVq
      go_still_tail 12, (by kernel_rfl)
      have hk1 : first + (en - first) = en := by omega
      have hk2 : en - first = min m (cap - first) := by have := Hen.out; omega
      obtain ⟨sp, hsp⟩ : ∃ sp : Option Addr, sp = if en = first then some ⟨K, 0, none⟩ else some ⟨K, first, none⟩ := ⟨_, rfl⟩
      rw [← hsp]
      have hsp' : 0 < en - first → sp = some ⟨K, first, none⟩ := fun h0 => by rw [hsp, if_neg (by omega)]
      clear hsp
      generalize hkk : en - first = k at *
      have Hk2 := Lib.hid hk2
      have Hsp := Lib.hid hsp'
      clear hk1 hk2 hsp' hkk
      change wpList _ _ _ _ _ Vq.drew
      have hB : Below w.heap.size w Vq.drew := hB.drew
      have hG : Vq.drew.heap[w.heap.size]? = some (.cells (List.replicate m (Value.int .u8 0)).toArray 5 (0, 0)) := hG
      generalize Vq.drew = Vr at *
      have v0 : Vr.cell? ⟨F, 0, none⟩ = some (.slice (some ⟨K, 0, none⟩) cap cap) := (hB.cell (p := ⟨F, 0, none⟩) lF).trans HH.out.c0
      have km : k ≤ m := by have := Hk2.out; omega
      refine wpList_copy_splice rfl (.tmp 30) (.tmp 41) 45 45 rfl 5 (by kernel_rfl) (by kernel_rfl) _ _ m m k k rfl rfl w.heap.size 0 (List.replicate m (Value.int .u8 0)) 5 hG (piece cs first k) (by rw [piece_length]; exact (Nat.min_eq_left km).symm)
        (fun h0 => ⟨rfl, _, Hsp.out (by rwa [piece_length] at h0), fun j v hv => ?src1⟩) (by rw [piece_length]; simp; exact km) (piece_one _ _ _) w.heap.size w hB (Nat.le_refl _) ?_
      case src1 =>
        obtain ⟨hj, rfl⟩ := piece_get hv
        have := Hk2.out
        rw [add_at]
        exact (hB.cell (p := ⟨K, first + j, none⟩) lK).trans (HH.out.k (first + j) (by omega))
      rw [piece_length]
      intro Vs hGs hBs
      clear v0 v1 hG hB
      have v0 : Vs.cell? ⟨F, 0, none⟩ = some (.slice (some ⟨K, 0, none⟩) cap cap) := (hBs.cell (p := ⟨F, 0, none⟩) lF).trans HH.out.c0
      obtain ⟨r, hr⟩ : ∃ r : Nat, r = m - k := ⟨_, rfl⟩
      have hmr : (m : Int) - (k : Int) = (r : Int) := by omega
      have Hr := Lib.hid hr
      clear hr
      have kr : (k : Int) ≤ (m : Int) := by omega
      have rr : (r : Int) ≤ (cap : Int) := by omega
      go_wp2_with fail
      go_still_tail 10, (by kernel_rfl)
      obtain ⟨dp, hdp⟩ : ∃ dp : Option Addr, dp = if m = k then some ⟨w.heap.size, 0, none⟩ else some ⟨w.heap.size, k, none⟩ := ⟨_, rfl⟩
      rw [← hdp]
      have hdp' : 0 < r → dp = some ⟨w.heap.size, k, none⟩ := fun h0 => by rw [hdp, if_neg (by omega)]
      clear hdp
      have hrr : m - k = r := Hr.out.symm
      rw [hrr]
      have Hdp := Lib.hid hdp'
      clear hdp' hrr
      change wpList _ _ _ _ _ Vs.drew
      have hB : Below w.heap.size w Vs.drew := hBs.drew
      have hG := hGs.out
      refine wpList_copy_splice rfl (.tmp 48) (.tmp 55) 45 45 rfl 5 (by kernel_rfl) (by kernel_rfl) _ _ r r r r rfl rfl w.heap.size k (splice (List.replicate m (Value.int .u8 0)) 0 (piece cs first k)) 5 hG (piece cs 0 r) (by rw [piece_length]; exact (Nat.min_eq_left (Nat.le_refl r)).symm)
        (fun h0 => ⟨Hdp.out (by rwa [piece_length] at h0), _, rfl, fun j v hv => ?src2⟩) (by rw [piece_length, length_splice _ _ _ (by rw [piece_length]; simp; exact km)]; simp; omega) (piece_one _ _ _) w.heap.size w hB (Nat.le_refl _) ?_
      case src2 =>
        obtain ⟨hj, rfl⟩ := piece_get hv
        rw [add_at]
        exact (hB.cell (p := ⟨K, 0 + j, none⟩) lK).trans (HH.out.k (0 + j) (by omega))
      rw [piece_length]
      intro Vt hGt hBt
      have hz : splice (splice (List.replicate m (Value.int .u8 0)) 0 (piece cs first k)) k (piece cs 0 r) = ((l.take m).map fun b => Value.int .u8 (b.toNat : Int)) := by
        rw [Hr.out, pieces cs first m k (by rw [Hcs.out]; exact hf) (by rw [Hcs.out]; omega) (by rw [Hcs.out]; exact Hk2.out) _ (by simp), ring_take cs first hml, HR.out, ← List.map_take, List.map_map]
        rfl
      rw [hz] at hGt
      have HGt := Lib.hid hGt
      clear hGt hGs hG hz hBs hB
      go_wp2
      go_ret
      exact ⟨by rw [Hlen.out]; rfl, HGt.out.out, hBt⟩
end Go.Proofs.Ytoddlldjhaacnaa
