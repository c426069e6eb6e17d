/- Cut. -/
import Derived.Test.YtbalebnhjpjhgaaU
import Derived.StillTailTactics
namespace Go.Proofs.Ytbalebnhjpjhgaa
open Go.RowKit

/-- The first sixty-six of each list. -/
def Sl.cut (s : Sl) : Sl := ⟨s.g.take 66, s.u.take 66, s.f.take 66⟩
theorem IntsAt.take {n₀ : Nat} {W : World} {a : Option Addr} {zs : List Int} (h : IntsAt n₀ W a zs) (k : Nat) : IntsAt n₀ W a (zs.take k) := fun i hi => by
  obtain ⟨b, off, e, hb, hc⟩ := h i (by simp at hi; omega)
  exact ⟨b, off, e, hb, by rw [hc, List.getElem_take]⟩
theorem BoolsAt.take {n₀ : Nat} {W : World} {a : Option Addr} {zs : List Bool} (h : BoolsAt n₀ W a zs) (k : Nat) : BoolsAt n₀ W a (zs.take k) := fun i hi => by
  obtain ⟨b, off, e, hb, hc⟩ := h i (by simp at hi; omega)
  exact ⟨b, off, e, hb, by rw [hc, List.getElem_take]⟩
theorem SlotsAt.cut {n₀ : Nat} {W : World} {a1 a2 a3 : Option Addr} {s : Sl} (h : SlotsAt n₀ W a1 a2 a3 s.g s.u s.f) : SlotsAt n₀ W a1 a2 a3 s.cut.g s.cut.u s.cut.f := ⟨h.g.take 66, h.u.take 66, h.f.take 66⟩

set_option maxRecDepth 100000 in
set_option maxHeartbeats 4000000 in
theorem cut_raw (a1 a2 a3 : Option Addr) (c1 c2 c3 L1 L2 L3 m1 m2 m3 : Nat) (h1 : m1 = min L1 66) (h2 : m2 = min L2 66) (h3 : m3 = min L3 66) (k1 : L1 ≤ c1) (k2 : L2 ≤ c2) (k3 : L3 ≤ c3) (w : World) :
    Calls Try.prog 10 #[.agg #[.slice a1 L1 c1, .slice a2 L2 c2, .slice a3 L3 c3]] w fun e w' => e = .returned (.agg #[.slice a1 m1 c1, .slice a2 m2 c2, .slice a3 m3 c3]) ∧ Below w.heap.size w w' := by
  have p1 : (if (66 : Int) < (L1 : Int) then (66 : Int) else (L1 : Int)) = (m1 : Int) := by split <;> omega
  have p2 : (if (66 : Int) < (L2 : Int) then (66 : Int) else (L2 : Int)) = (m2 : Int) := by split <;> omega
  have p3 : (if (66 : Int) < (L3 : Int) then (66 : Int) else (L3 : Int)) = (m3 : Int) := by split <;> omega
  have q1 : (m1 : Int) ≤ (c1 : Int) := by omega
  have q2 : (m2 : Int) ≤ (c2 : Int) := by omega
  have q3 : (m3 : Int) ≤ (c3 : Int) := by omega
  clear h1 h2 h3 k1 k2 k3
  go_enter Try.func10, Try.ntmps10
  go_wp2_with fail
  obtain ⟨V, hV⟩ : ∃ V, V = ((w.alloc (.cells #[.slice a1 L1 c1, .slice a2 L2 c2, .slice a3 L3 c3] 25)).alloc (.cells #[.slice none 0 0, .slice none 0 0, .slice none 0 0] 25)) := ⟨_, rfl⟩
  rw [← hV]
  have t0 : V.cell? ⟨w.heap.size, 0, none⟩ = some (.slice a1 L1 c1) := by rw [hV]; go_simp
  have t1 : V.cell? ⟨w.heap.size, 1, none⟩ = some (.slice a2 L2 c2) := by rw [hV]; go_simp
  have t2 : V.cell? ⟨w.heap.size, 2, none⟩ = some (.slice a3 L3 c3) := by rw [hV]; go_simp
  have hr : Fr3 (w.heap.size + 1) V := by rw [hV]; simpa using Fr3.new (w.alloc (.cells #[.slice a1 L1 c1, .slice a2 L2 c2, .slice a3 L3 c3] 25)) 25
  have hb : Below w.heap.size w V := by rw [hV]; exact ((Below.refl _ _).alloc (Nat.le_refl _) _).alloc (by simp) _
  obtain ⟨e0, e1, e2, f0, f1, f2⟩ := hr
  clear hV
  go_still_tail 22, (by kernel_rfl)
  change wpList _ _ _ _ _ V.drew
  go_wp2
  refine bodyPost_ret (v := .agg #[.slice a1 m1 c1, .slice a2 m2 c2, .slice a3 m3 c3]) (by simp [results, Try.results10, go_sem, e0, e1, e2]) rfl ⟨rfl, ?_⟩
  exact below_drew (below_set3 hb (by omega) _ _ _)
end Go.Proofs.Ytbalebnhjpjhgaa
