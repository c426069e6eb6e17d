/- wicketgatelaw09.SlotsOld: all its ways. -/
import Derived.Test.YtbalebnhjpjhgaaLJ
namespace Go.Proofs.Ytbalebnhjpjhgaa
open Go.RowKit

theorem old_walk (a1 a2 a3 : Option Addr) (c1 c2 c3 L1 L2 L3 : Nat) (s : Sl) (p g keep : Int) (h1 : s.g.length = L1) (h2 : s.u.length = L2) (h3 : s.f.length = L3) (hk : L1 ≤ c1 ∧ L2 ≤ c2 ∧ L3 ≤ c3) (w : World) (h : SlotsAt w.heap.size w a1 a2 a3 s.g s.u s.f) :
    Calls Try.prog 6 #[.agg #[.slice a1 L1 c1, .slice a2 L2 c2, .slice a3 L3 c3], .agg #[.int .i64 p, .int .i64 g], .int .i64 keep] w fun e w' => e = .returned (.bool true) ∧ Below w.heap.size w w' := by
  have hm : min L1 66 = min L1 66 ∧ min L2 66 = min L2 66 ∧ min L3 66 = min L3 66 := ⟨rfl, rfl, rfl⟩
  obtain ⟨l1, l2, _⟩ := cut_len s h1 h2 h3 hm
  have hz := gave s.cut (p, g)
  generalize hq : s.cut.give (p, g) = z at hz
  cases hz with
  | wrong _ => exact old_no a1 a2 a3 c1 c2 c3 L1 L2 L3 _ _ _ s p g keep h1 h2 h3 hm hk w h 90 hq (by decide)
  | old _ _ => exact old_no a1 a2 a3 c1 c2 c3 L1 L2 L3 _ _ _ s p g keep h1 h2 h3 hm hk w h 91 hq (by decide)
  | ok k hr hp hu hg =>
    simp only at hp hg
    subst hp
    exact old_yes a1 a2 a3 c1 c2 c3 L1 L2 L3 _ _ _ s g keep k h1 h2 h3 hm hk w h _ hq (aged_start hr l1 l2 hu hg)
end Go.Proofs.Ytbalebnhjpjhgaa
