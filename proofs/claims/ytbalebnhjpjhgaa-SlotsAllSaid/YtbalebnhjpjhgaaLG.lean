/- wicketgatelaw09.SlotsKeeps: all its ways. -/
import Derived.Test.YtbalebnhjpjhgaaLF
namespace Go.Proofs.Ytbalebnhjpjhgaa
open Go.RowKit

theorem all_le {s : Sl} (hr : s.right = true) : s.all.length ≤ 1000 := by
  have R := (right_iff s).1 hr
  have h2 := R.l2
  have h3 := R.l3
  unfold Sl.all
  rw [hr, if_pos rfl, takenOf_length]
  have := List.count_le_length (a := true) (l := s.u)
  omega

theorem keeps_walk (a1 a2 a3 : Option Addr) (c1 c2 c3 L1 L2 L3 : Nat) (s : Sl) (p g : Int) (h1 : s.g.length = L1) (h2 : s.u.length = L2) (h3 : s.f.length = L3) (hk : L1 ≤ c1 ∧ L2 ≤ c2 ∧ L3 ≤ c3) (w : World) (h : SlotsAt w.heap.size w a1 a2 a3 s.g s.u s.f) :
    Calls Try.prog 5 #[.agg #[.slice a1 L1 c1, .slice a2 L2 c2, .slice a3 L3 c3], .agg #[.int .i64 p, .int .i64 g]] w fun e w' => e = .returned (.bool true) ∧ Below w.heap.size w w' := by
  have hm : min L1 66 = min L1 66 ∧ min L2 66 = min L2 66 ∧ min L3 66 = min L3 66 := ⟨rfl, rfl, rfl⟩
  obtain ⟨l1, l2, _⟩ := cut_len s h1 h2 h3 hm
  have hz := took s.cut
  generalize hq : s.cut.take = z at hz
  cases hz with
  | wrong hr => exact keeps_wrong a1 a2 a3 c1 c2 c3 L1 L2 L3 _ _ _ s p g h1 h2 h3 hm hk w h hq hr
  | full hr => exact keeps_full a1 a2 a3 c1 c2 c3 L1 L2 L3 _ _ _ s p g h1 h2 h3 hm hk w h hq hr
  | ok fs k q hr hf hg hq1 =>
    obtain ⟨t1, t2, t3, t4⟩ := taken_facts hr hf hg hq1
    have T : (s.cut.taken fs k q).g.length = min L1 66 ∧ (s.cut.taken fs k q).u.length = min L2 66 ∧ (s.cut.taken fs k q).f.length = fs.length := ⟨by simp only [Sl.taken, List.length_set]; exact l1, by simp only [Sl.taken, List.length_set]; exact l2, rfl⟩
    by_cases hp : p = k
    · subst hp
      by_cases hg' : g = q + 1
      · subst hg'
        exact keeps_ok_eq a1 a2 a3 c1 c2 c3 L1 L2 L3 _ _ _ s k (q + 1) h1 h2 h3 hm hk w h _ fs.length _ _ hq T t1 t2 t3 t4 rfl rfl (all_le hr)
      · exact keeps_ok_ne2 a1 a2 a3 c1 c2 c3 L1 L2 L3 _ _ _ s g k h1 h2 h3 hm hk w h _ fs.length _ _ (q + 1) _ hq T t1 t2 t3 rfl (taken_other hr hf hg hq1 (fun e => hg' (congrArg Prod.snd e))).symm t4 rfl rfl (all_le hr) hg'
    · exact keeps_ok_ne a1 a2 a3 c1 c2 c3 L1 L2 L3 _ _ _ s p g k h1 h2 h3 hm hk w h _ fs.length _ _ (q + 1) _ hq T t1 t2 t3 rfl (taken_other hr hf hg hq1 (fun e => hp (congrArg Prod.fst e))).symm t4 rfl rfl (all_le hr) hp
end Go.Proofs.Ytbalebnhjpjhgaa
