/- slices.Collect; All; New of wrong numbers. -/
import Derived.Test.YtbalebnhjpjhgaaS
namespace Go.Proofs.Ytbalebnhjpjhgaa
open Go.RowKit

/-- What All lists. -/
def Sl.all (s : Sl) : List (Int × Int) := if s.right = true then takenOf s.g s.u else []

set_option maxRecDepth 100000 in
set_option maxHeartbeats 1000000 in
theorem collect_any (Bs : Nat) (a1 a2 : Option Addr) (s3 : Value) (c1 c2 L : Nat) (gs : List Int) (us : List Bool) (hg : gs.length = L) (hu : us.length = L) (hlen : L ≤ 1000) (w : World)
    (hB0 : w.cell? ⟨Bs, 0, none⟩ = some (.slice a1 L c1)) (hB1 : w.cell? ⟨Bs, 1, none⟩ = some (.slice a2 L c2)) (hB2 : w.cell? ⟨Bs, 2, none⟩ = some s3) (hI : IntsAt w.heap.size w a1 gs) (hU : BoolsAt w.heap.size w a2 us) :
    Calls Try.prog 37 #[.func (.func 46) #[] #[.pointer (some ⟨Bs, 0, none⟩)]] w fun e w' => ∃ v, e = .returned v ∧ OwnH w.heap.size w' v (takenOf gs us) ∧ Below w.heap.size w w' := by
  have H := Lib.hid ((callsIn_wide (n := 5)).1 (seq_in Fence.wide 5 trivial trivial trivial rfl (Nat.le_refl _) Bs a1 a2 s3 c1 c2 gs us (by omega) (by omega) w (by rw [hg]; exact hB0) (by rw [hu]; exact hB1) hB2 hI hU))
  clear hB0 hB1 hB2 hI hU hg hu hlen
  go_enter Try.func37, Try.ntmps37
  go_wp2_with fail
  refine H.out.mono ?_
  rintro e w1 ⟨v, rfl, ho, hb⟩
  have HO := Lib.hid ho
  clear ho
  go_wp2
  go_ret
  exact ⟨v, rfl, HO.out, hb⟩

set_option maxRecDepth 100000 in
set_option maxHeartbeats 1000000 in
theorem all_any (a1 a2 a3 : Option Addr) (c1 c2 c3 L1 L2 L3 : Nat) (s : Sl) (h1 : s.g.length = L1) (h2 : s.u.length = L2) (h3 : s.f.length = L3) (w : World) (h : SlotsAt w.heap.size w a1 a2 a3 s.g s.u s.f) :
    Calls Try.prog 20 #[.agg #[.slice a1 L1 c1, .slice a2 L2 c2, .slice a3 L3 c3]] w fun e w' => ∃ v, e = .returned v ∧ OwnH w.heap.size w' v s.all ∧ Below w.heap.size w w' := by
  have H := Lib.hid (fun w hS => right2_any a1 a2 a3 c1 c2 c3 L1 L2 L3 s h1 h2 h3 w hS)
  have HS := Lib.hid h
  have hA : Below w.heap.size w (w.alloc (.cells #[.slice a1 L1 c1, .slice a2 L2 c2, .slice a3 L3 c3] 25)) := (Below.refl _ _).alloc (Nat.le_refl _) _
  have HA := Lib.hid hA
  clear h hA
  unfold Sl.all
  cases hr : s.right with
  | false =>
    rw [hr] at H
    clear h1 h2 h3 hr
    simp only [Bool.false_eq_true, if_false]
    go_enter Try.func20, Try.ntmps20
    go_wp2_with fail
    refine (H.out _ (HS.out.on HA.out)).mono ?_; rintro e w1 ⟨rfl, hb1⟩
    go_wp2
    go_ret
    exact ⟨_, rfl, World.ownsRow_nil _ _ _ _, HA.out.trans (hb1.mono HA.out.size)⟩
  | true =>
    obtain ⟨R1, R2, R3, R4, _⟩ := (right_iff s).1 hr
    obtain rfl : L1 = L2 := by omega
    have G := Lib.hid (fun Bs w k0 k1 k2 hi hu => collect_any Bs a1 a2 (.slice a3 L3 c3) c1 c2 L1 s.g s.u h1 h2 (by omega) w k0 k1 k2 hi hu)
    have T := Lib.hid (fun w => (callsIn_wide (n := 2)).1 (taken_in Fence.wide 2 trivial rfl (.slice a1 L1 c1) (.slice a2 L1 c2) (.slice a3 L3 c3) w))
    rw [hr] at H
    simp only [if_true]
    clear h1 h2 h3 hr R1 R2 R3 R4
    go_enter Try.func20, Try.ntmps20
    go_wp2_with fail
    refine (H.out _ (HS.out.on HA.out)).mono ?_; rintro e w1 ⟨rfl, hb1⟩
    obtain ⟨hc1, hf1⟩ := bcell hb1
    have hz1 := hb1.size
    simp only [World.size_alloc] at hz1
    have HB := Lib.hid (HA.out.trans (hb1.mono HA.out.size))
    clear hb1
    go_wp2_with fail
    refine (T.out _).mono ?_; rintro e w2 ⟨rfl, rfl⟩
    go_wp2_with fail
    refine (G.out _ _ ?_ ?_ ?_ (HS.out.on (HB.out.alloc HB.out.size _)).g (HS.out.on (HB.out.alloc HB.out.size _)).u).mono ?_
    · go_simp
    · go_simp
    · go_simp
    rintro e w3 ⟨v, rfl, ho, hb3⟩
    have HO := Lib.hid ho
    have hz := HB.out.size
    clear ho
    go_wp2
    go_ret
    exact ⟨v, rfl, (⟨HO.out.1, HO.out.2.imp id fun ⟨g, cap, cur, hv, hb, rest⟩ => ⟨g, cap, cur, hv, Nat.le_trans (by simp; omega) hb, rest⟩⟩ : OwnH _ _ _ _), (HB.out.alloc HB.out.size _).trans (hb3.mono (by simp; omega))⟩

set_option maxRecDepth 100000 in
set_option maxHeartbeats 1000000 in
theorem new_wrong (n : Int) (w : World) (h : n < 1 ∨ 64 < n) :
    Calls Try.prog 11 #[.int .i64 n] w fun e w' => e = .returned (.tuple #[nilV, .int .i64 2]) ∧ Below w.heap.size w w' := by
  obtain ⟨e0, e1, e2, f0, f1, f2⟩ := Fr3.new w 25
  by_cases h1 : n < 1
  · clear h
    go_enter Try.func11, Try.ntmps11
    go_wp2
    refine bodyPost_ret (v := .tuple #[nilV, .int .i64 2]) (by simp [results, Try.results11, go_sem, nilV, e0, e1, e2]) rfl ⟨rfl, ?_⟩
    exact (Below.refl _ _).alloc (Nat.le_refl _) _
  · have h2 : 64 < n := by omega
    clear h
    go_enter Try.func11, Try.ntmps11
    go_wp2
    refine bodyPost_ret (v := .tuple #[nilV, .int .i64 2]) (by simp [results, Try.results11, go_sem, nilV, e0, e1, e2]) rfl ⟨rfl, ?_⟩
    exact (Below.refl _ _).alloc (Nat.le_refl _) _
end Go.Proofs.Ytbalebnhjpjhgaa
