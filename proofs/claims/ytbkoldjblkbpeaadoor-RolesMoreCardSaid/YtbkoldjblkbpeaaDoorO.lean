/- The law's function RolesMore: it returns true. -/
import Derived.Test.YtbkoldjblkbpeaaDoorN
namespace Go.Proofs.YtbkoldjblkbpeaaDoor
open Go.RowKit Go.Shelf
attribute [local go_sem] Oper.semAt_some

theorem mem_snoc_b (v y : Int) (l : List Int) : decide (v ∈ l ++ [y]) = (decide (v ∈ l) || decide (y = v)) := by
  rw [Bool.eq_iff_iff]
  simp only [List.mem_append, List.mem_singleton, Bool.or_eq_true, decide_eq_true_eq]
  constructor
  · rintro (h | h)
    · exact .inl h
    · exact .inr h.symm
  · rintro (h | h)
    · exact .inl h
    · exact .inr h.symm
theorem more_may (a b v : Int) (hab : a ≤ b) (hb : b ≤ 3) (h : mayB a v = true) : mayB b v = true := by
  have hv : v ∈ vInts (mayL a) := by simpa [mayB] using h
  have h4 := roles4 a
  have hb4 := roles4 b
  have key : ∀ x y : Fin 3, x.val ≤ y.val → ∀ u ∈ vInts (mayL ((x.val : Int) + 1)), u ∈ vInts (mayL ((y.val : Int) + 1)) := by decide +kernel
  have h1 : a = 3 ∨ a = 2 ∨ a = 1 := by
    rcases h4 with h | h | h | ⟨h1, h2, h3⟩
    · exact .inl h
    · exact .inr (.inl h)
    · exact .inr (.inr h)
    · unfold mayL at hv
      rw [if_neg h1, if_neg h2, if_neg h3] at hv
      simp [vInts] at hv
  have ha' : ∃ x : Fin 3, a = (x.val : Int) + 1 := by
    rcases h1 with rfl | rfl | rfl
    · exact ⟨2, rfl⟩
    · exact ⟨1, rfl⟩
    · exact ⟨0, rfl⟩
  obtain ⟨x, rfl⟩ := ha'
  have hb' : ∃ y : Fin 3, b = (y.val : Int) + 1 := by
    have : b = 3 ∨ b = 2 ∨ b = 1 := by omega
    rcases this with rfl | rfl | rfl
    · exact ⟨2, rfl⟩
    · exact ⟨1, rfl⟩
    · exact ⟨0, rfl⟩
  obtain ⟨y, rfl⟩ := hb'
  have := key x y (by omega) v hv
  simpa [mayB] using this

set_option maxRecDepth 100000 in
set_option maxHeartbeats 4000000 in
theorem rolesMore_c (a b v : Int) (w : World) (hW : Wd w) : Calls Tryd.prog 5 #[.int .i64 a, .int .i64 b, .int .i64 v] w fun x w' => x = .returned (.bool true) ∧ Below w.heap.size w w' := by
  have K0 := Lib.hid (shown_c w hW)
  have K1 := Lib.hid (fun W h => (verbs_i a (vInts (mayL a)) rfl W).mono (R' := fun x w' => ∃ ad cap, x = .returned (.slice ad (vInts (mayL a)).length cap) ∧ IntsA w' ad (vInts (mayL a)) ∧ Below w.heap.size w w') (fun _ _ ⟨ad, c, e, hA, hb⟩ => ⟨ad, c, e, hA, btr h hb⟩))
  have K2 := Lib.hid (may_at a v (mayB a v) rfl w)
  have K3 := Lib.hid (may_at b v (mayB b v) rfl w)
  have hlen : (vInts (mayL a)).length ≤ 10 := by have := mayL_len a; simpa [vInts] using this
  have HM := Lib.hid (more_may a b v)
  have HB := Below.refl w.heap.size w
  have HI := Lib.hid (show mayB a v = decide (v ∈ vInts (mayL a)) from rfl)
  generalize mayB a v = ma at *
  generalize mayB b v = mb at *
  generalize vInts (mayL a) = l at *
  generalize hn : l.length = n at *
  clear hW
  go_enter Tryd.func5, Tryd.ntmps5
  go_wp2_with (first
      | (go_at_call 8; with_reducible refine K0.out.mono ?_; rintro e wn ⟨rfl, hB⟩)
      | (go_at_call 19; with_reducible refine (K1.out _ (by with_reducible assumption)).mono ?_; rintro e wn ⟨ad, cap, rfl, hA, hB⟩))
  have HA := Lib.hid hA
  clear hA
  go_loopw [8, 10] (fun c i wr => ∃ k : Nat, k ≤ n ∧ i = .int .i64 k ∧ c = .bool (decide (v ∈ l.take k)) ∧ Below wn.heap.size wn wr) (fun _ i _ => n - (intOf i).toNat)
  case atStart => exact ⟨0, Nat.zero_le _, rfl, by simp, Below.refl _ _⟩
  case round =>
    obtain ⟨k, hk, rfl, rfl, hb⟩ := hrel
    by_cases hlt : k < n
    · have hk1 : k < l.length := by omega
      obtain ⟨b1, rfl, q1⟩ := (HA.out.on hb) k hk1
      have hlt' : (k : Int) < (n : Int) := by omega
      have HT1 := Lib.hid (show l.take (k + 1) = l.take k ++ [l[k]] from List.take_succ_eq_append_getElem hk1)
      generalize l[k] = y at *
      have HBe := Lib.hid hb
      have HT : Hid (decide (v ∈ l.take (k + 1)) = (decide (v ∈ l.take k) || decide (y = v))) := Lib.hid (by rw [HT1.out]; exact mem_snoc_b _ _ _)
      generalize decide (v ∈ l.take k) = d at *
      clear hb HT1
      cases d with
      | true =>
        go_wp2_with fail
        go_roundw
        case rel => exact ⟨k + 1, by omega, by go_num, by rw [HT.out]; rfl, HBe.out⟩
        case measure => simp [intOf]; omega
      | false =>
        go_wp2_with fail
        go_roundw
        case rel => exact ⟨k + 1, by omega, by go_num, by rw [HT.out, Bool.false_or]; first | rfl | congr 1, HBe.out⟩
        case measure => simp [intOf]; omega
    · obtain rfl : k = n := by omega
      have hma : decide (v ∈ l.take k) = ma := by rw [List.take_of_length_le (by omega)]; exact HI.out.symm
      rw [hma]
      have hBw := btr hB hb
      clear hma hb
      cases ma with
      | false =>
        by_cases h1 : b < a
        · go_wp2_with (go_at_call 16; with_reducible refine (K2.out _ (by with_reducible assumption)).mono ?_; rintro e wn ⟨rfl, hB⟩)
          go_ret
          exact ⟨rfl, by assumption⟩
        · by_cases h2 : 3 < b
          · go_wp2_with (go_at_call 16; with_reducible refine (K2.out _ (by with_reducible assumption)).mono ?_; rintro e wn ⟨rfl, hB⟩)
            go_ret
            exact ⟨rfl, by assumption⟩
          · go_wp2_with (go_at_call 16; with_reducible refine (K2.out _ (by with_reducible assumption)).mono ?_; rintro e wn ⟨rfl, hB⟩)
            go_ret
            exact ⟨rfl, by assumption⟩
      | true =>
        by_cases h1 : b < a
        · go_wp2_with (go_at_call 16; with_reducible refine (K2.out _ (by with_reducible assumption)).mono ?_; rintro e wn ⟨rfl, hB⟩)
          go_ret
          exact ⟨rfl, by assumption⟩
        · by_cases h2 : 3 < b
          · go_wp2_with (go_at_call 16; with_reducible refine (K2.out _ (by with_reducible assumption)).mono ?_; rintro e wn ⟨rfl, hB⟩)
            go_ret
            exact ⟨rfl, by assumption⟩
          · obtain rfl : mb = true := HM.out (by omega) (by omega) rfl
            go_wp2_with (first
              | (go_at_call 16; with_reducible refine (K2.out _ (by with_reducible assumption)).mono ?_; rintro e wn ⟨rfl, hB⟩; clear K2)
              | (go_at_call 16; with_reducible refine (K3.out _ (by with_reducible assumption)).mono ?_; rintro e wn ⟨rfl, hB⟩; clear K3))
            go_ret
            exact ⟨rfl, by assumption⟩
end Go.Proofs.YtbkoldjblkbpeaaDoor
