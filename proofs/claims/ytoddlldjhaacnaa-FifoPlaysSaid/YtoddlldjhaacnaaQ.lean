/- FifoLooks' walk. -/
import Derived.Test.YtoddlldjhaacnaaP
namespace Go.Proofs.Ytoddlldjhaacnaa
open Go.RowKit

set_option maxRecDepth 100000 in
set_option maxHeartbeats 2000000 in
theorem looks_any (n : Int) (a : Option Addr) (c : Nat) (xs : List OpV) (m : Int) (w : World) (h : OpsIn w.heap.size w a xs) :
    Calls Try.prog 6 #[.int .i64 n, .slice a xs.length c, .int .i64 m] w fun e w' => e = .returned (.bool true) ∧ Below w.heap.size w w' := by
  have HO := Lib.hid h
  clear h
  by_cases hn : 1 ≤ n ∧ n ≤ 4096
  · obtain ⟨n1, n2⟩ := hn
    obtain ⟨cap, rfl⟩ : ∃ cap : Nat, n = cap := ⟨n.toNat, by omega⟩
    have HN1 := Lib.hid n1
    have HN2 := Lib.hid n2
    clear n1 n2
    go_enter Try.func6, Try.ntmps6
    go_wp2_with (first
      | (go_at_call 8; refine (shown_any _).mono ?_; rintro e w1 ⟨rfl, hb1⟩)
      | (go_at_call 9; refine (cut_post a c xs _ ((HO.out.below hb1).mono hb1.size)).mono ?_; rintro e w2 ⟨a2, c2, rfl, ho2, hb2'⟩; have hb2 := hb1.trans (hb2'.mono hb1.size); have hys := cutAll_size xs; (have hyl : (cutAll xs).length ≤ 40 := by rw [cutAll_length]; omega); have HO2 := Lib.hid ho2; have HYS := Lib.hid hys; clear ho2 hb2' hys hb1; generalize cutAll xs = ys at *)
      | (go_at_call 10; refine (new_ok cap (by have := HN1.out; omega) (by have := HN2.out; omega) _).mono ?_; rintro e w3 ⟨F, K, rfl, hq, hb3', hF, hK⟩; have HQ3 := Lib.hid hq; have hb3 := hb2.trans (hb3'.mono hb2.size); (have h23 := hb2.size); have hb23 := hb3'; clear hq hb3' hb2))
    go_loopw [10] (fun i wr => ∃ k : Nat, k ≤ ys.length ∧ i = .int .i64 k ∧ Qs wr F K cap (runL cap [] (ys.take k)) ∧ Below w2.heap.size w2 wr ∧ Below w.heap.size w wr)
      (fun i _ => ys.length - (intOf i).toNat)
    case atStart => exact ⟨0, Nat.zero_le _, rfl, HQ3.out, hb23, hb3⟩
    case round =>
      obtain ⟨k, hk, rfl, hq, hb4, hb5⟩ := hrel
      have HQ := Lib.hid hq
      have HB4 := Lib.hid hb4
      have HB5 := Lib.hid hb5
      clear hq hb4 hb5
      by_cases hlt : k < ys.length
      · obtain ⟨b, off, rfl, hbl, c0, c1, c2'⟩ := (HO2.out.below HB4.out) k hlt
        rw [Nat.mul_comm 3 k] at c0 c1 c2'
        have HL := Lib.hid (runL_take cap [] ys k hlt)
        have hsz := HYS.out ys[k] (List.getElem_mem hlt)
        have hi1 : (k : Int) < (ys.length : Int) := by omega
        generalize ys[k] = x at *
        go_wp2_with (first
          | (go_at_call 15; refine (do_any F K cap _ x (by omega) _ HQ.out).mono ?_; rintro e w6 ⟨rfl, hq, ho⟩; have HQ6 := Lib.hid hq; have HO6 := Lib.hid ho; clear hq ho))
        go_roundw
        case rel => exact ⟨k + 1, by omega, by go_num, by rw [HL.out]; exact HQ6.out, HB4.out.trans (HO6.out.below HB4.out.size hF hK), HB5.out.trans (HO6.out.below HB5.out.size (by omega) (by omega))⟩
        case measure => simp [intOf]; omega
      · obtain rfl : k = ys.length := by omega
        rw [List.take_length] at HQ
        generalize runL cap [] ys = l at *
        have hL := HQ.out.le
        have hC := HQ.out.cap_le
        have hP := fun W hq => peek_any F K cap l m W hq
        have hO := fun W hq => pop_any F K cap l m W hq
        have ht1 : (l.take m.toNat).length ≤ l.length := by rw [List.length_take]; omega
        have hd : (((l.drop m.toNat).length : Nat) : Int) = (l.length : Int) - ((l.take m.toNat).length : Int) := by rw [List.length_drop, List.length_take]; omega
        have hm : (m < 0 ∧ (l.take m.toNat).length = 0) ∨ (m = 0 ∧ (l.take m.toNat).length = 0) ∨ (0 < m ∧ m ≤ l.length ∧ ((l.take m.toNat).length : Int) = m) ∨ (0 < m ∧ ¬ m ≤ l.length ∧ (l.take m.toNat).length = l.length) := by rw [List.length_take]; omega
        generalize l.take m.toNat = t at *
        generalize l.drop m.toNat = d at *
        have HP := Lib.hid hP
        have HPO := Lib.hid hO
        have hsz : (str t).size = t.length := str_size t
        clear hP hO
        rcases hm with ⟨m1, m2⟩ | ⟨rfl, m2⟩ | ⟨m1, m2, m3⟩ | ⟨m1, m2, m3⟩
        all_goals
          go_wp2_with (first
            | (go_at_call 12; refine (len_any F K cap l _ HQ.out).mono ?_; rintro e w6 ⟨rfl, rfl⟩)
            | (go_at_call 18; refine (HP.out _ HQ.out).mono ?_; rintro e w7 ⟨rfl, hb7⟩; have HQ7 := Lib.hid (HQ.out.below hb7 HQ.out.lt.1 HQ.out.lt.2); have HB7 := Lib.hid hb7; clear hb7)
            | (go_at_call 12; refine (len_any F K cap l _ HQ7.out).mono ?_; rintro e w6 ⟨rfl, rfl⟩)
            | (go_at_call 14; refine (HPO.out _ HQ7.out).mono ?_; rintro e w8 ⟨rfl, hq8, ho8⟩; have HQ8 := Lib.hid hq8; have HO8 := Lib.hid ho8; clear hq8 ho8)
            | (go_at_call 12; refine (len_any F K cap _ _ HQ8.out).mono ?_; rintro e w9 ⟨rfl, rfl⟩))
          all_goals go_ret
          refine ⟨rfl, HB5.out.trans ((HB7.out.mono HB5.out.size).trans (HO8.out.below (Nat.le_trans HB5.out.size HB7.out.size) (by omega) (by omega)))⟩
  · have HN := Lib.hid (show n < 1 ∨ 4096 < n by omega)
    clear hn
    go_enter Try.func6, Try.ntmps6
    go_wp2_with (first
      | (go_at_call 8; refine (shown_any _).mono ?_; rintro e w1 ⟨rfl, hb1⟩)
      | (go_at_call 9; refine (cut_post a c xs _ ((HO.out.below hb1).mono hb1.size)).mono ?_; rintro e w2 ⟨a2, c2, rfl, ho2, hb2'⟩; have hb2 := hb1.trans (hb2'.mono hb1.size); clear ho2 hb2' hb1)
      | (go_at_call 10; refine (new_err n HN.out _).mono ?_; rintro e w1 ⟨rfl, rfl⟩))
    go_ret
    exact ⟨rfl, hb2⟩
end Go.Proofs.Ytoddlldjhaacnaa
