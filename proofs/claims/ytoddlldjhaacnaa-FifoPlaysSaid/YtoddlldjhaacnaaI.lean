/- Pop. -/
import Derived.Test.YtoddlldjhaacnaaH
namespace Go.Proofs.Ytoddlldjhaacnaa
open Go.RowKit

set_option maxHeartbeats 1000000 in
theorem pop_any (F K cap : Nat) (l : List UInt8) (n : Int) (w : World) (h : Qs w F K cap l) :
    Calls Try.prog 14 #[.pointer (some ⟨F, 0, none⟩), .int .i64 n] w fun e w' => e = .returned (.string (str (l.take n.toNat))) ∧ Qs w' F K cap (l.drop n.toNat) ∧ Off F K w w' := by
  have hP := peek_any F K cap l n w h
  have hlt := h.lt
  have c2 : w.cell? ⟨F, 2, none⟩ = some (.int .i64 l.length) := by obtain ⟨first, cs, hq, hr⟩ := h; exact hq.c2
  have hlen : (l.take n.toNat).length ≤ 1000000 := by have := h.le; have := h.cap_le; rw [List.length_take]; omega
  have hdr : l.drop (l.take n.toNat).length = l.drop n.toNat := by
    rw [List.length_take]
    rcases Nat.le_total n.toNat l.length with h | h
    · rw [Nat.min_eq_left h]
    · rw [Nat.min_eq_right h, List.drop_length, List.drop_of_length_le h]
  have hmn : min (l.take n.toNat).length l.length = (l.take n.toNat).length := by simp
  have hnil : l.take n.toNat = [] → l.drop n.toNat = l := fun e => by
    rw [← hdr, e]; rfl
  generalize l.take n.toNat = t at *
  have H := Lib.hid h
  have HP := Lib.hid hP
  have Hdr := Lib.hid hdr
  have Hmn := Lib.hid hmn
  clear h hP hdr hmn
  by_cases ht : t = []
  · have Hnil := Lib.hid (hnil ht)
    clear hnil
    subst ht
    have e0 : str [] = ByteArray.mk #[] := rfl
    rw [e0] at HP ⊢
    go_enter Try.func14, Try.ntmps14
    go_wp2_with (first | (go_at_call 18; refine HP.out.mono ?_; rintro e w1 ⟨rfl, hb⟩))
    go_ret
    exact ⟨rfl, by rw [Hnil.out]; exact H.out.below hb hlt.1 hlt.2, Off.of_below hb⟩
  · clear hnil
    have f1 : (str t).toList.isEmpty = false := by rw [str_toList]; simpa using ht
    have f2 : (str t).toList ≠ [] := by rw [str_toList]; exact ht
    have f3 : (str t).size = t.length := str_size t
    go_enter Try.func14, Try.ntmps14
    go_wp2_with (first
      | (go_at_call 18; refine HP.out.mono ?_; rintro e w1 ⟨rfl, hb⟩)
      | (go_at_call 22; refine (repeat_any F K cap l t.length hlen _ (H.out.below hb hlt.1 hlt.2)).mono ?_; rintro e w2 ⟨rfl, hq, ho⟩))
    go_ret
    refine ⟨rfl, by rw [← Hdr.out]; exact hq, (Off.of_below hb).trans ho⟩
end Go.Proofs.Ytoddlldjhaacnaa
