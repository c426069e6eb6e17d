/- A text's first forty bytes; a text by its bytes. -/
import Derived.Test.YtlnjalhlbfbjcaaGreatDoorX
import Derived.Test.YtlnjalhlbfbjcaaGreatDoorU
namespace Go.Proofs.YtlnjalhlbfbjcaaGreatDoor
open Go.RowKit Go.Shelf
attribute [local go_sem] Oper.semAt_some

theorem str_eq {s : ByteArray} {l : List UInt8} (h : s.data.toList = l) : s = ⟨l.toArray⟩ := by
  subst h; simp
def cut40 (s : ByteArray) : ByteArray := s.extract 0 (min (s.size : Int) 40).toNat
theorem cut_size (s : ByteArray) : (cut40 s).size ≤ 40 := by unfold cut40; rw [ByteArray.size_extract]; omega
set_option maxRecDepth 100000 in
theorem cut40_c (s : ByteArray) (w : World) : Calls Tryz.prog 6 #[.string s] w fun x w' => x = .returned (.string (cut40 s)) ∧ w = w' := by
  go_enter Tryz.func6, Tryz.ntmps6
  go_wp2
  exact bodyPost_ret (v := .string (s.extract 0 (min (s.size : Int) 40).toNat)) (by simp [results, Tryz.results11, go_sem]) rfl ⟨rfl, rfl⟩
theorem pqs_none {L : List UInt8} (h : (rwP L).isSome = false) : pqF L = 0 ∧ pqT L = 0 ∧ pqE L = 70 := pq_none (by simpa using h)
theorem tgs_none {L : List UInt8} (h : (tgP L).isSome = false) : tgA L = 0 ∧ tgN L = 0 ∧ tgE L = 71 := tg_none (by simpa using h)
end Go.Proofs.YtlnjalhlbfbjcaaGreatDoor
