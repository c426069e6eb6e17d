/- A taker's parts: kind, length. -/
import Derived.Test.YtdcnpcdohgecbaaDoorK
namespace Go.Proofs.YtdcnpcdohgecbaaDoor
open Go.RowKit Go.Shelf
attribute [local go_sem] Oper.semAt_some

set_option maxRecDepth 100000 in
set_option maxHeartbeats 4000000 in
theorem kind_c (s : ByteArray) (n : Nat) (hn : n < s.size) (w : World) : Calls Tryd.prog 55 #[.agg #[.string s, .int .i64 (n : Int)]] w fun x w' => x = .returned (.int .i64 (s.data.toList.getD n 0).toNat) ∧ Below w.heap.size w w' := by
  have hl : n < s.data.toList.length := by simpa using hn
  have hd : s.data.toList.getD n 0 = s[n] := by
    rw [List.getD_eq_getElem?_getD, List.getElem?_eq_getElem hl]; rfl
  have hb := (s[n]).toNat_lt
  have e1 : IntKind.i64.wrap ((s[n]).toNat : Int) = ((s[n]).toNat : Int) := IntWalk.i64_in _ (by omega)
  have hix : ∀ W, (Instr.index 9 (.string s) (.int .i64 (n : Int))).run Tryd.prog W = .ok (.int .u8 ((s[n]).toNat : Int)) W := fun W => by
    rw [run_index_string (P := Tryd.prog) W 9 s .i64 (n : Int) (by kernel_rfl), dif_pos ⟨by omega, by omega⟩]; rfl
  rw [hd]
  clear hd
  generalize hgv : (s[n]).toNat = v at *
  clear hgv
  go_enter Tryd.func55, Tryd.ntmps55
  go_wp2
  go_ret
  exact ⟨rfl, below_alloc _ _⟩
end Go.Proofs.YtdcnpcdohgecbaaDoor
