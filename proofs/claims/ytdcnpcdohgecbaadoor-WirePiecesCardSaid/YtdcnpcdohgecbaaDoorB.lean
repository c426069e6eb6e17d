/- Number, pair, Bytes: contracts. -/
import Derived.Test.YtdcnpcdohgecbaaDoorA
namespace Go.Proofs.YtdcnpcdohgecbaaDoor
open Go.RowKit Go.Shelf
attribute [local go_sem] Oper.semAt_some

/-- The number of two bytes. -/
def numB : List UInt8 → Int
  | [a, b] => 256 * (a.toNat : Int) + (b.toNat : Int)
  | _ => 0
theorem size_two {s : ByteArray} (h : s.size = 2) : ∃ a b, s = ⟨#[a, b]⟩ := by
  obtain ⟨⟨l⟩⟩ := s
  match l, h with
  | [a, b], _ => exact ⟨a, b, rfl⟩
theorem numB_not {s : ByteArray} (h : ¬ s.size = 2) : numB s.data.toList = 0 := by
  obtain ⟨⟨l⟩⟩ := s
  match l with
  | [] => rfl
  | [_] => rfl
  | [a, b] => exact absurd rfl h
  | _ :: _ :: _ :: _ => rfl
set_option maxRecDepth 100000 in
set_option maxHeartbeats 2000000 in
theorem number_c (s : ByteArray) (w : World) : Calls Tryd.prog 21 #[.string s] w fun x w' => x = .returned (.int .i64 (numB s.data.toList)) ∧ Below w.heap.size w w' := by
  by_cases hs : s.size = 2
  · obtain ⟨a, b, rfl⟩ := size_two hs
    have ha := a.toNat_lt
    have hb := b.toNat_lt
    have e1 : IntKind.i64.wrap (256 * (a.toNat : Int)) = 256 * (a.toNat : Int) := IntWalk.i64_in _ (by omega)
    have e2 : IntKind.i64.wrap (256 * (a.toNat : Int) + (b.toNat : Int)) = 256 * (a.toNat : Int) + (b.toNat : Int) := IntWalk.i64_in _ (by omega)
    have e3 : IntKind.i64.wrap (a.toNat : Int) = (a.toNat : Int) := IntWalk.i64_in _ (by omega)
    have e4 : IntKind.i64.wrap (b.toNat : Int) = (b.toNat : Int) := IntWalk.i64_in _ (by omega)
    clear hs
    go_enter Tryd.func21, Tryd.ntmps21
    go_wp2
    go_region
    go_wp2
    go_ret
    refine ⟨?_, below_drew (Below.refl _ _)⟩
    show Ending.returned (.int .i64 (wrap64 (wrap64 (256 * wrap64 (a.toNat : Int)) + wrap64 (b.toNat : Int)))) = .returned (.int .i64 (256 * (a.toNat : Int) + (b.toNat : Int)))
    have : wrap64 (wrap64 (256 * wrap64 (a.toNat : Int)) + wrap64 (b.toNat : Int)) = 256 * (a.toNat : Int) + (b.toNat : Int) := by unfold wrap64; omega
    rw [this]
  · have hn : ((s.size : Int) == 2) = false := by simp; omega
    have hm : ((s.size : Int) != 2) = true := by simp; omega
    rw [numB_not hs]
    go_enter Tryd.func21, Tryd.ntmps21
    go_wp2
    go_ret
    exact ⟨rfl, Below.refl _ _⟩
set_option maxRecDepth 100000 in
set_option maxHeartbeats 2000000 in
theorem pair_c (n : Nat) (hn : n ≤ 65535) (w : World) : Calls Tryd.prog 27 #[.int .i64 (n : Int)] w fun x w' => x = .returned (.string ⟨#[UInt8.ofNat (n / 256), UInt8.ofNat (n % 256)]⟩) ∧ Below w.heap.size w w' := by
  have hcv : (convert 47 9 (.slice (some ⟨w.heap.size, 0, none⟩) 2 2)).run Tryd.prog (w.alloc (.cells #[.int .u8 ((n : Int) / 256), .int .u8 ((n : Int) % 256)] 5)) = .ok (.string ⟨#[UInt8.ofNat (n / 256), UInt8.ofNat (n % 256)]⟩) (w.alloc (.cells #[.int .u8 ((n : Int) / 256), .int .u8 ((n : Int) % 256)] 5)) := by
    refine run_convert_bytes_back (P := Tryd.prog) _ 47 9 5 ⟨w.heap.size, 0, none⟩ 2 [UInt8.ofNat (n / 256), UInt8.ofNat (n % 256)] (by kernel_rfl) (by kernel_rfl) (by kernel_rfl) (fun j hj => ?_)
    have e1 : ((UInt8.ofNat (n / 256)).toNat : Int) = (n : Int) / 256 := by rw [UInt8.toNat_ofNat']; omega
    have e2 : ((UInt8.ofNat (n % 256)).toNat : Int) = (n : Int) % 256 := by rw [UInt8.toNat_ofNat']; omega
    match j, hj with
    | 0, _ => show (World.cell? _ _ : Option Value) = some (Value.int .u8 ((UInt8.ofNat (n / 256)).toNat : Int)); rw [e1]; simp [Addr.add]
    | 1, _ => show (World.cell? _ _ : Option Value) = some (Value.int .u8 ((UInt8.ofNat (n % 256)).toNat : Int)); rw [e2]; simp [Addr.add]
  go_enter Tryd.func27, Tryd.ntmps27
  go_wp2
  go_ret
  exact ⟨rfl, below_alloc _ _⟩
end Go.Proofs.YtdcnpcdohgecbaaDoor
