/- The document's own Number, Bytes, Right. -/
import Derived.Test.YtdcnpcdohgecbaaDoorI
namespace Go.Proofs.YtdcnpcdohgecbaaDoor
open Go.RowKit Go.Shelf
attribute [local go_sem] Oper.semAt_some

set_option maxRecDepth 100000 in
set_option maxHeartbeats 2000000 in
theorem rNumber_c (s : ByteArray) (w : World) : Calls Tryd.prog 22 #[.string s] w fun x w' => x = .returned (.int .i64 (numB s.data.toList)) ∧ Below w.heap.size w w' := by
  by_cases hs : s.size = 2
  · obtain ⟨a, b, rfl⟩ := size_two hs
    have ha := a.toNat_lt
    have hb := b.toNat_lt
    have e1 : IntKind.i64.wrap (256 * (a.toNat : Int)) = 256 * (a.toNat : Int) := IntWalk.i64_in _ (by omega)
    have e2 : IntKind.i64.wrap (256 * (a.toNat : Int) + (b.toNat : Int)) = 256 * (a.toNat : Int) + (b.toNat : Int) := IntWalk.i64_in _ (by omega)
    have e3 : IntKind.i64.wrap (a.toNat : Int) = (a.toNat : Int) := IntWalk.i64_in _ (by omega)
    have e4 : IntKind.i64.wrap (b.toNat : Int) = (b.toNat : Int) := IntWalk.i64_in _ (by omega)
    clear hs
    go_enter Tryd.func22, Tryd.ntmps22
    go_wp2
    go_region
    go_wp2
    go_ret
    refine ⟨?_, below_drew (Below.refl _ _)⟩
    show Ending.returned (.int .i64 (wrap64 (wrap64 (256 * wrap64 (a.toNat : Int)) + wrap64 (b.toNat : Int)))) = .returned (.int .i64 (256 * (a.toNat : Int) + (b.toNat : Int)))
    have : wrap64 (wrap64 (256 * wrap64 (a.toNat : Int)) + wrap64 (b.toNat : Int)) = 256 * (a.toNat : Int) + (b.toNat : Int) := by unfold wrap64; omega
    rw [this]
  · have hn : ((s.size : Int) == 2) = false := by simp; omega
    have hm : ((s.size : Int) != 2) = true := by simp; omega
    rw [numB_not hs]
    go_enter Tryd.func22, Tryd.ntmps22
    go_wp2
    go_ret
    exact ⟨rfl, Below.refl _ _⟩
theorem conv_two (n : Nat) (hn : n ≤ 65535) (w : World) : (convert 47 9 (.slice (some ⟨w.heap.size, 0, none⟩) 2 2)).run Tryd.prog (w.alloc (.cells #[.int .u8 ((n : Int) / 256), .int .u8 ((n : Int) % 256)] 5)) = .ok (.string ⟨#[UInt8.ofNat (n / 256), UInt8.ofNat (n % 256)]⟩) (w.alloc (.cells #[.int .u8 ((n : Int) / 256), .int .u8 ((n : Int) % 256)] 5)) := by
  refine run_convert_bytes_back (P := Tryd.prog) _ 47 9 5 ⟨w.heap.size, 0, none⟩ 2 [UInt8.ofNat (n / 256), UInt8.ofNat (n % 256)] (by kernel_rfl) (by kernel_rfl) (by kernel_rfl) (fun j hj => ?_)
  have e1 : ((UInt8.ofNat (n / 256)).toNat : Int) = (n : Int) / 256 := by rw [UInt8.toNat_ofNat']; omega
  have e2 : ((UInt8.ofNat (n % 256)).toNat : Int) = (n : Int) % 256 := by rw [UInt8.toNat_ofNat']; omega
  match j, hj with
  | 0, _ => show (World.cell? _ _ : Option Value) = some (Value.int .u8 ((UInt8.ofNat (n / 256)).toNat : Int)); rw [e1]; simp [Addr.add]
  | 1, _ => show (World.cell? _ _ : Option Value) = some (Value.int .u8 ((UInt8.ofNat (n % 256)).toNat : Int)); rw [e2]; simp [Addr.add]
set_option maxRecDepth 100000 in
set_option maxHeartbeats 2000000 in
theorem rBytes_c (n : Int) (w : World) : Calls Tryd.prog 18 #[.int .i64 n] w fun x w' => x = .returned (.tuple #[.string ⟨(bytS n).toArray⟩, .int .i64 (bytE n)]) ∧ Below w.heap.size w w' := by
  unfold bytS bytE
  by_cases h0 : n < 0
  · rw [show isNum n = false by simp [isNum]; omega]
    simp only [Bool.false_eq_true, if_false]
    go_enter Tryd.func18, Tryd.ntmps18
    go_wp2
    go_ret2
    exact ⟨rfl, Below.refl _ _⟩
  · by_cases h1 : 65535 < n
    · rw [show isNum n = false by simp [isNum]; omega]
      simp only [Bool.false_eq_true, if_false]
      go_enter Tryd.func18, Tryd.ntmps18
      go_wp2
      go_ret2
      exact ⟨rfl, Below.refl _ _⟩
    · rw [show isNum n = true by simp [isNum]; omega]
      simp only [if_true]
      obtain ⟨m, rfl⟩ : ∃ m : Nat, n = m := ⟨n.toNat, by omega⟩
      have hcv := conv_two m (by omega) w
      go_enter Tryd.func18, Tryd.ntmps18
      go_wp2
      go_ret2
      exact ⟨rfl, below_alloc _ _⟩
set_option maxRecDepth 100000 in
set_option maxHeartbeats 4000000 in
theorem rRight_1 (st : Int) (s : ByteArray) (w : World) : Calls Tryd.prog 20 #[.agg #[.int .i64 1, .int .i64 st, .string s]] w fun x w' => x = .returned (.bool (rightW 1 st s.size)) ∧ Below w.heap.size w w' := by
  have e : rightW 1 st s.size = ((decide (0 ≤ st) && decide (st ≤ 65535)) && ((false == decide (0 < st)) && payB 45 s.size)) := rfl
  have ep : payB 45 s.size = (decide (1 ≤ (s.size : Int)) && decide ((s.size : Int) ≤ 64)) := by
    rw [Bool.eq_iff_iff]; simp [payB]; try omega
  have hge : (0 : Int) ≤ (s.size : Int) := by omega
  rw [e, ep]
  clear e ep
  by_cases h0 : 0 ≤ st
  · by_cases h1 : st ≤ 65535
    · by_cases h2 : st = 0
      · subst h2
        by_cases h3 : 1 ≤ (s.size : Int)
        · go_enter Tryd.func20, Tryd.ntmps20
          go_wp2
          go_ret
          exact ⟨ret_bool (by first | rfl | (simp [*]; done) | (simp [*]; omega) | (simp; omega)), below_alloc _ _⟩
        · go_enter Tryd.func20, Tryd.ntmps20
          go_wp2
          go_ret
          exact ⟨ret_bool (by first | rfl | (simp [*]; done) | (simp [*]; omega) | (simp; omega)), below_alloc _ _⟩
      · have h2' : 0 < st := by omega
        go_enter Tryd.func20, Tryd.ntmps20
        go_wp2
        go_ret
        exact ⟨ret_bool (by first | rfl | (simp [*]; done) | (simp [*]; omega) | (simp; omega)), below_alloc _ _⟩
    · go_enter Tryd.func20, Tryd.ntmps20
      go_wp2
      go_ret
      exact ⟨ret_bool (by first | rfl | (simp [*]; done) | (simp [*]; omega) | (simp; omega)), below_alloc _ _⟩
  · go_enter Tryd.func20, Tryd.ntmps20
    go_wp2
    go_ret
    exact ⟨ret_bool (by first | rfl | (simp [*]; done) | (simp [*]; omega) | (simp; omega)), below_alloc _ _⟩
set_option maxRecDepth 100000 in
set_option maxHeartbeats 4000000 in
theorem rRight_2 (st : Int) (s : ByteArray) (w : World) : Calls Tryd.prog 20 #[.agg #[.int .i64 2, .int .i64 st, .string s]] w fun x w' => x = .returned (.bool (rightW 2 st s.size)) ∧ Below w.heap.size w w' := by
  have e : rightW 2 st s.size = ((decide (0 ≤ st) && decide (st ≤ 65535)) && ((false == decide (0 < st)) && payB 46 s.size)) := rfl
  have ep : payB 46 s.size = (decide (32 ≤ (s.size : Int)) && decide ((s.size : Int) ≤ 32)) := by
    rw [Bool.eq_iff_iff]; simp [payB]; try omega
  have hge : (0 : Int) ≤ (s.size : Int) := by omega
  rw [e, ep]
  clear e ep
  by_cases h0 : 0 ≤ st
  · by_cases h1 : st ≤ 65535
    · by_cases h2 : st = 0
      · subst h2
        by_cases h3 : 32 ≤ (s.size : Int)
        · go_enter Tryd.func20, Tryd.ntmps20
          go_wp2
          go_ret
          exact ⟨ret_bool (by first | rfl | (simp [*]; done) | (simp [*]; omega) | (simp; omega)), below_alloc _ _⟩
        · go_enter Tryd.func20, Tryd.ntmps20
          go_wp2
          go_ret
          exact ⟨ret_bool (by first | rfl | (simp [*]; done) | (simp [*]; omega) | (simp; omega)), below_alloc _ _⟩
      · have h2' : 0 < st := by omega
        go_enter Tryd.func20, Tryd.ntmps20
        go_wp2
        go_ret
        exact ⟨ret_bool (by first | rfl | (simp [*]; done) | (simp [*]; omega) | (simp; omega)), below_alloc _ _⟩
    · go_enter Tryd.func20, Tryd.ntmps20
      go_wp2
      go_ret
      exact ⟨ret_bool (by first | rfl | (simp [*]; done) | (simp [*]; omega) | (simp; omega)), below_alloc _ _⟩
  · go_enter Tryd.func20, Tryd.ntmps20
    go_wp2
    go_ret
    exact ⟨ret_bool (by first | rfl | (simp [*]; done) | (simp [*]; omega) | (simp; omega)), below_alloc _ _⟩
set_option maxRecDepth 100000 in
set_option maxHeartbeats 4000000 in
theorem rRight_3 (st : Int) (s : ByteArray) (w : World) : Calls Tryd.prog 20 #[.agg #[.int .i64 3, .int .i64 st, .string s]] w fun x w' => x = .returned (.bool (rightW 3 st s.size)) ∧ Below w.heap.size w w' := by
  have e : rightW 3 st s.size = ((decide (0 ≤ st) && decide (st ≤ 65535)) && ((true == decide (0 < st)) && payB 45 s.size)) := rfl
  have ep : payB 45 s.size = (decide (1 ≤ (s.size : Int)) && decide ((s.size : Int) ≤ 64)) := by
    rw [Bool.eq_iff_iff]; simp [payB]; try omega
  have hge : (0 : Int) ≤ (s.size : Int) := by omega
  rw [e, ep]
  clear e ep
  by_cases h0 : 0 ≤ st
  · by_cases h1 : st ≤ 65535
    · by_cases h2 : st = 0
      · subst h2
        go_enter Tryd.func20, Tryd.ntmps20
        go_wp2
        go_ret
        exact ⟨ret_bool (by first | rfl | (simp [*]; done) | (simp [*]; omega) | (simp; omega)), below_alloc _ _⟩
      · have h2' : 0 < st := by omega
        by_cases h3 : 1 ≤ (s.size : Int)
        · go_enter Tryd.func20, Tryd.ntmps20
          go_wp2
          go_ret
          exact ⟨ret_bool (by first | rfl | (simp [*]; done) | (simp [*]; omega) | (simp; omega)), below_alloc _ _⟩
        · go_enter Tryd.func20, Tryd.ntmps20
          go_wp2
          go_ret
          exact ⟨ret_bool (by first | rfl | (simp [*]; done) | (simp [*]; omega) | (simp; omega)), below_alloc _ _⟩
    · go_enter Tryd.func20, Tryd.ntmps20
      go_wp2
      go_ret
      exact ⟨ret_bool (by first | rfl | (simp [*]; done) | (simp [*]; omega) | (simp; omega)), below_alloc _ _⟩
  · go_enter Tryd.func20, Tryd.ntmps20
    go_wp2
    go_ret
    exact ⟨ret_bool (by first | rfl | (simp [*]; done) | (simp [*]; omega) | (simp; omega)), below_alloc _ _⟩
set_option maxRecDepth 100000 in
set_option maxHeartbeats 4000000 in
theorem rRight_4 (st : Int) (s : ByteArray) (w : World) : Calls Tryd.prog 20 #[.agg #[.int .i64 4, .int .i64 st, .string s]] w fun x w' => x = .returned (.bool (rightW 4 st s.size)) ∧ Below w.heap.size w w' := by
  have e : rightW 4 st s.size = ((decide (0 ≤ st) && decide (st ≤ 65535)) && ((true == decide (0 < st)) && payB 47 s.size)) := rfl
  have ep : payB 47 s.size = (decide (1 ≤ (s.size : Int)) && decide ((s.size : Int) ≤ 512)) := by
    rw [Bool.eq_iff_iff]; simp [payB]; try omega
  have hge : (0 : Int) ≤ (s.size : Int) := by omega
  rw [e, ep]
  clear e ep
  by_cases h0 : 0 ≤ st
  · by_cases h1 : st ≤ 65535
    · by_cases h2 : st = 0
      · subst h2
        go_enter Tryd.func20, Tryd.ntmps20
        go_wp2
        go_ret
        exact ⟨ret_bool (by first | rfl | (simp [*]; done) | (simp [*]; omega) | (simp; omega)), below_alloc _ _⟩
      · have h2' : 0 < st := by omega
        by_cases h3 : 1 ≤ (s.size : Int)
        · go_enter Tryd.func20, Tryd.ntmps20
          go_wp2
          go_ret
          exact ⟨ret_bool (by first | rfl | (simp [*]; done) | (simp [*]; omega) | (simp; omega)), below_alloc _ _⟩
        · go_enter Tryd.func20, Tryd.ntmps20
          go_wp2
          go_ret
          exact ⟨ret_bool (by first | rfl | (simp [*]; done) | (simp [*]; omega) | (simp; omega)), below_alloc _ _⟩
    · go_enter Tryd.func20, Tryd.ntmps20
      go_wp2
      go_ret
      exact ⟨ret_bool (by first | rfl | (simp [*]; done) | (simp [*]; omega) | (simp; omega)), below_alloc _ _⟩
  · go_enter Tryd.func20, Tryd.ntmps20
    go_wp2
    go_ret
    exact ⟨ret_bool (by first | rfl | (simp [*]; done) | (simp [*]; omega) | (simp; omega)), below_alloc _ _⟩
set_option maxRecDepth 100000 in
set_option maxHeartbeats 4000000 in
theorem rRight_5 (st : Int) (s : ByteArray) (w : World) : Calls Tryd.prog 20 #[.agg #[.int .i64 5, .int .i64 st, .string s]] w fun x w' => x = .returned (.bool (rightW 5 st s.size)) ∧ Below w.heap.size w w' := by
  have e : rightW 5 st s.size = ((decide (0 ≤ st) && decide (st ≤ 65535)) && ((true == decide (0 < st)) && payB 48 s.size)) := rfl
  have ep : payB 48 s.size = (decide (2 ≤ (s.size : Int)) && decide ((s.size : Int) ≤ 2)) := by
    rw [Bool.eq_iff_iff]; simp [payB]; try omega
  have hge : (0 : Int) ≤ (s.size : Int) := by omega
  rw [e, ep]
  clear e ep
  by_cases h0 : 0 ≤ st
  · by_cases h1 : st ≤ 65535
    · by_cases h2 : st = 0
      · subst h2
        go_enter Tryd.func20, Tryd.ntmps20
        go_wp2
        go_ret
        exact ⟨ret_bool (by first | rfl | (simp [*]; done) | (simp [*]; omega) | (simp; omega)), below_alloc _ _⟩
      · have h2' : 0 < st := by omega
        by_cases h3 : 2 ≤ (s.size : Int)
        · go_enter Tryd.func20, Tryd.ntmps20
          go_wp2
          go_ret
          exact ⟨ret_bool (by first | rfl | (simp [*]; done) | (simp [*]; omega) | (simp; omega)), below_alloc _ _⟩
        · go_enter Tryd.func20, Tryd.ntmps20
          go_wp2
          go_ret
          exact ⟨ret_bool (by first | rfl | (simp [*]; done) | (simp [*]; omega) | (simp; omega)), below_alloc _ _⟩
    · go_enter Tryd.func20, Tryd.ntmps20
      go_wp2
      go_ret
      exact ⟨ret_bool (by first | rfl | (simp [*]; done) | (simp [*]; omega) | (simp; omega)), below_alloc _ _⟩
  · go_enter Tryd.func20, Tryd.ntmps20
    go_wp2
    go_ret
    exact ⟨ret_bool (by first | rfl | (simp [*]; done) | (simp [*]; omega) | (simp; omega)), below_alloc _ _⟩
set_option maxRecDepth 100000 in
set_option maxHeartbeats 4000000 in
theorem rRight_6 (st : Int) (s : ByteArray) (w : World) : Calls Tryd.prog 20 #[.agg #[.int .i64 6, .int .i64 st, .string s]] w fun x w' => x = .returned (.bool (rightW 6 st s.size)) ∧ Below w.heap.size w w' := by
  have e : rightW 6 st s.size = ((decide (0 ≤ st) && decide (st ≤ 65535)) && ((true == decide (0 < st)) && payB 49 s.size)) := rfl
  have ep : payB 49 s.size = (decide (0 ≤ (s.size : Int)) && decide ((s.size : Int) ≤ 0)) := by
    rw [Bool.eq_iff_iff]; simp [payB]; try omega
  have hge : (0 : Int) ≤ (s.size : Int) := by omega
  rw [e, ep]
  clear e ep
  by_cases h0 : 0 ≤ st
  · by_cases h1 : st ≤ 65535
    · by_cases h2 : st = 0
      · subst h2
        go_enter Tryd.func20, Tryd.ntmps20
        go_wp2
        go_ret
        exact ⟨ret_bool (by first | rfl | (simp [*]; done) | (simp [*]; omega) | (simp; omega)), below_alloc _ _⟩
      · have h2' : 0 < st := by omega
        go_enter Tryd.func20, Tryd.ntmps20
        go_wp2
        go_ret
        exact ⟨ret_bool (by first | rfl | (simp [*]; done) | (simp [*]; omega) | (simp; omega)), below_alloc _ _⟩
    · go_enter Tryd.func20, Tryd.ntmps20
      go_wp2
      go_ret
      exact ⟨ret_bool (by first | rfl | (simp [*]; done) | (simp [*]; omega) | (simp; omega)), below_alloc _ _⟩
  · go_enter Tryd.func20, Tryd.ntmps20
    go_wp2
    go_ret
    exact ⟨ret_bool (by first | rfl | (simp [*]; done) | (simp [*]; omega) | (simp; omega)), below_alloc _ _⟩
set_option maxRecDepth 100000 in
set_option maxHeartbeats 4000000 in
theorem rRight_7 (st : Int) (s : ByteArray) (w : World) : Calls Tryd.prog 20 #[.agg #[.int .i64 7, .int .i64 st, .string s]] w fun x w' => x = .returned (.bool (rightW 7 st s.size)) ∧ Below w.heap.size w w' := by
  have e : rightW 7 st s.size = ((decide (0 ≤ st) && decide (st ≤ 65535)) && ((true == decide (0 < st)) && payB 49 s.size)) := rfl
  have ep : payB 49 s.size = (decide (0 ≤ (s.size : Int)) && decide ((s.size : Int) ≤ 0)) := by
    rw [Bool.eq_iff_iff]; simp [payB]; try omega
  have hge : (0 : Int) ≤ (s.size : Int) := by omega
  rw [e, ep]
  clear e ep
  by_cases h0 : 0 ≤ st
  · by_cases h1 : st ≤ 65535
    · by_cases h2 : st = 0
      · subst h2
        go_enter Tryd.func20, Tryd.ntmps20
        go_wp2
        go_ret
        exact ⟨ret_bool (by first | rfl | (simp [*]; done) | (simp [*]; omega) | (simp; omega)), below_alloc _ _⟩
      · have h2' : 0 < st := by omega
        go_enter Tryd.func20, Tryd.ntmps20
        go_wp2
        go_ret
        exact ⟨ret_bool (by first | rfl | (simp [*]; done) | (simp [*]; omega) | (simp; omega)), below_alloc _ _⟩
    · go_enter Tryd.func20, Tryd.ntmps20
      go_wp2
      go_ret
      exact ⟨ret_bool (by first | rfl | (simp [*]; done) | (simp [*]; omega) | (simp; omega)), below_alloc _ _⟩
  · go_enter Tryd.func20, Tryd.ntmps20
    go_wp2
    go_ret
    exact ⟨ret_bool (by first | rfl | (simp [*]; done) | (simp [*]; omega) | (simp; omega)), below_alloc _ _⟩
set_option maxRecDepth 100000 in
set_option maxHeartbeats 4000000 in
theorem rRight_8 (st : Int) (s : ByteArray) (w : World) : Calls Tryd.prog 20 #[.agg #[.int .i64 8, .int .i64 st, .string s]] w fun x w' => x = .returned (.bool (rightW 8 st s.size)) ∧ Below w.heap.size w w' := by
  have e : rightW 8 st s.size = ((decide (0 ≤ st) && decide (st ≤ 65535)) && ((false == decide (0 < st)) && payB 50 s.size)) := rfl
  have ep : payB 50 s.size = (decide (0 ≤ (s.size : Int)) && decide ((s.size : Int) ≤ 8)) := by
    rw [Bool.eq_iff_iff]; simp [payB]; try omega
  have hge : (0 : Int) ≤ (s.size : Int) := by omega
  rw [e, ep]
  clear e ep
  by_cases h0 : 0 ≤ st
  · by_cases h1 : st ≤ 65535
    · by_cases h2 : st = 0
      · subst h2
        go_enter Tryd.func20, Tryd.ntmps20
        go_wp2
        go_ret
        exact ⟨ret_bool (by first | rfl | (simp [*]; done) | (simp [*]; omega) | (simp; omega)), below_alloc _ _⟩
      · have h2' : 0 < st := by omega
        go_enter Tryd.func20, Tryd.ntmps20
        go_wp2
        go_ret
        exact ⟨ret_bool (by first | rfl | (simp [*]; done) | (simp [*]; omega) | (simp; omega)), below_alloc _ _⟩
    · go_enter Tryd.func20, Tryd.ntmps20
      go_wp2
      go_ret
      exact ⟨ret_bool (by first | rfl | (simp [*]; done) | (simp [*]; omega) | (simp; omega)), below_alloc _ _⟩
  · go_enter Tryd.func20, Tryd.ntmps20
    go_wp2
    go_ret
    exact ⟨ret_bool (by first | rfl | (simp [*]; done) | (simp [*]; omega) | (simp; omega)), below_alloc _ _⟩
set_option maxRecDepth 100000 in
set_option maxHeartbeats 4000000 in
theorem rRight_no (k st : Int) (s : ByteArray) (h : ¬ (1 ≤ k ∧ k ≤ 8)) (w : World) : Calls Tryd.prog 20 #[.agg #[.int .i64 k, .int .i64 st, .string s]] w fun x w' => x = .returned (.bool (rightW k st s.size)) ∧ Below w.heap.size w w' := by
  have e : rightW k st s.size = false := by
    cases hr : rightW k st s.size with
    | false => rfl
    | true => have := right_facts hr; omega
  rw [e]
  have h1 : (k == 1) = false := by simp; omega
  have h2 : (k == 2) = false := by simp; omega
  have h3 : (k == 3) = false := by simp; omega
  have h4 : (k == 4) = false := by simp; omega
  have h5 : (k == 5) = false := by simp; omega
  have h6 : (k == 6) = false := by simp; omega
  have h7 : (k == 7) = false := by simp; omega
  have h8 : (k == 8) = false := by simp; omega
  go_enter Tryd.func20, Tryd.ntmps20
  go_wp2
  go_ret
  exact ⟨rfl, below_alloc _ _⟩
theorem rRight_c (k st : Int) (s : ByteArray) (w : World) : Calls Tryd.prog 20 #[.agg #[.int .i64 k, .int .i64 st, .string s]] w fun x w' => x = .returned (.bool (rightW k st s.size)) ∧ Below w.heap.size w w' := by
  by_cases h : 1 ≤ k ∧ k ≤ 8
  · obtain rfl | rfl | rfl | rfl | rfl | rfl | rfl | rfl : k = 1 ∨ k = 2 ∨ k = 3 ∨ k = 4 ∨ k = 5 ∨ k = 6 ∨ k = 7 ∨ k = 8 := by omega
    · exact rRight_1 st s w
    · exact rRight_2 st s w
    · exact rRight_3 st s w
    · exact rRight_4 st s w
    · exact rRight_5 st s w
    · exact rRight_6 st s w
    · exact rRight_7 st s w
    · exact rRight_8 st s w
  · exact rRight_no k st s h w
end Go.Proofs.YtdcnpcdohgecbaaDoor
