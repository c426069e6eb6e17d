/- bytesOf: the iterator's contract. -/
import Derived.Test.YtjlpkndbnaknaaaGreatDoorBy
import Derived.Test.YtjlpkndbnaknaaaGreatDoorIt
import Derived.LoopIn
import Derived.LoopNIn
namespace Go.Proofs.YtjlpkndbnaknaaaGreatDoor
open Go.RowKit Go.Shelf
attribute [local go_sem] Oper.semAt_some

/-- A byte and its place. -/
structure Byt where
  i : Nat
  b : Nat
  hb : b < 256
def encY (x : Byt) : Array Value := #[.int .i64 (x.i : Int), .int .u8 (x.b : Int)]
def bytAt (s : ByteArray) (k : Nat) : Byt := ⟨k, (bL s).getD k 0 % 256, Nat.mod_lt _ (by decide)⟩
def bytsB (s : ByteArray) : List Byt := (List.range s.size).map (bytAt s)
theorem bytsB_length (s : ByteArray) : (bytsB s).length = s.size := by rw [bytsB, List.length_map, List.length_range]
theorem bytsB_take (s : ByteArray) (k : Nat) (h : k < s.size) : (bytsB s).take (k + 1) = (bytsB s).take k ++ [bytAt s k] := by
  have hl : k < (bytsB s).length := by rw [bytsB_length]; exact h
  rw [List.take_add_one, List.getElem?_eq_getElem hl]
  simp [bytsB]
theorem bytAt_b (s : ByteArray) (k : Nat) (h : k < s.size) : (bytAt s k).b = (s[k]'h).toNat := by
  show (bL s).getD k 0 % 256 = _
  rw [List.getD_eq_getElem?_getD, bL_get s k h]
  exact Nat.mod_eq_of_lt (s[k]'h).toNat_lt
set_option maxRecDepth 100000 in
set_option maxHeartbeats 8000000 in
theorem bytes_it (n : Nat) (hn : 2 ≤ n) (s : ByteArray) (hs : s.size ≤ 100000) (sb : Nat) (w : World) (h0 : w.cell? ⟨sb, 0, none⟩ = some (.string s)) :
    Iters Fence.wide n Tryz.prog 45 #[.pointer (some ⟨sb, 0, none⟩)] encY (fun pre x => pre ++ [x] <+: bytsB s) (fun xs => xs = bytsB s) (fun pre => pre <+: bytsB s) (fun i => i = sb) w := by
  intro l J Jx W Pv hW hcap hJ hJx hY hj
  have H0 := (hW.cell (p := ⟨sb, 0, none⟩) (blt h0)).trans h0
  have HP := Lib.hid (hcap sb rfl)
  have HY := Lib.hid hY
  have hJ0 := Lib.hid hj
  clear hW hcap hJ hJx hY hj h0
  refine callsIn_of_wp Tryz.func45 rfl trivial ?_ rfl
  simp only [Tryz.ntmps45, List.size_toArray, List.length_cons, List.length_nil, Nat.reduceAdd, Nat.reduceSub, Array.replicate_succ, Array.replicate_zero, List.push_toArray, List.append_toArray, List.nil_append, List.cons_append]
  gi_wp2
  gi_loopw [6] (fun i wr => ∃ (k : Nat) (Pv : Nat → Prop), k ≤ s.size ∧ i = .int .i64 (k : Int) ∧ Hid (J ((bytsB s).take k) Pv wr) ∧ Hid (Pv sb) ∧ wr.cell? ⟨sb, 0, none⟩ = some (.string s)) (fun i _ => s.size + 1 - (intOf i).toNat)
  case atStart => exact ⟨0, Pv, by omega, rfl, hJ0, HP, H0⟩
  case round =>
    clear hJ0 HP H0
    obtain ⟨k, Pv, hk, rfl, hj, hp, hb⟩ := hrel
    by_cases hlt : k < s.size
    · have hlt' : (k : Int) < (s.size : Int) := by omega
      have HT := Lib.hid (bytsB_take s k hlt)
      have hpre : (bytsB s).take k ++ [bytAt s k] <+: bytsB s := by rw [← HT.out]; exact List.take_prefix _ _
      obtain ⟨fn, tmps, assign, body, hy, hR⟩ := HY.out _ _ Pv wr hpre hj.out
      have hy' := hy
      unfold encY at hy'
      rw [bytAt_b s k hlt, show (bytAt s k).i = k from rfl] at hy'
      have HPR := Lib.hid hpre
      have HP := Lib.hid hp.out
      have HB := Lib.hid hb
      clear hy hpre hj hp
      gi_wp2
      refine ⟨fun _ => (by omega), hR.mono ?_⟩
      clear hy' hR hb
      rintro e V2 (⟨rfl, hJ2, hM⟩ | ⟨rfl, hX2, hM⟩)
      · have hb2 := hM.cell HB.out HP.out
        have HJ2 := Lib.hid hJ2
        clear hJ2 hM
        gi_wp2
        go_roundw
        case rel => exact ⟨k + 1, Pv, by omega, by go_num, by rw [HT.out]; exact HJ2, HP, hb2⟩
        case measure => simp [intOf]; omega
      · have HX2 := Lib.hid hX2
        clear hX2 hM
        gi_wp2
        refine bodyPost_ret (results_none rfl _ _ _) rfl ?_
        exact ⟨⟨_, rfl⟩, .inr ⟨_, _, HPR.out, HX2.out⟩⟩
    · have hlt' : ¬ (k : Int) < (s.size : Int) := by omega
      obtain rfl : k = s.size := by omega
      have hall : (bytsB s).take s.size = bytsB s := List.take_of_length_le (by rw [bytsB_length]; exact Nat.le_refl _)
      rw [hall] at hj
      gi_wp2
      go_end0
      first | exact ⟨⟨_, rfl⟩, .inl ⟨_, hj.out⟩⟩ | exact ⟨⟨_, rfl⟩, .inl ⟨_, _, rfl, hj.out⟩⟩
theorem bytesOf_c (s : ByteArray) (w : World) : Calls Tryz.prog 27 #[.string s] w fun x w' => x = .returned (.func (.func 45) #[] #[.pointer (some ⟨w.heap.size, 0, none⟩)]) ∧ w' = w.alloc (.cells #[.string s] 9) := by
  go_enter Tryz.func27, Tryz.ntmps27
  go_wp2
  go_ret
  exact ⟨rfl, rfl⟩
end Go.Proofs.YtjlpkndbnaknaaaGreatDoor
