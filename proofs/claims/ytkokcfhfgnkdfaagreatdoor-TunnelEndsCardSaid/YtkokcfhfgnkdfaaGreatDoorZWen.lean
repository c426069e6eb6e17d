/- Wen -/
import Derived.Test.YtkokcfhfgnkdfaaGreatDoorZ9
/- The law of a side that ended. -/
namespace Go.Proofs.YtkokcfhfgnkdfaaGreatDoor.L17
open Go.RowKit Go.Shelf
open L1 (str)
open L14 (isSt goes dest inB outB endB Laid)
attribute [local go_sem] Oper.semAt_some
def enA (n : Nat) (s : ByteArray) : Wy := ⟨s.data.toList.take n, [], 110, 0, min s.size n, 0, 0⟩
theorem enA_len (n : Nat) (s : ByteArray) : (s.data.toList.take n).length = min s.size n := by
  rw [List.length_take, Array.length_toList, Nat.min_comm]; rfl
theorem enA_move (n : Nat) (s : ByteArray) (hs : s.size ≤ 50) : moveN n (enA n s) 100 = min s.size n := by
  unfold moveN enA
  simp only [enA_len, List.length_nil]
  omega
theorem enA_drain (n : Nat) (s : ByteArray) (hs : s.size ≤ 50) : str (((moveW n (enA n s) 100).o).take (100 : Int).toNat) = s.extract 0 (min s.size n) := by
  have e : (moveW n (enA n s) 100).o = s.data.toList.take (min s.size n) := by
    unfold moveW
    rw [enA_move n s hs]
    show [] ++ (s.data.toList.take n).take (min s.size n) = _
    rw [List.nil_append, List.take_take]
    congr 1; omega
  rw [e, List.take_of_length_le (by rw [List.length_take, Array.length_toList]; have : s.data.size = s.size := rfl; show _ ≤ 100; omega)]
  apply ByteArray.ext
  apply Array.toList_inj.1
  simp [str, ByteArray.data_extract, Array.toList_extract, List.extract]
structure Wy.Y (y : Wy) : Prop where
  fd : y.fd ≤ 1000
  mv : y.mv ≤ 1000
  dr : y.dr ≤ 1000
theorem en_y {g : Int} : Wy.Y ⟨[], [], g, 0, 0, 0, 0⟩ := ⟨by simp, by simp, by simp⟩
theorem enA_y (n : Nat) (s : ByteArray) (hs : s.size ≤ 50) : (enA n s).Y := ⟨by unfold enA; simp only; omega, by simp [enA], by simp [enA]⟩
theorem enM_y (n : Nat) (s : ByteArray) (hs : s.size ≤ 50) : (moveW n (enA n s) 100).Y := ⟨(enA_y n s hs).fd, by unfold moveW; rw [enA_move n s hs]; simp only [enA]; omega, by simp [moveW, enA]⟩
theorem enF_y (n : Nat) : (feedW n ⟨[], [], 10, 0, 0, 0, 0⟩ ⟨#[97]⟩).Y := ⟨by
  show 0 + min (ByteArray.size ⟨#[97]⟩) (n - 0) ≤ 1000
  have : ByteArray.size ⟨#[97]⟩ = 1 := rfl
  omega, by simp [feedW], by simp [feedW]⟩
theorem en_sm (st : Int) (a b : Wy) (ha : a.Y) (hb : b.Y) : (⟨st, a, b⟩ : Tn).Sm := by
  obtain ⟨a1, a2, a3⟩ := ha
  obtain ⟨b1, b2, b3⟩ := hb
  intro d; unfold Tn.way; split <;> simp only <;> omega
theorem en0_1 : grantT upT 0 100 = (⟨2, ⟨[], [], 110, 0, 0, 0, 0⟩, ⟨[], [], 10, 0, 0, 0, 0⟩⟩ : Tn) := by rfl
theorem en0_2 (n : Nat) (s : ByteArray) : feedE (⟨2, ⟨[], [], 110, 0, 0, 0, 0⟩, ⟨[], [], 10, 0, 0, 0, 0⟩⟩ : Tn) 0 = 0 ∧ feedTN n (⟨2, ⟨[], [], 110, 0, 0, 0, 0⟩, ⟨[], [], 10, 0, 0, 0, 0⟩⟩ : Tn) 0 s = min s.size n ∧ feedT n (⟨2, ⟨[], [], 110, 0, 0, 0, 0⟩, ⟨[], [], 10, 0, 0, 0, 0⟩⟩ : Tn) 0 s = (⟨2, (enA n s), ⟨[], [], 10, 0, 0, 0, 0⟩⟩ : Tn) := by
  refine ⟨rfl, ?_, ?_⟩
  · show min s.size (n - 0) = _; rfl
  · show (⟨2, ⟨[] ++ s.data.toList.take (n - 0), [], 110, 0, 0 + min s.size (n - 0), 0, 0⟩, ⟨[], [], 10, 0, 0, 0, 0⟩⟩ : Tn) = _
    simp [enA]
theorem en0_8 (n : Nat) (s : ByteArray) (hs : s.size ≤ 50) : moveTN n (⟨5, (enA n s), (feedW n ⟨[], [], 10, 0, 0, 0, 0⟩ ⟨#[97]⟩)⟩ : Tn) 0 100 = min s.size n := by
  show moveN n (enA n s) 100 = _
  exact enA_move n s hs
theorem en0_9 (n : Nat) (s : ByteArray) (hs : s.size ≤ 50) : str (drainS (⟨5, (moveW n (enA n s) 100), (feedW n ⟨[], [], 10, 0, 0, 0, 0⟩ ⟨#[97]⟩)⟩ : Tn) 0 100) = s.extract 0 (min s.size n) := by
  show str (((moveW n (enA n s) 100).o).take (100 : Int).toNat) = _
  exact enA_drain n s hs
theorem en1_1 : grantT upT 1 100 = (⟨2, ⟨[], [], 10, 0, 0, 0, 0⟩, ⟨[], [], 110, 0, 0, 0, 0⟩⟩ : Tn) := by rfl
theorem en1_2 (n : Nat) (s : ByteArray) : feedE (⟨2, ⟨[], [], 10, 0, 0, 0, 0⟩, ⟨[], [], 110, 0, 0, 0, 0⟩⟩ : Tn) 1 = 0 ∧ feedTN n (⟨2, ⟨[], [], 10, 0, 0, 0, 0⟩, ⟨[], [], 110, 0, 0, 0, 0⟩⟩ : Tn) 1 s = min s.size n ∧ feedT n (⟨2, ⟨[], [], 10, 0, 0, 0, 0⟩, ⟨[], [], 110, 0, 0, 0, 0⟩⟩ : Tn) 1 s = (⟨2, ⟨[], [], 10, 0, 0, 0, 0⟩, (enA n s)⟩ : Tn) := by
  refine ⟨rfl, ?_, ?_⟩
  · show min s.size (n - 0) = _; rfl
  · show (⟨2, ⟨[], [], 10, 0, 0, 0, 0⟩, ⟨[] ++ s.data.toList.take (n - 0), [], 110, 0, 0 + min s.size (n - 0), 0, 0⟩⟩ : Tn) = _
    simp [enA]
theorem en1_8 (n : Nat) (s : ByteArray) (hs : s.size ≤ 50) : moveTN n (⟨5, (feedW n ⟨[], [], 10, 0, 0, 0, 0⟩ ⟨#[97]⟩), (enA n s)⟩ : Tn) 1 100 = min s.size n := by
  show moveN n (enA n s) 100 = _
  exact enA_move n s hs
theorem en1_9 (n : Nat) (s : ByteArray) (hs : s.size ≤ 50) : str (drainS (⟨5, (feedW n ⟨[], [], 10, 0, 0, 0, 0⟩ ⟨#[97]⟩), (moveW n (enA n s) 100)⟩ : Tn) 1 100) = s.extract 0 (min s.size n) := by
  show str (((moveW n (enA n s) 100).o).take (100 : Int).toNat) = _
  exact enA_drain n s hs
set_option maxRecDepth 100000 in
set_option maxHeartbeats 4000000 in
theorem ends_0 (n : Nat) (h1 : 1 ≤ n) (h2 : n ≤ 4096) (s0 : ByteArray) (w : World) (hL : Laid w) :
    Calls Tryz.prog 9 #[.int .i64 (n : Int), .string s0, .int .i64 0] w fun e w' => e = .returned (.bool true) ∧ Below w.heap.size w w' := by
  obtain ⟨s, hss⟩ : ∃ s, ck s0 = s := ⟨_, rfl⟩
  have hs50 : s.size ≤ 50 := by rw [← hss]; exact ck_size s0
  obtain ⟨N0, hN0⟩ : ∃ N : Nat, min (s0.size : Int) 50 = (N : Int) := ⟨(min (s0.size : Int) 50).toNat, by omega⟩
  have hN2 : (if (50 : Int) < (s0.size : Int) then (50 : Int) else (s0.size : Int)) = (N0 : Int) := by rw [← hN0]; split <;> omega
  have hN1 : N0 ≤ s0.size := by omega
  have hkN : s0.extract 0 N0 = s := by rw [← hss]; unfold ck; rw [hN0]; rfl
  clear hss
  obtain ⟨N, hN⟩ : ∃ N, min s.size n = N := ⟨_, rfl⟩
  have HX := Lib.hid (show (N = n ∧ n < s.size) ∨ (N = s.size ∧ s.size ≤ n) by omega)
  have HN := Lib.hid hN
  clear hN
  have HSh := Lib.hid (shown_c w hL)
  have HL0 := Lib.hid hL
  clear hL
  go_enter Tryz.func9, Tryz.ntmps9
  go_wp2_with fail
  go_at_call 10
  refine HSh.out.mono ?_
  rintro e v0 ⟨rfl, hb⟩
  have HB0 := Lib.hid hb
  have HLv0 := Lib.hid (HL0.out.on hb)
  clear hb
  go_wp2_with fail
  have hc := Made_ok n h1 h2 none 0 [] (by simp) v0 (OpVAt.nil _ _ _) HLv0.out
  change Calls Tryz.prog _ #[.int .i64 (n : Int), .slice none 0 0] _ _ at hc
  go_at_call 20
  refine hc.mono ?_
  clear hc
  rintro e v1 ⟨T, hi, rfl, ht, hTz, hb⟩
  have HTn1 : Hid (TunAt v1 T hi n upT) := Lib.hid ht
  have HB1 := Lib.hid (btr HB0.out hb)
  have HLv1 := Lib.hid (HLv0.out.on hb)
  have lg : 0 < T := by obtain ⟨_, _, _, q⟩ := ht; exact q.lg
  have hzT : w.heap.size ≤ T := Nat.le_trans HB0.out.size hTz
  clear ht hb
  go_wp2_with fail
  have hc := tgrant_c T hi n upT 0 100 _ HTn1.out HLv1.out
  rw [en0_1] at hc
  go_at_call 22
  refine hc.mono ?_
  clear hc
  rintro e v2 ⟨rfl, ht, hg⟩
  have HTn2 := Lib.hid ht
  have HLv2 := Lib.hid (laid_on HLv1.out hg lg)
  have HB2 := Lib.hid (goes_b HB1.out hg hzT)
  clear ht hg
  go_wp2_with fail
  have hc := tfeed_c T hi n (⟨2, ⟨[], [], 110, 0, 0, 0, 0⟩, ⟨[], [], 10, 0, 0, 0, 0⟩⟩ : Tn) 0 s _ (by omega) (en_sm _ _ _ (by first | exact en_y | exact enA_y n s hs50 | exact enM_y n s hs50 | exact enF_y n) (by first | exact en_y | exact enA_y n s hs50 | exact enM_y n s hs50 | exact enF_y n)) HTn2.out HLv2.out
  rw [(en0_2 n s).1, (en0_2 n s).2.1, (en0_2 n s).2.2, HN.out] at hc
  go_at_call 25
  refine hc.mono ?_
  clear hc
  rintro e v3 ⟨rfl, ht, hg⟩
  have HTn3 := Lib.hid ht
  have HLv3 := Lib.hid (laid_on HLv2.out hg lg)
  have HB3 := Lib.hid (goes_b HB2.out hg hzT)
  clear ht hg
  go_wp2_with fail
  have hc := tevent_c T hi n (⟨2, (enA n s), ⟨[], [], 10, 0, 0, 0, 0⟩⟩ : Tn) 4 _ HTn3.out HLv3.out
  change Calls Tryz.prog _ _ _ (fun x w' => x = .returned (.int .i64 0) ∧ TunAt w' T hi n (⟨3, (enA n s), ⟨[], [], 10, 0, 0, 0, 0⟩⟩ : Tn) ∧ _) at hc
  go_at_call 14
  refine hc.mono ?_
  clear hc
  rintro e v4 ⟨rfl, ht, hg⟩
  have HTn4 := Lib.hid ht
  have HLv4 := Lib.hid (laid_on HLv3.out hg lg)
  have HB4 := Lib.hid (goes_b HB3.out hg hzT)
  clear ht hg
  go_wp2_with fail
  have hc := tfeed_c T hi n (⟨3, (enA n s), ⟨[], [], 10, 0, 0, 0, 0⟩⟩ : Tn) 0 ⟨#[97]⟩ _ (by decide) (en_sm _ _ _ (by first | exact en_y | exact enA_y n s hs50 | exact enM_y n s hs50 | exact enF_y n) (by first | exact en_y | exact enA_y n s hs50 | exact enM_y n s hs50 | exact enF_y n)) HTn4.out HLv4.out
  change Calls Tryz.prog _ _ _ (fun x w' => x = .returned (.tuple #[.int .i64 0, .int .i64 171]) ∧ TunAt w' T hi n (⟨3, (enA n s), ⟨[], [], 10, 0, 0, 0, 0⟩⟩ : Tn) ∧ _) at hc
  go_at_call 25
  refine hc.mono ?_
  clear hc
  rintro e v5 ⟨rfl, ht, hg⟩
  have HTn5 := Lib.hid ht
  have HLv5 := Lib.hid (laid_on HLv4.out hg lg)
  have HB5 := Lib.hid (goes_b HB4.out hg hzT)
  clear ht hg
  go_wp2_with fail
  have hc := tfeed_c T hi n (⟨3, (enA n s), ⟨[], [], 10, 0, 0, 0, 0⟩⟩ : Tn) 1 ⟨#[97]⟩ _ (by decide) (en_sm _ _ _ (by first | exact en_y | exact enA_y n s hs50 | exact enM_y n s hs50 | exact enF_y n) (by first | exact en_y | exact enA_y n s hs50 | exact enM_y n s hs50 | exact enF_y n)) HTn5.out HLv5.out
  change Calls Tryz.prog _ _ _ (fun x w' => x = .returned (.tuple #[.int .i64 (feedN n ⟨[], [], 10, 0, 0, 0, 0⟩ ⟨#[97]⟩ : Nat), .int .i64 0]) ∧ TunAt w' T hi n (⟨3, (enA n s), (feedW n ⟨[], [], 10, 0, 0, 0, 0⟩ ⟨#[97]⟩)⟩ : Tn) ∧ _) at hc
  go_at_call 25
  refine hc.mono ?_
  clear hc
  rintro e v6 ⟨rfl, ht, hg⟩
  have HTn6 := Lib.hid ht
  have HLv6 := Lib.hid (laid_on HLv5.out hg lg)
  have HB6 := Lib.hid (goes_b HB5.out hg hzT)
  clear ht hg
  go_wp2_with fail
  have hc := tevent_c T hi n (⟨3, (enA n s), (feedW n ⟨[], [], 10, 0, 0, 0, 0⟩ ⟨#[97]⟩)⟩ : Tn) 5 _ HTn6.out HLv6.out
  change Calls Tryz.prog _ _ _ (fun x w' => x = .returned (.int .i64 0) ∧ TunAt w' T hi n (⟨5, (enA n s), (feedW n ⟨[], [], 10, 0, 0, 0, 0⟩ ⟨#[97]⟩)⟩ : Tn) ∧ _) at hc
  go_at_call 14
  refine hc.mono ?_
  clear hc
  rintro e v7 ⟨rfl, ht, hg⟩
  have HTn7 := Lib.hid ht
  have HLv7 := Lib.hid (laid_on HLv6.out hg lg)
  have HB7 := Lib.hid (goes_b HB6.out hg hzT)
  clear ht hg
  go_wp2_with fail
  have hc := tfeed_c T hi n (⟨5, (enA n s), (feedW n ⟨[], [], 10, 0, 0, 0, 0⟩ ⟨#[97]⟩)⟩ : Tn) 1 ⟨#[97]⟩ _ (by decide) (en_sm _ _ _ (by first | exact en_y | exact enA_y n s hs50 | exact enM_y n s hs50 | exact enF_y n) (by first | exact en_y | exact enA_y n s hs50 | exact enM_y n s hs50 | exact enF_y n)) HTn7.out HLv7.out
  change Calls Tryz.prog _ _ _ (fun x w' => x = .returned (.tuple #[.int .i64 0, .int .i64 171]) ∧ TunAt w' T hi n (⟨5, (enA n s), (feedW n ⟨[], [], 10, 0, 0, 0, 0⟩ ⟨#[97]⟩)⟩ : Tn) ∧ _) at hc
  go_at_call 25
  refine hc.mono ?_
  clear hc
  rintro e v8 ⟨rfl, ht, hg⟩
  have HTn8 := Lib.hid ht
  have HLv8 := Lib.hid (laid_on HLv7.out hg lg)
  have HB8 := Lib.hid (goes_b HB7.out hg hzT)
  clear ht hg
  go_wp2_with fail
  have hc := tmove_c T hi n (⟨5, (enA n s), (feedW n ⟨[], [], 10, 0, 0, 0, 0⟩ ⟨#[97]⟩)⟩ : Tn) 0 100 _ (en_sm _ _ _ (by first | exact en_y | exact enA_y n s hs50 | exact enM_y n s hs50 | exact enF_y n) (by first | exact en_y | exact enA_y n s hs50 | exact enM_y n s hs50 | exact enF_y n)) HTn8.out HLv8.out
  rw [en0_8 n s hs50, HN.out] at hc
  change Calls Tryz.prog _ _ _ (fun x w' => x = .returned (.tuple #[.int .i64 (N : Int), .int .i64 0]) ∧ TunAt w' T hi n (⟨5, (moveW n (enA n s) 100), (feedW n ⟨[], [], 10, 0, 0, 0, 0⟩ ⟨#[97]⟩)⟩ : Tn) ∧ _) at hc
  go_at_call 23
  refine hc.mono ?_
  clear hc
  rintro e v9 ⟨rfl, ht, hg⟩
  have HTn9 := Lib.hid ht
  have HLv9 := Lib.hid (laid_on HLv8.out hg lg)
  have HB9 := Lib.hid (goes_b HB8.out hg hzT)
  clear ht hg
  go_wp2_with fail
  have hc := tdrain_c T hi n (⟨5, (moveW n (enA n s) 100), (feedW n ⟨[], [], 10, 0, 0, 0, 0⟩ ⟨#[97]⟩)⟩ : Tn) 0 100 _ (en_sm _ _ _ (by first | exact en_y | exact enA_y n s hs50 | exact enM_y n s hs50 | exact enF_y n) (by first | exact en_y | exact enA_y n s hs50 | exact enM_y n s hs50 | exact enF_y n)) HTn9.out HLv9.out
  rw [en0_9 n s hs50, HN.out] at hc
  change Calls Tryz.prog _ _ _ (fun x w' => x = .returned (.tuple #[.string (s.extract 0 N), .int .i64 0]) ∧ _ ∧ _) at hc
  go_at_call 24
  refine hc.mono ?_
  clear hc
  rintro e v10 ⟨rfl, ht, hg⟩
  have HTn10 := Lib.hid ht
  have HLv10 := Lib.hid (laid_on HLv9.out hg lg)
  have HB10 := Lib.hid (goes_b HB9.out hg hzT)
  clear ht hg
  have HSt := Lib.hid (show ∀ W, TunAt W T hi n (drainT (⟨5, (moveW n (enA n s) 100), (feedW n ⟨[], [], 10, 0, 0, 0, 0⟩ ⟨#[97]⟩)⟩ : Tn) 0 100) → Calls Tryz.prog 15 #[.pointer (some ⟨T, 0, none⟩)] W (fun x w' => x = .returned (.int .i64 5) ∧ W = w') from fun W h => tstate_c T hi n _ W h)
  rcases HX.out with ⟨rfl, hlt⟩ | ⟨rfl, hge⟩
  · have g1 : (N : Int) < (s.size : Int) := by omega
    have g2 : (N : Int) ≤ (s.size : Int) := by omega
    have g3 : min (s.size : Int) (N : Int) = (N : Int) := by omega
    clear hlt
    go_wp2_with (go_at_call 15; refine (HSt.out _ HTn10.out).mono ?_; rintro e v11 ⟨rfl, rfl⟩)
    go_ret
    exact ⟨rfl, HB10.out⟩
  · have g1 : ¬ (n : Int) < (s.size : Int) := by omega
    have g3 : min (s.size : Int) (n : Int) = (s.size : Int) := by omega
    clear hge
    go_wp2_with (go_at_call 15; refine (HSt.out _ HTn10.out).mono ?_; rintro e v11 ⟨rfl, rfl⟩)
    go_ret
    exact ⟨rfl, HB10.out⟩
set_option maxRecDepth 100000 in
set_option maxHeartbeats 4000000 in
theorem ends_1 (n : Nat) (h1 : 1 ≤ n) (h2 : n ≤ 4096) (s0 : ByteArray) (w : World) (hL : Laid w) :
    Calls Tryz.prog 9 #[.int .i64 (n : Int), .string s0, .int .i64 1] w fun e w' => e = .returned (.bool true) ∧ Below w.heap.size w w' := by
  obtain ⟨s, hss⟩ : ∃ s, ck s0 = s := ⟨_, rfl⟩
  have hs50 : s.size ≤ 50 := by rw [← hss]; exact ck_size s0
  obtain ⟨N0, hN0⟩ : ∃ N : Nat, min (s0.size : Int) 50 = (N : Int) := ⟨(min (s0.size : Int) 50).toNat, by omega⟩
  have hN2 : (if (50 : Int) < (s0.size : Int) then (50 : Int) else (s0.size : Int)) = (N0 : Int) := by rw [← hN0]; split <;> omega
  have hN1 : N0 ≤ s0.size := by omega
  have hkN : s0.extract 0 N0 = s := by rw [← hss]; unfold ck; rw [hN0]; rfl
  clear hss
  obtain ⟨N, hN⟩ : ∃ N, min s.size n = N := ⟨_, rfl⟩
  have HX := Lib.hid (show (N = n ∧ n < s.size) ∨ (N = s.size ∧ s.size ≤ n) by omega)
  have HN := Lib.hid hN
  clear hN
  have HSh := Lib.hid (shown_c w hL)
  have HL0 := Lib.hid hL
  clear hL
  go_enter Tryz.func9, Tryz.ntmps9
  go_wp2_with fail
  go_at_call 10
  refine HSh.out.mono ?_
  rintro e v0 ⟨rfl, hb⟩
  have HB0 := Lib.hid hb
  have HLv0 := Lib.hid (HL0.out.on hb)
  clear hb
  go_wp2_with fail
  have hc := Made_ok n h1 h2 none 0 [] (by simp) v0 (OpVAt.nil _ _ _) HLv0.out
  change Calls Tryz.prog _ #[.int .i64 (n : Int), .slice none 0 0] _ _ at hc
  go_at_call 20
  refine hc.mono ?_
  clear hc
  rintro e v1 ⟨T, hi, rfl, ht, hTz, hb⟩
  have HTn1 : Hid (TunAt v1 T hi n upT) := Lib.hid ht
  have HB1 := Lib.hid (btr HB0.out hb)
  have HLv1 := Lib.hid (HLv0.out.on hb)
  have lg : 0 < T := by obtain ⟨_, _, _, q⟩ := ht; exact q.lg
  have hzT : w.heap.size ≤ T := Nat.le_trans HB0.out.size hTz
  clear ht hb
  go_wp2_with fail
  have hc := tgrant_c T hi n upT 1 100 _ HTn1.out HLv1.out
  rw [en1_1] at hc
  go_at_call 22
  refine hc.mono ?_
  clear hc
  rintro e v2 ⟨rfl, ht, hg⟩
  have HTn2 := Lib.hid ht
  have HLv2 := Lib.hid (laid_on HLv1.out hg lg)
  have HB2 := Lib.hid (goes_b HB1.out hg hzT)
  clear ht hg
  go_wp2_with fail
  have hc := tfeed_c T hi n (⟨2, ⟨[], [], 10, 0, 0, 0, 0⟩, ⟨[], [], 110, 0, 0, 0, 0⟩⟩ : Tn) 1 s _ (by omega) (en_sm _ _ _ (by first | exact en_y | exact enA_y n s hs50 | exact enM_y n s hs50 | exact enF_y n) (by first | exact en_y | exact enA_y n s hs50 | exact enM_y n s hs50 | exact enF_y n)) HTn2.out HLv2.out
  rw [(en1_2 n s).1, (en1_2 n s).2.1, (en1_2 n s).2.2, HN.out] at hc
  go_at_call 25
  refine hc.mono ?_
  clear hc
  rintro e v3 ⟨rfl, ht, hg⟩
  have HTn3 := Lib.hid ht
  have HLv3 := Lib.hid (laid_on HLv2.out hg lg)
  have HB3 := Lib.hid (goes_b HB2.out hg hzT)
  clear ht hg
  go_wp2_with fail
  have hc := tevent_c T hi n (⟨2, ⟨[], [], 10, 0, 0, 0, 0⟩, (enA n s)⟩ : Tn) 5 _ HTn3.out HLv3.out
  change Calls Tryz.prog _ _ _ (fun x w' => x = .returned (.int .i64 0) ∧ TunAt w' T hi n (⟨4, ⟨[], [], 10, 0, 0, 0, 0⟩, (enA n s)⟩ : Tn) ∧ _) at hc
  go_at_call 14
  refine hc.mono ?_
  clear hc
  rintro e v4 ⟨rfl, ht, hg⟩
  have HTn4 := Lib.hid ht
  have HLv4 := Lib.hid (laid_on HLv3.out hg lg)
  have HB4 := Lib.hid (goes_b HB3.out hg hzT)
  clear ht hg
  go_wp2_with fail
  have hc := tfeed_c T hi n (⟨4, ⟨[], [], 10, 0, 0, 0, 0⟩, (enA n s)⟩ : Tn) 1 ⟨#[97]⟩ _ (by decide) (en_sm _ _ _ (by first | exact en_y | exact enA_y n s hs50 | exact enM_y n s hs50 | exact enF_y n) (by first | exact en_y | exact enA_y n s hs50 | exact enM_y n s hs50 | exact enF_y n)) HTn4.out HLv4.out
  change Calls Tryz.prog _ _ _ (fun x w' => x = .returned (.tuple #[.int .i64 0, .int .i64 171]) ∧ TunAt w' T hi n (⟨4, ⟨[], [], 10, 0, 0, 0, 0⟩, (enA n s)⟩ : Tn) ∧ _) at hc
  go_at_call 25
  refine hc.mono ?_
  clear hc
  rintro e v5 ⟨rfl, ht, hg⟩
  have HTn5 := Lib.hid ht
  have HLv5 := Lib.hid (laid_on HLv4.out hg lg)
  have HB5 := Lib.hid (goes_b HB4.out hg hzT)
  clear ht hg
  go_wp2_with fail
  have hc := tfeed_c T hi n (⟨4, ⟨[], [], 10, 0, 0, 0, 0⟩, (enA n s)⟩ : Tn) 0 ⟨#[97]⟩ _ (by decide) (en_sm _ _ _ (by first | exact en_y | exact enA_y n s hs50 | exact enM_y n s hs50 | exact enF_y n) (by first | exact en_y | exact enA_y n s hs50 | exact enM_y n s hs50 | exact enF_y n)) HTn5.out HLv5.out
  change Calls Tryz.prog _ _ _ (fun x w' => x = .returned (.tuple #[.int .i64 (feedN n ⟨[], [], 10, 0, 0, 0, 0⟩ ⟨#[97]⟩ : Nat), .int .i64 0]) ∧ TunAt w' T hi n (⟨4, (feedW n ⟨[], [], 10, 0, 0, 0, 0⟩ ⟨#[97]⟩), (enA n s)⟩ : Tn) ∧ _) at hc
  go_at_call 25
  refine hc.mono ?_
  clear hc
  rintro e v6 ⟨rfl, ht, hg⟩
  have HTn6 := Lib.hid ht
  have HLv6 := Lib.hid (laid_on HLv5.out hg lg)
  have HB6 := Lib.hid (goes_b HB5.out hg hzT)
  clear ht hg
  go_wp2_with fail
  have hc := tevent_c T hi n (⟨4, (feedW n ⟨[], [], 10, 0, 0, 0, 0⟩ ⟨#[97]⟩), (enA n s)⟩ : Tn) 4 _ HTn6.out HLv6.out
  change Calls Tryz.prog _ _ _ (fun x w' => x = .returned (.int .i64 0) ∧ TunAt w' T hi n (⟨5, (feedW n ⟨[], [], 10, 0, 0, 0, 0⟩ ⟨#[97]⟩), (enA n s)⟩ : Tn) ∧ _) at hc
  go_at_call 14
  refine hc.mono ?_
  clear hc
  rintro e v7 ⟨rfl, ht, hg⟩
  have HTn7 := Lib.hid ht
  have HLv7 := Lib.hid (laid_on HLv6.out hg lg)
  have HB7 := Lib.hid (goes_b HB6.out hg hzT)
  clear ht hg
  go_wp2_with fail
  have hc := tfeed_c T hi n (⟨5, (feedW n ⟨[], [], 10, 0, 0, 0, 0⟩ ⟨#[97]⟩), (enA n s)⟩ : Tn) 0 ⟨#[97]⟩ _ (by decide) (en_sm _ _ _ (by first | exact en_y | exact enA_y n s hs50 | exact enM_y n s hs50 | exact enF_y n) (by first | exact en_y | exact enA_y n s hs50 | exact enM_y n s hs50 | exact enF_y n)) HTn7.out HLv7.out
  change Calls Tryz.prog _ _ _ (fun x w' => x = .returned (.tuple #[.int .i64 0, .int .i64 171]) ∧ TunAt w' T hi n (⟨5, (feedW n ⟨[], [], 10, 0, 0, 0, 0⟩ ⟨#[97]⟩), (enA n s)⟩ : Tn) ∧ _) at hc
  go_at_call 25
  refine hc.mono ?_
  clear hc
  rintro e v8 ⟨rfl, ht, hg⟩
  have HTn8 := Lib.hid ht
  have HLv8 := Lib.hid (laid_on HLv7.out hg lg)
  have HB8 := Lib.hid (goes_b HB7.out hg hzT)
  clear ht hg
  go_wp2_with fail
  have hc := tmove_c T hi n (⟨5, (feedW n ⟨[], [], 10, 0, 0, 0, 0⟩ ⟨#[97]⟩), (enA n s)⟩ : Tn) 1 100 _ (en_sm _ _ _ (by first | exact en_y | exact enA_y n s hs50 | exact enM_y n s hs50 | exact enF_y n) (by first | exact en_y | exact enA_y n s hs50 | exact enM_y n s hs50 | exact enF_y n)) HTn8.out HLv8.out
  rw [en1_8 n s hs50, HN.out] at hc
  change Calls Tryz.prog _ _ _ (fun x w' => x = .returned (.tuple #[.int .i64 (N : Int), .int .i64 0]) ∧ TunAt w' T hi n (⟨5, (feedW n ⟨[], [], 10, 0, 0, 0, 0⟩ ⟨#[97]⟩), (moveW n (enA n s) 100)⟩ : Tn) ∧ _) at hc
  go_at_call 23
  refine hc.mono ?_
  clear hc
  rintro e v9 ⟨rfl, ht, hg⟩
  have HTn9 := Lib.hid ht
  have HLv9 := Lib.hid (laid_on HLv8.out hg lg)
  have HB9 := Lib.hid (goes_b HB8.out hg hzT)
  clear ht hg
  go_wp2_with fail
  have hc := tdrain_c T hi n (⟨5, (feedW n ⟨[], [], 10, 0, 0, 0, 0⟩ ⟨#[97]⟩), (moveW n (enA n s) 100)⟩ : Tn) 1 100 _ (en_sm _ _ _ (by first | exact en_y | exact enA_y n s hs50 | exact enM_y n s hs50 | exact enF_y n) (by first | exact en_y | exact enA_y n s hs50 | exact enM_y n s hs50 | exact enF_y n)) HTn9.out HLv9.out
  rw [en1_9 n s hs50, HN.out] at hc
  change Calls Tryz.prog _ _ _ (fun x w' => x = .returned (.tuple #[.string (s.extract 0 N), .int .i64 0]) ∧ _ ∧ _) at hc
  go_at_call 24
  refine hc.mono ?_
  clear hc
  rintro e v10 ⟨rfl, ht, hg⟩
  have HTn10 := Lib.hid ht
  have HLv10 := Lib.hid (laid_on HLv9.out hg lg)
  have HB10 := Lib.hid (goes_b HB9.out hg hzT)
  clear ht hg
  have HSt := Lib.hid (show ∀ W, TunAt W T hi n (drainT (⟨5, (feedW n ⟨[], [], 10, 0, 0, 0, 0⟩ ⟨#[97]⟩), (moveW n (enA n s) 100)⟩ : Tn) 1 100) → Calls Tryz.prog 15 #[.pointer (some ⟨T, 0, none⟩)] W (fun x w' => x = .returned (.int .i64 5) ∧ W = w') from fun W h => tstate_c T hi n _ W h)
  rcases HX.out with ⟨rfl, hlt⟩ | ⟨rfl, hge⟩
  · have g1 : (N : Int) < (s.size : Int) := by omega
    have g2 : (N : Int) ≤ (s.size : Int) := by omega
    have g3 : min (s.size : Int) (N : Int) = (N : Int) := by omega
    clear hlt
    go_wp2_with (go_at_call 15; refine (HSt.out _ HTn10.out).mono ?_; rintro e v11 ⟨rfl, rfl⟩)
    go_ret
    exact ⟨rfl, HB10.out⟩
  · have g1 : ¬ (n : Int) < (s.size : Int) := by omega
    have g3 : min (s.size : Int) (n : Int) = (s.size : Int) := by omega
    clear hge
    go_wp2_with (go_at_call 15; refine (HSt.out _ HTn10.out).mono ?_; rintro e v11 ⟨rfl, rfl⟩)
    go_ret
    exact ⟨rfl, HB10.out⟩
set_option maxRecDepth 100000 in
set_option maxHeartbeats 4000000 in
theorem ends_law (n : Int) (s0 : ByteArray) (side : Int) (w : World) (hL : Laid w) :
    Calls Tryz.prog 9 #[.int .i64 n, .string s0, .int .i64 side] w fun e w' => e = .returned (.bool true) ∧ Below w.heap.size w w' := by
  rcases cap_cases n with ⟨n, rfl, h1, h2⟩ | h
  · by_cases x0 : side = 0
    · subst x0; exact ends_0 n h1 h2 s0 w hL
    by_cases x1 : side = 1
    · subst x1; exact ends_1 n h1 h2 s0 w hL
    by_cases s2 : side < 0
    · have HM := Lib.hid (fun v0 hl => Made_ok n h1 h2 none 0 [] (by simp) v0 (OpVAt.nil _ _ _) hl)
      change Hid (∀ (v0 : World) (hl : Laid v0), Calls Tryz.prog _ #[.int .i64 (n : Int), .slice none 0 0] _ _) at HM
      obtain ⟨s, hss⟩ : ∃ s, ck s0 = s := ⟨_, rfl⟩
      obtain ⟨N0, hN0⟩ : ∃ N : Nat, min (s0.size : Int) 50 = (N : Int) := ⟨(min (s0.size : Int) 50).toNat, by omega⟩
      have hN2 : (if (50 : Int) < (s0.size : Int) then (50 : Int) else (s0.size : Int)) = (N0 : Int) := by rw [← hN0]; split <;> omega
      have hN1 : N0 ≤ s0.size := by omega
      have hkN : s0.extract 0 N0 = s := by rw [← hss]; unfold ck; rw [hN0]; rfl
      clear hss
      have HSh := Lib.hid (shown_c w hL)
      have HL0 := Lib.hid hL
      clear hL
      go_enter Tryz.func9, Tryz.ntmps9
      go_wp2_with fail
      go_at_call 10
      refine HSh.out.mono ?_
      rintro e v0 ⟨rfl, hb⟩
      have HB0 := Lib.hid hb
      have HLv0 := Lib.hid (HL0.out.on hb)
      clear hb
      go_wp2_with (go_at_call 20; refine (HM.out _ HLv0.out).mono ?_; rintro e v1 ⟨T, hi, rfl, ht, hTz, hb⟩)
      go_ret
      exact ⟨rfl, btr HB0.out hb⟩
    · have s3 : side > 1 := by omega
      have HM := Lib.hid (fun v0 hl => Made_ok n h1 h2 none 0 [] (by simp) v0 (OpVAt.nil _ _ _) hl)
      change Hid (∀ (v0 : World) (hl : Laid v0), Calls Tryz.prog _ #[.int .i64 (n : Int), .slice none 0 0] _ _) at HM
      obtain ⟨s, hss⟩ : ∃ s, ck s0 = s := ⟨_, rfl⟩
      obtain ⟨N0, hN0⟩ : ∃ N : Nat, min (s0.size : Int) 50 = (N : Int) := ⟨(min (s0.size : Int) 50).toNat, by omega⟩
      have hN2 : (if (50 : Int) < (s0.size : Int) then (50 : Int) else (s0.size : Int)) = (N0 : Int) := by rw [← hN0]; split <;> omega
      have hN1 : N0 ≤ s0.size := by omega
      have hkN : s0.extract 0 N0 = s := by rw [← hss]; unfold ck; rw [hN0]; rfl
      clear hss
      have HSh := Lib.hid (shown_c w hL)
      have HL0 := Lib.hid hL
      clear hL
      go_enter Tryz.func9, Tryz.ntmps9
      go_wp2_with fail
      go_at_call 10
      refine HSh.out.mono ?_
      rintro e v0 ⟨rfl, hb⟩
      have HB0 := Lib.hid hb
      have HLv0 := Lib.hid (HL0.out.on hb)
      clear hb
      go_wp2_with (go_at_call 20; refine (HM.out _ HLv0.out).mono ?_; rintro e v1 ⟨T, hi, rfl, ht, hTz, hb⟩)
      go_ret
      exact ⟨rfl, btr HB0.out hb⟩
  · have HM := Lib.hid (fun sv W => Made_err n h sv W)
    clear h
    obtain ⟨s, hss⟩ : ∃ s, ck s0 = s := ⟨_, rfl⟩
    obtain ⟨N0, hN0⟩ : ∃ N : Nat, min (s0.size : Int) 50 = (N : Int) := ⟨(min (s0.size : Int) 50).toNat, by omega⟩
    have hN2 : (if (50 : Int) < (s0.size : Int) then (50 : Int) else (s0.size : Int)) = (N0 : Int) := by rw [← hN0]; split <;> omega
    have hN1 : N0 ≤ s0.size := by omega
    have hkN : s0.extract 0 N0 = s := by rw [← hss]; unfold ck; rw [hN0]; rfl
    clear hss
    have HSh := Lib.hid (shown_c w hL)
    have HL0 := Lib.hid hL
    clear hL
    go_enter Tryz.func9, Tryz.ntmps9
    go_wp2_with fail
    go_at_call 10
    refine HSh.out.mono ?_
    rintro e v0 ⟨rfl, hb⟩
    have HB0 := Lib.hid hb
    have HLv0 := Lib.hid (HL0.out.on hb)
    clear hb
    go_wp2_with (go_at_call 20; refine (HM.out _ _).mono ?_; rintro e v1 ⟨rfl, hb⟩)
    go_ret
    exact ⟨rfl, btr HB0.out hb⟩
end Go.Proofs.YtkokcfhfgnkdfaaGreatDoor.L17
