/- the document's own Sum. -/
import Derived.Test.YtjlpkndbnaknaaaGreatDoorRD
import Derived.Test.YtjlpkndbnaknaaaGreatDoorRE
import Derived.Test.YtjlpkndbnaknaaaGreatDoorJ
import Derived.Test.YtjlpkndbnaknaaaGreatDoorTC
import Derived.Test.YtjlpkndbnaknaaaGreatDoorPl
import Derived.Test.YtjlpkndbnaknaaaGreatDoorS
namespace Go.Proofs.YtjlpkndbnaknaaaGreatDoor
open Go.RowKit Go.Shelf
attribute [local go_sem] Oper.semAt_some

theorem TabC.on {W W' : World} (h : TabC W) (k : Below W.heap.size W W') : TabC W' := fun j x hx => (k.cell (p := ⟨0, j, none⟩) (blt (h j x hx))).trans (h j x hx)
theorem set_cell_ne (W : World) (v : Value) {b o p : Nat} (hne : o ≠ p) : (W.setCell ⟨b, p, none⟩ v).cell? ⟨b, o, none⟩ = W.cell? ⟨b, o, none⟩ := by
  go_simp
theorem mixS_snoc : ∀ (m : Nat) (s : Sta) (l : List Nat), mixS s (m + 1) l = blockS (mixS s m l) ((l.drop (64 * m)).take 64)
  | 0, s, l => by rw [mixS, mixS, mixS, Nat.mul_zero, List.drop_zero]
  | m + 1, s, l => by
    rw [mixS, mixS_snoc m (blockS s (l.take 64)) (l.drop 64), mixS, List.drop_drop, show 64 + 64 * m = 64 * (m + 1) by omega]
theorem zero_xorW (x : Wd) : (0 : Wd) ^^^ x = x := BitVec.zero_xor
theorem zero_addW (x : Wd) : (0 : Wd) + x = x := BitVec.zero_add x
theorem near_two (x : Wd) : nearW x = (x.rotateRight 7 ^^^ x.rotateRight 18) ^^^ x >>> 3 := by
  unfold nearW spunL
  simp only [List.foldl_cons, List.foldl_nil, zero_xorW]
theorem far_two (x : Wd) : farW x = (x.rotateRight 17 ^^^ x.rotateRight 19) ^^^ x >>> 10 := by
  unfold farW spunL
  simp only [List.foldl_cons, List.foldl_nil, zero_xorW]
theorem first_three (x : Wd) : firstW x = (x.rotateRight 2 ^^^ x.rotateRight 13) ^^^ x.rotateRight 22 := by
  unfold firstW spunL
  simp only [List.foldl_cons, List.foldl_nil, zero_xorW]
theorem fifth_three (x : Wd) : fifthW x = (x.rotateRight 6 ^^^ x.rotateRight 11) ^^^ x.rotateRight 25 := by
  unfold fifthW spunL
  simp only [List.foldl_cons, List.foldl_nil, zero_xorW]
theorem total_four (p q r s : Wd) : totalL [p, q, r, s] = ((p + q) + r) + s := by
  unfold totalL
  simp only [List.foldl_cons, List.foldl_nil, zero_addW]
theorem total_five (p q r s t : Wd) : totalL [p, q, r, s, t] = (((p + q) + r) + s) + t := by
  unfold totalL
  simp only [List.foldl_cons, List.foldl_nil, zero_addW]
theorem total_two (p q : Wd) : totalL [p, q] = p + q := by
  unfold totalL
  simp only [List.foldl_cons, List.foldl_nil, zero_addW]
theorem w_shr3 (x : Wd) : (x.toNat : Int) / (8 : Int) = ((x >>> 3).toNat : Int) := by
  rw [BitVec.toNat_ushiftRight, Nat.shiftRight_eq_div_pow, show (2 : Nat) ^ 3 = 8 from rfl]; omega
theorem w_shr10 (x : Wd) : (x.toNat : Int) / (1024 : Int) = ((x >>> 10).toNat : Int) := by
  rw [BitVec.toNat_ushiftRight, Nat.shiftRight_eq_div_pow, show (2 : Nat) ^ 10 = 1024 from rfl]; omega
theorem turn_is (x : Wd) (n : Nat) (m : Int) (hm : (n : Int) = m) (h0 : 0 < n) (h1 : n < 32) (w : World) : Calls Tryz.prog 42 #[.int .u32 (x.toNat : Int), .int .u32 m] w fun r w' => r = .returned (.int .u32 ((x.rotateRight n).toNat : Int)) ∧ w' = w := by
  subst hm
  exact turn_c x n h0 h1 w
theorem WdsAt.setB {b : Nat} {L : List Nat} {k : Nat} {W : World} (h : WdsAt b (schedL L k ++ List.replicate (64 - k) 0) W) (hk : k < 64) : WdsAt b (schedL L (k + 1) ++ List.replicate (64 - (k + 1)) 0) (W.setCell ⟨b, k, none⟩ (.int .u32 ((nextW L (schedL L k)).toNat : Int))) := by
  rw [← sched_set L k hk]
  exact h.set k _
theorem next_low (L : List Nat) (k : Nat) (h : k < 16) : nextW L (schedL L k) = wordAt L k := by
  unfold nextW
  rw [schedL_length, if_pos h]
theorem word_at (P : ByteArray) (m k : Nat) (h : k < 16) : wordAt (((bL P).drop (64 * m)).take 64) k = wordL (bL (P.extract (64 * m + 4 * k) (64 * m + 4 * k + 4))) := by
  unfold wordAt
  rw [bL_extract, List.drop_take, List.drop_take, List.drop_drop, show 64 * m + 4 * k + 4 - (64 * m + 4 * k) = 4 by omega, List.take_take, show min 4 (64 - 4 * k) = 4 by omega]
theorem conv_four (x : Wd) (w : World) : (convert 53 9 (.slice (some ⟨w.heap.size, 0, none⟩) 4 4)).run Tryz.prog (w.alloc (.cells #[.int .u8 ((x.toNat : Int) / 16777216), .int .u8 ((x.toNat : Int) / 65536 % 256), .int .u8 ((x.toNat : Int) / 256 % 256), .int .u8 ((x.toNat : Int) % 256)] 5)) = .ok (.string (ofL (wordBs x))) (w.alloc (.cells #[.int .u8 ((x.toNat : Int) / 16777216), .int .u8 ((x.toNat : Int) / 65536 % 256), .int .u8 ((x.toNat : Int) / 256 % 256), .int .u8 ((x.toNat : Int) % 256)] 5)) :=
  conv_cells (wordBs x) (wordBs_lt x) w.heap.size 4 _ (fun _ _ hj => (BysAt.new (wordBs x) w).cell hj)
theorem beg_at (w : World) : StaAt w.heap.size beg (w.alloc (.cells #[.int .u32 1779033703, .int .u32 3144134277, .int .u32 1013904242, .int .u32 2773480762, .int .u32 1359893119, .int .u32 2600822924, .int .u32 528734635, .int .u32 1541459225] 72)) := ⟨by go_simp; rfl, by go_simp; rfl, by go_simp; rfl, by go_simp; rfl, by go_simp; rfl, by go_simp; rfl, by go_simp; rfl, by go_simp; rfl, by go_simp, by go_simp, by go_simp, by go_simp, by go_simp, by go_simp, by go_simp, by go_simp⟩
theorem zero64 (w : World) (t : TypeId) : ∀ V : Array Value, V = (wVs (List.replicate 64 0)).toArray → WdsAt w.heap.size (List.replicate 64 0) (w.alloc (.cells V t)) := by
  rintro V rfl
  exact ⟨⟨t, World.alloc_heap_new w _⟩⟩
set_option maxRecDepth 100000 in
set_option maxHeartbeats 16000000 in
theorem rSum_c (s : ByteArray) (hs : s.size ≤ 90000) (w : World) (hC : TabC w) : Calls Tryz.prog 23 #[.string s] w fun r w' => r = .returned (.string (ofL (sumL (bL s)))) ∧ Below w.heap.size w w' := by
  have HC := Lib.hid hC
  have HP := Lib.hid (fun W => rPad_c s (by omega) W)
  have HS := Lib.hid (show sumL (bL s) = textS (mixS beg ((bL (ofL (padL (bL s)))).length / 64) (bL (ofL (padL (bL s))))) by rw [bL_ofL _ (padL_lt s)]; rfl)
  have hPz : (ofL (padL (bL s))).size % 64 = 0 := by rw [ofL_size]; exact padL_mod _
  have hPb : (ofL (padL (bL s))).size ≤ 100000 := by rw [ofL_size, padL_length, bL_length]; unfold zerosN; omega
  generalize ofL (padL (bL s)) = P at *
  obtain ⟨M, hM⟩ : ∃ M, P.size / 64 = M := ⟨_, rfl⟩
  have hMz : P.size = 64 * M := by omega
  rw [bL_length, hM] at HS
  have HMz := Lib.hid hMz
  clear hC hM hPz hMz
  go_enter Tryz.func23, Tryz.ntmps23
  go_wp2_with fail
  refine (HP.out _).mono ?_; rintro e w1 ⟨rfl, hb1⟩
  go_wp2
  have hB0 := Lib.hid (bal hb1 (.cells #[.int .u32 1779033703, .int .u32 3144134277, .int .u32 1013904242, .int .u32 2773480762, .int .u32 1359893119, .int .u32 2600822924, .int .u32 528734635, .int .u32 1541459225] 72))
  have hS0 := beg_at w1
  have hSb := hb1.size
  generalize w1.alloc (.cells #[.int .u32 1779033703, .int .u32 3144134277, .int .u32 1013904242, .int .u32 2773480762, .int .u32 1359893119, .int .u32 2600822924, .int .u32 528734635, .int .u32 1541459225] 72) = w2 at *
  generalize w1.heap.size = Sb at *
  clear hb1 HP
  go_loopw [4] (fun i wr => ∃ m q : Nat, q = 64 * m ∧ m ≤ M ∧ i = .int .i64 (q : Int) ∧ StaAt Sb (mixS beg m (bL P)) wr ∧ Hid (Below w.heap.size w wr)) (fun i _ => P.size + 1 - (intOf i).toNat)
  case atStart => exact ⟨0, 0, rfl, Nat.zero_le _, rfl, hS0, hB0⟩
  case round =>
    obtain ⟨m, q, hq, hm, rfl, hSt, hbk⟩ := hrel
    have Hq := Lib.hid hq
    clear hS0 hB0
    obtain ⟨wo, hwo⟩ : ∃ wo, wo = wr := ⟨_, rfl⟩
    subst hwo
    by_cases hlt : m < M
    · have hltI : (q : Int) < (P.size : Int) := by have := HMz.out; omega
      have HMX := Lib.hid (mixS_snoc m beg (bL P))
      have HLD := Lib.hid (show ∀ k, k < 16 → nextW (((bL P).drop (64 * m)).take 64) (schedL (((bL P).drop (64 * m)).take 64) k) = wordL (bL (P.extract (64 * m + 4 * k) (64 * m + 4 * k + 4))) from fun k hk => (next_low _ k hk).trans (word_at P m k hk))
      have HM4 := Lib.hid (show q + 64 ≤ P.size by have := HMz.out; omega)
      obtain ⟨L, hL⟩ : ∃ L, ((bL P).drop (64 * m)).take 64 = L := ⟨_, rfl⟩
      obtain ⟨st, hst⟩ : ∃ st, mixS beg m (bL P) = st := ⟨_, rfl⟩
      rw [hL, hst] at HMX
      rw [hL, ← hq] at HLD
      rw [hst] at hSt
      clear hL hst hlt hq
      have HCr := Lib.hid (show TabC wo from HC.out.on hbk.out)
      have hwr := hbk.out.size
      have hSlt := hSt.lt
      have HSt := Lib.hid hSt
      clear hSt
      go_wp2
      go_loopw [6] (fun i wx => ∃ k : Nat, k ≤ 16 ∧ i = .int .i64 (k : Int) ∧ WdsAt wo.heap.size (schedL L k ++ List.replicate (64 - k) 0) wx ∧ Hid (Below wo.heap.size wo wx)) (fun i _ => 16 - (intOf i).toNat)
      case atStart => exact ⟨0, by omega, rfl, zero64 wo _ _ rfl, Lib.hid (below_alloc wo _)⟩
      case round =>
        obtain ⟨k, hk, rfl, hWd, hbx⟩ := hrel
        obtain ⟨wx, hwx⟩ : ∃ wx, wx = wr := ⟨_, rfl⟩
        subst hwx
        by_cases hlk : k < 16
        · have hlk' : (k : Int) < 16 := by omega
          have hlk2 : (k : Int) < 64 := by omega
          have hlk3 : k < 64 := by omega
          have hN := Lib.hid (HLD.out k hlk)
          have hm4 := HM4.out
          have hck := hWd.cell (sched_zero L k (by omega))
          have hfk := hWd.frozen k
          have HWd := Lib.hid hWd
          have a4 : (0 : Int) ≤ (q : Int) + 4 * (k : Int) ∧ (q : Int) + 4 * (k : Int) ≤ (q : Int) + 4 * (k : Int) + 4 ∧ (q : Int) + 4 * (k : Int) + 4 ≤ (P.size : Int) := by omega
          have h4 : (P.extract (q + 4 * k) (q + 4 * k + 4)).size = 4 := by rw [ByteArray.size_extract]; omega
          have HW4 := Lib.hid (fun W => word_c (P.extract (q + 4 * k) (q + 4 * k + 4)) h4 W)
          have a1 : IntKind.i64.wrap (4 * (k : Int)) = 4 * (k : Int) ∧ IntKind.i64.wrap ((q : Int) + 4 * (k : Int)) = (q : Int) + 4 * (k : Int) ∧ IntKind.i64.wrap ((q : Int) + 4 * (k : Int) + 4) = (q : Int) + 4 * (k : Int) + 4 := ⟨IntWalk.i64_in _ (by omega), IntWalk.i64_in _ (by omega), IntWalk.i64_in _ (by omega)⟩
          clear hWd h4 hm4
          go_wp2_with (with_reducible refine (HW4.out _).mono ?_; rintro e w5 ⟨rfl, hb5⟩; have hck5 := (hb5.cell (blt hck)).trans hck; have hfk5 := (hb5.frozen (blt hck)).trans hfk)
          rw [← hN.out]
          have hW5 := (HWd.out.on hb5).setB hlk3
          have hB5 := Lib.hid (show Below wo.heap.size wo (w5.setCell ⟨wo.heap.size, k, none⟩ (.int .u32 ((nextW L (schedL L k)).toNat : Int))) from below_set2 (btr hbx.out hb5) (Nat.le_refl _))
          clear a1 a4
          go_roundw
          case rel => exact ⟨k + 1, by omega, by go_num, hW5, hB5⟩
          case measure => simp [intOf]; omega
        · have hlk' : ¬ (k : Int) < 16 := by omega
          obtain rfl : k = 16 := by omega
          go_wp2
          go_loopw [7] (fun i wx => ∃ k : Nat, 16 ≤ k ∧ k ≤ 64 ∧ i = .int .i64 (k : Int) ∧ WdsAt wo.heap.size (schedL L k ++ List.replicate (64 - k) 0) wx ∧ Hid (Below wo.heap.size wo wx)) (fun i _ => 64 - (intOf i).toNat)
          case atStart => exact ⟨16, by omega, by omega, rfl, hWd, hbx⟩
          case round =>
            clear hWd hbx
            obtain ⟨k, hk1, hk2, rfl, hWd, hbx⟩ := hrel
            obtain ⟨wy, hwy⟩ : ∃ wy, wy = wr := ⟨_, rfl⟩
            subst hwy
            by_cases hlk : k < 64
            · have hlk' : (k : Int) < 64 := by omega
              have h16 : ¬ k < 16 := by omega
              have HX := Lib.hid (next16 L k h16)
              have q0' := hWd.cell (sched_old L k (k - 16) (by omega))
              have q1' := hWd.cell (sched_old L k (k - 15) (by omega))
              have q2' := hWd.cell (sched_old L k (k - 7) (by omega))
              have q3' := hWd.cell (sched_old L k (k - 2) (by omega))
              have hck := hWd.cell (sched_zero L k (by omega))
              have hfk := hWd.frozen k
              have HWd := Lib.hid hWd
              obtain ⟨x0, hx0⟩ : ∃ x, (schedL L k).getD (k - 16) 0 = x := ⟨_, rfl⟩
              obtain ⟨x1, hx1⟩ : ∃ x, (schedL L k).getD (k - 15) 0 = x := ⟨_, rfl⟩
              obtain ⟨x2, hx2⟩ : ∃ x, (schedL L k).getD (k - 7) 0 = x := ⟨_, rfl⟩
              obtain ⟨x3, hx3⟩ : ∃ x, (schedL L k).getD (k - 2) 0 = x := ⟨_, rfl⟩
              rw [hx0, hx1, hx2, hx3, total_four, near_two, far_two] at HX
              rw [hx0] at q0'
              rw [hx1] at q1'
              rw [hx2] at q2'
              rw [hx3] at q3'
              clear hx0 hx1 hx2 hx3 hWd
              obtain ⟨j0, hj0, hk0⟩ : ∃ j : Nat, (k : Int) - 16 = (j : Int) ∧ k - 16 = j := ⟨k - 16, by omega, rfl⟩
              obtain ⟨j1, hj1, hk1'⟩ : ∃ j : Nat, (k : Int) - 15 = (j : Int) ∧ k - 15 = j := ⟨k - 15, by omega, rfl⟩
              obtain ⟨j2, hj2, hk2'⟩ : ∃ j : Nat, (k : Int) - 7 = (j : Int) ∧ k - 7 = j := ⟨k - 7, by omega, rfl⟩
              obtain ⟨j3, hj3, hk3⟩ : ∃ j : Nat, (k : Int) - 2 = (j : Int) ∧ k - 2 = j := ⟨k - 2, by omega, rfl⟩
              rw [hk0] at q0'
              rw [hk1'] at q1'
              rw [hk2'] at q2'
              rw [hk3] at q3'
              have l0 : (j0 : Int) < 64 ∧ (j1 : Int) < 64 ∧ (j2 : Int) < 64 ∧ (j3 : Int) < 64 := by omega
              have n0 : j0 < 64 ∧ j1 < 64 ∧ j2 < 64 ∧ j3 < 64 := by omega
              have hn0 : j0 ≠ k := by omega
              have hn2 : j2 ≠ k := by omega
              obtain ⟨l0, l1, l2, l3⟩ := l0
              obtain ⟨n0, n1, n2, n3⟩ := n0
              have ww : IntKind.i64.wrap (j0 : Int) = j0 ∧ IntKind.i64.wrap (j1 : Int) = j1 ∧ IntKind.i64.wrap (j2 : Int) = j2 ∧ IntKind.i64.wrap (j3 : Int) = j3 := ⟨IntWalk.i64_in _ (by omega), IntWalk.i64_in _ (by omega), IntWalk.i64_in _ (by omega), IntWalk.i64_in _ (by omega)⟩
              obtain ⟨v0, v1, v2, v3⟩ := ww
              have T1 := Lib.hid (fun W => turn_is x1 7 7 rfl (by omega) (by omega) W)
              have T2 := Lib.hid (fun W => turn_is x1 18 18 rfl (by omega) (by omega) W)
              have T3 := Lib.hid (fun W => turn_is x3 17 17 rfl (by omega) (by omega) W)
              have T4 := Lib.hid (fun W => turn_is x3 19 19 rfl (by omega) (by omega) W)
              have HS3 := Lib.hid (w_shr3 x1)
              have HS10 := Lib.hid (w_shr10 x3)
              generalize x1.rotateRight 7 = r1 at *
              generalize x1.rotateRight 18 = r2 at *
              generalize x3.rotateRight 17 = r3 at *
              generalize x3.rotateRight 19 = r4 at *
              generalize x1 >>> 3 = y1 at *
              generalize x3 >>> 10 = y3 at *
              go_wp2_with fail
              have q0 : wy.drew.cell? ⟨wo.heap.size, j0, none⟩ = some (.int .u32 (x0.toNat : Int)) := q0'
              have q2 : wy.drew.cell? ⟨wo.heap.size, j2, none⟩ = some (.int .u32 (x2.toNat : Int)) := q2'
              refine wp_region_held_drew (S := (fun w' => w'.cell? ⟨wo.heap.size, j0, none⟩ = some (.int .u32 (x0.toNat : Int)) ∧ w'.cell? ⟨wo.heap.size, j2, none⟩ = some (.int .u32 (x2.toNat : Int)))) (by kernel_rfl) ?_ (fun hHeld => ?_)
              · exact ⟨q0, q2⟩
              refine takeH (i := 0) (some 59) (v := ?_) rfl rfl (by kernel_rfl) (by kernel_rfl) (by kernel_rfl) (fun _ _ _ h => h) (Or.inl ⟨by rfl, ?hyA0⟩) hHeld ?restA0
              case hyA0 => (intro w hSw; (try dsimp only at hSw); go_simp; (try with_reducible rfl))
              try simp only [Act.put, List.setIfInBounds_toArray, List.set_cons_zero, List.set_cons_succ]
              refine takeH (i := 1) (some 60) (v := ?_) rfl rfl (by kernel_rfl) (by kernel_rfl) (by kernel_rfl) (fun _ _ _ h => h) (Or.inl ⟨by rfl, ?hyA1⟩) hHeld ?restA1
              case hyA1 => (intro w hSw; (try dsimp only at hSw); go_simp; (try with_reducible rfl))
              try simp only [Act.put, List.setIfInBounds_toArray, List.set_cons_zero, List.set_cons_succ]
              refine takeH (i := 2) (some 61) (v := ?_) rfl rfl (by kernel_rfl) (by kernel_rfl) (by kernel_rfl) (fun _ _ _ h => h) (Or.inl ⟨by rfl, ?hyA2⟩) hHeld ?restA2
              case hyA2 => (intro w hSw; (try dsimp only at hSw); go_simp; (try with_reducible rfl))
              try simp only [Act.put, List.setIfInBounds_toArray, List.set_cons_zero, List.set_cons_succ]
              refine takeH (i := 3) (some 62) (v := ?_) rfl rfl (by kernel_rfl) (by kernel_rfl) (by kernel_rfl) (fun _ _ _ h => h) (Or.inl ⟨by rfl, ?hyA3⟩) hHeld ?restA3
              case hyA3 => (intro w hSw; (try dsimp only at hSw); go_simp; (try with_reducible rfl))
              try simp only [Act.put, List.setIfInBounds_toArray, List.set_cons_zero, List.set_cons_succ]
              refine takeH (i := 4) (some 63) (v := ?_) rfl rfl (by kernel_rfl) (by kernel_rfl) (by kernel_rfl) (fun _ _ _ h => h) (Or.inl ⟨by rfl, ?hyA4⟩) hHeld ?restA4
              case hyA4 => (intro w hSw; (try dsimp only at hSw); go_simp; (try with_reducible rfl))
              try simp only [Act.put, List.setIfInBounds_toArray, List.set_cons_zero, List.set_cons_succ]
              refine takeH (i := 5) (some 64) (v := ?_) rfl rfl (by kernel_rfl) (by kernel_rfl) (by kernel_rfl) (fun _ _ _ h => h) (Or.inl ⟨by rfl, ?hyA5⟩) hHeld ?restA5
              case hyA5 => (intro w hSw; (try dsimp only at hSw); go_simp; (try with_reducible rfl))
              try simp only [Act.put, List.setIfInBounds_toArray, List.set_cons_zero, List.set_cons_succ]
              refine takeH (i := 7) (some 66) (v := ?_) rfl rfl (by kernel_rfl) (by kernel_rfl) (by kernel_rfl) (fun _ _ _ h => h) (Or.inl ⟨by rfl, ?hyA7⟩) hHeld ?restA7
              case hyA7 => (intro w hSw; (try dsimp only at hSw); go_simp; (try with_reducible rfl))
              try simp only [Act.put, List.setIfInBounds_toArray, List.set_cons_zero, List.set_cons_succ]
              refine takeH (i := 10) (some 69) (v := ?_) rfl rfl (by kernel_rfl) (by kernel_rfl) (by kernel_rfl) (fun _ _ _ h => h) (Or.inl ⟨by rfl, ?hyA10⟩) hHeld ?restA10
              case hyA10 => (intro w hSw; (try dsimp only at hSw); go_simp; (try with_reducible rfl))
              try simp only [Act.put, List.setIfInBounds_toArray, List.set_cons_zero, List.set_cons_succ]
              refine takeH (i := 11) (some 70) (v := ?_) rfl rfl (by kernel_rfl) (by kernel_rfl) (by kernel_rfl) (fun _ _ _ h => h) (Or.inl ⟨by rfl, ?hyA11⟩) hHeld ?restA11
              case hyA11 => (intro w hSw; (try dsimp only at hSw); go_simp; (try with_reducible rfl))
              try simp only [Act.put, List.setIfInBounds_toArray, List.set_cons_zero, List.set_cons_succ]
              refine takeH (i := 14) (some 73) (v := ?_) rfl rfl (by kernel_rfl) (by kernel_rfl) (by kernel_rfl) (fun _ _ _ h => h) (Or.inl ⟨by rfl, ?hyA14⟩) hHeld ?restA14
              case hyA14 => (intro w hSw; (try dsimp only at hSw); go_simp; (try with_reducible rfl))
              try simp only [Act.put, List.setIfInBounds_toArray, List.set_cons_zero, List.set_cons_succ]
              refine takeH (i := 15) (some 74) (v := ?_) rfl rfl (by kernel_rfl) (by kernel_rfl) (by kernel_rfl) (fun _ _ _ h => h) (Or.inl ⟨by rfl, ?hyA15⟩) hHeld ?restA15
              case hyA15 => (intro w hSw; (try dsimp only at hSw); go_simp; (try with_reducible rfl))
              try simp only [Act.put, List.setIfInBounds_toArray, List.set_cons_zero, List.set_cons_succ]
              refine takeH (i := 16) (some 75) (v := ?_) rfl rfl (by kernel_rfl) (by kernel_rfl) (by kernel_rfl) (fun _ _ _ h => h) (Or.inl ⟨by rfl, ?hyA16⟩) hHeld ?restA16
              case hyA16 => (intro w hSw; (try dsimp only at hSw); go_simp; (try with_reducible rfl))
              try simp only [Act.put, List.setIfInBounds_toArray, List.set_cons_zero, List.set_cons_succ]
              refine takeH (i := 17) (some 76) (v := ?_) rfl rfl (by kernel_rfl) (by kernel_rfl) (by kernel_rfl) (fun _ _ _ h => h) (Or.inl ⟨by rfl, ?hyA17⟩) hHeld ?restA17
              case hyA17 => (intro w hSw; (try dsimp only at hSw); go_simp; (try with_reducible rfl))
              try simp only [Act.put, List.setIfInBounds_toArray, List.set_cons_zero, List.set_cons_succ]
              refine takeH (i := 19) (some 78) (v := ?_) rfl rfl (by kernel_rfl) (by kernel_rfl) (by kernel_rfl) (fun _ _ _ h => h) (Or.inl ⟨by rfl, ?hyA19⟩) hHeld ?restA19
              case hyA19 => (intro w hSw; (try dsimp only at hSw); go_simp; (try with_reducible rfl))
              try simp only [Act.put, List.setIfInBounds_toArray, List.set_cons_zero, List.set_cons_succ]
              refine takeH (i := 21) (some 80) (v := ?_) rfl rfl (by kernel_rfl) (by kernel_rfl) (by kernel_rfl) (fun _ _ _ h => h) (Or.inl ⟨by rfl, ?hyA21⟩) hHeld ?restA21
              case hyA21 => (intro w hSw; (try dsimp only at hSw); go_simp; (try with_reducible rfl))
              try simp only [Act.put, List.setIfInBounds_toArray, List.set_cons_zero, List.set_cons_succ]
              refine takeH (i := 24) (some 83) (v := ?_) rfl rfl (by kernel_rfl) (by kernel_rfl) (by kernel_rfl) (fun _ _ _ h => h) (Or.inl ⟨by rfl, ?hyA24⟩) hHeld ?restA24
              case hyA24 => (intro w hSw; (try dsimp only at hSw); go_simp; (try with_reducible rfl))
              try simp only [Act.put, List.setIfInBounds_toArray, List.set_cons_zero, List.set_cons_succ]
              refine takeH (i := 25) (some 84) (v := ?_) rfl rfl (by kernel_rfl) (by kernel_rfl) (by kernel_rfl) (fun _ _ _ h => h) (Or.inl ⟨by rfl, ?hyA25⟩) hHeld ?restA25
              case hyA25 => (intro w hSw; (try dsimp only at hSw); go_simp; (try with_reducible rfl))
              try simp only [Act.put, List.setIfInBounds_toArray, List.set_cons_zero, List.set_cons_succ]
              refine wpAnyH_ready (rs := [6]) (by kernel_rfl) (by simp) ?_
              refine AllReadyH.cons rfl (fun K hK => ?_) AllReadyH.nil
              go_simp
              with_reducible refine (T1.out _).mono ?_; rintro e wt ⟨rfl, rfl⟩
              refine hK.out _ _ ?_ (fun hHeld => ?_)
              · exact hHeld
              clear hK K
              try simp only [Act.put, List.setIfInBounds_toArray, List.set_cons_zero, List.set_cons_succ]
              refine wpAnyH_ready (rs := [8]) (by kernel_rfl) (by simp) ?_
              refine AllReadyH.cons rfl (fun K hK => ?_) AllReadyH.nil
              go_simp
              with_reducible refine (T2.out _).mono ?_; rintro e wt ⟨rfl, rfl⟩
              refine hK.out _ _ ?_ (fun hHeld => ?_)
              · exact hHeld
              clear hK K
              try simp only [Act.put, List.setIfInBounds_toArray, List.set_cons_zero, List.set_cons_succ]
              refine takeH (i := 9) (some 68) (v := ?_) rfl rfl (by kernel_rfl) (by kernel_rfl) (by kernel_rfl) (fun _ _ _ h => h) (Or.inl ⟨by rfl, ?hyA9⟩) hHeld ?restA9
              case hyA9 => (intro w hSw; (try dsimp only at hSw); go_simp; (try with_reducible rfl))
              try simp only [Act.put, List.setIfInBounds_toArray, List.set_cons_zero, List.set_cons_succ]
              refine takeH (i := 12) (some 71) (v := ?_) rfl rfl (by kernel_rfl) (by kernel_rfl) (by kernel_rfl) (fun _ _ _ h => h) (Or.inl ⟨by rfl, ?hyA12⟩) hHeld ?restA12
              case hyA12 => (intro w hSw; (try dsimp only at hSw); go_simp; (try with_reducible rfl))
              try simp only [Act.put, List.setIfInBounds_toArray, List.set_cons_zero, List.set_cons_succ]
              refine takeH (i := 13) (some 72) (v := ?_) rfl rfl (by kernel_rfl) (by kernel_rfl) (by kernel_rfl) (fun _ _ _ h => h) (Or.inl ⟨by rfl, ?hyA13⟩) hHeld ?restA13
              case hyA13 => (intro w hSw; (try dsimp only at hSw); go_simp; (try with_reducible rfl))
              try simp only [Act.put, List.setIfInBounds_toArray, List.set_cons_zero, List.set_cons_succ]
              refine takeH (i := 18) (some 77) (v := ?_) rfl rfl (by kernel_rfl) (by kernel_rfl) (by kernel_rfl) (fun _ _ _ h => h) (Or.inl ⟨by rfl, ?hyA18⟩) hHeld ?restA18
              case hyA18 => (intro w hSw; (try dsimp only at hSw); go_simp; (try with_reducible rfl))
              try simp only [Act.put, List.setIfInBounds_toArray, List.set_cons_zero, List.set_cons_succ]
              refine wpAnyH_ready (rs := [20]) (by kernel_rfl) (by simp) ?_
              refine AllReadyH.cons rfl (fun K hK => ?_) AllReadyH.nil
              go_simp
              with_reducible refine (T3.out _).mono ?_; rintro e wt ⟨rfl, rfl⟩
              refine hK.out _ _ ?_ (fun hHeld => ?_)
              · exact hHeld
              clear hK K
              try simp only [Act.put, List.setIfInBounds_toArray, List.set_cons_zero, List.set_cons_succ]
              refine wpAnyH_ready (rs := [22]) (by kernel_rfl) (by simp) ?_
              refine AllReadyH.cons rfl (fun K hK => ?_) AllReadyH.nil
              go_simp
              with_reducible refine (T4.out _).mono ?_; rintro e wt ⟨rfl, rfl⟩
              refine hK.out _ _ ?_ (fun hHeld => ?_)
              · exact hHeld
              clear hK K
              try simp only [Act.put, List.setIfInBounds_toArray, List.set_cons_zero, List.set_cons_succ]
              refine takeH (i := 23) (some 82) (v := ?_) rfl rfl (by kernel_rfl) (by kernel_rfl) (by kernel_rfl) (fun _ _ _ h => h) (Or.inl ⟨by rfl, ?hyA23⟩) hHeld ?restA23
              case hyA23 => (intro w hSw; (try dsimp only at hSw); go_simp; (try with_reducible rfl))
              try simp only [Act.put, List.setIfInBounds_toArray, List.set_cons_zero, List.set_cons_succ]
              refine takeH (i := 26) (some 85) (v := ?_) rfl rfl (by kernel_rfl) (by kernel_rfl) (by kernel_rfl) (fun _ _ _ h => h) (Or.inl ⟨by rfl, ?hyA26⟩) hHeld ?restA26
              case hyA26 => (intro w hSw; (try dsimp only at hSw); go_simp; (try with_reducible rfl))
              try simp only [Act.put, List.setIfInBounds_toArray, List.set_cons_zero, List.set_cons_succ]
              refine takeH (i := 27) (some 86) (v := ?_) rfl rfl (by kernel_rfl) (by kernel_rfl) (by kernel_rfl) (fun _ _ _ h => h) (Or.inl ⟨by rfl, ?hyA27⟩) hHeld ?restA27
              case hyA27 => (intro w hSw; (try dsimp only at hSw); go_simp; (try with_reducible rfl))
              try simp only [Act.put, List.setIfInBounds_toArray, List.set_cons_zero, List.set_cons_succ]
              refine takeH (i := 28) (some 87) (v := ?_) rfl rfl (by kernel_rfl) (by kernel_rfl) (by kernel_rfl) (fun _ _ _ h => h) (Or.inl ⟨by rfl, ?hyA28⟩) hHeld ?restA28
              case hyA28 => (intro w hSw; (try dsimp only at hSw); go_simp; (try with_reducible rfl))
              try simp only [Act.put, List.setIfInBounds_toArray, List.set_cons_zero, List.set_cons_succ]
              refine wpAnyH_ready (rs := [29]) (by kernel_rfl) (by simp) ?_
              refine AllReadyH.cons rfl (fun K hK => ?_) AllReadyH.nil
              go_simp
              refine hK.out _ _ ?_ (fun hHeld => ?_)
              · exact ⟨(set_cell_ne _ _ hn0).trans hHeld.1, (set_cell_ne _ _ hn2).trans hHeld.2⟩
              clear hK K
              try simp only [Act.put, List.setIfInBounds_toArray, List.set_cons_zero, List.set_cons_succ]
              refine wpAnyH_done (by kernel_rfl) ?_ _
              rw [HS3.out, HS10.out]
              simp only [w_xor, w_add]
              rw [← HX.out]
              have hW5 := (HWd.out.drew.setB hlk)
              have hB5 := Lib.hid (show Below wo.heap.size wo (wy.drew.setCell ⟨wo.heap.size, k, none⟩ (.int .u32 ((nextW L (schedL L k)).toNat : Int))) from below_set2 (below_drew hbx.out) (Nat.le_refl _))
              clear v0 v1 v2 v3
              go_wp2
              trace_state
              go_roundw
              case rel => exact ⟨k + 1, by omega, by omega, by go_num, hW5, hB5⟩
              case measure => simp [intOf]; omega
            · have hlk' : ¬ (k : Int) < 64 := by omega
              obtain rfl : k = 64 := by omega
              obtain ⟨SC, hSC⟩ : ∃ SC, schedL L 64 = SC := ⟨_, rfl⟩
              have hlen := schedL_length L 64
              have HBK := Lib.hid (show blockS st L = joinS st (roundsS st (rootsL.zip SC)) by rw [← hSC]; rfl)
              rw [show List.replicate (64 - 64) (0 : Wd) = [] from rfl, List.append_nil, hSC] at hWd
              rw [hSC] at hlen
              have hs := HSt.out.on hbx.out
              have hSz := hs.lt
              have hWz := hWd.lt
              have hxz := hbx.out.size
              obtain ⟨c0, c1, c2, c3, c4, c5, c6, c7, _, _, _, _, _, _, _, _⟩ := hs
              clear hSC HLD hk1 hk2 hlk
              go_wp2
              have hV0 : StaAt wy.heap.size st (wy.alloc (.cells #[.int .u32 (st.a.toNat : Int), .int .u32 (st.b.toNat : Int), .int .u32 (st.c.toNat : Int), .int .u32 (st.d.toNat : Int), .int .u32 (st.e.toNat : Int), .int .u32 (st.f.toNat : Int), .int .u32 (st.g.toNat : Int), .int .u32 (st.h.toNat : Int)] 72)) := ⟨by go_simp, by go_simp, by go_simp, by go_simp, by go_simp, by go_simp, by go_simp, by go_simp, by go_simp, by go_simp, by go_simp, by go_simp, by go_simp, by go_simp, by go_simp, by go_simp⟩
              have hWd4 := hWd.on (below_alloc wy (.cells #[.int .u32 (st.a.toNat : Int), .int .u32 (st.b.toNat : Int), .int .u32 (st.c.toNat : Int), .int .u32 (st.d.toNat : Int), .int .u32 (st.e.toNat : Int), .int .u32 (st.f.toNat : Int), .int .u32 (st.g.toNat : Int), .int .u32 (st.h.toNat : Int)] 72))
              have hbx4 := Lib.hid (bal hbx.out (.cells #[.int .u32 (st.a.toNat : Int), .int .u32 (st.b.toNat : Int), .int .u32 (st.c.toNat : Int), .int .u32 (st.d.toNat : Int), .int .u32 (st.e.toNat : Int), .int .u32 (st.f.toNat : Int), .int .u32 (st.g.toNat : Int), .int .u32 (st.h.toNat : Int)] 72))
              have HS4 := Lib.hid ((HSt.out.on hbx.out).on (below_alloc wy (.cells #[.int .u32 (st.a.toNat : Int), .int .u32 (st.b.toNat : Int), .int .u32 (st.c.toNat : Int), .int .u32 (st.d.toNat : Int), .int .u32 (st.e.toNat : Int), .int .u32 (st.f.toNat : Int), .int .u32 (st.g.toNat : Int), .int .u32 (st.h.toNat : Int)] 72)))
              generalize wy.alloc (.cells #[.int .u32 (st.a.toNat : Int), .int .u32 (st.b.toNat : Int), .int .u32 (st.c.toNat : Int), .int .u32 (st.d.toNat : Int), .int .u32 (st.e.toNat : Int), .int .u32 (st.f.toNat : Int), .int .u32 (st.g.toNat : Int), .int .u32 (st.h.toNat : Int)] 72) = wv at *
              generalize wy.heap.size = Vb at *
              clear c0 c1 c2 c3 c4 c5 c6 c7 hWd hbx
              go_loopw [11] (fun i wx => ∃ k : Nat, k ≤ 64 ∧ i = .int .i64 (k : Int) ∧ StaAt Vb (roundsS st ((rootsL.zip SC).take k)) wx ∧ WdsAt wo.heap.size SC wx ∧ Hid (Below wo.heap.size wo wx)) (fun i _ => 64 - (intOf i).toNat)
              case atStart => exact ⟨0, by omega, rfl, hV0, hWd4, hbx4⟩
              case round =>
                clear hV0 hWd4 hbx4
                obtain ⟨k, hk, rfl, hVs, hWd, hbx⟩ := hrel
                obtain ⟨wz, hwz⟩ : ∃ wz, wz = wr := ⟨_, rfl⟩
                subst hwz
                have hTc : TabC wz := HCr.out.on hbx.out
                by_cases hlk : k < 64
                · have hlk' : (k : Int) < 64 := by omega
                  obtain ⟨x1, hx1⟩ : ∃ x, rootsL[k]? = some x := ⟨_, List.getElem?_eq_getElem (by show k < 64; exact hlk)⟩
                  obtain ⟨x2, hx2⟩ : ∃ x, SC[k]? = some x := ⟨_, List.getElem?_eq_getElem (by rw [hlen]; exact hlk)⟩
                  have HN := Lib.hid (rounds_take st SC k x1 x2 hx1 hx2)
                  have hcr' := hTc k x1 hx1
                  have hcw' := hWd.cell hx2
                  have HWd := Lib.hid hWd
                  have HVs := Lib.hid hVs
                  obtain ⟨fin, hfin⟩ : ∃ fin, roundsS st ((rootsL.zip SC).take k) = fin := ⟨_, rfl⟩
                  rw [hfin] at HN HVs hVs
                  clear hfin hWd hTc hx1 hx2
                  obtain ⟨a, b, c, d, e, f, g, hw⟩ := fin
                  obtain ⟨C0, C1, C2, C3, C4, C5, C6, C7, F0, F1, F2, F3, F4, F5, F6, F7⟩ := hVs
                  simp only [] at C0 C1 C2 C3 C4 C5 C6 C7
                  have T6 := Lib.hid (fun W => turn_is e 6 6 rfl (by omega) (by omega) W)
                  have T11 := Lib.hid (fun W => turn_is e 11 11 rfl (by omega) (by omega) W)
                  have T25 := Lib.hid (fun W => turn_is e 25 25 rfl (by omega) (by omega) W)
                  have T2' := Lib.hid (fun W => turn_is a 2 2 rfl (by omega) (by omega) W)
                  have T13 := Lib.hid (fun W => turn_is a 13 13 rfl (by omega) (by omega) W)
                  have T22 := Lib.hid (fun W => turn_is a 22 22 rfl (by omega) (by omega) W)
                  have E1 : bits .xor .u32 (bits .and .u32 (e.toNat : Int) (f.toNat : Int)) (bits .and .u32 (bits .xor .u32 IntKind.u32.max (e.toNat : Int)) (g.toNat : Int)) = (((e &&& f) ^^^ (~~~e &&& g)).toNat : Int) := by rw [show IntKind.u32.max = 4294967295 from rfl, w_not, w_and, w_and, w_xor]
                  have E2 : bits .xor .u32 (bits .xor .u32 (bits .and .u32 (a.toNat : Int) (b.toNat : Int)) (bits .and .u32 (a.toNat : Int) (c.toNat : Int))) (bits .and .u32 (b.toNat : Int) (c.toNat : Int)) = ((((a &&& b) ^^^ (a &&& c)) ^^^ (b &&& c)).toNat : Int) := by rw [w_and, w_and, w_and, w_xor, w_xor]
                  have HR := Lib.hid (show roundS ⟨a, b, c, d, e, f, g, hw⟩ x1 x2 = ⟨((((hw + ((e.rotateRight 6 ^^^ e.rotateRight 11) ^^^ e.rotateRight 25)) + ((e &&& f) ^^^ (~~~e &&& g))) + x1) + x2) + (((a.rotateRight 2 ^^^ a.rotateRight 13) ^^^ a.rotateRight 22) + (((a &&& b) ^^^ (a &&& c)) ^^^ (b &&& c))), a, b, c, d + ((((hw + ((e.rotateRight 6 ^^^ e.rotateRight 11) ^^^ e.rotateRight 25)) + ((e &&& f) ^^^ (~~~e &&& g))) + x1) + x2), e, f, g⟩ by
                    unfold roundS
                    simp only [total_five, total_two, fifth_three, first_three])
                  generalize e.rotateRight 6 = r6 at *
                  generalize e.rotateRight 11 = r11 at *
                  generalize e.rotateRight 25 = r25 at *
                  generalize a.rotateRight 2 = r2 at *
                  generalize a.rotateRight 13 = r13 at *
                  generalize a.rotateRight 22 = r22 at *
                  generalize (e &&& f) ^^^ (~~~e &&& g) = X at *
                  generalize ((a &&& b) ^^^ (a &&& c)) ^^^ (b &&& c) = Y at *
                  go_wp2_with fail
                  have c7 : wz.drew.cell? ⟨Vb, 7, none⟩ = some (.int .u32 (hw.toNat : Int)) := C7
                  have c5 : wz.drew.cell? ⟨Vb, 5, none⟩ = some (.int .u32 (f.toNat : Int)) := C5
                  have c6 : wz.drew.cell? ⟨Vb, 6, none⟩ = some (.int .u32 (g.toNat : Int)) := C6
                  have hcr : wz.drew.cell? ⟨0, k, none⟩ = some (.int .u32 (x1.toNat : Int)) := hcr'
                  have hcw : wz.drew.cell? ⟨wo.heap.size, k, none⟩ = some (.int .u32 (x2.toNat : Int)) := hcw'
                  refine wp_region_held_drew (S := (fun w' => w'.cell? ⟨Vb, 7, none⟩ = some (.int .u32 (hw.toNat : Int)) ∧ w'.cell? ⟨Vb, 5, none⟩ = some (.int .u32 (f.toNat : Int)) ∧ w'.cell? ⟨Vb, 6, none⟩ = some (.int .u32 (g.toNat : Int)) ∧ w'.cell? ⟨0, k, none⟩ = some (.int .u32 (x1.toNat : Int)) ∧ w'.cell? ⟨wo.heap.size, k, none⟩ = some (.int .u32 (x2.toNat : Int)))) (by kernel_rfl) ?_ (fun hHeld => ?_)
                  · exact ⟨c7, c5, c6, hcr, hcw⟩
                  refine takeH (i := 0) (some 97) (v := ?_) rfl rfl (by kernel_rfl) (by kernel_rfl) (by kernel_rfl) (fun _ _ _ h => h) (Or.inl ⟨by rfl, ?hyB0⟩) hHeld ?restB0
                  case hyB0 => (intro w hSw; (try dsimp only at hSw); go_simp; (try with_reducible rfl))
                  try simp only [Act.put, List.setIfInBounds_toArray, List.set_cons_zero, List.set_cons_succ]
                  refine takeH (i := 1) (some 98) (v := ?_) rfl rfl (by kernel_rfl) (by kernel_rfl) (by kernel_rfl) (fun _ _ _ h => h) (Or.inl ⟨by rfl, ?hyB1⟩) hHeld ?restB1
                  case hyB1 => (intro w hSw; (try dsimp only at hSw); go_simp; (try with_reducible rfl))
                  try simp only [Act.put, List.setIfInBounds_toArray, List.set_cons_zero, List.set_cons_succ]
                  refine takeH (i := 2) (some 99) (v := ?_) rfl rfl (by kernel_rfl) (by kernel_rfl) (by kernel_rfl) (fun _ _ _ h => h) (Or.inl ⟨by rfl, ?hyB2⟩) hHeld ?restB2
                  case hyB2 => (intro w hSw; (try dsimp only at hSw); go_simp; (try with_reducible rfl))
                  try simp only [Act.put, List.setIfInBounds_toArray, List.set_cons_zero, List.set_cons_succ]
                  refine takeH (i := 4) (some 101) (v := ?_) rfl rfl (by kernel_rfl) (by kernel_rfl) (by kernel_rfl) (fun _ _ _ h => h) (Or.inl ⟨by rfl, ?hyB4⟩) hHeld ?restB4
                  case hyB4 => (intro w hSw; (try dsimp only at hSw); go_simp; (try with_reducible rfl))
                  try simp only [Act.put, List.setIfInBounds_toArray, List.set_cons_zero, List.set_cons_succ]
                  refine takeH (i := 7) (some 104) (v := ?_) rfl rfl (by kernel_rfl) (by kernel_rfl) (by kernel_rfl) (fun _ _ _ h => h) (Or.inl ⟨by rfl, ?hyB7⟩) hHeld ?restB7
                  case hyB7 => (intro w hSw; (try dsimp only at hSw); go_simp; (try with_reducible rfl))
                  try simp only [Act.put, List.setIfInBounds_toArray, List.set_cons_zero, List.set_cons_succ]
                  refine takeH (i := 11) (some 108) (v := ?_) rfl rfl (by kernel_rfl) (by kernel_rfl) (by kernel_rfl) (fun _ _ _ h => h) (Or.inl ⟨by rfl, ?hyB11⟩) hHeld ?restB11
                  case hyB11 => (intro w hSw; (try dsimp only at hSw); go_simp; (try with_reducible rfl))
                  try simp only [Act.put, List.setIfInBounds_toArray, List.set_cons_zero, List.set_cons_succ]
                  refine takeH (i := 12) (some 109) (v := ?_) rfl rfl (by kernel_rfl) (by kernel_rfl) (by kernel_rfl) (fun _ _ _ h => h) (Or.inl ⟨by rfl, ?hyB12⟩) hHeld ?restB12
                  case hyB12 => (intro w hSw; (try dsimp only at hSw); go_simp; (try with_reducible rfl))
                  try simp only [Act.put, List.setIfInBounds_toArray, List.set_cons_zero, List.set_cons_succ]
                  refine takeH (i := 13) (some 110) (v := ?_) rfl rfl (by kernel_rfl) (by kernel_rfl) (by kernel_rfl) (fun _ _ _ h => h) (Or.inl ⟨by rfl, ?hyB13⟩) hHeld ?restB13
                  case hyB13 => (intro w hSw; (try dsimp only at hSw); go_simp; (try with_reducible rfl))
                  try simp only [Act.put, List.setIfInBounds_toArray, List.set_cons_zero, List.set_cons_succ]
                  refine takeH (i := 14) (some 111) (v := ?_) rfl rfl (by kernel_rfl) (by kernel_rfl) (by kernel_rfl) (fun _ _ _ h => h) (Or.inl ⟨by rfl, ?hyB14⟩) hHeld ?restB14
                  case hyB14 => (intro w hSw; (try dsimp only at hSw); go_simp; (try with_reducible rfl))
                  try simp only [Act.put, List.setIfInBounds_toArray, List.set_cons_zero, List.set_cons_succ]
                  refine takeH (i := 15) (some 112) (v := ?_) rfl rfl (by kernel_rfl) (by kernel_rfl) (by kernel_rfl) (fun _ _ _ h => h) (Or.inl ⟨by rfl, ?hyB15⟩) hHeld ?restB15
                  case hyB15 => (intro w hSw; (try dsimp only at hSw); go_simp; (try with_reducible rfl))
                  try simp only [Act.put, List.setIfInBounds_toArray, List.set_cons_zero, List.set_cons_succ]
                  refine takeH (i := 16) (some 113) (v := ?_) rfl rfl (by kernel_rfl) (by kernel_rfl) (by kernel_rfl) (fun _ _ _ h => h) (Or.inl ⟨by rfl, ?hyB16⟩) hHeld ?restB16
                  case hyB16 => (intro w hSw; (try dsimp only at hSw); go_simp; (try with_reducible rfl))
                  try simp only [Act.put, List.setIfInBounds_toArray, List.set_cons_zero, List.set_cons_succ]
                  refine takeH (i := 17) (some 114) (v := ?_) rfl rfl (by kernel_rfl) (by kernel_rfl) (by kernel_rfl) (fun _ _ _ h => h) (Or.inl ⟨by rfl, ?hyB17⟩) hHeld ?restB17
                  case hyB17 => (intro w hSw; (try dsimp only at hSw); go_simp; (try with_reducible rfl))
                  try simp only [Act.put, List.setIfInBounds_toArray, List.set_cons_zero, List.set_cons_succ]
                  refine takeH (i := 18) (some 115) (v := ?_) rfl rfl (by kernel_rfl) (by kernel_rfl) (by kernel_rfl) (fun _ _ _ h => h) (Or.inl ⟨by rfl, ?hyB18⟩) hHeld ?restB18
                  case hyB18 => (intro w hSw; (try dsimp only at hSw); go_simp; (try with_reducible rfl))
                  try simp only [Act.put, List.setIfInBounds_toArray, List.set_cons_zero, List.set_cons_succ]
                  refine takeH (i := 19) (some 116) (v := ?_) rfl rfl (by kernel_rfl) (by kernel_rfl) (by kernel_rfl) (fun _ _ _ h => h) (Or.inl ⟨by rfl, ?hyB19⟩) hHeld ?restB19
                  case hyB19 => (intro w hSw; (try dsimp only at hSw); go_simp; (try with_reducible rfl))
                  try simp only [Act.put, List.setIfInBounds_toArray, List.set_cons_zero, List.set_cons_succ]
                  refine takeH (i := 20) (some 117) (v := ?_) rfl rfl (by kernel_rfl) (by kernel_rfl) (by kernel_rfl) (fun _ _ _ h => h) (Or.inl ⟨by rfl, ?hyB20⟩) hHeld ?restB20
                  case hyB20 => (intro w hSw; (try dsimp only at hSw); go_simp; (try with_reducible rfl))
                  try simp only [Act.put, List.setIfInBounds_toArray, List.set_cons_zero, List.set_cons_succ]
                  refine takeH (i := 22) (some 119) (v := ?_) rfl rfl (by kernel_rfl) (by kernel_rfl) (by kernel_rfl) (fun _ _ _ h => h) (Or.inl ⟨by rfl, ?hyB22⟩) hHeld ?restB22
                  case hyB22 => (intro w hSw; (try dsimp only at hSw); go_simp; (try with_reducible rfl))
                  try simp only [Act.put, List.setIfInBounds_toArray, List.set_cons_zero, List.set_cons_succ]
                  refine takeH (i := 23) (some 120) (v := ?_) rfl rfl (by kernel_rfl) (by kernel_rfl) (by kernel_rfl) (fun _ _ _ h => h) (Or.inl ⟨by rfl, ?hyB23⟩) hHeld ?restB23
                  case hyB23 => (intro w hSw; (try dsimp only at hSw); go_simp; (try with_reducible rfl))
                  try simp only [Act.put, List.setIfInBounds_toArray, List.set_cons_zero, List.set_cons_succ]
                  refine takeH (i := 24) (some 121) (v := ?_) rfl rfl (by kernel_rfl) (by kernel_rfl) (by kernel_rfl) (fun _ _ _ h => h) (Or.inl ⟨by rfl, ?hyB24⟩) hHeld ?restB24
                  case hyB24 => (intro w hSw; (try dsimp only at hSw); go_simp; (try with_reducible rfl))
                  try simp only [Act.put, List.setIfInBounds_toArray, List.set_cons_zero, List.set_cons_succ]
                  refine takeH (i := 26) (some 123) (v := ?_) rfl rfl (by kernel_rfl) (by kernel_rfl) (by kernel_rfl) (fun _ _ _ h => h) (Or.inl ⟨by rfl, ?hyB26⟩) hHeld ?restB26
                  case hyB26 => (intro w hSw; (try dsimp only at hSw); go_simp; (try with_reducible rfl))
                  try simp only [Act.put, List.setIfInBounds_toArray, List.set_cons_zero, List.set_cons_succ]
                  refine takeH (i := 27) (some 124) (v := ?_) rfl rfl (by kernel_rfl) (by kernel_rfl) (by kernel_rfl) (fun _ _ _ h => h) (Or.inl ⟨by rfl, ?hyB27⟩) hHeld ?restB27
                  case hyB27 => (intro w hSw; (try dsimp only at hSw); go_simp; (try with_reducible rfl))
                  try simp only [Act.put, List.setIfInBounds_toArray, List.set_cons_zero, List.set_cons_succ]
                  refine takeH (i := 28) (some 125) (v := ?_) rfl rfl (by kernel_rfl) (by kernel_rfl) (by kernel_rfl) (fun _ _ _ h => h) (Or.inl ⟨by rfl, ?hyB28⟩) hHeld ?restB28
                  case hyB28 => (intro w hSw; (try dsimp only at hSw); go_simp; (try with_reducible rfl))
                  try simp only [Act.put, List.setIfInBounds_toArray, List.set_cons_zero, List.set_cons_succ]
                  refine wpAnyH_ready (rs := [3]) (by kernel_rfl) (by simp) ?_
                  refine AllReadyH.cons rfl (fun K hK => ?_) AllReadyH.nil
                  go_simp
                  with_reducible refine (T6.out _).mono ?_; rintro e wt ⟨rfl, rfl⟩
                  refine hK.out _ _ ?_ (fun hHeld => ?_)
                  · exact hHeld
                  clear hK K
                  try simp only [Act.put, List.setIfInBounds_toArray, List.set_cons_zero, List.set_cons_succ]
                  refine wpAnyH_ready (rs := [5]) (by kernel_rfl) (by simp) ?_
                  refine AllReadyH.cons rfl (fun K hK => ?_) AllReadyH.nil
                  go_simp
                  with_reducible refine (T11.out _).mono ?_; rintro e wt ⟨rfl, rfl⟩
                  refine hK.out _ _ ?_ (fun hHeld => ?_)
                  · exact hHeld
                  clear hK K
                  try simp only [Act.put, List.setIfInBounds_toArray, List.set_cons_zero, List.set_cons_succ]
                  refine takeH (i := 6) (some 103) (v := ?_) rfl rfl (by kernel_rfl) (by kernel_rfl) (by kernel_rfl) (fun _ _ _ h => h) (Or.inl ⟨by rfl, ?hyB6⟩) hHeld ?restB6
                  case hyB6 => (intro w hSw; (try dsimp only at hSw); go_simp; (try with_reducible rfl))
                  try simp only [Act.put, List.setIfInBounds_toArray, List.set_cons_zero, List.set_cons_succ]
                  refine wpAnyH_ready (rs := [8]) (by kernel_rfl) (by simp) ?_
                  refine AllReadyH.cons rfl (fun K hK => ?_) AllReadyH.nil
                  go_simp
                  with_reducible refine (T25.out _).mono ?_; rintro e wt ⟨rfl, rfl⟩
                  refine hK.out _ _ ?_ (fun hHeld => ?_)
                  · exact hHeld
                  clear hK K
                  try simp only [Act.put, List.setIfInBounds_toArray, List.set_cons_zero, List.set_cons_succ]
                  refine takeH (i := 9) (some 106) (v := ?_) rfl rfl (by kernel_rfl) (by kernel_rfl) (by kernel_rfl) (fun _ _ _ h => h) (Or.inl ⟨by rfl, ?hyB9⟩) hHeld ?restB9
                  case hyB9 => (intro w hSw; (try dsimp only at hSw); go_simp; (try with_reducible rfl))
                  try simp only [Act.put, List.setIfInBounds_toArray, List.set_cons_zero, List.set_cons_succ]
                  refine takeH (i := 10) (some 107) (v := ?_) rfl rfl (by kernel_rfl) (by kernel_rfl) (by kernel_rfl) (fun _ _ _ h => h) (Or.inl ⟨by rfl, ?hyB10⟩) hHeld ?restB10
                  case hyB10 => (intro w hSw; (try dsimp only at hSw); go_simp; (try with_reducible rfl))
                  try simp only [Act.put, List.setIfInBounds_toArray, List.set_cons_zero, List.set_cons_succ]
                  refine takeH (i := 21) (some 118) (v := ?_) rfl rfl (by kernel_rfl) (by kernel_rfl) (by kernel_rfl) (fun _ _ _ h => h) (Or.inl ⟨by rfl, ?hyB21⟩) hHeld ?restB21
                  case hyB21 => (intro w hSw; (try dsimp only at hSw); go_simp; (try with_reducible rfl))
                  try simp only [Act.put, List.setIfInBounds_toArray, List.set_cons_zero, List.set_cons_succ]
                  refine takeH (i := 25) (some 122) (v := ?_) rfl rfl (by kernel_rfl) (by kernel_rfl) (by kernel_rfl) (fun _ _ _ h => h) (Or.inl ⟨by rfl, ?hyB25⟩) hHeld ?restB25
                  case hyB25 => (intro w hSw; (try dsimp only at hSw); go_simp; (try with_reducible rfl))
                  try simp only [Act.put, List.setIfInBounds_toArray, List.set_cons_zero, List.set_cons_succ]
                  refine takeH (i := 29) (some 126) (v := ?_) rfl rfl (by kernel_rfl) (by kernel_rfl) (by kernel_rfl) (fun _ _ _ h => h) (Or.inl ⟨by rfl, ?hyB29⟩) hHeld ?restB29
                  case hyB29 => (intro w hSw; (try dsimp only at hSw); go_simp; (try with_reducible rfl))
                  try simp only [Act.put, List.setIfInBounds_toArray, List.set_cons_zero, List.set_cons_succ]
                  refine takeH (i := 30) (some 14) (v := ?_) rfl rfl (by kernel_rfl) (by kernel_rfl) (by kernel_rfl) (fun _ _ _ h => h) (Or.inl ⟨by rfl, ?hyB30⟩) hHeld ?restB30
                  case hyB30 => (intro w hSw; (try dsimp only at hSw); go_simp; (try with_reducible rfl))
                  try simp only [Act.put, List.setIfInBounds_toArray, List.set_cons_zero, List.set_cons_succ]
                  refine wpAnyH_done (by kernel_rfl) ?_ _
                  simp only [show (if IntKind.u32.signed = true then (-1 : Int) else IntKind.u32.max) = IntKind.u32.max from rfl, E1, w_xor, w_add]
                  obtain ⟨TT, hTT⟩ : ∃ TT, (((hw + ((r6 ^^^ r11) ^^^ r25)) + X) + x1) + x2 = TT := ⟨_, rfl⟩
                  rw [hTT] at HR ⊢
                  clear hTT c5 c6 c7 hcr hcw hcr' hcw' T6 T11 T25 E1
                  go_wp2_with fail
                  have c1 : wz.drew.drew.cell? ⟨Vb, 1, none⟩ = some (.int .u32 (b.toNat : Int)) := C1
                  have c2 : wz.drew.drew.cell? ⟨Vb, 2, none⟩ = some (.int .u32 (c.toNat : Int)) := C2
                  refine wp_region_held_drew (S := (fun w' => w'.cell? ⟨Vb, 1, none⟩ = some (.int .u32 (b.toNat : Int)) ∧ w'.cell? ⟨Vb, 2, none⟩ = some (.int .u32 (c.toNat : Int)))) (by kernel_rfl) ?_ (fun hHeld => ?_)
                  · exact ⟨c1, c2⟩
                  refine takeH (i := 0) (some 127) (v := ?_) rfl rfl (by kernel_rfl) (by kernel_rfl) (by kernel_rfl) (fun _ _ _ h => h) (Or.inl ⟨by rfl, ?hyC0⟩) hHeld ?restC0
                  case hyC0 => (intro w hSw; (try dsimp only at hSw); go_simp; (try with_reducible rfl))
                  try simp only [Act.put, List.setIfInBounds_toArray, List.set_cons_zero, List.set_cons_succ]
                  refine takeH (i := 2) (some 129) (v := ?_) rfl rfl (by kernel_rfl) (by kernel_rfl) (by kernel_rfl) (fun _ _ _ h => h) (Or.inl ⟨by rfl, ?hyC2⟩) hHeld ?restC2
                  case hyC2 => (intro w hSw; (try dsimp only at hSw); go_simp; (try with_reducible rfl))
                  try simp only [Act.put, List.setIfInBounds_toArray, List.set_cons_zero, List.set_cons_succ]
                  refine takeH (i := 5) (some 132) (v := ?_) rfl rfl (by kernel_rfl) (by kernel_rfl) (by kernel_rfl) (fun _ _ _ h => h) (Or.inl ⟨by rfl, ?hyC5⟩) hHeld ?restC5
                  case hyC5 => (intro w hSw; (try dsimp only at hSw); go_simp; (try with_reducible rfl))
                  try simp only [Act.put, List.setIfInBounds_toArray, List.set_cons_zero, List.set_cons_succ]
                  refine takeH (i := 8) (some 135) (v := ?_) rfl rfl (by kernel_rfl) (by kernel_rfl) (by kernel_rfl) (fun _ _ _ h => h) (Or.inl ⟨by rfl, ?hyC8⟩) hHeld ?restC8
                  case hyC8 => (intro w hSw; (try dsimp only at hSw); go_simp; (try with_reducible rfl))
                  try simp only [Act.put, List.setIfInBounds_toArray, List.set_cons_zero, List.set_cons_succ]
                  refine takeH (i := 9) (some 136) (v := ?_) rfl rfl (by kernel_rfl) (by kernel_rfl) (by kernel_rfl) (fun _ _ _ h => h) (Or.inl ⟨by rfl, ?hyC9⟩) hHeld ?restC9
                  case hyC9 => (intro w hSw; (try dsimp only at hSw); go_simp; (try with_reducible rfl))
                  try simp only [Act.put, List.setIfInBounds_toArray, List.set_cons_zero, List.set_cons_succ]
                  refine takeH (i := 10) (some 137) (v := ?_) rfl rfl (by kernel_rfl) (by kernel_rfl) (by kernel_rfl) (fun _ _ _ h => h) (Or.inl ⟨by rfl, ?hyC10⟩) hHeld ?restC10
                  case hyC10 => (intro w hSw; (try dsimp only at hSw); go_simp; (try with_reducible rfl))
                  try simp only [Act.put, List.setIfInBounds_toArray, List.set_cons_zero, List.set_cons_succ]
                  refine takeH (i := 11) (some 138) (v := ?_) rfl rfl (by kernel_rfl) (by kernel_rfl) (by kernel_rfl) (fun _ _ _ h => h) (Or.inl ⟨by rfl, ?hyC11⟩) hHeld ?restC11
                  case hyC11 => (intro w hSw; (try dsimp only at hSw); go_simp; (try with_reducible rfl))
                  try simp only [Act.put, List.setIfInBounds_toArray, List.set_cons_zero, List.set_cons_succ]
                  refine takeH (i := 12) (some 139) (v := ?_) rfl rfl (by kernel_rfl) (by kernel_rfl) (by kernel_rfl) (fun _ _ _ h => h) (Or.inl ⟨by rfl, ?hyC12⟩) hHeld ?restC12
                  case hyC12 => (intro w hSw; (try dsimp only at hSw); go_simp; (try with_reducible rfl))
                  try simp only [Act.put, List.setIfInBounds_toArray, List.set_cons_zero, List.set_cons_succ]
                  refine takeH (i := 13) (some 140) (v := ?_) rfl rfl (by kernel_rfl) (by kernel_rfl) (by kernel_rfl) (fun _ _ _ h => h) (Or.inl ⟨by rfl, ?hyC13⟩) hHeld ?restC13
                  case hyC13 => (intro w hSw; (try dsimp only at hSw); go_simp; (try with_reducible rfl))
                  try simp only [Act.put, List.setIfInBounds_toArray, List.set_cons_zero, List.set_cons_succ]
                  refine takeH (i := 14) (some 141) (v := ?_) rfl rfl (by kernel_rfl) (by kernel_rfl) (by kernel_rfl) (fun _ _ _ h => h) (Or.inl ⟨by rfl, ?hyC14⟩) hHeld ?restC14
                  case hyC14 => (intro w hSw; (try dsimp only at hSw); go_simp; (try with_reducible rfl))
                  try simp only [Act.put, List.setIfInBounds_toArray, List.set_cons_zero, List.set_cons_succ]
                  refine takeH (i := 15) (some 142) (v := ?_) rfl rfl (by kernel_rfl) (by kernel_rfl) (by kernel_rfl) (fun _ _ _ h => h) (Or.inl ⟨by rfl, ?hyC15⟩) hHeld ?restC15
                  case hyC15 => (intro w hSw; (try dsimp only at hSw); go_simp; (try with_reducible rfl))
                  try simp only [Act.put, List.setIfInBounds_toArray, List.set_cons_zero, List.set_cons_succ]
                  refine takeH (i := 16) (some 143) (v := ?_) rfl rfl (by kernel_rfl) (by kernel_rfl) (by kernel_rfl) (fun _ _ _ h => h) (Or.inl ⟨by rfl, ?hyC16⟩) hHeld ?restC16
                  case hyC16 => (intro w hSw; (try dsimp only at hSw); go_simp; (try with_reducible rfl))
                  try simp only [Act.put, List.setIfInBounds_toArray, List.set_cons_zero, List.set_cons_succ]
                  refine takeH (i := 17) (some 144) (v := ?_) rfl rfl (by kernel_rfl) (by kernel_rfl) (by kernel_rfl) (fun _ _ _ h => h) (Or.inl ⟨by rfl, ?hyC17⟩) hHeld ?restC17
                  case hyC17 => (intro w hSw; (try dsimp only at hSw); go_simp; (try with_reducible rfl))
                  try simp only [Act.put, List.setIfInBounds_toArray, List.set_cons_zero, List.set_cons_succ]
                  refine takeH (i := 18) (some 145) (v := ?_) rfl rfl (by kernel_rfl) (by kernel_rfl) (by kernel_rfl) (fun _ _ _ h => h) (Or.inl ⟨by rfl, ?hyC18⟩) hHeld ?restC18
                  case hyC18 => (intro w hSw; (try dsimp only at hSw); go_simp; (try with_reducible rfl))
                  try simp only [Act.put, List.setIfInBounds_toArray, List.set_cons_zero, List.set_cons_succ]
                  refine takeH (i := 19) (some 146) (v := ?_) rfl rfl (by kernel_rfl) (by kernel_rfl) (by kernel_rfl) (fun _ _ _ h => h) (Or.inl ⟨by rfl, ?hyC19⟩) hHeld ?restC19
                  case hyC19 => (intro w hSw; (try dsimp only at hSw); go_simp; (try with_reducible rfl))
                  try simp only [Act.put, List.setIfInBounds_toArray, List.set_cons_zero, List.set_cons_succ]
                  refine takeH (i := 20) (some 147) (v := ?_) rfl rfl (by kernel_rfl) (by kernel_rfl) (by kernel_rfl) (fun _ _ _ h => h) (Or.inl ⟨by rfl, ?hyC20⟩) hHeld ?restC20
                  case hyC20 => (intro w hSw; (try dsimp only at hSw); go_simp; (try with_reducible rfl))
                  try simp only [Act.put, List.setIfInBounds_toArray, List.set_cons_zero, List.set_cons_succ]
                  refine takeH (i := 21) (some 148) (v := ?_) rfl rfl (by kernel_rfl) (by kernel_rfl) (by kernel_rfl) (fun _ _ _ h => h) (Or.inl ⟨by rfl, ?hyC21⟩) hHeld ?restC21
                  case hyC21 => (intro w hSw; (try dsimp only at hSw); go_simp; (try with_reducible rfl))
                  try simp only [Act.put, List.setIfInBounds_toArray, List.set_cons_zero, List.set_cons_succ]
                  refine takeH (i := 22) (some 149) (v := ?_) rfl rfl (by kernel_rfl) (by kernel_rfl) (by kernel_rfl) (fun _ _ _ h => h) (Or.inl ⟨by rfl, ?hyC22⟩) hHeld ?restC22
                  case hyC22 => (intro w hSw; (try dsimp only at hSw); go_simp; (try with_reducible rfl))
                  try simp only [Act.put, List.setIfInBounds_toArray, List.set_cons_zero, List.set_cons_succ]
                  refine wpAnyH_ready (rs := [1]) (by kernel_rfl) (by simp) ?_
                  refine AllReadyH.cons rfl (fun K hK => ?_) AllReadyH.nil
                  go_simp
                  with_reducible refine (T2'.out _).mono ?_; rintro e wt ⟨rfl, rfl⟩
                  refine hK.out _ _ ?_ (fun hHeld => ?_)
                  · exact hHeld
                  clear hK K
                  try simp only [Act.put, List.setIfInBounds_toArray, List.set_cons_zero, List.set_cons_succ]
                  refine wpAnyH_ready (rs := [3]) (by kernel_rfl) (by simp) ?_
                  refine AllReadyH.cons rfl (fun K hK => ?_) AllReadyH.nil
                  go_simp
                  with_reducible refine (T13.out _).mono ?_; rintro e wt ⟨rfl, rfl⟩
                  refine hK.out _ _ ?_ (fun hHeld => ?_)
                  · exact hHeld
                  clear hK K
                  try simp only [Act.put, List.setIfInBounds_toArray, List.set_cons_zero, List.set_cons_succ]
                  refine takeH (i := 4) (some 131) (v := ?_) rfl rfl (by kernel_rfl) (by kernel_rfl) (by kernel_rfl) (fun _ _ _ h => h) (Or.inl ⟨by rfl, ?hyC4⟩) hHeld ?restC4
                  case hyC4 => (intro w hSw; (try dsimp only at hSw); go_simp; (try with_reducible rfl))
                  try simp only [Act.put, List.setIfInBounds_toArray, List.set_cons_zero, List.set_cons_succ]
                  refine wpAnyH_ready (rs := [6]) (by kernel_rfl) (by simp) ?_
                  refine AllReadyH.cons rfl (fun K hK => ?_) AllReadyH.nil
                  go_simp
                  with_reducible refine (T22.out _).mono ?_; rintro e wt ⟨rfl, rfl⟩
                  refine hK.out _ _ ?_ (fun hHeld => ?_)
                  · exact hHeld
                  clear hK K
                  try simp only [Act.put, List.setIfInBounds_toArray, List.set_cons_zero, List.set_cons_succ]
                  refine takeH (i := 7) (some 134) (v := ?_) rfl rfl (by kernel_rfl) (by kernel_rfl) (by kernel_rfl) (fun _ _ _ h => h) (Or.inl ⟨by rfl, ?hyC7⟩) hHeld ?restC7
                  case hyC7 => (intro w hSw; (try dsimp only at hSw); go_simp; (try with_reducible rfl))
                  try simp only [Act.put, List.setIfInBounds_toArray, List.set_cons_zero, List.set_cons_succ]
                  refine takeH (i := 23) (some 150) (v := ?_) rfl rfl (by kernel_rfl) (by kernel_rfl) (by kernel_rfl) (fun _ _ _ h => h) (Or.inl ⟨by rfl, ?hyC23⟩) hHeld ?restC23
                  case hyC23 => (intro w hSw; (try dsimp only at hSw); go_simp; (try with_reducible rfl))
                  try simp only [Act.put, List.setIfInBounds_toArray, List.set_cons_zero, List.set_cons_succ]
                  refine takeH (i := 24) (some 15) (v := ?_) rfl rfl (by kernel_rfl) (by kernel_rfl) (by kernel_rfl) (fun _ _ _ h => h) (Or.inl ⟨by rfl, ?hyC24⟩) hHeld ?restC24
                  case hyC24 => (intro w hSw; (try dsimp only at hSw); go_simp; (try with_reducible rfl))
                  try simp only [Act.put, List.setIfInBounds_toArray, List.set_cons_zero, List.set_cons_succ]
                  refine wpAnyH_done (by kernel_rfl) ?_ _
                  simp only [w_xor, w_add]
                  obtain ⟨UU, hUU⟩ : ∃ UU, ((r2 ^^^ r13) ^^^ r22) + Y = UU := ⟨_, rfl⟩
                  rw [hUU] at HR ⊢
                  clear hUU c1 c2 C0 C1 C2 C3 C4 C5 C6 C7 F0 F1 F2 F3 F4 F5 F6 F7 T2' T13 T22 E2
                  have HV2 := Lib.hid (show StaAt Vb ⟨a, b, c, d, e, f, g, hw⟩ wz.drew.drew from HVs.out.drew.drew)
                  obtain ⟨C0, C1, C2, C3, C4, C5, C6, C7, F0, F1, F2, F3, F4, F5, F6, F7⟩ := HVs.out.drew.drew
                  simp only [] at C0 C1 C2 C3 C4 C5 C6 C7
                  have hbd := Lib.hid (show Below wo.heap.size wo wz.drew.drew from below_drew (below_drew hbx.out))
                  have HWd2 := Lib.hid (show WdsAt wo.heap.size SC wz.drew.drew from HWd.out.drew.drew)
                  clear hbx HWd HVs
                  generalize wz.drew.drew = wd at *
                  go_wp2
                  rw [w_addm, w_addm]
                  have hfin := HV2.out.put ⟨TT + UU, a, b, c, d + TT, e, f, g⟩
                  rw [← HR.out, ← HN.out] at hfin
                  have hWf : WdsAt wo.heap.size SC (putSta wd Vb (roundS ⟨a, b, c, d, e, f, g, hw⟩ x1 x2)) := HWd2.out.grown (gr_put (gr_below (Below.refl _ wd)) _) (fun e => by have := Option.some.inj e; omega)
                  have hBf : Below wo.heap.size wo (putSta wd Vb (roundS ⟨a, b, c, d, e, f, g, hw⟩ x1 x2)) := hbd.out.grown (gr_put (gr_below (Below.refl _ wd)) _) hbd.out.size (fun j hj => by have := Option.some.inj hj; omega)
                  rw [HR.out] at hWf hBf
                  clear C0 C1 C2 C3 C4 C5 C6 C7 F0 F1 F2 F3 F4 F5 F6 F7
                  go_roundw
                  case rel => exact ⟨k + 1, by omega, by go_num, by rw [HN.out, HR.out]; exact HV2.out.put ⟨TT + UU, a, b, c, d + TT, e, f, g⟩, hWf, Lib.hid hBf⟩
                  case measure => simp [intOf]; omega
                · have hlk' : ¬ (k : Int) < 64 := by omega
                  obtain rfl : k = 64 := by omega
                  have hfull : (rootsL.zip SC).take 64 = rootsL.zip SC := List.take_of_length_le (by rw [List.length_zip, hlen]; show min 64 64 ≤ 64; omega)
                  rw [hfull] at hVs
                  obtain ⟨fin, hfin⟩ : ∃ fin, roundsS st (rootsL.zip SC) = fin := ⟨_, rfl⟩
                  rw [hfin] at hVs HBK
                  have hS5 := HSt.out.on hbx.out
                  have hB5 := Lib.hid (btr hbk.out hbx.out)
                  have hVS : Vb ≠ Sb := by omega
                  have hSw : w.heap.size ≤ Sb := hSb
                  have hVw : w.heap.size ≤ Vb := by omega
                  clear hfull hfin hTc hWd
                  go_wp2
                  go_loopw [16] (fun i wx => ∃ k : Nat, k ≤ 8 ∧ i = .int .i64 (k : Int) ∧ StaAt Sb (joinK st fin k) wx ∧ StaAt Vb fin wx ∧ Hid (Below w.heap.size w wx)) (fun i _ => 8 - (intOf i).toNat)
                  case atStart => exact ⟨0, by omega, rfl, hS5, hVs, hB5⟩
                  case round =>
                    clear hS5 hVs hB5
                    obtain ⟨k, hk, rfl, hSj, hVs, hB5⟩ := hrel
                    obtain ⟨wq, hwq⟩ : ∃ wq, wq = wr := ⟨_, rfl⟩
                    subst hwq
                    by_cases hlk : k < 8
                    · have hlk' : (k : Int) < 8 := by omega
                      have hvk' := hVs.cell hlk
                      have hck := hSj.cell hlk
                      have hfk := hSj.frozen hlk
                      have hS6 := hSj.set hlk ((joinK st fin k).get k + fin.get k)
                      rw [show (joinK st fin k).upd k ((joinK st fin k).get k + fin.get k) = joinK st fin (k + 1) from rfl] at hS6
                      have hB6 := Lib.hid (show Below w.heap.size w (wq.setCell ⟨Sb, k, none⟩ (.int .u32 (((joinK st fin k).get k + fin.get k).toNat : Int))) from below_set2 hB5.out hSw)
                      have hV6 : StaAt Vb fin (wq.setCell ⟨Sb, k, none⟩ (.int .u32 (((joinK st fin k).get k + fin.get k).toNat : Int))) := hVs.block (Below.heap_setCell wq ⟨Sb, k, none⟩ _ Vb hVS)
                      obtain ⟨x, hx⟩ : ∃ x, (joinK st fin k).get k = x := ⟨_, rfl⟩
                      obtain ⟨y, hy⟩ : ∃ y, fin.get k = y := ⟨_, rfl⟩
                      rw [hx] at hck
                      rw [hy] at hvk'
                      rw [hx, hy] at hS6 hB6 hV6
                      have HS6 := Lib.hid hS6.drew
                      have HV6 := Lib.hid hV6.drew
                      have HB6 := Lib.hid (below_drew hB6.out)
                      clear hx hy hS6 hV6 hB6 hSj hVs hB5
                      go_wp2_with fail
                      have hvk : wq.drew.cell? ⟨Vb, k, none⟩ = some (.int .u32 (y.toNat : Int)) := hvk'
                      refine wp_region_held_drew (S := (fun w' => w'.cell? ⟨Vb, k, none⟩ = some (.int .u32 (y.toNat : Int)))) (by kernel_rfl) ?_ (fun hHeld => ?_)
                      · exact hvk
                      refine takeH (i := 0) (some 173) (v := ?_) rfl rfl (by kernel_rfl) (by kernel_rfl) (by kernel_rfl) (fun _ _ _ h => h) (Or.inl ⟨by rfl, ?hyD0⟩) hHeld ?restD0
                      case hyD0 => (intro w hSw; (try dsimp only at hSw); go_simp; (try with_reducible rfl))
                      try simp only [Act.put, List.setIfInBounds_toArray, List.set_cons_zero, List.set_cons_succ]
                      refine takeH (i := 1) (some 174) (v := ?_) rfl rfl (by kernel_rfl) (by kernel_rfl) (by kernel_rfl) (fun _ _ _ h => h) (Or.inl ⟨by rfl, ?hyD1⟩) hHeld ?restD1
                      case hyD1 => (intro w hSw; (try dsimp only at hSw); go_simp; (try with_reducible rfl))
                      try simp only [Act.put, List.setIfInBounds_toArray, List.set_cons_zero, List.set_cons_succ]
                      refine takeH (i := 2) (some 175) (v := ?_) rfl rfl (by kernel_rfl) (by kernel_rfl) (by kernel_rfl) (fun _ _ _ h => h) (Or.inl ⟨by rfl, ?hyD2⟩) hHeld ?restD2
                      case hyD2 => (intro w hSw; (try dsimp only at hSw); go_simp; (try with_reducible rfl))
                      try simp only [Act.put, List.setIfInBounds_toArray, List.set_cons_zero, List.set_cons_succ]
                      refine takeH (i := 4) (some 177) (v := ?_) rfl rfl (by kernel_rfl) (by kernel_rfl) (by kernel_rfl) (fun _ _ _ h => h) (Or.inl ⟨by rfl, ?hyD4⟩) hHeld ?restD4
                      case hyD4 => (intro w hSw; (try dsimp only at hSw); go_simp; (try with_reducible rfl))
                      try simp only [Act.put, List.setIfInBounds_toArray, List.set_cons_zero, List.set_cons_succ]
                      refine takeH (i := 5) (some 178) (v := ?_) rfl rfl (by kernel_rfl) (by kernel_rfl) (by kernel_rfl) (fun _ _ _ h => h) (Or.inl ⟨by rfl, ?hyD5⟩) hHeld ?restD5
                      case hyD5 => (intro w hSw; (try dsimp only at hSw); go_simp; (try with_reducible rfl))
                      try simp only [Act.put, List.setIfInBounds_toArray, List.set_cons_zero, List.set_cons_succ]
                      refine takeH (i := 6) (some 179) (v := ?_) rfl rfl (by kernel_rfl) (by kernel_rfl) (by kernel_rfl) (fun _ _ _ h => h) (Or.inl ⟨by rfl, ?hyD6⟩) hHeld ?restD6
                      case hyD6 => (intro w hSw; (try dsimp only at hSw); go_simp; (try with_reducible rfl))
                      try simp only [Act.put, List.setIfInBounds_toArray, List.set_cons_zero, List.set_cons_succ]
                      refine wpAnyH_ready (rs := [3]) (by kernel_rfl) (by simp) ?_
                      refine AllReadyH.cons rfl (fun K hK => ?_) AllReadyH.nil
                      go_simp
                      refine hK.out _ _ ?_ (fun hHeld => ?_)
                      · exact hHeld
                      clear hK K
                      try simp only [Act.put, List.setIfInBounds_toArray, List.set_cons_zero, List.set_cons_succ]
                      refine takeH (i := 7) (some 180) (v := ?_) rfl rfl (by kernel_rfl) (by kernel_rfl) (by kernel_rfl) (fun _ _ _ h => h) (Or.inl ⟨by rfl, ?hyD7⟩) hHeld ?restD7
                      case hyD7 => (intro w hSw; (try dsimp only at hSw); go_simp; (try with_reducible rfl))
                      try simp only [Act.put, List.setIfInBounds_toArray, List.set_cons_zero, List.set_cons_succ]
                      refine takeH (i := 8) (some 181) (v := ?_) rfl rfl (by kernel_rfl) (by kernel_rfl) (by kernel_rfl) (fun _ _ _ h => h) (Or.inl ⟨by rfl, ?hyD8⟩) hHeld ?restD8
                      case hyD8 => (intro w hSw; (try dsimp only at hSw); go_simp; (try with_reducible rfl))
                      try simp only [Act.put, List.setIfInBounds_toArray, List.set_cons_zero, List.set_cons_succ]
                      refine wpAnyH_ready (rs := [9]) (by kernel_rfl) (by simp) ?_
                      refine AllReadyH.cons rfl (fun K hK => ?_) AllReadyH.nil
                      go_simp
                      refine hK.out _ _ ?_ (fun hHeld => ?_)
                      · exact (set_other _ _ hVS).trans hHeld
                      clear hK K
                      try simp only [Act.put, List.setIfInBounds_toArray, List.set_cons_zero, List.set_cons_succ]
                      refine wpAnyH_done (by kernel_rfl) ?_ _
                      rw [w_add]
                      go_wp2
                      go_roundw
                      case rel => exact ⟨k + 1, by omega, by go_num, HS6.out, HV6.out, HB6⟩
                      case measure => simp [intOf]; omega
                    · have hlk' : ¬ (k : Int) < 8 := by omega
                      obtain rfl : k = 8 := by omega
                      have hS7 : StaAt Sb (mixS beg (m + 1) (bL P)) wq := by rw [HMX.out, HBK.out]; exact hSj
                      have hq64 : IntKind.i64.wrap ((q : Int) + 64) = (q : Int) + 64 := IntWalk.i64_in _ (by have := HM4.out; omega)
                      have Hm := Lib.hid (show m + 1 ≤ M ∧ q + 64 = 64 * (m + 1) by have := Hq.out; have := HM4.out; have := HMz.out; omega)
                      clear hSj hVs
                      go_wp2
                      clear hq64
                      go_roundw
                      case rel => exact ⟨m + 1, q + 64, Hm.out.2, Hm.out.1, by go_num, hS7, hB5⟩
                      case measure => have := HM4.out; simp [intOf]; omega
    · have hlt' : ¬ (q : Int) < (P.size : Int) := by have := HMz.out; omega
      obtain rfl : m = M := by omega
      obtain ⟨fin, hfin⟩ : ∃ fin, mixS beg m (bL P) = fin := ⟨_, rfl⟩
      rw [hfin] at hSt HS
      clear hfin
      go_wp2
      go_loopw [17, 18] (fun o i wx => ∃ k : Nat, k ≤ 8 ∧ i = .int .i64 (k : Int) ∧ (∃ O : ByteArray, o = .string O ∧ Hid (O = ofL (textK fin k))) ∧ StaAt Sb fin wx ∧ Hid (Below w.heap.size w wx)) (fun _ i _ => 8 - (intOf i).toNat)
      case atStart => exact ⟨0, by omega, rfl, ⟨_, rfl, Lib.hid rfl⟩, hSt, hbk⟩
      case round =>
        clear hSt hbk
        obtain ⟨k, hk, rfl, ⟨O, rfl, hO⟩, hSt, hbk⟩ := hrel
        obtain ⟨wx, hwx⟩ : ∃ wx, wx = wr := ⟨_, rfl⟩
        subst hwx
        by_cases hlk : k < 8
        · have hlk' : (k : Int) < 8 := by omega
          have hck := hSt.cell hlk
          have HSt := Lib.hid hSt
          have hOz : O.size = 4 * k := by rw [hO.out, ofL_size, textK_length]
          have HO2 := Lib.hid (show O ++ ofL (wordBs (fin.get k)) = ofL (textK fin (k + 1)) by rw [hO.out, ← ofL_append]; rfl)
          have HCV := fun W => conv_four (fin.get k) W
          have z1 : (ofL (wordBs (fin.get k))).size = 4 := ofL_size _
          obtain ⟨A1, hA1⟩ : ∃ A, ofL (wordBs (fin.get k)) = A := ⟨_, rfl⟩
          rw [hA1] at HO2 HCV z1
          obtain ⟨x, hx⟩ : ∃ x, fin.get k = x := ⟨_, rfl⟩
          rw [hx] at HCV hck
          have n1 : ¬ 9223372036854775807 < O.size + A1.size := by omega
          clear hA1 hx hOz z1 hSt
          go_wp2
          have hS8 := Lib.hid (HSt.out.on (below_alloc wx (.cells #[.int .u8 ((x.toNat : Int) / 16777216), .int .u8 ((x.toNat : Int) / 65536 % 256), .int .u8 ((x.toNat : Int) / 256 % 256), .int .u8 ((x.toNat : Int) % 256)] 5)))
          have hB8 := Lib.hid (bal hbk.out (.cells #[.int .u8 ((x.toNat : Int) / 16777216), .int .u8 ((x.toNat : Int) / 65536 % 256), .int .u8 ((x.toNat : Int) / 256 % 256), .int .u8 ((x.toNat : Int) % 256)] 5))
          go_roundw
          case rel => exact ⟨k + 1, by omega, by go_num, ⟨_, rfl, HO2⟩, hS8.out, hB8⟩
          case measure => simp [intOf]; omega
        · have hlk' : ¬ (k : Int) < 8 := by omega
          obtain rfl : k = 8 := by omega
          have hO' := hO.out
          rw [textK_all, ← HS.out] at hO'
          clear hSt
          go_wp2
          go_ret
          refine ⟨?_, hbk.out⟩
          first | rfl | (rw [hO']; rfl)
end Go.Proofs.YtjlpkndbnaknaaaGreatDoor
