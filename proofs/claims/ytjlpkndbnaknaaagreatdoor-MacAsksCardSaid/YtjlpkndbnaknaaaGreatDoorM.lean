/- blocks: the iterator's contract. -/
import Derived.Test.YtjlpkndbnaknaaaGreatDoorI
import Derived.Test.YtjlpkndbnaknaaaGreatDoorIt
import Derived.Test.YtjlpkndbnaknaaaGreatDoorHw
namespace Go.Proofs.YtjlpkndbnaknaaaGreatDoor
open Go.RowKit Go.Shelf
attribute [local go_sem] Oper.semAt_some

structure Blk where
  t : ByteArray
  h : t.size = 64
def encB (x : Blk) : Array Value := #[.string x.t]
/-- The k-th block of a text. -/
def blkAt (p : ByteArray) (k : Nat) : Blk := if h : 64 * k + 64 ≤ p.size then ⟨p.extract (64 * k) (64 * k + 64), by rw [ByteArray.size_extract]; omega⟩ else ⟨ofL (List.replicate 64 0), by rw [ofL_size, List.length_replicate]⟩
def partB (p : ByteArray) : List Blk := (List.range (p.size / 64)).map (blkAt p)
theorem partB_length (p : ByteArray) : (partB p).length = p.size / 64 := by rw [partB, List.length_map, List.length_range]
theorem partB_take (p : ByteArray) (k : Nat) (h : k < p.size / 64) : (partB p).take (k + 1) = (partB p).take k ++ [blkAt p k] := by
  have hl : k < (partB p).length := by rw [partB_length]; exact h
  rw [List.take_add_one, List.getElem?_eq_getElem hl]
  simp [partB]
theorem blkAt_t (p : ByteArray) (k : Nat) (h : k < p.size / 64) : (blkAt p k).t = p.extract (64 * k) (64 * k + 64) := by
  unfold blkAt
  rw [dif_pos (by omega)]
/-- The two parts of a padded text. -/
def pt (s : ByteArray) (k : Nat) : ByteArray := if k = 0 then s.extract 0 (wholeN s.size) else ofL (endL (bL s))
theorem pt_size (s : ByteArray) (k : Nat) : (pt s k).size % 64 = 0 ∧ (pt s k).size ≤ s.size + 128 := by
  unfold pt
  split
  · rw [ByteArray.size_extract]
    have h1 := wholeN_mod s.size
    have h2 := wholeN_le s.size
    omega
  · rw [ofL_size, endL_length]
    split <;> omega
def doneB (s : ByteArray) : Nat → List Blk
  | 0 => []
  | k + 1 => doneB s k ++ partB (pt s k)
def blocksB (s : ByteArray) : List Blk := doneB s 2
theorem done_pre (s : ByteArray) (k : Nat) (hk : k < 2) : doneB s (k + 1) <+: blocksB s := by
  obtain rfl | rfl : k = 0 ∨ k = 1 := by omega
  · exact ⟨partB (pt s 1), rfl⟩
  · exact ⟨[], by rw [List.append_nil]; rfl⟩
theorem next_pre (s : ByteArray) (k m : Nat) (hk : k < 2) (hm : m < (pt s k).size / 64) : doneB s k ++ (partB (pt s k)).take m ++ [blkAt (pt s k) m] <+: blocksB s := by
  rw [List.append_assoc, ← partB_take _ _ hm]
  refine List.IsPrefix.trans ?_ (done_pre s k hk)
  rw [doneB]
  exact (List.prefix_append_right_inj _).2 (List.take_prefix _ _)
set_option maxRecDepth 100000 in
set_option maxHeartbeats 8000000 in
theorem blocks_it (n : Nat) (hn : 2 ≤ n) (s : ByteArray) (hs : s.size ≤ 100000) (sb : Nat) (w : World) (h0 : w.cell? ⟨sb, 0, none⟩ = some (.string s)) :
    Iters Fence.wide n Tryz.prog 61 #[.pointer (some ⟨sb, 0, none⟩)] encB (fun pre x => pre ++ [x] <+: blocksB s) (fun xs => xs = blocksB s) (fun pre => pre <+: blocksB s) (fun _ => False) w := by
  intro l J Jx W Pv hW hcap hJ hJx hY hj
  have H0 := (hW.cell (p := ⟨sb, 0, none⟩) (blt h0)).trans h0
  have HJ := Lib.hid hJ
  have HY := Lib.hid hY
  have HW := Lib.hid (fun W => whole_c s hs W)
  have HE := Lib.hid (fun W => ending_c s hs W)
  have hJ0 := Lib.hid hj
  have hwl : wholeN s.size ≤ s.size := wholeN_le _
  have hp0 : s.extract 0 (wholeN s.size) = pt s 0 := rfl
  have hp1 : ofL (endL (bL s)) = pt s 1 := rfl
  rw [hp1] at HE
  have hz0 := Lib.hid (pt_size s)
  clear hW hcap hJ hJx hY hj h0 hp1
  refine callsIn_of_wp Tryz.func61 rfl trivial ?_ rfl
  simp only [Tryz.ntmps61, List.size_toArray, List.length_cons, List.length_nil, Nat.reduceAdd, Nat.reduceSub, Array.replicate_succ, Array.replicate_zero, List.push_toArray, List.append_toArray, List.nil_append, List.cons_append]
  gi_wp2
  refine wpIn_region_held_drew_wide (S := (fun w' => w'.cell? ⟨sb, 0, none⟩ = some (.string s))) (by kernel_rfl) (by rintro ⟨_, _, ⟨⟨v, hv⟩, _⟩⟩; cases hv) ?_ (fun hHeld => ?_)
  · exact H0
  refine takeH (i := 0) (some 6) (v := ?_) rfl rfl (by kernel_rfl) (by kernel_rfl) (by kernel_rfl) (fun _ _ _ h => h) (Or.inl ⟨by rfl, ?hyM0⟩) hHeld ?restM0
  case hyM0 => (intro w hSw; (try dsimp only at hSw); go_simp; (try with_reducible rfl))
  try simp only [Act.put, List.setIfInBounds_toArray, List.set_cons_zero, List.set_cons_succ]
  refine takeH (i := 1) (some 7) (v := ?_) rfl rfl (by kernel_rfl) (by kernel_rfl) (by kernel_rfl) (fun _ _ _ h => h) (Or.inl ⟨by rfl, ?hyM1⟩) hHeld ?restM1
  case hyM1 => (intro w hSw; (try dsimp only at hSw); go_simp; (try with_reducible rfl))
  try simp only [Act.put, List.setIfInBounds_toArray, List.set_cons_zero, List.set_cons_succ]
  refine takeH (i := 4) (some 10) (v := ?_) rfl rfl (by kernel_rfl) (by kernel_rfl) (by kernel_rfl) (fun _ _ _ h => h) (Or.inl ⟨by rfl, ?hyM4⟩) hHeld ?restM4
  case hyM4 => (intro w hSw; (try dsimp only at hSw); go_simp; (try with_reducible rfl))
  try simp only [Act.put, List.setIfInBounds_toArray, List.set_cons_zero, List.set_cons_succ]
  refine takeH (i := 8) (some 14) (v := ?_) rfl rfl (by kernel_rfl) (by kernel_rfl) (by kernel_rfl) (fun _ _ _ h => h) (Or.inl ⟨by rfl, ?hyM8⟩) hHeld ?restM8
  case hyM8 => (intro w hSw; (try dsimp only at hSw); go_simp; (try with_reducible rfl))
  try simp only [Act.put, List.setIfInBounds_toArray, List.set_cons_zero, List.set_cons_succ]
  refine wpAnyH_ready (rs := [2]) (by kernel_rfl) (by simp) ?_
  refine AllReadyH.cons rfl (fun K hK => ?_) AllReadyH.nil
  go_simp
  with_reducible refine (HW.out _).mono ?_; rintro e w1 ⟨rfl, hb1⟩; have s1 := (hb1.cell (p := ⟨sb, 0, none⟩) (blt hHeld)).trans hHeld; clear hHeld
  refine hK.out _ _ ?_ (fun hHeld => ?_)
  · exact s1
  clear hK K
  try simp only [Act.put, List.setIfInBounds_toArray, List.set_cons_zero, List.set_cons_succ]
  refine takeH (i := 3) (some 9) (v := ?_) rfl rfl (by kernel_rfl) (by kernel_rfl) (by kernel_rfl) (fun _ _ _ h => h) (Or.inl ⟨by rfl, ?hyM3⟩) hHeld ?restM3
  case hyM3 => (intro w hSw; (try dsimp only at hSw); go_simp; (try with_reducible rfl))
  try simp only [Act.put, List.setIfInBounds_toArray, List.set_cons_zero, List.set_cons_succ]
  refine wpAnyH_ready (rs := [5]) (by kernel_rfl) (by simp) ?_
  refine AllReadyH.cons rfl (fun K hK => ?_) AllReadyH.nil
  go_simp
  with_reducible refine (HE.out _).mono ?_; rintro e w2 ⟨rfl, hb2⟩; have s2 := (hb2.cell (p := ⟨sb, 0, none⟩) (blt hHeld)).trans hHeld; clear hHeld
  refine hK.out _ _ ?_ (fun hHeld => ?_)
  · exact s2
  clear hK K
  try simp only [Act.put, List.setIfInBounds_toArray, List.set_cons_zero, List.set_cons_succ]
  refine wpAnyH_ready (rs := [6]) (by kernel_rfl) (by simp) ?_
  refine AllReadyH.cons rfl (fun K hK => ?_) AllReadyH.nil
  go_simp
  refine hK.out _ _ ?_ (fun hHeld => ?_)
  · exact keep_alloc _ s2
  clear hK K
  try simp only [Act.put, List.setIfInBounds_toArray, List.set_cons_zero, List.set_cons_succ]
  refine takeH (i := 7) (some 13) (v := ?_) rfl rfl (by kernel_rfl) (by kernel_rfl) (by kernel_rfl) (fun _ _ _ h => h) (Or.inl ⟨by rfl, ?hyM7⟩) hHeld ?restM7
  case hyM7 => (intro w hSw; (try dsimp only at hSw); go_simp; (try with_reducible rfl))
  try simp only [Act.put, List.setIfInBounds_toArray, List.set_cons_zero, List.set_cons_succ]
  refine wpAnyH_done (by kernel_rfl) ?_ _
  have HB := Lib.hid (bal (btr (btr (below_drew (Below.refl W.heap.size W)) hb1) hb2) (.cells #[.string (pt s 0), .string (pt s 1)] 9))
  have hj2 : J [] (fun i => Pv i ∨ i = w2.heap.size) (w2.alloc (.cells #[.string (pt s 0), .string (pt s 1)] 9)) := by
    refine HJ.out [] Pv _ _ _ hJ0.out (Goes.of_below HB.out) (fun i h => ?_)
    rcases h with h | rfl
    · exact .inl h
    · exact .inr ⟨(btr (btr (below_drew (Below.refl W.heap.size W)) hb1) hb2).size, by simp⟩
  have HJ2 := Lib.hid hj2
  have r0 : (w2.alloc (.cells #[.string (pt s 0), .string (pt s 1)] 9)).cell? ⟨w2.heap.size, 0, none⟩ = some (.string (pt s 0)) := by go_simp
  have r1 : (w2.alloc (.cells #[.string (pt s 0), .string (pt s 1)] 9)).cell? ⟨w2.heap.size, 1, none⟩ = some (.string (pt s 1)) := by go_simp
  have HP := Lib.hid (show (fun i => Pv i ∨ i = w2.heap.size) w2.heap.size from .inr rfl)
  generalize (fun i => Pv i ∨ i = w2.heap.size) = Pw at *
  generalize (w2.alloc (.cells #[.string (pt s 0), .string (pt s 1)] 9)) = V at *
  generalize w2.heap.size = B at *
  clear hj2 hJ0 H0 hb1 hb2 s1 s2 HB HW HE hHeld
  gi_wp2
  gi_loopw [14] (fun i wr => ∃ (k : Nat) (Pv : Nat → Prop), k ≤ 2 ∧ i = .int .i64 (k : Int) ∧ Hid (J (doneB s k) Pv wr) ∧ Hid (Pv B) ∧ wr.cell? ⟨B, 0, none⟩ = some (.string (pt s 0)) ∧ wr.cell? ⟨B, 1, none⟩ = some (.string (pt s 1))) (fun i _ => 2 - (intOf i).toNat)
  case atStart => exact ⟨0, Pw, by omega, rfl, HJ2, HP, r0, r1⟩
  case round =>
    clear HJ2 HP r0 r1
    obtain ⟨k, Pv, hk, rfl, hj, hp, q0, q1⟩ := hrel
    by_cases hlt : k < 2
    · have hlt' : (k : Int) < 2 := by omega
      have hck : wr.cell? ⟨B, k, none⟩ = some (.string (pt s k)) := by
        obtain rfl | rfl : k = 0 ∨ k = 1 := by omega
        · exact q0
        · exact q1
      obtain ⟨hm0, hm1⟩ := hz0.out k
      have HN := Lib.hid (fun m hm => next_pre s k m hlt hm)
      have HD := Lib.hid (show doneB s (k + 1) = doneB s k ++ (partB (pt s k)).take ((pt s k).size / 64) by rw [← partB_length, List.take_length]; rfl)
      have HT := Lib.hid (fun m (hm : m < (pt s k).size / 64) => partB_take (pt s k) m hm)
      have HX := Lib.hid (fun m (hm : m < (pt s k).size / 64) => blkAt_t (pt s k) m hm)
      generalize pt s k = p at *
      gi_wp2
      gi_loopw [5] (fun i wr => ∃ (m : Nat) (Pv : Nat → Prop), m ≤ p.size / 64 ∧ i = .int .i64 ((64 * m : Nat) : Int) ∧ Hid (J (doneB s k ++ (partB p).take m) Pv wr) ∧ Hid (Pv B) ∧ wr.cell? ⟨B, 0, none⟩ = some (.string (pt s 0)) ∧ wr.cell? ⟨B, 1, none⟩ = some (.string (pt s 1))) (fun i _ => p.size + 1 - (intOf i).toNat)
      case atStart => exact ⟨0, Pv, by omega, rfl, Lib.hid (by rw [List.take_zero, List.append_nil]; exact hj.out), hp, q0, q1⟩
      case round =>
        clear hj hp q0 q1 hck
        obtain ⟨m, Pv, hm, rfl, hj, hp, q0, q1⟩ := hrel
        by_cases hlm : m < p.size / 64
        · have hlm' : ((64 * m : Nat) : Int) < (p.size : Int) := by omega
          have hnx := HN.out m hlm
          have hx := HX.out m hlm
          obtain ⟨fn, tmps, assign, body, hy, hR⟩ := HY.out _ _ Pv wr hnx hj.out
          have hy' := hy
          unfold encB at hy'
          rw [hx] at hy'
          clear hy hx hnx
          have hmw : IntKind.i64.wrap (((64 * m : Nat) : Int) + 64) = ((64 * m : Nat) : Int) + 64 := IntWalk.i64_in _ (by omega)
          have HT2 := Lib.hid (HT.out m hlm)
          have HQ0 := Lib.hid q0
          have HQ1 := Lib.hid q1
          have HP := Lib.hid hp.out
          have hlm2 : 64 * (m : Int) < (p.size : Int) := by omega
          clear hj hp
          gi_wp2
          refine ⟨fun _ => (by omega), hR.mono ?_⟩
          clear hy' hR q0 q1
          rintro e V2 (⟨rfl, hJ2, hM⟩ | ⟨rfl, hX2, hM⟩)
          · have q0 := hM.cell HQ0.out HP.out
            have q1 := hM.cell HQ1.out HP.out
            have HJ2 := Lib.hid hJ2
            clear hJ2 hM HQ0 HQ1
            gi_wp2
            go_roundw
            case rel => exact ⟨m + 1, Pv, by omega, by go_num, by rw [HT2.out, ← List.append_assoc]; exact HJ2, HP, q0, q1⟩
            case measure => simp [intOf]; omega
          · have HX2 := Lib.hid hX2
            have HN2 := Lib.hid (HN.out m hlm)
            clear hX2 hM HQ0 HQ1
            gi_wp2
            refine bodyPost_ret (results_none rfl _ _ _) rfl ?_
            exact ⟨⟨_, rfl⟩, .inr ⟨_, _, HN2.out, HX2.out⟩⟩
        · have hlm' : ¬ ((64 * m : Nat) : Int) < (p.size : Int) := by omega
          obtain rfl : m = p.size / 64 := by omega
          gi_wp2
          go_roundw
          case rel => exact ⟨k + 1, Pv, by omega, by go_num, by rw [HD.out]; exact hj, hp, q0, q1⟩
          case measure => simp [intOf]; omega
    · have hlt' : ¬ (k : Int) < 2 := by omega
      obtain rfl : k = 2 := by omega
      gi_wp2
      go_end0
      exact ⟨⟨_, rfl⟩, .inl ⟨_, hj.out⟩⟩
end Go.Proofs.YtjlpkndbnaknaaaGreatDoor
