/- Hex. -/
import Derived.Test.YtjlpkndbnaknaaaGreatDoorJ
namespace Go.Proofs.YtjlpkndbnaknaaaGreatDoor
open Go.RowKit Go.Shelf
attribute [local go_sem] Oper.semAt_some

theorem hexL_lt (s : ByteArray) : ∀ c ∈ hexL (bL s), c < 256 := by
  intro c hc
  obtain ⟨a, ha, hc⟩ := List.mem_flatMap.1 hc
  have h := bL_lt s a ha
  simp only [List.mem_cons, List.not_mem_nil, or_false] at hc
  rcases hc with rfl | rfl <;> (unfold digC; split <;> omega)
theorem hexL_take (s : ByteArray) (k : Nat) (h : k < s.size) : hexL ((bL s).take (k + 1)) = hexL ((bL s).take k) ++ [digC ((s[k]'h).toNat / 16), digC ((s[k]'h).toNat % 16)] := by
  rw [List.take_add_one, bL_get s k h, hexL_append]
  rfl
set_option maxRecDepth 100000 in
theorem digC_cast (n : Nat) (h : n < 16) (W : World) : (Instr.index 9 (.string ⟨#[48, 49, 50, 51, 52, 53, 54, 55, 56, 57, 97, 98, 99, 100, 101, 102]⟩) (.int .u8 (n : Int))).run Tryz.prog W = .ok (.int .u8 ((digC n : Nat) : Int)) W := by
  have h16 : n = 0 ∨ n = 1 ∨ n = 2 ∨ n = 3 ∨ n = 4 ∨ n = 5 ∨ n = 6 ∨ n = 7 ∨ n = 8 ∨ n = 9 ∨ n = 10 ∨ n = 11 ∨ n = 12 ∨ n = 13 ∨ n = 14 ∨ n = 15 := by omega
  obtain rfl | rfl | rfl | rfl | rfl | rfl | rfl | rfl | rfl | rfl | rfl | rfl | rfl | rfl | rfl | rfl := h16 <;> (show _ = _; rfl)
theorem index_digit (n : Nat) (h : n < 16) (W : World) : (Instr.index 9 (.string ⟨#[48, 49, 50, 51, 52, 53, 54, 55, 56, 57, 97, 98, 99, 100, 101, 102]⟩) (.int .u8 (n : Int))).run Tryz.prog W = .ok (.int .u8 ((digC n : Nat) : Int)) W := digC_cast n h W
theorem and15 (v : Nat) (h : v < 256) : bits .and .u8 (v : Int) 15 = ((v % 16 : Nat) : Int) := by
  have : ∀ m : Fin 256, bits .and .u8 (m.val : Int) 15 = ((m.val % 16 : Nat) : Int) := by decide +kernel
  exact this ⟨v, h⟩
theorem ownsRow_on2 {W : World} {base : Nat} {e : TypeId} {size : Nat} {v : Value} {n : Nat} {xs : List Value} (h : W.ownsRow base e size v n xs) (o : Obj) : (W.drew.alloc o).ownsRow base e size v n xs :=
  (h.kept (w' := W.drew) (row := none) ⟨rfl, rfl, rfl, Nat.le_refl _, fun _ _ _ => rfl⟩ (by cases hv : v.ownBlock <;> simp)).alloc o
set_option maxRecDepth 100000 in
set_option maxHeartbeats 8000000 in
theorem Hex_c (s : ByteArray) (hs : s.size ≤ 100000) (w : World) : Calls Tryz.prog 16 #[.string s] w fun r w' => r = .returned (.string (ofL (hexL (bL s)))) ∧ Below w.heap.size w w' := by
  have HM := fun W => make_by 0 (2 * s.size) (by omega) (by omega) W
  rw [show ((0 : Nat) : Int) = 0 from rfl, show ((2 * s.size : Nat) : Int) = 2 * (s.size : Int) by omega] at HM
  obtain ⟨Z, hZ⟩ : ∃ Z, Z = List.replicate (2 * s.size) 0 := ⟨_, rfl⟩
  rw [← hZ] at HM
  have hZl : (byVs Z).toArray.size = (2 * s.size) * 1 := by rw [hZ]; simp [byVs]
  clear hZ
  have hm : IntKind.i64.wrap (2 * (s.size : Int)) = 2 * (s.size : Int) := IntWalk.i64_in _ (by omega)
  obtain ⟨i0, hi, hz0, hz1, hz2⟩ := info_by
  go_enter Tryz.func16, Tryz.ntmps16
  go_wp2
  have hO : (w.alloc (.cells (byVs Z).toArray 5)).ownsRow w.heap.size 5 1 (.slice (some ⟨w.heap.size, 0, none⟩) 0 (2 * s.size)) 0 [] := World.ownsRow_made w _ (2 * s.size) (Nat.le_refl _) (by unfold maxLen; omega) hZl
  have hb2 := below_alloc w (.cells (byVs Z).toArray 5)
  generalize w.alloc (.cells (byVs Z).toArray 5) = w2 at *
  clear HM hZl
  go_loopw [3, 11] (fun u i wr => ∃ k : Nat, k ≤ s.size ∧ i = .int .i64 (k : Int) ∧ wr.ownsRow w.heap.size 5 1 u (2 * k) (byVs (hexL ((bL s).take k))) ∧ (∃ g c, u = .slice (some ⟨g, 0, none⟩) (2 * k) c) ∧ Below w.heap.size w wr) (fun _ i _ => s.size - (intOf i).toNat)
  case atStart => exact ⟨0, by omega, rfl, hO, ⟨_, _, rfl⟩, hb2⟩
  case round =>
    obtain ⟨k, hk, rfl, hOk, ⟨g, c, rfl⟩, hbk⟩ := hrel
    clear hO hb2
    by_cases hlt : k < s.size
    · have hlt' : (k : Int) < (s.size : Int) := by omega
      have HB := Lib.hid hbk
      have HO := Lib.hid hOk
      have HT := Lib.hid (hexL_take s k hlt)
      have hbs := hbk.size
      have hv := (s[k]'hlt).toNat_lt
      obtain ⟨v, hsv⟩ : ∃ v, (s[k]'hlt).toNat = v := ⟨_, rfl⟩
      rw [hsv] at HT hv
      have hd1 := fun W => index_digit (v / 16) (by omega) W
      have hd2 := fun W => index_digit (v % 16) (by omega) W
      have ha := and15 v (by omega)
      rw [show ((v / 16 : Nat) : Int) = (v : Int) / 16 from rfl] at hd1
      clear hbk hOk
      generalize digC (v / 16) = p at *
      generalize digC (v % 16) = q at *
      obtain ⟨m16, hm16⟩ : ∃ m, v % 16 = m := ⟨_, rfl⟩
      rw [hm16] at hd2 ha
      obtain ⟨hk0, hhk0⟩ : ∃ l, hexL ((bL s).take k) = l := ⟨_, rfl⟩
      rw [hhk0] at HO HT
      clear hhk0
      go_wp2_with fail
      refine wp_region_held_drew (S := (fun _ => True)) (by kernel_rfl) ?_ (fun hHeld => ?_)
      · exact trivial
      refine takeH (i := 0) (some 14) (v := ?_) rfl rfl (by kernel_rfl) (by kernel_rfl) (by kernel_rfl) (fun _ _ _ h => h) (Or.inl ⟨by rfl, ?hyH0⟩) hHeld ?restH0
      case hyH0 => (intro w hSw; (try dsimp only at hSw); go_simp; (try with_reducible rfl))
      try simp only [Act.put, List.setIfInBounds_toArray, List.set_cons_zero, List.set_cons_succ]
      refine takeH (i := 1) (some 15) (v := ?_) rfl rfl (by kernel_rfl) (by kernel_rfl) (by kernel_rfl) (fun _ _ _ h => h) (Or.inl ⟨by rfl, ?hyH1⟩) hHeld ?restH1
      case hyH1 => (intro w hSw; (try dsimp only at hSw); go_simp; (try with_reducible rfl))
      try simp only [Act.put, List.setIfInBounds_toArray, List.set_cons_zero, List.set_cons_succ]
      refine takeH (i := 2) (some 16) (v := ?_) rfl rfl (by kernel_rfl) (by kernel_rfl) (by kernel_rfl) (fun _ _ _ h => h) (Or.inl ⟨by rfl, ?hyH2⟩) hHeld ?restH2
      case hyH2 => (intro w hSw; (try dsimp only at hSw); go_simp; (try with_reducible rfl))
      try simp only [Act.put, List.setIfInBounds_toArray, List.set_cons_zero, List.set_cons_succ]
      refine takeH (i := 3) (some 17) (v := ?_) rfl rfl (by kernel_rfl) (by kernel_rfl) (by kernel_rfl) (fun _ _ _ h => h) (Or.inl ⟨by rfl, ?hyH3⟩) hHeld ?restH3
      case hyH3 => (intro w hSw; (try dsimp only at hSw); go_simp; (try with_reducible rfl))
      try simp only [Act.put, List.setIfInBounds_toArray, List.set_cons_zero, List.set_cons_succ]
      refine takeH (i := 4) (some 18) (v := ?_) rfl rfl (by kernel_rfl) (by kernel_rfl) (by kernel_rfl) (fun _ _ _ h => h) (Or.inl ⟨by rfl, ?hyH4⟩) hHeld ?restH4
      case hyH4 => (intro w hSw; (try dsimp only at hSw); go_simp; (try with_reducible rfl))
      try simp only [Act.put, List.setIfInBounds_toArray, List.set_cons_zero, List.set_cons_succ]
      refine takeH (i := 5) (some 19) (v := ?_) rfl rfl (by kernel_rfl) (by kernel_rfl) (by kernel_rfl) (fun _ _ _ h => h) (Or.inl ⟨by rfl, ?hyH5⟩) hHeld ?restH5
      case hyH5 => (intro w hSw; (try dsimp only at hSw); go_simp; (try with_reducible rfl))
      try simp only [Act.put, List.setIfInBounds_toArray, List.set_cons_zero, List.set_cons_succ]
      refine takeH (i := 6) (some 20) (v := ?_) rfl rfl (by kernel_rfl) (by kernel_rfl) (by kernel_rfl) (fun _ _ _ h => h) (Or.inl ⟨by rfl, ?hyH6⟩) hHeld ?restH6
      case hyH6 => (intro w hSw; (try dsimp only at hSw); go_simp; (try with_reducible rfl))
      try simp only [Act.put, List.setIfInBounds_toArray, List.set_cons_zero, List.set_cons_succ]
      refine takeH (i := 7) (some 21) (v := ?_) rfl rfl (by kernel_rfl) (by kernel_rfl) (by kernel_rfl) (fun _ _ _ h => h) (Or.inl ⟨by rfl, ?hyH7⟩) hHeld ?restH7
      case hyH7 => (intro w hSw; (try dsimp only at hSw); go_simp; (try with_reducible rfl))
      try simp only [Act.put, List.setIfInBounds_toArray, List.set_cons_zero, List.set_cons_succ]
      refine takeH (i := 8) (some 22) (v := ?_) rfl rfl (by kernel_rfl) (by kernel_rfl) (by kernel_rfl) (fun _ _ _ h => h) (Or.inl ⟨by rfl, ?hyH8⟩) hHeld ?restH8
      case hyH8 => (intro w hSw; (try dsimp only at hSw); go_simp; (try with_reducible rfl))
      try simp only [Act.put, List.setIfInBounds_toArray, List.set_cons_zero, List.set_cons_succ]
      refine takeH (i := 9) (some 23) (v := ?_) rfl rfl (by kernel_rfl) (by kernel_rfl) (by kernel_rfl) (fun _ _ _ h => h) (Or.inl ⟨by rfl, ?hyH9⟩) hHeld ?restH9
      case hyH9 => (intro w hSw; (try dsimp only at hSw); go_simp; (try with_reducible rfl))
      try simp only [Act.put, List.setIfInBounds_toArray, List.set_cons_zero, List.set_cons_succ]
      refine takeH (i := 10) (some 24) (v := ?_) rfl rfl (by kernel_rfl) (by kernel_rfl) (by kernel_rfl) (fun _ _ _ h => h) (Or.inl ⟨by rfl, ?hyH10⟩) hHeld ?restH10
      case hyH10 => (intro w hSw; (try dsimp only at hSw); go_simp; (try with_reducible rfl))
      try simp only [Act.put, List.setIfInBounds_toArray, List.set_cons_zero, List.set_cons_succ]
      refine wpAnyH_ready (rs := [11]) (by kernel_rfl) (by simp) ?_
      refine AllReadyH.cons rfl (fun K hK => ?_) AllReadyH.nil
      go_simp
      refine hK.out _ _ ?_ (fun hHeld => ?_)
      · exact trivial
      clear hK K
      try simp only [Act.put, List.setIfInBounds_toArray, List.set_cons_zero, List.set_cons_succ]
      refine wpAnyH_ready (rs := [12]) (by kernel_rfl) (by simp) ?_
      refine AllReadyH.cons rfl (fun K hK => ?_) AllReadyH.nil
      refine wp_append_own _ (.tmp 14) (.tmp 25) 53 rfl w.heap.size 5 i0 (.int .u8 0) 1 1 Tryz.underlying53 hi hz0 hz2 hz1 rfl (by decide) _ (2 * k) (byVs hk0) rfl (ownsRow_on2 HO.out _) ⟨wr.heap.size, 0, none⟩ 2 2 [.int .u8 (p : Int), .int .u8 (q : Int)] rfl rfl (World.news_of_block (cs := #[.int .u8 (p : Int), .int .u8 (q : Int)]) (t := 5) (fr := (0, 0)) (heap_alloc_new wr.drew _)) (by simp [Value.oneCell']) (by unfold maxLen; omega) (by omega) (by simp; omega) ?_; intro v' w3 hown' hgrow _; obtain ⟨g', c', rfl⟩ := ownsRow_succ hown'
      refine hK.out _ _ ?_ (fun hHeld => ?_)
      · exact trivial
      clear hK K
      try simp only [Act.put, List.setIfInBounds_toArray]
      refine takeH (i := 13) (some 3) (v := ?_) rfl rfl (by kernel_rfl) (by kernel_rfl) (by kernel_rfl) (fun _ _ _ h => h) (Or.inl ⟨by rfl, ?hyH13⟩) hHeld ?restH13
      case hyH13 => (intro w hSw; (try dsimp only at hSw); go_simp; (try with_reducible rfl))
      try simp only [Act.put]
      refine wpAnyH_done (by kernel_rfl) ?_ _
      rw [show byVs hk0 ++ [.int .u8 (p : Int), .int .u8 (q : Int)] = byVs (hk0 ++ [p, q]) by rw [byVs_append]; rfl, ← HT.out] at hown'
      have hg3 : w.heap.size ≤ g := (HO.out.lt g rfl).1
      have HA := Lib.hid (bal (below_drew (Below.refl wr.heap.size wr)) (.cells #[.int .u8 (p : Int), .int .u8 (q : Int)] 5))
      have HB3 := Lib.hid ((btr HB.out HA.out).grown hgrow (by simp; omega) (fun j hj => by cases hj; exact hg3))
      have HO3 := Lib.hid hown'
      clear hown' hgrow HA
      go_wp2
      go_roundw
      case rel => exact ⟨k + 1, by omega, by go_num, HO3.out, ⟨_, _, rfl⟩, HB3.out⟩
      case measure => simp [intOf]; omega
    · have hlt' : ¬ (k : Int) < (s.size : Int) := by omega
      obtain rfl : k = s.size := by omega
      rw [← bL_length, List.take_length] at hOk
      have hlen : (hexL (bL s)).length = 2 * s.size := by rw [hexL_length, bL_length]
      have hcv := conv_cells (hexL (bL s)) (hexL_lt s) g c wr (fun j n h => by
        have := hOk.cells (g := g) rfl j (.int .u8 (n : Int)) (by simp [byVs, h, byV])
        rwa [add_at] at this)
      rw [hlen] at hcv
      clear hOk
      go_wp2
      go_ret
      exact ⟨rfl, hbk⟩
end Go.Proofs.YtjlpkndbnaknaaaGreatDoor
