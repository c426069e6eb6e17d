/- Same. -/
import Derived.Test.YtjlpkndbnaknaaaGreatDoorBo
import Derived.Test.YtjlpkndbnaknaaaGreatDoorPs
import Derived.Test.YtjlpkndbnaknaaaGreatDoorHr
import Derived.Laws.BitsAllLaws
namespace Go.Proofs.YtjlpkndbnaknaaaGreatDoor
open Go.RowKit Go.Shelf
attribute [local go_sem] Oper.semAt_some

theorem i64_or_nat (x y : Nat) (hx : x < 2 ^ 32) (hy : y < 2 ^ 32) : bits .or .i64 (x : Int) (y : Int) = ((x ||| y : Nat) : Int) := by
  have e2 : bits .or .i64 (x : Int) (y : Int) = IntKind.i64.wrap (((BitVec.ofInt 64 (x : Int) ||| BitVec.ofInt 64 (y : Int)).toNat : Nat) : Int) := rfl
  have h := Nat.or_lt_two_pow hx hy
  rw [e2]
  simp only [BitVec.ofInt_natCast, BitVec.toNat_or, BitVec.toNat_ofNat]
  rw [Nat.mod_eq_of_lt (show x < 2 ^ 64 by omega), Nat.mod_eq_of_lt (show y < 2 ^ 64 by omega)]
  exact IntWalk.i64_in _ (by omega)
theorem i64_xor_nat (x y : Nat) (hx : x < 2 ^ 32) (hy : y < 2 ^ 32) : bits .xor .i64 (x : Int) (y : Int) = ((x ^^^ y : Nat) : Int) := by
  have e2 : bits .xor .i64 (x : Int) (y : Int) = IntKind.i64.wrap (((BitVec.ofInt 64 (x : Int) ^^^ BitVec.ofInt 64 (y : Int)).toNat : Nat) : Int) := rfl
  have h := Nat.xor_lt_two_pow hx hy
  rw [e2]
  simp only [BitVec.ofInt_natCast, BitVec.toNat_xor, BitVec.toNat_ofNat]
  rw [Nat.mod_eq_of_lt (show x < 2 ^ 64 by omega), Nat.mod_eq_of_lt (show y < 2 ^ 64 by omega)]
  exact IntWalk.i64_in _ (by omega)
/-- What holds between two rounds. -/
structure SmI (a b : ByteArray) (w : World) (pre : List Byt) (Pv : Nat → Prop) (W : World) : Prop where
  c0 : W.cell? ⟨w.heap.size, 0, none⟩ = some (.string b)
  c1 : W.cell? ⟨w.heap.size + 1, 0, none⟩ = some (.int .i64 (xorsN (bL a) (bL b) pre.length : Int))
  f1 : W.frozen? ⟨w.heap.size + 1, 0, none⟩ = false
  le : pre.length ≤ b.size
  below : Below w.heap.size w W
  pv : ∀ i, Pv i → w.heap.size + 1 < i
theorem SmI.steady (a b : ByteArray) (w : World) : Steady (SmI a b w) := by
  rintro s Pv Pv' X Y ⟨h1, h2, h3, h4, h5, h6⟩ hg hm
  have n0 : ¬ Pv w.heap.size := fun h => by have := h6 _ h; omega
  have n1 : ¬ Pv (w.heap.size + 1) := fun h => by have := h6 _ h; omega
  have z := blt h2
  refine ⟨hg.cell h1 n0, hg.cell h2 n1, (hg.frozen h2 n1).trans h3, h4, hg.below h5 (fun i h => by have := h6 i h; omega), fun i hi => ?_⟩
  rcases hm i hi with h | ⟨h, _⟩
  · exact h6 i h
  · omega
/-- How the range is left. -/
structure SmX (a b : ByteArray) (w : World) (c : Code) (pre : List Byt) (Pv : Nat → Prop) (W : World) : Prop where
  isx : c = .exit 0
  c1 : W.cell? ⟨w.heap.size + 1, 0, none⟩ = some (.int .i64 (xorsN (bL a) (bL b) b.size : Int))
  le : b.size < a.size
  below : Below w.heap.size w W
  pv : ∀ i, Pv i → w.heap.size + 1 < i
theorem byt_of (s : ByteArray) (pre : List Byt) (x : Byt) (h : pre ++ [x] <+: bytsB s) : pre.length < s.size ∧ x = bytAt s pre.length := by
  obtain ⟨r, hr⟩ := h
  have hl : (pre ++ [x] ++ r).length = s.size := by rw [hr, bytsB_length]
  simp at hl
  have hlt : pre.length < s.size := by omega
  refine ⟨hlt, ?_⟩
  have h1 : (pre ++ [x] ++ r)[pre.length]? = some x := by simp
  rw [hr, bytsB, List.getElem?_map, List.getElem?_range hlt] at h1
  exact (Option.some.inj h1).symm
set_option maxRecDepth 100000 in
set_option maxHeartbeats 8000000 in
theorem Same_c (a b : ByteArray) (ha : a.size ≤ 100000) (hb : b.size ≤ 100000) (w : World) : Calls Tryz.prog 11 #[.string a, .string b] w fun r w' => r = .returned (.bool (decide (bL a = bL b))) ∧ Below w.heap.size w w' := by
  refine (callsIn_wide (n := 8)).1 ?_
  have HBl := Lib.hid (fun W => bytesOf_c a W)
  have hx0 := i64_xor_nat a.size b.size (by omega) (by omega)
  refine callsIn_of_wp_marks Tryz.func11 rfl trivial ?_ rfl
  simp only [Tryz.ntmps11, List.size_toArray, List.length_cons, List.length_nil, Nat.reduceAdd, Nat.reduceSub, Array.replicate_succ, Array.replicate_zero, List.push_toArray, List.append_toArray, List.nil_append, List.cons_append]
  gi_wp2_with fail
  refine wpIn_scope_straight ?_
  gi_wp2_with fail
  refine wpIn_label ?_
  gi_wp2_with fail
  refine ⟨trivial, (callsIn_wide.2 (HBl.out _)).mono ?_⟩
  rintro e w' ⟨rfl, rfl⟩
  clear HBl
  have hI : SmI a b w [] (fun i => i = w.heap.size + 2) (((w.alloc (.cells #[.string b] 9)).alloc (.cells #[.int .i64 ((a.size ^^^ b.size : Nat) : Int)] 3)).alloc (.cells #[.string a] 9)) :=
    ⟨by go_simp, by rw [show xorsN (bL a) (bL b) ([] : List Byt).length = a.size ^^^ b.size by rw [List.length_nil, xorsN, bL_length, bL_length]]; go_simp, by go_simp, Nat.zero_le _, bal (bal (below_alloc w _) _) _, fun i h => by omega⟩
  have hst : (((w.alloc (.cells #[.string b] 9)).alloc (.cells #[.int .i64 ((a.size ^^^ b.size : Nat) : Int)] 3)).alloc (.cells #[.string a] 9)).cell? ⟨w.heap.size + 2, 0, none⟩ = some (.string a) := by
    have := (Boxed.new ((w.alloc (.cells #[.string b] 9)).alloc (.cells #[.int .i64 ((a.size ^^^ b.size : Nat) : Int)] 3)) 9 (.string a)).cell
    rw [World.size_alloc, World.size_alloc] at this
    exact this
  have hsb : ((w.alloc (.cells #[.string b] 9)).alloc (.cells #[.int .i64 ((a.size ^^^ b.size : Nat) : Int)] 3)).heap.size = w.heap.size + 2 := by simp
  simp only [hsb]
  generalize (((w.alloc (.cells #[.string b] 9)).alloc (.cells #[.int .i64 ((a.size ^^^ b.size : Nat) : Int)] 3)).alloc (.cells #[.string a] 9)) = V at *
  have HBI := Lib.hid (bytes_it 7 (by omega) a ha (w.heap.size + 2) V hst)
  clear hsb hx0
  gi_wp2_with fail
  refine wpIn_range_iters (n := 8) (encs := encY) (ps := #[15, 16]) rfl (by omega) (gf := 45) (lb := #[.pointer (some ⟨w.heap.size + 2, 0, none⟩)]) rfl trivial (enters_of Tryz.func45 (by kernel_rfl) rfl)
    HBI.out (Below.refl _ _) (fun _ => rfl) (fun i h => by rw [h]; exact blt hst) (SmI a b w) (SmX a b w) (SmI.steady a b w) ?steadyx hI ?round ?done ?stop
  case steadyx =>
    rintro c s Pv Pv' X Y ⟨h1, h2, h4, h5, h6⟩ hg hm
    have n1 : ¬ Pv (w.heap.size + 1) := fun h => by have := h6 _ h; omega
    have z := blt h2
    refine ⟨h1, hg.cell h2 n1, h4, hg.below h5 (fun i h => by have := h6 i h; omega), fun i hi => ?_⟩
    rcases hm i hi with h | ⟨h, _⟩
    · exact h6 i h
    · omega
  case round =>
    clear HBI hI
    rintro l pre x Pv W hc hI2 hPl hl ⟨rec, hrec⟩
    obtain ⟨hlt, rfl⟩ := byt_of a pre x hc
    have hxb := bytAt_b a pre.length hlt
    simp only [encY, hxb, show (bytAt a pre.length).i = pre.length from rfl]
    gi_wp2
    refine ⟨Mid.refl Pv W, fun W2 hG hr2 => ?_⟩
    have hI3 := SmI.steady a b w pre Pv Pv W W2 hI2 (hG.mono (fun i h => h ▸ hPl)) (More.same _ _ _)
    clear hI2 hG hr2 hrec
    obtain ⟨q0, q1, f1, hle, hbw, hpv⟩ := hI3
    by_cases heq : pre.length = b.size
    · have heq' : (pre.length : Int) = (b.size : Int) := by omega
      have HX := Lib.hid (show SmX a b w (.exit 0) (pre ++ [bytAt a pre.length]) Pv W2 from ⟨rfl, by rw [← heq]; exact q1, by omega, hbw, hpv⟩)
      clear hc
      gi_wp2
      exact ⟨HX.out, Mid.refl _ _⟩
    · have hne : ¬ (pre.length : Int) = (b.size : Int) := by omega
      have hltb : pre.length < b.size := by omega
      have hltb' : (pre.length : Int) < (b.size : Int) := by omega
      obtain ⟨k, hk⟩ : ∃ k, pre.length = k := ⟨_, rfl⟩
      have hxx : ((a[pre.length]'hlt).toNat ^^^ (b[pre.length]'hltb).toNat) = ((bL a).getD pre.length 0 ^^^ (bL b).getD pre.length 0) := by
        rw [List.getD_eq_getElem?_getD, List.getD_eq_getElem?_getD, bL_get a _ hlt, bL_get b _ hltb]; rfl
      have HXN := Lib.hid (show xorsN (bL a) (bL b) (pre ++ [bytAt a pre.length]).length = xorsN (bL a) (bL b) pre.length ||| ((a[pre.length]'hlt).toNat ^^^ (b[pre.length]'hltb).toNat) by rw [List.length_append, hxx]; rfl)
      have hd32 := xorsN_lt (bL a) (bL b) (bL_lt a) (bL_lt b) (by rw [bL_length]; omega) (by rw [bL_length]; omega) pre.length
      have ux := u8_xor_nat (a[pre.length]'hlt).toNat (b[pre.length]'hltb).toNat (UInt8.toNat_lt _) (UInt8.toNat_lt _)
      have hxl : (a[pre.length]'hlt).toNat ^^^ (b[pre.length]'hltb).toNat < 2 ^ 8 := Nat.xor_lt_two_pow (UInt8.toNat_lt _) (UInt8.toNat_lt _)
      have hbr : (b[pre.length]'hltb).toNat = (b[pre.length]'hltb).toNat := rfl
      obtain ⟨r, hr⟩ : ∃ r, (b[pre.length]'hltb).toNat = r := ⟨_, rfl⟩
      obtain ⟨p, hp⟩ : ∃ p, (a[pre.length]'hlt).toNat = p := ⟨_, rfl⟩
      rw [hp, hr] at HXN ux hxl
      rw [hp]
      obtain ⟨D0, hD0⟩ : ∃ D0, xorsN (bL a) (bL b) pre.length = D0 := ⟨_, rfl⟩
      rw [hD0] at HXN q1 hd32
      obtain ⟨m, hm⟩ : ∃ m, p ^^^ r = m := ⟨_, rfl⟩
      rw [hm] at HXN ux hxl
      have uo := i64_or_nat D0 m hd32 (by omega)
      have e3 : IntKind.i64.wrap (m : Int) = (m : Int) := IntWalk.i64_in _ (by omega)
      obtain ⟨D1, hD1⟩ : ∃ D1, D0 ||| m = D1 := ⟨_, rfl⟩
      rw [hD1] at HXN uo
      have hB1 : Below w.heap.size w (W2.setCell ⟨w.heap.size + 1, 0, none⟩ (.int .i64 (D1 : Int))) := hbw.setCell (show w.heap.size ≤ w.heap.size + 1 by omega) _
      have HS := Lib.hid (show SmI a b w (pre ++ [bytAt a pre.length]) Pv (W2.setCell ⟨w.heap.size + 1, 0, none⟩ (.int .i64 (D1 : Int))) from
        ⟨(set_other W2 _ (by omega)).trans q0, by rw [HXN.out]; go_simp, by go_simp, by rw [List.length_append]; show pre.length + 1 ≤ b.size; omega, hB1, hpv⟩)
      have HM := Lib.hid (show Mid Pv W2 (W2.setCell ⟨w.heap.size + 1, 0, none⟩ (.int .i64 (D1 : Int))) from (Mid.refl Pv W2).setCell _ (fun h => by have := hpv _ h; omega))
      have hl2 : pre.length < b.size := hltb
      clear hxx hxb hc hbr hk hp hD0 hm hD1 hB1 heq
      gi_wp2_with fail
      have q0' : W2.drew.cell? ⟨w.heap.size, 0, none⟩ = some (.string b) := q0
      refine wpIn_region_held_drew (S := (fun w' => w'.cell? ⟨w.heap.size, 0, none⟩ = some (.string b))) (by kernel_rfl) (by kernel_rfl) (by rintro ⟨_, _, h⟩; exact h) q0' (fun hHeld => ?_)
      refine takeH (i := 1) (some 22) (v := ?_) rfl rfl (by kernel_rfl) (by kernel_rfl) (by kernel_rfl) (fun _ _ _ h => h) (Or.inl ⟨by rfl, ?hyS1⟩) hHeld ?restS1
      case hyS1 => (intro w hSw; (try dsimp only at hSw); go_simp; (try with_reducible rfl))
      try simp only [Act.put, List.setIfInBounds_toArray, List.set_cons_zero, List.set_cons_succ]
      refine takeH (i := 2) (some 23) (v := ?_) rfl rfl (by kernel_rfl) (by kernel_rfl) (by kernel_rfl) (fun _ _ _ h => h) (Or.inl ⟨by rfl, ?hyS2⟩) hHeld ?restS2
      case hyS2 => (intro w hSw; (try dsimp only at hSw); go_simp; (try with_reducible rfl))
      try simp only [Act.put, List.setIfInBounds_toArray, List.set_cons_zero, List.set_cons_succ]
      refine takeH (i := 3) (some 24) (v := ?_) rfl rfl (by kernel_rfl) (by kernel_rfl) (by kernel_rfl) (fun _ _ _ h => h) (Or.inl ⟨by rfl, ?hyS3⟩) hHeld ?restS3
      case hyS3 => (intro w hSw; (try dsimp only at hSw); go_simp; (try with_reducible rfl))
      try simp only [Act.put, List.setIfInBounds_toArray, List.set_cons_zero, List.set_cons_succ]
      refine takeH (i := 4) (some 25) (v := ?_) rfl rfl (by kernel_rfl) (by kernel_rfl) (by kernel_rfl) (fun _ _ _ h => h) (Or.inl ⟨by rfl, ?hyS4⟩) hHeld ?restS4
      case hyS4 => (intro w hSw; (try dsimp only at hSw); go_simp; (try with_reducible rfl))
      try simp only [Act.put, List.setIfInBounds_toArray, List.set_cons_zero, List.set_cons_succ]
      refine takeH (i := 5) (some 26) (v := ?_) rfl rfl (by kernel_rfl) (by kernel_rfl) (by kernel_rfl) (fun _ _ _ h => h) (Or.inl ⟨by rfl, ?hyS5⟩) hHeld ?restS5
      case hyS5 => (intro w hSw; (try dsimp only at hSw); go_simp; (try with_reducible rfl))
      try simp only [Act.put, List.setIfInBounds_toArray, List.set_cons_zero, List.set_cons_succ]
      refine takeH (i := 6) (some 27) (v := ?_) rfl rfl (by kernel_rfl) (by kernel_rfl) (by kernel_rfl) (fun _ _ _ h => h) (Or.inl ⟨by rfl, ?hyS6⟩) hHeld ?restS6
      case hyS6 => (intro w hSw; (try dsimp only at hSw); go_simp; (try with_reducible rfl))
      try simp only [Act.put, List.setIfInBounds_toArray, List.set_cons_zero, List.set_cons_succ]
      refine wpAnyH_ready (rs := [0]) (by kernel_rfl) (by simp) ?_
      refine AllReadyH.cons rfl (fun K hK => ?_) AllReadyH.nil
      go_simp
      refine hK.out _ _ ?_ (fun hHeld => ?_)
      · exact hHeld
      clear hK K
      try simp only [Act.put, List.setIfInBounds_toArray, List.set_cons_zero, List.set_cons_succ]
      refine takeH (i := 7) (some 28) (v := ?_) rfl rfl (by kernel_rfl) (by kernel_rfl) (by kernel_rfl) (fun _ _ _ h => h) (Or.inl ⟨by rfl, ?hyS7⟩) hHeld ?restS7
      case hyS7 => (intro w hSw; (try dsimp only at hSw); go_simp; (try with_reducible rfl))
      try simp only [Act.put, List.setIfInBounds_toArray, List.set_cons_zero, List.set_cons_succ]
      refine wpAnyH_ready (rs := [8]) (by kernel_rfl) (by simp) ?_
      refine AllReadyH.cons rfl (fun K hK => ?_) AllReadyH.nil
      go_simp
      refine hK.out _ _ ?_ (fun hHeld => ?_)
      · exact (set_other _ _ (by omega)).trans q0'
      clear hK K
      try simp only [Act.put, List.setIfInBounds_toArray, List.set_cons_zero, List.set_cons_succ]
      refine wpAnyH_done (by kernel_rfl) ?_ _
      gi_wp2
      first | exact ⟨HS.out, HM.out⟩ | exact ⟨SmI.steady a b w _ Pv Pv _ _ HS.out (Goes.of_below (below_drew (Below.refl _ _))) (More.same _ _ _), HM.out.trans (Mid.of_below (below_drew (Below.refl _ _)))⟩
  case done =>
    rintro D xs Pv W hlD hpD rfl ⟨q0, q1, f1, hle, hbw, hpv⟩ hdef
    rw [bytsB_length] at q1 hle
    have hX := xorsN_same (bL a) (bL b)
    rw [bL_length, bL_length, Nat.min_eq_left hle] at hX
    generalize xorsN (bL a) (bL b) a.size = X at *
    have hres : decide ((X : Int) = 0) = decide (bL a = bL b) := by
      rw [decide_eq_decide, ← hX]; omega
    have HBW := Lib.hid hbw
    have HD := Lib.hid hdef
    have HRes := Lib.hid hres
    clear hX hres hbw hdef hpv
    gi_wp2
    rw [Exit.noGoto_ret]
    refine ⟨by simp, .inl ⟨_, _, rfl, run_takeDeferred HD.out, ?_⟩⟩
    refine ⟨_, results_tmp rfl _ _ _, ?_, ?_⟩
    · show Ending.returned (.bool _) = _
      rw [← HRes.out]
      rfl
    · exact HBW.out.grown (grownBy_putObj' W D _) HBW.out.size (fun j hj => by cases hj; have := blt hst; omega)
  case stop =>
    rintro D c pre Pv W hlD hpD hSp ⟨rfl, q1, hle, hbw, hpv⟩ hdef
    have hX := xorsN_same (bL a) (bL b)
    rw [bL_length, bL_length, Nat.min_eq_right (by omega)] at hX
    generalize xorsN (bL a) (bL b) b.size = X at *
    have hres : decide ((X : Int) = 0) = decide (bL a = bL b) := by
      rw [decide_eq_decide, ← hX]; omega
    have HBW := Lib.hid hbw
    have HD := Lib.hid hdef
    have HRes := Lib.hid hres
    clear hX hres hbw hdef hpv
    gi_wp2
    rw [Exit.noGoto_ret]
    refine ⟨by simp, .inl ⟨_, _, rfl, run_takeDeferred HD.out, ?_⟩⟩
    refine ⟨_, results_tmp rfl _ _ _, ?_, ?_⟩
    · show Ending.returned (.bool _) = _
      rw [← HRes.out]
      rfl
    · exact HBW.out.grown (grownBy_putObj' W D _) HBW.out.size (fun j hj => by cases hj; have := blt hst; omega)
end Go.Proofs.YtjlpkndbnaknaaaGreatDoor
