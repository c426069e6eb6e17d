/- Sm, Ck2, Lw, Sh, Pf -/
import Derived.Test.YtikpmkidfppknaaGreatDoorZ2
import Derived.Test.YtikpmkidfppknaaGreatDoorZ9
import Derived.Laws.BitsAllLaws
set_option linter.unusedVariables false
set_option linter.unusedSimpArgs false
/- Same. -/
namespace Go.Proofs.YtikpmkidfppknaaGreatDoor
open Go.RowKit Go.Shelf
attribute [local go_sem] Oper.semAt_some

theorem i64_or_nat (x y : Nat) (hx : x < 2 ^ 32) (hy : y < 2 ^ 32) : bits .or .i64 (x : Int) (y : Int) = ((x ||| y : Nat) : Int) := by
  have e2 : bits .or .i64 (x : Int) (y : Int) = IntKind.i64.wrap (((BitVec.ofInt 64 (x : Int) ||| BitVec.ofInt 64 (y : Int)).toNat : Nat) : Int) := rfl
  have h := Nat.or_lt_two_pow hx hy
  rw [e2]
  simp only [BitVec.ofInt_natCast, BitVec.toNat_or, BitVec.toNat_ofNat]
  rw [Nat.mod_eq_of_lt (show x < 2 ^ 64 by omega), Nat.mod_eq_of_lt (show y < 2 ^ 64 by omega)]
  exact IntWalk.i64_in _ (by omega)
theorem i64_xor_nat (x y : Nat) (hx : x < 2 ^ 32) (hy : y < 2 ^ 32) : bits .xor .i64 (x : Int) (y : Int) = ((x ^^^ y : Nat) : Int) := by
  have e2 : bits .xor .i64 (x : Int) (y : Int) = IntKind.i64.wrap (((BitVec.ofInt 64 (x : Int) ^^^ BitVec.ofInt 64 (y : Int)).toNat : Nat) : Int) := rfl
  have h := Nat.xor_lt_two_pow hx hy
  rw [e2]
  simp only [BitVec.ofInt_natCast, BitVec.toNat_xor, BitVec.toNat_ofNat]
  rw [Nat.mod_eq_of_lt (show x < 2 ^ 64 by omega), Nat.mod_eq_of_lt (show y < 2 ^ 64 by omega)]
  exact IntWalk.i64_in _ (by omega)
/-- What holds between two rounds. -/
structure SmI (a b : ByteArray) (w : World) (pre : List Byt) (Pv : Nat → Prop) (W : World) : Prop where
  c0 : W.cell? ⟨w.heap.size, 0, none⟩ = some (.string b)
  c1 : W.cell? ⟨w.heap.size + 1, 0, none⟩ = some (.int .i64 (xorsN (bL a) (bL b) pre.length : Int))
  f1 : W.frozen? ⟨w.heap.size + 1, 0, none⟩ = false
  le : pre.length ≤ b.size
  below : Below w.heap.size w W
  pv : ∀ i, Pv i → w.heap.size + 1 < i
theorem SmI.steady (a b : ByteArray) (w : World) : Steady (SmI a b w) := by
  rintro s Pv Pv' X Y ⟨h1, h2, h3, h4, h5, h6⟩ hg hm
  have n0 : ¬ Pv w.heap.size := fun h => by have := h6 _ h; omega
  have n1 : ¬ Pv (w.heap.size + 1) := fun h => by have := h6 _ h; omega
  have z := blt h2
  refine ⟨hg.cell h1 n0, hg.cell h2 n1, (hg.frozen h2 n1).trans h3, h4, hg.below h5 (fun i h => by have := h6 i h; omega), fun i hi => ?_⟩
  rcases hm i hi with h | ⟨h, _⟩
  · exact h6 i h
  · omega
/-- How the range is left. -/
structure SmX (a b : ByteArray) (w : World) (c : Code) (pre : List Byt) (Pv : Nat → Prop) (W : World) : Prop where
  isx : c = .exit 0
  c1 : W.cell? ⟨w.heap.size + 1, 0, none⟩ = some (.int .i64 (xorsN (bL a) (bL b) b.size : Int))
  le : b.size < a.size
  below : Below w.heap.size w W
  pv : ∀ i, Pv i → w.heap.size + 1 < i
theorem byt_of (s : ByteArray) (pre : List Byt) (x : Byt) (h : pre ++ [x] <+: bytsB s) : pre.length < s.size ∧ x = bytAt s pre.length := by
  obtain ⟨r, hr⟩ := h
  have hl : (pre ++ [x] ++ r).length = s.size := by rw [hr, bytsB_length]
  simp at hl
  have hlt : pre.length < s.size := by omega
  refine ⟨hlt, ?_⟩
  have h1 : (pre ++ [x] ++ r)[pre.length]? = some x := by simp
  rw [hr, bytsB, List.getElem?_map, List.getElem?_range hlt] at h1
  exact (Option.some.inj h1).symm
set_option maxRecDepth 100000 in
set_option maxHeartbeats 8000000 in
theorem Same_c (a b : ByteArray) (ha : a.size ≤ 100000) (hb : b.size ≤ 100000) (w : World) : Calls Tryz.prog 50 #[.string a, .string b] w fun r w' => r = .returned (.bool (decide (bL a = bL b))) ∧ Below w.heap.size w w' := by
  refine (callsIn_wide (n := 8)).1 ?_
  have HBl := Lib.hid (fun W => bytesOf_c a W)
  have hx0 := i64_xor_nat a.size b.size (by omega) (by omega)
  refine callsIn_of_wp_marks Tryz.func50 rfl trivial ?_ rfl
  simp only [Tryz.ntmps50, List.size_toArray, List.length_cons, List.length_nil, Nat.reduceAdd, Nat.reduceSub, Array.replicate_succ, Array.replicate_zero, List.push_toArray, List.append_toArray, List.nil_append, List.cons_append]
  gi_wp2_with fail
  refine wpIn_scope_straight ?_
  gi_wp2_with fail
  refine wpIn_label ?_
  gi_wp2_with fail
  refine ⟨trivial, (callsIn_wide.2 (HBl.out _)).mono ?_⟩
  rintro e w' ⟨rfl, rfl⟩
  clear HBl
  have hI : SmI a b w [] (fun i => i = w.heap.size + 2) (((w.alloc (.cells #[.string b] 9)).alloc (.cells #[.int .i64 ((a.size ^^^ b.size : Nat) : Int)] 3)).alloc (.cells #[.string a] 9)) :=
    ⟨by go_simp, by rw [show xorsN (bL a) (bL b) ([] : List Byt).length = a.size ^^^ b.size by rw [List.length_nil, xorsN, bL_length, bL_length]]; go_simp, by go_simp, Nat.zero_le _, bal (bal (below_alloc w _) _) _, fun i h => by omega⟩
  have hst : (((w.alloc (.cells #[.string b] 9)).alloc (.cells #[.int .i64 ((a.size ^^^ b.size : Nat) : Int)] 3)).alloc (.cells #[.string a] 9)).cell? ⟨w.heap.size + 2, 0, none⟩ = some (.string a) := by
    have := (Boxed.new ((w.alloc (.cells #[.string b] 9)).alloc (.cells #[.int .i64 ((a.size ^^^ b.size : Nat) : Int)] 3)) 9 (.string a)).cell
    rw [World.size_alloc, World.size_alloc] at this
    exact this
  have hsb : ((w.alloc (.cells #[.string b] 9)).alloc (.cells #[.int .i64 ((a.size ^^^ b.size : Nat) : Int)] 3)).heap.size = w.heap.size + 2 := by simp
  simp only [hsb]
  generalize (((w.alloc (.cells #[.string b] 9)).alloc (.cells #[.int .i64 ((a.size ^^^ b.size : Nat) : Int)] 3)).alloc (.cells #[.string a] 9)) = V at *
  have HBI := Lib.hid (bytes_it 7 (by omega) a ha (w.heap.size + 2) V hst)
  clear hsb hx0
  gi_wp2_with fail
  refine wpIn_range_iters (n := 8) (encs := encY) (ps := #[15, 16]) rfl (by omega) (gf := 90) (lb := #[.pointer (some ⟨w.heap.size + 2, 0, none⟩)]) rfl trivial (enters_of Tryz.func90 (by kernel_rfl) rfl)
    HBI.out (Below.refl _ _) (fun _ => rfl) (fun i h => by rw [h]; exact blt hst) (SmI a b w) (SmX a b w) (SmI.steady a b w) ?steadyx hI ?round ?done ?stop
  case steadyx =>
    rintro c s Pv Pv' X Y ⟨h1, h2, h4, h5, h6⟩ hg hm
    have n1 : ¬ Pv (w.heap.size + 1) := fun h => by have := h6 _ h; omega
    have z := blt h2
    refine ⟨h1, hg.cell h2 n1, h4, hg.below h5 (fun i h => by have := h6 i h; omega), fun i hi => ?_⟩
    rcases hm i hi with h | ⟨h, _⟩
    · exact h6 i h
    · omega
  case round =>
    clear HBI hI
    rintro l pre x Pv W hc hI2 hPl hl ⟨rec, hrec⟩
    obtain ⟨hlt, rfl⟩ := byt_of a pre x hc
    have hxb := bytAt_b a pre.length hlt
    simp only [encY, hxb, show (bytAt a pre.length).i = pre.length from rfl]
    gi_wp2
    refine ⟨Mid.refl Pv W, fun W2 hG hr2 => ?_⟩
    have hI3 := SmI.steady a b w pre Pv Pv W W2 hI2 (hG.mono (fun i h => h ▸ hPl)) (More.same _ _ _)
    clear hI2 hG hr2 hrec
    obtain ⟨q0, q1, f1, hle, hbw, hpv⟩ := hI3
    by_cases heq : pre.length = b.size
    · have heq' : (pre.length : Int) = (b.size : Int) := by omega
      have HX := Lib.hid (show SmX a b w (.exit 0) (pre ++ [bytAt a pre.length]) Pv W2 from ⟨rfl, by rw [← heq]; exact q1, by omega, hbw, hpv⟩)
      clear hc
      gi_wp2
      exact ⟨HX.out, Mid.refl _ _⟩
    · have hne : ¬ (pre.length : Int) = (b.size : Int) := by omega
      have hltb : pre.length < b.size := by omega
      have hltb' : (pre.length : Int) < (b.size : Int) := by omega
      obtain ⟨k, hk⟩ : ∃ k, pre.length = k := ⟨_, rfl⟩
      have hxx : ((a[pre.length]'hlt).toNat ^^^ (b[pre.length]'hltb).toNat) = ((bL a).getD pre.length 0 ^^^ (bL b).getD pre.length 0) := by
        rw [List.getD_eq_getElem?_getD, List.getD_eq_getElem?_getD, bL_get a _ hlt, bL_get b _ hltb]; rfl
      have HXN := Lib.hid (show xorsN (bL a) (bL b) (pre ++ [bytAt a pre.length]).length = xorsN (bL a) (bL b) pre.length ||| ((a[pre.length]'hlt).toNat ^^^ (b[pre.length]'hltb).toNat) by rw [List.length_append, hxx]; rfl)
      have hd32 := xorsN_lt (bL a) (bL b) (bL_lt a) (bL_lt b) (by rw [bL_length]; omega) (by rw [bL_length]; omega) pre.length
      have ux := u8_xor_nat (a[pre.length]'hlt).toNat (b[pre.length]'hltb).toNat (UInt8.toNat_lt _) (UInt8.toNat_lt _)
      have hxl : (a[pre.length]'hlt).toNat ^^^ (b[pre.length]'hltb).toNat < 2 ^ 8 := Nat.xor_lt_two_pow (UInt8.toNat_lt _) (UInt8.toNat_lt _)
      have hbr : (b[pre.length]'hltb).toNat = (b[pre.length]'hltb).toNat := rfl
      obtain ⟨r, hr⟩ : ∃ r, (b[pre.length]'hltb).toNat = r := ⟨_, rfl⟩
      obtain ⟨p, hp⟩ : ∃ p, (a[pre.length]'hlt).toNat = p := ⟨_, rfl⟩
      rw [hp, hr] at HXN ux hxl
      rw [hp]
      obtain ⟨D0, hD0⟩ : ∃ D0, xorsN (bL a) (bL b) pre.length = D0 := ⟨_, rfl⟩
      rw [hD0] at HXN q1 hd32
      obtain ⟨m, hm⟩ : ∃ m, p ^^^ r = m := ⟨_, rfl⟩
      rw [hm] at HXN ux hxl
      have uo := i64_or_nat D0 m hd32 (by omega)
      have e3 : IntKind.i64.wrap (m : Int) = (m : Int) := IntWalk.i64_in _ (by omega)
      obtain ⟨D1, hD1⟩ : ∃ D1, D0 ||| m = D1 := ⟨_, rfl⟩
      rw [hD1] at HXN uo
      have hB1 : Below w.heap.size w (W2.setCell ⟨w.heap.size + 1, 0, none⟩ (.int .i64 (D1 : Int))) := hbw.setCell (show w.heap.size ≤ w.heap.size + 1 by omega) _
      have HS := Lib.hid (show SmI a b w (pre ++ [bytAt a pre.length]) Pv (W2.setCell ⟨w.heap.size + 1, 0, none⟩ (.int .i64 (D1 : Int))) from
        ⟨(set_other W2 _ (by omega)).trans q0, by rw [HXN.out]; go_simp, by go_simp, by rw [List.length_append]; show pre.length + 1 ≤ b.size; omega, hB1, hpv⟩)
      have HM := Lib.hid (show Mid Pv W2 (W2.setCell ⟨w.heap.size + 1, 0, none⟩ (.int .i64 (D1 : Int))) from (Mid.refl Pv W2).setCell _ (fun h => by have := hpv _ h; omega))
      have hl2 : pre.length < b.size := hltb
      clear hxx hxb hc hbr hk hp hD0 hm hD1 hB1 heq
      gi_wp2_with fail
      have q0' : W2.drew.cell? ⟨w.heap.size, 0, none⟩ = some (.string b) := q0
      refine wpIn_region_held_drew (S := (fun w' => w'.cell? ⟨w.heap.size, 0, none⟩ = some (.string b))) (by kernel_rfl) (by kernel_rfl) (by rintro ⟨_, _, h⟩; exact h) q0' (fun hHeld => ?_)
      refine takeH (i := 1) (some 22) (v := ?_) rfl rfl (by kernel_rfl) (by kernel_rfl) (by kernel_rfl) (fun _ _ _ h => h) (Or.inl ⟨by rfl, ?hyS1⟩) hHeld ?restS1
      case hyS1 => (intro w hSw; (try dsimp only at hSw); go_simp; (try with_reducible rfl))
      try simp only [Act.put, List.setIfInBounds_toArray, List.set_cons_zero, List.set_cons_succ]
      refine takeH (i := 2) (some 23) (v := ?_) rfl rfl (by kernel_rfl) (by kernel_rfl) (by kernel_rfl) (fun _ _ _ h => h) (Or.inl ⟨by rfl, ?hyS2⟩) hHeld ?restS2
      case hyS2 => (intro w hSw; (try dsimp only at hSw); go_simp; (try with_reducible rfl))
      try simp only [Act.put, List.setIfInBounds_toArray, List.set_cons_zero, List.set_cons_succ]
      refine takeH (i := 3) (some 24) (v := ?_) rfl rfl (by kernel_rfl) (by kernel_rfl) (by kernel_rfl) (fun _ _ _ h => h) (Or.inl ⟨by rfl, ?hyS3⟩) hHeld ?restS3
      case hyS3 => (intro w hSw; (try dsimp only at hSw); go_simp; (try with_reducible rfl))
      try simp only [Act.put, List.setIfInBounds_toArray, List.set_cons_zero, List.set_cons_succ]
      refine takeH (i := 4) (some 25) (v := ?_) rfl rfl (by kernel_rfl) (by kernel_rfl) (by kernel_rfl) (fun _ _ _ h => h) (Or.inl ⟨by rfl, ?hyS4⟩) hHeld ?restS4
      case hyS4 => (intro w hSw; (try dsimp only at hSw); go_simp; (try with_reducible rfl))
      try simp only [Act.put, List.setIfInBounds_toArray, List.set_cons_zero, List.set_cons_succ]
      refine takeH (i := 5) (some 26) (v := ?_) rfl rfl (by kernel_rfl) (by kernel_rfl) (by kernel_rfl) (fun _ _ _ h => h) (Or.inl ⟨by rfl, ?hyS5⟩) hHeld ?restS5
      case hyS5 => (intro w hSw; (try dsimp only at hSw); go_simp; (try with_reducible rfl))
      try simp only [Act.put, List.setIfInBounds_toArray, List.set_cons_zero, List.set_cons_succ]
      refine takeH (i := 6) (some 27) (v := ?_) rfl rfl (by kernel_rfl) (by kernel_rfl) (by kernel_rfl) (fun _ _ _ h => h) (Or.inl ⟨by rfl, ?hyS6⟩) hHeld ?restS6
      case hyS6 => (intro w hSw; (try dsimp only at hSw); go_simp; (try with_reducible rfl))
      try simp only [Act.put, List.setIfInBounds_toArray, List.set_cons_zero, List.set_cons_succ]
      refine wpAnyH_ready (rs := [0]) (by kernel_rfl) (by simp) ?_
      refine AllReadyH.cons rfl (fun K hK => ?_) AllReadyH.nil
      go_simp
      refine hK.out _ _ ?_ (fun hHeld => ?_)
      · exact hHeld
      clear hK K
      try simp only [Act.put, List.setIfInBounds_toArray, List.set_cons_zero, List.set_cons_succ]
      refine takeH (i := 7) (some 28) (v := ?_) rfl rfl (by kernel_rfl) (by kernel_rfl) (by kernel_rfl) (fun _ _ _ h => h) (Or.inl ⟨by rfl, ?hyS7⟩) hHeld ?restS7
      case hyS7 => (intro w hSw; (try dsimp only at hSw); go_simp; (try with_reducible rfl))
      try simp only [Act.put, List.setIfInBounds_toArray, List.set_cons_zero, List.set_cons_succ]
      refine wpAnyH_ready (rs := [8]) (by kernel_rfl) (by simp) ?_
      refine AllReadyH.cons rfl (fun K hK => ?_) AllReadyH.nil
      go_simp
      refine hK.out _ _ ?_ (fun hHeld => ?_)
      · exact (set_other _ _ (by omega)).trans q0'
      clear hK K
      try simp only [Act.put, List.setIfInBounds_toArray, List.set_cons_zero, List.set_cons_succ]
      refine wpAnyH_done (by kernel_rfl) ?_ _
      gi_wp2
      first | exact ⟨HS.out, HM.out⟩ | exact ⟨SmI.steady a b w _ Pv Pv _ _ HS.out (Goes.of_below (below_drew (Below.refl _ _))) (More.same _ _ _), HM.out.trans (Mid.of_below (below_drew (Below.refl _ _)))⟩
  case done =>
    rintro D xs Pv W hlD hpD rfl ⟨q0, q1, f1, hle, hbw, hpv⟩ hdef
    rw [bytsB_length] at q1 hle
    have hX := xorsN_same (bL a) (bL b)
    rw [bL_length, bL_length, Nat.min_eq_left hle] at hX
    generalize xorsN (bL a) (bL b) a.size = X at *
    have hres : decide ((X : Int) = 0) = decide (bL a = bL b) := by
      rw [decide_eq_decide, ← hX]; omega
    have HBW := Lib.hid hbw
    have HD := Lib.hid hdef
    have HRes := Lib.hid hres
    clear hX hres hbw hdef hpv
    gi_wp2
    rw [Exit.noGoto_ret]
    refine ⟨by simp, .inl ⟨_, _, rfl, run_takeDeferred HD.out, ?_⟩⟩
    refine ⟨_, results_tmp rfl _ _ _, ?_, ?_⟩
    · show Ending.returned (.bool _) = _
      rw [← HRes.out]
      rfl
    · exact HBW.out.grown (grownBy_putObj' W D _) HBW.out.size (fun j hj => by cases hj; have := blt hst; omega)
  case stop =>
    rintro D c pre Pv W hlD hpD hSp ⟨rfl, q1, hle, hbw, hpv⟩ hdef
    have hX := xorsN_same (bL a) (bL b)
    rw [bL_length, bL_length, Nat.min_eq_right (by omega)] at hX
    generalize xorsN (bL a) (bL b) b.size = X at *
    have hres : decide ((X : Int) = 0) = decide (bL a = bL b) := by
      rw [decide_eq_decide, ← hX]; omega
    have HBW := Lib.hid hbw
    have HD := Lib.hid hdef
    have HRes := Lib.hid hres
    clear hX hres hbw hdef hpv
    gi_wp2
    rw [Exit.noGoto_ret]
    refine ⟨by simp, .inl ⟨_, _, rfl, run_takeDeferred HD.out, ?_⟩⟩
    refine ⟨_, results_tmp rfl _ _ _, ?_, ?_⟩
    · show Ending.returned (.bool _) = _
      rw [← HRes.out]
      rfl
    · exact HBW.out.grown (grownBy_putObj' W D _) HBW.out.size (fun j hj => by cases hj; have := blt hst; omega)
end Go.Proofs.YtikpmkidfppknaaGreatDoor

/- Check. -/
namespace Go.Proofs.YtikpmkidfppknaaGreatDoor
open Go.RowKit Go.Shelf
attribute [local go_sem] Oper.semAt_some

/-- Is a proof the answer under a credential? -/
def okA (ch name proof : ByteArray) (x : Crd) : Bool := isKeyB x.k && (isChB ch && decide (bL (ofL (macL (bL x.k) (bL (ch ++ name)))) = bL proof))
def chkI (ch name proof : ByteArray) (h : List Crd) : Int := ((h.find? (okA ch name proof)).map Crd.i).getD 0
structure CkI (ch name proof : ByteArray) (Y : World) (pre : List Crd) (Pv : Nat → Prop) (W : World) : Prop where
  no : pre.all (fun x => !okA ch name proof x) = true
  below : Below Y.heap.size Y W
  pv : ∀ i, Pv i → Y.heap.size ≤ i
theorem CkI.steady (ch name proof : ByteArray) (Y : World) : Steady (CkI ch name proof Y) := by
  rintro s Pv Pv' X Z ⟨h1, h5, h6⟩ hg hm
  have z := h5.size
  refine ⟨h1, hg.below h5 h6, fun i hi => ?_⟩
  rcases hm i hi with h | ⟨h, _⟩
  · exact h6 i h
  · omega
structure CkX (ch name proof : ByteArray) (h : List Crd) (w Y : World) (tb : Nat) (c : Code) (_ : List Crd) (Pv : Nat → Prop) (W : World) : Prop where
  c : c = .exit 0
  cell : W.cell? ⟨tb, 0, none⟩ = some (.int .i64 (chkI ch name proof h))
  below : Below w.heap.size w W
  size : Y.heap.size ≤ W.heap.size
  pv : ∀ i, Pv i → Y.heap.size ≤ i
theorem CkX.steady (ch name proof : ByteArray) (h : List Crd) (w Y : World) (tb : Nat) (htb : tb < Y.heap.size) (hwY : w.heap.size ≤ Y.heap.size) (c : Code) : Steady (CkX ch name proof h w Y tb c) := by
  rintro s Pv Pv' X Z ⟨h0, h1, h2, h3, h6⟩ hg hm
  have n1 : ¬ Pv tb := fun k => by have := h6 _ k; omega
  refine ⟨h0, hg.cell h1 n1, hg.below h2 (fun i k => by have := h6 i k; omega), Nat.le_trans h3 hg.size, fun i hi => ?_⟩
  rcases hm i hi with k | ⟨k, _⟩
  · exact h6 i k
  · omega
theorem chk_none {ch name proof : ByteArray} {h : List Crd} (k : h.all (fun x => !okA ch name proof x) = true) : chkI ch name proof h = 0 := by
  unfold chkI
  rw [List.find?_eq_none.2 (fun x hx e => by have := List.all_eq_true.1 k x hx; rw [e] at this; cases this)]
  rfl
theorem chk_some {ch name proof : ByteArray} {h pre : List Crd} {x : Crd} (hp : pre ++ [x] <+: h) (k : pre.all (fun x => !okA ch name proof x) = true) (hx : okA ch name proof x = true) : chkI ch name proof h = x.i := by
  obtain ⟨r, rfl⟩ := hp
  unfold chkI
  rw [List.append_assoc, List.find?_append, List.find?_eq_none.2 (fun x hx e => by have := List.all_eq_true.1 k x hx; rw [e] at this; cases this)]
  simp [hx]
set_option maxRecDepth 100000 in
set_option maxHeartbeats 4000000 in
theorem Check_c (a : Option Addr) (cap : Nat) (l : List Crd) (hs : l.length ≤ 100000) (now : Int) (ch name proof : ByteArray) (h1 : ch.size ≤ 1000) (h2 : name.size ≤ 1000) (h3 : proof.size ≤ 1000) (w : World) (hA : CrdAt w.heap.size w a l) (hL : Lay w) :
    Calls Tryz.prog 21 #[.slice a l.length cap, .int .i64 now, .string ch, .string name, .string proof] w fun y w' => y = .returned (.tuple #[.int .i64 (chkI ch name proof (holdL l now)), .bool (chkI ch name proof (holdL l now) != 0)]) ∧ Below w.heap.size w w' := by
  refine (callsIn_wide (n := 8)).1 ?_
  have HH := Lib.hid (fun W h => Holding_c a cap l hs now W h)
  have HA := Lib.hid hA
  have HL := Lib.hid hL
  have HAN := Lib.hid (fun key W h => Answer_c key ch name h1 h2 W h)
  have hmz : ∀ key, (ofL (macL (bL key) (bL (ch ++ name)))).size ≤ 1000 := fun key => by rw [ofL_size, show (macL (bL key) (bL (ch ++ name))).length = 32 from textS_length _]; decide
  have HSM := Lib.hid (fun key W => Same_c (ofL (macL (bL key) (bL (ch ++ name)))) proof (by have := hmz key; omega) (by omega) W)
  have HLE := Lib.hid (show (holdL l now).length ≤ 100000 by
    unfold holdL
    split
    · exact Nat.le_trans (List.length_filter_le _ _) hs
    · exact Nat.zero_le _)
  clear hA hL hmz
  generalize holdL l now = m at *
  refine callsIn_of_wp_marks Tryz.func21 rfl trivial ?_ rfl
  simp only [Tryz.ntmps21, List.size_toArray, List.length_cons, List.length_nil, Nat.reduceAdd, Nat.reduceSub, Array.replicate_succ, Array.replicate_zero, List.push_toArray, List.append_toArray, List.nil_append, List.cons_append]
  gi_wp2_with fail
  refine wpIn_scope_straight ?_
  gi_wp2_with fail
  refine wpIn_label ?_
  gi_wp2_with fail
  have hB1 : Below w.heap.size w ((((w.alloc (.cells #[.string ch] 9)).alloc (.cells #[.string name] 9)).alloc (.cells #[.string proof] 9)).alloc (.cells #[.int .i64 0] 3)) := bal (bal (bal (below_alloc _ _) _) _) _
  have e0 : ((((w.alloc (.cells #[.string ch] 9)).alloc (.cells #[.string name] 9)).alloc (.cells #[.string proof] 9)).alloc (.cells #[.int .i64 0] 3)).cell? ⟨w.heap.size, 0, none⟩ = some (.string ch) := by go_simp
  have e1 : ((((w.alloc (.cells #[.string ch] 9)).alloc (.cells #[.string name] 9)).alloc (.cells #[.string proof] 9)).alloc (.cells #[.int .i64 0] 3)).cell? ⟨w.heap.size + 1, 0, none⟩ = some (.string name) := by go_simp
  have e2 : ((((w.alloc (.cells #[.string ch] 9)).alloc (.cells #[.string name] 9)).alloc (.cells #[.string proof] 9)).alloc (.cells #[.int .i64 0] 3)).cell? ⟨w.heap.size + 1 + 1, 0, none⟩ = some (.string proof) := by go_simp
  have e3 : ((((w.alloc (.cells #[.string ch] 9)).alloc (.cells #[.string name] 9)).alloc (.cells #[.string proof] 9)).alloc (.cells #[.int .i64 0] 3)).cell? ⟨w.heap.size + 1 + 1 + 1, 0, none⟩ = some (.int .i64 0) := by go_simp
  have g3 : ((((w.alloc (.cells #[.string ch] 9)).alloc (.cells #[.string name] 9)).alloc (.cells #[.string proof] 9)).alloc (.cells #[.int .i64 0] 3)).frozen? ⟨w.heap.size + 1 + 1 + 1, 0, none⟩ = false := by go_simp
  generalize ((((w.alloc (.cells #[.string ch] 9)).alloc (.cells #[.string name] 9)).alloc (.cells #[.string proof] 9)).alloc (.cells #[.int .i64 0] 3)) = V at *
  refine ⟨trivial, (callsIn_wide.2 (HH.out _ (HA.out.on hB1))).mono ?_⟩
  rintro e w2 ⟨v, rfl, ho, hb⟩
  have z3 := blt e3
  replace g3 := (hb.frozen (blt e3)).trans g3
  replace e0 := (hb.cell (blt e0)).trans e0
  replace e1 := (hb.cell (blt e1)).trans e1
  replace e2 := (hb.cell (blt e2)).trans e2
  replace e3 := (hb.cell (blt e3)).trans e3
  have HB2 := Lib.hid (btr hB1 hb)
  obtain ⟨a2, c2, rfl, hA2⟩ := crd_of_row ho
  have HA2 := Lib.hid hA2
  have HTB := Lib.hid (show w.heap.size + 1 + 1 + 1 < w2.heap.size from blt e3)
  have HE := Lib.hid (fun W => each_c a2 m.length c2 W)
  have HE5 := Lib.hid (And.intro e0 (And.intro e1 (And.intro e2 (And.intro e3 g3))))
  clear hB1 hb ho hA2 z3 e0 e1 e2 e3 g3
  gi_wp2_with fail
  refine ⟨trivial, (callsIn_wide.2 (HE.out _)).mono ?_⟩
  rintro e w' ⟨rfl, rfl⟩
  clear HE
  have hst : (w2.alloc (.cells #[.slice a2 m.length c2] 55)).cell? ⟨w2.heap.size, 0, none⟩ = some (.slice a2 m.length c2) := by go_simp
  have hI : CkI ch name proof w2 [] (fun i => i = w2.heap.size) (w2.alloc (.cells #[.slice a2 m.length c2] 55)) := ⟨rfl, below_alloc _ _, fun i h => by omega⟩
  generalize (w2.alloc (.cells #[.slice a2 m.length c2] 55)) = Z at *
  have HBI := Lib.hid (values_it 7 (by omega) a2 c2 m HLE.out w2.heap.size w2.heap.size Z hst)
  gi_wp2_with fail
  refine wpIn_range_itersG (n := 8) (encs := fun x => #[crdV x]) (ps := #[20]) rfl (by omega) (gf := 89) (lb := #[.pointer (some ⟨w2.heap.size, 0, none⟩)]) rfl trivial (enters_of Tryz.func89 (by kernel_rfl) rfl)
    HBI.out (Below.refl _ _) (fun _ => rfl) (fun i h => by rw [h]; exact blt hst) (CkI ch name proof w2) (CkX ch name proof m w w2 (w.heap.size + 1 + 1 + 1)) (fun s Pv W h => HA2.out.below h.below) (CkI.steady ch name proof w2) ?steadyx hI ?round ?done ?stop
  case steadyx => exact fun c => CkX.steady ch name proof m w w2 _ HTB.out HB2.out.size c
  case round =>
    clear HBI hI
    rintro K pre x Pv W hc hI2 hPl hll ⟨rec, hrec⟩
    simp only [crdV]
    gi_wp2
    refine ⟨(Mid.refl Pv W).alloc _, fun W2 hG hr2 => ?_⟩
    have hKW : K < W.heap.size := (Array.getElem?_eq_some_iff.1 hrec).1
    have x0 : (W.alloc (.cells #[.int .i64 x.i, .string x.k, .int .i64 x.f, .int .i64 x.t] 37)).cell? ⟨W.heap.size, 0, none⟩ = some (.int .i64 x.i) := by go_simp
    have x1 : (W.alloc (.cells #[.int .i64 x.i, .string x.k, .int .i64 x.f, .int .i64 x.t] 37)).cell? ⟨W.heap.size, 1, none⟩ = some (.string x.k) := by go_simp
    have x2 : (W.alloc (.cells #[.int .i64 x.i, .string x.k, .int .i64 x.f, .int .i64 x.t] 37)).cell? ⟨W.heap.size, 2, none⟩ = some (.int .i64 x.f) := by go_simp
    have x3 : (W.alloc (.cells #[.int .i64 x.i, .string x.k, .int .i64 x.f, .int .i64 x.t] 37)).cell? ⟨W.heap.size, 3, none⟩ = some (.int .i64 x.t) := by go_simp
    replace x0 := hG.cell x0 (fun h => by omega)
    replace x1 := hG.cell x1 (fun h => by omega)
    replace x2 := hG.cell x2 (fun h => by omega)
    replace x3 := hG.cell x3 (fun h => by omega)
    have hI3 := CkI.steady ch name proof w2 _ _ _ _ _ (CkI.steady ch name proof w2 _ _ _ _ _ hI2 (Goes.of_below (below_alloc W (.cells #[.int .i64 x.i, .string x.k, .int .i64 x.f, .int .i64 x.t] 37))) (More.same _ _ _)) (hG.mono (fun i h => h ▸ hPl)) (More.same _ _ _)
    have HPRE := Lib.hid hc
    clear hI2 hG hr2 hrec hll hc
    obtain ⟨hno, hbw, hpv⟩ := hI3
    generalize W.heap.size = B at *
    have HB := Lib.hid hbw
    have HPV := Lib.hid hpv
    obtain ⟨q0, q1, q2, q3, f3⟩ := HE5.out
    replace f3 := (hbw.frozen (blt q3)).trans f3
    replace q0 := (hbw.cell (blt q0)).trans q0
    replace q1 := (hbw.cell (blt q1)).trans q1
    replace q2 := (hbw.cell (blt q2)).trans q2
    replace q3 := (hbw.cell (blt q3)).trans q3
    have q3' := q3
    have HLW := Lib.hid ((HL.out.on HB2.out).on hbw)
    have HAN2 := Lib.hid (fun W h => HAN.out x.k W h)
    have HSM2 := Lib.hid (fun W => HSM.out x.k W)
    have HON := Lib.hid hno
    clear hbw hpv hno
    have HOE := Lib.hid (show okA ch name proof x = (isKeyB x.k && (isChB ch && decide (bL (ofL (macL (bL x.k) (bL (ch ++ name)))) = bL proof))) from rfl)
    cases hk : isKeyB x.k
    · have HNO := Lib.hid (show (pre ++ [x]).all (fun x => !okA ch name proof x) = true by rw [List.all_append, HON.out]; simp [HOE.out, hk])
      have e : ansV x.k ch name = .tuple #[.string ⟨#[]⟩, .int .i64 50] := by unfold ansV; rw [hk]; rfl
      rw [e] at HAN2
      clear e hk q3'
      gi_wp2_with fail
      refine ⟨trivial, (CallsIn.inRound K (callsIn_wide.2 (HAN2.out _ HLW.out))).mono ?_⟩
      rintro e w3 ⟨rfl, hb⟩
      replace q2 := (hb.cell (blt q2)).trans q2
      replace q3 := (hb.cell (blt q3)).trans q3
      have HB3 := Lib.hid hb
      replace x0 := (hb.cell (blt x0)).trans x0
      clear hb x0 x1 x2 x3 q0 q1 q2 q3
      gi_wp2
      refine ⟨by first | trivial | (intro _ hf; cases hf), ?_⟩
      gi_wp2
      exact ⟨⟨HNO.out, btr HB.out HB3.out, HPV.out⟩, Mid.of_below HB3.out⟩
    · cases hcb : isChB ch
      · have HNO := Lib.hid (show (pre ++ [x]).all (fun x => !okA ch name proof x) = true by rw [List.all_append, HON.out]; simp [HOE.out, hcb])
        have e : ansV x.k ch name = .tuple #[.string ⟨#[]⟩, .int .i64 2] := by unfold ansV; rw [hk, hcb]; rfl
        rw [e] at HAN2
        clear e hk hcb q3'
        gi_wp2_with fail
        refine ⟨trivial, (CallsIn.inRound K (callsIn_wide.2 (HAN2.out _ HLW.out))).mono ?_⟩
        rintro e w3 ⟨rfl, hb⟩
        replace q2 := (hb.cell (blt q2)).trans q2
        replace q3 := (hb.cell (blt q3)).trans q3
        have HB3 := Lib.hid hb
        replace x0 := (hb.cell (blt x0)).trans x0
        clear hb x0 x1 x2 x3 q0 q1 q2 q3
        gi_wp2
        refine ⟨by first | trivial | (intro _ hf; cases hf), ?_⟩
        gi_wp2
        exact ⟨⟨HNO.out, btr HB.out HB3.out, HPV.out⟩, Mid.of_below HB3.out⟩
      · have e : ansV x.k ch name = .tuple #[.string (ofL (macL (bL x.k) (bL (ch ++ name)))), .int .i64 0] := by unfold ansV; rw [hk, hcb]; rfl
        rw [e] at HAN2
        cases hd : decide (bL (ofL (macL (bL x.k) (bL (ch ++ name)))) = bL proof)
        · have HNO := Lib.hid (show (pre ++ [x]).all (fun x => !okA ch name proof x) = true by rw [List.all_append, HON.out]; simp [HOE.out, hd])
          rw [hd] at HSM2
          clear e hk hcb hd
          generalize ofL (macL (bL x.k) (bL (ch ++ name))) = AN at HAN2 HSM2
          gi_wp2_with fail
          refine ⟨trivial, (CallsIn.inRound K (callsIn_wide.2 (HAN2.out _ HLW.out))).mono ?_⟩
          rintro e w3 ⟨rfl, hb⟩
          replace q2 := (hb.cell (blt q2)).trans q2
          replace q3 := (hb.cell (blt q3)).trans q3
          have HB3 := Lib.hid hb
          replace x0 := (hb.cell (blt x0)).trans x0
          replace f3 := (hb.frozen (blt q3')).trans f3
          clear hb x1 x2 x3 q0 q1
          gi_wp2_with fail
          refine ⟨trivial, (CallsIn.inRound K (callsIn_wide.2 (HSM2.out _))).mono ?_⟩
          rintro e w4 ⟨rfl, hb⟩
          have HB4 := Lib.hid (btr HB3.out hb)
          replace f3 := (hb.frozen (blt q3)).trans f3
          replace q3 := (hb.cell (blt q3)).trans q3
          replace x0 := (hb.cell (blt x0)).trans x0
          clear hb x0 q3 q2 f3
          gi_wp2
          exact ⟨⟨HNO.out, btr HB.out HB4.out, HPV.out⟩, Mid.of_below HB4.out⟩
        · have HYE := Lib.hid (chk_some HPRE.out HON.out (by rw [HOE.out, hk, hcb, hd]; rfl))
          rw [hd] at HSM2
          clear e hk hcb hd
          generalize ofL (macL (bL x.k) (bL (ch ++ name))) = AN at HAN2 HSM2
          gi_wp2_with fail
          refine ⟨trivial, (CallsIn.inRound K (callsIn_wide.2 (HAN2.out _ HLW.out))).mono ?_⟩
          rintro e w3 ⟨rfl, hb⟩
          replace q2 := (hb.cell (blt q2)).trans q2
          replace q3 := (hb.cell (blt q3)).trans q3
          have HB3 := Lib.hid hb
          replace x0 := (hb.cell (blt x0)).trans x0
          replace f3 := (hb.frozen (blt q3')).trans f3
          clear hb x1 x2 x3 q0 q1
          gi_wp2_with fail
          refine ⟨trivial, (CallsIn.inRound K (callsIn_wide.2 (HSM2.out _))).mono ?_⟩
          rintro e w4 ⟨rfl, hb⟩
          have HB4 := Lib.hid (btr HB3.out hb)
          replace f3 := (hb.frozen (blt q3)).trans f3
          replace q3 := (hb.cell (blt q3)).trans q3
          replace x0 := (hb.cell (blt x0)).trans x0
          clear hb q2
          gi_wp2
          exact ⟨⟨rfl, by rw [HYE.out]; go_simp, (btr (btr HB2.out HB.out) HB4.out).setCell (p := ⟨w.heap.size + 1 + 1 + 1, 0, none⟩) (by show w.heap.size ≤ w.heap.size + 1 + 1 + 1; omega) _, by rw [World.size_setCell]; exact Nat.le_trans HB.out.size HB4.out.size, HPV.out⟩, (Mid.of_below HB4.out).setCell _ (fun h => by have := HPV.out _ h; have := HTB.out; omega)⟩
  case done =>
    rintro D xs Pv W hlD hpD rfl ⟨hno, hbw, hpv⟩ hdef
    have HD := Lib.hid hdef
    have HR := Lib.hid (chk_none hno)
    obtain ⟨_, _, _, q3, f3⟩ := HE5.out
    replace q3 := (hbw.cell (blt q3)).trans q3
    have HBW := Lib.hid (btr HB2.out hbw)
    have zD := blt hst
    clear hbw hdef hpv hno hI HBI hst f3
    gi_wp2_with fail
    gi_region
    gi_wp2
    rw [Exit.noGoto_ret]
    refine ⟨by simp, .inl ⟨_, _, rfl, run_takeDeferred (show W.drew.heap[D]? = _ from HD.out), ?_⟩⟩
    refine ⟨_, results_tmp2 rfl _ _ _, ?_, ?_⟩
    · rw [HR.out]; rfl
    · exact (below_drew HBW.out).grown (grownBy_putObj' _ D _) (below_drew HBW.out).size (fun j hj => by cases hj; have := HB2.out.size; omega)
  case stop =>
    rintro D c pre Pv W hlD hpD hSp ⟨rfl, q3, hbw, hsz, hpv⟩ hdef
    have HD := Lib.hid hdef
    have HBW := Lib.hid hbw
    have zD := blt hst
    obtain ⟨r, hr⟩ : ∃ r, chkI ch name proof m = r := ⟨_, rfl⟩
    rw [hr] at q3
    have HR := Lib.hid hr
    clear hr
    clear hbw hdef hpv hI HBI hst
    gi_wp2_with fail
    gi_region
    gi_wp2
    rw [Exit.noGoto_ret]
    refine ⟨by simp, .inl ⟨_, _, rfl, run_takeDeferred (show W.drew.heap[D]? = _ from HD.out), ?_⟩⟩
    refine ⟨_, results_tmp2 rfl _ _ _, ?_, ?_⟩
    · rw [HR.out]; rfl
    · exact (below_drew HBW.out).grown (grownBy_putObj' _ D _) (below_drew HBW.out).size (fun j hj => by cases hj; have := HB2.out.size; omega)
end Go.Proofs.YtikpmkidfppknaaGreatDoor

/- What the laws share: cut, in, Few. -/
namespace Go.Proofs.YtikpmkidfppknaaGreatDoor
open Go.RowKit Go.Shelf
attribute [local go_sem] Oper.semAt_some

def cut1 (s : ByteArray) : ByteArray := s.extract 0 (min (s.size : Int) 100).toNat
theorem cut1_size (s : ByteArray) : (cut1 s).size ≤ 100 := by unfold cut1; rw [ByteArray.size_extract]; omega
set_option maxRecDepth 100000 in
theorem cut1_c (s : ByteArray) (w : World) : Calls Tryz.prog 10 #[.string s] w fun x w' => x = .returned (.string (cut1 s)) ∧ Below w.heap.size w w' := by
  go_enter Tryz.func10, Tryz.ntmps10
  go_wp2
  all_goals
    go_ret
    refine ⟨?_, Below.refl _ _⟩
    first
      | rfl
      | (unfold cut1; rw [show (min (s.size : Int) 100).toNat = 100 by omega]; rfl)
      | (unfold cut1; rw [show (min (s.size : Int) 100).toNat = s.size by omega, ByteArray.extract_zero_size]; rfl)
def inB (l : List Crd) (id : Int) : Bool := l.any fun x => decide (x.i = id)
theorem inB_iff (l : List Crd) (id : Int) : inB l id = true ↔ ∃ x ∈ l, x.i = id := by
  unfold inB
  rw [List.any_eq_true]
  constructor
  · rintro ⟨x, hx, h⟩; exact ⟨x, hx, of_decide_eq_true h⟩
  · rintro ⟨x, hx, h⟩; exact ⟨x, hx, decide_eq_true h⟩
set_option maxRecDepth 100000 in
set_option maxHeartbeats 4000000 in
theorem in_c (a : Option Addr) (cap : Nat) (l : List Crd) (hs : l.length ≤ 100000) (id : Int) (w : World) (hA : CrdAt w.heap.size w a l) :
    Calls Tryz.prog 18 #[.slice a l.length cap, .int .i64 id] w fun y w' => y = .returned (.bool (inB l id)) ∧ w = w' := by
  have HA := Lib.hid hA
  clear hA
  go_enter Tryz.func18, Tryz.ntmps18
  go_wp2
  go_loop [5] (fun i => ∃ k : Nat, k ≤ l.length ∧ i = .int .i64 (k : Int) ∧ Hid (∀ j, (h : j < l.length) → j < k → ¬ l[j].i = id)) (fun i => l.length - (intOf i).toNat)
  case atStart => exact ⟨0, Nat.zero_le _, rfl, Lib.hid (fun j _ h => absurd h (Nat.not_lt_zero j))⟩
  case round =>
    obtain ⟨k, hk, rfl, hno⟩ := hrel
    by_cases hlt : k < l.length
    · have hlt' : (k : Int) < (l.length : Int) := by omega
      obtain ⟨b, off, rfl, hbn, c0, hr⟩ := HA.out k hlt
      clear hr hbn
      by_cases hxy : l[k].i = id
      · have HM := Lib.hid (show inB l id = true from (inB_iff l id).2 ⟨l[k], List.getElem_mem hlt, hxy⟩)
        rw [hxy] at c0
        clear hxy
        go_wp2
        go_ret
        exact ⟨by rw [HM.out]; rfl, rfl⟩
      · have HN := Lib.hid (show ∀ j, (h : j < l.length) → j < k + 1 → ¬ l[j].i = id from fun j h hj e => by
          rcases Nat.lt_succ_iff_lt_or_eq.1 hj with h1 | h1
          · exact hno.out j h h1 e
          · subst h1; exact hxy e)
        have hd : (l[k].i == id) = false := beq_eq_false_iff_ne.2 hxy
        generalize l[k].i = y at *
        go_wp2
        go_round
        case rel => exact ⟨k + 1, by omega, by go_num, HN⟩
        case measure => simp [intOf]; omega
    · have hge : ¬ (k : Int) < (l.length : Int) := by omega
      have HM := Lib.hid (show inB l id = false by
        cases e : inB l id
        · rfl
        · obtain ⟨x, hx, hi⟩ := (inB_iff l id).1 e
          obtain ⟨j, hj, rfl⟩ := List.getElem_of_mem hx
          exact absurd hi (hno.out j hj (by omega)))
      go_wp2
      go_ret
      exact ⟨by rw [HM.out]; rfl, rfl⟩
def fewK (s : ByteArray) : ByteArray := s.extract 0 (min (s.size : Int) 65).toNat
theorem fewK_size (s : ByteArray) : (fewK s).size ≤ 65 := by unfold fewK; rw [ByteArray.size_extract]; omega
def fewC (x : Crd) : Crd := ⟨x.i, fewK x.k, x.f, x.t⟩
def fewL (l : List Crd) : List Crd := (l.take 6).map fewC
theorem fewL_len (l : List Crd) : (fewL l).length ≤ 6 := by unfold fewL; rw [List.length_map, List.length_take]; omega
theorem few_snoc (l : List Crd) (k : Nat) (h : k < l.length) : (l.take (k + 1)).map fewC = (l.take k).map fewC ++ [fewC (l[k]'h)] := by
  rw [List.take_succ_eq_append_getElem h, List.map_append]
  rfl
set_option maxRecDepth 100000 in
set_option maxHeartbeats 4000000 in
theorem Few_c (a : Option Addr) (cap : Nat) (l : List Crd) (hs : l.length ≤ 9223372036854775807) (w : World) (hA : CrdAt w.heap.size w a l) :
    Calls Tryz.prog 9 #[.slice a l.length cap] w (ChP (fewL l) w) := by
  have HA := Lib.hid hA
  obtain ⟨i0, hi, hz0, hz1, hz2⟩ := infoCrd
  clear hA
  go_enter Tryz.func9, Tryz.ntmps9
  go_wp2
  go_loopw [3, 4] (fun v i wr => ∃ k : Nat, k ≤ l.length ∧ k ≤ 6 ∧ i = .int .i64 (k : Int) ∧ wr.ownsRow w.heap.size 37 4 v k (crdCs ((l.take k).map fewC)) ∧ Below w.heap.size w wr) (fun _ i _ => 6 - (intOf i).toNat)
  case atStart => exact ⟨0, Nat.zero_le _, Nat.zero_le _, rfl, World.ownsRow_nil _ _ _ _, Below.refl _ _⟩
  case round =>
    obtain ⟨k, hk, hk6, rfl, hO, hb⟩ := hrel
    have HO := Lib.hid hO
    have HB := Lib.hid hb
    clear hO hb
    by_cases hlt : k < l.length
    · have hlt' : (k : Int) < (l.length : Int) := by omega
      by_cases h6 : k < 6
      · have h6' : (k : Int) < 6 := by omega
        have HN := Lib.hid (few_snoc l k hlt)
        obtain ⟨b, off, rfl, hbn, c0, c1, c2, c3⟩ := (HA.out.below HB.out) k hlt
        have HXX := Lib.hid (show fewC l[k] = ⟨l[k].i, fewK l[k].k, l[k].f, l[k].t⟩ from rfl)
        generalize l[k] = x at *
        obtain ⟨kk, hkk⟩ : ∃ kk, fewK x.k = kk := ⟨_, rfl⟩
        rw [hkk] at HXX
        have HL := Lib.hid (show crdCs ((l.take (k + 1)).map fewC) = crdCs ((l.take k).map fewC) ++ [.int .i64 x.i, .string kk, .int .i64 x.f, .int .i64 x.t] by rw [HN.out, HXX.out, crdCs_append]; rfl)
        obtain ⟨N, hN⟩ : ∃ N : Nat, min (x.k.size : Int) 65 = (N : Int) := ⟨(min (x.k.size : Int) 65).toNat, by omega⟩
        have hN1 : N ≤ x.k.size := by omega
        have hkN : x.k.extract 0 N = kk := by rw [← hkk]; unfold fewK; rw [hN]; rfl
        clear HN HXX hkk hbn
        obtain ⟨xs, hxs⟩ : ∃ xs, crdCs ((l.take k).map fewC) = xs := ⟨_, rfl⟩
        rw [hxs] at HO HL
        clear hxs
        have hzb := HB.out.size
        go_wp2_with (at_builtin; refine wpList_append_own _ rfl (.tmp 28) (.tmp 30) 22 rfl w.heap.size 37 i0 (.agg #[.int .i64 0, .string ⟨#[]⟩, .int .i64 0, .int .i64 0]) 4 40 Tryz.underlying22 hi hz0 hz1 hz2 rfl (by decide) _ k xs rfl ((HO.out.alloc _).alloc _) ⟨wr.heap.size + 1, 0, none⟩ 1 1 [.int .i64 x.i, .string kk, .int .i64 x.f, .int .i64 x.t] rfl rfl (World.news_of_block (cs := #[.int .i64 x.i, .string kk, .int .i64 x.f, .int .i64 x.t]) (t := 37) (fr := (0, 0)) (by have h := World.alloc_heap_new (wr.alloc (.cells #[.int .i64 x.i, .string kk, .int .i64 x.f, .int .i64 x.t] 37)) (.cells #[.int .i64 x.i, .string kk, .int .i64 x.f, .int .i64 x.t] 37); rw [World.size_alloc] at h; exact h)) (by simp [Value.oneCell']) (by unfold maxLen; omega) (by omega) (by simp; omega) ?_; intro v' w3 hown hgrow _; obtain ⟨au, cu, rfl⟩ := row_form hown)
        have HB3 := Lib.hid ((bal (bal HB.out (.cells #[.int .i64 x.i, .string kk, .int .i64 x.f, .int .i64 x.t] 37)) (.cells #[.int .i64 x.i, .string kk, .int .i64 x.f, .int .i64 x.t] 37)).grown hgrow (bal (bal HB.out (.cells #[.int .i64 x.i, .string kk, .int .i64 x.f, .int .i64 x.t] 37)) (.cells #[.int .i64 x.i, .string kk, .int .i64 x.f, .int .i64 x.t] 37)).size (fun j hj => (row_lt HO.out hj).1))
        rw [← HL.out] at hown
        have HO3 := Lib.hid hown
        clear hown hgrow
        go_roundw
        case rel => exact ⟨k + 1, by omega, by omega, by go_num, HO3.out, HB3.out⟩
        case measure => simp [intOf]; omega
      · have h6' : ¬ (k : Int) < 6 := by omega
        obtain rfl : k = 6 := by omega
        have hlen : (fewL l).length = 6 := by unfold fewL; rw [List.length_map, List.length_take]; omega
        have hO := HO.out
        obtain ⟨au, cu, rfl⟩ := row_form hO
        clear h6
        have HX := Lib.hid hO
        clear hO HO
        go_wp2
        go_ret
        exact ⟨_, rfl, by rw [hlen]; exact HX.out, HB.out⟩
    · have hlt' : ¬ (k : Int) < (l.length : Int) := by omega
      obtain rfl : k = l.length := by omega
      have hfl : fewL l = (l.take l.length).map fewC := by unfold fewL; rw [List.take_of_length_le (show l.length ≤ 6 by omega), List.take_length]
      have hlen : (fewL l).length = l.length := by rw [hfl, List.length_map, List.take_length]
      have HH := Lib.hid (And.intro hfl hlen)
      have hO := HO.out
      obtain ⟨au, cu, rfl⟩ := row_form hO
      have HX := Lib.hid hO
      clear hO HO hfl hlen
      go_wp2
      go_ret
      exact ⟨_, rfl, by rw [HH.out.2, HH.out.1]; exact HX.out, HB.out⟩
end Go.Proofs.YtikpmkidfppknaaGreatDoor

/- Is a credential rotated? -/
namespace Go.Proofs.YtikpmkidfppknaaGreatDoor
open Go.RowKit Go.Shelf
attribute [local go_sem] Oper.semAt_some

def l0 : List Crd := [⟨1, ⟨#[111, 108, 100]⟩, 0, 100⟩]
def m0 : List Crd := [⟨1, ⟨#[111, 108, 100]⟩, 0, 60⟩, ⟨2, ⟨#[110, 101, 119]⟩, 50, 150⟩]
def n0 : List Crd := [⟨1, ⟨#[111, 108, 100]⟩, 0, 60⟩, ⟨2, ⟨#[110, 101, 119]⟩, 50, 55⟩]
theorem rot0 : rotM l0 ⟨#[110, 101, 119]⟩ 50 10 100 = m0 ∧ rotI l0 ⟨#[110, 101, 119]⟩ 50 10 100 = 2 ∧ rotN l0 ⟨#[110, 101, 119]⟩ 50 10 100 = 0 := ⟨by kernel_rfl, by kernel_rfl, by kernel_rfl⟩
theorem end0 : endM m0 2 55 = n0 ∧ endN m0 2 55 = 0 := ⟨by kernel_rfl, by kernel_rfl⟩
theorem hold55 : holdL m0 55 = m0 := by kernel_rfl
theorem hold60 : holdL m0 60 = [⟨2, ⟨#[110, 101, 119]⟩, 50, 150⟩] := by kernel_rfl
theorem hold70 : holdL n0 70 = [] := by kernel_rfl
/-- The challenge, and the answer under the old key. -/
def chB : ByteArray := ofL (sumL (bL ⟨#[99, 104, 97, 108, 108, 101, 110, 103, 101, 32, 49, 32, 50]⟩))
def prB : ByteArray := ofL (macL (bL ⟨#[111, 108, 100]⟩) (bL (chB ++ ⟨#[97, 99, 109, 101]⟩)))
theorem prB_size : prB.size = 32 := by rw [prB, ofL_size]; exact textS_length _
theorem chB_size : chB.size = 32 := by rw [chB, ofL_size]; exact textS_length _
theorem sumL_lt' (l : List Nat) : ∀ c ∈ sumL l, c < 256 := textS_lt _
theorem macL_lt' (k l : List Nat) : ∀ c ∈ macL k l, c < 256 := textS_lt _
theorem new_ne : decide (macL (bL ⟨#[110, 101, 119]⟩) (sumL (bL ⟨#[99, 104, 97, 108, 108, 101, 110, 103, 101, 32, 49, 32, 50]⟩) ++ bL ⟨#[97, 99, 109, 101]⟩) = macL (bL ⟨#[111, 108, 100]⟩) (sumL (bL ⟨#[99, 104, 97, 108, 108, 101, 110, 103, 101, 32, 49, 32, 50]⟩) ++ bL ⟨#[97, 99, 109, 101]⟩)) = false := by decide +kernel
theorem ok_old : okA chB ⟨#[97, 99, 109, 101]⟩ prB ⟨1, ⟨#[111, 108, 100]⟩, 0, 60⟩ = true := by
  unfold okA
  rw [show isChB chB = true from decide_eq_true chB_size, show isKeyB ⟨#[111, 108, 100]⟩ = true from rfl, show decide (bL (ofL (macL (bL ⟨#[111, 108, 100]⟩) (bL (chB ++ ⟨#[97, 99, 109, 101]⟩)))) = bL prB) = true from decide_eq_true rfl]
  rfl
theorem ok_new : okA chB ⟨#[97, 99, 109, 101]⟩ prB ⟨2, ⟨#[110, 101, 119]⟩, 50, 150⟩ = false := by
  have h : ∀ k : ByteArray, bL (ofL (macL (bL k) (bL (chB ++ ⟨#[97, 99, 109, 101]⟩)))) = macL (bL k) (sumL (bL ⟨#[99, 104, 97, 108, 108, 101, 110, 103, 101, 32, 49, 32, 50]⟩) ++ bL ⟨#[97, 99, 109, 101]⟩) := fun k => by
    rw [bL_ofL _ (macL_lt' _ _), bL_append, chB, bL_ofL _ (sumL_lt' _)]
  unfold okA
  rw [prB, h, h, new_ne, Bool.and_false, Bool.and_false]
theorem chk55 : chkI chB ⟨#[97, 99, 109, 101]⟩ prB m0 = 1 := by
  unfold chkI m0
  rw [List.find?_cons_of_pos ok_old]
  rfl
theorem chk60 : chkI chB ⟨#[97, 99, 109, 101]⟩ prB [⟨2, ⟨#[110, 101, 119]⟩, 50, 150⟩] = 0 := by
  unfold chkI
  rw [List.find?_cons_of_neg (by rw [ok_new]; decide)]
  rfl
theorem ans_old : ansV ⟨#[111, 108, 100]⟩ chB ⟨#[97, 99, 109, 101]⟩ = .tuple #[.string prB, .int .i64 0] := by
  unfold ansV
  rw [show isKeyB ⟨#[111, 108, 100]⟩ = true from rfl, show isChB chB = true from decide_eq_true chB_size]
  rfl
theorem chT_12 : chT 1 2 = ⟨#[99, 104, 97, 108, 108, 101, 110, 103, 101, 32, 49, 32, 50]⟩ := by
  have h1 : itB 1 = ⟨#[49]⟩ := by unfold itB; rw [show (1 : Int) = ((1 : Nat) : Int) from rfl, Lib.itoa_nonneg, Lib.decDigits_one (by omega)]; rfl
  have h2 : itB 2 = ⟨#[50]⟩ := by unfold itB; rw [show (2 : Int) = ((2 : Nat) : Int) from rfl, Lib.itoa_nonneg, Lib.decDigits_one (by omega)]; rfl
  unfold chT
  rw [h1, h2]
  decide
theorem ch_12 : chV 1 2 = .tuple #[.string chB, .int .i64 0] := by
  unfold chB
  rw [← chT_12]
  rfl
/-- A row of n credentials, handed back. -/
def RowP (m : List Crd) (n : Nat) (w : World) (y : Ending) (w' : World) : Prop := ∃ a c, y = .returned (.slice a n c) ∧ CrdAt w'.heap.size w' a m ∧ Below w.heap.size w w'
theorem ChP.row {m : List Crd} {n : Nat} (hn : m.length = n) {w : World} {y : Ending} {w' : World} (h : ChP m w y w') : RowP m n w y w' := by
  obtain ⟨v, rfl, ho, hb⟩ := h
  obtain ⟨a, c, rfl, hA⟩ := crd_of_row ho
  exact ⟨a, c, by rw [hn], hA, hb⟩
theorem l0_at (w : World) : CrdAt (w.alloc (.cells #[.int .i64 1, .string ⟨#[111, 108, 100]⟩, .int .i64 0, .int .i64 100] 37)).heap.size (w.alloc (.cells #[.int .i64 1, .string ⟨#[111, 108, 100]⟩, .int .i64 0, .int .i64 100] 37)) (some ⟨w.heap.size, 0, none⟩) l0 := fun k hk => by
  have h1 : k < 1 := hk
  obtain rfl : k = 0 := by omega
  exact ⟨w.heap.size, 0, rfl, by simp, by go_simp; rfl, by go_simp; rfl, by go_simp; rfl, by go_simp; rfl⟩
theorem rot_l0 (w : World) (hL : Lay w) : Calls Tryz.prog 11 #[.slice (some ⟨w.heap.size, 0, none⟩) 1 1, .string ⟨#[110, 101, 119]⟩, .int .i64 50, .int .i64 10, .int .i64 100] (w.alloc (.cells #[.int .i64 1, .string ⟨#[111, 108, 100]⟩, .int .i64 0, .int .i64 100] 37)) fun y w' => ∃ a c, y = .returned (.tuple #[.slice a 2 c, .int .i64 2, .int .i64 0]) ∧ CrdAt w'.heap.size w' a m0 ∧ Below (w.alloc (.cells #[.int .i64 1, .string ⟨#[111, 108, 100]⟩, .int .i64 0, .int .i64 100] 37)).heap.size (w.alloc (.cells #[.int .i64 1, .string ⟨#[111, 108, 100]⟩, .int .i64 0, .int .i64 100] 37)) w' := by
  have h := Rotate_c (some ⟨w.heap.size, 0, none⟩) 1 l0 (by decide) ⟨#[110, 101, 119]⟩ 50 10 100 (w.alloc (.cells #[.int .i64 1, .string ⟨#[111, 108, 100]⟩, .int .i64 0, .int .i64 100] 37)) (l0_at w) (hL.on (below_alloc _ _)).et
  rw [rot0.1, rot0.2.1, rot0.2.2] at h
  refine h.mono ?_
  rintro y w' ⟨v, rfl, ho, hb⟩
  obtain ⟨a, c, rfl, hA⟩ := crd_of_row ho
  exact ⟨a, c, rfl, hA, hb⟩
theorem end_m0 (a : Option Addr) (c : Nat) (w : World) (hA : CrdAt w.heap.size w a m0) (hL : Lay w) : Calls Tryz.prog 13 #[.slice a 2 c, .int .i64 2, .int .i64 55] w fun y w' => ∃ a c, y = .returned (.tuple #[.slice a 2 c, .int .i64 0]) ∧ CrdAt w'.heap.size w' a n0 ∧ Below w.heap.size w w' := by
  have h := End_c a c m0 (by decide) 2 55 (by decide) w hA hL.et
  refine Calls.mono (show Calls Tryz.prog 13 #[.slice a 2 c, .int .i64 2, .int .i64 55] w (EndP m0 2 55 w) from h) ?_
  rintro y w' ⟨v, rfl, ho, hb⟩
  rw [end0.1] at ho
  rw [end0.2]
  obtain ⟨a, c, rfl, hA⟩ := crd_of_row ho
  exact ⟨a, c, rfl, hA, hb⟩
theorem hold_55 (a : Option Addr) (c : Nat) (w : World) (hA : CrdAt w.heap.size w a m0) : Calls Tryz.prog 17 #[.slice a 2 c, .int .i64 55] w (RowP m0 2 w) := by
  have h := Holding_c a c m0 (by decide) 55 w hA
  rw [hold55] at h
  exact Calls.mono (show Calls Tryz.prog 17 #[.slice a 2 c, .int .i64 55] w (ChP m0 w) from h) fun _ _ h => h.row rfl
theorem hold_60 (a : Option Addr) (c : Nat) (w : World) (hA : CrdAt w.heap.size w a m0) : Calls Tryz.prog 17 #[.slice a 2 c, .int .i64 60] w (RowP [⟨2, ⟨#[110, 101, 119]⟩, 50, 150⟩] 1 w) := by
  have h := Holding_c a c m0 (by decide) 60 w hA
  rw [hold60] at h
  exact Calls.mono (show Calls Tryz.prog 17 #[.slice a 2 c, .int .i64 60] w (ChP _ w) from h) fun _ _ h => h.row rfl
theorem hold_70 (a : Option Addr) (c : Nat) (w : World) (hA : CrdAt w.heap.size w a n0) : Calls Tryz.prog 17 #[.slice a 2 c, .int .i64 70] w (RowP [] 0 w) := by
  have h := Holding_c a c n0 (by decide) 70 w hA
  rw [hold70] at h
  exact Calls.mono (show Calls Tryz.prog 17 #[.slice a 2 c, .int .i64 70] w (ChP _ w) from h) fun _ _ h => h.row rfl
theorem check_55 (a : Option Addr) (c : Nat) (w : World) (hA : CrdAt w.heap.size w a m0) (hL : Lay w) : Calls Tryz.prog 21 #[.slice a 2 c, .int .i64 55, .string chB, .string ⟨#[97, 99, 109, 101]⟩, .string prB] w fun y w' => y = .returned (.tuple #[.int .i64 1, .bool true]) ∧ Below w.heap.size w w' := by
  have h := Check_c a c m0 (by decide) 55 chB ⟨#[97, 99, 109, 101]⟩ prB (by rw [chB_size]; decide) (by decide) (by rw [prB_size]; decide) w hA hL
  rw [hold55, chk55] at h
  exact h
theorem check_60 (a : Option Addr) (c : Nat) (w : World) (hA : CrdAt w.heap.size w a m0) (hL : Lay w) : Calls Tryz.prog 21 #[.slice a 2 c, .int .i64 60, .string chB, .string ⟨#[97, 99, 109, 101]⟩, .string prB] w fun y w' => y = .returned (.tuple #[.int .i64 0, .bool false]) ∧ Below w.heap.size w w' := by
  have h := Check_c a c m0 (by decide) 60 chB ⟨#[97, 99, 109, 101]⟩ prB (by rw [chB_size]; decide) (by decide) (by rw [prB_size]; decide) w hA hL
  rw [hold60, chk60] at h
  exact h
set_option maxRecDepth 100000 in
set_option maxHeartbeats 4000000 in
theorem shown_c (w : World) (hL : Lay w) : Calls Tryz.prog 8 #[] w fun y w' => y = .returned (.bool true) ∧ Below w.heap.size w w' := by
  have HR := Lib.hid (rot_l0 w hL)
  have HL := Lib.hid hL
  have HCH := Lib.hid (fun W h => by have := Challenge_c 1 2 W h; rw [ch_12] at this; exact this)
  have HAN := Lib.hid (fun W h => by have := Answer_c ⟨#[111, 108, 100]⟩ chB ⟨#[97, 99, 109, 101]⟩ (by rw [chB_size]; decide) (by decide) W h; rw [ans_old] at this; exact this)
  have H55 := Lib.hid hold_55
  have H60 := Lib.hid hold_60
  have H70 := Lib.hid hold_70
  have K55 := Lib.hid check_55
  have K60 := Lib.hid check_60
  have HEN := Lib.hid end_m0
  clear hL
  generalize chB = C at *
  generalize prB = P at *
  go_enter Tryz.func8, Tryz.ntmps8
  go_wp2_with fail
  refine HR.out.mono ?_; rintro e w1 ⟨a1, c1, rfl, hA, hb⟩
  have B1 := Lib.hid (btr (below_alloc w _) hb)
  have A1 := Lib.hid hA
  clear hb hA
  go_wp2_with fail
  refine (HCH.out _ (HL.out.on B1.out)).mono ?_; rintro e w2 ⟨rfl, hb⟩
  have B2 := Lib.hid (btr B1.out hb)
  have A2 := Lib.hid (A1.out.on hb)
  clear hb
  go_wp2_with fail
  refine (HAN.out _ (HL.out.on B2.out)).mono ?_; rintro e w3 ⟨rfl, hb⟩
  have B3 := Lib.hid (btr B2.out hb)
  have A3 := Lib.hid (A2.out.on hb)
  clear hb
  go_wp2_with fail
  refine (K55.out _ _ _ A3.out (HL.out.on B3.out)).mono ?_; rintro e w4 ⟨rfl, hb⟩
  have B4 := Lib.hid (btr B3.out hb)
  have A4 := Lib.hid (A3.out.on hb)
  clear hb
  go_wp2_with fail
  refine (K60.out _ _ _ A4.out (HL.out.on B4.out)).mono ?_; rintro e w5 ⟨rfl, hb⟩
  have B5 := Lib.hid (btr B4.out hb)
  have A5 := Lib.hid (A4.out.on hb)
  clear hb
  go_wp2_with fail
  refine (HEN.out _ _ _ A5.out (HL.out.on B5.out)).mono ?_; rintro e w6 ⟨a2, c2, rfl, hA, hb⟩
  have B6 := Lib.hid (btr B5.out hb)
  have A6 := Lib.hid (A5.out.on hb)
  have N6 := Lib.hid hA
  clear hb hA
  go_wp2_with fail
  refine (H55.out _ _ _ A6.out).mono ?_; rintro e w7 ⟨a3, c3, rfl, _, hb⟩
  have B7 := Lib.hid (btr B6.out hb)
  have A7 := Lib.hid (A6.out.on hb)
  have N7 := Lib.hid (N6.out.on hb)
  clear hb
  go_wp2_with fail
  refine (H60.out _ _ _ A7.out).mono ?_; rintro e w8 ⟨a4, c4, rfl, _, hb⟩
  have B8 := Lib.hid (btr B7.out hb)
  have N8 := Lib.hid (N7.out.on hb)
  clear hb
  go_wp2_with fail
  refine (H70.out _ _ _ N8.out).mono ?_; rintro e w9 ⟨a5, c5, rfl, _, hb⟩
  have B9 := Lib.hid (btr B8.out hb)
  clear hb
  go_wp2
  go_ret
  exact ⟨ret_bool (by first | rfl | simp), B9.out⟩
end Go.Proofs.YtikpmkidfppknaaGreatDoor

/- Rotations and ends as plain functions. -/
namespace Go.Proofs.YtikpmkidfppknaaGreatDoor
open Go.RowKit Go.Shelf
attribute [local go_sem] Oper.semAt_some

theorem right_iff (l : List Crd) : rightB l = true ↔ l.length ≤ 4 ∧ (∀ x ∈ l, credOK x = true) ∧ (idsL l).Pairwise (· < ·) := by
  unfold rightB
  rw [Bool.and_eq_true, Bool.and_eq_true, decide_eq_true_iff, List.all_eq_true, riseB_iff]
theorem credOK_iff (x : Crd) : credOK x = true ↔ (1 ≤ x.i ∧ x.i ≤ 1000000000) ∧ isKeyB x.k = true ∧ (0 ≤ x.f ∧ x.f < x.t ∧ x.t ≤ 1000000000000) := by
  simp [credOK, idOK, spanOK, and_assoc]
theorem grt_max {l : List Crd} (h : (idsL l).Pairwise (· < ·)) {x : Crd} (hx : x ∈ l) : x.i ≤ grtL l := by
  obtain ⟨j, hj, rfl⟩ := List.getElem_of_mem hx
  obtain ⟨p, hp⟩ : ∃ p, l.length = p + 1 := ⟨l.length - 1, by omega⟩
  rw [grtL_last l p hp]
  rcases Nat.lt_or_ge j p with h1 | h1
  · have hl : (idsL l).length = l.length := List.length_map _
    have := List.pairwise_iff_getElem.1 h j p (by omega) (by omega) h1
    simp [idsL] at this
    omega
  · have : j = p := by omega
    subst this
    exact Int.le_refl _
theorem mem_ch {sF : Crd → Bool} {dF : Crd → Crd} {l : List Crd} {y : Crd} : y ∈ chL sF dF l ↔ ∃ x ∈ l, sF x = true ∧ dF x = y := by
  unfold chL
  rw [List.mem_map]
  constructor
  · rintro ⟨x, hx, h⟩
    obtain ⟨h1, h2⟩ := List.mem_filter.1 hx
    exact ⟨x, h1, h2, h⟩
  · rintro ⟨x, h1, h2, h⟩
    exact ⟨x, List.mem_filter.2 ⟨h1, h2⟩, h⟩
theorem ids_ch {sF : Crd → Bool} {dF : Crd → Crd} (hd : ∀ x, (dF x).i = x.i) (l : List Crd) : idsL (chL sF dF l) = idsL (l.filter sF) := by
  unfold idsL chL
  rw [List.map_map]
  exact List.map_congr_left fun x _ => hd x
theorem rise_ch {sF : Crd → Bool} {dF : Crd → Crd} (hd : ∀ x, (dF x).i = x.i) {l : List Crd} (h : (idsL l).Pairwise (· < ·)) : (idsL (chL sF dF l)).Pairwise (· < ·) := by
  rw [ids_ch hd]
  exact List.Pairwise.sublist ((List.filter_sublist).map _) h
theorem firstN_ne : ∀ (l : List (Bool × Int)), (∀ p ∈ l, p.2 ≠ 0) → l.all (·.1) = false → firstN l ≠ 0
  | [], _, h => by cases h
  | (true, c) :: l, hp, h => by
    rw [List.all_cons] at h
    exact firstN_ne l (fun p hm => hp p (List.mem_cons_of_mem _ hm)) (by simpa using h)
  | (false, c) :: l, hp, _ => hp (false, c) List.mem_cons_self
theorem rot_two (l : List Crd) (key : ByteArray) (now overlap span : Int) : (rotN l key now overlap span = 0 ∧ rotK l key now overlap span = true ∧ rotF l key now overlap span = false ∧ rotM l key now overlap span = rotL l key now overlap span ∧ rotI l key now overlap span = grtL l + 1) ∨ (rotN l key now overlap span ≠ 0 ∧ rotM l key now overlap span = [] ∧ rotI l key now overlap span = 0) := by
  unfold rotN rotM rotI
  cases hk : rotK l key now overlap span
  · refine .inr ⟨?_, rfl, rfl⟩
    rw [if_neg (by decide)]
    exact firstN_ne _ (by simp [rotCh]) hk
  · cases hf : rotF l key now overlap span
    · exact .inl ⟨rfl, rfl, rfl, rfl, rfl⟩
    · refine .inr ⟨?_, rfl, rfl⟩
      rw [if_pos rfl, if_pos rfl]; decide
theorem rotD_i (last : Int) (x : Crd) : (rotD last x).i = x.i := rfl
theorem rot_right {l : List Crd} {key : ByteArray} {now overlap span : Int} (hk : rotK l key now overlap span = true) (hf : rotF l key now overlap span = false) : rightB (rotL l key now overlap span) = true := by
  obtain ⟨f1, f2, f3, f4, f5, f6⟩ := rotK_facts hk
  obtain ⟨g1, g2, g3⟩ := (right_iff l).1 f1
  have hg := grtL_bound (right_ids f1)
  unfold rotF at hf
  rw [Bool.or_eq_false_iff, decide_eq_false_iff_not, decide_eq_false_iff_not] at hf
  refine (right_iff _).2 ⟨by omega, fun y hy => ?_, ?_⟩
  · unfold rotL at hy
    rcases List.mem_append.1 hy with h | h
    · obtain ⟨x, hx, hs, rfl⟩ := mem_ch.1 h
      obtain ⟨q1, q2, q3⟩ := (credOK_iff x).1 (g2 x hx)
      unfold rotS at hs
      rw [Bool.and_eq_true, decide_eq_true_iff, decide_eq_true_iff] at hs
      refine (credOK_iff _).2 ⟨q1, q2, q3.1, ?_, ?_⟩
      · show x.f < min x.t (now + overlap); omega
      · show min x.t (now + overlap) ≤ _; omega
    · rw [List.mem_singleton] at h
      subst h
      exact (credOK_iff _).2 ⟨⟨by show 1 ≤ grtL l + 1; omega, by show grtL l + 1 ≤ _; omega⟩, f2, f3.1, by show now < now + span; omega, by show now + span ≤ _; omega⟩
  · unfold rotL
    rw [idsL_append, List.pairwise_append]
    refine ⟨rise_ch (rotD_i _) g3, List.pairwise_singleton _ _, ?_⟩
    intro a ha b hb
    rw [ids_ch (rotD_i _)] at ha
    obtain ⟨x, hx, rfl⟩ := List.mem_map.1 ha
    have hx := (List.mem_filter.1 hx).1
    have := grt_max g3 hx
    simp only [idsL, List.map_cons, List.map_nil, List.mem_singleton] at hb
    omega
theorem in_hold {l : List Crd} (hr : rightB l = true) (at_ id : Int) : inB (holdL l at_) id = true ↔ ∃ x ∈ l, x.i = id ∧ holdB at_ x = true := by
  rw [inB_iff]
  unfold holdL
  rw [if_pos hr]
  constructor
  · rintro ⟨x, hx, h⟩
    obtain ⟨h1, h2⟩ := List.mem_filter.1 hx
    exact ⟨x, h1, h, h2⟩
  · rintro ⟨x, h1, h, h2⟩
    exact ⟨x, List.mem_filter.2 ⟨h1, h2⟩, h⟩
theorem holdB_iff (now : Int) (x : Crd) : holdB now x = true ↔ x.f ≤ now ∧ now < x.t := by simp [holdB]
theorem rot_new {l : List Crd} {key : ByteArray} {now overlap span at_ : Int} (hk : rotK l key now overlap span = true) (hf : rotF l key now overlap span = false) (ha : now ≤ at_) : inB (holdL (rotL l key now overlap span) at_) (grtL l + 1) = decide (at_ < now + span) := by
  obtain ⟨f1, f2, f3, f4, f5, f6⟩ := rotK_facts hk
  obtain ⟨g1, g2, g3⟩ := (right_iff l).1 f1
  rw [Bool.eq_iff_iff, decide_eq_true_iff, in_hold (rot_right hk hf)]
  constructor
  · rintro ⟨y, hy, hi, hh⟩
    unfold rotL at hy
    rcases List.mem_append.1 hy with h | h
    · obtain ⟨x, hx, hs, rfl⟩ := mem_ch.1 h
      have := grt_max g3 hx
      have h2 : x.i = grtL l + 1 := hi
      omega
    · rw [List.mem_singleton] at h
      subst h
      exact ((holdB_iff _ _).1 hh).2
  · intro h
    refine ⟨⟨grtL l + 1, key, now, now + span⟩, by unfold rotL; simp, rfl, (holdB_iff _ _).2 ⟨ha, h⟩⟩
theorem rot_old {l : List Crd} {key : ByteArray} {now overlap span at_ : Int} (hk : rotK l key now overlap span = true) (hf : rotF l key now overlap span = false) (ha : now ≤ at_) {x : Crd} (hx : x ∈ holdL l now) : inB (holdL (rotL l key now overlap span) at_) x.i = (decide (at_ < x.t) && decide (at_ < now + overlap)) := by
  obtain ⟨f1, f2, f3, f4, f5, f6⟩ := rotK_facts hk
  obtain ⟨g1, g2, g3⟩ := (right_iff l).1 f1
  unfold holdL at hx
  rw [if_pos f1] at hx
  obtain ⟨hx, hh⟩ := List.mem_filter.1 hx
  have hh := (holdB_iff _ _).1 hh
  have hgx := grt_max g3 hx
  rw [Bool.eq_iff_iff, in_hold (rot_right hk hf), Bool.and_eq_true, decide_eq_true_iff, decide_eq_true_iff]
  constructor
  · rintro ⟨y, hy, hi, hyh⟩
    have hyh := (holdB_iff _ _).1 hyh
    unfold rotL at hy
    rcases List.mem_append.1 hy with h | h
    · obtain ⟨z, hz, hs, rfl⟩ := mem_ch.1 h
      obtain rfl : z = x := uniq_id (right_nodup f1) hz hx hi
      have : at_ < min z.t (now + overlap) := hyh.2
      omega
    · rw [List.mem_singleton] at h
      subst h
      have h2 : grtL l + 1 = x.i := hi
      omega
  · rintro ⟨h1, h2⟩
    refine ⟨rotD (now + overlap) x, ?_, rfl, (holdB_iff _ _).2 ⟨?_, ?_⟩⟩
    · unfold rotL
      refine List.mem_append_left _ (mem_ch.2 ⟨x, hx, ?_, rfl⟩)
      unfold rotS
      rw [Bool.and_eq_true, decide_eq_true_iff, decide_eq_true_iff]
      omega
    · show x.f ≤ at_; omega
    · show at_ < min x.t (now + overlap); omega
theorem grt_not_in {l : List Crd} (hr : rightB l = true) : inB l (grtL l + 1) = false := by
  cases h : inB l (grtL l + 1)
  · rfl
  · obtain ⟨x, hx, hi⟩ := (inB_iff _ _).1 h
    have := grt_max ((right_iff l).1 hr).2.2 hx
    omega
end Go.Proofs.YtikpmkidfppknaaGreatDoor
