/- Wor -/
import Derived.Test.YtkokcfhfgnkdfaaGreatDoorZ9
import Derived.Test.YtkokcfhfgnkdfaaGreatDoorZWcr
import Derived.Test.YtkokcfhfgnkdfaaGreatDoorZWal
/- The law of order. -/
namespace Go.Proofs.YtkokcfhfgnkdfaaGreatDoor.L17
open Go.RowKit Go.Shelf
open L1 (str)
open L14 (isSt goes dest inB outB endB Laid)
attribute [local go_sem] Oper.semAt_some

theorem Way1.ends {cap : Nat} {y : Wy} {inn out : List UInt8} {e : Bool} (h : Way1 cap y inn out e) :
    y.fd = (str inn).size ∧ y.dr = (str out).size ∧ (str out).size ≤ (str inn).size ∧ (str inn).extract 0 (str out).size = str out ∧ (str out).size ≤ y.mv ∧ y.mv ≤ (str inn).size := by
  rw [str_take, L1.str_size, L1.str_size]
  have h1 := h.pre.length_le
  simp only [List.length_append] at h1
  have h2 := h.fd
  have h3 := h.dr
  have h4 := h.mv
  refine ⟨h2, h3, by omega, ?_, by omega, by omega⟩
  show str (inn.take out.length) = str out
  have hp : out <+: inn := by
    have := h.pre
    rw [List.append_assoc] at this
    exact (List.prefix_append _ _).trans this
  rw [← List.prefix_iff_eq_take.1 hp]
theorem cell_othB {w : World} (X o : Nat) (v : Value) {Y p : Nat} {u : Value} (hc : w.cell? ⟨Y, p, none⟩ = some u) (h : X ≠ Y) : (w.setCell ⟨X, o, none⟩ v).cell? ⟨Y, p, none⟩ = some u :=
  (World.cell?_setCell_other w _ _ v (fun e => h (congrArg Addr.block e))).trans hc
theorem Both.cap0 {n : Nat} {t : Tn} {i0 o0 i1 o1 : List UInt8} {c : Nat} (h : Both n t i0 o0 i1 o1) (hc : t.Cn c) : (str i0).size ≤ c ∧ (str o0).size ≤ c := by
  have h1 := h.a.fd; have h3 := hc.a.fd; have h4 := h.a.pre.length_le
  simp only [List.length_append] at h4
  rw [L1.str_size, L1.str_size]
  exact ⟨by omega, by omega⟩
theorem Both.cap1 {n : Nat} {t : Tn} {i0 o0 i1 o1 : List UInt8} {c : Nat} (h : Both n t i0 o0 i1 o1) (hc : t.Cn c) : (str i1).size ≤ c ∧ (str o1).size ≤ c := by
  have h1 := h.b.fd; have h3 := hc.b.fd; have h4 := h.b.pre.length_le
  simp only [List.length_append] at h4
  rw [L1.str_size, L1.str_size]
  exact ⟨by omega, by omega⟩
set_option maxRecDepth 100000 in
set_option maxHeartbeats 4000000 in
theorem order_ok (n : Nat) (h1 : 1 ≤ n) (h2 : n ≤ 4096) (a : Option Addr) (c : Nat) (xs : List OpV) (w : World) (hx : xs.length ≤ 9223372036854775807) (hA : OpVAt w.heap.size w a xs) (hL : Laid w) :
    Calls Tryz.prog 4 #[.int .i64 (n : Int), .slice a xs.length c] w fun e w' => e = .returned (.bool true) ∧ Below w.heap.size w w' := by
  have HSh := Lib.hid (shown_c w hL)
  have HL0 := Lib.hid hL
  have HA := Lib.hid hA
  clear hA
  clear hL
  go_enter Tryz.func4, Tryz.ntmps4
  go_wp2_with fail
  go_at_call 10
  refine HSh.out.mono ?_
  rintro e v0 ⟨rfl, hb⟩
  have HB0 := Lib.hid hb
  have HLv0 := Lib.hid (HL0.out.on hb)
  clear hb
  go_wp2_with fail
  have hc := Cut_s a c xs hx v0 (HA.out.on HB0.out)
  go_at_call 11
  refine hc.mono ?_
  clear hc
  rintro e v1 ⟨az, cz, rfl, hoz, hb⟩
  have HO := Lib.hid hoz
  have HLv1 := Lib.hid (HLv0.out.on hb)
  have HB1 := Lib.hid (btr HB0.out hb)
  have hln := cutL_len xs
  have HZ := Lib.hid (And.intro (cutL_size xs) hln)
  obtain ⟨zs, hzs⟩ : ∃ zs, cutL xs = zs := ⟨_, rfl⟩
  rw [hzs] at HO HZ hln ⊢
  clear hoz hb hzs
  go_wp2_with fail
  have hc := Made_ok n h1 h2 none 0 [] (by simp) v1 (OpVAt.nil _ _ _) HLv1.out
  change Calls Tryz.prog _ #[.int .i64 (n : Int), .slice none 0 0] _ _ at hc
  go_at_call 20
  refine hc.mono ?_
  clear hc
  rintro e v2 ⟨T, hi, rfl, ht, hTz, hb⟩
  have HTn2 : Hid (TunAt v2 T hi n upT) := Lib.hid ht
  have HB2 := Lib.hid (btr HB1.out hb)
  have HLv2 := Lib.hid (HLv1.out.on hb)
  have HO2 := Lib.hid (HO.out.below hb)
  have lg : 0 < T := by obtain ⟨_, _, _, q⟩ := ht; exact q.lg
  have hzT : w.heap.size ≤ T := Nat.le_trans HB1.out.size hTz
  have hz2 := ht.lz
  have hs12 := hb.size
  have hB10 := HB1.out.size
  clear ht hb HO
  obtain ⟨n0, hn0⟩ : ∃ n0, v1.heap.size = n0 := ⟨_, rfl⟩
  rw [hn0] at HO2 hTz hs12 hB10
  have hnT : n0 ≤ T := hTz
  go_wp2
  obtain ⟨G, hG⟩ : ∃ G, v2.heap.size = G := ⟨_, rfl⟩
  have hBa : Below v2.heap.size v2 ((v2.alloc (.cells #[.string ⟨#[]⟩, .string ⟨#[]⟩] 48)).alloc (.cells #[.string ⟨#[]⟩, .string ⟨#[]⟩] 48)) := bal (below_alloc v2 _) _
  have hz3 : ((v2.alloc (.cells #[.string ⟨#[]⟩, .string ⟨#[]⟩] 48)).alloc (.cells #[.string ⟨#[]⟩, .string ⟨#[]⟩] 48)).heap.size = v2.heap.size + 2 := by rw [World.size_alloc, World.size_alloc]
  have a0 : ((v2.alloc (.cells #[.string ⟨#[]⟩, .string ⟨#[]⟩] 48)).alloc (.cells #[.string ⟨#[]⟩, .string ⟨#[]⟩] 48)).cell? ⟨v2.heap.size, 0, none⟩ = some (.string ⟨#[]⟩) := by go_simp
  have a1 : ((v2.alloc (.cells #[.string ⟨#[]⟩, .string ⟨#[]⟩] 48)).alloc (.cells #[.string ⟨#[]⟩, .string ⟨#[]⟩] 48)).cell? ⟨v2.heap.size, 1, none⟩ = some (.string ⟨#[]⟩) := by go_simp
  have b0 : ((v2.alloc (.cells #[.string ⟨#[]⟩, .string ⟨#[]⟩] 48)).alloc (.cells #[.string ⟨#[]⟩, .string ⟨#[]⟩] 48)).cell? ⟨v2.heap.size + 1, 0, none⟩ = some (.string ⟨#[]⟩) := by go_simp
  have b1 : ((v2.alloc (.cells #[.string ⟨#[]⟩, .string ⟨#[]⟩] 48)).alloc (.cells #[.string ⟨#[]⟩, .string ⟨#[]⟩] 48)).cell? ⟨v2.heap.size + 1, 1, none⟩ = some (.string ⟨#[]⟩) := by go_simp
  have fa0 : ((v2.alloc (.cells #[.string ⟨#[]⟩, .string ⟨#[]⟩] 48)).alloc (.cells #[.string ⟨#[]⟩, .string ⟨#[]⟩] 48)).frozen? ⟨v2.heap.size, 0, none⟩ = false := by go_simp
  have fa1 : ((v2.alloc (.cells #[.string ⟨#[]⟩, .string ⟨#[]⟩] 48)).alloc (.cells #[.string ⟨#[]⟩, .string ⟨#[]⟩] 48)).frozen? ⟨v2.heap.size, 1, none⟩ = false := by go_simp
  have fb0 : ((v2.alloc (.cells #[.string ⟨#[]⟩, .string ⟨#[]⟩] 48)).alloc (.cells #[.string ⟨#[]⟩, .string ⟨#[]⟩] 48)).frozen? ⟨v2.heap.size + 1, 0, none⟩ = false := by go_simp
  have fb1 : ((v2.alloc (.cells #[.string ⟨#[]⟩, .string ⟨#[]⟩] 48)).alloc (.cells #[.string ⟨#[]⟩, .string ⟨#[]⟩] 48)).frozen? ⟨v2.heap.size + 1, 1, none⟩ = false := by go_simp
  have HT3 := Lib.hid (HTn2.out.below hBa)
  have HL3 := Lib.hid (HLv2.out.on hBa)
  have HB3 := Lib.hid (btr HB2.out hBa)
  have HO3 := Lib.hid (HO2.out.below (hBa.mono hs12))
  rw [hG] at a0 a1 b0 b1 fa0 fa1 fb0 fb1 hz2 hs12 hz3 ⊢
  clear hBa HTn2 HLv2 HB2 HO2
  generalize ((v2.alloc (.cells #[.string ⟨#[]⟩, .string ⟨#[]⟩] 48)).alloc (.cells #[.string ⟨#[]⟩, .string ⟨#[]⟩] 48)) = v3 at *
  have nG : ¬ Rin T hi G := fun e => by have := e.2; omega
  have nH : ¬ Rin T hi (G + 1) := fun e => by have := e.2; omega
  go_loopw [10] (fun i wr => ∃ (k : Nat) (t : Tn) (i0 o0 i1 o1 : List UInt8), k ≤ zs.length ∧ i = .int .i64 (k : Int) ∧ Hid (TunAt wr T hi n t) ∧ Hid (Both n t i0 o0 i1 o1) ∧ Hid (t.Cn (50 * k)) ∧ Hid (Goes (fun i => n0 ≤ i) v3 wr) ∧ wr.cell? ⟨G, 0, none⟩ = some (.string (str i0)) ∧ wr.cell? ⟨G, 1, none⟩ = some (.string (str i1)) ∧ wr.cell? ⟨G + 1, 0, none⟩ = some (.string (str o0)) ∧ wr.cell? ⟨G + 1, 1, none⟩ = some (.string (str o1)) ∧ wr.frozen? ⟨G, 0, none⟩ = false ∧ wr.frozen? ⟨G, 1, none⟩ = false ∧ wr.frozen? ⟨G + 1, 0, none⟩ = false ∧ wr.frozen? ⟨G + 1, 1, none⟩ = false) (fun i _ => zs.length - (intOf i).toNat)
  case atStart => exact ⟨0, upT, [], [], [], [], Nat.zero_le _, rfl, HT3, Lib.hid (up_both n), Lib.hid up_cn, Lib.hid (Goes.refl _ _), a0, a1, b0, b1, fa0, fa1, fb0, fb1⟩
  case round =>
    clear a0 a1 b0 b1 fa0 fa1 fb0 fb1
    obtain ⟨k, t, i0, o0, i1, o1, hk, rfl, HT, HS, HC, HG, a0, a1, b0, b1, fa0, fa1, fb0, fb1⟩ := hrel
    by_cases hlt : k < zs.length
    · have hlt' : (k : Int) < (zs.length : Int) := by omega
      obtain ⟨b, off, rfl, hbn, d0, d1, d2, d3⟩ := (HO3.out.goes HG.out (fun i h => h)) k hlt
      have hxs := HZ.out.1 zs[k] (List.getElem_mem hlt)
      have HLr : Hid (Laid wr) := Lib.hid (HG.out.cell HL3.out (fun e => by omega))
      generalize zs[k] = x at *
      have HD := Lib.hid (do_c T hi n t x (by omega) (HC.out.sm (by omega)) wr HT.out HLr.out)
      have HS2 := Lib.hid (HS.out.step x)
      have HC2 := Lib.hid (HC.out.step (cap := n) x hxs)
      unfold opV at HD
      have hNs : x.kind = 2 → doE t x = 0 → doN n t x ≤ x.s.size := fun h2 he => by
        have e4 : doE t x = feedE t x.side := by unfold doE; rw [if_neg (by omega), if_neg (by omega), if_pos h2]
        unfold doN; rw [if_pos h2]; unfold feedTN; rw [if_pos (e4.symm.trans he)]; exact Nat.min_le_left _ _
      have HI1_0 := Lib.hid (show ¬ (x.side = 0 ∧ x.kind = 2 ∧ doE t x = 0) → inX n t x 0 = [] from fun h => if_neg h)
      have HI2_0 := Lib.hid (show (x.side = 0 ∧ x.kind = 2 ∧ doE t x = 0) → inX n t x 0 = x.s.data.toList.take (doN n t x) from fun h => if_pos h)
      have HO1_0 := Lib.hid (show ¬ (x.side = 0 ∧ doE t x = 0) → outX t x 0 = [] from fun h => if_neg h)
      have HO2_0 := Lib.hid (show (x.side = 0 ∧ doE t x = 0) → outX t x 0 = doS t x from fun h => if_pos h)
      have HI1_1 := Lib.hid (show ¬ (x.side = 1 ∧ x.kind = 2 ∧ doE t x = 0) → inX n t x 1 = [] from fun h => if_neg h)
      have HI2_1 := Lib.hid (show (x.side = 1 ∧ x.kind = 2 ∧ doE t x = 0) → inX n t x 1 = x.s.data.toList.take (doN n t x) from fun h => if_pos h)
      have HO1_1 := Lib.hid (show ¬ (x.side = 1 ∧ doE t x = 0) → outX t x 1 = [] from fun h => if_neg h)
      have HO2_1 := Lib.hid (show (x.side = 1 ∧ doE t x = 0) → outX t x 1 = doS t x from fun h => if_pos h)
      obtain ⟨E6, hE6⟩ : ∃ E, doE t x = E := ⟨_, rfl⟩
      obtain ⟨N6, hN6⟩ : ∃ E, doN n t x = E := ⟨_, rfl⟩
      obtain ⟨L6, hL6⟩ : ∃ E, doS t x = E := ⟨_, rfl⟩
      obtain ⟨S6, hS6⟩ : ∃ E, str L6 = E := ⟨_, rfl⟩
      rw [hE6, hN6, hL6, hS6] at HD
      rw [hE6, hN6] at HI2_0 HI2_1
      rw [hE6] at HI1_0 HO1_0 HO2_0 HI1_1 HO1_1 HO2_1
      rw [hL6] at HO2_0 HO2_1
      have HNs := Lib.hid hNs
      rw [hE6, hN6] at HNs
      have HS6 := Lib.hid hS6
      have HXS := Lib.hid hxs
      clear hNs hE6 hN6 hL6 hS6 hxs HS HC
      have nb : ¬ Rin T hi b := fun e => by have := e.1; omega
      have hzr := HG.out.size
      rw [hz3] at hzr
      go_wp2_with fail
      go_at_call 17
      refine HD.out.mono ?_
      rintro e w6 ⟨rfl, ht6, hg6⟩
      have hz6 := hg6.size
      replace d0 := hg6.cell d0 nb
      replace d1 := hg6.cell d1 nb
      replace d3 := hg6.cell d3 nb
      replace fa0 := (hg6.frozen a0 nG).trans fa0
      replace fa1 := (hg6.frozen a1 nG).trans fa1
      replace fb0 := (hg6.frozen b0 nH).trans fb0
      replace fb1 := (hg6.frozen b1 nH).trans fb1
      replace a0 := hg6.cell a0 nG
      replace a1 := hg6.cell a1 nG
      replace b0 := hg6.cell b0 nH
      replace b1 := hg6.cell b1 nH
      have HT7 := Lib.hid (ht6.below (below_alloc w6 (.cells #[.int .i64 (N6 : Int), .string S6, .int .i64 E6] 35)))
      have HG7 := Lib.hid ((HG.out.trans (hg6.mono (fun i h => Nat.le_trans hnT h.1))).trans (Goes.of_below (below_alloc w6 (.cells #[.int .i64 (N6 : Int), .string S6, .int .i64 E6] 35))))
      have q0 : (w6.alloc (.cells #[.int .i64 (N6 : Int), .string S6, .int .i64 E6] 35)).cell? ⟨w6.heap.size, 0, none⟩ = some (.int .i64 (N6 : Int)) := by go_simp
      have q1 : (w6.alloc (.cells #[.int .i64 (N6 : Int), .string S6, .int .i64 E6] 35)).cell? ⟨w6.heap.size, 1, none⟩ = some (.string S6) := by go_simp
      have q2 : (w6.alloc (.cells #[.int .i64 (N6 : Int), .string S6, .int .i64 E6] 35)).cell? ⟨w6.heap.size, 2, none⟩ = some (.int .i64 E6) := by go_simp
      replace d0 := keep_alloc (.cells #[.int .i64 (N6 : Int), .string S6, .int .i64 E6] 35) d0
      replace d1 := keep_alloc (.cells #[.int .i64 (N6 : Int), .string S6, .int .i64 E6] 35) d1
      replace d3 := keep_alloc (.cells #[.int .i64 (N6 : Int), .string S6, .int .i64 E6] 35) d3
      replace fa0 := keep_alloc_fr (.cells #[.int .i64 (N6 : Int), .string S6, .int .i64 E6] 35) a0 fa0
      replace fa1 := keep_alloc_fr (.cells #[.int .i64 (N6 : Int), .string S6, .int .i64 E6] 35) a1 fa1
      replace fb0 := keep_alloc_fr (.cells #[.int .i64 (N6 : Int), .string S6, .int .i64 E6] 35) b0 fb0
      replace fb1 := keep_alloc_fr (.cells #[.int .i64 (N6 : Int), .string S6, .int .i64 E6] 35) b1 fb1
      replace a0 := keep_alloc (.cells #[.int .i64 (N6 : Int), .string S6, .int .i64 E6] 35) a0
      replace a1 := keep_alloc (.cells #[.int .i64 (N6 : Int), .string S6, .int .i64 E6] 35) a1
      replace b0 := keep_alloc (.cells #[.int .i64 (N6 : Int), .string S6, .int .i64 E6] 35) b0
      replace b1 := keep_alloc (.cells #[.int .i64 (N6 : Int), .string S6, .int .i64 E6] 35) b1
      clear ht6 hg6 HG HT HLr HD d2
      by_cases hE : E6 = 0
      · subst hE
        by_cases hs0 : x.side = 0
        · have hsd := hs0
          clear hs0
          rw [hsd] at d1
          have no : ¬ x.side = 1 := by omega
          have ri1 := HI1_1.out (fun h => no h.1)
          have ro1 := HO1_1.out (fun h => no h.1)
          have ro0 := HO2_0.out ⟨hsd, rfl⟩
          rw [ri1, ro1, ro0, List.append_nil, List.append_nil] at HS2
          by_cases hK : x.kind = 2
          · have ri0 := HI2_0.out ⟨hsd, hK, rfl⟩
            have hN := HNs.out hK rfl
            rw [ri0] at HS2
            obtain ⟨z1, z2⟩ := Both.cap0 HS2.out HC2.out
            rw [str_app, ByteArray.size_append] at z1 z2
            rw [HS6.out] at z2
            have hxs := HXS.out
            have z3 : (x.s.extract 0 N6).size ≤ 50 := by rw [ByteArray.size_extract]; omega
            have hn1 : (N6 : Int) ≤ (x.s.size : Int) := by omega
            have hn2 : ¬ (x.s.size : Int) < (N6 : Int) := by omega
            have hn3 : ¬ (N6 : Int) < 0 := by omega
            have hst : str (x.s.data.toList.take N6) = x.s.extract 0 N6 := (str_take x.s N6).symm
            have hsz : (str (x.s.data.toList.take N6)).size = (x.s.extract 0 N6).size := by rw [hst]
            rw [hsz] at z1
            have y1 : ¬ 9223372036854775807 < (str i0).size + (x.s.extract 0 N6).size := by omega
            have y2 : ¬ 9223372036854775807 < (str o0).size + S6.size := by omega
            have y3 : ∀ W, (Op.stringOp .add (str i0) (x.s.extract 0 N6)).run Tryz.prog W = .ok (.string (str i0 ++ x.s.extract 0 N6)) W := fun W => run_string_add_sum W _ _ (by omega)
            have HST := Lib.hid hst
            rw [hK] at d0
            clear hsd hK hN no ri1 ro1 ro0 ri0 hst hsz
            generalize x.s = s at *
            generalize x.side = sd at *
            generalize x.kind = kd at *
            generalize x.n = nn at *
            go_wp2_with fail
            generalize (w6.alloc (.cells #[.int .i64 (N6 : Int), .string S6, .int .i64 0] 35)) = V5 at *
            have HTd := Lib.hid (HT7.out.below (below_drew (Below.refl _ _)))
            have HGd := Lib.hid (HG7.out.trans (Goes.of_below (below_drew (Below.refl _ _))))
            clear HT7 HG7
            go_still_tail 13, (by kernel_rfl)
            change wpList _ _ _ _ _ V5.drew
            change V5.drew.cell? _ = _ at a0
            change V5.drew.frozen? _ = _ at fa0
            change V5.drew.cell? _ = _ at a1
            change V5.drew.frozen? _ = _ at fa1
            change V5.drew.cell? _ = _ at b0
            change V5.drew.frozen? _ = _ at fb0
            change V5.drew.cell? _ = _ at b1
            change V5.drew.frozen? _ = _ at fb1
            change V5.drew.cell? _ = _ at q0
            change V5.drew.cell? _ = _ at q1
            change V5.drew.cell? _ = _ at q2
            change V5.drew.cell? _ = _ at d0
            change V5.drew.cell? _ = _ at d1
            change V5.drew.cell? _ = _ at d3
            generalize V5.drew = V6 at *
            have HT7 := HTd
            have HG7 := HGd
            clear HTd HGd V5
            obtain ⟨V5, hV5⟩ : ∃ V, V = V6 := ⟨_, rfl⟩
            subst hV5
            go_wp2_with fail
            have HTd := Lib.hid (HT7.out.below (below_drew (Below.refl _ _)))
            have HGd := Lib.hid (HG7.out.trans (Goes.of_below (below_drew (Below.refl _ _))))
            clear HT7 HG7
            go_still_tail 14, (by kernel_rfl)
            change wpList _ _ _ _ _ V5.drew
            change V5.drew.cell? _ = _ at a0
            change V5.drew.frozen? _ = _ at fa0
            change V5.drew.cell? _ = _ at a1
            change V5.drew.frozen? _ = _ at fa1
            change V5.drew.cell? _ = _ at b0
            change V5.drew.frozen? _ = _ at fb0
            change V5.drew.cell? _ = _ at b1
            change V5.drew.frozen? _ = _ at fb1
            change V5.drew.cell? _ = _ at q1
            change V5.drew.cell? _ = _ at q2
            generalize V5.drew = V6 at *
            go_wp2_with fail
            replace fa0 := (World.frozen?_setCell V6 ⟨G, 0, none⟩ ⟨G, 0, none⟩ (.string (str i0 ++ s.extract 0 N6))).trans fa0
            replace fa1 := (World.frozen?_setCell V6 ⟨G, 0, none⟩ ⟨G, 1, none⟩ (.string (str i0 ++ s.extract 0 N6))).trans fa1
            replace fb0 := (World.frozen?_setCell V6 ⟨G, 0, none⟩ ⟨(G + 1), 0, none⟩ (.string (str i0 ++ s.extract 0 N6))).trans fb0
            replace fb1 := (World.frozen?_setCell V6 ⟨G, 0, none⟩ ⟨(G + 1), 1, none⟩ (.string (str i0 ++ s.extract 0 N6))).trans fb1
            replace q1 := cell_othB G 0 (.string (str i0 ++ s.extract 0 N6)) q1 (by omega)
            replace q2 := cell_othB G 0 (.string (str i0 ++ s.extract 0 N6)) q2 (by omega)
            have pa0 := World.cell?_setCell_same' V6 ⟨G, 0, none⟩ (.string (str i0 ++ s.extract 0 N6)) (by rw [a0]; rfl)
            have pa1 := (cell_oth V6 G 0 1 (.string (str i0 ++ s.extract 0 N6)) (by decide)).trans a1
            have pb0 := cell_othB G 0 (.string (str i0 ++ s.extract 0 N6)) b0 (by omega)
            have pb1 := cell_othB G 0 (.string (str i0 ++ s.extract 0 N6)) b1 (by omega)
            have hgs : Goes (fun i => i = G) V6 (V6.setCell ⟨G, 0, none⟩ (.string (str i0 ++ s.extract 0 N6))) := goes_set _ _ _ _ rfl
            have HT7 := Lib.hid (HTd.out.goes hgs (fun i h e => nG (e ▸ h)))
            have HG7 := Lib.hid (HGd.out.trans (hgs.mono (fun i h => by omega)))
            clear a0 a1 b0 b1 hgs HTd HGd
            generalize (V6.setCell ⟨G, 0, none⟩ (.string (str i0 ++ s.extract 0 N6))) = V5 at *
            have a0 := pa0
            have a1 := pa1
            have b0 := pb0
            have b1 := pb1
            clear pa0 pa1 pb0 pb1
            clear d0 d1 d3 q0
            have HTd := Lib.hid (HT7.out.below (below_drew (Below.refl _ _)))
            have HGd := Lib.hid (HG7.out.trans (Goes.of_below (below_drew (Below.refl _ _))))
            clear HT7 HG7
            go_still_tail 8, (by kernel_rfl)
            change wpList _ _ _ _ _ V5.drew
            change V5.drew.cell? _ = _ at a0
            change V5.drew.frozen? _ = _ at fa0
            change V5.drew.cell? _ = _ at a1
            change V5.drew.frozen? _ = _ at fa1
            change V5.drew.cell? _ = _ at b0
            change V5.drew.frozen? _ = _ at fb0
            change V5.drew.cell? _ = _ at b1
            change V5.drew.frozen? _ = _ at fb1
            generalize V5.drew = V6 at *
            go_wp2_with fail
            replace fa0 := (World.frozen?_setCell V6 ⟨(G + 1), 0, none⟩ ⟨G, 0, none⟩ (.string (str o0 ++ S6))).trans fa0
            replace fa1 := (World.frozen?_setCell V6 ⟨(G + 1), 0, none⟩ ⟨G, 1, none⟩ (.string (str o0 ++ S6))).trans fa1
            replace fb0 := (World.frozen?_setCell V6 ⟨(G + 1), 0, none⟩ ⟨(G + 1), 0, none⟩ (.string (str o0 ++ S6))).trans fb0
            replace fb1 := (World.frozen?_setCell V6 ⟨(G + 1), 0, none⟩ ⟨(G + 1), 1, none⟩ (.string (str o0 ++ S6))).trans fb1
            have pa0 := cell_othB (G + 1) 0 (.string (str o0 ++ S6)) a0 (by omega)
            have pa1 := cell_othB (G + 1) 0 (.string (str o0 ++ S6)) a1 (by omega)
            have pb0 := World.cell?_setCell_same' V6 ⟨(G + 1), 0, none⟩ (.string (str o0 ++ S6)) (by rw [b0]; rfl)
            have pb1 := (cell_oth V6 (G + 1) 0 1 (.string (str o0 ++ S6)) (by decide)).trans b1
            have hgs : Goes (fun i => i = (G + 1)) V6 (V6.setCell ⟨(G + 1), 0, none⟩ (.string (str o0 ++ S6))) := goes_set _ _ _ _ rfl
            have HT7 := Lib.hid (HTd.out.goes hgs (fun i h e => nH (e ▸ h)))
            have HG7 := Lib.hid (HGd.out.trans (hgs.mono (fun i h => by omega)))
            clear a0 a1 b0 b1 hgs HTd HGd
            generalize (V6.setCell ⟨(G + 1), 0, none⟩ (.string (str o0 ++ S6))) = V5 at *
            have a0 := pa0
            have a1 := pa1
            have b0 := pb0
            have b1 := pb1
            clear pa0 pa1 pb0 pb1
            rw [← HST.out, ← str_app] at a0
            rw [← HS6.out, ← str_app] at b0
            go_wp2
            go_roundw
            case rel => exact ⟨k + 1, _, (i0 ++ s.data.toList.take N6), (o0 ++ L6), i1, o1, by omega, by go_num, HT7, HS2, Lib.hid (HC2.out.mono' (by omega)), HG7, a0, a1, b0, b1, fa0, fa1, fb0, fb1⟩
            case measure => simp [intOf]; omega
          · have ri0 := HI1_0.out (fun h => hK h.2.1)
            rw [ri0, List.append_nil] at HS2
            obtain ⟨z1, z2⟩ := Both.cap0 HS2.out HC2.out
            rw [str_app, ByteArray.size_append] at z2
            rw [HS6.out] at z2
            have y2 : ¬ 9223372036854775807 < (str o0).size + S6.size := by omega
            have hK' : (x.kind == 2) = false := by simpa using hK
            clear hsd no ri1 ro1 ro0 ri0
            go_wp2_with fail
            generalize (w6.alloc (.cells #[.int .i64 (N6 : Int), .string S6, .int .i64 0] 35)) = V5 at *
            clear d0 d1 d3 q0
            have HTd := Lib.hid (HT7.out.below (below_drew (Below.refl _ _)))
            have HGd := Lib.hid (HG7.out.trans (Goes.of_below (below_drew (Below.refl _ _))))
            clear HT7 HG7
            go_still_tail 8, (by kernel_rfl)
            change wpList _ _ _ _ _ V5.drew
            change V5.drew.cell? _ = _ at a0
            change V5.drew.frozen? _ = _ at fa0
            change V5.drew.cell? _ = _ at a1
            change V5.drew.frozen? _ = _ at fa1
            change V5.drew.cell? _ = _ at b0
            change V5.drew.frozen? _ = _ at fb0
            change V5.drew.cell? _ = _ at b1
            change V5.drew.frozen? _ = _ at fb1
            generalize V5.drew = V6 at *
            go_wp2_with fail
            replace fa0 := (World.frozen?_setCell V6 ⟨(G + 1), 0, none⟩ ⟨G, 0, none⟩ (.string (str o0 ++ S6))).trans fa0
            replace fa1 := (World.frozen?_setCell V6 ⟨(G + 1), 0, none⟩ ⟨G, 1, none⟩ (.string (str o0 ++ S6))).trans fa1
            replace fb0 := (World.frozen?_setCell V6 ⟨(G + 1), 0, none⟩ ⟨(G + 1), 0, none⟩ (.string (str o0 ++ S6))).trans fb0
            replace fb1 := (World.frozen?_setCell V6 ⟨(G + 1), 0, none⟩ ⟨(G + 1), 1, none⟩ (.string (str o0 ++ S6))).trans fb1
            have pa0 := cell_othB (G + 1) 0 (.string (str o0 ++ S6)) a0 (by omega)
            have pa1 := cell_othB (G + 1) 0 (.string (str o0 ++ S6)) a1 (by omega)
            have pb0 := World.cell?_setCell_same' V6 ⟨(G + 1), 0, none⟩ (.string (str o0 ++ S6)) (by rw [b0]; rfl)
            have pb1 := (cell_oth V6 (G + 1) 0 1 (.string (str o0 ++ S6)) (by decide)).trans b1
            have hgs : Goes (fun i => i = (G + 1)) V6 (V6.setCell ⟨(G + 1), 0, none⟩ (.string (str o0 ++ S6))) := goes_set _ _ _ _ rfl
            have HT7 := Lib.hid (HTd.out.goes hgs (fun i h e => nH (e ▸ h)))
            have HG7 := Lib.hid (HGd.out.trans (hgs.mono (fun i h => by omega)))
            clear a0 a1 b0 b1 hgs HTd HGd
            generalize (V6.setCell ⟨(G + 1), 0, none⟩ (.string (str o0 ++ S6))) = V5 at *
            have a0 := pa0
            have a1 := pa1
            have b0 := pb0
            have b1 := pb1
            clear pa0 pa1 pb0 pb1
            rw [← HS6.out, ← str_app] at b0
            go_wp2
            go_roundw
            case rel => exact ⟨k + 1, _, i0, (o0 ++ L6), i1, o1, by omega, by go_num, HT7, HS2, Lib.hid (HC2.out.mono' (by omega)), HG7, a0, a1, b0, b1, fa0, fa1, fb0, fb1⟩
            case measure => simp [intOf]; omega
        by_cases hs1 : x.side = 1
        · have hsd := hs1
          clear hs1 hs0
          rw [hsd] at d1
          have no : ¬ x.side = 0 := by omega
          have ri0 := HI1_0.out (fun h => no h.1)
          have ro0 := HO1_0.out (fun h => no h.1)
          have ro1 := HO2_1.out ⟨hsd, rfl⟩
          rw [ri0, ro0, ro1, List.append_nil, List.append_nil] at HS2
          by_cases hK : x.kind = 2
          · have ri1 := HI2_1.out ⟨hsd, hK, rfl⟩
            have hN := HNs.out hK rfl
            rw [ri1] at HS2
            obtain ⟨z1, z2⟩ := Both.cap1 HS2.out HC2.out
            rw [str_app, ByteArray.size_append] at z1 z2
            rw [HS6.out] at z2
            have hxs := HXS.out
            have z3 : (x.s.extract 0 N6).size ≤ 50 := by rw [ByteArray.size_extract]; omega
            have hn1 : (N6 : Int) ≤ (x.s.size : Int) := by omega
            have hn2 : ¬ (x.s.size : Int) < (N6 : Int) := by omega
            have hn3 : ¬ (N6 : Int) < 0 := by omega
            have hst : str (x.s.data.toList.take N6) = x.s.extract 0 N6 := (str_take x.s N6).symm
            have hsz : (str (x.s.data.toList.take N6)).size = (x.s.extract 0 N6).size := by rw [hst]
            rw [hsz] at z1
            have y1 : ¬ 9223372036854775807 < (str i1).size + (x.s.extract 0 N6).size := by omega
            have y2 : ¬ 9223372036854775807 < (str o1).size + S6.size := by omega
            have y3 : ∀ W, (Op.stringOp .add (str i1) (x.s.extract 0 N6)).run Tryz.prog W = .ok (.string (str i1 ++ x.s.extract 0 N6)) W := fun W => run_string_add_sum W _ _ (by omega)
            have HST := Lib.hid hst
            rw [hK] at d0
            clear hsd hK hN no ri0 ro0 ro1 ri1 hst hsz
            generalize x.s = s at *
            generalize x.side = sd at *
            generalize x.kind = kd at *
            generalize x.n = nn at *
            go_wp2_with fail
            generalize (w6.alloc (.cells #[.int .i64 (N6 : Int), .string S6, .int .i64 0] 35)) = V5 at *
            have HTd := Lib.hid (HT7.out.below (below_drew (Below.refl _ _)))
            have HGd := Lib.hid (HG7.out.trans (Goes.of_below (below_drew (Below.refl _ _))))
            clear HT7 HG7
            go_still_tail 13, (by kernel_rfl)
            change wpList _ _ _ _ _ V5.drew
            change V5.drew.cell? _ = _ at a0
            change V5.drew.frozen? _ = _ at fa0
            change V5.drew.cell? _ = _ at a1
            change V5.drew.frozen? _ = _ at fa1
            change V5.drew.cell? _ = _ at b0
            change V5.drew.frozen? _ = _ at fb0
            change V5.drew.cell? _ = _ at b1
            change V5.drew.frozen? _ = _ at fb1
            change V5.drew.cell? _ = _ at q0
            change V5.drew.cell? _ = _ at q1
            change V5.drew.cell? _ = _ at q2
            change V5.drew.cell? _ = _ at d0
            change V5.drew.cell? _ = _ at d1
            change V5.drew.cell? _ = _ at d3
            generalize V5.drew = V6 at *
            have HT7 := HTd
            have HG7 := HGd
            clear HTd HGd V5
            obtain ⟨V5, hV5⟩ : ∃ V, V = V6 := ⟨_, rfl⟩
            subst hV5
            go_wp2_with fail
            have HTd := Lib.hid (HT7.out.below (below_drew (Below.refl _ _)))
            have HGd := Lib.hid (HG7.out.trans (Goes.of_below (below_drew (Below.refl _ _))))
            clear HT7 HG7
            go_still_tail 14, (by kernel_rfl)
            change wpList _ _ _ _ _ V5.drew
            change V5.drew.cell? _ = _ at a0
            change V5.drew.frozen? _ = _ at fa0
            change V5.drew.cell? _ = _ at a1
            change V5.drew.frozen? _ = _ at fa1
            change V5.drew.cell? _ = _ at b0
            change V5.drew.frozen? _ = _ at fb0
            change V5.drew.cell? _ = _ at b1
            change V5.drew.frozen? _ = _ at fb1
            change V5.drew.cell? _ = _ at q1
            change V5.drew.cell? _ = _ at q2
            generalize V5.drew = V6 at *
            go_wp2_with fail
            replace fa0 := (World.frozen?_setCell V6 ⟨G, 1, none⟩ ⟨G, 0, none⟩ (.string (str i1 ++ s.extract 0 N6))).trans fa0
            replace fa1 := (World.frozen?_setCell V6 ⟨G, 1, none⟩ ⟨G, 1, none⟩ (.string (str i1 ++ s.extract 0 N6))).trans fa1
            replace fb0 := (World.frozen?_setCell V6 ⟨G, 1, none⟩ ⟨(G + 1), 0, none⟩ (.string (str i1 ++ s.extract 0 N6))).trans fb0
            replace fb1 := (World.frozen?_setCell V6 ⟨G, 1, none⟩ ⟨(G + 1), 1, none⟩ (.string (str i1 ++ s.extract 0 N6))).trans fb1
            replace q1 := cell_othB G 1 (.string (str i1 ++ s.extract 0 N6)) q1 (by omega)
            replace q2 := cell_othB G 1 (.string (str i1 ++ s.extract 0 N6)) q2 (by omega)
            have pa0 := (cell_oth V6 G 1 0 (.string (str i1 ++ s.extract 0 N6)) (by decide)).trans a0
            have pa1 := World.cell?_setCell_same' V6 ⟨G, 1, none⟩ (.string (str i1 ++ s.extract 0 N6)) (by rw [a1]; rfl)
            have pb0 := cell_othB G 1 (.string (str i1 ++ s.extract 0 N6)) b0 (by omega)
            have pb1 := cell_othB G 1 (.string (str i1 ++ s.extract 0 N6)) b1 (by omega)
            have hgs : Goes (fun i => i = G) V6 (V6.setCell ⟨G, 1, none⟩ (.string (str i1 ++ s.extract 0 N6))) := goes_set _ _ _ _ rfl
            have HT7 := Lib.hid (HTd.out.goes hgs (fun i h e => nG (e ▸ h)))
            have HG7 := Lib.hid (HGd.out.trans (hgs.mono (fun i h => by omega)))
            clear a0 a1 b0 b1 hgs HTd HGd
            generalize (V6.setCell ⟨G, 1, none⟩ (.string (str i1 ++ s.extract 0 N6))) = V5 at *
            have a0 := pa0
            have a1 := pa1
            have b0 := pb0
            have b1 := pb1
            clear pa0 pa1 pb0 pb1
            clear d0 d1 d3 q0
            have HTd := Lib.hid (HT7.out.below (below_drew (Below.refl _ _)))
            have HGd := Lib.hid (HG7.out.trans (Goes.of_below (below_drew (Below.refl _ _))))
            clear HT7 HG7
            go_still_tail 8, (by kernel_rfl)
            change wpList _ _ _ _ _ V5.drew
            change V5.drew.cell? _ = _ at a0
            change V5.drew.frozen? _ = _ at fa0
            change V5.drew.cell? _ = _ at a1
            change V5.drew.frozen? _ = _ at fa1
            change V5.drew.cell? _ = _ at b0
            change V5.drew.frozen? _ = _ at fb0
            change V5.drew.cell? _ = _ at b1
            change V5.drew.frozen? _ = _ at fb1
            generalize V5.drew = V6 at *
            go_wp2_with fail
            replace fa0 := (World.frozen?_setCell V6 ⟨(G + 1), 1, none⟩ ⟨G, 0, none⟩ (.string (str o1 ++ S6))).trans fa0
            replace fa1 := (World.frozen?_setCell V6 ⟨(G + 1), 1, none⟩ ⟨G, 1, none⟩ (.string (str o1 ++ S6))).trans fa1
            replace fb0 := (World.frozen?_setCell V6 ⟨(G + 1), 1, none⟩ ⟨(G + 1), 0, none⟩ (.string (str o1 ++ S6))).trans fb0
            replace fb1 := (World.frozen?_setCell V6 ⟨(G + 1), 1, none⟩ ⟨(G + 1), 1, none⟩ (.string (str o1 ++ S6))).trans fb1
            have pa0 := cell_othB (G + 1) 1 (.string (str o1 ++ S6)) a0 (by omega)
            have pa1 := cell_othB (G + 1) 1 (.string (str o1 ++ S6)) a1 (by omega)
            have pb0 := (cell_oth V6 (G + 1) 1 0 (.string (str o1 ++ S6)) (by decide)).trans b0
            have pb1 := World.cell?_setCell_same' V6 ⟨(G + 1), 1, none⟩ (.string (str o1 ++ S6)) (by rw [b1]; rfl)
            have hgs : Goes (fun i => i = (G + 1)) V6 (V6.setCell ⟨(G + 1), 1, none⟩ (.string (str o1 ++ S6))) := goes_set _ _ _ _ rfl
            have HT7 := Lib.hid (HTd.out.goes hgs (fun i h e => nH (e ▸ h)))
            have HG7 := Lib.hid (HGd.out.trans (hgs.mono (fun i h => by omega)))
            clear a0 a1 b0 b1 hgs HTd HGd
            generalize (V6.setCell ⟨(G + 1), 1, none⟩ (.string (str o1 ++ S6))) = V5 at *
            have a0 := pa0
            have a1 := pa1
            have b0 := pb0
            have b1 := pb1
            clear pa0 pa1 pb0 pb1
            rw [← HST.out, ← str_app] at a1
            rw [← HS6.out, ← str_app] at b1
            go_wp2
            go_roundw
            case rel => exact ⟨k + 1, _, i0, o0, (i1 ++ s.data.toList.take N6), (o1 ++ L6), by omega, by go_num, HT7, HS2, Lib.hid (HC2.out.mono' (by omega)), HG7, a0, a1, b0, b1, fa0, fa1, fb0, fb1⟩
            case measure => simp [intOf]; omega
          · have ri1 := HI1_1.out (fun h => hK h.2.1)
            rw [ri1, List.append_nil] at HS2
            obtain ⟨z1, z2⟩ := Both.cap1 HS2.out HC2.out
            rw [str_app, ByteArray.size_append] at z2
            rw [HS6.out] at z2
            have y2 : ¬ 9223372036854775807 < (str o1).size + S6.size := by omega
            have hK' : (x.kind == 2) = false := by simpa using hK
            clear hsd no ri0 ro0 ro1 ri1
            go_wp2_with fail
            generalize (w6.alloc (.cells #[.int .i64 (N6 : Int), .string S6, .int .i64 0] 35)) = V5 at *
            clear d0 d1 d3 q0
            have HTd := Lib.hid (HT7.out.below (below_drew (Below.refl _ _)))
            have HGd := Lib.hid (HG7.out.trans (Goes.of_below (below_drew (Below.refl _ _))))
            clear HT7 HG7
            go_still_tail 8, (by kernel_rfl)
            change wpList _ _ _ _ _ V5.drew
            change V5.drew.cell? _ = _ at a0
            change V5.drew.frozen? _ = _ at fa0
            change V5.drew.cell? _ = _ at a1
            change V5.drew.frozen? _ = _ at fa1
            change V5.drew.cell? _ = _ at b0
            change V5.drew.frozen? _ = _ at fb0
            change V5.drew.cell? _ = _ at b1
            change V5.drew.frozen? _ = _ at fb1
            generalize V5.drew = V6 at *
            go_wp2_with fail
            replace fa0 := (World.frozen?_setCell V6 ⟨(G + 1), 1, none⟩ ⟨G, 0, none⟩ (.string (str o1 ++ S6))).trans fa0
            replace fa1 := (World.frozen?_setCell V6 ⟨(G + 1), 1, none⟩ ⟨G, 1, none⟩ (.string (str o1 ++ S6))).trans fa1
            replace fb0 := (World.frozen?_setCell V6 ⟨(G + 1), 1, none⟩ ⟨(G + 1), 0, none⟩ (.string (str o1 ++ S6))).trans fb0
            replace fb1 := (World.frozen?_setCell V6 ⟨(G + 1), 1, none⟩ ⟨(G + 1), 1, none⟩ (.string (str o1 ++ S6))).trans fb1
            have pa0 := cell_othB (G + 1) 1 (.string (str o1 ++ S6)) a0 (by omega)
            have pa1 := cell_othB (G + 1) 1 (.string (str o1 ++ S6)) a1 (by omega)
            have pb0 := (cell_oth V6 (G + 1) 1 0 (.string (str o1 ++ S6)) (by decide)).trans b0
            have pb1 := World.cell?_setCell_same' V6 ⟨(G + 1), 1, none⟩ (.string (str o1 ++ S6)) (by rw [b1]; rfl)
            have hgs : Goes (fun i => i = (G + 1)) V6 (V6.setCell ⟨(G + 1), 1, none⟩ (.string (str o1 ++ S6))) := goes_set _ _ _ _ rfl
            have HT7 := Lib.hid (HTd.out.goes hgs (fun i h e => nH (e ▸ h)))
            have HG7 := Lib.hid (HGd.out.trans (hgs.mono (fun i h => by omega)))
            clear a0 a1 b0 b1 hgs HTd HGd
            generalize (V6.setCell ⟨(G + 1), 1, none⟩ (.string (str o1 ++ S6))) = V5 at *
            have a0 := pa0
            have a1 := pa1
            have b0 := pb0
            have b1 := pb1
            clear pa0 pa1 pb0 pb1
            rw [← HS6.out, ← str_app] at b1
            go_wp2
            go_roundw
            case rel => exact ⟨k + 1, _, i0, o0, i1, (o1 ++ L6), by omega, by go_num, HT7, HS2, Lib.hid (HC2.out.mono' (by omega)), HG7, a0, a1, b0, b1, fa0, fa1, fb0, fb1⟩
            case measure => simp [intOf]; omega
        by_cases hs2 : x.side < 0
        · have hs3 : (¬ x.side > 1) := by omega
          have ri0 := HI1_0.out (fun h => hs0 h.1)
          have ro0 := HO1_0.out (fun h => hs0 h.1)
          have ri1 := HI1_1.out (fun h => hs1 h.1)
          have ro1 := HO1_1.out (fun h => hs1 h.1)
          rw [ri0, ro0, ri1, ro1, List.append_nil, List.append_nil, List.append_nil, List.append_nil] at HS2
          clear ri0 ro0 ri1 ro1 hs0 hs1
          go_wp2_with fail
          generalize (w6.alloc (.cells #[.int .i64 (N6 : Int), .string S6, .int .i64 0] 35)) = V5 at *
          go_roundw
          case rel => exact ⟨k + 1, _, i0, o0, i1, o1, by omega, by go_num, HT7, HS2, Lib.hid (HC2.out.mono' (by omega)), HG7, a0, a1, b0, b1, fa0, fa1, fb0, fb1⟩
          case measure => simp [intOf]; omega
        · have hs3 : (x.side > 1) := by omega
          have ri0 := HI1_0.out (fun h => hs0 h.1)
          have ro0 := HO1_0.out (fun h => hs0 h.1)
          have ri1 := HI1_1.out (fun h => hs1 h.1)
          have ro1 := HO1_1.out (fun h => hs1 h.1)
          rw [ri0, ro0, ri1, ro1, List.append_nil, List.append_nil, List.append_nil, List.append_nil] at HS2
          clear ri0 ro0 ri1 ro1 hs0 hs1
          go_wp2_with fail
          generalize (w6.alloc (.cells #[.int .i64 (N6 : Int), .string S6, .int .i64 0] 35)) = V5 at *
          go_roundw
          case rel => exact ⟨k + 1, _, i0, o0, i1, o1, by omega, by go_num, HT7, HS2, Lib.hid (HC2.out.mono' (by omega)), HG7, a0, a1, b0, b1, fa0, fa1, fb0, fb1⟩
          case measure => simp [intOf]; omega
      · have hE' : (E6 == 0) = false := by simpa using hE
        have ri0 := HI1_0.out (fun h => hE h.2.2)
        have ro0 := HO1_0.out (fun h => hE h.2)
        have ri1 := HI1_1.out (fun h => hE h.2.2)
        have ro1 := HO1_1.out (fun h => hE h.2)
        rw [ri0, ro0, ri1, ro1, List.append_nil, List.append_nil, List.append_nil, List.append_nil] at HS2
        clear ri0 ro0 ri1 ro1
        go_wp2_with fail
        generalize (w6.alloc (.cells #[.int .i64 (N6 : Int), .string S6, .int .i64 E6] 35)) = V5 at *
        go_roundw
        case rel => exact ⟨k + 1, _, i0, o0, i1, o1, by omega, by go_num, HT7, HS2, Lib.hid (HC2.out.mono' (by omega)), HG7, a0, a1, b0, b1, fa0, fa1, fb0, fb1⟩
        case measure => simp [intOf]; omega
    · obtain rfl : k = zs.length := by omega
      have hlt' : ¬ (zs.length : Int) < (zs.length : Int) := by omega
      obtain ⟨e0, e1, g1, g2, g3, g4⟩ := Way1.ends HS.out.a
      obtain ⟨e2, e3, k1, k2, k3, k4⟩ := Way1.ends HS.out.b
      have HK := Lib.hid (And.intro e2 e3)
      have hc := tcounts_c T hi n t 0 wr HT.out
      change Calls Tryz.prog _ _ _ (fun x w' => x = .returned (.tuple #[.int .i64 (t.a.fd : Nat), .int .i64 (t.a.mv : Nat), .int .i64 (t.a.dr : Nat)]) ∧ _ ∧ _) at hc
      rw [e0, e1] at hc
      have HC0 := Lib.hid hc
      clear hc e0 e1 e2 e3 HS HC
      generalize str i0 = I0 at *
      generalize str i1 = I1 at *
      generalize str o0 = O0 at *
      generalize str o1 = O1 at *
      obtain ⟨M0, hM0⟩ : ∃ M, t.a.mv = M := ⟨_, rfl⟩
      rw [hM0] at HC0 g3 g4
      clear hM0
      obtain ⟨M1, hM1⟩ : ∃ M, t.b.mv = M := ⟨_, rfl⟩
      rw [hM1] at k3 k4
      have HM1 := Lib.hid hM1
      clear hM1
      have g1' : ¬ I0.size < O0.size := by omega
      have g1a : (O0.size : Int) ≤ (I0.size : Int) := by omega
      have g1b : ¬ (I0.size : Int) < (O0.size : Int) := by omega
      have g3' : ¬ M0 < O0.size := by omega
      have g3b : ¬ (M0 : Int) < (O0.size : Int) := by omega
      have g4' : ¬ I0.size < M0 := by omega
      have g4b : ¬ (I0.size : Int) < (M0 : Int) := by omega
      have k1' : ¬ I1.size < O1.size := by omega
      have k1a : (O1.size : Int) ≤ (I1.size : Int) := by omega
      have k1b : ¬ (I1.size : Int) < (O1.size : Int) := by omega
      have k3' : ¬ M1 < O1.size := by omega
      have k3b : ¬ (M1 : Int) < (O1.size : Int) := by omega
      have k4' : ¬ I1.size < M1 := by omega
      have k4b : ¬ (I1.size : Int) < (M1 : Int) := by omega
      go_wp2
      refine wp_loop_rounds 3 ?_
      rw [rounds_succ]
      go_wp2_with (go_at_call 21
                   refine HC0.out.mono ?_
                   rintro e V5 ⟨rfl, ht, hg⟩
                   replace fa0 := (hg.frozen a0 nG).trans fa0
                   replace fa1 := (hg.frozen a1 nG).trans fa1
                   replace fb0 := (hg.frozen b0 nH).trans fb0
                   replace fb1 := (hg.frozen b1 nH).trans fb1
                   replace a0 := hg.cell a0 nG
                   replace a1 := hg.cell a1 nG
                   replace b0 := hg.cell b0 nH
                   replace b1 := hg.cell b1 nH
                   have HT7 := Lib.hid ht
                   have HG7 := Lib.hid (HG.out.trans (hg.mono (fun i h => Nat.le_trans hnT h.1)))
                   clear ht hg)
      have HTd := Lib.hid (HT7.out.below (below_drew (Below.refl _ _)))
      have HGd := Lib.hid (HG7.out.trans (Goes.of_below (below_drew (Below.refl _ _))))
      clear HT7 HG7
      go_still_tail 39, (by kernel_rfl)
      change wpList _ _ _ _ _ V5.drew
      change V5.drew.cell? _ = _ at a0
      change V5.drew.frozen? _ = _ at fa0
      change V5.drew.cell? _ = _ at a1
      change V5.drew.frozen? _ = _ at fa1
      change V5.drew.cell? _ = _ at b0
      change V5.drew.frozen? _ = _ at fb0
      change V5.drew.cell? _ = _ at b1
      change V5.drew.frozen? _ = _ at fb1
      generalize V5.drew = V6 at *
      have HT7 := HTd
      have HG7 := HGd
      clear HTd HGd V5
      obtain ⟨V5, hV5⟩ : ∃ V, V = V6 := ⟨_, rfl⟩
      subst hV5
      go_wp2_with fail
      rw [rounds_succ]
      have hc := tcounts_c T hi n t 1 V5 HT7.out
      change Calls Tryz.prog _ _ _ (fun x w' => x = .returned (.tuple #[.int .i64 (t.b.fd : Nat), .int .i64 (t.b.mv : Nat), .int .i64 (t.b.dr : Nat)]) ∧ _ ∧ _) at hc
      rw [HK.out.1, HK.out.2, HM1.out] at hc
      have HC1 := Lib.hid hc
      have HGa := HG7
      clear hc HT7 HG7
      go_wp2_with (go_at_call 21
                   refine HC1.out.mono ?_
                   rintro e V8 ⟨rfl, ht, hg⟩
                   replace fa0 := (hg.frozen a0 nG).trans fa0
                   replace fa1 := (hg.frozen a1 nG).trans fa1
                   replace fb0 := (hg.frozen b0 nH).trans fb0
                   replace fb1 := (hg.frozen b1 nH).trans fb1
                   replace a0 := hg.cell a0 nG
                   replace a1 := hg.cell a1 nG
                   replace b0 := hg.cell b0 nH
                   replace b1 := hg.cell b1 nH
                   have HT7 := Lib.hid ht
                   have HG7 := Lib.hid (HGa.out.trans (hg.mono (fun i h => Nat.le_trans hnT h.1)))
                   clear ht hg)
      have HTd := Lib.hid (HT7.out.below (below_drew (Below.refl _ _)))
      have HGd := Lib.hid (HG7.out.trans (Goes.of_below (below_drew (Below.refl _ _))))
      clear HT7 HG7
      go_still_tail 39, (by kernel_rfl)
      change wpList _ _ _ _ _ V8.drew
      change V8.drew.cell? _ = _ at a0
      change V8.drew.frozen? _ = _ at fa0
      change V8.drew.cell? _ = _ at a1
      change V8.drew.frozen? _ = _ at fa1
      change V8.drew.cell? _ = _ at b0
      change V8.drew.frozen? _ = _ at fb0
      change V8.drew.cell? _ = _ at b1
      change V8.drew.frozen? _ = _ at fb1
      generalize V8.drew = V6 at *
      have HT7 := HTd
      have HG7 := HGd
      clear HTd HGd V8
      obtain ⟨V8, hV8⟩ : ∃ V, V = V6 := ⟨_, rfl⟩
      subst hV8
      go_wp2_with fail
      rw [rounds_succ]
      go_wp2
      go_ret
      exact ⟨rfl, HG7.out.below HB3.out (fun i h => by omega)⟩
theorem order_law (n : Int) (a : Option Addr) (c : Nat) (xs : List OpV) (w : World) (hx : xs.length ≤ 9223372036854775807) (hA : OpVAt w.heap.size w a xs) (hL : Laid w) :
    Calls Tryz.prog 4 #[.int .i64 n, .slice a xs.length c] w fun e w' => e = .returned (.bool true) ∧ Below w.heap.size w w' := by
  rcases cap_cases n with ⟨k, rfl, h1, h2⟩ | h
  · exact order_ok k h1 h2 a c xs w hx hA hL
  · have HM := Lib.hid (fun sv W => Made_err n h sv W)
    clear h
    have HA := Lib.hid hA
    clear hA
    have HSh := Lib.hid (shown_c w hL)
    have HL0 := Lib.hid hL
    clear hL
    go_enter Tryz.func4, Tryz.ntmps4
    go_wp2_with fail
    go_at_call 10
    refine HSh.out.mono ?_
    rintro e v0 ⟨rfl, hb⟩
    have HB0 := Lib.hid hb
    have HLv0 := Lib.hid (HL0.out.on hb)
    clear hb
    go_wp2_with fail
    have hc := Cut_s a c xs hx v0 (HA.out.on HB0.out)
    go_at_call 11
    refine hc.mono ?_
    clear hc
    rintro e v1 ⟨az, cz, rfl, hoz, hb1⟩
    have HB1 := Lib.hid (btr HB0.out hb1)
    clear hb1 hoz
    go_wp2_with (go_at_call 20; refine (HM.out _ _).mono ?_; rintro e v1 ⟨rfl, hb⟩)
    go_ret
    exact ⟨rfl, btr HB1.out hb⟩
end Go.Proofs.YtkokcfhfgnkdfaaGreatDoor.L17
