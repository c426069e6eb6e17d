/- Wcr -/
import Derived.Test.YtkokcfhfgnkdfaaGreatDoorZ9
/- The law of credit. -/
namespace Go.Proofs.YtkokcfhfgnkdfaaGreatDoor.L17
open Go.RowKit Go.Shelf
open L1 (str)
open L14 (isSt goes dest inB outB endB Laid)
attribute [local go_sem] Oper.semAt_some

theorem OpVAt.goes {n : Nat} {Pv : Nat → Prop} {A B : World} {a : Option Addr} {l : List OpV} (h : OpVAt n A a l) (hg : Goes Pv A B) (hp : ∀ i, Pv i → n ≤ i) : OpVAt n B a l := fun k hk => by
  obtain ⟨b, off, rfl, hb, c0, c1, c2, c3⟩ := h k hk
  have hn : ¬ Pv b := fun e => by have := hp b e; omega
  exact ⟨b, off, rfl, hb, hg.cell c0 hn, hg.cell c1 hn, hg.cell c2 hn, hg.cell c3 hn⟩
set_option maxRecDepth 100000 in
set_option maxHeartbeats 4000000 in
theorem credit_ok (n : Nat) (h1 : 1 ≤ n) (h2 : n ≤ 4096) (a : Option Addr) (c : Nat) (xs : List OpV) (w : World) (hx : xs.length ≤ 9223372036854775807) (hA : OpVAt w.heap.size w a xs) (hL : Laid w) :
    Calls Tryz.prog 5 #[.int .i64 (n : Int), .slice a xs.length c] w fun e w' => e = .returned (.bool true) ∧ Below w.heap.size w w' := by
  have HSh := Lib.hid (shown_c w hL)
  have HL0 := Lib.hid hL
  have HA := Lib.hid hA
  clear hA
  clear hL
  go_enter Tryz.func5, Tryz.ntmps5
  go_wp2_with fail
  go_at_call 10
  refine HSh.out.mono ?_
  rintro e v0 ⟨rfl, hb⟩
  have HB0 := Lib.hid hb
  have HLv0 := Lib.hid (HL0.out.on hb)
  clear hb
  go_wp2_with fail
  have hc := Cut_s a c xs hx v0 (HA.out.on HB0.out)
  go_at_call 11
  refine hc.mono ?_
  clear hc
  rintro e v1 ⟨az, cz, rfl, hoz, hb⟩
  have HO := Lib.hid hoz
  have HLv1 := Lib.hid (HLv0.out.on hb)
  have HB1 := Lib.hid (btr HB0.out hb)
  have hln := cutL_len xs
  have HZ := Lib.hid (And.intro (cutL_size xs) hln)
  obtain ⟨zs, hzs⟩ : ∃ zs, cutL xs = zs := ⟨_, rfl⟩
  rw [hzs] at HO HZ hln ⊢
  clear hoz hb hzs
  go_wp2_with fail
  have hc := Made_ok n h1 h2 none 0 [] (by simp) v1 (OpVAt.nil _ _ _) HLv1.out
  change Calls Tryz.prog _ #[.int .i64 (n : Int), .slice none 0 0] _ _ at hc
  go_at_call 20
  refine hc.mono ?_
  clear hc
  rintro e v2 ⟨T, hi, rfl, ht, hTz, hb⟩
  have HTn2 : Hid (TunAt v2 T hi n upT) := Lib.hid ht
  have HB2 := Lib.hid (btr HB1.out hb)
  have HLv2 := Lib.hid (HLv1.out.on hb)
  have HO2 := Lib.hid (HO.out.below hb)
  have lg : 0 < T := by obtain ⟨_, _, _, q⟩ := ht; exact q.lg
  have hzT : w.heap.size ≤ T := Nat.le_trans HB1.out.size hTz
  have hz2 := ht.lz
  have hs12 := hb.size
  have hB10 := HB1.out.size
  clear ht hb HO
  obtain ⟨n0, hn0⟩ : ∃ n0, v1.heap.size = n0 := ⟨_, rfl⟩
  rw [hn0] at HO2 hTz hs12 hB10
  have hnT : n0 ≤ T := hTz
  go_wp2_with fail
  obtain ⟨G, hG⟩ : ∃ G, v2.heap.size = G := ⟨_, rfl⟩
  have hBa : Below v2.heap.size v2 (v2.alloc (.cells #[.int .i64 10, .int .i64 10] 51)) := below_alloc v2 _
  have c0 : (v2.alloc (.cells #[.int .i64 10, .int .i64 10] 51)).cell? ⟨v2.heap.size, 0, none⟩ = some (.int .i64 10) := by go_simp
  have c1 : (v2.alloc (.cells #[.int .i64 10, .int .i64 10] 51)).cell? ⟨v2.heap.size, 1, none⟩ = some (.int .i64 10) := by go_simp
  have f0 : (v2.alloc (.cells #[.int .i64 10, .int .i64 10] 51)).frozen? ⟨v2.heap.size, 0, none⟩ = false := by go_simp
  have f1 : (v2.alloc (.cells #[.int .i64 10, .int .i64 10] 51)).frozen? ⟨v2.heap.size, 1, none⟩ = false := by go_simp
  have HT3 := Lib.hid (HTn2.out.below hBa)
  have HL3 := Lib.hid (HLv2.out.on hBa)
  have HB3 := Lib.hid (btr HB2.out hBa)
  have HO3 := Lib.hid (HO2.out.below (hBa.mono hs12))
  rw [hG] at c0 c1 f0 f1 hz2 hs12 ⊢
  clear hBa HTn2 HLv2 HB2 HO2
  generalize (v2.alloc (.cells #[.int .i64 10, .int .i64 10] 51)) = v3 at *
  have nG : ¬ Rin T hi G := fun e => by have := e.2; omega
  go_wp2
  have hu : ∀ l, runT n upT (List.take 0 l) = upT := fun _ => rfl
  go_loopw [9] (fun i wr => ∃ k : Nat, k ≤ zs.length ∧ i = .int .i64 (k : Int) ∧ Hid (TunAt wr T hi n (runT n upT (zs.take k))) ∧ Hid (Goes (fun i => n0 ≤ i) v3 wr) ∧ wr.cell? ⟨G, 0, none⟩ = some (.int .i64 (runT n upT (zs.take k)).a.g) ∧ wr.cell? ⟨G, 1, none⟩ = some (.int .i64 (runT n upT (zs.take k)).b.g) ∧ wr.frozen? ⟨G, 0, none⟩ = false ∧ wr.frozen? ⟨G, 1, none⟩ = false) (fun i _ => zs.length - (intOf i).toNat)
  case atStart => exact ⟨0, Nat.zero_le _, rfl, by rw [hu]; exact HT3, Lib.hid (Goes.refl _ _), by rw [hu]; exact c0, by rw [hu]; exact c1, f0, f1⟩
  case round =>
    clear c0 c1 f0 f1
    obtain ⟨k, hk, rfl, HT, HG, c0, c1, f0, f1⟩ := hrel
    by_cases hlt : k < zs.length
    · have hlt' : (k : Int) < (zs.length : Int) := by omega
      obtain ⟨b, off, rfl, hbn, d0, d1, d2, d3⟩ := (HO3.out.goes HG.out (fun i h => h)) k hlt
      have hstep := Lib.hid (run_take n upT zs k hlt)
      have hxs := HZ.out.1 zs[k] (List.getElem_mem hlt)
      have HLr : Hid (Laid wr) := Lib.hid (HG.out.cell HL3.out (fun e => by omega))
      have HD := Lib.hid (do_c T hi n (runT n upT (zs.take k)) zs[k] (by omega) (up_sm HZ.out.1 HZ.out.2 k) wr HT.out HLr.out)
      have hmg := run_mg (cap := n) (zs.take (k + 1))
      rw [hstep.out] at hmg
      obtain ⟨ga1, ga2⟩ := (did n (runT n upT (zs.take k)) zs[k] (d := 0) rfl).g
      obtain ⟨gb1, gb2⟩ := (did n (runT n upT (zs.take k)) zs[k] (d := 1) rfl).g
      have hgs := @grant_side (runT n upT (zs.take k)) zs[k]
      unfold opV at HD
      generalize zs[k] = x at *
      clear hxs
      obtain ⟨t, ht⟩ : ∃ t, runT n upT (zs.take k) = t := ⟨_, rfl⟩
      rw [ht] at HT HD hmg ga1 ga2 gb1 gb2 hgs hstep c0 c1
      clear ht
      obtain ⟨t2, ht2⟩ : ∃ t2, doT n t x = t2 := ⟨_, rfl⟩
      rw [ht2] at HD hmg ga1 ga2 gb1 gb2 hstep
      clear ht2
      obtain ⟨E6, hE6⟩ : ∃ E, doE t x = E := ⟨_, rfl⟩
      obtain ⟨N6, hN6⟩ : ∃ E, doN n t x = E := ⟨_, rfl⟩
      obtain ⟨S6, hS6⟩ : ∃ E, str (doS t x) = E := ⟨_, rfl⟩
      rw [hE6] at ga1 ga2 gb1 gb2 hgs
      rw [hE6, hN6, hS6] at HD
      clear hE6 hN6 hS6
      obtain ⟨hm0, hm1, hb0, hb1⟩ := hmg
      change x.kind = 1 → x.side = 0 → E6 = 0 → t2.a.g = t.a.g + x.n at ga1
      change ¬ (x.kind = 1 ∧ x.side = 0 ∧ E6 = 0) → t2.a.g = t.a.g at ga2
      change x.kind = 1 → x.side = 1 → E6 = 0 → t2.b.g = t.b.g + x.n at gb1
      change ¬ (x.kind = 1 ∧ x.side = 1 ∧ E6 = 0) → t2.b.g = t.b.g at gb2
      have GA := Lib.hid (And.intro ga1 ga2)
      have GB := Lib.hid (And.intro gb1 gb2)
      have GS := Lib.hid hgs
      have BG := Lib.hid (And.intro hb0 hb1)
      clear ga1 ga2 gb1 gb2 hgs hb0 hb1
      have nb : ¬ Rin T hi b := fun e => by have := e.1; omega
      go_wp2_with fail
      go_at_call 17
      refine HD.out.mono ?_
      rintro e w6 ⟨rfl, ht6, hg6⟩
      replace d0 := hg6.cell d0 nb
      replace d1 := hg6.cell d1 nb
      replace d2 := hg6.cell d2 nb
      replace d3 := hg6.cell d3 nb
      replace f0 := (hg6.frozen c0 nG).trans f0
      replace f1 := (hg6.frozen c1 nG).trans f1
      replace c0 := hg6.cell c0 nG
      replace c1 := hg6.cell c1 nG
      have HT7 := Lib.hid (ht6.below (below_alloc w6 (.cells #[.int .i64 (N6 : Int), .string S6, .int .i64 E6] 35)))
      have HG7 := Lib.hid ((HG.out.trans (hg6.mono (fun i h => Nat.le_trans hnT h.1))).trans (Goes.of_below (below_alloc w6 (.cells #[.int .i64 (N6 : Int), .string S6, .int .i64 E6] 35))))
      have q0 : (w6.alloc (.cells #[.int .i64 (N6 : Int), .string S6, .int .i64 E6] 35)).cell? ⟨w6.heap.size, 0, none⟩ = some (.int .i64 (N6 : Int)) := by go_simp
      have q1 : (w6.alloc (.cells #[.int .i64 (N6 : Int), .string S6, .int .i64 E6] 35)).cell? ⟨w6.heap.size, 1, none⟩ = some (.string S6) := by go_simp
      have q2 : (w6.alloc (.cells #[.int .i64 (N6 : Int), .string S6, .int .i64 E6] 35)).cell? ⟨w6.heap.size, 2, none⟩ = some (.int .i64 E6) := by go_simp
      replace d0 := keep_alloc (.cells #[.int .i64 (N6 : Int), .string S6, .int .i64 E6] 35) d0
      replace d1 := keep_alloc (.cells #[.int .i64 (N6 : Int), .string S6, .int .i64 E6] 35) d1
      replace d2 := keep_alloc (.cells #[.int .i64 (N6 : Int), .string S6, .int .i64 E6] 35) d2
      replace d3 := keep_alloc (.cells #[.int .i64 (N6 : Int), .string S6, .int .i64 E6] 35) d3
      replace f0 := keep_alloc_fr (.cells #[.int .i64 (N6 : Int), .string S6, .int .i64 E6] 35) c0 f0
      replace f1 := keep_alloc_fr (.cells #[.int .i64 (N6 : Int), .string S6, .int .i64 E6] 35) c1 f1
      replace c0 := keep_alloc (.cells #[.int .i64 (N6 : Int), .string S6, .int .i64 E6] 35) c0
      replace c1 := keep_alloc (.cells #[.int .i64 (N6 : Int), .string S6, .int .i64 E6] 35) c1
      clear ht6 hg6 HG HT HLr HD
      by_cases hE : E6 = 0
      · subst hE
        by_cases hK : x.kind = 1
        · rcases GS.out hK rfl with hS | hS
          · have eg := GA.out.1 hK hS rfl
            have eb := GB.out.2 (fun h => by omega)
            rw [hK] at d0
            rw [hS] at d1
            have hwr : IntKind.i64.wrap (t.a.g + x.n) = t2.a.g := by rw [← eg]; exact IntWalk.i64_in _ (by have := BG.out.1; have h0 : 0 ≤ t2.a.g := (by have := hm0; omega); omega)
            rw [← eb] at c1
            clear eg eb
            have HTd := Lib.hid (HT7.out.below (below_drew (Below.refl _ _)))
            have HGd := Lib.hid (HG7.out.trans (Goes.of_below (below_drew (Below.refl _ _))))
            go_wp2_with fail
            clear HT7 HG7 q0 q1 q2
            generalize (w6.alloc (.cells #[.int .i64 (N6 : Int), .string S6, .int .i64 0] 35)) = V5 at *
            go_still_tail 11, (by kernel_rfl)
            change wpList _ _ _ _ _ V5.drew
            change V5.drew.cell? _ = _ at c0
            change V5.drew.cell? _ = _ at c1
            change V5.drew.frozen? _ = _ at f0
            change V5.drew.frozen? _ = _ at f1
            clear d0 d1 d2 d3
            generalize V5.drew = V6 at *
            go_wp2_with fail
            have p0 := World.cell?_setCell_same' V6 ⟨G, 0, none⟩ (.int .i64 t2.a.g) (by rw [c0]; rfl)
            have p1 := (cell_oth V6 G 0 1 (.int .i64 t2.a.g) (by decide)).trans c1
            replace f0 := (World.frozen?_setCell V6 ⟨G, 0, none⟩ ⟨G, 0, none⟩ (.int .i64 t2.a.g)).trans f0
            replace f1 := (World.frozen?_setCell V6 ⟨G, 0, none⟩ ⟨G, 1, none⟩ (.int .i64 t2.a.g)).trans f1
            have hgs : Goes (fun i => i = G) V6 (V6.setCell ⟨G, 0, none⟩ (.int .i64 t2.a.g)) := goes_set _ _ _ _ rfl
            have HT7 := Lib.hid (HTd.out.goes hgs (fun i h e => nG (e ▸ h)))
            have HG7 := Lib.hid (HGd.out.trans (hgs.mono (fun i h => by omega)))
            clear c0 c1 hgs HTd HGd
            generalize (V6.setCell ⟨G, 0, none⟩ (.int .i64 t2.a.g)) = V7 at *
            have c0 := p0
            have c1 := p1
            clear p0 p1
            refine wp_loop_rounds 3 ?_
            rw [rounds_succ]
            have hc := tcounts_c T hi n t2 0 V7 HT7.out
            change Calls Tryz.prog _ _ _ (fun x w' => x = .returned (.tuple #[.int .i64 (t2.a.fd : Nat), .int .i64 (t2.a.mv : Nat), .int .i64 (t2.a.dr : Nat)]) ∧ _ ∧ _) at hc
            have HC0 := Lib.hid hc
            clear hc
            go_wp2_with (go_at_call 21
                         refine HC0.out.mono ?_
                         rintro e V8 ⟨rfl, ht, hg⟩
                         replace f0 := (hg.frozen c0 nG).trans f0
                         replace f1 := (hg.frozen c1 nG).trans f1
                         replace c0 := hg.cell c0 nG
                         replace c1 := hg.cell c1 nG
                         have HT8 := Lib.hid ht
                         have HG8 := Lib.hid (HG7.out.trans (hg.mono (fun i h => Nat.le_trans hnT h.1)))
                         clear ht hg)
            rw [rounds_succ]
            have hc := tcounts_c T hi n t2 1 V8 HT8.out
            change Calls Tryz.prog _ _ _ (fun x w' => x = .returned (.tuple #[.int .i64 (t2.b.fd : Nat), .int .i64 (t2.b.mv : Nat), .int .i64 (t2.b.dr : Nat)]) ∧ _ ∧ _) at hc
            have HC1 := Lib.hid hc
            clear hc
            go_wp2_with (go_at_call 21
                         refine HC1.out.mono ?_
                         rintro e V9 ⟨rfl, ht, hg⟩
                         replace f0 := (hg.frozen c0 nG).trans f0
                         replace f1 := (hg.frozen c1 nG).trans f1
                         replace c0 := hg.cell c0 nG
                         replace c1 := hg.cell c1 nG
                         have HT9 := Lib.hid ht
                         have HG9 := Lib.hid (HG8.out.trans (hg.mono (fun i h => Nat.le_trans hnT h.1)))
                         clear ht hg)
            rw [rounds_succ]
            go_wp2
            go_roundw
            case rel => exact ⟨k + 1, by omega, by go_num, by rw [hstep.out]; exact HT9, HG9, by rw [hstep.out]; exact c0, by rw [hstep.out]; exact c1, f0, f1⟩
            case measure => simp [intOf]; omega
          · have eg := GA.out.2 (fun h => by omega)
            have eb := GB.out.1 hK hS rfl
            rw [hK] at d0
            rw [hS] at d1
            have hwr : IntKind.i64.wrap (t.b.g + x.n) = t2.b.g := by rw [← eb]; exact IntWalk.i64_in _ (by have := BG.out.2; have h0 : 0 ≤ t2.b.g := (by have := hm1; omega); omega)
            rw [← eg] at c0
            clear eb eg
            have HTd := Lib.hid (HT7.out.below (below_drew (Below.refl _ _)))
            have HGd := Lib.hid (HG7.out.trans (Goes.of_below (below_drew (Below.refl _ _))))
            go_wp2_with fail
            clear HT7 HG7 q0 q1 q2
            generalize (w6.alloc (.cells #[.int .i64 (N6 : Int), .string S6, .int .i64 0] 35)) = V5 at *
            go_still_tail 11, (by kernel_rfl)
            change wpList _ _ _ _ _ V5.drew
            change V5.drew.cell? _ = _ at c0
            change V5.drew.cell? _ = _ at c1
            change V5.drew.frozen? _ = _ at f0
            change V5.drew.frozen? _ = _ at f1
            clear d0 d1 d2 d3
            generalize V5.drew = V6 at *
            go_wp2_with fail
            have p1 := World.cell?_setCell_same' V6 ⟨G, 1, none⟩ (.int .i64 t2.b.g) (by rw [c1]; rfl)
            have p0 := (cell_oth V6 G 1 0 (.int .i64 t2.b.g) (by decide)).trans c0
            replace f0 := (World.frozen?_setCell V6 ⟨G, 1, none⟩ ⟨G, 0, none⟩ (.int .i64 t2.b.g)).trans f0
            replace f1 := (World.frozen?_setCell V6 ⟨G, 1, none⟩ ⟨G, 1, none⟩ (.int .i64 t2.b.g)).trans f1
            have hgs : Goes (fun i => i = G) V6 (V6.setCell ⟨G, 1, none⟩ (.int .i64 t2.b.g)) := goes_set _ _ _ _ rfl
            have HT7 := Lib.hid (HTd.out.goes hgs (fun i h e => nG (e ▸ h)))
            have HG7 := Lib.hid (HGd.out.trans (hgs.mono (fun i h => by omega)))
            clear c0 c1 hgs HTd HGd
            generalize (V6.setCell ⟨G, 1, none⟩ (.int .i64 t2.b.g)) = V7 at *
            have c0 := p0
            have c1 := p1
            clear p0 p1
            refine wp_loop_rounds 3 ?_
            rw [rounds_succ]
            have hc := tcounts_c T hi n t2 0 V7 HT7.out
            change Calls Tryz.prog _ _ _ (fun x w' => x = .returned (.tuple #[.int .i64 (t2.a.fd : Nat), .int .i64 (t2.a.mv : Nat), .int .i64 (t2.a.dr : Nat)]) ∧ _ ∧ _) at hc
            have HC0 := Lib.hid hc
            clear hc
            go_wp2_with (go_at_call 21
                         refine HC0.out.mono ?_
                         rintro e V8 ⟨rfl, ht, hg⟩
                         replace f0 := (hg.frozen c0 nG).trans f0
                         replace f1 := (hg.frozen c1 nG).trans f1
                         replace c0 := hg.cell c0 nG
                         replace c1 := hg.cell c1 nG
                         have HT8 := Lib.hid ht
                         have HG8 := Lib.hid (HG7.out.trans (hg.mono (fun i h => Nat.le_trans hnT h.1)))
                         clear ht hg)
            rw [rounds_succ]
            have hc := tcounts_c T hi n t2 1 V8 HT8.out
            change Calls Tryz.prog _ _ _ (fun x w' => x = .returned (.tuple #[.int .i64 (t2.b.fd : Nat), .int .i64 (t2.b.mv : Nat), .int .i64 (t2.b.dr : Nat)]) ∧ _ ∧ _) at hc
            have HC1 := Lib.hid hc
            clear hc
            go_wp2_with (go_at_call 21
                         refine HC1.out.mono ?_
                         rintro e V9 ⟨rfl, ht, hg⟩
                         replace f0 := (hg.frozen c0 nG).trans f0
                         replace f1 := (hg.frozen c1 nG).trans f1
                         replace c0 := hg.cell c0 nG
                         replace c1 := hg.cell c1 nG
                         have HT9 := Lib.hid ht
                         have HG9 := Lib.hid (HG8.out.trans (hg.mono (fun i h => Nat.le_trans hnT h.1)))
                         clear ht hg)
            rw [rounds_succ]
            go_wp2
            go_roundw
            case rel => exact ⟨k + 1, by omega, by go_num, by rw [hstep.out]; exact HT9, HG9, by rw [hstep.out]; exact c0, by rw [hstep.out]; exact c1, f0, f1⟩
            case measure => simp [intOf]; omega
        · have eg := GA.out.2 (fun h => hK h.1)
          have eb := GB.out.2 (fun h => hK h.1)
          rw [← eg] at c0
          rw [← eb] at c1
          have hK' : (x.kind == 1) = false := by simpa using hK
          go_wp2_with fail
          generalize (w6.alloc (.cells #[.int .i64 (N6 : Int), .string S6, .int .i64 0] 35)) = V7 at *
          refine wp_loop_rounds 3 ?_
          rw [rounds_succ]
          have hc := tcounts_c T hi n t2 0 V7 HT7.out
          change Calls Tryz.prog _ _ _ (fun x w' => x = .returned (.tuple #[.int .i64 (t2.a.fd : Nat), .int .i64 (t2.a.mv : Nat), .int .i64 (t2.a.dr : Nat)]) ∧ _ ∧ _) at hc
          have HC0 := Lib.hid hc
          clear hc
          go_wp2_with (go_at_call 21
                       refine HC0.out.mono ?_
                       rintro e V8 ⟨rfl, ht, hg⟩
                       replace f0 := (hg.frozen c0 nG).trans f0
                       replace f1 := (hg.frozen c1 nG).trans f1
                       replace c0 := hg.cell c0 nG
                       replace c1 := hg.cell c1 nG
                       have HT8 := Lib.hid ht
                       have HG8 := Lib.hid (HG7.out.trans (hg.mono (fun i h => Nat.le_trans hnT h.1)))
                       clear ht hg)
          rw [rounds_succ]
          have hc := tcounts_c T hi n t2 1 V8 HT8.out
          change Calls Tryz.prog _ _ _ (fun x w' => x = .returned (.tuple #[.int .i64 (t2.b.fd : Nat), .int .i64 (t2.b.mv : Nat), .int .i64 (t2.b.dr : Nat)]) ∧ _ ∧ _) at hc
          have HC1 := Lib.hid hc
          clear hc
          go_wp2_with (go_at_call 21
                       refine HC1.out.mono ?_
                       rintro e V9 ⟨rfl, ht, hg⟩
                       replace f0 := (hg.frozen c0 nG).trans f0
                       replace f1 := (hg.frozen c1 nG).trans f1
                       replace c0 := hg.cell c0 nG
                       replace c1 := hg.cell c1 nG
                       have HT9 := Lib.hid ht
                       have HG9 := Lib.hid (HG8.out.trans (hg.mono (fun i h => Nat.le_trans hnT h.1)))
                       clear ht hg)
          rw [rounds_succ]
          go_wp2
          go_roundw
          case rel => exact ⟨k + 1, by omega, by go_num, by rw [hstep.out]; exact HT9, HG9, by rw [hstep.out]; exact c0, by rw [hstep.out]; exact c1, f0, f1⟩
          case measure => simp [intOf]; omega
      · have eg := GA.out.2 (fun h => hE h.2.2)
        have eb := GB.out.2 (fun h => hE h.2.2)
        rw [← eg] at c0
        rw [← eb] at c1
        have hE' : (E6 == 0) = false := by simpa using hE
        go_wp2_with fail
        generalize (w6.alloc (.cells #[.int .i64 (N6 : Int), .string S6, .int .i64 E6] 35)) = V7 at *
        refine wp_loop_rounds 3 ?_
        rw [rounds_succ]
        have hc := tcounts_c T hi n t2 0 V7 HT7.out
        change Calls Tryz.prog _ _ _ (fun x w' => x = .returned (.tuple #[.int .i64 (t2.a.fd : Nat), .int .i64 (t2.a.mv : Nat), .int .i64 (t2.a.dr : Nat)]) ∧ _ ∧ _) at hc
        have HC0 := Lib.hid hc
        clear hc
        go_wp2_with (go_at_call 21
                     refine HC0.out.mono ?_
                     rintro e V8 ⟨rfl, ht, hg⟩
                     replace f0 := (hg.frozen c0 nG).trans f0
                     replace f1 := (hg.frozen c1 nG).trans f1
                     replace c0 := hg.cell c0 nG
                     replace c1 := hg.cell c1 nG
                     have HT8 := Lib.hid ht
                     have HG8 := Lib.hid (HG7.out.trans (hg.mono (fun i h => Nat.le_trans hnT h.1)))
                     clear ht hg)
        rw [rounds_succ]
        have hc := tcounts_c T hi n t2 1 V8 HT8.out
        change Calls Tryz.prog _ _ _ (fun x w' => x = .returned (.tuple #[.int .i64 (t2.b.fd : Nat), .int .i64 (t2.b.mv : Nat), .int .i64 (t2.b.dr : Nat)]) ∧ _ ∧ _) at hc
        have HC1 := Lib.hid hc
        clear hc
        go_wp2_with (go_at_call 21
                     refine HC1.out.mono ?_
                     rintro e V9 ⟨rfl, ht, hg⟩
                     replace f0 := (hg.frozen c0 nG).trans f0
                     replace f1 := (hg.frozen c1 nG).trans f1
                     replace c0 := hg.cell c0 nG
                     replace c1 := hg.cell c1 nG
                     have HT9 := Lib.hid ht
                     have HG9 := Lib.hid (HG8.out.trans (hg.mono (fun i h => Nat.le_trans hnT h.1)))
                     clear ht hg)
        rw [rounds_succ]
        go_wp2
        go_roundw
        case rel => exact ⟨k + 1, by omega, by go_num, by rw [hstep.out]; exact HT9, HG9, by rw [hstep.out]; exact c0, by rw [hstep.out]; exact c1, f0, f1⟩
        case measure => simp [intOf]; omega
    · obtain rfl : k = zs.length := by omega
      have hlt' : ¬ (zs.length : Int) < (zs.length : Int) := by omega
      go_wp2
      go_ret
      exact ⟨rfl, HG.out.below HB3.out (fun i h => by omega)⟩
theorem credit_law (n : Int) (a : Option Addr) (c : Nat) (xs : List OpV) (w : World) (hx : xs.length ≤ 9223372036854775807) (hA : OpVAt w.heap.size w a xs) (hL : Laid w) :
    Calls Tryz.prog 5 #[.int .i64 n, .slice a xs.length c] w fun e w' => e = .returned (.bool true) ∧ Below w.heap.size w w' := by
  rcases cap_cases n with ⟨k, rfl, h1, h2⟩ | h
  · exact credit_ok k h1 h2 a c xs w hx hA hL
  · have HM := Lib.hid (fun sv W => Made_err n h sv W)
    clear h
    have HA := Lib.hid hA
    clear hA
    have HSh := Lib.hid (shown_c w hL)
    have HL0 := Lib.hid hL
    clear hL
    go_enter Tryz.func5, Tryz.ntmps5
    go_wp2_with fail
    go_at_call 10
    refine HSh.out.mono ?_
    rintro e v0 ⟨rfl, hb⟩
    have HB0 := Lib.hid hb
    have HLv0 := Lib.hid (HL0.out.on hb)
    clear hb
    go_wp2_with fail
    have hc := Cut_s a c xs hx v0 (HA.out.on HB0.out)
    go_at_call 11
    refine hc.mono ?_
    clear hc
    rintro e v1 ⟨az, cz, rfl, hoz, hb1⟩
    have HB1 := Lib.hid (btr HB0.out hb1)
    clear hb1 hoz
    go_wp2_with (go_at_call 20; refine (HM.out _ _).mono ?_; rintro e v1 ⟨rfl, hb⟩)
    go_ret
    exact ⟨rfl, btr HB1.out hb⟩
end Go.Proofs.YtkokcfhfgnkdfaaGreatDoor.L17
