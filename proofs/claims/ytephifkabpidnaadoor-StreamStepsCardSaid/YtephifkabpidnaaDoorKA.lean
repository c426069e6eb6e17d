/- The walk through what is reached: what it tells. -/
import Derived.Test.YtephifkabpidnaaDoorK
namespace Go.Proofs.YtephifkabpidnaaDoor
open Go.RowKit Go.Shelf
attribute [local go_sem] Oper.semAt_some

theorem wf6 {x : Int} (h : 0 ≤ x ∧ x ≤ 6) : (Lit.int .i64 x).wf = true := by
  have : x = 0 ∨ x = 1 ∨ x = 2 ∨ x = 3 ∨ x = 4 ∨ x = 5 ∨ x = 6 := by omega
  rcases this with rfl | rfl | rfl | rfl | rfl | rfl | rfl <;> decide +kernel

set_option maxRecDepth 100000 in
set_option maxHeartbeats 4000000 in
theorem reached1_tells (n Bs : Nat) (s : Int) (hn : 1 ≤ n) (hs : isSt s = true) (w : World) (hB : w.cell? ⟨Bs, 0, none⟩ = some (.int .i64 s)) :
    Tells Fence.wide n Tryd.prog 43 #[.pointer (some ⟨Bs, 0, none⟩)] (fun x : Int × Int => #[.int .i64 x.1, .int .i64 x.2]) (fun xs => xs = reach s) (fun pre => pre <+: reach s) w := by
  intro l J Jx W hbW hF hY h0
  obtain ⟨i0, hi, hz0, hz1, hz2⟩ := info_parts info37
  have hc := (hbW.cell (p := ⟨Bs, 0, none⟩) (blt hB)).trans hB
  have hlt := blt hc
  have hws : (Lit.int .i64 s).wf = true := wf6 (by simpa [isSt] using hs)
  have HN := Lib.hid (fun x W => nexts_c x W)
  have HS := Lib.hid hs
  have HF := Lib.hid hF
  have HY := Lib.hid hY
  have h44 : Fence.wide.fn 44 := trivial
  have hmm := @run_makeMap Tryd.prog
  clear hY hbW hB hs
  have hmk := World.ownsMap_made W Tryd.prog 37 (plainElem (H := Unit) Tryd.prog 4)
  refine callsIn_of_wp Tryd.func43 rfl trivial ?_ rfl
  simp only [Tryd.ntmps43, List.size_toArray, List.length_cons, List.length_nil, Nat.reduceAdd, Nat.reduceSub, Array.replicate_succ, Array.replicate_zero, List.push_toArray, List.append_toArray, List.nil_append, List.cons_append]
  gi_wp2_with (refine wpListIn_insert _ rfl _ _ _ 68 rfl 37 4 (Maps.int_keyed Tryd.underlying37) Tryd.underlying68 (plainElem (H := Unit) Tryd.prog 4) W.heap.size 0 _ rfl hmk (by unfold maxLen; omega) (.int .i64 s) (.bool true) (.int .i64 s) rfl rfl (Maps.keyOf_int_mk Tryd.underlying37 hws) (.lit (.bool true)) [] (plainElem_bool Tryd.underlying4 true) ?_; intro w1 hm1 hg1; have hc1 : w1.cell? ⟨Bs, 0, none⟩ = some (.int .i64 s) := (World.cell?_of_block (w := W.alloc (.map #[] 0)) (hg1.block Bs (by simp; omega) (by simp; omega))).trans (keep_alloc _ hc))
  gi_loopw [4, 5] (fun f e wr => ∃ k : Nat, k ≤ 5 ∧ e = .int .i64 k ∧ R1 W.heap.size J s k f wr) (fun _ e _ => 6 - (intOf e).toNat)
  case atStart =>
    refine ⟨0, by omega, rfl, ⟨some ⟨w1.heap.size, 0, none⟩, 1, rfl, fun i hi => ?_⟩, ?_, ?_⟩
    · obtain rfl : i = 0 := by simp [lev] at hi; omega
      exact ⟨w1.heap.size, 0, rfl, by simp, by simp [lev]⟩
    · exact hm1.alloc _
    · exact (HF.out _).alloc (HF.out _ _ _ _ ((HF.out _).alloc h0 _) hg1 (fun r e => by cases e; exact Nat.le_refl _)) _
  case round =>
    clear hc1 hg1 hm1 hmk hmm hc hlt hws h0
    obtain ⟨k, hk, rfl, hR1⟩ := hrel
    obtain ⟨a, c, rfl, hbm, hR2⟩ := hR1.start2
    obtain ⟨f1, f2, f3, f4, f5, f6⟩ := lev_facts HS.out k hk
    have hj := Lib.hid hR1.j
    have hD : ∀ next W', R2 wr.heap.size W.heap.size J a (lev s k).1 (lev s k).2 (told s k) k (lev s k).2.length next W' → R1 W.heap.size J s (k + 1) next W' := fun next W' h => h.done
    have hP : (lev s k).2 ≠ [] → told s (k + 1) <+: reach s := fun h => List.isPrefixOf_iff_prefix.1 (f6 h).2
    have hP' : told s (k + 1) = told s k ++ (lev s k).2.map fun x => (x, (k : Int)) := rfl
    rw [hP'] at hP
    clear hR1 hP'
    generalize hFk : (lev s k).2 = Fk at *
    generalize hMk : (lev s k).1 = Mk at *
    generalize hpk : told s k = pk at *
    generalize hT : wr.heap.size = T at *
    generalize hbw : W.heap.size = bm at *
    clear hFk hMk hpk
    by_cases he : Fk = []
    · subst he
      have hre := f5 rfl
      gi_wp2
      go_end0
      exact ⟨⟨_, rfl⟩, .inl (by rw [← hre]; exact hj.out)⟩
    · have hpos : 0 < Fk.length := List.length_pos_iff.2 he
      have hP2 := Lib.hid (hP he)
      have hk5 := (f6 he).1
      have HD2 := Lib.hid hD
      clear hP hD hj f5 f6 he hF
      gi_wp2
      rename_i K1 hK1 K2 hK2
      suffices hgo : ∀ (u8 u10 next : Value) (u23 u24 u25 u26 u27 u28 u29 u30 u31 u32 u33 u34 u35 u36 u37 u38 u39 u40 u41 u42 u43 u44 u45 u46 u47 u48 u49 u50 u51 : Value) W', R1 bm J s (k + 1) next W' →
        K2 { tmps := #[Value.func (Fn.yield l) #[] #[], Value.pointer (some { block := Bs, off := 0 }), undef, Value.map (some bm),
          Value.slice a Fk.length c, Value.int IntKind.i64 ↑k, next, undef, u8, undef, u10,
          Value.map (some bm), Value.int IntKind.i64 s, Value.map (some bm), Value.int IntKind.i64 s,
          Value.slice (some { block := w1.heap.size, off := 0 }) 1 1, Value.slice a Fk.length c,
          Value.int IntKind.i64 ↑Fk.length, Value.bool true, u19, u20, Value.slice a Fk.length c,
          Value.int IntKind.i64 ↑Fk.length, u23, u24, u25, u26, u27, u28, u29, u30, u31, u32, u33,
          u34, u35, u36, u37, u38, u39, u40, u41, u42, u43, u44, u45, u46, u47, u48, u49, u50, u51], defers := [] } W' by
        clear hK1 hK2
        gi_loopw [6, 23] (fun nx jv W2 => ∃ j : Nat, j ≤ Fk.length ∧ jv = .int .i64 j ∧ R2 T bm J a Mk Fk pk k j nx W2) (fun _ jv _ => Fk.length - (intOf jv).toNat)
        case atStart => exact ⟨0, by omega, rfl, hR2⟩
        case round =>
          clear hR2
          obtain ⟨j, hj, rfl, h2⟩ := hrel

          by_cases hlt : j < Fk.length
          · obtain ⟨b, off, hab, hb, hcell⟩ := h2.fr j hlt
            subst hab
            obtain ⟨fn, tmps, assign, body, hy, hR⟩ := HY.out _ (Fk[j], (k : Int)) wr h2.j
            have H2 := Lib.hid h2
            clear h2
            generalize hx : Fk[j] = x at *
            gi_wp2
            refine hR.mono ?_
            rintro e W1 (⟨rfl, hJ1, hl1⟩ | ⟨rfl, hJx1⟩)
            · have hst : ∀ y ∈ nextsUpto x 6, 0 ≤ y ∧ y ≤ 6 := nextsUpto_st x 6
              have hnl := nextsUpto_len x 6
              have hll := levL_len (Mk, []) (Fk.take j)
              have hft : (Fk.take j).length ≤ 7 := by rw [List.length_take]; omega
              have S3 : ∀ (V : World) (v : Value), Below W1.heap.size W1 V → OwnP W1.heap.size V v (nextsUpto x 6) → ∃ a3 c3, v = .slice a3 (nextsUpto x 6).length c3 ∧ R3 T bm (J (pk ++ (Fk.take (j + 1)).map fun y => (y, (k : Int)))) (some ⟨b, off, none⟩) Fk (levL (Mk, []) (Fk.take j)) a3 (nextsUpto x 6) 0 u6 V :=
                fun V v hb hv => H2.out.start3 hlt hl1 (by rw [hx]; exact hJ1) HF.out hb hv
              have D3 : ∀ (V : World) (nx : Value) a3, R3 T bm (J (pk ++ (Fk.take (j + 1)).map fun y => (y, (k : Int)))) (some ⟨b, off, none⟩) Fk (levL (Mk, []) (Fk.take j)) a3 (nextsUpto x 6) (nextsUpto x 6).length nx V → R2 T bm J (some ⟨b, off, none⟩) Mk Fk pk k (j + 1) nx V :=
                fun V nx a3 h => R3.done hlt (by rw [hx]; exact h)
              have hbB : bm < T := hbm
              have HFJ := HF.out (pk ++ (Fk.take (j + 1)).map fun y => (y, (k : Int)))
              have S3' := Lib.hid S3
              have D3' := Lib.hid D3
              generalize hJ3 : J (pk ++ (Fk.take (j + 1)).map fun y => (y, (k : Int))) = J3 at *
              have HNx := HN.out x
              generalize hN6 : nextsUpto x 6 = N6 at *
              generalize levL (Mk, []) (Fk.take j) = q at *
              clear hJ1 hR hy S3 D3 hcell H2
              gi_wp2_with (gi_at_call 44; refine (callsIn_wide.2 (HNx W1)).mono ?_; rintro xv W3 ⟨v, rfl, hv3, hb3⟩; obtain ⟨a3, c3, rfl, hR3⟩ := S3'.out _ _ hb3 hv3; clear S3' hv3 hb3)
              gi_loopw [6, 35] (fun nx iv V => ∃ i : Nat, i ≤ N6.length ∧ iv = .int .i64 i ∧ R3 T bm J3 (some ⟨b, off, none⟩) Fk q a3 N6 i nx V) (fun _ iv _ => N6.length - (intOf iv).toNat)
              case atStart => exact ⟨0, by omega, rfl, hR3⟩
              case round =>
                clear hR3
                obtain ⟨i, hi6, rfl, h3⟩ := hrel
                have hsl := seeL_len q (N6.take i)
                have htl : (N6.take i).length ≤ 6 := by rw [List.length_take]; omega
                simp only [List.length_nil, Nat.zero_add] at hll
                have hm1 : (seeL q (N6.take i)).1.length < maxLen := by unfold maxLen; omega
                have hm2 : (seeL q (N6.take i)).2.length ≤ 100 := by omega
                by_cases hlt3 : i < N6.length
                · obtain ⟨b3, o3, hab3, hb3, hc3⟩ := h3.it i hlt3
                  subst hab3
                  have hw : (Lit.int .i64 N6[i]).wf = true := wf6 (hst _ (List.getElem_mem hlt3))
                  have hlook := met_look h3.mp N6[i] hw
                  by_cases hxx : N6[i] ∈ (seeL q (N6.take i)).1
                  · rw [decide_eq_true hxx] at hlook
                    have h3' := Lib.hid (h3.old hlt3 hxx)
                    clear h3 hxx hsl htl hm1 hm2
                    generalize N6[i] = y at *
                    gi_wp2_with (gi_at_lookup; refine wpListIn_look _ rfl _ _ 68 rfl (.map (some bm)) (.int .i64 y) (.bool true) rfl rfl hlook ?_)
                    exact ⟨⟨i + 1, by omega, by go_num, h3'.out⟩, by simp [intOf]; omega⟩
                  · rw [decide_eq_false hxx] at hlook
                    have h3n := Lib.hid (fun V1 V2 o v => h3.new (W1 := V1) (W2 := V2) (o := o) (v := v) hlt3 hxx HFJ (Nat.le_refl bm) hbB)
                    have hnx := h3.nx
                    have hmp := h3.mp
                    have hsz := h3.sz
                    have hne : u6.ownBlock = none ∨ u6.ownBlock ≠ some bm := .inr fun e => by have := (World.ownsRow.lt hnx _ e).1; omega
                    unfold OwnP at hnx
                    unfold MapAt at hmp
                    clear h3 hxx hsl htl
                    generalize N6[i] = y at *
                    gi_wp2_with (first
                      | (gi_at_lookup; refine wpListIn_look _ rfl _ _ 68 rfl (.map (some bm)) (.int .i64 y) (.bool false) rfl rfl hlook ?_)
                      | (gi_at_mapUpdate; refine wpListIn_mapUpdate_own _ rfl _ _ _ 68 rfl 37 4 (Maps.int_keyed Tryd.underlying37) Tryd.underlying68 (plainElem (H := Unit) Tryd.prog 4) bm _ _ rfl hmp hm1 (.int .i64 y) (.bool true) (.int .i64 y) rfl rfl (Maps.keyOf_int_mk Tryd.underlying37 hw) (.lit (.bool true)) [] (plainElem_bool Tryd.underlying4 true) ?_; intro V1 hq1 hg1)
                      | (gi_at_builtin; refine wpListIn_append_own_at _ rfl _ _ 69 rfl T 37 i0 (.int .i64 0) 1 8 Tryd.underlying69 hi hz0 hz1 hz2 rfl (by decide) _ _ _ rfl ((hnx.kept hg1 hne).alloc _) ⟨V1.heap.size, 0, none⟩ 1 1 [.int .i64 y] rfl rfl (cell_one_new _ _ _) (by simp [Value.oneCell']) (by unfold maxLen; omega) (by omega) (by have := hg1.size; simp; omega) ?_; intro v' V2 hown' hgrow _ hat))
                    exact ⟨⟨i + 1, by omega, by go_num, h3n.out _ _ _ _ hq1 hg1 hown' hgrow hat⟩, by simp [intOf]; omega⟩
                · obtain rfl : i = N6.length := by omega
                  gi_wp2
                  exact ⟨⟨j + 1, by omega, by go_num, D3'.out _ _ _ h3⟩, by simp [intOf]; omega⟩
            · gi_wp2
              refine bodyPost_ret (results_none rfl _ _ _) rfl ?_
              refine ⟨⟨_, rfl⟩, .inr ⟨pk ++ (Fk.take j).map (fun x => (x, (k : Int))) ++ [(x, (k : Int))], ?_, hJx1⟩⟩
              have e : pk ++ (Fk.take j).map (fun x => (x, (k : Int))) ++ [(x, (k : Int))] = pk ++ (Fk.take (j + 1)).map (fun x => (x, (k : Int))) := by rw [take_snoc Fk j hlt, hx]; simp
              rw [e]
              exact List.IsPrefix.trans ((List.prefix_append_right_inj pk).2 (List.IsPrefix.map _ (List.take_prefix (j + 1) Fk))) hP2.out
          · obtain rfl : j = Fk.length := by omega
            gi_wp2
            exact HD2.out _ _ h2
      intro u8 u10 next u23 u24 u25 u26 u27 u28 u29 u30 u31 u32 u33 u34 u35 u36 u37 u38 u39 u40 u41 u42 u43 u44 u45 u46 u47 u48 u49 u50 u51 W' hR
      refine hK2 _ _ ?_
      gi_wp2
      exact ⟨⟨k + 1, by omega, by go_num, hR⟩, by simp [intOf]; omega⟩
end Go.Proofs.YtephifkabpidnaaDoor
