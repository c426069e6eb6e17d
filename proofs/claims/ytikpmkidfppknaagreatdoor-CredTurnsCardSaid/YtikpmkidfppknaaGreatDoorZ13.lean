/- Rp, Rq, Rt, Ru, Rs -/
import Derived.Test.YtikpmkidfppknaaGreatDoorZ12
import Derived.Test.YtikpmkidfppknaaGreatDoorZ11
set_option linter.unusedVariables false
set_option linter.unusedSimpArgs false
/- The document's own End. -/
namespace Go.Proofs.YtikpmkidfppknaaGreatDoor
open Go.RowKit Go.Shelf
attribute [local go_sem] Oper.semAt_some

/-- What becomes of one at an end, as the document has it. -/
def enS (id now : Int) (x : Crd) : Bool := if (decide (x.i = id) && holdB now x) = true then decide (x.f < now) else decide (x.f < x.t)
def enD (id now : Int) (x : Crd) : Crd := if (decide (x.i = id) && holdB now x) = true then ⟨x.i, x.k, x.f, now⟩ else x
theorem chL_congr {s s' : Crd → Bool} {d d' : Crd → Crd} : ∀ {l : List Crd}, (∀ x ∈ l, s x = s' x ∧ d x = d' x) → chL s d l = chL s' d' l
  | [], _ => rfl
  | x :: l, h => by
    have ih := chL_congr (s := s) (s' := s') (d := d) (d' := d') (l := l) (fun y hy => h y (List.mem_cons_of_mem _ hy))
    obtain ⟨h1, h2⟩ := h x List.mem_cons_self
    unfold chL at *
    rw [List.filter_cons, List.filter_cons, h1]
    split
    · rw [List.map_cons, List.map_cons, h2, ih]
    · exact ih
theorem right_mem {l : List Crd} (hr : rightB l = true) {x : Crd} (hx : x ∈ l) : credOK x = true := by
  obtain ⟨j, hj, rfl⟩ := List.getElem_of_mem hx
  exact (right_step hr j hj).1
theorem en_is {l : List Crd} {id now : Int} (hr : rightB l = true) (hh : hasB l id now = true) : chL (enS id now) (enD id now) l = chL (endS now id) (endD now id) l := by
  refine chL_congr (fun x hx => ?_)
  have hok := (credOK_iff x).1 (right_mem hr hx)
  have hu := right_nodup hr
  unfold hasB at hh
  rw [List.any_eq_true] at hh
  obtain ⟨y, hy, hy2⟩ := hh
  simp only [Bool.and_eq_true, decide_eq_true_eq] at hy2
  unfold enS enD endS endD
  by_cases e : x.i = id
  · have hxy : x = y := uniq_id hu hx hy (e.trans hy2.1.symm)
    have hh : holdB now x = true := hxy ▸ hy2.2
    simp [e, hh]
  · have := hok.2.2.2.1
    simp [e, this]
theorem has_snoc (l : List Crd) (k : Nat) (h : k < l.length) (id now : Int) : hasB (l.take (k + 1)) id now = (hasB (l.take k) id now || (decide ((l[k]'h).i = id) && holdB now (l[k]'h))) := by
  unfold hasB
  rw [List.take_succ_eq_append_getElem h, List.any_append]
  simp
theorem ch_snoc (s : Crd → Bool) (d : Crd → Crd) (l : List Crd) (k : Nat) (h : k < l.length) : chL s d (l.take (k + 1)) = chL s d (l.take k ++ [l[k]'h]) := by
  rw [List.take_succ_eq_append_getElem h]
set_option maxRecDepth 100000 in
set_option maxHeartbeats 4000000 in
theorem rEndLoop_c (a : Option Addr) (cap : Nat) (l : List Crd) (hs : l.length ≤ 100000) (hr : rightB l = true) (id now : Int) (h0 : 0 ≤ now) (h1 : now ≤ 1000000000000) (w : World) (hA : CrdAt w.heap.size w a l) (M : List Crd) (N : Int) (hT : hasB l id now = true → M = chL (enS id now) (enD id now) l ∧ N = 0) (hF : hasB l id now = false → M = [] ∧ N = 2) :
    Calls Tryz.prog 14 #[.slice a l.length cap, .int .i64 id, .int .i64 now] w (EndW M M.length N w) := by
  have HA := Lib.hid hA
  have HT := Lib.hid hT
  have HF := Lib.hid hF
  have HR := Lib.hid (fun c W h => rRights_c a c l hs W h)
  have HOK := Lib.hid (fun x (hx : x ∈ l) => (credOK_iff x).1 (right_mem hr hx))
  obtain ⟨i0, hi, hz0, hz1, hz2⟩ := infoCrd
  rw [hr] at HR
  clear hA hT hF
  go_enter Tryz.func14, Tryz.ntmps14
  go_wp2_with fail
  refine (HR.out _ _ HA.out).mono ?_
  rintro e wa ⟨rfl, hb⟩
  have BA := Lib.hid hb
  clear hb
  go_wp2
  go_loopw [8, 9, 10] (fun v fb i wr => ∃ k : Nat, k ≤ l.length ∧ i = .int .i64 (k : Int) ∧ fb = .bool (hasB (l.take k) id now) ∧ wr.ownsRow w.heap.size 37 4 v (chL (enS id now) (enD id now) (l.take k)).length (crdCs (chL (enS id now) (enD id now) (l.take k))) ∧ Below w.heap.size w wr) (fun _ _ i _ => l.length - (intOf i).toNat)
  case atStart => exact ⟨0, Nat.zero_le _, rfl, rfl, World.ownsRow_nil _ _ _ _, BA.out⟩
  case round =>
    obtain ⟨k, hk, rfl, rfl, hO, hb⟩ := hrel
    have HO := Lib.hid hO
    have HB := Lib.hid hb
    clear hO hb
    by_cases hlt : k < l.length
    · have hlt' : (k : Int) < (l.length : Int) := by omega
      have HS := Lib.hid (has_snoc l k hlt id now)
      have HN := Lib.hid (ch_snoc (enS id now) (enD id now) l k hlt)
      have hok := HOK.out _ (List.getElem_mem hlt)
      have HH := Lib.hid (fun W => rholds_c (l[k]) now W)
      obtain ⟨b, off, rfl, hbn, c0, c1, c2, c3⟩ := (HA.out.below HB.out) k hlt
      clear hbn
      generalize l[k] = x at *
      obtain ⟨hid1, hkey, hf0, hft, htm⟩ := hok
      obtain ⟨n, hn⟩ : ∃ n, (chL (enS id now) (enD id now) (l.take k)).length = n := ⟨_, rfl⟩
      obtain ⟨xs, hxs⟩ : ∃ xs, crdCs (chL (enS id now) (enD id now) (l.take k)) = xs := ⟨_, rfl⟩
      have hnl : n ≤ 100000 := by have := chL_len (enS id now) (enD id now) (l.take k); rw [List.length_take] at this; omega
      rw [hn, hxs] at HO
      have hzb := HB.out.size
      by_cases he : x.i = id
      · have hd : (x.i == id) = true := by rw [he]; exact beq_self_eq_true _
        have HDI := Lib.hid he
        clear he
        have x0 : (wr.alloc (.cells #[.int .i64 x.i, .string x.k, .int .i64 x.f, .int .i64 x.t] 37)).cell? ⟨wr.heap.size, 0, none⟩ = some (.int .i64 x.i) := by go_simp
        have x1 : (wr.alloc (.cells #[.int .i64 x.i, .string x.k, .int .i64 x.f, .int .i64 x.t] 37)).cell? ⟨wr.heap.size, 1, none⟩ = some (.string x.k) := by go_simp
        have x2 : (wr.alloc (.cells #[.int .i64 x.i, .string x.k, .int .i64 x.f, .int .i64 x.t] 37)).cell? ⟨wr.heap.size, 2, none⟩ = some (.int .i64 x.f) := by go_simp
        have x3 : (wr.alloc (.cells #[.int .i64 x.i, .string x.k, .int .i64 x.f, .int .i64 x.t] 37)).cell? ⟨wr.heap.size, 3, none⟩ = some (.int .i64 x.t) := by go_simp
        have x4 : (wr.alloc (.cells #[.int .i64 x.i, .string x.k, .int .i64 x.f, .int .i64 x.t] 37)).frozen? ⟨wr.heap.size, 3, none⟩ = false := by go_simp
        have XX := Lib.hid (fun w1 (hb1 : Below (wr.alloc (.cells #[.int .i64 x.i, .string x.k, .int .i64 x.f, .int .i64 x.t] 37)).heap.size (wr.alloc (.cells #[.int .i64 x.i, .string x.k, .int .i64 x.f, .int .i64 x.t] 37)) w1) => show w1.cell? ⟨wr.heap.size, 0, none⟩ = some (.int .i64 x.i) ∧ w1.cell? ⟨wr.heap.size, 1, none⟩ = some (.string x.k) ∧ w1.cell? ⟨wr.heap.size, 2, none⟩ = some (.int .i64 x.f) ∧ w1.cell? ⟨wr.heap.size, 3, none⟩ = some (.int .i64 x.t) ∧ w1.frozen? ⟨wr.heap.size, 3, none⟩ = false from ⟨(hb1.cell (blt x0)).trans x0, (hb1.cell (blt x1)).trans x1, (hb1.cell (blt x2)).trans x2, (hb1.cell (blt x3)).trans x3, (hb1.frozen (blt x3)).trans x4⟩)
        clear x0 x1 x2 x3 x4
        by_cases hv : holdB now x = true
        · rw [hv] at HH
          have hHS : hasB (l.take (k + 1)) id now = true := by rw [HS.out]; simp [hv, HDI.out]
          have HH2 := HDI.out
          by_cases hfn : x.f < now
          · have hes : enS id now x = true := by simp [enS, hv, HH2, hfn]
            have hed : enD id now x = ⟨x.i, x.k, x.f, now⟩ := by simp [enD, hv, HH2]
            have hL1 : (chL (enS id now) (enD id now) (l.take (k + 1))).length = n + 1 := by rw [HN.out, chL_yes _ _ _ _ hes, List.length_append, hn]; rfl
            have hL2 : crdCs (chL (enS id now) (enD id now) (l.take (k + 1))) = xs ++ [.int .i64 x.i, .string x.k, .int .i64 x.f, .int .i64 now] := by rw [HN.out, chL_yes _ _ _ _ hes, crdCs_append, hxs, hed]; rfl
            have HL := Lib.hid (And.intro hHS (And.intro hL1 hL2))
            clear hHS hL1 hL2 hes hed HS HN hn hxs hv HH2
            generalize hasB (l.take k) id now = fnd at *
            go_wp2_with fail
            refine (HH.out _).mono ?_
            rintro e w1 ⟨rfl, hb1⟩
            obtain ⟨y0, y1, y2, y3, y4⟩ := XX.out w1 hb1
            have HBW := Lib.hid (btr (below_alloc wr _) hb1)
            clear hb1 c0 c1 c2 c3
            have HBS := Lib.hid (HBW.out.setCell (p := ⟨wr.heap.size, 3, none⟩) (Nat.le_refl _) (.int .i64 now))
            have HO1 := Lib.hid (row_on HO.out HBS.out)
            have HB1 := Lib.hid (btr HB.out HBS.out)
            have hzw := HB1.out.size
            have hsz : (w1.setCell ⟨wr.heap.size, 3, none⟩ (.int .i64 now)).heap.size = w1.heap.size := by simp [World.setCell]
            go_wp2_with (at_builtin; refine wpList_append_own _ rfl (.tmp 47) (.tmp 49) 22 rfl w.heap.size 37 i0 (.agg #[.int .i64 0, .string ⟨#[]⟩, .int .i64 0, .int .i64 0]) 4 40 Tryz.underlying22 hi hz0 hz1 hz2 rfl (by decide) _ n xs rfl (HO1.out.alloc _) ⟨w1.heap.size, 0, none⟩ 1 1 [.int .i64 x.i, .string x.k, .int .i64 x.f, .int .i64 now] rfl rfl (World.news_of_block (cs := #[.int .i64 x.i, .string x.k, .int .i64 x.f, .int .i64 now]) (t := 37) (fr := (0, 0)) (by have h := World.alloc_heap_new (w1.setCell ⟨wr.heap.size, 3, none⟩ (.int .i64 now)) (.cells #[.int .i64 x.i, .string x.k, .int .i64 x.f, .int .i64 now] 37); (try rw [World.size_alloc] at h); (try rw [hsz] at h); exact h)) (by simp [Value.oneCell']) (by unfold maxLen; omega) (by omega) (by simp; omega) ?_; intro v' w3 hown hgrow _; obtain ⟨au, cu, rfl⟩ := row_form hown)
            have HB3 := Lib.hid ((bal HB1.out _).grown hgrow (bal HB1.out _).size (fun j hj => (row_lt HO1.out hj).1))
            have HO3 := Lib.hid hown
            clear hown hgrow
            go_roundw
            case rel => exact ⟨k + 1, by omega, by go_num, by rw [HL.out.1], by rw [HL.out.2.1, HL.out.2.2]; exact HO3.out, HB3.out⟩
            case measure => simp [intOf]; omega
          · have hes : enS id now x = false := by simp [enS, hv, HH2, hfn]
            have hL1 : (chL (enS id now) (enD id now) (l.take (k + 1))).length = n := by rw [HN.out, chL_no _ _ _ _ hes, hn]
            have hL2 : crdCs (chL (enS id now) (enD id now) (l.take (k + 1))) = xs := by rw [HN.out, chL_no _ _ _ _ hes, hxs]
            have HL := Lib.hid (And.intro hHS (And.intro hL1 hL2))
            clear hHS hL1 hL2 hes HS HN hn hxs hv HH2
            generalize hasB (l.take k) id now = fnd at *
            go_wp2_with fail
            refine (HH.out _).mono ?_
            rintro e w1 ⟨rfl, hb1⟩
            obtain ⟨y0, y1, y2, y3, y4⟩ := XX.out w1 hb1
            have HBW := Lib.hid (btr (below_alloc wr _) hb1)
            clear hb1 c0 c1 c2 c3
            have HBS := Lib.hid (HBW.out.setCell (p := ⟨wr.heap.size, 3, none⟩) (Nat.le_refl _) (.int .i64 now))
            have HO1 := Lib.hid (row_on HO.out HBS.out)
            have HB1 := Lib.hid (btr HB.out HBS.out)
            go_wp2
            go_roundw
            case rel => exact ⟨k + 1, by omega, by go_num, by rw [HL.out.1], by rw [HL.out.2.1, HL.out.2.2]; exact HO1.out, HB1.out⟩
            case measure => simp [intOf]; omega
        · have hv2 : holdB now x = false := by simpa using hv
          rw [hv2] at HH
          have hes : enS id now x = true := by simp [enS, hv2, hft]
          have hed : enD id now x = x := by simp [enD, hv2]
          have hHS : hasB (l.take (k + 1)) id now = hasB (l.take k) id now := by rw [HS.out]; simp [hv2]
          have hL1 : (chL (enS id now) (enD id now) (l.take (k + 1))).length = n + 1 := by rw [HN.out, chL_yes _ _ _ _ hes, List.length_append, hn]; rfl
          have hL2 : crdCs (chL (enS id now) (enD id now) (l.take (k + 1))) = xs ++ [.int .i64 x.i, .string x.k, .int .i64 x.f, .int .i64 x.t] := by rw [HN.out, chL_yes _ _ _ _ hes, crdCs_append, hxs, hed]; rfl
          have HL := Lib.hid (And.intro hHS (And.intro hL1 hL2))
          clear hHS hL1 hL2 hes hed HS HN hn hxs hv hv2
          generalize hasB (l.take k) id now = fnd at *
          go_wp2_with fail
          refine (HH.out _).mono ?_
          rintro e w1 ⟨rfl, hb1⟩
          obtain ⟨y0, y1, y2, y3, y4⟩ := XX.out w1 hb1
          have HBW := Lib.hid (btr (below_alloc wr _) hb1)
          clear hb1 c0 c1 c2 c3
          have HO1 := Lib.hid (row_on HO.out HBW.out)
          have HB1 := Lib.hid (btr HB.out HBW.out)
          have hzw := HB1.out.size
          go_wp2_with (at_builtin; refine wpList_append_own _ rfl (.tmp 47) (.tmp 49) 22 rfl w.heap.size 37 i0 (.agg #[.int .i64 0, .string ⟨#[]⟩, .int .i64 0, .int .i64 0]) 4 40 Tryz.underlying22 hi hz0 hz1 hz2 rfl (by decide) _ n xs rfl (HO1.out.alloc _) ⟨w1.heap.size, 0, none⟩ 1 1 [.int .i64 x.i, .string x.k, .int .i64 x.f, .int .i64 x.t] rfl rfl (World.news_of_block (cs := #[.int .i64 x.i, .string x.k, .int .i64 x.f, .int .i64 x.t]) (t := 37) (fr := (0, 0)) (by have h := World.alloc_heap_new w1 (.cells #[.int .i64 x.i, .string x.k, .int .i64 x.f, .int .i64 x.t] 37); (try rw [World.size_alloc] at h); (try rw [hsz] at h); exact h)) (by simp [Value.oneCell']) (by unfold maxLen; omega) (by omega) (by simp; omega) ?_; intro v' w3 hown hgrow _; obtain ⟨au, cu, rfl⟩ := row_form hown)
          have HB3 := Lib.hid ((bal HB1.out _).grown hgrow (bal HB1.out _).size (fun j hj => (row_lt HO1.out hj).1))
          have HO3 := Lib.hid hown
          clear hown hgrow
          go_roundw
          case rel => exact ⟨k + 1, by omega, by go_num, by rw [HL.out.1], by rw [HL.out.2.1, HL.out.2.2]; exact HO3.out, HB3.out⟩
          case measure => simp [intOf]; omega
      · have hd : (x.i == id) = false := beq_eq_false_iff_ne.2 he
        have hes : enS id now x = true := by simp [enS, he, hft]
        have hed : enD id now x = x := by simp [enD, he]
        have hHS : hasB (l.take (k + 1)) id now = hasB (l.take k) id now := by rw [HS.out]; simp [he]
        have hL1 : (chL (enS id now) (enD id now) (l.take (k + 1))).length = n + 1 := by rw [HN.out, chL_yes _ _ _ _ hes, List.length_append, hn]; rfl
        have hL2 : crdCs (chL (enS id now) (enD id now) (l.take (k + 1))) = xs ++ [.int .i64 x.i, .string x.k, .int .i64 x.f, .int .i64 x.t] := by rw [HN.out, chL_yes _ _ _ _ hes, crdCs_append, hxs, hed]; rfl
        have HL := Lib.hid (And.intro hHS (And.intro hL1 hL2))
        clear hHS hL1 hL2 hes hed HS HN HH he hn hxs
        generalize hasB (l.take k) id now = fnd at *
        go_wp2_with (at_builtin; refine wpList_append_own _ rfl (.tmp 47) (.tmp 49) 22 rfl w.heap.size 37 i0 (.agg #[.int .i64 0, .string ⟨#[]⟩, .int .i64 0, .int .i64 0]) 4 40 Tryz.underlying22 hi hz0 hz1 hz2 rfl (by decide) _ n xs rfl ((HO.out.alloc _).alloc _) ⟨wr.heap.size + 1, 0, none⟩ 1 1 [.int .i64 x.i, .string x.k, .int .i64 x.f, .int .i64 x.t] rfl rfl (World.news_of_block (cs := #[.int .i64 x.i, .string x.k, .int .i64 x.f, .int .i64 x.t]) (t := 37) (fr := (0, 0)) (by have h := World.alloc_heap_new (wr.alloc (.cells #[.int .i64 x.i, .string x.k, .int .i64 x.f, .int .i64 x.t] 37)) (.cells #[.int .i64 x.i, .string x.k, .int .i64 x.f, .int .i64 x.t] 37); (try rw [World.size_alloc] at h); (try rw [hsz] at h); exact h)) (by simp [Value.oneCell']) (by unfold maxLen; omega) (by omega) (by simp; omega) ?_; intro v' w3 hown hgrow _; obtain ⟨au, cu, rfl⟩ := row_form hown)
        have HB3 := Lib.hid ((bal (bal HB.out _) _).grown hgrow (bal (bal HB.out _) _).size (fun j hj => (row_lt HO.out hj).1))
        have HO3 := Lib.hid hown
        clear hown hgrow
        go_roundw
        case rel => exact ⟨k + 1, by omega, by go_num, by rw [HL.out.1], by rw [HL.out.2.1, HL.out.2.2]; exact HO3.out, HB3.out⟩
        case measure => simp [intOf]; omega
    · have hge : ¬ (k : Int) < (l.length : Int) := by omega
      obtain rfl : k = l.length := by omega
      rw [List.take_length] at HO ⊢
      by_cases hh : hasB l id now = true
      · obtain ⟨hM, rfl⟩ := HT.out hh
        rw [← hM] at HO
        have hO := HO.out
        obtain ⟨au, cu, rfl⟩ := row_form hO
        obtain ⟨a', c', e, hA'⟩ := crd_of_row hO
        injection e with e1 e2 e3
        subst e1
        rw [hh]
        clear HO hO HT HF hM hh
        go_wp2
        go_ret2
        exact ⟨_, _, rfl, hA', HB.out⟩
      · have hh : hasB l id now = false := by simpa using hh
        obtain ⟨rfl, rfl⟩ := HF.out hh
        rw [hh]
        clear HO HT HF
        go_wp2
        go_ret2
        exact ⟨none, 0, rfl, CrdAt.nil _ _ _, HB.out⟩
end Go.Proofs.YtikpmkidfppknaaGreatDoor

/- The document's own End, whole; Rotate. -/
namespace Go.Proofs.YtikpmkidfppknaaGreatDoor
open Go.RowKit Go.Shelf
attribute [local go_sem] Oper.semAt_some

set_option maxRecDepth 100000 in
set_option maxHeartbeats 4000000 in
theorem rEnd_c (a : Option Addr) (cap : Nat) (l : List Crd) (hs : l.length ≤ 100000) (id now : Int) (w : World) (hA : CrdAt w.heap.size w a l) :
    Calls Tryz.prog 14 #[.slice a l.length cap, .int .i64 id, .int .i64 now] w (EndW (endM l id now) (endM l id now).length (endN l id now) w) := by
  by_cases hr : rightB l = true
  · by_cases h0 : 0 ≤ now
    · by_cases h1 : now ≤ 1000000000000
      · refine rEndLoop_c a cap l hs hr id now h0 h1 w hA _ _ (fun hh => ?_) (fun hh => ?_)
        · rw [en_is hr hh]
          constructor <;> simp [endM, endN, endCh, firstN, btB, hr, h0, h1, hh]
        · constructor <;> simp [endM, endN, endCh, firstN, btB, hr, h0, h1, hh]
      · have hM : endM l id now = [] := by simp [endM, endCh, btB, h1]
        have hN : endN l id now = 2 := by simp [endN, endCh, firstN, btB, hr, h0, h1]
        have HA := Lib.hid hA
        have HR := Lib.hid (fun c W h => rRights_c a c l hs W h)
        rw [hr] at HR
        rw [hM, hN]
        clear hA
        go_enter Tryz.func14, Tryz.ntmps14
        go_wp2_with fail
        refine (HR.out _ _ HA.out).mono ?_
        rintro e wa ⟨rfl, hb⟩
        have BA := Lib.hid hb
        clear hb
        go_wp2
        go_ret2
        exact ⟨none, 0, rfl, CrdAt.nil _ _ _, BA.out⟩
    · have hM : endM l id now = [] := by simp [endM, endCh, btB, h0]
      have hN : endN l id now = 2 := by simp [endN, endCh, firstN, btB, hr, h0]
      have HA := Lib.hid hA
      have HR := Lib.hid (fun c W h => rRights_c a c l hs W h)
      rw [hr] at HR
      rw [hM, hN]
      clear hA
      go_enter Tryz.func14, Tryz.ntmps14
      go_wp2_with fail
      refine (HR.out _ _ HA.out).mono ?_
      rintro e wa ⟨rfl, hb⟩
      have BA := Lib.hid hb
      clear hb
      go_wp2
      go_ret2
      exact ⟨none, 0, rfl, CrdAt.nil _ _ _, BA.out⟩
  · have hr : rightB l = false := by simpa using hr
    have hM : endM l id now = [] := by simp [endM, endCh, hr]
    have hN : endN l id now = 110 := by simp [endN, endCh, firstN, hr]
    have HA := Lib.hid hA
    have HR := Lib.hid (fun c W h => rRights_c a c l hs W h)
    rw [hr] at HR
    rw [hM, hN]
    clear hA
    go_enter Tryz.func14, Tryz.ntmps14
    go_wp2_with fail
    refine (HR.out _ _ HA.out).mono ?_
    rintro e wa ⟨rfl, hb⟩
    have BA := Lib.hid hb
    clear hb
    go_wp2
    go_ret2
    exact ⟨none, 0, rfl, CrdAt.nil _ _ _, BA.out⟩
end Go.Proofs.YtikpmkidfppknaaGreatDoor

/- The document's own Rotate. -/
namespace Go.Proofs.YtikpmkidfppknaaGreatDoor
open Go.RowKit Go.Shelf
attribute [local go_sem] Oper.semAt_some

theorem grt_take (l : List Crd) (k : Nat) (h : k < l.length) : grtL (l.take (k + 1)) = (l[k]'h).i := by
  unfold grtL
  rw [List.take_succ_eq_append_getElem h, List.getLast?_concat]
  rfl
set_option maxRecDepth 100000 in
set_option maxHeartbeats 4000000 in
theorem rRotLoop_c (a : Option Addr) (cap : Nat) (l : List Crd) (hs : l.length ≤ 100000) (hr : rightB l = true) (key : ByteArray) (hk : isKeyB key = true) (now overlap span : Int) (h0 : 0 ≤ now) (h1 : now ≤ 1000000000000) (h2 : 0 ≤ overlap) (h3 : overlap ≤ 1000000000) (h4 : 1 ≤ span) (h5 : span ≤ 1000000000) (h6 : now + span ≤ 1000000000000) (w : World) (hA : CrdAt w.heap.size w a l) (M : List Crd) (I N : Int) (hT : rotF l key now overlap span = false → M = rotL l key now overlap span ∧ I = grtL l + 1 ∧ N = 0) (hF : rotF l key now overlap span = true → M = [] ∧ I = 0 ∧ N = 92) :
    Calls Tryz.prog 12 #[.slice a l.length cap, .string key, .int .i64 now, .int .i64 overlap, .int .i64 span] w (RotW M M.length I N w) := by
  have HA := Lib.hid hA
  have HT := Lib.hid hT
  have HF := Lib.hid hF
  have HR := Lib.hid (fun c W h => rRights_c a c l hs W h)
  have HK := Lib.hid (fun W => rRight_c key W)
  have HOK := Lib.hid (fun x (hx : x ∈ l) => (credOK_iff x).1 (right_mem hr hx))
  have hgb := grtL_bound (right_ids hr)
  have hl4 := right_len hr
  obtain ⟨i0, hi, hz0, hz1, hz2⟩ := infoCrd
  have hno : IntKind.i64.wrap (now + overlap) = now + overlap := IntWalk.i64_in _ (by omega)
  have hns : IntKind.i64.wrap (now + span) = now + span := IntWalk.i64_in _ (by omega)
  rw [hr] at HR
  rw [hk] at HK
  clear hA hT hF hk
  go_enter Tryz.func12, Tryz.ntmps12
  go_wp2_with fail
  refine (HR.out _ _ HA.out).mono ?_
  rintro e wa ⟨rfl, hb⟩
  have BA := Lib.hid hb
  clear hb
  go_wp2_with fail
  refine (HK.out _).mono ?_
  rintro e wb ⟨rfl, hb⟩
  have BB := Lib.hid (btr BA.out hb)
  clear hb
  go_wp2
  go_loopw [13, 14, 15] (fun v d i wr => ∃ k : Nat, k ≤ l.length ∧ i = .int .i64 (k : Int) ∧ d = .int .i64 (grtL (l.take k) + 1) ∧ wr.ownsRow w.heap.size 37 4 v (chL (rotS now (now + overlap)) (rotD (now + overlap)) (l.take k)).length (crdCs (chL (rotS now (now + overlap)) (rotD (now + overlap)) (l.take k))) ∧ Below w.heap.size w wr) (fun _ _ i _ => l.length - (intOf i).toNat)
  case atStart => exact ⟨0, Nat.zero_le _, rfl, rfl, World.ownsRow_nil _ _ _ _, BB.out⟩
  case round =>
    obtain ⟨k, hk, rfl, rfl, hO, hb⟩ := hrel
    have HO := Lib.hid hO
    have HB := Lib.hid hb
    clear hO hb
    obtain ⟨n, hn⟩ : ∃ n, (chL (rotS now (now + overlap)) (rotD (now + overlap)) (l.take k)).length = n := ⟨_, rfl⟩
    obtain ⟨xs, hxs⟩ : ∃ xs, crdCs (chL (rotS now (now + overlap)) (rotD (now + overlap)) (l.take k)) = xs := ⟨_, rfl⟩
    have hnl : n ≤ 100000 := by have := chL_len (rotS now (now + overlap)) (rotD (now + overlap)) (l.take k); rw [List.length_take] at this; omega
    have hzb := HB.out.size
    by_cases hlt : k < l.length
    · have hlt' : (k : Int) < (l.length : Int) := by omega
      rw [hn, hxs] at HO
      have HN := Lib.hid (ch_snoc (rotS now (now + overlap)) (rotD (now + overlap)) l k hlt)
      have HG := Lib.hid (grt_take l k hlt)
      have hok := HOK.out _ (List.getElem_mem hlt)
      obtain ⟨b, off, rfl, hbn, c0, c1, c2, c3⟩ := (HA.out.below HB.out) k hlt
      clear hbn
      generalize l[k] = x at *
      generalize grtL (l.take k) = g at *
      obtain ⟨⟨hi1, hi2⟩, hkey, hf0, hft, htm⟩ := hok
      have hxi : IntKind.i64.wrap (x.i + 1) = x.i + 1 := IntWalk.i64_in _ (by omega)
      obtain ⟨m, hm⟩ : ∃ m, min x.t (now + overlap) = m := ⟨_, rfl⟩
      have hmx : m = x.t ∨ m = now + overlap := by omega
      have hml : m ≤ x.t ∧ m ≤ now + overlap := by omega
      have d3 := ((below_alloc wr (.cells #[.int .i64 x.i, .string x.k, .int .i64 x.f, .int .i64 m] 37)).cell (blt c3)).trans c3
      by_cases q1 : now < x.t
      · by_cases q2 : x.f < m
        · have hes : rotS now (now + overlap) x = true := by unfold rotS; rw [decide_eq_true q1, decide_eq_true (show x.f < now + overlap by omega)]; rfl
          have hed : rotD (now + overlap) x = ⟨x.i, x.k, x.f, m⟩ := by unfold rotD; rw [hm]
          have hL1 : (chL (rotS now (now + overlap)) (rotD (now + overlap)) (l.take (k + 1))).length = n + 1 := by rw [HN.out, chL_yes _ _ _ _ hes, List.length_append, hn]; rfl
          have hL2 : crdCs (chL (rotS now (now + overlap)) (rotD (now + overlap)) (l.take (k + 1))) = xs ++ [.int .i64 x.i, .string x.k, .int .i64 x.f, .int .i64 m] := by rw [HN.out, chL_yes _ _ _ _ hes, crdCs_append, hxs, hed]; rfl
          have HL := Lib.hid (And.intro hL1 hL2)
          clear hL1 hL2 hes hed HN hn hxs hmx hml
          go_wp2_with (at_builtin; refine wpList_append_own _ rfl (.tmp 88) (.tmp 90) 22 rfl w.heap.size 37 i0 (.agg #[.int .i64 0, .string ⟨#[]⟩, .int .i64 0, .int .i64 0]) 4 40 Tryz.underlying22 hi hz0 hz1 hz2 rfl (by decide) _ n xs rfl ((HO.out.alloc _).alloc _) ⟨wr.heap.size + 1, 0, none⟩ 1 1 [.int .i64 x.i, .string x.k, .int .i64 x.f, .int .i64 m] rfl rfl (World.news_of_block (cs := #[.int .i64 x.i, .string x.k, .int .i64 x.f, .int .i64 m]) (t := 37) (fr := (0, 0)) (by have h := World.alloc_heap_new (wr.alloc (.cells #[.int .i64 x.i, .string x.k, .int .i64 x.f, .int .i64 m] 37)) (.cells #[.int .i64 x.i, .string x.k, .int .i64 x.f, .int .i64 m] 37); (try rw [World.size_alloc] at h); (try rw [hsz] at h); exact h)) (by simp [Value.oneCell']) (by unfold maxLen; omega) (by omega) (by simp; omega) ?_; intro v' w3 hown hgrow _; obtain ⟨au, cu, rfl⟩ := row_form hown)
          have HB3 := Lib.hid ((bal (bal HB.out _) _).grown hgrow (bal (bal HB.out _) _).size (fun j hj => (row_lt HO.out hj).1))
          have HO3 := Lib.hid hown
          clear hown hgrow
          go_roundw
          case rel => exact ⟨k + 1, by omega, by go_num, by rw [HG.out], by rw [HL.out.1, HL.out.2]; exact HO3.out, HB3.out⟩
          case measure => simp [intOf]; omega
        · have hes : rotS now (now + overlap) x = false := by unfold rotS; rw [decide_eq_false (show ¬ x.f < now + overlap by omega), Bool.and_false]
          have hL1 : (chL (rotS now (now + overlap)) (rotD (now + overlap)) (l.take (k + 1))).length = n := by rw [HN.out, chL_no _ _ _ _ hes, hn]
          have hL2 : crdCs (chL (rotS now (now + overlap)) (rotD (now + overlap)) (l.take (k + 1))) = xs := by rw [HN.out, chL_no _ _ _ _ hes, hxs]
          have HL := Lib.hid (And.intro hL1 hL2)
          clear hL1 hL2 hes HN hn hxs hmx hml
          have HB3 := Lib.hid (bal HB.out (.cells #[.int .i64 x.i, .string x.k, .int .i64 x.f, .int .i64 m] 37))
          have HO3 := Lib.hid (HO.out.alloc (.cells #[.int .i64 x.i, .string x.k, .int .i64 x.f, .int .i64 m] 37))
          go_wp2
          go_roundw
          case rel => exact ⟨k + 1, by omega, by go_num, by rw [HG.out], by rw [HL.out.1, HL.out.2]; exact HO3.out, HB3.out⟩
          case measure => simp [intOf]; omega
      · have hes : rotS now (now + overlap) x = false := by unfold rotS; rw [decide_eq_false q1, Bool.false_and]
        have hL1 : (chL (rotS now (now + overlap)) (rotD (now + overlap)) (l.take (k + 1))).length = n := by rw [HN.out, chL_no _ _ _ _ hes, hn]
        have hL2 : crdCs (chL (rotS now (now + overlap)) (rotD (now + overlap)) (l.take (k + 1))) = xs := by rw [HN.out, chL_no _ _ _ _ hes, hxs]
        have HL := Lib.hid (And.intro hL1 hL2)
        clear hL1 hL2 hes HN hn hxs hmx hml
        have HB3 := Lib.hid (bal HB.out (.cells #[.int .i64 x.i, .string x.k, .int .i64 x.f, .int .i64 m] 37))
        have HO3 := Lib.hid (HO.out.alloc (.cells #[.int .i64 x.i, .string x.k, .int .i64 x.f, .int .i64 m] 37))
        go_wp2
        go_roundw
        case rel => exact ⟨k + 1, by omega, by go_num, by rw [HG.out], by rw [HL.out.1, HL.out.2]; exact HO3.out, HB3.out⟩
        case measure => simp [intOf]; omega
    · have hge : ¬ (k : Int) < (l.length : Int) := by omega
      obtain rfl : k = l.length := by omega
      have hLl : (rotL l key now overlap span).length = n + 1 := by unfold rotL; rw [List.length_append, ← hn, List.take_length]; rfl
      have hLc : crdCs (rotL l key now overlap span) = xs ++ [.int .i64 (grtL l + 1), .string key, .int .i64 now, .int .i64 (now + span)] := by unfold rotL; rw [crdCs_append, ← hxs, List.take_length]; rfl
      rw [hn, hxs] at HO
      rw [List.take_length]
      have HFD := Lib.hid (show rotF l key now overlap span = (decide (4 < n + 1) || decide (1000000000 < grtL l + 1)) by unfold rotF; rw [hLl])
      have HL := Lib.hid (And.intro hLl hLc)
      generalize rotL l key now overlap span = RL at *
      obtain ⟨gid, hgid⟩ : ∃ g, grtL l + 1 = g := ⟨_, rfl⟩
      rw [hgid] at HT HFD HL ⊢
      obtain ⟨nsp, hnsp⟩ : ∃ g, now + span = g := ⟨_, rfl⟩
      rw [hnsp] at HL hns
      clear hLl hLc hn hxs
      by_cases c1 : 4 < n + 1
      · have c1' : (4 : Int) < ((n + 1 : Nat) : Int) := by omega
        obtain ⟨rfl, rfl, rfl⟩ := HF.out (by rw [HFD.out, decide_eq_true c1]; rfl)
        clear HT HFD
        go_wp2_with (at_builtin; refine wpList_append_own _ rfl (.tmp 92) (.tmp 100) 22 rfl w.heap.size 37 i0 (.agg #[.int .i64 0, .string ⟨#[]⟩, .int .i64 0, .int .i64 0]) 4 40 Tryz.underlying22 hi hz0 hz1 hz2 rfl (by decide) _ n xs rfl (HO.out.alloc _) ⟨wr.heap.size, 0, none⟩ 1 1 [.int .i64 gid, .string key, .int .i64 now, .int .i64 nsp] rfl rfl (World.news_of_block (cs := #[.int .i64 gid, .string key, .int .i64 now, .int .i64 nsp]) (t := 37) (fr := (0, 0)) (by have h := World.alloc_heap_new wr (.cells #[.int .i64 gid, .string key, .int .i64 now, .int .i64 nsp] 37); (try rw [World.size_alloc] at h); (try rw [hsz] at h); exact h)) (by simp [Value.oneCell']) (by unfold maxLen; omega) (by omega) (by simp; omega) ?_; intro v' w3 hown hgrow _; obtain ⟨au, cu, rfl⟩ := row_form hown)
        have HB3 := Lib.hid ((bal HB.out _).grown hgrow (bal HB.out _).size (fun j hj => (row_lt HO.out hj).1))
        clear hown hgrow
        go_ret3
        exact ⟨none, 0, rfl, CrdAt.nil _ _ _, HB3.out⟩
      · have c1' : ¬ (4 : Int) < ((n + 1 : Nat) : Int) := by omega
        by_cases c2 : 1000000000 < gid
        · obtain ⟨rfl, rfl, rfl⟩ := HF.out (by rw [HFD.out, decide_eq_true c2, Bool.or_true])
          clear HT HFD
          go_wp2_with (at_builtin; refine wpList_append_own _ rfl (.tmp 92) (.tmp 100) 22 rfl w.heap.size 37 i0 (.agg #[.int .i64 0, .string ⟨#[]⟩, .int .i64 0, .int .i64 0]) 4 40 Tryz.underlying22 hi hz0 hz1 hz2 rfl (by decide) _ n xs rfl (HO.out.alloc _) ⟨wr.heap.size, 0, none⟩ 1 1 [.int .i64 gid, .string key, .int .i64 now, .int .i64 nsp] rfl rfl (World.news_of_block (cs := #[.int .i64 gid, .string key, .int .i64 now, .int .i64 nsp]) (t := 37) (fr := (0, 0)) (by have h := World.alloc_heap_new wr (.cells #[.int .i64 gid, .string key, .int .i64 now, .int .i64 nsp] 37); (try rw [World.size_alloc] at h); (try rw [hsz] at h); exact h)) (by simp [Value.oneCell']) (by unfold maxLen; omega) (by omega) (by simp; omega) ?_; intro v' w3 hown hgrow _; obtain ⟨au, cu, rfl⟩ := row_form hown)
          have HB3 := Lib.hid ((bal HB.out _).grown hgrow (bal HB.out _).size (fun j hj => (row_lt HO.out hj).1))
          clear hown hgrow
          go_ret3
          exact ⟨none, 0, rfl, CrdAt.nil _ _ _, HB3.out⟩
        · obtain ⟨rfl, rfl, rfl⟩ := HT.out (by rw [HFD.out, decide_eq_false c1, decide_eq_false c2]; rfl)
          clear HF HFD
          go_wp2_with (at_builtin; refine wpList_append_own _ rfl (.tmp 92) (.tmp 100) 22 rfl w.heap.size 37 i0 (.agg #[.int .i64 0, .string ⟨#[]⟩, .int .i64 0, .int .i64 0]) 4 40 Tryz.underlying22 hi hz0 hz1 hz2 rfl (by decide) _ n xs rfl (HO.out.alloc _) ⟨wr.heap.size, 0, none⟩ 1 1 [.int .i64 I, .string key, .int .i64 now, .int .i64 nsp] rfl rfl (World.news_of_block (cs := #[.int .i64 I, .string key, .int .i64 now, .int .i64 nsp]) (t := 37) (fr := (0, 0)) (by have h := World.alloc_heap_new wr (.cells #[.int .i64 I, .string key, .int .i64 now, .int .i64 nsp] 37); (try rw [World.size_alloc] at h); (try rw [hsz] at h); exact h)) (by simp [Value.oneCell']) (by unfold maxLen; omega) (by omega) (by simp; omega) ?_; intro v' w3 hown hgrow _; obtain ⟨au, cu, rfl⟩ := row_form hown)
          have HB3 := Lib.hid ((bal HB.out _).grown hgrow (bal HB.out _).size (fun j hj => (row_lt HO.out hj).1))
          rw [← HL.out.2, ← HL.out.1] at hown
          obtain ⟨a', c', e, hA'⟩ := crd_of_row hown
          injection e with e1 e2 e3
          subst e1
          clear hown hgrow
          go_ret3
          exact ⟨au, cu, by rw [HL.out.1]; rfl, hA', HB3.out⟩
end Go.Proofs.YtikpmkidfppknaaGreatDoor

/- The document's own Rotate, whole. -/
namespace Go.Proofs.YtikpmkidfppknaaGreatDoor
open Go.RowKit Go.Shelf
attribute [local go_sem] Oper.semAt_some

set_option maxRecDepth 100000 in
set_option maxHeartbeats 4000000 in
theorem rRotate_c (a : Option Addr) (cap : Nat) (l : List Crd) (hs : l.length ≤ 100000) (key : ByteArray) (now overlap span : Int) (w : World) (hA : CrdAt w.heap.size w a l) :
    Calls Tryz.prog 12 #[.slice a l.length cap, .string key, .int .i64 now, .int .i64 overlap, .int .i64 span] w (RotW (rotM l key now overlap span) (rotM l key now overlap span).length (rotI l key now overlap span) (rotN l key now overlap span) w) := by
  by_cases hr : rightB l = true
  · by_cases hk : isKeyB key = true
    · skip
      by_cases h0 : 0 ≤ now
      · skip
        by_cases h1 : now ≤ 1000000000000
        · skip
          by_cases h2 : 0 ≤ overlap
          · skip
            by_cases h3 : overlap ≤ 1000000000
            · skip
              by_cases h4 : 1 ≤ span
              · skip
                by_cases h5 : span ≤ 1000000000
                · skip
                  have hX : rotX now = 1000000000000 - now := by unfold rotX; exact IntWalk.i64_in _ (by omega)
                  have hns : IntKind.i64.wrap (now + span) = now + span := IntWalk.i64_in _ (by omega)
                  by_cases h6 : now + span ≤ 1000000000000
                  · have h7 : span ≤ 1000000000000 - now := by omega
                    have hK1 : rotK l key now overlap span = true := by simp [rotK, rotCh, btB, hr, hk, h0, h1, h2, h3, h4, h5, hX, h7]
                    refine rRotLoop_c a cap l hs hr key hk now overlap span h0 h1 h2 h3 h4 h5 h6 w hA _ _ _ (fun hh => ?_) (fun hh => ?_)
                    · refine ⟨?_, ?_, ?_⟩ <;> simp [rotM, rotI, rotN, hK1, hh]
                    · refine ⟨?_, ?_, ?_⟩ <;> simp [rotM, rotI, rotN, hK1, hh]
                  · have h7 : ¬ span ≤ 1000000000000 - now := by omega
                    have hM : rotM l key now overlap span = [] := by simp [rotM, rotI, rotN, rotK, rotCh, firstN, btB, hr, hk, h0, h1, h2, h3, h4, h5, hX, h7]
                    have hI : rotI l key now overlap span = 0 := by simp [rotM, rotI, rotN, rotK, rotCh, firstN, btB, hr, hk, h0, h1, h2, h3, h4, h5, hX, h7]
                    have hN : rotN l key now overlap span = 2 := by simp [rotM, rotI, rotN, rotK, rotCh, firstN, btB, hr, hk, h0, h1, h2, h3, h4, h5, hX, h7]
                    rw [hM, hI, hN]
                    have HA := Lib.hid hA
                    have HR := Lib.hid (fun c W h => rRights_c a c l hs W h)
                    rw [hr] at HR
                    have HK := Lib.hid (fun W => rRight_c key W)
                    rw [hk] at HK
                    clear hA hM hI hN
                    go_enter Tryz.func12, Tryz.ntmps12
                    go_wp2_with fail
                    refine (HR.out _ _ HA.out).mono ?_
                    rintro e wa ⟨rfl, hb⟩
                    have BA := Lib.hid hb
                    clear hb
                    go_wp2_with fail
                    refine (HK.out _).mono ?_
                    rintro e wb ⟨rfl, hb⟩
                    have BB := Lib.hid (btr BA.out hb)
                    clear hb
                    go_wp2
                    go_ret3
                    exact ⟨none, 0, rfl, CrdAt.nil _ _ _, BB.out⟩
                · skip
                  have hM : rotM l key now overlap span = [] := by simp [rotM, rotI, rotN, rotK, rotCh, firstN, btB, hr, hk, h0, h1, h2, h3, h4, h5]
                  have hI : rotI l key now overlap span = 0 := by simp [rotM, rotI, rotN, rotK, rotCh, firstN, btB, hr, hk, h0, h1, h2, h3, h4, h5]
                  have hN : rotN l key now overlap span = 2 := by simp [rotM, rotI, rotN, rotK, rotCh, firstN, btB, hr, hk, h0, h1, h2, h3, h4, h5]
                  rw [hM, hI, hN]
                  have HA := Lib.hid hA
                  have HR := Lib.hid (fun c W h => rRights_c a c l hs W h)
                  rw [hr] at HR
                  have HK := Lib.hid (fun W => rRight_c key W)
                  rw [hk] at HK
                  clear hA hM hI hN
                  go_enter Tryz.func12, Tryz.ntmps12
                  go_wp2_with fail
                  refine (HR.out _ _ HA.out).mono ?_
                  rintro e wa ⟨rfl, hb⟩
                  have BA := Lib.hid hb
                  clear hb
                  go_wp2_with fail
                  refine (HK.out _).mono ?_
                  rintro e wb ⟨rfl, hb⟩
                  have BB := Lib.hid (btr BA.out hb)
                  clear hb
                  go_wp2
                  go_ret3
                  exact ⟨none, 0, rfl, CrdAt.nil _ _ _, BB.out⟩
              · skip
                have hM : rotM l key now overlap span = [] := by simp [rotM, rotI, rotN, rotK, rotCh, firstN, btB, hr, hk, h0, h1, h2, h3, h4]
                have hI : rotI l key now overlap span = 0 := by simp [rotM, rotI, rotN, rotK, rotCh, firstN, btB, hr, hk, h0, h1, h2, h3, h4]
                have hN : rotN l key now overlap span = 2 := by simp [rotM, rotI, rotN, rotK, rotCh, firstN, btB, hr, hk, h0, h1, h2, h3, h4]
                rw [hM, hI, hN]
                have HA := Lib.hid hA
                have HR := Lib.hid (fun c W h => rRights_c a c l hs W h)
                rw [hr] at HR
                have HK := Lib.hid (fun W => rRight_c key W)
                rw [hk] at HK
                clear hA hM hI hN
                go_enter Tryz.func12, Tryz.ntmps12
                go_wp2_with fail
                refine (HR.out _ _ HA.out).mono ?_
                rintro e wa ⟨rfl, hb⟩
                have BA := Lib.hid hb
                clear hb
                go_wp2_with fail
                refine (HK.out _).mono ?_
                rintro e wb ⟨rfl, hb⟩
                have BB := Lib.hid (btr BA.out hb)
                clear hb
                go_wp2
                go_ret3
                exact ⟨none, 0, rfl, CrdAt.nil _ _ _, BB.out⟩
            · skip
              have hM : rotM l key now overlap span = [] := by simp [rotM, rotI, rotN, rotK, rotCh, firstN, btB, hr, hk, h0, h1, h2, h3]
              have hI : rotI l key now overlap span = 0 := by simp [rotM, rotI, rotN, rotK, rotCh, firstN, btB, hr, hk, h0, h1, h2, h3]
              have hN : rotN l key now overlap span = 2 := by simp [rotM, rotI, rotN, rotK, rotCh, firstN, btB, hr, hk, h0, h1, h2, h3]
              rw [hM, hI, hN]
              have HA := Lib.hid hA
              have HR := Lib.hid (fun c W h => rRights_c a c l hs W h)
              rw [hr] at HR
              have HK := Lib.hid (fun W => rRight_c key W)
              rw [hk] at HK
              clear hA hM hI hN
              go_enter Tryz.func12, Tryz.ntmps12
              go_wp2_with fail
              refine (HR.out _ _ HA.out).mono ?_
              rintro e wa ⟨rfl, hb⟩
              have BA := Lib.hid hb
              clear hb
              go_wp2_with fail
              refine (HK.out _).mono ?_
              rintro e wb ⟨rfl, hb⟩
              have BB := Lib.hid (btr BA.out hb)
              clear hb
              go_wp2
              go_ret3
              exact ⟨none, 0, rfl, CrdAt.nil _ _ _, BB.out⟩
          · skip
            have hM : rotM l key now overlap span = [] := by simp [rotM, rotI, rotN, rotK, rotCh, firstN, btB, hr, hk, h0, h1, h2]
            have hI : rotI l key now overlap span = 0 := by simp [rotM, rotI, rotN, rotK, rotCh, firstN, btB, hr, hk, h0, h1, h2]
            have hN : rotN l key now overlap span = 2 := by simp [rotM, rotI, rotN, rotK, rotCh, firstN, btB, hr, hk, h0, h1, h2]
            rw [hM, hI, hN]
            have HA := Lib.hid hA
            have HR := Lib.hid (fun c W h => rRights_c a c l hs W h)
            rw [hr] at HR
            have HK := Lib.hid (fun W => rRight_c key W)
            rw [hk] at HK
            clear hA hM hI hN
            go_enter Tryz.func12, Tryz.ntmps12
            go_wp2_with fail
            refine (HR.out _ _ HA.out).mono ?_
            rintro e wa ⟨rfl, hb⟩
            have BA := Lib.hid hb
            clear hb
            go_wp2_with fail
            refine (HK.out _).mono ?_
            rintro e wb ⟨rfl, hb⟩
            have BB := Lib.hid (btr BA.out hb)
            clear hb
            go_wp2
            go_ret3
            exact ⟨none, 0, rfl, CrdAt.nil _ _ _, BB.out⟩
        · skip
          have hM : rotM l key now overlap span = [] := by simp [rotM, rotI, rotN, rotK, rotCh, firstN, btB, hr, hk, h0, h1]
          have hI : rotI l key now overlap span = 0 := by simp [rotM, rotI, rotN, rotK, rotCh, firstN, btB, hr, hk, h0, h1]
          have hN : rotN l key now overlap span = 2 := by simp [rotM, rotI, rotN, rotK, rotCh, firstN, btB, hr, hk, h0, h1]
          rw [hM, hI, hN]
          have HA := Lib.hid hA
          have HR := Lib.hid (fun c W h => rRights_c a c l hs W h)
          rw [hr] at HR
          have HK := Lib.hid (fun W => rRight_c key W)
          rw [hk] at HK
          clear hA hM hI hN
          go_enter Tryz.func12, Tryz.ntmps12
          go_wp2_with fail
          refine (HR.out _ _ HA.out).mono ?_
          rintro e wa ⟨rfl, hb⟩
          have BA := Lib.hid hb
          clear hb
          go_wp2_with fail
          refine (HK.out _).mono ?_
          rintro e wb ⟨rfl, hb⟩
          have BB := Lib.hid (btr BA.out hb)
          clear hb
          go_wp2
          go_ret3
          exact ⟨none, 0, rfl, CrdAt.nil _ _ _, BB.out⟩
      · skip
        have hM : rotM l key now overlap span = [] := by simp [rotM, rotI, rotN, rotK, rotCh, firstN, btB, hr, hk, h0]
        have hI : rotI l key now overlap span = 0 := by simp [rotM, rotI, rotN, rotK, rotCh, firstN, btB, hr, hk, h0]
        have hN : rotN l key now overlap span = 2 := by simp [rotM, rotI, rotN, rotK, rotCh, firstN, btB, hr, hk, h0]
        rw [hM, hI, hN]
        have HA := Lib.hid hA
        have HR := Lib.hid (fun c W h => rRights_c a c l hs W h)
        rw [hr] at HR
        have HK := Lib.hid (fun W => rRight_c key W)
        rw [hk] at HK
        clear hA hM hI hN
        go_enter Tryz.func12, Tryz.ntmps12
        go_wp2_with fail
        refine (HR.out _ _ HA.out).mono ?_
        rintro e wa ⟨rfl, hb⟩
        have BA := Lib.hid hb
        clear hb
        go_wp2_with fail
        refine (HK.out _).mono ?_
        rintro e wb ⟨rfl, hb⟩
        have BB := Lib.hid (btr BA.out hb)
        clear hb
        go_wp2
        go_ret3
        exact ⟨none, 0, rfl, CrdAt.nil _ _ _, BB.out⟩
    · have hk : isKeyB key = false := by simpa using hk
      have hM : rotM l key now overlap span = [] := by simp [rotM, rotI, rotN, rotK, rotCh, firstN, btB, hr, hk]
      have hI : rotI l key now overlap span = 0 := by simp [rotM, rotI, rotN, rotK, rotCh, firstN, btB, hr, hk]
      have hN : rotN l key now overlap span = 50 := by simp [rotM, rotI, rotN, rotK, rotCh, firstN, btB, hr, hk]
      rw [hM, hI, hN]
      have HA := Lib.hid hA
      have HR := Lib.hid (fun c W h => rRights_c a c l hs W h)
      rw [hr] at HR
      have HK := Lib.hid (fun W => rRight_c key W)
      rw [hk] at HK
      clear hA hM hI hN
      go_enter Tryz.func12, Tryz.ntmps12
      go_wp2_with fail
      refine (HR.out _ _ HA.out).mono ?_
      rintro e wa ⟨rfl, hb⟩
      have BA := Lib.hid hb
      clear hb
      go_wp2_with fail
      refine (HK.out _).mono ?_
      rintro e wb ⟨rfl, hb⟩
      have BB := Lib.hid (btr BA.out hb)
      clear hb
      go_wp2
      go_ret3
      exact ⟨none, 0, rfl, CrdAt.nil _ _ _, BB.out⟩
  · have hr : rightB l = false := by simpa using hr
    have hM : rotM l key now overlap span = [] := by simp [rotM, rotI, rotN, rotK, rotCh, firstN, btB, hr]
    have hI : rotI l key now overlap span = 0 := by simp [rotM, rotI, rotN, rotK, rotCh, firstN, btB, hr]
    have hN : rotN l key now overlap span = 110 := by simp [rotM, rotI, rotN, rotK, rotCh, firstN, btB, hr]
    rw [hM, hI, hN]
    have HA := Lib.hid hA
    have HR := Lib.hid (fun c W h => rRights_c a c l hs W h)
    rw [hr] at HR
    clear hA hM hI hN
    go_enter Tryz.func12, Tryz.ntmps12
    go_wp2_with fail
    refine (HR.out _ _ HA.out).mono ?_
    rintro e wa ⟨rfl, hb⟩
    have BA := Lib.hid hb
    clear hb
    go_wp2
    go_ret3
    exact ⟨none, 0, rfl, CrdAt.nil _ _ _, BA.out⟩
end Go.Proofs.YtikpmkidfppknaaGreatDoor

/- The document's own Same. -/
namespace Go.Proofs.YtikpmkidfppknaaGreatDoor
open Go.RowKit Go.Shelf
attribute [local go_sem] Oper.semAt_some

set_option maxRecDepth 100000 in
set_option maxHeartbeats 4000000 in
theorem neq_same (x : Crd) (W : World) : (binOp .neq 37 (.agg #[.int .i64 x.i, .string x.k, .int .i64 x.f, .int .i64 x.t]) (.agg #[.int .i64 x.i, .string x.k, .int .i64 x.f, .int .i64 x.t])).run Tryz.prog W = .ok (.bool false) W := by
  go_simp
set_option maxRecDepth 100000 in
set_option maxHeartbeats 4000000 in
theorem rSame_c (a a2 : Option Addr) (cap cap2 : Nat) (l : List Crd) (hs : l.length ≤ 100000) (w : World) (hA : CrdAt w.heap.size w a l) (hA2 : CrdAt w.heap.size w a2 l) :
    Calls Tryz.prog 15 #[.slice a l.length cap, .slice a2 l.length cap2] w fun y w' => y = .returned (.bool true) ∧ Below w.heap.size w w' := by
  have HA := Lib.hid hA
  have HA2 := Lib.hid hA2
  clear hA hA2
  go_enter Tryz.func15, Tryz.ntmps15
  go_wp2
  go_loopw [5] (fun i wr => ∃ k : Nat, k ≤ l.length ∧ i = .int .i64 (k : Int) ∧ Hid (Below w.heap.size w wr)) (fun i _ => l.length - (intOf i).toNat)
  case atStart => exact ⟨0, Nat.zero_le _, rfl, Lib.hid (Below.refl _ _)⟩
  case round =>
    obtain ⟨k, hk, rfl, hb⟩ := hrel
    by_cases hlt : k < l.length
    · have hlt' : (k : Int) < (l.length : Int) := by omega
      obtain ⟨b, off, rfl, hbn, c0, c1, c2, c3⟩ := (HA.out.below hb.out) k hlt
      obtain ⟨b2, off2, rfl, hbn2, d0, d1, d2, d3⟩ := (HA2.out.below hb.out) k hlt
      have E := fun W => neq_same (l[k]) W
      clear hbn hbn2
      generalize l[k] = x at *
      go_wp2_with fail
      have u0 : Below wr.heap.size wr wr := Below.refl _ wr
      have MK := Lib.hid (show ∀ w', Below wr.heap.size wr w' → w'.cell? ⟨b, off + k * 4, none⟩ = some (.int .i64 x.i) ∧ w'.cell? ⟨b, off + k * 4 + 1, none⟩ = some (.string x.k) ∧ w'.cell? ⟨b, off + k * 4 + 2, none⟩ = some (.int .i64 x.f) ∧ w'.cell? ⟨b, off + k * 4 + 3, none⟩ = some (.int .i64 x.t) ∧ w'.cell? ⟨b2, off2 + k * 4, none⟩ = some (.int .i64 x.i) ∧ w'.cell? ⟨b2, off2 + k * 4 + 1, none⟩ = some (.string x.k) ∧ w'.cell? ⟨b2, off2 + k * 4 + 2, none⟩ = some (.int .i64 x.f) ∧ w'.cell? ⟨b2, off2 + k * 4 + 3, none⟩ = some (.int .i64 x.t) ∧ Below wr.heap.size wr w' from fun w' h => ⟨(h.cell (blt c0)).trans c0, (h.cell (blt c1)).trans c1, (h.cell (blt c2)).trans c2, (h.cell (blt c3)).trans c3, (h.cell (blt d0)).trans d0, (h.cell (blt d1)).trans d1, (h.cell (blt d2)).trans d2, (h.cell (blt d3)).trans d3, h⟩)
      refine wp_region_held_drew (S := (fun w' => w'.cell? ⟨b, off + k * 4, none⟩ = some (.int .i64 x.i) ∧ w'.cell? ⟨b, off + k * 4 + 1, none⟩ = some (.string x.k) ∧ w'.cell? ⟨b, off + k * 4 + 2, none⟩ = some (.int .i64 x.f) ∧ w'.cell? ⟨b, off + k * 4 + 3, none⟩ = some (.int .i64 x.t) ∧ w'.cell? ⟨b2, off2 + k * 4, none⟩ = some (.int .i64 x.i) ∧ w'.cell? ⟨b2, off2 + k * 4 + 1, none⟩ = some (.string x.k) ∧ w'.cell? ⟨b2, off2 + k * 4 + 2, none⟩ = some (.int .i64 x.f) ∧ w'.cell? ⟨b2, off2 + k * 4 + 3, none⟩ = some (.int .i64 x.t) ∧ Below wr.heap.size wr w')) (by kernel_rfl) ?_ (fun hHeld => ?_)
      · (first | with_reducible assumption | exact MK.out _ (by with_reducible assumption) | exact MK.out _ (below_drew (by with_reducible assumption)))
      refine takeH (i := 0) (some 17) (v := ?_) rfl rfl (by kernel_rfl) (by kernel_rfl) (by kernel_rfl) (fun _ _ _ h => h) (Or.inl ⟨by rfl, ?hyA0⟩) hHeld ?restA0
      case hyA0 => (intro w hSw; (try dsimp only at hSw); go_simp; (try with_reducible rfl))
      try simp only [Act.put, List.setIfInBounds_toArray, List.set_cons_zero, List.set_cons_succ]
      refine takeH (i := 1) (some 18) (v := ?_) rfl rfl (by kernel_rfl) (by kernel_rfl) (by kernel_rfl) (fun _ _ _ h => h) (Or.inl ⟨by rfl, ?hyA1⟩) hHeld ?restA1
      case hyA1 => (intro w hSw; (try dsimp only at hSw); go_simp; (try with_reducible rfl))
      try simp only [Act.put, List.setIfInBounds_toArray, List.set_cons_zero, List.set_cons_succ]
      refine takeH (i := 2) (some 19) (v := ?_) rfl rfl (by kernel_rfl) (by kernel_rfl) (by kernel_rfl) (fun _ _ _ h => h) (Or.inl ⟨by rfl, ?hyA2⟩) hHeld ?restA2
      case hyA2 => (intro w hSw; (try dsimp only at hSw); go_simp; (try with_reducible rfl))
      try simp only [Act.put, List.setIfInBounds_toArray, List.set_cons_zero, List.set_cons_succ]
      refine takeH (i := 3) (some 20) (v := ?_) rfl rfl (by kernel_rfl) (by kernel_rfl) (by kernel_rfl) (fun _ _ _ h => h) (Or.inl ⟨by rfl, ?hyA3⟩) hHeld ?restA3
      case hyA3 => (intro w hSw; (try dsimp only at hSw); go_simp; (try with_reducible rfl))
      try simp only [Act.put, List.setIfInBounds_toArray, List.set_cons_zero, List.set_cons_succ]
      refine takeH (i := 4) (some 21) (v := ?_) rfl rfl (by kernel_rfl) (by kernel_rfl) (by kernel_rfl) (fun _ _ _ h => h) (Or.inl ⟨by rfl, ?hyA4⟩) hHeld ?restA4
      case hyA4 => (intro w hSw; (try dsimp only at hSw); go_simp; (try with_reducible rfl))
      try simp only [Act.put, List.setIfInBounds_toArray, List.set_cons_zero, List.set_cons_succ]
      refine takeH (i := 5) (some 22) (v := ?_) rfl rfl (by kernel_rfl) (by kernel_rfl) (by kernel_rfl) (fun _ _ _ h => h) (Or.inl ⟨by rfl, ?hyA5⟩) hHeld ?restA5
      case hyA5 => (intro w hSw; (try dsimp only at hSw); go_simp; (try with_reducible rfl))
      try simp only [Act.put, List.setIfInBounds_toArray, List.set_cons_zero, List.set_cons_succ]
      refine takeH (i := 6) (some 23) (v := ?_) rfl rfl (by kernel_rfl) (by kernel_rfl) (by kernel_rfl) (fun _ _ _ h => h) (Or.inl ⟨by rfl, ?hyA6⟩) hHeld ?restA6
      case hyA6 => (intro w hSw; (try dsimp only at hSw); go_simp; (try with_reducible rfl))
      try simp only [Act.put, List.setIfInBounds_toArray, List.set_cons_zero, List.set_cons_succ]
      refine takeH (i := 7) (some 24) (v := ?_) rfl rfl (by kernel_rfl) (by kernel_rfl) (by kernel_rfl) (fun _ _ _ h => h) (Or.inl ⟨by rfl, ?hyA7⟩) hHeld ?restA7
      case hyA7 => (intro w hSw; (try dsimp only at hSw); go_simp; (try with_reducible rfl))
      try simp only [Act.put, List.setIfInBounds_toArray, List.set_cons_zero, List.set_cons_succ]
      refine takeH (i := 8) (some 25) (v := ?_) rfl rfl (by kernel_rfl) (by kernel_rfl) (by kernel_rfl) (fun _ _ _ h => h) (Or.inl ⟨by rfl, ?hyA8⟩) hHeld ?restA8
      case hyA8 => (intro w hSw; (try dsimp only at hSw); go_simp; (try with_reducible rfl))
      try simp only [Act.put, List.setIfInBounds_toArray, List.set_cons_zero, List.set_cons_succ]
      refine wpAnyH_done (by kernel_rfl) ?_ _
      have HB := Lib.hid (btr hb.out hHeld.2.2.2.2.2.2.2.2)
      clear hHeld MK u0 c0 c1 c2 c3 d0 d1 d2 d3 E
      go_wp2
      go_roundw
      case rel => exact ⟨k + 1, by omega, by go_num, HB⟩
      case measure => simp [intOf]; omega
    · have hge : ¬ (k : Int) < (l.length : Int) := by omega
      go_wp2
      go_ret
      exact ⟨rfl, hb.out⟩
end Go.Proofs.YtikpmkidfppknaaGreatDoor
