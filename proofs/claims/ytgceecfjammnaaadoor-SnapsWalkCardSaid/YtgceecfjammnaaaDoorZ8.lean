/- Sw -/
import Derived.Test.YtgceecfjammnaaaDoorZ7
/- Page, walked. -/
namespace Go.Proofs.YtgceecfjammnaaaDoor.L16
open Go.RowKit Go.Shelf
attribute [local go_sem] Oper.semAt_some
set_option linter.unusedSimpArgs false
set_option linter.unusedVariables false

/-- A part of a row of texts. -/
theorem StrsAt.sub {n b off : Nat} {W : World} {zs : List ByteArray} (h : StrsAt n W (some ⟨b, off, none⟩) zs) (k m : Nat) : StrsAt n W (some ⟨b, off + k, none⟩) ((zs.drop k).take m) := fun i hi => by
  have hl : i < (zs.drop k).length := by rw [List.length_take] at hi; omega
  have hl2 : k + i < zs.length := by rw [List.length_drop] at hl; omega
  obtain ⟨b', o', e, hb, hc⟩ := h (k + i) hl2
  simp only [Option.some.injEq, Addr.mk.injEq, and_true] at e
  obtain ⟨rfl, rfl⟩ := e
  refine ⟨b, off + k, rfl, hb, ?_⟩
  rw [Nat.add_assoc, hc]
  simp
theorem page_end {w T w9 w10 : World} {RB z g o' : Nat} {v v0 v1 : Value} {L : List SnM} {mk : SnM} {o : Obj}
    (hRB : w.heap.size ≤ RB) (hz : RB < z) (hB : Below w.heap.size w T)
    (hsl : SlIn T z 42 3 v L.length (snmCs L)) (hit : ∀ x ∈ L, OwnS z T (.slice x.ita x.it.length x.itd) x.it) (hmk : OwnS z T (.slice mk.ita mk.it.length mk.itd) mk.it)
    (hg : z ≤ g) (hg9 : g < w9.heap.size) (hc : ∀ j u, (snmCs L ++ [.int .i64 mk.c, .slice mk.ita mk.it.length mk.itd, .int .i64 mk.u])[j]? = some u → w9.cell? ⟨g, o' + j, none⟩ = some u) (hgr : (T.alloc o).grownBy w9 v.ownBlock) (hb9 : Below w9.heap.size w9 w10) :
    PlAt ((w10.setCell ⟨RB, 0, none⟩ v0).setCell ⟨RB, 1, none⟩ v1).heap.size ((w10.setCell ⟨RB, 0, none⟩ v0).setCell ⟨RB, 1, none⟩ v1) (some ⟨g, o', none⟩) (L ++ [mk]) ∧ FarL w.heap.size (some ⟨g, o', none⟩) (L ++ [mk]) ∧ Below w.heap.size w ((w10.setCell ⟨RB, 0, none⟩ v0).setCell ⟨RB, 1, none⟩ v1) := by
  have hzv : ∀ j, v.ownBlock = some j → z ≤ j := fun j hj => (slin_lt hsl hj).1
  have k : ∀ (x : SnM), OwnS z T (.slice x.ita x.it.length x.itd) x.it → OwnS z ((w10.setCell ⟨RB, 0, none⟩ v0).setCell ⟨RB, 1, none⟩ v1) (.slice x.ita x.it.length x.itd) x.it := fun x hx => by
    have h1 : OwnS z w9 (.slice x.ita x.it.length x.itd) x.it := (World.ownsRow.alloc hx o).kept hgr (slin_ne (slin_alloc hsl o) (World.ownsRow.alloc hx o) (by decide))
    exact ((h1.on hb9).set hz).set hz
  refine ⟨pl_of_cells (by rw [World.size_setCell, World.size_setCell]; exact Nat.lt_of_lt_of_le hg9 hb9.size) ?_ ?_, far_of_own (show w.heap.size ≤ z by omega) hg (W := T) (fun x hx => by
    rcases List.mem_append.1 hx with hx | hx
    · exact hit x hx
    · rw [List.mem_singleton] at hx; subst hx; exact hmk), ?_⟩
  · intro j u hu
    rw [snmCs_one] at hu
    rw [set_other _ _ (by omega), set_other _ _ (by omega)]
    exact (hb9.cell (p := ⟨g, o' + j, none⟩) hg9).trans (hc j u hu)
  · intro x hx
    rcases List.mem_append.1 hx with hx | hx
    · exact (k x (hit x hx)).at'
    · rw [List.mem_singleton] at hx; subst hx; exact (k x hmk).at'
  · have h1 := (bal hB o).grown hgr (bal hB o).size (fun j hj => by have := hzv j hj; omega)
    exact ((btr h1 hb9).setCell (p := ⟨RB, 0, none⟩) hRB v0).setCell (p := ⟨RB, 1, none⟩) hRB v1
theorem own_grown {T w9 : World} {z : Nat} {v : Value} {L : List SnM} {mk : SnM} {o : Obj} (hsl : SlIn T z 42 3 v L.length (snmCs L)) (hmk : OwnS z T (.slice mk.ita mk.it.length mk.itd) mk.it) (hgr : (T.alloc o).grownBy w9 v.ownBlock) : OwnS z w9 (.slice mk.ita mk.it.length mk.itd) mk.it :=
  (World.ownsRow.alloc hmk o).kept hgr (slin_ne (slin_alloc hsl o) (World.ownsRow.alloc hmk o) (by decide))
theorem slin_but {A B : World} {z : Nat} {t : TypeId} {s n : Nat} {v : Value} {xs : List Value} (h : SlIn A z t s v n xs) (hb : ∀ b, v.ownBlock = some b → B.heap[b]? = A.heap[b]?) : SlIn B z t s v n xs := by
  rcases h with ⟨h1, h2 | ⟨g, o, cap, cur, rfl, h3, h4, h5⟩⟩
  · exact ⟨h1, .inl h2⟩
  · exact ⟨h1, .inr ⟨g, o, cap, cur, rfl, h3, (hb g rfl).trans h4, h5⟩⟩
theorem own_but {A B : World} {z : Nat} {v : Value} {zs : List ByteArray} (h : OwnS z A v zs) (hb : ∀ b, z ≤ b → B.heap[b]? = A.heap[b]?) : OwnS z B v zs := by
  rcases h with ⟨h1, h2 | ⟨g, cap, cur, rfl, h3, h4, h5⟩⟩
  · exact ⟨h1, .inl h2⟩
  · exact ⟨h1, .inr ⟨g, cap, cur, rfl, h3, (hb g h3).trans h4, h5⟩⟩
theorem page_all {s : Snp} {kf kk : Nat} (h : s.it.length ≤ kf + kk) : pageN s (kf : Int) (kk : Int) = -1 ∧ pageI s (kf : Int) (kk : Int) = (s.it.drop kf).take (s.it.length - kf) := by
  refine ⟨by unfold pageN; rw [if_pos (by omega)], ?_⟩
  unfold pageI
  rw [List.take_of_length_le (by rw [List.length_drop]; omega), List.take_of_length_le (by rw [List.length_drop]; omega)]
  rfl
theorem page_part {s : Snp} {kf kk e : Nat} (h : kf + kk < s.it.length) (he : e = kf + kk) : pageN s (kf : Int) (kk : Int) = (e : Int) ∧ pageI s (kf : Int) (kk : Int) = (s.it.drop kf).take (e - kf) := by
  refine ⟨by unfold pageN; rw [if_neg (by omega)]; omega, ?_⟩
  unfold pageI
  rw [he, Nat.add_sub_cancel_left]
  rfl
theorem results_cell3 {P : Program} {fn : Func} {p u v x : Tmp} {ty : TypeId} (h : fn.results = #[.cell p ty, .tmp u, .tmp v, .tmp x]) (tmps : Array Value) (w : World) {a : Addr} {y : Value} (hp : tmps.getD p undef = .pointer (some a)) (hl : (loadVar ty a).run P w = .ok y w) : (results fn tmps).run P w = .ok (.tuple #[y, tmps.getD u undef, tmps.getD v undef, tmps.getD x undef]) w := by
  simp only [results, h]
  have hp2 : tmps[p]?.getD undef = .pointer (some a) := by simpa using hp
  simp [Result.andThen, asAddr, hp2, hl]
set_option maxRecDepth 100000 in
set_option maxHeartbeats 4000000 in
theorem Page_c (a : Option Addr) (cap : Nat) (n c fr k t : Int) (hn : -9223372036854775808 ≤ n ∧ n ≤ 9223372036854775807) (l : List SnM) (hl : l.length ≤ 100000) (hi : ∀ x ∈ l, x.it.length ≤ 1000 ∧ ∀ s ∈ x.it, s.size ≤ 1000000)
    (w : World) (hA : PlAt w.heap.size w a l) (hE : ErrT w) :
    Calls Tryd.prog 14 #[.agg #[.slice a l.length cap, .int .i64 n], .int .i64 c, .int .i64 fr, .int .i64 k, .int .i64 t] w (PageP ⟨l.map SnM.p, n⟩ c fr k t w) := by
  obtain ⟨x, hx⟩ : ∃ x, findM l c = x := ⟨_, rfl⟩
  have hxi : x.it.length ≤ 1000 := by
    rcases findM_mem (l := l) (c := c) with e | e
    · rw [hx] at e; subst e; exact Nat.zero_le _
    · rw [hx] at e; exact (hi x e).1
  have HFI := Lib.hid (pageFirst_c a cap n c fr k t hn.2 l hl (fun x hx => ⟨Nat.le_trans (hi x hx).1 (by decide), (hi x hx).2⟩) x hx)
  have HXA := Lib.hid (fun W (h : PlAt W.heap.size W a l) => show StrsAt W.heap.size W x.ita x.it from by
    rcases findM_mem (l := l) (c := c) with e | e
    · rw [hx] at e; subst e; exact StrsAt.nil _ _ _
    · rw [hx] at e; exact h.i x e)
  have HFD := Lib.hid (fun W (h : PlAt W.heap.size W a l) => (show Calls Tryd.prog 34 #[.agg #[.slice a l.length cap, .int .i64 n], .int .i64 c] W fun y w' => y = .returned (.agg #[.int .i64 x.c, .slice x.ita x.it.length x.itd, .int .i64 x.u]) ∧ Below W.heap.size W w' from by rw [← hx]; exact find_c a cap n c l hl W h))
  have HIN := Lib.hid (fun W => isNow_e a l.length cap n t W)
  have HBE := Lib.hid (fun n lo hi no W => between_e n lo hi no W)
  have HNO := Lib.hid (fun c W h => no_c W c h)
  obtain ⟨i0, hi0, hz0, hz1, hz2⟩ := infoSnM
  have HST := Lib.hid (fun (b : Nat) (W : World) (hW : PlAt W.heap.size W a l) (hb : W.cell? ⟨b, 0, none⟩ = some (.int .i64 c)) => staying_c a cap n l hl (fun x hx => (hi x hx).1) 38 #[] #[.pointer (some ⟨b, 0, none⟩)] (fun s => decide (s.c ≠ c)) W hW (enters_of Tryd.func38 (by kernel_rfl) rfl) (fun x hx W2 hb2 => page2_c x c b W2 ((hb2.cell (blt hb)).trans hb)))
  have HE := Lib.hid hE
  have HA := Lib.hid hA
  have HSO := Lib.hid (show sOf ⟨l.map SnM.p, n⟩ c = x.p by rw [← findM_p, hx])
  have HT := firstB_two (pageCh ⟨l.map SnM.p, n⟩ c fr k t)
  rw [pageCh_n] at HT
  clear hA hE hi hx
  obtain ⟨V, hV⟩ : ∃ V, firstB (pageCh ⟨l.map SnM.p, n⟩ c fr k t) = V := ⟨_, rfl⟩
  rw [hV] at HFI HT
  have HTT := Lib.hid HT
  clear HT hV
  go_enter Tryd.func14, Tryd.ntmps14
  go_wp2_with fail
  have q0 : (((((w.alloc (.cells #[.slice a l.length cap, .int .i64 n] 24)).alloc (.cells #[.int .i64 c] 3)).alloc (.cells #[.int .i64 t] 3)).alloc (.cells #[.slice none 0 0, .int .i64 0] 24)).alloc (.cells #[.slice a l.length cap, .int .i64 n] 48)).cell? ⟨w.heap.size + 1 + 1 + 1 + 1, 0, none⟩ = some (.slice a l.length cap) := by go_simp
  have q1 : (((((w.alloc (.cells #[.slice a l.length cap, .int .i64 n] 24)).alloc (.cells #[.int .i64 c] 3)).alloc (.cells #[.int .i64 t] 3)).alloc (.cells #[.slice none 0 0, .int .i64 0] 24)).alloc (.cells #[.slice a l.length cap, .int .i64 n] 48)).cell? ⟨w.heap.size + 1 + 1 + 1 + 1, 1, none⟩ = some (.int .i64 n) := by go_simp
  have cb : (((((w.alloc (.cells #[.slice a l.length cap, .int .i64 n] 24)).alloc (.cells #[.int .i64 c] 3)).alloc (.cells #[.int .i64 t] 3)).alloc (.cells #[.slice none 0 0, .int .i64 0] 24)).alloc (.cells #[.slice a l.length cap, .int .i64 n] 48)).cell? ⟨w.heap.size + 1, 0, none⟩ = some (.int .i64 c) := by go_simp
  have nb : (((((w.alloc (.cells #[.slice a l.length cap, .int .i64 n] 24)).alloc (.cells #[.int .i64 c] 3)).alloc (.cells #[.int .i64 t] 3)).alloc (.cells #[.slice none 0 0, .int .i64 0] 24)).alloc (.cells #[.slice a l.length cap, .int .i64 n] 48)).cell? ⟨w.heap.size + 1 + 1, 0, none⟩ = some (.int .i64 t) := by go_simp
  have r0 : (((((w.alloc (.cells #[.slice a l.length cap, .int .i64 n] 24)).alloc (.cells #[.int .i64 c] 3)).alloc (.cells #[.int .i64 t] 3)).alloc (.cells #[.slice none 0 0, .int .i64 0] 24)).alloc (.cells #[.slice a l.length cap, .int .i64 n] 48)).cell? ⟨w.heap.size + 1 + 1 + 1, 0, none⟩ = some (.slice none 0 0) := by go_simp
  have r1 : (((((w.alloc (.cells #[.slice a l.length cap, .int .i64 n] 24)).alloc (.cells #[.int .i64 c] 3)).alloc (.cells #[.int .i64 t] 3)).alloc (.cells #[.slice none 0 0, .int .i64 0] 24)).alloc (.cells #[.slice a l.length cap, .int .i64 n] 48)).cell? ⟨w.heap.size + 1 + 1 + 1, 1, none⟩ = some (.int .i64 0) := by go_simp
  have fr0 : (((((w.alloc (.cells #[.slice a l.length cap, .int .i64 n] 24)).alloc (.cells #[.int .i64 c] 3)).alloc (.cells #[.int .i64 t] 3)).alloc (.cells #[.slice none 0 0, .int .i64 0] 24)).alloc (.cells #[.slice a l.length cap, .int .i64 n] 48)).frozen? ⟨w.heap.size + 1 + 1 + 1, 0, none⟩ = false := by go_simp
  have fr1 : (((((w.alloc (.cells #[.slice a l.length cap, .int .i64 n] 24)).alloc (.cells #[.int .i64 c] 3)).alloc (.cells #[.int .i64 t] 3)).alloc (.cells #[.slice none 0 0, .int .i64 0] 24)).alloc (.cells #[.slice a l.length cap, .int .i64 n] 48)).frozen? ⟨w.heap.size + 1 + 1 + 1, 1, none⟩ = false := by go_simp
  have zU : (((((w.alloc (.cells #[.slice a l.length cap, .int .i64 n] 24)).alloc (.cells #[.int .i64 c] 3)).alloc (.cells #[.int .i64 t] 3)).alloc (.cells #[.slice none 0 0, .int .i64 0] 24)).alloc (.cells #[.slice a l.length cap, .int .i64 n] 48)).heap.size = w.heap.size + 1 + 1 + 1 + 1 + 1 := by simp
  have HBU := Lib.hid (show Below w.heap.size w (((((w.alloc (.cells #[.slice a l.length cap, .int .i64 n] 24)).alloc (.cells #[.int .i64 c] 3)).alloc (.cells #[.int .i64 t] 3)).alloc (.cells #[.slice none 0 0, .int .i64 0] 24)).alloc (.cells #[.slice a l.length cap, .int .i64 n] 48)) from bal (bal (bal (bal (below_alloc w _) _) _) _) _)
  generalize (((((w.alloc (.cells #[.slice a l.length cap, .int .i64 n] 24)).alloc (.cells #[.int .i64 c] 3)).alloc (.cells #[.int .i64 t] 3)).alloc (.cells #[.slice none 0 0, .int .i64 0] 24)).alloc (.cells #[.slice a l.length cap, .int .i64 n] 48)) = U at *
  have HRW := Lib.hid (show w.heap.size ≤ w.heap.size + 1 + 1 + 1 from by omega)
  generalize hQ : w.heap.size + 1 + 1 + 1 + 1 = QB at *
  generalize hR : w.heap.size + 1 + 1 + 1 = RB at *
  generalize hN : w.heap.size + 1 + 1 = NB at *
  generalize hC : w.heap.size + 1 = CB at *
  have HR := Lib.hid (And.intro r0 (And.intro r1 (And.intro fr0 fr1)))
  clear r0 r1 fr0 fr1
  refine (HFD.out _ (HA.out.on HBU.out)).mono ?_
  rintro e w2 ⟨rfl, hb⟩
  replace q0 := (hb.cell (blt q0)).trans q0
  replace q1 := (hb.cell (blt q1)).trans q1
  replace cb := (hb.cell (blt cb)).trans cb
  replace nb := (hb.cell (blt nb)).trans nb
  have HB2 := Lib.hid hb
  clear hb HFD
  go_wp2_with fail
  have s0 : (w2.alloc (.cells #[.int .i64 x.c, .slice x.ita x.it.length x.itd, .int .i64 x.u] 42)).cell? ⟨w2.heap.size, 0, none⟩ = some (.int .i64 x.c) := by go_simp
  have s1 : (w2.alloc (.cells #[.int .i64 x.c, .slice x.ita x.it.length x.itd, .int .i64 x.u] 42)).cell? ⟨w2.heap.size, 1, none⟩ = some (.slice x.ita x.it.length x.itd) := by go_simp
  have s2 : (w2.alloc (.cells #[.int .i64 x.c, .slice x.ita x.it.length x.itd, .int .i64 x.u] 42)).cell? ⟨w2.heap.size, 2, none⟩ = some (.int .i64 x.u) := by go_simp
  have g0 : (w2.alloc (.cells #[.int .i64 x.c, .slice x.ita x.it.length x.itd, .int .i64 x.u] 42)).frozen? ⟨w2.heap.size, 0, none⟩ = false := by go_simp
  have g1 : (w2.alloc (.cells #[.int .i64 x.c, .slice x.ita x.it.length x.itd, .int .i64 x.u] 42)).frozen? ⟨w2.heap.size, 1, none⟩ = false := by go_simp
  have g2 : (w2.alloc (.cells #[.int .i64 x.c, .slice x.ita x.it.length x.itd, .int .i64 x.u] 42)).frozen? ⟨w2.heap.size, 2, none⟩ = false := by go_simp
  replace q0 := keep_alloc (.cells #[.int .i64 x.c, .slice x.ita x.it.length x.itd, .int .i64 x.u] 42) q0
  replace q1 := keep_alloc (.cells #[.int .i64 x.c, .slice x.ita x.it.length x.itd, .int .i64 x.u] 42) q1
  replace cb := keep_alloc (.cells #[.int .i64 x.c, .slice x.ita x.it.length x.itd, .int .i64 x.u] 42) cb
  replace nb := keep_alloc (.cells #[.int .i64 x.c, .slice x.ita x.it.length x.itd, .int .i64 x.u] 42) nb
  have HB3 := Lib.hid (bal HB2.out (.cells #[.int .i64 x.c, .slice x.ita x.it.length x.itd, .int .i64 x.u] 42))
  have hSU : U.heap.size ≤ w2.heap.size := HB2.out.size
  have HGS := Lib.hid (And.intro g0 (And.intro g1 g2))
  have HSZ := Lib.hid (show w2.heap.size < (w2.alloc (.cells #[.int .i64 x.c, .slice x.ita x.it.length x.itd, .int .i64 x.u] 42)).heap.size by simp)
  clear g0 g1 g2 HB2
  generalize (w2.alloc (.cells #[.int .i64 x.c, .slice x.ita x.it.length x.itd, .int .i64 x.u] 42)) = Y0 at *
  generalize w2.heap.size = SB at *
  have HBW := Lib.hid (btr HBU.out HB3.out)
  have MK := Lib.hid (show ∀ w', Below Y0.heap.size Y0 w' → w'.cell? ⟨QB, 0, none⟩ = some (.slice a l.length cap) ∧ w'.cell? ⟨QB, 1, none⟩ = some (.int .i64 n) ∧ w'.cell? ⟨CB, 0, none⟩ = some (.int .i64 c) ∧ w'.cell? ⟨NB, 0, none⟩ = some (.int .i64 t) ∧ w'.cell? ⟨SB, 0, none⟩ = some (.int .i64 x.c) ∧ w'.cell? ⟨SB, 1, none⟩ = some (.slice x.ita x.it.length x.itd) ∧ w'.cell? ⟨SB, 2, none⟩ = some (.int .i64 x.u) ∧ Below Y0.heap.size Y0 w' from fun w' h => ⟨(h.cell (blt q0)).trans q0, (h.cell (blt q1)).trans q1, (h.cell (blt cb)).trans cb, (h.cell (blt nb)).trans nb, (h.cell (blt s0)).trans s0, (h.cell (blt s1)).trans s1, (h.cell (blt s2)).trans s2, h⟩)
  refine wp_region_held_drew (S := (fun w' => w'.cell? ⟨QB, 0, none⟩ = some (.slice a l.length cap) ∧ w'.cell? ⟨QB, 1, none⟩ = some (.int .i64 n) ∧ w'.cell? ⟨CB, 0, none⟩ = some (.int .i64 c) ∧ w'.cell? ⟨NB, 0, none⟩ = some (.int .i64 t) ∧ w'.cell? ⟨SB, 0, none⟩ = some (.int .i64 x.c) ∧ w'.cell? ⟨SB, 1, none⟩ = some (.slice x.ita x.it.length x.itd) ∧ w'.cell? ⟨SB, 2, none⟩ = some (.int .i64 x.u) ∧ Below Y0.heap.size Y0 w')) (by kernel_rfl) ?_ (fun hHeld => ?_)
  · exact MK.out _ (below_drew (Below.refl _ _))
  refine takeH (i := 0) (some 25) (v := ?_) rfl rfl (by kernel_rfl) (by kernel_rfl) (by kernel_rfl) (fun _ _ _ h => h) (Or.inl ⟨by rfl, ?hyA0⟩) hHeld ?restA0
  case hyA0 => (intro w hSw; (try dsimp only at hSw); go_simp; (try with_reducible rfl))
  try simp only [Act.put, List.setIfInBounds_toArray, List.set_cons_zero, List.set_cons_succ]
  refine takeH (i := 1) (some 26) (v := ?_) rfl rfl (by kernel_rfl) (by kernel_rfl) (by kernel_rfl) (fun _ _ _ h => h) (Or.inl ⟨by rfl, ?hyA1⟩) hHeld ?restA1
  case hyA1 => (intro w hSw; (try dsimp only at hSw); go_simp; (try with_reducible rfl))
  try simp only [Act.put, List.setIfInBounds_toArray, List.set_cons_zero, List.set_cons_succ]
  refine takeH (i := 2) (some 27) (v := ?_) rfl rfl (by kernel_rfl) (by kernel_rfl) (by kernel_rfl) (fun _ _ _ h => h) (Or.inl ⟨by rfl, ?hyA2⟩) hHeld ?restA2
  case hyA2 => (intro w hSw; (try dsimp only at hSw); go_simp; (try with_reducible rfl))
  try simp only [Act.put, List.setIfInBounds_toArray, List.set_cons_zero, List.set_cons_succ]
  refine takeH (i := 3) (some 28) (v := ?_) rfl rfl (by kernel_rfl) (by kernel_rfl) (by kernel_rfl) (fun _ _ _ h => h) (Or.inl ⟨by rfl, ?hyA3⟩) hHeld ?restA3
  case hyA3 => (intro w hSw; (try dsimp only at hSw); go_simp; (try with_reducible rfl))
  try simp only [Act.put, List.setIfInBounds_toArray, List.set_cons_zero, List.set_cons_succ]
  refine takeH (i := 5) (some 30) (v := ?_) rfl rfl (by kernel_rfl) (by kernel_rfl) (by kernel_rfl) (fun _ _ _ h => h) (Or.inl ⟨by rfl, ?hyA5⟩) hHeld ?restA5
  case hyA5 => (intro w hSw; (try dsimp only at hSw); go_simp; (try with_reducible rfl))
  try simp only [Act.put, List.setIfInBounds_toArray, List.set_cons_zero, List.set_cons_succ]
  refine takeH (i := 7) (some 32) (v := ?_) rfl rfl (by kernel_rfl) (by kernel_rfl) (by kernel_rfl) (fun _ _ _ h => h) (Or.inl ⟨by rfl, ?hyA7⟩) hHeld ?restA7
  case hyA7 => (intro w hSw; (try dsimp only at hSw); go_simp; (try with_reducible rfl))
  try simp only [Act.put, List.setIfInBounds_toArray, List.set_cons_zero, List.set_cons_succ]
  refine takeH (i := 8) (some 33) (v := ?_) rfl rfl (by kernel_rfl) (by kernel_rfl) (by kernel_rfl) (fun _ _ _ h => h) (Or.inl ⟨by rfl, ?hyA8⟩) hHeld ?restA8
  case hyA8 => (intro w hSw; (try dsimp only at hSw); go_simp; (try with_reducible rfl))
  try simp only [Act.put, List.setIfInBounds_toArray, List.set_cons_zero, List.set_cons_succ]
  refine takeH (i := 9) (some 34) (v := ?_) rfl rfl (by kernel_rfl) (by kernel_rfl) (by kernel_rfl) (fun _ _ _ h => h) (Or.inl ⟨by rfl, ?hyA9⟩) hHeld ?restA9
  case hyA9 => (intro w hSw; (try dsimp only at hSw); go_simp; (try with_reducible rfl))
  try simp only [Act.put, List.setIfInBounds_toArray, List.set_cons_zero, List.set_cons_succ]
  refine takeH (i := 10) (some 35) (v := ?_) rfl rfl (by kernel_rfl) (by kernel_rfl) (by kernel_rfl) (fun _ _ _ h => h) (Or.inl ⟨by rfl, ?hyA10⟩) hHeld ?restA10
  case hyA10 => (intro w hSw; (try dsimp only at hSw); go_simp; (try with_reducible rfl))
  try simp only [Act.put, List.setIfInBounds_toArray, List.set_cons_zero, List.set_cons_succ]
  refine takeH (i := 11) (some 36) (v := ?_) rfl rfl (by kernel_rfl) (by kernel_rfl) (by kernel_rfl) (fun _ _ _ h => h) (Or.inl ⟨by rfl, ?hyA11⟩) hHeld ?restA11
  case hyA11 => (intro w hSw; (try dsimp only at hSw); go_simp; (try with_reducible rfl))
  try simp only [Act.put, List.setIfInBounds_toArray, List.set_cons_zero, List.set_cons_succ]
  refine wpAnyH_ready (rs := [4]) (by kernel_rfl) (by simp) ?_
  refine AllReadyH.cons rfl (fun K2 hK => ?_) AllReadyH.nil
  go_simp
  (with_reducible refine (HIN.out _).mono ?_); rintro e w3 ⟨b0, b1, rfl, k2, pB⟩; have sB := btr hHeld.2.2.2.2.2.2.2 pB; clear pB hHeld
  refine hK.out _ _ ?_ (fun hHeld => ?_)
  · exact MK.out _ sB
  clear hK K2
  try simp only [Act.put, List.setIfInBounds_toArray, List.set_cons_zero, List.set_cons_succ]
  refine wpAnyH_ready (rs := [6]) (by kernel_rfl) (by simp) ?_
  refine AllReadyH.cons rfl (fun K2 hK => ?_) AllReadyH.nil
  go_simp
  (with_reducible refine (HBE.out _ _ _ _ _).mono ?_); rintro e w4 ⟨p0, p1, p2, p3, rfl, kp, pB⟩; replace k2 := And.intro ((pB.cell (blt k2.1)).trans k2.1) ((pB.cell (blt k2.2)).trans k2.2); replace sB := btr hHeld.2.2.2.2.2.2.2 pB; clear pB hHeld
  refine hK.out _ _ ?_ (fun hHeld => ?_)
  · exact MK.out _ sB
  clear hK K2
  try simp only [Act.put, List.setIfInBounds_toArray, List.set_cons_zero, List.set_cons_succ]
  refine wpAnyH_ready (rs := [12]) (by kernel_rfl) (by simp) ?_
  refine AllReadyH.cons rfl (fun K2 hK => ?_) AllReadyH.nil
  go_simp
  (with_reducible refine (HBE.out _ _ _ _ _).mono ?_); rintro e w5 ⟨t0, t1, t2, t3, rfl, kq, pB⟩; replace k2 := And.intro ((pB.cell (blt k2.1)).trans k2.1) ((pB.cell (blt k2.2)).trans k2.2); replace kp := kp.on pB; replace sB := btr hHeld.2.2.2.2.2.2.2 pB; clear pB hHeld
  refine hK.out _ _ ?_ (fun hHeld => ?_)
  · exact MK.out _ sB
  clear hK K2
  try simp only [Act.put, List.setIfInBounds_toArray, List.set_cons_zero, List.set_cons_succ]
  refine wpAnyH_ready (rs := [13]) (by kernel_rfl) (by simp) ?_
  refine AllReadyH.cons rfl (fun K2 hK => ?_) AllReadyH.nil
  go_simp
  refine hK.out _ _ ?_ (fun hHeld => ?_)
  · exact MK.out _ (bal hHeld.2.2.2.2.2.2.2 _)
  clear hK K2
  try simp only [Act.put, List.setIfInBounds_toArray, List.set_cons_zero, List.set_cons_succ]
  refine wpAnyH_ready (rs := [14]) (by kernel_rfl) (by simp) ?_
  refine AllReadyH.cons rfl (fun K2 hK => ?_) AllReadyH.nil
  go_simp
  (refine (HFI.out _ w5.heap.size b0 b1 p0 p1 p2 p3 SB NB t0 t1 t2 t3 ?a0 ?a1 ?a2 ?a3 ?a4 ?a5 ?a6 ?a7 ?a8 ?a9 ?a10 ?a11 ?a12).mono ?_)
  (case a0 => go_simp)
  (case a1 => go_simp)
  (case a2 => go_simp)
  (case a3 => go_simp)
  (case a4 => go_simp)
  (case a5 => exact ⟨((below_alloc w5 _).cell (blt k2.1)).trans k2.1, ((below_alloc w5 _).cell (blt k2.2)).trans k2.2⟩)
  (case a6 => exact kp.on (below_alloc w5 _))
  (case a7 => exact hHeld.2.2.2.2.1)
  (case a8 => exact hHeld.2.2.2.2.2.1)
  (case a9 => exact hHeld.2.2.2.2.2.2.1)
  (case a10 => exact hHeld.2.2.2.1)
  (case a11 => exact kq.on (below_alloc w5 _))
  (case a12 => exact HA.out.on (btr HBW.out hHeld.2.2.2.2.2.2.2))
  rintro e w6 ⟨rfl, pB⟩; replace sB := btr hHeld.2.2.2.2.2.2.2 pB; clear pB hHeld k2 kp kq
  refine hK.out _ _ ?_ (fun hHeld => ?_)
  · exact MK.out _ sB
  clear hK K2
  try simp only [Act.put, List.setIfInBounds_toArray, List.set_cons_zero, List.set_cons_succ]
  refine takeH (i := 15) (some 16) (v := ?_) rfl rfl (by kernel_rfl) (by kernel_rfl) (by kernel_rfl) (fun _ _ _ h => h) (Or.inl ⟨by rfl, ?hyA15⟩) hHeld ?restA15
  case hyA15 => (intro w hSw; (try dsimp only at hSw); go_simp; (try with_reducible rfl))
  try simp only [Act.put, List.setIfInBounds_toArray, List.set_cons_zero, List.set_cons_succ]
  refine wpAnyH_done (by kernel_rfl) ?_ _
  have HYB := Lib.hid hHeld.2.2.2.2.2.2.2
  have HBY := Lib.hid (btr HBW.out HYB.out)
  obtain ⟨q0, q1, cb, nb, s0, s1, s2, _⟩ := hHeld
  clear sB MK HIN HBE HFI
  generalize w6 = Y at *
  obtain ⟨g0, g1, g2⟩ := HGS.out
  have g0' := g0
  obtain ⟨r0, r1, fr0, fr1⟩ := HR.out
  have hBU := btr HB3.out HYB.out
  have HRY := Lib.hid (And.intro ((hBU.cell (blt r0)).trans r0) (And.intro ((hBU.cell (blt r1)).trans r1) (And.intro ((hBU.frozen (blt r0)).trans fr0) ((hBU.frozen (blt r1)).trans fr1))))
  have HGY := Lib.hid (And.intro ((HYB.out.frozen (p := ⟨SB, 0, none⟩) HSZ.out).trans g0) (And.intro ((HYB.out.frozen (p := ⟨SB, 1, none⟩) HSZ.out).trans g1) ((HYB.out.frozen (p := ⟨SB, 2, none⟩) HSZ.out).trans g2)))
  clear r0 r1 fr0 fr1 g0 g1 g2 g0' hBU HR HGS HB3 HYB HBW HBU
  rcases HTT.out with ⟨h1, rfl, h3⟩ | ⟨h1, rfl⟩
  · have HOK := Lib.hid h3
    obtain ⟨s, hs⟩ := page_iff.1 h3
    have hsx : s = x.p := by have := HSO.out; unfold sOf at this; rw [hs.f] at this; exact this
    subst hsx
    obtain ⟨ht, hus⟩ := now_facts (right_iff.2 hs.r) hs.now
    have hxc : x.c = c := (find_mem hs.f).2
    obtain ⟨kf, rfl⟩ : ∃ kf : Nat, fr = (kf : Int) := ⟨fr.toNat, by have := hs.f0; omega⟩
    obtain ⟨kk, rfl⟩ : ∃ kk : Nat, k = (kk : Int) := ⟨k.toNat, by have := hs.n1; omega⟩
    have hk1 : 1 ≤ kk := by have := hs.n1; omega
    have hk2 : kk ≤ 10 := by have := hs.n2; omega
    have hkf : kf ≤ x.it.length := by have h := hs.f1; change (kf : Int) ≤ (x.it.length : Int) at h; omega
    have hl3 : l.length ≤ 3 := by have := hs.r.len; simpa using this
    have HXC := Lib.hid hxc
    have HSC := Lib.hid (fun W (h : StrsAt W.heap.size W x.ita x.it) => snap_c x.c x.u x.ita x.itd x.it hxi W h)
    clear HTT h1 h3 hs hus hxc HNO HE
    go_wp2_with fail
    refine (HST.out CB _ (HA.out.on HBY.out) cb).mono ?_
    rintro e w6 ⟨v, l', rfl, hown, hmap, hit, pB⟩
    obtain ⟨ao, co, rfl⟩ := row_form hown
    have zY6 := pB.size
    have HB6 := Lib.hid (btr HBY.out pB)
    obtain ⟨g0, g1, g2⟩ := HGY.out
    obtain ⟨r0, r1, fr0, fr1⟩ := HRY.out
    have zSB := blt s0
    have zRB := blt r0
    have zQB := blt q1
    have zNB := blt nb
    replace g0 := (pB.frozen (blt s0)).trans g0
    replace g1 := (pB.frozen (blt s0)).trans g1
    replace g2 := (pB.frozen (blt s0)).trans g2
    replace fr0 := (pB.frozen (blt r0)).trans fr0
    replace fr1 := (pB.frozen (blt r0)).trans fr1
    replace q1 := (pB.cell (blt q1)).trans q1
    replace nb := (pB.cell (blt nb)).trans nb
    replace s0 := (pB.cell (blt s0)).trans s0
    replace s1 := (pB.cell (blt s1)).trans s1
    replace s2 := (pB.cell (blt s2)).trans s2
    replace r0 := (pB.cell (blt r0)).trans r0
    replace r1 := (pB.cell (blt r1)).trans r1
    have hm3 : l'.length ≤ 3 := by rw [← List.length_map (f := SnM.p), hmap]; refine Nat.le_trans (List.length_filter_le _ _) ?_; simpa using hl3
    have HMAP := Lib.hid hmap
    have HITS := Lib.hid hit
    have HOWN := Lib.hid hown
    clear pB hmap hit hown q0 cb HGY HRY HST
    go_wp2_with fail
    refine (HSC.out _ (HXA.out _ (HA.out.on HB6.out))).mono ?_
    rintro e w7 ⟨v3, d3, rfl, ho, pB⟩
    have z67 := pB.size
    have HB7 := Lib.hid (btr HB6.out pB)
    replace g0 := (pB.frozen (blt s0)).trans g0
    replace g1 := (pB.frozen (blt s0)).trans g1
    replace g2 := (pB.frozen (blt s0)).trans g2
    replace fr0 := (pB.frozen (blt r0)).trans fr0
    replace fr1 := (pB.frozen (blt r0)).trans fr1
    replace q1 := (pB.cell (blt q1)).trans q1
    replace nb := (pB.cell (blt nb)).trans nb
    replace s0 := (pB.cell (blt s0)).trans s0
    replace s1 := (pB.cell (blt s1)).trans s1
    replace s2 := (pB.cell (blt s2)).trans s2
    replace r0 := (pB.cell (blt r0)).trans r0
    replace r1 := (pB.cell (blt r1)).trans r1
    have HO7 := Lib.hid ho
    have HI7 := Lib.hid (fun x hx => (HITS.out x hx).on pB)
    have HSL7 := Lib.hid ((SlIn.of_row HOWN.out).kept pB)
    have hvne : ∀ b, Value.ownBlock (.slice ao l'.length co) = some b → Y.heap.size ≤ b ∧ b < w6.heap.size := fun b h => slin_lt (SlIn.of_row HOWN.out) h
    have HVN := Lib.hid hvne
    clear ho pB HSC HXA HITS HOWN hvne HB6
    obtain ⟨e, he⟩ : ∃ e : Nat, e = kf + kk := ⟨_, rfl⟩
    have hww : IntKind.i64.wrap ((kf : Int) + (kk : Int)) = (e : Int) := (IntWalk.i64_in _ (by omega)).trans (by omega)
    have HEE := Lib.hid he
    have hek : kf ≤ e := by omega
    clear he
    by_cases hle : x.it.length ≤ e
    · have hle' : (e : Int) ≥ (x.it.length : Int) := by omega
      have HN' := Lib.hid (show pageN x.p (kf : Int) (kk : Int) = -1 ∧ pageI x.p (kf : Int) (kk : Int) = (x.it.drop kf).take (x.it.length - kf) from page_all (show x.it.length ≤ kf + kk by have := HEE.out; omega))
      have hE : kf ≤ x.it.length := hkf
      have hE2 : x.it.length ≤ x.it.length := Nat.le_refl _
      go_wp2_with fail
      have hQS : QB ≠ SB := by omega
      have hRS : RB ≠ SB := by omega
      have t0 : ((((w7.setCell ⟨SB, 0, none⟩ (.int .i64 x.c)).setCell ⟨SB, 1, none⟩ (.slice v3 x.it.length d3)).setCell ⟨SB, 2, none⟩ (.int .i64 x.u)).setCell ⟨SB, 2, none⟩ (.int .i64 t)).cell? ⟨SB, 0, none⟩ = some (.int .i64 x.c) := by go_simp
      have t1 : ((((w7.setCell ⟨SB, 0, none⟩ (.int .i64 x.c)).setCell ⟨SB, 1, none⟩ (.slice v3 x.it.length d3)).setCell ⟨SB, 2, none⟩ (.int .i64 x.u)).setCell ⟨SB, 2, none⟩ (.int .i64 t)).cell? ⟨SB, 1, none⟩ = some (.slice v3 x.it.length d3) := by go_simp
      have t2 : ((((w7.setCell ⟨SB, 0, none⟩ (.int .i64 x.c)).setCell ⟨SB, 1, none⟩ (.slice v3 x.it.length d3)).setCell ⟨SB, 2, none⟩ (.int .i64 x.u)).setCell ⟨SB, 2, none⟩ (.int .i64 t)).cell? ⟨SB, 2, none⟩ = some (.int .i64 t) := by
        have i2 : (((w7.setCell ⟨SB, 0, none⟩ (.int .i64 x.c)).setCell ⟨SB, 1, none⟩ (.slice v3 x.it.length d3)).setCell ⟨SB, 2, none⟩ (.int .i64 x.u)).cell? ⟨SB, 2, none⟩ = some (.int .i64 x.u) := by go_simp
        clear t0 t1
        generalize (((w7.setCell ⟨SB, 0, none⟩ (.int .i64 x.c)).setCell ⟨SB, 1, none⟩ (.slice v3 x.it.length d3)).setCell ⟨SB, 2, none⟩ (.int .i64 x.u)) = X at *
        go_simp
      have tq : ((((w7.setCell ⟨SB, 0, none⟩ (.int .i64 x.c)).setCell ⟨SB, 1, none⟩ (.slice v3 x.it.length d3)).setCell ⟨SB, 2, none⟩ (.int .i64 x.u)).setCell ⟨SB, 2, none⟩ (.int .i64 t)).cell? ⟨QB, 1, none⟩ = some (.int .i64 n) := (set_other _ _ hQS).trans ((set_other _ _ hQS).trans ((set_other _ _ hQS).trans ((set_other _ _ hQS).trans q1)))
      have hx2 : ∀ b, b ≠ SB → ((((w7.setCell ⟨SB, 0, none⟩ (.int .i64 x.c)).setCell ⟨SB, 1, none⟩ (.slice v3 x.it.length d3)).setCell ⟨SB, 2, none⟩ (.int .i64 x.u)).setCell ⟨SB, 2, none⟩ (.int .i64 t)).heap[b]? = w7.heap[b]? := fun b hb => (Below.heap_setCell _ ⟨SB, 2, none⟩ _ b hb).trans ((Below.heap_setCell _ ⟨SB, 2, none⟩ _ b hb).trans ((Below.heap_setCell _ ⟨SB, 1, none⟩ _ b hb).trans (Below.heap_setCell _ ⟨SB, 0, none⟩ _ b hb)))
      have tr0 : ((((w7.setCell ⟨SB, 0, none⟩ (.int .i64 x.c)).setCell ⟨SB, 1, none⟩ (.slice v3 x.it.length d3)).setCell ⟨SB, 2, none⟩ (.int .i64 x.u)).setCell ⟨SB, 2, none⟩ (.int .i64 t)).cell? ⟨RB, 0, none⟩ = some (.slice none 0 0) := (World.cell?_of_block (w := w7) (a := ⟨RB, 0, none⟩) (hx2 RB hRS)).trans r0
      have tr1 : ((((w7.setCell ⟨SB, 0, none⟩ (.int .i64 x.c)).setCell ⟨SB, 1, none⟩ (.slice v3 x.it.length d3)).setCell ⟨SB, 2, none⟩ (.int .i64 x.u)).setCell ⟨SB, 2, none⟩ (.int .i64 t)).cell? ⟨RB, 1, none⟩ = some (.int .i64 0) := (World.cell?_of_block (w := w7) (a := ⟨RB, 1, none⟩) (hx2 RB hRS)).trans r1
      have tf0 : ((((w7.setCell ⟨SB, 0, none⟩ (.int .i64 x.c)).setCell ⟨SB, 1, none⟩ (.slice v3 x.it.length d3)).setCell ⟨SB, 2, none⟩ (.int .i64 x.u)).setCell ⟨SB, 2, none⟩ (.int .i64 t)).frozen? ⟨RB, 0, none⟩ = false := (World.frozen?_of_block (w := w7) (a := ⟨RB, 0, none⟩) (hx2 RB hRS)).trans fr0
      have tf1 : ((((w7.setCell ⟨SB, 0, none⟩ (.int .i64 x.c)).setCell ⟨SB, 1, none⟩ (.slice v3 x.it.length d3)).setCell ⟨SB, 2, none⟩ (.int .i64 x.u)).setCell ⟨SB, 2, none⟩ (.int .i64 t)).frozen? ⟨RB, 1, none⟩ = false := (World.frozen?_of_block (w := w7) (a := ⟨RB, 1, none⟩) (hx2 RB hRS)).trans fr1
      have SLT := Lib.hid (slin_but HSL7.out (fun b hb => hx2 b (by have := (HVN.out b hb).1; omega)))
      have ITT := Lib.hid (fun y hy => own_but (HI7.out y hy) (fun b hb => hx2 b (by omega)))
      have MKO := Lib.hid (own_but (OwnS.mono HO7.out (base' := Y.heap.size) zY6) (fun b hb => hx2 b (by omega)))
      have hwSB : w.heap.size ≤ SB := by omega
      have HBT := Lib.hid (show Below w.heap.size w ((((w7.setCell ⟨SB, 0, none⟩ (.int .i64 x.c)).setCell ⟨SB, 1, none⟩ (.slice v3 x.it.length d3)).setCell ⟨SB, 2, none⟩ (.int .i64 x.u)).setCell ⟨SB, 2, none⟩ (.int .i64 t)) from (((HB7.out.setCell (p := ⟨SB, 0, none⟩) hwSB _).setCell (p := ⟨SB, 1, none⟩) hwSB _).setCell (p := ⟨SB, 2, none⟩) hwSB _).setCell (p := ⟨SB, 2, none⟩) hwSB _)
      have hTs : ((((w7.setCell ⟨SB, 0, none⟩ (.int .i64 x.c)).setCell ⟨SB, 1, none⟩ (.slice v3 x.it.length d3)).setCell ⟨SB, 2, none⟩ (.int .i64 x.u)).setCell ⟨SB, 2, none⟩ (.int .i64 t)).heap.size = w7.heap.size := by simp
      have HRT := Lib.hid (And.intro tr0 (And.intro tr1 (And.intro tf0 tf1)))
      clear tr0 tr1 tf0 tf1 r0 r1 fr0 fr1 g0 g1 g2 s0 s1 s2 q1 nb HSL7 HI7 HO7 HB7 hx2
      generalize ((((w7.setCell ⟨SB, 0, none⟩ (.int .i64 x.c)).setCell ⟨SB, 1, none⟩ (.slice v3 x.it.length d3)).setCell ⟨SB, 2, none⟩ (.int .i64 x.u)).setCell ⟨SB, 2, none⟩ (.int .i64 t)) = T at *
      have zT : Y.heap.size ≤ T.heap.size := by omega
      clear hTs z67 zY6
      have zTn : Y.heap.size ≤ T.drew.heap.size := zT
      have SLD := Lib.hid (SLT.out.kept (below_drew (Below.refl _ T)))
      have ITD := Lib.hid (fun y hy => (OwnS.on (ITT.out y hy) (below_drew (Below.refl _ T))))
      have MKD := Lib.hid (OwnS.on MKO.out (below_drew (Below.refl _ T)))
      have HRD := Lib.hid (show T.drew.cell? ⟨RB, 0, none⟩ = _ ∧ T.drew.cell? ⟨RB, 1, none⟩ = _ ∧ T.drew.frozen? ⟨RB, 0, none⟩ = _ ∧ T.drew.frozen? ⟨RB, 1, none⟩ = _ from HRT.out)
      have HBD := Lib.hid (below_drew HBT.out)
      have d0 : T.drew.cell? ⟨SB, 0, none⟩ = _ := t0
      have d1 : T.drew.cell? ⟨SB, 1, none⟩ = _ := t1
      have d2 : T.drew.cell? ⟨SB, 2, none⟩ = _ := t2
      have dq : T.drew.cell? ⟨QB, 1, none⟩ = _ := tq
      refine wp_region_held_drew (S := (fun w' => w'.cell? ⟨QB, 1, none⟩ = some (.int .i64 n) ∧ w'.cell? ⟨SB, 0, none⟩ = some (.int .i64 x.c) ∧ w'.cell? ⟨SB, 1, none⟩ = some (.slice v3 x.it.length d3) ∧ w'.cell? ⟨SB, 2, none⟩ = some (.int .i64 t))) (by kernel_rfl) ?_ (fun hHeld => ?_)
      · exact ⟨dq, d0, d1, d2⟩
      clear SLT ITT MKO HRT HBT t0 t1 t2 tq zT
      generalize T.drew = D at *
      have MK := Lib.hid (show ∀ w' : World, (∀ b o, b < Y.heap.size → w'.cell? ⟨b, o, none⟩ = D.cell? ⟨b, o, none⟩) → w'.cell? ⟨QB, 1, none⟩ = some (.int .i64 n) ∧ w'.cell? ⟨SB, 0, none⟩ = some (.int .i64 x.c) ∧ w'.cell? ⟨SB, 1, none⟩ = some (.slice v3 x.it.length d3) ∧ w'.cell? ⟨SB, 2, none⟩ = some (.int .i64 t) from fun (w' : World) h => ⟨(h _ _ zQB).trans dq, (h _ _ zSB).trans d0, (h _ _ zSB).trans d1, (h _ _ zSB).trans d2⟩)
      clear d0 d1 d2 dq
      have hMK := MKD.out.2
      generalize hLL : x.it.length = LL at *
      have HLL := Lib.hid hLL
      clear hLL
      rcases hMK with ⟨e1, h0⟩ | ⟨g5, c5, cur5, e1, hg5, hcur, hcap, _⟩
      · simp only [Value.slice.injEq] at e1
        obtain ⟨rfl, rfl, rfl⟩ := e1
        obtain rfl : kf = 0 := by omega
        replace HOK := Lib.hid (show pageE wordB ⟨l.map SnM.p, n⟩ c 0 (kk : Int) t = 0 from HOK.out)
        replace HN' := Lib.hid (show pageN x.p 0 (kk : Int) = -1 ∧ pageI x.p 0 (kk : Int) = (x.it.drop 0).take (0 - 0) from HN'.out)
        refine takeH (i := 0) (some 66) (v := ?_) rfl rfl (by kernel_rfl) (by kernel_rfl) (by kernel_rfl) (fun _ _ _ h => h) (Or.inl ⟨by rfl, ?hyPn0⟩) hHeld ?restPn0
        case hyPn0 => (intro w hSw; (try dsimp only at hSw); go_simp; (try with_reducible rfl))
        try simp only [Act.put, List.setIfInBounds_toArray, List.set_cons_zero, List.set_cons_succ]
        refine takeH (i := 1) (some 67) (v := ?_) rfl rfl (by kernel_rfl) (by kernel_rfl) (by kernel_rfl) (fun _ _ _ h => h) (Or.inl ⟨by rfl, ?hyPn1⟩) hHeld ?restPn1
        case hyPn1 => (intro w hSw; (try dsimp only at hSw); go_simp; (try with_reducible rfl))
        try simp only [Act.put, List.setIfInBounds_toArray, List.set_cons_zero, List.set_cons_succ]
        refine takeH (i := 4) (some 70) (v := ?_) rfl rfl (by kernel_rfl) (by kernel_rfl) (by kernel_rfl) (fun _ _ _ h => h) (Or.inl ⟨by rfl, ?hyPn4⟩) hHeld ?restPn4
        case hyPn4 => (intro w hSw; (try dsimp only at hSw); go_simp; (try with_reducible rfl))
        try simp only [Act.put, List.setIfInBounds_toArray, List.set_cons_zero, List.set_cons_succ]
        refine takeH (i := 5) (some 71) (v := ?_) rfl rfl (by kernel_rfl) (by kernel_rfl) (by kernel_rfl) (fun _ _ _ h => h) (Or.inl ⟨by rfl, ?hyPn5⟩) hHeld ?restPn5
        case hyPn5 => (intro w hSw; (try dsimp only at hSw); go_simp; (try with_reducible rfl))
        try simp only [Act.put, List.setIfInBounds_toArray, List.set_cons_zero, List.set_cons_succ]
        refine takeH (i := 6) (some 72) (v := ?_) rfl rfl (by kernel_rfl) (by kernel_rfl) (by kernel_rfl) (fun _ _ _ h => h) (Or.inl ⟨by rfl, ?hyPn6⟩) hHeld ?restPn6
        case hyPn6 => (intro w hSw; (try dsimp only at hSw); go_simp; (try with_reducible rfl))
        try simp only [Act.put, List.setIfInBounds_toArray, List.set_cons_zero, List.set_cons_succ]
        refine takeH (i := 8) (some 74) (v := ?_) rfl rfl (by kernel_rfl) (by kernel_rfl) (by kernel_rfl) (fun _ _ _ h => h) (Or.inl ⟨by rfl, ?hyPn8⟩) hHeld ?restPn8
        case hyPn8 => (intro w hSw; (try dsimp only at hSw); go_simp; (try with_reducible rfl))
        try simp only [Act.put, List.setIfInBounds_toArray, List.set_cons_zero, List.set_cons_succ]
        refine takeH (i := 9) (some 75) (v := ?_) rfl rfl (by kernel_rfl) (by kernel_rfl) (by kernel_rfl) (fun _ _ _ h => h) (Or.inl ⟨by rfl, ?hyPn9⟩) hHeld ?restPn9
        case hyPn9 => (intro w hSw; (try dsimp only at hSw); go_simp; (try with_reducible rfl))
        try simp only [Act.put, List.setIfInBounds_toArray, List.set_cons_zero, List.set_cons_succ]
        refine takeH (i := 10) (some 76) (v := ?_) rfl rfl (by kernel_rfl) (by kernel_rfl) (by kernel_rfl) (fun _ _ _ h => h) (Or.inl ⟨by rfl, ?hyPn10⟩) hHeld ?restPn10
        case hyPn10 => (intro w hSw; (try dsimp only at hSw); go_simp; (try with_reducible rfl))
        try simp only [Act.put, List.setIfInBounds_toArray, List.set_cons_zero, List.set_cons_succ]
        refine takeH (i := 11) (some 77) (v := ?_) rfl rfl (by kernel_rfl) (by kernel_rfl) (by kernel_rfl) (fun _ _ _ h => h) (Or.inl ⟨by rfl, ?hyPn11⟩) hHeld ?restPn11
        case hyPn11 => (intro w hSw; (try dsimp only at hSw); go_simp; (try with_reducible rfl))
        try simp only [Act.put, List.setIfInBounds_toArray, List.set_cons_zero, List.set_cons_succ]
        refine takeH (i := 12) (some 78) (v := ?_) rfl rfl (by kernel_rfl) (by kernel_rfl) (by kernel_rfl) (fun _ _ _ h => h) (Or.inl ⟨by rfl, ?hyPn12⟩) hHeld ?restPn12
        case hyPn12 => (intro w hSw; (try dsimp only at hSw); go_simp; (try with_reducible rfl))
        try simp only [Act.put, List.setIfInBounds_toArray, List.set_cons_zero, List.set_cons_succ]
        refine takeH (i := 15) (some 81) (v := ?_) rfl rfl (by kernel_rfl) (by kernel_rfl) (by kernel_rfl) (fun _ _ _ h => h) (Or.inl ⟨by rfl, ?hyPn15⟩) hHeld ?restPn15
        case hyPn15 => (intro w hSw; (try dsimp only at hSw); go_simp; (try with_reducible rfl))
        try simp only [Act.put, List.setIfInBounds_toArray, List.set_cons_zero, List.set_cons_succ]
        refine takeH (i := 13) (some 79) (v := ?_) rfl rfl (by kernel_rfl) (by kernel_rfl) (by kernel_rfl) (fun _ _ _ h => h) (Or.inl ⟨by rfl, ?hyPn13⟩) hHeld ?restPn13
        case hyPn13 => (intro w hSw; (try dsimp only at hSw); go_simp; (try with_reducible rfl))
        try simp only [Act.put, List.setIfInBounds_toArray, List.set_cons_zero, List.set_cons_succ]
        have hzl : (([] : List ByteArray)).length = 0 := rfl
        have HCL := Lib.hid (fun W (h : StrsAt W.heap.size W (none) (([] : List ByteArray))) => show Calls Tryd.prog 31 #[.slice (none) (0) (0)] W (fun y5 w' => ∃ v d, y5 = .returned (.slice v (0) d) ∧ OwnS W.heap.size w' (.slice v (0) d) (([] : List ByteArray)) ∧ Below W.heap.size W w') from by have := clonS_r (none) (0) (([] : List ByteArray)) (by rw [hzl]; omega) W h; rw [hzl] at this; exact this)
        have HZL := Lib.hid hzl
        clear hzl
        refine wpAnyH_ready (rs := [2]) (by kernel_rfl) (by simp) ?_
        refine AllReadyH.cons rfl (fun K2 hK => ?_) AllReadyH.nil
        go_simp
        refine hK.out _ _ ?_ (fun hHeld => ?_)
        · exact MK.out _ (fun b o h => (below_alloc D _).cell (p := ⟨b, o, none⟩) (by show b < D.heap.size; omega))
        clear hK K2
        try simp only [Act.put, List.setIfInBounds_toArray, List.set_cons_zero, List.set_cons_succ]
        refine wpAnyH_ready (rs := [3]) (by kernel_rfl) (by simp) ?_
        refine AllReadyH.cons rfl (fun K2 hK => ?_) AllReadyH.nil
        rw [if_pos (by rfl)]
        refine wp_append_in _ (.tmp 66) (.tmp 68) 22 rfl Y.heap.size 42 i0 (.agg #[.int .i64 0, .slice none 0 0, .int .i64 0]) 3 40 Tryd.underlying22 hi0 hz0 hz1 hz2 rfl (by decide) _ l'.length (snmCs l') rfl (slin_alloc SLD.out _) ⟨D.heap.size, 0, none⟩ 1 1 [.int .i64 x.c, .slice (none) (0) (0), .int .i64 t] rfl rfl (World.news_of_block (cs := #[.int .i64 x.c, .slice (none) (0) (0), .int .i64 t]) (t := 42) (fr := (0, 0)) (by first | exact World.alloc_heap_new D _ | exact heap_alloc_new D _)) (by simp [Value.oneCell']) (by decide) (by unfold maxLen; omega) (by omega) (by rw [World.size_alloc]; omega) ?_
        intro g o' cg w9 hgz hg9 hgc hgr
        have MKD2 := Lib.hid (show OwnS Y.heap.size D (.slice (none) x.it.length (0)) x.it from by rw [HLL.out]; exact MKD.out)
        have HEND := Lib.hid (fun v0 v1 w10 hb9 => page_end (mk := ⟨x.c, x.it, none, 0, t⟩) (v0 := v0) (v1 := v1) (w10 := w10) HRW.out zRB HBD.out SLD.out ITD.out MKD2.out hgz hg9 (by rw [show ((⟨x.c, x.it, none, 0, t⟩ : SnM)).it.length = 0 from HLL.out]; exact hgc) hgr hb9)
        have HO9 := Lib.hid (own_grown (mk := ⟨x.c, x.it, none, 0, t⟩) SLD.out MKD2.out hgr)
        have hne : ∀ b, b < Y.heap.size → some b ≠ Value.ownBlock (.slice ao l'.length co) := fun b hb e => by have := (slin_lt SLD.out e.symm).1; omega
        have rc := fun (b : Nat) (hb : b < Y.heap.size) => (hgr.block b (by rw [World.size_alloc]; omega) (hne b hb)).trans (Below.heap_alloc D _ b (by omega))
        obtain ⟨r0, r1, fr0, fr1⟩ := HRD.out
        replace fr0 := (World.frozen?_of_block (w := D) (a := ⟨RB, 0, none⟩) (rc RB zRB)).trans fr0
        replace fr1 := (World.frozen?_of_block (w := D) (a := ⟨RB, 1, none⟩) (rc RB zRB)).trans fr1
        replace r0 := (World.cell?_of_block (w := D) (a := ⟨RB, 0, none⟩) (rc RB zRB)).trans r0
        replace r1 := (World.cell?_of_block (w := D) (a := ⟨RB, 1, none⟩) (rc RB zRB)).trans r1
        have HSRC := Lib.hid (show StrsAt w9.heap.size w9 (none) (([] : List ByteArray)) from StrsAt.nil _ _ _)
        have z9 : Y.heap.size ≤ w9.heap.size := by omega
        refine hK.out _ _ ?_ (fun hHeld => ?_)
        · exact MK.out _ (fun b o h => World.cell?_of_block (w := D) (a := ⟨b, o, none⟩) (rc b h))
        clear hK K2 hgz hg9 hgc hgr hne rc HRD
        try simp only [Act.put, List.setIfInBounds_toArray, List.set_cons_zero, List.set_cons_succ]
        refine takeH (i := 7) (some 73) (v := ?_) rfl rfl (by kernel_rfl) (by kernel_rfl) (by kernel_rfl) (fun _ _ _ h => h) (Or.inl ⟨by rfl, ?hyPn7⟩) hHeld ?restPn7
        case hyPn7 => (intro w hSw; (try dsimp only at hSw); go_simp; (try with_reducible rfl))
        try simp only [Act.put, List.setIfInBounds_toArray, List.set_cons_zero, List.set_cons_succ]
        refine wpAnyH_ready (rs := [14]) (by kernel_rfl) (by simp) ?_
        refine AllReadyH.cons rfl (fun K2 hK => ?_) AllReadyH.nil
        go_simp
        (refine (HCL.out _ HSRC.out).mono ?_); rintro e w10 ⟨v5, d5, rfl, ho, pB⟩; replace fr0 := (pB.frozen (blt r0)).trans fr0; replace fr1 := (pB.frozen (blt r1)).trans fr1; replace r0 := (pB.cell (blt r0)).trans r0; replace r1 := (pB.cell (blt r1)).trans r1; have hh := hHeld; have HO10 := Lib.hid ho; have HB10 := Lib.hid pB; clear ho pB
        refine hK.out _ _ ?_ (fun hHeld => ?_)
        · exact ⟨(HB10.out.cell (blt hh.1)).trans hh.1, (HB10.out.cell (blt hh.2.1)).trans hh.2.1, (HB10.out.cell (blt hh.2.2.1)).trans hh.2.2.1, (HB10.out.cell (blt hh.2.2.2)).trans hh.2.2.2⟩
        clear hK K2
        try simp only [Act.put, List.setIfInBounds_toArray, List.set_cons_zero, List.set_cons_succ]
        clear hh
        refine wpAnyH_ready (rs := [16]) (by kernel_rfl) (by simp) ?_
        refine AllReadyH.cons rfl (fun K2 hK => ?_) AllReadyH.nil
        go_simp
        refine hK.out _ _ ?_ (fun hHeld => ?_)
        · (have hh := hHeld; refine ⟨?_, ?_, ?_, ?_⟩ <;> (rw [set_other _ _ (by omega), set_other _ _ (by omega)]); exact hh.1; exact hh.2.1; exact hh.2.2.1; exact hh.2.2.2)
        clear hK K2
        try simp only [Act.put, List.setIfInBounds_toArray, List.set_cons_zero, List.set_cons_succ]
        refine takeH (i := 17) (some 11) (v := ?_) rfl rfl (by kernel_rfl) (by kernel_rfl) (by kernel_rfl) (fun _ _ _ h => h) (Or.inl ⟨by rfl, ?hyPn17⟩) hHeld ?restPn17
        case hyPn17 => (intro w hSw; (try dsimp only at hSw); go_simp; (try with_reducible rfl))
        try simp only [Act.put, List.setIfInBounds_toArray, List.set_cons_zero, List.set_cons_succ]
        refine takeH (i := 18) (some 12) (v := ?_) rfl rfl (by kernel_rfl) (by kernel_rfl) (by kernel_rfl) (fun _ _ _ h => h) (Or.inl ⟨by rfl, ?hyPn18⟩) hHeld ?restPn18
        case hyPn18 => (intro w hSw; (try dsimp only at hSw); go_simp; (try with_reducible rfl))
        try simp only [Act.put, List.setIfInBounds_toArray, List.set_cons_zero, List.set_cons_succ]
        refine takeH (i := 19) (some 13) (v := ?_) rfl rfl (by kernel_rfl) (by kernel_rfl) (by kernel_rfl) (fun _ _ _ h => h) (Or.inl ⟨by rfl, ?hyPn19⟩) hHeld ?restPn19
        case hyPn19 => (intro w hSw; (try dsimp only at hSw); go_simp; (try with_reducible rfl))
        try simp only [Act.put, List.setIfInBounds_toArray, List.set_cons_zero, List.set_cons_succ]
        refine wpAnyH_done (by kernel_rfl) ?_ _
        go_wp2
        obtain ⟨hP, hFar, hBB⟩ := HEND.out (.slice (some ⟨g, o', none⟩) (l'.length + 1) cg) (.int .i64 n) w10 HB10.out
        have e0 : ((w10.setCell ⟨RB, 0, none⟩ (.slice (some ⟨g, o', none⟩) (l'.length + 1) cg)).setCell ⟨RB, 1, none⟩ (.int .i64 n)).cell? ⟨RB, 0, none⟩ = some (.slice (some ⟨g, o', none⟩) (l'.length + 1) cg) := by go_simp
        have e1 : ((w10.setCell ⟨RB, 0, none⟩ (.slice (some ⟨g, o', none⟩) (l'.length + 1) cg)).setCell ⟨RB, 1, none⟩ (.int .i64 n)).cell? ⟨RB, 1, none⟩ = some (.int .i64 n) := by go_simp
        have hpl : pageL ⟨l.map SnM.p, n⟩ c 0 kk t = ([] : List ByteArray) := by unfold pageL; rw [if_pos HOK.out, HSO.out]; exact HN'.out.2.trans (by simp)
        have hpb : pageB ⟨l.map SnM.p, n⟩ c 0 kk t = (-1) := by unfold pageB; rw [if_pos HOK.out, HSO.out]; exact HN'.out.1
        refine bodyPost_ret (results_cell3 rfl _ _ (by rfl) (pool_load e0 e1)) rfl ⟨.agg #[.slice (some ⟨g, o', none⟩) (l'.length + 1) cg, .int .i64 n], v5, d5, ?_, ⟨some ⟨g, o', none⟩, cg, l' ++ [⟨x.c, x.it, none, 0, t⟩], ?_, hP, hFar, ?_⟩, ?_, hBB⟩
        · rw [hpl, hpb, HZL.out, show pageE wordB ⟨l.map SnM.p, n⟩ c 0 kk t = 0 from HOK.out]; rfl
        · unfold pageS; rw [if_pos HOK.out, List.length_append]; rfl
        · unfold pageS; rw [if_pos HOK.out, List.map_append, HMAP.out, HSO.out]; rfl
        · rw [hpl]; exact OwnS.at' ((HO10.out.set (by omega)).set (by omega))
      · simp only [Value.slice.injEq] at e1
        obtain ⟨rfl, _, rfl⟩ := e1
        by_cases hz : LL = kf
        · subst hz
          refine takeH (i := 0) (some 66) (v := ?_) rfl rfl (by kernel_rfl) (by kernel_rfl) (by kernel_rfl) (fun _ _ _ h => h) (Or.inl ⟨by rfl, ?hyPz0⟩) hHeld ?restPz0
          case hyPz0 => (intro w hSw; (try dsimp only at hSw); go_simp; (try with_reducible rfl))
          try simp only [Act.put, List.setIfInBounds_toArray, List.set_cons_zero, List.set_cons_succ]
          refine takeH (i := 1) (some 67) (v := ?_) rfl rfl (by kernel_rfl) (by kernel_rfl) (by kernel_rfl) (fun _ _ _ h => h) (Or.inl ⟨by rfl, ?hyPz1⟩) hHeld ?restPz1
          case hyPz1 => (intro w hSw; (try dsimp only at hSw); go_simp; (try with_reducible rfl))
          try simp only [Act.put, List.setIfInBounds_toArray, List.set_cons_zero, List.set_cons_succ]
          refine takeH (i := 4) (some 70) (v := ?_) rfl rfl (by kernel_rfl) (by kernel_rfl) (by kernel_rfl) (fun _ _ _ h => h) (Or.inl ⟨by rfl, ?hyPz4⟩) hHeld ?restPz4
          case hyPz4 => (intro w hSw; (try dsimp only at hSw); go_simp; (try with_reducible rfl))
          try simp only [Act.put, List.setIfInBounds_toArray, List.set_cons_zero, List.set_cons_succ]
          refine takeH (i := 5) (some 71) (v := ?_) rfl rfl (by kernel_rfl) (by kernel_rfl) (by kernel_rfl) (fun _ _ _ h => h) (Or.inl ⟨by rfl, ?hyPz5⟩) hHeld ?restPz5
          case hyPz5 => (intro w hSw; (try dsimp only at hSw); go_simp; (try with_reducible rfl))
          try simp only [Act.put, List.setIfInBounds_toArray, List.set_cons_zero, List.set_cons_succ]
          refine takeH (i := 6) (some 72) (v := ?_) rfl rfl (by kernel_rfl) (by kernel_rfl) (by kernel_rfl) (fun _ _ _ h => h) (Or.inl ⟨by rfl, ?hyPz6⟩) hHeld ?restPz6
          case hyPz6 => (intro w hSw; (try dsimp only at hSw); go_simp; (try with_reducible rfl))
          try simp only [Act.put, List.setIfInBounds_toArray, List.set_cons_zero, List.set_cons_succ]
          refine takeH (i := 8) (some 74) (v := ?_) rfl rfl (by kernel_rfl) (by kernel_rfl) (by kernel_rfl) (fun _ _ _ h => h) (Or.inl ⟨by rfl, ?hyPz8⟩) hHeld ?restPz8
          case hyPz8 => (intro w hSw; (try dsimp only at hSw); go_simp; (try with_reducible rfl))
          try simp only [Act.put, List.setIfInBounds_toArray, List.set_cons_zero, List.set_cons_succ]
          refine takeH (i := 9) (some 75) (v := ?_) rfl rfl (by kernel_rfl) (by kernel_rfl) (by kernel_rfl) (fun _ _ _ h => h) (Or.inl ⟨by rfl, ?hyPz9⟩) hHeld ?restPz9
          case hyPz9 => (intro w hSw; (try dsimp only at hSw); go_simp; (try with_reducible rfl))
          try simp only [Act.put, List.setIfInBounds_toArray, List.set_cons_zero, List.set_cons_succ]
          refine takeH (i := 10) (some 76) (v := ?_) rfl rfl (by kernel_rfl) (by kernel_rfl) (by kernel_rfl) (fun _ _ _ h => h) (Or.inl ⟨by rfl, ?hyPz10⟩) hHeld ?restPz10
          case hyPz10 => (intro w hSw; (try dsimp only at hSw); go_simp; (try with_reducible rfl))
          try simp only [Act.put, List.setIfInBounds_toArray, List.set_cons_zero, List.set_cons_succ]
          refine takeH (i := 11) (some 77) (v := ?_) rfl rfl (by kernel_rfl) (by kernel_rfl) (by kernel_rfl) (fun _ _ _ h => h) (Or.inl ⟨by rfl, ?hyPz11⟩) hHeld ?restPz11
          case hyPz11 => (intro w hSw; (try dsimp only at hSw); go_simp; (try with_reducible rfl))
          try simp only [Act.put, List.setIfInBounds_toArray, List.set_cons_zero, List.set_cons_succ]
          refine takeH (i := 12) (some 78) (v := ?_) rfl rfl (by kernel_rfl) (by kernel_rfl) (by kernel_rfl) (fun _ _ _ h => h) (Or.inl ⟨by rfl, ?hyPz12⟩) hHeld ?restPz12
          case hyPz12 => (intro w hSw; (try dsimp only at hSw); go_simp; (try with_reducible rfl))
          try simp only [Act.put, List.setIfInBounds_toArray, List.set_cons_zero, List.set_cons_succ]
          refine takeH (i := 15) (some 81) (v := ?_) rfl rfl (by kernel_rfl) (by kernel_rfl) (by kernel_rfl) (fun _ _ _ h => h) (Or.inl ⟨by rfl, ?hyPz15⟩) hHeld ?restPz15
          case hyPz15 => (intro w hSw; (try dsimp only at hSw); go_simp; (try with_reducible rfl))
          try simp only [Act.put, List.setIfInBounds_toArray, List.set_cons_zero, List.set_cons_succ]
          refine takeH (i := 13) (some 79) (v := ?_) rfl rfl (by kernel_rfl) (by kernel_rfl) (by kernel_rfl) (fun _ _ _ h => h) (Or.inl ⟨by rfl, ?hyPz13⟩) hHeld ?restPz13
          case hyPz13 => (intro w hSw; (try dsimp only at hSw); go_simp; (try with_reducible rfl))
          try simp only [Act.put, List.setIfInBounds_toArray, List.set_cons_zero, List.set_cons_succ]
          have hzl : (([] : List ByteArray)).length = 0 := rfl
          have HCL := Lib.hid (fun W (h : StrsAt W.heap.size W (some ⟨g5, 0, none⟩) (([] : List ByteArray))) => show Calls Tryd.prog 31 #[.slice (some ⟨g5, 0, none⟩) (0) (0)] W (fun y5 w' => ∃ v d, y5 = .returned (.slice v (0) d) ∧ OwnS W.heap.size w' (.slice v (0) d) (([] : List ByteArray)) ∧ Below W.heap.size W w') from by have := clonS_r (some ⟨g5, 0, none⟩) (0) (([] : List ByteArray)) (by rw [hzl]; omega) W h; rw [hzl] at this; exact this)
          have HZL := Lib.hid hzl
          clear hzl
          refine wpAnyH_ready (rs := [2]) (by kernel_rfl) (by simp) ?_
          refine AllReadyH.cons rfl (fun K2 hK => ?_) AllReadyH.nil
          go_simp
          refine hK.out _ _ ?_ (fun hHeld => ?_)
          · exact MK.out _ (fun b o h => (below_alloc D _).cell (p := ⟨b, o, none⟩) (by show b < D.heap.size; omega))
          clear hK K2
          try simp only [Act.put, List.setIfInBounds_toArray, List.set_cons_zero, List.set_cons_succ]
          refine wpAnyH_ready (rs := [3]) (by kernel_rfl) (by simp) ?_
          refine AllReadyH.cons rfl (fun K2 hK => ?_) AllReadyH.nil
          rw [if_pos (by rfl)]
          refine wp_append_in _ (.tmp 66) (.tmp 68) 22 rfl Y.heap.size 42 i0 (.agg #[.int .i64 0, .slice none 0 0, .int .i64 0]) 3 40 Tryd.underlying22 hi0 hz0 hz1 hz2 rfl (by decide) _ l'.length (snmCs l') rfl (slin_alloc SLD.out _) ⟨D.heap.size, 0, none⟩ 1 1 [.int .i64 x.c, .slice (some ⟨g5, 0, none⟩) (LL) (d3), .int .i64 t] rfl rfl (World.news_of_block (cs := #[.int .i64 x.c, .slice (some ⟨g5, 0, none⟩) (LL) (d3), .int .i64 t]) (t := 42) (fr := (0, 0)) (by first | exact World.alloc_heap_new D _ | exact heap_alloc_new D _)) (by simp [Value.oneCell']) (by decide) (by unfold maxLen; omega) (by omega) (by rw [World.size_alloc]; omega) ?_
          intro g o' cg w9 hgz hg9 hgc hgr
          have MKD2 := Lib.hid (show OwnS Y.heap.size D (.slice (some ⟨g5, 0, none⟩) x.it.length (d3)) x.it from by rw [HLL.out]; exact MKD.out)
          have HEND := Lib.hid (fun v0 v1 w10 hb9 => page_end (mk := ⟨x.c, x.it, some ⟨g5, 0, none⟩, d3, t⟩) (v0 := v0) (v1 := v1) (w10 := w10) HRW.out zRB HBD.out SLD.out ITD.out MKD2.out hgz hg9 (by rw [show ((⟨x.c, x.it, some ⟨g5, 0, none⟩, d3, t⟩ : SnM)).it.length = LL from HLL.out]; exact hgc) hgr hb9)
          have HO9 := Lib.hid (own_grown (mk := ⟨x.c, x.it, some ⟨g5, 0, none⟩, d3, t⟩) SLD.out MKD2.out hgr)
          have hne : ∀ b, b < Y.heap.size → some b ≠ Value.ownBlock (.slice ao l'.length co) := fun b hb e => by have := (slin_lt SLD.out e.symm).1; omega
          have rc := fun (b : Nat) (hb : b < Y.heap.size) => (hgr.block b (by rw [World.size_alloc]; omega) (hne b hb)).trans (Below.heap_alloc D _ b (by omega))
          obtain ⟨r0, r1, fr0, fr1⟩ := HRD.out
          replace fr0 := (World.frozen?_of_block (w := D) (a := ⟨RB, 0, none⟩) (rc RB zRB)).trans fr0
          replace fr1 := (World.frozen?_of_block (w := D) (a := ⟨RB, 1, none⟩) (rc RB zRB)).trans fr1
          replace r0 := (World.cell?_of_block (w := D) (a := ⟨RB, 0, none⟩) (rc RB zRB)).trans r0
          replace r1 := (World.cell?_of_block (w := D) (a := ⟨RB, 1, none⟩) (rc RB zRB)).trans r1
          have HSRC := Lib.hid (show StrsAt w9.heap.size w9 (some ⟨g5, 0, none⟩) (([] : List ByteArray)) from StrsAt.nil _ _ _)
          have z9 : Y.heap.size ≤ w9.heap.size := by omega
          refine hK.out _ _ ?_ (fun hHeld => ?_)
          · exact MK.out _ (fun b o h => World.cell?_of_block (w := D) (a := ⟨b, o, none⟩) (rc b h))
          clear hK K2 hgz hg9 hgc hgr hne rc HRD
          try simp only [Act.put, List.setIfInBounds_toArray, List.set_cons_zero, List.set_cons_succ]
          refine takeH (i := 7) (some 73) (v := ?_) rfl rfl (by kernel_rfl) (by kernel_rfl) (by kernel_rfl) (fun _ _ _ h => h) (Or.inl ⟨by rfl, ?hyPz7⟩) hHeld ?restPz7
          case hyPz7 => (intro w hSw; (try dsimp only at hSw); go_simp; (try with_reducible rfl))
          try simp only [Act.put, List.setIfInBounds_toArray, List.set_cons_zero, List.set_cons_succ]
          refine wpAnyH_ready (rs := [14]) (by kernel_rfl) (by simp) ?_
          refine AllReadyH.cons rfl (fun K2 hK => ?_) AllReadyH.nil
          go_simp
          (refine (HCL.out _ HSRC.out).mono ?_); rintro e w10 ⟨v5, d5, rfl, ho, pB⟩; replace fr0 := (pB.frozen (blt r0)).trans fr0; replace fr1 := (pB.frozen (blt r1)).trans fr1; replace r0 := (pB.cell (blt r0)).trans r0; replace r1 := (pB.cell (blt r1)).trans r1; have hh := hHeld; have HO10 := Lib.hid ho; have HB10 := Lib.hid pB; clear ho pB
          refine hK.out _ _ ?_ (fun hHeld => ?_)
          · exact ⟨(HB10.out.cell (blt hh.1)).trans hh.1, (HB10.out.cell (blt hh.2.1)).trans hh.2.1, (HB10.out.cell (blt hh.2.2.1)).trans hh.2.2.1, (HB10.out.cell (blt hh.2.2.2)).trans hh.2.2.2⟩
          clear hK K2
          try simp only [Act.put, List.setIfInBounds_toArray, List.set_cons_zero, List.set_cons_succ]
          clear hh
          refine wpAnyH_ready (rs := [16]) (by kernel_rfl) (by simp) ?_
          refine AllReadyH.cons rfl (fun K2 hK => ?_) AllReadyH.nil
          go_simp
          refine hK.out _ _ ?_ (fun hHeld => ?_)
          · (have hh := hHeld; refine ⟨?_, ?_, ?_, ?_⟩ <;> (rw [set_other _ _ (by omega), set_other _ _ (by omega)]); exact hh.1; exact hh.2.1; exact hh.2.2.1; exact hh.2.2.2)
          clear hK K2
          try simp only [Act.put, List.setIfInBounds_toArray, List.set_cons_zero, List.set_cons_succ]
          refine takeH (i := 17) (some 11) (v := ?_) rfl rfl (by kernel_rfl) (by kernel_rfl) (by kernel_rfl) (fun _ _ _ h => h) (Or.inl ⟨by rfl, ?hyPz17⟩) hHeld ?restPz17
          case hyPz17 => (intro w hSw; (try dsimp only at hSw); go_simp; (try with_reducible rfl))
          try simp only [Act.put, List.setIfInBounds_toArray, List.set_cons_zero, List.set_cons_succ]
          refine takeH (i := 18) (some 12) (v := ?_) rfl rfl (by kernel_rfl) (by kernel_rfl) (by kernel_rfl) (fun _ _ _ h => h) (Or.inl ⟨by rfl, ?hyPz18⟩) hHeld ?restPz18
          case hyPz18 => (intro w hSw; (try dsimp only at hSw); go_simp; (try with_reducible rfl))
          try simp only [Act.put, List.setIfInBounds_toArray, List.set_cons_zero, List.set_cons_succ]
          refine takeH (i := 19) (some 13) (v := ?_) rfl rfl (by kernel_rfl) (by kernel_rfl) (by kernel_rfl) (fun _ _ _ h => h) (Or.inl ⟨by rfl, ?hyPz19⟩) hHeld ?restPz19
          case hyPz19 => (intro w hSw; (try dsimp only at hSw); go_simp; (try with_reducible rfl))
          try simp only [Act.put, List.setIfInBounds_toArray, List.set_cons_zero, List.set_cons_succ]
          refine wpAnyH_done (by kernel_rfl) ?_ _
          go_wp2
          obtain ⟨hP, hFar, hBB⟩ := HEND.out (.slice (some ⟨g, o', none⟩) (l'.length + 1) cg) (.int .i64 n) w10 HB10.out
          have e0 : ((w10.setCell ⟨RB, 0, none⟩ (.slice (some ⟨g, o', none⟩) (l'.length + 1) cg)).setCell ⟨RB, 1, none⟩ (.int .i64 n)).cell? ⟨RB, 0, none⟩ = some (.slice (some ⟨g, o', none⟩) (l'.length + 1) cg) := by go_simp
          have e1 : ((w10.setCell ⟨RB, 0, none⟩ (.slice (some ⟨g, o', none⟩) (l'.length + 1) cg)).setCell ⟨RB, 1, none⟩ (.int .i64 n)).cell? ⟨RB, 1, none⟩ = some (.int .i64 n) := by go_simp
          have hpl : pageL ⟨l.map SnM.p, n⟩ c LL kk t = ([] : List ByteArray) := by unfold pageL; rw [if_pos HOK.out, HSO.out]; exact HN'.out.2.trans (by simp)
          have hpb : pageB ⟨l.map SnM.p, n⟩ c LL kk t = (-1) := by unfold pageB; rw [if_pos HOK.out, HSO.out]; exact HN'.out.1
          refine bodyPost_ret (results_cell3 rfl _ _ (by rfl) (pool_load e0 e1)) rfl ⟨.agg #[.slice (some ⟨g, o', none⟩) (l'.length + 1) cg, .int .i64 n], v5, d5, ?_, ⟨some ⟨g, o', none⟩, cg, l' ++ [⟨x.c, x.it, some ⟨g5, 0, none⟩, d3, t⟩], ?_, hP, hFar, ?_⟩, ?_, hBB⟩
          · rw [hpl, hpb, HZL.out, show pageE wordB ⟨l.map SnM.p, n⟩ c LL kk t = 0 from HOK.out]; rfl
          · unfold pageS; rw [if_pos HOK.out, List.length_append]; rfl
          · unfold pageS; rw [if_pos HOK.out, List.map_append, HMAP.out, HSO.out]; rfl
          · rw [hpl]; exact OwnS.at' ((HO10.out.set (by omega)).set (by omega))
        · have hzk : ¬ LL = kf := hz
          refine takeH (i := 0) (some 66) (v := ?_) rfl rfl (by kernel_rfl) (by kernel_rfl) (by kernel_rfl) (fun _ _ _ h => h) (Or.inl ⟨by rfl, ?hyPs0⟩) hHeld ?restPs0
          case hyPs0 => (intro w hSw; (try dsimp only at hSw); go_simp; (try with_reducible rfl))
          try simp only [Act.put, List.setIfInBounds_toArray, List.set_cons_zero, List.set_cons_succ]
          refine takeH (i := 1) (some 67) (v := ?_) rfl rfl (by kernel_rfl) (by kernel_rfl) (by kernel_rfl) (fun _ _ _ h => h) (Or.inl ⟨by rfl, ?hyPs1⟩) hHeld ?restPs1
          case hyPs1 => (intro w hSw; (try dsimp only at hSw); go_simp; (try with_reducible rfl))
          try simp only [Act.put, List.setIfInBounds_toArray, List.set_cons_zero, List.set_cons_succ]
          refine takeH (i := 4) (some 70) (v := ?_) rfl rfl (by kernel_rfl) (by kernel_rfl) (by kernel_rfl) (fun _ _ _ h => h) (Or.inl ⟨by rfl, ?hyPs4⟩) hHeld ?restPs4
          case hyPs4 => (intro w hSw; (try dsimp only at hSw); go_simp; (try with_reducible rfl))
          try simp only [Act.put, List.setIfInBounds_toArray, List.set_cons_zero, List.set_cons_succ]
          refine takeH (i := 5) (some 71) (v := ?_) rfl rfl (by kernel_rfl) (by kernel_rfl) (by kernel_rfl) (fun _ _ _ h => h) (Or.inl ⟨by rfl, ?hyPs5⟩) hHeld ?restPs5
          case hyPs5 => (intro w hSw; (try dsimp only at hSw); go_simp; (try with_reducible rfl))
          try simp only [Act.put, List.setIfInBounds_toArray, List.set_cons_zero, List.set_cons_succ]
          refine takeH (i := 6) (some 72) (v := ?_) rfl rfl (by kernel_rfl) (by kernel_rfl) (by kernel_rfl) (fun _ _ _ h => h) (Or.inl ⟨by rfl, ?hyPs6⟩) hHeld ?restPs6
          case hyPs6 => (intro w hSw; (try dsimp only at hSw); go_simp; (try with_reducible rfl))
          try simp only [Act.put, List.setIfInBounds_toArray, List.set_cons_zero, List.set_cons_succ]
          refine takeH (i := 8) (some 74) (v := ?_) rfl rfl (by kernel_rfl) (by kernel_rfl) (by kernel_rfl) (fun _ _ _ h => h) (Or.inl ⟨by rfl, ?hyPs8⟩) hHeld ?restPs8
          case hyPs8 => (intro w hSw; (try dsimp only at hSw); go_simp; (try with_reducible rfl))
          try simp only [Act.put, List.setIfInBounds_toArray, List.set_cons_zero, List.set_cons_succ]
          refine takeH (i := 9) (some 75) (v := ?_) rfl rfl (by kernel_rfl) (by kernel_rfl) (by kernel_rfl) (fun _ _ _ h => h) (Or.inl ⟨by rfl, ?hyPs9⟩) hHeld ?restPs9
          case hyPs9 => (intro w hSw; (try dsimp only at hSw); go_simp; (try with_reducible rfl))
          try simp only [Act.put, List.setIfInBounds_toArray, List.set_cons_zero, List.set_cons_succ]
          refine takeH (i := 10) (some 76) (v := ?_) rfl rfl (by kernel_rfl) (by kernel_rfl) (by kernel_rfl) (fun _ _ _ h => h) (Or.inl ⟨by rfl, ?hyPs10⟩) hHeld ?restPs10
          case hyPs10 => (intro w hSw; (try dsimp only at hSw); go_simp; (try with_reducible rfl))
          try simp only [Act.put, List.setIfInBounds_toArray, List.set_cons_zero, List.set_cons_succ]
          refine takeH (i := 11) (some 77) (v := ?_) rfl rfl (by kernel_rfl) (by kernel_rfl) (by kernel_rfl) (fun _ _ _ h => h) (Or.inl ⟨by rfl, ?hyPs11⟩) hHeld ?restPs11
          case hyPs11 => (intro w hSw; (try dsimp only at hSw); go_simp; (try with_reducible rfl))
          try simp only [Act.put, List.setIfInBounds_toArray, List.set_cons_zero, List.set_cons_succ]
          refine takeH (i := 12) (some 78) (v := ?_) rfl rfl (by kernel_rfl) (by kernel_rfl) (by kernel_rfl) (fun _ _ _ h => h) (Or.inl ⟨by rfl, ?hyPs12⟩) hHeld ?restPs12
          case hyPs12 => (intro w hSw; (try dsimp only at hSw); go_simp; (try with_reducible rfl))
          try simp only [Act.put, List.setIfInBounds_toArray, List.set_cons_zero, List.set_cons_succ]
          refine takeH (i := 15) (some 81) (v := ?_) rfl rfl (by kernel_rfl) (by kernel_rfl) (by kernel_rfl) (fun _ _ _ h => h) (Or.inl ⟨by rfl, ?hyPs15⟩) hHeld ?restPs15
          case hyPs15 => (intro w hSw; (try dsimp only at hSw); go_simp; (try with_reducible rfl))
          try simp only [Act.put, List.setIfInBounds_toArray, List.set_cons_zero, List.set_cons_succ]
          refine takeH (i := 13) (some 79) (v := ?_) rfl rfl (by kernel_rfl) (by kernel_rfl) (by kernel_rfl) (fun _ _ _ h => h) (Or.inl ⟨by rfl, ?hyPs13⟩) hHeld ?restPs13
          case hyPs13 => (intro w hSw; (try dsimp only at hSw); go_simp; (try with_reducible rfl))
          try simp only [Act.put, List.setIfInBounds_toArray, List.set_cons_zero, List.set_cons_succ]
          have hzl : ((x.it.drop kf).take (LL - kf)).length = LL - kf := by rw [List.length_take, List.length_drop, HLL.out]; omega
          have HCL := Lib.hid (fun W (h : StrsAt W.heap.size W (some ⟨g5, kf, none⟩) ((x.it.drop kf).take (LL - kf))) => show Calls Tryd.prog 31 #[.slice (some ⟨g5, kf, none⟩) (LL - kf) (LL - kf)] W (fun y5 w' => ∃ v d, y5 = .returned (.slice v (LL - kf) d) ∧ OwnS W.heap.size w' (.slice v (LL - kf) d) ((x.it.drop kf).take (LL - kf)) ∧ Below W.heap.size W w') from by have := clonS_r (some ⟨g5, kf, none⟩) (LL - kf) ((x.it.drop kf).take (LL - kf)) (by rw [hzl]; omega) W h; rw [hzl] at this; exact this)
          have HZL := Lib.hid hzl
          clear hzl
          refine wpAnyH_ready (rs := [2]) (by kernel_rfl) (by simp) ?_
          refine AllReadyH.cons rfl (fun K2 hK => ?_) AllReadyH.nil
          go_simp
          refine hK.out _ _ ?_ (fun hHeld => ?_)
          · exact MK.out _ (fun b o h => (below_alloc D _).cell (p := ⟨b, o, none⟩) (by show b < D.heap.size; omega))
          clear hK K2
          try simp only [Act.put, List.setIfInBounds_toArray, List.set_cons_zero, List.set_cons_succ]
          refine wpAnyH_ready (rs := [3]) (by kernel_rfl) (by simp) ?_
          refine AllReadyH.cons rfl (fun K2 hK => ?_) AllReadyH.nil
          rw [if_pos (by rfl)]
          refine wp_append_in _ (.tmp 66) (.tmp 68) 22 rfl Y.heap.size 42 i0 (.agg #[.int .i64 0, .slice none 0 0, .int .i64 0]) 3 40 Tryd.underlying22 hi0 hz0 hz1 hz2 rfl (by decide) _ l'.length (snmCs l') rfl (slin_alloc SLD.out _) ⟨D.heap.size, 0, none⟩ 1 1 [.int .i64 x.c, .slice (some ⟨g5, 0, none⟩) (LL) (d3), .int .i64 t] rfl rfl (World.news_of_block (cs := #[.int .i64 x.c, .slice (some ⟨g5, 0, none⟩) (LL) (d3), .int .i64 t]) (t := 42) (fr := (0, 0)) (by first | exact World.alloc_heap_new D _ | exact heap_alloc_new D _)) (by simp [Value.oneCell']) (by decide) (by unfold maxLen; omega) (by omega) (by rw [World.size_alloc]; omega) ?_
          intro g o' cg w9 hgz hg9 hgc hgr
          have MKD2 := Lib.hid (show OwnS Y.heap.size D (.slice (some ⟨g5, 0, none⟩) x.it.length (d3)) x.it from by rw [HLL.out]; exact MKD.out)
          have HEND := Lib.hid (fun v0 v1 w10 hb9 => page_end (mk := ⟨x.c, x.it, some ⟨g5, 0, none⟩, d3, t⟩) (v0 := v0) (v1 := v1) (w10 := w10) HRW.out zRB HBD.out SLD.out ITD.out MKD2.out hgz hg9 (by rw [show ((⟨x.c, x.it, some ⟨g5, 0, none⟩, d3, t⟩ : SnM)).it.length = LL from HLL.out]; exact hgc) hgr hb9)
          have HO9 := Lib.hid (own_grown (mk := ⟨x.c, x.it, some ⟨g5, 0, none⟩, d3, t⟩) SLD.out MKD2.out hgr)
          have hne : ∀ b, b < Y.heap.size → some b ≠ Value.ownBlock (.slice ao l'.length co) := fun b hb e => by have := (slin_lt SLD.out e.symm).1; omega
          have rc := fun (b : Nat) (hb : b < Y.heap.size) => (hgr.block b (by rw [World.size_alloc]; omega) (hne b hb)).trans (Below.heap_alloc D _ b (by omega))
          obtain ⟨r0, r1, fr0, fr1⟩ := HRD.out
          replace fr0 := (World.frozen?_of_block (w := D) (a := ⟨RB, 0, none⟩) (rc RB zRB)).trans fr0
          replace fr1 := (World.frozen?_of_block (w := D) (a := ⟨RB, 1, none⟩) (rc RB zRB)).trans fr1
          replace r0 := (World.cell?_of_block (w := D) (a := ⟨RB, 0, none⟩) (rc RB zRB)).trans r0
          replace r1 := (World.cell?_of_block (w := D) (a := ⟨RB, 1, none⟩) (rc RB zRB)).trans r1
          have HSRC := Lib.hid (show StrsAt w9.heap.size w9 (some ⟨g5, kf, none⟩) ((x.it.drop kf).take (LL - kf)) from (by have := (OwnS.at' HO9.out).sub kf (LL - kf); rw [Nat.zero_add] at this; exact this))
          have z9 : Y.heap.size ≤ w9.heap.size := by omega
          refine hK.out _ _ ?_ (fun hHeld => ?_)
          · exact MK.out _ (fun b o h => World.cell?_of_block (w := D) (a := ⟨b, o, none⟩) (rc b h))
          clear hK K2 hgz hg9 hgc hgr hne rc HRD
          try simp only [Act.put, List.setIfInBounds_toArray, List.set_cons_zero, List.set_cons_succ]
          refine takeH (i := 7) (some 73) (v := ?_) rfl rfl (by kernel_rfl) (by kernel_rfl) (by kernel_rfl) (fun _ _ _ h => h) (Or.inl ⟨by rfl, ?hyPs7⟩) hHeld ?restPs7
          case hyPs7 => (intro w hSw; (try dsimp only at hSw); go_simp; (try with_reducible rfl))
          try simp only [Act.put, List.setIfInBounds_toArray, List.set_cons_zero, List.set_cons_succ]
          refine wpAnyH_ready (rs := [14]) (by kernel_rfl) (by simp) ?_
          refine AllReadyH.cons rfl (fun K2 hK => ?_) AllReadyH.nil
          go_simp
          (refine (HCL.out _ HSRC.out).mono ?_); rintro e w10 ⟨v5, d5, rfl, ho, pB⟩; replace fr0 := (pB.frozen (blt r0)).trans fr0; replace fr1 := (pB.frozen (blt r1)).trans fr1; replace r0 := (pB.cell (blt r0)).trans r0; replace r1 := (pB.cell (blt r1)).trans r1; have hh := hHeld; have HO10 := Lib.hid ho; have HB10 := Lib.hid pB; clear ho pB
          refine hK.out _ _ ?_ (fun hHeld => ?_)
          · exact ⟨(HB10.out.cell (blt hh.1)).trans hh.1, (HB10.out.cell (blt hh.2.1)).trans hh.2.1, (HB10.out.cell (blt hh.2.2.1)).trans hh.2.2.1, (HB10.out.cell (blt hh.2.2.2)).trans hh.2.2.2⟩
          clear hK K2
          try simp only [Act.put, List.setIfInBounds_toArray, List.set_cons_zero, List.set_cons_succ]
          clear hh
          refine wpAnyH_ready (rs := [16]) (by kernel_rfl) (by simp) ?_
          refine AllReadyH.cons rfl (fun K2 hK => ?_) AllReadyH.nil
          go_simp
          refine hK.out _ _ ?_ (fun hHeld => ?_)
          · (have hh := hHeld; refine ⟨?_, ?_, ?_, ?_⟩ <;> (rw [set_other _ _ (by omega), set_other _ _ (by omega)]); exact hh.1; exact hh.2.1; exact hh.2.2.1; exact hh.2.2.2)
          clear hK K2
          try simp only [Act.put, List.setIfInBounds_toArray, List.set_cons_zero, List.set_cons_succ]
          refine takeH (i := 17) (some 11) (v := ?_) rfl rfl (by kernel_rfl) (by kernel_rfl) (by kernel_rfl) (fun _ _ _ h => h) (Or.inl ⟨by rfl, ?hyPs17⟩) hHeld ?restPs17
          case hyPs17 => (intro w hSw; (try dsimp only at hSw); go_simp; (try with_reducible rfl))
          try simp only [Act.put, List.setIfInBounds_toArray, List.set_cons_zero, List.set_cons_succ]
          refine takeH (i := 18) (some 12) (v := ?_) rfl rfl (by kernel_rfl) (by kernel_rfl) (by kernel_rfl) (fun _ _ _ h => h) (Or.inl ⟨by rfl, ?hyPs18⟩) hHeld ?restPs18
          case hyPs18 => (intro w hSw; (try dsimp only at hSw); go_simp; (try with_reducible rfl))
          try simp only [Act.put, List.setIfInBounds_toArray, List.set_cons_zero, List.set_cons_succ]
          refine takeH (i := 19) (some 13) (v := ?_) rfl rfl (by kernel_rfl) (by kernel_rfl) (by kernel_rfl) (fun _ _ _ h => h) (Or.inl ⟨by rfl, ?hyPs19⟩) hHeld ?restPs19
          case hyPs19 => (intro w hSw; (try dsimp only at hSw); go_simp; (try with_reducible rfl))
          try simp only [Act.put, List.setIfInBounds_toArray, List.set_cons_zero, List.set_cons_succ]
          refine wpAnyH_done (by kernel_rfl) ?_ _
          go_wp2
          obtain ⟨hP, hFar, hBB⟩ := HEND.out (.slice (some ⟨g, o', none⟩) (l'.length + 1) cg) (.int .i64 n) w10 HB10.out
          have e0 : ((w10.setCell ⟨RB, 0, none⟩ (.slice (some ⟨g, o', none⟩) (l'.length + 1) cg)).setCell ⟨RB, 1, none⟩ (.int .i64 n)).cell? ⟨RB, 0, none⟩ = some (.slice (some ⟨g, o', none⟩) (l'.length + 1) cg) := by go_simp
          have e1 : ((w10.setCell ⟨RB, 0, none⟩ (.slice (some ⟨g, o', none⟩) (l'.length + 1) cg)).setCell ⟨RB, 1, none⟩ (.int .i64 n)).cell? ⟨RB, 1, none⟩ = some (.int .i64 n) := by go_simp
          have hpl : pageL ⟨l.map SnM.p, n⟩ c kf kk t = (x.it.drop kf).take (LL - kf) := by unfold pageL; rw [if_pos HOK.out, HSO.out]; exact HN'.out.2
          have hpb : pageB ⟨l.map SnM.p, n⟩ c kf kk t = (-1) := by unfold pageB; rw [if_pos HOK.out, HSO.out]; exact HN'.out.1
          refine bodyPost_ret (results_cell3 rfl _ _ (by rfl) (pool_load e0 e1)) rfl ⟨.agg #[.slice (some ⟨g, o', none⟩) (l'.length + 1) cg, .int .i64 n], v5, d5, ?_, ⟨some ⟨g, o', none⟩, cg, l' ++ [⟨x.c, x.it, some ⟨g5, 0, none⟩, d3, t⟩], ?_, hP, hFar, ?_⟩, ?_, hBB⟩
          · rw [hpl, hpb, HZL.out, show pageE wordB ⟨l.map SnM.p, n⟩ c kf kk t = 0 from HOK.out]; rfl
          · unfold pageS; rw [if_pos HOK.out, List.length_append]; rfl
          · unfold pageS; rw [if_pos HOK.out, List.map_append, HMAP.out, HSO.out]; rfl
          · rw [hpl]; exact OwnS.at' ((HO10.out.set (by omega)).set (by omega))
    · have hle' : ¬ (e : Int) ≥ (x.it.length : Int) := by omega
      have HN' := Lib.hid (show pageN x.p (kf : Int) (kk : Int) = (e : Int) ∧ pageI x.p (kf : Int) (kk : Int) = (x.it.drop kf).take (e - kf) from page_part (show kf + kk < x.it.length by have := HEE.out; omega) HEE.out)
      have hE : kf ≤ e := by omega
      have hE2 : e ≤ x.it.length := by omega
      go_wp2_with fail
      have hQS : QB ≠ SB := by omega
      have hRS : RB ≠ SB := by omega
      have t0 : ((((w7.setCell ⟨SB, 0, none⟩ (.int .i64 x.c)).setCell ⟨SB, 1, none⟩ (.slice v3 x.it.length d3)).setCell ⟨SB, 2, none⟩ (.int .i64 x.u)).setCell ⟨SB, 2, none⟩ (.int .i64 t)).cell? ⟨SB, 0, none⟩ = some (.int .i64 x.c) := by go_simp
      have t1 : ((((w7.setCell ⟨SB, 0, none⟩ (.int .i64 x.c)).setCell ⟨SB, 1, none⟩ (.slice v3 x.it.length d3)).setCell ⟨SB, 2, none⟩ (.int .i64 x.u)).setCell ⟨SB, 2, none⟩ (.int .i64 t)).cell? ⟨SB, 1, none⟩ = some (.slice v3 x.it.length d3) := by go_simp
      have t2 : ((((w7.setCell ⟨SB, 0, none⟩ (.int .i64 x.c)).setCell ⟨SB, 1, none⟩ (.slice v3 x.it.length d3)).setCell ⟨SB, 2, none⟩ (.int .i64 x.u)).setCell ⟨SB, 2, none⟩ (.int .i64 t)).cell? ⟨SB, 2, none⟩ = some (.int .i64 t) := by
        have i2 : (((w7.setCell ⟨SB, 0, none⟩ (.int .i64 x.c)).setCell ⟨SB, 1, none⟩ (.slice v3 x.it.length d3)).setCell ⟨SB, 2, none⟩ (.int .i64 x.u)).cell? ⟨SB, 2, none⟩ = some (.int .i64 x.u) := by go_simp
        clear t0 t1
        generalize (((w7.setCell ⟨SB, 0, none⟩ (.int .i64 x.c)).setCell ⟨SB, 1, none⟩ (.slice v3 x.it.length d3)).setCell ⟨SB, 2, none⟩ (.int .i64 x.u)) = X at *
        go_simp
      have tq : ((((w7.setCell ⟨SB, 0, none⟩ (.int .i64 x.c)).setCell ⟨SB, 1, none⟩ (.slice v3 x.it.length d3)).setCell ⟨SB, 2, none⟩ (.int .i64 x.u)).setCell ⟨SB, 2, none⟩ (.int .i64 t)).cell? ⟨QB, 1, none⟩ = some (.int .i64 n) := (set_other _ _ hQS).trans ((set_other _ _ hQS).trans ((set_other _ _ hQS).trans ((set_other _ _ hQS).trans q1)))
      have hx2 : ∀ b, b ≠ SB → ((((w7.setCell ⟨SB, 0, none⟩ (.int .i64 x.c)).setCell ⟨SB, 1, none⟩ (.slice v3 x.it.length d3)).setCell ⟨SB, 2, none⟩ (.int .i64 x.u)).setCell ⟨SB, 2, none⟩ (.int .i64 t)).heap[b]? = w7.heap[b]? := fun b hb => (Below.heap_setCell _ ⟨SB, 2, none⟩ _ b hb).trans ((Below.heap_setCell _ ⟨SB, 2, none⟩ _ b hb).trans ((Below.heap_setCell _ ⟨SB, 1, none⟩ _ b hb).trans (Below.heap_setCell _ ⟨SB, 0, none⟩ _ b hb)))
      have tr0 : ((((w7.setCell ⟨SB, 0, none⟩ (.int .i64 x.c)).setCell ⟨SB, 1, none⟩ (.slice v3 x.it.length d3)).setCell ⟨SB, 2, none⟩ (.int .i64 x.u)).setCell ⟨SB, 2, none⟩ (.int .i64 t)).cell? ⟨RB, 0, none⟩ = some (.slice none 0 0) := (World.cell?_of_block (w := w7) (a := ⟨RB, 0, none⟩) (hx2 RB hRS)).trans r0
      have tr1 : ((((w7.setCell ⟨SB, 0, none⟩ (.int .i64 x.c)).setCell ⟨SB, 1, none⟩ (.slice v3 x.it.length d3)).setCell ⟨SB, 2, none⟩ (.int .i64 x.u)).setCell ⟨SB, 2, none⟩ (.int .i64 t)).cell? ⟨RB, 1, none⟩ = some (.int .i64 0) := (World.cell?_of_block (w := w7) (a := ⟨RB, 1, none⟩) (hx2 RB hRS)).trans r1
      have tf0 : ((((w7.setCell ⟨SB, 0, none⟩ (.int .i64 x.c)).setCell ⟨SB, 1, none⟩ (.slice v3 x.it.length d3)).setCell ⟨SB, 2, none⟩ (.int .i64 x.u)).setCell ⟨SB, 2, none⟩ (.int .i64 t)).frozen? ⟨RB, 0, none⟩ = false := (World.frozen?_of_block (w := w7) (a := ⟨RB, 0, none⟩) (hx2 RB hRS)).trans fr0
      have tf1 : ((((w7.setCell ⟨SB, 0, none⟩ (.int .i64 x.c)).setCell ⟨SB, 1, none⟩ (.slice v3 x.it.length d3)).setCell ⟨SB, 2, none⟩ (.int .i64 x.u)).setCell ⟨SB, 2, none⟩ (.int .i64 t)).frozen? ⟨RB, 1, none⟩ = false := (World.frozen?_of_block (w := w7) (a := ⟨RB, 1, none⟩) (hx2 RB hRS)).trans fr1
      have SLT := Lib.hid (slin_but HSL7.out (fun b hb => hx2 b (by have := (HVN.out b hb).1; omega)))
      have ITT := Lib.hid (fun y hy => own_but (HI7.out y hy) (fun b hb => hx2 b (by omega)))
      have MKO := Lib.hid (own_but (OwnS.mono HO7.out (base' := Y.heap.size) zY6) (fun b hb => hx2 b (by omega)))
      have hwSB : w.heap.size ≤ SB := by omega
      have HBT := Lib.hid (show Below w.heap.size w ((((w7.setCell ⟨SB, 0, none⟩ (.int .i64 x.c)).setCell ⟨SB, 1, none⟩ (.slice v3 x.it.length d3)).setCell ⟨SB, 2, none⟩ (.int .i64 x.u)).setCell ⟨SB, 2, none⟩ (.int .i64 t)) from (((HB7.out.setCell (p := ⟨SB, 0, none⟩) hwSB _).setCell (p := ⟨SB, 1, none⟩) hwSB _).setCell (p := ⟨SB, 2, none⟩) hwSB _).setCell (p := ⟨SB, 2, none⟩) hwSB _)
      have hTs : ((((w7.setCell ⟨SB, 0, none⟩ (.int .i64 x.c)).setCell ⟨SB, 1, none⟩ (.slice v3 x.it.length d3)).setCell ⟨SB, 2, none⟩ (.int .i64 x.u)).setCell ⟨SB, 2, none⟩ (.int .i64 t)).heap.size = w7.heap.size := by simp
      have HRT := Lib.hid (And.intro tr0 (And.intro tr1 (And.intro tf0 tf1)))
      clear tr0 tr1 tf0 tf1 r0 r1 fr0 fr1 g0 g1 g2 s0 s1 s2 q1 nb HSL7 HI7 HO7 HB7 hx2
      generalize ((((w7.setCell ⟨SB, 0, none⟩ (.int .i64 x.c)).setCell ⟨SB, 1, none⟩ (.slice v3 x.it.length d3)).setCell ⟨SB, 2, none⟩ (.int .i64 x.u)).setCell ⟨SB, 2, none⟩ (.int .i64 t)) = T at *
      have zT : Y.heap.size ≤ T.heap.size := by omega
      clear hTs z67 zY6
      have zTn : Y.heap.size ≤ T.drew.heap.size := zT
      have SLD := Lib.hid (SLT.out.kept (below_drew (Below.refl _ T)))
      have ITD := Lib.hid (fun y hy => (OwnS.on (ITT.out y hy) (below_drew (Below.refl _ T))))
      have MKD := Lib.hid (OwnS.on MKO.out (below_drew (Below.refl _ T)))
      have HRD := Lib.hid (show T.drew.cell? ⟨RB, 0, none⟩ = _ ∧ T.drew.cell? ⟨RB, 1, none⟩ = _ ∧ T.drew.frozen? ⟨RB, 0, none⟩ = _ ∧ T.drew.frozen? ⟨RB, 1, none⟩ = _ from HRT.out)
      have HBD := Lib.hid (below_drew HBT.out)
      have d0 : T.drew.cell? ⟨SB, 0, none⟩ = _ := t0
      have d1 : T.drew.cell? ⟨SB, 1, none⟩ = _ := t1
      have d2 : T.drew.cell? ⟨SB, 2, none⟩ = _ := t2
      have dq : T.drew.cell? ⟨QB, 1, none⟩ = _ := tq
      refine wp_region_held_drew (S := (fun w' => w'.cell? ⟨QB, 1, none⟩ = some (.int .i64 n) ∧ w'.cell? ⟨SB, 0, none⟩ = some (.int .i64 x.c) ∧ w'.cell? ⟨SB, 1, none⟩ = some (.slice v3 x.it.length d3) ∧ w'.cell? ⟨SB, 2, none⟩ = some (.int .i64 t))) (by kernel_rfl) ?_ (fun hHeld => ?_)
      · exact ⟨dq, d0, d1, d2⟩
      clear SLT ITT MKO HRT HBT t0 t1 t2 tq zT
      generalize T.drew = D at *
      have MK := Lib.hid (show ∀ w' : World, (∀ b o, b < Y.heap.size → w'.cell? ⟨b, o, none⟩ = D.cell? ⟨b, o, none⟩) → w'.cell? ⟨QB, 1, none⟩ = some (.int .i64 n) ∧ w'.cell? ⟨SB, 0, none⟩ = some (.int .i64 x.c) ∧ w'.cell? ⟨SB, 1, none⟩ = some (.slice v3 x.it.length d3) ∧ w'.cell? ⟨SB, 2, none⟩ = some (.int .i64 t) from fun (w' : World) h => ⟨(h _ _ zQB).trans dq, (h _ _ zSB).trans d0, (h _ _ zSB).trans d1, (h _ _ zSB).trans d2⟩)
      clear d0 d1 d2 dq
      have hMK := MKD.out.2
      generalize hLL : x.it.length = LL at *
      have HLL := Lib.hid hLL
      clear hLL
      rcases hMK with ⟨e1, h0⟩ | ⟨g5, c5, cur5, e1, hg5, hcur, hcap, _⟩
      · exact absurd h0 (by omega)
      · simp only [Value.slice.injEq] at e1
        obtain ⟨rfl, _, rfl⟩ := e1
        have hed : e ≤ d3 := by omega
        have hzk : ¬ e = kf := by have := HEE.out; omega
        refine takeH (i := 0) (some 66) (v := ?_) rfl rfl (by kernel_rfl) (by kernel_rfl) (by kernel_rfl) (fun _ _ _ h => h) (Or.inl ⟨by rfl, ?hyQs0⟩) hHeld ?restQs0
        case hyQs0 => (intro w hSw; (try dsimp only at hSw); go_simp; (try with_reducible rfl))
        try simp only [Act.put, List.setIfInBounds_toArray, List.set_cons_zero, List.set_cons_succ]
        refine takeH (i := 1) (some 67) (v := ?_) rfl rfl (by kernel_rfl) (by kernel_rfl) (by kernel_rfl) (fun _ _ _ h => h) (Or.inl ⟨by rfl, ?hyQs1⟩) hHeld ?restQs1
        case hyQs1 => (intro w hSw; (try dsimp only at hSw); go_simp; (try with_reducible rfl))
        try simp only [Act.put, List.setIfInBounds_toArray, List.set_cons_zero, List.set_cons_succ]
        refine takeH (i := 4) (some 70) (v := ?_) rfl rfl (by kernel_rfl) (by kernel_rfl) (by kernel_rfl) (fun _ _ _ h => h) (Or.inl ⟨by rfl, ?hyQs4⟩) hHeld ?restQs4
        case hyQs4 => (intro w hSw; (try dsimp only at hSw); go_simp; (try with_reducible rfl))
        try simp only [Act.put, List.setIfInBounds_toArray, List.set_cons_zero, List.set_cons_succ]
        refine takeH (i := 5) (some 71) (v := ?_) rfl rfl (by kernel_rfl) (by kernel_rfl) (by kernel_rfl) (fun _ _ _ h => h) (Or.inl ⟨by rfl, ?hyQs5⟩) hHeld ?restQs5
        case hyQs5 => (intro w hSw; (try dsimp only at hSw); go_simp; (try with_reducible rfl))
        try simp only [Act.put, List.setIfInBounds_toArray, List.set_cons_zero, List.set_cons_succ]
        refine takeH (i := 6) (some 72) (v := ?_) rfl rfl (by kernel_rfl) (by kernel_rfl) (by kernel_rfl) (fun _ _ _ h => h) (Or.inl ⟨by rfl, ?hyQs6⟩) hHeld ?restQs6
        case hyQs6 => (intro w hSw; (try dsimp only at hSw); go_simp; (try with_reducible rfl))
        try simp only [Act.put, List.setIfInBounds_toArray, List.set_cons_zero, List.set_cons_succ]
        refine takeH (i := 8) (some 74) (v := ?_) rfl rfl (by kernel_rfl) (by kernel_rfl) (by kernel_rfl) (fun _ _ _ h => h) (Or.inl ⟨by rfl, ?hyQs8⟩) hHeld ?restQs8
        case hyQs8 => (intro w hSw; (try dsimp only at hSw); go_simp; (try with_reducible rfl))
        try simp only [Act.put, List.setIfInBounds_toArray, List.set_cons_zero, List.set_cons_succ]
        refine takeH (i := 9) (some 75) (v := ?_) rfl rfl (by kernel_rfl) (by kernel_rfl) (by kernel_rfl) (fun _ _ _ h => h) (Or.inl ⟨by rfl, ?hyQs9⟩) hHeld ?restQs9
        case hyQs9 => (intro w hSw; (try dsimp only at hSw); go_simp; (try with_reducible rfl))
        try simp only [Act.put, List.setIfInBounds_toArray, List.set_cons_zero, List.set_cons_succ]
        refine takeH (i := 10) (some 76) (v := ?_) rfl rfl (by kernel_rfl) (by kernel_rfl) (by kernel_rfl) (fun _ _ _ h => h) (Or.inl ⟨by rfl, ?hyQs10⟩) hHeld ?restQs10
        case hyQs10 => (intro w hSw; (try dsimp only at hSw); go_simp; (try with_reducible rfl))
        try simp only [Act.put, List.setIfInBounds_toArray, List.set_cons_zero, List.set_cons_succ]
        refine takeH (i := 11) (some 77) (v := ?_) rfl rfl (by kernel_rfl) (by kernel_rfl) (by kernel_rfl) (fun _ _ _ h => h) (Or.inl ⟨by rfl, ?hyQs11⟩) hHeld ?restQs11
        case hyQs11 => (intro w hSw; (try dsimp only at hSw); go_simp; (try with_reducible rfl))
        try simp only [Act.put, List.setIfInBounds_toArray, List.set_cons_zero, List.set_cons_succ]
        refine takeH (i := 12) (some 78) (v := ?_) rfl rfl (by kernel_rfl) (by kernel_rfl) (by kernel_rfl) (fun _ _ _ h => h) (Or.inl ⟨by rfl, ?hyQs12⟩) hHeld ?restQs12
        case hyQs12 => (intro w hSw; (try dsimp only at hSw); go_simp; (try with_reducible rfl))
        try simp only [Act.put, List.setIfInBounds_toArray, List.set_cons_zero, List.set_cons_succ]
        refine takeH (i := 15) (some 81) (v := ?_) rfl rfl (by kernel_rfl) (by kernel_rfl) (by kernel_rfl) (fun _ _ _ h => h) (Or.inl ⟨by rfl, ?hyQs15⟩) hHeld ?restQs15
        case hyQs15 => (intro w hSw; (try dsimp only at hSw); go_simp; (try with_reducible rfl))
        try simp only [Act.put, List.setIfInBounds_toArray, List.set_cons_zero, List.set_cons_succ]
        refine takeH (i := 13) (some 79) (v := ?_) rfl rfl (by kernel_rfl) (by kernel_rfl) (by kernel_rfl) (fun _ _ _ h => h) (Or.inl ⟨by rfl, ?hyQs13⟩) hHeld ?restQs13
        case hyQs13 => (intro w hSw; (try dsimp only at hSw); go_simp; (try with_reducible rfl))
        try simp only [Act.put, List.setIfInBounds_toArray, List.set_cons_zero, List.set_cons_succ]
        have hzl : ((x.it.drop kf).take (e - kf)).length = e - kf := by rw [List.length_take, List.length_drop, HLL.out]; omega
        have HCL := Lib.hid (fun W (h : StrsAt W.heap.size W (some ⟨g5, kf, none⟩) ((x.it.drop kf).take (e - kf))) => show Calls Tryd.prog 31 #[.slice (some ⟨g5, kf, none⟩) (e - kf) (e - kf)] W (fun y5 w' => ∃ v d, y5 = .returned (.slice v (e - kf) d) ∧ OwnS W.heap.size w' (.slice v (e - kf) d) ((x.it.drop kf).take (e - kf)) ∧ Below W.heap.size W w') from by have := clonS_r (some ⟨g5, kf, none⟩) (e - kf) ((x.it.drop kf).take (e - kf)) (by rw [hzl]; omega) W h; rw [hzl] at this; exact this)
        have HZL := Lib.hid hzl
        clear hzl
        refine wpAnyH_ready (rs := [2]) (by kernel_rfl) (by simp) ?_
        refine AllReadyH.cons rfl (fun K2 hK => ?_) AllReadyH.nil
        go_simp
        refine hK.out _ _ ?_ (fun hHeld => ?_)
        · exact MK.out _ (fun b o h => (below_alloc D _).cell (p := ⟨b, o, none⟩) (by show b < D.heap.size; omega))
        clear hK K2
        try simp only [Act.put, List.setIfInBounds_toArray, List.set_cons_zero, List.set_cons_succ]
        refine wpAnyH_ready (rs := [3]) (by kernel_rfl) (by simp) ?_
        refine AllReadyH.cons rfl (fun K2 hK => ?_) AllReadyH.nil
        rw [if_pos (by rfl)]
        refine wp_append_in _ (.tmp 66) (.tmp 68) 22 rfl Y.heap.size 42 i0 (.agg #[.int .i64 0, .slice none 0 0, .int .i64 0]) 3 40 Tryd.underlying22 hi0 hz0 hz1 hz2 rfl (by decide) _ l'.length (snmCs l') rfl (slin_alloc SLD.out _) ⟨D.heap.size, 0, none⟩ 1 1 [.int .i64 x.c, .slice (some ⟨g5, 0, none⟩) (LL) (d3), .int .i64 t] rfl rfl (World.news_of_block (cs := #[.int .i64 x.c, .slice (some ⟨g5, 0, none⟩) (LL) (d3), .int .i64 t]) (t := 42) (fr := (0, 0)) (by first | exact World.alloc_heap_new D _ | exact heap_alloc_new D _)) (by simp [Value.oneCell']) (by decide) (by unfold maxLen; omega) (by omega) (by rw [World.size_alloc]; omega) ?_
        intro g o' cg w9 hgz hg9 hgc hgr
        have MKD2 := Lib.hid (show OwnS Y.heap.size D (.slice (some ⟨g5, 0, none⟩) x.it.length (d3)) x.it from by rw [HLL.out]; exact MKD.out)
        have HEND := Lib.hid (fun v0 v1 w10 hb9 => page_end (mk := ⟨x.c, x.it, some ⟨g5, 0, none⟩, d3, t⟩) (v0 := v0) (v1 := v1) (w10 := w10) HRW.out zRB HBD.out SLD.out ITD.out MKD2.out hgz hg9 (by rw [show ((⟨x.c, x.it, some ⟨g5, 0, none⟩, d3, t⟩ : SnM)).it.length = LL from HLL.out]; exact hgc) hgr hb9)
        have HO9 := Lib.hid (own_grown (mk := ⟨x.c, x.it, some ⟨g5, 0, none⟩, d3, t⟩) SLD.out MKD2.out hgr)
        have hne : ∀ b, b < Y.heap.size → some b ≠ Value.ownBlock (.slice ao l'.length co) := fun b hb e => by have := (slin_lt SLD.out e.symm).1; omega
        have rc := fun (b : Nat) (hb : b < Y.heap.size) => (hgr.block b (by rw [World.size_alloc]; omega) (hne b hb)).trans (Below.heap_alloc D _ b (by omega))
        obtain ⟨r0, r1, fr0, fr1⟩ := HRD.out
        replace fr0 := (World.frozen?_of_block (w := D) (a := ⟨RB, 0, none⟩) (rc RB zRB)).trans fr0
        replace fr1 := (World.frozen?_of_block (w := D) (a := ⟨RB, 1, none⟩) (rc RB zRB)).trans fr1
        replace r0 := (World.cell?_of_block (w := D) (a := ⟨RB, 0, none⟩) (rc RB zRB)).trans r0
        replace r1 := (World.cell?_of_block (w := D) (a := ⟨RB, 1, none⟩) (rc RB zRB)).trans r1
        have HSRC := Lib.hid (show StrsAt w9.heap.size w9 (some ⟨g5, kf, none⟩) ((x.it.drop kf).take (e - kf)) from (by have := (OwnS.at' HO9.out).sub kf (e - kf); rw [Nat.zero_add] at this; exact this))
        have z9 : Y.heap.size ≤ w9.heap.size := by omega
        refine hK.out _ _ ?_ (fun hHeld => ?_)
        · exact MK.out _ (fun b o h => World.cell?_of_block (w := D) (a := ⟨b, o, none⟩) (rc b h))
        clear hK K2 hgz hg9 hgc hgr hne rc HRD
        try simp only [Act.put, List.setIfInBounds_toArray, List.set_cons_zero, List.set_cons_succ]
        refine takeH (i := 7) (some 73) (v := ?_) rfl rfl (by kernel_rfl) (by kernel_rfl) (by kernel_rfl) (fun _ _ _ h => h) (Or.inl ⟨by rfl, ?hyQs7⟩) hHeld ?restQs7
        case hyQs7 => (intro w hSw; (try dsimp only at hSw); go_simp; (try with_reducible rfl))
        try simp only [Act.put, List.setIfInBounds_toArray, List.set_cons_zero, List.set_cons_succ]
        refine wpAnyH_ready (rs := [14]) (by kernel_rfl) (by simp) ?_
        refine AllReadyH.cons rfl (fun K2 hK => ?_) AllReadyH.nil
        go_simp
        (refine (HCL.out _ HSRC.out).mono ?_); rintro e w10 ⟨v5, d5, rfl, ho, pB⟩; replace fr0 := (pB.frozen (blt r0)).trans fr0; replace fr1 := (pB.frozen (blt r1)).trans fr1; replace r0 := (pB.cell (blt r0)).trans r0; replace r1 := (pB.cell (blt r1)).trans r1; have hh := hHeld; have HO10 := Lib.hid ho; have HB10 := Lib.hid pB; clear ho pB
        refine hK.out _ _ ?_ (fun hHeld => ?_)
        · exact ⟨(HB10.out.cell (blt hh.1)).trans hh.1, (HB10.out.cell (blt hh.2.1)).trans hh.2.1, (HB10.out.cell (blt hh.2.2.1)).trans hh.2.2.1, (HB10.out.cell (blt hh.2.2.2)).trans hh.2.2.2⟩
        clear hK K2
        try simp only [Act.put, List.setIfInBounds_toArray, List.set_cons_zero, List.set_cons_succ]
        clear hh
        refine wpAnyH_ready (rs := [16]) (by kernel_rfl) (by simp) ?_
        refine AllReadyH.cons rfl (fun K2 hK => ?_) AllReadyH.nil
        go_simp
        refine hK.out _ _ ?_ (fun hHeld => ?_)
        · (have hh := hHeld; refine ⟨?_, ?_, ?_, ?_⟩ <;> (rw [set_other _ _ (by omega), set_other _ _ (by omega)]); exact hh.1; exact hh.2.1; exact hh.2.2.1; exact hh.2.2.2)
        clear hK K2
        try simp only [Act.put, List.setIfInBounds_toArray, List.set_cons_zero, List.set_cons_succ]
        refine takeH (i := 17) (some 11) (v := ?_) rfl rfl (by kernel_rfl) (by kernel_rfl) (by kernel_rfl) (fun _ _ _ h => h) (Or.inl ⟨by rfl, ?hyQs17⟩) hHeld ?restQs17
        case hyQs17 => (intro w hSw; (try dsimp only at hSw); go_simp; (try with_reducible rfl))
        try simp only [Act.put, List.setIfInBounds_toArray, List.set_cons_zero, List.set_cons_succ]
        refine takeH (i := 18) (some 12) (v := ?_) rfl rfl (by kernel_rfl) (by kernel_rfl) (by kernel_rfl) (fun _ _ _ h => h) (Or.inl ⟨by rfl, ?hyQs18⟩) hHeld ?restQs18
        case hyQs18 => (intro w hSw; (try dsimp only at hSw); go_simp; (try with_reducible rfl))
        try simp only [Act.put, List.setIfInBounds_toArray, List.set_cons_zero, List.set_cons_succ]
        refine takeH (i := 19) (some 13) (v := ?_) rfl rfl (by kernel_rfl) (by kernel_rfl) (by kernel_rfl) (fun _ _ _ h => h) (Or.inl ⟨by rfl, ?hyQs19⟩) hHeld ?restQs19
        case hyQs19 => (intro w hSw; (try dsimp only at hSw); go_simp; (try with_reducible rfl))
        try simp only [Act.put, List.setIfInBounds_toArray, List.set_cons_zero, List.set_cons_succ]
        refine wpAnyH_done (by kernel_rfl) ?_ _
        go_wp2
        obtain ⟨hP, hFar, hBB⟩ := HEND.out (.slice (some ⟨g, o', none⟩) (l'.length + 1) cg) (.int .i64 n) w10 HB10.out
        have e0 : ((w10.setCell ⟨RB, 0, none⟩ (.slice (some ⟨g, o', none⟩) (l'.length + 1) cg)).setCell ⟨RB, 1, none⟩ (.int .i64 n)).cell? ⟨RB, 0, none⟩ = some (.slice (some ⟨g, o', none⟩) (l'.length + 1) cg) := by go_simp
        have e1 : ((w10.setCell ⟨RB, 0, none⟩ (.slice (some ⟨g, o', none⟩) (l'.length + 1) cg)).setCell ⟨RB, 1, none⟩ (.int .i64 n)).cell? ⟨RB, 1, none⟩ = some (.int .i64 n) := by go_simp
        have hpl : pageL ⟨l.map SnM.p, n⟩ c kf kk t = (x.it.drop kf).take (e - kf) := by unfold pageL; rw [if_pos HOK.out, HSO.out]; exact HN'.out.2
        have hpb : pageB ⟨l.map SnM.p, n⟩ c kf kk t = (e : Int) := by unfold pageB; rw [if_pos HOK.out, HSO.out]; exact HN'.out.1
        refine bodyPost_ret (results_cell3 rfl _ _ (by rfl) (pool_load e0 e1)) rfl ⟨.agg #[.slice (some ⟨g, o', none⟩) (l'.length + 1) cg, .int .i64 n], v5, d5, ?_, ⟨some ⟨g, o', none⟩, cg, l' ++ [⟨x.c, x.it, some ⟨g5, 0, none⟩, d3, t⟩], ?_, hP, hFar, ?_⟩, ?_, hBB⟩
        · rw [hpl, hpb, HZL.out, show pageE wordB ⟨l.map SnM.p, n⟩ c kf kk t = 0 from HOK.out]; rfl
        · unfold pageS; rw [if_pos HOK.out, List.length_append]; rfl
        · unfold pageS; rw [if_pos HOK.out, List.map_append, HMAP.out, HSO.out]; rfl
        · rw [hpl]; exact OwnS.at' ((HO10.out.set (by omega)).set (by omega))
  · have hne := pageCh_ne _ _ _ _ _ h1
    rw [pageCh_n] at hne
    have HP := Lib.hid hne
    obtain ⟨r0, r1, fr0, fr1⟩ := HRY.out
    clear HTT h1 hne HRY HGY HST q0 q1 cb nb s0 s1 s2
    go_wp2_with fail
    refine (HNO.out _ _ (HE.out.onB HBY.out)).mono ?_
    rintro e w9 ⟨rfl, hb⟩
    replace fr0 := (hb.frozen (blt r0)).trans fr0
    replace fr1 := (hb.frozen (blt r1)).trans fr1
    replace r0 := (hb.cell (blt r0)).trans r0
    replace r1 := (hb.cell (blt r1)).trans r1
    have HB9 := Lib.hid (btr HBY.out hb)
    clear hb HNO
    go_wp2
    have e0 : ((w9.setCell ⟨RB, 0, none⟩ (.slice none 0 0)).setCell ⟨RB, 1, none⟩ (.int .i64 0)).cell? ⟨RB, 0, none⟩ = some (.slice none 0 0) := by go_simp
    have e1 : ((w9.setCell ⟨RB, 0, none⟩ (.slice none 0 0)).setCell ⟨RB, 1, none⟩ (.int .i64 0)).cell? ⟨RB, 1, none⟩ = some (.int .i64 0) := by go_simp
    have hl0 : pageL ⟨l.map SnM.p, n⟩ c fr k t = [] := by unfold pageL; rw [if_neg HP.out]
    refine bodyPost_ret (results_cell3 rfl _ _ (by rfl) (pool_load e0 e1)) rfl ⟨.agg #[.slice none 0 0, .int .i64 0], none, 0, ?_, ?_, ?_, (HB9.out.setCell (p := ⟨RB, 0, none⟩) HRW.out _).setCell (p := ⟨RB, 1, none⟩) HRW.out _⟩
    · rw [hl0]; unfold pageB; rw [if_neg HP.out]; rfl
    · unfold pageS; rw [if_neg HP.out]; exact pool_nil _ _
    · rw [hl0]; exact StrsAt.nil _ _ _
end Go.Proofs.YtgceecfjammnaaaDoor.L16
