/- Th, Ti -/
import Derived.Test.YtgceecfjammnaaaDoorZ11
import Derived.Test.YtgceecfjammnaaaDoorZ12
set_option linter.unusedVariables false
set_option linter.unusedSimpArgs false
/- SnapsTwice. -/
namespace Go.Proofs.YtgceecfjammnaaaDoor.L16
open Go.RowKit Go.Shelf
attribute [local go_sem] Oper.semAt_some
set_option linter.unusedSimpArgs false
set_option linter.unusedVariables false

theorem twice_facts {q : Pl} {c fr A B t : Int} {s : Snp} (h : PageOk wordB q c fr A t s) (a1 : 1 ≤ A) (a5 : A ≤ 5) (b1 : 1 ≤ B) (b5 : B ≤ 5) :
    ∃ r1 r2 : Pl, (pageE wordB q c fr A t = 0 ∧ pageS q c fr A t = r1 ∧ pageL q c fr A t = pageI s fr A ∧ pageB q c fr A t = pageN s fr A) ∧
      (pageE wordB r1 c fr A t = 0 ∧ pageS r1 c fr A t = r2 ∧ pageL r1 c fr A t = pageI s fr A ∧ pageB r1 c fr A t = pageN s fr A) ∧
      (pageE wordB r2 c fr (A + B) t = 0 ∧ pageL r2 c fr (A + B) t = pageI s fr (A + B) ∧ pageB r2 c fr (A + B) t = pageN s fr (A + B)) ∧
      (pageN s fr A ≠ -1 → pageE wordB r2 c (pageN s fr A) B t = 0 ∧ pageL r2 c (pageN s fr A) B t = pageI s (fr + A) B ∧ pageB r2 c (pageN s fr A) B t = pageN s (fr + A) B) := by
  obtain ⟨e1, s1, l1, n1⟩ := page_val h
  have h2 := page_again h (frm' := fr) (n' := A) a1 (by omega) h.f0 h.f1
  obtain ⟨e2, s2, l2, n2⟩ := page_val h2
  have h3 := page_again h2 (frm' := fr) (n' := A + B) (by omega) (by omega) h.f0 h.f1
  obtain ⟨e3, s3, l3, n3⟩ := page_val h3
  refine ⟨_, _, ⟨e1, s1, l1, n1⟩, ⟨e2, s2, l2, n2⟩, ⟨e3, l3, n3⟩, fun hn => ?_⟩
  obtain ⟨_, _, hv, hlt⟩ := page_two (b := B) h.f0 a1 b1 hn
  have h4 := page_again h2 (frm' := fr + A) (n' := B) b1 (by omega) (by have := h.f0; omega) (by show fr + A ≤ (s.it.length : Int); omega)
  obtain ⟨e4, _, l4, n4⟩ := page_val h4
  rw [hv]
  exact ⟨e4, l4, n4⟩
theorem strs_some {n : Nat} {W : World} {a : Option Addr} {zs : List ByteArray} (h : StrsAt n W a zs) (hz : 0 < zs.length) : ∃ b o, a = some ⟨b, o, none⟩ ∧ b < n ∧ ∀ j u, (strVs zs)[j]? = some u → W.cell? ((⟨b, o, none⟩ : Addr).add j) = some u := by
  obtain ⟨b, o, e, hb, _⟩ := h 0 hz
  refine ⟨b, o, e, hb, fun j u hu => ?_⟩
  have hj : j < zs.length := by have := (List.getElem?_eq_some_iff.1 hu).1; simpa using this
  obtain ⟨b', o', e', _, hc⟩ := h j hj
  rw [e] at e'
  simp at e'
  obtain ⟨rfl, rfl⟩ := e'
  rw [add_at, hc]
  simpa [strVs, hj] using hu
theorem strVs_cells (zs : List ByteArray) : ∀ u ∈ strVs zs, u.oneCell' = true := fun u hu => by
  obtain ⟨z, _, rfl⟩ := List.mem_map.1 hu
  rfl
theorem news_on {A B : World} {y o : Nat} {xs : List Value} (hb : Below A.heap.size A B) (hy : y < A.heap.size) (h : ∀ j u, xs[j]? = some u → A.cell? ((⟨y, o, none⟩ : Addr).add j) = some u) : ∀ j u, xs[j]? = some u → B.cell? ((⟨y, o, none⟩ : Addr).add j) = some u := fun j u hu => by
  have := h j u hu
  rw [add_at] at this ⊢
  exact (hb.cell (p := ⟨y, o + j, none⟩) hy).trans this
theorem own_app {base : Nat} {W : World} {av : Option Addr} {cv : Nat} {xs ys : List ByteArray} (h : W.ownsRow base 9 1 (.slice av (xs.length + ys.length) cv) (xs.length + ys.length) (strVs xs ++ strVs ys)) : StrsAt W.heap.size W av (xs ++ ys) := by
  have h2 : OwnS base W (.slice av (xs.length + ys.length) cv) (xs ++ ys) := by
    unfold OwnS
    rw [List.length_append, show strVs (xs ++ ys) = strVs xs ++ strVs ys from List.map_append]
    exact h
  exact h2.at'
theorem same_L (a b : Option Addr) (c d : Nat) (xs ys : List ByteArray) (L : Nat) (hL : ys.length = L) (hr : xs = ys) (w : World) (hx : xs.length ≤ 100000) (hy : ys.length ≤ 100000) (hA : StrsAt w.heap.size w a xs) (hB : StrsAt w.heap.size w b ys) :
    Calls Tryd.prog 22 #[.slice a xs.length c, .slice b L d] w fun e w' => e = .returned (.bool true) ∧ Below w.heap.size w w' := by
  subst hL
  exact same_v a b c d xs ys true (decide_eq_true hr) w hx hy hA hB
theorem pageI_len {s : Snp} {fr k : Int} (h0 : 0 ≤ fr) (h1 : 1 ≤ k) (h : fr + k ≤ s.it.length) : (pageI s fr k).length = k.toNat := by
  unfold pageI
  rw [List.length_take, List.length_drop]; omega
theorem pageI_pos {s : Snp} {fr k : Int} (h0 : 0 ≤ fr) (h1 : 1 ≤ k) (h : fr < s.it.length) : 0 < (pageI s fr k).length := by
  unfold pageI
  rw [List.length_take, List.length_drop]; omega
theorem pageI_le {s : Snp} {fr k : Int} : (pageI s fr k).length ≤ k.toNat := by
  unfold pageI
  rw [List.length_take]; omega
set_option maxRecDepth 100000 in
set_option maxHeartbeats 4000000 in
theorem Wtw_c (a : Option Addr) (cap : Nat) (n : Int) (l : List SnM) (hs : l.length ≤ 9223372036854775807) (hi : ∀ x ∈ l, x.it.length ≤ 9223372036854775807 ∧ ∀ s ∈ x.it, s.size ≤ 9223372036854775807) (hn : -9223372036854775808 ≤ n ∧ n ≤ 9223372036854775807) (c fr t a0 b0 : Int) (w : World) (hA : PlAt w.heap.size w a l) (hE : ErrT w) :
    Calls Tryd.prog 7 #[.agg #[.slice a l.length cap, .int .i64 n], .int .i64 c, .int .i64 fr, .int .i64 t, .int .i64 a0, .int .i64 b0] w fun y w' => y = .returned (.bool true) ∧ Below w.heap.size w w' := by
  have HE := Lib.hid hE
  have HA := Lib.hid hA
  have HCU := Lib.hid (fun W h => Cut_c a cap n l hs hi W h)
  have HQS := Lib.hid (small_cut ⟨l.map SnM.p, n⟩ hn)
  obtain ⟨q, hq⟩ : ∃ q, cutP ⟨l.map SnM.p, n⟩ = q := ⟨_, rfl⟩
  have HQN := Lib.hid (show n = q.n by rw [← hq]; rfl)
  have HQL := Lib.hid (show cutL (l.map SnM.p) = q.l by rw [← hq]; rfl)
  rw [hq] at HQS
  clear hE hA hi hs hn hq
  obtain ⟨am, ham⟩ : ∃ am : Int, (if a0 < 1 then (1 : Int) else a0) = am := ⟨_, rfl⟩
  obtain ⟨A, hA1⟩ : ∃ A : Int, (if 5 < am then (5 : Int) else am) = A := ⟨_, rfl⟩
  obtain ⟨bm, hbm⟩ : ∃ bm : Int, (if b0 < 1 then (1 : Int) else b0) = bm := ⟨_, rfl⟩
  obtain ⟨B, hB1⟩ : ∃ B : Int, (if 5 < bm then (5 : Int) else bm) = B := ⟨_, rfl⟩
  have hAB : (1 ≤ A ∧ A ≤ 5) ∧ (1 ≤ B ∧ B ≤ 5) := by constructor; (rw [← hA1, ← ham]; split <;> (try split) <;> omega); (rw [← hB1, ← hbm]; split <;> (try split) <;> omega)
  go_enter Tryd.func7, Tryd.ntmps7
  go_wp2_with fail
  have p0 : (w.alloc (.cells #[.slice a l.length cap, .int .i64 n] 24)).cell? ⟨w.heap.size, 0, none⟩ = some (.slice a l.length cap) := by go_simp
  have g0 : (w.alloc (.cells #[.slice a l.length cap, .int .i64 n] 24)).frozen? ⟨w.heap.size, 0, none⟩ = false := by go_simp
  have p1 : (w.alloc (.cells #[.slice a l.length cap, .int .i64 n] 24)).cell? ⟨w.heap.size, 1, none⟩ = some (.int .i64 n) := by go_simp
  have g1 : (w.alloc (.cells #[.slice a l.length cap, .int .i64 n] 24)).frozen? ⟨w.heap.size, 1, none⟩ = false := by go_simp
  have HB := Lib.hid (below_alloc w (.cells #[.slice a l.length cap, .int .i64 n] 24))
  refine (shown_c _ (HE.out.onB HB.out)).mono ?_
  rintro e w1 ⟨rfl, hb⟩
  replace g0 := (hb.frozen (blt p0)).trans g0
  replace g1 := (hb.frozen (blt p1)).trans g1
  replace p0 := (hb.cell (blt p0)).trans p0
  replace p1 := (hb.cell (blt p1)).trans p1
  have HB1 := Lib.hid (btr HB.out hb)
  have hz1 := blt p0
  clear hb
  go_wp2_with fail
  refine (HCU.out _ (HA.out.on HB1.out)).mono ?_
  rintro e w2 ⟨a2, c2, l2, rfl, hown, hmap, hb⟩
  replace g0 := (hb.frozen (blt p0)).trans g0
  replace g1 := (hb.frozen (blt p1)).trans g1
  replace p0 := (hb.cell (blt p0)).trans p0
  replace p1 := (hb.cell (blt p1)).trans p1
  have hp : PlAt ((w2.setCell ⟨w.heap.size, 0, none⟩ (.slice a2 l2.length c2)).setCell ⟨w.heap.size, 1, none⟩ (.int .i64 n)).heap.size ((w2.setCell ⟨w.heap.size, 0, none⟩ (.slice a2 l2.length c2)).setCell ⟨w.heap.size, 1, none⟩ (.int .i64 n)) a2 l2 := cut_store hz1 hown
  have hB2 : Below w.heap.size w ((w2.setCell ⟨w.heap.size, 0, none⟩ (.slice a2 l2.length c2)).setCell ⟨w.heap.size, 1, none⟩ (.int .i64 n)) := (((btr HB1.out hb).setCell (p := ⟨w.heap.size, 0, none⟩) (Nat.le_refl _) _).setCell (p := ⟨w.heap.size, 1, none⟩) (Nat.le_refl _) _)
  rw [HQL.out] at hmap
  clear hb hown hz1 HB HB1 HCU HA
  go_wp2_with fail
  have t0 : ((w2.setCell ⟨w.heap.size, 0, none⟩ (.slice a2 l2.length c2)).setCell ⟨w.heap.size, 1, none⟩ (.int .i64 n)).cell? ⟨w.heap.size, 0, none⟩ = some (.slice a2 l2.length c2) := by go_simp
  have t1 : ((w2.setCell ⟨w.heap.size, 0, none⟩ (.slice a2 l2.length c2)).setCell ⟨w.heap.size, 1, none⟩ (.int .i64 n)).cell? ⟨w.heap.size, 1, none⟩ = some (.int .i64 n) := by go_simp
  clear p0 p1 g0 g1
  generalize ((w2.setCell ⟨w.heap.size, 0, none⟩ (.slice a2 l2.length c2)).setCell ⟨w.heap.size, 1, none⟩ (.int .i64 n)) = T at *
  have hqn := HQN.out
  clear HQN
  subst hqn
  have HPQ := Lib.hid (show PoolIn q a2 l2 T from ⟨hp, hmap, HQS.out⟩)
  clear hp hmap HQL HQS
  have B0 := Lib.hid hB2
  have KK0 := Lib.hid (show ∀ W, Below T.heap.size T W → W.cell? ⟨w.heap.size, 0, none⟩ = some (.slice a2 l2.length c2) ∧ W.cell? ⟨w.heap.size, 1, none⟩ = some (.int .i64 q.n) from fun W h => ⟨(h.cell (p := ⟨w.heap.size, 0, none⟩) (blt t0)).trans t0, (h.cell (p := ⟨w.heap.size, 1, none⟩) (blt t1)).trans t1⟩)
  have C0_0 := Lib.hid (Below.refl T.heap.size T)
  clear hB2
  by_cases hp0 : pageE wordB q c fr A t = 0
  · skip
    obtain ⟨s, hs⟩ := page_iff.1 hp0
    have hf0 := hs.f0
    have hf1 := hs.f1
    obtain ⟨r1, r2, ⟨e1, s1, l1', n1⟩, ⟨e2, s2, l2', n2⟩, ⟨e3, l3', n3⟩, h4⟩ := twice_facts hs hAB.1.1 hAB.1.2 hAB.2.1 hAB.2.2
    clear hs hp0
    obtain ⟨g3, hg3⟩ : ∃ g3, pageS r2 c fr (A + B) t = g3 := ⟨_, rfl⟩
    have hsl : (pageI s fr A).length ≤ 5 := Nat.le_trans pageI_le (by omega)
    have hsl3 : (pageI s fr (A + B)).length ≤ 10 := Nat.le_trans pageI_le (by omega)
    have hwab : IntKind.i64.wrap (A + B) = A + B := IntWalk.i64_in _ (by omega)
    have HTW := Lib.hid (fun h => page_two (s := s) (frm := fr) (a := A) (b := B) hf0 hAB.1.1 hAB.2.1 h)
    have HON := Lib.hid (fun h => page_one (s := s) (frm := fr) (a := A) (b := B) hf0 hAB.1.1 hAB.2.1 h)
    have HPO := Lib.hid (fun h => pageI_pos (s := s) (fr := fr) (k := A) hf0 hAB.1.1 h)
    have HPP := Lib.hid (fun h => pageI_pos (s := s) (fr := fr + A) (k := B) (by omega) hAB.2.1 h)
    have HPL := Lib.hid (show (pageI s (fr + A) B).length ≤ 5 from Nat.le_trans pageI_le (by omega))
    obtain ⟨i1, hi1⟩ : ∃ i1, pageI s fr A = i1 := ⟨_, rfl⟩
    obtain ⟨i3, hi3⟩ : ∃ i3, pageI s fr (A + B) = i3 := ⟨_, rfl⟩
    obtain ⟨N, hN⟩ : ∃ N, pageN s fr A = N := ⟨_, rfl⟩
    obtain ⟨M, hM⟩ : ∃ M, pageN s fr (A + B) = M := ⟨_, rfl⟩
    rw [hi1] at l1' l2' hsl HTW HON HPO
    rw [hi3] at l3' hsl3 HTW HON
    rw [hN] at n1 n2 h4 HTW HON
    rw [hM] at n3 HTW HON
    clear hi1 hi3 hN hM
    refine (page_v q r1 a2 l2 c2 c fr A t i1 N 0 s1 l1' n1 e1 _ (HPQ.out.on C0_0.out) (HE.out.onB B0.out)).mono ?_; rintro e w1 ⟨a3, c3, l3, b3, d3, rfl, hp, hst, hb⟩
    have B1 : RowKit.Hid (Below w.heap.size w (w1.alloc (.cells #[.slice a3 l3.length c3, .int .i64 r1.n] 24))) := Lib.hid (bal (btr B0.out hb) _)
    have C0_1 : RowKit.Hid (Below T.heap.size T (w1.alloc (.cells #[.slice a3 l3.length c3, .int .i64 r1.n] 24))) := Lib.hid (bal (btr C0_0.out hb) _)
    have HP3 := Lib.hid (hp.on (show Below w1.heap.size w1 (w1.alloc (.cells #[.slice a3 l3.length c3, .int .i64 r1.n] 24)) from (bal (Below.refl w1.heap.size w1) _)))
    have HS3 := Lib.hid (hst.onB (show Below w1.heap.size w1 (w1.alloc (.cells #[.slice a3 l3.length c3, .int .i64 r1.n] 24)) from (bal (Below.refl w1.heap.size w1) _)))
    clear hp hst
    clear t0 t1 hb
    obtain ⟨f1_0_0, f1_0_1⟩ := KK0.out (w1.alloc (.cells #[.slice a3 l3.length c3, .int .i64 r1.n] 24)) C0_1.out
    have f1_1_0 : (w1.alloc (.cells #[.slice a3 l3.length c3, .int .i64 r1.n] 24)).cell? ⟨w1.heap.size, 0, none⟩ = some (.slice a3 l3.length c3) := by go_simp
    have f1_1_1 : (w1.alloc (.cells #[.slice a3 l3.length c3, .int .i64 r1.n] 24)).cell? ⟨w1.heap.size, 1, none⟩ = some (.int .i64 r1.n) := by go_simp
    have KK1 := Lib.hid (show ∀ W, Below (w1.alloc (.cells #[.slice a3 l3.length c3, .int .i64 r1.n] 24)).heap.size (w1.alloc (.cells #[.slice a3 l3.length c3, .int .i64 r1.n] 24)) W → W.cell? ⟨w1.heap.size, 0, none⟩ = some (.slice a3 l3.length c3) ∧ W.cell? ⟨w1.heap.size, 1, none⟩ = some (.int .i64 r1.n) from fun W h => ⟨(h.cell (p := ⟨w1.heap.size, 0, none⟩) (blt f1_1_0)).trans f1_1_0, (h.cell (p := ⟨w1.heap.size, 1, none⟩) (blt f1_1_1)).trans f1_1_1⟩)
    have C1_1 := Lib.hid (Below.refl (w1.alloc (.cells #[.slice a3 l3.length c3, .int .i64 r1.n] 24)).heap.size (w1.alloc (.cells #[.slice a3 l3.length c3, .int .i64 r1.n] 24)))
    go_wp2_with fail
    refine (page_v r1 r2 a3 l3 c3 c fr A t i1 N 0 s2 l2' n2 e2 _ (HP3.out.on C1_1.out) (HE.out.onB B1.out)).mono ?_; rintro e w2 ⟨a4, c4, l4, b4, d4, rfl, hp, hst, hb⟩
    have B2 : RowKit.Hid (Below w.heap.size w (w2.alloc (.cells #[.slice a4 l4.length c4, .int .i64 r2.n] 24))) := Lib.hid (bal (btr B1.out hb) _)
    have C0_2 : RowKit.Hid (Below T.heap.size T (w2.alloc (.cells #[.slice a4 l4.length c4, .int .i64 r2.n] 24))) := Lib.hid (bal (btr C0_1.out hb) _)
    have C1_2 : RowKit.Hid (Below (w1.alloc (.cells #[.slice a3 l3.length c3, .int .i64 r1.n] 24)).heap.size (w1.alloc (.cells #[.slice a3 l3.length c3, .int .i64 r1.n] 24)) (w2.alloc (.cells #[.slice a4 l4.length c4, .int .i64 r2.n] 24))) := Lib.hid (bal (btr C1_1.out hb) _)
    have HP4 := Lib.hid (hp.on (show Below w2.heap.size w2 (w2.alloc (.cells #[.slice a4 l4.length c4, .int .i64 r2.n] 24)) from (bal (Below.refl w2.heap.size w2) _)))
    have HS4 := Lib.hid (hst.onB (show Below w2.heap.size w2 (w2.alloc (.cells #[.slice a4 l4.length c4, .int .i64 r2.n] 24)) from (bal (Below.refl w2.heap.size w2) _)))
    clear hp hst
    clear f1_0_0 f1_0_1 f1_1_0 f1_1_1 hb
    obtain ⟨f2_0_0, f2_0_1⟩ := KK0.out (w2.alloc (.cells #[.slice a4 l4.length c4, .int .i64 r2.n] 24)) C0_2.out
    obtain ⟨f2_1_0, f2_1_1⟩ := KK1.out (w2.alloc (.cells #[.slice a4 l4.length c4, .int .i64 r2.n] 24)) C1_2.out
    have f2_2_0 : (w2.alloc (.cells #[.slice a4 l4.length c4, .int .i64 r2.n] 24)).cell? ⟨w2.heap.size, 0, none⟩ = some (.slice a4 l4.length c4) := by go_simp
    have f2_2_1 : (w2.alloc (.cells #[.slice a4 l4.length c4, .int .i64 r2.n] 24)).cell? ⟨w2.heap.size, 1, none⟩ = some (.int .i64 r2.n) := by go_simp
    have KK2 := Lib.hid (show ∀ W, Below (w2.alloc (.cells #[.slice a4 l4.length c4, .int .i64 r2.n] 24)).heap.size (w2.alloc (.cells #[.slice a4 l4.length c4, .int .i64 r2.n] 24)) W → W.cell? ⟨w2.heap.size, 0, none⟩ = some (.slice a4 l4.length c4) ∧ W.cell? ⟨w2.heap.size, 1, none⟩ = some (.int .i64 r2.n) from fun W h => ⟨(h.cell (p := ⟨w2.heap.size, 0, none⟩) (blt f2_2_0)).trans f2_2_0, (h.cell (p := ⟨w2.heap.size, 1, none⟩) (blt f2_2_1)).trans f2_2_1⟩)
    have C2_2 := Lib.hid (Below.refl (w2.alloc (.cells #[.slice a4 l4.length c4, .int .i64 r2.n] 24)).heap.size (w2.alloc (.cells #[.slice a4 l4.length c4, .int .i64 r2.n] 24)))
    go_wp2_with fail
    refine (page_v r2 g3 a4 l4 c4 c fr (A + B) t i3 M 0 hg3 l3' n3 e3 _ (HP4.out.on C2_2.out) (HE.out.onB B2.out)).mono ?_; rintro e w3 ⟨a5, c5, l5, b5, d5, rfl, hp, hst, hb⟩
    have B3 : RowKit.Hid (Below w.heap.size w (w3.alloc (.cells #[.slice a5 l5.length c5, .int .i64 g3.n] 24))) := Lib.hid (bal (btr B2.out hb) _)
    have C0_3 : RowKit.Hid (Below T.heap.size T (w3.alloc (.cells #[.slice a5 l5.length c5, .int .i64 g3.n] 24))) := Lib.hid (bal (btr C0_2.out hb) _)
    have C1_3 : RowKit.Hid (Below (w1.alloc (.cells #[.slice a3 l3.length c3, .int .i64 r1.n] 24)).heap.size (w1.alloc (.cells #[.slice a3 l3.length c3, .int .i64 r1.n] 24)) (w3.alloc (.cells #[.slice a5 l5.length c5, .int .i64 g3.n] 24))) := Lib.hid (bal (btr C1_2.out hb) _)
    have C2_3 : RowKit.Hid (Below (w2.alloc (.cells #[.slice a4 l4.length c4, .int .i64 r2.n] 24)).heap.size (w2.alloc (.cells #[.slice a4 l4.length c4, .int .i64 r2.n] 24)) (w3.alloc (.cells #[.slice a5 l5.length c5, .int .i64 g3.n] 24))) := Lib.hid (bal (btr C2_2.out hb) _)
    have HS5 := Lib.hid (hst.onB (show Below w3.heap.size w3 (w3.alloc (.cells #[.slice a5 l5.length c5, .int .i64 g3.n] 24)) from (bal (Below.refl w3.heap.size w3) _)))
    clear hp hst
    clear f2_0_0 f2_0_1 f2_1_0 f2_1_1 f2_2_0 f2_2_1 hb
    obtain ⟨f3_0_0, f3_0_1⟩ := KK0.out (w3.alloc (.cells #[.slice a5 l5.length c5, .int .i64 g3.n] 24)) C0_3.out
    obtain ⟨f3_1_0, f3_1_1⟩ := KK1.out (w3.alloc (.cells #[.slice a5 l5.length c5, .int .i64 g3.n] 24)) C1_3.out
    obtain ⟨f3_2_0, f3_2_1⟩ := KK2.out (w3.alloc (.cells #[.slice a5 l5.length c5, .int .i64 g3.n] 24)) C2_3.out
    have f3_3_0 : (w3.alloc (.cells #[.slice a5 l5.length c5, .int .i64 g3.n] 24)).cell? ⟨w3.heap.size, 0, none⟩ = some (.slice a5 l5.length c5) := by go_simp
    have f3_3_1 : (w3.alloc (.cells #[.slice a5 l5.length c5, .int .i64 g3.n] 24)).cell? ⟨w3.heap.size, 1, none⟩ = some (.int .i64 g3.n) := by go_simp
    have KK3 := Lib.hid (show ∀ W, Below (w3.alloc (.cells #[.slice a5 l5.length c5, .int .i64 g3.n] 24)).heap.size (w3.alloc (.cells #[.slice a5 l5.length c5, .int .i64 g3.n] 24)) W → W.cell? ⟨w3.heap.size, 0, none⟩ = some (.slice a5 l5.length c5) ∧ W.cell? ⟨w3.heap.size, 1, none⟩ = some (.int .i64 g3.n) from fun W h => ⟨(h.cell (p := ⟨w3.heap.size, 0, none⟩) (blt f3_3_0)).trans f3_3_0, (h.cell (p := ⟨w3.heap.size, 1, none⟩) (blt f3_3_1)).trans f3_3_1⟩)
    have C3_3 := Lib.hid (Below.refl (w3.alloc (.cells #[.slice a5 l5.length c5, .int .i64 g3.n] 24)).heap.size (w3.alloc (.cells #[.slice a5 l5.length c5, .int .i64 g3.n] 24)))
    by_cases hN : N = -1
    · skip
      have hh := HON.out hN
      have hi31 : i3 = i1 := hh.1
      have hM1 : M = -1 := hh.2
      subst hN hi31 hM1
      clear hh HTW HON h4 HPO HPP
      go_wp2_with fail
      refine (same_v b3 b4 d3 d4 i3 i3 true (by simp) _ (by omega) (by omega) (HS3.out.onB C1_3.out) (HS4.out.onB C2_3.out)).mono ?_; rintro e w4 ⟨rfl, hb⟩
      have B4 : RowKit.Hid (Below w.heap.size w w4) := Lib.hid (btr B3.out hb)
      have C0_4 : RowKit.Hid (Below T.heap.size T w4) := Lib.hid (btr C0_3.out hb)
      have C1_4 : RowKit.Hid (Below (w1.alloc (.cells #[.slice a3 l3.length c3, .int .i64 r1.n] 24)).heap.size (w1.alloc (.cells #[.slice a3 l3.length c3, .int .i64 r1.n] 24)) w4) := Lib.hid (btr C1_3.out hb)
      have C2_4 : RowKit.Hid (Below (w2.alloc (.cells #[.slice a4 l4.length c4, .int .i64 r2.n] 24)).heap.size (w2.alloc (.cells #[.slice a4 l4.length c4, .int .i64 r2.n] 24)) w4) := Lib.hid (btr C2_3.out hb)
      have C3_4 : RowKit.Hid (Below (w3.alloc (.cells #[.slice a5 l5.length c5, .int .i64 g3.n] 24)).heap.size (w3.alloc (.cells #[.slice a5 l5.length c5, .int .i64 g3.n] 24)) w4) := Lib.hid (btr C3_3.out hb)
      clear f3_0_0 f3_0_1 f3_1_0 f3_1_1 f3_2_0 f3_2_1 f3_3_0 f3_3_1 hb
      obtain ⟨f4_0_0, f4_0_1⟩ := KK0.out w4 C0_4.out
      obtain ⟨f4_1_0, f4_1_1⟩ := KK1.out w4 C1_4.out
      obtain ⟨f4_2_0, f4_2_1⟩ := KK2.out w4 C2_4.out
      obtain ⟨f4_3_0, f4_3_1⟩ := KK3.out w4 C3_4.out
      go_wp2_with fail
      refine (same_v b5 b3 d5 d3 i3 i3 true (by simp) _ (by omega) (by omega) (HS5.out.onB C3_4.out) (HS3.out.onB C1_4.out)).mono ?_; rintro e w5 ⟨rfl, hb⟩
      have B5 : RowKit.Hid (Below w.heap.size w w5) := Lib.hid (btr B4.out hb)
      have C0_5 : RowKit.Hid (Below T.heap.size T w5) := Lib.hid (btr C0_4.out hb)
      have C1_5 : RowKit.Hid (Below (w1.alloc (.cells #[.slice a3 l3.length c3, .int .i64 r1.n] 24)).heap.size (w1.alloc (.cells #[.slice a3 l3.length c3, .int .i64 r1.n] 24)) w5) := Lib.hid (btr C1_4.out hb)
      have C2_5 : RowKit.Hid (Below (w2.alloc (.cells #[.slice a4 l4.length c4, .int .i64 r2.n] 24)).heap.size (w2.alloc (.cells #[.slice a4 l4.length c4, .int .i64 r2.n] 24)) w5) := Lib.hid (btr C2_4.out hb)
      have C3_5 : RowKit.Hid (Below (w3.alloc (.cells #[.slice a5 l5.length c5, .int .i64 g3.n] 24)).heap.size (w3.alloc (.cells #[.slice a5 l5.length c5, .int .i64 g3.n] 24)) w5) := Lib.hid (btr C3_4.out hb)
      clear f4_0_0 f4_0_1 f4_1_0 f4_1_1 f4_2_0 f4_2_1 f4_3_0 f4_3_1 hb
      obtain ⟨f5_0_0, f5_0_1⟩ := KK0.out w5 C0_5.out
      obtain ⟨f5_1_0, f5_1_1⟩ := KK1.out w5 C1_5.out
      obtain ⟨f5_2_0, f5_2_1⟩ := KK2.out w5 C2_5.out
      obtain ⟨f5_3_0, f5_3_1⟩ := KK3.out w5 C3_5.out
      go_wp2
      go_ret
      exact ⟨rfl, B5.out⟩
    · skip
      obtain ⟨e4, l4', n4⟩ := h4 hN
      obtain ⟨hi3', hM', hNv, hlt⟩ := HTW.out hN
      have hpo := HPO.out (by omega)
      have hpp := HPP.out hlt
      have hpl := HPL.out
      have hNneg : ¬ N < 0 := by omega
      have HN0 := Lib.hid hNv
      clear hNv h4 HTW HON HPO HPP HPL
      obtain ⟨i4, hi4⟩ : ∃ i4, pageI s (fr + A) B = i4 := ⟨_, rfl⟩
      rw [hi4] at l4' hi3' hpp hpl
      rw [← hM'] at n4
      clear hM' hi4
      obtain ⟨g4, hg4⟩ : ∃ g4, pageS r2 c N B t = g4 := ⟨_, rfl⟩
      have HI3 := Lib.hid hi3'
      clear hi3'
      go_wp2_with fail
      refine (page_v r2 g4 a4 l4 c4 c N B t i4 M 0 hg4 l4' n4 e4 _ (HP4.out.on C2_3.out) (HE.out.onB B3.out)).mono ?_; rintro e w4 ⟨a6, c6, l6, b6, d6, rfl, hp, hst, hb⟩
      have B4 : RowKit.Hid (Below w.heap.size w (w4.alloc (.cells #[.slice a6 l6.length c6, .int .i64 g4.n] 24))) := Lib.hid (bal (btr B3.out hb) _)
      have C0_4 : RowKit.Hid (Below T.heap.size T (w4.alloc (.cells #[.slice a6 l6.length c6, .int .i64 g4.n] 24))) := Lib.hid (bal (btr C0_3.out hb) _)
      have C1_4 : RowKit.Hid (Below (w1.alloc (.cells #[.slice a3 l3.length c3, .int .i64 r1.n] 24)).heap.size (w1.alloc (.cells #[.slice a3 l3.length c3, .int .i64 r1.n] 24)) (w4.alloc (.cells #[.slice a6 l6.length c6, .int .i64 g4.n] 24))) := Lib.hid (bal (btr C1_3.out hb) _)
      have C2_4 : RowKit.Hid (Below (w2.alloc (.cells #[.slice a4 l4.length c4, .int .i64 r2.n] 24)).heap.size (w2.alloc (.cells #[.slice a4 l4.length c4, .int .i64 r2.n] 24)) (w4.alloc (.cells #[.slice a6 l6.length c6, .int .i64 g4.n] 24))) := Lib.hid (bal (btr C2_3.out hb) _)
      have C3_4 : RowKit.Hid (Below (w3.alloc (.cells #[.slice a5 l5.length c5, .int .i64 g3.n] 24)).heap.size (w3.alloc (.cells #[.slice a5 l5.length c5, .int .i64 g3.n] 24)) (w4.alloc (.cells #[.slice a6 l6.length c6, .int .i64 g4.n] 24))) := Lib.hid (bal (btr C3_3.out hb) _)
      have HS6 := Lib.hid (hst.onB (show Below w4.heap.size w4 (w4.alloc (.cells #[.slice a6 l6.length c6, .int .i64 g4.n] 24)) from (bal (Below.refl w4.heap.size w4) _)))
      clear hp hst
      clear f3_0_0 f3_0_1 f3_1_0 f3_1_1 f3_2_0 f3_2_1 f3_3_0 f3_3_1 hb
      obtain ⟨f4_0_0, f4_0_1⟩ := KK0.out (w4.alloc (.cells #[.slice a6 l6.length c6, .int .i64 g4.n] 24)) C0_4.out
      obtain ⟨f4_1_0, f4_1_1⟩ := KK1.out (w4.alloc (.cells #[.slice a6 l6.length c6, .int .i64 g4.n] 24)) C1_4.out
      obtain ⟨f4_2_0, f4_2_1⟩ := KK2.out (w4.alloc (.cells #[.slice a6 l6.length c6, .int .i64 g4.n] 24)) C2_4.out
      obtain ⟨f4_3_0, f4_3_1⟩ := KK3.out (w4.alloc (.cells #[.slice a6 l6.length c6, .int .i64 g4.n] 24)) C3_4.out
      have f4_4_0 : (w4.alloc (.cells #[.slice a6 l6.length c6, .int .i64 g4.n] 24)).cell? ⟨w4.heap.size, 0, none⟩ = some (.slice a6 l6.length c6) := by go_simp
      have f4_4_1 : (w4.alloc (.cells #[.slice a6 l6.length c6, .int .i64 g4.n] 24)).cell? ⟨w4.heap.size, 1, none⟩ = some (.int .i64 g4.n) := by go_simp
      have KK4 := Lib.hid (show ∀ W, Below (w4.alloc (.cells #[.slice a6 l6.length c6, .int .i64 g4.n] 24)).heap.size (w4.alloc (.cells #[.slice a6 l6.length c6, .int .i64 g4.n] 24)) W → W.cell? ⟨w4.heap.size, 0, none⟩ = some (.slice a6 l6.length c6) ∧ W.cell? ⟨w4.heap.size, 1, none⟩ = some (.int .i64 g4.n) from fun W h => ⟨(h.cell (p := ⟨w4.heap.size, 0, none⟩) (blt f4_4_0)).trans f4_4_0, (h.cell (p := ⟨w4.heap.size, 1, none⟩) (blt f4_4_1)).trans f4_4_1⟩)
      have C4_4 := Lib.hid (Below.refl (w4.alloc (.cells #[.slice a6 l6.length c6, .int .i64 g4.n] 24)).heap.size (w4.alloc (.cells #[.slice a6 l6.length c6, .int .i64 g4.n] 24)))
      obtain ⟨y3, o3, rfl, hy3, hz3⟩ := strs_some (HS3.out.onB C1_4.out) hpo
      obtain ⟨y6, o6, rfl, hy6, hz6⟩ := strs_some (HS6.out.onB C4_4.out) hpp
      obtain ⟨i0, hi0, hz0, hz1, hz2⟩ := info_parts info9
      have HZ := Lib.hid (And.intro hz3 (And.intro hy6 hz6))
      clear hz3 hz6 hy3 hy6
      go_wp2_with (first
        | (at_builtin; refine wpList_append_own_at _ rfl (.tmp 128) (.tmp 129) 25 rfl (w4.alloc (.cells #[.slice a6 l6.length c6, .int .i64 g4.n] 24)).heap.size 9 i0 _ 1 16 Tryd.underlying25 hi0 hz0 hz1 hz2 rfl (by decide) _ 0 [] rfl (World.ownsRow_nil _ _ _ _) ⟨y3, o3, none⟩ i1.length d3 (strVs i1) rfl (by simp) HZ.out.1 (strVs_cells _) (by unfold maxLen; omega) (by omega) (Nat.le_refl _) ?_; intro v7 w7 hown hgrow hnil hat; rw [Nat.zero_add, List.nil_append] at hown; obtain ⟨au, cu, rfl⟩ := row_form hown; have HO7 := Lib.hid hown; have HB7 := Lib.hid (show Below (w4.alloc (.cells #[.slice a6 l6.length c6, .int .i64 g4.n] 24)).heap.size (w4.alloc (.cells #[.slice a6 l6.length c6, .int .i64 g4.n] 24)) w7 from (Below.refl _ _).grown hgrow (Nat.le_refl _) (fun j hj => by cases hj)); clear hown hgrow hnil hat)
        | (at_builtin; refine wpList_append_own_at _ rfl (.tmp 130) (.tmp 131) 25 rfl (w4.alloc (.cells #[.slice a6 l6.length c6, .int .i64 g4.n] 24)).heap.size 9 i0 _ 1 16 Tryd.underlying25 hi0 hz0 hz1 hz2 rfl (by decide) _ i1.length (strVs i1) rfl HO7.out ⟨y6, o6, none⟩ i4.length d6 (strVs i4) rfl (by simp) (news_on HB7.out HZ.out.2.1 HZ.out.2.2) (strVs_cells _) (by unfold maxLen; omega) (by omega) HB7.out.size ?_; intro v8 w8 hown hgrow hnil hat; obtain ⟨av, cv, rfl⟩ := row_form hown; have HO8 := Lib.hid hown; have HB8 := Lib.hid (HB7.out.grown hgrow HB7.out.size (fun j hj => (row_lt HO7.out hj).1)); clear hown hgrow hnil hat))
      have hb8 := HB8.out
      have B5 : RowKit.Hid (Below w.heap.size w w8) := Lib.hid (btr B4.out hb8)
      have C0_5 : RowKit.Hid (Below T.heap.size T w8) := Lib.hid (btr C0_4.out hb8)
      have C1_5 : RowKit.Hid (Below (w1.alloc (.cells #[.slice a3 l3.length c3, .int .i64 r1.n] 24)).heap.size (w1.alloc (.cells #[.slice a3 l3.length c3, .int .i64 r1.n] 24)) w8) := Lib.hid (btr C1_4.out hb8)
      have C2_5 : RowKit.Hid (Below (w2.alloc (.cells #[.slice a4 l4.length c4, .int .i64 r2.n] 24)).heap.size (w2.alloc (.cells #[.slice a4 l4.length c4, .int .i64 r2.n] 24)) w8) := Lib.hid (btr C2_4.out hb8)
      have C3_5 : RowKit.Hid (Below (w3.alloc (.cells #[.slice a5 l5.length c5, .int .i64 g3.n] 24)).heap.size (w3.alloc (.cells #[.slice a5 l5.length c5, .int .i64 g3.n] 24)) w8) := Lib.hid (btr C3_4.out hb8)
      have C4_5 : RowKit.Hid (Below (w4.alloc (.cells #[.slice a6 l6.length c6, .int .i64 g4.n] 24)).heap.size (w4.alloc (.cells #[.slice a6 l6.length c6, .int .i64 g4.n] 24)) w8) := Lib.hid (btr C4_4.out hb8)
      clear f4_0_0 f4_0_1 f4_1_0 f4_1_1 f4_2_0 f4_2_1 f4_3_0 f4_3_1 f4_4_0 f4_4_1
      obtain ⟨f5_0_0, f5_0_1⟩ := KK0.out w8 C0_5.out
      obtain ⟨f5_1_0, f5_1_1⟩ := KK1.out w8 C1_5.out
      obtain ⟨f5_2_0, f5_2_1⟩ := KK2.out w8 C2_5.out
      obtain ⟨f5_3_0, f5_3_1⟩ := KK3.out w8 C3_5.out
      obtain ⟨f5_4_0, f5_4_1⟩ := KK4.out w8 C4_5.out
      have HBO := Lib.hid (show StrsAt w8.heap.size w8 av (i1 ++ i4) from own_app HO8.out)
      have HLE := Lib.hid (show (i1 ++ i4).length = i1.length + i4.length from List.length_append)
      refine (same_v (some ⟨y3, o3, none⟩) b4 d3 d4 i1 i1 true (by simp) _ (by omega) (by omega) (HS3.out.onB C1_5.out) (HS4.out.onB C2_5.out)).mono ?_; rintro e w6 ⟨rfl, hb⟩
      have B6 : RowKit.Hid (Below w.heap.size w w6) := Lib.hid (btr B5.out hb)
      have C0_6 : RowKit.Hid (Below T.heap.size T w6) := Lib.hid (btr C0_5.out hb)
      have C1_6 : RowKit.Hid (Below (w1.alloc (.cells #[.slice a3 l3.length c3, .int .i64 r1.n] 24)).heap.size (w1.alloc (.cells #[.slice a3 l3.length c3, .int .i64 r1.n] 24)) w6) := Lib.hid (btr C1_5.out hb)
      have C2_6 : RowKit.Hid (Below (w2.alloc (.cells #[.slice a4 l4.length c4, .int .i64 r2.n] 24)).heap.size (w2.alloc (.cells #[.slice a4 l4.length c4, .int .i64 r2.n] 24)) w6) := Lib.hid (btr C2_5.out hb)
      have C3_6 : RowKit.Hid (Below (w3.alloc (.cells #[.slice a5 l5.length c5, .int .i64 g3.n] 24)).heap.size (w3.alloc (.cells #[.slice a5 l5.length c5, .int .i64 g3.n] 24)) w6) := Lib.hid (btr C3_5.out hb)
      have C4_6 : RowKit.Hid (Below (w4.alloc (.cells #[.slice a6 l6.length c6, .int .i64 g4.n] 24)).heap.size (w4.alloc (.cells #[.slice a6 l6.length c6, .int .i64 g4.n] 24)) w6) := Lib.hid (btr C4_5.out hb)
      have HB89 := Lib.hid hb
      clear f5_0_0 f5_0_1 f5_1_0 f5_1_1 f5_2_0 f5_2_1 f5_3_0 f5_3_1 f5_4_0 f5_4_1 hb
      obtain ⟨f6_0_0, f6_0_1⟩ := KK0.out w6 C0_6.out
      obtain ⟨f6_1_0, f6_1_1⟩ := KK1.out w6 C1_6.out
      obtain ⟨f6_2_0, f6_2_1⟩ := KK2.out w6 C2_6.out
      obtain ⟨f6_3_0, f6_3_1⟩ := KK3.out w6 C3_6.out
      obtain ⟨f6_4_0, f6_4_1⟩ := KK4.out w6 C4_6.out
      skip
      go_wp2_with fail
      refine (same_L b5 av d5 cv i3 (i1 ++ i4) (i1.length + i4.length) HLE.out HI3.out _ (by omega) (by have := HLE.out; omega) (HS5.out.onB C3_6.out) (HBO.out.onB HB89.out)).mono ?_; rintro e w7 ⟨rfl, hb⟩
      have B7 : RowKit.Hid (Below w.heap.size w w7) := Lib.hid (btr B6.out hb)
      have C0_7 : RowKit.Hid (Below T.heap.size T w7) := Lib.hid (btr C0_6.out hb)
      have C1_7 : RowKit.Hid (Below (w1.alloc (.cells #[.slice a3 l3.length c3, .int .i64 r1.n] 24)).heap.size (w1.alloc (.cells #[.slice a3 l3.length c3, .int .i64 r1.n] 24)) w7) := Lib.hid (btr C1_6.out hb)
      have C2_7 : RowKit.Hid (Below (w2.alloc (.cells #[.slice a4 l4.length c4, .int .i64 r2.n] 24)).heap.size (w2.alloc (.cells #[.slice a4 l4.length c4, .int .i64 r2.n] 24)) w7) := Lib.hid (btr C2_6.out hb)
      have C3_7 : RowKit.Hid (Below (w3.alloc (.cells #[.slice a5 l5.length c5, .int .i64 g3.n] 24)).heap.size (w3.alloc (.cells #[.slice a5 l5.length c5, .int .i64 g3.n] 24)) w7) := Lib.hid (btr C3_6.out hb)
      have C4_7 : RowKit.Hid (Below (w4.alloc (.cells #[.slice a6 l6.length c6, .int .i64 g4.n] 24)).heap.size (w4.alloc (.cells #[.slice a6 l6.length c6, .int .i64 g4.n] 24)) w7) := Lib.hid (btr C4_6.out hb)
      clear f6_0_0 f6_0_1 f6_1_0 f6_1_1 f6_2_0 f6_2_1 f6_3_0 f6_3_1 f6_4_0 f6_4_1 hb
      obtain ⟨f7_0_0, f7_0_1⟩ := KK0.out w7 C0_7.out
      obtain ⟨f7_1_0, f7_1_1⟩ := KK1.out w7 C1_7.out
      obtain ⟨f7_2_0, f7_2_1⟩ := KK2.out w7 C2_7.out
      obtain ⟨f7_3_0, f7_3_1⟩ := KK3.out w7 C3_7.out
      obtain ⟨f7_4_0, f7_4_1⟩ := KK4.out w7 C4_7.out
      go_wp2
      go_ret
      exact ⟨rfl, B7.out⟩
  · skip
    obtain ⟨ee, hee⟩ : ∃ ee, pageE wordB q c fr A t = ee := ⟨_, rfl⟩
    rw [hee] at hp0
    have he1 : (ee == 0) = false := by simpa using hp0
    have he2 : (ee != 0) = true := by simpa using hp0
    refine (page_nil q a2 l2 c2 c fr A t ee hee hp0 _ (HPQ.out.on C0_0.out) (HE.out.onB B0.out)).mono ?_; rintro e w1 ⟨a3, c3, b3, d3, rfl, hb⟩
    have B1 : RowKit.Hid (Below w.heap.size w (w1.alloc (.cells #[.slice a3 0 c3, .int .i64 0] 24))) := Lib.hid (bal (btr B0.out hb) _)
    have C0_1 : RowKit.Hid (Below T.heap.size T (w1.alloc (.cells #[.slice a3 0 c3, .int .i64 0] 24))) := Lib.hid (bal (btr C0_0.out hb) _)
    clear t0 t1 hb
    obtain ⟨f1_0_0, f1_0_1⟩ := KK0.out (w1.alloc (.cells #[.slice a3 0 c3, .int .i64 0] 24)) C0_1.out
    have f1_1_0 : (w1.alloc (.cells #[.slice a3 0 c3, .int .i64 0] 24)).cell? ⟨w1.heap.size, 0, none⟩ = some (.slice a3 0 c3) := by go_simp
    have f1_1_1 : (w1.alloc (.cells #[.slice a3 0 c3, .int .i64 0] 24)).cell? ⟨w1.heap.size, 1, none⟩ = some (.int .i64 0) := by go_simp
    have KK1 := Lib.hid (show ∀ W, Below (w1.alloc (.cells #[.slice a3 0 c3, .int .i64 0] 24)).heap.size (w1.alloc (.cells #[.slice a3 0 c3, .int .i64 0] 24)) W → W.cell? ⟨w1.heap.size, 0, none⟩ = some (.slice a3 0 c3) ∧ W.cell? ⟨w1.heap.size, 1, none⟩ = some (.int .i64 0) from fun W h => ⟨(h.cell (p := ⟨w1.heap.size, 0, none⟩) (blt f1_1_0)).trans f1_1_0, (h.cell (p := ⟨w1.heap.size, 1, none⟩) (blt f1_1_1)).trans f1_1_1⟩)
    have C1_1 := Lib.hid (Below.refl (w1.alloc (.cells #[.slice a3 0 c3, .int .i64 0] 24)).heap.size (w1.alloc (.cells #[.slice a3 0 c3, .int .i64 0] 24)))
    go_wp2
    go_ret
    exact ⟨rfl, B1.out⟩
end Go.Proofs.YtgceecfjammnaaaDoor.L16

/- SnapsWalk. -/
namespace Go.Proofs.YtgceecfjammnaaaDoor.L16
open Go.RowKit Go.Shelf
attribute [local go_sem] Oper.semAt_some
set_option linter.unusedSimpArgs false
set_option linter.unusedVariables false

theorem wk_find {P : Pl} {c u : Int} {its : List ByteArray} {L : List Snp} (r : Rt wordB P) (hl : P.l = L ++ [⟨c, its, u⟩]) : findS P c = some ⟨c, its, u⟩ := by
  refine find_in (n := P.n) (B := []) (by rw [hl, List.append_nil]) rfl (fun x hx hxc => ?_)
  have hnd := r.nd
  rw [hl] at hnd
  simp only [List.map_append, List.map_cons, List.map_nil, List.nodup_append] at hnd
  exact hnd.2.2 x.c (List.mem_map_of_mem hx) c (by simp) hxc
theorem wk_last {P : Pl} {c u : Int} {its : List ByteArray} {L : List Snp} (hl : P.l = L ++ [⟨c, its, u⟩]) : lastU P.l = u := by rw [hl]; exact lastU_snoc _ _
/-- Others are pinned, or not. -/
theorem wk_pin {P : Pl} {c u t : Int} {its o : List ByteArray} {L : List Snp} (r : Rt wordB P) (hl : P.l = L ++ [⟨c, its, u⟩]) (hu : t - u < 1000) (hk : pinB wordB P o t = true) : Rt wordB (pinT P o t) ∧ findS (pinT P o t) c = some ⟨c, its, u⟩ ∧ lastU (pinT P o t).l ≤ t := by
  have e : P = ⟨L ++ [⟨c, its, u⟩], P.n⟩ := by cases P; simp only at hl; rw [hl]
  refine ⟨pin_right hk, ?_, by rw [pin_last]; exact Int.le_refl _⟩
  have h := pin_iff.1 hk
  rw [e] at h ⊢
  exact walk_pin h hu
theorem wk_page {P : Pl} {c u t at_ k : Int} {its : List ByteArray} (r : Rt wordB P) (hf : findS P c = some ⟨c, its, u⟩) (hl : lastU P.l ≤ t) (ht : t ≤ 1000000000000) (hu : t - u < 1000) (h0 : 0 ≤ at_) (h1 : at_ ≤ its.length) (k1 : 1 ≤ k) (k2 : k ≤ 10) :
    pageE wordB P c at_ k t = 0 ∧ (Rt wordB (pageS P c at_ k t) ∧ ∃ L, (pageS P c at_ k t).l = L ++ [⟨c, its, t⟩]) ∧ pageL P c at_ k t = pageI ⟨c, its, u⟩ at_ k ∧ pageB P c at_ k t = pageN ⟨c, its, u⟩ at_ k := by
  have h : PageOk wordB P c at_ k t ⟨c, its, u⟩ := ⟨r, by unfold nowB; simp [hl, ht], k1, k2, hf, hu, h0, h1⟩
  obtain ⟨e, s, l, n⟩ := page_val h
  refine ⟨e, ⟨(pageS_right e).1, ?_⟩, l, n⟩
  rw [s]
  exact ⟨_, rfl⟩
/-- What a walk has told so far. -/
def WkA (its all : List ByteArray) (at_ : Int) (k : Nat) : Prop := (at_ = -1 ∧ all = its) ∨ ((0 ≤ at_ ∧ at_ ≤ its.length) ∧ all = its.take at_.toNat ∧ (k : Int) ≤ at_ ∧ (at_ < its.length ∨ k = 0))
theorem wka_next {its all : List ByteArray} {at_ n u c : Int} {k : Nat} (h : WkA its all at_ k) (h0 : 0 ≤ at_) (hn : 1 ≤ n) : WkA its (all ++ pageI ⟨c, its, u⟩ at_ n) (pageN ⟨c, its, u⟩ at_ n) (k + 1) := by
  rcases h with ⟨e, _⟩ | ⟨⟨_, h1⟩, rfl, h2, h3⟩
  · omega
  · by_cases he : pageN ⟨c, its, u⟩ at_ n = -1
    · exact .inl ⟨he, walk_end (s := ⟨c, its, u⟩) h0 hn he⟩
    · obtain ⟨e1, e2, e3⟩ := walk_next (s := ⟨c, its, u⟩) h0 hn he
      have e3' : at_ + n < (its.length : Int) := e3
      exact .inr ⟨⟨by omega, by omega⟩, e1, by rw [e2]; omega, .inl (by rw [e2]; exact e3')⟩
theorem wka_end {its all : List ByteArray} {at_ : Int} (h : WkA its all at_ 70) (hi : its.length ≤ 66) : at_ = -1 ∧ all = its := by
  rcases h with h | ⟨⟨_, _⟩, _, h2, _⟩
  · exact h
  · omega
theorem wka_len {its all : List ByteArray} {at_ : Int} {k : Nat} (h : WkA its all at_ k) : all.length ≤ its.length := by
  rcases h with ⟨_, rfl⟩ | ⟨_, rfl, _⟩
  · exact Nat.le_refl _
  · rw [List.length_take]; omega
theorem wka_lo {its all : List ByteArray} {at_ : Int} {k : Nat} (h : WkA its all at_ k) (hn : ¬ at_ ≥ 0) : at_ = -1 ∧ all = its := by
  rcases h with h | ⟨⟨_, _⟩, _⟩
  · exact h
  · omega
theorem wka_hi {its all : List ByteArray} {at_ : Int} {k : Nat} (h : WkA its all at_ k) (hn : 0 ≤ at_) : at_ ≤ its.length := by
  rcases h with ⟨_, _⟩ | ⟨⟨_, _⟩, _⟩ <;> omega
/-- What the walk keeps. -/
structure WkR (its : List ByteArray) (c : Int) (w V : World) (Z QB : Nat) (ia : Option Addr) (P : Pl) (t : Int) (W : World) (a : Option Addr) (l : List SnM) (cq : Nat) (v : Value) (all : List ByteArray) : Prop where
  b : W.heap[QB]? = some (.cells #[.slice a l.length cq, .int .i64 P.n] 24 (0, 0))
  p : PoolIn P a l W
  r : Rt wordB P
  L : ∃ L, P.l = L ++ [⟨c, its, t⟩]
  s : StrsAt W.heap.size W ia its
  o : W.ownsRow Z 9 1 v all.length (strVs all)
  bw : Below w.heap.size w W
  bv : Below V.heap.size V W
  z : QB < Z ∧ V.heap.size ≤ QB ∧ w.heap.size ≤ QB ∧ Z ≤ W.heap.size
structure WkM (its : List ByteArray) (c : Int) (w V : World) (Z QB : Nat) (ia : Option Addr) (P : Pl) (u t : Int) (W : World) (a : Option Addr) (l : List SnM) (cq : Nat) (v : Value) (all : List ByteArray) : Prop where
  b : W.heap[QB]? = some (.cells #[.slice a l.length cq, .int .i64 P.n] 24 (0, 0))
  p : PoolIn P a l W
  r : Rt wordB P
  f : findS P c = some ⟨c, its, u⟩
  hl : lastU P.l ≤ t
  s : StrsAt W.heap.size W ia its
  o : W.ownsRow Z 9 1 v all.length (strVs all)
  bw : Below w.heap.size w W
  bv : Below V.heap.size V W
  z : QB < Z ∧ V.heap.size ≤ QB ∧ w.heap.size ≤ QB ∧ Z ≤ W.heap.size
theorem obj_on {A B : World} {i : Nat} {o : Obj} (hb : Below A.heap.size A B) (h : A.heap[i]? = some o) : B.heap[i]? = some o := (hb.block i (Array.getElem?_eq_some_iff.1 h).1).trans h
theorem own_onB {A B : World} {z : Nat} {v : Value} {n : Nat} {xs : List Value} (h : A.ownsRow z 9 1 v n xs) (hb : Below A.heap.size A B) : B.ownsRow z 9 1 v n xs := h.kept (grown_of_below hb) (by cases v.ownBlock <;> simp)
theorem WkR.mid {its : List ByteArray} {c : Int} {w V W : World} {Z QB : Nat} {ia : Option Addr} {P : Pl} {u t : Int} {a : Option Addr} {l : List SnM} {cq : Nat} {v : Value} {all : List ByteArray} (h : WkR its c w V Z QB ia P u W a l cq v all) (ht : u ≤ t) : WkM its c w V Z QB ia P u t W a l cq v all := by
  obtain ⟨L, hL⟩ := h.L
  exact ⟨h.b, h.p, h.r, wk_find h.r hL, by rw [wk_last hL]; exact ht, h.s, h.o, h.bw, h.bv, h.z⟩
theorem WkM.on {its : List ByteArray} {c : Int} {w V A B : World} {Z QB : Nat} {ia : Option Addr} {P : Pl} {u t : Int} {a : Option Addr} {l : List SnM} {cq : Nat} {v : Value} {all : List ByteArray} (h : WkM its c w V Z QB ia P u t A a l cq v all) (hb : Below A.heap.size A B) : WkM its c w V Z QB ia P u t B a l cq v all :=
  ⟨obj_on hb h.b, h.p.on hb, h.r, h.f, h.hl, h.s.onB hb, own_onB h.o hb, btr h.bw hb, btr h.bv hb, ⟨h.z.1, h.z.2.1, h.z.2.2.1, Nat.le_trans h.z.2.2.2 hb.size⟩⟩
theorem set_box {W : World} {B : Nat} {u0 u1 v0 v1 : Value} (h : W.heap[B]? = some (.cells #[u0, u1] 24 (0, 0))) : ((W.setCell ⟨B, 0, none⟩ v0).setCell ⟨B, 1, none⟩ v1).heap[B]? = some (.cells #[v0, v1] 24 (0, 0)) := by
  simp only [World.setCell, Array.getElem?_modify, if_true, h]
  rfl
theorem strs_box {W : World} {B : Nat} {ia a : Option Addr} {n c : Nat} {m : Int} {t : TypeId} {zs : List ByteArray} {v0 v1 : Value} (h : StrsAt W.heap.size W ia zs) (hB : W.heap[B]? = some (.cells #[.slice a n c, .int .i64 m] t (0, 0))) :
    StrsAt ((W.setCell ⟨B, 0, none⟩ v0).setCell ⟨B, 1, none⟩ v1).heap.size ((W.setCell ⟨B, 0, none⟩ v0).setCell ⟨B, 1, none⟩ v1) ia zs := fun i hi => by
  obtain ⟨b, off, e, hb, hc⟩ := h i hi
  have hne : b ≠ B := by
    intro eb
    subst eb
    unfold World.cell? at hc
    rw [show (⟨b, off + i, none⟩ : Addr).block = b from rfl, hB] at hc
    simp only [Option.isSome_none, Bool.false_eq_true, if_false] at hc
    generalize off + i = j at hc
    match j with
    | 0 => simp at hc
    | 1 => simp at hc
    | k + 2 => simp at hc
  exact ⟨b, off, e, by rw [World.size_setCell, World.size_setCell]; exact hb, (set_other _ _ hne).trans ((set_other _ _ hne).trans hc)⟩
theorem PlAt.grown {n z : Nat} {W W' : World} {a : Option Addr} {l : List SnM} {row : Option Nat} (h : PlAt n W a l) (hn : n ≤ W.heap.size) (hf : FarL z a l) (hg : W.grownBy W' row) (hr : ∀ g, row = some g → g < z) : PlAt n W' a l := by
  have hc : ∀ {b o : Nat} {u : Value}, b < n → z ≤ b → W.cell? ⟨b, o, none⟩ = some u → W'.cell? ⟨b, o, none⟩ = some u := fun {b o u} hb hz k =>
    (World.cell?_of_block (w := W) (a := ⟨b, o, none⟩) (hg.block b (by omega) (fun e => by have := hr b e.symm; omega))).trans k
  refine ⟨fun k hk => ?_, fun x hx i hi => ?_⟩
  · obtain ⟨b, off, e, hb, c0, c1, c2⟩ := h.s k hk
    have hz : z ≤ b := hf.1 _ e (by omega)
    exact ⟨b, off, e, hb, hc hb hz c0, hc hb hz c1, hc hb hz c2⟩
  · obtain ⟨b, off, e, hb, c0⟩ := h.i x hx i hi
    have hz : z ≤ b := hf.2 x hx _ e
    exact ⟨b, off, e, hb, hc hb hz c0⟩
/-- Others are pinned: the box holds them. -/
theorem WkR.pinned {its o : List ByteArray} {c : Int} {w V wr X4 X5 : World} {Z QB : Nat} {ia : Option Addr} {P : Pl} {u t : Int} {a a5 : Option Addr} {l l5 : List SnM} {cq c5 : Nat} {v : Value} {all : List ByteArray} (h : WkR its c w V Z QB ia P u wr a l cq v all) (hu : t - u < 1000) (hk : pinB wordB P o t = true)
    (hb : Below wr.heap.size wr X5) (hp : PoolIn (pinT P o t) a5 l5 X5) (hf : FarL X4.heap.size a5 l5) (hz : QB < X4.heap.size) :
    WkM its c w V Z QB ia (pinT P o t) u t ((X5.setCell ⟨QB, 0, none⟩ (.slice a5 l5.length c5)).setCell ⟨QB, 1, none⟩ (.int .i64 (pinT P o t).n)) a5 l5 c5 v all := by
  obtain ⟨L, hL⟩ := h.L
  obtain ⟨r1, r2, r3⟩ := wk_pin h.r hL hu hk
  have hbv := ((btr h.bv hb).setCell (p := ⟨QB, 0, none⟩) h.z.2.1 (.slice a5 l5.length c5)).setCell (p := ⟨QB, 1, none⟩) h.z.2.1 (.int .i64 (pinT P o t).n)
  have hs2 : StrsAt X5.heap.size X5 ia its := h.s.onB hb
  have ho := own_onB h.o hb
  have hne : ∀ {W' : World}, W'.ownsRow Z 9 1 v all.length (strVs all) → v.ownBlock ≠ some QB := fun k e => by have := (row_lt k e).1; have := h.z.1; omega
  have hw := ((btr h.bw hb).setCell (p := ⟨QB, 0, none⟩) h.z.2.2.1 (.slice a5 l5.length c5)).setCell (p := ⟨QB, 1, none⟩) h.z.2.2.1 (.int .i64 (pinT P o t).n)
  refine ⟨set_box (obj_on hb h.b), (hp.set hf hz).set hf hz, r1, r2, r3, ?_, (ho.kept (grownBy_setCell _ _ _ _) (.inr (hne ho))).kept (grownBy_setCell _ _ _ _) (.inr (hne ho)), hw, hbv, ⟨h.z.1, h.z.2.1, h.z.2.2.1, ?_⟩⟩
  · exact strs_box hs2 (obj_on hb h.b)
  · rw [World.size_setCell, World.size_setCell]; exact Nat.le_trans h.z.2.2.2 hb.size

/-- A page more: the box holds what it leaves, the row holds it. -/
theorem WkM.paged {its : List ByteArray} {c : Int} {w V W X6 w7 : World} {Z QB : Nat} {ia : Option Addr} {P r : Pl} {u t : Int} {a a6 : Option Addr} {l l6 : List SnM} {cq c6 : Nat} {v v' : Value} {all page : List ByteArray} (h : WkM its c w V Z QB ia P u t W a l cq v all)
    (hs0 : StrsAt V.heap.size V ia its) (hb : Below W.heap.size W X6) (hp : PoolIn r a6 l6 X6) (hf : FarL W.heap.size a6 l6) (hr : Rt wordB r ∧ ∃ L, r.l = L ++ [⟨c, its, t⟩])
    (ho : w7.ownsRow Z 9 1 v' (all.length + page.length) (strVs all ++ strVs page)) (hg : X6.grownBy w7 v.ownBlock) :
    w7.heap[QB]? = some (.cells #[.slice a l.length cq, .int .i64 P.n] 24 (0, 0)) ∧ WkR its c w V Z QB ia r t ((w7.setCell ⟨QB, 0, none⟩ (.slice a6 l6.length c6)).setCell ⟨QB, 1, none⟩ (.int .i64 r.n)) a6 l6 c6 v' (all ++ page) := by
  obtain ⟨z1, z2, z3, z4⟩ := h.z
  have hrow : ∀ g, v.ownBlock = some g → Z ≤ g ∧ g < W.heap.size := fun g e => row_lt h.o e
  have hbox6 := obj_on hb h.b
  have hq7 : w7.heap[QB]? = some (.cells #[.slice a l.length cq, .int .i64 P.n] 24 (0, 0)) := (hg.block QB (Array.getElem?_eq_some_iff.1 hbox6).1 (fun e => by have := (hrow QB e.symm).1; omega)).trans hbox6
  have hsz : W.heap.size ≤ X6.heap.size := hb.size
  have hp7 : PoolIn r a6 l6 w7 := ⟨(hp.at'.grown (Nat.le_refl _) hf hg (fun g e => (hrow g e).2)).mono hg.size, hp.map, hp.small⟩
  have hzq : QB < W.heap.size := by omega
  have hv := (((btr h.bv hb).grown hg (btr h.bv hb).size (fun j hj => by have := (hrow j hj).1; omega)).setCell (p := ⟨QB, 0, none⟩) z2 (.slice a6 l6.length c6)).setCell (p := ⟨QB, 1, none⟩) z2 (.int .i64 r.n)
  have hw := (((btr h.bw hb).grown hg (btr h.bw hb).size (fun j hj => by have := (hrow j hj).1; omega)).setCell (p := ⟨QB, 0, none⟩) z3 (.slice a6 l6.length c6)).setCell (p := ⟨QB, 1, none⟩) z3 (.int .i64 r.n)
  have hne : ∀ {W' : World} {n : Nat} {xs : List Value}, W'.ownsRow Z 9 1 v' n xs → v'.ownBlock ≠ some QB := fun k e => by have := (row_lt k e).1; omega
  refine ⟨hq7, set_box hq7, (hp7.set hf hzq).set hf hzq, hr.1, hr.2, hs0.onB hv, ?_, hw, hv, ⟨z1, z2, z3, ?_⟩⟩
  · rw [List.length_append, show strVs (all ++ page) = strVs all ++ strVs page from List.map_append]
    exact (ho.kept (grownBy_setCell _ _ _ _) (.inr (hne ho))).kept (grownBy_setCell _ _ _ _) (.inr (hne ho))
  · rw [World.size_setCell, World.size_setCell]; exact Nat.le_trans z4 (Nat.le_trans hsz hg.size)
end Go.Proofs.YtgceecfjammnaaaDoor.L16
