/- Tf -/
import Derived.Test.YtgceecfjammnaaaDoorZ10
/- SnapsKeeps. -/
namespace Go.Proofs.YtgceecfjammnaaaDoor.L16
open Go.RowKit Go.Shelf
attribute [local go_sem] Oper.semAt_some
set_option linter.unusedSimpArgs false
set_option linter.unusedVariables false

theorem last_at {q : Pl} {a : Option Addr} {l : List SnM} {W : World} {L : List Snp} {s : Snp} (h : PoolIn q a l W) (hq : q.l = L ++ [s]) : ∃ b o ita itd, a = some ⟨b, o, none⟩ ∧ l.length = L.length + 1 ∧ (W.cell? ⟨b, o + L.length * 3, none⟩ = some (.int .i64 s.c) ∧ W.cell? ⟨b, o + L.length * 3 + 1, none⟩ = some (.slice ita s.it.length itd)) ∧ StrsAt W.heap.size W ita s.it := by
  have hm := h.map
  rw [hq] at hm
  have hl : l.length = L.length + 1 := by have := congrArg List.length hm; simpa using this
  have hk : L.length < l.length := by omega
  have he : l[L.length].p = s := by
    have : (l.map SnM.p)[L.length]'(by simpa using hk) = s := by simp [hm]
    simpa using this
  obtain ⟨b, o, e, hb, c0, c1, c2⟩ := h.at'.s L.length hk
  have hi := h.at'.i _ (List.getElem_mem hk)
  generalize l[L.length] = x at *
  subst he
  exact ⟨b, o, x.ita, x.itd, e, hl, ⟨c0, c1⟩, hi⟩
theorem PoolIn.nil0 {a : Option Addr} {l : List SnM} {W : World} (h : PoolIn Pl.nil a l W) : l.length = 0 := by
  have := congrArg List.length h.map
  simpa [Pl.nil] using this
theorem pin_nil (q : Pl) (a : Option Addr) (l : List SnM) (cap : Nat) (ia : Option Addr) (icap : Nat) (items : List ByteArray) (t : Int) (hk : pinB wordB q items t = false) (hi : SmallI items) (w : World) (h : PoolIn q a l w) (hS : StrsAt w.heap.size w ia items) (hE : ErrT w) :
    Calls Tryd.prog 12 #[.agg #[.slice a l.length cap, .int .i64 q.n], .slice ia items.length icap, .int .i64 t] w fun y w' => ∃ a' c', y = .returned (.tuple #[.agg #[.slice a' 0 c', .int .i64 0], .int .i64 0, .int .i64 160]) ∧ Below w.heap.size w w' := by
  obtain ⟨e1, e2, e3⟩ := pin_no hk
  refine (pin_v q Pl.nil a l cap ia icap items t 0 160 e1 e2 e3 hi w h hS hE).mono ?_
  rintro y w' ⟨a', c', l', rfl, hp, hb⟩
  rw [hp.nil0]
  exact ⟨a', c', rfl, hb⟩
theorem page_nil (q : Pl) (a : Option Addr) (l : List SnM) (cap : Nat) (c fr k t er : Int) (he : pageE wordB q c fr k t = er) (hne : er ≠ 0) (w : World) (h : PoolIn q a l w) (hE : ErrT w) :
    Calls Tryd.prog 14 #[.agg #[.slice a l.length cap, .int .i64 q.n], .int .i64 c, .int .i64 fr, .int .i64 k, .int .i64 t] w fun y w' => ∃ a' c' b d, y = .returned (.tuple #[.agg #[.slice a' 0 c', .int .i64 0], .slice b 0 d, .int .i64 0, .int .i64 er]) ∧ Below w.heap.size w w' := by
  have hn : ¬ pageE wordB q c fr k t = 0 := by rw [he]; exact hne
  refine (page_v q Pl.nil a l cap c fr k t [] 0 er (by unfold pageS; rw [if_neg hn]) (by unfold pageL; rw [if_neg hn]) (by unfold pageB; rw [if_neg hn]) he w h hE).mono ?_
  rintro y w' ⟨a', c', l', b, d, rfl, hp, hs, hb⟩
  rw [hp.nil0]
  exact ⟨a', c', b, d, rfl, hb⟩
theorem pin_last2 (q : Pl) (a : Option Addr) (l : List SnM) (cap : Nat) (ia : Option Addr) (icap : Nat) (items : List ByteArray) (t : Int) (hk : pinB wordB q items t = true) (hi : SmallI items) (w : World) (h : PoolIn q a l w) (hS : StrsAt w.heap.size w ia items) (hE : ErrT w) :
    Calls Tryd.prog 12 #[.agg #[.slice a l.length cap, .int .i64 q.n], .slice ia items.length icap, .int .i64 t] w fun y w' => ∃ b o m c' ita itd l', y = .returned (.tuple #[.agg #[.slice (some ⟨b, o, none⟩) (m + 1) c', .int .i64 (q.n + 1)], .int .i64 q.n, .int .i64 0]) ∧ ((PoolIn (pinT q items t) (some ⟨b, o, none⟩) l' w' ∧ l'.length = m + 1 ∧ m ≤ 2) ∧ (w'.cell? ⟨b, o + m * 3, none⟩ = some (.int .i64 q.n) ∧ w'.cell? ⟨b, o + m * 3 + 1, none⟩ = some (.slice ita items.length itd)) ∧ StrsAt w'.heap.size w' ita items) ∧ Below w.heap.size w w' := by
  obtain ⟨e1, e2, e3⟩ := pin_yes hk
  refine (pin_v q (pinT q items t) a l cap ia icap items t q.n 0 e1 e2 e3 hi w h hS hE).mono ?_
  rintro y w' ⟨a', c', l', rfl, hp, hb⟩
  obtain ⟨b, o, ita, itd, rfl, hl, hc, hs⟩ := last_at (L := stay (q.l.filter (fresh t))) (s := ⟨q.n, items, t⟩) hp rfl
  have hm : (stay (q.l.filter (fresh t))).length ≤ 2 := pin_len (pin_iff.1 hk).r
  refine ⟨b, o, _, c', ita, itd, l', ?_, ⟨⟨hp, hl, hm⟩, hc, hs⟩, hb⟩
  rw [hl]; rfl
theorem page_last2 (q : Pl) (a : Option Addr) (l : List SnM) (cap : Nat) (c fr k t : Int) (he : pageE wordB q c fr k t = 0) (w : World) (h : PoolIn q a l w) (hE : ErrT w) :
    Calls Tryd.prog 14 #[.agg #[.slice a l.length cap, .int .i64 q.n], .int .i64 c, .int .i64 fr, .int .i64 k, .int .i64 t] w fun y w' => ∃ b o m c' its l' b2 d2, y = .returned (.tuple #[.agg #[.slice (some ⟨b, o, none⟩) (m + 1) c', .int .i64 q.n], .slice b2 (its : List ByteArray).length d2, .int .i64 (pageB q c fr k t), .int .i64 0]) ∧ ((PoolIn (pageS q c fr k t) (some ⟨b, o, none⟩) l' w' ∧ l'.length = m + 1 ∧ (pageS q c fr k t).n = q.n ∧ l.length = m + 1) ∧ w'.cell? ⟨b, o + m * 3, none⟩ = some (.int .i64 c)) ∧ Below w.heap.size w w' := by
  obtain ⟨s, hs⟩ := page_iff.1 he
  obtain ⟨_, e1, e2, e3⟩ := page_val hs
  refine (page_v q (pageS q c fr k t) a l cap c fr k t (pageL q c fr k t) (pageB q c fr k t) 0 rfl rfl rfl he w h hE).mono ?_
  rintro y w' ⟨a', c', l', b2, d2, rfl, hp, hst, hb⟩
  have hn : (pageS q c fr k t).n = q.n := by rw [e1]; rfl
  have hsc : s.c = c := (find_mem hs.f).2
  obtain ⟨b, o, ita, itd, rfl, hl, hc, _⟩ := last_at (L := q.l.filter (fun x => decide (x.c ≠ c))) (s := { s with u := t }) hp (by rw [e1]; rfl)
  have hfl := filter_len hs.r hs.f
  have hll : l.length = q.l.length := by rw [← h.map, List.length_map]
  refine ⟨b, o, _, c', pageL q c fr k t, l', b2, d2, ?_, ⟨⟨hp, hl, hn, by omega⟩, by have := hc.1; simp only [hsc] at this; exact this⟩, hb⟩
  rw [hl, hn]
theorem pRight_L (q : Pl) (a : Option Addr) (l : List SnM) (L cap : Nat) (nn : Int) (hn : q.n = nn) (hL : l.length = L) (hr : rightP wordB q = true) (w : World) (h : PoolIn q a l w) :
    Calls Tryd.prog 16 #[.agg #[.slice a L cap, .int .i64 nn]] w fun x w' => x = .returned (.bool true) ∧ Below w.heap.size w w' := by
  subst hn hL
  exact pRight_v q a l cap true hr w h
set_option maxRecDepth 100000 in
set_option maxHeartbeats 4000000 in
theorem Wke_c (a : Option Addr) (cap : Nat) (n : Int) (l : List SnM) (hs : l.length ≤ 9223372036854775807) (hi : ∀ x ∈ l, x.it.length ≤ 9223372036854775807 ∧ ∀ s ∈ x.it, s.size ≤ 9223372036854775807) (hn : -9223372036854775808 ≤ n ∧ n ≤ 9223372036854775807) (ia : Option Addr) (icap : Nat) (items : List ByteArray) (t c fr k : Int) (his : items.length ≤ 9223372036854775807) (hiz : ∀ s ∈ items, s.size ≤ 9223372036854775807) (w : World) (hA : PlAt w.heap.size w a l) (hS : StrsAt w.heap.size w ia items) (hE : ErrT w) :
    Calls Tryd.prog 5 #[.agg #[.slice a l.length cap, .int .i64 n], .slice ia items.length icap, .int .i64 t, .int .i64 c, .int .i64 fr, .int .i64 k] w fun y w' => y = .returned (.bool true) ∧ Below w.heap.size w w' := by
  have HE := Lib.hid hE
  have HA := Lib.hid hA
  have HS := Lib.hid hS
  have HIT := Lib.hid (fun W h => Items_c ia icap items his hiz W h)
  have HCU := Lib.hid (fun W h => Cut_c a cap n l hs hi W h)
  have HQS := Lib.hid (small_cut ⟨l.map SnM.p, n⟩ hn)
  obtain ⟨q, hq⟩ : ∃ q, cutP ⟨l.map SnM.p, n⟩ = q := ⟨_, rfl⟩
  have HQN := Lib.hid (show n = q.n by rw [← hq]; rfl)
  have HQL := Lib.hid (show cutL (l.map SnM.p) = q.l by rw [← hq]; rfl)
  rw [hq] at HQS
  clear hE hA hi hs hn hq hS his hiz
  go_enter Tryd.func5, Tryd.ntmps5
  go_wp2_with fail
  have p0 : (w.alloc (.cells #[.slice a l.length cap, .int .i64 n] 24)).cell? ⟨w.heap.size, 0, none⟩ = some (.slice a l.length cap) := by go_simp
  have g0 : (w.alloc (.cells #[.slice a l.length cap, .int .i64 n] 24)).frozen? ⟨w.heap.size, 0, none⟩ = false := by go_simp
  have p1 : (w.alloc (.cells #[.slice a l.length cap, .int .i64 n] 24)).cell? ⟨w.heap.size, 1, none⟩ = some (.int .i64 n) := by go_simp
  have g1 : (w.alloc (.cells #[.slice a l.length cap, .int .i64 n] 24)).frozen? ⟨w.heap.size, 1, none⟩ = false := by go_simp
  have HB := Lib.hid (below_alloc w (.cells #[.slice a l.length cap, .int .i64 n] 24))
  refine (shown_c _ (HE.out.onB HB.out)).mono ?_
  rintro e w1 ⟨rfl, hb⟩
  replace g0 := (hb.frozen (blt p0)).trans g0
  replace g1 := (hb.frozen (blt p1)).trans g1
  replace p0 := (hb.cell (blt p0)).trans p0
  replace p1 := (hb.cell (blt p1)).trans p1
  have HB1 := Lib.hid (btr HB.out hb)
  have hz1 := blt p0
  clear hb
  go_wp2_with fail
  refine (HCU.out _ (HA.out.on HB1.out)).mono ?_
  rintro e w2 ⟨a2, c2, l2, rfl, hown, hmap, hb⟩
  replace g0 := (hb.frozen (blt p0)).trans g0
  replace g1 := (hb.frozen (blt p1)).trans g1
  replace p0 := (hb.cell (blt p0)).trans p0
  replace p1 := (hb.cell (blt p1)).trans p1
  have hp : PlAt ((w2.setCell ⟨w.heap.size, 0, none⟩ (.slice a2 l2.length c2)).setCell ⟨w.heap.size, 1, none⟩ (.int .i64 n)).heap.size ((w2.setCell ⟨w.heap.size, 0, none⟩ (.slice a2 l2.length c2)).setCell ⟨w.heap.size, 1, none⟩ (.int .i64 n)) a2 l2 := cut_store hz1 hown
  have hB2 : Below w.heap.size w ((w2.setCell ⟨w.heap.size, 0, none⟩ (.slice a2 l2.length c2)).setCell ⟨w.heap.size, 1, none⟩ (.int .i64 n)) := (((btr HB1.out hb).setCell (p := ⟨w.heap.size, 0, none⟩) (Nat.le_refl _) _).setCell (p := ⟨w.heap.size, 1, none⟩) (Nat.le_refl _) _)
  rw [HQL.out] at hmap
  clear hb hown hz1 HB HB1 HCU HA
  go_wp2_with fail
  have t0 : ((w2.setCell ⟨w.heap.size, 0, none⟩ (.slice a2 l2.length c2)).setCell ⟨w.heap.size, 1, none⟩ (.int .i64 n)).cell? ⟨w.heap.size, 0, none⟩ = some (.slice a2 l2.length c2) := by go_simp
  have t1 : ((w2.setCell ⟨w.heap.size, 0, none⟩ (.slice a2 l2.length c2)).setCell ⟨w.heap.size, 1, none⟩ (.int .i64 n)).cell? ⟨w.heap.size, 1, none⟩ = some (.int .i64 n) := by go_simp
  clear p0 p1 g0 g1
  generalize ((w2.setCell ⟨w.heap.size, 0, none⟩ (.slice a2 l2.length c2)).setCell ⟨w.heap.size, 1, none⟩ (.int .i64 n)) = T at *
  have hqn := HQN.out
  clear HQN
  subst hqn
  have HPQ := Lib.hid (show PoolIn q a2 l2 T from ⟨hp, hmap, HQS.out⟩)
  clear hp hmap HQL HQS
  have B0 := Lib.hid hB2
  have KK0 := Lib.hid (show ∀ W, Below T.heap.size T W → W.cell? ⟨w.heap.size, 0, none⟩ = some (.slice a2 l2.length c2) ∧ W.cell? ⟨w.heap.size, 1, none⟩ = some (.int .i64 q.n) from fun W h => ⟨(h.cell (p := ⟨w.heap.size, 0, none⟩) (blt t0)).trans t0, (h.cell (p := ⟨w.heap.size, 1, none⟩) (blt t1)).trans t1⟩)
  have C0_0 := Lib.hid (Below.refl T.heap.size T)
  clear hB2
  refine (HIT.out _ (StrsAt.onB HS.out B0.out)).mono ?_; rintro e w1 ⟨ia2, ic2, rfl, hs2, hb⟩
  have B1 : RowKit.Hid (Below w.heap.size w w1) := Lib.hid (btr B0.out hb)
  have C0_1 : RowKit.Hid (Below T.heap.size T w1) := Lib.hid (btr C0_0.out hb)
  have HSI := Lib.hid (OwnS.at' hs2)
  clear hs2
  clear t0 t1 hb
  obtain ⟨f1_0_0, f1_0_1⟩ := KK0.out w1 C0_1.out
  have HITS := Lib.hid (smallI_items items)
  generalize hit0 : itemsL items = its at *
  clear hit0
  have M0_1 := Lib.hid (Below.refl w1.heap.size w1)
  have HQB := Lib.hid (show l2.length ≤ 5 from HPQ.out.b1)
  cases hk : pinB wordB q its t
  · skip
    go_wp2_with fail
    refine (pin_nil q a2 l2 c2 ia2 ic2 its t hk HITS.out _ (HPQ.out.on C0_1.out) (HSI.out.onB M0_1.out) (HE.out.onB B1.out)).mono ?_; rintro e w2 ⟨a3, c3, rfl, hb⟩
    have B2 : RowKit.Hid (Below w.heap.size w (w2.alloc (.cells #[.slice a3 0 c3, .int .i64 0] 24))) := Lib.hid (bal (btr B1.out hb) _)
    have C0_2 : RowKit.Hid (Below T.heap.size T (w2.alloc (.cells #[.slice a3 0 c3, .int .i64 0] 24))) := Lib.hid (bal (btr C0_1.out hb) _)
    have M0_2 : RowKit.Hid (Below w1.heap.size w1 (w2.alloc (.cells #[.slice a3 0 c3, .int .i64 0] 24))) := Lib.hid (bal (btr M0_1.out hb) _)
    clear f1_0_0 f1_0_1 hb
    obtain ⟨f2_0_0, f2_0_1⟩ := KK0.out (w2.alloc (.cells #[.slice a3 0 c3, .int .i64 0] 24)) C0_2.out
    have f2_1_0 : (w2.alloc (.cells #[.slice a3 0 c3, .int .i64 0] 24)).cell? ⟨w2.heap.size, 0, none⟩ = some (.slice a3 0 c3) := by go_simp
    have f2_1_1 : (w2.alloc (.cells #[.slice a3 0 c3, .int .i64 0] 24)).cell? ⟨w2.heap.size, 1, none⟩ = some (.int .i64 0) := by go_simp
    have KK1 := Lib.hid (show ∀ W, Below (w2.alloc (.cells #[.slice a3 0 c3, .int .i64 0] 24)).heap.size (w2.alloc (.cells #[.slice a3 0 c3, .int .i64 0] 24)) W → W.cell? ⟨w2.heap.size, 0, none⟩ = some (.slice a3 0 c3) ∧ W.cell? ⟨w2.heap.size, 1, none⟩ = some (.int .i64 0) from fun W h => ⟨(h.cell (p := ⟨w2.heap.size, 0, none⟩) (blt f2_1_0)).trans f2_1_0, (h.cell (p := ⟨w2.heap.size, 1, none⟩) (blt f2_1_1)).trans f2_1_1⟩)
    have C1_2 := Lib.hid (Below.refl (w2.alloc (.cells #[.slice a3 0 c3, .int .i64 0] 24)).heap.size (w2.alloc (.cells #[.slice a3 0 c3, .int .i64 0] 24)))
    by_cases hp0 : pageE wordB q c fr k t = 0
    · skip
      go_wp2_with fail
      refine (page_last2 q a2 l2 c2 c fr k t hp0 _ (HPQ.out.on C0_2.out) (HE.out.onB B2.out)).mono ?_; rintro e w3 ⟨b5, o5, m5, c5, its5, l5, bb5, d5, rfl, ⟨hp, hc0⟩, hb⟩
      have B3 : RowKit.Hid (Below w.heap.size w (w3.alloc (.cells #[.slice (some ⟨b5, o5, none⟩) (m5 + 1) c5, .int .i64 q.n] 24))) := Lib.hid (bal (btr B2.out hb) _)
      have C0_3 : RowKit.Hid (Below T.heap.size T (w3.alloc (.cells #[.slice (some ⟨b5, o5, none⟩) (m5 + 1) c5, .int .i64 q.n] 24))) := Lib.hid (bal (btr C0_2.out hb) _)
      have C1_3 : RowKit.Hid (Below (w2.alloc (.cells #[.slice a3 0 c3, .int .i64 0] 24)).heap.size (w2.alloc (.cells #[.slice a3 0 c3, .int .i64 0] 24)) (w3.alloc (.cells #[.slice (some ⟨b5, o5, none⟩) (m5 + 1) c5, .int .i64 q.n] 24))) := Lib.hid (bal (btr C1_2.out hb) _)
      have M0_3 : RowKit.Hid (Below w1.heap.size w1 (w3.alloc (.cells #[.slice (some ⟨b5, o5, none⟩) (m5 + 1) c5, .int .i64 q.n] 24))) := Lib.hid (bal (btr M0_2.out hb) _)
      have HP5 := Lib.hid (hp.1.on (show Below w3.heap.size w3 (w3.alloc (.cells #[.slice (some ⟨b5, o5, none⟩) (m5 + 1) c5, .int .i64 q.n] 24)) from (bal (Below.refl w3.heap.size w3) _)))
      have HL5 := Lib.hid hp.2
      have k5 := (show Below w3.heap.size w3 (w3.alloc (.cells #[.slice (some ⟨b5, o5, none⟩) (m5 + 1) c5, .int .i64 q.n] 24)) from (show Below w3.heap.size w3 (w3.alloc (.cells #[.slice (some ⟨b5, o5, none⟩) (m5 + 1) c5, .int .i64 q.n] 24)) from (bal (Below.refl w3.heap.size w3) _))).cell (blt hc0) |>.trans hc0
      clear hp hc0
      clear f2_0_0 f2_0_1 f2_1_0 f2_1_1 hb
      obtain ⟨f3_0_0, f3_0_1⟩ := KK0.out (w3.alloc (.cells #[.slice (some ⟨b5, o5, none⟩) (m5 + 1) c5, .int .i64 q.n] 24)) C0_3.out
      obtain ⟨f3_1_0, f3_1_1⟩ := KK1.out (w3.alloc (.cells #[.slice (some ⟨b5, o5, none⟩) (m5 + 1) c5, .int .i64 q.n] 24)) C1_3.out
      have f3_2_0 : (w3.alloc (.cells #[.slice (some ⟨b5, o5, none⟩) (m5 + 1) c5, .int .i64 q.n] 24)).cell? ⟨w3.heap.size, 0, none⟩ = some (.slice (some ⟨b5, o5, none⟩) (m5 + 1) c5) := by go_simp
      have f3_2_1 : (w3.alloc (.cells #[.slice (some ⟨b5, o5, none⟩) (m5 + 1) c5, .int .i64 q.n] 24)).cell? ⟨w3.heap.size, 1, none⟩ = some (.int .i64 q.n) := by go_simp
      have KK2 := Lib.hid (show ∀ W, Below (w3.alloc (.cells #[.slice (some ⟨b5, o5, none⟩) (m5 + 1) c5, .int .i64 q.n] 24)).heap.size (w3.alloc (.cells #[.slice (some ⟨b5, o5, none⟩) (m5 + 1) c5, .int .i64 q.n] 24)) W → W.cell? ⟨w3.heap.size, 0, none⟩ = some (.slice (some ⟨b5, o5, none⟩) (m5 + 1) c5) ∧ W.cell? ⟨w3.heap.size, 1, none⟩ = some (.int .i64 q.n) from fun W h => ⟨(h.cell (p := ⟨w3.heap.size, 0, none⟩) (blt f3_2_0)).trans f3_2_0, (h.cell (p := ⟨w3.heap.size, 1, none⟩) (blt f3_2_1)).trans f3_2_1⟩)
      have C2_3 := Lib.hid (Below.refl (w3.alloc (.cells #[.slice (some ⟨b5, o5, none⟩) (m5 + 1) c5, .int .i64 q.n] 24)).heap.size (w3.alloc (.cells #[.slice (some ⟨b5, o5, none⟩) (m5 + 1) c5, .int .i64 q.n] 24)))
      have KK3 := Lib.hid (show ∀ W, Below (w3.alloc (.cells #[.slice (some ⟨b5, o5, none⟩) (m5 + 1) c5, .int .i64 q.n] 24)).heap.size (w3.alloc (.cells #[.slice (some ⟨b5, o5, none⟩) (m5 + 1) c5, .int .i64 q.n] 24)) W → W.cell? ⟨b5, o5 + m5 * 3, none⟩ = some (.int .i64 c) from fun W h => (h.cell (p := ⟨b5, o5 + m5 * 3, none⟩) (blt k5)).trans k5)
      have C3_3 := Lib.hid (Below.refl (w3.alloc (.cells #[.slice (some ⟨b5, o5, none⟩) (m5 + 1) c5, .int .i64 q.n] 24)).heap.size (w3.alloc (.cells #[.slice (some ⟨b5, o5, none⟩) (m5 + 1) c5, .int .i64 q.n] 24)))
      have hm5 : m5 ≤ 5 := by have := HL5.out.2.2; have := HQB.out; omega
      have hl2m : l2.length = m5 + 1 := HL5.out.2.2
      have HRP := Lib.hid (right_iff.2 (pageS_right hp0).1)
      clear hp0
      have hw5 : IntKind.i64.wrap (((m5 + 1 : Nat) : Int) - 1) = (m5 : Int) := (IntWalk.i64_in _ (by omega)).trans (by omega)
      have hw6 : ((m5 + 1 : Nat) : Int) - 1 = (m5 : Int) := by omega
      have hw7 : m5 < m5 + 1 := by omega
      have hw8 : (m5 : Int) ≥ 0 := by omega
      go_wp2_with fail
      refine (pRight_L _ _ l5 (m5 + 1) c5 q.n HL5.out.2.1 HL5.out.1 HRP.out _ (HP5.out.on C2_3.out)).mono ?_; rintro e w4 ⟨rfl, hb⟩
      have B4 : RowKit.Hid (Below w.heap.size w w4) := Lib.hid (btr B3.out hb)
      have C0_4 : RowKit.Hid (Below T.heap.size T w4) := Lib.hid (btr C0_3.out hb)
      have C1_4 : RowKit.Hid (Below (w2.alloc (.cells #[.slice a3 0 c3, .int .i64 0] 24)).heap.size (w2.alloc (.cells #[.slice a3 0 c3, .int .i64 0] 24)) w4) := Lib.hid (btr C1_3.out hb)
      have C2_4 : RowKit.Hid (Below (w3.alloc (.cells #[.slice (some ⟨b5, o5, none⟩) (m5 + 1) c5, .int .i64 q.n] 24)).heap.size (w3.alloc (.cells #[.slice (some ⟨b5, o5, none⟩) (m5 + 1) c5, .int .i64 q.n] 24)) w4) := Lib.hid (btr C2_3.out hb)
      have C3_4 : RowKit.Hid (Below (w3.alloc (.cells #[.slice (some ⟨b5, o5, none⟩) (m5 + 1) c5, .int .i64 q.n] 24)).heap.size (w3.alloc (.cells #[.slice (some ⟨b5, o5, none⟩) (m5 + 1) c5, .int .i64 q.n] 24)) w4) := Lib.hid (btr C3_3.out hb)
      have M0_4 : RowKit.Hid (Below w1.heap.size w1 w4) := Lib.hid (btr M0_3.out hb)
      clear f3_0_0 f3_0_1 f3_1_0 f3_1_1 f3_2_0 f3_2_1 k5 hb
      obtain ⟨f4_0_0, f4_0_1⟩ := KK0.out w4 C0_4.out
      obtain ⟨f4_1_0, f4_1_1⟩ := KK1.out w4 C1_4.out
      obtain ⟨f4_2_0, f4_2_1⟩ := KK2.out w4 C2_4.out
      have f4_3_0 := KK3.out w4 C3_4.out
      go_wp2
      go_ret
      exact ⟨rfl, B4.out⟩
    · skip
      obtain ⟨ee, hee⟩ : ∃ ee, pageE wordB q c fr k t = ee := ⟨_, rfl⟩
      rw [hee] at hp0
      have he1 : (ee == 0) = false := by simpa using hp0
      have he2 : (ee != 0) = true := by simpa using hp0
      go_wp2_with fail
      refine (page_nil q a2 l2 c2 c fr k t ee hee hp0 _ (HPQ.out.on C0_2.out) (HE.out.onB B2.out)).mono ?_; rintro e w3 ⟨a5, c5, bb5, d5, rfl, hb⟩
      have B3 : RowKit.Hid (Below w.heap.size w (w3.alloc (.cells #[.slice a5 0 c5, .int .i64 0] 24))) := Lib.hid (bal (btr B2.out hb) _)
      have C0_3 : RowKit.Hid (Below T.heap.size T (w3.alloc (.cells #[.slice a5 0 c5, .int .i64 0] 24))) := Lib.hid (bal (btr C0_2.out hb) _)
      have C1_3 : RowKit.Hid (Below (w2.alloc (.cells #[.slice a3 0 c3, .int .i64 0] 24)).heap.size (w2.alloc (.cells #[.slice a3 0 c3, .int .i64 0] 24)) (w3.alloc (.cells #[.slice a5 0 c5, .int .i64 0] 24))) := Lib.hid (bal (btr C1_2.out hb) _)
      have M0_3 : RowKit.Hid (Below w1.heap.size w1 (w3.alloc (.cells #[.slice a5 0 c5, .int .i64 0] 24))) := Lib.hid (bal (btr M0_2.out hb) _)
      clear f2_0_0 f2_0_1 f2_1_0 f2_1_1 hb
      obtain ⟨f3_0_0, f3_0_1⟩ := KK0.out (w3.alloc (.cells #[.slice a5 0 c5, .int .i64 0] 24)) C0_3.out
      obtain ⟨f3_1_0, f3_1_1⟩ := KK1.out (w3.alloc (.cells #[.slice a5 0 c5, .int .i64 0] 24)) C1_3.out
      have f3_2_0 : (w3.alloc (.cells #[.slice a5 0 c5, .int .i64 0] 24)).cell? ⟨w3.heap.size, 0, none⟩ = some (.slice a5 0 c5) := by go_simp
      have f3_2_1 : (w3.alloc (.cells #[.slice a5 0 c5, .int .i64 0] 24)).cell? ⟨w3.heap.size, 1, none⟩ = some (.int .i64 0) := by go_simp
      have KK2 := Lib.hid (show ∀ W, Below (w3.alloc (.cells #[.slice a5 0 c5, .int .i64 0] 24)).heap.size (w3.alloc (.cells #[.slice a5 0 c5, .int .i64 0] 24)) W → W.cell? ⟨w3.heap.size, 0, none⟩ = some (.slice a5 0 c5) ∧ W.cell? ⟨w3.heap.size, 1, none⟩ = some (.int .i64 0) from fun W h => ⟨(h.cell (p := ⟨w3.heap.size, 0, none⟩) (blt f3_2_0)).trans f3_2_0, (h.cell (p := ⟨w3.heap.size, 1, none⟩) (blt f3_2_1)).trans f3_2_1⟩)
      have C2_3 := Lib.hid (Below.refl (w3.alloc (.cells #[.slice a5 0 c5, .int .i64 0] 24)).heap.size (w3.alloc (.cells #[.slice a5 0 c5, .int .i64 0] 24)))
      go_wp2
      go_ret
      exact ⟨rfl, B3.out⟩
  · skip
    go_wp2_with fail
    refine (pin_last2 q a2 l2 c2 ia2 ic2 its t hk HITS.out _ (HPQ.out.on C0_1.out) (HSI.out.onB M0_1.out) (HE.out.onB B1.out)).mono ?_; rintro e w2 ⟨b3, o3, m3, c3, ita3, itd3, l3, rfl, ⟨hp, hc, hst⟩, hb⟩
    have B2 : RowKit.Hid (Below w.heap.size w (w2.alloc (.cells #[.slice (some ⟨b3, o3, none⟩) (m3 + 1) c3, .int .i64 (q.n + 1)] 24))) := Lib.hid (bal (btr B1.out hb) _)
    have C0_2 : RowKit.Hid (Below T.heap.size T (w2.alloc (.cells #[.slice (some ⟨b3, o3, none⟩) (m3 + 1) c3, .int .i64 (q.n + 1)] 24))) := Lib.hid (bal (btr C0_1.out hb) _)
    have M0_2 : RowKit.Hid (Below w1.heap.size w1 (w2.alloc (.cells #[.slice (some ⟨b3, o3, none⟩) (m3 + 1) c3, .int .i64 (q.n + 1)] 24))) := Lib.hid (bal (btr M0_1.out hb) _)
    have HP3 := Lib.hid (hp.1.on (show Below w2.heap.size w2 (w2.alloc (.cells #[.slice (some ⟨b3, o3, none⟩) (m3 + 1) c3, .int .i64 (q.n + 1)] 24)) from (bal (Below.refl w2.heap.size w2) _)))
    have HL3 := Lib.hid hp.2
    have hm3 := hp.2.2
    have HS3 := Lib.hid (hst.onB (show Below w2.heap.size w2 (w2.alloc (.cells #[.slice (some ⟨b3, o3, none⟩) (m3 + 1) c3, .int .i64 (q.n + 1)] 24)) from (bal (Below.refl w2.heap.size w2) _)))
    have k30 := (show Below w2.heap.size w2 (w2.alloc (.cells #[.slice (some ⟨b3, o3, none⟩) (m3 + 1) c3, .int .i64 (q.n + 1)] 24)) from (show Below w2.heap.size w2 (w2.alloc (.cells #[.slice (some ⟨b3, o3, none⟩) (m3 + 1) c3, .int .i64 (q.n + 1)] 24)) from (bal (Below.refl w2.heap.size w2) _))).cell (blt hc.1) |>.trans hc.1
    have k31 := (show Below w2.heap.size w2 (w2.alloc (.cells #[.slice (some ⟨b3, o3, none⟩) (m3 + 1) c3, .int .i64 (q.n + 1)] 24)) from (show Below w2.heap.size w2 (w2.alloc (.cells #[.slice (some ⟨b3, o3, none⟩) (m3 + 1) c3, .int .i64 (q.n + 1)] 24)) from (bal (Below.refl w2.heap.size w2) _))).cell (blt hc.2) |>.trans hc.2
    clear hp hc hst
    clear f1_0_0 f1_0_1 hb
    obtain ⟨f2_0_0, f2_0_1⟩ := KK0.out (w2.alloc (.cells #[.slice (some ⟨b3, o3, none⟩) (m3 + 1) c3, .int .i64 (q.n + 1)] 24)) C0_2.out
    have f2_1_0 : (w2.alloc (.cells #[.slice (some ⟨b3, o3, none⟩) (m3 + 1) c3, .int .i64 (q.n + 1)] 24)).cell? ⟨w2.heap.size, 0, none⟩ = some (.slice (some ⟨b3, o3, none⟩) (m3 + 1) c3) := by go_simp
    have f2_1_1 : (w2.alloc (.cells #[.slice (some ⟨b3, o3, none⟩) (m3 + 1) c3, .int .i64 (q.n + 1)] 24)).cell? ⟨w2.heap.size, 1, none⟩ = some (.int .i64 (q.n + 1)) := by go_simp
    have KK1 := Lib.hid (show ∀ W, Below (w2.alloc (.cells #[.slice (some ⟨b3, o3, none⟩) (m3 + 1) c3, .int .i64 (q.n + 1)] 24)).heap.size (w2.alloc (.cells #[.slice (some ⟨b3, o3, none⟩) (m3 + 1) c3, .int .i64 (q.n + 1)] 24)) W → W.cell? ⟨w2.heap.size, 0, none⟩ = some (.slice (some ⟨b3, o3, none⟩) (m3 + 1) c3) ∧ W.cell? ⟨w2.heap.size, 1, none⟩ = some (.int .i64 (q.n + 1)) from fun W h => ⟨(h.cell (p := ⟨w2.heap.size, 0, none⟩) (blt f2_1_0)).trans f2_1_0, (h.cell (p := ⟨w2.heap.size, 1, none⟩) (blt f2_1_1)).trans f2_1_1⟩)
    have C1_2 := Lib.hid (Below.refl (w2.alloc (.cells #[.slice (some ⟨b3, o3, none⟩) (m3 + 1) c3, .int .i64 (q.n + 1)] 24)).heap.size (w2.alloc (.cells #[.slice (some ⟨b3, o3, none⟩) (m3 + 1) c3, .int .i64 (q.n + 1)] 24)))
    have KK2 := Lib.hid (show ∀ W, Below (w2.alloc (.cells #[.slice (some ⟨b3, o3, none⟩) (m3 + 1) c3, .int .i64 (q.n + 1)] 24)).heap.size (w2.alloc (.cells #[.slice (some ⟨b3, o3, none⟩) (m3 + 1) c3, .int .i64 (q.n + 1)] 24)) W → W.cell? ⟨b3, o3 + m3 * 3, none⟩ = some (.int .i64 q.n) ∧ W.cell? ⟨b3, o3 + m3 * 3 + 1, none⟩ = some (.slice ita3 its.length itd3) from fun W h => ⟨(h.cell (p := ⟨b3, o3 + m3 * 3, none⟩) (blt k30)).trans k30, (h.cell (p := ⟨b3, o3 + m3 * 3 + 1, none⟩) (blt k31)).trans k31⟩)
    have C2_2 := Lib.hid (Below.refl (w2.alloc (.cells #[.slice (some ⟨b3, o3, none⟩) (m3 + 1) c3, .int .i64 (q.n + 1)] 24)).heap.size (w2.alloc (.cells #[.slice (some ⟨b3, o3, none⟩) (m3 + 1) c3, .int .i64 (q.n + 1)] 24)))
    have HRQ := Lib.hid (right_iff.2 (pin_right hk))
    clear hk
    have hv5 : IntKind.i64.wrap (((m3 + 1 : Nat) : Int) - 1) = (m3 : Int) := (IntWalk.i64_in _ (by omega)).trans (by omega)
    have hv6 : ((m3 + 1 : Nat) : Int) - 1 = (m3 : Int) := by omega
    have hv7 : m3 < m3 + 1 := by omega
    have hv8 : (m3 : Int) ≥ 0 := by omega
    have hv9 : (m3 : Int) < 3 := by omega
    by_cases hp0 : pageE wordB q c fr k t = 0
    · skip
      go_wp2_with fail
      refine (page_last2 q a2 l2 c2 c fr k t hp0 _ (HPQ.out.on C0_2.out) (HE.out.onB B2.out)).mono ?_; rintro e w3 ⟨b5, o5, m5, c5, its5, l5, bb5, d5, rfl, ⟨hp, hc0⟩, hb⟩
      have B3 : RowKit.Hid (Below w.heap.size w (w3.alloc (.cells #[.slice (some ⟨b5, o5, none⟩) (m5 + 1) c5, .int .i64 q.n] 24))) := Lib.hid (bal (btr B2.out hb) _)
      have C0_3 : RowKit.Hid (Below T.heap.size T (w3.alloc (.cells #[.slice (some ⟨b5, o5, none⟩) (m5 + 1) c5, .int .i64 q.n] 24))) := Lib.hid (bal (btr C0_2.out hb) _)
      have C1_3 : RowKit.Hid (Below (w2.alloc (.cells #[.slice (some ⟨b3, o3, none⟩) (m3 + 1) c3, .int .i64 (q.n + 1)] 24)).heap.size (w2.alloc (.cells #[.slice (some ⟨b3, o3, none⟩) (m3 + 1) c3, .int .i64 (q.n + 1)] 24)) (w3.alloc (.cells #[.slice (some ⟨b5, o5, none⟩) (m5 + 1) c5, .int .i64 q.n] 24))) := Lib.hid (bal (btr C1_2.out hb) _)
      have C2_3 : RowKit.Hid (Below (w2.alloc (.cells #[.slice (some ⟨b3, o3, none⟩) (m3 + 1) c3, .int .i64 (q.n + 1)] 24)).heap.size (w2.alloc (.cells #[.slice (some ⟨b3, o3, none⟩) (m3 + 1) c3, .int .i64 (q.n + 1)] 24)) (w3.alloc (.cells #[.slice (some ⟨b5, o5, none⟩) (m5 + 1) c5, .int .i64 q.n] 24))) := Lib.hid (bal (btr C2_2.out hb) _)
      have M0_3 : RowKit.Hid (Below w1.heap.size w1 (w3.alloc (.cells #[.slice (some ⟨b5, o5, none⟩) (m5 + 1) c5, .int .i64 q.n] 24))) := Lib.hid (bal (btr M0_2.out hb) _)
      have HP5 := Lib.hid (hp.1.on (show Below w3.heap.size w3 (w3.alloc (.cells #[.slice (some ⟨b5, o5, none⟩) (m5 + 1) c5, .int .i64 q.n] 24)) from (bal (Below.refl w3.heap.size w3) _)))
      have HL5 := Lib.hid hp.2
      have k5 := (show Below w3.heap.size w3 (w3.alloc (.cells #[.slice (some ⟨b5, o5, none⟩) (m5 + 1) c5, .int .i64 q.n] 24)) from (show Below w3.heap.size w3 (w3.alloc (.cells #[.slice (some ⟨b5, o5, none⟩) (m5 + 1) c5, .int .i64 q.n] 24)) from (bal (Below.refl w3.heap.size w3) _))).cell (blt hc0) |>.trans hc0
      clear hp hc0
      clear f2_0_0 f2_0_1 f2_1_0 f2_1_1 k30 k31 hb
      obtain ⟨f3_0_0, f3_0_1⟩ := KK0.out (w3.alloc (.cells #[.slice (some ⟨b5, o5, none⟩) (m5 + 1) c5, .int .i64 q.n] 24)) C0_3.out
      obtain ⟨f3_1_0, f3_1_1⟩ := KK1.out (w3.alloc (.cells #[.slice (some ⟨b5, o5, none⟩) (m5 + 1) c5, .int .i64 q.n] 24)) C1_3.out
      obtain ⟨f3_2_0, f3_2_1⟩ := KK2.out (w3.alloc (.cells #[.slice (some ⟨b5, o5, none⟩) (m5 + 1) c5, .int .i64 q.n] 24)) C2_3.out
      have f3_3_0 : (w3.alloc (.cells #[.slice (some ⟨b5, o5, none⟩) (m5 + 1) c5, .int .i64 q.n] 24)).cell? ⟨w3.heap.size, 0, none⟩ = some (.slice (some ⟨b5, o5, none⟩) (m5 + 1) c5) := by go_simp
      have f3_3_1 : (w3.alloc (.cells #[.slice (some ⟨b5, o5, none⟩) (m5 + 1) c5, .int .i64 q.n] 24)).cell? ⟨w3.heap.size, 1, none⟩ = some (.int .i64 q.n) := by go_simp
      have KK3 := Lib.hid (show ∀ W, Below (w3.alloc (.cells #[.slice (some ⟨b5, o5, none⟩) (m5 + 1) c5, .int .i64 q.n] 24)).heap.size (w3.alloc (.cells #[.slice (some ⟨b5, o5, none⟩) (m5 + 1) c5, .int .i64 q.n] 24)) W → W.cell? ⟨w3.heap.size, 0, none⟩ = some (.slice (some ⟨b5, o5, none⟩) (m5 + 1) c5) ∧ W.cell? ⟨w3.heap.size, 1, none⟩ = some (.int .i64 q.n) from fun W h => ⟨(h.cell (p := ⟨w3.heap.size, 0, none⟩) (blt f3_3_0)).trans f3_3_0, (h.cell (p := ⟨w3.heap.size, 1, none⟩) (blt f3_3_1)).trans f3_3_1⟩)
      have C3_3 := Lib.hid (Below.refl (w3.alloc (.cells #[.slice (some ⟨b5, o5, none⟩) (m5 + 1) c5, .int .i64 q.n] 24)).heap.size (w3.alloc (.cells #[.slice (some ⟨b5, o5, none⟩) (m5 + 1) c5, .int .i64 q.n] 24)))
      have KK4 := Lib.hid (show ∀ W, Below (w3.alloc (.cells #[.slice (some ⟨b5, o5, none⟩) (m5 + 1) c5, .int .i64 q.n] 24)).heap.size (w3.alloc (.cells #[.slice (some ⟨b5, o5, none⟩) (m5 + 1) c5, .int .i64 q.n] 24)) W → W.cell? ⟨b5, o5 + m5 * 3, none⟩ = some (.int .i64 c) from fun W h => (h.cell (p := ⟨b5, o5 + m5 * 3, none⟩) (blt k5)).trans k5)
      have C4_3 := Lib.hid (Below.refl (w3.alloc (.cells #[.slice (some ⟨b5, o5, none⟩) (m5 + 1) c5, .int .i64 q.n] 24)).heap.size (w3.alloc (.cells #[.slice (some ⟨b5, o5, none⟩) (m5 + 1) c5, .int .i64 q.n] 24)))
      have hm5 : m5 ≤ 5 := by have := HL5.out.2.2; have := HQB.out; omega
      have hl2m : l2.length = m5 + 1 := HL5.out.2.2
      have HRP := Lib.hid (right_iff.2 (pageS_right hp0).1)
      clear hp0
      have hw5 : IntKind.i64.wrap (((m5 + 1 : Nat) : Int) - 1) = (m5 : Int) := (IntWalk.i64_in _ (by omega)).trans (by omega)
      have hw6 : ((m5 + 1 : Nat) : Int) - 1 = (m5 : Int) := by omega
      have hw7 : m5 < m5 + 1 := by omega
      have hw8 : (m5 : Int) ≥ 0 := by omega
      go_wp2_with fail
      refine (pRight_L _ _ l3 (m3 + 1) c3 (q.n + 1) rfl HL3.out.1 HRQ.out _ (HP3.out.on C1_3.out)).mono ?_; rintro e w4 ⟨rfl, hb⟩
      have B4 : RowKit.Hid (Below w.heap.size w w4) := Lib.hid (btr B3.out hb)
      have C0_4 : RowKit.Hid (Below T.heap.size T w4) := Lib.hid (btr C0_3.out hb)
      have C1_4 : RowKit.Hid (Below (w2.alloc (.cells #[.slice (some ⟨b3, o3, none⟩) (m3 + 1) c3, .int .i64 (q.n + 1)] 24)).heap.size (w2.alloc (.cells #[.slice (some ⟨b3, o3, none⟩) (m3 + 1) c3, .int .i64 (q.n + 1)] 24)) w4) := Lib.hid (btr C1_3.out hb)
      have C2_4 : RowKit.Hid (Below (w2.alloc (.cells #[.slice (some ⟨b3, o3, none⟩) (m3 + 1) c3, .int .i64 (q.n + 1)] 24)).heap.size (w2.alloc (.cells #[.slice (some ⟨b3, o3, none⟩) (m3 + 1) c3, .int .i64 (q.n + 1)] 24)) w4) := Lib.hid (btr C2_3.out hb)
      have C3_4 : RowKit.Hid (Below (w3.alloc (.cells #[.slice (some ⟨b5, o5, none⟩) (m5 + 1) c5, .int .i64 q.n] 24)).heap.size (w3.alloc (.cells #[.slice (some ⟨b5, o5, none⟩) (m5 + 1) c5, .int .i64 q.n] 24)) w4) := Lib.hid (btr C3_3.out hb)
      have C4_4 : RowKit.Hid (Below (w3.alloc (.cells #[.slice (some ⟨b5, o5, none⟩) (m5 + 1) c5, .int .i64 q.n] 24)).heap.size (w3.alloc (.cells #[.slice (some ⟨b5, o5, none⟩) (m5 + 1) c5, .int .i64 q.n] 24)) w4) := Lib.hid (btr C4_3.out hb)
      have M0_4 : RowKit.Hid (Below w1.heap.size w1 w4) := Lib.hid (btr M0_3.out hb)
      clear f3_0_0 f3_0_1 f3_1_0 f3_1_1 f3_2_0 f3_2_1 f3_3_0 f3_3_1 k5 hb
      obtain ⟨f4_0_0, f4_0_1⟩ := KK0.out w4 C0_4.out
      obtain ⟨f4_1_0, f4_1_1⟩ := KK1.out w4 C1_4.out
      obtain ⟨f4_2_0, f4_2_1⟩ := KK2.out w4 C2_4.out
      obtain ⟨f4_3_0, f4_3_1⟩ := KK3.out w4 C3_4.out
      have f4_4_0 := KK4.out w4 C4_4.out
      go_wp2_with fail
      refine (same_v ita3 ia2 itd3 ic2 its its true (by simp) _ (by have := HITS.out.1; omega) (by have := HITS.out.1; omega) (HS3.out.onB C1_4.out) (HSI.out.onB M0_4.out)).mono ?_; rintro e w5 ⟨rfl, hb⟩
      have B5 : RowKit.Hid (Below w.heap.size w w5) := Lib.hid (btr B4.out hb)
      have C0_5 : RowKit.Hid (Below T.heap.size T w5) := Lib.hid (btr C0_4.out hb)
      have C1_5 : RowKit.Hid (Below (w2.alloc (.cells #[.slice (some ⟨b3, o3, none⟩) (m3 + 1) c3, .int .i64 (q.n + 1)] 24)).heap.size (w2.alloc (.cells #[.slice (some ⟨b3, o3, none⟩) (m3 + 1) c3, .int .i64 (q.n + 1)] 24)) w5) := Lib.hid (btr C1_4.out hb)
      have C2_5 : RowKit.Hid (Below (w2.alloc (.cells #[.slice (some ⟨b3, o3, none⟩) (m3 + 1) c3, .int .i64 (q.n + 1)] 24)).heap.size (w2.alloc (.cells #[.slice (some ⟨b3, o3, none⟩) (m3 + 1) c3, .int .i64 (q.n + 1)] 24)) w5) := Lib.hid (btr C2_4.out hb)
      have C3_5 : RowKit.Hid (Below (w3.alloc (.cells #[.slice (some ⟨b5, o5, none⟩) (m5 + 1) c5, .int .i64 q.n] 24)).heap.size (w3.alloc (.cells #[.slice (some ⟨b5, o5, none⟩) (m5 + 1) c5, .int .i64 q.n] 24)) w5) := Lib.hid (btr C3_4.out hb)
      have C4_5 : RowKit.Hid (Below (w3.alloc (.cells #[.slice (some ⟨b5, o5, none⟩) (m5 + 1) c5, .int .i64 q.n] 24)).heap.size (w3.alloc (.cells #[.slice (some ⟨b5, o5, none⟩) (m5 + 1) c5, .int .i64 q.n] 24)) w5) := Lib.hid (btr C4_4.out hb)
      have M0_5 : RowKit.Hid (Below w1.heap.size w1 w5) := Lib.hid (btr M0_4.out hb)
      clear f4_0_0 f4_0_1 f4_1_0 f4_1_1 f4_2_0 f4_2_1 f4_3_0 f4_3_1 f4_4_0 hb
      obtain ⟨f5_0_0, f5_0_1⟩ := KK0.out w5 C0_5.out
      obtain ⟨f5_1_0, f5_1_1⟩ := KK1.out w5 C1_5.out
      obtain ⟨f5_2_0, f5_2_1⟩ := KK2.out w5 C2_5.out
      obtain ⟨f5_3_0, f5_3_1⟩ := KK3.out w5 C3_5.out
      have f5_4_0 := KK4.out w5 C4_5.out
      go_wp2_with fail
      refine (pRight_L _ _ l5 (m5 + 1) c5 q.n HL5.out.2.1 HL5.out.1 HRP.out _ (HP5.out.on C3_5.out)).mono ?_; rintro e w6 ⟨rfl, hb⟩
      have B6 : RowKit.Hid (Below w.heap.size w w6) := Lib.hid (btr B5.out hb)
      have C0_6 : RowKit.Hid (Below T.heap.size T w6) := Lib.hid (btr C0_5.out hb)
      have C1_6 : RowKit.Hid (Below (w2.alloc (.cells #[.slice (some ⟨b3, o3, none⟩) (m3 + 1) c3, .int .i64 (q.n + 1)] 24)).heap.size (w2.alloc (.cells #[.slice (some ⟨b3, o3, none⟩) (m3 + 1) c3, .int .i64 (q.n + 1)] 24)) w6) := Lib.hid (btr C1_5.out hb)
      have C2_6 : RowKit.Hid (Below (w2.alloc (.cells #[.slice (some ⟨b3, o3, none⟩) (m3 + 1) c3, .int .i64 (q.n + 1)] 24)).heap.size (w2.alloc (.cells #[.slice (some ⟨b3, o3, none⟩) (m3 + 1) c3, .int .i64 (q.n + 1)] 24)) w6) := Lib.hid (btr C2_5.out hb)
      have C3_6 : RowKit.Hid (Below (w3.alloc (.cells #[.slice (some ⟨b5, o5, none⟩) (m5 + 1) c5, .int .i64 q.n] 24)).heap.size (w3.alloc (.cells #[.slice (some ⟨b5, o5, none⟩) (m5 + 1) c5, .int .i64 q.n] 24)) w6) := Lib.hid (btr C3_5.out hb)
      have C4_6 : RowKit.Hid (Below (w3.alloc (.cells #[.slice (some ⟨b5, o5, none⟩) (m5 + 1) c5, .int .i64 q.n] 24)).heap.size (w3.alloc (.cells #[.slice (some ⟨b5, o5, none⟩) (m5 + 1) c5, .int .i64 q.n] 24)) w6) := Lib.hid (btr C4_5.out hb)
      have M0_6 : RowKit.Hid (Below w1.heap.size w1 w6) := Lib.hid (btr M0_5.out hb)
      clear f5_0_0 f5_0_1 f5_1_0 f5_1_1 f5_2_0 f5_2_1 f5_3_0 f5_3_1 f5_4_0 hb
      obtain ⟨f6_0_0, f6_0_1⟩ := KK0.out w6 C0_6.out
      obtain ⟨f6_1_0, f6_1_1⟩ := KK1.out w6 C1_6.out
      obtain ⟨f6_2_0, f6_2_1⟩ := KK2.out w6 C2_6.out
      obtain ⟨f6_3_0, f6_3_1⟩ := KK3.out w6 C3_6.out
      have f6_4_0 := KK4.out w6 C4_6.out
      go_wp2
      go_ret
      exact ⟨rfl, B6.out⟩
    · skip
      obtain ⟨ee, hee⟩ : ∃ ee, pageE wordB q c fr k t = ee := ⟨_, rfl⟩
      rw [hee] at hp0
      have he1 : (ee == 0) = false := by simpa using hp0
      have he2 : (ee != 0) = true := by simpa using hp0
      go_wp2_with fail
      refine (page_nil q a2 l2 c2 c fr k t ee hee hp0 _ (HPQ.out.on C0_2.out) (HE.out.onB B2.out)).mono ?_; rintro e w3 ⟨a5, c5, bb5, d5, rfl, hb⟩
      have B3 : RowKit.Hid (Below w.heap.size w (w3.alloc (.cells #[.slice a5 0 c5, .int .i64 0] 24))) := Lib.hid (bal (btr B2.out hb) _)
      have C0_3 : RowKit.Hid (Below T.heap.size T (w3.alloc (.cells #[.slice a5 0 c5, .int .i64 0] 24))) := Lib.hid (bal (btr C0_2.out hb) _)
      have C1_3 : RowKit.Hid (Below (w2.alloc (.cells #[.slice (some ⟨b3, o3, none⟩) (m3 + 1) c3, .int .i64 (q.n + 1)] 24)).heap.size (w2.alloc (.cells #[.slice (some ⟨b3, o3, none⟩) (m3 + 1) c3, .int .i64 (q.n + 1)] 24)) (w3.alloc (.cells #[.slice a5 0 c5, .int .i64 0] 24))) := Lib.hid (bal (btr C1_2.out hb) _)
      have C2_3 : RowKit.Hid (Below (w2.alloc (.cells #[.slice (some ⟨b3, o3, none⟩) (m3 + 1) c3, .int .i64 (q.n + 1)] 24)).heap.size (w2.alloc (.cells #[.slice (some ⟨b3, o3, none⟩) (m3 + 1) c3, .int .i64 (q.n + 1)] 24)) (w3.alloc (.cells #[.slice a5 0 c5, .int .i64 0] 24))) := Lib.hid (bal (btr C2_2.out hb) _)
      have M0_3 : RowKit.Hid (Below w1.heap.size w1 (w3.alloc (.cells #[.slice a5 0 c5, .int .i64 0] 24))) := Lib.hid (bal (btr M0_2.out hb) _)
      clear f2_0_0 f2_0_1 f2_1_0 f2_1_1 k30 k31 hb
      obtain ⟨f3_0_0, f3_0_1⟩ := KK0.out (w3.alloc (.cells #[.slice a5 0 c5, .int .i64 0] 24)) C0_3.out
      obtain ⟨f3_1_0, f3_1_1⟩ := KK1.out (w3.alloc (.cells #[.slice a5 0 c5, .int .i64 0] 24)) C1_3.out
      obtain ⟨f3_2_0, f3_2_1⟩ := KK2.out (w3.alloc (.cells #[.slice a5 0 c5, .int .i64 0] 24)) C2_3.out
      have f3_3_0 : (w3.alloc (.cells #[.slice a5 0 c5, .int .i64 0] 24)).cell? ⟨w3.heap.size, 0, none⟩ = some (.slice a5 0 c5) := by go_simp
      have f3_3_1 : (w3.alloc (.cells #[.slice a5 0 c5, .int .i64 0] 24)).cell? ⟨w3.heap.size, 1, none⟩ = some (.int .i64 0) := by go_simp
      have KK3 := Lib.hid (show ∀ W, Below (w3.alloc (.cells #[.slice a5 0 c5, .int .i64 0] 24)).heap.size (w3.alloc (.cells #[.slice a5 0 c5, .int .i64 0] 24)) W → W.cell? ⟨w3.heap.size, 0, none⟩ = some (.slice a5 0 c5) ∧ W.cell? ⟨w3.heap.size, 1, none⟩ = some (.int .i64 0) from fun W h => ⟨(h.cell (p := ⟨w3.heap.size, 0, none⟩) (blt f3_3_0)).trans f3_3_0, (h.cell (p := ⟨w3.heap.size, 1, none⟩) (blt f3_3_1)).trans f3_3_1⟩)
      have C3_3 := Lib.hid (Below.refl (w3.alloc (.cells #[.slice a5 0 c5, .int .i64 0] 24)).heap.size (w3.alloc (.cells #[.slice a5 0 c5, .int .i64 0] 24)))
      go_wp2_with fail
      refine (pRight_L _ _ l3 (m3 + 1) c3 (q.n + 1) rfl HL3.out.1 HRQ.out _ (HP3.out.on C1_3.out)).mono ?_; rintro e w4 ⟨rfl, hb⟩
      have B4 : RowKit.Hid (Below w.heap.size w w4) := Lib.hid (btr B3.out hb)
      have C0_4 : RowKit.Hid (Below T.heap.size T w4) := Lib.hid (btr C0_3.out hb)
      have C1_4 : RowKit.Hid (Below (w2.alloc (.cells #[.slice (some ⟨b3, o3, none⟩) (m3 + 1) c3, .int .i64 (q.n + 1)] 24)).heap.size (w2.alloc (.cells #[.slice (some ⟨b3, o3, none⟩) (m3 + 1) c3, .int .i64 (q.n + 1)] 24)) w4) := Lib.hid (btr C1_3.out hb)
      have C2_4 : RowKit.Hid (Below (w2.alloc (.cells #[.slice (some ⟨b3, o3, none⟩) (m3 + 1) c3, .int .i64 (q.n + 1)] 24)).heap.size (w2.alloc (.cells #[.slice (some ⟨b3, o3, none⟩) (m3 + 1) c3, .int .i64 (q.n + 1)] 24)) w4) := Lib.hid (btr C2_3.out hb)
      have C3_4 : RowKit.Hid (Below (w3.alloc (.cells #[.slice a5 0 c5, .int .i64 0] 24)).heap.size (w3.alloc (.cells #[.slice a5 0 c5, .int .i64 0] 24)) w4) := Lib.hid (btr C3_3.out hb)
      have M0_4 : RowKit.Hid (Below w1.heap.size w1 w4) := Lib.hid (btr M0_3.out hb)
      clear f3_0_0 f3_0_1 f3_1_0 f3_1_1 f3_2_0 f3_2_1 f3_3_0 f3_3_1 hb
      obtain ⟨f4_0_0, f4_0_1⟩ := KK0.out w4 C0_4.out
      obtain ⟨f4_1_0, f4_1_1⟩ := KK1.out w4 C1_4.out
      obtain ⟨f4_2_0, f4_2_1⟩ := KK2.out w4 C2_4.out
      obtain ⟨f4_3_0, f4_3_1⟩ := KK3.out w4 C3_4.out
      go_wp2_with fail
      refine (same_v ita3 ia2 itd3 ic2 its its true (by simp) _ (by have := HITS.out.1; omega) (by have := HITS.out.1; omega) (HS3.out.onB C1_4.out) (HSI.out.onB M0_4.out)).mono ?_; rintro e w5 ⟨rfl, hb⟩
      have B5 : RowKit.Hid (Below w.heap.size w w5) := Lib.hid (btr B4.out hb)
      have C0_5 : RowKit.Hid (Below T.heap.size T w5) := Lib.hid (btr C0_4.out hb)
      have C1_5 : RowKit.Hid (Below (w2.alloc (.cells #[.slice (some ⟨b3, o3, none⟩) (m3 + 1) c3, .int .i64 (q.n + 1)] 24)).heap.size (w2.alloc (.cells #[.slice (some ⟨b3, o3, none⟩) (m3 + 1) c3, .int .i64 (q.n + 1)] 24)) w5) := Lib.hid (btr C1_4.out hb)
      have C2_5 : RowKit.Hid (Below (w2.alloc (.cells #[.slice (some ⟨b3, o3, none⟩) (m3 + 1) c3, .int .i64 (q.n + 1)] 24)).heap.size (w2.alloc (.cells #[.slice (some ⟨b3, o3, none⟩) (m3 + 1) c3, .int .i64 (q.n + 1)] 24)) w5) := Lib.hid (btr C2_4.out hb)
      have C3_5 : RowKit.Hid (Below (w3.alloc (.cells #[.slice a5 0 c5, .int .i64 0] 24)).heap.size (w3.alloc (.cells #[.slice a5 0 c5, .int .i64 0] 24)) w5) := Lib.hid (btr C3_4.out hb)
      have M0_5 : RowKit.Hid (Below w1.heap.size w1 w5) := Lib.hid (btr M0_4.out hb)
      clear f4_0_0 f4_0_1 f4_1_0 f4_1_1 f4_2_0 f4_2_1 f4_3_0 f4_3_1 hb
      obtain ⟨f5_0_0, f5_0_1⟩ := KK0.out w5 C0_5.out
      obtain ⟨f5_1_0, f5_1_1⟩ := KK1.out w5 C1_5.out
      obtain ⟨f5_2_0, f5_2_1⟩ := KK2.out w5 C2_5.out
      obtain ⟨f5_3_0, f5_3_1⟩ := KK3.out w5 C3_5.out
      go_wp2
      go_ret
      exact ⟨rfl, B5.out⟩
end Go.Proofs.YtgceecfjammnaaaDoor.L16
