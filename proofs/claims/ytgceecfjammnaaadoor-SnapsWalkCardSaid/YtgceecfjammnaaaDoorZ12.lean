/- Tg, Ol -/
import Derived.Test.YtgceecfjammnaaaDoorZ11
import Derived.Test.YtgceecfjammnaaaDoorZ10
import Derived.ChangeShapes
import Derived.ChangeArms
import Derived.Deep.Slices
import Derived.Deep.Strs
import Derived.Lib.SmallJoins
set_option linter.unusedVariables false
set_option linter.unusedSimpArgs false
/- SnapsOld. -/
namespace Go.Proofs.YtgceecfjammnaaaDoor.L16
open Go.RowKit Go.Shelf
attribute [local go_sem] Oper.semAt_some
set_option linter.unusedSimpArgs false
set_option linter.unusedVariables false

def oldP (q : Pl) (its : List ByteArray) (t : Int) : Nat → Pl
  | 0 => pinT q its t
  | k + 1 => pinT (oldP q its t k) its t
theorem oldP_n (q : Pl) (its : List ByteArray) (t : Int) : ∀ k, (oldP q its t k).n = q.n + 1 + k
  | 0 => by show q.n + 1 = _; omega
  | k + 1 => by show (oldP q its t k).n + 1 = _; rw [oldP_n q its t k]; omega
theorem oldP_ok {q : Pl} {its : List ByteArray} {t : Int} (h : PinOk wordB q its t) (hn : q.n ≤ 1000000000) : ∀ k, k ≤ 3 → PinOk wordB (oldP q its t k) its t
  | 0, _ => pin_again h (by omega)
  | k + 1, hk => pin_again (oldP_ok h hn k (by omega)) (by rw [oldP_n]; omega)
theorem find_in {l A B : List Snp} {n c : Int} {s : Snp} (h : l = A ++ [s] ++ B) (hc : s.c = c) (hA : ∀ x ∈ A, x.c ≠ c) : findS ⟨l, n⟩ c = some s := by
  subst h hc
  unfold findS
  have : A.find? (fun x => decide (x.c = s.c)) = none := List.find?_eq_none.2 (fun x hx => by simpa using hA x hx)
  simp [List.find?_append, this]
theorem old_find {q : Pl} {its : List ByteArray} {t : Int} (h : PinOk wordB q its t) (hn : q.n ≤ 1000000000) (k : Nat) (hk : k < 3) : findS (oldP q its t k) q.n = some ⟨q.n, its, t⟩ := by
  match k, hk with
  | 0, _ => exact pin_find h
  | 1, _ =>
    obtain ⟨A', hl, e⟩ := pins_two (items := its) (t := t) h.r
    have hr := (oldP_ok h hn 1 (by omega)).r
    refine find_in (n := (oldP q its t 1).n) (A := A') (B := [⟨q.n + 1, its, t⟩]) e rfl (fun x hx hxc => ?_)
    have hnd := hr.nd
    rw [show (oldP q its t 1).l = A' ++ [⟨q.n, its, t⟩] ++ [⟨q.n + 1, its, t⟩] from e] at hnd
    simp only [List.map_append, List.map_cons, List.map_nil, List.nodup_append] at hnd
    exact hnd.1.2.2 x.c (List.mem_map_of_mem hx) q.n (by simp) hxc
  | 2, _ => exact find_in (n := (oldP q its t 2).n) (A := []) (B := [⟨q.n + 1, its, t⟩, ⟨q.n + 1 + 1, its, t⟩]) (pins_three h.r) rfl (fun x hx => nomatch hx)
theorem old_last {q : Pl} {its : List ByteArray} {t : Int} (k : Nat) : lastU (oldP q its t k).l = t := by
  cases k <;> exact pin_last
theorem old_page {q : Pl} {its : List ByteArray} {t : Int} (h : PinOk wordB q its t) (hn : q.n ≤ 1000000000) (k : Nat) (hk : k < 3) : pageE wordB (oldP q its t k) q.n 0 1 t = 0 :=
  page_iff.2 ⟨_, (oldP_ok h hn k (by omega)).r, by unfold nowB; rw [old_last]; simp [h.hi], by decide, by decide, old_find h hn k hk, by show t - t < 1000; omega, Int.le_refl _, by omega⟩
theorem old_gone {q : Pl} {its : List ByteArray} {t : Int} (h : PinOk wordB q its t) (hn : q.n ≤ 1000000000) : pageE wordB (oldP q its t 3) q.n 0 1 t = 161 := by
  refine page_old (oldP_ok h hn 3 (by omega)).r (by unfold nowB; rw [old_last]; simp [h.hi]) (by decide) (by decide) (fun s hs => ?_)
  have e : (oldP q its t 3).l = [⟨q.n + 1, its, t⟩, ⟨q.n + 1 + 1, its, t⟩, ⟨q.n + 1 + 1 + 1, its, t⟩] := pins_four h.r
  exfalso
  have hm := find_mem hs
  rw [e] at hm
  obtain ⟨hm, hc⟩ := hm
  simp only [List.mem_cons, List.not_mem_nil, or_false] at hm
  rcases hm with rfl | rfl | rfl <;> (simp only at hc; omega)
theorem late_page {q : Pl} {its : List ByteArray} {t : Int} (h : PinOk wordB q its t) (ht : t ≤ 1000000000) : pageE wordB (pinT q its t) q.n 0 1 (t + 999) = 0 ∧ pageE wordB (pinT q its t) q.n 0 1 (t + 1000) = 161 := by
  refine ⟨page_iff.2 ⟨_, pin_pageOk h (by decide) (by decide) (by omega) (by omega) (by omega)⟩, page_old (pin_right (pin_iff.2 h)) (pin_now (by omega) (by omega)) (by decide) (by decide) (fun s hs => ?_)⟩
  rw [pin_find h] at hs
  cases hs
  show ¬ t + 1000 - t < 1000
  omega
theorem page_e (q : Pl) (a : Option Addr) (l : List SnM) (cap : Nat) (c fr k t er : Int) (he : pageE wordB q c fr k t = er) (w : World) (h : PoolIn q a l w) (hE : ErrT w) :
    Calls Tryd.prog 14 #[.agg #[.slice a l.length cap, .int .i64 q.n], .int .i64 c, .int .i64 fr, .int .i64 k, .int .i64 t] w fun y w' => ∃ a' c' L n' b m d nb, y = .returned (.tuple #[.agg #[.slice a' L c', .int .i64 n'], .slice b m d, .int .i64 nb, .int .i64 er]) ∧ Below w.heap.size w w' := by
  refine (page_v q _ a l cap c fr k t _ _ er rfl rfl rfl he w h hE).mono ?_
  rintro y w' ⟨a', c', l', b, d, rfl, hp, hs, hb⟩
  exact ⟨a', c', _, _, b, _, d, _, rfl, hb⟩
structure OldR (q : Pl) (its : List ByteArray) (t : Int) (w V : World) (QB k : Nat) (ia : Option Addr) (W : World) (a : Option Addr) (l : List SnM) (c : Nat) : Prop where
  b0 : W.cell? ⟨QB, 0, none⟩ = some (.slice a l.length c)
  b1 : W.cell? ⟨QB, 1, none⟩ = some (.int .i64 (oldP q its t k).n)
  f0 : W.frozen? ⟨QB, 0, none⟩ = false
  f1 : W.frozen? ⟨QB, 1, none⟩ = false
  p : PoolIn (oldP q its t k) a l W
  s : StrsAt W.heap.size W ia its
  bw : Below w.heap.size w W
  bv : Below V.heap.size V W
theorem set_same0 {W : World} {B : Nat} {u0 u1 v0 v1 : Value} (c0 : W.cell? ⟨B, 0, none⟩ = some u0) (c1 : W.cell? ⟨B, 1, none⟩ = some u1) :
    ((W.setCell ⟨B, 0, none⟩ v0).setCell ⟨B, 1, none⟩ v1).cell? ⟨B, 0, none⟩ = some v0 ∧ ((W.setCell ⟨B, 0, none⟩ v0).setCell ⟨B, 1, none⟩ v1).cell? ⟨B, 1, none⟩ = some v1 := ⟨by go_simp, by go_simp⟩
theorem old_next {q : Pl} {its : List ByteArray} {t : Int} {w V wr X5 X4 : World} {QB k k2 : Nat} {ia a a5 : Option Addr} {l l5 : List SnM} {c c5 : Nat} {u0 u1 : Value}
    (h : OldR q its t w V QB k ia wr a l c) (hb : Below wr.heap.size wr X5) (hp : PoolIn (oldP q its t k2) a5 l5 X5) (hf : FarL X4.heap.size a5 l5) (hz : QB < X4.heap.size) (hv : V.heap.size ≤ QB) (hw : w.heap.size ≤ QB)
    (f0 : X5.frozen? ⟨QB, 0, none⟩ = false) (f1 : X5.frozen? ⟨QB, 1, none⟩ = false) (hlt : QB < X5.heap.size) (c0 : X5.cell? ⟨QB, 0, none⟩ = some u0) (c1 : X5.cell? ⟨QB, 1, none⟩ = some u1) (hs : StrsAt V.heap.size V ia its) :
    OldR q its t w V QB k2 ia ((X5.setCell ⟨QB, 0, none⟩ (.slice a5 l5.length c5)).setCell ⟨QB, 1, none⟩ (.int .i64 (oldP q its t k2).n)) a5 l5 c5 := by
  obtain ⟨e0, e1⟩ := set_same0 (v0 := .slice a5 l5.length c5) (v1 := .int .i64 (oldP q its t k2).n) c0 c1
  have bv2 := ((btr h.bv hb).setCell (p := ⟨QB, 0, none⟩) hv (.slice a5 l5.length c5)).setCell (p := ⟨QB, 1, none⟩) hv (.int .i64 (oldP q its t k2).n)
  refine ⟨e0, e1, ?_, ?_, (hp.set hf hz).set hf hz, hs.onB bv2, ((btr h.bw hb).setCell (p := ⟨QB, 0, none⟩) hw _).setCell (p := ⟨QB, 1, none⟩) hw _, bv2⟩
  · go_simp
  · go_simp
set_option maxRecDepth 100000 in
set_option maxHeartbeats 4000000 in
theorem Wol_c (a : Option Addr) (cap : Nat) (n : Int) (l : List SnM) (hs : l.length ≤ 9223372036854775807) (hi : ∀ x ∈ l, x.it.length ≤ 9223372036854775807 ∧ ∀ s ∈ x.it, s.size ≤ 9223372036854775807) (hn : -9223372036854775808 ≤ n ∧ n ≤ 9223372036854775807) (ia : Option Addr) (icap : Nat) (items : List ByteArray) (t : Int) (ot : Bool) (his : items.length ≤ 9223372036854775807) (hiz : ∀ s ∈ items, s.size ≤ 9223372036854775807) (w : World) (hA : PlAt w.heap.size w a l) (hS : StrsAt w.heap.size w ia items) (hE : ErrT w) :
    Calls Tryd.prog 6 #[.agg #[.slice a l.length cap, .int .i64 n], .slice ia items.length icap, .int .i64 t, .bool ot] w fun y w' => y = .returned (.bool true) ∧ Below w.heap.size w w' := by
  have HE := Lib.hid hE
  have HA := Lib.hid hA
  have HS := Lib.hid hS
  have HIT := Lib.hid (fun W h => Items_c ia icap items his hiz W h)
  have HCU := Lib.hid (fun W h => Cut_c a cap n l hs hi W h)
  have HQS := Lib.hid (small_cut ⟨l.map SnM.p, n⟩ hn)
  obtain ⟨q, hq⟩ : ∃ q, cutP ⟨l.map SnM.p, n⟩ = q := ⟨_, rfl⟩
  have HQN := Lib.hid (show n = q.n by rw [← hq]; rfl)
  have HQL := Lib.hid (show cutL (l.map SnM.p) = q.l by rw [← hq]; rfl)
  rw [hq] at HQS
  clear hE hA hi hs hn hq hS his hiz
  go_enter Tryd.func6, Tryd.ntmps6
  go_wp2_with fail
  have p0 : (w.alloc (.cells #[.slice a l.length cap, .int .i64 n] 24)).cell? ⟨w.heap.size, 0, none⟩ = some (.slice a l.length cap) := by go_simp
  have g0 : (w.alloc (.cells #[.slice a l.length cap, .int .i64 n] 24)).frozen? ⟨w.heap.size, 0, none⟩ = false := by go_simp
  have p1 : (w.alloc (.cells #[.slice a l.length cap, .int .i64 n] 24)).cell? ⟨w.heap.size, 1, none⟩ = some (.int .i64 n) := by go_simp
  have g1 : (w.alloc (.cells #[.slice a l.length cap, .int .i64 n] 24)).frozen? ⟨w.heap.size, 1, none⟩ = false := by go_simp
  have HB := Lib.hid (below_alloc w (.cells #[.slice a l.length cap, .int .i64 n] 24))
  refine (shown_c _ (HE.out.onB HB.out)).mono ?_
  rintro e w1 ⟨rfl, hb⟩
  replace g0 := (hb.frozen (blt p0)).trans g0
  replace g1 := (hb.frozen (blt p1)).trans g1
  replace p0 := (hb.cell (blt p0)).trans p0
  replace p1 := (hb.cell (blt p1)).trans p1
  have HB1 := Lib.hid (btr HB.out hb)
  have hz1 := blt p0
  clear hb
  go_wp2_with fail
  refine (HCU.out _ (HA.out.on HB1.out)).mono ?_
  rintro e w2 ⟨a2, c2, l2, rfl, hown, hmap, hb⟩
  replace g0 := (hb.frozen (blt p0)).trans g0
  replace g1 := (hb.frozen (blt p1)).trans g1
  replace p0 := (hb.cell (blt p0)).trans p0
  replace p1 := (hb.cell (blt p1)).trans p1
  have hp : PlAt ((w2.setCell ⟨w.heap.size, 0, none⟩ (.slice a2 l2.length c2)).setCell ⟨w.heap.size, 1, none⟩ (.int .i64 n)).heap.size ((w2.setCell ⟨w.heap.size, 0, none⟩ (.slice a2 l2.length c2)).setCell ⟨w.heap.size, 1, none⟩ (.int .i64 n)) a2 l2 := cut_store hz1 hown
  have hB2 : Below w.heap.size w ((w2.setCell ⟨w.heap.size, 0, none⟩ (.slice a2 l2.length c2)).setCell ⟨w.heap.size, 1, none⟩ (.int .i64 n)) := (((btr HB1.out hb).setCell (p := ⟨w.heap.size, 0, none⟩) (Nat.le_refl _) _).setCell (p := ⟨w.heap.size, 1, none⟩) (Nat.le_refl _) _)
  rw [HQL.out] at hmap
  clear hb hown hz1 HB HB1 HCU HA
  go_wp2_with fail
  have t0 : ((w2.setCell ⟨w.heap.size, 0, none⟩ (.slice a2 l2.length c2)).setCell ⟨w.heap.size, 1, none⟩ (.int .i64 n)).cell? ⟨w.heap.size, 0, none⟩ = some (.slice a2 l2.length c2) := by go_simp
  have t1 : ((w2.setCell ⟨w.heap.size, 0, none⟩ (.slice a2 l2.length c2)).setCell ⟨w.heap.size, 1, none⟩ (.int .i64 n)).cell? ⟨w.heap.size, 1, none⟩ = some (.int .i64 n) := by go_simp
  clear p0 p1 g0 g1
  generalize ((w2.setCell ⟨w.heap.size, 0, none⟩ (.slice a2 l2.length c2)).setCell ⟨w.heap.size, 1, none⟩ (.int .i64 n)) = T at *
  have hqn := HQN.out
  clear HQN
  subst hqn
  have HPQ := Lib.hid (show PoolIn q a2 l2 T from ⟨hp, hmap, HQS.out⟩)
  clear hp hmap HQL HQS
  have B0 := Lib.hid hB2
  have KK0 := Lib.hid (show ∀ W, Below T.heap.size T W → W.cell? ⟨w.heap.size, 0, none⟩ = some (.slice a2 l2.length c2) ∧ W.cell? ⟨w.heap.size, 1, none⟩ = some (.int .i64 q.n) from fun W h => ⟨(h.cell (p := ⟨w.heap.size, 0, none⟩) (blt t0)).trans t0, (h.cell (p := ⟨w.heap.size, 1, none⟩) (blt t1)).trans t1⟩)
  have C0_0 := Lib.hid (Below.refl T.heap.size T)
  clear hB2
  refine (HIT.out _ (StrsAt.onB HS.out B0.out)).mono ?_; rintro e w1 ⟨ia2, ic2, rfl, hs2, hb⟩
  have B1 : RowKit.Hid (Below w.heap.size w w1) := Lib.hid (btr B0.out hb)
  have C0_1 : RowKit.Hid (Below T.heap.size T w1) := Lib.hid (btr C0_0.out hb)
  have HSI := Lib.hid (OwnS.at' hs2)
  clear hs2
  clear t0 t1 hb
  obtain ⟨f1_0_0, f1_0_1⟩ := KK0.out w1 C0_1.out
  have HITS := Lib.hid (smallI_items items)
  generalize hit0 : itemsL items = its at *
  clear hit0
  have M0_1 := Lib.hid (Below.refl w1.heap.size w1)
  cases hk : pinB wordB q its t
  · skip
    go_wp2_with fail
    refine (pin_nil q a2 l2 c2 ia2 ic2 its t hk HITS.out _ (HPQ.out.on C0_1.out) (HSI.out.onB M0_1.out) (HE.out.onB B1.out)).mono ?_; rintro e w2 ⟨a3, c3, rfl, hb⟩
    have B2 : RowKit.Hid (Below w.heap.size w (w2.alloc (.cells #[.slice a3 0 c3, .int .i64 0] 24))) := Lib.hid (bal (btr B1.out hb) _)
    have C0_2 : RowKit.Hid (Below T.heap.size T (w2.alloc (.cells #[.slice a3 0 c3, .int .i64 0] 24))) := Lib.hid (bal (btr C0_1.out hb) _)
    have M0_2 : RowKit.Hid (Below w1.heap.size w1 (w2.alloc (.cells #[.slice a3 0 c3, .int .i64 0] 24))) := Lib.hid (bal (btr M0_1.out hb) _)
    clear f1_0_0 f1_0_1 hb
    obtain ⟨f2_0_0, f2_0_1⟩ := KK0.out (w2.alloc (.cells #[.slice a3 0 c3, .int .i64 0] 24)) C0_2.out
    have f2_1_0 : (w2.alloc (.cells #[.slice a3 0 c3, .int .i64 0] 24)).cell? ⟨w2.heap.size, 0, none⟩ = some (.slice a3 0 c3) := by go_simp
    have f2_1_1 : (w2.alloc (.cells #[.slice a3 0 c3, .int .i64 0] 24)).cell? ⟨w2.heap.size, 1, none⟩ = some (.int .i64 0) := by go_simp
    have KK1 := Lib.hid (show ∀ W, Below (w2.alloc (.cells #[.slice a3 0 c3, .int .i64 0] 24)).heap.size (w2.alloc (.cells #[.slice a3 0 c3, .int .i64 0] 24)) W → W.cell? ⟨w2.heap.size, 0, none⟩ = some (.slice a3 0 c3) ∧ W.cell? ⟨w2.heap.size, 1, none⟩ = some (.int .i64 0) from fun W h => ⟨(h.cell (p := ⟨w2.heap.size, 0, none⟩) (blt f2_1_0)).trans f2_1_0, (h.cell (p := ⟨w2.heap.size, 1, none⟩) (blt f2_1_1)).trans f2_1_1⟩)
    have C1_2 := Lib.hid (Below.refl (w2.alloc (.cells #[.slice a3 0 c3, .int .i64 0] 24)).heap.size (w2.alloc (.cells #[.slice a3 0 c3, .int .i64 0] 24)))
    go_wp2
    go_ret
    exact ⟨rfl, B2.out⟩
  · skip
    have hok := pin_iff.1 hk
    obtain ⟨e1, e2, e3⟩ := pin_yes hk
    have HF := Lib.hid (pin_facts hk).2.1
    have hn1 := hok.r.n1
    have HOK := Lib.hid hok
    clear hk hok
    go_wp2_with fail
    refine (pin_v q (pinT q its t) a2 l2 c2 ia2 ic2 its t q.n 0 e1 e2 e3 HITS.out _ (HPQ.out.on C0_1.out) (HSI.out.onB M0_1.out) (HE.out.onB B1.out)).mono ?_; rintro e w2 ⟨a3, c3, l3, rfl, hp, hb⟩
    have B2 : RowKit.Hid (Below w.heap.size w (w2.alloc (.cells #[.slice a3 l3.length c3, .int .i64 (pinT q its t).n] 24))) := Lib.hid (bal (btr B1.out hb) _)
    have C0_2 : RowKit.Hid (Below T.heap.size T (w2.alloc (.cells #[.slice a3 l3.length c3, .int .i64 (pinT q its t).n] 24))) := Lib.hid (bal (btr C0_1.out hb) _)
    have M0_2 : RowKit.Hid (Below w1.heap.size w1 (w2.alloc (.cells #[.slice a3 l3.length c3, .int .i64 (pinT q its t).n] 24))) := Lib.hid (bal (btr M0_1.out hb) _)
    have HP3 := Lib.hid (hp.on (show Below w2.heap.size w2 (w2.alloc (.cells #[.slice a3 l3.length c3, .int .i64 (pinT q its t).n] 24)) from (bal (Below.refl w2.heap.size w2) _)))
    have g30 : (w2.alloc (.cells #[.slice a3 l3.length c3, .int .i64 (pinT q its t).n] 24)).frozen? ⟨w2.heap.size, 0, none⟩ = false := by go_simp
    have g31 : (w2.alloc (.cells #[.slice a3 l3.length c3, .int .i64 (pinT q its t).n] 24)).frozen? ⟨w2.heap.size, 1, none⟩ = false := by go_simp
    have HFZ := Lib.hid (And.intro g30 g31)
    have HZ12 := Lib.hid (show w1.heap.size ≤ w2.heap.size ∧ w.heap.size ≤ w2.heap.size from ⟨hb.size, Nat.le_trans B1.out.size hb.size⟩)
    clear hp g30 g31
    clear f1_0_0 f1_0_1 hb
    obtain ⟨f2_0_0, f2_0_1⟩ := KK0.out (w2.alloc (.cells #[.slice a3 l3.length c3, .int .i64 (pinT q its t).n] 24)) C0_2.out
    have f2_1_0 : (w2.alloc (.cells #[.slice a3 l3.length c3, .int .i64 (pinT q its t).n] 24)).cell? ⟨w2.heap.size, 0, none⟩ = some (.slice a3 l3.length c3) := by go_simp
    have f2_1_1 : (w2.alloc (.cells #[.slice a3 l3.length c3, .int .i64 (pinT q its t).n] 24)).cell? ⟨w2.heap.size, 1, none⟩ = some (.int .i64 (pinT q its t).n) := by go_simp
    have KK1 := Lib.hid (show ∀ W, Below (w2.alloc (.cells #[.slice a3 l3.length c3, .int .i64 (pinT q its t).n] 24)).heap.size (w2.alloc (.cells #[.slice a3 l3.length c3, .int .i64 (pinT q its t).n] 24)) W → W.cell? ⟨w2.heap.size, 0, none⟩ = some (.slice a3 l3.length c3) ∧ W.cell? ⟨w2.heap.size, 1, none⟩ = some (.int .i64 (pinT q its t).n) from fun W h => ⟨(h.cell (p := ⟨w2.heap.size, 0, none⟩) (blt f2_1_0)).trans f2_1_0, (h.cell (p := ⟨w2.heap.size, 1, none⟩) (blt f2_1_1)).trans f2_1_1⟩)
    have C1_2 := Lib.hid (Below.refl (w2.alloc (.cells #[.slice a3 l3.length c3, .int .i64 (pinT q its t).n] 24)).heap.size (w2.alloc (.cells #[.slice a3 l3.length c3, .int .i64 (pinT q its t).n] 24)))
    by_cases ht9 : t ≤ 1000000000
    · skip
      have ht9' : ¬ t > 1000000000 := by omega
      by_cases hn9 : q.n ≤ 1000000000
      · skip
        have hn9' : ¬ q.n > 1000000000 := by omega
        cases ot
        · skip
          obtain ⟨hl1, hl2⟩ := late_page HOK.out ht9
          have hw9 : IntKind.i64.wrap (t + 999) = t + 999 := IntWalk.i64_in _ (by have := HF.out; omega)
          have hw10 : IntKind.i64.wrap (t + 1000) = t + 1000 := IntWalk.i64_in _ (by have := HF.out; omega)
          go_wp2_with fail
          refine (page_e (pinT q its t) a3 l3 c3 q.n 0 1 (t + 999) 0 hl1 _ (HP3.out.on C1_2.out) (HE.out.onB B2.out)).mono ?_; rintro e w3 ⟨a4, c4, L4, n4, b4, m4, d4, nb4, rfl, hb⟩
          have B3 : RowKit.Hid (Below w.heap.size w (w3.alloc (.cells #[.slice a4 L4 c4, .int .i64 n4] 24))) := Lib.hid (bal (btr B2.out hb) _)
          have C0_3 : RowKit.Hid (Below T.heap.size T (w3.alloc (.cells #[.slice a4 L4 c4, .int .i64 n4] 24))) := Lib.hid (bal (btr C0_2.out hb) _)
          have C1_3 : RowKit.Hid (Below (w2.alloc (.cells #[.slice a3 l3.length c3, .int .i64 (pinT q its t).n] 24)).heap.size (w2.alloc (.cells #[.slice a3 l3.length c3, .int .i64 (pinT q its t).n] 24)) (w3.alloc (.cells #[.slice a4 L4 c4, .int .i64 n4] 24))) := Lib.hid (bal (btr C1_2.out hb) _)
          have M0_3 : RowKit.Hid (Below w1.heap.size w1 (w3.alloc (.cells #[.slice a4 L4 c4, .int .i64 n4] 24))) := Lib.hid (bal (btr M0_2.out hb) _)
          clear f2_0_0 f2_0_1 f2_1_0 f2_1_1 hb
          obtain ⟨f3_0_0, f3_0_1⟩ := KK0.out (w3.alloc (.cells #[.slice a4 L4 c4, .int .i64 n4] 24)) C0_3.out
          obtain ⟨f3_1_0, f3_1_1⟩ := KK1.out (w3.alloc (.cells #[.slice a4 L4 c4, .int .i64 n4] 24)) C1_3.out
          have f3_2_0 : (w3.alloc (.cells #[.slice a4 L4 c4, .int .i64 n4] 24)).cell? ⟨w3.heap.size, 0, none⟩ = some (.slice a4 L4 c4) := by go_simp
          have f3_2_1 : (w3.alloc (.cells #[.slice a4 L4 c4, .int .i64 n4] 24)).cell? ⟨w3.heap.size, 1, none⟩ = some (.int .i64 n4) := by go_simp
          have KK2 := Lib.hid (show ∀ W, Below (w3.alloc (.cells #[.slice a4 L4 c4, .int .i64 n4] 24)).heap.size (w3.alloc (.cells #[.slice a4 L4 c4, .int .i64 n4] 24)) W → W.cell? ⟨w3.heap.size, 0, none⟩ = some (.slice a4 L4 c4) ∧ W.cell? ⟨w3.heap.size, 1, none⟩ = some (.int .i64 n4) from fun W h => ⟨(h.cell (p := ⟨w3.heap.size, 0, none⟩) (blt f3_2_0)).trans f3_2_0, (h.cell (p := ⟨w3.heap.size, 1, none⟩) (blt f3_2_1)).trans f3_2_1⟩)
          have C2_3 := Lib.hid (Below.refl (w3.alloc (.cells #[.slice a4 L4 c4, .int .i64 n4] 24)).heap.size (w3.alloc (.cells #[.slice a4 L4 c4, .int .i64 n4] 24)))
          go_wp2_with fail
          refine (page_e (pinT q its t) a3 l3 c3 q.n 0 1 (t + 1000) 161 hl2 _ (HP3.out.on C1_3.out) (HE.out.onB B3.out)).mono ?_; rintro e w4 ⟨a5, c5, L5, n5, b5, m5, d5, nb5, rfl, hb⟩
          have B4 : RowKit.Hid (Below w.heap.size w (w4.alloc (.cells #[.slice a5 L5 c5, .int .i64 n5] 24))) := Lib.hid (bal (btr B3.out hb) _)
          have C0_4 : RowKit.Hid (Below T.heap.size T (w4.alloc (.cells #[.slice a5 L5 c5, .int .i64 n5] 24))) := Lib.hid (bal (btr C0_3.out hb) _)
          have C1_4 : RowKit.Hid (Below (w2.alloc (.cells #[.slice a3 l3.length c3, .int .i64 (pinT q its t).n] 24)).heap.size (w2.alloc (.cells #[.slice a3 l3.length c3, .int .i64 (pinT q its t).n] 24)) (w4.alloc (.cells #[.slice a5 L5 c5, .int .i64 n5] 24))) := Lib.hid (bal (btr C1_3.out hb) _)
          have C2_4 : RowKit.Hid (Below (w3.alloc (.cells #[.slice a4 L4 c4, .int .i64 n4] 24)).heap.size (w3.alloc (.cells #[.slice a4 L4 c4, .int .i64 n4] 24)) (w4.alloc (.cells #[.slice a5 L5 c5, .int .i64 n5] 24))) := Lib.hid (bal (btr C2_3.out hb) _)
          have M0_4 : RowKit.Hid (Below w1.heap.size w1 (w4.alloc (.cells #[.slice a5 L5 c5, .int .i64 n5] 24))) := Lib.hid (bal (btr M0_3.out hb) _)
          clear f3_0_0 f3_0_1 f3_1_0 f3_1_1 f3_2_0 f3_2_1 hb
          obtain ⟨f4_0_0, f4_0_1⟩ := KK0.out (w4.alloc (.cells #[.slice a5 L5 c5, .int .i64 n5] 24)) C0_4.out
          obtain ⟨f4_1_0, f4_1_1⟩ := KK1.out (w4.alloc (.cells #[.slice a5 L5 c5, .int .i64 n5] 24)) C1_4.out
          obtain ⟨f4_2_0, f4_2_1⟩ := KK2.out (w4.alloc (.cells #[.slice a5 L5 c5, .int .i64 n5] 24)) C2_4.out
          have f4_3_0 : (w4.alloc (.cells #[.slice a5 L5 c5, .int .i64 n5] 24)).cell? ⟨w4.heap.size, 0, none⟩ = some (.slice a5 L5 c5) := by go_simp
          have f4_3_1 : (w4.alloc (.cells #[.slice a5 L5 c5, .int .i64 n5] 24)).cell? ⟨w4.heap.size, 1, none⟩ = some (.int .i64 n5) := by go_simp
          have KK3 := Lib.hid (show ∀ W, Below (w4.alloc (.cells #[.slice a5 L5 c5, .int .i64 n5] 24)).heap.size (w4.alloc (.cells #[.slice a5 L5 c5, .int .i64 n5] 24)) W → W.cell? ⟨w4.heap.size, 0, none⟩ = some (.slice a5 L5 c5) ∧ W.cell? ⟨w4.heap.size, 1, none⟩ = some (.int .i64 n5) from fun W h => ⟨(h.cell (p := ⟨w4.heap.size, 0, none⟩) (blt f4_3_0)).trans f4_3_0, (h.cell (p := ⟨w4.heap.size, 1, none⟩) (blt f4_3_1)).trans f4_3_1⟩)
          have C3_4 := Lib.hid (Below.refl (w4.alloc (.cells #[.slice a5 L5 c5, .int .i64 n5] 24)).heap.size (w4.alloc (.cells #[.slice a5 L5 c5, .int .i64 n5] 24)))
          go_wp2
          go_ret
          exact ⟨rfl, B4.out⟩
        · skip
          go_wp2_with fail
          have hR : OldR q its t w w1 w2.heap.size 0 ia2 (w2.alloc (.cells #[.slice a3 l3.length c3, .int .i64 (pinT q its t).n] 24)) a3 l3 c3 := ⟨f2_1_0, f2_1_1, HFZ.out.1, HFZ.out.2, HP3.out, HSI.out.onB M0_2.out, B2.out, M0_2.out⟩
          have hz12 : w1.heap.size ≤ w2.heap.size ∧ w.heap.size ≤ w2.heap.size := HZ12.out
          have HR := Lib.hid hR
          have hq0 := HZ12.out
          clear hR hz12 f2_0_0 f2_0_1 f2_1_0 f2_1_1
          go_loopw [21] (fun i wr => ∃ (k : Nat) (a : Option Addr) (l : List SnM) (c : Nat), k ≤ 3 ∧ i = .int .i64 (k : Int) ∧ Hid (OldR q its t w w1 w2.heap.size k ia2 wr a l c)) (fun i _ => 3 - (intOf i).toNat)
          case atStart => exact ⟨0, _, _, _, by omega, rfl, HR⟩
          case round =>
            obtain ⟨k, ak, lk, ck, hk3, rfl, HK⟩ := hrel
            clear HR
            obtain ⟨b0, b1, f0, f1, _, _, _, _⟩ := HK.out
            have zq := blt b0
            by_cases hlt : k < 3
            · have hlt' : (k : Int) < 3 := by omega
              have hok1 := oldP_ok HOK.out hn9 k (by omega)
              obtain ⟨pe1, pe2, pe3⟩ := pin_yes (pin_iff.2 hok1)
              have hpg := old_page HOK.out hn9 k hlt
              have HDN := Lib.hid (oldP_n q its t k)
              have hdn : ¬ (oldP q its t k).n ≤ q.n := by have := HDN.out; omega
              have HNX := Lib.hid (show pinT (oldP q its t k) its t = oldP q its t (k + 1) from rfl)
              rw [HNX.out] at pe1
              clear hok1
              go_wp2_with fail
              refine (page_e (oldP q its t k) ak lk ck q.n 0 1 t 0 hpg _ HK.out.p (HE.out.onB HK.out.bw)).mono ?_; rintro e w4 ⟨a4, c4, L4, n4, b4, m4, d4, nb4, rfl, hb⟩
              have hb4 : Below wr.heap.size wr (w4.alloc (.cells #[.slice a4 L4 c4, .int .i64 n4] 24)) := bal hb _
              have c0 : (w4.alloc (.cells #[.slice a4 L4 c4, .int .i64 n4] 24)).cell? ⟨w2.heap.size, 0, none⟩ = _ := (hb4.cell (blt b0)).trans b0
              have c1 : (w4.alloc (.cells #[.slice a4 L4 c4, .int .i64 n4] 24)).cell? ⟨w2.heap.size, 1, none⟩ = _ := (hb4.cell (blt b0)).trans b1
              have g0 : (w4.alloc (.cells #[.slice a4 L4 c4, .int .i64 n4] 24)).frozen? ⟨w2.heap.size, 0, none⟩ = _ := (hb4.frozen (blt b0)).trans f0
              have g1 : (w4.alloc (.cells #[.slice a4 L4 c4, .int .i64 n4] 24)).frozen? ⟨w2.heap.size, 1, none⟩ = _ := (hb4.frozen (blt b0)).trans f1
              have HB4 := Lib.hid hb4
              clear hb hb4 b0 b1 f0 f1 hpg
              go_wp2_with fail
              refine (pin_f (oldP q its t k) (oldP q its t (k + 1)) ak lk ck ia2 ic2 its t (oldP q its t k).n 0 pe1 pe2 pe3 HITS.out _ (HK.out.p.on HB4.out) (HK.out.s.onB HB4.out) (HE.out.onB (btr HK.out.bw HB4.out))).mono ?_; rintro e w5 ⟨a5, c5, l5, rfl, hp, hf, hb⟩
              have hb5 : Below (w4.alloc (.cells #[.slice a4 L4 c4, .int .i64 n4] 24)).heap.size (w4.alloc (.cells #[.slice a4 L4 c4, .int .i64 n4] 24)) (w5.alloc (.cells #[.slice a5 l5.length c5, .int .i64 (oldP q its t (k + 1)).n] 24)) := bal hb _
              have d0 : (w5.alloc (.cells #[.slice a5 l5.length c5, .int .i64 (oldP q its t (k + 1)).n] 24)).cell? ⟨w2.heap.size, 0, none⟩ = _ := (hb5.cell (blt c0)).trans c0
              have d1 : (w5.alloc (.cells #[.slice a5 l5.length c5, .int .i64 (oldP q its t (k + 1)).n] 24)).cell? ⟨w2.heap.size, 1, none⟩ = _ := (hb5.cell (blt c0)).trans c1
              have h0 : (w5.alloc (.cells #[.slice a5 l5.length c5, .int .i64 (oldP q its t (k + 1)).n] 24)).frozen? ⟨w2.heap.size, 0, none⟩ = _ := (hb5.frozen (blt c0)).trans g0
              have h1 : (w5.alloc (.cells #[.slice a5 l5.length c5, .int .i64 (oldP q its t (k + 1)).n] 24)).frozen? ⟨w2.heap.size, 1, none⟩ = _ := (hb5.frozen (blt c0)).trans g1
              have j0 : (w5.alloc (.cells #[.slice a5 l5.length c5, .int .i64 (oldP q its t (k + 1)).n] 24)).cell? ⟨w5.heap.size, 0, none⟩ = some (.slice a5 l5.length c5) := by go_simp
              have j1 : (w5.alloc (.cells #[.slice a5 l5.length c5, .int .i64 (oldP q its t (k + 1)).n] 24)).cell? ⟨w5.heap.size, 1, none⟩ = some (.int .i64 (oldP q its t (k + 1)).n) := by go_simp
              have HB5 := Lib.hid (btr HB4.out hb5)
              have HP5 := Lib.hid (hp.on (show Below w5.heap.size w5 (w5.alloc (.cells #[.slice a5 l5.length c5, .int .i64 (oldP q its t (k + 1)).n] 24)) from below_alloc _ _))
              have HFA := Lib.hid hf
              have hzq : w2.heap.size < (w4.alloc (.cells #[.slice a4 L4 c4, .int .i64 n4] 24)).heap.size := blt c0
              have HZQ := Lib.hid hzq
              clear hb hb5 c0 c1 g0 g1 hp hf hzq pe1 pe2 pe3
              go_wp2
              go_roundw
              case rel => exact ⟨k + 1, a5, l5, c5, by omega, by go_num, Lib.hid (old_next HK.out HB5.out HP5.out HFA.out HZQ.out hq0.1 hq0.2 h0 h1 (blt d0) d0 d1 HSI.out)⟩
              case measure => simp [intOf]; omega
            · have hlt' : ¬ (k : Int) < 3 := by omega
              obtain rfl : k = 3 := by omega
              have hgo := old_gone HOK.out hn9
              go_wp2_with fail
              refine (page_e (oldP q its t 3) ak lk ck q.n 0 1 t 161 hgo _ HK.out.p (HE.out.onB HK.out.bw)).mono ?_; rintro e w4 ⟨a4, c4, L4, n4, b4, m4, d4, nb4, rfl, hb⟩
              have HBZ := Lib.hid (btr HK.out.bw (bal hb (.cells #[.slice a4 L4 c4, .int .i64 n4] 24)))
              clear hb hgo b0 b1 f0 f1
              go_wp2
              go_ret
              exact ⟨rfl, HBZ.out⟩
      · skip
        have hn9' : q.n > 1000000000 := by omega
        go_wp2
        go_ret
        exact ⟨rfl, B2.out⟩
    · skip
      have ht9' : t > 1000000000 := by omega
      go_wp2
      go_ret
      exact ⟨rfl, B2.out⟩
end Go.Proofs.YtgceecfjammnaaaDoor.L16

/- An argument that is a pool, or items, opened. (Written by hand: no generator.) -/
namespace Go.Proofs.YtgceecfjammnaaaDoor.L16
open Go.RowKit Go.ChangeShapes Go.WideShapes Go.Deep Go.Joins Go.ChangeAt

section
variable {H : Type} {enc : TypeId × Value → H} {w : World} {base : Nat} {spare : Nat → Bool} {held : Bool}
instance inhSnM : Inhabited SnM := ⟨SnM.zero⟩
theorem snapFields : ∃ f0 f1 f2 : Field, Tryd.prog.underlying 42 = some (.struct #[f0, f1, f2]) ∧ (f0.type = 3 ∧ f0.offset = 0) ∧ (f1.type = 25 ∧ f1.offset = 1) ∧ (f2.type = 3 ∧ f2.offset = 2) :=
  ⟨_, _, _, Tryd.underlying42, ⟨rfl, rfl⟩, ⟨rfl, rfl⟩, ⟨rfl, rfl⟩⟩
theorem cellsSnap : Tryd.prog.cellsOf 42 = 3 := by kernel_rfl
theorem cellsPool : Tryd.prog.cellsOf 24 = 2 := by kernel_rfl
theorem cellsSl : Tryd.prog.cellsOf 25 = 1 := by kernel_rfl
theorem cellsI : Tryd.prog.cellsOf 3 = 1 := by kernel_rfl
theorem cellsS : Tryd.prog.cellsOf 9 = 1 := by kernel_rfl
theorem open_items {fuel : Nat} {cs : List Value} {x : DataW H × List MemPlace} (h : DataW.trod enc Tryd.prog w base spare held fuel 25 cs = some x) :
    ∃ (a : Option Addr) (cap : Nat) (xs : List ByteArray), cs = [.slice a xs.length cap] ∧ StrsAt w.heap.size w a xs ∧ xs.length ≤ 9223372036854775807 ∧ ∀ s ∈ xs, s.size ≤ 9223372036854775807 := by
  rcases open_strs Tryd.underlying25 Tryd.underlying9 cellsS h with ⟨rfl, _⟩ | ⟨a, len, cap, m, S, rfl, _, hl, hm, hmm, _, hc⟩
  · exact ⟨none, 0, [], rfl, StrsAt.nil _ _ _, by simp, fun s hs => nomatch hs⟩
  · have hlm : len ≤ m := by rw [hmm]; split <;> omega
    refine ⟨some a, cap, (List.range len).map S, by simp, fun i hi => ?_, by simp; unfold maxLen at hm; omega, fun s hs => ?_⟩
    · have hi' : i < len := by simpa using hi
      have h0 := (hc i (by omega)).1
      obtain ⟨b, o, spot⟩ := a
      have hspot : spot = none := by simpa [Addr.add] using World.cell?_spot (hc 0 (by omega)).1
      subst hspot
      rw [add_at] at h0
      exact ⟨b, o, rfl, blt h0, by rw [h0]; simp⟩
    · obtain ⟨i, hi, rfl⟩ := List.mem_map.1 hs
      have := (hc i (by have := List.mem_range.1 hi; omega)).2
      unfold maxLen at this; omega
theorem open_snaps {fuel : Nat} {cs : List Value} {x : DataW H × List MemPlace} (h : DataW.trod enc Tryd.prog w base spare held fuel 22 cs = some x) :
    ∃ (a : Option Addr) (cap : Nat) (xs : List SnM), cs = [.slice a xs.length cap] ∧ PlAt w.heap.size w a xs ∧ xs.length ≤ 9223372036854775807 ∧ ∀ x ∈ xs, x.it.length ≤ 9223372036854775807 ∧ ∀ s ∈ x.it, s.size ≤ 9223372036854775807 := by
  rcases open_slice Tryd.underlying22 h with ⟨rfl, rfl⟩ | ⟨a, len, cap, m, n, D, Pl, rfl, hb, hl, hm, hmm, hx, hi⟩
  · exact ⟨none, 0, [], rfl, ⟨SnMAt.nil _ _ _, fun x hx => nomatch hx⟩, by simp, fun s hs => nomatch hs⟩
  · have hlm : len ≤ m := by rw [hmm]; split <;> omega
    rw [cellsSnap] at hi
    obtain ⟨V, hV⟩ := choose_lt (α := SnM) (n := len) (p := fun i v => (w.cell? (a.add (i * 3)) = some (.int .i64 v.c) ∧ w.cell? ((a.add (i * 3)).add 1) = some (.slice v.ita v.it.length v.itd) ∧ w.cell? ((a.add (i * 3)).add 2) = some (.int .i64 v.u)) ∧ StrsAt w.heap.size w v.ita v.it ∧ v.it.length ≤ 9223372036854775807 ∧ ∀ s ∈ v.it, s.size ≤ 9223372036854775807) (fun i hil => by
      obtain ⟨cs', h1, h2⟩ := hi i (by omega)
      obtain ⟨_, hlen, hcell⟩ := World.cells?_some h1
      match cs', hlen with
      | [c0, c1, c2], _ =>
        have e0 := hcell 0 (by omega)
        have e1 := hcell 1 (by omega)
        have e2 := hcell 2 (by omega)
        obtain ⟨f0, f1, f2, hu, ⟨t0, o0⟩, ⟨t1, o1⟩, ⟨t2, o2⟩⟩ := snapFields
        obtain ⟨ys, n', _, _, _, hyl, hf⟩ := DataW.trod_struct hu h2
        match ys, hyl with
        | [y0, y1, y2], _ =>
          have g0 := hf 0 f0 rfl
          have g1 := hf 1 f1 rfl
          have g2 := hf 2 f2 rfl
          rw [t0, o0, cellsI] at g0
          rw [t1, o1, cellsSl] at g1
          rw [t2, o2, cellsI] at g2
          obtain ⟨k0, hk0, _⟩ := DataW.trod_int Tryd.underlying3 g0
          obtain ⟨k1, d1, z1, hk1, hs1, hl1, hz1⟩ := open_items g1
          obtain ⟨k2, hk2, _⟩ := DataW.trod_int Tryd.underlying3 g2
          simp at hk0 hk1 hk2
          subst hk0 hk1 hk2
          exact ⟨⟨k0, z1, k1, d1, k2⟩, ⟨e0, e1, e2⟩, hs1, hl1, hz1⟩)
    refine ⟨some a, cap, (List.range len).map V, by simp, ⟨fun i hil => ?_, fun x hx => ?_⟩, by simp; unfold maxLen at hm; omega, fun x hx => ?_⟩
    · have hil' : i < len := by simpa using hil
      obtain ⟨b, o, spot⟩ := a
      have hs0 := (hV 0 (by omega)).1.1
      have hspot : spot = none := by
        rw [Nat.zero_mul] at hs0
        simpa [Addr.add] using World.cell?_spot hs0
      subst hspot
      obtain ⟨⟨c0, c1, c2⟩, _⟩ := hV i hil'
      rw [add_at] at c0
      rw [add_at, add_at] at c1 c2
      refine ⟨b, o, rfl, blt c0, ?_, ?_, ?_⟩
      · simpa using c0
      · simpa using c1
      · simpa using c2
    · obtain ⟨i, hi, rfl⟩ := List.mem_map.1 hx
      exact (hV i (List.mem_range.1 hi)).2.1
    · obtain ⟨i, hi, rfl⟩ := List.mem_map.1 hx
      exact (hV i (List.mem_range.1 hi)).2.2
set_option maxRecDepth 100000 in
theorem open_pool {b0 : Nat} {v : Value} {d : DataW H} {ps : List MemPlace} (hv : Value.okWide Tryd.prog w .any b0 24 v) (h : DataW.Trod enc Tryd.prog w base spare held 24 v d ps) :
    ∃ (a : Option Addr) (cap : Nat) (xs : List SnM) (n : Int), v = .agg #[.slice a xs.length cap, .int .i64 n] ∧ PlAt w.heap.size w a xs ∧ xs.length ≤ 9223372036854775807 ∧ (∀ x ∈ xs, x.it.length ≤ 9223372036854775807 ∧ ∀ s ∈ x.it, s.size ≤ 9223372036854775807) ∧ (-9223372036854775808 ≤ n ∧ n ≤ 9223372036854775807) := by
  obtain ⟨v0, v1, y0, y1, m, rfl, _, _, h0, h1⟩ := open_agg2 Tryd.underlying24 (by kernel_rfl) cellsPool hv h
  obtain ⟨a, cap, xs, e0, hp, hl, hz⟩ := open_snaps h0
  obtain ⟨n, e1, _, wn⟩ := DataW.trod_int Tryd.underlying3 h1
  simp at e0 e1
  subst e0 e1
  exact ⟨a, cap, xs, n, rfl, hp, hl, hz, bounds_i64 wn⟩
end
end Go.Proofs.YtgceecfjammnaaaDoor.L16
