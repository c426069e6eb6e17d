/- Tj, Om -/
import Derived.Test.YtgceecfjammnaaaDoorZ13
import Derived.Test.YtgceecfjammnaaaDoorZ12
import Derived.Deep.Grids
import Derived.ChangeSlices
set_option linter.unusedVariables false
set_option linter.unusedSimpArgs false
/- SnapsWalk, walked. -/
namespace Go.Proofs.YtgceecfjammnaaaDoor.L16
open Go.RowKit Go.Shelf
attribute [local go_sem] Oper.semAt_some
set_option linter.unusedSimpArgs false
set_option linter.unusedVariables false

/-- Numbers in memory. -/
def NsAt (W : World) (a : Option Addr) (xs : List Int) : Prop := ∀ i, (h : i < xs.length) → ∃ b off, a = some ⟨b, off, none⟩ ∧ b < W.heap.size ∧ W.cell? ⟨b, off + i, none⟩ = some (.int .i64 xs[i])
theorem NsAt.on {a : Option Addr} {xs : List Int} {A B : World} (h : NsAt A a xs) (hb : Below A.heap.size A B) : NsAt B a xs := fun i hi => by
  obtain ⟨b, off, e, hlt, hc⟩ := h i hi
  exact ⟨b, off, e, Nat.lt_of_lt_of_le hlt hb.size, (hb.cell (p := ⟨b, off + i, none⟩) hlt).trans hc⟩
theorem ad_cells {W : World} {ad : Addr} {zs : List ByteArray} (h : StrsAt W.heap.size W (some ad) zs) : ∀ j u, (strVs zs)[j]? = some u → W.cell? (ad.add j) = some u := fun j u hu => by
  have hj : j < zs.length := by have := (List.getElem?_eq_some_iff.1 hu).1; simpa using this
  obtain ⟨b, o, e, _, hc⟩ := h j hj
  cases e
  rw [add_at, hc]
  simpa [strVs, hj] using hu
theorem own_strs {Z : Nat} {W : World} {ao : Option Addr} {co : Nat} {all : List ByteArray} (h : W.ownsRow Z 9 1 (.slice ao all.length co) all.length (strVs all)) : StrsAt W.heap.size W ao all := (show OwnS Z W (.slice ao all.length co) all from h).at'
theorem grown_of_none {W : World} (row : Option Nat) : W.grownBy W row := World.grownBy.refl W row
def txO : ByteArray := ⟨#[111, 116, 104, 101, 114]⟩
theorem small_o : SmallI [txO] := ⟨by decide, by decide⟩
set_option maxRecDepth 100000 in
set_option maxHeartbeats 4000000 in
theorem Wwa_c (a : Option Addr) (cap : Nat) (n : Int) (l : List SnM) (hs : l.length ≤ 9223372036854775807) (hi : ∀ x ∈ l, x.it.length ≤ 9223372036854775807 ∧ ∀ s ∈ x.it, s.size ≤ 9223372036854775807) (hn : -9223372036854775808 ≤ n ∧ n ≤ 9223372036854775807) (ia : Option Addr) (icap : Nat) (items : List ByteArray) (k t : Int) (na : Option Addr) (nc : Nat) (xs : List Int) (htb : -9223372036854775808 ≤ t ∧ t ≤ 9223372036854775807) (hxc : xs.length ≤ nc ∧ nc ≤ 9223372036854775807) (his : items.length ≤ 9223372036854775807) (hiz : ∀ s ∈ items, s.size ≤ 9223372036854775807) (w : World) (hA : PlAt w.heap.size w a l) (hS : StrsAt w.heap.size w ia items) (hNS : NsAt w na xs) (hE : ErrT w) :
    Calls Tryd.prog 4 #[.agg #[.slice a l.length cap, .int .i64 n], .slice ia items.length icap, .int .i64 k, .int .i64 t, .slice na xs.length nc] w fun y w' => y = .returned (.bool true) ∧ Below w.heap.size w w' := by
  have HE := Lib.hid hE
  have HA := Lib.hid hA
  have HS := Lib.hid hS
  have HIT := Lib.hid (fun W h => Items_c ia icap items his hiz W h)
  have HCU := Lib.hid (fun W h => Cut_c a cap n l hs hi W h)
  have HQS := Lib.hid (small_cut ⟨l.map SnM.p, n⟩ hn)
  obtain ⟨q, hq⟩ : ∃ q, cutP ⟨l.map SnM.p, n⟩ = q := ⟨_, rfl⟩
  have HQN := Lib.hid (show n = q.n by rw [← hq]; rfl)
  have HQL := Lib.hid (show cutL (l.map SnM.p) = q.l by rw [← hq]; rfl)
  rw [hq] at HQS
  clear hE hA hi hs hn hq hS his hiz
  have HNS := Lib.hid hNS
  clear hNS
  obtain ⟨M, hM⟩ : ∃ M : Nat, (if 40 < (xs.length : Int) then (40 : Int) else (xs.length : Int)) = (M : Int) := ⟨min xs.length 40, by split <;> omega⟩
  have hM1 : M ≤ xs.length := by split at hM <;> omega
  have hM40 : M ≤ 40 := by split at hM <;> omega
  have hMc : M ≤ nc := by omega
  go_enter Tryd.func4, Tryd.ntmps4
  go_wp2_with fail
  have p0 : (w.alloc (.cells #[.slice a l.length cap, .int .i64 n] 24)).cell? ⟨w.heap.size, 0, none⟩ = some (.slice a l.length cap) := by go_simp
  have g0 : (w.alloc (.cells #[.slice a l.length cap, .int .i64 n] 24)).frozen? ⟨w.heap.size, 0, none⟩ = false := by go_simp
  have p1 : (w.alloc (.cells #[.slice a l.length cap, .int .i64 n] 24)).cell? ⟨w.heap.size, 1, none⟩ = some (.int .i64 n) := by go_simp
  have g1 : (w.alloc (.cells #[.slice a l.length cap, .int .i64 n] 24)).frozen? ⟨w.heap.size, 1, none⟩ = false := by go_simp
  have HB := Lib.hid (below_alloc w (.cells #[.slice a l.length cap, .int .i64 n] 24))
  refine (shown_c _ (HE.out.onB HB.out)).mono ?_
  rintro e w1 ⟨rfl, hb⟩
  replace g0 := (hb.frozen (blt p0)).trans g0
  replace g1 := (hb.frozen (blt p1)).trans g1
  replace p0 := (hb.cell (blt p0)).trans p0
  replace p1 := (hb.cell (blt p1)).trans p1
  have HB1 := Lib.hid (btr HB.out hb)
  have hz1 := blt p0
  clear hb
  go_wp2_with fail
  refine (HCU.out _ (HA.out.on HB1.out)).mono ?_
  rintro e w2 ⟨a2, c2, l2, rfl, hown, hmap, hb⟩
  replace g0 := (hb.frozen (blt p0)).trans g0
  replace g1 := (hb.frozen (blt p1)).trans g1
  replace p0 := (hb.cell (blt p0)).trans p0
  replace p1 := (hb.cell (blt p1)).trans p1
  have hp : PlAt ((w2.setCell ⟨w.heap.size, 0, none⟩ (.slice a2 l2.length c2)).setCell ⟨w.heap.size, 1, none⟩ (.int .i64 n)).heap.size ((w2.setCell ⟨w.heap.size, 0, none⟩ (.slice a2 l2.length c2)).setCell ⟨w.heap.size, 1, none⟩ (.int .i64 n)) a2 l2 := cut_store hz1 hown
  have hB2 : Below w.heap.size w ((w2.setCell ⟨w.heap.size, 0, none⟩ (.slice a2 l2.length c2)).setCell ⟨w.heap.size, 1, none⟩ (.int .i64 n)) := (((btr HB1.out hb).setCell (p := ⟨w.heap.size, 0, none⟩) (Nat.le_refl _) _).setCell (p := ⟨w.heap.size, 1, none⟩) (Nat.le_refl _) _)
  rw [HQL.out] at hmap
  clear hb hown hz1 HB HB1 HCU HA
  go_wp2_with fail
  have t0 : ((w2.setCell ⟨w.heap.size, 0, none⟩ (.slice a2 l2.length c2)).setCell ⟨w.heap.size, 1, none⟩ (.int .i64 n)).cell? ⟨w.heap.size, 0, none⟩ = some (.slice a2 l2.length c2) := by go_simp
  have t1 : ((w2.setCell ⟨w.heap.size, 0, none⟩ (.slice a2 l2.length c2)).setCell ⟨w.heap.size, 1, none⟩ (.int .i64 n)).cell? ⟨w.heap.size, 1, none⟩ = some (.int .i64 n) := by go_simp
  clear p0 p1 g0 g1
  generalize ((w2.setCell ⟨w.heap.size, 0, none⟩ (.slice a2 l2.length c2)).setCell ⟨w.heap.size, 1, none⟩ (.int .i64 n)) = T at *
  have hqn := HQN.out
  clear HQN
  subst hqn
  have HPQ := Lib.hid (show PoolIn q a2 l2 T from ⟨hp, hmap, HQS.out⟩)
  clear hp hmap HQL HQS
  have B0 := Lib.hid hB2
  have KK0 := Lib.hid (show ∀ W, Below T.heap.size T W → W.cell? ⟨w.heap.size, 0, none⟩ = some (.slice a2 l2.length c2) ∧ W.cell? ⟨w.heap.size, 1, none⟩ = some (.int .i64 q.n) from fun W h => ⟨(h.cell (p := ⟨w.heap.size, 0, none⟩) (blt t0)).trans t0, (h.cell (p := ⟨w.heap.size, 1, none⟩) (blt t1)).trans t1⟩)
  have C0_0 := Lib.hid (Below.refl T.heap.size T)
  clear hB2
  refine (HIT.out _ (StrsAt.onB HS.out B0.out)).mono ?_; rintro e w1 ⟨ia2, ic2, rfl, hs2, hb⟩
  have B1 : RowKit.Hid (Below w.heap.size w w1) := Lib.hid (btr B0.out hb)
  have C0_1 : RowKit.Hid (Below T.heap.size T w1) := Lib.hid (btr C0_0.out hb)
  have HSI := Lib.hid (OwnS.at' hs2)
  clear hs2
  clear t0 t1 hb
  obtain ⟨f1_0_0, f1_0_1⟩ := KK0.out w1 C0_1.out
  have HITS := Lib.hid (smallI_items items)
  generalize hit0 : itemsL items = its at *
  clear hit0
  have M0_1 := Lib.hid (Below.refl w1.heap.size w1)
  cases hk : pinB wordB q its t
  · skip
    go_wp2_with fail
    refine (pin_nil q a2 l2 c2 ia2 ic2 its t hk HITS.out _ (HPQ.out.on C0_1.out) (HSI.out.onB M0_1.out) (HE.out.onB B1.out)).mono ?_; rintro e w2 ⟨a3, c3, rfl, hb⟩
    have B2 : RowKit.Hid (Below w.heap.size w (w2.alloc (.cells #[.slice a3 0 c3, .int .i64 0] 24))) := Lib.hid (bal (btr B1.out hb) _)
    have C0_2 : RowKit.Hid (Below T.heap.size T (w2.alloc (.cells #[.slice a3 0 c3, .int .i64 0] 24))) := Lib.hid (bal (btr C0_1.out hb) _)
    have M0_2 : RowKit.Hid (Below w1.heap.size w1 (w2.alloc (.cells #[.slice a3 0 c3, .int .i64 0] 24))) := Lib.hid (bal (btr M0_1.out hb) _)
    clear f1_0_0 f1_0_1 hb
    obtain ⟨f2_0_0, f2_0_1⟩ := KK0.out (w2.alloc (.cells #[.slice a3 0 c3, .int .i64 0] 24)) C0_2.out
    have f2_1_0 : (w2.alloc (.cells #[.slice a3 0 c3, .int .i64 0] 24)).cell? ⟨w2.heap.size, 0, none⟩ = some (.slice a3 0 c3) := by go_simp
    have f2_1_1 : (w2.alloc (.cells #[.slice a3 0 c3, .int .i64 0] 24)).cell? ⟨w2.heap.size, 1, none⟩ = some (.int .i64 0) := by go_simp
    have KK1 := Lib.hid (show ∀ W, Below (w2.alloc (.cells #[.slice a3 0 c3, .int .i64 0] 24)).heap.size (w2.alloc (.cells #[.slice a3 0 c3, .int .i64 0] 24)) W → W.cell? ⟨w2.heap.size, 0, none⟩ = some (.slice a3 0 c3) ∧ W.cell? ⟨w2.heap.size, 1, none⟩ = some (.int .i64 0) from fun W h => ⟨(h.cell (p := ⟨w2.heap.size, 0, none⟩) (blt f2_1_0)).trans f2_1_0, (h.cell (p := ⟨w2.heap.size, 1, none⟩) (blt f2_1_1)).trans f2_1_1⟩)
    have C1_2 := Lib.hid (Below.refl (w2.alloc (.cells #[.slice a3 0 c3, .int .i64 0] 24)).heap.size (w2.alloc (.cells #[.slice a3 0 c3, .int .i64 0] 24)))
    go_wp2
    go_ret
    exact ⟨rfl, B2.out⟩
  · skip
    obtain ⟨e1, e2, e3⟩ := pin_yes hk
    have htf := (pin_facts hk).2.1
    have HR0 := Lib.hid (pin_right hk)
    clear hk
    go_wp2_with fail
    refine (pin_v q (pinT q its t) a2 l2 c2 ia2 ic2 its t q.n 0 e1 e2 e3 HITS.out _ (HPQ.out.on C0_1.out) (HSI.out.onB M0_1.out) (HE.out.onB B1.out)).mono ?_; rintro e w2 ⟨a3, c3, l3, rfl, hp, hb⟩
    have B2 : RowKit.Hid (Below w.heap.size w (w2.alloc (.cells #[.slice a3 l3.length c3, .int .i64 (pinT q its t).n] 24))) := Lib.hid (bal (btr B1.out hb) _)
    have C0_2 : RowKit.Hid (Below T.heap.size T (w2.alloc (.cells #[.slice a3 l3.length c3, .int .i64 (pinT q its t).n] 24))) := Lib.hid (bal (btr C0_1.out hb) _)
    have M0_2 : RowKit.Hid (Below w1.heap.size w1 (w2.alloc (.cells #[.slice a3 l3.length c3, .int .i64 (pinT q its t).n] 24))) := Lib.hid (bal (btr M0_1.out hb) _)
    have HP3 := Lib.hid (hp.on (show Below w2.heap.size w2 (w2.alloc (.cells #[.slice a3 l3.length c3, .int .i64 (pinT q its t).n] 24)) from (bal (Below.refl w2.heap.size w2) _)))
    have HZ12 := Lib.hid (show w1.heap.size ≤ w2.heap.size ∧ w.heap.size ≤ w2.heap.size from ⟨hb.size, Nat.le_trans B1.out.size hb.size⟩)
    clear hp
    clear f1_0_0 f1_0_1 hb
    obtain ⟨f2_0_0, f2_0_1⟩ := KK0.out (w2.alloc (.cells #[.slice a3 l3.length c3, .int .i64 (pinT q its t).n] 24)) C0_2.out
    have f2_1_0 : (w2.alloc (.cells #[.slice a3 l3.length c3, .int .i64 (pinT q its t).n] 24)).cell? ⟨w2.heap.size, 0, none⟩ = some (.slice a3 l3.length c3) := by go_simp
    have f2_1_1 : (w2.alloc (.cells #[.slice a3 l3.length c3, .int .i64 (pinT q its t).n] 24)).cell? ⟨w2.heap.size, 1, none⟩ = some (.int .i64 (pinT q its t).n) := by go_simp
    have KK1 := Lib.hid (show ∀ W, Below (w2.alloc (.cells #[.slice a3 l3.length c3, .int .i64 (pinT q its t).n] 24)).heap.size (w2.alloc (.cells #[.slice a3 l3.length c3, .int .i64 (pinT q its t).n] 24)) W → W.cell? ⟨w2.heap.size, 0, none⟩ = some (.slice a3 l3.length c3) ∧ W.cell? ⟨w2.heap.size, 1, none⟩ = some (.int .i64 (pinT q its t).n) from fun W h => ⟨(h.cell (p := ⟨w2.heap.size, 0, none⟩) (blt f2_1_0)).trans f2_1_0, (h.cell (p := ⟨w2.heap.size, 1, none⟩) (blt f2_1_1)).trans f2_1_1⟩)
    have C1_2 := Lib.hid (Below.refl (w2.alloc (.cells #[.slice a3 l3.length c3, .int .i64 (pinT q its t).n] 24)).heap.size (w2.alloc (.cells #[.slice a3 l3.length c3, .int .i64 (pinT q its t).n] 24)))
    by_cases hk1 : k < 1
    · skip
      go_wp2
      go_ret
      exact ⟨rfl, B2.out⟩
    · skip
      by_cases hk2 : k > 10
      · skip
        go_wp2
        go_ret
        exact ⟨rfl, B2.out⟩
      · skip
        by_cases ht9 : t > 1000000000
        · skip
          go_wp2
          go_ret
          exact ⟨rfl, B2.out⟩
        · skip
          go_wp2_with fail
          have hR : WkR its q.n w w1 (w2.alloc (.cells #[.slice a3 l3.length c3, .int .i64 (pinT q its t).n] 24)).heap.size w2.heap.size ia2 (pinT q its t) t (w2.alloc (.cells #[.slice a3 l3.length c3, .int .i64 (pinT q its t).n] 24)) a3 l3 c3 (.slice none 0 0) [] := ⟨World.alloc_heap_new w2 _, HP3.out, HR0.out, ⟨_, rfl⟩, HSI.out.onB M0_2.out, World.ownsRow_nil _ _ _ _, B2.out, M0_2.out, ⟨by simp, HZ12.out.1, HZ12.out.2, Nat.le_refl _⟩⟩
          have HR := Lib.hid hR
          clear hR f2_0_0 f2_0_1 f2_1_0 f2_1_1
          generalize (w2.alloc (.cells #[.slice a3 l3.length c3, .int .i64 (pinT q its t).n] 24)).heap.size = ZZ at HR
          generalize w2.heap.size = QB at *
          go_loopw [3, 15, 16, 17] (fun tv av atv iv wr => ∃ (kk : Nat) (t' at_ : Int) (P : Pl) (a : Option Addr) (l : List SnM) (cq : Nat) (all : List ByteArray), kk ≤ 70 ∧ iv = .int .i64 (kk : Int) ∧ tv = .int .i64 t' ∧ atv = .int .i64 at_ ∧ (0 ≤ t' ∧ t' ≤ 1000000000 + 999 * (kk : Int)) ∧ Hid (WkA its all at_ kk) ∧ Hid (WkR its q.n w w1 ZZ QB ia2 P t' wr a l cq av all)) (fun _ _ _ iv _ => 70 - (intOf iv).toNat)
          case atStart => exact ⟨0, t, 0, _, _, _, _, [], by omega, rfl, rfl, rfl, ⟨by omega, by omega⟩, Lib.hid (.inr ⟨⟨by omega, by omega⟩, by simp, by simp, .inr rfl⟩), HR⟩
          case round =>
            obtain ⟨kk, t', at_, P, ak, lk, cq, all, hkk, rfl, rfl, rfl, ht', HA', HK⟩ := hrel
            clear HR
            obtain ⟨ao, co, rfl⟩ := row_form HK.out.o
            by_cases h0 : at_ ≥ 0
            · by_cases h70 : kk < 70
              · have h70' : (kk : Int) < 70 := by omega
                have hat := wka_hi HA'.out h0
                have hal := wka_len HA'.out
                have hil := HITS.out.1
                by_cases hM' : kk < M
                · have hMi : (kk : Int) < (M : Int) := by omega
                  obtain ⟨b, off, rfl, _, hcx⟩ := (HNS.out.on HK.out.bw) kk (show kk < xs.length by omega)
                  generalize xs[kk] = x at *
                  obtain ⟨d0, hd0⟩ : ∃ d0 : Int, (if x < 0 then (0 : Int) else x) = d0 := ⟨_, rfl⟩
                  obtain ⟨d, hd⟩ : ∃ d : Int, (if 999 < d0 then (999 : Int) else d0) = d := ⟨_, rfl⟩
                  have hdr : 0 ≤ d ∧ d ≤ 999 := by rw [← hd, ← hd0]; constructor <;> (split <;> (try split) <;> omega)
                  obtain ⟨t2, ht2⟩ : ∃ t2, t2 = t' + d := ⟨_, rfl⟩
                  have hw2 : IntKind.i64.wrap (t' + d) = t2 := (IntWalk.i64_in _ (by omega)).trans ht2.symm
                  have ht2r : t' ≤ t2 ∧ t2 ≤ t' + 999 := by omega
                  clear ht2 hdr
                  obtain ⟨rm, hrm⟩ : ∃ rm, Int.tmod x 2 = rm := ⟨_, rfl⟩
                  have hrr : -1 ≤ rm ∧ rm ≤ 1 := by rw [← hrm]; rcases Int.tmod_two_eq x with h | h | h <;> rw [h] <;> decide
                  have hrw : IntKind.i64.wrap rm = rm := IntWalk.i64_in _ (by omega)
                  have hrw2 : wrap64 rm = rm := IntWalk.wrap64_in _ (by omega)
                  clear hrr
                  by_cases hodd : rm = 0
                  · have HM := Lib.hid (HK.out.mid ht2r.1)
                    subst hodd
                    obtain ⟨b0, b1, f0, f1⟩ := obj2 HK.out.b
                    obtain ⟨z1, z2, z3, z4⟩ := HM.out.z
                    obtain ⟨b0, b1, f0, f1⟩ := obj2 HM.out.b
                    have zq := blt b0
                    obtain ⟨pe, pr, pl, pn⟩ := wk_page HM.out.r HM.out.f HM.out.hl (show t2 ≤ 1000000000000 by omega) (show t2 - t' < 1000 by omega) h0 hat (show 1 ≤ k by omega) (show k ≤ 10 by omega)
                    have HNX := Lib.hid (wka_next (n := k) (u := t') (c := q.n) HA'.out h0 (by omega))
                    obtain ⟨r, hr⟩ : ∃ r, pageS P q.n at_ k t2 = r := ⟨_, rfl⟩
                    rw [hr] at pr
                    have hpl : (pageI ⟨q.n, its, t'⟩ at_ k).length ≤ k.toNat := pageI_le
                    obtain ⟨pg, hpg⟩ : ∃ pg, pageI ⟨q.n, its, t'⟩ at_ k = pg := ⟨_, rfl⟩
                    obtain ⟨nb, hnb⟩ : ∃ nb, pageN ⟨q.n, its, t'⟩ at_ k = nb := ⟨_, rfl⟩
                    rw [hpg] at pl hpl HNX
                    rw [hnb] at pn HNX
                    clear hpg hnb
                    have hng : ¬ (pg.length : Int) > k := by omega
                    have hpg10 : pg.length ≤ 10 := by omega
                    go_wp2_with fail
                    refine (page_f P r ak lk cq q.n at_ k t2 pg nb 0 hr pl pn pe _ HM.out.p (HE.out.onB HM.out.bw)).mono ?_; rintro e w6 ⟨a6, c6, l6, b6, d6, rfl, hp, hst, hf, hb⟩
                    have HB6 := Lib.hid (show Below wr.heap.size wr (w6.alloc (.cells #[.slice a6 l6.length c6, .int .i64 r.n] 24)) from bal hb _)
                    have HP6 := Lib.hid (hp.on (show Below w6.heap.size w6 (w6.alloc (.cells #[.slice a6 l6.length c6, .int .i64 r.n] 24)) from below_alloc _ _))
                    have HF6 := Lib.hid hf
                    have HS6 := Lib.hid (hst.onB (show Below w6.heap.size w6 (w6.alloc (.cells #[.slice a6 l6.length c6, .int .i64 r.n] 24)) from below_alloc _ _))
                    have HL6 := Lib.hid hb.size
                    have HQ6 := Lib.hid (obj_on hb HM.out.b)
                    have HPR := Lib.hid pr
                    have hz6 : QB < w6.heap.size := Nat.lt_of_lt_of_le zq hb.size
                    have k0 : (w6.alloc (.cells #[.slice a6 l6.length c6, .int .i64 r.n] 24)).cell? ⟨w6.heap.size, 0, none⟩ = some (.slice a6 l6.length c6) := by go_simp
                    have k1 : (w6.alloc (.cells #[.slice a6 l6.length c6, .int .i64 r.n] 24)).cell? ⟨w6.heap.size, 1, none⟩ = some (.int .i64 r.n) := by go_simp
                    clear b0 b1 f0 f1 hp hst hf hb pe pr pl pn hr
                    obtain ⟨i0, hi0, hz0, hz1, hz2⟩ := info_parts info9
                    have HOX := Lib.hid (own_onB HM.out.o HB6.out)
                    have hzx : ZZ ≤ (w6.alloc (.cells #[.slice a6 l6.length c6, .int .i64 r.n] 24)).heap.size := Nat.le_trans z4 HB6.out.size
                    have HZX := Lib.hid hzx
                    clear hzx
                    rcases b6 with _ | ad
                    · have hp0 : pg = [] := by
                        rcases Nat.eq_zero_or_pos pg.length with h | h
                        · exact List.length_eq_zero_iff.1 h
                        · obtain ⟨b, o, e, _⟩ := HS6.out 0 h; cases e
                      subst hp0
                      have hk0 : ¬ k < 0 := by omega
                      clear hng
                      rcases HOX.out.2 with ⟨hv0, hl00⟩ | ⟨gg, ccap, ccur, hv0, hzg, hgg, hncap, _⟩
                      · simp only [Value.slice.injEq] at hv0
                        obtain ⟨rfl, hal0, rfl⟩ := hv0
                        have hpd := WkM.paged (c6 := c6) HM.out HSI.out HB6.out HP6.out HF6.out HPR.out (page := []) (v' := .slice none all.length 0) (w7 := (w6.alloc (.cells #[.slice a6 l6.length c6, .int .i64 r.n] 24))) (by simpa [strVs] using HOX.out) (grown_of_none _)
                        have hpd2 := hpd.2
                        rw [World.setCell_alloc_past _ QB 0 _ hz6, World.setCell_alloc_past _ QB 1 _ (by rw [World.size_setCell]; exact hz6), List.append_nil] at hpd2
                        rw [hal0] at hpd2
                        have HPD := Lib.hid hpd2
                        obtain ⟨j0, j1, jf0, jf1⟩ := obj2 HQ6.out
                        clear hpd hpd2
                        go_wp2
                        go_roundw
                        case rel => exact ⟨kk + 1, t2, nb, r, a6, l6, c6, all, by omega, by go_num, rfl, rfl, ⟨by omega, by omega⟩, by rw [List.append_nil] at HNX; exact HNX, HPD⟩
                        case measure => simp [intOf]; omega
                      · simp only [Value.slice.injEq] at hv0
                        obtain ⟨rfl, _, rfl⟩ := hv0
                        have hpd := WkM.paged (c6 := c6) HM.out HSI.out HB6.out HP6.out HF6.out HPR.out (page := []) (v' := .slice (some ⟨gg, 0, none⟩) all.length co) (w7 := (w6.alloc (.cells #[.slice a6 l6.length c6, .int .i64 r.n] 24))) (by simpa [strVs] using HOX.out) (grown_of_none _)
                        have hpd2 := hpd.2
                        rw [World.setCell_alloc_past _ QB 0 _ hz6, World.setCell_alloc_past _ QB 1 _ (by rw [World.size_setCell]; exact hz6), List.append_nil] at hpd2
                        have HPD := Lib.hid hpd2
                        obtain ⟨j0, j1, jf0, jf1⟩ := obj2 HQ6.out
                        clear hpd hpd2
                        go_wp2
                        go_roundw
                        case rel => exact ⟨kk + 1, t2, nb, r, a6, l6, c6, all, by omega, by go_num, rfl, rfl, ⟨by omega, by omega⟩, by rw [List.append_nil] at HNX; exact HNX, HPD⟩
                        case measure => simp [intOf]; omega
                    · have hnws := ad_cells HS6.out
                      have HNW := Lib.hid hnws
                      clear hnws
                      go_wp2_with (at_builtin; refine wpList_append_own_at _ rfl _ _ 25 rfl ZZ 9 i0 _ 1 16 Tryd.underlying25 hi0 hz0 hz1 hz2 rfl (by decide) _ all.length (strVs all) rfl HOX.out ad pg.length d6 (strVs pg) rfl (by simp) HNW.out (strVs_cells _) (by unfold maxLen; omega) (by omega) HZX.out ?_; intro v7 w7 hown hgrow hnil hat7; obtain ⟨av, cv, rfl⟩ := row_form hown; have hpd := WkM.paged (c6 := c6) HM.out HSI.out HB6.out HP6.out HF6.out HPR.out hown hgrow; have HPD := Lib.hid hpd.2; have hl0 := (hgrow.block w6.heap.size (by simp) (fun e => by have := (row_lt HM.out.o e.symm).2; have := HB6.out.size; exact absurd this (by have := HL6.out; omega))); obtain ⟨j0, j1, jf0, jf1⟩ := obj2 hpd.1; have m0 := (World.cell?_of_block (a := ⟨w6.heap.size, 0, none⟩) hl0).trans k0; have m1 := (World.cell?_of_block (a := ⟨w6.heap.size, 1, none⟩) hl0).trans k1; clear hown hgrow hnil hat7 hpd hl0 k0 k1)
                      go_roundw
                      case rel => exact ⟨kk + 1, t2, nb, r, a6, l6, c6, all ++ pg, by omega, by go_num, rfl, rfl, ⟨by omega, by omega⟩, HNX, HPD⟩
                      case measure => simp [intOf]; omega
                  · have ho1 : (rm == 0) = false := by simpa using hodd
                    have ho2 : (rm != 0) = true := by simpa using hodd
                    obtain ⟨b0, b1, f0, f1⟩ := obj2 HK.out.b
                    have zq0 := blt b0
                    cases hpk : pinB wordB P [txO] t2
                    · go_wp2_with fail
                      refine (pin_nil P ak lk cq (some ⟨wr.heap.size, 0, none⟩) 1 [txO] t2 hpk small_o _ (HK.out.p.on (below_alloc wr (.cells #[.string ⟨#[111, 116, 104, 101, 114]⟩] 9))) (strs_lit wr [txO]) (HE.out.onB (bal HK.out.bw (.cells #[.string ⟨#[111, 116, 104, 101, 114]⟩] 9)))).mono ?_; rintro e w5 ⟨a5, c5, rfl, hb⟩
                      have HM := Lib.hid ((HK.out.mid ht2r.1).on (show Below wr.heap.size wr (w5.alloc (.cells #[.slice a5 0 c5, .int .i64 0] 24)) from bal (btr (below_alloc wr (.cells #[.string ⟨#[111, 116, 104, 101, 114]⟩] 9)) hb) _))
                      clear hb b0 b1 f0 f1 hcx
                      obtain ⟨z1, z2, z3, z4⟩ := HM.out.z
                      obtain ⟨b0, b1, f0, f1⟩ := obj2 HM.out.b
                      have zq := blt b0
                      obtain ⟨pe, pr, pl, pn⟩ := wk_page HM.out.r HM.out.f HM.out.hl (show t2 ≤ 1000000000000 by omega) (show t2 - t' < 1000 by omega) h0 hat (show 1 ≤ k by omega) (show k ≤ 10 by omega)
                      have HNX := Lib.hid (wka_next (n := k) (u := t') (c := q.n) HA'.out h0 (by omega))
                      obtain ⟨r, hr⟩ : ∃ r, pageS P q.n at_ k t2 = r := ⟨_, rfl⟩
                      rw [hr] at pr
                      have hpl : (pageI ⟨q.n, its, t'⟩ at_ k).length ≤ k.toNat := pageI_le
                      obtain ⟨pg, hpg⟩ : ∃ pg, pageI ⟨q.n, its, t'⟩ at_ k = pg := ⟨_, rfl⟩
                      obtain ⟨nb, hnb⟩ : ∃ nb, pageN ⟨q.n, its, t'⟩ at_ k = nb := ⟨_, rfl⟩
                      rw [hpg] at pl hpl HNX
                      rw [hnb] at pn HNX
                      clear hpg hnb
                      have hng : ¬ (pg.length : Int) > k := by omega
                      have hpg10 : pg.length ≤ 10 := by omega
                      go_wp2_with fail
                      refine (page_f P r ak lk cq q.n at_ k t2 pg nb 0 hr pl pn pe _ HM.out.p (HE.out.onB HM.out.bw)).mono ?_; rintro e w6 ⟨a6, c6, l6, b6, d6, rfl, hp, hst, hf, hb⟩
                      have HB6 := Lib.hid (show Below (w5.alloc (.cells #[.slice a5 0 c5, .int .i64 0] 24)).heap.size (w5.alloc (.cells #[.slice a5 0 c5, .int .i64 0] 24)) (w6.alloc (.cells #[.slice a6 l6.length c6, .int .i64 r.n] 24)) from bal hb _)
                      have HP6 := Lib.hid (hp.on (show Below w6.heap.size w6 (w6.alloc (.cells #[.slice a6 l6.length c6, .int .i64 r.n] 24)) from below_alloc _ _))
                      have HF6 := Lib.hid hf
                      have HS6 := Lib.hid (hst.onB (show Below w6.heap.size w6 (w6.alloc (.cells #[.slice a6 l6.length c6, .int .i64 r.n] 24)) from below_alloc _ _))
                      have HL6 := Lib.hid hb.size
                      have HQ6 := Lib.hid (obj_on hb HM.out.b)
                      have HPR := Lib.hid pr
                      have hz6 : QB < w6.heap.size := Nat.lt_of_lt_of_le zq hb.size
                      have k0 : (w6.alloc (.cells #[.slice a6 l6.length c6, .int .i64 r.n] 24)).cell? ⟨w6.heap.size, 0, none⟩ = some (.slice a6 l6.length c6) := by go_simp
                      have k1 : (w6.alloc (.cells #[.slice a6 l6.length c6, .int .i64 r.n] 24)).cell? ⟨w6.heap.size, 1, none⟩ = some (.int .i64 r.n) := by go_simp
                      clear b0 b1 f0 f1 hp hst hf hb pe pr pl pn hr
                      obtain ⟨i0, hi0, hz0, hz1, hz2⟩ := info_parts info9
                      have HOX := Lib.hid (own_onB HM.out.o HB6.out)
                      have hzx : ZZ ≤ (w6.alloc (.cells #[.slice a6 l6.length c6, .int .i64 r.n] 24)).heap.size := Nat.le_trans z4 HB6.out.size
                      have HZX := Lib.hid hzx
                      clear hzx
                      rcases b6 with _ | ad
                      · have hp0 : pg = [] := by
                          rcases Nat.eq_zero_or_pos pg.length with h | h
                          · exact List.length_eq_zero_iff.1 h
                          · obtain ⟨b, o, e, _⟩ := HS6.out 0 h; cases e
                        subst hp0
                        have hk0 : ¬ k < 0 := by omega
                        clear hng
                        rcases HOX.out.2 with ⟨hv0, hl00⟩ | ⟨gg, ccap, ccur, hv0, hzg, hgg, hncap, _⟩
                        · simp only [Value.slice.injEq] at hv0
                          obtain ⟨rfl, hal0, rfl⟩ := hv0
                          have hpd := WkM.paged (c6 := c6) HM.out HSI.out HB6.out HP6.out HF6.out HPR.out (page := []) (v' := .slice none all.length 0) (w7 := (w6.alloc (.cells #[.slice a6 l6.length c6, .int .i64 r.n] 24))) (by simpa [strVs] using HOX.out) (grown_of_none _)
                          have hpd2 := hpd.2
                          rw [World.setCell_alloc_past _ QB 0 _ hz6, World.setCell_alloc_past _ QB 1 _ (by rw [World.size_setCell]; exact hz6), List.append_nil] at hpd2
                          rw [hal0] at hpd2
                          have HPD := Lib.hid hpd2
                          obtain ⟨j0, j1, jf0, jf1⟩ := obj2 HQ6.out
                          clear hpd hpd2
                          go_wp2
                          go_roundw
                          case rel => exact ⟨kk + 1, t2, nb, r, a6, l6, c6, all, by omega, by go_num, rfl, rfl, ⟨by omega, by omega⟩, by rw [List.append_nil] at HNX; exact HNX, HPD⟩
                          case measure => simp [intOf]; omega
                        · simp only [Value.slice.injEq] at hv0
                          obtain ⟨rfl, _, rfl⟩ := hv0
                          have hpd := WkM.paged (c6 := c6) HM.out HSI.out HB6.out HP6.out HF6.out HPR.out (page := []) (v' := .slice (some ⟨gg, 0, none⟩) all.length co) (w7 := (w6.alloc (.cells #[.slice a6 l6.length c6, .int .i64 r.n] 24))) (by simpa [strVs] using HOX.out) (grown_of_none _)
                          have hpd2 := hpd.2
                          rw [World.setCell_alloc_past _ QB 0 _ hz6, World.setCell_alloc_past _ QB 1 _ (by rw [World.size_setCell]; exact hz6), List.append_nil] at hpd2
                          have HPD := Lib.hid hpd2
                          obtain ⟨j0, j1, jf0, jf1⟩ := obj2 HQ6.out
                          clear hpd hpd2
                          go_wp2
                          go_roundw
                          case rel => exact ⟨kk + 1, t2, nb, r, a6, l6, c6, all, by omega, by go_num, rfl, rfl, ⟨by omega, by omega⟩, by rw [List.append_nil] at HNX; exact HNX, HPD⟩
                          case measure => simp [intOf]; omega
                      · have hnws := ad_cells HS6.out
                        have HNW := Lib.hid hnws
                        clear hnws
                        go_wp2_with (at_builtin; refine wpList_append_own_at _ rfl _ _ 25 rfl ZZ 9 i0 _ 1 16 Tryd.underlying25 hi0 hz0 hz1 hz2 rfl (by decide) _ all.length (strVs all) rfl HOX.out ad pg.length d6 (strVs pg) rfl (by simp) HNW.out (strVs_cells _) (by unfold maxLen; omega) (by omega) HZX.out ?_; intro v7 w7 hown hgrow hnil hat7; obtain ⟨av, cv, rfl⟩ := row_form hown; have hpd := WkM.paged (c6 := c6) HM.out HSI.out HB6.out HP6.out HF6.out HPR.out hown hgrow; have HPD := Lib.hid hpd.2; have hl0 := (hgrow.block w6.heap.size (by simp) (fun e => by have := (row_lt HM.out.o e.symm).2; have := HB6.out.size; exact absurd this (by have := HL6.out; omega))); obtain ⟨j0, j1, jf0, jf1⟩ := obj2 hpd.1; have m0 := (World.cell?_of_block (a := ⟨w6.heap.size, 0, none⟩) hl0).trans k0; have m1 := (World.cell?_of_block (a := ⟨w6.heap.size, 1, none⟩) hl0).trans k1; clear hown hgrow hnil hat7 hpd hl0 k0 k1)
                        go_roundw
                        case rel => exact ⟨kk + 1, t2, nb, r, a6, l6, c6, all ++ pg, by omega, by go_num, rfl, rfl, ⟨by omega, by omega⟩, HNX, HPD⟩
                        case measure => simp [intOf]; omega
                    · obtain ⟨pe1, pe2, pe3⟩ := pin_yes hpk
                      obtain ⟨P2, hP2⟩ : ∃ P2, pinT P [txO] t2 = P2 := ⟨_, rfl⟩
                      go_wp2_with fail
                      refine (pin_f P P2 ak lk cq (some ⟨wr.heap.size, 0, none⟩) 1 [txO] t2 P.n 0 (pe1.trans hP2) pe2 pe3 small_o _ (HK.out.p.on (below_alloc wr (.cells #[.string ⟨#[111, 116, 104, 101, 114]⟩] 9))) (strs_lit wr [txO]) (HE.out.onB (bal HK.out.bw (.cells #[.string ⟨#[111, 116, 104, 101, 114]⟩] 9)))).mono ?_; rintro e w5 ⟨a5, c5, l5, rfl, hp, hf, hb⟩
                      have hw5 : Below wr.heap.size wr w5 := btr (below_alloc wr (.cells #[.string ⟨#[111, 116, 104, 101, 114]⟩] 9)) hb
                      have hwx : Below wr.heap.size wr (w5.alloc (.cells #[.slice a5 l5.length c5, .int .i64 P2.n] 24)) := bal hw5 _
                      have hzq5 : QB < w5.heap.size := Nat.lt_of_lt_of_le zq0 hw5.size
                      have hm := WkR.pinned (X4 := (wr.alloc (.cells #[.string ⟨#[111, 116, 104, 101, 114]⟩] 9))) (X5 := (w5.alloc (.cells #[.slice a5 l5.length c5, .int .i64 P2.n] 24))) (a5 := a5) (l5 := l5) (c5 := c5) HK.out (show t2 - t' < 1000 by omega) hpk hwx (by rw [hP2]; exact hp.on (show Below w5.heap.size w5 (w5.alloc (.cells #[.slice a5 l5.length c5, .int .i64 P2.n] 24)) from below_alloc _ _)) hf (by rw [World.size_alloc]; omega)
                      rw [hP2, World.setCell_alloc_past _ QB 0 _ hzq5, World.setCell_alloc_past _ QB 1 _ (by rw [World.size_setCell]; exact hzq5)] at hm
                      have HM := Lib.hid hm
                      obtain ⟨e0, e1, ef0, ef1⟩ := obj2 (obj_on hw5 HK.out.b)
                      clear hb hp hf hwx hw5 hm b0 b1 f0 f1 hcx pe1 pe2 pe3 hP2
                      obtain ⟨z1, z2, z3, z4⟩ := HM.out.z
                      obtain ⟨b0, b1, f0, f1⟩ := obj2 HM.out.b
                      have zq := blt b0
                      obtain ⟨pe, pr, pl, pn⟩ := wk_page HM.out.r HM.out.f HM.out.hl (show t2 ≤ 1000000000000 by omega) (show t2 - t' < 1000 by omega) h0 hat (show 1 ≤ k by omega) (show k ≤ 10 by omega)
                      have HNX := Lib.hid (wka_next (n := k) (u := t') (c := q.n) HA'.out h0 (by omega))
                      obtain ⟨r, hr⟩ : ∃ r, pageS P2 q.n at_ k t2 = r := ⟨_, rfl⟩
                      rw [hr] at pr
                      have hpl : (pageI ⟨q.n, its, t'⟩ at_ k).length ≤ k.toNat := pageI_le
                      obtain ⟨pg, hpg⟩ : ∃ pg, pageI ⟨q.n, its, t'⟩ at_ k = pg := ⟨_, rfl⟩
                      obtain ⟨nb, hnb⟩ : ∃ nb, pageN ⟨q.n, its, t'⟩ at_ k = nb := ⟨_, rfl⟩
                      rw [hpg] at pl hpl HNX
                      rw [hnb] at pn HNX
                      clear hpg hnb
                      have hng : ¬ (pg.length : Int) > k := by omega
                      have hpg10 : pg.length ≤ 10 := by omega
                      go_wp2_with fail
                      refine (page_f P2 r a5 l5 c5 q.n at_ k t2 pg nb 0 hr pl pn pe _ HM.out.p (HE.out.onB HM.out.bw)).mono ?_; rintro e w6 ⟨a6, c6, l6, b6, d6, rfl, hp, hst, hf, hb⟩
                      have HB6 := Lib.hid (show Below (((w5.setCell ⟨QB, 0, none⟩ (.slice a5 l5.length c5)).setCell ⟨QB, 1, none⟩ (.int .i64 P2.n)).alloc (.cells #[.slice a5 l5.length c5, .int .i64 P2.n] 24)).heap.size (((w5.setCell ⟨QB, 0, none⟩ (.slice a5 l5.length c5)).setCell ⟨QB, 1, none⟩ (.int .i64 P2.n)).alloc (.cells #[.slice a5 l5.length c5, .int .i64 P2.n] 24)) (w6.alloc (.cells #[.slice a6 l6.length c6, .int .i64 r.n] 24)) from bal hb _)
                      have HP6 := Lib.hid (hp.on (show Below w6.heap.size w6 (w6.alloc (.cells #[.slice a6 l6.length c6, .int .i64 r.n] 24)) from below_alloc _ _))
                      have HF6 := Lib.hid hf
                      have HS6 := Lib.hid (hst.onB (show Below w6.heap.size w6 (w6.alloc (.cells #[.slice a6 l6.length c6, .int .i64 r.n] 24)) from below_alloc _ _))
                      have HL6 := Lib.hid hb.size
                      have HQ6 := Lib.hid (obj_on hb HM.out.b)
                      have HPR := Lib.hid pr
                      have hz6 : QB < w6.heap.size := Nat.lt_of_lt_of_le zq hb.size
                      have k0 : (w6.alloc (.cells #[.slice a6 l6.length c6, .int .i64 r.n] 24)).cell? ⟨w6.heap.size, 0, none⟩ = some (.slice a6 l6.length c6) := by go_simp
                      have k1 : (w6.alloc (.cells #[.slice a6 l6.length c6, .int .i64 r.n] 24)).cell? ⟨w6.heap.size, 1, none⟩ = some (.int .i64 r.n) := by go_simp
                      clear b0 b1 f0 f1 hp hst hf hb pe pr pl pn hr
                      obtain ⟨i0, hi0, hz0, hz1, hz2⟩ := info_parts info9
                      have HOX := Lib.hid (own_onB HM.out.o HB6.out)
                      have hzx : ZZ ≤ (w6.alloc (.cells #[.slice a6 l6.length c6, .int .i64 r.n] 24)).heap.size := Nat.le_trans z4 HB6.out.size
                      have HZX := Lib.hid hzx
                      clear hzx
                      rcases b6 with _ | ad
                      · have hp0 : pg = [] := by
                          rcases Nat.eq_zero_or_pos pg.length with h | h
                          · exact List.length_eq_zero_iff.1 h
                          · obtain ⟨b, o, e, _⟩ := HS6.out 0 h; cases e
                        subst hp0
                        have hk0 : ¬ k < 0 := by omega
                        clear hng
                        rcases HOX.out.2 with ⟨hv0, hl00⟩ | ⟨gg, ccap, ccur, hv0, hzg, hgg, hncap, _⟩
                        · simp only [Value.slice.injEq] at hv0
                          obtain ⟨rfl, hal0, rfl⟩ := hv0
                          have hpd := WkM.paged (c6 := c6) HM.out HSI.out HB6.out HP6.out HF6.out HPR.out (page := []) (v' := .slice none all.length 0) (w7 := (w6.alloc (.cells #[.slice a6 l6.length c6, .int .i64 r.n] 24))) (by simpa [strVs] using HOX.out) (grown_of_none _)
                          have hpd2 := hpd.2
                          rw [World.setCell_alloc_past _ QB 0 _ hz6, World.setCell_alloc_past _ QB 1 _ (by rw [World.size_setCell]; exact hz6), List.append_nil] at hpd2
                          rw [hal0] at hpd2
                          have HPD := Lib.hid hpd2
                          obtain ⟨j0, j1, jf0, jf1⟩ := obj2 HQ6.out
                          clear hpd hpd2
                          go_wp2
                          go_roundw
                          case rel => exact ⟨kk + 1, t2, nb, r, a6, l6, c6, all, by omega, by go_num, rfl, rfl, ⟨by omega, by omega⟩, by rw [List.append_nil] at HNX; exact HNX, HPD⟩
                          case measure => simp [intOf]; omega
                        · simp only [Value.slice.injEq] at hv0
                          obtain ⟨rfl, _, rfl⟩ := hv0
                          have hpd := WkM.paged (c6 := c6) HM.out HSI.out HB6.out HP6.out HF6.out HPR.out (page := []) (v' := .slice (some ⟨gg, 0, none⟩) all.length co) (w7 := (w6.alloc (.cells #[.slice a6 l6.length c6, .int .i64 r.n] 24))) (by simpa [strVs] using HOX.out) (grown_of_none _)
                          have hpd2 := hpd.2
                          rw [World.setCell_alloc_past _ QB 0 _ hz6, World.setCell_alloc_past _ QB 1 _ (by rw [World.size_setCell]; exact hz6), List.append_nil] at hpd2
                          have HPD := Lib.hid hpd2
                          obtain ⟨j0, j1, jf0, jf1⟩ := obj2 HQ6.out
                          clear hpd hpd2
                          go_wp2
                          go_roundw
                          case rel => exact ⟨kk + 1, t2, nb, r, a6, l6, c6, all, by omega, by go_num, rfl, rfl, ⟨by omega, by omega⟩, by rw [List.append_nil] at HNX; exact HNX, HPD⟩
                          case measure => simp [intOf]; omega
                      · have hnws := ad_cells HS6.out
                        have HNW := Lib.hid hnws
                        clear hnws
                        go_wp2_with (at_builtin; refine wpList_append_own_at _ rfl _ _ 25 rfl ZZ 9 i0 _ 1 16 Tryd.underlying25 hi0 hz0 hz1 hz2 rfl (by decide) _ all.length (strVs all) rfl HOX.out ad pg.length d6 (strVs pg) rfl (by simp) HNW.out (strVs_cells _) (by unfold maxLen; omega) (by omega) HZX.out ?_; intro v7 w7 hown hgrow hnil hat7; obtain ⟨av, cv, rfl⟩ := row_form hown; have hpd := WkM.paged (c6 := c6) HM.out HSI.out HB6.out HP6.out HF6.out HPR.out hown hgrow; have HPD := Lib.hid hpd.2; have hl0 := (hgrow.block w6.heap.size (by simp) (fun e => by have := (row_lt HM.out.o e.symm).2; have := HB6.out.size; exact absurd this (by have := HL6.out; omega))); obtain ⟨j0, j1, jf0, jf1⟩ := obj2 hpd.1; have m0 := (World.cell?_of_block (a := ⟨w6.heap.size, 0, none⟩) hl0).trans k0; have m1 := (World.cell?_of_block (a := ⟨w6.heap.size, 1, none⟩) hl0).trans k1; clear hown hgrow hnil hat7 hpd hl0 k0 k1)
                        go_roundw
                        case rel => exact ⟨kk + 1, t2, nb, r, a6, l6, c6, all ++ pg, by omega, by go_num, rfl, rfl, ⟨by omega, by omega⟩, HNX, HPD⟩
                        case measure => simp [intOf]; omega
                · have hM2 : ¬ (kk : Int) < (M : Int) := by omega
                  have HM := Lib.hid (HK.out.mid (Int.le_refl t'))
                  obtain ⟨z1, z2, z3, z4⟩ := HM.out.z
                  obtain ⟨b0, b1, f0, f1⟩ := obj2 HM.out.b
                  have zq := blt b0
                  obtain ⟨pe, pr, pl, pn⟩ := wk_page HM.out.r HM.out.f HM.out.hl (show t' ≤ 1000000000000 by omega) (show t' - t' < 1000 by omega) h0 hat (show 1 ≤ k by omega) (show k ≤ 10 by omega)
                  have HNX := Lib.hid (wka_next (n := k) (u := t') (c := q.n) HA'.out h0 (by omega))
                  obtain ⟨r, hr⟩ : ∃ r, pageS P q.n at_ k t' = r := ⟨_, rfl⟩
                  rw [hr] at pr
                  have hpl : (pageI ⟨q.n, its, t'⟩ at_ k).length ≤ k.toNat := pageI_le
                  obtain ⟨pg, hpg⟩ : ∃ pg, pageI ⟨q.n, its, t'⟩ at_ k = pg := ⟨_, rfl⟩
                  obtain ⟨nb, hnb⟩ : ∃ nb, pageN ⟨q.n, its, t'⟩ at_ k = nb := ⟨_, rfl⟩
                  rw [hpg] at pl hpl HNX
                  rw [hnb] at pn HNX
                  clear hpg hnb
                  have hng : ¬ (pg.length : Int) > k := by omega
                  have hpg10 : pg.length ≤ 10 := by omega
                  go_wp2_with fail
                  refine (page_f P r ak lk cq q.n at_ k t' pg nb 0 hr pl pn pe _ HM.out.p (HE.out.onB HM.out.bw)).mono ?_; rintro e w6 ⟨a6, c6, l6, b6, d6, rfl, hp, hst, hf, hb⟩
                  have HB6 := Lib.hid (show Below wr.heap.size wr (w6.alloc (.cells #[.slice a6 l6.length c6, .int .i64 r.n] 24)) from bal hb _)
                  have HP6 := Lib.hid (hp.on (show Below w6.heap.size w6 (w6.alloc (.cells #[.slice a6 l6.length c6, .int .i64 r.n] 24)) from below_alloc _ _))
                  have HF6 := Lib.hid hf
                  have HS6 := Lib.hid (hst.onB (show Below w6.heap.size w6 (w6.alloc (.cells #[.slice a6 l6.length c6, .int .i64 r.n] 24)) from below_alloc _ _))
                  have HL6 := Lib.hid hb.size
                  have HQ6 := Lib.hid (obj_on hb HM.out.b)
                  have HPR := Lib.hid pr
                  have hz6 : QB < w6.heap.size := Nat.lt_of_lt_of_le zq hb.size
                  have k0 : (w6.alloc (.cells #[.slice a6 l6.length c6, .int .i64 r.n] 24)).cell? ⟨w6.heap.size, 0, none⟩ = some (.slice a6 l6.length c6) := by go_simp
                  have k1 : (w6.alloc (.cells #[.slice a6 l6.length c6, .int .i64 r.n] 24)).cell? ⟨w6.heap.size, 1, none⟩ = some (.int .i64 r.n) := by go_simp
                  clear b0 b1 f0 f1 hp hst hf hb pe pr pl pn hr
                  obtain ⟨i0, hi0, hz0, hz1, hz2⟩ := info_parts info9
                  have HOX := Lib.hid (own_onB HM.out.o HB6.out)
                  have hzx : ZZ ≤ (w6.alloc (.cells #[.slice a6 l6.length c6, .int .i64 r.n] 24)).heap.size := Nat.le_trans z4 HB6.out.size
                  have HZX := Lib.hid hzx
                  clear hzx
                  rcases b6 with _ | ad
                  · have hp0 : pg = [] := by
                      rcases Nat.eq_zero_or_pos pg.length with h | h
                      · exact List.length_eq_zero_iff.1 h
                      · obtain ⟨b, o, e, _⟩ := HS6.out 0 h; cases e
                    subst hp0
                    have hk0 : ¬ k < 0 := by omega
                    clear hng
                    rcases HOX.out.2 with ⟨hv0, hl00⟩ | ⟨gg, ccap, ccur, hv0, hzg, hgg, hncap, _⟩
                    · simp only [Value.slice.injEq] at hv0
                      obtain ⟨rfl, hal0, rfl⟩ := hv0
                      have hpd := WkM.paged (c6 := c6) HM.out HSI.out HB6.out HP6.out HF6.out HPR.out (page := []) (v' := .slice none all.length 0) (w7 := (w6.alloc (.cells #[.slice a6 l6.length c6, .int .i64 r.n] 24))) (by simpa [strVs] using HOX.out) (grown_of_none _)
                      have hpd2 := hpd.2
                      rw [World.setCell_alloc_past _ QB 0 _ hz6, World.setCell_alloc_past _ QB 1 _ (by rw [World.size_setCell]; exact hz6), List.append_nil] at hpd2
                      rw [hal0] at hpd2
                      have HPD := Lib.hid hpd2
                      obtain ⟨j0, j1, jf0, jf1⟩ := obj2 HQ6.out
                      clear hpd hpd2
                      go_wp2
                      go_roundw
                      case rel => exact ⟨kk + 1, t', nb, r, a6, l6, c6, all, by omega, by go_num, rfl, rfl, ⟨by omega, by omega⟩, by rw [List.append_nil] at HNX; exact HNX, HPD⟩
                      case measure => simp [intOf]; omega
                    · simp only [Value.slice.injEq] at hv0
                      obtain ⟨rfl, _, rfl⟩ := hv0
                      have hpd := WkM.paged (c6 := c6) HM.out HSI.out HB6.out HP6.out HF6.out HPR.out (page := []) (v' := .slice (some ⟨gg, 0, none⟩) all.length co) (w7 := (w6.alloc (.cells #[.slice a6 l6.length c6, .int .i64 r.n] 24))) (by simpa [strVs] using HOX.out) (grown_of_none _)
                      have hpd2 := hpd.2
                      rw [World.setCell_alloc_past _ QB 0 _ hz6, World.setCell_alloc_past _ QB 1 _ (by rw [World.size_setCell]; exact hz6), List.append_nil] at hpd2
                      have HPD := Lib.hid hpd2
                      obtain ⟨j0, j1, jf0, jf1⟩ := obj2 HQ6.out
                      clear hpd hpd2
                      go_wp2
                      go_roundw
                      case rel => exact ⟨kk + 1, t', nb, r, a6, l6, c6, all, by omega, by go_num, rfl, rfl, ⟨by omega, by omega⟩, by rw [List.append_nil] at HNX; exact HNX, HPD⟩
                      case measure => simp [intOf]; omega
                  · have hnws := ad_cells HS6.out
                    have HNW := Lib.hid hnws
                    clear hnws
                    go_wp2_with (at_builtin; refine wpList_append_own_at _ rfl _ _ 25 rfl ZZ 9 i0 _ 1 16 Tryd.underlying25 hi0 hz0 hz1 hz2 rfl (by decide) _ all.length (strVs all) rfl HOX.out ad pg.length d6 (strVs pg) rfl (by simp) HNW.out (strVs_cells _) (by unfold maxLen; omega) (by omega) HZX.out ?_; intro v7 w7 hown hgrow hnil hat7; obtain ⟨av, cv, rfl⟩ := row_form hown; have hpd := WkM.paged (c6 := c6) HM.out HSI.out HB6.out HP6.out HF6.out HPR.out hown hgrow; have HPD := Lib.hid hpd.2; have hl0 := (hgrow.block w6.heap.size (by simp) (fun e => by have := (row_lt HM.out.o e.symm).2; have := HB6.out.size; exact absurd this (by have := HL6.out; omega))); obtain ⟨j0, j1, jf0, jf1⟩ := obj2 hpd.1; have m0 := (World.cell?_of_block (a := ⟨w6.heap.size, 0, none⟩) hl0).trans k0; have m1 := (World.cell?_of_block (a := ⟨w6.heap.size, 1, none⟩) hl0).trans k1; clear hown hgrow hnil hat7 hpd hl0 k0 k1)
                    go_roundw
                    case rel => exact ⟨kk + 1, t', nb, r, a6, l6, c6, all ++ pg, by omega, by go_num, rfl, rfl, ⟨by omega, by omega⟩, HNX, HPD⟩
                    case measure => simp [intOf]; omega
              · obtain rfl : kk = 70 := by omega
                have := (wka_end HA'.out HITS.out.1).1
                omega
            · obtain ⟨rfl, rfl⟩ := wka_lo HA'.out h0
              have hil := HITS.out.1
              go_wp2_with fail
              refine (same_v ao ia2 co ic2 all all true (by simp) _ (by omega) (by omega) (own_strs HK.out.o) HK.out.s).mono ?_; rintro e w9 ⟨rfl, hb⟩
              have HB9 := Lib.hid (btr HK.out.bw hb)
              clear hb
              go_wp2
              go_ret
              exact ⟨rfl, HB9.out⟩
end Go.Proofs.YtgceecfjammnaaaDoor.L16

/- An argument that is a slice of numbers, opened. (Written by hand: no generator.) -/
namespace Go.Proofs.YtgceecfjammnaaaDoor.L16
open Go.RowKit Go.ChangeShapes Go.WideShapes Go.Deep Go.Joins Go.ChangeAt

section
variable {H : Type} {enc : TypeId × Value → H} {W : World} {held : Bool}
theorem open_ns {fuel : Nat} {cs : List Value} {x : DataW H × List MemPlace} (h : DataW.trod enc Tryd.prog W 0 (fun _ => true) held fuel 39 cs = some x) :
    ∃ (a : Option Addr) (c : Nat) (zs : List Int), cs = [.slice a zs.length c] ∧ NsAt W a zs ∧ (zs.length ≤ c ∧ c ≤ 9223372036854775807) := by
  rcases open_ints Tryd.underlying39 Tryd.underlying3 cellsI h with ⟨hcs, _⟩ | ⟨a, len, cap, zs, hcs, _, hl, hm, hz, _, hcell, _⟩
  · exact ⟨none, 0, [], hcs, fun i hi => absurd hi (Nat.not_lt_zero i), Nat.le_refl _, by omega⟩
  · have hz' : zs.length = cap := by simpa using hz
    refine ⟨some a, cap, zs.take len, by rw [hcs, List.length_take, hz', Nat.min_eq_left hl], fun i hi => ?_, by rw [List.length_take]; omega, by unfold maxLen at hm; omega⟩
    have hi' : i < zs.length := by simp at hi; omega
    have hc := hcell i hi'
    obtain ⟨b, o, spot⟩ := a
    have hspot : spot = none := by simpa [Addr.add] using World.cell?_spot (hcell 0 (by omega))
    subst hspot
    rw [add_at] at hc
    exact ⟨b, o, rfl, blt hc, by rw [hc, List.getElem_take, List.getD_eq_getElem?_getD, List.getElem?_eq_getElem hi', Option.getD_some]⟩
end
end Go.Proofs.YtgceecfjammnaaaDoor.L16
