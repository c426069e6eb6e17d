/- Find: its contract. -/
import Derived.Test.YtbkoldjblkbpeaaDoorJ
import Derived.Laws.StructEq
namespace Go.Proofs.YtbkoldjblkbpeaaDoor
open Go.RowKit Go.Shelf
attribute [local go_sem] Oper.semAt_some

/-- No operator. -/
def noO : Opr := ⟨⟨#[]⟩, 0, by decide⟩
/-- The last of this name. -/
def lastM (s : ByteArray) (l : List Opr) : Opr := l.foldl (fun f x => if x.n = s then x else f) noO
theorem lastM_snoc (s : ByteArray) (l : List Opr) (x : Opr) : lastM s (l ++ [x]) = if x.n = s then x else lastM s l := by simp [lastM]
/-- Whether one is found. -/
def fndB (l : List Opr) (s : ByteArray) : Bool := rightB l && !(decide ((lastM s l).n = ⟨#[]⟩) && decide ((lastM s l).r = 0))
def fndN (l : List Opr) (s : ByteArray) : Int := if fndB l s then (lastM s l).r else 0
def fndE (l : List Opr) (s : ByteArray) : Int := if fndB l s then 0 else 120

/-- What holds while one is sought. -/
structure MetF (z y : Nat) (w : World) (s : ByteArray) (D : List Opr) (W : World) : Prop where
  n : W.cell? ⟨z, 0, none⟩ = some (.string s)
  c0 : W.cell? ⟨y, 0, none⟩ = some (.string (lastM s D).n)
  c1 : W.cell? ⟨y, 1, none⟩ = some (.int .i64 (lastM s D).r)
  f0 : W.frozen? ⟨y, 0, none⟩ = false
  f1 : W.frozen? ⟨y, 1, none⟩ = false
  b : Below z w W
  s : y + 2 ≤ W.heap.size
theorem ownFrom_metF {z y B' : Nat} {w : World} {s : ByteArray} (hz : z ≤ B') : OwnFrom B' (MetF z y w s) := fun _ _ _ _ h hg hr =>
  ⟨cell_kept h.n hg (fun r e => (hr r e).2), cell_kept h.c0 hg (fun r e => (hr r e).2), cell_kept h.c1 hg (fun r e => (hr r e).2), (frozen_kept h.c0 hg (fun r e => (hr r e).2)).trans h.f0, (frozen_kept h.c1 hg (fun r e => (hr r e).2)).trans h.f1,
    h.b.grown hg (by have := blt h.n; omega) (fun j hj => by have := (hr j hj).1; omega), Nat.le_trans h.s hg.size⟩
theorem fndE_ok {l : List Opr} {s : ByteArray} (h : rightB l = true) : fndE l s = if (lastM s l).n = ⟨#[]⟩ ∧ (lastM s l).r = 0 then 120 else 0 := by
  by_cases h1 : (lastM s l).n = ⟨#[]⟩ <;> by_cases h2 : (lastM s l).r = 0 <;> simp [fndE, fndB, h, h1, h2]
theorem fndN_ok {l : List Opr} {s : ByteArray} (h : rightB l = true) : fndN l s = if (lastM s l).n = ⟨#[]⟩ ∧ (lastM s l).r = 0 then 0 else (lastM s l).r := by
  by_cases h1 : (lastM s l).n = ⟨#[]⟩ <;> by_cases h2 : (lastM s l).r = 0 <;> simp [fndN, fndB, h, h1, h2]
theorem toList_nil {s : ByteArray} (h : ¬ s = ⟨#[]⟩) : ¬ s.toList = [] := fun e => h (by
  rw [ByteArray.toList_eq] at e
  exact ByteArray.ext (Array.toList_inj.1 e))

def AxF (z y L : Nat) (a : Option Addr) (cap : Nat) (s : ByteArray) (x : Opr) (a' : Act) (W : World) : Prop := ∃ b, y + 2 ≤ b ∧ W.cell? ⟨b, 0, none⟩ = some (.string x.n) ∧ W.cell? ⟨b, 1, none⟩ = some (.int .i64 x.r) ∧
  a' = { tmps := #[.slice a L cap, .string s, undef, .pointer (some ⟨z, 0, none⟩), .int .i64 0, .int .i64 0, .pointer (some ⟨y, 0, none⟩), .pointer (some ⟨b, 0, none⟩), .slice a L cap, .bool true, .bool false, .agg #[.string ⟨#[]⟩, .int .i64 0], .slice a L cap,
    .func (.func 38) #[] #[.pointer (some ⟨y + 1, 0, none⟩)], opV x, undef, undef, undef, undef, undef, undef, undef, undef, undef, undef, undef, undef], defers := [] }
theorem ownFrom_axF {z y L B' : Nat} {a : Option Addr} {cap : Nat} {s : ByteArray} (x : Opr) (a' : Act) : OwnFrom B' (fun (_ : Unit) W => AxF z y L a cap s x a' W) := fun _ _ _ _ ⟨b, hb, h0, h1, e⟩ hg hr =>
  ⟨b, hb, cell_kept h0 hg (fun r e => (hr r e).2), cell_kept h1 hg (fun r e => (hr r e).2), e⟩

set_option maxRecDepth 100000 in
set_option maxHeartbeats 2000000 in
theorem find_in (a : Option Addr) (cap : Nat) (zs : List Opr) (s : ByteArray) (hlen : zs.length ≤ 1000) (w : World) (hI : OprsAt w.heap.size w a zs) :
    CallsIn Fence.wide 6 Tryd.prog 22 #[.slice a zs.length cap, .string s] w fun e w' => e = .returned (.tuple #[.int .i64 (fndN zs s), .int .i64 (fndE zs s)]) ∧ Below w.heap.size w w' := by
  have hro : Fence.wide.round = none := rfl
  have hS := some_stops Fence.wide 5 trivial rfl (by omega)
  have HI := Lib.hid hI
  have HS := Lib.hid hS
  have hR := fun W (h : OprsAt W.heap.size W a zs) => callsIn_wide.1 (right_in a cap zs hlen W h)
  have HR := Lib.hid hR
  have N30 : Fence.wide.fn 30 := trivial
  have N24 : Fence.wide.fn 24 := trivial
  clear hI hS hR
  generalize hL : zs.length = L at *
  generalize hrb : rightB zs = rb at *
  refine callsIn_of_wp_marks Tryd.func22 rfl trivial ?_ rfl
  simp only [Tryd.ntmps22, List.size_toArray, List.length_cons, List.length_nil, Nat.reduceAdd, Nat.reduceSub, Array.replicate_succ, Array.replicate_zero, List.push_toArray, List.append_toArray, List.nil_append, List.cons_append]
  have HI1 := Lib.hid (HI.out.below ((Below.refl w.heap.size w).alloc (Nat.le_refl _) (.cells #[.string s] 9)))
  have HI2 : Hid (OprsAt (w.alloc (.cells #[.string s] 9)).heap.size (w.alloc (.cells #[.string s] 9)) a zs) := Lib.hid (fun i hi => by
    obtain ⟨b, off, e, hb, h1, h2⟩ := HI1.out i hi
    exact ⟨b, off, e, by rw [World.size_alloc]; omega, h1, h2⟩)
  cases rb with
  | false =>
    have e1 : fndN zs s = 0 := by simp [fndN, fndB, hrb]
    have e2 : fndE zs s = 120 := by simp [fndE, fndB, hrb]
    rw [e1, e2]
    clear e1 e2
    gi_wp2_with (gi_at_call 24; refine (callsIn_wide.2 (HR.out _ HI2.out)).mono ?_; rintro e w1 ⟨rfl, hB1⟩)
    exact ⟨_, by simp [results, Tryd.f22, go_sem], rfl, btr (below_alloc _ _) hB1⟩
  | true =>
    gi_wp2_with (first | (gi_at_call 24; refine (callsIn_wide.2 (HR.out _ HI2.out)).mono ?_; rintro e w1 ⟨rfl, hB1⟩) | (gi_at_call 30; refine (some_in Fence.wide 5 trivial rfl _ _ _ _).mono ?_; rintro e w' ⟨rfl, rfl⟩))
    rename_i K hK
    have hnz := (hB1.cell (p := ⟨w.heap.size, 0, none⟩) (by rw [World.size_alloc]; exact Nat.lt_succ_self _)).trans (show (w.alloc (.cells #[.string s] 9)).cell? ⟨w.heap.size, 0, none⟩ = some (.string s) by go_simp)
    have hzy : w.heap.size + 1 ≤ w1.heap.size := by have := hB1.size; rwa [World.size_alloc] at this
    have bw1 : Below w.heap.size w w1 := btr (below_alloc _ _) hB1
    clear HI1 HI2 HR hB1
    generalize hz : w.heap.size = z at *
    generalize hy : w1.heap.size = y at *
    have bW : Below z w ((w1.alloc (.cells #[.string ⟨#[]⟩, .int .i64 0] 56)).alloc (.cells #[.slice a L cap] 34)) := (bw1.alloc (by omega) _).alloc (by simp; omega) _
    have tn : ((w1.alloc (.cells #[.string ⟨#[]⟩, .int .i64 0] 56)).alloc (.cells #[.slice a L cap] 34)).cell? ⟨z, 0, none⟩ = some (.string s) := keep_alloc _ (keep_alloc _ hnz)
    have t0 : ((w1.alloc (.cells #[.string ⟨#[]⟩, .int .i64 0] 56)).alloc (.cells #[.slice a L cap] 34)).cell? ⟨y, 0, none⟩ = some (.string ⟨#[]⟩) := by subst hy; go_simp
    have t1 : ((w1.alloc (.cells #[.string ⟨#[]⟩, .int .i64 0] 56)).alloc (.cells #[.slice a L cap] 34)).cell? ⟨y, 1, none⟩ = some (.int .i64 0) := by subst hy; go_simp
    have f0 : ((w1.alloc (.cells #[.string ⟨#[]⟩, .int .i64 0] 56)).alloc (.cells #[.slice a L cap] 34)).frozen? ⟨y, 0, none⟩ = false := by subst hy; go_simp
    have f1 : ((w1.alloc (.cells #[.string ⟨#[]⟩, .int .i64 0] 56)).alloc (.cells #[.slice a L cap] 34)).frozen? ⟨y, 1, none⟩ = false := by subst hy; go_simp
    have tv : ((w1.alloc (.cells #[.string ⟨#[]⟩, .int .i64 0] 56)).alloc (.cells #[.slice a L cap] 34)).cell? ⟨y + 1, 0, none⟩ = some (.slice a L cap) := by subst hy; go_simp
    have hzV : ((w1.alloc (.cells #[.string ⟨#[]⟩, .int .i64 0] 56)).alloc (.cells #[.slice a L cap] 34)).heap.size = y + 2 := by simp [hy]
    generalize ((w1.alloc (.cells #[.string ⟨#[]⟩, .int .i64 0] 56)).alloc (.cells #[.slice a L cap] 34)) = V at *
    refine wpIn_rangeFunc_ownH hro (by omega) (gf := 38) (lb := #[.pointer (some ⟨y + 1, 0, none⟩)]) rfl trivial (enters_of Tryd.func38 (by kernel_rfl) rfl)
      (HS.out (y + 1) z a cap zs (by omega) V (by omega) (by rw [hL]; exact tv) (HI.out.below bW)) belowK_t (belowK_b (by omega)) (Below.refl _ _) (fun _ => rfl)
      (MetF z y w s) (fun _ _ _ => False)
      (ownFrom_metF (by omega)) (fun c _ _ _ _ hs _ _ => hs) ⟨tn, t0, t1, f0, f1, bW, by omega⟩
      (AxF z y L a cap s) (fun x a' => ownFrom_axF x a') ?assign ?body ?done ?stop
    case assign =>
      intro l pre x W K' hI0 hK'
      have hzW := hI0.s
      have hzl : z ≤ W.heap.size := by omega
      have A1 : (W.alloc (.cells #[.string x.n, .int .i64 x.r] 56)).cell? ⟨W.heap.size, 0, none⟩ = some (.string x.n) := by go_simp
      have A2 : (W.alloc (.cells #[.string x.n, .int .i64 x.r] 56)).cell? ⟨W.heap.size, 1, none⟩ = some (.int .i64 x.r) := by go_simp
      have hK2 := fun a' => hK' a' (W.alloc (.cells #[.string x.n, .int .i64 x.r] 56)) (KeepsFrom.of_grownBy (World.grownBy_alloc W _ none) (fun j e => by cases e)) ((Below.refl _ _).alloc hzl _)
        (ownFrom_metF (B' := y + 2) (by omega) _ _ _ none hI0 (World.grownBy_alloc W _ none) (fun j e => by cases e))
      have HK := Lib.hid hK2
      clear hK' hI0 tn t0 t1 f0 f1 tv bW hK hK2
      simp only [encO]
      gi_wp2
      exact HK.out _ ⟨W.heap.size, hzW, A1, A2, rfl⟩
    case body =>
      rintro l pre x a' W _ _ g ⟨b, hb, hx0, hx1, rfl⟩ hlt
      have kn := g.n
      have k0 := g.c0
      have k1 := g.c1
      have kf0 := g.f0
      have kf1 := g.f1
      have hzW := g.s
      have G := Lib.hid g
      have HU := Lib.hid (lastM_snoc s pre x)
      clear g tn t0 t1 f0 f1 tv bW hK
      by_cases hxs : x.n = s
      · have HE := Lib.hid hxs
        rw [hxs] at hx0
        clear hxs
        gi_wp2
        have hyz : z ≤ y := by omega
        have hb1 : Below z W ((W.setCell ⟨y, 0, none⟩ (.string s)).setCell ⟨y, 1, none⟩ (.int .i64 x.r)) := ((Below.refl z W).setCell (p := ⟨y, 0, none⟩) hyz _).setCell (p := ⟨y, 1, none⟩) hyz _
        refine ⟨((KeepsOthers.setCell _ _ _).trans (KeepsOthers.setCell _ _ _)).from _, hb1, ?_⟩
        obtain ⟨g1, g2, g3, g4, g5, g6, g7⟩ := G.out
        refine ⟨?_, ?_, ?_, ?_, ?_, g6.trans hb1, by simp only [World.size_setCell]; exact g7⟩
        · exact (set_other _ _ (by omega)).trans ((set_other _ _ (by omega)).trans g1)
        · rw [HU.out, if_pos HE.out, HE.out]
          go_simp
        · rw [HU.out, if_pos HE.out]
          go_simp
        · rw [World.frozen?_setCell, World.frozen?_setCell]; exact g4
        · rw [World.frozen?_setCell, World.frozen?_setCell]; exact g5
      · have hne := toList_ne hxs
        have HE := Lib.hid hxs
        clear hxs
        gi_wp2
        refine ⟨KeepsFrom.refl _ _, Below.refl _ _, ?_⟩
        obtain ⟨g1, g2, g3, g4, g5, g6, g7⟩ := G.out
        refine ⟨g1, ?_, ?_, g4, g5, g6, g7⟩
        · rw [HU.out, if_neg HE.out]; exact g2
        · rw [HU.out, if_neg HE.out]; exact g3
    case done =>
      rintro D ys W hD rfl g hdef
      refine hK _ _ ?_
      have k0 := g.c0
      have k1 := g.c1
      have kb := g.b
      clear g tn t0 t1 f0 f1 tv bW hK
      have hb2 := kb.trans (belowK_b (w := w) (by omega) W D _ (.deferred none) (by omega) hdef rfl rfl)
      obtain ⟨q, hq⟩ : ∃ q, lastM s ys = q := ⟨_, rfl⟩
      have hfE := fndE_ok (s := s) hrb
      have hfN := fndN_ok (s := s) hrb
      rw [hq] at hfE hfN
      rw [hq] at k0 k1
      clear hq kb
      generalize q.n = qn at *
      generalize q.r = qr at *
      have HB2 := Lib.hid hb2
      clear hb2
      by_cases h1 : qn = ⟨#[]⟩
      · by_cases h2 : qr = 0
        · rw [if_pos ⟨h1, h2⟩] at hfE hfN
          subst h1
          subst h2
          have HE := Lib.hid hfE
          have HN := Lib.hid hfN
          clear hfE hfN
          gi_wp2
          refine ⟨by simp, .inl ⟨_, _, rfl, run_takeDeferred hdef, ?_⟩⟩
          exact ⟨.tuple #[.int .i64 0, .int .i64 120], by simp [results, Tryd.f22, go_sem], by rw [HE.out, HN.out], by rw [hz]; exact HB2.out⟩
        · rw [if_neg (fun h => h2 h.2)] at hfE hfN
          subst h1
          have HE := Lib.hid hfE
          have HN := Lib.hid hfN
          clear hfE hfN
          gi_wp2
          refine ⟨by simp, .inl ⟨_, _, rfl, run_takeDeferred hdef, ?_⟩⟩
          exact ⟨.tuple #[.int .i64 qr, .int .i64 0], by simp [results, Tryd.f22, go_sem], by rw [HE.out, HN.out], by rw [hz]; exact HB2.out⟩
      · have h3 := toList_nil h1
        rw [if_neg (fun h => h1 h.1)] at hfE hfN
        have HE := Lib.hid hfE
        have HN := Lib.hid hfN
        clear hfE hfN
        gi_wp2
        refine ⟨by simp, .inl ⟨_, _, rfl, run_takeDeferred hdef, ?_⟩⟩
        exact ⟨.tuple #[.int .i64 qr, .int .i64 0], by simp [results, Tryd.f22, go_sem], by rw [HE.out, HN.out], by rw [hz]; exact HB2.out⟩
    case stop =>
      rintro D c pre W _ _ h _
      exact h.elim
end Go.Proofs.YtbkoldjblkbpeaaDoor
