/- Tc, Td, Te -/
import Derived.Test.YtgceecfjammnaaaDoorZ9
set_option linter.unusedVariables false
set_option linter.unusedSimpArgs false
/- What laws say of Pin and Page. (Written by hand: no generator.) -/
namespace Go.Proofs.YtgceecfjammnaaaDoor.L16
open Go.RowKit Go.Shelf
attribute [local go_sem] Oper.semAt_some
set_option linter.unusedSimpArgs false
set_option linter.unusedVariables false
def SmallI (l : List ByteArray) : Prop := l.length ≤ 66 ∧ ∀ s ∈ l, s.size ≤ 65
structure Small (q : Pl) : Prop where
  len : q.l.length ≤ 5
  it : ∀ s ∈ q.l, SmallI s.it
  lo : -9223372036854775808 ≤ q.n
  hi : q.n ≤ 9223372036854775807
theorem smallI_items (l : List ByteArray) : SmallI (itemsL l) := ⟨itemsL_len l, itemsL_size l⟩
theorem smallI_right {l : List ByteArray} (h : itemsB wordB l = true) : SmallI l := by
  unfold itemsB at h
  simp only [Bool.and_eq_true, decide_eq_true_eq, List.all_eq_true] at h
  refine ⟨by omega, fun s hs => ?_⟩
  have := h.2 s hs
  unfold wordB at this
  simp only [Bool.and_eq_true, decide_eq_true_eq] at this
  omega
theorem small_cut (p : Pl) (h : -9223372036854775808 ≤ p.n ∧ p.n ≤ 9223372036854775807) : Small (cutP p) := by
  refine ⟨?_, fun s hs => ?_, h.1, h.2⟩
  · show (cutL p.l).length ≤ 5
    unfold cutL; rw [List.length_map, List.length_take]; omega
  · have hs : s ∈ cutL p.l := hs
    unfold cutL at hs
    obtain ⟨x, _, rfl⟩ := List.mem_map.1 hs
    exact smallI_items _
theorem small_right {p : Pl} (h : Rt wordB p) : Small p := by
  have := h.n1; have := h.n2; have := h.len
  exact ⟨by omega, fun s hs => smallI_right (h.items s hs), by omega, by omega⟩
theorem small_nil : Small Pl.nil := ⟨Nat.zero_le _, (fun s hs => nomatch hs), by decide, by decide⟩
theorem small_new : Small Pl.new := ⟨Nat.zero_le _, (fun s hs => nomatch hs), by decide, by decide⟩
theorem pinR_small (p : Pl) (items : List ByteArray) (t : Int) : Small (pinR p items t) := by
  unfold pinR
  split
  · exact small_right (pin_right ‹_›)
  · exact small_nil
theorem pageS_right {p : Pl} {c fr k t : Int} (h : pageE wordB p c fr k t = 0) : Rt wordB (pageS p c fr k t) ∧ (pageS p c fr k t).l.length = p.l.length := by
  obtain ⟨s, hs⟩ := page_iff.1 h
  have e : sOf p c = s := by unfold sOf; rw [hs.f]; rfl
  unfold pageS
  rw [if_pos h, e]
  exact page_right hs.r hs.now hs.f
theorem pageS_small (p : Pl) (c fr k t : Int) : Small (pageS p c fr k t) := by
  by_cases h : pageE wordB p c fr k t = 0
  · exact small_right (pageS_right h).1
  · unfold pageS; rw [if_neg h]; exact small_nil
/-- A pool in memory that reads as q. -/
structure PoolIn (q : Pl) (a : Option Addr) (l : List SnM) (W : World) : Prop where
  at' : PlAt W.heap.size W a l
  map : l.map SnM.p = q.l
  small : Small q
theorem PoolIn.set {q : Pl} {a : Option Addr} {l : List SnM} {W : World} {z B o : Nat} {v : Value} (h : PoolIn q a l W) (hf : FarL z a l) (hB : B < z) : PoolIn q a l (W.setCell ⟨B, o, none⟩ v) := ⟨by rw [World.size_setCell]; exact h.at'.set hf hB, h.map, h.small⟩
theorem PoolIn.on {q : Pl} {a : Option Addr} {l : List SnM} {A B : World} (h : PoolIn q a l A) (hb : Below A.heap.size A B) : PoolIn q a l B := ⟨h.at'.on hb, h.map, h.small⟩
theorem StrsAt.onB {a : Option Addr} {l : List ByteArray} {A B : World} (h : StrsAt A.heap.size A a l) (hb : Below A.heap.size A B) : StrsAt B.heap.size B a l := (h.below hb).mono hb.size
theorem PoolIn.b1 {q : Pl} {a : Option Addr} {l : List SnM} {A : World} (h : PoolIn q a l A) : l.length ≤ 5 := by have := h.small.len; rw [← h.map, List.length_map] at this; exact this
theorem PoolIn.b2 {q : Pl} {a : Option Addr} {l : List SnM} {A : World} (h : PoolIn q a l A) : ∀ x ∈ l, SmallI x.it := fun x hx => h.small.it x.p (by rw [← h.map]; exact List.mem_map_of_mem hx)
theorem pin_f (q r : Pl) (a : Option Addr) (l : List SnM) (cap : Nat) (ia : Option Addr) (icap : Nat) (items : List ByteArray) (t cu er : Int) (hr : pinR q items t = r) (hc : pinC q items t = cu) (he : pinE q items t = er) (hi : SmallI items) (w : World) (h : PoolIn q a l w) (hS : StrsAt w.heap.size w ia items) (hE : ErrT w) :
    Calls Tryd.prog 12 #[.agg #[.slice a l.length cap, .int .i64 q.n], .slice ia items.length icap, .int .i64 t] w fun y w' => ∃ a' c' l', y = .returned (.tuple #[.agg #[.slice a' (l' : List SnM).length c', .int .i64 r.n], .int .i64 cu, .int .i64 er]) ∧ PoolIn r a' l' w' ∧ FarL w.heap.size a' l' ∧ Below w.heap.size w w' := by
  subst hr hc he
  have hq : (⟨l.map SnM.p, q.n⟩ : Pl) = q := by rw [h.map]
  have := Pin_c a ia cap icap q.n t ⟨h.small.lo, h.small.hi⟩ l items (by have := h.b1; omega) (fun x hx => ⟨by have := (h.b2 x hx).1; omega, fun s hs => by have := (h.b2 x hx).2 s hs; omega⟩) (by have := hi.1; omega) (fun s hs => by have := hi.2 s hs; omega) w h.at' hS hE
  rw [hq] at this
  refine this.mono ?_
  rintro y w' ⟨v, rfl, ⟨a', c', l', rfl, hp, hf, hm⟩, hb⟩
  exact ⟨a', c', l', rfl, ⟨hp, hm, pinR_small _ _ _⟩, hf, hb⟩
theorem pin_v (q r : Pl) (a : Option Addr) (l : List SnM) (cap : Nat) (ia : Option Addr) (icap : Nat) (items : List ByteArray) (t cu er : Int) (hr : pinR q items t = r) (hc : pinC q items t = cu) (he : pinE q items t = er) (hi : SmallI items) (w : World) (h : PoolIn q a l w) (hS : StrsAt w.heap.size w ia items) (hE : ErrT w) :
    Calls Tryd.prog 12 #[.agg #[.slice a l.length cap, .int .i64 q.n], .slice ia items.length icap, .int .i64 t] w fun y w' => ∃ a' c' l', y = .returned (.tuple #[.agg #[.slice a' (l' : List SnM).length c', .int .i64 r.n], .int .i64 cu, .int .i64 er]) ∧ PoolIn r a' l' w' ∧ Below w.heap.size w w' := by
  refine (pin_f q r a l cap ia icap items t cu er hr hc he hi w h hS hE).mono ?_
  rintro y w' ⟨a', c', l', rfl, hp, _, hb⟩
  exact ⟨a', c', l', rfl, hp, hb⟩
theorem page_f (q r : Pl) (a : Option Addr) (l : List SnM) (cap : Nat) (c fr k t : Int) (its : List ByteArray) (nb er : Int) (hr : pageS q c fr k t = r) (hl : pageL q c fr k t = its) (hn : pageB q c fr k t = nb) (he : pageE wordB q c fr k t = er) (w : World) (h : PoolIn q a l w) (hE : ErrT w) :
    Calls Tryd.prog 14 #[.agg #[.slice a l.length cap, .int .i64 q.n], .int .i64 c, .int .i64 fr, .int .i64 k, .int .i64 t] w fun y w' => ∃ a' c' l' b d, y = .returned (.tuple #[.agg #[.slice a' (l' : List SnM).length c', .int .i64 r.n], .slice b its.length d, .int .i64 nb, .int .i64 er]) ∧ PoolIn r a' l' w' ∧ StrsAt w'.heap.size w' b its ∧ FarL w.heap.size a' l' ∧ Below w.heap.size w w' := by
  subst hr hl hn he
  have hq : (⟨l.map SnM.p, q.n⟩ : Pl) = q := by rw [h.map]
  have := Page_c a cap q.n c fr k t ⟨h.small.lo, h.small.hi⟩ l (by have := h.b1; omega) (fun x hx => ⟨by have := (h.b2 x hx).1; omega, fun s hs => by have := (h.b2 x hx).2 s hs; omega⟩) w h.at' hE
  rw [hq] at this
  refine this.mono ?_
  rintro y w' ⟨v, b, d, rfl, ⟨a', c', l', rfl, hp, hf, hm⟩, hs, hb⟩
  exact ⟨a', c', l', b, d, rfl, ⟨hp, hm, pageS_small _ _ _ _ _⟩, hs, hf, hb⟩
theorem page_v (q r : Pl) (a : Option Addr) (l : List SnM) (cap : Nat) (c fr k t : Int) (its : List ByteArray) (nb er : Int) (hr : pageS q c fr k t = r) (hl : pageL q c fr k t = its) (hn : pageB q c fr k t = nb) (he : pageE wordB q c fr k t = er) (w : World) (h : PoolIn q a l w) (hE : ErrT w) :
    Calls Tryd.prog 14 #[.agg #[.slice a l.length cap, .int .i64 q.n], .int .i64 c, .int .i64 fr, .int .i64 k, .int .i64 t] w fun y w' => ∃ a' c' l' b d, y = .returned (.tuple #[.agg #[.slice a' (l' : List SnM).length c', .int .i64 r.n], .slice b its.length d, .int .i64 nb, .int .i64 er]) ∧ PoolIn r a' l' w' ∧ StrsAt w'.heap.size w' b its ∧ Below w.heap.size w w' := by
  refine (page_f q r a l cap c fr k t its nb er hr hl hn he w h hE).mono ?_
  rintro y w' ⟨a', c', l', b, d, rfl, hp, hs, _, hb⟩
  exact ⟨a', c', l', b, d, rfl, hp, hs, hb⟩
theorem same_v (a b : Option Addr) (c d : Nat) (xs ys : List ByteArray) (r : Bool) (hr : decide (xs = ys) = r) (w : World) (hx : xs.length ≤ 100000) (hy : ys.length ≤ 100000) (hA : StrsAt w.heap.size w a xs) (hB : StrsAt w.heap.size w b ys) :
    Calls Tryd.prog 22 #[.slice a xs.length c, .slice b ys.length d] w fun e w' => e = .returned (.bool r) ∧ Below w.heap.size w w' := by
  subst hr
  exact rSame_c a b c d xs ys w hx hy hA hB
theorem pRight_v (q : Pl) (a : Option Addr) (l : List SnM) (cap : Nat) (r : Bool) (hr : rightP wordB q = r) (w : World) (h : PoolIn q a l w) :
    Calls Tryd.prog 16 #[.agg #[.slice a l.length cap, .int .i64 q.n]] w fun x w' => x = .returned (.bool r) ∧ Below w.heap.size w w' := by
  subst hr
  have hq : (⟨l.map SnM.p, q.n⟩ : Pl) = q := by rw [h.map]
  have := pRight_c a cap q.n h.small.hi l (by have := h.b1; omega) (fun x hx => ⟨by have := (h.b2 x hx).1; omega, fun s hs => by have := (h.b2 x hx).2 s hs; omega⟩) w h.at'
  rw [hq] at this
  exact this
/-- Literal texts. -/
theorem strs_lit (W : World) (zs : List ByteArray) : StrsAt (W.alloc (.cells (zs.map Value.string).toArray 9)).heap.size (W.alloc (.cells (zs.map Value.string).toArray 9)) (some ⟨W.heap.size, 0, none⟩) zs := fun i hi => by
  refine ⟨W.heap.size, 0, rfl, by simp, ?_⟩
  have := World.alloc_heap_new W (.cells (zs.map Value.string).toArray 9)
  unfold World.cell?
  rw [show (⟨W.heap.size, 0 + i, none⟩ : Addr).block = W.heap.size from rfl, this]
  simp [hi]
theorem strs_litB (W : World) (B : Nat) (hB : W.heap.size = B) (zs : List ByteArray) : StrsAt (W.alloc (.cells (zs.map Value.string).toArray 9)).heap.size (W.alloc (.cells (zs.map Value.string).toArray 9)) (some ⟨B, 0, none⟩) zs := hB ▸ strs_lit W zs
def txA : ByteArray := ⟨#[97]⟩
def txB : ByteArray := ⟨#[98]⟩
def txC : ByteArray := ⟨#[99]⟩
def sh1 : Pl := ⟨[⟨1, [txA, txB, txC], 5⟩], 2⟩
def sh2 : Pl := ⟨[⟨1, [txA, txB, txC], 6⟩], 2⟩
def sh3 : Pl := ⟨[⟨1, [txA, txB, txC], 7⟩], 2⟩
theorem shn1 : pinR Pl.new [txA, txB, txC] 5 = sh1 ∧ pinC Pl.new [txA, txB, txC] 5 = 1 ∧ pinE Pl.new [txA, txB, txC] 5 = 0 := ⟨by kernel_rfl, by kernel_rfl, by kernel_rfl⟩
theorem shn2 : pageS sh1 1 0 2 6 = sh2 ∧ pageL sh1 1 0 2 6 = [txA, txB] ∧ pageB sh1 1 0 2 6 = 2 ∧ pageE wordB sh1 1 0 2 6 = 0 := ⟨by kernel_rfl, by kernel_rfl, by kernel_rfl, by kernel_rfl⟩
theorem shn3 : pageS sh2 1 2 2 7 = sh3 ∧ pageL sh2 1 2 2 7 = [txC] ∧ pageB sh2 1 2 2 7 = -1 ∧ pageE wordB sh2 1 2 2 7 = 0 := ⟨by kernel_rfl, by kernel_rfl, by kernel_rfl, by kernel_rfl⟩
theorem shn4 : pageS sh3 1 0 2 1007 = Pl.nil ∧ pageL sh3 1 0 2 1007 = [] ∧ pageB sh3 1 0 2 1007 = 0 ∧ pageE wordB sh3 1 0 2 1007 = 161 := ⟨by kernel_rfl, by kernel_rfl, by kernel_rfl, by kernel_rfl⟩
theorem shn5 : pageS sh3 9 0 2 7 = Pl.nil ∧ pageL sh3 9 0 2 7 = [] ∧ pageB sh3 9 0 2 7 = 0 ∧ pageE wordB sh3 9 0 2 7 = 161 := ⟨by kernel_rfl, by kernel_rfl, by kernel_rfl, by kernel_rfl⟩
end Go.Proofs.YtgceecfjammnaaaDoor.L16

/- shown. -/
namespace Go.Proofs.YtgceecfjammnaaaDoor.L16
open Go.RowKit Go.Shelf
attribute [local go_sem] Oper.semAt_some
set_option linter.unusedSimpArgs false
set_option linter.unusedVariables false
set_option maxRecDepth 100000 in
set_option maxHeartbeats 4000000 in
theorem shown_c (w : World) (hE : ErrT w) : Calls Tryd.prog 9 #[] w fun y w' => y = .returned (.bool true) ∧ Below w.heap.size w w' := by
  have HE := Lib.hid hE
  clear hE
  go_enter Tryd.func9, Tryd.ntmps9
  go_wp2_with fail
  have B0 : Below w.heap.size w w := Below.refl _ w
  replace B0 := Lib.hid B0
  refine (pNew_c _).mono ?_; rintro e w1 ⟨rfl, hb⟩
  have B1 : RowKit.Hid (Below w.heap.size w w1) := Lib.hid (btr B0.out hb)
  clear hb
  go_wp2_with fail
  refine (pin_v Pl.new sh1 none [] 0 (some ⟨w1.heap.size, 0, none⟩) 3 [txA, txB, txC] 5 1 0 shn1.1 shn1.2.1 shn1.2.2 ⟨by decide, by decide⟩ _ ⟨⟨SnMAt.nil _ _ _, fun x hx => nomatch hx⟩, rfl, small_new⟩ (strs_lit _ [txA, txB, txC]) (HE.out.onB (bal B1.out _))).mono ?_; rintro e w2 ⟨a2, c2, l2, rfl, hp, hb⟩
  have B2 : RowKit.Hid (Below w.heap.size w (w2.alloc (.cells #[.slice a2 l2.length c2, .int .i64 sh1.n] 24))) := Lib.hid (bal (btr (bal B1.out _) hb) _)
  have HP2 := Lib.hid (hp.on (show Below w2.heap.size w2 (w2.alloc (.cells #[.slice a2 l2.length c2, .int .i64 sh1.n] 24)) from (bal (Below.refl w2.heap.size w2) _)))
  clear hp
  clear hb
  have f2_0_0 : (w2.alloc (.cells #[.slice a2 l2.length c2, .int .i64 sh1.n] 24)).cell? ⟨w2.heap.size, 0, none⟩ = some (.slice a2 l2.length c2) := by go_simp
  have f2_0_1 : (w2.alloc (.cells #[.slice a2 l2.length c2, .int .i64 sh1.n] 24)).cell? ⟨w2.heap.size, 1, none⟩ = some (.int .i64 sh1.n) := by go_simp
  have KK0 := Lib.hid (show ∀ W, Below (w2.alloc (.cells #[.slice a2 l2.length c2, .int .i64 sh1.n] 24)).heap.size (w2.alloc (.cells #[.slice a2 l2.length c2, .int .i64 sh1.n] 24)) W → W.cell? ⟨w2.heap.size, 0, none⟩ = some (.slice a2 l2.length c2) ∧ W.cell? ⟨w2.heap.size, 1, none⟩ = some (.int .i64 sh1.n) from fun W h => ⟨(h.cell (p := ⟨w2.heap.size, 0, none⟩) (blt f2_0_0)).trans f2_0_0, (h.cell (p := ⟨w2.heap.size, 1, none⟩) (blt f2_0_1)).trans f2_0_1⟩)
  have C0_2 := Lib.hid (Below.refl (w2.alloc (.cells #[.slice a2 l2.length c2, .int .i64 sh1.n] 24)).heap.size (w2.alloc (.cells #[.slice a2 l2.length c2, .int .i64 sh1.n] 24)))
  go_wp2_with fail
  refine (page_v sh1 sh2 a2 l2 c2 1 0 2 6 [txA, txB] 2 0 shn2.1 shn2.2.1 shn2.2.2.1 shn2.2.2.2 _ (HP2.out.on C0_2.out) (HE.out.onB B2.out)).mono ?_; rintro e w3 ⟨a3, c3, l3, b3, d3, rfl, hp, hs, hb⟩
  have B3 : RowKit.Hid (Below w.heap.size w (w3.alloc (.cells #[.slice a3 l3.length c3, .int .i64 sh2.n] 24))) := Lib.hid (bal (btr B2.out hb) _)
  have C0_3 : RowKit.Hid (Below (w2.alloc (.cells #[.slice a2 l2.length c2, .int .i64 sh1.n] 24)).heap.size (w2.alloc (.cells #[.slice a2 l2.length c2, .int .i64 sh1.n] 24)) (w3.alloc (.cells #[.slice a3 l3.length c3, .int .i64 sh2.n] 24))) := Lib.hid (bal (btr C0_2.out hb) _)
  have HP3 := Lib.hid (hp.on (show Below w3.heap.size w3 (w3.alloc (.cells #[.slice a3 l3.length c3, .int .i64 sh2.n] 24)) from (bal (Below.refl w3.heap.size w3) _)))
  have HS3 := Lib.hid (hs.onB (show Below w3.heap.size w3 (w3.alloc (.cells #[.slice a3 l3.length c3, .int .i64 sh2.n] 24)) from (bal (Below.refl w3.heap.size w3) _)))
  clear hp hs
  clear f2_0_0 f2_0_1 hb
  obtain ⟨f3_0_0, f3_0_1⟩ := KK0.out (w3.alloc (.cells #[.slice a3 l3.length c3, .int .i64 sh2.n] 24)) C0_3.out
  have f3_1_0 : (w3.alloc (.cells #[.slice a3 l3.length c3, .int .i64 sh2.n] 24)).cell? ⟨w3.heap.size, 0, none⟩ = some (.slice a3 l3.length c3) := by go_simp
  have f3_1_1 : (w3.alloc (.cells #[.slice a3 l3.length c3, .int .i64 sh2.n] 24)).cell? ⟨w3.heap.size, 1, none⟩ = some (.int .i64 sh2.n) := by go_simp
  have KK1 := Lib.hid (show ∀ W, Below (w3.alloc (.cells #[.slice a3 l3.length c3, .int .i64 sh2.n] 24)).heap.size (w3.alloc (.cells #[.slice a3 l3.length c3, .int .i64 sh2.n] 24)) W → W.cell? ⟨w3.heap.size, 0, none⟩ = some (.slice a3 l3.length c3) ∧ W.cell? ⟨w3.heap.size, 1, none⟩ = some (.int .i64 sh2.n) from fun W h => ⟨(h.cell (p := ⟨w3.heap.size, 0, none⟩) (blt f3_1_0)).trans f3_1_0, (h.cell (p := ⟨w3.heap.size, 1, none⟩) (blt f3_1_1)).trans f3_1_1⟩)
  have C1_3 := Lib.hid (Below.refl (w3.alloc (.cells #[.slice a3 l3.length c3, .int .i64 sh2.n] 24)).heap.size (w3.alloc (.cells #[.slice a3 l3.length c3, .int .i64 sh2.n] 24)))
  go_wp2_with fail
  refine (page_v sh2 sh3 a3 l3 c3 1 2 2 7 [txC] (-1) 0 shn3.1 shn3.2.1 shn3.2.2.1 shn3.2.2.2 _ (HP3.out.on C1_3.out) (HE.out.onB B3.out)).mono ?_; rintro e w4 ⟨a4, c4, l4, b4, d4, rfl, hp, hs, hb⟩
  have B4 : RowKit.Hid (Below w.heap.size w (w4.alloc (.cells #[.slice a4 l4.length c4, .int .i64 sh3.n] 24))) := Lib.hid (bal (btr B3.out hb) _)
  have C0_4 : RowKit.Hid (Below (w2.alloc (.cells #[.slice a2 l2.length c2, .int .i64 sh1.n] 24)).heap.size (w2.alloc (.cells #[.slice a2 l2.length c2, .int .i64 sh1.n] 24)) (w4.alloc (.cells #[.slice a4 l4.length c4, .int .i64 sh3.n] 24))) := Lib.hid (bal (btr C0_3.out hb) _)
  have C1_4 : RowKit.Hid (Below (w3.alloc (.cells #[.slice a3 l3.length c3, .int .i64 sh2.n] 24)).heap.size (w3.alloc (.cells #[.slice a3 l3.length c3, .int .i64 sh2.n] 24)) (w4.alloc (.cells #[.slice a4 l4.length c4, .int .i64 sh3.n] 24))) := Lib.hid (bal (btr C1_3.out hb) _)
  have HP4 := Lib.hid (hp.on (show Below w4.heap.size w4 (w4.alloc (.cells #[.slice a4 l4.length c4, .int .i64 sh3.n] 24)) from (bal (Below.refl w4.heap.size w4) _)))
  have HS4 := Lib.hid (hs.onB (show Below w4.heap.size w4 (w4.alloc (.cells #[.slice a4 l4.length c4, .int .i64 sh3.n] 24)) from (bal (Below.refl w4.heap.size w4) _)))
  clear hp hs
  clear f3_0_0 f3_0_1 f3_1_0 f3_1_1 hb
  obtain ⟨f4_0_0, f4_0_1⟩ := KK0.out (w4.alloc (.cells #[.slice a4 l4.length c4, .int .i64 sh3.n] 24)) C0_4.out
  obtain ⟨f4_1_0, f4_1_1⟩ := KK1.out (w4.alloc (.cells #[.slice a4 l4.length c4, .int .i64 sh3.n] 24)) C1_4.out
  have f4_2_0 : (w4.alloc (.cells #[.slice a4 l4.length c4, .int .i64 sh3.n] 24)).cell? ⟨w4.heap.size, 0, none⟩ = some (.slice a4 l4.length c4) := by go_simp
  have f4_2_1 : (w4.alloc (.cells #[.slice a4 l4.length c4, .int .i64 sh3.n] 24)).cell? ⟨w4.heap.size, 1, none⟩ = some (.int .i64 sh3.n) := by go_simp
  have KK2 := Lib.hid (show ∀ W, Below (w4.alloc (.cells #[.slice a4 l4.length c4, .int .i64 sh3.n] 24)).heap.size (w4.alloc (.cells #[.slice a4 l4.length c4, .int .i64 sh3.n] 24)) W → W.cell? ⟨w4.heap.size, 0, none⟩ = some (.slice a4 l4.length c4) ∧ W.cell? ⟨w4.heap.size, 1, none⟩ = some (.int .i64 sh3.n) from fun W h => ⟨(h.cell (p := ⟨w4.heap.size, 0, none⟩) (blt f4_2_0)).trans f4_2_0, (h.cell (p := ⟨w4.heap.size, 1, none⟩) (blt f4_2_1)).trans f4_2_1⟩)
  have C2_4 := Lib.hid (Below.refl (w4.alloc (.cells #[.slice a4 l4.length c4, .int .i64 sh3.n] 24)).heap.size (w4.alloc (.cells #[.slice a4 l4.length c4, .int .i64 sh3.n] 24)))
  go_wp2_with fail
  refine (page_v sh3 Pl.nil a4 l4 c4 1 0 2 1007 [] 0 161 shn4.1 shn4.2.1 shn4.2.2.1 shn4.2.2.2 _ (HP4.out.on C2_4.out) (HE.out.onB B4.out)).mono ?_; rintro e w5 ⟨a5, c5, l5, b5, d5, rfl, hp, hs, hb⟩
  have B5 : RowKit.Hid (Below w.heap.size w (w5.alloc (.cells #[.slice a5 l5.length c5, .int .i64 Pl.nil.n] 24))) := Lib.hid (bal (btr B4.out hb) _)
  have C0_5 : RowKit.Hid (Below (w2.alloc (.cells #[.slice a2 l2.length c2, .int .i64 sh1.n] 24)).heap.size (w2.alloc (.cells #[.slice a2 l2.length c2, .int .i64 sh1.n] 24)) (w5.alloc (.cells #[.slice a5 l5.length c5, .int .i64 Pl.nil.n] 24))) := Lib.hid (bal (btr C0_4.out hb) _)
  have C1_5 : RowKit.Hid (Below (w3.alloc (.cells #[.slice a3 l3.length c3, .int .i64 sh2.n] 24)).heap.size (w3.alloc (.cells #[.slice a3 l3.length c3, .int .i64 sh2.n] 24)) (w5.alloc (.cells #[.slice a5 l5.length c5, .int .i64 Pl.nil.n] 24))) := Lib.hid (bal (btr C1_4.out hb) _)
  have C2_5 : RowKit.Hid (Below (w4.alloc (.cells #[.slice a4 l4.length c4, .int .i64 sh3.n] 24)).heap.size (w4.alloc (.cells #[.slice a4 l4.length c4, .int .i64 sh3.n] 24)) (w5.alloc (.cells #[.slice a5 l5.length c5, .int .i64 Pl.nil.n] 24))) := Lib.hid (bal (btr C2_4.out hb) _)
  clear hp hs
  clear f4_0_0 f4_0_1 f4_1_0 f4_1_1 f4_2_0 f4_2_1 hb
  obtain ⟨f5_0_0, f5_0_1⟩ := KK0.out (w5.alloc (.cells #[.slice a5 l5.length c5, .int .i64 Pl.nil.n] 24)) C0_5.out
  obtain ⟨f5_1_0, f5_1_1⟩ := KK1.out (w5.alloc (.cells #[.slice a5 l5.length c5, .int .i64 Pl.nil.n] 24)) C1_5.out
  obtain ⟨f5_2_0, f5_2_1⟩ := KK2.out (w5.alloc (.cells #[.slice a5 l5.length c5, .int .i64 Pl.nil.n] 24)) C2_5.out
  have f5_3_0 : (w5.alloc (.cells #[.slice a5 l5.length c5, .int .i64 Pl.nil.n] 24)).cell? ⟨w5.heap.size, 0, none⟩ = some (.slice a5 l5.length c5) := by go_simp
  have f5_3_1 : (w5.alloc (.cells #[.slice a5 l5.length c5, .int .i64 Pl.nil.n] 24)).cell? ⟨w5.heap.size, 1, none⟩ = some (.int .i64 Pl.nil.n) := by go_simp
  have KK3 := Lib.hid (show ∀ W, Below (w5.alloc (.cells #[.slice a5 l5.length c5, .int .i64 Pl.nil.n] 24)).heap.size (w5.alloc (.cells #[.slice a5 l5.length c5, .int .i64 Pl.nil.n] 24)) W → W.cell? ⟨w5.heap.size, 0, none⟩ = some (.slice a5 l5.length c5) ∧ W.cell? ⟨w5.heap.size, 1, none⟩ = some (.int .i64 Pl.nil.n) from fun W h => ⟨(h.cell (p := ⟨w5.heap.size, 0, none⟩) (blt f5_3_0)).trans f5_3_0, (h.cell (p := ⟨w5.heap.size, 1, none⟩) (blt f5_3_1)).trans f5_3_1⟩)
  have C3_5 := Lib.hid (Below.refl (w5.alloc (.cells #[.slice a5 l5.length c5, .int .i64 Pl.nil.n] 24)).heap.size (w5.alloc (.cells #[.slice a5 l5.length c5, .int .i64 Pl.nil.n] 24)))
  go_wp2_with fail
  refine (page_v sh3 Pl.nil a4 l4 c4 9 0 2 7 [] 0 161 shn5.1 shn5.2.1 shn5.2.2.1 shn5.2.2.2 _ (HP4.out.on C2_5.out) (HE.out.onB B5.out)).mono ?_; rintro e w6 ⟨a6, c6, l6, b6, d6, rfl, hp, hs, hb⟩
  have B6 : RowKit.Hid (Below w.heap.size w (w6.alloc (.cells #[.slice a6 l6.length c6, .int .i64 Pl.nil.n] 24))) := Lib.hid (bal (btr B5.out hb) _)
  have C0_6 : RowKit.Hid (Below (w2.alloc (.cells #[.slice a2 l2.length c2, .int .i64 sh1.n] 24)).heap.size (w2.alloc (.cells #[.slice a2 l2.length c2, .int .i64 sh1.n] 24)) (w6.alloc (.cells #[.slice a6 l6.length c6, .int .i64 Pl.nil.n] 24))) := Lib.hid (bal (btr C0_5.out hb) _)
  have C1_6 : RowKit.Hid (Below (w3.alloc (.cells #[.slice a3 l3.length c3, .int .i64 sh2.n] 24)).heap.size (w3.alloc (.cells #[.slice a3 l3.length c3, .int .i64 sh2.n] 24)) (w6.alloc (.cells #[.slice a6 l6.length c6, .int .i64 Pl.nil.n] 24))) := Lib.hid (bal (btr C1_5.out hb) _)
  have C2_6 : RowKit.Hid (Below (w4.alloc (.cells #[.slice a4 l4.length c4, .int .i64 sh3.n] 24)).heap.size (w4.alloc (.cells #[.slice a4 l4.length c4, .int .i64 sh3.n] 24)) (w6.alloc (.cells #[.slice a6 l6.length c6, .int .i64 Pl.nil.n] 24))) := Lib.hid (bal (btr C2_5.out hb) _)
  have C3_6 : RowKit.Hid (Below (w5.alloc (.cells #[.slice a5 l5.length c5, .int .i64 Pl.nil.n] 24)).heap.size (w5.alloc (.cells #[.slice a5 l5.length c5, .int .i64 Pl.nil.n] 24)) (w6.alloc (.cells #[.slice a6 l6.length c6, .int .i64 Pl.nil.n] 24))) := Lib.hid (bal (btr C3_5.out hb) _)
  clear hp hs
  clear f5_0_0 f5_0_1 f5_1_0 f5_1_1 f5_2_0 f5_2_1 f5_3_0 f5_3_1 hb
  obtain ⟨f6_0_0, f6_0_1⟩ := KK0.out (w6.alloc (.cells #[.slice a6 l6.length c6, .int .i64 Pl.nil.n] 24)) C0_6.out
  obtain ⟨f6_1_0, f6_1_1⟩ := KK1.out (w6.alloc (.cells #[.slice a6 l6.length c6, .int .i64 Pl.nil.n] 24)) C1_6.out
  obtain ⟨f6_2_0, f6_2_1⟩ := KK2.out (w6.alloc (.cells #[.slice a6 l6.length c6, .int .i64 Pl.nil.n] 24)) C2_6.out
  obtain ⟨f6_3_0, f6_3_1⟩ := KK3.out (w6.alloc (.cells #[.slice a6 l6.length c6, .int .i64 Pl.nil.n] 24)) C3_6.out
  have f6_4_0 : (w6.alloc (.cells #[.slice a6 l6.length c6, .int .i64 Pl.nil.n] 24)).cell? ⟨w6.heap.size, 0, none⟩ = some (.slice a6 l6.length c6) := by go_simp
  have f6_4_1 : (w6.alloc (.cells #[.slice a6 l6.length c6, .int .i64 Pl.nil.n] 24)).cell? ⟨w6.heap.size, 1, none⟩ = some (.int .i64 Pl.nil.n) := by go_simp
  have KK4 := Lib.hid (show ∀ W, Below (w6.alloc (.cells #[.slice a6 l6.length c6, .int .i64 Pl.nil.n] 24)).heap.size (w6.alloc (.cells #[.slice a6 l6.length c6, .int .i64 Pl.nil.n] 24)) W → W.cell? ⟨w6.heap.size, 0, none⟩ = some (.slice a6 l6.length c6) ∧ W.cell? ⟨w6.heap.size, 1, none⟩ = some (.int .i64 Pl.nil.n) from fun W h => ⟨(h.cell (p := ⟨w6.heap.size, 0, none⟩) (blt f6_4_0)).trans f6_4_0, (h.cell (p := ⟨w6.heap.size, 1, none⟩) (blt f6_4_1)).trans f6_4_1⟩)
  have C4_6 := Lib.hid (Below.refl (w6.alloc (.cells #[.slice a6 l6.length c6, .int .i64 Pl.nil.n] 24)).heap.size (w6.alloc (.cells #[.slice a6 l6.length c6, .int .i64 Pl.nil.n] 24)))
  go_wp2_with fail
  refine (same_v b3 (some ⟨w6.heap.size + 1, 0, none⟩) d3 2 [txA, txB] [txA, txB] true (by decide) _ (by decide) (by decide) (HS3.out.onB (bal C1_6.out _)) (strs_litB _ _ (World.size_alloc _ _) [txA, txB])).mono ?_; rintro e w7 ⟨rfl, hb⟩
  have B7 : RowKit.Hid (Below w.heap.size w w7) := Lib.hid (btr (bal B6.out _) hb)
  have C0_7 : RowKit.Hid (Below (w2.alloc (.cells #[.slice a2 l2.length c2, .int .i64 sh1.n] 24)).heap.size (w2.alloc (.cells #[.slice a2 l2.length c2, .int .i64 sh1.n] 24)) w7) := Lib.hid (btr (bal C0_6.out _) hb)
  have C1_7 : RowKit.Hid (Below (w3.alloc (.cells #[.slice a3 l3.length c3, .int .i64 sh2.n] 24)).heap.size (w3.alloc (.cells #[.slice a3 l3.length c3, .int .i64 sh2.n] 24)) w7) := Lib.hid (btr (bal C1_6.out _) hb)
  have C2_7 : RowKit.Hid (Below (w4.alloc (.cells #[.slice a4 l4.length c4, .int .i64 sh3.n] 24)).heap.size (w4.alloc (.cells #[.slice a4 l4.length c4, .int .i64 sh3.n] 24)) w7) := Lib.hid (btr (bal C2_6.out _) hb)
  have C3_7 : RowKit.Hid (Below (w5.alloc (.cells #[.slice a5 l5.length c5, .int .i64 Pl.nil.n] 24)).heap.size (w5.alloc (.cells #[.slice a5 l5.length c5, .int .i64 Pl.nil.n] 24)) w7) := Lib.hid (btr (bal C3_6.out _) hb)
  have C4_7 : RowKit.Hid (Below (w6.alloc (.cells #[.slice a6 l6.length c6, .int .i64 Pl.nil.n] 24)).heap.size (w6.alloc (.cells #[.slice a6 l6.length c6, .int .i64 Pl.nil.n] 24)) w7) := Lib.hid (btr (bal C4_6.out _) hb)
  clear f6_0_0 f6_0_1 f6_1_0 f6_1_1 f6_2_0 f6_2_1 f6_3_0 f6_3_1 f6_4_0 f6_4_1 hb
  obtain ⟨f7_0_0, f7_0_1⟩ := KK0.out w7 C0_7.out
  obtain ⟨f7_1_0, f7_1_1⟩ := KK1.out w7 C1_7.out
  obtain ⟨f7_2_0, f7_2_1⟩ := KK2.out w7 C2_7.out
  obtain ⟨f7_3_0, f7_3_1⟩ := KK3.out w7 C3_7.out
  obtain ⟨f7_4_0, f7_4_1⟩ := KK4.out w7 C4_7.out
  go_wp2_with fail
  refine (same_v b4 (some ⟨w7.heap.size, 0, none⟩) d4 1 [txC] [txC] true (by decide) _ (by decide) (by decide) (HS4.out.onB (bal C2_7.out _)) (strs_lit _ [txC])).mono ?_; rintro e w8 ⟨rfl, hb⟩
  have B8 : RowKit.Hid (Below w.heap.size w w8) := Lib.hid (btr (bal B7.out _) hb)
  have C0_8 : RowKit.Hid (Below (w2.alloc (.cells #[.slice a2 l2.length c2, .int .i64 sh1.n] 24)).heap.size (w2.alloc (.cells #[.slice a2 l2.length c2, .int .i64 sh1.n] 24)) w8) := Lib.hid (btr (bal C0_7.out _) hb)
  have C1_8 : RowKit.Hid (Below (w3.alloc (.cells #[.slice a3 l3.length c3, .int .i64 sh2.n] 24)).heap.size (w3.alloc (.cells #[.slice a3 l3.length c3, .int .i64 sh2.n] 24)) w8) := Lib.hid (btr (bal C1_7.out _) hb)
  have C2_8 : RowKit.Hid (Below (w4.alloc (.cells #[.slice a4 l4.length c4, .int .i64 sh3.n] 24)).heap.size (w4.alloc (.cells #[.slice a4 l4.length c4, .int .i64 sh3.n] 24)) w8) := Lib.hid (btr (bal C2_7.out _) hb)
  have C3_8 : RowKit.Hid (Below (w5.alloc (.cells #[.slice a5 l5.length c5, .int .i64 Pl.nil.n] 24)).heap.size (w5.alloc (.cells #[.slice a5 l5.length c5, .int .i64 Pl.nil.n] 24)) w8) := Lib.hid (btr (bal C3_7.out _) hb)
  have C4_8 : RowKit.Hid (Below (w6.alloc (.cells #[.slice a6 l6.length c6, .int .i64 Pl.nil.n] 24)).heap.size (w6.alloc (.cells #[.slice a6 l6.length c6, .int .i64 Pl.nil.n] 24)) w8) := Lib.hid (btr (bal C4_7.out _) hb)
  clear f7_0_0 f7_0_1 f7_1_0 f7_1_1 f7_2_0 f7_2_1 f7_3_0 f7_3_1 f7_4_0 f7_4_1 hb
  obtain ⟨f8_0_0, f8_0_1⟩ := KK0.out w8 C0_8.out
  obtain ⟨f8_1_0, f8_1_1⟩ := KK1.out w8 C1_8.out
  obtain ⟨f8_2_0, f8_2_1⟩ := KK2.out w8 C2_8.out
  obtain ⟨f8_3_0, f8_3_1⟩ := KK3.out w8 C3_8.out
  obtain ⟨f8_4_0, f8_4_1⟩ := KK4.out w8 C4_8.out
  go_wp2
  go_ret
  exact ⟨rfl, B8.out⟩
end Go.Proofs.YtgceecfjammnaaaDoor.L16

/- SnapsNone. -/
namespace Go.Proofs.YtgceecfjammnaaaDoor.L16
open Go.RowKit Go.Shelf
attribute [local go_sem] Oper.semAt_some
set_option linter.unusedSimpArgs false
set_option linter.unusedVariables false

theorem pin_no {p : Pl} {items : List ByteArray} {t : Int} (h : pinB wordB p items t = false) : pinR p items t = Pl.nil ∧ pinC p items t = 0 ∧ pinE p items t = 160 := by
  unfold pinR pinC pinE; rw [h]; exact ⟨rfl, rfl, rfl⟩
theorem pin_yes {p : Pl} {items : List ByteArray} {t : Int} (h : pinB wordB p items t = true) : pinR p items t = pinT p items t ∧ pinC p items t = p.n ∧ pinE p items t = 0 := by
  unfold pinR pinC pinE; rw [h]; exact ⟨rfl, rfl, rfl⟩
theorem page_val {p : Pl} {c fr k t : Int} {s : Snp} (h : PageOk wordB p c fr k t s) : pageE wordB p c fr k t = 0 ∧ pageS p c fr k t = pageT p c t s ∧ pageL p c fr k t = pageI s fr k ∧ pageB p c fr k t = pageN s fr k := by
  have e : pageE wordB p c fr k t = 0 := page_iff.2 ⟨s, h⟩
  have es : sOf p c = s := by unfold sOf; rw [h.f]; rfl
  refine ⟨e, ?_, ?_, ?_⟩
  · unfold pageS; rw [if_pos e, es]
  · unfold pageL; rw [if_pos e, es]
  · unfold pageB; rw [if_pos e, es]
theorem pin_pageOk {p : Pl} {items : List ByteArray} {t k t' : Int} (h : PinOk wordB p items t) (k1 : 1 ≤ k) (k2 : k ≤ 10) (h1 : t ≤ t') (h2 : t' ≤ 1000000000000) (h3 : t' - t < 1000) : PageOk wordB (pinT p items t) p.n 0 k t' ⟨p.n, items, t⟩ :=
  ⟨pin_right (pin_iff.2 h), pin_now h1 h2, k1, k2, pin_find h, h3, Int.le_refl _, by omega⟩
theorem pin_page {p : Pl} {items : List ByteArray} {t k : Int} (h : PinOk wordB p items t) (k1 : 1 ≤ k) (k2 : k ≤ 10) : pageE wordB (pinT p items t) p.n 0 k t = 0 ∧ pageL (pinT p items t) p.n 0 k t = items.take k.toNat ∧ pageB (pinT p items t) p.n 0 k t = (if k ≥ items.length then -1 else k) := by
  obtain ⟨e, _, el, eb⟩ := page_val (pin_pageOk h k1 k2 (Int.le_refl _) h.hi (by omega))
  refine ⟨e, el, eb.trans ?_⟩
  unfold pageN
  rw [Int.zero_add]
theorem pin_page_nil {p : Pl} {t : Int} (h : PinOk wordB p [] t) : pageE wordB (pinT p [] t) p.n 0 1 t = 0 ∧ pageL (pinT p [] t) p.n 0 1 t = [] ∧ pageB (pinT p [] t) p.n 0 1 t = -1 := by
  obtain ⟨e, l, b⟩ := pin_page (k := 1) h (by decide) (by decide)
  exact ⟨e, by simpa using l, by rw [b, if_pos (by simp)]⟩
set_option maxRecDepth 100000 in
set_option maxHeartbeats 4000000 in
theorem Wno_c (a : Option Addr) (cap : Nat) (n : Int) (l : List SnM) (hs : l.length ≤ 9223372036854775807) (hi : ∀ x ∈ l, x.it.length ≤ 9223372036854775807 ∧ ∀ s ∈ x.it, s.size ≤ 9223372036854775807) (hn : -9223372036854775808 ≤ n ∧ n ≤ 9223372036854775807) (ia : Option Addr) (icap : Nat) (items : List ByteArray) (t : Int) (his : items.length ≤ 9223372036854775807) (hiz : ∀ s ∈ items, s.size ≤ 9223372036854775807) (w : World) (hA : PlAt w.heap.size w a l) (hS : StrsAt w.heap.size w ia items) (hE : ErrT w) :
    Calls Tryd.prog 8 #[.agg #[.slice a l.length cap, .int .i64 n], .slice ia items.length icap, .int .i64 t] w fun y w' => y = .returned (.bool true) ∧ Below w.heap.size w w' := by
  have HE := Lib.hid hE
  have HA := Lib.hid hA
  have HS := Lib.hid hS
  have HIT := Lib.hid (fun W h => Items_c ia icap items his hiz W h)
  have HCU := Lib.hid (fun W h => Cut_c a cap n l hs hi W h)
  have HQS := Lib.hid (small_cut ⟨l.map SnM.p, n⟩ hn)
  obtain ⟨q, hq⟩ : ∃ q, cutP ⟨l.map SnM.p, n⟩ = q := ⟨_, rfl⟩
  have HQN := Lib.hid (show n = q.n by rw [← hq]; rfl)
  have HQL := Lib.hid (show cutL (l.map SnM.p) = q.l by rw [← hq]; rfl)
  rw [hq] at HQS
  clear hE hA hi hs hn hq hS his hiz
  go_enter Tryd.func8, Tryd.ntmps8
  go_wp2_with fail
  have p0 : (w.alloc (.cells #[.slice a l.length cap, .int .i64 n] 24)).cell? ⟨w.heap.size, 0, none⟩ = some (.slice a l.length cap) := by go_simp
  have g0 : (w.alloc (.cells #[.slice a l.length cap, .int .i64 n] 24)).frozen? ⟨w.heap.size, 0, none⟩ = false := by go_simp
  have p1 : (w.alloc (.cells #[.slice a l.length cap, .int .i64 n] 24)).cell? ⟨w.heap.size, 1, none⟩ = some (.int .i64 n) := by go_simp
  have g1 : (w.alloc (.cells #[.slice a l.length cap, .int .i64 n] 24)).frozen? ⟨w.heap.size, 1, none⟩ = false := by go_simp
  have HB := Lib.hid (below_alloc w (.cells #[.slice a l.length cap, .int .i64 n] 24))
  refine (shown_c _ (HE.out.onB HB.out)).mono ?_
  rintro e w1 ⟨rfl, hb⟩
  replace g0 := (hb.frozen (blt p0)).trans g0
  replace g1 := (hb.frozen (blt p1)).trans g1
  replace p0 := (hb.cell (blt p0)).trans p0
  replace p1 := (hb.cell (blt p1)).trans p1
  have HB1 := Lib.hid (btr HB.out hb)
  have hz1 := blt p0
  clear hb
  go_wp2_with fail
  refine (HCU.out _ (HA.out.on HB1.out)).mono ?_
  rintro e w2 ⟨a2, c2, l2, rfl, hown, hmap, hb⟩
  replace g0 := (hb.frozen (blt p0)).trans g0
  replace g1 := (hb.frozen (blt p1)).trans g1
  replace p0 := (hb.cell (blt p0)).trans p0
  replace p1 := (hb.cell (blt p1)).trans p1
  have hp : PlAt ((w2.setCell ⟨w.heap.size, 0, none⟩ (.slice a2 l2.length c2)).setCell ⟨w.heap.size, 1, none⟩ (.int .i64 n)).heap.size ((w2.setCell ⟨w.heap.size, 0, none⟩ (.slice a2 l2.length c2)).setCell ⟨w.heap.size, 1, none⟩ (.int .i64 n)) a2 l2 := cut_store hz1 hown
  have hB2 : Below w.heap.size w ((w2.setCell ⟨w.heap.size, 0, none⟩ (.slice a2 l2.length c2)).setCell ⟨w.heap.size, 1, none⟩ (.int .i64 n)) := (((btr HB1.out hb).setCell (p := ⟨w.heap.size, 0, none⟩) (Nat.le_refl _) _).setCell (p := ⟨w.heap.size, 1, none⟩) (Nat.le_refl _) _)
  rw [HQL.out] at hmap
  clear hb hown hz1 HB HB1 HCU HA
  go_wp2_with fail
  have t0 : ((w2.setCell ⟨w.heap.size, 0, none⟩ (.slice a2 l2.length c2)).setCell ⟨w.heap.size, 1, none⟩ (.int .i64 n)).cell? ⟨w.heap.size, 0, none⟩ = some (.slice a2 l2.length c2) := by go_simp
  have t1 : ((w2.setCell ⟨w.heap.size, 0, none⟩ (.slice a2 l2.length c2)).setCell ⟨w.heap.size, 1, none⟩ (.int .i64 n)).cell? ⟨w.heap.size, 1, none⟩ = some (.int .i64 n) := by go_simp
  clear p0 p1 g0 g1
  generalize ((w2.setCell ⟨w.heap.size, 0, none⟩ (.slice a2 l2.length c2)).setCell ⟨w.heap.size, 1, none⟩ (.int .i64 n)) = T at *
  have hqn := HQN.out
  clear HQN
  subst hqn
  have HPQ := Lib.hid (show PoolIn q a2 l2 T from ⟨hp, hmap, HQS.out⟩)
  clear hp hmap HQL HQS
  have B0 := Lib.hid hB2
  have KK0 := Lib.hid (show ∀ W, Below T.heap.size T W → W.cell? ⟨w.heap.size, 0, none⟩ = some (.slice a2 l2.length c2) ∧ W.cell? ⟨w.heap.size, 1, none⟩ = some (.int .i64 q.n) from fun W h => ⟨(h.cell (p := ⟨w.heap.size, 0, none⟩) (blt t0)).trans t0, (h.cell (p := ⟨w.heap.size, 1, none⟩) (blt t1)).trans t1⟩)
  have C0_0 := Lib.hid (Below.refl T.heap.size T)
  clear hB2
  refine (HIT.out _ (StrsAt.onB HS.out B0.out)).mono ?_; rintro e w1 ⟨ia2, ic2, rfl, hs2, hb⟩
  have B1 : RowKit.Hid (Below w.heap.size w w1) := Lib.hid (btr B0.out hb)
  have C0_1 : RowKit.Hid (Below T.heap.size T w1) := Lib.hid (btr C0_0.out hb)
  have HSI := Lib.hid (OwnS.at' hs2)
  clear hs2
  clear t0 t1 hb
  obtain ⟨f1_0_0, f1_0_1⟩ := KK0.out w1 C0_1.out
  have HITS := Lib.hid (smallI_items items)
  generalize hit0 : itemsL items = its at *
  clear hit0
  have M0_1 := Lib.hid (Below.refl w1.heap.size w1)
  cases hk : pinB wordB q [] t
  · skip
    have hE1 : pinR q [] t = Pl.nil ∧ pinC q [] t = 0 ∧ pinE q [] t = 160 := pin_no hk
    clear hk
    go_wp2_with fail
    refine (pin_v q Pl.nil a2 l2 c2 none 0 [] t 0 160 hE1.1 hE1.2.1 hE1.2.2 ⟨by decide, fun s hs => nomatch hs⟩ _ (HPQ.out.on C0_1.out) (StrsAt.nil _ _ _) (HE.out.onB B1.out)).mono ?_; rintro e w2 ⟨a3, c3, l3, rfl, hp, hb⟩
    have B2 : RowKit.Hid (Below w.heap.size w (w2.alloc (.cells #[.slice a3 l3.length c3, .int .i64 Pl.nil.n] 24))) := Lib.hid (bal (btr B1.out hb) _)
    have C0_2 : RowKit.Hid (Below T.heap.size T (w2.alloc (.cells #[.slice a3 l3.length c3, .int .i64 Pl.nil.n] 24))) := Lib.hid (bal (btr C0_1.out hb) _)
    have M0_2 : RowKit.Hid (Below w1.heap.size w1 (w2.alloc (.cells #[.slice a3 l3.length c3, .int .i64 Pl.nil.n] 24))) := Lib.hid (bal (btr M0_1.out hb) _)
    clear hp
    clear f1_0_0 f1_0_1 hb
    obtain ⟨f2_0_0, f2_0_1⟩ := KK0.out (w2.alloc (.cells #[.slice a3 l3.length c3, .int .i64 Pl.nil.n] 24)) C0_2.out
    have f2_1_0 : (w2.alloc (.cells #[.slice a3 l3.length c3, .int .i64 Pl.nil.n] 24)).cell? ⟨w2.heap.size, 0, none⟩ = some (.slice a3 l3.length c3) := by go_simp
    have f2_1_1 : (w2.alloc (.cells #[.slice a3 l3.length c3, .int .i64 Pl.nil.n] 24)).cell? ⟨w2.heap.size, 1, none⟩ = some (.int .i64 Pl.nil.n) := by go_simp
    have KK1 := Lib.hid (show ∀ W, Below (w2.alloc (.cells #[.slice a3 l3.length c3, .int .i64 Pl.nil.n] 24)).heap.size (w2.alloc (.cells #[.slice a3 l3.length c3, .int .i64 Pl.nil.n] 24)) W → W.cell? ⟨w2.heap.size, 0, none⟩ = some (.slice a3 l3.length c3) ∧ W.cell? ⟨w2.heap.size, 1, none⟩ = some (.int .i64 Pl.nil.n) from fun W h => ⟨(h.cell (p := ⟨w2.heap.size, 0, none⟩) (blt f2_1_0)).trans f2_1_0, (h.cell (p := ⟨w2.heap.size, 1, none⟩) (blt f2_1_1)).trans f2_1_1⟩)
    have C1_2 := Lib.hid (Below.refl (w2.alloc (.cells #[.slice a3 l3.length c3, .int .i64 Pl.nil.n] 24)).heap.size (w2.alloc (.cells #[.slice a3 l3.length c3, .int .i64 Pl.nil.n] 24)))
    go_wp2
    go_ret
    exact ⟨rfl, B2.out⟩
  · skip
    have hok := pin_iff.1 hk
    have hE1 : pinR q [] t = pinT q [] t ∧ pinC q [] t = q.n ∧ pinE q [] t = 0 := pin_yes hk
    have hG1 := pin_page_nil hok
    have HRS := Lib.hid (pin_right hk)
    have hqb := And.intro hok.r.n1 hok.n
    clear hk
    have HR1N := Lib.hid (show (pinT q [] t).n = q.n + 1 from rfl)
    have HOK := Lib.hid hok
    clear hok
    generalize pinT q [] t = r1 at *
    obtain ⟨g1, hg1⟩ : ∃ g1, pageS r1 q.n 0 1 t = g1 := ⟨_, rfl⟩
    go_wp2_with fail
    refine (pin_v q r1 a2 l2 c2 none 0 [] t q.n 0 hE1.1 hE1.2.1 hE1.2.2 ⟨by decide, fun s hs => nomatch hs⟩ _ (HPQ.out.on C0_1.out) (StrsAt.nil _ _ _) (HE.out.onB B1.out)).mono ?_; rintro e w2 ⟨a3, c3, l3, rfl, hp, hb⟩
    have B2 : RowKit.Hid (Below w.heap.size w (w2.alloc (.cells #[.slice a3 l3.length c3, .int .i64 r1.n] 24))) := Lib.hid (bal (btr B1.out hb) _)
    have C0_2 : RowKit.Hid (Below T.heap.size T (w2.alloc (.cells #[.slice a3 l3.length c3, .int .i64 r1.n] 24))) := Lib.hid (bal (btr C0_1.out hb) _)
    have M0_2 : RowKit.Hid (Below w1.heap.size w1 (w2.alloc (.cells #[.slice a3 l3.length c3, .int .i64 r1.n] 24))) := Lib.hid (bal (btr M0_1.out hb) _)
    have HP3 := Lib.hid (hp.on (show Below w2.heap.size w2 (w2.alloc (.cells #[.slice a3 l3.length c3, .int .i64 r1.n] 24)) from (bal (Below.refl w2.heap.size w2) _)))
    clear hp hE1
    clear f1_0_0 f1_0_1 hb
    obtain ⟨f2_0_0, f2_0_1⟩ := KK0.out (w2.alloc (.cells #[.slice a3 l3.length c3, .int .i64 r1.n] 24)) C0_2.out
    have f2_1_0 : (w2.alloc (.cells #[.slice a3 l3.length c3, .int .i64 r1.n] 24)).cell? ⟨w2.heap.size, 0, none⟩ = some (.slice a3 l3.length c3) := by go_simp
    have f2_1_1 : (w2.alloc (.cells #[.slice a3 l3.length c3, .int .i64 r1.n] 24)).cell? ⟨w2.heap.size, 1, none⟩ = some (.int .i64 r1.n) := by go_simp
    have KK1 := Lib.hid (show ∀ W, Below (w2.alloc (.cells #[.slice a3 l3.length c3, .int .i64 r1.n] 24)).heap.size (w2.alloc (.cells #[.slice a3 l3.length c3, .int .i64 r1.n] 24)) W → W.cell? ⟨w2.heap.size, 0, none⟩ = some (.slice a3 l3.length c3) ∧ W.cell? ⟨w2.heap.size, 1, none⟩ = some (.int .i64 r1.n) from fun W h => ⟨(h.cell (p := ⟨w2.heap.size, 0, none⟩) (blt f2_1_0)).trans f2_1_0, (h.cell (p := ⟨w2.heap.size, 1, none⟩) (blt f2_1_1)).trans f2_1_1⟩)
    have C1_2 := Lib.hid (Below.refl (w2.alloc (.cells #[.slice a3 l3.length c3, .int .i64 r1.n] 24)).heap.size (w2.alloc (.cells #[.slice a3 l3.length c3, .int .i64 r1.n] 24)))
    go_wp2_with fail
    refine (page_v r1 g1 a3 l3 c3 q.n 0 1 t [] (-1) 0 hg1 hG1.2.1 hG1.2.2 hG1.1 _ (HP3.out.on C1_2.out) (HE.out.onB B2.out)).mono ?_; rintro e w3 ⟨a4, c4, l4, b4, d4, rfl, hp, hs, hb⟩
    have B3 : RowKit.Hid (Below w.heap.size w (w3.alloc (.cells #[.slice a4 l4.length c4, .int .i64 g1.n] 24))) := Lib.hid (bal (btr B2.out hb) _)
    have C0_3 : RowKit.Hid (Below T.heap.size T (w3.alloc (.cells #[.slice a4 l4.length c4, .int .i64 g1.n] 24))) := Lib.hid (bal (btr C0_2.out hb) _)
    have C1_3 : RowKit.Hid (Below (w2.alloc (.cells #[.slice a3 l3.length c3, .int .i64 r1.n] 24)).heap.size (w2.alloc (.cells #[.slice a3 l3.length c3, .int .i64 r1.n] 24)) (w3.alloc (.cells #[.slice a4 l4.length c4, .int .i64 g1.n] 24))) := Lib.hid (bal (btr C1_2.out hb) _)
    have M0_3 : RowKit.Hid (Below w1.heap.size w1 (w3.alloc (.cells #[.slice a4 l4.length c4, .int .i64 g1.n] 24))) := Lib.hid (bal (btr M0_2.out hb) _)
    clear hp hs hG1 hg1
    clear f2_0_0 f2_0_1 f2_1_0 f2_1_1 hb
    obtain ⟨f3_0_0, f3_0_1⟩ := KK0.out (w3.alloc (.cells #[.slice a4 l4.length c4, .int .i64 g1.n] 24)) C0_3.out
    obtain ⟨f3_1_0, f3_1_1⟩ := KK1.out (w3.alloc (.cells #[.slice a4 l4.length c4, .int .i64 g1.n] 24)) C1_3.out
    have f3_2_0 : (w3.alloc (.cells #[.slice a4 l4.length c4, .int .i64 g1.n] 24)).cell? ⟨w3.heap.size, 0, none⟩ = some (.slice a4 l4.length c4) := by go_simp
    have f3_2_1 : (w3.alloc (.cells #[.slice a4 l4.length c4, .int .i64 g1.n] 24)).cell? ⟨w3.heap.size, 1, none⟩ = some (.int .i64 g1.n) := by go_simp
    have KK2 := Lib.hid (show ∀ W, Below (w3.alloc (.cells #[.slice a4 l4.length c4, .int .i64 g1.n] 24)).heap.size (w3.alloc (.cells #[.slice a4 l4.length c4, .int .i64 g1.n] 24)) W → W.cell? ⟨w3.heap.size, 0, none⟩ = some (.slice a4 l4.length c4) ∧ W.cell? ⟨w3.heap.size, 1, none⟩ = some (.int .i64 g1.n) from fun W h => ⟨(h.cell (p := ⟨w3.heap.size, 0, none⟩) (blt f3_2_0)).trans f3_2_0, (h.cell (p := ⟨w3.heap.size, 1, none⟩) (blt f3_2_1)).trans f3_2_1⟩)
    have C2_3 := Lib.hid (Below.refl (w3.alloc (.cells #[.slice a4 l4.length c4, .int .i64 g1.n] 24)).heap.size (w3.alloc (.cells #[.slice a4 l4.length c4, .int .i64 g1.n] 24)))
    cases hk2 : pinB wordB r1 its t
    · skip
      have hE2 := pin_no hk2
      clear hk2
      go_wp2_with fail
      refine (pin_v r1 Pl.nil a3 l3 c3 ia2 ic2 its t 0 160 hE2.1 hE2.2.1 hE2.2.2 HITS.out _ (HP3.out.on C1_3.out) (HSI.out.onB M0_3.out) (HE.out.onB B3.out)).mono ?_; rintro e w4 ⟨a5, c5, l5, rfl, hp, hb⟩
      have B4 : RowKit.Hid (Below w.heap.size w (w4.alloc (.cells #[.slice a5 l5.length c5, .int .i64 Pl.nil.n] 24))) := Lib.hid (bal (btr B3.out hb) _)
      have C0_4 : RowKit.Hid (Below T.heap.size T (w4.alloc (.cells #[.slice a5 l5.length c5, .int .i64 Pl.nil.n] 24))) := Lib.hid (bal (btr C0_3.out hb) _)
      have C1_4 : RowKit.Hid (Below (w2.alloc (.cells #[.slice a3 l3.length c3, .int .i64 r1.n] 24)).heap.size (w2.alloc (.cells #[.slice a3 l3.length c3, .int .i64 r1.n] 24)) (w4.alloc (.cells #[.slice a5 l5.length c5, .int .i64 Pl.nil.n] 24))) := Lib.hid (bal (btr C1_3.out hb) _)
      have C2_4 : RowKit.Hid (Below (w3.alloc (.cells #[.slice a4 l4.length c4, .int .i64 g1.n] 24)).heap.size (w3.alloc (.cells #[.slice a4 l4.length c4, .int .i64 g1.n] 24)) (w4.alloc (.cells #[.slice a5 l5.length c5, .int .i64 Pl.nil.n] 24))) := Lib.hid (bal (btr C2_3.out hb) _)
      have M0_4 : RowKit.Hid (Below w1.heap.size w1 (w4.alloc (.cells #[.slice a5 l5.length c5, .int .i64 Pl.nil.n] 24))) := Lib.hid (bal (btr M0_3.out hb) _)
      clear hp
      clear f3_0_0 f3_0_1 f3_1_0 f3_1_1 f3_2_0 f3_2_1 hb
      obtain ⟨f4_0_0, f4_0_1⟩ := KK0.out (w4.alloc (.cells #[.slice a5 l5.length c5, .int .i64 Pl.nil.n] 24)) C0_4.out
      obtain ⟨f4_1_0, f4_1_1⟩ := KK1.out (w4.alloc (.cells #[.slice a5 l5.length c5, .int .i64 Pl.nil.n] 24)) C1_4.out
      obtain ⟨f4_2_0, f4_2_1⟩ := KK2.out (w4.alloc (.cells #[.slice a5 l5.length c5, .int .i64 Pl.nil.n] 24)) C2_4.out
      have f4_3_0 : (w4.alloc (.cells #[.slice a5 l5.length c5, .int .i64 Pl.nil.n] 24)).cell? ⟨w4.heap.size, 0, none⟩ = some (.slice a5 l5.length c5) := by go_simp
      have f4_3_1 : (w4.alloc (.cells #[.slice a5 l5.length c5, .int .i64 Pl.nil.n] 24)).cell? ⟨w4.heap.size, 1, none⟩ = some (.int .i64 Pl.nil.n) := by go_simp
      have KK3 := Lib.hid (show ∀ W, Below (w4.alloc (.cells #[.slice a5 l5.length c5, .int .i64 Pl.nil.n] 24)).heap.size (w4.alloc (.cells #[.slice a5 l5.length c5, .int .i64 Pl.nil.n] 24)) W → W.cell? ⟨w4.heap.size, 0, none⟩ = some (.slice a5 l5.length c5) ∧ W.cell? ⟨w4.heap.size, 1, none⟩ = some (.int .i64 Pl.nil.n) from fun W h => ⟨(h.cell (p := ⟨w4.heap.size, 0, none⟩) (blt f4_3_0)).trans f4_3_0, (h.cell (p := ⟨w4.heap.size, 1, none⟩) (blt f4_3_1)).trans f4_3_1⟩)
      have C3_4 := Lib.hid (Below.refl (w4.alloc (.cells #[.slice a5 l5.length c5, .int .i64 Pl.nil.n] 24)).heap.size (w4.alloc (.cells #[.slice a5 l5.length c5, .int .i64 Pl.nil.n] 24)))
      go_wp2
      go_ret
      exact ⟨rfl, B4.out⟩
    · skip
      have hok2 := pin_iff.1 hk2
      have hE2 := pin_yes hk2
      have hG2 := pin_page (k := 10) hok2 (by decide) (by decide)
      clear hk2
      have hr1b : r1.n < 1000000000000 := hok2.n
      have HOK2 := Lib.hid hok2
      clear hok2
      generalize pinT r1 its t = r2 at *
      obtain ⟨g2, hg2⟩ : ∃ g2, pageS r2 r1.n 0 10 t = g2 := ⟨_, rfl⟩
      have hlen := HITS.out.1
      have HWQ := Lib.hid (show IntKind.i64.wrap (q.n + 1) = r1.n from (IntWalk.i64_in _ (by omega)).trans HR1N.out.symm)
      go_wp2_with fail
      refine (pin_v r1 r2 a3 l3 c3 ia2 ic2 its t r1.n 0 hE2.1 hE2.2.1 hE2.2.2 HITS.out _ (HP3.out.on C1_3.out) (HSI.out.onB M0_3.out) (HE.out.onB B3.out)).mono ?_; rintro e w4 ⟨a5, c5, l5, rfl, hp, hb⟩
      have B4 : RowKit.Hid (Below w.heap.size w (w4.alloc (.cells #[.slice a5 l5.length c5, .int .i64 r2.n] 24))) := Lib.hid (bal (btr B3.out hb) _)
      have C0_4 : RowKit.Hid (Below T.heap.size T (w4.alloc (.cells #[.slice a5 l5.length c5, .int .i64 r2.n] 24))) := Lib.hid (bal (btr C0_3.out hb) _)
      have C1_4 : RowKit.Hid (Below (w2.alloc (.cells #[.slice a3 l3.length c3, .int .i64 r1.n] 24)).heap.size (w2.alloc (.cells #[.slice a3 l3.length c3, .int .i64 r1.n] 24)) (w4.alloc (.cells #[.slice a5 l5.length c5, .int .i64 r2.n] 24))) := Lib.hid (bal (btr C1_3.out hb) _)
      have C2_4 : RowKit.Hid (Below (w3.alloc (.cells #[.slice a4 l4.length c4, .int .i64 g1.n] 24)).heap.size (w3.alloc (.cells #[.slice a4 l4.length c4, .int .i64 g1.n] 24)) (w4.alloc (.cells #[.slice a5 l5.length c5, .int .i64 r2.n] 24))) := Lib.hid (bal (btr C2_3.out hb) _)
      have M0_4 : RowKit.Hid (Below w1.heap.size w1 (w4.alloc (.cells #[.slice a5 l5.length c5, .int .i64 r2.n] 24))) := Lib.hid (bal (btr M0_3.out hb) _)
      have HP5 := Lib.hid (hp.on (show Below w4.heap.size w4 (w4.alloc (.cells #[.slice a5 l5.length c5, .int .i64 r2.n] 24)) from (bal (Below.refl w4.heap.size w4) _)))
      clear hp hE2
      clear f3_0_0 f3_0_1 f3_1_0 f3_1_1 f3_2_0 f3_2_1 hb
      obtain ⟨f4_0_0, f4_0_1⟩ := KK0.out (w4.alloc (.cells #[.slice a5 l5.length c5, .int .i64 r2.n] 24)) C0_4.out
      obtain ⟨f4_1_0, f4_1_1⟩ := KK1.out (w4.alloc (.cells #[.slice a5 l5.length c5, .int .i64 r2.n] 24)) C1_4.out
      obtain ⟨f4_2_0, f4_2_1⟩ := KK2.out (w4.alloc (.cells #[.slice a5 l5.length c5, .int .i64 r2.n] 24)) C2_4.out
      have f4_3_0 : (w4.alloc (.cells #[.slice a5 l5.length c5, .int .i64 r2.n] 24)).cell? ⟨w4.heap.size, 0, none⟩ = some (.slice a5 l5.length c5) := by go_simp
      have f4_3_1 : (w4.alloc (.cells #[.slice a5 l5.length c5, .int .i64 r2.n] 24)).cell? ⟨w4.heap.size, 1, none⟩ = some (.int .i64 r2.n) := by go_simp
      have KK3 := Lib.hid (show ∀ W, Below (w4.alloc (.cells #[.slice a5 l5.length c5, .int .i64 r2.n] 24)).heap.size (w4.alloc (.cells #[.slice a5 l5.length c5, .int .i64 r2.n] 24)) W → W.cell? ⟨w4.heap.size, 0, none⟩ = some (.slice a5 l5.length c5) ∧ W.cell? ⟨w4.heap.size, 1, none⟩ = some (.int .i64 r2.n) from fun W h => ⟨(h.cell (p := ⟨w4.heap.size, 0, none⟩) (blt f4_3_0)).trans f4_3_0, (h.cell (p := ⟨w4.heap.size, 1, none⟩) (blt f4_3_1)).trans f4_3_1⟩)
      have C3_4 := Lib.hid (Below.refl (w4.alloc (.cells #[.slice a5 l5.length c5, .int .i64 r2.n] 24)).heap.size (w4.alloc (.cells #[.slice a5 l5.length c5, .int .i64 r2.n] 24)))
      by_cases hl : its.length ≤ 10
      · skip
        have hm1 : ¬ (its.length : Int) > 10 := by omega
        have hm2 : pageB r2 r1.n 0 10 t = -1 := hG2.2.2.trans (by rw [if_pos (by omega)])
        have hm3 : pageL r2 r1.n 0 10 t = its := hG2.2.1.trans (List.take_of_length_le hl)
        go_wp2_with fail
        refine (page_v r2 g2 a5 l5 c5 r1.n 0 10 t its (-1) 0 hg2 hm3 hm2 hG2.1 _ (HP5.out.on C3_4.out) (HE.out.onB B4.out)).mono ?_; rintro e w5 ⟨a6, c6, l6, b6, d6, rfl, hp, hs, hb⟩
        have B5 : RowKit.Hid (Below w.heap.size w (w5.alloc (.cells #[.slice a6 l6.length c6, .int .i64 g2.n] 24))) := Lib.hid (bal (btr B4.out hb) _)
        have C0_5 : RowKit.Hid (Below T.heap.size T (w5.alloc (.cells #[.slice a6 l6.length c6, .int .i64 g2.n] 24))) := Lib.hid (bal (btr C0_4.out hb) _)
        have C1_5 : RowKit.Hid (Below (w2.alloc (.cells #[.slice a3 l3.length c3, .int .i64 r1.n] 24)).heap.size (w2.alloc (.cells #[.slice a3 l3.length c3, .int .i64 r1.n] 24)) (w5.alloc (.cells #[.slice a6 l6.length c6, .int .i64 g2.n] 24))) := Lib.hid (bal (btr C1_4.out hb) _)
        have C2_5 : RowKit.Hid (Below (w3.alloc (.cells #[.slice a4 l4.length c4, .int .i64 g1.n] 24)).heap.size (w3.alloc (.cells #[.slice a4 l4.length c4, .int .i64 g1.n] 24)) (w5.alloc (.cells #[.slice a6 l6.length c6, .int .i64 g2.n] 24))) := Lib.hid (bal (btr C2_4.out hb) _)
        have C3_5 : RowKit.Hid (Below (w4.alloc (.cells #[.slice a5 l5.length c5, .int .i64 r2.n] 24)).heap.size (w4.alloc (.cells #[.slice a5 l5.length c5, .int .i64 r2.n] 24)) (w5.alloc (.cells #[.slice a6 l6.length c6, .int .i64 g2.n] 24))) := Lib.hid (bal (btr C3_4.out hb) _)
        have M0_5 : RowKit.Hid (Below w1.heap.size w1 (w5.alloc (.cells #[.slice a6 l6.length c6, .int .i64 g2.n] 24))) := Lib.hid (bal (btr M0_4.out hb) _)
        have HS6 := Lib.hid (hs.onB (show Below w5.heap.size w5 (w5.alloc (.cells #[.slice a6 l6.length c6, .int .i64 g2.n] 24)) from (bal (Below.refl w5.heap.size w5) _)))
        have hwq := HWQ.out
        clear hp hs hG2 hg2 hm2 hm3
        clear f4_0_0 f4_0_1 f4_1_0 f4_1_1 f4_2_0 f4_2_1 f4_3_0 f4_3_1 hb
        obtain ⟨f5_0_0, f5_0_1⟩ := KK0.out (w5.alloc (.cells #[.slice a6 l6.length c6, .int .i64 g2.n] 24)) C0_5.out
        obtain ⟨f5_1_0, f5_1_1⟩ := KK1.out (w5.alloc (.cells #[.slice a6 l6.length c6, .int .i64 g2.n] 24)) C1_5.out
        obtain ⟨f5_2_0, f5_2_1⟩ := KK2.out (w5.alloc (.cells #[.slice a6 l6.length c6, .int .i64 g2.n] 24)) C2_5.out
        obtain ⟨f5_3_0, f5_3_1⟩ := KK3.out (w5.alloc (.cells #[.slice a6 l6.length c6, .int .i64 g2.n] 24)) C3_5.out
        have f5_4_0 : (w5.alloc (.cells #[.slice a6 l6.length c6, .int .i64 g2.n] 24)).cell? ⟨w5.heap.size, 0, none⟩ = some (.slice a6 l6.length c6) := by go_simp
        have f5_4_1 : (w5.alloc (.cells #[.slice a6 l6.length c6, .int .i64 g2.n] 24)).cell? ⟨w5.heap.size, 1, none⟩ = some (.int .i64 g2.n) := by go_simp
        have KK4 := Lib.hid (show ∀ W, Below (w5.alloc (.cells #[.slice a6 l6.length c6, .int .i64 g2.n] 24)).heap.size (w5.alloc (.cells #[.slice a6 l6.length c6, .int .i64 g2.n] 24)) W → W.cell? ⟨w5.heap.size, 0, none⟩ = some (.slice a6 l6.length c6) ∧ W.cell? ⟨w5.heap.size, 1, none⟩ = some (.int .i64 g2.n) from fun W h => ⟨(h.cell (p := ⟨w5.heap.size, 0, none⟩) (blt f5_4_0)).trans f5_4_0, (h.cell (p := ⟨w5.heap.size, 1, none⟩) (blt f5_4_1)).trans f5_4_1⟩)
        have C4_5 := Lib.hid (Below.refl (w5.alloc (.cells #[.slice a6 l6.length c6, .int .i64 g2.n] 24)).heap.size (w5.alloc (.cells #[.slice a6 l6.length c6, .int .i64 g2.n] 24)))
        go_wp2_with fail
        refine (same_v b6 ia2 d6 ic2 its its true (by simp) _ (by omega) (by omega) (HS6.out.onB C4_5.out) (HSI.out.onB M0_5.out)).mono ?_; rintro e w6 ⟨rfl, hb⟩
        have B6 : RowKit.Hid (Below w.heap.size w w6) := Lib.hid (btr B5.out hb)
        have C0_6 : RowKit.Hid (Below T.heap.size T w6) := Lib.hid (btr C0_5.out hb)
        have C1_6 : RowKit.Hid (Below (w2.alloc (.cells #[.slice a3 l3.length c3, .int .i64 r1.n] 24)).heap.size (w2.alloc (.cells #[.slice a3 l3.length c3, .int .i64 r1.n] 24)) w6) := Lib.hid (btr C1_5.out hb)
        have C2_6 : RowKit.Hid (Below (w3.alloc (.cells #[.slice a4 l4.length c4, .int .i64 g1.n] 24)).heap.size (w3.alloc (.cells #[.slice a4 l4.length c4, .int .i64 g1.n] 24)) w6) := Lib.hid (btr C2_5.out hb)
        have C3_6 : RowKit.Hid (Below (w4.alloc (.cells #[.slice a5 l5.length c5, .int .i64 r2.n] 24)).heap.size (w4.alloc (.cells #[.slice a5 l5.length c5, .int .i64 r2.n] 24)) w6) := Lib.hid (btr C3_5.out hb)
        have C4_6 : RowKit.Hid (Below (w5.alloc (.cells #[.slice a6 l6.length c6, .int .i64 g2.n] 24)).heap.size (w5.alloc (.cells #[.slice a6 l6.length c6, .int .i64 g2.n] 24)) w6) := Lib.hid (btr C4_5.out hb)
        have M0_6 : RowKit.Hid (Below w1.heap.size w1 w6) := Lib.hid (btr M0_5.out hb)
        clear f5_0_0 f5_0_1 f5_1_0 f5_1_1 f5_2_0 f5_2_1 f5_3_0 f5_3_1 f5_4_0 f5_4_1 hb
        obtain ⟨f6_0_0, f6_0_1⟩ := KK0.out w6 C0_6.out
        obtain ⟨f6_1_0, f6_1_1⟩ := KK1.out w6 C1_6.out
        obtain ⟨f6_2_0, f6_2_1⟩ := KK2.out w6 C2_6.out
        obtain ⟨f6_3_0, f6_3_1⟩ := KK3.out w6 C3_6.out
        obtain ⟨f6_4_0, f6_4_1⟩ := KK4.out w6 C4_6.out
        go_wp2
        go_ret
        exact ⟨by rfl, B6.out⟩
      · skip
        have hm1 : (its.length : Int) > 10 := by omega
        have hm2 : pageB r2 r1.n 0 10 t = 10 := hG2.2.2.trans (by rw [if_neg (by omega)])
        have hm3 : pageL r2 r1.n 0 10 t = its.take 10 := hG2.2.1
        have hm4 : (its.take 10).length = 10 := by rw [List.length_take]; omega
        generalize its.take 10 = it10 at *
        go_wp2_with fail
        refine (page_v r2 g2 a5 l5 c5 r1.n 0 10 t it10 10 0 hg2 hm3 hm2 hG2.1 _ (HP5.out.on C3_4.out) (HE.out.onB B4.out)).mono ?_; rintro e w5 ⟨a6, c6, l6, b6, d6, rfl, hp, hs, hb⟩
        have B5 : RowKit.Hid (Below w.heap.size w (w5.alloc (.cells #[.slice a6 l6.length c6, .int .i64 g2.n] 24))) := Lib.hid (bal (btr B4.out hb) _)
        have C0_5 : RowKit.Hid (Below T.heap.size T (w5.alloc (.cells #[.slice a6 l6.length c6, .int .i64 g2.n] 24))) := Lib.hid (bal (btr C0_4.out hb) _)
        have C1_5 : RowKit.Hid (Below (w2.alloc (.cells #[.slice a3 l3.length c3, .int .i64 r1.n] 24)).heap.size (w2.alloc (.cells #[.slice a3 l3.length c3, .int .i64 r1.n] 24)) (w5.alloc (.cells #[.slice a6 l6.length c6, .int .i64 g2.n] 24))) := Lib.hid (bal (btr C1_4.out hb) _)
        have C2_5 : RowKit.Hid (Below (w3.alloc (.cells #[.slice a4 l4.length c4, .int .i64 g1.n] 24)).heap.size (w3.alloc (.cells #[.slice a4 l4.length c4, .int .i64 g1.n] 24)) (w5.alloc (.cells #[.slice a6 l6.length c6, .int .i64 g2.n] 24))) := Lib.hid (bal (btr C2_4.out hb) _)
        have C3_5 : RowKit.Hid (Below (w4.alloc (.cells #[.slice a5 l5.length c5, .int .i64 r2.n] 24)).heap.size (w4.alloc (.cells #[.slice a5 l5.length c5, .int .i64 r2.n] 24)) (w5.alloc (.cells #[.slice a6 l6.length c6, .int .i64 g2.n] 24))) := Lib.hid (bal (btr C3_4.out hb) _)
        have M0_5 : RowKit.Hid (Below w1.heap.size w1 (w5.alloc (.cells #[.slice a6 l6.length c6, .int .i64 g2.n] 24))) := Lib.hid (bal (btr M0_4.out hb) _)
        have hwq := HWQ.out
        clear hp hs hG2 hg2 hm2 hm3
        clear f4_0_0 f4_0_1 f4_1_0 f4_1_1 f4_2_0 f4_2_1 f4_3_0 f4_3_1 hb
        obtain ⟨f5_0_0, f5_0_1⟩ := KK0.out (w5.alloc (.cells #[.slice a6 l6.length c6, .int .i64 g2.n] 24)) C0_5.out
        obtain ⟨f5_1_0, f5_1_1⟩ := KK1.out (w5.alloc (.cells #[.slice a6 l6.length c6, .int .i64 g2.n] 24)) C1_5.out
        obtain ⟨f5_2_0, f5_2_1⟩ := KK2.out (w5.alloc (.cells #[.slice a6 l6.length c6, .int .i64 g2.n] 24)) C2_5.out
        obtain ⟨f5_3_0, f5_3_1⟩ := KK3.out (w5.alloc (.cells #[.slice a6 l6.length c6, .int .i64 g2.n] 24)) C3_5.out
        have f5_4_0 : (w5.alloc (.cells #[.slice a6 l6.length c6, .int .i64 g2.n] 24)).cell? ⟨w5.heap.size, 0, none⟩ = some (.slice a6 l6.length c6) := by go_simp
        have f5_4_1 : (w5.alloc (.cells #[.slice a6 l6.length c6, .int .i64 g2.n] 24)).cell? ⟨w5.heap.size, 1, none⟩ = some (.int .i64 g2.n) := by go_simp
        have KK4 := Lib.hid (show ∀ W, Below (w5.alloc (.cells #[.slice a6 l6.length c6, .int .i64 g2.n] 24)).heap.size (w5.alloc (.cells #[.slice a6 l6.length c6, .int .i64 g2.n] 24)) W → W.cell? ⟨w5.heap.size, 0, none⟩ = some (.slice a6 l6.length c6) ∧ W.cell? ⟨w5.heap.size, 1, none⟩ = some (.int .i64 g2.n) from fun W h => ⟨(h.cell (p := ⟨w5.heap.size, 0, none⟩) (blt f5_4_0)).trans f5_4_0, (h.cell (p := ⟨w5.heap.size, 1, none⟩) (blt f5_4_1)).trans f5_4_1⟩)
        have C4_5 := Lib.hid (Below.refl (w5.alloc (.cells #[.slice a6 l6.length c6, .int .i64 g2.n] 24)).heap.size (w5.alloc (.cells #[.slice a6 l6.length c6, .int .i64 g2.n] 24)))
        go_wp2
        go_ret
        exact ⟨by rfl, B5.out⟩
end Go.Proofs.YtgceecfjammnaaaDoor.L16
