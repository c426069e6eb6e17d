/- St -/
import Derived.Test.YtgceecfjammnaaaDoorZ5
/- Pin. -/
namespace Go.Proofs.YtgceecfjammnaaaDoor.L16
open Go.RowKit Go.Shelf
attribute [local go_sem] Oper.semAt_some
set_option linter.unusedSimpArgs false
set_option linter.unusedVariables false

def pinR (p : Pl) (items : List ByteArray) (t : Int) : Pl := if pinB wordB p items t = true then pinT p items t else Pl.nil
def pinC (p : Pl) (items : List ByteArray) (t : Int) : Int := if pinB wordB p items t = true then p.n else 0
def pinE (p : Pl) (items : List ByteArray) (t : Int) : Int := if pinB wordB p items t = true then 0 else 160
/-- It lies from block z on. -/
def FarL (z : Nat) (a : Option Addr) (l : List SnM) : Prop := (∀ p : Addr, a = some p → 0 < l.length → z ≤ p.block) ∧ ∀ x ∈ l, ∀ p : Addr, x.ita = some p → z ≤ p.block
theorem FarL.nil (z : Nat) (a : Option Addr) : FarL z a [] := ⟨fun p _ h => absurd h (Nat.lt_irrefl 0), fun x hx => nomatch hx⟩
theorem PlAt.set {n z B o : Nat} {W : World} {a : Option Addr} {l : List SnM} {v : Value} (h : PlAt n W a l) (hf : FarL z a l) (hB : B < z) : PlAt n (W.setCell ⟨B, o, none⟩ v) a l := by
  refine ⟨fun k hk => ?_, fun x hx i hi => ?_⟩
  · obtain ⟨b, off, e, hb, c0, c1, c2⟩ := h.s k hk
    have hz := hf.1 _ e (by omega)
    have hne : b ≠ B := by intro e2; subst e2; exact absurd hz (by show ¬ z ≤ b; omega)
    exact ⟨b, off, e, hb, (set_other _ _ hne).trans c0, (set_other _ _ hne).trans c1, (set_other _ _ hne).trans c2⟩
  · obtain ⟨b, off, e, hb, hc⟩ := h.i x hx i hi
    have hz := hf.2 x hx _ e
    have hne : b ≠ B := by intro e2; subst e2; exact absurd hz (by show ¬ z ≤ b; omega)
    exact ⟨b, off, e, hb, (set_other _ _ hne).trans hc⟩
theorem far_of_own {z z' g o : Nat} {W : World} {l : List SnM} (hz : z ≤ z') (hg : z' ≤ g) (hi : ∀ x ∈ l, OwnS z' W (.slice x.ita x.it.length x.itd) x.it) : FarL z (some ⟨g, o, none⟩) l :=
  ⟨fun p hp _ => by cases hp; exact Nat.le_trans hz hg, fun x hx p hp => by
    have := (row_lt (hi x hx) (show (Value.slice x.ita x.it.length x.itd).ownBlock = some p.block by rw [hp]; rfl)).1
    omega⟩
/-- A pool in memory, as a value. -/
def PoolV (z : Nat) (q : Pl) (v : Value) (w : World) : Prop := ∃ a c l, v = .agg #[.slice a (l : List SnM).length c, .int .i64 q.n] ∧ PlAt w.heap.size w a l ∧ FarL z a l ∧ l.map SnM.p = q.l
/-- What Pin leaves. -/
def PinP (p : Pl) (items : List ByteArray) (t : Int) (w : World) (y : Ending) (w' : World) : Prop := ∃ v, y = .returned (.tuple #[v, .int .i64 (pinC p items t), .int .i64 (pinE p items t)]) ∧ PoolV w.heap.size (pinR p items t) v w' ∧ Below w.heap.size w w'
theorem pool_nil (z : Nat) (w : World) : PoolV z Pl.nil (.agg #[.slice none 0 0, .int .i64 0]) w := ⟨none, 0, [], rfl, ⟨SnMAt.nil _ _ _, fun x hx => nomatch hx⟩, FarL.nil _ _, rfl⟩
theorem pl_of_row {W : World} {z : Nat} {v : Value} {l : List SnM} (h : W.ownsRow z 42 3 v l.length (snmCs l)) (hi : ∀ x ∈ l, OwnS z W (.slice x.ita x.it.length x.itd) x.it) : ∃ a c, v = .slice a l.length c ∧ PlAt W.heap.size W a l := by
  obtain ⟨a, c, rfl, hs⟩ := snm_of_row h
  exact ⟨a, c, rfl, hs, fun x hx => (hi x hx).at'⟩
/-- Cells that read as snapshots. -/
theorem pl_of_cells {W : World} {g o : Nat} {l : List SnM} (hg : g < W.heap.size) (hc : ∀ j u, (snmCs l)[j]? = some u → W.cell? ⟨g, o + j, none⟩ = some u) (hi : ∀ x ∈ l, StrsAt W.heap.size W x.ita x.it) : PlAt W.heap.size W (some ⟨g, o, none⟩) l := by
  refine ⟨fun k hk => ⟨g, o, rfl, hg, ?_⟩, hi⟩
  obtain ⟨g0, g1, g2⟩ := snmCs_get l k hk
  exact ⟨hc _ _ g0, hc _ _ g1, hc _ _ g2⟩
theorem slin_ne {W : World} {z z' : Nat} {t t' : TypeId} {s s' n n' : Nat} {v v' : Value} {xs xs' : List Value} (h : SlIn W z t s v n xs) (h' : W.ownsRow z' t' s' v' n' xs') (hne : t' ≠ t) : v'.ownBlock = none ∨ v'.ownBlock ≠ v.ownBlock := by
  rcases h' with ⟨_, ⟨rfl, _⟩ | ⟨g', cap', cur', rfl, _, hg', _⟩⟩
  · exact .inl rfl
  · refine .inr ?_
    rcases h with ⟨_, ⟨rfl, _⟩ | ⟨g, o, cap, cur, rfl, _, hg, _⟩⟩
    · intro e; cases e
    · intro e
      have e2 : g' = g := by simpa [Value.ownBlock] using e
      subst e2
      rw [hg] at hg'
      simp at hg'
      exact hne hg'.2.symm
theorem slin_lt {W : World} {z : Nat} {t : TypeId} {s n : Nat} {v : Value} {xs : List Value} (h : SlIn W z t s v n xs) {g : Nat} (hg : v.ownBlock = some g) : z ≤ g ∧ g < W.heap.size := by
  rcases h with ⟨_, ⟨rfl, _⟩ | ⟨g', o, cap, cur, rfl, h3, h4, _⟩⟩
  · cases hg
  · cases hg
    exact ⟨h3, (Array.getElem?_eq_some_iff.1 h4).1⟩
theorem slin_alloc {W : World} {z : Nat} {t : TypeId} {s n : Nat} {v : Value} {xs : List Value} (h : SlIn W z t s v n xs) (o : Obj) : SlIn (W.alloc o) z t s v n xs := h.kept (below_alloc W o)
/-- The end of Pin and of Page: one snapshot more, and the result's box. -/
theorem pin_end {w T w9 : World} {RB z g o' : Nat} {v v0 v1 : Value} {L : List SnM} {mk : SnM} {o : Obj}
    (hRB : w.heap.size ≤ RB) (hz : RB < z) (hB : Below w.heap.size w T)
    (hsl : SlIn T z 42 3 v L.length (snmCs L)) (hit : ∀ x ∈ L, OwnS z T (.slice x.ita x.it.length x.itd) x.it) (hmk : OwnS z T (.slice mk.ita mk.it.length mk.itd) mk.it)
    (hg : z ≤ g) (hg9 : g < w9.heap.size) (hc : ∀ j u, (snmCs L ++ [.int .i64 mk.c, .slice mk.ita mk.it.length mk.itd, .int .i64 mk.u])[j]? = some u → w9.cell? ⟨g, o' + j, none⟩ = some u) (hgr : (T.alloc o).grownBy w9 v.ownBlock) :
    PlAt ((w9.setCell ⟨RB, 0, none⟩ v0).setCell ⟨RB, 1, none⟩ v1).heap.size ((w9.setCell ⟨RB, 0, none⟩ v0).setCell ⟨RB, 1, none⟩ v1) (some ⟨g, o', none⟩) (L ++ [mk]) ∧ FarL w.heap.size (some ⟨g, o', none⟩) (L ++ [mk]) ∧ Below w.heap.size w ((w9.setCell ⟨RB, 0, none⟩ v0).setCell ⟨RB, 1, none⟩ v1) := by
  have hzv : ∀ j, v.ownBlock = some j → z ≤ j := fun j hj => (slin_lt hsl hj).1
  have k : ∀ (x : SnM), OwnS z T (.slice x.ita x.it.length x.itd) x.it → OwnS z ((w9.setCell ⟨RB, 0, none⟩ v0).setCell ⟨RB, 1, none⟩ v1) (.slice x.ita x.it.length x.itd) x.it := fun x hx => by
    have h1 : OwnS z w9 (.slice x.ita x.it.length x.itd) x.it := (World.ownsRow.alloc hx o).kept hgr (slin_ne (slin_alloc hsl o) (World.ownsRow.alloc hx o) (by decide))
    exact (h1.set hz).set hz
  refine ⟨pl_of_cells (by rw [World.size_setCell, World.size_setCell]; exact hg9) ?_ ?_, far_of_own (show w.heap.size ≤ z by omega) hg (W := T) (fun x hx => by
    rcases List.mem_append.1 hx with hx | hx
    · exact hit x hx
    · rw [List.mem_singleton] at hx; subst hx; exact hmk), ?_⟩
  · intro j u hu
    rw [snmCs_one] at hu
    rw [set_other _ _ (by omega), set_other _ _ (by omega)]
    exact hc j u hu
  · intro x hx
    rcases List.mem_append.1 hx with hx | hx
    · exact (k x (hit x hx)).at'
    · rw [List.mem_singleton] at hx; subst hx; exact (k x hmk).at'
  · have h1 := (bal hB o).grown hgr (bal hB o).size (fun j hj => by have := hzv j hj; omega)
    exact (h1.setCell (p := ⟨RB, 0, none⟩) hRB v0).setCell (p := ⟨RB, 1, none⟩) hRB v1
def stayM (l : List SnM) : List SnM := if l.length = 3 then l.tail else l
theorem stayM_p (l : List SnM) : (stayM l).map SnM.p = stay (l.map SnM.p) := by
  unfold stayM stay
  rw [List.length_map]
  split
  · rw [List.map_tail]
  · rfl
theorem stayM_mem {l : List SnM} {x : SnM} (h : x ∈ stayM l) : x ∈ l := by
  unfold stayM at h
  split at h
  · exact List.mem_of_mem_tail h
  · exact h
theorem stayM_sl3 {W : World} {z g cap : Nat} {l : List SnM} (hl : l.length = 3) (h : W.ownsRow z 42 3 (.slice (some ⟨g, 0, none⟩) l.length cap) l.length (snmCs l)) : SlIn W z 42 3 (.slice (some ⟨g, 3, none⟩) 2 (cap - 1)) (stayM l).length (snmCs (stayM l)) := by
  have e : stayM l = l.tail := by unfold stayM; rw [if_pos hl]
  have h2 := (SlIn.of_row h).tail (k := 1) (by omega)
  rw [e]
  match l, hl with
  | [x, y, t], _ => exact h2
theorem stayM_sl {W : World} {z : Nat} {v : Value} {l : List SnM} (hl : l.length ≠ 3) (h : W.ownsRow z 42 3 v l.length (snmCs l)) : SlIn W z 42 3 v (stayM l).length (snmCs (stayM l)) := by
  have e : stayM l = l := by unfold stayM; rw [if_neg hl]
  rw [e]; exact SlIn.of_row h
theorem pin_facts {p : Pl} {items : List ByteArray} {t : Int} (h : pinB wordB p items t = true) : PinOk wordB p items t ∧ (0 ≤ t ∧ t ≤ 1000000000000) ∧ ∀ s ∈ p.l, 0 ≤ s.u ∧ s.u ≤ 1000000000000 := by
  have k := pin_iff.1 h
  have hu := usedB_lo k.r.used
  refine ⟨k, ⟨?_, k.hi⟩, hu⟩
  have := k.lo
  by_cases e : p.l = []
  · have : lastU p.l = 0 := by rw [e]; rfl
    omega
  · obtain ⟨s, hs⟩ := List.exists_mem_of_ne_nil _ e
    have := (hu s hs).1
    have := usedB_le_last k.r.used s hs
    omega
set_option maxRecDepth 100000 in
set_option maxHeartbeats 4000000 in
theorem Pin_c (a ia : Option Addr) (cap icap : Nat) (n t : Int) (hn : -9223372036854775808 ≤ n ∧ n ≤ 9223372036854775807) (l : List SnM) (items : List ByteArray) (hl : l.length ≤ 100000) (hi : ∀ x ∈ l, x.it.length ≤ 1000 ∧ ∀ s ∈ x.it, s.size ≤ 1000000) (hil : items.length ≤ 1000) (his : ∀ s ∈ items, s.size ≤ 1000000)
    (w : World) (hA : PlAt w.heap.size w a l) (hS : StrsAt w.heap.size w ia items) (hE : ErrT w) :
    Calls Tryd.prog 12 #[.agg #[.slice a l.length cap, .int .i64 n], .slice ia items.length icap, .int .i64 t] w (PinP ⟨l.map SnM.p, n⟩ items t w) := by
  have HFI := Lib.hid (pinFirst_c a ia cap icap n t hn.2 l items hl (fun x hx => ⟨Nat.le_trans (hi x hx).1 (by decide), (hi x hx).2⟩) (Nat.le_trans hil (by decide)) his)
  have HAI := Lib.hid (fun W => areItems_e ia items.length icap W)
  have HIN := Lib.hid (fun W => isNow_e a l.length cap n t W)
  have HFR := Lib.hid (fun W => fresh_e t W)
  have HNO := Lib.hid (fun c W h => no_c W c h)
  obtain ⟨i0, hi0, hz0, hz1, hz2⟩ := infoSnM
  have HCL := Lib.hid (fun W (h : StrsAt W.heap.size W ia items) => clonS_r ia icap items hil W h)
  have HE := Lib.hid hE
  have HA := Lib.hid hA
  have HS := Lib.hid hS
  have HIL := Lib.hid (fun x hx => (hi x hx).1)
  have HT := firstB_two (pinCh ⟨l.map SnM.p, n⟩ items t)
  rw [pinCh_all] at HT
  clear hA hS hE his hi
  obtain ⟨V, hV⟩ : ∃ V, firstB (pinCh ⟨l.map SnM.p, n⟩ items t) = V := ⟨_, rfl⟩
  rw [hV] at HFI HT
  have HTT := Lib.hid HT
  clear HT hV
  go_enter Tryd.func12, Tryd.ntmps12
  go_wp2_with fail
  have q0 : (((w.alloc (.cells #[.slice a l.length cap, .int .i64 n] 24)).alloc (.cells #[.slice none 0 0, .int .i64 0] 24)).alloc (.cells #[.slice a l.length cap, .int .i64 n] 48)).cell? ⟨w.heap.size + 1 + 1, 0, none⟩ = some (.slice a l.length cap) := by go_simp
  have q1 : (((w.alloc (.cells #[.slice a l.length cap, .int .i64 n] 24)).alloc (.cells #[.slice none 0 0, .int .i64 0] 24)).alloc (.cells #[.slice a l.length cap, .int .i64 n] 48)).cell? ⟨w.heap.size + 1 + 1, 1, none⟩ = some (.int .i64 n) := by go_simp
  have r0 : (((w.alloc (.cells #[.slice a l.length cap, .int .i64 n] 24)).alloc (.cells #[.slice none 0 0, .int .i64 0] 24)).alloc (.cells #[.slice a l.length cap, .int .i64 n] 48)).cell? ⟨w.heap.size + 1, 0, none⟩ = some (.slice none 0 0) := by go_simp
  have r1 : (((w.alloc (.cells #[.slice a l.length cap, .int .i64 n] 24)).alloc (.cells #[.slice none 0 0, .int .i64 0] 24)).alloc (.cells #[.slice a l.length cap, .int .i64 n] 48)).cell? ⟨w.heap.size + 1, 1, none⟩ = some (.int .i64 0) := by go_simp
  have fr0 : (((w.alloc (.cells #[.slice a l.length cap, .int .i64 n] 24)).alloc (.cells #[.slice none 0 0, .int .i64 0] 24)).alloc (.cells #[.slice a l.length cap, .int .i64 n] 48)).frozen? ⟨w.heap.size + 1, 0, none⟩ = false := by go_simp
  have fr1 : (((w.alloc (.cells #[.slice a l.length cap, .int .i64 n] 24)).alloc (.cells #[.slice none 0 0, .int .i64 0] 24)).alloc (.cells #[.slice a l.length cap, .int .i64 n] 48)).frozen? ⟨w.heap.size + 1, 1, none⟩ = false := by go_simp
  have zU : (((w.alloc (.cells #[.slice a l.length cap, .int .i64 n] 24)).alloc (.cells #[.slice none 0 0, .int .i64 0] 24)).alloc (.cells #[.slice a l.length cap, .int .i64 n] 48)).heap.size = w.heap.size + 1 + 1 + 1 := by simp
  have HBU := Lib.hid (show Below w.heap.size w (((w.alloc (.cells #[.slice a l.length cap, .int .i64 n] 24)).alloc (.cells #[.slice none 0 0, .int .i64 0] 24)).alloc (.cells #[.slice a l.length cap, .int .i64 n] 48)) from bal (bal (below_alloc w _) _) _)
  generalize (((w.alloc (.cells #[.slice a l.length cap, .int .i64 n] 24)).alloc (.cells #[.slice none 0 0, .int .i64 0] 24)).alloc (.cells #[.slice a l.length cap, .int .i64 n] 48)) = U at *
  have HRW := Lib.hid (show w.heap.size ≤ w.heap.size + 1 from Nat.le_succ _)
  generalize hQ : w.heap.size + 1 + 1 = QB at *
  generalize hR : w.heap.size + 1 = RB at *
  have HR := Lib.hid (And.intro r0 (And.intro r1 (And.intro fr0 fr1)))
  clear r0 r1 fr0 fr1
  have u0 : Below U.heap.size U U := Below.refl _ U
  have MK := Lib.hid (show ∀ w', Below U.heap.size U w' → w'.cell? ⟨QB, 0, none⟩ = some (.slice a l.length cap) ∧ w'.cell? ⟨QB, 1, none⟩ = some (.int .i64 n) ∧ Below U.heap.size U w' from fun w' h => ⟨(h.cell (blt q0)).trans q0, (h.cell (blt q1)).trans q1, h⟩)
  refine wp_region_held_drew (S := (fun w' => w'.cell? ⟨QB, 0, none⟩ = some (.slice a l.length cap) ∧ w'.cell? ⟨QB, 1, none⟩ = some (.int .i64 n) ∧ Below U.heap.size U w')) (by kernel_rfl) ?_ (fun hHeld => ?_)
  · exact MK.out _ (below_drew u0)
  refine takeH (i := 0) (some 15) (v := ?_) rfl rfl (by kernel_rfl) (by kernel_rfl) (by kernel_rfl) (fun _ _ _ h => h) (Or.inl ⟨by rfl, ?hyA0⟩) hHeld ?restA0
  case hyA0 => (intro w hSw; (try dsimp only at hSw); go_simp; (try with_reducible rfl))
  try simp only [Act.put, List.setIfInBounds_toArray, List.set_cons_zero, List.set_cons_succ]
  refine takeH (i := 1) (some 16) (v := ?_) rfl rfl (by kernel_rfl) (by kernel_rfl) (by kernel_rfl) (fun _ _ _ h => h) (Or.inl ⟨by rfl, ?hyA1⟩) hHeld ?restA1
  case hyA1 => (intro w hSw; (try dsimp only at hSw); go_simp; (try with_reducible rfl))
  try simp only [Act.put, List.setIfInBounds_toArray, List.set_cons_zero, List.set_cons_succ]
  refine takeH (i := 2) (some 17) (v := ?_) rfl rfl (by kernel_rfl) (by kernel_rfl) (by kernel_rfl) (fun _ _ _ h => h) (Or.inl ⟨by rfl, ?hyA2⟩) hHeld ?restA2
  case hyA2 => (intro w hSw; (try dsimp only at hSw); go_simp; (try with_reducible rfl))
  try simp only [Act.put, List.setIfInBounds_toArray, List.set_cons_zero, List.set_cons_succ]
  refine takeH (i := 4) (some 19) (v := ?_) rfl rfl (by kernel_rfl) (by kernel_rfl) (by kernel_rfl) (fun _ _ _ h => h) (Or.inl ⟨by rfl, ?hyA4⟩) hHeld ?restA4
  case hyA4 => (intro w hSw; (try dsimp only at hSw); go_simp; (try with_reducible rfl))
  try simp only [Act.put, List.setIfInBounds_toArray, List.set_cons_zero, List.set_cons_succ]
  refine takeH (i := 5) (some 20) (v := ?_) rfl rfl (by kernel_rfl) (by kernel_rfl) (by kernel_rfl) (fun _ _ _ h => h) (Or.inl ⟨by rfl, ?hyA5⟩) hHeld ?restA5
  case hyA5 => (intro w hSw; (try dsimp only at hSw); go_simp; (try with_reducible rfl))
  try simp only [Act.put, List.setIfInBounds_toArray, List.set_cons_zero, List.set_cons_succ]
  refine takeH (i := 6) (some 21) (v := ?_) rfl rfl (by kernel_rfl) (by kernel_rfl) (by kernel_rfl) (fun _ _ _ h => h) (Or.inl ⟨by rfl, ?hyA6⟩) hHeld ?restA6
  case hyA6 => (intro w hSw; (try dsimp only at hSw); go_simp; (try with_reducible rfl))
  try simp only [Act.put, List.setIfInBounds_toArray, List.set_cons_zero, List.set_cons_succ]
  refine takeH (i := 7) (some 22) (v := ?_) rfl rfl (by kernel_rfl) (by kernel_rfl) (by kernel_rfl) (fun _ _ _ h => h) (Or.inl ⟨by rfl, ?hyA7⟩) hHeld ?restA7
  case hyA7 => (intro w hSw; (try dsimp only at hSw); go_simp; (try with_reducible rfl))
  try simp only [Act.put, List.setIfInBounds_toArray, List.set_cons_zero, List.set_cons_succ]
  refine wpAnyH_ready (rs := [3]) (by kernel_rfl) (by simp) ?_
  refine AllReadyH.cons rfl (fun K2 hK => ?_) AllReadyH.nil
  go_simp
  (with_reducible refine (HAI.out _).mono ?_); rintro e w2 ⟨b1, rfl, k1, pB⟩; have sB := btr hHeld.2.2 pB; clear pB hHeld
  refine hK.out _ _ ?_ (fun hHeld => ?_)
  · (first | exact MK.out _ (by with_reducible assumption) | with_reducible assumption)
  clear hK K2
  try simp only [Act.put, List.setIfInBounds_toArray, List.set_cons_zero, List.set_cons_succ]
  refine wpAnyH_ready (rs := [8]) (by kernel_rfl) (by simp) ?_
  refine AllReadyH.cons rfl (fun K2 hK => ?_) AllReadyH.nil
  go_simp
  (with_reducible refine (HIN.out _).mono ?_); rintro e w3 ⟨b2, b3, rfl, k2, pB⟩; replace k1 := (pB.cell (blt k1)).trans k1; replace sB := btr hHeld.2.2 pB; clear pB hHeld
  refine hK.out _ _ ?_ (fun hHeld => ?_)
  · (first | exact MK.out _ (by with_reducible assumption) | with_reducible assumption)
  clear hK K2
  try simp only [Act.put, List.setIfInBounds_toArray, List.set_cons_zero, List.set_cons_succ]
  refine wpAnyH_ready (rs := [9]) (by kernel_rfl) (by simp) ?_
  refine AllReadyH.cons rfl (fun K2 hK => ?_) AllReadyH.nil
  go_simp
  refine hK.out _ _ ?_ (fun hHeld => ?_)
  · exact MK.out _ (bal hHeld.2.2 _)
  clear hK K2
  try simp only [Act.put, List.setIfInBounds_toArray, List.set_cons_zero, List.set_cons_succ]
  refine wpAnyH_ready (rs := [10]) (by kernel_rfl) (by simp) ?_
  refine AllReadyH.cons rfl (fun K2 hK => ?_) AllReadyH.nil
  go_simp
  (refine (HFI.out _ w3.heap.size b1 b2 b3 ?q0 ?q1 ?q2 ?q3 ?q4 ?q5 ?q6 ?q7).mono ?_); (case q0 => go_simp); (case q1 => go_simp); (case q2 => go_simp); (case q3 => go_simp); (case q4 => exact ((below_alloc w3 _).cell (blt k1)).trans k1); (case q5 => exact ⟨((below_alloc w3 _).cell (blt k2.1)).trans k2.1, ((below_alloc w3 _).cell (blt k2.2)).trans k2.2⟩); (case q6 => exact HA.out.on (btr HBU.out hHeld.2.2)); (case q7 => exact (HS.out.below (btr HBU.out hHeld.2.2)).mono (btr HBU.out hHeld.2.2).size); rintro e w4 ⟨rfl, pB⟩; replace sB := btr hHeld.2.2 pB; clear pB hHeld k1 k2
  refine hK.out _ _ ?_ (fun hHeld => ?_)
  · (first | exact MK.out _ (by with_reducible assumption) | with_reducible assumption)
  clear hK K2
  try simp only [Act.put, List.setIfInBounds_toArray, List.set_cons_zero, List.set_cons_succ]
  refine takeH (i := 11) (some 10) (v := ?_) rfl rfl (by kernel_rfl) (by kernel_rfl) (by kernel_rfl) (fun _ _ _ h => h) (Or.inl ⟨by rfl, ?hyA11⟩) hHeld ?restA11
  case hyA11 => (intro w hSw; (try dsimp only at hSw); go_simp; (try with_reducible rfl))
  try simp only [Act.put, List.setIfInBounds_toArray, List.set_cons_zero, List.set_cons_succ]
  refine wpAnyH_done (by kernel_rfl) ?_ _
  have HBY := Lib.hid (btr HBU.out hHeld.2.2)
  have HBUY := Lib.hid hHeld.2.2
  replace q0 := hHeld.1
  replace q1 := hHeld.2.1
  clear hHeld u0 MK sB
  generalize w4 = Y at *
  have zY : QB < Y.heap.size := blt q0
  rcases HTT.out with ⟨h1, rfl, h3⟩ | ⟨h1, rfl⟩
  · have HOK := Lib.hid h1
    obtain ⟨hpk, ht, hus⟩ := pin_facts h1
    have hn1 : 1 ≤ n := hpk.r.n1
    have hn2 : n < 1000000000000 := hpk.n
    have hl3 : l.length ≤ 3 := by have := hpk.r.len; simpa using this
    have hux : ∀ x ∈ l, 0 ≤ x.u ∧ x.u ≤ 1000000000000 := fun x hx => hus x.p (List.mem_map_of_mem hx)
    have HST := Lib.hid (fun (b : Nat) (W : World) (hW : PlAt W.heap.size W a l) (hb : W.cell? ⟨b, 0, none⟩ = some (.int .i64 t)) => staying_c a cap n l hl HIL.out 58 #[] #[.pointer (some ⟨b, 0, none⟩)] (fresh t) W hW (enters_of Tryd.func58 (by kernel_rfl) rfl) (fun x hx W2 hb2 => fresh1_c x t ht (hux x hx) b W2 ((hb2.cell (blt hb)).trans hb)))
    have HTI := Lib.hid ht
    clear HTT h1 h3 hpk hus hux HFI HAI HIN HNO
    go_wp2_with fail
    have u0 : Below Y.heap.size Y Y := Below.refl _ Y
    have MK := Lib.hid (show ∀ w', Below Y.heap.size Y w' → w'.cell? ⟨QB, 0, none⟩ = some (.slice a l.length cap) ∧ w'.cell? ⟨QB, 1, none⟩ = some (.int .i64 n) ∧ Below Y.heap.size Y w' from fun w' h => ⟨(h.cell (blt q0)).trans q0, (h.cell (blt q1)).trans q1, h⟩)
    refine wp_region_held_drew (S := (fun w' => w'.cell? ⟨QB, 0, none⟩ = some (.slice a l.length cap) ∧ w'.cell? ⟨QB, 1, none⟩ = some (.int .i64 n) ∧ Below Y.heap.size Y w')) (by kernel_rfl) ?_ (fun hHeld => ?_)
    · exact MK.out _ (below_drew u0)
    refine takeH (i := 0) (some 31) (v := ?_) rfl rfl (by kernel_rfl) (by kernel_rfl) (by kernel_rfl) (fun _ _ _ h => h) (Or.inl ⟨by rfl, ?hyB0⟩) hHeld ?restB0
    case hyB0 => (intro w hSw; (try dsimp only at hSw); go_simp; (try with_reducible rfl))
    try simp only [Act.put, List.setIfInBounds_toArray, List.set_cons_zero, List.set_cons_succ]
    refine takeH (i := 1) (some 32) (v := ?_) rfl rfl (by kernel_rfl) (by kernel_rfl) (by kernel_rfl) (fun _ _ _ h => h) (Or.inl ⟨by rfl, ?hyB1⟩) hHeld ?restB1
    case hyB1 => (intro w hSw; (try dsimp only at hSw); go_simp; (try with_reducible rfl))
    try simp only [Act.put, List.setIfInBounds_toArray, List.set_cons_zero, List.set_cons_succ]
    refine wpAnyH_ready (rs := [2]) (by kernel_rfl) (by simp) ?_
    refine AllReadyH.cons rfl (fun K2 hK => ?_) AllReadyH.nil
    go_simp
    (with_reducible refine (HFR.out _).mono ?_); rintro e w5 ⟨b5, rfl, k5, pB⟩; have sB := btr hHeld.2.2 pB; clear pB hHeld
    refine hK.out _ _ ?_ (fun hHeld => ?_)
    · (first | exact MK.out _ (by with_reducible assumption) | with_reducible assumption)
    clear hK K2
    try simp only [Act.put, List.setIfInBounds_toArray, List.set_cons_zero, List.set_cons_succ]
    refine wpAnyH_ready (rs := [3]) (by kernel_rfl) (by simp) ?_
    refine AllReadyH.cons rfl (fun K2 hK => ?_) AllReadyH.nil
    go_simp
    (refine (HST.out b5 _ (HA.out.on (btr HBY.out hHeld.2.2)) k5).mono ?_); rintro e w6 ⟨v, l', rfl, hown, hmap, hit, pB⟩; have z5 := (show Y.heap.size ≤ w5.heap.size from hHeld.2.2.size); have z6 := pB.size; replace sB := btr hHeld.2.2 pB; clear pB hHeld k5
    refine hK.out _ _ ?_ (fun hHeld => ?_)
    · (first | exact MK.out _ (by with_reducible assumption) | with_reducible assumption)
    clear hK K2
    try simp only [Act.put, List.setIfInBounds_toArray, List.set_cons_zero, List.set_cons_succ]
    obtain ⟨ao, co, rfl⟩ := row_form hown
    refine takeH (i := 4) (some 11) (v := ?_) rfl rfl (by kernel_rfl) (by kernel_rfl) (by kernel_rfl) (fun _ _ _ h => h) (Or.inl ⟨by rfl, ?hyB4⟩) hHeld ?restB4
    case hyB4 => (intro w hSw; (try dsimp only at hSw); go_simp; (try with_reducible rfl))
    try simp only [Act.put, List.setIfInBounds_toArray, List.set_cons_zero, List.set_cons_succ]
    refine wpAnyH_done (by kernel_rfl) ?_ _
    have HBY6 := Lib.hid (btr HBY.out hHeld.2.2)
    have HBYY := Lib.hid hHeld.2.2
    replace q1 := hHeld.2.1
    clear hHeld u0 MK sB q0 HFR HST HIL
    have hm3 : l'.length ≤ 3 := by rw [← List.length_map (f := SnM.p), hmap]; refine Nat.le_trans (List.length_filter_le _ _) ?_; simpa using hl3
    generalize w5.heap.size = z at *
    have hQz : QB < z := Nat.lt_of_lt_of_le zY z5
    have HMAP := Lib.hid hmap
    have HITS := Lib.hid hit
    have HOWN := Lib.hid hown
    clear hmap hit z5
    obtain ⟨r0, r1, fr0, fr1⟩ := HR.out
    have HR6 := Lib.hid (And.intro (((btr HBUY.out HBYY.out).cell (blt r0)).trans r0) (And.intro (((btr HBUY.out HBYY.out).cell (blt r1)).trans r1) (And.intro (((btr HBUY.out HBYY.out).frozen (blt r0)).trans fr0) (((btr HBUY.out HBYY.out).frozen (blt r1)).trans fr1))))
    clear r0 r1 fr0 fr1 HR HBUY HBYY
    by_cases h3 : l'.length = 3
    · obtain ⟨g3, rfl⟩ : ∃ g3, ao = some ⟨g3, 0, none⟩ := by
        rcases HOWN.out.2 with ⟨e, h0⟩ | ⟨g', c', cur, e, _⟩
        · exact absurd h0 (by omega)
        · simp only [Value.slice.injEq] at e; exact ⟨g', e.1⟩
      have hco := (SlIn.of_row HOWN.out).cell.2.2.1
      have hco2 := (SlIn.of_row HOWN.out).cell.2.2.2.1
      have HGM := Lib.hid (SlIn.of_row HOWN.out).cell.1
      have HSL := Lib.hid (stayM_sl3 h3 HOWN.out)
      have HN := Lib.hid (show (stayM l').length = 2 by unfold stayM; rw [if_pos h3, List.length_tail, h3])
      rw [h3] at hco ⊢
      clear HOWN
      have HVB := Lib.hid (fun b h => (slin_lt HSL.out (g := b) h).2)
      have hN3 : (2 : Nat) ≤ 3 := by decide
      clear h3 HGM
      go_wp2_with fail
      have u0 : Below w6.heap.size w6 w6 := Below.refl _ w6
      have MK := Lib.hid (show ∀ w', Below w6.heap.size w6 w' → w'.cell? ⟨QB, 1, none⟩ = some (.int .i64 n) ∧ Below w6.heap.size w6 w' from fun w' h => ⟨(h.cell (blt q1)).trans q1, h⟩)
      refine wp_region_held_drew (S := (fun w' => w'.cell? ⟨QB, 1, none⟩ = some (.int .i64 n) ∧ Below w6.heap.size w6 w')) (by kernel_rfl) ?_ (fun hHeld => ?_)
      · exact MK.out _ (below_drew u0)
      have HZD := Lib.hid (show w6.drew.heap.size = w6.heap.size from rfl)
      generalize w6.drew = D6 at *
      refine takeH (i := 0) (some 40) (v := ?_) rfl rfl (by kernel_rfl) (by kernel_rfl) (by kernel_rfl) (fun _ _ _ h => h) (Or.inl ⟨by rfl, ?hyP0⟩) hHeld ?restP0
      case hyP0 => (intro w hSw; (try dsimp only at hSw); go_simp; (try with_reducible rfl))
      try simp only [Act.put, List.setIfInBounds_toArray, List.set_cons_zero, List.set_cons_succ]
      refine takeH (i := 1) (some 41) (v := ?_) rfl rfl (by kernel_rfl) (by kernel_rfl) (by kernel_rfl) (fun _ _ _ h => h) (Or.inl ⟨by rfl, ?hyP1⟩) hHeld ?restP1
      case hyP1 => (intro w hSw; (try dsimp only at hSw); go_simp; (try with_reducible rfl))
      try simp only [Act.put, List.setIfInBounds_toArray, List.set_cons_zero, List.set_cons_succ]
      refine takeH (i := 2) (some 42) (v := ?_) rfl rfl (by kernel_rfl) (by kernel_rfl) (by kernel_rfl) (fun _ _ _ h => h) (Or.inl ⟨by rfl, ?hyP2⟩) hHeld ?restP2
      case hyP2 => (intro w hSw; (try dsimp only at hSw); go_simp; (try with_reducible rfl))
      try simp only [Act.put, List.setIfInBounds_toArray, List.set_cons_zero, List.set_cons_succ]
      refine takeH (i := 3) (some 43) (v := ?_) rfl rfl (by kernel_rfl) (by kernel_rfl) (by kernel_rfl) (fun _ _ _ h => h) (Or.inl ⟨by rfl, ?hyP3⟩) hHeld ?restP3
      case hyP3 => (intro w hSw; (try dsimp only at hSw); go_simp; (try with_reducible rfl))
      try simp only [Act.put, List.setIfInBounds_toArray, List.set_cons_zero, List.set_cons_succ]
      refine takeH (i := 5) (some 45) (v := ?_) rfl rfl (by kernel_rfl) (by kernel_rfl) (by kernel_rfl) (fun _ _ _ h => h) (Or.inl ⟨by rfl, ?hyP5⟩) hHeld ?restP5
      case hyP5 => (intro w hSw; (try dsimp only at hSw); go_simp; (try with_reducible rfl))
      try simp only [Act.put, List.setIfInBounds_toArray, List.set_cons_zero, List.set_cons_succ]
      refine wpAnyH_ready (rs := [4, 7]) (by kernel_rfl) (by simp) ?_
      refine AllReadyH.cons rfl (fun K2 hK => ?caP) (AllReadyH.cons rfl (fun K2 hK => ?cbP) AllReadyH.nil)
      case caP =>
        go_simp
        (with_reducible refine (HCL.out _ ((HS.out.below (btr HBY6.out hHeld.2)).mono (btr HBY6.out hHeld.2).size)).mono ?_); rintro e w7 ⟨v3, d3, rfl, ho, pB⟩; have s7 := hHeld.2.size; have sB := btr hHeld.2 pB
        clear hHeld pB
        refine hK.out _ _ ?_ (fun hHeld => ?_)
        · exact MK.out _ sB
        clear hK K2
        try simp only [Act.put, List.setIfInBounds_toArray, List.set_cons_zero, List.set_cons_succ]
        refine takeH (i := 6) (some 46) (v := ?_) rfl rfl (by kernel_rfl) (by kernel_rfl) (by kernel_rfl) (fun _ _ _ h => h) (Or.inl ⟨by rfl, ?hyPa6⟩) hHeld ?restPa6
        case hyPa6 => (intro w hSw; (try dsimp only at hSw); go_simp; (try with_reducible rfl))
        try simp only [Act.put, List.setIfInBounds_toArray, List.set_cons_zero, List.set_cons_succ]
        have zo := fun g h => (row_lt ho (g := g) h)
        have HO7 := Lib.hid (OwnS.mono ho (base' := z) (Nat.le_trans z6 s7))
        refine wpAnyH_ready (rs := [7]) (by kernel_rfl) (by simp) ?_
        refine AllReadyH.cons rfl (fun K2 hK => ?_) AllReadyH.nil
        go_simp
        refine hK.out _ _ ?_ (fun hHeld => ?_)
        · exact MK.out _ (bal hHeld.2 _)
        clear hK K2
        try simp only [Act.put, List.setIfInBounds_toArray, List.set_cons_zero, List.set_cons_succ]
        have y0 : (w7.alloc (.cells #[.int .i64 0, .slice none 0 0, .int .i64 0] 42)).cell? ⟨w7.heap.size, 0, none⟩ = some (.int .i64 0) := by go_simp
        have y1 : (w7.alloc (.cells #[.int .i64 0, .slice none 0 0, .int .i64 0] 42)).cell? ⟨w7.heap.size, 1, none⟩ = some (.slice none 0 0) := by go_simp
        have y2 : (w7.alloc (.cells #[.int .i64 0, .slice none 0 0, .int .i64 0] 42)).cell? ⟨w7.heap.size, 2, none⟩ = some (.int .i64 0) := by go_simp
        have f0 : (w7.alloc (.cells #[.int .i64 0, .slice none 0 0, .int .i64 0] 42)).frozen? ⟨w7.heap.size, 0, none⟩ = false := by go_simp
        have f1 : (w7.alloc (.cells #[.int .i64 0, .slice none 0 0, .int .i64 0] 42)).frozen? ⟨w7.heap.size, 1, none⟩ = false := by go_simp
        have f2 : (w7.alloc (.cells #[.int .i64 0, .slice none 0 0, .int .i64 0] 42)).frozen? ⟨w7.heap.size, 2, none⟩ = false := by go_simp
        have HOX := Lib.hid (World.ownsRow.alloc HO7.out (.cells #[.int .i64 0, .slice none 0 0, .int .i64 0] 42))
        have hM6 : w6.heap.size ≤ w7.heap.size := sB.size
        have hne : (Value.slice v3 items.length d3).ownBlock ≠ some w7.heap.size := fun e => by have := (zo _ e).2; omega
        clear HO7 ho zo sB s7
        generalize w7.alloc (.cells #[.int .i64 0, .slice none 0 0, .int .i64 0] 42) = X at *
        generalize w7.heap.size = M at *
        refine wpAnyH_ready (rs := [8]) (by kernel_rfl) (by simp) ?_
        refine AllReadyH.cons rfl (fun K2 hK => ?_) AllReadyH.nil
        go_simp
        refine hK.out _ _ ?_ (fun hHeld => ?_)
        · exact MK.out _ (((hHeld.2.setCell (p := ⟨M, 0, none⟩) hM6 _).setCell (p := ⟨M, 1, none⟩) hM6 _).setCell (p := ⟨M, 2, none⟩) hM6 _)
        clear hK K2
        try simp only [Act.put, List.setIfInBounds_toArray, List.set_cons_zero, List.set_cons_succ]
        refine wpAnyH_done (by kernel_rfl) ?_ _
        have hT := hHeld.2
        have tq1 := hHeld.1
        have m0 : (((X.setCell ⟨M, 0, none⟩ (.int .i64 n)).setCell ⟨M, 1, none⟩ (.slice v3 items.length d3)).setCell ⟨M, 2, none⟩ (.int .i64 t)).cell? ⟨M, 0, none⟩ = some (.int .i64 n) := by go_simp
        have m1 : (((X.setCell ⟨M, 0, none⟩ (.int .i64 n)).setCell ⟨M, 1, none⟩ (.slice v3 items.length d3)).setCell ⟨M, 2, none⟩ (.int .i64 t)).cell? ⟨M, 1, none⟩ = some (.slice v3 items.length d3) := by go_simp
        have m2 : (((X.setCell ⟨M, 0, none⟩ (.int .i64 n)).setCell ⟨M, 1, none⟩ (.slice v3 items.length d3)).setCell ⟨M, 2, none⟩ (.int .i64 t)).cell? ⟨M, 2, none⟩ = some (.int .i64 t) := by go_simp
        have MKO := Lib.hid (show OwnS z (((X.setCell ⟨M, 0, none⟩ (.int .i64 n)).setCell ⟨M, 1, none⟩ (.slice v3 items.length d3)).setCell ⟨M, 2, none⟩ (.int .i64 t)) (.slice v3 items.length d3) items from ((World.ownsRow.kept HOX.out (grownBy_setCell _ _ _ _) (.inr hne)).kept (grownBy_setCell _ _ _ _) (.inr hne)).kept (grownBy_setCell _ _ _ _) (.inr hne))
        clear hHeld HOX hne y0 y1 y2 f0 f1 f2 MK u0
        generalize (((X.setCell ⟨M, 0, none⟩ (.int .i64 n)).setCell ⟨M, 1, none⟩ (.slice v3 items.length d3)).setCell ⟨M, 2, none⟩ (.int .i64 t)) = T at *
        have SLT := Lib.hid (HSL.out.kept hT)
        have ITT := Lib.hid (fun x (hx : x ∈ stayM l') => (HITS.out x (stayM_mem hx)).on hT)
        have HGM := Lib.hid (fun b h => Nat.lt_of_lt_of_le (HVB.out b h) hM6)
        obtain ⟨r0, r1, fr0, fr1⟩ := HR6.out
        have HRT := Lib.hid (And.intro ((hT.cell (blt r0)).trans r0) (And.intro ((hT.cell (blt r1)).trans r1) (And.intro ((hT.frozen (blt r0)).trans fr0) ((hT.frozen (blt r1)).trans fr1))))
        have HBT := Lib.hid (btr HBY6.out hT)
        have zT : z ≤ T.heap.size := Nat.le_trans z6 hT.size
        have hMT : M < T.heap.size := blt m0
        clear r0 r1 fr0 fr1 hT HR6 HBY6 HSL HITS HVB q1
        go_wp2_with fail
        have MK := Lib.hid (show ∀ w' : World, (∀ b o, b < T.heap.size → b = QB ∨ b = M → w'.cell? ⟨b, o, none⟩ = T.cell? ⟨b, o, none⟩) → w'.cell? ⟨QB, 1, none⟩ = some (.int .i64 n) ∧ w'.cell? ⟨M, 0, none⟩ = some (.int .i64 n) ∧ w'.cell? ⟨M, 1, none⟩ = some (.slice v3 items.length d3) ∧ w'.cell? ⟨M, 2, none⟩ = some (.int .i64 t) from fun (w' : World) h => ⟨(h _ _ (blt tq1) (.inl rfl)).trans tq1, (h _ _ (blt m0) (.inr rfl)).trans m0, (h _ _ (blt m0) (.inr rfl)).trans m1, (h _ _ (blt m0) (.inr rfl)).trans m2⟩)
        refine wp_region_held_drew (S := (fun w' => w'.cell? ⟨QB, 1, none⟩ = some (.int .i64 n) ∧ w'.cell? ⟨M, 0, none⟩ = some (.int .i64 n) ∧ w'.cell? ⟨M, 1, none⟩ = some (.slice v3 items.length d3) ∧ w'.cell? ⟨M, 2, none⟩ = some (.int .i64 t))) (by kernel_rfl) ?_ (fun hHeld => ?_)
        · exact MK.out _ (fun b o h _ => rfl)
        refine takeH (i := 0) (some 47) (v := ?_) rfl rfl (by kernel_rfl) (by kernel_rfl) (by kernel_rfl) (fun _ _ _ h => h) (Or.inl ⟨by rfl, ?hyPat0⟩) hHeld ?restPat0
        case hyPat0 => (intro w hSw; (try dsimp only at hSw); go_simp; (try with_reducible rfl))
        try simp only [Act.put, List.setIfInBounds_toArray, List.set_cons_zero, List.set_cons_succ]
        refine takeH (i := 1) (some 48) (v := ?_) rfl rfl (by kernel_rfl) (by kernel_rfl) (by kernel_rfl) (fun _ _ _ h => h) (Or.inl ⟨by rfl, ?hyPat1⟩) hHeld ?restPat1
        case hyPat1 => (intro w hSw; (try dsimp only at hSw); go_simp; (try with_reducible rfl))
        try simp only [Act.put, List.setIfInBounds_toArray, List.set_cons_zero, List.set_cons_succ]
        refine takeH (i := 4) (some 51) (v := ?_) rfl rfl (by kernel_rfl) (by kernel_rfl) (by kernel_rfl) (fun _ _ _ h => h) (Or.inl ⟨by rfl, ?hyPat4⟩) hHeld ?restPat4
        case hyPat4 => (intro w hSw; (try dsimp only at hSw); go_simp; (try with_reducible rfl))
        try simp only [Act.put, List.setIfInBounds_toArray, List.set_cons_zero, List.set_cons_succ]
        refine takeH (i := 5) (some 52) (v := ?_) rfl rfl (by kernel_rfl) (by kernel_rfl) (by kernel_rfl) (fun _ _ _ h => h) (Or.inl ⟨by rfl, ?hyPat5⟩) hHeld ?restPat5
        case hyPat5 => (intro w hSw; (try dsimp only at hSw); go_simp; (try with_reducible rfl))
        try simp only [Act.put, List.setIfInBounds_toArray, List.set_cons_zero, List.set_cons_succ]
        refine takeH (i := 6) (some 53) (v := ?_) rfl rfl (by kernel_rfl) (by kernel_rfl) (by kernel_rfl) (fun _ _ _ h => h) (Or.inl ⟨by rfl, ?hyPat6⟩) hHeld ?restPat6
        case hyPat6 => (intro w hSw; (try dsimp only at hSw); go_simp; (try with_reducible rfl))
        try simp only [Act.put, List.setIfInBounds_toArray, List.set_cons_zero, List.set_cons_succ]
        refine takeH (i := 7) (some 54) (v := ?_) rfl rfl (by kernel_rfl) (by kernel_rfl) (by kernel_rfl) (fun _ _ _ h => h) (Or.inl ⟨by rfl, ?hyPat7⟩) hHeld ?restPat7
        case hyPat7 => (intro w hSw; (try dsimp only at hSw); go_simp; (try with_reducible rfl))
        try simp only [Act.put, List.setIfInBounds_toArray, List.set_cons_zero, List.set_cons_succ]
        refine takeH (i := 9) (some 56) (v := ?_) rfl rfl (by kernel_rfl) (by kernel_rfl) (by kernel_rfl) (fun _ _ _ h => h) (Or.inl ⟨by rfl, ?hyPat9⟩) hHeld ?restPat9
        case hyPat9 => (intro w hSw; (try dsimp only at hSw); go_simp; (try with_reducible rfl))
        try simp only [Act.put, List.setIfInBounds_toArray, List.set_cons_zero, List.set_cons_succ]
        refine takeH (i := 10) (some 57) (v := ?_) rfl rfl (by kernel_rfl) (by kernel_rfl) (by kernel_rfl) (fun _ _ _ h => h) (Or.inl ⟨by rfl, ?hyPat10⟩) hHeld ?restPat10
        case hyPat10 => (intro w hSw; (try dsimp only at hSw); go_simp; (try with_reducible rfl))
        try simp only [Act.put, List.setIfInBounds_toArray, List.set_cons_zero, List.set_cons_succ]
        have SLD := Lib.hid (SLT.out.kept (below_drew (Below.refl _ T)))
        have ITD := Lib.hid (fun x hx => ((ITT.out x hx).on (below_drew (Below.refl _ T))))
        have MKD := Lib.hid (MKO.out.on (below_drew (Below.refl _ T)))
        have HRD := Lib.hid (show T.drew.cell? ⟨RB, 0, none⟩ = _ ∧ T.drew.cell? ⟨RB, 1, none⟩ = _ ∧ T.drew.frozen? ⟨RB, 0, none⟩ = _ ∧ T.drew.frozen? ⟨RB, 1, none⟩ = _ from HRT.out)
        have HBD := Lib.hid (below_drew HBT.out)
        have MKE := Lib.hid (show ∀ w' : World, (∀ b o, b < T.heap.size → b = QB ∨ b = M → w'.cell? ⟨b, o, none⟩ = T.drew.cell? ⟨b, o, none⟩) → _ from fun w' h => MK.out w' h)
        have HZT := Lib.hid (show T.drew.heap.size = T.heap.size from rfl)
        clear MK SLT ITT MKO HRT HBT
        generalize T.drew = D at *
        refine wpAnyH_ready (rs := [2]) (by kernel_rfl) (by simp) ?_
        refine AllReadyH.cons rfl (fun K2 hK => ?_) AllReadyH.nil
        go_simp
        refine hK.out _ _ ?_ (fun hHeld => ?_)
        · exact MKE.out _ (fun b o h _ => (below_alloc D _).cell (p := ⟨b, o, none⟩) (by show b < D.heap.size; rw [HZT.out]; exact h))
        clear hK K2
        try simp only [Act.put, List.setIfInBounds_toArray, List.set_cons_zero, List.set_cons_succ]
        refine wpAnyH_ready (rs := [3]) (by kernel_rfl) (by simp) ?_
        refine AllReadyH.cons rfl (fun K2 hK => ?_) AllReadyH.nil
        rw [if_pos (by rfl)]
        refine wp_append_in _ (.tmp 47) (.tmp 49) 22 rfl z 42 i0 (.agg #[.int .i64 0, .slice none 0 0, .int .i64 0]) 3 40 Tryd.underlying22 hi0 hz0 hz1 hz2 rfl (by decide) _ 2 (snmCs (stayM l')) rfl (slin_alloc (HN.out ▸ SLD.out) _) ⟨D.heap.size, 0, none⟩ 1 1 [.int .i64 n, .slice v3 items.length d3, .int .i64 t] rfl rfl (World.news_of_block (cs := #[.int .i64 n, .slice v3 items.length d3, .int .i64 t]) (t := 42) (fr := (0, 0)) (by first | exact World.alloc_heap_new D _ | exact heap_alloc_new D _)) (by simp [Value.oneCell']) (by decide) (by unfold maxLen; omega) (by omega) (by rw [World.size_alloc, HZT.out]; omega) ?_
        have zTD := HZT.out
        intro g o' cg w9 hgz hg9 hgc hgr
        have HEND := Lib.hid (fun v0 v1 => pin_end (mk := ⟨n, items, v3, d3, t⟩) (v0 := v0) (v1 := v1) HRW.out (show RB < z by omega) HBD.out SLD.out ITD.out MKD.out hgz hg9 hgc hgr)
        have hne : ∀ b, b < D.heap.size → b < z ∨ b = M → some b ≠ Value.ownBlock (.slice (some ⟨g3, 3, none⟩) 2 (co - 1)) := fun b hb hbz e => by
          have := slin_lt SLD.out e.symm
          have := HGM.out b e.symm
          omega
        have rc := fun (b o : Nat) (hb : b < D.heap.size) (hbz : b < z ∨ b = M) => (hgr.block b (by rw [World.size_alloc]; omega) (hne b hb hbz)).trans (Below.heap_alloc D _ b hb)
        obtain ⟨r0, r1, fr0, fr1⟩ := HRD.out
        replace fr0 := (World.frozen?_of_block (w := D) (a := ⟨RB, 0, none⟩) (rc RB 0 (blt r0) (.inl (by omega)))).trans fr0
        replace fr1 := (World.frozen?_of_block (w := D) (a := ⟨RB, 1, none⟩) (rc RB 1 (blt r1) (.inl (by omega)))).trans fr1
        replace r0 := (World.cell?_of_block (w := D) (a := ⟨RB, 0, none⟩) (rc RB 0 (blt r0) (.inl (by omega)))).trans r0
        replace r1 := (World.cell?_of_block (w := D) (a := ⟨RB, 1, none⟩) (rc RB 1 (blt r1) (.inl (by omega)))).trans r1
        refine hK.out _ _ ?_ (fun hHeld => ?_)
        · exact MKE.out _ (fun b o h hb => World.cell?_of_block (w := D) (a := ⟨b, o, none⟩) (rc b o (by omega) (by rcases hb with rfl | rfl; exact .inl (by omega); exact .inr rfl)))
        clear hK K2 hgz hg9 hgc hgr hne rc SLD ITD MKD HRD
        try simp only [Act.put, List.setIfInBounds_toArray, List.set_cons_zero, List.set_cons_succ]
        refine takeH (i := 8) (some 55) (v := ?_) rfl rfl (by kernel_rfl) (by kernel_rfl) (by kernel_rfl) (fun _ _ _ h => h) (Or.inl ⟨by rfl, ?hyPat8⟩) hHeld ?restPat8
        case hyPat8 => (intro w hSw; (try dsimp only at hSw); go_simp; (try with_reducible rfl))
        try simp only [Act.put, List.setIfInBounds_toArray, List.set_cons_zero, List.set_cons_succ]
        refine wpAnyH_ready (rs := [11]) (by kernel_rfl) (by simp) ?_
        refine AllReadyH.cons rfl (fun K2 hK => ?_) AllReadyH.nil
        go_simp
        refine hK.out _ _ ?_ (fun hHeld => ?_)
        · (have hh := hHeld; refine ⟨?_, ?_, ?_, ?_⟩ <;> (rw [set_other _ _ (by omega), set_other _ _ (by omega)]); exact hh.1; exact hh.2.1; exact hh.2.2.1; exact hh.2.2.2)
        clear hK K2
        try simp only [Act.put, List.setIfInBounds_toArray, List.set_cons_zero, List.set_cons_succ]
        refine takeH (i := 12) (some 7) (v := ?_) rfl rfl (by kernel_rfl) (by kernel_rfl) (by kernel_rfl) (fun _ _ _ h => h) (Or.inl ⟨by rfl, ?hyPat12⟩) hHeld ?restPat12
        case hyPat12 => (intro w hSw; (try dsimp only at hSw); go_simp; (try with_reducible rfl))
        try simp only [Act.put, List.setIfInBounds_toArray, List.set_cons_zero, List.set_cons_succ]
        refine takeH (i := 13) (some 8) (v := ?_) rfl rfl (by kernel_rfl) (by kernel_rfl) (by kernel_rfl) (fun _ _ _ h => h) (Or.inl ⟨by rfl, ?hyPat13⟩) hHeld ?restPat13
        case hyPat13 => (intro w hSw; (try dsimp only at hSw); go_simp; (try with_reducible rfl))
        try simp only [Act.put, List.setIfInBounds_toArray, List.set_cons_zero, List.set_cons_succ]
        refine wpAnyH_done (by kernel_rfl) ?_ _
        have hww : IntKind.i64.wrap (n + 1) = n + 1 := IntWalk.i64_in _ (by omega)
        have HWW := Lib.hid hww
        clear hww
        go_wp2
        obtain ⟨hP, hFar, hBB⟩ := HEND.out (.slice (some ⟨g, o', none⟩) (2 + 1) cg) (.int .i64 (IntKind.i64.wrap (n + 1)))
        have e0 : ((w9.setCell ⟨RB, 0, none⟩ (.slice (some ⟨g, o', none⟩) (2 + 1) cg)).setCell ⟨RB, 1, none⟩ (.int .i64 (IntKind.i64.wrap (n + 1)))).cell? ⟨RB, 0, none⟩ = some (.slice (some ⟨g, o', none⟩) (2 + 1) cg) := by go_simp
        have e1 : ((w9.setCell ⟨RB, 0, none⟩ (.slice (some ⟨g, o', none⟩) (2 + 1) cg)).setCell ⟨RB, 1, none⟩ (.int .i64 (IntKind.i64.wrap (n + 1)))).cell? ⟨RB, 1, none⟩ = some (.int .i64 (IntKind.i64.wrap (n + 1))) := by go_simp
        refine bodyPost_ret (results_cell2 rfl _ _ (by rfl) (pool_load e0 e1)) rfl ⟨.agg #[.slice (some ⟨g, o', none⟩) (2 + 1) cg, .int .i64 (IntKind.i64.wrap (n + 1))], ?_, ⟨some ⟨g, o', none⟩, cg, stayM l' ++ [⟨n, items, v3, d3, t⟩], ?_, hP, hFar, ?_⟩, hBB⟩
        · unfold pinC pinE; rw [if_pos HOK.out, if_pos HOK.out]; rfl
        · unfold pinR; rw [if_pos HOK.out, List.length_append, HN.out, HWW.out]; rfl
        · unfold pinR; rw [if_pos HOK.out, List.map_append, stayM_p, HMAP.out]; rfl
      case cbP =>
        go_simp
        refine hK.out _ _ ?_ (fun hHeld => ?_)
        · exact MK.out _ (bal hHeld.2 _)
        clear hK K2
        try simp only [Act.put, List.setIfInBounds_toArray, List.set_cons_zero, List.set_cons_succ]
        have hM6 : w6.heap.size ≤ D6.heap.size := Nat.le_of_eq HZD.out.symm
        have y0 : (D6.alloc (.cells #[.int .i64 0, .slice none 0 0, .int .i64 0] 42)).cell? ⟨D6.heap.size, 0, none⟩ = some (.int .i64 0) := by go_simp
        have y1 : (D6.alloc (.cells #[.int .i64 0, .slice none 0 0, .int .i64 0] 42)).cell? ⟨D6.heap.size, 1, none⟩ = some (.slice none 0 0) := by go_simp
        have y2 : (D6.alloc (.cells #[.int .i64 0, .slice none 0 0, .int .i64 0] 42)).cell? ⟨D6.heap.size, 2, none⟩ = some (.int .i64 0) := by go_simp
        have f0 : (D6.alloc (.cells #[.int .i64 0, .slice none 0 0, .int .i64 0] 42)).frozen? ⟨D6.heap.size, 0, none⟩ = false := by go_simp
        have f1 : (D6.alloc (.cells #[.int .i64 0, .slice none 0 0, .int .i64 0] 42)).frozen? ⟨D6.heap.size, 1, none⟩ = false := by go_simp
        have f2 : (D6.alloc (.cells #[.int .i64 0, .slice none 0 0, .int .i64 0] 42)).frozen? ⟨D6.heap.size, 2, none⟩ = false := by go_simp
        have hx : (D6.alloc (.cells #[.int .i64 0, .slice none 0 0, .int .i64 0] 42)).heap.size = D6.heap.size + 1 := by simp
        generalize D6.alloc (.cells #[.int .i64 0, .slice none 0 0, .int .i64 0] 42) = X0 at *
        generalize D6.heap.size = M at *
        refine wpAnyH_ready (rs := [4]) (by kernel_rfl) (by simp) ?_
        refine AllReadyH.cons rfl (fun K2 hK => ?_) AllReadyH.nil
        go_simp
        (with_reducible refine (HCL.out _ ((HS.out.below (btr HBY6.out hHeld.2)).mono (btr HBY6.out hHeld.2).size)).mono ?_); rintro e w7 ⟨v3, d3, rfl, ho, pB⟩; have s7 := hHeld.2.size; have sB := btr hHeld.2 pB
        clear hHeld
        have hne : (Value.slice v3 items.length d3).ownBlock ≠ some M := fun e => by have := (row_lt ho e).1; omega
        have HOX := Lib.hid (OwnS.mono ho (base' := z) (by omega))
        replace f0 := (pB.frozen (blt y0)).trans f0
        replace f1 := (pB.frozen (blt y1)).trans f1
        replace f2 := (pB.frozen (blt y2)).trans f2
        replace y0 := (pB.cell (blt y0)).trans y0
        replace y1 := (pB.cell (blt y1)).trans y1
        replace y2 := (pB.cell (blt y2)).trans y2
        refine hK.out _ _ ?_ (fun hHeld => ?_)
        · exact MK.out _ sB
        clear hK K2
        try simp only [Act.put, List.setIfInBounds_toArray, List.set_cons_zero, List.set_cons_succ]
        refine takeH (i := 6) (some 46) (v := ?_) rfl rfl (by kernel_rfl) (by kernel_rfl) (by kernel_rfl) (fun _ _ _ h => h) (Or.inl ⟨by rfl, ?hyPb6⟩) hHeld ?restPb6
        case hyPb6 => (intro w hSw; (try dsimp only at hSw); go_simp; (try with_reducible rfl))
        try simp only [Act.put, List.setIfInBounds_toArray, List.set_cons_zero, List.set_cons_succ]
        clear ho pB sB s7 hx
        generalize w7 = X at *
        refine wpAnyH_ready (rs := [8]) (by kernel_rfl) (by simp) ?_
        refine AllReadyH.cons rfl (fun K2 hK => ?_) AllReadyH.nil
        go_simp
        refine hK.out _ _ ?_ (fun hHeld => ?_)
        · exact MK.out _ (((hHeld.2.setCell (p := ⟨M, 0, none⟩) hM6 _).setCell (p := ⟨M, 1, none⟩) hM6 _).setCell (p := ⟨M, 2, none⟩) hM6 _)
        clear hK K2
        try simp only [Act.put, List.setIfInBounds_toArray, List.set_cons_zero, List.set_cons_succ]
        refine wpAnyH_done (by kernel_rfl) ?_ _
        have hT := hHeld.2
        have tq1 := hHeld.1
        have m0 : (((X.setCell ⟨M, 0, none⟩ (.int .i64 n)).setCell ⟨M, 1, none⟩ (.slice v3 items.length d3)).setCell ⟨M, 2, none⟩ (.int .i64 t)).cell? ⟨M, 0, none⟩ = some (.int .i64 n) := by go_simp
        have m1 : (((X.setCell ⟨M, 0, none⟩ (.int .i64 n)).setCell ⟨M, 1, none⟩ (.slice v3 items.length d3)).setCell ⟨M, 2, none⟩ (.int .i64 t)).cell? ⟨M, 1, none⟩ = some (.slice v3 items.length d3) := by go_simp
        have m2 : (((X.setCell ⟨M, 0, none⟩ (.int .i64 n)).setCell ⟨M, 1, none⟩ (.slice v3 items.length d3)).setCell ⟨M, 2, none⟩ (.int .i64 t)).cell? ⟨M, 2, none⟩ = some (.int .i64 t) := by go_simp
        have MKO := Lib.hid (show OwnS z (((X.setCell ⟨M, 0, none⟩ (.int .i64 n)).setCell ⟨M, 1, none⟩ (.slice v3 items.length d3)).setCell ⟨M, 2, none⟩ (.int .i64 t)) (.slice v3 items.length d3) items from ((World.ownsRow.kept HOX.out (grownBy_setCell _ _ _ _) (.inr hne)).kept (grownBy_setCell _ _ _ _) (.inr hne)).kept (grownBy_setCell _ _ _ _) (.inr hne))
        clear hHeld HOX hne y0 y1 y2 f0 f1 f2 MK u0
        generalize (((X.setCell ⟨M, 0, none⟩ (.int .i64 n)).setCell ⟨M, 1, none⟩ (.slice v3 items.length d3)).setCell ⟨M, 2, none⟩ (.int .i64 t)) = T at *
        have SLT := Lib.hid (HSL.out.kept hT)
        have ITT := Lib.hid (fun x (hx : x ∈ stayM l') => (HITS.out x (stayM_mem hx)).on hT)
        have HGM := Lib.hid (fun b h => Nat.lt_of_lt_of_le (HVB.out b h) hM6)
        obtain ⟨r0, r1, fr0, fr1⟩ := HR6.out
        have HRT := Lib.hid (And.intro ((hT.cell (blt r0)).trans r0) (And.intro ((hT.cell (blt r1)).trans r1) (And.intro ((hT.frozen (blt r0)).trans fr0) ((hT.frozen (blt r1)).trans fr1))))
        have HBT := Lib.hid (btr HBY6.out hT)
        have zT : z ≤ T.heap.size := Nat.le_trans z6 hT.size
        have hMT : M < T.heap.size := blt m0
        clear r0 r1 fr0 fr1 hT HR6 HBY6 HSL HITS HVB q1
        go_wp2_with fail
        have MK := Lib.hid (show ∀ w' : World, (∀ b o, b < T.heap.size → b = QB ∨ b = M → w'.cell? ⟨b, o, none⟩ = T.cell? ⟨b, o, none⟩) → w'.cell? ⟨QB, 1, none⟩ = some (.int .i64 n) ∧ w'.cell? ⟨M, 0, none⟩ = some (.int .i64 n) ∧ w'.cell? ⟨M, 1, none⟩ = some (.slice v3 items.length d3) ∧ w'.cell? ⟨M, 2, none⟩ = some (.int .i64 t) from fun (w' : World) h => ⟨(h _ _ (blt tq1) (.inl rfl)).trans tq1, (h _ _ (blt m0) (.inr rfl)).trans m0, (h _ _ (blt m0) (.inr rfl)).trans m1, (h _ _ (blt m0) (.inr rfl)).trans m2⟩)
        refine wp_region_held_drew (S := (fun w' => w'.cell? ⟨QB, 1, none⟩ = some (.int .i64 n) ∧ w'.cell? ⟨M, 0, none⟩ = some (.int .i64 n) ∧ w'.cell? ⟨M, 1, none⟩ = some (.slice v3 items.length d3) ∧ w'.cell? ⟨M, 2, none⟩ = some (.int .i64 t))) (by kernel_rfl) ?_ (fun hHeld => ?_)
        · exact MK.out _ (fun b o h _ => rfl)
        refine takeH (i := 0) (some 47) (v := ?_) rfl rfl (by kernel_rfl) (by kernel_rfl) (by kernel_rfl) (fun _ _ _ h => h) (Or.inl ⟨by rfl, ?hyPbt0⟩) hHeld ?restPbt0
        case hyPbt0 => (intro w hSw; (try dsimp only at hSw); go_simp; (try with_reducible rfl))
        try simp only [Act.put, List.setIfInBounds_toArray, List.set_cons_zero, List.set_cons_succ]
        refine takeH (i := 1) (some 48) (v := ?_) rfl rfl (by kernel_rfl) (by kernel_rfl) (by kernel_rfl) (fun _ _ _ h => h) (Or.inl ⟨by rfl, ?hyPbt1⟩) hHeld ?restPbt1
        case hyPbt1 => (intro w hSw; (try dsimp only at hSw); go_simp; (try with_reducible rfl))
        try simp only [Act.put, List.setIfInBounds_toArray, List.set_cons_zero, List.set_cons_succ]
        refine takeH (i := 4) (some 51) (v := ?_) rfl rfl (by kernel_rfl) (by kernel_rfl) (by kernel_rfl) (fun _ _ _ h => h) (Or.inl ⟨by rfl, ?hyPbt4⟩) hHeld ?restPbt4
        case hyPbt4 => (intro w hSw; (try dsimp only at hSw); go_simp; (try with_reducible rfl))
        try simp only [Act.put, List.setIfInBounds_toArray, List.set_cons_zero, List.set_cons_succ]
        refine takeH (i := 5) (some 52) (v := ?_) rfl rfl (by kernel_rfl) (by kernel_rfl) (by kernel_rfl) (fun _ _ _ h => h) (Or.inl ⟨by rfl, ?hyPbt5⟩) hHeld ?restPbt5
        case hyPbt5 => (intro w hSw; (try dsimp only at hSw); go_simp; (try with_reducible rfl))
        try simp only [Act.put, List.setIfInBounds_toArray, List.set_cons_zero, List.set_cons_succ]
        refine takeH (i := 6) (some 53) (v := ?_) rfl rfl (by kernel_rfl) (by kernel_rfl) (by kernel_rfl) (fun _ _ _ h => h) (Or.inl ⟨by rfl, ?hyPbt6⟩) hHeld ?restPbt6
        case hyPbt6 => (intro w hSw; (try dsimp only at hSw); go_simp; (try with_reducible rfl))
        try simp only [Act.put, List.setIfInBounds_toArray, List.set_cons_zero, List.set_cons_succ]
        refine takeH (i := 7) (some 54) (v := ?_) rfl rfl (by kernel_rfl) (by kernel_rfl) (by kernel_rfl) (fun _ _ _ h => h) (Or.inl ⟨by rfl, ?hyPbt7⟩) hHeld ?restPbt7
        case hyPbt7 => (intro w hSw; (try dsimp only at hSw); go_simp; (try with_reducible rfl))
        try simp only [Act.put, List.setIfInBounds_toArray, List.set_cons_zero, List.set_cons_succ]
        refine takeH (i := 9) (some 56) (v := ?_) rfl rfl (by kernel_rfl) (by kernel_rfl) (by kernel_rfl) (fun _ _ _ h => h) (Or.inl ⟨by rfl, ?hyPbt9⟩) hHeld ?restPbt9
        case hyPbt9 => (intro w hSw; (try dsimp only at hSw); go_simp; (try with_reducible rfl))
        try simp only [Act.put, List.setIfInBounds_toArray, List.set_cons_zero, List.set_cons_succ]
        refine takeH (i := 10) (some 57) (v := ?_) rfl rfl (by kernel_rfl) (by kernel_rfl) (by kernel_rfl) (fun _ _ _ h => h) (Or.inl ⟨by rfl, ?hyPbt10⟩) hHeld ?restPbt10
        case hyPbt10 => (intro w hSw; (try dsimp only at hSw); go_simp; (try with_reducible rfl))
        try simp only [Act.put, List.setIfInBounds_toArray, List.set_cons_zero, List.set_cons_succ]
        have SLD := Lib.hid (SLT.out.kept (below_drew (Below.refl _ T)))
        have ITD := Lib.hid (fun x hx => ((ITT.out x hx).on (below_drew (Below.refl _ T))))
        have MKD := Lib.hid (MKO.out.on (below_drew (Below.refl _ T)))
        have HRD := Lib.hid (show T.drew.cell? ⟨RB, 0, none⟩ = _ ∧ T.drew.cell? ⟨RB, 1, none⟩ = _ ∧ T.drew.frozen? ⟨RB, 0, none⟩ = _ ∧ T.drew.frozen? ⟨RB, 1, none⟩ = _ from HRT.out)
        have HBD := Lib.hid (below_drew HBT.out)
        have MKE := Lib.hid (show ∀ w' : World, (∀ b o, b < T.heap.size → b = QB ∨ b = M → w'.cell? ⟨b, o, none⟩ = T.drew.cell? ⟨b, o, none⟩) → _ from fun w' h => MK.out w' h)
        have HZT := Lib.hid (show T.drew.heap.size = T.heap.size from rfl)
        clear MK SLT ITT MKO HRT HBT
        generalize T.drew = D at *
        refine wpAnyH_ready (rs := [2]) (by kernel_rfl) (by simp) ?_
        refine AllReadyH.cons rfl (fun K2 hK => ?_) AllReadyH.nil
        go_simp
        refine hK.out _ _ ?_ (fun hHeld => ?_)
        · exact MKE.out _ (fun b o h _ => (below_alloc D _).cell (p := ⟨b, o, none⟩) (by show b < D.heap.size; rw [HZT.out]; exact h))
        clear hK K2
        try simp only [Act.put, List.setIfInBounds_toArray, List.set_cons_zero, List.set_cons_succ]
        refine wpAnyH_ready (rs := [3]) (by kernel_rfl) (by simp) ?_
        refine AllReadyH.cons rfl (fun K2 hK => ?_) AllReadyH.nil
        rw [if_pos (by rfl)]
        refine wp_append_in _ (.tmp 47) (.tmp 49) 22 rfl z 42 i0 (.agg #[.int .i64 0, .slice none 0 0, .int .i64 0]) 3 40 Tryd.underlying22 hi0 hz0 hz1 hz2 rfl (by decide) _ 2 (snmCs (stayM l')) rfl (slin_alloc (HN.out ▸ SLD.out) _) ⟨D.heap.size, 0, none⟩ 1 1 [.int .i64 n, .slice v3 items.length d3, .int .i64 t] rfl rfl (World.news_of_block (cs := #[.int .i64 n, .slice v3 items.length d3, .int .i64 t]) (t := 42) (fr := (0, 0)) (by first | exact World.alloc_heap_new D _ | exact heap_alloc_new D _)) (by simp [Value.oneCell']) (by decide) (by unfold maxLen; omega) (by omega) (by rw [World.size_alloc, HZT.out]; omega) ?_
        have zTD := HZT.out
        intro g o' cg w9 hgz hg9 hgc hgr
        have HEND := Lib.hid (fun v0 v1 => pin_end (mk := ⟨n, items, v3, d3, t⟩) (v0 := v0) (v1 := v1) HRW.out (show RB < z by omega) HBD.out SLD.out ITD.out MKD.out hgz hg9 hgc hgr)
        have hne : ∀ b, b < D.heap.size → b < z ∨ b = M → some b ≠ Value.ownBlock (.slice (some ⟨g3, 3, none⟩) 2 (co - 1)) := fun b hb hbz e => by
          have := slin_lt SLD.out e.symm
          have := HGM.out b e.symm
          omega
        have rc := fun (b o : Nat) (hb : b < D.heap.size) (hbz : b < z ∨ b = M) => (hgr.block b (by rw [World.size_alloc]; omega) (hne b hb hbz)).trans (Below.heap_alloc D _ b hb)
        obtain ⟨r0, r1, fr0, fr1⟩ := HRD.out
        replace fr0 := (World.frozen?_of_block (w := D) (a := ⟨RB, 0, none⟩) (rc RB 0 (blt r0) (.inl (by omega)))).trans fr0
        replace fr1 := (World.frozen?_of_block (w := D) (a := ⟨RB, 1, none⟩) (rc RB 1 (blt r1) (.inl (by omega)))).trans fr1
        replace r0 := (World.cell?_of_block (w := D) (a := ⟨RB, 0, none⟩) (rc RB 0 (blt r0) (.inl (by omega)))).trans r0
        replace r1 := (World.cell?_of_block (w := D) (a := ⟨RB, 1, none⟩) (rc RB 1 (blt r1) (.inl (by omega)))).trans r1
        refine hK.out _ _ ?_ (fun hHeld => ?_)
        · exact MKE.out _ (fun b o h hb => World.cell?_of_block (w := D) (a := ⟨b, o, none⟩) (rc b o (by omega) (by rcases hb with rfl | rfl; exact .inl (by omega); exact .inr rfl)))
        clear hK K2 hgz hg9 hgc hgr hne rc SLD ITD MKD HRD
        try simp only [Act.put, List.setIfInBounds_toArray, List.set_cons_zero, List.set_cons_succ]
        refine takeH (i := 8) (some 55) (v := ?_) rfl rfl (by kernel_rfl) (by kernel_rfl) (by kernel_rfl) (fun _ _ _ h => h) (Or.inl ⟨by rfl, ?hyPbt8⟩) hHeld ?restPbt8
        case hyPbt8 => (intro w hSw; (try dsimp only at hSw); go_simp; (try with_reducible rfl))
        try simp only [Act.put, List.setIfInBounds_toArray, List.set_cons_zero, List.set_cons_succ]
        refine wpAnyH_ready (rs := [11]) (by kernel_rfl) (by simp) ?_
        refine AllReadyH.cons rfl (fun K2 hK => ?_) AllReadyH.nil
        go_simp
        refine hK.out _ _ ?_ (fun hHeld => ?_)
        · (have hh := hHeld; refine ⟨?_, ?_, ?_, ?_⟩ <;> (rw [set_other _ _ (by omega), set_other _ _ (by omega)]); exact hh.1; exact hh.2.1; exact hh.2.2.1; exact hh.2.2.2)
        clear hK K2
        try simp only [Act.put, List.setIfInBounds_toArray, List.set_cons_zero, List.set_cons_succ]
        refine takeH (i := 12) (some 7) (v := ?_) rfl rfl (by kernel_rfl) (by kernel_rfl) (by kernel_rfl) (fun _ _ _ h => h) (Or.inl ⟨by rfl, ?hyPbt12⟩) hHeld ?restPbt12
        case hyPbt12 => (intro w hSw; (try dsimp only at hSw); go_simp; (try with_reducible rfl))
        try simp only [Act.put, List.setIfInBounds_toArray, List.set_cons_zero, List.set_cons_succ]
        refine takeH (i := 13) (some 8) (v := ?_) rfl rfl (by kernel_rfl) (by kernel_rfl) (by kernel_rfl) (fun _ _ _ h => h) (Or.inl ⟨by rfl, ?hyPbt13⟩) hHeld ?restPbt13
        case hyPbt13 => (intro w hSw; (try dsimp only at hSw); go_simp; (try with_reducible rfl))
        try simp only [Act.put, List.setIfInBounds_toArray, List.set_cons_zero, List.set_cons_succ]
        refine wpAnyH_done (by kernel_rfl) ?_ _
        have hww : IntKind.i64.wrap (n + 1) = n + 1 := IntWalk.i64_in _ (by omega)
        have HWW := Lib.hid hww
        clear hww
        go_wp2
        obtain ⟨hP, hFar, hBB⟩ := HEND.out (.slice (some ⟨g, o', none⟩) (2 + 1) cg) (.int .i64 (IntKind.i64.wrap (n + 1)))
        have e0 : ((w9.setCell ⟨RB, 0, none⟩ (.slice (some ⟨g, o', none⟩) (2 + 1) cg)).setCell ⟨RB, 1, none⟩ (.int .i64 (IntKind.i64.wrap (n + 1)))).cell? ⟨RB, 0, none⟩ = some (.slice (some ⟨g, o', none⟩) (2 + 1) cg) := by go_simp
        have e1 : ((w9.setCell ⟨RB, 0, none⟩ (.slice (some ⟨g, o', none⟩) (2 + 1) cg)).setCell ⟨RB, 1, none⟩ (.int .i64 (IntKind.i64.wrap (n + 1)))).cell? ⟨RB, 1, none⟩ = some (.int .i64 (IntKind.i64.wrap (n + 1))) := by go_simp
        refine bodyPost_ret (results_cell2 rfl _ _ (by rfl) (pool_load e0 e1)) rfl ⟨.agg #[.slice (some ⟨g, o', none⟩) (2 + 1) cg, .int .i64 (IntKind.i64.wrap (n + 1))], ?_, ⟨some ⟨g, o', none⟩, cg, stayM l' ++ [⟨n, items, v3, d3, t⟩], ?_, hP, hFar, ?_⟩, hBB⟩
        · unfold pinC pinE; rw [if_pos HOK.out, if_pos HOK.out]; rfl
        · unfold pinR; rw [if_pos HOK.out, List.length_append, HN.out, HWW.out]; rfl
        · unfold pinR; rw [if_pos HOK.out, List.map_append, stayM_p, HMAP.out]; rfl
    · have h3' : ¬ (l'.length : Int) = 3 := by omega
      have h3b : (((l'.length : Nat) : Int) == 3) = false := by simpa using h3'
      have HSL := Lib.hid (stayM_sl h3 HOWN.out)
      have HN := Lib.hid (show (stayM l').length = l'.length by unfold stayM; rw [if_neg h3])
      have HVB := Lib.hid (fun b h => (slin_lt HSL.out (g := b) h).2)
      clear h3 HOWN
      generalize l'.length = N at *
      go_wp2_with fail
      have u0 : Below w6.heap.size w6 w6 := Below.refl _ w6
      have MK := Lib.hid (show ∀ w', Below w6.heap.size w6 w' → w'.cell? ⟨QB, 1, none⟩ = some (.int .i64 n) ∧ Below w6.heap.size w6 w' from fun w' h => ⟨(h.cell (blt q1)).trans q1, h⟩)
      refine wp_region_held_drew (S := (fun w' => w'.cell? ⟨QB, 1, none⟩ = some (.int .i64 n) ∧ Below w6.heap.size w6 w')) (by kernel_rfl) ?_ (fun hHeld => ?_)
      · exact MK.out _ (below_drew u0)
      have HZD := Lib.hid (show w6.drew.heap.size = w6.heap.size from rfl)
      generalize w6.drew = D6 at *
      refine takeH (i := 0) (some 40) (v := ?_) rfl rfl (by kernel_rfl) (by kernel_rfl) (by kernel_rfl) (fun _ _ _ h => h) (Or.inl ⟨by rfl, ?hyQ0⟩) hHeld ?restQ0
      case hyQ0 => (intro w hSw; (try dsimp only at hSw); go_simp; (try with_reducible rfl))
      try simp only [Act.put, List.setIfInBounds_toArray, List.set_cons_zero, List.set_cons_succ]
      refine takeH (i := 1) (some 41) (v := ?_) rfl rfl (by kernel_rfl) (by kernel_rfl) (by kernel_rfl) (fun _ _ _ h => h) (Or.inl ⟨by rfl, ?hyQ1⟩) hHeld ?restQ1
      case hyQ1 => (intro w hSw; (try dsimp only at hSw); go_simp; (try with_reducible rfl))
      try simp only [Act.put, List.setIfInBounds_toArray, List.set_cons_zero, List.set_cons_succ]
      refine takeH (i := 2) (some 42) (v := ?_) rfl rfl (by kernel_rfl) (by kernel_rfl) (by kernel_rfl) (fun _ _ _ h => h) (Or.inl ⟨by rfl, ?hyQ2⟩) hHeld ?restQ2
      case hyQ2 => (intro w hSw; (try dsimp only at hSw); go_simp; (try with_reducible rfl))
      try simp only [Act.put, List.setIfInBounds_toArray, List.set_cons_zero, List.set_cons_succ]
      refine takeH (i := 3) (some 43) (v := ?_) rfl rfl (by kernel_rfl) (by kernel_rfl) (by kernel_rfl) (fun _ _ _ h => h) (Or.inl ⟨by rfl, ?hyQ3⟩) hHeld ?restQ3
      case hyQ3 => (intro w hSw; (try dsimp only at hSw); go_simp; (try with_reducible rfl))
      try simp only [Act.put, List.setIfInBounds_toArray, List.set_cons_zero, List.set_cons_succ]
      refine takeH (i := 5) (some 45) (v := ?_) rfl rfl (by kernel_rfl) (by kernel_rfl) (by kernel_rfl) (fun _ _ _ h => h) (Or.inl ⟨by rfl, ?hyQ5⟩) hHeld ?restQ5
      case hyQ5 => (intro w hSw; (try dsimp only at hSw); go_simp; (try with_reducible rfl))
      try simp only [Act.put, List.setIfInBounds_toArray, List.set_cons_zero, List.set_cons_succ]
      refine wpAnyH_ready (rs := [4, 7]) (by kernel_rfl) (by simp) ?_
      refine AllReadyH.cons rfl (fun K2 hK => ?caQ) (AllReadyH.cons rfl (fun K2 hK => ?cbQ) AllReadyH.nil)
      case caQ =>
        go_simp
        (with_reducible refine (HCL.out _ ((HS.out.below (btr HBY6.out hHeld.2)).mono (btr HBY6.out hHeld.2).size)).mono ?_); rintro e w7 ⟨v3, d3, rfl, ho, pB⟩; have s7 := hHeld.2.size; have sB := btr hHeld.2 pB
        clear hHeld pB
        refine hK.out _ _ ?_ (fun hHeld => ?_)
        · exact MK.out _ sB
        clear hK K2
        try simp only [Act.put, List.setIfInBounds_toArray, List.set_cons_zero, List.set_cons_succ]
        refine takeH (i := 6) (some 46) (v := ?_) rfl rfl (by kernel_rfl) (by kernel_rfl) (by kernel_rfl) (fun _ _ _ h => h) (Or.inl ⟨by rfl, ?hyQa6⟩) hHeld ?restQa6
        case hyQa6 => (intro w hSw; (try dsimp only at hSw); go_simp; (try with_reducible rfl))
        try simp only [Act.put, List.setIfInBounds_toArray, List.set_cons_zero, List.set_cons_succ]
        have zo := fun g h => (row_lt ho (g := g) h)
        have HO7 := Lib.hid (OwnS.mono ho (base' := z) (Nat.le_trans z6 s7))
        refine wpAnyH_ready (rs := [7]) (by kernel_rfl) (by simp) ?_
        refine AllReadyH.cons rfl (fun K2 hK => ?_) AllReadyH.nil
        go_simp
        refine hK.out _ _ ?_ (fun hHeld => ?_)
        · exact MK.out _ (bal hHeld.2 _)
        clear hK K2
        try simp only [Act.put, List.setIfInBounds_toArray, List.set_cons_zero, List.set_cons_succ]
        have y0 : (w7.alloc (.cells #[.int .i64 0, .slice none 0 0, .int .i64 0] 42)).cell? ⟨w7.heap.size, 0, none⟩ = some (.int .i64 0) := by go_simp
        have y1 : (w7.alloc (.cells #[.int .i64 0, .slice none 0 0, .int .i64 0] 42)).cell? ⟨w7.heap.size, 1, none⟩ = some (.slice none 0 0) := by go_simp
        have y2 : (w7.alloc (.cells #[.int .i64 0, .slice none 0 0, .int .i64 0] 42)).cell? ⟨w7.heap.size, 2, none⟩ = some (.int .i64 0) := by go_simp
        have f0 : (w7.alloc (.cells #[.int .i64 0, .slice none 0 0, .int .i64 0] 42)).frozen? ⟨w7.heap.size, 0, none⟩ = false := by go_simp
        have f1 : (w7.alloc (.cells #[.int .i64 0, .slice none 0 0, .int .i64 0] 42)).frozen? ⟨w7.heap.size, 1, none⟩ = false := by go_simp
        have f2 : (w7.alloc (.cells #[.int .i64 0, .slice none 0 0, .int .i64 0] 42)).frozen? ⟨w7.heap.size, 2, none⟩ = false := by go_simp
        have HOX := Lib.hid (World.ownsRow.alloc HO7.out (.cells #[.int .i64 0, .slice none 0 0, .int .i64 0] 42))
        have hM6 : w6.heap.size ≤ w7.heap.size := sB.size
        have hne : (Value.slice v3 items.length d3).ownBlock ≠ some w7.heap.size := fun e => by have := (zo _ e).2; omega
        clear HO7 ho zo sB s7
        generalize w7.alloc (.cells #[.int .i64 0, .slice none 0 0, .int .i64 0] 42) = X at *
        generalize w7.heap.size = M at *
        refine wpAnyH_ready (rs := [8]) (by kernel_rfl) (by simp) ?_
        refine AllReadyH.cons rfl (fun K2 hK => ?_) AllReadyH.nil
        go_simp
        refine hK.out _ _ ?_ (fun hHeld => ?_)
        · exact MK.out _ (((hHeld.2.setCell (p := ⟨M, 0, none⟩) hM6 _).setCell (p := ⟨M, 1, none⟩) hM6 _).setCell (p := ⟨M, 2, none⟩) hM6 _)
        clear hK K2
        try simp only [Act.put, List.setIfInBounds_toArray, List.set_cons_zero, List.set_cons_succ]
        refine wpAnyH_done (by kernel_rfl) ?_ _
        have hT := hHeld.2
        have tq1 := hHeld.1
        have m0 : (((X.setCell ⟨M, 0, none⟩ (.int .i64 n)).setCell ⟨M, 1, none⟩ (.slice v3 items.length d3)).setCell ⟨M, 2, none⟩ (.int .i64 t)).cell? ⟨M, 0, none⟩ = some (.int .i64 n) := by go_simp
        have m1 : (((X.setCell ⟨M, 0, none⟩ (.int .i64 n)).setCell ⟨M, 1, none⟩ (.slice v3 items.length d3)).setCell ⟨M, 2, none⟩ (.int .i64 t)).cell? ⟨M, 1, none⟩ = some (.slice v3 items.length d3) := by go_simp
        have m2 : (((X.setCell ⟨M, 0, none⟩ (.int .i64 n)).setCell ⟨M, 1, none⟩ (.slice v3 items.length d3)).setCell ⟨M, 2, none⟩ (.int .i64 t)).cell? ⟨M, 2, none⟩ = some (.int .i64 t) := by go_simp
        have MKO := Lib.hid (show OwnS z (((X.setCell ⟨M, 0, none⟩ (.int .i64 n)).setCell ⟨M, 1, none⟩ (.slice v3 items.length d3)).setCell ⟨M, 2, none⟩ (.int .i64 t)) (.slice v3 items.length d3) items from ((World.ownsRow.kept HOX.out (grownBy_setCell _ _ _ _) (.inr hne)).kept (grownBy_setCell _ _ _ _) (.inr hne)).kept (grownBy_setCell _ _ _ _) (.inr hne))
        clear hHeld HOX hne y0 y1 y2 f0 f1 f2 MK u0
        generalize (((X.setCell ⟨M, 0, none⟩ (.int .i64 n)).setCell ⟨M, 1, none⟩ (.slice v3 items.length d3)).setCell ⟨M, 2, none⟩ (.int .i64 t)) = T at *
        have SLT := Lib.hid (HSL.out.kept hT)
        have ITT := Lib.hid (fun x (hx : x ∈ stayM l') => (HITS.out x (stayM_mem hx)).on hT)
        have HGM := Lib.hid (fun b h => Nat.lt_of_lt_of_le (HVB.out b h) hM6)
        obtain ⟨r0, r1, fr0, fr1⟩ := HR6.out
        have HRT := Lib.hid (And.intro ((hT.cell (blt r0)).trans r0) (And.intro ((hT.cell (blt r1)).trans r1) (And.intro ((hT.frozen (blt r0)).trans fr0) ((hT.frozen (blt r1)).trans fr1))))
        have HBT := Lib.hid (btr HBY6.out hT)
        have zT : z ≤ T.heap.size := Nat.le_trans z6 hT.size
        have hMT : M < T.heap.size := blt m0
        clear r0 r1 fr0 fr1 hT HR6 HBY6 HSL HITS HVB q1
        go_wp2_with fail
        have MK := Lib.hid (show ∀ w' : World, (∀ b o, b < T.heap.size → b = QB ∨ b = M → w'.cell? ⟨b, o, none⟩ = T.cell? ⟨b, o, none⟩) → w'.cell? ⟨QB, 1, none⟩ = some (.int .i64 n) ∧ w'.cell? ⟨M, 0, none⟩ = some (.int .i64 n) ∧ w'.cell? ⟨M, 1, none⟩ = some (.slice v3 items.length d3) ∧ w'.cell? ⟨M, 2, none⟩ = some (.int .i64 t) from fun (w' : World) h => ⟨(h _ _ (blt tq1) (.inl rfl)).trans tq1, (h _ _ (blt m0) (.inr rfl)).trans m0, (h _ _ (blt m0) (.inr rfl)).trans m1, (h _ _ (blt m0) (.inr rfl)).trans m2⟩)
        refine wp_region_held_drew (S := (fun w' => w'.cell? ⟨QB, 1, none⟩ = some (.int .i64 n) ∧ w'.cell? ⟨M, 0, none⟩ = some (.int .i64 n) ∧ w'.cell? ⟨M, 1, none⟩ = some (.slice v3 items.length d3) ∧ w'.cell? ⟨M, 2, none⟩ = some (.int .i64 t))) (by kernel_rfl) ?_ (fun hHeld => ?_)
        · exact MK.out _ (fun b o h _ => rfl)
        refine takeH (i := 0) (some 47) (v := ?_) rfl rfl (by kernel_rfl) (by kernel_rfl) (by kernel_rfl) (fun _ _ _ h => h) (Or.inl ⟨by rfl, ?hyQat0⟩) hHeld ?restQat0
        case hyQat0 => (intro w hSw; (try dsimp only at hSw); go_simp; (try with_reducible rfl))
        try simp only [Act.put, List.setIfInBounds_toArray, List.set_cons_zero, List.set_cons_succ]
        refine takeH (i := 1) (some 48) (v := ?_) rfl rfl (by kernel_rfl) (by kernel_rfl) (by kernel_rfl) (fun _ _ _ h => h) (Or.inl ⟨by rfl, ?hyQat1⟩) hHeld ?restQat1
        case hyQat1 => (intro w hSw; (try dsimp only at hSw); go_simp; (try with_reducible rfl))
        try simp only [Act.put, List.setIfInBounds_toArray, List.set_cons_zero, List.set_cons_succ]
        refine takeH (i := 4) (some 51) (v := ?_) rfl rfl (by kernel_rfl) (by kernel_rfl) (by kernel_rfl) (fun _ _ _ h => h) (Or.inl ⟨by rfl, ?hyQat4⟩) hHeld ?restQat4
        case hyQat4 => (intro w hSw; (try dsimp only at hSw); go_simp; (try with_reducible rfl))
        try simp only [Act.put, List.setIfInBounds_toArray, List.set_cons_zero, List.set_cons_succ]
        refine takeH (i := 5) (some 52) (v := ?_) rfl rfl (by kernel_rfl) (by kernel_rfl) (by kernel_rfl) (fun _ _ _ h => h) (Or.inl ⟨by rfl, ?hyQat5⟩) hHeld ?restQat5
        case hyQat5 => (intro w hSw; (try dsimp only at hSw); go_simp; (try with_reducible rfl))
        try simp only [Act.put, List.setIfInBounds_toArray, List.set_cons_zero, List.set_cons_succ]
        refine takeH (i := 6) (some 53) (v := ?_) rfl rfl (by kernel_rfl) (by kernel_rfl) (by kernel_rfl) (fun _ _ _ h => h) (Or.inl ⟨by rfl, ?hyQat6⟩) hHeld ?restQat6
        case hyQat6 => (intro w hSw; (try dsimp only at hSw); go_simp; (try with_reducible rfl))
        try simp only [Act.put, List.setIfInBounds_toArray, List.set_cons_zero, List.set_cons_succ]
        refine takeH (i := 7) (some 54) (v := ?_) rfl rfl (by kernel_rfl) (by kernel_rfl) (by kernel_rfl) (fun _ _ _ h => h) (Or.inl ⟨by rfl, ?hyQat7⟩) hHeld ?restQat7
        case hyQat7 => (intro w hSw; (try dsimp only at hSw); go_simp; (try with_reducible rfl))
        try simp only [Act.put, List.setIfInBounds_toArray, List.set_cons_zero, List.set_cons_succ]
        refine takeH (i := 9) (some 56) (v := ?_) rfl rfl (by kernel_rfl) (by kernel_rfl) (by kernel_rfl) (fun _ _ _ h => h) (Or.inl ⟨by rfl, ?hyQat9⟩) hHeld ?restQat9
        case hyQat9 => (intro w hSw; (try dsimp only at hSw); go_simp; (try with_reducible rfl))
        try simp only [Act.put, List.setIfInBounds_toArray, List.set_cons_zero, List.set_cons_succ]
        refine takeH (i := 10) (some 57) (v := ?_) rfl rfl (by kernel_rfl) (by kernel_rfl) (by kernel_rfl) (fun _ _ _ h => h) (Or.inl ⟨by rfl, ?hyQat10⟩) hHeld ?restQat10
        case hyQat10 => (intro w hSw; (try dsimp only at hSw); go_simp; (try with_reducible rfl))
        try simp only [Act.put, List.setIfInBounds_toArray, List.set_cons_zero, List.set_cons_succ]
        have SLD := Lib.hid (SLT.out.kept (below_drew (Below.refl _ T)))
        have ITD := Lib.hid (fun x hx => ((ITT.out x hx).on (below_drew (Below.refl _ T))))
        have MKD := Lib.hid (MKO.out.on (below_drew (Below.refl _ T)))
        have HRD := Lib.hid (show T.drew.cell? ⟨RB, 0, none⟩ = _ ∧ T.drew.cell? ⟨RB, 1, none⟩ = _ ∧ T.drew.frozen? ⟨RB, 0, none⟩ = _ ∧ T.drew.frozen? ⟨RB, 1, none⟩ = _ from HRT.out)
        have HBD := Lib.hid (below_drew HBT.out)
        have MKE := Lib.hid (show ∀ w' : World, (∀ b o, b < T.heap.size → b = QB ∨ b = M → w'.cell? ⟨b, o, none⟩ = T.drew.cell? ⟨b, o, none⟩) → _ from fun w' h => MK.out w' h)
        have HZT := Lib.hid (show T.drew.heap.size = T.heap.size from rfl)
        clear MK SLT ITT MKO HRT HBT
        generalize T.drew = D at *
        refine wpAnyH_ready (rs := [2]) (by kernel_rfl) (by simp) ?_
        refine AllReadyH.cons rfl (fun K2 hK => ?_) AllReadyH.nil
        go_simp
        refine hK.out _ _ ?_ (fun hHeld => ?_)
        · exact MKE.out _ (fun b o h _ => (below_alloc D _).cell (p := ⟨b, o, none⟩) (by show b < D.heap.size; rw [HZT.out]; exact h))
        clear hK K2
        try simp only [Act.put, List.setIfInBounds_toArray, List.set_cons_zero, List.set_cons_succ]
        refine wpAnyH_ready (rs := [3]) (by kernel_rfl) (by simp) ?_
        refine AllReadyH.cons rfl (fun K2 hK => ?_) AllReadyH.nil
        rw [if_pos (by rfl)]
        refine wp_append_in _ (.tmp 47) (.tmp 49) 22 rfl z 42 i0 (.agg #[.int .i64 0, .slice none 0 0, .int .i64 0]) 3 40 Tryd.underlying22 hi0 hz0 hz1 hz2 rfl (by decide) _ N (snmCs (stayM l')) rfl (slin_alloc (HN.out ▸ SLD.out) _) ⟨D.heap.size, 0, none⟩ 1 1 [.int .i64 n, .slice v3 items.length d3, .int .i64 t] rfl rfl (World.news_of_block (cs := #[.int .i64 n, .slice v3 items.length d3, .int .i64 t]) (t := 42) (fr := (0, 0)) (by first | exact World.alloc_heap_new D _ | exact heap_alloc_new D _)) (by simp [Value.oneCell']) (by decide) (by unfold maxLen; omega) (by omega) (by rw [World.size_alloc, HZT.out]; omega) ?_
        have zTD := HZT.out
        intro g o' cg w9 hgz hg9 hgc hgr
        have HEND := Lib.hid (fun v0 v1 => pin_end (mk := ⟨n, items, v3, d3, t⟩) (v0 := v0) (v1 := v1) HRW.out (show RB < z by omega) HBD.out SLD.out ITD.out MKD.out hgz hg9 hgc hgr)
        have hne : ∀ b, b < D.heap.size → b < z ∨ b = M → some b ≠ Value.ownBlock (.slice ao N co) := fun b hb hbz e => by
          have := slin_lt SLD.out e.symm
          have := HGM.out b e.symm
          omega
        have rc := fun (b o : Nat) (hb : b < D.heap.size) (hbz : b < z ∨ b = M) => (hgr.block b (by rw [World.size_alloc]; omega) (hne b hb hbz)).trans (Below.heap_alloc D _ b hb)
        obtain ⟨r0, r1, fr0, fr1⟩ := HRD.out
        replace fr0 := (World.frozen?_of_block (w := D) (a := ⟨RB, 0, none⟩) (rc RB 0 (blt r0) (.inl (by omega)))).trans fr0
        replace fr1 := (World.frozen?_of_block (w := D) (a := ⟨RB, 1, none⟩) (rc RB 1 (blt r1) (.inl (by omega)))).trans fr1
        replace r0 := (World.cell?_of_block (w := D) (a := ⟨RB, 0, none⟩) (rc RB 0 (blt r0) (.inl (by omega)))).trans r0
        replace r1 := (World.cell?_of_block (w := D) (a := ⟨RB, 1, none⟩) (rc RB 1 (blt r1) (.inl (by omega)))).trans r1
        refine hK.out _ _ ?_ (fun hHeld => ?_)
        · exact MKE.out _ (fun b o h hb => World.cell?_of_block (w := D) (a := ⟨b, o, none⟩) (rc b o (by omega) (by rcases hb with rfl | rfl; exact .inl (by omega); exact .inr rfl)))
        clear hK K2 hgz hg9 hgc hgr hne rc SLD ITD MKD HRD
        try simp only [Act.put, List.setIfInBounds_toArray, List.set_cons_zero, List.set_cons_succ]
        refine takeH (i := 8) (some 55) (v := ?_) rfl rfl (by kernel_rfl) (by kernel_rfl) (by kernel_rfl) (fun _ _ _ h => h) (Or.inl ⟨by rfl, ?hyQat8⟩) hHeld ?restQat8
        case hyQat8 => (intro w hSw; (try dsimp only at hSw); go_simp; (try with_reducible rfl))
        try simp only [Act.put, List.setIfInBounds_toArray, List.set_cons_zero, List.set_cons_succ]
        refine wpAnyH_ready (rs := [11]) (by kernel_rfl) (by simp) ?_
        refine AllReadyH.cons rfl (fun K2 hK => ?_) AllReadyH.nil
        go_simp
        refine hK.out _ _ ?_ (fun hHeld => ?_)
        · (have hh := hHeld; refine ⟨?_, ?_, ?_, ?_⟩ <;> (rw [set_other _ _ (by omega), set_other _ _ (by omega)]); exact hh.1; exact hh.2.1; exact hh.2.2.1; exact hh.2.2.2)
        clear hK K2
        try simp only [Act.put, List.setIfInBounds_toArray, List.set_cons_zero, List.set_cons_succ]
        refine takeH (i := 12) (some 7) (v := ?_) rfl rfl (by kernel_rfl) (by kernel_rfl) (by kernel_rfl) (fun _ _ _ h => h) (Or.inl ⟨by rfl, ?hyQat12⟩) hHeld ?restQat12
        case hyQat12 => (intro w hSw; (try dsimp only at hSw); go_simp; (try with_reducible rfl))
        try simp only [Act.put, List.setIfInBounds_toArray, List.set_cons_zero, List.set_cons_succ]
        refine takeH (i := 13) (some 8) (v := ?_) rfl rfl (by kernel_rfl) (by kernel_rfl) (by kernel_rfl) (fun _ _ _ h => h) (Or.inl ⟨by rfl, ?hyQat13⟩) hHeld ?restQat13
        case hyQat13 => (intro w hSw; (try dsimp only at hSw); go_simp; (try with_reducible rfl))
        try simp only [Act.put, List.setIfInBounds_toArray, List.set_cons_zero, List.set_cons_succ]
        refine wpAnyH_done (by kernel_rfl) ?_ _
        have hww : IntKind.i64.wrap (n + 1) = n + 1 := IntWalk.i64_in _ (by omega)
        have HWW := Lib.hid hww
        clear hww
        go_wp2
        obtain ⟨hP, hFar, hBB⟩ := HEND.out (.slice (some ⟨g, o', none⟩) (N + 1) cg) (.int .i64 (IntKind.i64.wrap (n + 1)))
        have e0 : ((w9.setCell ⟨RB, 0, none⟩ (.slice (some ⟨g, o', none⟩) (N + 1) cg)).setCell ⟨RB, 1, none⟩ (.int .i64 (IntKind.i64.wrap (n + 1)))).cell? ⟨RB, 0, none⟩ = some (.slice (some ⟨g, o', none⟩) (N + 1) cg) := by go_simp
        have e1 : ((w9.setCell ⟨RB, 0, none⟩ (.slice (some ⟨g, o', none⟩) (N + 1) cg)).setCell ⟨RB, 1, none⟩ (.int .i64 (IntKind.i64.wrap (n + 1)))).cell? ⟨RB, 1, none⟩ = some (.int .i64 (IntKind.i64.wrap (n + 1))) := by go_simp
        refine bodyPost_ret (results_cell2 rfl _ _ (by rfl) (pool_load e0 e1)) rfl ⟨.agg #[.slice (some ⟨g, o', none⟩) (N + 1) cg, .int .i64 (IntKind.i64.wrap (n + 1))], ?_, ⟨some ⟨g, o', none⟩, cg, stayM l' ++ [⟨n, items, v3, d3, t⟩], ?_, hP, hFar, ?_⟩, hBB⟩
        · unfold pinC pinE; rw [if_pos HOK.out, if_pos HOK.out]; rfl
        · unfold pinR; rw [if_pos HOK.out, List.length_append, HN.out, HWW.out]; rfl
        · unfold pinR; rw [if_pos HOK.out, List.map_append, stayM_p, HMAP.out]; rfl
      case cbQ =>
        go_simp
        refine hK.out _ _ ?_ (fun hHeld => ?_)
        · exact MK.out _ (bal hHeld.2 _)
        clear hK K2
        try simp only [Act.put, List.setIfInBounds_toArray, List.set_cons_zero, List.set_cons_succ]
        have hM6 : w6.heap.size ≤ D6.heap.size := Nat.le_of_eq HZD.out.symm
        have y0 : (D6.alloc (.cells #[.int .i64 0, .slice none 0 0, .int .i64 0] 42)).cell? ⟨D6.heap.size, 0, none⟩ = some (.int .i64 0) := by go_simp
        have y1 : (D6.alloc (.cells #[.int .i64 0, .slice none 0 0, .int .i64 0] 42)).cell? ⟨D6.heap.size, 1, none⟩ = some (.slice none 0 0) := by go_simp
        have y2 : (D6.alloc (.cells #[.int .i64 0, .slice none 0 0, .int .i64 0] 42)).cell? ⟨D6.heap.size, 2, none⟩ = some (.int .i64 0) := by go_simp
        have f0 : (D6.alloc (.cells #[.int .i64 0, .slice none 0 0, .int .i64 0] 42)).frozen? ⟨D6.heap.size, 0, none⟩ = false := by go_simp
        have f1 : (D6.alloc (.cells #[.int .i64 0, .slice none 0 0, .int .i64 0] 42)).frozen? ⟨D6.heap.size, 1, none⟩ = false := by go_simp
        have f2 : (D6.alloc (.cells #[.int .i64 0, .slice none 0 0, .int .i64 0] 42)).frozen? ⟨D6.heap.size, 2, none⟩ = false := by go_simp
        have hx : (D6.alloc (.cells #[.int .i64 0, .slice none 0 0, .int .i64 0] 42)).heap.size = D6.heap.size + 1 := by simp
        generalize D6.alloc (.cells #[.int .i64 0, .slice none 0 0, .int .i64 0] 42) = X0 at *
        generalize D6.heap.size = M at *
        refine wpAnyH_ready (rs := [4]) (by kernel_rfl) (by simp) ?_
        refine AllReadyH.cons rfl (fun K2 hK => ?_) AllReadyH.nil
        go_simp
        (with_reducible refine (HCL.out _ ((HS.out.below (btr HBY6.out hHeld.2)).mono (btr HBY6.out hHeld.2).size)).mono ?_); rintro e w7 ⟨v3, d3, rfl, ho, pB⟩; have s7 := hHeld.2.size; have sB := btr hHeld.2 pB
        clear hHeld
        have hne : (Value.slice v3 items.length d3).ownBlock ≠ some M := fun e => by have := (row_lt ho e).1; omega
        have HOX := Lib.hid (OwnS.mono ho (base' := z) (by omega))
        replace f0 := (pB.frozen (blt y0)).trans f0
        replace f1 := (pB.frozen (blt y1)).trans f1
        replace f2 := (pB.frozen (blt y2)).trans f2
        replace y0 := (pB.cell (blt y0)).trans y0
        replace y1 := (pB.cell (blt y1)).trans y1
        replace y2 := (pB.cell (blt y2)).trans y2
        refine hK.out _ _ ?_ (fun hHeld => ?_)
        · exact MK.out _ sB
        clear hK K2
        try simp only [Act.put, List.setIfInBounds_toArray, List.set_cons_zero, List.set_cons_succ]
        refine takeH (i := 6) (some 46) (v := ?_) rfl rfl (by kernel_rfl) (by kernel_rfl) (by kernel_rfl) (fun _ _ _ h => h) (Or.inl ⟨by rfl, ?hyQb6⟩) hHeld ?restQb6
        case hyQb6 => (intro w hSw; (try dsimp only at hSw); go_simp; (try with_reducible rfl))
        try simp only [Act.put, List.setIfInBounds_toArray, List.set_cons_zero, List.set_cons_succ]
        clear ho pB sB s7 hx
        generalize w7 = X at *
        refine wpAnyH_ready (rs := [8]) (by kernel_rfl) (by simp) ?_
        refine AllReadyH.cons rfl (fun K2 hK => ?_) AllReadyH.nil
        go_simp
        refine hK.out _ _ ?_ (fun hHeld => ?_)
        · exact MK.out _ (((hHeld.2.setCell (p := ⟨M, 0, none⟩) hM6 _).setCell (p := ⟨M, 1, none⟩) hM6 _).setCell (p := ⟨M, 2, none⟩) hM6 _)
        clear hK K2
        try simp only [Act.put, List.setIfInBounds_toArray, List.set_cons_zero, List.set_cons_succ]
        refine wpAnyH_done (by kernel_rfl) ?_ _
        have hT := hHeld.2
        have tq1 := hHeld.1
        have m0 : (((X.setCell ⟨M, 0, none⟩ (.int .i64 n)).setCell ⟨M, 1, none⟩ (.slice v3 items.length d3)).setCell ⟨M, 2, none⟩ (.int .i64 t)).cell? ⟨M, 0, none⟩ = some (.int .i64 n) := by go_simp
        have m1 : (((X.setCell ⟨M, 0, none⟩ (.int .i64 n)).setCell ⟨M, 1, none⟩ (.slice v3 items.length d3)).setCell ⟨M, 2, none⟩ (.int .i64 t)).cell? ⟨M, 1, none⟩ = some (.slice v3 items.length d3) := by go_simp
        have m2 : (((X.setCell ⟨M, 0, none⟩ (.int .i64 n)).setCell ⟨M, 1, none⟩ (.slice v3 items.length d3)).setCell ⟨M, 2, none⟩ (.int .i64 t)).cell? ⟨M, 2, none⟩ = some (.int .i64 t) := by go_simp
        have MKO := Lib.hid (show OwnS z (((X.setCell ⟨M, 0, none⟩ (.int .i64 n)).setCell ⟨M, 1, none⟩ (.slice v3 items.length d3)).setCell ⟨M, 2, none⟩ (.int .i64 t)) (.slice v3 items.length d3) items from ((World.ownsRow.kept HOX.out (grownBy_setCell _ _ _ _) (.inr hne)).kept (grownBy_setCell _ _ _ _) (.inr hne)).kept (grownBy_setCell _ _ _ _) (.inr hne))
        clear hHeld HOX hne y0 y1 y2 f0 f1 f2 MK u0
        generalize (((X.setCell ⟨M, 0, none⟩ (.int .i64 n)).setCell ⟨M, 1, none⟩ (.slice v3 items.length d3)).setCell ⟨M, 2, none⟩ (.int .i64 t)) = T at *
        have SLT := Lib.hid (HSL.out.kept hT)
        have ITT := Lib.hid (fun x (hx : x ∈ stayM l') => (HITS.out x (stayM_mem hx)).on hT)
        have HGM := Lib.hid (fun b h => Nat.lt_of_lt_of_le (HVB.out b h) hM6)
        obtain ⟨r0, r1, fr0, fr1⟩ := HR6.out
        have HRT := Lib.hid (And.intro ((hT.cell (blt r0)).trans r0) (And.intro ((hT.cell (blt r1)).trans r1) (And.intro ((hT.frozen (blt r0)).trans fr0) ((hT.frozen (blt r1)).trans fr1))))
        have HBT := Lib.hid (btr HBY6.out hT)
        have zT : z ≤ T.heap.size := Nat.le_trans z6 hT.size
        have hMT : M < T.heap.size := blt m0
        clear r0 r1 fr0 fr1 hT HR6 HBY6 HSL HITS HVB q1
        go_wp2_with fail
        have MK := Lib.hid (show ∀ w' : World, (∀ b o, b < T.heap.size → b = QB ∨ b = M → w'.cell? ⟨b, o, none⟩ = T.cell? ⟨b, o, none⟩) → w'.cell? ⟨QB, 1, none⟩ = some (.int .i64 n) ∧ w'.cell? ⟨M, 0, none⟩ = some (.int .i64 n) ∧ w'.cell? ⟨M, 1, none⟩ = some (.slice v3 items.length d3) ∧ w'.cell? ⟨M, 2, none⟩ = some (.int .i64 t) from fun (w' : World) h => ⟨(h _ _ (blt tq1) (.inl rfl)).trans tq1, (h _ _ (blt m0) (.inr rfl)).trans m0, (h _ _ (blt m0) (.inr rfl)).trans m1, (h _ _ (blt m0) (.inr rfl)).trans m2⟩)
        refine wp_region_held_drew (S := (fun w' => w'.cell? ⟨QB, 1, none⟩ = some (.int .i64 n) ∧ w'.cell? ⟨M, 0, none⟩ = some (.int .i64 n) ∧ w'.cell? ⟨M, 1, none⟩ = some (.slice v3 items.length d3) ∧ w'.cell? ⟨M, 2, none⟩ = some (.int .i64 t))) (by kernel_rfl) ?_ (fun hHeld => ?_)
        · exact MK.out _ (fun b o h _ => rfl)
        refine takeH (i := 0) (some 47) (v := ?_) rfl rfl (by kernel_rfl) (by kernel_rfl) (by kernel_rfl) (fun _ _ _ h => h) (Or.inl ⟨by rfl, ?hyQbt0⟩) hHeld ?restQbt0
        case hyQbt0 => (intro w hSw; (try dsimp only at hSw); go_simp; (try with_reducible rfl))
        try simp only [Act.put, List.setIfInBounds_toArray, List.set_cons_zero, List.set_cons_succ]
        refine takeH (i := 1) (some 48) (v := ?_) rfl rfl (by kernel_rfl) (by kernel_rfl) (by kernel_rfl) (fun _ _ _ h => h) (Or.inl ⟨by rfl, ?hyQbt1⟩) hHeld ?restQbt1
        case hyQbt1 => (intro w hSw; (try dsimp only at hSw); go_simp; (try with_reducible rfl))
        try simp only [Act.put, List.setIfInBounds_toArray, List.set_cons_zero, List.set_cons_succ]
        refine takeH (i := 4) (some 51) (v := ?_) rfl rfl (by kernel_rfl) (by kernel_rfl) (by kernel_rfl) (fun _ _ _ h => h) (Or.inl ⟨by rfl, ?hyQbt4⟩) hHeld ?restQbt4
        case hyQbt4 => (intro w hSw; (try dsimp only at hSw); go_simp; (try with_reducible rfl))
        try simp only [Act.put, List.setIfInBounds_toArray, List.set_cons_zero, List.set_cons_succ]
        refine takeH (i := 5) (some 52) (v := ?_) rfl rfl (by kernel_rfl) (by kernel_rfl) (by kernel_rfl) (fun _ _ _ h => h) (Or.inl ⟨by rfl, ?hyQbt5⟩) hHeld ?restQbt5
        case hyQbt5 => (intro w hSw; (try dsimp only at hSw); go_simp; (try with_reducible rfl))
        try simp only [Act.put, List.setIfInBounds_toArray, List.set_cons_zero, List.set_cons_succ]
        refine takeH (i := 6) (some 53) (v := ?_) rfl rfl (by kernel_rfl) (by kernel_rfl) (by kernel_rfl) (fun _ _ _ h => h) (Or.inl ⟨by rfl, ?hyQbt6⟩) hHeld ?restQbt6
        case hyQbt6 => (intro w hSw; (try dsimp only at hSw); go_simp; (try with_reducible rfl))
        try simp only [Act.put, List.setIfInBounds_toArray, List.set_cons_zero, List.set_cons_succ]
        refine takeH (i := 7) (some 54) (v := ?_) rfl rfl (by kernel_rfl) (by kernel_rfl) (by kernel_rfl) (fun _ _ _ h => h) (Or.inl ⟨by rfl, ?hyQbt7⟩) hHeld ?restQbt7
        case hyQbt7 => (intro w hSw; (try dsimp only at hSw); go_simp; (try with_reducible rfl))
        try simp only [Act.put, List.setIfInBounds_toArray, List.set_cons_zero, List.set_cons_succ]
        refine takeH (i := 9) (some 56) (v := ?_) rfl rfl (by kernel_rfl) (by kernel_rfl) (by kernel_rfl) (fun _ _ _ h => h) (Or.inl ⟨by rfl, ?hyQbt9⟩) hHeld ?restQbt9
        case hyQbt9 => (intro w hSw; (try dsimp only at hSw); go_simp; (try with_reducible rfl))
        try simp only [Act.put, List.setIfInBounds_toArray, List.set_cons_zero, List.set_cons_succ]
        refine takeH (i := 10) (some 57) (v := ?_) rfl rfl (by kernel_rfl) (by kernel_rfl) (by kernel_rfl) (fun _ _ _ h => h) (Or.inl ⟨by rfl, ?hyQbt10⟩) hHeld ?restQbt10
        case hyQbt10 => (intro w hSw; (try dsimp only at hSw); go_simp; (try with_reducible rfl))
        try simp only [Act.put, List.setIfInBounds_toArray, List.set_cons_zero, List.set_cons_succ]
        have SLD := Lib.hid (SLT.out.kept (below_drew (Below.refl _ T)))
        have ITD := Lib.hid (fun x hx => ((ITT.out x hx).on (below_drew (Below.refl _ T))))
        have MKD := Lib.hid (MKO.out.on (below_drew (Below.refl _ T)))
        have HRD := Lib.hid (show T.drew.cell? ⟨RB, 0, none⟩ = _ ∧ T.drew.cell? ⟨RB, 1, none⟩ = _ ∧ T.drew.frozen? ⟨RB, 0, none⟩ = _ ∧ T.drew.frozen? ⟨RB, 1, none⟩ = _ from HRT.out)
        have HBD := Lib.hid (below_drew HBT.out)
        have MKE := Lib.hid (show ∀ w' : World, (∀ b o, b < T.heap.size → b = QB ∨ b = M → w'.cell? ⟨b, o, none⟩ = T.drew.cell? ⟨b, o, none⟩) → _ from fun w' h => MK.out w' h)
        have HZT := Lib.hid (show T.drew.heap.size = T.heap.size from rfl)
        clear MK SLT ITT MKO HRT HBT
        generalize T.drew = D at *
        refine wpAnyH_ready (rs := [2]) (by kernel_rfl) (by simp) ?_
        refine AllReadyH.cons rfl (fun K2 hK => ?_) AllReadyH.nil
        go_simp
        refine hK.out _ _ ?_ (fun hHeld => ?_)
        · exact MKE.out _ (fun b o h _ => (below_alloc D _).cell (p := ⟨b, o, none⟩) (by show b < D.heap.size; rw [HZT.out]; exact h))
        clear hK K2
        try simp only [Act.put, List.setIfInBounds_toArray, List.set_cons_zero, List.set_cons_succ]
        refine wpAnyH_ready (rs := [3]) (by kernel_rfl) (by simp) ?_
        refine AllReadyH.cons rfl (fun K2 hK => ?_) AllReadyH.nil
        rw [if_pos (by rfl)]
        refine wp_append_in _ (.tmp 47) (.tmp 49) 22 rfl z 42 i0 (.agg #[.int .i64 0, .slice none 0 0, .int .i64 0]) 3 40 Tryd.underlying22 hi0 hz0 hz1 hz2 rfl (by decide) _ N (snmCs (stayM l')) rfl (slin_alloc (HN.out ▸ SLD.out) _) ⟨D.heap.size, 0, none⟩ 1 1 [.int .i64 n, .slice v3 items.length d3, .int .i64 t] rfl rfl (World.news_of_block (cs := #[.int .i64 n, .slice v3 items.length d3, .int .i64 t]) (t := 42) (fr := (0, 0)) (by first | exact World.alloc_heap_new D _ | exact heap_alloc_new D _)) (by simp [Value.oneCell']) (by decide) (by unfold maxLen; omega) (by omega) (by rw [World.size_alloc, HZT.out]; omega) ?_
        have zTD := HZT.out
        intro g o' cg w9 hgz hg9 hgc hgr
        have HEND := Lib.hid (fun v0 v1 => pin_end (mk := ⟨n, items, v3, d3, t⟩) (v0 := v0) (v1 := v1) HRW.out (show RB < z by omega) HBD.out SLD.out ITD.out MKD.out hgz hg9 hgc hgr)
        have hne : ∀ b, b < D.heap.size → b < z ∨ b = M → some b ≠ Value.ownBlock (.slice ao N co) := fun b hb hbz e => by
          have := slin_lt SLD.out e.symm
          have := HGM.out b e.symm
          omega
        have rc := fun (b o : Nat) (hb : b < D.heap.size) (hbz : b < z ∨ b = M) => (hgr.block b (by rw [World.size_alloc]; omega) (hne b hb hbz)).trans (Below.heap_alloc D _ b hb)
        obtain ⟨r0, r1, fr0, fr1⟩ := HRD.out
        replace fr0 := (World.frozen?_of_block (w := D) (a := ⟨RB, 0, none⟩) (rc RB 0 (blt r0) (.inl (by omega)))).trans fr0
        replace fr1 := (World.frozen?_of_block (w := D) (a := ⟨RB, 1, none⟩) (rc RB 1 (blt r1) (.inl (by omega)))).trans fr1
        replace r0 := (World.cell?_of_block (w := D) (a := ⟨RB, 0, none⟩) (rc RB 0 (blt r0) (.inl (by omega)))).trans r0
        replace r1 := (World.cell?_of_block (w := D) (a := ⟨RB, 1, none⟩) (rc RB 1 (blt r1) (.inl (by omega)))).trans r1
        refine hK.out _ _ ?_ (fun hHeld => ?_)
        · exact MKE.out _ (fun b o h hb => World.cell?_of_block (w := D) (a := ⟨b, o, none⟩) (rc b o (by omega) (by rcases hb with rfl | rfl; exact .inl (by omega); exact .inr rfl)))
        clear hK K2 hgz hg9 hgc hgr hne rc SLD ITD MKD HRD
        try simp only [Act.put, List.setIfInBounds_toArray, List.set_cons_zero, List.set_cons_succ]
        refine takeH (i := 8) (some 55) (v := ?_) rfl rfl (by kernel_rfl) (by kernel_rfl) (by kernel_rfl) (fun _ _ _ h => h) (Or.inl ⟨by rfl, ?hyQbt8⟩) hHeld ?restQbt8
        case hyQbt8 => (intro w hSw; (try dsimp only at hSw); go_simp; (try with_reducible rfl))
        try simp only [Act.put, List.setIfInBounds_toArray, List.set_cons_zero, List.set_cons_succ]
        refine wpAnyH_ready (rs := [11]) (by kernel_rfl) (by simp) ?_
        refine AllReadyH.cons rfl (fun K2 hK => ?_) AllReadyH.nil
        go_simp
        refine hK.out _ _ ?_ (fun hHeld => ?_)
        · (have hh := hHeld; refine ⟨?_, ?_, ?_, ?_⟩ <;> (rw [set_other _ _ (by omega), set_other _ _ (by omega)]); exact hh.1; exact hh.2.1; exact hh.2.2.1; exact hh.2.2.2)
        clear hK K2
        try simp only [Act.put, List.setIfInBounds_toArray, List.set_cons_zero, List.set_cons_succ]
        refine takeH (i := 12) (some 7) (v := ?_) rfl rfl (by kernel_rfl) (by kernel_rfl) (by kernel_rfl) (fun _ _ _ h => h) (Or.inl ⟨by rfl, ?hyQbt12⟩) hHeld ?restQbt12
        case hyQbt12 => (intro w hSw; (try dsimp only at hSw); go_simp; (try with_reducible rfl))
        try simp only [Act.put, List.setIfInBounds_toArray, List.set_cons_zero, List.set_cons_succ]
        refine takeH (i := 13) (some 8) (v := ?_) rfl rfl (by kernel_rfl) (by kernel_rfl) (by kernel_rfl) (fun _ _ _ h => h) (Or.inl ⟨by rfl, ?hyQbt13⟩) hHeld ?restQbt13
        case hyQbt13 => (intro w hSw; (try dsimp only at hSw); go_simp; (try with_reducible rfl))
        try simp only [Act.put, List.setIfInBounds_toArray, List.set_cons_zero, List.set_cons_succ]
        refine wpAnyH_done (by kernel_rfl) ?_ _
        have hww : IntKind.i64.wrap (n + 1) = n + 1 := IntWalk.i64_in _ (by omega)
        have HWW := Lib.hid hww
        clear hww
        go_wp2
        obtain ⟨hP, hFar, hBB⟩ := HEND.out (.slice (some ⟨g, o', none⟩) (N + 1) cg) (.int .i64 (IntKind.i64.wrap (n + 1)))
        have e0 : ((w9.setCell ⟨RB, 0, none⟩ (.slice (some ⟨g, o', none⟩) (N + 1) cg)).setCell ⟨RB, 1, none⟩ (.int .i64 (IntKind.i64.wrap (n + 1)))).cell? ⟨RB, 0, none⟩ = some (.slice (some ⟨g, o', none⟩) (N + 1) cg) := by go_simp
        have e1 : ((w9.setCell ⟨RB, 0, none⟩ (.slice (some ⟨g, o', none⟩) (N + 1) cg)).setCell ⟨RB, 1, none⟩ (.int .i64 (IntKind.i64.wrap (n + 1)))).cell? ⟨RB, 1, none⟩ = some (.int .i64 (IntKind.i64.wrap (n + 1))) := by go_simp
        refine bodyPost_ret (results_cell2 rfl _ _ (by rfl) (pool_load e0 e1)) rfl ⟨.agg #[.slice (some ⟨g, o', none⟩) (N + 1) cg, .int .i64 (IntKind.i64.wrap (n + 1))], ?_, ⟨some ⟨g, o', none⟩, cg, stayM l' ++ [⟨n, items, v3, d3, t⟩], ?_, hP, hFar, ?_⟩, hBB⟩
        · unfold pinC pinE; rw [if_pos HOK.out, if_pos HOK.out]; rfl
        · unfold pinR; rw [if_pos HOK.out, List.length_append, HN.out, HWW.out]; rfl
        · unfold pinR; rw [if_pos HOK.out, List.map_append, stayM_p, HMAP.out]; rfl
  · have hp : pinB wordB ⟨l.map SnM.p, n⟩ items t = false := h1
    have HP := Lib.hid hp
    rw [pinCh_n _ _ _ hp]
    obtain ⟨r0, r1, fr0, fr1⟩ := HR.out
    replace fr0 := (HBUY.out.frozen (blt r0)).trans fr0
    replace fr1 := (HBUY.out.frozen (blt r1)).trans fr1
    replace r0 := (HBUY.out.cell (blt r0)).trans r0
    replace r1 := (HBUY.out.cell (blt r1)).trans r1
    clear HTT h1 hp HFI HAI HIN HFR HCL HR HBUY q0 q1
    go_wp2_with fail
    refine (HNO.out _ _ (HE.out.onB HBY.out)).mono ?_
    rintro e w9 ⟨rfl, hb⟩
    replace fr0 := (hb.frozen (blt r0)).trans fr0
    replace fr1 := (hb.frozen (blt r1)).trans fr1
    replace r0 := (hb.cell (blt r0)).trans r0
    replace r1 := (hb.cell (blt r1)).trans r1
    have HB9 := Lib.hid (btr HBY.out hb)
    clear hb HNO
    go_wp2
    have e0 : ((w9.setCell ⟨RB, 0, none⟩ (.slice none 0 0)).setCell ⟨RB, 1, none⟩ (.int .i64 0)).cell? ⟨RB, 0, none⟩ = some (.slice none 0 0) := by go_simp
    have e1 : ((w9.setCell ⟨RB, 0, none⟩ (.slice none 0 0)).setCell ⟨RB, 1, none⟩ (.int .i64 0)).cell? ⟨RB, 1, none⟩ = some (.int .i64 0) := by go_simp
    refine bodyPost_ret (results_cell2 rfl _ _ (by rfl) (pool_load e0 e1)) rfl ⟨.agg #[.slice none 0 0, .int .i64 0], ?_, ?_, (HB9.out.setCell (p := ⟨RB, 0, none⟩) HRW.out _).setCell (p := ⟨RB, 1, none⟩) HRW.out _⟩
    · unfold pinC pinE; rw [HP.out]; rfl
    · unfold pinR; rw [HP.out]; exact pool_nil _ _
end Go.Proofs.YtgceecfjammnaaaDoor.L16
