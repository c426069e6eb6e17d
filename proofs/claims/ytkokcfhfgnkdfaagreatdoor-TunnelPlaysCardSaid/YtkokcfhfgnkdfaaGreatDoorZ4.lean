/- Ta, Tb, Held -/
import Derived.Test.YtkokcfhfgnkdfaaGreatDoorZ0
import Derived.Test.YtkokcfhfgnkdfaaGreatDoorZ1
import Derived.Test.YtkokcfhfgnkdfaaGreatDoorZ2
import Derived.Test.YtkokcfhfgnkdfaaGreatDoorZ3
import Derived.Deep.OwnRows
set_option linter.unusedVariables false
set_option linter.unusedSimpArgs false
/- A way in memory; grant, feed, drain, empty. -/
namespace Go.Proofs.YtkokcfhfgnkdfaaGreatDoor.L17
open Go.RowKit
open L1 (Qs Off)
/-- A way's struct in block X. -/
structure StA (w : World) (X F G : Nat) (fd mv dr : Nat) (g s : Int) : Prop where
  c0 : w.cell? ⟨X, 0, none⟩ = some (.int .i64 (fd : Nat))
  c1 : w.cell? ⟨X, 1, none⟩ = some (.int .i64 (mv : Nat))
  c2 : w.cell? ⟨X, 2, none⟩ = some (.int .i64 (dr : Nat))
  c3 : w.cell? ⟨X, 3, none⟩ = some (.pointer (some ⟨F, 0, none⟩))
  c4 : w.cell? ⟨X, 4, none⟩ = some (.pointer (some ⟨G, 0, none⟩))
  c5 : w.cell? ⟨X, 5, none⟩ = some (.int .i64 g)
  c6 : w.cell? ⟨X, 6, none⟩ = some (.int .i64 s)
  fr : ∀ j, j < 7 → w.frozen? ⟨X, j, none⟩ = false
theorem StA.same {w w' : World} {X F G fd mv dr : Nat} {g s : Int} (h : StA w X F G fd mv dr g s) (hX : w'.heap[X]? = w.heap[X]?) : StA w' X F G fd mv dr g s :=
  ⟨(World.cell?_of_block (w := w) hX).trans h.c0, (World.cell?_of_block (w := w) hX).trans h.c1, (World.cell?_of_block (w := w) hX).trans h.c2, (World.cell?_of_block (w := w) hX).trans h.c3, (World.cell?_of_block (w := w) hX).trans h.c4, (World.cell?_of_block (w := w) hX).trans h.c5, (World.cell?_of_block (w := w) hX).trans h.c6, fun j hj => (World.frozen?_of_block (w := w) hX).trans (h.fr j hj)⟩
theorem cell_oth (w : World) (X : Nat) (o p : Nat) (v : Value) (h : o ≠ p) : (w.setCell ⟨X, o, none⟩ v).cell? ⟨X, p, none⟩ = w.cell? ⟨X, p, none⟩ := World.cell?_setCell_other _ _ _ _ (fun e => h (congrArg Addr.off e))
theorem StA.set0 {w : World} {X F G fd mv dr : Nat} {g s : Int} (h : StA w X F G fd mv dr g s) (z : Nat) : StA (w.setCell ⟨X, 0, none⟩ (.int .i64 (z : Nat))) X F G z mv dr g s :=
  ⟨(World.cell?_setCell_same' _ _ _ (by rw [h.c0]; rfl)), (cell_oth _ _ _ _ _ (by decide)).trans h.c1, (cell_oth _ _ _ _ _ (by decide)).trans h.c2, (cell_oth _ _ _ _ _ (by decide)).trans h.c3, (cell_oth _ _ _ _ _ (by decide)).trans h.c4, (cell_oth _ _ _ _ _ (by decide)).trans h.c5, (cell_oth _ _ _ _ _ (by decide)).trans h.c6, fun j hj => (World.frozen?_setCell ..).trans (h.fr j hj)⟩
theorem StA.set1 {w : World} {X F G fd mv dr : Nat} {g s : Int} (h : StA w X F G fd mv dr g s) (z : Nat) : StA (w.setCell ⟨X, 1, none⟩ (.int .i64 (z : Nat))) X F G fd z dr g s :=
  ⟨(cell_oth _ _ _ _ _ (by decide)).trans h.c0, (World.cell?_setCell_same' _ _ _ (by rw [h.c1]; rfl)), (cell_oth _ _ _ _ _ (by decide)).trans h.c2, (cell_oth _ _ _ _ _ (by decide)).trans h.c3, (cell_oth _ _ _ _ _ (by decide)).trans h.c4, (cell_oth _ _ _ _ _ (by decide)).trans h.c5, (cell_oth _ _ _ _ _ (by decide)).trans h.c6, fun j hj => (World.frozen?_setCell ..).trans (h.fr j hj)⟩
theorem StA.set2 {w : World} {X F G fd mv dr : Nat} {g s : Int} (h : StA w X F G fd mv dr g s) (z : Nat) : StA (w.setCell ⟨X, 2, none⟩ (.int .i64 (z : Nat))) X F G fd mv z g s :=
  ⟨(cell_oth _ _ _ _ _ (by decide)).trans h.c0, (cell_oth _ _ _ _ _ (by decide)).trans h.c1, (World.cell?_setCell_same' _ _ _ (by rw [h.c2]; rfl)), (cell_oth _ _ _ _ _ (by decide)).trans h.c3, (cell_oth _ _ _ _ _ (by decide)).trans h.c4, (cell_oth _ _ _ _ _ (by decide)).trans h.c5, (cell_oth _ _ _ _ _ (by decide)).trans h.c6, fun j hj => (World.frozen?_setCell ..).trans (h.fr j hj)⟩
theorem StA.set5 {w : World} {X F G fd mv dr : Nat} {g s : Int} (h : StA w X F G fd mv dr g s) (z : Int) : StA (w.setCell ⟨X, 5, none⟩ (.int .i64 z)) X F G fd mv dr z s :=
  ⟨(cell_oth _ _ _ _ _ (by decide)).trans h.c0, (cell_oth _ _ _ _ _ (by decide)).trans h.c1, (cell_oth _ _ _ _ _ (by decide)).trans h.c2, (cell_oth _ _ _ _ _ (by decide)).trans h.c3, (cell_oth _ _ _ _ _ (by decide)).trans h.c4, (World.cell?_setCell_same' _ _ _ (by rw [h.c5]; rfl)), (cell_oth _ _ _ _ _ (by decide)).trans h.c6, fun j hj => (World.frozen?_setCell ..).trans (h.fr j hj)⟩
theorem StA.set6 {w : World} {X F G fd mv dr : Nat} {g s : Int} (h : StA w X F G fd mv dr g s) (z : Int) : StA (w.setCell ⟨X, 6, none⟩ (.int .i64 z)) X F G fd mv dr g z :=
  ⟨(cell_oth _ _ _ _ _ (by decide)).trans h.c0, (cell_oth _ _ _ _ _ (by decide)).trans h.c1, (cell_oth _ _ _ _ _ (by decide)).trans h.c2, (cell_oth _ _ _ _ _ (by decide)).trans h.c3, (cell_oth _ _ _ _ _ (by decide)).trans h.c4, (cell_oth _ _ _ _ _ (by decide)).trans h.c5, (World.cell?_setCell_same' _ _ _ (by rw [h.c6]; rfl)), fun j hj => (World.frozen?_setCell ..).trans (h.fr j hj)⟩

/-- A way: its struct in block X, its queues' in F, K and G, L. -/
structure WayQ (w : World) (X F K G L cap : Nat) (y : Wy) : Prop where
  st : StA w X F G y.fd y.mv y.dr y.g y.s
  qi : Qs w F K cap y.i
  qo : Qs w G L cap y.o
  xf : X ≠ F
  xk : X ≠ K
  xg : X ≠ G
  xl : X ≠ L
  fg : F ≠ G
  fl : F ≠ L
  kg : K ≠ G
  kl : K ≠ L
  ok : y.Ok cap
theorem WayQ.lt {w : World} {X F K G L cap : Nat} {y : Wy} (h : WayQ w X F K G L cap y) : X < w.heap.size := blt h.st.c0
theorem WayQ.to {w w' : World} {X F K G L cap : Nat} {y y' : Wy} (h : WayQ w X F K G L cap y) (st : StA w' X F G y'.fd y'.mv y'.dr y'.g y'.s) (qi : Qs w' F K cap y'.i) (qo : Qs w' G L cap y'.o) (ok : y'.Ok cap) : WayQ w' X F K G L cap y' :=
  ⟨st, qi, qo, h.xf, h.xk, h.xg, h.xl, h.fg, h.fl, h.kg, h.kl, ok⟩
theorem WayQ.same {w w' : World} {X F K G L cap : Nat} {y : Wy} (h : WayQ w X F K G L cap y) (hX : w'.heap[X]? = w.heap[X]?) (hF : w'.heap[F]? = w.heap[F]?) (hK : w'.heap[K]? = w.heap[K]?) (hG : w'.heap[G]? = w.heap[G]?) (hL : w'.heap[L]? = w.heap[L]?) : WayQ w' X F K G L cap y :=
  h.to (h.st.same hX) (h.qi.same hF hK) (h.qo.same hG hL) h.ok
/-- The blocks of a stretch. -/
def Rin (lo hi i : Nat) : Prop := lo ≤ i ∧ i < hi
/-- A way whose blocks lie in a stretch. -/
def WayAt (w : World) (lo hi X cap : Nat) (y : Wy) : Prop := ∃ F K G L, WayQ w X F K G L cap y ∧ Rin lo hi X ∧ Rin lo hi F ∧ Rin lo hi K ∧ Rin lo hi G ∧ Rin lo hi L
theorem WayAt.goes {A B : World} {Pv : Nat → Prop} {lo hi X cap : Nat} {y : Wy} (h : WayAt A lo hi X cap y) (hg : Goes Pv A B) (hp : ∀ i, Rin lo hi i → ¬ Pv i) : WayAt B lo hi X cap y := by
  obtain ⟨F, K, G, L, q, rX, rF, rK, rG, rL⟩ := h
  exact ⟨F, K, G, L, q.same (hg.same X q.lt (hp _ rX)) (hg.same F q.qi.lt.1 (hp _ rF)) (hg.same K q.qi.lt.2 (hp _ rK)) (hg.same G q.qo.lt.1 (hp _ rG)) (hg.same L q.qo.lt.2 (hp _ rL)), rX, rF, rK, rG, rL⟩
theorem WayAt.below {A B : World} {lo hi X cap : Nat} {y : Wy} (h : WayAt A lo hi X cap y) (hb : Below A.heap.size A B) : WayAt B lo hi X cap y := h.goes (Goes.of_below (Pv := fun _ => False) hb) (fun _ _ k => k)
theorem WayAt.ok {A : World} {lo hi X cap : Nat} {y : Wy} (h : WayAt A lo hi X cap y) : y.Ok cap := by obtain ⟨_, _, _, _, q, _⟩ := h; exact q.ok
theorem WayAt.lt {A : World} {lo hi X cap : Nat} {y : Wy} (h : WayAt A lo hi X cap y) : X < A.heap.size := by obtain ⟨_, _, _, _, q, _⟩ := h; exact q.lt
theorem goes_off {lo hi F K : Nat} {A B : World} (h : Off F K A B) (hF : Rin lo hi F) (hK : Rin lo hi K) : Goes (Rin lo hi) A B :=
  ⟨h.os, h.tape, h.output, h.size, fun i hi h' => h.block i hi (fun e => h' (e ▸ hF)) (fun e => h' (e ▸ hK))⟩
theorem goes_set {Pv : Nat → Prop} (A : World) (b o : Nat) (v : Value) (h : Pv b) : Goes Pv A (A.setCell ⟨b, o, none⟩ v) :=
  ⟨rfl, rfl, rfl, by simp [World.setCell], fun i _ hp => Below.heap_setCell A ⟨b, o, none⟩ v i (fun e => hp (by rw [show i = b from e]; exact h))⟩
theorem heap_set (A : World) {b c : Nat} (o : Nat) (v : Value) (h : b ≠ c) : (A.setCell ⟨b, o, none⟩ v).heap[c]? = A.heap[c]? := Below.heap_setCell A ⟨b, o, none⟩ v c (fun e => h e.symm)

/-- A fault of a number, none for 0. -/
def ofV (e : Int) : Value := if e = 0 then .nilIface else .iface 103 (.agg #[.int .i64 e])
theorem ofV_two (e : Int) : (e = 0 ∧ ofV e = .nilIface) ∨ (e ≠ 0 ∧ ofV e = .iface 103 (.agg #[.int .i64 e])) := by
  by_cases h : e = 0
  · exact .inl ⟨h, by unfold ofV; rw [if_pos h]⟩
  · exact .inr ⟨h, by unfold ofV; rw [if_neg h]⟩
theorem of_v (e : Int) (w : World) : Calls Tryz.prog 53 #[.int .i64 e] w fun x w' => x = .returned (ofV e) ∧ w = w' := by
  rcases ofV_two e with ⟨h, hv⟩ | ⟨h, hv⟩
  · rw [hv, h]
    go_enter Tryz.func53, Tryz.ntmps53
    go_wp2
    go_ret
    exact ⟨rfl, rfl⟩
  · rw [hv]
    exact of_c w e (by simpa using h)

/-- What a credit answers, in the way's words. -/
theorem grant_same {cap : Nat} {y : Wy} (h : y.Ok cap) (n : Int) : L13.gE y.g y.s n = grantE y n ∧ (grantE y n = 0 → L13.gG y.g y.s n = y.g + n ∧ L13.gS y.g y.s n = y.s) := by
  have hr : L13.rightB y.g y.s = true := L13.right_of ⟨h.s0, h.sg, h.gm, h.gs⟩
  have e : L13.gE y.g y.s n = grantE y n := by
    unfold L13.gE grantE
    by_cases h0 : n < 0
    · rw [if_pos (.inr h0), if_pos h0]
    · rw [if_neg (by rw [hr]; simp; omega), if_neg h0]
      have hi : (65536 < n ∨ L13.rightB (y.g + n) y.s = false) ↔ (65536 < n ∨ 65536 < y.g + n - y.s ∨ 1000000000000 < y.g + n) := by
        have := L13.right_iff (y.g + n) y.s
        have h1 := h.s0; have h2 := h.sg
        constructor
        · rintro (a | a)
          · exact .inl a
          · right
            by_cases h3 : 65536 < y.g + n - y.s
            · exact .inl h3
            · by_cases h4 : 1000000000000 < y.g + n
              · exact .inr h4
              · rw [this.2 ⟨h1, by omega, by omega, by omega⟩] at a; exact absurd a (by decide)
        · rintro (a | a)
          · exact .inl a
          · right
            cases hb : L13.rightB (y.g + n) y.s with
            | false => rfl
            | true => obtain ⟨_, _, q1, q2⟩ := this.1 hb; omega
      by_cases hc : 65536 < n ∨ L13.rightB (y.g + n) y.s = false
      · rw [if_pos hc, if_pos (hi.1 hc)]
      · rw [if_neg hc, if_neg (fun k => hc (hi.2 k))]
  refine ⟨e, fun h0 => ?_⟩
  unfold L13.gG L13.gS
  rw [e, if_pos h0, if_pos h0]
  exact ⟨rfl, rfl⟩

set_option maxRecDepth 100000 in
set_option maxHeartbeats 2000000 in
theorem wgrant_c (lo hi X cap : Nat) (y : Wy) (n : Int) (w : World) (h : WayAt w lo hi X cap y) :
    Calls Tryz.prog 42 #[.pointer (some ⟨X, 0, none⟩), .int .i64 n] w fun x w' => x = .returned (ofV (grantE y n)) ∧ WayAt w' lo hi X cap (grantW y n) ∧ Goes (Rin lo hi) w w' := by
  obtain ⟨hE, hG⟩ := grant_same h.ok n
  have HA := Lib.hid h
  obtain ⟨F, K, G, L, q, rX, rF, rK, rG, rL⟩ := h
  have c5 := q.st.c5
  have c6 := q.st.c6
  have f5 := q.st.fr 5 (by decide)
  have f6 := q.st.fr 6 (by decide)
  have HGr := Lib.hid (fun W => L13.Grant_any y.g y.s n W)
  have HO := Lib.hid (fun W => of_v (grantE y n) W)
  have HQ := Lib.hid q
  have HR := Lib.hid (And.intro rX (And.intro rF (And.intro rK (And.intro rG rL))))
  have hok := grant_ok q.ok n
  have hXl := q.lt
  clear q rX rF rK rG rL
  rw [hE] at HGr
  by_cases h0 : grantE y n = 0
  · obtain ⟨e1, e2⟩ := hG h0
    rw [e1, e2, h0] at HGr
    have hw : grantW y n = { y with g := y.g + n } := by unfold grantW; rw [if_pos h0]
    rw [hw] at hok ⊢
    rw [h0] at HO ⊢
    have HS := Lib.hid hok
    clear h0 hw hE hG e1 e2 hok
    generalize y.g + n = g2 at *
    obtain ⟨gg, hgg⟩ : ∃ gg, y.g = gg := ⟨_, rfl⟩
    obtain ⟨ss, hss⟩ : ∃ ss, y.s = ss := ⟨_, rfl⟩
    have HH := Lib.hid (And.intro hgg hss)
    rw [hgg] at c5 HGr
    rw [hss] at c6 HGr
    clear hgg hss
    go_enter Tryz.func42, Tryz.ntmps42
    go_wp2_with (first
      | (go_at_call 72
         refine (HGr.out _).mono ?_
         rintro e w1 ⟨rfl, hb1⟩
         have d5 := (hb1.cell (p := ⟨X, 5, none⟩) hXl).trans c5
         have d6 := (hb1.cell (p := ⟨X, 6, none⟩) hXl).trans c6
         have g5 := (hb1.frozen (p := ⟨X, 5, none⟩) hXl).trans f5
         have g6 := (hb1.frozen (p := ⟨X, 6, none⟩) hXl).trans f6
         have hX1 := Nat.lt_of_lt_of_le hXl hb1.size
         have HB1 := Lib.hid hb1
         clear hb1 c5 c6 f5 f6)
      | (go_at_call 53; refine (HO.out _).mono ?_; rintro e w2 ⟨rfl, rfl⟩))
    go_ret
    obtain ⟨hgg, hss⟩ := HH.out
    obtain ⟨rX, rF, rK, rG, rL⟩ := HR.out
    have q := HQ.out
    have hb := HB1.out
    have hW := HA.out.below hb
    have q1 : WayQ w1 X F K G L cap y := q.same (hb.block X q.lt) (hb.block F q.qi.lt.1) (hb.block K q.qi.lt.2) (hb.block G q.qo.lt.1) (hb.block L q.qo.lt.2)
    refine ⟨rfl, ?_, ?_⟩
    · refine WayAt.below ⟨F, K, G, L, ?_, rX, rF, rK, rG, rL⟩ (below_alloc _ _)
      refine q1.to (y' := { y with g := g2 }) ?_ (q1.qi.same ((heap_set _ _ _ q.xf).trans (heap_set _ _ _ q.xf)) ((heap_set _ _ _ q.xk).trans (heap_set _ _ _ q.xk))) (q1.qo.same ((heap_set _ _ _ q.xg).trans (heap_set _ _ _ q.xg)) ((heap_set _ _ _ q.xl).trans (heap_set _ _ _ q.xl))) HS.out
      have := (q1.st.set5 g2).set6 ss
      rw [hss]; exact this
    · exact (Goes.of_below hb).trans ((goes_set _ _ _ _ rX).trans ((goes_set _ _ _ _ rX).trans (Goes.alloc _ _ _)))
  · have hw : grantW y n = y := by unfold grantW; rw [if_neg h0]
    rw [hw]
    obtain ⟨gg, hgg⟩ : ∃ gg, y.g = gg := ⟨_, rfl⟩
    obtain ⟨ss, hss⟩ : ∃ ss, y.s = ss := ⟨_, rfl⟩
    rw [hgg] at c5 HGr
    rw [hss] at c6 HGr
    generalize grantE y n = E at *
    have hE0 : (E == 0) = false := by simpa using h0
    have hE1 : (E != 0) = true := by simpa using h0
    generalize L13.gG gg ss n = g2 at *
    generalize L13.gS gg ss n = s2 at *
    clear hgg hss hw hok hG hE
    go_enter Tryz.func42, Tryz.ntmps42
    go_wp2_with (first
      | (go_at_call 72; refine (HGr.out _).mono ?_; rintro e w1 ⟨rfl, hb1⟩)
      | (go_at_call 53; refine (HO.out _).mono ?_; rintro e w2 ⟨rfl, rfl⟩))
    go_ret
    exact ⟨rfl, HA.out.below (bal hb1 _), (Goes.of_below (bal hb1 _))⟩
set_option maxRecDepth 100000 in
set_option maxHeartbeats 2000000 in
theorem wfeed_c (lo hi X cap : Nat) (y : Wy) (s : ByteArray) (hs : s.size ≤ 5000) (hf : y.fd ≤ 1000000000) (w : World) (h : WayAt w lo hi X cap y) :
    Calls Tryz.prog 54 #[.pointer (some ⟨X, 0, none⟩), .string s] w fun x w' => x = .returned (.int .i64 (feedN cap y s : Nat)) ∧ WayAt w' lo hi X cap (feedW cap y s) ∧ Goes (Rin lo hi) w w' := by
  obtain ⟨F, K, G, L, q, rX, rF, rK, rG, rL⟩ := h
  have c0 := q.st.c0
  have c3 := q.st.c3
  have f0 := q.st.fr 0 (by decide)
  have HP := Lib.hid (fun W hq => L1.push_any F K cap y.i s hs W hq)
  have hn : L1.fits cap y.i.length s.size = feedN cap y s := rfl
  rw [hn] at HP
  have hfn : feedN cap y s ≤ 5000 := by unfold feedN; omega
  have HQ := Lib.hid q
  have HR := Lib.hid (And.intro rX (And.intro rF (And.intro rK (And.intro rG rL))))
  have hok := Lib.hid (feed_ok q.ok s)
  have hq := Lib.hid q.qi
  have hXl := q.lt
  have hxf := q.xf
  have hxk := q.xk
  clear q rX rF rK rG rL
  have HE := Lib.hid (show feedW cap y s = { y with i := y.i ++ s.data.toList.take (cap - y.i.length), fd := y.fd + feedN cap y s } from rfl)
  generalize feedN cap y s = m at *
  have hwr : IntKind.i64.wrap (((y.fd : Nat) : Int) + (m : Int)) = ((y.fd + m : Nat) : Int) := by rw [IntWalk.i64_in _ (by omega)]; omega
  obtain ⟨fd, hfd⟩ : ∃ fd, y.fd = fd := ⟨_, rfl⟩
  rw [hfd] at c0 hwr HE hf
  have HF := Lib.hid hfd
  clear hfd
  go_enter Tryz.func54, Tryz.ntmps54
  go_wp2_with (go_at_call 78
               refine (HP.out _ hq.out).mono ?_
               rintro e w1 ⟨rfl, hq1, ho1⟩
               have d0 := (ho1.cell hXl hxf hxk).trans c0
               have g0 := (ho1.frozen hXl hxf hxk).trans f0
               have HQ1 := Lib.hid hq1
               have HO1 := Lib.hid ho1
               clear hq1 ho1 c0 c3 f0)
  go_ret
  obtain ⟨rX, rF, rK, rG, rL⟩ := HR.out
  have q := HQ.out
  have ho := HO1.out
  have hfd := HF.out
  refine ⟨rfl, ⟨F, K, G, L, ?_, rX, rF, rK, rG, rL⟩, (goes_off ho rF rK).trans (goes_set _ _ _ _ rX)⟩
  have hst : StA w1 X F G fd y.mv y.dr y.g y.s := by rw [← hfd]; exact q.st.same (ho.block X q.lt q.xf q.xk)
  have hst2 := hst.set0 (fd + m)
  have hqo : Qs w1 G L cap y.o := q.qo.same (ho.block G q.qo.lt.1 q.fg.symm q.kg.symm) (ho.block L q.qo.lt.2 q.fl.symm q.kl.symm)
  have hok2 := hok.out
  rw [HE.out] at hok2 ⊢
  exact q.to (y' := { y with i := y.i ++ s.data.toList.take (cap - y.i.length), fd := fd + m }) hst2 (HQ1.out.same (heap_set _ _ _ q.xf) (heap_set _ _ _ q.xk)) (hqo.same (heap_set _ _ _ q.xg) (heap_set _ _ _ q.xl)) hok2

set_option maxRecDepth 100000 in
set_option maxHeartbeats 2000000 in
theorem wdrain_c (lo hi X cap : Nat) (y : Wy) (n : Int) (hf : y.dr ≤ 1000000000) (w : World) (h : WayAt w lo hi X cap y) (hc : cap ≤ 4096) :
    Calls Tryz.prog 50 #[.pointer (some ⟨X, 0, none⟩), .int .i64 n] w fun x w' => x = .returned (.string (L1.str (y.o.take n.toNat))) ∧ WayAt w' lo hi X cap (drainW y n) ∧ Goes (Rin lo hi) w w' := by
  obtain ⟨F, K, G, L, q, rX, rF, rK, rG, rL⟩ := h
  have c2 := q.st.c2
  have c4 := q.st.c4
  have f2 := q.st.fr 2 (by decide)
  have HP := Lib.hid (fun W hq => L1.pop_any G L cap y.o n W hq)
  have hsz : ((L1.str (y.o.take n.toNat)).size : Int) = ((y.o.take n.toNat).length : Nat) := by rw [L1.str_size]
  have hle : (y.o.take n.toNat).length ≤ 4096 := by rw [List.length_take]; have := q.ok.ol; omega
  have HQ := Lib.hid q
  have HR := Lib.hid (And.intro rX (And.intro rF (And.intro rK (And.intro rG rL))))
  have hok := Lib.hid (drain_ok q.ok n)
  have hq := Lib.hid q.qo
  have hXl := q.lt
  have hxg := q.xg
  have hxl := q.xl
  clear q rX rF rK rG rL
  have HE := Lib.hid (show drainW y n = { y with o := y.o.drop n.toNat, dr := y.dr + (y.o.take n.toNat).length } from rfl)
  generalize (y.o.take n.toNat).length = m at *
  have hwr : IntKind.i64.wrap (((y.dr : Nat) : Int) + (m : Int)) = ((y.dr + m : Nat) : Int) := by rw [IntWalk.i64_in _ (by omega)]; omega
  obtain ⟨dr, hdr⟩ : ∃ dr, y.dr = dr := ⟨_, rfl⟩
  rw [hdr] at c2 hwr HE hf
  have HF := Lib.hid hdr
  clear hdr
  generalize L1.str (y.o.take n.toNat) = T at *
  go_enter Tryz.func50, Tryz.ntmps50
  go_wp2_with (go_at_call 79
               refine (HP.out _ hq.out).mono ?_
               rintro e w1 ⟨rfl, hq1, ho1⟩
               have d0 := (ho1.cell hXl hxg hxl).trans c2
               have g0 := (ho1.frozen hXl hxg hxl).trans f2
               have HQ1 := Lib.hid hq1
               have HO1 := Lib.hid ho1
               clear hq1 ho1 c2 c4 f2)
  go_ret
  obtain ⟨rX, rF, rK, rG, rL⟩ := HR.out
  have q := HQ.out
  have ho := HO1.out
  have hdr := HF.out
  refine ⟨rfl, ⟨F, K, G, L, ?_, rX, rF, rK, rG, rL⟩, (goes_off ho rG rL).trans (goes_set _ _ _ _ rX)⟩
  have hst : StA w1 X F G y.fd y.mv dr y.g y.s := by rw [← hdr]; exact q.st.same (ho.block X q.lt q.xg q.xl)
  have hst2 := hst.set2 (dr + m)
  have hqi : Qs w1 F K cap y.i := q.qi.same (ho.block F q.qi.lt.1 q.fg q.fl) (ho.block K q.qi.lt.2 q.kg q.kl)
  have hok2 := hok.out
  rw [HE.out] at hok2 ⊢
  exact q.to (y' := { y with o := y.o.drop n.toNat, dr := dr + m }) hst2 (hqi.same (heap_set _ _ _ q.xf) (heap_set _ _ _ q.xk)) (HQ1.out.same (heap_set _ _ _ q.xg) (heap_set _ _ _ q.xl)) hok2

set_option maxRecDepth 100000 in
set_option maxHeartbeats 2000000 in
theorem wempty_c (lo hi X cap : Nat) (y : Wy) (w : World) (h : WayAt w lo hi X cap y) :
    Calls Tryz.prog 59 #[.pointer (some ⟨X, 0, none⟩)] w fun x w' => x = .returned (.int .i64 (y.i.length : Nat)) ∧ WayAt w' lo hi X cap (clearW y) ∧ Goes (Rin lo hi) w w' := by
  obtain ⟨F, K, G, L, q, rX, rF, rK, rG, rL⟩ := h
  have c3 := q.st.c3
  have HP := Lib.hid (fun W hq => L1.clear_any F K cap y.i W hq)
  have HQ := Lib.hid q
  have HR := Lib.hid (And.intro rX (And.intro rF (And.intro rK (And.intro rG rL))))
  have hok := Lib.hid (clear_ok q.ok)
  have hq := Lib.hid q.qi
  clear q rX rF rK rG rL
  generalize y.i.length = m at *
  go_enter Tryz.func59, Tryz.ntmps59
  go_wp2_with (go_at_call 89
               refine (HP.out _ hq.out).mono ?_
               rintro e w1 ⟨rfl, hq1, ho1⟩
               have HQ1 := Lib.hid hq1
               have HO1 := Lib.hid ho1
               clear hq1 ho1)
  go_ret
  obtain ⟨rX, rF, rK, rG, rL⟩ := HR.out
  have q := HQ.out
  have ho := HO1.out
  refine ⟨rfl, ⟨F, K, G, L, ?_, rX, rF, rK, rG, rL⟩, goes_off ho rF rK⟩
  exact q.to (y' := clearW y) (q.st.same (ho.block X q.lt q.xf q.xk)) HQ1.out (q.qo.same (ho.block G q.qo.lt.1 q.fg.symm q.kg.symm) (ho.block L q.qo.lt.2 q.fl.symm q.kl.symm)) hok.out
end Go.Proofs.YtkokcfhfgnkdfaaGreatDoor.L17

/- numbers: what two calls tell. -/
namespace Go.Proofs.YtkokcfhfgnkdfaaGreatDoor.L17
open Go.RowKit
open L1 (Qs Off)

theorem infoInt : (Tryz.prog.info? 3).map (fun i => (i.zero, i.size, i.bytes)) = some (some (.int .i64 0), 1, 8) := by kernel_rfl
theorem keep_alloc_fr {W : World} {b o : Nat} {v : Value} {f : Bool} (X : Obj) (h : W.cell? ⟨b, o, none⟩ = some v) (hf : W.frozen? ⟨b, o, none⟩ = f) : (W.alloc X).frozen? ⟨b, o, none⟩ = f :=
  (World.frozen?_of_block (w := W) (Below.heap_alloc W X b (blt h))).trans hf
theorem room_b (F K cap : Nat) (l : List UInt8) (w : World) (h : Qs w F K cap l) :
    Calls Tryz.prog 76 #[.pointer (some ⟨F, 0, none⟩)] w fun e w' => e = .returned (.int .i64 ((cap - l.length : Nat) : Int)) ∧ Below w.heap.size w w' ∧ w'.heap = w.heap :=
  (L1.room_any F K cap l w h).mono fun _ _ ⟨h1, n, h2⟩ => ⟨h1, by rw [h2]; exact below_drewN (Below.refl _ _) n, by rw [h2]; rfl⟩
theorem made3 (W : World) (j : Nat) (h : j < 3) : (W.alloc (.cells (madeCells #[.int .i64 0] 3) 3)).cell? ⟨W.heap.size, j, none⟩ = some (.int .i64 0) ∧ (W.alloc (.cells (madeCells #[.int .i64 0] 3) 3)).frozen? ⟨W.heap.size, j, none⟩ = false :=
  ⟨(World.rowIs_made W (.int .i64 0) 3 3).cell h, (World.rowIs_made W (.int .i64 0) 3 3).frozen j⟩

set_option maxRecDepth 100000 in
set_option maxHeartbeats 4000000 in
theorem numbers_c (b F K G L cap : Nat) (i o : List UInt8) (w : World) (h0 : w.cell? ⟨b, 0, none⟩ = some (.func (.func 75) #[.pointer (some ⟨F, 0, none⟩)] #[])) (h1 : w.cell? ⟨b, 1, none⟩ = some (.func (.func 76) #[.pointer (some ⟨G, 0, none⟩)] #[])) (hi : Qs w F K cap i) (ho : Qs w G L cap o) :
    Calls Tryz.prog 74 #[.slice (some ⟨b, 0, none⟩) 2 2] w fun x w' => ∃ B, x = .returned (.slice (some ⟨B, 0, none⟩) 2 3) ∧ w'.cell? ⟨B, 0, none⟩ = some (.int .i64 (i.length : Nat)) ∧ w'.cell? ⟨B, 1, none⟩ = some (.int .i64 ((cap - o.length : Nat) : Int)) ∧ w'.cell? ⟨B, 2, none⟩ = some (.int .i64 0) ∧ w'.frozen? ⟨B, 2, none⟩ = false ∧ w.heap.size ≤ B ∧ Below w.heap.size w w' := by
  obtain ⟨i0, hii, hzz⟩ := Option.map_eq_some_iff.1 infoInt
  simp only [Prod.mk.injEq] at hzz
  obtain ⟨hz0, hz2, hz1⟩ := hzz
  have hmk : ∀ W : World, (Instr.makeSlice 115 (.int .i64 0) (.int .i64 3)).run Tryz.prog W = .ok (.slice (some ⟨W.heap.size, 0, none⟩) 0 3) (W.alloc (.cells (madeCells #[.int .i64 0] 3) 3)) := fun W => by
    have := run_make (P := Tryz.prog) W 115 3 i0 (.int .i64 0) (by kernel_rfl) hii hz0 .i64 .i64 0 3 (by omega) (by omega) (by rw [hz1]; omega) (by omega)
    rw [hz2] at this
    exact this
  have HL := Lib.hid (fun W h => L1.len_any F K cap i W h)
  have HR := Lib.hid (fun W h => room_b G L cap o W h)
  have hb := blt h0
  generalize i.length = li at *
  generalize cap - o.length = lo at *
  obtain ⟨k0, q0⟩ := made3 w 0 (by decide)
  obtain ⟨k1, q1⟩ := made3 w 1 (by decide)
  obtain ⟨k2, q2⟩ := made3 w 2 (by decide)
  have B0 := Lib.hid (below_alloc w (.cells (madeCells #[.int .i64 0] 3) 3))
  have c1 := (below_alloc w (.cells (madeCells #[.int .i64 0] 3) 3)).cell (p := ⟨b, 1, none⟩) hb
  have c0 := (below_alloc w (.cells (madeCells #[.int .i64 0] 3) 3)).cell (p := ⟨b, 0, none⟩) hb
  rw [h0] at c0
  rw [h1] at c1
  have HI := Lib.hid (hi.alloc (.cells (madeCells #[.int .i64 0] 3) 3))
  have HO0 := Lib.hid ho
  have hsz : (w.alloc (.cells (madeCells #[.int .i64 0] 3) 3)).heap.size = w.heap.size + 1 := World.size_alloc _ _
  have HBL := Lib.hid hb
  clear hi ho h0 h1
  go_enter Tryz.func74, Tryz.ntmps74
  go_wp2_with fail
  generalize (w.alloc (.cells (madeCells #[.int .i64 0] 3) 3)) = W at *
  refine wp_loop_rounds 3 ?_
  rw [rounds_succ]
  go_wp2_with (first
    | (go_at_call 75; refine (HL.out _ HI.out).mono ?_; rintro e w1 ⟨rfl, rfl⟩))
  have hne : b ≠ w.heap.size := by omega
  have B1 : Below w.heap.size w ((W.setCell ⟨w.heap.size, 0, none⟩ (.int .i64 (li : Int))).alloc (.cells #[.int .i64 (li : Int)] 3)) := (B0.out.setCell (p := ⟨w.heap.size, 0, none⟩) (Nat.le_refl _) _).alloc (by simp [World.setCell]; omega) _
  have d1 := (keep_alloc (.cells #[.int .i64 (li : Int)] 3) ((set_other W (.int .i64 (li : Int)) (o := 1) (om := 0) hne).trans c1))
  have p0 := (keep_alloc (.cells #[.int .i64 (li : Int)] 3) (World.cell?_setCell_same' W ⟨w.heap.size, 0, none⟩ (.int .i64 (li : Int)) (by rw [k0]; rfl)))
  have p1 := (keep_alloc (.cells #[.int .i64 (li : Int)] 3) ((cell_oth W w.heap.size 0 1 (.int .i64 (li : Int)) (by decide)).trans k1))
  have p2 := (keep_alloc (.cells #[.int .i64 (li : Int)] 3) ((cell_oth W w.heap.size 0 2 (.int .i64 (li : Int)) (by decide)).trans k2))
  have r1 := keep_alloc_fr (.cells #[.int .i64 (li : Int)] 3) ((cell_oth W w.heap.size 0 1 (.int .i64 (li : Int)) (by decide)).trans k1) ((World.frozen?_setCell ..).trans q1)
  have r2 := keep_alloc_fr (.cells #[.int .i64 (li : Int)] 3) ((cell_oth W w.heap.size 0 2 (.int .i64 (li : Int)) (by decide)).trans k2) ((World.frozen?_setCell ..).trans q2)
  have HO1 : Qs ((W.setCell ⟨w.heap.size, 0, none⟩ (.int .i64 (li : Int))).alloc (.cells #[.int .i64 (li : Int)] 3)) G L cap o := by
    have h1 := HO0.out
    exact Qs.below h1 B1 h1.lt.1 h1.lt.2
  have HV := Lib.hid HO1
  have HB1 := Lib.hid B1
  clear k0 k1 k2 q0 q1 q2 c0 c1 HO1 B1
  generalize ((W.setCell ⟨w.heap.size, 0, none⟩ (.int .i64 (li : Int))).alloc (.cells #[.int .i64 (li : Int)] 3)) = V at *
  rw [rounds_succ]
  go_wp2_with (first
    | (go_at_call 76; refine (HR.out _ HV.out).mono ?_; rintro e w1 ⟨rfl, hb1, hh1⟩
       have d1' := (World.cell?_of_block (w := V) (w' := w1) (a := ⟨b, 1, none⟩) (by rw [hh1])).trans d1
       have p0' := (World.cell?_of_block (w := V) (w' := w1) (a := ⟨w.heap.size, 0, none⟩) (by rw [hh1])).trans p0
       have p1' := (World.cell?_of_block (w := V) (w' := w1) (a := ⟨w.heap.size, 1, none⟩) (by rw [hh1])).trans p1
       have p2' := (World.cell?_of_block (w := V) (w' := w1) (a := ⟨w.heap.size, 2, none⟩) (by rw [hh1])).trans p2
       have r1' := (World.frozen?_of_block (w := V) (w' := w1) (a := ⟨w.heap.size, 1, none⟩) (by rw [hh1])).trans r1
       have r2' := (World.frozen?_of_block (w := V) (w' := w1) (a := ⟨w.heap.size, 2, none⟩) (by rw [hh1])).trans r2
       have HB2 := Lib.hid (btr HB1.out hb1)
       have hlt := blt p0'
       have hne2 : ¬ w.heap.size = w1.heap.size := by omega
       clear hb1 hh1 d1 p0 p1 p2 r1 r2))
  rw [rounds_succ]
  go_wp2
  go_ret
  refine ⟨_, rfl, ?_, ?_, ?_, ?_, Nat.le_refl _, ?_⟩
  · exact keep_alloc _ ((cell_oth w1 w.heap.size 1 0 _ (by decide)).trans p0')
  · exact keep_alloc _ (World.cell?_setCell_same' _ _ _ (by rw [p1']; rfl))
  · exact keep_alloc _ ((cell_oth w1 w.heap.size 1 2 _ (by decide)).trans p2')
  · exact keep_alloc_fr _ ((cell_oth w1 w.heap.size 1 2 _ (by decide)).trans p2') ((World.frozen?_setCell ..).trans r2')
  · exact (HB2.out.setCell (p := ⟨w.heap.size, 1, none⟩) (Nat.le_refl _) _).alloc (by simp [World.setCell]; omega) _
end Go.Proofs.YtkokcfhfgnkdfaaGreatDoor.L17

/- A drawn region, an operation at a time (layer 3 has this in its text H). -/
namespace Go.Proofs.YtkokcfhfgnkdfaaGreatDoor
open Go.RowKit Go.Shelf
attribute [local go_sem] Oper.semAt_some

theorem takeH {P : Program} {ops : Array Oper} {Q : Exit → Act → World → Prop} {md : Region.Mode} {S : World → Prop} {i : Nat} {oi : Oper} (d : Option Tmp) {v : Value} {fuel : Nat} {listed : Array Bool} {a : Act} {w : World} (hi : ops[i]? = some oi) (hd : oi.dst = d)
    (hs : Region.noSelect ops = true) (hf : Region.free md ops listed i = true) (hr : (Region.ready md ops listed).contains i = true)
    (hQ : ∀ c a w, Q (.panic c) (a.put d v) w → Q (.panic c) a w) (hy : YieldsIf P ops S oi v a) (hS : S w)
    (h : wpAnyH P md ops Q S fuel (listed.setIfInBounds i true) (a.put d v) w) : wpAnyH P md ops Q S (fuel + 1) listed a w := by
  subst hd
  exact wpAnyH_take hi hs hf hr hQ hy hS h
theorem wpAnyH_narrow {P : Program} {ops : Array Oper} {Q : Exit → Act → World → Prop} {md : Region.Mode} {S S2 : World → Prop} (hs : ∀ w, S2 w → S w) : ∀ (fuel : Nat) (listed : Array Bool) (a : Act) (w : World), wpAnyH P md ops Q S2 fuel listed a w → wpAnyH P md ops Q S fuel listed a w
  | 0, _, _, _, h => h
  | fuel + 1, _, _, _, h => ⟨h.1, fun i hi => wpOp_mono (fun a' w' h' => ⟨hs _ h'.1, wpAnyH_narrow hs fuel _ a' w' h'.2⟩) (h.2 i hi)⟩
end Go.Proofs.YtkokcfhfgnkdfaaGreatDoor
