/- Tf, Fst, Tg, Th -/
import Derived.Test.YtkokcfhfgnkdfaaGreatDoorZ6
import Derived.Test.YtkokcfhfgnkdfaaGreatDoorZ0
import Derived.LoopTactic
import Derived.Test.YtkokcfhfgnkdfaaGreatDoorZ4
set_option linter.unusedVariables false
set_option linter.unusedSimpArgs false
/- A tunnel in memory; something done with a direction of it. -/
namespace Go.Proofs.YtkokcfhfgnkdfaaGreatDoor.L17
open Go.RowKit Go.Shelf
open L1 (Qs Off)
open L14 (isSt goes dest inB outB endB Laid)
attribute [local go_sem] Oper.semAt_some

/-- A tunnel: its struct in block T, its ways' in X0 and X1; all its blocks lie in the stretch from T to hi. -/
structure TunQ (w : World) (T X0 X1 m hi cap : Nat) (t : Tn) : Prop where
  c0 : w.cell? ⟨T, 0, none⟩ = some (.int .i64 t.st)
  c1 : w.cell? ⟨T, 1, none⟩ = some (.pointer (some ⟨X0, 0, none⟩))
  c2 : w.cell? ⟨T, 2, none⟩ = some (.pointer (some ⟨X1, 0, none⟩))
  f0 : w.frozen? ⟨T, 0, none⟩ = false
  a : WayAt w (T + 1) m X0 cap t.a
  b : WayAt w m hi X1 cap t.b
  lm : T + 1 ≤ m
  lh : m ≤ hi
  lz : hi ≤ w.heap.size
  lg : 0 < T
  st : isSt t.st = true
  lc : cap ≤ 4096
def TunAt (w : World) (T hi cap : Nat) (t : Tn) : Prop := ∃ X0 X1 m, TunQ w T X0 X1 m hi cap t
theorem TunQ.lt {w : World} {T X0 X1 m hi cap : Nat} {t : Tn} (h : TunQ w T X0 X1 m hi cap t) : T < w.heap.size := blt h.c0
theorem TunQ.ok {w : World} {T X0 X1 m hi cap : Nat} {t : Tn} (h : TunQ w T X0 X1 m hi cap t) : t.Ok cap := ⟨h.st, h.a.ok, h.b.ok⟩
theorem TunAt.ok {w : World} {T hi cap : Nat} {t : Tn} (h : TunAt w T hi cap t) : t.Ok cap := by obtain ⟨_, _, _, q⟩ := h; exact q.ok
theorem TunQ.goes {A B : World} {Pv : Nat → Prop} {T X0 X1 m hi cap : Nat} {t : Tn} (h : TunQ A T X0 X1 m hi cap t) (hg : Goes Pv A B) (hp : ∀ i, Rin T hi i → ¬ Pv i) : TunQ B T X0 X1 m hi cap t := by
  have hT : ¬ Pv T := hp T ⟨Nat.le_refl _, by have := h.lm; have := h.lh; omega⟩
  exact ⟨hg.cell h.c0 hT, hg.cell h.c1 hT, hg.cell h.c2 hT, (hg.frozen h.c0 hT).trans h.f0, h.a.goes hg (fun i hi => hp i ⟨by have := hi.1; omega, by have := hi.2; have := h.lh; omega⟩), h.b.goes hg (fun i hi => hp i ⟨by have := hi.1; have := h.lm; omega, hi.2⟩), h.lm, h.lh, Nat.le_trans h.lz hg.size, h.lg, h.st, h.lc⟩
theorem TunAt.goes {A B : World} {Pv : Nat → Prop} {T hi cap : Nat} {t : Tn} (h : TunAt A T hi cap t) (hg : Goes Pv A B) (hp : ∀ i, Rin T hi i → ¬ Pv i) : TunAt B T hi cap t := by
  obtain ⟨X0, X1, m, q⟩ := h; exact ⟨X0, X1, m, q.goes hg hp⟩
theorem TunQ.below {A B : World} {T X0 X1 m hi cap : Nat} {t : Tn} (h : TunQ A T X0 X1 m hi cap t) (hb : Below A.heap.size A B) : TunQ B T X0 X1 m hi cap t := h.goes (Goes.of_below (Pv := fun _ => False) hb) (fun _ _ k => k)
theorem TunAt.below {A B : World} {T hi cap : Nat} {t : Tn} (h : TunAt A T hi cap t) (hb : Below A.heap.size A B) : TunAt B T hi cap t := by
  obtain ⟨X0, X1, m, q⟩ := h; exact ⟨X0, X1, m, q.below hb⟩
theorem TunQ.way {w : World} {T X0 X1 m hi cap : Nat} {t : Tn} (h : TunQ w T X0 X1 m hi cap t) (k : Nat) (hk : k < 2) : WayAt w (pick (T + 1) m k) (pick m hi k) (pick X0 X1 k) cap (t.way (k : Int)) := by
  match k, hk with
  | 0, _ => exact h.a
  | 1, _ => exact h.b
theorem pick_in {T m hi k i : Nat} (lm : T + 1 ≤ m) (lh : m ≤ hi) (hk : k < 2) (h : Rin (pick (T + 1) m k) (pick m hi k) i) : T < i ∧ i < hi := by
  match k, hk, h with
  | 0, _, h => have h1 : T + 1 ≤ i := h.1; have h2 : i < m := h.2; omega
  | 1, _, h => have h1 : m ≤ i := h.1; have h2 : i < hi := h.2; omega
theorem TunQ.put {A B : World} {T X0 X1 m hi cap : Nat} {t : Tn} {y : Wy} {S : Nat → Prop} (h : TunQ A T X0 X1 m hi cap t) (k : Nat) (hk : k < 2) (hw : WayAt B (pick (T + 1) m k) (pick m hi k) (pick X0 X1 k) cap y)
    (hg : Goes (fun i => Rin (pick (T + 1) m k) (pick m hi k) i ∨ S i) A B) (hS : ∀ i, S i → ¬ Rin T hi i) : TunQ B T X0 X1 m hi cap (t.put (k : Int) y) := by
  have hT : ¬ (Rin (pick (T + 1) m k) (pick m hi k) T ∨ S T) := fun e => by
    rcases e with e | e
    · have := (pick_in h.lm h.lh hk e).1; omega
    · exact hS T e ⟨Nat.le_refl _, by have := h.lm; have := h.lh; omega⟩
  have c0 := hg.cell h.c0 hT
  have c1 := hg.cell h.c1 hT
  have c2 := hg.cell h.c2 hT
  have f0 := (hg.frozen h.c0 hT).trans h.f0
  match k, hk, hw, hg, hT with
  | 0, _, hw, hg, _ =>
    exact ⟨c0, c1, c2, f0, hw, h.b.goes hg (fun i hi e => by
      rcases e with e | e
      · have h1 : i < m := e.2; have h2 : m ≤ i := hi.1; omega
      · exact hS i e ⟨by have := h.lm; have := hi.1; omega, hi.2⟩), h.lm, h.lh, Nat.le_trans h.lz hg.size, h.lg, h.st, h.lc⟩
  | 1, _, hw, hg, _ =>
    exact ⟨c0, c1, c2, f0, h.a.goes hg (fun i hi e => by
      rcases e with e | e
      · have h1 : m ≤ i := e.1; have h2 : i < m := hi.2; omega
      · exact hS i e ⟨by have := hi.1; omega, by have := hi.2; have := h.lh; omega⟩), hw, h.lm, h.lh, Nat.le_trans h.lz hg.size, h.lg, h.st, h.lc⟩
theorem goes_then {P : Nat → Prop} {A B C : World} (h : Goes P A B) (k : Goes (fun i => A.heap.size ≤ i) B C) : Goes P A C :=
  ⟨k.os.trans h.os, k.tape.trans h.tape, k.output.trans h.output, Nat.le_trans h.size k.size, fun i hi hp => (k.same i (Nat.lt_of_lt_of_le hi h.size) (by omega)).trans (h.same i hi hp)⟩
/-- Something is done with a direction of a tunnel; S: what else it writes. -/
theorem on_t (T X0 X1 m hi cap : Nat) (t : Tn) (side : Int) (f : Nat) (cp : Array Value) (w : World) (q : TunQ w T X0 X1 m hi cap t) (S : Nat → Prop) (E : Int) (t' : Tn) (Ex : World → Prop)
    (hS : ∀ i, S i → i < w.heap.size ∧ ¬ Rin T hi i)
    (HC : ∀ k : Nat, k < 2 → side = (k : Int) → ∀ W, Below w.heap.size w W → TunQ W T X0 X1 m hi cap t → WayAt W (pick (T + 1) m k) (pick m hi k) (pick X0 X1 k) cap (t.way side) → Calls Tryz.prog f (#[.pointer (some ⟨pick X0 X1 k, 0, none⟩)] ++ cp) W fun x W' =>
      x = .returned (ofV E) ∧ (∃ y, t' = t.put side y ∧ WayAt W' (pick (T + 1) m k) (pick m hi k) (pick X0 X1 k) cap y) ∧ Ex W' ∧ Goes (fun i => Rin (pick (T + 1) m k) (pick m hi k) i ∨ S i) W W')
    (eg : ∀ args W, (callFunc f args).run Tryz.prog W = .ok (.enter f args) W)
    (hEx : ∀ A B, Ex A → Goes (fun i => w.heap.size ≤ i) A B → Ex B)
    (hno : side ≠ 0 → side ≠ 1 → E = 170 ∧ t' = t ∧ ∀ W, Below w.heap.size w W → Ex W) :
    Calls Tryz.prog 39 #[.pointer (some ⟨T, 0, none⟩), .int .i64 side, .func (.func f) #[] cp] w fun x w' => x = .returned (wV E) ∧ TunQ w' T X0 X1 m hi cap t' ∧ Ex w' ∧ Goes (fun i => Rin T hi i ∨ S i) w w' := by
  refine (on_c T X0 X1 side f cp (fun er W => er = E ∧ TunQ W T X0 X1 m hi cap t' ∧ Ex W ∧ Goes (fun i => Rin T hi i ∨ S i) w W) w q.c1 q.c2 ?_ eg ?_ ?_).mono ?_
  · intro k hk hs W hW
    have qW := q.below hW
    have hway := qW.way k hk
    rw [← hs] at hway
    refine (HC k hk hs W hW qW hway).mono ?_
    rintro x W' ⟨rfl, ⟨y, rfl, hy⟩, hx, hg⟩
    have hsub : ∀ i, (Rin (pick (T + 1) m k) (pick m hi k) i ∨ S i) → Rin T hi i ∨ S i := fun i h => h.imp (fun h => ⟨by have := (pick_in q.lm q.lh hk h).1; omega, (pick_in q.lm q.lh hk h).2⟩) id
    refine ⟨E, rfl, ⟨rfl, ?_, hx, (Goes.of_below hW).trans (hg.mono hsub)⟩, hg.mono fun i h => ?_⟩
    · rw [hs]; exact qW.put k hk hy hg (fun i h => (hS i h).2)
    · rcases hsub i h with h | h
      · have := h.2; have := q.lz; omega
      · exact (hS i h).1
  · rintro er A B ⟨rfl, hq, hx, hg⟩ hgo
    exact ⟨rfl, hq.goes hgo (fun i h => by have := h.2; have := q.lz; omega), hEx A B hx hgo, goes_then hg hgo⟩
  · intro W h0 h1 hW
    obtain ⟨rfl, rfl, hx⟩ := hno h0 h1
    exact ⟨rfl, q.below hW, hx W hW, Goes.of_below hW⟩
  · rintro x w' ⟨er, rfl, rfl, hq, hx, hg⟩
    exact ⟨rfl, hq, hx, hg⟩
theorem laid_on {T hi : Nat} {A B : World} (hL : Laid A) (hg : Goes (Rin T hi) A B) (hl : 0 < T) : Laid B := hg.cell hL (fun h => by have := h.1; omega)
theorem grant_te {t : Tn} {side n : Int} : (sideB side = true → grantTE t side n = grantE (t.way side) n ∧ grantT t side n = t.put side (grantW (t.way side) n)) ∧ (sideB side = false → grantTE t side n = 170 ∧ grantT t side n = t) := by
  unfold grantTE grantT
  refine ⟨fun h => ?_, fun h => ?_⟩
  · rw [if_pos h, if_pos h]; exact ⟨rfl, rfl⟩
  · rw [if_neg (by rw [h]; decide), if_neg (by rw [h]; decide)]; exact ⟨rfl, rfl⟩
theorem side_k {k : Nat} (hk : k < 2) {side : Int} (hs : side = (k : Int)) : sideB side = true := by subst hs; match k, hk with | 0, _ => rfl | 1, _ => rfl
theorem side_no {side : Int} (h0 : side ≠ 0) (h1 : side ≠ 1) : sideB side = false := by unfold sideB; simp [h0, h1]
set_option maxRecDepth 100000 in
set_option maxHeartbeats 4000000 in
theorem grant1_c (lo hi X cap : Nat) (y : Wy) (n : Int) (b : Nat) (w : World) (h : WayAt w lo hi X cap y) (hb : w.cell? ⟨b, 0, none⟩ = some (.int .i64 n)) :
    Calls Tryz.prog 41 #[.pointer (some ⟨X, 0, none⟩), .pointer (some ⟨b, 0, none⟩)] w fun x w' => x = .returned (ofV (grantE y n)) ∧ WayAt w' lo hi X cap (grantW y n) ∧ Goes (Rin lo hi) w w' := by
  have H := Lib.hid (wgrant_c lo hi X cap y n w h)
  clear h
  go_enter Tryz.func41, Tryz.ntmps41
  go_wp2_with (go_at_call 42; refine H.out.mono ?_; rintro e w1 ⟨rfl, hw, hg⟩)
  go_ret
  exact ⟨rfl, hw, hg⟩
theorem on_grant (T hi cap : Nat) (t : Tn) (side n : Int) (b : Nat) (w : World) (h : TunAt w T hi cap t) (hb : w.cell? ⟨b, 0, none⟩ = some (.int .i64 n)) :
    Calls Tryz.prog 39 #[.pointer (some ⟨T, 0, none⟩), .int .i64 side, .func (.func 41) #[] #[.pointer (some ⟨b, 0, none⟩)]] w fun x w' =>
      x = .returned (wV (grantTE t side n)) ∧ TunAt w' T hi cap (grantT t side n) ∧ Goes (Rin T hi) w w' := by
  obtain ⟨X0, X1, m, q⟩ := h
  obtain ⟨g1, g2⟩ := @grant_te t side n
  refine (on_t T X0 X1 m hi cap t side _ _ w q (fun _ => False) (grantTE t side n) (grantT t side n) (fun _ => True) (fun _ h => h.elim) ?_ (enters_of Tryz.func41 (by kernel_rfl) rfl) (fun _ _ _ _ => trivial) ?_).mono ?_
  · intro k hk hs W hW _ hway
    obtain ⟨e1, e2⟩ := g1 (side_k hk hs)
    rw [e1, e2]
    refine (grant1_c _ _ _ cap _ n b W hway ((hW.cell (blt hb)).trans hb)).mono ?_
    rintro x W' ⟨rfl, hw, hg⟩
    exact ⟨rfl, ⟨_, rfl, hw⟩, trivial, hg.mono (fun _ h => .inl h)⟩
  · intro h0 h1
    obtain ⟨e1, e2⟩ := g2 (side_no h0 h1)
    exact ⟨e1, e2, fun _ _ => trivial⟩
  · rintro x w' ⟨rfl, hq, -, hg⟩
    exact ⟨rfl, ⟨X0, X1, m, hq⟩, hg.mono (fun _ h => h.elim id False.elim)⟩
set_option maxRecDepth 100000 in
set_option maxHeartbeats 4000000 in
theorem tgrant_c (T hi cap : Nat) (t : Tn) (side n : Int) (w : World) (h : TunAt w T hi cap t) (hL : Laid w) :
    Calls Tryz.prog 22 #[.pointer (some ⟨T, 0, none⟩), .int .i64 side, .int .i64 n] w fun x w' => x = .returned (.int .i64 (grantTE t side n)) ∧ TunAt w' T hi cap (grantT t side n) ∧ Goes (Rin T hi) w w' := by
  have lg : 0 < T := by obtain ⟨_, _, _, q⟩ := h; exact q.lg
  have HON := Lib.hid (on_grant T hi cap t side n w.heap.size _ (h.below (below_alloc w (.cells #[.int .i64 n] 3))) (L1.alloc_cell w _ _))
  have HL := Lib.hid (hL.on (below_alloc w (.cells #[.int .i64 n] 3)))
  have HB := Lib.hid (below_alloc w (.cells #[.int .i64 n] 3))
  clear h hL
  obtain ⟨E, hE⟩ : ∃ E, grantTE t side n = E := ⟨_, rfl⟩
  rw [hE] at HON ⊢
  clear hE
  have HN := Lib.hid (fun W h => no_v E W h)
  generalize wV E = V at *
  go_enter Tryz.func22, Tryz.ntmps22
  go_wp2_with (first
    | (go_at_call 39; refine HON.out.mono ?_; rintro e w1 ⟨rfl, ht, hg⟩; have HT := Lib.hid ht; have HG := Lib.hid hg; have HL1 := Lib.hid (laid_on HL.out hg lg); clear ht hg)
    | (go_at_call 29; refine (HN.out _ HL1.out).mono ?_; rintro e w2 ⟨rfl, hb⟩))
  go_ret
  exact ⟨rfl, HT.out.below hb, ((Goes.of_below HB.out).trans HG.out).trans (Goes.of_below hb)⟩
end Go.Proofs.YtkokcfhfgnkdfaaGreatDoor.L17

/- fault.First over checks of any kind, by their contracts (layer 3 has it as its text S). -/
namespace Go.Proofs.YtkokcfhfgnkdfaaGreatDoor
open Go.RowKit Go.Shelf
attribute [local go_sem] Oper.semAt_some

/-- The first of k errors from the i-th on. -/
def firstE (er : Nat → Value) (i : Nat) : Nat → Value
  | 0 => .nilIface
  | k + 1 => match er i with
    | .nilIface => firstE er (i + 1) k
    | v => v
theorem firstE_nil {er : Nat → Value} {i k : Nat} (h : er i = .nilIface) : firstE er i (k + 1) = firstE er (i + 1) k := by simp [firstE, h]
theorem firstE_err {er : Nat → Value} {i k : Nat} {t : TypeId} {v : Value} (h : er i = .iface t v) : firstE er i (k + 1) = .iface t v := by simp [firstE, h]
set_option maxRecDepth 100000 in
set_option maxHeartbeats 4000000 in
theorem faultFirst_c (n : Nat) (hn : n ≤ 1000) (b : Nat) (f : Nat → Nat) (rc cp : Nat → Array Value) (er : Nat → Value) (w : World)
    (hc : ∀ i, i < n → w.cell? ⟨b, i, none⟩ = some (.func (.func (f i)) (rc i) (cp i)))
    (HC : ∀ i, i < n → (∀ j, j < i → er j = .nilIface) → ∀ W, Below w.heap.size w W → Calls Tryz.prog (f i) (rc i ++ cp i) W fun x w' => x = .returned (er i) ∧ Below W.heap.size W w')
    (eg : ∀ i, i < n → ∀ args W, (callFunc (f i) args).run Tryz.prog W = .ok (.enter (f i) args) W)
    (her : ∀ i, i < n → er i = .nilIface ∨ ∃ t v, er i = .iface t v) :
    Calls Tryz.prog 44 #[.slice (some ⟨b, 0, none⟩) n n] w fun x w' => x = .returned (firstE er 0 n) ∧ Below w.heap.size w w' := by
  have HCC := Lib.hid HC
  have HCL := Lib.hid hc
  have HER := Lib.hid her
  have EG := Lib.hid eg
  clear HC hc her eg
  go_enter Tryz.func44, Tryz.ntmps44
  go_wp2
  go_loopw [8] (fun i wr => ∃ k : Nat, k ≤ n ∧ i = .int .i64 k ∧ Hid (∀ j, j < k → er j = .nilIface) ∧ Hid (firstE er k (n - k) = firstE er 0 n) ∧ Hid (Below w.heap.size w wr)) (fun i _ => n - (intOf i).toNat)
  case atStart => exact ⟨0, Nat.zero_le _, rfl, Lib.hid (fun _ h => absurd h (by omega)), Lib.hid rfl, Lib.hid (Below.refl _ _)⟩
  case round =>
    obtain ⟨k, hk, rfl, hj, hf, hb⟩ := hrel
    by_cases hlt : k < n
    · have hlt' : (k : Int) < (n : Int) := by omega
      have hce := (hb.out.cell (p := ⟨b, k, none⟩) (blt (HCL.out k hlt))).trans (HCL.out k hlt)
      have ek := EG.out k hlt
      have HK := Lib.hid (HCC.out k hlt hj.out)
      rcases HER.out k hlt with he | ⟨t, v, he⟩
      · rw [he] at HK
        have hj2 := Lib.hid (show ∀ j, j < k + 1 → er j = .nilIface from fun j h => by rcases Nat.lt_succ_iff_lt_or_eq.1 h with h | rfl; exact hj.out j h; exact he)
        have hf2 := Lib.hid (show firstE er (k + 1) (n - (k + 1)) = firstE er 0 n by rw [← hf.out, show n - k = (n - (k + 1)) + 1 by omega, firstE_nil he])
        clear he
        go_wp2_with fail
        refine (HK.out _ hb.out).mono ?_; rintro e w1 ⟨rfl, hb1⟩
        have HB := Lib.hid (btr hb.out hb1)
        clear hb1 ek hce
        go_wp2
        go_roundw
        case rel => exact ⟨k + 1, by omega, by go_num, hj2, hf2, HB⟩
        case measure => simp [intOf]; omega
      · rw [he] at HK
        have hf2 : firstE er 0 n = .iface t v := by rw [← hf.out, show n - k = (n - (k + 1)) + 1 by omega, firstE_err he]
        clear he
        go_wp2_with fail
        refine (HK.out _ hb.out).mono ?_; rintro e w1 ⟨rfl, hb1⟩
        have HB := Lib.hid (btr hb.out hb1)
        clear hb1 ek hce
        go_wp2
        go_ret
        exact ⟨by first | rfl | (rw [hf2]; rfl), HB.out⟩
    · have hge : ¬ (k : Int) < (n : Int) := by omega
      have hf2 : firstE er 0 n = .nilIface := by rw [← hf.out, show n - k = 0 by omega]; rfl
      go_wp2
      go_ret
      exact ⟨by first | rfl | (rw [hf2]; rfl), hb.out⟩
end Go.Proofs.YtkokcfhfgnkdfaaGreatDoor

/- The tunnel's methods: Feed, Move, Drain, Counts. -/
namespace Go.Proofs.YtkokcfhfgnkdfaaGreatDoor.L17
open Go.RowKit Go.Shelf
open L1 (Qs Off)
open L14 (isSt goes dest inB outB endB Laid)
attribute [local go_sem] Oper.semAt_some

theorem isOpen_c (T : Nat) (t : Tn) (side : Int) (w : World) (h : w.cell? ⟨T, 0, none⟩ = some (.int .i64 t.st)) :
    Calls Tryz.prog 52 #[.pointer (some ⟨T, 0, none⟩), .int .i64 side] w fun x w' => x = .returned (.bool (openB t side)) ∧ w = w' := by
  have HI := Lib.hid (fun W => L14.in_c t.st W)
  have HO := Lib.hid (fun W => L14.out_c t.st W)
  by_cases h0 : side = 0
  · have e : openB t side = inB t.st := by unfold openB; rw [if_pos h0]
    rw [e]
    subst h0
    go_enter Tryz.func52, Tryz.ntmps52
    go_wp2_with (go_at_call 80; refine (HI.out _).mono ?_; rintro e w1 ⟨rfl, rfl⟩)
    go_ret
    exact ⟨rfl, rfl⟩
  · have e : openB t side = outB t.st := by unfold openB; rw [if_neg h0]
    rw [e]
    have h1 : (side == 0) = false := by simpa using h0
    go_enter Tryz.func52, Tryz.ntmps52
    go_wp2_with (go_at_call 81; refine (HO.out _).mono ?_; rintro e w1 ⟨rfl, rfl⟩)
    go_ret
    exact ⟨rfl, rfl⟩
theorem isOpen_q (T : Nat) (t : Tn) (side : Int) (o : Bool) (ho : openB t side = o) (w : World) (n : Nat) (h : w.cell? ⟨T, 0, none⟩ = some (.int .i64 t.st)) :
    Calls Tryz.prog 52 #[.pointer (some ⟨T, 0, none⟩), .int .i64 side] (w.drewN n) fun x w' => x = .returned (.bool o) ∧ ∃ m, w' = w.drewN m :=
  (isOpen_c T t side (w.drewN n) h).mono fun _ _ ⟨h1, h2⟩ => ⟨by rw [h1, ho], n, h2.symm⟩
set_option maxRecDepth 100000 in
set_option maxHeartbeats 4000000 in
theorem feed1_c (lo hi X cap T b3 b4 b5 b8 : Nat) (t : Tn) (y : Wy) (side : Int) (s : ByteArray) (hs : s.size ≤ 5000) (hf : y.fd ≤ 1000000000) (w : World) (h : WayAt w lo hi X cap y) (hT : w.cell? ⟨T, 0, none⟩ = some (.int .i64 t.st))
    (h3 : w.cell? ⟨b3, 0, none⟩ = some (.pointer (some ⟨T, 0, none⟩))) (h4 : w.cell? ⟨b4, 0, none⟩ = some (.int .i64 side)) (h5 : w.cell? ⟨b5, 0, none⟩ = some (.string s)) (h8 : w.cell? ⟨b8, 0, none⟩ = some (.int .i64 0)) (f8 : w.frozen? ⟨b8, 0, none⟩ = false) (hn : ¬ Rin lo hi b8) :
    Calls Tryz.prog 51 #[.pointer (some ⟨X, 0, none⟩), .pointer (some ⟨b3, 0, none⟩), .pointer (some ⟨b4, 0, none⟩), .pointer (some ⟨b5, 0, none⟩), .pointer (some ⟨b8, 0, none⟩)] w fun x w' =>
      x = .returned (ofV (if openB t side = true then 0 else 171)) ∧ WayAt w' lo hi X cap (if openB t side = true then feedW cap y s else y) ∧ w'.cell? ⟨b8, 0, none⟩ = some (.int .i64 ((if openB t side = true then feedN cap y s else 0 : Nat) : Int)) ∧ Goes (fun i => Rin lo hi i ∨ i = b8) w w' := by
  have HO := Lib.hid (fun W => of_c W 171 rfl)
  have HF := Lib.hid (fun W h => wfeed_c lo hi X cap y s hs hf W h)
  have HA := Lib.hid h
  have HT := Lib.hid hT
  clear h hT
  cases ho : openB t side with
  | false =>
    have HOO := Lib.hid ho
    simp only [Bool.false_eq_true, if_false]
    clear ho
    go_enter Tryz.func51, Tryz.ntmps51
    go_wp2_with fail
    go_quiet ((go_at_call 52; exact isOpen_q T t side _ HOO.out _ _ HT.out))
    go_wp2_with (go_at_call 53; refine (HO.out _).mono ?_; rintro e w1 ⟨rfl, rfl⟩)
    go_ret
    exact ⟨rfl, HA.out.below (below_drewN (Below.refl _ _) _), h8, Goes.of_below (below_drewN (Below.refl _ _) _)⟩
  | true =>
    have HOO := Lib.hid ho
    simp only [if_true]
    clear ho
    obtain ⟨N, hN⟩ : ∃ N, feedN cap y s = N := ⟨_, rfl⟩
    rw [hN] at HF ⊢
    have lb := blt h8
    go_enter Tryz.func51, Tryz.ntmps51
    go_wp2_with fail
    go_quiet ((go_at_call 52; exact isOpen_q T t side _ HOO.out _ _ HT.out))
    have HA2 := Lib.hid (HA.out.below (below_drewN (Below.refl _ w) nq))
    have HG2 := Lib.hid (Goes.of_below (Pv := fun i => Rin lo hi i ∨ i = b8) (below_drewN (Below.refl _ w) nq))
    have k8 : (w.drewN nq).cell? ⟨b8, 0, none⟩ = some (.int .i64 0) := h8
    have g8 : (w.drewN nq).frozen? ⟨b8, 0, none⟩ = false := f8
    have k5 : (w.drewN nq).cell? ⟨b5, 0, none⟩ = some (.string s) := h5
    clear h8 f8 h3 h4 h5 HA
    generalize w.drewN nq = V at *
    go_wp2_with (go_at_call 54
                 refine (HF.out _ HA2.out).mono ?_
                 rintro e w1 ⟨rfl, hw, hg⟩
                 replace g8 := (hg.frozen k8 hn).trans g8
                 replace k8 := hg.cell k8 hn
                 have HW := Lib.hid hw
                 have HG := Lib.hid hg
                 clear hw hg k5)
    go_ret
    refine ⟨rfl, HW.out.goes (goes_set (Pv := fun i => i = b8) _ _ _ _ rfl) (fun i h e => hn (e ▸ h)), World.cell?_setCell_same' _ _ _ (by rw [k8]; rfl), HG2.out.trans ((HG.out.mono (fun _ h => .inl h)).trans (goes_set _ _ _ _ (.inr rfl)))⟩

/-- Counts that are far from overflow. -/
def Tn.Sm (t : Tn) : Prop := ∀ d, (t.way d).fd ≤ 1000000000 ∧ (t.way d).mv ≤ 1000000000 ∧ (t.way d).dr ≤ 1000000000
theorem on_tfeed_c (T hi cap : Nat) (t : Tn) (side : Int) (s : ByteArray) (b3 b4 b5 b8 : Nat) (w : World) (h3 : w.cell? ⟨b3, 0, none⟩ = some (.pointer (some ⟨T, 0, none⟩))) (h4 : w.cell? ⟨b4, 0, none⟩ = some (.int .i64 side)) (h5 : w.cell? ⟨b5, 0, none⟩ = some (.string s)) (h8 : w.cell? ⟨b8, 0, none⟩ = some (.int .i64 0)) (f8 : w.frozen? ⟨b8, 0, none⟩ = false) (h : TunAt w T hi cap t) (hn : ¬ Rin T hi b8) (hs : s.size ≤ 5000) (hm : t.Sm) :
    Calls Tryz.prog 39 #[.pointer (some ⟨T, 0, none⟩), .int .i64 side, .func (.func 51) #[] #[.pointer (some ⟨b3, 0, none⟩), .pointer (some ⟨b4, 0, none⟩), .pointer (some ⟨b5, 0, none⟩), .pointer (some ⟨b8, 0, none⟩)]] w fun x w' =>
      x = .returned (wV (feedE t side)) ∧ TunAt w' T hi cap (feedT cap t side s) ∧ w'.cell? ⟨b8, 0, none⟩ = some (.int .i64 (feedTN cap t side s : Nat)) ∧ Goes (fun i => Rin T hi i ∨ i = b8) w w' := by
  obtain ⟨X0, X1, m, q⟩ := h
  refine (on_t T X0 X1 m hi cap t side _ _ w q (fun i => i = b8) (feedE t side) (feedT cap t side s) (fun W => W.cell? ⟨b8, 0, none⟩ = some (.int .i64 (feedTN cap t side s : Nat))) (fun i e => by rw [show i = b8 from e]; exact ⟨blt h8, hn⟩) ?_ (enters_of Tryz.func51 (by kernel_rfl) rfl) (fun A B hA hg => hg.cell hA (fun h => by have := blt h8; omega)) ?_).mono ?_
  · intro k hk hsd W hW qW hway
    have hsb := side_k hk hsd
    have e1 : feedE t side = (if openB t side = true then 0 else 171) := by unfold feedE; rw [if_pos hsb]
    refine (feed1_c _ _ _ cap T b3 b4 b5 b8 t _ side s hs (hm side).1 W hway qW.c0 ((hW.cell (blt h3)).trans h3) ((hW.cell (blt h4)).trans h4) ((hW.cell (blt h5)).trans h5) ((hW.cell (blt h8)).trans h8) ((hW.frozen (p := ⟨b8, 0, none⟩) (blt h8)).trans f8) (fun e => hn ⟨by have := (pick_in q.lm q.lh hk e).1; omega, (pick_in q.lm q.lh hk e).2⟩)).mono ?_
    rintro x W' ⟨rfl, hw, hx, hg⟩
    refine ⟨by rw [e1], ⟨_, ?_, hw⟩, ?_, hg⟩
    · unfold feedT; rw [e1]
      cases openB t side
      · unfold Tn.put Tn.way; simp only [Bool.false_eq_true, if_false]
        rcases side_cases hsb with h | h <;> rw [h] <;> rfl
      · simp only [if_true]
    · rw [hx]; unfold feedTN; rw [e1]
      cases openB t side <;> rfl
  · intro h0 h1
    have e0 := side_no h0 h1
    have e1 : feedE t side = 170 := by unfold feedE; rw [if_neg (by rw [e0]; decide)]
    refine ⟨e1, by unfold feedT; rw [e1]; rfl, fun W hW => ?_⟩
    unfold feedTN; rw [e1]
    exact (hW.cell (blt h8)).trans h8
  · rintro x w' ⟨rfl, hq, hx, hg⟩
    exact ⟨rfl, ⟨X0, X1, m, hq⟩, hx, hg⟩
set_option maxRecDepth 100000 in
set_option maxHeartbeats 4000000 in
theorem tfeed_c (T hi cap : Nat) (t : Tn) (side : Int) (s : ByteArray) (w : World) (hs : s.size ≤ 5000) (hm : t.Sm) (h : TunAt w T hi cap t) (hL : Laid w) :
    Calls Tryz.prog 25 #[.pointer (some ⟨T, 0, none⟩), .int .i64 side, .string s] w fun x w' => x = .returned (.tuple #[.int .i64 (feedTN cap t side s : Nat), .int .i64 (feedE t side)]) ∧ TunAt w' T hi cap (feedT cap t side s) ∧ Goes (Rin T hi) w w' := by
  have lg : 0 < T := by obtain ⟨_, _, _, q⟩ := h; exact q.lg
  have lz : hi ≤ w.heap.size := by obtain ⟨_, _, _, q⟩ := h; exact q.lz
  have hB : Below w.heap.size w ((((w.alloc (.cells #[.pointer (some ⟨T, 0, none⟩)] 25)).alloc (.cells #[.int .i64 side] 3)).alloc (.cells #[.string s] 9)).alloc (.cells #[.int .i64 0] 3)) := bal (bal (bal (below_alloc w _) _) _) _
  have x0 : ((((w.alloc (.cells #[.pointer (some ⟨T, 0, none⟩)] 25)).alloc (.cells #[.int .i64 side] 3)).alloc (.cells #[.string s] 9)).alloc (.cells #[.int .i64 0] 3)).cell? ⟨w.heap.size, 0, none⟩ = some (.pointer (some ⟨T, 0, none⟩)) := by go_simp
  have x1 : ((((w.alloc (.cells #[.pointer (some ⟨T, 0, none⟩)] 25)).alloc (.cells #[.int .i64 side] 3)).alloc (.cells #[.string s] 9)).alloc (.cells #[.int .i64 0] 3)).cell? ⟨(w.heap.size + 1), 0, none⟩ = some (.int .i64 side) := by go_simp
  have x2 : ((((w.alloc (.cells #[.pointer (some ⟨T, 0, none⟩)] 25)).alloc (.cells #[.int .i64 side] 3)).alloc (.cells #[.string s] 9)).alloc (.cells #[.int .i64 0] 3)).cell? ⟨(w.heap.size + 2), 0, none⟩ = some (.string s) := by go_simp
  have x3 : ((((w.alloc (.cells #[.pointer (some ⟨T, 0, none⟩)] 25)).alloc (.cells #[.int .i64 side] 3)).alloc (.cells #[.string s] 9)).alloc (.cells #[.int .i64 0] 3)).cell? ⟨(w.heap.size + 3), 0, none⟩ = some (.int .i64 0) := by go_simp
  have fz : ((((w.alloc (.cells #[.pointer (some ⟨T, 0, none⟩)] 25)).alloc (.cells #[.int .i64 side] 3)).alloc (.cells #[.string s] 9)).alloc (.cells #[.int .i64 0] 3)).frozen? ⟨(w.heap.size + 3), 0, none⟩ = false := by go_simp
  have HON := Lib.hid (on_tfeed_c T hi cap t side s w.heap.size (w.heap.size + 1) (w.heap.size + 2) (w.heap.size + 3) ((((w.alloc (.cells #[.pointer (some ⟨T, 0, none⟩)] 25)).alloc (.cells #[.int .i64 side] 3)).alloc (.cells #[.string s] 9)).alloc (.cells #[.int .i64 0] 3)) x0 x1 x2 x3 fz (h.below hB) (fun e => by have := e.2; omega) hs hm)
  have HL := Lib.hid (hL.on hB)
  have HB := Lib.hid hB
  clear h hL hB fz x0 x1 x2 x3
  obtain ⟨E, hE⟩ : ∃ E, feedE t side = E := ⟨_, rfl⟩
  obtain ⟨R, hR⟩ : ∃ R, (Value.int .i64 (feedTN cap t side s : Nat)) = R := ⟨_, rfl⟩
  rw [hE, hR] at HON
  rw [hE, hR]
  clear hE hR
  have HN := Lib.hid (fun W h => no_v E W h)
  generalize wV E = Z at *
  go_enter Tryz.func25, Tryz.ntmps25
  go_wp2_with (go_at_call 39; refine HON.out.mono ?_; rintro e w1 ⟨rfl, ht, hx, hg⟩; have HT := Lib.hid ht; have HG := Lib.hid hg; have HL1 : Hid (Laid w1) := Lib.hid (hg.cell HL.out (fun h => h.elim (fun h => by have := h.1; omega) (fun (h : _ = _) => by omega))); clear ht hg)
  rename_i K hK
  have u0 : Below w1.heap.size w1 w1 := Below.refl _ w1
  have MK := Lib.hid (show ∀ w', Below w1.heap.size w1 w' → w'.cell? ⟨(w.heap.size + 3), 0, none⟩ = some (R) ∧ Below w1.heap.size w1 w' from fun w' h => ⟨(h.cell (blt hx)).trans hx, h⟩)
  refine wp_region_held_drew (S := (fun w' => w'.cell? ⟨(w.heap.size + 3), 0, none⟩ = some (R) ∧ Below w1.heap.size w1 w')) (by kernel_rfl) ?_ (fun hHeld => ?_)
  · exact MK.out _ (below_drew u0)
  refine takeH (i := 0) (some 14) (v := ?_) rfl rfl (by kernel_rfl) (by kernel_rfl) (by kernel_rfl) (fun _ _ _ h => h) (Or.inl ⟨by rfl, ?hy0⟩) hHeld ?rest0
  case hy0 => (intro w hSw; (try dsimp only at hSw); go_simp; (try with_reducible rfl))
  try simp only [Act.put, List.setIfInBounds_toArray, List.set_cons_zero, List.set_cons_succ]
  refine takeH (i := 1) (some 15) (v := ?_) rfl rfl (by kernel_rfl) (by kernel_rfl) (by kernel_rfl) (fun _ _ _ h => h) (Or.inl ⟨by rfl, ?hy1⟩) hHeld ?rest1
  case hy1 => (intro w hSw; (try dsimp only at hSw); go_simp; (try with_reducible rfl))
  try simp only [Act.put, List.setIfInBounds_toArray, List.set_cons_zero, List.set_cons_succ]
  refine wpAnyH_ready (rs := [2]) (by kernel_rfl) (by simp) ?_
  refine AllReadyH.cons rfl (fun K2 hK2 => ?_) AllReadyH.nil
  go_simp
  with_reducible refine (HN.out _ (HL1.out.on hHeld.2)).mono ?_
  rintro e w2 ⟨rfl, hb2⟩
  refine hK2.out _ _ (MK.out _ (btr hHeld.2 hb2)) (fun hHeld => ?_)
  clear hK2 K2 hb2
  try simp only [Act.put, List.setIfInBounds_toArray, List.set_cons_zero, List.set_cons_succ]
  refine takeH (i := 3) (some 6) (v := ?_) rfl rfl (by kernel_rfl) (by kernel_rfl) (by kernel_rfl) (fun _ _ _ h => h) (Or.inl ⟨by rfl, ?hy3⟩) hHeld ?rest3
  case hy3 => (intro w hSw; (try dsimp only at hSw); go_simp; (try with_reducible rfl))
  try simp only [Act.put, List.setIfInBounds_toArray, List.set_cons_zero, List.set_cons_succ]
  refine takeH (i := 4) (some 7) (v := ?_) rfl rfl (by kernel_rfl) (by kernel_rfl) (by kernel_rfl) (fun _ _ _ h => h) (Or.inl ⟨by rfl, ?hy4⟩) hHeld ?rest4
  case hy4 => (intro w hSw; (try dsimp only at hSw); go_simp; (try with_reducible rfl))
  try simp only [Act.put, List.setIfInBounds_toArray, List.set_cons_zero, List.set_cons_succ]
  refine wpAnyH_done (by kernel_rfl) ?_ _
  refine hK _ _ ?_
  go_wp2
  go_ret2
  refine ⟨rfl, HT.out.below hHeld.2, ?_⟩
  have hg := (Goes.of_below (Pv := fun i => Rin T hi i ∨ w.heap.size ≤ i) HB.out).trans (HG.out.mono (fun i h => h.imp id (fun (h : _ = _) => by omega)))
  have hg2 := hg.trans (Goes.of_below hHeld.2)
  exact ⟨hg2.os, hg2.tape, hg2.output, hg2.size, fun i hi hp => hg2.same i hi (fun k => k.elim hp (fun k => by omega))⟩
end Go.Proofs.YtkokcfhfgnkdfaaGreatDoor.L17

/- The tunnel's methods: Drain, Move, Counts. -/
namespace Go.Proofs.YtkokcfhfgnkdfaaGreatDoor.L17
open Go.RowKit Go.Shelf
open L1 (Qs Off)
open L14 (isSt goes dest inB outB endB Laid)
attribute [local go_sem] Oper.semAt_some
set_option maxRecDepth 100000 in
set_option maxHeartbeats 4000000 in
theorem drain1_c (lo hi X cap b5 b8 : Nat) (y : Wy) (n : Int) (hf : y.dr ≤ 1000000000) (hc : cap ≤ 4096) (w : World) (h : WayAt w lo hi X cap y)
    (h5 : w.cell? ⟨b5, 0, none⟩ = some (.int .i64 n)) (h8 : w.cell? ⟨b8, 0, none⟩ = some (.string ⟨#[]⟩)) (f8 : w.frozen? ⟨b8, 0, none⟩ = false) (hn : ¬ Rin lo hi b8) :
    Calls Tryz.prog 49 #[.pointer (some ⟨X, 0, none⟩), .pointer (some ⟨b5, 0, none⟩), .pointer (some ⟨b8, 0, none⟩)] w fun x w' =>
      x = .returned (ofV 0) ∧ WayAt w' lo hi X cap (drainW y n) ∧ w'.cell? ⟨b8, 0, none⟩ = some (.string (L1.str (y.o.take n.toNat))) ∧ Goes (fun i => Rin lo hi i ∨ i = b8) w w' := by
  have HF := Lib.hid (wdrain_c lo hi X cap y n hf w h hc)
  clear h
  generalize L1.str (y.o.take n.toNat) = S at *
  go_enter Tryz.func49, Tryz.ntmps49
  go_wp2_with (go_at_call 50
               refine HF.out.mono ?_
               rintro e w1 ⟨rfl, hw, hg⟩
               have g8 := (hg.frozen h8 hn).trans f8
               have k8 := hg.cell h8 hn
               have HW := Lib.hid hw
               have HG := Lib.hid hg
               clear hw hg h5 h8 f8)
  go_ret
  exact ⟨rfl, HW.out.goes (goes_set (Pv := fun i => i = b8) _ _ _ _ rfl) (fun i h e => hn (e ▸ h)), World.cell?_setCell_same' _ _ _ (by rw [k8]; rfl), (HG.out.mono (fun _ h => .inl h)).trans (goes_set _ _ _ _ (.inr rfl))⟩
theorem on_tdrain_c (T hi cap : Nat) (t : Tn) (side n : Int) (b5 b8 : Nat) (w : World) (h5 : w.cell? ⟨b5, 0, none⟩ = some (.int .i64 n)) (h8 : w.cell? ⟨b8, 0, none⟩ = some (.string ⟨#[]⟩)) (f8 : w.frozen? ⟨b8, 0, none⟩ = false) (h : TunAt w T hi cap t) (hn : ¬ Rin T hi b8) (hm : t.Sm) :
    Calls Tryz.prog 39 #[.pointer (some ⟨T, 0, none⟩), .int .i64 side, .func (.func 49) #[] #[.pointer (some ⟨b5, 0, none⟩), .pointer (some ⟨b8, 0, none⟩)]] w fun x w' =>
      x = .returned (wV (drainE side)) ∧ TunAt w' T hi cap (drainT t side n) ∧ w'.cell? ⟨b8, 0, none⟩ = some (.string (L1.str (drainS t side n))) ∧ Goes (fun i => Rin T hi i ∨ i = b8) w w' := by
  obtain ⟨X0, X1, m, q⟩ := h
  refine (on_t T X0 X1 m hi cap t side _ _ w q (fun i => i = b8) (drainE side) (drainT t side n) (fun W => W.cell? ⟨b8, 0, none⟩ = some (.string (L1.str (drainS t side n)))) (fun i e => by rw [show i = b8 from e]; exact ⟨blt h8, hn⟩) ?_ (enters_of Tryz.func49 (by kernel_rfl) rfl) (fun A B hA hg => hg.cell hA (fun h => by have := blt h8; omega)) ?_).mono ?_
  · intro k hk hsd W hW qW hway
    have hsb := side_k hk hsd
    have e1 : drainE side = 0 := by unfold drainE; rw [if_pos hsb]
    refine (drain1_c _ _ _ cap b5 b8 _ n (hm side).2.2 q.lc W hway ((hW.cell (blt h5)).trans h5) ((hW.cell (blt h8)).trans h8) ((hW.frozen (p := ⟨b8, 0, none⟩) (blt h8)).trans f8) (fun e => hn ⟨by have := (pick_in q.lm q.lh hk e).1; omega, (pick_in q.lm q.lh hk e).2⟩)).mono ?_
    rintro x W' ⟨rfl, hw, hx, hg⟩
    refine ⟨by rw [e1], ⟨_, ?_, hw⟩, ?_, hg⟩
    · unfold drainT; rw [if_pos hsb]
    · rw [hx]; unfold drainS; rw [if_pos hsb]
  · intro h0 h1
    have e0 := side_no h0 h1
    have e1 : drainE side = 170 := by unfold drainE; rw [if_neg (by rw [e0]; decide)]
    refine ⟨e1, by unfold drainT; rw [if_neg (by rw [e0]; decide)], fun W hW => ?_⟩
    unfold drainS; rw [if_neg (by rw [e0]; decide)]
    exact (hW.cell (blt h8)).trans h8
  · rintro x w' ⟨rfl, hq, hx, hg⟩
    exact ⟨rfl, ⟨X0, X1, m, hq⟩, hx, hg⟩
set_option maxRecDepth 100000 in
set_option maxHeartbeats 4000000 in
theorem tdrain_c (T hi cap : Nat) (t : Tn) (side n : Int) (w : World) (hm : t.Sm) (h : TunAt w T hi cap t) (hL : Laid w) :
    Calls Tryz.prog 24 #[.pointer (some ⟨T, 0, none⟩), .int .i64 side, .int .i64 n] w fun x w' => x = .returned (.tuple #[.string (L1.str (drainS t side n)), .int .i64 (drainE side)]) ∧ TunAt w' T hi cap (drainT t side n) ∧ Goes (Rin T hi) w w' := by
  have lg : 0 < T := by obtain ⟨_, _, _, q⟩ := h; exact q.lg
  have lz : hi ≤ w.heap.size := by obtain ⟨_, _, _, q⟩ := h; exact q.lz
  have hB : Below w.heap.size w ((w.alloc (.cells #[.int .i64 n] 3)).alloc (.cells #[.string ⟨#[]⟩] 9)) := bal (below_alloc w _) _
  have x0 : ((w.alloc (.cells #[.int .i64 n] 3)).alloc (.cells #[.string ⟨#[]⟩] 9)).cell? ⟨w.heap.size, 0, none⟩ = some (.int .i64 n) := by go_simp
  have x1 : ((w.alloc (.cells #[.int .i64 n] 3)).alloc (.cells #[.string ⟨#[]⟩] 9)).cell? ⟨(w.heap.size + 1), 0, none⟩ = some (.string ⟨#[]⟩) := by go_simp
  have fz : ((w.alloc (.cells #[.int .i64 n] 3)).alloc (.cells #[.string ⟨#[]⟩] 9)).frozen? ⟨(w.heap.size + 1), 0, none⟩ = false := by go_simp
  have HON := Lib.hid (on_tdrain_c T hi cap t side n w.heap.size (w.heap.size + 1) ((w.alloc (.cells #[.int .i64 n] 3)).alloc (.cells #[.string ⟨#[]⟩] 9)) x0 x1 fz (h.below hB) (fun e => by have := e.2; omega) hm)
  have HL := Lib.hid (hL.on hB)
  have HB := Lib.hid hB
  clear h hL hB fz x0 x1
  obtain ⟨E, hE⟩ : ∃ E, drainE side = E := ⟨_, rfl⟩
  obtain ⟨R, hR⟩ : ∃ R, (Value.string (L1.str (drainS t side n))) = R := ⟨_, rfl⟩
  rw [hE, hR] at HON
  rw [hE, hR]
  clear hE hR
  have HN := Lib.hid (fun W h => no_v E W h)
  generalize wV E = Z at *
  go_enter Tryz.func24, Tryz.ntmps24
  go_wp2_with (go_at_call 39; refine HON.out.mono ?_; rintro e w1 ⟨rfl, ht, hx, hg⟩; have HT := Lib.hid ht; have HG := Lib.hid hg; have HL1 : Hid (Laid w1) := Lib.hid (hg.cell HL.out (fun h => h.elim (fun h => by have := h.1; omega) (fun (h : _ = _) => by omega))); clear ht hg)
  rename_i K hK
  have u0 : Below w1.heap.size w1 w1 := Below.refl _ w1
  have MK := Lib.hid (show ∀ w', Below w1.heap.size w1 w' → w'.cell? ⟨(w.heap.size + 1), 0, none⟩ = some (R) ∧ Below w1.heap.size w1 w' from fun w' h => ⟨(h.cell (blt hx)).trans hx, h⟩)
  refine wp_region_held_drew (S := (fun w' => w'.cell? ⟨(w.heap.size + 1), 0, none⟩ = some (R) ∧ Below w1.heap.size w1 w')) (by kernel_rfl) ?_ (fun hHeld => ?_)
  · exact MK.out _ (below_drew u0)
  refine takeH (i := 0) (some 14) (v := ?_) rfl rfl (by kernel_rfl) (by kernel_rfl) (by kernel_rfl) (fun _ _ _ h => h) (Or.inl ⟨by rfl, ?hy0⟩) hHeld ?rest0
  case hy0 => (intro w hSw; (try dsimp only at hSw); go_simp; (try with_reducible rfl))
  try simp only [Act.put, List.setIfInBounds_toArray, List.set_cons_zero, List.set_cons_succ]
  refine takeH (i := 1) (some 15) (v := ?_) rfl rfl (by kernel_rfl) (by kernel_rfl) (by kernel_rfl) (fun _ _ _ h => h) (Or.inl ⟨by rfl, ?hy1⟩) hHeld ?rest1
  case hy1 => (intro w hSw; (try dsimp only at hSw); go_simp; (try with_reducible rfl))
  try simp only [Act.put, List.setIfInBounds_toArray, List.set_cons_zero, List.set_cons_succ]
  refine wpAnyH_ready (rs := [2]) (by kernel_rfl) (by simp) ?_
  refine AllReadyH.cons rfl (fun K2 hK2 => ?_) AllReadyH.nil
  go_simp
  with_reducible refine (HN.out _ (HL1.out.on hHeld.2)).mono ?_
  rintro e w2 ⟨rfl, hb2⟩
  refine hK2.out _ _ (MK.out _ (btr hHeld.2 hb2)) (fun hHeld => ?_)
  clear hK2 K2 hb2
  try simp only [Act.put, List.setIfInBounds_toArray, List.set_cons_zero, List.set_cons_succ]
  refine takeH (i := 3) (some 6) (v := ?_) rfl rfl (by kernel_rfl) (by kernel_rfl) (by kernel_rfl) (fun _ _ _ h => h) (Or.inl ⟨by rfl, ?hy3⟩) hHeld ?rest3
  case hy3 => (intro w hSw; (try dsimp only at hSw); go_simp; (try with_reducible rfl))
  try simp only [Act.put, List.setIfInBounds_toArray, List.set_cons_zero, List.set_cons_succ]
  refine takeH (i := 4) (some 7) (v := ?_) rfl rfl (by kernel_rfl) (by kernel_rfl) (by kernel_rfl) (fun _ _ _ h => h) (Or.inl ⟨by rfl, ?hy4⟩) hHeld ?rest4
  case hy4 => (intro w hSw; (try dsimp only at hSw); go_simp; (try with_reducible rfl))
  try simp only [Act.put, List.setIfInBounds_toArray, List.set_cons_zero, List.set_cons_succ]
  refine wpAnyH_done (by kernel_rfl) ?_ _
  refine hK _ _ ?_
  go_wp2
  go_ret2
  refine ⟨rfl, HT.out.below hHeld.2, ?_⟩
  have hg := (Goes.of_below (Pv := fun i => Rin T hi i ∨ w.heap.size ≤ i) HB.out).trans (HG.out.mono (fun i h => h.imp id (fun (h : _ = _) => by omega)))
  have hg2 := hg.trans (Goes.of_below hHeld.2)
  exact ⟨hg2.os, hg2.tape, hg2.output, hg2.size, fun i hi hp => hg2.same i hi (fun k => k.elim hp (fun k => by omega))⟩

def upB (s : Int) : Bool := decide (2 ≤ s ∧ s ≤ 5)
theorem mayMove_c (T : Nat) (s : Int) (w : World) (h : w.cell? ⟨T, 0, none⟩ = some (.int .i64 s)) :
    Calls Tryz.prog 45 #[.pointer (some ⟨T, 0, none⟩)] w fun x w' => x = .returned (errV (upB s) 171) ∧ Below w.heap.size w w' := by
  have HU := Lib.hid (fun W => unless_c W (upB s) 171)
  by_cases h1 : 2 ≤ s
  · by_cases h2 : s ≤ 5
    · have e : upB s = true := by unfold upB; rw [decide_eq_true_eq]; exact ⟨h1, h2⟩
      rw [e] at HU ⊢
      generalize errV true 171 = V at *
      go_enter Tryz.func45, Tryz.ntmps45
      go_wp2_with (go_at_call 47; refine (HU.out _).mono ?_; rintro e w1 ⟨rfl, rfl⟩)
      go_ret
      exact ⟨rfl, Below.refl _ _⟩
    · have e : upB s = false := by unfold upB; rw [decide_eq_false_iff_not]; omega
      rw [e] at HU ⊢
      generalize errV false 171 = V at *
      go_enter Tryz.func45, Tryz.ntmps45
      go_wp2_with (go_at_call 47; refine (HU.out _).mono ?_; rintro e w1 ⟨rfl, rfl⟩)
      go_ret
      exact ⟨rfl, Below.refl _ _⟩
  · have e : upB s = false := by unfold upB; rw [decide_eq_false_iff_not]; omega
    rw [e] at HU ⊢
    generalize errV false 171 = V at *
    go_enter Tryz.func45, Tryz.ntmps45
    go_wp2_with (go_at_call 47; refine (HU.out _).mono ?_; rintro e w1 ⟨rfl, rfl⟩)
    go_ret
    exact ⟨rfl, Below.refl _ _⟩
theorem move11_c (b : Nat) (n : Int) (w : World) (h : w.cell? ⟨b, 0, none⟩ = some (.int .i64 n)) :
    Calls Tryz.prog 46 #[.pointer (some ⟨b, 0, none⟩)] w fun x w' => x = .returned (errV (decide (0 ≤ n)) 2) ∧ Below w.heap.size w w' := by
  have HU := Lib.hid (fun W => unless_c W (decide (0 ≤ n)) 2)
  generalize hc : decide (0 ≤ n) = c at *
  cases c
  · have e : ¬ 0 ≤ n := by simpa using hc
    generalize errV false 2 = V at *
    clear hc
    go_enter Tryz.func46, Tryz.ntmps46
    go_wp2_with (go_at_call 47; refine (HU.out _).mono ?_; rintro e w1 ⟨rfl, rfl⟩)
    go_ret
    exact ⟨rfl, Below.refl _ _⟩
  · have e : 0 ≤ n := by simpa using hc
    generalize errV true 2 = V at *
    clear hc
    go_enter Tryz.func46, Tryz.ntmps46
    go_wp2_with (go_at_call 47; refine (HU.out _).mono ?_; rintro e w1 ⟨rfl, rfl⟩)
    go_ret
    exact ⟨rfl, Below.refl _ _⟩
def mvE (s n : Int) : Int := if 2 ≤ s ∧ s ≤ 5 then (if n < 0 then 2 else 0) else 171
theorem errV_two2 (b : Bool) (c : Int) : errV b c = .nilIface ∨ ∃ t v, errV b c = .iface t v := by
  cases b
  · exact .inr ⟨_, _, rfl⟩
  · exact .inl rfl
def mvF (i : Nat) : Nat := if i = 0 then 45 else 46
def mvR (T : Nat) (i : Nat) : Array Value := if i = 0 then #[.pointer (some ⟨T, 0, none⟩)] else #[]
def mvC (b : Nat) (i : Nat) : Array Value := if i = 0 then #[] else #[.pointer (some ⟨b, 0, none⟩)]
def mvV (s n : Int) (i : Nat) : Value := if i = 0 then errV (upB s) 171 else errV (decide (0 ≤ n)) 2
theorem mv_first (s n : Int) : firstE (mvV s n) 0 2 = ofV (mvE s n) := by
  unfold mvE
  by_cases h : 2 ≤ s ∧ s ≤ 5
  · have e : upB s = true := by unfold upB; rw [decide_eq_true_eq]; exact h
    rw [if_pos h, firstE_nil (show mvV s n 0 = .nilIface by unfold mvV; rw [if_pos rfl, e]; rfl)]
    by_cases h0 : n < 0
    · rw [if_pos h0, firstE_err (show mvV s n 1 = .iface 103 (.agg #[.int .i64 2]) by unfold mvV; rw [if_neg (by decide), decide_eq_false (by omega)]; rfl)]
      rfl
    · rw [if_neg h0, firstE_nil (show mvV s n 1 = .nilIface by unfold mvV; rw [if_neg (by decide), decide_eq_true (by omega)]; rfl)]
      rfl
  · have e : upB s = false := by unfold upB; rw [decide_eq_false_iff_not]; exact h
    rw [if_neg h, firstE_err (show mvV s n 0 = .iface 103 (.agg #[.int .i64 171]) by unfold mvV; rw [if_pos rfl, e]; rfl)]
    rfl
theorem first_mv (b T b5 : Nat) (s n : Int) (w : World) (h0 : w.cell? ⟨b, 0, none⟩ = some (.func (.func 45) #[.pointer (some ⟨T, 0, none⟩)] #[])) (h1 : w.cell? ⟨b, 1, none⟩ = some (.func (.func 46) #[] #[.pointer (some ⟨b5, 0, none⟩)])) (hT : w.cell? ⟨T, 0, none⟩ = some (.int .i64 s)) (h5 : w.cell? ⟨b5, 0, none⟩ = some (.int .i64 n)) :
    Calls Tryz.prog 44 #[.slice (some ⟨b, 0, none⟩) 2 2] w fun x w' => x = .returned (ofV (mvE s n)) ∧ Below w.heap.size w w' := by
  rw [← mv_first]
  refine faultFirst_c 2 (by decide) b mvF (mvR T) (mvC b5) (mvV s n) w ?_ ?_ ?_ ?_
  · intro i hi
    match i, hi with
    | 0, _ => exact h0
    | 1, _ => exact h1
  · intro i hi _ W hW
    match i, hi with
    | 0, _ => exact mayMove_c T s W ((hW.cell (blt hT)).trans hT)
    | 1, _ => exact move11_c b5 n W ((hW.cell (blt h5)).trans h5)
  · intro i hi args W
    match i, hi with
    | 0, _ => exact enters_of Tryz.func45 (by kernel_rfl) rfl args W
    | 1, _ => exact enters_of Tryz.func46 (by kernel_rfl) rfl args W
  · intro i hi
    match i, hi with
    | 0, _ => exact errV_two2 _ _
    | 1, _ => exact errV_two2 _ _
set_option maxRecDepth 100000 in
set_option maxHeartbeats 4000000 in
theorem move1_c (lo hi X cap T b3 b5 b8 : Nat) (y : Wy) (s n : Int) (hf : y.mv ≤ 1000000000) (hc : cap ≤ 4096) (w : World) (h : WayAt w lo hi X cap y) (hT : w.cell? ⟨T, 0, none⟩ = some (.int .i64 s))
    (h3 : w.cell? ⟨b3, 0, none⟩ = some (.pointer (some ⟨T, 0, none⟩))) (h5 : w.cell? ⟨b5, 0, none⟩ = some (.int .i64 n)) (h8 : w.cell? ⟨b8, 0, none⟩ = some (.int .i64 0)) (f8 : w.frozen? ⟨b8, 0, none⟩ = false) (hn : ¬ Rin lo hi b8) :
    Calls Tryz.prog 43 #[.pointer (some ⟨X, 0, none⟩), .pointer (some ⟨b3, 0, none⟩), .pointer (some ⟨b5, 0, none⟩), .pointer (some ⟨b8, 0, none⟩)] w fun x w' =>
      x = .returned (ofV (mvE s n)) ∧ WayAt w' lo hi X cap (if mvE s n = 0 then moveW cap y n else y) ∧ w'.cell? ⟨b8, 0, none⟩ = some (.int .i64 ((if mvE s n = 0 then moveN cap y n else 0 : Nat) : Int)) ∧ Goes (fun i => Rin lo hi i ∨ i = b8) w w' := by
  have l3 := blt h3
  have l5 := blt h5
  have l8 := blt h8
  have lT := blt hT
  have HA := Lib.hid h
  have HT := Lib.hid hT
  clear h hT
  rcases ofV_two (mvE s n) with ⟨he, hv⟩ | ⟨he, hv⟩
  · have hn0 : 0 ≤ n := by
      unfold mvE at he
      split at he
      · split at he
        · exact absurd he (by decide)
        · omega
      · exact absurd he (by decide)
    rw [if_pos he, if_pos he]
    rw [he]
    have HFi := Lib.hid (fun b W a1 a2 a3 a4 => first_mv b T b5 s n W a1 a2 a3 a4)
    rw [he] at HFi
    rw [he] at hv
    have hvv : ofV 0 = .nilIface := hv
    rw [hvv] at HFi ⊢
    clear he hv hvv
    have HF := Lib.hid (fun W h => wmove_c lo hi X cap y n hn0 hf W h hc)
    obtain ⟨N, hN⟩ : ∃ N, moveN cap y n = N := ⟨_, rfl⟩
    rw [hN] at HF ⊢
    go_enter Tryz.func43, Tryz.ntmps43
    go_wp2_with (first
      | (go_at_call 44
         have HB0 := Lib.hid (below_alloc w (.cells #[.func (.func 45) #[.pointer (some ⟨T, 0, none⟩)] #[], .func (.func 46) #[] #[.pointer (some ⟨b5, 0, none⟩)]] 90))
         refine (HFi.out _ _ (by go_simp) (by go_simp) ((HB0.out.cell lT).trans HT.out) ((HB0.out.cell l5).trans h5)).mono ?_
         rintro e w1 ⟨rfl, hb1⟩
         have hb2 := btr HB0.out hb1
         have k8 := (hb2.cell l8).trans h8
         have k5 := (hb2.cell l5).trans h5
         have g8 := (hb2.frozen (p := ⟨b8, 0, none⟩) l8).trans f8
         have HA2 := Lib.hid (HA.out.below hb2)
         have HG2 := Lib.hid (Goes.of_below (Pv := fun i => Rin lo hi i ∨ i = b8) hb2)
         clear hb1 hb2 h8 f8 h3 h5)
      | (go_at_call 48
         refine (HF.out _ HA2.out).mono ?_
         rintro e w2 ⟨rfl, hw, hg⟩
         replace g8 := (hg.frozen k8 hn).trans g8
         replace k8 := hg.cell k8 hn
         have HW := Lib.hid hw
         have HG := Lib.hid hg
         clear hw hg k5))
    go_ret
    refine ⟨rfl, HW.out.goes (goes_set (Pv := fun i => i = b8) _ _ _ _ rfl) (fun i h e => hn (e ▸ h)), World.cell?_setCell_same' _ _ _ (by rw [k8]; rfl), HG2.out.trans ((HG.out.mono (fun _ h => .inl h)).trans (goes_set _ _ _ _ (.inr rfl)))⟩
  · rw [if_neg he, if_neg he]
    have HFi := Lib.hid (fun b W a1 a2 a3 a4 => first_mv b T b5 s n W a1 a2 a3 a4)
    rw [hv] at HFi ⊢
    clear hv
    generalize mvE s n = E at *
    go_enter Tryz.func43, Tryz.ntmps43
    go_wp2_with (first
      | (go_at_call 44
         have HB0 := Lib.hid (below_alloc w (.cells #[.func (.func 45) #[.pointer (some ⟨T, 0, none⟩)] #[], .func (.func 46) #[] #[.pointer (some ⟨b5, 0, none⟩)]] 90))
         refine (HFi.out _ _ (by go_simp) (by go_simp) ((HB0.out.cell lT).trans HT.out) ((HB0.out.cell l5).trans h5)).mono ?_
         rintro e w1 ⟨rfl, hb1⟩
         have HB2 := Lib.hid (btr HB0.out hb1)
         clear hb1))
    go_ret
    exact ⟨rfl, HA.out.below HB2.out, (HB2.out.cell l8).trans h8, Goes.of_below HB2.out⟩
end Go.Proofs.YtkokcfhfgnkdfaaGreatDoor.L17
