/- A reader of ports: its parts, its three ways. -/
import Derived.Test.YtlnjalhlbfbjcaaGreatDoorEC
namespace Go.Proofs.YtlnjalhlbfbjcaaGreatDoor
open Go.RowKit Go.Shelf
attribute [local go_sem] Oper.semAt_some

set_option maxRecDepth 100000 in
set_option maxHeartbeats 2000000 in
theorem from_c (b : Nat) (s : ByteArray) (hsz : s.size ≤ 1000) (A K : Int) (w : World) (hR : RdAt b s A K w) :
    Calls Tryz.prog 58 #[.pointer (some ⟨b, 0, none⟩)] w fun x w' =>
      (numP 65535 s.data.toList = none ∧ x = .returned (.bool false) ∧ w.grownBy w' (some b) ∧ ∃ s' A', RdAt b s' A' K w') ∨
      (∃ n L, numP 65535 s.data.toList = some (n, L) ∧ 0 ≤ n ∧ n ≤ 65535 ∧ x = .returned (.bool true) ∧ w.grownBy w' (some b) ∧ ∃ s', s'.data.toList = L ∧ s'.size ≤ 1000 ∧ RdAt b s' n K w') := by
  have HC := Lib.hid (fun W h => number_c b s hsz 65535 [.int .i64 A, .int .i64 K] (by omega) W h)
  go_enter Tryz.func58, Tryz.ntmps58
  go_wp2_with fail
  refine (HC.out _ hR).mono ?_
  rintro x w1 (⟨h, ⟨n, rfl⟩, ⟨s', hR'⟩, g⟩ | ⟨n, L, h, h0, h1, rfl, g, s', hs', hz', hR'⟩)
  · replace hR' : RdAt b s' A K w1 := hR'
    have c1 := hR'.c1
    have f1 := hR'.f1
    clear hR HC
    go_wp2
    go_ret
    exact .inl ⟨h, rfl, gr_set g (.inl rfl) _, s', n, hR'.set1 _⟩
  · replace hR' : RdAt b s' A K w1 := hR'
    have c1 := hR'.c1
    have f1 := hR'.f1
    clear hR HC
    go_wp2
    go_ret
    exact .inr ⟨n, L, h, h0, h1, rfl, gr_set g (.inl rfl) _, s', hs', hz', hR'.set1 _⟩

set_option maxRecDepth 100000 in
set_option maxHeartbeats 2000000 in
theorem to_c (b : Nat) (s : ByteArray) (hsz : s.size ≤ 1000) (A K : Int) (w : World) (hR : RdAt b s A K w) :
    Calls Tryz.prog 60 #[.pointer (some ⟨b, 0, none⟩)] w fun x w' =>
      (numP 65535 s.data.toList = none ∧ x = .returned (.bool false) ∧ w.grownBy w' (some b) ∧ ∃ s' A', RdAt b s' A A' w') ∨
      (∃ n L, numP 65535 s.data.toList = some (n, L) ∧ 0 ≤ n ∧ n ≤ 65535 ∧ x = .returned (.bool true) ∧ w.grownBy w' (some b) ∧ ∃ s', s'.data.toList = L ∧ s'.size ≤ 1000 ∧ RdAt b s' A n w') := by
  have HC := Lib.hid (fun W h => number_c b s hsz 65535 [.int .i64 A, .int .i64 K] (by omega) W h)
  go_enter Tryz.func60, Tryz.ntmps60
  go_wp2_with fail
  refine (HC.out _ hR).mono ?_
  rintro x w1 (⟨h, ⟨n, rfl⟩, ⟨s', hR'⟩, g⟩ | ⟨n, L, h, h0, h1, rfl, g, s', hs', hz', hR'⟩)
  · replace hR' : RdAt b s' A K w1 := hR'
    have c1 := hR'.c2
    have f1 := hR'.f2
    clear hR HC
    go_wp2
    go_ret
    exact .inl ⟨h, rfl, gr_set g (.inl rfl) _, s', n, hR'.set2 _⟩
  · replace hR' : RdAt b s' A K w1 := hR'
    have c1 := hR'.c2
    have f1 := hR'.f2
    clear hR HC
    go_wp2
    go_ret
    exact .inr ⟨n, L, h, h0, h1, rfl, gr_set g (.inl rfl) _, s', hs', hz', hR'.set2 _⟩

theorem star_c (b : Nat) (s : ByteArray) (hsz : s.size ≤ 1000) (A K : Int) (w : World) (hR : RdAt b s A K w) :
    Calls Tryz.prog 57 #[.pointer (some ⟨b, 0, none⟩)] w fun x w' =>
      (markP 42 s.data.toList = none ∧ x = .returned (.bool false) ∧ w.grownBy w' (some b) ∧ ∃ s', RdAt b s' A K w') ∨
      (∃ L, markP 42 s.data.toList = some L ∧ x = .returned (.bool true) ∧ w.grownBy w' (some b) ∧ ∃ s', s'.data.toList = L ∧ s'.size ≤ 1000 ∧ RdAt b s' A K w') := by
  have HC := Lib.hid (mark_c b s hsz [.int .i64 A, .int .i64 K] 42 w hR)
  go_enter Tryz.func57, Tryz.ntmps57
  go_wp2_with fail
  refine HC.out.mono ?_
  rintro x w1 (⟨h, rfl, g, hh⟩ | ⟨L, h, rfl, g, hh⟩)
  · go_wp2
    go_ret
    exact .inl ⟨h, rfl, g, hh⟩
  · go_wp2
    go_ret
    exact .inr ⟨L, h, rfl, g, hh⟩

theorem dash_c (b : Nat) (s : ByteArray) (hsz : s.size ≤ 1000) (A K : Int) (w : World) (hR : RdAt b s A K w) :
    Calls Tryz.prog 59 #[.pointer (some ⟨b, 0, none⟩)] w fun x w' =>
      (markP 45 s.data.toList = none ∧ x = .returned (.bool false) ∧ w.grownBy w' (some b) ∧ ∃ s', RdAt b s' A K w') ∨
      (∃ L, markP 45 s.data.toList = some L ∧ x = .returned (.bool true) ∧ w.grownBy w' (some b) ∧ ∃ s', s'.data.toList = L ∧ s'.size ≤ 1000 ∧ RdAt b s' A K w') := by
  have HC := Lib.hid (mark_c b s hsz [.int .i64 A, .int .i64 K] 45 w hR)
  go_enter Tryz.func59, Tryz.ntmps59
  go_wp2_with fail
  refine HC.out.mono ?_
  rintro x w1 (⟨h, rfl, g, hh⟩ | ⟨L, h, rfl, g, hh⟩)
  · go_wp2
    go_ret
    exact .inl ⟨h, rfl, g, hh⟩
  · go_wp2
    go_ret
    exact .inr ⟨L, h, rfl, g, hh⟩

set_option maxRecDepth 100000 in
set_option maxHeartbeats 2000000 in
theorem allStar_c (b c : Nat) (hne : c ≠ b) (s : ByteArray) (hsz : s.size ≤ 1000) (A K : Int) (w : World) (hR : RdAt b s A K w)
    (k0 : w.cell? ⟨c, 0, none⟩ = some (.func (.func 57) #[.pointer (some ⟨b, 0, none⟩)] #[])) (k1 : w.cell? ⟨c, 1, none⟩ = some (.func (.func 53) #[.pointer (some ⟨b, 0, none⟩)] #[])) :
    Calls Tryz.prog 51 #[.slice (some ⟨c, 0, none⟩) 2 2] w fun x w' =>
      (s.data.toList ≠ [42] ∧ x = .returned (.bool false) ∧ w.grownBy w' (some b) ∧ ∃ s', RdAt b s' A K w') ∨ (s.data.toList = [42] ∧ x = .returned (.bool true) ∧ w.grownBy w' (some b) ∧ ∃ s', RdAt b s' A K w') := by
  have KC := Lib.hid (fun W (g : w.grownBy W (some b)) i v (h : w.cell? ⟨c, i, none⟩ = some v) => cell_gr g hne h)
  go_enter Tryz.func51, Tryz.ntmps51
  go_wp2
  refine wp_loop_rounds 3 ?_
  rw [rounds_succ]
  go_wp2_with fail
  refine (star_c b s hsz A K w hR).mono ?_
  rintro x w1 (⟨h1, rfl, g1, s1, R1⟩ | ⟨L, h1, rfl, g1, s1, e1, z1, R1⟩)
  · have HN := Lib.hid (show s.data.toList ≠ [42] from fun e => by rw [e] at h1; simp [markP] at h1)
    clear h1
    go_wp2
    go_ret
    exact .inl ⟨HN.out, rfl, g1, s1, R1⟩
  · have q1 := KC.out w1 g1 _ _ k1
    have hE := end_c b s1 _ w1 R1
    rw [e1] at hE
    have hs : s.data.toList = 42 :: L := by
      cases hl : s.data.toList with
      | nil => rw [hl] at h1; simp [markP] at h1
      | cons y r =>
        rw [hl] at h1
        by_cases hy : y = 42
        · subst hy; simp [markP] at h1; rw [h1]
        · simp [markP, hy] at h1
    by_cases hL : L = []
    · rw [decide_eq_true hL] at hE
      have HE := Lib.hid hE
      have HN := Lib.hid (show s.data.toList = [42] by rw [hs, hL])
      clear hE hs h1 e1 hL
      go_wp2
      rw [rounds_succ]
      go_wp2_with (go_at_call 53; refine HE.out.mono ?_; rintro x w2 ⟨rfl, rfl⟩)
      rw [rounds_succ]
      go_wp2
      go_ret
      exact .inr ⟨HN.out, rfl, g1, s1, R1⟩
    · rw [decide_eq_false hL] at hE
      have HE := Lib.hid hE
      have HN := Lib.hid (show s.data.toList ≠ [42] by rw [hs]; simp [hL])
      clear hE hs h1 e1 hL
      go_wp2
      rw [rounds_succ]
      go_wp2_with (go_at_call 53; refine HE.out.mono ?_; rintro x w2 ⟨rfl, rfl⟩)
      go_ret
      exact .inl ⟨HN.out, rfl, g1, s1, R1⟩

set_option maxRecDepth 100000 in
set_option maxHeartbeats 2000000 in
theorem allFrom_c (b c : Nat) (hne : c ≠ b) (s : ByteArray) (hsz : s.size ≤ 1000) (A K : Int) (w : World) (hR : RdAt b s A K w)
    (k0 : w.cell? ⟨c, 0, none⟩ = some (.func (.func 58) #[.pointer (some ⟨b, 0, none⟩)] #[])) (k1 : w.cell? ⟨c, 1, none⟩ = some (.func (.func 53) #[.pointer (some ⟨b, 0, none⟩)] #[])) :
    Calls Tryz.prog 51 #[.slice (some ⟨c, 0, none⟩) 2 2] w fun x w' =>
      (snP 65535 s.data.toList = none ∧ x = .returned (.bool false) ∧ w.grownBy w' (some b) ∧ ∃ s' A', RdAt b s' A' K w') ∨ (∃ n, snP 65535 s.data.toList = some n ∧ x = .returned (.bool true) ∧ w.grownBy w' (some b) ∧ ∃ s', RdAt b s' n K w') := by
  have KC := Lib.hid (fun W (g : w.grownBy W (some b)) i v (h : w.cell? ⟨c, i, none⟩ = some v) => cell_gr g hne h)
  go_enter Tryz.func51, Tryz.ntmps51
  go_wp2
  refine wp_loop_rounds 3 ?_
  rw [rounds_succ]
  go_wp2_with fail
  refine (from_c b s hsz A K w hR).mono ?_
  rintro x w1 (⟨h1, rfl, g1, s1, A1, R1⟩ | ⟨n, L, h1, l1, u1, rfl, g1, s1, e1, z1, R1⟩)
  · have HN := Lib.hid (show snP 65535 s.data.toList = none by unfold snP; rw [h1]; rfl)
    clear h1
    go_wp2
    go_ret
    exact .inl ⟨HN.out, rfl, g1, s1, A1, R1⟩
  · have q1 := KC.out w1 g1 _ _ k1
    have hE := end_c b s1 _ w1 R1
    rw [e1] at hE
    by_cases hL : L = []
    · rw [decide_eq_true hL] at hE
      have HE := Lib.hid hE
      have HN := Lib.hid (show snP 65535 s.data.toList = some n by unfold snP; rw [h1, Option.bind_some, if_pos hL])
      clear hE h1 e1 hL
      go_wp2
      rw [rounds_succ]
      go_wp2_with (go_at_call 53; refine HE.out.mono ?_; rintro x w2 ⟨rfl, rfl⟩)
      rw [rounds_succ]
      go_wp2
      go_ret
      exact .inr ⟨n, HN.out, rfl, g1, s1, R1⟩
    · rw [decide_eq_false hL] at hE
      have HE := Lib.hid hE
      have HN := Lib.hid (show snP 65535 s.data.toList = none by unfold snP; rw [h1, Option.bind_some, if_neg hL])
      clear hE h1 e1 hL
      go_wp2
      rw [rounds_succ]
      go_wp2_with (go_at_call 53; refine HE.out.mono ?_; rintro x w2 ⟨rfl, rfl⟩)
      go_ret
      exact .inl ⟨HN.out, rfl, g1, s1, n, R1⟩

/-- Two numbers with a dash between them. -/
def dashP (L : List UInt8) : Option (Int × Int) :=
  (numP 65535 L).bind fun x1 => (markP 45 x1.2).bind fun L2 => (numP 65535 L2).bind fun x3 => if x3.2 = [] then some (x1.1, x3.1) else none
set_option maxRecDepth 100000 in
set_option maxHeartbeats 4000000 in
theorem allDash_c (b c : Nat) (hne : c ≠ b) (s : ByteArray) (hsz : s.size ≤ 1000) (A K : Int) (w : World) (hR : RdAt b s A K w)
    (k0 : w.cell? ⟨c, 0, none⟩ = some (.func (.func 58) #[.pointer (some ⟨b, 0, none⟩)] #[])) (k1 : w.cell? ⟨c, 1, none⟩ = some (.func (.func 59) #[.pointer (some ⟨b, 0, none⟩)] #[]))
    (k2 : w.cell? ⟨c, 2, none⟩ = some (.func (.func 60) #[.pointer (some ⟨b, 0, none⟩)] #[])) (k3 : w.cell? ⟨c, 3, none⟩ = some (.func (.func 53) #[.pointer (some ⟨b, 0, none⟩)] #[])) :
    Calls Tryz.prog 51 #[.slice (some ⟨c, 0, none⟩) 4 4] w fun x w' =>
      (dashP s.data.toList = none ∧ x = .returned (.bool false) ∧ w.grownBy w' (some b) ∧ ∃ s' A' K', RdAt b s' A' K' w') ∨
      (∃ f t, dashP s.data.toList = some (f, t) ∧ x = .returned (.bool true) ∧ w.grownBy w' (some b) ∧ ∃ s', RdAt b s' f t w') := by
  have KC := Lib.hid (fun W (g : w.grownBy W (some b)) i v (h : w.cell? ⟨c, i, none⟩ = some v) => cell_gr g hne h)
  go_enter Tryz.func51, Tryz.ntmps51
  go_wp2
  refine wp_loop_rounds 5 ?_
  rw [rounds_succ]
  go_wp2_with fail
  refine (from_c b s hsz A K w hR).mono ?_
  rintro x w1 (⟨h1, rfl, g1, s1, A1, R1⟩ | ⟨n1, L1, h1, l1, u1, rfl, g1, s1, e1, z1, R1⟩)
  · go_wp2
    go_ret
    exact .inl ⟨by simp only [dashP, h1, Option.bind_none], rfl, g1, s1, A1, K, R1⟩
  · have q11 := KC.out w1 g1 _ _ k1
    have q12 := KC.out w1 g1 _ _ k2
    have q13 := KC.out w1 g1 _ _ k3
    go_wp2
    rw [rounds_succ]
    go_wp2_with fail
    refine (dash_c b s1 z1 n1 K w1 R1).mono ?_
    rintro x w2 (⟨h2, rfl, g2, s2, R2⟩ | ⟨L2, h2, rfl, g2, s2, e2, z2, R2⟩)
    · rw [e1] at h2
      go_wp2
      go_ret
      exact .inl ⟨by simp only [dashP, h1, h2, Option.bind_some, Option.bind_none], rfl, g1.trans g2, s2, n1, K, R2⟩
    · rw [e1] at h2
      have G2 := g1.trans g2
      have q22 := KC.out w2 G2 _ _ k2
      have q23 := KC.out w2 G2 _ _ k3
      go_wp2
      rw [rounds_succ]
      go_wp2_with fail
      refine (to_c b s2 z2 n1 K w2 R2).mono ?_
      rintro x w3 (⟨h3, rfl, g3, s3, A3, R3⟩ | ⟨n3, L3, h3, l3, u3, rfl, g3, s3, e3, z3, R3⟩)
      · rw [e2] at h3
        go_wp2
        go_ret
        exact .inl ⟨by simp only [dashP, h1, h2, h3, Option.bind_some, Option.bind_none], rfl, G2.trans g3, s3, n1, A3, R3⟩
      · rw [e2] at h3
        have G3 := G2.trans g3
        have q33 := KC.out w3 G3 _ _ k3
        have hE := end_c b s3 _ w3 R3
        rw [e3] at hE
        by_cases hL : L3 = []
        · rw [decide_eq_true hL] at hE
          have HE := Lib.hid hE
          have HN := Lib.hid (show dashP s.data.toList = some (n1, n3) by simp only [dashP, h1, h2, h3, Option.bind_some, if_pos hL])
          clear hE h1 h2 h3 e1 e2 e3 hL
          go_wp2
          rw [rounds_succ]
          go_wp2_with (go_at_call 53; refine HE.out.mono ?_; rintro x w4 ⟨rfl, rfl⟩)
          rw [rounds_succ]
          go_wp2
          go_ret
          exact .inr ⟨n1, n3, HN.out, rfl, G3, s3, R3⟩
        · rw [decide_eq_false hL] at hE
          have HE := Lib.hid hE
          have HN := Lib.hid (show dashP s.data.toList = none by simp only [dashP, h1, h2, h3, Option.bind_some, if_neg hL])
          clear hE h1 h2 h3 e1 e2 e3 hL
          go_wp2
          rw [rounds_succ]
          go_wp2_with (go_at_call 53; refine HE.out.mono ?_; rintro x w4 ⟨rfl, rfl⟩)
          go_ret
          exact .inl ⟨HN.out, rfl, G3, s3, n1, n3, R3⟩
end Go.Proofs.YtlnjalhlbfbjcaaGreatDoor
