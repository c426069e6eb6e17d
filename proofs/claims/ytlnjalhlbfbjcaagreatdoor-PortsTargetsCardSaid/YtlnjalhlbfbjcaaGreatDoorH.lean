/- An address, read: its contract. -/
import Derived.Test.YtlnjalhlbfbjcaaGreatDoorG
import Derived.Maps.AppendAt
namespace Go.Proofs.YtlnjalhlbfbjcaaGreatDoor
open Go.RowKit Go.Shelf
attribute [local go_sem] Oper.semAt_some

def addrP (L : List UInt8) : Option (Int × List UInt8) :=
  (numP 255 L).bind fun x1 => (markP 46 x1.2).bind fun L2 => (numP 255 L2).bind fun x3 => (markP 46 x3.2).bind fun L4 => (numP 255 L4).bind fun x5 => (markP 46 x5.2).bind fun L6 => (numP 255 L6).bind fun x7 =>
    some (((x1.1 * 256 + x3.1) * 256 + x5.1) * 256 + x7.1, x7.2)
theorem cell_gr {b c i : Nat} {w W : World} {v : Value} (g : w.grownBy W (some b)) (hne : c ≠ b) (h : w.cell? ⟨c, i, none⟩ = some v) : W.cell? ⟨c, i, none⟩ = some v :=
  (World.cell?_of_block (w := w) (g.block c (blt h) (by simpa using hne))).trans h

set_option maxRecDepth 100000 in
set_option maxHeartbeats 4000000 in
theorem all7_c (b c : Nat) (hne : c ≠ b) (s : ByteArray) (hsz : s.size ≤ 1000) (K : Int) (w : World) (hR : RdAt b s 0 K w)
    (k0 : w.cell? ⟨c, 0, none⟩ = some (.func (.func 67) #[.pointer (some ⟨b, 0, none⟩)] #[]))
    (k1 : w.cell? ⟨c, 1, none⟩ = some (.func (.func 68) #[.pointer (some ⟨b, 0, none⟩)] #[]))
    (k2 : w.cell? ⟨c, 2, none⟩ = some (.func (.func 67) #[.pointer (some ⟨b, 0, none⟩)] #[]))
    (k3 : w.cell? ⟨c, 3, none⟩ = some (.func (.func 68) #[.pointer (some ⟨b, 0, none⟩)] #[]))
    (k4 : w.cell? ⟨c, 4, none⟩ = some (.func (.func 67) #[.pointer (some ⟨b, 0, none⟩)] #[]))
    (k5 : w.cell? ⟨c, 5, none⟩ = some (.func (.func 68) #[.pointer (some ⟨b, 0, none⟩)] #[]))
    (k6 : w.cell? ⟨c, 6, none⟩ = some (.func (.func 67) #[.pointer (some ⟨b, 0, none⟩)] #[]))
    : Calls Tryz.prog 51 #[.slice (some ⟨c, 0, none⟩) 7 7] w fun x w' =>
      (addrP s.data.toList = none ∧ x = .returned (.bool false) ∧ w.grownBy w' (some b)) ∨
      (∃ a L, addrP s.data.toList = some (a, L) ∧ 0 ≤ a ∧ a ≤ 4294967295 ∧ x = .returned (.bool true) ∧ w.grownBy w' (some b) ∧ ∃ s', s'.data.toList = L ∧ s'.size ≤ 1000 ∧ RdAt b s' a K w') := by
  have KC := Lib.hid (fun W (g : w.grownBy W (some b)) i v (h : w.cell? ⟨c, i, none⟩ = some v) => cell_gr g hne h)
  go_enter Tryz.func51, Tryz.ntmps51
  go_wp2
  refine wp_loop_rounds 8 ?_
  rw [rounds_succ]
  go_wp2_with fail
  refine (octet_c b s hsz 0 K (by omega) w hR).mono ?_
  rintro x w1 (⟨h1, rfl, g1⟩ | ⟨n1, L1, h1, l1, u1, rfl, g1, s1, e1, z1, R1⟩)
  · go_wp2
    go_ret
    exact .inl ⟨by simp only [addrP, h1, Option.bind_none], rfl, g1⟩
  · skip
    have G1 := g1
    obtain ⟨A1, a1⟩ : ∃ A : Int, 0 * 256 + n1 = A := ⟨_, rfl⟩
    rw [a1] at R1
    have q11 := KC.out w1 G1 _ _ k1
    have q12 := KC.out w1 G1 _ _ k2
    have q13 := KC.out w1 G1 _ _ k3
    have q14 := KC.out w1 G1 _ _ k4
    have q15 := KC.out w1 G1 _ _ k5
    have q16 := KC.out w1 G1 _ _ k6
    go_wp2
    rw [rounds_succ]
    go_wp2_with fail
    refine (point_c b s1 z1 A1 K w1 R1).mono ?_
    rintro x w2 (⟨h2, rfl, g2⟩ | ⟨L2, h2, rfl, g2, s2, e2, z2, R2⟩)
    · rw [e1] at h2
      go_wp2
      go_ret
      exact .inl ⟨by simp only [addrP, h1, h2, Option.bind_some, Option.bind_none], rfl, (G1.trans g2)⟩
    · rw [e1] at h2
      have G2 := G1.trans g2
      have q22 := KC.out w2 G2 _ _ k2
      have q23 := KC.out w2 G2 _ _ k3
      have q24 := KC.out w2 G2 _ _ k4
      have q25 := KC.out w2 G2 _ _ k5
      have q26 := KC.out w2 G2 _ _ k6
      go_wp2
      rw [rounds_succ]
      go_wp2_with fail
      refine (octet_c b s2 z2 A1 K (by omega) w2 R2).mono ?_
      rintro x w3 (⟨h3, rfl, g3⟩ | ⟨n3, L3, h3, l3, u3, rfl, g3, s3, e3, z3, R3⟩)
      · rw [e2] at h3
        go_wp2
        go_ret
        exact .inl ⟨by simp only [addrP, h1, h2, h3, Option.bind_some, Option.bind_none], rfl, (G2.trans g3)⟩
      · rw [e2] at h3
        have G3 := G2.trans g3
        obtain ⟨A3, a3⟩ : ∃ A : Int, A1 * 256 + n3 = A := ⟨_, rfl⟩
        rw [a3] at R3
        have q33 := KC.out w3 G3 _ _ k3
        have q34 := KC.out w3 G3 _ _ k4
        have q35 := KC.out w3 G3 _ _ k5
        have q36 := KC.out w3 G3 _ _ k6
        go_wp2
        rw [rounds_succ]
        go_wp2_with fail
        refine (point_c b s3 z3 A3 K w3 R3).mono ?_
        rintro x w4 (⟨h4, rfl, g4⟩ | ⟨L4, h4, rfl, g4, s4, e4, z4, R4⟩)
        · rw [e3] at h4
          go_wp2
          go_ret
          exact .inl ⟨by simp only [addrP, h1, h2, h3, h4, Option.bind_some, Option.bind_none], rfl, (G3.trans g4)⟩
        · rw [e3] at h4
          have G4 := G3.trans g4
          have q44 := KC.out w4 G4 _ _ k4
          have q45 := KC.out w4 G4 _ _ k5
          have q46 := KC.out w4 G4 _ _ k6
          go_wp2
          rw [rounds_succ]
          go_wp2_with fail
          refine (octet_c b s4 z4 A3 K (by omega) w4 R4).mono ?_
          rintro x w5 (⟨h5, rfl, g5⟩ | ⟨n5, L5, h5, l5, u5, rfl, g5, s5, e5, z5, R5⟩)
          · rw [e4] at h5
            go_wp2
            go_ret
            exact .inl ⟨by simp only [addrP, h1, h2, h3, h4, h5, Option.bind_some, Option.bind_none], rfl, (G4.trans g5)⟩
          · rw [e4] at h5
            have G5 := G4.trans g5
            obtain ⟨A5, a5⟩ : ∃ A : Int, A3 * 256 + n5 = A := ⟨_, rfl⟩
            rw [a5] at R5
            have q55 := KC.out w5 G5 _ _ k5
            have q56 := KC.out w5 G5 _ _ k6
            go_wp2
            rw [rounds_succ]
            go_wp2_with fail
            refine (point_c b s5 z5 A5 K w5 R5).mono ?_
            rintro x w6 (⟨h6, rfl, g6⟩ | ⟨L6, h6, rfl, g6, s6, e6, z6, R6⟩)
            · rw [e5] at h6
              go_wp2
              go_ret
              exact .inl ⟨by simp only [addrP, h1, h2, h3, h4, h5, h6, Option.bind_some, Option.bind_none], rfl, (G5.trans g6)⟩
            · rw [e5] at h6
              have G6 := G5.trans g6
              have q66 := KC.out w6 G6 _ _ k6
              go_wp2
              rw [rounds_succ]
              go_wp2_with fail
              refine (octet_c b s6 z6 A5 K (by omega) w6 R6).mono ?_
              rintro x w7 (⟨h7, rfl, g7⟩ | ⟨n7, L7, h7, l7, u7, rfl, g7, s7, e7, z7, R7⟩)
              · rw [e6] at h7
                go_wp2
                go_ret
                exact .inl ⟨by simp only [addrP, h1, h2, h3, h4, h5, h6, h7, Option.bind_some, Option.bind_none], rfl, (G6.trans g7)⟩
              · rw [e6] at h7
                have G7 := G6.trans g7
                obtain ⟨A7, a7⟩ : ∃ A : Int, A5 * 256 + n7 = A := ⟨_, rfl⟩
                rw [a7] at R7
                go_wp2
                rw [rounds_succ]
                go_wp2
                go_ret
                refine .inr ⟨A7, L7, ?_, by omega, by omega, rfl, G7, s7, e7, z7, R7⟩
                simp only [addrP, h1, h2, h3, h4, h5, h6, h7, Option.bind_some]
                rw [← a7, ← a5, ← a3, ← a1, Int.zero_mul, Int.zero_add]

set_option maxRecDepth 100000 in
theorem address_c (b : Nat) (s : ByteArray) (hsz : s.size ≤ 1000) (K : Int) (w : World) (hR : RdAt b s 0 K w) :
    Calls Tryz.prog 52 #[.pointer (some ⟨b, 0, none⟩)] w fun x w' =>
      (addrP s.data.toList = none ∧ x = .returned (.bool false) ∧ w.grownBy w' (some b)) ∨
      (∃ a L, addrP s.data.toList = some (a, L) ∧ 0 ≤ a ∧ a ≤ 4294967295 ∧ x = .returned (.bool true) ∧ w.grownBy w' (some b) ∧ ∃ s', s'.data.toList = L ∧ s'.size ≤ 1000 ∧ RdAt b s' a K w') := by
  have hb := blt hR.c0
  have HA := Lib.hid (fun c hne W h k0 k1 k2 k3 k4 k5 k6 => all7_c b c hne s hsz K W h k0 k1 k2 k3 k4 k5 k6)
  have HW := Lib.hid (fun o => hR.on (below_alloc w o))
  go_enter Tryz.func52, Tryz.ntmps52
  go_wp2_with fail
  refine (HA.out w.heap.size (by omega) _ (HW.out _) (by go_simp) (by go_simp) (by go_simp) (by go_simp) (by go_simp) (by go_simp) (by go_simp)).mono ?_
  rintro x w1 (⟨h, rfl, g⟩ | ⟨a, L, h, l, u, rfl, g, hh⟩)
  · go_wp2
    go_ret
    exact .inl ⟨h, rfl, (gr_below (below_alloc w _)).trans g⟩
  · go_wp2
    go_ret
    exact .inr ⟨a, L, h, l, u, rfl, (gr_below (below_alloc w _)).trans g, hh⟩

def parseP (L : List UInt8) : Option Int := (addrP L).bind fun x => if x.2 = [] then some x.1 else none
set_option maxRecDepth 100000 in
set_option maxHeartbeats 2000000 in
theorem all2_c (b c : Nat) (hne : c ≠ b) (s : ByteArray) (hsz : s.size ≤ 1000) (K : Int) (w : World) (hR : RdAt b s 0 K w)
    (k0 : w.cell? ⟨c, 0, none⟩ = some (.func (.func 52) #[.pointer (some ⟨b, 0, none⟩)] #[])) (k1 : w.cell? ⟨c, 1, none⟩ = some (.func (.func 53) #[.pointer (some ⟨b, 0, none⟩)] #[])) :
    Calls Tryz.prog 51 #[.slice (some ⟨c, 0, none⟩) 2 2] w fun x w' =>
      (parseP s.data.toList = none ∧ x = .returned (.bool false) ∧ w.grownBy w' (some b)) ∨
      (∃ a, parseP s.data.toList = some a ∧ 0 ≤ a ∧ a ≤ 4294967295 ∧ x = .returned (.bool true) ∧ w.grownBy w' (some b) ∧ ∃ s', RdAt b s' a K w') := by
  have KC := Lib.hid (fun W (g : w.grownBy W (some b)) i v (h : w.cell? ⟨c, i, none⟩ = some v) => cell_gr g hne h)
  go_enter Tryz.func51, Tryz.ntmps51
  go_wp2
  refine wp_loop_rounds 3 ?_
  rw [rounds_succ]
  go_wp2_with fail
  refine (address_c b s hsz K w hR).mono ?_
  rintro x w1 (⟨h1, rfl, g1⟩ | ⟨a, L, h1, l1, u1, rfl, g1, s1, e1, z1, R1⟩)
  · go_wp2
    go_ret
    exact .inl ⟨by simp only [parseP, h1, Option.bind_none], rfl, g1⟩
  · have q1 := KC.out w1 g1 _ _ k1
    have hE := end_c b s1 _ w1 R1
    rw [e1] at hE
    by_cases hL : L = []
    · rw [decide_eq_true hL] at hE
      have HE := Lib.hid hE
      clear hE
      go_wp2
      rw [rounds_succ]
      go_wp2_with (go_at_call 53; refine HE.out.mono ?_; rintro x w2 ⟨rfl, rfl⟩)
      rw [rounds_succ]
      go_wp2
      go_ret
      exact .inr ⟨a, by simp only [parseP, h1, Option.bind_some, if_pos hL], l1, u1, rfl, g1, s1, R1⟩
    · rw [decide_eq_false hL] at hE
      have HE := Lib.hid hE
      clear hE
      go_wp2
      rw [rounds_succ]
      go_wp2_with (go_at_call 53; refine HE.out.mono ?_; rintro x w2 ⟨rfl, rfl⟩)
      go_ret
      exact .inl ⟨by simp only [parseP, h1, Option.bind_some, if_neg hL], rfl, g1⟩
end Go.Proofs.YtlnjalhlbfbjcaaGreatDoor
