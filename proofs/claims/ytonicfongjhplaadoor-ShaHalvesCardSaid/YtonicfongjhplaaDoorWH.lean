/- ShaHalves. -/
import Derived.Test.YtonicfongjhplaaDoorV
namespace Go.Proofs.YtonicfongjhplaaDoor
open Go.RowKit Go.Shelf
attribute [local go_sem] Oper.semAt_some

theorem Unhex_h (s : ByteArray) (hs : s.size ≤ 100000) (A : ByteArray) (E : Int) (h1 : unS s = A) (h2 : unE s = E) (w : World) : Calls Tryd.prog 15 #[.string s] w fun r w' => r = .returned (.tuple #[.string A, .int .i64 E]) ∧ Below w.heap.size w w' := by
  subst h1; subst h2
  exact Unhex_c s hs w
set_option maxRecDepth 100000 in
set_option maxHeartbeats 8000000 in
theorem halves_law (s0 t0 : ByteArray) (w : World) (hT : Tabs w) : Calls Tryd.prog 8 #[.string s0, .string t0] w fun x w' => x = .returned (.bool true) ∧ Below w.heap.size w w' := by
  have SH := Lib.hid (shown_c w hT)
  have K1 := Lib.hid (fun W => cut3_c s0 W)
  have K2 := Lib.hid (fun W => cut3_c t0 W)
  have hs := cut3_size s0
  have ht := cut3_size t0
  generalize cut3 s0 = s at *
  generalize cut3 t0 = t at *
  have hst : (s ++ t).size = s.size + t.size := ByteArray.size_append
  have n1 : ¬ 9223372036854775807 < s.size + t.size := by omega
  clear hT
  by_cases ho : s.size % 2 = 1
  · have hr : (s.size : Int).tmod 2 = 1 := by rw [Int.tmod_eq_emod_of_nonneg (by omega)]; omega
    have hu := un_none (unhexL_odd (bL s) (by rw [bL_length]; exact ho))
    have U1 := Lib.hid (fun W => Unhex_h s (by omega) _ _ hu.1 hu.2 W)
    obtain ⟨A2, hA2⟩ : ∃ A, unS t = A := ⟨_, rfl⟩
    obtain ⟨E2, hE2⟩ : ∃ A, unE t = A := ⟨_, rfl⟩
    obtain ⟨A3, hA3⟩ : ∃ A, unS (s ++ t) = A := ⟨_, rfl⟩
    obtain ⟨E3, hE3⟩ : ∃ A, unE (s ++ t) = A := ⟨_, rfl⟩
    have U2 := Lib.hid (fun W => Unhex_h t (by omega) _ _ hA2 hE2 W)
    have U3 := Lib.hid (fun W => Unhex_h (s ++ t) (by omega) _ _ hA3 hE3 W)
    clear hu ho hst hA2 hE2 hA3 hE3
    go_enter Tryd.func8, Tryd.ntmps8
    have B0 := Lib.hid (Below.refl w.heap.size w)
    go_wp2_with fail
    refine (SH.out).mono ?_; rintro e w1 ⟨rfl, hb⟩
    have B1 := Lib.hid (btr B0.out hb); clear hb
    go_wp2_with fail
    refine (K1.out _).mono ?_; rintro e w2 ⟨rfl, hb⟩
    have B2 := Lib.hid (btr B1.out hb); clear hb
    go_wp2_with fail
    refine (K2.out _).mono ?_; rintro e w3 ⟨rfl, hb⟩
    have B3 := Lib.hid (btr B2.out hb); clear hb
    go_wp2_with fail
    refine (U1.out _).mono ?_; rintro e w4 ⟨rfl, hb⟩
    have B4 := Lib.hid (btr B3.out hb); clear hb
    go_wp2_with fail
    refine (U2.out _).mono ?_; rintro e w5 ⟨rfl, hb⟩
    have B5 := Lib.hid (btr B4.out hb); clear hb
    go_wp2_with fail
    refine (U3.out _).mono ?_; rintro e w6 ⟨rfl, hb⟩
    have B6 := Lib.hid (btr B5.out hb); clear hb
    go_wp2
    go_ret
    exact ⟨ret_bool (by simp), B6.out⟩
  · have hr : (s.size : Int).tmod 2 = 0 := by rw [Int.tmod_eq_emod_of_nonneg (by omega)]; omega
    have he : (bL s).length % 2 = 0 := by rw [bL_length]; omega
    have hap := unhexL_append (bL s) (bL t) he
    rw [← bL_append] at hap
    cases hu : unhexL (bL s) with
    | none =>
      rw [hu] at hap
      have hu1 := un_none hu
      have hu3 := un_none hap
      obtain ⟨A2, hA2⟩ : ∃ A, unS t = A := ⟨_, rfl⟩
      obtain ⟨E2, hE2⟩ : ∃ A, unE t = A := ⟨_, rfl⟩
      have U1 := Lib.hid (fun W => Unhex_h s (by omega) _ _ hu1.1 hu1.2 W)
      have U2 := Lib.hid (fun W => Unhex_h t (by omega) _ _ hA2 hE2 W)
      have U3 := Lib.hid (fun W => Unhex_h (s ++ t) (by omega) _ _ hu3.1 hu3.2 W)
      clear hu hu1 hu3 hap ho he hst hA2 hE2
      go_enter Tryd.func8, Tryd.ntmps8
      have B0 := Lib.hid (Below.refl w.heap.size w)
      go_wp2_with fail
      refine (SH.out).mono ?_; rintro e w1 ⟨rfl, hb⟩
      have B1 := Lib.hid (btr B0.out hb); clear hb
      go_wp2_with fail
      refine (K1.out _).mono ?_; rintro e w2 ⟨rfl, hb⟩
      have B2 := Lib.hid (btr B1.out hb); clear hb
      go_wp2_with fail
      refine (K2.out _).mono ?_; rintro e w3 ⟨rfl, hb⟩
      have B3 := Lib.hid (btr B2.out hb); clear hb
      go_wp2_with fail
      refine (U1.out _).mono ?_; rintro e w4 ⟨rfl, hb⟩
      have B4 := Lib.hid (btr B3.out hb); clear hb
      go_wp2_with fail
      refine (U2.out _).mono ?_; rintro e w5 ⟨rfl, hb⟩
      have B5 := Lib.hid (btr B4.out hb); clear hb
      go_wp2_with fail
      refine (U3.out _).mono ?_; rintro e w6 ⟨rfl, hb⟩
      have B6 := Lib.hid (btr B5.out hb); clear hb
      go_wp2
      go_ret
      exact ⟨ret_bool (by simp), B6.out⟩
    | some a =>
      cases hv : unhexL (bL t) with
      | none =>
        rw [hu, hv] at hap
        have hu1 := un_some hu
        have hu2 := un_none hv
        have hu3 := un_none hap
        have U1 := Lib.hid (fun W => Unhex_h s (by omega) _ _ hu1.1 hu1.2 W)
        have U2 := Lib.hid (fun W => Unhex_h t (by omega) _ _ hu2.1 hu2.2 W)
        have U3 := Lib.hid (fun W => Unhex_h (s ++ t) (by omega) _ _ hu3.1 hu3.2 W)
        clear hu hv hu1 hu2 hu3 hap ho he hst
        go_enter Tryd.func8, Tryd.ntmps8
        have B0 := Lib.hid (Below.refl w.heap.size w)
        go_wp2_with fail
        refine (SH.out).mono ?_; rintro e w1 ⟨rfl, hb⟩
        have B1 := Lib.hid (btr B0.out hb); clear hb
        go_wp2_with fail
        refine (K1.out _).mono ?_; rintro e w2 ⟨rfl, hb⟩
        have B2 := Lib.hid (btr B1.out hb); clear hb
        go_wp2_with fail
        refine (K2.out _).mono ?_; rintro e w3 ⟨rfl, hb⟩
        have B3 := Lib.hid (btr B2.out hb); clear hb
        go_wp2_with fail
        refine (U1.out _).mono ?_; rintro e w4 ⟨rfl, hb⟩
        have B4 := Lib.hid (btr B3.out hb); clear hb
        go_wp2_with fail
        refine (U2.out _).mono ?_; rintro e w5 ⟨rfl, hb⟩
        have B5 := Lib.hid (btr B4.out hb); clear hb
        go_wp2_with fail
        refine (U3.out _).mono ?_; rintro e w6 ⟨rfl, hb⟩
        have B6 := Lib.hid (btr B5.out hb); clear hb
        go_wp2
        go_ret
        exact ⟨ret_bool (by simp), B6.out⟩
      | some b =>
        rw [hu, hv] at hap
        have hu1 := un_some hu
        have hu2 := un_some hv
        have hu3 := un_some hap
        rw [ofL_append] at hu3
        obtain ⟨_, q1, _⟩ := hexL_unhexL _ _ hu
        obtain ⟨_, q2, _⟩ := hexL_unhexL _ _ hv
        rw [bL_length] at q1 q2
        have z1 : (ofL a).size = a.length := ofL_size a
        have z2 : (ofL b).size = b.length := ofL_size b
        have n2 : ¬ 9223372036854775807 < (ofL a).size + (ofL b).size := by omega
        clear z1 z2 q1 q2
        have U1 := Lib.hid (fun W => Unhex_h s (by omega) _ _ hu1.1 hu1.2 W)
        have U2 := Lib.hid (fun W => Unhex_h t (by omega) _ _ hu2.1 hu2.2 W)
        have U3 := Lib.hid (fun W => Unhex_h (s ++ t) (by omega) _ _ hu3.1 hu3.2 W)
        clear hu hv hu1 hu2 hu3 hap ho he hst
        generalize ofL a = A at *
        generalize ofL b = B at *
        go_enter Tryd.func8, Tryd.ntmps8
        have B0 := Lib.hid (Below.refl w.heap.size w)
        go_wp2_with fail
        refine (SH.out).mono ?_; rintro e w1 ⟨rfl, hb⟩
        have B1 := Lib.hid (btr B0.out hb); clear hb
        go_wp2_with fail
        refine (K1.out _).mono ?_; rintro e w2 ⟨rfl, hb⟩
        have B2 := Lib.hid (btr B1.out hb); clear hb
        go_wp2_with fail
        refine (K2.out _).mono ?_; rintro e w3 ⟨rfl, hb⟩
        have B3 := Lib.hid (btr B2.out hb); clear hb
        go_wp2_with fail
        refine (U1.out _).mono ?_; rintro e w4 ⟨rfl, hb⟩
        have B4 := Lib.hid (btr B3.out hb); clear hb
        go_wp2_with fail
        refine (U2.out _).mono ?_; rintro e w5 ⟨rfl, hb⟩
        have B5 := Lib.hid (btr B4.out hb); clear hb
        go_wp2_with fail
        refine (U3.out _).mono ?_; rintro e w6 ⟨rfl, hb⟩
        have B6 := Lib.hid (btr B5.out hb); clear hb
        go_wp2
        go_ret
        exact ⟨ret_bool (by simp), B6.out⟩
end Go.Proofs.YtonicfongjhplaaDoor
