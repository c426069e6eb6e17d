/- The three ways of reading ports: contracts. -/
import Derived.Test.YtlnjalhlbfbjcaaGreatDoorO
namespace Go.Proofs.YtlnjalhlbfbjcaaGreatDoor
open Go.RowKit Go.Shelf
attribute [local go_sem] Oper.semAt_some

theorem gr_al {b : Nat} {w W : World} (g : w.grownBy W (some b)) (o : Obj) : w.grownBy (W.alloc o) (some b) := g.trans (gr_below (below_alloc _ _))

set_option maxRecDepth 100000 in
set_option maxHeartbeats 4000000 in
theorem every_c (b : Nat) (s : ByteArray) (hsz : s.size ≤ 1000) (A K : Int) (w : World) (hR : RdAt b s A K w) :
    Calls Tryz.prog 41 #[.pointer (some ⟨b, 0, none⟩)] w fun x w' => x = .returned (errV (decide (s.data.toList = [42])) 70) ∧ w.grownBy w' (some b) ∧ ∃ s', RdAt b s' 0 65535 w' := by
  have hb := blt hR.c0
  have HA := Lib.hid (fun c hne W h k0 k1 => allStar_c b c hne s hsz 0 65535 W h k0 k1)
  go_enter Tryz.func41, Tryz.ntmps41
  go_wp2_with fail
  refine (whole_c _).mono ?_
  rintro x w1 ⟨rfl, hb1⟩
  have R1 := hR.on hb1
  have G1 := Lib.hid (gr_below (b := b) hb1)
  have hz := Lib.hid hb1.size
  have c1 := R1.c1
  have c2 := R1.c2
  have f1 := R1.f1
  have f2 := R1.f2
  have HW := Lib.hid (fun o => (((R1.set1 0).set2 65535).on (below_alloc _ o)))
  clear hR R1 hb1
  go_wp2_with fail
  refine (HA.out w1.heap.size (by have := hz.out; omega) _ (HW.out _) (by go_simp) (by go_simp)).mono ?_
  rintro x w2 (⟨h, rfl, g, hh⟩ | ⟨h, rfl, g, hh⟩)
  · have E := Lib.hid (decide_eq_false h)
    have G2 := Lib.hid ((gr_al (gr_set (c := b) (gr_set (c := b) G1.out (.inl rfl) (o := 1) (.int .i64 0)) (.inl rfl) (o := 2) (.int .i64 65535)) _).trans g)
    clear h g G1
    go_wp2_with (go_at_call 56; refine (unless_c _ _ _).mono ?_; rintro x w3 ⟨rfl, rfl⟩)
    go_ret
    exact ⟨show Ending.returned (errV false 70) = _ by rw [E.out], G2.out, hh⟩
  · have E := Lib.hid (decide_eq_true h)
    have G2 := Lib.hid ((gr_al (gr_set (c := b) (gr_set (c := b) G1.out (.inl rfl) (o := 1) (.int .i64 0)) (.inl rfl) (o := 2) (.int .i64 65535)) _).trans g)
    clear h g G1
    go_wp2_with (go_at_call 56; refine (unless_c _ _ _).mono ?_; rintro x w3 ⟨rfl, rfl⟩)
    go_ret
    exact ⟨show Ending.returned (errV true 70) = _ by rw [E.out], G2.out, hh⟩

set_option maxRecDepth 100000 in
set_option maxHeartbeats 4000000 in
theorem single_c (b : Nat) (s : ByteArray) (hsz : s.size ≤ 1000) (A K : Int) (w : World) (hR : RdAt b s A K w) :
    Calls Tryz.prog 42 #[.pointer (some ⟨b, 0, none⟩)] w fun x w' =>
      (snP 65535 s.data.toList = none ∧ x = .returned (errV false 70) ∧ w.grownBy w' (some b) ∧ ∃ s' A' K', RdAt b s' A' K' w') ∨
      (∃ n, snP 65535 s.data.toList = some n ∧ x = .returned (errV true 70) ∧ w.grownBy w' (some b) ∧ ∃ s', RdAt b s' n n w') := by
  have hb := blt hR.c0
  have HA := Lib.hid (fun c hne W h k0 k1 => allFrom_c b c hne s hsz A K W h k0 k1)
  have HW := Lib.hid (fun o => hR.on (below_alloc _ o))
  clear hR
  go_enter Tryz.func42, Tryz.ntmps42
  go_wp2_with fail
  refine (HA.out w.heap.size (by omega) _ (HW.out _) (by go_simp) (by go_simp)).mono ?_
  rintro x w2 (⟨h, rfl, g, s1, A1, R1⟩ | ⟨n, h, rfl, g, s1, R1⟩)
  · have G2 := Lib.hid (gr_set (c := b) ((gr_below (below_alloc w _)).trans g) (.inl rfl) (o := 2) (.int .i64 A1))
    have H := Lib.hid h
    have c1 := R1.c1
    have c2 := R1.c2
    have f2 := R1.f2
    have RR := Lib.hid (R1.set2 A1)
    clear h g R1
    go_wp2_with (go_at_call 56; refine (unless_c _ _ _).mono ?_; rintro x w3 ⟨rfl, rfl⟩)
    go_ret
    exact .inl ⟨H.out, rfl, G2.out, s1, A1, A1, RR.out⟩
  · have G2 := Lib.hid (gr_set (c := b) ((gr_below (below_alloc w _)).trans g) (.inl rfl) (o := 2) (.int .i64 n))
    have H := Lib.hid h
    have c1 := R1.c1
    have c2 := R1.c2
    have f2 := R1.f2
    have RR := Lib.hid (R1.set2 n)
    clear h g R1
    go_wp2_with (go_at_call 56; refine (unless_c _ _ _).mono ?_; rintro x w3 ⟨rfl, rfl⟩)
    go_ret
    exact .inr ⟨n, H.out, rfl, G2.out, s1, RR.out⟩

end Go.Proofs.YtlnjalhlbfbjcaaGreatDoor
