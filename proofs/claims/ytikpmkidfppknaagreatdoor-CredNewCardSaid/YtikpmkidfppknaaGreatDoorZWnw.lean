/- Wnw -/
import Derived.Test.YtikpmkidfppknaaGreatDoorZ11
/- CredNew. -/
namespace Go.Proofs.YtikpmkidfppknaaGreatDoor
open Go.RowKit Go.Shelf
attribute [local go_sem] Oper.semAt_some

theorem rot_nil (key : ByteArray) (now span : Int) (w : World) (hE : ErrT w) : Calls Tryz.prog 11 #[.slice none 0 0, .string key, .int .i64 now, .int .i64 0, .int .i64 span] w (RotW (rotM [] key now 0 span) (rotM [] key now 0 span).length (rotI [] key now 0 span) (rotN [] key now 0 span) w) := rot_w none 0 [] (by decide) key now 0 span w (CrdAt.nil _ _ _) hE
theorem rot_nil_ok {key : ByteArray} {now span : Int} (at_ : Int) (hk : rotK [] key now 0 span = true) (hf : rotF [] key now 0 span = false) : rotL [] key now 0 span = [⟨1, key, now, now + span⟩] ∧ (holdL [⟨1, key, now, now + span⟩] at_).length = if now ≤ at_ ∧ at_ < now + span then 1 else 0 := by
  have e : rotL [] key now 0 span = [⟨1, key, now, now + span⟩] := rfl
  have hr := rot_right hk hf
  rw [e] at hr
  refine ⟨e, ?_⟩
  unfold holdL
  rw [if_pos hr, List.filter_cons]
  by_cases h : now ≤ at_ ∧ at_ < now + span
  · rw [if_pos ((holdB_iff _ _).2 h), if_pos h]; rfl
  · rw [if_neg (fun k => h ((holdB_iff _ _).1 k)), if_neg h]; rfl
set_option maxRecDepth 100000 in
set_option maxHeartbeats 4000000 in
theorem new_law (k0 : ByteArray) (now span at_ : Int) (w : World) (hL : Lay w) : Calls Tryz.prog 6 #[.string k0, .int .i64 now, .int .i64 span, .int .i64 at_] w fun y w' => y = .returned (.bool true) ∧ Below w.heap.size w w' := by
  have HL := Lib.hid hL
  have HS := Lib.hid (shown_c w hL)
  have HC := Lib.hid (fun W => cut1_c k0 W)
  generalize cut1 k0 = key at *
  have HR := Lib.hid (fun W h => rot_nil key now span W h)
  have B0 := Lib.hid (Below.refl w.heap.size w)
  clear hL
  rcases rot_two [] key now 0 span with ⟨h1, h2, h3, h4, h5⟩ | ⟨h1, h4, h5⟩
  · obtain ⟨f1, f2, f3, f4, f5, f6⟩ := rotK_facts h2
    obtain ⟨g1, g2⟩ := rot_nil_ok at_ h2 h3
    rw [h1, h4, h5, g1, show grtL [] + 1 = 1 from rfl, show ([⟨1, key, now, now + span⟩] : List Crd).length = 1 from rfl] at HR
    have HH := Lib.hid (fun a c W (h : CrdAt W.heap.size W a [⟨1, key, now, now + span⟩]) => (show Calls Tryz.prog 17 #[.slice a 1 c, .int .i64 at_] W (RowP (holdL [⟨1, key, now, now + span⟩] at_) (holdL [⟨1, key, now, now + span⟩] at_).length W) from hold_w a c [⟨1, key, now, now + span⟩] (show 1 ≤ 100000 by decide) at_ W h))
    have hns : now + span ≤ 1000000000000 := f6
    obtain ⟨n1, n2⟩ := f3
    obtain ⟨n3, n4⟩ := f5
    clear h1 h2 h3 h4 h5 f1 f2 f4 f6 g1
    by_cases q1 : now ≤ at_
    · by_cases q2 : at_ < now + span
      · rw [if_pos ⟨q1, q2⟩] at g2
        rw [g2] at HH
        clear g2
        go_enter Tryz.func6, Tryz.ntmps6
        go_wp2_with fail
        (with_reducible refine (HS.out).mono ?_); rintro e w1 ⟨rfl, hb⟩
        have B1 := Lib.hid (btr B0.out hb)
        clear hb
        go_wp2_with fail
        (with_reducible refine (HC.out _).mono ?_); rintro e w2 ⟨rfl, hb⟩
        have B2 := Lib.hid (btr B1.out hb)
        clear hb
        go_wp2_with fail
        (with_reducible refine (HR.out _ (HL.out.on B2.out).et).mono ?_); rintro e w3 ⟨a, c, rfl, hA, hb⟩
        have B3 := Lib.hid (btr B2.out hb)
        have HA_3 := Lib.hid hA
        clear hA
        clear hb
        go_wp2_with fail
        (with_reducible refine (HH.out _ _ _ HA_3.out).mono ?_); rintro e w4 ⟨a2, c2, rfl, _, hb⟩
        have B4 := Lib.hid (btr B3.out hb)
        have HA_4 := Lib.hid (HA_3.out.on hb)
        clear hb
        obtain ⟨b, off, rfl, _, c0, c1, _⟩ := HA_4.out 0 (show 0 < 1 by decide)
        simp only [Nat.zero_mul, Nat.add_zero, List.getElem_cons_zero] at c0 c1
        go_wp2
        go_ret
        exact ⟨ret_bool (by first | rfl | (simp; done) | (simp; omega)), B4.out⟩
      · rw [if_neg (fun h => q2 h.2)] at g2
        rw [g2] at HH
        clear g2
        go_enter Tryz.func6, Tryz.ntmps6
        go_wp2_with fail
        (with_reducible refine (HS.out).mono ?_); rintro e w1 ⟨rfl, hb⟩
        have B1 := Lib.hid (btr B0.out hb)
        clear hb
        go_wp2_with fail
        (with_reducible refine (HC.out _).mono ?_); rintro e w2 ⟨rfl, hb⟩
        have B2 := Lib.hid (btr B1.out hb)
        clear hb
        go_wp2_with fail
        (with_reducible refine (HR.out _ (HL.out.on B2.out).et).mono ?_); rintro e w3 ⟨a, c, rfl, hA, hb⟩
        have B3 := Lib.hid (btr B2.out hb)
        have HA_3 := Lib.hid hA
        clear hA
        clear hb
        go_wp2_with fail
        (with_reducible refine (HH.out _ _ _ HA_3.out).mono ?_); rintro e w4 ⟨a2, c2, rfl, _, hb⟩
        have B4 := Lib.hid (btr B3.out hb)
        have HA_4 := Lib.hid (HA_3.out.on hb)
        clear hb
        obtain ⟨b, off, rfl, _, c0, c1, _⟩ := HA_4.out 0 (show 0 < 1 by decide)
        simp only [Nat.zero_mul, Nat.add_zero, List.getElem_cons_zero] at c0 c1
        go_wp2
        go_ret
        exact ⟨ret_bool (by first | rfl | (simp; done) | (simp; omega)), B4.out⟩
    · rw [if_neg (fun h => q1 h.1)] at g2
      rw [g2] at HH
      clear g2
      go_enter Tryz.func6, Tryz.ntmps6
      go_wp2_with fail
      (with_reducible refine (HS.out).mono ?_); rintro e w1 ⟨rfl, hb⟩
      have B1 := Lib.hid (btr B0.out hb)
      clear hb
      go_wp2_with fail
      (with_reducible refine (HC.out _).mono ?_); rintro e w2 ⟨rfl, hb⟩
      have B2 := Lib.hid (btr B1.out hb)
      clear hb
      go_wp2_with fail
      (with_reducible refine (HR.out _ (HL.out.on B2.out).et).mono ?_); rintro e w3 ⟨a, c, rfl, hA, hb⟩
      have B3 := Lib.hid (btr B2.out hb)
      have HA_3 := Lib.hid hA
      clear hA
      clear hb
      go_wp2_with fail
      (with_reducible refine (HH.out _ _ _ HA_3.out).mono ?_); rintro e w4 ⟨a2, c2, rfl, _, hb⟩
      have B4 := Lib.hid (btr B3.out hb)
      have HA_4 := Lib.hid (HA_3.out.on hb)
      clear hb
      obtain ⟨b, off, rfl, _, c0, c1, _⟩ := HA_4.out 0 (show 0 < 1 by decide)
      simp only [Nat.zero_mul, Nat.add_zero, List.getElem_cons_zero] at c0 c1
      go_wp2
      go_ret
      exact ⟨ret_bool (by first | rfl | (simp; done) | (simp; omega)), B4.out⟩
  · rw [h4, h5, show ([] : List Crd).length = 0 from rfl] at HR
    obtain ⟨N, hN⟩ : ∃ N, rotN [] key now 0 span = N := ⟨_, rfl⟩
    rw [hN] at HR h1
    clear hN h4 h5
    go_enter Tryz.func6, Tryz.ntmps6
    go_wp2_with fail
    (with_reducible refine (HS.out).mono ?_); rintro e w1 ⟨rfl, hb⟩
    have B1 := Lib.hid (btr B0.out hb)
    clear hb
    go_wp2_with fail
    (with_reducible refine (HC.out _).mono ?_); rintro e w2 ⟨rfl, hb⟩
    have B2 := Lib.hid (btr B1.out hb)
    clear hb
    go_wp2_with fail
    (with_reducible refine (HR.out _ (HL.out.on B2.out).et).mono ?_); rintro e w3 ⟨a, c, rfl, _, hb⟩
    have B3 := Lib.hid (btr B2.out hb)
    clear hb
    go_wp2
    go_ret
    exact ⟨ret_bool (by first | rfl | simp), B3.out⟩
end Go.Proofs.YtikpmkidfppknaaGreatDoor
