/- Ro, Ps -/
import Derived.Test.YtikpmkidfppknaaGreatDoorZ8
import Derived.Test.YtikpmkidfppknaaGreatDoorZ3
set_option linter.unusedVariables false
set_option linter.unusedSimpArgs false
/- Rotate. -/
namespace Go.Proofs.YtikpmkidfppknaaGreatDoor
open Go.RowKit Go.Shelf
attribute [local go_sem] Oper.semAt_some

theorem row_on {W W' : World} {z : Nat} {t : TypeId} {n k : Nat} {v : Value} {xs : List Value} (h : W.ownsRow z t n v k xs) (hb : Below W.heap.size W W') : W'.ownsRow z t n v k xs := by
  rcases h with ⟨h1, h2 | ⟨g, cap, cur, rfl, h3, h4, h5⟩⟩
  · exact ⟨h1, .inl h2⟩
  · exact ⟨h1, .inr ⟨g, cap, cur, rfl, h3, (hb.block g (Array.getElem?_eq_some_iff.1 h4).1).trans h4, h5⟩⟩
def rotCh (l : List Crd) (key : ByteArray) (now overlap span X : Int) : List (Bool × Int) := [(rightB l, 110), (isKeyB key, 50), (btB now 0 1000000000000, 2), (btB overlap 0 1000000000, 2), (btB span 1 1000000000, 2), (btB span 1 X, 2)]
theorem add_block (b o j : Nat) : ((⟨b, o, none⟩ : Addr).add j).block = b := by unfold Addr.add; split <;> rfl
theorem grtL_bound {l : List Crd} (h : ∀ x ∈ l, 1 ≤ x.i ∧ x.i ≤ 1000000000) : 0 ≤ grtL l ∧ grtL l ≤ 1000000000 := by
  cases hl : l.length with
  | zero =>
    have e : l = [] := List.length_eq_zero_iff.1 hl
    subst e
    exact ⟨by decide, by decide⟩
  | succ p =>
    rw [grtL_last l p hl]
    have := h _ (List.getElem_mem (show p < l.length by omega))
    omega
theorem right_ids {l : List Crd} (h : rightB l = true) : ∀ x ∈ l, 1 ≤ x.i ∧ x.i ≤ 1000000000 := by
  unfold rightB at h
  simp only [Bool.and_eq_true] at h
  exact fun x hx => ok_id (List.all_eq_true.1 h.2.1 x hx)
theorem right_len {l : List Crd} (h : rightB l = true) : l.length ≤ 4 := by
  unfold rightB at h
  simp only [Bool.and_eq_true, decide_eq_true_eq] at h
  exact h.1
theorem rotFirst_c (a : Option Addr) (cap : Nat) (l : List Crd) (hs : l.length ≤ 100000) (key : ByteArray) (now overlap span X : Int) (w : World) (b b1 b2 p0 p1 p2 p3 q0 q1 q2 q3 r0 r1 r2 r3 s0 s1 s2 s3 : Nat)
    (c0 : w.cell? ⟨b, 0, none⟩ = some (.func (.func 51) #[] #[.pointer (some ⟨b1, 0, none⟩)]))
    (c1 : w.cell? ⟨b, 1, none⟩ = some (.func (.func 53) #[] #[.pointer (some ⟨b2, 0, none⟩)]))
    (c2 : w.cell? ⟨b, 2, none⟩ = some (.func (.func 55) #[] #[.pointer (some ⟨p0, 0, none⟩), .pointer (some ⟨p1, 0, none⟩), .pointer (some ⟨p2, 0, none⟩), .pointer (some ⟨p3, 0, none⟩)]))
    (c3 : w.cell? ⟨b, 3, none⟩ = some (.func (.func 55) #[] #[.pointer (some ⟨q0, 0, none⟩), .pointer (some ⟨q1, 0, none⟩), .pointer (some ⟨q2, 0, none⟩), .pointer (some ⟨q3, 0, none⟩)]))
    (c4 : w.cell? ⟨b, 4, none⟩ = some (.func (.func 55) #[] #[.pointer (some ⟨r0, 0, none⟩), .pointer (some ⟨r1, 0, none⟩), .pointer (some ⟨r2, 0, none⟩), .pointer (some ⟨r3, 0, none⟩)]))
    (c5 : w.cell? ⟨b, 5, none⟩ = some (.func (.func 55) #[] #[.pointer (some ⟨s0, 0, none⟩), .pointer (some ⟨s1, 0, none⟩), .pointer (some ⟨s2, 0, none⟩), .pointer (some ⟨s3, 0, none⟩)]))
    (k1 : w.cell? ⟨b1, 0, none⟩ = some (.slice a l.length cap)) (k2 : w.cell? ⟨b2, 0, none⟩ = some (.string key)) (kp : BtAt p0 p1 p2 p3 now 0 1000000000000 2 w) (kq : BtAt q0 q1 q2 q3 overlap 0 1000000000 2 w) (kr : BtAt r0 r1 r2 r3 span 1 1000000000 2 w) (ks : BtAt s0 s1 s2 s3 span 1 X 2 w) (hA : CrdAt w.heap.size w a l) :
    Calls Tryz.prog 22 #[.slice (some ⟨b, 0, none⟩) 6 6] w fun y w' => y = .returned (firstB (rotCh l key now overlap span X)) ∧ Below w.heap.size w w' := by
  have h6 : ∀ i, i < 6 → i = 0 ∨ i = 1 ∨ i = 2 ∨ i = 3 ∨ i = 4 ∨ i = 5 := fun i h => by omega
  have hf : firstE (atL (rotCh l key now overlap span X)) 0 6 = firstB (rotCh l key now overlap span X) := firstE_list (rotCh l key now overlap span X)
  rw [← hf]
  refine faultFirst_c 6 (by omega) b (fun i => match i with | 0 => 51 | 1 => 53 | _ => 55) (fun _ => #[]) (fun i => match i with | 0 => #[.pointer (some ⟨b1, 0, none⟩)] | 1 => #[.pointer (some ⟨b2, 0, none⟩)] | 2 => #[.pointer (some ⟨p0, 0, none⟩), .pointer (some ⟨p1, 0, none⟩), .pointer (some ⟨p2, 0, none⟩), .pointer (some ⟨p3, 0, none⟩)] | 3 => #[.pointer (some ⟨q0, 0, none⟩), .pointer (some ⟨q1, 0, none⟩), .pointer (some ⟨q2, 0, none⟩), .pointer (some ⟨q3, 0, none⟩)] | 4 => #[.pointer (some ⟨r0, 0, none⟩), .pointer (some ⟨r1, 0, none⟩), .pointer (some ⟨r2, 0, none⟩), .pointer (some ⟨r3, 0, none⟩)] | _ => #[.pointer (some ⟨s0, 0, none⟩), .pointer (some ⟨s1, 0, none⟩), .pointer (some ⟨s2, 0, none⟩), .pointer (some ⟨s3, 0, none⟩)]) (atL (rotCh l key now overlap span X)) w ?_ ?_ ?_ ?_
  · intro i hi
    obtain rfl | rfl | rfl | rfl | rfl | rfl := h6 i hi
    · exact c0
    · exact c1
    · exact c2
    · exact c3
    · exact c4
    · exact c5
  · intro i hi hprev W hW
    obtain rfl | rfl | rfl | rfl | rfl | rfl := h6 i hi
    · exact isRight1_c a cap l hs b1 W ((hW.cell (blt k1)).trans k1) (hA.on hW)
    · exact cisKey1_c key b2 W ((hW.cell (blt k2)).trans k2)
    · exact between1_g now 0 1000000000000 2 p0 p1 p2 p3 W (kp.on hW)
    · exact between1_g overlap 0 1000000000 2 q0 q1 q2 q3 W (kq.on hW)
    · exact between1_g span 1 1000000000 2 r0 r1 r2 r3 W (kr.on hW)
    · exact between1_g span 1 X 2 s0 s1 s2 s3 W (ks.on hW)
  · intro i hi args W
    obtain rfl | rfl | rfl | rfl | rfl | rfl := h6 i hi
    · exact enters_of Tryz.func51 (by kernel_rfl) rfl args W
    · exact enters_of Tryz.func53 (by kernel_rfl) rfl args W
    · exact enters_of Tryz.func55 (by kernel_rfl) rfl args W
    · exact enters_of Tryz.func55 (by kernel_rfl) rfl args W
    · exact enters_of Tryz.func55 (by kernel_rfl) rfl args W
    · exact enters_of Tryz.func55 (by kernel_rfl) rfl args W
  · exact fun i _ => atL_two _ i
def rotL (l : List Crd) (key : ByteArray) (now overlap span : Int) : List Crd := chL (rotS now (now + overlap)) (rotD (now + overlap)) l ++ [⟨grtL l + 1, key, now, now + span⟩]
def rotF (l : List Crd) (key : ByteArray) (now overlap span : Int) : Bool := decide (4 < (rotL l key now overlap span).length) || decide (1000000000 < grtL l + 1)
def rotX (now : Int) : Int := IntKind.i64.wrap (1000000000000 - now)
def rotK (l : List Crd) (key : ByteArray) (now overlap span : Int) : Bool := (rotCh l key now overlap span (rotX now)).all (·.1)
def rotN (l : List Crd) (key : ByteArray) (now overlap span : Int) : Int := if rotK l key now overlap span = true then (if rotF l key now overlap span = true then 92 else 0) else firstN (rotCh l key now overlap span (rotX now))
def rotM (l : List Crd) (key : ByteArray) (now overlap span : Int) : List Crd := if (rotK l key now overlap span && !rotF l key now overlap span) = true then rotL l key now overlap span else []
def rotI (l : List Crd) (key : ByteArray) (now overlap span : Int) : Int := if (rotK l key now overlap span && !rotF l key now overlap span) = true then grtL l + 1 else 0
/-- What Rotate leaves. -/
def RotQ (m : List Crd) (i e : Int) (w : World) (y : Ending) (w' : World) : Prop := ∃ v, y = .returned (.tuple #[v, .int .i64 i, .int .i64 e]) ∧ w'.ownsRow w.heap.size 37 4 v m.length (crdCs m) ∧ Below w.heap.size w w'
theorem rotK_facts {l : List Crd} {key : ByteArray} {now overlap span : Int} (h : rotK l key now overlap span = true) : rightB l = true ∧ isKeyB key = true ∧ (0 ≤ now ∧ now ≤ 1000000000000) ∧ (0 ≤ overlap ∧ overlap ≤ 1000000000) ∧ (1 ≤ span ∧ span ≤ 1000000000) ∧ now + span ≤ 1000000000000 := by
  simp only [rotK, rotCh, btB, List.all_cons, List.all_nil, Bool.and_eq_true, decide_eq_true_eq, Bool.and_true] at h
  obtain ⟨h1, h2, h3, h4, h5, h6⟩ := h
  have : rotX now = 1000000000000 - now := IntWalk.i64_in _ (by omega)
  rw [this] at h6
  exact ⟨h1, h2, h3, h4, h5, by omega⟩
set_option maxRecDepth 100000 in
set_option maxHeartbeats 4000000 in
theorem Rotate_c (a : Option Addr) (cap : Nat) (l : List Crd) (hs : l.length ≤ 100000) (key : ByteArray) (now overlap span : Int) (w : World) (hA : CrdAt w.heap.size w a l) (hE : ErrT w) :
    Calls Tryz.prog 11 #[.slice a l.length cap, .string key, .int .i64 now, .int .i64 overlap, .int .i64 span] w (RotQ (rotM l key now overlap span) (rotI l key now overlap span) (rotN l key now overlap span) w) := by
  have HIR := Lib.hid (fun W => isRight_e a l.length cap W)
  have HIK := Lib.hid (fun W => isKey_e key W)
  have HP := Lib.hid (fun W => between_e now 0 1000000000000 2 W)
  have HQ := Lib.hid (fun W => between_e overlap 0 1000000000 2 W)
  have HR := Lib.hid (fun W => between_e span 1 1000000000 2 W)
  have HS := Lib.hid (fun W => between_e span 1 (rotX now) 2 W)
  have HFI := Lib.hid (rotFirst_c a cap l hs key now overlap span (rotX now))
  have HWI := Lib.hid (fun c W => within_c ⟨#[114, 111, 116, 97, 116, 105, 111, 110]⟩ c W)
  have HNO := Lib.hid (fun c W h => no_in W ⟨#[114, 111, 116, 97, 116, 105, 111, 110]⟩ c h)
  have HE := Lib.hid hE
  have HA := Lib.hid hA
  have HK := Lib.hid (fun h : rotK l key now overlap span = true => rotK_facts h)
  have HM := Lib.hid (show rotM l key now overlap span = if (rotK l key now overlap span && !rotF l key now overlap span) = true then rotL l key now overlap span else [] from rfl)
  have HI := Lib.hid (show rotI l key now overlap span = if (rotK l key now overlap span && !rotF l key now overlap span) = true then grtL l + 1 else 0 from rfl)
  have HN := Lib.hid (show rotN l key now overlap span = if rotK l key now overlap span = true then (if rotF l key now overlap span = true then 92 else 0) else firstN (rotCh l key now overlap span (rotX now)) from rfl)
  have HT : (rotK l key now overlap span = true ∧ firstB (rotCh l key now overlap span (rotX now)) = .nilIface ∧ firstN (rotCh l key now overlap span (rotX now)) = 0) ∨ (rotK l key now overlap span = false ∧ firstB (rotCh l key now overlap span (rotX now)) = .iface 82 (.agg #[.int .i64 (firstN (rotCh l key now overlap span (rotX now)))])) := firstB_two _
  clear hA hE
  obtain ⟨V, hV⟩ : ∃ V, firstB (rotCh l key now overlap span (rotX now)) = V := ⟨_, rfl⟩
  rw [hV] at HFI HT
  have HTT := Lib.hid HT
  have hx1 : IntKind.i64.wrap (1000000000000 - now) = rotX now := rfl
  clear HT hV
  generalize rotX now = X at *
  go_enter Tryz.func11, Tryz.ntmps11
  have B0 := Lib.hid (Below.refl w.heap.size w)
  go_wp2_with fail
  (with_reducible refine (HIR.out _).mono ?_); rintro e w1 ⟨b1, rfl, k1, hb⟩
  have B1 := Lib.hid (btr B0.out hb); clear hb
  go_wp2_with fail
  (with_reducible refine (HIK.out _).mono ?_); rintro e w2 ⟨b2, rfl, k2, hb⟩
  replace k1 := (hb.cell (blt k1)).trans k1
  have B2 := Lib.hid (btr B1.out hb); clear hb
  go_wp2_with fail
  (with_reducible refine (HP.out _).mono ?_); rintro e w3 ⟨p0, p1, p2, p3, rfl, kp, hb⟩
  replace k1 := (hb.cell (blt k1)).trans k1
  replace k2 := (hb.cell (blt k2)).trans k2
  have B3 := Lib.hid (btr B2.out hb); clear hb
  go_wp2_with fail
  (with_reducible refine (HQ.out _).mono ?_); rintro e w4 ⟨q0, q1, q2, q3, rfl, kq, hb⟩
  replace k1 := (hb.cell (blt k1)).trans k1
  replace k2 := (hb.cell (blt k2)).trans k2
  replace kp := kp.on hb
  have B4 := Lib.hid (btr B3.out hb); clear hb
  go_wp2_with fail
  (with_reducible refine (HR.out _).mono ?_); rintro e w5 ⟨r0, r1, r2, r3, rfl, kr, hb⟩
  replace k1 := (hb.cell (blt k1)).trans k1
  replace k2 := (hb.cell (blt k2)).trans k2
  replace kp := kp.on hb
  replace kq := kq.on hb
  have B5 := Lib.hid (btr B4.out hb); clear hb
  go_wp2_with fail
  (with_reducible refine (HS.out _).mono ?_); rintro e w6 ⟨s0, s1, s2, s3, rfl, ks, hb⟩
  replace k1 := (hb.cell (blt k1)).trans k1
  replace k2 := (hb.cell (blt k2)).trans k2
  replace kp := kp.on hb
  replace kq := kq.on hb
  replace kr := kr.on hb
  have B6 := Lib.hid (btr B5.out hb); clear hb
  clear hx1
  go_wp2_with fail
  (refine (HFI.out _ w6.heap.size b1 b2 p0 p1 p2 p3 q0 q1 q2 q3 r0 r1 r2 r3 s0 s1 s2 s3 ?z0 ?z1 ?z2 ?z3 ?z4 ?z5 ?z6 ?z7 ?z8 ?z9 ?z10 ?z11 ?z12).mono ?_)
  case z0 => go_simp
  case z1 => go_simp
  case z2 => go_simp
  case z3 => go_simp
  case z4 => go_simp
  case z5 => go_simp
  case z6 => exact ((below_alloc w6 _).cell (blt k1)).trans k1
  case z7 => exact ((below_alloc w6 _).cell (blt k2)).trans k2
  case z8 => exact kp.on (below_alloc w6 _)
  case z9 => exact kq.on (below_alloc w6 _)
  case z10 => exact kr.on (below_alloc w6 _)
  case z11 => exact ks.on (below_alloc w6 _)
  case z12 => exact (HA.out.on B6.out).on (below_alloc w6 _)
  rintro e w7 ⟨rfl, hb⟩
  have B7 := Lib.hid (btr (bal B6.out _) hb)
  clear hb k1 k2 kp kq kr ks HFI HIR HIK HP HQ HR HS B0 B1 B2 B3 B4 B5 B6
  rcases HTT.out with ⟨h1, rfl, h3⟩ | ⟨h1, rfl⟩
  · obtain ⟨f1, f2, ⟨f3, f4⟩, ⟨f5, f6⟩, ⟨f7, f8⟩, f9⟩ := HK.out h1
    have hg := grtL_bound (right_ids f1)
    have hl4 := right_len f1
    have HGR := Lib.hid (fun W h => greatest_c a cap l hs W h)
    have HRD := Lib.hid (rotated_ch a cap l hs now (now + overlap))
    have HUP := Lib.hid (fun W => upTo_e a l.length cap now (now + overlap) W)
    have hcl := chL_len (rotS now (now + overlap)) (rotD (now + overlap)) l
    have hLL : rotL l key now overlap span = chL (rotS now (now + overlap)) (rotD (now + overlap)) l ++ [⟨grtL l + 1, key, now, now + span⟩] := rfl
    have hFF : rotF l key now overlap span = (decide (4 < (rotL l key now overlap span).length) || decide (1000000000 < grtL l + 1)) := rfl
    rw [hLL, List.length_append, List.length_singleton] at hFF
    rw [h1, Bool.true_and] at HM HI
    rw [if_pos h1] at HN
    obtain ⟨g, hgg⟩ : ∃ g, grtL l = g := ⟨_, rfl⟩
    rw [hgg] at HGR hg HI hLL hFF
    obtain ⟨m0, hm0⟩ : ∃ m, chL (rotS now (now + overlap)) (rotD (now + overlap)) l = m := ⟨_, rfl⟩
    rw [hm0] at HRD hcl hLL hFF
    have HL := Lib.hid hLL
    have HF := Lib.hid hFF
    have hml : m0.length ≤ 4 := Nat.le_trans hcl hl4
    obtain ⟨hg0, hg1⟩ := hg
    obtain ⟨i0, hi, hz0, hz1, hz2⟩ := infoCrd
    clear HTT h1 h3 HK hLL hFF hgg hm0 hcl f1 f2 hl4 HWI HNO
    go_wp2_with fail
    refine (HGR.out _ ((HA.out.on B7.out).on (below_alloc w7 _))).mono ?_; rintro e w8 ⟨rfl, rfl⟩
    go_wp2_with fail
    have t0 : ((w7.alloc (.cells #[.slice a l.length cap, .int .i64 now] 57)).alloc (.cells #[.int .i64 (g + 1), .string key, .int .i64 now, .int .i64 (now + span)] 37)).cell? ⟨w7.heap.size, 0, none⟩ = some (.slice a l.length cap) := by go_simp
    have t1 : ((w7.alloc (.cells #[.slice a l.length cap, .int .i64 now] 57)).alloc (.cells #[.int .i64 (g + 1), .string key, .int .i64 now, .int .i64 (now + span)] 37)).cell? ⟨w7.heap.size, 1, none⟩ = some (.int .i64 now) := by go_simp
    have t2 : ((w7.alloc (.cells #[.slice a l.length cap, .int .i64 now] 57)).alloc (.cells #[.int .i64 (g + 1), .string key, .int .i64 now, .int .i64 (now + span)] 37)).cell? ⟨w7.heap.size + 1, 0, none⟩ = some (.int .i64 (g + 1)) := by go_simp
    have t3 : ((w7.alloc (.cells #[.slice a l.length cap, .int .i64 now] 57)).alloc (.cells #[.int .i64 (g + 1), .string key, .int .i64 now, .int .i64 (now + span)] 37)).cell? ⟨w7.heap.size + 1, 1, none⟩ = some (.string key) := by go_simp
    have t4 : ((w7.alloc (.cells #[.slice a l.length cap, .int .i64 now] 57)).alloc (.cells #[.int .i64 (g + 1), .string key, .int .i64 now, .int .i64 (now + span)] 37)).cell? ⟨w7.heap.size + 1, 2, none⟩ = some (.int .i64 now) := by go_simp
    have t5 : ((w7.alloc (.cells #[.slice a l.length cap, .int .i64 now] 57)).alloc (.cells #[.int .i64 (g + 1), .string key, .int .i64 now, .int .i64 (now + span)] 37)).cell? ⟨w7.heap.size + 1, 3, none⟩ = some (.int .i64 (now + span)) := by go_simp
    have HYU := Lib.hid (bal (bal B7.out (.cells #[.slice a l.length cap, .int .i64 now] 57)) (.cells #[.int .i64 (g + 1), .string key, .int .i64 now, .int .i64 (now + span)] 37))
    have HAU := Lib.hid (HA.out.on HYU.out)
    have ea : IntKind.i64.wrap (now + overlap) = now + overlap := IntWalk.i64_in _ (by omega)
    generalize ((w7.alloc (.cells #[.slice a l.length cap, .int .i64 now] 57)).alloc (.cells #[.int .i64 (g + 1), .string key, .int .i64 now, .int .i64 (now + span)] 37)) = U at *
    have u0 : Below U.heap.size U U := Below.refl _ U
    have MK := Lib.hid (show ∀ w', Below U.heap.size U w' → w'.cell? ⟨w7.heap.size, 0, none⟩ = some (.slice a l.length cap) ∧ w'.cell? ⟨w7.heap.size, 1, none⟩ = some (.int .i64 now) ∧ w'.cell? ⟨w7.heap.size + 1, 0, none⟩ = some (.int .i64 (g + 1)) ∧ w'.cell? ⟨w7.heap.size + 1, 1, none⟩ = some (.string key) ∧ w'.cell? ⟨w7.heap.size + 1, 2, none⟩ = some (.int .i64 now) ∧ w'.cell? ⟨w7.heap.size + 1, 3, none⟩ = some (.int .i64 (now + span)) ∧ Below U.heap.size U w' from fun w' h => ⟨(h.cell (blt t0)).trans t0, (h.cell (blt t1)).trans t1, (h.cell (blt t2)).trans t2, (h.cell (blt t3)).trans t3, (h.cell (blt t4)).trans t4, (h.cell (blt t5)).trans t5, h⟩)
    refine wp_region_held_drew (S := (fun w' => w'.cell? ⟨w7.heap.size, 0, none⟩ = some (.slice a l.length cap) ∧ w'.cell? ⟨w7.heap.size, 1, none⟩ = some (.int .i64 now) ∧ w'.cell? ⟨w7.heap.size + 1, 0, none⟩ = some (.int .i64 (g + 1)) ∧ w'.cell? ⟨w7.heap.size + 1, 1, none⟩ = some (.string key) ∧ w'.cell? ⟨w7.heap.size + 1, 2, none⟩ = some (.int .i64 now) ∧ w'.cell? ⟨w7.heap.size + 1, 3, none⟩ = some (.int .i64 (now + span)) ∧ Below U.heap.size U w')) (by kernel_rfl) ?_ (fun hHeld => ?_)
    · (first | with_reducible assumption | exact MK.out _ (by with_reducible assumption) | exact MK.out _ (below_drew (by with_reducible assumption)))
    refine takeH (i := 0) (some 51) (v := ?_) rfl rfl (by kernel_rfl) (by kernel_rfl) (by kernel_rfl) (fun _ _ _ h => h) (Or.inl ⟨by rfl, ?hyR0⟩) hHeld ?restR0
    case hyR0 => (intro w hSw; (try dsimp only at hSw); go_simp; (try with_reducible rfl))
    try simp only [Act.put, List.setIfInBounds_toArray, List.set_cons_zero, List.set_cons_succ]
    refine takeH (i := 1) (some 52) (v := ?_) rfl rfl (by kernel_rfl) (by kernel_rfl) (by kernel_rfl) (fun _ _ _ h => h) (Or.inl ⟨by rfl, ?hyR1⟩) hHeld ?restR1
    case hyR1 => (intro w hSw; (try dsimp only at hSw); go_simp; (try with_reducible rfl))
    try simp only [Act.put, List.setIfInBounds_toArray, List.set_cons_zero, List.set_cons_succ]
    refine takeH (i := 2) (some 53) (v := ?_) rfl rfl (by kernel_rfl) (by kernel_rfl) (by kernel_rfl) (fun _ _ _ h => h) (Or.inl ⟨by rfl, ?hyR2⟩) hHeld ?restR2
    case hyR2 => (intro w hSw; (try dsimp only at hSw); go_simp; (try with_reducible rfl))
    try simp only [Act.put, List.setIfInBounds_toArray, List.set_cons_zero, List.set_cons_succ]
    refine takeH (i := 3) (some 54) (v := ?_) rfl rfl (by kernel_rfl) (by kernel_rfl) (by kernel_rfl) (fun _ _ _ h => h) (Or.inl ⟨by rfl, ?hyR3⟩) hHeld ?restR3
    case hyR3 => (intro w hSw; (try dsimp only at hSw); go_simp; (try with_reducible rfl))
    try simp only [Act.put, List.setIfInBounds_toArray, List.set_cons_zero, List.set_cons_succ]
    refine takeH (i := 4) (some 55) (v := ?_) rfl rfl (by kernel_rfl) (by kernel_rfl) (by kernel_rfl) (fun _ _ _ h => h) (Or.inl ⟨by rfl, ?hyR4⟩) hHeld ?restR4
    case hyR4 => (intro w hSw; (try dsimp only at hSw); go_simp; (try with_reducible rfl))
    try simp only [Act.put, List.setIfInBounds_toArray, List.set_cons_zero, List.set_cons_succ]
    refine takeH (i := 5) (some 56) (v := ?_) rfl rfl (by kernel_rfl) (by kernel_rfl) (by kernel_rfl) (fun _ _ _ h => h) (Or.inl ⟨by rfl, ?hyR5⟩) hHeld ?restR5
    case hyR5 => (intro w hSw; (try dsimp only at hSw); go_simp; (try with_reducible rfl))
    try simp only [Act.put, List.setIfInBounds_toArray, List.set_cons_zero, List.set_cons_succ]
    refine takeH (i := 8) (some 59) (v := ?_) rfl rfl (by kernel_rfl) (by kernel_rfl) (by kernel_rfl) (fun _ _ _ h => h) (Or.inl ⟨by rfl, ?hyR8⟩) hHeld ?restR8
    case hyR8 => (intro w hSw; (try dsimp only at hSw); go_simp; (try with_reducible rfl))
    try simp only [Act.put, List.setIfInBounds_toArray, List.set_cons_zero, List.set_cons_succ]
    refine wpAnyH_ready (rs := [6, 9]) (by kernel_rfl) (by simp) ?_
    refine AllReadyH.cons rfl (fun K2 hK => ?A) (AllReadyH.cons rfl (fun K2 hK => ?B) AllReadyH.nil)
    case A =>
      go_simp
      (with_reducible refine (HUP.out _).mono ?_); rintro e wn ⟨bs, bi, rfl, ks, pB⟩; have sB := btr hHeld.2.2.2.2.2.2 pB; clear pB hHeld
      refine hK.out _ _ ?_ (fun hHeld => ?_)
      · (first | with_reducible assumption | exact MK.out _ (by with_reducible assumption) | exact MK.out _ (below_drew (by with_reducible assumption)))
      clear hK K2
      try simp only [Act.put, List.setIfInBounds_toArray, List.set_cons_zero, List.set_cons_succ]
      refine wpAnyH_ready (rs := [7, 9]) (by kernel_rfl) (by simp) ?_
      refine AllReadyH.cons rfl (fun K2 hK => ?A1) (AllReadyH.cons rfl (fun K2 hK => ?A2) AllReadyH.nil)
      case A1 =>
        go_simp
        (with_reducible refine (HRD.out bs bi _ (HAU.out.on hHeld.2.2.2.2.2.2) ks).mono ?_); rintro e wn ⟨v, rfl, ho, pB⟩; replace ho := row_mono ho (z' := U.heap.size) (hHeld.2.2.2.2.2.2).size; have sB := btr hHeld.2.2.2.2.2.2 pB; clear pB hHeld
        refine hK.out _ _ ?_ (fun hHeld => ?_)
        · (first | with_reducible assumption | exact MK.out _ (by with_reducible assumption) | exact MK.out _ (below_drew (by with_reducible assumption)))
        clear hK K2
        try simp only [Act.put, List.setIfInBounds_toArray, List.set_cons_zero, List.set_cons_succ]
        refine wpAnyH_ready (rs := [9]) (by kernel_rfl) (by simp) ?_
        refine AllReadyH.cons rfl (fun K2 hK => ?_) AllReadyH.nil
        go_simp
        have ho1 := ho.alloc (.cells #[.int .i64 (g + 1), .string key, .int .i64 now, .int .i64 (now + span)] 37)
        clear ho
        have ho := ho1
        have nw : ∀ (j : Nat) u, ([.int .i64 (g + 1), .string key, .int .i64 now, .int .i64 (now + span)] : List Value)[j]? = some u → (wn.alloc (.cells #[.int .i64 (g + 1), .string key, .int .i64 now, .int .i64 (now + span)] 37)).cell? ((⟨wn.heap.size, 0, none⟩ : Addr).add j) = some u := by
          have := World.news_of_block (w := (wn.alloc (.cells #[.int .i64 (g + 1), .string key, .int .i64 now, .int .i64 (now + span)] 37))) (B := wn.heap.size) (cs := #[.int .i64 (g + 1), .string key, .int .i64 now, .int .i64 (now + span)]) (t := 37) (fr := (0, 0)) (by first | exact World.alloc_heap_new wn _ | exact heap_alloc_new wn _)
          exact this
        refine hK.out _ _ ?_ (fun hHeld => ?_)
        · exact MK.out _ (by first | exact bal hHeld.2.2.2.2.2.2 _ | exact below_drew (bal hHeld.2.2.2.2.2.2 _))
        clear hK K2
        try simp only [Act.put, List.setIfInBounds_toArray, List.set_cons_zero, List.set_cons_succ]
        refine wpAnyH_ready (rs := [10]) (by kernel_rfl) (by simp) ?_
        refine AllReadyH.cons rfl (fun K2 hK => ?_) AllReadyH.nil
        obtain ⟨av, cv, rfl⟩ := row_form ho
        refine wp_append_own _ (.tmp 58) (.tmp 60) 22 rfl U.heap.size 37 i0 (.agg #[.int .i64 0, .string ⟨#[]⟩, .int .i64 0, .int .i64 0]) 4 40 Tryz.underlying22 hi hz0 hz1 hz2 rfl (by decide) _ m0.length (crdCs m0) rfl ho ⟨wn.heap.size, 0, none⟩ 1 1 [.int .i64 (g + 1), .string key, .int .i64 now, .int .i64 (now + span)] rfl rfl nw (by simp [Value.oneCell']) (by unfold maxLen; omega) (by omega) (hHeld.2.2.2.2.2.2).size ?_
        intro u w9 ho9 hg9 _
        obtain ⟨au, cu, rfl⟩ := row_form ho9
        have sB := (hHeld.2.2.2.2.2.2).grown hg9 (hHeld.2.2.2.2.2.2).size (fun j hj => (row_lt ho hj).1)
        refine hK.out _ _ ?_ (fun hHeld => ?_)
        · exact MK.out _ sB
        clear hK K2
        try simp only [Act.put, List.setIfInBounds_toArray]
        refine takeH (i := 11) (some 16) (v := ?_) rfl rfl (by kernel_rfl) (by kernel_rfl) (by kernel_rfl) (fun _ _ _ h => h) (Or.inl ⟨by rfl, ?hyR111⟩) hHeld ?restR111
        case hyR111 => (intro w hSw; (try dsimp only at hSw); go_simp; (try with_reducible rfl))
        try simp only [Act.put]
        refine wpAnyH_done (by kernel_rfl) ?_ _
        have HB9 := Lib.hid (btr HYU.out (hHeld.2.2.2.2.2.2))
        have HO9 := Lib.hid (row_mono ho9 (z' := w.heap.size) HYU.out.size)
        have j0 := hHeld.2.2.1
        clear hHeld ho9 hg9 sB t0 t1 t2 t3 t4 t5 ho
        by_cases q1 : 4 < m0.length + 1
        · have q1' : (4 : Int) < (m0.length : Int) + 1 := by omega
          have hff : rotF l key now overlap span = true := by rw [HF.out, decide_eq_true q1]; rfl
          have HRM := Lib.hid (show rotM l key now overlap span = [] from HM.out.trans (by simp [hff]))
          have HRI := Lib.hid (show rotI l key now overlap span = 0 from HI.out.trans (by simp [hff]))
          have HRN := Lib.hid (show rotN l key now overlap span = 92 from HN.out.trans (by simp [hff]))
          clear hff HM HI HN HF
          go_wp2
          go_ret3
          refine ⟨_, by rw [HRN.out, HRI.out]; rfl, ?_, HB9.out⟩
          rw [HRM.out]
          exact World.ownsRow_nil _ _ _ _
        · have q1' : ¬ (4 : Int) < (m0.length : Int) + 1 := by omega
          by_cases q2 : 1000000000 < g + 1
          · have hff : rotF l key now overlap span = true := by rw [HF.out, decide_eq_true q2, Bool.or_true]
            have HRM := Lib.hid (show rotM l key now overlap span = [] from HM.out.trans (by simp [hff]))
            have HRI := Lib.hid (show rotI l key now overlap span = 0 from HI.out.trans (by simp [hff]))
            have HRN := Lib.hid (show rotN l key now overlap span = 92 from HN.out.trans (by simp [hff]))
            clear hff HM HI HN HF
            go_wp2
            go_ret3
            refine ⟨_, by rw [HRN.out, HRI.out]; rfl, ?_, HB9.out⟩
            rw [HRM.out]
            exact World.ownsRow_nil _ _ _ _
          · have hff : rotF l key now overlap span = false := by rw [HF.out, decide_eq_false q1, decide_eq_false q2]; rfl
            have HRM := Lib.hid (show rotM l key now overlap span = rotL l key now overlap span from HM.out.trans (by simp [hff]))
            have HRI := Lib.hid (show rotI l key now overlap span = g + 1 from HI.out.trans (by simp [hff]))
            have HRN := Lib.hid (show rotN l key now overlap span = 0 from HN.out.trans (by simp [hff]))
            clear hff HM HI HN HF
            go_wp2_with fail
            have u0 : Below w9.heap.size w9 w9 := Below.refl _ w9
            have MK := Lib.hid (show ∀ w', Below w9.heap.size w9 w' → w'.cell? ⟨w7.heap.size + 1, 0, none⟩ = some (.int .i64 (g + 1)) ∧ Below w9.heap.size w9 w' from fun w' h => ⟨(h.cell (blt j0)).trans j0, h⟩)
            refine wp_region_held_drew (S := (fun w' => w'.cell? ⟨w7.heap.size + 1, 0, none⟩ = some (.int .i64 (g + 1)) ∧ Below w9.heap.size w9 w')) (by kernel_rfl) ?_ (fun hHeld => ?_)
            · (first | with_reducible assumption | exact MK.out _ (by with_reducible assumption) | exact MK.out _ (below_drew (by with_reducible assumption)))
            refine takeH (i := 0) (some 70) (v := ?_) rfl rfl (by kernel_rfl) (by kernel_rfl) (by kernel_rfl) (fun _ _ _ h => h) (Or.inl ⟨by rfl, ?hyNR10⟩) hHeld ?restNR10
            case hyNR10 => (intro w hSw; (try dsimp only at hSw); go_simp; (try with_reducible rfl))
            try simp only [Act.put, List.setIfInBounds_toArray, List.set_cons_zero, List.set_cons_succ]
            refine takeH (i := 1) (some 71) (v := ?_) rfl rfl (by kernel_rfl) (by kernel_rfl) (by kernel_rfl) (fun _ _ _ h => h) (Or.inl ⟨by rfl, ?hyNR11⟩) hHeld ?restNR11
            case hyNR11 => (intro w hSw; (try dsimp only at hSw); go_simp; (try with_reducible rfl))
            try simp only [Act.put, List.setIfInBounds_toArray, List.set_cons_zero, List.set_cons_succ]
            refine takeH (i := 2) (some 72) (v := ?_) rfl rfl (by kernel_rfl) (by kernel_rfl) (by kernel_rfl) (fun _ _ _ h => h) (Or.inl ⟨by rfl, ?hyNR12⟩) hHeld ?restNR12
            case hyNR12 => (intro w hSw; (try dsimp only at hSw); go_simp; (try with_reducible rfl))
            try simp only [Act.put, List.setIfInBounds_toArray, List.set_cons_zero, List.set_cons_succ]
            refine takeH (i := 3) (some 10) (v := ?_) rfl rfl (by kernel_rfl) (by kernel_rfl) (by kernel_rfl) (fun _ _ _ h => h) (Or.inl ⟨by rfl, ?hyNR13⟩) hHeld ?restNR13
            case hyNR13 => (intro w hSw; (try dsimp only at hSw); go_simp; (try with_reducible rfl))
            try simp only [Act.put, List.setIfInBounds_toArray, List.set_cons_zero, List.set_cons_succ]
            refine takeH (i := 4) (some 11) (v := ?_) rfl rfl (by kernel_rfl) (by kernel_rfl) (by kernel_rfl) (fun _ _ _ h => h) (Or.inl ⟨by rfl, ?hyNR14⟩) hHeld ?restNR14
            case hyNR14 => (intro w hSw; (try dsimp only at hSw); go_simp; (try with_reducible rfl))
            try simp only [Act.put, List.setIfInBounds_toArray, List.set_cons_zero, List.set_cons_succ]
            refine takeH (i := 5) (some 12) (v := ?_) rfl rfl (by kernel_rfl) (by kernel_rfl) (by kernel_rfl) (fun _ _ _ h => h) (Or.inl ⟨by rfl, ?hyNR15⟩) hHeld ?restNR15
            case hyNR15 => (intro w hSw; (try dsimp only at hSw); go_simp; (try with_reducible rfl))
            try simp only [Act.put, List.setIfInBounds_toArray, List.set_cons_zero, List.set_cons_succ]
            refine wpAnyH_done (by kernel_rfl) ?_ _
            have HB10 := Lib.hid (btr HB9.out hHeld.2)
            have HO10 := Lib.hid (row_on HO9.out hHeld.2)
            go_wp2
            go_ret3
            refine ⟨_, by rw [HRN.out, HRI.out]; rfl, ?_, HB10.out⟩
            rw [HRM.out, HL.out, List.length_append, crdCs_append]
            exact HO10.out
      case A2 =>
        go_simp
        have nw : ∀ (j : Nat) u, ([.int .i64 (g + 1), .string key, .int .i64 now, .int .i64 (now + span)] : List Value)[j]? = some u → (wn.alloc (.cells #[.int .i64 (g + 1), .string key, .int .i64 now, .int .i64 (now + span)] 37)).cell? ((⟨wn.heap.size, 0, none⟩ : Addr).add j) = some u := by
          have := World.news_of_block (w := (wn.alloc (.cells #[.int .i64 (g + 1), .string key, .int .i64 now, .int .i64 (now + span)] 37))) (B := wn.heap.size) (cs := #[.int .i64 (g + 1), .string key, .int .i64 now, .int .i64 (now + span)]) (t := 37) (fr := (0, 0)) (by first | exact World.alloc_heap_new wn _ | exact heap_alloc_new wn _)
          exact this
        have ks1 := ks.on (below_alloc wn (.cells #[.int .i64 (g + 1), .string key, .int .i64 now, .int .i64 (now + span)] 37))
        have hzb : wn.heap.size < (wn.alloc (.cells #[.int .i64 (g + 1), .string key, .int .i64 now, .int .i64 (now + span)] 37)).heap.size := by simp
        clear ks
        have ks := ks1
        obtain ⟨zb, hze⟩ : ∃ zb, wn.heap.size = zb := ⟨_, rfl⟩
        rw [hze] at nw hzb
        refine hK.out _ _ ?_ (fun hHeld => ?_)
        · exact MK.out _ (by first | exact bal hHeld.2.2.2.2.2.2 _ | exact below_drew (bal hHeld.2.2.2.2.2.2 _))
        clear hK K2
        try simp only [Act.put, List.setIfInBounds_toArray, List.set_cons_zero, List.set_cons_succ]
        refine wpAnyH_ready (rs := [7]) (by kernel_rfl) (by simp) ?_
        refine AllReadyH.cons rfl (fun K2 hK => ?_) AllReadyH.nil
        go_simp
        skip
        (with_reducible refine (HRD.out bs bi _ (HAU.out.on hHeld.2.2.2.2.2.2) ks).mono ?_); rintro e wn ⟨v, rfl, ho, pB⟩; replace ho := row_mono ho (z' := U.heap.size) (hHeld.2.2.2.2.2.2).size; have nw2 := fun (j : Nat) u h => (pB.cell (p := (⟨zb, 0, none⟩ : Addr).add j) (by rw [add_block]; exact hzb)).trans (nw j u h); have sB := btr hHeld.2.2.2.2.2.2 pB; clear pB hHeld
        refine hK.out _ _ ?_ (fun hHeld => ?_)
        · (first | with_reducible assumption | exact MK.out _ (by with_reducible assumption) | exact MK.out _ (below_drew (by with_reducible assumption)))
        clear hK K2
        try simp only [Act.put, List.setIfInBounds_toArray, List.set_cons_zero, List.set_cons_succ]
        skip
        refine wpAnyH_ready (rs := [10]) (by kernel_rfl) (by simp) ?_
        refine AllReadyH.cons rfl (fun K2 hK => ?_) AllReadyH.nil
        obtain ⟨av, cv, rfl⟩ := row_form ho
        refine wp_append_own _ (.tmp 58) (.tmp 60) 22 rfl U.heap.size 37 i0 (.agg #[.int .i64 0, .string ⟨#[]⟩, .int .i64 0, .int .i64 0]) 4 40 Tryz.underlying22 hi hz0 hz1 hz2 rfl (by decide) _ m0.length (crdCs m0) rfl ho ⟨zb, 0, none⟩ 1 1 [.int .i64 (g + 1), .string key, .int .i64 now, .int .i64 (now + span)] rfl rfl nw2 (by simp [Value.oneCell']) (by unfold maxLen; omega) (by omega) (hHeld.2.2.2.2.2.2).size ?_
        intro u w9 ho9 hg9 _
        obtain ⟨au, cu, rfl⟩ := row_form ho9
        have sB := (hHeld.2.2.2.2.2.2).grown hg9 (hHeld.2.2.2.2.2.2).size (fun j hj => (row_lt ho hj).1)
        refine hK.out _ _ ?_ (fun hHeld => ?_)
        · exact MK.out _ sB
        clear hK K2
        try simp only [Act.put, List.setIfInBounds_toArray]
        refine takeH (i := 11) (some 16) (v := ?_) rfl rfl (by kernel_rfl) (by kernel_rfl) (by kernel_rfl) (fun _ _ _ h => h) (Or.inl ⟨by rfl, ?hyR211⟩) hHeld ?restR211
        case hyR211 => (intro w hSw; (try dsimp only at hSw); go_simp; (try with_reducible rfl))
        try simp only [Act.put]
        refine wpAnyH_done (by kernel_rfl) ?_ _
        have HB9 := Lib.hid (btr HYU.out (hHeld.2.2.2.2.2.2))
        have HO9 := Lib.hid (row_mono ho9 (z' := w.heap.size) HYU.out.size)
        have j0 := hHeld.2.2.1
        clear hHeld ho9 hg9 sB t0 t1 t2 t3 t4 t5 ho
        by_cases q1 : 4 < m0.length + 1
        · have q1' : (4 : Int) < (m0.length : Int) + 1 := by omega
          have hff : rotF l key now overlap span = true := by rw [HF.out, decide_eq_true q1]; rfl
          have HRM := Lib.hid (show rotM l key now overlap span = [] from HM.out.trans (by simp [hff]))
          have HRI := Lib.hid (show rotI l key now overlap span = 0 from HI.out.trans (by simp [hff]))
          have HRN := Lib.hid (show rotN l key now overlap span = 92 from HN.out.trans (by simp [hff]))
          clear hff HM HI HN HF
          go_wp2
          go_ret3
          refine ⟨_, by rw [HRN.out, HRI.out]; rfl, ?_, HB9.out⟩
          rw [HRM.out]
          exact World.ownsRow_nil _ _ _ _
        · have q1' : ¬ (4 : Int) < (m0.length : Int) + 1 := by omega
          by_cases q2 : 1000000000 < g + 1
          · have hff : rotF l key now overlap span = true := by rw [HF.out, decide_eq_true q2, Bool.or_true]
            have HRM := Lib.hid (show rotM l key now overlap span = [] from HM.out.trans (by simp [hff]))
            have HRI := Lib.hid (show rotI l key now overlap span = 0 from HI.out.trans (by simp [hff]))
            have HRN := Lib.hid (show rotN l key now overlap span = 92 from HN.out.trans (by simp [hff]))
            clear hff HM HI HN HF
            go_wp2
            go_ret3
            refine ⟨_, by rw [HRN.out, HRI.out]; rfl, ?_, HB9.out⟩
            rw [HRM.out]
            exact World.ownsRow_nil _ _ _ _
          · have hff : rotF l key now overlap span = false := by rw [HF.out, decide_eq_false q1, decide_eq_false q2]; rfl
            have HRM := Lib.hid (show rotM l key now overlap span = rotL l key now overlap span from HM.out.trans (by simp [hff]))
            have HRI := Lib.hid (show rotI l key now overlap span = g + 1 from HI.out.trans (by simp [hff]))
            have HRN := Lib.hid (show rotN l key now overlap span = 0 from HN.out.trans (by simp [hff]))
            clear hff HM HI HN HF
            go_wp2_with fail
            have u0 : Below w9.heap.size w9 w9 := Below.refl _ w9
            have MK := Lib.hid (show ∀ w', Below w9.heap.size w9 w' → w'.cell? ⟨w7.heap.size + 1, 0, none⟩ = some (.int .i64 (g + 1)) ∧ Below w9.heap.size w9 w' from fun w' h => ⟨(h.cell (blt j0)).trans j0, h⟩)
            refine wp_region_held_drew (S := (fun w' => w'.cell? ⟨w7.heap.size + 1, 0, none⟩ = some (.int .i64 (g + 1)) ∧ Below w9.heap.size w9 w')) (by kernel_rfl) ?_ (fun hHeld => ?_)
            · (first | with_reducible assumption | exact MK.out _ (by with_reducible assumption) | exact MK.out _ (below_drew (by with_reducible assumption)))
            refine takeH (i := 0) (some 70) (v := ?_) rfl rfl (by kernel_rfl) (by kernel_rfl) (by kernel_rfl) (fun _ _ _ h => h) (Or.inl ⟨by rfl, ?hyNR20⟩) hHeld ?restNR20
            case hyNR20 => (intro w hSw; (try dsimp only at hSw); go_simp; (try with_reducible rfl))
            try simp only [Act.put, List.setIfInBounds_toArray, List.set_cons_zero, List.set_cons_succ]
            refine takeH (i := 1) (some 71) (v := ?_) rfl rfl (by kernel_rfl) (by kernel_rfl) (by kernel_rfl) (fun _ _ _ h => h) (Or.inl ⟨by rfl, ?hyNR21⟩) hHeld ?restNR21
            case hyNR21 => (intro w hSw; (try dsimp only at hSw); go_simp; (try with_reducible rfl))
            try simp only [Act.put, List.setIfInBounds_toArray, List.set_cons_zero, List.set_cons_succ]
            refine takeH (i := 2) (some 72) (v := ?_) rfl rfl (by kernel_rfl) (by kernel_rfl) (by kernel_rfl) (fun _ _ _ h => h) (Or.inl ⟨by rfl, ?hyNR22⟩) hHeld ?restNR22
            case hyNR22 => (intro w hSw; (try dsimp only at hSw); go_simp; (try with_reducible rfl))
            try simp only [Act.put, List.setIfInBounds_toArray, List.set_cons_zero, List.set_cons_succ]
            refine takeH (i := 3) (some 10) (v := ?_) rfl rfl (by kernel_rfl) (by kernel_rfl) (by kernel_rfl) (fun _ _ _ h => h) (Or.inl ⟨by rfl, ?hyNR23⟩) hHeld ?restNR23
            case hyNR23 => (intro w hSw; (try dsimp only at hSw); go_simp; (try with_reducible rfl))
            try simp only [Act.put, List.setIfInBounds_toArray, List.set_cons_zero, List.set_cons_succ]
            refine takeH (i := 4) (some 11) (v := ?_) rfl rfl (by kernel_rfl) (by kernel_rfl) (by kernel_rfl) (fun _ _ _ h => h) (Or.inl ⟨by rfl, ?hyNR24⟩) hHeld ?restNR24
            case hyNR24 => (intro w hSw; (try dsimp only at hSw); go_simp; (try with_reducible rfl))
            try simp only [Act.put, List.setIfInBounds_toArray, List.set_cons_zero, List.set_cons_succ]
            refine takeH (i := 5) (some 12) (v := ?_) rfl rfl (by kernel_rfl) (by kernel_rfl) (by kernel_rfl) (fun _ _ _ h => h) (Or.inl ⟨by rfl, ?hyNR25⟩) hHeld ?restNR25
            case hyNR25 => (intro w hSw; (try dsimp only at hSw); go_simp; (try with_reducible rfl))
            try simp only [Act.put, List.setIfInBounds_toArray, List.set_cons_zero, List.set_cons_succ]
            refine wpAnyH_done (by kernel_rfl) ?_ _
            have HB10 := Lib.hid (btr HB9.out hHeld.2)
            have HO10 := Lib.hid (row_on HO9.out hHeld.2)
            go_wp2
            go_ret3
            refine ⟨_, by rw [HRN.out, HRI.out]; rfl, ?_, HB10.out⟩
            rw [HRM.out, HL.out, List.length_append, crdCs_append]
            exact HO10.out
    case B =>
      go_simp
      have nw : ∀ (j : Nat) u, ([.int .i64 (g + 1), .string key, .int .i64 now, .int .i64 (now + span)] : List Value)[j]? = some u → (U.alloc (.cells #[.int .i64 (g + 1), .string key, .int .i64 now, .int .i64 (now + span)] 37)).drew.cell? ((⟨U.heap.size, 0, none⟩ : Addr).add j) = some u := by
        have := World.news_of_block (w := (U.alloc (.cells #[.int .i64 (g + 1), .string key, .int .i64 now, .int .i64 (now + span)] 37)).drew) (B := U.heap.size) (cs := #[.int .i64 (g + 1), .string key, .int .i64 now, .int .i64 (now + span)]) (t := 37) (fr := (0, 0)) (by first | exact World.alloc_heap_new U _ | exact heap_alloc_new U _)
        exact this
      have hzb : U.heap.size < (U.alloc (.cells #[.int .i64 (g + 1), .string key, .int .i64 now, .int .i64 (now + span)] 37)).drew.heap.size := by simp
      refine hK.out _ _ ?_ (fun hHeld => ?_)
      · exact MK.out _ (below_drew (bal u0 _))
      clear hK K2
      try simp only [Act.put, List.setIfInBounds_toArray, List.set_cons_zero, List.set_cons_succ]
      refine wpAnyH_ready (rs := [6]) (by kernel_rfl) (by simp) ?_
      refine AllReadyH.cons rfl (fun K2 hK => ?_) AllReadyH.nil
      go_simp
      (with_reducible refine (HUP.out _).mono ?_); rintro e wn ⟨bs, bi, rfl, ks, pB⟩; have nw1 := fun (j : Nat) u h => (pB.cell (p := (⟨U.heap.size, 0, none⟩ : Addr).add j) (by rw [add_block]; exact hzb)).trans (nw j u h); replace hzb := Nat.lt_of_lt_of_le hzb pB.size; have sB := btr hHeld.2.2.2.2.2.2 pB; clear pB hHeld
      refine hK.out _ _ ?_ (fun hHeld => ?_)
      · (first | with_reducible assumption | exact MK.out _ (by with_reducible assumption) | exact MK.out _ (below_drew (by with_reducible assumption)))
      clear hK K2
      try simp only [Act.put, List.setIfInBounds_toArray, List.set_cons_zero, List.set_cons_succ]
      refine wpAnyH_ready (rs := [7]) (by kernel_rfl) (by simp) ?_
      refine AllReadyH.cons rfl (fun K2 hK => ?_) AllReadyH.nil
      go_simp
      (with_reducible refine (HRD.out bs bi _ (HAU.out.on hHeld.2.2.2.2.2.2) ks).mono ?_); rintro e wn ⟨v, rfl, ho, pB⟩; replace ho := row_mono ho (z' := U.heap.size) (hHeld.2.2.2.2.2.2).size; have nw2 := fun (j : Nat) u h => (pB.cell (p := (⟨U.heap.size, 0, none⟩ : Addr).add j) (by rw [add_block]; exact hzb)).trans (nw1 j u h); replace hzb := Nat.lt_of_lt_of_le hzb pB.size; have sB := btr hHeld.2.2.2.2.2.2 pB; clear pB hHeld
      refine hK.out _ _ ?_ (fun hHeld => ?_)
      · (first | with_reducible assumption | exact MK.out _ (by with_reducible assumption) | exact MK.out _ (below_drew (by with_reducible assumption)))
      clear hK K2
      try simp only [Act.put, List.setIfInBounds_toArray, List.set_cons_zero, List.set_cons_succ]
      refine wpAnyH_ready (rs := [10]) (by kernel_rfl) (by simp) ?_
      refine AllReadyH.cons rfl (fun K2 hK => ?_) AllReadyH.nil
      obtain ⟨av, cv, rfl⟩ := row_form ho
      refine wp_append_own _ (.tmp 58) (.tmp 60) 22 rfl U.heap.size 37 i0 (.agg #[.int .i64 0, .string ⟨#[]⟩, .int .i64 0, .int .i64 0]) 4 40 Tryz.underlying22 hi hz0 hz1 hz2 rfl (by decide) _ m0.length (crdCs m0) rfl ho ⟨U.heap.size, 0, none⟩ 1 1 [.int .i64 (g + 1), .string key, .int .i64 now, .int .i64 (now + span)] rfl rfl nw2 (by simp [Value.oneCell']) (by unfold maxLen; omega) (by omega) (hHeld.2.2.2.2.2.2).size ?_
      intro u w9 ho9 hg9 _
      obtain ⟨au, cu, rfl⟩ := row_form ho9
      have sB := (hHeld.2.2.2.2.2.2).grown hg9 (hHeld.2.2.2.2.2.2).size (fun j hj => (row_lt ho hj).1)
      refine hK.out _ _ ?_ (fun hHeld => ?_)
      · exact MK.out _ sB
      clear hK K2
      try simp only [Act.put, List.setIfInBounds_toArray]
      refine takeH (i := 11) (some 16) (v := ?_) rfl rfl (by kernel_rfl) (by kernel_rfl) (by kernel_rfl) (fun _ _ _ h => h) (Or.inl ⟨by rfl, ?hyR311⟩) hHeld ?restR311
      case hyR311 => (intro w hSw; (try dsimp only at hSw); go_simp; (try with_reducible rfl))
      try simp only [Act.put]
      refine wpAnyH_done (by kernel_rfl) ?_ _
      have HB9 := Lib.hid (btr HYU.out (hHeld.2.2.2.2.2.2))
      have HO9 := Lib.hid (row_mono ho9 (z' := w.heap.size) HYU.out.size)
      have j0 := hHeld.2.2.1
      clear hHeld ho9 hg9 sB t0 t1 t2 t3 t4 t5 ho
      by_cases q1 : 4 < m0.length + 1
      · have q1' : (4 : Int) < (m0.length : Int) + 1 := by omega
        have hff : rotF l key now overlap span = true := by rw [HF.out, decide_eq_true q1]; rfl
        have HRM := Lib.hid (show rotM l key now overlap span = [] from HM.out.trans (by simp [hff]))
        have HRI := Lib.hid (show rotI l key now overlap span = 0 from HI.out.trans (by simp [hff]))
        have HRN := Lib.hid (show rotN l key now overlap span = 92 from HN.out.trans (by simp [hff]))
        clear hff HM HI HN HF
        go_wp2
        go_ret3
        refine ⟨_, by rw [HRN.out, HRI.out]; rfl, ?_, HB9.out⟩
        rw [HRM.out]
        exact World.ownsRow_nil _ _ _ _
      · have q1' : ¬ (4 : Int) < (m0.length : Int) + 1 := by omega
        by_cases q2 : 1000000000 < g + 1
        · have hff : rotF l key now overlap span = true := by rw [HF.out, decide_eq_true q2, Bool.or_true]
          have HRM := Lib.hid (show rotM l key now overlap span = [] from HM.out.trans (by simp [hff]))
          have HRI := Lib.hid (show rotI l key now overlap span = 0 from HI.out.trans (by simp [hff]))
          have HRN := Lib.hid (show rotN l key now overlap span = 92 from HN.out.trans (by simp [hff]))
          clear hff HM HI HN HF
          go_wp2
          go_ret3
          refine ⟨_, by rw [HRN.out, HRI.out]; rfl, ?_, HB9.out⟩
          rw [HRM.out]
          exact World.ownsRow_nil _ _ _ _
        · have hff : rotF l key now overlap span = false := by rw [HF.out, decide_eq_false q1, decide_eq_false q2]; rfl
          have HRM := Lib.hid (show rotM l key now overlap span = rotL l key now overlap span from HM.out.trans (by simp [hff]))
          have HRI := Lib.hid (show rotI l key now overlap span = g + 1 from HI.out.trans (by simp [hff]))
          have HRN := Lib.hid (show rotN l key now overlap span = 0 from HN.out.trans (by simp [hff]))
          clear hff HM HI HN HF
          go_wp2_with fail
          have u0 : Below w9.heap.size w9 w9 := Below.refl _ w9
          have MK := Lib.hid (show ∀ w', Below w9.heap.size w9 w' → w'.cell? ⟨w7.heap.size + 1, 0, none⟩ = some (.int .i64 (g + 1)) ∧ Below w9.heap.size w9 w' from fun w' h => ⟨(h.cell (blt j0)).trans j0, h⟩)
          refine wp_region_held_drew (S := (fun w' => w'.cell? ⟨w7.heap.size + 1, 0, none⟩ = some (.int .i64 (g + 1)) ∧ Below w9.heap.size w9 w')) (by kernel_rfl) ?_ (fun hHeld => ?_)
          · (first | with_reducible assumption | exact MK.out _ (by with_reducible assumption) | exact MK.out _ (below_drew (by with_reducible assumption)))
          refine takeH (i := 0) (some 70) (v := ?_) rfl rfl (by kernel_rfl) (by kernel_rfl) (by kernel_rfl) (fun _ _ _ h => h) (Or.inl ⟨by rfl, ?hyNR30⟩) hHeld ?restNR30
          case hyNR30 => (intro w hSw; (try dsimp only at hSw); go_simp; (try with_reducible rfl))
          try simp only [Act.put, List.setIfInBounds_toArray, List.set_cons_zero, List.set_cons_succ]
          refine takeH (i := 1) (some 71) (v := ?_) rfl rfl (by kernel_rfl) (by kernel_rfl) (by kernel_rfl) (fun _ _ _ h => h) (Or.inl ⟨by rfl, ?hyNR31⟩) hHeld ?restNR31
          case hyNR31 => (intro w hSw; (try dsimp only at hSw); go_simp; (try with_reducible rfl))
          try simp only [Act.put, List.setIfInBounds_toArray, List.set_cons_zero, List.set_cons_succ]
          refine takeH (i := 2) (some 72) (v := ?_) rfl rfl (by kernel_rfl) (by kernel_rfl) (by kernel_rfl) (fun _ _ _ h => h) (Or.inl ⟨by rfl, ?hyNR32⟩) hHeld ?restNR32
          case hyNR32 => (intro w hSw; (try dsimp only at hSw); go_simp; (try with_reducible rfl))
          try simp only [Act.put, List.setIfInBounds_toArray, List.set_cons_zero, List.set_cons_succ]
          refine takeH (i := 3) (some 10) (v := ?_) rfl rfl (by kernel_rfl) (by kernel_rfl) (by kernel_rfl) (fun _ _ _ h => h) (Or.inl ⟨by rfl, ?hyNR33⟩) hHeld ?restNR33
          case hyNR33 => (intro w hSw; (try dsimp only at hSw); go_simp; (try with_reducible rfl))
          try simp only [Act.put, List.setIfInBounds_toArray, List.set_cons_zero, List.set_cons_succ]
          refine takeH (i := 4) (some 11) (v := ?_) rfl rfl (by kernel_rfl) (by kernel_rfl) (by kernel_rfl) (fun _ _ _ h => h) (Or.inl ⟨by rfl, ?hyNR34⟩) hHeld ?restNR34
          case hyNR34 => (intro w hSw; (try dsimp only at hSw); go_simp; (try with_reducible rfl))
          try simp only [Act.put, List.setIfInBounds_toArray, List.set_cons_zero, List.set_cons_succ]
          refine takeH (i := 5) (some 12) (v := ?_) rfl rfl (by kernel_rfl) (by kernel_rfl) (by kernel_rfl) (fun _ _ _ h => h) (Or.inl ⟨by rfl, ?hyNR35⟩) hHeld ?restNR35
          case hyNR35 => (intro w hSw; (try dsimp only at hSw); go_simp; (try with_reducible rfl))
          try simp only [Act.put, List.setIfInBounds_toArray, List.set_cons_zero, List.set_cons_succ]
          refine wpAnyH_done (by kernel_rfl) ?_ _
          have HB10 := Lib.hid (btr HB9.out hHeld.2)
          have HO10 := Lib.hid (row_on HO9.out hHeld.2)
          go_wp2
          go_ret3
          refine ⟨_, by rw [HRN.out, HRI.out]; rfl, ?_, HB10.out⟩
          rw [HRM.out, HL.out, List.length_append, crdCs_append]
          exact HO10.out
  · have hf : ¬ (rotK l key now overlap span && !rotF l key now overlap span) = true := by rw [h1, Bool.false_and]; decide
    have HRM := Lib.hid (show rotM l key now overlap span = [] by rw [HM.out, if_neg hf])
    have HRI := Lib.hid (show rotI l key now overlap span = 0 by rw [HI.out, if_neg hf])
    have HRN := Lib.hid (show rotN l key now overlap span = firstN (rotCh l key now overlap span X) by rw [HN.out, if_neg (by rw [h1]; decide)])
    clear HTT h1 HM HI HN hf HK
    go_wp2_with fail
    refine (HWI.out _ _).mono ?_; rintro e w8 ⟨rfl, rfl⟩
    go_wp2_with fail
    refine (HNO.out _ _ (HE.out.onB B7.out)).mono ?_; rintro e w9 ⟨rfl, hb⟩
    have HB2 := Lib.hid (btr B7.out hb)
    clear hb
    go_wp2
    go_ret3
    refine ⟨_, by rw [HRN.out, HRI.out]; rfl, ?_, HB2.out⟩
    rw [HRM.out]
    exact World.ownsRow_nil _ _ _ _
end Go.Proofs.YtikpmkidfppknaaGreatDoor

/- Layer 5 as plain functions: two texts compared, byte by byte. -/
namespace Go.Proofs.YtikpmkidfppknaaGreatDoor

theorem xor_zero_iff (x y : Nat) : x ^^^ y = 0 ↔ x = y := by
  constructor
  · intro h
    have e : (x ^^^ y) ^^^ y = 0 ^^^ y := by rw [h]
    rwa [Nat.xor_assoc, Nat.xor_self, Nat.xor_zero, Nat.zero_xor] at e
  · rintro rfl
    exact Nat.xor_self x
/-- What differs, when k bytes are looked at. -/
def xorsN (a b : List Nat) : Nat → Nat
  | 0 => a.length ^^^ b.length
  | k + 1 => xorsN a b k ||| (a.getD k 0 ^^^ b.getD k 0)
theorem xorsN_zero (a b : List Nat) : ∀ k, xorsN a b k = 0 ↔ a.length = b.length ∧ ∀ i, i < k → a.getD i 0 = b.getD i 0
  | 0 => by
    rw [xorsN, xor_zero_iff]
    exact ⟨fun h => ⟨h, fun i hi => absurd hi (Nat.not_lt_zero i)⟩, fun h => h.1⟩
  | k + 1 => by
    rw [xorsN, Nat.or_eq_zero_iff, xorsN_zero a b k, xor_zero_iff]
    constructor
    · rintro ⟨⟨h1, h2⟩, h3⟩
      refine ⟨h1, fun i hi => ?_⟩
      by_cases h : i = k
      · rw [h]; exact h3
      · exact h2 i (by omega)
    · rintro ⟨h1, h2⟩
      exact ⟨⟨h1, fun i hi => h2 i (by omega)⟩, h2 k (by omega)⟩
/-- All bytes looked at that both have. -/
theorem xorsN_same (a b : List Nat) : xorsN a b (min a.length b.length) = 0 ↔ a = b := by
  rw [xorsN_zero]
  constructor
  · rintro ⟨h1, h2⟩
    apply List.ext_getElem? 
    intro i
    by_cases h : i < a.length
    · have := h2 i (by omega)
      rw [List.getD_eq_getElem?_getD, List.getD_eq_getElem?_getD, List.getElem?_eq_getElem h, List.getElem?_eq_getElem (show i < b.length by omega)] at this
      rw [List.getElem?_eq_getElem h, List.getElem?_eq_getElem (show i < b.length by omega)]
      exact congrArg some this
    · rw [List.getElem?_eq_none (by omega), List.getElem?_eq_none (by omega)]
  · rintro rfl
    exact ⟨rfl, fun _ _ => rfl⟩
theorem xorsN_lt (a b : List Nat) (ha : ∀ c ∈ a, c < 256) (hb : ∀ c ∈ b, c < 256) (hl : a.length < 2 ^ 32) (hm : b.length < 2 ^ 32) : ∀ k, xorsN a b k < 2 ^ 32
  | 0 => Nat.xor_lt_two_pow hl hm
  | k + 1 => by
    have h : ∀ (l : List Nat), (∀ c ∈ l, c < 256) → l.getD k 0 < 2 ^ 32 := fun l hl => by
      rw [List.getD_eq_getElem?_getD]
      cases h : l[k]? with
      | none => exact (by decide : (0 : Nat) < 2 ^ 32)
      | some x => exact Nat.lt_trans (hl x (List.mem_of_getElem? h)) (by decide)
    exact Nat.or_lt_two_pow (xorsN_lt a b ha hb hl hm k) (Nat.xor_lt_two_pow (h a ha) (h b hb))
end Go.Proofs.YtikpmkidfppknaaGreatDoor
