/- The document's own Parse: its contract. -/
import Derived.Test.YtlnjalhlbfbjcaaGreatDoorRE
namespace Go.Proofs.YtlnjalhlbfbjcaaGreatDoor
open Go.RowKit
attribute [local go_sem] Oper.semAt_some

theorem rcutL_c (L : List UInt8) (hsz : L.length ≤ 1000) (c : UInt8) (w : World) : Calls Tryz.prog 28 #[.string ⟨L.toArray⟩, .int .u8 (c.toNat : Int)] w fun x w' =>
    ((cutP c L = none ∧ x = .returned (.tuple #[.string ⟨L.toArray⟩, .string ⟨#[]⟩, .bool false])) ∨ (∃ l r, cutP c L = some (l, r) ∧ x = .returned (.tuple #[.string ⟨l.toArray⟩, .string ⟨r.toArray⟩, .bool true]))) ∧ Below w.heap.size w w' :=
  rcut_c ⟨L.toArray⟩ (by show L.toArray.size ≤ 1000; simpa using hsz) c w
theorem rnumL_c (L : List UInt8) (hsz : L.length ≤ 1000) (most : Int) (hm0 : 0 ≤ most) (hm1 : most ≤ 100000) (w : World) : Calls Tryz.prog 29 #[.string ⟨L.toArray⟩, .int .i64 most] w fun x w' =>
    ((numR most L = none ∧ ∃ n, x = .returned (.tuple #[.int .i64 n, .bool false])) ∨ (∃ n, numR most L = some n ∧ x = .returned (.tuple #[.int .i64 n, .bool true]))) ∧ Below w.heap.size w w' :=
  rnum_c ⟨L.toArray⟩ (by show L.toArray.size ≤ 1000; simpa using hsz) most hm0 hm1 w
theorem cut_len {c : UInt8} {L l r : List UInt8} (h : cutP c L = some (l, r)) : l.length ≤ L.length ∧ r.length ≤ L.length := by
  obtain ⟨rfl, -⟩ := cutP_of h
  simp only [List.length_append, List.length_cons]
  omega
theorem parse_none {L : List UInt8} (h : parseP L = none) : parseN L = 0 ∧ parseE L = 60 := by unfold parseN parseE; rw [h]; exact ⟨rfl, rfl⟩
theorem parse_some {L : List UInt8} {a : Int} (h : parseP L = some a) : parseN L = a ∧ parseE L = 0 := by unfold parseN parseE; rw [h]; exact ⟨rfl, rfl⟩
theorem prs_f0 {j : Nat} {R : List UInt8} {acc : Int} (h : cutP 46 R = none) : prs (j + 2) R acc = none := by rw [prs, h]; simp
theorem prs_f1 {j : Nat} {R l r : List UInt8} {acc : Int} (h : cutP 46 R = some (l, r)) (h' : numR 255 l = none) : prs (j + 1) R acc = none := by
  rw [prs, h]
  simp only
  split
  · rfl
  · rw [h']; rfl
theorem prs_s {j : Nat} {R l r : List UInt8} {acc n : Int} (h : cutP 46 R = some (l, r)) (h' : numR 255 l = some n) : prs (j + 2) R acc = prs (j + 1) r (256 * acc + n) := by
  rw [prs, h]
  simp only
  rw [if_neg (by omega), h']
  rfl
theorem prs_l0 {R : List UInt8} {acc : Int} (h : cutP 46 R = none) (h' : numR 255 R = none) : prs 1 R acc = none := by rw [prs, h]; simp [h']
theorem prs_l1 {R : List UInt8} {acc : Int} {y : List UInt8 × List UInt8} (h : cutP 46 R = some y) : prs 1 R acc = none := by rw [prs, h]; simp
theorem prs_ls {R : List UInt8} {acc n : Int} (h : cutP 46 R = none) (h' : numR 255 R = some n) : prs 1 R acc = some (256 * acc + n) := by rw [prs, h]; simp [h']
/-- How great the number may be ahead of a round. -/
def capA : Nat → Int
  | 0 => 0
  | 1 => 255
  | 2 => 65535
  | 3 => 16777215
  | _ => 4294967295

set_option maxRecDepth 100000 in
set_option maxHeartbeats 4000000 in
theorem rparse_c (L : List UInt8) (hL : L.length ≤ 1000) (w : World) : Calls Tryz.prog 38 #[.string ⟨L.toArray⟩] w fun x w' => x = .returned (.tuple #[.int .i64 (parseN L), .int .i64 (parseE L)]) ∧ Below w.heap.size w w' := by
  have HC := Lib.hid (fun (R : List UInt8) (h : R.length ≤ 1000) W => show Calls Tryz.prog 28 #[.string ⟨R.toArray⟩, .int .u8 46] W _ from rcutL_c R h 46 W)
  have HN := Lib.hid (fun (R : List UInt8) (h : R.length ≤ 1000) W => rnumL_c R h 255 (by omega) (by omega) W)
  go_enter Tryz.func38, Tryz.ntmps38
  go_wp2
  go_loopw [0, 4, 5] (fun s a i wr => ∃ (k : Nat) (R : List UInt8) (acc : Int), k ≤ 4 ∧ i = .int .i64 (k : Int) ∧ s = .string ⟨R.toArray⟩ ∧ a = .int .i64 acc ∧ R.length ≤ 1000 ∧ (0 ≤ acc ∧ acc ≤ capA k) ∧ Hid (prs (4 - k) R acc = parseP L) ∧ Below w.heap.size w wr) (fun _ _ i _ => 4 - (intOf i).toNat)
  case atStart => exact ⟨0, L, 0, by omega, rfl, rfl, rfl, hL, ⟨by omega, by simp [capA]⟩, Lib.hid (prs_parse L), Below.refl _ _⟩
  case round =>
    obtain ⟨k, R, acc, hk, rfl, rfl, rfl, hR, ha, hP, hB⟩ := hrel
    have HB := Lib.hid hB
    clear hB
    obtain rfl | rfl | rfl | rfl | rfl : k = 0 ∨ k = 1 ∨ k = 2 ∨ k = 3 ∨ k = 4 := by omega
    · replace ha : 0 ≤ acc ∧ acc ≤ 0 := ha
      go_wp2_with fail
      refine (HC.out R hR _).mono ?_; rintro e w1 ⟨⟨hc', rfl⟩ | ⟨l, r, hc', rfl⟩, hb⟩
      · have hc := Lib.hid hc'
        have B1 := Lib.hid (btr HB.out hb)
        clear hb hc'
        go_wp2_with fail
        refine (HN.out R hR _).mono ?_; rintro e w2 ⟨⟨hn', n, rfl⟩ | ⟨n, hn', rfl⟩, hb⟩
        · have hn := Lib.hid hn'
          have B2 := Lib.hid (btr B1.out hb)
          clear hb hn'
          go_wp2
          exact bodyPost_ret (v := .tuple #[.int .i64 0, .int .i64 60]) (by simp [results, Tryz.results38, go_sem]) rfl ⟨by rw [(parse_none (hP.out.symm.trans (prs_f0 hc.out))).1, (parse_none (hP.out.symm.trans (prs_f0 hc.out))).2], B2.out⟩
        · have hn := Lib.hid hn'
          have hr := (numR_iff (by omega)).1 hn'
          have hr0 := hr.1
          have hr1 := hr.2.1
          have B2 := Lib.hid (btr B1.out hb)
          clear hb hn' hr
          go_wp2
          exact bodyPost_ret (v := .tuple #[.int .i64 0, .int .i64 60]) (by simp [results, Tryz.results38, go_sem]) rfl ⟨by rw [(parse_none (hP.out.symm.trans (prs_f0 hc.out))).1, (parse_none (hP.out.symm.trans (prs_f0 hc.out))).2], B2.out⟩
      · have hc := Lib.hid hc'
        have hll := cut_len hc'
        have hl : l.length ≤ 1000 := by omega
        have hr' : r.length ≤ 1000 := by omega
        have B1 := Lib.hid (btr HB.out hb)
        clear hb hc' hll
        go_wp2_with fail
        refine (HN.out l hl _).mono ?_; rintro e w2 ⟨⟨hn', n, rfl⟩ | ⟨n, hn', rfl⟩, hb⟩
        · have hn := Lib.hid hn'
          have B2 := Lib.hid (btr B1.out hb)
          clear hb hn'
          go_wp2
          exact bodyPost_ret (v := .tuple #[.int .i64 0, .int .i64 60]) (by simp [results, Tryz.results38, go_sem]) rfl ⟨by rw [(parse_none (hP.out.symm.trans (prs_f1 hc.out hn.out))).1, (parse_none (hP.out.symm.trans (prs_f1 hc.out hn.out))).2], B2.out⟩
        · have hn := Lib.hid hn'
          have hr := (numR_iff (by omega)).1 hn'
          have hr0 := hr.1
          have hr1 := hr.2.1
          have B2 := Lib.hid (btr B1.out hb)
          clear hb hn' hr
          go_wp2
          go_round
          case rel => exact ⟨1, r, 256 * acc + n, by omega, by go_num, rfl, by congr 1, hr', ⟨by omega, by show _ ≤ (255 : Int); omega⟩, Lib.hid ((prs_s hc.out hn.out).symm.trans hP.out), B2.out⟩
          case measure => simp [intOf]
    · replace ha : 0 ≤ acc ∧ acc ≤ 255 := ha
      go_wp2_with fail
      refine (HC.out R hR _).mono ?_; rintro e w1 ⟨⟨hc', rfl⟩ | ⟨l, r, hc', rfl⟩, hb⟩
      · have hc := Lib.hid hc'
        have B1 := Lib.hid (btr HB.out hb)
        clear hb hc'
        go_wp2_with fail
        refine (HN.out R hR _).mono ?_; rintro e w2 ⟨⟨hn', n, rfl⟩ | ⟨n, hn', rfl⟩, hb⟩
        · have hn := Lib.hid hn'
          have B2 := Lib.hid (btr B1.out hb)
          clear hb hn'
          go_wp2
          exact bodyPost_ret (v := .tuple #[.int .i64 0, .int .i64 60]) (by simp [results, Tryz.results38, go_sem]) rfl ⟨by rw [(parse_none (hP.out.symm.trans (prs_f0 hc.out))).1, (parse_none (hP.out.symm.trans (prs_f0 hc.out))).2], B2.out⟩
        · have hn := Lib.hid hn'
          have hr := (numR_iff (by omega)).1 hn'
          have hr0 := hr.1
          have hr1 := hr.2.1
          have B2 := Lib.hid (btr B1.out hb)
          clear hb hn' hr
          go_wp2
          exact bodyPost_ret (v := .tuple #[.int .i64 0, .int .i64 60]) (by simp [results, Tryz.results38, go_sem]) rfl ⟨by rw [(parse_none (hP.out.symm.trans (prs_f0 hc.out))).1, (parse_none (hP.out.symm.trans (prs_f0 hc.out))).2], B2.out⟩
      · have hc := Lib.hid hc'
        have hll := cut_len hc'
        have hl : l.length ≤ 1000 := by omega
        have hr' : r.length ≤ 1000 := by omega
        have B1 := Lib.hid (btr HB.out hb)
        clear hb hc' hll
        go_wp2_with fail
        refine (HN.out l hl _).mono ?_; rintro e w2 ⟨⟨hn', n, rfl⟩ | ⟨n, hn', rfl⟩, hb⟩
        · have hn := Lib.hid hn'
          have B2 := Lib.hid (btr B1.out hb)
          clear hb hn'
          go_wp2
          exact bodyPost_ret (v := .tuple #[.int .i64 0, .int .i64 60]) (by simp [results, Tryz.results38, go_sem]) rfl ⟨by rw [(parse_none (hP.out.symm.trans (prs_f1 hc.out hn.out))).1, (parse_none (hP.out.symm.trans (prs_f1 hc.out hn.out))).2], B2.out⟩
        · have hn := Lib.hid hn'
          have hr := (numR_iff (by omega)).1 hn'
          have hr0 := hr.1
          have hr1 := hr.2.1
          have B2 := Lib.hid (btr B1.out hb)
          clear hb hn' hr
          go_wp2
          go_round
          case rel => exact ⟨2, r, 256 * acc + n, by omega, by go_num, rfl, by congr 1, hr', ⟨by omega, by show _ ≤ (65535 : Int); omega⟩, Lib.hid ((prs_s hc.out hn.out).symm.trans hP.out), B2.out⟩
          case measure => simp [intOf]
    · replace ha : 0 ≤ acc ∧ acc ≤ 65535 := ha
      go_wp2_with fail
      refine (HC.out R hR _).mono ?_; rintro e w1 ⟨⟨hc', rfl⟩ | ⟨l, r, hc', rfl⟩, hb⟩
      · have hc := Lib.hid hc'
        have B1 := Lib.hid (btr HB.out hb)
        clear hb hc'
        go_wp2_with fail
        refine (HN.out R hR _).mono ?_; rintro e w2 ⟨⟨hn', n, rfl⟩ | ⟨n, hn', rfl⟩, hb⟩
        · have hn := Lib.hid hn'
          have B2 := Lib.hid (btr B1.out hb)
          clear hb hn'
          go_wp2
          exact bodyPost_ret (v := .tuple #[.int .i64 0, .int .i64 60]) (by simp [results, Tryz.results38, go_sem]) rfl ⟨by rw [(parse_none (hP.out.symm.trans (prs_f0 hc.out))).1, (parse_none (hP.out.symm.trans (prs_f0 hc.out))).2], B2.out⟩
        · have hn := Lib.hid hn'
          have hr := (numR_iff (by omega)).1 hn'
          have hr0 := hr.1
          have hr1 := hr.2.1
          have B2 := Lib.hid (btr B1.out hb)
          clear hb hn' hr
          go_wp2
          exact bodyPost_ret (v := .tuple #[.int .i64 0, .int .i64 60]) (by simp [results, Tryz.results38, go_sem]) rfl ⟨by rw [(parse_none (hP.out.symm.trans (prs_f0 hc.out))).1, (parse_none (hP.out.symm.trans (prs_f0 hc.out))).2], B2.out⟩
      · have hc := Lib.hid hc'
        have hll := cut_len hc'
        have hl : l.length ≤ 1000 := by omega
        have hr' : r.length ≤ 1000 := by omega
        have B1 := Lib.hid (btr HB.out hb)
        clear hb hc' hll
        go_wp2_with fail
        refine (HN.out l hl _).mono ?_; rintro e w2 ⟨⟨hn', n, rfl⟩ | ⟨n, hn', rfl⟩, hb⟩
        · have hn := Lib.hid hn'
          have B2 := Lib.hid (btr B1.out hb)
          clear hb hn'
          go_wp2
          exact bodyPost_ret (v := .tuple #[.int .i64 0, .int .i64 60]) (by simp [results, Tryz.results38, go_sem]) rfl ⟨by rw [(parse_none (hP.out.symm.trans (prs_f1 hc.out hn.out))).1, (parse_none (hP.out.symm.trans (prs_f1 hc.out hn.out))).2], B2.out⟩
        · have hn := Lib.hid hn'
          have hr := (numR_iff (by omega)).1 hn'
          have hr0 := hr.1
          have hr1 := hr.2.1
          have B2 := Lib.hid (btr B1.out hb)
          clear hb hn' hr
          go_wp2
          go_round
          case rel => exact ⟨3, r, 256 * acc + n, by omega, by go_num, rfl, by congr 1, hr', ⟨by omega, by show _ ≤ (16777215 : Int); omega⟩, Lib.hid ((prs_s hc.out hn.out).symm.trans hP.out), B2.out⟩
          case measure => simp [intOf]
    · replace ha : 0 ≤ acc ∧ acc ≤ 16777215 := ha
      go_wp2_with fail
      refine (HC.out R hR _).mono ?_; rintro e w1 ⟨⟨hc', rfl⟩ | ⟨l, r, hc', rfl⟩, hb⟩
      · have hc := Lib.hid hc'
        have B1 := Lib.hid (btr HB.out hb)
        clear hb hc'
        go_wp2_with fail
        refine (HN.out R hR _).mono ?_; rintro e w2 ⟨⟨hn', n, rfl⟩ | ⟨n, hn', rfl⟩, hb⟩
        · have hn := Lib.hid hn'
          have B2 := Lib.hid (btr B1.out hb)
          clear hb hn'
          go_wp2
          exact bodyPost_ret (v := .tuple #[.int .i64 0, .int .i64 60]) (by simp [results, Tryz.results38, go_sem]) rfl ⟨by rw [(parse_none (hP.out.symm.trans (prs_l0 hc.out hn.out))).1, (parse_none (hP.out.symm.trans (prs_l0 hc.out hn.out))).2], B2.out⟩
        · have hn := Lib.hid hn'
          have hr := (numR_iff (by omega)).1 hn'
          have hr0 := hr.1
          have hr1 := hr.2.1
          have B2 := Lib.hid (btr B1.out hb)
          clear hb hn' hr
          go_wp2
          go_round
          case rel => exact ⟨4, [], 256 * acc + n, by omega, by go_num, rfl, by congr 1, by simp, ⟨by omega, by show _ ≤ (4294967295 : Int); omega⟩, Lib.hid ((prs_ls hc.out hn.out).symm.trans hP.out), B2.out⟩
          case measure => simp [intOf]
      · have hc := Lib.hid hc'
        have hll := cut_len hc'
        have hl : l.length ≤ 1000 := by omega
        have hr' : r.length ≤ 1000 := by omega
        have B1 := Lib.hid (btr HB.out hb)
        clear hb hc' hll
        go_wp2_with fail
        refine (HN.out l hl _).mono ?_; rintro e w2 ⟨⟨hn', n, rfl⟩ | ⟨n, hn', rfl⟩, hb⟩
        · have hn := Lib.hid hn'
          have B2 := Lib.hid (btr B1.out hb)
          clear hb hn'
          go_wp2
          exact bodyPost_ret (v := .tuple #[.int .i64 0, .int .i64 60]) (by simp [results, Tryz.results38, go_sem]) rfl ⟨by rw [(parse_none (hP.out.symm.trans (prs_f1 hc.out hn.out))).1, (parse_none (hP.out.symm.trans (prs_f1 hc.out hn.out))).2], B2.out⟩
        · have hn := Lib.hid hn'
          have hr := (numR_iff (by omega)).1 hn'
          have hr0 := hr.1
          have hr1 := hr.2.1
          have B2 := Lib.hid (btr B1.out hb)
          clear hb hn' hr
          go_wp2
          exact bodyPost_ret (v := .tuple #[.int .i64 0, .int .i64 60]) (by simp [results, Tryz.results38, go_sem]) rfl ⟨by rw [(parse_none (hP.out.symm.trans (prs_l1 hc.out))).1, (parse_none (hP.out.symm.trans (prs_l1 hc.out))).2], B2.out⟩
    · replace ha : 0 ≤ acc ∧ acc ≤ 4294967295 := ha
      go_wp2
      exact bodyPost_ret (v := .tuple #[.int .i64 acc, .int .i64 0]) (by simp [results, Tryz.results38, go_sem]) rfl ⟨by rw [(parse_some (hP.out.symm.trans rfl)).1, (parse_some (hP.out.symm.trans rfl)).2], HB.out⟩

end Go.Proofs.YtlnjalhlbfbjcaaGreatDoor
