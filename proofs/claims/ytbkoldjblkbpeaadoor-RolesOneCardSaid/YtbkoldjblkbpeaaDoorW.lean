/- The document's own Right of operators: its contract. -/
import Derived.Test.YtbkoldjblkbpeaaDoorV
namespace Go.Proofs.YtbkoldjblkbpeaaDoor
open Go.RowKit Go.Shelf
attribute [local go_sem] Oper.semAt_some

theorem names_take (l : List Opr) (k : Nat) (h : k < l.length) : namesOf (l.take (k + 1)) = namesOf (l.take k) ++ [l[k].n.data.toList] := by rw [take_snoc l k h, namesOf_snoc]
theorem bytes_inj {s t : ByteArray} (h : s.data.toList = t.data.toList) : s = t := ByteArray.ext (Array.toList_inj.1 h)

set_option maxRecDepth 100000 in
set_option maxHeartbeats 4000000 in
theorem refRight_c (a : Option Addr) (cap : Nat) (zs : List Opr) (hlen : zs.length ≤ 1000) (w : World) (hI : OprsAt w.heap.size w a zs) :
    Calls Tryd.prog 25 #[.slice a zs.length cap] w fun x w' => x = .returned (.bool (rightB zs)) ∧ Below w.heap.size w w' := by
  have HI := Lib.hid hI
  have HQ := Lib.hid (fun (y : Opr) W => right02_c y.n y.hs W)
  have HR := Lib.hid (rightB_eq zs)
  have HTk := Lib.hid (fun k => okP_take zs k)
  clear hI
  generalize hrb : rightB zs = rb at *
  clear hrb
  generalize hL : zs.length = L at *
  go_enter Tryd.func25, Tryd.ntmps25
  go_wp2_with fail
  go_loopw [3] (fun i wr => ∃ k : Nat, k ≤ L ∧ i = .int .i64 (k : Int) ∧ okP (zs.take k) = true ∧ Below w.heap.size w wr) (fun i _ => L - (intOf i).toNat)
  case atStart => exact ⟨0, Nat.zero_le _, rfl, rfl, Below.refl _ _⟩
  case round =>
    obtain ⟨k, hk, rfl, hok, hB⟩ := hrel
    by_cases hlt : k < L
    · have hkl : k < zs.length := by omega
      obtain ⟨b, off, rfl, hb, q0, q1⟩ := (HI.out.below hB) k hkl
      have hlt' : (k : Int) < (L : Int) := by omega
      have hS := okP_snoc (zs.take k) zs[k]
      rw [← take_snoc zs k hkl, hok, Bool.true_and] at hS
      have HS := Lib.hid hS
      have HQ1 := Lib.hid (HQ.out zs[k])
      generalize hyk : zs[k] = y at *
      have HYK := Lib.hid hyk
      clear hyk hS
      have hno : oneOK (namesOf (zs.take k)) y = false → rb = false := fun e => by
        rw [HR.out, HTk.out (k + 1) (by rw [HS.out]; exact e), Bool.and_false]
      have HNo := Lib.hid hno
      have HB := Lib.hid hB
      clear hno hB
      by_cases hn : y.n = ⟨#[]⟩
      · have hrb : rb = false := HNo.out (by simp [oneOK, nameOK, hn])
        subst hrb
        rw [hn] at q0
        clear hn
        go_wp2_with fail
        go_ret
        exact ⟨rfl, HB.out⟩
      · have hnil := List.isEmpty_eq_false_iff.2 (toList_nil hn)
        cases hw : wordOK y.n with
        | false =>
          have hrb : rb = false := HNo.out (by simp [oneOK, nameOK, hw])
          subst hrb
          rw [hw] at HQ1
          go_wp2_with (go_at_call 35; refine (HQ1.out _).mono ?_; rintro e w' ⟨rfl, rfl⟩)
          go_ret
          exact ⟨rfl, HB.out⟩
        | true =>
          rw [hw] at HQ1
          by_cases hr1 : y.r < 1
          · have hrb : rb = false := HNo.out (by
              have : roleOK y.r = false := by simp only [roleOK, decide_eq_false_iff_not]; omega
              simp [oneOK, this])
            subst hrb
            generalize y.r = ro at *
            go_wp2_with (go_at_call 35; refine (HQ1.out _).mono ?_; rintro e w' ⟨rfl, rfl⟩)
            go_ret
            exact ⟨rfl, HB.out⟩
          · by_cases hr2 : 3 < y.r
            · have hrb : rb = false := HNo.out (by
                have : roleOK y.r = false := by simp only [roleOK, decide_eq_false_iff_not]; omega
                simp [oneOK, this])
              subst hrb
              generalize y.r = ro at *
              go_wp2_with (go_at_call 35; refine (HQ1.out _).mono ?_; rintro e w' ⟨rfl, rfl⟩)
              go_ret
              exact ⟨rfl, HB.out⟩
            · have HOne := Lib.hid (show oneOK (namesOf (zs.take k)) y = !decide (y.n.data.toList ∈ namesOf (zs.take k)) by
                have h1 : nameOK y.n = true := by simp [nameOK, hn, hw]
                have h2 : roleOK y.r = true := by simp only [roleOK, decide_eq_true_eq]; omega
                rw [oneOK, h1, h2]; rfl)
              generalize hro : y.r = ro at *
              clear hro
              go_wp2_with (go_at_call 35; refine (HQ1.out _).mono ?_; rintro e w' ⟨rfl, rfl⟩)
              have HX := Lib.hid q0
              clear q0 q1
              go_loopw [4] (fun i wr2 => ∃ j : Nat, j ≤ k ∧ i = .int .i64 (j : Int) ∧ y.n.data.toList ∉ namesOf (zs.take j) ∧ Below wr.heap.size wr wr2) (fun i _ => k - (intOf i).toNat)
              case atStart => exact ⟨0, Nat.zero_le _, rfl, by simp [namesOf], Below.refl _ _⟩
              case round =>
                obtain ⟨j, hj, rfl, hnm, hB2⟩ := hrel
                by_cases hjk : j < k
                · have hjl : j < zs.length := by omega
                  have hBj := btr HB.out hB2
                  obtain ⟨b', off', e', hb', r0, r1⟩ := (HI.out.below hBj) j hjl
                  simp only [Option.some.injEq, Addr.mk.injEq, and_true] at e'
                  obtain ⟨rfl, rfl⟩ := e'
                  have q0 := (hB2.cell (p := ⟨b, off + k * 2, none⟩) (blt HX.out)).trans HX.out
                  have hN := names_take zs j hjl
                  have hin : zs[j] ∈ zs.take k := List.mem_take_iff_getElem.2 ⟨j, by omega, rfl⟩
                  have hjk' : (j : Int) < (k : Int) := by omega
                  have hjL' : (j : Int) < (L : Int) := by omega
                  generalize zs[j] = x at *
                  have HN := Lib.hid hN
                  have HIn := Lib.hid hin
                  have HNm := Lib.hid hnm
                  have HBj := Lib.hid hBj
                  have HB2 := Lib.hid hB2
                  clear hN hin hnm hBj hB2 r1
                  go_upto_region 9 with fail
                  by_cases hxy : x.n = y.n
                  · have hrb : rb = false := HNo.out (by rw [HOne.out, ← hxy, decide_eq_true (mem_names HIn.out)]; rfl)
                    subst hrb
                    rw [hxy] at r0
                    clear hxy
                    go_quiet (fail)
                    go_wp2_with fail
                    go_ret
                    exact ⟨rfl, below_drewN HBj.out _⟩
                  · have hne := toList_ne hxy
                    have HNe := Lib.hid hxy
                    clear hxy
                    go_quiet (fail)
                    go_wp2_with fail
                    go_roundw
                    case rel => exact ⟨j + 1, by omega, by go_num, by
                      rw [HN.out, List.mem_append]
                      rintro (h | h)
                      · exact HNm.out h
                      · exact HNe.out (bytes_inj (List.mem_singleton.1 h).symm), below_drewN HB2.out _⟩
                    case measure => simp [intOf]; omega
                · obtain rfl : j = k := by omega
                  have hok2 : okP (zs.take (j + 1)) = true := by rw [HS.out, HOne.out, decide_eq_false hnm]; rfl
                  have HOk2 := Lib.hid hok2
                  have HB2 := Lib.hid hB2
                  clear hok2 hnm hB2
                  go_wp2_with fail
                  go_roundw
                  case rel => exact ⟨j + 1, by omega, by go_num, HOk2.out, btr HB.out HB2.out⟩
                  case measure => simp [intOf]; omega
    · obtain rfl : k = L := by omega
      have hrb : rb = decide (k ≤ 10) := by
        rw [List.take_of_length_le (by omega)] at hok
        rw [HR.out, hok, Bool.and_true]
      subst hrb
      go_wp2_with fail
      go_ret
      exact ⟨ret_bool (by first | rfl | (rw [Bool.eq_iff_iff]; simp only [decide_eq_true_eq]; omega)), hB⟩
end Go.Proofs.YtbkoldjblkbpeaaDoor
