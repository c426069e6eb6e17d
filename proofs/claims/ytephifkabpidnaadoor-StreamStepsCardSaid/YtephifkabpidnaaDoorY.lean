/- StreamSteps: what it says, walked. -/
import Derived.Test.YtephifkabpidnaaDoorW
import Derived.Test.YtephifkabpidnaaDoorX
namespace Go.Proofs.YtephifkabpidnaaDoor
open Go.RowKit Go.Shelf
attribute [local go_sem] Oper.semAt_some

set_option maxRecDepth 100000 in
set_option maxHeartbeats 4000000 in
theorem steps_c (s ev : Int) (a : Option Addr) (l : List Int) (cap : Nat) (w : World) (hL : Laid w) (hc : l.length ≤ cap) (hm : cap ≤ maxLen) (hI : IntsAt w.heap.size w a l) :
    Calls Tryd.prog 3 #[.int .i64 s, .int .i64 ev, .slice a l.length cap] w fun x w' => x = .returned (.bool true) ∧ Below w.heap.size w w' := by
  have hl : (l.take 20).length ≤ 1000 := by rw [List.length_take]; omega
  have HS := Lib.hid (shown_c w hL)
  have HF := Lib.hid (fun W => few_c a l cap W hc hm)
  have HI := Lib.hid (hI.take 20)
  have HL := Lib.hid hL
  clear hL hI hc hm
  generalize l.take 20 = zs at *
  have HN := Lib.hid (fun W (h : Below w.heap.size w W) => next_c s ev W (HL.out.on h))
  have HN2 := Lib.hid (fun W => refNext_c s ev W)
  have HR := Lib.hid (fun W (h : Below w.heap.size w W) => run_c s a cap zs hl W ((HI.out.below h).mono h.size))
  have HR2 := Lib.hid (fun W (h : Below w.heap.size w W) => refRun_c s a cap zs hl W ((HI.out.below h).mono h.size))
  have HE := Lib.hid (fun W => least_c s ev W)
  have HE2 := Lib.hid (fun W => refLeast_c s ev W)
  have HA := Lib.hid (fun W => in_c s W)
  have HA2 := Lib.hid (fun W => refIn_c s W)
  have HO := Lib.hid (fun W => out_c s W)
  have HO2 := Lib.hid (fun W => refOut_c s W)
  have HD := Lib.hid (fun W => isEnd_c s W)
  have HD2 := Lib.hid (fun W => refEnd_c s W)
  generalize nextN s ev = x1 at *
  generalize nextE s ev = x2 at *
  generalize runS s zs = x3 at *
  generalize runN s zs = x4 at *
  generalize runE s = x5 at *
  generalize leastN s ev = x6 at *
  generalize leastB s ev = x7 at *
  generalize inB s = x8 at *
  generalize outB s = x9 at *
  generalize endB s = x10 at *
  clear HI HL hl
  go_enter Tryd.func3, Tryd.ntmps3
  go_wp2_with fail
  refine (HS.out).mono ?_; rintro e w1 ⟨rfl, hb1⟩
  have HB1 := Lib.hid hb1
  clear hb1 HS
  go_wp2_with fail
  refine (HF.out _).mono ?_; rintro e w2 ⟨rfl, rfl⟩
  go_wp2_with fail
  refine (HN.out _ HB1.out).mono ?_; rintro e w2 ⟨rfl, hb2⟩
  have HB2 := Lib.hid (btr HB1.out hb2)
  clear hb2 HB1 HN HF
  go_wp2_with fail
  refine (HN2.out _).mono ?_; rintro e w3 ⟨rfl, rfl⟩
  go_wp2_with fail
  refine (HR.out _ HB2.out).mono ?_; rintro e w3 ⟨rfl, hb3⟩
  have HB3 := Lib.hid (btr HB2.out hb3)
  clear hb3 HB2 HR HN2
  go_wp2_with fail
  refine (HR2.out _ HB3.out).mono ?_; rintro e w4 ⟨rfl, hb4⟩
  have HB4 := Lib.hid (btr HB3.out hb4)
  clear hb4 HB3 HR2
  go_wp2_with fail
  refine (HE.out _).mono ?_; rintro e w5 ⟨rfl, hb5⟩
  have HB5 := Lib.hid (btr HB4.out hb5)
  clear hb5 HB4 HE
  go_wp2_with fail
  refine (HE2.out _).mono ?_; rintro e w6 ⟨rfl, hb6⟩
  have HB6 := Lib.hid (btr HB5.out hb6)
  clear hb6 HB5 HE2
  go_wp2_with (first
    | (go_at_call 18; refine (HA.out _).mono ?_; rintro e w7 ⟨rfl, rfl⟩)
    | (go_at_call 19; refine (HA2.out _).mono ?_; rintro e w7 ⟨rfl, rfl⟩)
    | (go_at_call 20; refine (HO.out _).mono ?_; rintro e w7 ⟨rfl, rfl⟩)
    | (go_at_call 21; refine (HO2.out _).mono ?_; rintro e w7 ⟨rfl, rfl⟩)
    | (go_at_call 22; refine (HD.out _).mono ?_; rintro e w7 ⟨rfl, rfl⟩)
    | (go_at_call 23; refine (HD2.out _).mono ?_; rintro e w7 ⟨rfl, rfl⟩))
  go_ret
  exact ⟨rfl, HB6.out⟩
end Go.Proofs.YtephifkabpidnaaDoor
