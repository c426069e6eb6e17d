/- Challenge. -/
import Derived.Test.YtjlpkndbnaknaaaGreatDoorMc
namespace Go.Proofs.YtjlpkndbnaknaaaGreatDoor
open Go.RowKit Go.Shelf
attribute [local go_sem] Oper.semAt_some

def itB (n : Int) : ByteArray := ⟨(Lib.itoa n).toArray⟩
theorem itB_size (n : Int) (h0 : 0 ≤ n) (h1 : n ≤ 2147483647) : (itB n).size ≤ 21 := by
  have := Lib.itoa_length_le n (by omega) (by omega)
  show (Lib.itoa n).toArray.size ≤ 21
  rw [List.size_toArray]; exact this
/-- The text that a challenge is the sum of. -/
def chT (a b : Int) : ByteArray := ((⟨#[99, 104, 97, 108, 108, 101, 110, 103, 101, 32]⟩ : ByteArray) ++ itB a) ++ (⟨#[32]⟩ : ByteArray) ++ itB b
/-- What Challenge answers. -/
def chV (a b : Int) : Value := .tuple (if isAskB a = true then (if isAskB b = true then #[.string (ofL (sumL (bL (chT a b)))), .int .i64 0] else #[.string ⟨#[]⟩, .int .i64 2]) else #[.string ⟨#[]⟩, .int .i64 2])
set_option maxRecDepth 100000 in
set_option maxHeartbeats 8000000 in
theorem Challenge_c (a b : Int) (w : World) (hL : Lay w) : Calls Tryz.prog 12 #[.int .i64 a, .int .i64 b] w fun r w' => r = .returned (chV a b) ∧ Below w.heap.size w w' := by
  have HA := Lib.hid (fun n W => isAsked_c n W)
  have HA1 := Lib.hid (fun n b0 b1 b2 b3 W h0 h1 h2 h3 => between1_c n b0 b1 b2 b3 W h0 h1 h2 h3)
  have HN := Lib.hid (fun c W h => no_c W c h)
  have HL := Lib.hid hL
  clear hL
  go_enter Tryz.func12, Tryz.ntmps12
  go_wp2_with fail
  refine (HA.out a _).mono ?_
  rintro e w1 ⟨rfl, rfl⟩
  go_wp2_with fail
  refine (HA.out b _).mono ?_
  rintro e w1 ⟨rfl, rfl⟩
  go_wp2_with fail
  have hW : ∃ W3, W3 = (((((((((w.alloc (.cells #[.int .i64 a] 3)).alloc (.cells #[.int .i64 0] 3)).alloc (.cells #[.int .i64 2147483647] 3)).alloc (.cells #[.int .i64 2] 24)).alloc (.cells #[.int .i64 b] 3)).alloc (.cells #[.int .i64 0] 3)).alloc (.cells #[.int .i64 2147483647] 3)).alloc (.cells #[.int .i64 2] 24)).alloc (.cells #[.func (.func 59) #[] #[.pointer (some ⟨w.heap.size, 0, none⟩), .pointer (some ⟨w.heap.size + 1, 0, none⟩), .pointer (some ⟨w.heap.size + 2, 0, none⟩), .pointer (some ⟨w.heap.size + 3, 0, none⟩)], .func (.func 59) #[] #[.pointer (some ⟨w.heap.size + 1 + 1 + 1 + 1, 0, none⟩), .pointer (some ⟨w.heap.size + 1 + 1 + 1 + 1 + 1, 0, none⟩), .pointer (some ⟨w.heap.size + 1 + 1 + 1 + 1 + 2, 0, none⟩), .pointer (some ⟨w.heap.size + 1 + 1 + 1 + 1 + 3, 0, none⟩)]] 36)) ∧ W3.cell? ⟨w.heap.size, 0, none⟩ = some (.int .i64 a) ∧ W3.cell? ⟨w.heap.size + 1, 0, none⟩ = some (.int .i64 0) ∧ W3.cell? ⟨w.heap.size + 2, 0, none⟩ = some (.int .i64 2147483647) ∧ W3.cell? ⟨w.heap.size + 3, 0, none⟩ = some (.int .i64 2) ∧ W3.cell? ⟨w.heap.size + 1 + 1 + 1 + 1, 0, none⟩ = some (.int .i64 b) ∧ W3.cell? ⟨w.heap.size + 1 + 1 + 1 + 1 + 1, 0, none⟩ = some (.int .i64 0) ∧ W3.cell? ⟨w.heap.size + 1 + 1 + 1 + 1 + 2, 0, none⟩ = some (.int .i64 2147483647) ∧ W3.cell? ⟨w.heap.size + 1 + 1 + 1 + 1 + 3, 0, none⟩ = some (.int .i64 2) ∧ W3.cell? ⟨w.heap.size + 1 + 1 + 1 + 1 + 1 + 1 + 1 + 1, 0, none⟩ = some (.func (.func 59) #[] #[.pointer (some ⟨w.heap.size, 0, none⟩), .pointer (some ⟨w.heap.size + 1, 0, none⟩), .pointer (some ⟨w.heap.size + 2, 0, none⟩), .pointer (some ⟨w.heap.size + 3, 0, none⟩)]) ∧ W3.cell? ⟨w.heap.size + 1 + 1 + 1 + 1 + 1 + 1 + 1 + 1, 1, none⟩ = some (.func (.func 59) #[] #[.pointer (some ⟨w.heap.size + 1 + 1 + 1 + 1, 0, none⟩), .pointer (some ⟨w.heap.size + 1 + 1 + 1 + 1 + 1, 0, none⟩), .pointer (some ⟨w.heap.size + 1 + 1 + 1 + 1 + 2, 0, none⟩), .pointer (some ⟨w.heap.size + 1 + 1 + 1 + 1 + 3, 0, none⟩)]) ∧ Below w.heap.size w W3 :=
    ⟨_, rfl, by go_simp, by go_simp, by go_simp, by go_simp, by go_simp, by go_simp, by go_simp, by go_simp, by go_simp, by go_simp, bal (bal (bal (bal (bal (bal (bal (bal (below_alloc _ _) _) _) _) _) _) _) _) _⟩
  obtain ⟨W3, hW3, c0, c1, c2, c3, d0, d1, d2, d3, hf0, hf1, hB3⟩ := hW
  rw [← hW3]
  clear hW3
  refine (faultFirst_c 2 (by omega) (w.heap.size + 1 + 1 + 1 + 1 + 1 + 1 + 1 + 1) (fun _ => 59) (fun _ => #[]) (fun i => if i = 0 then #[.pointer (some ⟨w.heap.size, 0, none⟩), .pointer (some ⟨w.heap.size + 1, 0, none⟩), .pointer (some ⟨w.heap.size + 2, 0, none⟩), .pointer (some ⟨w.heap.size + 3, 0, none⟩)] else #[.pointer (some ⟨w.heap.size + 1 + 1 + 1 + 1, 0, none⟩), .pointer (some ⟨w.heap.size + 1 + 1 + 1 + 1 + 1, 0, none⟩), .pointer (some ⟨w.heap.size + 1 + 1 + 1 + 1 + 2, 0, none⟩), .pointer (some ⟨w.heap.size + 1 + 1 + 1 + 1 + 3, 0, none⟩)]) (fun i => if i = 0 then errV (isAskB a) 2 else errV (isAskB b) 2) _ ?hc ?HC ?eg ?her).mono ?_
  case hc =>
    intro i hi
    obtain rfl | rfl : i = 0 ∨ i = 1 := by omega
    · exact hf0
    · exact hf1
  case HC =>
    intro i hi _ W hW
    obtain rfl | rfl : i = 0 ∨ i = 1 := by omega
    · exact HA1.out _ _ _ _ _ W ((hW.cell (p := ⟨w.heap.size, 0, none⟩) (blt c0)).trans c0) ((hW.cell (p := ⟨w.heap.size + 1, 0, none⟩) (blt c1)).trans c1) ((hW.cell (p := ⟨w.heap.size + 2, 0, none⟩) (blt c2)).trans c2) ((hW.cell (p := ⟨w.heap.size + 3, 0, none⟩) (blt c3)).trans c3)
    · exact HA1.out _ _ _ _ _ W ((hW.cell (p := ⟨w.heap.size + 1 + 1 + 1 + 1, 0, none⟩) (blt d0)).trans d0) ((hW.cell (p := ⟨w.heap.size + 1 + 1 + 1 + 1 + 1, 0, none⟩) (blt d1)).trans d1) ((hW.cell (p := ⟨w.heap.size + 1 + 1 + 1 + 1 + 2, 0, none⟩) (blt d2)).trans d2) ((hW.cell (p := ⟨w.heap.size + 1 + 1 + 1 + 1 + 3, 0, none⟩) (blt d3)).trans d3)
  case eg =>
    intro i hi args W
    exact enters_of Tryz.func59 (by kernel_rfl) rfl args W
  case her =>
    intro i hi
    obtain rfl | rfl : i = 0 ∨ i = 1 := by omega
    · exact errV_or _ _
    · exact errV_or _ _
  rintro e w2 ⟨rfl, hb2⟩
  rw [two_err]
  have HB2 := Lib.hid (btr hB3 hb2)
  have HL2 := Lib.hid (HL.out.on HB2.out)
  clear hb2 hB3 c0 c1 c2 c3 d0 d1 d2 d3 hf0 hf1
  cases hb : isAskB a
  · rw [if_neg (by decide), show errV false 2 = .iface 66 (.agg #[.int .i64 2]) from rfl]
    go_wp2_with fail
    refine (HN.out _ _ HL2.out.et).mono ?_
    rintro e w3 ⟨rfl, hb3⟩
    go_wp2
    go_ret2
    exact ⟨by unfold chV; rw [hb]; rfl, btr HB2.out hb3⟩
  · rw [if_pos rfl]
    cases hb' : isAskB b
    · rw [show errV false 2 = .iface 66 (.agg #[.int .i64 2]) from rfl]
      go_wp2_with fail
      refine (HN.out _ _ HL2.out.et).mono ?_
      rintro e w3 ⟨rfl, hb3⟩
      go_wp2
      go_ret2
      exact ⟨by unfold chV; rw [hb, hb']; rfl, btr HB2.out hb3⟩
    · rw [show errV true 2 = .nilIface from rfl]
      obtain ⟨ha0, ha1⟩ := of_decide_eq_true hb
      obtain ⟨hb0, hb1⟩ := of_decide_eq_true hb'
      have HI := Lib.hid (fun W h => itoa_c a ha0 ha1 W h)
      have HJ := Lib.hid (fun W h => itoa_c b hb0 hb1 W h)
      have hsa := itB_size a ha0 ha1
      have hsb := itB_size b hb0 hb1
      have HQ := Lib.hid (show chV a b = .tuple #[.string (ofL (sumL (bL (chT a b)))), .int .i64 0] by unfold chV; rw [hb, hb']; rfl)
      have hse : (chT a b).size ≤ 100000 := by
        unfold chT
        rw [ByteArray.size_append, ByteArray.size_append, ByteArray.size_append]
        show 10 + (itB a).size + 1 + (itB b).size ≤ 100000
        omega
      have HS := Lib.hid (fun W h => Sum_c (chT a b) hse W h)
      unfold chT at HS hse
      rw [show (⟨(Lib.itoa a).toArray⟩ : ByteArray) = itB a from rfl] at HI
      rw [show (⟨(Lib.itoa b).toArray⟩ : ByteArray) = itB b from rfl] at HJ
      have hQ2 : chT a b = ((⟨#[99, 104, 97, 108, 108, 101, 110, 103, 101, 32]⟩ : ByteArray) ++ itB a) ++ (⟨#[32]⟩ : ByteArray) ++ itB b := rfl
      rw [hQ2] at HQ
      clear hQ2
      generalize itB a = SA at *
      generalize itB b = SB at *
      have z0 : (⟨#[99, 104, 97, 108, 108, 101, 110, 103, 101, 32]⟩ : ByteArray).size = 10 := rfl
      have z1 : (⟨#[32]⟩ : ByteArray).size = 1 := rfl
      generalize hC0 : (⟨#[99, 104, 97, 108, 108, 101, 110, 103, 101, 32]⟩ : ByteArray) = C0 at *
      generalize hC1 : (⟨#[32]⟩ : ByteArray) = C1 at *
      clear hse
      go_wp2_with fail
      refine (HI.out _ HL2.out.pw).mono ?_
      rintro e w3 ⟨rfl, hb3⟩
      have HB3 := Lib.hid (btr HB2.out hb3)
      have HL3 := Lib.hid (HL2.out.on hb3)
      clear hb3
      go_wp2_with fail
      refine (HJ.out _ HL3.out.pw).mono ?_
      rintro e w4 ⟨rfl, hb4⟩
      have HB4 := Lib.hid (btr HB3.out hb4)
      have HL4 := Lib.hid (HL3.out.on hb4)
      clear hb4
      go_wp2_with fail
      refine (HS.out _ HL4.out.tabs).mono ?_
      rintro e w5 ⟨rfl, hb5⟩
      go_wp2
      go_ret2
      exact ⟨by rw [HQ.out]; rfl, btr HB4.out hb5⟩
end Go.Proofs.YtjlpkndbnaknaaaGreatDoor
