/- The document's own ParsePrefix: its contract. -/
import Derived.Test.YtlmgdhhlflmghaaDoorFF
namespace Go.Proofs.YtlmgdhhlflmghaaDoor
open Go.RowKit
attribute [local go_sem] Oper.semAt_some

theorem rpp_0 {L : List UInt8} (h : cutP 47 L = none) : ppR L = none := by rw [← rpp_eq]; unfold rpp; rw [h]; rfl
theorem rpp_1 {L l r : List UInt8} (h : cutP 47 L = some (l, r)) (h' : parseP l = none) : ppR L = none := by rw [← rpp_eq]; unfold rpp; rw [h]; simp [h']
theorem rpp_2 {L l r : List UInt8} (h : cutP 47 L = some (l, r)) (h' : numR 32 r = none) : ppR L = none := by rw [← rpp_eq]; unfold rpp; rw [h]; simp [h']
theorem rpp_3 {L l r : List UInt8} {a k : Int} (h : cutP 47 L = some (l, r)) (h1 : parseP l = some a) (h2 : numR 32 r = some k) (h3 : rightB a k = false) : ppR L = none := by rw [← rpp_eq]; unfold rpp; rw [h]; simp [h1, h2, h3]
theorem rpp_4 {L l r : List UInt8} {a k : Int} (h : cutP 47 L = some (l, r)) (h1 : parseP l = some a) (h2 : numR 32 r = some k) (h3 : rightB a k = true) : ppR L = some (a, k) := by rw [← rpp_eq]; unfold rpp; rw [h]; simp [h1, h2, h3]

set_option maxRecDepth 100000 in
set_option maxHeartbeats 4000000 in
theorem rparsePrefix_c (L : List UInt8) (hL : L.length ≤ 1000) (w : World) : Calls Tryd.prog 19 #[.string ⟨L.toArray⟩] w fun x w' => x = .returned (.tuple #[.agg #[.int .i64 (ppA L), .int .i64 (ppK L)], .int .i64 (ppE L)]) ∧ Below w.heap.size w w' := by
  have HC := Lib.hid (fun (R : List UInt8) (h : R.length ≤ 1000) W => show Calls Tryd.prog 37 #[.string ⟨R.toArray⟩, .int .u8 47] W _ from rcutL_c R h 47 W)
  have HN := Lib.hid (fun (R : List UInt8) (h : R.length ≤ 1000) W => rnumL_c R h 32 (by omega) (by omega) W)
  have HP := Lib.hid (fun (R : List UInt8) (h : R.length ≤ 1000) W => rparse_c R h W)
  have HR := Lib.hid (fun A K W => rright_c A K W)
  go_enter Tryd.func19, Tryd.ntmps19
  go_wp2_with fail
  have x0 : (w.alloc (.cells #[.int .i64 0, .int .i64 0] 23)).cell? ⟨w.heap.size, 0, none⟩ = some (.int .i64 0) := by go_simp
  have x1 : (w.alloc (.cells #[.int .i64 0, .int .i64 0] 23)).cell? ⟨w.heap.size, 1, none⟩ = some (.int .i64 0) := by go_simp
  have f0 : (w.alloc (.cells #[.int .i64 0, .int .i64 0] 23)).frozen? ⟨w.heap.size, 0, none⟩ = false := by go_simp
  have f1 : (w.alloc (.cells #[.int .i64 0, .int .i64 0] 23)).frozen? ⟨w.heap.size, 1, none⟩ = false := by go_simp
  have B0 := Lib.hid (below_alloc w (.cells #[.int .i64 0, .int .i64 0] 23))
  generalize (w.alloc (.cells #[.int .i64 0, .int .i64 0] 23)) = U at *
  have KK := Lib.hid (show ∀ W, Below U.heap.size U W → W.cell? ⟨w.heap.size, 0, none⟩ = some (.int .i64 0) ∧ W.cell? ⟨w.heap.size, 1, none⟩ = some (.int .i64 0) ∧ W.frozen? ⟨w.heap.size, 0, none⟩ = false ∧ W.frozen? ⟨w.heap.size, 1, none⟩ = false from
    fun W h => ⟨(h.cell (p := ⟨w.heap.size, 0, none⟩) (blt x0)).trans x0, (h.cell (p := ⟨w.heap.size, 1, none⟩) (blt x0)).trans x1, (h.frozen (p := ⟨w.heap.size, 0, none⟩) (blt x0)).trans f0, (h.frozen (p := ⟨w.heap.size, 1, none⟩) (blt x0)).trans f1⟩)
  clear x0 x1 f0 f1
  refine (HC.out L hL _).mono ?_; rintro e w1 ⟨⟨hc', rfl⟩ | ⟨l, r, hc', rfl⟩, hb⟩
  · have hc := Lib.hid hc'
    have C1 := Lib.hid hb
    have B1 := Lib.hid (btr B0.out hb)
    clear hb hc'
    go_wp2_with fail
    refine (HP.out L hL _).mono ?_; rintro e w2 ⟨rfl, hb⟩
    have C2 := Lib.hid (btr C1.out hb)
    have B2 := Lib.hid (btr B1.out hb)
    clear hb
    generalize parseN L = N at *
    generalize parseE L = E at *
    go_wp2_with fail
    refine (HN.out [] (by simp) _).mono ?_; rintro e w3 ⟨⟨hn', n, rfl⟩ | ⟨n, hn', rfl⟩, hb⟩
    all_goals
      have C3 := Lib.hid (btr C2.out hb)
      have B3 := Lib.hid (btr B2.out hb)
      clear hb hn'
      obtain ⟨b0, b1, d0, d1⟩ := KK.out (w3.alloc (.cells #[.int .i64 N, .int .i64 n] 23)) (bal C3.out _)
      have HB := Lib.hid (bal B3.out (.cells #[.int .i64 N, .int .i64 n] 23))
      go_wp2
      exact bodyPost_ret (v := .tuple #[.agg #[.int .i64 0, .int .i64 0], .int .i64 61]) (by simp [results, Tryd.results19, go_sem, b0, b1]) rfl ⟨by rw [(pp_none (rpp_0 hc.out)).1, (pp_none (rpp_0 hc.out)).2.1, (pp_none (rpp_0 hc.out)).2.2], ((HB.out).setCell (p := ⟨w.heap.size, 0, none⟩) (Nat.le_refl _) _).setCell (p := ⟨w.heap.size, 1, none⟩) (Nat.le_refl _) _⟩
  · have hc := Lib.hid hc'
    have hll := cut_len hc'
    have hl : l.length ≤ 1000 := by omega
    have hr' : r.length ≤ 1000 := by omega
    have C1 := Lib.hid hb
    have B1 := Lib.hid (btr B0.out hb)
    clear hb hc' hll
    go_wp2_with fail
    have HPl := HP.out l hl
    cases hp' : parseP l with
    | none =>
      have hp := Lib.hid hp'
      rw [(parse_none hp').1, (parse_none hp').2] at HPl
      have HP2 := Lib.hid HPl
      clear HPl HP hp'
      refine (HP2.out _).mono ?_; rintro e w2 ⟨rfl, hb⟩
      have C2 := Lib.hid (btr C1.out hb)
      have B2 := Lib.hid (btr B1.out hb)
      clear hb
      go_wp2_with fail
      refine (HN.out r hr' _).mono ?_; rintro e w3 ⟨⟨hn', n, rfl⟩ | ⟨n, hn', rfl⟩, hb⟩
      all_goals
        have C3 := Lib.hid (btr C2.out hb)
        have B3 := Lib.hid (btr B2.out hb)
        clear hb hn'
        obtain ⟨b0, b1, d0, d1⟩ := KK.out (w3.alloc (.cells #[.int .i64 0, .int .i64 n] 23)) (bal C3.out _)
        have HB := Lib.hid (bal B3.out (.cells #[.int .i64 0, .int .i64 n] 23))
        go_wp2
        exact bodyPost_ret (v := .tuple #[.agg #[.int .i64 0, .int .i64 0], .int .i64 61]) (by simp [results, Tryd.results19, go_sem, b0, b1]) rfl ⟨by rw [(pp_none (rpp_1 hc.out hp.out)).1, (pp_none (rpp_1 hc.out hp.out)).2.1, (pp_none (rpp_1 hc.out hp.out)).2.2], ((HB.out).setCell (p := ⟨w.heap.size, 0, none⟩) (Nat.le_refl _) _).setCell (p := ⟨w.heap.size, 1, none⟩) (Nat.le_refl _) _⟩
    | some a =>
      have hp := Lib.hid hp'
      rw [(parse_some hp').1, (parse_some hp').2] at HPl
      have HP2 := Lib.hid HPl
      clear HPl HP hp'
      refine (HP2.out _).mono ?_; rintro e w2 ⟨rfl, hb⟩
      have C2 := Lib.hid (btr C1.out hb)
      have B2 := Lib.hid (btr B1.out hb)
      clear hb
      go_wp2_with fail
      refine (HN.out r hr' _).mono ?_; rintro e w3 ⟨⟨hn', n, rfl⟩ | ⟨n, hn', rfl⟩, hb⟩
      · have hn := Lib.hid hn'
        have C3 := Lib.hid (btr C2.out hb)
        have B3 := Lib.hid (btr B2.out hb)
        clear hb hn'
        obtain ⟨b0, b1, d0, d1⟩ := KK.out (w3.alloc (.cells #[.int .i64 a, .int .i64 n] 23)) (bal C3.out _)
        have HB := Lib.hid (bal B3.out (.cells #[.int .i64 a, .int .i64 n] 23))
        go_wp2
        exact bodyPost_ret (v := .tuple #[.agg #[.int .i64 0, .int .i64 0], .int .i64 61]) (by simp [results, Tryd.results19, go_sem, b0, b1]) rfl ⟨by rw [(pp_none (rpp_2 hc.out hn.out)).1, (pp_none (rpp_2 hc.out hn.out)).2.1, (pp_none (rpp_2 hc.out hn.out)).2.2], ((HB.out).setCell (p := ⟨w.heap.size, 0, none⟩) (Nat.le_refl _) _).setCell (p := ⟨w.heap.size, 1, none⟩) (Nat.le_refl _) _⟩
      · have hn := Lib.hid hn'
        have C3 := Lib.hid (btr C2.out hb)
        have B3 := Lib.hid (btr B2.out hb)
        clear hb hn'
        obtain ⟨b0, b1, d0, d1⟩ := KK.out (w3.alloc (.cells #[.int .i64 a, .int .i64 n] 23)) (bal C3.out _)
        have HB := Lib.hid (bal B3.out (.cells #[.int .i64 a, .int .i64 n] 23))
        have CC := Lib.hid (bal C3.out (.cells #[.int .i64 a, .int .i64 n] 23))
        go_wp2_with fail
        have p0 : (w3.alloc (.cells #[.int .i64 a, .int .i64 n] 23)).cell? ⟨w3.heap.size, 0, none⟩ = some (.int .i64 a) := by go_simp
        have p1 : (w3.alloc (.cells #[.int .i64 a, .int .i64 n] 23)).cell? ⟨w3.heap.size, 1, none⟩ = some (.int .i64 n) := by go_simp
        clear b0 b1 d0 d1
        generalize (w3.alloc (.cells #[.int .i64 a, .int .i64 n] 23)) = V at *
        have HRa := HR.out a n
        cases hr3 : rightB a n with
        | false =>
          rw [hr3] at HRa
          have HR2 := Lib.hid HRa
          have hr := Lib.hid hr3
          clear HRa HR hr3
          refine (HR2.out _).mono ?_; rintro e w4 ⟨rfl, hb⟩
          obtain ⟨b0, b1, d0, d1⟩ := KK.out w4 (btr CC.out hb)
          have B4 := Lib.hid (btr HB.out hb)
          clear hb
          go_wp2
          exact bodyPost_ret (v := .tuple #[.agg #[.int .i64 0, .int .i64 0], .int .i64 61]) (by simp [results, Tryd.results19, go_sem, b0, b1]) rfl ⟨by rw [(pp_none (rpp_3 hc.out hp.out hn.out hr.out)).1, (pp_none (rpp_3 hc.out hp.out hn.out hr.out)).2.1, (pp_none (rpp_3 hc.out hp.out hn.out hr.out)).2.2], ((B4.out).setCell (p := ⟨w.heap.size, 0, none⟩) (Nat.le_refl _) _).setCell (p := ⟨w.heap.size, 1, none⟩) (Nat.le_refl _) _⟩
        | true =>
          rw [hr3] at HRa
          have HR2 := Lib.hid HRa
          have hr := Lib.hid (pp_some (rpp_4 hc.out hp.out hn.out hr3))
          clear HRa HR hr3
          refine (HR2.out _).mono ?_; rintro e w4 ⟨rfl, hb⟩
          obtain ⟨b0, b1, d0, d1⟩ := KK.out w4 (btr CC.out hb)
          have q0 := (hb.cell (p := ⟨w3.heap.size, 0, none⟩) (blt p0)).trans p0
          have q1 := (hb.cell (p := ⟨w3.heap.size, 1, none⟩) (blt p0)).trans p1
          have B4 := Lib.hid (btr HB.out hb)
          clear hb p0 p1
          go_wp2
          exact bodyPost_ret (v := .tuple #[.agg #[.int .i64 a, .int .i64 n], .int .i64 0]) (by simp [results, Tryd.results19, go_sem, b0, b1]) rfl ⟨by rw [hr.out.1, hr.out.2.1, hr.out.2.2], (B4.out.setCell (p := ⟨w.heap.size, 0, none⟩) (Nat.le_refl _) _).setCell (p := ⟨w.heap.size, 1, none⟩) (Nat.le_refl _) _⟩

end Go.Proofs.YtlmgdhhlflmghaaDoor
