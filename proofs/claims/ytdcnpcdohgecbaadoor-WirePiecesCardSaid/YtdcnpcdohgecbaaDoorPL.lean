/- The laws WireAll, WireCodes. -/
import Derived.Test.YtdcnpcdohgecbaaDoorPK
import Derived.Test.YtdcnpcdohgecbaaDoorPG
namespace Go.Proofs.YtdcnpcdohgecbaaDoor
open Go.RowKit Go.Shelf
attribute [local go_sem] Oper.semAt_some

set_option maxRecDepth 100000 in
set_option maxHeartbeats 4000000 in
theorem allL_c (s0 s : ByteArray) (m e : Int) (fs : List FrT) (w : World) (hL : ErrT w) (S0 : Hid (∀ W, ErrT W → Calls Tryd.prog 10 #[] W fun x w' => x = .returned (.bool true) ∧ Below W.heap.size W w')) (CU : Hid (∀ W, Calls Tryd.prog 12 #[.string s0] W fun x w' => x = .returned (.string s) ∧ Below W.heap.size W w')) (A1 : Hid (∀ W, ErrT W → Calls Tryd.prog 23 #[.string s] W fun x w' => ∃ v : Value, x = .returned (.tuple #[v, .int .i64 m, .int .i64 e]) ∧ w'.ownsRow W.heap.size 23 3 v fs.length (fCells fs) ∧ Below W.heap.size W w')) (A2 : Hid (∀ W, Calls Tryd.prog 24 #[.string s] W fun x w' => ∃ v : Value, x = .returned (.tuple #[v, .int .i64 m, .int .i64 e]) ∧ w'.ownsRow W.heap.size 23 3 v fs.length (fCells fs) ∧ Below W.heap.size W w'))
    (SM : Hid (∀ a b c1 c2 W, FramesAt W.heap.size W a fs → FramesAt W.heap.size W b fs → Calls Tryd.prog 25 #[.slice a fs.length c1, .slice b fs.length c2] W fun x w' => x = .returned (.bool true) ∧ Below W.heap.size W w')) : Calls Tryd.prog 4 #[.string s0] w fun x w' => x = .returned (.bool true) ∧ Below w.heap.size w w' := by
  have HL := Lib.hid hL
  clear hL
  go_enter Tryd.func4, Tryd.ntmps4
  go_wp2_with fail
  have B0 : Below w.heap.size w w := Below.refl _ w
  replace B0 := Lib.hid B0
  refine (S0.out _ (HL.out.on B0.out)).mono ?_; rintro e w1 ⟨rfl, hb⟩
  have B1 : RowKit.Hid (Below w.heap.size w w1) := Lib.hid (btr B0.out hb)
  clear hb
  go_wp2_with fail
  refine (CU.out _).mono ?_; rintro e w2 ⟨rfl, hb⟩
  have B2 : RowKit.Hid (Below w.heap.size w w2) := Lib.hid (btr B1.out hb)
  clear hb
  go_wp2_with fail
  refine (A1.out _ (HL.out.on B2.out)).mono ?_; rintro e w3 ⟨v1, rfl, ho1, hb⟩
  obtain ⟨a1, c1, rfl, hF1⟩ := frames_of_row ho1
  clear ho1
  have B3 : RowKit.Hid (Below w.heap.size w w3) := Lib.hid (btr B2.out hb)
  clear hb
  go_wp2_with fail
  refine (A2.out _).mono ?_; rintro e w4 ⟨v2, rfl, ho2, hb⟩
  obtain ⟨a2, c2, rfl, hF2⟩ := frames_of_row ho2
  have HF2 := Lib.hid hF2
  have HF1 := Lib.hid ((hF1.below hb).mono hb.size)
  clear ho2 hF1 hF2
  have B4 : RowKit.Hid (Below w.heap.size w w4) := Lib.hid (btr B3.out hb)
  clear hb
  go_wp2_with (refine (SM.out _ _ _ _ _ HF1.out HF2.out).mono ?_; rintro e w5 ⟨rfl, hb5⟩)
  go_ret
  exact ⟨ret_bool (by first | rfl | (simp <;> omega)), btr B4.out hb5⟩
theorem AllS.len {L : List UInt8} {fs : List FrT} {r : List UInt8} (h : AllS L fs r) : 5 * fs.length ≤ L.length := by
  have : ∀ l : List FrT, 5 * l.length ≤ (encs l).length := by
    intro l
    induction l with
    | nil => simp
    | cons f l ih => rw [encs_cons, List.length_append, encL_length, List.length_cons]; omega
  have h1 := this fs
  rw [h.1, List.length_append]
  omega
theorem wireAll_c (s0 : ByteArray) (w : World) (hL : ErrT w) : Calls Tryd.prog 4 #[.string s0] w fun x w' => x = .returned (.bool true) ∧ Below w.heap.size w w' := by
  have hs := cut2_size s0
  obtain ⟨fs, r, hA⟩ := alls_ex _ (cut2 s0).data.toList (Nat.le_refl _)
  have hl := hA.len
  have hsz : (cut2 s0).data.toList.length = (cut2 s0).size := by simp
  exact allL_c s0 (cut2 s0) _ _ fs w hL (Lib.hid (fun W h => shown_c W h)) (Lib.hid (fun W => cut2_c s0 W)) (Lib.hid (fun W h => all2_c (cut2 s0) (by omega) fs r hA W h)) (Lib.hid (fun W => rAll_c (cut2 s0) (by omega) fs r hA W)) (Lib.hid (fun a b c1 c2 W h1 h2 => rSame_c a b c1 c2 fs (by omega) W h1 h2))
set_option maxRecDepth 100000 in
set_option maxHeartbeats 16000000 in
theorem codesL_c (k st : Int) (d0 d s0 s : ByteArray) (at_ n ee tk ts tn te ye nn : Int) (ea td ya : ByteArray) (rr : Bool) (w : World) (hL : ErrT w) (S0 : Hid (∀ W, ErrT W → Calls Tryd.prog 10 #[] W fun x w' => x = .returned (.bool true) ∧ Below W.heap.size W w')) (CU : Hid (∀ b W, W.heap[b]? = some (.cells #[.int .i64 k, .int .i64 st, .string d0] 23 (0, 0)) → Calls Tryd.prog 11 #[.slice (some ⟨b, 0, none⟩) 1 1] W fun x w' => ∃ g c, x = .returned (.slice (some ⟨g, 0, none⟩) 1 c) ∧ w'.cell? ⟨g, 0, none⟩ = some (.int .i64 k) ∧ w'.cell? ⟨g, 1, none⟩ = some (.int .i64 st) ∧ w'.cell? ⟨g, 2, none⟩ = some (.string d) ∧ Below W.heap.size W w')) (C2 : Hid (∀ W, Calls Tryd.prog 12 #[.string s0] W fun x w' => x = .returned (.string s) ∧ Below W.heap.size W w'))
    (E1 : Hid (∀ W, Calls Tryd.prog 13 #[.agg #[.int .i64 k, .int .i64 st, .string d]] W fun x w' => x = .returned (.tuple #[.string ea, .int .i64 ee]) ∧ Below W.heap.size W w'))
    (E2 : Hid (∀ W, Calls Tryd.prog 14 #[.agg #[.int .i64 k, .int .i64 st, .string d]] W fun x w' => x = .returned (.tuple #[.string ea, .int .i64 ee]) ∧ Below W.heap.size W w'))
    (T1 : Hid (∀ W, ErrT W → Calls Tryd.prog 15 #[.string s, .int .i64 at_] W fun x w' => x = .returned (.tuple #[.agg #[.int .i64 tk, .int .i64 ts, .string td], .int .i64 tn, .int .i64 te]) ∧ Below W.heap.size W w'))
    (T2 : Hid (∀ W, Calls Tryd.prog 16 #[.string s, .int .i64 at_] W fun x w' => x = .returned (.tuple #[.agg #[.int .i64 tk, .int .i64 ts, .string td], .int .i64 tn, .int .i64 te]) ∧ Below W.heap.size W w'))
    (Y1 : Hid (∀ W, Calls Tryd.prog 17 #[.int .i64 n] W fun x w' => x = .returned (.tuple #[.string ya, .int .i64 ye]) ∧ Below W.heap.size W w'))
    (Y2 : Hid (∀ W, Calls Tryd.prog 18 #[.int .i64 n] W fun x w' => x = .returned (.tuple #[.string ya, .int .i64 ye]) ∧ Below W.heap.size W w'))
    (R1 : Hid (∀ W, Calls Tryd.prog 19 #[.agg #[.int .i64 k, .int .i64 st, .string d]] W fun x w' => x = .returned (.bool rr) ∧ Below W.heap.size W w'))
    (R2 : Hid (∀ W, Calls Tryd.prog 20 #[.agg #[.int .i64 k, .int .i64 st, .string d]] W fun x w' => x = .returned (.bool rr) ∧ Below W.heap.size W w'))
    (N1 : Hid (∀ W, Calls Tryd.prog 21 #[.string s] W fun x w' => x = .returned (.int .i64 nn) ∧ Below W.heap.size W w'))
    (N2 : Hid (∀ W, Calls Tryd.prog 22 #[.string s] W fun x w' => x = .returned (.int .i64 nn) ∧ Below W.heap.size W w')) :
    Calls Tryd.prog 3 #[.agg #[.int .i64 k, .int .i64 st, .string d0], .string s0, .int .i64 at_, .int .i64 n] w fun x w' => x = .returned (.bool true) ∧ Below w.heap.size w w' := by
  have HL := Lib.hid hL
  clear hL
  go_enter Tryd.func3, Tryd.ntmps3
  go_wp2_with fail
  have x0 : (w.alloc (.cells #[(.int .i64 k), (.int .i64 st), (.string d0)] 23)).cell? ⟨w.heap.size, 0, none⟩ = some ((.int .i64 k)) := by go_simp
  have z0 : (w.alloc (.cells #[(.int .i64 k), (.int .i64 st), (.string d0)] 23)).frozen? ⟨w.heap.size, 0, none⟩ = false := by go_simp
  have x1 : (w.alloc (.cells #[(.int .i64 k), (.int .i64 st), (.string d0)] 23)).cell? ⟨w.heap.size, 1, none⟩ = some ((.int .i64 st)) := by go_simp
  have z1 : (w.alloc (.cells #[(.int .i64 k), (.int .i64 st), (.string d0)] 23)).frozen? ⟨w.heap.size, 1, none⟩ = false := by go_simp
  have x2 : (w.alloc (.cells #[(.int .i64 k), (.int .i64 st), (.string d0)] 23)).cell? ⟨w.heap.size, 2, none⟩ = some ((.string d0)) := by go_simp
  have z2 : (w.alloc (.cells #[(.int .i64 k), (.int .i64 st), (.string d0)] 23)).frozen? ⟨w.heap.size, 2, none⟩ = false := by go_simp
  have BA : Below w.heap.size w (w.alloc (.cells #[(.int .i64 k), (.int .i64 st), (.string d0)] 23)) := below_alloc _ _
  generalize (w.alloc (.cells #[(.int .i64 k), (.int .i64 st), (.string d0)] 23)) = U at *
  refine (S0.out _ (HL.out.on BA)).mono ?_; rintro e w1 ⟨rfl, hb⟩
  have y0 := (hb.cell (blt x0)).trans x0
  have v0 := (hb.frozen (blt x0)).trans z0
  have y1 := (hb.cell (blt x1)).trans x1
  have v1 := (hb.frozen (blt x1)).trans z1
  have y2 := (hb.cell (blt x2)).trans x2
  have v2 := (hb.frozen (blt x2)).trans z2
  have BB := Lib.hid (btr BA hb)
  clear hb BA x0 z0 x1 z1 x2 z2
  go_wp2_with fail
  refine (CU.out _ _ (World.alloc_heap_new w1 _)).mono ?_; rintro e w2 ⟨g, cp, rfl, g0, g1, g2, hb⟩
  replace hb : Below w1.heap.size w1 w2 := (below_alloc w1 (.cells #[(.int .i64 k), (.int .i64 st), (.string d0)] 23)).trans (hb.mono (by simp))
  have x0 := (hb.cell (blt y0)).trans y0
  have z0 := (hb.frozen (blt y0)).trans v0
  have x1 := (hb.cell (blt y1)).trans y1
  have z1 := (hb.frozen (blt y1)).trans v1
  have x2 := (hb.cell (blt y2)).trans y2
  have z2 := (hb.frozen (blt y2)).trans v2
  have BC := Lib.hid (btr BB.out hb)
  clear hb BB y0 v0 y1 v1 y2 v2
  go_wp2_with fail
  have q0 : (((w2.setCell ⟨w.heap.size, 0, none⟩ ((.int .i64 k))).setCell ⟨w.heap.size, 1, none⟩ ((.int .i64 st))).setCell ⟨w.heap.size, 2, none⟩ ((.string d))).cell? ⟨w.heap.size, 0, none⟩ = some ((.int .i64 k)) := by go_simp
  have q1 : (((w2.setCell ⟨w.heap.size, 0, none⟩ ((.int .i64 k))).setCell ⟨w.heap.size, 1, none⟩ ((.int .i64 st))).setCell ⟨w.heap.size, 2, none⟩ ((.string d))).cell? ⟨w.heap.size, 1, none⟩ = some ((.int .i64 st)) := by go_simp
  have q2 : (((w2.setCell ⟨w.heap.size, 0, none⟩ ((.int .i64 k))).setCell ⟨w.heap.size, 1, none⟩ ((.int .i64 st))).setCell ⟨w.heap.size, 2, none⟩ ((.string d))).cell? ⟨w.heap.size, 2, none⟩ = some ((.string d)) := by go_simp
  have BD : Below w.heap.size w (((w2.setCell ⟨w.heap.size, 0, none⟩ ((.int .i64 k))).setCell ⟨w.heap.size, 1, none⟩ ((.int .i64 st))).setCell ⟨w.heap.size, 2, none⟩ ((.string d))) := by repeat' (first | exact BC.out | refine Below.setCell ?_ ?_ _ | (dsimp only; omega))
  clear BC x0 z0 g0 x1 z1 g1 x2 z2 g2
  generalize (((w2.setCell ⟨w.heap.size, 0, none⟩ ((.int .i64 k))).setCell ⟨w.heap.size, 1, none⟩ ((.int .i64 st))).setCell ⟨w.heap.size, 2, none⟩ ((.string d))) = U2 at *
  have B2 := Lib.hid BD
  clear BD
  have KK0 := Lib.hid (show ∀ W, Below U2.heap.size U2 W → W.cell? ⟨w.heap.size, 0, none⟩ = some ((.int .i64 k)) ∧ W.cell? ⟨w.heap.size, 1, none⟩ = some ((.int .i64 st)) ∧ W.cell? ⟨w.heap.size, 2, none⟩ = some ((.string d)) from fun W h => ⟨(h.cell (p := ⟨w.heap.size, 0, none⟩) (blt q0)).trans q0, (h.cell (p := ⟨w.heap.size, 1, none⟩) (blt q1)).trans q1, (h.cell (p := ⟨w.heap.size, 2, none⟩) (blt q2)).trans q2⟩)
  have C0_2 := Lib.hid (Below.refl U2.heap.size U2)
  refine (C2.out _).mono ?_; rintro e w3 ⟨rfl, hb⟩
  have B3 : RowKit.Hid (Below w.heap.size w w3) := Lib.hid (btr B2.out hb)
  have C0_3 : RowKit.Hid (Below U2.heap.size U2 w3) := Lib.hid (btr C0_2.out hb)
  clear q0 q1 q2 hb
  obtain ⟨f3_0_0, f3_0_1, f3_0_2⟩ := KK0.out w3 C0_3.out
  go_wp2_with fail
  refine (E1.out _).mono ?_; rintro e w4 ⟨rfl, hb⟩
  have B4 : RowKit.Hid (Below w.heap.size w w4) := Lib.hid (btr B3.out hb)
  have C0_4 : RowKit.Hid (Below U2.heap.size U2 w4) := Lib.hid (btr C0_3.out hb)
  clear f3_0_0 f3_0_1 f3_0_2 hb
  obtain ⟨f4_0_0, f4_0_1, f4_0_2⟩ := KK0.out w4 C0_4.out
  go_wp2_with fail
  refine (E2.out _).mono ?_; rintro e w5 ⟨rfl, hb⟩
  have B5 : RowKit.Hid (Below w.heap.size w w5) := Lib.hid (btr B4.out hb)
  have C0_5 : RowKit.Hid (Below U2.heap.size U2 w5) := Lib.hid (btr C0_4.out hb)
  clear f4_0_0 f4_0_1 f4_0_2 hb
  obtain ⟨f5_0_0, f5_0_1, f5_0_2⟩ := KK0.out w5 C0_5.out
  go_wp2_with fail
  refine (T1.out _ (HL.out.on B5.out)).mono ?_; rintro e w6 ⟨rfl, hb⟩
  have B6 : RowKit.Hid (Below w.heap.size w (w6.alloc (.cells #[(.int .i64 tk), (.int .i64 ts), (.string td)] 23))) := Lib.hid (bal (btr B5.out hb) _)
  have C0_6 : RowKit.Hid (Below U2.heap.size U2 (w6.alloc (.cells #[(.int .i64 tk), (.int .i64 ts), (.string td)] 23))) := Lib.hid (bal (btr C0_5.out hb) _)
  clear f5_0_0 f5_0_1 f5_0_2 hb
  obtain ⟨f6_0_0, f6_0_1, f6_0_2⟩ := KK0.out (w6.alloc (.cells #[(.int .i64 tk), (.int .i64 ts), (.string td)] 23)) C0_6.out
  have f6_1_0 : (w6.alloc (.cells #[(.int .i64 tk), (.int .i64 ts), (.string td)] 23)).cell? ⟨w6.heap.size, 0, none⟩ = some ((.int .i64 tk)) := by go_simp
  have f6_1_1 : (w6.alloc (.cells #[(.int .i64 tk), (.int .i64 ts), (.string td)] 23)).cell? ⟨w6.heap.size, 1, none⟩ = some ((.int .i64 ts)) := by go_simp
  have f6_1_2 : (w6.alloc (.cells #[(.int .i64 tk), (.int .i64 ts), (.string td)] 23)).cell? ⟨w6.heap.size, 2, none⟩ = some ((.string td)) := by go_simp
  have KK1 := Lib.hid (show ∀ W, Below (w6.alloc (.cells #[(.int .i64 tk), (.int .i64 ts), (.string td)] 23)).heap.size (w6.alloc (.cells #[(.int .i64 tk), (.int .i64 ts), (.string td)] 23)) W → W.cell? ⟨w6.heap.size, 0, none⟩ = some ((.int .i64 tk)) ∧ W.cell? ⟨w6.heap.size, 1, none⟩ = some ((.int .i64 ts)) ∧ W.cell? ⟨w6.heap.size, 2, none⟩ = some ((.string td)) from fun W h => ⟨(h.cell (p := ⟨w6.heap.size, 0, none⟩) (blt f6_1_0)).trans f6_1_0, (h.cell (p := ⟨w6.heap.size, 1, none⟩) (blt f6_1_1)).trans f6_1_1, (h.cell (p := ⟨w6.heap.size, 2, none⟩) (blt f6_1_2)).trans f6_1_2⟩)
  have C1_6 := Lib.hid (Below.refl (w6.alloc (.cells #[(.int .i64 tk), (.int .i64 ts), (.string td)] 23)).heap.size (w6.alloc (.cells #[(.int .i64 tk), (.int .i64 ts), (.string td)] 23)))
  go_wp2_with fail
  refine (T2.out _).mono ?_; rintro e w7 ⟨rfl, hb⟩
  have B7 : RowKit.Hid (Below w.heap.size w (w7.alloc (.cells #[(.int .i64 tk), (.int .i64 ts), (.string td)] 23))) := Lib.hid (bal (btr B6.out hb) _)
  have C0_7 : RowKit.Hid (Below U2.heap.size U2 (w7.alloc (.cells #[(.int .i64 tk), (.int .i64 ts), (.string td)] 23))) := Lib.hid (bal (btr C0_6.out hb) _)
  have C1_7 : RowKit.Hid (Below (w6.alloc (.cells #[(.int .i64 tk), (.int .i64 ts), (.string td)] 23)).heap.size (w6.alloc (.cells #[(.int .i64 tk), (.int .i64 ts), (.string td)] 23)) (w7.alloc (.cells #[(.int .i64 tk), (.int .i64 ts), (.string td)] 23))) := Lib.hid (bal (btr C1_6.out hb) _)
  clear f6_0_0 f6_0_1 f6_0_2 f6_1_0 f6_1_1 f6_1_2 hb
  obtain ⟨f7_0_0, f7_0_1, f7_0_2⟩ := KK0.out (w7.alloc (.cells #[(.int .i64 tk), (.int .i64 ts), (.string td)] 23)) C0_7.out
  obtain ⟨f7_1_0, f7_1_1, f7_1_2⟩ := KK1.out (w7.alloc (.cells #[(.int .i64 tk), (.int .i64 ts), (.string td)] 23)) C1_7.out
  have f7_2_0 : (w7.alloc (.cells #[(.int .i64 tk), (.int .i64 ts), (.string td)] 23)).cell? ⟨w7.heap.size, 0, none⟩ = some ((.int .i64 tk)) := by go_simp
  have f7_2_1 : (w7.alloc (.cells #[(.int .i64 tk), (.int .i64 ts), (.string td)] 23)).cell? ⟨w7.heap.size, 1, none⟩ = some ((.int .i64 ts)) := by go_simp
  have f7_2_2 : (w7.alloc (.cells #[(.int .i64 tk), (.int .i64 ts), (.string td)] 23)).cell? ⟨w7.heap.size, 2, none⟩ = some ((.string td)) := by go_simp
  have KK2 := Lib.hid (show ∀ W, Below (w7.alloc (.cells #[(.int .i64 tk), (.int .i64 ts), (.string td)] 23)).heap.size (w7.alloc (.cells #[(.int .i64 tk), (.int .i64 ts), (.string td)] 23)) W → W.cell? ⟨w7.heap.size, 0, none⟩ = some ((.int .i64 tk)) ∧ W.cell? ⟨w7.heap.size, 1, none⟩ = some ((.int .i64 ts)) ∧ W.cell? ⟨w7.heap.size, 2, none⟩ = some ((.string td)) from fun W h => ⟨(h.cell (p := ⟨w7.heap.size, 0, none⟩) (blt f7_2_0)).trans f7_2_0, (h.cell (p := ⟨w7.heap.size, 1, none⟩) (blt f7_2_1)).trans f7_2_1, (h.cell (p := ⟨w7.heap.size, 2, none⟩) (blt f7_2_2)).trans f7_2_2⟩)
  have C2_7 := Lib.hid (Below.refl (w7.alloc (.cells #[(.int .i64 tk), (.int .i64 ts), (.string td)] 23)).heap.size (w7.alloc (.cells #[(.int .i64 tk), (.int .i64 ts), (.string td)] 23)))
  go_wp2_with fail
  refine (Y1.out _).mono ?_; rintro e w8 ⟨rfl, hb⟩
  have B8 : RowKit.Hid (Below w.heap.size w w8) := Lib.hid (btr B7.out hb)
  have C0_8 : RowKit.Hid (Below U2.heap.size U2 w8) := Lib.hid (btr C0_7.out hb)
  have C1_8 : RowKit.Hid (Below (w6.alloc (.cells #[(.int .i64 tk), (.int .i64 ts), (.string td)] 23)).heap.size (w6.alloc (.cells #[(.int .i64 tk), (.int .i64 ts), (.string td)] 23)) w8) := Lib.hid (btr C1_7.out hb)
  have C2_8 : RowKit.Hid (Below (w7.alloc (.cells #[(.int .i64 tk), (.int .i64 ts), (.string td)] 23)).heap.size (w7.alloc (.cells #[(.int .i64 tk), (.int .i64 ts), (.string td)] 23)) w8) := Lib.hid (btr C2_7.out hb)
  clear f7_0_0 f7_0_1 f7_0_2 f7_1_0 f7_1_1 f7_1_2 f7_2_0 f7_2_1 f7_2_2 hb
  obtain ⟨f8_0_0, f8_0_1, f8_0_2⟩ := KK0.out w8 C0_8.out
  obtain ⟨f8_1_0, f8_1_1, f8_1_2⟩ := KK1.out w8 C1_8.out
  obtain ⟨f8_2_0, f8_2_1, f8_2_2⟩ := KK2.out w8 C2_8.out
  go_wp2_with fail
  refine (Y2.out _).mono ?_; rintro e w9 ⟨rfl, hb⟩
  have B9 : RowKit.Hid (Below w.heap.size w w9) := Lib.hid (btr B8.out hb)
  have C0_9 : RowKit.Hid (Below U2.heap.size U2 w9) := Lib.hid (btr C0_8.out hb)
  have C1_9 : RowKit.Hid (Below (w6.alloc (.cells #[(.int .i64 tk), (.int .i64 ts), (.string td)] 23)).heap.size (w6.alloc (.cells #[(.int .i64 tk), (.int .i64 ts), (.string td)] 23)) w9) := Lib.hid (btr C1_8.out hb)
  have C2_9 : RowKit.Hid (Below (w7.alloc (.cells #[(.int .i64 tk), (.int .i64 ts), (.string td)] 23)).heap.size (w7.alloc (.cells #[(.int .i64 tk), (.int .i64 ts), (.string td)] 23)) w9) := Lib.hid (btr C2_8.out hb)
  clear f8_0_0 f8_0_1 f8_0_2 f8_1_0 f8_1_1 f8_1_2 f8_2_0 f8_2_1 f8_2_2 hb
  obtain ⟨f9_0_0, f9_0_1, f9_0_2⟩ := KK0.out w9 C0_9.out
  obtain ⟨f9_1_0, f9_1_1, f9_1_2⟩ := KK1.out w9 C1_9.out
  obtain ⟨f9_2_0, f9_2_1, f9_2_2⟩ := KK2.out w9 C2_9.out
  go_wp2_with fail
  have HB := Lib.hid B9.out
  generalize w9 = V9 at *
  have u0 : Below V9.heap.size V9 V9 := Below.refl _ V9
  have MK := Lib.hid (show ∀ w', Below V9.heap.size V9 w' → w'.cell? ⟨w.heap.size, 0, none⟩ = some (.int .i64 k) ∧ w'.cell? ⟨w.heap.size, 1, none⟩ = some (.int .i64 st) ∧ w'.cell? ⟨w.heap.size, 2, none⟩ = some (.string d) ∧ w'.cell? ⟨w6.heap.size, 0, none⟩ = some (.int .i64 tk) ∧ w'.cell? ⟨w6.heap.size, 1, none⟩ = some (.int .i64 ts) ∧ w'.cell? ⟨w6.heap.size, 2, none⟩ = some (.string td) ∧ w'.cell? ⟨w7.heap.size, 0, none⟩ = some (.int .i64 tk) ∧ w'.cell? ⟨w7.heap.size, 1, none⟩ = some (.int .i64 ts) ∧ w'.cell? ⟨w7.heap.size, 2, none⟩ = some (.string td) ∧ Below V9.heap.size V9 w' from
    (fun w' h => ⟨(h.cell (p := ⟨w.heap.size, 0, none⟩) (blt f9_0_0)).trans f9_0_0, (h.cell (p := ⟨w.heap.size, 1, none⟩) (blt f9_0_0)).trans f9_0_1, (h.cell (p := ⟨w.heap.size, 2, none⟩) (blt f9_0_0)).trans f9_0_2, (h.cell (p := ⟨w6.heap.size, 0, none⟩) (blt f9_1_0)).trans f9_1_0, (h.cell (p := ⟨w6.heap.size, 1, none⟩) (blt f9_1_0)).trans f9_1_1, (h.cell (p := ⟨w6.heap.size, 2, none⟩) (blt f9_1_0)).trans f9_1_2, (h.cell (p := ⟨w7.heap.size, 0, none⟩) (blt f9_2_0)).trans f9_2_0, (h.cell (p := ⟨w7.heap.size, 1, none⟩) (blt f9_2_0)).trans f9_2_1, (h.cell (p := ⟨w7.heap.size, 2, none⟩) (blt f9_2_0)).trans f9_2_2, h⟩))
  refine wp_region_held_drew (S := (fun w' => w'.cell? ⟨w.heap.size, 0, none⟩ = some (.int .i64 k) ∧ w'.cell? ⟨w.heap.size, 1, none⟩ = some (.int .i64 st) ∧ w'.cell? ⟨w.heap.size, 2, none⟩ = some (.string d) ∧ w'.cell? ⟨w6.heap.size, 0, none⟩ = some (.int .i64 tk) ∧ w'.cell? ⟨w6.heap.size, 1, none⟩ = some (.int .i64 ts) ∧ w'.cell? ⟨w6.heap.size, 2, none⟩ = some (.string td) ∧ w'.cell? ⟨w7.heap.size, 0, none⟩ = some (.int .i64 tk) ∧ w'.cell? ⟨w7.heap.size, 1, none⟩ = some (.int .i64 ts) ∧ w'.cell? ⟨w7.heap.size, 2, none⟩ = some (.string td) ∧ Below V9.heap.size V9 w')) (by kernel_rfl) ?_ (fun hHeld => ?_)
  · (first | with_reducible assumption | exact MK.out _ (by with_reducible assumption) | exact MK.out _ (below_drew (by with_reducible assumption)))
  refine takeH (i := 0) (some 66) (v := ?_) rfl rfl (by kernel_rfl) (by kernel_rfl) (by kernel_rfl) (fun _ _ _ h => h) (Or.inl ⟨by rfl, ?hy0⟩) hHeld ?rest0
  case hy0 => (intro w hSw; (try dsimp only at hSw); go_simp; (try with_reducible rfl))
  try simp only [Act.put, List.setIfInBounds_toArray, List.set_cons_zero, List.set_cons_succ]
  refine takeH (i := 1) (some 67) (v := ?_) rfl rfl (by kernel_rfl) (by kernel_rfl) (by kernel_rfl) (fun _ _ _ h => h) (Or.inl ⟨by rfl, ?hy1⟩) hHeld ?rest1
  case hy1 => (intro w hSw; (try dsimp only at hSw); go_simp; (try with_reducible rfl))
  try simp only [Act.put, List.setIfInBounds_toArray, List.set_cons_zero, List.set_cons_succ]
  refine takeH (i := 2) (some 68) (v := ?_) rfl rfl (by kernel_rfl) (by kernel_rfl) (by kernel_rfl) (fun _ _ _ h => h) (Or.inl ⟨by rfl, ?hy2⟩) hHeld ?rest2
  case hy2 => (intro w hSw; (try dsimp only at hSw); go_simp; (try with_reducible rfl))
  try simp only [Act.put, List.setIfInBounds_toArray, List.set_cons_zero, List.set_cons_succ]
  refine takeH (i := 4) (some 70) (v := ?_) rfl rfl (by kernel_rfl) (by kernel_rfl) (by kernel_rfl) (fun _ _ _ h => h) (Or.inl ⟨by rfl, ?hy4⟩) hHeld ?rest4
  case hy4 => (intro w hSw; (try dsimp only at hSw); go_simp; (try with_reducible rfl))
  try simp only [Act.put, List.setIfInBounds_toArray, List.set_cons_zero, List.set_cons_succ]
  refine wpAnyH_ready (rs := [3]) (by kernel_rfl) (by simp) ?_
  refine AllReadyH.cons rfl (fun K hK => ?_) AllReadyH.nil
  go_simp
  with_reducible refine (R1.out _).mono ?_; rintro e wn ⟨rfl, pB⟩; have sB := btr hHeld.2.2.2.2.2.2.2.2.2 pB; clear pB hHeld
  refine hK.out _ _ ?_ (fun hHeld => ?_)
  · (first | with_reducible assumption | exact MK.out _ (by with_reducible assumption) | exact MK.out _ (below_drew (by with_reducible assumption)))
  clear hK K
  try simp only [Act.put, List.setIfInBounds_toArray, List.set_cons_zero, List.set_cons_succ]
  refine wpAnyH_ready (rs := [5]) (by kernel_rfl) (by simp) ?_
  refine AllReadyH.cons rfl (fun K hK => ?_) AllReadyH.nil
  go_simp
  with_reducible refine (R2.out _).mono ?_; rintro e wn ⟨rfl, pB⟩; have sB := btr hHeld.2.2.2.2.2.2.2.2.2 pB; clear pB hHeld
  refine hK.out _ _ ?_ (fun hHeld => ?_)
  · (first | with_reducible assumption | exact MK.out _ (by with_reducible assumption) | exact MK.out _ (below_drew (by with_reducible assumption)))
  clear hK K
  try simp only [Act.put, List.setIfInBounds_toArray, List.set_cons_zero, List.set_cons_succ]
  refine takeH (i := 6) (some 72) (v := ?_) rfl rfl (by kernel_rfl) (by kernel_rfl) (by kernel_rfl) (fun _ _ _ h => h) (Or.inl ⟨by rfl, ?hy6⟩) hHeld ?rest6
  case hy6 => (intro w hSw; (try dsimp only at hSw); go_simp; (try with_reducible rfl))
  try simp only [Act.put, List.setIfInBounds_toArray, List.set_cons_zero, List.set_cons_succ]
  refine takeH (i := 7) (some 73) (v := ?_) rfl rfl (by kernel_rfl) (by kernel_rfl) (by kernel_rfl) (fun _ _ _ h => h) (Or.inl ⟨by rfl, ?hy7⟩) hHeld ?rest7
  case hy7 => (intro w hSw; (try dsimp only at hSw); go_simp; (try with_reducible rfl))
  try simp only [Act.put, List.setIfInBounds_toArray, List.set_cons_zero, List.set_cons_succ]
  refine takeH (i := 8) (some 74) (v := ?_) rfl rfl (by kernel_rfl) (by kernel_rfl) (by kernel_rfl) (fun _ _ _ h => h) (Or.inl ⟨by rfl, ?hy8⟩) hHeld ?rest8
  case hy8 => (intro w hSw; (try dsimp only at hSw); go_simp; (try with_reducible rfl))
  try simp only [Act.put, List.setIfInBounds_toArray, List.set_cons_zero, List.set_cons_succ]
  refine takeH (i := 9) (some 75) (v := ?_) rfl rfl (by kernel_rfl) (by kernel_rfl) (by kernel_rfl) (fun _ _ _ h => h) (Or.inl ⟨by rfl, ?hy9⟩) hHeld ?rest9
  case hy9 => (intro w hSw; (try dsimp only at hSw); go_simp; (try with_reducible rfl))
  try simp only [Act.put, List.setIfInBounds_toArray, List.set_cons_zero, List.set_cons_succ]
  refine takeH (i := 10) (some 76) (v := ?_) rfl rfl (by kernel_rfl) (by kernel_rfl) (by kernel_rfl) (fun _ _ _ h => h) (Or.inl ⟨by rfl, ?hy10⟩) hHeld ?rest10
  case hy10 => (intro w hSw; (try dsimp only at hSw); go_simp; (try with_reducible rfl))
  try simp only [Act.put, List.setIfInBounds_toArray, List.set_cons_zero, List.set_cons_succ]
  refine takeH (i := 11) (some 77) (v := ?_) rfl rfl (by kernel_rfl) (by kernel_rfl) (by kernel_rfl) (fun _ _ _ h => h) (Or.inl ⟨by rfl, ?hy11⟩) hHeld ?rest11
  case hy11 => (intro w hSw; (try dsimp only at hSw); go_simp; (try with_reducible rfl))
  try simp only [Act.put, List.setIfInBounds_toArray, List.set_cons_zero, List.set_cons_succ]
  refine takeH (i := 12) (some 78) (v := ?_) rfl rfl (by kernel_rfl) (by kernel_rfl) (by kernel_rfl) (fun _ _ _ h => h) (Or.inl ⟨by rfl, ?hy12⟩) hHeld ?rest12
  case hy12 => (intro w hSw; (try dsimp only at hSw); go_simp; (try with_reducible rfl))
  try simp only [Act.put, List.setIfInBounds_toArray, List.set_cons_zero, List.set_cons_succ]
  refine takeH (i := 13) (some 79) (v := ?_) rfl rfl (by kernel_rfl) (by kernel_rfl) (by kernel_rfl) (fun _ _ _ h => h) (Or.inl ⟨by rfl, ?hy13⟩) hHeld ?rest13
  case hy13 => (intro w hSw; (try dsimp only at hSw); go_simp; (try with_reducible rfl))
  try simp only [Act.put, List.setIfInBounds_toArray, List.set_cons_zero, List.set_cons_succ]
  refine takeH (i := 14) (some 80) (v := ?_) rfl rfl (by kernel_rfl) (by kernel_rfl) (by kernel_rfl) (fun _ _ _ h => h) (Or.inl ⟨by rfl, ?hy14⟩) hHeld ?rest14
  case hy14 => (intro w hSw; (try dsimp only at hSw); go_simp; (try with_reducible rfl))
  try simp only [Act.put, List.setIfInBounds_toArray, List.set_cons_zero, List.set_cons_succ]
  refine takeH (i := 15) (some 81) (v := ?_) rfl rfl (by kernel_rfl) (by kernel_rfl) (by kernel_rfl) (fun _ _ _ h => h) (Or.inl ⟨by rfl, ?hy15⟩) hHeld ?rest15
  case hy15 => (intro w hSw; (try dsimp only at hSw); go_simp; (try with_reducible rfl))
  try simp only [Act.put, List.setIfInBounds_toArray, List.set_cons_zero, List.set_cons_succ]
  refine takeH (i := 16) (some 82) (v := ?_) rfl rfl (by kernel_rfl) (by kernel_rfl) (by kernel_rfl) (fun _ _ _ h => h) (Or.inl ⟨by rfl, ?hy16⟩) hHeld ?rest16
  case hy16 => (intro w hSw; (try dsimp only at hSw); go_simp; (try with_reducible rfl))
  try simp only [Act.put, List.setIfInBounds_toArray, List.set_cons_zero, List.set_cons_succ]
  refine takeH (i := 17) (some 83) (v := ?_) rfl rfl (by kernel_rfl) (by kernel_rfl) (by kernel_rfl) (fun _ _ _ h => h) (Or.inl ⟨by rfl, ?hy17⟩) hHeld ?rest17
  case hy17 => (intro w hSw; (try dsimp only at hSw); go_simp; (try with_reducible rfl))
  try simp only [Act.put, List.setIfInBounds_toArray, List.set_cons_zero, List.set_cons_succ]
  refine takeH (i := 18) (some 84) (v := ?_) rfl rfl (by kernel_rfl) (by kernel_rfl) (by kernel_rfl) (fun _ _ _ h => h) (Or.inl ⟨by rfl, ?hy18⟩) hHeld ?rest18
  case hy18 => (intro w hSw; (try dsimp only at hSw); go_simp; (try with_reducible rfl))
  try simp only [Act.put, List.setIfInBounds_toArray, List.set_cons_zero, List.set_cons_succ]
  refine takeH (i := 19) (some 85) (v := ?_) rfl rfl (by kernel_rfl) (by kernel_rfl) (by kernel_rfl) (fun _ _ _ h => h) (Or.inl ⟨by rfl, ?hy19⟩) hHeld ?rest19
  case hy19 => (intro w hSw; (try dsimp only at hSw); go_simp; (try with_reducible rfl))
  try simp only [Act.put, List.setIfInBounds_toArray, List.set_cons_zero, List.set_cons_succ]
  refine takeH (i := 20) (some 86) (v := ?_) rfl rfl (by kernel_rfl) (by kernel_rfl) (by kernel_rfl) (fun _ _ _ h => h) (Or.inl ⟨by rfl, ?hy20⟩) hHeld ?rest20
  case hy20 => (intro w hSw; (try dsimp only at hSw); go_simp; (try with_reducible rfl))
  try simp only [Act.put, List.setIfInBounds_toArray, List.set_cons_zero, List.set_cons_succ]
  refine takeH (i := 21) (some 87) (v := ?_) rfl rfl (by kernel_rfl) (by kernel_rfl) (by kernel_rfl) (fun _ _ _ h => h) (Or.inl ⟨by rfl, ?hy21⟩) hHeld ?rest21
  case hy21 => (intro w hSw; (try dsimp only at hSw); go_simp; (try with_reducible rfl))
  try simp only [Act.put, List.setIfInBounds_toArray, List.set_cons_zero, List.set_cons_succ]
  refine takeH (i := 22) (some 88) (v := ?_) rfl rfl (by kernel_rfl) (by kernel_rfl) (by kernel_rfl) (fun _ _ _ h => h) (Or.inl ⟨by rfl, ?hy22⟩) hHeld ?rest22
  case hy22 => (intro w hSw; (try dsimp only at hSw); go_simp; (try with_reducible rfl))
  try simp only [Act.put, List.setIfInBounds_toArray, List.set_cons_zero, List.set_cons_succ]
  refine takeH (i := 23) (some 89) (v := ?_) rfl rfl (by kernel_rfl) (by kernel_rfl) (by kernel_rfl) (fun _ _ _ h => h) (Or.inl ⟨by rfl, ?hy23⟩) hHeld ?rest23
  case hy23 => (intro w hSw; (try dsimp only at hSw); go_simp; (try with_reducible rfl))
  try simp only [Act.put, List.setIfInBounds_toArray, List.set_cons_zero, List.set_cons_succ]
  refine takeH (i := 24) (some 90) (v := ?_) rfl rfl (by kernel_rfl) (by kernel_rfl) (by kernel_rfl) (fun _ _ _ h => h) (Or.inl ⟨by rfl, ?hy24⟩) hHeld ?rest24
  case hy24 => (intro w hSw; (try dsimp only at hSw); go_simp; (try with_reducible rfl))
  try simp only [Act.put, List.setIfInBounds_toArray, List.set_cons_zero, List.set_cons_succ]
  refine takeH (i := 25) (some 91) (v := ?_) rfl rfl (by kernel_rfl) (by kernel_rfl) (by kernel_rfl) (fun _ _ _ h => h) (Or.inl ⟨by rfl, ?hy25⟩) hHeld ?rest25
  case hy25 => (intro w hSw; (try dsimp only at hSw); go_simp; (try with_reducible rfl))
  try simp only [Act.put, List.setIfInBounds_toArray, List.set_cons_zero, List.set_cons_succ]
  refine takeH (i := 26) (some 92) (v := ?_) rfl rfl (by kernel_rfl) (by kernel_rfl) (by kernel_rfl) (fun _ _ _ h => h) (Or.inl ⟨by rfl, ?hy26⟩) hHeld ?rest26
  case hy26 => (intro w hSw; (try dsimp only at hSw); go_simp; (try with_reducible rfl))
  try simp only [Act.put, List.setIfInBounds_toArray, List.set_cons_zero, List.set_cons_succ]
  refine takeH (i := 27) (some 93) (v := ?_) rfl rfl (by kernel_rfl) (by kernel_rfl) (by kernel_rfl) (fun _ _ _ h => h) (Or.inl ⟨by rfl, ?hy27⟩) hHeld ?rest27
  case hy27 => (intro w hSw; (try dsimp only at hSw); go_simp; (try with_reducible rfl))
  try simp only [Act.put, List.setIfInBounds_toArray, List.set_cons_zero, List.set_cons_succ]
  refine takeH (i := 28) (some 94) (v := ?_) rfl rfl (by kernel_rfl) (by kernel_rfl) (by kernel_rfl) (fun _ _ _ h => h) (Or.inl ⟨by rfl, ?hy28⟩) hHeld ?rest28
  case hy28 => (intro w hSw; (try dsimp only at hSw); go_simp; (try with_reducible rfl))
  try simp only [Act.put, List.setIfInBounds_toArray, List.set_cons_zero, List.set_cons_succ]
  refine takeH (i := 29) (some 95) (v := ?_) rfl rfl (by kernel_rfl) (by kernel_rfl) (by kernel_rfl) (fun _ _ _ h => h) (Or.inl ⟨by rfl, ?hy29⟩) hHeld ?rest29
  case hy29 => (intro w hSw; (try dsimp only at hSw); go_simp; (try with_reducible rfl))
  try simp only [Act.put, List.setIfInBounds_toArray, List.set_cons_zero, List.set_cons_succ]
  refine takeH (i := 30) (some 96) (v := ?_) rfl rfl (by kernel_rfl) (by kernel_rfl) (by kernel_rfl) (fun _ _ _ h => h) (Or.inl ⟨by rfl, ?hy30⟩) hHeld ?rest30
  case hy30 => (intro w hSw; (try dsimp only at hSw); go_simp; (try with_reducible rfl))
  try simp only [Act.put, List.setIfInBounds_toArray, List.set_cons_zero, List.set_cons_succ]
  refine takeH (i := 31) (some 97) (v := ?_) rfl rfl (by kernel_rfl) (by kernel_rfl) (by kernel_rfl) (fun _ _ _ h => h) (Or.inl ⟨by rfl, ?hy31⟩) hHeld ?rest31
  case hy31 => (intro w hSw; (try dsimp only at hSw); go_simp; (try with_reducible rfl))
  try simp only [Act.put, List.setIfInBounds_toArray, List.set_cons_zero, List.set_cons_succ]
  refine takeH (i := 32) (some 98) (v := ?_) rfl rfl (by kernel_rfl) (by kernel_rfl) (by kernel_rfl) (fun _ _ _ h => h) (Or.inl ⟨by rfl, ?hy32⟩) hHeld ?rest32
  case hy32 => (intro w hSw; (try dsimp only at hSw); go_simp; (try with_reducible rfl))
  try simp only [Act.put, List.setIfInBounds_toArray, List.set_cons_zero, List.set_cons_succ]
  refine takeH (i := 33) (some 99) (v := ?_) rfl rfl (by kernel_rfl) (by kernel_rfl) (by kernel_rfl) (fun _ _ _ h => h) (Or.inl ⟨by rfl, ?hy33⟩) hHeld ?rest33
  case hy33 => (intro w hSw; (try dsimp only at hSw); go_simp; (try with_reducible rfl))
  try simp only [Act.put, List.setIfInBounds_toArray, List.set_cons_zero, List.set_cons_succ]
  refine takeH (i := 34) (some 100) (v := ?_) rfl rfl (by kernel_rfl) (by kernel_rfl) (by kernel_rfl) (fun _ _ _ h => h) (Or.inl ⟨by rfl, ?hy34⟩) hHeld ?rest34
  case hy34 => (intro w hSw; (try dsimp only at hSw); go_simp; (try with_reducible rfl))
  try simp only [Act.put, List.setIfInBounds_toArray, List.set_cons_zero, List.set_cons_succ]
  refine takeH (i := 35) (some 101) (v := ?_) rfl rfl (by kernel_rfl) (by kernel_rfl) (by kernel_rfl) (fun _ _ _ h => h) (Or.inl ⟨by rfl, ?hy35⟩) hHeld ?rest35
  case hy35 => (intro w hSw; (try dsimp only at hSw); go_simp; (try with_reducible rfl))
  try simp only [Act.put, List.setIfInBounds_toArray, List.set_cons_zero, List.set_cons_succ]
  refine takeH (i := 36) (some 102) (v := ?_) rfl rfl (by kernel_rfl) (by kernel_rfl) (by kernel_rfl) (fun _ _ _ h => h) (Or.inl ⟨by rfl, ?hy36⟩) hHeld ?rest36
  case hy36 => (intro w hSw; (try dsimp only at hSw); go_simp; (try with_reducible rfl))
  try simp only [Act.put, List.setIfInBounds_toArray, List.set_cons_zero, List.set_cons_succ]
  refine takeH (i := 37) (some 103) (v := ?_) rfl rfl (by kernel_rfl) (by kernel_rfl) (by kernel_rfl) (fun _ _ _ h => h) (Or.inl ⟨by rfl, ?hy37⟩) hHeld ?rest37
  case hy37 => (intro w hSw; (try dsimp only at hSw); go_simp; (try with_reducible rfl))
  try simp only [Act.put, List.setIfInBounds_toArray, List.set_cons_zero, List.set_cons_succ]
  refine takeH (i := 38) (some 104) (v := ?_) rfl rfl (by kernel_rfl) (by kernel_rfl) (by kernel_rfl) (fun _ _ _ h => h) (Or.inl ⟨by rfl, ?hy38⟩) hHeld ?rest38
  case hy38 => (intro w hSw; (try dsimp only at hSw); go_simp; (try with_reducible rfl))
  try simp only [Act.put, List.setIfInBounds_toArray, List.set_cons_zero, List.set_cons_succ]
  refine takeH (i := 39) (some 105) (v := ?_) rfl rfl (by kernel_rfl) (by kernel_rfl) (by kernel_rfl) (fun _ _ _ h => h) (Or.inl ⟨by rfl, ?hy39⟩) hHeld ?rest39
  case hy39 => (intro w hSw; (try dsimp only at hSw); go_simp; (try with_reducible rfl))
  try simp only [Act.put, List.setIfInBounds_toArray, List.set_cons_zero, List.set_cons_succ]
  refine takeH (i := 40) (some 106) (v := ?_) rfl rfl (by kernel_rfl) (by kernel_rfl) (by kernel_rfl) (fun _ _ _ h => h) (Or.inl ⟨by rfl, ?hy40⟩) hHeld ?rest40
  case hy40 => (intro w hSw; (try dsimp only at hSw); go_simp; (try with_reducible rfl))
  try simp only [Act.put, List.setIfInBounds_toArray, List.set_cons_zero, List.set_cons_succ]
  refine takeH (i := 41) (some 107) (v := ?_) rfl rfl (by kernel_rfl) (by kernel_rfl) (by kernel_rfl) (fun _ _ _ h => h) (Or.inl ⟨by rfl, ?hy41⟩) hHeld ?rest41
  case hy41 => (intro w hSw; (try dsimp only at hSw); go_simp; (try with_reducible rfl))
  try simp only [Act.put, List.setIfInBounds_toArray, List.set_cons_zero, List.set_cons_succ]
  refine takeH (i := 42) (some 108) (v := ?_) rfl rfl (by kernel_rfl) (by kernel_rfl) (by kernel_rfl) (fun _ _ _ h => h) (Or.inl ⟨by rfl, ?hy42⟩) hHeld ?rest42
  case hy42 => (intro w hSw; (try dsimp only at hSw); go_simp; (try with_reducible rfl))
  try simp only [Act.put, List.setIfInBounds_toArray, List.set_cons_zero, List.set_cons_succ]
  refine takeH (i := 43) (some 109) (v := ?_) rfl rfl (by kernel_rfl) (by kernel_rfl) (by kernel_rfl) (fun _ _ _ h => h) (Or.inl ⟨by rfl, ?hy43⟩) hHeld ?rest43
  case hy43 => (intro w hSw; (try dsimp only at hSw); go_simp; (try with_reducible rfl))
  try simp only [Act.put, List.setIfInBounds_toArray, List.set_cons_zero, List.set_cons_succ]
  refine takeH (i := 44) (some 110) (v := ?_) rfl rfl (by kernel_rfl) (by kernel_rfl) (by kernel_rfl) (fun _ _ _ h => h) (Or.inl ⟨by rfl, ?hy44⟩) hHeld ?rest44
  case hy44 => (intro w hSw; (try dsimp only at hSw); go_simp; (try with_reducible rfl))
  try simp only [Act.put, List.setIfInBounds_toArray, List.set_cons_zero, List.set_cons_succ]
  refine takeH (i := 46) (some 112) (v := ?_) rfl rfl (by kernel_rfl) (by kernel_rfl) (by kernel_rfl) (fun _ _ _ h => h) (Or.inl ⟨by rfl, ?hy46⟩) hHeld ?rest46
  case hy46 => (intro w hSw; (try dsimp only at hSw); go_simp; (try with_reducible rfl))
  try simp only [Act.put, List.setIfInBounds_toArray, List.set_cons_zero, List.set_cons_succ]
  refine wpAnyH_ready (rs := [45]) (by kernel_rfl) (by simp) ?_
  refine AllReadyH.cons rfl (fun K hK => ?_) AllReadyH.nil
  go_simp
  with_reducible refine (N1.out _).mono ?_; rintro e wn ⟨rfl, pB⟩; have sB := btr hHeld.2.2.2.2.2.2.2.2.2 pB; clear pB hHeld
  refine hK.out _ _ ?_ (fun hHeld => ?_)
  · (first | with_reducible assumption | exact MK.out _ (by with_reducible assumption) | exact MK.out _ (below_drew (by with_reducible assumption)))
  clear hK K
  try simp only [Act.put, List.setIfInBounds_toArray, List.set_cons_zero, List.set_cons_succ]
  refine wpAnyH_ready (rs := [47]) (by kernel_rfl) (by simp) ?_
  refine AllReadyH.cons rfl (fun K hK => ?_) AllReadyH.nil
  go_simp
  with_reducible refine (N2.out _).mono ?_; rintro e wn ⟨rfl, pB⟩; have sB := btr hHeld.2.2.2.2.2.2.2.2.2 pB; clear pB hHeld
  refine hK.out _ _ ?_ (fun hHeld => ?_)
  · (first | with_reducible assumption | exact MK.out _ (by with_reducible assumption) | exact MK.out _ (below_drew (by with_reducible assumption)))
  clear hK K
  try simp only [Act.put, List.setIfInBounds_toArray, List.set_cons_zero, List.set_cons_succ]
  refine takeH (i := 48) (some 114) (v := ?_) rfl rfl (by kernel_rfl) (by kernel_rfl) (by kernel_rfl) (fun _ _ _ h => h) (Or.inl ⟨by rfl, ?hy48⟩) hHeld ?rest48
  case hy48 => (intro w hSw; (try dsimp only at hSw); go_simp; (try with_reducible rfl))
  try simp only [Act.put, List.setIfInBounds_toArray, List.set_cons_zero, List.set_cons_succ]
  refine takeH (i := 49) (some 115) (v := ?_) rfl rfl (by kernel_rfl) (by kernel_rfl) (by kernel_rfl) (fun _ _ _ h => h) (Or.inl ⟨by rfl, ?hy49⟩) hHeld ?rest49
  case hy49 => (intro w hSw; (try dsimp only at hSw); go_simp; (try with_reducible rfl))
  try simp only [Act.put, List.setIfInBounds_toArray, List.set_cons_zero, List.set_cons_succ]
  refine takeH (i := 50) (some 8) (v := ?_) rfl rfl (by kernel_rfl) (by kernel_rfl) (by kernel_rfl) (fun _ _ _ h => h) (Or.inl ⟨by rfl, ?hy50⟩) hHeld ?rest50
  case hy50 => (intro w hSw; (try dsimp only at hSw); go_simp; (try with_reducible rfl))
  try simp only [Act.put, List.setIfInBounds_toArray, List.set_cons_zero, List.set_cons_succ]
  refine wpAnyH_done (by kernel_rfl) ?_ _
  go_wp2
  go_ret
  exact ⟨ret_bool (by first | rfl | (simp <;> omega)), btr HB.out hHeld.2.2.2.2.2.2.2.2.2⟩
theorem encOf_form (k st : Int) (d : ByteArray) : ∃ a e, encOf k st d = .tuple #[.string a, .int .i64 e] := by
  unfold encOf
  split
  · exact ⟨_, _, rfl⟩
  · exact ⟨_, _, rfl⟩
theorem wireCodes_c (k st : Int) (d0 : ByteArray) (hk : (Lit.int .i64 k).wf = true) (s0 : ByteArray) (a n : Int) (w : World) (hL : ErrT w) : Calls Tryd.prog 3 #[.agg #[.int .i64 k, .int .i64 st, .string d0], .string s0, .int .i64 a, .int .i64 n] w fun x w' => x = .returned (.bool true) ∧ Below w.heap.size w w' := by
  have hs := cut2_size s0
  obtain ⟨ea, ee, he⟩ := encOf_form k st (cutD d0)
  exact codesL_c k st d0 (cutD d0) s0 (cut2 s0) a n ee _ _ _ _ _ _ ea _ _ _ w hL (Lib.hid (fun W h => shown_c W h)) (Lib.hid (fun b W h => cut1_c (k, st, d0) b (0, 0) W h)) (Lib.hid (fun W => cut2_c s0 W))
    (Lib.hid (fun W => by have := encode_c k st (cutD d0) hk W; rwa [he] at this)) (Lib.hid (fun W => by have := rEncode_c k st (cutD d0) W; rwa [he] at this))
    (Lib.hid (fun W h => Take_c (cut2 s0) a (by omega) W h)) (Lib.hid (fun W => rTake_c (cut2 s0) a (by omega) W)) (Lib.hid (fun W => bytes_c n W)) (Lib.hid (fun W => rBytes_c n W))
    (Lib.hid (fun W => right_c k st (cutD d0) hk W)) (Lib.hid (fun W => rRight_c k st (cutD d0) W)) (Lib.hid (fun W => number_c (cut2 s0) W)) (Lib.hid (fun W => rNumber_c (cut2 s0) W))
end Go.Proofs.YtdcnpcdohgecbaaDoor
