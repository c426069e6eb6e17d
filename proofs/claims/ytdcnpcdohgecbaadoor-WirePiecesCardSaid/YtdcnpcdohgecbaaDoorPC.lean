/- shown. -/
import Derived.Test.YtdcnpcdohgecbaaDoorPB
namespace Go.Proofs.YtdcnpcdohgecbaaDoor
open Go.RowKit Go.Shelf
attribute [local go_sem] Oper.semAt_some

theorem enc_shown (w : World) : Calls Tryd.prog 13 #[.agg #[.int .i64 4, .int .i64 258, .string ⟨#[104, 105]⟩]] w fun x w' => x = .returned (.tuple #[.string ⟨#[4, 1, 2, 0, 2, 104, 105]⟩, .int .i64 0]) ∧ Below w.heap.size w w' := encode_c 4 258 ⟨#[104, 105]⟩ (by decide) w
theorem enc_shown2 (w : World) : Calls Tryd.prog 13 #[.agg #[.int .i64 4, .int .i64 0, .string ⟨#[104, 105]⟩]] w fun x w' => x = .returned (.tuple #[.string ⟨#[]⟩, .int .i64 33]) ∧ Below w.heap.size w w' := encode_c 4 0 ⟨#[104, 105]⟩ (by decide) w
/-- Take, its answer known. -/
theorem take_is (T : ByteArray) (a K S : Int) (D : ByteArray) (N E : Int) (hT : (T.size : Int) ≤ 4611686018427387904) (h : tkK T a = K ∧ tkS T a = S ∧ tkD T a = D ∧ tkN T a = N ∧ tkE T a = E) (w : World) (hE : ErrT w) : Calls Tryd.prog 15 #[.string T, .int .i64 a] w fun x w' => x = .returned (.tuple #[.agg #[.int .i64 K, .int .i64 S, .string D], .int .i64 N, .int .i64 E]) ∧ Below w.heap.size w w' := by
  obtain ⟨rfl, rfl, rfl, rfl, rfl⟩ := h
  exact Take_c T a hT w hE
def hiF : FrT := (4, 258, ⟨#[104, 105]⟩)
theorem tk_shown1 (T : ByteArray) (h : T.data.toList = [97, 4, 1, 2, 0, 2, 104, 105, 98]) : tkK T 1 = 4 ∧ tkS T 1 = 258 ∧ tkD T 1 = ⟨#[104, 105]⟩ ∧ tkN T 1 = 8 ∧ tkE T 1 = 0 := by
  obtain ⟨a, b, c, d, e⟩ := take_at (T := T) (f := hiF) (by decide) (S := [97]) (R := [98]) (h.trans (by decide))
  exact ⟨b, c, d, e, a⟩
theorem take_shown1 (T : ByteArray) (h : T.data.toList = [97, 4, 1, 2, 0, 2, 104, 105, 98]) (W : World) (hE : ErrT W) : Calls Tryd.prog 15 #[.string T, .int .i64 1] W fun x w' => x = .returned (.tuple #[.agg #[.int .i64 4, .int .i64 258, .string ⟨#[104, 105]⟩], .int .i64 8, .int .i64 0]) ∧ Below W.heap.size W w' := by
  have hsz : T.size = T.data.toList.length := by simp
  rw [h] at hsz
  exact take_is T 1 4 258 ⟨#[104, 105]⟩ 8 0 (by rw [hsz]; decide) (tk_shown1 T h) W hE
theorem tk_err {T : ByteArray} {a c : Int} (h : tkE T a = c) (hc : ¬ c = 0) : tkK T a = 0 ∧ tkS T a = 0 ∧ tkD T a = ⟨#[]⟩ ∧ tkN T a = 0 ∧ tkE T a = c := by
  unfold tkK tkS tkD tkN
  rw [h]
  simp only [hc, if_false, and_self]
theorem tk_shown2 : tkE ⟨#[9]⟩ 0 = 31 := (tkE_hd ⟨#[9]⟩ 0 (by decide)).trans (by decide)
theorem tk_shown3 : tkE ⟨#[4, 0]⟩ 0 = 30 := (tkE_hd ⟨#[4, 0]⟩ 0 (by decide)).trans (by decide)
theorem all_shown (T : ByteArray) (h : T.data.toList = [4, 1, 2, 0, 2, 104, 105, 4, 1, 2, 0, 2, 104, 105, 4]) (w : World) (hE : ErrT w) : Calls Tryd.prog 23 #[.string T] w fun x w' => ∃ v : Value, x = .returned (.tuple #[v, .int .i64 14, .int .i64 0]) ∧ (∃ g c, v = .slice (some ⟨g, 0, none⟩) 2 c) ∧ Below w.heap.size w w' := by
  have hA : AllS T.data.toList [hiF, hiF] [4] := by
    rw [h]
    exact ⟨by decide, by decide, by decide⟩
  have hsz : T.size = T.data.toList.length := by simp
  rw [h] at hsz
  refine (all2_c T (by rw [hsz]; decide) _ _ hA w hE).mono ?_
  rintro x w' ⟨v, rfl, ho, hb⟩
  exact ⟨v, rfl, ownsRow_succ ho, hb⟩
set_option maxRecDepth 100000 in
set_option maxHeartbeats 4000000 in
theorem shown_c (w : World) (hL : ErrT w) : Calls Tryd.prog 10 #[] w fun x w' => x = .returned (.bool true) ∧ Below w.heap.size w w' := by
  have HL := Lib.hid hL
  have E1 := Lib.hid (fun W => enc_shown W)
  have E2 := Lib.hid (fun W => enc_shown2 W)
  have T1 := Lib.hid (fun T h W hE => take_shown1 T h W hE)
  have T2 := Lib.hid (fun W hE => take_is ⟨#[9]⟩ 0 0 0 ⟨#[]⟩ 0 31 (by decide) (tk_err tk_shown2 (by decide)) W hE)
  have T3 := Lib.hid (fun W hE => take_is ⟨#[4, 0]⟩ 0 0 0 ⟨#[]⟩ 0 30 (by decide) (tk_err tk_shown3 (by decide)) W hE)
  have A1 := Lib.hid (fun T h W hE => all_shown T h W hE)
  clear hL
  go_enter Tryd.func10, Tryd.ntmps10
  go_wp2_with fail
  have x0_0 : (w.alloc (.cells #[(.int .i64 4), (.int .i64 258), (.string ⟨#[104, 105]⟩)] 23)).cell? ⟨w.heap.size, 0, none⟩ = some ((.int .i64 4)) := by go_simp
  have x0_1 : (w.alloc (.cells #[(.int .i64 4), (.int .i64 258), (.string ⟨#[104, 105]⟩)] 23)).cell? ⟨w.heap.size, 1, none⟩ = some ((.int .i64 258)) := by go_simp
  have x0_2 : (w.alloc (.cells #[(.int .i64 4), (.int .i64 258), (.string ⟨#[104, 105]⟩)] 23)).cell? ⟨w.heap.size, 2, none⟩ = some ((.string ⟨#[104, 105]⟩)) := by go_simp
  have B0 : Below w.heap.size w (w.alloc (.cells #[(.int .i64 4), (.int .i64 258), (.string ⟨#[104, 105]⟩)] 23)) := (bal (Below.refl _ w) _)
  generalize (w.alloc (.cells #[(.int .i64 4), (.int .i64 258), (.string ⟨#[104, 105]⟩)] 23)) = U at *
  have KK0 := Lib.hid (show ∀ W, Below U.heap.size U W → W.cell? ⟨w.heap.size, 0, none⟩ = some ((.int .i64 4)) ∧ W.cell? ⟨w.heap.size, 1, none⟩ = some ((.int .i64 258)) ∧ W.cell? ⟨w.heap.size, 2, none⟩ = some ((.string ⟨#[104, 105]⟩)) from fun W h => ⟨(h.cell (p := ⟨w.heap.size, 0, none⟩) (blt x0_0)).trans x0_0, (h.cell (p := ⟨w.heap.size, 1, none⟩) (blt x0_1)).trans x0_1, (h.cell (p := ⟨w.heap.size, 2, none⟩) (blt x0_2)).trans x0_2⟩)
  have C0_0 := Lib.hid (Below.refl U.heap.size U)
  replace B0 := Lib.hid B0
  refine (E1.out _).mono ?_; rintro e w1 ⟨rfl, hb⟩
  have B1 : RowKit.Hid (Below w.heap.size w w1) := Lib.hid (btr B0.out hb)
  have C0_1 : RowKit.Hid (Below U.heap.size U w1) := Lib.hid (btr C0_0.out hb)
  clear x0_0 x0_1 x0_2 hb
  obtain ⟨f1_0_0, f1_0_1, f1_0_2⟩ := KK0.out w1 C0_1.out
  go_wp2_with fail
  refine (T1.out _ (by decide) _ (HL.out.on B1.out)).mono ?_; rintro e w2 ⟨rfl, hb⟩
  have B2 : RowKit.Hid (Below w.heap.size w (w2.alloc (.cells #[(.int .i64 4), (.int .i64 258), (.string ⟨#[104, 105]⟩)] 23))) := Lib.hid (bal (btr B1.out hb) _)
  have C0_2 : RowKit.Hid (Below U.heap.size U (w2.alloc (.cells #[(.int .i64 4), (.int .i64 258), (.string ⟨#[104, 105]⟩)] 23))) := Lib.hid (bal (btr C0_1.out hb) _)
  clear f1_0_0 f1_0_1 f1_0_2 hb
  obtain ⟨f2_0_0, f2_0_1, f2_0_2⟩ := KK0.out (w2.alloc (.cells #[(.int .i64 4), (.int .i64 258), (.string ⟨#[104, 105]⟩)] 23)) C0_2.out
  have f2_1_0 : (w2.alloc (.cells #[(.int .i64 4), (.int .i64 258), (.string ⟨#[104, 105]⟩)] 23)).cell? ⟨w2.heap.size, 0, none⟩ = some ((.int .i64 4)) := by go_simp
  have f2_1_1 : (w2.alloc (.cells #[(.int .i64 4), (.int .i64 258), (.string ⟨#[104, 105]⟩)] 23)).cell? ⟨w2.heap.size, 1, none⟩ = some ((.int .i64 258)) := by go_simp
  have f2_1_2 : (w2.alloc (.cells #[(.int .i64 4), (.int .i64 258), (.string ⟨#[104, 105]⟩)] 23)).cell? ⟨w2.heap.size, 2, none⟩ = some ((.string ⟨#[104, 105]⟩)) := by go_simp
  have KK1 := Lib.hid (show ∀ W, Below (w2.alloc (.cells #[(.int .i64 4), (.int .i64 258), (.string ⟨#[104, 105]⟩)] 23)).heap.size (w2.alloc (.cells #[(.int .i64 4), (.int .i64 258), (.string ⟨#[104, 105]⟩)] 23)) W → W.cell? ⟨w2.heap.size, 0, none⟩ = some ((.int .i64 4)) ∧ W.cell? ⟨w2.heap.size, 1, none⟩ = some ((.int .i64 258)) ∧ W.cell? ⟨w2.heap.size, 2, none⟩ = some ((.string ⟨#[104, 105]⟩)) from fun W h => ⟨(h.cell (p := ⟨w2.heap.size, 0, none⟩) (blt f2_1_0)).trans f2_1_0, (h.cell (p := ⟨w2.heap.size, 1, none⟩) (blt f2_1_1)).trans f2_1_1, (h.cell (p := ⟨w2.heap.size, 2, none⟩) (blt f2_1_2)).trans f2_1_2⟩)
  have C1_2 := Lib.hid (Below.refl (w2.alloc (.cells #[(.int .i64 4), (.int .i64 258), (.string ⟨#[104, 105]⟩)] 23)).heap.size (w2.alloc (.cells #[(.int .i64 4), (.int .i64 258), (.string ⟨#[104, 105]⟩)] 23)))
  go_wp2_with fail
  refine (T2.out _ (HL.out.on B2.out)).mono ?_; rintro e w3 ⟨rfl, hb⟩
  have B3 : RowKit.Hid (Below w.heap.size w (w3.alloc (.cells #[(.int .i64 0), (.int .i64 0), (.string ⟨#[]⟩)] 23))) := Lib.hid (bal (btr B2.out hb) _)
  have C0_3 : RowKit.Hid (Below U.heap.size U (w3.alloc (.cells #[(.int .i64 0), (.int .i64 0), (.string ⟨#[]⟩)] 23))) := Lib.hid (bal (btr C0_2.out hb) _)
  have C1_3 : RowKit.Hid (Below (w2.alloc (.cells #[(.int .i64 4), (.int .i64 258), (.string ⟨#[104, 105]⟩)] 23)).heap.size (w2.alloc (.cells #[(.int .i64 4), (.int .i64 258), (.string ⟨#[104, 105]⟩)] 23)) (w3.alloc (.cells #[(.int .i64 0), (.int .i64 0), (.string ⟨#[]⟩)] 23))) := Lib.hid (bal (btr C1_2.out hb) _)
  clear f2_0_0 f2_0_1 f2_0_2 f2_1_0 f2_1_1 f2_1_2 hb
  obtain ⟨f3_0_0, f3_0_1, f3_0_2⟩ := KK0.out (w3.alloc (.cells #[(.int .i64 0), (.int .i64 0), (.string ⟨#[]⟩)] 23)) C0_3.out
  obtain ⟨f3_1_0, f3_1_1, f3_1_2⟩ := KK1.out (w3.alloc (.cells #[(.int .i64 0), (.int .i64 0), (.string ⟨#[]⟩)] 23)) C1_3.out
  have f3_2_0 : (w3.alloc (.cells #[(.int .i64 0), (.int .i64 0), (.string ⟨#[]⟩)] 23)).cell? ⟨w3.heap.size, 0, none⟩ = some ((.int .i64 0)) := by go_simp
  have f3_2_1 : (w3.alloc (.cells #[(.int .i64 0), (.int .i64 0), (.string ⟨#[]⟩)] 23)).cell? ⟨w3.heap.size, 1, none⟩ = some ((.int .i64 0)) := by go_simp
  have f3_2_2 : (w3.alloc (.cells #[(.int .i64 0), (.int .i64 0), (.string ⟨#[]⟩)] 23)).cell? ⟨w3.heap.size, 2, none⟩ = some ((.string ⟨#[]⟩)) := by go_simp
  have KK2 := Lib.hid (show ∀ W, Below (w3.alloc (.cells #[(.int .i64 0), (.int .i64 0), (.string ⟨#[]⟩)] 23)).heap.size (w3.alloc (.cells #[(.int .i64 0), (.int .i64 0), (.string ⟨#[]⟩)] 23)) W → W.cell? ⟨w3.heap.size, 0, none⟩ = some ((.int .i64 0)) ∧ W.cell? ⟨w3.heap.size, 1, none⟩ = some ((.int .i64 0)) ∧ W.cell? ⟨w3.heap.size, 2, none⟩ = some ((.string ⟨#[]⟩)) from fun W h => ⟨(h.cell (p := ⟨w3.heap.size, 0, none⟩) (blt f3_2_0)).trans f3_2_0, (h.cell (p := ⟨w3.heap.size, 1, none⟩) (blt f3_2_1)).trans f3_2_1, (h.cell (p := ⟨w3.heap.size, 2, none⟩) (blt f3_2_2)).trans f3_2_2⟩)
  have C2_3 := Lib.hid (Below.refl (w3.alloc (.cells #[(.int .i64 0), (.int .i64 0), (.string ⟨#[]⟩)] 23)).heap.size (w3.alloc (.cells #[(.int .i64 0), (.int .i64 0), (.string ⟨#[]⟩)] 23)))
  go_wp2_with fail
  refine (T3.out _ (HL.out.on B3.out)).mono ?_; rintro e w4 ⟨rfl, hb⟩
  have B4 : RowKit.Hid (Below w.heap.size w (w4.alloc (.cells #[(.int .i64 0), (.int .i64 0), (.string ⟨#[]⟩)] 23))) := Lib.hid (bal (btr B3.out hb) _)
  have C0_4 : RowKit.Hid (Below U.heap.size U (w4.alloc (.cells #[(.int .i64 0), (.int .i64 0), (.string ⟨#[]⟩)] 23))) := Lib.hid (bal (btr C0_3.out hb) _)
  have C1_4 : RowKit.Hid (Below (w2.alloc (.cells #[(.int .i64 4), (.int .i64 258), (.string ⟨#[104, 105]⟩)] 23)).heap.size (w2.alloc (.cells #[(.int .i64 4), (.int .i64 258), (.string ⟨#[104, 105]⟩)] 23)) (w4.alloc (.cells #[(.int .i64 0), (.int .i64 0), (.string ⟨#[]⟩)] 23))) := Lib.hid (bal (btr C1_3.out hb) _)
  have C2_4 : RowKit.Hid (Below (w3.alloc (.cells #[(.int .i64 0), (.int .i64 0), (.string ⟨#[]⟩)] 23)).heap.size (w3.alloc (.cells #[(.int .i64 0), (.int .i64 0), (.string ⟨#[]⟩)] 23)) (w4.alloc (.cells #[(.int .i64 0), (.int .i64 0), (.string ⟨#[]⟩)] 23))) := Lib.hid (bal (btr C2_3.out hb) _)
  clear f3_0_0 f3_0_1 f3_0_2 f3_1_0 f3_1_1 f3_1_2 f3_2_0 f3_2_1 f3_2_2 hb
  obtain ⟨f4_0_0, f4_0_1, f4_0_2⟩ := KK0.out (w4.alloc (.cells #[(.int .i64 0), (.int .i64 0), (.string ⟨#[]⟩)] 23)) C0_4.out
  obtain ⟨f4_1_0, f4_1_1, f4_1_2⟩ := KK1.out (w4.alloc (.cells #[(.int .i64 0), (.int .i64 0), (.string ⟨#[]⟩)] 23)) C1_4.out
  obtain ⟨f4_2_0, f4_2_1, f4_2_2⟩ := KK2.out (w4.alloc (.cells #[(.int .i64 0), (.int .i64 0), (.string ⟨#[]⟩)] 23)) C2_4.out
  have f4_3_0 : (w4.alloc (.cells #[(.int .i64 0), (.int .i64 0), (.string ⟨#[]⟩)] 23)).cell? ⟨w4.heap.size, 0, none⟩ = some ((.int .i64 0)) := by go_simp
  have f4_3_1 : (w4.alloc (.cells #[(.int .i64 0), (.int .i64 0), (.string ⟨#[]⟩)] 23)).cell? ⟨w4.heap.size, 1, none⟩ = some ((.int .i64 0)) := by go_simp
  have f4_3_2 : (w4.alloc (.cells #[(.int .i64 0), (.int .i64 0), (.string ⟨#[]⟩)] 23)).cell? ⟨w4.heap.size, 2, none⟩ = some ((.string ⟨#[]⟩)) := by go_simp
  have KK3 := Lib.hid (show ∀ W, Below (w4.alloc (.cells #[(.int .i64 0), (.int .i64 0), (.string ⟨#[]⟩)] 23)).heap.size (w4.alloc (.cells #[(.int .i64 0), (.int .i64 0), (.string ⟨#[]⟩)] 23)) W → W.cell? ⟨w4.heap.size, 0, none⟩ = some ((.int .i64 0)) ∧ W.cell? ⟨w4.heap.size, 1, none⟩ = some ((.int .i64 0)) ∧ W.cell? ⟨w4.heap.size, 2, none⟩ = some ((.string ⟨#[]⟩)) from fun W h => ⟨(h.cell (p := ⟨w4.heap.size, 0, none⟩) (blt f4_3_0)).trans f4_3_0, (h.cell (p := ⟨w4.heap.size, 1, none⟩) (blt f4_3_1)).trans f4_3_1, (h.cell (p := ⟨w4.heap.size, 2, none⟩) (blt f4_3_2)).trans f4_3_2⟩)
  have C3_4 := Lib.hid (Below.refl (w4.alloc (.cells #[(.int .i64 0), (.int .i64 0), (.string ⟨#[]⟩)] 23)).heap.size (w4.alloc (.cells #[(.int .i64 0), (.int .i64 0), (.string ⟨#[]⟩)] 23)))
  go_wp2_with fail
  refine (A1.out _ (by decide) _ (HL.out.on B4.out)).mono ?_; rintro e w5 ⟨v, rfl, ⟨g, cp, rfl⟩, hb⟩
  have B5 : RowKit.Hid (Below w.heap.size w w5) := Lib.hid (btr B4.out hb)
  have C0_5 : RowKit.Hid (Below U.heap.size U w5) := Lib.hid (btr C0_4.out hb)
  have C1_5 : RowKit.Hid (Below (w2.alloc (.cells #[(.int .i64 4), (.int .i64 258), (.string ⟨#[104, 105]⟩)] 23)).heap.size (w2.alloc (.cells #[(.int .i64 4), (.int .i64 258), (.string ⟨#[104, 105]⟩)] 23)) w5) := Lib.hid (btr C1_4.out hb)
  have C2_5 : RowKit.Hid (Below (w3.alloc (.cells #[(.int .i64 0), (.int .i64 0), (.string ⟨#[]⟩)] 23)).heap.size (w3.alloc (.cells #[(.int .i64 0), (.int .i64 0), (.string ⟨#[]⟩)] 23)) w5) := Lib.hid (btr C2_4.out hb)
  have C3_5 : RowKit.Hid (Below (w4.alloc (.cells #[(.int .i64 0), (.int .i64 0), (.string ⟨#[]⟩)] 23)).heap.size (w4.alloc (.cells #[(.int .i64 0), (.int .i64 0), (.string ⟨#[]⟩)] 23)) w5) := Lib.hid (btr C3_4.out hb)
  clear f4_0_0 f4_0_1 f4_0_2 f4_1_0 f4_1_1 f4_1_2 f4_2_0 f4_2_1 f4_2_2 f4_3_0 f4_3_1 f4_3_2 hb
  obtain ⟨f5_0_0, f5_0_1, f5_0_2⟩ := KK0.out w5 C0_5.out
  obtain ⟨f5_1_0, f5_1_1, f5_1_2⟩ := KK1.out w5 C1_5.out
  obtain ⟨f5_2_0, f5_2_1, f5_2_2⟩ := KK2.out w5 C2_5.out
  obtain ⟨f5_3_0, f5_3_1, f5_3_2⟩ := KK3.out w5 C3_5.out
  go_wp2_with fail
  refine (E2.out _).mono ?_; rintro e w6 ⟨rfl, hb⟩
  have B6 : RowKit.Hid (Below w.heap.size w w6) := Lib.hid (btr B5.out hb)
  have C0_6 : RowKit.Hid (Below U.heap.size U w6) := Lib.hid (btr C0_5.out hb)
  have C1_6 : RowKit.Hid (Below (w2.alloc (.cells #[(.int .i64 4), (.int .i64 258), (.string ⟨#[104, 105]⟩)] 23)).heap.size (w2.alloc (.cells #[(.int .i64 4), (.int .i64 258), (.string ⟨#[104, 105]⟩)] 23)) w6) := Lib.hid (btr C1_5.out hb)
  have C2_6 : RowKit.Hid (Below (w3.alloc (.cells #[(.int .i64 0), (.int .i64 0), (.string ⟨#[]⟩)] 23)).heap.size (w3.alloc (.cells #[(.int .i64 0), (.int .i64 0), (.string ⟨#[]⟩)] 23)) w6) := Lib.hid (btr C2_5.out hb)
  have C3_6 : RowKit.Hid (Below (w4.alloc (.cells #[(.int .i64 0), (.int .i64 0), (.string ⟨#[]⟩)] 23)).heap.size (w4.alloc (.cells #[(.int .i64 0), (.int .i64 0), (.string ⟨#[]⟩)] 23)) w6) := Lib.hid (btr C3_5.out hb)
  clear f5_0_0 f5_0_1 f5_0_2 f5_1_0 f5_1_1 f5_1_2 f5_2_0 f5_2_1 f5_2_2 f5_3_0 f5_3_1 f5_3_2 hb
  obtain ⟨f6_0_0, f6_0_1, f6_0_2⟩ := KK0.out w6 C0_6.out
  obtain ⟨f6_1_0, f6_1_1, f6_1_2⟩ := KK1.out w6 C1_6.out
  obtain ⟨f6_2_0, f6_2_1, f6_2_2⟩ := KK2.out w6 C2_6.out
  obtain ⟨f6_3_0, f6_3_1, f6_3_2⟩ := KK3.out w6 C3_6.out
  go_wp2
  go_ret
  exact ⟨ret_bool (by first | rfl | (simp <;> omega)), B6.out⟩
end Go.Proofs.YtdcnpcdohgecbaaDoor
