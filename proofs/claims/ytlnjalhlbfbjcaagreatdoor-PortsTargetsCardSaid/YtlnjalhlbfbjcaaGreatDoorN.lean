/- A target's text, printed and read: contracts; a text cut at a byte. -/
import Derived.Test.YtlnjalhlbfbjcaaGreatDoorM
namespace Go.Proofs.YtlnjalhlbfbjcaaGreatDoor
open Go.RowKit Go.Shelf
attribute [local go_sem] Oper.semAt_some

theorem printS_len (A : Int) : (printS A).length ≤ 16 := by
  unfold printS
  split
  · have := txt_len (l := btsOf A.toNat)
    simpa [btsOf] using this
  · simp

set_option maxRecDepth 100000 in
set_option maxHeartbeats 4000000 in
theorem printT_c (A P : Int) (w : World) (hT : Tabs w) : Calls Tryz.prog 17 #[.agg #[.int .i64 A, .int .i64 P]] w fun x w' => x = .returned (.tuple #[.string ⟨(ptS A P).toArray⟩, .int .i64 (ptE A P)]) ∧ Below w.heap.size w w' := by
  have G1 := fun W h => print_c A W h
  have hl := printS_len A
  unfold ptS ptE
  cases hA : isA A with
  | false =>
    have e1 : ptOk A P = false := by simp [ptOk, hA]
    rw [e1]
    have e2 : printE A = 60 := by unfold printE; rw [hA]; rfl
    rw [e2] at G1
    have H1 := Lib.hid (fun W h => G1 W h)
    generalize printS A = t at *
    clear G1 hA e1 e2
    simp only [Bool.false_eq_true, if_false]
    go_enter Tryz.func17, Tryz.ntmps17
    go_wp2_with (go_at_call 33; refine (H1.out _ (hT.on (below_alloc _ _))).mono ?_; rintro x w1 ⟨rfl, hb1⟩)
    go_ret2
    exact ⟨rfl, btr (below_alloc _ _) hb1⟩
  | true =>
    have e2 : printE A = 0 := by unfold printE; rw [hA]; rfl
    rw [e2] at G1
    have H1 := Lib.hid (fun W h => G1 W h)
    by_cases h1 : P < 1
    · have e1 : ptOk A P = false := by unfold ptOk; rw [decide_eq_false (by omega)]; simp
      rw [e1]
      generalize printS A = t at *
      clear G1 hA e1 e2
      simp only [Bool.false_eq_true, if_false]
      go_enter Tryz.func17, Tryz.ntmps17
      go_wp2_with (go_at_call 33; refine (H1.out _ (hT.on (below_alloc _ _))).mono ?_; rintro x w1 ⟨rfl, hb1⟩; have z1 : w1.cell? ⟨w.heap.size, 1, none⟩ = some (.int .i64 P) := (hb1.cell (p := ⟨w.heap.size, 1, none⟩) (by simp)).trans (by go_simp))
      go_ret2
      exact ⟨rfl, btr (below_alloc _ _) hb1⟩
    · by_cases h2 : 65535 < P
      · have e1 : ptOk A P = false := by unfold ptOk; rw [decide_eq_false (by omega)]; simp
        rw [e1]
        generalize printS A = t at *
        clear G1 hA e1 e2
        simp only [Bool.false_eq_true, if_false]
        go_enter Tryz.func17, Tryz.ntmps17
        go_wp2_with (go_at_call 33; refine (H1.out _ (hT.on (below_alloc _ _))).mono ?_; rintro x w1 ⟨rfl, hb1⟩; have z1 : w1.cell? ⟨w.heap.size, 1, none⟩ = some (.int .i64 P) := (hb1.cell (p := ⟨w.heap.size, 1, none⟩) (by simp)).trans (by go_simp))
        go_ret2
        exact ⟨rfl, btr (below_alloc _ _) hb1⟩
      · have e1 : ptOk A P = true := by unfold ptOk; rw [hA, decide_eq_true (by omega)]; rfl
        rw [e1]
        have HT1 := Lib.hid (fun W h => itoa_c P (by omega) (by omega) W (hT.on h))
        have s1 := itoa21 (n := P) (by omega) (by omega)
        simp only [if_true]
        obtain ⟨t, ht⟩ : ∃ t, t = printS A := ⟨_, rfl⟩
        obtain ⟨u, hu⟩ : ∃ u, u = Lib.itoa P := ⟨_, rfl⟩
        rw [← ht] at H1 hl
        rw [← hu] at HT1 s1
        have E1 := Lib.hid ht
        have E2 := Lib.hid hu
        have c1 : ¬ 9223372036854775807 < t.length + 1 := by omega
        have c2 : ¬ 9223372036854775807 < t.length + 1 + u.length := by omega
        clear G1 hA e1 e2 ht hu hl s1
        go_enter Tryz.func17, Tryz.ntmps17
        go_wp2_with (first | (go_at_call 33; refine (H1.out _ (hT.on (below_alloc _ _))).mono ?_; rintro x w1 ⟨rfl, hb1⟩; have z1 : w1.cell? ⟨w.heap.size, 1, none⟩ = some (.int .i64 P) := (hb1.cell (p := ⟨w.heap.size, 1, none⟩) (by simp)).trans (by go_simp); have sB := btr (below_alloc _ _) hb1) | (go_at_call 22; with_reducible refine (HT1.out _ (by with_reducible assumption)).mono ?_; rintro x w2 ⟨rfl, hb2⟩))
        go_ret2
        refine ⟨?_, btr sB hb2⟩
        show Ending.returned (.tuple #[.string (⟨t.toArray⟩ ++ ⟨#[58]⟩ ++ ⟨u.toArray⟩), .int .i64 0]) = _
        rw [bytes3, E1.out, E2.out]

/-- A number that is a whole text. -/
def snP (most : Int) (L : List UInt8) : Option Int := (numP most L).bind fun x => if x.2 = [] then some x.1 else none
set_option maxRecDepth 100000 in
set_option maxHeartbeats 4000000 in
theorem scanNumber_c (most : Int) (hm : 0 ≤ most ∧ most ≤ 100000) (s : ByteArray) (hsz : s.size ≤ 1000) (w : World) : Calls Tryz.prog 37 #[.string s, .int .i64 most] w fun x w' =>
      ((snP most s.data.toList = none ∧ x = .returned (.tuple #[.int .i64 0, .bool false])) ∨ (∃ n, snP most s.data.toList = some n ∧ 0 ≤ n ∧ n ≤ most ∧ x = .returned (.tuple #[.int .i64 n, .bool true]))) ∧ Below w.heap.size w w' := by
  have hR : RdL w.heap.size s [] (w.alloc (.cells #[.string s] 46)) := ⟨by go_simp, by go_simp, fun i v e => by simp at e⟩
  have HN := Lib.hid (number_c w.heap.size s hsz most [] hm _ hR)
  clear hR
  go_enter Tryz.func37, Tryz.ntmps37
  go_wp2_with fail
  refine HN.out.mono ?_
  rintro x w1 (⟨h, ⟨n, rfl⟩, -, g⟩ | ⟨n, L, h, h0, h1, rfl, g, s1, e1, z1, R1⟩)
  · have hB := (below_alloc w (.cells #[.string s] 46)).grown g (by simp) (fun j hj => by cases hj; exact Nat.le_refl _)
    have H := Lib.hid (show snP most s.data.toList = none by unfold snP; rw [h]; rfl)
    clear h g
    go_wp2
    go_ret2
    exact ⟨.inl ⟨H.out, rfl⟩, hB⟩
  · have hB := (below_alloc w (.cells #[.string s] 46)).grown g (by simp) (fun j hj => by cases hj; exact Nat.le_refl _)
    have hE := end_c w.heap.size s1 [] w1 R1
    rw [e1] at hE
    by_cases hL : L = []
    · rw [decide_eq_true hL] at hE
      have HE := Lib.hid hE
      have H := Lib.hid (show snP most s.data.toList = some n by unfold snP; rw [h, Option.bind_some, if_pos hL])
      clear h g hE hL
      go_wp2_with (go_at_call 53; refine HE.out.mono ?_; rintro x w2 ⟨rfl, rfl⟩)
      go_ret2
      exact ⟨.inr ⟨n, H.out, h0, h1, rfl⟩, hB⟩
    · rw [decide_eq_false hL] at hE
      have HE := Lib.hid hE
      have H := Lib.hid (show snP most s.data.toList = none by unfold snP; rw [h, Option.bind_some, if_neg hL])
      clear h g hE hL
      go_wp2_with (go_at_call 53; refine HE.out.mono ?_; rintro x w2 ⟨rfl, rfl⟩)
      go_ret2
      exact ⟨.inl ⟨H.out, rfl⟩, hB⟩

/-- A text cut at the first byte c. -/
def cutL (c : UInt8) : List UInt8 → List UInt8 × List UInt8 × Bool
  | [] => ([], [], false)
  | x :: r => if x = c then ([], r, true) else (x :: (cutL c r).1, (cutL c r).2.1, (cutL c r).2.2)
theorem cutL_index (c : UInt8) : ∀ L : List UInt8, (Lib.indexByte L c = -1 ∧ cutL c L = (L, [], false)) ∨ (∃ i : Nat, Lib.indexByte L c = i ∧ i < L.length ∧ cutL c L = (L.take i, L.drop (i + 1), true))
  | [] => .inl ⟨rfl, rfl⟩
  | x :: r => by
    by_cases h : x = c
    · exact .inr ⟨0, by simp [Lib.indexByte, h], by simp, by simp [cutL, h]⟩
    · rcases cutL_index c r with ⟨h1, h2⟩ | ⟨i, h1, h2, h3⟩
      · exact .inl ⟨by simp [Lib.indexByte, h, h1], by simp [cutL, h, h2]⟩
      · refine .inr ⟨i + 1, ?_, by simp; omega, by simp [cutL, h, h3]⟩
        have : ¬ ((i : Int) = -1) := by omega
        simp [Lib.indexByte, h, h1, this]
theorem extract_take (s : ByteArray) (k : Nat) : (s.extract 0 k).data.toList = s.data.toList.take k := by
  have : (s.extract 0 k).data = s.data.extract 0 k := by simp
  rw [this, Array.toList_extract]
  simp [List.extract]
set_option maxRecDepth 100000 in
set_option maxHeartbeats 4000000 in
theorem cut_lite (s : ByteArray) (hsz : s.size ≤ 1000) (c : UInt8) (w : World) : Calls Tryz.prog 50 #[.string s, .string ⟨#[c]⟩] w fun x w' =>
      (∃ a b : ByteArray, ∃ f : Bool, x = .returned (.tuple #[.string a, .string b, .bool f]) ∧ cutL c s.data.toList = (a.data.toList, b.data.toList, f) ∧ a.size ≤ s.size ∧ b.size ≤ s.size) ∧ Below w.heap.size w w' := by
  have HI := fun W => Tryz.stringslite_Index_one s c W
  have hls : s.data.toList.length = s.size := rfl
  rcases cutL_index c s.data.toList with ⟨h1, h2⟩ | ⟨i, h1, h2, h3⟩
  · rw [h1] at HI
    have H := Lib.hid HI
    have HH := Lib.hid h2
    clear HI h1 h2
    go_enter Tryz.func50, Tryz.ntmps50
    go_wp2_with (go_at_call 66; refine (H.out _).mono ?_; rintro x w1 ⟨rfl, rfl⟩)
    go_ret3
    exact ⟨⟨s, ⟨#[]⟩, false, rfl, HH.out, Nat.le_refl _, Nat.zero_le _⟩, Below.refl _ _⟩
  · rw [h1] at HI
    have H := Lib.hid HI
    have HH := Lib.hid h3
    have hi : i < s.size := by omega
    have c0 : (⟨#[c]⟩ : ByteArray).size = 1 := rfl
    have c1 : (0 : Int) ≤ (i : Int) := by omega
    have c2 : (i : Int) ≤ (s.size : Int) := by omega
    have c3 : (0 : Int) ≤ (i : Int) + 1 := by omega
    have c4 : (i : Int) + 1 ≤ (s.size : Int) := by omega
    clear HI h1 h3 h2 hls
    go_enter Tryz.func50, Tryz.ntmps50
    go_wp2_with (go_at_call 66; refine (H.out _).mono ?_; rintro x w1 ⟨rfl, rfl⟩)
    go_region
    go_wp2
    go_ret3
    refine ⟨⟨s.extract 0 i, s.extract (i + 1) s.size, true, rfl, ?_, ?_, ?_⟩, below_drew (Below.refl _ _)⟩
    · rw [HH.out, extract_take, extract_list]
    · rw [← list_size, extract_take, List.length_take, ← list_size]; omega
    · rw [← list_size, extract_list, List.length_drop, ← list_size]; omega
theorem scut_c (s : ByteArray) (hsz : s.size ≤ 1000) (c : UInt8) (w : World) : Calls Tryz.prog 35 #[.string s, .string ⟨#[c]⟩] w fun x w' =>
      (∃ a b : ByteArray, ∃ f : Bool, x = .returned (.tuple #[.string a, .string b, .bool f]) ∧ cutL c s.data.toList = (a.data.toList, b.data.toList, f) ∧ a.size ≤ s.size ∧ b.size ≤ s.size) ∧ Below w.heap.size w w' := by
  have H := Lib.hid (fun W => cut_lite s hsz c W)
  go_enter Tryz.func35, Tryz.ntmps35
  go_wp2_with fail
  refine (H.out _).mono ?_
  rintro x w1 ⟨⟨a, b, f, rfl, h1, h2, h3⟩, hb⟩
  have HH := Lib.hid h1
  clear h1
  go_wp2
  go_ret3
  exact ⟨⟨a, b, f, rfl, HH.out, h2, h3⟩, hb⟩

/-- The target of a text. -/
def tgP (L : List UInt8) : Option (Int × Int) := (parseP (cutL 58 L).1).bind fun a => (snP 65535 (cutL 58 L).2.1).bind fun n => if n = 0 then none else some (a, n)
def tgA (L : List UInt8) : Int := match tgP L with
  | some x => x.1
  | none => 0
def tgN (L : List UInt8) : Int := match tgP L with
  | some x => x.2
  | none => 0
def tgE (L : List UInt8) : Int := if (tgP L).isSome = true then 0 else 71
theorem tg_none {L : List UInt8} (h : tgP L = none) : tgA L = 0 ∧ tgN L = 0 ∧ tgE L = 71 := by unfold tgA tgN tgE; rw [h]; exact ⟨rfl, rfl, rfl⟩
theorem tg_some {L : List UInt8} {a n : Int} (h : tgP L = some (a, n)) : tgA L = a ∧ tgN L = n ∧ tgE L = 0 := by unfold tgA tgN tgE; rw [h]; exact ⟨rfl, rfl, rfl⟩
set_option maxRecDepth 100000 in
set_option maxHeartbeats 4000000 in
theorem parseT_c (s : ByteArray) (hsz : s.size ≤ 1000) (w : World) : Calls Tryz.prog 19 #[.string s] w fun x w' =>
      x = .returned (.tuple #[.agg #[.int .i64 (tgA s.data.toList), .int .i64 (tgN s.data.toList)], .int .i64 (tgE s.data.toList)]) ∧ Below w.heap.size w w' := by
  have HC := Lib.hid (fun W => scut_c s hsz 58 W)
  go_enter Tryz.func19, Tryz.ntmps19
  go_wp2_with fail
  have k0 : (w.alloc (.cells #[.int .i64 0, .int .i64 0] 37)).cell? ⟨w.heap.size, 0, none⟩ = some (.int .i64 0) := by go_simp
  have k1 : (w.alloc (.cells #[.int .i64 0, .int .i64 0] 37)).cell? ⟨w.heap.size, 1, none⟩ = some (.int .i64 0) := by go_simp
  have f0 : (w.alloc (.cells #[.int .i64 0, .int .i64 0] 37)).frozen? ⟨w.heap.size, 0, none⟩ = false := by go_simp
  have f1 : (w.alloc (.cells #[.int .i64 0, .int .i64 0] 37)).frozen? ⟨w.heap.size, 1, none⟩ = false := by go_simp
  have HA := Lib.hid (below_alloc w (.cells #[.int .i64 0, .int .i64 0] 37))
  have KK := Lib.hid (show ∀ W, Below (w.alloc (.cells #[.int .i64 0, .int .i64 0] 37)).heap.size (w.alloc (.cells #[.int .i64 0, .int .i64 0] 37)) W →
      W.cell? ⟨w.heap.size, 0, none⟩ = some (.int .i64 0) ∧ W.cell? ⟨w.heap.size, 1, none⟩ = some (.int .i64 0) ∧ W.frozen? ⟨w.heap.size, 0, none⟩ = false ∧ W.frozen? ⟨w.heap.size, 1, none⟩ = false from
    fun W h => ⟨(h.cell (p := ⟨w.heap.size, 0, none⟩) (blt k0)).trans k0, (h.cell (p := ⟨w.heap.size, 1, none⟩) (blt k0)).trans k1, (h.frozen (p := ⟨w.heap.size, 0, none⟩) (blt k0)).trans f0, (h.frozen (p := ⟨w.heap.size, 1, none⟩) (blt k0)).trans f1⟩)
  clear k0 k1 f0 f1
  generalize (w.alloc (.cells #[.int .i64 0, .int .i64 0] 37)) = U at *
  refine (HC.out _).mono ?_
  rintro x w1 ⟨⟨a, b, f, rfl, h1, h2, h3⟩, hb1⟩
  have HH := Lib.hid h1
  have HP := Lib.hid (fun W => parse_c a (by omega) W)
  have HN := Lib.hid (fun W => scanNumber_c 65535 (by omega) b (by omega) W)
  clear h1 h2 h3
  go_wp2_with fail
  refine (HP.out _).mono ?_
  rintro x w2 ⟨rfl, hb2⟩
  have B2 := Lib.hid (btr hb1 hb2)
  clear hb1 hb2
  go_wp2_with fail
  refine (HN.out _).mono ?_
  rintro x w3 ⟨hx, hb3⟩
  have B3 := Lib.hid (btr B2.out hb3)
  obtain ⟨k0, k1, f0, f1⟩ := KK.out w3 B3.out
  have HF := Lib.hid (btr HA.out B3.out)
  clear hb3 B2 B3 KK HA HC HP HN
  have FN := Lib.hid (show ∀ a b : Value, Below w.heap.size w ((w3.setCell ⟨w.heap.size, 0, none⟩ a).setCell ⟨w.heap.size, 1, none⟩ b) from fun a b => (HF.out.setCell (p := ⟨w.heap.size, 0, none⟩) (Nat.le_refl _) _).setCell (p := ⟨w.heap.size, 1, none⟩) (Nat.le_refl _) _)
  cases hp : parseP a.data.toList with
  | none =>
    have e1 : parseE a.data.toList = 60 := by unfold parseE; rw [hp]; rfl
    have E3 := Lib.hid (tg_none (L := s.data.toList) (by unfold tgP; rw [HH.out]; simp only; rw [hp]; rfl))
    rw [e1]
    clear e1 hp
    rcases hx with ⟨h, rfl⟩ | ⟨n, h, h0, hn, rfl⟩
    all_goals
      clear h
      go_wp2
      exact bodyPost_ret (v := .tuple #[.agg #[.int .i64 0, .int .i64 0], .int .i64 71]) (by simp [results, Tryz.results19, go_sem, k0, k1]) rfl ⟨by rw [E3.out.1, E3.out.2.1, E3.out.2.2], FN.out _ _⟩
  | some av =>
    have e1 : parseE a.data.toList = 0 ∧ parseN a.data.toList = av := by unfold parseE parseN; rw [hp]; exact ⟨rfl, rfl⟩
    rw [e1.1, e1.2]
    rcases hx with ⟨h, rfl⟩ | ⟨n, h, h0, hn, rfl⟩
    · have E3 := Lib.hid (tg_none (L := s.data.toList) (by unfold tgP; rw [HH.out]; simp only; rw [hp, h]; rfl))
      clear e1 hp h
      go_wp2
      exact bodyPost_ret (v := .tuple #[.agg #[.int .i64 0, .int .i64 0], .int .i64 71]) (by simp [results, Tryz.results19, go_sem, k0, k1]) rfl ⟨by rw [E3.out.1, E3.out.2.1, E3.out.2.2], FN.out _ _⟩
    · by_cases hz : n = 0
      · have E3 := Lib.hid (tg_none (L := s.data.toList) (by unfold tgP; rw [HH.out]; simp only; rw [hp, h]; simp [hz]))
        clear e1 hp h
        subst hz
        go_wp2
        exact bodyPost_ret (v := .tuple #[.agg #[.int .i64 0, .int .i64 0], .int .i64 71]) (by simp [results, Tryz.results19, go_sem, k0, k1]) rfl ⟨by rw [E3.out.1, E3.out.2.1, E3.out.2.2], FN.out _ _⟩
      · have E3 := Lib.hid (tg_some (L := s.data.toList) (a := av) (n := n) (by unfold tgP; rw [HH.out]; simp only; rw [hp, h]; simp [hz]))
        have hz' : (n == 0) = false := by simpa using hz
        clear e1 hp h hz
        go_wp2
        exact bodyPost_ret (v := .tuple #[.agg #[.int .i64 av, .int .i64 n], .int .i64 0]) (by simp [results, Tryz.results19, go_sem, k0, k1]) rfl ⟨by rw [E3.out.1, E3.out.2.1, E3.out.2.2], FN.out _ _⟩
end Go.Proofs.YtlnjalhlbfbjcaaGreatDoor
