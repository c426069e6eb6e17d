/- The document's own Parse, ParseTarget: their contracts. -/
import Derived.Test.YtlnjalhlbfbjcaaGreatDoorRG
namespace Go.Proofs.YtlnjalhlbfbjcaaGreatDoor
open Go.RowKit Go.Shelf
attribute [local go_sem] Oper.semAt_some

/-- A result's cells, and those of what is read. -/
structure TwoAt (z : Nat) (F T : Int) (W : World) : Prop where
  r0 : W.cell? ⟨z, 0, none⟩ = some (.int .i64 0)
  r1 : W.cell? ⟨z, 1, none⟩ = some (.int .i64 0)
  f0 : W.frozen? ⟨z, 0, none⟩ = false
  f1 : W.frozen? ⟨z, 1, none⟩ = false
  p0 : W.cell? ⟨z + 1, 0, none⟩ = some (.int .i64 F)
  p1 : W.cell? ⟨z + 1, 1, none⟩ = some (.int .i64 T)
  g0 : W.frozen? ⟨z + 1, 0, none⟩ = false
  g1 : W.frozen? ⟨z + 1, 1, none⟩ = false
theorem TwoAt.on {z : Nat} {F T : Int} {W W' : World} (h : TwoAt z F T W) (k : Below W.heap.size W W') : TwoAt z F T W' :=
  have hb := blt h.r0
  have hc := blt h.p0
  ⟨(k.cell (p := ⟨z, 0, none⟩) hb).trans h.r0, (k.cell (p := ⟨z, 1, none⟩) hb).trans h.r1, (k.frozen (p := ⟨z, 0, none⟩) hb).trans h.f0, (k.frozen (p := ⟨z, 1, none⟩) hb).trans h.f1,
    (k.cell (p := ⟨z + 1, 0, none⟩) hc).trans h.p0, (k.cell (p := ⟨z + 1, 1, none⟩) hc).trans h.p1, (k.frozen (p := ⟨z + 1, 0, none⟩) hc).trans h.g0, (k.frozen (p := ⟨z + 1, 1, none⟩) hc).trans h.g1⟩
theorem TwoAt.set0 {z : Nat} {F T : Int} {W : World} (h : TwoAt z F T W) (F' : Int) : TwoAt z F' T (W.setCell ⟨z + 1, 0, none⟩ (.int .i64 F')) := by
  obtain ⟨r0, r1, f0, f1, p0, p1, g0, g1⟩ := h
  exact ⟨by go_simp, by go_simp, by go_simp, by go_simp, by go_simp, by go_simp, by go_simp, by go_simp⟩
theorem TwoAt.set1 {z : Nat} {F T : Int} {W : World} (h : TwoAt z F T W) (T' : Int) : TwoAt z F T' (W.setCell ⟨z + 1, 1, none⟩ (.int .i64 T')) := by
  obtain ⟨r0, r1, f0, f1, p0, p1, g0, g1⟩ := h
  exact ⟨by go_simp, by go_simp, by go_simp, by go_simp, by go_simp, by go_simp, by go_simp, by go_simp⟩

theorem rnumW_c (s : ByteArray) (hsz : s.size ≤ 1000) (w : World) : Calls Tryz.prog 29 #[.string s, .int .i64 65535] w fun x w' =>
    (∃ n b, x = .returned (.tuple #[.int .i64 n, .bool b]) ∧ ∀ m, numR 65535 s.data.toList = some m → n = m) ∧ Below w.heap.size w w' := by
  refine (rnum_c s hsz 65535 (by omega) (by omega) w).mono ?_
  rintro x w' ⟨(⟨h, n, rfl⟩ | ⟨n, h, rfl⟩), hb⟩
  · exact ⟨⟨n, _, rfl, fun m hm => by rw [h] at hm; cases hm⟩, hb⟩
  · exact ⟨⟨n, _, rfl, fun m hm => by rw [h] at hm; exact Option.some.inj hm⟩, hb⟩
theorem rcutW_c (s : ByteArray) (hsz : s.size ≤ 1000) (c : UInt8) (w : World) : Calls Tryz.prog 28 #[.string s, .int .u8 (c.toNat : Int)] w fun x w' =>
    ((cutP c s.data.toList = none ∧ x = .returned (.tuple #[.string s, .string ⟨#[]⟩, .bool false])) ∨ (∃ a b : ByteArray, cutP c s.data.toList = some (a.data.toList, b.data.toList) ∧ a.size ≤ 1000 ∧ b.size ≤ 1000 ∧ x = .returned (.tuple #[.string a, .string b, .bool true]))) ∧ Below w.heap.size w w' := by
  refine (rcut_c s hsz c w).mono ?_
  rintro x w' ⟨(⟨h, rfl⟩ | ⟨l, r, h, rfl⟩), hb⟩
  · exact ⟨.inl ⟨h, rfl⟩, hb⟩
  · have := cut_len h
    have e : s.data.toList.length = s.size := rfl
    exact ⟨.inr ⟨⟨l.toArray⟩, ⟨r.toArray⟩, by simpa using h, by show l.length ≤ 1000; omega, by show r.length ≤ 1000; omega, rfl⟩, hb⟩

/-- What was read, held against its text. -/
def Held (L : List UInt8) (F T : Int) : Prop := ∀ f t, rwP L = some (f, t) → F = f ∧ T = t
theorem held_star : Held [42] 0 65535 := fun f t h => by
  rw [show rwP [42] = some (0, 65535) by decide +kernel] at h
  cases h
  exact ⟨rfl, rfl⟩
theorem held_one {L : List UInt8} {n : Int} (hs : L ≠ [42]) (hc : cutP 45 L = none) (hn : ∀ m, numR 65535 L = some m → n = m) : Held L n n := fun f t h => by
  obtain ⟨h1, h2⟩ := rw_iff.1 h
  have hb := rightQ_iff.1 h1
  unfold prS at h2
  rw [if_pos h1] at h2
  by_cases h3 : f = 0 ∧ t = 65535
  · rw [if_pos h3] at h2; exact absurd h2 hs
  · rw [if_neg h3] at h2
    by_cases h4 : f = t
    · subst h4
      rw [if_pos rfl] at h2
      have := hn f ((numR_iff (by omega)).2 ⟨hb.1, by omega, h2⟩)
      exact ⟨this, this⟩
    · rw [if_neg h4] at h2
      have : (45 : UInt8) ∈ L := by rw [h2]; simp
      exact absurd this (cutP_not hc)
theorem held_two {L a b : List UInt8} {n m : Int} (hs : L ≠ [42]) (hc : cutP 45 L = some (a, b)) (hn : ∀ k, numR 65535 a = some k → n = k) (hm : ∀ k, numR 65535 b = some k → m = k) : Held L n m := fun f t h => by
  obtain ⟨h1, h2⟩ := rw_iff.1 h
  have hb := rightQ_iff.1 h1
  obtain ⟨c1, c2⟩ := cutP_of hc
  unfold prS at h2
  rw [if_pos h1] at h2
  by_cases h3 : f = 0 ∧ t = 65535
  · rw [if_pos h3] at h2; exact absurd h2 hs
  · rw [if_neg h3] at h2
    by_cases h4 : f = t
    · subst h4
      rw [if_pos rfl] at h2
      have : (45 : UInt8) ∈ L := by rw [c1]; simp
      rw [h2] at this
      exact absurd this (not_in hb.1 dg45)
    · rw [if_neg h4] at h2
      have e : L = Lib.itoa f ++ 45 :: Lib.itoa t := by rw [h2]; simp
      have := cutP_some (r := Lib.itoa t) (not_in (n := f) hb.1 dg45)
      rw [← e, hc] at this
      cases this
      exact ⟨hn f ((numR_iff (by omega)).2 ⟨hb.1, by omega, rfl⟩), hm t ((numR_iff (by omega)).2 ⟨by omega, hb.2.2, rfl⟩)⟩
theorem held_ok {L : List UInt8} {F T : Int} (hr : rightQ F T = true) (he : prS F T = L) : pqF L = F ∧ pqT L = T ∧ pqE L = 0 := pq_some (rw_iff.2 ⟨hr, he.symm⟩)
theorem held_no {L : List UInt8} {F T : Int} (h : Held L F T) (hn : ¬ (rightQ F T = true ∧ prS F T = L)) : pqF L = 0 ∧ pqT L = 0 ∧ pqE L = 70 := by
  refine pq_none ?_
  cases hp : rwP L with
  | none => rfl
  | some x =>
    obtain ⟨f, t⟩ := x
    obtain ⟨rfl, rfl⟩ := h f t hp
    obtain ⟨h1, h2⟩ := rw_iff.1 hp
    exact absurd ⟨h1, h2.symm⟩ hn
/-- The document's Print, as it is held against the text. -/
theorem print_cases (F T : Int) (s : ByteArray) :
    (rightQ F T = true ∧ prS F T = s.data.toList ∧ ∀ W, Calls Tryz.prog 8 #[.agg #[.int .i64 F, .int .i64 T]] W fun x w' => x = .returned (.tuple #[.string s, .int .i64 0]) ∧ Below W.heap.size W w') ∨
    (¬ (rightQ F T = true ∧ prS F T = s.data.toList) ∧ ∃ (a : ByteArray) (e : Int), (e = 70 ∨ (e = 0 ∧ ¬ a.toList = s.toList)) ∧ ∀ W, Calls Tryz.prog 8 #[.agg #[.int .i64 F, .int .i64 T]] W fun x w' => x = .returned (.tuple #[.string a, .int .i64 e]) ∧ Below W.heap.size W w') := by
  have HP := fun W => rprint7_c F T W
  cases hr : rightQ F T with
  | false =>
    refine .inr ⟨by simp, ⟨(prS F T).toArray⟩, prE F T, .inl (by unfold prE; rw [hr]; rfl), HP⟩
  | true =>
    have e : prE F T = 0 := by unfold prE; rw [hr]; rfl
    rw [e] at HP
    by_cases h : prS F T = s.data.toList
    · rw [h, ← str_eq rfl] at HP
      exact .inl ⟨rfl, h, HP⟩
    · refine .inr ⟨fun hh => h hh.2, ⟨(prS F T).toArray⟩, 0, .inr ⟨rfl, ?_⟩, HP⟩
      rw [ByteArray.toList_eq, ByteArray.toList_eq]
      simpa using h

set_option maxRecDepth 100000 in
set_option maxHeartbeats 4000000 in
theorem rparse7_c (s : ByteArray) (hsz : s.size ≤ 1000) (w : World) : Calls Tryz.prog 10 #[.string s] w fun x w' => x = .returned (.tuple #[.agg #[.int .i64 (pqF s.data.toList), .int .i64 (pqT s.data.toList)], .int .i64 (pqE s.data.toList)]) ∧ Below w.heap.size w w' := by
  have HT0 : TwoAt w.heap.size 0 65535 ((w.alloc (.cells #[.int .i64 0, .int .i64 0] 23)).alloc (.cells #[.int .i64 0, .int .i64 65535] 23)) := ⟨by go_simp, by go_simp, by go_simp, by go_simp, by go_simp, by go_simp, by go_simp, by go_simp⟩
  have HB0 : Below w.heap.size w ((w.alloc (.cells #[.int .i64 0, .int .i64 0] 23)).alloc (.cells #[.int .i64 0, .int .i64 65535] 23)) := bal (below_alloc _ _) _
  by_cases hs : s.data.toList = [42]
  · have hse : s = ⟨#[42]⟩ := str_eq hs
    have HH := Lib.hid (show Held s.data.toList 0 65535 by rw [hs]; exact held_star)
    have TT := Lib.hid HT0
    have BT := Lib.hid HB0
    have hsb : (s.toList == [42]) = true := by rw [ByteArray.toList_eq, hs]; rfl
    have hsb2 : s.toList = [42] := by rw [ByteArray.toList_eq, hs]
    clear HT0 HB0 hs hse
    go_enter Tryz.func10, Tryz.ntmps10
    rcases print_cases 0 65535 s with ⟨hr, he, HP⟩ | ⟨hn, a9, e9, hae, HP⟩
    · have E3 := Lib.hid (held_ok hr he)
      have HP' := Lib.hid HP
      clear HP hr he
      go_wp2_with fail
      refine (HP'.out _).mono ?_
      rintro x w9 ⟨rfl, hb9⟩
      obtain ⟨r0, r1, f0, f1, p0, p1, g0, g1⟩ := TT.out.on hb9
      have BB := Lib.hid (btr BT.out hb9)
      clear hb9
      go_wp2
      exact bodyPost_ret (v := .tuple #[.agg #[.int .i64 0, .int .i64 65535], .int .i64 0]) (by simp [results, Tryz.results10, go_sem, r0, r1]) rfl ⟨by rw [E3.out.1, E3.out.2.1, E3.out.2.2], (BB.out.setCell (p := ⟨w.heap.size, 0, none⟩) (Nat.le_refl _) _).setCell (p := ⟨w.heap.size, 1, none⟩) (Nat.le_refl _) _⟩
    · have E3 := Lib.hid (held_no HH.out hn)
      have HP' := Lib.hid HP
      clear HP hn
      rcases hae with rfl | ⟨rfl, hae⟩
      all_goals
        try (have hae2 : (a9.toList == s.toList) = false := by simpa using hae)
        try rw [hsb2] at hae hae2
        go_wp2_with fail
        refine (HP'.out _).mono ?_
        rintro x w9 ⟨rfl, hb9⟩
        obtain ⟨r0, r1, f0, f1, p0, p1, g0, g1⟩ := TT.out.on hb9
        have BB := Lib.hid (btr BT.out hb9)
        clear hb9
        go_wp2
        exact bodyPost_ret (v := .tuple #[.agg #[.int .i64 0, .int .i64 0], .int .i64 70]) (by simp [results, Tryz.results10, go_sem, r0, r1]) rfl ⟨by rw [E3.out.1, E3.out.2.1, E3.out.2.2], (BB.out.setCell (p := ⟨w.heap.size, 0, none⟩) (Nat.le_refl _) _).setCell (p := ⟨w.heap.size, 1, none⟩) (Nat.le_refl _) _⟩
  · have hsb : ¬ s.toList = [42] := by rw [ByteArray.toList_eq]; exact hs
    have hsb0 : (s.toList == [42]) = false := by simpa using hsb
    have HC := Lib.hid (fun W => rcutW_c s hsz 45 W)
    have HNS := Lib.hid (fun W => rnumW_c s hsz W)
    go_enter Tryz.func10, Tryz.ntmps10
    go_wp2_with fail
    generalize ((w.alloc (.cells #[.int .i64 0, .int .i64 0] 23)).alloc (.cells #[.int .i64 0, .int .i64 65535] 23)) = V0 at *
    refine (HC.out _).mono ?_
    rintro x w1 ⟨(⟨hc, rfl⟩ | ⟨a, b, hc, ha, hb, rfl⟩), hb1⟩
    · have T1 := Lib.hid (HT0.on hb1)
      have B1 := Lib.hid (btr HB0 hb1)
      clear HT0 HB0 hb1
      go_wp2_with fail
      refine (HNS.out _).mono ?_
      rintro x w2 ⟨⟨n, b, rfl, hn⟩, hb2⟩
      have T2 := T1.out.on hb2
      have HH := Lib.hid (held_one hs hc hn)
      have TT := Lib.hid ((T2.set0 n).set1 n)
      have BT := Lib.hid (((btr B1.out hb2).setCell (p := ⟨w.heap.size + 1, 0, none⟩) (show w.heap.size ≤ w.heap.size + 1 by omega) (.int .i64 n)).setCell (p := ⟨w.heap.size + 1, 1, none⟩) (show w.heap.size ≤ w.heap.size + 1 by omega) (.int .i64 n))
      obtain ⟨r0, r1, f0, f1, p0, p1, g0, g1⟩ := T2
      clear hb2 hn hc hs T1 B1 HC HNS
      rcases print_cases n n s with ⟨hr, he, HP⟩ | ⟨hn, a9, e9, hae, HP⟩
      · have E3 := Lib.hid (held_ok hr he)
        have HP' := Lib.hid HP
        clear HP hr he
        go_wp2_with fail
        refine (HP'.out _).mono ?_
        rintro x w9 ⟨rfl, hb9⟩
        obtain ⟨r0, r1, f0, f1, p0, p1, g0, g1⟩ := TT.out.on hb9
        have BB := Lib.hid (btr BT.out hb9)
        clear hb9
        go_wp2
        exact bodyPost_ret (v := .tuple #[.agg #[.int .i64 n, .int .i64 n], .int .i64 0]) (by simp [results, Tryz.results10, go_sem, r0, r1]) rfl ⟨by rw [E3.out.1, E3.out.2.1, E3.out.2.2], (BB.out.setCell (p := ⟨w.heap.size, 0, none⟩) (Nat.le_refl _) _).setCell (p := ⟨w.heap.size, 1, none⟩) (Nat.le_refl _) _⟩
      · have E3 := Lib.hid (held_no HH.out hn)
        have HP' := Lib.hid HP
        clear HP hn
        rcases hae with rfl | ⟨rfl, hae⟩
        all_goals
          try (have hae2 : (a9.toList == s.toList) = false := by simpa using hae)
          try rw [hsb2] at hae hae2
          go_wp2_with fail
          refine (HP'.out _).mono ?_
          rintro x w9 ⟨rfl, hb9⟩
          obtain ⟨r0, r1, f0, f1, p0, p1, g0, g1⟩ := TT.out.on hb9
          have BB := Lib.hid (btr BT.out hb9)
          clear hb9
          go_wp2
          exact bodyPost_ret (v := .tuple #[.agg #[.int .i64 0, .int .i64 0], .int .i64 70]) (by simp [results, Tryz.results10, go_sem, r0, r1]) rfl ⟨by rw [E3.out.1, E3.out.2.1, E3.out.2.2], (BB.out.setCell (p := ⟨w.heap.size, 0, none⟩) (Nat.le_refl _) _).setCell (p := ⟨w.heap.size, 1, none⟩) (Nat.le_refl _) _⟩
    · have T1 := Lib.hid (HT0.on hb1)
      have B1 := Lib.hid (btr HB0 hb1)
      have HNA := Lib.hid (fun W => rnumW_c a ha W)
      have HNB := Lib.hid (fun W => rnumW_c b hb W)
      clear HT0 HB0 hb1
      go_wp2_with fail
      refine (HNA.out _).mono ?_
      rintro x w2 ⟨⟨n, b1, rfl, hn⟩, hb2⟩
      have T2 := T1.out.on hb2
      have T2' := Lib.hid ((T2.set0 n).set1 n)
      have B2 := Lib.hid (((btr B1.out hb2).setCell (p := ⟨w.heap.size + 1, 0, none⟩) (show w.heap.size ≤ w.heap.size + 1 by omega) (.int .i64 n)).setCell (p := ⟨w.heap.size + 1, 1, none⟩) (show w.heap.size ≤ w.heap.size + 1 by omega) (.int .i64 n))
      obtain ⟨r0, r1, f0, f1, p0, p1, g0, g1⟩ := T2
      clear hb2 T1 B1 HC HNS HNA
      go_wp2_with fail
      refine (HNB.out _).mono ?_
      rintro x w3 ⟨⟨m, b2, rfl, hm⟩, hb3⟩
      have T3 := T2'.out.on hb3
      have HH := Lib.hid (held_two hs hc hn hm)
      have TT := Lib.hid (T3.set1 m)
      have BT := Lib.hid ((btr B2.out hb3).setCell (p := ⟨w.heap.size + 1, 1, none⟩) (show w.heap.size ≤ w.heap.size + 1 by omega) (.int .i64 m))
      clear r0 r1 f0 f1 p0 p1 g0 g1
      obtain ⟨r0, r1, f0, f1, p0, p1, g0, g1⟩ := T3
      clear hb3 hn hm hc hs T2' B2 HNB
      rcases print_cases n m s with ⟨hr, he, HP⟩ | ⟨hn, a9, e9, hae, HP⟩
      · have E3 := Lib.hid (held_ok hr he)
        have HP' := Lib.hid HP
        clear HP hr he
        go_wp2_with fail
        refine (HP'.out _).mono ?_
        rintro x w9 ⟨rfl, hb9⟩
        obtain ⟨r0, r1, f0, f1, p0, p1, g0, g1⟩ := TT.out.on hb9
        have BB := Lib.hid (btr BT.out hb9)
        clear hb9
        go_wp2
        exact bodyPost_ret (v := .tuple #[.agg #[.int .i64 n, .int .i64 m], .int .i64 0]) (by simp [results, Tryz.results10, go_sem, r0, r1]) rfl ⟨by rw [E3.out.1, E3.out.2.1, E3.out.2.2], (BB.out.setCell (p := ⟨w.heap.size, 0, none⟩) (Nat.le_refl _) _).setCell (p := ⟨w.heap.size, 1, none⟩) (Nat.le_refl _) _⟩
      · have E3 := Lib.hid (held_no HH.out hn)
        have HP' := Lib.hid HP
        clear HP hn
        rcases hae with rfl | ⟨rfl, hae⟩
        all_goals
          try (have hae2 : (a9.toList == s.toList) = false := by simpa using hae)
          try rw [hsb2] at hae hae2
          go_wp2_with fail
          refine (HP'.out _).mono ?_
          rintro x w9 ⟨rfl, hb9⟩
          obtain ⟨r0, r1, f0, f1, p0, p1, g0, g1⟩ := TT.out.on hb9
          have BB := Lib.hid (btr BT.out hb9)
          clear hb9
          go_wp2
          exact bodyPost_ret (v := .tuple #[.agg #[.int .i64 0, .int .i64 0], .int .i64 70]) (by simp [results, Tryz.results10, go_sem, r0, r1]) rfl ⟨by rw [E3.out.1, E3.out.2.1, E3.out.2.2], (BB.out.setCell (p := ⟨w.heap.size, 0, none⟩) (Nat.le_refl _) _).setCell (p := ⟨w.heap.size, 1, none⟩) (Nat.le_refl _) _⟩
end Go.Proofs.YtlnjalhlbfbjcaaGreatDoor
