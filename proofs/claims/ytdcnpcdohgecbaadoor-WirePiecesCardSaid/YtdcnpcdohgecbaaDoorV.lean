/- take in one; Take. -/
import Derived.Test.YtdcnpcdohgecbaaDoorU
import Derived.Test.YtdcnpcdohgecbaaDoorEC
namespace Go.Proofs.YtdcnpcdohgecbaaDoor
open Go.RowKit Go.Shelf
attribute [local go_sem] Oper.semAt_some

def tkK (s : ByteArray) (a : Int) : Int := if tkE s a = 0 then byteAt s a.toNat else 0
def tkS (s : ByteArray) (a : Int) : Int := if tkE s a = 0 then numAt s (a.toNat + 1) else 0
def tkD (s : ByteArray) (a : Int) : ByteArray := if tkE s a = 0 then s.extract (a.toNat + 5) (a.toNat + 5 + (numAt s (a.toNat + 3)).toNat) else ⟨#[]⟩
def tkN (s : ByteArray) (a : Int) : Int := if tkE s a = 0 then (a.toNat : Int) + 5 + numAt s (a.toNat + 3) else 0
def tkX (s : ByteArray) (a : Int) : Value := errV (decide (tkE s a = 0)) (tkE s a)
/-- What was taken. -/
def takV (s : ByteArray) (a : Int) : Value := .agg #[.int .i64 (tkK s a), .int .i64 (tkS s a), .string (tkD s a), .int .i64 (tkN s a), tkX s a]
/-- Where there is a frame. -/
theorem tk_facts {s : ByteArray} {a : Int} (h : tkE s a = 0) : ∃ n L : Nat, a = n ∧ numAt s (n + 3) = L ∧ n + 5 + L ≤ s.size ∧ L ≤ 512 ∧ 1 ≤ byteAt s n ∧ byteAt s n ≤ 8 ∧ rightW (byteAt s n) (numAt s (n + 1)) L = true := by
  have hq := tkE_zero h
  have h0 := hq 0 (by omega)
  have h2 := hq 2 (by omega)
  have h4 := hq 4 (by omega)
  have h5 := hq 5 (by omega)
  have h6 := hq 6 (by omega)
  simp only [okT, Bool.and_eq_true, decide_eq_true_eq] at h0 h2 h4 h5 h6
  obtain ⟨n, rfl⟩ : ∃ n : Nat, a = n := ⟨a.toNat, by omega⟩
  simp only [Int.toNat_natCast] at h2 h4 h5 h6
  have hr := numAt_range s (n + 3)
  obtain ⟨L, hL⟩ : ∃ L : Nat, numAt s (n + 3) = L := ⟨(numAt s (n + 3)).toNat, by omega⟩
  rw [hL] at h4 h5 h6
  exact ⟨n, L, rfl, hL, by omega, by omega, h2.1, h2.2, h6⟩
theorem take_c (s : ByteArray) (a : Int) (hs : (s.size : Int) ≤ 4611686018427387904) (w : World) : Calls Tryd.prog 28 #[.string s, .int .i64 a] w fun x w' => x = .returned (takV s a) ∧ Below w.heap.size w w' := by
  by_cases h : tkE s a = 0
  · obtain ⟨n, L, rfl, hL, hk, _⟩ := tk_facts h
    have := take_yes s n L hL hk hs h w
    unfold takV tkK tkS tkD tkN tkX
    simp only [h, if_true, Int.toNat_natCast, hL]
    exact this
  · have := take_no s a hs _ rfl h w
    unfold takV tkK tkS tkD tkN tkX errV
    simp only [h, if_false, decide_false]
    exact this
theorem no_nil (w : World) : Calls Tryd.prog 29 #[.nilIface] w fun x w' => x = .returned (.int .i64 0) ∧ Below w.heap.size w w' := by
  go_enter Tryd.func29, Tryd.ntmps29
  go_wp2
  go_ret
  exact ⟨rfl, Below.refl _ _⟩
/-- What the errors' table holds. -/
abbrev ErrT (w : World) : Prop := w.cell? ⟨0, 0, none⟩ = some (.iface 99 (.agg #[.pointer (some ⟨1, 50, none⟩)]))
theorem ErrT.on {A B : World} (h : ErrT A) (hb : Below A.heap.size A B) : ErrT B := (hb.cell (blt h)).trans h
theorem noX_c (s : ByteArray) (a : Int) (w : World) (hg : ErrT w) : Calls Tryd.prog 29 #[tkX s a] w fun x w' => x = .returned (.int .i64 (tkE s a)) ∧ Below w.heap.size w w' := by
  unfold tkX
  by_cases h : tkE s a = 0
  · rw [h]; exact no_nil w
  · rw [decide_eq_false h]; exact no_c w _ hg
theorem results_cell2 {P : Program} {fn : Func} {p u v : Tmp} {ty : TypeId} (h : fn.results = #[.cell p ty, .tmp u, .tmp v]) (tmps : Array Value) (w : World) {a : Addr} {x : Value} (hp : tmps.getD p undef = .pointer (some a)) (hl : (loadVar ty a).run P w = .ok x w) : (results fn tmps).run P w = .ok (.tuple #[x, tmps.getD u undef, tmps.getD v undef]) w := by
  simp only [results, h]
  have hp2 : tmps[p]?.getD undef = .pointer (some a) := by simpa using hp
  simp [Result.andThen, asAddr, hp2, hl]
/-- What Take's end keeps. -/
def TaS (w : World) (B : Nat) (K S : Int) (D : ByteArray) (N : Int) (X : Value) (w' : World) : Prop := w'.cell? ⟨B, 0, none⟩ = some (.int .i64 K) ∧ w'.cell? ⟨B, 1, none⟩ = some (.int .i64 S) ∧ w'.cell? ⟨B, 2, none⟩ = some (.string D) ∧ w'.cell? ⟨B, 3, none⟩ = some (.int .i64 N) ∧ w'.cell? ⟨B, 4, none⟩ = some X ∧ w.heap.size < B ∧ ErrT w' ∧ Below w.heap.size w w' ∧ (∃ u0 u1 u2, w'.cell? ⟨w.heap.size, 0, none⟩ = some u0 ∧ w'.cell? ⟨w.heap.size, 1, none⟩ = some u1 ∧ w'.cell? ⟨w.heap.size, 2, none⟩ = some u2 ∧ w'.frozen? ⟨w.heap.size, 0, none⟩ = false ∧ w'.frozen? ⟨w.heap.size, 1, none⟩ = false ∧ w'.frozen? ⟨w.heap.size, 2, none⟩ = false)
theorem TaS.on {w : World} {B : Nat} {K S : Int} {D : ByteArray} {N : Int} {X : Value} {P Q : World} (h : TaS w B K S D N X P) (hb : Below P.heap.size P Q) : TaS w B K S D N X Q := by
  obtain ⟨a0, a1, a2, a3, a4, n, er, c, u0, u1, u2, e0, e1, e2, f0, f1, f2⟩ := h
  exact ⟨(hb.cell (blt a0)).trans a0, (hb.cell (blt a1)).trans a1, (hb.cell (blt a2)).trans a2, (hb.cell (blt a3)).trans a3, (hb.cell (blt a4)).trans a4, n, er.on hb, btr c hb, u0, u1, u2, (hb.cell (blt e0)).trans e0, (hb.cell (blt e1)).trans e1, (hb.cell (blt e2)).trans e2, (hb.frozen (blt e0)).trans f0, (hb.frozen (blt e1)).trans f1, (hb.frozen (blt e2)).trans f2⟩
set_option maxRecDepth 100000 in
set_option maxHeartbeats 8000000 in
theorem Take_c (s : ByteArray) (a : Int) (hs : (s.size : Int) ≤ 4611686018427387904) (w : World) (hE : ErrT w) : Calls Tryd.prog 15 #[.string s, .int .i64 a] w fun x w' => x = .returned (.tuple #[.agg #[.int .i64 (tkK s a), .int .i64 (tkS s a), .string (tkD s a)], .int .i64 (tkN s a), .int .i64 (tkE s a)]) ∧ Below w.heap.size w w' := by
  have H1 := Lib.hid (fun W => take_c s a hs W)
  have H2 := Lib.hid (fun W h => noX_c s a W h)
  unfold takV at H1
  have HE := Lib.hid hE
  have hgz := blt hE
  have hX : tkX s a = .nilIface ∨ ∃ t v, tkX s a = .iface t v := by
    unfold tkX errV
    by_cases h : tkE s a = 0
    · rw [decide_eq_true h]; exact .inl rfl
    · rw [decide_eq_false h]; exact .inr ⟨_, _, rfl⟩
  clear hs hE
  generalize tkK s a = K at *
  generalize tkS s a = S at *
  generalize tkD s a = D at *
  generalize tkN s a = N at *
  generalize tkE s a = E at *
  generalize tkX s a = X at *
  go_enter Tryd.func15, Tryd.ntmps15
  go_wp2_with fail
  have b0 := below_alloc w (.cells #[.int .i64 0, .int .i64 0, .string ⟨#[]⟩] 23)
  have r0 : (w.alloc (.cells #[.int .i64 0, .int .i64 0, .string ⟨#[]⟩] 23)).cell? ⟨w.heap.size, 0, none⟩ = some (.int .i64 0) := by go_simp
  have r1 : (w.alloc (.cells #[.int .i64 0, .int .i64 0, .string ⟨#[]⟩] 23)).cell? ⟨w.heap.size, 1, none⟩ = some (.int .i64 0) := by go_simp
  have r2 : (w.alloc (.cells #[.int .i64 0, .int .i64 0, .string ⟨#[]⟩] 23)).cell? ⟨w.heap.size, 2, none⟩ = some (.string ⟨#[]⟩) := by go_simp
  have z0 : (w.alloc (.cells #[.int .i64 0, .int .i64 0, .string ⟨#[]⟩] 23)).frozen? ⟨w.heap.size, 0, none⟩ = false := by go_simp
  have z1 : (w.alloc (.cells #[.int .i64 0, .int .i64 0, .string ⟨#[]⟩] 23)).frozen? ⟨w.heap.size, 1, none⟩ = false := by go_simp
  have z2 : (w.alloc (.cells #[.int .i64 0, .int .i64 0, .string ⟨#[]⟩] 23)).frozen? ⟨w.heap.size, 2, none⟩ = false := by go_simp
  have HE1 := Lib.hid (HE.out.on b0)
  generalize (w.alloc (.cells #[.int .i64 0, .int .i64 0, .string ⟨#[]⟩] 23)) = U at *
  have hUU := blt r0
  refine (H1.out _).mono ?_; rintro e w1 ⟨rfl, hb⟩
  have q0 := (hb.cell (blt r0)).trans r0
  have q1 := (hb.cell (blt r1)).trans r1
  have q2 := (hb.cell (blt r2)).trans r2
  have y0 := (hb.frozen (blt r0)).trans z0
  have y1 := (hb.frozen (blt r1)).trans z1
  have y2 := (hb.frozen (blt r2)).trans z2
  have HB := Lib.hid (btr b0 hb)
  have HE2 := Lib.hid (HE1.out.on hb)
  have hwB : w.heap.size < w1.heap.size := blt q0
  clear hb r0 r1 r2 z0 z1 z2 b0 HE HE1 hUU
  rcases hX with rfl | ⟨t, v, rfl⟩
  · have MK : TaS w w1.heap.size K S D N .nilIface (w1.alloc (.cells #[.int .i64 K, .int .i64 S, .string D, .int .i64 N, .nilIface] 52)) := by
      refine ⟨by go_simp, by go_simp, by go_simp, by go_simp, by go_simp, hwB, HE2.out.on (below_alloc _ _), bal HB.out _, _, _, _, keep_alloc _ q0, keep_alloc _ q1, keep_alloc _ q2, ?_, ?_, ?_⟩
      · exact ((below_alloc w1 _).frozen (p := ⟨w.heap.size, 0, none⟩) (blt q0)).trans y0
      · exact ((below_alloc w1 _).frozen (p := ⟨w.heap.size, 1, none⟩) (blt q1)).trans y1
      · exact ((below_alloc w1 _).frozen (p := ⟨w.heap.size, 2, none⟩) (blt q2)).trans y2
    clear q0 q1 q2 y0 y1 y2 HB HE2
    go_wp2_with fail
    generalize (w1.alloc (.cells #[.int .i64 K, .int .i64 S, .string D, .int .i64 N, .nilIface] 52)) = Y at *
    generalize w1.heap.size = B at *
    refine wp_region_held_drew (S := (fun w' => w'.cell? ⟨B, 0, none⟩ = some (.int .i64 K) ∧ w'.cell? ⟨B, 1, none⟩ = some (.int .i64 S) ∧ w'.cell? ⟨B, 2, none⟩ = some (.string D) ∧ w'.cell? ⟨B, 3, none⟩ = some (.int .i64 N) ∧ w'.cell? ⟨B, 4, none⟩ = some .nilIface ∧ w.heap.size < B ∧ ErrT w' ∧ Below w.heap.size w w' ∧ (∃ u0 u1 u2, w'.cell? ⟨w.heap.size, 0, none⟩ = some u0 ∧ w'.cell? ⟨w.heap.size, 1, none⟩ = some u1 ∧ w'.cell? ⟨w.heap.size, 2, none⟩ = some u2 ∧ w'.frozen? ⟨w.heap.size, 0, none⟩ = false ∧ w'.frozen? ⟨w.heap.size, 1, none⟩ = false ∧ w'.frozen? ⟨w.heap.size, 2, none⟩ = false))) (by kernel_rfl) ?_ (fun hHeld => ?_)
    · exact TaS.on MK (below_drew (Below.refl _ _))
    clear MK
    refine takeH (i := 0) (some 11) (v := ?_) rfl rfl (by kernel_rfl) (by kernel_rfl) (by kernel_rfl) (fun _ _ _ h => h) (Or.inl ⟨by rfl, ?hya0⟩) hHeld ?resta0
    case hya0 => (intro w hSw; (try dsimp only at hSw); go_simp; (try with_reducible rfl))
    try simp only [Act.put, List.setIfInBounds_toArray, List.set_cons_zero, List.set_cons_succ]
    refine takeH (i := 1) (some 12) (v := ?_) rfl rfl (by kernel_rfl) (by kernel_rfl) (by kernel_rfl) (fun _ _ _ h => h) (Or.inl ⟨by rfl, ?hya1⟩) hHeld ?resta1
    case hya1 => (intro w hSw; (try dsimp only at hSw); go_simp; (try with_reducible rfl))
    try simp only [Act.put, List.setIfInBounds_toArray, List.set_cons_zero, List.set_cons_succ]
    refine takeH (i := 2) (some 13) (v := ?_) rfl rfl (by kernel_rfl) (by kernel_rfl) (by kernel_rfl) (fun _ _ _ h => h) (Or.inl ⟨by rfl, ?hya2⟩) hHeld ?resta2
    case hya2 => (intro w hSw; (try dsimp only at hSw); go_simp; (try with_reducible rfl))
    try simp only [Act.put, List.setIfInBounds_toArray, List.set_cons_zero, List.set_cons_succ]
    refine takeH (i := 3) (some 14) (v := ?_) rfl rfl (by kernel_rfl) (by kernel_rfl) (by kernel_rfl) (fun _ _ _ h => h) (Or.inl ⟨by rfl, ?hya3⟩) hHeld ?resta3
    case hya3 => (intro w hSw; (try dsimp only at hSw); go_simp; (try with_reducible rfl))
    try simp only [Act.put, List.setIfInBounds_toArray, List.set_cons_zero, List.set_cons_succ]
    refine takeH (i := 4) (some 15) (v := ?_) rfl rfl (by kernel_rfl) (by kernel_rfl) (by kernel_rfl) (fun _ _ _ h => h) (Or.inl ⟨by rfl, ?hya4⟩) hHeld ?resta4
    case hya4 => (intro w hSw; (try dsimp only at hSw); go_simp; (try with_reducible rfl))
    try simp only [Act.put, List.setIfInBounds_toArray, List.set_cons_zero, List.set_cons_succ]
    refine takeH (i := 5) (some 16) (v := ?_) rfl rfl (by kernel_rfl) (by kernel_rfl) (by kernel_rfl) (fun _ _ _ h => h) (Or.inl ⟨by rfl, ?hya5⟩) hHeld ?resta5
    case hya5 => (intro w hSw; (try dsimp only at hSw); go_simp; (try with_reducible rfl))
    try simp only [Act.put, List.setIfInBounds_toArray, List.set_cons_zero, List.set_cons_succ]
    refine wpAnyH_ready (rs := [6]) (by kernel_rfl) (by simp) ?_
    refine AllReadyH.cons rfl (fun K' hK => ?_) AllReadyH.nil
    go_simp
    go_at_call 29; (with_reducible refine (H2.out _ hHeld.2.2.2.2.2.2.1).mono ?_); rintro e wn ⟨rfl, pB⟩; have sB := TaS.on (show TaS w B K S D N .nilIface _ from hHeld) pB; clear pB hHeld
    refine hK.out _ _ sB (fun hHeld => ?_)
    clear hK K' sB
    try simp only [Act.put, List.setIfInBounds_toArray, List.set_cons_zero, List.set_cons_succ]
    refine wpAnyH_ready (rs := [7]) (by kernel_rfl) (by simp) ?_
    refine AllReadyH.cons rfl (fun K' hK => ?_) AllReadyH.nil
    obtain ⟨a0, a1, a2, a3, a4, hwB, er, c, u0, u1, u2, r0, r1, r2, f0, f1, f2⟩ := hHeld
    have hne : B ≠ w.heap.size := by omega
    have hne2 : w.heap.size ≠ 0 := by omega
    go_simp
    refine hK.out _ _ ⟨by go_simp, by go_simp, by go_simp, by go_simp, by go_simp, hwB, by unfold ErrT; go_simp, ?_, (.int .i64 K), (.int .i64 S), (.string D), by go_simp, by go_simp, by go_simp, by go_simp, by go_simp, by go_simp⟩ (fun hHeld => ?_)
    · repeat' (first | exact c | refine Below.setCell ?_ ?_ _ | (dsimp only; omega))
    clear hK K'
    try simp only [Act.put, List.setIfInBounds_toArray, List.set_cons_zero, List.set_cons_succ]
    refine takeH (i := 8) (some 5) (v := ?_) rfl rfl (by kernel_rfl) (by kernel_rfl) (by kernel_rfl) (fun _ _ _ h => h) (Or.inl ⟨by rfl, ?hya8⟩) hHeld ?resta8
    case hya8 => (intro w hSw; (try dsimp only at hSw); go_simp; (try with_reducible rfl))
    try simp only [Act.put, List.setIfInBounds_toArray, List.set_cons_zero, List.set_cons_succ]
    refine takeH (i := 9) (some 6) (v := ?_) rfl rfl (by kernel_rfl) (by kernel_rfl) (by kernel_rfl) (fun _ _ _ h => h) (Or.inl ⟨by rfl, ?hya9⟩) hHeld ?resta9
    case hya9 => (intro w hSw; (try dsimp only at hSw); go_simp; (try with_reducible rfl))
    try simp only [Act.put, List.setIfInBounds_toArray, List.set_cons_zero, List.set_cons_succ]
    refine wpAnyH_done (by kernel_rfl) ?_ _
    have e0 : (((wn.setCell ⟨w.heap.size, 0, none⟩ ((.int .i64 K))).setCell ⟨w.heap.size, 1, none⟩ ((.int .i64 S))).setCell ⟨w.heap.size, 2, none⟩ ((.string D))).cell? ⟨w.heap.size, 0, none⟩ = some ((.int .i64 K)) := by go_simp
    have e1 : (((wn.setCell ⟨w.heap.size, 0, none⟩ ((.int .i64 K))).setCell ⟨w.heap.size, 1, none⟩ ((.int .i64 S))).setCell ⟨w.heap.size, 2, none⟩ ((.string D))).cell? ⟨w.heap.size, 1, none⟩ = some ((.int .i64 S)) := by go_simp
    have e2 : (((wn.setCell ⟨w.heap.size, 0, none⟩ ((.int .i64 K))).setCell ⟨w.heap.size, 1, none⟩ ((.int .i64 S))).setCell ⟨w.heap.size, 2, none⟩ ((.string D))).cell? ⟨w.heap.size, 2, none⟩ = some ((.string D)) := by go_simp
    have HZ := Lib.hid hHeld.2.2.2.2.2.2.2.1
    clear hHeld r0 r1 r2 f0 f1 f2 c er a0 a1 a2 a3 a4
    generalize (((wn.setCell ⟨w.heap.size, 0, none⟩ ((.int .i64 K))).setCell ⟨w.heap.size, 1, none⟩ ((.int .i64 S))).setCell ⟨w.heap.size, 2, none⟩ ((.string D))) = Z at *
    have hl : (loadVar 23 ⟨w.heap.size, 0, none⟩).run Tryd.prog Z = .ok (.agg #[(.int .i64 K), (.int .i64 S), (.string D)]) Z := by simp [loadVar, isAgg, underlying, Tryd.underlying23, Result.andThen, loadCells, loadCellsFrom, Addr.add, e0, e1, e2]
    go_wp2
    refine bodyPost_ret (results_cell2 rfl _ _ (by rfl) hl) rfl ?_
    exact ⟨rfl, HZ.out⟩
  · have MK : TaS w w1.heap.size K S D N (.iface t v) (w1.alloc (.cells #[.int .i64 K, .int .i64 S, .string D, .int .i64 N, (.iface t v)] 52)) := by
      refine ⟨by go_simp, by go_simp, by go_simp, by go_simp, by go_simp, hwB, HE2.out.on (below_alloc _ _), bal HB.out _, _, _, _, keep_alloc _ q0, keep_alloc _ q1, keep_alloc _ q2, ?_, ?_, ?_⟩
      · exact ((below_alloc w1 _).frozen (p := ⟨w.heap.size, 0, none⟩) (blt q0)).trans y0
      · exact ((below_alloc w1 _).frozen (p := ⟨w.heap.size, 1, none⟩) (blt q1)).trans y1
      · exact ((below_alloc w1 _).frozen (p := ⟨w.heap.size, 2, none⟩) (blt q2)).trans y2
    clear q0 q1 q2 y0 y1 y2 HB HE2
    go_wp2_with fail
    generalize (w1.alloc (.cells #[.int .i64 K, .int .i64 S, .string D, .int .i64 N, (.iface t v)] 52)) = Y at *
    generalize w1.heap.size = B at *
    refine wp_region_held_drew (S := (fun w' => w'.cell? ⟨B, 0, none⟩ = some (.int .i64 K) ∧ w'.cell? ⟨B, 1, none⟩ = some (.int .i64 S) ∧ w'.cell? ⟨B, 2, none⟩ = some (.string D) ∧ w'.cell? ⟨B, 3, none⟩ = some (.int .i64 N) ∧ w'.cell? ⟨B, 4, none⟩ = some (.iface t v) ∧ w.heap.size < B ∧ ErrT w' ∧ Below w.heap.size w w' ∧ (∃ u0 u1 u2, w'.cell? ⟨w.heap.size, 0, none⟩ = some u0 ∧ w'.cell? ⟨w.heap.size, 1, none⟩ = some u1 ∧ w'.cell? ⟨w.heap.size, 2, none⟩ = some u2 ∧ w'.frozen? ⟨w.heap.size, 0, none⟩ = false ∧ w'.frozen? ⟨w.heap.size, 1, none⟩ = false ∧ w'.frozen? ⟨w.heap.size, 2, none⟩ = false))) (by kernel_rfl) ?_ (fun hHeld => ?_)
    · exact TaS.on MK (below_drew (Below.refl _ _))
    clear MK
    refine takeH (i := 0) (some 11) (v := ?_) rfl rfl (by kernel_rfl) (by kernel_rfl) (by kernel_rfl) (fun _ _ _ h => h) (Or.inl ⟨by rfl, ?hyb0⟩) hHeld ?restb0
    case hyb0 => (intro w hSw; (try dsimp only at hSw); go_simp; (try with_reducible rfl))
    try simp only [Act.put, List.setIfInBounds_toArray, List.set_cons_zero, List.set_cons_succ]
    refine takeH (i := 1) (some 12) (v := ?_) rfl rfl (by kernel_rfl) (by kernel_rfl) (by kernel_rfl) (fun _ _ _ h => h) (Or.inl ⟨by rfl, ?hyb1⟩) hHeld ?restb1
    case hyb1 => (intro w hSw; (try dsimp only at hSw); go_simp; (try with_reducible rfl))
    try simp only [Act.put, List.setIfInBounds_toArray, List.set_cons_zero, List.set_cons_succ]
    refine takeH (i := 2) (some 13) (v := ?_) rfl rfl (by kernel_rfl) (by kernel_rfl) (by kernel_rfl) (fun _ _ _ h => h) (Or.inl ⟨by rfl, ?hyb2⟩) hHeld ?restb2
    case hyb2 => (intro w hSw; (try dsimp only at hSw); go_simp; (try with_reducible rfl))
    try simp only [Act.put, List.setIfInBounds_toArray, List.set_cons_zero, List.set_cons_succ]
    refine takeH (i := 3) (some 14) (v := ?_) rfl rfl (by kernel_rfl) (by kernel_rfl) (by kernel_rfl) (fun _ _ _ h => h) (Or.inl ⟨by rfl, ?hyb3⟩) hHeld ?restb3
    case hyb3 => (intro w hSw; (try dsimp only at hSw); go_simp; (try with_reducible rfl))
    try simp only [Act.put, List.setIfInBounds_toArray, List.set_cons_zero, List.set_cons_succ]
    refine takeH (i := 4) (some 15) (v := ?_) rfl rfl (by kernel_rfl) (by kernel_rfl) (by kernel_rfl) (fun _ _ _ h => h) (Or.inl ⟨by rfl, ?hyb4⟩) hHeld ?restb4
    case hyb4 => (intro w hSw; (try dsimp only at hSw); go_simp; (try with_reducible rfl))
    try simp only [Act.put, List.setIfInBounds_toArray, List.set_cons_zero, List.set_cons_succ]
    refine takeH (i := 5) (some 16) (v := ?_) rfl rfl (by kernel_rfl) (by kernel_rfl) (by kernel_rfl) (fun _ _ _ h => h) (Or.inl ⟨by rfl, ?hyb5⟩) hHeld ?restb5
    case hyb5 => (intro w hSw; (try dsimp only at hSw); go_simp; (try with_reducible rfl))
    try simp only [Act.put, List.setIfInBounds_toArray, List.set_cons_zero, List.set_cons_succ]
    refine wpAnyH_ready (rs := [6]) (by kernel_rfl) (by simp) ?_
    refine AllReadyH.cons rfl (fun K' hK => ?_) AllReadyH.nil
    go_simp
    go_at_call 29; (with_reducible refine (H2.out _ hHeld.2.2.2.2.2.2.1).mono ?_); rintro e wn ⟨rfl, pB⟩; have sB := TaS.on (show TaS w B K S D N (.iface t v) _ from hHeld) pB; clear pB hHeld
    refine hK.out _ _ sB (fun hHeld => ?_)
    clear hK K' sB
    try simp only [Act.put, List.setIfInBounds_toArray, List.set_cons_zero, List.set_cons_succ]
    refine wpAnyH_ready (rs := [7]) (by kernel_rfl) (by simp) ?_
    refine AllReadyH.cons rfl (fun K' hK => ?_) AllReadyH.nil
    obtain ⟨a0, a1, a2, a3, a4, hwB, er, c, u0, u1, u2, r0, r1, r2, f0, f1, f2⟩ := hHeld
    have hne : B ≠ w.heap.size := by omega
    have hne2 : w.heap.size ≠ 0 := by omega
    go_simp
    refine hK.out _ _ ⟨by go_simp, by go_simp, by go_simp, by go_simp, by go_simp, hwB, by unfold ErrT; go_simp, ?_, (.int .i64 K), (.int .i64 S), (.string D), by go_simp, by go_simp, by go_simp, by go_simp, by go_simp, by go_simp⟩ (fun hHeld => ?_)
    · repeat' (first | exact c | refine Below.setCell ?_ ?_ _ | (dsimp only; omega))
    clear hK K'
    try simp only [Act.put, List.setIfInBounds_toArray, List.set_cons_zero, List.set_cons_succ]
    refine takeH (i := 8) (some 5) (v := ?_) rfl rfl (by kernel_rfl) (by kernel_rfl) (by kernel_rfl) (fun _ _ _ h => h) (Or.inl ⟨by rfl, ?hyb8⟩) hHeld ?restb8
    case hyb8 => (intro w hSw; (try dsimp only at hSw); go_simp; (try with_reducible rfl))
    try simp only [Act.put, List.setIfInBounds_toArray, List.set_cons_zero, List.set_cons_succ]
    refine takeH (i := 9) (some 6) (v := ?_) rfl rfl (by kernel_rfl) (by kernel_rfl) (by kernel_rfl) (fun _ _ _ h => h) (Or.inl ⟨by rfl, ?hyb9⟩) hHeld ?restb9
    case hyb9 => (intro w hSw; (try dsimp only at hSw); go_simp; (try with_reducible rfl))
    try simp only [Act.put, List.setIfInBounds_toArray, List.set_cons_zero, List.set_cons_succ]
    refine wpAnyH_done (by kernel_rfl) ?_ _
    have e0 : (((wn.setCell ⟨w.heap.size, 0, none⟩ ((.int .i64 K))).setCell ⟨w.heap.size, 1, none⟩ ((.int .i64 S))).setCell ⟨w.heap.size, 2, none⟩ ((.string D))).cell? ⟨w.heap.size, 0, none⟩ = some ((.int .i64 K)) := by go_simp
    have e1 : (((wn.setCell ⟨w.heap.size, 0, none⟩ ((.int .i64 K))).setCell ⟨w.heap.size, 1, none⟩ ((.int .i64 S))).setCell ⟨w.heap.size, 2, none⟩ ((.string D))).cell? ⟨w.heap.size, 1, none⟩ = some ((.int .i64 S)) := by go_simp
    have e2 : (((wn.setCell ⟨w.heap.size, 0, none⟩ ((.int .i64 K))).setCell ⟨w.heap.size, 1, none⟩ ((.int .i64 S))).setCell ⟨w.heap.size, 2, none⟩ ((.string D))).cell? ⟨w.heap.size, 2, none⟩ = some ((.string D)) := by go_simp
    have HZ := Lib.hid hHeld.2.2.2.2.2.2.2.1
    clear hHeld r0 r1 r2 f0 f1 f2 c er a0 a1 a2 a3 a4
    generalize (((wn.setCell ⟨w.heap.size, 0, none⟩ ((.int .i64 K))).setCell ⟨w.heap.size, 1, none⟩ ((.int .i64 S))).setCell ⟨w.heap.size, 2, none⟩ ((.string D))) = Z at *
    have hl : (loadVar 23 ⟨w.heap.size, 0, none⟩).run Tryd.prog Z = .ok (.agg #[(.int .i64 K), (.int .i64 S), (.string D)]) Z := by simp [loadVar, isAgg, underlying, Tryd.underlying23, Result.andThen, loadCells, loadCellsFrom, Addr.add, e0, e1, e2]
    go_wp2
    refine bodyPost_ret (results_cell2 rfl _ _ (by rfl) hl) rfl ?_
    exact ⟨rfl, HZ.out⟩
end Go.Proofs.YtdcnpcdohgecbaaDoor
