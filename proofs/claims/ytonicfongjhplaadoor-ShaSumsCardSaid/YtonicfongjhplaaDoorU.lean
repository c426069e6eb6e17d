/- Unhex. -/
import Derived.Test.YtonicfongjhplaaDoorT
import Derived.Test.YtonicfongjhplaaDoorJ
namespace Go.Proofs.YtonicfongjhplaaDoor
open Go.RowKit Go.Shelf
attribute [local go_sem] Oper.semAt_some

/-- A digit that stands alone at the end. -/
def tlL : List Nat → List Nat
  | [] => []
  | [a] => [a]
  | _ :: _ :: r => tlL r
def rowU (us : List Nat) (N : Nat) : List Nat := pairL us ++ tlL us ++ List.replicate (N - (us.length + 1) / 2) 0
theorem rowU_cons (a b : Nat) (r : List Nat) (N : Nat) : rowU (a :: b :: r) N = (16 * a + b) :: rowU r (N - 1) := by
  unfold rowU
  rw [pairL, tlL, List.cons_append, List.cons_append, show (a :: b :: r).length = r.length + 2 from rfl, show N - (r.length + 2 + 1) / 2 = N - 1 - (r.length + 1) / 2 by omega]
theorem rowU_step : ∀ (us : List Nat) (N : Nat), us.length < 2 * N → ∃ v, (rowU us N)[us.length / 2]? = some v ∧ ((∀ x ∈ us, x < 16) → v < 16) ∧ ∀ n, (rowU us N).set (us.length / 2) (16 * v + n) = rowU (us ++ [n]) N
  | [], N, h => by
    obtain ⟨M, rfl⟩ : ∃ M, N = M + 1 := ⟨N - 1, by simp at h; omega⟩
    exact ⟨0, by simp [rowU, pairL, tlL], fun _ => by omega, fun n => by simp [rowU, pairL, tlL, List.replicate_succ]⟩
  | [a], N, h => by
    obtain ⟨M, rfl⟩ : ∃ M, N = M + 1 := ⟨N - 1, by simp at h; omega⟩
    exact ⟨a, by simp [rowU, pairL, tlL], fun hx => hx a (by simp), fun n => by simp [rowU, pairL, tlL]⟩
  | a :: b :: r, N, h => by
    obtain ⟨v, h1, h2, h3⟩ := rowU_step r (N - 1) (by simp at h; omega)
    have e : (a :: b :: r).length / 2 = r.length / 2 + 1 := by show (r.length + 2) / 2 = _; omega
    refine ⟨v, ?_, fun hx => h2 fun x hx' => hx x (by simp [hx']), fun n => ?_⟩
    · rw [e, rowU_cons, List.getElem?_cons_succ]; exact h1
    · rw [e, rowU_cons, List.set_cons_succ, h3, List.cons_append, List.cons_append, rowU_cons]
theorem rowU_full (us : List Nat) (N : Nat) (h : us.length = 2 * N) : rowU us N = pairL us ∧ (pairL us).length = N := by
  induction N generalizing us with
  | zero =>
    obtain rfl := List.eq_nil_of_length_eq_zero (by omega : us.length = 0)
    exact ⟨rfl, rfl⟩
  | succ N ih =>
    match us, h with
    | a :: b :: r, h =>
      obtain ⟨h1, h2⟩ := ih r (by simp at h; omega)
      rw [rowU_cons, show N + 1 - 1 = N by omega, h1, pairL]
      exact ⟨rfl, by rw [List.length_cons, h2]⟩
    | [_], h => simp at h; omega
    | [], h => simp at h
theorem pairL_lt : ∀ (us : List Nat), (∀ x ∈ us, x < 16) → ∀ c ∈ pairL us, c < 256
  | [], _, c, h => by cases h
  | [_], _, c, h => by cases h
  | a :: b :: r, hx, c, h => by
    have ha := hx a (by simp)
    have hb := hx b (by simp)
    rcases List.mem_cons.1 h with rfl | h
    · omega
    · exact pairL_lt r (fun x hx' => hx x (by simp [hx'])) c h
theorem valsL_append : ∀ (l m : List Nat), valsL (l ++ m) = match valsL l, valsL m with
    | some a, some b => some (a ++ b)
    | _, _ => none
  | [], m => by rw [List.nil_append, valsL]; cases valsL m <;> rfl
  | c :: l, m => by
    rw [List.cons_append, valsL, valsL, valsL_append l m]
    cases digN c <;> cases valsL l <;> cases valsL m <;> rfl
theorem valsL_lt : ∀ (l us : List Nat), valsL l = some us → us.length = l.length ∧ ∀ x ∈ us, x < 16
  | [], us, h => by cases h; exact ⟨rfl, fun x hx => by cases hx⟩
  | c :: l, us, h => by
    rw [valsL] at h
    cases hd : digN c with
    | none => rw [hd] at h; cases h
    | some n =>
      cases hl : valsL l with
      | none => rw [hd, hl] at h; cases h
      | some vs =>
        rw [hd, hl] at h; cases h
        obtain ⟨h1, h2⟩ := valsL_lt l vs hl
        refine ⟨by rw [List.length_cons, List.length_cons, h1], fun x hx => ?_⟩
        rcases List.mem_cons.1 hx with rfl | hx
        · exact (digC_digN hd).2
        · exact h2 x hx
/-- What the next byte does. -/
theorem vals_next (s : ByteArray) (k : Nat) (h : k < s.size) (us : List Nat) (hu : valsL ((bL s).take k) = some us) :
    (∀ n, digN (s[k]'h).toNat = some n → valsL ((bL s).take (k + 1)) = some (us ++ [n])) ∧ (digN (s[k]'h).toNat = none → valsL (bL s) = none) := by
  have e : (bL s).take (k + 1) = (bL s).take k ++ [(s[k]'h).toNat] := by rw [List.take_add_one, bL_get s k h]; rfl
  refine ⟨fun n hn => ?_, fun hn => ?_⟩
  · rw [e, valsL_append, hu, valsL, hn, valsL]
  · rw [← List.take_append_drop (k + 1) (bL s), e, valsL_append, valsL_append, hu, valsL, hn]
def unS (s : ByteArray) : ByteArray := match unhexL (bL s) with | some v => ofL v | none => ⟨#[]⟩
def unE (s : ByteArray) : Int := match unhexL (bL s) with | some _ => 0 | none => 40
theorem un_none {s : ByteArray} (h : unhexL (bL s) = none) : unS s = ⟨#[]⟩ ∧ unE s = 40 := by unfold unS unE; rw [h]; exact ⟨rfl, rfl⟩
theorem un_some {s : ByteArray} {v : List Nat} (h : unhexL (bL s) = some v) : unS s = ofL v ∧ unE s = 0 := by unfold unS unE; rw [h]; exact ⟨rfl, rfl⟩
abbrev digD : ByteArray := ⟨#[48, 49, 50, 51, 52, 53, 54, 55, 56, 57, 97, 98, 99, 100, 101, 102]⟩
theorem digD_idx (c : Nat) (h : c < 128) : Lib.indexByte digD.data.toList (c : Int).toNat.toUInt8 = match digN c with | some n => (n : Int) | none => -1 := by
  have : ∀ m : Fin 128, Lib.indexByte digD.data.toList (m.val : Int).toNat.toUInt8 = match digN m.val with | some n => (n : Int) | none => -1 := by decide +kernel
  exact this ⟨c, h⟩
theorem idx_low (c : Nat) (h : c < 128) (W : World) : Calls Tryd.prog 25 #[.string digD, .int .i32 (c : Int)] W fun x w' => x = .returned (.int .i64 (match digN c with | some n => (n : Int) | none => -1)) ∧ Below W.heap.size W w' :=
  (Tryd.strings_IndexRune_ascii digD (c : Int) W (by omega) (by omega)).mono fun e w' ⟨h1, h2⟩ => by
    rw [digD_idx c h] at h1
    subst h2
    exact ⟨h1, Below.refl _ _⟩
theorem idx_high (r : Int) (h : 128 ≤ r) (W : World) : Calls Tryd.prog 25 #[.string digD, .int .i32 r] W fun x w' => x = .returned (.int .i64 (-1)) ∧ Below W.heap.size W w' :=
  index_big digD (by decide) (by decide) (by decide) r h W
theorem or_digit (a n : Nat) (ha : a < 16) (hn : n < 16) : bits .or .u8 ((a : Int) * 16) (n : Int) = ((16 * a + n : Nat) : Int) := by
  have : ∀ x : Fin 16, ∀ y : Fin 16, bits .or .u8 ((x.val : Int) * 16) (y.val : Int) = ((16 * x.val + y.val : Nat) : Int) := by decide +kernel
  exact this ⟨a, ha⟩ ⟨n, hn⟩
set_option maxRecDepth 100000 in
set_option maxHeartbeats 8000000 in
theorem Unhex_c (s : ByteArray) (hs : s.size ≤ 100000) (w : World) : Calls Tryd.prog 15 #[.string s] w fun r w' => r = .returned (.tuple #[.string (unS s), .int .i64 (unE s)]) ∧ Below w.heap.size w w' := by
  by_cases hodd : s.size % 2 = 1
  · obtain ⟨e1, e2⟩ := un_none (unhexL_odd (bL s) (by rw [bL_length]; exact hodd))
    rw [e1, e2]
    have hz : (s.size : Int).tmod 2 = 1 := by rw [Int.tmod_eq_emod_of_nonneg (by omega)]; omega
    clear e1 e2
    go_enter Tryd.func15, Tryd.ntmps15
    go_wp2
    go_ret2
    exact ⟨rfl, Below.refl _ _⟩
  · obtain ⟨N, hN⟩ : ∃ N, s.size = 2 * N := ⟨s.size / 2, by omega⟩
    have hz : (s.size : Int).tmod 2 = 0 := by rw [Int.tmod_eq_emod_of_nonneg (by omega)]; omega
    have hq : (s.size : Int).tdiv 2 = (N : Int) := by rw [Int.tdiv_eq_ediv_of_nonneg (by omega)]; omega
    have hNw : wrap64 (N : Int) = (N : Int) := IntWalk.wrap64_in _ (by omega)
    have HM := fun W => make_by N N (Nat.le_refl _) (by omega) W
    obtain ⟨Z, hZ⟩ : ∃ Z, Z = List.replicate N 0 := ⟨_, rfl⟩
    rw [← hZ] at HM
    have HZ := Lib.hid hZ
    have HN := Lib.hid hN
    have HL := Lib.hid (fun c h W => idx_low c h W)
    have HH := Lib.hid (fun r h W => idx_high r h W)
    have HU := Lib.hid (unhexL_vals (bL s) (by rw [bL_length]; omega))
    clear hZ hN hodd
    go_enter Tryd.func15, Tryd.ntmps15
    go_wp2
    have hb0 : Below w.heap.size w ((w.alloc (.cells (byVs Z).toArray 5)).iter s 0) := bal (below_alloc w _) _
    have hrow : BysAt w.heap.size Z ((w.alloc (.cells (byVs Z).toArray 5)).iter s 0) := (BysAt.new Z w).on (below_alloc _ _)
    have hit0 : ((w.alloc (.cells (byVs Z).toArray 5)).iter s 0).heap[w.heap.size + 1]? = some (.stringIter s 0) := by
      have := World.iter_heap (w.alloc (.cells (byVs Z).toArray 5)) s 0
      rwa [World.size_alloc] at this
    have hrow0 : BysAt w.heap.size (rowU [] N) ((w.alloc (.cells (byVs Z).toArray 5)).iter s 0) := by
      have e : rowU [] N = Z := by rw [HZ.out]; simp [rowU, pairL, tlL]
      rw [e]; exact hrow
    generalize (w.alloc (.cells (byVs Z).toArray 5)).iter s 0 = w1 at *
    clear hrow HM hNw hz hq
    go_loopw [5] (fun i wr => ∃ (k : Nat) (us : List Nat), k ≤ s.size ∧ i = .int .i64 (k : Int) ∧ us.length = k ∧ Hid (valsL ((bL s).take k) = some us) ∧ Hid (BysAt w.heap.size (rowU us N) wr) ∧ wr.heap[w.heap.size + 1]? = some (.stringIter s k) ∧ Hid (Below w.heap.size w wr)) (fun _ wr => s.size + 1 - wr.iterPos (w.heap.size + 1))
    case atStart => exact ⟨0, [], Nat.zero_le _, rfl, rfl, Lib.hid rfl, Lib.hid hrow0, hit0, Lib.hid hb0⟩
    case round =>
      obtain ⟨k, us, hk, rfl, hlen, hV, hrow, hit, hbk⟩ := hrel
      clear hrow0 hit0 hb0
      by_cases hp : k < s.size
      · have hit2 := Lib.iterAt_heap wr (w.heap.size + 1) s k (k + (Utf8.decode s k).2) hit
        have hnx : ∀ ty, (Instr.next (.pointer (some ⟨w.heap.size + 1, 0, none⟩)) true ty).run Tryd.prog wr = _ := fun ty => Lib.run_next_any_at wr (w.heap.size + 1) s k ty hit hp
        have hG := grown_iterAt wr (w.heap.size + 1) s (k + (Utf8.decode s k).2)
        obtain ⟨hn1, hn2⟩ := vals_next s k hp us hV.out
        by_cases ha : (s[k]'hp).toNat < 128
        · rw [decode_ascii s k hp ha] at hnx hit2 hG
          dsimp only at hnx hit2 hG
          have HLc := Lib.hid (HL.out _ ha)
          have HB2 := Lib.hid (hbk.out.grown hG hbk.out.size (fun j hj => by cases hj; omega))
          have HR2 := Lib.hid (show BysAt w.heap.size (rowU us N) (wr.iterAt (w.heap.size + 1) s (k + 1)) from (hG.block _ hrow.out.lt (fun e => by have := Option.some.inj e; omega)).trans hrow.out)
          have HIT := Lib.hid hit2
          have HI0 := Lib.hid hit
          cases hd : digN (s[k]'hp).toNat with
          | none =>
            rw [hd] at HLc
            have HE := Lib.hid (un_none (HU.out.trans (by rw [hn2 hd]; rfl)))
            clear hn1 hn2 hd hit2 hit hG HL HH
            generalize (s[k]'hp).toNat = c at *
            go_wp2_with (with_reducible refine (HLc.out _).mono ?_; rintro e w2 ⟨rfl, hb2⟩)
            go_ret2
            refine ⟨?_, btr HB2.out hb2⟩
            rw [HE.out.1, HE.out.2]
            rfl
          | some n =>
            rw [hd] at HLc
            have HVn := Lib.hid (hn1 n hd)
            have hn16 := (digC_digN hd).2
            obtain ⟨v, r1, r2, r3⟩ := rowU_step us N (by rw [hlen]; have := HN.out; omega)
            have hv16 := r2 (valsL_lt _ us hV.out).2
            obtain ⟨j, hj⟩ : ∃ j, us.length / 2 = j := ⟨_, rfl⟩
            rw [hj] at r1 r3
            rw [hlen] at hj
            have hjq : (k : Int).tdiv 2 = (j : Int) := by rw [Int.tdiv_eq_ediv_of_nonneg (by omega)]; omega
            have hjw : wrap64 (j : Int) = (j : Int) := IntWalk.wrap64_in _ (by omega)
            have hjN : j < N := by have := HN.out; omega
            have hjN' : (j : Int) < (N : Int) := by omega
            obtain ⟨m, hm⟩ : ∃ m, 16 * v + n = m := ⟨_, rfl⟩
            have hr3 := r3 n
            have hor := or_digit v n hv16 hn16
            rw [hm] at hr3 hor
            have HR3 := Lib.hid hr3
            clear hm hr3
            have hln : (us ++ [n]).length = k + 1 := by rw [List.length_append, hlen]; rfl
            have Hln := Lib.hid hln
            have R1 := Lib.hid r1
            have Hus := Lib.hid hlen
            clear hn1 hn2 hd hit2 hit hG HL HH r1 r2 r3 hln hj
            generalize (s[k]'hp).toNat = c at *
            go_wp2_with (with_reducible refine (HLc.out _).mono ?_; rintro e w2 ⟨rfl, hb2⟩; have hcv := (HR2.out.on hb2).cell R1.out; have hfv := (HR2.out.on hb2).frozen j)
            have hB3 := btr HB2.out hb2
            have hit3 : w2.heap[w.heap.size + 1]? = some (.stringIter s (k + 1)) := (hb2.block _ (Array.getElem?_eq_some_iff.1 HIT.out).1).trans HIT.out
            have hrow3 := (HR2.out.on hb2).set j m
            rw [HR3.out] at hrow3
            have hit4 : (w2.setCell ⟨w.heap.size, j, none⟩ (.int .u8 (m : Int))).heap[w.heap.size + 1]? = some (.stringIter s (k + 1)) := (Below.heap_setCell w2 ⟨w.heap.size, j, none⟩ _ (w.heap.size + 1) (fun e => by have : w.heap.size + 1 = w.heap.size := e; omega)).trans hit3
            go_roundw
            case rel => exact ⟨k + 1, us ++ [n], by omega, by go_num, Hln.out, Lib.hid HVn.out, Lib.hid hrow3, hit4, Lib.hid (hB3.setCell (Nat.le_refl _) _)⟩
            case measure => simp only [World.iterPos, hit4, HI0.out]; omega
        · have hge := (decode_high s k hp (by omega)).1
          have HB2 := Lib.hid (hbk.out.grown hG hbk.out.size (fun j hj => by cases hj; omega))
          have hdn : digN (s[k]'hp).toNat = none := by
            unfold digN
            rw [if_neg (by omega), if_neg (by omega)]
          have HE := Lib.hid (un_none (HU.out.trans (by rw [hn2 hdn]; rfl)))
          have HHr := Lib.hid (HH.out ((Utf8.decode s k).1 : Int) (by omega))
          clear hn1 hn2 hdn hit2 hit hG HL HH
          generalize (Utf8.decode s k).1 = r at *
          generalize wr.iterAt (w.heap.size + 1) s (k + (Utf8.decode s k).2) = wq at *
          go_wp2_with (with_reducible refine (HHr.out _).mono ?_; rintro e w2 ⟨rfl, hb2⟩)
          go_ret2
          refine ⟨?_, btr HB2.out hb2⟩
          rw [HE.out.1, HE.out.2]
          rfl
      · obtain rfl : k = s.size := by omega
        have hnx : ∀ ty, (Instr.next (.pointer (some ⟨w.heap.size + 1, 0, none⟩)) true ty).run Tryd.prog wr = _ := fun ty => Lib.run_next_end_at wr (w.heap.size + 1) s s.size ty hit hp
        have hV' := hV.out
        rw [← bL_length, List.take_length] at hV'
        have hun : unhexL (bL s) = some (pairL us) := by rw [HU.out, hV']; rfl
        have HE := Lib.hid (un_some hun)
        obtain ⟨f1, f2⟩ := rowU_full us N (by rw [hlen]; exact HN.out)
        have hrow' := hrow.out
        rw [f1] at hrow'
        have hcv := conv_cells (pairL us) (pairL_lt us (valsL_lt _ us hV').2) w.heap.size N wr (fun j n h => hrow'.cell h)
        rw [f2] at hcv
        clear hit hV' hun f1 f2 hrow' HL HH
        generalize pairL us = pu at *
        go_wp2
        go_ret2
        refine ⟨?_, hbk.out⟩
        rw [HE.out.1, HE.out.2]
        rfl
end Go.Proofs.YtonicfongjhplaaDoor
