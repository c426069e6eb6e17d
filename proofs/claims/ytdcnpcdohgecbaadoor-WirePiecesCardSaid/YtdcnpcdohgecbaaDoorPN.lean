/- The law WireCuts. -/
import Derived.Test.YtdcnpcdohgecbaaDoorPM
namespace Go.Proofs.YtdcnpcdohgecbaaDoor
open Go.RowKit Go.Shelf
attribute [local go_sem] Oper.semAt_some

/-- What is owned lies in memory, and has room. -/
theorem frames_of_row2 {W : World} {z : Nat} {v : Value} {l : List FrT} {n : Nat} (hn : l.length = n) (h : W.ownsRow z 23 3 v n (fCells l)) : ∃ a c, v = .slice a n c ∧ n ≤ c ∧ FramesAt W.heap.size W a l := by
  subst hn
  have hcap : ∃ a c, v = .slice a l.length c ∧ l.length ≤ c := by
    rcases h.2 with ⟨rfl, h2⟩ | ⟨g, cap, cur, rfl, _, _, hc, _⟩
    · exact ⟨none, 0, by rw [h2], by omega⟩
    · exact ⟨_, _, rfl, hc⟩
  obtain ⟨a, c, rfl, hA⟩ := frames_of_row h
  obtain ⟨a', c', he, hc⟩ := hcap
  cases he
  exact ⟨a, c, rfl, hc, hA⟩
theorem FramesAt.take {n₀ : Nat} {W : World} {a : Option Addr} {l : List FrT} (h : FramesAt n₀ W a l) (k : Nat) : FramesAt n₀ W a (l.take k) := fun i hi => by
  have hi' : i < l.length := by rw [List.length_take] at hi; omega
  have := h i hi'
  rw [List.getElem_take]
  exact this
theorem slice_run (a : Option Addr) (L c k : Nat) (hk : k ≤ c) (ha : ∀ b, a = some b → b.spot = none) (W : World) : (Instr.slice 25 (.slice a L c) none (some (.int .i64 (k : Int))) none).run Tryd.prog W = .ok (.slice a k c) W := by
  rw [run_slice_h (P := Tryd.prog) (w := W) 25 a L c (by kernel_rfl) .i64 (k : Int) (by omega) (by omega)]
  have hs : (sizeOf (Tryd.prog.elem 25)).run Tryd.prog W = .ok 3 W := by kernel_rfl
  rw [hs]
  cases a with
  | none => simp [Result.andThen, sliced]
  | some b =>
    obtain ⟨b, o, sp⟩ := b
    obtain rfl := ha _ rfl
    simp [Result.andThen, sliced, Addr.add]
theorem same_c (a b : Option Addr) (c1 c2 : Nat) (l : List FrT) (n : Nat) (hn : l.length = n) (hlen : (n : Int) ≤ 9223372036854775807) (w : World) (hA : FramesAt w.heap.size w a l) (hB : FramesAt w.heap.size w b l) : Calls Tryd.prog 25 #[.slice a n c1, .slice b n c2] w fun x w' => x = .returned (.bool true) ∧ Below w.heap.size w w' := by
  subst hn
  exact rSame_c a b c1 c2 l hlen w hA hB
theorem spot_none {n₀ : Nat} {W : World} {a : Option Addr} {l : List FrT} (h : FramesAt n₀ W a l) (hl : 0 < l.length) : ∀ b, a = some b → b.spot = none := fun b e => by
  obtain ⟨b', off, e', _⟩ := h 0 hl
  rw [e] at e'; cases e'; rfl
theorem own_spot {W : World} {z : Nat} {t : TypeId} {n k : Nat} {a : Option Addr} {c : Nat} {xs : List Value} (h : W.ownsRow z t n (.slice a k c) k xs) : ∀ b, a = some b → b.spot = none := fun b e => by
  rcases h.2 with ⟨h1, _⟩ | ⟨g', cap, cur, h1, _⟩
  · cases h1; cases e
  · cases h1; cases e; rfl
set_option maxRecDepth 100000 in
set_option maxHeartbeats 16000000 in
theorem cutsL_c (a0 : Option Addr) (N0 cap0 : Nat) (l0 l : List FrT) (n1 : Int) (bn : -9223372036854775808 ≤ n1 ∧ n1 ≤ 9223372036854775807) (w : World) (hL : ErrT w) (hA0 : FramesAt w.heap.size w a0 l0) (hll : l.length ≤ 10) (hD : ∀ f ∈ l, f.2.2.size ≤ 513) (S0 : Hid (∀ W, ErrT W → Calls Tryd.prog 10 #[] W fun x w' => x = .returned (.bool true) ∧ Below W.heap.size W w')) (CU : Hid (∀ W, FramesAt W.heap.size W a0 l0 → Calls Tryd.prog 11 #[.slice a0 N0 cap0] W fun x w' => ∃ v, x = .returned v ∧ w'.ownsRow W.heap.size 23 3 v l.length (fCells l) ∧ Below W.heap.size W w'))
    (LY : Hid (∀ a cap W, FramesAt W.heap.size W a l → Calls Tryd.prog 26 #[.slice a l.length cap] W fun x w' => LayR l x ∧ Below W.heap.size W w'))
    (AL : Hid (∀ (s : ByteArray), (s.size : Int) ≤ 100000 → ∀ (fs : List FrT) (r : List UInt8), AllS s.data.toList fs r → ∀ W, ErrT W → Calls Tryd.prog 23 #[.string s] W fun x w' => ∃ v : Value, x = .returned (.tuple #[v, .int .i64 ((encs fs).length : Int), .int .i64 (errOf r)]) ∧ w'.ownsRow W.heap.size 23 3 v fs.length (fCells fs) ∧ Below W.heap.size W w'))
    (SM : Hid (∀ (a b : Option Addr) (c1 c2 : Nat) (l : List FrT) (n : Nat), l.length = n → (n : Int) ≤ 9223372036854775807 → ∀ W, FramesAt W.heap.size W a l → FramesAt W.heap.size W b l → Calls Tryd.prog 25 #[.slice a n c1, .slice b n c2] W fun x w' => x = .returned (.bool true) ∧ Below W.heap.size W w')) :
    Calls Tryd.prog 6 #[.slice a0 N0 cap0, .int .i64 n1] w fun x w' => x = .returned (.bool true) ∧ Below w.heap.size w w' := by
  have HL := Lib.hid hL
  have HA0 := Lib.hid hA0
  have HD := Lib.hid hD
  clear hL hA0 hD
  go_enter Tryd.func6, Tryd.ntmps6
  go_wp2_with fail
  have B0 : Below w.heap.size w w := Below.refl _ w
  replace B0 := Lib.hid B0
  refine (S0.out _ (HL.out.on B0.out)).mono ?_; rintro e w1 ⟨rfl, hb⟩
  have B1 : RowKit.Hid (Below w.heap.size w w1) := Lib.hid (btr B0.out hb)
  clear hb
  go_wp2_with fail
  refine (CU.out _ ((HA0.out.below B1.out).mono B1.out.size)).mono ?_; rintro e w2 ⟨v1, rfl, ho1, hb⟩
  obtain ⟨a1, c1, rfl, hc1, hF⟩ := frames_of_row2 rfl ho1
  have HSP := Lib.hid (own_spot ho1)
  clear ho1
  have B2 : RowKit.Hid (Below w.heap.size w w2) := Lib.hid (btr B1.out hb)
  clear hb
  go_wp2_with fail
  refine (LY.out _ _ _ hF).mono ?_
  rintro x w3 ⟨⟨S, hR, hS, rfl⟩ | rfl, hb3⟩
  · have B3 := Lib.hid (btr B2.out hb3)
    have HF := Lib.hid ((hF.below hb3).mono hb3.size)
    have hSz : S.size = (encs l).length := by rw [← hS]; simp
    clear hF hb3
    by_cases h0 : n1 < 0
    · go_wp2
      go_ret
      exact ⟨rfl, B3.out⟩
    by_cases h1 : (S.size : Int) < n1
    · go_wp2
      go_ret
      exact ⟨rfl, B3.out⟩
    obtain ⟨n, rfl⟩ : ∃ n : Nat, n1 = n := ⟨n1.toNat, by omega⟩
    have hnb : (n : Int) ≤ 5180 := by have := encs_bound l HD.out; omega
    have HR := Lib.hid hR
    have HSS := Lib.hid hS
    have HTL := Lib.hid (fun (k : Nat) (hk : k ≤ l.length) (h1 : (encs (l.take k)).length ≤ n) (h2 : k = l.length ∨ ∃ f, l[k]? = some f ∧ n < (encs (l.take k)).length + (encL f).length) => alls_cut hR n k hk h1 h2 (by omega))
    have hsl : ∀ W, (Instr.slice 9 (.string S) none (some (.int .i64 (n : Int))) none).run Tryd.prog W = .ok (.string (S.extract 0 n)) W := fun W => by
      rw [run_slice_string_to_if (P := Tryd.prog) (w := W) (h := by kernel_rfl), if_pos ⟨by omega, by omega⟩]
      rfl
    have hTl : (S.extract 0 n).data.toList = List.take n (encs l) := by rw [sl_of (by omega) (by omega), hS]; simp
    have hTs : ((S.extract 0 n).size : Int) ≤ 100000 := by rw [ByteArray.size_extract]; omega
    have HTS := Lib.hid hTs
    have HT := Lib.hid hTl
    have hg1 : ¬ (encs l).length < n := by omega
    clear hTl hTs hR hS
    generalize S.extract 0 n = T at *
    generalize hL : l.length = LL at *
    go_wp2
    go_loopw [8, 9, 10] (fun nn wh i wr => ∃ k : Nat, k ≤ LL ∧ i = .int .i64 (k : Int) ∧ wh = .int .i64 (k : Int) ∧ nn = .int .i64 ((encs (l.take k)).length : Int) ∧ (encs (l.take k)).length ≤ n ∧ Below w3.heap.size w3 wr) (fun _ _ i _ => LL - (intOf i).toNat)
    case atStart => exact ⟨0, by omega, rfl, rfl, rfl, Nat.zero_le _, Below.refl _ _⟩
    case round =>
      obtain ⟨k, hk, rfl, rfl, rfl, hen, hbl⟩ := hrel
      have HBL := Lib.hid hbl
      by_cases hlt : k < LL
      · have hkl : k < l.length := by omega
        obtain ⟨b, off, rfl, hb1, d0, d1, d2⟩ := (HF.out.below hbl) k hkl
        have hlt' : (k : Int) < (LL : Int) := by omega
        have hsz := HD.out _ (List.getElem_mem hkl)
        have hT1 := encs_take_succ l k hkl
        have hT2 : (encs (l.take (k + 1))).length = (encs (l.take k)).length + (5 + (l[k]).2.2.size) := by rw [hT1, List.length_append, encL_length]
        have hgk : l[k]? = some l[k] := List.getElem?_eq_getElem hkl
        have HG := Lib.hid (show n < (encs (l.take k)).length + (5 + (l[k]).2.2.size) → ∃ f, l[k]? = some f ∧ n < (encs (l.take k)).length + (encL f).length from fun h => ⟨_, hgk, by rw [encL_length]; exact h⟩)
        have HT3 := Lib.hid hT2
        clear hbl hT1 hT2 hgk d0 d1
        generalize (l[k]).2.2 = DD at *
        generalize hE : (encs (l.take k)).length = E at *
        by_cases hle : E + (5 + DD.size) ≤ n
        · have hle' : (E : Int) + 5 + (DD.size : Int) ≤ (n : Int) := by omega
          go_wp2
          go_roundw
          case rel => exact ⟨k + 1, by omega, by go_num, by go_num, by have := HT3.out; simp; omega, by have := HT3.out; omega, HBL.out⟩
          case measure => simp [intOf]; omega
        · have hle' : ¬ (E : Int) + 5 + (DD.size : Int) ≤ (n : Int) := by omega
          obtain ⟨r, hAS, hr0⟩ := HTL.out k (by omega) (by rw [hE]; omega) (.inr (by rw [hE]; exact HG.out (by omega)))
          have hkc : k ≤ c1 := by omega
          have HAL := Lib.hid (fun W h => AL.out T HTS.out (l.take k) r (by rw [HT.out]; exact hAS) W h)
          rw [hr0, hE] at HAL
          have hlk : (l.take k).length = k := by rw [List.length_take]; omega
          rw [hlk] at HAL
          have hss := fun W => slice_run _ LL c1 k hkc HSP.out W
          have HSM := Lib.hid (fun a b ca cb W h1 h2 => SM.out a b ca cb (l.take k) k hlk (by omega) W h1 h2)
          have HLw := Lib.hid (HL.out.on (btr B3.out HBL.out))
          clear hAS hr0 HTL
          go_wp2_with fail
          refine (HAL.out _ HLw.out).mono ?_
          rintro x w5 ⟨v, rfl, ho, hb5⟩
          obtain ⟨a2, c2, rfl, hc2, hF2⟩ := frames_of_row2 hlk ho
          have HF2 := Lib.hid hF2
          have HF3 := Lib.hid (((HF.out.below HBL.out).take k).below (hb5.mono HBL.out.size) |>.mono (Nat.le_trans HBL.out.size hb5.size))
          have B5 := Lib.hid (btr (btr B3.out HBL.out) hb5)
          clear ho hF2 hb5
          go_wp2_with (refine (HSM.out _ _ _ _ _ HF2.out HF3.out).mono ?_; rintro e w6 ⟨rfl, hb6⟩)
          go_ret
          exact ⟨ret_bool (by first | rfl | (simp <;> omega)), btr B5.out hb6⟩
      · have hlt' : ¬ (k : Int) < (LL : Int) := by omega
        obtain ⟨r, hAS, hr0⟩ := HTL.out k (by omega) (by omega) (.inl (by omega))
        have hkc : k ≤ c1 := by omega
        have hE : (encs (l.take k)).length = (encs (l.take k)).length := rfl
        generalize hE2 : (encs (l.take k)).length = E at *
        clear hbl hE
        have hE := hE2
        have HAL := Lib.hid (fun W h => AL.out T HTS.out (l.take k) r (by rw [HT.out]; exact hAS) W h)
        rw [hr0, hE] at HAL
        have hlk : (l.take k).length = k := by rw [List.length_take]; omega
        rw [hlk] at HAL
        have hss := fun W => slice_run _ LL c1 k hkc HSP.out W
        have HSM := Lib.hid (fun a b ca cb W h1 h2 => SM.out a b ca cb (l.take k) k hlk (by omega) W h1 h2)
        have HLw := Lib.hid (HL.out.on (btr B3.out HBL.out))
        clear hAS hr0 HTL
        go_wp2_with fail
        refine (HAL.out _ HLw.out).mono ?_
        rintro x w5 ⟨v, rfl, ho, hb5⟩
        obtain ⟨a2, c2, rfl, hc2, hF2⟩ := frames_of_row2 hlk ho
        have HF2 := Lib.hid hF2
        have HF3 := Lib.hid (((HF.out.below HBL.out).take k).below (hb5.mono HBL.out.size) |>.mono (Nat.le_trans HBL.out.size hb5.size))
        have B5 := Lib.hid (btr (btr B3.out HBL.out) hb5)
        clear ho hF2 hb5
        go_wp2_with (refine (HSM.out _ _ _ _ _ HF2.out HF3.out).mono ?_; rintro e w6 ⟨rfl, hb6⟩)
        go_ret
        exact ⟨ret_bool (by first | rfl | (simp <;> omega)), btr B5.out hb6⟩
  · go_wp2
    go_ret
    exact ⟨rfl, btr B2.out hb3⟩
theorem cutL_mem {l : List FrT} {f : FrT} (h : f ∈ cutL l) : f.2.2.size ≤ 513 ∧ ∃ g ∈ l, f.1 = g.1 := by
  unfold cutL at h
  obtain ⟨g, hg, rfl⟩ := List.mem_map.1 h
  exact ⟨cutD_size g.2.2, g, List.mem_of_mem_take hg, rfl⟩
theorem wireCuts_c (a0 : Option Addr) (cap0 : Nat) (l0 : List FrT) (n1 : Int) (bn : -9223372036854775808 ≤ n1 ∧ n1 ≤ 9223372036854775807) (w : World) (hlen : l0.length ≤ 9223372036854775807) (hx : FramesAt w.heap.size w a0 l0 ∧ ∀ f ∈ l0, (Lit.int .i64 f.1).wf = true) (hL : ErrT w) : Calls Tryd.prog 6 #[.slice a0 l0.length cap0, .int .i64 n1] w fun x w' => x = .returned (.bool true) ∧ Below w.heap.size w w' := by
  have hwf : ∀ f ∈ cutL l0, (Lit.int .i64 f.1).wf = true := fun f hf => by
    obtain ⟨_, g, hg, e⟩ := cutL_mem hf
    rw [e]; exact hx.2 g hg
  have hll : (cutL l0).length ≤ 10 := by rw [cutL_length]; unfold cutN; omega
  exact cutsL_c a0 l0.length cap0 l0 (cutL l0) n1 bn w hL hx.1 hll (fun f hf => (cutL_mem hf).1) (Lib.hid (fun W h => shown_c W h)) (Lib.hid (fun W h => by have := Cut_c a0 cap0 l0 hlen W h; rwa [← cutL_length] at this))
    (Lib.hid (fun a cap W h => lay_c a cap (cutL l0) hll (fun f hf => (cutL_mem hf).1) hwf W h)) (Lib.hid (fun s hs fs r h W hE => all2_c s hs fs r h W hE)) (Lib.hid (fun a b c1 c2 l n hn hl W h1 h2 => same_c a b c1 c2 l n hn hl W h1 h2))
end Go.Proofs.YtdcnpcdohgecbaaDoor
