/- The digits ahead of all else in a text: the iterator's contract. -/
import Derived.Test.YtlnjalhlbfbjcaaGreatDoorA
namespace Go.Proofs.YtlnjalhlbfbjcaaGreatDoor
open Go.RowKit Go.Shelf
attribute [local go_sem] Oper.semAt_some

/-- A digit: its place, and what it is worth. -/
structure Dg where
  p : Nat
  d : Nat
  hp : p ≤ 1000
  hd : d ≤ 9
def encD (x : Dg) : Array Value := #[.int .i64 (x.p : Int), .int .i64 (x.d : Int)]
/-- The digits ahead of all else. -/
def digN (i : Nat) : List UInt8 → List Dg
  | [] => []
  | c :: r => if h : (48 ≤ c.toNat ∧ c.toNat ≤ 57) ∧ i ≤ 1000 then ⟨i, c.toNat - 48, h.2, by omega⟩ :: digN (i + 1) r else []
theorem drop_at (s : ByteArray) (k : Nat) (h : k < s.size) : s.data.toList.drop k = s[k]'h :: s.data.toList.drop (k + 1) := by
  rw [List.drop_eq_getElem_cons (show k < s.data.toList.length from h)]
  rfl
theorem grown_iterAt (W : World) (k : Nat) (s : ByteArray) (pos : Nat) : W.grownBy (W.iterAt k s pos) (some k) :=
  ⟨rfl, rfl, rfl, by rw [Lib.iterAt_size]; exact Nat.le_refl _, fun i _ hi => Lib.iterAt_other W k i s pos (fun e => hi (by rw [e]))⟩

set_option maxRecDepth 100000 in
set_option maxHeartbeats 2000000 in
theorem digits1_in (F : Fence) (n : Nat) (h65 : F.fn 82) (hro : F.round = none) (hn : 1 ≤ n) (l Bs : Nat) (s : ByteArray) (hsz : s.size ≤ 1000) (J Jx : List Dg → World → Prop) (W : World) (hJ : AbidesFrom W.heap.size J)
    (hY : ∀ pre x W1, J pre W1 → pre.length < s.size → YieldAt F (n - 1) Tryz.prog l (encD x) W1 fun e W' =>
      (e = .returned (.bool true) ∧ J (pre ++ [x]) W' ∧ KeepsWalks W1 W') ∨ (e = .returned (.bool false) ∧ Jx (pre ++ [x]) W'))
    (hBs : W.cell? ⟨Bs, 0, none⟩ = some (.string s)) (h0 : J [] W) :
    CallsIn F n Tryz.prog 82 #[.func (.yield l) #[] #[], .pointer (some ⟨Bs, 0, none⟩)] W fun e W' => (∃ v, e = .returned v) ∧
      ((∃ xs, xs = digN 0 s.data.toList ∧ J xs W') ∨ (∃ pre, pre <+: digN 0 s.data.toList ∧ Jx pre W')) := by
  have HJ := Lib.hid hJ
  have HY := Lib.hid hY
  clear hJ hY
  refine callsIn_of_wp Tryz.func82 rfl h65 ?_ hro
  simp only [Tryz.ntmps82, List.size_toArray, List.length_cons, List.length_nil, Nat.reduceAdd, Nat.reduceSub, Array.replicate_succ, Array.replicate_zero, List.push_toArray, List.append_toArray, List.nil_append, List.cons_append]
  gi_wp2
  gi_loopw [] (fun wr => ∃ (k : Nat) (D : List Dg), k ≤ s.size ∧ D.length = k ∧ digN 0 s.data.toList = D ++ digN k (s.data.toList.drop k) ∧ J D wr ∧ wr.heap[W.heap.size]? = some (.stringIter s k)) (fun wr => s.size + 1 - wr.iterPos W.heap.size)
  case atStart =>
    exact ⟨0, [], Nat.zero_le _, rfl, rfl, HJ.out _ _ _ none h0 (World.grownBy_alloc W _ none) (fun _ e => by cases e), World.iter_heap W s 0⟩
  case round =>
    obtain ⟨k, D, hk, hlen, hD, hJD, hit⟩ := hrel
    clear h0 hBs
    by_cases hp : k < s.size
    · have hdr := drop_at s k hp
      have hit2 := Lib.iterAt_heap wr W.heap.size s k (k + (Utf8.decode s k).2) hit
      have hJ2 := HJ.out _ _ _ (some W.heap.size) hJD (grown_iterAt wr W.heap.size s (k + (Utf8.decode s k).2)) (fun r e => by cases e; exact ⟨Nat.le_refl _, _, hit, rfl⟩)
      have hnx : ∀ ty, (Instr.next (.pointer (some ⟨W.heap.size, 0, none⟩)) true ty).run Tryz.prog wr = _ := fun ty => Lib.run_next_any_at wr W.heap.size s k ty hit hp
      by_cases ha : (s[k]'hp).toNat < 128
      · have hdec := decode_ascii s k hp ha
        rw [hdec] at hnx hit2 hJ2
        dsimp only at hnx hit2 hJ2
        rw [hdr] at hD
        simp only [digN] at hD
        by_cases hc : (48 ≤ (s[k]'hp).toNat ∧ (s[k]'hp).toNat ≤ 57) ∧ k ≤ 1000
        · rw [dif_pos hc] at hD
          obtain ⟨x, hx, hxp, hxd⟩ : ∃ x : Dg, (⟨k, (s[k]'hp).toNat - 48, hc.2, by omega⟩ : Dg) = x ∧ x.p = k ∧ x.d = (s[k]'hp).toNat - 48 := ⟨_, rfl, rfl, rfl⟩
          rw [hx] at hD
          clear hx hdr hdec
          have hc' := hc.1
          clear hc
          generalize (s[k]'hp).toNat = c at *
          obtain ⟨fn, tmps, assign, body, hy, hR⟩ := HY.out _ x _ hJ2 (by omega)
          simp only [encD, hxp, hxd] at hy
          rw [show ((c - 48 : Nat) : Int) = (c : Int) - 48 by omega] at hy
          have h1 : ¬ (c : Int) < 48 := by omega
          have h2 : (c : Int) ≤ 57 := by omega
          have hc48 : (c : Int) - 48 ≤ 9 ∧ 0 ≤ (c : Int) - 48 := by omega
          have HD := Lib.hid hD
          have HIT := Lib.hid hit2
          clear hJD hJ2 hD hxp hxd
          gi_wp2
          refine hR.mono ?_
          rintro e W1 (⟨rfl, hJ3, hk3⟩ | ⟨rfl, hJx3⟩)
          · have hit3 := hk3.same _ _ HIT.out rfl
            gi_wp2
            refine ⟨⟨k + 1, D ++ [x], by omega, by simp [hlen], by rw [HD.out]; simp, hJ3, hit3⟩, ?_⟩
            simp only [World.iterPos, hit3, hit]
            omega
          · gi_wp2
            refine bodyPost_ret (results_none rfl _ _ _) rfl ?_
            exact ⟨⟨_, rfl⟩, .inr ⟨D ++ [x], ⟨_, by rw [HD.out, List.append_assoc]; rfl⟩, hJx3⟩⟩
        · rw [dif_neg hc, List.append_nil] at hD
          clear hdr hdec
          generalize (s[k]'hp).toNat = c at *
          by_cases h1 : (c : Int) < 48
          · gi_wp2
            refine ⟨fun _ hf => (by cases hf), ?_⟩
            gi_wp2
            refine bodyPost_ret (results_none rfl _ _ _) rfl ?_
            exact ⟨⟨_, rfl⟩, .inl ⟨_, hD.symm, hJ2⟩⟩
          · have h2 : (57 : Int) < c := by omega
            gi_wp2
            refine ⟨fun _ hf => (by cases hf), ?_⟩
            gi_wp2
            refine bodyPost_ret (results_none rfl _ _ _) rfl ?_
            exact ⟨⟨_, rfl⟩, .inl ⟨_, hD.symm, hJ2⟩⟩
      · have hge := (decode_high s k hp (by omega)).1
        have hc : ¬ ((48 ≤ (s[k]'hp).toNat ∧ (s[k]'hp).toNat ≤ 57) ∧ k ≤ 1000) := by omega
        rw [hdr] at hD
        simp only [digN, dif_neg hc, List.append_nil] at hD
        generalize (Utf8.decode s k).1 = r at *
        gi_wp2
        refine ⟨fun _ hf => (by cases hf), ?_⟩
        gi_wp2
        refine bodyPost_ret (results_none rfl _ _ _) rfl ?_
        exact ⟨⟨_, rfl⟩, .inl ⟨_, hD.symm, hJ2⟩⟩
    · obtain rfl : k = s.size := by omega
      have hnx : ∀ ty, (Instr.next (.pointer (some ⟨W.heap.size, 0, none⟩)) true ty).run Tryz.prog wr = _ := fun ty => Lib.run_next_end_at wr W.heap.size s s.size ty hit hp
      have hnil : s.data.toList.drop s.size = [] := List.drop_eq_nil_of_le (Nat.le_refl _)
      rw [hnil, show digN s.size [] = [] from rfl, List.append_nil] at hD
      gi_wp2
      go_end0
      exact ⟨⟨_, rfl⟩, .inl ⟨_, hD.symm, hJD⟩⟩

theorem digits_stops (F : Fence) (n : Nat) (h65 : F.fn 82) (hro : F.round = none) (hn : 1 ≤ n) (Bs : Nat) (s : ByteArray) (hsz : s.size ≤ 1000) (w : World) (hc : w.cell? ⟨Bs, 0, none⟩ = some (.string s)) :
    SeqStopsK F n Tryz.prog 82 #[.pointer (some ⟨Bs, 0, none⟩)] (encD) KeepsWalks (fun xs => xs = digN 0 s.data.toList) (fun pre => pre <+: digN 0 s.data.toList) s.size w := fun l J Jx W hW hJ _ hY h0 =>
  digits1_in F n h65 hro hn l Bs s hsz J Jx W hJ hY ((hW.cell (p := ⟨Bs, 0, none⟩) (blt hc)).trans hc) h0
theorem digits_c (s : ByteArray) (w : World) : Calls Tryz.prog 69 #[.string s] w fun x w' => x = .returned (.func (.func 82) #[] #[.pointer (some ⟨w.heap.size, 0, none⟩)]) ∧ w' = w.alloc (.cells #[.string s] 9) := by
  go_enter Tryz.func69, Tryz.ntmps69
  go_wp2
  go_ret
  exact ⟨rfl, rfl⟩
end Go.Proofs.YtlnjalhlbfbjcaaGreatDoor
