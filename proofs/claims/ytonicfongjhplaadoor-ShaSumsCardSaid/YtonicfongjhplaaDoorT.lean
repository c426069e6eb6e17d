/- strings.IndexRune of a rune that is no ASCII, in an ASCII text. -/
import Derived.Test.YtonicfongjhplaaDoorBy
import Derived.Test.YtonicfongjhplaaDoorShelf
import Derived.Laws.RangeAny
namespace Go.Proofs.YtonicfongjhplaaDoor
open Go.RowKit Go.Shelf
attribute [local go_sem] Oper.semAt_some

theorem grown_iterAt (W : World) (k : Nat) (s : ByteArray) (pos : Nat) : W.grownBy (W.iterAt k s pos) (some k) :=
  ⟨rfl, rfl, rfl, by rw [Lib.iterAt_size]; exact Nat.le_refl _, fun i _ hi => Lib.iterAt_other W k i s pos (fun e => hi (by rw [e]))⟩
def encF (c : Nat) : ByteArray :=
  if c < 0x80 then ⟨#[UInt8.ofNat c]⟩
  else if c < 0x800 then ⟨#[UInt8.ofNat (0xC0 + c / 64), UInt8.ofNat (0x80 + c % 64)]⟩
  else if c < 0x10000 then ⟨#[UInt8.ofNat (0xE0 + c / 4096), UInt8.ofNat (0x80 + c / 64 % 64), UInt8.ofNat (0x80 + c % 64)]⟩
  else ⟨#[UInt8.ofNat (0xF0 + c / 262144), UInt8.ofNat (0x80 + c / 4096 % 64), UInt8.ofNat (0x80 + c / 64 % 64), UInt8.ofNat (0x80 + c % 64)]⟩
theorem last_of {E : ByteArray} {d : UInt8} (h : (∃ x, E = ⟨#[x, d]⟩) ∨ (∃ x y, E = ⟨#[x, y, d]⟩) ∨ (∃ x y z, E = ⟨#[x, y, z, d]⟩)) : 2 ≤ E.size ∧ E.size ≤ 4 ∧ ∀ j (hj : j < E.size), j + 1 = E.size → E[j]'hj = d := by
  rcases h with ⟨x, rfl⟩ | ⟨x, y, rfl⟩ | ⟨x, y, z, rfl⟩
  · refine ⟨Nat.le_refl 2, by show 2 ≤ 4; omega, fun j hj h => ?_⟩
    obtain rfl : j = 1 := by have : j + 1 = 2 := h; omega
    rfl
  · refine ⟨by show 2 ≤ 3; omega, by show 3 ≤ 4; omega, fun j hj h => ?_⟩
    obtain rfl : j = 2 := by have : j + 1 = 3 := h; omega
    rfl
  · refine ⟨by show 2 ≤ 4; omega, Nat.le_refl 4, fun j hj h => ?_⟩
    obtain rfl : j = 3 := by have : j + 1 = 4 := h; omega
    rfl
theorem encF_big (c : Nat) (hc : ¬ c < 0x80) : ∃ d : UInt8, 128 ≤ d.toNat ∧ 2 ≤ (encF c).size ∧ (encF c).size ≤ 4 ∧ ∀ j (hj : j < (encF c).size), j + 1 = (encF c).size → (encF c)[j]'hj = d := by
  have e : (UInt8.ofNat (0x80 + c % 64)).toNat = 128 + c % 64 := by rw [UInt8.toNat_ofNat']; omega
  refine ⟨UInt8.ofNat (0x80 + c % 64), by omega, last_of ?_⟩
  unfold encF
  rw [if_neg hc]
  split
  · exact .inl ⟨_, rfl⟩
  · split
    · exact .inr (.inl ⟨_, _, rfl⟩)
    · exact .inr (.inr ⟨_, _, _, rfl⟩)
theorem encode_big (r : Int) (h : 128 ≤ r) : ∃ E : ByteArray, Utf8.encode r = E ∧ ∃ d : UInt8, 128 ≤ d.toNat ∧ 2 ≤ E.size ∧ E.size ≤ 4 ∧ ∀ j (hj : j < E.size), j + 1 = E.size → E[j]'hj = d := by
  refine ⟨encF (if Utf8.valid r then r.toNat else Utf8.runeError), ?_, encF_big _ ?_⟩
  · unfold Utf8.encode encF
    simp only []
  · split
    · omega
    · unfold Utf8.runeError; omega
theorem ret_then {next : Act → World → Prop} {Q : Exit → Act → World → Prop} {a : Act} {w : World} (h : Q .ret a w) : Exit.then next Q .ret a w := h
theorem ret_block {id : Nat} {Q : Exit → Act → World → Prop} {a : Act} {w : World} (h : Q .ret a w) : Exit.inBlock id Q .ret a w := h
theorem ret_noGoto {Q : Exit → Act → World → Prop} {a : Act} {w : World} (h : Q .ret a w) : Exit.noGoto Q .ret a w := h
theorem index_high : ∀ (l : List UInt8), (∀ b ∈ l, b.toNat < 128) → ∀ (c : UInt8), 128 ≤ c.toNat → Lib.indexByte l c = -1
  | [], _, _, _ => rfl
  | b :: l, h, c, hc => by
    have hb := h b (List.mem_cons_self ..)
    have hne : (b == c) = false := by
      rw [beq_eq_false_iff_ne]
      rintro rfl
      omega
    rw [Lib.indexByte, hne, index_high l (fun x hx => h x (List.mem_cons_of_mem _ hx)) c hc]
    rfl
theorem get_lt {D : ByteArray} (hD : ∀ b ∈ D.data.toList, b.toNat < 128) (j : Nat) (h : j < D.size) : (D[j]'h).toNat < 128 := hD _ (by
  have : D[j]'h ∈ D.data := Array.getElem_mem h
  simpa using this)
set_option maxRecDepth 100000 in
set_option maxHeartbeats 8000000 in
theorem index_big (D : ByteArray) (hD : ∀ b ∈ D.data.toList, b.toNat < 128) (h4 : 4 ≤ D.size) (h5 : D.size ≤ 1000) (r : Int) (h : 128 ≤ r) (w : World) : Calls Tryd.prog 25 #[.string D, .int .i32 r] w fun x w' => x = .returned (.int .i64 (-1)) ∧ Below w.heap.size w w' := by
  have hr0 : (0 : Int) ≤ r := by omega
  have hr1 : ¬ r < 128 := by omega
  have HV := Lib.hid (fun W => Tryd.utf8_ValidRune r W)
  have HD := Lib.hid hD
  have HX := Lib.hid (fun (c : UInt8) (hc : 128 ≤ c.toNat) k W => (Tryd.strings_IndexByte (D.extract k D.size) (c.toNat : Int) W).mono fun e w' (he : e = .returned (.int .i64 (Lib.indexByte (D.extract k D.size).data.toList ((c.toNat : Int).toNat.toUInt8))) ∧ w' = W) => (show e = .returned (.int .i64 (-1)) ∧ w' = W from by
    have hcc : ((c.toNat : Int).toNat.toUInt8) = c := by rw [Int.toNat_natCast]; exact UInt8.ofNat_toNat
    rw [hcc, index_high _ (fun b hb => hD b (by
      rw [ByteArray.data_extract, Array.toList_extract, List.extract_eq_take_drop] at hb
      exact List.mem_of_mem_drop (List.mem_of_mem_take hb))) c hc] at he
    exact he))
  clear hD
  by_cases hrE : r = 65533
  · subst hrE
    clear hr0 hr1 h HV HX
    go_enter Tryd.func25, Tryd.ntmps25
    go_wp2_with fail
    have hb := Lib.hid (below_alloc w (.stringIter D 0))
    have hit := World.iter_heap w D 0
    have hbi : Below w.heap.size w (w.iter D 0) := hb.out
    generalize w.iter D 0 = w1 at *
    go_loopw [] (fun wr => ∃ k : Nat, k ≤ D.size ∧ wr.heap[w.heap.size]? = some (.stringIter D k) ∧ Below w.heap.size w wr) (fun wr => D.size + 1 - wr.iterPos w.heap.size)
    case atStart => exact ⟨0, Nat.zero_le _, hit, hbi⟩
    case round =>
      obtain ⟨k, hk, hit, hbi⟩ := hrel
      by_cases hp : k < D.size
      · have ha := get_lt HD.out k hp
        have hit2 := Lib.iterAt_heap wr w.heap.size D k (k + (Utf8.decode D k).2) hit
        have hnx : ∀ ty, (Instr.next (.pointer (some ⟨w.heap.size, 0, none⟩)) true ty).run Tryd.prog wr = _ := fun ty => Lib.run_next_any_at wr w.heap.size D k ty hit hp
        have hG := grown_iterAt wr w.heap.size D (k + (Utf8.decode D k).2)
        rw [decode_ascii D k hp ha] at hnx hit2 hG
        dsimp only at hnx hit2 hG
        have HB2 := Lib.hid (hbi.grown hG hbi.size (fun j hj => by cases hj; exact Nat.le_refl _))
        generalize (D[k]'hp).toNat = c at *
        have hne : ¬ (c : Int) = 65533 := by omega
        have HIT := Lib.hid hit2
        have HI0 := Lib.hid hit
        clear hit2 hit hG hbi
        go_wp2
        go_roundw
        case rel => exact ⟨k + 1, by omega, HIT.out, HB2.out⟩
        case measure => simp only [World.iterPos, HIT.out, HI0.out]; omega
      · obtain rfl : k = D.size := by omega
        have hnx : ∀ ty, (Instr.next (.pointer (some ⟨w.heap.size, 0, none⟩)) true ty).run Tryd.prog wr = _ := fun ty => Lib.run_next_end_at wr w.heap.size D D.size ty hit hp
        go_wp2
        go_ret
        exact ⟨rfl, hbi⟩
  · have Hh := Lib.hid h
    clear h
    cases hv : Lib.validRune r with
    | false =>
      rw [hv] at HV
      go_enter Tryd.func25, Tryd.ntmps25
      go_wp2_with (with_reducible refine (HV.out _).mono ?_; rintro e w1 ⟨rfl, rfl⟩)
      go_ret
      exact ⟨rfl, Below.refl _ _⟩
    | true =>
      rw [hv] at HV
      obtain ⟨E, hE, d, hd, he1, he2, he3⟩ := encode_big r Hh.out
      have hcv : ∀ W, (convert 21 9 (.int .i32 r)).run Tryd.prog W = .ok (.string (Utf8.encode r)) W := fun W => by kernel_rfl
      rw [hE] at hcv
      clear hE
      obtain ⟨j, hj⟩ : ∃ j, j + 1 = E.size := ⟨E.size - 1, by omega⟩
      have hjE : j < E.size := by omega
      have hjD : j < D.size := by omega
      have hjE' : (j : Int) < (E.size : Int) := by omega
      have hjD' : (j : Int) < (D.size : Int) := by omega
      have hjz : (E.size : Int) - 1 = (j : Int) := by omega
      have hjw : IntKind.i64.wrap (j : Int) = (j : Int) := IntWalk.i64_in _ (by omega)
      have hjs : (0 : Int) ≤ (j : Int) + 1 ∧ (j : Int) + 1 ≤ (D.size : Int) := by omega
      have hjw1 : IntKind.i64.wrap ((j : Int) + 1) = (j : Int) + 1 := IntWalk.i64_in _ (by omega)
      have hed := he3 j hjE hj
      have hdl := get_lt HD.out j hjD
      have HIX := Lib.hid (fun W => HX.out d hd (j + 1) W)
      obtain ⟨e0, he0⟩ : ∃ e, (D[j]'hjD).toNat = e := ⟨_, rfl⟩
      rw [he0] at hdl
      have hne : ¬ (e0 : Int) = (d.toNat : Int) := by omega
      clear hj he1 he2 he3 HX
      go_enter Tryd.func25, Tryd.ntmps25
      go_wp2_with (with_reducible refine (HV.out _).mono ?_; rintro e w1 ⟨rfl, rfl⟩)
      refine wp_scope_straight ?_
      go_wp2_with fail
      refine wp_loop_rounds 1 ?_
      rw [rounds_succ]
      go_wp2_with fail
      refine wp_scope_straight ?_
      go_wp2_with fail
      refine wp_region_held_drew (S := (fun _ => True)) (by kernel_rfl) ?_ (fun hHeld => ?_)
      · exact trivial
      refine takeH (i := 0) (some 27) (v := ?_) rfl rfl (by kernel_rfl) (by kernel_rfl) (by kernel_rfl) (fun _ _ _ h => h) (Or.inl ⟨by rfl, ?hyA0⟩) hHeld ?restA0
      case hyA0 => (intro w hSw; (try dsimp only at hSw); go_simp; (try with_reducible rfl))
      try simp only [Act.put, List.setIfInBounds_toArray, List.set_cons_zero, List.set_cons_succ]
      refine takeH (i := 1) (some 28) (v := ?_) rfl rfl (by kernel_rfl) (by kernel_rfl) (by kernel_rfl) (fun _ _ _ h => h) (Or.inl ⟨by rfl, ?hyA1⟩) hHeld ?restA1
      case hyA1 => (intro w hSw; (try dsimp only at hSw); go_simp; (try with_reducible rfl))
      try simp only [Act.put, List.setIfInBounds_toArray, List.set_cons_zero, List.set_cons_succ]
      refine takeH (i := 2) (some 29) (v := ?_) rfl rfl (by kernel_rfl) (by kernel_rfl) (by kernel_rfl) (fun _ _ _ h => h) (Or.inl ⟨by rfl, ?hyA2⟩) hHeld ?restA2
      case hyA2 => (intro w hSw; (try dsimp only at hSw); go_simp; (try with_reducible rfl))
      try simp only [Act.put, List.setIfInBounds_toArray, List.set_cons_zero, List.set_cons_succ]
      refine takeH (i := 3) (some 30) (v := ?_) rfl rfl (by kernel_rfl) (by kernel_rfl) (by kernel_rfl) (fun _ _ _ h => h) (Or.inl ⟨by rfl, ?hyA3⟩) hHeld ?restA3
      case hyA3 => (intro w hSw; (try dsimp only at hSw); go_simp; (try with_reducible rfl))
      try simp only [Act.put, List.setIfInBounds_toArray, List.set_cons_zero, List.set_cons_succ]
      refine takeH (i := 4) (some 31) (v := ?_) rfl rfl (by kernel_rfl) (by kernel_rfl) (by kernel_rfl) (fun _ _ _ h => h) (Or.inl ⟨by rfl, ?hyA4⟩) hHeld ?restA4
      case hyA4 => (intro w hSw; (try dsimp only at hSw); go_simp; (try with_reducible rfl))
      try simp only [Act.put, List.setIfInBounds_toArray, List.set_cons_zero, List.set_cons_succ]
      refine takeH (i := 5) (some 32) (v := ?_) rfl rfl (by kernel_rfl) (by kernel_rfl) (by kernel_rfl) (fun _ _ _ h => h) (Or.inl ⟨by rfl, ?hyA5⟩) hHeld ?restA5
      case hyA5 => (intro w hSw; (try dsimp only at hSw); go_simp; (try with_reducible rfl))
      try simp only [Act.put, List.setIfInBounds_toArray, List.set_cons_zero, List.set_cons_succ]
      refine takeH (i := 6) (some 33) (v := ?_) rfl rfl (by kernel_rfl) (by kernel_rfl) (by kernel_rfl) (fun _ _ _ h => h) (Or.inl ⟨by rfl, ?hyA6⟩) hHeld ?restA6
      case hyA6 => (intro w hSw; (try dsimp only at hSw); go_simp; (try with_reducible rfl))
      try simp only [Act.put, List.setIfInBounds_toArray, List.set_cons_zero, List.set_cons_succ]
      refine wpAnyH_done (by kernel_rfl) ?_ _
      go_wp2_with fail
      refine wp_region_held_drew (S := (fun _ => True)) (by kernel_rfl) ?_ (fun hHeld => ?_)
      · exact trivial
      refine takeH (i := 0) (some 34) (v := ?_) rfl rfl (by kernel_rfl) (by kernel_rfl) (by kernel_rfl) (fun _ _ _ h => h) (Or.inl ⟨by rfl, ?hyB0⟩) hHeld ?restB0
      case hyB0 => (intro w hSw; (try dsimp only at hSw); go_simp; (try with_reducible rfl))
      try simp only [Act.put, List.setIfInBounds_toArray, List.set_cons_zero, List.set_cons_succ]
      refine takeH (i := 1) (some 35) (v := ?_) rfl rfl (by kernel_rfl) (by kernel_rfl) (by kernel_rfl) (fun _ _ _ h => h) (Or.inl ⟨by rfl, ?hyB1⟩) hHeld ?restB1
      case hyB1 => (intro w hSw; (try dsimp only at hSw); go_simp; (try with_reducible rfl))
      try simp only [Act.put, List.setIfInBounds_toArray, List.set_cons_zero, List.set_cons_succ]
      refine takeH (i := 2) (some 36) (v := ?_) rfl rfl (by kernel_rfl) (by kernel_rfl) (by kernel_rfl) (fun _ _ _ h => h) (Or.inl ⟨by rfl, ?hyB2⟩) hHeld ?restB2
      case hyB2 => (intro w hSw; (try dsimp only at hSw); go_simp; (try with_reducible rfl))
      try simp only [Act.put, List.setIfInBounds_toArray, List.set_cons_zero, List.set_cons_succ]
      refine takeH (i := 3) (some 37) (v := ?_) rfl rfl (by kernel_rfl) (by kernel_rfl) (by kernel_rfl) (fun _ _ _ h => h) (Or.inl ⟨by rfl, ?hyB3⟩) hHeld ?restB3
      case hyB3 => (intro w hSw; (try dsimp only at hSw); go_simp; (try with_reducible rfl))
      try simp only [Act.put, List.setIfInBounds_toArray, List.set_cons_zero, List.set_cons_succ]
      refine takeH (i := 4) (some 38) (v := ?_) rfl rfl (by kernel_rfl) (by kernel_rfl) (by kernel_rfl) (fun _ _ _ h => h) (Or.inl ⟨by rfl, ?hyB4⟩) hHeld ?restB4
      case hyB4 => (intro w hSw; (try dsimp only at hSw); go_simp; (try with_reducible rfl))
      try simp only [Act.put, List.setIfInBounds_toArray, List.set_cons_zero, List.set_cons_succ]
      refine takeH (i := 5) (some 39) (v := ?_) rfl rfl (by kernel_rfl) (by kernel_rfl) (by kernel_rfl) (fun _ _ _ h => h) (Or.inl ⟨by rfl, ?hyB5⟩) hHeld ?restB5
      case hyB5 => (intro w hSw; (try dsimp only at hSw); go_simp; (try with_reducible rfl))
      try simp only [Act.put, List.setIfInBounds_toArray, List.set_cons_zero, List.set_cons_succ]
      refine takeH (i := 6) (some 40) (v := ?_) rfl rfl (by kernel_rfl) (by kernel_rfl) (by kernel_rfl) (fun _ _ _ h => h) (Or.inl ⟨by rfl, ?hyB6⟩) hHeld ?restB6
      case hyB6 => (intro w hSw; (try dsimp only at hSw); go_simp; (try with_reducible rfl))
      try simp only [Act.put, List.setIfInBounds_toArray, List.set_cons_zero, List.set_cons_succ]
      refine wpAnyH_ready (rs := [7]) (by kernel_rfl) (by simp) ?_
      refine AllReadyH.cons rfl (fun K hK => ?_) AllReadyH.nil
      go_simp
      with_reducible refine (HIX.out _).mono ?_; rintro e w2 ⟨rfl, rfl⟩
      refine hK.out _ _ ?_ (fun hHeld => ?_)
      · exact trivial
      clear hK K
      try simp only [Act.put, List.setIfInBounds_toArray, List.set_cons_zero, List.set_cons_succ]
      refine takeH (i := 8) (some 11) (v := ?_) rfl rfl (by kernel_rfl) (by kernel_rfl) (by kernel_rfl) (fun _ _ _ h => h) (Or.inl ⟨by rfl, ?hyB8⟩) hHeld ?restB8
      case hyB8 => (intro w hSw; (try dsimp only at hSw); go_simp; (try with_reducible rfl))
      try simp only [Act.put, List.setIfInBounds_toArray, List.set_cons_zero, List.set_cons_succ]
      refine wpAnyH_done (by kernel_rfl) ?_ _
      go_wp2_with fail
      repeat (first | refine ret_then ?_ | refine ret_block ?_ | refine ret_noGoto ?_)
      go_ret
      exact ⟨rfl, below_drew (below_drew (Below.refl _ _))⟩
end Go.Proofs.YtonicfongjhplaaDoor
