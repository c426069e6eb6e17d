/- Encode: its contract, where the frame is right. -/
import Derived.Test.YtdcnpcdohgecbaaDoorG
namespace Go.Proofs.YtdcnpcdohgecbaaDoor
open Go.RowKit Go.Shelf
attribute [local go_sem] Oper.semAt_some

theorem takeH {P : Program} {ops : Array Oper} {Q : Exit → Act → World → Prop} {md : Region.Mode} {S : World → Prop} {i : Nat} {oi : Oper} (d : Option Tmp) {v : Value} {fuel : Nat} {listed : Array Bool} {a : Act} {w : World} (hi : ops[i]? = some oi) (hd : oi.dst = d)
    (hs : Region.noSelect ops = true) (hf : Region.free md ops listed i = true) (hr : (Region.ready md ops listed).contains i = true)
    (hQ : ∀ c a w, Q (.panic c) (a.put d v) w → Q (.panic c) a w) (hy : YieldsIf P ops S oi v a) (hS : S w)
    (h : wpAnyH P md ops Q S fuel (listed.setIfInBounds i true) (a.put d v) w) : wpAnyH P md ops Q S (fuel + 1) listed a w := by
  subst hd
  exact wpAnyH_take hi hs hf hr hQ hy hS h
theorem wpAnyH_narrow {P : Program} {ops : Array Oper} {Q : Exit → Act → World → Prop} {md : Region.Mode} {S S2 : World → Prop} (hs : ∀ w, S2 w → S w) : ∀ (fuel : Nat) (listed : Array Bool) (a : Act) (w : World), wpAnyH P md ops Q S2 fuel listed a w → wpAnyH P md ops Q S fuel listed a w
  | 0, _, _, _, h => h
  | fuel + 1, _, _, _, h => ⟨h.1, fun i hi => wpOp_mono (fun a' w' h' => ⟨hs _ h'.1, wpAnyH_narrow hs fuel _ a' w' h'.2⟩) (h.2 i hi)⟩
theorem wrap8 (n : Nat) (h : n ≤ 255) : IntKind.u8.wrap (n : Int) = (n : Int) := by
  show (n : Int) % 256 = n
  omega
theorem conv_one (kn : Nat) (hk : kn ≤ 255) (B : Nat) (w : World) (h : w.cell? ⟨B, 0, none⟩ = some (.int .u8 (kn : Int))) : (convert 47 9 (.slice (some ⟨B, 0, none⟩) 1 1)).run Tryd.prog w = .ok (.string ⟨#[UInt8.ofNat kn]⟩) w := by
  refine run_convert_bytes_back (P := Tryd.prog) _ 47 9 5 ⟨B, 0, none⟩ 1 [UInt8.ofNat kn] (by kernel_rfl) (by kernel_rfl) (by kernel_rfl) (fun j hj => ?_)
  have e1 : ((UInt8.ofNat kn).toNat : Int) = (kn : Int) := by rw [UInt8.toNat_ofNat']; omega
  match j, hj with
  | 0, _ => show (World.cell? _ _ : Option Value) = some (Value.int .u8 ((UInt8.ofNat kn).toNat : Int)); rw [e1]; exact h
set_option maxRecDepth 100000 in
set_option maxHeartbeats 8000000 in
theorem encode_yes (kn st : Nat) (s : ByteArray) (hk : kn ≤ 255) (hw : (Lit.int .i64 (kn : Int)).wf = true) (hst : st ≤ 65535) (hs : s.size ≤ 65535) (hr : rightW kn st s.size = true) (w : World) : Calls Tryd.prog 13 #[.agg #[.int .i64 (kn : Int), .int .i64 (st : Int), .string s]] w fun x w' => x = .returned (.tuple #[.string (⟨#[UInt8.ofNat kn]⟩ ++ ⟨#[UInt8.ofNat (st / 256), UInt8.ofNat (st % 256)]⟩ ++ ⟨#[UInt8.ofNat (s.size / 256), UInt8.ofNat (s.size % 256)]⟩ ++ s), .int .i64 0]) ∧ Below w.heap.size w w' := by
  have C1 := fun W => right_c kn st s hw W
  rw [hr] at C1
  have H1 := Lib.hid C1
  have HP1 := Lib.hid (fun W => pair_c st hst W)
  have HP2 := Lib.hid (fun W => pair_c s.size hs W)
  have HC := Lib.hid (fun B W => conv_one kn hk B W)
  have E8 := Lib.hid (show IntKind.u8.wrap (kn : Int) = (kn : Int) from wrap8 kn hk)
  have HN := Lib.hid (show ¬ 9223372036854775807 < 5 + s.size by omega)
  clear C1 hr
  go_enter Tryd.func13, Tryd.ntmps13
  go_wp2_with fail
  have k0 : (w.alloc (.cells #[.int .i64 (kn : Int), .int .i64 (st : Int), .string s] 23)).cell? ⟨w.heap.size, 0, none⟩ = some (.int .i64 (kn : Int)) := by go_simp
  have k1 : (w.alloc (.cells #[.int .i64 (kn : Int), .int .i64 (st : Int), .string s] 23)).cell? ⟨w.heap.size, 1, none⟩ = some (.int .i64 (st : Int)) := by go_simp
  have k2 : (w.alloc (.cells #[.int .i64 (kn : Int), .int .i64 (st : Int), .string s] 23)).cell? ⟨w.heap.size, 2, none⟩ = some (.string s) := by go_simp
  have HA := Lib.hid (below_alloc w (.cells #[.int .i64 (kn : Int), .int .i64 (st : Int), .string s] 23))
  generalize (w.alloc (.cells #[.int .i64 (kn : Int), .int .i64 (st : Int), .string s] 23)) = U at *
  refine (H1.out _).mono ?_; rintro e w1 ⟨rfl, hb1⟩
  have l0 := (hb1.cell (p := ⟨w.heap.size, 0, none⟩) (blt k0)).trans k0
  have l1 := (hb1.cell (p := ⟨w.heap.size, 1, none⟩) (blt k1)).trans k1
  have l2 := (hb1.cell (p := ⟨w.heap.size, 2, none⟩) (blt k2)).trans k2
  have HB := Lib.hid (btr HA.out hb1)
  clear k0 k1 k2 HA hb1
  go_wp2_with fail
  have u0 : Below w1.heap.size w1 w1 := Below.refl _ w1
  have MK := Lib.hid (show ∀ w', Below w1.heap.size w1 w' → w'.cell? ⟨w.heap.size, 0, none⟩ = some (.int .i64 (kn : Int)) ∧ w'.cell? ⟨w.heap.size, 1, none⟩ = some (.int .i64 (st : Int)) ∧ w'.cell? ⟨w.heap.size, 2, none⟩ = some (.string s) ∧ Below w1.heap.size w1 w' from
    (fun w' h => ⟨(h.cell (p := ⟨w.heap.size, 0, none⟩) (blt l0)).trans l0, (h.cell (p := ⟨w.heap.size, 1, none⟩) (blt l0)).trans l1, (h.cell (p := ⟨w.heap.size, 2, none⟩) (blt l0)).trans l2, h⟩))
  refine wp_region_held_drew (S := (fun w' => w'.cell? ⟨w.heap.size, 0, none⟩ = some (.int .i64 (kn : Int)) ∧ w'.cell? ⟨w.heap.size, 1, none⟩ = some (.int .i64 (st : Int)) ∧ w'.cell? ⟨w.heap.size, 2, none⟩ = some (.string s) ∧ Below w1.heap.size w1 w')) (by kernel_rfl) ?_ (fun hHeld => ?_)
  · (first | with_reducible assumption | exact MK.out _ (by with_reducible assumption) | exact MK.out _ (below_drew (by with_reducible assumption)))
  refine takeH (i := 0) (some 7) (v := ?_) rfl rfl (by kernel_rfl) (by kernel_rfl) (by kernel_rfl) (fun _ _ _ h => h) (Or.inl ⟨by rfl, ?hy0⟩) hHeld ?rest0
  case hy0 => (intro w hSw; (try dsimp only at hSw); go_simp; (try with_reducible rfl))
  try simp only [Act.put, List.setIfInBounds_toArray, List.set_cons_zero, List.set_cons_succ]
  refine takeH (i := 1) (some 8) (v := ?_) rfl rfl (by kernel_rfl) (by kernel_rfl) (by kernel_rfl) (fun _ _ _ h => h) (Or.inl ⟨by rfl, ?hy1⟩) hHeld ?rest1
  case hy1 => (intro w hSw; (try dsimp only at hSw); go_simp; (try with_reducible rfl))
  try simp only [Act.put, List.setIfInBounds_toArray, List.set_cons_zero, List.set_cons_succ]
  refine takeH (i := 2) (some 9) (v := ?_) rfl rfl (by kernel_rfl) (by kernel_rfl) (by kernel_rfl) (fun _ _ _ h => h) (Or.inl ⟨by rfl, ?hy2⟩) hHeld ?rest2
  case hy2 => (intro w hSw; (try dsimp only at hSw); go_simp; (try with_reducible rfl))
  try simp only [Act.put, List.setIfInBounds_toArray, List.set_cons_zero, List.set_cons_succ]
  refine takeH (i := 5) (some 12) (v := ?_) rfl rfl (by kernel_rfl) (by kernel_rfl) (by kernel_rfl) (fun _ _ _ h => h) (Or.inl ⟨by rfl, ?hy5⟩) hHeld ?rest5
  case hy5 => (intro w hSw; (try dsimp only at hSw); go_simp; (try with_reducible rfl))
  try simp only [Act.put, List.setIfInBounds_toArray, List.set_cons_zero, List.set_cons_succ]
  refine takeH (i := 6) (some 13) (v := ?_) rfl rfl (by kernel_rfl) (by kernel_rfl) (by kernel_rfl) (fun _ _ _ h => h) (Or.inl ⟨by rfl, ?hy6⟩) hHeld ?rest6
  case hy6 => (intro w hSw; (try dsimp only at hSw); go_simp; (try with_reducible rfl))
  try simp only [Act.put, List.setIfInBounds_toArray, List.set_cons_zero, List.set_cons_succ]
  refine takeH (i := 9) (some 16) (v := ?_) rfl rfl (by kernel_rfl) (by kernel_rfl) (by kernel_rfl) (fun _ _ _ h => h) (Or.inl ⟨by rfl, ?hy9⟩) hHeld ?rest9
  case hy9 => (intro w hSw; (try dsimp only at hSw); go_simp; (try with_reducible rfl))
  try simp only [Act.put, List.setIfInBounds_toArray, List.set_cons_zero, List.set_cons_succ]
  refine takeH (i := 10) (some 17) (v := ?_) rfl rfl (by kernel_rfl) (by kernel_rfl) (by kernel_rfl) (fun _ _ _ h => h) (Or.inl ⟨by rfl, ?hy10⟩) hHeld ?rest10
  case hy10 => (intro w hSw; (try dsimp only at hSw); go_simp; (try with_reducible rfl))
  try simp only [Act.put, List.setIfInBounds_toArray, List.set_cons_zero, List.set_cons_succ]
  refine takeH (i := 11) (some 18) (v := ?_) rfl rfl (by kernel_rfl) (by kernel_rfl) (by kernel_rfl) (fun _ _ _ h => h) (Or.inl ⟨by rfl, ?hy11⟩) hHeld ?rest11
  case hy11 => (intro w hSw; (try dsimp only at hSw); go_simp; (try with_reducible rfl))
  try simp only [Act.put, List.setIfInBounds_toArray, List.set_cons_zero, List.set_cons_succ]
  refine takeH (i := 14) (some 21) (v := ?_) rfl rfl (by kernel_rfl) (by kernel_rfl) (by kernel_rfl) (fun _ _ _ h => h) (Or.inl ⟨by rfl, ?hy14⟩) hHeld ?rest14
  case hy14 => (intro w hSw; (try dsimp only at hSw); go_simp; (try with_reducible rfl))
  try simp only [Act.put, List.setIfInBounds_toArray, List.set_cons_zero, List.set_cons_succ]
  refine takeH (i := 15) (some 22) (v := ?_) rfl rfl (by kernel_rfl) (by kernel_rfl) (by kernel_rfl) (fun _ _ _ h => h) (Or.inl ⟨by rfl, ?hy15⟩) hHeld ?rest15
  case hy15 => (intro w hSw; (try dsimp only at hSw); go_simp; (try with_reducible rfl))
  try simp only [Act.put, List.setIfInBounds_toArray, List.set_cons_zero, List.set_cons_succ]
  refine wpAnyH_ready (rs := [3, 7]) (by kernel_rfl) (by simp) ?_
  refine AllReadyH.cons rfl (fun K hK => ?_) ?_
  · go_simp
    have c0 : ((w1.alloc (.cells #[.int .u8 (IntKind.u8.wrap (kn : Int))] 5)).drew).cell? ⟨w1.heap.size, 0, none⟩ = some (.int .u8 (IntKind.u8.wrap (kn : Int))) := by go_simp
    have sV : Below w1.heap.size w1 ((w1.alloc (.cells #[.int .u8 (IntKind.u8.wrap (kn : Int))] 5)).drew) := below_drew (bal (Below.refl _ w1) _)
    generalize ((w1.alloc (.cells #[.int .u8 (IntKind.u8.wrap (kn : Int))] 5)).drew) = V at *
    rw [E8.out] at c0
    refine hK.out _ _ (MK.out _ sV) (fun hHeld2 => ?_)
    clear hK K hHeld hHeld2
    try simp only [Act.put, List.setIfInBounds_toArray, List.set_cons_zero, List.set_cons_succ]
    have MK2 := Lib.hid (show ∀ w', Below V.heap.size V w' → (w'.cell? ⟨w1.heap.size, 0, none⟩ = some (.int .u8 (kn : Int)) ∧ Below V.heap.size V w') from fun w' h => ⟨(h.cell (p := ⟨w1.heap.size, 0, none⟩) (blt c0)).trans c0, h⟩)
    have hHeld := MK2.out V (Below.refl _ V)
    refine wpAnyH_narrow (S2 := fun w' => w'.cell? ⟨w1.heap.size, 0, none⟩ = some (.int .u8 (kn : Int)) ∧ Below V.heap.size V w') (fun w' h => MK.out w' (btr sV h.2)) _ _ _ _ ?_
    clear c0
    refine takeH (i := 4) (some 11) (v := ?_) rfl rfl (by kernel_rfl) (by kernel_rfl) (by kernel_rfl) (fun _ _ _ h => h) (Or.inl ⟨by rfl, ?hyac4⟩) hHeld ?restac4
    case hyac4 => (intro w hSw; (try dsimp only at hSw); have hcv := HC.out _ w hSw.1; go_simp; (try with_reducible rfl))
    try simp only [Act.put, List.setIfInBounds_toArray, List.set_cons_zero, List.set_cons_succ]
    refine wpAnyH_ready (rs := [7]) (by kernel_rfl) (by simp) ?_
    refine AllReadyH.cons rfl (fun K hK => ?_) ?_
    · go_simp
      go_at_call 27; with_reducible refine (HP1.out _).mono ?_; rintro e wn ⟨rfl, pB⟩; have sB := btr hHeld.2 pB; clear pB hHeld
      refine hK.out _ _ ?_ (fun hHeld => ?_)
      · exact MK2.out _ sB
      clear hK K sB
      try simp only [Act.put, List.setIfInBounds_toArray, List.set_cons_zero, List.set_cons_succ]
      refine takeH (i := 8) (some 15) (v := ?_) rfl rfl (by kernel_rfl) (by kernel_rfl) (by kernel_rfl) (fun _ _ _ h => h) (Or.inl ⟨by rfl, ?hyacd8⟩) hHeld ?restacd8
      case hyacd8 => (intro w hSw; (try dsimp only at hSw); go_simp; (try with_reducible rfl))
      try simp only [Act.put, List.setIfInBounds_toArray, List.set_cons_zero, List.set_cons_succ]
      refine wpAnyH_ready (rs := [12]) (by kernel_rfl) (by simp) ?_
      refine AllReadyH.cons rfl (fun K hK => ?_) ?_
      · go_simp
        go_at_call 27; with_reducible refine (HP2.out _).mono ?_; rintro e wn ⟨rfl, pB⟩; have sB := btr hHeld.2 pB; clear pB hHeld
        refine hK.out _ _ ?_ (fun hHeld => ?_)
        · exact MK2.out _ sB
        clear hK K sB
        try simp only [Act.put, List.setIfInBounds_toArray, List.set_cons_zero, List.set_cons_succ]
        refine takeH (i := 13) (some 20) (v := ?_) rfl rfl (by kernel_rfl) (by kernel_rfl) (by kernel_rfl) (fun _ _ _ h => h) (Or.inl ⟨by rfl, ?hyacde13⟩) hHeld ?restacde13
        case hyacde13 => (intro w hSw; (try dsimp only at hSw); go_simp; (try with_reducible rfl))
        try simp only [Act.put, List.setIfInBounds_toArray, List.set_cons_zero, List.set_cons_succ]
        refine takeH (i := 16) (some 23) (v := ?_) rfl rfl (by kernel_rfl) (by kernel_rfl) (by kernel_rfl) (fun _ _ _ h => h) (Or.inl ⟨by rfl, ?hyacde16⟩) hHeld ?restacde16
        case hyacde16 => (intro w hSw; (try dsimp only at hSw); go_simp; (try rw [if_neg HN.out]); (try with_reducible rfl))
        try simp only [Act.put, List.setIfInBounds_toArray, List.set_cons_zero, List.set_cons_succ]
        refine takeH (i := 17) (some 2) (v := ?_) rfl rfl (by kernel_rfl) (by kernel_rfl) (by kernel_rfl) (fun _ _ _ h => h) (Or.inl ⟨by rfl, ?hyacde17⟩) hHeld ?restacde17
        case hyacde17 => (intro w hSw; (try dsimp only at hSw); go_simp; (try with_reducible rfl))
        try simp only [Act.put, List.setIfInBounds_toArray, List.set_cons_zero, List.set_cons_succ]
        refine takeH (i := 18) (some 3) (v := ?_) rfl rfl (by kernel_rfl) (by kernel_rfl) (by kernel_rfl) (fun _ _ _ h => h) (Or.inl ⟨by rfl, ?hyacde18⟩) hHeld ?restacde18
        case hyacde18 => (intro w hSw; (try dsimp only at hSw); go_simp; (try with_reducible rfl))
        try simp only [Act.put, List.setIfInBounds_toArray, List.set_cons_zero, List.set_cons_succ]
        refine wpAnyH_done (by kernel_rfl) ?_ _
        go_wp2
        go_ret2
        exact ⟨rfl, btr HB.out (btr sV hHeld.2)⟩
      exact AllReadyH.nil
    exact AllReadyH.nil
  refine AllReadyH.cons rfl (fun K hK => ?_) ?_
  · go_simp
    go_at_call 27; with_reducible refine (HP1.out _).mono ?_; rintro e wn ⟨rfl, pB⟩; have sB := btr hHeld.2.2.2 pB; clear pB hHeld
    refine hK.out _ _ ?_ (fun hHeld => ?_)
    · exact MK.out _ sB
    clear hK K sB
    try simp only [Act.put, List.setIfInBounds_toArray, List.set_cons_zero, List.set_cons_succ]
    refine wpAnyH_ready (rs := [3, 12]) (by kernel_rfl) (by simp) ?_
    refine AllReadyH.cons rfl (fun K hK => ?_) ?_
    · go_simp
      have c0 : (wn.alloc (.cells #[.int .u8 (IntKind.u8.wrap (kn : Int))] 5)).cell? ⟨wn.heap.size, 0, none⟩ = some (.int .u8 (IntKind.u8.wrap (kn : Int))) := by go_simp
      have sV : Below w1.heap.size w1 (wn.alloc (.cells #[.int .u8 (IntKind.u8.wrap (kn : Int))] 5)) := bal hHeld.2.2.2 _
      generalize (wn.alloc (.cells #[.int .u8 (IntKind.u8.wrap (kn : Int))] 5)) = V at *
      rw [E8.out] at c0
      refine hK.out _ _ (MK.out _ sV) (fun hHeld2 => ?_)
      clear hK K hHeld hHeld2
      try simp only [Act.put, List.setIfInBounds_toArray, List.set_cons_zero, List.set_cons_succ]
      have MK2 := Lib.hid (show ∀ w', Below V.heap.size V w' → (w'.cell? ⟨wn.heap.size, 0, none⟩ = some (.int .u8 (kn : Int)) ∧ Below V.heap.size V w') from fun w' h => ⟨(h.cell (p := ⟨wn.heap.size, 0, none⟩) (blt c0)).trans c0, h⟩)
      have hHeld := MK2.out V (Below.refl _ V)
      refine wpAnyH_narrow (S2 := fun w' => w'.cell? ⟨wn.heap.size, 0, none⟩ = some (.int .u8 (kn : Int)) ∧ Below V.heap.size V w') (fun w' h => MK.out w' (btr sV h.2)) _ _ _ _ ?_
      clear c0
      refine takeH (i := 4) (some 11) (v := ?_) rfl rfl (by kernel_rfl) (by kernel_rfl) (by kernel_rfl) (fun _ _ _ h => h) (Or.inl ⟨by rfl, ?hyadc4⟩) hHeld ?restadc4
      case hyadc4 => (intro w hSw; (try dsimp only at hSw); have hcv := HC.out _ w hSw.1; go_simp; (try with_reducible rfl))
      try simp only [Act.put, List.setIfInBounds_toArray, List.set_cons_zero, List.set_cons_succ]
      refine takeH (i := 8) (some 15) (v := ?_) rfl rfl (by kernel_rfl) (by kernel_rfl) (by kernel_rfl) (fun _ _ _ h => h) (Or.inl ⟨by rfl, ?hyadc8⟩) hHeld ?restadc8
      case hyadc8 => (intro w hSw; (try dsimp only at hSw); go_simp; (try with_reducible rfl))
      try simp only [Act.put, List.setIfInBounds_toArray, List.set_cons_zero, List.set_cons_succ]
      refine wpAnyH_ready (rs := [12]) (by kernel_rfl) (by simp) ?_
      refine AllReadyH.cons rfl (fun K hK => ?_) ?_
      · go_simp
        go_at_call 27; with_reducible refine (HP2.out _).mono ?_; rintro e wn ⟨rfl, pB⟩; have sB := btr hHeld.2 pB; clear pB hHeld
        refine hK.out _ _ ?_ (fun hHeld => ?_)
        · exact MK2.out _ sB
        clear hK K sB
        try simp only [Act.put, List.setIfInBounds_toArray, List.set_cons_zero, List.set_cons_succ]
        refine takeH (i := 13) (some 20) (v := ?_) rfl rfl (by kernel_rfl) (by kernel_rfl) (by kernel_rfl) (fun _ _ _ h => h) (Or.inl ⟨by rfl, ?hyadce13⟩) hHeld ?restadce13
        case hyadce13 => (intro w hSw; (try dsimp only at hSw); go_simp; (try with_reducible rfl))
        try simp only [Act.put, List.setIfInBounds_toArray, List.set_cons_zero, List.set_cons_succ]
        refine takeH (i := 16) (some 23) (v := ?_) rfl rfl (by kernel_rfl) (by kernel_rfl) (by kernel_rfl) (fun _ _ _ h => h) (Or.inl ⟨by rfl, ?hyadce16⟩) hHeld ?restadce16
        case hyadce16 => (intro w hSw; (try dsimp only at hSw); go_simp; (try rw [if_neg HN.out]); (try with_reducible rfl))
        try simp only [Act.put, List.setIfInBounds_toArray, List.set_cons_zero, List.set_cons_succ]
        refine takeH (i := 17) (some 2) (v := ?_) rfl rfl (by kernel_rfl) (by kernel_rfl) (by kernel_rfl) (fun _ _ _ h => h) (Or.inl ⟨by rfl, ?hyadce17⟩) hHeld ?restadce17
        case hyadce17 => (intro w hSw; (try dsimp only at hSw); go_simp; (try with_reducible rfl))
        try simp only [Act.put, List.setIfInBounds_toArray, List.set_cons_zero, List.set_cons_succ]
        refine takeH (i := 18) (some 3) (v := ?_) rfl rfl (by kernel_rfl) (by kernel_rfl) (by kernel_rfl) (fun _ _ _ h => h) (Or.inl ⟨by rfl, ?hyadce18⟩) hHeld ?restadce18
        case hyadce18 => (intro w hSw; (try dsimp only at hSw); go_simp; (try with_reducible rfl))
        try simp only [Act.put, List.setIfInBounds_toArray, List.set_cons_zero, List.set_cons_succ]
        refine wpAnyH_done (by kernel_rfl) ?_ _
        go_wp2
        go_ret2
        exact ⟨rfl, btr HB.out (btr sV hHeld.2)⟩
      exact AllReadyH.nil
    refine AllReadyH.cons rfl (fun K hK => ?_) ?_
    · go_simp
      go_at_call 27; with_reducible refine (HP2.out _).mono ?_; rintro e wn ⟨rfl, pB⟩; have sB := btr hHeld.2.2.2 pB; clear pB hHeld
      refine hK.out _ _ ?_ (fun hHeld => ?_)
      · exact MK.out _ sB
      clear hK K sB
      try simp only [Act.put, List.setIfInBounds_toArray, List.set_cons_zero, List.set_cons_succ]
      refine wpAnyH_ready (rs := [3]) (by kernel_rfl) (by simp) ?_
      refine AllReadyH.cons rfl (fun K hK => ?_) ?_
      · go_simp
        have c0 : (wn.alloc (.cells #[.int .u8 (IntKind.u8.wrap (kn : Int))] 5)).cell? ⟨wn.heap.size, 0, none⟩ = some (.int .u8 (IntKind.u8.wrap (kn : Int))) := by go_simp
        have sV : Below w1.heap.size w1 (wn.alloc (.cells #[.int .u8 (IntKind.u8.wrap (kn : Int))] 5)) := bal hHeld.2.2.2 _
        generalize (wn.alloc (.cells #[.int .u8 (IntKind.u8.wrap (kn : Int))] 5)) = V at *
        rw [E8.out] at c0
        refine hK.out _ _ (MK.out _ sV) (fun hHeld2 => ?_)
        clear hK K hHeld hHeld2
        try simp only [Act.put, List.setIfInBounds_toArray, List.set_cons_zero, List.set_cons_succ]
        have MK2 := Lib.hid (show ∀ w', Below V.heap.size V w' → (w'.cell? ⟨wn.heap.size, 0, none⟩ = some (.int .u8 (kn : Int)) ∧ Below V.heap.size V w') from fun w' h => ⟨(h.cell (p := ⟨wn.heap.size, 0, none⟩) (blt c0)).trans c0, h⟩)
        have hHeld := MK2.out V (Below.refl _ V)
        refine wpAnyH_narrow (S2 := fun w' => w'.cell? ⟨wn.heap.size, 0, none⟩ = some (.int .u8 (kn : Int)) ∧ Below V.heap.size V w') (fun w' h => MK.out w' (btr sV h.2)) _ _ _ _ ?_
        clear c0
        refine takeH (i := 4) (some 11) (v := ?_) rfl rfl (by kernel_rfl) (by kernel_rfl) (by kernel_rfl) (fun _ _ _ h => h) (Or.inl ⟨by rfl, ?hyadec4⟩) hHeld ?restadec4
        case hyadec4 => (intro w hSw; (try dsimp only at hSw); have hcv := HC.out _ w hSw.1; go_simp; (try with_reducible rfl))
        try simp only [Act.put, List.setIfInBounds_toArray, List.set_cons_zero, List.set_cons_succ]
        refine takeH (i := 8) (some 15) (v := ?_) rfl rfl (by kernel_rfl) (by kernel_rfl) (by kernel_rfl) (fun _ _ _ h => h) (Or.inl ⟨by rfl, ?hyadec8⟩) hHeld ?restadec8
        case hyadec8 => (intro w hSw; (try dsimp only at hSw); go_simp; (try with_reducible rfl))
        try simp only [Act.put, List.setIfInBounds_toArray, List.set_cons_zero, List.set_cons_succ]
        refine takeH (i := 13) (some 20) (v := ?_) rfl rfl (by kernel_rfl) (by kernel_rfl) (by kernel_rfl) (fun _ _ _ h => h) (Or.inl ⟨by rfl, ?hyadec13⟩) hHeld ?restadec13
        case hyadec13 => (intro w hSw; (try dsimp only at hSw); go_simp; (try with_reducible rfl))
        try simp only [Act.put, List.setIfInBounds_toArray, List.set_cons_zero, List.set_cons_succ]
        refine takeH (i := 16) (some 23) (v := ?_) rfl rfl (by kernel_rfl) (by kernel_rfl) (by kernel_rfl) (fun _ _ _ h => h) (Or.inl ⟨by rfl, ?hyadec16⟩) hHeld ?restadec16
        case hyadec16 => (intro w hSw; (try dsimp only at hSw); go_simp; (try rw [if_neg HN.out]); (try with_reducible rfl))
        try simp only [Act.put, List.setIfInBounds_toArray, List.set_cons_zero, List.set_cons_succ]
        refine takeH (i := 17) (some 2) (v := ?_) rfl rfl (by kernel_rfl) (by kernel_rfl) (by kernel_rfl) (fun _ _ _ h => h) (Or.inl ⟨by rfl, ?hyadec17⟩) hHeld ?restadec17
        case hyadec17 => (intro w hSw; (try dsimp only at hSw); go_simp; (try with_reducible rfl))
        try simp only [Act.put, List.setIfInBounds_toArray, List.set_cons_zero, List.set_cons_succ]
        refine takeH (i := 18) (some 3) (v := ?_) rfl rfl (by kernel_rfl) (by kernel_rfl) (by kernel_rfl) (fun _ _ _ h => h) (Or.inl ⟨by rfl, ?hyadec18⟩) hHeld ?restadec18
        case hyadec18 => (intro w hSw; (try dsimp only at hSw); go_simp; (try with_reducible rfl))
        try simp only [Act.put, List.setIfInBounds_toArray, List.set_cons_zero, List.set_cons_succ]
        refine wpAnyH_done (by kernel_rfl) ?_ _
        go_wp2
        go_ret2
        exact ⟨rfl, btr HB.out (btr sV hHeld.2)⟩
      exact AllReadyH.nil
    exact AllReadyH.nil
  exact AllReadyH.nil
end Go.Proofs.YtdcnpcdohgecbaaDoor
