/- slices.All at an address's bytes: the iterator's contract. -/
import Derived.Test.YtlnjalhlbfbjcaaGreatDoorI
namespace Go.Proofs.YtlnjalhlbfbjcaaGreatDoor
open Go.RowKit Go.Shelf
attribute [local go_sem] Oper.semAt_some

section
variable {F : Fence} {n : Nat} {P : Program} {b : Frame} {a : Act} {k : List Item} {cs : List Frame} {w : World} {Q : Exit → Act → World → Prop}

theorem stepR_scope {c : Code} : step P (lone (b.atR a (.code (.scope c) :: k)) cs w) = .next (lone (b.atR a (.code c :: .inScope c :: k)) cs w) :=
  step_lone_go (by simp [stepG, stepG.exec, Frame.atR])
theorem stepR_inScope {c : Code} : step P (lone (b.atR a (.inScope c :: k)) cs w) = .next (lone (b.atR a k) cs w) :=
  step_lone_go (by simp [stepG, stepG.exec, Frame.atR])

/-- A scope through which the run goes without a goto, inside a fence. -/
theorem wpIn_scope_straight {c : Code} (h : c.wpIn F n P (Exit.noGoto Q) a w) : (Code.scope c).wpIn F n P Q a w := by
  intro b k cs hro hb hr
  have h0 : (lone (b.atR a (.code (.scope c) :: k)) cs w).fenced P F := fenced_calm hb hr rfl
  obtain ⟨e, a₁, w₁, hq, harr⟩ := h b (.inScope c :: k) cs hro hb hr
  cases e with
  | normal => exact ⟨.normal, a₁, w₁, hq, .head h0 stepR_scope (StepsIn.trans harr (.one (fenced_calm hb hr rfl) stepR_inScope))⟩
  | exit id =>
    have hx : exitTo id (.inScope c :: k) = exitTo id k := by simp [exitTo]
    exact ⟨.exit id, a₁, w₁, hq, fun k' hk => .head h0 stepR_scope (harr.1 k' (by rw [hx]; exact hk)),
      fun hr' hk => let ⟨k₁, h1, h2⟩ := harr.2 hr' (by rw [hx]; exact hk); ⟨k₁, h1, .head h0 stepR_scope h2⟩⟩
  | goto l => exact hq.elim
  | ret => exact ⟨_, a₁, w₁, hq, .of_steps (.one h0 stepR_scope) harr⟩
  | panic ch => exact ⟨_, a₁, w₁, hq, .of_steps (.one h0 stepR_scope) harr⟩
  | outgrown => exact ⟨_, a₁, w₁, hq, .of_steps (.one h0 stepR_scope) harr⟩
end

/-- A byte of an address, and its place. -/
structure Bt where
  i : Nat
  v : Nat
  hi : i ≤ 3
  hv : v ≤ 255
def encB (x : Bt) : Array Value := #[.int .i64 (x.i : Int), .int .u8 (x.v : Int)]
def BtsAt (ab : Nat) (W : World) (zs : List Bt) : Prop := ∀ k, (h : k < zs.length) → W.cell? ⟨ab, k, none⟩ = some (.int .u8 (zs[k].v : Int)) ∧ zs[k].i = k
theorem BtsAt.below {ab n₀ : Nat} {W W' : World} {zs : List Bt} (h : BtsAt ab W zs) (hb : ab < n₀) (k : Below n₀ W W') : BtsAt ab W' zs := fun j hj => ⟨(k.cell (p := ⟨ab, j, none⟩) hb).trans (h j hj).1, (h j hj).2⟩
theorem take_snocB (l : List Bt) (k : Nat) (h : k < l.length) : l.take (k + 1) = l.take k ++ [l[k]] := List.take_succ_eq_append_getElem h

set_option maxRecDepth 100000 in
set_option maxHeartbeats 1000000 in
theorem all1_in (F : Fence) (n : Nat) (h56 : F.fn 77) (hro : F.round = none) (hn : 1 ≤ n) (l Bs n₀ ab cap : Nat) (zs : List Bt) (hlen : zs.length ≤ 1000) (J Jx : List Bt → World → Prop)
    (hY : ∀ pre x W, J pre W → pre.length < zs.length → YieldAt F (n - 1) Tryz.prog l (encB x) W fun e W' =>
      (e = .returned (.bool true) ∧ J (pre ++ [x]) W' ∧ Below n₀ W W') ∨ (e = .returned (.bool false) ∧ Jx (pre ++ [x]) W'))
    (W : World) (hBs : W.cell? ⟨Bs, 0, none⟩ = some (.slice (some ⟨ab, 0, none⟩) zs.length cap)) (hab : ab < n₀) (hI : BtsAt ab W zs) (h0 : J [] W) :
    CallsIn F n Tryz.prog 77 #[.func (.yield l) #[] #[], .pointer (some ⟨Bs, 0, none⟩)] W fun e W' => (∃ v, e = .returned v) ∧
      ((∃ ys, ys = zs ∧ J ys W') ∨ (∃ pre, pre <+: zs ∧ Jx pre W')) := by
  generalize hL : zs.length = L at *
  have HI := Lib.hid hI
  clear hI
  refine callsIn_of_wp Tryz.func77 rfl h56 ?_ hro
  simp only [Tryz.ntmps77, List.size_toArray, List.length_cons, List.length_nil, Nat.reduceAdd, Nat.reduceSub, Array.replicate_succ, Array.replicate_zero, List.push_toArray, List.append_toArray, List.nil_append, List.cons_append]
  gi_wp2
  gi_loopw [7] (fun i wr => ∃ k : Nat, k ≤ L ∧ i = .int .i64 k ∧ J (zs.take k) wr ∧ Below n₀ W wr)
    (fun i _ => L - (intOf i).toNat)
  case atStart => exact ⟨0, Nat.zero_le _, rfl, h0, Below.refl _ _⟩
  case round =>
    obtain ⟨k, hk, rfl, hJs, hnx⟩ := hrel
    by_cases hlt : k < L
    · have hlt' : k < zs.length := by omega
      obtain ⟨hc, hi⟩ := (HI.out.below hab hnx) k hlt'
      obtain ⟨fn, tmps, assign, body, hy, hR⟩ := hY _ zs[k] wr hJs (by rw [List.length_take, hL]; omega)
      have Hnx := Lib.hid hnx
      have HJ := Lib.hid (take_snocB zs k hlt')
      generalize zs[k] = x at *
      simp only [encB, hi] at hy
      have hv := x.hv
      clear hnx hlt'
      gi_wp2
      refine hR.mono ?_
      rintro e W3 (⟨rfl, hJ3, hk3⟩ | ⟨rfl, hJx3⟩)
      · gi_wp2
        go_roundw
        case rel => exact ⟨k + 1, by omega, by simp, by rw [HJ.out]; exact hJ3, Hnx.out.trans hk3⟩
        case measure => simp [intOf]; omega
      · gi_wp2
        refine bodyPost_ret (results_none rfl _ _ _) rfl ?_
        exact ⟨⟨_, rfl⟩, .inr ⟨_, by rw [← HJ.out]; exact List.take_prefix _ _, hJx3⟩⟩
    · obtain rfl : k = L := by omega
      gi_wp2
      go_end0
      exact ⟨⟨_, rfl⟩, .inl ⟨_, by rw [← hL, List.take_length], hJs⟩⟩

theorem all_stops (F : Fence) (n : Nat) (h56 : F.fn 77) (hro : F.round = none) (hn : 1 ≤ n) (Bs n₀ ab cap : Nat) (zs : List Bt) (hlen : zs.length ≤ 1000) (w : World) (hn₀ : n₀ ≤ w.heap.size)
    (hc : w.cell? ⟨Bs, 0, none⟩ = some (.slice (some ⟨ab, 0, none⟩) zs.length cap)) (hab : ab < n₀) (hI : BtsAt ab w zs) :
    SeqStopsK F n Tryz.prog 77 #[.pointer (some ⟨Bs, 0, none⟩)] encB (Below n₀) (fun ys => ys = zs) (fun pre => pre <+: zs) zs.length w := fun l J Jx W hW _ _ hY h0 =>
  all1_in F n h56 hro hn l Bs n₀ ab cap zs hlen J Jx hY W ((hW.cell (p := ⟨Bs, 0, none⟩) (blt hc)).trans hc) hab (hI.below hab (hW.mono hn₀)) h0
theorem slicesAll_c (a : Option Addr) (len cap : Nat) (w : World) : Calls Tryz.prog 65 #[.slice a len cap] w fun x w' => x = .returned (.func (.func 77) #[] #[.pointer (some ⟨w.heap.size, 0, none⟩)]) ∧ w' = w.alloc (.cells #[.slice a len cap] 112) := by
  go_enter Tryz.func65, Tryz.ntmps65
  go_wp2
  go_ret
  exact ⟨rfl, rfl⟩

theorem itoa_tab : ((List.range 256).all fun v => decide ((Lib.itoa (v : Int)).length ≤ 3)) = true := by decide +kernel
theorem itoa_len (v : Nat) (h : v < 256) : (Lib.itoa (v : Int)).length ≤ 3 := by
  have := List.all_eq_true.1 itoa_tab v (List.mem_range.2 h)
  simpa using this
theorem snoc_indB {α : Type} {p : List α → Prop} (h0 : p []) (h1 : ∀ l x, p l → p (l ++ [x])) (l : List α) : p l := by
  have h : ∀ r : List α, p r.reverse := fun r => by
    induction r with
    | nil => exact h0
    | cons x r ih => rw [List.reverse_cons]; exact h1 _ _ ih
  have := h l.reverse
  rwa [List.reverse_reverse] at this

/-- An address's text. -/
def txt (l : List Bt) : List UInt8 := l.foldl (fun s x => s ++ Lib.itoa x.v ++ (if x.i = 3 then [] else [46])) []
theorem txt_snoc (l : List Bt) (x : Bt) : txt (l ++ [x]) = txt l ++ Lib.itoa x.v ++ (if x.i = 3 then [] else [46]) := by simp [txt]
def btsOf (a : Nat) : List Bt := [⟨0, a / 16777216 % 256, by omega, by omega⟩, ⟨1, a / 65536 % 256, by omega, by omega⟩, ⟨2, a / 256 % 256, by omega, by omega⟩, ⟨3, a % 256, by omega, by omega⟩]

theorem txt_len {l : List Bt} : (txt l).length ≤ 4 * l.length := by
  refine snoc_indB (p := fun l => (txt l).length ≤ 4 * l.length) (by simp [txt]) (fun l x ih => ?_) l
  have h := itoa_len x.v (by have := x.hv; omega)
  rw [txt_snoc, List.length_append, List.length_append, List.length_append]
  simp only [List.length_singleton]
  split <;> simp only [List.length_nil, List.length_singleton] <;> omega
theorem bts_last {a : Nat} {q : List Bt} {x : Bt} (h : q ++ [x] <+: btsOf a) (hx : x.i = 3) : q ++ [x] = btsOf a := by
  obtain ⟨r, hr⟩ := h
  unfold btsOf at hr ⊢
  match q, hr with
  | [], hr => simp only [List.nil_append, List.singleton_append, List.cons.injEq] at hr; rw [hr.1] at hx; simp at hx
  | [y0], hr => simp only [List.cons_append, List.nil_append, List.cons.injEq] at hr; rw [hr.2.1] at hx; simp at hx
  | [y0, y1], hr => simp only [List.cons_append, List.nil_append, List.cons.injEq] at hr; rw [hr.2.2.1] at hx; simp at hx
  | [y0, y1, y2], hr =>
    simp only [List.cons_append, List.nil_append, List.cons.injEq] at hr
    obtain ⟨h0, h1, h2, h3, h4⟩ := hr
    subst h0 h1 h2 h3
    rfl
  | y0 :: y1 :: y2 :: y3 :: q', hr =>
    simp only [List.cons_append, List.cons.injEq] at hr
    have := congrArg List.length hr.2.2.2.2
    simp at this
theorem below_grow (W : World) (k : Nat) (os : Array Obj) : Below W.heap.size W (Sort.grow (W.drewN k) os) :=
  ⟨rfl, rfl, rfl, by show W.heap.size ≤ (W.heap ++ os).size; rw [Array.size_append]; omega, fun i hi => by show (W.heap ++ os)[i]? = _; exact Array.getElem?_append_left hi⟩
def Tabs (w : World) : Prop := Lib.TabIs Tryz.prog w "internal/strconv.uint64pow10" .u64 Lib.pow10Tab
theorem gTab : Tryz.prog.globalNamed "internal/strconv.uint64pow10" = some 2 := by kernel_rfl
theorem Tabs.on {a w : World} (h : Tabs a) (b : Below a.heap.size a w) : Tabs w := by
  unfold Tabs Lib.TabIs World.var? at h ⊢
  rw [gTab] at h ⊢
  simp only [Option.bind_some] at h ⊢
  have hl : 2 < a.heap.size := by
    rcases Nat.lt_or_ge 2 a.heap.size with e | e
    · exact e
    · have : a.heap[2]? = none := Array.getElem?_eq_none e
      rw [this] at h; cases h
  rw [b.block 2 hl]; exact h

theorem itoa_c (n : Int) (h0 : 0 ≤ n) (h1 : n ≤ 100000) (W : World) (hT : Tabs W) : Calls Tryz.prog 22 #[.int .i64 n] W fun e w' => e = .returned (.string ⟨(Lib.itoa n).toArray⟩) ∧ Below W.heap.size W w' := by
  refine (Tryz.strconv_Itoa n (by omega) (by omega) W hT).mono ?_
  rintro e w' ⟨rfl, k, os, rfl⟩
  exact ⟨rfl, below_grow W k os⟩

theorem bytes_append (l m : List UInt8) : (⟨l.toArray⟩ : ByteArray) ++ (⟨m.toArray⟩ : ByteArray) = ⟨(l ++ m).toArray⟩ := by
  apply ByteArray.ext
  simp
theorem keeps_of_below {W W' : World} (h : Below W.heap.size W W') : KeepsOthers W W' := ⟨h.size, fun k _ hk _ => (h.block k (Array.getElem?_eq_some_iff.1 hk).1).trans hk⟩

set_option maxRecDepth 100000 in
set_option maxHeartbeats 4000000 in
theorem text_in (a : Nat) (ha : a ≤ 4294967295) (w : World) (hT : Tabs w) :
    CallsIn Fence.wide 5 Tryz.prog 48 #[.int .i64 (a : Int)] w fun x w' => x = .returned (.string ⟨(txt (btsOf a)).toArray⟩) ∧ Below w.heap.size w w' := by
  have h49 : Fence.wide.fn 65 := trivial
  have h39 : Fence.wide.fn 22 := trivial
  have H49 := Lib.hid (fun a l c W => slicesAll_c a l c W)
  refine callsIn_of_wp_marks Tryz.func48 rfl trivial ?_ rfl
  simp only [Tryz.ntmps48, List.size_toArray, List.length_cons, List.length_nil, Nat.reduceAdd, Nat.reduceSub, Array.replicate_succ, Array.replicate_zero, List.push_toArray, List.append_toArray, List.nil_append, List.cons_append]
  gi_wp2
  refine wpIn_scope_straight ?_
  gi_wp2
  refine wpIn_label ?_
  gi_wp2_with (gi_at_call 65; refine (callsIn_wide.2 (H49.out _ _ _ _)).mono ?_; rintro e w' ⟨rfl, rfl⟩)
  rename_i K hK
  have e0 : (a : Int) / 16777216 = ((a / 16777216 % 256 : Nat) : Int) := by omega
  have e1 : (a : Int) / 65536 % 256 = ((a / 65536 % 256 : Nat) : Int) := by omega
  have e2 : (a : Int) / 256 % 256 = ((a / 256 % 256 : Nat) : Int) := by omega
  have e3 : (a : Int) % 256 = ((a % 256 : Nat) : Int) := by omega
  rw [e0, e1, e2, e3]
  generalize hv0 : a / 16777216 % 256 = v0 at *
  generalize hv1 : a / 65536 % 256 = v1 at *
  generalize hv2 : a / 256 % 256 = v2 at *
  generalize hv3 : a % 256 = v3 at *
  generalize (a : Int) / 65536 = j1
  generalize (a : Int) / 256 = j2
  have hI : BtsAt w.heap.size (((w.alloc (Obj.cells #[Value.int .u8 (v0 : Int), Value.int .u8 (v1 : Int), Value.int .u8 (v2 : Int), Value.int .u8 (v3 : Int)] 108)).alloc (Obj.cells #[Value.string { data := #[] }] 9)).alloc (Obj.cells #[Value.slice (some { block := w.heap.size, off := 0 }) 4 4] 112)) (btsOf a) := fun k hk => by
    have : k = 0 ∨ k = 1 ∨ k = 2 ∨ k = 3 := by simp [btsOf] at hk; omega
    rcases this with rfl | rfl | rfl | rfl
    · exact ⟨by rw [show (btsOf a)[0].v = v0 from hv0]; go_simp, rfl⟩
    · exact ⟨by rw [show (btsOf a)[1].v = v1 from hv1]; go_simp, rfl⟩
    · exact ⟨by rw [show (btsOf a)[2].v = v2 from hv2]; go_simp, rfl⟩
    · exact ⟨by rw [show (btsOf a)[3].v = v3 from hv3]; go_simp, rfl⟩
  have hB2 : (((w.alloc (Obj.cells #[Value.int .u8 (v0 : Int), Value.int .u8 (v1 : Int), Value.int .u8 (v2 : Int), Value.int .u8 (v3 : Int)] 108)).alloc (Obj.cells #[Value.string { data := #[] }] 9)).alloc (Obj.cells #[Value.slice (some { block := w.heap.size, off := 0 }) 4 4] 112)).cell? ⟨w.heap.size + 2, 0, none⟩ = some (.slice (some ⟨w.heap.size, 0, none⟩) (btsOf a).length 4) := by
    rw [show (btsOf a).length = 4 from rfl]; go_simp
  have hc : (((w.alloc (Obj.cells #[Value.int .u8 (v0 : Int), Value.int .u8 (v1 : Int), Value.int .u8 (v2 : Int), Value.int .u8 (v3 : Int)] 108)).alloc (Obj.cells #[Value.string { data := #[] }] 9)).alloc (Obj.cells #[Value.slice (some { block := w.heap.size, off := 0 }) 4 4] 112)).cell? ⟨w.heap.size + 1, 0, none⟩ = some (.string ⟨#[]⟩) := by go_simp
  have hf : (((w.alloc (Obj.cells #[Value.int .u8 (v0 : Int), Value.int .u8 (v1 : Int), Value.int .u8 (v2 : Int), Value.int .u8 (v3 : Int)] 108)).alloc (Obj.cells #[Value.string { data := #[] }] 9)).alloc (Obj.cells #[Value.slice (some { block := w.heap.size, off := 0 }) 4 4] 112)).frozen? ⟨w.heap.size + 1, 0, none⟩ = false := by go_simp
  have bV : Below w.heap.size w (((w.alloc (Obj.cells #[Value.int .u8 (v0 : Int), Value.int .u8 (v1 : Int), Value.int .u8 (v2 : Int), Value.int .u8 (v3 : Int)] 108)).alloc (Obj.cells #[Value.string { data := #[] }] 9)).alloc (Obj.cells #[Value.slice (some { block := w.heap.size, off := 0 }) 4 4] 112)) := bal (bal (below_alloc _ _) _) _
  have zV : (((w.alloc (Obj.cells #[Value.int .u8 (v0 : Int), Value.int .u8 (v1 : Int), Value.int .u8 (v2 : Int), Value.int .u8 (v3 : Int)] 108)).alloc (Obj.cells #[Value.string { data := #[] }] 9)).alloc (Obj.cells #[Value.slice (some { block := w.heap.size, off := 0 }) 4 4] 112)).heap.size = w.heap.size + 3 := by simp
  clear e0 e1 e2 e3 hv0 hv1 hv2 hv3
  generalize (((w.alloc (Obj.cells #[Value.int .u8 (v0 : Int), Value.int .u8 (v1 : Int), Value.int .u8 (v2 : Int), Value.int .u8 (v3 : Int)] 108)).alloc (Obj.cells #[Value.string { data := #[] }] 9)).alloc (Obj.cells #[Value.slice (some { block := w.heap.size, off := 0 }) 4 4] 112)) = V at *
  have HT := Lib.hid (all_stops Fence.wide 4 trivial rfl (by omega) (w.heap.size + 2) (w.heap.size + 1) w.heap.size 4 (btsOf a) (by simp [btsOf]) V (by omega) hB2 (by omega) hI)
  have HTa := Lib.hid hT
  clear hI hB2 hT H49
  generalize hz : w.heap.size = z at *
  suffices hk : ∀ D W, z + 3 ≤ D → W.heap[D]? = some (.deferred (some [])) → W.cell? ⟨z + 1, 0, none⟩ = some (.string ⟨(txt (btsOf a)).toArray⟩) → Below z w W →
      K { tmps := #[.int .i64 a, undef, .string ⟨#[]⟩, .pointer (some ⟨z, 0, none⟩), .pointer (some ⟨z + 1, 0, none⟩), undef, undef, .int .i64 a, .int .i64 v0, .int .u8 v0, .int .i64 a, .int .i64 j1, .int .u8 v1, .int .i64 a, .int .i64 j2, .int .u8 v2, .int .i64 a, .int .u8 v3, .agg #[.int .u8 v0, .int .u8 v1, .int .u8 v2, .int .u8 v3], .slice (some ⟨z, 0, none⟩) 4 4, .func (.func 77) #[] #[.pointer (some ⟨z + 1 + 1, 0, none⟩)], undef, undef, undef, undef, undef, undef, undef, undef, undef, undef, undef, undef], defers := [{ target := .collected D, args := #[] }] } W by
    refine wpIn_rangeFunc_ownG rfl (by omega) (gf := 77) (lb := #[.pointer (some ⟨z + 1 + 1, 0, none⟩)]) rfl trivial (enters_of Tryz.func77 (by kernel_rfl) rfl)
      HT.out (fun h k => h.trans k) (fun W l o o' hl _ _ _ => ⟨rfl, rfl, rfl, by simp [World.putObj], fun i hi => World.putObj_heap_other (by omega)⟩) (Below.refl _ _) (fun _ => rfl)
      (fun D W => (∀ y ∈ D, y.i ≠ 3) ∧ D.length ≤ 4 ∧ W.cell? ⟨z + 1, 0, none⟩ = some (.string ⟨(txt D).toArray⟩) ∧ W.frozen? ⟨z + 1, 0, none⟩ = false ∧ Below z w W)
      (fun c D W => c = .exit 0 ∧ (∃ q x, D = q ++ [x] ∧ x.i = 3) ∧ W.cell? ⟨z + 1, 0, none⟩ = some (.string ⟨(txt D).toArray⟩) ∧ Below z w W)
      (fun D W W' row ⟨h1, h2, h3, h4, h5⟩ hg hr => ⟨h1, h2, cell_kept h3 hg (fun r e => (hr r e).2), (frozen_kept h3 hg (fun r e => (hr r e).2)).trans h4, h5.grown hg (by have := blt h3; omega) (fun j hj => by have := (hr j hj).1; omega)⟩)
      (fun c D W W' row ⟨h0, h1, h3, h5⟩ hg hr => ⟨h0, h1, cell_kept h3 hg (fun r e => (hr r e).2), h5.grown hg (by have := blt h3; omega) (fun j hj => by have := (hr j hj).1; omega)⟩)
      ⟨by simp, by simp, hc, hf, bV⟩
      (fun x => { tmps := #[.int .i64 a, undef, .string ⟨#[]⟩, .pointer (some ⟨z, 0, none⟩), .pointer (some ⟨z + 1, 0, none⟩), .int .i64 (x.i : Int), .int .u8 (x.v : Int), .int .i64 a, .int .i64 v0, .int .u8 v0, .int .i64 a, .int .i64 j1, .int .u8 v1, .int .i64 a, .int .i64 j2, .int .u8 v2, .int .i64 a, .int .u8 v3, .agg #[.int .u8 v0, .int .u8 v1, .int .u8 v2, .int .u8 v3], .slice (some ⟨z, 0, none⟩) 4 4, .func (.func 77) #[] #[.pointer (some ⟨z + 1 + 1, 0, none⟩)], .int .i64 (x.i : Int), .int .u8 (x.v : Int), undef, undef, undef, undef, undef, undef, undef, undef, undef, undef], defers := [] }) ?assign ?body ?done ?stop
    case assign =>
      intro l' x W K' hK'
      simp only [encB]
      gi_wp2
      exact hK'
    case body =>
      rintro l' pre x W ⟨h1, h2, h3, h4, h5⟩ hlt
      have hlen : pre.length < 4 := hlt
      have hTW : Tabs W := HTa.out.on (by rw [hz]; exact h5)
      have hsn := Lib.hid (txt_snoc pre x)
      have hxv : 0 ≤ (x.v : Int) ∧ (x.v : Int) ≤ 255 := by have := x.hv; omega
      have hil := itoa_len x.v (by have := x.hv; omega)
      have htl := @txt_len pre
      generalize (x.v : Int) = xv at *
      have HC := Lib.hid (fun W h => itoa_c xv (by omega) (by omega) W h)
      have hwr : IntKind.i64.wrap xv = xv := IntWalk.i64_in _ (by omega)
      clear HT hK hk bV
      gi_wp2_with fail
      gi_region_with (gi_at_call 22; refine (CallsIn.inRound l' (callsIn_wide.2 (HC.out _ ?_))).mono ?_; exact hTW; rintro e w1 ⟨rfl, hb1⟩; have hg1 : Below W.heap.size W w1 := (below_drew (Below.refl W.heap.size W)).trans hb1; have q3 := (hg1.cell (p := ⟨z + 1, 0, none⟩) (blt h3)).trans h3; have q4 := (hg1.frozen (p := ⟨z + 1, 0, none⟩) (blt h3)).trans h4)
      all_goals
        have hzW := blt h3
        by_cases hx3 : x.i = 3
        · have hxi : (x.i : Int) = 3 := by omega
          have hs := hsn.out
          rw [if_pos hx3, List.append_nil] at hs
          have HS := Lib.hid hs
          clear hs hsn
          gi_wp2
          exact ⟨((keeps_of_below hg1).trans (KeepsOthers.setCell _ _ _)).from _, rfl, ⟨pre, x, rfl, hx3⟩, by rw [HS.out, bytes_append]; go_simp, (h5.trans (hg1.mono (by omega))).setCell (p := ⟨z + 1, 0, none⟩) (by show z ≤ z + 1; omega) _⟩
        · have hxi : ((x.i : Int) == 3) = false := by have : ¬ (x.i : Int) = 3 := by omega
                                                      simpa using this
          have hs := hsn.out
          rw [if_neg hx3] at hs
          have HS := Lib.hid hs
          clear hs hsn
          have r3 : (w1.setCell ⟨z + 1, 0, none⟩ (.string ((⟨(txt pre).toArray⟩ : ByteArray) ++ (⟨(Lib.itoa xv).toArray⟩ : ByteArray)))).cell? ⟨z + 1, 0, none⟩ = some (.string ((⟨(txt pre).toArray⟩ : ByteArray) ++ (⟨(Lib.itoa xv).toArray⟩ : ByteArray))) := by go_simp
          have r4 : (w1.setCell ⟨z + 1, 0, none⟩ (.string ((⟨(txt pre).toArray⟩ : ByteArray) ++ (⟨(Lib.itoa xv).toArray⟩ : ByteArray)))).frozen? ⟨z + 1, 0, none⟩ = false := by go_simp
          have B1 := hg1.mono (show z + 1 ≤ W.heap.size by omega)
          have B2 := B1.setCell (p := ⟨z + 1, 0, none⟩) (Nat.le_refl _) (.string ((⟨(txt pre).toArray⟩ : ByteArray) ++ (⟨(Lib.itoa xv).toArray⟩ : ByteArray)))
          rw [bytes_append] at r3 r4 B2
          rw [bytes_append]
          have e46 : (⟨(txt pre ++ Lib.itoa xv).toArray⟩ : ByteArray) ++ (⟨#[46]⟩ : ByteArray) = ⟨(txt (pre ++ [x])).toArray⟩ := by rw [HS.out]; exact bytes_append _ [46]
          gi_wp2
          refine ⟨(((keeps_of_below hg1).trans (KeepsOthers.setCell _ _ _)).trans (KeepsOthers.setCell _ _ _)).from _, B2.setCell (p := ⟨z + 1, 0, none⟩) (Nat.le_refl _) _, ?_, by simp; omega, by go_simp, by go_simp, ?_⟩
          · intro y hy
            rcases List.mem_append.1 hy with hy | hy
            · exact h1 y hy
            · rw [List.mem_singleton.1 hy]; exact hx3
          · exact (h5.trans (B2.mono (by omega))).setCell (p := ⟨z + 1, 0, none⟩) (by show z ≤ z + 1; omega) _
    case done =>
      rintro D xs W hD rfl ⟨h1, _, _, _, _⟩ hdef
      exact absurd rfl (h1 ⟨3, a % 256, by omega, by omega⟩ (by simp [btsOf]))
    case stop =>
      rintro D c pre W hD hpre ⟨rfl, ⟨q, x, rfl, hx⟩, h3, h5⟩ hdef
      have e := bts_last hpre hx
      rw [e] at h3
      have := hk D W (by omega) hdef h3 h5
      gi_wp2
      exact this
  intro D W hD hdef h3 h5
  refine hK _ _ ?_
  have H5 := Lib.hid h5
  have HD := Lib.hid hdef
  clear h5 hdef HT
  gi_wp2
  refine ⟨by simp, .inl ⟨_, _, rfl, run_takeDeferred HD.out, ?_⟩⟩
  exact ⟨.string ⟨(txt (btsOf a)).toArray⟩, by simp [results, Tryz.results48, go_sem], rfl, ((H5.out.grown (grownBy_putObj' W D (Obj.deferred none)) (by have := H5.out.size; omega) (fun j hj => by cases hj; omega)).mono (Nat.le_of_eq hz))⟩
theorem text_c (a : Nat) (ha : a ≤ 4294967295) (w : World) (hT : Tabs w) : Calls Tryz.prog 48 #[.int .i64 (a : Int)] w fun x w' => x = .returned (.string ⟨(txt (btsOf a)).toArray⟩) ∧ Below w.heap.size w w' := callsIn_wide.1 (text_in a ha w hT)
/-- Print. -/
def printS (a : Int) : List UInt8 := if isA a = true then txt (btsOf a.toNat) else []
def printE (a : Int) : Int := if isA a = true then 0 else 60
theorem print_c (a : Int) (w : World) (hT : Tabs w) : Calls Tryz.prog 33 #[.int .i64 a] w fun x w' => x = .returned (.tuple #[.string ⟨(printS a).toArray⟩, .int .i64 (printE a)]) ∧ Below w.heap.size w w' := by
  have H1 := fun W => isAddr_c a W
  cases ha : isA a with
  | false =>
    have e1 : printS a = [] ∧ printE a = 60 := by unfold printS printE; rw [ha]; exact ⟨rfl, rfl⟩
    rw [e1.1, e1.2]
    rw [ha] at H1
    have HI := Lib.hid H1
    clear H1 e1 ha
    go_enter Tryz.func33, Tryz.ntmps33
    go_wp2_with (go_at_call 47; refine (HI.out _).mono ?_; rintro x w1 ⟨rfl, rfl⟩)
    go_ret2
    exact ⟨rfl, Below.refl _ _⟩
  | true =>
    have hb := isA_iff.1 ha
    obtain ⟨n, rfl⟩ : ∃ n : Nat, a = n := ⟨a.toNat, by omega⟩
    have e1 : printS (n : Int) = txt (btsOf n) ∧ printE (n : Int) = 0 := by unfold printS printE; rw [ha]; exact ⟨by simp, rfl⟩
    rw [e1.1, e1.2]
    rw [ha] at H1
    have HI := Lib.hid H1
    have HX := Lib.hid (text_c n (by omega) w hT)
    clear H1 e1 ha
    generalize txt (btsOf n) = t at *
    go_enter Tryz.func33, Tryz.ntmps33
    go_wp2_with (first | (go_at_call 47; refine (HI.out _).mono ?_; rintro x w1 ⟨rfl, rfl⟩) | (go_at_call 48; refine HX.out.mono ?_; rintro x w1 ⟨rfl, hb1⟩))
    go_ret2
    exact ⟨rfl, hb1⟩
end Go.Proofs.YtlnjalhlbfbjcaaGreatDoor
