/- Ai, Sr -/
import Derived.Test.YtgceecfjammnaaaDoorZ0
import Derived.Maps.AppendAt
import Derived.ArgAppend
import Derived.Test.YtgceecfjammnaaaDoorZ4
set_option linter.unusedVariables false
set_option linter.unusedSimpArgs false
/- An append to a slice that lies in a block of the call's own, from wherever in it. -/
namespace Go.Proofs.YtgceecfjammnaaaDoor
open Go.RowKit Go.Shelf

theorem grownBy_setCells (b : Nat) : ∀ (vs : List Value) (o : Nat) (w : World), w.grownBy (w.setCells b o vs) (some b)
  | [], _, w => World.grownBy.refl w _
  | v :: r, o, w => World.grownBy.trans (⟨rfl, rfl, rfl, by rw [World.size_setCell]; exact Nat.le_refl _, fun i _ hne => Below.heap_setCell _ _ _ _ (fun e => hne (congrArg some e))⟩ : w.grownBy (w.setCell ⟨b, o, none⟩ v) (some b)) (grownBy_setCells b r (o + 1) (w.setCell ⟨b, o, none⟩ v))
theorem size_setCells (b : Nat) : ∀ (vs : List Value) (o : Nat) (w : World), (w.setCells b o vs).heap.size = w.heap.size
  | [], _, w => rfl
  | v :: r, o, w => (size_setCells b r (o + 1) (w.setCell ⟨b, o, none⟩ v)).trans (World.size_setCell ..)
/-- A slice in a block from z on that may be written. -/
def SlIn (W : World) (z : Nat) (e : TypeId) (size : Nat) (v : Value) (n : Nat) (xs : List Value) : Prop :=
  xs.length = n * size ∧ ((v = .slice none 0 0 ∧ n = 0) ∨
    ∃ g o cap cur, v = .slice (some ⟨g, o, none⟩) n cap ∧ z ≤ g ∧ W.heap[g]? = some (.cells cur e (0, 0)) ∧ n ≤ cap ∧ cap ≤ maxLen ∧ cur.size = o + cap * size ∧ (cur.toList.drop o).take (n * size) = xs)
/-- A slice that reads as xs. -/
def SlAt (W : World) (z : Nat) (v : Value) (n : Nat) (xs : List Value) : Prop :=
  (v = .slice none 0 0 ∧ n = 0 ∧ xs = []) ∨ ∃ g o cap, v = .slice (some ⟨g, o, none⟩) n cap ∧ z ≤ g ∧ g < W.heap.size ∧ ∀ j u, xs[j]? = some u → W.cell? ⟨g, o + j, none⟩ = some u
theorem SlIn.of_row {W : World} {z : Nat} {e : TypeId} {size n : Nat} {v : Value} {xs : List Value} (h : W.ownsRow z e size v n xs) : SlIn W z e size v n xs := by
  rcases h with ⟨h1, h2 | ⟨g, cap, cur, rfl, h3, h4, h5, h6, h7, h8⟩⟩
  · exact ⟨h1, .inl h2⟩
  · exact ⟨h1, .inr ⟨g, 0, cap, cur, rfl, h3, h4, h5, h6, by rw [h7, Nat.zero_add], by rw [List.drop_zero]; exact h8⟩⟩
theorem SlAt.of_row {W : World} {z : Nat} {e : TypeId} {size n : Nat} {v : Value} {xs : List Value} (h : W.ownsRow z e size v n xs) (hs : 0 < size) : SlAt W z v n xs := by
  have hh := h
  rcases h with ⟨h1, ⟨rfl, rfl⟩ | ⟨g, cap, cur, rfl, h3, h4, h5⟩⟩
  · exact .inl ⟨rfl, rfl, List.length_eq_zero_iff.1 (by simpa using h1)⟩
  · refine .inr ⟨g, 0, cap, rfl, h3, (Array.getElem?_eq_some_iff.1 h4).1, fun j u hu => ?_⟩
    have := hh.cells (g := g) rfl j u hu
    unfold Addr.add at this
    split at this <;> simp_all
/-- Its tail: what lies behind the first k. -/
theorem SlIn.tail {W : World} {z : Nat} {e : TypeId} {size n g o cap k : Nat} {xs : List Value} (h : SlIn W z e size (.slice (some ⟨g, o, none⟩) n cap) n xs) (hk : k ≤ n) : SlIn W z e size (.slice (some ⟨g, o + k * size, none⟩) (n - k) (cap - k)) (n - k) (xs.drop (k * size)) := by
  obtain ⟨h1, ⟨h2, _⟩ | ⟨g', o', cap', cur, he, h3, h4, h5, h6, h7, h8⟩⟩ := h
  · cases h2
  · cases he
    obtain ⟨m, rfl⟩ : ∃ m, n = k + m := ⟨n - k, by omega⟩
    obtain ⟨c, rfl⟩ : ∃ c, cap = k + c := ⟨cap - k, by omega⟩
    refine ⟨?_, .inr ⟨g, o + k * size, k + c - k, cur, rfl, h3, h4, by omega, by omega, ?_, ?_⟩⟩
    · rw [List.length_drop, h1, Nat.add_sub_cancel_left, Nat.add_mul]; omega
    · rw [h7, Nat.add_sub_cancel_left, Nat.add_mul]; omega
    · rw [← h8, Nat.add_sub_cancel_left, List.drop_take, List.drop_drop, Nat.add_mul]
      congr 1
      omega
theorem SlIn.cell {W : World} {z : Nat} {e : TypeId} {size n g o cap : Nat} {xs : List Value} (h : SlIn W z e size (.slice (some ⟨g, o, none⟩) n cap) n xs) : g < W.heap.size ∧ z ≤ g ∧ n ≤ cap ∧ cap ≤ maxLen ∧ (∀ j u, xs[j]? = some u → W.cell? ⟨g, o + j, none⟩ = some u) ∧ ∀ j, j < cap * size → (W.cell? ⟨g, o + j, none⟩).isSome = true ∧ W.frozen? ⟨g, o + j, none⟩ = false := by
  obtain ⟨h1, ⟨h2, _⟩ | ⟨g', o', cap', cur, he, h3, h4, h5, h6, h7, h8⟩⟩ := h
  · cases h2
  · cases he
    refine ⟨(Array.getElem?_eq_some_iff.1 h4).1, h3, h5, h6, fun j u hu => ?_, fun j hj => ?_⟩
    · rw [← h8] at hu
      have hj := (List.getElem?_eq_some_iff.1 hu).1
      rw [List.length_take] at hj
      rw [List.getElem?_take_of_lt (by omega), List.getElem?_drop] at hu
      simp only [World.cell?, h4, if_true]
      simpa using hu
    · have hb : o + j < cur.size := by omega
      constructor
      · simp [World.cell?, h4, hb]
      · simp [World.frozen?, h4]
theorem SlIn.kept {W W' : World} {z : Nat} {e : TypeId} {size n : Nat} {v : Value} {xs : List Value} (h : SlIn W z e size v n xs) (hb : Below W.heap.size W W') : SlIn W' z e size v n xs := by
  rcases h with ⟨h1, h2 | ⟨g, o, cap, cur, rfl, h3, h4, h5⟩⟩
  · exact ⟨h1, .inl h2⟩
  · exact ⟨h1, .inr ⟨g, o, cap, cur, rfl, h3, (hb.block g (Array.getElem?_eq_some_iff.1 h4).1).trans h4, h5⟩⟩
theorem run_append_in {P : Program} (w : World) (z : Nat) (t ty : TypeId) (e : TypeId) (i : TypeInfo) (zv : Value) (size bytes : Nat) (ht : P.underlying t = some (.slice e)) (hi : P.info? e = some i) (hz : i.zero = some zv)
    (hsize : i.size = size) (hby : i.bytes = bytes) (hzs : zv.cells.size = size) (hsz : 0 < size)
    (v : Value) (n : Nat) (xs : List Value) (hown : SlIn w z e size v n xs)
    (ad : Addr) (m c : Nat) (news : List Value) (hl : news.length = m * size) (hnews : ∀ j u, news[j]? = some u → w.cell? (ad.add j) = some u) (h1 : ∀ u ∈ news, u.oneCell' = true)
    (hm : 0 < m) (h63 : n + m ≤ maxLen) (hbytes : (n + m) * bytes ≤ 140737488355328) (hzw : z ≤ w.heap.size) :
    ∃ g o cap w', (Builtin.append_ #[t, t] ty #[v, .slice (some ad) m c]).run P w = .ok (.slice (some ⟨g, o, none⟩) (n + m) cap) w' ∧ z ≤ g ∧ g < w'.heap.size ∧ (∀ j u, (xs ++ news)[j]? = some u → w'.cell? ⟨g, o + j, none⟩ = some u) ∧ w.grownBy w' v.ownBlock := by
  have hh := hown
  rcases hown with ⟨hx, ⟨rfl, rfl⟩ | ⟨g, o, cap, cur, rfl, h3, h4, h5, h6, h7, h8⟩⟩
  · obtain rfl : xs = [] := List.length_eq_zero_iff.1 (by simpa using hx)
    obtain ⟨v', w', hr, h2, h3, _⟩ := run_append_own_at (P := P) w z t ty e i zv size bytes ht hi hz hsize hby hzs hsz (.slice none 0 0) 0 [] (World.ownsRow_nil w _ e size) ad m c news hl hnews h1 h63 hbytes hzw
    rcases SlAt.of_row h2 hsz with ⟨_, h0, _⟩ | ⟨g, o, cap, rfl, p1, p2, p3⟩
    · omega
    · exact ⟨g, o, cap, w', hr, p1, p2, p3, h3⟩
  · obtain ⟨q1, q2, q3, q4, q5, q6⟩ := hh.cell
    by_cases hr : n + m ≤ cap
    · subst hsize
      have hle : (n + m) * i.size ≤ cap * i.size := Nat.mul_le_mul_right _ hr
      rw [Nat.add_mul] at hle
      have hsp := fun j (hj : j < news.length) => q6 (n * i.size + j) (by omega)
      have hsp' : ∀ j, j < news.length → (w.cell? ⟨g, o + n * i.size + j, none⟩).isSome = true ∧ w.frozen? ⟨g, o + n * i.size + j, none⟩ = false := fun j hj => by rw [Nat.add_assoc]; exact hsp j hj
      have hrun := run_append_room_cells (P := P) w t ty e i ht hi g o n cap ad m c news hl hnews h1 hr (fun j hj => (hsp' j hj).1) (fun j hj => (hsp' j hj).2)
      refine ⟨g, o, cap, _, hrun, q2, by rw [size_setCells]; exact q1, fun j u hu => ?_, grownBy_setCells _ _ _ _⟩
      rcases Nat.lt_or_ge j xs.length with hj | hj
      · rw [List.getElem?_append_left hj] at hu
        rw [World.cell?_setCells_out g news _ w ⟨g, o + j, none⟩ (fun _ _ => .inl (by show o + j < o + n * i.size; omega))]
        exact q5 j u hu
      · rw [List.getElem?_append_right hj] at hu
        obtain ⟨hjn, rfl⟩ := List.getElem?_eq_some_iff.1 hu
        have := World.cell?_setCells_in g news (o + n * i.size) w (fun j hj => (hsp' j hj).1) (j - xs.length) hjn
        rw [show o + j = o + n * i.size + (j - xs.length) by omega]
        exact this
    · obtain ⟨v', w', hrun, r1, r2⟩ := run_append_arg_grows (P := P) w t ty e i zv size bytes ht hi hz hsize hby hzs hsz ⟨g, o, none⟩ n cap xs hx (fun j u hj => by rw [Addr.add_lit]; exact q5 j u hj) ad m c news hl hnews (by omega) h63 hbytes
      rcases SlAt.of_row r1 hsz with ⟨_, h0, _⟩ | ⟨g', o', cap', rfl, p1, p2, p3⟩
      · omega
      · exact ⟨g', o', cap', w', hrun, Nat.le_trans hzw p1, p2, p3, ⟨r2.os, r2.tape, r2.output, r2.size, fun k hk _ => r2.block k hk (by simp)⟩⟩
/-- At the operation. -/
theorem wp_append_in {P : Program} (w : World) {o : Oper} {a : Act} {K : Act → World → Prop} {Q : Exit → Act → World → Prop} (s x : Operand) (t : TypeId)
    (ho : o.op = .call { callee := .builtin .append, args := #[s, x], argTypes := #[t, t] })
    (z : Nat) (e : TypeId) (i : TypeInfo) (zv : Value) (size bytes : Nat) (ht : P.underlying t = some (.slice e)) (hi : P.info? e = some i) (hz : i.zero = some zv)
    (hsize : i.size = size) (hby : i.bytes = bytes) (hzs : zv.cells.size = size) (hsz : 0 < size)
    (v : Value) (n : Nat) (xs : List Value) (hs : a.eval s = v) (hown : SlIn w z e size v n xs)
    (ad : Addr) (m c : Nat) (news : List Value) (hx : a.eval x = .slice (some ad) m c) (hl : news.length = m * size) (hnews : ∀ j u, news[j]? = some u → w.cell? (ad.add j) = some u) (h1 : ∀ u ∈ news, u.oneCell' = true)
    (hm : 0 < m) (h63 : n + m ≤ maxLen) (hbytes : (n + m) * bytes ≤ 140737488355328) (hzw : z ≤ w.heap.size)
    (h : ∀ g o' cap w', z ≤ g → g < w'.heap.size → (∀ j u, (xs ++ news)[j]? = some u → w'.cell? ⟨g, o' + j, none⟩ = some u) → w.grownBy w' v.ownBlock → K (a.put o.dst (.slice (some ⟨g, o', none⟩) (n + m) cap)) w') : o.wp P a w K Q := by
  obtain ⟨g, o', cap, w', hr, h2, h3, h4, h5⟩ := run_append_in (P := P) w z t o.type e i zv size bytes ht hi hz hsize hby hzs hsz v n xs hown ad m c news hl hnews h1 hm h63 hbytes hzw
  unfold Oper.wp execOp
  simp only [ho, resolve, invoke, builtin, Sem.run_bind, Sem.run_pure, Result.andThen_ok, List.map_toArray, List.map_cons, List.map_nil, hs, hx, hr]
  exact h g o' cap w' h2 h3 h4 h5
/-- At the list of a plain region's operations. -/
theorem wpList_append_in {P : Program} (w : World) {ops : Array Oper} {rest : List Oper} {o : Oper} {a : Act} {Q : Exit → Act → World → Prop} (hgd : o.guard = none) (s x : Operand) (t : TypeId)
    (ho : o.op = .call { callee := .builtin .append, args := #[s, x], argTypes := #[t, t] })
    (z : Nat) (e : TypeId) (i : TypeInfo) (zv : Value) (size bytes : Nat) (ht : P.underlying t = some (.slice e)) (hi : P.info? e = some i) (hz : i.zero = some zv)
    (hsize : i.size = size) (hby : i.bytes = bytes) (hzs : zv.cells.size = size) (hsz : 0 < size)
    (v : Value) (n : Nat) (xs : List Value) (hs : a.eval s = v) (hown : SlIn w z e size v n xs)
    (ad : Addr) (m c : Nat) (news : List Value) (hx : a.eval x = .slice (some ad) m c) (hl : news.length = m * size) (hnews : ∀ j u, news[j]? = some u → w.cell? (ad.add j) = some u) (h1 : ∀ u ∈ news, u.oneCell' = true)
    (hm : 0 < m) (h63 : n + m ≤ maxLen) (hbytes : (n + m) * bytes ≤ 140737488355328) (hzw : z ≤ w.heap.size)
    (h : ∀ g o' cap w', z ≤ g → g < w'.heap.size → (∀ j u, (xs ++ news)[j]? = some u → w'.cell? ⟨g, o' + j, none⟩ = some u) → w.grownBy w' v.ownBlock → wpList P ops Q rest (a.put o.dst (.slice (some ⟨g, o', none⟩) (n + m) cap)) w') : wpList P ops Q (o :: rest) a w :=
  wpList_plain hgd fun _ hK => wp_append_in w s x t ho z e i zv size bytes ht hi hz hsize hby hzs hsz v n xs hs hown ad m c news hx hl hnews h1 hm h63 hbytes hzw fun g o' cap w' h2 h3 h4 h5 => hK _ _ (h g o' cap w' h2 h3 h4 h5)
end Go.Proofs.YtgceecfjammnaaaDoor

/- What Pin asks of a pool and of items. -/
namespace Go.Proofs.YtgceecfjammnaaaDoor.L16
open Go.RowKit Go.Shelf
attribute [local go_sem] Oper.semAt_some
set_option linter.unusedSimpArgs false
set_option linter.unusedVariables false

def ErrT (W : World) : Prop := W.cell? ⟨0, 0, none⟩ = some (.iface 101 (.agg #[.pointer (some ⟨1, 50, none⟩)]))
theorem ErrT.onB {W W' : World} (h : ErrT W) (k : Below W.heap.size W W') : ErrT W' := (k.cell (p := ⟨0, 0, none⟩) (blt h)).trans h
theorem areItems_e (a : Option Addr) (L cap : Nat) (w : World) : Calls Tryd.prog 25 #[.slice a L cap] w fun x w' => ∃ b, x = .returned (.func (.func 51) #[] #[.pointer (some ⟨b, 0, none⟩)]) ∧ w'.cell? ⟨b, 0, none⟩ = some (.slice a L cap) ∧ Below w.heap.size w w' := by
  refine (areItems_c a L cap w).mono ?_
  rintro x w' ⟨rfl, rfl⟩
  exact ⟨_, rfl, by go_simp, below_alloc _ _⟩
theorem isNow_e (a : Option Addr) (L cap : Nat) (n t : Int) (w : World) : Calls Tryd.prog 27 #[.agg #[.slice a L cap, .int .i64 n], .int .i64 t] w fun x w' => ∃ b0 b1, x = .returned (.func (.func 55) #[] #[.pointer (some ⟨b0, 0, none⟩), .pointer (some ⟨b1, 0, none⟩)]) ∧ (w'.cell? ⟨b0, 0, none⟩ = some (.slice a L cap) ∧ w'.cell? ⟨b1, 0, none⟩ = some (.int .i64 t)) ∧ Below w.heap.size w w' := by
  refine (isNow_c a L cap n t w).mono ?_
  rintro x w' ⟨rfl, rfl⟩
  exact ⟨_, _, rfl, ⟨by go_simp, by go_simp⟩, bal (below_alloc _ _) _⟩
theorem fresh_e (t : Int) (w : World) : Calls Tryd.prog 30 #[.int .i64 t] w fun x w' => ∃ b, x = .returned (.func (.func 58) #[] #[.pointer (some ⟨b, 0, none⟩)]) ∧ w'.cell? ⟨b, 0, none⟩ = some (.int .i64 t) ∧ Below w.heap.size w w' := by
  refine (fresh_c t w).mono ?_
  rintro x w' ⟨rfl, rfl⟩
  exact ⟨_, rfl, by go_simp, below_alloc _ _⟩
def pinCh (p : Pl) (items : List ByteArray) (t : Int) : List (Bool × Int) := [(rightP wordB p, 160), (itemsB wordB items, 160), (decide (p.n < 1000000000000), 160), (nowB p t, 160)]
theorem pinCh_all (p : Pl) (items : List ByteArray) (t : Int) : (pinCh p items t).all (·.1) = pinB wordB p items t := by
  unfold pinCh pinB
  simp [Bool.and_assoc]
theorem pinCh_n (p : Pl) (items : List ByteArray) (t : Int) (h : pinB wordB p items t = false) : firstN (pinCh p items t) = 160 := by
  rw [← pinCh_all] at h
  unfold pinCh at h ⊢
  generalize rightP wordB p = b1 at *
  generalize itemsB wordB items = b2 at *
  generalize decide (p.n < 1000000000000) = b3 at *
  generalize nowB p t = b4 at *
  cases b1 <;> cases b2 <;> cases b3 <;> cases b4 <;> first | rfl | cases h
theorem pinFirst_c (a ia : Option Addr) (cap icap : Nat) (n t : Int) (hn : n ≤ 9223372036854775807) (l : List SnM) (items : List ByteArray) (hl : l.length ≤ 100000) (hi : ∀ x ∈ l, x.it.length ≤ 100000 ∧ ∀ s ∈ x.it, s.size ≤ 1000000) (hil : items.length ≤ 100000) (his : ∀ s ∈ items, s.size ≤ 1000000)
    (w : World) (b b1 b2 b3 : Nat)
    (c0 : w.cell? ⟨b, 0, none⟩ = some (.func (.func 24) #[.agg #[.slice a l.length cap, .int .i64 n]] #[]))
    (c1 : w.cell? ⟨b, 1, none⟩ = some (.func (.func 51) #[] #[.pointer (some ⟨b1, 0, none⟩)]))
    (c2 : w.cell? ⟨b, 2, none⟩ = some (.func (.func 26) #[.agg #[.slice a l.length cap, .int .i64 n]] #[]))
    (c3 : w.cell? ⟨b, 3, none⟩ = some (.func (.func 55) #[] #[.pointer (some ⟨b2, 0, none⟩), .pointer (some ⟨b3, 0, none⟩)]))
    (k1 : w.cell? ⟨b1, 0, none⟩ = some (.slice ia items.length icap)) (k2 : w.cell? ⟨b2, 0, none⟩ = some (.slice a l.length cap) ∧ w.cell? ⟨b3, 0, none⟩ = some (.int .i64 t)) (hA : PlAt w.heap.size w a l) (hS : StrsAt w.heap.size w ia items) :
    Calls Tryd.prog 23 #[.slice (some ⟨b, 0, none⟩) 4 4] w fun y w' => y = .returned (firstB (pinCh ⟨l.map SnM.p, n⟩ items t)) ∧ Below w.heap.size w w' := by
  have h4 : ∀ i, i < 4 → i = 0 ∨ i = 1 ∨ i = 2 ∨ i = 3 := fun i h => by omega
  have hf : firstE (atL (pinCh ⟨l.map SnM.p, n⟩ items t)) 0 4 = firstB (pinCh ⟨l.map SnM.p, n⟩ items t) := firstE_list (pinCh ⟨l.map SnM.p, n⟩ items t)
  rw [← hf]
  refine faultFirst_c 4 (by omega) b (fun i => match i with | 0 => 24 | 1 => 51 | 2 => 26 | _ => 55) (fun i => match i with | 0 => #[.agg #[.slice a l.length cap, .int .i64 n]] | 2 => #[.agg #[.slice a l.length cap, .int .i64 n]] | _ => #[]) (fun i => match i with | 1 => #[.pointer (some ⟨b1, 0, none⟩)] | 3 => #[.pointer (some ⟨b2, 0, none⟩), .pointer (some ⟨b3, 0, none⟩)] | _ => #[]) (atL (pinCh ⟨l.map SnM.p, n⟩ items t)) w ?_ ?_ ?_ ?_
  · intro i hi
    obtain rfl | rfl | rfl | rfl := h4 i hi
    · exact c0
    · exact c1
    · exact c2
    · exact c3
  · intro i hii hprev W hW
    obtain rfl | rfl | rfl | rfl := h4 i hii
    · exact isRight_c a cap n hn l hl hi W (hA.on hW)
    · exact items1_c ia icap b1 items hil his W ((hW.cell (blt k1)).trans k1) ((hS.below hW).mono hW.size)
    · exact hasCursors_c a l.length cap n W
    · refine (isNow1_c a cap l hl n t b2 b3 W ((hW.cell (blt k2.1)).trans k2.1) ((hW.cell (blt k2.2)).trans k2.2) (hA.on hW)).mono ?_
      rintro x w' ⟨rfl, rfl⟩
      exact ⟨rfl, Below.refl _ _⟩
  · intro i hi args W
    obtain rfl | rfl | rfl | rfl := h4 i hi
    · exact enters_of Tryd.func24 (by kernel_rfl) rfl args W
    · exact enters_of Tryd.func51 (by kernel_rfl) rfl args W
    · exact enters_of Tryd.func26 (by kernel_rfl) rfl args W
    · exact enters_of Tryd.func55 (by kernel_rfl) rfl args W
  · exact fun i _ => atL_two _ i
end Go.Proofs.YtgceecfjammnaaaDoor.L16
