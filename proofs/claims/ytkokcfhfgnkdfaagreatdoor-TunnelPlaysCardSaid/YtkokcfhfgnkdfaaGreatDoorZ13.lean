/- Uj, Uk, Ui, Ol -/
import Derived.Test.YtkokcfhfgnkdfaaGreatDoorZ9
import Derived.Test.YtkokcfhfgnkdfaaGreatDoorZ12
import Derived.Test.YtkokcfhfgnkdfaaGreatDoorZ8
import Derived.ChangeShapes
import Derived.ChangeArms
import Derived.Deep.Slices
set_option linter.unusedVariables false
set_option linter.unusedSimpArgs false
/- want: the document's answer. -/
namespace Go.Proofs.YtkokcfhfgnkdfaaGreatDoor.L17
open Go.RowKit Go.Shelf
open L1 (str)
open L14 (isSt goes dest inB outB endB Laid)
attribute [local go_sem] Oper.semAt_some
set_option maxRecDepth 100000 in
set_option maxHeartbeats 4000000 in
theorem want0 (T hi cap : Nat) (t : Tn) (side n : Int) (s : ByteArray) (hs : s.size ≤ 5000) (hm : t.Sm) (w : World) (h : RefAt w T hi cap t) :
    Calls Tryz.prog 18 #[.pointer (some ⟨T, 0, none⟩), .agg #[.int .i64 0, .int .i64 side, .int .i64 n, .string s]] w fun y w' => y = .returned (.agg #[.int .i64 (0), .string (⟨#[]⟩), .int .i64 (eventE t n)]) ∧ RefAt w' T hi cap (eventT t n) ∧ Goes (Rin T hi) w w' := by
  have lz : hi ≤ w.heap.size := by obtain ⟨_, _, _, q⟩ := h; exact q.lz
  have hB : Below w.heap.size w (doV w (.int .i64 0) (.int .i64 side) (.int .i64 n) (.string s)) := bal (bal (below_alloc w _) _) _
  have HB := Lib.hid hB
  have HT := Lib.hid (h.below hB)
  have HF := Lib.hid (show BoxS (doV w (.int .i64 0) (.int .i64 side) (.int .i64 n) (.string s)) (w.heap.size + 1) ∧ BoxS (doV w (.int .i64 0) (.int .i64 side) (.int .i64 n) (.string s)) (w.heap.size + 2) from ⟨by constructor <;> go_simp, by constructor <;> go_simp⟩)
  have HC := Lib.hid (revent_c T hi cap t n _ HT.out)
  obtain ⟨EE, hE⟩ : ∃ v : Int, (eventE t n) = v := ⟨_, rfl⟩
  rw [hE] at HC ⊢
  clear hE
  clear h hB
  go_enter Tryz.func18, Tryz.ntmps18
  go_wp2_with fail
  go_at_call 32
  refine HC.out.mono ?_
  rintro e w1 ⟨rfl, ht, hg⟩
  obtain ⟨⟨a0, a1, a2, b0, b1, b2⟩, ⟨c0, c1, c2, d0, d1, d2⟩⟩ := boxS2_on HF.out hg lz
  have HT1 := Lib.hid ht
  have HG1 : Hid (Goes (fun i => Rin T hi i ∨ w.heap.size ≤ i) w w1) := Lib.hid ((Goes.of_below HB.out).trans (hg.mono (fun _ h => .inl h)))
  clear ht hg HF HC
  obtain ⟨z, hz⟩ : ∃ z, w.heap.size = z := ⟨_, rfl⟩
  rw [hz] at a0 a1 a2 b0 b1 b2 c0 c1 c2 d0 d1 d2 ⊢
  have hne : z + 1 ≠ z + 2 := by omega
  go_wp2
  rw [hz] at lz
  have key : ∀ W, Goes (fun i => z ≤ i) w1 W → RefAt W T hi cap (eventT t n) ∧ Goes (Rin T hi) w W := fun W hgs => ⟨HT1.out.goes hgs (fun i h e => by have := h.2; omega), goes_new (N := z) (by rw [← hz]; exact HG1.out) hgs hz⟩
  clear HT1 HG1
  refine bodyPost_ret (results_cell rfl _ _ (by rfl) (said_load (by go_simp) (by go_simp) (by go_simp))) rfl ⟨rfl, ?_⟩
  refine key _ ?_
  repeat (first | exact Goes.refl _ _ | refine Goes.trans ?_ (goes_set _ _ _ _ (by omega)))
set_option maxRecDepth 100000 in
set_option maxHeartbeats 4000000 in
theorem want1 (T hi cap : Nat) (t : Tn) (side n : Int) (s : ByteArray) (hs : s.size ≤ 5000) (hm : t.Sm) (w : World) (h : RefAt w T hi cap t) :
    Calls Tryz.prog 18 #[.pointer (some ⟨T, 0, none⟩), .agg #[.int .i64 1, .int .i64 side, .int .i64 n, .string s]] w fun y w' => y = .returned (.agg #[.int .i64 (0), .string (⟨#[]⟩), .int .i64 (grantTE t side n)]) ∧ RefAt w' T hi cap (grantT t side n) ∧ Goes (Rin T hi) w w' := by
  have lz : hi ≤ w.heap.size := by obtain ⟨_, _, _, q⟩ := h; exact q.lz
  have hB : Below w.heap.size w (doV w (.int .i64 1) (.int .i64 side) (.int .i64 n) (.string s)) := bal (bal (below_alloc w _) _) _
  have HB := Lib.hid hB
  have HT := Lib.hid (h.below hB)
  have HF := Lib.hid (show BoxS (doV w (.int .i64 1) (.int .i64 side) (.int .i64 n) (.string s)) (w.heap.size + 1) ∧ BoxS (doV w (.int .i64 1) (.int .i64 side) (.int .i64 n) (.string s)) (w.heap.size + 2) from ⟨by constructor <;> go_simp, by constructor <;> go_simp⟩)
  have HC := Lib.hid (rgrant_c T hi cap t side n _ HT.out)
  obtain ⟨EE, hE⟩ : ∃ v : Int, (grantTE t side n) = v := ⟨_, rfl⟩
  rw [hE] at HC ⊢
  clear hE
  clear h hB
  go_enter Tryz.func18, Tryz.ntmps18
  go_wp2_with fail
  go_at_call 33
  refine HC.out.mono ?_
  rintro e w1 ⟨rfl, ht, hg⟩
  obtain ⟨⟨a0, a1, a2, b0, b1, b2⟩, ⟨c0, c1, c2, d0, d1, d2⟩⟩ := boxS2_on HF.out hg lz
  have HT1 := Lib.hid ht
  have HG1 : Hid (Goes (fun i => Rin T hi i ∨ w.heap.size ≤ i) w w1) := Lib.hid ((Goes.of_below HB.out).trans (hg.mono (fun _ h => .inl h)))
  clear ht hg HF HC
  obtain ⟨z, hz⟩ : ∃ z, w.heap.size = z := ⟨_, rfl⟩
  rw [hz] at a0 a1 a2 b0 b1 b2 c0 c1 c2 d0 d1 d2 ⊢
  have hne : z + 1 ≠ z + 2 := by omega
  go_wp2
  rw [hz] at lz
  have key : ∀ W, Goes (fun i => z ≤ i) w1 W → RefAt W T hi cap (grantT t side n) ∧ Goes (Rin T hi) w W := fun W hgs => ⟨HT1.out.goes hgs (fun i h e => by have := h.2; omega), goes_new (N := z) (by rw [← hz]; exact HG1.out) hgs hz⟩
  clear HT1 HG1
  refine bodyPost_ret (results_cell rfl _ _ (by rfl) (said_load (by go_simp) (by go_simp) (by go_simp))) rfl ⟨rfl, ?_⟩
  refine key _ ?_
  repeat (first | exact Goes.refl _ _ | refine Goes.trans ?_ (goes_set _ _ _ _ (by omega)))
set_option maxRecDepth 100000 in
set_option maxHeartbeats 4000000 in
theorem want2 (T hi cap : Nat) (t : Tn) (side n : Int) (s : ByteArray) (hs : s.size ≤ 5000) (hm : t.Sm) (w : World) (h : RefAt w T hi cap t) :
    Calls Tryz.prog 18 #[.pointer (some ⟨T, 0, none⟩), .agg #[.int .i64 2, .int .i64 side, .int .i64 n, .string s]] w fun y w' => y = .returned (.agg #[.int .i64 ((feedTN cap t side s : Nat)), .string (⟨#[]⟩), .int .i64 (feedE t side)]) ∧ RefAt w' T hi cap (feedT cap t side s) ∧ Goes (Rin T hi) w w' := by
  have lz : hi ≤ w.heap.size := by obtain ⟨_, _, _, q⟩ := h; exact q.lz
  have hB : Below w.heap.size w (doV w (.int .i64 2) (.int .i64 side) (.int .i64 n) (.string s)) := bal (bal (below_alloc w _) _) _
  have HB := Lib.hid hB
  have HT := Lib.hid (h.below hB)
  have HF := Lib.hid (show BoxS (doV w (.int .i64 2) (.int .i64 side) (.int .i64 n) (.string s)) (w.heap.size + 1) ∧ BoxS (doV w (.int .i64 2) (.int .i64 side) (.int .i64 n) (.string s)) (w.heap.size + 2) from ⟨by constructor <;> go_simp, by constructor <;> go_simp⟩)
  have HC := Lib.hid (rfeed_c T hi cap t side s _ hs hm HT.out)
  obtain ⟨EE, hE⟩ : ∃ v : Int, (feedE t side) = v := ⟨_, rfl⟩
  rw [hE] at HC ⊢
  clear hE
  obtain ⟨NN, hN⟩ : ∃ v : Int, ((feedTN cap t side s : Nat)) = v := ⟨_, rfl⟩
  rw [hN] at HC ⊢
  clear hN
  clear h hB
  go_enter Tryz.func18, Tryz.ntmps18
  go_wp2_with fail
  go_at_call 34
  refine HC.out.mono ?_
  rintro e w1 ⟨rfl, ht, hg⟩
  obtain ⟨⟨a0, a1, a2, b0, b1, b2⟩, ⟨c0, c1, c2, d0, d1, d2⟩⟩ := boxS2_on HF.out hg lz
  have HT1 := Lib.hid ht
  have HG1 : Hid (Goes (fun i => Rin T hi i ∨ w.heap.size ≤ i) w w1) := Lib.hid ((Goes.of_below HB.out).trans (hg.mono (fun _ h => .inl h)))
  clear ht hg HF HC
  obtain ⟨z, hz⟩ : ∃ z, w.heap.size = z := ⟨_, rfl⟩
  rw [hz] at a0 a1 a2 b0 b1 b2 c0 c1 c2 d0 d1 d2 ⊢
  have hne : z + 1 ≠ z + 2 := by omega
  go_wp2
  rw [hz] at lz
  have key : ∀ W, Goes (fun i => z ≤ i) w1 W → RefAt W T hi cap (feedT cap t side s) ∧ Goes (Rin T hi) w W := fun W hgs => ⟨HT1.out.goes hgs (fun i h e => by have := h.2; omega), goes_new (N := z) (by rw [← hz]; exact HG1.out) hgs hz⟩
  clear HT1 HG1
  refine bodyPost_ret (results_cell rfl _ _ (by rfl) (said_load (by go_simp) (by go_simp) (by go_simp))) rfl ⟨rfl, ?_⟩
  refine key _ ?_
  repeat (first | exact Goes.refl _ _ | refine Goes.trans ?_ (goes_set _ _ _ _ (by omega)))
set_option maxRecDepth 100000 in
set_option maxHeartbeats 4000000 in
theorem want3 (T hi cap : Nat) (t : Tn) (side n : Int) (s : ByteArray) (hs : s.size ≤ 5000) (hm : t.Sm) (w : World) (h : RefAt w T hi cap t) :
    Calls Tryz.prog 18 #[.pointer (some ⟨T, 0, none⟩), .agg #[.int .i64 3, .int .i64 side, .int .i64 n, .string s]] w fun y w' => y = .returned (.agg #[.int .i64 ((moveTN cap t side n : Nat)), .string (⟨#[]⟩), .int .i64 (moveE t side n)]) ∧ RefAt w' T hi cap (moveT cap t side n) ∧ Goes (Rin T hi) w w' := by
  have lz : hi ≤ w.heap.size := by obtain ⟨_, _, _, q⟩ := h; exact q.lz
  have hB : Below w.heap.size w (doV w (.int .i64 3) (.int .i64 side) (.int .i64 n) (.string s)) := bal (bal (below_alloc w _) _) _
  have HB := Lib.hid hB
  have HT := Lib.hid (h.below hB)
  have HF := Lib.hid (show BoxS (doV w (.int .i64 3) (.int .i64 side) (.int .i64 n) (.string s)) (w.heap.size + 1) ∧ BoxS (doV w (.int .i64 3) (.int .i64 side) (.int .i64 n) (.string s)) (w.heap.size + 2) from ⟨by constructor <;> go_simp, by constructor <;> go_simp⟩)
  have HC := Lib.hid (rmove_c T hi cap t side n _ hm HT.out)
  obtain ⟨EE, hE⟩ : ∃ v : Int, (moveE t side n) = v := ⟨_, rfl⟩
  rw [hE] at HC ⊢
  clear hE
  obtain ⟨NN, hN⟩ : ∃ v : Int, ((moveTN cap t side n : Nat)) = v := ⟨_, rfl⟩
  rw [hN] at HC ⊢
  clear hN
  clear h hB
  go_enter Tryz.func18, Tryz.ntmps18
  go_wp2_with fail
  go_at_call 35
  refine HC.out.mono ?_
  rintro e w1 ⟨rfl, ht, hg⟩
  obtain ⟨⟨a0, a1, a2, b0, b1, b2⟩, ⟨c0, c1, c2, d0, d1, d2⟩⟩ := boxS2_on HF.out hg lz
  have HT1 := Lib.hid ht
  have HG1 : Hid (Goes (fun i => Rin T hi i ∨ w.heap.size ≤ i) w w1) := Lib.hid ((Goes.of_below HB.out).trans (hg.mono (fun _ h => .inl h)))
  clear ht hg HF HC
  obtain ⟨z, hz⟩ : ∃ z, w.heap.size = z := ⟨_, rfl⟩
  rw [hz] at a0 a1 a2 b0 b1 b2 c0 c1 c2 d0 d1 d2 ⊢
  have hne : z + 1 ≠ z + 2 := by omega
  go_wp2
  rw [hz] at lz
  have key : ∀ W, Goes (fun i => z ≤ i) w1 W → RefAt W T hi cap (moveT cap t side n) ∧ Goes (Rin T hi) w W := fun W hgs => ⟨HT1.out.goes hgs (fun i h e => by have := h.2; omega), goes_new (N := z) (by rw [← hz]; exact HG1.out) hgs hz⟩
  clear HT1 HG1
  refine bodyPost_ret (results_cell rfl _ _ (by rfl) (said_load (by go_simp) (by go_simp) (by go_simp))) rfl ⟨rfl, ?_⟩
  refine key _ ?_
  repeat (first | exact Goes.refl _ _ | refine Goes.trans ?_ (goes_set _ _ _ _ (by omega)))
set_option maxRecDepth 100000 in
set_option maxHeartbeats 4000000 in
theorem want4 (T hi cap : Nat) (t : Tn) (side n : Int) (s : ByteArray) (hs : s.size ≤ 5000) (hm : t.Sm) (w : World) (h : RefAt w T hi cap t) :
    Calls Tryz.prog 18 #[.pointer (some ⟨T, 0, none⟩), .agg #[.int .i64 4, .int .i64 side, .int .i64 n, .string s]] w fun y w' => y = .returned (.agg #[.int .i64 (0), .string (str (drainS t side n)), .int .i64 (drainE side)]) ∧ RefAt w' T hi cap (drainT t side n) ∧ Goes (Rin T hi) w w' := by
  have lz : hi ≤ w.heap.size := by obtain ⟨_, _, _, q⟩ := h; exact q.lz
  have hB : Below w.heap.size w (doV w (.int .i64 4) (.int .i64 side) (.int .i64 n) (.string s)) := bal (bal (below_alloc w _) _) _
  have HB := Lib.hid hB
  have HT := Lib.hid (h.below hB)
  have HF := Lib.hid (show BoxS (doV w (.int .i64 4) (.int .i64 side) (.int .i64 n) (.string s)) (w.heap.size + 1) ∧ BoxS (doV w (.int .i64 4) (.int .i64 side) (.int .i64 n) (.string s)) (w.heap.size + 2) from ⟨by constructor <;> go_simp, by constructor <;> go_simp⟩)
  have HC := Lib.hid (rdrain_c T hi cap t side n _ hm HT.out)
  obtain ⟨EE, hE⟩ : ∃ v : Int, (drainE side) = v := ⟨_, rfl⟩
  rw [hE] at HC ⊢
  clear hE
  obtain ⟨SS, hS⟩ : ∃ v : ByteArray, (str (drainS t side n)) = v := ⟨_, rfl⟩
  rw [hS] at HC ⊢
  clear hS
  clear h hB
  go_enter Tryz.func18, Tryz.ntmps18
  go_wp2_with fail
  go_at_call 36
  refine HC.out.mono ?_
  rintro e w1 ⟨rfl, ht, hg⟩
  obtain ⟨⟨a0, a1, a2, b0, b1, b2⟩, ⟨c0, c1, c2, d0, d1, d2⟩⟩ := boxS2_on HF.out hg lz
  have HT1 := Lib.hid ht
  have HG1 : Hid (Goes (fun i => Rin T hi i ∨ w.heap.size ≤ i) w w1) := Lib.hid ((Goes.of_below HB.out).trans (hg.mono (fun _ h => .inl h)))
  clear ht hg HF HC
  obtain ⟨z, hz⟩ : ∃ z, w.heap.size = z := ⟨_, rfl⟩
  rw [hz] at a0 a1 a2 b0 b1 b2 c0 c1 c2 d0 d1 d2 ⊢
  have hne : z + 1 ≠ z + 2 := by omega
  go_wp2
  rw [hz] at lz
  have key : ∀ W, Goes (fun i => z ≤ i) w1 W → RefAt W T hi cap (drainT t side n) ∧ Goes (Rin T hi) w W := fun W hgs => ⟨HT1.out.goes hgs (fun i h e => by have := h.2; omega), goes_new (N := z) (by rw [← hz]; exact HG1.out) hgs hz⟩
  clear HT1 HG1
  refine bodyPost_ret (results_cell rfl _ _ (by rfl) (said_load (by go_simp) (by go_simp) (by go_simp))) rfl ⟨rfl, ?_⟩
  refine key _ ?_
  repeat (first | exact Goes.refl _ _ | refine Goes.trans ?_ (goes_set _ _ _ _ (by omega)))
set_option maxRecDepth 100000 in
set_option maxHeartbeats 4000000 in
theorem want5 (T hi cap : Nat) (t : Tn) (side n : Int) (s : ByteArray) (hs : s.size ≤ 5000) (hm : t.Sm) (w : World) (h : RefAt w T hi cap t) :
    Calls Tryz.prog 18 #[.pointer (some ⟨T, 0, none⟩), .agg #[.int .i64 5, .int .i64 side, .int .i64 n, .string s]] w fun y w' => y = .returned (.agg #[.int .i64 ((stopN t : Nat)), .string (⟨#[]⟩), .int .i64 (0)]) ∧ RefAt w' T hi cap (stopT t) ∧ Goes (Rin T hi) w w' := by
  have lz : hi ≤ w.heap.size := by obtain ⟨_, _, _, q⟩ := h; exact q.lz
  have hB : Below w.heap.size w (doV w (.int .i64 5) (.int .i64 side) (.int .i64 n) (.string s)) := bal (bal (below_alloc w _) _) _
  have HB := Lib.hid hB
  have HT := Lib.hid (h.below hB)
  have HF := Lib.hid (show BoxS (doV w (.int .i64 5) (.int .i64 side) (.int .i64 n) (.string s)) (w.heap.size + 1) ∧ BoxS (doV w (.int .i64 5) (.int .i64 side) (.int .i64 n) (.string s)) (w.heap.size + 2) from ⟨by constructor <;> go_simp, by constructor <;> go_simp⟩)
  have HC := Lib.hid (rstop_c T hi cap t _ HT.out)
  obtain ⟨NN, hN⟩ : ∃ v : Int, ((stopN t : Nat)) = v := ⟨_, rfl⟩
  rw [hN] at HC ⊢
  clear hN
  clear h hB
  go_enter Tryz.func18, Tryz.ntmps18
  go_wp2_with fail
  go_at_call 37
  refine HC.out.mono ?_
  rintro e w1 ⟨rfl, ht, hg⟩
  obtain ⟨⟨a0, a1, a2, b0, b1, b2⟩, ⟨c0, c1, c2, d0, d1, d2⟩⟩ := boxS2_on HF.out hg lz
  have HT1 := Lib.hid ht
  have HG1 : Hid (Goes (fun i => Rin T hi i ∨ w.heap.size ≤ i) w w1) := Lib.hid ((Goes.of_below HB.out).trans (hg.mono (fun _ h => .inl h)))
  clear ht hg HF HC
  obtain ⟨z, hz⟩ : ∃ z, w.heap.size = z := ⟨_, rfl⟩
  rw [hz] at a0 a1 a2 b0 b1 b2 c0 c1 c2 d0 d1 d2 ⊢
  have hne : z + 1 ≠ z + 2 := by omega
  go_wp2
  rw [hz] at lz
  have key : ∀ W, Goes (fun i => z ≤ i) w1 W → RefAt W T hi cap (stopT t) ∧ Goes (Rin T hi) w W := fun W hgs => ⟨HT1.out.goes hgs (fun i h e => by have := h.2; omega), goes_new (N := z) (by rw [← hz]; exact HG1.out) hgs hz⟩
  clear HT1 HG1
  refine bodyPost_ret (results_cell rfl _ _ (by rfl) (said_load (by go_simp) (by go_simp) (by go_simp))) rfl ⟨rfl, ?_⟩
  refine key _ ?_
  repeat (first | exact Goes.refl _ _ | refine Goes.trans ?_ (goes_set _ _ _ _ (by omega)))
set_option maxRecDepth 100000 in
set_option maxHeartbeats 4000000 in
theorem want6 (k : Int) (hk0 : k ≠ 0) (hk1 : k ≠ 1) (hk2 : k ≠ 2) (hk3 : k ≠ 3) (hk4 : k ≠ 4) (hk5 : k ≠ 5) (T hi cap : Nat) (t : Tn) (side n : Int) (s : ByteArray) (hs : s.size ≤ 5000) (hm : t.Sm) (w : World) (h : RefAt w T hi cap t) :
    Calls Tryz.prog 18 #[.pointer (some ⟨T, 0, none⟩), .agg #[.int .i64 k, .int .i64 side, .int .i64 n, .string s]] w fun y w' => y = .returned (.agg #[.int .i64 (0), .string (⟨#[]⟩), .int .i64 (0)]) ∧ RefAt w' T hi cap (t) ∧ Goes (Rin T hi) w w' := by
  have lz : hi ≤ w.heap.size := by obtain ⟨_, _, _, q⟩ := h; exact q.lz
  have hB : Below w.heap.size w (doV w (.int .i64 k) (.int .i64 side) (.int .i64 n) (.string s)) := bal (bal (below_alloc w _) _) _
  have HB := Lib.hid hB
  have HT := Lib.hid (h.below hB)
  have HF := Lib.hid (show BoxS (doV w (.int .i64 k) (.int .i64 side) (.int .i64 n) (.string s)) (w.heap.size + 1) ∧ BoxS (doV w (.int .i64 k) (.int .i64 side) (.int .i64 n) (.string s)) (w.heap.size + 2) from ⟨by constructor <;> go_simp, by constructor <;> go_simp⟩)
  have e0 : (k == 0) = false := by simpa using hk0
  have e1 : (k == 1) = false := by simpa using hk1
  have e2 : (k == 2) = false := by simpa using hk2
  have e3 : (k == 3) = false := by simpa using hk3
  have e4 : (k == 4) = false := by simpa using hk4
  have e5 : (k == 5) = false := by simpa using hk5
  clear h hB
  go_enter Tryz.func18, Tryz.ntmps18
  go_wp2_with fail
  obtain ⟨⟨a0, a1, a2, b0, b1, b2⟩, ⟨c0, c1, c2, d0, d1, d2⟩⟩ := HF.out
  have key : ∀ W, Goes (fun i => w.heap.size ≤ i) (doV w (.int .i64 k) (.int .i64 side) (.int .i64 n) (.string s)) W → RefAt W T hi cap (t) ∧ Goes (Rin T hi) w W := fun W hgs => ⟨HT.out.goes hgs (fun i h e => by have := h.2; omega), goes_new (N := w.heap.size) (Goes.of_below HB.out) hgs rfl⟩
  clear HT HB HF
  refine bodyPost_ret (results_cell rfl _ _ (by rfl) (said_load (by go_simp) (by go_simp) (by go_simp))) rfl ⟨rfl, ?_⟩
  refine key _ ?_
  repeat (first | exact Goes.refl _ _ | refine Goes.trans ?_ (goes_set _ _ _ _ (by omega)))
/-- A call's answer. -/
theorem want_c (T hi cap : Nat) (t : Tn) (x : OpV) (hs : x.s.size ≤ 5000) (hm : t.Sm) (w : World) (h : RefAt w T hi cap t) :
    Calls Tryz.prog 18 #[.pointer (some ⟨T, 0, none⟩), opV x] w fun y w' => y = .returned (.agg #[.int .i64 (doN cap t x : Nat), .string (str (doS t x)), .int .i64 (doE t x)]) ∧ RefAt w' T hi cap (doT cap t x) ∧ Goes (Rin T hi) w w' := by
  obtain ⟨k, side, n, s⟩ := x
  by_cases k0 : k = 0
  · subst k0; exact want0 T hi cap t side n s hs hm w h
  by_cases k1 : k = 1
  · subst k1; exact want1 T hi cap t side n s hs hm w h
  by_cases k2 : k = 2
  · subst k2; exact want2 T hi cap t side n s hs hm w h
  by_cases k3 : k = 3
  · subst k3; exact want3 T hi cap t side n s hs hm w h
  by_cases k4 : k = 4
  · subst k4; exact want4 T hi cap t side n s hs hm w h
  by_cases k5 : k = 5
  · subst k5; exact want5 T hi cap t side n s hs hm w h
  have := want6 k k0 k1 k2 k3 k4 k5 T hi cap t side n s hs hm w h
  unfold doN doS doE doT
  simp only [k0, k1, k2, k3, k4, k5, if_false]
  exact this
end Go.Proofs.YtkokcfhfgnkdfaaGreatDoor.L17

/- same: are a direction's counts the same? -/
namespace Go.Proofs.YtkokcfhfgnkdfaaGreatDoor.L17
open Go.RowKit Go.Shelf
open L1 (str)
open L14 (isSt goes dest inB outB endB Laid)
attribute [local go_sem] Oper.semAt_some
set_option maxRecDepth 100000 in
set_option maxHeartbeats 4000000 in
theorem rcounts_c (R hi cap : Nat) (t : Tn) (d : Int) (w : World) (h : RefAt w R hi cap t) :
    Calls Tryz.prog 38 #[.pointer (some ⟨R, 0, none⟩), .int .i64 d] w fun x w' => x = .returned (.tuple #[.int .i64 (cntF t d : Nat), .int .i64 (cntM t d : Nat), .int .i64 (cntD t d : Nat)]) ∧ Below w.heap.size w w' := by
  by_cases h0 : d = 0
  · subst h0; exact rcounts_0 R hi cap t w h
  by_cases h1 : d = 1
  · subst h1; exact rcounts_1 R hi cap t w h
  have hn := side_no h0 h1
  have HS := Lib.hid (fun W => (by have := rside_c d W; rw [hn] at this; exact this : Calls Tryz.prog 63 #[.int .i64 d] W fun x w' => x = .returned (.bool false) ∧ W = w'))
  have e1 : cntF t d = 0 := by unfold cntF; rw [if_neg (by rw [hn]; decide)]
  have e2 : cntM t d = 0 := by unfold cntM; rw [if_neg (by rw [hn]; decide)]
  have e3 : cntD t d = 0 := by unfold cntD; rw [if_neg (by rw [hn]; decide)]
  rw [e1, e2, e3]
  clear h0 h1 hn e1 e2 e3 h
  go_enter Tryz.func38, Tryz.ntmps38
  go_wp2_with (go_at_call 63; refine (HS.out _).mono ?_; rintro e w1 ⟨rfl, rfl⟩)
  go_ret3
  exact ⟨rfl, Below.refl _ _⟩
set_option maxRecDepth 100000 in
set_option maxHeartbeats 4000000 in
theorem same_c (T hi R hj cap : Nat) (t : Tn) (d : Int) (w : World) (h : TunAt w T hi cap t) (k : RefAt w R hj cap t) (hd : hi ≤ R) :
    Calls Tryz.prog 19 #[.pointer (some ⟨T, 0, none⟩), .pointer (some ⟨R, 0, none⟩), .int .i64 d] w fun x w' => x = .returned (.bool true) ∧ TunAt w' T hi cap t ∧ RefAt w' R hj cap t ∧ Goes (Rin T hi) w w' := by
  have HC := Lib.hid (tcounts_c T hi cap t d w h)
  have HR := Lib.hid (fun W k => rcounts_c R hj cap t d W k)
  have HK := Lib.hid k
  clear h k
  generalize cntF t d = F6 at *
  generalize cntM t d = M6 at *
  generalize cntD t d = D6 at *
  go_enter Tryz.func19, Tryz.ntmps19
  go_wp2_with (first
    | (go_at_call 21; refine HC.out.mono ?_; rintro e w1 ⟨rfl, ht, hg⟩
       have HT1 := Lib.hid ht
       have HG1 := Lib.hid hg
       have HK1 := Lib.hid (HK.out.goes hg (fun i h e => by have := h.1; have := e.2; omega))
       clear ht hg HC HK)
    | (go_at_call 38; refine (HR.out _ HK1.out).mono ?_; rintro e w2 ⟨rfl, hb⟩
       have HT2 := Lib.hid (HT1.out.below hb)
       have HK2 := Lib.hid (HK1.out.below hb)
       have HG2 := Lib.hid (HG1.out.trans (Goes.of_below hb))
       clear hb HT1 HK1 HG1))
  go_ret
  exact ⟨rfl, HT2.out, HK2.out, HG2.out⟩
end Go.Proofs.YtkokcfhfgnkdfaaGreatDoor.L17

/- The document's tunnel: New. -/
namespace Go.Proofs.YtkokcfhfgnkdfaaGreatDoor.L17
open Go.RowKit Go.Shelf
open L1 (str IsR Off)
open L14 (isSt goes dest inB outB endB Laid)
attribute [local go_sem] Oper.semAt_some
set_option maxRecDepth 100000 in
set_option maxHeartbeats 4000000 in
theorem rtnew_err (n : Int) (h : n < 1 ∨ 4096 < n) (w : World) :
    Calls Tryz.prog 13 #[.int .i64 n] w fun x w' => x = .returned (.tuple #[.pointer none, .int .i64 2]) ∧ Below w.heap.size w w' := by
  have HN := Lib.hid (fun W => L1.rnew_err n h W)
  clear h
  go_enter Tryz.func13, Tryz.ntmps13
  go_wp2_with fail
  refine wp_loop_rounds 1 ?_
  rw [rounds_succ]
  go_wp2_with (go_at_call 27; refine (HN.out _).mono ?_; rintro x w1 ⟨rfl, rfl⟩)
  go_ret2
  exact ⟨rfl, below_alloc _ _⟩
set_option maxRecDepth 100000 in
set_option maxHeartbeats 4000000 in
theorem rtnew_ok (n : Nat) (h1 : 1 ≤ n) (h2 : n ≤ 4096) (w : World) :
    Calls Tryz.prog 13 #[.int .i64 n] w fun x w' => ∃ R hi, x = .returned (.tuple #[.pointer (some ⟨R, 0, none⟩), .int .i64 0]) ∧ RefAt w' R hi n Tn.new ∧ w.heap.size ≤ R ∧ Below w.heap.size w w' := by
  have HN := Lib.hid (fun W => L1.rnew_ok n h1 h2 W)
  have x0 : (w.alloc (.cells #[.int .i64 0, .pointer none, .pointer none] 43)).cell? ⟨w.heap.size, 0, none⟩ = some (.int .i64 0) := by go_simp
  have x1 : (w.alloc (.cells #[.int .i64 0, .pointer none, .pointer none] 43)).cell? ⟨w.heap.size, 1, none⟩ = some (.pointer none) := by go_simp
  have x2 : (w.alloc (.cells #[.int .i64 0, .pointer none, .pointer none] 43)).cell? ⟨w.heap.size, 2, none⟩ = some (.pointer none) := by go_simp
  have z0 : (w.alloc (.cells #[.int .i64 0, .pointer none, .pointer none] 43)).frozen? ⟨w.heap.size, 0, none⟩ = false := by go_simp
  have z1 : (w.alloc (.cells #[.int .i64 0, .pointer none, .pointer none] 43)).frozen? ⟨w.heap.size, 1, none⟩ = false := by go_simp
  have z2 : (w.alloc (.cells #[.int .i64 0, .pointer none, .pointer none] 43)).frozen? ⟨w.heap.size, 2, none⟩ = false := by go_simp
  have hsz : (w.alloc (.cells #[.int .i64 0, .pointer none, .pointer none] 43)).heap.size = w.heap.size + 1 := World.size_alloc ..
  have HB0 := Lib.hid (below_alloc w (.cells #[.int .i64 0, .pointer none, .pointer none] 43))
  go_enter Tryz.func13, Tryz.ntmps13
  go_wp2_with fail
  obtain ⟨R, hR⟩ : ∃ R, w.heap.size = R := ⟨_, rfl⟩
  rw [hR] at x0 x1 x2 z0 z1 z2 hsz ⊢
  generalize (w.alloc (.cells #[.int .i64 0, .pointer none, .pointer none] 43)) = v0 at *
  have HSz := Lib.hid hsz
  clear hsz
  refine wp_loop_rounds 3 ?_
  rw [rounds_succ]
  go_wp2_with fail
  go_at_call 27
  refine (HN.out _).mono ?_
  rintro x w1 ⟨rfl, hi1, hb1⟩
  replace z0 := (hb1.frozen (p := ⟨R, 0, none⟩) (blt x0)).trans z0
  replace x0 := (hb1.cell (p := ⟨R, 0, none⟩) (blt x0)).trans x0
  replace z1 := (hb1.frozen (p := ⟨R, 1, none⟩) (blt x1)).trans z1
  replace x1 := (hb1.cell (p := ⟨R, 1, none⟩) (blt x1)).trans x1
  replace z2 := (hb1.frozen (p := ⟨R, 2, none⟩) (blt x2)).trans z2
  replace x2 := (hb1.cell (p := ⟨R, 2, none⟩) (blt x2)).trans x2
  have hs1 := hb1.size
  obtain ⟨G1, hG1⟩ : ∃ G, v0.heap.size = G := ⟨_, rfl⟩
  rw [hG1] at hi1 hs1 ⊢
  have HB1 := Lib.hid hb1
  have HI1 := Lib.hid hi1
  have HG1 := Lib.hid hG1
  clear hi1 hb1 hG1
  go_wp2_with fail
  go_at_call 27
  refine (HN.out _).mono ?_
  rintro x w2 ⟨rfl, hi2, hb2⟩
  replace z0 := (hb2.frozen (p := ⟨R, 0, none⟩) (blt x0)).trans z0
  replace x0 := (hb2.cell (p := ⟨R, 0, none⟩) (blt x0)).trans x0
  replace z1 := (hb2.frozen (p := ⟨R, 1, none⟩) (blt x1)).trans z1
  replace x1 := (hb2.cell (p := ⟨R, 1, none⟩) (blt x1)).trans x1
  replace z2 := (hb2.frozen (p := ⟨R, 2, none⟩) (blt x2)).trans z2
  replace x2 := (hb2.cell (p := ⟨R, 2, none⟩) (blt x2)).trans x2
  have hs2 := hb2.size
  obtain ⟨G2, hG2⟩ : ∃ G, w1.heap.size = G := ⟨_, rfl⟩
  rw [hG2] at hi2 hs2 ⊢
  have HB2 := Lib.hid hb2
  have HI2 := Lib.hid hi2
  have HG2 := Lib.hid hG2
  clear hi2 hb2 hG2
  have q0 : (w2.alloc (.cells #[.pointer (some ⟨G1, 0, none⟩), .pointer (some ⟨G2, 0, none⟩), .int .i64 0, .int .i64 0, .int .i64 0, .int .i64 0, .int .i64 0] 76)).cell? ⟨R, 0, none⟩ = some _ := keep_alloc _ x0
  have qz0 : (w2.alloc (.cells #[.pointer (some ⟨G1, 0, none⟩), .pointer (some ⟨G2, 0, none⟩), .int .i64 0, .int .i64 0, .int .i64 0, .int .i64 0, .int .i64 0] 76)).frozen? ⟨R, 0, none⟩ = false := keep_alloc_fr _ x0 z0
  have q1 : (w2.alloc (.cells #[.pointer (some ⟨G1, 0, none⟩), .pointer (some ⟨G2, 0, none⟩), .int .i64 0, .int .i64 0, .int .i64 0, .int .i64 0, .int .i64 0] 76)).cell? ⟨R, 1, none⟩ = some _ := keep_alloc _ x1
  have qz1 : (w2.alloc (.cells #[.pointer (some ⟨G1, 0, none⟩), .pointer (some ⟨G2, 0, none⟩), .int .i64 0, .int .i64 0, .int .i64 0, .int .i64 0, .int .i64 0] 76)).frozen? ⟨R, 1, none⟩ = false := keep_alloc_fr _ x1 z1
  have q2 : (w2.alloc (.cells #[.pointer (some ⟨G1, 0, none⟩), .pointer (some ⟨G2, 0, none⟩), .int .i64 0, .int .i64 0, .int .i64 0, .int .i64 0, .int .i64 0] 76)).cell? ⟨R, 2, none⟩ = some _ := keep_alloc _ x2
  have qz2 : (w2.alloc (.cells #[.pointer (some ⟨G1, 0, none⟩), .pointer (some ⟨G2, 0, none⟩), .int .i64 0, .int .i64 0, .int .i64 0, .int .i64 0, .int .i64 0] 76)).frozen? ⟨R, 2, none⟩ = false := keep_alloc_fr _ x2 z2
  have c0 : (w2.alloc (.cells #[.pointer (some ⟨G1, 0, none⟩), .pointer (some ⟨G2, 0, none⟩), .int .i64 0, .int .i64 0, .int .i64 0, .int .i64 0, .int .i64 0] 76)).cell? ⟨w2.heap.size, 0, none⟩ = some (.pointer (some ⟨G1, 0, none⟩)) := by go_simp
  have c1 : (w2.alloc (.cells #[.pointer (some ⟨G1, 0, none⟩), .pointer (some ⟨G2, 0, none⟩), .int .i64 0, .int .i64 0, .int .i64 0, .int .i64 0, .int .i64 0] 76)).cell? ⟨w2.heap.size, 1, none⟩ = some (.pointer (some ⟨G2, 0, none⟩)) := by go_simp
  have c2 : (w2.alloc (.cells #[.pointer (some ⟨G1, 0, none⟩), .pointer (some ⟨G2, 0, none⟩), .int .i64 0, .int .i64 0, .int .i64 0, .int .i64 0, .int .i64 0] 76)).cell? ⟨w2.heap.size, 2, none⟩ = some (.int .i64 0) := by go_simp
  have f2 : (w2.alloc (.cells #[.pointer (some ⟨G1, 0, none⟩), .pointer (some ⟨G2, 0, none⟩), .int .i64 0, .int .i64 0, .int .i64 0, .int .i64 0, .int .i64 0] 76)).frozen? ⟨w2.heap.size, 2, none⟩ = false := by go_simp
  have c3 : (w2.alloc (.cells #[.pointer (some ⟨G1, 0, none⟩), .pointer (some ⟨G2, 0, none⟩), .int .i64 0, .int .i64 0, .int .i64 0, .int .i64 0, .int .i64 0] 76)).cell? ⟨w2.heap.size, 3, none⟩ = some (.int .i64 0) := by go_simp
  have f3 : (w2.alloc (.cells #[.pointer (some ⟨G1, 0, none⟩), .pointer (some ⟨G2, 0, none⟩), .int .i64 0, .int .i64 0, .int .i64 0, .int .i64 0, .int .i64 0] 76)).frozen? ⟨w2.heap.size, 3, none⟩ = false := by go_simp
  have c4 : (w2.alloc (.cells #[.pointer (some ⟨G1, 0, none⟩), .pointer (some ⟨G2, 0, none⟩), .int .i64 0, .int .i64 0, .int .i64 0, .int .i64 0, .int .i64 0] 76)).cell? ⟨w2.heap.size, 4, none⟩ = some (.int .i64 0) := by go_simp
  have f4 : (w2.alloc (.cells #[.pointer (some ⟨G1, 0, none⟩), .pointer (some ⟨G2, 0, none⟩), .int .i64 0, .int .i64 0, .int .i64 0, .int .i64 0, .int .i64 0] 76)).frozen? ⟨w2.heap.size, 4, none⟩ = false := by go_simp
  have c5 : (w2.alloc (.cells #[.pointer (some ⟨G1, 0, none⟩), .pointer (some ⟨G2, 0, none⟩), .int .i64 0, .int .i64 0, .int .i64 0, .int .i64 0, .int .i64 0] 76)).cell? ⟨w2.heap.size, 5, none⟩ = some (.int .i64 0) := by go_simp
  have f5 : (w2.alloc (.cells #[.pointer (some ⟨G1, 0, none⟩), .pointer (some ⟨G2, 0, none⟩), .int .i64 0, .int .i64 0, .int .i64 0, .int .i64 0, .int .i64 0] 76)).frozen? ⟨w2.heap.size, 5, none⟩ = false := by go_simp
  have c6 : (w2.alloc (.cells #[.pointer (some ⟨G1, 0, none⟩), .pointer (some ⟨G2, 0, none⟩), .int .i64 0, .int .i64 0, .int .i64 0, .int .i64 0, .int .i64 0] 76)).cell? ⟨w2.heap.size, 6, none⟩ = some (.int .i64 0) := by go_simp
  have f6 : (w2.alloc (.cells #[.pointer (some ⟨G1, 0, none⟩), .pointer (some ⟨G2, 0, none⟩), .int .i64 0, .int .i64 0, .int .i64 0, .int .i64 0, .int .i64 0] 76)).frozen? ⟨w2.heap.size, 6, none⟩ = false := by go_simp
  have hzW : (w2.alloc (.cells #[.pointer (some ⟨G1, 0, none⟩), .pointer (some ⟨G2, 0, none⟩), .int .i64 0, .int .i64 0, .int .i64 0, .int .i64 0, .int .i64 0] 76)).heap.size = w2.heap.size + 1 := World.size_alloc ..
  have hBW : Below w2.heap.size w2 (w2.alloc (.cells #[.pointer (some ⟨G1, 0, none⟩), .pointer (some ⟨G2, 0, none⟩), .int .i64 0, .int .i64 0, .int .i64 0, .int .i64 0, .int .i64 0] 76)) := below_alloc w2 _
  go_wp2_with fail
  clear x0 x1 x2 z0 z1 z2
  obtain ⟨Y0, hY0⟩ : ∃ Y, w2.heap.size = Y := ⟨_, rfl⟩
  have HBW := Lib.hid hBW
  have HY := Lib.hid hY0
  rw [hY0] at c0 c1 c2 c3 c4 c5 c6 f2 f3 f4 f5 f6 hzW hs2 ⊢
  clear hBW hY0
  generalize (w2.alloc (.cells #[.pointer (some ⟨G1, 0, none⟩), .pointer (some ⟨G2, 0, none⟩), .int .i64 0, .int .i64 0, .int .i64 0, .int .i64 0, .int .i64 0] 76)) = V0 at *
  have hG1 := HG1.out
  have hG2 := HG2.out
  have g0 : Goes (fun i => R ≤ i) v0 V0 := (Goes.of_below HB1.out).trans ((Goes.of_below HB2.out).trans (Goes.of_below HBW.out))
  have hge : Goes (fun _ => False) w2 V0 := Goes.of_below HBW.out
  have hge1 : Goes (fun _ => False) w1 w2 := Goes.of_below HB2.out
  have hlt0 : R < Y0 := by have := HSz.out; have := HI1.out.lt; have := HI2.out.lt; have := HY.out; omega
  have hW0 : RWayQ V0 (R + 1) (Y0 + 1) Y0 G1 G2 n Wy.zero := ⟨c0, c1, c2, f2, c3, f3, c4, f4, c5, f5, c6, f6, isr_goes (isr_goes HI1.out hge1 (fun e => e)) hge (fun e => e), isr_goes HI2.out hge (fun e => e), by have := HSz.out; omega, by have := blt c0; have := HI1.out.lt; omega, by have := HI2.out.lt; have := HY.out; omega, by omega, ⟨Nat.zero_le _, Nat.zero_le _, by decide, by decide, by decide, by decide⟩⟩
  have hst : Goes (fun i => i = R) V0 (V0.setCell ⟨R, 1, none⟩ (.pointer (some ⟨Y0, 0, none⟩))) := goes_set _ _ _ _ rfl
  have hV0 := hW0.goes hst (fun i h e => by have := h.1; omega)
  have gg0 : Goes (fun i => R ≤ i) v0 (V0.setCell ⟨R, 1, none⟩ (.pointer (some ⟨Y0, 0, none⟩))) := g0.trans (hst.mono (fun i e => by omega))
  have x0 := (cell_oth V0 R 1 0 (.pointer (some ⟨Y0, 0, none⟩)) (by decide)).trans q0
  have x1 := World.cell?_setCell_same' V0 ⟨R, 1, none⟩ (.pointer (some ⟨Y0, 0, none⟩)) (by rw [q1]; rfl)
  have x2 := (cell_oth V0 R 1 2 (.pointer (some ⟨Y0, 0, none⟩)) (by decide)).trans q2
  have z0 := (World.frozen?_setCell V0 ⟨R, 1, none⟩ ⟨R, 0, none⟩ (.pointer (some ⟨Y0, 0, none⟩))).trans qz0
  have z1 := (World.frozen?_setCell V0 ⟨R, 1, none⟩ ⟨R, 1, none⟩ (.pointer (some ⟨Y0, 0, none⟩))).trans qz1
  have z2 := (World.frozen?_setCell V0 ⟨R, 1, none⟩ ⟨R, 2, none⟩ (.pointer (some ⟨Y0, 0, none⟩))).trans qz2
  have hzU0 : (V0.setCell ⟨R, 1, none⟩ (.pointer (some ⟨Y0, 0, none⟩))).heap.size = Y0 + 1 := by rw [← hzW]; simp [World.setCell]
  have HGG0 := Lib.hid gg0
  have HRW0 := Lib.hid hV0
  clear c0 c1 c2 c3 c4 c5 c6 f2 f3 f4 f5 f6 q0 q1 q2 qz0 qz1 qz2 hst hV0 gg0 hge hge1 hW0 g0 hzW HBW HB1 HB2 HI1 HI2 hG1 hG2 HY
  generalize (V0.setCell ⟨R, 1, none⟩ (.pointer (some ⟨Y0, 0, none⟩))) = u0 at *
  rw [rounds_succ]
  go_wp2_with fail
  go_at_call 27
  refine (HN.out _).mono ?_
  rintro x w3 ⟨rfl, hi3, hb3⟩
  replace z0 := (hb3.frozen (p := ⟨R, 0, none⟩) (blt x0)).trans z0
  replace x0 := (hb3.cell (p := ⟨R, 0, none⟩) (blt x0)).trans x0
  replace z1 := (hb3.frozen (p := ⟨R, 1, none⟩) (blt x1)).trans z1
  replace x1 := (hb3.cell (p := ⟨R, 1, none⟩) (blt x1)).trans x1
  replace z2 := (hb3.frozen (p := ⟨R, 2, none⟩) (blt x2)).trans z2
  replace x2 := (hb3.cell (p := ⟨R, 2, none⟩) (blt x2)).trans x2
  have hs3 := hb3.size
  obtain ⟨G3, hG3⟩ : ∃ G, u0.heap.size = G := ⟨_, rfl⟩
  rw [hG3] at hi3 hs3 ⊢
  have HB3 := Lib.hid hb3
  have HI3 := Lib.hid hi3
  have HG3 := Lib.hid hG3
  clear hi3 hb3 hG3
  go_wp2_with fail
  go_at_call 27
  refine (HN.out _).mono ?_
  rintro x w4 ⟨rfl, hi4, hb4⟩
  replace z0 := (hb4.frozen (p := ⟨R, 0, none⟩) (blt x0)).trans z0
  replace x0 := (hb4.cell (p := ⟨R, 0, none⟩) (blt x0)).trans x0
  replace z1 := (hb4.frozen (p := ⟨R, 1, none⟩) (blt x1)).trans z1
  replace x1 := (hb4.cell (p := ⟨R, 1, none⟩) (blt x1)).trans x1
  replace z2 := (hb4.frozen (p := ⟨R, 2, none⟩) (blt x2)).trans z2
  replace x2 := (hb4.cell (p := ⟨R, 2, none⟩) (blt x2)).trans x2
  have hs4 := hb4.size
  obtain ⟨G4, hG4⟩ : ∃ G, w3.heap.size = G := ⟨_, rfl⟩
  rw [hG4] at hi4 hs4 ⊢
  have HB4 := Lib.hid hb4
  have HI4 := Lib.hid hi4
  have HG4 := Lib.hid hG4
  clear hi4 hb4 hG4
  have q0 : (w4.alloc (.cells #[.pointer (some ⟨G3, 0, none⟩), .pointer (some ⟨G4, 0, none⟩), .int .i64 0, .int .i64 0, .int .i64 0, .int .i64 0, .int .i64 0] 76)).cell? ⟨R, 0, none⟩ = some _ := keep_alloc _ x0
  have qz0 : (w4.alloc (.cells #[.pointer (some ⟨G3, 0, none⟩), .pointer (some ⟨G4, 0, none⟩), .int .i64 0, .int .i64 0, .int .i64 0, .int .i64 0, .int .i64 0] 76)).frozen? ⟨R, 0, none⟩ = false := keep_alloc_fr _ x0 z0
  have q1 : (w4.alloc (.cells #[.pointer (some ⟨G3, 0, none⟩), .pointer (some ⟨G4, 0, none⟩), .int .i64 0, .int .i64 0, .int .i64 0, .int .i64 0, .int .i64 0] 76)).cell? ⟨R, 1, none⟩ = some _ := keep_alloc _ x1
  have qz1 : (w4.alloc (.cells #[.pointer (some ⟨G3, 0, none⟩), .pointer (some ⟨G4, 0, none⟩), .int .i64 0, .int .i64 0, .int .i64 0, .int .i64 0, .int .i64 0] 76)).frozen? ⟨R, 1, none⟩ = false := keep_alloc_fr _ x1 z1
  have q2 : (w4.alloc (.cells #[.pointer (some ⟨G3, 0, none⟩), .pointer (some ⟨G4, 0, none⟩), .int .i64 0, .int .i64 0, .int .i64 0, .int .i64 0, .int .i64 0] 76)).cell? ⟨R, 2, none⟩ = some _ := keep_alloc _ x2
  have qz2 : (w4.alloc (.cells #[.pointer (some ⟨G3, 0, none⟩), .pointer (some ⟨G4, 0, none⟩), .int .i64 0, .int .i64 0, .int .i64 0, .int .i64 0, .int .i64 0] 76)).frozen? ⟨R, 2, none⟩ = false := keep_alloc_fr _ x2 z2
  have c0 : (w4.alloc (.cells #[.pointer (some ⟨G3, 0, none⟩), .pointer (some ⟨G4, 0, none⟩), .int .i64 0, .int .i64 0, .int .i64 0, .int .i64 0, .int .i64 0] 76)).cell? ⟨w4.heap.size, 0, none⟩ = some (.pointer (some ⟨G3, 0, none⟩)) := by go_simp
  have c1 : (w4.alloc (.cells #[.pointer (some ⟨G3, 0, none⟩), .pointer (some ⟨G4, 0, none⟩), .int .i64 0, .int .i64 0, .int .i64 0, .int .i64 0, .int .i64 0] 76)).cell? ⟨w4.heap.size, 1, none⟩ = some (.pointer (some ⟨G4, 0, none⟩)) := by go_simp
  have c2 : (w4.alloc (.cells #[.pointer (some ⟨G3, 0, none⟩), .pointer (some ⟨G4, 0, none⟩), .int .i64 0, .int .i64 0, .int .i64 0, .int .i64 0, .int .i64 0] 76)).cell? ⟨w4.heap.size, 2, none⟩ = some (.int .i64 0) := by go_simp
  have f2 : (w4.alloc (.cells #[.pointer (some ⟨G3, 0, none⟩), .pointer (some ⟨G4, 0, none⟩), .int .i64 0, .int .i64 0, .int .i64 0, .int .i64 0, .int .i64 0] 76)).frozen? ⟨w4.heap.size, 2, none⟩ = false := by go_simp
  have c3 : (w4.alloc (.cells #[.pointer (some ⟨G3, 0, none⟩), .pointer (some ⟨G4, 0, none⟩), .int .i64 0, .int .i64 0, .int .i64 0, .int .i64 0, .int .i64 0] 76)).cell? ⟨w4.heap.size, 3, none⟩ = some (.int .i64 0) := by go_simp
  have f3 : (w4.alloc (.cells #[.pointer (some ⟨G3, 0, none⟩), .pointer (some ⟨G4, 0, none⟩), .int .i64 0, .int .i64 0, .int .i64 0, .int .i64 0, .int .i64 0] 76)).frozen? ⟨w4.heap.size, 3, none⟩ = false := by go_simp
  have c4 : (w4.alloc (.cells #[.pointer (some ⟨G3, 0, none⟩), .pointer (some ⟨G4, 0, none⟩), .int .i64 0, .int .i64 0, .int .i64 0, .int .i64 0, .int .i64 0] 76)).cell? ⟨w4.heap.size, 4, none⟩ = some (.int .i64 0) := by go_simp
  have f4 : (w4.alloc (.cells #[.pointer (some ⟨G3, 0, none⟩), .pointer (some ⟨G4, 0, none⟩), .int .i64 0, .int .i64 0, .int .i64 0, .int .i64 0, .int .i64 0] 76)).frozen? ⟨w4.heap.size, 4, none⟩ = false := by go_simp
  have c5 : (w4.alloc (.cells #[.pointer (some ⟨G3, 0, none⟩), .pointer (some ⟨G4, 0, none⟩), .int .i64 0, .int .i64 0, .int .i64 0, .int .i64 0, .int .i64 0] 76)).cell? ⟨w4.heap.size, 5, none⟩ = some (.int .i64 0) := by go_simp
  have f5 : (w4.alloc (.cells #[.pointer (some ⟨G3, 0, none⟩), .pointer (some ⟨G4, 0, none⟩), .int .i64 0, .int .i64 0, .int .i64 0, .int .i64 0, .int .i64 0] 76)).frozen? ⟨w4.heap.size, 5, none⟩ = false := by go_simp
  have c6 : (w4.alloc (.cells #[.pointer (some ⟨G3, 0, none⟩), .pointer (some ⟨G4, 0, none⟩), .int .i64 0, .int .i64 0, .int .i64 0, .int .i64 0, .int .i64 0] 76)).cell? ⟨w4.heap.size, 6, none⟩ = some (.int .i64 0) := by go_simp
  have f6 : (w4.alloc (.cells #[.pointer (some ⟨G3, 0, none⟩), .pointer (some ⟨G4, 0, none⟩), .int .i64 0, .int .i64 0, .int .i64 0, .int .i64 0, .int .i64 0] 76)).frozen? ⟨w4.heap.size, 6, none⟩ = false := by go_simp
  have hzW : (w4.alloc (.cells #[.pointer (some ⟨G3, 0, none⟩), .pointer (some ⟨G4, 0, none⟩), .int .i64 0, .int .i64 0, .int .i64 0, .int .i64 0, .int .i64 0] 76)).heap.size = w4.heap.size + 1 := World.size_alloc ..
  have hBW : Below w4.heap.size w4 (w4.alloc (.cells #[.pointer (some ⟨G3, 0, none⟩), .pointer (some ⟨G4, 0, none⟩), .int .i64 0, .int .i64 0, .int .i64 0, .int .i64 0, .int .i64 0] 76)) := below_alloc w4 _
  go_wp2_with fail
  clear x0 x1 x2 z0 z1 z2
  obtain ⟨Y1, hY1⟩ : ∃ Y, w4.heap.size = Y := ⟨_, rfl⟩
  have HBW := Lib.hid hBW
  have HY := Lib.hid hY1
  rw [hY1] at c0 c1 c2 c3 c4 c5 c6 f2 f3 f4 f5 f6 hzW hs4 ⊢
  clear hBW hY1
  generalize (w4.alloc (.cells #[.pointer (some ⟨G3, 0, none⟩), .pointer (some ⟨G4, 0, none⟩), .int .i64 0, .int .i64 0, .int .i64 0, .int .i64 0, .int .i64 0] 76)) = V1 at *
  have hG3 := HG3.out
  have hG4 := HG4.out
  have g1 : Goes (fun i => Y0 + 1 ≤ i ∨ i = R) u0 V1 := (Goes.of_below HB3.out).trans ((Goes.of_below HB4.out).trans (Goes.of_below HBW.out))
  have hge : Goes (fun _ => False) w4 V1 := Goes.of_below HBW.out
  have hge1 : Goes (fun _ => False) w3 w4 := Goes.of_below HB4.out
  have hlt1 : R < Y1 := by have := HSz.out; have := HI3.out.lt; have := HI4.out.lt; have := HY.out; omega
  have hW1 : RWayQ V1 (Y0 + 1) (Y1 + 1) Y1 G3 G4 n Wy.zero := ⟨c0, c1, c2, f2, c3, f3, c4, f4, c5, f5, c6, f6, isr_goes (isr_goes HI3.out hge1 (fun e => e)) hge (fun e => e), isr_goes HI4.out hge (fun e => e), by have := HSz.out; omega, by have := blt c0; have := HI3.out.lt; omega, by have := HI4.out.lt; have := HY.out; omega, by omega, ⟨Nat.zero_le _, Nat.zero_le _, by decide, by decide, by decide, by decide⟩⟩
  have hst : Goes (fun i => i = R) V1 (V1.setCell ⟨R, 2, none⟩ (.pointer (some ⟨Y1, 0, none⟩))) := goes_set _ _ _ _ rfl
  have hV1 := hW1.goes hst (fun i h e => by have := h.1; omega)
  have gg1 : Goes (fun i => Y0 + 1 ≤ i ∨ i = R) u0 (V1.setCell ⟨R, 2, none⟩ (.pointer (some ⟨Y1, 0, none⟩))) := g1.trans (hst.mono (fun i e => by omega))
  have x0 := (cell_oth V1 R 2 0 (.pointer (some ⟨Y1, 0, none⟩)) (by decide)).trans q0
  have x1 := (cell_oth V1 R 2 1 (.pointer (some ⟨Y1, 0, none⟩)) (by decide)).trans q1
  have x2 := World.cell?_setCell_same' V1 ⟨R, 2, none⟩ (.pointer (some ⟨Y1, 0, none⟩)) (by rw [q2]; rfl)
  have z0 := (World.frozen?_setCell V1 ⟨R, 2, none⟩ ⟨R, 0, none⟩ (.pointer (some ⟨Y1, 0, none⟩))).trans qz0
  have z1 := (World.frozen?_setCell V1 ⟨R, 2, none⟩ ⟨R, 1, none⟩ (.pointer (some ⟨Y1, 0, none⟩))).trans qz1
  have z2 := (World.frozen?_setCell V1 ⟨R, 2, none⟩ ⟨R, 2, none⟩ (.pointer (some ⟨Y1, 0, none⟩))).trans qz2
  have hzU1 : (V1.setCell ⟨R, 2, none⟩ (.pointer (some ⟨Y1, 0, none⟩))).heap.size = Y1 + 1 := by rw [← hzW]; simp [World.setCell]
  have HGG1 := Lib.hid gg1
  have HRW1 := Lib.hid hV1
  clear c0 c1 c2 c3 c4 c5 c6 f2 f3 f4 f5 f6 q0 q1 q2 qz0 qz1 qz2 hst hV1 gg1 hge hge1 hW1 g1 hzW HBW HB3 HB4 HI3 HI4 hG3 hG4 HY
  generalize (V1.setCell ⟨R, 2, none⟩ (.pointer (some ⟨Y1, 0, none⟩))) = u1 at *
  rw [rounds_succ]
  go_wp2
  go_ret2
  have hw0 := HRW0.out.goes (Pv := fun i => Y0 + 1 ≤ i ∨ i = R) HGG1.out (fun i h e => by have := h.1; have := h.2; omega)
  exact ⟨R, Y1 + 1, rfl, ⟨Y0, Y1, Y0 + 1, x0, x1, x2, z0, ⟨_, _, hw0⟩, ⟨_, _, HRW1.out⟩, by omega, by have := HRW1.out.l1; have := HRW1.out.l2; have := HRW1.out.l3; omega, by omega, rfl, h2⟩, Nat.le_of_eq hR, (HGG0.out.trans (HGG1.out.mono (fun i h => by omega))).below HB0.out (fun i h => by omega)⟩
end Go.Proofs.YtkokcfhfgnkdfaaGreatDoor.L17

/- An argument that is a slice of calls, opened. -/
namespace Go.Proofs.YtkokcfhfgnkdfaaGreatDoor.L17
open Go.RowKit Go.ChangeShapes Go.WideShapes Go.Deep

section
variable {H : Type} {enc : TypeId × Value → H} {w : World} {base : Nat} {spare : Nat → Bool} {held : Bool}
instance inhOpV : Inhabited OpV := ⟨⟨0, 0, 0, ⟨#[]⟩⟩⟩
theorem opFields : ∃ f0 f1 f2 f3 : Field, Tryz.prog.underlying 38 = some (.struct #[f0, f1, f2, f3]) ∧ (f0.type = 3 ∧ f0.offset = 0) ∧ (f1.type = 3 ∧ f1.offset = 1) ∧ (f2.type = 3 ∧ f2.offset = 2) ∧ (f3.type = 9 ∧ f3.offset = 3) :=
  ⟨_, _, _, _, Tryz.underlying38, ⟨rfl, rfl⟩, ⟨rfl, rfl⟩, ⟨rfl, rfl⟩, ⟨rfl, rfl⟩⟩
theorem cellsOpV : Tryz.prog.cellsOf 38 = 4 := by kernel_rfl
theorem cellsI : Tryz.prog.cellsOf 3 = 1 := by kernel_rfl
theorem cellsS : Tryz.prog.cellsOf 9 = 1 := by kernel_rfl
theorem cellsB : Tryz.prog.cellsOf 4 = 1 := by kernel_rfl
theorem add_pl (b o : Nat) (i : Nat) : (⟨b, o, none⟩ : Addr).add i = ⟨b, o + i, none⟩ := by unfold Addr.add; split <;> simp_all
theorem open_ops {fuel : Nat} {cs : List Value} {x : DataW H × List MemPlace} (h : DataW.trod enc Tryz.prog w base spare held fuel 22 cs = some x) :
    ∃ (a : Option Addr) (cap : Nat) (xs : List OpV), cs = [.slice a xs.length cap] ∧ OpVAt w.heap.size w a xs ∧ xs.length ≤ 9223372036854775807 := by
  rcases open_slice Tryz.underlying22 h with ⟨rfl, rfl⟩ | ⟨a, len, cap, m, n, D, Pl, rfl, hb, hl, hm, hmm, hx, hi⟩
  · exact ⟨none, 0, [], rfl, OpVAt.nil _ _ _, by simp⟩
  · have hlm : len ≤ m := by rw [hmm]; split <;> omega
    rw [cellsOpV] at hi
    obtain ⟨V, hV⟩ := choose_lt (α := OpV) (n := len) (p := fun i v => w.cell? (a.add (i * 4)) = some (.int .i64 v.kind) ∧ w.cell? ((a.add (i * 4)).add 1) = some (.int .i64 v.side) ∧ w.cell? ((a.add (i * 4)).add 2) = some (.int .i64 v.n) ∧ w.cell? ((a.add (i * 4)).add 3) = some (.string v.s)) (fun i hil => by
      obtain ⟨cs', h1, h2⟩ := hi i (by omega)
      obtain ⟨_, hlen, hcell⟩ := World.cells?_some h1
      match cs', hlen with
      | [c0, c1, c2, c3], _ =>
        have e0 := hcell 0 (by omega)
        have e1 := hcell 1 (by omega)
        have e2 := hcell 2 (by omega)
        have e3 := hcell 3 (by omega)
        obtain ⟨f0, f1, f2, f3, hu, ⟨t0, o0⟩, ⟨t1, o1⟩, ⟨t2, o2⟩, ⟨t3, o3⟩⟩ := opFields
        obtain ⟨ys, n', _, _, _, hyl, hf⟩ := DataW.trod_struct hu h2
        match ys, hyl with
        | [y0, y1, y2, y3], _ =>
          have g0 := hf 0 f0 rfl
          have g1 := hf 1 f1 rfl
          have g2 := hf 2 f2 rfl
          have g3 := hf 3 f3 rfl
          rw [t0, o0, cellsI] at g0
          rw [t1, o1, cellsI] at g1
          rw [t2, o2, cellsI] at g2
          rw [t3, o3, cellsS] at g3
          obtain ⟨k0, hk0, _⟩ := DataW.trod_int Tryz.underlying3 g0
          obtain ⟨k1, hk1, _⟩ := DataW.trod_int Tryz.underlying3 g1
          obtain ⟨k2, hk2, _⟩ := DataW.trod_int Tryz.underlying3 g2
          obtain ⟨k3, hk3, _⟩ := DataW.trod_string Tryz.underlying9 g3
          simp at hk0 hk1 hk2 hk3
          subst hk0 hk1 hk2 hk3
          exact ⟨⟨k0, k1, k2, k3⟩, e0, e1, e2, e3⟩)
    refine ⟨some a, cap, (List.range len).map V, by simp, fun i hil => ?_, by simp; unfold maxLen at hm; omega⟩
    have hil' : i < len := by simpa using hil
    obtain ⟨b, o, spot⟩ := a
    have hs0 := (hV 0 (by omega)).1
    have hspot : spot = none := by
      rw [Nat.zero_mul] at hs0
      simpa [Addr.add] using World.cell?_spot hs0
    subst hspot
    obtain ⟨c0, c1, c2, c3⟩ := hV i hil'
    rw [add_pl] at c0
    rw [add_pl, add_pl] at c1 c2 c3
    refine ⟨b, o, rfl, blt c0, ?_, ?_, ?_, ?_⟩
    · simpa using c0
    · simpa using c1
    · simpa using c2
    · simpa using c3
end
end Go.Proofs.YtkokcfhfgnkdfaaGreatDoor.L17
