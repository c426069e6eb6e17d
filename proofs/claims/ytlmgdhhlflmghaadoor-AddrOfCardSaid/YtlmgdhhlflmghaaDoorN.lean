/- AddrOf: what it says, walked. -/
import Derived.Test.YtlmgdhhlflmghaaDoorL
namespace Go.Proofs.YtlmgdhhlflmghaaDoor
open Go.RowKit Go.Shelf
attribute [local go_sem] Oper.semAt_some


set_option maxRecDepth 100000 in
set_option maxHeartbeats 4000000 in
theorem of_1 (a k l E F : Int) (hE : E = 60 ∧ F = 60 ∨ E = 61 ∧ F = 61) (w : World) (hT : Tabs w)
    (H1' : ∀ W, Calls Tryd.prog 24 #[.int .i64 a, .int .i64 k] W fun x w' => x = .returned (.tuple #[.agg #[.int .i64 0, .int .i64 0], .int .i64 E]) ∧ Below W.heap.size W w')
    (H2' : ∀ W, Calls Tryd.prog 24 #[.int .i64 a, .int .i64 l] W fun x w' => x = .returned (.tuple #[.agg #[.int .i64 0, .int .i64 0], .int .i64 F]) ∧ Below W.heap.size W w') :
    Calls Tryd.prog 8 #[.int .i64 a, .int .i64 k, .int .i64 l] w fun x w' => x = .returned (.bool true) ∧ Below w.heap.size w w' := by
  have HS := Lib.hid (fun W h => shown_c W h)
  have HT := Lib.hid hT
  have H1 := Lib.hid H1'
  have H2 := Lib.hid H2'
  clear H1' H2' hT
  go_enter Tryd.func8, Tryd.ntmps8
  go_wp2_with fail
  refine (HS.out _ HT.out).mono ?_; rintro e w1 ⟨rfl, hb⟩
  have B1 := Lib.hid hb
  clear hb
  go_wp2_with fail
  refine (H1.out _).mono ?_; rintro e w2 ⟨rfl, hb⟩
  have B2 := Lib.hid (btr B1.out hb)
  clear hb
  go_wp2_with fail
  have y0 : (w2.alloc (.cells #[.int .i64 0, .int .i64 0] 23)).cell? ⟨w2.heap.size, 0, none⟩ = some (.int .i64 0) := by go_simp
  have y1 : (w2.alloc (.cells #[.int .i64 0, .int .i64 0] 23)).cell? ⟨w2.heap.size, 1, none⟩ = some (.int .i64 0) := by go_simp
  have BU := bal B2.out (.cells #[.int .i64 0, .int .i64 0] 23)
  generalize (w2.alloc (.cells #[.int .i64 0, .int .i64 0] 23)) = U at *
  refine (H2.out _).mono ?_; rintro e w3 ⟨rfl, hb⟩
  have B3 := Lib.hid (btr BU hb)
  have z0 := (hb.cell (p := ⟨w2.heap.size, 0, none⟩) (blt y0)).trans y0
  have z1 := (hb.cell (p := ⟨w2.heap.size, 1, none⟩) (blt y0)).trans y1
  have Z := Lib.hid (show ∀ W, Below w3.heap.size w3 W → W.cell? ⟨w2.heap.size, 0, none⟩ = some (.int .i64 0) ∧ W.cell? ⟨w2.heap.size, 1, none⟩ = some (.int .i64 0) from fun W h => ⟨(h.cell (p := ⟨w2.heap.size, 0, none⟩) (blt z0)).trans z0, (h.cell (p := ⟨w2.heap.size, 1, none⟩) (blt z0)).trans z1⟩)
  obtain ⟨v0, v1⟩ := Z.out (w3.alloc (.cells #[.int .i64 0, .int .i64 0] 23)) (bal (Below.refl _ _) _)
  have BV := Lib.hid (bal B3.out (.cells #[.int .i64 0, .int .i64 0] 23))
  clear hb BU z0 z1 y0 y1 Z
  rcases hE with ⟨rfl, rfl⟩ | ⟨rfl, rfl⟩
  all_goals
    go_wp2
    go_ret
    exact ⟨ret_bool (by first | rfl | simp), BV.out⟩

set_option maxRecDepth 100000 in
set_option maxHeartbeats 4000000 in
theorem of_2 (a k l B : Int) (w : World) (hT : Tabs w)
    (H1' : ∀ W, Calls Tryd.prog 24 #[.int .i64 a, .int .i64 k] W fun x w' => x = .returned (.tuple #[.agg #[.int .i64 0, .int .i64 0], .int .i64 61]) ∧ Below W.heap.size W w')
    (H2' : ∀ W, Calls Tryd.prog 24 #[.int .i64 a, .int .i64 l] W fun x w' => x = .returned (.tuple #[.agg #[.int .i64 B, .int .i64 l], .int .i64 0]) ∧ Below W.heap.size W w')
    (H3' : ∀ W, Calls Tryd.prog 26 #[.agg #[.int .i64 B, .int .i64 l], .int .i64 a] W fun x w' => x = .returned (.bool true) ∧ Below W.heap.size W w') :
    Calls Tryd.prog 8 #[.int .i64 a, .int .i64 k, .int .i64 l] w fun x w' => x = .returned (.bool true) ∧ Below w.heap.size w w' := by
  have HS := Lib.hid (fun W h => shown_c W h)
  have HT := Lib.hid hT
  have H1 := Lib.hid H1'
  have H2 := Lib.hid H2'
  clear H1' H2' hT
  go_enter Tryd.func8, Tryd.ntmps8
  go_wp2_with fail
  refine (HS.out _ HT.out).mono ?_; rintro e w1 ⟨rfl, hb⟩
  have B1 := Lib.hid hb
  clear hb
  go_wp2_with fail
  refine (H1.out _).mono ?_; rintro e w2 ⟨rfl, hb⟩
  have B2 := Lib.hid (btr B1.out hb)
  clear hb
  go_wp2_with fail
  have y0 : (w2.alloc (.cells #[.int .i64 0, .int .i64 0] 23)).cell? ⟨w2.heap.size, 0, none⟩ = some (.int .i64 0) := by go_simp
  have y1 : (w2.alloc (.cells #[.int .i64 0, .int .i64 0] 23)).cell? ⟨w2.heap.size, 1, none⟩ = some (.int .i64 0) := by go_simp
  have BU := bal B2.out (.cells #[.int .i64 0, .int .i64 0] 23)
  generalize (w2.alloc (.cells #[.int .i64 0, .int .i64 0] 23)) = U at *
  refine (H2.out _).mono ?_; rintro e w3 ⟨rfl, hb⟩
  have B3 := Lib.hid (btr BU hb)
  have z0 := (hb.cell (p := ⟨w2.heap.size, 0, none⟩) (blt y0)).trans y0
  have z1 := (hb.cell (p := ⟨w2.heap.size, 1, none⟩) (blt y0)).trans y1
  have Z := Lib.hid (show ∀ W, Below w3.heap.size w3 W → W.cell? ⟨w2.heap.size, 0, none⟩ = some (.int .i64 0) ∧ W.cell? ⟨w2.heap.size, 1, none⟩ = some (.int .i64 0) from fun W h => ⟨(h.cell (p := ⟨w2.heap.size, 0, none⟩) (blt z0)).trans z0, (h.cell (p := ⟨w2.heap.size, 1, none⟩) (blt z0)).trans z1⟩)
  obtain ⟨v0, v1⟩ := Z.out (w3.alloc (.cells #[.int .i64 B, .int .i64 l] 23)) (bal (Below.refl _ _) _)
  have BV := Lib.hid (bal B3.out (.cells #[.int .i64 B, .int .i64 l] 23))
  clear hb BU z0 z1 y0 y1 Z
  have H3 := Lib.hid H3'
  clear H3'
  go_wp2_with fail
  have u0 : (w3.alloc (.cells #[.int .i64 B, .int .i64 l] 23)).cell? ⟨w3.heap.size, 0, none⟩ = some (.int .i64 B) := by go_simp
  have u1 : (w3.alloc (.cells #[.int .i64 B, .int .i64 l] 23)).cell? ⟨w3.heap.size, 1, none⟩ = some (.int .i64 l) := by go_simp
  generalize (w3.alloc (.cells #[.int .i64 B, .int .i64 l] 23)) = V at *
  have KK := Lib.hid (show ∀ W, Below V.heap.size V W → (W.cell? ⟨w2.heap.size, 0, none⟩ = some (.int .i64 0) ∧ W.cell? ⟨w2.heap.size, 1, none⟩ = some (.int .i64 0)) ∧ W.cell? ⟨w3.heap.size, 0, none⟩ = some (.int .i64 B) ∧ W.cell? ⟨w3.heap.size, 1, none⟩ = some (.int .i64 l) from fun W h => ⟨⟨(h.cell (p := ⟨w2.heap.size, 0, none⟩) (blt v0)).trans v0, (h.cell (p := ⟨w2.heap.size, 1, none⟩) (blt v0)).trans v1⟩, (h.cell (p := ⟨w3.heap.size, 0, none⟩) (blt u0)).trans u0, (h.cell (p := ⟨w3.heap.size, 1, none⟩) (blt u0)).trans u1⟩)
  refine (H3.out _).mono ?_; rintro e w4 ⟨rfl, hb⟩
  have C4 := Lib.hid (hb)
  clear hb v0 v1 u0 u1
  obtain ⟨⟨p40, p41⟩, q40, q41⟩ := KK.out w4 C4.out
  go_wp2
  go_ret
  exact ⟨ret_bool (by first | rfl | simp), btr BV.out C4.out⟩

set_option maxRecDepth 100000 in
set_option maxHeartbeats 4000000 in
theorem of_3 (a k l A : Int) (w : World) (hT : Tabs w)
    (H1' : ∀ W, Calls Tryd.prog 24 #[.int .i64 a, .int .i64 k] W fun x w' => x = .returned (.tuple #[.agg #[.int .i64 A, .int .i64 k], .int .i64 0]) ∧ Below W.heap.size W w')
    (H2' : ∀ W, Calls Tryd.prog 24 #[.int .i64 a, .int .i64 l] W fun x w' => x = .returned (.tuple #[.agg #[.int .i64 0, .int .i64 0], .int .i64 61]) ∧ Below W.heap.size W w')
    (H3' : ∀ W, Calls Tryd.prog 20 #[.agg #[.int .i64 A, .int .i64 k]] W fun x w' => x = .returned (.bool true) ∧ Below W.heap.size W w')
    (H4' : ∀ W, Calls Tryd.prog 26 #[.agg #[.int .i64 A, .int .i64 k], .int .i64 a] W fun x w' => x = .returned (.bool true) ∧ Below W.heap.size W w') :
    Calls Tryd.prog 8 #[.int .i64 a, .int .i64 k, .int .i64 l] w fun x w' => x = .returned (.bool true) ∧ Below w.heap.size w w' := by
  have HS := Lib.hid (fun W h => shown_c W h)
  have HT := Lib.hid hT
  have H1 := Lib.hid H1'
  have H2 := Lib.hid H2'
  clear H1' H2' hT
  go_enter Tryd.func8, Tryd.ntmps8
  go_wp2_with fail
  refine (HS.out _ HT.out).mono ?_; rintro e w1 ⟨rfl, hb⟩
  have B1 := Lib.hid hb
  clear hb
  go_wp2_with fail
  refine (H1.out _).mono ?_; rintro e w2 ⟨rfl, hb⟩
  have B2 := Lib.hid (btr B1.out hb)
  clear hb
  go_wp2_with fail
  have y0 : (w2.alloc (.cells #[.int .i64 A, .int .i64 k] 23)).cell? ⟨w2.heap.size, 0, none⟩ = some (.int .i64 A) := by go_simp
  have y1 : (w2.alloc (.cells #[.int .i64 A, .int .i64 k] 23)).cell? ⟨w2.heap.size, 1, none⟩ = some (.int .i64 k) := by go_simp
  have BU := bal B2.out (.cells #[.int .i64 A, .int .i64 k] 23)
  generalize (w2.alloc (.cells #[.int .i64 A, .int .i64 k] 23)) = U at *
  refine (H2.out _).mono ?_; rintro e w3 ⟨rfl, hb⟩
  have B3 := Lib.hid (btr BU hb)
  have z0 := (hb.cell (p := ⟨w2.heap.size, 0, none⟩) (blt y0)).trans y0
  have z1 := (hb.cell (p := ⟨w2.heap.size, 1, none⟩) (blt y0)).trans y1
  have Z := Lib.hid (show ∀ W, Below w3.heap.size w3 W → W.cell? ⟨w2.heap.size, 0, none⟩ = some (.int .i64 A) ∧ W.cell? ⟨w2.heap.size, 1, none⟩ = some (.int .i64 k) from fun W h => ⟨(h.cell (p := ⟨w2.heap.size, 0, none⟩) (blt z0)).trans z0, (h.cell (p := ⟨w2.heap.size, 1, none⟩) (blt z0)).trans z1⟩)
  obtain ⟨v0, v1⟩ := Z.out (w3.alloc (.cells #[.int .i64 0, .int .i64 0] 23)) (bal (Below.refl _ _) _)
  have BV := Lib.hid (bal B3.out (.cells #[.int .i64 0, .int .i64 0] 23))
  clear hb BU z0 z1 y0 y1 Z
  have H3 := Lib.hid H3'
  have H4 := Lib.hid H4'
  clear H3' H4'
  go_wp2_with fail
  have u0 : (w3.alloc (.cells #[.int .i64 0, .int .i64 0] 23)).cell? ⟨w3.heap.size, 0, none⟩ = some (.int .i64 0) := by go_simp
  have u1 : (w3.alloc (.cells #[.int .i64 0, .int .i64 0] 23)).cell? ⟨w3.heap.size, 1, none⟩ = some (.int .i64 0) := by go_simp
  generalize (w3.alloc (.cells #[.int .i64 0, .int .i64 0] 23)) = V at *
  have KK := Lib.hid (show ∀ W, Below V.heap.size V W → (W.cell? ⟨w2.heap.size, 0, none⟩ = some (.int .i64 A) ∧ W.cell? ⟨w2.heap.size, 1, none⟩ = some (.int .i64 k)) ∧ W.cell? ⟨w3.heap.size, 0, none⟩ = some (.int .i64 0) ∧ W.cell? ⟨w3.heap.size, 1, none⟩ = some (.int .i64 0) from fun W h => ⟨⟨(h.cell (p := ⟨w2.heap.size, 0, none⟩) (blt v0)).trans v0, (h.cell (p := ⟨w2.heap.size, 1, none⟩) (blt v0)).trans v1⟩, (h.cell (p := ⟨w3.heap.size, 0, none⟩) (blt u0)).trans u0, (h.cell (p := ⟨w3.heap.size, 1, none⟩) (blt u0)).trans u1⟩)
  refine (H3.out _).mono ?_; rintro e w4 ⟨rfl, hb⟩
  have C4 := Lib.hid (hb)
  clear hb v0 v1 u0 u1
  obtain ⟨⟨p40, p41⟩, q40, q41⟩ := KK.out w4 C4.out
  go_wp2_with fail
  refine (H4.out _).mono ?_; rintro e w5 ⟨rfl, hb⟩
  have C5 := Lib.hid (btr C4.out hb)
  clear hb p40 p41 q40 q41
  obtain ⟨⟨p50, p51⟩, q50, q51⟩ := KK.out w5 C5.out
  go_wp2
  go_ret
  exact ⟨ret_bool (by first | rfl | simp), btr BV.out C5.out⟩

set_option maxRecDepth 100000 in
set_option maxHeartbeats 4000000 in
theorem of_4 (a k l A B : Int) (hl : k < l) (w : World) (hT : Tabs w)
    (H1' : ∀ W, Calls Tryd.prog 24 #[.int .i64 a, .int .i64 k] W fun x w' => x = .returned (.tuple #[.agg #[.int .i64 A, .int .i64 k], .int .i64 0]) ∧ Below W.heap.size W w')
    (H2' : ∀ W, Calls Tryd.prog 24 #[.int .i64 a, .int .i64 l] W fun x w' => x = .returned (.tuple #[.agg #[.int .i64 B, .int .i64 l], .int .i64 0]) ∧ Below W.heap.size W w')
    (H3' : ∀ W, Calls Tryd.prog 20 #[.agg #[.int .i64 A, .int .i64 k]] W fun x w' => x = .returned (.bool true) ∧ Below W.heap.size W w')
    (H4' : ∀ W, Calls Tryd.prog 26 #[.agg #[.int .i64 A, .int .i64 k], .int .i64 a] W fun x w' => x = .returned (.bool true) ∧ Below W.heap.size W w') :
    Calls Tryd.prog 8 #[.int .i64 a, .int .i64 k, .int .i64 l] w fun x w' => x = .returned (.bool true) ∧ Below w.heap.size w w' := by
  have HS := Lib.hid (fun W h => shown_c W h)
  have HT := Lib.hid hT
  have H1 := Lib.hid H1'
  have H2 := Lib.hid H2'
  clear H1' H2' hT
  go_enter Tryd.func8, Tryd.ntmps8
  go_wp2_with fail
  refine (HS.out _ HT.out).mono ?_; rintro e w1 ⟨rfl, hb⟩
  have B1 := Lib.hid hb
  clear hb
  go_wp2_with fail
  refine (H1.out _).mono ?_; rintro e w2 ⟨rfl, hb⟩
  have B2 := Lib.hid (btr B1.out hb)
  clear hb
  go_wp2_with fail
  have y0 : (w2.alloc (.cells #[.int .i64 A, .int .i64 k] 23)).cell? ⟨w2.heap.size, 0, none⟩ = some (.int .i64 A) := by go_simp
  have y1 : (w2.alloc (.cells #[.int .i64 A, .int .i64 k] 23)).cell? ⟨w2.heap.size, 1, none⟩ = some (.int .i64 k) := by go_simp
  have BU := bal B2.out (.cells #[.int .i64 A, .int .i64 k] 23)
  generalize (w2.alloc (.cells #[.int .i64 A, .int .i64 k] 23)) = U at *
  refine (H2.out _).mono ?_; rintro e w3 ⟨rfl, hb⟩
  have B3 := Lib.hid (btr BU hb)
  have z0 := (hb.cell (p := ⟨w2.heap.size, 0, none⟩) (blt y0)).trans y0
  have z1 := (hb.cell (p := ⟨w2.heap.size, 1, none⟩) (blt y0)).trans y1
  have Z := Lib.hid (show ∀ W, Below w3.heap.size w3 W → W.cell? ⟨w2.heap.size, 0, none⟩ = some (.int .i64 A) ∧ W.cell? ⟨w2.heap.size, 1, none⟩ = some (.int .i64 k) from fun W h => ⟨(h.cell (p := ⟨w2.heap.size, 0, none⟩) (blt z0)).trans z0, (h.cell (p := ⟨w2.heap.size, 1, none⟩) (blt z0)).trans z1⟩)
  obtain ⟨v0, v1⟩ := Z.out (w3.alloc (.cells #[.int .i64 B, .int .i64 l] 23)) (bal (Below.refl _ _) _)
  have BV := Lib.hid (bal B3.out (.cells #[.int .i64 B, .int .i64 l] 23))
  clear hb BU z0 z1 y0 y1 Z
  have H3 := Lib.hid H3'
  have H4 := Lib.hid H4'
  clear H3' H4'
  go_wp2_with fail
  have u0 : (w3.alloc (.cells #[.int .i64 B, .int .i64 l] 23)).cell? ⟨w3.heap.size, 0, none⟩ = some (.int .i64 B) := by go_simp
  have u1 : (w3.alloc (.cells #[.int .i64 B, .int .i64 l] 23)).cell? ⟨w3.heap.size, 1, none⟩ = some (.int .i64 l) := by go_simp
  generalize (w3.alloc (.cells #[.int .i64 B, .int .i64 l] 23)) = V at *
  have KK := Lib.hid (show ∀ W, Below V.heap.size V W → (W.cell? ⟨w2.heap.size, 0, none⟩ = some (.int .i64 A) ∧ W.cell? ⟨w2.heap.size, 1, none⟩ = some (.int .i64 k)) ∧ W.cell? ⟨w3.heap.size, 0, none⟩ = some (.int .i64 B) ∧ W.cell? ⟨w3.heap.size, 1, none⟩ = some (.int .i64 l) from fun W h => ⟨⟨(h.cell (p := ⟨w2.heap.size, 0, none⟩) (blt v0)).trans v0, (h.cell (p := ⟨w2.heap.size, 1, none⟩) (blt v0)).trans v1⟩, (h.cell (p := ⟨w3.heap.size, 0, none⟩) (blt u0)).trans u0, (h.cell (p := ⟨w3.heap.size, 1, none⟩) (blt u0)).trans u1⟩)
  refine (H3.out _).mono ?_; rintro e w4 ⟨rfl, hb⟩
  have C4 := Lib.hid (hb)
  clear hb v0 v1 u0 u1
  obtain ⟨⟨p40, p41⟩, q40, q41⟩ := KK.out w4 C4.out
  go_wp2_with fail
  refine (H4.out _).mono ?_; rintro e w5 ⟨rfl, hb⟩
  have C5 := Lib.hid (btr C4.out hb)
  clear hb p40 p41 q40 q41
  obtain ⟨⟨p50, p51⟩, q50, q51⟩ := KK.out w5 C5.out
  go_wp2
  go_ret
  exact ⟨ret_bool (by first | rfl | simp), btr BV.out C5.out⟩

set_option maxRecDepth 100000 in
set_option maxHeartbeats 4000000 in
theorem of_5 (a k l A B : Int) (hl : l ≤ k) (w : World) (hT : Tabs w)
    (H1' : ∀ W, Calls Tryd.prog 24 #[.int .i64 a, .int .i64 k] W fun x w' => x = .returned (.tuple #[.agg #[.int .i64 A, .int .i64 k], .int .i64 0]) ∧ Below W.heap.size W w')
    (H2' : ∀ W, Calls Tryd.prog 24 #[.int .i64 a, .int .i64 l] W fun x w' => x = .returned (.tuple #[.agg #[.int .i64 B, .int .i64 l], .int .i64 0]) ∧ Below W.heap.size W w')
    (H3' : ∀ W, Calls Tryd.prog 20 #[.agg #[.int .i64 A, .int .i64 k]] W fun x w' => x = .returned (.bool true) ∧ Below W.heap.size W w')
    (H4' : ∀ W, Calls Tryd.prog 26 #[.agg #[.int .i64 A, .int .i64 k], .int .i64 a] W fun x w' => x = .returned (.bool true) ∧ Below W.heap.size W w')
    (H5' : ∀ W, Calls Tryd.prog 28 #[.agg #[.int .i64 A, .int .i64 k], .agg #[.int .i64 B, .int .i64 l]] W fun x w' => x = .returned (.bool true) ∧ Below W.heap.size W w') :
    Calls Tryd.prog 8 #[.int .i64 a, .int .i64 k, .int .i64 l] w fun x w' => x = .returned (.bool true) ∧ Below w.heap.size w w' := by
  have HS := Lib.hid (fun W h => shown_c W h)
  have HT := Lib.hid hT
  have H1 := Lib.hid H1'
  have H2 := Lib.hid H2'
  clear H1' H2' hT
  go_enter Tryd.func8, Tryd.ntmps8
  go_wp2_with fail
  refine (HS.out _ HT.out).mono ?_; rintro e w1 ⟨rfl, hb⟩
  have B1 := Lib.hid hb
  clear hb
  go_wp2_with fail
  refine (H1.out _).mono ?_; rintro e w2 ⟨rfl, hb⟩
  have B2 := Lib.hid (btr B1.out hb)
  clear hb
  go_wp2_with fail
  have y0 : (w2.alloc (.cells #[.int .i64 A, .int .i64 k] 23)).cell? ⟨w2.heap.size, 0, none⟩ = some (.int .i64 A) := by go_simp
  have y1 : (w2.alloc (.cells #[.int .i64 A, .int .i64 k] 23)).cell? ⟨w2.heap.size, 1, none⟩ = some (.int .i64 k) := by go_simp
  have BU := bal B2.out (.cells #[.int .i64 A, .int .i64 k] 23)
  generalize (w2.alloc (.cells #[.int .i64 A, .int .i64 k] 23)) = U at *
  refine (H2.out _).mono ?_; rintro e w3 ⟨rfl, hb⟩
  have B3 := Lib.hid (btr BU hb)
  have z0 := (hb.cell (p := ⟨w2.heap.size, 0, none⟩) (blt y0)).trans y0
  have z1 := (hb.cell (p := ⟨w2.heap.size, 1, none⟩) (blt y0)).trans y1
  have Z := Lib.hid (show ∀ W, Below w3.heap.size w3 W → W.cell? ⟨w2.heap.size, 0, none⟩ = some (.int .i64 A) ∧ W.cell? ⟨w2.heap.size, 1, none⟩ = some (.int .i64 k) from fun W h => ⟨(h.cell (p := ⟨w2.heap.size, 0, none⟩) (blt z0)).trans z0, (h.cell (p := ⟨w2.heap.size, 1, none⟩) (blt z0)).trans z1⟩)
  obtain ⟨v0, v1⟩ := Z.out (w3.alloc (.cells #[.int .i64 B, .int .i64 l] 23)) (bal (Below.refl _ _) _)
  have BV := Lib.hid (bal B3.out (.cells #[.int .i64 B, .int .i64 l] 23))
  clear hb BU z0 z1 y0 y1 Z
  have H3 := Lib.hid H3'
  have H4 := Lib.hid H4'
  clear H3' H4'
  have H5 := Lib.hid H5'
  clear H5'
  go_wp2_with fail
  have u0 : (w3.alloc (.cells #[.int .i64 B, .int .i64 l] 23)).cell? ⟨w3.heap.size, 0, none⟩ = some (.int .i64 B) := by go_simp
  have u1 : (w3.alloc (.cells #[.int .i64 B, .int .i64 l] 23)).cell? ⟨w3.heap.size, 1, none⟩ = some (.int .i64 l) := by go_simp
  generalize (w3.alloc (.cells #[.int .i64 B, .int .i64 l] 23)) = V at *
  have KK := Lib.hid (show ∀ W, Below V.heap.size V W → (W.cell? ⟨w2.heap.size, 0, none⟩ = some (.int .i64 A) ∧ W.cell? ⟨w2.heap.size, 1, none⟩ = some (.int .i64 k)) ∧ W.cell? ⟨w3.heap.size, 0, none⟩ = some (.int .i64 B) ∧ W.cell? ⟨w3.heap.size, 1, none⟩ = some (.int .i64 l) from fun W h => ⟨⟨(h.cell (p := ⟨w2.heap.size, 0, none⟩) (blt v0)).trans v0, (h.cell (p := ⟨w2.heap.size, 1, none⟩) (blt v0)).trans v1⟩, (h.cell (p := ⟨w3.heap.size, 0, none⟩) (blt u0)).trans u0, (h.cell (p := ⟨w3.heap.size, 1, none⟩) (blt u0)).trans u1⟩)
  refine (H3.out _).mono ?_; rintro e w4 ⟨rfl, hb⟩
  have C4 := Lib.hid (hb)
  clear hb v0 v1 u0 u1
  obtain ⟨⟨p40, p41⟩, q40, q41⟩ := KK.out w4 C4.out
  go_wp2_with fail
  refine (H4.out _).mono ?_; rintro e w5 ⟨rfl, hb⟩
  have C5 := Lib.hid (btr C4.out hb)
  clear hb p40 p41 q40 q41
  obtain ⟨⟨p50, p51⟩, q50, q51⟩ := KK.out w5 C5.out
  go_wp2_with fail
  refine (H5.out _).mono ?_; rintro e w6 ⟨rfl, hb⟩
  have C6 := Lib.hid (btr C5.out hb)
  clear hb p50 p51 q50 q51
  obtain ⟨⟨p60, p61⟩, q60, q61⟩ := KK.out w6 C6.out
  go_wp2
  go_ret
  exact ⟨ret_bool (by first | rfl | simp), btr BV.out C6.out⟩

theorem ofL_c (a k l : Int) (w : World) (hT : Tabs w) : Calls Tryd.prog 8 #[.int .i64 a, .int .i64 k, .int .i64 l] w fun x w' => x = .returned (.bool true) ∧ Below w.heap.size w w' := by
  have H1 := fun W => of_c a k W
  have H2 := fun W => of_c a l W
  unfold ofA ofK ofE at H1 H2
  by_cases ha : isA a = true
  · by_cases hk : okK k = true
    · obtain ⟨r1, r2⟩ := of_right ha hk
      have H3 := fun W => right_c (cutI a k) k W
      have H4 := fun W => has_c (cutI a k) k a W
      rw [r1] at H3
      rw [r2] at H4
      rw [if_pos ⟨ha, hk⟩, if_pos ⟨ha, hk⟩, if_pos ha, if_pos hk] at H1
      by_cases hl : okK l = true
      · rw [if_pos ⟨ha, hl⟩, if_pos ⟨ha, hl⟩, if_pos ha, if_pos hl] at H2
        by_cases hkl : k < l
        · exact of_4 a k l _ _ hkl w hT H1 H2 H3 H4
        · have H5 := fun W => in_c (cutI a k) k (cutI a l) l W
          rw [of_in ha hk hl (by omega)] at H5
          exact of_5 a k l _ _ (by omega) w hT H1 H2 H3 H4 H5
      · rw [if_neg (fun h => hl h.2), if_neg (fun h => hl h.2), if_pos ha, if_neg hl] at H2
        exact of_3 a k l _ w hT H1 H2 H3 H4
    · rw [if_neg (fun h => hk h.2), if_neg (fun h => hk h.2), if_pos ha, if_neg hk] at H1
      by_cases hl : okK l = true
      · rw [if_pos ⟨ha, hl⟩, if_pos ⟨ha, hl⟩, if_pos ha, if_pos hl] at H2
        have H3 := fun W => has_c (cutI a l) l a W
        rw [(of_right ha hl).2] at H3
        exact of_2 a k l _ w hT H1 H2 H3
      · rw [if_neg (fun h => hl h.2), if_neg (fun h => hl h.2), if_pos ha, if_neg hl] at H2
        exact of_1 a k l _ _ (.inr ⟨rfl, rfl⟩) w hT H1 H2
  · rw [if_neg (fun h => ha h.1), if_neg (fun h => ha h.1), if_neg ha] at H1 H2
    exact of_1 a k l _ _ (.inl ⟨rfl, rfl⟩) w hT H1 H2
end Go.Proofs.YtlmgdhhlflmghaaDoor
