/- Cut. -/
import Derived.Test.YtoddlldjhaacnaaM
import Derived.OwnWalk
import Derived.Deep.AppendLies
namespace Go.Proofs.Ytoddlldjhaacnaa
open Go.RowKit

/-- A call as the statements have it. -/
structure OpV where
  kind : Int
  n : Int
  s : ByteArray
def OpV.cells (x : OpV) : List Value := [.int .i64 x.kind, .int .i64 x.n, .string x.s]
/-- A text cut at one hundred bytes. -/
def cut100 (s : ByteArray) : ByteArray := if s.size ≤ 100 then s else s.extract 0 100
theorem cut100_le (s : ByteArray) : (cut100 s).size ≤ 100 := by
  unfold cut100
  split
  · assumption
  · simp; omega
def OpV.cut (x : OpV) : OpV := { x with s := cut100 x.s }
/-- A slice of calls in memory: its cells from ⟨b, off⟩ on. -/
def OpsIn (n₀ : Nat) (W : World) (a : Option Addr) (xs : List OpV) : Prop :=
  ∀ i (h : i < xs.length), ∃ b off, a = some ⟨b, off, none⟩ ∧ b < n₀ ∧ W.cell? ⟨b, off + 3 * i, none⟩ = some (.int .i64 xs[i].kind) ∧ W.cell? ⟨b, off + 3 * i + 1, none⟩ = some (.int .i64 xs[i].n) ∧ W.cell? ⟨b, off + 3 * i + 2, none⟩ = some (.string xs[i].s)

theorem info38 : (Try.prog.info? 38).map (fun i => (i.zero, i.size, i.bytes)) = some (some (.agg #[.int .i64 0, .int .i64 0, .string ⟨#[]⟩]), 3, 32) := by kernel_rfl

set_option maxRecDepth 100000 in
set_option maxHeartbeats 2000000 in
theorem cut_any (a : Option Addr) (cap : Nat) (xs : List OpV) (w : World) (h : OpsIn w.heap.size w a xs) :
    Calls Try.prog 9 #[.slice a xs.length cap] w fun e w' => ∃ v, e = .returned v ∧ w'.ownsRow w.heap.size 38 3 v (min 40 xs.length) ((xs.take 40).flatMap fun x => x.cut.cells) ∧ Below w.heap.size w w' := by
  obtain ⟨i0, hi0, hz0, hz1, hz2⟩ := info_parts info38
  go_enter Try.func9, Try.ntmps9
  go_wp2
  go_loopw [3, 4] (fun o i wr => ∃ k : Nat, k ≤ 40 ∧ k ≤ xs.length ∧ i = .int .i64 k ∧ wr.ownsRow w.heap.size 38 3 o k ((xs.take k).flatMap fun x => x.cut.cells) ∧ Below w.heap.size w wr)
    (fun _ i _ => 40 - (intOf i).toNat)
  case atStart => exact ⟨0, by omega, by omega, rfl, World.ownsRow_nil _ _ _ _, Below.refl _ _⟩
  case round =>
    obtain ⟨k, hk, hkl, rfl, hown, hb⟩ := hrel
    have HO := Lib.hid hown
    have HB := Lib.hid hb
    clear hown hb
    by_cases hlt : k < xs.length
    · by_cases h40 : k < 40
      · obtain ⟨b, off, rfl, hbn, c0, c1, c2⟩ := h k hlt
        have d0 := (HB.out.cell (p := ⟨b, off + 3 * k, none⟩) hbn).trans c0
        have d1 := (HB.out.cell (p := ⟨b, off + 3 * k + 1, none⟩) hbn).trans c1
        have d2 := (HB.out.cell (p := ⟨b, off + 3 * k + 2, none⟩) hbn).trans c2
        rw [Nat.mul_comm 3 k] at d0 d1 d2
        generalize hx : xs[k] = x at *
        have HX := Lib.hid hx
        have HH := Lib.hid h
        clear c0 c1 c2 hx h
        have hsz := HB.out.size
        have i1 : (k : Int) < (xs.length : Int) := by omega
        have hne : u3.ownBlock ≠ some b := fun e => by have := (HO.out.lt b e).1; omega
        have HT := Lib.hid (show xs.take (k + 1) = xs.take k ++ [x] by rw [← HX.out, List.take_succ_eq_append_getElem hlt])
        by_cases h100 : x.s.size ≤ 100
        · have j1 : (x.s.size : Int) ≤ 100 := by omega
          have j2 : (if (100 : Int) < (x.s.size : Int) then (100 : Int) else (x.s.size : Int)) = (x.s.size : Int) := if_neg (by omega)
          have HC := Lib.hid (show cut100 x.s = x.s from if_pos h100)
          go_wp2_with fail
          go_region_held3 (fun w' => w'.cell? ⟨b, off + k * 3, none⟩ = some (.int .i64 x.kind) ∧ w'.cell? ⟨b, off + k * 3 + 1, none⟩ = some (.int .i64 x.n) ∧ w'.cell? ⟨b, off + k * 3 + 2, none⟩ = some (.string x.s))
            (first
              | go_keep
              | (go_split_ands
                 refine ⟨?_, ?_, ?_⟩
                 · (rw [hgrow.cell_far _ (by simp; omega) (Ne.symm hne)]; assumption)
                 · (rw [hgrow.cell_far _ (by simp; omega) (Ne.symm hne)]; assumption)
                 · (rw [hgrow.cell_far _ (by simp; omega) (Ne.symm hne)]; assumption)))
            ((refine step_append_lies _ (by rfl) _ _ _ (by rfl) w.heap.size 38 i0 _ 3 32 Try.underlying22 hi0 hz0 hz1 hz2 rfl (by omega) u3 k _ (by rfl) ((HO.out.alloc _).drew)
                ⟨wr.heap.size, 0, none⟩ 1 1 [.int .i64 x.kind, .int .i64 x.n, .string x.s] (by rfl) (by rfl) (World.news_of_block (cs := #[.int .i64 x.kind, .int .i64 x.n, .string x.s]) (t := 38) (fr := (0, 0)) (heap_alloc_new wr _)) (by simp [Value.oneCell'])
                (by omega) (by simp [maxLen]; omega) (by omega) (by simp; omega) (wr.heap.size + 1) (by simp) ?_; intro gg cap1 w1 hown1 hgrow hat hlt1))
          have HO1 := Lib.hid hown1
          have HG1 := Lib.hid hgrow
          clear hown1 hgrow hat hlt1
          go_wp2
          go_roundw
          case rel => exact ⟨k + 1, by omega, by omega, by go_num, by rw [HT.out, List.flatMap_append]; simpa [OpV.cut, OpV.cells, HC.out] using HO1.out, ((HB.out.alloc hsz _).drew).grown HG1.out (by simp; omega) (fun r e => (HO.out.lt r e).1)⟩
          case measure => simp [intOf]; omega
        · have j1 : ¬ (x.s.size : Int) ≤ 100 := by omega
          have j2 : (if (100 : Int) < (x.s.size : Int) then (100 : Int) else (x.s.size : Int)) = 100 := if_pos (by omega)
          have j3 : (100 : Int) ≤ (x.s.size : Int) := by omega
          have HC := Lib.hid (show cut100 x.s = x.s.extract 0 100 from if_neg h100)
          go_wp2_with fail
          go_region_held3 (fun w' => w'.cell? ⟨b, off + k * 3, none⟩ = some (.int .i64 x.kind) ∧ w'.cell? ⟨b, off + k * 3 + 1, none⟩ = some (.int .i64 x.n) ∧ w'.cell? ⟨b, off + k * 3 + 2, none⟩ = some (.string x.s))
            (first
              | go_keep
              | (go_split_ands
                 refine ⟨?_, ?_, ?_⟩
                 · (rw [hgrow.cell_far _ (by simp; omega) (Ne.symm hne)]; assumption)
                 · (rw [hgrow.cell_far _ (by simp; omega) (Ne.symm hne)]; assumption)
                 · (rw [hgrow.cell_far _ (by simp; omega) (Ne.symm hne)]; assumption)))
            ((refine step_append_lies _ (by rfl) _ _ _ (by rfl) w.heap.size 38 i0 _ 3 32 Try.underlying22 hi0 hz0 hz1 hz2 rfl (by omega) u3 k _ (by rfl) ((HO.out.alloc _).drew)
                ⟨wr.heap.size, 0, none⟩ 1 1 [.int .i64 x.kind, .int .i64 x.n, .string (x.s.extract 0 100)] (by rfl) (by rfl) (World.news_of_block (cs := #[.int .i64 x.kind, .int .i64 x.n, .string (x.s.extract 0 100)]) (t := 38) (fr := (0, 0)) (heap_alloc_new wr _)) (by simp [Value.oneCell'])
                (by omega) (by simp [maxLen]; omega) (by omega) (by simp; omega) (wr.heap.size + 1) (by simp) ?_; intro gg cap1 w1 hown1 hgrow hat hlt1))
          have HO1 := Lib.hid hown1
          have HG1 := Lib.hid hgrow
          clear hown1 hgrow hat hlt1
          go_wp2
          go_roundw
          case rel => exact ⟨k + 1, by omega, by omega, by go_num, by rw [HT.out, List.flatMap_append]; simpa [OpV.cut, OpV.cells, HC.out] using HO1.out, ((HB.out.alloc hsz _).drew).grown HG1.out (by simp; omega) (fun r e => (HO.out.lt r e).1)⟩
          case measure => simp [intOf]; omega
      · obtain rfl : k = 40 := by omega
        go_wp2
        go_ret
        exact ⟨_, rfl, by rw [Nat.min_eq_left (by omega)]; exact HO.out, HB.out⟩
    · obtain rfl : k = xs.length := by omega
      go_wp2
      go_ret
      exact ⟨_, rfl, by rw [Nat.min_eq_right hk, List.take_of_length_le hk]; rw [List.take_length] at HO; exact HO.out, HB.out⟩
end Go.Proofs.Ytoddlldjhaacnaa
