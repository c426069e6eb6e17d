/- Right: its contract, where the kind is one. -/
import Derived.Test.YtdcnpcdohgecbaaDoorF
import Derived.Deep.RegionWith
import Derived.Deep.DeepCutAuto
namespace Go.Proofs.YtdcnpcdohgecbaaDoor
open Go.RowKit Go.Shelf
attribute [local go_sem] Oper.semAt_some

def isPay (f : Nat) : Prop := f = 45 ∨ f = 46 ∨ f = 47 ∨ f = 48 ∨ f = 49 ∨ f = 50
theorem pay_c (f : Nat) (hf : isPay f) (s : ByteArray) (w : World) : Calls Tryd.prog f #[.string s] w fun x w' => x = .returned (.bool (payB f s.size)) ∧ w = w' := by
  rcases hf with rfl | rfl | rfl | rfl | rfl | rfl
  · exact isText_c s w
  · exact isSum_c s w
  · exact isBlock_c s w
  · exact isNumber_c s w
  · exact isNone_c s w
  · exact isEcho_c s w
set_option maxRecDepth 100000 in
set_option maxHeartbeats 8000000 in
theorem right_yes (k st : Int) (s : ByteArray) (hk : (Lit.int .i64 k).wf = true) (b : Bool) (f : Nat) (hd : demOf k = some (b, f)) (hf : isPay f) (w : World) : Calls Tryd.prog 19 #[.agg #[.int .i64 k, .int .i64 st, .string s]] w fun x w' => x = .returned (.bool ((decide (0 ≤ st) && decide (st ≤ 65535)) && ((b == decide (0 < st)) && payB f s.size))) ∧ Below w.heap.size w w' := by
  have HD := Lib.hid (fun W => demands_c W)
  have HLK := Lib.hid (show ∀ (W : World) (mb : Nat), W.ownsMap Tryd.prog 3 demR mb 8 demD → True ∧ (Instr.lookup 59 (.map (some mb)) (.int .i64 k) true).run Tryd.prog W = .ok (.tuple #[.agg #[.bool b, .func (.func f) #[] #[]], .bool true]) W from fun W mb h => ⟨trivial, by
    rcases dem_look h k hk with ⟨e, _⟩ | ⟨b2, f2, e, hr⟩
    · rw [hd] at e; cases e
    · rw [hd] at e; cases e; exact hr⟩)
  have HF := Lib.hid hf
  have HP := Lib.hid (fun W => pay_c f hf s W)
  clear hk hd hf
  go_enter Tryd.func19, Tryd.ntmps19
  go_wp2_with fail
  have k0 : (w.alloc (.cells #[.int .i64 k, .int .i64 st, .string s] 23)).cell? ⟨w.heap.size, 0, none⟩ = some (.int .i64 k) := by go_simp
  have k1 : (w.alloc (.cells #[.int .i64 k, .int .i64 st, .string s] 23)).cell? ⟨w.heap.size, 1, none⟩ = some (.int .i64 st) := by go_simp
  have k2 : (w.alloc (.cells #[.int .i64 k, .int .i64 st, .string s] 23)).cell? ⟨w.heap.size, 2, none⟩ = some (.string s) := by go_simp
  have HA := Lib.hid (below_alloc w (.cells #[.int .i64 k, .int .i64 st, .string s] 23))
  generalize (w.alloc (.cells #[.int .i64 k, .int .i64 st, .string s] 23)) = U at *
  have hzU : w.heap.size < U.heap.size := blt k0
  have hS : Below U.heap.size U U := Below.refl _ _
  go_cut [3, 4] (fun d e wx => ∃ B : Nat, d = .pointer (some ⟨B, 0, none⟩) ∧ e = .bool true ∧ wx.cell? ⟨B, 0, none⟩ = some (.bool b) ∧ wx.cell? ⟨B, 1, none⟩ = some (.func (.func f) #[] #[]) ∧ wx.cell? ⟨w.heap.size, 1, none⟩ = some (.int .i64 st) ∧ wx.cell? ⟨w.heap.size, 2, none⟩ = some (.string s) ∧ Below U.heap.size U wx)
  case first =>
    go_region_with (go_at_call 30; refine (HD.out _).mono ?_; rintro e w1 ⟨rfl, hown, hb⟩; first | (have hlk := (HLK.out w1 U.heap.size hown).2; have hlk2 := (HLK.out (w1.alloc (.cells #[.bool false, .nilFunc] 57)) U.heap.size (hown.alloc _)).2; have HB : Below U.heap.size U w1 := (below_drew (Below.refl U.heap.size U)).trans hb; have p0 := (HB.cell (p := ⟨w.heap.size, 0, none⟩) (blt k0)).trans k0; have p1 := (HB.cell (p := ⟨w.heap.size, 1, none⟩) (blt k1)).trans k1; have p2 := (HB.cell (p := ⟨w.heap.size, 2, none⟩) (blt k2)).trans k2; have hsz : U.heap.size < w1.heap.size := hown.lt; have hsz2 : w.heap.size < w1.heap.size := (by omega); clear hown hb) | (have hlk := (HLK.out w1 (U.heap.size + 1) (by simpa using hown)).2; have HX : Below U.heap.size U ((U.alloc (.cells #[.bool false, .nilFunc] 57)).drew) := below_drew (below_alloc _ _); have hb' : Below ((U.alloc (.cells #[.bool false, .nilFunc] 57)).drew).heap.size ((U.alloc (.cells #[.bool false, .nilFunc] 57)).drew) w1 := hb; have HB : Below U.heap.size U w1 := btr HX hb'; have v0 : w1.cell? ⟨U.heap.size, 0, none⟩ = some (.bool false) := (hb'.cell (p := ⟨U.heap.size, 0, none⟩) (by simp)).trans (by go_simp); have v1 : w1.cell? ⟨U.heap.size, 1, none⟩ = some .nilFunc := (hb'.cell (p := ⟨U.heap.size, 1, none⟩) (by simp)).trans (by go_simp); have z0 : w1.frozen? ⟨U.heap.size, 0, none⟩ = false := (hb'.frozen (p := ⟨U.heap.size, 0, none⟩) (by simp)).trans (by go_simp); have z1 : w1.frozen? ⟨U.heap.size, 1, none⟩ = false := (hb'.frozen (p := ⟨U.heap.size, 1, none⟩) (by simp)).trans (by go_simp); have p0 := (HB.cell (p := ⟨w.heap.size, 0, none⟩) (blt k0)).trans k0; have p1 := (HB.cell (p := ⟨w.heap.size, 1, none⟩) (blt k1)).trans k1; have p2 := (HB.cell (p := ⟨w.heap.size, 2, none⟩) (blt k2)).trans k2; have hsz : U.heap.size < w1.heap.size := (by have := hb'.size; simp at this; omega); have hsz2 : w.heap.size < w1.heap.size := (by omega); clear hown hb hb' HX))
    all_goals
      go_wp2_with fail
      go_meet
      refine ⟨_, rfl, rfl, ?_, ?_, ?_, ?_, ?_⟩
      · go_simp
      · go_simp
      · go_simp
      · go_simp
      · repeat' (first | exact HB | refine below_drew ?_ | refine Below.setCell ?_ ?_ _ | refine bal ?_ _ | (dsimp only; omega))
  case rest =>
    obtain ⟨B, rfl, rfl, d0, d1, p1, p2, hB⟩ := hcut
    have HB2 := Lib.hid (btr HA.out hB)
    clear k0 k1 k2 HA hS hB hzU HLK HD
    by_cases h0 : st < 0
    · go_wp2
      go_ret
      exact ⟨ret_bool (by simp; omega), HB2.out⟩
    · have h0' : 0 ≤ st := by omega
      by_cases h1 : 65535 < st
      · go_wp2
        go_ret
        exact ⟨ret_bool (by simp; omega), HB2.out⟩
      · have h1' : st ≤ 65535 := by omega
        by_cases hp : 0 < st
        · cases b
          · go_wp2
            go_ret
            exact ⟨ret_bool (by first | (simp [*]; done) | (simp [*]; intro h; omega)), HB2.out⟩
          · rcases HF.out with rfl | rfl | rfl | rfl | rfl | rfl
            all_goals
              go_wp2_with (refine (HP.out _).mono ?_; rintro x w9 ⟨rfl, rfl⟩)
              go_ret
              exact ⟨ret_bool (by first | (simp [*]; done) | (simp [*]; intro h; omega)), HB2.out⟩
        · cases b
          · rcases HF.out with rfl | rfl | rfl | rfl | rfl | rfl
            all_goals
              go_wp2_with (refine (HP.out _).mono ?_; rintro x w9 ⟨rfl, rfl⟩)
              go_ret
              exact ⟨ret_bool (by first | (simp [*]; done) | (simp [*]; intro h; omega)), HB2.out⟩
          · go_wp2
            go_ret
            exact ⟨ret_bool (by first | (simp [*]; done) | (simp [*]; intro h; omega)), HB2.out⟩
theorem right_c (k st : Int) (s : ByteArray) (hk : (Lit.int .i64 k).wf = true) (w : World) : Calls Tryd.prog 19 #[.agg #[.int .i64 k, .int .i64 st, .string s]] w fun x w' => x = .returned (.bool (rightW k st s.size)) ∧ Below w.heap.size w w' := by
  unfold rightW
  cases hd : demOf k with
  | none => exact right_no k st s hk hd w
  | some x =>
    obtain ⟨b, f⟩ := x
    refine right_yes k st s hk b f hd ?_ w
    unfold demOf at hd
    unfold isPay
    repeat' (split at hd)
    all_goals (first | (cases hd; simp; done) | cases hd)
end Go.Proofs.YtdcnpcdohgecbaaDoor
