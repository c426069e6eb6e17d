/- text. -/
import Derived.Test.YtjlpkndbnaknaaaGreatDoorH
import Derived.Laws.MakeOwn
import Derived.Deep.AppendLies
namespace Go.Proofs.YtjlpkndbnaknaaaGreatDoor
open Go.RowKit Go.Shelf
attribute [local go_sem] Oper.semAt_some

theorem add_at (g j : Nat) : (⟨g, 0, none⟩ : Addr).add j = ⟨g, j, none⟩ := by unfold Addr.add; split <;> simp_all
theorem ownsRow_succ {w : World} {base : Nat} {e : TypeId} {size : Nat} {v : Value} {n : Nat} {xs : List Value} (h : w.ownsRow base e size v (n + 1) xs) : ∃ g c, v = .slice (some ⟨g, 0, none⟩) (n + 1) c := by
  rcases h.2 with ⟨_, h0⟩ | ⟨g, cap, cur, h1, _⟩
  · cases h0
  · exact ⟨g, cap, h1⟩
def textK (s : Sta) : Nat → List Nat
  | 0 => []
  | k + 1 => textK s k ++ wordBs (s.get k)
theorem textK_all (s : Sta) : textK s 8 = textS s := rfl
theorem textK_length (s : Sta) : ∀ k, (textK s k).length = 4 * k
  | 0 => rfl
  | k + 1 => by rw [textK, List.length_append, textK_length s k]; show 4 * k + 4 = _; omega
theorem wordBs_lt (x : Wd) : ∀ c ∈ wordBs x, c < 256 := by
  have h := x.isLt
  intro c hc
  simp only [wordBs, List.mem_cons, List.not_mem_nil, or_false] at hc
  rcases hc with rfl | rfl | rfl | rfl <;> omega
theorem textS_lt (s : Sta) : ∀ c ∈ textS s, c < 256 := by
  intro c hc
  simp only [textS, List.mem_append] at hc
  rcases hc with ((((((h | h) | h) | h) | h) | h) | h) | h <;> exact wordBs_lt _ c h
set_option maxRecDepth 100000 in
set_option maxHeartbeats 8000000 in
theorem text_c (B : Nat) (s : Sta) (w : World) (hS : StaAt B s w) : Calls Tryz.prog 33 #[.pointer (some ⟨B, 0, none⟩)] w fun r w' => r = .returned (.string (ofL (textS s))) ∧ Below w.heap.size w w' := by
  obtain ⟨Z, hZ⟩ : ∃ Z, Z = List.replicate 32 0 := ⟨_, rfl⟩
  have HM := fun W => make_by 0 32 (by omega) (by omega) W
  rw [show ((0 : Nat) : Int) = 0 from rfl, show ((32 : Nat) : Int) = 32 from rfl, ← hZ] at HM
  have hZl : (byVs Z).toArray.size = 32 * 1 := by rw [hZ]; simp [byVs]
  clear hZ
  obtain ⟨i0, hi, hz0, hz1, hz2⟩ := info_by
  have HS2 := Lib.hid hS.lt
  go_enter Tryz.func33, Tryz.ntmps33
  go_wp2
  have hO : (w.alloc (.cells (byVs Z).toArray 5)).ownsRow w.heap.size 5 1 (.slice (some ⟨w.heap.size, 0, none⟩) 0 32) 0 [] := World.ownsRow_made w _ 32 (Nat.le_refl _) (by unfold maxLen; omega) hZl
  have hS2 := hS.on (below_alloc w (.cells (byVs Z).toArray 5))
  have hb2 := below_alloc w (.cells (byVs Z).toArray 5)
  generalize w.alloc (.cells (byVs Z).toArray 5) = w2 at *
  clear hS HM hZl
  go_loopw [3, 8] (fun u i wr => ∃ k : Nat, k ≤ 8 ∧ i = .int .i64 (k : Int) ∧ wr.ownsRow w.heap.size 5 1 u (4 * k) (byVs (textK s k)) ∧ (∃ g c, u = .slice (some ⟨g, 0, none⟩) (4 * k) c) ∧ Below w.heap.size w wr ∧ StaAt B s wr) (fun _ i _ => 8 - (intOf i).toNat)
  case atStart => exact ⟨0, by omega, rfl, hO, ⟨_, _, rfl⟩, hb2, hS2⟩
  case round =>
    obtain ⟨k, hk, rfl, hOk, ⟨g, c, rfl⟩, hbk, hSk⟩ := hrel
    clear hO hb2 hS2
    by_cases hlt : k < 8
    · have hlt' : (k : Int) < 8 := by omega
      have hck := hSk.cell hlt
      have HB := Lib.hid hbk
      have HS := Lib.hid hSk
      have HO := Lib.hid hOk
      have HT := Lib.hid (show textK s (k + 1) = textK s k ++ wordBs (s.get k) from rfl)
      have hbs := hbk.size
      clear hbk hSk hOk
      generalize s.get k = x at *
      generalize textK s k = tk at *
      have HN := Lib.hid (show byVs tk ++ [.int .u8 ((x.toNat : Int) / 16777216), .int .u8 ((x.toNat : Int) / 65536 % 256), .int .u8 ((x.toNat : Int) / 256 % 256), .int .u8 ((x.toNat : Int) % 256)] = byVs (tk ++ wordBs x) by rw [byVs_append]; rfl)
      go_wp2_with (at_builtin; refine wpList_append_own _ rfl (.tmp 13) (.tmp 25) 53 rfl w.heap.size 5 i0 (.int .u8 0) 1 1 Tryz.underlying53 hi hz0 hz2 hz1 rfl (by decide) _ (4 * k) (byVs tk) rfl (HO.out.alloc _) ⟨wr.heap.size, 0, none⟩ 4 4 [.int .u8 ((x.toNat : Int) / 16777216), .int .u8 ((x.toNat : Int) / 65536 % 256), .int .u8 ((x.toNat : Int) / 256 % 256), .int .u8 ((x.toNat : Int) % 256)] rfl rfl (World.news_of_block (cs := #[.int .u8 ((x.toNat : Int) / 16777216), .int .u8 ((x.toNat : Int) / 65536 % 256), .int .u8 ((x.toNat : Int) / 256 % 256), .int .u8 ((x.toNat : Int) % 256)]) (t := 5) (fr := (0, 0)) (heap_alloc_new wr _)) (by simp [Value.oneCell']) (by unfold maxLen; omega) (by omega) (by simp; omega) ?_; intro v' w3 hown' hgrow _; obtain ⟨g', c', rfl⟩ := ownsRow_succ hown')
      rw [HN.out, ← HT.out] at hown'
      have hg3 : w.heap.size ≤ g := (HO.out.lt g rfl).1
      have HA := Lib.hid (below_alloc wr (.cells #[.int .u8 ((x.toNat : Int) / 16777216), .int .u8 ((x.toNat : Int) / 65536 % 256), .int .u8 ((x.toNat : Int) / 256 % 256), .int .u8 ((x.toNat : Int) % 256)] 5))
      have HB3 := Lib.hid ((btr HB.out HA.out).grown hgrow (by simp; omega) (fun j hj => by cases hj; exact hg3))
      have hBg : B ≠ g := by have := HS2.out; omega
      have HS3 := Lib.hid ((HS.out.on HA.out).grown hgrow (fun e => by cases e; exact hBg rfl))
      have HO3 := Lib.hid hown'
      clear hown' hgrow HA
      go_roundw
      case rel => exact ⟨k + 1, by omega, by go_num, HO3.out, ⟨_, _, rfl⟩, HB3.out, HS3.out⟩
      case measure => simp [intOf]; omega
    · have hlt' : ¬ (k : Int) < 8 := by omega
      obtain rfl : k = 8 := by omega
      have hlen : (textS s).length = 32 := textS_length s
      rw [textK_all] at hOk
      have hcv := conv_cells (textS s) (textS_lt s) g c wr (fun j n h => by
        have := hOk.cells (g := g) rfl j (.int .u8 (n : Int)) (by simp [byVs, h, byV])
        rwa [add_at] at this)
      rw [hlen] at hcv
      clear hOk hSk
      go_wp2
      go_ret
      exact ⟨rfl, hbk⟩
end Go.Proofs.YtjlpkndbnaknaaaGreatDoor
