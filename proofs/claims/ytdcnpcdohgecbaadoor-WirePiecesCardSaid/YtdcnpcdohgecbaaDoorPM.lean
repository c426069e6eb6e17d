/- lay: many frames' bytes; what a cut leaves, as plain lists. -/
import Derived.Test.YtdcnpcdohgecbaaDoorPL
namespace Go.Proofs.YtdcnpcdohgecbaaDoor
open Go.RowKit Go.Shelf
attribute [local go_sem] Oper.semAt_some

theorem encs_take_succ (l : List FrT) (k : Nat) (h : k < l.length) : encs (l.take (k + 1)) = encs (l.take k) ++ encL l[k] := by
  rw [List.take_add_one, List.getElem?_eq_getElem h, encs_append]
  simp [encs]
theorem encs_bound (l : List FrT) (h : ∀ f ∈ l, f.2.2.size ≤ 513) : (encs l).length ≤ 518 * l.length := by
  induction l with
  | nil => simp [encs]
  | cons f l ih =>
    rw [encs_cons, List.length_append, encL_length, List.length_cons]
    have h1 := h f (by simp)
    have h2 := ih (fun g hg => h g (by simp [hg]))
    omega
/-- What lay gives. -/
def LayR (l : List FrT) (x : Ending) : Prop := (∃ S : ByteArray, (∀ f ∈ l, rightF f = true) ∧ S.data.toList = encs l ∧ x = .returned (.tuple #[.string S, .bool true])) ∨ x = .returned (.tuple #[.string ⟨#[]⟩, .bool false])
set_option maxRecDepth 100000 in
set_option maxHeartbeats 8000000 in
theorem lay_c (a : Option Addr) (cap : Nat) (l : List FrT) (hlen : l.length ≤ 10) (hd : ∀ f ∈ l, f.2.2.size ≤ 513) (hw : ∀ f ∈ l, (Lit.int .i64 f.1).wf = true) (w : World) (hA : FramesAt w.heap.size w a l) : Calls Tryd.prog 26 #[.slice a l.length cap] w fun x w' => LayR l x ∧ Below w.heap.size w w' := by
  have HA := Lib.hid hA
  have HD := Lib.hid hd
  have HW := Lib.hid hw
  clear hA hd hw
  generalize hL : l.length = L at *
  go_enter Tryd.func26, Tryd.ntmps26
  go_wp2
  go_loopw [4, 5] (fun t i wr => ∃ (k : Nat) (S : ByteArray), k ≤ L ∧ i = .int .i64 (k : Int) ∧ t = .string S ∧ Hid (S.data.toList = encs (l.take k)) ∧ S.size ≤ 518 * k ∧ Hid (∀ f ∈ l.take k, rightF f = true) ∧ Below w.heap.size w wr) (fun _ i _ => L - (intOf i).toNat)
  case atStart => exact ⟨0, ⟨#[]⟩, by omega, rfl, rfl, Lib.hid rfl, Nat.le_refl 0, Lib.hid (by simp), Below.refl _ _⟩
  case round =>
    obtain ⟨k, S, hk, rfl, rfl, hS, hSz, hR, hbl⟩ := hrel
    by_cases hlt : k < L
    · have hkl : k < l.length := by omega
      obtain ⟨b, off, rfl, hb1, c0, c1, c2⟩ := (HA.out.below hbl) k hkl
      have hlt' : (k : Int) < (L : Int) := by omega
      have HBl := Lib.hid hbl
      have hm : l[k] ∈ l := List.getElem_mem hkl
      have hdk := HD.out _ hm
      have hwk := HW.out _ hm
      have HT := Lib.hid (encs_take_succ l k hkl)
      have HT2 := Lib.hid (show l.take (k + 1) = l.take k ++ [l[k]] by rw [List.take_add_one, List.getElem?_eq_getElem hkl]; rfl)
      clear hbl hm
      generalize l[k] = f at *
      cases hr : rightF f with
      | true =>
        have HE := Lib.hid (fun W => enc_yes hr W)
        have hfl := frame_len f
        have HEL := Lib.hid (show (⟨(encL f).toArray⟩ : ByteArray).data.toList = encL f by simp)
        generalize (⟨(encL f).toArray⟩ : ByteArray) = ea at *
        have z1 : ¬ 9223372036854775807 < S.size + ea.size := by omega
        have HR2 := Lib.hid hr
        clear hr hwk
        go_wp2_with (refine (HE.out _).mono ?_; rintro e w1 ⟨rfl, hb⟩)
        have HB1 := Lib.hid (btr HBl.out hb)
        clear hb
        go_roundw
        case rel =>
          refine ⟨k + 1, S ++ ea, by omega, by go_num, rfl, Lib.hid ?_, ?_, Lib.hid ?_, HB1.out⟩
          · rw [HT.out, ← hS.out, ← HEL.out]; simp
          · rw [ByteArray.size_append]; omega
          · rw [HT2.out]
            intro g hg
            rcases List.mem_append.1 hg with h | h
            · exact hR.out g h
            · rw [List.mem_singleton.1 h]; exact HR2.out
        case measure => simp [intOf]; omega
      | false =>
        have HE := Lib.hid (fun W => enc_no hwk hr W)
        clear hr hwk
        go_wp2_with (refine (HE.out _).mono ?_; rintro e w1 ⟨rfl, hb⟩)
        go_ret2
        exact ⟨.inr rfl, btr HBl.out hb⟩
    · have hlt' : ¬ (k : Int) < (L : Int) := by omega
      have HBl := Lib.hid hbl
      clear hbl
      have e : l.take k = l := List.take_of_length_le (by omega)
      rw [e] at hS hR
      go_wp2
      go_ret2
      exact ⟨.inl ⟨S, hR.out, hS.out, rfl⟩, HBl.out⟩
/-- The frames of what is cut. -/
theorem alls_cut {l : List FrT} (hR : ∀ f ∈ l, rightF f = true) (at_ k : Nat) (hk : k ≤ l.length) (h1 : (encs (l.take k)).length ≤ at_) (h2 : k = l.length ∨ ∃ f, l[k]? = some f ∧ at_ < (encs (l.take k)).length + (encL f).length) (_h3 : at_ ≤ (encs l).length) : ∃ r, AllS (List.take at_ (encs l)) (l.take k) r ∧ errOf r = 0 := by
  have hsplit : encs l = encs (l.take k) ++ encs (l.drop k) := by rw [← encs_append, List.take_append_drop]
  refine ⟨List.take (at_ - (encs (l.take k)).length) (encs (l.drop k)), ⟨?_, fun f hf => hR f (List.mem_of_mem_take hf), ?_⟩, ?_⟩
  · conv => lhs; rw [hsplit]
    rw [List.take_append, List.take_of_length_le h1]
  all_goals
    have key : hdE (List.take (at_ - (encs (l.take k)).length) (encs (l.drop k))) = 30 := by
      rcases h2 with rfl | ⟨f, hf, hlt⟩
      · simp [encs, hdE]
      · have hkl : k < l.length := (List.getElem?_eq_some_iff.1 hf).1
        have hd : l.drop k = f :: l.drop (k + 1) := by
          rw [List.drop_eq_getElem_cons hkl]
          congr 1
          exact (List.getElem?_eq_some_iff.1 hf).2
        rw [hd, encs_cons, List.take_append_of_le_length (by omega)]
        refine hd_cut (hR f ?_) _ (by omega)
        exact List.mem_of_getElem? hf
    first
      | (rw [key]; decide)
      | (unfold errOf; rw [if_pos key])
end Go.Proofs.YtdcnpcdohgecbaaDoor
