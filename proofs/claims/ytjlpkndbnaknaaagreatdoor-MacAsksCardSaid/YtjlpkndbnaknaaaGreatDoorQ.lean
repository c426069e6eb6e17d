/- Layer 4 as plain functions: SHA-256 over words of 32 bits. -/
import Derived.Test.YtjlpkndbnaknaaaGreatDoorP
namespace Go.Proofs.YtjlpkndbnaknaaaGreatDoor

abbrev Wd := BitVec 32
structure Sta where
  (a b c d e f g h : Wd)
deriving DecidableEq
def rootsL : List Wd := [0x428a2f98, 0x71374491, 0xb5c0fbcf, 0xe9b5dba5, 0x3956c25b, 0x59f111f1, 0x923f82a4, 0xab1c5ed5, 0xd807aa98, 0x12835b01, 0x243185be, 0x550c7dc3, 0x72be5d74, 0x80deb1fe, 0x9bdc06a7, 0xc19bf174, 0xe49b69c1, 0xefbe4786, 0x0fc19dc6, 0x240ca1cc, 0x2de92c6f, 0x4a7484aa, 0x5cb0a9dc, 0x76f988da, 0x983e5152, 0xa831c66d, 0xb00327c8, 0xbf597fc7, 0xc6e00bf3, 0xd5a79147, 0x06ca6351, 0x14292967, 0x27b70a85, 0x2e1b2138, 0x4d2c6dfc, 0x53380d13, 0x650a7354, 0x766a0abb, 0x81c2c92e, 0x92722c85, 0xa2bfe8a1, 0xa81a664b, 0xc24b8b70, 0xc76c51a3, 0xd192e819, 0xd6990624, 0xf40e3585, 0x106aa070, 0x19a4c116, 0x1e376c08, 0x2748774c, 0x34b0bcb5, 0x391c0cb3, 0x4ed8aa4a, 0x5b9cca4f, 0x682e6ff3, 0x748f82ee, 0x78a5636f, 0x84c87814, 0x8cc70208, 0x90befffa, 0xa4506ceb, 0xbef9a3f7, 0xc67178f2]
def beg : Sta := ⟨0x6a09e667, 0xbb67ae85, 0x3c6ef372, 0xa54ff53a, 0x510e527f, 0x9b05688c, 0x1f83d9ab, 0x5be0cd19⟩
/-- Rotations to the right, put together by exclusive or. -/
def spunL (x : Wd) (l : List Nat) : Wd := l.foldl (fun o n => o ^^^ x.rotateRight n) 0
def nearW (x : Wd) : Wd := spunL x [7, 18] ^^^ x >>> 3
def farW (x : Wd) : Wd := spunL x [17, 19] ^^^ x >>> 10
def firstW (x : Wd) : Wd := spunL x [2, 13, 22]
def fifthW (x : Wd) : Wd := spunL x [6, 11, 25]
def totalL (l : List Wd) : Wd := l.foldl (· + ·) 0
/-- The number of four bytes. -/
def wordL : List Nat → Wd
  | [p, q, r, s] => BitVec.ofNat 32 p <<< 24 ||| BitVec.ofNat 32 q <<< 16 ||| BitVec.ofNat 32 r <<< 8 ||| BitVec.ofNat 32 s
  | _ => 0
/-- The word at a place of a block. -/
def wordAt (b : List Nat) (i : Nat) : Wd := wordL ((b.drop (4 * i)).take 4)
/-- The next word of a schedule. -/
def nextW (b : List Nat) (ws : List Wd) : Wd :=
  if ws.length < 16 then wordAt b ws.length
  else totalL [ws.getD (ws.length - 16) 0, nearW (ws.getD (ws.length - 15) 0), ws.getD (ws.length - 7) 0, farW (ws.getD (ws.length - 2) 0)]
/-- A schedule's first n words. -/
def schedL (b : List Nat) : Nat → List Wd
  | 0 => []
  | n + 1 => let ws := schedL b n; ws ++ [nextW b ws]
def roundS (s : Sta) (k w : Wd) : Sta :=
  let t := totalL [s.h, fifthW s.e, (s.e &&& s.f) ^^^ (~~~s.e &&& s.g), k, w]
  let u := totalL [firstW s.a, ((s.a &&& s.b) ^^^ (s.a &&& s.c)) ^^^ (s.b &&& s.c)]
  ⟨t + u, s.a, s.b, s.c, s.d + t, s.e, s.f, s.g⟩
def roundsS (s : Sta) (l : List (Wd × Wd)) : Sta := l.foldl (fun s p => roundS s p.1 p.2) s
def joinS (s o : Sta) : Sta := ⟨s.a + o.a, s.b + o.b, s.c + o.c, s.d + o.d, s.e + o.e, s.f + o.f, s.g + o.g, s.h + o.h⟩
/-- A block mixed into a state. -/
def blockS (s : Sta) (b : List Nat) : Sta := joinS s (roundsS s (rootsL.zip (schedL b 64)))
/-- A padded text's blocks, n of them. -/
def mixS (s : Sta) : Nat → List Nat → Sta
  | 0, _ => s
  | n + 1, l => mixS (blockS s (l.take 64)) n (l.drop 64)
/-- The last eight bytes of a padding. -/
def lenL (n : Nat) : List Nat := (List.range 8).map fun i => (8 * n) / 256 ^ (7 - i) % 256
/-- How many bytes 0 a padding has before these. -/
def zerosN (n : Nat) : Nat := (119 - n % 64) % 64
def padL (l : List Nat) : List Nat := l ++ 128 :: (List.replicate (zerosN l.length) 0 ++ lenL l.length)
def wordBs (x : Wd) : List Nat := [x.toNat / 16777216, x.toNat / 65536 % 256, x.toNat / 256 % 256, x.toNat % 256]
def textS (s : Sta) : List Nat := wordBs s.a ++ wordBs s.b ++ wordBs s.c ++ wordBs s.d ++ wordBs s.e ++ wordBs s.f ++ wordBs s.g ++ wordBs s.h
def sumL (l : List Nat) : List Nat := textS (mixS beg ((padL l).length / 64) (padL l))

theorem padL_length (l : List Nat) : (padL l).length = l.length + 9 + zerosN l.length := by
  simp only [padL, lenL, List.length_append, List.length_cons, List.length_replicate, List.length_map, List.length_range]; omega
theorem padL_mod (l : List Nat) : (padL l).length % 64 = 0 := by rw [padL_length]; unfold zerosN; omega
theorem textS_length (s : Sta) : (textS s).length = 32 := rfl
theorem schedL_length (b : List Nat) (n : Nat) : (schedL b n).length = n := by
  induction n with
  | zero => rfl
  | succ n ih => show (schedL b n ++ [_]).length = _; rw [List.length_append, ih]; rfl
/-- Two known sums. -/
theorem sumL_abc : hexL (sumL [97, 98, 99]) = "ba7816bf8f01cfea414140de5dae2223b00361a396177a9cb410ff61f20015ad".toList.map Char.toNat := by decide +kernel
theorem sumL_nil : hexL (sumL []) = "e3b0c44298fc1c149afbf4c8996fb92427ae41e4649b934ca495991b7852b855".toList.map Char.toNat := by decide +kernel
end Go.Proofs.YtjlpkndbnaknaaaGreatDoor
