/- SHA-256 over words of 32 bits, as a function of bytes; and how the model's operations on words read. No conditions. Words: they are turned, and read out of bytes. Arrays in blocks of their own, bytes in blocks, worlds that keep what lay. The numbers w(0) to w(63) of a block. A block is absorbed. The bytes of the state. The last blocks of the padded bytes. -/
import Derived.Test.YtfmngeemhfpeiaaDoorProg
import Derived.Laws.BitsAllLaws
import Derived.WalkKit
import Derived.ProofKit
import Derived.Deep.Slices
import Derived.Lib.SmallJoins
import Derived.WalkSpells
import Derived.WalkLawsBesides
import Derived.Handy
import Derived.Lib.Hide
import Derived.BigQuiet
import Derived.Deep.MidRow
import Derived.Deep.RegionHeld3
namespace Go.Proofs.YtfmngeemhfpeiaaDoor

/-- To the right. -/
def ror (x : (BitVec 32)) (n : Nat) : (BitVec 32) := x >>> n ||| x <<< (32 - n)
def ks : List (BitVec 32) := [
0x428a2f98#32, 0x71374491#32, 0xb5c0fbcf#32, 0xe9b5dba5#32, 0x3956c25b#32, 0x59f111f1#32, 0x923f82a4#32, 0xab1c5ed5#32,
0xd807aa98#32, 0x12835b01#32, 0x243185be#32, 0x550c7dc3#32, 0x72be5d74#32, 0x80deb1fe#32, 0x9bdc06a7#32, 0xc19bf174#32,
0xe49b69c1#32, 0xefbe4786#32, 0x0fc19dc6#32, 0x240ca1cc#32, 0x2de92c6f#32, 0x4a7484aa#32, 0x5cb0a9dc#32, 0x76f988da#32,
0x983e5152#32, 0xa831c66d#32, 0xb00327c8#32, 0xbf597fc7#32, 0xc6e00bf3#32, 0xd5a79147#32, 0x06ca6351#32, 0x14292967#32,
0x27b70a85#32, 0x2e1b2138#32, 0x4d2c6dfc#32, 0x53380d13#32, 0x650a7354#32, 0x766a0abb#32, 0x81c2c92e#32, 0x92722c85#32,
0xa2bfe8a1#32, 0xa81a664b#32, 0xc24b8b70#32, 0xc76c51a3#32, 0xd192e819#32, 0xd6990624#32, 0xf40e3585#32, 0x106aa070#32,
0x19a4c116#32, 0x1e376c08#32, 0x2748774c#32, 0x34b0bcb5#32, 0x391c0cb3#32, 0x4ed8aa4a#32, 0x5b9cca4f#32, 0x682e6ff3#32,
0x748f82ee#32, 0x78a5636f#32, 0x84c87814#32, 0x8cc70208#32, 0x90befffa#32, 0xa4506ceb#32, 0xbef9a3f7#32, 0xc67178f2#32]
def b32 (x : UInt8) : (BitVec 32) := BitVec.ofNat 32 x.toNat
def word (l : List UInt8) (i : Nat) : (BitVec 32) :=
  b32 (l.getD i 0) <<< 24 ||| b32 (l.getD (i + 1) 0) <<< 16 ||| b32 (l.getD (i + 2) 0) <<< 8 ||| b32 (l.getD (i + 3) 0)
def ext (l : List (BitVec 32)) (t : Nat) : (BitVec 32) :=
  let x := l.getD (t - 15) 0
  let y := l.getD (t - 2) 0
  l.getD (t - 16) 0 + (ror x 7 ^^^ ror x 18 ^^^ x >>> 3) + l.getD (t - 7) 0 + (ror y 17 ^^^ ror y 19 ^^^ y >>> 10)
def sch (blk : List UInt8) : Nat → List (BitVec 32)
  | 0 => []
  | t + 1 => sch blk t ++ [if t < 16 then word blk (4 * t) else ext (sch blk t) t]
structure St where
  a : (BitVec 32)
  b : (BitVec 32)
  c : (BitVec 32)
  d : (BitVec 32)
  e : (BitVec 32)
  f : (BitVec 32)
  g : (BitVec 32)
  h : (BitVec 32)
def round (s : St) (k w : (BitVec 32)) : St :=
  let p := s.h + (ror s.e 6 ^^^ ror s.e 11 ^^^ ror s.e 25) + ((s.e &&& s.f) ^^^ (~~~s.e &&& s.g)) + k + w
  let q := (ror s.a 2 ^^^ ror s.a 13 ^^^ ror s.a 22) + ((s.a &&& s.b) ^^^ (s.a &&& s.c) ^^^ (s.b &&& s.c))
  ⟨p + q, s.a, s.b, s.c, s.d + p, s.e, s.f, s.g⟩
def rnds (w : List (BitVec 32)) (s : St) : Nat → St
  | 0 => s
  | t + 1 => round (rnds w s t) (ks.getD t 0) (w.getD t 0)
def St.add (s x : St) : St := ⟨s.a + x.a, s.b + x.b, s.c + x.c, s.d + x.d, s.e + x.e, s.f + x.f, s.g + x.g, s.h + x.h⟩
def press (s : St) (blk : List UInt8) : St := s.add (rnds (sch blk 64) s 64)
def s0 : St := ⟨0x6a09e667#32, 0xbb67ae85#32, 0x3c6ef372#32, 0xa54ff53a#32, 0x510e527f#32, 0x9b05688c#32, 0x1f83d9ab#32, 0x5be0cd19#32⟩
def be64 (m : Nat) : List UInt8 := [UInt8.ofNat (m / 2^56), UInt8.ofNat (m / 2^48), UInt8.ofNat (m / 2^40), UInt8.ofNat (m / 2^32), UInt8.ofNat (m / 2^24), UInt8.ofNat (m / 2^16), UInt8.ofNat (m / 2^8), UInt8.ofNat m]
def pad (b : List UInt8) : List UInt8 := b ++ (0x80 :: (List.replicate ((119 - b.length % 64) % 64) 0 ++ be64 (8 * b.length)))
def runs (s : St) (l : List UInt8) : Nat → St
  | 0 => s
  | n + 1 => runs (press s (l.take 64)) (l.drop 64) n
def St.list (s : St) : List (BitVec 32) := [s.a, s.b, s.c, s.d, s.e, s.f, s.g, s.h]
def outb (s : St) (i : Nat) : UInt8 := UInt8.ofNat ((s.list.getD (i / 4) 0) >>> (24 - 8 * (i % 4))).toNat
def sha (b : List UInt8) : List UInt8 := (List.range 32).map (outb (runs s0 (pad b) ((pad b).length / 64)))

theorem sha_len (b : List UInt8) : (sha b).length = 32 := by simp [sha]
set_option maxRecDepth 100000 in
theorem sha_abc : (sha [97, 98, 99]).take 4 = [0xba, 0x78, 0x16, 0xbf] := by decide +kernel
set_option maxRecDepth 100000 in
theorem sha_nil : (sha []).take 4 = [0xe3, 0xb0, 0xc4, 0x42] := by decide +kernel

/-! The model's operations on words. -/
theorem w_lt (x : (BitVec 32)) : x.toNat < 4294967296 := x.isLt
theorem w_wrap (x : (BitVec 32)) : IntKind.u32.wrap (x.toNat : Int) = (x.toNat : Int) := by
  have := x.isLt
  rw [IntKind.wrap_u32']; omega
theorem w_add (x y : (BitVec 32)) : IntKind.u32.wrap ((x.toNat : Int) + (y.toNat : Int)) = ((x + y).toNat : Int) := by
  rw [IntKind.wrap_u32', BitVec.toNat_add]; omega
theorem w_and (x y : (BitVec 32)) : bits .and .u32 (x.toNat : Int) (y.toNat : Int) = ((x &&& y).toNat : Int) := by
  rw [u32_and_nat _ _ x.isLt y.isLt, BitVec.toNat_and]
theorem w_or (x y : (BitVec 32)) : bits .or .u32 (x.toNat : Int) (y.toNat : Int) = ((x ||| y).toNat : Int) := by
  rw [u32_or_nat _ _ x.isLt y.isLt, BitVec.toNat_or]
theorem w_xor (x y : (BitVec 32)) : bits .xor .u32 (x.toNat : Int) (y.toNat : Int) = ((x ^^^ y).toNat : Int) := by
  rw [u32_xor_nat _ _ x.isLt y.isLt, BitVec.toNat_xor]
theorem w_not (x : (BitVec 32)) : bits .xor .u32 4294967295 (x.toNat : Int) = ((~~~x).toNat : Int) := by
  have h := w_xor (BitVec.allOnes 32) x
  rw [BitVec.allOnes_xor] at h
  exact h
theorem w_shr (x : (BitVec 32)) (n : Nat) : (x.toNat : Int) / ((2 ^ n : Nat) : Int) = ((x >>> n).toNat : Int) := by
  rw [BitVec.toNat_ushiftRight, Nat.shiftRight_eq_div_pow]; exact (Int.natCast_ediv _ _).symm
theorem w_shl (x : (BitVec 32)) (n : Nat) : IntKind.u32.wrap ((x.toNat : Int) * ((2 ^ n : Nat) : Int)) = ((x <<< n).toNat : Int) := by
  rw [IntKind.wrap_u32', BitVec.toNat_shiftLeft, Nat.shiftLeft_eq, Int.natCast_emod, Int.natCast_mul]; rfl
theorem w_shr3 (x : (BitVec 32)) : (x.toNat : Int) / 8 = ((x >>> 3).toNat : Int) := w_shr x 3
theorem w_shr10 (x : (BitVec 32)) : (x.toNat : Int) / 1024 = ((x >>> 10).toNat : Int) := w_shr x 10
theorem w_zero : ((0#32).toNat : Int) = 0 := rfl
theorem b32_toNat (c : UInt8) : ((b32 c).toNat : Int) = (c.toNat : Int) := by
  have := c.toNat_lt
  unfold b32
  rw [BitVec.toNat_ofNat, Nat.mod_eq_of_lt (by omega)]
end Go.Proofs.YtfmngeemhfpeiaaDoor

namespace Go.Proofs.YtfmngeemhfpeiaaDoor
open Go.RowKit

theorem ret_int {k : IntKind} {a b : Int} (h : a = b) : Ending.returned (.int k a) = .returned (.int k b) := by rw [h]

theorem ror_l (x : (BitVec 32)) (n : Nat) : bits .or .u32 ((x.toNat : Int) * ((2 ^ (32 - n) : Nat) : Int) % 4294967296) ((x.toNat : Int) / ((2 ^ n : Nat) : Int)) = ((ror x n).toNat : Int) := by
  rw [← IntKind.wrap_u32', w_shl, w_shr, w_or, BitVec.or_comm]; rfl
theorem ror_r (x : (BitVec 32)) (n : Nat) : bits .or .u32 ((x.toNat : Int) / ((2 ^ n : Nat) : Int)) ((x.toNat : Int) * ((2 ^ (32 - n) : Nat) : Int) % 4294967296) = ((ror x n).toNat : Int) := by
  rw [← IntKind.wrap_u32', w_shl, w_shr, w_or]; rfl

theorem b32_shl (c : UInt8) (n : Nat) (h : n ≤ 24) : ((b32 c <<< n).toNat : Int) = (c.toNat : Int) * ((2 ^ n : Nat) : Int) := by
  have h1 := c.toNat_lt
  have h2 : 2 ^ n ≤ 2 ^ 24 := Nat.pow_le_pow_right (by omega) h
  have h3 : c.toNat * 2 ^ n ≤ 255 * 2 ^ 24 := Nat.mul_le_mul (by omega) h2
  rw [← w_shl, b32_toNat, IntKind.wrap_u32', ← Int.natCast_mul]
  omega
theorem or4 (A B C D : Int) (a b c d : (BitVec 32)) (h1 : A = (a.toNat : Int)) (h2 : B = (b.toNat : Int)) (h3 : C = (c.toNat : Int)) (h4 : D = (d.toNat : Int)) :
    bits .or .u32 (bits .or .u32 (bits .or .u32 A B) C) D = ((a ||| b ||| c ||| d).toNat : Int) := by
  rw [h1, h2, h3, h4, w_or, w_or, w_or]
theorem word_form (c0 c1 c2 c3 : UInt8) : bits .or .u32 (bits .or .u32 (bits .or .u32 ((c0.toNat : Int) * 16777216) ((c1.toNat : Int) * 65536)) ((c2.toNat : Int) * 256)) (c3.toNat : Int)
    = ((b32 c0 <<< 24 ||| b32 c1 <<< 16 ||| b32 c2 <<< 8 ||| b32 c3).toNat : Int) := by
  exact or4 _ _ _ _ _ _ _ _ (b32_shl c0 24 (by omega)).symm (b32_shl c1 16 (by omega)).symm (b32_shl c2 8 (by omega)).symm (b32_toNat c3).symm

set_option maxHeartbeats 400000 in
theorem rotl2 (x : (BitVec 32)) (w : World) : Calls Tryd.prog 98 #[.int .u32 x.toNat, .int .i64 (-2)] w fun e w' => e = .returned (.int .u32 (ror x 2).toNat) ∧ w' = w := by
  have hx := w_lt x
  have hs : bits .and .u64 (IntKind.u64.wrap (-2)) 31 = 30 := by decide
  go_enter Tryd.func98, Tryd.ntmps98
  go_wp2
  go_ret
  exact ⟨ret_int (ror_l x 2), rfl⟩
set_option maxHeartbeats 400000 in
theorem pror2 (x : (BitVec 32)) (w : World) : Calls Tryd.prog 83 #[.int .u32 x.toNat, .int .i64 2] w fun e w' => e = .returned (.int .u32 (ror x 2).toNat) ∧ w' = w := by
  have hc := Lib.hid (rotl2 x w)
  go_enter Tryd.func83, Tryd.ntmps83
  go_wp2_with fail
  refine hc.out.mono ?_
  rintro e w' ⟨rfl, rfl⟩
  go_wp2
  go_ret
  exact ⟨rfl, rfl⟩
set_option maxHeartbeats 400000 in
theorem rror2 (x : (BitVec 32)) (w : World) : Calls Tryd.prog 104 #[.int .u32 x.toNat, .int .i64 2] w fun e w' => e = .returned (.int .u32 (ror x 2).toNat) ∧ ∃ q, w' = w.drewN q := by
  have hx := w_lt x
  go_enter Tryd.func104, Tryd.ntmps104
  go_wp2
  go_quiet (fail)
  go_wp2
  go_ret
  exact ⟨ret_int (ror_r x 2), _, rfl⟩
set_option maxHeartbeats 400000 in
theorem rotl6 (x : (BitVec 32)) (w : World) : Calls Tryd.prog 98 #[.int .u32 x.toNat, .int .i64 (-6)] w fun e w' => e = .returned (.int .u32 (ror x 6).toNat) ∧ w' = w := by
  have hx := w_lt x
  have hs : bits .and .u64 (IntKind.u64.wrap (-6)) 31 = 26 := by decide
  go_enter Tryd.func98, Tryd.ntmps98
  go_wp2
  go_ret
  exact ⟨ret_int (ror_l x 6), rfl⟩
set_option maxHeartbeats 400000 in
theorem pror6 (x : (BitVec 32)) (w : World) : Calls Tryd.prog 83 #[.int .u32 x.toNat, .int .i64 6] w fun e w' => e = .returned (.int .u32 (ror x 6).toNat) ∧ w' = w := by
  have hc := Lib.hid (rotl6 x w)
  go_enter Tryd.func83, Tryd.ntmps83
  go_wp2_with fail
  refine hc.out.mono ?_
  rintro e w' ⟨rfl, rfl⟩
  go_wp2
  go_ret
  exact ⟨rfl, rfl⟩
set_option maxHeartbeats 400000 in
theorem rror6 (x : (BitVec 32)) (w : World) : Calls Tryd.prog 104 #[.int .u32 x.toNat, .int .i64 6] w fun e w' => e = .returned (.int .u32 (ror x 6).toNat) ∧ ∃ q, w' = w.drewN q := by
  have hx := w_lt x
  go_enter Tryd.func104, Tryd.ntmps104
  go_wp2
  go_quiet (fail)
  go_wp2
  go_ret
  exact ⟨ret_int (ror_r x 6), _, rfl⟩
set_option maxHeartbeats 400000 in
theorem rotl7 (x : (BitVec 32)) (w : World) : Calls Tryd.prog 98 #[.int .u32 x.toNat, .int .i64 (-7)] w fun e w' => e = .returned (.int .u32 (ror x 7).toNat) ∧ w' = w := by
  have hx := w_lt x
  have hs : bits .and .u64 (IntKind.u64.wrap (-7)) 31 = 25 := by decide
  go_enter Tryd.func98, Tryd.ntmps98
  go_wp2
  go_ret
  exact ⟨ret_int (ror_l x 7), rfl⟩
set_option maxHeartbeats 400000 in
theorem pror7 (x : (BitVec 32)) (w : World) : Calls Tryd.prog 83 #[.int .u32 x.toNat, .int .i64 7] w fun e w' => e = .returned (.int .u32 (ror x 7).toNat) ∧ w' = w := by
  have hc := Lib.hid (rotl7 x w)
  go_enter Tryd.func83, Tryd.ntmps83
  go_wp2_with fail
  refine hc.out.mono ?_
  rintro e w' ⟨rfl, rfl⟩
  go_wp2
  go_ret
  exact ⟨rfl, rfl⟩
set_option maxHeartbeats 400000 in
theorem rror7 (x : (BitVec 32)) (w : World) : Calls Tryd.prog 104 #[.int .u32 x.toNat, .int .i64 7] w fun e w' => e = .returned (.int .u32 (ror x 7).toNat) ∧ ∃ q, w' = w.drewN q := by
  have hx := w_lt x
  go_enter Tryd.func104, Tryd.ntmps104
  go_wp2
  go_quiet (fail)
  go_wp2
  go_ret
  exact ⟨ret_int (ror_r x 7), _, rfl⟩
set_option maxHeartbeats 400000 in
theorem rotl11 (x : (BitVec 32)) (w : World) : Calls Tryd.prog 98 #[.int .u32 x.toNat, .int .i64 (-11)] w fun e w' => e = .returned (.int .u32 (ror x 11).toNat) ∧ w' = w := by
  have hx := w_lt x
  have hs : bits .and .u64 (IntKind.u64.wrap (-11)) 31 = 21 := by decide
  go_enter Tryd.func98, Tryd.ntmps98
  go_wp2
  go_ret
  exact ⟨ret_int (ror_l x 11), rfl⟩
set_option maxHeartbeats 400000 in
theorem pror11 (x : (BitVec 32)) (w : World) : Calls Tryd.prog 83 #[.int .u32 x.toNat, .int .i64 11] w fun e w' => e = .returned (.int .u32 (ror x 11).toNat) ∧ w' = w := by
  have hc := Lib.hid (rotl11 x w)
  go_enter Tryd.func83, Tryd.ntmps83
  go_wp2_with fail
  refine hc.out.mono ?_
  rintro e w' ⟨rfl, rfl⟩
  go_wp2
  go_ret
  exact ⟨rfl, rfl⟩
set_option maxHeartbeats 400000 in
theorem rror11 (x : (BitVec 32)) (w : World) : Calls Tryd.prog 104 #[.int .u32 x.toNat, .int .i64 11] w fun e w' => e = .returned (.int .u32 (ror x 11).toNat) ∧ ∃ q, w' = w.drewN q := by
  have hx := w_lt x
  go_enter Tryd.func104, Tryd.ntmps104
  go_wp2
  go_quiet (fail)
  go_wp2
  go_ret
  exact ⟨ret_int (ror_r x 11), _, rfl⟩
set_option maxHeartbeats 400000 in
theorem rotl13 (x : (BitVec 32)) (w : World) : Calls Tryd.prog 98 #[.int .u32 x.toNat, .int .i64 (-13)] w fun e w' => e = .returned (.int .u32 (ror x 13).toNat) ∧ w' = w := by
  have hx := w_lt x
  have hs : bits .and .u64 (IntKind.u64.wrap (-13)) 31 = 19 := by decide
  go_enter Tryd.func98, Tryd.ntmps98
  go_wp2
  go_ret
  exact ⟨ret_int (ror_l x 13), rfl⟩
set_option maxHeartbeats 400000 in
theorem pror13 (x : (BitVec 32)) (w : World) : Calls Tryd.prog 83 #[.int .u32 x.toNat, .int .i64 13] w fun e w' => e = .returned (.int .u32 (ror x 13).toNat) ∧ w' = w := by
  have hc := Lib.hid (rotl13 x w)
  go_enter Tryd.func83, Tryd.ntmps83
  go_wp2_with fail
  refine hc.out.mono ?_
  rintro e w' ⟨rfl, rfl⟩
  go_wp2
  go_ret
  exact ⟨rfl, rfl⟩
set_option maxHeartbeats 400000 in
theorem rror13 (x : (BitVec 32)) (w : World) : Calls Tryd.prog 104 #[.int .u32 x.toNat, .int .i64 13] w fun e w' => e = .returned (.int .u32 (ror x 13).toNat) ∧ ∃ q, w' = w.drewN q := by
  have hx := w_lt x
  go_enter Tryd.func104, Tryd.ntmps104
  go_wp2
  go_quiet (fail)
  go_wp2
  go_ret
  exact ⟨ret_int (ror_r x 13), _, rfl⟩
set_option maxHeartbeats 400000 in
theorem rotl17 (x : (BitVec 32)) (w : World) : Calls Tryd.prog 98 #[.int .u32 x.toNat, .int .i64 (-17)] w fun e w' => e = .returned (.int .u32 (ror x 17).toNat) ∧ w' = w := by
  have hx := w_lt x
  have hs : bits .and .u64 (IntKind.u64.wrap (-17)) 31 = 15 := by decide
  go_enter Tryd.func98, Tryd.ntmps98
  go_wp2
  go_ret
  exact ⟨ret_int (ror_l x 17), rfl⟩
set_option maxHeartbeats 400000 in
theorem pror17 (x : (BitVec 32)) (w : World) : Calls Tryd.prog 83 #[.int .u32 x.toNat, .int .i64 17] w fun e w' => e = .returned (.int .u32 (ror x 17).toNat) ∧ w' = w := by
  have hc := Lib.hid (rotl17 x w)
  go_enter Tryd.func83, Tryd.ntmps83
  go_wp2_with fail
  refine hc.out.mono ?_
  rintro e w' ⟨rfl, rfl⟩
  go_wp2
  go_ret
  exact ⟨rfl, rfl⟩
set_option maxHeartbeats 400000 in
theorem rror17 (x : (BitVec 32)) (w : World) : Calls Tryd.prog 104 #[.int .u32 x.toNat, .int .i64 17] w fun e w' => e = .returned (.int .u32 (ror x 17).toNat) ∧ ∃ q, w' = w.drewN q := by
  have hx := w_lt x
  go_enter Tryd.func104, Tryd.ntmps104
  go_wp2
  go_quiet (fail)
  go_wp2
  go_ret
  exact ⟨ret_int (ror_r x 17), _, rfl⟩
set_option maxHeartbeats 400000 in
theorem rotl18 (x : (BitVec 32)) (w : World) : Calls Tryd.prog 98 #[.int .u32 x.toNat, .int .i64 (-18)] w fun e w' => e = .returned (.int .u32 (ror x 18).toNat) ∧ w' = w := by
  have hx := w_lt x
  have hs : bits .and .u64 (IntKind.u64.wrap (-18)) 31 = 14 := by decide
  go_enter Tryd.func98, Tryd.ntmps98
  go_wp2
  go_ret
  exact ⟨ret_int (ror_l x 18), rfl⟩
set_option maxHeartbeats 400000 in
theorem pror18 (x : (BitVec 32)) (w : World) : Calls Tryd.prog 83 #[.int .u32 x.toNat, .int .i64 18] w fun e w' => e = .returned (.int .u32 (ror x 18).toNat) ∧ w' = w := by
  have hc := Lib.hid (rotl18 x w)
  go_enter Tryd.func83, Tryd.ntmps83
  go_wp2_with fail
  refine hc.out.mono ?_
  rintro e w' ⟨rfl, rfl⟩
  go_wp2
  go_ret
  exact ⟨rfl, rfl⟩
set_option maxHeartbeats 400000 in
theorem rror18 (x : (BitVec 32)) (w : World) : Calls Tryd.prog 104 #[.int .u32 x.toNat, .int .i64 18] w fun e w' => e = .returned (.int .u32 (ror x 18).toNat) ∧ ∃ q, w' = w.drewN q := by
  have hx := w_lt x
  go_enter Tryd.func104, Tryd.ntmps104
  go_wp2
  go_quiet (fail)
  go_wp2
  go_ret
  exact ⟨ret_int (ror_r x 18), _, rfl⟩
set_option maxHeartbeats 400000 in
theorem rotl19 (x : (BitVec 32)) (w : World) : Calls Tryd.prog 98 #[.int .u32 x.toNat, .int .i64 (-19)] w fun e w' => e = .returned (.int .u32 (ror x 19).toNat) ∧ w' = w := by
  have hx := w_lt x
  have hs : bits .and .u64 (IntKind.u64.wrap (-19)) 31 = 13 := by decide
  go_enter Tryd.func98, Tryd.ntmps98
  go_wp2
  go_ret
  exact ⟨ret_int (ror_l x 19), rfl⟩
set_option maxHeartbeats 400000 in
theorem pror19 (x : (BitVec 32)) (w : World) : Calls Tryd.prog 83 #[.int .u32 x.toNat, .int .i64 19] w fun e w' => e = .returned (.int .u32 (ror x 19).toNat) ∧ w' = w := by
  have hc := Lib.hid (rotl19 x w)
  go_enter Tryd.func83, Tryd.ntmps83
  go_wp2_with fail
  refine hc.out.mono ?_
  rintro e w' ⟨rfl, rfl⟩
  go_wp2
  go_ret
  exact ⟨rfl, rfl⟩
set_option maxHeartbeats 400000 in
theorem rror19 (x : (BitVec 32)) (w : World) : Calls Tryd.prog 104 #[.int .u32 x.toNat, .int .i64 19] w fun e w' => e = .returned (.int .u32 (ror x 19).toNat) ∧ ∃ q, w' = w.drewN q := by
  have hx := w_lt x
  go_enter Tryd.func104, Tryd.ntmps104
  go_wp2
  go_quiet (fail)
  go_wp2
  go_ret
  exact ⟨ret_int (ror_r x 19), _, rfl⟩
set_option maxHeartbeats 400000 in
theorem rotl22 (x : (BitVec 32)) (w : World) : Calls Tryd.prog 98 #[.int .u32 x.toNat, .int .i64 (-22)] w fun e w' => e = .returned (.int .u32 (ror x 22).toNat) ∧ w' = w := by
  have hx := w_lt x
  have hs : bits .and .u64 (IntKind.u64.wrap (-22)) 31 = 10 := by decide
  go_enter Tryd.func98, Tryd.ntmps98
  go_wp2
  go_ret
  exact ⟨ret_int (ror_l x 22), rfl⟩
set_option maxHeartbeats 400000 in
theorem pror22 (x : (BitVec 32)) (w : World) : Calls Tryd.prog 83 #[.int .u32 x.toNat, .int .i64 22] w fun e w' => e = .returned (.int .u32 (ror x 22).toNat) ∧ w' = w := by
  have hc := Lib.hid (rotl22 x w)
  go_enter Tryd.func83, Tryd.ntmps83
  go_wp2_with fail
  refine hc.out.mono ?_
  rintro e w' ⟨rfl, rfl⟩
  go_wp2
  go_ret
  exact ⟨rfl, rfl⟩
set_option maxHeartbeats 400000 in
theorem rror22 (x : (BitVec 32)) (w : World) : Calls Tryd.prog 104 #[.int .u32 x.toNat, .int .i64 22] w fun e w' => e = .returned (.int .u32 (ror x 22).toNat) ∧ ∃ q, w' = w.drewN q := by
  have hx := w_lt x
  go_enter Tryd.func104, Tryd.ntmps104
  go_wp2
  go_quiet (fail)
  go_wp2
  go_ret
  exact ⟨ret_int (ror_r x 22), _, rfl⟩
set_option maxHeartbeats 400000 in
theorem rotl25 (x : (BitVec 32)) (w : World) : Calls Tryd.prog 98 #[.int .u32 x.toNat, .int .i64 (-25)] w fun e w' => e = .returned (.int .u32 (ror x 25).toNat) ∧ w' = w := by
  have hx := w_lt x
  have hs : bits .and .u64 (IntKind.u64.wrap (-25)) 31 = 7 := by decide
  go_enter Tryd.func98, Tryd.ntmps98
  go_wp2
  go_ret
  exact ⟨ret_int (ror_l x 25), rfl⟩
set_option maxHeartbeats 400000 in
theorem pror25 (x : (BitVec 32)) (w : World) : Calls Tryd.prog 83 #[.int .u32 x.toNat, .int .i64 25] w fun e w' => e = .returned (.int .u32 (ror x 25).toNat) ∧ w' = w := by
  have hc := Lib.hid (rotl25 x w)
  go_enter Tryd.func83, Tryd.ntmps83
  go_wp2_with fail
  refine hc.out.mono ?_
  rintro e w' ⟨rfl, rfl⟩
  go_wp2
  go_ret
  exact ⟨rfl, rfl⟩
set_option maxHeartbeats 400000 in
theorem rror25 (x : (BitVec 32)) (w : World) : Calls Tryd.prog 104 #[.int .u32 x.toNat, .int .i64 25] w fun e w' => e = .returned (.int .u32 (ror x 25).toNat) ∧ ∃ q, w' = w.drewN q := by
  have hx := w_lt x
  go_enter Tryd.func104, Tryd.ntmps104
  go_wp2
  go_quiet (fail)
  go_wp2
  go_ret
  exact ⟨ret_int (ror_r x 25), _, rfl⟩

set_option maxHeartbeats 1000000 in
theorem word50 (db o len cap : Nat) (c0 c1 c2 c3 : UInt8) (w : World) (hl : 4 ≤ len) (h0 : w.cell? ⟨db, o, none⟩ = some (.int .u8 c0.toNat)) (h1 : w.cell? ⟨db, o + 1, none⟩ = some (.int .u8 c1.toNat))
    (h2 : w.cell? ⟨db, o + 2, none⟩ = some (.int .u8 c2.toNat)) (h3 : w.cell? ⟨db, o + 3, none⟩ = some (.int .u8 c3.toNat)) :
    Calls Tryd.prog 103 #[.slice (some ⟨db, o, none⟩) len cap] w fun e w' => e = .returned (.int .u32 (b32 c0 <<< 24 ||| b32 c1 <<< 16 ||| b32 c2 <<< 8 ||| b32 c3).toNat) ∧ ∃ q, w' = w.drewN q := by
  have i0 : decide ((0 : Int) < (len : Int)) = true := by simp; omega
  have i1 : decide ((1 : Int) < (len : Int)) = true := by simp; omega
  have i2 : decide ((2 : Int) < (len : Int)) = true := by simp; omega
  have i3 : decide ((3 : Int) < (len : Int)) = true := by simp; omega
  have j0 : (0 : Int) < (len : Int) := by omega
  have j1 : (1 : Int) < (len : Int) := by omega
  have j2 : (2 : Int) < (len : Int) := by omega
  have j3 : (3 : Int) < (len : Int) := by omega
  have t0 := c0.toNat_lt
  have t1 := c1.toNat_lt
  have t2 := c2.toNat_lt
  have t3 := c3.toNat_lt
  go_enter Tryd.func103, Tryd.ntmps103
  go_wp2
  go_quiet (fail)
  go_wp2
  go_ret
  exact ⟨ret_int (word_form c0 c1 c2 c3), _, rfl⟩

set_option maxHeartbeats 1000000 in
theorem word55 (db o len cap : Nat) (c0 c1 c2 c3 : UInt8) (w : World) (hl : 4 ≤ len) (h0 : w.cell? ⟨db, o, none⟩ = some (.int .u8 c0.toNat)) (h1 : w.cell? ⟨db, o + 1, none⟩ = some (.int .u8 c1.toNat))
    (h2 : w.cell? ⟨db, o + 2, none⟩ = some (.int .u8 c2.toNat)) (h3 : w.cell? ⟨db, o + 3, none⟩ = some (.int .u8 c3.toNat)) :
    Calls Tryd.prog 97 #[.slice (some ⟨db, o, none⟩) len cap] w fun e w' => e = .returned (.int .u32 (b32 c0 <<< 24 ||| b32 c1 <<< 16 ||| b32 c2 <<< 8 ||| b32 c3).toNat) ∧ ∃ q, w' = w.drewN q := by
  have i0 : decide ((0 : Int) < (len : Int)) = true := by simp; omega
  have i1 : decide ((1 : Int) < (len : Int)) = true := by simp; omega
  have i2 : decide ((2 : Int) < (len : Int)) = true := by simp; omega
  have i3 : decide ((3 : Int) < (len : Int)) = true := by simp; omega
  have j0 : (0 : Int) < (len : Int) := by omega
  have j1 : (1 : Int) < (len : Int) := by omega
  have j2 : (2 : Int) < (len : Int) := by omega
  have j3 : (3 : Int) < (len : Int) := by omega
  have t0 := c0.toNat_lt
  have t1 := c1.toNat_lt
  have t2 := c2.toNat_lt
  have t3 := c3.toNat_lt
  go_enter Tryd.func97, Tryd.ntmps97
  go_wp2
  go_quiet (fail)
  go_wp2
  go_ret
  exact ⟨ret_int (word_form c0 c1 c2 c3), _, rfl⟩
end Go.Proofs.YtfmngeemhfpeiaaDoor

namespace Go.Proofs.YtfmngeemhfpeiaaDoor
open Go.RowKit

def ws (l : List (BitVec 32)) : List Value := l.map fun x => .int .u32 x.toNat
def cells8 (l : List UInt8) : List Value := l.map fun c => .int .u8 c.toNat
theorem ws_len (l : List (BitVec 32)) : (ws l).length = l.length := by simp [ws]
theorem cells8_len (l : List UInt8) : (cells8 l).length = l.length := by simp [cells8]

/-- Nothing that lay in w1 has turned in W. -/
def Kept (w1 W : World) : Prop := Below w1.heap.size w1 W
theorem Kept.below {w1 W : World} (h : Kept w1 W) : Below w1.heap.size w1 W := h
theorem Kept.next {w1 W W' : World} (h : Kept w1 W) (k : Below W.heap.size W W') : Kept w1 W' := Below.trans h (k.mono h.size)
theorem Kept.refl (w1 : World) : Kept w1 w1 := Below.refl _ _
theorem Kept.drew {w1 W : World} (h : Kept w1 W) : Kept w1 W.drew := Below.drew h
theorem Kept.alloc {w1 W : World} (h : Kept w1 W) (o : Obj) : Kept w1 (W.alloc o) := Below.alloc h h.size o
theorem Kept.set {w1 W : World} (h : Kept w1 W) {p : Addr} (hp : w1.heap.size ≤ p.block) (u : Value) : Kept w1 (W.setCell p u) := Below.setCell h hp u
theorem below_drewN {B : Nat} {a w : World} (h : Below B a w) (q : Nat) : Below B a (w.drewN q) := ⟨h.os, h.tape, h.output, h.size, h.block⟩
theorem Kept.drewN {w1 W : World} (h : Kept w1 W) (q : Nat) : Kept w1 (W.drewN q) := below_drewN h q
theorem below_setCells {B b : Nat} {a : World} (hb : B ≤ b) : ∀ (vs : List Value) (o : Nat) (w : World), Below B a w → Below B a (w.setCells b o vs)
  | [], _, _, h => h
  | v :: r, o, w, h => by
    rw [World.setCells]
    exact below_setCells hb r (o + 1) _ (h.setCell (p := ⟨b, o, none⟩) hb v)

/-- Block b of W holds the cells cs, and they may be written. -/
structure Arr (W : World) (b : Nat) (cs : List Value) : Prop where
  at_ : W.rangeAt b 0 cs
  there : W.there b 0 cs.length
theorem Arr.cell {W : World} {b : Nat} {cs : List Value} (h : Arr W b cs) {i : Nat} {v : Value} (hv : cs[i]? = some v) : W.cell? ⟨b, i, none⟩ = some v := by simpa using h.at_ i v hv
theorem Arr.frozen {W : World} {b : Nat} {cs : List Value} (h : Arr W b cs) {i : Nat} (hi : i < cs.length) : W.frozen? ⟨b, i, none⟩ = false := by simpa using (h.there i hi).2
theorem Arr.below {W W' : World} {B b : Nat} {cs : List Value} (h : Arr W b cs) (hb : Below B W W') (hlt : b < B) : Arr W' b cs :=
  ⟨fun j v hv => (hb.cell (p := ⟨b, 0 + j, none⟩) hlt).trans (h.at_ j v hv), fun j hj => ⟨by rw [hb.cell (p := ⟨b, 0 + j, none⟩) hlt]; exact (h.there j hj).1, by rw [hb.frozen (p := ⟨b, 0 + j, none⟩) hlt]; exact (h.there j hj).2⟩⟩
theorem Arr.drewN {W : World} {b : Nat} {cs : List Value} (h : Arr W b cs) (q : Nat) : Arr (W.drewN q) b cs := ⟨h.at_, h.there⟩
theorem Arr.drew {W : World} {b : Nat} {cs : List Value} (h : Arr W b cs) : Arr W.drew b cs := ⟨h.at_, h.there⟩
theorem Arr.new (W : World) (C : Array Value) (t : TypeId) : Arr (W.alloc (.cells C t)) W.heap.size C.toList := by
  have hc : ∀ i v, C.toList[i]? = some v → (W.alloc (.cells C t)).cell? ⟨W.heap.size, i, none⟩ = some v := fun i v hv => by
    rw [World.cell?_alloc_new]; simpa using hv
  refine ⟨fun j v hv => by simpa using hc j v hv, fun j hj => ⟨?_, ?_⟩⟩
  · rw [Nat.zero_add, hc j _ (List.getElem?_eq_getElem hj)]; rfl
  · rw [Nat.zero_add, World.frozen?_alloc_new]
theorem Arr.alloc {W : World} {b : Nat} {cs : List Value} (h : Arr W b cs) (hlt : b < W.heap.size) (o : Obj) : Arr (W.alloc o) b cs := h.below ((Below.refl W.heap.size W).alloc (Nat.le_refl _) o) hlt
theorem Arr.set {W : World} {b : Nat} {cs : List Value} (h : Arr W b cs) (i : Nat) (v : Value) : Arr (W.setCell ⟨b, i, none⟩ v) b (cs.set i v) := by
  refine ⟨fun j u hu => ?_, fun j hj => ?_⟩
  · rw [Nat.zero_add]
    by_cases e : j = i
    · subst e
      rw [List.getElem?_set] at hu
      simp at hu
      obtain ⟨hj, rfl⟩ := hu
      exact World.cell?_setCell_same _ _ _ (h.cell (List.getElem?_eq_getElem hj))
    · rw [World.cell?_setCell_other _ _ _ _ (fun h => by injection h; first | exact e (by assumption) | exact e (by symm; assumption))]
      rw [List.getElem?_set_ne (fun h => e h.symm)] at hu
      exact h.cell hu
  · rw [List.length_set] at hj
    refine ⟨?_, by rw [World.frozen?_setCell]; exact (h.there j hj).2⟩
    obtain ⟨u, hu⟩ := Option.isSome_iff_exists.1 (h.there j hj).1
    obtain ⟨u', hu'⟩ := cell?_setCell_some (p := ⟨b, i, none⟩) (x := v) hu
    rw [hu']; rfl
theorem Arr.other {W : World} {b b' : Nat} {cs : List Value} (h : Arr W b cs) (hne : b ≠ b') (i : Nat) (v : Value) : Arr (W.setCell ⟨b', i, none⟩ v) b cs := by
  refine ⟨fun j u hu => ?_, fun j hj => ⟨?_, by rw [World.frozen?_setCell]; exact (h.there j hj).2⟩⟩
  · rw [World.cell?_setCell_other _ _ _ _ (fun h => by injection h; first | exact hne (by assumption) | exact hne (by symm; assumption))]; exact h.at_ j u hu
  · rw [World.cell?_setCell_other _ _ _ _ (fun h => by injection h; first | exact hne (by assumption) | exact hne (by symm; assumption))]; exact (h.there j hj).1
theorem Arr.lt {W : World} {b : Nat} {cs : List Value} (h : Arr W b cs) (hl : 0 < cs.length) : b < W.heap.size := by
  obtain ⟨u, hu⟩ := Option.isSome_iff_exists.1 (h.there 0 hl).1
  exact World.block_lt_of_cell? W _ hu
theorem Arr.stored {W : World} {b : Nat} {cs cs' : List Value} (h : Arr W b cs) (hl : cs'.length = cs.length) : Arr (W.setCells b 0 cs') b cs' :=
  ⟨World.rangeAt_setCells_same W b 0 cs' (by rw [hl]; exact h.there), World.there_setCells (by rw [hl]; exact h.there) b 0 cs'⟩
theorem one_ws (l : List (BitVec 32)) : ∀ v ∈ ws l, v.oneCell' = true := by intro v hv; obtain ⟨x, _, rfl⟩ := List.mem_map.1 hv; rfl
theorem one_cells8 (l : List UInt8) : ∀ v ∈ cells8 l, v.oneCell' = true := by intro v hv; obtain ⟨x, _, rfl⟩ := List.mem_map.1 hv; rfl

theorem Tryd.info103 : (Tryd.prog.info? 103).map (·.size) = some 64 := by kernel_rfl
theorem Tryd.info30 : (Tryd.prog.info? 30).map (·.size) = some 32 := by kernel_rfl
end Go.Proofs.YtfmngeemhfpeiaaDoor

namespace Go.Proofs.YtfmngeemhfpeiaaDoor
open Go.RowKit

theorem pror (x : (BitVec 32)) (n : Int) (h : n = 2 ∨ n = 6 ∨ n = 7 ∨ n = 11 ∨ n = 13 ∨ n = 17 ∨ n = 18 ∨ n = 19 ∨ n = 22 ∨ n = 25) (w : World) : Calls Tryd.prog 83 #[.int .u32 x.toNat, .int .i64 n] w fun e w' => e = .returned (.int .u32 (ror x n.toNat).toNat) ∧ w' = w := by
  rcases h with rfl | rfl | rfl | rfl | rfl | rfl | rfl | rfl | rfl | rfl
  · exact pror2 x w
  · exact pror6 x w
  · exact pror7 x w
  · exact pror11 x w
  · exact pror13 x w
  · exact pror17 x w
  · exact pror18 x w
  · exact pror19 x w
  · exact pror22 x w
  · exact pror25 x w
theorem rror (x : (BitVec 32)) (n : Int) (h : n = 2 ∨ n = 6 ∨ n = 7 ∨ n = 11 ∨ n = 13 ∨ n = 17 ∨ n = 18 ∨ n = 19 ∨ n = 22 ∨ n = 25) (w : World) : Calls Tryd.prog 104 #[.int .u32 x.toNat, .int .i64 n] w fun e w' => e = .returned (.int .u32 (ror x n.toNat).toNat) ∧ ∃ q, w' = w.drewN q := by
  rcases h with rfl | rfl | rfl | rfl | rfl | rfl | rfl | rfl | rfl | rfl
  · exact rror2 x w
  · exact rror6 x w
  · exact rror7 x w
  · exact rror11 x w
  · exact rror13 x w
  · exact rror17 x w
  · exact rror18 x w
  · exact rror19 x w
  · exact rror22 x w
  · exact rror25 x w

theorem w_shr3' (x : (BitVec 32)) : (x.toNat : Int) / (8 : Int) = ((x >>> 3).toNat : Int) := w_shr x 3
theorem w_shr10' (x : (BitVec 32)) : (x.toNat : Int) / (1024 : Int) = ((x >>> 10).toNat : Int) := w_shr x 10
/-- Nothing of wr has turned but what lies at one place. -/
def KB (wr : World) (b t : Nat) (W : World) : Prop := ∃ W', Kept wr W' ∧ (W = W' ∨ ∃ v, W = W'.setCell ⟨b, t, none⟩ v)
theorem KB.kept {wr W : World} {b t : Nat} (h : Kept wr W) : KB wr b t W := ⟨W, h, .inl rfl⟩
theorem KB.set {wr W : World} {b t : Nat} (h : Kept wr W) (v : Value) : KB wr b t (W.setCell ⟨b, t, none⟩ v) := ⟨W, h, .inr ⟨v, rfl⟩⟩
theorem KB.cell {wr W : World} {b t : Nat} (h : KB wr b t W) {i : Nat} {u : Value} (hb : b < wr.heap.size) (hi : i ≠ t) (hu : wr.cell? ⟨b, i, none⟩ = some u) : W.cell? ⟨b, i, none⟩ = some u := by
  obtain ⟨W', hk, rfl | ⟨v, rfl⟩⟩ := h
  · exact (hk.below.cell (p := ⟨b, i, none⟩) hb).trans hu
  · rw [World.cell?_setCell_other _ _ _ _ (fun h => by injection h; first | exact hi (by assumption) | exact hi (by symm; assumption))]
    exact (hk.below.cell (p := ⟨b, i, none⟩) hb).trans hu

/-- A result that is an array in a block. -/
theorem results_cell_mid {P : Program} {fn : Func} {p : Tmp} {ty : TypeId} (h : fn.results = #[.cell p ty]) (tmps : Array Value) (w : World) (b : Nat) (cs : List Value) (d : TypeDesc)
    (hp : tmps.getD p undef = .pointer (some ⟨b, 0, none⟩)) (hc : w.rangeAt b 0 cs)
    (hu : P.underlying ty = some d) (hd : d.isRow = true) (hi : (P.info? ty).map (·.size) = some cs.length) :
    (results fn tmps).run P w = .ok (.agg cs.toArray) w := by
  have hp' : tmps[p]?.getD undef = .pointer (some ⟨b, 0, none⟩) := by simpa using hp
  simp [results, h, hp', asAddr, run_loadVar_mid w b 0 ty cs d hc hu hd hi]

/-- The bytes l lie in block db from off on. -/
def BytesIn (W : World) (db off : Nat) (l : List UInt8) : Prop := ∀ i (h : i < l.length), W.cell? ⟨db, off + i, none⟩ = some (.int .u8 l[i].toNat)
theorem BytesIn.below {W W' : World} {B db off : Nat} {l : List UInt8} (h : BytesIn W db off l) (hb : Below B W W') (hlt : db < B) : BytesIn W' db off l :=
  fun i hi => (hb.cell (p := ⟨db, off + i, none⟩) hlt).trans (h i hi)
theorem BytesIn.getD {W : World} {db off : Nat} {l : List UInt8} (h : BytesIn W db off l) {i : Nat} (hi : i < l.length) : W.cell? ⟨db, off + i, none⟩ = some (.int .u8 (l.getD i 0).toNat) := by
  rw [h i hi]; simp [List.getD, List.getElem?_eq_getElem hi]

theorem sch_len (blk : List UInt8) : ∀ t, (sch blk t).length = t
  | 0 => rfl
  | t + 1 => by rw [sch, List.length_append, sch_len blk t]; rfl
/-- What the array holds when t numbers are laid. -/
def part (blk : List UInt8) (t : Nat) : List (BitVec 32) := sch blk t ++ List.replicate (64 - t) 0
theorem part_len (blk : List UInt8) {t : Nat} (h : t ≤ 64) : (part blk t).length = 64 := by simp [part, sch_len]; omega
theorem part_next (blk : List UInt8) {t : Nat} (h : t < 64) : (ws (part blk t)).set t (.int .u32 (if t < 16 then word blk (4 * t) else ext (sch blk t) t).toNat) = ws (part blk (t + 1)) := by
  have e : ws (part blk (t + 1)) = ws (sch blk t) ++ .int .u32 (if t < 16 then word blk (4 * t) else ext (sch blk t) t).toNat :: ws (List.replicate (64 - (t + 1)) 0) := by
    simp [ws, part, sch]
  have e2 : ws (part blk t) = ws (sch blk t) ++ .int .u32 (0#32).toNat :: ws (List.replicate (64 - (t + 1)) 0) := by
    have : 64 - t = (64 - (t + 1)) + 1 := by omega
    simp [ws, part, this, List.replicate_succ]
  rw [e, e2, List.set_append_right _ _ (by simp [ws, sch_len])]
  simp [ws, sch_len]
theorem part_get (blk : List UInt8) {t i : Nat} (h : i < t) : (ws (part blk t))[i]? = some (.int .u32 ((sch blk t).getD i 0).toNat) := by
  have hl := sch_len blk t
  simp [ws, part, List.getElem?_append, hl, h, List.getD]
theorem part_is (blk : List UInt8) : part blk 64 = sch blk 64 := by simp [part]

set_option maxRecDepth 100000 in
set_option maxHeartbeats 4000000 in
theorem sched_any (w : World) (db off : Nat) (blk : List UInt8) (hl : blk.length = 64) (hb : BytesIn w db off blk) (hdb : db < w.heap.size) :
    Calls Tryd.prog 82 #[.slice (some ⟨db, off, none⟩) 64 64] w fun e w' => e = .returned (.agg (ws (sch blk 64)).toArray) ∧ Below w.heap.size w w' := by
  have HB := Lib.hid hb
  have HL := Lib.hid hl
  clear hb hl
  go_enter Tryd.func82, Tryd.ntmps82
  go_wp2
  go_loopw [7] (fun i wr => ∃ t : Nat, i = .int .i64 t ∧ t ≤ 16 ∧ Below w.heap.size w wr ∧ Arr wr w.heap.size (ws (part blk t)))
    (fun i _ => 16 - (intOf i).toNat)
  case atStart => exact ⟨0, rfl, by omega, by go_grown, Arr.new w _ 103⟩
  case round =>
    obtain ⟨t, rfl, ht, hB, hA⟩ := hrel
    by_cases hlt : t < 16
    · have hd : decide ((t : Int) < 16) = true := by simp; omega
      have hbd := BytesIn.below HB.out hB hdb
      have hwd := word55 db (off + 4 * t) (64 - 4 * t) (64 - 4 * t) (blk.getD (4 * t) 0) (blk.getD (4 * t + 1) 0) (blk.getD (4 * t + 2) 0) (blk.getD (4 * t + 3) 0) wr (by omega) (hbd.getD (by rw [HL.out]; omega)) (by rw [Nat.add_assoc]; exact hbd.getD (by rw [HL.out]; omega)) (by rw [Nat.add_assoc]; exact hbd.getD (by rw [HL.out]; omega)) (by rw [Nat.add_assoc]; exact hbd.getD (by rw [HL.out]; omega))
      have hsz : w.heap.size < wr.heap.size := hA.lt (by rw [ws_len, part_len blk (by omega)]; omega)
      have hlen : t < (ws (part blk t)).length := by rw [ws_len, part_len blk (by omega)]; omega
      have hc : ∀ q, (wr.drewN q).cell? ⟨w.heap.size, t, none⟩ = some ((ws (part blk t))[t]'hlen) := fun q => (hA.drewN q).cell (List.getElem?_eq_getElem hlen)
      have hf : ∀ q, (wr.drewN q).frozen? ⟨w.heap.size, t, none⟩ = false := fun q => (hA.drewN q).frozen hlen
      obtain ⟨u, hu⟩ : ∃ u, (ws (part blk t))[t]'hlen = u := ⟨_, rfl⟩
      rw [hu] at hc
      have HWD := Lib.hid hwd
      have HA := Lib.hid hA
      have HBB := Lib.hid hB
      clear hwd hA hB hbd hu hlen
      go_wp2_with fail
      refine HWD.out.mono ?_
      rintro e w' ⟨rfl, q, rfl⟩
      have hcq := hc q
      have hfq := hf q
      have HX := Lib.hid (show (if t < 16 then word blk (4 * t) else ext (sch blk t) t) = word blk (4 * t) from if_pos hlt)
      obtain ⟨x, hx⟩ : ∃ x, (b32 (blk.getD (4 * t) 0) <<< 24 ||| b32 (blk.getD (4 * t + 1) 0) <<< 16 ||| b32 (blk.getD (4 * t + 2) 0) <<< 8 ||| b32 (blk.getD (4 * t + 3) 0)) = x := ⟨_, rfl⟩
      rw [hx]
      have HXX := Lib.hid hx
      clear hx hc hf
      go_wp2
      go_roundw
      case rel =>
        refine ⟨t + 1, by simp, by omega, (below_drewN HBB.out q).setCell (p := ⟨w.heap.size, t, none⟩) (Nat.le_refl _) _, ?_⟩
        rw [← part_next blk (by omega), HX.out, show word blk (4 * t) = x from HXX.out]
        exact (HA.out.drewN q).set t _
      case measure => simp [intOf]; omega
    · obtain rfl : t = 16 := by omega
      go_wp2
      go_loopw [4] (fun i wr => ∃ t : Nat, i = .int .i64 t ∧ 16 ≤ t ∧ t ≤ 64 ∧ Below w.heap.size w wr ∧ Arr wr w.heap.size (ws (part blk t)))
        (fun i _ => 64 - (intOf i).toNat)
      case atStart => exact ⟨16, rfl, by omega, by omega, hB, hA⟩
      case round =>
        obtain ⟨t, rfl, ht0, ht, hB, hA⟩ := hrel
        by_cases hlt : t < 64
        · have hd : decide ((t : Int) < 64) = true := by simp; omega
          have hsz : w.heap.size < wr.heap.size := hA.lt (by rw [ws_len, part_len blk (by omega)]; omega)
          have hlen : t < (ws (part blk t)).length := by rw [ws_len, part_len blk (by omega)]; omega
          obtain ⟨u, hu⟩ : ∃ u, (ws (part blk t))[t]'hlen = u := ⟨_, rfl⟩
          have hc : ∀ W, Kept wr W → W.cell? ⟨w.heap.size, t, none⟩ = some u := fun W hW => (hW.below.cell (p := ⟨w.heap.size, t, none⟩) hsz).trans (hu ▸ hA.cell (List.getElem?_eq_getElem hlen))
          have hf : ∀ W, Kept wr W → W.frozen? ⟨w.heap.size, t, none⟩ = false := fun W hW => (hW.below.frozen (p := ⟨w.heap.size, t, none⟩) hsz).trans (hA.frozen hlen)
          have hg : ∀ k, 0 < k → k ≤ 16 → ∀ W, KB wr w.heap.size t W → W.cell? ⟨w.heap.size, t - k, none⟩ = some (.int .u32 ((sch blk t).getD (t - k) 0).toNat) := fun k hk0 hk W hW => hW.cell hsz (by omega) (hA.cell (part_get blk (by omega)))
          obtain ⟨x15, h15⟩ : ∃ x, (sch blk t).getD (t - 15) 0 = x := ⟨_, rfl⟩
          obtain ⟨x2, h2⟩ : ∃ x, (sch blk t).getD (t - 2) 0 = x := ⟨_, rfl⟩
          obtain ⟨x16, h16⟩ : ∃ x, (sch blk t).getD (t - 16) 0 = x := ⟨_, rfl⟩
          obtain ⟨x7, h7⟩ : ∃ x, (sch blk t).getD (t - 7) 0 = x := ⟨_, rfl⟩
          have g15 := hg 15 (by omega) (by omega)
          have g2 := hg 2 (by omega) (by omega)
          have g16 := hg 16 (by omega) (by omega)
          have g7 := hg 7 (by omega) (by omega)
          rw [h15] at g15
          rw [h2] at g2
          rw [h16] at g16
          rw [h7] at g7
          have c15 := g15 wr (KB.kept (Kept.refl _))
          have c2 := g2 wr (KB.kept (Kept.refl _))
          have HV : Hid ((if t < 16 then word blk (4 * t) else ext (sch blk t) t) = x16 + (ror x15 7 ^^^ ror x15 18 ^^^ x15 >>> 3) + x7 + (ror x2 17 ^^^ ror x2 19 ^^^ x2 >>> 10)) := by
            show _ = _
            rw [if_neg (by omega)]
            simp only [ext, h15, h2, h16, h7]
          have HA := Lib.hid hA
          have HBB := Lib.hid hB
          clear hA hB hu hlen hg h15 h2 h16 h7
          go_wp2
          go_quiet (fail)
          clear c15 c2
          obtain ⟨n16, hn16⟩ : ∃ n : Nat, t - 16 = n := ⟨_, rfl⟩
          obtain ⟨n7, hn7⟩ : ∃ n : Nat, t - 7 = n := ⟨_, rfl⟩
          rw [hn16] at g16
          rw [hn7] at g7
          have q16 : IntKind.i64.wrap (n16 : Int) = (n16 : Int) := by rw [IntKind.wrap_i64]; omega
          have q7 : IntKind.i64.wrap (n7 : Int) = (n7 : Int) := by rw [IntKind.wrap_i64]; omega
          have r16 : (t : Int) - 16 = (n16 : Int) := by omega
          have r7 : (t : Int) - 7 = (n7 : Int) := by omega
          have b1 : (n16 : Int) < 64 := by omega
          have b2 : (n7 : Int) < 64 := by omega
          have b5 : (t : Int) < 64 := by omega
          have b6 : (0 : Int) ≤ (t : Int) := by omega
          have b7 : (0 : Int) ≤ (n16 : Int) := by omega
          have b8 : (0 : Int) ≤ (n7 : Int) := by omega
          obtain ⟨W1, hW1⟩ : ∃ W1, W1 = wr.drewN nq := ⟨_, rfl⟩
          rw [← hW1]
          have hK1 : Kept wr W1 := by rw [hW1]; exact Kept.drewN (Kept.refl _) _
          have hc1 := hc _ hK1
          have hf1 := hf _ hK1
          have hS1 : KB wr w.heap.size t W1 := KB.kept hK1
          have HW1 := Lib.hid hW1
          clear hW1
          go_wp2
          clear hc hf
          go_region_held3 (fun W => KB wr w.heap.size t W) (first | assumption | exact KB.kept (Kept.drew hK1) | exact KB.set hK1 _ | exact KB.set (Kept.drew hK1) _)
            (first | (go_at_call 83; refine (pror _ _ (by decide) _).mono ?_; rintro e w' ⟨rfl, rfl⟩))
          go_wp2
          go_roundw
          case rel =>
            iterate 44 apply Exists.intro
            refine ⟨?_, rfl⟩
            have key : ∀ E : Int, E = ((x16 + (ror x15 7 ^^^ ror x15 18 ^^^ x15 >>> 3) + x7 + (ror x2 17 ^^^ ror x2 19 ^^^ x2 >>> 10)).toNat : Int) →
                Below w.heap.size w (W1.setCell ⟨w.heap.size, t, none⟩ (.int .u32 E)) ∧ Arr (W1.setCell ⟨w.heap.size, t, none⟩ (.int .u32 E)) w.heap.size (ws (part blk (t + 1))) := by
              rintro _ rfl
              refine ⟨(HBB.out.trans (hK1.below.mono (by omega))).setCell (p := ⟨w.heap.size, t, none⟩) (Nat.le_refl _) _, ?_⟩
              rw [← part_next blk (by omega), HV.out]
              exact (HA.out.below hK1.below hsz).set t _
            refine ⟨t + 1, by simp, by omega, by omega, Below.drew (And.left (key _ ?_)), Arr.drew (And.right (key _ ?_))⟩ <;>
              simp only [← IntKind.wrap_u32', w_shr3', w_shr10', w_xor, w_add]
          case measure => simp [intOf]; omega
        · obtain rfl : t = 64 := by omega
          rw [part_is] at hA
          have hcl : (ws (sch blk 64)).length = 64 := by rw [ws_len, sch_len]
          have ho1 := all_oneCell_toArray (one_ws (sch blk 64))
          obtain ⟨cs, hcs⟩ : ∃ cs, ws (sch blk 64) = cs := ⟨_, rfl⟩
          rw [hcs] at hA hcl ho1
          have hd1 := hA.at_
          have ht1 : wr.there w.heap.size 0 cs.toArray.size := by simpa using hA.there
          have hz1 : (Tryd.prog.info? 103).map (·.size) = some cs.length := by rw [hcl]; exact Tryd.info103
          have hz2 : (Tryd.prog.info? 103).map (·.size) = some cs.toArray.size := by simpa using hz1
          have hst := hA.stored (cs' := cs) rfl
          have hbw := below_setCells (B := w.heap.size) (a := w) (b := w.heap.size) (Nat.le_refl _) cs 0 wr hB
          have HD1 := Lib.hid hd1
          have HT1 := Lib.hid ht1
          have HZ1 := Lib.hid hz1
          have HZ2 := Lib.hid hz2
          have HO1 := Lib.hid ho1
          have HST := Lib.hid hst
          have HBW := Lib.hid hbw
          have HCS := Lib.hid hcs
          clear hd1 ht1 hz1 hz2 ho1 hA hcl hB hcs hst hbw
          go_wp2_with (refine wpList_load_mid rfl 103 _ (by rfl) w.heap.size 0 (by rfl) _ _ HD1.out Tryd.underlying103 rfl HZ1.out ?_; refine wpList_store_mid rfl 103 _ _ (by rfl) w.heap.size 0 _ (by rfl) (by rfl) HT1.out HZ2.out HO1.out ?_)
          refine bodyPost_ret (results_cell_mid rfl _ _ _ _ _ rfl HST.out.at_ Tryd.underlying103 rfl HZ1.out) rfl ?_
          exact ⟨by rw [HCS.out], HBW.out⟩
end Go.Proofs.YtfmngeemhfpeiaaDoor

namespace Go.Proofs.YtfmngeemhfpeiaaDoor
open Go.RowKit

/-- A whole array goes into a block of the call's own: the world behind it is a letter. -/
theorem store_new {P : Program} {ops : Array Oper} {rest : List Oper} {op : Oper} {a : Act} {w w0 : World} {Q : Exit → Act → World → Prop} (hgd : op.guard = none) (ty : TypeId) (x y : Operand) (ho : op.op = .store ty x y)
    (B b : Nat) (cs old : List Value) (hx : a.eval x = .pointer (some ⟨b, 0, none⟩)) (hy : a.eval y = .agg cs.toArray) (hB : Below B w0 w) (hb : B ≤ b) (ht : Arr w b old) (hl : cs.length = old.length)
    (hi : (P.info? ty).map (·.size) = some cs.length) (h1 : ∀ v ∈ cs, v.oneCell' = true) (h : ∀ W, Below B w0 W → Arr W b cs → w.heap.size ≤ W.heap.size → wpList P ops Q rest (a.put op.dst undef) W) : wpList P ops Q (op :: rest) a w := by
  refine wpList_store_mid hgd ty x y ho b 0 cs.toArray hx hy (by rw [List.size_toArray, hl]; exact ht.there) (by simpa using hi) (all_oneCell_toArray h1) ?_
  exact h _ (below_setCells hb _ _ _ hB) (ht.stored hl) (below_setCells (B := 0) (Nat.zero_le _) cs.toArray.toList 0 w (Below.refl 0 w)).size

/-- The variable of the numbers K. -/
def Tab (W : World) : Prop := ∀ i, i < 64 → W.cell? ⟨0, i, none⟩ = some (.int .u32 (ks.getD i 0).toNat)
theorem Tab.below {W W' : World} {B : Nat} (h : Tab W) (hb : Below B W W') (h0 : 0 < B) : Tab W' := fun i hi => (hb.cell (p := ⟨0, i, none⟩) h0).trans (h i hi)
theorem St.list_len (s : St) : s.list.length = 8 := rfl

theorem w_not' (x : (BitVec 32)) : bits .xor .u32 (if IntKind.u32.signed = true then -1 else IntKind.u32.max) (x.toNat : Int) = ((~~~x).toNat : Int) := by
  rw [if_neg (by decide)]; exact w_not x
def pOf (S : St) (k x : (BitVec 32)) : (BitVec 32) := S.h + (ror S.e 6 ^^^ ror S.e 11 ^^^ ror S.e 25) + ((S.e &&& S.f) ^^^ (~~~S.e &&& S.g)) + k + x
def qOf (S : St) : (BitVec 32) := (ror S.a 2 ^^^ ror S.a 13 ^^^ ror S.a 22) + ((S.a &&& S.b) ^^^ (S.a &&& S.c) ^^^ (S.b &&& S.c))
theorem p_form (S : St) (k x : (BitVec 32)) : (((S.h.toNat : Int) + bits .xor .u32 (bits .xor .u32 ((ror S.e 6).toNat : Int) ((ror S.e 11).toNat : Int)) ((ror S.e 25).toNat : Int)
      + bits .xor .u32 (bits .and .u32 (S.e.toNat : Int) (S.f.toNat : Int)) (bits .and .u32 (bits .xor .u32 (if IntKind.u32.signed = true then -1 else IntKind.u32.max) (S.e.toNat : Int)) (S.g.toNat : Int)) + (k.toNat : Int)) % (4294967296 : Int)
      + (x.toNat : Int)) % (4294967296 : Int) = ((pOf S k x).toNat : Int) := by
  simp only [w_not', w_xor, w_and, pOf, BitVec.toNat_add]
  omega
theorem q_form (S : St) : (bits .xor .u32 (bits .xor .u32 ((ror S.a 2).toNat : Int) ((ror S.a 13).toNat : Int)) ((ror S.a 22).toNat : Int)
      + bits .xor .u32 (bits .xor .u32 (bits .and .u32 (S.a.toNat : Int) (S.b.toNat : Int)) (bits .and .u32 (S.a.toNat : Int) (S.c.toNat : Int))) (bits .and .u32 (S.b.toNat : Int) (S.c.toNat : Int))) % (4294967296 : Int) = ((qOf S).toNat : Int) := by
  simp only [w_xor, w_and, qOf, BitVec.toNat_add]
  omega
theorem round_is (S : St) (k x : (BitVec 32)) : round S k x = ⟨pOf S k x + qOf S, S.a, S.b, S.c, S.d + pOf S k x, S.e, S.f, S.g⟩ := rfl
/-- The state while the sums are laid. -/
def upd (s S : St) (i : Nat) : List (BitVec 32) := (s.add S).list.take i ++ s.list.drop i
/-- Nothing has turned but block sb. -/
def But (w1 : World) (sb : Nat) (W : World) : Prop := w1.grownBy W (some sb)
theorem But.drew {w1 W : World} {sb : Nat} (h : But w1 sb W) : But w1 sb W.drew := ⟨h.os, h.tape, h.output, h.size, h.block⟩
theorem But.set {w1 W : World} {sb : Nat} (h : But w1 sb W) (i : Nat) (v : Value) : But w1 sb (W.setCell ⟨sb, i, none⟩ v) :=
  ⟨h.os, h.tape, h.output, by simpa [World.setCell] using h.size, fun k hk hne => by
    rw [← h.block k hk hne]
    exact Below.heap_setCell _ _ _ _ (by first | exact fun e => hne (congrArg some e) | exact fun e => hne (congrArg some e.symm))⟩
theorem gtrans {a b c : World} {row : Option Nat} (h : a.grownBy b row) (k : b.grownBy c row) : a.grownBy c row :=
  ⟨k.os.trans h.os, k.tape.trans h.tape, k.output.trans h.output, Nat.le_trans h.size k.size, fun i hi hne => (k.block i (Nat.lt_of_lt_of_le hi h.size) hne).trans (h.block i hi hne)⟩
theorem gbelow {a b : World} {row : Option Nat} (h : Below a.heap.size a b) : a.grownBy b row := ⟨h.os, h.tape, h.output, h.size, fun i hi _ => h.block i hi⟩
theorem vint {k : IntKind} {a b : Int} (h : a = b) : Value.int k a = .int k b := by rw [h]
theorem prorQ (x : (BitVec 32)) (n : Int) (h : n = 2 ∨ n = 6 ∨ n = 7 ∨ n = 11 ∨ n = 13 ∨ n = 17 ∨ n = 18 ∨ n = 19 ∨ n = 22 ∨ n = 25) (w : World) : Calls Tryd.prog 83 #[.int .u32 x.toNat, .int .i64 n] w fun e w' => e = .returned (.int .u32 (ror x n.toNat).toNat) ∧ ∃ q, w' = w.drewN q :=
  (pror x n h w).mono fun _ _ h => ⟨h.1, 0, h.2⟩

set_option maxRecDepth 100000 in
set_option maxHeartbeats 4000000 in
theorem absorb_any (w : World) (sb db off : Nat) (s : St) (blk : List UInt8) (hT : Tab w) (h0 : 0 < w.heap.size) (hs : Arr w sb (ws s.list)) (hsb : sb < w.heap.size) (hl : blk.length = 64) (hb : BytesIn w db off blk) (hdb : db < w.heap.size) :
    Calls Tryd.prog 58 #[.pointer (some ⟨sb, 0, none⟩), .slice (some ⟨db, off, none⟩) 64 64] w fun e w' => (∃ v, e = .returned v) ∧ Arr w' sb (ws (press s blk).list) ∧ w.grownBy w' (some sb) := by
  have HC := Lib.hid (sched_any w db off blk hl hb hdb)
  have hcl : (ws (sch blk 64)).length = 64 := by rw [ws_len, sch_len]
  have ho1 := all_oneCell_toArray (one_ws (sch blk 64))
  obtain ⟨cs, hcs⟩ : ∃ cs, ws (sch blk 64) = cs := ⟨_, rfl⟩
  rw [hcs] at hcl ho1
  have hz2 : (Tryd.prog.info? 103).map (·.size) = some cs.length := by rw [hcl]; exact Tryd.info103
  have ho2 : ∀ v ∈ cs, v.oneCell' = true := by rw [← hcs]; exact one_ws _
  have HT := Lib.hid hT
  have HS := Lib.hid hs
  have HZ2 := Lib.hid hz2
  have HO2 := Lib.hid ho2
  have HCL := Lib.hid hcl
  have HCS := Lib.hid hcs
  clear hT hs hz2 ho1 ho2 hcl hcs hb hl
  go_enter Tryd.func58, Tryd.ntmps58
  go_wp2_with fail
  refine HC.out.mono ?_
  rw [HCS.out]
  rintro e w2 ⟨rfl, hB2⟩
  have HB2 := Lib.hid hB2
  clear hB2
  go_wp2_with (refine store_new rfl 103 _ _ (by rfl) w2.heap.size w2.heap.size cs _ (by rfl) (by rfl) ((Below.refl w2.heap.size w2).alloc (Nat.le_refl _) _) (Nat.le_refl _) (Arr.new w2 _ 103) (by rw [HCL.out]; rfl) HZ2.out HO2.out ?_; intro W3 hB3 hA3 hz3)
  have hk3 : Below w.heap.size w W3 := HB2.out.trans (hB3.mono HB2.out.size)
  have hlt3 : w2.heap.size < W3.heap.size := by simp at hz3; omega
  have hS3 := HS.out.below hk3 hsb
  have hT3 := HT.out.below hk3 h0
  have c0 : W3.cell? ⟨sb, 0, none⟩ = some (.int .u32 s.a.toNat) := hS3.cell rfl
  have c1 : W3.cell? ⟨sb, 1, none⟩ = some (.int .u32 s.b.toNat) := hS3.cell rfl
  have c2 : W3.cell? ⟨sb, 2, none⟩ = some (.int .u32 s.c.toNat) := hS3.cell rfl
  have c3 : W3.cell? ⟨sb, 3, none⟩ = some (.int .u32 s.d.toNat) := hS3.cell rfl
  have c4 : W3.cell? ⟨sb, 4, none⟩ = some (.int .u32 s.e.toNat) := hS3.cell rfl
  have c5 : W3.cell? ⟨sb, 5, none⟩ = some (.int .u32 s.f.toNat) := hS3.cell rfl
  have c6 : W3.cell? ⟨sb, 6, none⟩ = some (.int .u32 s.g.toNat) := hS3.cell rfl
  have c7 : W3.cell? ⟨sb, 7, none⟩ = some (.int .u32 s.h.toNat) := hS3.cell rfl
  have HA3 := Lib.hid hA3
  have HS3 := Lib.hid hS3
  have HT3 := Lib.hid hT3
  have HK3 := Lib.hid hk3
  clear hA3 hS3 hT3 hk3 hB3 hz3
  go_wp2
  go_quiet (fail)
  obtain ⟨W4, hW4⟩ : ∃ W4, W4 = W3.drewN nq := ⟨_, rfl⟩
  rw [← hW4]
  have hK4 : Kept W3 W4 := by rw [hW4]; exact Kept.drewN (Kept.refl _) _
  have HK4 := Lib.hid hK4
  clear c0 c1 c2 c3 c4 c5 c6 c7 hW4 hK4
  go_wp2
  go_loopw [5, 6, 7, 8, 9, 10, 11, 12, 52] (fun a b c d e f g h i wr => ∃ (t : Nat) (S : St), t ≤ 64 ∧ S = rnds (sch blk 64) s t ∧ a = .int .u32 S.a.toNat ∧ b = .int .u32 S.b.toNat ∧ c = .int .u32 S.c.toNat ∧ d = .int .u32 S.d.toNat
      ∧ e = .int .u32 S.e.toNat ∧ f = .int .u32 S.f.toNat ∧ g = .int .u32 S.g.toNat ∧ h = .int .u32 S.h.toNat ∧ i = .int .i64 t ∧ Kept W3 wr)
    (fun _ _ _ _ _ _ _ _ i _ => 64 - (intOf i).toNat)
  case atStart => exact ⟨0, s, by omega, rfl, rfl, rfl, rfl, rfl, rfl, rfl, rfl, rfl, rfl, HK4.out⟩
  case round =>
    obtain ⟨t, S, ht, hS, rfl, rfl, rfl, rfl, rfl, rfl, rfl, rfl, rfl, hK⟩ := hrel
    by_cases hlt : t < 64
    · have hd : decide ((t : Int) < 64) = true := by simp; omega
      obtain ⟨k, hk⟩ : ∃ k, ks.getD t 0 = k := ⟨_, rfl⟩
      obtain ⟨x, hx⟩ : ∃ x, (sch blk 64).getD t 0 = x := ⟨_, rfl⟩
      have kt : wr.cell? ⟨0, t, none⟩ = some (.int .u32 k.toNat) := by
        rw [← hk]; exact (HT3.out.below hK.below (by omega)) t hlt
      have wt : wr.cell? ⟨w2.heap.size, t, none⟩ = some (.int .u32 x.toNat) := by
        have hg : cs[t]? = some (.int .u32 x.toNat) := by
          rw [← HCS.out, ← hx]
          have := sch_len blk 64
          simp [ws, List.getD, List.getElem?_eq_getElem (show t < (sch blk 64).length by omega)]
        exact (HA3.out.below hK.below hlt3).cell hg
      have b5 : (t : Int) < 64 := by omega
      have b6 : (0 : Int) ≤ (t : Int) := by omega
      have HSS := Lib.hid hS
      have HKK := Lib.hid hk
      have HXX := Lib.hid hx
      have HK := Lib.hid hK
      clear hS hk hx hK
      go_wp2
      go_quiet (first | (go_at_call 83; exact Calls.quiet_of (prorQ _ _ (by decide) _)))
      obtain ⟨p, hp⟩ : ∃ p, pOf S k x = p := ⟨_, rfl⟩
      rw [p_form, hp]
      have HP := Lib.hid hp
      have HQ := Lib.hid (q_form S)
      obtain ⟨W5, hW5⟩ : ∃ W5, W5 = wr.drewN nq := ⟨_, rfl⟩
      rw [← hW5]
      have HK5 : Hid (Kept W3 W5) := by show Kept W3 W5; rw [hW5]; exact Kept.drewN HK.out _
      clear hp kt wt hW5
      go_wp2_with (first | (go_at_call 83; refine (pror _ _ (by decide) _).mono ?_; rintro e w' ⟨rfl, rfl⟩))
      go_roundw
      case rel =>
        have hr : rnds (sch blk 64) s (t + 1) = round S k x := by rw [rnds, HKK.out, HXX.out, ← HSS.out]
        refine ⟨t + 1, rnds (sch blk 64) s (t + 1), by omega, rfl, ?_, ?_, ?_, ?_, ?_, ?_, ?_, ?_, by simp, HK5.out⟩ <;> rw [hr, round_is, HP.out] <;> first | rfl | (refine vint ?_; simp only [w_xor, w_and, qOf, BitVec.toNat_add]; omega)
      case measure => simp [intOf]; omega
    · obtain rfl : t = 64 := by omega
      have hS4 := HS3.out.below hK.below (by have := HK3.out.size; omega)
      have hSb : sb < wr.heap.size := by have := HK3.out.size; have := hK.size; omega
      have hG : But W3 sb wr := gbelow hK.below
      have HSS := Lib.hid hS
      clear hS hK
      go_wp2
      go_loopw [124] (fun i wr => ∃ j : Nat, i = .int .i64 j ∧ j ≤ 8 ∧ Arr wr sb (ws (upd s S j)) ∧ But W3 sb wr) (fun i _ => 8 - (intOf i).toNat)
      case atStart => exact ⟨0, rfl, by omega, hS4, hG⟩
      case round =>
        obtain ⟨j, rfl, hj, hA, hG'⟩ := hrel
        have hlt : j = 0 ∨ j = 1 ∨ j = 2 ∨ j = 3 ∨ j = 4 ∨ j = 5 ∨ j = 6 ∨ j = 7 ∨ j = 8 := by omega
        clear hS4 hG hj
        rcases hlt with rfl | rfl | rfl | rfl | rfl | rfl | rfl | rfl | rfl
        · have cj : wr.cell? ⟨sb, 0, none⟩ = some (.int .u32 s.a.toNat) := hA.cell rfl
          have ix : ∀ W : World, (Instr.index 75 (.agg #[.int .u32 S.a.toNat, .int .u32 S.b.toNat, .int .u32 S.c.toNat, .int .u32 S.d.toNat, .int .u32 S.e.toNat, .int .u32 S.f.toNat, .int .u32 S.g.toNat, .int .u32 S.h.toNat]) (.int .i64 0)).run Tryd.prog W = .ok (.int .u32 S.a.toNat) W := fun _ => by kernel_rfl
          have fj : wr.frozen? ⟨sb, 0, none⟩ = false := hA.frozen (by simp [ws, upd, St.list])
          have key : ∀ E : Int, E = ((s.a + S.a).toNat : Int) → Arr (wr.setCell ⟨sb, 0, none⟩ (.int .u32 E)) sb (ws (upd s S 1)) ∧ But W3 sb (wr.setCell ⟨sb, 0, none⟩ (.int .u32 E)) := by
            rintro _ rfl
            exact ⟨hA.set 0 _, hG'.set 0 _⟩
          have KEY := Lib.hid key
          clear key hA hG'
          go_wp2
          go_region
          go_wp2
          go_roundw
          case rel => exact ⟨1, rfl, by omega, Arr.drew (KEY.out _ (by rw [← IntKind.wrap_u32', w_add])).1, But.drew (KEY.out _ (by rw [← IntKind.wrap_u32', w_add])).2⟩
          case measure => simp [intOf]
        · have cj : wr.cell? ⟨sb, 1, none⟩ = some (.int .u32 s.b.toNat) := hA.cell rfl
          have ix : ∀ W : World, (Instr.index 75 (.agg #[.int .u32 S.a.toNat, .int .u32 S.b.toNat, .int .u32 S.c.toNat, .int .u32 S.d.toNat, .int .u32 S.e.toNat, .int .u32 S.f.toNat, .int .u32 S.g.toNat, .int .u32 S.h.toNat]) (.int .i64 1)).run Tryd.prog W = .ok (.int .u32 S.b.toNat) W := fun _ => by kernel_rfl
          have fj : wr.frozen? ⟨sb, 1, none⟩ = false := hA.frozen (by simp [ws, upd, St.list])
          have key : ∀ E : Int, E = ((s.b + S.b).toNat : Int) → Arr (wr.setCell ⟨sb, 1, none⟩ (.int .u32 E)) sb (ws (upd s S 2)) ∧ But W3 sb (wr.setCell ⟨sb, 1, none⟩ (.int .u32 E)) := by
            rintro _ rfl
            exact ⟨hA.set 1 _, hG'.set 1 _⟩
          have KEY := Lib.hid key
          clear key hA hG'
          go_wp2
          go_region
          go_wp2
          go_roundw
          case rel => exact ⟨2, rfl, by omega, Arr.drew (KEY.out _ (by rw [← IntKind.wrap_u32', w_add])).1, But.drew (KEY.out _ (by rw [← IntKind.wrap_u32', w_add])).2⟩
          case measure => simp [intOf]
        · have cj : wr.cell? ⟨sb, 2, none⟩ = some (.int .u32 s.c.toNat) := hA.cell rfl
          have ix : ∀ W : World, (Instr.index 75 (.agg #[.int .u32 S.a.toNat, .int .u32 S.b.toNat, .int .u32 S.c.toNat, .int .u32 S.d.toNat, .int .u32 S.e.toNat, .int .u32 S.f.toNat, .int .u32 S.g.toNat, .int .u32 S.h.toNat]) (.int .i64 2)).run Tryd.prog W = .ok (.int .u32 S.c.toNat) W := fun _ => by kernel_rfl
          have fj : wr.frozen? ⟨sb, 2, none⟩ = false := hA.frozen (by simp [ws, upd, St.list])
          have key : ∀ E : Int, E = ((s.c + S.c).toNat : Int) → Arr (wr.setCell ⟨sb, 2, none⟩ (.int .u32 E)) sb (ws (upd s S 3)) ∧ But W3 sb (wr.setCell ⟨sb, 2, none⟩ (.int .u32 E)) := by
            rintro _ rfl
            exact ⟨hA.set 2 _, hG'.set 2 _⟩
          have KEY := Lib.hid key
          clear key hA hG'
          go_wp2
          go_region
          go_wp2
          go_roundw
          case rel => exact ⟨3, rfl, by omega, Arr.drew (KEY.out _ (by rw [← IntKind.wrap_u32', w_add])).1, But.drew (KEY.out _ (by rw [← IntKind.wrap_u32', w_add])).2⟩
          case measure => simp [intOf]
        · have cj : wr.cell? ⟨sb, 3, none⟩ = some (.int .u32 s.d.toNat) := hA.cell rfl
          have ix : ∀ W : World, (Instr.index 75 (.agg #[.int .u32 S.a.toNat, .int .u32 S.b.toNat, .int .u32 S.c.toNat, .int .u32 S.d.toNat, .int .u32 S.e.toNat, .int .u32 S.f.toNat, .int .u32 S.g.toNat, .int .u32 S.h.toNat]) (.int .i64 3)).run Tryd.prog W = .ok (.int .u32 S.d.toNat) W := fun _ => by kernel_rfl
          have fj : wr.frozen? ⟨sb, 3, none⟩ = false := hA.frozen (by simp [ws, upd, St.list])
          have key : ∀ E : Int, E = ((s.d + S.d).toNat : Int) → Arr (wr.setCell ⟨sb, 3, none⟩ (.int .u32 E)) sb (ws (upd s S 4)) ∧ But W3 sb (wr.setCell ⟨sb, 3, none⟩ (.int .u32 E)) := by
            rintro _ rfl
            exact ⟨hA.set 3 _, hG'.set 3 _⟩
          have KEY := Lib.hid key
          clear key hA hG'
          go_wp2
          go_region
          go_wp2
          go_roundw
          case rel => exact ⟨4, rfl, by omega, Arr.drew (KEY.out _ (by rw [← IntKind.wrap_u32', w_add])).1, But.drew (KEY.out _ (by rw [← IntKind.wrap_u32', w_add])).2⟩
          case measure => simp [intOf]
        · have cj : wr.cell? ⟨sb, 4, none⟩ = some (.int .u32 s.e.toNat) := hA.cell rfl
          have ix : ∀ W : World, (Instr.index 75 (.agg #[.int .u32 S.a.toNat, .int .u32 S.b.toNat, .int .u32 S.c.toNat, .int .u32 S.d.toNat, .int .u32 S.e.toNat, .int .u32 S.f.toNat, .int .u32 S.g.toNat, .int .u32 S.h.toNat]) (.int .i64 4)).run Tryd.prog W = .ok (.int .u32 S.e.toNat) W := fun _ => by kernel_rfl
          have fj : wr.frozen? ⟨sb, 4, none⟩ = false := hA.frozen (by simp [ws, upd, St.list])
          have key : ∀ E : Int, E = ((s.e + S.e).toNat : Int) → Arr (wr.setCell ⟨sb, 4, none⟩ (.int .u32 E)) sb (ws (upd s S 5)) ∧ But W3 sb (wr.setCell ⟨sb, 4, none⟩ (.int .u32 E)) := by
            rintro _ rfl
            exact ⟨hA.set 4 _, hG'.set 4 _⟩
          have KEY := Lib.hid key
          clear key hA hG'
          go_wp2
          go_region
          go_wp2
          go_roundw
          case rel => exact ⟨5, rfl, by omega, Arr.drew (KEY.out _ (by rw [← IntKind.wrap_u32', w_add])).1, But.drew (KEY.out _ (by rw [← IntKind.wrap_u32', w_add])).2⟩
          case measure => simp [intOf]
        · have cj : wr.cell? ⟨sb, 5, none⟩ = some (.int .u32 s.f.toNat) := hA.cell rfl
          have ix : ∀ W : World, (Instr.index 75 (.agg #[.int .u32 S.a.toNat, .int .u32 S.b.toNat, .int .u32 S.c.toNat, .int .u32 S.d.toNat, .int .u32 S.e.toNat, .int .u32 S.f.toNat, .int .u32 S.g.toNat, .int .u32 S.h.toNat]) (.int .i64 5)).run Tryd.prog W = .ok (.int .u32 S.f.toNat) W := fun _ => by kernel_rfl
          have fj : wr.frozen? ⟨sb, 5, none⟩ = false := hA.frozen (by simp [ws, upd, St.list])
          have key : ∀ E : Int, E = ((s.f + S.f).toNat : Int) → Arr (wr.setCell ⟨sb, 5, none⟩ (.int .u32 E)) sb (ws (upd s S 6)) ∧ But W3 sb (wr.setCell ⟨sb, 5, none⟩ (.int .u32 E)) := by
            rintro _ rfl
            exact ⟨hA.set 5 _, hG'.set 5 _⟩
          have KEY := Lib.hid key
          clear key hA hG'
          go_wp2
          go_region
          go_wp2
          go_roundw
          case rel => exact ⟨6, rfl, by omega, Arr.drew (KEY.out _ (by rw [← IntKind.wrap_u32', w_add])).1, But.drew (KEY.out _ (by rw [← IntKind.wrap_u32', w_add])).2⟩
          case measure => simp [intOf]
        · have cj : wr.cell? ⟨sb, 6, none⟩ = some (.int .u32 s.g.toNat) := hA.cell rfl
          have ix : ∀ W : World, (Instr.index 75 (.agg #[.int .u32 S.a.toNat, .int .u32 S.b.toNat, .int .u32 S.c.toNat, .int .u32 S.d.toNat, .int .u32 S.e.toNat, .int .u32 S.f.toNat, .int .u32 S.g.toNat, .int .u32 S.h.toNat]) (.int .i64 6)).run Tryd.prog W = .ok (.int .u32 S.g.toNat) W := fun _ => by kernel_rfl
          have fj : wr.frozen? ⟨sb, 6, none⟩ = false := hA.frozen (by simp [ws, upd, St.list])
          have key : ∀ E : Int, E = ((s.g + S.g).toNat : Int) → Arr (wr.setCell ⟨sb, 6, none⟩ (.int .u32 E)) sb (ws (upd s S 7)) ∧ But W3 sb (wr.setCell ⟨sb, 6, none⟩ (.int .u32 E)) := by
            rintro _ rfl
            exact ⟨hA.set 6 _, hG'.set 6 _⟩
          have KEY := Lib.hid key
          clear key hA hG'
          go_wp2
          go_region
          go_wp2
          go_roundw
          case rel => exact ⟨7, rfl, by omega, Arr.drew (KEY.out _ (by rw [← IntKind.wrap_u32', w_add])).1, But.drew (KEY.out _ (by rw [← IntKind.wrap_u32', w_add])).2⟩
          case measure => simp [intOf]
        · have cj : wr.cell? ⟨sb, 7, none⟩ = some (.int .u32 s.h.toNat) := hA.cell rfl
          have ix : ∀ W : World, (Instr.index 75 (.agg #[.int .u32 S.a.toNat, .int .u32 S.b.toNat, .int .u32 S.c.toNat, .int .u32 S.d.toNat, .int .u32 S.e.toNat, .int .u32 S.f.toNat, .int .u32 S.g.toNat, .int .u32 S.h.toNat]) (.int .i64 7)).run Tryd.prog W = .ok (.int .u32 S.h.toNat) W := fun _ => by kernel_rfl
          have fj : wr.frozen? ⟨sb, 7, none⟩ = false := hA.frozen (by simp [ws, upd, St.list])
          have key : ∀ E : Int, E = ((s.h + S.h).toNat : Int) → Arr (wr.setCell ⟨sb, 7, none⟩ (.int .u32 E)) sb (ws (upd s S 8)) ∧ But W3 sb (wr.setCell ⟨sb, 7, none⟩ (.int .u32 E)) := by
            rintro _ rfl
            exact ⟨hA.set 7 _, hG'.set 7 _⟩
          have KEY := Lib.hid key
          clear key hA hG'
          go_wp2
          go_region
          go_wp2
          go_roundw
          case rel => exact ⟨8, rfl, by omega, Arr.drew (KEY.out _ (by rw [← IntKind.wrap_u32', w_add])).1, But.drew (KEY.out _ (by rw [← IntKind.wrap_u32', w_add])).2⟩
          case measure => simp [intOf]
        · go_wp2

          go_end0
          refine ⟨⟨_, rfl⟩, ?_, ?_⟩
          · rw [press, ← HSS.out]; exact hA
          · exact gtrans (gbelow HK3.out) hG'
end Go.Proofs.YtfmngeemhfpeiaaDoor

namespace Go.Proofs.YtfmngeemhfpeiaaDoor
open Go.RowKit

theorem outb_is (s : St) (i : Nat) : ((outb s i).toNat : Int) = (((s.list.getD (i / 4) 0).toNat / 2 ^ (24 - 8 * (i % 4)) : Nat) : Int) % 256 := by
  simp [outb, BitVec.toNat_ushiftRight, Nat.shiftRight_eq_div_pow]
/-- The digest while i bytes of it are laid. -/
def dpart (s : St) (i : Nat) : List UInt8 := (List.range i).map (outb s) ++ List.replicate (32 - i) 0
theorem dpart_len (s : St) {i : Nat} (h : i ≤ 32) : (dpart s i).length = 32 := by simp [dpart]; omega
theorem dpart_next (s : St) {i : Nat} (h : i < 32) : (cells8 (dpart s i)).set i (.int .u8 (outb s i).toNat) = cells8 (dpart s (i + 1)) := by
  have e : cells8 (dpart s (i + 1)) = cells8 ((List.range i).map (outb s)) ++ .int .u8 (outb s i).toNat :: cells8 (List.replicate (32 - (i + 1)) 0) := by
    simp [cells8, dpart, List.range_succ]
  have e2 : cells8 (dpart s i) = cells8 ((List.range i).map (outb s)) ++ .int .u8 (0 : UInt8).toNat :: cells8 (List.replicate (32 - (i + 1)) 0) := by
    have : 32 - i = (32 - (i + 1)) + 1 := by omega
    simp [cells8, dpart, this, List.replicate_succ]
  rw [e, e2, List.set_append_right _ _ (by simp [cells8])]
  simp [cells8]
/-- The digest that a state gives. -/
def outs (s : St) : List UInt8 := (List.range 32).map (outb s)
theorem dpart_is (s : St) : dpart s 32 = outs s := by simp [dpart, outs]
theorem outs_len (s : St) : (outs s).length = 32 := by simp [outs]
/-- A digest as a value. -/
def dv (l : List UInt8) : Value := .agg (cells8 l).toArray

theorem list_getD (s : St) (i : Nat) (h : i < 8) : (ws s.list)[i]? = some (.int .u32 (s.list.getD i 0).toNat) := by
  have : i < s.list.length := h
  simp [ws, List.getD, List.getElem?_eq_getElem this]

set_option maxRecDepth 100000 in
set_option maxHeartbeats 4000000 in
theorem digest_any (w : World) (sb : Nat) (s : St) (hs : Arr w sb (ws s.list)) (hsb : sb < w.heap.size) :
    Calls Tryd.prog 61 #[.pointer (some ⟨sb, 0, none⟩)] w fun e w' => e = .returned (dv (outs s)) ∧ Below w.heap.size w w' := by
  have HS := Lib.hid hs
  clear hs
  go_enter Tryd.func61, Tryd.ntmps61
  go_wp2
  go_loopw [4] (fun i wr => ∃ t : Nat, i = .int .i64 t ∧ t ≤ 32 ∧ Below w.heap.size w wr ∧ Arr wr w.heap.size (cells8 (dpart s t)))
    (fun i _ => 32 - (intOf i).toNat)
  case atStart => exact ⟨0, rfl, by omega, by go_grown, Arr.new w _ 30⟩
  case round =>
    obtain ⟨t, rfl, ht, hB, hA⟩ := hrel
    by_cases hlt : t < 32
    · have hd : decide ((t : Int) < 32) = true := by simp; omega
      have hlen : t < (cells8 (dpart s t)).length := by rw [cells8_len, dpart_len s (by omega)]; omega
      obtain ⟨u, hu⟩ : ∃ u, (cells8 (dpart s t))[t]'hlen = u := ⟨_, rfl⟩
      have hc : wr.cell? ⟨w.heap.size, t, none⟩ = some u := hu ▸ hA.cell (List.getElem?_eq_getElem hlen)
      have hf : wr.frozen? ⟨w.heap.size, t, none⟩ = false := hA.frozen hlen
      obtain ⟨q, hq⟩ : ∃ q, t / 4 = q := ⟨_, rfl⟩
      obtain ⟨r, hr⟩ : ∃ r, t % 4 = r := ⟨_, rfl⟩
      have hqd : (t : Int).tdiv 4 = (q : Int) := by rw [← hq]; rfl
      have hrd : (t : Int).tmod 4 = (r : Int) := by rw [← hr]; rfl
      have hw := list_getD s q (by omega)
      obtain ⟨x, hx⟩ : ∃ x, s.list.getD q 0 = x := ⟨_, rfl⟩
      rw [hx] at hw
      have hcs := (HS.out.below hB hsb).cell hw
      have key : ∀ v : Int, v = ((outb s t).toNat : Int) → Below w.heap.size w (wr.setCell ⟨w.heap.size, t, none⟩ (.int .u8 v)) ∧ Arr (wr.setCell ⟨w.heap.size, t, none⟩ (.int .u8 v)) w.heap.size (cells8 (dpart s (t + 1))) := by
        rintro _ rfl
        refine ⟨hB.setCell (p := ⟨w.heap.size, t, none⟩) (Nat.le_refl _) _, ?_⟩
        rw [← dpart_next s hlt]
        exact hA.set t _
      have hval : (x.toNat : Int) / 2 ^ (24 - r * 8) % 256 = ((outb s t).toNat : Int) := by
        rw [outb_is, hq, hr, hx, Nat.mul_comm 8 r]; push_cast; rfl
      have KEY := Lib.hid key
      have HVAL := Lib.hid hval
      have hr4 : r < 4 := by omega
      have hq8 : q < 8 := by omega
      clear key hval hA hB hu hw hx hlen
      go_wp2
      go_roundw
      case rel => exact ⟨t + 1, by simp, by omega, (KEY.out _ HVAL.out).1, (KEY.out _ HVAL.out).2⟩
      case measure => simp [intOf]; omega
    · obtain rfl : t = 32 := by omega
      rw [dpart_is] at hA
      have hcl : (cells8 (outs s)).length = 32 := by rw [cells8_len, outs_len]
      have ho1 := one_cells8 (outs s)
      obtain ⟨cs, hcs⟩ : ∃ cs, cells8 (outs s) = cs := ⟨_, rfl⟩
      rw [hcs] at hA hcl ho1
      have HZ1 : Hid ((Tryd.prog.info? 30).map (·.size) = some cs.length) := by show _ = _; rw [hcl]; exact Tryd.info30
      have HA := Lib.hid hA
      have HBB := Lib.hid hB
      have HO1 := Lib.hid ho1
      have HCS := Lib.hid hcs
      clear hA hB ho1 hcs hcl
      go_wp2_with (refine wpList_load_mid rfl 30 _ (by rfl) w.heap.size 0 (by rfl) _ _ HA.out.at_ Tryd.underlying30 rfl HZ1.out ?_; refine store_new rfl 30 _ _ (by rfl) w.heap.size w.heap.size cs cs (by rfl) (by rfl) HBB.out (Nat.le_refl _) HA.out rfl HZ1.out HO1.out ?_; intro W3 hB3 hA3 hz3)
      refine bodyPost_ret (results_cell_mid rfl _ _ _ _ _ rfl hA3.at_ Tryd.underlying30 rfl HZ1.out) rfl ?_
      exact ⟨by rw [dv, HCS.out], hB3⟩
end Go.Proofs.YtfmngeemhfpeiaaDoor

namespace Go.Proofs.YtfmngeemhfpeiaaDoor
open Go.RowKit

theorem wpList_world {P : Program} {ops : Array Oper} {rest : List Oper} {a : Act} {w : World} {Q : Exit → Act → World → Prop} (X : World → Prop) (hX : X w) (h : ∀ W, X W → wpList P ops Q rest a W) : wpList P ops Q rest a w := h w hX

/-- Bytes in a slice, in memory below B. -/
def BytesAt (w : World) (B : Nat) (v : Value) (bs : List UInt8) : Prop :=
  ∃ a cap, v = .slice a bs.length cap ∧ bs.length ≤ cap ∧ cap ≤ maxLen ∧ (bs = [] ∨ ∃ db off, a = some ⟨db, off, none⟩ ∧ db < B ∧ BytesIn w db off bs)
theorem BytesAt.below {w w' : World} {B : Nat} {v : Value} {bs : List UInt8} (h : BytesAt w B v bs) (hb : Below B w w') : BytesAt w' B v bs := by
  obtain ⟨a, cap, h1, h2, h3, h4⟩ := h
  refine ⟨a, cap, h1, h2, h3, ?_⟩
  rcases h4 with h4 | ⟨db, off, h4, h5, h6⟩
  · exact .inl h4
  · exact .inr ⟨db, off, h4, h5, h6.below hb h5⟩
theorem BytesAt.mono {w : World} {B B' : Nat} {v : Value} {bs : List UInt8} (h : BytesAt w B v bs) (hb : B ≤ B') : BytesAt w B' v bs := by
  obtain ⟨a, cap, h1, h2, h3, h4⟩ := h
  refine ⟨a, cap, h1, h2, h3, ?_⟩
  rcases h4 with h4 | ⟨db, off, h4, h5, h6⟩
  · exact .inl h4
  · exact .inr ⟨db, off, h4, by omega, h6⟩

/-- The eight bytes of m are laid from the last one on: j of them. -/
def lay (q m : Nat) : Nat → List UInt8 → List UInt8
  | 0, c => c
  | j + 1, c => (lay q m j c).set (q + 7 - j) (UInt8.ofNat (m / 2 ^ (8 * j)))
theorem lay_len (q m : Nat) : ∀ j c, (lay q m j c).length = c.length
  | 0, _ => rfl
  | j + 1, c => by rw [lay, List.length_set, lay_len q m j c]
theorem set_at {α : Type} (P : List α) : ∀ (q : Nat) (L : List α) (k : Nat) (v : α), P.length = q → (P ++ L).set (q + k) v = P ++ L.set k v := by
  intro q L k v h
  rw [List.set_append_right _ _ (by omega)]
  congr 2
  omega
theorem lay_is (m : Nat) (P R : List UInt8) (q : Nat) (h : P.length = q) (x0 x1 x2 x3 x4 x5 x6 x7 : UInt8) : lay q m 8 (P ++ (x0 :: x1 :: x2 :: x3 :: x4 :: x5 :: x6 :: x7 :: R)) = P ++ (be64 m ++ R) := by
  have e : ∀ c, lay q m 8 c = (((((((c.set (q + 7) (UInt8.ofNat m)).set (q + 6) (UInt8.ofNat (m / 2 ^ 8))).set (q + 5) (UInt8.ofNat (m / 2 ^ 16))).set (q + 4) (UInt8.ofNat (m / 2 ^ 24))).set (q + 3) (UInt8.ofNat (m / 2 ^ 32))).set (q + 2) (UInt8.ofNat (m / 2 ^ 40))).set (q + 1) (UInt8.ofNat (m / 2 ^ 48))).set (q + 0) (UInt8.ofNat (m / 2 ^ 56)) := fun c => by
    show (((((((c.set (q + 7 - 0) (UInt8.ofNat (m / 1))).set (q + 7 - 1) _).set (q + 7 - 2) _).set (q + 7 - 3) _).set (q + 7 - 4) _).set (q + 7 - 5) _).set (q + 7 - 6) _).set (q + 7 - 7) _ = _
    rw [show q + 7 - 0 = q + 7 by omega, show q + 7 - 1 = q + 6 by omega, show q + 7 - 2 = q + 5 by omega, show q + 7 - 3 = q + 4 by omega, show q + 7 - 4 = q + 3 by omega, show q + 7 - 5 = q + 2 by omega, show q + 7 - 6 = q + 1 by omega, show q + 7 - 7 = q + 0 by omega, Nat.div_one]
  rw [e]
  rw [set_at P q _ 7 _ h, set_at P q _ 6 _ h, set_at P q _ 5 _ h, set_at P q _ 4 _ h, set_at P q _ 3 _ h, set_at P q _ 2 _ h, set_at P q _ 1 _ h, set_at P q _ 0 _ h]
  rfl
theorem cells8_set (l : List UInt8) (i : Nat) (c : UInt8) : cells8 (l.set i c) = (cells8 l).set i (.int .u8 c.toNat) := by
  simp [cells8, List.map_set]
theorem cells8_rep (m : Nat) : cells8 (List.replicate m 0) = List.replicate m (.int .u8 0) := by rw [cells8, List.map_replicate]; rfl
theorem cells8_app (a b : List UInt8) : cells8 (a ++ b) = cells8 a ++ cells8 b := by simp [cells8]
theorem byte_of (m j : Nat) (v : Int) (h : v = ((m / 2 ^ (8 * j) : Nat) : Int) % 256) : v = ((UInt8.ofNat (m / 2 ^ (8 * j))).toNat : Int) := by
  rw [h]; simp

/-- What follows the whole blocks. -/
def tailOf (l : List UInt8) (size : Nat) : List UInt8 := l ++ (0x80 :: (List.replicate ((119 - l.length % 64) % 64) 0 ++ be64 (8 * size)))
def endOf (n : Nat) : Nat := if 55 < n then 128 else 64
theorem tail_len (l : List UInt8) (size : Nat) (h : l.length < 64) : (tailOf l size).length = endOf l.length := by
  simp [tailOf, endOf, be64]; split <;> omega
theorem tail_lay (l : List UInt8) (size : Nat) (h : l.length < 64) : (lay (endOf l.length - 8) (8 * size) 8 (l ++ (0x80 :: List.replicate (127 - l.length) 0))).take (endOf l.length) = tailOf l size := by
  have e : l ++ (0x80 :: List.replicate (127 - l.length) 0) = (l ++ (0x80 :: List.replicate ((119 - l.length % 64) % 64) 0)) ++ (0 :: 0 :: 0 :: 0 :: 0 :: 0 :: 0 :: 0 :: List.replicate (128 - endOf l.length) 0) := by
    have : 127 - l.length = (119 - l.length % 64) % 64 + (8 + (128 - endOf l.length)) := by unfold endOf; split <;> omega
    rw [this, ← List.replicate_append_replicate, ← List.replicate_append_replicate]
    simp [List.replicate]
  rw [e, lay_is]
  · rw [← List.append_assoc, List.take_left' (by simp [be64, endOf]; split <;> omega)]
    simp [tailOf]
  · simp [endOf]; split <;> omega

theorem bytes_take {W : World} {g E : Nat} {L t : List UInt8} (h : Arr W g (cells8 L)) (ht : t = L.take E) : BytesIn W g 0 t := fun i hi => by
  subst ht
  have hl : i < L.length := by rw [List.length_take] at hi; omega
  rw [Nat.zero_add, h.cell (i := i) (v := .int .u8 L[i].toNat) (by simp [cells8, List.getElem?_eq_getElem hl]), List.getElem_take]
theorem copy_any (W : World) (g : Nat) (v : Value) (l : List UInt8) (hA : Arr W g (cells8 (List.replicate 128 0))) (hv : BytesAt W g v l) (hn : l.length < 64) :
    ∃ W1, (Builtin.copy_ #[34, 34] 3 #[.slice (some ⟨g, 0, none⟩) 128 128, v]).run Tryd.prog W = .ok (goInt l.length) W1 ∧ Arr W1 g (cells8 (l ++ List.replicate (128 - l.length) 0)) ∧ Below g W W1 := by
  obtain ⟨a, cap', rfl, hc, hm, h⟩ := hv
  have hs : (Tryd.prog.info? 5).map (·.size) = some 1 := by kernel_rfl
  rcases h with rfl | ⟨db, off, rfl, hdb, hb⟩
  · exact ⟨W, run_copy_none W 34 34 3 5 (some ⟨g, 0, none⟩) a 128 128 0 cap' Tryd.underlying34 hs (by simp), by simpa using hA, Below.refl _ _⟩
  · refine ⟨W.setCells g 0 (cells8 l), ?_, ?_, below_setCells (Nat.le_refl _) _ _ _ (Below.refl _ _)⟩
    · have := run_copy_cells W 34 34 3 5 g 0 128 128 ⟨db, off, none⟩ l.length cap' (cells8 l) Tryd.underlying34 hs (by rw [cells8_len]; exact (Nat.min_eq_left (by omega)).symm)
        (fun j v hv => by
          have hj : j < l.length := by have := (List.getElem?_eq_some_iff.1 hv).1; simpa [cells8] using this
          rw [show (⟨db, off, none⟩ : Addr).add j = ⟨db, off + j, none⟩ from Addr.add_mid db off j, hb j hj]
          rw [← hv]; simp [cells8, List.getElem?_eq_getElem hj])
        (fun j hj => by simpa using (hA.there j (by rw [cells8_len] at hj ⊢; simp; omega)).1) (fun j hj => by simpa using (hA.there j (by rw [cells8_len] at hj ⊢; simp; omega)).2) (one_cells8 l)
      rwa [cells8_len] at this
    · have hl : ∀ j, j < (cells8 l).length → (W.cell? ⟨g, 0 + j, none⟩).isSome = true := fun j hj => (hA.there j (by rw [cells8_len] at hj ⊢; simp; omega)).1
      refine ⟨fun j v hv => ?_, fun j hj => ⟨?_, ?_⟩⟩
      · by_cases hj : j < l.length
        · rw [World.cell?_setCells_in g (cells8 l) 0 W hl j (by rw [cells8_len]; exact hj)]
          rw [← hv]; simp [cells8, List.getElem?_append, hj]
        · rw [World.cell?_setCells_out g (cells8 l) 0 W _ (fun _ _ => .inr (by rw [cells8_len]; simp; omega))]
          have hj2 : j < 128 := by have := (List.getElem?_eq_some_iff.1 hv).1; simp [cells8] at this; omega
          refine hA.at_ j v ?_
          have e1 : (cells8 (List.replicate 128 0))[j]? = some (.int .u8 0) := by rw [cells8_rep, List.getElem?_replicate, if_pos hj2]
          have e2 : (cells8 (l ++ List.replicate (128 - l.length) 0))[j]? = some (.int .u8 0) := by
            rw [cells8_app, List.getElem?_append_right (by rw [cells8_len]; omega), cells8_rep, List.getElem?_replicate, if_pos (by rw [cells8_len]; omega)]
          rw [e1, ← hv, e2]
      · by_cases hjl : j < l.length
        · rw [World.cell?_setCells_in g (cells8 l) 0 W hl j (by rw [cells8_len]; exact hjl)]; rfl
        · rw [World.cell?_setCells_out g (cells8 l) 0 W _ (fun _ _ => .inr (by rw [cells8_len]; simp; omega))]
          exact (hA.there j (by rw [cells8_len] at hj ⊢; simp at hj ⊢; omega)).1
      · rw [World.frozen?_setCells]
        exact (hA.there j (by rw [cells8_len] at hj ⊢; simp at hj ⊢; omega)).2

set_option maxRecDepth 100000 in
set_option maxHeartbeats 4000000 in
theorem ending_any (w : World) (v : Value) (l : List UInt8) (size : Nat) (hv : BytesAt w w.heap.size v l) (hn : l.length < 64) (hsz : size < 1000000000000) :
    Calls Tryd.prog 60 #[v, .int .i64 size] w fun e w' => ∃ g, e = .returned (.slice (some ⟨g, 0, none⟩) (endOf l.length) 128) ∧ w.heap.size ≤ g ∧ g < w'.heap.size ∧ BytesIn w' g 0 (tailOf l size) ∧ Below w.heap.size w w' := by
  have HV := Lib.hid hv
  obtain ⟨a, cap, rfl, hc, hm, h⟩ := hv
  clear h
  have hcp := fun (W : World) (hB : Below w.heap.size w W) (hA : Arr W w.heap.size (cells8 (List.replicate 128 0))) => copy_any W w.heap.size _ l hA (HV.out.below hB) hn
  have HCP := Lib.hid hcp
  clear hcp
  unfold maxLen at hm
  have i1 : IntKind.i64.wrap ((l.length : Int) + 1) = (l.length : Int) + 1 := by rw [IntKind.wrap_i64]; omega
  have i2 : IntKind.i64.wrap ((l.length : Int) + 1 + 8) = (l.length : Int) + 1 + 8 := by rw [IntKind.wrap_i64]; omega
  have b0 : (l.length : Int) < 128 := by omega
  have s0 : IntKind.u64.wrap (size : Int) = (size : Int) := by rw [IntKind.wrap_u64]; omega
  have s1 : IntKind.u64.wrap (8 * (size : Int)) = ((8 * size : Nat) : Int) := by rw [IntKind.wrap_u64]; omega
  obtain ⟨Z, hZ⟩ : ∃ Z : Array Value, Array.replicate 128 (.int .u8 0) = Z := ⟨_, rfl⟩
  have hz : ∀ W : World, (zeroValue 107).run Tryd.prog W = .ok (.agg Z) W := by rw [← hZ]; exact fun W => by kernel_rfl
  have hA0 : Arr (w.alloc (.cells Z 107)) w.heap.size (cells8 (List.replicate 128 0)) := by
    have e : Z.toList = cells8 (List.replicate 128 0) := by rw [← hZ, cells8_rep]; exact Array.toList_replicate
    rw [← e]; exact Arr.new w Z 107
  obtain ⟨W1, hcopy, hA1, hB1⟩ := HCP.out _ ((Below.refl w.heap.size w).alloc (Nat.le_refl _) _) hA0
  have hB : Below w.heap.size w W1 := ((Below.refl w.heap.size w).alloc (Nat.le_refl _) _).trans hB1
  simp only [goInt] at hcopy
  clear hA0 hB1 hZ HCP
  have hl1 : (cells8 (l ++ List.replicate (128 - l.length) 0)).length = 128 := by rw [cells8_len]; simp; omega
  have cn : W1.cell? ⟨w.heap.size, l.length, none⟩ = some (.int .u8 0) := hA1.cell (by
    rw [cells8_app, List.getElem?_append_right (by rw [cells8_len]; omega), cells8_rep, List.getElem?_replicate, if_pos (by rw [cells8_len]; omega)])
  have fn : W1.frozen? ⟨w.heap.size, l.length, none⟩ = false := hA1.frozen (by omega)
  obtain ⟨m, hm8⟩ : ∃ m, 8 * size = m := ⟨_, rfl⟩
  have hmu : m < 18446744073709551616 := by omega
  obtain ⟨c, hcc⟩ : ∃ c, l ++ (0x80 :: List.replicate (127 - l.length) 0) = c := ⟨_, rfl⟩
  have hcl : c.length = 128 := by rw [← hcc]; simp; omega
  have KEY0 : Hid (Below w.heap.size w (W1.setCell ⟨w.heap.size, l.length, none⟩ (.int .u8 128)) ∧ Arr (W1.setCell ⟨w.heap.size, l.length, none⟩ (.int .u8 128)) w.heap.size (cells8 c)) := by
    refine ⟨hB.setCell (p := ⟨w.heap.size, l.length, none⟩) (Nat.le_refl _) _, ?_⟩
    have e : cells8 c = (cells8 (l ++ List.replicate (128 - l.length) 0)).set l.length (.int .u8 128) := by
      rw [← hcc, cells8_app, cells8_app, List.set_append_right _ _ (by rw [cells8_len]; omega), cells8_len, Nat.sub_self, show 128 - l.length = (127 - l.length) + 1 by omega, List.replicate_succ]
      rfl
    rw [e]; exact hA1.set l.length _
  rw [hm8] at s1
  have HCC := Lib.hid hcc
  have HM8 := Lib.hid hm8
  clear hA1 hB hcc hl1 hm8
  by_cases hE : 55 < l.length
  · have hd : decide ((64 : Int) < (l.length : Int) + 1 + 8) = true := by simp; omega
    go_enter Tryd.func60, Tryd.ntmps60
    go_wp2
    go_loopw [21] (fun i wr => ∃ j : Nat, i = .int .i64 j ∧ j ≤ 8 ∧ Below w.heap.size w wr ∧ Arr wr w.heap.size (cells8 (lay 120 m j c))) (fun i _ => 8 - (intOf i).toNat)
    case atStart => exact ⟨0, rfl, by omega, (KEY0.out).1, (KEY0.out).2⟩
    case round =>
      obtain ⟨j, rfl, hj, hB, hA⟩ := hrel
      have hlt : j = 0 ∨ j = 1 ∨ j = 2 ∨ j = 3 ∨ j = 4 ∨ j = 5 ∨ j = 6 ∨ j = 7 ∨ j = 8 := by omega
      clear hj
      rcases hlt with rfl | rfl | rfl | rfl | rfl | rfl | rfl | rfl | rfl
      · have cj : wr.cell? ⟨w.heap.size, 127, none⟩ = some (.int .u8 ((lay 120 m 0 c)[127]'(by rw [lay_len, hcl]; omega)).toNat) := by
          have := hA.cell (i := 127) (v := _) (List.getElem?_eq_getElem (by rw [cells8_len, lay_len, hcl]; omega))
          simpa [cells8] using this
        have fj : wr.frozen? ⟨w.heap.size, 127, none⟩ = false := hA.frozen (by rw [cells8_len, lay_len, hcl]; omega)
        have key : ∀ v : Int, v = ((UInt8.ofNat (m / 2 ^ (8 * 0))).toNat : Int) → Below w.heap.size w (wr.setCell ⟨w.heap.size, 127, none⟩ (.int .u8 v)) ∧ Arr (wr.setCell ⟨w.heap.size, 127, none⟩ (.int .u8 v)) w.heap.size (cells8 (lay 120 m 1 c)) := by
          rintro _ rfl
          refine ⟨hB.setCell (p := ⟨w.heap.size, 127, none⟩) (Nat.le_refl _) _, ?_⟩
          rw [lay, cells8_set]
          exact hA.set 127 _
        have KEY := Lib.hid key
        obtain ⟨u, hu⟩ : ∃ u, ((lay 120 m 0 c)[127]'(by rw [lay_len, hcl]; omega)).toNat = u := ⟨_, rfl⟩
        rw [hu] at cj
        clear key hA hB hu
        go_wp2
        go_roundw
        case rel => exact ⟨1, rfl, by omega, (KEY.out _ (byte_of m 0 _ (by omega))).1, (KEY.out _ (byte_of m 0 _ (by omega))).2⟩
        case measure => simp [intOf]
      · have cj : wr.cell? ⟨w.heap.size, 126, none⟩ = some (.int .u8 ((lay 120 m 1 c)[126]'(by rw [lay_len, hcl]; omega)).toNat) := by
          have := hA.cell (i := 126) (v := _) (List.getElem?_eq_getElem (by rw [cells8_len, lay_len, hcl]; omega))
          simpa [cells8] using this
        have fj : wr.frozen? ⟨w.heap.size, 126, none⟩ = false := hA.frozen (by rw [cells8_len, lay_len, hcl]; omega)
        have key : ∀ v : Int, v = ((UInt8.ofNat (m / 2 ^ (8 * 1))).toNat : Int) → Below w.heap.size w (wr.setCell ⟨w.heap.size, 126, none⟩ (.int .u8 v)) ∧ Arr (wr.setCell ⟨w.heap.size, 126, none⟩ (.int .u8 v)) w.heap.size (cells8 (lay 120 m 2 c)) := by
          rintro _ rfl
          refine ⟨hB.setCell (p := ⟨w.heap.size, 126, none⟩) (Nat.le_refl _) _, ?_⟩
          rw [lay, cells8_set]
          exact hA.set 126 _
        have KEY := Lib.hid key
        obtain ⟨u, hu⟩ : ∃ u, ((lay 120 m 1 c)[126]'(by rw [lay_len, hcl]; omega)).toNat = u := ⟨_, rfl⟩
        rw [hu] at cj
        clear key hA hB hu
        go_wp2
        go_roundw
        case rel => exact ⟨2, rfl, by omega, (KEY.out _ (byte_of m 1 _ (by omega))).1, (KEY.out _ (byte_of m 1 _ (by omega))).2⟩
        case measure => simp [intOf]
      · have cj : wr.cell? ⟨w.heap.size, 125, none⟩ = some (.int .u8 ((lay 120 m 2 c)[125]'(by rw [lay_len, hcl]; omega)).toNat) := by
          have := hA.cell (i := 125) (v := _) (List.getElem?_eq_getElem (by rw [cells8_len, lay_len, hcl]; omega))
          simpa [cells8] using this
        have fj : wr.frozen? ⟨w.heap.size, 125, none⟩ = false := hA.frozen (by rw [cells8_len, lay_len, hcl]; omega)
        have key : ∀ v : Int, v = ((UInt8.ofNat (m / 2 ^ (8 * 2))).toNat : Int) → Below w.heap.size w (wr.setCell ⟨w.heap.size, 125, none⟩ (.int .u8 v)) ∧ Arr (wr.setCell ⟨w.heap.size, 125, none⟩ (.int .u8 v)) w.heap.size (cells8 (lay 120 m 3 c)) := by
          rintro _ rfl
          refine ⟨hB.setCell (p := ⟨w.heap.size, 125, none⟩) (Nat.le_refl _) _, ?_⟩
          rw [lay, cells8_set]
          exact hA.set 125 _
        have KEY := Lib.hid key
        obtain ⟨u, hu⟩ : ∃ u, ((lay 120 m 2 c)[125]'(by rw [lay_len, hcl]; omega)).toNat = u := ⟨_, rfl⟩
        rw [hu] at cj
        clear key hA hB hu
        go_wp2
        go_roundw
        case rel => exact ⟨3, rfl, by omega, (KEY.out _ (byte_of m 2 _ (by omega))).1, (KEY.out _ (byte_of m 2 _ (by omega))).2⟩
        case measure => simp [intOf]
      · have cj : wr.cell? ⟨w.heap.size, 124, none⟩ = some (.int .u8 ((lay 120 m 3 c)[124]'(by rw [lay_len, hcl]; omega)).toNat) := by
          have := hA.cell (i := 124) (v := _) (List.getElem?_eq_getElem (by rw [cells8_len, lay_len, hcl]; omega))
          simpa [cells8] using this
        have fj : wr.frozen? ⟨w.heap.size, 124, none⟩ = false := hA.frozen (by rw [cells8_len, lay_len, hcl]; omega)
        have key : ∀ v : Int, v = ((UInt8.ofNat (m / 2 ^ (8 * 3))).toNat : Int) → Below w.heap.size w (wr.setCell ⟨w.heap.size, 124, none⟩ (.int .u8 v)) ∧ Arr (wr.setCell ⟨w.heap.size, 124, none⟩ (.int .u8 v)) w.heap.size (cells8 (lay 120 m 4 c)) := by
          rintro _ rfl
          refine ⟨hB.setCell (p := ⟨w.heap.size, 124, none⟩) (Nat.le_refl _) _, ?_⟩
          rw [lay, cells8_set]
          exact hA.set 124 _
        have KEY := Lib.hid key
        obtain ⟨u, hu⟩ : ∃ u, ((lay 120 m 3 c)[124]'(by rw [lay_len, hcl]; omega)).toNat = u := ⟨_, rfl⟩
        rw [hu] at cj
        clear key hA hB hu
        go_wp2
        go_roundw
        case rel => exact ⟨4, rfl, by omega, (KEY.out _ (byte_of m 3 _ (by omega))).1, (KEY.out _ (byte_of m 3 _ (by omega))).2⟩
        case measure => simp [intOf]
      · have cj : wr.cell? ⟨w.heap.size, 123, none⟩ = some (.int .u8 ((lay 120 m 4 c)[123]'(by rw [lay_len, hcl]; omega)).toNat) := by
          have := hA.cell (i := 123) (v := _) (List.getElem?_eq_getElem (by rw [cells8_len, lay_len, hcl]; omega))
          simpa [cells8] using this
        have fj : wr.frozen? ⟨w.heap.size, 123, none⟩ = false := hA.frozen (by rw [cells8_len, lay_len, hcl]; omega)
        have key : ∀ v : Int, v = ((UInt8.ofNat (m / 2 ^ (8 * 4))).toNat : Int) → Below w.heap.size w (wr.setCell ⟨w.heap.size, 123, none⟩ (.int .u8 v)) ∧ Arr (wr.setCell ⟨w.heap.size, 123, none⟩ (.int .u8 v)) w.heap.size (cells8 (lay 120 m 5 c)) := by
          rintro _ rfl
          refine ⟨hB.setCell (p := ⟨w.heap.size, 123, none⟩) (Nat.le_refl _) _, ?_⟩
          rw [lay, cells8_set]
          exact hA.set 123 _
        have KEY := Lib.hid key
        obtain ⟨u, hu⟩ : ∃ u, ((lay 120 m 4 c)[123]'(by rw [lay_len, hcl]; omega)).toNat = u := ⟨_, rfl⟩
        rw [hu] at cj
        clear key hA hB hu
        go_wp2
        go_roundw
        case rel => exact ⟨5, rfl, by omega, (KEY.out _ (byte_of m 4 _ (by omega))).1, (KEY.out _ (byte_of m 4 _ (by omega))).2⟩
        case measure => simp [intOf]
      · have cj : wr.cell? ⟨w.heap.size, 122, none⟩ = some (.int .u8 ((lay 120 m 5 c)[122]'(by rw [lay_len, hcl]; omega)).toNat) := by
          have := hA.cell (i := 122) (v := _) (List.getElem?_eq_getElem (by rw [cells8_len, lay_len, hcl]; omega))
          simpa [cells8] using this
        have fj : wr.frozen? ⟨w.heap.size, 122, none⟩ = false := hA.frozen (by rw [cells8_len, lay_len, hcl]; omega)
        have key : ∀ v : Int, v = ((UInt8.ofNat (m / 2 ^ (8 * 5))).toNat : Int) → Below w.heap.size w (wr.setCell ⟨w.heap.size, 122, none⟩ (.int .u8 v)) ∧ Arr (wr.setCell ⟨w.heap.size, 122, none⟩ (.int .u8 v)) w.heap.size (cells8 (lay 120 m 6 c)) := by
          rintro _ rfl
          refine ⟨hB.setCell (p := ⟨w.heap.size, 122, none⟩) (Nat.le_refl _) _, ?_⟩
          rw [lay, cells8_set]
          exact hA.set 122 _
        have KEY := Lib.hid key
        obtain ⟨u, hu⟩ : ∃ u, ((lay 120 m 5 c)[122]'(by rw [lay_len, hcl]; omega)).toNat = u := ⟨_, rfl⟩
        rw [hu] at cj
        clear key hA hB hu
        go_wp2
        go_roundw
        case rel => exact ⟨6, rfl, by omega, (KEY.out _ (byte_of m 5 _ (by omega))).1, (KEY.out _ (byte_of m 5 _ (by omega))).2⟩
        case measure => simp [intOf]
      · have cj : wr.cell? ⟨w.heap.size, 121, none⟩ = some (.int .u8 ((lay 120 m 6 c)[121]'(by rw [lay_len, hcl]; omega)).toNat) := by
          have := hA.cell (i := 121) (v := _) (List.getElem?_eq_getElem (by rw [cells8_len, lay_len, hcl]; omega))
          simpa [cells8] using this
        have fj : wr.frozen? ⟨w.heap.size, 121, none⟩ = false := hA.frozen (by rw [cells8_len, lay_len, hcl]; omega)
        have key : ∀ v : Int, v = ((UInt8.ofNat (m / 2 ^ (8 * 6))).toNat : Int) → Below w.heap.size w (wr.setCell ⟨w.heap.size, 121, none⟩ (.int .u8 v)) ∧ Arr (wr.setCell ⟨w.heap.size, 121, none⟩ (.int .u8 v)) w.heap.size (cells8 (lay 120 m 7 c)) := by
          rintro _ rfl
          refine ⟨hB.setCell (p := ⟨w.heap.size, 121, none⟩) (Nat.le_refl _) _, ?_⟩
          rw [lay, cells8_set]
          exact hA.set 121 _
        have KEY := Lib.hid key
        obtain ⟨u, hu⟩ : ∃ u, ((lay 120 m 6 c)[121]'(by rw [lay_len, hcl]; omega)).toNat = u := ⟨_, rfl⟩
        rw [hu] at cj
        clear key hA hB hu
        go_wp2
        go_roundw
        case rel => exact ⟨7, rfl, by omega, (KEY.out _ (byte_of m 6 _ (by omega))).1, (KEY.out _ (byte_of m 6 _ (by omega))).2⟩
        case measure => simp [intOf]
      · have cj : wr.cell? ⟨w.heap.size, 120, none⟩ = some (.int .u8 ((lay 120 m 7 c)[120]'(by rw [lay_len, hcl]; omega)).toNat) := by
          have := hA.cell (i := 120) (v := _) (List.getElem?_eq_getElem (by rw [cells8_len, lay_len, hcl]; omega))
          simpa [cells8] using this
        have fj : wr.frozen? ⟨w.heap.size, 120, none⟩ = false := hA.frozen (by rw [cells8_len, lay_len, hcl]; omega)
        have key : ∀ v : Int, v = ((UInt8.ofNat (m / 2 ^ (8 * 7))).toNat : Int) → Below w.heap.size w (wr.setCell ⟨w.heap.size, 120, none⟩ (.int .u8 v)) ∧ Arr (wr.setCell ⟨w.heap.size, 120, none⟩ (.int .u8 v)) w.heap.size (cells8 (lay 120 m 8 c)) := by
          rintro _ rfl
          refine ⟨hB.setCell (p := ⟨w.heap.size, 120, none⟩) (Nat.le_refl _) _, ?_⟩
          rw [lay, cells8_set]
          exact hA.set 120 _
        have KEY := Lib.hid key
        obtain ⟨u, hu⟩ : ∃ u, ((lay 120 m 7 c)[120]'(by rw [lay_len, hcl]; omega)).toNat = u := ⟨_, rfl⟩
        rw [hu] at cj
        clear key hA hB hu
        go_wp2
        go_roundw
        case rel => exact ⟨8, rfl, by omega, (KEY.out _ (byte_of m 7 _ (by omega))).1, (KEY.out _ (byte_of m 7 _ (by omega))).2⟩
        case measure => simp [intOf]
      · go_wp2
        go_ret
        have he : endOf l.length = 128 := if_pos hE
        refine ⟨w.heap.size, by rw [he]; rfl, Nat.le_refl _, hA.lt (by rw [cells8_len, lay_len, hcl]; omega), ?_, hB⟩
        have ht := tail_lay l size hn
        rw [HCC.out, HM8.out, he] at ht
        exact bytes_take hA ht.symm
  · have hd : decide ((64 : Int) < (l.length : Int) + 1 + 8) = false := by simp; omega
    go_enter Tryd.func60, Tryd.ntmps60
    go_wp2
    go_loopw [21] (fun i wr => ∃ j : Nat, i = .int .i64 j ∧ j ≤ 8 ∧ Below w.heap.size w wr ∧ Arr wr w.heap.size (cells8 (lay 56 m j c))) (fun i _ => 8 - (intOf i).toNat)
    case atStart => exact ⟨0, rfl, by omega, (KEY0.out).1, (KEY0.out).2⟩
    case round =>
      obtain ⟨j, rfl, hj, hB, hA⟩ := hrel
      have hlt : j = 0 ∨ j = 1 ∨ j = 2 ∨ j = 3 ∨ j = 4 ∨ j = 5 ∨ j = 6 ∨ j = 7 ∨ j = 8 := by omega
      clear hj
      rcases hlt with rfl | rfl | rfl | rfl | rfl | rfl | rfl | rfl | rfl
      · have cj : wr.cell? ⟨w.heap.size, 63, none⟩ = some (.int .u8 ((lay 56 m 0 c)[63]'(by rw [lay_len, hcl]; omega)).toNat) := by
          have := hA.cell (i := 63) (v := _) (List.getElem?_eq_getElem (by rw [cells8_len, lay_len, hcl]; omega))
          simpa [cells8] using this
        have fj : wr.frozen? ⟨w.heap.size, 63, none⟩ = false := hA.frozen (by rw [cells8_len, lay_len, hcl]; omega)
        have key : ∀ v : Int, v = ((UInt8.ofNat (m / 2 ^ (8 * 0))).toNat : Int) → Below w.heap.size w (wr.setCell ⟨w.heap.size, 63, none⟩ (.int .u8 v)) ∧ Arr (wr.setCell ⟨w.heap.size, 63, none⟩ (.int .u8 v)) w.heap.size (cells8 (lay 56 m 1 c)) := by
          rintro _ rfl
          refine ⟨hB.setCell (p := ⟨w.heap.size, 63, none⟩) (Nat.le_refl _) _, ?_⟩
          rw [lay, cells8_set]
          exact hA.set 63 _
        have KEY := Lib.hid key
        obtain ⟨u, hu⟩ : ∃ u, ((lay 56 m 0 c)[63]'(by rw [lay_len, hcl]; omega)).toNat = u := ⟨_, rfl⟩
        rw [hu] at cj
        clear key hA hB hu
        go_wp2
        go_roundw
        case rel => exact ⟨1, rfl, by omega, (KEY.out _ (byte_of m 0 _ (by omega))).1, (KEY.out _ (byte_of m 0 _ (by omega))).2⟩
        case measure => simp [intOf]
      · have cj : wr.cell? ⟨w.heap.size, 62, none⟩ = some (.int .u8 ((lay 56 m 1 c)[62]'(by rw [lay_len, hcl]; omega)).toNat) := by
          have := hA.cell (i := 62) (v := _) (List.getElem?_eq_getElem (by rw [cells8_len, lay_len, hcl]; omega))
          simpa [cells8] using this
        have fj : wr.frozen? ⟨w.heap.size, 62, none⟩ = false := hA.frozen (by rw [cells8_len, lay_len, hcl]; omega)
        have key : ∀ v : Int, v = ((UInt8.ofNat (m / 2 ^ (8 * 1))).toNat : Int) → Below w.heap.size w (wr.setCell ⟨w.heap.size, 62, none⟩ (.int .u8 v)) ∧ Arr (wr.setCell ⟨w.heap.size, 62, none⟩ (.int .u8 v)) w.heap.size (cells8 (lay 56 m 2 c)) := by
          rintro _ rfl
          refine ⟨hB.setCell (p := ⟨w.heap.size, 62, none⟩) (Nat.le_refl _) _, ?_⟩
          rw [lay, cells8_set]
          exact hA.set 62 _
        have KEY := Lib.hid key
        obtain ⟨u, hu⟩ : ∃ u, ((lay 56 m 1 c)[62]'(by rw [lay_len, hcl]; omega)).toNat = u := ⟨_, rfl⟩
        rw [hu] at cj
        clear key hA hB hu
        go_wp2
        go_roundw
        case rel => exact ⟨2, rfl, by omega, (KEY.out _ (byte_of m 1 _ (by omega))).1, (KEY.out _ (byte_of m 1 _ (by omega))).2⟩
        case measure => simp [intOf]
      · have cj : wr.cell? ⟨w.heap.size, 61, none⟩ = some (.int .u8 ((lay 56 m 2 c)[61]'(by rw [lay_len, hcl]; omega)).toNat) := by
          have := hA.cell (i := 61) (v := _) (List.getElem?_eq_getElem (by rw [cells8_len, lay_len, hcl]; omega))
          simpa [cells8] using this
        have fj : wr.frozen? ⟨w.heap.size, 61, none⟩ = false := hA.frozen (by rw [cells8_len, lay_len, hcl]; omega)
        have key : ∀ v : Int, v = ((UInt8.ofNat (m / 2 ^ (8 * 2))).toNat : Int) → Below w.heap.size w (wr.setCell ⟨w.heap.size, 61, none⟩ (.int .u8 v)) ∧ Arr (wr.setCell ⟨w.heap.size, 61, none⟩ (.int .u8 v)) w.heap.size (cells8 (lay 56 m 3 c)) := by
          rintro _ rfl
          refine ⟨hB.setCell (p := ⟨w.heap.size, 61, none⟩) (Nat.le_refl _) _, ?_⟩
          rw [lay, cells8_set]
          exact hA.set 61 _
        have KEY := Lib.hid key
        obtain ⟨u, hu⟩ : ∃ u, ((lay 56 m 2 c)[61]'(by rw [lay_len, hcl]; omega)).toNat = u := ⟨_, rfl⟩
        rw [hu] at cj
        clear key hA hB hu
        go_wp2
        go_roundw
        case rel => exact ⟨3, rfl, by omega, (KEY.out _ (byte_of m 2 _ (by omega))).1, (KEY.out _ (byte_of m 2 _ (by omega))).2⟩
        case measure => simp [intOf]
      · have cj : wr.cell? ⟨w.heap.size, 60, none⟩ = some (.int .u8 ((lay 56 m 3 c)[60]'(by rw [lay_len, hcl]; omega)).toNat) := by
          have := hA.cell (i := 60) (v := _) (List.getElem?_eq_getElem (by rw [cells8_len, lay_len, hcl]; omega))
          simpa [cells8] using this
        have fj : wr.frozen? ⟨w.heap.size, 60, none⟩ = false := hA.frozen (by rw [cells8_len, lay_len, hcl]; omega)
        have key : ∀ v : Int, v = ((UInt8.ofNat (m / 2 ^ (8 * 3))).toNat : Int) → Below w.heap.size w (wr.setCell ⟨w.heap.size, 60, none⟩ (.int .u8 v)) ∧ Arr (wr.setCell ⟨w.heap.size, 60, none⟩ (.int .u8 v)) w.heap.size (cells8 (lay 56 m 4 c)) := by
          rintro _ rfl
          refine ⟨hB.setCell (p := ⟨w.heap.size, 60, none⟩) (Nat.le_refl _) _, ?_⟩
          rw [lay, cells8_set]
          exact hA.set 60 _
        have KEY := Lib.hid key
        obtain ⟨u, hu⟩ : ∃ u, ((lay 56 m 3 c)[60]'(by rw [lay_len, hcl]; omega)).toNat = u := ⟨_, rfl⟩
        rw [hu] at cj
        clear key hA hB hu
        go_wp2
        go_roundw
        case rel => exact ⟨4, rfl, by omega, (KEY.out _ (byte_of m 3 _ (by omega))).1, (KEY.out _ (byte_of m 3 _ (by omega))).2⟩
        case measure => simp [intOf]
      · have cj : wr.cell? ⟨w.heap.size, 59, none⟩ = some (.int .u8 ((lay 56 m 4 c)[59]'(by rw [lay_len, hcl]; omega)).toNat) := by
          have := hA.cell (i := 59) (v := _) (List.getElem?_eq_getElem (by rw [cells8_len, lay_len, hcl]; omega))
          simpa [cells8] using this
        have fj : wr.frozen? ⟨w.heap.size, 59, none⟩ = false := hA.frozen (by rw [cells8_len, lay_len, hcl]; omega)
        have key : ∀ v : Int, v = ((UInt8.ofNat (m / 2 ^ (8 * 4))).toNat : Int) → Below w.heap.size w (wr.setCell ⟨w.heap.size, 59, none⟩ (.int .u8 v)) ∧ Arr (wr.setCell ⟨w.heap.size, 59, none⟩ (.int .u8 v)) w.heap.size (cells8 (lay 56 m 5 c)) := by
          rintro _ rfl
          refine ⟨hB.setCell (p := ⟨w.heap.size, 59, none⟩) (Nat.le_refl _) _, ?_⟩
          rw [lay, cells8_set]
          exact hA.set 59 _
        have KEY := Lib.hid key
        obtain ⟨u, hu⟩ : ∃ u, ((lay 56 m 4 c)[59]'(by rw [lay_len, hcl]; omega)).toNat = u := ⟨_, rfl⟩
        rw [hu] at cj
        clear key hA hB hu
        go_wp2
        go_roundw
        case rel => exact ⟨5, rfl, by omega, (KEY.out _ (byte_of m 4 _ (by omega))).1, (KEY.out _ (byte_of m 4 _ (by omega))).2⟩
        case measure => simp [intOf]
      · have cj : wr.cell? ⟨w.heap.size, 58, none⟩ = some (.int .u8 ((lay 56 m 5 c)[58]'(by rw [lay_len, hcl]; omega)).toNat) := by
          have := hA.cell (i := 58) (v := _) (List.getElem?_eq_getElem (by rw [cells8_len, lay_len, hcl]; omega))
          simpa [cells8] using this
        have fj : wr.frozen? ⟨w.heap.size, 58, none⟩ = false := hA.frozen (by rw [cells8_len, lay_len, hcl]; omega)
        have key : ∀ v : Int, v = ((UInt8.ofNat (m / 2 ^ (8 * 5))).toNat : Int) → Below w.heap.size w (wr.setCell ⟨w.heap.size, 58, none⟩ (.int .u8 v)) ∧ Arr (wr.setCell ⟨w.heap.size, 58, none⟩ (.int .u8 v)) w.heap.size (cells8 (lay 56 m 6 c)) := by
          rintro _ rfl
          refine ⟨hB.setCell (p := ⟨w.heap.size, 58, none⟩) (Nat.le_refl _) _, ?_⟩
          rw [lay, cells8_set]
          exact hA.set 58 _
        have KEY := Lib.hid key
        obtain ⟨u, hu⟩ : ∃ u, ((lay 56 m 5 c)[58]'(by rw [lay_len, hcl]; omega)).toNat = u := ⟨_, rfl⟩
        rw [hu] at cj
        clear key hA hB hu
        go_wp2
        go_roundw
        case rel => exact ⟨6, rfl, by omega, (KEY.out _ (byte_of m 5 _ (by omega))).1, (KEY.out _ (byte_of m 5 _ (by omega))).2⟩
        case measure => simp [intOf]
      · have cj : wr.cell? ⟨w.heap.size, 57, none⟩ = some (.int .u8 ((lay 56 m 6 c)[57]'(by rw [lay_len, hcl]; omega)).toNat) := by
          have := hA.cell (i := 57) (v := _) (List.getElem?_eq_getElem (by rw [cells8_len, lay_len, hcl]; omega))
          simpa [cells8] using this
        have fj : wr.frozen? ⟨w.heap.size, 57, none⟩ = false := hA.frozen (by rw [cells8_len, lay_len, hcl]; omega)
        have key : ∀ v : Int, v = ((UInt8.ofNat (m / 2 ^ (8 * 6))).toNat : Int) → Below w.heap.size w (wr.setCell ⟨w.heap.size, 57, none⟩ (.int .u8 v)) ∧ Arr (wr.setCell ⟨w.heap.size, 57, none⟩ (.int .u8 v)) w.heap.size (cells8 (lay 56 m 7 c)) := by
          rintro _ rfl
          refine ⟨hB.setCell (p := ⟨w.heap.size, 57, none⟩) (Nat.le_refl _) _, ?_⟩
          rw [lay, cells8_set]
          exact hA.set 57 _
        have KEY := Lib.hid key
        obtain ⟨u, hu⟩ : ∃ u, ((lay 56 m 6 c)[57]'(by rw [lay_len, hcl]; omega)).toNat = u := ⟨_, rfl⟩
        rw [hu] at cj
        clear key hA hB hu
        go_wp2
        go_roundw
        case rel => exact ⟨7, rfl, by omega, (KEY.out _ (byte_of m 6 _ (by omega))).1, (KEY.out _ (byte_of m 6 _ (by omega))).2⟩
        case measure => simp [intOf]
      · have cj : wr.cell? ⟨w.heap.size, 56, none⟩ = some (.int .u8 ((lay 56 m 7 c)[56]'(by rw [lay_len, hcl]; omega)).toNat) := by
          have := hA.cell (i := 56) (v := _) (List.getElem?_eq_getElem (by rw [cells8_len, lay_len, hcl]; omega))
          simpa [cells8] using this
        have fj : wr.frozen? ⟨w.heap.size, 56, none⟩ = false := hA.frozen (by rw [cells8_len, lay_len, hcl]; omega)
        have key : ∀ v : Int, v = ((UInt8.ofNat (m / 2 ^ (8 * 7))).toNat : Int) → Below w.heap.size w (wr.setCell ⟨w.heap.size, 56, none⟩ (.int .u8 v)) ∧ Arr (wr.setCell ⟨w.heap.size, 56, none⟩ (.int .u8 v)) w.heap.size (cells8 (lay 56 m 8 c)) := by
          rintro _ rfl
          refine ⟨hB.setCell (p := ⟨w.heap.size, 56, none⟩) (Nat.le_refl _) _, ?_⟩
          rw [lay, cells8_set]
          exact hA.set 56 _
        have KEY := Lib.hid key
        obtain ⟨u, hu⟩ : ∃ u, ((lay 56 m 7 c)[56]'(by rw [lay_len, hcl]; omega)).toNat = u := ⟨_, rfl⟩
        rw [hu] at cj
        clear key hA hB hu
        go_wp2
        go_roundw
        case rel => exact ⟨8, rfl, by omega, (KEY.out _ (byte_of m 7 _ (by omega))).1, (KEY.out _ (byte_of m 7 _ (by omega))).2⟩
        case measure => simp [intOf]
      · go_wp2
        go_ret
        have he : endOf l.length = 64 := if_neg hE
        refine ⟨w.heap.size, by rw [he]; rfl, Nat.le_refl _, hA.lt (by rw [cells8_len, lay_len, hcl]; omega), ?_, hB⟩
        have ht := tail_lay l size hn
        rw [HCC.out, HM8.out, he] at ht
        exact bytes_take hA ht.symm
end Go.Proofs.YtfmngeemhfpeiaaDoor
