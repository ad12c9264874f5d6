/- SHA-256 over words of 32 bits, as a function of bytes; and how the model's operations on words read. No conditions. -/
import Derived.Test.YtnddejhbncgchaaDoorProg
import Derived.Laws.BitsAllLaws
namespace Go.Proofs.YtnddejhbncgchaaDoor

/-- To the right. -/
def ror (x : (BitVec 32)) (n : Nat) : (BitVec 32) := x >>> n ||| x <<< (32 - n)
def ks : List (BitVec 32) := [
0x428a2f98#32, 0x71374491#32, 0xb5c0fbcf#32, 0xe9b5dba5#32, 0x3956c25b#32, 0x59f111f1#32, 0x923f82a4#32, 0xab1c5ed5#32,
0xd807aa98#32, 0x12835b01#32, 0x243185be#32, 0x550c7dc3#32, 0x72be5d74#32, 0x80deb1fe#32, 0x9bdc06a7#32, 0xc19bf174#32,
0xe49b69c1#32, 0xefbe4786#32, 0x0fc19dc6#32, 0x240ca1cc#32, 0x2de92c6f#32, 0x4a7484aa#32, 0x5cb0a9dc#32, 0x76f988da#32,
0x983e5152#32, 0xa831c66d#32, 0xb00327c8#32, 0xbf597fc7#32, 0xc6e00bf3#32, 0xd5a79147#32, 0x06ca6351#32, 0x14292967#32,
0x27b70a85#32, 0x2e1b2138#32, 0x4d2c6dfc#32, 0x53380d13#32, 0x650a7354#32, 0x766a0abb#32, 0x81c2c92e#32, 0x92722c85#32,
0xa2bfe8a1#32, 0xa81a664b#32, 0xc24b8b70#32, 0xc76c51a3#32, 0xd192e819#32, 0xd6990624#32, 0xf40e3585#32, 0x106aa070#32,
0x19a4c116#32, 0x1e376c08#32, 0x2748774c#32, 0x34b0bcb5#32, 0x391c0cb3#32, 0x4ed8aa4a#32, 0x5b9cca4f#32, 0x682e6ff3#32,
0x748f82ee#32, 0x78a5636f#32, 0x84c87814#32, 0x8cc70208#32, 0x90befffa#32, 0xa4506ceb#32, 0xbef9a3f7#32, 0xc67178f2#32]
def b32 (x : UInt8) : (BitVec 32) := BitVec.ofNat 32 x.toNat
def word (l : List UInt8) (i : Nat) : (BitVec 32) :=
  b32 (l.getD i 0) <<< 24 ||| b32 (l.getD (i + 1) 0) <<< 16 ||| b32 (l.getD (i + 2) 0) <<< 8 ||| b32 (l.getD (i + 3) 0)
def ext (l : List (BitVec 32)) (t : Nat) : (BitVec 32) :=
  let x := l.getD (t - 15) 0
  let y := l.getD (t - 2) 0
  l.getD (t - 16) 0 + (ror x 7 ^^^ ror x 18 ^^^ x >>> 3) + l.getD (t - 7) 0 + (ror y 17 ^^^ ror y 19 ^^^ y >>> 10)
def sch (blk : List UInt8) : Nat → List (BitVec 32)
  | 0 => []
  | t + 1 => sch blk t ++ [if t < 16 then word blk (4 * t) else ext (sch blk t) t]
structure St where
  a : (BitVec 32)
  b : (BitVec 32)
  c : (BitVec 32)
  d : (BitVec 32)
  e : (BitVec 32)
  f : (BitVec 32)
  g : (BitVec 32)
  h : (BitVec 32)
def round (s : St) (k w : (BitVec 32)) : St :=
  let p := s.h + (ror s.e 6 ^^^ ror s.e 11 ^^^ ror s.e 25) + ((s.e &&& s.f) ^^^ (~~~s.e &&& s.g)) + k + w
  let q := (ror s.a 2 ^^^ ror s.a 13 ^^^ ror s.a 22) + ((s.a &&& s.b) ^^^ (s.a &&& s.c) ^^^ (s.b &&& s.c))
  ⟨p + q, s.a, s.b, s.c, s.d + p, s.e, s.f, s.g⟩
def rnds (w : List (BitVec 32)) (s : St) : Nat → St
  | 0 => s
  | t + 1 => round (rnds w s t) (ks.getD t 0) (w.getD t 0)
def St.add (s x : St) : St := ⟨s.a + x.a, s.b + x.b, s.c + x.c, s.d + x.d, s.e + x.e, s.f + x.f, s.g + x.g, s.h + x.h⟩
def press (s : St) (blk : List UInt8) : St := s.add (rnds (sch blk 64) s 64)
def s0 : St := ⟨0x6a09e667#32, 0xbb67ae85#32, 0x3c6ef372#32, 0xa54ff53a#32, 0x510e527f#32, 0x9b05688c#32, 0x1f83d9ab#32, 0x5be0cd19#32⟩
def be64 (m : Nat) : List UInt8 := [UInt8.ofNat (m / 2^56), UInt8.ofNat (m / 2^48), UInt8.ofNat (m / 2^40), UInt8.ofNat (m / 2^32), UInt8.ofNat (m / 2^24), UInt8.ofNat (m / 2^16), UInt8.ofNat (m / 2^8), UInt8.ofNat m]
def pad (b : List UInt8) : List UInt8 := b ++ (0x80 :: (List.replicate ((119 - b.length % 64) % 64) 0 ++ be64 (8 * b.length)))
def runs (s : St) (l : List UInt8) : Nat → St
  | 0 => s
  | n + 1 => runs (press s (l.take 64)) (l.drop 64) n
def St.list (s : St) : List (BitVec 32) := [s.a, s.b, s.c, s.d, s.e, s.f, s.g, s.h]
def outb (s : St) (i : Nat) : UInt8 := UInt8.ofNat ((s.list.getD (i / 4) 0) >>> (24 - 8 * (i % 4))).toNat
def sha (b : List UInt8) : List UInt8 := (List.range 32).map (outb (runs s0 (pad b) ((pad b).length / 64)))

theorem sha_len (b : List UInt8) : (sha b).length = 32 := by simp [sha]
set_option maxRecDepth 100000 in
theorem sha_abc : (sha [97, 98, 99]).take 4 = [0xba, 0x78, 0x16, 0xbf] := by decide +kernel
set_option maxRecDepth 100000 in
theorem sha_nil : (sha []).take 4 = [0xe3, 0xb0, 0xc4, 0x42] := by decide +kernel

/-! The model's operations on words. -/
theorem w_lt (x : (BitVec 32)) : x.toNat < 4294967296 := x.isLt
theorem w_wrap (x : (BitVec 32)) : IntKind.u32.wrap (x.toNat : Int) = (x.toNat : Int) := by
  have := x.isLt
  rw [IntKind.wrap_u32']; omega
theorem w_add (x y : (BitVec 32)) : IntKind.u32.wrap ((x.toNat : Int) + (y.toNat : Int)) = ((x + y).toNat : Int) := by
  rw [IntKind.wrap_u32', BitVec.toNat_add]; omega
theorem w_and (x y : (BitVec 32)) : bits .and .u32 (x.toNat : Int) (y.toNat : Int) = ((x &&& y).toNat : Int) := by
  rw [u32_and_nat _ _ x.isLt y.isLt, BitVec.toNat_and]
theorem w_or (x y : (BitVec 32)) : bits .or .u32 (x.toNat : Int) (y.toNat : Int) = ((x ||| y).toNat : Int) := by
  rw [u32_or_nat _ _ x.isLt y.isLt, BitVec.toNat_or]
theorem w_xor (x y : (BitVec 32)) : bits .xor .u32 (x.toNat : Int) (y.toNat : Int) = ((x ^^^ y).toNat : Int) := by
  rw [u32_xor_nat _ _ x.isLt y.isLt, BitVec.toNat_xor]
theorem w_not (x : (BitVec 32)) : bits .xor .u32 4294967295 (x.toNat : Int) = ((~~~x).toNat : Int) := by
  have h := w_xor (BitVec.allOnes 32) x
  rw [BitVec.allOnes_xor] at h
  exact h
theorem w_shr (x : (BitVec 32)) (n : Nat) : (x.toNat : Int) / ((2 ^ n : Nat) : Int) = ((x >>> n).toNat : Int) := by
  rw [BitVec.toNat_ushiftRight, Nat.shiftRight_eq_div_pow]; exact (Int.natCast_ediv _ _).symm
theorem w_shl (x : (BitVec 32)) (n : Nat) : IntKind.u32.wrap ((x.toNat : Int) * ((2 ^ n : Nat) : Int)) = ((x <<< n).toNat : Int) := by
  rw [IntKind.wrap_u32', BitVec.toNat_shiftLeft, Nat.shiftLeft_eq, Int.natCast_emod, Int.natCast_mul]; rfl
theorem w_shr3 (x : (BitVec 32)) : (x.toNat : Int) / 8 = ((x >>> 3).toNat : Int) := w_shr x 3
theorem w_shr10 (x : (BitVec 32)) : (x.toNat : Int) / 1024 = ((x >>> 10).toNat : Int) := w_shr x 10
theorem w_zero : ((0#32).toNat : Int) = 0 := rfl
theorem b32_toNat (c : UInt8) : ((b32 c).toNat : Int) = (c.toNat : Int) := by
  have := c.toNat_lt
  unfold b32
  rw [BitVec.toNat_ofNat, Nat.mod_eq_of_lt (by omega)]
end Go.Proofs.YtnddejhbncgchaaDoor
