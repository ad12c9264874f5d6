/- Plain facts on numerals and encodings. -/
import Derived.Test.YtkecoohplpbgnaaForm
import Derived.Test.YtkecoohplpbgnaaCount
import Derived.Lib.BitFns
import Derived.Laws.BitsAllLaws
namespace Go.Proofs.Ytkecoohplpbgnaa
open Go.RowKit

/-- The unsigned form. -/
def zig (n : Int) : Int := if n < 0 then -2 * n - 1 else 2 * n

/-- The numeral of a number. -/
def num (u : Nat) : List UInt8 := if u < 128 then [UInt8.ofNat u] else UInt8.ofNat (u % 128 + 128) :: num (u / 128)
termination_by u
decreasing_by omega

theorem num_lt (u : Nat) (h : u < 128) : num u = [UInt8.ofNat u] := by unfold num; rw [if_pos h]
theorem num_ge (u : Nat) (h : ¬ u < 128) : num u = UInt8.ofNat (u % 128 + 128) :: num (u / 128) := by rw [num]; rw [if_neg h]

theorem num_pos (u : Nat) : 0 < (num u).length := by
  by_cases h : u < 128
  · rw [num_lt u h]; simp
  · rw [num_ge u h]; simp

theorem or_one_nat (u : Nat) : u ||| 1 = u / 2 * 2 + 1 := by
  apply Nat.eq_of_testBit_eq
  intro i
  cases i with
  | zero => simp [Nat.testBit_zero]
  | succ i =>
    rw [Nat.testBit_or, Nat.testBit_succ, Nat.testBit_succ, Nat.testBit_succ]
    have : (u / 2 * 2 + 1) / 2 = u / 2 := by omega
    rw [this]
    simp

theorem bitLen_or_one (y : Nat) (h : 1 ≤ y) (h2 : y < 18446744073709551616) : Lib.bitLen (y ||| 1) = Lib.bitLen y := by
  rw [or_one_nat]
  by_cases hy : y = 1
  · subst hy; rfl
  · rw [Lib.bitLen_shift 1 y (by omega) (by omega), Lib.bitLen_shift 1 (y / 2 * 2 + 1) (by omega) (by omega)]
    congr 2
    omega

theorem bitLen_small : ∀ n : Fin 128, (Lib.bitLen (n.val / 2 * 2 + 1) + 6) / 7 = 1 := by decide +kernel

theorem num_len : ∀ (u : Nat), u < 18446744073709551616 → (num u).length = (Lib.bitLen (u ||| 1) + 6) / 7 := by
  intro u
  induction u using Nat.strongRecOn with
  | _ u ih =>
    intro hu
    by_cases h : u < 128
    · rw [num_lt u h, or_one_nat]
      exact (bitLen_small ⟨u, h⟩).symm
    · rw [num_ge u h, List.length_cons, ih (u / 128) (by omega) (by omega), bitLen_or_one (u / 128) (by omega) (by omega)]
      have e := Lib.bitLen_shift 7 (u ||| 1) (by rw [or_one_nat]; omega) (by rw [or_one_nat]; omega)
      rw [e]
      have : (u ||| 1) / 2 ^ 7 = u / 128 := by rw [or_one_nat]; omega
      rw [this]; omega

theorem num_len_le : ∀ (k u : Nat), u < 128 ^ (k + 1) → (num u).length ≤ k + 1 := by
  intro k
  induction k with
  | zero => intro u hu; rw [num_lt u (by simpa using hu)]; simp
  | succ k ih =>
    intro u hu
    by_cases h : u < 128
    · rw [num_lt u h]; simp
    · rw [num_ge u h, List.length_cons]
      have := ih (u / 128) (by rw [Nat.div_lt_iff_lt_mul (by omega)]; rw [Nat.pow_succ] at hu; exact hu)
      omega

theorem num_len64 (u : Nat) (h : u < 18446744073709551616) : (num u).length ≤ 10 := num_len_le 9 u (by omega)

theorem xor_max (m : Nat) (h : m < 18446744073709551616) : (18446744073709551615 : Nat) ^^^ m = 18446744073709551615 - m := by
  have e : (BitVec.allOnes 64 ^^^ BitVec.ofNat 64 m).toNat = (~~~ BitVec.ofNat 64 m).toNat := by rw [BitVec.allOnes_xor]
  rw [BitVec.toNat_xor, BitVec.toNat_not, BitVec.toNat_allOnes, BitVec.toNat_ofNat] at e
  have e2 : m % 2 ^ 64 = m := Nat.mod_eq_of_lt (by omega)
  rw [e2] at e
  have e3 : (2 : Nat) ^ 64 - 1 = 18446744073709551615 := by decide
  rw [e3] at e
  omega

theorem zig_range (n : Int) (h : In64 n) : 0 ≤ zig n ∧ zig n < 18446744073709551616 := by
  unfold In64 at h
  unfold zig
  split <;> omega

theorem zig_wrap (n : Int) (h : In64 n) (hn : n < 0) : bits .xor .u64 IntKind.u64.max (IntKind.u64.wrap (IntKind.u64.wrap n * 2)) = zig n := by
  have hz := zig_range n h
  unfold In64 at h
  have e1 : IntKind.u64.wrap n = n + 18446744073709551616 := by rw [IntKind.wrap_u64]; omega
  have e2 : IntKind.u64.wrap (IntKind.u64.wrap n * 2) = 2 * n + 18446744073709551616 := by rw [e1, IntKind.wrap_u64]; omega
  have e3 : IntKind.u64.max = 18446744073709551615 := rfl
  rw [e2, e3, u64_xor _ _ (by omega) (by omega) (by omega) (by omega)]
  have e4 : (18446744073709551615 : Int).toNat = 18446744073709551615 := rfl
  rw [e4, xor_max _ (by omega)]
  unfold zig
  rw [if_pos hn]
  omega

end Go.Proofs.Ytkecoohplpbgnaa
