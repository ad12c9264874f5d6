/- merkle: the places of a way (isLeaf, other, alone). -/
import Derived.Test.YtfmngeemhfpeiaaDoorMF
namespace Go.Proofs.YtfmngeemhfpeiaaDoor
open Go.RowKit

theorem bits_xor_i64_nat (a b : Nat) (ha : a < 9223372036854775808) (hb : b < 9223372036854775808) :
    bits .xor .i64 (a : Int) (b : Int) = ((a ^^^ b : Nat) : Int) := by
  have hx : a ^^^ b < 2 ^ 63 := Nat.xor_lt_two_pow (by omega) (by omega)
  have h1 : (BitVec.ofInt 64 (a : Int)).toNat = a := by
    rw [BitVec.ofInt_natCast, BitVec.toNat_ofNat]; exact Nat.mod_eq_of_lt (by omega)
  have h2 : (BitVec.ofInt 64 (b : Int)).toNat = b := by
    rw [BitVec.ofInt_natCast, BitVec.toNat_ofNat]; exact Nat.mod_eq_of_lt (by omega)
  show IntKind.i64.wrap ((BitVec.ofInt 64 (a : Int) ^^^ BitVec.ofInt 64 (b : Int)).toNat : Int) = _
  rw [BitVec.toNat_xor, h1, h2, IntKind.wrap_i64]
  omega
/-- The place beside a place. -/
def oth (t : Nat) : Nat := t ^^^ 1
theorem oth_le (t : Nat) : oth t ≤ t + 1 ∧ t ≤ oth t + 1 ∧ oth t ≠ t := by
  unfold oth
  have h1 : t ^^^ 1 = 2 * (t / 2) + (1 - t % 2) := by
    refine Nat.eq_of_testBit_eq fun i => ?_
    rw [Nat.testBit_xor]
    cases i with
    | zero => rcases Nat.mod_two_eq_zero_or_one t with h | h <;> simp [Nat.testBit_zero, h, Nat.add_mod]
    | succ i =>
      rw [Nat.testBit_succ, Nat.testBit_succ, Nat.testBit_succ, show (2 * (t / 2) + (1 - t % 2)) / 2 = t / 2 by omega]
      simp
  omega
theorem oth_eq (t : Nat) : oth t = if t % 2 = 0 then t + 1 else t - 1 := by
  have h1 : t ^^^ 1 = 2 * (t / 2) + (1 - t % 2) := by
    refine Nat.eq_of_testBit_eq fun i => ?_
    rw [Nat.testBit_xor]
    cases i with
    | zero => rcases Nat.mod_two_eq_zero_or_one t with h | h <;> simp [Nat.testBit_zero, h, Nat.add_mod]
    | succ i =>
      rw [Nat.testBit_succ, Nat.testBit_succ, Nat.testBit_succ, show (2 * (t / 2) + (1 - t % 2)) / 2 = t / 2 by omega]
      simp
  unfold oth
  rw [h1]
  split <;> omega

set_option maxRecDepth 100000 in
theorem other_any (w : World) (t s : Nat) (ht : t < 1000000) :
    Calls Tryd.prog 46 #[.agg #[.int .i64 t, .int .i64 s]] w fun e w' => e = .returned (.int .i64 (oth t)) ∧ Below w.heap.size w w' := by
  have hx : bits .xor .i64 (t : Int) 1 = ((oth t : Nat) : Int) := bits_xor_i64_nat t 1 (by omega) (by omega)
  go_enter Tryd.func46, Tryd.ntmps46
  go_wp2
  go_returns
  exact ⟨rfl, by go_grown⟩

set_option maxRecDepth 100000 in
theorem isLeaf_any (w : World) (n i : Int) :
    Calls Tryd.prog 42 #[.int .i64 n, .int .i64 i] w fun e w' => e = .returned (.bool (decide (n ≤ 65536) && (decide (0 ≤ i) && decide (i < n)))) ∧ w' = w := by
  by_cases h1 : n ≤ 65536 <;> by_cases h2 : 0 ≤ i <;> by_cases h3 : i < n
  all_goals
    simp only [h1, h2, h3, decide_true, decide_false, Bool.and_true, Bool.and_false]
    have g1 := h1
    have g2 := h2
    have g3 := h3
    go_enter Tryd.func42, Tryd.ntmps42
    go_wp2
    go_returns
    simp_all
end Go.Proofs.YtfmngeemhfpeiaaDoor
