/- The greatest power of two below n. -/
import Derived.Test.YtnddejhbncgchaaDoorShelf
import Derived.Test.YtnddejhbncgchaaDoorNode
namespace Go.Proofs.YtnddejhbncgchaaDoor
open Go.RowKit

theorem bitLenAux_pow (f : Nat) : ∀ x, 0 < x → x < 2 ^ f → 0 < Lib.bitLenAux f x ∧ 2 ^ (Lib.bitLenAux f x - 1) ≤ x ∧ x < 2 ^ Lib.bitLenAux f x := by
  induction f with
  | zero => intro x h1 h2; simp at h2; omega
  | succ f ih =>
    intro x h1 h2
    rw [Lib.bitLenAux, if_neg (by omega)]
    by_cases h : x / 2 = 0
    · have hx : x = 1 := by omega
      subst hx
      have : Lib.bitLenAux f (1 / 2) = 0 := by cases f <;> simp [Lib.bitLenAux]
      rw [this]; simp
    · obtain ⟨a, b, c⟩ := ih (x / 2) (by omega) (by rw [Nat.pow_succ] at h2; omega)
      obtain ⟨k, hk⟩ : ∃ k, Lib.bitLenAux f (x / 2) = k + 1 := ⟨_, (Nat.succ_pred_eq_of_pos a).symm⟩
      rw [hk] at b c ⊢
      simp only [Nat.add_sub_cancel, Nat.pow_succ] at b c ⊢
      rw [show 1 + (k + 1) - 1 = k + 1 by omega, show 1 + (k + 1) = k + 1 + 1 by omega]
      simp only [Nat.pow_succ] at b c ⊢
      omega
/-- How many of n > 1 elements the first part has. -/
def spl (n : Nat) : Nat := 2 ^ (Lib.bitLen (n - 1) - 1)
theorem spl_bound (n : Nat) (h1 : 1 < n) (h2 : n ≤ 1099511627776) : 0 < spl n ∧ spl n < n ∧ n ≤ 2 * spl n ∧ 0 < Lib.bitLen (n - 1) ∧ Lib.bitLen (n - 1) ≤ 40 := by
  obtain ⟨a, b, c⟩ := bitLenAux_pow 64 (n - 1) (by omega) (by omega)
  have hb : Lib.bitLen (n - 1) = Lib.bitLenAux 64 (n - 1) := rfl
  unfold spl
  rw [hb]
  obtain ⟨k, hk⟩ : ∃ k, Lib.bitLenAux 64 (n - 1) = k + 1 := ⟨_, (Nat.succ_pred_eq_of_pos a).symm⟩
  rw [hk] at b c ⊢
  simp only [Nat.add_sub_cancel, Nat.pow_succ] at b c ⊢
  have hpos : 0 < 2 ^ k := Nat.two_pow_pos k
  have hk40 : k < 40 := by
    rcases Nat.lt_or_ge k 40 with h | h
    · exact h
    · have := Nat.pow_le_pow_right (show 0 < 2 by omega) h
      omega
  omega

set_option maxRecDepth 100000 in
set_option maxHeartbeats 2000000 in
theorem blen_any (x : Nat) (hx : x ≤ 18446744073709551615) (w : World) : Calls Tryd.prog 54 #[.int .u64 x] w fun e w' => e = .returned (.int .i64 (Lib.bitLen x)) ∧ w' = w := by
  have hc := Go.Proofs.Tryd.bits_Len64 (x : Int) w (by omega) (by omega)
  rw [Int.toNat_natCast] at hc
  have HC := Lib.hid hc
  clear hc
  go_enter Tryd.func54, Tryd.ntmps54
  go_wp2_with fail
  refine HC.out.mono ?_
  rintro e w' ⟨rfl, rfl⟩
  go_wp2
  go_ret
  exact ⟨rfl, rfl⟩

set_option maxRecDepth 100000 in
set_option maxHeartbeats 2000000 in
theorem split_any (n : Nat) (h1 : 1 < n) (h2 : n ≤ 1099511627776) (w : World) : Calls Tryd.prog 36 #[.int .i64 n] w fun e w' => e = .returned (.int .i64 (spl n)) ∧ w' = w := by
  obtain ⟨b1, b2, b3, b4, b5⟩ := spl_bound n h1 h2
  have hc := blen_any (n - 1) (by omega) w
  have hsp : spl n = 2 ^ (Lib.bitLen (n - 1) - 1) := rfl
  obtain ⟨m, hm⟩ : ∃ m, Lib.bitLen (n - 1) = m := ⟨_, rfl⟩
  rw [hm] at hc b4 b5 hsp
  obtain ⟨k, rfl⟩ : ∃ k, m = k + 1 := ⟨m - 1, by omega⟩
  rw [Nat.add_sub_cancel] at hsp
  have q1 : IntKind.u64.wrap ((n : Int) - 1) = ((n - 1 : Nat) : Int) := by rw [IntKind.wrap_u64]; omega
  have HC := Lib.hid hc
  have HSP := Lib.hid hsp
  have hb2 : spl n < 1099511627776 := by omega
  have HB2 := Lib.hid hb2
  clear hc hsp hm b1 b2 b3 b4 hb2
  go_enter Tryd.func36, Tryd.ntmps36
  go_wp2_with fail
  refine HC.out.mono ?_
  rintro e w' ⟨rfl, rfl⟩
  go_wp2
  go_ret
  refine ⟨ret_int ?_, rfl⟩
  have h := HB2.out
  rw [HSP.out] at h ⊢
  have e : (2 : Int) ^ k = ((2 ^ k : Nat) : Int) := by push_cast; rfl
  rw [e]
  obtain ⟨z, hz⟩ : ∃ z : Nat, 2 ^ k = z := ⟨_, rfl⟩
  rw [hz] at h ⊢
  unfold wrap64
  omega
end Go.Proofs.YtnddejhbncgchaaDoor
