/- How long a path is. -/
import Derived.Test.YtnddejhbncgchaaDoorSplit
namespace Go.Proofs.YtnddejhbncgchaaDoor
open Go.RowKit

/-- The steps of an index from the root of n elements (f bounds them). -/
def stepsF : Nat → Nat → Nat → Nat
  | 0, _, _ => 0
  | f + 1, at_, n => if n ≤ 1 then 0 else if at_ < spl n then stepsF f at_ (spl n) + 1 else stepsF f (at_ - spl n) (n - spl n) + 1
theorem stepsF_le : ∀ (f at_ n : Nat), n ≤ f → n ≤ 1099511627776 → stepsF f at_ n ≤ n
  | 0, _, _, _, _ => Nat.zero_le _
  | f + 1, at_, n, h, hn => by
    rw [stepsF]
    by_cases h1 : n ≤ 1
    · rw [if_pos h1]; omega
    · rw [if_neg h1]
      obtain ⟨a, b, _⟩ := spl_bound n (by omega) hn
      split
      · have := stepsF_le f at_ (spl n) (by omega) (by omega); omega
      · have := stepsF_le f (at_ - spl n) (n - spl n) (by omega) (by omega); omega
theorem stepsF_fuel : ∀ (f g at_ n : Nat), n ≤ f → n ≤ g → n ≤ 1099511627776 → stepsF f at_ n = stepsF g at_ n
  | 0, 0, _, _, _, _, _ => rfl
  | 0, g + 1, at_, n, h, _, _ => by rw [stepsF, stepsF, if_pos (by omega)]
  | f + 1, 0, at_, n, _, h, _ => by rw [stepsF, stepsF, if_pos (by omega)]
  | f + 1, g + 1, at_, n, h1, h2, hn => by
    rw [stepsF, stepsF]
    by_cases h : n ≤ 1
    · rw [if_pos h, if_pos h]
    · obtain ⟨a, b, _⟩ := spl_bound n (by omega) hn
      rw [if_neg h, if_neg h, stepsF_fuel f g at_ (spl n) (by omega) (by omega) (by omega), stepsF_fuel f g (at_ - spl n) (n - spl n) (by omega) (by omega) (by omega)]
def psteps (at_ n : Nat) : Nat := stepsF n at_ n
theorem psteps_one (at_ n : Nat) (h : n ≤ 1) : psteps at_ n = 0 := by
  unfold psteps; cases n with
  | zero => rfl
  | succ n => rw [stepsF, if_pos h]
theorem psteps_lt (at_ n : Nat) (h1 : 1 < n) (hn : n ≤ 1099511627776) (h : at_ < spl n) : psteps at_ n = psteps at_ (spl n) + 1 := by
  obtain ⟨a, b, _⟩ := spl_bound n h1 hn
  obtain ⟨k, rfl⟩ : ∃ k, n = k + 1 := ⟨n - 1, by omega⟩
  unfold psteps
  rw [stepsF, if_neg (by omega), if_pos h, stepsF_fuel k (spl (k + 1)) _ _ (by omega) (Nat.le_refl _) (by omega)]
theorem psteps_ge (at_ n : Nat) (h1 : 1 < n) (hn : n ≤ 1099511627776) (h : ¬ at_ < spl n) : psteps at_ n = psteps (at_ - spl n) (n - spl n) + 1 := by
  obtain ⟨a, b, _⟩ := spl_bound n h1 hn
  obtain ⟨k, rfl⟩ : ∃ k, n = k + 1 := ⟨n - 1, by omega⟩
  unfold psteps
  rw [stepsF, if_neg (by omega), if_neg h, stepsF_fuel k (k + 1 - spl (k + 1)) _ _ (by omega) (Nat.le_refl _) (by omega)]
theorem psteps_le (at_ n : Nat) (hn : n ≤ 1099511627776) : psteps at_ n ≤ n := stepsF_le n at_ n (Nat.le_refl _) hn

set_option maxRecDepth 100000 in
set_option maxHeartbeats 2000000 in
theorem plen_any (at_ n : Nat) (h0 : 0 < n) (hn : n ≤ 1099511627776) (ha : at_ < n) (w : World) : Calls Tryd.prog 42 #[.int .i64 at_, .int .i64 n] w fun e w' => e = .returned (.int .i64 (psteps at_ n)) ∧ w' = w := by
  go_enter Tryd.func42, Tryd.ntmps42
  go_wp2
  go_loopw [0, 1, 4] (fun a m k wr => wr = w ∧ ∃ (x y z : Nat), a = .int .i64 x ∧ m = .int .i64 y ∧ k = .int .i64 z ∧ x < y ∧ y ≤ n ∧ psteps at_ n = psteps x y + z) (fun _ m _ _ => (intOf m).toNat)
  case atStart => exact ⟨rfl, at_, n, 0, rfl, rfl, rfl, ha, Nat.le_refl _, rfl⟩
  case round =>
    obtain ⟨rfl, x, y, z, rfl, rfl, rfl, hxy, hyn, hp⟩ := hrel
    have HP := Lib.hid hp
    have hle := psteps_le at_ n hn
    have hz : z ≤ 1099511627776 := by omega
    clear hp hle
    by_cases h1 : 1 < y
    · obtain ⟨b1, b2, b3, _⟩ := spl_bound y h1 (by omega)
      have HSP := Lib.hid (split_any y h1 (by omega))
      have HLT := Lib.hid (psteps_lt x y h1 (by omega))
      have HGE := Lib.hid (psteps_ge x y h1 (by omega))
      obtain ⟨q, hq⟩ : ∃ q, spl y = q := ⟨_, rfl⟩
      rw [hq] at HSP HLT HGE b1 b2 b3
      have d1 : decide ((1 : Int) < (y : Int)) = true := by simp; omega
      clear hq
      by_cases hx : x < q
      · have d2 : decide ((x : Int) < (q : Int)) = true := by simp; omega
        go_wp2_with (first | (go_at_call 36; refine (HSP.out _).mono ?_; rintro e w' ⟨rfl, rfl⟩))
        go_roundw
        case rel => exact ⟨by simp, x, q, z + 1, rfl, rfl, by simp, hx, by omega, by rw [HP.out, HLT.out hx]; omega⟩
        case measure => simp [intOf]; omega
      · have d2 : decide ((x : Int) < (q : Int)) = false := by simp; omega
        have e1 : (x : Int) - (q : Int) = ((x - q : Nat) : Int) := by omega
        have e2 : (y : Int) - (q : Int) = ((y - q : Nat) : Int) := by omega
        go_wp2_with (first | (go_at_call 36; refine (HSP.out _).mono ?_; rintro e w' ⟨rfl, rfl⟩))
        go_roundw
        case rel => exact ⟨by simp, x - q, y - q, z + 1, by first | rfl | (congr 1), by first | rfl | (congr 1), by simp, by omega, by omega, by rw [HP.out, HGE.out hx]; omega⟩
        case measure => simp [intOf]; omega
    · have hy : y = 1 := by omega
      subst hy
      have hz2 : psteps at_ n = z := by rw [HP.out, psteps_one x 1 (Nat.le_refl _)]; omega
      go_wp2
      go_ret
      exact ⟨ret_int (by rw [hz2]), rfl⟩
end Go.Proofs.YtnddejhbncgchaaDoor
