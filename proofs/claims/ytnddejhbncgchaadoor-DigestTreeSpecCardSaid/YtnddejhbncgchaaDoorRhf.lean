/- The reference's half and length. -/
import Derived.Test.YtnddejhbncgchaaDoorStp
namespace Go.Proofs.YtnddejhbncgchaaDoor
open Go.RowKit

set_option maxRecDepth 100000 in
set_option maxHeartbeats 2000000 in
theorem rhalf_any (y : Nat) (h1 : 1 < y) (hn : y ≤ 1099511627776) (w : World) : Calls Tryd.prog 38 #[.int .i64 y] w fun e w' => e = .returned (.int .i64 (spl y)) ∧ w' = w := by
  obtain ⟨b1, b2, b3, _⟩ := spl_bound y h1 hn
  have HEQ := Lib.hid (fun k j hk => spl_eq y k j hk h1 hn)
  clear b1 b2 b3
  obtain ⟨wo, hwo⟩ : ∃ wo : World, wo = w := ⟨_, rfl⟩
  have HWO := Lib.hid hwo
  clear hwo
  go_enter Tryd.func38, Tryd.ntmps38
  go_wp2
  go_loop [3] (fun c => ∃ (k j : Nat), c = .int .i64 k ∧ k = 2 ^ j ∧ k < y) (fun c => y - (intOf c).toNat)
  case atStart => exact ⟨1, 0, rfl, rfl, h1⟩
  case round =>
    obtain ⟨k, j, rfl, hkj, hky⟩ := hrel
    have HKJ := Lib.hid hkj
    have hk0 : 0 < k := by rw [hkj]; exact Nat.two_pow_pos j
    clear hkj
    by_cases h2 : 2 * k < y
    · have d2 : decide (2 * (k : Int) < (y : Int)) = true := by simp; omega
      have h2' : 2 * (k : Int) < (y : Int) := by omega
      go_wp2
      go_round
      case rel => exact ⟨2 * k, j + 1, by simp, by rw [Nat.pow_succ, ← HKJ.out]; omega, by omega⟩
      case measure => simp [intOf]; omega
    · have hsp : spl y = k := HEQ.out k j HKJ.out hky (by omega)
      have HS := Lib.hid hsp
      clear hsp
      have d2 : decide (2 * (k : Int) < (y : Int)) = false := by simp; omega
      have h2' : ¬ 2 * (k : Int) < (y : Int) := by omega
      go_wp2
      go_ret
      exact ⟨ret_int (by rw [HS.out]), by first | rfl | trivial⟩

set_option maxRecDepth 100000 in
set_option maxHeartbeats 2000000 in
theorem rlength_any : ∀ (f at_ n : Nat), n ≤ f → 0 < n → n ≤ 1099511627776 → at_ < n → ∀ w : World, Calls Tryd.prog 44 #[.int .i64 at_, .int .i64 n] w fun e w' => e = .returned (.int .i64 (psteps at_ n)) ∧ w' = w
  | 0, _, _, h, h0, _, _ => by omega
  | f + 1, at_, n, hf, h0, hn, ha => fun w => by
    have IH := Lib.hid (rlength_any f)
    have hle := psteps_le at_ n hn
    by_cases h1 : 1 < n
    · obtain ⟨b1, b2, b3, _⟩ := spl_bound n h1 hn
      have HSP := Lib.hid (rhalf_any n h1 hn)
      have HLT := Lib.hid (psteps_lt at_ n h1 hn)
      have HGE := Lib.hid (psteps_ge at_ n h1 hn)
      obtain ⟨q, hq⟩ : ∃ q, spl n = q := ⟨_, rfl⟩
      rw [hq] at HSP HLT HGE b1 b2 b3
      have d1 : decide ((n : Int) = 1) = false := by simp; omega
      have d1' : ¬ n = 1 := by omega
      clear hq
      by_cases hx : at_ < q
      · have d2 : decide ((at_ : Int) < (q : Int)) = true := by simp; omega
        have hle2 := psteps_le at_ q (by omega)
        go_enter Tryd.func44, Tryd.ntmps44
        go_wp2_with fail
        refine (HSP.out w).mono ?_
        rintro e w' ⟨rfl, rfl⟩
        go_wp2_with fail
        refine (IH.out at_ q (by omega) b1 (by omega) hx w').mono ?_
        rintro e w2 ⟨rfl, rfl⟩
        go_wp2
        go_ret
        exact ⟨ret_int (by rw [HLT.out hx]; omega), rfl⟩
      · have d2 : decide ((at_ : Int) < (q : Int)) = false := by simp; omega
        have e1 : (at_ : Int) - (q : Int) = ((at_ - q : Nat) : Int) := by omega
        have e2 : (n : Int) - (q : Int) = ((n - q : Nat) : Int) := by omega
        have hle2 := psteps_le (at_ - q) (n - q) (by omega)
        go_enter Tryd.func44, Tryd.ntmps44
        go_wp2_with fail
        refine (HSP.out w).mono ?_
        rintro e w' ⟨rfl, rfl⟩
        go_wp2_with fail
        refine (IH.out (at_ - q) (n - q) (by omega) (by omega) (by omega) (by omega) w').mono ?_
        rintro e w2 ⟨rfl, rfl⟩
        go_wp2
        go_ret
        exact ⟨ret_int (by rw [HGE.out hx]; omega), rfl⟩
    · have hy : n = 1 := by omega
      subst hy
      have hz2 := psteps_one at_ 1 (Nat.le_refl _)
      go_enter Tryd.func44, Tryd.ntmps44
      go_wp2
      go_ret
      exact ⟨ret_int (by rw [hz2]; rfl), rfl⟩
end Go.Proofs.YtnddejhbncgchaaDoor
