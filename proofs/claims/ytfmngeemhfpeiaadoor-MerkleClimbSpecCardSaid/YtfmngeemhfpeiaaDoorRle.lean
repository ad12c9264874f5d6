/- merkle's reference: Length. -/
import Derived.Test.YtfmngeemhfpeiaaDoorMlb
namespace Go.Proofs.YtfmngeemhfpeiaaDoor
open Go.RowKit

theorem mcnt_succ (i m k : Nat) : mcnt i m (k + 1) = mcnt i m k + (if alone (mpos i k) (msz m k) then 0 else 1) := rfl

set_option maxRecDepth 100000 in
set_option maxHeartbeats 4000000 in
theorem rlength_any (w : World) (N i : Nat) (hi : i < N) (hq : N ≤ 65536) :
    Calls Tryd.prog 54 #[.int .i64 (N : Int), .int .i64 (i : Int)] w fun e w' => e = .returned (.int .i64 (mlen i N : Nat)) ∧ w' = w := by
  have hm16 := mrows_le 16 N (by omega)
  go_enter Tryd.func54, Tryd.ntmps54
  go_wp2
  go_loopw [0, 1, 5] (fun s0 s1 s5 wr => ∃ k n t c : Nat, s0 = .int .i64 (n : Int) ∧ s1 = .int .i64 (t : Int) ∧ s5 = .int .i64 (c : Int) ∧ k ≤ mrows N ∧ 1 ≤ n ∧ n ≤ N ∧ t < n ∧ c ≤ k ∧ Hid (msz N k = n) ∧ Hid (mpos i k = t) ∧ Hid (mcnt i N k = c) ∧ w = wr) (fun s0 _ _ _ => (intOf s0).toNat)
  case atStart => exact ⟨0, N, i, 0, rfl, rfl, rfl, by omega, by omega, by omega, hi, by omega, Lib.hid rfl, Lib.hid rfl, Lib.hid rfl, rfl⟩
  case round =>
    obtain ⟨k, n, t, c, rfl, rfl, rfl, hkm, hn1, hnN, htn, hck, HMS, HMP, HMC, rfl⟩ := hrel
    have iwc : IntKind.i64.wrap ((c : Int) + 1) = (c : Int) + 1 := by rw [IntKind.wrap_i64]; omega
    have iwn : IntKind.i64.wrap ((n : Int) + 1) = (n : Int) + 1 := by rw [IntKind.wrap_i64]; omega
    have iwt : IntKind.i64.wrap ((t : Int) + 1) = (t : Int) + 1 := by rw [IntKind.wrap_i64]; omega
    have iw8 : IntKind.i64.wrap (((n : Int) + 1).tdiv 2) = (((n + 1) / 2 : Nat) : Int) := by rw [Int.tdiv_eq_ediv_of_nonneg (by omega), IntKind.wrap_i64]; omega
    have iw9 : IntKind.i64.wrap ((t : Int).tdiv 2) = ((t / 2 : Nat) : Int) := by rw [Int.tdiv_eq_ediv_of_nonneg (by omega), IntKind.wrap_i64]; omega
    by_cases hgt : 1 < n
    · have f1 : decide ((n : Int) > 1) = true := by simp; omega
      have f2 : decide ((1 : Int) < (n : Int)) = true := by simp; omega
      have f0 : decide (1 < n) = true := by simp; omega
      have hk2 := (mrows_iff k N).2 (by rw [HMS.out]; exact hgt)
      have hx1 : Hid (mpos i (k + 1) = t / 2) := Lib.hid (by show mpos i k / 2 = _; rw [HMP.out])
      have hx2 : Hid (msz N (k + 1) = (n + 1) / 2) := Lib.hid (by show (msz N k + 1) / 2 = _; rw [HMS.out])
      by_cases hodd : t % 2 = 1
      · have m1 : (t : Int).tmod 2 = 1 := by rw [Int.tmod_eq_emod_of_nonneg (by omega)]; omega
        have m4 : (t : Int) % 2 = 1 := by omega
        have iwm : IntKind.i64.wrap ((t : Int).tmod 2) = 1 := by rw [m1]; rfl
        have HC : Hid (mcnt i N (k + 1) = c + 1) := Lib.hid (by
          rw [mcnt_succ, HMC.out, HMS.out, HMP.out, show alone t n = false from by unfold alone; rw [oth_eq, if_neg (by omega)]; simp; omega]
          simp)
        go_wp2
        go_roundw
        case rel => exact ⟨k + 1, (n + 1) / 2, t / 2, c + 1, by simp, by simp, by simp, by omega, by omega, by omega, by omega, by omega, hx2, hx1, HC, trivial⟩
        case measure => simp [intOf]; omega
      have m1 : (t : Int).tmod 2 = 0 := by rw [Int.tmod_eq_emod_of_nonneg (by omega)]; omega
      have m4 : (t : Int) % 2 = 0 := by omega
      have iwm : IntKind.i64.wrap ((t : Int).tmod 2) = 0 := by rw [m1]; rfl
      by_cases hal : t + 1 < n
      · have f3 : decide ((t : Int) + 1 < (n : Int)) = true := by simp; omega
        have f4 : decide (t + 1 < n) = true := by simp; omega
        have HC : Hid (mcnt i N (k + 1) = c + 1) := Lib.hid (by
          rw [mcnt_succ, HMC.out, HMS.out, HMP.out, show alone t n = false from by unfold alone; rw [oth_eq, if_pos (by omega)]; simp; omega]
          simp)
        go_wp2
        go_roundw
        case rel => exact ⟨k + 1, (n + 1) / 2, t / 2, c + 1, by simp, by simp, by simp, by omega, by omega, by omega, by omega, by omega, hx2, hx1, HC, trivial⟩
        case measure => simp [intOf]; omega
      · have f3 : decide ((t : Int) + 1 < (n : Int)) = false := by simp; omega
        have f4 : decide (t + 1 < n) = false := by simp; omega
        have HC : Hid (mcnt i N (k + 1) = c) := Lib.hid (by
          rw [mcnt_succ, HMC.out, HMS.out, HMP.out, show alone t n = true from by unfold alone; rw [oth_eq, if_pos (by omega)]; simp; omega]
          simp)
        go_wp2
        go_roundw
        case rel => exact ⟨k + 1, (n + 1) / 2, t / 2, c, by simp, by simp, by simp, by omega, by omega, by omega, by omega, by omega, hx2, hx1, HC, trivial⟩
        case measure => simp [intOf]; omega
    · have f1 : decide ((n : Int) > 1) = false := by simp; omega
      have f2 : decide ((1 : Int) < (n : Int)) = false := by simp; omega
      have f0 : decide (1 < n) = false := by simp; omega
      have hk : k = mrows N := by
        have h := (mrows_iff k N).1
        rw [HMS.out] at h
        omega
      have HE : Hid (mlen i N = c) := Lib.hid (by unfold mlen; rw [← hk]; exact HMC.out)
      clear hk
      go_wp2
      go_returns
      exact ⟨by rw [HE.out]; rfl, rfl⟩
end Go.Proofs.YtfmngeemhfpeiaaDoor
