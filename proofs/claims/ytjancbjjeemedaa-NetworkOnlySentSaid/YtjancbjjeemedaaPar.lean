/- Parties, packets that are valid, queues that are valid. -/
import Derived.Test.YtjancbjjeemedaaVal
namespace Go.Proofs.Ytjancbjjeemedaa
open Go.RowKit

theorem okPair_iff (a b : Int) : okPair a b = true ↔ a ≠ b ∧ 0 ≤ a ∧ 0 ≤ b ∧ a < 24 ∧ b < 24 := by unfold okPair; rw [decide_eq_true_eq]; omega
theorem okPair_no {a b : Int} (h : ¬ (a ≠ b ∧ 0 ≤ a ∧ 0 ≤ b ∧ a < 24 ∧ b < 24)) : okPair a b = false := by
  cases he : okPair a b
  · rfl
  · exact absurd ((okPair_iff a b).1 he) h

set_option maxRecDepth 100000 in
set_option maxHeartbeats 1000000 in
theorem par_any (w : World) (a b : Int) : Calls Try.prog 35 #[.int .i64 a, .int .i64 b] w fun e w' => e = .returned (.bool (okPair a b)) ∧ w' = w := by
  have hy := okPair_iff a b
  have hn := @okPair_no a b
  obtain ⟨r, hr⟩ : ∃ r, okPair a b = r := ⟨_, rfl⟩
  rw [hr] at hy hn ⊢
  clear hr
  by_cases h1 : a = b
  · subst h1
    obtain rfl := hn (by omega)
    have e1 : (a != a) = false := by simp
    clear hy hn
    go_enter Try.func35, Try.ntmps35
    go_wp2
    go_ret
    exact ⟨by simp, rfl⟩
  · have e1 : (a != b) = true := by simpa using h1
    by_cases hab : a ≤ b
    · skip
      by_cases h0 : 0 ≤ a
      · have d0 : decide (0 ≤ a) = true := by simpa using h0
        by_cases h24 : b < 24
        · have d2 : decide (b < 24) = true := by simpa using h24
          obtain rfl := hy.2 (by omega)
          clear hy hn
          go_enter Try.func35, Try.ntmps35
          go_wp2
          go_ret
          exact ⟨by simp, rfl⟩
        · have d2 : decide (b < 24) = false := by simpa using h24
          obtain rfl := hn (by omega)
          clear hy hn
          go_enter Try.func35, Try.ntmps35
          go_wp2
          go_ret
          exact ⟨by simp, rfl⟩
      · have d0 : decide (0 ≤ a) = false := by simpa using h0
        obtain rfl := hn (by omega)
        clear hy hn
        go_enter Try.func35, Try.ntmps35
        go_wp2
        go_ret
        exact ⟨by simp, rfl⟩
    · have hab : b < a := by omega
      by_cases h0 : 0 ≤ b
      · have d0 : decide (0 ≤ b) = true := by simpa using h0
        by_cases h24 : a < 24
        · have d2 : decide (a < 24) = true := by simpa using h24
          obtain rfl := hy.2 (by omega)
          clear hy hn
          go_enter Try.func35, Try.ntmps35
          go_wp2
          go_ret
          exact ⟨by simp, rfl⟩
        · have d2 : decide (a < 24) = false := by simpa using h24
          obtain rfl := hn (by omega)
          clear hy hn
          go_enter Try.func35, Try.ntmps35
          go_wp2
          go_ret
          exact ⟨by simp, rfl⟩
      · have d0 : decide (0 ≤ b) = false := by simpa using h0
        obtain rfl := hn (by omega)
        clear hy hn
        go_enter Try.func35, Try.ntmps35
        go_wp2
        go_ret
        exact ⟨by simp, rfl⟩
end Go.Proofs.Ytjancbjjeemedaa
