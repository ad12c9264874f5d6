/- The reference's classes of bytes. -/
import Derived.Test.YtdcdldjbdjochaaDoorNam
namespace Go.Proofs.YtdcdldjbdjochaaDoor
open Go.RowKit

theorem cls_1 (c : Nat) : (cls c == 1) = (decide (c = 32) || decide (c = 9) || decide (c = 10) || decide (c = 13)) := by
  unfold cls
  by_cases h : c = 32 ∨ c = 9 ∨ c = 10 ∨ c = 13
  · rw [if_pos h]; rcases h with rfl | rfl | rfl | rfl <;> rfl
  · rw [if_neg h]
    have : (decide (c = 32) || decide (c = 9) || decide (c = 10) || decide (c = 13)) = false := by simp; omega
    rw [this]
    split
    · rfl
    · split
      · rfl
      · split
        · rfl
        · split
          · rfl
          · split <;> rfl
theorem cls_2 (c : Nat) : (cls c == 2) = (decide (65 ≤ c ∧ c ≤ 90) || decide (97 ≤ c ∧ c ≤ 122)) := by
  by_cases h : (65 ≤ c ∧ c ≤ 90) ∨ (97 ≤ c ∧ c ≤ 122)
  · have e : cls c = 2 := by unfold cls; rw [if_neg (by omega), if_pos h]
    rw [e]
    symm
    simpa using h
  · have e : (decide (65 ≤ c ∧ c ≤ 90) || decide (97 ≤ c ∧ c ≤ 122)) = false := by simpa using h
    rw [e]
    have : cls c ≠ 2 := by
      unfold cls
      split
      · simp
      · skip
        split
        · simp
        · split
          · simp
          · split
            · simp
            · split <;> simp
    simpa using this
theorem cls_3 (c : Nat) : (cls c == 3) = decide (48 ≤ c ∧ c ≤ 57) := by
  by_cases h : 48 ≤ c ∧ c ≤ 57
  · have e : cls c = 3 := by unfold cls; rw [if_neg (by omega), if_neg (by omega), if_pos h]
    rw [e, decide_eq_true h]; rfl
  · rw [decide_eq_false h]
    have : cls c ≠ 3 := by
      unfold cls
      split
      · simp
      · split
        · simp
        · skip
          split
          · simp
          · split
            · simp
            · split <;> simp
    simpa using this
theorem cls_4 (c : Nat) : (cls c == 4) = decide (c = 95) := by
  by_cases h : c = 95
  · subst h; rfl
  · rw [decide_eq_false h]
    have : cls c ≠ 4 := by
      unfold cls
      split
      · simp
      · split
        · simp
        · split
          · simp
          · skip
            split
            · simp
            · split <;> simp
    simpa using this

theorem rspace_any (w : World) (c : Nat) : Calls Tryd.prog 21 #[.int .u8 (c : Nat)] w fun e w' => e = .returned (.bool (cls c == 1)) ∧ w' = w := by
  rw [cls_1]
  by_cases h1 : c = 32
  · subst h1; go_enter Tryd.func21, Tryd.ntmps21; go_wp2; go_ret; exact ⟨rfl, rfl⟩
  by_cases h2 : c = 9
  · subst h2; go_enter Tryd.func21, Tryd.ntmps21; go_wp2; go_ret; exact ⟨rfl, rfl⟩
  by_cases h3 : c = 10
  · subst h3; go_enter Tryd.func21, Tryd.ntmps21; go_wp2; go_ret; exact ⟨rfl, rfl⟩
  by_cases h4 : c = 13
  · subst h4; go_enter Tryd.func21, Tryd.ntmps21; go_wp2; go_ret; exact ⟨rfl, rfl⟩
  have d1 : ((c : Int) == 32) = false := by simp; omega
  have d2 : ((c : Int) == 9) = false := by simp; omega
  have d3 : ((c : Int) == 10) = false := by simp; omega
  have d4 : ((c : Int) == 13) = false := by simp; omega
  have e : (decide (c = 32) || decide (c = 9) || decide (c = 10) || decide (c = 13)) = false := by simp; omega
  rw [e]
  clear h1 h2 h3 h4 e
  go_enter Tryd.func21, Tryd.ntmps21
  go_wp2
  go_ret
  exact ⟨by simp, rfl⟩
theorem rletter_any (w : World) (c : Nat) : Calls Tryd.prog 25 #[.int .u8 (c : Nat)] w fun e w' => e = .returned (.bool (cls c == 2)) ∧ w' = w := by
  rw [cls_2]
  obtain ⟨r, hr⟩ : ∃ r, (decide (65 ≤ c ∧ c ≤ 90) || decide (97 ≤ c ∧ c ≤ 122)) = r := ⟨_, rfl⟩
  rw [hr]
  by_cases a1 : 97 ≤ c
  · have d1 : decide (97 ≤ (c : Int)) = true := by simp; omega
    by_cases a2 : c ≤ 122
    · have d2 : decide ((c : Int) ≤ 122) = true := by simp; omega
      have : r = true := by rw [← hr]; simp; omega
      subst this
      clear hr
      go_enter Tryd.func25, Tryd.ntmps25
      go_wp2
      go_ret
      exact ⟨by simp, rfl⟩
    · have d2 : decide ((c : Int) ≤ 122) = false := by simp; omega
      have d3 : decide (65 ≤ (c : Int)) = true := by simp; omega
      have d4 : decide ((c : Int) ≤ 90) = false := by simp; omega
      have : r = false := by rw [← hr]; simp; omega
      subst this
      clear hr
      go_enter Tryd.func25, Tryd.ntmps25
      go_wp2
      go_ret
      exact ⟨by simp, rfl⟩
  · have d1 : decide (97 ≤ (c : Int)) = false := by simp; omega
    by_cases a3 : 65 ≤ c
    · have d3 : decide (65 ≤ (c : Int)) = true := by simp; omega
      by_cases a4 : c ≤ 90
      · have d4 : decide ((c : Int) ≤ 90) = true := by simp; omega
        have : r = true := by rw [← hr]; simp; omega
        subst this
        clear hr
        go_enter Tryd.func25, Tryd.ntmps25
        go_wp2
        go_ret
        exact ⟨by simp, rfl⟩
      · have d4 : decide ((c : Int) ≤ 90) = false := by simp; omega
        have : r = false := by rw [← hr]; simp; omega
        subst this
        clear hr
        go_enter Tryd.func25, Tryd.ntmps25
        go_wp2
        go_ret
        exact ⟨by simp, rfl⟩
    · have d3 : decide (65 ≤ (c : Int)) = false := by simp; omega
      have : r = false := by rw [← hr]; simp; omega
      subst this
      clear hr
      go_enter Tryd.func25, Tryd.ntmps25
      go_wp2
      go_ret
      exact ⟨by simp, rfl⟩
theorem rfigure_any (w : World) (c : Nat) : Calls Tryd.prog 27 #[.int .u8 (c : Nat)] w fun e w' => e = .returned (.bool (cls c == 3)) ∧ w' = w := by
  rw [cls_3]
  obtain ⟨r, hr⟩ : ∃ r, decide (48 ≤ c ∧ c ≤ 57) = r := ⟨_, rfl⟩
  rw [hr]
  by_cases a1 : 48 ≤ c
  · have d1 : decide (48 ≤ (c : Int)) = true := by simp; omega
    by_cases a2 : c ≤ 57
    · have d2 : decide ((c : Int) ≤ 57) = true := by simp; omega
      have : r = true := by rw [← hr]; simp; omega
      subst this
      clear hr
      go_enter Tryd.func27, Tryd.ntmps27
      go_wp2
      go_ret
      exact ⟨by simp, rfl⟩
    · have d2 : decide ((c : Int) ≤ 57) = false := by simp; omega
      have : r = false := by rw [← hr]; simp; omega
      subst this
      clear hr
      go_enter Tryd.func27, Tryd.ntmps27
      go_wp2
      go_ret
      exact ⟨by simp, rfl⟩
  · have d1 : decide (48 ≤ (c : Int)) = false := by simp; omega
    have : r = false := by rw [← hr]; simp; omega
    subst this
    clear hr
    go_enter Tryd.func27, Tryd.ntmps27
    go_wp2
    go_ret
    exact ⟨by simp, rfl⟩
theorem rpart_any (w : World) (c : Nat) : Calls Tryd.prog 26 #[.int .u8 (c : Nat)] w fun e w' => e = .returned (.bool (isPart c)) ∧ w' = w := by
  have H1 := Lib.hid (rletter_any w c)
  have H2 := Lib.hid (rfigure_any w c)
  unfold isPart
  have h4 := cls_4 c
  by_cases a2 : cls c = 2
  · have e : (cls c == 2) = true := by simpa using a2
    rw [e] at H1 ⊢
    clear h4 H2 a2 e
    go_enter Tryd.func26, Tryd.ntmps26
    go_wp2_with fail
    refine H1.out.mono ?_
    rintro e w1 ⟨rfl, rfl⟩
    go_wp2
    go_ret
    exact ⟨by simp, rfl⟩
  · have e : (cls c == 2) = false := by simpa using a2
    rw [e] at H1 ⊢
    by_cases a3 : cls c = 3
    · have e3 : (cls c == 3) = true := by simpa using a3
      rw [e3] at H2 ⊢
      clear h4 a2 a3 e e3
      go_enter Tryd.func26, Tryd.ntmps26
      go_wp2_with fail
      refine H1.out.mono ?_
      rintro e w1 ⟨rfl, rfl⟩
      go_wp2_with fail
      refine H2.out.mono ?_
      rintro e w1 ⟨rfl, rfl⟩
      go_wp2
      go_ret
      exact ⟨by simp, rfl⟩
    · have e3 : (cls c == 3) = false := by simpa using a3
      rw [e3] at H2 ⊢
      rw [h4]
      have d : ((c : Int) == 95) = decide (c = 95) := by
        by_cases h : c = 95
        · subst h; rfl
        · rw [decide_eq_false h]; simp; omega
      obtain ⟨r, hr⟩ : ∃ r, decide (c = 95) = r := ⟨_, rfl⟩
      rw [hr] at d ⊢
      clear h4 a2 a3 e e3 hr
      go_enter Tryd.func26, Tryd.ntmps26
      go_wp2_with fail
      refine H1.out.mono ?_
      rintro e w1 ⟨rfl, rfl⟩
      go_wp2_with fail
      refine H2.out.mono ?_
      rintro e w1 ⟨rfl, rfl⟩
      go_wp2
      go_ret
      exact ⟨by simp, rfl⟩
end Go.Proofs.YtdcdldjbdjochaaDoor
