/- Kinds of code points. -/
import Derived.Test.YtilkhamlhbbmgaaDoorUtf
import Derived.Test.YtilkhamlhbbmgaaDoorProg
import Derived.WalkKit
import Derived.ProofKit
import Derived.Lib.Hide
namespace Go.Proofs.YtilkhamlhbbmgaaDoor
open Go.RowKit

def isSp (r : Int) : Bool := decide (r = 9 ∨ r = 10 ∨ r = 13 ∨ r = 32)
def isDg (r : Int) : Bool := decide (48 ≤ r ∧ r ≤ 57)
def isWs (r : Int) : Bool := decide (192 ≤ r ∧ r ≤ 591 ∧ r ≠ 215 ∧ r ≠ 247)
def isLf (r : Int) : Bool := decide ((65 ≤ r ∧ r ≤ 90) ∨ (97 ≤ r ∧ r ≤ 122) ∨ (192 ≤ r ∧ r ≤ 591 ∧ r ≠ 215 ∧ r ≠ 247) ∨ (880 ≤ r ∧ r ≤ 1279))
def isRt (r : Int) : Bool := decide (1424 ≤ r ∧ r ≤ 1983)
/-- The kind of a code point. -/
def knd (r : Int) : Int := if isSp r then 1 else if isDg r then 2 else if isLf r then 3 else if isRt r then 4 else 0
def inB (r a b : Int) : Bool := decide (a ≤ r ∧ r ≤ b)
theorem inB_t {r a b : Int} : inB r a b = true ↔ a ≤ r ∧ r ≤ b := by unfold inB; exact decide_eq_true_iff
theorem inB_f {r a b : Int} : inB r a b = false ↔ ¬ (a ≤ r ∧ r ≤ b) := by unfold inB; exact decide_eq_false_iff_not

theorem within_any (w : World) (r a b : Int) : Calls Tryd.prog 67 #[.int .i64 r, .int .i64 a, .int .i64 b] w fun e w' => e = .returned (.bool (inB r a b)) ∧ w' = w := by
  by_cases h1 : a ≤ r
  · by_cases h2 : r ≤ b
    · rw [inB_t.2 ⟨h1, h2⟩]
      go_enter Tryd.func67, Tryd.ntmps67
      go_wp2
      go_ret
      exact ⟨rfl, rfl⟩
    · rw [inB_f.2 (fun h => h2 h.2)]
      have d2 : decide (r ≤ b) = false := by simpa using h2
      go_enter Tryd.func67, Tryd.ntmps67
      go_wp2
      go_ret
      exact ⟨rfl, rfl⟩
  · rw [inB_f.2 (fun h => h1 h.1)]
    have d1 : decide (a ≤ r) = false := by simpa using h1
    go_enter Tryd.func67, Tryd.ntmps67
    go_wp2
    go_ret
    exact ⟨rfl, rfl⟩

theorem noRune_any (w : World) (r : Int) : Calls Tryd.prog 44 #[.int .i64 r] w fun e w' => e = .returned (.bool (!okPt r)) ∧ w' = w := by
  cases h1 : inB r 0 1114111 with
  | true =>
    cases h2 : inB r 55296 57343 with
    | true =>
      have e : okPt r = false := okPt_no.2 fun h => h.2.2 (inB_t.1 h2)
      rw [e]
      go_enter Tryd.func44, Tryd.ntmps44
      go_wp2_with (go_at_call 67; refine (within_any _ _ _ _).mono ?_; rintro e w' ⟨rfl, rfl⟩; (first | rw [h1] | rw [h2]))
      go_ret
      exact ⟨rfl, rfl⟩
    | false =>
      have e : okPt r = true := okPt_iff.2 ⟨(inB_t.1 h1).1, (inB_t.1 h1).2, inB_f.1 h2⟩
      rw [e]
      go_enter Tryd.func44, Tryd.ntmps44
      go_wp2_with (go_at_call 67; refine (within_any _ _ _ _).mono ?_; rintro e w' ⟨rfl, rfl⟩; (first | rw [h1] | rw [h2]))
      go_ret
      exact ⟨rfl, rfl⟩
  | false =>
    have e : okPt r = false := okPt_no.2 fun h => inB_f.1 h1 ⟨h.1, h.2.1⟩
    rw [e]
    go_enter Tryd.func44, Tryd.ntmps44
    go_wp2_with (go_at_call 67; refine (within_any _ _ _ _).mono ?_; rintro e w' ⟨rfl, rfl⟩; rw [h1])
    go_ret
    exact ⟨rfl, rfl⟩

theorem isSpace_any (w : World) (r : Int) : Calls Tryd.prog 51 #[.int .i64 r] w fun e w' => e = .returned (.bool (isSp r)) ∧ w' = w := by
  by_cases h1 : r = 9
  · subst h1
    go_enter Tryd.func51, Tryd.ntmps51
    go_wp2
    go_ret
    exact ⟨rfl, rfl⟩
  by_cases h2 : r = 10
  · subst h2
    go_enter Tryd.func51, Tryd.ntmps51
    go_wp2
    go_ret
    exact ⟨rfl, rfl⟩
  by_cases h3 : r = 13
  · subst h3
    go_enter Tryd.func51, Tryd.ntmps51
    go_wp2
    go_ret
    exact ⟨rfl, rfl⟩
  have d1 : (r == 9) = false := by simpa using h1
  have d2 : (r == 10) = false := by simpa using h2
  have d3 : (r == 13) = false := by simpa using h3
  by_cases h4 : r = 32
  · subst h4
    go_enter Tryd.func51, Tryd.ntmps51
    go_wp2
    go_ret
    exact ⟨rfl, rfl⟩
  have d4 : (r == 32) = false := by simpa using h4
  rw [show isSp r = false by simp [isSp]; omega]
  clear h1 h2 h3 h4
  go_enter Tryd.func51, Tryd.ntmps51
  go_wp2
  go_ret
  exact ⟨rfl, rfl⟩

theorem isDigit_any (w : World) (r : Int) : Calls Tryd.prog 77 #[.int .i64 r] w fun e w' => e = .returned (.bool (isDg r)) ∧ w' = w := by
  go_enter Tryd.func77, Tryd.ntmps77
  go_wp2_with (go_at_call 67; refine (within_any _ _ _ _).mono ?_; rintro e w' ⟨rfl, rfl⟩)
  go_ret
  exact ⟨rfl, rfl⟩
theorem isRight_any (w : World) (r : Int) : Calls Tryd.prog 79 #[.int .i64 r] w fun e w' => e = .returned (.bool (isRt r)) ∧ w' = w := by
  go_enter Tryd.func79, Tryd.ntmps79
  go_wp2_with (go_at_call 67; refine (within_any _ _ _ _).mono ?_; rintro e w' ⟨rfl, rfl⟩)
  go_ret
  exact ⟨rfl, rfl⟩

theorem isWestern_any (w : World) (r : Int) : Calls Tryd.prog 83 #[.int .i64 r] w fun e w' => e = .returned (.bool (isWs r)) ∧ w' = w := by
  cases h1 : inB r 192 591 with
  | false =>
    rw [show isWs r = false by have := inB_f.1 h1; unfold isWs; rw [decide_eq_false_iff_not]; omega]
    go_enter Tryd.func83, Tryd.ntmps83
    go_wp2_with (go_at_call 67; refine (within_any _ _ _ _).mono ?_; rintro e w' ⟨rfl, rfl⟩; rw [h1])
    go_ret
    exact ⟨rfl, rfl⟩
  | true =>
    by_cases h2 : r = 215
    · subst h2
      go_enter Tryd.func83, Tryd.ntmps83
      go_wp2_with (go_at_call 67; refine (within_any _ _ _ _).mono ?_; rintro e w' ⟨rfl, rfl⟩; rw [h1])
      go_ret
      exact ⟨rfl, rfl⟩
    by_cases h3 : r = 247
    · subst h3
      go_enter Tryd.func83, Tryd.ntmps83
      go_wp2_with (go_at_call 67; refine (within_any _ _ _ _).mono ?_; rintro e w' ⟨rfl, rfl⟩; rw [h1])
      go_ret
      exact ⟨rfl, rfl⟩
    rw [show isWs r = true by have := inB_t.1 h1; unfold isWs; rw [decide_eq_true_iff]; omega]
    have d2 : (r == 215) = false := by simpa using h2
    have d3 : (r == 247) = false := by simpa using h3
    have d2n : (r != 215) = true := by simpa using h2
    have d3n : (r != 247) = true := by simpa using h3
    clear h2 h3
    go_enter Tryd.func83, Tryd.ntmps83
    go_wp2_with (go_at_call 67; refine (within_any _ _ _ _).mono ?_; rintro e w' ⟨rfl, rfl⟩; rw [h1])
    go_ret
    exact ⟨rfl, rfl⟩

theorem isLeft_any (w : World) (r : Int) : Calls Tryd.prog 78 #[.int .i64 r] w fun e w' => e = .returned (.bool (isLf r)) ∧ w' = w := by
  have hL : isLf r = (inB r 65 90 || inB r 97 122 || isWs r || inB r 880 1279) := by
    rw [Bool.eq_iff_iff]; unfold isLf inB isWs; simp only [decide_eq_true_eq, Bool.or_eq_true]; omega
  rw [hL]
  cases h1 : inB r 65 90 <;> cases h2 : inB r 97 122 <;> cases h3 : isWs r <;> cases h4 : inB r 880 1279
  all_goals
    go_enter Tryd.func78, Tryd.ntmps78
    go_wp2_with (first
      | (go_at_call 67; refine (within_any _ _ _ _).mono ?_; rintro e w' ⟨rfl, rfl⟩; (first | rw [h1] | rw [h2] | rw [h4]))
      | (go_at_call 83; refine (isWestern_any _ _).mono ?_; rintro e w' ⟨rfl, rfl⟩; rw [h3]))
    go_ret
    exact ⟨rfl, rfl⟩

end Go.Proofs.YtilkhamlhbbmgaaDoor
