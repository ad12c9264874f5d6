/- Fonts: within, isWidth, isRightKern, isBefore. -/
import Derived.Test.YtljgcpfibamdpaaDoorFda
namespace Go.Proofs.YtljgcpfibamdpaaDoor
open Go.RowKit

theorem fwithin_any (w : World) (r a b : Int) : Calls Tryd.prog 77 #[.int .i64 r, .int .i64 a, .int .i64 b] w fun e w' => e = .returned (.bool (inW r a b)) ∧ w' = w := by
  by_cases h1 : a ≤ r
  · by_cases h2 : r ≤ b
    · rw [show inW r a b = true by simp [inW, h1, h2]]
      go_enter Tryd.func77, Tryd.ntmps77
      go_wp2
      go_ret
      exact ⟨rfl, rfl⟩
    · rw [show inW r a b = false by simp [inW, h2]]
      have d2 : decide (r ≤ b) = false := by simpa using h2
      go_enter Tryd.func77, Tryd.ntmps77
      go_wp2
      go_ret
      exact ⟨rfl, rfl⟩
  · rw [show inW r a b = false by simp [inW, h1]]
    have d1 : decide (a ≤ r) = false := by simpa using h1
    go_enter Tryd.func77, Tryd.ntmps77
    go_wp2
    go_ret
    exact ⟨rfl, rfl⟩
theorem fwidth_any (w : World) (r : Int) : Calls Tryd.prog 63 #[.int .i64 r] w fun e w' => e = .returned (.bool (isW r)) ∧ w' = w := by
  have H := Lib.hid (fun W => fwithin_any W r 0 4096)
  unfold isW
  obtain ⟨t, ht⟩ : ∃ t, inW r 0 4096 = t := ⟨_, rfl⟩
  simp only [ht] at H ⊢
  clear ht
  go_enter Tryd.func63, Tryd.ntmps63
  go_wp2_with fail
  refine (H.out _).mono ?_
  rintro e w1 ⟨rfl, rfl⟩
  go_wp2
  go_ret
  exact ⟨rfl, rfl⟩
def Tri.val (t : Tri) : Value := .agg #[.int .i64 t.a, .int .i64 t.b, .int .i64 t.c]
set_option maxRecDepth 100000 in
set_option maxHeartbeats 1000000 in
theorem rightKern_any (w : World) (a b c : Int) : Calls Tryd.prog 78 #[.agg #[.int .i64 a, .int .i64 b, .int .i64 c]] w fun e w' => e = .returned (.bool (okK1 ⟨a, b, c⟩)) ∧ Below w.heap.size w w' := by
  have H1 := Lib.hid (fun W => fwithin_any W a 0 1114111)
  have H2 := Lib.hid (fun W => fwithin_any W b 0 1114111)
  have H3 := Lib.hid (fun W => fwithin_any W c (-4096) 4096)
  rw [show okK1 ⟨a, b, c⟩ = (inW a 0 1114111 && inW b 0 1114111 && inW c (-4096) 4096) from rfl]
  obtain ⟨x, hx⟩ : ∃ t, inW a 0 1114111 = t := ⟨_, rfl⟩
  obtain ⟨y, hy⟩ : ∃ t, inW b 0 1114111 = t := ⟨_, rfl⟩
  obtain ⟨z, hz⟩ : ∃ t, inW c (-4096) 4096 = t := ⟨_, rfl⟩
  simp only [hx] at H1 ⊢
  simp only [hy] at H2 ⊢
  simp only [hz] at H3 ⊢
  clear hx hy hz
  cases x with
  | false =>
    go_enter Tryd.func78, Tryd.ntmps78
    go_wp2_with fail
    refine (H1.out _).mono ?_
    rintro e w1 ⟨rfl, rfl⟩
    go_wp2
    go_ret
    exact ⟨by simp, by go_grown⟩
  | true =>
    cases y with
    | false =>
      go_enter Tryd.func78, Tryd.ntmps78
      go_wp2_with fail
      refine (H1.out _).mono ?_
      rintro e w1 ⟨rfl, rfl⟩
      go_wp2_with fail
      refine (H2.out _).mono ?_
      rintro e w1 ⟨rfl, rfl⟩
      go_wp2
      go_ret
      exact ⟨by simp, by go_grown⟩
    | true =>
      go_enter Tryd.func78, Tryd.ntmps78
      go_wp2_with fail
      refine (H1.out _).mono ?_
      rintro e w1 ⟨rfl, rfl⟩
      go_wp2_with fail
      refine (H2.out _).mono ?_
      rintro e w1 ⟨rfl, rfl⟩
      go_wp2_with fail
      refine (H3.out _).mono ?_
      rintro e w1 ⟨rfl, rfl⟩
      go_wp2
      go_ret
      exact ⟨by simp, by go_grown⟩
set_option maxRecDepth 100000 in
set_option maxHeartbeats 1000000 in
theorem before_any (w : World) (a b c x y z : Int) : Calls Tryd.prog 79 #[.agg #[.int .i64 a, .int .i64 b, .int .i64 c], .agg #[.int .i64 x, .int .i64 y, .int .i64 z]] w fun e w' => e = .returned (.bool (ltK ⟨a, b, c⟩ ⟨x, y, z⟩)) ∧ Below w.heap.size w w' := by
  by_cases h1 : a < x
  · have d1 : decide (a < x) = true := by simpa using h1
    rw [show ltK ⟨a, b, c⟩ ⟨x, y, z⟩ = true by simp [ltK, h1]]
    go_enter Tryd.func79, Tryd.ntmps79
    go_wp2
    go_ret
    exact ⟨rfl, by go_grown⟩
  · have d1 : decide (a < x) = false := by simpa using h1
    by_cases h2 : a = x
    · subst h2
      rw [show ltK ⟨a, b, c⟩ ⟨a, y, z⟩ = decide (b < y) by simp [ltK]]
      obtain ⟨t, ht⟩ : ∃ t, decide (b < y) = t := ⟨_, rfl⟩
      rw [ht]
      have dd : decide (a < a) = false := by simp
      clear h1
      go_enter Tryd.func79, Tryd.ntmps79
      go_wp2
      go_ret
      exact ⟨by simp, by go_grown⟩
    · have d2 : (a == x) = false := by simpa using h2
      rw [show ltK ⟨a, b, c⟩ ⟨x, y, z⟩ = false by simp [ltK, h1, h2]]
      clear h1 h2
      go_enter Tryd.func79, Tryd.ntmps79
      go_wp2
      go_ret
      exact ⟨by simp, by go_grown⟩
end Go.Proofs.YtljgcpfibamdpaaDoor
