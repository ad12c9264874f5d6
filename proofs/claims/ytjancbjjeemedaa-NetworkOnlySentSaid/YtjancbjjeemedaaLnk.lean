/- Pairs of parties, and their order. -/
import Derived.Test.YtjancbjjeemedaaVq
namespace Go.Proofs.Ytjancbjjeemedaa
open Go.RowKit

def lo2 (a b : Int) : Int := if a ≤ b then a else b
def hi2 (a b : Int) : Int := if a ≤ b then b else a
set_option maxRecDepth 100000 in
set_option maxHeartbeats 1000000 in
theorem link_any (w : World) (a b : Int) : Calls Try.prog 36 #[.int .i64 a, .int .i64 b] w fun e w' => e = .returned (.agg #[.int .i64 (lo2 a b), .int .i64 (hi2 a b)]) ∧ Below w.heap.size w w' := by
  unfold lo2 hi2
  rcases Int.lt_trichotomy a b with h | rfl | h
  · have hab : a ≤ b := by omega
    have hnb : ¬ b ≤ a := by omega
    rw [if_pos hab, if_pos hab]
    go_enter Try.func36, Try.ntmps36
    go_wp2
    refine bodyPost_ret (v := .agg #[.int .i64 a, .int .i64 b]) (by simp [results, Try.results36, go_sem]) rfl ⟨rfl, by go_grown⟩
  · rw [ite_self]
    go_enter Try.func36, Try.ntmps36
    go_wp2
    refine bodyPost_ret (v := .agg #[.int .i64 a, .int .i64 a]) (by simp [results, Try.results36, go_sem]) rfl ⟨rfl, by go_grown⟩
  · have hab : ¬ a ≤ b := by omega
    have hba : b ≤ a := by omega
    rw [if_neg hab, if_neg hab]
    go_enter Try.func36, Try.ntmps36
    go_wp2
    refine bodyPost_ret (v := .agg #[.int .i64 b, .int .i64 a]) (by simp [results, Try.results36, go_sem]) rfl ⟨rfl, by go_grown⟩

theorem nan_any (w : World) (a : Int) : Calls Try.prog 54 #[.int .i64 a] w fun e w' => e = .returned (.bool false) ∧ w' = w := by
  have e1 : (a != a) = false := by simp
  go_enter Try.func54, Try.ntmps54
  go_wp2
  go_ret
  exact ⟨by simp, rfl⟩
def cmp1 (a b : Int) : Int := if a < b then -1 else if b < a then 1 else 0
theorem cmp1_any (w : World) (a b : Int) : Calls Try.prog 52 #[.int .i64 a, .int .i64 b] w fun e w' => e = .returned (.int .i64 (cmp1 a b)) ∧ w' = w := by
  have HA := Lib.hid (nan_any w a)
  have HB := Lib.hid (nan_any w b)
  unfold cmp1
  by_cases h1 : a < b
  · rw [if_pos h1]
    have d1 : decide (a < b) = true := by simpa using h1
    go_enter Try.func52, Try.ntmps52
    go_wp2_with fail
    refine HA.out.mono ?_
    rintro e w ⟨rfl, rfl⟩
    go_wp2_with fail
    refine HB.out.mono ?_
    rintro e w ⟨rfl, rfl⟩
    go_wp2
    go_ret
    exact ⟨rfl, rfl⟩
  · rw [if_neg h1]
    have d1 : decide (a < b) = false := by simpa using h1
    by_cases h2 : b < a
    · rw [if_pos h2]
      have d2 : decide (b < a) = true := by simpa using h2
      go_enter Try.func52, Try.ntmps52
      go_wp2_with fail
      refine HA.out.mono ?_
      rintro e w ⟨rfl, rfl⟩
      go_wp2_with fail
      refine HB.out.mono ?_
      rintro e w ⟨rfl, rfl⟩
      go_wp2
      go_ret
      exact ⟨rfl, rfl⟩
    · rw [if_neg h2]
      have d2 : decide (b < a) = false := by simpa using h2
      go_enter Try.func52, Try.ntmps52
      go_wp2_with fail
      refine HA.out.mono ?_
      rintro e w ⟨rfl, rfl⟩
      go_wp2_with fail
      refine HB.out.mono ?_
      rintro e w ⟨rfl, rfl⟩
      go_wp2
      go_ret
      exact ⟨rfl, rfl⟩
/-- The order of pairs. -/
def cmp2 (x y : Int × Int) : Int := if cmp1 x.1 y.1 ≠ 0 then cmp1 x.1 y.1 else cmp1 x.2 y.2
theorem cmp1_zero {a b : Int} : cmp1 a b = 0 ↔ a = b := by unfold cmp1; split <;> (try split) <;> omega
set_option maxRecDepth 100000 in
set_option maxHeartbeats 2000000 in
theorem scmp_any (w : World) (x y : Int × Int) (b c : Nat) (h0 : w.cell? ⟨b, 0, none⟩ = some (.int .i64 x.1)) (h1 : w.cell? ⟨b, 1, none⟩ = some (.int .i64 x.2)) (k0 : w.cell? ⟨c, 0, none⟩ = some (.int .i64 y.1)) (k1 : w.cell? ⟨c, 1, none⟩ = some (.int .i64 y.2)) :
    Calls Try.prog 49 #[.slice (some ⟨b, 0, none⟩) 2 2, .slice (some ⟨c, 0, none⟩) 2 2] w fun e w' => e = .returned (.int .i64 (cmp2 x y)) ∧ w' = w := by
  obtain ⟨x0, x1⟩ := x
  obtain ⟨y0, y1⟩ := y
  unfold cmp2
  dsimp only at h0 h1 k0 k1 ⊢
  have hA := cmp1_any w x0 y0
  have hB := cmp1_any w x1 y1
  obtain ⟨p, hp⟩ : ∃ p, cmp1 x0 y0 = p := ⟨_, rfl⟩
  obtain ⟨q, hq⟩ : ∃ q, cmp1 x1 y1 = q := ⟨_, rfl⟩
  rw [hp] at hA ⊢
  rw [hq] at hB ⊢
  obtain ⟨r, hr⟩ : ∃ r, (if p ≠ 0 then p else q) = r := ⟨_, rfl⟩
  rw [hr]
  have HR := Lib.hid hr
  have HA := Lib.hid hA
  have HB := Lib.hid hB
  clear hA hB hp hq hr
  go_enter Try.func49, Try.ntmps49
  go_wp2_with fail
  go_loopw [11] (fun i wr => wr = w ∧ (i = .int .i64 0 ∨ (i = .int .i64 1 ∧ p = 0) ∨ (i = .int .i64 2 ∧ p = 0 ∧ q = 0))) (fun i _ => 2 - (intOf i).toNat)
  case atStart => exact ⟨rfl, .inl rfl⟩
  case round =>
    obtain ⟨rfl, rfl | ⟨rfl, rfl⟩ | ⟨rfl, rfl, rfl⟩⟩ := hrel
    · by_cases hp : p = 0
      · subst hp
        go_wp2_with fail
        refine HA.out.mono ?_
        rintro e w ⟨rfl, rfl⟩
        go_wp2_with fail
        simp [intOf]
      · have e1 : (p != 0) = true := by simpa using hp
        obtain rfl : p = r := by rw [← HR.out, if_pos hp]
        go_wp2_with fail
        refine HA.out.mono ?_
        rintro e w ⟨rfl, rfl⟩
        go_wp2
        go_ret
        exact ⟨rfl, rfl⟩
    · obtain rfl : q = r := by rw [← HR.out, if_neg (by simp)]
      by_cases hq : q = 0
      · subst hq
        go_wp2_with fail
        refine HB.out.mono ?_
        rintro e w ⟨rfl, rfl⟩
        go_wp2_with fail
        simp [intOf]
      · have e1 : (q != 0) = true := by simpa using hq
        go_wp2_with fail
        refine HB.out.mono ?_
        rintro e w ⟨rfl, rfl⟩
        go_wp2
        go_ret
        exact ⟨rfl, rfl⟩
    · obtain rfl : 0 = r := by rw [← HR.out]; rfl
      go_wp2
      go_ret
      exact ⟨by simp, rfl⟩
end Go.Proofs.Ytjancbjjeemedaa
