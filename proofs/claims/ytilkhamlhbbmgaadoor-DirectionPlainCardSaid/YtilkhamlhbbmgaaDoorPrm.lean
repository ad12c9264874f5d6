/- Direction: the order turns around and back. -/
import Derived.Test.YtilkhamlhbbmgaaDoorRsh
namespace Go.Proofs.YtilkhamlhbbmgaaDoor
open Go.RowKit

theorem lo_spec (p : Nat → Bool) : ∀ i, lo p i ≤ i ∧ (∀ j, lo p i ≤ j → j < i → p j = true) ∧ (lo p i = 0 ∨ p (lo p i - 1) = false)
  | 0 => ⟨Nat.le_refl _, fun j a b => by omega, .inl rfl⟩
  | i + 1 => by
    unfold lo
    by_cases h : p i = true
    · rw [if_pos h]
      obtain ⟨h1, h2, h3⟩ := lo_spec p i
      refine ⟨by omega, fun j a b => ?_, h3⟩
      by_cases e : j = i
      · rw [e]; exact h
      · exact h2 j a (by omega)
    · rw [if_neg h]
      exact ⟨Nat.le_refl _, fun j a b => by omega, .inr (by rw [Nat.add_sub_cancel]; simpa using h)⟩
theorem run_in {p : Nat → Bool} {n i : Nat} (h1 : i < n) (hp : p i = true) : ∃ a b, lo p i = a ∧ hi p n i = b ∧ a ≤ i ∧ i < b ∧ b ≤ n ∧ ∀ j, a ≤ j → j < b → p j = true ∧ lo p j = a ∧ hi p n j = b := by
  obtain ⟨l1, l2, l3⟩ := lo_spec p i
  obtain ⟨u1, u2, u3, u4⟩ := up_spec p n (n - i) i rfl (by omega)
  have hh : hi p n i = up p (n - i) i := rfl
  rw [← hh] at u1 u2 u3 u4
  have hlt := (hi_lt h1 hp).1
  have hall : ∀ j, lo p i ≤ j → j < hi p n i → p j = true := fun j a b => by
    rcases Nat.lt_or_ge j i with h | h
    · exact l2 j a h
    · exact u3 j h b
  exact ⟨_, _, rfl, rfl, l1, hlt, u2, fun j a b => ⟨hall j a b, lo_eq a (fun q c d => hall q c (by omega)) l3, hi_eq (by omega) u2 (fun q c d => hall q (by omega) d) u4⟩⟩
/-- The place that a place is turned to. -/
def sg (m : Int) (s : List Int) (i : Nat) : Nat := if geB m s i then lo (geB m s) i + hi (geB m s) s.length i - 1 - i else i
theorem sg_run {m : Int} {s : List Int} {a b i : Nat} (h : ∀ j, a ≤ j → j < b → geB m s j = true ∧ lo (geB m s) j = a ∧ hi (geB m s) s.length j = b) (h1 : a ≤ i) (h2 : i < b) : sg m s i = a + b - 1 - i := by
  obtain ⟨p1, p2, p3⟩ := h i h1 h2
  unfold sg
  rw [p1, if_pos rfl, p2, p3]
theorem sg_off {m : Int} {s : List Int} {i : Nat} (h : geB m s i = false) : sg m s i = i := by unfold sg; rw [h]; rfl
theorem sg_in (m : Int) (s : List Int) (i : Nat) (hi1 : i < s.length) : sg m s i < s.length ∧ sg m s (sg m s i) = i := by
  by_cases hp : geB m s i = true
  · obtain ⟨a, b, e1, e2, h1, h2, h3, h4⟩ := run_in hi1 hp
    have e := sg_run h4 h1 h2
    rw [e]
    exact ⟨by omega, by rw [sg_run h4 (by omega) (by omega)]; omega⟩
  · have hp : geB m s i = false := by simpa using hp
    rw [sg_off hp, sg_off hp]
    exact ⟨hi1, rfl⟩
theorem finT_sg (m : Int) (s o : List Int) (i : Nat) : finT m s o i = o.getD (sg m s i) 0 := by
  unfold finT sg
  by_cases hp : geB m s i = true
  · rw [if_pos hp, if_pos hp]
  · rw [if_neg hp, if_neg hp]
theorem tuL_get (m : Int) (s o : List Int) (i : Nat) (h : i < s.length) : (tuL m s o).getD i 0 = o.getD (sg m s i) 0 := by
  rw [← finT_sg]
  simp [tuL, List.getD, h]
theorem orL_get (s : List Int) (i : Nat) (h : i < s.length) : (orL s).getD i 0 = ((sg 2 s (sg 1 s i) : Nat) : Int) := by
  have h1 := (sg_in 1 s i h).1
  have h2 := (sg_in 2 s _ h1).1
  unfold orL
  rw [tuL_get _ _ _ _ h, tuL_get _ _ _ _ h1]
  simp [idL, List.getD, h2]
/-- Where a code point is shown. -/
def atF (s : List Int) (j : Nat) : Nat := sg 1 s (sg 2 s j)
theorem atF_in (s : List Int) (j : Nat) (h : j < s.length) : atF s j < s.length := (sg_in 1 s _ (sg_in 2 s j h).1).1
theorem atF_iff (s : List Int) (k j : Nat) (hk : k < s.length) (hj : j < s.length) : atF s j = k ↔ j = sg 2 s (sg 1 s k) := by
  unfold atF
  constructor
  · rintro rfl
    rw [(sg_in 1 s _ (sg_in 2 s j hj).1).2, (sg_in 2 s j hj).2]
  · rintro rfl
    rw [(sg_in 2 s _ (sg_in 1 s k hk).1).2, (sg_in 1 s k hk).2]
/-- Neighbours of one level. -/
theorem atF_next (s : List Int) (i : Nat) (hi1 : i + 1 < s.length) (h0 : 0 ≤ s.getD i 0 ∧ s.getD i 0 ≤ 2) (he : s.getD i 0 = s.getD (i + 1) 0) : (atF s (i + 1) : Int) = (atF s i : Int) + (if s.getD (i + 1) 0 = 1 then -1 else 1) := by
  have g : ∀ m : Int, geB m s i = decide (m ≤ s.getD i 0) := fun m => rfl
  have g' : ∀ m : Int, geB m s (i + 1) = decide (m ≤ s.getD i 0) := fun m => by unfold geB; rw [← he]
  rw [← he]
  unfold atF
  rcases (by omega : s.getD i 0 = 0 ∨ s.getD i 0 = 1 ∨ s.getD i 0 = 2) with hv | hv | hv <;> rw [hv] at g g'
  · have e1 := sg_off (g 2)
    have e2 := sg_off (g' 2)
    have e3 := sg_off (g 1)
    have e4 := sg_off (g' 1)
    rw [e1, e2, e3, e4, hv, if_neg (by omega)]
    omega
  · have e1 := sg_off (g 2)
    have e2 := sg_off (g' 2)
    obtain ⟨a, b, _, _, h1, h2, h3, h4⟩ := run_in (p := geB 1 s) (n := s.length) (i := i) (by omega) (g 1)
    have hib : i + 1 < b := by
      obtain ⟨a', b', q1, q2, q3, q4, q5, q6⟩ := run_in (p := geB 1 s) (n := s.length) (i := i + 1) hi1 (g' 1)
      rcases Nat.lt_or_ge (i + 1) b with h | h
      · exact h
      · have hb : b = i + 1 := by omega
        have hq := (up_spec (geB 1 s) s.length (s.length - i) i rfl (by omega)).2.2.2
        have hh : hi (geB 1 s) s.length i = b := (h4 i h1 h2).2.2
        have hh2 : up (geB 1 s) (s.length - i) i = b := hh
        rw [hh2] at hq
        rcases hq with hq | hq
        · omega
        · rw [hb] at hq
          have := g' 1
          rw [hq] at this
          cases this
    rw [e1, e2, sg_run h4 h1 h2, sg_run h4 (by omega) hib, hv, if_pos rfl]
    omega
  · obtain ⟨a, b, _, _, h1, h2, h3, h4⟩ := run_in (p := geB 2 s) (n := s.length) (i := i) (by omega) (g 2)
    have hib : i + 1 < b := by
      rcases Nat.lt_or_ge (i + 1) b with h | h
      · exact h
      · have hb : b = i + 1 := by omega
        have hq := (up_spec (geB 2 s) s.length (s.length - i) i rfl (by omega)).2.2.2
        have hh : hi (geB 2 s) s.length i = b := (h4 i h1 h2).2.2
        have hh2 : up (geB 2 s) (s.length - i) i = b := hh
        rw [hh2] at hq
        rcases hq with hq | hq
        · omega
        · rw [hb] at hq
          have := g' 2
          rw [hq] at this
          cases this
    obtain ⟨c, d, _, _, k1, k2, k3, k4⟩ := run_in (p := geB 1 s) (n := s.length) (i := i) (by omega) (g 1)
    have hup : ∀ j, a ≤ j → j < b → geB 1 s j = true := fun j x y => by
      have := (h4 j x y).1
      unfold geB at this ⊢
      have := of_decide_eq_true this
      exact decide_eq_true (by omega)
    have hca : c ≤ a := by
      have hl := (lo_spec (geB 1 s) i).2.2
      rw [(k4 i k1 k2).2.1] at hl
      rcases Nat.lt_or_ge a c with h | h
      · rcases hl with hl | hl
        · omega
        · rw [hup (c - 1) (by omega) (by omega)] at hl; cases hl
      · exact h
    have hdb : b ≤ d := by
      have hq := (up_spec (geB 1 s) s.length (s.length - i) i rfl (by omega)).2.2.2
      have hh2 : up (geB 1 s) (s.length - i) i = d := (k4 i k1 k2).2.2
      rw [hh2] at hq
      rcases Nat.lt_or_ge d b with h | h
      · rcases hq with hq | hq
        · omega
        · rw [hup d (by omega) h] at hq; cases hq
      · exact h
    rw [sg_run h4 h1 h2, sg_run h4 (by omega) hib, sg_run k4 (by omega) (by omega), sg_run k4 (by omega) (by omega), hv, if_neg (by omega)]
    omega
end Go.Proofs.YtilkhamlhbbmgaaDoor
