/- Levels and orders as data: greatest runs of indexes. -/
import Derived.Test.YtilkhamlhbbmgaaDoorWrd
namespace Go.Proofs.YtilkhamlhbbmgaaDoor
open Go.RowKit

/-- Where the greatest run begins that ends before i. -/
def lo (p : Nat → Bool) : Nat → Nat
  | 0 => 0
  | i + 1 => if p i then lo p i else i + 1
def up (p : Nat → Bool) : Nat → Nat → Nat
  | 0, i => i
  | f + 1, i => if p i then up p f (i + 1) else i
/-- Where the greatest run ends that begins at i, below n. -/
def hi (p : Nat → Bool) (n i : Nat) : Nat := up p (n - i) i
theorem lo_eq {p : Nat → Bool} {m : Nat} : ∀ {i : Nat}, m ≤ i → (∀ j, m ≤ j → j < i → p j = true) → (m = 0 ∨ p (m - 1) = false) → lo p i = m
  | 0, h, _, _ => by unfold lo; omega
  | i + 1, h, h1, h2 => by
    unfold lo
    by_cases hm : m = i + 1
    · subst hm
      rcases h2 with h2 | h2
      · omega
      · rw [show i + 1 - 1 = i by omega] at h2; rw [h2]; rfl
    · rw [h1 i (by omega) (by omega), if_pos rfl]
      exact lo_eq (by omega) (fun j a b => h1 j a (by omega)) h2
theorem up_eq {p : Nat → Bool} {e n : Nat} (hen : e ≤ n) (he : e = n ∨ p e = false) : ∀ (f i : Nat), f = n - i → i ≤ e → (∀ j, i ≤ j → j < e → p j = true) → up p f i = e
  | 0, i, hf, h, _ => by unfold up; omega
  | f + 1, i, hf, h, h1 => by
    unfold up
    by_cases hi : i = e
    · subst hi
      rcases he with he | he
      · omega
      · rw [he]; rfl
    · rw [h1 i (Nat.le_refl _) (by omega), if_pos rfl]
      exact up_eq hen he f (i + 1) (by omega) (by omega) fun j a b => h1 j (by omega) b
theorem hi_eq {p : Nat → Bool} {e n i : Nat} (h : i ≤ e) (hen : e ≤ n) (h1 : ∀ j, i ≤ j → j < e → p j = true) (he : e = n ∨ p e = false) : hi p n i = e := up_eq hen he _ i rfl h h1
theorem up_spec (p : Nat → Bool) (n : Nat) : ∀ (f i : Nat), f = n - i → i ≤ n → i ≤ up p f i ∧ up p f i ≤ n ∧ (∀ j, i ≤ j → j < up p f i → p j = true) ∧ (up p f i = n ∨ p (up p f i) = false)
  | 0, i, hf, h => by unfold up; exact ⟨Nat.le_refl _, h, fun j a b => by omega, .inl (by omega)⟩
  | f + 1, i, hf, h => by
    unfold up
    by_cases hp : p i = true
    · rw [if_pos hp]
      obtain ⟨h1, h2, h3, h4⟩ := up_spec p n f (i + 1) (by omega) (by omega)
      refine ⟨by omega, h2, fun j a b => ?_, h4⟩
      by_cases hj : j = i
      · subst hj; exact hp
      · exact h3 j (by omega) b
    · rw [if_neg hp]
      exact ⟨Nat.le_refl _, h, fun j a b => by omega, .inr (by simpa using hp)⟩
/-- The greatest runs from t on, in their turn. -/
def Chain (p : Nat → Bool) (n : Nat) : Nat → List (Nat × Nat) → Prop
  | t, [] => ∀ j, t ≤ j → j < n → p j = false
  | t, x :: R => t ≤ x.1 ∧ x.1 < x.2 ∧ x.2 ≤ n ∧ (∀ j, t ≤ j → j < x.1 → p j = false) ∧ (∀ j, x.1 ≤ j → j < x.2 → p j = true) ∧ (x.2 < n → p x.2 = false) ∧ Chain p n x.2 R
theorem Chain.back {p : Nat → Bool} {n t : Nat} {R : List (Nat × Nat)} (hp : p t = false) (h : Chain p n (t + 1) R) : Chain p n t R := by
  cases R with
  | nil =>
    intro j a b
    by_cases hj : j = t
    · subst hj; exact hp
    · exact h j (by omega) b
  | cons x R =>
    obtain ⟨h1, h2, h3, h4, h5, h6, h7⟩ := h
    refine ⟨by omega, h2, h3, fun j a b => ?_, h5, h6, h7⟩
    by_cases hj : j = t
    · subst hj; exact hp
    · exact h4 j (by omega) b
theorem Chain.skip {p : Nat → Bool} {n t : Nat} {R : List (Nat × Nat)} (hp : t < n → p t = false) (h : Chain p n t R) : Chain p n (t + 1) R := by
  cases R with
  | nil => exact fun j a b => h j (by omega) b
  | cons x R =>
    obtain ⟨h1, h2, h3, h4, h5, h6, h7⟩ := h
    have hne : x.1 ≠ t := fun e => by
      have a := h5 x.1 (Nat.le_refl _) h2
      rw [e, hp (by omega)] at a
      cases a
    exact ⟨by omega, h2, h3, fun j a b => h4 j (by omega) b, h5, h6, h7⟩
theorem Chain.take {p : Nat → Bool} {n t e : Nat} {R : List (Nat × Nat)} (h : Chain p n t R) (hte : t < e) (hen : e ≤ n) (h1 : ∀ j, t ≤ j → j < e → p j = true) (he : e = n ∨ p e = false) : ∃ R', R = (t, e) :: R' ∧ Chain p n e R' ∧ (e < n → p e = false) := by
  have ht := h1 t (Nat.le_refl _) hte
  cases R with
  | nil => have := h t (Nat.le_refl _) (by omega); rw [ht] at this; cases this
  | cons x R =>
    obtain ⟨g1, g2, g3, g4, g5, g6, g7⟩ := h
    obtain ⟨a, b⟩ := x
    simp only at g1 g2 g3 g4 g5 g6 g7
    have ha : a = t := by
      by_cases hat : a = t
      · exact hat
      · have := g4 t (Nat.le_refl _) (by omega); rw [ht] at this; cases this
    subst ha
    have hb : b = e := by
      rcases Nat.lt_trichotomy b e with hbe | hbe | hbe
      · have a1 := h1 b (by omega) hbe
        rw [g6 (by omega)] at a1; cases a1
      · exact hbe
      · rcases he with he | he
        · omega
        · have := g5 e (by omega) hbe; rw [he] at this; cases this
    subst hb
    exact ⟨R, rfl, g7, g6⟩
theorem chain_ex (p : Nat → Bool) (n : Nat) : ∀ (f t : Nat), n - t ≤ f → ∃ R, Chain p n t R
  | 0, t, h => ⟨[], fun j a b => by omega⟩
  | f + 1, t, h => by
    by_cases ht : t < n
    · by_cases hp : p t = true
      · obtain ⟨h1, h2, h3, h4⟩ := up_spec p n (n - t) t rfl (by omega)
        have hlt : t < up p (n - t) t := by
          rcases Nat.lt_or_ge t (up p (n - t) t) with h | h
          · exact h
          · have e : up p (n - t) t = t := by omega
            rcases h4 with h4 | h4
            · omega
            · rw [e, hp] at h4; cases h4
        obtain ⟨R, hR⟩ := chain_ex p n f (up p (n - t) t) (by omega)
        refine ⟨(t, up p (n - t) t) :: R, Nat.le_refl _, hlt, h2, fun j a b => by exact absurd b (by simp only; omega), h3, fun hx => ?_, hR⟩
        rcases h4 with h4 | h4
        · simp only at hx; omega
        · exact h4
      · obtain ⟨R, hR⟩ := chain_ex p n f (t + 1) (by omega)
        exact ⟨R, hR.back (by simpa using hp)⟩
    · exact ⟨[], fun j a b => by omega⟩
/-- Where the first k runs end. -/
def bnd (R : List (Nat × Nat)) : Nat → Nat
  | 0 => 0
  | k + 1 => (R.getD k (0, 0)).2
theorem chain_drop {p : Nat → Bool} {n : Nat} {R : List (Nat × Nat)} (h : Chain p n 0 R) : ∀ k, k ≤ R.length → Chain p n (bnd R k) (R.drop k) ∧ (0 < k → bnd R k < n → p (bnd R k) = false) ∧ bnd R k ≤ n
  | 0, _ => ⟨h, fun h => by omega, Nat.zero_le _⟩
  | k + 1, hk => by
    obtain ⟨h1, h2, h3⟩ := chain_drop h k (by omega)
    rw [List.drop_eq_getElem_cons (by omega)] at h1
    obtain ⟨g1, g2, g3, g4, g5, g6, g7⟩ := h1
    have e : R.getD k (0, 0) = R[k]'(by omega) := by simp [List.getD, List.getElem?_eq_getElem (show k < R.length by omega)]
    refine ⟨?_, fun _ => ?_, ?_⟩
    · show Chain p n (R.getD k (0, 0)).2 _; rw [e]; exact g7
    · show (R.getD k (0, 0)).2 < n → p (R.getD k (0, 0)).2 = false; rw [e]; exact g6
    · show (R.getD k (0, 0)).2 ≤ n; rw [e]; exact g3
/-- The k-th run, and that it is a greatest one. -/
theorem chain_at {p : Nat → Bool} {n : Nat} {R : List (Nat × Nat)} (h : Chain p n 0 R) {k : Nat} (hk : k < R.length) : ∃ a b, R.getD k (0, 0) = (a, b) ∧ bnd R k ≤ a ∧ a < b ∧ b ≤ n ∧ bnd R (k + 1) = b ∧ (∀ j, bnd R k ≤ j → j < a → p j = false) ∧ (∀ j, a ≤ j → j < b → p j = true ∧ lo p j = a ∧ hi p n j = b) ∧ (0 < a → p (a - 1) = false) ∧ (b < n → p b = false) := by
  obtain ⟨h1, h2, h3⟩ := chain_drop h k (by omega)
  rw [List.drop_eq_getElem_cons hk] at h1
  obtain ⟨g1, g2, g3, g4, g5, g6, g7⟩ := h1
  have e : R.getD k (0, 0) = R[k] := by simp [List.getD, List.getElem?_eq_getElem hk]
  have hb : bnd R (k + 1) = (R[k]).2 := by show (R.getD k (0, 0)).2 = _; rw [e]
  obtain ⟨a, b, hx⟩ : ∃ a b, R[k] = (a, b) := ⟨_, _, rfl⟩
  rw [hx] at g1 g2 g3 g4 g5 g6 g7 hb e
  simp only at g1 g2 g3 g4 g5 g6 g7 hb
  have ha : a = 0 ∨ p (a - 1) = false := by
    by_cases h0 : a = 0
    · exact .inl h0
    · right
      by_cases hba : bnd R k = a
      · have hk0 : 0 < k := by
          rcases Nat.eq_zero_or_pos k with hk0 | hk0
          · subst hk0; exact absurd hba.symm h0
          · exact hk0
        have := h2 hk0 (by omega)
        rw [hba, g5 a (Nat.le_refl _) g2] at this
        cases this
      · exact g4 (a - 1) (by omega) (by omega)
  refine ⟨a, b, e, g1, g2, g3, hb, g4, fun j x y => ⟨g5 j x y, lo_eq x (fun i s q => g5 i s (by omega)) ha, hi_eq (by omega) g3 (fun i s q => g5 i (by omega) q) ?_⟩, fun h0 => ?_, g6⟩
  · rcases Nat.lt_or_ge b n with h | h
    · exact .inr (g6 h)
    · exact .inl (by omega)
  · rcases ha with ha | ha
    · omega
    · exact ha
theorem chain_end {p : Nat → Bool} {n : Nat} {R : List (Nat × Nat)} (h : Chain p n 0 R) : ∀ j, bnd R R.length ≤ j → j < n → p j = false := by
  have := (chain_drop h R.length (Nat.le_refl _)).1
  rw [List.drop_eq_nil_of_le (Nat.le_refl _)] at this
  exact this

/-- The level of a code point by its kind. -/
def own (b r : Int) : Int := if knd r = 4 then 1 else if knd r = 3 ∨ knd r = 2 then 2 * b else -1
def isGapB (s : List Int) (j : Nat) : Bool := decide (s.getD j 0 = -1)
/-- A level at last, out of the levels of their own. -/
def finL (b : Int) (s : List Int) (i : Nat) : Int :=
  if isGapB s i then
    (if 0 < lo (isGapB s) i ∧ hi (isGapB s) s.length i < s.length ∧ s.getD (lo (isGapB s) i - 1) 0 = s.getD (hi (isGapB s) s.length i) 0 then s.getD (hi (isGapB s) s.length i) 0 else b)
  else s.getD i 0
def lvL (b : Int) (l : List Int) : List Int := (List.range l.length).map (finL b (l.map (own b)))
theorem lvL_len (b : Int) (l : List Int) : (lvL b l).length = l.length := by simp [lvL]
def geB (m : Int) (s : List Int) (j : Nat) : Bool := decide (m ≤ s.getD j 0)
/-- What stands at last at a place, where the greatest runs of high levels are turned around. -/
def finT (m : Int) (s o : List Int) (i : Nat) : Int := if geB m s i then o.getD (lo (geB m s) i + hi (geB m s) s.length i - 1 - i) 0 else o.getD i 0
def tuL (m : Int) (s o : List Int) : List Int := (List.range s.length).map (finT m s o)
theorem tuL_len (m : Int) (s o : List Int) : (tuL m s o).length = s.length := by simp [tuL]
def idL (n : Nat) : List Int := (List.range n).map Int.ofNat
theorem idL_len (n : Nat) : (idL n).length = n := by simp [idL]
def orL (s : List Int) : List Int := tuL 1 s (tuL 2 s (idL s.length))
theorem orL_len (s : List Int) : (orL s).length = s.length := tuL_len _ _ _
theorem own_in (b r : Int) (hb : b = 0 ∨ b = 1) : own b r = -1 ∨ own b r = 0 ∨ own b r = 1 ∨ own b r = 2 := by
  unfold own
  by_cases h4 : knd r = 4
  · rw [if_pos h4]; omega
  · rw [if_neg h4]
    by_cases h3 : knd r = 3 ∨ knd r = 2
    · rw [if_pos h3]; omega
    · rw [if_neg h3]; omega
end Go.Proofs.YtilkhamlhbbmgaaDoor
