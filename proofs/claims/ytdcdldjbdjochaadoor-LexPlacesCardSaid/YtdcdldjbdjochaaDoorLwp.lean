/- Errors, as functions on bytes: what stands before the place, behind it, and what is written after it. -/
import Derived.Test.YtdcdldjbdjochaaDoorLxp
namespace Go.Proofs.YtdcdldjbdjochaaDoor

theorem nlen_take (p : Nat → Bool) : ∀ (l : List UInt8) (m : Nat), nlen p l ≤ m → nlen p (l.take m) = nlen p l
  | [], m, _ => by simp
  | b :: r, 0, h => by
    rw [nlen] at h ⊢
    split at h
    · omega
    · rename_i hb; simp [nlen, hb]
  | b :: r, m + 1, h => by
    rw [List.take_succ_cons, nlen, nlen]
    rw [nlen] at h
    by_cases hb : p b.toNat = true
    · rw [if_pos hb] at h ⊢
      rw [if_pos hb, nlen_take p r m (by omega)]
    · rw [if_neg hb, if_neg hb]
theorem take_take_le {l : List UInt8} {n m : Nat} (h : n ≤ m) : (l.take m).take n = l.take n := by rw [List.take_take, Nat.min_eq_left h]

/-- A beginning long enough shows the same. -/
theorem step_take (b : UInt8) (r : List UInt8) (m : Nat) (h : stepL b r ≤ m + 1) : stepL b (r.take m) = stepL b r ∧ stepA b (r.take m) = stepA b r := by
  have e : ∀ p, nlen p (b :: r) ≤ m + 1 → nlen p (b :: r.take m) = nlen p (b :: r) := fun p hp => by
    have := nlen_take p (b :: r) (m + 1) hp
    rwa [List.take_succ_cons] at this
  have hh : cls b.toNat = 6 → (((r.take m).head? = some 47) ↔ (r.head? = some 47)) := fun h6 => by
    cases r with
    | nil => simp
    | cons c q =>
      cases m with
      | succ m => simp
      | zero =>
        simp only [List.take_zero, List.head?_nil, List.head?_cons]
        constructor
        · intro h; cases h
        · intro h1
          exfalso
          have hL : stepL b (c :: q) = nlen notLF (b :: c :: q) := by unfold stepL; rw [if_neg (by omega), if_neg (by omega), if_pos ⟨h6, h1⟩]
          injection h1 with h1
          subst h1
          have hb : b.toNat = 47 := by
            unfold cls at h6
            (repeat' split at h6) <;> first | assumption | (exfalso; omega)
          rw [hL, nlen, nlen] at h
          rw [if_pos (by unfold notLF; rw [hb]; decide), if_pos (by decide)] at h
          omega
  have hL : stepL b (r.take m) = stepL b r := by
    unfold stepL at h ⊢
    by_cases h2 : cls b.toNat = 2
    · rw [if_pos h2] at h ⊢; rw [if_pos h2]; exact e _ h
    · rw [if_neg h2] at h ⊢; rw [if_neg h2]
      by_cases h3 : cls b.toNat = 3
      · rw [if_pos h3] at h ⊢; rw [if_pos h3]; exact e _ h
      · rw [if_neg h3] at h ⊢; rw [if_neg h3]
        by_cases h6 : cls b.toNat = 6 ∧ r.head? = some 47
        · rw [if_pos h6] at h ⊢; rw [if_pos ⟨h6.1, (hh h6.1).2 h6.2⟩]; exact e _ h
        · rw [if_neg h6, if_neg (fun hx => h6 ⟨hx.1, (hh hx.1).1 hx.2⟩)]
  refine ⟨hL, ?_⟩
  have ht : (b :: r.take m).take (stepL b r) = (b :: r).take (stepL b r) := by
    rw [← List.take_succ_cons, take_take_le h]
  unfold stepA
  rw [hL, ht]
  by_cases h6 : cls b.toNat = 6
  · simp only [h6, hh h6]
  · simp only [h6, if_false]

/-- A space and more behind it show the same, but for a comment. -/
theorem nlen_space {p : Nat → Bool} (hp : p 32 = false) (m : List UInt8) : ∀ (l : List UInt8), nlen p (l ++ 32 :: m) = nlen p l
  | [] => by
    have h : nlen p (32 :: m) = 0 := by
      rw [nlen, if_neg (by rw [show (32 : UInt8).toNat = 32 from rfl, hp]; simp)]
    rw [List.nil_append, h]
    rfl
  | b :: r => by rw [List.cons_append, nlen, nlen, nlen_space hp m r]
theorem nlen_app {p : Nat → Bool} (m : List UInt8) : ∀ (l : List UInt8), nlen p l < l.length → nlen p (l ++ m) = nlen p l
  | [], h => by simp at h
  | b :: r, h => by
    rw [List.cons_append, nlen, nlen]
    rw [nlen] at h
    by_cases hb : p b.toNat = true
    · rw [if_pos hb] at h ⊢
      rw [if_pos hb, nlen_app m r (by simpa using h)]
    · rw [if_neg hb, if_neg hb]
theorem step_app (b : UInt8) (r m : List UInt8) (h : stepA b r = .no ∨ stepL b r < (b :: r).length) : stepL b (r ++ 32 :: m) = stepL b r ∧ stepA b (r ++ 32 :: m) = stepA b r := by
  have hle := stepL_le b r
  have hh : ((r ++ 32 :: m).head? = some 47) ↔ (r.head? = some 47) := by
    cases r with
    | nil => simp
    | cons c q => simp
  have hL : stepL b (r ++ 32 :: m) = stepL b r := by
    unfold stepL at h ⊢
    by_cases h2 : cls b.toNat = 2
    · rw [if_pos h2, if_pos h2]; exact nlen_space (by decide) m (b :: r)
    · rw [if_neg h2, if_neg h2]
      by_cases h3 : cls b.toNat = 3
      · rw [if_pos h3, if_pos h3]; exact nlen_space (by decide) m (b :: r)
      · rw [if_neg h3, if_neg h3]
        by_cases h6 : cls b.toNat = 6 ∧ r.head? = some 47
        · rw [if_pos h6, if_pos ⟨h6.1, hh.2 h6.2⟩]
          rw [if_neg h2, if_neg h3, if_pos h6] at h
          refine nlen_app (32 :: m) (b :: r) (h.resolve_left ?_)
          unfold stepA
          rw [h6.1, if_pos h6.2]
          simp
        · rw [if_neg h6, if_neg (fun hx => h6 ⟨hx.1, hh.1 hx.2⟩)]
  refine ⟨hL, ?_⟩
  have ht : (b :: (r ++ 32 :: m)).take (stepL b r) = (b :: r).take (stepL b r) := by
    rw [← List.cons_append, List.take_append_of_le_length hle]
  unfold stepA
  rw [hL, ht]
  simp only [hh]

theorem cons_bad {t : Tok} {x : Res} {p : Nat} (h : x.cons t = .bad p) : x = .bad p := by cases x with
  | bad q => exact h
  | ok l => cases h

/-- All that is to be said of an error's place. -/
theorem lexGo_bad : ∀ (f k : Nat) (bs m : List UInt8) (p : Nat), bs.length ≤ f → lexGo f k bs = .bad p →
    k ≤ p ∧ p < k + bs.length ∧ (∃ l, lexGo f k (bs.take (p - k)) = .ok l) ∧ lexGo (f + 1 + m.length) k (bs ++ 32 :: m) = .bad p ∧ (∃ b r, bs.drop (p - k) = b :: r ∧ stepA b r = .no)
  | 0, k, bs, m, p, hl, h => by rw [lexGo] at h; cases h
  | f + 1, k, [], m, p, hl, h => by rw [lexGo] at h; cases h
  | f + 1, k, b :: r, m, p, hl, h => by
    have hp := stepL_pos b r
    have hle := stepL_le b r
    have hlr : r.length ≤ f := by simpa using hl
    rw [lexGo] at h
    by_cases hno : stepA b r = .no
    · rw [hno] at h
      injection h with h
      subst h
      obtain ⟨e1, e2⟩ := step_app b r m (.inl hno)
      refine ⟨Nat.le_refl _, by simp, ⟨[], by rw [Nat.sub_self, List.take_zero, lexGo_nil]⟩, ?_, b, r, by rw [Nat.sub_self, List.drop_zero], hno⟩
      rw [List.cons_append, lexGo_cons _ _ _ _ (by simp; omega), e2, hno]
    · have hrec : lexGo f (k + stepL b r) ((b :: r).drop (stepL b r)) = .bad p := by
        cases hA : stepA b r with
        | no => exact absurd hA hno
        | pass => rw [hA] at h; exact h
        | tok c t n => rw [hA] at h; exact cons_bad h
      obtain ⟨i1, i2, ⟨l, i3⟩, i4, b', r', i5, i6⟩ := lexGo_bad f (k + stepL b r) ((b :: r).drop (stepL b r)) m p (by rw [List.length_drop, List.length_cons]; omega) hrec
      rw [List.length_drop] at i2
      have hlt : stepL b r < (b :: r).length := by omega
      obtain ⟨e1, e2⟩ := step_app b r m (.inr hlt)
      obtain ⟨q, hq⟩ : ∃ q, p = k + stepL b r + q := ⟨p - (k + stepL b r), by omega⟩
      have hpk : p - k = stepL b r + q := by omega
      have hpk2 : p - (k + stepL b r) = q := by omega
      rw [hpk2] at i3 i5
      obtain ⟨s, hs⟩ : ∃ s, stepL b r = s + 1 := ⟨stepL b r - 1, by omega⟩
      have htk : (b :: r).take (p - k) = b :: r.take (s + q) := by rw [hpk, hs, show s + 1 + q = (s + q) + 1 by omega, List.take_succ_cons]
      obtain ⟨t1, t2⟩ := step_take b r (s + q) (by omega)
      have hdr : (b :: r.take (s + q)).drop (stepL b r) = ((b :: r).drop (stepL b r)).take q := by
        rw [hs, List.drop_succ_cons, List.drop_succ_cons, List.take_drop, List.drop_take]
      refine ⟨by omega, by omega, ?_, ?_, b', r', by rw [hpk, ← List.drop_drop]; exact i5, i6⟩
      · rw [htk, lexGo_cons _ _ _ _ (by simp; omega), t1, t2, hdr]
        have i3' : lexGo (f + 1) (k + stepL b r) (((b :: r).drop (stepL b r)).take q) = .ok l := by
          rw [lexGo_fuel (f + 1) f _ _ (by rw [List.length_take, List.length_drop]; omega) (by rw [List.length_take, List.length_drop, List.length_cons]; omega)]
          exact i3
        cases hA : stepA b r with
        | no => exact absurd hA hno
        | pass => exact ⟨l, i3'⟩
        | tok c t n => exact ⟨⟨c, t, n, k⟩ :: l, by simp only [i3']; rfl⟩
      · rw [List.cons_append, lexGo_cons _ _ _ _ (by simp; omega), e1, e2]
        have hda : (b :: (r ++ 32 :: m)).drop (stepL b r) = (b :: r).drop (stepL b r) ++ 32 :: m := by
          rw [← List.cons_append, List.drop_append_of_le_length hle]
        rw [hda]
        have i4' : lexGo (f + 1 + 1 + m.length) (k + stepL b r) ((b :: r).drop (stepL b r) ++ 32 :: m) = .bad p := by
          rw [lexGo_fuel (f + 1 + 1 + m.length) (f + 1 + m.length) _ _ (by simp; omega) (by simp; omega)]
          exact i4
        cases hA : stepA b r with
        | no => exact absurd hA hno
        | pass => exact i4'
        | tok c t n => simp only [i4']; rfl

theorem lexAll_bad (bs m : List UInt8) (p : Nat) (h : lexAll bs = .bad p) :
    p < bs.length ∧ (∃ l, lexAll (bs.take p) = .ok l) ∧ lexAll (bs ++ 32 :: m) = .bad p ∧ lexAll (bs.drop p) = .bad 0 := by
  unfold lexAll at h
  obtain ⟨_, h2, ⟨l, h3⟩, h4, b, r, h5, h6⟩ := lexGo_bad bs.length 0 bs m p (Nat.le_refl _) h
  rw [Nat.sub_zero] at h3 h5
  refine ⟨by omega, ⟨l, ?_⟩, ?_, ?_⟩
  · unfold lexAll
    rw [lexGo_fuel _ bs.length _ _ (Nat.le_refl _) (by rw [List.length_take]; omega)]
    exact h3
  · unfold lexAll
    rw [show (bs ++ 32 :: m).length = bs.length + 1 + m.length by simp; omega]
    exact h4
  · unfold lexAll
    rw [h5, lexGo_cons _ _ _ _ (Nat.le_refl _), h6]
end Go.Proofs.YtdcdldjbdjochaaDoor
