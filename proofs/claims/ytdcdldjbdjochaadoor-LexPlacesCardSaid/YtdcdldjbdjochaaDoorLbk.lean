/- What Lex gives for what Text writes; the tokens of a source are valid. Functions on lists alone. -/
import Derived.Test.YtdcdldjbdjochaaDoorTxt
import Derived.Test.YtdcdldjbdjochaaDoorLwp
import Derived.Test.YtdcdldjbdjochaaDoorSme
namespace Go.Proofs.YtdcdldjbdjochaaDoor
open Go.RowKit

theorem val10_app (a b : List UInt8) (n : Nat) : val10 n (a ++ b) = val10 (val10 n a) b := by unfold val10; rw [List.foldl_append]
theorem dig_nat {u : Nat} (h : u < 10) : (UInt8.ofNat (48 + u)).toNat = 48 + u := by rw [UInt8.toNat_ofNat']; omega
theorem cls_digit {c : Nat} (h : 48 ≤ c ∧ c ≤ 57) : cls c = 3 := by
  unfold cls
  rw [if_neg (by omega), if_neg (by omega), if_pos h]
/-- The digits of a number: they are digits, they mean the number, none but "0" begins with 0. -/
theorem dec_ok (u : Nat) : Digits (Lib.decDigits u) ∧ val10 0 (Lib.decDigits u) = u ∧ (∃ b r, Lib.decDigits u = b :: r ∧ (r = [] ∨ b.toNat ≠ 48)) ∧ (u ≠ 0 → ∀ b r, Lib.decDigits u = b :: r → b.toNat ≠ 48) := by
  induction u using Nat.strongRecOn with
  | ind u ih =>
    rw [Lib.decDigits]
    by_cases h : u < 10
    · rw [dif_pos h]
      refine ⟨fun b hb => ?_, ?_, ⟨_, [], rfl, .inl rfl⟩, fun h0 b r e => ?_⟩
      · rw [List.mem_singleton.1 hb, dig_nat h]; omega
      · rw [val10_cons, val10_nil, dig_nat h]; omega
      · injection e with e _
        rw [← e, dig_nat h]; omega
    · rw [dif_neg h]
      obtain ⟨h1, h2, ⟨b, r, h3, h4⟩, h5⟩ := ih (u / 10) (by omega)
      have h6 : u % 10 < 10 := by omega
      have hb := h5 (by omega) b r h3
      refine ⟨fun c hc => ?_, ?_, ⟨b, r ++ [UInt8.ofNat (48 + u % 10)], by rw [h3]; rfl, .inr hb⟩, fun _ c q e => ?_⟩
      · rcases List.mem_append.1 hc with hc | hc
        · exact h1 c hc
        · rw [List.mem_singleton.1 hc, dig_nat h6]; omega
      · rw [val10_app, h2, val10_cons, val10_nil, dig_nat h6]; omega
      · rw [h3] at e
        injection e with e _
        rw [← e]; exact hb

/-- How a row of bytes with a property ends. -/
theorem nlen_full {p : Nat → Bool} (rest : List UInt8) (hr : ∀ c r, rest = c :: r → p c.toNat = false) : ∀ (l : List UInt8), nlen p l = l.length → nlen p (l ++ rest) = l.length
  | [], _ => by
    cases rest with
    | nil => rfl
    | cons c r => rw [List.nil_append, nlen, if_neg (by rw [hr c r rfl]; simp)]; rfl
  | b :: l, h => by
    rw [nlen] at h
    by_cases hb : p b.toNat = true
    · rw [if_pos hb, List.length_cons] at h
      rw [List.cons_append, nlen, if_pos hb, nlen_full rest hr l (by omega), List.length_cons]
    · rw [if_neg hb, List.length_cons] at h; omega
theorem nlen_digits : ∀ (l : List UInt8), Digits l → nlen isFig l = l.length
  | [], _ => rfl
  | b :: l, h => by
    rw [nlen, if_pos (by unfold isFig; rw [cls_digit (h b (by simp))]; rfl), nlen_digits l fun c hc => h c (by simp [hc]), List.length_cons]

/-- What may stand behind a token's text: nothing, or a space. -/
def Gap (rest : List UInt8) : Prop := rest = [] ∨ ∃ r, rest = 32 :: r
theorem Gap.part {rest : List UInt8} (h : Gap rest) {p : Nat → Bool} (hp : p 32 = false) : ∀ c r, rest = c :: r → p c.toNat = false := by
  rintro c r rfl
  rcases h with h | ⟨q, h⟩
  · cases h
  · injection h with h _; rw [h]; exact hp

/-- A token's text is read as that token. -/
theorem lexGo_word (t : Tok) (ht : validT t = true) (rest : List UInt8) (hg : Gap rest) (f k : Nat) (hf : (textT t ++ rest).length ≤ f) :
    textT t ≠ [] ∧ ∃ a, lexGo f k (textT t ++ rest) = (lexGo f (k + (textT t).length) rest).cons ⟨t.kind, t.text, t.n, a⟩ := by
  obtain ⟨kd, tx, n, at_⟩ := t
  unfold validT at ht
  dsimp only at ht
  by_cases h1 : kd = 1
  · subst h1
    rw [if_pos rfl, Bool.and_eq_true] at ht
    obtain ⟨hn, h0⟩ := ht
    have h0 : n = 0 := by simpa using h0
    subst h0
    have e : textT ⟨1, tx, 0, at_⟩ = tx := rfl
    rw [e] at hf ⊢
    cases tx with
    | nil => cases hn
    | cons b r =>
      have hn0 := hn
      simp only [nameOk, Bool.and_eq_true, beq_iff_eq] at hn
      obtain ⟨⟨_, c2⟩, hl⟩ := hn
      have hL : stepL b (r ++ rest) = (b :: r).length := by
        unfold stepL; rw [if_pos c2, ← List.cons_append]
        exact nlen_full rest (hg.part (by decide)) _ hl
      rw [List.cons_append] at hf
      refine ⟨by simp, k, ?_⟩
      have hA : stepA b (r ++ rest) = .tok 1 (b :: r) 0 := by
        unfold stepA
        rw [if_neg (by omega), if_pos c2, hL, ← List.cons_append, List.take_left, if_pos hn0]
      rw [List.cons_append, lexGo_cons _ _ _ _ hf, hA, hL, ← List.cons_append, List.drop_left]
  · rw [if_neg h1] at ht
    by_cases h2 : kd = 2
    · subst h2
      rw [if_pos rfl] at ht
      simp only [Bool.and_eq_true, List.isEmpty_iff, decide_eq_true_eq] at ht
      obtain ⟨rfl, hn0, hn1⟩ := ht
      obtain ⟨u, rfl⟩ : ∃ u : Nat, n = u := ⟨n.toNat, by omega⟩
      have e : textT ⟨2, [], (u : Int), at_⟩ = Lib.decDigits u := by unfold textT; rw [if_pos rfl]; exact Lib.itoa_nonneg u
      rw [e] at hf ⊢
      obtain ⟨hd, hv, ⟨b, r, hbr, hz⟩, _⟩ := dec_ok u
      rw [hbr] at hf hd hv ⊢
      have c3 : cls b.toNat = 3 := cls_digit (hd b (by simp))
      have hL : stepL b (r ++ rest) = (b :: r).length := by
        unfold stepL; rw [if_neg (by omega), if_pos c3, ← List.cons_append]
        exact nlen_full rest (hg.part (by decide)) _ (nlen_digits _ hd)
      have hok : numOk (b :: r) = true := by
        unfold numOk
        rw [hv]
        have : decide (u ≤ 1099511627776) = true := by simp; omega
        rw [this, Bool.true_and, Bool.or_eq_true]
        rcases hz with rfl | hz
        · exact .inl rfl
        · refine .inr ?_
          have : b ≠ 48 := fun e => hz (by rw [e]; rfl)
          simpa using this
      rw [List.cons_append] at hf
      refine ⟨by simp, k, ?_⟩
      have hA : stepA b (r ++ rest) = .tok 2 [] u := by
        unfold stepA
        rw [if_neg (by omega), if_neg (by omega), if_pos c3, hL, ← List.cons_append, List.take_left, if_pos hok, hv]
      rw [List.cons_append, lexGo_cons _ _ _ _ hf, hA, hL, ← List.cons_append, List.drop_left]
    · rw [if_neg h2] at ht
      by_cases h3 : kd = 3
      · subst h3
        rw [if_pos rfl, Bool.and_eq_true] at ht
        obtain ⟨hs, h0⟩ := ht
        have h0 : n = 0 := by simpa using h0
        subst h0
        have e : textT ⟨3, tx, 0, at_⟩ = tx := rfl
        rw [e] at hf ⊢
        match tx, hs with
        | [b], hs =>
          have hc : cls b.toNat = 5 ∨ cls b.toNat = 6 := by simpa [signOk] using hs
          have hh : rest.head? ≠ some 47 := by
            rcases hg with rfl | ⟨r, rfl⟩ <;> simp
          have hL : stepL b rest = 1 := by
            unfold stepL; rw [if_neg (by omega), if_neg (by omega), if_neg fun h => hh h.2]
          have hA : stepA b rest = .tok 3 [b] 0 := by
            unfold stepA
            rw [if_neg (by omega), if_neg (by omega), if_neg (by omega)]
            rcases hc with h5 | h6
            · rw [if_pos h5]
            · rw [if_neg (by omega), if_pos h6, if_neg hh]
          refine ⟨by simp, k, ?_⟩
          rw [List.singleton_append] at hf ⊢
          rw [lexGo_cons _ _ _ _ hf, hA, hL]
          rfl
      · rw [if_neg h3] at ht; cases ht

theorem tsame_at (t : Tok) (a : Int) : tsame t ⟨t.kind, t.text, t.n, a⟩ = true := by unfold tsame; simp

/-- The texts of valid tokens, with a space ahead of each, are read as those tokens. -/
theorem lexGo_tail : ∀ (l : List Tok) (f k : Nat), l.all validT = true → (Lib.joinTail [32] (l.map textT)).length ≤ f → ∃ m, lexGo f k (Lib.joinTail [32] (l.map textT)) = .ok m ∧ tsames l m = true
  | [], f, k, _, _ => ⟨[], by show lexGo f k [] = _; rw [lexGo_nil], rfl⟩
  | t :: l, f, k, hv, hf => by
    rw [List.all_cons, Bool.and_eq_true] at hv
    have e : Lib.joinTail [32] ((t :: l).map textT) = 32 :: (textT t ++ Lib.joinTail [32] (l.map textT)) := by
      unfold Lib.joinTail; simp
    rw [e] at hf ⊢
    have hg : Gap (Lib.joinTail [32] (l.map textT)) := by
      cases l with
      | nil => exact .inl rfl
      | cons c q => exact .inr ⟨_, by unfold Lib.joinTail; simp; rfl⟩
    rw [List.length_cons] at hf
    have hA : stepA 32 (textT t ++ Lib.joinTail [32] (l.map textT)) = .pass := by unfold stepA; rw [if_pos (by decide)]
    have hL : stepL 32 (textT t ++ Lib.joinTail [32] (l.map textT)) = 1 := by unfold stepL; rw [if_neg (by decide), if_neg (by decide), if_neg (fun h => absurd h.1 (by decide))]
    rw [lexGo_cons _ _ _ _ (by rw [List.length_cons]; omega), hA, hL]
    show ∃ m, lexGo f (k + 1) (textT t ++ Lib.joinTail [32] (l.map textT)) = .ok m ∧ _
    obtain ⟨_, a, h1⟩ := lexGo_word t hv.1 _ hg f (k + 1) (by omega)
    rw [List.length_append] at hf
    obtain ⟨m, h2, h3⟩ := lexGo_tail l f (k + 1 + (textT t).length) hv.2 (by omega)
    exact ⟨⟨t.kind, t.text, t.n, a⟩ :: m, by rw [h1, h2]; rfl, by rw [tsames, tsame_at, h3]; rfl⟩
theorem lexAll_text (l : List Tok) (hv : l.all validT = true) : ∃ m, lexAll (Lib.join (l.map textT) [32]) = .ok m ∧ tsames l m = true := by
  cases l with
  | nil => exact ⟨[], rfl, rfl⟩
  | cons t l =>
    rw [List.all_cons, Bool.and_eq_true] at hv
    rw [List.map_cons, Lib.join_cons]
    have hg : Gap (Lib.joinTail [32] (l.map textT)) := by
      cases l with
      | nil => exact .inl rfl
      | cons c q => exact .inr ⟨_, by unfold Lib.joinTail; simp; rfl⟩
    unfold lexAll
    obtain ⟨_, a, h1⟩ := lexGo_word t hv.1 _ hg _ 0 (Nat.le_refl _)
    obtain ⟨m, h2, h3⟩ := lexGo_tail l (textT t ++ Lib.joinTail [32] (l.map textT)).length (0 + (textT t).length) hv.2 (by rw [List.length_append]; omega)
    exact ⟨⟨t.kind, t.text, t.n, a⟩ :: m, by rw [h1, h2]; rfl, by rw [tsames, tsame_at, h3]; rfl⟩

theorem isFig_digit {b : UInt8} (h : isFig b.toNat = true) : 48 ≤ b.toNat ∧ b.toNat ≤ 57 := by
  unfold isFig at h
  have h : cls b.toNat = 3 := by simpa using h
  unfold cls at h
  split at h
  · cases h
  · split at h
    · cases h
    · split at h
      · assumption
      · split at h
        · cases h
        · split at h
          · cases h
          · split at h <;> cases h
theorem digits_take : ∀ (l : List UInt8), Digits (l.take (nlen isFig l))
  | [] => fun b hb => by cases hb
  | b :: l => by
    rw [nlen]
    by_cases hb : isFig b.toNat = true
    · rw [if_pos hb, List.take_succ_cons]
      intro c hc
      rcases List.mem_cons.1 hc with rfl | hc
      · exact isFig_digit hb
      · exact digits_take l c hc
    · rw [if_neg hb]
      intro c hc
      cases hc
theorem val10_lt : ∀ (l : List UInt8) (n : Nat), Digits l → val10 n l < (n + 1) * 10 ^ l.length
  | [], n, _ => by rw [val10_nil]; simp
  | b :: l, n, h => by
    rw [val10_cons, List.length_cons, Nat.pow_succ]
    have hb := h b (by simp)
    have h1 := val10_lt l (10 * n + (b.toNat - 48)) fun c hc => h c (by simp [hc])
    refine Nat.lt_of_lt_of_le h1 ?_
    rw [Nat.mul_comm (10 ^ l.length) 10, ← Nat.mul_assoc]
    exact Nat.mul_le_mul_right _ (by omega)
theorem dec_len : ∀ (k u : Nat), u < 10 ^ (k + 1) → (Lib.decDigits u).length ≤ k + 1
  | 0, u, h => by rw [Lib.decDigits, dif_pos (by simpa using h)]; simp
  | k + 1, u, h => by
    rw [Lib.decDigits]
    by_cases hu : u < 10
    · rw [dif_pos hu]; simp
    · rw [dif_neg hu, List.length_append]
      have := dec_len k (u / 10) (by rw [Nat.pow_succ] at h; omega)
      simp
      omega

/-- A step's token is valid, and its text is not longer than the step. -/
theorem stepA_tok {b : UInt8} {r : List UInt8} {c : Int} {x : List UInt8} {n : Int} (h : stepA b r = .tok c x n) (a : Int) : validT ⟨c, x, n, a⟩ = true ∧ (textT ⟨c, x, n, a⟩).length ≤ stepL b r ∧ -9223372036854775808 ≤ n ∧ n ≤ 9223372036854775807 := by
  have hlen : ((b :: r).take (stepL b r)).length = stepL b r := by rw [List.length_take]; have := stepL_le b r; omega
  unfold stepA at h
  split at h
  · cases h
  · split at h
    · split at h
      · rename_i hok
        injection h with h1 h2 h3
        subst h1; subst h2; subst h3
        refine ⟨by unfold validT; rw [if_pos rfl, hok]; rfl, ?_, by omega, by omega⟩
        show (List.take _ _).length ≤ _
        omega
      · cases h
    · split at h
      · rename_i h3
        split at h
        · rename_i hok
          injection h with h1 h2 h4
          subst h1; subst h2; subst h4
          have hL : stepL b r = nlen isFig (b :: r) := by unfold stepL; rw [if_neg (by omega), if_pos h3]
          have hd : Digits ((b :: r).take (stepL b r)) := by rw [hL]; exact digits_take _
          have hv := val10_lt _ 0 hd
          rw [hlen] at hv
          simp only [numOk, Bool.and_eq_true, decide_eq_true_eq] at hok
          refine ⟨?_, ?_, by omega, by omega⟩
          · have := hok.1
            simp [validT]
            omega
          · have e : textT ⟨2, [], ((val10 0 ((b :: r).take (stepL b r)) : Nat) : Int), a⟩ = Lib.decDigits (val10 0 ((b :: r).take (stepL b r))) := by unfold textT; rw [if_pos rfl]; exact Lib.itoa_nonneg _
            rw [e]
            have hp := stepL_pos b r
            obtain ⟨k, hk⟩ : ∃ k, stepL b r = k + 1 := ⟨stepL b r - 1, by omega⟩
            rw [hk] at hv ⊢
            exact dec_len k _ (by simpa using hv)
        · cases h
      · split at h
        · rename_i h5
          injection h with h1 h2 h4
          subst h1; subst h2; subst h4
          refine ⟨by unfold validT; simp [signOk, h5], ?_, by omega, by omega⟩
          have := stepL_pos b r
          show 1 ≤ _
          omega
        · split at h
          · rename_i h6
            split at h
            · cases h
            · injection h with h1 h2 h4
              subst h1; subst h2; subst h4
              refine ⟨by unfold validT; simp [signOk, h6], ?_, by omega, by omega⟩
              have := stepL_pos b r
              show 1 ≤ _
              omega
          · cases h
/-- The tokens of a source. -/
theorem lexGo_toks : ∀ (f k : Nat) (bs : List UInt8) (l : List Tok), lexGo f k bs = .ok l → l.all validT = true ∧ (Lib.joinTail [32] (l.map textT)).length ≤ 2 * bs.length ∧ l.length ≤ bs.length ∧ ∀ t ∈ l, t.text.length ≤ bs.length ∧ (-9223372036854775808 ≤ t.n ∧ t.n ≤ 9223372036854775807)
  | 0, k, bs, l, h => by rw [lexGo] at h; injection h with h; subst h; exact ⟨rfl, by simp [Lib.joinTail], by simp, fun t ht => by cases ht⟩
  | f + 1, k, [], l, h => by rw [lexGo] at h; injection h with h; subst h; exact ⟨rfl, by simp [Lib.joinTail], by simp, fun t ht => by cases ht⟩
  | f + 1, k, b :: r, l, h => by
    have hp := stepL_pos b r
    have hle := stepL_le b r
    have hdl : ((b :: r).drop (stepL b r)).length = (b :: r).length - stepL b r := List.length_drop
    rw [lexGo] at h
    cases hA : stepA b r with
    | no => rw [hA] at h; cases h
    | pass =>
      rw [hA] at h
      obtain ⟨h1, h2, h3, h4⟩ := lexGo_toks f _ _ l h
      refine ⟨h1, by omega, by omega, fun t ht => ⟨by have := (h4 t ht).1; omega, (h4 t ht).2⟩⟩
    | tok c tx n =>
      rw [hA] at h
      obtain ⟨v1, v2, v3⟩ := stepA_tok hA (k : Int)
      cases hr : lexGo f (k + stepL b r) ((b :: r).drop (stepL b r)) with
      | bad p => rw [hr] at h; cases h
      | ok m =>
        rw [hr] at h
        injection h with h
        subst h
        obtain ⟨h1, h2, h3, h4⟩ := lexGo_toks f _ _ m hr
        refine ⟨by rw [List.all_cons, v1, h1]; rfl, ?_, by rw [List.length_cons]; omega, fun t ht => ?_⟩
        · have e : (Lib.joinTail [32] ((⟨c, tx, n, (k : Int)⟩ :: m : List Tok).map textT)).length = 1 + (textT ⟨c, tx, n, (k : Int)⟩).length + (Lib.joinTail [32] (m.map textT)).length := by
            unfold Lib.joinTail; simp; omega
          rw [e]
          omega
        · rcases List.mem_cons.1 ht with rfl | ht
          · refine ⟨?_, v3⟩
            show tx.length ≤ _
            unfold textT at v2
            dsimp only at v2
            by_cases hc : c = 2
            · subst hc
              have : tx = [] := by
                simp [validT] at v1
                exact v1.1
              rw [this]; simp
            · rw [if_neg hc] at v2
              omega
          · exact ⟨by have := (h4 t ht).1; omega, (h4 t ht).2⟩
theorem join_len (l : List (List UInt8)) : (Lib.join l [32]).length ≤ (Lib.joinTail [32] l).length := by
  cases l with
  | nil => simp [Lib.join_nil]
  | cons x r => rw [Lib.join_cons]; unfold Lib.joinTail; simp
theorem lexAll_toks {bs : List UInt8} {l : List Tok} (h : lexAll bs = .ok l) : l.all validT = true ∧ (Lib.join (l.map textT) [32]).length ≤ 2 * bs.length ∧ l.length ≤ bs.length ∧ ∀ t ∈ l, t.text.length ≤ bs.length ∧ (-9223372036854775808 ≤ t.n ∧ t.n ≤ 9223372036854775807) := by
  obtain ⟨h1, h2, h3, h4⟩ := lexGo_toks _ _ _ l h
  exact ⟨h1, Nat.le_trans (join_len _) h2, h3, h4⟩
end Go.Proofs.YtdcdldjbdjochaaDoor
