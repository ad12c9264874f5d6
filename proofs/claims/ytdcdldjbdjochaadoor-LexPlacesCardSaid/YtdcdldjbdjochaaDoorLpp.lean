/- Where a source's tokens stand, and what stands between them. Functions on lists alone. -/
import Derived.Test.YtdcdldjbdjochaaDoorLsp
namespace Go.Proofs.YtdcdldjbdjochaaDoor
open Go.RowKit

/-- Is a byte of a gap within a comment? -/
def noteB (c : Bool) (b : UInt8) (r : List UInt8) : Bool := !(b.toNat == 10) && (c || (b.toNat == 47 && r.head? == some 47))
/-- A gap is white space and comments: does it end within a comment? -/
def gapGo : Bool → List UInt8 → Option Bool
  | c, [] => some c
  | c, b :: r => if !(noteB c b r) && !(cls b.toNat == 1) then none else gapGo (noteB c b r) r
/-- The tokens stand at their places, with gaps between them. -/
def Stand : Nat → List UInt8 → List Tok → Prop
  | _, bs, [] => ∃ c, gapGo false bs = some c
  | k, bs, t :: l => ∃ g : Nat, t.at_ = (k + g : Nat) ∧ 0 < (textT t).length ∧ g + (textT t).length ≤ bs.length ∧ gapGo false (bs.take g) = some false ∧ (bs.drop g).take (textT t).length = textT t ∧
      (∀ q, bs = 10 :: q → 0 < g) ∧ Stand (k + g + (textT t).length) (bs.drop (g + (textT t).length)) l
theorem noteB_10 (c : Bool) (b : UInt8) (r : List UInt8) (h : b.toNat = 10) : noteB c b r = false := by unfold noteB; rw [h]; rfl
theorem gapGo_10 (c : Bool) (q : List UInt8) : gapGo c (10 :: q) = gapGo false q := by
  rw [gapGo, noteB_10 c 10 q rfl]; rfl
/-- A white byte ahead. -/
theorem gapGo_space (b : UInt8) (r : List UInt8) (h : cls b.toNat = 1) : gapGo false (b :: r) = gapGo false r := by
  have h47 : b.toNat ≠ 47 := fun e => by rw [e] at h; exact absurd h (by decide)
  have hn : noteB false b r = false := by
    unfold noteB
    have : (b.toNat == 47) = false := by simpa using h47
    rw [this]; simp
  rw [gapGo, hn, h]; rfl
/-- Within a comment, up to its end. -/
theorem gapGo_note : ∀ (ws tl : List UInt8), (∀ b ∈ ws, b.toNat ≠ 10) → gapGo true (ws ++ tl) = gapGo true tl
  | [], _, _ => rfl
  | b :: ws, tl, h => by
    have hb : (b.toNat == 10) = false := by have := h b (by simp); simpa using this
    have hn : noteB true b (ws ++ tl) = true := by unfold noteB; rw [hb]; rfl
    rw [List.cons_append, gapGo, hn]
    exact gapGo_note ws tl fun c hc => h c (by simp [hc])
theorem gapGo_slash (ws tl : List UInt8) (h : ∀ b ∈ ws, b.toNat ≠ 10) : gapGo false (47 :: 47 :: (ws ++ tl)) = gapGo true tl := by
  have h1 : noteB false 47 (47 :: (ws ++ tl)) = true := by unfold noteB; rfl
  rw [gapGo, h1]
  exact gapGo_note (47 :: ws) tl fun b hb => by
    rcases List.mem_cons.1 hb with rfl | hb
    · decide
    · exact h b hb
/-- A gap ahead of what stands. -/
theorem stand_after {k : Nat} {p bs : List UInt8} {l : List Tok} (h : Stand (k + p.length) bs l) (hp : 0 < p.length) (hg : ∀ q, gapGo false (p ++ q) = gapGo false q) : Stand k (p ++ bs) l := by
  cases l with
  | nil => obtain ⟨c, h⟩ := h; exact ⟨c, by rw [hg]; exact h⟩
  | cons t l =>
    obtain ⟨g, h1, h2, h3, h4, h5, _, h7⟩ := h
    refine ⟨p.length + g, by rw [h1]; congr 1; omega, h2, by rw [List.length_append]; omega, ?_, ?_, fun _ _ => by omega, ?_⟩
    · rw [List.take_append, List.take_of_length_le (by omega), hg, Nat.add_sub_cancel_left]; exact h4
    · rw [List.drop_append, List.drop_eq_nil_of_le (by omega), List.nil_append, Nat.add_sub_cancel_left]; exact h5
    · rw [show p.length + g + (textT t).length = p.length + (g + (textT t).length) by omega, List.drop_append, List.drop_eq_nil_of_le (by omega), List.nil_append, Nat.add_sub_cancel_left,
        show k + (p.length + g) + (textT t).length = k + p.length + g + (textT t).length by omega]
      exact h7
/-- A comment's bytes, then the end or a line feed. -/
theorem stand_note {k : Nat} {ws bs : List UInt8} {l : List Tok} (hw : ∀ b ∈ ws, b.toNat ≠ 10) (hb : bs = [] ∨ ∃ q, bs = 10 :: q) (h : Stand (k + (ws.length + 2)) bs l) : Stand k (47 :: 47 :: (ws ++ bs)) l := by
  have ha : ∀ q, q = [] ∨ (∃ r, q = 10 :: r) → ∀ x, gapGo false q = some x → ∃ y, gapGo false (47 :: 47 :: (ws ++ q)) = some y ∧ (q ≠ [] → y = x) := fun q hq x hx => by
    rw [gapGo_slash ws q hw]
    rcases hq with rfl | ⟨r, rfl⟩
    · exact ⟨true, rfl, fun h => absurd rfl h⟩
    · rw [gapGo_10] at hx ⊢
      exact ⟨x, hx, fun _ => rfl⟩
  cases l with
  | nil =>
    obtain ⟨c, h⟩ := h
    obtain ⟨y, hy, _⟩ := ha bs hb c h
    exact ⟨y, hy⟩
  | cons t l =>
    obtain ⟨g, h1, h2, h3, h4, h5, h6, h7⟩ := h
    have e : ∀ q : List UInt8, (47 :: 47 :: (ws ++ q) : List UInt8) = (47 :: 47 :: ws) ++ q := fun _ => rfl
    have hl : (47 :: 47 :: ws : List UInt8).length = ws.length + 2 := rfl
    rcases hb with rfl | ⟨q, rfl⟩
    · rw [List.length_nil] at h3; omega
    have hg := h6 q rfl
    obtain ⟨g', rfl⟩ : ∃ g', g = g' + 1 := ⟨g - 1, by omega⟩
    rw [List.take_succ_cons] at h4
    obtain ⟨y, hy, hyx⟩ := ha (10 :: q.take g') (.inr ⟨_, rfl⟩) false h4
    have hyf := hyx (by simp)
    subst hyf
    rw [e]
    refine ⟨(47 :: 47 :: ws : List UInt8).length + (g' + 1), by rw [h1, hl]; congr 1; omega, h2, by rw [List.length_append]; omega, ?_, ?_, fun _ _ => by omega, ?_⟩
    · rw [List.take_append, List.take_of_length_le (by omega), Nat.add_sub_cancel_left, List.take_succ_cons]; exact hy
    · rw [List.drop_append, List.drop_eq_nil_of_le (by omega), List.nil_append, Nat.add_sub_cancel_left]; exact h5
    · rw [show (47 :: 47 :: ws : List UInt8).length + (g' + 1) + (textT t).length = (47 :: 47 :: ws : List UInt8).length + (g' + 1 + (textT t).length) by omega, List.drop_append, List.drop_eq_nil_of_le (by omega), List.nil_append, Nat.add_sub_cancel_left, hl,
        show k + (ws.length + 2 + (g' + 1)) + (textT t).length = k + (ws.length + 2) + (g' + 1) + (textT t).length by omega]
      exact h7
/-- Digits that begin with 0 only when they are "0" are the numeral of what they mean. -/
theorem dec_val : ∀ (n : Nat) (l : List UInt8), l.length = n → Digits l → l ≠ [] → (l.length = 1 ∨ l.head? ≠ some 48) → Lib.decDigits (val10 0 l) = l
  | 0, l, h, _, hne, _ => absurd (List.length_eq_zero_iff.1 h) hne
  | n + 1, l, h, hd, hne, hz => by
    obtain ⟨q, d, rfl⟩ : ∃ q d, l = q ++ [d] := ⟨l.dropLast, l.getLast hne, (List.dropLast_concat_getLast hne).symm⟩
    have hdd := hd d (by simp)
    rw [val10_app, val10_cons, val10_nil]
    cases hq : q with
    | nil =>
      rw [val10_nil, Lib.decDigits, dif_pos (by omega)]
      have : UInt8.ofNat (48 + (10 * 0 + (d.toNat - 48))) = d := by
        apply UInt8.toNat_inj.1
        rw [UInt8.toNat_ofNat']
        omega
      rw [this]; rfl
    | cons c r =>
      have hz2 : c ≠ 48 := by
        rcases hz with h1 | h1
        · rw [hq] at h1; simp at h1
        · rw [hq] at h1; simpa using h1
      have hdc := hd c (by rw [hq]; simp)
      have hc48 : c.toNat ≠ 48 := fun e => hz2 (UInt8.toNat_inj.1 (by rw [e]; rfl))
      have ih := dec_val n q (by rw [List.length_append] at h; simpa using h) (fun b hb => hd b (by simp [hb])) (by rw [hq]; simp) (.inr (by rw [hq]; simpa using hz2))
      rw [← hq]
      have hge : 1 ≤ val10 0 q := by
        rw [hq, val10_cons]
        have := val10_ge r (10 * 0 + (c.toNat - 48))
        omega
      rw [Lib.decDigits, dif_neg (by omega)]
      rw [show (10 * val10 0 q + (d.toNat - 48)) / 10 = val10 0 q by omega, ih, show (10 * val10 0 q + (d.toNat - 48)) % 10 = d.toNat - 48 by omega]
      congr 2
      apply UInt8.toNat_inj.1
      rw [UInt8.toNat_ofNat']
      omega
/-- A token is written as it stands. -/
theorem stepA_text {b : UInt8} {r : List UInt8} {c : Int} {x : List UInt8} {n : Int} (h : stepA b r = .tok c x n) (a : Int) : textT ⟨c, x, n, a⟩ = (b :: r).take (stepL b r) ∧ cls b.toNat ≠ 1 := by
  unfold stepA at h
  split at h
  · cases h
  · rename_i hn1
    refine ⟨?_, hn1⟩
    split at h
    · split at h
      · injection h with h1 h2 h3
        subst h1; subst h2; subst h3
        rfl
      · cases h
    · rename_i hn2
      split at h
      · rename_i h3
        split at h
        · rename_i hok
          injection h with h1 h2 h4
          subst h1; subst h2; subst h4
          have hL : stepL b r = nlen isFig (b :: r) := by unfold stepL; rw [if_neg (by omega), if_pos h3]
          have hd : Digits ((b :: r).take (stepL b r)) := by rw [hL]; exact digits_take _
          have hp := stepL_pos b r
          obtain ⟨k, hk⟩ : ∃ k, stepL b r = k + 1 := ⟨stepL b r - 1, by omega⟩
          simp only [numOk, Bool.and_eq_true, Bool.or_eq_true, beq_iff_eq, Bool.not_eq_true'] at hok
          have e : textT ⟨2, [], ((val10 0 ((b :: r).take (stepL b r)) : Nat) : Int), a⟩ = Lib.decDigits (val10 0 ((b :: r).take (stepL b r))) := by unfold textT; rw [if_pos rfl]; exact Lib.itoa_nonneg _
          rw [e]
          refine dec_val _ _ rfl hd (by rw [hk]; simp) ?_
          rcases hok.2 with h5 | h5
          · exact .inl h5
          · exact .inr (by simpa using h5)
        · cases h
      · rename_i hn3
        have h1L : ∀ (h6 : cls b.toNat = 6 → r.head? ≠ some 47), stepL b r = 1 := fun h6 => by
          unfold stepL; rw [if_neg hn2, if_neg hn3, if_neg fun h => h6 h.1 h.2]
        split at h
        · rename_i h5
          injection h with h1 h2 h4
          subst h1; subst h2; subst h4
          rw [h1L fun h6 => by omega]; rfl
        · split at h
          · split at h
            · cases h
            · rename_i hh
              injection h with h1 h2 h4
              subst h1; subst h2; subst h4
              rw [h1L fun _ => hh]; rfl
          · cases h
theorem nlen_split (p : Nat → Bool) : ∀ (l : List UInt8), l.drop (nlen p l) = [] ∨ ∃ c q, l.drop (nlen p l) = c :: q ∧ p c.toNat = false
  | [] => .inl rfl
  | b :: r => by
    rw [nlen]
    by_cases h : p b.toNat = true
    · rw [if_pos h, List.drop_succ_cons]; exact nlen_split p r
    · rw [if_neg h]; exact .inr ⟨b, r, rfl, by simpa using h⟩
theorem lexGo_stand : ∀ (f k : Nat) (bs : List UInt8) (l : List Tok), bs.length ≤ f → lexGo f k bs = .ok l → Stand k bs l
  | 0, k, bs, l, hf, h => by
    rw [lexGo] at h; injection h with h; subst h
    have : bs = [] := List.length_eq_zero_iff.1 (by omega)
    subst this
    exact ⟨false, rfl⟩
  | f + 1, k, [], l, _, h => by rw [lexGo] at h; injection h with h; subst h; exact ⟨false, rfl⟩
  | f + 1, k, b :: r, l, hf, h => by
    have hp := stepL_pos b r
    have hle := stepL_le b r
    have hdl : ((b :: r).drop (stepL b r)).length = (b :: r).length - stepL b r := List.length_drop
    have hrest := fun l h => lexGo_stand f (k + stepL b r) ((b :: r).drop (stepL b r)) l (by rw [hdl]; omega) h
    have htl : ((b :: r).take (stepL b r)).length = stepL b r := by rw [List.length_take]; omega
    have hsplit : b :: r = (b :: r).take (stepL b r) ++ (b :: r).drop (stepL b r) := (List.take_append_drop _ _).symm
    rw [lexGo] at h
    cases hA : stepA b r with
    | no => rw [hA] at h; cases h
    | pass =>
      rw [hA] at h
      have ih := hrest l h
      by_cases h1 : cls b.toNat = 1
      · have eL : stepL b r = 1 := by unfold stepL; rw [if_neg (by omega), if_neg (by omega), if_neg (by omega)]
        rw [eL] at ih
        exact stand_after (p := [b]) ih (by simp) fun q => gapGo_space b q h1
      · have h6 : cls b.toNat = 6 ∧ r.head? = some 47 := by
          unfold stepA at hA
          rw [if_neg h1] at hA
          split at hA
          · split at hA <;> cases hA
          · split at hA
            · split at hA <;> cases hA
            · split at hA
              · cases hA
              · split at hA
                · split at hA
                  · rename_i a1 a2; exact ⟨a1, a2⟩
                  · cases hA
                · cases hA
        have eL : stepL b r = nlen notLF (b :: r) := by unfold stepL; rw [if_neg (by omega), if_neg (by omega), if_pos h6]
        have hb : b = 47 := UInt8.toNat_inj.1 (cls_slash h6.1)
        obtain ⟨q, rfl⟩ : ∃ q, r = 47 :: q := by
          cases r with
          | nil => simp at h6
          | cons x q => simp at h6; exact ⟨q, by rw [h6.2]⟩
        subst hb
        have eN : nlen notLF (47 :: 47 :: q) = nlen notLF q + 2 := by
          rw [nlen, if_pos (by decide), nlen, if_pos (by decide)]
        rw [eN] at eL
        rw [eL] at ih
        have hq := List.take_append_drop (nlen notLF q) q
        have hql : (q.take (nlen notLF q)).length = nlen notLF q := by rw [List.length_take]; have := nlen_le notLF q; omega
        have := stand_note (k := k) (ws := q.take (nlen notLF q)) (bs := q.drop (nlen notLF q)) (l := l) (fun b hb => by
          have := take_nlen notLF q b hb
          simpa [notLF] using this) (by
          rcases nlen_split notLF q with h0 | ⟨c, z, h0, hc⟩
          · exact .inl h0
          · have : c.toNat = 10 := by simpa [notLF] using hc
            have : c = 10 := UInt8.toNat_inj.1 this
            subst this
            exact .inr ⟨z, h0⟩) (by rw [hql]; exact ih)
        rw [hq] at this
        exact this
    | tok c x n =>
      rw [hA] at h
      obtain ⟨e1, e2⟩ := stepA_text hA (k : Int)
      cases hr : lexGo f (k + stepL b r) ((b :: r).drop (stepL b r)) with
      | bad p => rw [hr] at h; cases h
      | ok m =>
        rw [hr] at h
        injection h with h
        subst h
        have ih := hrest m hr
        have hlen : (textT ⟨c, x, n, (k : Int)⟩).length = stepL b r := by rw [e1]; exact htl
        refine ⟨0, by simp, by omega, by omega, rfl, ?_, fun q hq => ?_, ?_⟩
        · rw [hlen, e1]; rfl
        · injection hq with hq _
          subst hq
          exact absurd (by decide) e2
        · rw [hlen, Nat.zero_add, Nat.add_zero]; exact ih
theorem lexAll_stand {bs : List UInt8} {l : List Tok} (h : lexAll bs = .ok l) : Stand 0 bs l := lexGo_stand _ 0 bs l (Nat.le_refl _) h
end Go.Proofs.YtdcdldjbdjochaaDoor
