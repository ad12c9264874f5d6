/- Tokens with white space and comments between them: what Lex gives for them. Functions on lists alone. -/
import Derived.Test.YtdcdldjbdjochaaDoorLbk
namespace Go.Proofs.YtdcdldjbdjochaaDoor
open Go.RowKit

/-- What Lex passes by, whatever comes behind it. -/
def Skips (g : List UInt8) : Prop := ∀ (f k : Nat) (tl : List UInt8), (g ++ tl).length ≤ f → lexGo f k (g ++ tl) = lexGo f (k + g.length) tl
theorem skips_nil : Skips [] := fun _ _ _ _ => rfl
theorem skips_app {a b : List UInt8} (ha : Skips a) (hb : Skips b) : Skips (a ++ b) := fun f k tl h => by
  rw [List.append_assoc] at h ⊢
  have h2 : (b ++ tl).length ≤ f := by rw [List.length_append] at h; omega
  rw [ha f k (b ++ tl) h, hb f (k + a.length) tl h2, List.length_append, Nat.add_assoc]
theorem skips_space (c : UInt8) (hc : cls c.toNat = 1) : Skips [c] := fun f k tl h => by
  have e1 : stepA c tl = .pass := by unfold stepA; rw [if_pos hc]
  have e2 : stepL c tl = 1 := by unfold stepL; rw [if_neg (by omega), if_neg (by omega), if_neg (by omega)]
  rw [List.singleton_append] at h ⊢
  rw [lexGo_cons f k c tl h, e1, e2]
  rfl
theorem nlen_no10 : ∀ (l : List UInt8), (∀ b ∈ l, b.toNat ≠ 10) → nlen notLF l = l.length
  | [], _ => rfl
  | b :: l, h => by
    have h1 : notLF b.toNat = true := by have := h b (by simp); simpa [notLF] using this
    rw [nlen, if_pos h1, nlen_no10 l fun c hc => h c (by simp [hc]), List.length_cons]
theorem skips_note (ws : List UInt8) (hw : ∀ b ∈ ws, b.toNat ≠ 10) : Skips (47 :: 47 :: (ws ++ [10])) := fun f k tl h => by
  have e0 : (47 :: 47 :: (ws ++ [10]) : List UInt8) ++ tl = (47 : UInt8) :: (47 :: ws ++ 10 :: tl) := by simp
  rw [e0] at h ⊢
  have e1 : stepA 47 (47 :: ws ++ 10 :: tl) = .pass := by
    unfold stepA
    rw [if_neg (by decide), if_neg (by decide), if_neg (by decide), if_neg (by decide), if_pos (by decide), if_pos (by rfl)]
  have e2 : stepL 47 (47 :: ws ++ 10 :: tl) = ws.length + 2 := by
    unfold stepL
    rw [if_neg (by decide), if_neg (by decide), if_pos ⟨by decide, by rfl⟩]
    have := nlen_full (p := notLF) (10 :: tl) (fun c r e => by injection e with e _; rw [← e]; rfl) (47 :: 47 :: ws) (nlen_no10 _ fun b hb => by
      rcases List.mem_cons.1 hb with rfl | hb
      · decide
      · rcases List.mem_cons.1 hb with rfl | hb
        · decide
        · exact hw b hb)
    rw [show (47 :: (47 :: ws ++ 10 :: tl) : List UInt8) = (47 :: 47 :: ws) ++ 10 :: tl by simp, this]
    simp
  rw [lexGo_cons _ _ _ _ h, e1, e2]
  show lexGo f (k + (ws.length + 2)) ((47 :: (47 :: ws ++ 10 :: tl) : List UInt8).drop (ws.length + 2)) = _
  have e3 : (47 :: (47 :: ws ++ 10 :: tl) : List UInt8).drop (ws.length + 2) = [10] ++ tl := by
    rw [show (47 :: (47 :: ws ++ 10 :: tl) : List UInt8) = (47 :: 47 :: ws) ++ ([10] ++ tl) by simp]
    exact List.drop_left' (by simp)
  rw [e3, skips_space 10 (by decide) f _ tl (by simp at h ⊢; omega)]
  congr 1
  simp
  omega

/-- Tokens from number i on, each with a space and a gap behind it. -/
def spc (gp : Nat → List UInt8) : Nat → List Tok → List UInt8
  | _, [] => []
  | i, t :: l => textT t ++ (32 :: gp i) ++ spc gp (i + 1) l
theorem spc_snoc (gp : Nat → List UInt8) (t : Tok) : ∀ (l : List Tok) (i : Nat), spc gp i (l ++ [t]) = spc gp i l ++ (textT t ++ (32 :: gp (i + l.length)))
  | [], i => by simp [spc]
  | c :: l, i => by
    rw [List.cons_append, spc, spc_snoc gp t l (i + 1), spc, List.length_cons, show i + 1 + l.length = i + (l.length + 1) by omega]
    simp
theorem spc_take (gp : Nat → List UInt8) (l : List Tok) (j : Nat) (h : j < l.length) : spc gp 0 (l.take (j + 1)) = spc gp 0 (l.take j) ++ (textT l[j] ++ (32 :: gp j)) := by
  rw [List.take_succ_eq_append_getElem h, spc_snoc, List.length_take, Nat.min_eq_left (by omega), Nat.zero_add]
theorem lexGo_spc (gp : Nat → List UInt8) (hg : ∀ i, Skips (gp i)) : ∀ (l : List Tok) (i f k : Nat), l.all validT = true → (spc gp i l).length ≤ f → ∃ m, lexGo f k (spc gp i l) = .ok m ∧ tsames l m = true
  | [], i, f, k, _, _ => ⟨[], by show lexGo f k [] = _; rw [lexGo_nil], rfl⟩
  | t :: l, i, f, k, hv, hf => by
    rw [List.all_cons, Bool.and_eq_true] at hv
    rw [spc, List.append_assoc] at hf ⊢
    rw [List.cons_append] at hf ⊢
    obtain ⟨_, a, h1⟩ := lexGo_word t hv.1 (32 :: (gp i ++ spc gp (i + 1) l)) (.inr ⟨_, rfl⟩) f k hf
    have h2 : (32 :: (gp i ++ spc gp (i + 1) l)).length ≤ f := by rw [List.length_append] at hf; omega
    have h3 := skips_app (skips_space 32 (by decide)) (hg i) f (k + (textT t).length) (spc gp (i + 1) l) h2
    obtain ⟨m, h4, h5⟩ := lexGo_spc gp hg l (i + 1) f (k + (textT t).length + ([32] ++ gp i).length) hv.2 (by simp at h2; omega)
    refine ⟨⟨t.kind, t.text, t.n, a⟩ :: m, ?_, by rw [tsames, tsame_at, h5]; rfl⟩
    rw [h1, show (32 :: (gp i ++ spc gp (i + 1) l) : List UInt8) = [32] ++ gp i ++ spc gp (i + 1) l by simp, h3, h4]
    rfl
/-- Behind a line feed. -/
theorem lexAll_spc (gp : Nat → List UInt8) (hg : ∀ i, Skips (gp i)) (l : List Tok) (hv : l.all validT = true) : ∃ m, lexAll (10 :: spc gp 0 l) = .ok m ∧ tsames l m = true := by
  unfold lexAll
  have h1 := skips_space 10 (by decide) (10 :: spc gp 0 l).length 0 (spc gp 0 l) (by simp)
  rw [List.singleton_append] at h1
  rw [h1]
  exact lexGo_spc gp hg l 0 _ _ hv (by simp)
theorem spc_len (gp : Nat → List UInt8) (q : Nat) (hq : ∀ i, (gp i).length ≤ q) : ∀ (l : List Tok) (i : Nat), (∀ t ∈ l, (textT t).length ≤ t.text.length + 21) → (spc gp i l).length ≤ (l.map fun t => t.text.length).sum + (22 + q) * l.length
  | [], i, _ => by simp [spc]
  | t :: l, i, h => by
    have h1 := spc_len gp q hq l (i + 1) fun c hc => h c (by simp [hc])
    have h2 := h t (by simp)
    have h3 := hq i
    rw [spc]
    simp only [List.length_append, List.length_cons, List.map_cons, List.sum_cons]
    rw [Nat.mul_add, Nat.mul_one]
    omega

/-- The eight gaps of the law. -/
def gaps (ws : List UInt8) : List (List UInt8) := [[32], [9], [10], [13, 10], [32, 32], [47, 47] ++ ws ++ [10], [32, 47, 47, 32, 10], [10, 47, 47, 10]]
theorem gaps_skip (ws : List UInt8) (hw : ∀ b ∈ ws, b.toNat ≠ 10) : ∀ g ∈ gaps ws, Skips g := by
  intro g hg
  have sp := fun c h => skips_space c h
  unfold gaps at hg
  simp only [List.mem_cons, List.not_mem_nil, or_false] at hg
  rcases hg with rfl | rfl | rfl | rfl | rfl | rfl | rfl | rfl
  · exact sp 32 (by decide)
  · exact sp 9 (by decide)
  · exact sp 10 (by decide)
  · exact skips_app (sp 13 (by decide)) (sp 10 (by decide))
  · exact skips_app (sp 32 (by decide)) (sp 32 (by decide))
  · exact skips_note ws hw
  · exact skips_app (sp 32 (by decide)) (skips_note [32] (by decide))
  · exact skips_app (sp 10 (by decide)) (skips_note [] (by simp))
theorem gaps_len (ws : List UInt8) (hw : ws.length ≤ 100) : ∀ g ∈ gaps ws, g.length ≤ 103 := by
  intro g hg
  unfold gaps at hg
  simp only [List.mem_cons, List.not_mem_nil, or_false] at hg
  rcases hg with rfl | rfl | rfl | rfl | rfl | rfl | rfl | rfl <;> simp <;> omega
end Go.Proofs.YtdcdldjbdjochaaDoor
