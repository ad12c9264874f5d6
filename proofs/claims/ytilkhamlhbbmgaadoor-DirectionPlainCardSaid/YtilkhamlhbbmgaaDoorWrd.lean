/- The law TextWord, walked. -/
import Derived.Test.YtilkhamlhbbmgaaDoorLbk
namespace Go.Proofs.YtilkhamlhbbmgaaDoor
open Go.RowKit

theorem flds_mem (sp : Int → Bool) : ∀ (l cur : List Int) (P : Int → Prop), (∀ x ∈ cur, P x) → (∀ x ∈ l, sp x = false → P x) → ∀ f ∈ flds sp cur l, f ≠ [] ∧ ∀ x ∈ f, P x
  | [], cur, P, hc, _, f, hf => by
    unfold flds at hf
    by_cases h : cur = []
    · rw [if_pos h] at hf; cases hf
    · rw [if_neg h, List.mem_singleton] at hf; subst hf; exact ⟨h, hc⟩
  | r :: l, cur, P, hc, hl, f, hf => by
    unfold flds at hf
    have hl2 : ∀ x ∈ l, sp x = false → P x := fun x hx => hl x (by simp [hx])
    by_cases hs : sp r = true
    · rw [if_pos hs] at hf
      by_cases h : cur = []
      · rw [if_pos h] at hf
        exact flds_mem sp l [] P (fun _ h => by cases h) hl2 f hf
      · rw [if_neg h, List.mem_cons] at hf
        rcases hf with rfl | hf
        · exact ⟨h, hc⟩
        · exact flds_mem sp l [] P (fun _ h => by cases h) hl2 f hf
    · rw [if_neg hs] at hf
      refine flds_mem sp l (cur ++ [r]) P (fun x hx => ?_) hl2 f hf
      rw [List.mem_append, List.mem_singleton] at hx
      rcases hx with hx | rfl
      · exact hc x hx
      · exact hl x (by simp) (by simpa using hs)
theorem flds_whole (sp : Int → Bool) : ∀ (l cur : List Int), l.any sp = false → flds sp cur l = if cur ++ l = [] then [] else [cur ++ l]
  | [], cur, _ => by simp [flds]
  | r :: l, cur, h => by
    rw [List.any_cons, Bool.or_eq_false_iff] at h
    unfold flds
    rw [if_neg (by simp [h.1]), flds_whole sp l (cur ++ [r]) h.2]
    simp
theorem knd_sp (r : Int) : (knd r != 1) = !isSp r := by
  unfold knd
  cases isSp r with
  | true => rfl
  | false => cases isDg r <;> cases isLf r <;> cases isRt r <;> rfl
theorem knd_in (r : Int) : 0 ≤ knd r ∧ knd r ≤ 4 := by
  unfold knd
  cases isSp r <;> cases isDg r <;> cases isLf r <;> cases isRt r <;> decide
theorem kind_ok {r : Int} (h : okPt r = true) : kindE r = 0 ∧ kindV r = knd r := by unfold kindE kindV; rw [h]; exact ⟨rfl, rfl⟩
theorem rns_nil {bs : List UInt8} (h : rnsE bs = 0) : bs = [] ↔ rnsV bs = [] := by
  obtain ⟨_, _, _, h4⟩ := rns_ok h
  constructor
  · rintro rfl; decide
  · intro hv; rw [h4, hv]; rfl
theorem word_is {bs : List UInt8} (h : rnsE bs = 0) (hl : bs.length ≤ 64) : wordB bs = (decide (0 < (rnsV bs).length) && !(rnsV bs).any isSp) := by
  unfold wordB
  rw [decide_eq_true hl, decide_eq_true h]
  simp only [Bool.and_true]
  congr 1
  rw [decide_eq_decide]
  rw [Ne, rns_nil h]
  exact List.length_pos_iff.symm
theorem word_split {bs : List UInt8} (h : rnsE bs = 0) (hl : bs.length ≤ 64) : (wordB bs = true → spV bs = [bs]) ∧ (wordB bs = false → spV bs ≠ [bs]) := by
  obtain ⟨_, h2, h3, h4⟩ := rns_ok h
  rw [word_is h hl]
  have hsp : spV bs = (flds isSp [] (rnsV bs)).map encs := by unfold spV; rw [if_pos h]
  constructor
  · intro hw
    rw [Bool.and_eq_true, decide_eq_true_eq, Bool.not_eq_true'] at hw
    rw [hsp, flds_whole isSp _ _ hw.2, List.nil_append, if_neg (fun e => by rw [e] at hw; exact absurd hw.1 (by simp)), List.map_singleton, ← h4]
  · intro hw he
    rw [hsp] at he
    obtain ⟨f, hf, hfe⟩ := List.map_eq_singleton_iff.1 he
    obtain ⟨hne, hP⟩ := flds_mem isSp (rnsV bs) [] (fun x => isSp x = false ∧ x ∈ rnsV bs) (fun _ h => by cases h) (fun x hx hs => ⟨hs, hx⟩) f (by rw [hf]; simp)
    have hfl : f = rnsV bs := by
      have := rsL_iff.2 ⟨fun x hx => h3 x (hP x hx).2, hfe.symm⟩
      rw [h2] at this
      exact (Option.some.inj this).symm
    have ha : (rnsV bs).any isSp = false := by
      rw [← hfl, List.any_eq_false]
      intro x hx; rw [(hP x hx).1]; simp
    rw [ha, ← hfl, decide_eq_true (List.length_pos_iff.2 hne)] at hw
    cases hw
theorem word_no {bs : List UInt8} (h : rnsE bs ≠ 0) : wordB bs = false := by unfold wordB; rw [decide_eq_false h]; simp
theorem word_long {bs : List UInt8} (h : 64 < bs.length) : wordB bs = false := by unfold wordB; rw [decide_eq_false (p := bs.length ≤ 64) (by omega)]; simp
theorem sp_no {bs : List UInt8} (h : rnsE bs ≠ 0) : spV bs = [] := by unfold spV; rw [if_neg h]
/-- A row that is read later. -/
theorem IRow.later {w : World} {v : Value} {l : List Int} (h : IRow w w.heap.size v l) : ∃ a c, v = .slice a l.length c ∧ l.length ≤ c ∧ c ≤ maxLen ∧ ∀ W, Below w.heap.size w W → ∀ k (hk : k < l.length), ∃ b off, a = some ⟨b, off, none⟩ ∧ W.cell? ⟨b, off + k, none⟩ = some (.int .i64 l[k]) := by
  obtain ⟨a, c, rfl, hc, hm, h⟩ := h
  refine ⟨a, c, rfl, hc, by omega, fun W hW k hk => ?_⟩
  rcases h with rfl | ⟨b, off, rfl, hb, h⟩
  · simp at hk
  · exact ⟨b, off, rfl, (hW.cell (p := ⟨b, off + k, none⟩) hb).trans (h k hk)⟩
theorem any_next {p : Int → Bool} {l : List Int} {k : Nat} (h : k < l.length) : (l.take (k + 1)).any p = ((l.take k).any p || p l[k]) := by
  rw [List.take_succ_eq_append_getElem h, List.any_append]
  simp
end Go.Proofs.YtilkhamlhbbmgaaDoor
