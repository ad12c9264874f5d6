/- Direction: what is shown where all have one level. -/
import Derived.Test.YtilkhamlhbbmgaaDoorPlc
namespace Go.Proofs.YtilkhamlhbbmgaaDoor
open Go.RowKit

theorem finL_one (b : Int) (s : List Int) (h : ∀ j, j < s.length → s.getD j 0 = -1 ∨ s.getD j 0 = b) (i : Nat) (hi1 : i < s.length) : finL b s i = b := by
  have hs : ∀ j, j < s.length → isGapB s j = false → s.getD j 0 = b := fun j hj hg => by
    rcases h j hj with e | e
    · unfold isGapB at hg; rw [e] at hg; simp at hg
    · exact e
  unfold finL
  by_cases hg : isGapB s i = true
  · rw [if_pos hg]
    by_cases hc : 0 < lo (isGapB s) i ∧ hi (isGapB s) s.length i < s.length ∧ s.getD (lo (isGapB s) i - 1) 0 = s.getD (hi (isGapB s) s.length i) 0
    · rw [if_pos hc]
      obtain ⟨h1, h2, h3, h4⟩ := up_spec (isGapB s) s.length (s.length - i) i rfl (by omega)
      refine hs _ hc.2.1 ?_
      have hh : hi (isGapB s) s.length i = up (isGapB s) (s.length - i) i := rfl
      rcases h4 with h4 | h4
      · have := hc.2.1; omega
      · rw [hh]; exact h4
    · rw [if_neg hc]
  · rw [if_neg hg]
    exact hs i hi1 (by simpa using hg)
theorem lvL_one (b : Int) (l : List Int) (h : ∀ r ∈ l, own b r = -1 ∨ own b r = b) : ∀ j, j < l.length → (lvL b l).getD j 0 = b := by
  intro j hj
  have e : (lvL b l).getD j 0 = finL b (l.map (own b)) j := by simp [lvL, List.getD, hj]
  rw [e]
  refine finL_one b _ (fun i hi1 => ?_) j (by simpa using hj)
  have hi2 : i < l.length := by simpa using hi1
  have e2 : (l.map (own b)).getD i 0 = own b l[i] := by simp [List.getD, hi2]
  rw [e2]
  exact h _ (List.getElem_mem hi2)
theorem or_zero (s : List Int) (h : ∀ j, j < s.length → s.getD j 0 = 0) (i : Nat) (hi1 : i < s.length) : (orL s).getD i 0 = (i : Int) := by
  have e : ∀ m : Int, 0 < m → sg m s i = i := fun m hm => sg_off (by unfold geB; exact decide_eq_false (by rw [h i hi1]; omega))
  rw [orL_get s i hi1, e 1 (by omega), e 2 (by omega)]
theorem or_one (s : List Int) (h : ∀ j, j < s.length → s.getD j 0 = 1) (i : Nat) (hi1 : i < s.length) : (orL s).getD i 0 = ((s.length - 1 - i : Nat) : Int) := by
  have e2 : ∀ j, j < s.length → sg 2 s j = j := fun j hj => sg_off (by unfold geB; exact decide_eq_false (by rw [h j hj]; omega))
  have hall : ∀ j, j < s.length → geB 1 s j = true := fun j hj => by unfold geB; exact decide_eq_true (by rw [h j hj]; omega)
  have e1 : sg 1 s i = s.length - 1 - i := by
    unfold sg
    rw [hall i hi1, if_pos rfl, lo_eq (m := 0) (Nat.zero_le _) (fun j _ c => hall j (by omega)) (.inl rfl), hi_eq (e := s.length) (by omega) (Nat.le_refl _) (fun j _ c => hall j c) (.inl rfl)]
    omega
  rw [orL_get s i hi1, e1, e2 _ (by omega)]
end Go.Proofs.YtilkhamlhbbmgaaDoor
