/- Direction: what is shown has the same code points. -/
import Derived.Test.YtilkhamlhbbmgaaDoorPlp
import Derived.Test.YtilkhamlhbbmgaaDoorLbk
import Derived.Test.YtilkhamlhbbmgaaDoorLsh
namespace Go.Proofs.YtilkhamlhbbmgaaDoor
open Go.RowKit

theorem perm_sg (s : List Int) : ((List.range s.length).map fun j => sg 2 s (sg 1 s j)).Perm (List.range s.length) := by
  refine (List.perm_ext_iff_of_nodup ?_ List.nodup_range).2 ?_
  · rw [List.nodup_iff_pairwise_ne, List.pairwise_map]
    refine List.Pairwise.imp_of_mem ?_ (List.nodup_iff_pairwise_ne.1 List.nodup_range)
    intro a b ha hb hne e
    rw [List.mem_range] at ha hb
    have h1 := (sg_in 1 s a ha).2
    have h2 := (sg_in 1 s b hb).2
    have h3 := (sg_in 2 s _ (sg_in 1 s a ha).1).2
    have h4 := (sg_in 2 s _ (sg_in 1 s b hb).1).2
    rw [e] at h3
    rw [h3] at h4
    rw [h4] at h1
    exact hne (h1.symm.trans h2)
  · intro a
    rw [List.mem_map, List.mem_range]
    constructor
    · rintro ⟨j, hj, rfl⟩
      rw [List.mem_range] at hj
      exact (sg_in 2 s _ (sg_in 1 s j hj).1).1
    · intro ha
      refine ⟨sg 1 s (sg 2 s a), ?_, ?_⟩
      · rw [List.mem_range]; exact (sg_in 1 s _ (sg_in 2 s a ha).1).1
      · rw [(sg_in 1 s _ (sg_in 2 s a ha).1).2, (sg_in 2 s a ha).2]
theorem map_get (l : List Int) : (List.range l.length).map (fun j => l.getD j 0) = l := by
  refine List.ext_getElem (by simp) fun i h1 h2 => ?_
  simp [List.getD, h2]
theorem shL_perm (b : Int) (l : List Int) : (shL b l).Perm l := by
  have e : shL b l = ((List.range l.length).map fun j => sg 2 (lvL b l) (sg 1 (lvL b l) j)).map fun j => l.getD j 0 := by
    unfold shL
    rw [List.map_map]
    refine List.map_congr_left fun j hj => ?_
    rw [List.mem_range] at hj
    rw [orL_get _ _ (by rw [lvL_len]; exact hj)]
    rfl
  have h := (perm_sg (lvL b l)).map fun j => l.getD j 0
  rw [lvL_len, map_get] at h
  rw [e]
  exact h
theorem encs_sum (l : List Int) : (encs l).length = (l.map fun r => (enc r).length).sum := by
  induction l with
  | nil => rfl
  | cons a l ih => rw [List.map_cons, List.sum_cons, ← ih]; simp [encs]
theorem encs_perm {l m : List Int} (h : l.Perm m) : (encs l).length = (encs m).length := by
  rw [encs_sum, encs_sum]
  exact (h.map _).sum_nat
/-- What Show answers to a text. -/
theorem show_ok {b : Int} {bs : List UInt8} (h : rnsE bs = 0) : shE b bs = 0 ∧ shS b bs = encs (shL b (rnsV bs)) ∧ (encs (shL b (rnsV bs))).length = bs.length ∧ rnsE (encs (shL b (rnsV bs))) = 0 ∧ rnsV (encs (shL b (rnsV bs))) = shL b (rnsV bs) := by
  obtain ⟨h1, h2, h3, h4⟩ := rns_ok h
  have hp := shL_perm b (rnsV bs)
  have hall : (shL b (rnsV bs)).all okPt = true := by
    rw [List.all_eq_true]
    exact fun r hr => h3 r (hp.mem_iff.1 hr)
  have hl : (encs (shL b (rnsV bs))).length = bs.length := by rw [encs_perm hp, ← h4]
  obtain ⟨e1, e2⟩ := rns_encs hall (by rw [hl]; exact h1)
  have hj : jnE (shL b (rnsV bs)) = 0 := by
    have := (jn_rns e1).1
    rw [e2] at this
    exact this
  refine ⟨?_, ?_, hl, e1, e2⟩
  · unfold shE; rw [if_pos h]; exact hj
  · unfold shS; rw [if_pos h]; exact (jn_ok hj).2.2
theorem show_no {b : Int} {bs : List UInt8} (h : rnsE bs ≠ 0) : shE b bs = rnsE bs ∧ shS b bs = [] := by
  unfold shE shS
  rw [if_neg h, if_neg h]
  exact ⟨rfl, rfl⟩
/-- How often x has come so far, and gone. -/
def cnX (l m : List Int) (k : Nat) (x : Int) : Int := ((l.take k).count x : Int) - ((m.take k).count x : Int)
def cnY (l m : List Int) (k : Nat) (x : Int) : Int := ((l.take (k + 1)).count x : Int) - ((m.take k).count x : Int)
theorem count_take (l : List Int) (k : Nat) (h : k < l.length) (x : Int) : (l.take (k + 1)).count x = (l.take k).count x + (if l.getD k 0 = x then 1 else 0) := by
  have e : l.take (k + 1) = l.take k ++ [l[k]] := by rw [List.take_succ_eq_append_getElem h]
  rw [e, List.count_append, List.count_singleton]
  have : l.getD k 0 = l[k] := by simp [List.getD, h]
  rw [this]
  by_cases hx : l[k] = x
  · simp [hx]
  · simp [hx]
theorem cnY_at (l m : List Int) (k : Nat) (h : k < l.length) (x : Int) : cnY l m k x = cnX l m k x + (if l.getD k 0 = x then 1 else 0) := by
  unfold cnX cnY
  rw [count_take l k h x]
  split <;> omega
theorem cnX_next (l m : List Int) (k : Nat) (h : k < m.length) (x : Int) : cnX l m (k + 1) x = cnY l m k x - (if m.getD k 0 = x then 1 else 0) := by
  unfold cnX cnY
  rw [count_take m k h x]
  split <;> omega
theorem cnX_zero (l m : List Int) (x : Int) : cnX l m 0 x = 0 := by simp [cnX]
theorem cnX_end {l m : List Int} (h : m.Perm l) (x : Int) : cnX l m l.length x = 0 := by
  unfold cnX
  have hl := h.length_eq
  rw [List.take_length]
  rw [show m.take l.length = m from by rw [← hl, List.take_length], h.count_eq x]
  omega
theorem cnX_small (l m : List Int) (k : Nat) (x : Int) (hl : l.length ≤ 300) (hm : m.length ≤ 300) : -300 ≤ cnX l m k x ∧ cnX l m k x ≤ 300 ∧ -300 ≤ cnY l m k x ∧ cnY l m k x ≤ 300 := by
  unfold cnX cnY
  have h1 : (l.take k).count x ≤ (l.take k).length := List.count_le_length
  have h2 : (m.take k).count x ≤ (m.take k).length := List.count_le_length
  have h3 : (l.take (k + 1)).count x ≤ (l.take (k + 1)).length := List.count_le_length
  rw [List.length_take] at h1 h2 h3
  omega
end Go.Proofs.YtilkhamlhbbmgaaDoor
