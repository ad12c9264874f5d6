/- merkle as data: a path leads to the root; the root is that of two parts. -/
import Derived.Test.YtfmngeemhfpeiaaDoorMlb
namespace Go.Proofs.YtfmngeemhfpeiaaDoor
open Go.RowKit

theorem oth_sub (t : Nat) : oth (t + 2) = oth t + 2 := by rw [oth_eq, oth_eq]; split <;> split <;> omega
theorem alone_sub (t s : Nat) : alone (t + 2) (s + 2) = alone t s := by
  unfold alone
  rw [oth_sub]
  by_cases h : oth t = s
  · simp [h]
  · simp [h]
theorem stepT_sub (t : Nat) (a b : List UInt8) : stepT (t + 2) a b = stepT t a b := by
  unfold stepT
  rw [oth_sub]
  by_cases h : oth t < t
  · rw [if_pos h, if_pos (by omega)]
  · rw [if_neg h, if_neg (by omega)]
theorem nexts_get : ∀ (R : List (List UInt8)) (t : Nat), t < R.length → (nexts R).getD (t / 2) [] = if alone t R.length then R.getD t [] else sha (stepT t (R.getD t []) (R.getD (oth t) []))
  | [], t, h => by simp at h
  | [a], t, h => by
    obtain rfl : t = 0 := by simp at h; exact h
    rw [if_pos (show alone 0 [a].length = true from (by decide : alone 0 1 = true))]
    rfl
  | a :: b :: r, 0, _ => by
    have h1 : alone 0 (a :: b :: r).length = false := by
      unfold alone
      rw [oth_eq]
      simp
    rw [h1, if_neg (by simp)]
    have h2 : stepT 0 ((a :: b :: r).getD 0 []) ((a :: b :: r).getD (oth 0) []) = nodeT a b := by
      unfold stepT
      rw [if_neg (by rw [oth_eq]; simp), oth_eq]
      simp
    rw [h2]
    rfl
  | a :: b :: r, 1, _ => by
    have h1 : alone 1 (a :: b :: r).length = false := by
      unfold alone
      rw [oth_eq]
      simp
    rw [h1, if_neg (by simp)]
    have h2 : stepT 1 ((a :: b :: r).getD 1 []) ((a :: b :: r).getD (oth 1) []) = nodeT a b := by
      unfold stepT
      rw [if_pos (by rw [oth_eq]; simp), oth_eq]
      simp
    rw [h2]
    rfl
  | a :: b :: r, t + 2, h => by
    have ih := nexts_get r t (by simp at h; omega)
    have e1 : (a :: b :: r).length = r.length + 2 := rfl
    rw [e1, alone_sub, stepT_sub, oth_sub, show (t + 2) / 2 = t / 2 + 1 by omega]
    show (sha (nodeT a b) :: nexts r).getD (t / 2 + 1) [] = _
    rw [List.getD_cons_succ, ih]
    simp
theorem rowAt_shift (ds : List (List UInt8)) : ∀ k, rowAt ds (k + 1) = rowAt (nexts ds) k
  | 0 => rfl
  | k + 1 => by show nexts (rowAt ds (k + 1)) = nexts (rowAt (nexts ds) k); rw [rowAt_shift ds k]
theorem rootD_row : ∀ (n : Nat) (ds : List (List UInt8)), ds.length = n → rootD ds = (rowAt ds (mrows n)).headD [] := by
  intro n
  induction n using Nat.strongRecOn with
  | _ n ih =>
    intro ds hn
    by_cases h : n ≤ 1
    · rw [rootD_one (by omega), mrows_one h]; rfl
    · rw [rootD_more (by omega), mrows_more (by omega), rowAt_shift, ih ((n + 1) / 2) (by omega) (nexts ds) (by rw [nexts_len, hn])]
theorem mpathk_get (F : List (List UInt8)) (i k : Nat) (ha : alone (mpos i k) (msz F.length k) = false) : ∀ K, k < K → (mpathk F i K).getD (mcnt i F.length k) [] = (rowAt F k).getD (oth (mpos i k)) []
  | 0, h => by omega
  | K + 1, h => by
    unfold mpathk
    by_cases e : k = K
    · subst e
      rw [ha, if_neg (by simp), ← mpathk_len F i k]
      simp [List.getD]
    · have ih := mpathk_get F i k ha K (by omega)
      have hlt : mcnt i F.length k < (mpathk F i K).length := by
        rw [mpathk_len]
        have h1 : mcnt i F.length (k + 1) = mcnt i F.length k + 1 := by show mcnt i F.length k + (if _ then 0 else 1) = _; rw [ha]; simp
        have := mcnt_mono i F.length (show k + 1 ≤ K by omega)
        omega
      split
      · exact ih
      · rw [← ih]
        simp [List.getD, List.getElem?_append_left hlt]
theorem way_row (F : List (List UInt8)) (i : Nat) (hi : i < F.length) : ∀ k, k ≤ mrows F.length → mst i F.length (F.getD i []) (mpath F i) k = (rowAt F k).getD (mpos i k) []
  | 0, _ => rfl
  | k + 1, hk => by
    have ih := way_row F i hi k (by omega)
    have hp := mpos_lt hi k
    have hn := nexts_get (rowAt F k) (mpos i k) (by rw [rowAt_len]; exact hp)
    rw [rowAt_len] at hn
    show (if alone (mpos i k) (msz F.length k) then mst i F.length (F.getD i []) (mpath F i) k else _) = (nexts (rowAt F k)).getD (mpos i k / 2) []
    rw [hn]
    by_cases ha : alone (mpos i k) (msz F.length k) = false
    · rw [ha, if_neg (by simp), if_neg (by simp), ih]
      congr 2
      exact mpathk_get F i k ha (mrows F.length) (by omega)
    · have ha' : alone (mpos i k) (msz F.length k) = true := by simpa using ha
      rw [ha', if_pos rfl, if_pos rfl, ih]
/-- Climbing from a leaf with its path leads to the root. -/
theorem prove_root (l : List (List UInt8)) (i : Nat) (hi : i < l.length) : mclimb i l.length l[i] (mpath (firsts l) i) = mroot l := by
  have hF := firsts_len l
  have hd : (firsts l).getD i [] = sha (leafT l[i]) := by
    unfold firsts
    simp [List.getD, List.getElem?_eq_getElem hi]
  have h := way_row (firsts l) i (by rw [hF]; exact hi) (mrows l.length) (by rw [hF]; exact Nat.le_refl _)
  rw [hF, hd] at h
  unfold mclimb
  rw [h]
  unfold mroot
  rw [if_neg (by intro e; subst e; simp at hi), rootD_row l.length (firsts l) hF]
  have hz := msz_end l.length
  have hp := mpos_lt hi (mrows l.length)
  have e0 : mpos i (mrows l.length) = 0 := by omega
  rw [e0]
  cases rowAt (firsts l) (mrows l.length) <;> rfl
theorem mpath_len (l : List (List UInt8)) (i : Nat) : (mpath (firsts l) i).length = mlen i l.length := by
  unfold mpath mlen
  rw [mpathk_len, firsts_len]

/-- The root of a row is that of its two parts: of 2^j digests, and of the others. -/
theorem rootD_split : ∀ (j : Nat) (ds : List (List UInt8)), 2 ^ j < ds.length → ds.length ≤ 2 ^ (j + 1) → rootD ds = sha (nodeT (rootD (ds.take (2 ^ j))) (rootD (ds.drop (2 ^ j))))
  | 0, ds, h1, h2 => by
    match ds, h1, h2 with
    | [a, b], _, _ =>
      rw [rootD_more (by simp), rootD_one (by simp [nexts]), rootD_one (by simp), rootD_one (by simp)]
      rfl
    | a :: b :: c :: r, _, h2 => simp at h2
    | [a], h1, _ => simp at h1
    | [], h1, _ => simp at h1
  | j + 1, ds, h1, h2 => by
    have hp : 2 ^ (j + 1) = 2 * 2 ^ j := by rw [Nat.pow_succ]; omega
    have hp2 : 2 ^ (j + 1 + 1) = 4 * 2 ^ j := by rw [Nat.pow_succ, hp]; omega
    have hpos : 0 < 2 ^ j := Nat.pow_pos (by omega)
    rw [hp] at h1
    rw [hp2] at h2
    have hn : nexts ds = nexts (ds.take (2 ^ (j + 1))) ++ nexts (ds.drop (2 ^ (j + 1))) := by
      have := nexts_app (ds.take (2 ^ (j + 1))) (ds.drop (2 ^ (j + 1))) (by rw [List.length_take, hp]; omega)
      rwa [List.take_append_drop] at this
    have hl1 : (nexts (ds.take (2 ^ (j + 1)))).length = 2 ^ j := by rw [nexts_len, List.length_take, hp]; omega
    have hnl : (nexts ds).length = (ds.length + 1) / 2 := nexts_len ds
    have ih := rootD_split j (nexts ds) (by rw [hnl]; omega) (by rw [hnl, hp]; omega)
    rw [rootD_more (by omega), ih, hn, List.take_left' hl1, List.drop_left' hl1]
    have ht : rootD (ds.take (2 ^ (j + 1))) = rootD (nexts (ds.take (2 ^ (j + 1)))) := rootD_more (by rw [List.length_take, hp]; omega)
    rw [ht]
    congr 2
    by_cases hd : (ds.drop (2 ^ (j + 1))).length ≤ 1
    · match hm : ds.drop (2 ^ (j + 1)), hd with
      | [], _ => rfl
      | [a], _ => rfl
      | a :: b :: r, hd => simp at hd
    · exact (rootD_more (ds := ds.drop (2 ^ (j + 1))) (by omega)).symm
theorem mroot_split (j : Nat) (l : List (List UInt8)) (h1 : 2 ^ j < l.length) (h2 : l.length ≤ 2 ^ (j + 1)) : mroot l = sha (nodeT (mroot (l.take (2 ^ j))) (mroot (l.drop (2 ^ j)))) := by
  have hpos : 0 < 2 ^ j := Nat.pow_pos (by omega)
  have e0 : l ≠ [] := fun e => by rw [e] at h1; simp at h1
  have e1 : l.take (2 ^ j) ≠ [] := fun e => by have := congrArg List.length e; rw [List.length_take, List.length_nil] at this; omega
  have e2 : l.drop (2 ^ j) ≠ [] := fun e => by have := congrArg List.length e; rw [List.length_drop, List.length_nil] at this; omega
  unfold mroot
  rw [if_neg e0, if_neg e1, if_neg e2]
  have h := rootD_split j (firsts l) (by rw [firsts_len]; exact h1) (by rw [firsts_len]; exact h2)
  rw [h]
  unfold firsts
  rw [List.map_take, List.map_drop]
end Go.Proofs.YtfmngeemhfpeiaaDoor
