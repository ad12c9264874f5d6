/- Texts and their code points, as data. -/
import Derived.Test.YtljgcpfibamdpaaDoorJoi
namespace Go.Proofs.YtljgcpfibamdpaaDoor
open Go.RowKit

theorem rns_ok {bs : List UInt8} (h : rnsE bs = 0) : bs.length ≤ 4096 ∧ rsL bs = some (rnsV bs) ∧ (∀ r ∈ rnsV bs, okPt r = true) ∧ bs = encs (rnsV bs) := by
  unfold rnsE at h
  by_cases hl : 4096 < bs.length
  · rw [if_pos hl] at h; cases h
  · rw [if_neg hl] at h
    cases hr : rsL bs with
    | none => rw [hr] at h; cases h
    | some l =>
      have e : rnsV bs = l := by unfold rnsV; rw [if_neg hl, hr]; rfl
      rw [e]
      obtain ⟨h1, h2⟩ := rsL_iff.1 hr
      exact ⟨by omega, rfl, h1, h2⟩
theorem rns_encs {l : List Int} (h : l.all okPt = true) (hl : (encs l).length ≤ 4096) : rnsE (encs l) = 0 ∧ rnsV (encs l) = l := by
  have hr := rsL_encs (all_ok h)
  unfold rnsE rnsV
  rw [if_neg (by omega), if_neg (by omega), hr]
  exact ⟨rfl, rfl⟩
theorem jn_rns {bs : List UInt8} (h : rnsE bs = 0) : jnE (rnsV bs) = 0 ∧ jnS (rnsV bs) = bs := by
  obtain ⟨h1, h2, h3, h4⟩ := rns_ok h
  have ha : (rnsV bs).all okPt = true := List.all_eq_true.2 h3
  unfold jnE jnS
  rw [ha, if_pos rfl, if_neg (by rw [← h4]; omega), decide_eq_true (by rw [← h4]; omega)]
  exact ⟨rfl, h4.symm⟩
theorem jn_ok {l : List Int} (h : jnE l = 0) : l.all okPt = true ∧ (encs l).length ≤ 4096 ∧ jnS l = encs l := by
  unfold jnE at h
  unfold jnS
  cases ha : l.all okPt with
  | false => rw [ha] at h; cases h
  | true =>
    rw [ha, if_pos rfl] at h
    by_cases h4 : 4096 < (encs l).length
    · rw [if_pos h4] at h; cases h
    · exact ⟨rfl, by omega, by rw [decide_eq_true (by omega)]; rfl⟩
theorem jn_no {l : List Int} (h : jnE l ≠ 0) : jnS l = [] := by
  unfold jnE at h
  unfold jnS
  cases ha : l.all okPt with
  | false => rfl
  | true =>
    rw [ha, if_pos rfl] at h
    by_cases h4 : 4096 < (encs l).length
    · rw [decide_eq_false (by omega)]; rfl
    · rw [if_neg h4] at h; exact absurd rfl h
theorem rns_app {a b : List UInt8} (h : rnsE a = 0) (hl : (a ++ b).length ≤ 4096) : rnsE (a ++ b) = rnsE b ∧ rnsV (a ++ b) = (if rnsE b = 0 then rnsV a ++ rnsV b else []) := by
  obtain ⟨h1, h2, h3, h4⟩ := rns_ok h
  have hb : ¬ 4096 < b.length := by rw [List.length_append] at hl; omega
  have hr : rsL (a ++ b) = (rsL b).map (rnsV a ++ ·) := by
    have := rsL_app h3 b
    rw [← h4] at this
    exact this
  have e1 : rnsE (a ++ b) = match rsL b with | some _ => 0 | none => 90 := by
    unfold rnsE
    rw [if_neg (by omega), hr]
    cases rsL b <;> rfl
  have e2 : rnsE b = match rsL b with | some _ => 0 | none => 90 := by unfold rnsE; rw [if_neg hb]; cases rsL b <;> rfl
  refine ⟨by rw [e1, e2], ?_⟩
  have e3 : rnsV (a ++ b) = ((rsL b).map (rnsV a ++ ·)).getD [] := by unfold rnsV; rw [if_neg (by omega), hr]; rfl
  have e4 : rnsV b = (rsL b).getD [] := by unfold rnsV; rw [if_neg hb]
  rw [e3, e4, e2]
  cases rsL b with
  | none => rfl
  | some l => rfl
theorem rns_small {a : List UInt8} (hl : a.length ≤ 4096) (h : rnsE a ≠ 0) : rnsE a = 90 ∧ rsL a = none := by
  unfold rnsE at h ⊢
  rw [if_neg (by omega)] at h ⊢
  cases hr : rsL a with
  | none => exact ⟨rfl, rfl⟩
  | some l => rw [hr] at h; exact absurd rfl h
theorem str_append (a b : List UInt8) : str a ++ str b = str (a ++ b) := by
  apply ByteArray.ext
  apply Array.toList_inj.1
  simp [str]
end Go.Proofs.YtljgcpfibamdpaaDoor
