/- The reference's Valid. -/
import Derived.Test.YtdcdldjbdjochaaDoorRnm
import Derived.Test.YtdcdldjbdjochaaDoorTok
namespace Go.Proofs.YtdcdldjbdjochaaDoor
open Go.RowKit

set_option maxHeartbeats 2000000 in
theorem rvalid_any (w : World) (t : Tok) (hl : t.text.length ≤ 1000000000) : Calls Tryd.prog 33 #[t.val] w fun e w' => e = .returned (.bool (validT t)) ∧ Below w.heap.size w w' := by
  obtain ⟨kd, text, n, at_⟩ := t
  have hnm := fun o => rname_any (w.alloc o) text hl
  have hem : (str text).toList.isEmpty = text.isEmpty := by rw [str_list]
  have hsz := str_size text
  unfold Tok.val
  dsimp only at hl ⊢
  by_cases k1 : kd = 1
  · subst k1
    have hr : validT ⟨1, text, n, at_⟩ = (nameOk text && n == 0) := rfl
    rw [hr]
    obtain ⟨tx, htx⟩ : ∃ tx, str text = tx := ⟨_, rfl⟩
    rw [htx] at hem hsz ⊢
    simp only [htx] at hnm
    obtain ⟨a, ha⟩ : ∃ a, nameOk text = a := ⟨_, rfl⟩
    simp only [ha] at hnm ⊢
    have HN := Lib.hid hnm
    clear hnm hr htx ha hem hsz hl
    go_enter Tryd.func33, Tryd.ntmps33
    go_wp2_with fail
    refine (HN.out _).mono ?_
    rintro e w1 ⟨rfl, rfl⟩
    cases a with
    | true =>
      go_wp2
      go_ret
      exact ⟨by simp, by go_grown⟩
    | false =>
      go_wp2
      go_ret
      exact ⟨by simp, by go_grown⟩
  have d1 : ((kd : Int) == 1) = false := by simpa using k1
  by_cases k2 : kd = 2
  · subst k2
    have hr : validT ⟨2, text, n, at_⟩ = (text.isEmpty && (decide (0 ≤ n) && decide (n ≤ 1099511627776))) := rfl
    rw [hr]
    obtain ⟨tx, htx⟩ : ∃ tx, str text = tx := ⟨_, rfl⟩
    rw [htx] at hem ⊢
    obtain ⟨c, hc⟩ : ∃ c, text.isEmpty = c := ⟨_, rfl⟩
    rw [hc] at hem ⊢
    clear hnm hr htx hc hsz hl d1 k1
    cases c with
    | false =>
      go_enter Tryd.func33, Tryd.ntmps33
      go_wp2
      go_ret
      exact ⟨by simp, by go_grown⟩
    | true =>
      by_cases h0 : 0 ≤ n
      · have d0 : decide (0 ≤ n) = true := by simpa using h0
        go_enter Tryd.func33, Tryd.ntmps33
        go_wp2
        go_ret
        exact ⟨by simp [h0], by go_grown⟩
      · have d0 : decide (0 ≤ n) = false := by simpa using h0
        go_enter Tryd.func33, Tryd.ntmps33
        go_wp2
        go_ret
        exact ⟨by simp, by go_grown⟩
  have d2 : ((kd : Int) == 2) = false := by simpa using k2
  by_cases k3 : kd = 3
  · subst k3
    have hr : validT ⟨3, text, n, at_⟩ = (signOk text && n == 0) := rfl
    rw [hr]
    by_cases h1 : text.length = 1
    · obtain ⟨b, rfl⟩ : ∃ b, text = [b] := by
        match text, h1 with
        | [b], _ => exact ⟨b, rfl⟩
      have hix := fun W => run_str [b] 0 (by simp) W
      rw [List.getElem_cons_zero] at hix
      have hsg := fun W => rsign_any W b.toNat b.toNat_lt
      have hok : signOk [b] = (cls b.toNat == 5 || cls b.toNat == 6) := rfl
      rw [hok]
      obtain ⟨a, ha⟩ : ∃ a, (cls b.toNat == 5 || cls b.toNat == 6) = a := ⟨_, rfl⟩
      simp only [ha] at hsg ⊢
      obtain ⟨tx, htx⟩ : ∃ tx, str [b] = tx := ⟨_, rfl⟩
      rw [htx] at hsz hix ⊢
      obtain ⟨c, hc⟩ : ∃ c, b.toNat = c := ⟨_, rfl⟩
      rw [hc] at hix hsg
      have hsz1 : tx.size = 1 := hsz
      have HS := Lib.hid hsg
      have hix' : ∀ W, (Instr.index 9 (.string tx) (.int .i64 0)).run Tryd.prog W = .ok (.int .u8 c) W := hix
      clear hnm hr htx hsg hix hok ha hc hem hsz hl h1
      go_enter Tryd.func33, Tryd.ntmps33
      go_wp2_with fail
      refine (HS.out _).mono ?_
      rintro e w1 ⟨rfl, rfl⟩
      cases a with
      | true =>
        go_wp2
        go_ret
        exact ⟨by simp, by go_grown⟩
      | false =>
        go_wp2
        go_ret
        exact ⟨by simp, by go_grown⟩
    · have hok : signOk text = false := by
        unfold signOk
        split
        · rename_i b; simp at h1
        · rfl
      rw [hok, Bool.false_and]
      obtain ⟨tx, htx⟩ : ∃ tx, str text = tx := ⟨_, rfl⟩
      obtain ⟨N, hN⟩ : ∃ N, text.length = N := ⟨_, rfl⟩
      rw [hN] at hsz h1
      rw [htx] at hsz ⊢
      have dN : ((N : Int) == 1) = false := by simp; omega
      clear hnm hr htx hok hem hl hN
      go_enter Tryd.func33, Tryd.ntmps33
      go_wp2
      go_ret
      exact ⟨by simp, by go_grown⟩
  have d3 : ((kd : Int) == 3) = false := by simpa using k3
  have hr : validT ⟨kd, text, n, at_⟩ = false := by unfold validT; rw [if_neg k1, if_neg k2, if_neg k3]
  rw [hr]
  obtain ⟨tx, htx⟩ : ∃ tx, str text = tx := ⟨_, rfl⟩
  rw [htx]
  clear hnm hr htx hem hsz hl k1 k2 k3
  go_enter Tryd.func33, Tryd.ntmps33
  go_wp2
  go_ret
  exact ⟨by simp, by go_grown⟩
end Go.Proofs.YtdcdldjbdjochaaDoor
