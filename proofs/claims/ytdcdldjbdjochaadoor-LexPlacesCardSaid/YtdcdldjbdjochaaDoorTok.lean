/- Tokens: valid, their texts, equality. -/
import Derived.Test.YtdcdldjbdjochaaDoorLx
namespace Go.Proofs.YtdcdldjbdjochaaDoor
open Go.RowKit

abbrev Tok.val (t : Tok) : Value := .agg #[.int .i64 t.kind, .string (str t.text), .int .i64 t.n, .int .i64 t.at_]
def validT (t : Tok) : Bool :=
  if t.kind = 1 then nameOk t.text && t.n == 0
  else if t.kind = 2 then t.text.isEmpty && (decide (0 ≤ t.n) && decide (t.n ≤ 1099511627776))
  else if t.kind = 3 then signOk t.text && t.n == 0
  else false

set_option maxHeartbeats 1000000 in
theorem valid_any (w : World) (t : Tok) (hT : Tab w) (hl : t.text.length ≤ 1000000000) : Calls Tryd.prog 30 #[t.val] w fun e w' => e = .returned (.bool (validT t)) ∧ Below w.heap.size w w' := by
  obtain ⟨kd, text, n, at_⟩ := t
  have hb0 : ∀ o, Tab (w.alloc o) := fun o => hT.below ((Below.refl w.heap.size w).alloc (Nat.le_refl _) o)
  have hnm := fun o => name_any (w.alloc o) text (hb0 o) hl
  have hsg := fun o => isSign_any (w.alloc o) text (hb0 o) (by have : text.length ≤ 1000000000 := hl; unfold maxLen; omega)
  have hem : (str text).toList.isEmpty = text.isEmpty := by rw [str_list]
  unfold Tok.val
  dsimp only at hl ⊢
  obtain ⟨res, hres⟩ : ∃ res, validT ⟨kd, text, n, at_⟩ = res := ⟨_, rfl⟩
  rw [hres]
  unfold validT at hres
  dsimp only at hres
  obtain ⟨tx, htx⟩ : ∃ tx, str text = tx := ⟨_, rfl⟩
  rw [htx] at hem ⊢
  simp only [htx] at hnm hsg
  obtain ⟨a, ha⟩ : ∃ a, nameOk text = a := ⟨_, rfl⟩
  obtain ⟨b, hb⟩ : ∃ b, signOk text = b := ⟨_, rfl⟩
  obtain ⟨c, hc⟩ : ∃ c, text.isEmpty = c := ⟨_, rfl⟩
  simp only [ha] at hnm hres
  simp only [hb] at hsg hres
  rw [hc] at hem hres
  have HN := Lib.hid hnm
  have HS := Lib.hid hsg
  have HR := Lib.hid hres
  clear hT hb0 hnm hsg hres htx ha hb hc hl
  by_cases k1 : kd = 1
  · subst k1
    have hr : (a && n == 0) = res := HR.out
    clear HR
    go_enter Tryd.func30, Tryd.ntmps30
    go_wp2_with fail
    refine (HN.out _).mono ?_
    rintro e w1 ⟨rfl, rfl⟩
    subst hr
    cases a with
    | true =>
      go_wp2
      go_ret
      exact ⟨by simp, by go_grown⟩
    | false =>
      go_wp2
      go_ret
      exact ⟨by simp, by go_grown⟩
  have d1 : ((kd : Int) == 1) = false := by simpa using k1
  by_cases k2 : kd = 2
  · subst k2
    have hr : (c && (decide (0 ≤ n) && decide (n ≤ 1099511627776))) = res := HR.out
    subst hr
    clear HR HN HS d1 k1
    cases c with
    | false =>
      go_enter Tryd.func30, Tryd.ntmps30
      go_wp2
      go_ret
      exact ⟨by simp, by go_grown⟩
    | true =>
      by_cases h0 : 0 ≤ n
      · have d0 : decide (0 ≤ n) = true := by simpa using h0
        go_enter Tryd.func30, Tryd.ntmps30
        go_wp2
        go_ret
        exact ⟨by simp [h0], by go_grown⟩
      · have d0 : decide (0 ≤ n) = false := by simpa using h0
        go_enter Tryd.func30, Tryd.ntmps30
        go_wp2
        go_ret
        exact ⟨by simp, by go_grown⟩
  have d2 : ((kd : Int) == 2) = false := by simpa using k2
  by_cases k3 : kd = 3
  · subst k3
    have hr : (b && n == 0) = res := HR.out
    clear HR
    go_enter Tryd.func30, Tryd.ntmps30
    go_wp2_with fail
    refine (HS.out _).mono ?_
    rintro e w1 ⟨rfl, rfl⟩
    subst hr
    cases b with
    | true =>
      go_wp2
      go_ret
      exact ⟨by simp, by go_grown⟩
    | false =>
      go_wp2
      go_ret
      exact ⟨by simp, by go_grown⟩
  have d3 : ((kd : Int) == 3) = false := by simpa using k3
  have hr : false = res := by have := HR.out; rw [if_neg k1, if_neg k2, if_neg k3] at this; exact this
  subst hr
  clear HR HN HS k1 k2 k3
  go_enter Tryd.func30, Tryd.ntmps30
  go_wp2
  go_ret
  exact ⟨rfl, by go_grown⟩

theorem itoa_any (w : World) (n : Int) (hT : Tab w) (hn : -9223372036854775808 ≤ n ∧ n ≤ 9223372036854775807) : Calls Tryd.prog 41 #[.int .i64 n] w fun e w' => e = .returned (.string (str (Lib.itoa n))) ∧ Below w.heap.size w w' :=
  (Tryd.strconv_Itoa n hn.1 hn.2 w hT.p).mono fun e w' ⟨he, k, os, hw⟩ => ⟨he, by rw [hw]; exact Lib.below_grow _ _ (Nat.le_refl _) _ _⟩

/-- What stands in a source where a token does. -/
def textT (t : Tok) : List UInt8 := if t.kind = 2 then Lib.itoa t.n else t.text
set_option maxHeartbeats 1000000 in
theorem textOf_any (w : World) (t : Tok) (hT : Tab w) (hn : -9223372036854775808 ≤ t.n ∧ t.n ≤ 9223372036854775807) : Calls Tryd.prog 31 #[t.val] w fun e w' => e = .returned (.string (str (textT t))) ∧ Below w.heap.size w w' := by
  obtain ⟨kd, text, n, at_⟩ := t
  have hit := fun o => itoa_any (w.alloc o) n (hT.below ((Below.refl w.heap.size w).alloc (Nat.le_refl _) o)) hn
  unfold Tok.val textT
  dsimp only
  have HI := Lib.hid hit
  obtain ⟨tx, htx⟩ : ∃ tx, str text = tx := ⟨_, rfl⟩
  by_cases k2 : kd = 2
  · subst k2
    rw [if_pos rfl, htx]
    obtain ⟨S, hS⟩ : ∃ S, str (Lib.itoa n) = S := ⟨_, rfl⟩
    rw [hS] at HI ⊢
    clear hT hn hit htx hS
    go_enter Tryd.func31, Tryd.ntmps31
    go_wp2_with fail
    refine (HI.out _).mono ?_
    rintro e w1 ⟨rfl, hb⟩
    have HB : Hid (Below w.heap.size w w1) := Lib.hid (((Below.refl w.heap.size w).alloc (Nat.le_refl _) _).trans (hb.mono (by simp)))
    clear hb
    go_wp2
    go_ret
    exact ⟨rfl, HB.out⟩
  · rw [if_neg k2, htx]
    have d2 : ((kd : Int) == 2) = false := by simpa using k2
    clear hT hn hit htx k2 HI
    go_enter Tryd.func31, Tryd.ntmps31
    go_wp2
    go_ret
    exact ⟨rfl, by go_grown⟩
end Go.Proofs.YtdcdldjbdjochaaDoor
