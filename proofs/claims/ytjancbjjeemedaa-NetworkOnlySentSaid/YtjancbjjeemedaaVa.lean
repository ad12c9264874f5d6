/- Pairs that are valid. -/
import Derived.Test.YtjancbjjeemedaaCmp
import Derived.BigQuiet
namespace Go.Proofs.Ytjancbjjeemedaa
open Go.RowKit

/-- The rest from a place on is valid. -/
def okRest (l : List (Int × Int)) : Nat → Bool
  | 0 => okA l
  | j + 1 => okFrom (l.getD j (0, 0)) (l.drop (j + 1))
theorem okRest_step (l : List (Int × Int)) (j : Nat) (h : j < l.length) : okRest l j = (okOne l[j] && ((decide (j = 0) || pairLt (l.getD (j - 1) (0, 0)) l[j]) && okRest l (j + 1))) := by
  have hd := List.drop_eq_getElem_cons h
  have hg : l.getD j (0, 0) = l[j] := by simp [List.getD, List.getElem?_eq_getElem h]
  cases j with
  | zero =>
    rw [okRest, okRest, hg]
    cases l with
    | nil => simp at h
    | cons c r => simp [okA]
  | succ j =>
    rw [okRest, okRest, hg, hd, okFrom]
    simp [Bool.and_assoc]
theorem okRest_end (l : List (Int × Int)) (N : Nat) (h : l.length = N) : okRest l N = true := by
  cases N with
  | zero => rw [okRest]; rw [List.length_eq_zero_iff.1 h]; rfl
  | succ j => rw [okRest, List.drop_eq_nil_of_le (by omega)]; rfl
theorem cmp2_lt (p q : Int × Int) : decide (0 ≤ cmp2 p q) = !(pairLt p q) := by
  unfold cmp2 cmp1 pairLt
  by_cases h1 : p.1 < q.1
  · have h2 : ¬ q.1 < p.1 := by omega
    simp [h1]
  · by_cases h2 : q.1 < p.1
    · have h3 : ¬ p.1 = q.1 := by omega
      simp [h1, h2, h3]
    · have h3 : p.1 = q.1 := by omega
      by_cases h4 : p.2 < q.2
      · simp [h3, h4]
      · by_cases h5 : q.2 < p.2
        · simp [h3, h4, h5]
        · simp [h3, h4, h5]
theorem getD_eq {α : Type} (l : List α) (j : Nat) (z : α) (h : j < l.length) : l.getD j z = l[j] := by simp [List.getD, List.getElem?_eq_getElem h]

set_option maxRecDepth 100000 in
set_option maxHeartbeats 4000000 in
theorem va_any (w : World) (v : Value) (l : List (Int × Int)) (h : AAt w w.heap.size v l) : Calls Try.prog 33 #[v] w fun e w' => e = .returned (.bool (okA l)) ∧ Below w.heap.size w w' := by
  have H := Lib.hid h
  obtain ⟨a, cap, rfl, hc, hm, _⟩ := h
  unfold maxLen at hm
  obtain ⟨N, hN⟩ : ∃ N, l.length = N := ⟨_, rfl⟩
  have HN := Lib.hid hN
  rw [hN] at H hc ⊢
  have h0 : okRest l 0 = okA l := rfl
  obtain ⟨res, hres⟩ : ∃ r, okA l = r := ⟨_, rfl⟩
  rw [hres] at h0 ⊢
  have H0 := Lib.hid h0
  clear hN hres h0
  go_enter Try.func33, Try.ntmps33
  go_wp2_with fail
  go_loopw [7] (fun i wr => ∃ j : Nat, i = .int .i64 j ∧ j ≤ N ∧ Below w.heap.size w wr ∧ Hid (okRest l j = res)) (fun i _ => N - (intOf i).toNat)
  case atStart => exact ⟨0, rfl, by omega, Below.refl _ _, H0⟩
  case round =>
    obtain ⟨j, rfl, hj, hb, hst⟩ := hrel
    have hbs := hb.size
    by_cases hlt : j < N
    · have d : decide ((j : Int) < (N : Int)) = true := by simp; omega
      have ji : (j : Int) < (N : Int) := by omega
      have hjl : j < l.length := by rw [HN.out]; exact hlt
      obtain ⟨b, off, rfl, hbl, _, p0, p1⟩ := (H.out.below hb).got j hjl
      have hstep := okRest_step l j hjl
      rw [hst.out] at hstep
      have hprev : j ≠ 0 → wr.cell? ⟨b, off + (j - 1) * 2, none⟩ = some (.int .i64 (l.getD (j - 1) (0, 0)).1) ∧ wr.cell? ⟨b, off + (j - 1) * 2 + 1, none⟩ = some (.int .i64 (l.getD (j - 1) (0, 0)).2) := fun h0 => by
        obtain ⟨b', off', e, _, _, q0, q1⟩ := (H.out.below hb).got (j - 1) (by omega)
        cases e
        rw [getD_eq l (j - 1) (0, 0) (by omega)]
        exact ⟨q0, q1⟩
      obtain ⟨p, hp⟩ : ∃ p, l[j]'hjl = p := ⟨_, rfl⟩
      rw [hp] at p0 p1 hstep
      obtain ⟨pv, hpv⟩ : ∃ p, l.getD (j - 1) (0, 0) = p := ⟨_, rfl⟩
      rw [hpv] at hstep hprev
      have hcm := fun W => comp_any W pv p
      have hlt2 := cmp2_lt pv p
      obtain ⟨x, y⟩ := p
      obtain ⟨x', y'⟩ := pv
      dsimp only at p0 p1 hprev hcm
      have hpa := fun W => par_any W x y
      have hlk := fun W => link_any W x y
      have hone : okOne (x, y) = (okPair x y && decide (x ≤ y)) := rfl
      rw [hone] at hstep
      have hne := (okPair_iff x y).1
      obtain ⟨t, ht⟩ : ∃ t, okPair x y = t := ⟨_, rfl⟩
      rw [ht] at hstep hne
      simp only [ht] at hpa
      obtain ⟨w4, hw4⟩ : ∃ w4, w4 = wr.alloc (Obj.cells #[.int .i64 x, .int .i64 y] 55) := ⟨_, rfl⟩
      have hz4 : w4.heap.size = wr.heap.size + 1 := by rw [hw4, World.size_alloc]
      have hb4 : Below wr.heap.size wr w4 := by rw [hw4]; exact (Below.refl _ _).alloc (Nat.le_refl _) _
      obtain ⟨g, hg⟩ : ∃ g, wr.heap.size = g := ⟨_, rfl⟩
      have c0 : w4.cell? ⟨g, 0, none⟩ = some (.int .i64 x) := by rw [hw4, ← hg]; go_cell
      have c1 : w4.cell? ⟨g, 1, none⟩ = some (.int .i64 y) := by rw [hw4, ← hg]; go_cell
      have k0 : ∀ W, Kept w4 W → W.cell? ⟨g, 0, none⟩ = some (.int .i64 x) := fun W hW => (hW.cell (by omega)).trans c0
      have k1 : ∀ W, Kept w4 W → W.cell? ⟨g, 1, none⟩ = some (.int .i64 y) := fun W hW => (hW.cell (by omega)).trans c1
      have HW4 := Lib.hid hw4
      have HG := Lib.hid hg
      have HPA := Lib.hid hpa
      have HLK := Lib.hid hlk
      have HCM := Lib.hid hcm
      have HB := Lib.hid (hb.trans (hb4.mono hbs))
      have HBW4 : Hid (w.heap.size ≤ w4.heap.size) := Lib.hid (by omega)
      have HPV := Lib.hid (fun (h0 : j ≠ 0) => ((hb4.cell (p := ⟨b, off + (j - 1) * 2, none⟩) (by show b < _; omega)).trans (hprev h0).1 : w4.cell? ⟨b, off + (j - 1) * 2, none⟩ = _))
      have HPW := Lib.hid (fun (h0 : j ≠ 0) => ((hb4.cell (p := ⟨b, off + (j - 1) * 2 + 1, none⟩) (by show b < _; omega)).trans (hprev h0).2 : w4.cell? ⟨b, off + (j - 1) * 2 + 1, none⟩ = _))
      have hbz : b < w4.heap.size := by omega
      clear hprev hcm hpa hlk hw4 hb hb4 hst hp hpv ht hone
      cases t with
      | false =>
        obtain rfl : res = false := by rw [hstep]; rfl
        clear hstep hne
        go_wp2
        rw [← HW4.out]
        go_quiet ((go_at_call 35; exact Calls.quiet_of_same (HPA.out _)))
        go_wp2
        go_ret
        exact ⟨rfl, below_drewN HB.out _⟩
      | true =>
        have hxy0 : x ≠ y := (hne rfl).1
        clear hne c0 c1
        by_cases hxy : x ≤ y
        · have hlk2 : ∀ W, Kept w4 W → Calls Try.prog 36 #[.int .i64 x, .int .i64 y] W fun e w' => e = .returned (.agg #[.int .i64 x, .int .i64 y]) ∧ Kept w4 w' := fun W hW => (HLK.out W).mono fun e w' h => ⟨by rw [h.1]; unfold lo2 hi2; rw [if_pos hxy, if_pos hxy], hW.next h.2⟩
          have HL2 := Lib.hid hlk2
          have heq : ∀ W, (Op.equalIn 10000 55 (.agg #[.int .i64 x, .int .i64 y]) (.agg #[.int .i64 x, .int .i64 y])).run Try.prog W = .ok true W := fun W => by rw [pair_eq]; simp
          have hstep2 : res = ((decide (j = 0) || pairLt (x', y') (x, y)) && okRest l (j + 1)) := by rw [hstep]; simp [hxy]
          clear hstep hlk2 HLK
          by_cases hj0 : j = 0
          · have HST : Hid (okRest l (j + 1) = res) := Lib.hid (by rw [hstep2]; simp [hj0])
            have dj : decide (0 < j) = false := by simp; omega
            clear hstep2 HCM HPV HPW hj0
            go_wp2
            rw [← HW4.out]
            go_region_held3 (fun W => Kept w4 W) (first | assumption | exact Kept.drew (Kept.refl _) | exact Kept.drew (by assumption))
              (first | (go_at_call 35; refine (HPA.out _).mono ?_; rintro e w8 ⟨rfl, rfl⟩) | (go_at_call 36; refine (HL2.out _ (by assumption)).mono ?_; rintro e w9 ⟨rfl, hK9⟩))
            all_goals
              have HF := Lib.hid (HB.out.trans (hK9.below.mono HBW4.out))
              clear hK9
              go_wp2_with fail
              go_quiet (fail)
              go_wp2
              refine ⟨⟨j + 1, by go_num, by omega, below_drewN HF.out _, HST⟩, ?_⟩
              simp [intOf]; omega
          · have hjp : 0 < j := by omega
            have dj : decide (0 < j) = true := by simpa using hjp
            obtain ⟨q0, q1⟩ : (∀ W, Kept w4 W → W.cell? ⟨b, off + (j - 1) * 2, none⟩ = some (.int .i64 x')) ∧ (∀ W, Kept w4 W → W.cell? ⟨b, off + (j - 1) * 2 + 1, none⟩ = some (.int .i64 y')) := ⟨fun W hW => (hW.cell hbz).trans (HPV.out hj0), fun W hW => (hW.cell hbz).trans (HPW.out hj0)⟩
            have hcm2 : ∀ W, Kept w4 W → Calls Try.prog 39 #[.agg #[.int .i64 x', .int .i64 y'], .agg #[.int .i64 x, .int .i64 y]] W fun e w' => e = .returned (.int .i64 (cmp2 (x', y') (x, y))) ∧ Kept w4 w' := fun W hW => (HCM.out W).mono fun e w' h => ⟨h.1, hW.next h.2⟩
            obtain ⟨m, hmj⟩ : ∃ m, j - 1 = m := ⟨_, rfl⟩
            rw [hmj] at q0 q1
            have hjm : (j : Int) - 1 = (m : Int) := by omega
            have hwj : IntKind.i64.wrap ((j : Int) - 1) = (m : Int) := by rw [IntKind.wrap_i64]; omega
            have hmN : m < N := by omega
            have mi : (m : Int) < (N : Int) := by omega
            obtain ⟨r, hr⟩ : ∃ r, cmp2 (x', y') (x, y) = r := ⟨_, rfl⟩
            rw [hr] at hlt2
            simp only [hr] at hcm2
            have HC2 := Lib.hid hcm2
            clear hcm2 HCM HPV HPW hr hmj hjm
            cases hpl : pairLt (x', y') (x, y) with
            | true =>
              rw [hpl] at hstep2 hlt2
              have HST : Hid (okRest l (j + 1) = res) := Lib.hid (by rw [hstep2]; simp)
              have dr : decide (0 ≤ r) = false := hlt2
              clear hstep2 hlt2 hpl hj0
              go_wp2
              rw [← HW4.out]
              go_region_held3 (fun W => Kept w4 W) (first | assumption | exact Kept.drew (Kept.refl _) | exact Kept.drew (by assumption))
                (first | (go_at_call 35; refine (HPA.out _).mono ?_; rintro e w8 ⟨rfl, rfl⟩) | (go_at_call 36; refine (HL2.out _ (by assumption)).mono ?_; rintro e w9 ⟨rfl, hK9⟩))
              all_goals
                have HK9 : Hid (Kept w4 w9) := Lib.hid hK9
                go_wp2_with fail
                go_region_held3 (fun W => Kept w4 W) (first | assumption | exact Kept.drew (Kept.refl _) | exact Kept.drew (by assumption))
                  (first | (go_at_call 39; refine (HC2.out _ (by assumption)).mono ?_; rintro e w10 ⟨rfl, hK10⟩))
                all_goals
                  have HF := Lib.hid (HB.out.trans (hK10.below.mono HBW4.out))
                  clear hK10
                  go_wp2_with fail
                  refine ⟨⟨j + 1, by go_num, by omega, HF.out, HST⟩, ?_⟩
                  simp [intOf]; omega
            | false =>
              rw [hpl] at hstep2 hlt2
              obtain rfl : res = false := by
                have e0 : decide (j = 0) = false := by simpa using hj0
                rw [hstep2, e0]; rfl
              have dr : decide (0 ≤ r) = true := hlt2
              clear hstep2 hlt2 hpl hj0
              go_wp2
              rw [← HW4.out]
              go_region_held3 (fun W => Kept w4 W) (first | assumption | exact Kept.drew (Kept.refl _) | exact Kept.drew (by assumption))
                (first | (go_at_call 35; refine (HPA.out _).mono ?_; rintro e w8 ⟨rfl, rfl⟩) | (go_at_call 36; refine (HL2.out _ (by assumption)).mono ?_; rintro e w9 ⟨rfl, hK9⟩))
              all_goals
                have HK9 : Hid (Kept w4 w9) := Lib.hid hK9
                go_wp2_with fail
                go_region_held3 (fun W => Kept w4 W) (first | assumption | exact Kept.drew (Kept.refl _) | exact Kept.drew (by assumption))
                  (first | (go_at_call 39; refine (HC2.out _ (by assumption)).mono ?_; rintro e w10 ⟨rfl, hK10⟩))
                all_goals
                  have HF := Lib.hid (HB.out.trans (hK10.below.mono HBW4.out))
                  clear hK10
                  go_wp2
                  go_ret
                  exact ⟨rfl, HF.out⟩
        · have hlk2 : ∀ W, Kept w4 W → Calls Try.prog 36 #[.int .i64 x, .int .i64 y] W fun e w' => e = .returned (.agg #[.int .i64 y, .int .i64 x]) ∧ Kept w4 w' := fun W hW => (HLK.out W).mono fun e w' h => ⟨by rw [h.1]; unfold lo2 hi2; rw [if_neg hxy, if_neg hxy], hW.next h.2⟩
          have HL2 := Lib.hid hlk2
          have heq : ∀ W, (Op.equalIn 10000 55 (.agg #[.int .i64 x, .int .i64 y]) (.agg #[.int .i64 y, .int .i64 x])).run Try.prog W = .ok false W := fun W => by rw [pair_eq]; simp [hxy0]
          obtain rfl : res = false := by rw [hstep]; simp [hxy]
          clear hstep hlk2 HLK HCM HPV HPW
          go_wp2
          rw [← HW4.out]
          go_region_held3 (fun W => Kept w4 W) (first | assumption | exact Kept.drew (Kept.refl _) | exact Kept.drew (by assumption))
            (first | (go_at_call 35; refine (HPA.out _).mono ?_; rintro e w8 ⟨rfl, rfl⟩) | (go_at_call 36; refine (HL2.out _ (by assumption)).mono ?_; rintro e w9 ⟨rfl, hK9⟩))
          all_goals
            have HF := Lib.hid (HB.out.trans (hK9.below.mono HBW4.out))
            clear hK9
            go_wp2
            go_ret
            exact ⟨rfl, HF.out⟩
    · obtain rfl : j = N := by omega
      have d : decide ((j : Int) < (j : Int)) = false := by simp
      obtain rfl : true = res := by rw [← hst.out]; exact (okRest_end l j HN.out).symm
      have HB := Lib.hid hb
      clear hb hst H0
      go_wp2
      go_ret
      exact ⟨rfl, HB.out⟩
end Go.Proofs.Ytjancbjjeemedaa
