/- The reference's reader: a number. -/
import Derived.Test.YtkecoohplpbgnaaRrNext
import Derived.Test.YtkecoohplpbgnaaPure
namespace Go.Proofs.Ytkecoohplpbgnaa
open Go.RowKit

theorem rdNum_bad9 (u : Nat) (c : UInt8) (r : List UInt8) (h : 1 < c.toNat) : rdNum 63 u (c :: r) = none := by
  rw [rdNum_cons]
  have hc := c.toNat_lt
  by_cases hd : c.toNat % 128 * 2 ^ min 63 64 % 18446744073709551616 / 2 ^ min 63 64 = c.toNat % 128
  · rw [if_pos hd]
    have e : min 63 64 = 63 := rfl
    rw [e] at hd ⊢
    have hd2 : c.toNat % 128 < 2 := by
      have : c.toNat % 128 * 2 ^ 63 % 18446744073709551616 / 2 ^ 63 < 2 := by omega
      omega
    rw [if_neg (by omega)]
    exact rdNum_far r 70 _ (by omega)
  · rw [if_neg hd]
theorem rdNum_bad0 (i u : Nat) (c : UInt8) (r : List UInt8) (hi : 0 < i) (h : c.toNat = 0) : rdNum (7 * i) u (c :: r) = none := by
  rw [rdNum_cons, h]
  simp only [Nat.zero_mod, Nat.zero_mul, Nat.zero_div, if_true]
  rw [if_pos (by omega), if_neg (by omega)]
theorem rdNum_good (i u : Nat) (c : UInt8) (r : List UInt8) (hi : i ≤ 9) (hu : u < 2 ^ (7 * i)) (h9 : ¬ (i = 9 ∧ 1 < c.toNat)) (h0 : ¬ (0 < i ∧ c.toNat = 0)) :
    rdNum (7 * i) u (c :: r) = (if c.toNat < 128 then some (u + c.toNat % 128 * 2 ^ (7 * i), r) else rdNum (7 * (i + 1)) (u + c.toNat % 128 * 2 ^ (7 * i)) r) ∧ u + c.toNat % 128 * 2 ^ (7 * i) < 18446744073709551616 ∧ (¬ c.toNat < 128 → i + 1 ≤ 9 ∧ u + c.toNat % 128 * 2 ^ (7 * i) < 2 ^ (7 * (i + 1))) := by
  have hc := c.toNat_lt
  have hm : min (7 * i) 64 = 7 * i := by omega
  obtain ⟨P, hP⟩ : ∃ P, 2 ^ (7 * i) = P := ⟨_, rfl⟩
  have hP0 : 0 < P := by rw [← hP]; exact Nat.pow_pos (by omega)
  have hP7 : 2 ^ (7 * (i + 1)) = P * 128 := by rw [← hP, show 7 * (i + 1) = 7 * i + 7 by omega, Nat.pow_add]
  have hPb : P ≤ 2 ^ 63 := by rw [← hP]; exact Nat.pow_le_pow_right (by omega) (by omega)
  have hP8 : i ≤ 8 → P ≤ 2 ^ 56 := fun h => by rw [← hP]; exact Nat.pow_le_pow_right (by omega) (by omega)
  obtain ⟨d, hd⟩ : ∃ d, c.toNat % 128 = d := ⟨_, rfl⟩
  have hdl : d < 128 := by omega
  have hdP : d * P < 18446744073709551616 ∧ u + d * P < 18446744073709551616 := by
    rw [hP] at hu
    by_cases h : i ≤ 8
    · have := hP8 h
      have h1 : d * P ≤ 127 * P := Nat.mul_le_mul_right _ (by omega)
      omega
    · have h1 : i = 9 := by omega
      have h2 : d ≤ 1 := by
        have : ¬ 1 < c.toNat := fun h => h9 ⟨h1, h⟩
        omega
      have h3 : d * P ≤ 1 * P := Nat.mul_le_mul_right _ h2
      omega
  have hor : u ||| d * P = u + d * P := by rw [← hP]; exact or_add u d (7 * i) hu
  refine ⟨?_, by rw [hd, hP]; exact hdP.2, fun hn => ?_⟩
  · rw [rdNum_cons, hm, hd, hP, Nat.mod_eq_of_lt hdP.1, Nat.mul_div_cancel _ hP0, if_pos rfl, hor]
    by_cases h : c.toNat < 128
    · rw [if_pos h, if_pos h, if_pos]
      by_cases hi0 : i = 0
      · right; omega
      · left
        have : ¬ c.toNat = 0 := fun e => h0 ⟨by omega, e⟩
        omega
    · rw [if_neg h, if_neg h, show 7 * i + 7 = 7 * (i + 1) by omega]
  · have h8 : i ≤ 8 := by
      by_cases h : i = 9
      · exact absurd ⟨h, by omega⟩ h9
      · omega
    refine ⟨by omega, ?_⟩
    rw [hd, hP7, hP]
    rw [hP] at hu
    have h1 : d * P ≤ 127 * P := Nat.mul_le_mul_right _ (by omega)
    omega

/-- What the reference's number ends in. -/
def NumR (w : World) (rb : Nat) (a : Option Addr) (cap : Nat) (all : List UInt8) (o : Option (Nat × List UInt8)) (e : Ending) (w' : World) : Prop :=
  w.grownBy w' (some rb) ∧ ((∃ u k, o = some (u, all.drop k) ∧ e = .returned (.int .u64 (u : Nat)) ∧ u < 18446744073709551616 ∧ RR w' rb a cap all k false) ∨ (o = none ∧ e = .returned (.int .u64 0) ∧ ∃ k, RR w' rb a cap all k true))

set_option maxRecDepth 100000 in
set_option maxHeartbeats 4000000 in
theorem number_any (w : World) (rb : Nat) (a : Option Addr) (cap : Nat) (all : List UInt8) (k : Nat) (h : RR w rb a cap all k false) :
    Calls Try.prog 48 #[.pointer (some ⟨rb, 0, none⟩)] w (NumR w rb a cap all (rdNum 0 0 (all.drop k))) := by
  have HR := Lib.hid h
  clear h
  go_enter Try.func48, Try.ntmps48
  go_wp2_with fail
  go_loopw [3, 4] (fun v3 v4 wr => ∃ (u i k' : Nat), v3 = .int .u64 u ∧ v4 = .int .i64 i ∧ i ≤ 9 ∧ u < 2 ^ (7 * i) ∧ rdNum 0 0 (all.drop k) = rdNum (7 * i) u (all.drop k') ∧ RR wr rb a cap all k' false ∧ w.grownBy wr (some rb)) (fun _ i _ => 10 - (intOf i).toNat)
  case atStart => exact ⟨0, 0, k, rfl, rfl, by omega, by simp, rfl, HR.out, World.grownBy.refl _ _⟩
  case round =>
    clear HR
    obtain ⟨u, i, k', rfl, rfl, hi9, hu, hrd, hr, hg⟩ := hrel
    have HRD := Lib.hid hrd
    have HU := Lib.hid hu
    have HG := Lib.hid hg
    have c2 := hr.c2
    by_cases hk : k' < all.length
    · have hn := next_some wr rb a cap all k' false hr hk
      have HN := Lib.hid hn
      have hdk : all.drop k' = all[k'] :: all.drop (k' + 1) := List.drop_eq_getElem_cons hk
      obtain ⟨c, hc⟩ : ∃ c, all[k'] = c := ⟨_, rfl⟩
      rw [hc] at HN hdk
      have HDK := Lib.hid hdk
      obtain ⟨z, hz⟩ : ∃ z, c.toNat = z := ⟨_, rfl⟩
      rw [hz] at HN
      have hz256 : z < 256 := by rw [← hz]; exact c.toNat_lt
      have HZ := Lib.hid hz
      clear hrd hu hg hr hn hdk hc hz
      go_wp2_with fail
      refine HN.out.mono ?_
      rintro e w1 ⟨rfl, hr1, hg1⟩
      have HR1 := Lib.hid hr1
      have HG1 := Lib.hid (gtrans HG.out hg1)
      clear hg1 c2
      have f2 := hr1.f2
      have c2 := hr1.c2
      clear hr1
      by_cases hA : (i = 9 ∧ 1 < z) ∨ (0 < i ∧ z = 0)
      · have hnone : rdNum 0 0 (all.drop k) = none := by
          rw [HRD.out, HDK.out]
          rcases hA with ⟨h1, h2⟩ | ⟨h1, h2⟩
          · subst h1; exact rdNum_bad9 u c _ (by rw [HZ.out]; exact h2)
          · exact rdNum_bad0 i u c _ h1 (by rw [HZ.out]; exact h2)
        have HNONE := Lib.hid hnone
        have HRF := Lib.hid HR1.out.fail
        have HGF := Lib.hid (gtrans HG1.out (gset w1 rb 2 (.bool true)))
        have dd : (((i : Int) == 9) = true ∧ (i == 9) = true ∧ decide (1 < (z : Int)) = true ∧ decide (1 < z) = true) ∨ (((i : Int) == 9) = true ∧ (i == 9) = true ∧ z = 0 ∧ decide (0 < (i : Int)) = true ∧ decide (0 < i) = true) ∨ (((i : Int) == 9) = false ∧ (i == 9) = false ∧ z = 0 ∧ decide (0 < (i : Int)) = true ∧ decide (0 < i) = true) := by
          by_cases h9 : i = 9
          · by_cases h1 : 1 < z
            · exact .inl ⟨by simp; omega, by simpa using h9, by simp; omega, by simpa using h1⟩
            · have h0 : z = 0 := by rcases hA with h | h <;> omega
              exact .inr (.inl ⟨by simp; omega, by simpa using h9, h0, by simp; omega, by simp; omega⟩)
          · have h0 : z = 0 := by rcases hA with h | h <;> omega
            have hi : 0 < i := by rcases hA with h | h <;> omega
            exact .inr (.inr ⟨by simp; omega, by simpa using h9, h0, by simp; omega, by simp; omega⟩)
        clear hA hnone
        rcases dd with ⟨q1, q2, q3, q4⟩ | ⟨q1, q2, q3, q4, q5⟩ | ⟨q1, q2, q3, q4, q5⟩
        all_goals
          try subst q3
          go_wp2
          go_ret
          exact ⟨HGF.out, .inr ⟨HNONE.out, rfl, k' + 1, HRF.out⟩⟩
      · have hgood := rdNum_good i u c (all.drop (k' + 1)) hi9 HU.out (by rw [HZ.out]; exact fun h => hA (.inl h)) (by rw [HZ.out]; exact fun h => hA (.inr h))
        rw [HZ.out] at hgood
        obtain ⟨N, hN⟩ : ∃ N, u + z % 128 * 2 ^ (7 * i) = N := ⟨_, rfl⟩
        rw [hN] at hgood
        have HGOOD := Lib.hid hgood
        have HNN := Lib.hid hN
        have w7 : IntKind.i64.wrap (7 * (i : Int)) = 7 * (i : Int) := by rw [IntKind.wrap_i64]; omega
        have hsum : IntKind.u64.wrap ((u : Int) + IntKind.u64.wrap ((z : Int) % 128 * 2 ^ (7 * i))) = (N : Int) := by
          have h3 := hgood.2.1
          rw [← hN] at h3 ⊢
          rw [wrap_shl]
          generalize z % 128 * 2 ^ (7 * i) = M at h3 ⊢
          rw [Nat.mod_eq_of_lt (by omega), IntKind.wrap_u64]
          omega
        have HSUM := Lib.hid hsum
        have dd : (((i : Int) == 9) = true ∧ (i == 9) = true ∧ decide (1 < (z : Int)) = false ∧ decide (1 < z) = false ∧ decide (0 < (i : Int)) = true ∧ decide (0 < i) = true ∧ ((z : Int) == 0) = false ∧ (z == 0) = false) ∨ (((i : Int) == 9) = false ∧ (i == 9) = false ∧ decide (0 < (i : Int)) = false ∧ decide (0 < i) = false ∧ True ∧ True ∧ True ∧ True) ∨ (((i : Int) == 9) = false ∧ (i == 9) = false ∧ decide (0 < (i : Int)) = true ∧ decide (0 < i) = true ∧ ((z : Int) == 0) = false ∧ (z == 0) = false ∧ True ∧ True) := by
          by_cases h9 : i = 9
          · have h1 : ¬ 1 < z := fun h => hA (.inl ⟨h9, h⟩)
            have h2 : ¬ z = 0 := fun h => hA (.inr ⟨by omega, h⟩)
            exact .inl ⟨by simp; omega, by simpa using h9, by simp; omega, by simpa using h1, by simp; omega, by simp; omega, by simp; omega, by simpa using h2⟩
          · by_cases h0 : i = 0
            · exact .inr (.inl ⟨by simp; omega, by simpa using h9, by simp; omega, by simp; omega, trivial, trivial, trivial, trivial⟩)
            · have h2 : ¬ z = 0 := fun h => hA (.inr ⟨by omega, h⟩)
              exact .inr (.inr ⟨by simp; omega, by simpa using h9, by simp; omega, by simp; omega, by simp; omega, by simpa using h2, trivial, trivial⟩)
        have h70 : ¬ (7 * (i : Int) < 0) := by omega
        clear hgood hN hA hsum
        by_cases hz8 : z < 128
        · have d8 : decide ((z : Int) < 128) = true := by simp; omega
          have hfin : rdNum 0 0 (all.drop k) = some (N, all.drop (k' + 1)) := by rw [HRD.out, HDK.out, HGOOD.out.1, if_pos hz8]
          have HFIN := Lib.hid hfin
          clear hfin
          rcases dd with ⟨q1, q2, q3, q4, q5, q6, q7, q8⟩ | ⟨q1, q2, q3, q4, q5, q6, q7, q8⟩ | ⟨q1, q2, q3, q4, q5, q6, q7, q8⟩
          all_goals
            go_wp2
            rw [HSUM.out]
            go_ret
            exact ⟨HG1.out, .inl ⟨N, k' + 1, HFIN.out, rfl, HGOOD.out.2.1, HR1.out⟩⟩
        · have d8 : decide ((z : Int) < 128) = false := by simp; omega
          have hfin : rdNum 0 0 (all.drop k) = rdNum (7 * (i + 1)) N (all.drop (k' + 1)) := by rw [HRD.out, HDK.out, HGOOD.out.1, if_neg hz8]
          have HFIN := Lib.hid hfin
          clear hfin
          obtain ⟨g1, g2⟩ := HGOOD.out.2.2 hz8
          have HG2 := Lib.hid g2
          clear g2
          rcases dd with ⟨q1, q2, q3, q4, q5, q6, q7, q8⟩ | ⟨q1, q2, q3, q4, q5, q6, q7, q8⟩ | ⟨q1, q2, q3, q4, q5, q6, q7, q8⟩
          all_goals
            go_wp2
            go_roundw
            case rel => exact ⟨N, i + 1, k' + 1, by rw [HSUM.out], by go_num, g1, HG2.out, HFIN.out, HR1.out, HG1.out⟩
            case measure => simp [intOf]; omega
    · have hkl : k' = all.length := by have := hr.le; omega
      have hn := next_end wr rb a cap all k' false hr hkl
      have HN := Lib.hid hn
      have hnone : rdNum 0 0 (all.drop k) = none := by rw [HRD.out, hkl, List.drop_length]; rfl
      have HNONE := Lib.hid hnone
      have hu0 : i = 0 → u = 0 := fun h => by subst h; simp at hu; exact hu
      clear hrd hu hg hr hn hk hkl hnone
      go_wp2_with fail
      refine HN.out.mono ?_
      rintro e w1 ⟨rfl, hr1, hg1⟩
      have HR1 := Lib.hid hr1
      have HG1 := Lib.hid (gtrans HG.out hg1)
      have HRF := Lib.hid hr1.fail
      have HGF := Lib.hid (gtrans (gtrans HG.out hg1) (gset w1 rb 2 (.bool true)))
      clear hg1 c2
      have f2 := hr1.f2
      have c2 := hr1.c2
      clear hr1
      have dd : ((i = 0 ∧ u = 0) ∨ (((i : Int) == 9) = true ∧ (i == 9) = true ∧ decide (0 < (i : Int)) = true ∧ decide (0 < i) = true)) ∨ (((i : Int) == 9) = false ∧ (i == 9) = false ∧ decide (0 < (i : Int)) = true ∧ decide (0 < i) = true) := by
        by_cases h0 : i = 0
        · exact .inl (.inl ⟨h0, hu0 h0⟩)
        · by_cases h9 : i = 9
          · exact .inl (.inr ⟨by simp; omega, by simpa using h9, by simp; omega, by simp; omega⟩)
          · exact .inr ⟨by simp; omega, by simpa using h9, by simp; omega, by simp; omega⟩
      clear hu0
      rcases dd with (⟨rfl, rfl⟩ | ⟨q1, q2, q3, q4⟩) | ⟨q1, q2, q3, q4⟩
      · go_wp2
        go_ret
        exact ⟨HG1.out, .inr ⟨HNONE.out, rfl, k', HR1.out⟩⟩
      all_goals
        go_wp2
        go_ret
        exact ⟨HGF.out, .inr ⟨HNONE.out, rfl, k', HRF.out⟩⟩
end Go.Proofs.Ytkecoohplpbgnaa
