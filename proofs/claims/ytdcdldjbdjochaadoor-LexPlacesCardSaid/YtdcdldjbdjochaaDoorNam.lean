/- Names and signs. -/
import Derived.Test.YtdcdldjbdjochaaDoorCls
namespace Go.Proofs.YtdcdldjbdjochaaDoor
open Go.RowKit

theorem str_list (bs : List UInt8) : (str bs).toList = bs := by rw [ByteArray.toList_eq]; exact str_toList bs
theorem empty_list : ByteArray.toList { data := #[] } = [] := by rw [ByteArray.toList_eq]

set_option maxHeartbeats 1000000 in
theorem name_any (w : World) (bs : List UInt8) (h : Tab w) (hl : bs.length ≤ 1000000000) : Calls Tryd.prog 19 #[.string (str bs)] w fun e w' => e = .returned (.bool (nameOk bs)) ∧ w' = w := by
  cases bs with
  | nil =>
    have he : (str []).toList = [] := str_list []
    have hsz : (str []).size = 0 := str_size []
    obtain ⟨s, hs⟩ : ∃ s, str [] = s := ⟨_, rfl⟩
    have hr : nameOk [] = false := rfl
    rw [hs] at he hsz ⊢
    rw [hr]
    have he2 : s.toList.isEmpty = true := by rw [he]; rfl
    clear hs hr he h hl
    go_enter Tryd.func19, Tryd.ntmps19
    go_wp2
    go_ret
    exact ⟨rfl, rfl⟩
  | cons b r =>
    have he2 : (str (b :: r)).toList.isEmpty = false := by rw [str_list]; rfl
    have hsz := str_size (b :: r)
    have hix := fun W => run_str (b :: r) 0 (by simp) W
    rw [List.getElem_cons_zero] at hix
    have hb256 := b.toNat_lt
    have hco := fun W hW => classOf_any W b.toNat hW hb256
    have hnl := fun W hW => nameLength_any W (b :: r) hW hl
    have hle := nlen_le isPart (b :: r)
    have hok : nameOk (b :: r) = (decide ((b :: r).length ≤ 32) && cls b.toNat == 2 && nlen isPart (b :: r) == (b :: r).length) := rfl
    rw [hok]
    obtain ⟨R, hR⟩ : ∃ R, nlen isPart (b :: r) = R := ⟨_, rfl⟩
    obtain ⟨s, hs⟩ : ∃ s, str (b :: r) = s := ⟨_, rfl⟩
    obtain ⟨N, hN⟩ : ∃ N, (b :: r).length = N := ⟨_, rfl⟩
    obtain ⟨c, hc⟩ : ∃ c, b.toNat = c := ⟨_, rfl⟩
    rw [hc] at hix hco
    obtain ⟨k, hk⟩ : ∃ k, cls c = k := ⟨_, rfl⟩
    rw [hk] at hco
    rw [hR] at hnl hle
    rw [hs] at he2 hsz hix hnl
    rw [hN] at hsz hle hl
    rw [hs, hR, hN, hc, hk]
    have HT := Lib.hid h
    have HCO := Lib.hid hco
    have HNL := Lib.hid hnl
    have hix' : ∀ W, (Instr.index 9 (.string s) (.int .i64 0)).run Tryd.prog W = .ok (.int .u8 c) W := hix
    clear hs hN hc hk hR hok hco hnl h hix hb256
    by_cases h32 : N ≤ 32
    · have d1 : decide ((N : Int) ≤ 32) = true := by simp; omega
      have d2 : decide (N ≤ 32) = true := by simpa using h32
      rw [d2, Bool.true_and]
      by_cases hk2 : k = 2
      · subst hk2
        go_enter Tryd.func19, Tryd.ntmps19
        go_wp2_with fail
        refine (HCO.out _ HT.out).mono ?_
        rintro e w1 ⟨rfl, rfl⟩
        go_wp2_with fail
        refine (HNL.out _ HT.out).mono ?_
        rintro e w2 ⟨rfl, rfl⟩
        go_wp2
        go_ret
        refine ⟨?_, rfl⟩
        by_cases hRN : R = N
        · subst hRN; simp
        · have e1 : ((R : Int) == (N : Int)) = false := by simp; omega
          have e2 : (R == N) = false := by simpa using hRN
          simp [e1, e2]
      · have d3 : ((k : Int) == 2) = false := by simp; omega
        have d4 : (k == 2) = false := by simpa using hk2
        rw [d4, Bool.false_and]
        go_enter Tryd.func19, Tryd.ntmps19
        go_wp2_with fail
        refine (HCO.out _ HT.out).mono ?_
        rintro e w1 ⟨rfl, rfl⟩
        go_wp2
        go_ret
        exact ⟨rfl, rfl⟩
    · have d1 : decide ((N : Int) ≤ 32) = false := by simp; omega
      have d2 : decide (N ≤ 32) = false := by simpa using h32
      rw [d2, Bool.false_and, Bool.false_and]
      go_enter Tryd.func19, Tryd.ntmps19
      go_wp2
      go_ret
      exact ⟨rfl, rfl⟩

/-- A sign, as a text. -/
def signOk (bs : List UInt8) : Bool := match bs with
  | [b] => cls b.toNat == 5 || cls b.toNat == 6
  | _ => false

set_option maxHeartbeats 1000000 in
theorem isSign_any (w : World) (bs : List UInt8) (h : Tab w) (hl : bs.length ≤ maxLen) : Calls Tryd.prog 40 #[.string (str bs)] w fun e w' => e = .returned (.bool (signOk bs)) ∧ w' = w := by
  by_cases h1 : bs.length = 1
  · obtain ⟨b, rfl⟩ : ∃ b, bs = [b] := by
      match bs, h1 with
      | [b], _ => exact ⟨b, rfl⟩
    have hsz := str_size [b]
    have hix := fun W => run_str [b] 0 (by simp) W
    rw [List.getElem_cons_zero] at hix
    have hco := fun W hW => classOf_any W b.toNat hW b.toNat_lt
    have hok : signOk [b] = (cls b.toNat == 5 || cls b.toNat == 6) := rfl
    rw [hok]
    obtain ⟨s, hs⟩ : ∃ s, str [b] = s := ⟨_, rfl⟩
    obtain ⟨c, hc⟩ : ∃ c, b.toNat = c := ⟨_, rfl⟩
    rw [hc] at hix hco
    obtain ⟨k, hk⟩ : ∃ k, cls c = k := ⟨_, rfl⟩
    rw [hk] at hco
    rw [hs] at hsz hix
    rw [hs, hc, hk]
    have hsz1 : s.size = 1 := hsz
    have HT := Lib.hid h
    have HCO := Lib.hid hco
    have hix' : ∀ W, (Instr.index 9 (.string s) (.int .i64 0)).run Tryd.prog W = .ok (.int .u8 c) W := hix
    clear hs hc hk hok hco h hix hsz hl h1
    by_cases hk5 : k = 5
    · subst hk5
      go_enter Tryd.func40, Tryd.ntmps40
      go_wp2_with fail
      refine (HCO.out _ HT.out).mono ?_
      rintro e w1 ⟨rfl, rfl⟩
      go_wp2
      go_ret
      exact ⟨rfl, rfl⟩
    · have d3 : ((k : Int) == 5) = false := by simp; omega
      have d4 : (k == 5) = false := by simpa using hk5
      rw [d4, Bool.false_or]
      go_enter Tryd.func40, Tryd.ntmps40
      go_wp2_with fail
      refine (HCO.out _ HT.out).mono ?_
      rintro e w1 ⟨rfl, rfl⟩
      go_wp2_with fail
      refine (HCO.out _ HT.out).mono ?_
      rintro e w2 ⟨rfl, rfl⟩
      go_wp2
      go_ret
      refine ⟨?_, rfl⟩
      by_cases hk6 : k = 6
      · subst hk6; rfl
      · have d5 : ((k : Int) == 6) = false := by simp; omega
        have d6 : (k == 6) = false := by simpa using hk6
        simp [d5, d6]
  · have hok : signOk bs = false := by
      unfold signOk
      split
      · rename_i b; simp at h1
      · rfl
    rw [hok]
    have hsz := str_size bs
    obtain ⟨s, hs⟩ : ∃ s, str bs = s := ⟨_, rfl⟩
    obtain ⟨N, hN⟩ : ∃ N, bs.length = N := ⟨_, rfl⟩
    rw [hs] at hsz
    rw [hN] at hsz h1
    rw [hs]
    have d : ((N : Int) == 1) = false := by simp; omega
    clear hs hN hok h h1 hl
    go_enter Tryd.func40, Tryd.ntmps40
    go_wp2
    go_ret
    exact ⟨rfl, rfl⟩
end Go.Proofs.YtdcdldjbdjochaaDoor
