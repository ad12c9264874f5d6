/- The reference's Name and Sign. -/
import Derived.Test.YtdcdldjbdjochaaDoorRcl
namespace Go.Proofs.YtdcdldjbdjochaaDoor
open Go.RowKit

theorem nlen_end (p : Nat → Bool) (l : List UInt8) (j : Nat) (h : j < l.length) : (nlen p (l.drop j) == (l.drop j).length) = (p l[j].toNat && (nlen p (l.drop (j + 1)) == (l.drop (j + 1)).length)) := by
  rw [List.drop_eq_getElem_cons h, nlen]
  by_cases hp : p l[j].toNat = true
  · rw [if_pos hp, hp, Bool.true_and, List.length_cons]
    by_cases e : nlen p (l.drop (j + 1)) = (l.drop (j + 1)).length
    · rw [e]; simp
    · have e1 : (nlen p (l.drop (j + 1)) == (l.drop (j + 1)).length) = false := by simpa using e
      have e2 : (nlen p (l.drop (j + 1)) + 1 == (l.drop (j + 1)).length + 1) = false := by simpa using e
      rw [e1, e2]
  · rw [if_neg hp]
    have hp : p l[j].toNat = false := by simpa using hp
    rw [hp, Bool.false_and, List.length_cons]
    simp

set_option maxHeartbeats 2000000 in
theorem rname_any (w : World) (bs : List UInt8) (hl : bs.length ≤ 1000000000) : Calls Tryd.prog 20 #[.string (str bs)] w fun e w' => e = .returned (.bool (nameOk bs)) ∧ w' = w := by
  cases bs with
  | nil =>
    have hsz : (str []).size = 0 := str_size []
    obtain ⟨s, hs⟩ : ∃ s, str [] = s := ⟨_, rfl⟩
    have hr : nameOk [] = false := rfl
    rw [hs] at hsz ⊢
    rw [hr]
    clear hs hr hl
    go_enter Tryd.func20, Tryd.ntmps20
    go_wp2
    go_ret
    exact ⟨rfl, rfl⟩
  | cons b r =>
    have hsz := str_size (b :: r)
    have hix0 := fun W => run_str (b :: r) 0 (by simp) W
    rw [List.getElem_cons_zero] at hix0
    have hix := fun j (hj : j < (b :: r).length) W => run_str (b :: r) j hj W
    have hco := fun W => rletter_any W b.toNat
    have hpt := fun c W => rpart_any W c
    have hok : nameOk (b :: r) = (decide ((b :: r).length ≤ 32) && cls b.toNat == 2 && nlen isPart (b :: r) == (b :: r).length) := rfl
    have hdr := fun j h => nlen_end isPart (b :: r) j h
    have hend : nlen isPart ((b :: r).drop (b :: r).length) == ((b :: r).drop (b :: r).length).length := by rw [List.drop_length]; rfl
    have hstart : (nlen isPart ((b :: r).drop 0) == ((b :: r).drop 0).length) = (nlen isPart (b :: r) == (b :: r).length) := rfl
    rw [hok]
    have hne : 1 ≤ (b :: r).length := by simp
    obtain ⟨l, hlst⟩ : ∃ l, b :: r = l := ⟨_, rfl⟩
    rw [hlst] at hl hsz hix0 hix hdr hend hstart hne ⊢
    obtain ⟨res, hres⟩ : ∃ res, (nlen isPart l == l.length) = res := ⟨_, rfl⟩
    rw [hres] at hstart ⊢
    obtain ⟨s, hs⟩ : ∃ s, str l = s := ⟨_, rfl⟩
    obtain ⟨N, hN⟩ : ∃ N, l.length = N := ⟨_, rfl⟩
    obtain ⟨c, hc⟩ : ∃ c, b.toNat = c := ⟨_, rfl⟩
    rw [hc] at hix0 hco ⊢
    obtain ⟨k, hk⟩ : ∃ k, (cls c == 2) = k := ⟨_, rfl⟩
    rw [hk] at hco ⊢
    rw [hs] at hsz hix0 hix ⊢
    have HN := Lib.hid hN
    rw [hN] at hsz hl hne hend ⊢
    have HCO := Lib.hid hco
    have HPT := Lib.hid hpt
    have HIX := Lib.hid hix
    have HDR := Lib.hid hdr
    have HEND := Lib.hid hend
    have HST := Lib.hid hstart
    have hix' : ∀ W, (Instr.index 9 (.string s) (.int .i64 0)).run Tryd.prog W = .ok (.int .u8 c) W := hix0
    clear hs hN hc hk hok hco hpt hix0 hix hdr hend hstart hlst hres
    have d0 : decide ((N : Int) < 1) = false := by simp; omega
    by_cases h32 : N ≤ 32
    · have d1 : decide (32 < (N : Int)) = false := by simp; omega
      have d2 : decide (N ≤ 32) = true := by simpa using h32
      rw [d2, Bool.true_and]
      cases k with
      | true =>
        rw [Bool.true_and]
        go_enter Tryd.func20, Tryd.ntmps20
        go_wp2_with fail
        refine (HCO.out _).mono ?_
        rintro e w1 ⟨rfl, rfl⟩
        go_wp2_with fail
        go_loopw [3] (fun i wr => ∃ j : Nat, i = .int .i64 j ∧ j ≤ N ∧ wr = w1 ∧ (nlen isPart (l.drop j) == (l.drop j).length) = res) (fun i _ => N - (intOf i).toNat)
        case atStart => exact ⟨0, rfl, by omega, rfl, HST.out⟩
        case round =>
          obtain ⟨j, rfl, hj, rfl, hrs⟩ := hrel
          by_cases hlt : j < N
          · have d : decide ((j : Int) < (N : Int)) = true := by simp; omega
            have hd := HDR.out j (by rw [HN.out]; exact hlt)
            rw [hrs] at hd
            have hx := HIX.out j (by rw [HN.out]; exact hlt)
            obtain ⟨cj, hcj⟩ : ∃ cj, (l[j]'(by rw [HN.out]; exact hlt)).toNat = cj := ⟨_, rfl⟩
            rw [hcj] at hd hx
            have hx' : ∀ W, (Instr.index 9 (.string s) (.int .i64 (j : Int))).run Tryd.prog W = .ok (.int .u8 cj) W := hx
            have hp := HPT.out cj
            cases hip : isPart cj with
            | true =>
              rw [hip] at hp hd
              rw [Bool.true_and] at hd
              have HP := Lib.hid hp
              have HD := Lib.hid hd
              clear hp hd hx hrs hcj hip
              go_wp2_with fail
              refine (HP.out _).mono ?_
              rintro e w1 ⟨rfl, rfl⟩
              go_wp2_with fail
              refine ⟨⟨j + 1, by simp, by omega, by simp, HD.out.symm⟩, ?_⟩
              simp [intOf]; omega
            | false =>
              rw [hip] at hp hd
              rw [Bool.false_and] at hd
              subst hd
              have HP := Lib.hid hp
              clear hp hx hrs hcj hip
              go_wp2_with fail
              refine (HP.out _).mono ?_
              rintro e w1 ⟨rfl, rfl⟩
              go_wp2
              go_ret
              exact ⟨rfl, rfl⟩
          · obtain rfl : j = N := by omega
            have d : decide ((j : Int) < (j : Int)) = false := by simp
            have hr : true = res := by rw [← hrs]; exact HEND.out.symm
            subst hr
            clear hrs
            go_wp2
            go_ret
            exact ⟨rfl, rfl⟩
      | false =>
        rw [Bool.false_and]
        go_enter Tryd.func20, Tryd.ntmps20
        go_wp2_with fail
        refine (HCO.out _).mono ?_
        rintro e w1 ⟨rfl, rfl⟩
        go_wp2
        go_ret
        exact ⟨by simp, rfl⟩
    · have d1 : decide (32 < (N : Int)) = true := by simp; omega
      have d2 : decide (N ≤ 32) = false := by simpa using h32
      rw [d2, Bool.false_and, Bool.false_and]
      go_enter Tryd.func20, Tryd.ntmps20
      go_wp2
      go_ret
      exact ⟨by simp, rfl⟩

def sgs : List UInt8 := [123, 125, 40, 41, 59, 44, 61, 58, 46, 60, 62, 33, 43, 45, 42, 47]
theorem sgs_cls : ∀ c : Fin 256, (cls c.val == 5 || cls c.val == 6) = sgs.any (fun b => b.toNat == c.val) := by decide +kernel
theorem any_end (c : Nat) (l : List UInt8) (j : Nat) (h : j < l.length) : (l.drop j).any (fun b => b.toNat == c) = (l[j].toNat == c || (l.drop (j + 1)).any (fun b => b.toNat == c)) := by
  rw [List.drop_eq_getElem_cons h, List.any_cons]

set_option maxRecDepth 100000 in
set_option maxHeartbeats 2000000 in
theorem rsign_any (w : World) (c : Nat) (hc : c < 256) : Calls Tryd.prog 29 #[.int .u8 (c : Nat)] w fun e w' => e = .returned (.bool (cls c == 5 || cls c == 6)) ∧ w' = w := by
  rw [show (cls c == 5 || cls c == 6) = sgs.any (fun b => b.toNat == c) from sgs_cls ⟨c, hc⟩]
  obtain ⟨res, hres⟩ : ∃ res, sgs.any (fun b => b.toNat == c) = res := ⟨_, rfl⟩
  rw [hres]
  have hix := fun j (hj : j < sgs.length) W => run_str sgs j hj W
  have hst : (sgs.drop 0).any (fun b => b.toNat == c) = res := hres
  have hend : (sgs.drop 16).any (fun b => b.toNat == c) = false := rfl
  have hdr := fun j h => any_end c sgs j h
  have hsz : (str sgs).size = 16 := rfl
  have hlit : (.string { data := #[123, 125, 40, 41, 59, 44, 61, 58, 46, 60, 62, 33, 43, 45, 42, 47] } : Value) = .string (str sgs) := rfl
  have hN : sgs.length = 16 := rfl
  obtain ⟨l, hl⟩ : ∃ l, sgs = l := ⟨_, rfl⟩
  rw [hl] at hix hst hend hdr hsz hlit hN
  obtain ⟨s, hs⟩ : ∃ s, str l = s := ⟨_, rfl⟩
  rw [hs] at hix hsz hlit
  have HIX := Lib.hid hix
  have HST := Lib.hid hst
  have HEND := Lib.hid hend
  have HDR := Lib.hid hdr
  have HN := Lib.hid hN
  have HLIT := Lib.hid hlit
  clear hix hst hend hdr hN hl hs hlit hres hc
  go_enter Tryd.func29, Tryd.ntmps29
  rw [HLIT.out]
  go_wp2_with fail
  go_loopw [4] (fun i wr => ∃ j : Nat, i = .int .i64 j ∧ j ≤ 16 ∧ wr = w ∧ (l.drop j).any (fun b => b.toNat == c) = res) (fun i _ => 16 - (intOf i).toNat)
  case atStart => exact ⟨0, rfl, by omega, rfl, HST.out⟩
  case round =>
    obtain ⟨j, rfl, hj, rfl, hrs⟩ := hrel
    by_cases hlt : j < 16
    · have d : decide ((j : Int) < 16) = true := by simp; omega
      have hd := HDR.out j (by rw [HN.out]; exact hlt)
      rw [hrs] at hd
      have hx := HIX.out j (by rw [HN.out]; exact hlt)
      obtain ⟨cj, hcj⟩ : ∃ cj, (l[j]'(by rw [HN.out]; exact hlt)).toNat = cj := ⟨_, rfl⟩
      rw [hcj] at hd hx
      have hx' : ∀ W, (Instr.index 9 (.string s) (.int .i64 (j : Int))).run Tryd.prog W = .ok (.int .u8 cj) W := hx
      by_cases he : cj = c
      · subst he
        have hd2 : true = res := by rw [hd]; simp
        clear hd
        subst hd2
        clear hx hrs hcj
        go_wp2
        go_ret
        exact ⟨by simp, rfl⟩
      · have e1 : ((cj : Int) == (c : Int)) = false := by simp; omega
        have e2 : (cj == c) = false := by simpa using he
        rw [e2, Bool.false_or] at hd
        have HD := Lib.hid hd
        clear hx hrs hcj hd e2 he
        go_wp2_with fail
        refine ⟨⟨j + 1, by simp, by omega, by simp, HD.out.symm⟩, ?_⟩
        simp [intOf]; omega
    · obtain rfl : j = 16 := by omega
      have hr : false = res := by rw [← hrs]; exact HEND.out.symm
      subst hr
      clear hrs
      go_wp2
      go_ret
      exact ⟨by simp, rfl⟩
end Go.Proofs.YtdcdldjbdjochaaDoor
