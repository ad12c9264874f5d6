/- The reference's number. -/
import Derived.Test.YtdcdldjbdjochaaDoorRnm
import Derived.Test.YtdcdldjbdjochaaDoorRsm
import Derived.Test.YtdcdldjbdjochaaDoorLbk
namespace Go.Proofs.YtdcdldjbdjochaaDoor
open Go.RowKit

theorem val10_take (l : List UInt8) (j : Nat) (h : j < l.length) : val10 0 (l.take (j + 1)) = 10 * val10 0 (l.take j) + (l[j].toNat - 48) := by
  rw [List.take_succ_eq_append_getElem h, val10_app, val10_cons, val10_nil]
theorem val10_part (l : List UInt8) (j : Nat) : val10 0 (l.take j) ≤ val10 0 l := by
  have h := val10_app (l.take j) (l.drop j) 0
  rw [List.take_append_drop] at h
  rw [h]
  exact val10_ge _ _
def NumPost (l : List UInt8) (e : Ending) : Prop := ∃ n : Int, e = .returned (.tuple #[.int .i64 n, .bool (numOk l)]) ∧ (numOk l = true → n = (val10 0 l : Nat))

set_option maxRecDepth 100000 in
set_option maxHeartbeats 2000000 in
theorem rnumber_any (w : World) (b : UInt8) (r : List UInt8) (hd : Digits (b :: r)) (hl : (b :: r).length ≤ 1000000000) : Calls Tryd.prog 28 #[.string (str (b :: r))] w fun e w' => NumPost (b :: r) e ∧ Below w.heap.size w w' := by
  have hsz := str_size (b :: r)
  have hix0 := fun W => run_str (b :: r) 0 (by simp) W
  rw [List.getElem_cons_zero] at hix0
  have hok : numOk (b :: r) = (decide (val10 0 (b :: r) ≤ 1099511627776) && ((b :: r).length == 1 || !(b.toNat == 48))) := by
    unfold numOk
    have e : (((b :: r).head?) == some 48) = (b.toNat == 48) := by
      rw [List.head?_cons]
      by_cases hb : b = 48
      · subst hb; rfl
      · have e1 : (some b == some (48 : UInt8)) = false := beq_eq_false_iff_ne.2 (fun h => hb (Option.some.inj h))
        have e2 : (b.toNat == 48) = false := beq_eq_false_iff_ne.2 (fun h => hb (UInt8.toNat_inj.1 (by rw [h]; rfl)))
        rw [e1, e2]
    rw [e]
  have hb0 := hd b (by simp)
  have hne : 1 ≤ (b :: r).length := by simp
  obtain ⟨c0, hc0⟩ : ∃ c, b.toNat = c := ⟨_, rfl⟩
  rw [hc0] at hix0 hok hb0
  obtain ⟨l, hlst⟩ : ∃ l, b :: r = l := ⟨_, rfl⟩
  rw [hlst] at hd hl hsz hix0 hok hne ⊢
  have hix := fun j (hj : j < l.length) W => run_str l j hj W
  obtain ⟨N, hN⟩ : ∃ N, l.length = N := ⟨_, rfl⟩
  have HN := Lib.hid hN
  rw [hN] at hl hsz hok hne
  obtain ⟨s, hs⟩ : ∃ s, str l = s := ⟨_, rfl⟩
  simp only [hs] at hsz hix0 hix ⊢
  have HIX := Lib.hid hix
  have HD := Lib.hid hd
  have HOK := Lib.hid hok
  have hix' : ∀ W, (Instr.index 9 (.string s) (.int .i64 0)).run Tryd.prog W = .ok (.int .u8 c0) W := hix0
  clear hix hix0 hd hok hs hN hlst hc0
  go_enter Tryd.func28, Tryd.ntmps28
  go_wp2_with fail
  go_loopw [4, 5] (fun n i wr => ∃ j : Nat, i = .int .i64 j ∧ j ≤ N ∧ n = .int .i64 (val10 0 (l.take j) : Nat) ∧ val10 0 (l.take j) ≤ 1099511627776 ∧ wr = w) (fun _ i _ => N - (intOf i).toNat)
  case atStart => exact ⟨0, rfl, by omega, rfl, by simp [val10_nil], rfl⟩
  case round =>
    obtain ⟨j, rfl, hj, rfl, hv, rfl⟩ := hrel
    obtain ⟨V, hV⟩ : ∃ V, val10 0 (l.take j) = V := ⟨_, rfl⟩
    rw [hV] at hv ⊢
    by_cases hlt : j < N
    · have d : decide ((j : Int) < (N : Int)) = true := by simp; omega
      have hx := HIX.out j (by rw [HN.out]; exact hlt)
      have hdj := HD.out _ (List.getElem_mem (l := l) (n := j) (by rw [HN.out]; exact hlt))
      have hvt := val10_take l j (by rw [HN.out]; exact hlt)
      have hpt := val10_part l (j + 1)
      rw [hV] at hvt
      obtain ⟨c, hc⟩ : ∃ c, (l[j]'(by rw [HN.out]; exact hlt)).toNat = c := ⟨_, rfl⟩
      rw [hc] at hx hdj hvt
      have hx' : ∀ W, (Instr.index 9 (.string s) (.int .i64 (j : Int))).run Tryd.prog W = .ok (.int .u8 c) W := hx
      obtain ⟨x, hxc⟩ : ∃ x, c - 48 = x := ⟨_, rfl⟩
      rw [hxc] at hvt
      have hw8 : IntKind.u8.wrap ((c : Int) - 48) = (x : Int) := by
        show ((c : Int) - 48) % 256 = _
        omega
      have hx9 : x ≤ 9 := by omega
      clear hix' hx hc hxc hV
      have hnow : 1099511627776 < 10 * V + x → numOk l = false := fun h => by
        rw [HOK.out]
        have : decide (val10 0 l ≤ 1099511627776) = false := by simp; omega
        rw [this, Bool.false_and]
      have HV := Lib.hid hvt
      clear hpt hdj hvt
      by_cases hbig : 1099511627776 < 10 * V + x
      · have d2 : decide (1099511627776 < 10 * (V : Int) + (x : Int)) = true := by simp; omega
        have HNO := Lib.hid (hnow hbig)
        clear hnow hbig
        go_wp2
        go_ret2
        exact ⟨⟨0, by simp [HNO.out], fun h => by rw [HNO.out] at h; cases h⟩, Below.refl _ _⟩
      · have d2 : decide (1099511627776 < 10 * (V : Int) + (x : Int)) = false := by simp; omega
        clear hnow
        go_wp2_with fail
        refine ⟨⟨j + 1, by go_num, by omega, by rw [HV.out]; go_num, by rw [HV.out]; omega, trivial⟩, ?_⟩
        simp [intOf]; omega
    · obtain rfl : j = N := by omega
      have d : decide ((j : Int) < (j : Int)) = false := by simp
      have hVl : V = val10 0 l := by rw [← hV, ← HN.out, List.take_length]
      have hVd : decide (val10 0 l ≤ 1099511627776) = true := by rw [← hVl]; simpa using hv
      have hok := HOK.out
      rw [hVd, Bool.true_and] at hok
      have HVL := Lib.hid hVl
      clear hVl hVd hV hlt
      by_cases h1 : j = 1
      · subst h1
        have hok : numOk l = true := by rw [hok]; rfl
        have HK := Lib.hid hok
        clear hok
        go_wp2_with fail
        go_quiet (fail)
        go_wp2
        go_ret2
        exact ⟨⟨(V : Nat), by simp [HK.out], fun _ => by rw [HVL.out]⟩, below_drewN (Below.refl _ _) _⟩
      · have d2 : ((j : Int) == 1) = false := by simp; omega
        have d2' : (j == 1) = false := by simpa using h1
        rw [d2', Bool.false_or] at hok
        have d3 : ((c0 : Int) != 48) = !(c0 == 48) := by
          by_cases h : c0 = 48
          · subst h; rfl
          · have e1 : (c0 == 48) = false := by simpa using h
            rw [e1]; simp; omega
        have HK := Lib.hid hok
        obtain ⟨z, hz⟩ : ∃ z, (!(c0 == 48)) = z := ⟨_, rfl⟩
        rw [hz] at d3 HK
        clear hok hz
        go_wp2_with fail
        go_quiet (fail)
        go_wp2
        go_ret2
        exact ⟨⟨(V : Nat), by simp [HK.out], fun _ => by rw [HVL.out]⟩, below_drewN (Below.refl _ _) _⟩
end Go.Proofs.YtdcdldjbdjochaaDoor
