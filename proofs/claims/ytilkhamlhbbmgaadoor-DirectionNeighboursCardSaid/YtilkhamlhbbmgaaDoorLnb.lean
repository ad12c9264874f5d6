/- The law DirectionNeighbours, walked. -/
import Derived.Test.YtilkhamlhbbmgaaDoorPlc
namespace Go.Proofs.YtilkhamlhbbmgaaDoor
open Go.RowKit

set_option maxRecDepth 100000 in
set_option maxHeartbeats 8000000 in
theorem lawNeighbours (w : World) (v : Value) (s : List Int) (hv : IRow w w.heap.size v s) (hT : DTab w) : Calls Tryd.prog 12 #[v] w fun e w' => e = .returned (.bool true) ∧ Below w.heap.size w w' := by
  have HSN := Lib.hid (sane10_any w hT)
  by_cases hno : 120 < s.length ∨ s.any noLv = true
  · have HP := Lib.hid (fun (W : World) (hW : Below w.heap.size w W) => places_no W v s ((hv.below hW).mono hW.size) hno)
    obtain ⟨a, c, rfl, -⟩ := hv
    obtain ⟨n, hN⟩ : ∃ n, s.length = n := ⟨_, rfl⟩
    rw [hN] at HP ⊢
    clear hN hno hT
    go_enter Tryd.func12, Tryd.ntmps12
    go_wp2_with fail
    (with_reducible refine (HSN.out).mono ?_)
    rintro e w1 ⟨rfl, hb⟩
    have HB1 := Lib.hid hb
    clear hb
    go_wp2_with fail
    (with_reducible refine (HP.out w1 HB1.out).mono ?_)
    rintro e w2 ⟨rfl, hb⟩
    have HB2 := Lib.hid (HB1.out.trans (hb.mono HB1.out.size))
    clear hb
    go_wp2
    go_ret
    exact ⟨rfl, HB2.out⟩
  · have hn120 : s.length ≤ 120 := by omega
    have hany : s.any noLv = false := by
      cases h : s.any noLv with
      | false => rfl
      | true => exact absurd (.inr h) hno
    have HP := Lib.hid (fun (W : World) (hW : Below w.heap.size w W) => places_yes W v s ((hv.below hW).mono hW.size) hn120 hany)
    have HFI : Hid (∀ j, j < s.length → 0 ≤ s.getD j 0 ∧ s.getD j 0 ≤ 2) := Lib.hid (fun j hj => by
      have e : s.getD j 0 = s[j] := by simp [List.getD, hj]
      have := List.any_eq_false.1 hany s[j] (List.getElem_mem hj)
      rw [e]
      unfold noLv at this
      simp at this
      omega)
    have HNXT : Hid (∀ i, i + 1 < s.length → s.getD i 0 = s.getD (i + 1) 0 → (atF s (i + 1) : Int) = (atF s i : Int) + (if s.getD (i + 1) 0 = 1 then -1 else 1)) := Lib.hid (fun i hi1 he => atF_next s i hi1 (HFI.out i (by omega)) he)
    have HAI := Lib.hid (fun j hj => atF_in s j hj)
    have HGA : Hid (∀ j, j < s.length → (atL s).getD j 0 = (atF s j : Int)) := Lib.hid (fun j hj => by simp [atL, List.getD, hj])
    have HAL := Lib.hid (atL_len s)
    obtain ⟨a, c, rfl, hc, hm, HC⟩ := hv.laterD
    have HC := Lib.hid HC
    obtain ⟨n, hN⟩ : ∃ n, s.length = n := ⟨_, rfl⟩
    rw [hN] at HP HC hc HNXT HAI HGA HAL hn120 ⊢
    clear hN hno hT hany HFI hv
    unfold maxLen at hm
    go_enter Tryd.func12, Tryd.ntmps12
    go_wp2_with fail
    (with_reducible refine (HSN.out).mono ?_)
    rintro e w1 ⟨rfl, hb⟩
    have HB1 := Lib.hid hb
    clear hb
    go_wp2_with fail
    (with_reducible refine (HP.out w1 HB1.out).mono ?_)
    rintro e wP ⟨u, rfl, hu, hb⟩
    have HBP := Lib.hid (HB1.out.trans (hb.mono HB1.out.size))
    obtain ⟨a3, c3, e3, hc3, hm3, HCA⟩ := hu.laterD
    subst e3
    rw [HAL.out] at hc3 HCA ⊢
    have HCA := Lib.hid HCA
    unfold maxLen at hm3
    clear hb hu
    go_wp2
    go_loopw [6, 7, 25] (fun s6 s7 s25 wr => ∃ k : Nat, k ≤ n ∧ s25 = .int .i64 (k : Int) ∧ Hid (Below wP.heap.size wP wr)) (fun _ _ s25 _ => n - (intOf s25).toNat)
    case atStart => exact ⟨0, Nat.zero_le _, rfl, Lib.hid (Below.refl _ _)⟩
    case round =>
      obtain ⟨k, hk, rfl, HB⟩ := hrel
      by_cases hlt : k < n
      · by_cases hk0 : k = 0
        · have d0 : ((k : Int) == 0) = true := by simp; omega
          have HK0 := Lib.hid hk0
          clear hk0
          go_wp2_with fail
          go_quiet (fail)
          have HB1 := Lib.hid (HB.out.trans ((below_drewN (Below.refl _ wr) nq).mono HB.out.size))
          obtain ⟨wd1, hwd⟩ : ∃ wd, wr.drewN nq = wd := ⟨_, rfl⟩
          rw [hwd] at HB1 ⊢
          clear hwd
          go_wp2
          go_roundw
          case rel => exact ⟨k + 1, by omega, by go_num, HB1⟩
          case measure => simp [intOf]; omega
        · have d0 : ((k : Int) == 0) = false := by simp; omega
          obtain ⟨p, hp⟩ : ∃ p, k = p + 1 := ⟨k - 1, by omega⟩
          have hpn : p < n := by omega
          have hw1 : IntKind.i64.wrap ((k : Int) - 1) = (p : Int) := by rw [IntKind.wrap_i64]; omega
          have HPK := Lib.hid hp
          clear hp hk0
          obtain ⟨b, off, rfl, hcp⟩ := HC.out wr (HBP.out.trans (HB.out.mono HBP.out.size)) p hpn
          have HC2 : Hid (∀ W, Below w.heap.size w W → ∀ j, j < n → W.cell? ⟨b, off + j, none⟩ = some (.int .i64 (s.getD j 0))) := Lib.hid (fun W hW j hj => by
            obtain ⟨b', o', e, h⟩ := HC.out W hW j hj
            injection e with e
            injection e with e1 e2
            rw [e1, e2]; exact h)
          have hck := HC2.out wr (HBP.out.trans (HB.out.mono HBP.out.size)) k hlt
          obtain ⟨ba, oa, rfl, -⟩ := HCA.out wr HB.out k hlt
          have HCA : Hid (∀ W, Below wP.heap.size wP W → ∀ j, j < n → W.cell? ⟨ba, oa + j, none⟩ = some (.int .i64 ((atL s).getD j 0))) := Lib.hid (fun W hW j hj => by
            obtain ⟨b', o', e, h⟩ := HCA.out W hW j hj
            injection e with e
            injection e with e1 e2
            rw [e1, e2]; exact h)
          have HNX0 : Hid (s.getD p 0 = s.getD k 0 → (atF s k : Int) = (atF s p : Int) + (if s.getD k 0 = 1 then -1 else 1)) := Lib.hid (by
            have := HNXT.out p (by have := HPK.out; omega)
            rw [← HPK.out] at this
            exact this)
          obtain ⟨x, hx⟩ : ∃ x, s.getD k 0 = x := ⟨_, rfl⟩
          obtain ⟨y, hy⟩ : ∃ y, s.getD p 0 = y := ⟨_, rfl⟩
          rw [hx] at hck HNX0
          rw [hy] at hcp HNX0
          have HXX := Lib.hid hx
          clear hx hy
          by_cases hyx : y = x
          · have HNX := Lib.hid (HNX0.out hyx)
            subst hyx
            have dyx : (y != y) = false := by simp
            clear HNX0
            go_wp2_with fail
            go_quiet (fail)
            have HB1 := Lib.hid (HB.out.trans ((below_drewN (Below.refl _ wr) nq).mono HB.out.size))
            obtain ⟨wd1, hwd⟩ : ∃ wd, wr.drewN nq = wd := ⟨_, rfl⟩
            rw [hwd] at HB1 ⊢
            clear hwd
            have hck := HC2.out wd1 (HBP.out.trans (HB1.out.mono HBP.out.size)) k hlt
            rw [HXX.out] at hck
            by_cases hy1 : y = 1
            · rw [if_pos hy1] at HNX
              have dy1 : (y == 1) = true := by simpa using hy1
              have HY1 := Lib.hid hy1
              clear hy1
              go_wp2
              have hca := HCA.out wd1 HB1.out k hlt
              have hcb := HCA.out wd1 HB1.out p hpn
              rw [HGA.out k hlt] at hca
              rw [HGA.out p hpn] at hcb
              obtain ⟨xa, hxa⟩ : ∃ z : Nat, atF s k = z := ⟨_, rfl⟩
              obtain ⟨xb, hxb⟩ : ∃ z : Nat, atF s p = z := ⟨_, rfl⟩
              rw [hxa] at hca
              rw [hxb] at hcb
              have hnx : (xa : Int) = (xb : Int) + (-1) := by
                have := HNX.out
                rw [hxa, hxb] at this
                rw [this]
              have hxan : xa < n := by rw [← hxa]; exact HAI.out k hlt
              have hxbn : xb < n := by rw [← hxb]; exact HAI.out p hpn
              have hw2 : IntKind.i64.wrap ((xb : Int) + (-1)) = (xa : Int) := by rw [← hnx, IntKind.wrap_i64]; omega
              have dne : ((xa : Int) != (xa : Int)) = false := by simp
              clear hnx hxa hxb hxan hxbn
              go_wp2_with fail
              go_quiet (fail)
              have HB2 := Lib.hid (HB1.out.trans ((below_drewN (Below.refl _ wd1) nq).mono HB1.out.size))
              obtain ⟨wd2, hwd⟩ : ∃ wd, wd1.drewN nq = wd := ⟨_, rfl⟩
              rw [hwd] at HB2 ⊢
              clear hwd
              go_wp2
              go_roundw
              case rel => exact ⟨k + 1, by omega, by go_num, HB2⟩
              case measure => simp [intOf]; omega
            · rw [if_neg hy1] at HNX
              have dy1 : (y == 1) = false := by simpa using hy1
              clear hy1
              go_wp2
              have hca := HCA.out wd1 HB1.out k hlt
              have hcb := HCA.out wd1 HB1.out p hpn
              rw [HGA.out k hlt] at hca
              rw [HGA.out p hpn] at hcb
              obtain ⟨xa, hxa⟩ : ∃ z : Nat, atF s k = z := ⟨_, rfl⟩
              obtain ⟨xb, hxb⟩ : ∃ z : Nat, atF s p = z := ⟨_, rfl⟩
              rw [hxa] at hca
              rw [hxb] at hcb
              have hnx : (xa : Int) = (xb : Int) + (1) := by
                have := HNX.out
                rw [hxa, hxb] at this
                rw [this]
              have hxan : xa < n := by rw [← hxa]; exact HAI.out k hlt
              have hxbn : xb < n := by rw [← hxb]; exact HAI.out p hpn
              have hw2 : IntKind.i64.wrap ((xb : Int) + (1)) = (xa : Int) := by rw [← hnx, IntKind.wrap_i64]; omega
              have dne : ((xa : Int) != (xa : Int)) = false := by simp
              clear hnx hxa hxb hxan hxbn
              go_wp2_with fail
              go_quiet (fail)
              have HB2 := Lib.hid (HB1.out.trans ((below_drewN (Below.refl _ wd1) nq).mono HB1.out.size))
              obtain ⟨wd2, hwd⟩ : ∃ wd, wd1.drewN nq = wd := ⟨_, rfl⟩
              rw [hwd] at HB2 ⊢
              clear hwd
              go_wp2
              go_roundw
              case rel => exact ⟨k + 1, by omega, by go_num, HB2⟩
              case measure => simp [intOf]; omega
          · have dyx : (y != x) = true := by simpa using hyx
            clear hyx HNX0
            go_wp2_with fail
            go_quiet (fail)
            have HB1 := Lib.hid (HB.out.trans ((below_drewN (Below.refl _ wr) nq).mono HB.out.size))
            obtain ⟨wd1, hwd⟩ : ∃ wd, wr.drewN nq = wd := ⟨_, rfl⟩
            rw [hwd] at HB1 ⊢
            clear hwd
            go_wp2
            go_roundw
            case rel => exact ⟨k + 1, by omega, by go_num, HB1⟩
            case measure => simp [intOf]; omega
      · have HBF := Lib.hid (HBP.out.trans (HB.out.mono HBP.out.size))
        go_wp2
        go_ret
        exact ⟨rfl, HBF.out⟩
end Go.Proofs.YtilkhamlhbbmgaaDoor
