/- The law TextWordsSpec, walked. -/
import Derived.Test.YtilkhamlhbbmgaaDoorSne
namespace Go.Proofs.YtilkhamlhbbmgaaDoor
open Go.RowKit

set_option maxRecDepth 100000 in
set_option maxHeartbeats 8000000 in
theorem lawWordsSpec (w : World) (r : Int) (_hr : (Lit.int .i64 r).wf = true) (s0 : ByteArray) (hT : UTab w) : Calls Tryd.prog 4 #[.int .i64 r, .string s0] w fun e w' => e = .returned (.bool true) ∧ Below w.heap.size w w' := by
  clear _hr
  obtain ⟨bs, rfl⟩ : ∃ bs, s0 = str bs := ⟨s0.data.toList, (str_of s0).symm⟩
  have HSN := Lib.hid (sane_any w hT)
  have hsz := str_size bs
  have HK := Lib.hid (fun W => kind_any W r)
  have HKR := Lib.hid (fun W => rkind_any W r)
  have HS := Lib.hid (fun W (hW : Below w.heap.size w W) => split_any W bs (hT.below hW))
  have HSR := Lib.hid (fun W => rsplit_any W bs)
  have HW := Lib.hid (fun W (hW : Below w.heap.size w W) => word_any W bs (hT.below hW))
  have HWR := Lib.hid (fun W => rword_any W bs)
  obtain ⟨s, hs⟩ : ∃ s, str bs = s := ⟨_, rfl⟩
  obtain ⟨N, hN⟩ : ∃ N, bs.length = N := ⟨_, rfl⟩
  obtain ⟨zE, hzE⟩ : ∃ z, rnsE bs = z := ⟨_, rfl⟩
  obtain ⟨lV, hlV⟩ : ∃ z, spV bs = z := ⟨_, rfl⟩
  obtain ⟨kE, hkE⟩ : ∃ z, kindE r = z := ⟨_, rfl⟩
  obtain ⟨kV, hkV⟩ : ∃ z, kindV r = z := ⟨_, rfl⟩
  obtain ⟨wB, hwB⟩ : ∃ z, wordB bs = z := ⟨_, rfl⟩
  rw [hs, hN] at hsz
  rw [hs, hzE, hlV] at HS HSR
  rw [hkE, hkV] at HK HKR
  rw [hs, hwB] at HW HWR
  rw [hs]
  clear hs hN hzE hlV hkE hkV hwB hT
  by_cases hbig : 5000 < N
  · have d1 : decide (5000 < (N : Int)) = true := by simp; omega
    clear hbig
    go_enter Tryd.func4, Tryd.ntmps4
    go_wp2_with fail
    refine HSN.out.mono ?_
    rintro e w1 ⟨rfl, hb1⟩
    have HB1 := Lib.hid hb1
    clear hb1
    go_wp2
    go_ret
    exact ⟨rfl, HB1.out⟩
  · have d1 : decide (5000 < (N : Int)) = false := by simp; omega
    clear hbig
    go_enter Tryd.func4, Tryd.ntmps4
    go_wp2_with fail
    refine HSN.out.mono ?_
    rintro e w1 ⟨rfl, hb1⟩
    have HB1 := Lib.hid hb1
    clear hb1
    go_wp2_with fail
    refine (HK.out w1).mono ?_
    rintro e w2 ⟨rfl, hb⟩
    have HB2 := Lib.hid (HB1.out.trans (hb.mono HB1.out.size))
    clear hb
    go_wp2_with fail
    refine (HKR.out w2).mono ?_
    rintro e w3 ⟨rfl, hw⟩
    have hw2 := hw.symm
    subst hw2
    clear hw
    go_wp2_with fail
    refine (HS.out w2 HB2.out).mono ?_
    rintro e w4 ⟨v4, rfl, ho, hb⟩
    have HI4 := Lib.hid (SRow.of_own ho)
    have HB4 := Lib.hid (HB2.out.trans (hb.mono HB2.out.size))
    clear ho hb
    go_wp2_with fail
    refine (HSR.out w4).mono ?_
    rintro e w5 ⟨v5, rfl, ho, hb⟩
    have HI5 := Lib.hid (SRow.of_own ho)
    have HSM := Lib.hid (same_26 w5 v4 v5 lV lV (HI4.out.next hb) HI5.out)
    rw [decide_eq_true rfl] at HSM
    have HB5 := Lib.hid (HB4.out.trans (hb.mono HB4.out.size))
    clear ho hb
    go_wp2_with fail
    refine HSM.out.mono ?_
    rintro e w6 ⟨rfl, hb⟩
    have HB6 := Lib.hid (HB5.out.trans (hb.mono HB5.out.size))
    clear hb
    go_wp2_with fail
    refine (HW.out w6 HB6.out).mono ?_
    rintro e w7 ⟨rfl, hb⟩
    have HB7 := Lib.hid (HB6.out.trans (hb.mono HB6.out.size))
    clear hb
    go_wp2_with fail
    refine (HWR.out w7).mono ?_
    rintro e w8 ⟨rfl, hb⟩
    have HB8 := Lib.hid (HB7.out.trans (hb.mono HB7.out.size))
    clear hb
    go_wp2
    go_ret
    exact ⟨by simp, HB8.out⟩
end Go.Proofs.YtilkhamlhbbmgaaDoor
