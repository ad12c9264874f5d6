/- The law TextSpec, walked. -/
import Derived.Test.YtilkhamlhbbmgaaDoorSne
namespace Go.Proofs.YtilkhamlhbbmgaaDoor
open Go.RowKit

set_option maxRecDepth 100000 in
set_option maxHeartbeats 4000000 in
theorem lawSpec (w : World) (s0 : ByteArray) (v : Value) (l : List Int) (hv : IRow w w.heap.size v l) (hT : UTab w) : Calls Tryd.prog 3 #[.string s0, v] w fun e w' => e = .returned (.bool true) ∧ Below w.heap.size w w' := by
  obtain ⟨bs, rfl⟩ : ∃ bs, s0 = str bs := ⟨s0.data.toList, (str_of s0).symm⟩
  have HSN := Lib.hid (sane_any w hT)
  have hsz := str_size bs
  have HRU := Lib.hid (fun W (hW : Below w.heap.size w W) => runes_any W bs (hT.below hW))
  have HRR := Lib.hid (fun W => rrunes_any W bs)
  have HJ := Lib.hid (fun W (hW : Below w.heap.size w W) (hl : l.length ≤ 1000000) => join_any W v l ((hv.below hW).mono hW.size) hl)
  have HJR := Lib.hid (fun W (hW : Below w.heap.size w W) (hl : l.length ≤ 1000000) => rjoin_any W v l ((hv.below hW).mono hW.size) hl)
  obtain ⟨a, c, rfl, -⟩ := hv
  obtain ⟨s, hs⟩ : ∃ s, str bs = s := ⟨_, rfl⟩
  obtain ⟨N, hN⟩ : ∃ N, bs.length = N := ⟨_, rfl⟩
  obtain ⟨M, hM⟩ : ∃ N, l.length = N := ⟨_, rfl⟩
  obtain ⟨zE, hzE⟩ : ∃ z, rnsE bs = z := ⟨_, rfl⟩
  obtain ⟨lV, hlV⟩ : ∃ z, rnsV bs = z := ⟨_, rfl⟩
  obtain ⟨jE, hjE⟩ : ∃ z, jnE l = z := ⟨_, rfl⟩
  obtain ⟨jS, hjS⟩ : ∃ z, str (jnS l) = z := ⟨_, rfl⟩
  rw [hs, hN] at hsz
  rw [hs, hzE, hlV] at HRU HRR
  rw [hM, hjE, hjS] at HJ HJR
  rw [hs, hM]
  clear hs hN hM hzE hlV hjE hjS hT
  by_cases hbig : 5000 < N ∨ 5000 < M
  · have hcs : decide (5000 < (N : Int)) = true ∨ (decide (5000 < (N : Int)) = false ∧ decide (5000 < (M : Int)) = true) := by
      by_cases h : 5000 < N
      · exact .inl (by simp; omega)
      · exact .inr ⟨by simp; omega, by simp; omega⟩
    clear hbig
    rcases hcs with d1 | ⟨d1, d2⟩
    all_goals
      go_enter Tryd.func3, Tryd.ntmps3
      go_wp2_with fail
      refine HSN.out.mono ?_
      rintro e w1 ⟨rfl, hb1⟩
      have HB1 := Lib.hid hb1
      clear hb1
      go_wp2
      go_ret
      exact ⟨rfl, HB1.out⟩
  · have d1 : decide (5000 < (N : Int)) = false := by simp; omega
    have d2 : decide (5000 < (M : Int)) = false := by simp; omega
    have HJ2 := Lib.hid (fun W hW => HJ.out W hW (by omega))
    have HJR2 := Lib.hid (fun W hW => HJR.out W hW (by omega))
    clear hbig
    go_enter Tryd.func3, Tryd.ntmps3
    go_wp2_with fail
    refine HSN.out.mono ?_
    rintro e w1 ⟨rfl, hb1⟩
    have HB1 := Lib.hid hb1
    clear hb1
    go_wp2_with fail
    refine (HRU.out w1 HB1.out).mono ?_
    rintro e w2 ⟨v2, rfl, ho2, hb⟩
    have HI2 := Lib.hid (IRow.of_own ho2)
    have HB2 := Lib.hid (HB1.out.trans (hb.mono HB1.out.size))
    clear ho2 hb
    go_wp2_with fail
    refine (HRR.out w2).mono ?_
    rintro e w3 ⟨v3, rfl, ho3, hb⟩
    have HI3 := Lib.hid (IRow.of_own ho3)
    have HI2b := Lib.hid (HI2.out.next hb)
    have HB3 := Lib.hid (HB2.out.trans (hb.mono HB2.out.size))
    clear ho3 hb
    go_wp2_with fail
    refine (HJ2.out w3 HB3.out).mono ?_
    rintro e w4 ⟨rfl, hb⟩
    have HI3b := Lib.hid (HI3.out.next hb)
    have HI2c := Lib.hid (HI2b.out.next hb)
    have HB4 := Lib.hid (HB3.out.trans (hb.mono HB3.out.size))
    clear hb
    go_wp2_with fail
    refine (HJR2.out w4 HB4.out).mono ?_
    rintro e w5 ⟨rfl, hb⟩
    have HSM := Lib.hid (same_21 w5 v2 v3 lV lV (HI2c.out.next hb) (HI3b.out.next hb))
    rw [decide_eq_true rfl] at HSM
    have HB5 := Lib.hid (HB4.out.trans (hb.mono HB4.out.size))
    clear hb
    go_wp2_with fail
    refine HSM.out.mono ?_
    rintro e w6 ⟨rfl, hb⟩
    have HB6 := Lib.hid (HB5.out.trans (hb.mono HB5.out.size))
    clear hb
    go_wp2
    go_ret
    exact ⟨by simp, HB6.out⟩
end Go.Proofs.YtilkhamlhbbmgaaDoor
