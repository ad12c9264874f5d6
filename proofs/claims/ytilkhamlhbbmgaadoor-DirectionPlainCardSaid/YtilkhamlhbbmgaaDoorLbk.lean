/- The law TextBack, walked. -/
import Derived.Test.YtilkhamlhbbmgaaDoorSne
namespace Go.Proofs.YtilkhamlhbbmgaaDoor
open Go.RowKit

theorem rns_encs {l : List Int} (h : l.all okPt = true) (hl : (encs l).length ≤ 4096) : rnsE (encs l) = 0 ∧ rnsV (encs l) = l := by
  have hr := rsL_encs (all_ok h)
  unfold rnsE rnsV
  rw [if_neg (by omega), if_neg (by omega), hr]
  exact ⟨rfl, rfl⟩
theorem jn_rns {bs : List UInt8} (h : rnsE bs = 0) : jnE (rnsV bs) = 0 ∧ jnS (rnsV bs) = bs := by
  obtain ⟨h1, h2, h3, h4⟩ := rns_ok h
  have ha : (rnsV bs).all okPt = true := List.all_eq_true.2 h3
  unfold jnE jnS
  rw [ha, if_pos rfl, if_neg (by rw [← h4]; omega), decide_eq_true (by rw [← h4]; omega)]
  exact ⟨rfl, h4.symm⟩
theorem jn_ok {l : List Int} (h : jnE l = 0) : l.all okPt = true ∧ (encs l).length ≤ 4096 ∧ jnS l = encs l := by
  unfold jnE at h
  unfold jnS
  cases ha : l.all okPt with
  | false => rw [ha] at h; cases h
  | true =>
    rw [ha, if_pos rfl] at h
    by_cases h4 : 4096 < (encs l).length
    · rw [if_pos h4] at h; cases h
    · exact ⟨rfl, by omega, by rw [decide_eq_true (by omega)]; rfl⟩
theorem jn_no {l : List Int} (h : jnE l ≠ 0) : jnS l = [] := by
  unfold jnE at h
  unfold jnS
  cases ha : l.all okPt with
  | false => rfl
  | true =>
    rw [ha, if_pos rfl] at h
    by_cases h4 : 4096 < (encs l).length
    · rw [decide_eq_false (by omega)]; rfl
    · rw [if_neg h4] at h; exact absurd rfl h

set_option maxRecDepth 100000 in
set_option maxHeartbeats 8000000 in
theorem lawBack (w : World) (s0 : ByteArray) (v : Value) (l : List Int) (hv : IRow w w.heap.size v l) (hT : UTab w) : Calls Tryd.prog 5 #[.string s0, v] w fun e w' => e = .returned (.bool true) ∧ Below w.heap.size w w' := by
  obtain ⟨bs, rfl⟩ : ∃ bs, s0 = str bs := ⟨s0.data.toList, (str_of s0).symm⟩
  have HSN := Lib.hid (sane_any w hT)
  have hsz := str_size bs
  have HRU := Lib.hid (fun W (hW : Below w.heap.size w W) => runes_any W bs (hT.below hW))
  have HJ := Lib.hid (fun W (hW : Below w.heap.size w W) (hl : l.length ≤ 1000000) => join_any W v l ((hv.below hW).mono hW.size) hl)
  have HV := Lib.hid hv
  have HJA := Lib.hid (fun W v (hv : IRow W W.heap.size v (rnsV bs)) (hz : rnsE bs = 0) => (by
    have h := join_any W v (rnsV bs) hv (by have := (encs_len (rnsV bs)).1; have h := rns_ok hz; have h2 := congrArg List.length h.2.2.2; omega)
    rw [(jn_rns hz).1, (jn_rns hz).2] at h
    exact h : Calls Tryd.prog 19 #[v] W fun e w' => e = .returned (.tuple #[.string (str bs), .int .i64 0]) ∧ Below W.heap.size W w'))
  have HNO := Lib.hid (fun (hz : rnsE bs ≠ 0) => rns_no hz)
  have HR2 := Lib.hid (fun (hz : jnE l = 0) W (hW : Below w.heap.size w W) => (by
    obtain ⟨h1, h2, h3⟩ := jn_ok hz
    have h := runes_any W (jnS l) (hT.below hW)
    rw [h3] at h ⊢
    rw [(rns_encs h1 h2).1, (rns_encs h1 h2).2] at h
    exact h : Calls Tryd.prog 17 #[.string (str (jnS l))] W (RunesPost W 0 l)))
  have HLJ := Lib.hid (fun (hz : jnE l = 0) => (by obtain ⟨h1, h2, h3⟩ := jn_ok hz; rw [h3]; exact h2 : (jnS l).length ≤ 4096))
  have HNJ := Lib.hid (fun (hz : jnE l ≠ 0) => (by rw [jn_no hz]; rfl : str (jnS l) = ⟨#[]⟩))
  have hjz := str_size (jnS l)
  obtain ⟨a, c, rfl, -⟩ := hv
  obtain ⟨s, hs⟩ : ∃ s, str bs = s := ⟨_, rfl⟩
  obtain ⟨N, hN⟩ : ∃ N, bs.length = N := ⟨_, rfl⟩
  obtain ⟨M, hM⟩ : ∃ N, l.length = N := ⟨_, rfl⟩
  obtain ⟨zE, hzE⟩ : ∃ z, rnsE bs = z := ⟨_, rfl⟩
  obtain ⟨lV, hlV⟩ : ∃ z, rnsV bs = z := ⟨_, rfl⟩
  obtain ⟨jE, hjE⟩ : ∃ z, jnE l = z := ⟨_, rfl⟩
  obtain ⟨jS, hjS⟩ : ∃ z, str (jnS l) = z := ⟨_, rfl⟩
  obtain ⟨J, hJ⟩ : ∃ z, (jnS l).length = z := ⟨_, rfl⟩
  rw [hs, hN] at hsz
  rw [hs, hzE, hlV] at HRU
  rw [hM, hjE, hjS] at HJ
  rw [hs, hzE, hlV] at HJA
  rw [hzE, hlV] at HNO
  rw [hjS, hjE] at HR2 HNJ
  rw [hjE, hJ] at HLJ
  rw [hjS, hJ] at hjz
  rw [hM] at HV
  rw [hs, hM]
  clear hs hN hM hzE hlV hjE hjS hJ hT
  by_cases hbig : 5000 < N ∨ 5000 < M
  · have hcs : decide (5000 < (N : Int)) = true ∨ (decide (5000 < (N : Int)) = false ∧ decide (5000 < (M : Int)) = true) := by
      by_cases h : 5000 < N
      · exact .inl (by simp; omega)
      · exact .inr ⟨by simp; omega, by simp; omega⟩
    clear hbig
    rcases hcs with d1 | ⟨d1, d2⟩
    all_goals
      go_enter Tryd.func5, Tryd.ntmps5
      go_wp2_with fail
      refine HSN.out.mono ?_
      rintro e w1 ⟨rfl, hb1⟩
      have HB1 := Lib.hid hb1
      clear hb1
      go_wp2
      go_ret
      exact ⟨rfl, HB1.out⟩
  · have d1 : decide (5000 < (N : Int)) = false := by simp; omega
    have d2 : decide (5000 < (M : Int)) = false := by simp; omega
    have HJ2 := Lib.hid (fun W hW => HJ.out W hW (by omega))
    clear hbig
    go_enter Tryd.func5, Tryd.ntmps5
    go_wp2_with fail
    (with_reducible refine (HSN.out).mono ?_)
    rintro e w1 ⟨rfl, hb⟩
    have HB1 := Lib.hid hb
    clear hb
    go_wp2_with fail
    (with_reducible refine (HRU.out w1 HB1.out).mono ?_)
    rintro e w2 ⟨v2, rfl, ho, hb⟩
    have Hv2_2 := Lib.hid (IRow.of_own ho)
    have HB2 := Lib.hid (HB1.out.trans (hb.mono HB1.out.size))
    clear hb ho
    by_cases hz : zE = 0
    · subst hz
      by_cases hj : jE = 0
      · subst hj
        have HR3 := Lib.hid (HR2.out rfl)
        have hJ4 := HLJ.out rfl
        have dJ : decide ((J : Int) ≤ 4096) = true := by simp; omega
        have HJA2 := Lib.hid (HJA.out w2 v2 Hv2_2.out rfl)
        go_wp2_with fail
        (with_reducible refine (HJA2.out).mono ?_)
        rintro e w3 ⟨rfl, hb⟩
        have Hv2_3 := Lib.hid (Hv2_2.out.next hb)
        have HB3 := Lib.hid (HB2.out.trans (hb.mono HB2.out.size))
        clear hb
        go_wp2_with fail
        (with_reducible refine (HJ2.out w3 HB3.out).mono ?_)
        rintro e w4 ⟨rfl, hb⟩
        have Hv2_4 := Lib.hid (Hv2_3.out.next hb)
        have HB4 := Lib.hid (HB3.out.trans (hb.mono HB3.out.size))
        clear hb
        go_wp2_with fail
        (with_reducible refine (HR3.out w4 HB4.out).mono ?_)
        rintro e w5 ⟨v9, rfl, ho, hb⟩
        have Hv2_5 := Lib.hid (Hv2_4.out.next hb)
        have Hv9_5 := Lib.hid (IRow.of_own ho)
        have HB5 := Lib.hid (HB4.out.trans (hb.mono HB4.out.size))
        clear hb ho
        have HSM := Lib.hid (same_21 w5 v9 (.slice a M c) l l (Hv9_5.out) ((HV.out.below HB5.out).mono HB5.out.size))
        rw [decide_eq_true rfl] at HSM
        obtain ⟨a9, c9, e9, -⟩ := Hv9_5.out
        subst e9
        go_wp2_with fail
        (with_reducible refine (HSM.out).mono ?_)
        rintro e w6 ⟨rfl, hb⟩
        have Hv2_6 := Lib.hid (Hv2_5.out.next hb)
        have Hv9_6 := Lib.hid (Hv9_5.out.next hb)
        have HB6 := Lib.hid (HB5.out.trans (hb.mono HB5.out.size))
        clear hb
        go_wp2
        go_ret
        exact ⟨rfl, HB6.out⟩
      · have dj : (jE == 0) = false := by simpa using hj
        have dj2 : (jE != 0) = true := by simpa using hj
        have hjs := HNJ.out hj
        subst hjs
        clear hj
        have HJA2 := Lib.hid (HJA.out w2 v2 Hv2_2.out rfl)
        go_wp2_with fail
        (with_reducible refine (HJA2.out).mono ?_)
        rintro e w3 ⟨rfl, hb⟩
        have Hv2_3 := Lib.hid (Hv2_2.out.next hb)
        have HB3 := Lib.hid (HB2.out.trans (hb.mono HB2.out.size))
        clear hb
        go_wp2_with fail
        (with_reducible refine (HJ2.out w3 HB3.out).mono ?_)
        rintro e w4 ⟨rfl, hb⟩
        have Hv2_4 := Lib.hid (Hv2_3.out.next hb)
        have HB4 := Lib.hid (HB3.out.trans (hb.mono HB3.out.size))
        clear hb
        go_wp2
        go_ret
        exact ⟨by simp, HB4.out⟩
    · have dz : (zE == 0) = false := by simpa using hz
      have dz2 : (zE != 0) = true := by simpa using hz
      have hlv := HNO.out hz
      subst hlv
      clear hz
      by_cases hj : jE = 0
      · subst hj
        have HR3 := Lib.hid (HR2.out rfl)
        have hJ4 := HLJ.out rfl
        have dJ : decide ((J : Int) ≤ 4096) = true := by simp; omega
        obtain ⟨a2, c2, e2, -⟩ := Hv2_2.out
        subst e2
        go_wp2_with fail
        (with_reducible refine (HJ2.out w2 HB2.out).mono ?_)
        rintro e w3 ⟨rfl, hb⟩
        have HB3 := Lib.hid (HB2.out.trans (hb.mono HB2.out.size))
        clear hb
        go_wp2_with fail
        (with_reducible refine (HR3.out w3 HB3.out).mono ?_)
        rintro e w4 ⟨v9, rfl, ho, hb⟩
        have Hv9_4 := Lib.hid (IRow.of_own ho)
        have HB4 := Lib.hid (HB3.out.trans (hb.mono HB3.out.size))
        clear hb ho
        have HSM := Lib.hid (same_21 w4 v9 (.slice a M c) l l (Hv9_4.out) ((HV.out.below HB4.out).mono HB4.out.size))
        rw [decide_eq_true rfl] at HSM
        obtain ⟨a9, c9, e9, -⟩ := Hv9_4.out
        subst e9
        go_wp2_with fail
        (with_reducible refine (HSM.out).mono ?_)
        rintro e w5 ⟨rfl, hb⟩
        have Hv9_5 := Lib.hid (Hv9_4.out.next hb)
        have HB5 := Lib.hid (HB4.out.trans (hb.mono HB4.out.size))
        clear hb
        go_wp2
        go_ret
        exact ⟨rfl, HB5.out⟩
      · have dj : (jE == 0) = false := by simpa using hj
        have dj2 : (jE != 0) = true := by simpa using hj
        have hjs := HNJ.out hj
        subst hjs
        clear hj
        obtain ⟨a2, c2, e2, -⟩ := Hv2_2.out
        subst e2
        go_wp2_with fail
        (with_reducible refine (HJ2.out w2 HB2.out).mono ?_)
        rintro e w3 ⟨rfl, hb⟩
        have HB3 := Lib.hid (HB2.out.trans (hb.mono HB2.out.size))
        clear hb
        go_wp2
        go_ret
        exact ⟨by simp, HB3.out⟩
end Go.Proofs.YtilkhamlhbbmgaaDoor
