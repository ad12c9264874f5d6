/- The law TextJoined, walked. -/
import Derived.Test.YtilkhamlhbbmgaaDoorPie
namespace Go.Proofs.YtilkhamlhbbmgaaDoor
open Go.RowKit

theorem rns_app {a b : List UInt8} (h : rnsE a = 0) (hl : (a ++ b).length ≤ 4096) : rnsE (a ++ b) = rnsE b ∧ rnsV (a ++ b) = (if rnsE b = 0 then rnsV a ++ rnsV b else []) := by
  obtain ⟨h1, h2, h3, h4⟩ := rns_ok h
  have hb : ¬ 4096 < b.length := by rw [List.length_append] at hl; omega
  have hr : rsL (a ++ b) = (rsL b).map (rnsV a ++ ·) := by
    have := rsL_app h3 b
    rw [← h4] at this
    exact this
  have e1 : rnsE (a ++ b) = match rsL b with | some _ => 0 | none => 90 := by
    unfold rnsE
    rw [if_neg (by omega), hr]
    cases rsL b <;> rfl
  have e2 : rnsE b = match rsL b with | some _ => 0 | none => 90 := by unfold rnsE; rw [if_neg hb]; cases rsL b <;> rfl
  refine ⟨by rw [e1, e2], ?_⟩
  have e3 : rnsV (a ++ b) = ((rsL b).map (rnsV a ++ ·)).getD [] := by unfold rnsV; rw [if_neg (by omega), hr]; rfl
  have e4 : rnsV b = (rsL b).getD [] := by unfold rnsV; rw [if_neg hb]
  rw [e3, e4, e2]
  cases rsL b with
  | none => rfl
  | some l => rfl
theorem rns_small {a : List UInt8} (hl : a.length ≤ 4096) (h : rnsE a ≠ 0) : rnsE a = 90 ∧ rsL a = none := by
  unfold rnsE at h ⊢
  rw [if_neg (by omega)] at h ⊢
  cases hr : rsL a with
  | none => exact ⟨rfl, rfl⟩
  | some l => rw [hr] at h; exact absurd rfl h
theorem rns_cut {a b : List UInt8} (h : rnsE a ≠ 0) (hb : rnsE b = 0) (hl : (a ++ b).length ≤ 4096) : rnsE (a ++ b) = 90 := by
  obtain ⟨_, _, h3, h4⟩ := rns_ok hb
  have ha := rns_small (by rw [List.length_append] at hl; omega) h
  by_cases hz : rnsE (a ++ b) = 0
  · exfalso
    obtain ⟨_, _, h5, h6⟩ := rns_ok hz
    obtain ⟨x, hx1, hx2⟩ := encs_split _ a _ h5 h3 (by rw [← h6, ← h4])
    have := rsL_iff.2 ⟨hx1, hx2⟩
    rw [ha.2] at this
    cases this
  · exact (rns_small hl hz).1
theorem str_append (a b : List UInt8) : str a ++ str b = str (a ++ b) := by
  apply ByteArray.ext
  apply Array.toList_inj.1
  simp [str]
set_option maxRecDepth 100000 in
set_option maxHeartbeats 8000000 in
theorem lawJoined (w : World) (s0 s1 : ByteArray) (hT : UTab w) : Calls Tryd.prog 7 #[.string s0, .string s1] w fun e w' => e = .returned (.bool true) ∧ Below w.heap.size w w' := by
  obtain ⟨xs, rfl⟩ : ∃ bs, s0 = str bs := ⟨s0.data.toList, (str_of s0).symm⟩
  obtain ⟨ys, rfl⟩ : ∃ bs, s1 = str bs := ⟨s1.data.toList, (str_of s1).symm⟩
  have HSN := Lib.hid (sane_any w hT)
  have hsx := str_size xs
  have hsy := str_size ys
  have HRX := Lib.hid (fun W (hW : Below w.heap.size w W) => runes_any W xs (hT.below hW))
  have HRY := Lib.hid (fun W (hW : Below w.heap.size w W) => runes_any W ys (hT.below hW))
  have HRZ := Lib.hid (fun W (hW : Below w.heap.size w W) => runes_any W (xs ++ ys) (hT.below hW))
  have HA1 := Lib.hid (fun (h : rnsE xs = 0) (hl : xs.length ≤ 2000) (hl2 : ys.length ≤ 2000) => rns_app (b := ys) h (by rw [List.length_append]; omega))
  have HA2 := Lib.hid (fun (h : rnsE xs ≠ 0) (hb : rnsE ys = 0) (hl : xs.length ≤ 2000) (hl2 : ys.length ≤ 2000) => rns_cut (b := ys) h hb (by rw [List.length_append]; omega))
  have HA3 := Lib.hid (fun (h : rnsE xs ≠ 0) (hl : xs.length ≤ 2000) => (rns_small (by omega) h).1)
  have HLX := Lib.hid (fun (h : rnsE xs = 0) => (by have h1 := rns_ok h; have := (encs_len (rnsV xs)).1; have h4 := congrArg List.length h1.2.2.2; omega : (rnsV xs).length ≤ 4096))
  have HLY := Lib.hid (fun (h : rnsE ys = 0) => (by have h1 := rns_ok h; have := (encs_len (rnsV ys)).1; have h4 := congrArg List.length h1.2.2.2; omega : (rnsV ys).length ≤ 4096))
  have happ := str_append xs ys
  have hbs := bs0_22
  obtain ⟨i0, hi, hz0, hz1, hz2⟩ := info_parts Tryd.info3r
  obtain ⟨sx, hs⟩ : ∃ s, str xs = s := ⟨_, rfl⟩
  obtain ⟨sy, hs2⟩ : ∃ s, str ys = s := ⟨_, rfl⟩
  obtain ⟨sz, hs3⟩ : ∃ s, str (xs ++ ys) = s := ⟨_, rfl⟩
  obtain ⟨N, hN⟩ : ∃ N, xs.length = N := ⟨_, rfl⟩
  obtain ⟨M, hM⟩ : ∃ N, ys.length = N := ⟨_, rfl⟩
  obtain ⟨eX, hX⟩ : ∃ z, rnsE xs = z := ⟨_, rfl⟩
  obtain ⟨eY, hY⟩ : ∃ z, rnsE ys = z := ⟨_, rfl⟩
  obtain ⟨eZ, hZ⟩ : ∃ z, rnsE (xs ++ ys) = z := ⟨_, rfl⟩
  obtain ⟨vX, hvX⟩ : ∃ z, rnsV xs = z := ⟨_, rfl⟩
  obtain ⟨vY, hvY⟩ : ∃ z, rnsV ys = z := ⟨_, rfl⟩
  obtain ⟨vZ, hvZ⟩ : ∃ z, rnsV (xs ++ ys) = z := ⟨_, rfl⟩
  rw [hs, hN] at hsx
  rw [hs2, hM] at hsy
  rw [hs, hs2, hs3] at happ
  rw [hs, hX, hvX] at HRX
  rw [hs2, hY, hvY] at HRY
  rw [hs3, hZ, hvZ] at HRZ
  rw [hX, hN, hM, hZ, hY, hvZ, hvX, hvY] at HA1
  rw [hX, hY, hN, hM, hZ] at HA2
  rw [hX, hN] at HA3
  rw [hX, hvX] at HLX
  rw [hY, hvY] at HLY
  rw [hs, hs2]
  clear hs hs2 hs3 hN hM hX hY hZ hvX hvY hvZ hT
  by_cases hbig : 2000 < N ∨ 2000 < M
  · have hcs : decide (2000 < (N : Int)) = true ∨ (decide (2000 < (N : Int)) = false ∧ decide (2000 < (M : Int)) = true) := by
      by_cases h : 2000 < N
      · exact .inl (by simp; omega)
      · exact .inr ⟨by simp; omega, by simp; omega⟩
    clear hbig
    rcases hcs with d1 | ⟨d1, d2⟩
    all_goals
      go_enter Tryd.func7, Tryd.ntmps7
      go_wp2_with fail
      refine HSN.out.mono ?_
      rintro e w1 ⟨rfl, hb1⟩
      have HB1 := Lib.hid hb1
      clear hb1
      go_wp2
      go_ret
      exact ⟨rfl, HB1.out⟩
  · have d1 : decide (2000 < (N : Int)) = false := by simp; omega
    have d2 : decide (2000 < (M : Int)) = false := by simp; omega
    have HA1b := Lib.hid (fun h => HA1.out h (by omega) (by omega))
    have HA2b := Lib.hid (fun h hb => HA2.out h hb (by omega) (by omega))
    have HA3b := Lib.hid (fun h => HA3.out h (by omega))
    have hn1 : N ≤ 2000 := by omega
    have hn2 : M ≤ 2000 := by omega
    have hnm : N + M ≤ maxLen := by unfold maxLen; omega
    have hnm2 : (N : Int) + (M : Int) ≤ 9223372036854775807 := by omega
    clear hbig HA1 HA2 HA3
    go_enter Tryd.func7, Tryd.ntmps7
    go_wp2_with fail
    (with_reducible refine (HSN.out).mono ?_)
    rintro e w1 ⟨rfl, hb⟩
    have HB1 := Lib.hid hb
    clear hb
    go_wp2_with fail
    (with_reducible refine (HRX.out w1 HB1.out).mono ?_)
    rintro e w2 ⟨v2, rfl, ho, hb⟩
    have Hx_2 := Lib.hid (IRow.of_own ho)
    have HB2 := Lib.hid (HB1.out.trans (hb.mono HB1.out.size))
    clear hb ho
    go_wp2_with fail
    (with_reducible refine (HRY.out w2 HB2.out).mono ?_)
    rintro e w3 ⟨v3, rfl, ho, hb⟩
    have Hx_3 := Lib.hid (Hx_2.out.next hb)
    have Hy_3 := Lib.hid (IRow.of_own ho)
    have HB3 := Lib.hid (HB2.out.trans (hb.mono HB2.out.size))
    clear hb ho
    go_wp2_with fail
    (with_reducible refine (HRZ.out w3 HB3.out).mono ?_)
    rintro e w4 ⟨v4, rfl, ho, hb⟩
    have Hx_4 := Lib.hid (Hx_3.out.next hb)
    have Hy_4 := Lib.hid (Hy_3.out.next hb)
    have Hz_4 := Lib.hid (IRow.of_own ho)
    have HB4 := Lib.hid (HB3.out.trans (hb.mono HB3.out.size))
    clear hb ho
    by_cases hx : eX = 0
    · obtain ⟨hz, hvz⟩ := HA1b.out hx
      subst hx
      subst hz
      by_cases hy : eZ = 0
      · subst hy
        rw [if_pos rfl] at hvz
        have hlx := HLX.out rfl
        have hly := HLY.out rfl
        have HVZ := Lib.hid hvz
        clear hvz
        have hpx := Hx_4.out.piece
        have hpy := Hy_4.out.piece
        obtain ⟨nX, hnX⟩ : ∃ n, vX.length = n := ⟨_, rfl⟩
        obtain ⟨nY, hnY⟩ : ∃ n, vY.length = n := ⟨_, rfl⟩
        rw [hnX] at hpx hlx
        rw [hnY] at hpy hly
        have HPX := Lib.hid hpx
        have HPY := Lib.hid hpy
        have HNX := Lib.hid hnX
        have HNY := Lib.hid hnY
        clear hpx hpy hnX hnY
        go_wp2_with (first
          | (refine wpList_wanted (by rfl) ?_; refine wp_piece 22 3 i0 (.int .i64 0) 1 8 Tryd.underlying22 hi hz0 hz1 hz2 rfl (by decide) (.tmp 48) (.tmp 49) rfl (base := w4.heap.size) (g := w4.heap.size) (n := 0) (cap := 0) (xs := []) (by rfl) (own_empty w4 _ 3 (Nat.le_refl _)) (v := v2) (m := nX) (news := icells vX) (by rfl) (HPX.out.kept (below_alloc w4 _)) (by rw [icells_len, HNX.out, Nat.mul_one]) (icells_one _) (by unfold maxLen; omega) (by omega) (by simp) nX (by omega) (icells vX) rfl ?_; intro hg5 g5 c5 w5 ho5 hgr5 _; have HO5 := Lib.hid ho5; have HB5 : Hid (Below w4.heap.size w4 w5) := Lib.hid ((below_alloc w4 _).grown hgr5 (by simp) (fun r e => by cases e; exact hg5)); clear ho5 hgr5 hg5; simp only [Act.put, List.setIfInBounds_toArray, List.set_cons_zero, List.set_cons_succ])
          | (refine wpList_wanted (by rfl) ?_; refine wp_piece 22 3 i0 (.int .i64 0) 1 8 Tryd.underlying22 hi hz0 hz1 hz2 rfl (by decide) (.tmp 50) (.tmp 51) rfl (base := w4.heap.size) (g := g5) (n := nX) (cap := c5) (xs := icells vX) (by rfl) HO5.out (v := v3) (m := nY) (news := icells vY) (by rfl) (HPY.out.kept HB5.out) (by rw [icells_len, HNY.out, Nat.mul_one]) (icells_one _) (by unfold maxLen; omega) (by omega) HB5.out.size (nX + nY) rfl (icells (vX ++ vY)) (icells_app _ _).symm ?_; intro hg6 g6 c6 w6 ho6 hgr6 _; have HO6 := Lib.hid ho6; have HB6 : Hid (Below w4.heap.size w4 w6) := Lib.hid (HB5.out.grown hgr6 HB5.out.size (fun r e => by cases e; exact hg6)); clear ho6 hgr6 hg6; simp only [Act.put, List.setIfInBounds_toArray, List.set_cons_zero, List.set_cons_succ]))
        have HSM := Lib.hid (same_21 w6 v4 (.slice (some ⟨g6, 0, none⟩) (nX + nY) c6) vZ (vX ++ vY) (Hz_4.out.next HB6.out) (IRow.of_own (by rw [List.length_append, HNX.out, HNY.out]; exact HO6.out)))
        rw [decide_eq_true HVZ.out] at HSM
        have HBW6 := Lib.hid (HB4.out.trans (HB6.out.mono HB4.out.size))
        go_wp2_with fail
        (with_reducible refine (HSM.out).mono ?_)
        rintro e w7 ⟨rfl, hb⟩
        have HB7 := Lib.hid (HBW6.out.trans (hb.mono HBW6.out.size))
        clear hb
        go_wp2
        go_ret
        exact ⟨rfl, HB7.out⟩
      · have dz : (eZ == 0) = false := by simpa using hy
        have dz2 : (eZ != 0) = true := by simpa using hy
        clear hvz hy
        go_wp2
        go_ret
        exact ⟨by simp, HB4.out⟩
    · have dx : (eX == 0) = false := by simpa using hx
      have he := HA3b.out hx
      by_cases hy : eY = 0
      · have hz := HA2b.out hx hy
        subst he; subst hy; subst hz
        clear hx
        go_wp2
        go_ret
        exact ⟨by simp, HB4.out⟩
      · have dy : (eY == 0) = false := by simpa using hy
        have dy2 : (eY != 0) = true := by simpa using hy
        clear hx hy he
        go_wp2
        go_ret
        exact ⟨by simp, HB4.out⟩
end Go.Proofs.YtilkhamlhbbmgaaDoor
