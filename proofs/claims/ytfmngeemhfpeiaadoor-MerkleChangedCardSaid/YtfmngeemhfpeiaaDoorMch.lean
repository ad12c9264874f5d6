/- MerkleChanged, walked. -/
import Derived.Test.YtfmngeemhfpeiaaDoorMfd
namespace Go.Proofs.YtfmngeemhfpeiaaDoor
open Go.RowKit

set_option maxRecDepth 100000 in
set_option maxHeartbeats 16000000 in
theorem lawMChanged (w : World) (v : Value) (l : List (List UInt8)) (hv : BRows w w.heap.size v l) (i : Int) (u : Value) (d : List UInt8) (hu : BytesAt w w.heap.size u d) (_hi : (Lit.int .i64 i).wf = true) (hT : Tab w) (h0 : 0 < w.heap.size) :
    Calls Tryd.prog 7 #[v, .int .i64 i, u] w fun e w' => e = .returned (.bool true) ∧ Below w.heap.size w w' := by
  have HS := Lib.hid (msane_any w hT h0)
  obtain ⟨B, hB, hFE⟩ := mfew_all w v l hv
  have HFE := Lib.hid hFE
  have HV := Lib.hid hv
  have HU := Lib.hid hu
  have HTT := Lib.hid hT
  obtain ⟨a, cap, rfl, hNc, hcm, _⟩ := id hv
  obtain ⟨ua, uc, rfl⟩ : ∃ x c, u = .slice x d.length c := by obtain ⟨x, c, rfl, _⟩ := hu; exact ⟨x, c, rfl⟩
  have HRC := Lib.hid (rows_cells hv)
  obtain ⟨N, hN⟩ : ∃ N, l.length = N := ⟨_, rfl⟩
  obtain ⟨D, hD⟩ : ∃ D, d.length = D := ⟨_, rfl⟩
  rw [hN] at HFE HV hNc ⊢
  rw [hD] at HU ⊢
  have HN := Lib.hid hN
  have HD := Lib.hid hD
  have HBF := Lib.hid hB
  unfold maxLen at hcm
  clear hv hu hT hN hD hFE hB
  go_enter Tryd.func7, Tryd.ntmps7
  go_wp2_with fail
  refine HS.out.mono ?_
  rintro e w1 ⟨rfl, hb1⟩
  have HB1 := Lib.hid hb1
  clear hb1
  have HFQ : Hid (∀ n, Calls Tryd.prog 17 #[.slice a N cap] (w1.drewN n) fun e w' => e = .returned (.bool B) ∧ w' = w1.drewN n) := Lib.hid fun n => HFE.out _ (HB1.out.trans ((below_drewN (Below.refl _ _) _).mono HB1.out.size))
  cases B with
  | false =>
    go_upto_region 3 with fail
    go_quiet ((go_at_call 17; exact Calls.quiet_of_same (HFQ.out _)))
    go_wp2
    go_returns
    exact ⟨rfl, HB1.out.trans (below_drewN (Below.refl _ _) _ |>.mono HB1.out.size)⟩
  | true =>
  have hfew := HBF.out.1 rfl
  have HFW := Lib.hid hfew
  have hN40 : N ≤ 40 := by rw [← HN.out]; exact hfew.1
  clear hfew
  by_cases h1 : 200 < D
  · have k1 : decide ((D : Int) > 200) = true := by simp; omega
    have k2 : decide ((200 : Int) < (D : Int)) = true := by simp; omega
    have k3 : decide (200 < D) = true := by simp; omega
    go_upto_region 3 with fail
    go_quiet ((go_at_call 17; exact Calls.quiet_of_same (HFQ.out _)))
    go_wp2
    go_returns
    exact ⟨rfl, HB1.out.trans (below_drewN (Below.refl _ _) _ |>.mono HB1.out.size)⟩
  have k1 : decide ((D : Int) > 200) = false := by simp; omega
  have k2 : decide ((200 : Int) < (D : Int)) = false := by simp; omega
  have k3 : decide (200 < D) = false := by simp; omega
  by_cases h2 : i < 0
  · have k4 : decide (i < 0) = true := by simpa using h2
    go_upto_region 3 with fail
    go_quiet ((go_at_call 17; exact Calls.quiet_of_same (HFQ.out _)))
    go_wp2
    go_returns
    exact ⟨rfl, HB1.out.trans (below_drewN (Below.refl _ _) _ |>.mono HB1.out.size)⟩
  have k4 : decide (i < 0) = false := by simpa using h2
  by_cases h3 : (N : Int) ≤ i
  · have k5 : decide (i ≥ (N : Int)) = true := by simpa using h3
    have k6 : decide ((N : Int) ≤ i) = true := by simpa using h3
    go_upto_region 3 with fail
    go_quiet ((go_at_call 17; exact Calls.quiet_of_same (HFQ.out _)))
    go_wp2
    go_returns
    exact ⟨rfl, HB1.out.trans (below_drewN (Below.refl _ _) _ |>.mono HB1.out.size)⟩
  obtain ⟨j, rfl⟩ : ∃ j : Nat, i = j := ⟨i.toNat, by omega⟩
  have k5 : decide ((j : Int) ≥ (N : Int)) = false := by simp; omega
  have k6 : decide ((N : Int) ≤ (j : Int)) = false := by simp; omega
  have k7 : decide (N ≤ j) = false := by simp; omega
  have q1 : (j : Int) < (N : Int) := by omega
  have hjN : j < N := by omega
  have hjl : j < l.length := by rw [HN.out]; exact hjN
  obtain ⟨b0, off0, da, dc, rfl, hb0, hcell, hbytes⟩ := HRC.out w1 HB1.out j hjl
  have hx200 : l[j].length ≤ 200 := HFW.out.2 _ (List.getElem_mem hjl)
  obtain ⟨x, hx⟩ : ∃ x, l[j] = x := ⟨_, rfl⟩
  rw [hx] at hcell hbytes hx200
  have HX := Lib.hid hx
  obtain ⟨L, hL⟩ : ∃ L, x.length = L := ⟨_, rfl⟩
  rw [hL] at hcell hbytes hx200
  have HL := Lib.hid hL
  have HXB := Lib.hid hbytes
  have HU1 := Lib.hid ((HU.out.below HB1.out).mono HB1.out.size)
  have hcv1 : ∀ n, (convert 34 9 (.slice da L dc)).run Tryd.prog (w1.drewN n) = .ok (.string ⟨x.toArray⟩) (w1.drewN n) := fun n => conv_of (HXB.out.below (below_drewN (Below.refl _ _) _)) HL.out
  have hcv2 : ∀ n, (convert 34 9 (.slice ua D uc)).run Tryd.prog (w1.drewN n) = .ok (.string ⟨d.toArray⟩) (w1.drewN n) := fun n => conv_of (HU1.out.below (below_drewN (Below.refl _ _) _)) HD.out
  clear hx hL hbytes
  by_cases h4 : x = d
  · have e1 : decide ((⟨x.toArray⟩ : ByteArray) = ⟨d.toArray⟩) = true := by rw [h4]; simp
    go_upto_region 3 with fail
    go_quiet ((go_at_call 17; exact Calls.quiet_of_same (HFQ.out _)))
    go_wp2
    go_returns
    exact ⟨rfl, HB1.out.trans (below_drewN (Below.refl _ _) _ |>.mono HB1.out.size)⟩
  have e0 : ¬ (⟨x.toArray⟩ : ByteArray) = ⟨d.toArray⟩ := fun e => h4 (by injection e with e; simpa using e)
  have e1 : decide ((⟨x.toArray⟩ : ByteArray) = ⟨d.toArray⟩) = false := by simpa using e0
  have h4b : (x == d) = false := by simpa using h4
  go_upto_region 3 with fail
  go_quiet ((go_at_call 17; exact Calls.quiet_of_same (HFQ.out _)))
  generalize hw2 : w1.drewN nq = w2
  have hb12 : Below w1.heap.size w1 w2 := by rw [← hw2]; exact below_drewN (Below.refl _ _) _
  have HB2 := Lib.hid (HB1.out.trans (hb12.mono HB1.out.size))
  clear hw2 hb12 hcv1 hcv2 hcell HFQ HXB HU1
  have hlen : (l.set j d).length = N := by rw [List.length_set]; exact HN.out
  have hbs : ∀ b ∈ l.set j d, b.length ≤ 200 := fun b hb => by
    rcases List.mem_or_eq_of_mem_set hb with h | rfl
    · exact HFW.out.2 b h
    · have := HD.out; omega
  have hgj : (l.set j d)[j]'(by rw [hlen]; exact hjN) = d := List.getElem_set_self _
  have HRO := Lib.hid (fun (W : World) (hW : Below w.heap.size w W) => root_any W _ l (HV.out.at hW) (fun b hb => by have := HFW.out.2 b hb; omega) (by have := HN.out; omega) (HTT.out.below hW h0) (by have := hW.size; omega))
  have HRS := Lib.hid (fun (W : World) (v' : Value) (hW : Below w.heap.size w W) (hv' : BRows W W.heap.size v' (l.set j d)) => root_any W v' (l.set j d) hv' (fun b hb => by have := hbs b hb; omega) (by omega) (HTT.out.below hW h0) (by have := hW.size; omega))
  have HPR := Lib.hid (fun (W : World) (hW : Below w.heap.size w W) => prove_ok W _ l j (HV.out.at hW) (fun b hb => by have := HFW.out.2 b hb; omega) hjl (by have := HN.out; omega) (HTT.out.below hW h0) (by have := hW.size; omega))
  have HPS := Lib.hid (fun (W : World) (v' : Value) (hW : Below w.heap.size w W) (hv' : BRows W W.heap.size v' (l.set j d)) => prove_ok W v' (l.set j d) j hv' (fun b hb => by have := hbs b hb; omega) (by omega) (by omega) (HTT.out.below hW h0) (by have := hW.size; omega))
  have hpr1 := prove_root l j hjl
  have hpr2 := prove_root (l.set j d) j (by omega)
  have hpl1 := mpath_len l j
  have hpl2 := mpath_len (l.set j d) j
  rw [HX.out] at hpr1
  rw [hgj] at hpr2
  rw [HN.out] at hpr1 hpl1
  rw [hlen] at hpr2 hpl2
  have hp32 : ∀ y ∈ mpath (firsts l) j, y.length = 32 := mpathk_32 (firsts_32 l) (by rw [firsts_len]; exact hjl) _
  have hq32 : ∀ y ∈ mpath (firsts (l.set j d)) j, y.length = 32 := mpathk_32 (firsts_32 _) (by rw [firsts_len]; omega) _
  obtain ⟨P1, hP1⟩ : ∃ P, mpath (firsts l) j = P := ⟨_, rfl⟩
  obtain ⟨P2, hP2⟩ : ∃ P, mpath (firsts (l.set j d)) j = P := ⟨_, rfl⟩
  rw [hP1] at hpr1 hpl1 hp32 HPR
  rw [hP2] at hpr2 hpl2 hq32 HPS
  have hl1 := mroot_l32 l
  have hl2 := mroot_l32 (l.set j d)
  have hq := fun W : World => dig_eq (mroot l) (mroot (l.set j d)) hl1 hl2 W
  simp only [dv_eq] at hq
  obtain ⟨R1, hR1⟩ : ∃ R, mroot l = R := ⟨_, rfl⟩
  obtain ⟨R2, hR2⟩ : ∃ R, mroot (l.set j d) = R := ⟨_, rfl⟩
  rw [hR1] at hpr1 HRO hl1 hq
  rw [hR2] at hpr2 HRS hl2 hq
  obtain ⟨ca, hca⟩ : ∃ c, cells8 R1 = c := ⟨_, rfl⟩
  obtain ⟨cb, hcb⟩ : ∃ c, cells8 R2 = c := ⟨_, rfl⟩
  rw [hca] at HRO hq
  rw [hcb] at HRS hq
  have HRR : Hid (mclimb j N x P1 = R1 ∧ mclimb j N d P2 = R2 ∧ P1.length = mlen j N ∧ P2.length = mlen j N ∧ (∀ y ∈ P1, y.length = 32) ∧ (∀ y ∈ P2, y.length = 32)) := Lib.hid ⟨hpr1, hpr2, hpl1, hpl2, hp32, hq32⟩
  have HQ := Lib.hid hq
  clear hpr1 hpr2 hpl1 hpl2 hp32 hq32 hP1 hP2 hR1 hR2 hl1 hl2 hq hca hcb hgj hbs
  have hlN := HN.out
  go_wp2_with (first
    | (refine wpList_world (fun W => Below w2.heap.size w2 W ∧ W.ownsRow w2.heap.size 34 1 (.slice (some ⟨w2.heap.size, 0, none⟩) 0 0) 0 []) ⟨by go_grown, World.ownsRow_made w2 #[] 0 (Nat.le_refl _) (by unfold maxLen; omega) rfl⟩ ?_
       rintro Wa ⟨hBa, _⟩
       have hBw := HB2.out.trans (hBa.mono HB2.out.size)
       obtain ⟨c3, W3, hrun3, hc3, hcm3, hz3, hbk, hb3⟩ := b_copy Wa (some ⟨b0, off0, none⟩) l cap (by rw [hlN]; exact HV.out.at hBw) (by omega) w2.heap.size (by omega)
       rw [hlN] at hrun3 hc3
       have HB3 := Lib.hid (hBw.trans (hb3.mono hBw.size))
       have hwg := hBw.size
       obtain ⟨g3, hg3⟩ : ∃ g, Wa.heap.size = g := ⟨_, rfl⟩
       rw [hg3] at hrun3 hbk hz3 hwg
       have HR3 := Lib.hid hrun3
       have HBK := Lib.hid hbk
       obtain ⟨d3, q2, q3, _⟩ := hbk j hjl
       clear hrun3 hbk hb3 hBa hBw hg3)
    | (refine wpList_plain rfl fun K hK => wp_app_run (.tmp 45) (.tmp 46) 22 22 (by rfl) _ _ _ _ (by rfl) (by rfl) HR3.out (hK _ _ ?_)))
  refine calls_world (fun W => Below w.heap.size w W ∧ BRows W W.heap.size (.slice (some ⟨g3, 0, none⟩) N c3) (l.set j d)) ⟨HB3.out.setCell hwg _, by
    have h := b_put W3 g3 g3 c3 l (Nat.le_refl _) hz3 HBK.out j hjl d (.slice ua D uc) ((HU.out.below HB3.out).mono hwg) (by rw [hlN]; exact hc3) hcm3
    rw [hlN] at h
    exact h⟩ ?_
  rintro W4 ⟨hB4, hV4⟩
  have HB4 := Lib.hid hB4
  have HV4 := Lib.hid hV4
  clear hB4 hV4 q2 q3 hz3 HBK HB3 hlN
  refine (HRO.out W4 HB4.out).mono ?_
  rintro e W5 ⟨rfl, hb5⟩
  have HB5 := Lib.hid (HB4.out.trans (hb5.mono HB4.out.size))
  have HV5 := Lib.hid (HV4.out.at hb5)
  clear hb5
  go_wp2_with fail
  refine (HRS.out W5 _ HB5.out HV5.out).mono ?_
  rintro e W6 ⟨rfl, hb6⟩
  have HB6 := Lib.hid (HB5.out.trans (hb6.mono HB5.out.size))
  have HV6 := Lib.hid (HV5.out.at hb6)
  clear hb6
  by_cases hRe : R1 = R2
  · have heq := HQ.out
    rw [hRe] at heq
    simp only [decide_true] at heq
    have hRR : mclimb j N x P1 = mclimb j N d P2 := by rw [HRR.out.1, HRR.out.2.1, hRe]
    have HCR := Lib.hid hRR
    clear hRR hRe
    go_wp2_with fail
    refine (HPR.out W6 HB6.out).mono ?_
    rintro e W7 ⟨v7, rfl, hd7, hb7⟩
    have HB7 := Lib.hid (HB6.out.trans (hb7.mono HB6.out.size))
    have HV7 := Lib.hid (HV6.out.at hb7)
    have HD7 := Lib.hid hd7
    clear hb7 hd7
    go_wp2_with fail
    refine (HPS.out W7 _ HB7.out HV7.out).mono ?_
    rintro e W8 ⟨v8, rfl, hd8, hb8⟩
    have HB8 := Lib.hid (HB7.out.trans (hb8.mono HB7.out.size))
    have HD8 := Lib.hid hd8
    have HD78 := Lib.hid (digs_at HD7.out hb8)
    clear hb8 hd8
    obtain ⟨b1, off1, da', dc', ep, hb1', hcell8, hbytes8⟩ := HRC.out W8 HB8.out j hjl
    injection ep with ep
    injection ep with ep1 ep2
    subst ep1
    subst ep2
    rw [HX.out, HL.out] at hcell8
    have HX8 : Hid (BytesAt W8 W8.heap.size (.slice da' L dc') x) := Lib.hid (by
      have h := hbytes8
      rw [HX.out, HL.out] at h
      exact h)
    clear hbytes8 hb1'
    go_wp2_with fail
    refine (collide_ok W8 j N _ _ v7 v8 x d P1 P2 HX8.out ((HU.out.below HB8.out).mono HB8.out.size) (by have := HL.out; omega) (by have := HD.out; omega) HD78.out HD8.out hjN (by omega) HRR.out.2.2.1 HRR.out.2.2.2.1 HCR.out h4 (HTT.out.below HB8.out h0) (by have := HB8.out.size; omega)).mono ?_
    rintro e W9 ⟨vx, vy, K, rfl, hK, hKe, hKn, hbx, hby, hb9⟩
    have HB9 := Lib.hid (HB8.out.trans (hb9.mono HB8.out.size))
    clear hb9
    have hdf := mtx_diff j N h4 P1 P2 K hKn
    have hsx := mtx_sha j N (leafT x) P1 K
    have hsy := mtx_sha j N (leafT d) P2 K
    have hlx := mtx_len j N (t := leafT x) (sha_len (leafT x)) HRR.out.2.2.2.2.1 HRR.out.2.2.1 K hK
    have hly := mtx_len j N (t := leafT d) (sha_len (leafT d)) HRR.out.2.2.2.2.2 HRR.out.2.2.2.1 K hK
    rw [leafT_len, HL.out] at hlx
    rw [leafT_len, HD.out] at hly
    have hnx := mtx_ne j N (d := sha (leafT x)) (leafT_ne x) P1 K
    have hny := mtx_ne j N (d := sha (leafT d)) (leafT_ne d) P2 K
    have hss : sha (mtx j N (leafT x) (sha (leafT x)) P1 K) = sha (mtx j N (leafT d) (sha (leafT d)) P2 K) := by rw [hsx, hsy]; exact hKe
    clear hKe hKn hsx hsy
    obtain ⟨tx, htx⟩ : ∃ y, mtx j N (leafT x) (sha (leafT x)) P1 K = y := ⟨_, rfl⟩
    obtain ⟨ty, hty⟩ : ∃ y, mtx j N (leafT d) (sha (leafT d)) P2 K = y := ⟨_, rfl⟩
    rw [htx] at hbx hdf hlx hnx hss
    rw [hty] at hby hdf hly hny hss
    have hdf2 : (tx == ty) = false := by simpa using hdf
    have hdf3 : ¬ tx = ty := hdf
    obtain ⟨xa, xn, xc, rfl, hxn⟩ : ∃ y n c, vx = .slice y n c ∧ tx.length = n := by obtain ⟨y, c, e, _⟩ := hbx; exact ⟨y, _, c, e, rfl⟩
    obtain ⟨ya, yn, yc, rfl, hyn⟩ : ∃ y n c, vy = .slice y n c ∧ ty.length = n := by obtain ⟨y, c, e, _⟩ := hby; exact ⟨y, _, c, e, rfl⟩
    have hcvX := conv_of hbx hxn
    have hcvY := conv_of hby hyn
    have HSX := Lib.hid (fun (W : World) (hW : Below W9.heap.size W9 W) => sum_any W (.slice xa xn xc) tx (row_of ((hbx.below hW).mono hW.size) hnx) (by omega) (HTT.out.below (HB9.out.trans (hW.mono HB9.out.size)) h0) (by have := HB9.out.size; have := hW.size; omega))
    have HSY := Lib.hid (fun (W : World) (hW : Below W9.heap.size W9 W) => sum_any W (.slice ya yn yc) ty (row_of ((hby.below hW).mono hW.size) hny) (by omega) (HTT.out.below (HB9.out.trans (hW.mono HB9.out.size)) h0) (by have := HB9.out.size; have := hW.size; omega))
    rw [← hss] at HSY
    have hqs := fun (W : World) => dig_eq (sha tx) (sha tx) (sha_len _) (sha_len _) W
    simp only [decide_true, dv_eq] at hqs HSX HSY
    obtain ⟨sx, hsxe⟩ : ∃ y, cells8 (sha tx) = y := ⟨_, rfl⟩
    rw [hsxe] at hqs
    simp only [hsxe] at HSX HSY
    clear hbx hby hss hsxe hdf hK htx hty heq hcell8
    go_wp2_with fail
    refine (HSX.out W9 (Below.refl _ _)).mono ?_
    rintro e W10 ⟨rfl, hb10⟩
    have HB10 := Lib.hid hb10
    clear hb10
    go_wp2_with fail
    refine (HSY.out W10 HB10.out).mono ?_
    rintro e W11 ⟨rfl, hb11⟩
    have HB11 := Lib.hid (HB9.out.trans ((HB10.out.trans (hb11.mono HB10.out.size)).mono HB9.out.size))
    clear hb11
    go_wp2
    go_returns
    exact ⟨rfl, HB11.out⟩
  · have heq := HQ.out
    have hd : decide (R1 = R2) = false := by simpa using hRe
    rw [hd] at heq
    clear hd hRe
    go_wp2
    go_returns
    exact ⟨rfl, HB6.out⟩
end Go.Proofs.YtfmngeemhfpeiaaDoor
