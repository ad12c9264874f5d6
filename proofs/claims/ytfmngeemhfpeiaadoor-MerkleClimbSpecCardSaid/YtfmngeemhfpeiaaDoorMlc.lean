/- The law MerkleClimbSpec, walked: it answers true for all arguments. Conditions: the arguments read as numbers, bytes and rows of digests in the world of the call. -/
import Derived.Test.YtfmngeemhfpeiaaDoorRcp
namespace Go.Proofs.YtfmngeemhfpeiaaDoor
open Go.RowKit

set_option maxRecDepth 100000 in
set_option maxHeartbeats 16000000 in
theorem lawClimb (w : World) (n i : Int) (v : Value) (a : List UInt8) (hv : BytesAt w w.heap.size v a) (u : Value) (b : List UInt8) (hu : BytesAt w w.heap.size u b) (pv : Value) (p : List (List UInt8)) (hp : Digs w w.heap.size pv p) (qv : Value) (q : List (List UInt8)) (hq : Digs w w.heap.size qv q)
    (_hn : (Lit.int .i64 n).wf = true) (_hi : (Lit.int .i64 i).wf = true) (hT : Tab w) (h0 : 0 < w.heap.size) :
    Calls Tryd.prog 4 #[.int .i64 n, .int .i64 i, v, u, pv, qv] w fun e w' => e = .returned (.bool true) ∧ Below w.heap.size w w' := by
  have HS := Lib.hid (msane_any w hT h0)
  have HC1 := Lib.hid (fun (W : World) (hW : Below w.heap.size w W) (hb : a.length ≤ 200) => climb_any W n i v pv a p ((hv.below hW).mono hW.size) (by omega) (digs_at hp hW) (hT.below hW h0) (by have := hW.size; omega))
  have HNO := Lib.hid (fun (W : World) (hW : Below w.heap.size w W) (ha : a.length ≤ 200) (hb : b.length ≤ 200) => collide_no W n i v u pv qv a b p q ((hv.below hW).mono hW.size) ((hu.below hW).mono hW.size) (by omega) (by omega) (digs_at hp hW) (digs_at hq hW) (hT.below hW h0) (by have := hW.size; omega))
  have HOK := Lib.hid (fun (W : World) (hW : Below w.heap.size w W) (ha : a.length ≤ 200) (hb : b.length ≤ 200) (j m : Nat) => collide_ok W j m v u pv qv a b p q ((hv.below hW).mono hW.size) ((hu.below hW).mono hW.size) (by omega) (by omega) (digs_at hp hW) (digs_at hq hW))
  have HRC1 := Lib.hid (fun (W : World) (hW : Below w.heap.size w W) (hb : a.length ≤ 200) => rclimb_any W n i v pv a p ((hv.below hW).mono hW.size) (by omega) (digs_at hp hW))
  have HRNO := Lib.hid (fun (W : World) (hW : Below w.heap.size w W) (ha : a.length ≤ 200) (hb : b.length ≤ 200) => rcollide_no W n i v u pv qv a b p q ((hv.below hW).mono hW.size) ((hu.below hW).mono hW.size) (by omega) (by omega) (digs_at hp hW) (digs_at hq hW))
  have HROK := Lib.hid (fun (W : World) (hW : Below w.heap.size w W) (ha : a.length ≤ 200) (hb : b.length ≤ 200) (j m : Nat) => rcollide_ok W j m v u pv qv a b p q ((hv.below hW).mono hW.size) ((hu.below hW).mono hW.size) (by omega) (by omega) (digs_at hp hW) (digs_at hq hW))
  have HTT := Lib.hid hT
  have HVA := Lib.hid hv
  have HVB := Lib.hid hu
  have HP32 := Lib.hid hp.1
  have HQ32 := Lib.hid hq.1
  obtain ⟨va, vc, rfl⟩ : ∃ x c, v = .slice x a.length c := by obtain ⟨x, c, rfl, _⟩ := hv; exact ⟨x, c, rfl⟩
  obtain ⟨ua, uc, rfl⟩ : ∃ x c, u = .slice x b.length c := by obtain ⟨x, c, rfl, _⟩ := hu; exact ⟨x, c, rfl⟩
  obtain ⟨pa, pc, rfl⟩ : ∃ x c, pv = .slice x p.length c := by obtain ⟨_, x, c, e, _⟩ := hp; exact ⟨x, c, e⟩
  obtain ⟨qa, qc, rfl⟩ : ∃ x c, qv = .slice x q.length c := by obtain ⟨_, x, c, e, _⟩ := hq; exact ⟨x, c, e⟩
  obtain ⟨NA, hNA⟩ : ∃ x, a.length = x := ⟨_, rfl⟩
  obtain ⟨NB, hNB⟩ : ∃ x, b.length = x := ⟨_, rfl⟩
  obtain ⟨NP, hNP⟩ : ∃ x, p.length = x := ⟨_, rfl⟩
  obtain ⟨NQ, hNQ⟩ : ∃ x, q.length = x := ⟨_, rfl⟩
  rw [hNA] at HC1 HRC1 HNO HOK HRNO HROK HVA ⊢
  rw [hNB] at HNO HOK HRNO HROK HVB ⊢
  rw [hNP] at HC1 HRC1 HNO HOK HRNO HROK ⊢
  rw [hNQ] at HNO HOK HRNO HROK ⊢
  have HNA := Lib.hid hNA
  have HNB := Lib.hid hNB
  have HNP := Lib.hid hNP
  have HNQ := Lib.hid hNQ
  clear hv hu hp hq hT hNA hNB hNP hNQ
  go_enter Tryd.func4, Tryd.ntmps4
  go_wp2_with fail
  refine HS.out.mono ?_
  rintro e w1 ⟨rfl, hb1⟩
  have HB1 := Lib.hid hb1
  clear hb1
  by_cases h1 : 200 < NA
  · have f1 : decide ((NA : Int) > 200) = true := by simp; omega
    have f2 : decide ((200 : Int) < (NA : Int)) = true := by simp; omega
    have f3 : decide (200 < NA) = true := by simp; omega
    go_wp2
    go_returns
    exact ⟨rfl, HB1.out⟩
  have f1 : decide ((NA : Int) > 200) = false := by simp; omega
  have f2 : decide ((200 : Int) < (NA : Int)) = false := by simp; omega
  have f3 : decide (200 < NA) = false := by simp; omega
  by_cases h2 : 200 < NB
  · have g1 : decide ((NB : Int) > 200) = true := by simp; omega
    have g2 : decide ((200 : Int) < (NB : Int)) = true := by simp; omega
    have g3 : decide (200 < NB) = true := by simp; omega
    go_wp2
    go_returns
    exact ⟨rfl, HB1.out⟩
  have g1 : decide ((NB : Int) > 200) = false := by simp; omega
  have g2 : decide ((200 : Int) < (NB : Int)) = false := by simp; omega
  have g3 : decide (200 < NB) = false := by simp; omega
  by_cases h3 : 20 < NP
  · have k1 : decide ((NP : Int) > 20) = true := by simp; omega
    have k2 : decide ((20 : Int) < (NP : Int)) = true := by simp; omega
    have k3 : decide (20 < NP) = true := by simp; omega
    go_wp2
    go_returns
    exact ⟨rfl, HB1.out⟩
  have k1 : decide ((NP : Int) > 20) = false := by simp; omega
  have k2 : decide ((20 : Int) < (NP : Int)) = false := by simp; omega
  have k3 : decide (20 < NP) = false := by simp; omega
  by_cases h4 : 20 < NQ
  · have l1 : decide ((NQ : Int) > 20) = true := by simp; omega
    have l2 : decide ((20 : Int) < (NQ : Int)) = true := by simp; omega
    have l3 : decide (20 < NQ) = true := by simp; omega
    go_wp2
    go_returns
    exact ⟨rfl, HB1.out⟩
  have l1 : decide ((NQ : Int) > 20) = false := by simp; omega
  have l2 : decide ((20 : Int) < (NQ : Int)) = false := by simp; omega
  have l3 : decide (20 < NQ) = false := by simp; omega
  obtain ⟨E, hE⟩ : ∃ x, (climbR n i a p).2 = x := ⟨_, rfl⟩
  have hl1 := climbR_len n i a p
  have heq := fun W : World => dig_eq (climbR n i a p).1 (climbR n i a p).1 hl1 hl1 W
  simp only [dv_eq, decide_true] at heq
  have HL1 : Hid ((cells8 (climbR n i a p).1).length = 32) := Lib.hid (by rw [cells8_len, hl1])
  have HO1 : Hid (∀ v ∈ cells8 (climbR n i a p).1, v.oneCell' = true) := Lib.hid (one_cells8 _)
  rw [hE] at HC1 HRC1
  obtain ⟨cc, hcc⟩ : ∃ x, cells8 (climbR n i a p).1 = x := ⟨_, rfl⟩
  rw [hcc] at HC1 HRC1 heq HL1 HO1
  have HZC : Hid ((Tryd.prog.info? 30).map (·.size) = some cc.length) := Lib.hid (by rw [HL1.out]; exact Tryd.info30)
  clear hE hl1 hcc
  go_wp2_with fail
  refine (HC1.out w1 HB1.out (by omega)).mono ?_
  rintro e w2 ⟨rfl, hb2⟩
  have HBc1 := Lib.hid (HB1.out.trans (hb2.mono HB1.out.size))
  clear hb2
  go_wp2_with (first
    | (refine wpList_world (fun X => Below w2.heap.size w2 X ∧ Arr X w2.heap.size (cells8 (List.replicate 32 0)) ∧ w2.heap.size < X.heap.size) ⟨by go_grown, Arr.new w2 _ 30, by simp⟩ ?_; rintro Xa ⟨hBa, hDa, hza⟩)
    | (refine store_new2 rfl 30 _ _ (by rfl) w2.heap.size w2.heap.size cc _ (by rfl) (by rfl) hBa (Nat.le_refl _) hDa (by rw [HL1.out]; rfl) HZC.out HO1.out ?_; intro w3 hB hA hO hz; have HB3 := Lib.hid (HBc1.out.trans (hB.mono HBc1.out.size)); have HA3 := Lib.hid hA; have hz3 : w2.heap.size < w3.heap.size := Nat.lt_of_lt_of_le hza hz; clear hB hA hO hz hBa hDa hza))
  refine (HRC1.out w3 HB3.out (by omega)).mono ?_
  rintro e w4 ⟨rfl, hb4⟩
  have hs4 := hb4.size
  have HBc2 := Lib.hid (HB3.out.trans (hb4.mono HB3.out.size))
  have HA4 := Lib.hid (HA3.out.below hb4 hz3)
  clear hb4
  go_wp2_with (first
    | (refine wpList_world (fun X => Below w4.heap.size w4 X ∧ Arr X w4.heap.size (cells8 (List.replicate 32 0)) ∧ w4.heap.size < X.heap.size) ⟨by go_grown, Arr.new w4 _ 30, by simp⟩ ?_; rintro Xa ⟨hBa, hDa, hza⟩)
    | (refine store_new2 rfl 30 _ _ (by rfl) w4.heap.size w4.heap.size cc _ (by rfl) (by rfl) hBa (Nat.le_refl _) hDa (by rw [HL1.out]; rfl) HZC.out HO1.out ?_; intro w5 hB hA hO hz; have HB5 := Lib.hid (HBc2.out.trans (hB.mono HBc2.out.size)); have HA5 := Lib.hid hA; have HA4b := Lib.hid (HA4.out.below hB (by omega)); have hz5 : w4.heap.size < w5.heap.size := Nat.lt_of_lt_of_le hza hz; clear hB hA hO hz hBa hDa hza))
  by_cases hgood : (climbR n i a p).2 = 0 ∧ (climbR n i b q).2 = 0 ∧ (climbR n i a p).1 = (climbR n i b q).1 ∧ a ≠ b
  · obtain ⟨hE, hF, hcd, hab⟩ := hgood
    obtain ⟨j, m, rfl, rfl, hjm, hm, hpl, hca⟩ := climbR_good hE
    obtain ⟨j', m', e1, e2, _, _, hql, hcb⟩ := climbR_good hF
    obtain rfl : m = m' := by omega
    obtain rfl : j = j' := by omega
    have hRR : mclimb j m a p = mclimb j m b q := by rw [← hca, ← hcb, hcd]
    have hpl' := hpl
    have hql' := hql
    rw [HNP.out] at hpl'
    rw [HNQ.out] at hql'
    have HPLx := Lib.hid hpl'
    have HQLx := Lib.hid hql'
    clear hpl hpl' hql hql'
    refine (HOK.out w5 HB5.out (by omega) (by omega) j m hjm hm HPLx.out HQLx.out hRR hab (HTT.out.below HB5.out h0) (by have := HB5.out.size; omega)).mono ?_
    rintro e w6 ⟨vx, vy, K, rfl, hK, hKe, hKn, hbx, hby, hb6⟩
    have hs6 := hb6.size
    have HB6 := Lib.hid (HB5.out.trans (hb6.mono HB5.out.size))
    have HA6 := Lib.hid (HA4b.out.below hb6 (by omega))
    have HA6b := Lib.hid (HA5.out.below hb6 hz5)
    have HKE := Lib.hid hKe
    have HKN := Lib.hid hKn
    have HBX := Lib.hid hbx
    have HBY := Lib.hid hby
    clear hb6 hKe hKn hbx hby
    go_wp2_with fail
    refine (HROK.out w6 HB6.out (by omega) (by omega) j m hjm hm HPLx.out HQLx.out hRR hab).mono ?_
    rintro e w7 ⟨vx2, vy2, K2, rfl, hK2, hKe2, hKn2, hbx2, hby2, hb7⟩
    have HB7 := Lib.hid (HB6.out.trans (hb7.mono HB6.out.size))
    have HA7 := Lib.hid (HA6.out.below hb7 (by omega))
    have HA7b := Lib.hid (HA6b.out.below hb7 (by omega))
    have hKK : K2 = K := by
      rcases Nat.lt_trichotomy K K2 with h | h | h
      · exact absurd HKE.out (hKn2 K h)
      · exact h.symm
      · exact absurd hKe2 (HKN.out K2 h)
    subst hKK
    have hbx7 := (HBX.out.below hb7).mono hb7.size
    have hby7 := (HBY.out.below hb7).mono hb7.size
    clear hb7 hKe2 hKn2 hRR hca hcb hcd hE hF e1 e2
    obtain ⟨tx, htx⟩ : ∃ x, mtx j m (leafT a) (sha (leafT a)) p K2 = x := ⟨_, rfl⟩
    obtain ⟨ty, hty⟩ : ∃ x, mtx j m (leafT b) (sha (leafT b)) q K2 = x := ⟨_, rfl⟩
    rw [htx] at hbx7 hbx2
    rw [hty] at hby7 hby2
    clear htx hty HBX HBY
    obtain ⟨xa, xn, xc, rfl, hxn⟩ : ∃ x n c, vx = .slice x n c ∧ tx.length = n := by obtain ⟨x, c, e, _⟩ := hbx7; exact ⟨x, _, c, e, rfl⟩
    obtain ⟨ya, yn, yc, rfl, hyn⟩ : ∃ x n c, vy = .slice x n c ∧ ty.length = n := by obtain ⟨x, c, e, _⟩ := hby7; exact ⟨x, _, c, e, rfl⟩
    obtain ⟨xa2, xn2, xc2, rfl, hxn2⟩ : ∃ x n c, vx2 = .slice x n c ∧ tx.length = n := by obtain ⟨x, c, e, _⟩ := hbx2; exact ⟨x, _, c, e, rfl⟩
    obtain ⟨ya2, yn2, yc2, rfl, hyn2⟩ : ∃ x n c, vy2 = .slice x n c ∧ ty.length = n := by obtain ⟨x, c, e, _⟩ := hby2; exact ⟨x, _, c, e, rfl⟩
    have hcvX := conv_of hbx7 hxn
    have hcvY := conv_of hby7 hyn
    have hcvX2 := conv_of hbx2 hxn2
    have hcvY2 := conv_of hby2 hyn2
    clear hbx7 hby7 hbx2 hby2 hxn hyn hxn2 hyn2
    obtain ⟨sx, hsx⟩ : ∃ s : ByteArray, (⟨tx.toArray⟩ : ByteArray) = s := ⟨_, rfl⟩
    obtain ⟨sy, hsy⟩ : ∃ s : ByteArray, (⟨ty.toArray⟩ : ByteArray) = s := ⟨_, rfl⟩
    rw [hsx] at hcvX hcvX2
    rw [hsy] at hcvY hcvY2
    have q1 : decide (sx = sx) = true := by simp
    have q2 : decide (sy = sy) = true := by simp
    clear hsx hsy
    go_wp2_with (first
      | (refine wpList_load_mid rfl 30 (.tmp 13) (by rfl) w2.heap.size 0 (by rfl) cc _ HA7.out.at_ Tryd.underlying30 rfl HZC.out ?_)
      | (refine wpList_load_mid rfl 30 (.tmp 15) (by rfl) w4.heap.size 0 (by rfl) cc _ HA7b.out.at_ Tryd.underlying30 rfl HZC.out ?_))
    go_returns
    exact ⟨rfl, HB7.out⟩
  · refine (HNO.out w5 HB5.out (by omega) (by omega) hgood).mono ?_
    rintro e w6 ⟨rfl, hb6⟩
    have hs6 := hb6.size
    have HB6 := Lib.hid (HB5.out.trans (hb6.mono HB5.out.size))
    have HA6 := Lib.hid (HA4b.out.below hb6 (by omega))
    have HA6b := Lib.hid (HA5.out.below hb6 hz5)
    clear hb6
    go_wp2_with fail
    refine (HRNO.out w6 HB6.out (by omega) (by omega) hgood).mono ?_
    rintro e w7 ⟨rfl, hb7⟩
    have HB7 := Lib.hid (HB6.out.trans (hb7.mono HB6.out.size))
    have HA7 := Lib.hid (HA6.out.below hb7 (by omega))
    have HA7b := Lib.hid (HA6b.out.below hb7 (by omega))
    have hcvN : (convert 34 9 (.slice none 0 0)).run Tryd.prog w7 = .ok (.string ⟨([] : List UInt8).toArray⟩) w7 := conv_of (bs := []) (B := 0) ⟨none, 0, rfl, Nat.le_refl _, by unfold maxLen; omega, .inl rfl⟩ rfl
    obtain ⟨sx, hsx⟩ : ∃ s : ByteArray, (⟨([] : List UInt8).toArray⟩ : ByteArray) = s := ⟨_, rfl⟩
    rw [hsx] at hcvN
    have q1 : decide (sx = sx) = true := by simp
    clear hsx
    clear hb7 hgood
    go_wp2_with (first
      | (refine wpList_load_mid rfl 30 (.tmp 13) (by rfl) w2.heap.size 0 (by rfl) cc _ HA7.out.at_ Tryd.underlying30 rfl HZC.out ?_)
      | (refine wpList_load_mid rfl 30 (.tmp 15) (by rfl) w4.heap.size 0 (by rfl) cc _ HA7b.out.at_ Tryd.underlying30 rfl HZC.out ?_))
    go_returns
    exact ⟨rfl, HB7.out⟩
end Go.Proofs.YtfmngeemhfpeiaaDoor
