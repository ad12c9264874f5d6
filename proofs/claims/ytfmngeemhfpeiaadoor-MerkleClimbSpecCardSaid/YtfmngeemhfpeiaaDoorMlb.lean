/- MerkleBound, walked. -/
import Derived.Test.YtfmngeemhfpeiaaDoorMll
namespace Go.Proofs.YtfmngeemhfpeiaaDoor
open Go.RowKit

theorem leafT_inj {a b : List UInt8} (h : leafT a = leafT b) : a = b := by
  unfold leafT at h
  exact List.append_cancel_left h
theorem stepT_inj {t : Nat} {d d' o o' : List UInt8} (hd : d.length = 32) (hd' : d'.length = 32) (h : stepT t d o = stepT t d' o') : d = d' := by
  unfold stepT at h
  split at h
  · unfold nodeT at h
    have h2 := List.append_cancel_left h
    exact (List.append_inj' h2 (by rw [hd, hd'])).2
  · unfold nodeT at h
    have h2 := List.append_cancel_left h
    exact (List.append_inj h2 (by rw [hd, hd'])).1
theorem mtx_diff (i m : Nat) {a b : List UInt8} (hab : a ≠ b) (p q : List (List UInt8)) : ∀ K, (∀ j, j < K → mst i m (sha (leafT a)) p j ≠ mst i m (sha (leafT b)) q j) → mtx i m (leafT a) (sha (leafT a)) p K ≠ mtx i m (leafT b) (sha (leafT b)) q K
  | 0, _ => fun h => hab (leafT_inj h)
  | k + 1, hne => by
    show (if alone (mpos i k) (msz m k) then mtx i m (leafT a) (sha (leafT a)) p k else _) ≠ (if alone (mpos i k) (msz m k) then mtx i m (leafT b) (sha (leafT b)) q k else _)
    split
    · exact mtx_diff i m hab p q k fun j hj => hne j (by omega)
    · exact fun h => hne k (by omega) (stepT_inj (mst_len i m (sha_len _) p k) (mst_len i m (sha_len _) q k) h)
theorem conv_of {W : World} {B n c : Nat} {a : Option Addr} {bs : List UInt8} (h : BytesAt W B (.slice a n c) bs) (hn : bs.length = n) : (convert 34 9 (.slice a n c)).run Tryd.prog W = .ok (.string ⟨bs.toArray⟩) W := by
  obtain ⟨a', c', e, _, _, h3⟩ := h
  have hb : bs = [] ∨ ∃ b off, a = some ⟨b, off, none⟩ ∧ ∀ i (h : i < bs.length), W.cell? ⟨b, off + i, none⟩ = some (.int .u8 (bs[i]).toNat) := by
    injection e with e1 e2 e3
    rcases h3 with h3 | ⟨b, off, h4, _, h5⟩
    · exact .inl h3
    · exact .inr ⟨b, off, by rw [e1]; exact h4, h5⟩
  rw [← hn]
  exact conv_bytes W a bs c hb
theorem climbR_good {n i : Int} {b : List UInt8} {p : List (List UInt8)} (h : (climbR n i b p).2 = 0) : ∃ j m : Nat, n = m ∧ i = j ∧ j < m ∧ m ≤ 65536 ∧ p.length = mlen j m ∧ (climbR n i b p).1 = mclimb j m b p := by
  by_cases hl : leafOk n i = false
  · rw [climbR_arg hl] at h; cases h
  · obtain ⟨j, m, rfl, rfl, h1, h2⟩ := leafOk_true (by simpa using hl)
    by_cases hp : p.length = mlen j m
    · exact ⟨j, m, rfl, rfl, h1, h2, hp, by rw [climbR_ok h2 h1 b hp]⟩
    · rw [climbR_path h2 h1 b hp] at h; cases h

set_option maxRecDepth 100000 in
set_option maxHeartbeats 16000000 in
theorem lawBound (w : World) (n i : Int) (v : Value) (a : List UInt8) (hv : BytesAt w w.heap.size v a) (u : Value) (b : List UInt8) (hu : BytesAt w w.heap.size u b) (pv : Value) (p : List (List UInt8)) (hp : Digs w w.heap.size pv p) (qv : Value) (q : List (List UInt8)) (hq : Digs w w.heap.size qv q)
    (_hn : (Lit.int .i64 n).wf = true) (_hi : (Lit.int .i64 i).wf = true) (hT : Tab w) (h0 : 0 < w.heap.size) :
    Calls Tryd.prog 6 #[.int .i64 n, .int .i64 i, v, u, pv, qv] w fun e w' => e = .returned (.bool true) ∧ Below w.heap.size w w' := by
  have HS := Lib.hid (msane_any w hT h0)
  have HC1 := Lib.hid (fun (W : World) (hW : Below w.heap.size w W) (hb : a.length ≤ 200) => climb_any W n i v pv a p ((hv.below hW).mono hW.size) (by omega) (digs_at hp hW) (hT.below hW h0) (by have := hW.size; omega))
  have HC2 := Lib.hid (fun (W : World) (hW : Below w.heap.size w W) (hb : b.length ≤ 200) => climb_any W n i u qv b q ((hu.below hW).mono hW.size) (by omega) (digs_at hq hW) (hT.below hW h0) (by have := hW.size; omega))
  have HNO := Lib.hid (fun (W : World) (hW : Below w.heap.size w W) (ha : a.length ≤ 200) (hb : b.length ≤ 200) => collide_no W n i v u pv qv a b p q ((hv.below hW).mono hW.size) ((hu.below hW).mono hW.size) (by omega) (by omega) (digs_at hp hW) (digs_at hq hW) (hT.below hW h0) (by have := hW.size; omega))
  have HOK := Lib.hid (fun (W : World) (hW : Below w.heap.size w W) (ha : a.length ≤ 200) (hb : b.length ≤ 200) (j m : Nat) => collide_ok W j m v u pv qv a b p q ((hv.below hW).mono hW.size) ((hu.below hW).mono hW.size) (by omega) (by omega) (digs_at hp hW) (digs_at hq hW))
  have HTT := Lib.hid hT
  have HVA := Lib.hid hv
  have HVB := Lib.hid hu
  have HP32 := Lib.hid hp.1
  have HQ32 := Lib.hid hq.1
  obtain ⟨va, vc, rfl⟩ : ∃ x c, v = .slice x a.length c := by obtain ⟨x, c, rfl, _⟩ := hv; exact ⟨x, c, rfl⟩
  obtain ⟨ua, uc, rfl⟩ : ∃ x c, u = .slice x b.length c := by obtain ⟨x, c, rfl, _⟩ := hu; exact ⟨x, c, rfl⟩
  obtain ⟨pa, pc, rfl⟩ : ∃ x c, pv = .slice x p.length c := by obtain ⟨_, x, c, e, _⟩ := hp; exact ⟨x, c, e⟩
  obtain ⟨qa, qc, rfl⟩ : ∃ x c, qv = .slice x q.length c := by obtain ⟨_, x, c, e, _⟩ := hq; exact ⟨x, c, e⟩
  obtain ⟨NA, hNA⟩ : ∃ x, a.length = x := ⟨_, rfl⟩
  obtain ⟨NB, hNB⟩ : ∃ x, b.length = x := ⟨_, rfl⟩
  obtain ⟨NP, hNP⟩ : ∃ x, p.length = x := ⟨_, rfl⟩
  obtain ⟨NQ, hNQ⟩ : ∃ x, q.length = x := ⟨_, rfl⟩
  rw [hNA] at HC1 HNO HOK HVA ⊢
  rw [hNB] at HC2 HNO HOK HVB ⊢
  rw [hNP] at HC1 HNO HOK ⊢
  rw [hNQ] at HC2 HNO HOK ⊢
  have HNA := Lib.hid hNA
  have HNB := Lib.hid hNB
  have HNP := Lib.hid hNP
  have HNQ := Lib.hid hNQ
  clear hv hu hp hq hT hNA hNB hNP hNQ
  go_enter Tryd.func6, Tryd.ntmps6
  go_wp2_with fail
  refine HS.out.mono ?_
  rintro e w1 ⟨rfl, hb1⟩
  have HB1 := Lib.hid hb1
  clear hb1
  by_cases h1 : 200 < NA
  · have f1 : decide ((NA : Int) > 200) = true := by simp; omega
    have f2 : decide ((200 : Int) < (NA : Int)) = true := by simp; omega
    have f3 : decide (200 < NA) = true := by simp; omega
    go_wp2
    go_returns
    exact ⟨rfl, HB1.out⟩
  have f1 : decide ((NA : Int) > 200) = false := by simp; omega
  have f2 : decide ((200 : Int) < (NA : Int)) = false := by simp; omega
  have f3 : decide (200 < NA) = false := by simp; omega
  by_cases h2 : 200 < NB
  · have g1 : decide ((NB : Int) > 200) = true := by simp; omega
    have g2 : decide ((200 : Int) < (NB : Int)) = true := by simp; omega
    have g3 : decide (200 < NB) = true := by simp; omega
    go_wp2
    go_returns
    exact ⟨rfl, HB1.out⟩
  have g1 : decide ((NB : Int) > 200) = false := by simp; omega
  have g2 : decide ((200 : Int) < (NB : Int)) = false := by simp; omega
  have g3 : decide (200 < NB) = false := by simp; omega
  by_cases h3 : 20 < NP
  · have k1 : decide ((NP : Int) > 20) = true := by simp; omega
    have k2 : decide ((20 : Int) < (NP : Int)) = true := by simp; omega
    have k3 : decide (20 < NP) = true := by simp; omega
    go_wp2
    go_returns
    exact ⟨rfl, HB1.out⟩
  have k1 : decide ((NP : Int) > 20) = false := by simp; omega
  have k2 : decide ((20 : Int) < (NP : Int)) = false := by simp; omega
  have k3 : decide (20 < NP) = false := by simp; omega
  by_cases h4 : 20 < NQ
  · have l1 : decide ((NQ : Int) > 20) = true := by simp; omega
    have l2 : decide ((20 : Int) < (NQ : Int)) = true := by simp; omega
    have l3 : decide (20 < NQ) = true := by simp; omega
    go_wp2
    go_returns
    exact ⟨rfl, HB1.out⟩
  have l1 : decide ((NQ : Int) > 20) = false := by simp; omega
  have l2 : decide ((20 : Int) < (NQ : Int)) = false := by simp; omega
  have l3 : decide (20 < NQ) = false := by simp; omega
  obtain ⟨E, hE⟩ : ∃ x, (climbR n i a p).2 = x := ⟨_, rfl⟩
  obtain ⟨F, hF⟩ : ∃ x, (climbR n i b q).2 = x := ⟨_, rfl⟩
  have hl1 := climbR_len n i a p
  have hl2 := climbR_len n i b q
  have heq := fun W : World => dig_eq (climbR n i a p).1 (climbR n i b q).1 hl1 hl2 W
  simp only [dv_eq] at heq
  obtain ⟨c1, hc1⟩ : ∃ x, (climbR n i a p).1 = x := ⟨_, rfl⟩
  obtain ⟨c2, hc2⟩ : ∃ x, (climbR n i b q).1 = x := ⟨_, rfl⟩
  rw [hc1, hc2] at heq
  rw [hc1] at hl1
  rw [hc2] at hl2
  rw [hE, hF, hc1, hc2] at HNO
  rw [hE, hc1] at HC1
  rw [hF, hc2] at HC2
  have HE := Lib.hid hE
  have HF := Lib.hid hF
  have HCA := Lib.hid hc1
  have HCB := Lib.hid hc2
  have HL1 : Hid ((cells8 c1).length = 32) := Lib.hid (by rw [cells8_len, hl1])
  have HL2 : Hid ((cells8 c2).length = 32) := Lib.hid (by rw [cells8_len, hl2])
  have HO1 : Hid (∀ v ∈ cells8 c1, v.oneCell' = true) := Lib.hid (one_cells8 c1)
  have HO2 : Hid (∀ v ∈ cells8 c2, v.oneCell' = true) := Lib.hid (one_cells8 c2)
  obtain ⟨cc, hcc⟩ : ∃ x, cells8 c1 = x := ⟨_, rfl⟩
  obtain ⟨dd, hdd⟩ : ∃ x, cells8 c2 = x := ⟨_, rfl⟩
  rw [hcc] at HC1 heq HL1 HO1
  rw [hdd] at HC2 heq HL2 HO2
  have HZC : Hid ((Tryd.prog.info? 30).map (·.size) = some cc.length) := Lib.hid (by rw [HL1.out]; exact Tryd.info30)
  have HZD : Hid ((Tryd.prog.info? 30).map (·.size) = some dd.length) := Lib.hid (by rw [HL2.out]; exact Tryd.info30)
  have HHEQ := Lib.hid heq
  clear hE hF hc1 hc2 hl1 hl2 hcc hdd heq
  go_wp2_with fail
  refine (HC1.out w1 HB1.out (by omega)).mono ?_
  rintro e w2 ⟨rfl, hb2⟩
  have HBc1 := Lib.hid (HB1.out.trans (hb2.mono HB1.out.size))
  clear hb2
  go_wp2_with (first
    | (refine wpList_world (fun X => Below w2.heap.size w2 X ∧ Arr X w2.heap.size (cells8 (List.replicate 32 0)) ∧ w2.heap.size < X.heap.size) ⟨by go_grown, Arr.new w2 _ 30, by simp⟩ ?_; rintro Xa ⟨hBa, hDa, hza⟩)
    | (refine store_new2 rfl 30 _ _ (by rfl) w2.heap.size w2.heap.size cc _ (by rfl) (by rfl) hBa (Nat.le_refl _) hDa (by rw [HL1.out]; rfl) HZC.out HO1.out ?_; intro w3 hB hA hO hz; have HB3 := Lib.hid (HBc1.out.trans (hB.mono HBc1.out.size)); have HA3 := Lib.hid hA; have hz3 : w2.heap.size < w3.heap.size := Nat.lt_of_lt_of_le hza hz; clear hB hA hO hz hBa hDa hza))
  refine (HC2.out w3 HB3.out (by omega)).mono ?_
  rintro e w4 ⟨rfl, hb4⟩
  have hs4 := hb4.size
  have HBc2 := Lib.hid (HB3.out.trans (hb4.mono HB3.out.size))
  have HA4 := Lib.hid (HA3.out.below hb4 hz3)
  clear hb4
  go_wp2_with (first
    | (refine wpList_world (fun X => Below w4.heap.size w4 X ∧ Arr X w4.heap.size (cells8 (List.replicate 32 0)) ∧ w4.heap.size < X.heap.size) ⟨by go_grown, Arr.new w4 _ 30, by simp⟩ ?_; rintro Xa ⟨hBa, hDa, hza⟩)
    | (refine store_new2 rfl 30 _ _ (by rfl) w4.heap.size w4.heap.size dd _ (by rfl) (by rfl) hBa (Nat.le_refl _) hDa (by rw [HL2.out]; rfl) HZD.out HO2.out ?_; intro w5 hB hA hO hz; have HB5 := Lib.hid (HBc2.out.trans (hB.mono HBc2.out.size)); have HA5 := Lib.hid hA; have HA4b := Lib.hid (HA4.out.below hB (by omega)); have hz5 : w4.heap.size < w5.heap.size := Nat.lt_of_lt_of_le hza hz; clear hB hA hO hz hBa hDa hza))
  by_cases hgood : E = 0 ∧ F = 0 ∧ c1 = c2 ∧ a ≠ b
  · obtain ⟨hE, hF, hcd, hab⟩ := hgood
    obtain ⟨j, m, rfl, rfl, hjm, hm, hpl, hca⟩ := climbR_good (HE.out.trans hE)
    obtain ⟨j', m', e1, e2, _, _, hql, hcb⟩ := climbR_good (HF.out.trans hF)
    obtain rfl : m = m' := by omega
    obtain rfl : j = j' := by omega
    have hRR : mclimb j m a p = mclimb j m b q := by rw [← hca, ← hcb, HCA.out, HCB.out, hcd]
    refine (HOK.out w5 HB5.out (by omega) (by omega) j m hjm hm (by rw [← HNP.out]; exact hpl) (by rw [← HNQ.out]; exact hql) hRR hab (HTT.out.below HB5.out h0) (by have := HB5.out.size; omega)).mono ?_
    rintro e w6 ⟨vx, vy, K, rfl, hK, hKe, hKn, hbx, hby, hb6⟩
    have hs6 := hb6.size
    have HB6 := Lib.hid (HB5.out.trans (hb6.mono HB5.out.size))
    have HA6 := Lib.hid (HA4b.out.below hb6 (by omega))
    have HA6b := Lib.hid (HA5.out.below hb6 hz5)
    clear hb6
    have hdf := mtx_diff j m hab p q K hKn
    have hsx := mtx_sha j m (leafT a) p K
    have hsy := mtx_sha j m (leafT b) q K
    have hlx := mtx_len j m (t := leafT a) (sha_len (leafT a)) HP32.out hpl K hK
    have hly := mtx_len j m (t := leafT b) (sha_len (leafT b)) HQ32.out hql K hK
    rw [leafT_len, HNA.out] at hlx
    rw [leafT_len, HNB.out] at hly
    have hnx := mtx_ne j m (d := sha (leafT a)) (leafT_ne a) p K
    have hny := mtx_ne j m (d := sha (leafT b)) (leafT_ne b) q K
    have hss : sha (mtx j m (leafT a) (sha (leafT a)) p K) = sha (mtx j m (leafT b) (sha (leafT b)) q K) := by rw [hsx, hsy]; exact hKe
    clear hKe hKn hsx hsy hca hcb hRR hpl hql e1 e2
    obtain ⟨tx, htx⟩ : ∃ x, mtx j m (leafT a) (sha (leafT a)) p K = x := ⟨_, rfl⟩
    obtain ⟨ty, hty⟩ : ∃ x, mtx j m (leafT b) (sha (leafT b)) q K = x := ⟨_, rfl⟩
    rw [htx] at hbx hdf hlx hnx hss
    rw [hty] at hby hdf hly hny hss
    subst hE
    subst hF
    have heq := HHEQ.out
    rw [hcd] at heq
    simp only [decide_true] at heq
    have hab2 : (a == b) = false := by simpa using hab
    have hdf2 : (tx == ty) = false := by simpa using hdf
    have hdf3 : ¬ tx = ty := hdf
    have hab3 : ¬ a = b := hab
    obtain ⟨xa, xn, xc, rfl, hxn⟩ : ∃ x n c, vx = .slice x n c ∧ tx.length = n := by obtain ⟨x, c, e, _⟩ := hbx; exact ⟨x, _, c, e, rfl⟩
    obtain ⟨ya, yn, yc, rfl, hyn⟩ : ∃ x n c, vy = .slice x n c ∧ ty.length = n := by obtain ⟨x, c, e, _⟩ := hby; exact ⟨x, _, c, e, rfl⟩
    have hcvA := conv_of (HVA.out.below HB6.out) HNA.out
    have hcvB := conv_of (HVB.out.below HB6.out) HNB.out
    have hcvX := conv_of hbx hxn
    have hcvY := conv_of hby hyn
    have HSX := Lib.hid (fun (W : World) (hW : Below w6.heap.size w6 W) => sum_any W (.slice xa xn xc) tx (row_of ((hbx.below hW).mono hW.size) hnx) (by omega) (HTT.out.below (HB6.out.trans (hW.mono HB6.out.size)) h0) (by have := HB6.out.size; have := hW.size; omega))
    have HSY := Lib.hid (fun (W : World) (hW : Below w6.heap.size w6 W) => sum_any W (.slice ya yn yc) ty (row_of ((hby.below hW).mono hW.size) hny) (by omega) (HTT.out.below (HB6.out.trans (hW.mono HB6.out.size)) h0) (by have := HB6.out.size; have := hW.size; omega))
    rw [← hss] at HSY
    have hqs := fun (W : World) => dig_eq (sha tx) (sha tx) (sha_len _) (sha_len _) W
    simp only [decide_true, dv_eq] at hqs HSX HSY
    obtain ⟨sx, hsxe⟩ : ∃ x, cells8 (sha tx) = x := ⟨_, rfl⟩
    rw [hsxe] at hqs
    simp only [hsxe] at HSX HSY
    clear hbx hby hss hsxe hab hdf hcd hK htx hty
    go_wp2_with (first
      | (refine wpList_wanted (by rfl) ?_; refine wp_load_mid 30 (.tmp 13) (by rfl) w2.heap.size 0 (by rfl) cc _ HA6.out.at_ Tryd.underlying30 rfl HZC.out ?_; simp only [Act.put, List.setIfInBounds_toArray, List.set_cons_zero, List.set_cons_succ])
      | (refine wpList_wanted (by rfl) ?_; refine wp_load_mid 30 (.tmp 15) (by rfl) w4.heap.size 0 (by rfl) dd _ HA6b.out.at_ Tryd.underlying30 rfl HZD.out ?_; simp only [Act.put, List.setIfInBounds_toArray, List.set_cons_zero, List.set_cons_succ]))
    refine (HSX.out w6 (Below.refl _ _)).mono ?_
    rintro e w7 ⟨rfl, hb7⟩
    have HB7 := Lib.hid hb7
    clear hb7
    go_wp2_with fail
    refine (HSY.out w7 HB7.out).mono ?_
    rintro e w8 ⟨rfl, hb8⟩
    have HB8 := Lib.hid (HB6.out.trans ((HB7.out.trans (hb8.mono HB7.out.size)).mono HB6.out.size))
    clear hb8
    go_wp2
    go_returns
    exact ⟨rfl, HB8.out⟩
  · refine (HNO.out w5 HB5.out (by omega) (by omega) hgood).mono ?_
    rintro e w6 ⟨rfl, hb6⟩
    have hs6 := hb6.size
    have HB6 := Lib.hid (HB5.out.trans (hb6.mono HB5.out.size))
    have HA6 := Lib.hid (HA4b.out.below hb6 (by omega))
    have HA6b := Lib.hid (HA5.out.below hb6 hz5)
    clear hb6
    have hno2 : E ≠ 0 ∨ F ≠ 0 ∨ c1 ≠ c2 ∨ a = b := by
      by_cases h1 : E = 0
      · by_cases h2 : F = 0
        · by_cases h3 : c1 = c2
          · by_cases h4 : a = b
            · exact .inr (.inr (.inr h4))
            · exact absurd ⟨h1, h2, h3, h4⟩ hgood
          · exact .inr (.inr (.inl h3))
        · exact .inr (.inl h2)
      · exact .inl h1
    clear hgood
    by_cases hE : E = 0
    · subst hE
      by_cases hF : F = 0
      · subst hF
        by_cases hcd : c1 = c2
        · obtain rfl : a = b := (hno2.resolve_left (by simp)).resolve_left (by simp) |>.resolve_left (by simp [hcd])
          clear hno2
          have heq := HHEQ.out
          rw [hcd] at heq
          simp only [decide_true] at heq
          have hcvA := conv_of (HVA.out.below HB6.out) HNA.out
          have hcvB := conv_of (HVB.out.below HB6.out) HNB.out
          go_wp2_with (first
            | (refine wpList_wanted (by rfl) ?_; refine wp_load_mid 30 (.tmp 13) (by rfl) w2.heap.size 0 (by rfl) cc _ HA6.out.at_ Tryd.underlying30 rfl HZC.out ?_; simp only [Act.put, List.setIfInBounds_toArray, List.set_cons_zero, List.set_cons_succ])
            | (refine wpList_wanted (by rfl) ?_; refine wp_load_mid 30 (.tmp 15) (by rfl) w4.heap.size 0 (by rfl) dd _ HA6b.out.at_ Tryd.underlying30 rfl HZD.out ?_; simp only [Act.put, List.setIfInBounds_toArray, List.set_cons_zero, List.set_cons_succ]))
          go_returns
          exact ⟨rfl, HB6.out⟩
        · clear hno2
          have heq := HHEQ.out
          have hd : decide (c1 = c2) = false := by simpa using hcd
          rw [hd] at heq
          clear hd hcd
          go_wp2_with (first
            | (refine wpList_wanted (by rfl) ?_; refine wp_load_mid 30 (.tmp 13) (by rfl) w2.heap.size 0 (by rfl) cc _ HA6.out.at_ Tryd.underlying30 rfl HZC.out ?_; simp only [Act.put, List.setIfInBounds_toArray, List.set_cons_zero, List.set_cons_succ])
            | (refine wpList_wanted (by rfl) ?_; refine wp_load_mid 30 (.tmp 15) (by rfl) w4.heap.size 0 (by rfl) dd _ HA6b.out.at_ Tryd.underlying30 rfl HZD.out ?_; simp only [Act.put, List.setIfInBounds_toArray, List.set_cons_zero, List.set_cons_succ]))
          go_returns
          exact ⟨rfl, HB6.out⟩
      · clear hno2
        have e1 : decide (F = 0) = false := by simp [hF]
        have e2 : (F == 0) = false := by simp [hF]
        have e3 : (F != 0) = true := by simp [hF]
        clear hF
        go_wp2_with (first
          | (refine wpList_wanted (by rfl) ?_; refine wp_load_mid 30 (.tmp 13) (by rfl) w2.heap.size 0 (by rfl) cc _ HA6.out.at_ Tryd.underlying30 rfl HZC.out ?_; simp only [Act.put, List.setIfInBounds_toArray, List.set_cons_zero, List.set_cons_succ])
          | (refine wpList_wanted (by rfl) ?_; refine wp_load_mid 30 (.tmp 15) (by rfl) w4.heap.size 0 (by rfl) dd _ HA6b.out.at_ Tryd.underlying30 rfl HZD.out ?_; simp only [Act.put, List.setIfInBounds_toArray, List.set_cons_zero, List.set_cons_succ]))
        go_returns
        exact ⟨rfl, HB6.out⟩
    · clear hno2
      have e1 : decide (E = 0) = false := by simp [hE]
      have e2 : (E == 0) = false := by simp [hE]
      have e3 : (E != 0) = true := by simp [hE]
      clear hE
      go_wp2_with (first
        | (refine wpList_wanted (by rfl) ?_; refine wp_load_mid 30 (.tmp 13) (by rfl) w2.heap.size 0 (by rfl) cc _ HA6.out.at_ Tryd.underlying30 rfl HZC.out ?_; simp only [Act.put, List.setIfInBounds_toArray, List.set_cons_zero, List.set_cons_succ])
        | (refine wpList_wanted (by rfl) ?_; refine wp_load_mid 30 (.tmp 15) (by rfl) w4.heap.size 0 (by rfl) dd _ HA6b.out.at_ Tryd.underlying30 rfl HZD.out ?_; simp only [Act.put, List.setIfInBounds_toArray, List.set_cons_zero, List.set_cons_succ]))
      go_returns
      exact ⟨rfl, HB6.out⟩
end Go.Proofs.YtfmngeemhfpeiaaDoor
