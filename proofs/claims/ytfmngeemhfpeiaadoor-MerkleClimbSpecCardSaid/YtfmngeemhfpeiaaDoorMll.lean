/- MerkleLength, walked. -/
import Derived.Test.YtfmngeemhfpeiaaDoorMsa
namespace Go.Proofs.YtfmngeemhfpeiaaDoor
open Go.RowKit

set_option maxRecDepth 100000 in
theorem run_build30 (W : World) : (Instr.build 30 #[]).run Tryd.prog W = .ok (.agg (cells8 z32).toArray) W := by
  obtain ⟨i, hi, h⟩ := Option.map_eq_some_iff.1 Tryd.info26z
  simp only [Prod.mk.injEq] at h
  simp [Instr.build, run_underlying Tryd.underlying30, sizeOf, typeInfo, zeroValue, hi, h.1, Value.cells]
  rfl
theorem alone_iff {t s : Nat} (h : t < s) : alone t s = false ↔ (s % 2 = 0 ∨ t ≠ s - 1) := by
  unfold alone
  rw [oth_eq]
  simp only [decide_eq_false_iff_not]
  split <;> omega
theorem climbR_arg {n i : Int} (h : leafOk n i = false) (b : List UInt8) (p : List (List UInt8)) : climbR n i b p = (z32, 1) := by
  unfold climbR; rw [if_pos h]
theorem climbR_path {i m : Nat} (hm : m ≤ 65536) (hi : i < m) (b : List UInt8) {p : List (List UInt8)} (h : p.length ≠ mlen i m) : climbR m i b p = (z32, 70) := by
  have h1 : leafOk (m : Int) (i : Int) = true := by unfold leafOk; simp; omega
  unfold climbR
  rw [if_neg (by rw [h1]; simp)]
  exact if_pos h
theorem climbR_ok {i m : Nat} (hm : m ≤ 65536) (hi : i < m) (b : List UInt8) {p : List (List UInt8)} (h : p.length = mlen i m) : climbR m i b p = (mclimb i m b p, 0) := by
  have h1 : leafOk (m : Int) (i : Int) = true := by unfold leafOk; simp; omega
  unfold climbR
  rw [if_neg (by rw [h1]; simp)]
  exact if_neg (by simpa using h)
theorem leafOk_true {n i : Int} (h : leafOk n i = true) : ∃ j m : Nat, n = m ∧ i = j ∧ j < m ∧ m ≤ 65536 := by
  unfold leafOk at h
  simp only [Bool.and_eq_true, decide_eq_true_eq] at h
  obtain ⟨h3, h4, h5⟩ := h
  obtain ⟨m, rfl⟩ := Int.eq_ofNat_of_zero_le (show 0 ≤ n by omega)
  obtain ⟨j, rfl⟩ := Int.eq_ofNat_of_zero_le h4
  exact ⟨j, m, rfl, rfl, by omega, by omega⟩

set_option maxRecDepth 100000 in
set_option maxHeartbeats 8000000 in
theorem lawLength (w : World) (n i : Int) (v : Value) (b : List UInt8) (hv : BytesAt w w.heap.size v b) (u : Value) (p : List (List UInt8)) (hu : Digs w w.heap.size u p) (_hn : (Lit.int .i64 n).wf = true) (_hi : (Lit.int .i64 i).wf = true) (hT : Tab w) (h0 : 0 < w.heap.size) :
    Calls Tryd.prog 9 #[.int .i64 n, .int .i64 i, v, u] w fun e w' => e = .returned (.bool true) ∧ Below w.heap.size w w' := by
  have HS := Lib.hid (msane_any w hT h0)
  have HCL := Lib.hid (fun (W : World) (hW : Below w.heap.size w W) (hb : b.length ≤ 200) => climb_any W n i v u b p ((hv.below hW).mono hW.size) (by omega) (digs_at hu hW) (hT.below hW h0) (by have := hW.size; omega))
  obtain ⟨va, vc, rfl⟩ : ∃ a c, v = .slice a b.length c := by obtain ⟨a, c, rfl, _⟩ := hv; exact ⟨a, c, rfl⟩
  obtain ⟨ua, uc, rfl⟩ : ∃ a c, u = .slice a p.length c := by obtain ⟨_, a, c, e, _⟩ := hu; exact ⟨a, c, e⟩
  obtain ⟨NB, hNB⟩ : ∃ x, b.length = x := ⟨_, rfl⟩
  obtain ⟨NP, hNP⟩ : ∃ x, p.length = x := ⟨_, rfl⟩
  rw [hNB] at HCL ⊢
  rw [hNP] at HCL ⊢
  have HNB := Lib.hid hNB
  have HNP := Lib.hid hNP
  clear hv hu hT hNB hNP
  go_enter Tryd.func9, Tryd.ntmps9
  go_wp2_with fail
  refine HS.out.mono ?_
  rintro e w1 ⟨rfl, hb1⟩
  have HB1 := Lib.hid hb1
  clear hb1
  by_cases h1 : 200 < NB
  · have f1 : decide ((NB : Int) > 200) = true := by simp; omega
    have f2 : decide ((200 : Int) < (NB : Int)) = true := by simp; omega
    have f3 : decide (200 < NB) = true := by simp; omega
    go_wp2
    go_returns
    exact ⟨rfl, HB1.out⟩
  · have f1 : decide ((NB : Int) > 200) = false := by simp; omega
    have f2 : decide ((200 : Int) < (NB : Int)) = false := by simp; omega
    have f3 : decide (200 < NB) = false := by simp; omega
    by_cases h2 : 40 < NP
    · have g1 : decide ((NP : Int) > 40) = true := by simp; omega
      have g2 : decide ((40 : Int) < (NP : Int)) = true := by simp; omega
      have g3 : decide (40 < NP) = true := by simp; omega
      go_wp2
      go_returns
      exact ⟨rfl, HB1.out⟩
    · have g1 : decide ((NP : Int) > 40) = false := by simp; omega
      have g2 : decide ((40 : Int) < (NP : Int)) = false := by simp; omega
      have g3 : decide (40 < NP) = false := by simp; omega
      go_wp2_with fail
      refine (HCL.out w1 HB1.out (by omega)).mono ?_
      rintro e w2 ⟨rfl, hb2⟩
      have HB2 := Lib.hid (HB1.out.trans (hb2.mono HB1.out.size))
      clear hb2
      by_cases hl : leafOk n i = false
      · rw [climbR_arg hl]
        unfold leafOk at hl
        have HLZ : Hid ((cells8 z32).length = 32) := Lib.hid (by rw [cells8_len]; rfl)
        have HOZ : Hid (∀ v ∈ cells8 z32, v.oneCell' = true) := Lib.hid (one_cells8 _)
        have hqz := fun (W : World) => dig_eq z32 z32 rfl rfl W
        simp only [decide_true, dv_eq] at hqz
        have hbu := run_build30
        obtain ⟨cz, hcz⟩ : ∃ x, cells8 z32 = x := ⟨_, rfl⟩
        rw [hcz] at HLZ HOZ hqz hbu ⊢
        have HZZ : Hid ((Tryd.prog.info? 30).map (·.size) = some cz.length) := Lib.hid (by rw [HLZ.out]; exact Tryd.info30)
        have HBU := Lib.hid hbu
        clear hbu hcz
        by_cases a1 : n < 1
        · have k1 : decide (n < 1) = true := by simpa using a1
          go_wp2_with (first
            | (refine wpList_world (fun X => Below w2.heap.size w2 X ∧ Arr X w2.heap.size (cells8 (List.replicate 32 0)) ∧ w2.heap.size < X.heap.size) ⟨by go_grown, Arr.new w2 _ 30, by simp⟩ ?_; rintro Xa ⟨hBa, hDa, hza⟩)
            | (refine store_new2 rfl 30 _ _ (by rfl) w2.heap.size w2.heap.size cz _ (by rfl) (by rfl) hBa (Nat.le_refl _) hDa (by rw [HLZ.out]; rfl) HZZ.out HOZ.out ?_; intro w3 hB hA hO hz; have HB3 := Lib.hid (HB2.out.trans (hB.mono HB2.out.size)); have HA3 := Lib.hid hA; clear hB hA hO hz hBa hDa hza)
            | (refine wpList_wanted (by rfl) ?_; refine wp_load_mid 30 (.tmp 9) (by rfl) w2.heap.size 0 (by rfl) cz _ HA3.out.at_ Tryd.underlying30 rfl HZZ.out ?_; simp only [Act.put, List.setIfInBounds_toArray, List.set_cons_zero, List.set_cons_succ])
            | (refine wpList_wanted (by rfl) ?_; refine wp_build_run 30 [] (by rfl) [] _ (by rfl) (HBU.out _) ?_; simp only [Act.put, List.setIfInBounds_toArray, List.set_cons_zero, List.set_cons_succ]))
          go_returns
          exact ⟨rfl, HB3.out⟩
        · have k1 : decide (n < 1) = false := by simpa using a1
          by_cases a2 : n > 65536
          · have k2 : decide (n > 65536) = true := by simpa using a2
            have k2' : decide (65536 < n) = true := by simpa using a2
            go_wp2_with (first
              | (refine wpList_world (fun X => Below w2.heap.size w2 X ∧ Arr X w2.heap.size (cells8 (List.replicate 32 0)) ∧ w2.heap.size < X.heap.size) ⟨by go_grown, Arr.new w2 _ 30, by simp⟩ ?_; rintro Xa ⟨hBa, hDa, hza⟩)
              | (refine store_new2 rfl 30 _ _ (by rfl) w2.heap.size w2.heap.size cz _ (by rfl) (by rfl) hBa (Nat.le_refl _) hDa (by rw [HLZ.out]; rfl) HZZ.out HOZ.out ?_; intro w3 hB hA hO hz; have HB3 := Lib.hid (HB2.out.trans (hB.mono HB2.out.size)); have HA3 := Lib.hid hA; clear hB hA hO hz hBa hDa hza)
              | (refine wpList_wanted (by rfl) ?_; refine wp_load_mid 30 (.tmp 9) (by rfl) w2.heap.size 0 (by rfl) cz _ HA3.out.at_ Tryd.underlying30 rfl HZZ.out ?_; simp only [Act.put, List.setIfInBounds_toArray, List.set_cons_zero, List.set_cons_succ])
              | (refine wpList_wanted (by rfl) ?_; refine wp_build_run 30 [] (by rfl) [] _ (by rfl) (HBU.out _) ?_; simp only [Act.put, List.setIfInBounds_toArray, List.set_cons_zero, List.set_cons_succ]))
            go_returns
            exact ⟨rfl, HB3.out⟩
          · have k2 : decide (n > 65536) = false := by simpa using a2
            have k2' : decide (65536 < n) = false := by simpa using a2
            by_cases a3 : i < 0
            · have k3 : decide (i < 0) = true := by simpa using a3
              go_wp2_with (first
                | (refine wpList_world (fun X => Below w2.heap.size w2 X ∧ Arr X w2.heap.size (cells8 (List.replicate 32 0)) ∧ w2.heap.size < X.heap.size) ⟨by go_grown, Arr.new w2 _ 30, by simp⟩ ?_; rintro Xa ⟨hBa, hDa, hza⟩)
                | (refine store_new2 rfl 30 _ _ (by rfl) w2.heap.size w2.heap.size cz _ (by rfl) (by rfl) hBa (Nat.le_refl _) hDa (by rw [HLZ.out]; rfl) HZZ.out HOZ.out ?_; intro w3 hB hA hO hz; have HB3 := Lib.hid (HB2.out.trans (hB.mono HB2.out.size)); have HA3 := Lib.hid hA; clear hB hA hO hz hBa hDa hza)
                | (refine wpList_wanted (by rfl) ?_; refine wp_load_mid 30 (.tmp 9) (by rfl) w2.heap.size 0 (by rfl) cz _ HA3.out.at_ Tryd.underlying30 rfl HZZ.out ?_; simp only [Act.put, List.setIfInBounds_toArray, List.set_cons_zero, List.set_cons_succ])
                | (refine wpList_wanted (by rfl) ?_; refine wp_build_run 30 [] (by rfl) [] _ (by rfl) (HBU.out _) ?_; simp only [Act.put, List.setIfInBounds_toArray, List.set_cons_zero, List.set_cons_succ]))
              go_returns
              exact ⟨rfl, HB3.out⟩
            · have k3 : decide (i < 0) = false := by simpa using a3
              have a4 : i ≥ n := by
                simp only [Bool.and_eq_false_iff, decide_eq_false_iff_not] at hl
                omega
              have k4 : decide (i ≥ n) = true := by simpa using a4
              have k4' : decide (n ≤ i) = true := by simpa using a4
              go_wp2_with (first
                | (refine wpList_world (fun X => Below w2.heap.size w2 X ∧ Arr X w2.heap.size (cells8 (List.replicate 32 0)) ∧ w2.heap.size < X.heap.size) ⟨by go_grown, Arr.new w2 _ 30, by simp⟩ ?_; rintro Xa ⟨hBa, hDa, hza⟩)
                | (refine store_new2 rfl 30 _ _ (by rfl) w2.heap.size w2.heap.size cz _ (by rfl) (by rfl) hBa (Nat.le_refl _) hDa (by rw [HLZ.out]; rfl) HZZ.out HOZ.out ?_; intro w3 hB hA hO hz; have HB3 := Lib.hid (HB2.out.trans (hB.mono HB2.out.size)); have HA3 := Lib.hid hA; clear hB hA hO hz hBa hDa hza)
                | (refine wpList_wanted (by rfl) ?_; refine wp_load_mid 30 (.tmp 9) (by rfl) w2.heap.size 0 (by rfl) cz _ HA3.out.at_ Tryd.underlying30 rfl HZZ.out ?_; simp only [Act.put, List.setIfInBounds_toArray, List.set_cons_zero, List.set_cons_succ])
                | (refine wpList_wanted (by rfl) ?_; refine wp_build_run 30 [] (by rfl) [] _ (by rfl) (HBU.out _) ?_; simp only [Act.put, List.setIfInBounds_toArray, List.set_cons_zero, List.set_cons_succ]))
              go_returns
              exact ⟨rfl, HB3.out⟩
      · obtain ⟨j, m, rfl, rfl, hjm, hm⟩ := leafOk_true (by simpa using hl)
        clear hl
        have k1 : decide ((m : Int) < 1) = false := by simp; omega
        have k2 : decide ((m : Int) > 65536) = false := by simp; omega
        have k2' : decide ((65536 : Int) < (m : Int)) = false := by simp; omega
        have k3 : decide ((j : Int) < 0) = false := by simp
        have k4 : decide ((j : Int) ≥ (m : Int)) = false := by simp; omega
        have k4' : decide ((m : Int) ≤ (j : Int)) = false := by simp; omega
        obtain ⟨cr, er, hcr, hlen⟩ : ∃ cr er, climbR m j b p = (cr, er) ∧ cr.length = 32 := ⟨_, _, rfl, climbR_len m j b p⟩
        rw [hcr]
        have HCR := Lib.hid hcr
        have HLC : Hid ((cells8 cr).length = 32) := Lib.hid (by rw [cells8_len, hlen])
        have HOC : Hid (∀ v ∈ cells8 cr, v.oneCell' = true) := Lib.hid (one_cells8 _)
        obtain ⟨cc, hcc⟩ : ∃ x, cells8 cr = x := ⟨_, rfl⟩
        rw [show ((cr, er) : List UInt8 × Int).1 = cr from rfl, show ((cr, er) : List UInt8 × Int).2 = er from rfl, hcc]
        rw [hcc] at HLC HOC
        have HCC := Lib.hid hcc
        have HZC : Hid ((Tryd.prog.info? 30).map (·.size) = some cc.length) := Lib.hid (by rw [HLC.out]; exact Tryd.info30)
        clear hcr hlen hcc
        go_wp2_with (first
          | (refine wpList_world (fun X => Below w2.heap.size w2 X ∧ Arr X w2.heap.size (cells8 (List.replicate 32 0)) ∧ w2.heap.size < X.heap.size) ⟨by go_grown, Arr.new w2 _ 30, by simp⟩ ?_; rintro Xa ⟨hBa, hDa, hza⟩)
          | (refine store_new2 rfl 30 _ _ (by rfl) w2.heap.size w2.heap.size cc _ (by rfl) (by rfl) hBa (Nat.le_refl _) hDa (by rw [HLC.out]; rfl) HZC.out HOC.out ?_; intro w3 hB hA hO hz; have HB3 := Lib.hid (HB2.out.trans (hB.mono HB2.out.size)); have HA3 := Lib.hid hA; clear hB hA hO hz hBa hDa hza))
        go_loopw [11, 12, 13] (fun s11 s12 s13 wr => ∃ k : Nat, s11 = .int .i64 (mcnt j m k) ∧ s12 = .int .i64 (msz m k) ∧ s13 = .int .i64 (mpos j k) ∧ k ≤ mrows m ∧ wr = w3) (fun _ s12 _ _ => (intOf s12).toNat)
        case atStart => exact ⟨0, rfl, rfl, rfl, Nat.zero_le _, rfl⟩
        case round =>
          obtain ⟨k, rfl, rfl, rfl, hk, rfl⟩ := hrel
          have hpl := mpos_lt hjm k
          have hml := msz_le (show 1 ≤ m by omega) k
          have hri := mrows_iff k m
          have hcl := mcnt_le j m k
          have hr16 : mrows m ≤ 16 := mrows_le 16 m (by omega)
          have hai := alone_iff hpl
          have hc1 : mcnt j m (k + 1) = mcnt j m k + (if alone (mpos j k) (msz m k) then 0 else 1) := rfl
          have hs1 : msz m (k + 1) = (msz m k + 1) / 2 := rfl
          have hp1 : mpos j (k + 1) = mpos j k / 2 := rfl
          obtain ⟨S, hS⟩ : ∃ x, msz m k = x := ⟨_, rfl⟩
          obtain ⟨T, hT'⟩ : ∃ x, mpos j k = x := ⟨_, rfl⟩
          obtain ⟨C, hC⟩ : ∃ x, mcnt j m k = x := ⟨_, rfl⟩
          rw [hS, hT'] at hai hc1
          rw [hS] at hs1 hml hri hpl
          rw [hT'] at hp1 hpl
          rw [hC] at hc1 hcl
          rw [hS, hT', hC]
          by_cases hgt : 1 < S
          · have f11 : decide ((S : Int) > 1) = true := by simp; omega
            have f12 : decide ((1 : Int) < (S : Int)) = true := by simp; omega
            have f13 : decide (1 < S) = true := by simp; omega
            have hrm : Int.tmod (S : Int) 2 = ((S % 2 : Nat) : Int) := by rw [Int.tmod_eq_emod_of_nonneg (by omega)]; omega
            have hq1 : IntKind.i64.wrap ((S : Int) + 1) = ((S + 1 : Nat) : Int) := by rw [IntKind.wrap_i64]; omega
            have hq2 : IntKind.i64.wrap (Int.tdiv ((S + 1 : Nat) : Int) 2) = ((msz m (k + 1) : Nat) : Int) := by rw [hs1, IntKind.wrap_i64, Int.tdiv_eq_ediv_of_nonneg (by omega)]; omega
            have hq3 : IntKind.i64.wrap (Int.tdiv (T : Int) 2) = ((mpos j (k + 1) : Nat) : Int) := by rw [hp1, IntKind.wrap_i64, Int.tdiv_eq_ediv_of_nonneg (by omega)]; omega
            have hq4 : IntKind.i64.wrap ((S : Int) - 1) = (S : Int) - 1 := by rw [IntKind.wrap_i64]; omega
            have hq5 : IntKind.i64.wrap ((C : Int) + 1) = (C : Int) + 1 := by rw [IntKind.wrap_i64]; omega
            have HREL : Hid (k < mrows m ∧ msz m (k + 1) < S) := Lib.hid ⟨by rw [hri]; exact hgt, by rw [hs1]; omega⟩
            have HC1 := Lib.hid hc1
            have HAI := Lib.hid hai
            have HS1 := Lib.hid hs1
            have HP1 := Lib.hid hp1
            clear hc1 hs1 hp1 hri hai hS hT' hC
            by_cases hev : S % 2 = 0
            · have e1 : decide (((S % 2 : Nat) : Int) = 0) = true := by simp; omega
              have e2 : (((S % 2 : Nat) : Int) == 0) = true := by simp; omega
              have e3 : (Int.tmod (S : Int) 2 == 0) = true := by rw [hrm]; exact e2
              have e4 : decide (Int.tmod (S : Int) 2 = 0) = true := by rw [hrm]; exact e1
              have e5 : Int.tmod (S : Int) 2 = 0 := by rw [hrm]; omega
              have m1 : decide ((S : Int) % 2 = 0) = true := by simp; omega
              have m2 : ((S : Int) % 2 == 0) = true := by simp; omega
              have m3 : (S : Int) % 2 = 0 := by omega
              clear hrm e1 e2
              go_wp2
              go_roundw
              case rel =>
                refine ⟨k + 1, ?_, by rw [HS1.out]; first | rfl | (congr 1; omega), by rw [HP1.out]; first | rfl | (congr 1; omega), HREL.out.1, trivial⟩
                have ha := HAI.out.2 (.inl hev)
                rw [HC1.out, ha]; simp
              case measure => have := HREL.out.2; simp [intOf]; omega
            · have e1 : decide (((S % 2 : Nat) : Int) = 0) = false := by simp; omega
              have e2 : (((S % 2 : Nat) : Int) == 0) = false := by simp; omega
              have e3 : (Int.tmod (S : Int) 2 == 0) = false := by rw [hrm]; exact e2
              have e4 : decide (Int.tmod (S : Int) 2 = 0) = false := by rw [hrm]; exact e1
              have e5 : ¬ Int.tmod (S : Int) 2 = 0 := by rw [hrm]; omega
              have m1 : decide ((S : Int) % 2 = 0) = false := by simp; omega
              have m2 : ((S : Int) % 2 == 0) = false := by simp; omega
              have m3 : ¬ (S : Int) % 2 = 0 := by omega
              clear hrm e1 e2
              by_cases hne : T = S - 1
              · have d1 : decide ((T : Int) = (S : Int) - 1) = true := by simp; omega
                have d2 : ((T : Int) == (S : Int) - 1) = true := by simp; omega
                have d3 : ((T : Int) != (S : Int) - 1) = false := by simp; omega
                have d4 : (T : Int) = (S : Int) - 1 := by omega
                have HNE := Lib.hid hne
                clear hne d4
                go_wp2
                go_roundw
                case rel =>
                  refine ⟨k + 1, ?_, by rw [HS1.out]; first | rfl | (congr 1; omega), by rw [HP1.out]; first | rfl | (congr 1; omega), HREL.out.1, trivial⟩
                  have ha : alone T S = true := by
                    by_cases h : alone T S = false
                    · have := HAI.out.1 h; have := HNE.out; omega
                    · simpa using h
                  rw [HC1.out, ha]; simp
                case measure => have := HREL.out.2; simp [intOf]; omega
              · have d1 : decide ((T : Int) = (S : Int) - 1) = false := by simp; omega
                have d2 : ((T : Int) == (S : Int) - 1) = false := by simp; omega
                have d3 : ((T : Int) != (S : Int) - 1) = true := by simp; omega
                have d4 : ¬ (T : Int) = (S : Int) - 1 := by omega
                go_wp2
                go_roundw
                case rel =>
                  refine ⟨k + 1, ?_, by rw [HS1.out]; first | rfl | (congr 1; omega), by rw [HP1.out]; first | rfl | (congr 1; omega), HREL.out.1, trivial⟩
                  have ha := HAI.out.2 (.inr hne)
                  rw [HC1.out, ha]; simp
                case measure => have := HREL.out.2; simp [intOf]; omega
          · have f11 : decide ((S : Int) > 1) = false := by simp; omega
            have f12 : decide ((1 : Int) < (S : Int)) = false := by simp; omega
            have f13 : decide (1 < S) = false := by simp; omega
            have hke : k = mrows m := by omega
            have hCl : mlen j m = C := by unfold mlen; rw [← hke, hC]
            clear hc1 hs1 hp1 hri hai hS hT' hC
            by_cases hlen : NP = C
            · have d1 : decide ((NP : Int) = (C : Int)) = true := by simp; omega
              have d2 : ((NP : Int) == (C : Int)) = true := by simp; omega
              have d3 : ((NP : Int) != (C : Int)) = false := by simp; omega
              have hok := climbR_ok hm hjm b (p := p) (by rw [HNP.out, hlen, hCl])
              rw [HCR.out] at hok
              injection hok with ho1 ho2
              subst ho2
              subst hlen
              go_wp2
              go_returns
              exact ⟨rfl, HB3.out⟩
            · have d1 : decide ((NP : Int) = (C : Int)) = false := by simp; omega
              have d2 : ((NP : Int) == (C : Int)) = false := by simp; omega
              have d3 : ((NP : Int) != (C : Int)) = true := by simp; omega
              have d4 : ¬ (NP : Int) = (C : Int) := by omega
              have hok := climbR_path hm hjm b (p := p) (by rw [HNP.out, hCl]; exact hlen)
              rw [HCR.out] at hok
              injection hok with ho1 ho2
              subst ho2
              subst ho1
              have HLZ : Hid ((cells8 z32).length = 32) := Lib.hid (by rw [cells8_len]; rfl)
              have HOZ : Hid (∀ v ∈ cells8 z32, v.oneCell' = true) := Lib.hid (one_cells8 _)
              have hqz := fun (W : World) => dig_eq z32 z32 rfl rfl W
              simp only [decide_true, dv_eq] at hqz
              have hbu := run_build30
              obtain ⟨cz, hcz⟩ : ∃ x, cells8 z32 = x := ⟨_, rfl⟩
              rw [hcz] at HLZ HOZ hqz hbu
              have hccz : cz = cc := by rw [← HCC.out, hcz]
              subst hccz
              have HZZ : Hid ((Tryd.prog.info? 30).map (·.size) = some cz.length) := Lib.hid (by rw [HLZ.out]; exact Tryd.info30)
              have HBU := Lib.hid hbu
              clear hbu hcz
              go_wp2_with (first
                | (refine wpList_wanted (by rfl) ?_; refine wp_load_mid 30 (.tmp 9) (by rfl) w2.heap.size 0 (by rfl) cz _ HA3.out.at_ Tryd.underlying30 rfl HZZ.out ?_; simp only [Act.put, List.setIfInBounds_toArray, List.set_cons_zero, List.set_cons_succ])
                | (refine wpList_wanted (by rfl) ?_; refine wp_build_run 30 [] (by rfl) [] _ (by rfl) (HBU.out _) ?_; simp only [Act.put, List.setIfInBounds_toArray, List.set_cons_zero, List.set_cons_succ]))
              go_returns
              exact ⟨rfl, HB3.out⟩
end Go.Proofs.YtfmngeemhfpeiaaDoor
