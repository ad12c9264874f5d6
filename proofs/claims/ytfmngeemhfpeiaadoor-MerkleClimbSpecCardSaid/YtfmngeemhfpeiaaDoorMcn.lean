/- merkle: Collide where it shows nothing. -/
import Derived.Test.YtfmngeemhfpeiaaDoorMco
namespace Go.Proofs.YtfmngeemhfpeiaaDoor
open Go.RowKit

set_option maxRecDepth 100000 in
set_option maxHeartbeats 16000000 in
theorem collide_no (w : World) (n i : Int) (v u pv qv : Value) (a b : List UInt8) (p q : List (List UInt8)) (hv : BytesAt w w.heap.size v a) (hu : BytesAt w w.heap.size u b) (ha : a.length ≤ 8000000) (hb : b.length ≤ 8000000) (hp : Digs w w.heap.size pv p) (hq : Digs w w.heap.size qv q)
    (hT : Tab w) (h0 : 0 < w.heap.size) (hno : ¬ ((climbR n i a p).2 = 0 ∧ (climbR n i b q).2 = 0 ∧ (climbR n i a p).1 = (climbR n i b q).1 ∧ a ≠ b)) :
    Calls Tryd.prog 25 #[.int .i64 n, .int .i64 i, v, u, pv, qv] w fun e w' => e = .returned (.tuple #[.slice none 0 0, .slice none 0 0, .bool false]) ∧ Below w.heap.size w w' := by
  have HC1 := Lib.hid (fun W (hW : Below w.heap.size w W) => climb_any W n i v pv a p ((hv.below hW).mono hW.size) (by omega) (digs_at hp hW) (hT.below hW h0) (by have := hW.size; omega))
  have HC2 := Lib.hid (fun W (hW : Below w.heap.size w W) => climb_any W n i u qv b q ((hu.below hW).mono hW.size) (by omega) (digs_at hq hW) (hT.below hW h0) (by have := hW.size; omega))
  have HEQ := Lib.hid (fun W (hW : Below w.heap.size w W) => bytesEq_any W v u a b ((hv.below hW).mono hW.size) ((hu.below hW).mono hW.size))
  have hl1 := climbR_len n i a p
  have hl2 := climbR_len n i b q
  have heq := fun W : World => dig_eq (climbR n i a p).1 (climbR n i b q).1 hl1 hl2 W
  simp only [dv_eq] at heq
  obtain ⟨va, NA, vc, rfl⟩ : ∃ x l c, v = .slice x l c := by obtain ⟨x, c, rfl, _⟩ := hv; exact ⟨x, _, c, rfl⟩
  obtain ⟨ua, NB, uc, rfl⟩ : ∃ x l c, u = .slice x l c := by obtain ⟨x, c, rfl, _⟩ := hu; exact ⟨x, _, c, rfl⟩
  obtain ⟨pa, P, pc, rfl⟩ : ∃ x l c, pv = .slice x l c := by obtain ⟨_, x, c, rfl, _⟩ := hp; exact ⟨x, _, c, rfl⟩
  obtain ⟨qa, Q, qc, rfl⟩ : ∃ x l c, qv = .slice x l c := by obtain ⟨_, x, c, rfl, _⟩ := hq; exact ⟨x, _, c, rfl⟩
  obtain ⟨E, hE⟩ : ∃ x, (climbR n i a p).2 = x := ⟨_, rfl⟩
  obtain ⟨F, hF⟩ : ∃ x, (climbR n i b q).2 = x := ⟨_, rfl⟩
  obtain ⟨c1, hc1⟩ : ∃ x, (climbR n i a p).1 = x := ⟨_, rfl⟩
  obtain ⟨c2, hc2⟩ : ∃ x, (climbR n i b q).1 = x := ⟨_, rfl⟩
  rw [hE, hF, hc1, hc2] at hno
  rw [hc1, hc2] at heq
  rw [hc1] at hl1
  rw [hc2] at hl2
  rw [hc1, hE] at HC1
  rw [hc2, hF] at HC2
  obtain ⟨B1, hB1⟩ : ∃ x, decide (c1 = c2) = x := ⟨_, rfl⟩
  obtain ⟨B2, hB2⟩ : ∃ x, decide (a = b) = x := ⟨_, rfl⟩
  rw [hB1] at heq
  rw [hB2] at HEQ
  have HL1 : Hid ((cells8 c1).length = 32) := Lib.hid (by rw [cells8_len, hl1])
  have HL2 : Hid ((cells8 c2).length = 32) := Lib.hid (by rw [cells8_len, hl2])
  have HO1 : Hid (∀ v ∈ cells8 c1, v.oneCell' = true) := Lib.hid (one_cells8 c1)
  have HO2 : Hid (∀ v ∈ cells8 c2, v.oneCell' = true) := Lib.hid (one_cells8 c2)
  obtain ⟨cc, hcc⟩ : ∃ x, cells8 c1 = x := ⟨_, rfl⟩
  obtain ⟨dd, hdd⟩ : ∃ x, cells8 c2 = x := ⟨_, rfl⟩
  rw [hcc] at HC1 heq HL1 HO1
  rw [hdd] at HC2 heq HL2 HO2
  have HZC : Hid ((Tryd.prog.info? 30).map (·.size) = some cc.length) := Lib.hid (by rw [HL1.out]; exact Tryd.info30)
  have HZD : Hid ((Tryd.prog.info? 30).map (·.size) = some dd.length) := Lib.hid (by rw [HL2.out]; exact Tryd.info30)
  have hno2 : E ≠ 0 ∨ F ≠ 0 ∨ B1 = false ∨ B2 = true := by
    by_cases h1 : E = 0
    · by_cases h2 : F = 0
      · by_cases h3 : c1 = c2
        · by_cases h4 : a = b
          · exact .inr (.inr (.inr (by rw [← hB2]; simpa using h4)))
          · exact absurd ⟨h1, h2, h3, h4⟩ hno
        · exact .inr (.inr (.inl (by rw [← hB1]; simpa using h3)))
      · exact .inr (.inl h2)
    · exact .inl h1
  clear hv hu ha hb hp hq hT hno hE hF hc1 hc2 hl1 hl2 hB1 hB2 hcc hdd
  go_enter Tryd.func25, Tryd.ntmps25
  have z1 : (w.alloc (.cells #[.slice pa P pc] 25)).heap.size = w.heap.size + 1 := World.size_alloc _ _
  have z2 : ((w.alloc (.cells #[.slice pa P pc] 25)).alloc (.cells #[.slice qa Q qc] 25)).heap.size = w.heap.size + 2 := by rw [World.size_alloc, z1]
  have z3 : (((w.alloc (.cells #[.slice pa P pc] 25)).alloc (.cells #[.slice qa Q qc] 25)).alloc (.cells #[.slice none 0 0] 34)).heap.size = w.heap.size + 3 := by rw [World.size_alloc, z2]
  have F1 : Below w.heap.size w ((((w.alloc (.cells #[.slice pa P pc] 25)).alloc (.cells #[.slice qa Q qc] 25)).alloc (.cells #[.slice none 0 0] 34)).alloc (.cells #[.slice none 0 0] 34)) := by go_grown
  have F2 := (((Arr.new w #[.slice pa P pc] 25).alloc (by omega) (.cells #[.slice qa Q qc] 25)).alloc (by omega) (.cells #[.slice none 0 0] 34)).alloc (by omega) (.cells #[.slice none 0 0] 34)
  have F3 := ((Arr.new (w.alloc (.cells #[.slice pa P pc] 25)) #[.slice qa Q qc] 25).alloc (by omega) (.cells #[.slice none 0 0] 34)).alloc (by omega) (.cells #[.slice none 0 0] 34)
  have F4 := (Arr.new ((w.alloc (.cells #[.slice pa P pc] 25)).alloc (.cells #[.slice qa Q qc] 25)) #[.slice none 0 0] 34).alloc (by omega) (.cells #[.slice none 0 0] 34)
  have F5 := Arr.new (((w.alloc (.cells #[.slice pa P pc] 25)).alloc (.cells #[.slice qa Q qc] 25)).alloc (.cells #[.slice none 0 0] 34)) #[.slice none 0 0] 34
  have z4 : ((((w.alloc (.cells #[.slice pa P pc] 25)).alloc (.cells #[.slice qa Q qc] 25)).alloc (.cells #[.slice none 0 0] 34)).alloc (.cells #[.slice none 0 0] 34)).heap.size = w.heap.size + 4 := by rw [World.size_alloc, z3]
  rw [z1] at F3
  rw [z2] at F4
  rw [z3] at F5
  obtain ⟨W0, hW0⟩ : ∃ X, (((w.alloc (.cells #[.slice pa P pc] 25)).alloc (.cells #[.slice qa Q qc] 25)).alloc (.cells #[.slice none 0 0] 34)).alloc (.cells #[.slice none 0 0] 34) = X := ⟨_, rfl⟩
  rw [hW0] at F1 F2 F3 F4 F5 z4
  have HB0 := Lib.hid F1
  have HA10 := Lib.hid F2
  have HA11 := Lib.hid F3
  have HA12 := Lib.hid F4
  have HA13 := Lib.hid F5
  have HW0 := Lib.hid hW0
  have hz0 : w.heap.size + 4 ≤ W0.heap.size := by omega
  have c10 := F2.cell (i := 0) rfl
  have c11 := F3.cell (i := 0) rfl
  clear F1 F2 F3 F4 F5 z1 z2 z3 z4 hW0
  go_wp2_with fail
  rw [HW0.out]
  refine wp_scope_straight ?_
  go_wp2_with fail
  refine (HC1.out _ HB0.out).mono ?_
  rintro e W1 ⟨rfl, hb1⟩
  have hs1 := hb1.size
  have HG1 := Lib.hid hb1
  clear hb1 c10 c11
  go_wp2_with (first
    | (refine wpList_world (fun W => Below W1.heap.size W1 W ∧ Arr W W1.heap.size (cells8 (List.replicate 32 0)) ∧ W1.heap.size < W.heap.size) ⟨by go_grown, Arr.new W1 _ 30, by simp⟩ ?_; rintro Wa ⟨hBa, hDa, hza⟩)
    | (refine store_new2 rfl 30 _ _ (by rfl) W1.heap.size W1.heap.size cc _ (by rfl) (by rfl) hBa (Nat.le_refl _) hDa (by rw [HL1.out]; rfl) HZC.out HO1.out ?_; intro W2 hB2 hA15 hO2 hz2; have h02 := HG1.out.trans (hB2.mono hs1); have HG2 := Lib.hid h02; have HA15 := Lib.hid hA15; have c11 := (HA11.out.below h02 (by omega)).cell (i := 0) rfl; have hz15 : W1.heap.size < W2.heap.size := Nat.lt_of_lt_of_le hza hz2; clear hB2 hA15 hO2 h02 hBa hDa))
  refine (HC2.out _ (HB0.out.trans (HG2.out.mono (by omega)))).mono ?_
  rintro e W3 ⟨rfl, hb3⟩
  have hs3 := hb3.size
  have HG3 := Lib.hid (HG2.out.trans (hb3.mono HG2.out.size))
  have HA15b := Lib.hid (HA15.out.below hb3 hz15)
  clear hb3 c11 HA15
  by_cases hE : E = 0
  · subst hE
    by_cases hF : F = 0
    · subst hF
      by_cases hB1 : B1 = false
      · subst hB1
        go_wp2_with (first
          | (refine wpList_world (fun W => Below W3.heap.size W3 W ∧ Arr W W3.heap.size (cells8 (List.replicate 32 0)) ∧ W3.heap.size < W.heap.size) ⟨by go_grown, Arr.new W3 _ 30, by simp⟩ ?_; rintro Wa ⟨hBa, hDa, hza⟩)
          | (refine store_new2 rfl 30 _ _ (by rfl) W3.heap.size W3.heap.size dd _ (by rfl) (by rfl) hBa (Nat.le_refl _) hDa (by rw [HL2.out]; rfl) HZD.out HO2.out ?_; intro W4 hB4 hA17 hO4 hz4; have h04 := HG3.out.trans (hB4.mono HG3.out.size); have HB4 := Lib.hid (HB0.out.trans (h04.mono (by omega))); have HA17 := Lib.hid hA17; have HA15 := Lib.hid (HA15b.out.below hB4 (by omega)); have hz17 : W3.heap.size < W4.heap.size := Nat.lt_of_lt_of_le hza hz4; have HA12 := Lib.hid (HA12.out.below h04 (by omega)); have HA13 := Lib.hid (HA13.out.below h04 (by omega)); have c12 := HA12.out.cell (i := 0) rfl; have f12 := HA12.out.frozen (i := 0) (by simp); have c13 := HA13.out.cell (i := 0) rfl; have f13 := HA13.out.frozen (i := 0) (by simp); clear hB4 hA17 hO4 h04 hBa hDa)
          | (refine wpList_wanted (by rfl) ?_; refine wp_load_mid 30 (.tmp 15) (by rfl) W1.heap.size 0 (by rfl) cc _ HA15.out.at_ Tryd.underlying30 rfl HZC.out ?_; simp only [Act.put, List.setIfInBounds_toArray, List.set_cons_zero, List.set_cons_succ])
          | (refine wpList_wanted (by rfl) ?_; refine wp_load_mid 30 (.tmp 17) (by rfl) W3.heap.size 0 (by rfl) dd _ HA17.out.at_ Tryd.underlying30 rfl HZD.out ?_; simp only [Act.put, List.setIfInBounds_toArray, List.set_cons_zero, List.set_cons_succ])
          | (go_at_call 56; with_reducible refine (HEQ.out _ HB4.out).mono ?_; rintro e W5 ⟨rfl, rfl⟩))
        have q12 := ((HA12.out.set 0 (.slice none 0 0)).other (show w.heap.size + 1 + 1 ≠ w.heap.size + 1 + 1 + 1 by omega) 0 (.slice none 0 0)).cell (i := 0) rfl
        have q13 := ((HA13.out.other (show w.heap.size + 1 + 1 + 1 ≠ w.heap.size + 1 + 1 by omega) 0 (.slice none 0 0)).set 0 (.slice none 0 0)).cell (i := 0) rfl
        rw [Exit.noGoto_ret]
        refine bodyPost_ret (v := .tuple #[.slice none 0 0, .slice none 0 0, .bool false]) (by simp [results, Tryd.results25, go_sem, q12, q13]) rfl ?_
        exact ⟨rfl, (HB4.out.setCell (p := ⟨w.heap.size + 1 + 1, 0, none⟩) (by show w.heap.size ≤ w.heap.size + 1 + 1; omega) _).setCell (p := ⟨w.heap.size + 1 + 1 + 1, 0, none⟩) (by show w.heap.size ≤ w.heap.size + 1 + 1 + 1; omega) _⟩
      · have hB1' : B1 = true := by simpa using hB1
        subst hB1'
        obtain rfl : B2 = true := by simpa using hno2
        clear hno2
        go_wp2_with (first
          | (refine wpList_world (fun W => Below W3.heap.size W3 W ∧ Arr W W3.heap.size (cells8 (List.replicate 32 0)) ∧ W3.heap.size < W.heap.size) ⟨by go_grown, Arr.new W3 _ 30, by simp⟩ ?_; rintro Wa ⟨hBa, hDa, hza⟩)
          | (refine store_new2 rfl 30 _ _ (by rfl) W3.heap.size W3.heap.size dd _ (by rfl) (by rfl) hBa (Nat.le_refl _) hDa (by rw [HL2.out]; rfl) HZD.out HO2.out ?_; intro W4 hB4 hA17 hO4 hz4; have h04 := HG3.out.trans (hB4.mono HG3.out.size); have HB4 := Lib.hid (HB0.out.trans (h04.mono (by omega))); have HA17 := Lib.hid hA17; have HA15 := Lib.hid (HA15b.out.below hB4 (by omega)); have hz17 : W3.heap.size < W4.heap.size := Nat.lt_of_lt_of_le hza hz4; have HA12 := Lib.hid (HA12.out.below h04 (by omega)); have HA13 := Lib.hid (HA13.out.below h04 (by omega)); have c12 := HA12.out.cell (i := 0) rfl; have f12 := HA12.out.frozen (i := 0) (by simp); have c13 := HA13.out.cell (i := 0) rfl; have f13 := HA13.out.frozen (i := 0) (by simp); clear hB4 hA17 hO4 h04 hBa hDa)
          | (refine wpList_wanted (by rfl) ?_; refine wp_load_mid 30 (.tmp 15) (by rfl) W1.heap.size 0 (by rfl) cc _ HA15.out.at_ Tryd.underlying30 rfl HZC.out ?_; simp only [Act.put, List.setIfInBounds_toArray, List.set_cons_zero, List.set_cons_succ])
          | (refine wpList_wanted (by rfl) ?_; refine wp_load_mid 30 (.tmp 17) (by rfl) W3.heap.size 0 (by rfl) dd _ HA17.out.at_ Tryd.underlying30 rfl HZD.out ?_; simp only [Act.put, List.setIfInBounds_toArray, List.set_cons_zero, List.set_cons_succ])
          | (go_at_call 56; with_reducible refine (HEQ.out _ HB4.out).mono ?_; rintro e W5 ⟨rfl, rfl⟩))
        have q12 := ((HA12.out.set 0 (.slice none 0 0)).other (show w.heap.size + 1 + 1 ≠ w.heap.size + 1 + 1 + 1 by omega) 0 (.slice none 0 0)).cell (i := 0) rfl
        have q13 := ((HA13.out.other (show w.heap.size + 1 + 1 + 1 ≠ w.heap.size + 1 + 1 by omega) 0 (.slice none 0 0)).set 0 (.slice none 0 0)).cell (i := 0) rfl
        rw [Exit.noGoto_ret]
        refine bodyPost_ret (v := .tuple #[.slice none 0 0, .slice none 0 0, .bool false]) (by simp [results, Tryd.results25, go_sem, q12, q13]) rfl ?_
        exact ⟨rfl, (HB4.out.setCell (p := ⟨w.heap.size + 1 + 1, 0, none⟩) (by show w.heap.size ≤ w.heap.size + 1 + 1; omega) _).setCell (p := ⟨w.heap.size + 1 + 1 + 1, 0, none⟩) (by show w.heap.size ≤ w.heap.size + 1 + 1 + 1; omega) _⟩
    · clear hno2
      have e1 : decide (F = 0) = false := by simp [hF]
      have e2 : (F == 0) = false := by simp [hF]
      have e3 : (F != 0) = true := by simp [hF]
      go_wp2_with (first
        | (refine wpList_world (fun W => Below W3.heap.size W3 W ∧ Arr W W3.heap.size (cells8 (List.replicate 32 0)) ∧ W3.heap.size < W.heap.size) ⟨by go_grown, Arr.new W3 _ 30, by simp⟩ ?_; rintro Wa ⟨hBa, hDa, hza⟩)
        | (refine store_new2 rfl 30 _ _ (by rfl) W3.heap.size W3.heap.size dd _ (by rfl) (by rfl) hBa (Nat.le_refl _) hDa (by rw [HL2.out]; rfl) HZD.out HO2.out ?_; intro W4 hB4 hA17 hO4 hz4; have h04 := HG3.out.trans (hB4.mono HG3.out.size); have HB4 := Lib.hid (HB0.out.trans (h04.mono (by omega))); have HA17 := Lib.hid hA17; have HA15 := Lib.hid (HA15b.out.below hB4 (by omega)); have hz17 : W3.heap.size < W4.heap.size := Nat.lt_of_lt_of_le hza hz4; have HA12 := Lib.hid (HA12.out.below h04 (by omega)); have HA13 := Lib.hid (HA13.out.below h04 (by omega)); have c12 := HA12.out.cell (i := 0) rfl; have f12 := HA12.out.frozen (i := 0) (by simp); have c13 := HA13.out.cell (i := 0) rfl; have f13 := HA13.out.frozen (i := 0) (by simp); clear hB4 hA17 hO4 h04 hBa hDa)
        | (refine wpList_wanted (by rfl) ?_; refine wp_load_mid 30 (.tmp 15) (by rfl) W1.heap.size 0 (by rfl) cc _ HA15.out.at_ Tryd.underlying30 rfl HZC.out ?_; simp only [Act.put, List.setIfInBounds_toArray, List.set_cons_zero, List.set_cons_succ])
        | (refine wpList_wanted (by rfl) ?_; refine wp_load_mid 30 (.tmp 17) (by rfl) W3.heap.size 0 (by rfl) dd _ HA17.out.at_ Tryd.underlying30 rfl HZD.out ?_; simp only [Act.put, List.setIfInBounds_toArray, List.set_cons_zero, List.set_cons_succ])
        | (go_at_call 56; with_reducible refine (HEQ.out _ HB4.out).mono ?_; rintro e W5 ⟨rfl, rfl⟩))
      have q12 := ((HA12.out.set 0 (.slice none 0 0)).other (show w.heap.size + 1 + 1 ≠ w.heap.size + 1 + 1 + 1 by omega) 0 (.slice none 0 0)).cell (i := 0) rfl
      have q13 := ((HA13.out.other (show w.heap.size + 1 + 1 + 1 ≠ w.heap.size + 1 + 1 by omega) 0 (.slice none 0 0)).set 0 (.slice none 0 0)).cell (i := 0) rfl
      rw [Exit.noGoto_ret]
      refine bodyPost_ret (v := .tuple #[.slice none 0 0, .slice none 0 0, .bool false]) (by simp [results, Tryd.results25, go_sem, q12, q13]) rfl ?_
      exact ⟨rfl, (HB4.out.setCell (p := ⟨w.heap.size + 1 + 1, 0, none⟩) (by show w.heap.size ≤ w.heap.size + 1 + 1; omega) _).setCell (p := ⟨w.heap.size + 1 + 1 + 1, 0, none⟩) (by show w.heap.size ≤ w.heap.size + 1 + 1 + 1; omega) _⟩
  · clear hno2
    have e1 : decide (E = 0) = false := by simp [hE]
    have e2 : (E == 0) = false := by simp [hE]
    have e3 : (E != 0) = true := by simp [hE]
    go_wp2_with (first
      | (refine wpList_world (fun W => Below W3.heap.size W3 W ∧ Arr W W3.heap.size (cells8 (List.replicate 32 0)) ∧ W3.heap.size < W.heap.size) ⟨by go_grown, Arr.new W3 _ 30, by simp⟩ ?_; rintro Wa ⟨hBa, hDa, hza⟩)
      | (refine store_new2 rfl 30 _ _ (by rfl) W3.heap.size W3.heap.size dd _ (by rfl) (by rfl) hBa (Nat.le_refl _) hDa (by rw [HL2.out]; rfl) HZD.out HO2.out ?_; intro W4 hB4 hA17 hO4 hz4; have h04 := HG3.out.trans (hB4.mono HG3.out.size); have HB4 := Lib.hid (HB0.out.trans (h04.mono (by omega))); have HA17 := Lib.hid hA17; have HA15 := Lib.hid (HA15b.out.below hB4 (by omega)); have hz17 : W3.heap.size < W4.heap.size := Nat.lt_of_lt_of_le hza hz4; have HA12 := Lib.hid (HA12.out.below h04 (by omega)); have HA13 := Lib.hid (HA13.out.below h04 (by omega)); have c12 := HA12.out.cell (i := 0) rfl; have f12 := HA12.out.frozen (i := 0) (by simp); have c13 := HA13.out.cell (i := 0) rfl; have f13 := HA13.out.frozen (i := 0) (by simp); clear hB4 hA17 hO4 h04 hBa hDa)
      | (refine wpList_wanted (by rfl) ?_; refine wp_load_mid 30 (.tmp 15) (by rfl) W1.heap.size 0 (by rfl) cc _ HA15.out.at_ Tryd.underlying30 rfl HZC.out ?_; simp only [Act.put, List.setIfInBounds_toArray, List.set_cons_zero, List.set_cons_succ])
      | (refine wpList_wanted (by rfl) ?_; refine wp_load_mid 30 (.tmp 17) (by rfl) W3.heap.size 0 (by rfl) dd _ HA17.out.at_ Tryd.underlying30 rfl HZD.out ?_; simp only [Act.put, List.setIfInBounds_toArray, List.set_cons_zero, List.set_cons_succ])
      | (go_at_call 56; with_reducible refine (HEQ.out _ HB4.out).mono ?_; rintro e W5 ⟨rfl, rfl⟩))
    have q12 := ((HA12.out.set 0 (.slice none 0 0)).other (show w.heap.size + 1 + 1 ≠ w.heap.size + 1 + 1 + 1 by omega) 0 (.slice none 0 0)).cell (i := 0) rfl
    have q13 := ((HA13.out.other (show w.heap.size + 1 + 1 + 1 ≠ w.heap.size + 1 + 1 by omega) 0 (.slice none 0 0)).set 0 (.slice none 0 0)).cell (i := 0) rfl
    rw [Exit.noGoto_ret]
    refine bodyPost_ret (v := .tuple #[.slice none 0 0, .slice none 0 0, .bool false]) (by simp [results, Tryd.results25, go_sem, q12, q13]) rfl ?_
    exact ⟨rfl, (HB4.out.setCell (p := ⟨w.heap.size + 1 + 1, 0, none⟩) (by show w.heap.size ≤ w.heap.size + 1 + 1; omega) _).setCell (p := ⟨w.heap.size + 1 + 1 + 1, 0, none⟩) (by show w.heap.size ≤ w.heap.size + 1 + 1 + 1; omega) _⟩
end Go.Proofs.YtfmngeemhfpeiaaDoor
