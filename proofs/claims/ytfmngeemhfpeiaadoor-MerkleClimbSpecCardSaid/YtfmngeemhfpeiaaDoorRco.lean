/- merkle's reference: Collide. -/
import Derived.Test.YtfmngeemhfpeiaaDoorRcl
namespace Go.Proofs.YtfmngeemhfpeiaaDoor
open Go.RowKit

set_option maxRecDepth 100000 in
set_option maxHeartbeats 8000000 in
theorem rcollide_no (w : World) (n i : Int) (v u pv qv : Value) (a b : List UInt8) (p q : List (List UInt8)) (hv : BytesAt w w.heap.size v a) (hu : BytesAt w w.heap.size u b) (ha : a.length ≤ 800000) (hb : b.length ≤ 800000) (hp : Digs w w.heap.size pv p) (hq : Digs w w.heap.size qv q)
    (hno : ¬ ((climbR n i a p).2 = 0 ∧ (climbR n i b q).2 = 0 ∧ (climbR n i a p).1 = (climbR n i b q).1 ∧ a ≠ b)) :
    Calls Tryd.prog 26 #[.int .i64 n, .int .i64 i, v, u, pv, qv] w fun e w' => e = .returned (.tuple #[.slice none 0 0, .slice none 0 0, .bool false]) ∧ Below w.heap.size w w' := by
  have HC1 := Lib.hid (fun (W : World) (hW : Below w.heap.size w W) => rclimb_any W n i v pv a p ((hv.below hW).mono hW.size) ha (digs_at hp hW))
  have HC2 := Lib.hid (fun (W : World) (hW : Below w.heap.size w W) => rclimb_any W n i u qv b q ((hu.below hW).mono hW.size) hb (digs_at hq hW))
  have HVA := Lib.hid hv
  have HVB := Lib.hid hu
  obtain ⟨va, vc, rfl⟩ : ∃ x c, v = .slice x a.length c := by obtain ⟨x, c, rfl, _⟩ := hv; exact ⟨x, c, rfl⟩
  obtain ⟨ua, uc, rfl⟩ : ∃ x c, u = .slice x b.length c := by obtain ⟨x, c, rfl, _⟩ := hu; exact ⟨x, c, rfl⟩
  obtain ⟨pa, pn, pc, rfl⟩ : ∃ x n c, pv = .slice x n c := by obtain ⟨_, x, c, e, _⟩ := hp; exact ⟨x, _, c, e⟩
  obtain ⟨qa, qn, qc, rfl⟩ : ∃ x n c, qv = .slice x n c := by obtain ⟨_, x, c, e, _⟩ := hq; exact ⟨x, _, c, e⟩
  obtain ⟨NA, hNA⟩ : ∃ x, a.length = x := ⟨_, rfl⟩
  obtain ⟨NB, hNB⟩ : ∃ x, b.length = x := ⟨_, rfl⟩
  rw [hNA] at HC1 HVA ⊢
  rw [hNB] at HC2 HVB ⊢
  have HNA := Lib.hid hNA
  have HNB := Lib.hid hNB
  obtain ⟨E, hE⟩ : ∃ x, (climbR n i a p).2 = x := ⟨_, rfl⟩
  obtain ⟨F, hF⟩ : ∃ x, (climbR n i b q).2 = x := ⟨_, rfl⟩
  have hl1 := climbR_len n i a p
  have hl2 := climbR_len n i b q
  have heq := fun W : World => dig_eq (climbR n i a p).1 (climbR n i b q).1 hl1 hl2 W
  simp only [dv_eq] at heq
  obtain ⟨c1, hc1⟩ : ∃ x, (climbR n i a p).1 = x := ⟨_, rfl⟩
  obtain ⟨c2, hc2⟩ : ∃ x, (climbR n i b q).1 = x := ⟨_, rfl⟩
  rw [hc1, hc2] at heq
  rw [hc1] at hl1
  rw [hc2] at hl2
  rw [hE, hc1] at HC1
  rw [hF, hc2] at HC2
  rw [hE, hF, hc1, hc2] at hno
  have HL1 : Hid ((cells8 c1).length = 32) := Lib.hid (by rw [cells8_len, hl1])
  have HL2 : Hid ((cells8 c2).length = 32) := Lib.hid (by rw [cells8_len, hl2])
  have HO1 : Hid (∀ v ∈ cells8 c1, v.oneCell' = true) := Lib.hid (one_cells8 c1)
  have HO2 : Hid (∀ v ∈ cells8 c2, v.oneCell' = true) := Lib.hid (one_cells8 c2)
  obtain ⟨cc, hcc⟩ : ∃ x, cells8 c1 = x := ⟨_, rfl⟩
  obtain ⟨dd, hdd⟩ : ∃ x, cells8 c2 = x := ⟨_, rfl⟩
  rw [hcc] at HC1 heq HL1 HO1
  rw [hdd] at HC2 heq HL2 HO2
  have HZC : Hid ((Tryd.prog.info? 30).map (·.size) = some cc.length) := Lib.hid (by rw [HL1.out]; exact Tryd.info30)
  have HZD : Hid ((Tryd.prog.info? 30).map (·.size) = some dd.length) := Lib.hid (by rw [HL2.out]; exact Tryd.info30)
  have HHEQ := Lib.hid heq
  clear hv hu hp hq hNA hNB hE hF hc1 hc2 hl1 hl2 hcc hdd heq
  go_enter Tryd.func26, Tryd.ntmps26
  go_wp2_with fail
  refine (HC1.out w (Below.refl _ _)).mono ?_
  rintro e w1 ⟨rfl, hb1⟩
  have HB1 := Lib.hid hb1
  clear hb1
  go_wp2_with (first
    | (refine wpList_world (fun X => Below w1.heap.size w1 X ∧ Arr X w1.heap.size (cells8 (List.replicate 32 0)) ∧ w1.heap.size < X.heap.size) ⟨by go_grown, Arr.new w1 _ 30, by simp⟩ ?_; rintro Xa ⟨hBa, hDa, hza⟩)
    | (refine store_new2 rfl 30 _ _ (by rfl) w1.heap.size w1.heap.size cc _ (by rfl) (by rfl) hBa (Nat.le_refl _) hDa (by rw [HL1.out]; rfl) HZC.out HO1.out ?_; intro w2 hB hA hO hz; have HB2 := Lib.hid (HB1.out.trans (hB.mono HB1.out.size)); have HA2 := Lib.hid hA; have hz2 : w1.heap.size < w2.heap.size := Nat.lt_of_lt_of_le hza hz; clear hB hA hO hz hBa hDa hza))
  refine (HC2.out w2 HB2.out).mono ?_
  rintro e w3 ⟨rfl, hb3⟩
  have hs3 := hb3.size
  have HB3 := Lib.hid (HB2.out.trans (hb3.mono HB2.out.size))
  have HA3 := Lib.hid (HA2.out.below hb3 hz2)
  clear hb3
  go_upto_region 3 with (first
    | (refine wpList_world (fun X => Below w3.heap.size w3 X ∧ Arr X w3.heap.size (cells8 (List.replicate 32 0)) ∧ w3.heap.size < X.heap.size) ⟨by go_grown, Arr.new w3 _ 30, by simp⟩ ?_; rintro Xa ⟨hBa, hDa, hza⟩)
    | (refine store_new2 rfl 30 _ _ (by rfl) w3.heap.size w3.heap.size dd _ (by rfl) (by rfl) hBa (Nat.le_refl _) hDa (by rw [HL2.out]; rfl) HZD.out HO2.out ?_; intro w5 hB hA hO hz; have HB5 := Lib.hid (HB3.out.trans (hB.mono HB3.out.size)); have HA5 := Lib.hid hA; have HA4 := Lib.hid (HA3.out.below hB (by omega)); have hz5 : w3.heap.size < w5.heap.size := Nat.lt_of_lt_of_le hza hz; clear hB hA hO hz hBa hDa hza))
  have hno2 : E ≠ 0 ∨ F ≠ 0 ∨ c1 ≠ c2 ∨ a = b := by
    by_cases h1 : E = 0
    · by_cases h2 : F = 0
      · by_cases h3 : c1 = c2
        · by_cases h4 : a = b
          · exact .inr (.inr (.inr h4))
          · exact absurd ⟨h1, h2, h3, h4⟩ hno
        · exact .inr (.inr (.inl h3))
      · exact .inr (.inl h2)
    · exact .inl h1
  clear hno
  by_cases hE : E = 0
  · subst hE
    by_cases hF : F = 0
    · subst hF
      by_cases hcd : c1 = c2
      · obtain rfl : a = b := (hno2.resolve_left (by simp)).resolve_left (by simp) |>.resolve_left (by simp [hcd])
        clear hno2
        have heq := HHEQ.out
        rw [hcd] at heq
        simp only [decide_true] at heq
        have hcvA := conv_of (HVA.out.below HB5.out) HNA.out
        have hcvB := conv_of (HVB.out.below HB5.out) HNB.out
        go_wp2_with (first
          | (refine wpList_wanted (by rfl) ?_; refine wp_load_mid 30 (.tmp 15) (by rfl) w1.heap.size 0 (by rfl) cc _ HA4.out.at_ Tryd.underlying30 rfl HZC.out ?_; simp only [Act.put, List.setIfInBounds_toArray, List.set_cons_zero, List.set_cons_succ])
          | (refine wpList_wanted (by rfl) ?_; refine wp_load_mid 30 (.tmp 17) (by rfl) w3.heap.size 0 (by rfl) dd _ HA5.out.at_ Tryd.underlying30 rfl HZD.out ?_; simp only [Act.put, List.setIfInBounds_toArray, List.set_cons_zero, List.set_cons_succ]))
        go_returns
        exact ⟨rfl, HB5.out⟩
      · clear hno2
        have heq := HHEQ.out
        have hd : decide (c1 = c2) = false := by simpa using hcd
        rw [hd] at heq
        clear hd hcd
        go_wp2_with (first
          | (refine wpList_wanted (by rfl) ?_; refine wp_load_mid 30 (.tmp 15) (by rfl) w1.heap.size 0 (by rfl) cc _ HA4.out.at_ Tryd.underlying30 rfl HZC.out ?_; simp only [Act.put, List.setIfInBounds_toArray, List.set_cons_zero, List.set_cons_succ])
          | (refine wpList_wanted (by rfl) ?_; refine wp_load_mid 30 (.tmp 17) (by rfl) w3.heap.size 0 (by rfl) dd _ HA5.out.at_ Tryd.underlying30 rfl HZD.out ?_; simp only [Act.put, List.setIfInBounds_toArray, List.set_cons_zero, List.set_cons_succ]))
        go_returns
        exact ⟨rfl, HB5.out⟩
    · clear hno2
      have e1 : decide (F = 0) = false := by simp [hF]
      have e2 : (F == 0) = false := by simp [hF]
      have e3 : (F != 0) = true := by simp [hF]
      clear hF
      go_wp2_with (first
        | (refine wpList_wanted (by rfl) ?_; refine wp_load_mid 30 (.tmp 15) (by rfl) w1.heap.size 0 (by rfl) cc _ HA4.out.at_ Tryd.underlying30 rfl HZC.out ?_; simp only [Act.put, List.setIfInBounds_toArray, List.set_cons_zero, List.set_cons_succ])
        | (refine wpList_wanted (by rfl) ?_; refine wp_load_mid 30 (.tmp 17) (by rfl) w3.heap.size 0 (by rfl) dd _ HA5.out.at_ Tryd.underlying30 rfl HZD.out ?_; simp only [Act.put, List.setIfInBounds_toArray, List.set_cons_zero, List.set_cons_succ]))
      go_returns
      exact ⟨rfl, HB5.out⟩
  · clear hno2
    have e1 : decide (E = 0) = false := by simp [hE]
    have e2 : (E == 0) = false := by simp [hE]
    have e3 : (E != 0) = true := by simp [hE]
    clear hE
    go_wp2_with (first
      | (refine wpList_wanted (by rfl) ?_; refine wp_load_mid 30 (.tmp 15) (by rfl) w1.heap.size 0 (by rfl) cc _ HA4.out.at_ Tryd.underlying30 rfl HZC.out ?_; simp only [Act.put, List.setIfInBounds_toArray, List.set_cons_zero, List.set_cons_succ])
      | (refine wpList_wanted (by rfl) ?_; refine wp_load_mid 30 (.tmp 17) (by rfl) w3.heap.size 0 (by rfl) dd _ HA5.out.at_ Tryd.underlying30 rfl HZD.out ?_; simp only [Act.put, List.setIfInBounds_toArray, List.set_cons_zero, List.set_cons_succ]))
    go_returns
    exact ⟨rfl, HB5.out⟩
end Go.Proofs.YtfmngeemhfpeiaaDoor
