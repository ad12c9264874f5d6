/- The law DigestTags, walked. -/
import Derived.Test.YtnddejhbncgchaaDoorEqd
namespace Go.Proofs.YtnddejhbncgchaaDoor
open Go.RowKit


set_option maxRecDepth 100000 in
set_option maxHeartbeats 4000000 in
theorem lawTags (w : World) (s : ByteArray) (v : Value) (b : List UInt8) (hv : BytesAt w w.heap.size v b) (hsm : s.size ≤ maxLen) (hT : Tab w) (h0 : 0 < w.heap.size) :
    Calls Tryd.prog 5 #[.string s, v] w fun e w' => e = .returned (.bool true) ∧ Below w.heap.size w w' := by
  obtain ⟨i0, hi, hz0, hz1, hz2⟩ := info_parts Tryd.infoU8
  obtain ⟨n, hn⟩ : ∃ n, b.length = n := ⟨_, rfl⟩
  have hv' := hv
  obtain ⟨a, cap, rfl, hnc, hcm, _⟩ := hv'
  rw [hn] at hv hnc ⊢
  unfold maxLen at hcm hsm
  have HV := Lib.hid hv
  have HT := Lib.hid hT
  have HN := Lib.hid hn
  have HSN := Lib.hid (sane_any w hT h0)
  clear hv hT hn
  by_cases hs6 : s.size ≤ 600
  · by_cases hn6 : n ≤ 600
    · have d1 : decide (600 < (s.size : Int)) = false := by simp; omega
      have d2 : decide (600 < (n : Int)) = false := by simp; omega
      go_enter Tryd.func5, Tryd.ntmps5
      go_wp2_with fail
      refine HSN.out.mono ?_
      rintro e w0 ⟨rfl, hB0⟩
      have HB0 := Lib.hid hB0
      clear hB0
      have hcv := fun (W : World) => Lib.run_convert_string_bytes (P := Tryd.prog) W 9 22 5 s Tryd.underlying9 Tryd.underlying22 Tryd.underlying5
      go_wp2_with fail
      have hls : s.data.toList.length = s.size := by rw [Array.length_toList]; rfl
      refine (sum_any _ _ s.data.toList (bytesWorld_row w0 s _ (grownCap_ge _ _ _ _) (grownCap_le_maxLen _ _ _ _ (by unfold maxLen; omega))) (by rw [hls]; omega)
        (HT.out.below (HB0.out.trans ((bytesWorld_below w0 s).mono HB0.out.size)) h0) (by rw [Lib.bytesWorld_size]; omega)).mono ?_
      rintro e w2 ⟨rfl, hB2⟩
      have hBw2 : Below w.heap.size w w2 := (HB0.out.trans ((bytesWorld_below w0 s).mono HB0.out.size)).trans (hB2.mono (by rw [Lib.bytesWorld_size]; have := HB0.out.size; omega))
      have HBW2 := Lib.hid hBw2
      clear hB2 hBw2 hcv hls
      rw [dv_eq]
      obtain ⟨cs, hcs⟩ : ∃ cs, cells8 (sha s.data.toList) = cs := ⟨_, rfl⟩
      have hcl : cs.length = 32 := by rw [← hcs, cells8_len, sha_len]
      have ho1 : ∀ v ∈ cs, v.oneCell' = true := by rw [← hcs]; exact one_cells8 _
      rw [hcs]
      have HZ1 : Hid ((Tryd.prog.info? 26).map (·.size) = some cs.length) := by show _ = _; rw [hcl]; exact Tryd.info26
      have HO1 := Lib.hid ho1
      have HCL := Lib.hid hcl
      have HCS := Lib.hid hcs
      clear hcl ho1 hcs
      go_wp2_with (refine store_new rfl 26 _ _ (by rfl) w2.heap.size w2.heap.size cs _ (by rfl) (by rfl) ((Below.refl w2.heap.size w2).alloc (Nat.le_refl _) _) (Nat.le_refl _) (Arr.new w2 _ 26) (by rw [HCL.out]; rfl) HZ1.out HO1.out ?_; intro W3 hB3 hA3 hz3)
      have hz3' : w2.heap.size < W3.heap.size := by simp at hz3; omega
      have hk3 : Below w.heap.size w W3 := HBW2.out.trans (hB3.mono HBW2.out.size)
      have htr : ∀ W, Kept W3 W → W.rangeAt w2.heap.size 0 cs := fun W hW => (hA3.below hW hz3').at_
      obtain ⟨cr, hcr⟩ : ∃ cr, cells8 (tagged s.data.toList b) = cr := ⟨_, rfl⟩
      have htg : ∀ W, Kept W3 W → Calls Tryd.prog 14 #[.string s, .slice a n cap] W fun e w' => e = .returned (.agg cr.toArray) ∧ Kept W3 w' ∧ Below W.heap.size W w' := fun W hW => by
        have hkW : Below w.heap.size w W := hk3.trans (hW.below.mono hk3.size)
        have h := tagged_any W s _ b (bytesAt_any HV.out hkW) (by omega) (by rw [HN.out]; omega) (HT.out.below hkW h0) (by have := hkW.size; omega)
        rw [dv_eq, hcr] at h
        exact h.mono fun e w' h => ⟨h.1, hW.next h.2, h.2⟩
      have hsm2 : ∀ W g cap2, Kept W3 W → W.ownsRow W3.heap.size 5 1 (.slice (some ⟨g, 0, none⟩) (32 + n) cap2) (32 + n) (cs ++ cells8 b) → Calls Tryd.prog 12 #[.slice (some ⟨g, 0, none⟩) (32 + n) cap2] W fun e w' => e = .returned (.agg cr.toArray) ∧ Kept W3 w' ∧ Below W.heap.size W w' := fun W g cap2 hW hO => by
        have hkW : Below w.heap.size w W := hk3.trans (hW.below.mono hk3.size)
        have hsp : Spare W 0 g (32 + n) cap2 (sha s.data.toList ++ b) := by
          have he : cells8 (sha s.data.toList ++ b) = cs ++ cells8 b := by rw [← HCS.out]; simp [cells8]
          unfold Spare; rw [he]
          exact ⟨hO.1, hO.2.imp id fun ⟨g, cap, cur, h1, _, h2⟩ => ⟨g, cap, cur, h1, Nat.zero_le _, h2⟩⟩
        have h := sum_any W _ (sha s.data.toList ++ b) hsp.row (by rw [List.length_append, sha_len, HN.out]; omega) (HT.out.below hkW h0) (by have := hkW.size; omega)
        rw [dv_eq, show cells8 (sha (sha s.data.toList ++ b)) = cr from hcr] at h
        exact h.mono fun e w' h => ⟨h.1, hW.next h.2, h.2⟩
      have hkg : ∀ W W' k, Kept W3 W → W3.heap.size ≤ k → W.grownBy W' (some k) → Kept W3 W' := fun W W' k hW hk hg => Below.grown hW.below hg hW.below.size (fun k' hk' => by cases hk'; exact hk)
      have hpv : ∀ W, Kept W3 W → Piece W (.slice a n cap) n (cells8 b) := fun W hW => by
        have := piece_bytes (HV.out.below (hk3.trans (hW.below.mono hk3.size)))
        rwa [HN.out] at this
      have hpt : ∀ W, Kept W3 W → Piece W (.slice (some ⟨w2.heap.size, 0, none⟩) 32 32) 32 cs := fun W hW => piece_row (htr W hW)
      have hq1 : ∀ W : World, (Op.equalIn 10000 26 (.agg cr.toArray) (.agg cr.toArray)).run Tryd.prog W = .ok true W := fun W => by
        have h := eq_any (tagged s.data.toList b) (tagged_len _ _) W
        rw [dv_eq, hcr] at h; exact h
      have hg26 : Tryd.prog.eqGuardType Tryd.prog.depth 26 = false := by kernel_rfl
      have HTG := Lib.hid htg
      have HSM := Lib.hid hsm2
      have HKG := Lib.hid hkg
      have HPV := Lib.hid hpv
      have HPT := Lib.hid hpt
      have HK3 := Lib.hid hk3
      clear htg hsm2 hkg hpv hpt hk3 htr hcr hA3 hB3 hz3 hz3'
      go_region_held3 (fun W => Kept W3 W) (first | assumption | exact Kept.drew (Kept.refl _) | exact Kept.drew (by assumption) | exact Kept.alloc (by assumption) _ | exact Kept.alloc (Kept.drew (Kept.refl _)) _ | exact HKG.out _ _ _ (by assumption) hg2 hgr2 | exact HKG.out _ _ _ (by assumption) hg1 hgr1)
        (first
          | (go_at_call 14; with_reducible (refine (HTG.out _ (by assumption)).mono ?_); rintro e w14 ⟨rfl, hK14, hb14⟩)
          | (go_at_call 12; with_reducible (refine (HSM.out _ _ _ (by assumption) hown2).mono ?_); rintro e w12 ⟨rfl, hK12, hb12⟩)
          | (go_at_call 12; with_reducible (refine (HSM.out _ _ _ (by assumption) (own_after hb14 hown2)).mono ?_); rintro e w12 ⟨rfl, hK12, hb12⟩)
          | (refine step_piece 22 5 i0 _ 1 1 Tryd.underlying22 hi hz0 hz1 hz2 rfl (by omega) (by rfl) (.tmp 22) (.tmp 23) (by rfl) (base := W3.heap.size) (by rfl) (World.ownsRow_made _ #[] 0 (by first | exact hK14.below.size | exact Nat.le_refl _) (by unfold maxLen; omega) rfl) (by rfl) (HPT.out _ (by assumption)) (by rw [HCL.out]) HO1.out (by unfold maxLen; omega) (by omega) (by have h : Kept W3 _ := (by assumption); exact h.below.size) ?_; intro hg1 g1 cap1 w1 hown1 hgr1)
          | (refine step_piece 22 5 i0 _ 1 1 Tryd.underlying22 hi hz0 hz1 hz2 rfl (by omega) (by rfl) (.tmp 22) (.tmp 23) (by rfl) (base := W3.heap.size) (by rfl) (own_after hb14 (World.ownsRow_made _ #[] 0 (Nat.le_refl _) (by unfold maxLen; omega) rfl)) (by rfl) (HPT.out _ (by assumption)) (by rw [HCL.out]) HO1.out (by unfold maxLen; omega) (by omega) hK14.below.size ?_; intro hg1 g1 cap1 w1 hown1 hgr1)
          | (refine step_piece 22 5 i0 _ 1 1 Tryd.underlying22 hi hz0 hz1 hz2 rfl (by omega) (by rfl) (.tmp 24) (.tmp 25) (by rfl) (base := W3.heap.size) (by rfl) hown1 (by rfl) (HPV.out _ (by assumption)) (by rw [cells8_len, HN.out]; omega) (one_cells8 _) (by unfold maxLen; omega) (by omega) (by have h : Kept W3 _ := (by assumption); exact h.below.size) ?_; intro hg2 g2 cap2 w4 hown2 hgr2)
          | (refine step_piece 22 5 i0 _ 1 1 Tryd.underlying22 hi hz0 hz1 hz2 rfl (by omega) (by rfl) (.tmp 24) (.tmp 25) (by rfl) (base := W3.heap.size) (by rfl) (own_after hb14 hown1) (by rfl) (HPV.out _ (by assumption)) (by rw [cells8_len, HN.out]; omega) (one_cells8 _) (by unfold maxLen; omega) (by omega) hK14.below.size ?_; intro hg2 g2 cap2 w4 hown2 hgr2))
      all_goals
        go_wp2
        go_ret
        exact ⟨rfl, HK3.out.trans (hK12.below.mono HK3.out.size)⟩
    · have d1 : decide (600 < (s.size : Int)) = false := by simp; omega
      have d2 : decide (600 < (n : Int)) = true := by simp; omega
      go_enter Tryd.func5, Tryd.ntmps5
      go_wp2_with fail
      refine HSN.out.mono ?_
      rintro e w0 ⟨rfl, hB0⟩
      have HB0 := Lib.hid hB0
      clear hB0
      go_wp2
      go_ret
      exact ⟨rfl, HB0.out⟩
  · have d1 : decide (600 < (s.size : Int)) = true := by simp; omega
    go_enter Tryd.func5, Tryd.ntmps5
    go_wp2_with fail
    refine HSN.out.mono ?_
    rintro e w0 ⟨rfl, hB0⟩
    have HB0 := Lib.hid hB0
    clear hB0
    go_wp2
    go_ret
    exact ⟨rfl, HB0.out⟩
end Go.Proofs.YtnddejhbncgchaaDoor
