/- The law TextPieces, walked. -/
import Derived.Test.YtilkhamlhbbmgaaDoorGap
import Derived.Test.YtilkhamlhbbmgaaDoorLjn
namespace Go.Proofs.YtilkhamlhbbmgaaDoor
open Go.RowKit

theorem SRow.later {w : World} {v : Value} {l : List (List UInt8)} (h : SRow w w.heap.size v l) : ∃ a c, v = .slice a l.length c ∧ l.length ≤ c ∧ c ≤ maxLen ∧ ∀ W, Below w.heap.size w W → ∀ k (hk : k < l.length), ∃ b off, a = some ⟨b, off, none⟩ ∧ W.cell? ⟨b, off + k, none⟩ = some (.string (str l[k])) := by
  obtain ⟨a, c, rfl, hc, hm, h⟩ := h
  refine ⟨a, c, rfl, hc, by omega, fun W hW k hk => ?_⟩
  rcases h with rfl | ⟨b, off, rfl, hb, h⟩
  · simp at hk
  · exact ⟨b, off, rfl, (hW.cell (p := ⟨b, off + k, none⟩) hb).trans (h k hk)⟩
set_option maxRecDepth 100000 in
set_option maxHeartbeats 8000000 in
theorem lawPieces (w : World) (s0 : ByteArray) (v : Value) (g : List UInt8) (hv : BRow w w.heap.size v g) (hT : UTab w) : Calls Tryd.prog 8 #[.string s0, v] w fun e w' => e = .returned (.bool true) ∧ Below w.heap.size w w' := by
  obtain ⟨bs, rfl⟩ : ∃ bs, s0 = str bs := ⟨s0.data.toList, (str_of s0).symm⟩
  obtain ⟨A, hA⟩ : ∃ A, A = w.alloc (.cells #[v] 39) := ⟨_, rfl⟩
  have hbA : Below w.heap.size w A := by rw [hA]; exact below_alloc w _
  have hsA : A.heap.size = w.heap.size + 1 := by rw [hA]; simp
  have hTA : UTab A := hT.below hbA
  have hcA : A.cell? ⟨w.heap.size, 0, none⟩ = some v := by rw [hA, World.cell?_alloc_new]; rfl
  have HSN := Lib.hid (sane_any A hTA)
  have hsz := str_size bs
  have HS := Lib.hid (fun W (hW : Below A.heap.size A W) => split_any W bs (hTA.below hW))
  have HG := Lib.hid (fun W (hW : Below A.heap.size A W) (i : Nat) => gap_any W w.heap.size v g i ((hW.cell (p := ⟨w.heap.size, 0, none⟩) (by rw [hsA]; exact Nat.lt_succ_self _)).trans hcA) ((hv.below (hbA.trans (hW.mono hbA.size))).mono (hbA.trans (hW.mono hbA.size)).size))
  have HBA := Lib.hid hbA
  have HNO := Lib.hid (fun (h : rnsE bs ≠ 0) => sp_no h)
  have HYES := Lib.hid (fun (h : rnsE bs = 0) (hl : bs.length ≤ 1000) => pieces h hl (gapN g))
  have HSW := Lib.hid (fun W (hW : Below A.heap.size A W) (x : List UInt8) => split_any W x (hTA.below hW))
  have HWW := Lib.hid (fun W (hW : Below A.heap.size A W) (x : List UInt8) => word_any W x (hTA.below hW))
  obtain ⟨ss, hss⟩ : ∃ z, spV bs = z := ⟨_, rfl⟩
  obtain ⟨zE, hzE⟩ : ∃ z, rnsE bs = z := ⟨_, rfl⟩
  obtain ⟨n, hn⟩ : ∃ z, bs.length = z := ⟨_, rfl⟩
  obtain ⟨s, hs⟩ : ∃ s, str bs = s := ⟨_, rfl⟩
  rw [hs, hn] at hsz
  rw [hs, hss, hzE] at HS
  rw [hzE, hss] at HNO
  rw [hzE, hn, hss] at HYES
  rw [hA] at HSN
  rw [hs]
  rw [← hA] at HSN
  obtain ⟨a1, c1, e1, -⟩ := hv
  have hA1 := hA
  clear hss hzE hn hs hT hbA hcA hTA
  subst e1
  obtain ⟨m1, hm1⟩ : ∃ m, g.length = m := ⟨_, rfl⟩
  rw [hm1] at hA hA1 ⊢
  clear hm1
  rw [hA1] at HSN
  have HSN2 : Hid (Calls Tryd.prog 16 #[] (w.alloc (.cells #[.slice a1 m1 c1] 39)) fun e w' => e = .returned (.bool true) ∧ Below A.heap.size A w') := by rw [hA]; exact HSN
  clear HSN hA hA1
  by_cases h1000 : 1000 < n
  · have d1 : decide (1000 < (n : Int)) = true := by simp; omega
    clear h1000
    go_enter Tryd.func8, Tryd.ntmps8
    go_wp2_with fail
    (with_reducible refine (HSN2.out).mono ?_)
    rintro e w1 ⟨rfl, hb⟩
    have HB1 := Lib.hid hb
    clear hb
    go_wp2_with fail
    (with_reducible refine (HS.out w1 HB1.out).mono ?_)
    rintro e w2 ⟨v3, rfl, ho, hb⟩
    have Hs_2 := Lib.hid (SRow.of_own ho)
    have HB2 := Lib.hid (HB1.out.trans (hb.mono HB1.out.size))
    clear hb ho
    obtain ⟨a3, c3, e3, -⟩ := Hs_2.out
    subst e3
    go_wp2
    go_ret
    exact ⟨rfl, (HBA.out.trans (HB2.out.mono HBA.out.size))⟩
  · have d1 : decide (1000 < (n : Int)) = false := by simp; omega
    by_cases hz : zE = 0
    · subst hz
      obtain ⟨T, hT0, hT1, hT2, hT3⟩ := HYES.out rfl (by omega)
      have HT := Lib.hid hT1
      have HE2 := Lib.hid (fun W (hW : Below A.heap.size A W) => HSW.out W hW (T ss.length))
      rw [hT2, hT3] at HE2
      clear hT1 hT2 hT3 HYES HNO h1000
      obtain ⟨M, hM⟩ : ∃ M, ss.length = M := ⟨_, rfl⟩
      have HM := Lib.hid hM
      rw [hM] at hT0 HE2
      have HT0 : Hid (str (gB (gapN g M)) = str (T 0)) := Lib.hid (by rw [hT0])
      clear hM hT0
      go_enter Tryd.func8, Tryd.ntmps8
      go_wp2_with fail
      (with_reducible refine (HSN2.out).mono ?_)
      rintro e w1 ⟨rfl, hb⟩
      have HB1 := Lib.hid hb
      clear hb
      go_wp2_with fail
      (with_reducible refine (HS.out w1 HB1.out).mono ?_)
      rintro e w2 ⟨v3, rfl, ho, hb⟩
      have Hs_2 := Lib.hid (SRow.of_own ho)
      have HB2 := Lib.hid (HB1.out.trans (hb.mono HB1.out.size))
      clear hb ho
      have HS3 := Lib.hid Hs_2.out
      obtain ⟨a3, c3, e3, hc3, hm3, HC⟩ := Hs_2.out.later
      subst e3
      have HC := Lib.hid HC
      rw [HM.out] at hc3 ⊢
      rw [HM.out] at HS3
      unfold maxLen at hm3
      have HG0 := Lib.hid (HG.out w2 HB2.out M)
      rw [HT0.out] at HG0
      have HL : Hid (∀ k, k ≤ M → (str (T k)).size ≤ 3500 ∨ k = M) := Lib.hid (fun k hk => (by
        rcases Nat.lt_or_ge k M with h | h
        · left; rw [str_size]; exact (HT.out k (by rw [HM.out]; exact h)).2.1
        · right; omega))
      go_wp2_with fail
      (with_reducible refine HG0.out.mono ?_)
      rintro e w_ ⟨rfl, hw_⟩
      have hw2_ := hw_.symm
      subst hw2_
      clear hw_ HG0
      go_wp2_with fail
      go_loopw [8, 9, 10, 11, 12, 44] (fun s8 s9 s10 s11 s12 s44 wr => ∃ k : Nat, k ≤ M ∧ s44 = .int .i64 k ∧ s8 = .string (str (T k)) ∧ Hid (Below w2.heap.size w2 wr)) (fun _ _ _ _ _ s44 _ => M - (intOf s44).toNat)
      case atStart => exact ⟨0, Nat.zero_le _, rfl, rfl, Lib.hid (Below.refl _ _)⟩
      case round =>
        obtain ⟨k, hk, rfl, rfl, HBR⟩ := hrel
        by_cases hlt : k < M
        · have hkl : k < ss.length := by rw [HM.out]; exact hlt
          obtain ⟨b, off, rfl, hcell⟩ := HC.out wr HBR.out k hkl
          obtain ⟨ht1, ht2, ht3, ht4, ht5, ht6⟩ := HT.out k hkl
          have HBW := Lib.hid (HB2.out.trans (HBR.out.mono HB2.out.size))
          have HS1 := Lib.hid (HSW.out wr HBW.out ss[k])
          rw [ht4, ht5] at HS1
          have HW1 := Lib.hid (fun W hW => HWW.out W hW ss[k])
          rw [ht6] at HW1
          have HG1 := Lib.hid (fun W hW => HG.out W hW k)
          have hgl := g_len (gapN g k)
          obtain ⟨x, hx⟩ : ∃ x, ss[k] = x := ⟨_, rfl⟩
          rw [hx] at hcell HS1 HW1 ht1 ht3
          have hsx := str_size x
          have hsg := str_size (gB (gapN g k))
          have hst := str_size (T k)
          have hap1 := str_append x (gB (gapN g k))
          have hap2 := str_append (T k) (x ++ gB (gapN g k))
          have hsxg := str_size (x ++ gB (gapN g k))
          rw [List.length_append] at hsxg
          rw [← ht1] at hap2
          obtain ⟨sx, esx⟩ : ∃ z, str x = z := ⟨_, rfl⟩
          obtain ⟨sg, esg⟩ : ∃ z, str (gB (gapN g k)) = z := ⟨_, rfl⟩
          obtain ⟨sxg, esxg⟩ : ∃ z, str (x ++ gB (gapN g k)) = z := ⟨_, rfl⟩
          obtain ⟨st, est⟩ : ∃ z, str (T k) = z := ⟨_, rfl⟩
          obtain ⟨su, esu⟩ : ∃ z, str (T (k + 1)) = z := ⟨_, rfl⟩
          obtain ⟨nx, hnx⟩ : ∃ z, x.length = z := ⟨_, rfl⟩
          obtain ⟨ng, hng⟩ : ∃ z, (gB (gapN g k)).length = z := ⟨_, rfl⟩
          obtain ⟨nt, hnt⟩ : ∃ z, (T k).length = z := ⟨_, rfl⟩
          rw [esx] at hcell HS1 HW1 hsx hap1
          rw [esg] at hsg hap1 HG1
          rw [esxg] at hap1 hap2 hsxg
          rw [est] at hst hap2
          rw [esu] at hap2
          rw [hnx] at hsx hsxg ht3 HW1
          rw [hng] at hsg hsxg hgl
          rw [hnt] at hst ht2
          rw [est]
          obtain ⟨dw, hdw⟩ : ∃ z, decide (nx ≤ 64) = z := ⟨_, rfl⟩
          rw [hdw] at HW1
          have hdw2 : decide ((nx : Int) ≤ 64) = dw := by rw [← hdw, decide_eq_decide]; omega
          obtain ⟨nq, hnq⟩ : ∃ z, nx + ng = z := ⟨_, rfl⟩
          rw [hnq] at hsxg
          have b1 : nx + ng ≤ maxLen := by unfold maxLen; omega
          have b2 : (nx : Int) + (ng : Int) ≤ 9223372036854775807 := by omega
          have b3 : nt + nq ≤ maxLen := by unfold maxLen; omega
          have b4 : (nt : Int) + (nq : Int) ≤ 9223372036854775807 := by omega
          have esx2 := esx
          clear hx hkl ht1 ht4 ht5 ht6 esx esg esxg est hnx hng hnt hdw hnq
          go_wp2_with fail
          (with_reducible refine HS1.out.mono ?_)
          rintro e w5 ⟨v5, rfl, ho, hb⟩
          have HBR5 := Lib.hid (HBR.out.trans (hb.mono HBR.out.size))
          have HB5 := Lib.hid (HBW.out.trans (hb.mono HBW.out.size))
          obtain ⟨a5, c5, e5, hc5, hm5, h5⟩ := SRow.of_own ho
          subst e5
          clear ho hb
          rcases h5 with h5 | ⟨b5, o5, e5, -, h5⟩
          · cases h5
          · subst e5
            have hcell5 : w5.cell? ⟨b5, o5, none⟩ = some (.string sx) := by rw [← esx2]; exact h5 0 (by simp)
            clear h5
            go_wp2_with fail
            (with_reducible refine (HW1.out w5 HB5.out).mono ?_)
            rintro e w6 ⟨rfl, hb⟩
            have HBR6 := Lib.hid (HBR5.out.trans (hb.mono HBR5.out.size))
            have HB6 := Lib.hid (HB5.out.trans (hb.mono HB5.out.size))
            clear hb
            go_wp2_with fail
            (with_reducible refine (HG1.out w6 HB6.out).mono ?_)
            rintro e w_ ⟨rfl, hw_⟩
            have hw2_ := hw_.symm
            subst hw2_
            clear hw_
            go_wp2
            go_roundw
            case rel => exact ⟨k + 1, by omega, by go_num, by rw [esu], HBR6⟩
            case measure => simp [intOf]; omega
        · have hkm : k = M := by omega
          subst hkm
          have HBW := Lib.hid (HB2.out.trans (HBR.out.mono HB2.out.size))
          go_wp2_with fail
          (with_reducible refine (HE2.out wr HBW.out).mono ?_)
          rintro e w5 ⟨v5, rfl, ho, hb⟩
          have HB5 := Lib.hid (HBW.out.trans (hb.mono HBW.out.size))
          have HSM := Lib.hid (same_26 w5 v5 (.slice a3 k c3) ss ss (SRow.of_own ho) (HS3.out.next (HBR.out.trans (hb.mono HBR.out.size))))
          rw [decide_eq_true rfl] at HSM
          obtain ⟨a5, c5, e5, -⟩ := SRow.of_own ho
          subst e5
          clear ho hb
          go_wp2_with fail
          (with_reducible refine HSM.out.mono ?_)
          rintro e w6 ⟨rfl, hb⟩
          have HB6 := Lib.hid (HB5.out.trans (hb.mono HB5.out.size))
          clear hb
          go_wp2
          go_ret
          exact ⟨rfl, HBA.out.trans (HB6.out.mono HBA.out.size)⟩
    · have dz : (zE == 0) = false := by simpa using hz
      have dz2 : (zE != 0) = true := by simpa using hz
      have hn1 := HNO.out hz
      subst hn1
      clear hz HYES HNO h1000
      go_enter Tryd.func8, Tryd.ntmps8
      go_wp2_with fail
      (with_reducible refine (HSN2.out).mono ?_)
      rintro e w1 ⟨rfl, hb⟩
      have HB1 := Lib.hid hb
      clear hb
      go_wp2_with fail
      (with_reducible refine (HS.out w1 HB1.out).mono ?_)
      rintro e w2 ⟨v3, rfl, ho, hb⟩
      have Hs_2 := Lib.hid (SRow.of_own ho)
      have HB2 := Lib.hid (HB1.out.trans (hb.mono HB1.out.size))
      clear hb ho
      obtain ⟨a3, c3, e3, -⟩ := Hs_2.out
      subst e3
      go_wp2
      go_ret
      exact ⟨by simp, (HBA.out.trans (HB2.out.mono HBA.out.size))⟩
end Go.Proofs.YtilkhamlhbbmgaaDoor
