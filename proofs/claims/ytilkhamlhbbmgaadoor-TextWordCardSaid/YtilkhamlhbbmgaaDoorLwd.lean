/- The law TextWord, walked. -/
import Derived.Test.YtilkhamlhbbmgaaDoorWrd
namespace Go.Proofs.YtilkhamlhbbmgaaDoor
open Go.RowKit

set_option maxRecDepth 100000 in
set_option maxHeartbeats 8000000 in
theorem lawWord (w : World) (s0 : ByteArray) (hT : UTab w) : Calls Tryd.prog 9 #[.string s0] w fun e w' => e = .returned (.bool true) ∧ Below w.heap.size w w' := by
  obtain ⟨bs, rfl⟩ : ∃ bs, s0 = str bs := ⟨s0.data.toList, (str_of s0).symm⟩
  have HSN := Lib.hid (sane_any w hT)
  have hsz := str_size bs
  have HW := Lib.hid (fun W (hW : Below w.heap.size w W) => word_any W bs (hT.below hW))
  have HS := Lib.hid (fun W (hW : Below w.heap.size w W) => split_any W bs (hT.below hW))
  have HR := Lib.hid (fun W (hW : Below w.heap.size w W) => runes_any W bs (hT.below hW))
  have HK := Lib.hid (fun W r => kind_any W r)
  have HLONG := Lib.hid (fun (h : 64 < bs.length) => word_long h)
  have HNO := Lib.hid (fun (h : rnsE bs ≠ 0) => (⟨word_no h, sp_no h, rns_no h⟩ : wordB bs = false ∧ spV bs = [] ∧ rnsV bs = []))
  have HYES := Lib.hid (fun (h : rnsE bs = 0) (hl : bs.length ≤ 64) => (⟨word_is h hl, (word_split h hl).1, (word_split h hl).2, (rns_ok h).2.2.1⟩ : wordB bs = (decide (0 < (rnsV bs).length) && !(rnsV bs).any isSp) ∧ (wordB bs = true → spV bs = [bs]) ∧ (wordB bs = false → spV bs ≠ [bs]) ∧ ∀ r ∈ rnsV bs, okPt r = true))
  have hst : (str bs).toList = bs := by rw [Lib.toList_data, str_toList]
  have HSS := Lib.hid (fun (y : List UInt8) (h : y ≠ bs) => (by rw [Lib.toList_data, str_toList, hst]; simpa using h : ((str y).toList == (str bs).toList) = false))
  obtain ⟨ss, hss⟩ : ∃ z, spV bs = z := ⟨_, rfl⟩
  obtain ⟨zE, hzE⟩ : ∃ z, rnsE bs = z := ⟨_, rfl⟩
  obtain ⟨l, hl⟩ : ∃ z, rnsV bs = z := ⟨_, rfl⟩
  obtain ⟨wB, hwB⟩ : ∃ z, wordB bs = z := ⟨_, rfl⟩
  obtain ⟨n, hn⟩ : ∃ z, bs.length = z := ⟨_, rfl⟩
  obtain ⟨s, hs⟩ : ∃ s, str bs = s := ⟨_, rfl⟩
  rw [hs, hn] at hsz
  rw [hs, hwB] at HW
  rw [hs, hss, hzE] at HS
  rw [hs, hl, hzE] at HR
  rw [hn, hwB] at HLONG
  rw [hzE, hwB, hss, hl] at HNO
  rw [hzE, hn, hwB, hl, hss] at HYES
  rw [hs] at HSS ⊢
  clear hss hzE hl hwB hn hst hT
  by_cases h100 : 100 < n
  · have d1 : decide (100 < (n : Int)) = true := by simp; omega
    clear h100
    go_enter Tryd.func9, Tryd.ntmps9
    go_wp2_with fail
    (with_reducible refine (HSN.out).mono ?_)
    rintro e w1 ⟨rfl, hb⟩
    have HB1 := Lib.hid hb
    clear hb
    go_wp2
    go_ret
    exact ⟨rfl, HB1.out⟩
  · have d1 : decide (100 < (n : Int)) = false := by simp; omega
    clear h100
    by_cases h64 : 64 < n
    · have d2 : decide (64 < (n : Int)) = true := by simp; omega
      have hwf := HLONG.out h64
      subst hwf
      clear h64
      go_enter Tryd.func9, Tryd.ntmps9
      go_wp2_with fail
      (with_reducible refine (HSN.out).mono ?_)
      rintro e w1 ⟨rfl, hb⟩
      have HB1 := Lib.hid hb
      clear hb
      go_wp2_with fail
      (with_reducible refine (HW.out w1 HB1.out).mono ?_)
      rintro e w2 ⟨rfl, hb⟩
      have HB2 := Lib.hid (HB1.out.trans (hb.mono HB1.out.size))
      clear hb
      go_wp2
      go_ret
      exact ⟨rfl, HB2.out⟩
    · have d2 : decide (64 < (n : Int)) = false := by simp; omega
      have HY := Lib.hid (fun h => HYES.out h (by omega))
      clear h64 HYES HLONG
      go_enter Tryd.func9, Tryd.ntmps9
      go_wp2_with fail
      (with_reducible refine (HSN.out).mono ?_)
      rintro e w1 ⟨rfl, hb⟩
      have HB1 := Lib.hid hb
      clear hb
      go_wp2_with fail
      (with_reducible refine (HW.out w1 HB1.out).mono ?_)
      rintro e w2 ⟨rfl, hb⟩
      have HB2 := Lib.hid (HB1.out.trans (hb.mono HB1.out.size))
      clear hb
      go_wp2_with fail
      (with_reducible refine (HS.out w2 HB2.out).mono ?_)
      rintro e w3 ⟨v3, rfl, ho, hb⟩
      have Hs_3 := Lib.hid (SRow.of_own ho)
      have HB3 := Lib.hid (HB2.out.trans (hb.mono HB2.out.size))
      clear hb ho
      go_wp2_with fail
      (with_reducible refine (HR.out w3 HB3.out).mono ?_)
      rintro e w4 ⟨v4, rfl, ho, hb⟩
      have Hs_4 := Lib.hid (Hs_3.out.next hb)
      have Hr_4 := Lib.hid (IRow.of_own ho)
      have HB4 := Lib.hid (HB3.out.trans (hb.mono HB3.out.size))
      clear hb ho
      obtain ⟨a4, c4, e4, hc4, hm4, HC⟩ := Hr_4.out.later
      subst e4
      have HC := Lib.hid HC
      unfold maxLen at hm4
      obtain ⟨a3, c3, e3, hc3, hm3, h3⟩ := Hs_4.out
      subst e3
      have H3 := Lib.hid h3
      clear h3
      by_cases hz : zE = 0
      · subst hz
        obtain ⟨hy1, hy2, hy3, hy4⟩ := HY.out rfl
        have HW1 := Lib.hid hy1
        have HOK := Lib.hid hy4
        clear hy1 hy4 HNO HY
        have HWF : Hid (wB = (decide (0 < l.length) && !l.any isSp)) := HW1
        cases hwb : wB
        · have hne := hy3 hwb
          rw [hwb] at HWF
          clear hy2 hy3
          by_cases hl1 : ss.length = 1
          · obtain ⟨y, rfl⟩ := List.length_eq_one_iff.1 hl1
            have hsy := HSS.out y (fun e => hne (by rw [e]))
            rcases H3.out with h | ⟨b3, o3, rfl, -, h⟩
            · cases h
            · have hc5 : w4.cell? ⟨b3, o3, none⟩ = some (.string (str y)) := h 0 (by simp)
              obtain ⟨sy, hsy2⟩ : ∃ z, str y = z := ⟨_, rfl⟩
              rw [hsy2] at hsy hc5
              clear h hne hl1 hsy2
              obtain ⟨m, hm⟩ : ∃ m, l.length = m := ⟨_, rfl⟩
              have HM := Lib.hid hm
              rw [hm] at hc4 ⊢
              clear hm
              go_wp2_with fail
              go_loopw [8, 10, 11, 12, 65] (fun s8 s10 s11 s12 s65 wr => ∃ (k : Nat) (g : Bool), k ≤ m ∧ s65 = .int .i64 k ∧ s8 = .bool g ∧ Hid (g = (decide (0 < m) && !(l.take k).any isSp)) ∧ Hid (Below w4.heap.size w4 wr)) (fun _ _ _ _ s65 _ => m - (intOf s65).toNat)
              case atStart => exact ⟨0, _, Nat.zero_le _, rfl, rfl, Lib.hid (by simp), Lib.hid (Below.refl _ _)⟩
              case round =>
                obtain ⟨k, g, hk, rfl, rfl, HG, HBR⟩ := hrel
                by_cases hlt : k < m
                · have hkl : k < l.length := by rw [HM.out]; exact hlt
                  obtain ⟨b, off, rfl, hcell⟩ := HC.out wr HBR.out k hkl
                  obtain ⟨hke, hkv⟩ := kind_ok (HOK.out _ (List.getElem_mem hkl))
                  have HK1 := Lib.hid (HK.out wr l[k])
                  rw [hke, hkv] at HK1
                  have HA := Lib.hid (any_next (p := isSp) hkl)
                  have hns := knd_sp l[k]
                  have hin := knd_in l[k]
                  obtain ⟨x, hx⟩ : ∃ x, l[k] = x := ⟨_, rfl⟩
                  rw [hx] at hcell HK1 HA hns hin
                  obtain ⟨q, hq⟩ : ∃ q, knd x = q := ⟨_, rfl⟩
                  rw [hq] at HK1 hns hin
                  have d3 : decide (q < 0) = false := by simp; omega
                  have d4 : decide (4 < q) = false := by simp; omega
                  have HG2 : Hid ((g && (q != 1)) = (decide (0 < m) && !(l.take (k + 1)).any isSp)) := Lib.hid (by rw [HA.out, HG.out, hns]; simp [Bool.and_assoc])
                  clear hns hin hq hx hkl hke hkv
                  cases g
                  all_goals
                    go_wp2_with fail
                    (with_reducible refine HK1.out.mono ?_)
                    rintro e wq ⟨rfl, hb⟩
                    have HBQ := Lib.hid (HBR.out.trans (hb.mono HBR.out.size))
                    clear hb
                    go_wp2
                    go_roundw
                    case rel => exact ⟨k + 1, _, by omega, by go_num, rfl, HG2, HBQ⟩
                    case measure => simp [intOf]; omega
                · have hkm : k = m := by omega
                  subst hkm
                  have hfin : false = g := by rw [HG.out, List.take_of_length_le (by rw [HM.out]; exact Nat.le_refl _), ← HM.out]; exact HWF.out
                  subst hfin
                  go_wp2
                  go_ret
                  exact ⟨by simp, HB4.out.trans (HBR.out.mono HB4.out.size)⟩
          · obtain ⟨M, hM⟩ : ∃ M, ss.length = M := ⟨_, rfl⟩
            rw [hM] at hl1 hc3 ⊢
            have d5 : ((M : Int) == 1) = false := by simp; omega
            clear hl1 hM hne
            obtain ⟨m, hm⟩ : ∃ m, l.length = m := ⟨_, rfl⟩
            have HM := Lib.hid hm
            rw [hm] at hc4 ⊢
            clear hm
            go_wp2_with fail
            go_loopw [8, 10, 11, 12, 65] (fun s8 s10 s11 s12 s65 wr => ∃ (k : Nat) (g : Bool), k ≤ m ∧ s65 = .int .i64 k ∧ s8 = .bool g ∧ Hid (g = (decide (0 < m) && !(l.take k).any isSp)) ∧ Hid (Below w4.heap.size w4 wr)) (fun _ _ _ _ s65 _ => m - (intOf s65).toNat)
            case atStart => exact ⟨0, _, Nat.zero_le _, rfl, rfl, Lib.hid (by simp), Lib.hid (Below.refl _ _)⟩
            case round =>
              obtain ⟨k, g, hk, rfl, rfl, HG, HBR⟩ := hrel
              by_cases hlt : k < m
              · have hkl : k < l.length := by rw [HM.out]; exact hlt
                obtain ⟨b, off, rfl, hcell⟩ := HC.out wr HBR.out k hkl
                obtain ⟨hke, hkv⟩ := kind_ok (HOK.out _ (List.getElem_mem hkl))
                have HK1 := Lib.hid (HK.out wr l[k])
                rw [hke, hkv] at HK1
                have HA := Lib.hid (any_next (p := isSp) hkl)
                have hns := knd_sp l[k]
                have hin := knd_in l[k]
                obtain ⟨x, hx⟩ : ∃ x, l[k] = x := ⟨_, rfl⟩
                rw [hx] at hcell HK1 HA hns hin
                obtain ⟨q, hq⟩ : ∃ q, knd x = q := ⟨_, rfl⟩
                rw [hq] at HK1 hns hin
                have d3 : decide (q < 0) = false := by simp; omega
                have d4 : decide (4 < q) = false := by simp; omega
                have HG2 : Hid ((g && (q != 1)) = (decide (0 < m) && !(l.take (k + 1)).any isSp)) := Lib.hid (by rw [HA.out, HG.out, hns]; simp [Bool.and_assoc])
                clear hns hin hq hx hkl hke hkv
                cases g
                all_goals
                  go_wp2_with fail
                  (with_reducible refine HK1.out.mono ?_)
                  rintro e wq ⟨rfl, hb⟩
                  have HBQ := Lib.hid (HBR.out.trans (hb.mono HBR.out.size))
                  clear hb
                  go_wp2
                  go_roundw
                  case rel => exact ⟨k + 1, _, by omega, by go_num, rfl, HG2, HBQ⟩
                  case measure => simp [intOf]; omega
              · have hkm : k = m := by omega
                subst hkm
                have hfin : false = g := by rw [HG.out, List.take_of_length_le (by rw [HM.out]; exact Nat.le_refl _), ← HM.out]; exact HWF.out
                subst hfin
                go_wp2
                go_ret
                exact ⟨by simp, HB4.out.trans (HBR.out.mono HB4.out.size)⟩
        · have hso := hy2 hwb
          rw [hwb] at HWF
          subst hso
          rcases H3.out with h | ⟨b3, o3, rfl, -, h⟩
          · cases h
          · have hc5 : w4.cell? ⟨b3, o3, none⟩ = some (.string s) := by rw [← hs]; exact h 0 (by simp)
            clear h hy2 hy3
            obtain ⟨m, hm⟩ : ∃ m, l.length = m := ⟨_, rfl⟩
            have HM := Lib.hid hm
            rw [hm] at hc4 ⊢
            clear hm
            go_wp2_with fail
            go_loopw [8, 10, 11, 12, 65] (fun s8 s10 s11 s12 s65 wr => ∃ (k : Nat) (g : Bool), k ≤ m ∧ s65 = .int .i64 k ∧ s8 = .bool g ∧ Hid (g = (decide (0 < m) && !(l.take k).any isSp)) ∧ Hid (Below w4.heap.size w4 wr)) (fun _ _ _ _ s65 _ => m - (intOf s65).toNat)
            case atStart => exact ⟨0, _, Nat.zero_le _, rfl, rfl, Lib.hid (by simp), Lib.hid (Below.refl _ _)⟩
            case round =>
              obtain ⟨k, g, hk, rfl, rfl, HG, HBR⟩ := hrel
              by_cases hlt : k < m
              · have hkl : k < l.length := by rw [HM.out]; exact hlt
                obtain ⟨b, off, rfl, hcell⟩ := HC.out wr HBR.out k hkl
                obtain ⟨hke, hkv⟩ := kind_ok (HOK.out _ (List.getElem_mem hkl))
                have HK1 := Lib.hid (HK.out wr l[k])
                rw [hke, hkv] at HK1
                have HA := Lib.hid (any_next (p := isSp) hkl)
                have hns := knd_sp l[k]
                have hin := knd_in l[k]
                obtain ⟨x, hx⟩ : ∃ x, l[k] = x := ⟨_, rfl⟩
                rw [hx] at hcell HK1 HA hns hin
                obtain ⟨q, hq⟩ : ∃ q, knd x = q := ⟨_, rfl⟩
                rw [hq] at HK1 hns hin
                have d3 : decide (q < 0) = false := by simp; omega
                have d4 : decide (4 < q) = false := by simp; omega
                have HG2 : Hid ((g && (q != 1)) = (decide (0 < m) && !(l.take (k + 1)).any isSp)) := Lib.hid (by rw [HA.out, HG.out, hns]; simp [Bool.and_assoc])
                clear hns hin hq hx hkl hke hkv
                cases g
                all_goals
                  go_wp2_with fail
                  (with_reducible refine HK1.out.mono ?_)
                  rintro e wq ⟨rfl, hb⟩
                  have HBQ := Lib.hid (HBR.out.trans (hb.mono HBR.out.size))
                  clear hb
                  go_wp2
                  go_roundw
                  case rel => exact ⟨k + 1, _, by omega, by go_num, rfl, HG2, HBQ⟩
                  case measure => simp [intOf]; omega
              · have hkm : k = m := by omega
                subst hkm
                have hfin : true = g := by rw [HG.out, List.take_of_length_le (by rw [HM.out]; exact Nat.le_refl _), ← HM.out]; exact HWF.out
                subst hfin
                go_wp2
                go_ret
                exact ⟨by simp, HB4.out.trans (HBR.out.mono HB4.out.size)⟩
      · have dz : (zE == 0) = false := by simpa using hz
        have dz2 : (zE != 0) = true := by simpa using hz
        obtain ⟨hn1, hn2, hn3⟩ := HNO.out hz
        subst hn1; subst hn2
        have HWF : Hid (false = (decide (0 < l.length) && !l.any isSp)) := Lib.hid (by rw [hn3]; simp)
        have HOK : Hid (∀ r ∈ l, okPt r = true) := Lib.hid (by rw [hn3]; simp)
        have HN0 := Lib.hid hn3
        clear hz HY HNO hn3
        obtain ⟨m, hm⟩ : ∃ m, l.length = m := ⟨_, rfl⟩
        have HM := Lib.hid hm
        rw [hm] at hc4 ⊢
        clear hm
        go_wp2_with fail
        go_loopw [8, 10, 11, 12, 65] (fun s8 s10 s11 s12 s65 wr => ∃ (k : Nat) (g : Bool), k ≤ m ∧ s65 = .int .i64 k ∧ s8 = .bool g ∧ Hid (g = (decide (0 < m) && !(l.take k).any isSp)) ∧ Hid (Below w4.heap.size w4 wr)) (fun _ _ _ _ s65 _ => m - (intOf s65).toNat)
        case atStart => exact ⟨0, _, Nat.zero_le _, rfl, rfl, Lib.hid (by rw [← HM.out, HN0.out]; simp), Lib.hid (Below.refl _ _)⟩
        case round =>
          obtain ⟨k, g, hk, rfl, rfl, HG, HBR⟩ := hrel
          by_cases hlt : k < m
          · have hkl : k < l.length := by rw [HM.out]; exact hlt
            obtain ⟨b, off, rfl, hcell⟩ := HC.out wr HBR.out k hkl
            obtain ⟨hke, hkv⟩ := kind_ok (HOK.out _ (List.getElem_mem hkl))
            have HK1 := Lib.hid (HK.out wr l[k])
            rw [hke, hkv] at HK1
            have HA := Lib.hid (any_next (p := isSp) hkl)
            have hns := knd_sp l[k]
            have hin := knd_in l[k]
            obtain ⟨x, hx⟩ : ∃ x, l[k] = x := ⟨_, rfl⟩
            rw [hx] at hcell HK1 HA hns hin
            obtain ⟨q, hq⟩ : ∃ q, knd x = q := ⟨_, rfl⟩
            rw [hq] at HK1 hns hin
            have d3 : decide (q < 0) = false := by simp; omega
            have d4 : decide (4 < q) = false := by simp; omega
            have HG2 : Hid ((g && (q != 1)) = (decide (0 < m) && !(l.take (k + 1)).any isSp)) := Lib.hid (by rw [HA.out, HG.out, hns]; simp [Bool.and_assoc])
            clear hns hin hq hx hkl hke hkv
            cases g
            all_goals
              go_wp2_with fail
              (with_reducible refine HK1.out.mono ?_)
              rintro e wq ⟨rfl, hb⟩
              have HBQ := Lib.hid (HBR.out.trans (hb.mono HBR.out.size))
              clear hb
              go_wp2
              go_roundw
              case rel => exact ⟨k + 1, _, by omega, by go_num, rfl, HG2, HBQ⟩
              case measure => simp [intOf]; omega
          · have hkm : k = m := by omega
            subst hkm
            have hfin : false = g := by rw [HG.out, List.take_of_length_le (by rw [HM.out]; exact Nat.le_refl _), ← HM.out]; exact HWF.out
            subst hfin
            go_wp2
            go_ret
            exact ⟨by simp, HB4.out.trans (HBR.out.mono HB4.out.size)⟩
end Go.Proofs.YtilkhamlhbbmgaaDoor
