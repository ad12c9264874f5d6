/- The law DirectionLevels, walked. -/
import Derived.Test.YtilkhamlhbbmgaaDoorPlc
namespace Go.Proofs.YtilkhamlhbbmgaaDoor
open Go.RowKit

theorem gap_fin {b : Int} {s : List Int} {f i n : Nat} (hs : s.length = n) (hlo : lo (isGapB s) i = f) (hin : i ≤ n) (hend : i = n ∨ isGapB s i = false) : ∀ kk, f ≤ kk → kk < i → finL b s kk = if 0 < f ∧ i < n ∧ s.getD (f - 1) 0 = s.getD i 0 then s.getD i 0 else b := by
  intro kk h1 h2
  obtain ⟨l1, l2, l3⟩ := lo_spec (isGapB s) i
  rw [hlo] at l1 l2 l3
  have e1 : lo (isGapB s) kk = f := lo_eq h1 (fun j a c => l2 j a (by omega)) l3
  have e2 : hi (isGapB s) s.length kk = i := by rw [hs]; exact hi_eq (by omega) hin (fun j a c => l2 j (by omega) c) hend
  unfold finL
  rw [l2 kk h1 h2, if_pos rfl, e1, e2, hs]

set_option maxRecDepth 100000 in
set_option maxHeartbeats 16000000 in
theorem lawLevels_false (w : World) (v : Value) (l : List Int) (hv : IRow w w.heap.size v l) (hT : DTab w) : Calls Tryd.prog 14 #[v, .bool false] w fun e w' => e = .returned (.bool true) ∧ Below w.heap.size w w' := by
  obtain ⟨i0, hif, hz0, hz1, hz2⟩ := info_parts Tryd.info3r
  have HSN := Lib.hid (sane10_any w hT)
  have HL := Lib.hid (fun (W : World) (hW : Below w.heap.size w W) => levels_any W v l ((hv.below hW).mono hW.size) false (hT.below hW))
  have HK := Lib.hid (fun W r => kind_any W r)
  have HLE : Hid (lvE l = if 4096 < l.length then 2 else if (l.any fun r => !okPt r) then 90 else 0) := Lib.hid rfl
  have HLV : Hid (lvV 0 l = if lvE l = 0 then lvL 0 l else []) := Lib.hid rfl
  have HLL : Hid (lvL 0 l = (List.range l.length).map (finL 0 (l.map (own 0)))) := Lib.hid rfl
  have HTN := Lib.hid (fun k hk => take_next l (own 0) k hk)
  rw [show bsOf false = 0 from rfl] at HL
  obtain ⟨a, c, rfl, hc, hm, HC⟩ := hv.later
  have HC := Lib.hid HC
  obtain ⟨s, hs⟩ : ∃ s, l.map (own 0) = s := ⟨_, rfl⟩
  obtain ⟨n, hN⟩ : ∃ n, l.length = n := ⟨_, rfl⟩
  have HSL : Hid (s.length = n) := Lib.hid (by rw [← hs]; simpa using hN)
  have HIN : Hid (∀ j, j < n → s.getD j 0 = -1 ∨ s.getD j 0 = 0 ∨ s.getD j 0 = 1 ∨ s.getD j 0 = 2) := Lib.hid (fun j hj => by
    have : s.getD j 0 = own 0 (l[j]'(by omega)) := by rw [← hs]; simp [List.getD, List.getElem?_eq_getElem (show j < l.length by omega)]
    rw [this]; exact own_in 0 _ (by omega))
  rw [hs] at HLL HTN
  rw [hN] at HLE HLL HL hc ⊢
  have HN := Lib.hid hN
  clear hN hs hv hT
  unfold maxLen at hm
  by_cases h1 : 120 < n
  · have d : decide (120 < (n : Int)) = true := by simp; omega
    clear h1
    go_enter Tryd.func14, Tryd.ntmps14
    go_wp2_with fail
    refine HSN.out.mono ?_
    rintro e w1 ⟨rfl, hb⟩
    have HB1 := Lib.hid hb
    clear hb
    go_wp2
    go_ret
    exact ⟨rfl, HB1.out⟩
  · have d : decide (120 < (n : Int)) = false := by simp; omega
    have hn4 : n ≤ 120 := by omega
    rw [if_neg (by omega)] at HLE
    clear h1
    obtain ⟨zE, hzE⟩ : ∃ z, lvE l = z := ⟨_, rfl⟩
    obtain ⟨zV, hzV⟩ : ∃ z, lvV 0 l = z := ⟨_, rfl⟩
    rw [hzE] at HLE HLV HL
    rw [hzV] at HLV HL
    clear hzE hzV
    go_enter Tryd.func14, Tryd.ntmps14
    go_wp2_with fail
    refine HSN.out.mono ?_
    rintro e w1 ⟨rfl, hb⟩
    have HB1 := Lib.hid hb
    clear hb
    go_wp2_with fail
    refine (HL.out w1 HB1.out).mono ?_
    rintro e wL ⟨u, rfl, hu, hb⟩
    have HBL := Lib.hid (HB1.out.trans (hb.mono HB1.out.size))
    obtain ⟨a3, c3, e3, hc3, hm3, HCX⟩ := hu.laterD
    subst e3
    have HCX := Lib.hid HCX
    obtain ⟨m, hm'⟩ : ∃ m, zV.length = m := ⟨_, rfl⟩
    rw [hm'] at hc3 HCX ⊢
    have HVL := Lib.hid hm'
    unfold maxLen at hm3
    clear hb hu hm'
    go_wp2
    go_loopw [9, 11, 12, 13, 14, 34] (fun s9 s11 s12 s13 s14 s34 wr => ∃ (k : Nat) (oa : Option Addr) (oc : Nat), k ≤ n ∧ s34 = .int .i64 (k : Int) ∧ s9 = .slice oa k oc ∧ Hid (Below wL.heap.size wL wr) ∧ Hid (wr.ownsRow wL.heap.size 3 1 (.slice oa k oc) k (icells (s.take k))) ∧ Hid (∀ j (h : j < l.length), j < k → (!okPt l[j]) = false)) (fun _ _ _ _ _ s34 _ => n - (intOf s34).toNat)
    case atStart => exact ⟨0, none, 0, Nat.zero_le _, rfl, rfl, Lib.hid (Below.refl _ _), Lib.hid (World.ownsRow_nil _ _ _ _), Lib.hid (fun j _ h => absurd h (by omega))⟩
    case round =>
      obtain ⟨k, oa, oc, hk, rfl, rfl, HB, HO, HJ⟩ := hrel
      by_cases hlt : k < n
      · have hkl : k < l.length := by rw [HN.out]; exact hlt
        obtain ⟨b, off, rfl, hcell⟩ := HC.out wr (HBL.out.trans (HB.out.mono HBL.out.size)) k hkl
        have HT1 := Lib.hid (HTN.out k hkl)
        have HK1 := Lib.hid (HK.out wr l[k])
        cases hq : okPt l[k] with
        | false =>
          have HA : Hid ((l.any fun r => !okPt r) = true) := Lib.hid (any_at (p := fun r => !okPt r) hkl (by simp [hq]))
          have hze : zE = 90 := by rw [HLE.out, HA.out]; rfl
          have hm0 : m = 0 := by rw [← HVL.out, HLV.out, hze]; rfl
          have he : kindE l[k] = 90 := by unfold kindE; rw [hq]; rfl
          rw [he] at HK1
          obtain ⟨kv, hkv⟩ : ∃ z, kindV l[k] = z := ⟨_, rfl⟩
          rw [hkv] at HK1
          obtain ⟨y, hy⟩ : ∃ y, l[k] = y := ⟨_, rfl⟩
          rw [hy] at HK1 hcell
          subst hze
          subst hm0
          clear hq he hkv hy HT1
          go_wp2_with fail
          (with_reducible refine HK1.out.mono ?_)
          rintro e wk ⟨rfl, hb⟩
          have HBF := Lib.hid (HBL.out.trans ((HB.out.trans (hb.mono HB.out.size)).mono HBL.out.size))
          clear hb
          go_wp2
          go_ret
          exact ⟨by simp, HBF.out⟩
        | true =>
          have HX : Hid ((!okPt l[k]) = false) := Lib.hid (by rw [hq]; rfl)
          have he := kind_ok hq
          rw [he.1, he.2] at HK1
          have hqin := knd_in l[k]
          have how : own 0 l[k] = if knd l[k] = 4 then 1 else if knd l[k] = 3 ∨ knd l[k] = 2 then 2 * 0 else -1 := rfl
          rw [how] at HT1
          obtain ⟨q, hqq⟩ : ∃ q, knd l[k] = q := ⟨_, rfl⟩
          rw [hqq] at HK1 HT1 hqin
          obtain ⟨y, hy⟩ : ∃ y, l[k] = y := ⟨_, rfl⟩
          rw [hy] at HK1 hcell
          clear hq he hqq hy how
          have hbz2 := HB.out.size
          go_wp2_with fail
          (with_reducible refine HK1.out.mono ?_)
          rintro e wk ⟨rfl, hb⟩
          have HB2 := Lib.hid (HB.out.trans (hb.mono HB.out.size))
          have HO2 := Lib.hid (own_after hb HO.out)
          have hbz3 := HB2.out.size
          clear hb
          rcases (by omega : q = 0 ∨ q = 1 ∨ q = 2 ∨ q = 3 ∨ q = 4) with rfl | rfl | rfl | rfl | rfl
          · rw [if_neg (by omega), if_neg (by omega)] at HT1
            go_wp2_with (at_builtin; refine wpList_append_own _ rfl _ _ 22 rfl wL.heap.size 3 i0 (.int .i64 0) 1 8 Tryd.underlying22 hif hz0 hz1 hz2 rfl (by decide) (.slice oa k oc) k (icells (s.take k)) rfl (HO2.out.alloc _) ⟨wk.heap.size, 0, none⟩ 1 1 [.int .i64 (-1)] rfl rfl (cell_one_new _ _ _) (by simp [Value.oneCell']) (by unfold maxLen; omega) (by omega) (by simp; omega) ?_; intro v' w3 hown' hgrow _; have HO3 := Lib.hid hown'; have HB3 := Lib.hid ((HB2.out.alloc HB2.out.size _).grown hgrow (by simp; omega) (fun r e => (HO2.out.lt r e).1)); obtain ⟨oa', oc', rfl⟩ := own_slice hown'; clear hown' hgrow)
            go_roundw
            case rel => exact ⟨k + 1, _, _, by omega, by go_num, rfl, HB3, Lib.hid (by rw [← HT1.out]; exact HO3.out), Lib.hid (fun j h hj => by
              by_cases e : j < k
              · exact HJ.out j h e
              · obtain rfl : j = k := by omega
                exact HX.out)⟩
            case measure => simp [intOf]; omega
          · rw [if_neg (by omega), if_neg (by omega)] at HT1
            go_wp2_with (at_builtin; refine wpList_append_own _ rfl _ _ 22 rfl wL.heap.size 3 i0 (.int .i64 0) 1 8 Tryd.underlying22 hif hz0 hz1 hz2 rfl (by decide) (.slice oa k oc) k (icells (s.take k)) rfl (HO2.out.alloc _) ⟨wk.heap.size, 0, none⟩ 1 1 [.int .i64 (-1)] rfl rfl (cell_one_new _ _ _) (by simp [Value.oneCell']) (by unfold maxLen; omega) (by omega) (by simp; omega) ?_; intro v' w3 hown' hgrow _; have HO3 := Lib.hid hown'; have HB3 := Lib.hid ((HB2.out.alloc HB2.out.size _).grown hgrow (by simp; omega) (fun r e => (HO2.out.lt r e).1)); obtain ⟨oa', oc', rfl⟩ := own_slice hown'; clear hown' hgrow)
            go_roundw
            case rel => exact ⟨k + 1, _, _, by omega, by go_num, rfl, HB3, Lib.hid (by rw [← HT1.out]; exact HO3.out), Lib.hid (fun j h hj => by
              by_cases e : j < k
              · exact HJ.out j h e
              · obtain rfl : j = k := by omega
                exact HX.out)⟩
            case measure => simp [intOf]; omega
          · rw [if_neg (by omega), if_pos (by omega)] at HT1
            rw [show (2 : Int) * 0 = 0 by omega] at HT1
            go_wp2_with (at_builtin; refine wpList_append_own _ rfl _ _ 22 rfl wL.heap.size 3 i0 (.int .i64 0) 1 8 Tryd.underlying22 hif hz0 hz1 hz2 rfl (by decide) (.slice oa k oc) k (icells (s.take k)) rfl (HO2.out.alloc _) ⟨wk.heap.size, 0, none⟩ 1 1 [.int .i64 (0)] rfl rfl (cell_one_new _ _ _) (by simp [Value.oneCell']) (by unfold maxLen; omega) (by omega) (by simp; omega) ?_; intro v' w3 hown' hgrow _; have HO3 := Lib.hid hown'; have HB3 := Lib.hid ((HB2.out.alloc HB2.out.size _).grown hgrow (by simp; omega) (fun r e => (HO2.out.lt r e).1)); obtain ⟨oa', oc', rfl⟩ := own_slice hown'; clear hown' hgrow)
            go_roundw
            case rel => exact ⟨k + 1, _, _, by omega, by go_num, rfl, HB3, Lib.hid (by rw [← HT1.out]; exact HO3.out), Lib.hid (fun j h hj => by
              by_cases e : j < k
              · exact HJ.out j h e
              · obtain rfl : j = k := by omega
                exact HX.out)⟩
            case measure => simp [intOf]; omega
          · rw [if_neg (by omega), if_pos (by omega)] at HT1
            rw [show (2 : Int) * 0 = 0 by omega] at HT1
            go_wp2_with (at_builtin; refine wpList_append_own _ rfl _ _ 22 rfl wL.heap.size 3 i0 (.int .i64 0) 1 8 Tryd.underlying22 hif hz0 hz1 hz2 rfl (by decide) (.slice oa k oc) k (icells (s.take k)) rfl (HO2.out.alloc _) ⟨wk.heap.size, 0, none⟩ 1 1 [.int .i64 (0)] rfl rfl (cell_one_new _ _ _) (by simp [Value.oneCell']) (by unfold maxLen; omega) (by omega) (by simp; omega) ?_; intro v' w3 hown' hgrow _; have HO3 := Lib.hid hown'; have HB3 := Lib.hid ((HB2.out.alloc HB2.out.size _).grown hgrow (by simp; omega) (fun r e => (HO2.out.lt r e).1)); obtain ⟨oa', oc', rfl⟩ := own_slice hown'; clear hown' hgrow)
            go_roundw
            case rel => exact ⟨k + 1, _, _, by omega, by go_num, rfl, HB3, Lib.hid (by rw [← HT1.out]; exact HO3.out), Lib.hid (fun j h hj => by
              by_cases e : j < k
              · exact HJ.out j h e
              · obtain rfl : j = k := by omega
                exact HX.out)⟩
            case measure => simp [intOf]; omega
          · rw [if_pos rfl] at HT1
            go_wp2_with (at_builtin; refine wpList_append_own _ rfl _ _ 22 rfl wL.heap.size 3 i0 (.int .i64 0) 1 8 Tryd.underlying22 hif hz0 hz1 hz2 rfl (by decide) (.slice oa k oc) k (icells (s.take k)) rfl (HO2.out.alloc _) ⟨wk.heap.size, 0, none⟩ 1 1 [.int .i64 (1)] rfl rfl (cell_one_new _ _ _) (by simp [Value.oneCell']) (by unfold maxLen; omega) (by omega) (by simp; omega) ?_; intro v' w3 hown' hgrow _; have HO3 := Lib.hid hown'; have HB3 := Lib.hid ((HB2.out.alloc HB2.out.size _).grown hgrow (by simp; omega) (fun r e => (HO2.out.lt r e).1)); obtain ⟨oa', oc', rfl⟩ := own_slice hown'; clear hown' hgrow)
            go_roundw
            case rel => exact ⟨k + 1, _, _, by omega, by go_num, rfl, HB3, Lib.hid (by rw [← HT1.out]; exact HO3.out), Lib.hid (fun j h hj => by
              by_cases e : j < k
              · exact HJ.out j h e
              · obtain rfl : j = k := by omega
                exact HX.out)⟩
            case measure => simp [intOf]; omega
      · have hkn : n = k := by omega
        subst hkn
        have HA : Hid ((l.any fun r => !okPt r) = false) := Lib.hid (any_take (p := fun r => !okPt r) (k := n) (by rw [HN.out]; exact Nat.le_refl _) HJ.out HN.out.symm)
        have hze : zE = 0 := by rw [HLE.out, HA.out]; rfl
        have hzv : zV = lvL 0 l := by rw [HLV.out, hze]; rfl
        have hmn : m = n := by rw [← HVL.out, hzv, HLL.out]; simp
        have HXG : Hid (∀ j, j < n → zV.getD j 0 = finL 0 s j) := Lib.hid (fun j hj => by rw [hzv, HLL.out]; simp [List.getD, hj])
        subst hze
        subst hmn
        have hro := HO.out
        rw [List.take_of_length_le (by rw [HSL.out]; exact Nat.le_refl _)] at hro
        have HIS := IRow.of_own (l := s) (by rw [HSL.out]; exact hro)
        obtain ⟨a2, c2, e2, hc2, hm2, hHC⟩ := HIS.laterD
        injection e2 with e2a e2b e2c
        subst e2a
        subst e2c
        rw [HSL.out] at hHC hc2
        unfold maxLen at hm2
        have HCS0 := Lib.hid hHC
        have HBO := Lib.hid (HBL.out.trans (HB.out.mono HBL.out.size))
        have HCX0 := Lib.hid (fun W (hW : Below wr.heap.size wr W) => HCX.out W (HB.out.trans (hW.mono HB.out.size)))
        clear hro hHC e2b HO HJ HTN HIS hzv HCX
        obtain ⟨wO, hwO⟩ : ∃ wO, wr = wO := ⟨_, rfl⟩
        rw [hwO] at HCS0 HBO HCX0 ⊢
        clear HB hwO
        go_wp2
        go_loopw [15, 16, 17, 18, 19] (fun s15 s16 s17 s18 s19 wr => ∃ (i f : Nat) (la : Int), i ≤ m + 1 ∧ s17 = .int .i64 (i : Int) ∧ s15 = .int .i64 la ∧ s16 = .int .i64 (f : Int) ∧ Hid (i ≤ m → lo (isGapB s) i = f ∧ la = (if f = 0 then -1 else s.getD (f - 1) 0)) ∧ Hid (Below wO.heap.size wO wr)) (fun _ _ s17 _ _ _ => m + 1 - (intOf s17).toNat)
        case atStart => exact ⟨0, 0, -1, Nat.zero_le _, rfl, rfl, rfl, Lib.hid (fun _ => ⟨rfl, rfl⟩), Lib.hid (Below.refl _ _)⟩
        case round =>
          obtain ⟨i, f, la, hi1, rfl, rfl, rfl, HREL, HB⟩ := hrel
          by_cases him : i ≤ m
          · obtain ⟨hlo, hla⟩ := HREL.out him
            have hfi : f ≤ i := by rw [← hlo]; exact lo_le _ i
            by_cases hil : i < m
            · have hi0 : i < m := hil
              obtain ⟨b2, o2, hsa, -⟩ := HCS0.out wr HB.out i hi0
              subst hsa
              obtain ⟨b3, o3, hxa, -⟩ := HCX0.out wr HB.out i hi0
              subst hxa
              have HCS : Hid (∀ W, Below wO.heap.size wO W → ∀ j, j < m → W.cell? ⟨b2, o2 + j, none⟩ = some (.int .i64 (s.getD j 0))) := Lib.hid (fun W hW j hj => by
                obtain ⟨b', o', e, h⟩ := HCS0.out W hW j hj
                injection e with e
                injection e with e1 e2
                rw [e1, e2]; exact h)
              have HCX : Hid (∀ W, Below wO.heap.size wO W → ∀ j, j < m → W.cell? ⟨b3, o3 + j, none⟩ = some (.int .i64 (zV.getD j 0))) := Lib.hid (fun W hW j hj => by
                obtain ⟨b', o', e, h⟩ := HCX0.out W hW j hj
                injection e with e
                injection e with e1 e2
                rw [e1, e2]; exact h)
              have hci := HCS.out wr HB.out i hil
              have hcx := HCX.out wr HB.out i hil
              rw [HXG.out i hil] at hcx
              have hin := HIN.out i hil
              obtain ⟨y, hy⟩ : ∃ y, s.getD i 0 = y := ⟨_, rfl⟩
              rw [hy] at hci hin
              have HYI := Lib.hid hy
              by_cases hy0 : y < 0
              · have HPG : Hid (isGapB s i = true) := Lib.hid (by unfold isGapB; rw [hy]; exact decide_eq_true (by omega))
                have HR2 : Hid (lo (isGapB s) i = f ∧ la = (if f = 0 then -1 else s.getD (f - 1) 0)) := Lib.hid ⟨hlo, hla⟩
                have dy : decide (y < 0) = true := decide_eq_true hy0
                clear hy hy0 hin hlo hla hcx
                go_wp2
                go_roundw
                case rel => exact ⟨i + 1, f, la, by omega, by go_num, rfl, rfl, Lib.hid (fun _ => ⟨by show (if isGapB s i = true then lo (isGapB s) i else i + 1) = f; rw [HPG.out, if_pos rfl]; exact HR2.out.1, HR2.out.2⟩), HB⟩
                case measure => simp [intOf]; omega
              · have HPG : Hid (isGapB s i = false) := Lib.hid (by unfold isGapB; rw [hy]; exact decide_eq_false (by omega))
                have HGF := Lib.hid (gap_fin (b := 0) HSL.out hlo (by omega) (.inr HPG.out))
                have hfx : finL 0 s i = y := by unfold finL; rw [HPG.out, if_neg (by simp)]; exact hy
                rw [hfx] at hcx
                have dy : decide (y < 0) = false := decide_eq_false hy0
                have dy2 : decide (0 ≤ y) = true := decide_eq_true (by omega)
                have dyy : (y != y) = false := by simp
                by_cases hly : la = y
                · have HXV : Hid (∀ kk, f ≤ kk → kk < i → finL 0 s kk = y) := Lib.hid (fun kk h1 h2 => by
                    have hf0 : f ≠ 0 := fun e => by rw [if_pos e] at hla; omega
                    rw [if_neg hf0] at hla
                    rw [HGF.out kk h1 h2, if_pos ⟨by omega, hil, by rw [← hla, hly]; exact hy.symm⟩]; exact hy)
                  subst hly
                  clear hy hy0 hin hlo hla hfx HREL
                  go_wp2
                  go_loopw [19] (fun s19 wr => ∃ kk : Nat, f ≤ kk ∧ kk ≤ i ∧ s19 = .int .i64 (kk : Int) ∧ Hid (Below wO.heap.size wO wr)) (fun s19 _ => i - (intOf s19).toNat)
                  case atStart => exact ⟨f, Nat.le_refl _, hfi, rfl, HB⟩
                  case round =>
                    obtain ⟨kk, hkf, hki, rfl, HB⟩ := hrel
                    by_cases hkl : kk < i
                    · have hcx := HCX.out wr HB.out kk (by omega)
                      rw [HXG.out kk (by omega), HXV.out kk hkf hkl] at hcx
                      go_wp2
                      go_roundw
                      case rel => exact ⟨kk + 1, by omega, by omega, by go_num, HB⟩
                      case measure => simp [intOf]; omega
                    · have hki2 : kk = i := by omega
                      clear hkl
                      go_wp2
                      go_roundw
                      case rel => exact ⟨i + 1, i + 1, la, by omega, by go_num, rfl, by go_num, Lib.hid (fun h => ⟨by show (if isGapB s i = true then lo (isGapB s) i else i + 1) = i + 1; rw [HPG.out, if_neg (by simp)], by rw [if_neg (by omega), Nat.add_sub_cancel]; exact HYI.out.symm⟩), HB⟩
                      case measure => simp [intOf]; omega
                · have HXV : Hid (∀ kk, f ≤ kk → kk < i → finL 0 s kk = 0) := Lib.hid (fun kk h1 h2 => by
                    rw [HGF.out kk h1 h2, if_neg (fun h => hly (by rw [hla, if_neg (by omega), h.2.2]; exact hy))])
                  have dl : (la == y) = false := by simpa using hly
                  have dl2 : (la != y) = true := by simpa using hly
                  clear hy hy0 hin hlo hla hfx hly HREL
                  go_wp2
                  go_loopw [19] (fun s19 wr => ∃ kk : Nat, f ≤ kk ∧ kk ≤ i ∧ s19 = .int .i64 (kk : Int) ∧ Hid (Below wO.heap.size wO wr)) (fun s19 _ => i - (intOf s19).toNat)
                  case atStart => exact ⟨f, Nat.le_refl _, hfi, rfl, HB⟩
                  case round =>
                    obtain ⟨kk, hkf, hki, rfl, HB⟩ := hrel
                    by_cases hkl : kk < i
                    · have hcx := HCX.out wr HB.out kk (by omega)
                      rw [HXG.out kk (by omega), HXV.out kk hkf hkl] at hcx
                      go_wp2
                      go_roundw
                      case rel => exact ⟨kk + 1, by omega, by omega, by go_num, HB⟩
                      case measure => simp [intOf]; omega
                    · have hki2 : kk = i := by omega
                      clear hkl
                      go_wp2
                      go_roundw
                      case rel => exact ⟨i + 1, i + 1, y, by omega, by go_num, rfl, by go_num, Lib.hid (fun h => ⟨by show (if isGapB s i = true then lo (isGapB s) i else i + 1) = i + 1; rw [HPG.out, if_neg (by simp)], by rw [if_neg (by omega), Nat.add_sub_cancel]; exact HYI.out.symm⟩), HB⟩
                      case measure => simp [intOf]; omega
            · have hiM : m = i := by omega
              have HGF := Lib.hid (gap_fin (b := 0) HSL.out hlo him (.inl hiM.symm))
              have HXV : Hid (∀ kk, f ≤ kk → kk < i → finL 0 s kk = 0) := Lib.hid (fun kk h1 h2 => by
                rw [HGF.out kk h1 h2, if_neg (fun h => by omega)])
              have HCX := HCX0
              by_cases hly : la = -1
              · subst hly
                clear hla hlo HREL
                go_wp2
                go_loopw [19] (fun s19 wr => ∃ kk : Nat, f ≤ kk ∧ kk ≤ i ∧ s19 = .int .i64 (kk : Int) ∧ Hid (Below wO.heap.size wO wr)) (fun s19 _ => i - (intOf s19).toNat)
                case atStart => exact ⟨f, Nat.le_refl _, hfi, rfl, HB⟩
                case round =>
                  obtain ⟨kk, hkf, hki, rfl, HB⟩ := hrel
                  by_cases hkl : kk < i
                  · obtain ⟨b3, o3, rfl, hcx⟩ := HCX.out wr HB.out kk (by omega)
                    rw [HXG.out kk (by omega), HXV.out kk hkf hkl] at hcx
                    go_wp2
                    go_roundw
                    case rel => exact ⟨kk + 1, by omega, by omega, by go_num, HB⟩
                    case measure => simp [intOf]; omega
                  · have hki2 : kk = i := by omega
                    clear hkl
                    go_wp2
                    go_roundw
                    case rel => exact ⟨i + 1, i + 1, (-1), by omega, by go_num, rfl, by go_num, Lib.hid (fun h => by omega), HB⟩
                    case measure => simp [intOf]; omega
              · have dl : (la == -1) = false := by simpa using hly
                have dl2 : (la != -1) = true := by simpa using hly
                clear hla hlo hly HREL
                go_wp2
                go_loopw [19] (fun s19 wr => ∃ kk : Nat, f ≤ kk ∧ kk ≤ i ∧ s19 = .int .i64 (kk : Int) ∧ Hid (Below wO.heap.size wO wr)) (fun s19 _ => i - (intOf s19).toNat)
                case atStart => exact ⟨f, Nat.le_refl _, hfi, rfl, HB⟩
                case round =>
                  obtain ⟨kk, hkf, hki, rfl, HB⟩ := hrel
                  by_cases hkl : kk < i
                  · obtain ⟨b3, o3, rfl, hcx⟩ := HCX.out wr HB.out kk (by omega)
                    rw [HXG.out kk (by omega), HXV.out kk hkf hkl] at hcx
                    go_wp2
                    go_roundw
                    case rel => exact ⟨kk + 1, by omega, by omega, by go_num, HB⟩
                    case measure => simp [intOf]; omega
                  · have hki2 : kk = i := by omega
                    clear hkl
                    go_wp2
                    go_roundw
                    case rel => exact ⟨i + 1, i + 1, (-1), by omega, by go_num, rfl, by go_num, Lib.hid (fun h => by omega), HB⟩
                    case measure => simp [intOf]; omega
          · have HBF := Lib.hid (HBO.out.trans (HB.out.mono HBO.out.size))
            go_wp2
            go_ret
            exact ⟨rfl, HBF.out⟩

set_option maxRecDepth 100000 in
set_option maxHeartbeats 16000000 in
theorem lawLevels_true (w : World) (v : Value) (l : List Int) (hv : IRow w w.heap.size v l) (hT : DTab w) : Calls Tryd.prog 14 #[v, .bool true] w fun e w' => e = .returned (.bool true) ∧ Below w.heap.size w w' := by
  obtain ⟨i0, hif, hz0, hz1, hz2⟩ := info_parts Tryd.info3r
  have HSN := Lib.hid (sane10_any w hT)
  have HL := Lib.hid (fun (W : World) (hW : Below w.heap.size w W) => levels_any W v l ((hv.below hW).mono hW.size) true (hT.below hW))
  have HK := Lib.hid (fun W r => kind_any W r)
  have HLE : Hid (lvE l = if 4096 < l.length then 2 else if (l.any fun r => !okPt r) then 90 else 0) := Lib.hid rfl
  have HLV : Hid (lvV 1 l = if lvE l = 0 then lvL 1 l else []) := Lib.hid rfl
  have HLL : Hid (lvL 1 l = (List.range l.length).map (finL 1 (l.map (own 1)))) := Lib.hid rfl
  have HTN := Lib.hid (fun k hk => take_next l (own 1) k hk)
  rw [show bsOf true = 1 from rfl] at HL
  obtain ⟨a, c, rfl, hc, hm, HC⟩ := hv.later
  have HC := Lib.hid HC
  obtain ⟨s, hs⟩ : ∃ s, l.map (own 1) = s := ⟨_, rfl⟩
  obtain ⟨n, hN⟩ : ∃ n, l.length = n := ⟨_, rfl⟩
  have HSL : Hid (s.length = n) := Lib.hid (by rw [← hs]; simpa using hN)
  have HIN : Hid (∀ j, j < n → s.getD j 0 = -1 ∨ s.getD j 0 = 0 ∨ s.getD j 0 = 1 ∨ s.getD j 0 = 2) := Lib.hid (fun j hj => by
    have : s.getD j 0 = own 1 (l[j]'(by omega)) := by rw [← hs]; simp [List.getD, List.getElem?_eq_getElem (show j < l.length by omega)]
    rw [this]; exact own_in 1 _ (by omega))
  rw [hs] at HLL HTN
  rw [hN] at HLE HLL HL hc ⊢
  have HN := Lib.hid hN
  clear hN hs hv hT
  unfold maxLen at hm
  by_cases h1 : 120 < n
  · have d : decide (120 < (n : Int)) = true := by simp; omega
    clear h1
    go_enter Tryd.func14, Tryd.ntmps14
    go_wp2_with fail
    refine HSN.out.mono ?_
    rintro e w1 ⟨rfl, hb⟩
    have HB1 := Lib.hid hb
    clear hb
    go_wp2
    go_ret
    exact ⟨rfl, HB1.out⟩
  · have d : decide (120 < (n : Int)) = false := by simp; omega
    have hn4 : n ≤ 120 := by omega
    rw [if_neg (by omega)] at HLE
    clear h1
    obtain ⟨zE, hzE⟩ : ∃ z, lvE l = z := ⟨_, rfl⟩
    obtain ⟨zV, hzV⟩ : ∃ z, lvV 1 l = z := ⟨_, rfl⟩
    rw [hzE] at HLE HLV HL
    rw [hzV] at HLV HL
    clear hzE hzV
    go_enter Tryd.func14, Tryd.ntmps14
    go_wp2_with fail
    refine HSN.out.mono ?_
    rintro e w1 ⟨rfl, hb⟩
    have HB1 := Lib.hid hb
    clear hb
    go_wp2_with fail
    refine (HL.out w1 HB1.out).mono ?_
    rintro e wL ⟨u, rfl, hu, hb⟩
    have HBL := Lib.hid (HB1.out.trans (hb.mono HB1.out.size))
    obtain ⟨a3, c3, e3, hc3, hm3, HCX⟩ := hu.laterD
    subst e3
    have HCX := Lib.hid HCX
    obtain ⟨m, hm'⟩ : ∃ m, zV.length = m := ⟨_, rfl⟩
    rw [hm'] at hc3 HCX ⊢
    have HVL := Lib.hid hm'
    unfold maxLen at hm3
    clear hb hu hm'
    go_wp2
    go_loopw [9, 11, 12, 13, 14, 34] (fun s9 s11 s12 s13 s14 s34 wr => ∃ (k : Nat) (oa : Option Addr) (oc : Nat), k ≤ n ∧ s34 = .int .i64 (k : Int) ∧ s9 = .slice oa k oc ∧ Hid (Below wL.heap.size wL wr) ∧ Hid (wr.ownsRow wL.heap.size 3 1 (.slice oa k oc) k (icells (s.take k))) ∧ Hid (∀ j (h : j < l.length), j < k → (!okPt l[j]) = false)) (fun _ _ _ _ _ s34 _ => n - (intOf s34).toNat)
    case atStart => exact ⟨0, none, 0, Nat.zero_le _, rfl, rfl, Lib.hid (Below.refl _ _), Lib.hid (World.ownsRow_nil _ _ _ _), Lib.hid (fun j _ h => absurd h (by omega))⟩
    case round =>
      obtain ⟨k, oa, oc, hk, rfl, rfl, HB, HO, HJ⟩ := hrel
      by_cases hlt : k < n
      · have hkl : k < l.length := by rw [HN.out]; exact hlt
        obtain ⟨b, off, rfl, hcell⟩ := HC.out wr (HBL.out.trans (HB.out.mono HBL.out.size)) k hkl
        have HT1 := Lib.hid (HTN.out k hkl)
        have HK1 := Lib.hid (HK.out wr l[k])
        cases hq : okPt l[k] with
        | false =>
          have HA : Hid ((l.any fun r => !okPt r) = true) := Lib.hid (any_at (p := fun r => !okPt r) hkl (by simp [hq]))
          have hze : zE = 90 := by rw [HLE.out, HA.out]; rfl
          have hm0 : m = 0 := by rw [← HVL.out, HLV.out, hze]; rfl
          have he : kindE l[k] = 90 := by unfold kindE; rw [hq]; rfl
          rw [he] at HK1
          obtain ⟨kv, hkv⟩ : ∃ z, kindV l[k] = z := ⟨_, rfl⟩
          rw [hkv] at HK1
          obtain ⟨y, hy⟩ : ∃ y, l[k] = y := ⟨_, rfl⟩
          rw [hy] at HK1 hcell
          subst hze
          subst hm0
          clear hq he hkv hy HT1
          go_wp2_with fail
          (with_reducible refine HK1.out.mono ?_)
          rintro e wk ⟨rfl, hb⟩
          have HBF := Lib.hid (HBL.out.trans ((HB.out.trans (hb.mono HB.out.size)).mono HBL.out.size))
          clear hb
          go_wp2
          go_ret
          exact ⟨by simp, HBF.out⟩
        | true =>
          have HX : Hid ((!okPt l[k]) = false) := Lib.hid (by rw [hq]; rfl)
          have he := kind_ok hq
          rw [he.1, he.2] at HK1
          have hqin := knd_in l[k]
          have how : own 1 l[k] = if knd l[k] = 4 then 1 else if knd l[k] = 3 ∨ knd l[k] = 2 then 2 * 1 else -1 := rfl
          rw [how] at HT1
          obtain ⟨q, hqq⟩ : ∃ q, knd l[k] = q := ⟨_, rfl⟩
          rw [hqq] at HK1 HT1 hqin
          obtain ⟨y, hy⟩ : ∃ y, l[k] = y := ⟨_, rfl⟩
          rw [hy] at HK1 hcell
          clear hq he hqq hy how
          have hbz2 := HB.out.size
          go_wp2_with fail
          (with_reducible refine HK1.out.mono ?_)
          rintro e wk ⟨rfl, hb⟩
          have HB2 := Lib.hid (HB.out.trans (hb.mono HB.out.size))
          have HO2 := Lib.hid (own_after hb HO.out)
          have hbz3 := HB2.out.size
          clear hb
          rcases (by omega : q = 0 ∨ q = 1 ∨ q = 2 ∨ q = 3 ∨ q = 4) with rfl | rfl | rfl | rfl | rfl
          · rw [if_neg (by omega), if_neg (by omega)] at HT1
            go_wp2_with (at_builtin; refine wpList_append_own _ rfl _ _ 22 rfl wL.heap.size 3 i0 (.int .i64 0) 1 8 Tryd.underlying22 hif hz0 hz1 hz2 rfl (by decide) (.slice oa k oc) k (icells (s.take k)) rfl (HO2.out.alloc _) ⟨wk.heap.size, 0, none⟩ 1 1 [.int .i64 (-1)] rfl rfl (cell_one_new _ _ _) (by simp [Value.oneCell']) (by unfold maxLen; omega) (by omega) (by simp; omega) ?_; intro v' w3 hown' hgrow _; have HO3 := Lib.hid hown'; have HB3 := Lib.hid ((HB2.out.alloc HB2.out.size _).grown hgrow (by simp; omega) (fun r e => (HO2.out.lt r e).1)); obtain ⟨oa', oc', rfl⟩ := own_slice hown'; clear hown' hgrow)
            go_roundw
            case rel => exact ⟨k + 1, _, _, by omega, by go_num, rfl, HB3, Lib.hid (by rw [← HT1.out]; exact HO3.out), Lib.hid (fun j h hj => by
              by_cases e : j < k
              · exact HJ.out j h e
              · obtain rfl : j = k := by omega
                exact HX.out)⟩
            case measure => simp [intOf]; omega
          · rw [if_neg (by omega), if_neg (by omega)] at HT1
            go_wp2_with (at_builtin; refine wpList_append_own _ rfl _ _ 22 rfl wL.heap.size 3 i0 (.int .i64 0) 1 8 Tryd.underlying22 hif hz0 hz1 hz2 rfl (by decide) (.slice oa k oc) k (icells (s.take k)) rfl (HO2.out.alloc _) ⟨wk.heap.size, 0, none⟩ 1 1 [.int .i64 (-1)] rfl rfl (cell_one_new _ _ _) (by simp [Value.oneCell']) (by unfold maxLen; omega) (by omega) (by simp; omega) ?_; intro v' w3 hown' hgrow _; have HO3 := Lib.hid hown'; have HB3 := Lib.hid ((HB2.out.alloc HB2.out.size _).grown hgrow (by simp; omega) (fun r e => (HO2.out.lt r e).1)); obtain ⟨oa', oc', rfl⟩ := own_slice hown'; clear hown' hgrow)
            go_roundw
            case rel => exact ⟨k + 1, _, _, by omega, by go_num, rfl, HB3, Lib.hid (by rw [← HT1.out]; exact HO3.out), Lib.hid (fun j h hj => by
              by_cases e : j < k
              · exact HJ.out j h e
              · obtain rfl : j = k := by omega
                exact HX.out)⟩
            case measure => simp [intOf]; omega
          · rw [if_neg (by omega), if_pos (by omega)] at HT1
            rw [show (2 : Int) * 1 = 2 by omega] at HT1
            go_wp2_with (at_builtin; refine wpList_append_own _ rfl _ _ 22 rfl wL.heap.size 3 i0 (.int .i64 0) 1 8 Tryd.underlying22 hif hz0 hz1 hz2 rfl (by decide) (.slice oa k oc) k (icells (s.take k)) rfl (HO2.out.alloc _) ⟨wk.heap.size, 0, none⟩ 1 1 [.int .i64 (2)] rfl rfl (cell_one_new _ _ _) (by simp [Value.oneCell']) (by unfold maxLen; omega) (by omega) (by simp; omega) ?_; intro v' w3 hown' hgrow _; have HO3 := Lib.hid hown'; have HB3 := Lib.hid ((HB2.out.alloc HB2.out.size _).grown hgrow (by simp; omega) (fun r e => (HO2.out.lt r e).1)); obtain ⟨oa', oc', rfl⟩ := own_slice hown'; clear hown' hgrow)
            go_roundw
            case rel => exact ⟨k + 1, _, _, by omega, by go_num, rfl, HB3, Lib.hid (by rw [← HT1.out]; exact HO3.out), Lib.hid (fun j h hj => by
              by_cases e : j < k
              · exact HJ.out j h e
              · obtain rfl : j = k := by omega
                exact HX.out)⟩
            case measure => simp [intOf]; omega
          · rw [if_neg (by omega), if_pos (by omega)] at HT1
            rw [show (2 : Int) * 1 = 2 by omega] at HT1
            go_wp2_with (at_builtin; refine wpList_append_own _ rfl _ _ 22 rfl wL.heap.size 3 i0 (.int .i64 0) 1 8 Tryd.underlying22 hif hz0 hz1 hz2 rfl (by decide) (.slice oa k oc) k (icells (s.take k)) rfl (HO2.out.alloc _) ⟨wk.heap.size, 0, none⟩ 1 1 [.int .i64 (2)] rfl rfl (cell_one_new _ _ _) (by simp [Value.oneCell']) (by unfold maxLen; omega) (by omega) (by simp; omega) ?_; intro v' w3 hown' hgrow _; have HO3 := Lib.hid hown'; have HB3 := Lib.hid ((HB2.out.alloc HB2.out.size _).grown hgrow (by simp; omega) (fun r e => (HO2.out.lt r e).1)); obtain ⟨oa', oc', rfl⟩ := own_slice hown'; clear hown' hgrow)
            go_roundw
            case rel => exact ⟨k + 1, _, _, by omega, by go_num, rfl, HB3, Lib.hid (by rw [← HT1.out]; exact HO3.out), Lib.hid (fun j h hj => by
              by_cases e : j < k
              · exact HJ.out j h e
              · obtain rfl : j = k := by omega
                exact HX.out)⟩
            case measure => simp [intOf]; omega
          · rw [if_pos rfl] at HT1
            go_wp2_with (at_builtin; refine wpList_append_own _ rfl _ _ 22 rfl wL.heap.size 3 i0 (.int .i64 0) 1 8 Tryd.underlying22 hif hz0 hz1 hz2 rfl (by decide) (.slice oa k oc) k (icells (s.take k)) rfl (HO2.out.alloc _) ⟨wk.heap.size, 0, none⟩ 1 1 [.int .i64 (1)] rfl rfl (cell_one_new _ _ _) (by simp [Value.oneCell']) (by unfold maxLen; omega) (by omega) (by simp; omega) ?_; intro v' w3 hown' hgrow _; have HO3 := Lib.hid hown'; have HB3 := Lib.hid ((HB2.out.alloc HB2.out.size _).grown hgrow (by simp; omega) (fun r e => (HO2.out.lt r e).1)); obtain ⟨oa', oc', rfl⟩ := own_slice hown'; clear hown' hgrow)
            go_roundw
            case rel => exact ⟨k + 1, _, _, by omega, by go_num, rfl, HB3, Lib.hid (by rw [← HT1.out]; exact HO3.out), Lib.hid (fun j h hj => by
              by_cases e : j < k
              · exact HJ.out j h e
              · obtain rfl : j = k := by omega
                exact HX.out)⟩
            case measure => simp [intOf]; omega
      · have hkn : n = k := by omega
        subst hkn
        have HA : Hid ((l.any fun r => !okPt r) = false) := Lib.hid (any_take (p := fun r => !okPt r) (k := n) (by rw [HN.out]; exact Nat.le_refl _) HJ.out HN.out.symm)
        have hze : zE = 0 := by rw [HLE.out, HA.out]; rfl
        have hzv : zV = lvL 1 l := by rw [HLV.out, hze]; rfl
        have hmn : m = n := by rw [← HVL.out, hzv, HLL.out]; simp
        have HXG : Hid (∀ j, j < n → zV.getD j 0 = finL 1 s j) := Lib.hid (fun j hj => by rw [hzv, HLL.out]; simp [List.getD, hj])
        subst hze
        subst hmn
        have hro := HO.out
        rw [List.take_of_length_le (by rw [HSL.out]; exact Nat.le_refl _)] at hro
        have HIS := IRow.of_own (l := s) (by rw [HSL.out]; exact hro)
        obtain ⟨a2, c2, e2, hc2, hm2, hHC⟩ := HIS.laterD
        injection e2 with e2a e2b e2c
        subst e2a
        subst e2c
        rw [HSL.out] at hHC hc2
        unfold maxLen at hm2
        have HCS0 := Lib.hid hHC
        have HBO := Lib.hid (HBL.out.trans (HB.out.mono HBL.out.size))
        have HCX0 := Lib.hid (fun W (hW : Below wr.heap.size wr W) => HCX.out W (HB.out.trans (hW.mono HB.out.size)))
        clear hro hHC e2b HO HJ HTN HIS hzv HCX
        obtain ⟨wO, hwO⟩ : ∃ wO, wr = wO := ⟨_, rfl⟩
        rw [hwO] at HCS0 HBO HCX0 ⊢
        clear HB hwO
        go_wp2
        go_loopw [15, 16, 17, 18, 19] (fun s15 s16 s17 s18 s19 wr => ∃ (i f : Nat) (la : Int), i ≤ m + 1 ∧ s17 = .int .i64 (i : Int) ∧ s15 = .int .i64 la ∧ s16 = .int .i64 (f : Int) ∧ Hid (i ≤ m → lo (isGapB s) i = f ∧ la = (if f = 0 then -1 else s.getD (f - 1) 0)) ∧ Hid (Below wO.heap.size wO wr)) (fun _ _ s17 _ _ _ => m + 1 - (intOf s17).toNat)
        case atStart => exact ⟨0, 0, -1, Nat.zero_le _, rfl, rfl, rfl, Lib.hid (fun _ => ⟨rfl, rfl⟩), Lib.hid (Below.refl _ _)⟩
        case round =>
          obtain ⟨i, f, la, hi1, rfl, rfl, rfl, HREL, HB⟩ := hrel
          by_cases him : i ≤ m
          · obtain ⟨hlo, hla⟩ := HREL.out him
            have hfi : f ≤ i := by rw [← hlo]; exact lo_le _ i
            by_cases hil : i < m
            · have hi0 : i < m := hil
              obtain ⟨b2, o2, hsa, -⟩ := HCS0.out wr HB.out i hi0
              subst hsa
              obtain ⟨b3, o3, hxa, -⟩ := HCX0.out wr HB.out i hi0
              subst hxa
              have HCS : Hid (∀ W, Below wO.heap.size wO W → ∀ j, j < m → W.cell? ⟨b2, o2 + j, none⟩ = some (.int .i64 (s.getD j 0))) := Lib.hid (fun W hW j hj => by
                obtain ⟨b', o', e, h⟩ := HCS0.out W hW j hj
                injection e with e
                injection e with e1 e2
                rw [e1, e2]; exact h)
              have HCX : Hid (∀ W, Below wO.heap.size wO W → ∀ j, j < m → W.cell? ⟨b3, o3 + j, none⟩ = some (.int .i64 (zV.getD j 0))) := Lib.hid (fun W hW j hj => by
                obtain ⟨b', o', e, h⟩ := HCX0.out W hW j hj
                injection e with e
                injection e with e1 e2
                rw [e1, e2]; exact h)
              have hci := HCS.out wr HB.out i hil
              have hcx := HCX.out wr HB.out i hil
              rw [HXG.out i hil] at hcx
              have hin := HIN.out i hil
              obtain ⟨y, hy⟩ : ∃ y, s.getD i 0 = y := ⟨_, rfl⟩
              rw [hy] at hci hin
              have HYI := Lib.hid hy
              by_cases hy0 : y < 0
              · have HPG : Hid (isGapB s i = true) := Lib.hid (by unfold isGapB; rw [hy]; exact decide_eq_true (by omega))
                have HR2 : Hid (lo (isGapB s) i = f ∧ la = (if f = 0 then -1 else s.getD (f - 1) 0)) := Lib.hid ⟨hlo, hla⟩
                have dy : decide (y < 0) = true := decide_eq_true hy0
                clear hy hy0 hin hlo hla hcx
                go_wp2
                go_roundw
                case rel => exact ⟨i + 1, f, la, by omega, by go_num, rfl, rfl, Lib.hid (fun _ => ⟨by show (if isGapB s i = true then lo (isGapB s) i else i + 1) = f; rw [HPG.out, if_pos rfl]; exact HR2.out.1, HR2.out.2⟩), HB⟩
                case measure => simp [intOf]; omega
              · have HPG : Hid (isGapB s i = false) := Lib.hid (by unfold isGapB; rw [hy]; exact decide_eq_false (by omega))
                have HGF := Lib.hid (gap_fin (b := 1) HSL.out hlo (by omega) (.inr HPG.out))
                have hfx : finL 1 s i = y := by unfold finL; rw [HPG.out, if_neg (by simp)]; exact hy
                rw [hfx] at hcx
                have dy : decide (y < 0) = false := decide_eq_false hy0
                have dy2 : decide (0 ≤ y) = true := decide_eq_true (by omega)
                have dyy : (y != y) = false := by simp
                by_cases hly : la = y
                · have HXV : Hid (∀ kk, f ≤ kk → kk < i → finL 1 s kk = y) := Lib.hid (fun kk h1 h2 => by
                    have hf0 : f ≠ 0 := fun e => by rw [if_pos e] at hla; omega
                    rw [if_neg hf0] at hla
                    rw [HGF.out kk h1 h2, if_pos ⟨by omega, hil, by rw [← hla, hly]; exact hy.symm⟩]; exact hy)
                  subst hly
                  clear hy hy0 hin hlo hla hfx HREL
                  go_wp2
                  go_loopw [19] (fun s19 wr => ∃ kk : Nat, f ≤ kk ∧ kk ≤ i ∧ s19 = .int .i64 (kk : Int) ∧ Hid (Below wO.heap.size wO wr)) (fun s19 _ => i - (intOf s19).toNat)
                  case atStart => exact ⟨f, Nat.le_refl _, hfi, rfl, HB⟩
                  case round =>
                    obtain ⟨kk, hkf, hki, rfl, HB⟩ := hrel
                    by_cases hkl : kk < i
                    · have hcx := HCX.out wr HB.out kk (by omega)
                      rw [HXG.out kk (by omega), HXV.out kk hkf hkl] at hcx
                      go_wp2
                      go_roundw
                      case rel => exact ⟨kk + 1, by omega, by omega, by go_num, HB⟩
                      case measure => simp [intOf]; omega
                    · have hki2 : kk = i := by omega
                      clear hkl
                      go_wp2
                      go_roundw
                      case rel => exact ⟨i + 1, i + 1, la, by omega, by go_num, rfl, by go_num, Lib.hid (fun h => ⟨by show (if isGapB s i = true then lo (isGapB s) i else i + 1) = i + 1; rw [HPG.out, if_neg (by simp)], by rw [if_neg (by omega), Nat.add_sub_cancel]; exact HYI.out.symm⟩), HB⟩
                      case measure => simp [intOf]; omega
                · have HXV : Hid (∀ kk, f ≤ kk → kk < i → finL 1 s kk = 1) := Lib.hid (fun kk h1 h2 => by
                    rw [HGF.out kk h1 h2, if_neg (fun h => hly (by rw [hla, if_neg (by omega), h.2.2]; exact hy))])
                  have dl : (la == y) = false := by simpa using hly
                  have dl2 : (la != y) = true := by simpa using hly
                  clear hy hy0 hin hlo hla hfx hly HREL
                  go_wp2
                  go_loopw [19] (fun s19 wr => ∃ kk : Nat, f ≤ kk ∧ kk ≤ i ∧ s19 = .int .i64 (kk : Int) ∧ Hid (Below wO.heap.size wO wr)) (fun s19 _ => i - (intOf s19).toNat)
                  case atStart => exact ⟨f, Nat.le_refl _, hfi, rfl, HB⟩
                  case round =>
                    obtain ⟨kk, hkf, hki, rfl, HB⟩ := hrel
                    by_cases hkl : kk < i
                    · have hcx := HCX.out wr HB.out kk (by omega)
                      rw [HXG.out kk (by omega), HXV.out kk hkf hkl] at hcx
                      go_wp2
                      go_roundw
                      case rel => exact ⟨kk + 1, by omega, by omega, by go_num, HB⟩
                      case measure => simp [intOf]; omega
                    · have hki2 : kk = i := by omega
                      clear hkl
                      go_wp2
                      go_roundw
                      case rel => exact ⟨i + 1, i + 1, y, by omega, by go_num, rfl, by go_num, Lib.hid (fun h => ⟨by show (if isGapB s i = true then lo (isGapB s) i else i + 1) = i + 1; rw [HPG.out, if_neg (by simp)], by rw [if_neg (by omega), Nat.add_sub_cancel]; exact HYI.out.symm⟩), HB⟩
                      case measure => simp [intOf]; omega
            · have hiM : m = i := by omega
              have HGF := Lib.hid (gap_fin (b := 1) HSL.out hlo him (.inl hiM.symm))
              have HXV : Hid (∀ kk, f ≤ kk → kk < i → finL 1 s kk = 1) := Lib.hid (fun kk h1 h2 => by
                rw [HGF.out kk h1 h2, if_neg (fun h => by omega)])
              have HCX := HCX0
              by_cases hly : la = -1
              · subst hly
                clear hla hlo HREL
                go_wp2
                go_loopw [19] (fun s19 wr => ∃ kk : Nat, f ≤ kk ∧ kk ≤ i ∧ s19 = .int .i64 (kk : Int) ∧ Hid (Below wO.heap.size wO wr)) (fun s19 _ => i - (intOf s19).toNat)
                case atStart => exact ⟨f, Nat.le_refl _, hfi, rfl, HB⟩
                case round =>
                  obtain ⟨kk, hkf, hki, rfl, HB⟩ := hrel
                  by_cases hkl : kk < i
                  · obtain ⟨b3, o3, rfl, hcx⟩ := HCX.out wr HB.out kk (by omega)
                    rw [HXG.out kk (by omega), HXV.out kk hkf hkl] at hcx
                    go_wp2
                    go_roundw
                    case rel => exact ⟨kk + 1, by omega, by omega, by go_num, HB⟩
                    case measure => simp [intOf]; omega
                  · have hki2 : kk = i := by omega
                    clear hkl
                    go_wp2
                    go_roundw
                    case rel => exact ⟨i + 1, i + 1, (-1), by omega, by go_num, rfl, by go_num, Lib.hid (fun h => by omega), HB⟩
                    case measure => simp [intOf]; omega
              · have dl : (la == -1) = false := by simpa using hly
                have dl2 : (la != -1) = true := by simpa using hly
                clear hla hlo hly HREL
                go_wp2
                go_loopw [19] (fun s19 wr => ∃ kk : Nat, f ≤ kk ∧ kk ≤ i ∧ s19 = .int .i64 (kk : Int) ∧ Hid (Below wO.heap.size wO wr)) (fun s19 _ => i - (intOf s19).toNat)
                case atStart => exact ⟨f, Nat.le_refl _, hfi, rfl, HB⟩
                case round =>
                  obtain ⟨kk, hkf, hki, rfl, HB⟩ := hrel
                  by_cases hkl : kk < i
                  · obtain ⟨b3, o3, rfl, hcx⟩ := HCX.out wr HB.out kk (by omega)
                    rw [HXG.out kk (by omega), HXV.out kk hkf hkl] at hcx
                    go_wp2
                    go_roundw
                    case rel => exact ⟨kk + 1, by omega, by omega, by go_num, HB⟩
                    case measure => simp [intOf]; omega
                  · have hki2 : kk = i := by omega
                    clear hkl
                    go_wp2
                    go_roundw
                    case rel => exact ⟨i + 1, i + 1, (-1), by omega, by go_num, rfl, by go_num, Lib.hid (fun h => by omega), HB⟩
                    case measure => simp [intOf]; omega
          · have HBF := Lib.hid (HBO.out.trans (HB.out.mono HBO.out.size))
            go_wp2
            go_ret
            exact ⟨rfl, HBF.out⟩
theorem lawLevels (w : World) (v : Value) (l : List Int) (hv : IRow w w.heap.size v l) (x : Bool) (hT : DTab w) : Calls Tryd.prog 14 #[v, .bool x] w fun e w' => e = .returned (.bool true) ∧ Below w.heap.size w w' := by
  cases x with
  | false => exact lawLevels_false w v l hv hT
  | true => exact lawLevels_true w v l hv hT
end Go.Proofs.YtilkhamlhbbmgaaDoor
