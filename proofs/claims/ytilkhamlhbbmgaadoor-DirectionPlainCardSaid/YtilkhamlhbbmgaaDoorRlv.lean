/- Direction: the reference's Levels. -/
import Derived.Test.YtilkhamlhbbmgaaDoorRol
namespace Go.Proofs.YtilkhamlhbbmgaaDoor
open Go.RowKit

theorem fin_next (b : Int) (s : List Int) (k : Nat) : icells ((List.range k).map (finL b s)) ++ [.int .i64 (finL b s k)] = icells ((List.range (k + 1)).map (finL b s)) := by simp [icells, List.range_succ]
theorem fin_ref {b : Int} {s : List Int} {k f u n : Nat} (hs : s.length = n) (hk : k < n) (hf : f ≤ k + 1) (hu : k ≤ u) (hun : u ≤ n) (h1 : ∀ j, f ≤ j → j ≤ k → isGapB s j = true) (h2 : f = 0 ∨ isGapB s (f - 1) = false) (h3 : ∀ j, k ≤ j → j < u → isGapB s j = true) (h4 : u = n ∨ isGapB s u = false) :
    finL b s k = if 0 < f ∧ u < n ∧ s.getD (f - 1) 0 = s.getD u 0 then s.getD (f - 1) 0 else b := by
  unfold finL
  by_cases hg : isGapB s k = true
  · have hfk : f ≤ k := by
      rcases Nat.lt_or_ge k f with h | h
      · rcases h2 with h2 | h2
        · omega
        · rw [show f - 1 = k by omega, hg] at h2; cases h2
      · exact h
    have e1 : lo (isGapB s) k = f := lo_eq hfk (fun j a c => h1 j a (by omega)) h2
    have e2 : hi (isGapB s) s.length k = u := by rw [hs]; exact hi_eq hu hun h3 h4
    rw [if_pos hg, e1, e2, hs]
    by_cases hc : 0 < f ∧ u < n ∧ s.getD (f - 1) 0 = s.getD u 0
    · rw [if_pos hc, if_pos hc, hc.2.2]
    · rw [if_neg hc, if_neg hc]
  · have hfk : f = k + 1 := by
      rcases Nat.lt_or_ge k f with h | h
      · omega
      · exact absurd (h1 k h (Nat.le_refl _)) hg
    have huk : u = k := by
      rcases Nat.lt_or_ge k u with h | h
      · exact absurd (h3 k (Nat.le_refl _) h) hg
      · omega
    subst hfk; subst huk
    rw [if_neg hg, Nat.add_sub_cancel, if_pos ⟨by omega, hk, rfl⟩]
theorem take_next (l : List Int) (F : Int → Int) (k : Nat) (hk : k < l.length) : icells ((l.map F).take k) ++ [.int .i64 (F l[k])] = icells ((l.map F).take (k + 1)) := by
  rw [List.take_succ_eq_append_getElem (by simpa using hk), icells_app]
  simp [icells]
set_option maxRecDepth 100000 in
set_option maxHeartbeats 16000000 in
theorem rlevels_any (w : World) (v : Value) (l : List Int) (hv : IRow w w.heap.size v l) (x : Bool) : Calls Tryd.prog 33 #[v, .bool x] w fun e w' => ∃ u, e = .returned (.tuple #[u, .int .i64 (lvE l)]) ∧ IRow w' w'.heap.size u (lvV (bsOf x) l) ∧ Below w.heap.size w w' := by
  obtain ⟨i0, hif, hz0, hz1, hz2⟩ := info_parts Tryd.info3r
  have hbs := bs0_22
  have HK := Lib.hid (fun W r => rkind_any W r)
  have HST := Lib.hid (fun W k => strong_any W k x)
  have HBS := Lib.hid (fun W => rbase_any W x)
  have HIN0 := Lib.hid (fun r => own_in (bsOf x) r (bsOf_in x))
  have HOWN : Hid (∀ r, (if knd r = 4 then 1 else if knd r = 3 ∨ knd r = 2 then 2 * bsOf x else -1) = own (bsOf x) r) := Lib.hid (fun r => rfl)
  have HOE : Hid (lvE l = if 4096 < l.length then 2 else if (l.any fun r => !okPt r) then 90 else 0) := Lib.hid rfl
  have HOV : Hid (lvV (bsOf x) l = if lvE l = 0 then lvL (bsOf x) l else []) := Lib.hid rfl
  have HLV : Hid (lvL (bsOf x) l = (List.range l.length).map (finL (bsOf x) (l.map (own (bsOf x))))) := Lib.hid rfl
  have HTN := Lib.hid (fun k hk => take_next l (own (bsOf x)) k hk)
  obtain ⟨a, c, rfl, hc, hm, HC⟩ := hv.later
  have HC := Lib.hid HC
  obtain ⟨bz, hbz⟩ : ∃ z, bsOf x = z := ⟨_, rfl⟩
  rw [hbz] at HST HBS HIN0 HOWN HOV HLV HTN ⊢
  obtain ⟨s, hs⟩ : ∃ s, l.map (own bz) = s := ⟨_, rfl⟩
  obtain ⟨n, hN⟩ : ∃ n, l.length = n := ⟨_, rfl⟩
  have HSN : Hid (s.length = n) := Lib.hid (by rw [← hs]; simpa using hN)
  have HIN : Hid (∀ j, j < n → s.getD j 0 = -1 ∨ s.getD j 0 = 0 ∨ s.getD j 0 = 1 ∨ s.getD j 0 = 2) := Lib.hid (fun j hj => by
    have : s.getD j 0 = own bz (l[j]'(by omega)) := by rw [← hs]; simp [List.getD, List.getElem?_eq_getElem (show j < l.length by omega)]
    rw [this]; exact HIN0.out _)
  rw [hs] at HLV HTN
  rw [hN] at HOE HLV hc ⊢
  have HN := Lib.hid hN
  clear hN hs hbz hv
  unfold maxLen at hm
  by_cases h1 : 4096 < n
  · have d : decide (4096 < (n : Int)) = true := by simp; omega
    rw [HOV.out, HOE.out, if_pos h1]
    clear h1
    go_enter Tryd.func33, Tryd.ntmps33
    go_wp2
    go_ret2
    exact ⟨_, rfl, IRow.nil _ _, Below.refl _ _⟩
  · have d : decide (4096 < (n : Int)) = false := by simp; omega
    have hn4 : n ≤ 4096 := by omega
    rw [if_neg h1] at HOE
    clear h1
    obtain ⟨zE, hzE⟩ : ∃ z, lvE l = z := ⟨_, rfl⟩
    obtain ⟨zV, hzV⟩ : ∃ z, lvV bz l = z := ⟨_, rfl⟩
    rw [hzE] at HOE HOV ⊢
    rw [hzV] at HOV ⊢
    clear hzE hzV
    go_enter Tryd.func33, Tryd.ntmps33
    go_wp2
    go_loopw [6, 7, 8, 9] (fun s6 s7 s8 s9 wr => ∃ (k : Nat) (oa : Option Addr) (oc : Nat), k ≤ n ∧ s7 = .int .i64 (k : Int) ∧ s6 = .slice oa k oc ∧ Hid (Below w.heap.size w wr) ∧ Hid (wr.ownsRow w.heap.size 3 1 (.slice oa k oc) k (icells (s.take k))) ∧ Hid (∀ j (h : j < l.length), j < k → (!okPt l[j]) = false)) (fun _ s7 _ _ _ => n - (intOf s7).toNat)
    case atStart => exact ⟨0, _, _, Nat.zero_le _, rfl, rfl, Lib.hid (below_alloc w _), Lib.hid (own_empty w _ 3 (Nat.le_refl _)), Lib.hid (fun j _ h => absurd h (by omega))⟩
    case round =>
      obtain ⟨k, oa, oc, hk, rfl, rfl, HB, HO, HJ⟩ := hrel
      by_cases hlt : k < n
      · have hkl : k < l.length := by rw [HN.out]; exact hlt
        obtain ⟨b, off, rfl, hcell⟩ := HC.out wr HB.out k hkl
        have HT1 := Lib.hid (HTN.out k hkl)
        have HK1 := Lib.hid (fun W => HK.out W l[k])
        have HOW1 := Lib.hid (HOWN.out l[k])
        cases hq : okPt l[k] with
        | false =>
          have HA : Hid ((l.any fun r => !okPt r) = true) := Lib.hid (any_at (p := fun r => !okPt r) hkl (by simp [hq]))
          have he : kindE l[k] = 90 := by unfold kindE; rw [hq]; rfl
          rw [he] at HK1
          obtain ⟨kv, hkv⟩ : ∃ z, kindV l[k] = z := ⟨_, rfl⟩
          rw [hkv] at HK1
          obtain ⟨y, hy⟩ : ∃ y, l[k] = y := ⟨_, rfl⟩
          rw [hy] at HK1 hcell
          clear hq he hkv hy HT1 HOW1
          go_wp2_with fail
          (with_reducible refine (HK1.out _).mono ?_)
          rintro e w_ ⟨rfl, hw_⟩
          have hw2_ := hw_.symm
          subst hw2_
          clear hw_
          go_wp2
          go_ret2
          rw [HOV.out, HOE.out, HA.out]
          exact ⟨_, rfl, IRow.nil _ _, HB.out⟩
        | true =>
          have HX : Hid ((!okPt l[k]) = false) := Lib.hid (by rw [hq]; rfl)
          have he := kind_ok hq
          rw [he.1, he.2] at HK1
          obtain ⟨q, hqq⟩ : ∃ q, knd l[k] = q := ⟨_, rfl⟩
          rw [hqq] at HK1 HOW1
          have HS1 := Lib.hid (fun W => HST.out W q)
          rw [HOW1.out] at HS1
          obtain ⟨o1, ho1⟩ : ∃ o1, own bz l[k] = o1 := ⟨_, rfl⟩
          rw [ho1] at HS1 HT1
          obtain ⟨y, hy⟩ : ∃ y, l[k] = y := ⟨_, rfl⟩
          rw [hy] at HK1 hcell
          have hbz2 := HB.out.size
          clear hq he hqq ho1 hy HOW1
          go_wp2_with fail
          (with_reducible refine (HK1.out _).mono ?_)
          rintro e w_ ⟨rfl, hw_⟩
          have hw2_ := hw_.symm
          subst hw2_
          clear hw_
          go_wp2_with fail
          (with_reducible refine (HS1.out _).mono ?_)
          rintro e w_ ⟨rfl, hw_⟩
          have hw2_ := hw_.symm
          subst hw2_
          clear hw_
          go_wp2_with (at_builtin; refine wpList_append_own _ rfl _ _ 22 rfl w.heap.size 3 i0 (.int .i64 0) 1 8 Tryd.underlying22 hif hz0 hz1 hz2 rfl (by decide) (.slice oa k oc) k (icells (s.take k)) rfl (HO.out.alloc _) ⟨wr.heap.size, 0, none⟩ 1 1 [.int .i64 o1] rfl rfl (cell_one_new _ _ _) (by simp [Value.oneCell']) (by unfold maxLen; omega) (by omega) (by simp; omega) ?_; intro v' w3 hown' hgrow _; have HO3 := Lib.hid hown'; have HB3 := Lib.hid ((HB.out.alloc HB.out.size _).grown hgrow (by simp; omega) (fun r e => (HO.out.lt r e).1)); obtain ⟨oa', oc', rfl⟩ := own_slice hown'; clear hown' hgrow)
          go_roundw
          case rel => exact ⟨k + 1, _, _, by omega, by go_num, rfl, HB3, Lib.hid (by rw [← HT1.out]; exact HO3.out), Lib.hid (fun j h hj => by
            by_cases e : j < k
            · exact HJ.out j h e
            · obtain rfl : j = k := by omega
              exact HX.out)⟩
          case measure => simp [intOf]; omega
      · have hkn : n = k := by omega
        subst hkn
        have HA : Hid ((l.any fun r => !okPt r) = false) := Lib.hid (any_take (p := fun r => !okPt r) (k := n) (by rw [HN.out]; exact Nat.le_refl _) HJ.out HN.out.symm)
        have hro := HO.out
        rw [List.take_of_length_le (by rw [HSN.out]; exact Nat.le_refl _)] at hro
        have HIS := Lib.hid (IRow.of_own (l := s) (by rw [HSN.out]; exact hro))
        have hcs := hro
        obtain ⟨a2, c2, e2, hc2, hm2, hHC⟩ := HIS.out.laterD
        injection e2 with e2a e2b e2c
        subst e2a
        subst e2c
        rw [HSN.out] at hHC hc2
        unfold maxLen at hm2
        have HCS0 := Lib.hid hHC
        have HBS0 := Lib.hid HB.out
        clear hro hcs hHC e2b HO HB HJ HTN HC
        obtain ⟨wS, hwS⟩ : ∃ wS, wr = wS := ⟨_, rfl⟩
        rw [hwS] at HCS0 HBS0 HIS ⊢
        clear hwS
        go_wp2
        go_loopw [10, 11, 12, 13] (fun s10 s11 s12 s13 wr => ∃ (k : Nat) (oa : Option Addr) (oc : Nat), k ≤ n ∧ s11 = .int .i64 (k : Int) ∧ s10 = .slice oa k oc ∧ Hid (Below wS.heap.size wS wr) ∧ Hid (wr.ownsRow wS.heap.size 3 1 (.slice oa k oc) k (icells ((List.range k).map (finL bz s))))) (fun _ s11 _ _ _ => n - (intOf s11).toNat)
        case atStart => exact ⟨0, _, _, Nat.zero_le _, rfl, rfl, Lib.hid (below_alloc wS _), Lib.hid (own_empty wS _ 3 (Nat.le_refl _))⟩
        case round =>
          obtain ⟨k, oa, oc, hk, rfl, rfl, HB, HO⟩ := hrel
          by_cases hlt : k < n
          · obtain ⟨b2, o2, hsa2, -⟩ := HCS0.out wr HB.out k hlt
            subst hsa2
            have HCS : Hid (∀ W, Below wS.heap.size wS W → ∀ j, j < n → W.cell? ⟨b2, o2 + j, none⟩ = some (.int .i64 (s.getD j 0))) := Lib.hid (fun W hW j hj => by
              obtain ⟨b', o', e, h⟩ := HCS0.out W hW j hj
              injection e with e
              injection e with e1 e2
              rw [e1, e2]; exact h)
            go_wp2
            go_loopw [12] (fun s12 wr => ∃ (f : Nat) (z : Int), f ≤ k + 1 ∧ s12 = .int .i64 z ∧ z = (f : Int) - 1 ∧ Hid (∀ j, f ≤ j → j ≤ k → isGapB s j = true) ∧ Hid (Below wS.heap.size wS wr) ∧ Hid (wr.ownsRow wS.heap.size 3 1 (.slice oa k oc) k (icells ((List.range k).map (finL bz s))))) (fun s12 _ => (intOf s12 + 1).toNat)
            case atStart => exact ⟨k + 1, (k : Int), Nat.le_refl _, rfl, by omega, Lib.hid (fun j a b => by omega), HB, HO⟩
            case round =>
              obtain ⟨f, z, hfk, rfl, hzf, HDN, HB, HO⟩ := hrel
              by_cases hf0 : 0 < f
              · obtain ⟨f', hff⟩ : ∃ f', f = f' + 1 := ⟨f - 1, by omega⟩
                have hzz : z = (f' : Int) := by omega
                subst hzz
                have hfn : f' < n := by omega
                have hcl := HCS.out wr HB.out f' hfn
                have hxin := HIN.out f' hfn
                have hw1 : IntKind.i64.wrap ((f' : Int) - 1) = (f' : Int) - 1 := by rw [IntKind.wrap_i64]; omega
                have HFF := Lib.hid hff
                have HXQ : Hid (∃ x, s.getD f' 0 = x) := Lib.hid ⟨_, rfl⟩
                obtain ⟨x, hx⟩ := HXQ.out
                rw [hx] at hcl hxin
                clear hff hzf
                by_cases hq : x < 0
                · have HQ : Hid (isGapB s f' = true) := Lib.hid (by unfold isGapB; rw [hx]; exact decide_eq_true (by omega))
                  have dq : decide (x < 0) = true := decide_eq_true hq
                  clear hq hx HXQ hxin
                  go_wp2
                  go_roundw
                  case rel => exact ⟨f', (f' : Int) - 1, by have := HFF.out; omega, by go_num, rfl, Lib.hid (fun j a b => by
                    by_cases hju : j = f'
                    · rw [hju]; exact HQ.out
                    · exact HDN.out j (by have := HFF.out; omega) b), HB, HO⟩
                  case measure => simp [intOf]
                · have HEF : Hid (f = 0 ∨ isGapB s (f - 1) = false) := Lib.hid (.inr (by rw [HFF.out, Nat.add_sub_cancel]; unfold isGapB; rw [hx]; exact decide_eq_false (by omega)))
                  have dq : decide (x < 0) = false := decide_eq_false hq
                  clear hq HXQ hxin
                  have HXF := Lib.hid hx
                  clear hx
                  go_wp2
                  go_loopw [13] (fun s13 wr => ∃ u : Nat, k ≤ u ∧ u ≤ n ∧ s13 = .int .i64 (u : Int) ∧ Hid (∀ j, k ≤ j → j < u → isGapB s j = true) ∧ Hid (Below wS.heap.size wS wr) ∧ Hid (wr.ownsRow wS.heap.size 3 1 (.slice oa k oc) k (icells ((List.range k).map (finL bz s))))) (fun s13 _ => n - (intOf s13).toNat)
                  case atStart => exact ⟨k, Nat.le_refl _, by omega, rfl, Lib.hid (fun j a b => by omega), HB, HO⟩
                  case round =>
                    obtain ⟨u, huk, hun, rfl, HUP, HB, HO⟩ := hrel
                    by_cases hul : u < n
                    · have hcl := HCS.out wr HB.out u hul
                      have hxin := HIN.out u hul
                      have HXQ : Hid (∃ x, s.getD u 0 = x) := Lib.hid ⟨_, rfl⟩
                      obtain ⟨x, hx⟩ := HXQ.out
                      rw [hx] at hcl hxin
                      have HXU := Lib.hid hx
                      by_cases hq : x < 0
                      · have HQ : Hid (isGapB s u = true) := Lib.hid (by unfold isGapB; rw [hx]; exact decide_eq_true (by omega))
                        have dq : decide (x < 0) = true := decide_eq_true hq
                        clear hq hx HXQ hxin
                        go_wp2
                        go_roundw
                        case rel => exact ⟨u + 1, by omega, by omega, by go_num, Lib.hid (fun j a b => by
                          by_cases hju : j = u
                          · rw [hju]; exact HQ.out
                          · exact HUP.out j a (by omega)), HB, HO⟩
                        case measure => simp [intOf]; omega
                      · have HEU : Hid (u = n ∨ isGapB s u = false) := Lib.hid (.inr (by unfold isGapB; rw [hx]; exact decide_eq_false (by omega)))
                        have dq : decide (x < 0) = false := decide_eq_false hq
                        clear hq hx HXQ hxin
                        obtain ⟨y, hy⟩ : ∃ y, s.getD (f - 1) 0 = y := ⟨_, rfl⟩
                        have HY1 := Lib.hid hy
                        have HY1B : Hid (s.getD f' 0 = y) := Lib.hid (by have := HFF.out; rw [show f' = f - 1 by omega]; exact hy)
                        have hcf0 := HCS.out wr HB.out f' (by omega)
                        rw [HY1B.out] at hcf0
                        clear hy
                        by_cases hyx : y = x
                        · have dyx : (y == x) = true := by simpa using hyx
                          have HYES : Hid (0 < f ∧ u < n ∧ s.getD (f - 1) 0 = s.getD u 0) := Lib.hid ⟨by have := HFF.out; omega, hul, by rw [HY1.out, HXU.out]; exact hyx⟩
                          have HUX := Lib.hid hyx
                          clear hyx
                          have HFIN : Hid (finL bz s k = if 0 < f ∧ u < n ∧ s.getD (f - 1) 0 = s.getD u 0 then s.getD (f - 1) 0 else bz) := Lib.hid (fin_ref HSN.out hlt hfk huk hun HDN.out HEF.out HUP.out HEU.out)
                          have HNX1 := Lib.hid (fin_next bz s k)
                          have HNX : Hid (icells ((List.range k).map (finL bz s)) ++ [.int .i64 y] = icells ((List.range (k + 1)).map (finL bz s))) := Lib.hid (by rw [← HNX1.out, HFIN.out, if_pos HYES.out, HY1.out])
                          go_wp2_with fail
                          go_quiet (fail)
                          have HBD0 := Lib.hid (HB.out.trans ((below_drewN (Below.refl _ wr) nq).mono HB.out.size))
                          have HO20 := Lib.hid (own_after (below_drewN (Below.refl _ wr) nq) HO.out)
                          obtain ⟨wd, hwd⟩ : ∃ wd, wr.drewN nq = wd := ⟨_, rfl⟩
                          rw [hwd] at HBD0 HO20 ⊢
                          have HBD : Hid (Below wS.heap.size wS wd) := HBD0
                          have HO2 : Hid (wd.ownsRow wS.heap.size 3 1 (.slice oa k oc) k (icells ((List.range k).map (finL bz s)))) := HO20
                          have hsd := HBD.out.size
                          clear hwd HBD0 HO20
                          have hcf := HCS.out wd HBD.out f' (by omega)
                          rw [HY1B.out] at hcf
                          go_wp2_with (at_builtin; refine wpList_append_own _ rfl _ _ 22 rfl wS.heap.size 3 i0 (.int .i64 0) 1 8 Tryd.underlying22 hif hz0 hz1 hz2 rfl (by decide) (.slice oa k oc) k (icells ((List.range k).map (finL bz s))) rfl (HO2.out.alloc _) ⟨wd.heap.size, 0, none⟩ 1 1 [.int .i64 y] rfl rfl (cell_one_new _ _ _) (by simp [Value.oneCell']) (by unfold maxLen; omega) (by omega) (by simp; omega) ?_; intro v' w3 hown' hgrow _; have HO3 := Lib.hid hown'; have HB3 := Lib.hid ((HBD.out.alloc HBD.out.size _).grown hgrow (by simp; omega) (fun r e => (HO2.out.lt r e).1)); obtain ⟨oa', oc', rfl⟩ := own_slice hown'; clear hown' hgrow)
                          go_roundw
                          case rel => exact ⟨k + 1, _, _, by omega, by go_num, rfl, HB3, Lib.hid (by rw [← HNX.out]; exact HO3.out)⟩
                          case measure => simp [intOf]; omega
                        · have dyx : (y == x) = false := by simpa using hyx
                          have HNOT : Hid (¬ (0 < f ∧ u < n ∧ s.getD (f - 1) 0 = s.getD u 0)) := Lib.hid (fun h => hyx (by rw [← HY1.out, ← HXU.out]; exact h.2.2))
                          clear hyx
                          have HFIN : Hid (finL bz s k = if 0 < f ∧ u < n ∧ s.getD (f - 1) 0 = s.getD u 0 then s.getD (f - 1) 0 else bz) := Lib.hid (fin_ref HSN.out hlt hfk huk hun HDN.out HEF.out HUP.out HEU.out)
                          have HNX1 := Lib.hid (fin_next bz s k)
                          have HNX : Hid (icells ((List.range k).map (finL bz s)) ++ [.int .i64 bz] = icells ((List.range (k + 1)).map (finL bz s))) := Lib.hid (by rw [← HNX1.out, HFIN.out, if_neg HNOT.out])
                          go_wp2_with fail
                          go_quiet (fail)
                          have HBD0 := Lib.hid (HB.out.trans ((below_drewN (Below.refl _ wr) nq).mono HB.out.size))
                          have HO20 := Lib.hid (own_after (below_drewN (Below.refl _ wr) nq) HO.out)
                          obtain ⟨wd, hwd⟩ : ∃ wd, wr.drewN nq = wd := ⟨_, rfl⟩
                          rw [hwd] at HBD0 HO20 ⊢
                          have HBD : Hid (Below wS.heap.size wS wd) := HBD0
                          have HO2 : Hid (wd.ownsRow wS.heap.size 3 1 (.slice oa k oc) k (icells ((List.range k).map (finL bz s)))) := HO20
                          have hsd := HBD.out.size
                          clear hwd HBD0 HO20
                          go_wp2_with fail
                          (with_reducible refine (HBS.out wd).mono ?_)
                          rintro e w_ ⟨rfl, hw_⟩
                          have hw2_ := hw_.symm
                          subst hw2_
                          clear hw_
                          go_wp2_with (at_builtin; refine wpList_append_own _ rfl _ _ 22 rfl wS.heap.size 3 i0 (.int .i64 0) 1 8 Tryd.underlying22 hif hz0 hz1 hz2 rfl (by decide) (.slice oa k oc) k (icells ((List.range k).map (finL bz s))) rfl (HO2.out.alloc _) ⟨wd.heap.size, 0, none⟩ 1 1 [.int .i64 bz] rfl rfl (cell_one_new _ _ _) (by simp [Value.oneCell']) (by unfold maxLen; omega) (by omega) (by simp; omega) ?_; intro v' w3 hown' hgrow _; have HO3 := Lib.hid hown'; have HB3 := Lib.hid ((HBD.out.alloc HBD.out.size _).grown hgrow (by simp; omega) (fun r e => (HO2.out.lt r e).1)); obtain ⟨oa', oc', rfl⟩ := own_slice hown'; clear hown' hgrow)
                          go_roundw
                          case rel => exact ⟨k + 1, _, _, by omega, by go_num, rfl, HB3, Lib.hid (by rw [← HNX.out]; exact HO3.out)⟩
                          case measure => simp [intOf]; omega
                    · have HEU : Hid (u = n ∨ isGapB s u = false) := Lib.hid (.inl (by omega))
                      have HFIN : Hid (finL bz s k = if 0 < f ∧ u < n ∧ s.getD (f - 1) 0 = s.getD u 0 then s.getD (f - 1) 0 else bz) := Lib.hid (fin_ref HSN.out hlt hfk huk hun HDN.out HEF.out HUP.out HEU.out)
                      have HNX1 := Lib.hid (fin_next bz s k)
                      have HNOT : Hid (¬ (0 < f ∧ u < n ∧ s.getD (f - 1) 0 = s.getD u 0)) := Lib.hid (fun h => by omega)
                      have HNX : Hid (icells ((List.range k).map (finL bz s)) ++ [.int .i64 bz] = icells ((List.range (k + 1)).map (finL bz s))) := Lib.hid (by rw [← HNX1.out, HFIN.out, if_neg HNOT.out])
                      go_wp2_with fail
                      go_quiet (fail)
                      have HBD0 := Lib.hid (HB.out.trans ((below_drewN (Below.refl _ wr) nq).mono HB.out.size))
                      have HO20 := Lib.hid (own_after (below_drewN (Below.refl _ wr) nq) HO.out)
                      obtain ⟨wd, hwd⟩ : ∃ wd, wr.drewN nq = wd := ⟨_, rfl⟩
                      rw [hwd] at HBD0 HO20 ⊢
                      have HBD : Hid (Below wS.heap.size wS wd) := HBD0
                      have HO2 : Hid (wd.ownsRow wS.heap.size 3 1 (.slice oa k oc) k (icells ((List.range k).map (finL bz s)))) := HO20
                      have hsd := HBD.out.size
                      clear hwd HBD0 HO20
                      go_wp2_with fail
                      (with_reducible refine (HBS.out wd).mono ?_)
                      rintro e w_ ⟨rfl, hw_⟩
                      have hw2_ := hw_.symm
                      subst hw2_
                      clear hw_
                      go_wp2_with (at_builtin; refine wpList_append_own _ rfl _ _ 22 rfl wS.heap.size 3 i0 (.int .i64 0) 1 8 Tryd.underlying22 hif hz0 hz1 hz2 rfl (by decide) (.slice oa k oc) k (icells ((List.range k).map (finL bz s))) rfl (HO2.out.alloc _) ⟨wd.heap.size, 0, none⟩ 1 1 [.int .i64 bz] rfl rfl (cell_one_new _ _ _) (by simp [Value.oneCell']) (by unfold maxLen; omega) (by omega) (by simp; omega) ?_; intro v' w3 hown' hgrow _; have HO3 := Lib.hid hown'; have HB3 := Lib.hid ((HBD.out.alloc HBD.out.size _).grown hgrow (by simp; omega) (fun r e => (HO2.out.lt r e).1)); obtain ⟨oa', oc', rfl⟩ := own_slice hown'; clear hown' hgrow)
                      go_roundw
                      case rel => exact ⟨k + 1, _, _, by omega, by go_num, rfl, HB3, Lib.hid (by rw [← HNX.out]; exact HO3.out)⟩
                      case measure => simp [intOf]; omega
              · have HEF : Hid (f = 0 ∨ isGapB s (f - 1) = false) := Lib.hid (.inl (by omega))
                have hzz : z = -1 := by omega
                subst hzz
                clear hzf
                go_wp2
                go_loopw [13] (fun s13 wr => ∃ u : Nat, k ≤ u ∧ u ≤ n ∧ s13 = .int .i64 (u : Int) ∧ Hid (∀ j, k ≤ j → j < u → isGapB s j = true) ∧ Hid (Below wS.heap.size wS wr) ∧ Hid (wr.ownsRow wS.heap.size 3 1 (.slice oa k oc) k (icells ((List.range k).map (finL bz s))))) (fun s13 _ => n - (intOf s13).toNat)
                case atStart => exact ⟨k, Nat.le_refl _, by omega, rfl, Lib.hid (fun j a b => by omega), HB, HO⟩
                case round =>
                  obtain ⟨u, huk, hun, rfl, HUP, HB, HO⟩ := hrel
                  by_cases hul : u < n
                  · have hcl := HCS.out wr HB.out u hul
                    have hxin := HIN.out u hul
                    have HXQ : Hid (∃ x, s.getD u 0 = x) := Lib.hid ⟨_, rfl⟩
                    obtain ⟨x, hx⟩ := HXQ.out
                    rw [hx] at hcl hxin
                    have HXU := Lib.hid hx
                    by_cases hq : x < 0
                    · have HQ : Hid (isGapB s u = true) := Lib.hid (by unfold isGapB; rw [hx]; exact decide_eq_true (by omega))
                      have dq : decide (x < 0) = true := decide_eq_true hq
                      clear hq hx HXQ hxin
                      go_wp2
                      go_roundw
                      case rel => exact ⟨u + 1, by omega, by omega, by go_num, Lib.hid (fun j a b => by
                        by_cases hju : j = u
                        · rw [hju]; exact HQ.out
                        · exact HUP.out j a (by omega)), HB, HO⟩
                      case measure => simp [intOf]; omega
                    · have HEU : Hid (u = n ∨ isGapB s u = false) := Lib.hid (.inr (by unfold isGapB; rw [hx]; exact decide_eq_false (by omega)))
                      have dq : decide (x < 0) = false := decide_eq_false hq
                      clear hq hx HXQ hxin
                      have HFIN : Hid (finL bz s k = if 0 < f ∧ u < n ∧ s.getD (f - 1) 0 = s.getD u 0 then s.getD (f - 1) 0 else bz) := Lib.hid (fin_ref HSN.out hlt hfk huk hun HDN.out HEF.out HUP.out HEU.out)
                      have HNX1 := Lib.hid (fin_next bz s k)
                      have HNOT : Hid (¬ (0 < f ∧ u < n ∧ s.getD (f - 1) 0 = s.getD u 0)) := Lib.hid (by omega)
                      have HNX : Hid (icells ((List.range k).map (finL bz s)) ++ [.int .i64 bz] = icells ((List.range (k + 1)).map (finL bz s))) := Lib.hid (by rw [← HNX1.out, HFIN.out, if_neg HNOT.out])
                      go_wp2_with fail
                      go_quiet (fail)
                      have HBD0 := Lib.hid (HB.out.trans ((below_drewN (Below.refl _ wr) nq).mono HB.out.size))
                      have HO20 := Lib.hid (own_after (below_drewN (Below.refl _ wr) nq) HO.out)
                      obtain ⟨wd, hwd⟩ : ∃ wd, wr.drewN nq = wd := ⟨_, rfl⟩
                      rw [hwd] at HBD0 HO20 ⊢
                      have HBD : Hid (Below wS.heap.size wS wd) := HBD0
                      have HO2 : Hid (wd.ownsRow wS.heap.size 3 1 (.slice oa k oc) k (icells ((List.range k).map (finL bz s)))) := HO20
                      have hsd := HBD.out.size
                      clear hwd HBD0 HO20
                      go_wp2_with fail
                      (with_reducible refine (HBS.out wd).mono ?_)
                      rintro e w_ ⟨rfl, hw_⟩
                      have hw2_ := hw_.symm
                      subst hw2_
                      clear hw_
                      go_wp2_with (at_builtin; refine wpList_append_own _ rfl _ _ 22 rfl wS.heap.size 3 i0 (.int .i64 0) 1 8 Tryd.underlying22 hif hz0 hz1 hz2 rfl (by decide) (.slice oa k oc) k (icells ((List.range k).map (finL bz s))) rfl (HO2.out.alloc _) ⟨wd.heap.size, 0, none⟩ 1 1 [.int .i64 bz] rfl rfl (cell_one_new _ _ _) (by simp [Value.oneCell']) (by unfold maxLen; omega) (by omega) (by simp; omega) ?_; intro v' w3 hown' hgrow _; have HO3 := Lib.hid hown'; have HB3 := Lib.hid ((HBD.out.alloc HBD.out.size _).grown hgrow (by simp; omega) (fun r e => (HO2.out.lt r e).1)); obtain ⟨oa', oc', rfl⟩ := own_slice hown'; clear hown' hgrow)
                      go_roundw
                      case rel => exact ⟨k + 1, _, _, by omega, by go_num, rfl, HB3, Lib.hid (by rw [← HNX.out]; exact HO3.out)⟩
                      case measure => simp [intOf]; omega
                  · have HEU : Hid (u = n ∨ isGapB s u = false) := Lib.hid (.inl (by omega))
                    have HFIN : Hid (finL bz s k = if 0 < f ∧ u < n ∧ s.getD (f - 1) 0 = s.getD u 0 then s.getD (f - 1) 0 else bz) := Lib.hid (fin_ref HSN.out hlt hfk huk hun HDN.out HEF.out HUP.out HEU.out)
                    have HNX1 := Lib.hid (fin_next bz s k)
                    have HNOT : Hid (¬ (0 < f ∧ u < n ∧ s.getD (f - 1) 0 = s.getD u 0)) := Lib.hid (by omega)
                    have HNX : Hid (icells ((List.range k).map (finL bz s)) ++ [.int .i64 bz] = icells ((List.range (k + 1)).map (finL bz s))) := Lib.hid (by rw [← HNX1.out, HFIN.out, if_neg HNOT.out])
                    go_wp2_with fail
                    go_quiet (fail)
                    have HBD0 := Lib.hid (HB.out.trans ((below_drewN (Below.refl _ wr) nq).mono HB.out.size))
                    have HO20 := Lib.hid (own_after (below_drewN (Below.refl _ wr) nq) HO.out)
                    obtain ⟨wd, hwd⟩ : ∃ wd, wr.drewN nq = wd := ⟨_, rfl⟩
                    rw [hwd] at HBD0 HO20 ⊢
                    have HBD : Hid (Below wS.heap.size wS wd) := HBD0
                    have HO2 : Hid (wd.ownsRow wS.heap.size 3 1 (.slice oa k oc) k (icells ((List.range k).map (finL bz s)))) := HO20
                    have hsd := HBD.out.size
                    clear hwd HBD0 HO20
                    go_wp2_with fail
                    (with_reducible refine (HBS.out wd).mono ?_)
                    rintro e w_ ⟨rfl, hw_⟩
                    have hw2_ := hw_.symm
                    subst hw2_
                    clear hw_
                    go_wp2_with (at_builtin; refine wpList_append_own _ rfl _ _ 22 rfl wS.heap.size 3 i0 (.int .i64 0) 1 8 Tryd.underlying22 hif hz0 hz1 hz2 rfl (by decide) (.slice oa k oc) k (icells ((List.range k).map (finL bz s))) rfl (HO2.out.alloc _) ⟨wd.heap.size, 0, none⟩ 1 1 [.int .i64 bz] rfl rfl (cell_one_new _ _ _) (by simp [Value.oneCell']) (by unfold maxLen; omega) (by omega) (by simp; omega) ?_; intro v' w3 hown' hgrow _; have HO3 := Lib.hid hown'; have HB3 := Lib.hid ((HBD.out.alloc HBD.out.size _).grown hgrow (by simp; omega) (fun r e => (HO2.out.lt r e).1)); obtain ⟨oa', oc', rfl⟩ := own_slice hown'; clear hown' hgrow)
                    go_roundw
                    case rel => exact ⟨k + 1, _, _, by omega, by go_num, rfl, HB3, Lib.hid (by rw [← HNX.out]; exact HO3.out)⟩
                    case measure => simp [intOf]; omega
          · have hkn : n = k := by omega
            subst hkn
            have HIR := Lib.hid (IRow.of_own (l := (List.range n).map (finL bz s)) (by rw [List.length_map, List.length_range]; exact HO.out))
            rw [← HLV.out] at HIR
            have HBF := Lib.hid (HBS0.out.trans (HB.out.mono HBS0.out.size))
            go_wp2
            go_ret2
            rw [HOV.out, HOE.out, HA.out]
            exact ⟨_, rfl, HIR.out, HBF.out⟩
end Go.Proofs.YtilkhamlhbbmgaaDoor
