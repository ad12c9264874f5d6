/- Direction: the reference's Show, and the law DirectionShowSpec, walked. -/
import Derived.Test.YtilkhamlhbbmgaaDoorSnd
import Derived.Test.YtilkhamlhbbmgaaDoorRjn
namespace Go.Proofs.YtilkhamlhbbmgaaDoor
open Go.RowKit

theorem finL_in (b : Int) (hb : b = 0 ∨ b = 1) (l : List Int) (i : Nat) (hi1 : i < l.length) : 0 ≤ finL b (l.map (own b)) i ∧ finL b (l.map (own b)) i ≤ 2 := by
  have hs : ∀ j, j < l.length → isGapB (l.map (own b)) j = false → 0 ≤ (l.map (own b)).getD j 0 ∧ (l.map (own b)).getD j 0 ≤ 2 := fun j hj hg => by
    have e : (l.map (own b)).getD j 0 = own b l[j] := by simp [List.getD, hj]
    unfold isGapB at hg
    rw [e] at hg ⊢
    have h1 := own_in b l[j] hb
    have h2 : own b l[j] ≠ -1 := by simpa using hg
    omega
  unfold finL
  by_cases hg : isGapB (l.map (own b)) i = true
  · rw [if_pos hg]
    by_cases hc : 0 < lo (isGapB (l.map (own b))) i ∧ hi (isGapB (l.map (own b))) (l.map (own b)).length i < (l.map (own b)).length ∧ (l.map (own b)).getD (lo (isGapB (l.map (own b))) i - 1) 0 = (l.map (own b)).getD (hi (isGapB (l.map (own b))) (l.map (own b)).length i) 0
    · rw [if_pos hc]
      have hlt := hc.2.1
      obtain ⟨h1, h2, h3, h4⟩ := up_spec (isGapB (l.map (own b))) (l.map (own b)).length ((l.map (own b)).length - i) i rfl (by simp; omega)
      refine hs _ (by simpa using hlt) ?_
      rcases h4 with h4 | h4
      · have : hi (isGapB (l.map (own b))) (l.map (own b)).length i = (l.map (own b)).length := h4
        omega
      · exact h4
    · rw [if_neg hc]; omega
  · rw [if_neg hg]
    exact hs i hi1 (by simpa using hg)
theorem lvL_fine (b : Int) (hb : b = 0 ∨ b = 1) (l : List Int) (hl : l.length ≤ 4096) : odE (lvL b l) = 0 ∧ odV (lvL b l) = orL (lvL b l) := by
  have h : (lvL b l).any noLv = false := by
    rw [List.any_eq_false]
    intro x hx
    unfold lvL at hx
    obtain ⟨i, hi1, rfl⟩ := List.mem_map.1 hx
    rw [List.mem_range] at hi1
    have := finL_in b hb l i hi1
    unfold noLv
    simp
    omega
  have e : odE (lvL b l) = 0 := by unfold odE; rw [lvL_len, if_neg (by omega), h]; rfl
  exact ⟨e, by unfold odV; rw [if_pos e]⟩
theorem lvV_fine (b : Int) (l : List Int) (hl : l.length ≤ 4096) (hok : ∀ r ∈ l, okPt r = true) : lvE l = 0 ∧ lvV b l = lvL b l := by
  have h : (l.any fun r => !okPt r) = false := by
    rw [List.any_eq_false]
    intro x hx
    rw [hok x hx]; simp
  have e : lvE l = 0 := by unfold lvE; rw [if_neg (by omega), h]; rfl
  exact ⟨e, by unfold lvV; rw [if_pos e]⟩
theorem sh_next (l o : List Int) (k : Nat) : icells ((List.range k).map fun j => l.getD (o.getD j 0).toNat 0) ++ [.int .i64 (l.getD (o.getD k 0).toNat 0)] = icells ((List.range (k + 1)).map fun j => l.getD (o.getD j 0).toNat 0) := by simp [icells, List.range_succ]
set_option maxRecDepth 100000 in
set_option maxHeartbeats 8000000 in
theorem rshow_any (w : World) (bs : List UInt8) (x : Bool) : Calls Tryd.prog 38 #[.string (str bs), .bool x] w fun e w' => e = .returned (.tuple #[.string (str (shS (bsOf x) bs)), .int .i64 (shE (bsOf x) bs)]) ∧ Below w.heap.size w w' := by
  have HR := Lib.hid (rrunes_any w bs)
  have hbs := bs0_22
  by_cases hz : rnsE bs = 0
  · obtain ⟨q1, q2, q3, q4⟩ := rns_ok hz
    have hln : (rnsV bs).length ≤ 4096 := by have := (encs_len (rnsV bs)).1; have h2 := congrArg List.length q4; omega
    unfold shS shE
    rw [if_pos hz, if_pos hz]
    rw [hz] at HR
    obtain ⟨l, hl⟩ : ∃ l, rnsV bs = l := ⟨_, rfl⟩
    rw [hl] at HR q3 hln ⊢
    obtain ⟨i0, hif, hz0, hz1, hz2⟩ := info_parts Tryd.info3r
    obtain ⟨f1, f2⟩ := lvV_fine (bsOf x) l hln q3
    obtain ⟨f3, f4⟩ := lvL_fine (bsOf x) (bsOf_in x) l hln
    have HLV := Lib.hid (fun (W : World) (v : Value) (hv : IRow W W.heap.size v l) => rlevels_any W v l hv x)
    rw [f1, f2] at HLV
    have HLN := Lib.hid (lvL_len (bsOf x) l)
    have HSE : Hid (((List.range l.length).map fun j => l.getD ((orL (lvL (bsOf x) l)).getD j 0).toNat 0) = shL (bsOf x) l) := Lib.hid rfl
    have HSL := Lib.hid (shL_len (bsOf x) l)
    obtain ⟨lv, hlv⟩ : ∃ z, lvL (bsOf x) l = z := ⟨_, rfl⟩
    rw [hlv] at HLV HLN HSE f3 f4
    have HOR := Lib.hid (fun (W : World) (v : Value) (hv : IRow W W.heap.size v lv) => rorder_any W v lv hv)
    rw [f3, f4] at HOR
    have HOI := Lib.hid (orL_in lv)
    have HOL := Lib.hid (orL_len lv)
    obtain ⟨bz, hbz⟩ : ∃ z, bsOf x = z := ⟨_, rfl⟩
    rw [hbz] at HSE HSL ⊢
    obtain ⟨o, ho⟩ : ∃ z, orL lv = z := ⟨_, rfl⟩
    rw [ho] at HOR HOI HOL HSE
    rw [HLN.out] at HOI HOL
    obtain ⟨sh, hsh⟩ : ∃ z, shL bz l = z := ⟨_, rfl⟩
    rw [hsh] at HSE HSL ⊢
    have HJ := Lib.hid (fun (W : World) (v : Value) (hv : IRow W W.heap.size v sh) => rjoin_any W v sh hv (by rw [HSL.out]; omega))
    have HSN := Lib.hid (fun k => sh_next l o k)
    obtain ⟨n, hN⟩ : ∃ n, l.length = n := ⟨_, rfl⟩
    rw [hN] at HOI HOL HSE HSL hln
    have HN := Lib.hid hN
    obtain ⟨s, hs⟩ : ∃ s, str bs = s := ⟨_, rfl⟩
    rw [hs] at HR ⊢
    clear hz q1 q2 q3 q4 hl hlv hbz ho hsh hN hs f1 f2 f3 f4
    go_enter Tryd.func38, Tryd.ntmps38
    go_wp2_with fail
    refine HR.out.mono ?_
    rintro e w1 ⟨v1, rfl, ho1, hb1⟩
    have HI1 := Lib.hid (IRow.of_own ho1)
    have HB1 := Lib.hid hb1
    clear ho1 hb1
    have HLV1 := Lib.hid (HLV.out w1 v1 HI1.out)
    obtain ⟨a1, c1, e1, hc1, hm1, HC1⟩ := HI1.out.laterD
    subst e1
    rw [HN.out] at hc1 HLV1 HI1 HC1 ⊢
    have HC1 := Lib.hid HC1
    go_wp2_with fail
    refine HLV1.out.mono ?_
    rintro e w2 ⟨v2, rfl, hv2, hb⟩
    have HO2 := Lib.hid (HOR.out w2 v2 hv2)
    have HB2 := Lib.hid hb
    clear hb hv2
    go_wp2_with fail
    refine HO2.out.mono ?_
    rintro e w3 ⟨v3, rfl, hv3, hb⟩
    have HB3 := Lib.hid (HB2.out.trans (hb.mono HB2.out.size))
    obtain ⟨a3, c3, e3, hc3, hm3, HC3⟩ := hv3.laterD
    subst e3
    rw [HOL.out] at hc3 HC3 ⊢
    have HC3 := Lib.hid HC3
    unfold maxLen at hm1 hm3
    clear hb hv3 HO2 HLV1
    go_wp2
    go_loopw [12, 13] (fun s12 s13 wr => ∃ (k : Nat) (oa : Option Addr) (oc : Nat), k ≤ n ∧ s13 = .int .i64 (k : Int) ∧ s12 = .slice oa k oc ∧ Hid (Below w3.heap.size w3 wr) ∧ Hid (wr.ownsRow w3.heap.size 3 1 (.slice oa k oc) k (icells ((List.range k).map fun j => l.getD (o.getD j 0).toNat 0)))) (fun _ s13 _ => n - (intOf s13).toNat)
    case atStart => exact ⟨0, _, _, Nat.zero_le _, rfl, rfl, Lib.hid (below_alloc w3 _), Lib.hid (own_empty w3 _ 3 (Nat.le_refl _))⟩
    case round =>
      obtain ⟨k, oa, oc, hk, rfl, rfl, HB, HO⟩ := hrel
      by_cases hlt : k < n
      · obtain ⟨b3, o3, rfl, hcell3⟩ := HC3.out wr HB.out k hlt
        obtain ⟨hoi1, hoi2⟩ := HOI.out k hlt
        have HS1 := HSN.out k
        obtain ⟨y, hy⟩ : ∃ y : Nat, o.getD k 0 = (y : Int) := ⟨(o.getD k 0).toNat, by omega⟩
        rw [hy, Int.toNat_natCast] at HS1
        rw [hy] at hcell3 hoi1 hoi2
        have hyn : y < n := by omega
        obtain ⟨b1, o1, rfl, hcell1⟩ := HC1.out wr (HB3.out.trans (HB.out.mono HB3.out.size)) y hyn
        obtain ⟨z, hzz⟩ : ∃ z, l.getD y 0 = z := ⟨_, rfl⟩
        rw [hzz] at hcell1 HS1
        have HS2 := Lib.hid HS1
        have hbz2 := HB.out.size
        clear hy HS1 hzz
        go_wp2_with (at_builtin; refine wpList_append_own _ rfl _ _ 22 rfl w3.heap.size 3 i0 (.int .i64 0) 1 8 Tryd.underlying22 hif hz0 hz1 hz2 rfl (by decide) (.slice oa k oc) k (icells ((List.range k).map fun j => l.getD (o.getD j 0).toNat 0)) rfl (HO.out.alloc _) ⟨wr.heap.size, 0, none⟩ 1 1 [.int .i64 z] rfl rfl (cell_one_new _ _ _) (by simp [Value.oneCell']) (by unfold maxLen; omega) (by omega) (by simp; omega) ?_; intro v' w4 hown' hgrow _; have HO3 := Lib.hid hown'; have HB4 := Lib.hid ((HB.out.alloc HB.out.size _).grown hgrow (by simp; omega) (fun r e => (HO.out.lt r e).1)); obtain ⟨oa', oc', rfl⟩ := own_slice hown'; clear hown' hgrow)
        go_roundw
        case rel => exact ⟨k + 1, _, _, by omega, by go_num, rfl, HB4, Lib.hid (by rw [← HS2.out]; exact HO3.out)⟩
        case measure => simp [intOf]; omega
      · have hkn : n = k := by omega
        subst hkn
        have hro := HO.out
        rw [HSE.out] at hro
        have HIR := Lib.hid (IRow.of_own (l := sh) (by rw [HSL.out]; exact hro))
        have HJ1 := Lib.hid (HJ.out wr _ HIR.out)
        have HBF := Lib.hid (HB1.out.trans ((HB3.out.trans (HB.out.mono HB3.out.size)).mono HB1.out.size))
        clear hro
        go_wp2_with fail
        refine HJ1.out.mono ?_
        rintro e w5 ⟨rfl, hb⟩
        have HB5 := Lib.hid (HBF.out.trans (hb.mono HBF.out.size))
        clear hb
        go_wp2
        go_ret2
        exact ⟨rfl, HB5.out⟩
  · unfold shS shE
    rw [if_neg hz, if_neg hz]
    obtain ⟨s, hs⟩ : ∃ s, str bs = s := ⟨_, rfl⟩
    obtain ⟨z, hz2⟩ : ∃ z, rnsE bs = z := ⟨_, rfl⟩
    obtain ⟨l, hl⟩ : ∃ l, rnsV bs = l := ⟨_, rfl⟩
    rw [hs, hz2, hl] at HR
    rw [hz2] at hz ⊢
    rw [hs]
    have dz : (z == 0) = false := by simpa using hz
    have dz2 : (z != 0) = true := by simpa using hz
    clear hs hz2 hl hz
    go_enter Tryd.func38, Tryd.ntmps38
    go_wp2_with fail
    refine HR.out.mono ?_
    rintro e w1 ⟨v1, rfl, ho1, hb1⟩
    have HB1 := Lib.hid hb1
    clear ho1 hb1
    go_wp2
    go_ret2
    exact ⟨rfl, HB1.out⟩
set_option maxRecDepth 100000 in
set_option maxHeartbeats 8000000 in
theorem lawShow (w : World) (s0 : ByteArray) (x : Bool) (hT : DTab w) : Calls Tryd.prog 11 #[.string s0, .bool x] w fun e w' => e = .returned (.bool true) ∧ Below w.heap.size w w' := by
  obtain ⟨bs, rfl⟩ : ∃ bs, s0 = str bs := ⟨s0.data.toList, (str_of s0).symm⟩
  have HSN := Lib.hid (sane10_any w hT)
  have hsz := str_size bs
  have HS := Lib.hid (fun (W : World) (hW : Below w.heap.size w W) => show_any W bs x (hT.below hW))
  have HSR := Lib.hid (fun (W : World) => rshow_any W bs x)
  obtain ⟨s, hs⟩ : ∃ s, str bs = s := ⟨_, rfl⟩
  obtain ⟨n, hn⟩ : ∃ n, bs.length = n := ⟨_, rfl⟩
  obtain ⟨t, ht⟩ : ∃ t, str (shS (bsOf x) bs) = t := ⟨_, rfl⟩
  obtain ⟨z, hz⟩ : ∃ t, shE (bsOf x) bs = t := ⟨_, rfl⟩
  rw [hs, hn] at hsz
  rw [hs, ht, hz] at HS HSR
  rw [hs]
  clear hs hn ht hz hT
  have hcs : (decide (300 < (n : Int)) = true ∧ decide ((n : Int) ≤ 4096) = true) ∨ (decide (300 < (n : Int)) = true ∧ decide ((n : Int) ≤ 4096) = false ∧ decide (5000 < (n : Int)) = true) ∨ (decide (300 < (n : Int)) = true ∧ decide ((n : Int) ≤ 4096) = false ∧ decide (5000 < (n : Int)) = false) ∨ (decide (300 < (n : Int)) = false ∧ decide (5000 < (n : Int)) = false) := by
    by_cases h1 : 300 < n
    · by_cases h2 : n ≤ 4096
      · exact .inl ⟨by simp; omega, by simp; omega⟩
      · by_cases h3 : 5000 < n
        · exact .inr (.inl ⟨by simp; omega, by simp; omega, by simp; omega⟩)
        · exact .inr (.inr (.inl ⟨by simp; omega, by simp; omega, by simp; omega⟩))
    · exact .inr (.inr (.inr ⟨by simp; omega, by simp; omega⟩))
  rcases hcs with ⟨d1, d2⟩ | ⟨d1, d2, d3⟩ | ⟨d1, d2, d3⟩ | ⟨d1, d3⟩
  · skip
    go_enter Tryd.func11, Tryd.ntmps11
    go_wp2_with fail
    (with_reducible refine (HSN.out).mono ?_)
    rintro e w1 ⟨rfl, hb⟩
    have HB1 := Lib.hid hb
    clear hb
    go_wp2
    go_ret
    exact ⟨rfl, HB1.out⟩
  · skip
    go_enter Tryd.func11, Tryd.ntmps11
    go_wp2_with fail
    (with_reducible refine (HSN.out).mono ?_)
    rintro e w1 ⟨rfl, hb⟩
    have HB1 := Lib.hid hb
    clear hb
    go_wp2
    go_ret
    exact ⟨rfl, HB1.out⟩
  · skip
    go_enter Tryd.func11, Tryd.ntmps11
    go_wp2_with fail
    (with_reducible refine (HSN.out).mono ?_)
    rintro e w1 ⟨rfl, hb⟩
    have HB1 := Lib.hid hb
    clear hb
    go_wp2_with fail
    (with_reducible refine (HS.out w1 HB1.out).mono ?_)
    rintro e w2 ⟨rfl, hb⟩
    have HB2 := Lib.hid (HB1.out.trans (hb.mono HB1.out.size))
    clear hb
    go_wp2_with fail
    (with_reducible refine (HSR.out w2).mono ?_)
    rintro e w3 ⟨rfl, hb⟩
    have HB3 := Lib.hid (HB2.out.trans (hb.mono HB2.out.size))
    clear hb
    go_wp2
    go_ret
    exact ⟨by simp, HB3.out⟩
  · skip
    go_enter Tryd.func11, Tryd.ntmps11
    go_wp2_with fail
    (with_reducible refine (HSN.out).mono ?_)
    rintro e w1 ⟨rfl, hb⟩
    have HB1 := Lib.hid hb
    clear hb
    go_wp2_with fail
    (with_reducible refine (HS.out w1 HB1.out).mono ?_)
    rintro e w2 ⟨rfl, hb⟩
    have HB2 := Lib.hid (HB1.out.trans (hb.mono HB1.out.size))
    clear hb
    go_wp2_with fail
    (with_reducible refine (HSR.out w2).mono ?_)
    rintro e w3 ⟨rfl, hb⟩
    have HB3 := Lib.hid (HB2.out.trans (hb.mono HB2.out.size))
    clear hb
    go_wp2
    go_ret
    exact ⟨by simp, HB3.out⟩
end Go.Proofs.YtilkhamlhbbmgaaDoor
