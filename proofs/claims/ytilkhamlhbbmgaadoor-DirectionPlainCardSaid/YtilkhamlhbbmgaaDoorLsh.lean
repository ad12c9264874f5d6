/- Direction: Levels, Show. -/
import Derived.Test.YtilkhamlhbbmgaaDoorLvo
import Derived.Test.YtilkhamlhbbmgaaDoorLbk
namespace Go.Proofs.YtilkhamlhbbmgaaDoor
open Go.RowKit

theorem lo_le (p : Nat → Bool) : ∀ i, lo p i ≤ i
  | 0 => Nat.le_refl _
  | i + 1 => by unfold lo; have := lo_le p i; split <;> omega
theorem hi_lt {p : Nat → Bool} {n i : Nat} (hi1 : i < n) (hp : p i = true) : i < hi p n i ∧ hi p n i ≤ n := by
  obtain ⟨h1, h2, h3, h4⟩ := up_spec p n (n - i) i rfl (by omega)
  refine ⟨?_, h2⟩
  show i < up p (n - i) i
  rcases Nat.lt_or_ge i (up p (n - i) i) with h | h
  · exact h
  · have e : up p (n - i) i = i := by omega
    rcases h4 with h4 | h4
    · omega
    · rw [e, hp] at h4; cases h4
def InR (o : List Int) (n : Nat) : Prop := ∀ i, i < n → 0 ≤ o.getD i 0 ∧ o.getD i 0 < n
theorem tuL_in (m : Int) (s o : List Int) (h : InR o s.length) : InR (tuL m s o) s.length := by
  intro i hi
  have e : (tuL m s o).getD i 0 = finT m s o i := by simp [tuL, List.getD, hi]
  rw [e]
  unfold finT
  by_cases hp : geB m s i = true
  · rw [if_pos hp]
    have h1 := lo_le (geB m s) i
    have h2 := hi_lt hi hp
    exact h _ (by omega)
  · rw [if_neg hp]; exact h i hi
theorem orL_in (s : List Int) : InR (orL s) s.length := by
  refine tuL_in 1 s _ (tuL_in 2 s _ fun i hi => ?_)
  have e : (idL s.length).getD i 0 = (i : Int) := by simp [idL, List.getD, hi]
  rw [e]; omega
/-- What Levels answers. -/
def lvE (l : List Int) : Int := if 4096 < l.length then 2 else if (l.any fun r => !okPt r) then 90 else 0
def lvV (b : Int) (l : List Int) : List Int := if lvE l = 0 then lvL b l else []
theorem levels_any (w : World) (v : Value) (l : List Int) (hv : IRow w w.heap.size v l) (x : Bool) (hT : DTab w) : Calls Tryd.prog 32 #[v, .bool x] w fun e w' => ∃ u, e = .returned (.tuple #[u, .int .i64 (lvE l)]) ∧ IRow w' w'.heap.size u (lvV (bsOf x) l) ∧ Below w.heap.size w w' := by
  have HC := Lib.hid (contains_55 w v l hv)
  have HB := Lib.hid (fun W => baseOf_any W x)
  have HL := Lib.hid (fun (W : World) (hW : Below w.heap.size w W) (hn : l.length ≤ 4096) (hok : (l.any fun r => !okPt r) = false) => levelsOf_any W v l ((hv.below hW).mono hW.size) (by omega) (fun r hr => by have := List.any_eq_false.1 hok r hr; simpa using this) (hT.below hW) x)
  obtain ⟨a, c, rfl, -⟩ := hv
  unfold lvV lvE
  obtain ⟨bz, hbz⟩ : ∃ z, bsOf x = z := ⟨_, rfl⟩
  rw [hbz] at HB HL ⊢
  obtain ⟨n, hN⟩ : ∃ n, l.length = n := ⟨_, rfl⟩
  rw [hN] at HC HL ⊢
  clear hN hT hbz
  by_cases h1 : 4096 < n
  · have d : decide (4096 < (n : Int)) = true := by simp; omega
    rw [if_pos h1]
    clear h1 HL
    go_enter Tryd.func32, Tryd.ntmps32
    go_wp2
    go_ret2
    exact ⟨_, rfl, IRow.nil _ _, Below.refl _ _⟩
  · have d : decide (4096 < (n : Int)) = false := by simp; omega
    rw [if_neg h1]
    have HL2 := Lib.hid (fun W hW => HL.out W hW (by omega))
    clear h1 HL
    cases ha : (l.any fun r => !okPt r)
    · rw [ha] at HC
      have HL3 := Lib.hid (fun W hW => HL2.out W hW ha)
      rw [if_neg (by simp), if_pos rfl]
      clear ha HL2
      go_enter Tryd.func32, Tryd.ntmps32
      go_wp2_with fail
      refine HC.out.mono ?_
      rintro e w1 ⟨rfl, hb⟩
      have HB1 := Lib.hid hb
      clear hb
      go_wp2_with fail
      refine (HB.out _).mono ?_
      rintro e w_ ⟨rfl, hw_⟩
      have hw2_ := hw_.symm
      subst hw2_
      clear hw_
      go_wp2_with fail
      refine (HL3.out w1 HB1.out).mono ?_
      rintro e w2 ⟨u, rfl, hu, hb⟩
      have HU := Lib.hid hu
      have HB2 := Lib.hid (HB1.out.trans (hb.mono HB1.out.size))
      clear hu hb
      go_wp2
      go_ret2
      exact ⟨_, rfl, HU.out, HB2.out⟩
    · rw [ha] at HC
      rw [if_pos rfl]
      clear ha HL2
      go_enter Tryd.func32, Tryd.ntmps32
      go_wp2_with fail
      refine HC.out.mono ?_
      rintro e w1 ⟨rfl, hb⟩
      have HB1 := Lib.hid hb
      clear hb
      go_wp2
      go_ret2
      exact ⟨_, rfl, IRow.nil _ _, HB1.out⟩
/-- What is shown, as code points. -/
def shF (l o : List Int) (k j : Nat) : Int := if j < k then l.getD (o.getD j 0).toNat 0 else 0
def shL (b : Int) (l : List Int) : List Int := (List.range l.length).map fun j => l.getD ((orL (lvL b l)).getD j 0).toNat 0
theorem shL_len (b : Int) (l : List Int) : (shL b l).length = l.length := by simp [shL]
theorem shF_set (l o : List Int) (n k : Nat) : (icells ((List.range n).map (shF l o k))).set k (.int .i64 (l.getD (o.getD k 0).toNat 0)) = icells ((List.range n).map (shF l o (k + 1))) := by
  simp only [icells, List.map_map]
  apply List.ext_getElem (by simp)
  intro j h1 h2
  rw [List.getElem_set]
  simp only [List.getElem_map, List.getElem_range, Function.comp_apply, shF]
  by_cases h : k = j
  · subst h; rw [if_pos rfl, if_pos (by omega)]
  · rw [if_neg h]
    by_cases h3 : j < k
    · rw [if_pos h3, if_pos (by omega)]
    · rw [if_neg h3, if_neg (by omega)]
theorem shF_end (b : Int) (l : List Int) : (List.range l.length).map (shF l (orL (lvL b l)) l.length) = shL b l := by
  unfold shL
  refine List.map_congr_left fun j hj => ?_
  rw [List.mem_range] at hj
  unfold shF
  rw [if_pos hj]
def shE (b : Int) (bs : List UInt8) : Int := if rnsE bs = 0 then jnE (shL b (rnsV bs)) else rnsE bs
def shS (b : Int) (bs : List UInt8) : List UInt8 := if rnsE bs = 0 then jnS (shL b (rnsV bs)) else []
set_option maxRecDepth 100000 in
set_option maxHeartbeats 8000000 in
theorem show_any (w : World) (bs : List UInt8) (x : Bool) (hT : DTab w) : Calls Tryd.prog 37 #[.string (str bs), .bool x] w fun e w' => e = .returned (.tuple #[.string (str (shS (bsOf x) bs)), .int .i64 (shE (bsOf x) bs)]) ∧ Below w.heap.size w w' := by
  have HR := Lib.hid (runes_any w bs hT.u)
  by_cases hz : rnsE bs = 0
  · obtain ⟨q1, q2, q3, q4⟩ := rns_ok hz
    have hln : (rnsV bs).length ≤ 4096 := by have := (encs_len (rnsV bs)).1; have h2 := congrArg List.length q4; omega
    unfold shS shE
    rw [if_pos hz, if_pos hz]
    rw [hz] at HR
    obtain ⟨l, hl⟩ : ∃ l, rnsV bs = l := ⟨_, rfl⟩
    rw [hl] at HR q3 hln ⊢
    obtain ⟨i0, hi, hz0, hz1, hz2⟩ := info_parts Tryd.info3r
    have HB := Lib.hid (fun W => baseOf_any W x)
    have HLV := Lib.hid (fun (W : World) (hW : Below w.heap.size w W) (v : Value) (hv : IRow W W.heap.size v l) => levelsOf_any W v l hv (by omega) q3 (hT.below hW) x)
    have HLN := Lib.hid (lvL_len (bsOf x) l)
    obtain ⟨lv, hlv⟩ : ∃ z, lvL (bsOf x) l = z := ⟨_, rfl⟩
    rw [hlv] at HLV HLN
    have HOR := Lib.hid (fun (W : World) (v : Value) (hv : IRow W W.heap.size v lv) => orderOf_any W v lv hv (by rw [HLN.out]; omega))
    have HOI := Lib.hid (orL_in lv)
    have HOL := Lib.hid (orL_len lv)
    have HSE := Lib.hid (shF_end (bsOf x) l)
    have HSL := Lib.hid (shL_len (bsOf x) l)
    rw [hlv] at HSE
    obtain ⟨bz, hbz⟩ : ∃ z, bsOf x = z := ⟨_, rfl⟩
    rw [hbz] at HB HLV HSE HSL ⊢
    obtain ⟨o, ho⟩ : ∃ z, orL lv = z := ⟨_, rfl⟩
    rw [ho] at HOR HOI HOL HSE
    rw [HLN.out] at HOI HOL
    obtain ⟨sh, hsh⟩ : ∃ z, shL bz l = z := ⟨_, rfl⟩
    rw [hsh] at HSE HSL ⊢
    have HJ := Lib.hid (fun (W : World) (v : Value) (hv : IRow W W.heap.size v sh) => join_any W v sh hv (by rw [HSL.out]; omega))
    have HSET := Lib.hid (fun k => shF_set l o l.length k)
    have HMADE := Lib.hid (made_int l.length (shF l o 0) (fun j => by unfold shF; rw [if_neg (by omega)]))
    obtain ⟨n, hN⟩ : ∃ n, l.length = n := ⟨_, rfl⟩
    rw [hN] at HOI HOL HSET HMADE HSE HSL hln
    have HN := Lib.hid hN
    have hmx : n ≤ maxLen := by unfold maxLen; omega
    obtain ⟨s, hs⟩ : ∃ s, str bs = s := ⟨_, rfl⟩
    rw [hs] at HR ⊢
    clear hz q1 q2 q3 q4 hl hlv hbz ho hsh hN hs hT
    go_enter Tryd.func37, Tryd.ntmps37
    go_wp2_with fail
    refine HR.out.mono ?_
    rintro e w1 ⟨v1, rfl, ho1, hb1⟩
    have HI1 := Lib.hid (IRow.of_own ho1)
    have HB1 := Lib.hid hb1
    clear ho1 hb1
    have HLV1 := Lib.hid (HLV.out w1 HB1.out v1 HI1.out)
    obtain ⟨a1, c1, e1, hc1, hm1, HC1⟩ := HI1.out.later
    subst e1
    rw [HN.out] at hc1 HLV1 HI1 ⊢
    have HC1 := Lib.hid HC1
    go_wp2_with fail
    refine (HB.out _).mono ?_
    rintro e w_ ⟨rfl, hw_⟩
    have hw2_ := hw_.symm
    subst hw2_
    clear hw_
    go_wp2_with fail
    refine HLV1.out.mono ?_
    rintro e w2 ⟨v2, rfl, hv2, hb⟩
    have HO2 := Lib.hid (HOR.out w2 v2 hv2)
    have HB2 := Lib.hid hb
    clear hb hv2
    go_wp2_with fail
    refine HO2.out.mono ?_
    rintro e w3 ⟨v3, rfl, hv3, hb⟩
    have HB3 := Lib.hid (HB2.out.trans (hb.mono HB2.out.size))
    obtain ⟨a3, c3, e3, hc3, hm3, HC3⟩ := hv3.later
    subst e3
    rw [HOL.out] at hc3 ⊢
    have HC3 := Lib.hid HC3
    unfold maxLen at hm1 hm3
    clear hb hv3 HO2 HLV1
    go_wp2_with (refine wpList_make_full _ rfl (.tmp 25) (.tmp 25) 22 rfl w3.heap.size 3 i0 (.int .i64 0) 1 Tryd.underlying22 hi hz0 hz1 .i64 .i64 _ _ n (by rfl) (by rfl) rfl rfl (by rw [hz2]; omega) hmx (Nat.le_refl _) ?_; intro w4 hO1 hG1; rw [HMADE.out] at hO1; have HA4 := Lib.hid (Arr.of_own hO1); have HB4 := Lib.hid (below_none hG1); have hs4 := (hO1.lt w3.heap.size rfl).2; clear hO1 hG1)
    go_loopw [9, 10, 29] (fun s9 s10 s29 wr => ∃ k : Nat, k ≤ n ∧ s29 = .int .i64 k ∧ Hid (Below w3.heap.size w3 wr) ∧ Hid (Arr wr w3.heap.size (icells ((List.range n).map (shF l o k)))) ∧ w3.heap.size < wr.heap.size) (fun _ _ s29 _ => n - (intOf s29).toNat)
    case atStart => exact ⟨0, Nat.zero_le _, rfl, HB4, HA4, hs4⟩
    case round =>
      obtain ⟨k, hk, rfl, HB, HA, hsz⟩ := hrel
      by_cases hlt : k < n
      · obtain ⟨b3, o3, rfl, hcell3⟩ := HC3.out wr HB.out k (by rw [HOL.out]; exact hlt)
        obtain ⟨hoi1, hoi2⟩ := HOI.out k hlt
        have hog : o.getD k 0 = o[k]'(by rw [HOL.out]; exact hlt) := by simp [List.getD, List.getElem?_eq_getElem (show k < o.length by rw [HOL.out]; exact hlt)]
        rw [← hog] at hcell3
        obtain ⟨y, hy⟩ : ∃ y : Nat, o.getD k 0 = (y : Int) := ⟨(o.getD k 0).toNat, by omega⟩
        rw [hy] at hcell3 hoi1 hoi2
        have hyn : y < n := by omega
        have hyl : y < l.length := by rw [HN.out]; exact hyn
        obtain ⟨b1, o1, rfl, hcell1⟩ := HC1.out wr (HB3.out.trans (HB.out.mono HB3.out.size)) y hyl
        have HS1 := HSET.out k
        rw [hy, Int.toNat_natCast] at HS1
        have hlg : l.getD y 0 = l[y] := by simp [List.getD, hyl]
        rw [hlg] at HS1
        obtain ⟨z, hzz⟩ : ∃ z, l[y] = z := ⟨_, rfl⟩
        rw [hzz] at hcell1 HS1
        have hcl : k < (icells ((List.range n).map (shF l o k))).length := by simp [icells]; omega
        have hcc := HA.out.cell (i := k) (v := (icells ((List.range n).map (shF l o k)))[k]) (List.getElem?_eq_getElem hcl)
        have hff := HA.out.frozen hcl
        obtain ⟨u, hu⟩ : ∃ u, shF l o k k = u := ⟨_, rfl⟩
        have hxx : (icells ((List.range n).map (shF l o k)))[k] = .int .i64 u := by rw [← hu]; simp [icells]
        rw [hxx] at hcc
        have HS2 := Lib.hid HS1
        have HA2 := Lib.hid (HA.out.set k (.int .i64 z))
        have HBB := Lib.hid (HB.out.setCell (p := ⟨w3.heap.size, k, none⟩) (Nat.le_refl _) (.int .i64 z))
        have hs2 : w3.heap.size < (wr.setCell ⟨w3.heap.size, k, none⟩ (.int .i64 z)).heap.size := by simpa [World.setCell] using hsz
        clear hu hxx hcl hog hy HS1 hlg hzz hyl
        go_wp2
        go_roundw
        case rel => exact ⟨k + 1, by omega, by go_num, HBB, Lib.hid (by rw [← HS2.out]; exact HA2.out), hs2⟩
        case measure => simp [intOf]; omega
      · have hkn : n = k := by omega
        subst hkn
        rw [HSE.out] at HA
        have HIR := Lib.hid (IRow.of_arr HA.out hsz HSL.out hmx)
        have HJ1 := Lib.hid (HJ.out wr _ HIR.out)
        have HBF := Lib.hid (HB1.out.trans ((HB3.out.trans (HB.out.mono HB3.out.size)).mono HB1.out.size))
        go_wp2_with fail
        refine HJ1.out.mono ?_
        rintro e w5 ⟨rfl, hb⟩
        have HB5 := Lib.hid (HBF.out.trans (hb.mono HBF.out.size))
        clear hb
        go_wp2
        go_ret2
        exact ⟨rfl, HB5.out⟩
  · unfold shS shE
    rw [if_neg hz, if_neg hz]
    obtain ⟨s, hs⟩ : ∃ s, str bs = s := ⟨_, rfl⟩
    obtain ⟨z, hz2⟩ : ∃ z, rnsE bs = z := ⟨_, rfl⟩
    obtain ⟨l, hl⟩ : ∃ l, rnsV bs = l := ⟨_, rfl⟩
    rw [hs, hz2, hl] at HR
    rw [hz2] at hz ⊢
    rw [hs]
    have dz : (z == 0) = false := by simpa using hz
    have dz2 : (z != 0) = true := by simpa using hz
    clear hs hz2 hl hz hT
    go_enter Tryd.func37, Tryd.ntmps37
    go_wp2_with fail
    refine HR.out.mono ?_
    rintro e w1 ⟨v1, rfl, ho1, hb1⟩
    have HB1 := Lib.hid hb1
    clear ho1 hb1
    go_wp2
    go_ret2
    exact ⟨rfl, HB1.out⟩
end Go.Proofs.YtilkhamlhbbmgaaDoor
