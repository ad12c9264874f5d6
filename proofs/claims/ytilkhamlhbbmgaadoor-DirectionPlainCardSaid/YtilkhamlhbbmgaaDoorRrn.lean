/- The reference's Runes. -/
import Derived.Test.YtilkhamlhbbmgaaDoorRfw
namespace Go.Proofs.YtilkhamlhbbmgaaDoor
open Go.RowKit

theorem Tryd.info3z : (Tryd.prog.info? 3).map (fun i => (i.zero, i.size)) = some (some (.int .i64 0), 1) := by kernel_rfl
theorem Tryd.info5z : (Tryd.prog.info? 5).map (fun i => (i.zero, i.size)) = some (some (.int .u8 0), 1) := by kernel_rfl
theorem Tryd.info9z : (Tryd.prog.info? 9).map (fun i => (i.zero, i.size)) = some (some (.string ⟨#[]⟩), 1) := by kernel_rfl
theorem bs0_22 (W : World) : (Instr.buildSlice 22 0 #[]).run Tryd.prog W = .ok (.slice (some ⟨W.heap.size, 0, none⟩) 0 0) (W.alloc (.cells #[] 3)) := by
  obtain ⟨i, hi, h⟩ := Option.map_eq_some_iff.1 Tryd.info3z
  have hn : (newRow 3 #[]).run Tryd.prog W = .ok ⟨W.heap.size, 0, none⟩ (W.alloc (.cells #[] 3)) := rfl
  simp [Instr.buildSlice, run_underlying Tryd.underlying22, sizeOf, typeInfo, hi, Instr.fill]
  rw [show (Array.map (fun _ => (default : Value)) (Array.range 0)) = #[] by simp, hn]
  rfl
theorem bs0_39 (W : World) : (Instr.buildSlice 39 0 #[]).run Tryd.prog W = .ok (.slice (some ⟨W.heap.size, 0, none⟩) 0 0) (W.alloc (.cells #[] 5)) := by
  obtain ⟨i, hi, h⟩ := Option.map_eq_some_iff.1 Tryd.info5z
  have hn : (newRow 5 #[]).run Tryd.prog W = .ok ⟨W.heap.size, 0, none⟩ (W.alloc (.cells #[] 5)) := rfl
  simp [Instr.buildSlice, run_underlying Tryd.underlying39, sizeOf, typeInfo, hi, Instr.fill]
  rw [show (Array.map (fun _ => (default : Value)) (Array.range 0)) = #[] by simp, hn]
  rfl
theorem bs0_33 (W : World) : (Instr.buildSlice 33 0 #[]).run Tryd.prog W = .ok (.slice (some ⟨W.heap.size, 0, none⟩) 0 0) (W.alloc (.cells #[] 9)) := by
  obtain ⟨i, hi, h⟩ := Option.map_eq_some_iff.1 Tryd.info9z
  have hn : (newRow 9 #[]).run Tryd.prog W = .ok ⟨W.heap.size, 0, none⟩ (W.alloc (.cells #[] 9)) := rfl
  simp [Instr.buildSlice, run_underlying Tryd.underlying33, sizeOf, typeInfo, hi, Instr.fill]
  rw [show (Array.map (fun _ => (default : Value)) (Array.range 0)) = #[] by simp, hn]
  rfl
/-- A row of one's own, empty, in a block just made. -/
theorem own_empty (W : World) (B e : Nat) (h : B ≤ W.heap.size) : (W.alloc (.cells #[] e)).ownsRow B e 1 (.slice (some ⟨W.heap.size, 0, none⟩) 0 0) 0 [] :=
  World.ownsRow_made W #[] 0 h (by unfold maxLen; omega) rfl
theorem rrunes_long (w : World) (bs : List UInt8) (hl : 4096 < bs.length) : Calls Tryd.prog 18 #[.string (str bs)] w (RunesPost w 2 []) := by
  have hsz := str_size bs
  obtain ⟨s, hs⟩ : ∃ s, str bs = s := ⟨_, rfl⟩
  obtain ⟨N, hN⟩ : ∃ N, bs.length = N := ⟨_, rfl⟩
  rw [hs, hN] at hsz
  rw [hs]
  rw [hN] at hl
  have d : decide (4096 < (N : Int)) = true := by simp; omega
  clear hs hN hl
  go_enter Tryd.func18, Tryd.ntmps18
  go_wp2
  go_ret2
  exact ⟨_, rfl, World.ownsRow_nil _ _ _ _, Below.refl _ _⟩
set_option maxRecDepth 100000 in
set_option maxHeartbeats 4000000 in
theorem rrunes_short (w : World) (bs : List UInt8) (hl : bs.length ≤ 4096) : Calls Tryd.prog 18 #[.string (str bs)] w (RunesPost w (rnsE bs) (rnsV bs)) := by
  obtain ⟨i0, hi, hz0, hz1, hz2⟩ := info_parts Tryd.info3r
  obtain ⟨l, rest, hrn, hll, hend⟩ := rn_all bs.length bs (Nat.le_refl _)
  have HR : Hid ((rest = [] ∧ rnsE bs = 0 ∧ rnsV bs = l) ∨ (rest ≠ [] ∧ isBad rest = true ∧ rnsE bs = 90 ∧ rnsV bs = [])) := Lib.hid (by
    have hnl : ¬ 4096 < bs.length := by omega
    unfold rnsE rnsV
    rw [if_neg hnl, if_neg hnl]
    rcases hend with ⟨h1, h2⟩ | ⟨h1, h2, h3⟩
    · rw [h2]; exact .inl ⟨h1, rfl, rfl⟩
    · rw [h3]; exact .inr ⟨h1, h2, rfl, rfl⟩)
  obtain ⟨zE, hzE⟩ : ∃ z, rnsE bs = z := ⟨_, rfl⟩
  obtain ⟨lV, hlV⟩ : ∃ z, rnsV bs = z := ⟨_, rfl⟩
  rw [hzE, hlV] at HR ⊢
  have HRN := Lib.hid hrn
  have hbs := bs0_22
  have hsz := str_size bs
  obtain ⟨N, hN⟩ : ∃ N, bs.length = N := ⟨_, rfl⟩
  obtain ⟨M, hM⟩ : ∃ M, l.length = M := ⟨_, rfl⟩
  have HM := Lib.hid hM
  rw [hN] at hsz
  have d : decide (4096 < (N : Int)) = false := by simp; omega
  have hM4 : M ≤ 4096 := by omega
  have HL : Hid (bs.length ≤ 4096) := Lib.hid hl
  clear hzE hlV hend hrn hN hM hl hll
  obtain ⟨s, hs⟩ : ∃ s, str bs = s := ⟨_, rfl⟩
  have HS := Lib.hid hs
  rw [hs] at hsz ⊢
  clear hs
  go_enter Tryd.func18, Tryd.ntmps18
  go_wp2
  go_loopw [0, 4, 5, 6] (fun s0 s4 s5 s6 wr => ∃ (k : Nat) (rk : List UInt8), k ≤ M ∧ s0 = .string (str rk) ∧ rk.length ≤ 4096 ∧ Hid (Rn rk (l.drop k) rest) ∧ Hid (Below w.heap.size w wr) ∧ Hid (wr.ownsRow w.heap.size 3 1 s4 k (icells (l.take k)))) (fun s0 _ _ _ _ => match s0 with | .string s => s.size | _ => 0)
  case atStart => exact ⟨0, bs, Nat.zero_le _, by rw [HS.out], HL.out, HRN, Lib.hid ((Below.refl _ _).alloc (Nat.le_refl _) _), Lib.hid (own_empty w _ 3 (Nat.le_refl _))⟩
  case round =>
    obtain ⟨k, rk, hk, rfl, hrl, HRK, HB, HO⟩ := hrel
    obtain ⟨oa, oc, rfl⟩ := own_slice HO.out
    have hst := str_size rk
    have HF : Hid (rk ≠ [] → ∀ W, Calls Tryd.prog 42 #[.string (str rk)] W fun e w' => e = .returned (.tuple #[.int .i64 (fst1 rk), .int .i64 (fst2 rk)]) ∧ Below W.heap.size W w') := Lib.hid (fun h W => first_any W rk h (by omega))
    by_cases hlt : k < M
    · have hkl : k < l.length := by rw [HM.out]; exact hlt
      have e : l.drop k = l.getD k 0 :: l.drop (k + 1) := by rw [List.drop_eq_getElem_cons hkl]; simp [List.getD, hkl]
      have hR := HRK.out
      rw [e] at hR
      obtain ⟨h0, h1, h2, h3⟩ := hR.step
      have hds := dcd_size h0 h1
      have HF2 := Lib.hid (HF.out h0)
      have e1 : fst1 rk = (dcd rk).1 := by unfold fst1; rw [if_neg (by rw [h1]; simp)]
      have e2 : fst2 rk = (dcd rk).2 := by unfold fst2; rw [if_neg (by rw [h1]; simp)]
      rw [e1, e2, ← h2] at HF2
      have hex : (str rk).extract (dcd rk).2 rk.length = str (rk.drop (dcd rk).2) := by rw [str_extract, List.take_of_length_le (by simp)]
      have HTK : Hid (icells (l.take k) ++ [.int .i64 (l.getD k 0)] = icells (l.take (k + 1))) := Lib.hid (by
        rw [List.take_add_one, icells_app]; simp [List.getElem?_eq_getElem hkl, icells, List.getD])
      obtain ⟨x, hx⟩ : ∃ x, l.getD k 0 = x := ⟨_, rfl⟩
      rw [hx] at HF2 HTK
      obtain ⟨q, hq⟩ : ∃ q, (dcd rk).2 = q := ⟨_, rfl⟩
      rw [hq] at h3 hds hex HF2
      have H3 := Lib.hid h3
      have HHL : Hid ((rk.drop q).length ≤ 4096 ∧ (rk.drop q).length < rk.length) := Lib.hid (by simp; omega)
      obtain ⟨m, hm⟩ : ∃ m, rk.length = m := ⟨_, rfl⟩
      rw [hm] at hst hex hds HHL hrl
      obtain ⟨s1, hs1⟩ : ∃ s1, str rk = s1 := ⟨_, rfl⟩
      rw [hs1] at HF2 hst hex ⊢
      have HEX := Lib.hid hex
      have hm0 : decide ((0 : Int) < (m : Int)) = true := by simp; omega
      have hm1 : decide (0 < m) = true := by simp; omega
      have hm2 : 0 < m := by omega
      have hq1 : ((q : Int) == 0) = false := by simp; omega
      have hq0 : (0 : Int) ≤ (q : Int) := by omega
      have hqM : (q : Int) ≤ (m : Int) := by omega
      have HDS := Lib.hid hds
      have HST := Lib.hid hst
      clear h0 h1 h2 h3 e e1 e2 hx hq hm hs1 hR HF hkl hds hex
      go_wp2_with fail
      ((with_reducible refine (HF2.out _).mono ?_); rintro e w2 ⟨rfl, hb2⟩)
      have HB2 := Lib.hid (HB.out.trans (hb2.mono HB.out.size))
      have HO2 := Lib.hid (own_after hb2 HO.out)
      have hs2 := HB2.out.size
      clear hb2 HF2
      go_wp2_with (at_builtin; refine wpList_append_own _ rfl _ _ 22 rfl w.heap.size 3 i0 (.int .i64 0) 1 8 Tryd.underlying22 hi hz0 hz1 hz2 rfl (by decide) (.slice oa k oc) k (icells (l.take k)) rfl (HO2.out.alloc _) ⟨w2.heap.size, 0, none⟩ 1 1 [.int .i64 x] rfl rfl (cell_one_new _ _ _) (by simp [Value.oneCell']) (by unfold maxLen; omega) (by omega) (by simp; omega) ?_; intro v' w3 hown' hgrow _; have HO3 := Lib.hid hown'; have HB3 := Lib.hid ((HB2.out.alloc HB2.out.size _).grown hgrow (by simp; omega) (fun r e => (HO2.out.lt r e).1)); clear hown' hgrow)
      go_roundw
      case rel => exact ⟨k + 1, rk.drop q, by omega, by rw [HEX.out], HHL.out.1, H3, HB3, Lib.hid (by rw [← HTK.out]; exact HO3.out)⟩
      case measure => have := HDS.out; simp [HST.out]; omega
    · have hkn : k = M := by omega
      subst hkn
      have hR := HRK.out
      rw [List.drop_eq_nil_of_le (by rw [HM.out]; exact Nat.le_refl _)] at hR
      have hrk := hR.stop
      have HO4 := Lib.hid HO.out
      rcases HR.out with ⟨h1, h2, h3⟩ | ⟨h1, h2, h3, h4⟩
      · subst h2; subst h3
        rw [← hrk] at h1
        subst h1
        have hst2 : (str []).size = 0 := hst
        obtain ⟨s1, hs1⟩ : ∃ s1, str [] = s1 := ⟨_, rfl⟩
        rw [hs1] at hst2 ⊢
        clear hs1 hR hrk hst HF hlt
        go_wp2
        go_ret2
        refine ⟨_, rfl, ?_, HB.out⟩
        have := HO.out
        rw [List.take_of_length_le (by rw [HM.out]; exact Nat.le_refl _)] at this
        rw [HM.out]
        exact this
      · subst h3; subst h4
        rw [← hrk] at h1 h2
        have HF2 := Lib.hid (HF.out h1)
        rw [show fst1 rk = 0 by unfold fst1; rw [if_pos h2], show fst2 rk = 0 by unfold fst2; rw [if_pos h2]] at HF2
        have hl1 : 0 < rk.length := by cases rk with | nil => exact absurd rfl h1 | cons _ _ => simp
        obtain ⟨m, hm⟩ : ∃ m, rk.length = m := ⟨_, rfl⟩
        rw [hm] at hst hl1
        obtain ⟨s1, hs1⟩ : ∃ s1, str rk = s1 := ⟨_, rfl⟩
        rw [hs1] at HF2 hst ⊢
        have hm0 : decide ((0 : Int) < (m : Int)) = true := by simp; omega
        have hm1 : decide (0 < m) = true := by simp; omega
        clear hs1 hR hrk HF hlt h1 h2 hm
        go_wp2_with fail
        ((with_reducible refine (HF2.out _).mono ?_); rintro e w2 ⟨rfl, hb2⟩)
        have HB2 := Lib.hid (HB.out.trans (hb2.mono HB.out.size))
        clear hb2 HF2
        go_wp2
        go_ret2
        exact ⟨_, rfl, World.ownsRow_nil _ _ _ _, HB2.out⟩
theorem rrunes_any (w : World) (bs : List UInt8) : Calls Tryd.prog 18 #[.string (str bs)] w (RunesPost w (rnsE bs) (rnsV bs)) := by
  by_cases h : 4096 < bs.length
  · have := rrunes_long w bs h
    unfold rnsE rnsV
    rw [if_pos h, if_pos h]
    exact this
  · exact rrunes_short w bs (by omega)
end Go.Proofs.YtilkhamlhbbmgaaDoor
