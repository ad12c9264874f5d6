/- merkle: Root. -/
import Derived.Test.YtfmngeemhfpeiaaDoorMnx
namespace Go.Proofs.YtfmngeemhfpeiaaDoor
open Go.RowKit

set_option maxRecDepth 100000 in
set_option maxHeartbeats 4000000 in
theorem root_any (w : World) (v : Value) (l : List (List UInt8)) (hv : BRows w w.heap.size v l) (hb : ∀ b ∈ l, b.length ≤ 900000) (hq : l.length ≤ 100000) (hT : Tab w) (h0 : 0 < w.heap.size) :
    Calls Tryd.prog 20 #[v] w fun e w' => e = .returned (.agg (cells8 (mroot l)).toArray) ∧ Below w.heap.size w w' := by
  have hfr : ∀ W, Below w.heap.size w W → Calls Tryd.prog 43 #[v] W fun e w' => ∃ v', e = .returned v' ∧ Digs w' w'.heap.size v' (firsts l) ∧ Below W.heap.size W w' := fun W hW => firstRow_any W v l (hv.at hW) (fun b h => by have := hb b h; omega) hq (hT.below hW h0) (by have := hW.size; omega)
  obtain ⟨a0, cap0, rfl, h1, h2, h3⟩ := hv
  unfold maxLen at h2
  have hm : l = [] → mroot l = tagged tNone [] := fun h => by unfold mroot; rw [if_pos h]
  have hm2 : l ≠ [] → mroot l = rootD (firsts l) := fun h => by unfold mroot; rw [if_neg h]
  have hfl := firsts_len l
  have HTT := Lib.hid hT
  by_cases hl : l = []
  · have htg : ∀ W : World, Below w.heap.size w W → Calls Tryd.prog 28 #[.string { data := #[110, 111, 110, 101] }, .slice none 0 0] W fun e w' => e = .returned (.agg (cells8 (mroot l)).toArray) ∧ Below W.heap.size W w' := fun W hW => by
      have h := tagged_any W { data := #[110, 111, 110, 101] } (.slice none 0 0) [] ⟨none, 0, rfl, by simp, by unfold maxLen; omega, .inl rfl⟩ (by decide) (by simp) (hT.below hW h0) (by have := hW.size; omega)
      rw [hm hl, ← dv_eq]
      exact h
    have hN : l.length = 0 := by rw [hl]; rfl
    have hcl : (cells8 (mroot l)).length = 32 := by rw [cells8_len, hm hl, tagged_len]
    have ho1 := one_cells8 (mroot l)
    obtain ⟨cs, hcs⟩ : ∃ cs, cells8 (mroot l) = cs := ⟨_, rfl⟩
    rw [hcs] at hcl ho1 htg ⊢
    rw [hN]
    have HZ : Hid ((Tryd.prog.info? 30).map (·.size) = some cs.length) := by show _ = _; rw [hcl]; exact Tryd.info30
    have HCL := Lib.hid hcl
    have HO := Lib.hid ho1
    have HTG := Lib.hid htg
    clear hcs hcl ho1 htg hm hm2 hfl hfr h3 h1 hb hq hl hN
    go_enter Tryd.func20, Tryd.ntmps20
    go_wp2_with (refine wpList_world (fun W => Below w.heap.size w W ∧ Arr W w.heap.size (cells8 (List.replicate 32 0)) ∧ w.heap.size < W.heap.size) ⟨by go_grown, Arr.new w _ 30, by simp⟩ ?_; rintro W0 ⟨hB0, hD0, hz0⟩)
    refine (HTG.out _ hB0).mono ?_
    rintro e w2 ⟨rfl, hB2⟩
    have HB := Lib.hid (hB0.trans (hB2.mono (by omega)))
    have HD := Lib.hid (hD0.below hB2 hz0)
    clear hB0 hD0 hB2
    go_wp2_with (refine store_new rfl 30 _ _ (by rfl) w.heap.size w.heap.size cs _ (by rfl) (by rfl) HB.out (Nat.le_refl _) HD.out (by rw [HCL.out]; rfl) HZ.out HO.out ?_; intro W7 hB7 hA7 hz7)
    refine bodyPost_ret (results_cell_mid rfl _ _ _ _ _ rfl hA7.at_ Tryd.underlying30 rfl HZ.out) rfl ?_
    exact ⟨rfl, hB7⟩
  · rw [hm2 hl]
    obtain ⟨N, hN⟩ : ∃ N, l.length = N := ⟨_, rfl⟩
    have hNp : 0 < N := by rw [← hN]; exact List.length_pos_iff.2 hl
    rw [hN] at hfr h1 hq hfl ⊢
    obtain ⟨F, hF⟩ : ∃ F, firsts l = F := ⟨_, rfl⟩
    rw [hF] at hfr hfl ⊢
    obtain ⟨R, hR⟩ : ∃ R, rootD F = R := ⟨_, rfl⟩
    rw [hR]
    have HFR := Lib.hid hfr
    have HFL := Lib.hid hfl
    have HR := Lib.hid hR
    have e0 : ((N : Int) == 0) = false := by simp; omega
    have e1 : ¬ (N : Int) = 0 := by omega
    have HNP := Lib.hid hNp
    clear hfr hfl hR hF hm hm2 h3 hb hN hl hNp
    go_enter Tryd.func20, Tryd.ntmps20
    go_wp2_with (refine wpList_world (fun W => Below w.heap.size w W ∧ Arr W w.heap.size (cells8 (List.replicate 32 0)) ∧ w.heap.size < W.heap.size) ⟨by go_grown, Arr.new w _ 30, by simp⟩ ?_; rintro W0 ⟨hB0, hD0, hz0⟩)
    refine (HFR.out _ hB0).mono ?_
    rintro e w1 ⟨v1, rfl, hd1, hb1⟩
    have HB1 := Lib.hid (hB0.trans (hb1.mono (by omega)))
    have HA1 := Lib.hid (hD0.below hb1 hz0)
    have HZ1 := Lib.hid (Nat.lt_of_lt_of_le hz0 hb1.size)
    have HD1 := Lib.hid hd1
    clear hB0 hD0 hz0 hb1 hd1
    go_wp2
    go_loopw [3] (fun s3 wr => ∃ (a : Option Addr) (n c : Nat) (ds : List (List UInt8)), s3 = .slice a n c ∧ n = ds.length ∧ 1 ≤ n ∧ n ≤ N ∧ Below w.heap.size w wr ∧ w.heap.size < wr.heap.size ∧ Hid (Arr wr w.heap.size (cells8 (List.replicate 32 0))) ∧ Hid (Digs wr wr.heap.size (.slice a n c) ds) ∧ Hid (rootD ds = R)) (fun s3 _ => lenV s3)
    case atStart =>
      obtain ⟨h32, a, c, e, q1, q2, q3⟩ := HD1.out
      have hnp := HNP.out
      have hfl := HFL.out
      exact ⟨a, F.length, c, F, e, rfl, by omega, by omega, HB1.out, HZ1.out, HA1, Lib.hid ⟨h32, a, c, rfl, q1, q2, q3⟩, HR⟩
    case round =>
      obtain ⟨a, n, c, ds, rfl, hn, hn1, hnN, hB, hz, HA, HDS, HRD⟩ := hrel
      have HB := Lib.hid hB
      have HN := Lib.hid hn
      have HZ := Lib.hid hz
      clear hB hn hz
      by_cases hgt : 1 < n
      · have f1 : decide ((n : Int) > 1) = true := by simp; omega
        have f2 : decide ((1 : Int) < (n : Int)) = true := by simp; omega
        have f3 : decide (1 < n) = true := by simp; omega
        go_wp2_with fail
        refine (nextRow_any wr _ ds HDS.out (by rw [← HN.out]; omega) (HTT.out.below HB.out h0) (by have := HB.out.size; omega)).mono ?_
        rintro e w2 ⟨v2, rfl, hd2, hb2⟩
        have HB2 := Lib.hid (HB.out.trans (hb2.mono HB.out.size))
        have HA2 := Lib.hid (HA.out.below hb2 HZ.out)
        have HZ2 := Lib.hid (Nat.lt_of_lt_of_le HZ.out hb2.size)
        have HR2 : Hid (rootD (nexts ds) = R) := Lib.hid (by rw [← rootD_more (by rw [← HN.out]; exact hgt)]; exact HRD.out)
        have hnl := nexts_len ds
        rw [← HN.out] at hnl
        obtain ⟨h32, a2, c2, e2, q1, q2, q3⟩ := hd2
        have HD2 : Hid (Digs w2 w2.heap.size (.slice a2 (nexts ds).length c2) (nexts ds)) := Lib.hid ⟨h32, a2, c2, rfl, q1, q2, q3⟩
        subst e2
        obtain ⟨M, hM⟩ : ∃ M, (nexts ds).length = M := ⟨_, rfl⟩
        have HM := Lib.hid hM
        rw [hM] at hnl HD2 ⊢
        have HNL := Lib.hid hnl
        clear hb2 h32 q1 q2 q3 hM hnl
        go_wp2
        go_roundw
        case rel => exact ⟨a2, M, c2, nexts ds, rfl, HM.out.symm, by have := HNL.out; omega, by have := HNL.out; omega, HB2.out, HZ2.out, HA2, HD2, HR2⟩
        case measure => have := HNL.out; simp only [lenV]; omega
      · have hn11 : n = 1 := by omega
        subst hn11
        obtain ⟨h32, a', c', e, q1, q2, q3⟩ := HDS.out
        injection e with ea _ ec
        subst ea
        subst ec
        obtain ⟨b, off, rfl, hb, hr⟩ := q3.resolve_left (fun e => by have := HN.out; rw [e] at this; simp at this)
        have hl1 : 0 < ds.length := by rw [← HN.out]; exact Nat.one_pos
        have hr0 := hr 0 hl1
        simp only [Nat.zero_mul, Nat.add_zero] at hr0
        have hR0 : ds[0] = R := by
          rw [← HRD.out, rootD_one (by rw [← HN.out]; exact Nat.le_refl _)]
          cases ds with
          | nil => simp at hl1
          | cons x m => rfl
        have hRl : R.length = 32 := by rw [← hR0]; exact h32 _ (List.getElem_mem hl1)
        rw [hR0] at hr0
        have hcl : (cells8 R).length = 32 := by rw [cells8_len, hRl]
        have ho1 := one_cells8 R
        obtain ⟨cs, hcs⟩ : ∃ cs, cells8 R = cs := ⟨_, rfl⟩
        have HCS := Lib.hid hcs
        rw [hcs] at hcl ho1 hr0
        have HZR : Hid ((Tryd.prog.info? 30).map (·.size) = some cs.length) := by show _ = _; rw [hcl]; exact Tryd.info30
        have HCL := Lib.hid hcl
        have HO := Lib.hid ho1
        have HR0 := Lib.hid hr0
        clear hcs hcl ho1 hr0 hRl hR0 hl1 hr h32 q1 q2 q3
        go_wp2_with (first
          | (refine wpList_load_mid rfl 30 (.tmp 16) (by rfl) b off (by rfl) cs _ HR0.out Tryd.underlying30 rfl HZR.out ?_)
          | (refine store_new rfl 30 _ _ (by rfl) w.heap.size w.heap.size cs _ (by rfl) (by rfl) HB.out (Nat.le_refl _) HA.out (by rw [HCL.out]; rfl) HZR.out HO.out ?_; intro W7 hB7 hA7 hz7))
        refine bodyPost_ret (results_cell_mid rfl _ _ _ _ _ rfl hA7.at_ Tryd.underlying30 rfl HZR.out) rfl ?_
        exact ⟨by rw [HCS.out], hB7⟩
end Go.Proofs.YtfmngeemhfpeiaaDoor
