/- merkle's reference: Prove. -/
import Derived.Test.YtfmngeemhfpeiaaDoorMsp
import Derived.Test.YtfmngeemhfpeiaaDoorRmr
namespace Go.Proofs.YtfmngeemhfpeiaaDoor
open Go.RowKit

set_option maxRecDepth 100000 in
set_option maxHeartbeats 4000000 in
theorem rprove_arg (w : World) (v : Value) (N : Nat) (i : Int) (hv : ∃ a c, v = .slice a N c) (h : leafOk N i = false) :
    Calls Tryd.prog 19 #[v, .int .i64 i] w fun e w' => e = .returned (.tuple #[.slice none 0 0, .int .i64 1]) ∧ Below w.heap.size w w' := by
  obtain ⟨va, vc, rfl⟩ := hv
  unfold leafOk at h
  by_cases h1 : 65536 < N
  · have k1 : decide ((N : Int) > 65536) = true := by simp; omega
    have k2 : decide ((65536 : Int) < (N : Int)) = true := by simp; omega
    have k3 : decide (65536 < N) = true := by simp; omega
    clear h
    go_enter Tryd.func19, Tryd.ntmps19
    go_wp2
    go_returns
    exact ⟨rfl, by go_grown⟩
  have k1 : decide ((N : Int) > 65536) = false := by simp; omega
  have k2 : decide ((65536 : Int) < (N : Int)) = false := by simp; omega
  have k3 : decide (65536 < N) = false := by simp; omega
  by_cases h2 : i < 0
  · have q1 : decide (i < 0) = true := by simpa using h2
    clear h
    go_enter Tryd.func19, Tryd.ntmps19
    go_wp2
    go_returns
    exact ⟨rfl, by go_grown⟩
  have q1 : decide (i < 0) = false := by simpa using h2
  have q2 : (N : Int) ≤ i := by
    simp only [Bool.and_eq_false_iff, decide_eq_false_iff_not] at h
    omega
  have q3 : decide (i ≥ (N : Int)) = true := by simpa using q2
  have q4 : decide ((N : Int) ≤ i) = true := by simpa using q2
  clear h
  go_enter Tryd.func19, Tryd.ntmps19
  go_wp2
  go_returns
  exact ⟨rfl, by go_grown⟩

theorem mpathk_succ (F : List (List UInt8)) (i k : Nat) : mpathk F i (k + 1) = if alone (mpos i k) (msz F.length k) then mpathk F i k else mpathk F i k ++ [(rowAt F k).getD (oth (mpos i k)) []] := rfl

set_option maxRecDepth 100000 in
set_option maxHeartbeats 2000000 in
theorem rprove_ok (w : World) (v : Value) (l : List (List UInt8)) (i : Nat) (hv : BRows w w.heap.size v l) (hb : ∀ b ∈ l, b.length ≤ 900000) (hi : i < l.length) (hq : l.length ≤ 65536) :
    Calls Tryd.prog 19 #[v, .int .i64 (i : Int)] w fun e w' => ∃ v', e = .returned (.tuple #[v', .int .i64 0]) ∧ Digs w' w'.heap.size v' (mpath (firsts l) i) ∧ Below w.heap.size w w' := by
  have HFR : Hid (∀ W, Below w.heap.size w W → Calls Tryd.prog 48 #[v] W fun e w' => ∃ v', e = .returned v' ∧ w'.ownsRow W.heap.size 30 32 v' l.length (flat (firsts l)) ∧ Below W.heap.size W w') := Lib.hid fun W hW => rfirst_own W v l (hv.at hW) hb (by omega)
  obtain ⟨va, vc, rfl, h1, h2, _⟩ := hv
  unfold maxLen at h2
  have hfl := firsts_len l
  have HF32 := Lib.hid (firsts_32 l)
  obtain ⟨N, hN⟩ : ∃ N, l.length = N := ⟨_, rfl⟩
  rw [hN] at HFR h1 hq hfl hi ⊢
  obtain ⟨F, hF⟩ : ∃ F, firsts l = F := ⟨_, rfl⟩
  rw [hF] at HFR hfl HF32 ⊢
  have HFN := Lib.hid hfl
  have k1 : decide ((N : Int) > 65536) = false := by simp; omega
  have k2 : decide ((65536 : Int) < (N : Int)) = false := by simp; omega
  have k3 : decide (65536 < N) = false := by simp; omega
  have q1 : decide ((i : Int) < 0) = false := by simp
  have q3 : decide ((i : Int) ≥ (N : Int)) = false := by simp; omega
  have q4 : decide ((N : Int) ≤ (i : Int)) = false := by simp; omega
  have q5 : decide (N ≤ i) = false := by simp; omega
  clear hb hN hF hfl
  go_enter Tryd.func19, Tryd.ntmps19
  go_wp2_with (refine wpList_world (fun W => Below w.heap.size w W ∧ W.ownsRow w.heap.size 30 32 (.slice (some ⟨w.heap.size, 0, none⟩) 0 0) 0 []) ⟨by go_grown, World.ownsRow_made w #[] 0 (Nat.le_refl _) (by unfold maxLen; omega) rfl⟩ ?_; rintro W0 ⟨hB0, hO0⟩)
  refine (HFR.out _ hB0).mono ?_
  rintro e w1 ⟨v1, rfl, ho1, hb1⟩
  have HB1 := Lib.hid (hB0.trans (hb1.mono hB0.size))
  obtain ⟨g1, p1, rfl⟩ := own_head ho1 (by omega)
  have HA6 := Lib.hid (own_after hb1 hO0)
  have HSE : Hid ((Value.slice (some ⟨w.heap.size, 0, none⟩) 0 0).ownBlock ≠ some g1) := Lib.hid (fun e => by
    have h1 := (hO0.lt g1 e).2
    have h2 := (ho1.lt g1 rfl).1
    omega)
  have HA7 := Lib.hid (own_base ho1 hB0.size)
  clear hB0 hO0 ho1 hb1
  go_wp2
  go_loopw [1, 6, 7] (fun s1 s6 s7 wr => ∃ k g7 n p7 t : Nat, s1 = .int .i64 (t : Int) ∧ s7 = .slice (some ⟨g7, 0, none⟩) n p7 ∧ k ≤ mrows N ∧ 1 ≤ n ∧ n ≤ N ∧ t < n ∧ Below w.heap.size w wr ∧ Hid (mpos i k = t) ∧ Hid (msz N k = n) ∧ Hid (wr.ownsRow w.heap.size 30 32 s6 (mcnt i N k) (flat (mpathk F i k))) ∧ Hid (wr.ownsRow w.heap.size 30 32 (.slice (some ⟨g7, 0, none⟩) n p7) n (flat (rowAt F k))) ∧ Hid (s6.ownBlock ≠ some g7)) (fun _ _ s7 _ => lenV s7)
  case atStart => exact ⟨0, g1, N, p1, i, rfl, rfl, by omega, by omega, by omega, hi, HB1.out, Lib.hid rfl, Lib.hid rfl, HA6, HA7, HSE⟩
  case round =>
    obtain ⟨k, g7, n, p7, t, rfl, rfl, hkm, hn1, hnN, htn, hB, HMP, HMS, HO6, HO7, HSEP⟩ := hrel
    have HB := Lib.hid hB
    clear hB
    have hm16 := mrows_le 16 N (by omega)
    by_cases hgt : 1 < n
    · have f1 : decide ((n : Int) > 1) = true := by simp; omega
      have f2 : decide ((1 : Int) < (n : Int)) = true := by simp; omega
      have f0 : decide (1 < n) = true := by simp; omega
      by_cases hodd : t % 2 = 1
      · skip
        have m1 : (t : Int).tmod 2 = 1 := by rw [Int.tmod_eq_emod_of_nonneg (by omega)]; omega
        have m4 : (t : Int) % 2 = 1 := by omega
        have iwm : IntKind.i64.wrap ((t : Int).tmod 2) = 1 := by rw [m1]; rfl
        obtain ⟨t', ht'⟩ : ∃ t', t = t' + 1 := ⟨t - 1, by omega⟩
        have iw1 : IntKind.i64.wrap ((t : Int) - 1) = (t' : Int) := by rw [IntKind.wrap_i64]; omega
        have f3 : (t' : Int) < (n : Int) := by omega
        have ha : alone t n = false := by unfold alone; rw [oth_eq, if_neg (by omega)]; simp; omega
        have ho : oth t = t' := by rw [oth_eq, if_neg (by omega)]; omega
        have htl : t' < (rowAt F k).length := by rw [rowAt_len, HFN.out, HMS.out]; omega
        have HFD : Hid (flat (mpathk F i (k + 1)) = flat (mpathk F i k) ++ cells8 (rowAt F k)[t']) := Lib.hid (by
          rw [mpathk_succ, HFN.out, HMS.out, HMP.out, ha, if_neg (by simp), ho, flat_snoc, List.getD_eq_getElem?_getD, List.getElem?_eq_getElem htl]
          rfl)
        have HCN : Hid (mcnt i N (k + 1) = mcnt i N k + 1) := Lib.hid (by
          show mcnt i N k + (if alone (mpos i k) (msz N k) then 0 else 1) = _
          rw [HMS.out, HMP.out, ha]
          simp)
        have hdg := own_digs' HO7.out (by rw [rowAt_len, HFN.out, HMS.out]) (rowAt_32 HF32.out k)
        have lca : (cells8 (rowAt F k)[t']).length = 32 := by rw [cells8_len, rowAt_32 HF32.out k _ (List.getElem_mem htl)]
        have hd1 := one_cells8 (rowAt F k)[t']
        obtain ⟨_, a', c', e', _, _, hr⟩ := hdg
        obtain ⟨b', off', e2, hlt7, hr⟩ := hr.resolve_left (fun e => by rw [e] at htl; simp at htl)
        have hra := hr t' htl
        injection e' with e3 e6 e7
        rw [e2] at e3
        injection e3 with e3
        injection e3 with e4 e5
        rw [← e4, ← e5, Nat.zero_add] at hra
        rw [← e4] at hlt7
        clear hr e2 e4 e5 e6 e7
        obtain ⟨D, hD⟩ : ∃ c, cells8 (rowAt F k)[t'] = c := ⟨_, rfl⟩
        rw [hD] at hra lca hd1 HFD
        have HZA : Hid ((Tryd.prog.info? 30).map (·.size) = some D.length) := by show _ = _; rw [lca]; exact Tryd.info30
        have HDL := Lib.hid lca
        have HD1 := Lib.hid hd1
        have HRA := Lib.hid hra
        clear hra lca hd1 hD
        have hcb := mcnt_le i N k
        clear ht'
        go_upto_region 10 with (first
          | (refine wpList_load_mid rfl 30 (.tmp 34) (by rfl) g7 (t' * 32) (by rfl) D _ HRA.out Tryd.underlying30 rfl HZA.out ?_)
          | (refine wpList_plain rfl fun K hK => wp_one30 (.tmp 35) (by rfl) D (by rfl) HDL.out ?_
             intro g4 W4 hg4 hlt4 hG4 hr4
             have hB4 : Below wr.heap.size wr W4 := (Below.refl _ _).grown hG4 (Nat.le_refl _) (fun k e => by cases e)
             obtain ⟨v5, W5, r5, hrun5, hO5, hG5, hR5, hr5, _⟩ := digs_app2 (own_after hB4 HO6.out) (by have := HB.out.size; have := hB4.size; omega) g4 HDL.out HD1.out hr4 (by omega)
             have HR5 := Lib.hid hrun5
             have HO5 := Lib.hid hO5
             have HB5 := Lib.hid ((HB.out.trans (hB4.mono HB.out.size)).grown hG5 (by have := HB.out.size; have := hB4.size; omega) (fun k e => (hR5 k e).1))
             have HP5 : Hid (W5.ownsRow w.heap.size 30 32 (.slice (some ⟨g7, 0, none⟩) n p7) n (flat (rowAt F k))) := Lib.hid ((own_after hB4 HO7.out).kept hG5 (.inr (by rw [hr5]; exact fun e => HSEP.out e.symm)))
             clear hrun5 hO5 hB4 hr4 hG4 hG5 hR5 hr5
             refine hK _ _ ?_)
          | (refine wpList_plain rfl fun K hK => wp_app_run (.tmp 30) (.tmp 36) 25 25 (by rfl) _ _ _ _ (by rfl) (by rfl) HR5.out (hK _ _ ?_)))
        go_wp2_with fail
        refine (rnext_own W5 (.slice (some ⟨g7, 0, none⟩) n p7) (rowAt F k) (own_digs' HP5.out (by rw [rowAt_len, HFN.out, HMS.out]) (rowAt_32 HF32.out k)) (by rw [rowAt_len, HFN.out, HMS.out]; omega)).mono ?_
        rintro e W6 ⟨v6, rfl, ho6, hb6⟩
        have HB6 := Lib.hid (HB5.out.trans (hb6.mono HB5.out.size))
        have hl6 : (nexts (rowAt F k)).length = (n + 1) / 2 := by rw [nexts_len, rowAt_len, HFN.out, HMS.out]
        rw [hl6] at ho6
        obtain ⟨g8, p8, rfl⟩ := own_head ho6 (by omega)
        have HQ6 := Lib.hid (own_after hb6 HO5.out)
        have HQ7 : Hid (W6.ownsRow w.heap.size 30 32 (.slice (some ⟨g8, 0, none⟩) ((n + 1) / 2) p8) ((n + 1) / 2) (flat (rowAt F (k + 1)))) := Lib.hid (own_base ho6 HB5.out.size)
        have HSP : Hid ((v5 : Value).ownBlock ≠ some g8) := Lib.hid (fun e => by
          have h1 := (HO5.out.lt g8 e).2
          have h2 := (ho6.lt g8 rfl).1
          omega)
        have iw9 : IntKind.i64.wrap ((t : Int).tdiv 2) = ((t / 2 : Nat) : Int) := by rw [Int.tdiv_eq_ediv_of_nonneg (by omega), IntKind.wrap_i64]; omega
        have hk2 := (mrows_iff k N).2 (by rw [HMS.out]; exact hgt)
        have HK2 := Lib.hid hk2
        clear hb6 hl6 ho6 hk2
        go_wp2
        go_roundw
        case rel =>
          have hx1 : mpos i (k + 1) = t / 2 := by show mpos i k / 2 = _; rw [HMP.out]
          have hx2 : msz N (k + 1) = (n + 1) / 2 := by show (msz N k + 1) / 2 = _; rw [HMS.out]
          refine ⟨k + 1, g8, (n + 1) / 2, p8, t / 2, by simp, by simp, by have := HK2.out; omega, by omega, by omega, by omega, HB6.out, Lib.hid hx1, Lib.hid hx2, Lib.hid ?_, HQ7, HSP⟩
          rw [HCN.out, HFD.out]
          exact HQ6.out
        case measure => simp only [lenV]; omega
      by_cases hal : t + 1 < n
      · skip
        have m1 : (t : Int).tmod 2 = 0 := by rw [Int.tmod_eq_emod_of_nonneg (by omega)]; omega
        have m4 : (t : Int) % 2 = 0 := by omega
        have iwm : IntKind.i64.wrap ((t : Int).tmod 2) = 0 := by rw [m1]; rfl
        have iw1 : IntKind.i64.wrap ((t : Int) + 1) = (t : Int) + 1 := by rw [IntKind.wrap_i64]; omega
        have f3 : (t : Int) + 1 < (n : Int) := by omega
        have f4 : decide ((t : Int) + 1 < (n : Int)) = true := by simp; omega
        have f5 : decide (t + 1 < n) = true := by simp; omega
        have f6 : (0 : Int) ≤ (t : Int) + 1 := by omega
        have ha : alone t n = false := by unfold alone; rw [oth_eq, if_pos (by omega)]; simp; omega
        have ho : oth t = t + 1 := by rw [oth_eq, if_pos (by omega)]
        have htl : t + 1 < (rowAt F k).length := by rw [rowAt_len, HFN.out, HMS.out]; omega
        have HFD : Hid (flat (mpathk F i (k + 1)) = flat (mpathk F i k) ++ cells8 (rowAt F k)[t + 1]) := Lib.hid (by
          rw [mpathk_succ, HFN.out, HMS.out, HMP.out, ha, if_neg (by simp), ho, flat_snoc, List.getD_eq_getElem?_getD, List.getElem?_eq_getElem htl]
          rfl)
        have HCN : Hid (mcnt i N (k + 1) = mcnt i N k + 1) := Lib.hid (by
          show mcnt i N k + (if alone (mpos i k) (msz N k) then 0 else 1) = _
          rw [HMS.out, HMP.out, ha]
          simp)
        have hdg := own_digs' HO7.out (by rw [rowAt_len, HFN.out, HMS.out]) (rowAt_32 HF32.out k)
        have lca : (cells8 (rowAt F k)[t + 1]).length = 32 := by rw [cells8_len, rowAt_32 HF32.out k _ (List.getElem_mem htl)]
        have hd1 := one_cells8 (rowAt F k)[t + 1]
        obtain ⟨_, a', c', e', _, _, hr⟩ := hdg
        obtain ⟨b', off', e2, hlt7, hr⟩ := hr.resolve_left (fun e => by rw [e] at htl; simp at htl)
        have hra := hr (t + 1) htl
        injection e' with e3 e6 e7
        rw [e2] at e3
        injection e3 with e3
        injection e3 with e4 e5
        rw [← e4, ← e5, Nat.zero_add] at hra
        rw [← e4] at hlt7
        clear hr e2 e4 e5 e6 e7
        obtain ⟨D, hD⟩ : ∃ c, cells8 (rowAt F k)[t + 1] = c := ⟨_, rfl⟩
        rw [hD] at hra lca hd1 HFD
        have HZA : Hid ((Tryd.prog.info? 30).map (·.size) = some D.length) := by show _ = _; rw [lca]; exact Tryd.info30
        have HDL := Lib.hid lca
        have HD1 := Lib.hid hd1
        have HRA := Lib.hid hra
        clear hra lca hd1 hD
        have hcb := mcnt_le i N k
        go_upto_region 10 with (first
          | (refine wpList_load_mid rfl 30 (.tmp 47) (by rfl) g7 ((t + 1) * 32) (by rfl) D _ HRA.out Tryd.underlying30 rfl HZA.out ?_)
          | (refine wpList_plain rfl fun K hK => wp_one30 (.tmp 48) (by rfl) D (by rfl) HDL.out ?_
             intro g4 W4 hg4 hlt4 hG4 hr4
             have hB4 : Below wr.heap.size wr W4 := (Below.refl _ _).grown hG4 (Nat.le_refl _) (fun k e => by cases e)
             obtain ⟨v5, W5, r5, hrun5, hO5, hG5, hR5, hr5, _⟩ := digs_app2 (own_after hB4 HO6.out) (by have := HB.out.size; have := hB4.size; omega) g4 HDL.out HD1.out hr4 (by omega)
             have HR5 := Lib.hid hrun5
             have HO5 := Lib.hid hO5
             have HB5 := Lib.hid ((HB.out.trans (hB4.mono HB.out.size)).grown hG5 (by have := HB.out.size; have := hB4.size; omega) (fun k e => (hR5 k e).1))
             have HP5 : Hid (W5.ownsRow w.heap.size 30 32 (.slice (some ⟨g7, 0, none⟩) n p7) n (flat (rowAt F k))) := Lib.hid ((own_after hB4 HO7.out).kept hG5 (.inr (by rw [hr5]; exact fun e => HSEP.out e.symm)))
             clear hrun5 hO5 hB4 hr4 hG4 hG5 hR5 hr5
             refine hK _ _ ?_)
          | (refine wpList_plain rfl fun K hK => wp_app_run (.tmp 43) (.tmp 49) 25 25 (by rfl) _ _ _ _ (by rfl) (by rfl) HR5.out (hK _ _ ?_)))
        go_wp2_with fail
        refine (rnext_own W5 (.slice (some ⟨g7, 0, none⟩) n p7) (rowAt F k) (own_digs' HP5.out (by rw [rowAt_len, HFN.out, HMS.out]) (rowAt_32 HF32.out k)) (by rw [rowAt_len, HFN.out, HMS.out]; omega)).mono ?_
        rintro e W6 ⟨v6, rfl, ho6, hb6⟩
        have HB6 := Lib.hid (HB5.out.trans (hb6.mono HB5.out.size))
        have hl6 : (nexts (rowAt F k)).length = (n + 1) / 2 := by rw [nexts_len, rowAt_len, HFN.out, HMS.out]
        rw [hl6] at ho6
        obtain ⟨g8, p8, rfl⟩ := own_head ho6 (by omega)
        have HQ6 := Lib.hid (own_after hb6 HO5.out)
        have HQ7 : Hid (W6.ownsRow w.heap.size 30 32 (.slice (some ⟨g8, 0, none⟩) ((n + 1) / 2) p8) ((n + 1) / 2) (flat (rowAt F (k + 1)))) := Lib.hid (own_base ho6 HB5.out.size)
        have HSP : Hid ((v5 : Value).ownBlock ≠ some g8) := Lib.hid (fun e => by
          have h1 := (HO5.out.lt g8 e).2
          have h2 := (ho6.lt g8 rfl).1
          omega)
        have iw9 : IntKind.i64.wrap ((t : Int).tdiv 2) = ((t / 2 : Nat) : Int) := by rw [Int.tdiv_eq_ediv_of_nonneg (by omega), IntKind.wrap_i64]; omega
        have hk2 := (mrows_iff k N).2 (by rw [HMS.out]; exact hgt)
        have HK2 := Lib.hid hk2
        clear hb6 hl6 ho6 hk2
        go_wp2
        go_roundw
        case rel =>
          have hx1 : mpos i (k + 1) = t / 2 := by show mpos i k / 2 = _; rw [HMP.out]
          have hx2 : msz N (k + 1) = (n + 1) / 2 := by show (msz N k + 1) / 2 = _; rw [HMS.out]
          refine ⟨k + 1, g8, (n + 1) / 2, p8, t / 2, by simp, by simp, by have := HK2.out; omega, by omega, by omega, by omega, HB6.out, Lib.hid hx1, Lib.hid hx2, Lib.hid ?_, HQ7, HSP⟩
          rw [HCN.out, HFD.out]
          exact HQ6.out
        case measure => simp only [lenV]; omega
      have m1 : (t : Int).tmod 2 = 0 := by rw [Int.tmod_eq_emod_of_nonneg (by omega)]; omega
      have m4 : (t : Int) % 2 = 0 := by omega
      have iwm : IntKind.i64.wrap ((t : Int).tmod 2) = 0 := by rw [m1]; rfl
      have iw1 : IntKind.i64.wrap ((t : Int) + 1) = (t : Int) + 1 := by rw [IntKind.wrap_i64]; omega
      have f3 : decide ((t : Int) + 1 < (n : Int)) = false := by simp; omega
      have f4 : ¬ (t : Int) + 1 < (n : Int) := by omega
      have ha : alone t n = true := by unfold alone; rw [oth_eq, if_pos (by omega)]; simp; omega
      have HFD : Hid (mpathk F i (k + 1) = mpathk F i k) := Lib.hid (by
        rw [mpathk_succ, HFN.out, HMS.out, HMP.out, ha, if_pos rfl])
      have HCN : Hid (mcnt i N (k + 1) = mcnt i N k) := Lib.hid (by
        show mcnt i N k + (if alone (mpos i k) (msz N k) then 0 else 1) = _
        rw [HMS.out, HMP.out, ha]
        simp)
      go_wp2_with fail
      refine (rnext_own wr (.slice (some ⟨g7, 0, none⟩) n p7) (rowAt F k) (own_digs' HO7.out (by rw [rowAt_len, HFN.out, HMS.out]) (rowAt_32 HF32.out k)) (by rw [rowAt_len, HFN.out, HMS.out]; omega)).mono ?_
      rintro e W6 ⟨v6, rfl, ho6, hb6⟩
      have HB6 := Lib.hid (HB.out.trans (hb6.mono HB.out.size))
      have hl6 : (nexts (rowAt F k)).length = (n + 1) / 2 := by rw [nexts_len, rowAt_len, HFN.out, HMS.out]
      rw [hl6] at ho6
      obtain ⟨g8, p8, rfl⟩ := own_head ho6 (by omega)
      have HQ6 := Lib.hid (own_after hb6 HO6.out)
      have HQ7 : Hid (W6.ownsRow w.heap.size 30 32 (.slice (some ⟨g8, 0, none⟩) ((n + 1) / 2) p8) ((n + 1) / 2) (flat (rowAt F (k + 1)))) := Lib.hid (own_base ho6 HB.out.size)
      have HSP : Hid ((u6 : Value).ownBlock ≠ some g8) := Lib.hid (fun e => by
        have h1 := (HO6.out.lt g8 e).2
        have h2 := (ho6.lt g8 rfl).1
        omega)
      have iw9 : IntKind.i64.wrap ((t : Int).tdiv 2) = ((t / 2 : Nat) : Int) := by rw [Int.tdiv_eq_ediv_of_nonneg (by omega), IntKind.wrap_i64]; omega
      have hk2 := (mrows_iff k N).2 (by rw [HMS.out]; exact hgt)
      have HK2 := Lib.hid hk2
      clear hb6 hl6 ho6 hk2
      go_wp2
      go_roundw
      case rel =>
        have hx1 : mpos i (k + 1) = t / 2 := by show mpos i k / 2 = _; rw [HMP.out]
        have hx2 : msz N (k + 1) = (n + 1) / 2 := by show (msz N k + 1) / 2 = _; rw [HMS.out]
        refine ⟨k + 1, g8, (n + 1) / 2, p8, t / 2, by simp, by simp, by have := HK2.out; omega, by omega, by omega, by omega, HB6.out, Lib.hid hx1, Lib.hid hx2, Lib.hid ?_, HQ7, HSP⟩
        rw [HCN.out, HFD.out]
        exact HQ6.out
      case measure => simp only [lenV]; omega
    · have f1 : decide ((n : Int) > 1) = false := by simp; omega
      have f2 : decide ((1 : Int) < (n : Int)) = false := by simp; omega
      have f0 : decide (1 < n) = false := by simp; omega
      have hk : k = mrows N := by
        have h := (mrows_iff k N).1
        rw [HMS.out] at h
        omega
      subst hk
      have hF6 : Digs wr wr.heap.size u6 (mpath F i) := by
        have h := own_digs' (ds := mpathk F i (mrows N)) HO6.out (by rw [mpathk_len, HFN.out]) (mpathk_32 HF32.out (by rw [HFN.out]; exact hi) _)
        unfold mpath
        rw [HFN.out]
        exact h
      have HF6 := Lib.hid hF6
      clear hF6
      go_wp2
      go_returns
      exact ⟨_, rfl, HF6.out, HB.out⟩
/-- The value that the reference's Prove returns. -/
theorem rprove_any (w : World) (v : Value) (l : List (List UInt8)) (i : Int) (hv : BRows w w.heap.size v l) (hb : ∀ b ∈ l, b.length ≤ 900000) :
    Calls Tryd.prog 19 #[v, .int .i64 i] w fun e w' => ∃ v', Digs w' w'.heap.size v' (if leafOk l.length i then mpath (firsts l) i.toNat else []) ∧ e = .returned (.tuple #[v', .int .i64 (if leafOk l.length i then 0 else 1)]) ∧ Below w.heap.size w w' := by
  by_cases h : leafOk l.length i = false
  · simp only [h, Bool.false_eq_true, if_false]
    refine (rprove_arg w v l.length i (by obtain ⟨a, c, rfl, _⟩ := hv; exact ⟨a, c, rfl⟩) h).mono ?_
    rintro e w' ⟨rfl, hb'⟩
    exact ⟨_, ⟨fun d hd => (by cases hd), none, 0, rfl, Nat.le_refl _, by unfold maxLen; omega, .inl rfl⟩, rfl, hb'⟩
  · have h2 : leafOk l.length i = true := by simpa using h
    simp only [h2, if_true]
    unfold leafOk at h2
    simp only [Bool.and_eq_true, decide_eq_true_eq] at h2
    obtain ⟨h3, h4, h5⟩ := h2
    obtain ⟨j, rfl⟩ := Int.eq_ofNat_of_zero_le h4
    refine (rprove_ok w v l j hv hb (by omega) (by omega)).mono ?_
    rintro e w' ⟨v', rfl, hd, hb'⟩
    exact ⟨v', hd, rfl, hb'⟩
end Go.Proofs.YtfmngeemhfpeiaaDoor
