/- The reference's Word and Split; equal rows of texts. -/
import Derived.Test.YtilkhamlhbbmgaaDoorSpl
namespace Go.Proofs.YtilkhamlhbbmgaaDoor
open Go.RowKit

set_option maxRecDepth 100000 in
set_option maxHeartbeats 2000000 in
theorem rword_any (w : World) (bs : List UInt8) : Calls Tryd.prog 28 #[.string (str bs)] w fun e w' => e = .returned (.bool (wordB bs)) ∧ Below w.heap.size w w' := by
  have HRU := Lib.hid (rrunes_any w bs)
  have hsz := str_size bs
  have hbe : decide (bs ≠ []) = decide (1 ≤ bs.length) := by cases bs <;> simp
  unfold wordB
  rw [hbe]
  obtain ⟨s, hs⟩ : ∃ s, str bs = s := ⟨_, rfl⟩
  obtain ⟨N, hN⟩ : ∃ s, bs.length = s := ⟨_, rfl⟩
  obtain ⟨z, hz⟩ : ∃ s, rnsE bs = s := ⟨_, rfl⟩
  obtain ⟨l, hl⟩ : ∃ s, rnsV bs = s := ⟨_, rfl⟩
  rw [hs, hN] at hsz
  rw [hs, hz, hl] at HRU
  rw [hs, hN, hz, hl]
  clear hs hN hz hl hbe
  by_cases h0 : 1 ≤ N
  · have d0 : decide ((N : Int) < 1) = false := by simp; omega
    rw [decide_eq_true h0]
    by_cases h64 : N ≤ 64
    · have d : decide (64 < (N : Int)) = false := by simp; omega
      rw [decide_eq_true h64]
      by_cases hz : z = 0
      · subst hz
        rw [decide_eq_true rfl]
        simp only [Bool.true_and]
        obtain ⟨res, hres⟩ : ∃ r, (!l.any isSp) = r := ⟨_, rfl⟩
        have HRES := Lib.hid hres
        rw [hres]
        clear hres
        go_enter Tryd.func28, Tryd.ntmps28
        go_wp2_with fail
        refine HRU.out.mono ?_
        rintro e w1 ⟨v, rfl, ho, hb⟩
        have HB := Lib.hid hb
        have hir := IRow.of_own ho
        obtain ⟨a, c, rfl, hc, hm, h⟩ := hir
        unfold maxLen at hm
        have HC : Hid (∀ W, Below w1.heap.size w1 W → ∀ k (hk : k < l.length), ∃ b off, a = some ⟨b, off, none⟩ ∧ W.cell? ⟨b, off + k, none⟩ = some (.int .i64 l[k])) := Lib.hid fun W hW k hk => by
          rcases h with rfl | ⟨b, off, rfl, hb, h⟩
          · simp at hk
          · exact ⟨b, off, rfl, (hW.cell (p := ⟨b, off + k, none⟩) hb).trans (h k hk)⟩
        obtain ⟨M, hM⟩ : ∃ N, l.length = N := ⟨_, rfl⟩
        have HM := Lib.hid hM
        rw [hM] at hc ⊢
        clear h hM ho hb
        go_wp2
        go_loop [5] (fun s5 => ∃ k : Nat, k ≤ M ∧ s5 = .int .i64 k ∧ Hid (∀ j (h : j < l.length), j < k → isSp l[j] = false)) (fun s5 => M - (intOf s5).toNat)
        case atStart => exact ⟨0, Nat.zero_le _, rfl, Lib.hid fun j _ h => by omega⟩
        case round =>
          obtain ⟨k, hk, rfl, HJ⟩ := hrel
          by_cases hlt : k < M
          · have hkl : k < l.length := by rw [HM.out]; exact hlt
            obtain ⟨b, off, rfl, hcell⟩ := HC.out w1 (Below.refl _ _) k hkl
            obtain ⟨x, hx⟩ : ∃ x, l[k] = x := ⟨_, rfl⟩
            rw [hx] at hcell
            have HX := Lib.hid hx
            have HP := Lib.hid (fun W => space_any W x)
            clear hx
            cases hok : isSp x with
            | false =>
              have HOK := Lib.hid hok
              rw [hok] at HP
              clear hok
              go_wp2_with (go_at_call 52; refine (HP.out _).mono ?_; rintro e w' ⟨rfl, rfl⟩)
              go_round
              case rel =>
                refine ⟨k + 1, by omega, by go_num, Lib.hid fun j h hj => ?_⟩
                by_cases e : j < k
                · exact HJ.out j h e
                · obtain rfl : j = k := by omega
                  rw [HX.out]; exact HOK.out
              case measure => simp [intOf]; omega
            | true =>
              rw [hok] at HP
              have hr : res = false := by rw [← HRES.out, any_at (p := isSp) hkl (by rw [HX.out]; exact hok)]; rfl
              subst hr
              clear hok
              go_wp2_with (go_at_call 52; refine (HP.out _).mono ?_; rintro e w' ⟨rfl, rfl⟩)
              go_ret
              exact ⟨rfl, HB.out⟩
          · have hr : res = true := by rw [← HRES.out, any_take (by rw [HM.out]; exact hk) HJ.out (by rw [HM.out]; omega)]; rfl
            subst hr
            go_wp2
            go_ret
            exact ⟨rfl, HB.out⟩
      · have d0 : (z == 0) = false := by simpa using hz
        have d1 : (z != 0) = true := by simpa using hz
        rw [decide_eq_false hz]
        simp only [Bool.true_and, Bool.false_and]
        clear hz
        go_enter Tryd.func28, Tryd.ntmps28
        go_wp2_with fail
        refine HRU.out.mono ?_
        rintro e w1 ⟨v, rfl, ho, hb⟩
        have HB := Lib.hid hb
        clear ho hb
        go_wp2
        go_ret
        exact ⟨rfl, HB.out⟩
    · have d : decide (64 < (N : Int)) = true := by simp; omega
      rw [decide_eq_false h64]
      simp only [Bool.and_false, Bool.false_and]
      clear h64
      go_enter Tryd.func28, Tryd.ntmps28
      go_wp2
      go_ret
      exact ⟨rfl, Below.refl _ _⟩
  · have d0 : decide ((N : Int) < 1) = true := by simp; omega
    rw [decide_eq_false h0]
    simp only [Bool.false_and]
    clear h0
    go_enter Tryd.func28, Tryd.ntmps28
    go_wp2
    go_ret
    exact ⟨rfl, Below.refl _ _⟩

theorem Tryd.info9r : (Tryd.prog.info? 9).map (fun i => (i.zero, i.size, i.bytes)) = some (some (.string ⟨#[]⟩), 1, 16) := by kernel_rfl
/-- Rows of elements of different types lie in different blocks. -/
theorem own_other {W W' : World} {B e s n B2 e2 s2 m : Nat} {v u : Value} {xs ys : List Value} (h : W.ownsRow B e s v n xs) (h2 : W.ownsRow B2 e2 s2 u m ys) (hne : e ≠ e2) (hG : W.grownBy W' u.ownBlock) : W'.ownsRow B e s v n xs := by
  refine h.kept hG ?_
  rcases h.2 with ⟨rfl, _⟩ | ⟨g, cap, cur, rfl, _, h5, _⟩
  · exact .inl rfl
  · refine .inr fun q => ?_
    rcases h2.2 with ⟨rfl, _⟩ | ⟨g2, cap2, cur2, rfl, _, h6, _⟩
    · simp [Value.ownBlock] at q
    · simp [Value.ownBlock] at q
      subst q
      rw [h5] at h6
      injection h6 with h6
      injection h6 with _ h6 _
      exact hne h6
/-- What has been read of a text, and what is still to come. -/
def SpI (l : List Int) (k : Nat) (out : List (List Int)) (cur : List Int) : Prop :=
  (k ≤ l.length → out ++ flds isSp cur (l.drop k) = flds isSp [] l) ∧ (k = l.length + 1 → out = flds isSp [] l) ∧ cur.length ≤ k ∧ out.length ≤ k ∧ (encs cur).length ≤ (encs (l.take k)).length ∧ (∀ x ∈ cur, okPt x = true)
theorem SpI.zero (l : List Int) : SpI l 0 [] [] := ⟨fun _ => by simp, fun h => by omega, by simp, by simp, by simp [encs], by simp⟩
theorem encs_take1 {l : List Int} {k : Nat} (h : k < l.length) : (encs (l.take (k + 1))).length = (encs (l.take k)).length + (enc l[k]).length := by
  rw [encs_take h, List.length_append]
theorem SpI.letter {l : List Int} {k : Nat} {out : List (List Int)} {cur : List Int} (h : SpI l k out cur) (hk : k < l.length) (hs : isSp l[k] = false) (ho : okPt l[k] = true) : SpI l (k + 1) out (cur ++ [l[k]]) := by
  obtain ⟨h1, h2, h3, h4, h5, h6⟩ := h
  have e := h1 (by omega)
  rw [List.drop_eq_getElem_cons hk, flds, if_neg (by rw [hs]; simp)] at e
  refine ⟨fun _ => e, fun h => by omega, by simp; omega, by omega, ?_, fun x hx => ?_⟩
  · rw [encs_take1 hk, encs_app, encs_one, List.length_append]; omega
  · rcases List.mem_append.1 hx with hx | hx
    · exact h6 x hx
    · rw [List.mem_singleton.1 hx]; exact ho
theorem encs_take_mono {l : List Int} {k : Nat} : (encs (l.take k)).length ≤ (encs (l.take (k + 1))).length := by
  by_cases h : k < l.length
  · rw [encs_take1 h]; omega
  · rw [List.take_of_length_le (by omega), List.take_of_length_le (by omega)]; exact Nat.le_refl _
theorem SpI.gap {l : List Int} {k : Nat} {out : List (List Int)} (h : SpI l k out []) (hs : k = l.length ∨ ∃ hk : k < l.length, isSp l[k] = true) : SpI l (k + 1) out [] := by
  obtain ⟨h1, h2, h3, h4, h5, h6⟩ := h
  refine ⟨fun hk => ?_, fun hk => ?_, by simp, by omega, by simp [encs], by simp⟩
  · rcases hs with hs | ⟨hk2, hs⟩
    · omega
    · have e := h1 (by omega)
      rw [List.drop_eq_getElem_cons hk2, flds, if_pos hs, if_pos rfl] at e
      exact e
  · have e := h1 (by omega)
    rw [List.drop_eq_nil_of_le (by omega), flds, if_pos rfl, List.append_nil] at e
    exact e
theorem SpI.word {l : List Int} {k : Nat} {out : List (List Int)} {cur : List Int} (h : SpI l k out cur) (hc : cur ≠ []) (hs : k = l.length ∨ ∃ hk : k < l.length, isSp l[k] = true) : SpI l (k + 1) (out ++ [cur]) [] := by
  obtain ⟨h1, h2, h3, h4, h5, h6⟩ := h
  refine ⟨fun hk => ?_, fun hk => ?_, by simp, by simp; omega, by simp [encs], by simp⟩
  · rcases hs with hs | ⟨hk2, hs⟩
    · omega
    · have e := h1 (by omega)
      rw [List.drop_eq_getElem_cons hk2, flds, if_pos hs, if_neg hc] at e
      rw [List.append_assoc]
      exact e
  · have e := h1 (by omega)
    rw [List.drop_eq_nil_of_le (by omega), flds, if_neg hc] at e
    exact e
set_option maxRecDepth 100000 in
set_option maxHeartbeats 8000000 in
theorem rsplit_any (w : World) (bs : List UInt8) : Calls Tryd.prog 25 #[.string (str bs)] w (SplitPost w (rnsE bs) (spV bs)) := by
  have HRU := Lib.hid (rrunes_any w bs)
  by_cases hz : rnsE bs = 0
  · obtain ⟨h1, h2, h3, h4⟩ := rns_ok hz
    obtain ⟨i0, hi, hz0, hz1, hz2⟩ := info_parts Tryd.info3r
    obtain ⟨i9, ji, jz0, jz1, jz2⟩ := info_parts Tryd.info9r
    have HLL : Hid ((encs (rnsV bs)).length ≤ 4096) := Lib.hid (by rw [← h4]; exact h1)
    have hll : (rnsV bs).length ≤ 4096 := by have := (encs_len (rnsV bs)).1; have := HLL.out; omega
    have HOK := Lib.hid h3
    have e1 : spV bs = (flds isSp [] (rnsV bs)).map encs := by unfold spV; rw [if_pos hz]
    rw [e1]
    obtain ⟨l, hl⟩ : ∃ l, rnsV bs = l := ⟨_, rfl⟩
    obtain ⟨s, hs⟩ : ∃ s, str bs = s := ⟨_, rfl⟩
    rw [hz, hl, hs] at HRU
    rw [hl] at HLL HOK hll ⊢
    rw [hz, hs]
    have hb0 := bs0_33
    have hb1 := bs0_22
    clear hl hs hz h1 h2 h3 h4 e1
    obtain ⟨M, hM⟩ : ∃ N, l.length = N := ⟨_, rfl⟩
    have HM := Lib.hid hM
    have HOF : Hid (∀ out cur, SpI l (M + 1) out cur → out = flds isSp [] l) := Lib.hid fun out cur h => h.2.1 (by rw [HM.out])
    obtain ⟨FF, hFF⟩ : ∃ F, flds isSp [] l = F := ⟨_, rfl⟩
    rw [hFF] at HOF ⊢
    clear hFF
    go_enter Tryd.func25, Tryd.ntmps25
    go_wp2_with fail
    refine HRU.out.mono ?_
    rintro e w1 ⟨v, rfl, ho, hb⟩
    have HB1 := Lib.hid hb
    have hir := IRow.of_own ho
    obtain ⟨a, c, rfl, hc, hm, h⟩ := hir
    unfold maxLen at hm
    have HC : Hid (∀ W, Below w1.heap.size w1 W → ∀ k (hk : k < l.length), ∃ b off, a = some ⟨b, off, none⟩ ∧ W.cell? ⟨b, off + k, none⟩ = some (.int .i64 l[k])) := Lib.hid fun W hW k hk => by
      rcases h with rfl | ⟨b, off, rfl, hb, h⟩
      · simp at hk
      · exact ⟨b, off, rfl, (hW.cell (p := ⟨b, off + k, none⟩) hb).trans (h k hk)⟩
    rw [hM] at hc hll ⊢
    clear h hM ho hb
    go_wp2
    go_loopw [6, 7, 8, 9, 10] (fun s6 s7 s8 _ _ wr => ∃ (k : Nat) (out : List (List Int)) (cur : List Int), k ≤ M + 1 ∧ s8 = .int .i64 k ∧ Hid (SpI l k out cur) ∧ Hid (Below w1.heap.size w1 wr) ∧ Hid (wr.ownsRow w1.heap.size 9 1 s6 out.length (scells (out.map encs))) ∧ Hid (wr.ownsRow w1.heap.size 3 1 s7 cur.length (icells cur))) (fun _ _ s8 _ _ _ => M + 1 - (intOf s8).toNat)
    case atStart =>
      exact ⟨0, [], [], Nat.zero_le _, rfl, Lib.hid (SpI.zero l), Lib.hid (((Below.refl _ w1).alloc (Nat.le_refl _) _).alloc (by simp) _), Lib.hid ((own_empty w1 _ 9 (Nat.le_refl _)).alloc _), Lib.hid (by have := own_empty (w1.alloc (.cells #[] 9)) w1.heap.size 3 (by simp); simpa [icells] using this)⟩
    case round =>
      obtain ⟨k, out, cur, hk, rfl, HI, HB, HO6, HO7⟩ := hrel
      obtain ⟨a6, p6, rfl⟩ := own_slice HO6.out
      obtain ⟨a7, p7, rfl⟩ := own_slice HO7.out
      by_cases hlt : k < M
      · have hkl : k < l.length := by rw [HM.out]; exact hlt
        obtain ⟨b, off, rfl, hcell⟩ := HC.out wr HB.out k hkl
        have hok : okPt l[k] = true := HOK.out _ (List.getElem_mem hkl)
        have d1 : decide ((k : Int) ≤ (M : Int)) = true := by simp; omega
        have d2 : decide (k ≤ M) = true := by simp; omega
        cases hsp : isSp l[k] with
        | false =>
          have HIL := Lib.hid (HI.out.letter hkl hsp hok)
          have hcl := HI.out.2.2.1
          obtain ⟨x, hx⟩ : ∃ x, l[k] = x := ⟨_, rfl⟩
          have HP := Lib.hid (fun W => space_any W x)
          rw [hx] at hcell HIL hsp
          rw [hsp] at HP
          obtain ⟨nc, hnc⟩ : ∃ n, cur.length = n := ⟨_, rfl⟩
          have HNC := Lib.hid hnc
          rw [hnc] at HO7 hcl ⊢
          have hbs := HB.out.size
          clear hx hsp hok hnc HI
          go_wp2_with (first
            | (go_at_call 52; refine (HP.out _).mono ?_; rintro e w' ⟨rfl, hw⟩; have hw2 := hw.symm; subst hw2; clear hw)
            | (at_builtin; refine wpList_append_own _ rfl (.tmp 39) (.tmp 44) 22 rfl w1.heap.size 3 i0 (.int .i64 0) 1 8 Tryd.underlying22 hi hz0 hz1 hz2 rfl (by decide) (.slice a7 nc p7) nc (icells cur) rfl (HO7.out.alloc _) ⟨_, 0, none⟩ 1 1 [.int .i64 x] rfl rfl (cell_one_new _ _ _) (by simp [Value.oneCell']) (by unfold maxLen; omega) (by omega) (by simp; omega) ?_; intro v' w5 hown' hgrow _; have HO5 := Lib.hid hown'; have HB5 := Lib.hid ((HB.out.alloc HB.out.size _).grown hgrow (by simp; omega) (fun r e => (HO7.out.lt r e).1)); have HO65 := Lib.hid (own_other (HO6.out.alloc _) (HO7.out.alloc _) (by decide) hgrow); clear hown' hgrow))
          go_roundw
          case rel => exact ⟨k + 1, out, cur ++ [x], by omega, by go_num, HIL, HB5, HO65, Lib.hid (by rw [icells_app, List.length_append, HNC.out]; exact HO5.out)⟩
          case measure => simp [intOf] <;> omega
        | true =>
          have HSP := Lib.hid hsp
          obtain ⟨x, hx⟩ : ∃ x, l[k] = x := ⟨_, rfl⟩
          have HP := Lib.hid (fun W => space_any W x)
          rw [hx] at hcell hsp
          rw [hsp] at HP
          clear hx hsp hok
          cases cur with
          | nil =>
            have hc0 : decide ((0 : Int) < (([] : List Int).length : Int)) = false := by simp
            go_wp2_with (go_at_call 52; refine (HP.out _).mono ?_; rintro e w' ⟨rfl, hw⟩; have hw2 := hw.symm; subst hw2; clear hw)
            go_roundw
            case rel => exact ⟨k + 1, out, [], by omega, by go_num, Lib.hid (HI.out.gap (.inr ⟨hkl, HSP.out⟩)), Lib.hid (HB.out.alloc HB.out.size _), Lib.hid (HO6.out.alloc _), Lib.hid (own_empty wr _ 3 HB.out.size)⟩
            case measure => simp [intOf] <;> omega
          | cons c0 cur =>
            have hjv : jnE (c0 :: cur) = 0 ∧ jnS (c0 :: cur) = encs (c0 :: cur) := by
              have ha : (c0 :: cur).all okPt = true := List.all_eq_true.2 HI.out.2.2.2.2.2
              have hle : (encs (c0 :: cur)).length ≤ 4096 := by have := HI.out.2.2.2.2.1; have := encs_take_le l k; have := HLL.out; omega
              unfold jnE jnS
              rw [ha, if_pos rfl, if_neg (by omega), decide_eq_true hle]
              exact ⟨rfl, rfl⟩
            have HJN := Lib.hid (rjoin_any wr (.slice a7 (c0 :: cur).length p7) (c0 :: cur) (IRow.of_own HO7.out) (by have := HI.out.2.2.1; omega))
            rw [hjv.1, hjv.2] at HJN
            have HIW := Lib.hid (HI.out.word (by simp) (.inr ⟨hkl, HSP.out⟩))
            have HOL : Hid (out.length ≤ 4096) := Lib.hid (by have := HI.out.2.2.2.1; omega)
            obtain ⟨wd, hwd⟩ : ∃ x, c0 :: cur = x := ⟨_, rfl⟩
            have hwl : 0 < wd.length := by rw [← hwd]; simp
            rw [hwd] at HO7 HJN HIW ⊢
            obtain ⟨nw, hnw⟩ : ∃ n, wd.length = n := ⟨_, rfl⟩
            rw [hnw] at HO7 HJN hwl ⊢
            obtain ⟨eb, heb⟩ : ∃ b, encs wd = b := ⟨_, rfl⟩
            rw [heb] at HJN
            have HEB := Lib.hid heb
            obtain ⟨es, hes⟩ : ∃ b, str eb = b := ⟨_, rfl⟩
            rw [hes] at HJN
            have HES := Lib.hid hes
            obtain ⟨no, hno⟩ : ∃ n, out.length = n := ⟨_, rfl⟩
            have HNO := Lib.hid hno
            rw [hno] at HO6 HOL ⊢
            have hnol := HOL.out
            have hc0 : decide ((0 : Int) < (nw : Int)) = true := by simp; omega
            have hc1 : decide (0 < nw) = true := by simp; omega
            clear hjv hwd hnw heb hes hno HI
            go_wp2_with (go_at_call 52; refine (HP.out _).mono ?_; rintro e w' ⟨rfl, hw⟩; have hw2 := hw.symm; subst hw2; clear hw)
            ((with_reducible refine (HJN.out).mono ?_); rintro e w4 ⟨rfl, hb4⟩)
            have HB4 := Lib.hid (HB.out.trans (hb4.mono HB.out.size))
            have HO64 := Lib.hid (own_after hb4 HO6.out)
            have hs4 := HB4.out.size
            clear hb4 HJN
            go_wp2_with (at_builtin; refine wpList_append_own _ rfl _ _ 33 rfl w1.heap.size 9 i9 (.string ⟨#[]⟩) 1 16 Tryd.underlying33 ji jz0 jz1 jz2 rfl (by decide) (.slice a6 no p6) no (scells (out.map encs)) rfl (HO64.out.alloc _) ⟨w4.heap.size, 0, none⟩ 1 1 [.string es] rfl rfl (cell_one_new _ _ _) (by simp [Value.oneCell']) (by unfold maxLen; omega) (by omega) (by simp; omega) ?_; intro v' w5 hown' hgrow _; have HO5 := Lib.hid hown'; have HB5 := Lib.hid ((HB4.out.alloc HB4.out.size _).grown hgrow (by simp; omega) (fun r e => (HO64.out.lt r e).1)); clear hown' hgrow)
            go_roundw
            case rel => exact ⟨k + 1, out ++ [wd], [], by omega, by go_num, HIW, Lib.hid (HB5.out.alloc HB5.out.size _), Lib.hid (by have := (HO5.out.alloc (.cells #[] 3)); rw [List.length_append, HNO.out, List.map_append, scells_app]; simpa [scells, HEB.out, HES.out] using this), Lib.hid (own_empty w5 _ 3 HB5.out.size)⟩
            case measure => simp [intOf] <;> omega

      · by_cases hkm : k = M
        · have HM2 : Hid (k = l.length) := Lib.hid (by rw [HM.out]; exact hkm)
          subst hkm
          clear hlt
          cases cur with
          | nil =>
            have hc0 : decide ((0 : Int) < (([] : List Int).length : Int)) = false := by simp
            go_wp2
            go_roundw
            case rel => exact ⟨k + 1, out, [], by omega, by go_num, Lib.hid (HI.out.gap (.inl HM2.out)), Lib.hid (HB.out.alloc HB.out.size _), Lib.hid (HO6.out.alloc _), Lib.hid (own_empty wr _ 3 HB.out.size)⟩
            case measure => simp [intOf] <;> omega
          | cons c0 cur =>
            have hjv : jnE (c0 :: cur) = 0 ∧ jnS (c0 :: cur) = encs (c0 :: cur) := by
              have ha : (c0 :: cur).all okPt = true := List.all_eq_true.2 HI.out.2.2.2.2.2
              have hle : (encs (c0 :: cur)).length ≤ 4096 := by have := HI.out.2.2.2.2.1; have := encs_take_le l k; have := HLL.out; omega
              unfold jnE jnS
              rw [ha, if_pos rfl, if_neg (by omega), decide_eq_true hle]
              exact ⟨rfl, rfl⟩
            have HJN := Lib.hid (rjoin_any wr (.slice a7 (c0 :: cur).length p7) (c0 :: cur) (IRow.of_own HO7.out) (by have := HI.out.2.2.1; omega))
            rw [hjv.1, hjv.2] at HJN
            have HIW := Lib.hid (HI.out.word (by simp) (.inl HM2.out))
            have HOL : Hid (out.length ≤ 4096) := Lib.hid (by have := HI.out.2.2.2.1; omega)
            obtain ⟨wd, hwd⟩ : ∃ x, c0 :: cur = x := ⟨_, rfl⟩
            have hwl : 0 < wd.length := by rw [← hwd]; simp
            rw [hwd] at HO7 HJN HIW ⊢
            obtain ⟨nw, hnw⟩ : ∃ n, wd.length = n := ⟨_, rfl⟩
            rw [hnw] at HO7 HJN hwl ⊢
            obtain ⟨eb, heb⟩ : ∃ b, encs wd = b := ⟨_, rfl⟩
            rw [heb] at HJN
            have HEB := Lib.hid heb
            obtain ⟨es, hes⟩ : ∃ b, str eb = b := ⟨_, rfl⟩
            rw [hes] at HJN
            have HES := Lib.hid hes
            obtain ⟨no, hno⟩ : ∃ n, out.length = n := ⟨_, rfl⟩
            have HNO := Lib.hid hno
            rw [hno] at HO6 HOL ⊢
            have hnol := HOL.out
            have hc0 : decide ((0 : Int) < (nw : Int)) = true := by simp; omega
            have hc1 : decide (0 < nw) = true := by simp; omega
            clear hjv hwd hnw heb hes hno HI
            go_wp2_with fail
            ((with_reducible refine (HJN.out).mono ?_); rintro e w4 ⟨rfl, hb4⟩)
            have HB4 := Lib.hid (HB.out.trans (hb4.mono HB.out.size))
            have HO64 := Lib.hid (own_after hb4 HO6.out)
            have hs4 := HB4.out.size
            clear hb4 HJN
            go_wp2_with (at_builtin; refine wpList_append_own _ rfl _ _ 33 rfl w1.heap.size 9 i9 (.string ⟨#[]⟩) 1 16 Tryd.underlying33 ji jz0 jz1 jz2 rfl (by decide) (.slice a6 no p6) no (scells (out.map encs)) rfl (HO64.out.alloc _) ⟨w4.heap.size, 0, none⟩ 1 1 [.string es] rfl rfl (cell_one_new _ _ _) (by simp [Value.oneCell']) (by unfold maxLen; omega) (by omega) (by simp; omega) ?_; intro v' w5 hown' hgrow _; have HO5 := Lib.hid hown'; have HB5 := Lib.hid ((HB4.out.alloc HB4.out.size _).grown hgrow (by simp; omega) (fun r e => (HO64.out.lt r e).1)); clear hown' hgrow)
            go_roundw
            case rel => exact ⟨k + 1, out ++ [wd], [], by omega, by go_num, HIW, Lib.hid (HB5.out.alloc HB5.out.size _), Lib.hid (by have := (HO5.out.alloc (.cells #[] 3)); rw [List.length_append, HNO.out, List.map_append, scells_app]; simpa [scells, HEB.out, HES.out] using this), Lib.hid (own_empty w5 _ 3 HB5.out.size)⟩
            case measure => simp [intOf] <;> omega

        · have hk1 : k = M + 1 := by omega
          subst hk1
          have ho := HOF.out _ _ HI.out
          subst ho
          have d1 : decide (((M + 1 : Nat) : Int) ≤ (M : Int)) = false := by simp; omega
          have d2 : decide (M + 1 ≤ M) = false := by simp
          clear hkm hlt
          go_wp2
          go_ret2
          refine ⟨_, rfl, ?_, HB1.out.trans (HB.out.mono HB1.out.size)⟩
          rw [List.length_map]
          exact own_base HO6.out HB1.out.size
  · have e1 : spV bs = [] := by unfold spV; rw [if_neg hz]
    rw [e1]
    obtain ⟨l, hl⟩ : ∃ l, rnsV bs = l := ⟨_, rfl⟩
    obtain ⟨z, hz2⟩ : ∃ l, rnsE bs = l := ⟨_, rfl⟩
    obtain ⟨s, hs⟩ : ∃ s, str bs = s := ⟨_, rfl⟩
    rw [hz2] at hz
    rw [hz2, hl, hs] at HRU
    rw [hz2, hs]
    have d : (z == 0) = false := by simpa using hz
    have d2 : (z != 0) = true := by simpa using hz
    clear hl hs hz2 hz e1
    go_enter Tryd.func25, Tryd.ntmps25
    go_wp2_with fail
    refine HRU.out.mono ?_
    rintro e w1 ⟨v, rfl, ho, hb⟩
    have HB := Lib.hid hb
    clear ho hb
    go_wp2
    go_ret2
    exact ⟨_, rfl, World.ownsRow_nil _ _ _ _, HB.out⟩
end Go.Proofs.YtilkhamlhbbmgaaDoor
