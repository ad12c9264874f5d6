/- The law FontsUnused, walked. -/
import Derived.Test.YtljgcpfibamdpaaDoorFpi
import Derived.Test.YtljgcpfibamdpaaDoorRfc
import Derived.Test.YtljgcpfibamdpaaDoorFsn
import Derived.Test.YtljgcpfibamdpaaDoorLjo
import Derived.Test.YtljgcpfibamdpaaDoorFrm
namespace Go.Proofs.YtljgcpfibamdpaaDoor
open Go.RowKit

theorem below_alloc (W : World) (o : Obj) : Below W.heap.size W (W.alloc o) := (Below.refl _ W).alloc (Nat.le_refl _) o
/-- What the walk keeps of the sameness of two fonts. -/
theorem unused_same {f : Fo} {g k : Tri} {bs : List UInt8} {room : Int} (h0 : f.err = 0) (h1 : (moreF f g k).err = 0) (h2 : rnsE bs = 0) (h : ∀ i, i < (rnsV bs).length → ¬ (g.a ≤ (rnsV bs).getD i 0 ∧ (rnsV bs).getD i 0 ≤ g.b) ∧ (0 < i → ¬ (k.a = (rnsV bs).getD (i - 1) 0 ∧ k.b = (rnsV bs).getD i 0))) :
    frE f bs = 0 ∧ frE (moreF f g k) bs = 0 ∧ fwW (moreF f g k) bs = fwW f bs ∧ fitR (moreF f g k) bs room = fitR f bs room := by
  have e1 : frE f bs = 0 := by unfold frE; rw [if_pos h0, h2]
  have e2 : frE (moreF f g k) bs = 0 := by unfold frE; rw [if_pos h1, h2]
  have v1 : frV f bs = rnsV bs := by unfold frV; rw [if_pos h0]
  have v2 : frV (moreF f g k) bs = rnsV bs := by unfold frV; rw [if_pos h1]
  have hw := wdt_more (f := f) h
  refine ⟨e1, e2, ?_, ?_⟩
  · unfold fwW; rw [if_pos e1, if_pos e2, v1, v2, hw _ (Nat.le_refl _)]
  · unfold fitR; rw [if_pos e1, if_pos e2, v1, v2, fitS_more (M := (rnsV bs).length) hw _ (Nat.le_refl _)]
set_option maxRecDepth 100000 in
set_option maxHeartbeats 8000000 in
theorem lawUnused (w : World) (v : Value) (f : Fo) (h : FAt w w.heap.size v f) (s : ByteArray) (room : Int) (_h2 : (Lit.int .i64 room).wf = true) (n3 : Int) (h3 : (Lit.int .i64 n3).wf = true) (n4 : Int) (h4 : (Lit.int .i64 n4).wf = true) (n5 : Int) (h5 : (Lit.int .i64 n5).wf = true) (n6 : Int) (h6 : (Lit.int .i64 n6).wf = true) (n7 : Int) (h7 : (Lit.int .i64 n7).wf = true) (n8 : Int) (h8 : (Lit.int .i64 n8).wf = true) (hT : UTab w) : Calls Tryd.prog 9 #[v, .string s, .int .i64 room, .int .i64 n3, .int .i64 n4, .int .i64 n5, .int .i64 n6, .int .i64 n7, .int .i64 n8] w fun e w' => e = .returned (.bool true) ∧ Below w.heap.size w w' := by
  obtain ⟨bs, rfl⟩ : ∃ bs, s = str bs := ⟨s.data.toList, (str_of s).symm⟩
  have HSN := Lib.hid (fun W (hW : Below w.heap.size w W) => sane_any W (hT.below hW))
  have HFE := Lib.hid (fun W (hW : Below w.heap.size w W) => rfew_any W v f (h.from hW hW.size) bs)
  have HRC := Lib.hid (fun W (hW : Below w.heap.size w W) => rcheck_any W v f (h.from hW hW.size))
  have HRN := Lib.hid (fun W (_ : Below w.heap.size w W) => rrunes_any W bs)
  have HW1 := Lib.hid (fun W (hW : Below w.heap.size w W) => fwidth_text W v f (h.from hW hW.size) bs (hT.below hW))
  have HF1 := Lib.hid (fun W (hW : Below w.heap.size w W) => fit_text W v f (h.from hW hW.size) bs room (hT.below hW))
  have hi3 : Tri.in64 ⟨n3, n4, n5⟩ := ⟨wf_in64 h3, wf_in64 h4, wf_in64 h5⟩
  have hi6 : Tri.in64 ⟨n6, n7, n8⟩ := ⟨wf_in64 h6, wf_in64 h7, wf_in64 h8⟩
  have HIG := Lib.hid (fun hr : f.err = 0 => (err_ok hr).2)
  have HSAME : Hid (f.err = 0 → (moreF f ⟨n3, n4, n5⟩ ⟨n6, n7, n8⟩).err = 0 → rnsE bs = 0 → (∀ i, i < (rnsV bs).length → ¬ (n3 ≤ (rnsV bs).getD i 0 ∧ (rnsV bs).getD i 0 ≤ n4) ∧ (0 < i → ¬ (n6 = (rnsV bs).getD (i - 1) 0 ∧ n7 = (rnsV bs).getD i 0))) → frE f bs = 0 ∧ frE (moreF f ⟨n3, n4, n5⟩ ⟨n6, n7, n8⟩) bs = 0 ∧ fwW (moreF f ⟨n3, n4, n5⟩ ⟨n6, n7, n8⟩) bs = fwW f bs ∧ fitR (moreF f ⟨n3, n4, n5⟩ ⟨n6, n7, n8⟩) bs room = fitR f bs room) := Lib.hid (fun a b c d => unused_same a b c d)
  have HLN : Hid (rnsE bs = 0 → (rnsV bs).length ≤ 4096) := Lib.hid (fun h1 => by
    obtain ⟨q1, q2, q3, q4⟩ := rns_ok h1
    have := (encs_len (rnsV bs)).1
    have h2 := congrArg List.length q4
    omega)
  obtain ⟨ga, gc, ka, kc, rfl, -, -, -, -, ho64, htg, htk⟩ := h.open
  have HPG := Lib.hid (fun W (hW : Below w.heap.size w W) => (htg.from hW hW.size).piece)
  have HPK := Lib.hid (fun W (hW : Below w.heap.size w W) => (htk.from hW hW.size).piece)
  -- the new font, wherever its rows stand
  have HNEW : Hid (∀ W, Below w.heap.size w W → ∀ B e B' e' vg vk, W.ownsRow B e 3 vg (f.gs.length + 1) (tcells (f.gs ++ [⟨n3, n4, n5⟩])) → W.ownsRow B' e' 3 vk (f.ks.length + 1) (tcells (f.ks ++ [⟨n6, n7, n8⟩])) → FAt W W.heap.size (.agg #[vg, .int .i64 f.o, vk]) (moreF f ⟨n3, n4, n5⟩ ⟨n6, n7, n8⟩)) := Lib.hid (fun W hW B e B' e' vg vk hg hk => by
    have hge : ∀ t ∈ f.gs, t.in64 := by
      obtain ⟨_, _, e1, _, _, h4⟩ := htg
      rcases h4 with h4 | ⟨_, _, _, _, h4⟩
      · intro t ht; rw [h4] at ht; cases ht
      · intro t ht; obtain ⟨i, hi, rfl⟩ := List.getElem_of_mem ht; exact (h4 i hi).1
    have hke : ∀ t ∈ f.ks, t.in64 := by
      obtain ⟨_, _, e1, _, _, h4⟩ := htk
      rcases h4 with h4 | ⟨_, _, _, _, h4⟩
      · intro t ht; rw [h4] at ht; cases ht
      · intro t ht; obtain ⟨i, hi, rfl⟩ := List.getElem_of_mem ht; exact (h4 i hi).1
    refine ⟨vg, vk, rfl, ho64, TAt.of_own hg (by simp [moreF]) ?_, TAt.of_own hk (by simp [moreF]) ?_⟩
    · intro t ht
      simp only [moreF, List.mem_append, List.mem_singleton] at ht
      rcases ht with ht | rfl
      · exact hge t ht
      · exact hi3
    · intro t ht
      simp only [moreF, List.mem_append, List.mem_singleton] at ht
      rcases ht with ht | rfl
      · exact hke t ht
      · exact hi6)
  have HT := Lib.hid hT
  have HNC := Lib.hid (fun W (hW : Below w.heap.size w W) B e B' e' vg vk (hg : W.ownsRow B e 3 vg (f.gs.length + 1) (tcells (f.gs ++ [⟨n3, n4, n5⟩]))) (hk : W.ownsRow B' e' 3 vk (f.ks.length + 1) (tcells (f.ks ++ [⟨n6, n7, n8⟩]))) => rcheck_any W _ _ (HNEW.out W hW B e B' e' vg vk hg hk))
  have HNK := Lib.hid (fun W (hW : Below w.heap.size w W) B e B' e' vg vk (hg : W.ownsRow B e 3 vg (f.gs.length + 1) (tcells (f.gs ++ [⟨n3, n4, n5⟩]))) (hk : W.ownsRow B' e' 3 vk (f.ks.length + 1) (tcells (f.ks ++ [⟨n6, n7, n8⟩]))) => fcheck_any W _ _ (HNEW.out W hW B e B' e' vg vk hg hk))
  have HNW := Lib.hid (fun W (hW : Below w.heap.size w W) B e B' e' vg vk (hg : W.ownsRow B e 3 vg (f.gs.length + 1) (tcells (f.gs ++ [⟨n3, n4, n5⟩]))) (hk : W.ownsRow B' e' 3 vk (f.ks.length + 1) (tcells (f.ks ++ [⟨n6, n7, n8⟩]))) => fwidth_text W _ _ (HNEW.out W hW B e B' e' vg vk hg hk) bs (hT.below hW))
  have HNF := Lib.hid (fun W (hW : Below w.heap.size w W) B e B' e' vg vk (hg : W.ownsRow B e 3 vg (f.gs.length + 1) (tcells (f.gs ++ [⟨n3, n4, n5⟩]))) (hk : W.ownsRow B' e' 3 vk (f.ks.length + 1) (tcells (f.ks ++ [⟨n6, n7, n8⟩]))) => fit_text W _ _ (HNEW.out W hW B e B' e' vg vk hg hk) bs room (hT.below hW))
  have HAG : Hid (tcells f.gs ++ tcells [⟨n3, n4, n5⟩] = tcells (f.gs ++ [⟨n3, n4, n5⟩])) := Lib.hid (tcells_app _ _).symm
  have HAK : Hid (tcells f.ks ++ tcells [⟨n6, n7, n8⟩] = tcells (f.ks ++ [⟨n6, n7, n8⟩])) := Lib.hid (tcells_app _ _).symm
  have HLG := Lib.hid (tcells_len f.gs)
  have HLK := Lib.hid (tcells_len f.ks)
  have HOG := Lib.hid (tcells_one f.gs)
  have HOK := Lib.hid (tcells_one f.ks)
  obtain ⟨tg, htg2⟩ : ∃ x, tcells (f.gs ++ [⟨n3, n4, n5⟩]) = x := ⟨_, rfl⟩
  obtain ⟨tk, htk2⟩ : ∃ x, tcells (f.ks ++ [⟨n6, n7, n8⟩]) = x := ⟨_, rfl⟩
  obtain ⟨ug, hug⟩ : ∃ x, tcells f.gs = x := ⟨_, rfl⟩
  obtain ⟨uk, huk⟩ : ∃ x, tcells f.ks = x := ⟨_, rfl⟩
  simp only [htg2, htk2] at HNC HNK HNW HNF HAG HAK
  simp only [hug] at HAG HLG HOG HPG
  simp only [huk] at HAK HLK HOK HPK
  obtain ⟨q, hq⟩ : ∃ b, fewB f.gs.length f.ks.length bs.length = b := ⟨_, rfl⟩
  obtain ⟨xr, hx⟩ : ∃ b, fitR f bs room = b := ⟨_, rfl⟩
  obtain ⟨yr, hy⟩ : ∃ b, fitR (moreF f ⟨n3, n4, n5⟩ ⟨n6, n7, n8⟩) bs room = b := ⟨_, rfl⟩
  obtain ⟨ex, hex⟩ : ∃ b, frE f bs = b := ⟨_, rfl⟩
  obtain ⟨ey, hey⟩ : ∃ b, frE (moreF f ⟨n3, n4, n5⟩ ⟨n6, n7, n8⟩) bs = b := ⟨_, rfl⟩
  obtain ⟨wx, hwx⟩ : ∃ b, fwW f bs = b := ⟨_, rfl⟩
  obtain ⟨wy, hwy⟩ : ∃ b, fwW (moreF f ⟨n3, n4, n5⟩ ⟨n6, n7, n8⟩) bs = b := ⟨_, rfl⟩
  obtain ⟨z, hz⟩ : ∃ b, f.err = b := ⟨_, rfl⟩
  obtain ⟨z2, hz2⟩ : ∃ b, (moreF f ⟨n3, n4, n5⟩ ⟨n6, n7, n8⟩).err = b := ⟨_, rfl⟩
  obtain ⟨e9, he9⟩ : ∃ b, rnsE bs = b := ⟨_, rfl⟩
  obtain ⟨l, hl⟩ : ∃ b, rnsV bs = b := ⟨_, rfl⟩
  simp only [hq] at HFE
  simp only [hz] at HRC HIG
  simp only [he9, hl] at HRN HLN
  simp only [hwx, hex] at HW1
  simp only [hx, hex] at HF1
  simp only [hz2] at HNC HNK
  simp only [hwy, hey] at HNW
  simp only [hy, hey] at HNF
  simp only [hz, hz2, he9, hl, hwx, hwy, hex, hey, hx, hy] at HSAME
  obtain ⟨x1, x2⟩ := xr
  obtain ⟨G, hGe⟩ : ∃ G, f.gs.length = G := ⟨_, rfl⟩
  obtain ⟨K, hKe⟩ : ∃ G, f.ks.length = G := ⟨_, rfl⟩
  obtain ⟨o, hoe⟩ : ∃ G, f.o = G := ⟨_, rfl⟩
  obtain ⟨M, hM⟩ : ∃ G, l.length = G := ⟨_, rfl⟩
  have HM := Lib.hid hM
  obtain ⟨s, hs⟩ : ∃ s, str bs = s := ⟨_, rfl⟩
  rw [hGe, hKe] at HIG
  rw [hGe] at HPG HLG
  rw [hKe] at HPK HLK
  rw [hGe, hKe, hoe] at HFE HRC HW1 HF1 HNC HNK HNW HNF
  rw [hM] at HLN HSAME
  simp only [hs] at HFE HRN HW1 HF1 HNW HNF ⊢
  rw [hGe, hKe, hoe]
  have hbs3 := bs0_33
  have hbs4 := bs0_34
  obtain ⟨i0, hi, hz0, hz1, hz2'⟩ := info_parts Tryd.info47r
  obtain ⟨j0, hj, hj0, hj1, hj2⟩ := info_parts Tryd.info49r
  clear h hT hq hx hy hex hey hwx hwy hz hz2 he9 hl hGe hKe hoe hs hM ho64 htg htk htg2 htk2 hug huk HNEW hi3 hi6 h3 h4 h5 h6 h7 h8 _h2
  go_enter Tryd.func9, Tryd.ntmps9
  go_wp2_with fail
  have hA := Arr.new w #[.slice ga G gc, .int .i64 o, .slice ka K kc] 36
  have hB1 : Below w.heap.size w (w.alloc (.cells #[.slice ga G gc, .int .i64 o, .slice ka K kc] 36)) := (Below.refl _ _).alloc (Nat.le_refl _) _
  obtain ⟨w1, hw1⟩ : ∃ W, w.alloc (.cells #[.slice ga G gc, .int .i64 o, .slice ka K kc] 36) = W := ⟨_, rfl⟩
  rw [hw1] at hA hB1 ⊢
  obtain ⟨g, hg⟩ : ∃ g, w.heap.size = g := ⟨_, rfl⟩
  have HGW := Lib.hid hg
  rw [hg] at hA ⊢
  have HA1 := Lib.hid hA
  have HB1 := Lib.hid hB1
  clear hw1 hA hB1 hg
  refine (HSN.out w1 HB1.out).mono ?_
  rintro e w2 ⟨rfl, hb⟩
  have HA2 := Lib.hid (HA1.out.below hb (HA1.out.lt (by simp)))
  have HB2 := Lib.hid (HB1.out.trans (hb.mono HB1.out.size))
  clear hb
  have c0 := HA2.out.cell (i := 0) rfl
  have c1 := HA2.out.cell (i := 1) rfl
  have c2 := HA2.out.cell (i := 2) rfl
  go_wp2_with fail
  refine (HFE.out w2 HB2.out).mono ?_
  rintro e w3 ⟨rfl, hb⟩
  have HA3 := Lib.hid (HA2.out.below hb (HA2.out.lt (by simp)))
  have HB3 := Lib.hid (HB2.out.trans (hb.mono HB2.out.size))
  clear hb c0 c1 c2
  cases q with
  | false =>
    go_wp2
    go_ret
    exact ⟨rfl, HB3.out⟩
  | true =>
    clear HSN HFE
    have c0 := HA3.out.cell (i := 0) rfl
    have c1 := HA3.out.cell (i := 1) rfl
    have c2 := HA3.out.cell (i := 2) rfl
    go_wp2_with fail
    refine (HRC.out w3 HB3.out).mono ?_
    rintro e w4 ⟨rfl, hb⟩
    have HA4 := Lib.hid (HA3.out.below hb (HA3.out.lt (by simp)))
    have HB4 := Lib.hid (HB3.out.trans (hb.mono HB3.out.size))
    clear hb c0 c1 c2
    by_cases hz : z = 0
    · subst hz
      have HIG2 := Lib.hid (HIG.out rfl)
      have HSAME2 := Lib.hid (HSAME.out rfl)
      clear HIG HSAME
      go_wp2_with fail
      refine (HRN.out w4 HB4.out).mono ?_
      rintro e w5 ⟨vl, rfl, ho, hb⟩
      have HA5 := Lib.hid (HA4.out.below hb (HA4.out.lt (by simp)))
      have HB5 := Lib.hid (HB4.out.trans (hb.mono HB4.out.size))
      have HO5 := Lib.hid (own_base ho HB4.out.size)
      clear hb
      by_cases he : e9 = 0
      · subst he
        have HSAME := Lib.hid (fun h => HSAME2.out h rfl)
        have hO := HO5.out
        rw [HM.out] at hO
        have HI5 := Lib.hid (IRow.of_own HO5.out)
        obtain ⟨la, lc, rfl⟩ := own_slice hO
        have hM4 := HLN.out rfl
        obtain ⟨hG9, hK9⟩ := HIG2.out
        clear hO HSAME2 HLN HIG2 HO5
        have c0 := HA5.out.cell (i := 0) rfl
        have c1 := HA5.out.cell (i := 1) rfl
        have c2 := HA5.out.cell (i := 2) rfl
        have HLT5 : Hid (g < w5.heap.size) := Lib.hid (HA5.out.lt (by simp))
        have HA6 := Lib.hid (HA5.out.alloc HLT5.out (Obj.cells #[.slice ga G gc, .int .i64 o, .slice ka K kc] 36))
        have HN6 := Lib.hid (Arr.new w5 #[.slice ga G gc, .int .i64 o, .slice ka K kc] 36)
        have HBW6 : Hid (Below w.heap.size w (w5.alloc (Obj.cells #[.slice ga G gc, .int .i64 o, .slice ka K kc] 36))) := Lib.hid (HB5.out.alloc HB5.out.size _)
        have HBV6 : Hid (Below w5.heap.size w5 (w5.alloc (Obj.cells #[.slice ga G gc, .int .i64 o, .slice ka K kc] 36))) := Lib.hid (below_alloc w5 _)
        have HBX : Hid (Below w.heap.size w ((w5.alloc (Obj.cells #[.slice ga G gc, .int .i64 o, .slice ka K kc] 36)).alloc (.cells #[] 47))) := Lib.hid (HBW6.out.alloc HBW6.out.size _)
        have HE6 : Hid (((w5.alloc (Obj.cells #[.slice ga G gc, .int .i64 o, .slice ka K kc] 36)).alloc (.cells #[] 47)).ownsRow (w5.heap.size + 1) 47 3 (.slice (some ⟨w5.heap.size + 1, 0, none⟩) 0 0) 0 []) := Lib.hid (by
          have h := own_empty3 (w5.alloc (Obj.cells #[.slice ga G gc, .int .i64 o, .slice ka K kc] 36)) (w5.heap.size + 1) 47 (by simp)
          rwa [show (w5.alloc (Obj.cells #[.slice ga G gc, .int .i64 o, .slice ka K kc] 36)).heap.size = w5.heap.size + 1 by simp] at h)
        have d0 := (HA6.out.alloc (Nat.lt_trans HLT5.out (by simp)) (.cells #[] 47)).cell (i := 0) rfl
        go_wp2_with (first
          | (refine wpList_wanted (by rfl) ?_; refine wp_piece 33 47 i0 (.agg #[.int .i64 0, .int .i64 0, .int .i64 0]) 3 24 Tryd.underlying33 hi hz0 hz1 hz2' rfl (by decide) (.tmp 52) (.tmp 54) rfl (base := w5.heap.size + 1) (g := w5.heap.size + 1) (n := 0) (cap := 0) (xs := []) (by rfl) HE6.out (v := .slice ga G gc) (m := G) (news := ug) (by rfl) (HPG.out _ HBX.out) HLG.out HOG.out (by unfold maxLen; omega) (by omega) (by simp) G (by omega) ug rfl ?_; intro hg6 g6 c6 w6 ho6 hgr6 _; have HO6 := Lib.hid ho6; have HB6 : Hid (Below (w5.heap.size + 1) (w5.alloc (Obj.cells #[.slice ga G gc, .int .i64 o, .slice ka K kc] 36)) w6) := Lib.hid (((Below.refl (w5.heap.size + 1) (w5.alloc (Obj.cells #[.slice ga G gc, .int .i64 o, .slice ka K kc] 36))).alloc (by simp) _).grown hgr6 (by simp) (fun r e => by cases e; exact hg6)); have HS6 : Hid (w5.heap.size + 1 ≤ w6.heap.size) := Lib.hid (by have := HB6.out.size; simp at this; omega); clear ho6 hgr6 hg6; simp only [Act.put, List.setIfInBounds_toArray, List.set_cons_zero, List.set_cons_succ])
          | (refine wpList_wanted (by rfl) ?_; refine wp_piece 33 47 i0 (.agg #[.int .i64 0, .int .i64 0, .int .i64 0]) 3 24 Tryd.underlying33 hi hz0 hz1 hz2' rfl (by decide) (.tmp 55) (.tmp 60) rfl (base := w5.heap.size + 1) (g := g6) (n := G) (cap := c6) (xs := ug) (by rfl) (own_after (below_alloc w6 _) HO6.out) (v := .slice (some ⟨w6.heap.size, 0, none⟩) 1 1) (m := 1) (news := tcells [⟨n3, n4, n5⟩]) (by rfl) (new_piece w6 n3 n4 n5 47) rfl (tcells_one _) (by unfold maxLen; omega) (by omega) (by have := HS6.out; simp; omega) (G + 1) rfl tg HAG.out ?_; intro hg7 g7 c7 w7 ho7 hgr7 _; have HO7 := Lib.hid ho7; have HB7 : Hid (Below (w5.heap.size + 1) (w5.alloc (Obj.cells #[.slice ga G gc, .int .i64 o, .slice ka K kc] 36)) w7) := Lib.hid ((HB6.out.alloc HS6.out _).grown hgr7 (by have := HS6.out; simp; omega) (fun r e => by cases e; exact hg7)); clear ho7 hgr7 hg7; have HN7 := Lib.hid (HN6.out.below HB7.out (by simp)); have HA7 := Lib.hid (HA6.out.below HB7.out (Nat.lt_trans HLT5.out (by simp))); have k0 := HN7.out.cell (i := 0) rfl; have f0 := HN7.out.frozen (i := 0) (by simp); have HN8 := Lib.hid (HN7.out.set 0 (.slice (some ⟨g7, 0, none⟩) (G + 1) c7)); have HA8 := Lib.hid (HA7.out.other (Nat.ne_of_lt HLT5.out) 0 (.slice (some ⟨g7, 0, none⟩) (G + 1) c7)); have HO8 := Lib.hid (own_grown HO7.out (grown_setCell (b := w5.heap.size) 0 (.slice (some ⟨g7, 0, none⟩) (G + 1) c7)) (fun k e => by cases e; simp)); have HBV8 : Hid (Below w5.heap.size w5 (w7.setCell ⟨w5.heap.size, 0, none⟩ (.slice (some ⟨g7, 0, none⟩) (G + 1) c7))) := Lib.hid ((HBV6.out.trans (HB7.out.mono (by simp))).setCell (p := ⟨w5.heap.size, 0, none⟩) (Nat.le_refl _) _); have HBW8 : Hid (Below w.heap.size w (w7.setCell ⟨w5.heap.size, 0, none⟩ (.slice (some ⟨g7, 0, none⟩) (G + 1) c7))) := Lib.hid ((HBW6.out.trans (HB7.out.mono (Nat.le_trans HB5.out.size (by simp)))).setCell (p := ⟨w5.heap.size, 0, none⟩) HB5.out.size _); have hz8 : (w7.setCell ⟨w5.heap.size, 0, none⟩ (.slice (some ⟨g7, 0, none⟩) (G + 1) c7)).heap.size = w7.heap.size := (by simp [World.setCell]); have HZ8 := Lib.hid hz8; clear hz8; have HE8 : Hid (((w7.setCell ⟨w5.heap.size, 0, none⟩ (.slice (some ⟨g7, 0, none⟩) (G + 1) c7)).alloc (.cells #[] 49)).ownsRow w7.heap.size 49 3 (.slice (some ⟨w7.heap.size, 0, none⟩) 0 0) 0 []) := Lib.hid (by (have h := own_empty3 (w7.setCell ⟨w5.heap.size, 0, none⟩ (.slice (some ⟨g7, 0, none⟩) (G + 1) c7)) w7.heap.size 49 (Nat.le_of_eq HZ8.out.symm)); rwa [HZ8.out] at h); have HS7 : Hid (w5.heap.size + 1 ≤ w7.heap.size) := Lib.hid (by have h := HB7.out.size; rw [show ((w5.alloc (Obj.cells #[.slice ga G gc, .int .i64 o, .slice ka K kc] 36))).heap.size = w5.heap.size + 1 by simp] at h; exact h); have HLT7 : Hid (g < w7.heap.size) := Lib.hid (by have h1 := HS7.out; have h2 := HLT5.out; omega); have d2 := (HA8.out.alloc (by rw [HZ8.out]; exact HLT7.out) (.cells #[] 49)).cell (i := 2) rfl; have HBY : Hid (Below w.heap.size w ((w7.setCell ⟨w5.heap.size, 0, none⟩ (.slice (some ⟨g7, 0, none⟩) (G + 1) c7)).alloc (.cells #[] 49))) := Lib.hid (HBW8.out.alloc HBW8.out.size _); simp only [Act.put, List.setIfInBounds_toArray, List.set_cons_zero, List.set_cons_succ])
          | (refine wpList_wanted (by rfl) ?_; refine wp_piece 34 49 j0 (.agg #[.int .i64 0, .int .i64 0, .int .i64 0]) 3 24 Tryd.underlying34 hj hj0 hj1 hj2 rfl (by decide) (.tmp 63) (.tmp 65) rfl (base := w7.heap.size) (g := w7.heap.size) (n := 0) (cap := 0) (xs := []) (by rfl) HE8.out (v := .slice ka K kc) (m := K) (news := uk) (by rfl) (HPK.out _ HBY.out) HLK.out HOK.out (by unfold maxLen; omega) (by omega) (by simp [World.setCell]) K (by omega) uk rfl ?_; intro hg9 g9 c9 w9 ho9 hgr9 _; have HO9 := Lib.hid ho9; have HB9 : Hid (Below w7.heap.size (w7.setCell ⟨w5.heap.size, 0, none⟩ (.slice (some ⟨g7, 0, none⟩) (G + 1) c7)) w9) := Lib.hid (((Below.refl w7.heap.size (w7.setCell ⟨w5.heap.size, 0, none⟩ (.slice (some ⟨g7, 0, none⟩) (G + 1) c7))).alloc (by simp [World.setCell]) _).grown hgr9 (by simp [World.setCell]) (fun r e => by cases e; exact hg9)); have HS9 : Hid (w7.heap.size ≤ w9.heap.size) := Lib.hid (by have := HB9.out.size; rwa [HZ8.out] at this); clear ho9 hgr9 hg9; simp only [Act.put, List.setIfInBounds_toArray, List.set_cons_zero, List.set_cons_succ])
          | (refine wpList_wanted (by rfl) ?_; refine wp_piece 34 49 j0 (.agg #[.int .i64 0, .int .i64 0, .int .i64 0]) 3 24 Tryd.underlying34 hj hj0 hj1 hj2 rfl (by decide) (.tmp 66) (.tmp 71) rfl (base := w7.heap.size) (g := g9) (n := K) (cap := c9) (xs := uk) (by rfl) (own_after (below_alloc w9 _) HO9.out) (v := .slice (some ⟨w9.heap.size, 0, none⟩) 1 1) (m := 1) (news := tcells [⟨n6, n7, n8⟩]) (by rfl) (new_piece w9 n6 n7 n8 49) rfl (tcells_one _) (by unfold maxLen; omega) (by omega) (by have := HS9.out; simp; omega) (K + 1) rfl tk HAK.out ?_; intro hg10 g10 c10 w10 ho10 hgr10 _; have HO10 := Lib.hid ho10; have HB10 : Hid (Below w7.heap.size (w7.setCell ⟨w5.heap.size, 0, none⟩ (.slice (some ⟨g7, 0, none⟩) (G + 1) c7)) w10) := Lib.hid ((HB9.out.alloc HS9.out _).grown hgr10 (by have := HS9.out; simp; omega) (fun r e => by cases e; exact hg10)); clear ho10 hgr10 hg10; have HN10 := Lib.hid (HN8.out.below HB10.out HS7.out); have HA10 := Lib.hid (HA8.out.below HB10.out HLT7.out); have k2 := HN10.out.cell (i := 2) rfl; have f2 := HN10.out.frozen (i := 2) (by simp); have HN11 := Lib.hid (HN10.out.set 2 (.slice (some ⟨g10, 0, none⟩) (K + 1) c10)); have HA11 := Lib.hid (HA10.out.other (Nat.ne_of_lt HLT5.out) 2 (.slice (some ⟨g10, 0, none⟩) (K + 1) c10)); have HOG11 := Lib.hid (own_grown (own_keep HO8.out (by rw [HZ8.out]; exact HB10.out)) (grown_setCell (b := w5.heap.size) 2 (.slice (some ⟨g10, 0, none⟩) (K + 1) c10)) (fun k e => by cases e; simp)); have HOK11 := Lib.hid (own_grown HO10.out (grown_setCell (b := w5.heap.size) 2 (.slice (some ⟨g10, 0, none⟩) (K + 1) c10)) (fun k e => by cases e; exact HS7.out)); have HBV11 : Hid (Below w5.heap.size w5 (w10.setCell ⟨w5.heap.size, 2, none⟩ (.slice (some ⟨g10, 0, none⟩) (K + 1) c10))) := Lib.hid ((HBV8.out.trans (HB10.out.mono (by have := HS7.out; omega))).setCell (p := ⟨w5.heap.size, 2, none⟩) (Nat.le_refl _) _); have HBW11 : Hid (Below w.heap.size w (w10.setCell ⟨w5.heap.size, 2, none⟩ (.slice (some ⟨g10, 0, none⟩) (K + 1) c10))) := Lib.hid ((HBW8.out.trans (HB10.out.mono (Nat.le_trans HBW8.out.size (Nat.le_of_eq HZ8.out)))).setCell (p := ⟨w5.heap.size, 2, none⟩) HB5.out.size _); have e0 := HN11.out.cell (i := 0) rfl; have e1 := HN11.out.cell (i := 1) rfl; have e2 := HN11.out.cell (i := 2) rfl; simp only [Act.put, List.setIfInBounds_toArray, List.set_cons_zero, List.set_cons_succ]))
        have HI11 := Lib.hid (HI5.out.next HBV11.out)
        obtain ⟨w11, hw11⟩ : ∃ W, (w10.setCell ⟨w5.heap.size, 2, none⟩ (.slice (some ⟨g10, 0, none⟩) (K + 1) c10)) = W := ⟨_, rfl⟩
        rw [hw11] at HI11 HOG11 HOK11 HN11 HA11 HBW11 ⊢
        obtain ⟨g2, hg2⟩ : ∃ n, w5.heap.size = n := ⟨_, rfl⟩
        rw [hg2] at HN11 ⊢
        have HN11' : Hid (Arr w11 g2 [.slice (some ⟨g7, 0, none⟩) (G + 1) c7, .int .i64 o, .slice (some ⟨g10, 0, none⟩) (K + 1) c10]) := Lib.hid HN11.out
        have HQC := Lib.hid (fun W (hW : Below w11.heap.size w11 W) => HNC.out W (HBW11.out.trans (hW.mono HBW11.out.size)) _ _ _ _ _ _ (own_keep HOG11.out hW) (own_keep HOK11.out hW))
        have HQK := Lib.hid (fun W (hW : Below w11.heap.size w11 W) => HNK.out W (HBW11.out.trans (hW.mono HBW11.out.size)) _ _ _ _ _ _ (own_keep HOG11.out hW) (own_keep HOK11.out hW))
        have HQW := Lib.hid (fun W (hW : Below w11.heap.size w11 W) => HNW.out W (HBW11.out.trans (hW.mono HBW11.out.size)) _ _ _ _ _ _ (own_keep HOG11.out hW) (own_keep HOK11.out hW))
        have HQF := Lib.hid (fun W (hW : Below w11.heap.size w11 W) => HNF.out W (HBW11.out.trans (hW.mono HBW11.out.size)) _ _ _ _ _ _ (own_keep HOG11.out hW) (own_keep HOK11.out hW))
        have HP1 := Lib.hid (fun W (hW : Below w11.heap.size w11 W) => HW1.out W (HBW11.out.trans (hW.mono HBW11.out.size)))
        have HP2 := Lib.hid (fun W (hW : Below w11.heap.size w11 W) => HF1.out W (HBW11.out.trans (hW.mono HBW11.out.size)))
        clear HN11 HNC HNK HNW HNF HW1 HF1 HOG11 HOK11 HI5
        clear c0 c1 c2 d0 d2 k0 f0 k2 f2 e0 e1 e2 hw11 hg2 HE6 HE8 HO6 HO7 HO8 HO9 HO10 HB6 HB7 HB9 HB10 HN6 HN7 HN8 HN10 HA6 HA7 HA8 HA10 HBV6 HBV8 HBV11 HBX HBY HBW6 HBW8 HS6 HS7 HS9 HZ8 HLT5 HLT7 HPG HPK HLG HLK HOG HOK HAG HAK HB5 HA5
        refine (HQC.out w11 (Below.refl _ _)).mono ?_
        rintro e w12 ⟨rfl, hb⟩
        have HB12 := Lib.hid hb
        have HA12 := Lib.hid (HA11.out.below hb (HA11.out.lt (by simp)))
        have HN12 := Lib.hid (HN11'.out.below hb (HN11'.out.lt (by simp)))
        have HI12 := Lib.hid (HI11.out.next hb)
        clear hb HA11 HN11' HI11
        by_cases hz9 : z2 = 0
        · subst hz9
          have HSM := Lib.hid (HSAME.out rfl)
          clear HSAME
          have e0 := HN12.out.cell (i := 0) rfl
          have e1 := HN12.out.cell (i := 1) rfl
          have e2 := HN12.out.cell (i := 2) rfl
          have c0 := HA12.out.cell (i := 0) rfl
          have c1 := HA12.out.cell (i := 1) rfl
          have c2 := HA12.out.cell (i := 2) rfl
          clear e0 e1 e2 c0 c1 c2
          go_wp2
          go_loopw [22] (fun s22 wr => ∃ k : Nat, s22 = .int .i64 (k : Int) ∧ k ≤ M ∧ Hid (∀ i, i < k → ¬ (n3 ≤ l.getD i 0 ∧ l.getD i 0 ≤ n4) ∧ (0 < i → ¬ (n6 = l.getD (i - 1) 0 ∧ n7 = l.getD i 0))) ∧ Hid (Below w12.heap.size w12 wr)) (fun s22 _ => M - (intOf s22).toNat)
          case atStart => exact ⟨0, rfl, by omega, Lib.hid (fun i hi => absurd hi (by omega)), Lib.hid (Below.refl _ _)⟩
          case round =>
            obtain ⟨k, rfl, hkM, HU, HBR⟩ := hrel
            have HAr := Lib.hid (HA12.out.below HBR.out (HA12.out.lt (by simp)))
            have HNr := Lib.hid (HN12.out.below HBR.out (HN12.out.lt (by simp)))
            have HIr := Lib.hid (HI12.out.next HBR.out)
            have HBr := Lib.hid (HB12.out.trans (HBR.out.mono HB12.out.size))
            by_cases hlt : k < M
            · have dk : decide ((k : Int) < (M : Int)) = true := by simp; omega
              have dkn : decide (k < M) = true := by simp; omega
              obtain ⟨xb, xo, rfl, cp⟩ := irow_cell HIr.out HM.out (j := k - 1) (by omega)
              obtain ⟨xb', xo', exx, ci⟩ := irow_cell HIr.out HM.out (j := k) (by omega)
              injection exx with exx
              injection exx with ex1 ex2
              subst ex1; subst ex2
              have hstep : ¬ (n3 ≤ l.getD k 0 ∧ l.getD k 0 ≤ n4) → (0 < k → ¬ (n6 = l.getD (k - 1) 0 ∧ n7 = l.getD k 0)) → ∀ i, i < k + 1 → ¬ (n3 ≤ l.getD i 0 ∧ l.getD i 0 ≤ n4) ∧ (0 < i → ¬ (n6 = l.getD (i - 1) 0 ∧ n7 = l.getD i 0)) := fun a b i hi => by
                by_cases e : i = k
                · subst e; exact ⟨a, b⟩
                · exact HU.out i (by omega)
              obtain ⟨p, hp⟩ : ∃ z, l.getD (k - 1) 0 = z := ⟨_, rfl⟩
              obtain ⟨r, hr⟩ : ∃ z, l.getD k 0 = z := ⟨_, rfl⟩
              rw [hp] at cp hstep
              rw [hr] at ci hstep
              have HSTEP := Lib.hid hstep
              have wr3 : IntKind.i64.wrap ((k : Int) + 1) = (k : Int) + 1 := by rw [IntKind.wrap_i64]; omega
              clear hp hr hstep
              have hR : (decide (n3 ≤ r) = true ∧ decide (r ≤ n4) = true) ∨ (¬ (n3 ≤ r ∧ r ≤ n4) ∧ ((decide (n3 ≤ r) = true ∧ decide (r ≤ n4) = false) ∨ decide (n3 ≤ r) = false)) := by
                by_cases h1 : n3 ≤ r
                · by_cases h2 : r ≤ n4
                  · exact .inl ⟨by simpa using h1, by simpa using h2⟩
                  · exact .inr ⟨fun h => h2 h.2, .inl ⟨by simpa using h1, by simpa using h2⟩⟩
                · exact .inr ⟨fun h => h1 h.1, .inr (by simpa using h1)⟩
              have hP : ((decide (0 < (k : Int)) = true ∧ decide (0 < k) = true) ∧ (p == n6) = true ∧ (r == n7) = true ∧ ((k : Int) - 1 = ((k - 1 : Nat) : Int) ∧ IntKind.i64.wrap ((k - 1 : Nat) : Int) = ((k - 1 : Nat) : Int) ∧ ((k - 1 : Nat) : Int) < (M : Int))) ∨ ((0 < k → ¬ (n6 = p ∧ n7 = r)) ∧ ((decide (0 < (k : Int)) = false ∧ decide (0 < k) = false) ∨ ((decide (0 < (k : Int)) = true ∧ decide (0 < k) = true) ∧ ((k : Int) - 1 = ((k - 1 : Nat) : Int) ∧ IntKind.i64.wrap ((k - 1 : Nat) : Int) = ((k - 1 : Nat) : Int) ∧ ((k - 1 : Nat) : Int) < (M : Int)) ∧ ((p == n6) = false ∨ ((p == n6) = true ∧ (r == n7) = false))))) := by
                by_cases h0 : 0 < k
                · have q : (k : Int) - 1 = ((k - 1 : Nat) : Int) ∧ IntKind.i64.wrap ((k - 1 : Nat) : Int) = ((k - 1 : Nat) : Int) ∧ ((k - 1 : Nat) : Int) < (M : Int) := ⟨by omega, by rw [IntKind.wrap_i64]; omega, by omega⟩
                  have q0 : decide (0 < (k : Int)) = true ∧ decide (0 < k) = true := ⟨by simp; omega, by simp; omega⟩
                  by_cases h1 : p = n6
                  · by_cases h2 : r = n7
                    · exact .inl ⟨q0, by simpa using h1, by simpa using h2, q⟩
                    · exact .inr ⟨fun _ h => h2 h.2.symm, .inr ⟨q0, q, .inr ⟨by simpa using h1, by simpa using h2⟩⟩⟩
                  · exact .inr ⟨fun _ h => h1 h.1.symm, .inr ⟨q0, q, .inl (by simpa using h1)⟩⟩
                · exact .inr ⟨fun h => absurd h h0, .inl ⟨by simp; omega, by simp; omega⟩⟩
              have HP := Lib.hid hP
              clear hP
              rcases hR with ⟨r1, r2⟩ | ⟨hr0, hR⟩
              · go_wp2
                go_ret
                exact ⟨by simp, HBW11.out.trans (HBr.out.mono HBW11.out.size)⟩
              · have HS2 := Lib.hid (HSTEP.out hr0)
                clear hr0 HSTEP
                rcases HP.out with ⟨⟨z1, z2⟩, p1, p2, q1, q2, q3⟩ | ⟨hp0, hP⟩
                · clear HP
                  rcases hR with ⟨r1, r2⟩ | r1
                  all_goals
                    go_wp2
                    go_ret
                    exact ⟨by simp, HBW11.out.trans (HBr.out.mono HBW11.out.size)⟩
                · have HS3 := Lib.hid (HS2.out hp0)
                  clear hp0 HP HS2
                  rcases hR with ⟨r1, r2⟩ | r1
                  all_goals
                    rcases hP with ⟨z1, z2⟩ | ⟨⟨z1, z2⟩, ⟨q1, q2, q3⟩, p1 | ⟨p1, p2⟩⟩
                    all_goals
                      go_wp2
                      go_roundw
                      case rel => exact ⟨k + 1, by go_num, by omega, HS3, HBR⟩
                      case measure => simp [intOf]; omega
            · obtain rfl : k = M := by omega
              have dk : decide ((k : Int) < (k : Int)) = false := by simp
              obtain ⟨rfl, rfl, rfl, rfl⟩ := HSM.out HU.out
              dsimp only at HQF HP2
              have c0 := HAr.out.cell (i := 0) rfl
              have c1 := HAr.out.cell (i := 1) rfl
              have c2 := HAr.out.cell (i := 2) rfl
              go_wp2_with fail
              refine (HP1.out wr HBr.out).mono ?_
              rintro e w13 ⟨rfl, hb⟩
              have HA13 := Lib.hid (HAr.out.below hb (HAr.out.lt (by simp)))
              have HN13 := Lib.hid (HNr.out.below hb (HNr.out.lt (by simp)))
              have HB13 := Lib.hid (HBr.out.trans (hb.mono HBr.out.size))
              clear hb c0 c1 c2
              have e0 := HN13.out.cell (i := 0) rfl
              have e1 := HN13.out.cell (i := 1) rfl
              have e2 := HN13.out.cell (i := 2) rfl
              go_wp2_with fail
              refine (HQW.out w13 HB13.out).mono ?_
              rintro e w14 ⟨rfl, hb⟩
              have HA14 := Lib.hid (HA13.out.below hb (HA13.out.lt (by simp)))
              have HN14 := Lib.hid (HN13.out.below hb (HN13.out.lt (by simp)))
              have HB14 := Lib.hid (HB13.out.trans (hb.mono HB13.out.size))
              clear hb e0 e1 e2
              have c0 := HA14.out.cell (i := 0) rfl
              have c1 := HA14.out.cell (i := 1) rfl
              have c2 := HA14.out.cell (i := 2) rfl
              go_wp2_with fail
              refine (HP2.out w14 HB14.out).mono ?_
              rintro e w15 ⟨rfl, hb⟩
              have HA15 := Lib.hid (HA14.out.below hb (HA14.out.lt (by simp)))
              have HN15 := Lib.hid (HN14.out.below hb (HN14.out.lt (by simp)))
              have HB15 := Lib.hid (HB14.out.trans (hb.mono HB14.out.size))
              clear hb c0 c1 c2
              have e0 := HN15.out.cell (i := 0) rfl
              have e1 := HN15.out.cell (i := 1) rfl
              have e2 := HN15.out.cell (i := 2) rfl
              go_wp2_with fail
              refine (HQF.out w15 HB15.out).mono ?_
              rintro e w16 ⟨rfl, hb⟩
              have HA16 := Lib.hid (HA15.out.below hb (HA15.out.lt (by simp)))
              have HN16 := Lib.hid (HN15.out.below hb (HN15.out.lt (by simp)))
              have HB16 := Lib.hid (HB15.out.trans (hb.mono HB15.out.size))
              clear hb e0 e1 e2
              go_wp2
              go_ret
              exact ⟨by simp, HBW11.out.trans (HB16.out.mono HBW11.out.size)⟩
        · have dz : (z2 != 0) = true := by simpa using hz9
          have dz2 : (z2 == 0) = false := by simpa using hz9
          have e0 := HN12.out.cell (i := 0) rfl
          have e1 := HN12.out.cell (i := 1) rfl
          have e2 := HN12.out.cell (i := 2) rfl
          clear hz9
          go_wp2_with fail
          refine (HQK.out w12 HB12.out).mono ?_
          rintro e w13 ⟨rfl, hb⟩
          have HB13 := Lib.hid (HB12.out.trans (hb.mono HB12.out.size))
          clear hb e0 e1 e2
          go_wp2
          go_ret
          exact ⟨by simp, HBW11.out.trans (HB13.out.mono HBW11.out.size)⟩
      · have d : (e9 != 0) = true := by simpa using he
        clear he
        go_wp2
        go_ret
        exact ⟨by simp, HB5.out⟩
    · have d : (z != 0) = true := by simpa using hz
      clear hz
      go_wp2
      go_ret
      exact ⟨rfl, HB4.out⟩
end Go.Proofs.YtljgcpfibamdpaaDoor
