/- Fonts: Fit. -/
import Derived.Test.YtljgcpfibamdpaaDoorFwd
namespace Go.Proofs.YtljgcpfibamdpaaDoor
open Go.RowKit
attribute [local go_sem] Oper.semAt_some

theorem setCell_id {W : World} {b o : Nat} {v : Value} (h : W.cell? ⟨b, o, none⟩ = some v) : W.setCell ⟨b, o, none⟩ v = W := by
  have hh : W.heap.modify b (fun
      | .cells c elem frozen => .cells (if (⟨b, o, none⟩ : Addr).spot.isSome then c else c.setIfInBounds o v) elem frozen
      | o => o) = W.heap := by
    refine Array.ext_getElem? fun k => ?_
    rw [Array.getElem?_modify]
    split
    · rename_i e
      subst e
      cases hb : W.heap[b]? with
      | none => rfl
      | some O =>
        unfold World.cell? at h
        rw [hb] at h
        cases O with
        | cells C t fr =>
          simp only [Option.map_some, Option.isSome_none, Bool.false_eq_true, if_false]
          have hc : C[o]? = some v := by simpa using h
          congr 2
          refine Array.ext_getElem? fun j => ?_
          rw [Array.getElem?_setIfInBounds]
          split
          · rename_i e
            subst e
            rw [hc]
            have := (Array.getElem?_eq_some_iff.1 hc).1
            simp [this]
          · rfl
        | _ => rfl
    · rfl
  have h2 : (W.setCell ⟨b, o, none⟩ v).heap = W.heap := hh
  have h3 : W.setCell ⟨b, o, none⟩ v = { W with heap := (W.setCell ⟨b, o, none⟩ v).heap } := rfl
  rw [h3, h2]
/-- What fits, after the first k beginnings. -/
def fitS (f : Fo) (l : List Int) (room : Int) : Nat → Int × Int
  | 0 => (0, 0)
  | k + 1 => if wdt f l k ≤ room then ((k : Int), wdt f l k) else fitS f l room k
/-- What Fit answers. -/
def fitR (f : Fo) (bs : List UInt8) (room : Int) : Int × Int := if frE f bs = 0 then fitS f (frV f bs) room ((frV f bs).length + 1) else (0, 0)
set_option maxRecDepth 100000 in
set_option maxHeartbeats 8000000 in
theorem fit_text (w : World) (v : Value) (f : Fo) (h : FAt w w.heap.size v f) (bs : List UInt8) (room : Int) (hT : UTab w) :
    Calls Tryd.prog 20 #[v, .string (str bs), .int .i64 room] w fun e w' => e = .returned (.tuple #[.int .i64 (fitR f bs room).1, .int .i64 (fitR f bs room).2, .int .i64 (frE f bs)]) ∧ Below w.heap.size w w' := by
  have HR := Lib.hid (fun W (hW : Below w.heap.size w W) => fruns_any W _ f (h.from hW hW.size) bs (hT.below hW))
  have HF := Lib.hid h
  obtain ⟨ga, gc, ka, kc, rfl, -, -, -, -, -, -, -⟩ := h.open
  unfold fitR
  by_cases hz : frE f bs = 0
  · rw [if_pos hz, hz]
    simp only [hz] at HR
    obtain ⟨h1, h2, h3⟩ := fr_ok hz
    obtain ⟨q1, q2, q3, q4⟩ := rns_ok h2
    have hln : (rnsV bs).length ≤ 4096 := by have := (encs_len (rnsV bs)).1; have h2 := congrArg List.length q4; omega
    obtain ⟨e1, e2, e3⟩ := err_ok h1
    rw [← h3] at q3 hln
    obtain ⟨l, hl⟩ : ∃ l, frV f bs = l := ⟨_, rfl⟩
    simp only [hl] at HR
    rw [hl] at q3 hln ⊢
    have HTU := Lib.hid (fun (A : World) (C L : Nat) (vg vk vl : Value) => beg_turn 8 (by omega) C L vg vk f vl l e1 e2 q3 hln A)
    have HLW : Hid (∀ k, fitS f l room (k + 1) = if wdt f l k ≤ room then ((k : Int), wdt f l k) else fitS f l room k) := Lib.hid (fun k => rfl)
    obtain ⟨s, hs⟩ : ∃ s, str bs = s := ⟨_, rfl⟩
    simp only [hs] at HR ⊢
    obtain ⟨G, hGe⟩ : ∃ G, f.gs.length = G := ⟨_, rfl⟩
    obtain ⟨K, hKe⟩ : ∃ G, f.ks.length = G := ⟨_, rfl⟩
    obtain ⟨o, hoe⟩ : ∃ G, f.o = G := ⟨_, rfl⟩
    have HOE := Lib.hid hoe
    rw [hGe, hKe, hoe] at HR HF
    rw [hGe, hKe, hoe]
    obtain ⟨M, hM⟩ : ∃ M, l.length = M := ⟨_, rfl⟩
    have HM := Lib.hid hM
    simp only [hM] at HR HTU
    rw [hM]
    clear h hz hl h1 h2 h3 q1 q2 q3 q4 hln e1 e2 e3 hs hT hGe hKe hoe hM
    refine (callsIn_wide (n := 9)).1 ?_
    refine callsIn_of_wp_marks Tryd.func20 rfl trivial ?_ rfl
    simp only [Tryd.ntmps20, List.size_toArray, List.length_cons, List.length_nil, Nat.reduceAdd, Nat.reduceSub, Array.replicate_succ, Array.replicate_zero, List.push_toArray, List.append_toArray, List.nil_append, List.cons_append]
    refine wpIn_wide.2 ?_
    go_wp2_with fail
    have hB2 : Below w.heap.size w ((((w.alloc (.cells #[.slice ga G gc, .int .i64 o, .slice ka K kc] 36)).alloc (.cells #[.int .i64 room] 3)).alloc (.cells #[.int .i64 0] 3)).alloc (.cells #[.int .i64 0] 3)) := ((((Below.refl _ _).alloc (Nat.le_refl _) _).alloc (by simp) _).alloc (by simp <;> omega) _).alloc (by simp <;> omega) _
    have hA0 := (((Arr.new w #[.slice ga G gc, .int .i64 o, .slice ka K kc] 36).alloc (by simp) (.cells #[.int .i64 room] 3)).alloc (by simp <;> omega) (.cells #[.int .i64 0] 3)).alloc (by simp <;> omega) (.cells #[.int .i64 0] 3)
    have hA1 := ((Arr.new (w.alloc (.cells #[.slice ga G gc, .int .i64 o, .slice ka K kc] 36)) #[.int .i64 room] 3).alloc (by simp) (.cells #[.int .i64 0] 3)).alloc (by simp <;> omega) (.cells #[.int .i64 0] 3)
    have hA2 := (Arr.new ((w.alloc (.cells #[.slice ga G gc, .int .i64 o, .slice ka K kc] 36)).alloc (.cells #[.int .i64 room] 3)) #[.int .i64 0] 3).alloc (by simp) (.cells #[.int .i64 0] 3)
    have hA3 := Arr.new (((w.alloc (.cells #[.slice ga G gc, .int .i64 o, .slice ka K kc] 36)).alloc (.cells #[.int .i64 room] 3)).alloc (.cells #[.int .i64 0] 3)) #[.int .i64 0] 3
    have hz2 : ((((w.alloc (.cells #[.slice ga G gc, .int .i64 o, .slice ka K kc] 36)).alloc (.cells #[.int .i64 room] 3)).alloc (.cells #[.int .i64 0] 3)).alloc (.cells #[.int .i64 0] 3)).heap.size = w.heap.size + 4 := by simp
    simp only [World.size_alloc] at hA1 hA2 hA3
    obtain ⟨W2, hW2⟩ : ∃ W, ((((w.alloc (.cells #[.slice ga G gc, .int .i64 o, .slice ka K kc] 36)).alloc (.cells #[.int .i64 room] 3)).alloc (.cells #[.int .i64 0] 3)).alloc (.cells #[.int .i64 0] 3)) = W := ⟨_, rfl⟩
    rw [hW2] at hA0 hA1 hA2 hA3 hB2 hz2 ⊢
    clear hW2
    refine (HR.out W2 hB2).mono ?_
    rintro e w3 ⟨vl, rfl, ho, hb3⟩
    rw [HM.out] at ho
    obtain ⟨la, lc, rfl⟩ := own_slice ho
    have hs3 := hb3.size
    have hA03 := hA0.below hb3 (by omega)
    have HA13 := Lib.hid (hA1.below hb3 (by omega))
    have HA23 := Lib.hid (hA2.below hb3 (by omega))
    have HA33 := Lib.hid (hA3.below hb3 (by omega))
    have c0 := hA03.cell (i := 0) rfl
    have c1 := hA03.cell (i := 1) rfl
    have c2 := hA03.cell (i := 2) rfl
    have HB3 := Lib.hid (hB2.trans (hb3.mono hB2.size))
    have HO3 := Lib.hid ho
    rw [hz2] at HO3
    have HZ3 : Hid (w.heap.size + 4 ≤ w3.heap.size) := Lib.hid (by omega)
    clear hA0 hA1 hA2 hA3 hB2 hz2 ho hb3 hs3 hA03 HR
    go_wp2_with fail
    with_reducible refine (beginnings_any w3 _ _ _ la M lc).mono ?_
    rintro e w5 ⟨rfl, a0, a1, hb5, hz5⟩
    have HA0 := Lib.hid a0
    have HA1 := Lib.hid a1
    have HB5 := Lib.hid (HB3.out.trans (hb5.mono HB3.out.size))
    have HO5 := Lib.hid (own_after hb5 HO3.out)
    have HX1 := Lib.hid (HA13.out.below hb5 (by have := HZ3.out; omega))
    have HX2 := Lib.hid (HA23.out.below hb5 (by have := HZ3.out; omega))
    have HX3 := Lib.hid (HA33.out.below hb5 (by have := HZ3.out; omega))
    have HZ5 := Lib.hid hz5
    clear c0 c1 c2 a0 a1 hb5 hz5 HO3 HA13 HA23 HA33
    go_wp2_with fail
    refine (wpIn_wide (n := 9)).1 ?_
    refine range_in_turn_m (n := 9) rfl (enters_of Tryd.func57 (by kernel_rfl) rfl) (HTU.out w5 w3.heap.size (w3.heap.size + 1) (.slice ga G gc) (.slice ka K kc) (.slice la M lc)) (Below.refl _ _) (fun _ => rfl)
      (fun k W => Obk [w.heap.size + 1 + 1, w.heap.size + 1 + 1 + 1] w5 W ∧ Arr W (w.heap.size + 1 + 1) [.int .i64 (fitS f l room k).1] ∧ Arr W (w.heap.size + 1 + 1 + 1) [.int .i64 (fitS f l room k).2])
      (by
        rintro k W W' row ⟨h1, h2, h3⟩ hg' hr
        exact ⟨h1.moved hg' (fun r e => .inr (hr r e).1), h2.own hg' (fun r e => (hr r e).2), h3.own hg' (fun r e => (hr r e).2)⟩)
      ?kp ⟨Obk.refl _ _, HX2.out, HX3.out⟩
      (fun k a' W => a' = { tmps := (.agg #[.slice ga G gc, .int .i64 o, .slice ka K kc] :: .string s :: .int .i64 room :: .pointer (some ⟨w.heap.size, 0, none⟩) :: undef :: .pointer (some ⟨w.heap.size + 1, 0, none⟩) :: .pointer (some ⟨w.heap.size + 1 + 1, 0, none⟩) :: .pointer (some ⟨w.heap.size + 1 + 1 + 1, 0, none⟩) :: .int .i64 0 :: .slice la M lc :: .int .i64 (k : Int) :: .int .i64 (wdt f l k) :: [.tuple #[.slice la M lc, .int .i64 0], .agg #[.slice ga G gc, .int .i64 o, .slice ka K kc], .string s, .tuple #[.slice la M lc, .int .i64 0], .slice la M lc, .int .i64 0, .int .i64 0, .bool false, undef, .agg #[.slice ga G gc, .int .i64 o, .slice ka K kc], .slice la M lc, .func (.func 57) #[] #[.pointer (some ⟨w3.heap.size, 0, none⟩), .pointer (some ⟨w3.heap.size + 1, 0, none⟩)], .int .i64 (k : Int), .int .i64 (wdt f l k), undef, undef, undef, undef, undef, undef, undef]).toArray, defers := [] })
      ?hax ?assign ?body ?done
    case kp =>
      rintro k W ⟨hO, -, -⟩
      have hz3 := HZ3.out
      have hz5 := HZ5.out
      have g0 : ∀ i v, [Value.slice ga G gc, .int .i64 o, .slice ka K kc][i]? = some v → W.cell? ⟨w3.heap.size, i, none⟩ = some v := fun i v hv => (hO.cell (p := ⟨w3.heap.size, i, none⟩) (show w3.heap.size < _ by omega) (by simp <;> omega)).trans (HA0.out.cell hv)
      refine ⟨g0 0 _ rfl, by rw [HOE.out]; exact g0 1 _ rfl, g0 2 _ rfl, ?_, (hO.cell (p := ⟨w3.heap.size + 1, 0, none⟩) (show w3.heap.size + 1 < _ by omega) (by simp <;> omega)).trans (HA1.out.cell (i := 0) rfl), irow_obk (by rw [HM.out]; exact HO5.out) hO (by simp <;> omega)⟩
      rw [HOE.out]
      exact fat_obk (HF.out.below HB5.out) HB5.out.size (by simp <;> omega) hO
    case hax =>
      rintro k a' u W W' row h hg hr
      exact h
    case assign =>
      intro lp k W K hk hI hK
      have HKK := Lib.hid hK
      have HI := Lib.hid hI
      clear hI hK
      unfold begV
      obtain ⟨x, hx⟩ : ∃ x, wdt f l k = x := ⟨_, rfl⟩
      rw [hx] at HKK ⊢
      clear hx
      gi_wp2
      exact HKK.out _ _ (KeepsFrom.refl _ _) HI.out rfl
    case body =>
      rintro lp k a' W hk ⟨h1, h2, h3⟩ rfl hsW
      have hz3 := HZ3.out
      have hz5 := HZ5.out
      have cr := (h1.cell (p := ⟨w.heap.size + 1, 0, none⟩) (show w.heap.size + 1 < _ by omega) (by simp)).trans (HX1.out.cell (i := 0) rfl)
      have H1 := Lib.hid h1
      have H2 := Lib.hid h2
      have H3 := Lib.hid h3
      have HLK := Lib.hid (HLW.out k)
      obtain ⟨x, hx⟩ : ∃ x, wdt f l k = x := ⟨_, rfl⟩
      rw [hx] at HLK ⊢
      by_cases hr : x ≤ room
      · have d : decide (x ≤ room) = true := by simpa using hr
        have c2 := h2.cell (i := 0) rfl
        have f2 := h2.frozen (i := 0) (by simp)
        have c3 := h3.cell (i := 0) rfl
        have f3 := h3.frozen (i := 0) (by simp)
        have HL2 := Lib.hid (HLK.out.trans (if_pos hr))
        clear h1 h2 h3 hx hr hz3 hz5
        gi_wp2
        refine ⟨((KeepsOthers.setCell _ _ _).trans (KeepsOthers.setCell _ _ _)).from _, trivial, (H1.out.set (by simp) 0 _).set (by simp) 0 _, ?_, ?_⟩
        · rw [HL2.out]
          exact (H2.out.set 0 _).other (by omega) 0 _
        · rw [HL2.out]
          exact (H3.out.other (by omega) 0 _).set 0 _
      · have d : decide (x ≤ room) = false := by simpa using hr
        have HL2 := Lib.hid (HLK.out.trans (if_neg hr))
        clear h1 h2 h3 hx hr hz3 hz5
        gi_wp2
        exact ⟨KeepsFrom.refl _ _, trivial, H1.out, by rw [HL2.out]; exact H2.out, by rw [HL2.out]; exact H3.out⟩
    case done =>
      rintro D W hD ⟨h1, h2, h3⟩ hK
      obtain ⟨x, hx⟩ : ∃ x, (fitS f l room (M + 1)).1 = x := ⟨_, rfl⟩
      obtain ⟨y, hy⟩ : ∃ x, (fitS f l room (M + 1)).2 = x := ⟨_, rfl⟩
      rw [hx] at h2
      rw [hy] at h3
      have HX := Lib.hid hx
      have HY := Lib.hid hy
      have hz3 := HZ3.out
      have hz5 := HZ5.out
      have c2 := h2.cell (i := 0) rfl
      have f2 := h2.frozen (i := 0) (by simp)
      have c3 := h3.cell (i := 0) rfl
      have f3 := h3.frozen (i := 0) (by simp)
      have hA2 := h2.drew.own (grownBy_putObj' W.drew D (.deferred none)) (fun r e => by cases e; exact ⟨_, hK, rfl⟩)
      have hA3 := h3.drew.own (grownBy_putObj' W.drew D (.deferred none)) (fun r e => by cases e; exact ⟨_, hK, rfl⟩)
      have HQ2 := Lib.hid (hA2.cell (i := 0) rfl)
      have HQ3 := Lib.hid (hA3.cell (i := 0) rfl)
      have HO2 := Lib.hid (h1.drew.moved (grownBy_putObj' W.drew D (.deferred none)) (fun k e => .inr (by cases e; omega)))
      have HKF : Hid (W.drew.heap[D]? = some (.deferred (some []))) := Lib.hid hK
      have e2 : W.setCell ⟨w.heap.size + 1 + 1, 0, none⟩ (.int .i64 x) = W := setCell_id c2
      have e3 : W.setCell ⟨w.heap.size + 1 + 1 + 1, 0, none⟩ (.int .i64 y) = W := setCell_id c3
      clear h1 h2 h3 hA2 hA3 hK hx hy
      go_wp2
      go_region
      all_goals
        go_wp2
        have q2 := HQ2.out
        have q3 := HQ3.out
        refine ⟨by simp, .inl ⟨_, _, rfl, run_takeDeferred HKF.out, ?_⟩⟩
        refine ⟨.tuple #[.int .i64 x, .int .i64 y, .int .i64 0], by simp [results, Tryd.results20, go_sem, q2, q3], by rw [HX.out, HY.out], ?_⟩
        exact HB5.out.trans (HO2.out.below HB5.out.size (by simp <;> omega))
  · rw [if_neg hz]
    obtain ⟨z, hze⟩ : ∃ z, frE f bs = z := ⟨_, rfl⟩
    obtain ⟨lv, hlv⟩ : ∃ z, frV f bs = z := ⟨_, rfl⟩
    simp only [hze, hlv] at HR
    rw [hze] at hz ⊢
    have d : (z != 0) = true := by simpa using hz
    obtain ⟨s, hs⟩ : ∃ s, str bs = s := ⟨_, rfl⟩
    simp only [hs] at HR ⊢
    obtain ⟨G, hGe⟩ : ∃ G, f.gs.length = G := ⟨_, rfl⟩
    obtain ⟨K, hKe⟩ : ∃ G, f.ks.length = G := ⟨_, rfl⟩
    obtain ⟨o, hoe⟩ : ∃ G, f.o = G := ⟨_, rfl⟩
    rw [hGe, hKe, hoe] at HR
    rw [hGe, hKe, hoe]
    clear h hz hze hlv hs hT hGe hKe hoe HF
    refine (callsIn_wide (n := 9)).1 ?_
    refine callsIn_of_wp_marks Tryd.func20 rfl trivial ?_ rfl
    simp only [Tryd.ntmps20, List.size_toArray, List.length_cons, List.length_nil, Nat.reduceAdd, Nat.reduceSub, Array.replicate_succ, Array.replicate_zero, List.push_toArray, List.append_toArray, List.nil_append, List.cons_append]
    refine wpIn_wide.2 ?_
    go_wp2_with fail
    have hB2 : Below w.heap.size w ((((w.alloc (.cells #[.slice ga G gc, .int .i64 o, .slice ka K kc] 36)).alloc (.cells #[.int .i64 room] 3)).alloc (.cells #[.int .i64 0] 3)).alloc (.cells #[.int .i64 0] 3)) := ((((Below.refl _ _).alloc (Nat.le_refl _) _).alloc (by simp) _).alloc (by simp <;> omega) _).alloc (by simp <;> omega) _
    have hA0 := (((Arr.new w #[.slice ga G gc, .int .i64 o, .slice ka K kc] 36).alloc (by simp) (.cells #[.int .i64 room] 3)).alloc (by simp <;> omega) (.cells #[.int .i64 0] 3)).alloc (by simp <;> omega) (.cells #[.int .i64 0] 3)
    have hA1 := ((Arr.new (w.alloc (.cells #[.slice ga G gc, .int .i64 o, .slice ka K kc] 36)) #[.int .i64 room] 3).alloc (by simp) (.cells #[.int .i64 0] 3)).alloc (by simp <;> omega) (.cells #[.int .i64 0] 3)
    have hA2 := (Arr.new ((w.alloc (.cells #[.slice ga G gc, .int .i64 o, .slice ka K kc] 36)).alloc (.cells #[.int .i64 room] 3)) #[.int .i64 0] 3).alloc (by simp) (.cells #[.int .i64 0] 3)
    have hA3 := Arr.new (((w.alloc (.cells #[.slice ga G gc, .int .i64 o, .slice ka K kc] 36)).alloc (.cells #[.int .i64 room] 3)).alloc (.cells #[.int .i64 0] 3)) #[.int .i64 0] 3
    have hz2 : ((((w.alloc (.cells #[.slice ga G gc, .int .i64 o, .slice ka K kc] 36)).alloc (.cells #[.int .i64 room] 3)).alloc (.cells #[.int .i64 0] 3)).alloc (.cells #[.int .i64 0] 3)).heap.size = w.heap.size + 4 := by simp
    simp only [World.size_alloc] at hA1 hA2 hA3
    obtain ⟨W2, hW2⟩ : ∃ W, ((((w.alloc (.cells #[.slice ga G gc, .int .i64 o, .slice ka K kc] 36)).alloc (.cells #[.int .i64 room] 3)).alloc (.cells #[.int .i64 0] 3)).alloc (.cells #[.int .i64 0] 3)) = W := ⟨_, rfl⟩
    rw [hW2] at hA0 hA1 hA2 hA3 hB2 hz2 ⊢
    clear hW2
    refine (HR.out W2 hB2).mono ?_
    rintro e w3 ⟨vl, rfl, ho, hb3⟩
    obtain ⟨la, lc, rfl⟩ := own_slice ho
    have hA23 := hA2.below hb3 (by omega)
    have hA33 := hA3.below hb3 (by omega)
    have q2 := ((hA23.set 0 (.int .i64 0)).other (b' := w.heap.size + 3) (by omega) 0 (.int .i64 0)).cell (i := 0) rfl
    have q3 := ((hA33.other (b' := w.heap.size + 2) (by omega) 0 (.int .i64 0)).set 0 (.int .i64 0)).cell (i := 0) rfl
    have HQ2 := Lib.hid q2
    have HQ3 := Lib.hid q3
    have c2 := hA23.cell (i := 0) rfl
    have f2 := hA23.frozen (i := 0) (by simp)
    have c3 := hA33.cell (i := 0) rfl
    have f3 := hA33.frozen (i := 0) (by simp)
    have HB3 := Lib.hid (hB2.trans (hb3.mono hB2.size))
    clear hA0 hA1 hA2 hA3 hB2 hz2 ho hb3 hA23 hA33 HR q2 q3
    go_wp2_with fail
    have q2 := HQ2.out
    have q3 := HQ3.out
    refine ⟨.tuple #[.int .i64 0, .int .i64 0, .int .i64 z], by simp [results, Tryd.results20, go_sem, q2, q3], rfl, (HB3.out.setCell (by simp <;> omega) _).setCell (by simp <;> omega) _⟩
end Go.Proofs.YtljgcpfibamdpaaDoor
