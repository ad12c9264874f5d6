/- Fonts: Width. -/
import Derived.Test.YtljgcpfibamdpaaDoorFru
import Derived.Test.YtljgcpfibamdpaaDoorRns
namespace Go.Proofs.YtljgcpfibamdpaaDoor
open Go.RowKit
attribute [local go_sem] Oper.semAt_some

theorem irow_obk {ls : List Nat} {W W' : World} {v : Value} {l : List Int} {base : Nat} (h : W.ownsRow base 3 1 v l.length (icells l)) (hO : Obk ls W W') (hls : ∀ x ∈ ls, x < base) : IRow W' W'.heap.size v l := by
  have hcl := @World.ownsRow.cells _ _ _ _ _ _ _ h
  have hsz := hO.size
  rcases h.2 with ⟨rfl, h0⟩ | ⟨g, cap, cur, rfl, hb, hg, h1, h2, _⟩
  · have : l = [] := List.eq_nil_of_length_eq_zero h0
    subst this
    exact IRow.nil _ _
  · have hgl : g < W.heap.size := (Array.getElem?_eq_some_iff.1 hg).1
    refine ⟨_, cap, rfl, h1, h2, .inr ⟨g, 0, rfl, by omega, fun j hj => ?_⟩⟩
    have := hcl (g := g) rfl j (.int .i64 l[j]) (by simp [icells, hj])
    rw [Addr.add_mid] at this
    exact (hO.cell (p := ⟨g, 0 + j, none⟩) hgl (fun hm => by have := hls _ hm; dsimp only at this; omega)).trans this
theorem fat_obk {ls : List Nat} {B : Nat} {W W' : World} {v : Value} {f : Fo} (h : FAt W B v f) (hB : B ≤ W.heap.size) (hls : ∀ x ∈ ls, B ≤ x) (hO : Obk ls W W') : FAt W' W'.heap.size v f :=
  h.from (hO.below hB hls) (Nat.le_trans hB hO.size)
/-- What Width answers. -/
def fwW (f : Fo) (bs : List UInt8) : Int := if frE f bs = 0 then wdt f (frV f bs) (frV f bs).length else 0
/-- The width that stands in the result's cell after k of them have come. -/
def lastW (f : Fo) (l : List Int) (k : Nat) : Int := if k = 0 then 0 else wdt f l (k - 1)
theorem fr_ok {f : Fo} {bs : List UInt8} (h : frE f bs = 0) : f.err = 0 ∧ rnsE bs = 0 ∧ frV f bs = rnsV bs := by
  unfold frE at h
  split at h
  · rename_i h0
    exact ⟨h0, h, by unfold frV; rw [if_pos h0]⟩
  · rename_i h0; exact absurd h h0
set_option maxRecDepth 100000 in
set_option maxHeartbeats 8000000 in
theorem fwidth_text (w : World) (v : Value) (f : Fo) (h : FAt w w.heap.size v f) (bs : List UInt8) (hT : UTab w) :
    Calls Tryd.prog 16 #[v, .string (str bs)] w fun e w' => e = .returned (.tuple #[.int .i64 (fwW f bs), .int .i64 (frE f bs)]) ∧ Below w.heap.size w w' := by
  have HR := Lib.hid (fun W (hW : Below w.heap.size w W) => fruns_any W _ f (h.from hW hW.size) bs (hT.below hW))
  have HF := Lib.hid h
  obtain ⟨ga, gc, ka, kc, rfl, -, -, -, -, -, -, -⟩ := h.open
  unfold fwW
  by_cases hz : frE f bs = 0
  · rw [if_pos hz, hz]
    simp only [hz] at HR
    obtain ⟨h1, h2, h3⟩ := fr_ok hz
    obtain ⟨q1, q2, q3, q4⟩ := rns_ok h2
    have hln : (rnsV bs).length ≤ 4096 := by have := (encs_len (rnsV bs)).1; have h2 := congrArg List.length q4; omega
    obtain ⟨e1, e2, e3⟩ := err_ok h1
    rw [← h3] at q3 hln
    obtain ⟨l, hl⟩ : ∃ l, frV f bs = l := ⟨_, rfl⟩
    simp only [hl] at HR
    rw [hl] at q3 hln ⊢
    have HTU := Lib.hid (fun (A : World) (C L : Nat) (vg vk vl : Value) => beg_turn 8 (by omega) C L vg vk f vl l e1 e2 q3 hln A)
    have HLW : Hid (∀ k, lastW f l (k + 1) = wdt f l k) := Lib.hid (fun k => rfl)
    obtain ⟨s, hs⟩ : ∃ s, str bs = s := ⟨_, rfl⟩
    simp only [hs] at HR ⊢
    obtain ⟨G, hGe⟩ : ∃ G, f.gs.length = G := ⟨_, rfl⟩
    obtain ⟨K, hKe⟩ : ∃ G, f.ks.length = G := ⟨_, rfl⟩
    obtain ⟨o, hoe⟩ : ∃ G, f.o = G := ⟨_, rfl⟩
    have HOE := Lib.hid hoe
    rw [hGe, hKe, hoe] at HR HF
    rw [hGe, hKe, hoe]
    obtain ⟨M, hM⟩ : ∃ M, l.length = M := ⟨_, rfl⟩
    have HM := Lib.hid hM
    simp only [hM] at HR HTU
    rw [hM]
    clear h hz hl h1 h2 h3 q1 q2 q3 q4 hln e1 e2 e3 hs hT hGe hKe hoe hM
    refine (callsIn_wide (n := 9)).1 ?_
    refine callsIn_of_wp_marks Tryd.func16 rfl trivial ?_ rfl
    simp only [Tryd.ntmps16, List.size_toArray, List.length_cons, List.length_nil, Nat.reduceAdd, Nat.reduceSub, Array.replicate_succ, Array.replicate_zero, List.push_toArray, List.append_toArray, List.nil_append, List.cons_append]
    refine wpIn_wide.2 ?_
    go_wp2_with fail
    have hB2 : Below w.heap.size w ((w.alloc (.cells #[.slice ga G gc, .int .i64 o, .slice ka K kc] 36)).alloc (.cells #[.int .i64 0] 3)) := ((Below.refl _ _).alloc (Nat.le_refl _) _).alloc (by simp) _
    have hA0 := (Arr.new w #[.slice ga G gc, .int .i64 o, .slice ka K kc] 36).alloc (by simp) (.cells #[.int .i64 0] 3)
    have hA1 := Arr.new (w.alloc (.cells #[.slice ga G gc, .int .i64 o, .slice ka K kc] 36)) #[.int .i64 0] 3
    have hz2 : ((w.alloc (.cells #[.slice ga G gc, .int .i64 o, .slice ka K kc] 36)).alloc (.cells #[.int .i64 0] 3)).heap.size = w.heap.size + 2 := by simp
    simp only [World.size_alloc] at hA1
    obtain ⟨W2, hW2⟩ : ∃ W, (w.alloc (.cells #[.slice ga G gc, .int .i64 o, .slice ka K kc] 36)).alloc (.cells #[.int .i64 0] 3) = W := ⟨_, rfl⟩
    rw [hW2] at hA0 hA1 hB2 hz2 ⊢
    clear hW2
    refine (HR.out W2 hB2).mono ?_
    rintro e w3 ⟨vl, rfl, ho, hb3⟩
    rw [HM.out] at ho
    obtain ⟨la, lc, rfl⟩ := own_slice ho
    have hs3 := hb3.size
    have hA03 := hA0.below hb3 (by omega)
    have HA13 := Lib.hid (hA1.below hb3 (by omega))
    have c0 := hA03.cell (i := 0) rfl
    have c1 := hA03.cell (i := 1) rfl
    have c2 := hA03.cell (i := 2) rfl
    have HB3 := Lib.hid (hB2.trans (hb3.mono hB2.size))
    have HO3 := Lib.hid ho
    rw [hz2] at HO3
    have HZ3 : Hid (w.heap.size + 2 ≤ w3.heap.size) := Lib.hid (by omega)
    clear hA0 hA1 hB2 hz2 ho hb3 hs3 hA03 HR
    go_wp2_with fail
    with_reducible refine (beginnings_any w3 _ _ _ la M lc).mono ?_
    rintro e w5 ⟨rfl, a0, a1, hb5, hz5⟩
    have HA0 := Lib.hid a0
    have HA1 := Lib.hid a1
    have HB5 := Lib.hid (HB3.out.trans (hb5.mono HB3.out.size))
    have HO5 := Lib.hid (own_after hb5 HO3.out)
    have HX5 := Lib.hid (HA13.out.below hb5 (by have := HZ3.out; omega))
    have HZ5 := Lib.hid hz5
    clear c0 c1 c2 a0 a1 hb5 hz5 HO3 HA13
    go_wp2_with fail
    refine (wpIn_wide (n := 9)).1 ?_
    refine range_in_turn_m (n := 9) rfl (enters_of Tryd.func57 (by kernel_rfl) rfl) (HTU.out w5 w3.heap.size (w3.heap.size + 1) (.slice ga G gc) (.slice ka K kc) (.slice la M lc)) (Below.refl _ _) (fun _ => rfl)
      (fun k W => Obk [w.heap.size + 1] w5 W ∧ Arr W (w.heap.size + 1) [.int .i64 (lastW f l k)])
      (by
        rintro k W W' row ⟨h1, h2⟩ hg' hr
        exact ⟨h1.moved hg' (fun r e => .inr (hr r e).1), h2.own hg' (fun r e => (hr r e).2)⟩)
      ?kp ⟨Obk.refl _ _, HX5.out⟩
      (fun k a' W => a' = { tmps := (.agg #[.slice ga G gc, .int .i64 o, .slice ka K kc] :: .string s :: .pointer (some ⟨w.heap.size, 0, none⟩) :: undef :: .pointer (some ⟨w.heap.size + 1, 0, none⟩) :: .int .i64 0 :: .slice la M lc :: undef :: .int .i64 (wdt f l k) :: [.tuple #[.slice la M lc, .int .i64 0], .agg #[.slice ga G gc, .int .i64 o, .slice ka K kc], .string s, .tuple #[.slice la M lc, .int .i64 0], .slice la M lc, .int .i64 0, .int .i64 0, .bool false, undef, .agg #[.slice ga G gc, .int .i64 o, .slice ka K kc], .slice la M lc, .func (.func 57) #[] #[.pointer (some ⟨w3.heap.size, 0, none⟩), .pointer (some ⟨w3.heap.size + 1, 0, none⟩)], .int .i64 (k : Int), .int .i64 (wdt f l k), undef, undef]).toArray, defers := [] })
      ?hax ?assign ?body ?done
    case kp =>
      rintro k W ⟨hO, -⟩
      have hz3 := HZ3.out
      have hz5 := HZ5.out
      have g0 : ∀ i v, [Value.slice ga G gc, .int .i64 o, .slice ka K kc][i]? = some v → W.cell? ⟨w3.heap.size, i, none⟩ = some v := fun i v hv => (hO.cell (p := ⟨w3.heap.size, i, none⟩) (show w3.heap.size < _ by omega) (by simp; omega)).trans (HA0.out.cell hv)
      refine ⟨g0 0 _ rfl, by rw [HOE.out]; exact g0 1 _ rfl, g0 2 _ rfl, ?_, (hO.cell (p := ⟨w3.heap.size + 1, 0, none⟩) (show w3.heap.size + 1 < _ by omega) (by simp; omega)).trans (HA1.out.cell (i := 0) rfl), irow_obk (by rw [HM.out]; exact HO5.out) hO (by simp)⟩
      rw [HOE.out]
      exact fat_obk (HF.out.below HB5.out) HB5.out.size (by simp) hO
    case hax =>
      rintro k a' u W W' row h hg hr
      exact h
    case assign =>
      intro lp k W K hk hI hK
      have HKK := Lib.hid hK
      have HI := Lib.hid hI
      clear hI hK
      unfold begV
      obtain ⟨x, hx⟩ : ∃ x, wdt f l k = x := ⟨_, rfl⟩
      rw [hx] at HKK ⊢
      clear hx
      gi_wp2
      exact HKK.out _ _ (KeepsFrom.refl _ _) HI.out rfl
    case body =>
      rintro lp k a' W hk ⟨h1, h2⟩ rfl hsW
      have c0 := h2.cell (i := 0) rfl
      have f0 := h2.frozen (i := 0) (by simp)
      have H1 := Lib.hid h1
      have H2 := Lib.hid h2
      have HLK := Lib.hid (HLW.out k)
      obtain ⟨x, hx⟩ : ∃ x, wdt f l k = x := ⟨_, rfl⟩
      rw [hx] at HLK ⊢
      clear h1 h2 hx
      gi_wp2
      refine ⟨((KeepsOthers.setCell _ _ _).from _), trivial, H1.out.set (by simp) 0 _, ?_⟩
      rw [HLK.out]
      exact H2.out.set 0 _
    case done =>
      rintro D W hD ⟨h1, h2⟩ hK
      rw [show lastW f l (M + 1) = wdt f l M from rfl] at h2
      obtain ⟨x, hx⟩ : ∃ x, wdt f l M = x := ⟨_, rfl⟩
      rw [hx] at h2
      have HX := Lib.hid hx
      have hz3 := HZ3.out
      have hz5 := HZ5.out
      have c0 := h2.cell (i := 0) rfl
      have f0 := h2.frozen (i := 0) (by simp)
      have hDW : D < W.heap.size := (Array.getElem?_eq_some_iff.1 hK).1
      have hA := h2.set 0 (.int .i64 x)
      have hG := grown_setCell (W := W) (b := w.heap.size + 1) 0 (.int .i64 x)
      have hKF := heap_grown_other hG (by omega) hK
      have hO := h1.set (b := w.heap.size + 1) (by simp) 0 (.int .i64 x)
      obtain ⟨WF, hWF⟩ : ∃ WF, W.setCell ⟨w.heap.size + 1, 0, none⟩ (.int .i64 x) = WF := ⟨_, rfl⟩
      rw [hWF] at hA hKF hO
      have hA2 := hA.own (grownBy_putObj' WF D (.deferred none)) (fun r e => by cases e; exact ⟨_, hKF, rfl⟩)
      have q0 := hA2.cell (i := 0) rfl
      have HO2 := Lib.hid (hO.moved (grownBy_putObj' WF D (.deferred none)) (fun k e => .inr (by cases e; omega)))
      have HWF := Lib.hid hWF
      have HKF := Lib.hid hKF
      have HQ0 := Lib.hid q0
      clear h1 h2 hA hG hKF hO hA2 hWF hK hx q0
      go_wp2
      rw [HWF.out]
      have q0 := HQ0.out
      refine ⟨by simp, .inl ⟨_, _, rfl, run_takeDeferred HKF.out, ?_⟩⟩
      refine ⟨.tuple #[.int .i64 x, .int .i64 0], by simp [results, Tryd.results16, go_sem, q0], by rw [HX.out], ?_⟩
      exact HB5.out.trans (HO2.out.below HB5.out.size (by simp))
  · rw [if_neg hz]
    obtain ⟨z, hze⟩ : ∃ z, frE f bs = z := ⟨_, rfl⟩
    obtain ⟨lv, hlv⟩ : ∃ z, frV f bs = z := ⟨_, rfl⟩
    simp only [hze, hlv] at HR
    rw [hze] at hz ⊢
    have d : (z != 0) = true := by simpa using hz
    obtain ⟨s, hs⟩ : ∃ s, str bs = s := ⟨_, rfl⟩
    simp only [hs] at HR ⊢
    obtain ⟨G, hGe⟩ : ∃ G, f.gs.length = G := ⟨_, rfl⟩
    obtain ⟨K, hKe⟩ : ∃ G, f.ks.length = G := ⟨_, rfl⟩
    obtain ⟨o, hoe⟩ : ∃ G, f.o = G := ⟨_, rfl⟩
    rw [hGe, hKe, hoe] at HR
    rw [hGe, hKe, hoe]
    clear h hz hze hlv hs hT hGe hKe hoe HF
    refine (callsIn_wide (n := 9)).1 ?_
    refine callsIn_of_wp_marks Tryd.func16 rfl trivial ?_ rfl
    simp only [Tryd.ntmps16, List.size_toArray, List.length_cons, List.length_nil, Nat.reduceAdd, Nat.reduceSub, Array.replicate_succ, Array.replicate_zero, List.push_toArray, List.append_toArray, List.nil_append, List.cons_append]
    refine wpIn_wide.2 ?_
    go_wp2_with fail
    have hB2 : Below w.heap.size w ((w.alloc (.cells #[.slice ga G gc, .int .i64 o, .slice ka K kc] 36)).alloc (.cells #[.int .i64 0] 3)) := ((Below.refl _ _).alloc (Nat.le_refl _) _).alloc (by simp) _
    have hA1 := Arr.new (w.alloc (.cells #[.slice ga G gc, .int .i64 o, .slice ka K kc] 36)) #[.int .i64 0] 3
    have hz2 : ((w.alloc (.cells #[.slice ga G gc, .int .i64 o, .slice ka K kc] 36)).alloc (.cells #[.int .i64 0] 3)).heap.size = w.heap.size + 2 := by simp
    simp only [World.size_alloc] at hA1
    obtain ⟨W2, hW2⟩ : ∃ W, (w.alloc (.cells #[.slice ga G gc, .int .i64 o, .slice ka K kc] 36)).alloc (.cells #[.int .i64 0] 3) = W := ⟨_, rfl⟩
    rw [hW2] at hA1 hB2 hz2 ⊢
    clear hW2
    refine (HR.out W2 hB2).mono ?_
    rintro e w3 ⟨vl, rfl, ho, hb3⟩
    obtain ⟨la, lc, rfl⟩ := own_slice ho
    have hA13 := hA1.below hb3 (by omega)
    have q0 := (hA13.set 0 (.int .i64 0)).cell (i := 0) rfl
    have HQ0 := Lib.hid q0
    have c0 := hA13.cell (i := 0) rfl
    have f0 := hA13.frozen (i := 0) (by simp)
    have HB3 := Lib.hid (hB2.trans (hb3.mono hB2.size))
    clear hA1 hB2 hz2 ho hb3 hA13 HR q0
    go_wp2_with fail
    have q0 := HQ0.out
    refine ⟨.tuple #[.int .i64 0, .int .i64 z], by simp [results, Tryd.results16, go_sem, q0], rfl, HB3.out.setCell (by simp) _⟩
end Go.Proofs.YtljgcpfibamdpaaDoor
