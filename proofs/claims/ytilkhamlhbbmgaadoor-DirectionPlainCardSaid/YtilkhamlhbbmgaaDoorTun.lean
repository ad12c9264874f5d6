/- Direction: turn. -/
import Derived.Test.YtilkhamlhbbmgaaDoorTrn
namespace Go.Proofs.YtilkhamlhbbmgaaDoor
open Go.RowKit
attribute [local go_sem] Oper.semAt_some

def upT (m : Int) (s o : List Int) (R : List (Nat × Nat)) (k j : Nat) : Int := if j < bnd R k then finT m s o j else o.getD j 0
theorem upT_step {m : Int} {s o : List Int} {R : List (Nat × Nat)} (h : Chain (geB m s) s.length 0 R) {k : Nat} (hk : k < R.length) {a b : Nat} (he : R.getD k (0, 0) = (a, b)) : a < b ∧ b ≤ s.length ∧ (List.range s.length).map (revS (upT m s o R k) a b) = (List.range s.length).map (upT m s o R (k + 1)) := by
  obtain ⟨a', b', h0, h1, h2, h3, h4, h5, h6, _, _⟩ := chain_at h hk
  rw [he] at h0
  injection h0 with e1 e2
  subst e1; subst e2
  refine ⟨h2, h3, List.map_congr_left fun j hj => ?_⟩
  rw [List.mem_range] at hj
  unfold revS upT
  rw [h4]
  by_cases c1 : a ≤ j ∧ j < b
  · rw [if_pos c1, if_neg (by omega), if_pos (by omega)]
    obtain ⟨p1, p2, p3⟩ := h6 j c1.1 c1.2
    unfold finT
    rw [p1, if_pos rfl, p2, p3]
  · rw [if_neg c1]
    by_cases c2 : j < bnd R k
    · rw [if_pos c2, if_pos (by omega)]
    · rw [if_neg c2]
      by_cases c3 : j < b
      · rw [if_pos c3]
        unfold finT
        rw [h5 j (by omega) (by omega), if_neg (by simp)]
      · rw [if_neg c3]
theorem upT_zero (m : Int) (s o : List Int) (R : List (Nat × Nat)) (hl : o.length = s.length) : (List.range s.length).map (upT m s o R 0) = o := by
  apply List.ext_getElem (by simp [hl])
  intro j h1 h2
  simp only [List.getElem_map, List.getElem_range, upT, bnd]
  rw [if_neg (by omega)]
  simp [List.getD, h2]
theorem upT_end {m : Int} {s o : List Int} {R : List (Nat × Nat)} (h : Chain (geB m s) s.length 0 R) : (List.range s.length).map (upT m s o R R.length) = tuL m s o := by
  unfold tuL
  refine List.map_congr_left fun j hj => ?_
  rw [List.mem_range] at hj
  unfold upT
  by_cases c : j < bnd R R.length
  · rw [if_pos c]
  · rw [if_neg c]
    unfold finT
    rw [chain_end h j (by omega) hj, if_neg (by simp)]
set_option maxRecDepth 100000 in
set_option maxHeartbeats 8000000 in
theorem turn_any (w : World) (g B : Nat) (m : Int) (vl : Value) (lev o : List Int) (hl : o.length = lev.length) (hn : lev.length ≤ 1000000) (hg : g < w.heap.size) (hBg : B ≤ g) (hA : Arr w g (icells o)) (hv : IRow w B vl lev) :
    Calls Tryd.prog 74 #[.slice (some ⟨g, 0, none⟩) lev.length lev.length, vl, .int .i64 m] w fun e w' => e = .returned (.tuple #[]) ∧ Arr w' g (icells (tuL m lev o)) ∧ Obk [g] w w' := by
  obtain ⟨R, hR⟩ := chain_ex (geB m lev) lev.length lev.length 0 (by omega)
  obtain ⟨va, c, rfl, hc, hm9, hlev⟩ := hv
  have hlc : ∀ j, j < lev.length → ∃ b off, va = some ⟨b, off, none⟩ ∧ b < B ∧ w.cell? ⟨b, off + j, none⟩ = some (.int .i64 (lev.getD j 0)) := fun j hj => by
    rcases hlev with rfl | ⟨b, off, rfl, hb, h⟩
    · simp at hj
    · exact ⟨b, off, rfl, hb, by rw [h j hj]; simp [List.getD, hj]⟩
  have HLC := Lib.hid hlc
  have HR := Lib.hid hR
  have HL := Lib.hid hl
  have HST : Hid (∀ k a b, k < R.length → R.getD k (0, 0) = (a, b) → a < b ∧ b ≤ lev.length ∧ (List.range lev.length).map (revS (upT m lev o R k) a b) = (List.range lev.length).map (upT m lev o R (k + 1))) := Lib.hid (fun k a b hk he => upT_step hR hk he)
  have HZ := Lib.hid (upT_zero m lev o R hl)
  have HE := Lib.hid (upT_end (o := o) hR)
  have HREV := Lib.hid (fun (W : World) (F : Nat → Int) (a b : Nat) (h : Arr W g (icells ((List.range lev.length).map F))) (hab : a < b) (hb : b ≤ lev.length) => rev_arr W g lev.length a b F h hab hb (by omega))
  have HA := Lib.hid hA
  have HIT := Lib.hid (fun (W : World) => runsD_any W va lev.length c (.func 81) #[] #[.pointer (some ⟨w.heap.size + 1, 0, none⟩)])
  have HTU := Lib.hid (fun (W : World) (Kp : Nat → World → Prop) => runs81_turn 8 (by omega) (w.heap.size + 2) (w.heap.size + 3) (w.heap.size + 1) va c lev (fun x => decide (m ≤ x)) R (by omega) hR Kp)
  obtain ⟨n, hN⟩ : ∃ n, lev.length = n := ⟨_, rfl⟩
  rw [hN] at hc hn HST HZ HE HREV HIT HLC ⊢
  have HN := Lib.hid hN
  clear hN hlev hlc hR hl hA
  refine (callsIn_wide (n := 9)).1 ?_
  refine callsIn_of_wp_marks Tryd.func74 rfl trivial ?_ rfl
  simp only [Tryd.ntmps74, List.size_toArray, List.length_cons, List.length_nil, Nat.reduceAdd, Nat.reduceSub, Array.replicate_succ, Array.replicate_zero, List.push_toArray, List.append_toArray, List.nil_append, List.cons_append]
  refine wpIn_wide.2 ?_
  go_wp2_with fail
  obtain ⟨w4, hw4⟩ : ∃ w4, (w.alloc (.cells #[.slice (some ⟨g, 0, none⟩) n n] 22)).alloc (.cells #[.int .i64 m] 3) = w4 := ⟨_, rfl⟩
  have hs4 : w4.heap.size = w.heap.size + 2 := by rw [← hw4]; simp
  have hb4 : Below w.heap.size w w4 := by rw [← hw4]; exact (below_alloc w _).alloc (by simp) _
  have hc0 : w4.cell? ⟨w.heap.size, 0, none⟩ = some (.slice (some ⟨g, 0, none⟩) n n) := by
    rw [← hw4]
    refine ((below_alloc (w.alloc (.cells #[.slice (some ⟨g, 0, none⟩) n n] 22)) _).cell (p := ⟨w.heap.size, 0, none⟩) (show w.heap.size < (w.alloc (.cells #[.slice (some ⟨g, 0, none⟩) n n] 22)).heap.size by simp)).trans ?_
    rw [World.cell?_alloc_new]; rfl
  have hc1 : w4.cell? ⟨w.heap.size + 1, 0, none⟩ = some (.int .i64 m) := by
    have := World.cell?_alloc_new (w.alloc (.cells #[.slice (some ⟨g, 0, none⟩) n n] 22)) #[.int .i64 m] 3 0
    rw [World.size_alloc] at this
    rw [← hw4]; exact this
  rw [hw4]
  clear hw4
  refine (HIT.out w4).mono ?_
  rintro e w5 ⟨rfl, hq0, hq1, hb5, hs5⟩
  rw [hs4] at hq0 hq1 hs5
  have HW5 : Hid (w5.cell? ⟨w.heap.size, 0, none⟩ = some (.slice (some ⟨g, 0, none⟩) n n) ∧ w5.cell? ⟨w.heap.size + 1, 0, none⟩ = some (.int .i64 m) ∧ w5.cell? ⟨w.heap.size + 2, 0, none⟩ = some (.slice va n c) ∧ w5.cell? ⟨w.heap.size + 3, 0, none⟩ = some (.func (.func 81) #[] #[.pointer (some ⟨w.heap.size + 1, 0, none⟩)])) := Lib.hid ⟨(hb5.cell (p := ⟨w.heap.size, 0, none⟩) (show w.heap.size < _ by omega)).trans hc0, (hb5.cell (p := ⟨w.heap.size + 1, 0, none⟩) (show w.heap.size + 1 < _ by omega)).trans hc1, hq0, hq1⟩
  have HB5 := Lib.hid (hb4.trans (hb5.mono hb4.size))
  have HA5 : Hid (Arr w5 g (icells ((List.range n).map (upT m lev o R 0)))) := Lib.hid (by rw [HZ.out]; exact HA.out.below (hb4.trans (hb5.mono hb4.size)) hg)
  have hz5 : w5.heap.size = w.heap.size + 4 := by omega
  rw [hs4]
  clear hq0 hq1 hb5 hs5 hc0 hc1 hb4 hs4 HA HIT
  go_wp2_with fail
  refine (wpIn_wide (n := 9)).1 ?_
  refine range_in_turn_k (n := 9) rfl (enters_of Tryd.func80 (by kernel_rfl) rfl) (HTU.out w5 (fun k W => Obk [g] w5 W) ?kp w5) (Below.refl _ _) (fun _ => rfl)
    (fun k W => Obk [g] w5 W ∧ Arr W g (icells ((List.range n).map (upT m lev o R k)))) (fun _ _ => False)
    (by
      rintro k W W' row ⟨h1, h2⟩ hg' hr
      exact ⟨h1.moved hg' (fun r e => .inr (hr r e).1), h2.own hg' (fun r e => (hr r e).2)⟩)
    (by rintro _ _ _ _ h; exact absurd h id)
    (fun k W h => h.1)
    ⟨Obk.refl _ _, HA5.out⟩
    (fun k a' W => a' = { tmps := (.slice (some ⟨g, 0, none⟩) n n :: .slice va n c :: .int .i64 m :: .pointer (some ⟨w.heap.size, 0, none⟩) :: undef :: .pointer (some ⟨w.heap.size + 1, 0, none⟩) :: .int .i64 ((R.getD k (0, 0)).1 : Int) :: .int .i64 ((R.getD k (0, 0)).2 : Int) :: [.slice va n c, .func (.func 81) #[] #[.pointer (some ⟨w.heap.size + 1, 0, none⟩)], .func (.func 80) #[] #[.pointer (some ⟨w.heap.size + 2, 0, none⟩), .pointer (some ⟨w.heap.size + 3, 0, none⟩)], .int .i64 ((R.getD k (0, 0)).1 : Int), .int .i64 ((R.getD k (0, 0)).2 : Int), undef, undef, undef, undef, undef, undef]).toArray, defers := [] })
    ?hax ?assign ?body ?done ?stop ?panic
  case kp =>
    intro k W hO
    refine ⟨⟨?_, ?_, ?_⟩, fun x => atLeast_any W x m (w.heap.size + 1) ?_⟩
    · rw [HN.out]; exact (hO.cell (p := ⟨w.heap.size + 2, 0, none⟩) (show w.heap.size + 2 < _ by omega) (by simp; omega)).trans HW5.out.2.2.1
    · exact (hO.cell (p := ⟨w.heap.size + 3, 0, none⟩) (show w.heap.size + 3 < _ by omega) (by simp; omega)).trans HW5.out.2.2.2
    · intro j _ hj
      rw [HN.out] at hj
      obtain ⟨b, off, rfl, hb, h⟩ := HLC.out j hj
      exact ⟨b, off, rfl, ((hO.cell (p := ⟨b, off + j, none⟩) (by show b < _; omega) (by simp; omega)).trans (HB5.out.cell (p := ⟨b, off + j, none⟩) (by show b < _; omega))).trans h⟩
    · exact (hO.cell (p := ⟨w.heap.size + 1, 0, none⟩) (show w.heap.size + 1 < _ by omega) (by simp; omega)).trans HW5.out.2.1
  case hax =>
    rintro k a' u W W' row h hg hr
    exact h
  case assign =>
    intro lp k W K hk hI hK
    obtain ⟨a, b, hab⟩ : ∃ a b, R.getD k (0, 0) = (a, b) := ⟨_, _, rfl⟩
    rw [hab] at hK
    have HKK := Lib.hid hK
    have HI := Lib.hid hI
    clear hI hK
    unfold runV
    rw [hab]
    clear hab
    gi_wp2
    exact HKK.out _ _ (KeepsFrom.refl _ _) HI.out rfl
  case stop => intro D c W _ hf; exact absurd hf id
  case panic => intro D pv W hok; cases hok
  case body =>
    rintro lp k a' W hk ⟨h1, h2⟩ rfl hsW
    obtain ⟨a, b, hab⟩ : ∃ a b, R.getD k (0, 0) = (a, b) := ⟨_, _, rfl⟩
    obtain ⟨g1, g2, g3⟩ := HST.out k a b hk hab
    have c0 : W.cell? ⟨w.heap.size, 0, none⟩ = some (.slice (some ⟨g, 0, none⟩) n n) := (h1.cell (p := ⟨w.heap.size, 0, none⟩) (show w.heap.size < _ by omega) (by simp; omega)).trans HW5.out.1
    have HRV := Lib.hid (HREV.out W _ a b h2 g1 g2)
    rw [g3] at HRV
    have H1 := Lib.hid h1
    rw [hab]
    dsimp only
    clear g3 hab h1 h2
    have i1 : (a : Int) ≤ (b : Int) := by omega
    have i2 : (b : Int) ≤ (n : Int) := by omega
    gi_wp2_with fail
    refine ⟨trivial, ((callsIn_wide.2 HRV.out).inRound lp).mono ?_⟩
    rintro e W2 ⟨rfl, h3, h4⟩
    have H3 := Lib.hid h3
    have H4 := Lib.hid h4
    clear h3 h4
    gi_wp2
    exact ⟨H4.out.keeps (by simp; omega), trivial, H1.out.trans H4.out, H3.out⟩
  case done =>
    rintro D W _ hD ⟨h1, h2⟩ hK
    rw [HE.out] at h2
    have hDW : D < W.heap.size := (Array.getElem?_eq_some_iff.1 hK).1
    have hPF : Below w5.heap.size W (W.putObj D (.deferred none)) := (Below.refl _ W).grown (grownBy_putObj' W D _) (by have := h1.size; omega) (fun k e => by cases e; omega)
    have H1 := Lib.hid (h1.moved (grownBy_putObj' W D (.deferred none)) (fun k e => .inr (by cases e; omega)))
    have H2 := Lib.hid h2
    have hgW : g < W.heap.size := by have := h1.size; omega
    have H2b := Lib.hid (h2.own (grownBy_putObj' W D (.deferred none)) (fun r e => by cases e; exact ⟨_, hK, rfl⟩))
    have HP := Lib.hid hPF
    have HKK := Lib.hid hK
    clear h1 h2 hPF hK
    go_wp2
    refine ⟨by simp, .inl ⟨_, _, rfl, run_takeDeferred HKK.out, ?_⟩⟩
    refine ⟨.tuple #[], by simp [results, Tryd.results74, go_sem], rfl, H2b.out, (Obk.of HB5.out).trans H1.out⟩
end Go.Proofs.YtilkhamlhbbmgaaDoor
