/- merkle: the row that follows a row (nextRow). -/
import Derived.Test.YtfmngeemhfpeiaaDoorMlo
namespace Go.Proofs.YtfmngeemhfpeiaaDoor
open Go.RowKit Go.Shelf
attribute [local go_sem] Oper.semAt_some

theorem own_own {W W' : World} {B e size n : Nat} {v : Value} {xs : List Value} {row : Option Nat} (h : W.ownsRow B e size v n xs) (hg : W.grownBy W' row) (hr : ∀ r, row = some r → ∃ o : Obj, W.heap[r]? = some o ∧ o.isCells = false) : W'.ownsRow B e size v n xs :=
  h.kept hg (by
    rcases h.2 with ⟨rfl, _⟩ | ⟨g, cap, cur, rfl, _, h5, _⟩
    · exact .inl rfl
    · refine .inr fun e => ?_
      obtain ⟨o, h1, h2⟩ := hr g e.symm
      rw [h5] at h1
      cases h1
      cases h2)
theorem gb_below {W W' : World} (h : W.grownBy W' none) : Below W.heap.size W W' := (Below.refl _ _).grown h (Nat.le_refl _) (fun k e => by cases e)

def c47a0 : Oper := { dst := some 7, op := Go.Op.load 25 (Go.Operand.tmp 2), type := 25, pos := "rows.go:43", after := #[], guard := none }
def c47a1 : Oper := { dst := some 8, op := Go.Op.move (Go.Operand.tmp 3), type := 25, pos := "rows.go:43", after := #[], guard := none }
def c47a2 : Oper := { dst := some 9, op := Go.Op.call { callee := Go.Callee.value (Go.Operand.func 76), args := #[Go.Operand.tmp 8], argTypes := #[25] }, type := 30, pos := "rows.go:43", after := #[{ on := 1, ground := Go.Ground.data }], guard := none }
def c47a3 : Oper := { dst := some 10, op := Go.Op.buildSlice 25 1 #[(0, Go.Operand.tmp 9)], type := 25, pos := "rows.go:43", after := #[{ on := 2, ground := Go.Ground.data }], guard := none }
def c47a4 : Oper := { dst := some 11, op := Go.Op.call { callee := Go.Callee.builtin Go.Builtin.append, args := #[Go.Operand.tmp 7, Go.Operand.tmp 10], argTypes := #[25, 25] }, type := 25, pos := "rows.go:43", after := #[{ on := 0, ground := Go.Ground.data }, { on := 3, ground := Go.Ground.data }, { on := 2, ground := Go.Ground.chain }], guard := none }
def c47a5 : Oper := { dst := none, op := Go.Op.store 25 (Go.Operand.tmp 2) (Go.Operand.tmp 11), type := 0, pos := "rows.go:43", after := #[{ on := 4, ground := Go.Ground.data }, { on := 4, ground := Go.Ground.chain }, { on := 0, ground := Go.Ground.phase }, { on := 1, ground := Go.Ground.phase }, { on := 2, ground := Go.Ground.phase }, { on := 3, ground := Go.Ground.phase }, { on := 4, ground := Go.Ground.phase }], guard := none }

set_option maxRecDepth 100000 in
set_option maxHeartbeats 8000000 in
theorem nextRow_own (w : World) (v : Value) (l : List (List UInt8)) (hv : Digs w w.heap.size v l) (hq : l.length ≤ 100000) (hT : Tab w) (h0 : 0 < w.heap.size) :
    Calls Tryd.prog 47 #[v] w fun e w' => ∃ v', e = .returned v' ∧ w'.ownsRow w.heap.size 30 32 v' (nexts l).length (flat (nexts l)) ∧ Below w.heap.size w w' := by
  obtain ⟨h32, a, cap, rfl, hc1, hc2, hc3⟩ := hv
  obtain ⟨N, hN⟩ : ∃ N, l.length = N := ⟨_, rfl⟩
  have HPB : Hid (∃ pb poff, pb < w.heap.size ∧ (0 < N → a = some ⟨pb, poff, none⟩) ∧ ∀ c (hc : c < l.length), w.rangeAt pb (poff + c * 32) (cells8 l[c])) := Lib.hid (by
    rcases hc3 with rfl | ⟨pb, poff, h4, h5, h6⟩
    · have hP0 : N = 0 := by rw [← hN]; rfl
      exact ⟨0, 0, h0, fun h => by omega, fun c hc => absurd hc (by simp)⟩
    · exact ⟨pb, poff, h5, fun _ => h4, h6⟩)
  obtain ⟨pb, poff, hpb, hpa, hpr⟩ := HPB.out
  rw [hN] at hc1 hq ⊢
  have H32 := Lib.hid h32
  have HPR := Lib.hid hpr
  have HN := Lib.hid hN
  have HT := Lib.hid hT
  have HPA := Lib.hid hpa
  have HCM := Lib.hid hc2
  clear h32 hc3 hpr hT hN hpa hc2 HPB
  refine (callsIn_wide (n := 9)).1 ?_
  refine callsIn_of_wp_marks Tryd.func47 rfl trivial ?_ rfl
  simp only [Tryd.ntmps47, List.size_toArray, List.length_cons, List.length_nil, Nat.reduceAdd, Nat.reduceSub, Array.replicate_succ, Array.replicate_zero, List.push_toArray, List.append_toArray, List.nil_append, List.cons_append]
  refine wpIn_wide.2 ?_
  go_wp2_with fail
  refine (chunkd_any _ a N cap).mono ?_
  rintro e w5 ⟨rfl, hk5, hb5, hz5⟩
  have hz1 : (w.alloc (.cells #[.slice none 0 0] 25)).heap.size = w.heap.size + 1 := World.size_alloc _ _
  rw [hz1] at hk5 hb5 hz5
  have HA := Lib.hid (((Arr.new w #[.slice none 0 0] 25)).below hb5 (by omega))
  have HB := Lib.hid (((Below.refl w.heap.size w).alloc (Nat.le_refl _) (.cells #[.slice none 0 0] 25)).trans (hb5.mono (by omega)))
  have HK5 := Lib.hid hk5
  have hw5 : w.heap.size + 2 < w5.heap.size := by omega
  clear hb5 hk5 hz1 hz5
  go_wp2_with fail
  refine (wpIn_wide (n := 9)).1 ?_
  refine range_in_turn_k (n := 9) rfl (enters_of Tryd.func94 (by kernel_rfl) rfl) (chunkd_turn 8 (by omega) (w.heap.size + 1) (w.heap.size + 1 + 1) pb poff N cap a hc1 (by omega) HCM.out HPA.out w5) (Below.refl _ _) (fun _ => rfl)
    (fun k W => Below w.heap.size w W ∧ w5.heap.size ≤ W.heap.size ∧ ChkAt (w.heap.size + 1) (w.heap.size + 1 + 1) a N cap W ∧ ∃ v, Arr W w.heap.size [v] ∧ W.ownsRow w5.heap.size 30 32 v k (flat (nexts (l.take (2 * k))))) (fun _ _ => False)
    (by
      rintro k W W' row ⟨k1, k2, ⟨k3, k4⟩, v, k5, k6⟩ hg hr
      exact ⟨k1.grown hg k1.size (fun k e => by have := (hr k e).1; omega), Nat.le_trans k2 hg.size, ⟨cell_kept k3 hg (fun r e => (hr r e).2), cell_kept k4 hg (fun r e => (hr r e).2)⟩, v, k5.own hg (fun r e => (hr r e).2), own_own k6 hg (fun r e => (hr r e).2)⟩)
    (by rintro _ _ _ _ h; exact absurd h id)
    (fun k W h => h.2.2.1)
    ⟨HB.out, Nat.le_refl _, HK5.out, .slice none 0 0, HA.out, by rw [Nat.mul_zero, List.take_zero]; exact World.ownsRow_nil w5 _ 30 32⟩
    (fun k a' _ => a' = { tmps := #[.slice a N cap, undef, .pointer (some ⟨w.heap.size, 0, none⟩), .slice (some ⟨pb, poff + 2 * k * 32, none⟩) (min 2 (N - 2 * k)) (min 2 (N - 2 * k)), .slice a N cap, .func (.func 94) #[] #[.pointer (some ⟨w.heap.size + 1, 0, none⟩), .pointer (some ⟨w.heap.size + 1 + 1, 0, none⟩)], .slice (some ⟨pb, poff + 2 * k * 32, none⟩) (min 2 (N - 2 * k)) (min 2 (N - 2 * k)), undef, undef, undef, undef, undef, undef], defers := [] })
    ?hax ?assign ?body ?done ?stop
  case hax => rintro k a' u W W' row h1 hg hr; exact h1
  case assign =>
    intro lp k W K hk hI hK
    have HKK := Lib.hid hK
    have HI := Lib.hid hI
    clear hI hK
    unfold chkV
    gi_wp2
    exact HKK.out _ _ (KeepsFrom.refl _ _) HI.out rfl
  case stop => intro D c W _ hf; exact absurd hf id
  case done =>
    rintro D W hD ⟨h1, h2, _, v, h3, h4⟩ hK
    have hDW : D < W.heap.size := (Array.getElem?_eq_some_iff.1 hK).1
    have hd0 : ∃ a0 n0 c0, v = .slice a0 n0 c0 := by
      rcases h4.2 with ⟨rfl, _⟩ | ⟨g, cp, cur, rfl, _⟩
      · exact ⟨_, _, _, rfl⟩
      · exact ⟨_, _, _, rfl⟩
    obtain ⟨a0, n0, c0, rfl⟩ := hd0
    rw [List.take_of_length_le (by rw [HN.out]; omega)] at h4
    have e0 : W.cell? ⟨w.heap.size, 0, none⟩ = some (.slice a0 n0 c0) := h3.cell rfl
    have f0 : W.frozen? ⟨w.heap.size, 0, none⟩ = false := h3.frozen (by simp)
    obtain ⟨WF, hWF⟩ : ∃ WF, W.setCell ⟨w.heap.size, 0, none⟩ (.slice a0 n0 c0) = WF := ⟨_, rfl⟩
    have hA := h3.set 0 (.slice a0 n0 c0)
    have hG := grown_setCell (W := W) (b := w.heap.size) 0 (.slice a0 n0 c0)
    rw [hWF] at hA hG
    have hsG := hG.size
    have hBF : Below w.heap.size w WF := h1.grown hG h1.size (fun k e => by cases e; omega)
    have hKF := heap_grown_other hG (by omega) hK
    have hO1 := own_grown h4 hG (fun k e => by cases e; omega)
    have hPF : Below w5.heap.size WF (WF.putObj D (.deferred none)) := (Below.refl _ WF).grown (grownBy_putObj' WF D _) (by omega) (fun k e => by cases e; omega)
    have hAF : Arr (WF.putObj D (.deferred none)) w.heap.size [.slice a0 n0 c0] := hA.below hPF (by omega)
    have hO2 := own_own hO1 (grownBy_putObj' WF D (.deferred none)) (fun r e => by cases e; exact ⟨_, hKF, rfl⟩)
    have hDG := own_base hO2 (show w.heap.size ≤ w5.heap.size by omega)
    rw [show (N + 1) / 2 = (nexts l).length by rw [nexts_len, HN.out]] at hDG
    have q : (WF.putObj D (.deferred none)).cell? ⟨w.heap.size, 0, none⟩ = some (.slice a0 n0 c0) := hAF.cell rfl
    have HBP := Lib.hid (hBF.trans (hPF.mono (by omega)))
    have HKF := Lib.hid hKF
    have HQ := Lib.hid q
    have HDG := Lib.hid hDG
    have HWF := Lib.hid hWF
    clear hG hA hBF hKF hPF hAF hO1 hO2 hDG q h1 h3 h4 hK hWF
    go_wp2
    rw [HWF.out]
    have q := HQ.out
    refine ⟨by simp, .inl ⟨_, _, rfl, run_takeDeferred HKF.out, ?_⟩⟩
    exact ⟨.slice a0 n0 c0, by simp [results, Tryd.results47, go_sem, q], _, rfl, HDG.out, HBP.out⟩
  case body =>
    rintro lp k a' W hk ⟨h1, h2, hKA, v0, hA, hO⟩ rfl hsW
    have hTW := HT.out.below h1 h0
    obtain ⟨D, E, hE, hDl, hD1, hFD, hJN⟩ : ∃ D E, min 2 (N - 2 * k) = E ∧ D.length = 32 ∧ (∀ u ∈ D, u.oneCell' = true) ∧ flat (nexts (l.take (2 * (k + 1)))) = flat (nexts (l.take (2 * k))) ++ D ∧
        ∀ W', Low w5.heap.size [w.heap.size] W W' → Calls Tryd.prog 76 #[.slice (some ⟨pb, poff + 2 * k * 32, none⟩) E E] W' fun e w' => e = .returned (.agg D.toArray) ∧ Below W'.heap.size W' w' := by
      have hn := HN.out
      have hlw : ∀ W', Low w5.heap.size [w.heap.size] W W' → Below w.heap.size w W' := fun W' h => h1.trans (h.below (by omega) (by simp))
      by_cases hodd : 2 * k + 1 < N
      · have hl0 : 2 * k < l.length := by omega
        have hl1 : 2 * k + 1 < l.length := by omega
        refine ⟨cells8 (sha (nodeT l[2 * k] l[2 * k + 1])), 2, by omega, by rw [cells8_len, sha_len], one_cells8 _, by rw [show 2 * (k + 1) = 2 * k + 2 by omega]; exact nexts_two (by omega) hl1, fun W' h => ?_⟩
        have hb := hlw W' h
        refine join_two W' pb (poff + 2 * k * 32) 2 l[2 * k] l[2 * k + 1] (H32.out _ (List.getElem_mem hl0)) (H32.out _ (List.getElem_mem hl1)) (by have := hb.size; omega) (fun j v hv => (hb.cell (p := ⟨pb, poff + 2 * k * 32 + j, none⟩) hpb).trans (HPR.out (2 * k) hl0 j v hv)) (fun j v hv => ?_) (HT.out.below hb h0) (by have := hb.size; omega)
        rw [show poff + 2 * k * 32 + 32 + j = poff + (2 * k + 1) * 32 + j by omega]
        exact (hb.cell (p := ⟨pb, poff + (2 * k + 1) * 32 + j, none⟩) hpb).trans (HPR.out (2 * k + 1) hl1 j v hv)
      · have hl0 : 2 * k < l.length := by omega
        refine ⟨cells8 l[2 * k], 1, by omega, by rw [cells8_len, H32.out _ (List.getElem_mem hl0)], one_cells8 _, by rw [show 2 * (k + 1) = 2 * k + 2 by omega]; exact nexts_one (by omega) (by omega), fun W' h => ?_⟩
        have hb := hlw W' h
        exact join_one W' pb (poff + 2 * k * 32) 1 l[2 * k] (H32.out _ (List.getElem_mem hl0)) (by have := hb.size; omega) (fun j v hv => (hb.cell (p := ⟨pb, poff + 2 * k * 32 + j, none⟩) hpb).trans (HPR.out (2 * k) hl0 j v hv))
    rw [hE]
    have HJN := Lib.hid hJN
    have HDL := Lib.hid hDl
    have HD1 := Lib.hid hD1
    have HFIN : Hid (∀ W' u xs, Low w5.heap.size [w.heap.size] W W' → Arr W' w.heap.size ([v0].set 0 u) → W'.ownsRow w5.heap.size 30 32 u (k + 1) (flat (nexts (l.take (2 * k))) ++ xs) → xs = D → (KeepsFrom w5.heap.size W W' ∧ True ∧ Below w.heap.size w W' ∧ w5.heap.size ≤ W'.heap.size ∧ ChkAt (w.heap.size + 1) (w.heap.size + 1 + 1) a N cap W' ∧ ∃ v, Arr W' w.heap.size [v] ∧ W'.ownsRow w5.heap.size 30 32 v (k + 1) (flat (nexts (l.take (2 * (k + 1))))))) := Lib.hid (by
      rintro W' u xs h5 h6 h7 rfl
      have := h5.size
      exact ⟨h5.keeps _, trivial, h1.trans (h5.below (by omega) (by simp)), by omega, ⟨(h5.cell (p := ⟨w.heap.size + 1, 0, none⟩) (by show w.heap.size + 1 < _; omega) (by show w.heap.size + 1 ∉ [w.heap.size]; simp only [List.mem_singleton]; omega)).trans hKA.1, (h5.cell (p := ⟨w.heap.size + 1 + 1, 0, none⟩) (by show w.heap.size + 1 + 1 < _; omega) (by show w.heap.size + 1 + 1 ∉ [w.heap.size]; simp only [List.mem_singleton]; omega)).trans hKA.2⟩, u, h6, by rw [hFD]; exact h7⟩)
    have hd0 : ∃ a0 n0 c0, v0 = .slice a0 n0 c0 := by
      rcases hO.2 with ⟨rfl, _⟩ | ⟨g, cp, cur, rfl, _⟩
      · exact ⟨_, _, _, rfl⟩
      · exact ⟨_, _, _, rfl⟩
    obtain ⟨a0, n0, c0, rfl⟩ := hd0
    have hkq : k ≤ 100000 := by omega
    clear h1 hKA hTW hE hDl hD1 hFD hJN
    replace hO := own_after (Below.drew (Below.refl W.heap.size W)) hO
    replace hA := hA.drew
    gi_wp2_with fail
    refine wpIn_region_round (Low w5.heap.size [w.heap.size] W) (by kernel_rfl) (by kernel_rfl) (Low.drew (Low.refl _ _ _)) (fun KR hKR hHeld => ?_)
    refine wpAnyH_take (i := 1) (oi := c47a1) (v := ?_) rfl (by kernel_rfl) (by kernel_rfl) (by kernel_rfl) (fun _ _ _ h => h) (Or.inl ⟨by rfl, ?_⟩) hHeld ?_
    rotate_left
    · (intro w hSw; (try dsimp only at hSw); unfold c47a1; go_simp <;> with_reducible rfl)
    try simp only [c47a1, Act.put, List.setIfInBounds_toArray, List.set_cons_zero, List.set_cons_succ]
    refine wpAnyH_ready (rs := [0, 2]) (by kernel_rfl) (by simp) ?_
    refine AllReadyH.cons (o := c47a0) rfl (fun K hK => ?_) (AllReadyH.cons (o := c47a2) rfl (fun K hK => ?_) AllReadyH.nil)
    · skip
      rw [if_pos (by rfl)]
      have f1 := hA.cell (i := 0) rfl
      unfold c47a0
      go_simp
      refine hK.out _ _ hHeld (fun hHeld => ?_)
      clear hK K
      try simp only [c47a0, Act.put, List.setIfInBounds_toArray, List.set_cons_zero, List.set_cons_succ]
      refine wpAnyH_ready (rs := [2]) (by kernel_rfl) (by simp) ?_
      refine AllReadyH.cons (o := c47a2) rfl (fun K hK => ?_) AllReadyH.nil
      rw [if_pos (by rfl)]
      unfold c47a2
      go_simp
      (with_reducible refine (HJN.out _ hHeld).mono ?_)
      rintro e W2 ⟨rfl, hB2⟩
      replace hO := own_after hB2 hO
      replace hA := hA.below hB2 (by have := hHeld.size; omega)
      replace hHeld := hHeld.next hB2 (by omega)
      go_wp2_with fail
      refine hK.out _ _ hHeld (fun hHeld => ?_)
      clear hK K
      try simp only [c47a2, Act.put, List.setIfInBounds_toArray, List.set_cons_zero, List.set_cons_succ]
      refine wpAnyH_ready (rs := [3]) (by kernel_rfl) (by simp) ?_
      refine AllReadyH.cons (o := c47a3) rfl (fun K hK => ?_) AllReadyH.nil
      rw [if_pos (by rfl)]
      refine wp_one30 (.tmp 9) (by rfl) D (by rfl) HDL.out ?_
      intro g3 W3 hg3 hlt3 hG3 hr3
      have hB3 := gb_below hG3
      replace hO := own_after hB3 hO
      replace hA := hA.below hB3 (by have := hHeld.size; omega)
      replace hHeld := hHeld.next hB3 (by omega)
      refine hK.out _ _ hHeld (fun hHeld => ?_)
      clear hK K
      try simp only [c47a3, Act.put, List.setIfInBounds_toArray, List.set_cons_zero, List.set_cons_succ]
      refine wpAnyH_ready (rs := [4]) (by kernel_rfl) (by simp) ?_
      refine AllReadyH.cons (o := c47a4) rfl (fun K hK => ?_) AllReadyH.nil
      rw [if_pos (by rfl)]
      obtain ⟨v4, W4, r4, hrun4, hO4, hG4, hR4, _, _⟩ := digs_app2 hO (by have := hHeld.size; omega) g3 HDL.out HD1.out hr3 (by omega)
      obtain ⟨g4, p4, rfl⟩ := ownsRow_succ hO4
      refine wp_app_run (.tmp 7) (.tmp 10) 25 25 (by rfl) _ _ _ _ (by rfl) (by rfl) hrun4 ?_
      replace hA := hA.moved hG4 (by have := hHeld.size; omega) (fun e => by have := (hR4 _ e.symm).1; omega)
      replace hHeld := hHeld.moved hG4 (by omega) (fun k e => ⟨.inr (hR4 k e).1, (hR4 k e).2⟩)
      refine hK.out _ _ hHeld (fun hHeld => ?_)
      clear hK K
      try simp only [c47a4, Act.put, List.setIfInBounds_toArray, List.set_cons_zero, List.set_cons_succ]
      refine wpAnyH_ready (rs := [5]) (by kernel_rfl) (by simp) ?_
      refine AllReadyH.cons (o := c47a5) rfl (fun K hK => ?_) AllReadyH.nil
      rw [if_pos (by rfl)]
      have f1 := hA.cell (i := 0) rfl
      have f2 := hA.frozen (i := 0) (by simp)
      have hS5 := hHeld.set (by omega) (List.mem_singleton.2 rfl) hA (by simp) 0 (.slice (some ⟨g4, 0, none⟩) (k + 1) p4)
      unfold c47a5
      go_simp
      refine hK.out _ _ hS5 (fun hHeld => ?_)
      clear hK K
      try simp only [c47a5, Act.put]
      refine wpAnyH_done (by kernel_rfl) ?_ _
      refine hKR _ _ ?_
      exact HFIN.out _ _ _ hHeld (hA.set 0 _) (own_grown hO4 (grown_setCell 0 _) (fun k e => by cases e; omega)) rfl
    · skip
      rw [if_pos (by rfl)]
      unfold c47a2
      go_simp
      (with_reducible refine (HJN.out _ hHeld).mono ?_)
      rintro e W2 ⟨rfl, hB2⟩
      replace hO := own_after hB2 hO
      replace hA := hA.below hB2 (by have := hHeld.size; omega)
      replace hHeld := hHeld.next hB2 (by omega)
      go_wp2_with fail
      refine hK.out _ _ hHeld (fun hHeld => ?_)
      clear hK K
      try simp only [c47a2, Act.put, List.setIfInBounds_toArray, List.set_cons_zero, List.set_cons_succ]
      refine wpAnyH_ready (rs := [0, 3]) (by kernel_rfl) (by simp) ?_
      refine AllReadyH.cons (o := c47a0) rfl (fun K hK => ?_) (AllReadyH.cons (o := c47a3) rfl (fun K hK => ?_) AllReadyH.nil)
      · skip
        rw [if_pos (by rfl)]
        have f1 := hA.cell (i := 0) rfl
        unfold c47a0
        go_simp
        refine hK.out _ _ hHeld (fun hHeld => ?_)
        clear hK K
        try simp only [c47a0, Act.put, List.setIfInBounds_toArray, List.set_cons_zero, List.set_cons_succ]
        refine wpAnyH_ready (rs := [3]) (by kernel_rfl) (by simp) ?_
        refine AllReadyH.cons (o := c47a3) rfl (fun K hK => ?_) AllReadyH.nil
        rw [if_pos (by rfl)]
        refine wp_one30 (.tmp 9) (by rfl) D (by rfl) HDL.out ?_
        intro g3 W3 hg3 hlt3 hG3 hr3
        have hB3 := gb_below hG3
        replace hO := own_after hB3 hO
        replace hA := hA.below hB3 (by have := hHeld.size; omega)
        replace hHeld := hHeld.next hB3 (by omega)
        refine hK.out _ _ hHeld (fun hHeld => ?_)
        clear hK K
        try simp only [c47a3, Act.put, List.setIfInBounds_toArray, List.set_cons_zero, List.set_cons_succ]
        refine wpAnyH_ready (rs := [4]) (by kernel_rfl) (by simp) ?_
        refine AllReadyH.cons (o := c47a4) rfl (fun K hK => ?_) AllReadyH.nil
        rw [if_pos (by rfl)]
        obtain ⟨v4, W4, r4, hrun4, hO4, hG4, hR4, _, _⟩ := digs_app2 hO (by have := hHeld.size; omega) g3 HDL.out HD1.out hr3 (by omega)
        obtain ⟨g4, p4, rfl⟩ := ownsRow_succ hO4
        refine wp_app_run (.tmp 7) (.tmp 10) 25 25 (by rfl) _ _ _ _ (by rfl) (by rfl) hrun4 ?_
        replace hA := hA.moved hG4 (by have := hHeld.size; omega) (fun e => by have := (hR4 _ e.symm).1; omega)
        replace hHeld := hHeld.moved hG4 (by omega) (fun k e => ⟨.inr (hR4 k e).1, (hR4 k e).2⟩)
        refine hK.out _ _ hHeld (fun hHeld => ?_)
        clear hK K
        try simp only [c47a4, Act.put, List.setIfInBounds_toArray, List.set_cons_zero, List.set_cons_succ]
        refine wpAnyH_ready (rs := [5]) (by kernel_rfl) (by simp) ?_
        refine AllReadyH.cons (o := c47a5) rfl (fun K hK => ?_) AllReadyH.nil
        rw [if_pos (by rfl)]
        have f1 := hA.cell (i := 0) rfl
        have f2 := hA.frozen (i := 0) (by simp)
        have hS5 := hHeld.set (by omega) (List.mem_singleton.2 rfl) hA (by simp) 0 (.slice (some ⟨g4, 0, none⟩) (k + 1) p4)
        unfold c47a5
        go_simp
        refine hK.out _ _ hS5 (fun hHeld => ?_)
        clear hK K
        try simp only [c47a5, Act.put]
        refine wpAnyH_done (by kernel_rfl) ?_ _
        refine hKR _ _ ?_
        exact HFIN.out _ _ _ hHeld (hA.set 0 _) (own_grown hO4 (grown_setCell 0 _) (fun k e => by cases e; omega)) rfl
      · skip
        rw [if_pos (by rfl)]
        refine wp_one30 (.tmp 9) (by rfl) D (by rfl) HDL.out ?_
        intro g3 W3 hg3 hlt3 hG3 hr3
        have hB3 := gb_below hG3
        replace hO := own_after hB3 hO
        replace hA := hA.below hB3 (by have := hHeld.size; omega)
        replace hHeld := hHeld.next hB3 (by omega)
        refine hK.out _ _ hHeld (fun hHeld => ?_)
        clear hK K
        try simp only [c47a3, Act.put, List.setIfInBounds_toArray, List.set_cons_zero, List.set_cons_succ]
        refine wpAnyH_ready (rs := [0]) (by kernel_rfl) (by simp) ?_
        refine AllReadyH.cons (o := c47a0) rfl (fun K hK => ?_) AllReadyH.nil
        rw [if_pos (by rfl)]
        have f1 := hA.cell (i := 0) rfl
        unfold c47a0
        go_simp
        refine hK.out _ _ hHeld (fun hHeld => ?_)
        clear hK K
        try simp only [c47a0, Act.put, List.setIfInBounds_toArray, List.set_cons_zero, List.set_cons_succ]
        refine wpAnyH_ready (rs := [4]) (by kernel_rfl) (by simp) ?_
        refine AllReadyH.cons (o := c47a4) rfl (fun K hK => ?_) AllReadyH.nil
        rw [if_pos (by rfl)]
        obtain ⟨v4, W4, r4, hrun4, hO4, hG4, hR4, _, _⟩ := digs_app2 hO (by have := hHeld.size; omega) g3 HDL.out HD1.out hr3 (by omega)
        obtain ⟨g4, p4, rfl⟩ := ownsRow_succ hO4
        refine wp_app_run (.tmp 7) (.tmp 10) 25 25 (by rfl) _ _ _ _ (by rfl) (by rfl) hrun4 ?_
        replace hA := hA.moved hG4 (by have := hHeld.size; omega) (fun e => by have := (hR4 _ e.symm).1; omega)
        replace hHeld := hHeld.moved hG4 (by omega) (fun k e => ⟨.inr (hR4 k e).1, (hR4 k e).2⟩)
        refine hK.out _ _ hHeld (fun hHeld => ?_)
        clear hK K
        try simp only [c47a4, Act.put, List.setIfInBounds_toArray, List.set_cons_zero, List.set_cons_succ]
        refine wpAnyH_ready (rs := [5]) (by kernel_rfl) (by simp) ?_
        refine AllReadyH.cons (o := c47a5) rfl (fun K hK => ?_) AllReadyH.nil
        rw [if_pos (by rfl)]
        have f1 := hA.cell (i := 0) rfl
        have f2 := hA.frozen (i := 0) (by simp)
        have hS5 := hHeld.set (by omega) (List.mem_singleton.2 rfl) hA (by simp) 0 (.slice (some ⟨g4, 0, none⟩) (k + 1) p4)
        unfold c47a5
        go_simp
        refine hK.out _ _ hS5 (fun hHeld => ?_)
        clear hK K
        try simp only [c47a5, Act.put]
        refine wpAnyH_done (by kernel_rfl) ?_ _
        refine hKR _ _ ?_
        exact HFIN.out _ _ _ hHeld (hA.set 0 _) (own_grown hO4 (grown_setCell 0 _) (fun k e => by cases e; omega)) rfl
theorem nextRow_any (w : World) (v : Value) (l : List (List UInt8)) (hv : Digs w w.heap.size v l) (hq : l.length ≤ 100000) (hT : Tab w) (h0 : 0 < w.heap.size) :
    Calls Tryd.prog 47 #[v] w fun e w' => ∃ v', e = .returned v' ∧ Digs w' w'.heap.size v' (nexts l) ∧ Below w.heap.size w w' := by
  have h32 := hv.1
  refine (nextRow_own w v l hv hq hT h0).mono ?_
  rintro e w' ⟨v', rfl, h1, h2⟩
  exact ⟨v', rfl, own_digs' h1 rfl (nexts_32 l h32), h2⟩
end Go.Proofs.YtfmngeemhfpeiaaDoor
