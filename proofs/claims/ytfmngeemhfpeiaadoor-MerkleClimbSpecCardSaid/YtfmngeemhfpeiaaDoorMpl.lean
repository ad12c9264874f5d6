/- merkle: how many digests a path has (pathLength). -/
import Derived.Test.YtfmngeemhfpeiaaDoorMit
namespace Go.Proofs.YtfmngeemhfpeiaaDoor
open Go.RowKit Go.Shelf
attribute [local go_sem] Oper.semAt_some

theorem Arr.own {W W' : World} {b : Nat} {cs : List Value} {row : Option Nat} (h : Arr W b cs) (hg : W.grownBy W' row) (hr : ∀ r, row = some r → ∃ o : Obj, W.heap[r]? = some o ∧ o.isCells = false) : Arr W' b cs :=
  ⟨fun j v hv => cell_kept (h.at_ j v hv) hg hr, fun i hi => ⟨by
    rw [cell_kept (h.at_ i cs[i] (List.getElem?_eq_getElem hi)) hg hr]; exact rfl, (frozen_kept (h.at_ i cs[i] (List.getElem?_eq_getElem hi)) hg hr).trans (h.there i hi).2⟩⟩
/-- How many digests of a path are used up before the row k. -/
def mcnt (i m : Nat) : Nat → Nat
  | 0 => 0
  | k + 1 => mcnt i m k + (if alone (mpos i k) (msz m k) then 0 else 1)
/-- How many digests the path of i has. -/
def mlen (i m : Nat) : Nat := mcnt i m (mrows m)
theorem mcnt_le (i m : Nat) : ∀ k, mcnt i m k ≤ k
  | 0 => Nat.le_refl 0
  | k + 1 => by have := mcnt_le i m k; unfold mcnt; split <;> omega
theorem mcnt_mono (i m : Nat) {k : Nat} : ∀ {j : Nat}, k ≤ j → mcnt i m k ≤ mcnt i m j
  | 0, h => by rw [Nat.le_zero.1 h]; exact Nat.le_refl _
  | j + 1, h => by
    by_cases e : k = j + 1
    · rw [e]; exact Nat.le_refl _
    · have := mcnt_mono i m (show k ≤ j by omega)
      show _ ≤ mcnt i m j + _
      omega

set_option maxRecDepth 100000 in
set_option maxHeartbeats 4000000 in
theorem pathLength_any (w : World) (i m : Nat) (hm1 : 1 ≤ m) (hm : m ≤ 1000000) (him : i < m) :
    Calls Tryd.prog 51 #[.int .i64 m, .int .i64 i] w fun e w' => e = .returned (.int .i64 (mlen i m)) ∧ Below w.heap.size w w' := by
  refine (callsIn_wide (n := 9)).1 ?_
  refine callsIn_of_wp_marks Tryd.func51 rfl trivial ?_ rfl
  simp only [Tryd.ntmps51, List.size_toArray, List.length_cons, List.length_nil, Nat.reduceAdd, Nat.reduceSub, Array.replicate_succ, Array.replicate_zero, List.push_toArray, List.append_toArray, List.nil_append, List.cons_append]
  gi_wp2_with fail
  refine ⟨trivial, ?_⟩
  refine (callsIn_wide.2 (steps_any _ i m)).mono ?_
  rintro e w2 ⟨rfl, hi2, hn2, hb2, hz2⟩
  have hz1 : (w.alloc (Obj.cells #[.int .i64 0] 3)).heap.size = w.heap.size + 1 := by simp
  rw [hz1] at hi2 hn2 hz2 hb2
  have HA := Lib.hid (((Arr.new w #[.int .i64 0] 3)).below hb2 (by omega))
  have HB := Lib.hid (((Below.refl w.heap.size w).alloc (Nat.le_refl _) (Obj.cells #[.int .i64 0] 3)).trans (hb2.mono (by omega)))
  have HI2 := Lib.hid hi2
  have HN2 := Lib.hid hn2
  clear hb2 hi2 hn2 hz1
  gi_wp2_with fail
  have hw2 : w.heap.size < w2.heap.size := by omega
  refine range_in_turn (n := 9) rfl (enters_of Tryd.func74 (by kernel_rfl) rfl) (steps_turn 8 (by omega) (w.heap.size + 1 + 1) (w.heap.size + 1) i m hm1 hm him w2 (by omega) (by omega) HI2.out HN2.out) (Below.refl _ _) (fun _ => rfl)
    (fun k W => Below w.heap.size w W ∧ w2.heap.size ≤ W.heap.size ∧ Arr W w.heap.size [.int .i64 (mcnt i m k)]) (fun _ _ => False)
    (by
      rintro k W W' row ⟨k1, k2, k3⟩ hg hr
      exact ⟨k1.grown hg k1.size (fun k e => by have := (hr k e).1; omega), Nat.le_trans k2 hg.size, k3.own hg (fun r e => (hr r e).2)⟩)
    (by rintro _ _ _ _ h; exact absurd h id)
    ⟨HB.out, Nat.le_refl _, HA.out⟩
    (fun k a' W => ∃ g', a' = { tmps := #[.int .i64 m, .int .i64 i, undef, undef, .pointer (some ⟨w.heap.size, 0, none⟩), .pointer (some ⟨g', 0, none⟩), .int .i64 m, .int .i64 i, .func (.func 74) #[] #[.pointer (some ⟨w.heap.size + 1 + 1, 0, none⟩), .pointer (some ⟨w.heap.size + 1, 0, none⟩)], .agg #[.int .i64 (mpos i k), .int .i64 (msz m k)], undef, undef, undef, undef, undef, undef], defers := [] } ∧ Arr W g' [.int .i64 (mpos i k), .int .i64 (msz m k)])
    ?hax ?assign ?body ?done ?stop
  case hax =>
    rintro k a' u W W' row ⟨g', h1, h2⟩ hg hr
    exact ⟨g', h1, h2.own hg (fun r e => (hr r e).2)⟩
  case assign =>
    intro lp k W K hk hI hK
    have HKK := Lib.hid hK
    have HI := Lib.hid hI
    clear hI hK
    unfold stpV
    gi_wp2
    have hsz := HI.out.1.size
    exact HKK.out _ _ ((KeepsOthers.alloc W _).from _) ⟨HI.out.1.alloc hsz _, by have := HI.out.2.1; simp; omega, HI.out.2.2.alloc (HI.out.2.2.lt (by simp)) _⟩ ⟨W.heap.size, rfl, Arr.new W #[.int .i64 (mpos i k), .int .i64 (msz m k)] 65⟩
  case body =>
    rintro lp k a' W hk ⟨h1, h2, h3⟩ ⟨g', rfl, h4⟩ hsW
    have g0 : W.cell? ⟨g', 0, none⟩ = some (.int .i64 (mpos i k)) := h4.cell rfl
    have g1 : W.cell? ⟨g', 1, none⟩ = some (.int .i64 (msz m k)) := h4.cell rfl
    have hple := mpos_le i k
    have hcle := mcnt_le i m k
    have hrl : mrows m ≤ 20 := mrows_le 20 m (by omega)
    have hcn : mcnt i m (k + 1) = mcnt i m k + (if alone (mpos i k) (msz m k) then 0 else 1) := rfl
    have HAL := Lib.hid (alone_any W (mpos i k) (msz m k) (by omega))
    obtain ⟨B, hB⟩ : ∃ B, alone (mpos i k) (msz m k) = B := ⟨_, rfl⟩
    rw [hB] at hcn HAL
    obtain ⟨c1, hc1⟩ : ∃ c, mcnt i m (k + 1) = c := ⟨_, rfl⟩
    obtain ⟨c0, hc0⟩ : ∃ c, mcnt i m k = c := ⟨_, rfl⟩
    rw [hc1, hc0] at hcn
    rw [hc0] at h3 hcle
    rw [hc1]
    have H1 := Lib.hid h1
    have H3 := Lib.hid h3
    have HCN := Lib.hid hcn
    clear h1 h3 h4 hB hcn hc1 hc0
    gi_wp2_with fail
    refine ⟨trivial, ?_⟩
    refine ((callsIn_wide.2 HAL.out).inRound lp).mono ?_
    rintro e W1 ⟨rfl, hb1⟩
    have hs1 := hb1.size
    have H11 := Lib.hid (H1.out.trans (hb1.mono H1.out.size))
    have H31 := Lib.hid (H3.out.below hb1 (by omega))
    have HK1 := Lib.hid (KK.of (B := w2.heap.size) hb1)
    clear hb1 g0 g1
    have cc0 : W1.cell? ⟨w.heap.size, 0, none⟩ = some (.int .i64 c0) := H31.out.cell rfl
    have f0 : W1.frozen? ⟨w.heap.size, 0, none⟩ = false := H31.out.frozen (by simp)
    have iw : IntKind.i64.wrap ((c0 : Int) + 1) = (c0 : Int) + 1 := by rw [IntKind.wrap_i64]; omega
    cases B with
    | true =>
      gi_wp2_with fail
      exact ⟨HK1.out, trivial, H11.out, by omega, by rw [HCN.out]; exact H31.out⟩
    | false =>
      gi_wp2_with fail
      refine ⟨HK1.out.trans ((KeepsOthers.setCell _ _ _).from _), trivial, H11.out.setCell (Nat.le_refl _) _, by simp; omega, ?_⟩
      rw [HCN.out]
      exact H31.out.set 0 _
  case stop => intro D c W _ hf; exact absurd hf id
  case done =>
    rintro D W hD ⟨h1, h2, h3⟩ hK
    have hDW : D < W.heap.size := (Array.getElem?_eq_some_iff.1 hK).1
    have c0 : W.cell? ⟨w.heap.size, 0, none⟩ = some (.int .i64 (mcnt i m (mrows m))) := h3.cell rfl
    have f0 : W.frozen? ⟨w.heap.size, 0, none⟩ = false := h3.frozen (by simp)
    have h4 := h3.set 0 (.int .i64 (mcnt i m (mrows m)))
    obtain ⟨WF, hWF⟩ : ∃ WF, W.setCell ⟨w.heap.size, 0, none⟩ (.int .i64 (mcnt i m (mrows m))) = WF := ⟨_, rfl⟩
    have hKF : WF.heap[D]? = some (.deferred (some [])) := by rw [← hWF]; exact (KeepsOthers.setCell _ _ _).same D _ hK rfl
    have hBF : Below w.heap.size w WF := by rw [← hWF]; exact h1.setCell (Nat.le_refl _) _
    rw [hWF] at h4
    have hPF : Below w2.heap.size WF (WF.putObj D (.deferred none)) := (Below.refl _ WF).grown (grownBy_putObj' WF D _) (by rw [← hWF]; simp; omega) (fun k e => by cases e; omega)
    have q : (WF.putObj D (.deferred none)).cell? ⟨w.heap.size, 0, none⟩ = some (.int .i64 (mlen i m)) := (hPF.cell (p := ⟨w.heap.size, 0, none⟩) (by show w.heap.size < _; omega)).trans (h4.cell rfl)
    have HWF := Lib.hid hWF
    have HKF := Lib.hid hKF
    have HQ := Lib.hid q
    have HBP := Lib.hid (hBF.trans (hPF.mono (by omega)))
    clear hWF hKF hBF hPF q hK h1 h3 h4
    gi_wp2_with fail
    rw [HWF.out]
    have q := HQ.out
    refine ⟨by simp, .inl ⟨_, _, rfl, run_takeDeferred HKF.out, ?_⟩⟩
    exact ⟨.int .i64 (mlen i m), by simp [results, Tryd.results51, go_sem, q], rfl, HBP.out⟩
end Go.Proofs.YtfmngeemhfpeiaaDoor
