/- merkle's reference: Climb where it refuses. -/
import Derived.Test.YtfmngeemhfpeiaaDoorRle
namespace Go.Proofs.YtfmngeemhfpeiaaDoor
open Go.RowKit

set_option maxRecDepth 100000 in
set_option maxHeartbeats 4000000 in
theorem rclimb_arg (w : World) (n i : Int) (v u : Value) (h : leafOk n i = false) :
    Calls Tryd.prog 24 #[.int .i64 n, .int .i64 i, v, u] w fun e w' => e = .returned (.tuple #[.agg (cells8 z32).toArray, .int .i64 1]) ∧ Below w.heap.size w w' := by
  have HZ : Hid ((Tryd.prog.info? 30).map (·.size) = some (cells8 z32).length) := Lib.hid (by rw [cells8_len]; exact Tryd.info30)
  have HO : Hid (∀ v ∈ cells8 z32, v.oneCell' = true) := Lib.hid (one_cells8 _)
  unfold leafOk at h
  by_cases h1 : 65536 < n
  · have k1 : decide (n > 65536) = true := by simpa using h1
    have k2 : decide ((65536 : Int) < n) = true := by simpa using h1
    clear h h1
    go_enter Tryd.func24, Tryd.ntmps24
    go_wp2_with (first
      | (refine wpList_world (fun W => Below w.heap.size w W ∧ Arr W w.heap.size (cells8 z32) ∧ w.heap.size < W.heap.size) ⟨by go_grown, Arr.new w (Array.replicate 32 (.int .u8 0)) 30, by simp⟩ ?_; rintro W0 ⟨hB0, hD0, hz0⟩)
      | (refine store_new rfl 30 _ _ (by rfl) w.heap.size w.heap.size (cells8 z32) _ (by rfl) (by rfl) hB0 (Nat.le_refl _) hD0 rfl HZ.out HO.out ?_; intro W7 hB7 hA7 hz7; have HB7 := Lib.hid hB7; have HA7 := Lib.hid hA7; clear hB7 hA7))
    refine bodyPost_ret (results_cell_tmp rfl _ _ w.heap.size (cells8 z32) _ (.int .i64 1) rfl rfl HA7.out.at_ Tryd.underlying30 rfl HZ.out) rfl ?_
    exact ⟨rfl, HB7.out⟩
  have k1 : decide (n > 65536) = false := by simpa using h1
  have k2 : decide ((65536 : Int) < n) = false := by simpa using h1
  by_cases h2 : i < 0
  · have q1 : decide (i < 0) = true := by simpa using h2
    clear h h1 h2
    go_enter Tryd.func24, Tryd.ntmps24
    go_wp2_with (first
      | (refine wpList_world (fun W => Below w.heap.size w W ∧ Arr W w.heap.size (cells8 z32) ∧ w.heap.size < W.heap.size) ⟨by go_grown, Arr.new w (Array.replicate 32 (.int .u8 0)) 30, by simp⟩ ?_; rintro W0 ⟨hB0, hD0, hz0⟩)
      | (refine store_new rfl 30 _ _ (by rfl) w.heap.size w.heap.size (cells8 z32) _ (by rfl) (by rfl) hB0 (Nat.le_refl _) hD0 rfl HZ.out HO.out ?_; intro W7 hB7 hA7 hz7; have HB7 := Lib.hid hB7; have HA7 := Lib.hid hA7; clear hB7 hA7))
    refine bodyPost_ret (results_cell_tmp rfl _ _ w.heap.size (cells8 z32) _ (.int .i64 1) rfl rfl HA7.out.at_ Tryd.underlying30 rfl HZ.out) rfl ?_
    exact ⟨rfl, HB7.out⟩
  have q1 : decide (i < 0) = false := by simpa using h2
  have q2 : n ≤ i := by
    simp only [Bool.and_eq_false_iff, decide_eq_false_iff_not] at h
    omega
  have q3 : decide (i ≥ n) = true := by simpa using q2
  have q4 : decide (n ≤ i) = true := by simpa using q2
  clear h h1 h2
  go_enter Tryd.func24, Tryd.ntmps24
  go_wp2_with (first
    | (refine wpList_world (fun W => Below w.heap.size w W ∧ Arr W w.heap.size (cells8 z32) ∧ w.heap.size < W.heap.size) ⟨by go_grown, Arr.new w (Array.replicate 32 (.int .u8 0)) 30, by simp⟩ ?_; rintro W0 ⟨hB0, hD0, hz0⟩)
    | (refine store_new rfl 30 _ _ (by rfl) w.heap.size w.heap.size (cells8 z32) _ (by rfl) (by rfl) hB0 (Nat.le_refl _) hD0 rfl HZ.out HO.out ?_; intro W7 hB7 hA7 hz7; have HB7 := Lib.hid hB7; have HA7 := Lib.hid hA7; clear hB7 hA7))
  refine bodyPost_ret (results_cell_tmp rfl _ _ w.heap.size (cells8 z32) _ (.int .i64 1) rfl rfl HA7.out.at_ Tryd.underlying30 rfl HZ.out) rfl ?_
  exact ⟨rfl, HB7.out⟩

set_option maxRecDepth 100000 in
set_option maxHeartbeats 4000000 in
theorem rclimb_path (w : World) (i m P : Nat) (v u : Value) (hu : ∃ a c, u = .slice a P c) (him : i < m) (hm : m ≤ 65536) (h : P ≠ mlen i m) :
    Calls Tryd.prog 24 #[.int .i64 m, .int .i64 i, v, u] w fun e w' => e = .returned (.tuple #[.agg (cells8 z32).toArray, .int .i64 70]) ∧ Below w.heap.size w w' := by
  obtain ⟨pa, pc, rfl⟩ := hu
  have HZ : Hid ((Tryd.prog.info? 30).map (·.size) = some (cells8 z32).length) := Lib.hid (by rw [cells8_len]; exact Tryd.info30)
  have HO : Hid (∀ v ∈ cells8 z32, v.oneCell' = true) := Lib.hid (one_cells8 _)
  have HPL := Lib.hid (fun W : World => rlength_any W m i him hm)
  obtain ⟨M, hM⟩ : ∃ M, mlen i m = M := ⟨_, rfl⟩
  rw [hM] at HPL h
  have hPd : decide ((P : Int) = (M : Int)) = false := by simp; omega
  have hPe : ((P : Int) == (M : Int)) = false := by simp; omega
  have hPf : ((P : Int) != (M : Int)) = true := by simp; omega
  have hPg : ¬ (P : Int) = (M : Int) := by omega
  have k1 : decide ((m : Int) > 65536) = false := by simp; omega
  have k2 : decide ((65536 : Int) < (m : Int)) = false := by simp; omega
  have k3 : decide (65536 < m) = false := by simp; omega
  have q1 : decide ((i : Int) < 0) = false := by simp
  have q3 : decide ((i : Int) ≥ (m : Int)) = false := by simp; omega
  have q4 : decide ((m : Int) ≤ (i : Int)) = false := by simp; omega
  have q5 : decide (m ≤ i) = false := by simp; omega
  clear h hM
  go_enter Tryd.func24, Tryd.ntmps24
  go_wp2_with (refine wpList_world (fun W => Below w.heap.size w W ∧ Arr W w.heap.size (cells8 z32) ∧ w.heap.size < W.heap.size) ⟨by go_grown, Arr.new w (Array.replicate 32 (.int .u8 0)) 30, by simp⟩ ?_; rintro W0 ⟨hB0, hD0, hz0⟩)
  refine (HPL.out _).mono ?_
  rintro e w1 ⟨rfl, rfl⟩
  go_wp2_with (refine store_new rfl 30 _ _ (by rfl) w.heap.size w.heap.size (cells8 z32) _ (by rfl) (by rfl) hB0 (Nat.le_refl _) hD0 rfl HZ.out HO.out ?_; intro W7 hB7 hA7 hz7; have HB7 := Lib.hid hB7; have HA7 := Lib.hid hA7; clear hB7 hA7)
  refine bodyPost_ret (results_cell_tmp rfl _ _ w.heap.size (cells8 z32) _ (.int .i64 70) rfl rfl HA7.out.at_ Tryd.underlying30 rfl HZ.out) rfl ?_
  exact ⟨rfl, HB7.out⟩
end Go.Proofs.YtfmngeemhfpeiaaDoor
