/- merkle's reference: Climb. -/
import Derived.Test.YtfmngeemhfpeiaaDoorRwa
namespace Go.Proofs.YtfmngeemhfpeiaaDoor
open Go.RowKit

set_option maxRecDepth 100000 in
set_option maxHeartbeats 4000000 in
theorem rclimb_ok (w : World) (i m : Nat) (v u : Value) (b : List UInt8) (p : List (List UInt8)) (hv : BytesAt w w.heap.size v b) (hb : b.length ≤ 800000) (hu : Digs w w.heap.size u p) (him : i < m) (hm : m ≤ 65536) (hpl : p.length = mlen i m) :
    Calls Tryd.prog 24 #[.int .i64 m, .int .i64 i, v, u] w fun e w' => e = .returned (.tuple #[.agg (cells8 (mclimb i m b p)).toArray, .int .i64 0]) ∧ Below w.heap.size w w' := by
  have HWY := Lib.hid (fun (W : World) (hW : Below w.heap.size w W) => rway_ok W i m v u b p ((hv.below hW).mono hW.size) hb (digs_at hu hW) him hm hpl)
  have HPL := Lib.hid (fun W : World => rlength_any W m i him hm)
  obtain ⟨va, L, vc, rfl⟩ : ∃ a n c, v = .slice a n c := by obtain ⟨a, c, e, _⟩ := hv; exact ⟨a, _, c, e⟩
  obtain ⟨pa, pc, rfl⟩ : ∃ a c, u = .slice a p.length c := by obtain ⟨_, a, c, e, _⟩ := hu; exact ⟨a, c, e⟩
  rw [hpl] at HWY ⊢
  have hcl : (cells8 (mclimb i m b p)).length = 32 := by rw [cells8_len]; exact mst_len i m (sha_len _) p _
  have ho1 := one_cells8 (mclimb i m b p)
  have HMC : Hid (mst i m (sha (leafT b)) p (mrows m) = mclimb i m b p) := Lib.hid rfl
  obtain ⟨M, hM⟩ : ∃ M, mlen i m = M := ⟨_, rfl⟩
  rw [hM] at HWY HPL ⊢
  obtain ⟨R, hR⟩ : ∃ R, mrows m = R := ⟨_, rfl⟩
  have hR16 : R ≤ 16 := by rw [← hR]; exact mrows_le 16 m (by omega)
  rw [hR] at HWY HMC
  obtain ⟨cf, hcf⟩ : ∃ c, cells8 (mclimb i m b p) = c := ⟨_, rfl⟩
  rw [hcf] at hcl ho1 ⊢
  have HCF := Lib.hid hcf
  have HFL := Lib.hid hcl
  have HFO := Lib.hid ho1
  have HZF : Hid ((Tryd.prog.info? 30).map (·.size) = some cf.length) := Lib.hid (by rw [hcl]; exact Tryd.info30)
  have k1 : decide ((m : Int) > 65536) = false := by simp; omega
  have k2 : decide ((65536 : Int) < (m : Int)) = false := by simp; omega
  have k3 : decide (65536 < m) = false := by simp; omega
  have q1 : decide ((i : Int) < 0) = false := by simp
  have q3 : decide ((i : Int) ≥ (m : Int)) = false := by simp; omega
  have q4 : decide ((m : Int) ≤ (i : Int)) = false := by simp; omega
  have q5 : decide (m ≤ i) = false := by simp; omega
  clear hv hu hpl hM hR hcf hcl ho1
  go_enter Tryd.func24, Tryd.ntmps24
  go_wp2_with (refine wpList_world (fun W => Below w.heap.size w W ∧ Arr W w.heap.size (cells8 z32) ∧ w.heap.size < W.heap.size) ⟨by go_grown, Arr.new w (Array.replicate 32 (.int .u8 0)) 30, by simp⟩ ?_; rintro W0 ⟨hB0, hD0, hz0⟩)
  refine (HPL.out _).mono ?_
  rintro e w1 ⟨rfl, rfl⟩
  go_wp2_with fail
  refine (HWY.out _ hB0).mono ?_
  rintro e w2 ⟨vl, vt, rfl, hd2, _, hb2⟩
  have HB2 := Lib.hid (hB0.trans (hb2.mono hB0.size))
  have HA2 := Lib.hid (hD0.below hb2 hz0)
  obtain ⟨_, a2, c2, e2, _, _, hr⟩ := hd2
  rw [wayD_len] at e2
  subst e2
  obtain ⟨g2, off2, rfl, _, hr⟩ := hr.resolve_left (fun e => by have h := wayD_len i m b p R; rw [e] at h; simp at h)
  have hra := hr R (by rw [wayD_len]; omega)
  rw [wayD_get, HMC.out, HCF.out] at hra
  have HRA := Lib.hid hra
  obtain ⟨Q, hQ⟩ : ∃ Q, R + 1 = Q := ⟨_, rfl⟩
  have iwM : IntKind.i64.wrap ((Q : Int) - 1) = (R : Int) := by rw [IntKind.wrap_i64]; omega
  have hkM : (R : Int) < (Q : Int) := by omega
  rw [hQ]
  clear hr hra hb2 hB0 hD0 hQ
  go_wp2_with (first
    | (refine wpList_load_mid rfl 30 (.tmp 43) (by rfl) g2 (off2 + R * 32) (by rfl) cf _ HRA.out Tryd.underlying30 rfl HZF.out ?_)
    | (refine store_new rfl 30 _ _ (by rfl) w.heap.size w.heap.size cf _ (by rfl) (by rfl) HB2.out (Nat.le_refl _) HA2.out (by rw [HFL.out]; rfl) HZF.out HFO.out ?_; intro W7 hB7 hA7 hz7; have HB7 := Lib.hid hB7; have HA7 := Lib.hid hA7; clear hB7 hA7))
  refine bodyPost_ret (results_cell_tmp rfl _ _ w.heap.size cf _ (.int .i64 0) rfl rfl HA7.out.at_ Tryd.underlying30 rfl HZF.out) rfl ?_
  exact ⟨rfl, HB7.out⟩
theorem rclimb_any (w : World) (n i : Int) (v u : Value) (b : List UInt8) (p : List (List UInt8)) (hv : BytesAt w w.heap.size v b) (hb : b.length ≤ 800000) (hu : Digs w w.heap.size u p) :
    Calls Tryd.prog 24 #[.int .i64 n, .int .i64 i, v, u] w fun e w' => e = .returned (.tuple #[.agg (cells8 (climbR n i b p).1).toArray, .int .i64 (climbR n i b p).2]) ∧ Below w.heap.size w w' := by
  unfold climbR
  by_cases h : leafOk n i = false
  · rw [if_pos h]
    exact rclimb_arg w n i v u h
  · rw [if_neg h]
    have h2 : leafOk n i = true := by simpa using h
    unfold leafOk at h2
    simp only [Bool.and_eq_true, decide_eq_true_eq] at h2
    obtain ⟨h3, h4, h5⟩ := h2
    obtain ⟨m, rfl⟩ := Int.eq_ofNat_of_zero_le (show 0 ≤ n by omega)
    obtain ⟨j, rfl⟩ := Int.eq_ofNat_of_zero_le h4
    rw [show (j : Int).toNat = j from rfl, show (m : Int).toNat = m from rfl]
    by_cases hl : p.length ≠ mlen j m
    · rw [if_pos hl]
      exact rclimb_path w j m p.length v u (by obtain ⟨_, a, c, e, _⟩ := hu; exact ⟨a, c, e⟩) (by omega) (by omega) hl
    · rw [if_neg hl]
      exact rclimb_ok w j m v u b p hv hb hu (by omega) (by omega) (by simpa using hl)
end Go.Proofs.YtfmngeemhfpeiaaDoor
