/- merkle: Climb, whatever is asked. -/
import Derived.Test.YtfmngeemhfpeiaaDoorMcm
namespace Go.Proofs.YtfmngeemhfpeiaaDoor
open Go.RowKit

def z32 : List UInt8 := List.replicate 32 0
/-- Is i a leaf of n leaves? -/
def leafOk (n i : Int) : Bool := decide (n ≤ 65536) && (decide (0 ≤ i) && decide (i < n))
def climbR (n i : Int) (b : List UInt8) (p : List (List UInt8)) : List UInt8 × Int :=
  if leafOk n i = false then (z32, 1) else if p.length ≠ mlen i.toNat n.toNat then (z32, 70) else (mclimb i.toNat n.toNat b p, 0)
theorem climbR_len (n i : Int) (b : List UInt8) (p : List (List UInt8)) : (climbR n i b p).1.length = 32 := by
  unfold climbR
  split
  · rfl
  · split
    · rfl
    · exact mst_len _ _ (sha_len _) _ _

set_option maxRecDepth 100000 in
set_option maxHeartbeats 4000000 in
theorem climb_arg (w : World) (n i : Int) (v u : Value) (hu : ∃ a k c, u = .slice a k c) (hv : ∃ a k c, v = .slice a k c) (h : leafOk n i = false) :
    Calls Tryd.prog 23 #[.int .i64 n, .int .i64 i, v, u] w fun e w' => e = .returned (.tuple #[.agg (cells8 z32).toArray, .int .i64 1]) ∧ Below w.heap.size w w' := by
  obtain ⟨pa, P, pc, rfl⟩ := hu
  obtain ⟨va, L, vc, rfl⟩ := hv
  have HLF : Hid (∀ W, Calls Tryd.prog 42 #[.int .i64 n, .int .i64 i] W fun e w' => e = .returned (.bool false) ∧ w' = W) := Lib.hid fun W => by
    have h2 := isLeaf_any W n i
    unfold leafOk at h
    rw [h] at h2
    exact h2
  clear h
  have z1 : (w.alloc (.cells #[.slice pa P pc] 25)).heap.size = w.heap.size + 1 := World.size_alloc _ _
  go_enter Tryd.func23, Tryd.ntmps23
  go_wp2_with (refine wpList_world (fun W => Below w.heap.size w W ∧ Arr W (w.heap.size + 1) (cells8 z32) ∧ w.heap.size + 2 ≤ W.heap.size) ⟨by go_grown, by have h := Arr.new (w.alloc (.cells #[.slice pa P pc] 25)) (Array.replicate 32 (.int .u8 0)) 30; rw [z1] at h; exact h, by simp⟩ ?_; rintro W0 ⟨hB0, hD0, hz0⟩)
  refine (HLF.out _).mono ?_
  rintro e w1 ⟨rfl, rfl⟩
  have HB0 := Lib.hid hB0
  have HD0 := Lib.hid hD0
  have HZ : Hid ((Tryd.prog.info? 30).map (·.size) = some (cells8 z32).length) := Lib.hid (by rw [cells8_len]; exact Tryd.info30)
  have HO : Hid (∀ v ∈ cells8 z32, v.oneCell' = true) := Lib.hid (one_cells8 _)
  have HC : Hid ((cells8 z32).length = 32) := Lib.hid (by rw [cells8_len]; rfl)
  clear hB0 hD0 z1
  go_wp2_with (refine store_new rfl 30 _ _ (by rfl) w.heap.size (w.heap.size + 1) (cells8 z32) _ (by rfl) (by rfl) HB0.out (by omega) HD0.out rfl HZ.out HO.out ?_; intro W7 hB7 hA7 hz7; have HB7 := Lib.hid hB7; have HA7 := Lib.hid hA7; clear hB7 hA7)
  refine bodyPost_ret (results_cell_tmp rfl _ _ (w.heap.size + 1) (cells8 z32) _ (.int .i64 1) rfl rfl HA7.out.at_ Tryd.underlying30 rfl HZ.out) rfl ?_
  exact ⟨rfl, HB7.out⟩

set_option maxRecDepth 100000 in
set_option maxHeartbeats 4000000 in
theorem climb_path (w : World) (i m P : Nat) (v u : Value) (hu : ∃ a c, u = .slice a P c) (hv : ∃ a k c, v = .slice a k c) (him : i < m) (hm : m ≤ 65536) (h : P ≠ mlen i m) :
    Calls Tryd.prog 23 #[.int .i64 m, .int .i64 i, v, u] w fun e w' => e = .returned (.tuple #[.agg (cells8 z32).toArray, .int .i64 70]) ∧ Below w.heap.size w w' := by
  obtain ⟨pa, pc, rfl⟩ := hu
  obtain ⟨va, L, vc, rfl⟩ := hv
  have HLF : Hid (∀ W, Calls Tryd.prog 42 #[.int .i64 m, .int .i64 i] W fun e w' => e = .returned (.bool true) ∧ w' = W) := Lib.hid fun W => by
    have h := isLeaf_any W m i
    rw [show (decide ((m : Int) ≤ 65536) && (decide (0 ≤ (i : Int)) && decide ((i : Int) < (m : Int)))) = true by simp; omega] at h
    exact h
  have HPL := Lib.hid (fun W : World => pathLength_any W i m (by omega) (by omega) him)
  obtain ⟨M, hM⟩ : ∃ M, mlen i m = M := ⟨_, rfl⟩
  rw [hM] at HPL h
  have hPd : decide ((P : Int) = (M : Int)) = false := by simp; omega
  have hPe : ((P : Int) == (M : Int)) = false := by simp; omega
  have hPf : ((P : Int) != (M : Int)) = true := by simp; omega
  have hPg : ¬ (P : Int) = (M : Int) := by omega
  clear h hM
  have z1 : (w.alloc (.cells #[.slice pa P pc] 25)).heap.size = w.heap.size + 1 := World.size_alloc _ _
  go_enter Tryd.func23, Tryd.ntmps23
  go_wp2_with (refine wpList_world (fun W => Below w.heap.size w W ∧ Arr W w.heap.size [.slice pa P pc] ∧ Arr W (w.heap.size + 1) (cells8 z32) ∧ w.heap.size + 2 ≤ W.heap.size) ⟨by go_grown, (Arr.new w #[.slice pa P pc] 25).alloc (by omega) _, by have h := Arr.new (w.alloc (.cells #[.slice pa P pc] 25)) (Array.replicate 32 (.int .u8 0)) 30; rw [z1] at h; exact h, by simp⟩ ?_; rintro W0 ⟨hB0, hA0, hD0, hz0⟩)
  refine (HLF.out _).mono ?_
  rintro e w1 ⟨rfl, rfl⟩
  have HB0 := Lib.hid hB0
  have HD0 := Lib.hid hD0
  have HZ : Hid ((Tryd.prog.info? 30).map (·.size) = some (cells8 z32).length) := Lib.hid (by rw [cells8_len]; exact Tryd.info30)
  have HO : Hid (∀ v ∈ cells8 z32, v.oneCell' = true) := Lib.hid (one_cells8 _)
  have HC : Hid ((cells8 z32).length = 32) := Lib.hid (by rw [cells8_len]; rfl)
  have P70 : Hid (∀ W, Kept w1 W → W.cell? ⟨w.heap.size, 0, none⟩ = some (.slice pa P pc)) := Lib.hid fun W hW => (hA0.below hW.below (by omega)).cell rfl
  clear hB0 hD0 hA0 z1
  go_upto_region 3 with fail
  refine wp_region_ends (fun W => Kept w1 W) (by kernel_rfl) (Kept.drew (Kept.refl w1)) (fun KR hKR hHeld => ?_)
  refine wpAnyH_take (i := 0) (oi := c23b0) (v := ?_) rfl (by kernel_rfl) (by kernel_rfl) (by kernel_rfl) (fun _ _ _ h => h) (Or.inl ⟨by rfl, ?_⟩) hHeld ?_
  rotate_left
  · (intro w hSw; have f1 := P70.out w hSw; unfold c23b0; go_simp <;> with_reducible rfl)
  try simp only [c23b0, Act.put, List.setIfInBounds_toArray, List.set_cons_zero, List.set_cons_succ]
  refine wpAnyH_take (i := 1) (oi := c23b1) (v := ?_) rfl (by kernel_rfl) (by kernel_rfl) (by kernel_rfl) (fun _ _ _ h => h) (Or.inl ⟨by rfl, ?_⟩) hHeld ?_
  rotate_left
  · (intro w hSw; (try dsimp only at hSw); unfold c23b1; go_simp <;> with_reducible rfl)
  try simp only [c23b1, Act.put, List.setIfInBounds_toArray, List.set_cons_zero, List.set_cons_succ]
  refine wpAnyH_take (i := 2) (oi := c23b2) (v := ?_) rfl (by kernel_rfl) (by kernel_rfl) (by kernel_rfl) (fun _ _ _ h => h) (Or.inl ⟨by rfl, ?_⟩) hHeld ?_
  rotate_left
  · (intro w hSw; (try dsimp only at hSw); unfold c23b2; go_simp <;> with_reducible rfl)
  try simp only [c23b2, Act.put, List.setIfInBounds_toArray, List.set_cons_zero, List.set_cons_succ]
  refine wpAnyH_take (i := 3) (oi := c23b3) (v := ?_) rfl (by kernel_rfl) (by kernel_rfl) (by kernel_rfl) (fun _ _ _ h => h) (Or.inl ⟨by rfl, ?_⟩) hHeld ?_
  rotate_left
  · (intro w hSw; (try dsimp only at hSw); unfold c23b3; go_simp <;> with_reducible rfl)
  try simp only [c23b3, Act.put, List.setIfInBounds_toArray, List.set_cons_zero, List.set_cons_succ]
  refine wpAnyH_ready (rs := [4]) (by kernel_rfl) (by simp) ?_
  refine AllReadyH.cons (o := c23b4) rfl (fun K hK => ?_) AllReadyH.nil
  rw [if_pos (by rfl)]
  unfold c23b4
  go_simp
  (with_reducible refine (HPL.out _).mono ?_)
  rintro e W1 ⟨rfl, hB1⟩
  have hS1 := hHeld.next hB1
  go_wp2_with fail
  refine hK.out _ _ hS1 (fun hHeld => ?_)
  clear hK K
  try simp only [c23b4, Act.put, List.setIfInBounds_toArray, List.set_cons_zero, List.set_cons_succ]
  refine wpAnyH_take (i := 5) (oi := c23b5) (v := ?_) rfl (by kernel_rfl) (by kernel_rfl) (by kernel_rfl) (fun _ _ _ h => h) (Or.inl ⟨by rfl, ?_⟩) hHeld ?_
  rotate_left
  · (intro w hSw; (try dsimp only at hSw); unfold c23b5; go_simp <;> with_reducible rfl)
  try simp only [c23b5, Act.put, List.setIfInBounds_toArray, List.set_cons_zero, List.set_cons_succ]
  refine wpAnyH_done (by kernel_rfl) ?_ _
  refine hKR _ _ ?_
  have HB1 := Lib.hid (HB0.out.trans (hHeld.below.mono (by omega)))
  have HD1 := Lib.hid (HD0.out.below hHeld.below (by omega))
  clear hHeld hS1 hB1 HB0 HD0 P70
  go_wp2_with (refine store_new rfl 30 _ _ (by rfl) w.heap.size (w.heap.size + 1) (cells8 z32) _ (by rfl) (by rfl) HB1.out (by omega) HD1.out rfl HZ.out HO.out ?_; intro W7 hB7 hA7 hz7; have HB7 := Lib.hid hB7; have HA7 := Lib.hid hA7; clear hB7 hA7)
  refine bodyPost_ret (results_cell_tmp rfl _ _ (w.heap.size + 1) (cells8 z32) _ (.int .i64 70) rfl rfl HA7.out.at_ Tryd.underlying30 rfl HZ.out) rfl ?_
  exact ⟨rfl, HB7.out⟩

theorem climb_any (w : World) (n i : Int) (v u : Value) (b : List UInt8) (p : List (List UInt8)) (hv : BytesAt w w.heap.size v b) (hb : b.length ≤ 80000000) (hu : Digs w w.heap.size u p) (hT : Tab w) (h0 : 0 < w.heap.size) :
    Calls Tryd.prog 23 #[.int .i64 n, .int .i64 i, v, u] w fun e w' => e = .returned (.tuple #[.agg (cells8 (climbR n i b p).1).toArray, .int .i64 (climbR n i b p).2]) ∧ Below w.heap.size w w' := by
  have hv' : ∃ a k c, v = .slice a k c := by obtain ⟨a, c, e, _⟩ := hv; exact ⟨a, _, c, e⟩
  have hu' : ∃ a c, u = .slice a p.length c := by obtain ⟨_, a, c, e, _⟩ := hu; exact ⟨a, c, e⟩
  unfold climbR
  by_cases h : leafOk n i = false
  · rw [if_pos h]
    exact climb_arg w n i v u (by obtain ⟨a, c, e⟩ := hu'; exact ⟨a, _, c, e⟩) hv' h
  · rw [if_neg h]
    have h2 : leafOk n i = true := by simpa using h
    unfold leafOk at h2
    simp only [Bool.and_eq_true, decide_eq_true_eq] at h2
    obtain ⟨h3, h4, h5⟩ := h2
    obtain ⟨m, rfl⟩ := Int.eq_ofNat_of_zero_le (show 0 ≤ n by omega)
    obtain ⟨j, rfl⟩ := Int.eq_ofNat_of_zero_le h4
    rw [show (j : Int).toNat = j from rfl, show (m : Int).toNat = m from rfl]
    by_cases hl : p.length ≠ mlen j m
    · rw [if_pos hl]
      exact climb_path w j m p.length v u hu' hv' (by omega) (by omega) hl
    · rw [if_neg hl]
      exact climb_ok w j m v u b p hv hb hu (by omega) (by omega) (by simpa using hl) hT h0
end Go.Proofs.YtfmngeemhfpeiaaDoor
