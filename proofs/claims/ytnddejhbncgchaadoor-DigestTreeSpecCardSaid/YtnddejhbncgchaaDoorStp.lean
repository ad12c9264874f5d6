/- The law's own counting of steps; digest.Climb where there is no such list. -/
import Derived.Test.YtnddejhbncgchaaDoorPth
import Derived.LoopTactic
import Derived.Deep.DeepCutAuto
namespace Go.Proofs.YtnddejhbncgchaaDoor
open Go.RowKit

/-- The power of two that is less than n and not less than its half is the first part. -/
theorem spl_eq (n k j : Nat) (hk : k = 2 ^ j) (h1 : 1 < n) (hn : n ≤ 1099511627776) (h2 : k < n) (h3 : n ≤ 2 * k) : spl n = k := by
  obtain ⟨a, b, c, _⟩ := spl_bound n h1 hn
  obtain ⟨i, hi⟩ : ∃ i, spl n = 2 ^ i := ⟨_, rfl⟩
  rw [hi] at a b c ⊢
  rw [hk] at h2 h3 ⊢
  rcases Nat.lt_trichotomy i j with h | h | h
  · have := Nat.pow_le_pow_right (show 0 < 2 by omega) (show i + 1 ≤ j by omega)
    rw [Nat.pow_succ] at this; omega
  · rw [h]
  · have := Nat.pow_le_pow_right (show 0 < 2 by omega) (show j + 1 ≤ i by omega)
    rw [Nat.pow_succ] at this; omega
theorem psteps_pow : ∀ (j a n : Nat), n ≤ 2 ^ j → n ≤ 1099511627776 → psteps a n ≤ j
  | 0, a, n, h, _ => by rw [psteps_one a n (by simpa using h)]; omega
  | j + 1, a, n, h, hn => by
    by_cases h1 : n ≤ 1
    · rw [psteps_one a n h1]; omega
    · obtain ⟨p, q, r, _⟩ := spl_bound n (by omega) hn
      obtain ⟨i, hi⟩ : ∃ i, spl n = 2 ^ i := ⟨_, rfl⟩
      have hij : spl n ≤ 2 ^ j := by
        rcases Nat.lt_or_ge i (j + 1) with hlt | hge
        · rw [hi]; exact Nat.pow_le_pow_right (by omega) (by omega)
        · have := Nat.pow_le_pow_right (show 0 < 2 by omega) hge
          omega
      by_cases ha : a < spl n
      · rw [psteps_lt a n (by omega) hn ha]
        have := psteps_pow j a (spl n) hij (by omega)
        omega
      · rw [psteps_ge a n (by omega) hn ha]
        have := psteps_pow j (a - spl n) (n - spl n) (by omega) (by omega)
        omega

set_option maxRecDepth 100000 in
set_option maxHeartbeats 2000000 in
theorem steps_any (at_ n : Nat) (h0 : 0 < n) (hn : n ≤ 1099511627776) (ha : at_ < n) (w : World) : Calls Tryd.prog 24 #[.int .i64 at_, .int .i64 n] w fun e w' => e = .returned (.int .i64 (psteps at_ n)) ∧ w' = w := by
  go_enter Tryd.func24, Tryd.ntmps24
  go_wp2
  go_loopw [0, 1, 5, 6] (fun a m k _ wr => wr = w ∧ ∃ (x y z : Nat), a = .int .i64 x ∧ m = .int .i64 y ∧ k = .int .i64 z ∧ x < y ∧ y ≤ n ∧ psteps at_ n = psteps x y + z) (fun _ m _ _ _ => (intOf m).toNat)
  case atStart => exact ⟨rfl, at_, n, 0, rfl, rfl, rfl, ha, Nat.le_refl _, rfl⟩
  case round =>
    obtain ⟨rfl, x, y, z, rfl, rfl, rfl, hxy, hyn, hp⟩ := hrel
    have HP := Lib.hid hp
    have hle := psteps_le at_ n hn
    have hz : z ≤ 1099511627776 := by omega
    clear hp hle
    obtain ⟨wo, hwo⟩ : ∃ wo : World, wo = wr := ⟨_, rfl⟩
    by_cases h1 : 1 < y
    · obtain ⟨b1, b2, b3, _⟩ := spl_bound y h1 (by omega)
      have d1 : decide ((1 : Int) < (y : Int)) = true := by simp; omega
      have HLT := Lib.hid (psteps_lt x y h1 (by omega))
      have HGE := Lib.hid (psteps_ge x y h1 (by omega))
      have HEQ := Lib.hid (fun k j hk => spl_eq y k j hk h1 (by omega))
      clear b1 b2 b3
      go_wp2
      go_loop [6] (fun c => ∃ (k j : Nat), c = .int .i64 k ∧ k = 2 ^ j ∧ k < y) (fun c => y - (intOf c).toNat)
      case atStart => exact ⟨1, 0, rfl, rfl, h1⟩
      case round =>
        obtain ⟨k, j, rfl, hkj, hky⟩ := hrel
        have HKJ := Lib.hid hkj
        have hk0 : 0 < k := by rw [hkj]; exact Nat.two_pow_pos j
        clear hkj
        by_cases h2 : 2 * k < y
        · have d2 : decide (2 * (k : Int) < (y : Int)) = true := by simp; omega
          have h2' : 2 * (k : Int) < (y : Int) := by omega
          go_wp2
          go_round
          case rel => exact ⟨k * 2, j + 1, by simp, by rw [Nat.pow_succ, ← HKJ.out], by omega⟩
          case measure => simp [intOf]; omega
        · have hsp : spl y = k := HEQ.out k j HKJ.out hky (by omega)
          have HLT2 := Lib.hid HLT.out
          rw [hsp] at HLT2
          have HGE2 := Lib.hid HGE.out
          rw [hsp] at HGE2
          clear hsp
          have d2 : decide (2 * (k : Int) < (y : Int)) = false := by simp; omega
          have h2' : ¬ 2 * (k : Int) < (y : Int) := by omega
          by_cases hx : x < k
          · have d3 : decide (x < k) = true := by simpa using hx
            go_wp2
            go_roundw
            case rel => exact ⟨by simp, x, k, z + 1, rfl, rfl, by simp, hx, by omega, by rw [HP.out, HLT2.out hx]; omega⟩
            case measure => simp [intOf]; omega
          · have d3 : decide (x < k) = false := by simpa using hx
            have e1 : (x : Int) - (k : Int) = ((x - k : Nat) : Int) := by omega
            have e2 : (y : Int) - (k : Int) = ((y - k : Nat) : Int) := by omega
            go_wp2
            go_roundw
            case rel => exact ⟨by simp, x - k, y - k, z + 1, by first | rfl | (congr 1), by first | rfl | (congr 1), by simp, by omega, by omega, by rw [HP.out, HGE2.out hx]; omega⟩
            case measure => simp [intOf]; omega
    · have hy : y = 1 := by omega
      subst hy
      have hz2 : psteps at_ n = z := by rw [HP.out, psteps_one x 1 (Nat.le_refl _)]; omega
      go_wp2
      go_ret
      exact ⟨ret_int (by rw [hz2]), rfl⟩

set_option maxRecDepth 100000 in
set_option maxHeartbeats 2000000 in
/-- Climb where there is no such list, or no such element. -/
theorem climb_no (w : World) (d : List UInt8) (hd : d.length = 32) (i n : Int) (m cap : Nat) (a : Option Addr) (h : n < 1 ∨ 1099511627776 < n ∨ i < 0 ∨ n ≤ i) (_hmc : m ≤ 1000000000) :
    Calls Tryd.prog 22 #[dv d, .int .i64 i, .int .i64 n, .slice a m cap] w fun e w' => e = .returned (.tuple #[dv z32, .int .i64 1]) ∧ Below w.heap.size w w' := by
  obtain ⟨cx, hcx⟩ : ∃ cx, cells8 d = cx := ⟨_, rfl⟩
  have hlx : cx.length = 32 := by rw [← hcx, cells8_len, hd]
  rw [show dv d = .agg cx.toArray by rw [dv_eq, hcx]]
  have HZ1 : Hid ((Tryd.prog.info? 26).map (·.size) = some (cells8 z32).length) := Tryd.info26
  clear hlx hcx hd
  by_cases h1 : n < 1
  · have d1 : decide (n < 1) = true := by simpa using h1
    clear h
    go_enter Tryd.func22, Tryd.ntmps22
    go_wp2_with (first
      | (refine wpList_world (fun W => Below w.heap.size w W ∧ W.rangeAt w.heap.size 0 cx ∧ Arr W (w.heap.size + 1) (cells8 (List.replicate 32 0)) ∧ w.heap.size + 1 < W.heap.size) ⟨by go_grown, box_a w cx, box_b w cx, by simp⟩ ?_
         rintro W0 ⟨hB0, hX0, hD0, hz0⟩
         have HB0 := Lib.hid hB0
         have HD0 := Lib.hid hD0
         clear hB0 hX0 hD0)
      | (refine store_new rfl 26 _ _ (by rfl) w.heap.size (w.heap.size + 1) (cells8 z32) _ (by rfl) (by rfl) HB0.out (by omega) HD0.out rfl HZ1.out (one_cells8 _) ?_; intro W7 hB7 hA7 hz7))
    refine bodyPost_ret (results_cell_tmp2 rfl _ _ _ _ _ rfl hA7.at_ Tryd.underlying26 rfl HZ1.out (.int .i64 1) rfl) rfl ?_
    exact ⟨by rw [dv_eq], hB7⟩
  · have d1 : decide (n < 1) = false := by simpa using h1
    by_cases h2 : 1099511627776 < n
    · have d2 : decide (1099511627776 < n) = true := by simpa using h2
      clear h
      go_enter Tryd.func22, Tryd.ntmps22
      go_wp2_with (first
        | (refine wpList_world (fun W => Below w.heap.size w W ∧ W.rangeAt w.heap.size 0 cx ∧ Arr W (w.heap.size + 1) (cells8 (List.replicate 32 0)) ∧ w.heap.size + 1 < W.heap.size) ⟨by go_grown, box_a w cx, box_b w cx, by simp⟩ ?_
           rintro W0 ⟨hB0, hX0, hD0, hz0⟩
           have HB0 := Lib.hid hB0
           have HD0 := Lib.hid hD0
           clear hB0 hX0 hD0)
        | (refine store_new rfl 26 _ _ (by rfl) w.heap.size (w.heap.size + 1) (cells8 z32) _ (by rfl) (by rfl) HB0.out (by omega) HD0.out rfl HZ1.out (one_cells8 _) ?_; intro W7 hB7 hA7 hz7))
      refine bodyPost_ret (results_cell_tmp2 rfl _ _ _ _ _ rfl hA7.at_ Tryd.underlying26 rfl HZ1.out (.int .i64 1) rfl) rfl ?_
      exact ⟨by rw [dv_eq], hB7⟩
    · have d2 : decide (1099511627776 < n) = false := by simpa using h2
      by_cases h3 : i < 0
      · have d3 : decide (i < 0) = true := by simpa using h3
        clear h
        go_enter Tryd.func22, Tryd.ntmps22
        go_wp2_with (first
          | (refine wpList_world (fun W => Below w.heap.size w W ∧ W.rangeAt w.heap.size 0 cx ∧ Arr W (w.heap.size + 1) (cells8 (List.replicate 32 0)) ∧ w.heap.size + 1 < W.heap.size) ⟨by go_grown, box_a w cx, box_b w cx, by simp⟩ ?_
             rintro W0 ⟨hB0, hX0, hD0, hz0⟩
             have HB0 := Lib.hid hB0
             have HD0 := Lib.hid hD0
             clear hB0 hX0 hD0)
          | (refine store_new rfl 26 _ _ (by rfl) w.heap.size (w.heap.size + 1) (cells8 z32) _ (by rfl) (by rfl) HB0.out (by omega) HD0.out rfl HZ1.out (one_cells8 _) ?_; intro W7 hB7 hA7 hz7))
        refine bodyPost_ret (results_cell_tmp2 rfl _ _ _ _ _ rfl hA7.at_ Tryd.underlying26 rfl HZ1.out (.int .i64 1) rfl) rfl ?_
        exact ⟨by rw [dv_eq], hB7⟩
      · have d3 : decide (i < 0) = false := by simpa using h3
        have h4 : n ≤ i := by omega
        have d4 : decide (n ≤ i) = true := by simpa using h4
        clear h
        go_enter Tryd.func22, Tryd.ntmps22
        go_wp2_with (first
          | (refine wpList_world (fun W => Below w.heap.size w W ∧ W.rangeAt w.heap.size 0 cx ∧ Arr W (w.heap.size + 1) (cells8 (List.replicate 32 0)) ∧ w.heap.size + 1 < W.heap.size) ⟨by go_grown, box_a w cx, box_b w cx, by simp⟩ ?_
             rintro W0 ⟨hB0, hX0, hD0, hz0⟩
             have HB0 := Lib.hid hB0
             have HD0 := Lib.hid hD0
             clear hB0 hX0 hD0)
          | (refine store_new rfl 26 _ _ (by rfl) w.heap.size (w.heap.size + 1) (cells8 z32) _ (by rfl) (by rfl) HB0.out (by omega) HD0.out rfl HZ1.out (one_cells8 _) ?_; intro W7 hB7 hA7 hz7))
        refine bodyPost_ret (results_cell_tmp2 rfl _ _ _ _ _ rfl hA7.at_ Tryd.underlying26 rfl HZ1.out (.int .i64 1) rfl) rfl ?_
        exact ⟨by rw [dv_eq], hB7⟩
end Go.Proofs.YtnddejhbncgchaaDoor
