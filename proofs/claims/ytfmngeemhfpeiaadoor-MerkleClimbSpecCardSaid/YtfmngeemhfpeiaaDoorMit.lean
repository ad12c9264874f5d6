/- merkle: the rows of a way, and the iterator of its steps. -/
import Derived.Test.YtfmngeemhfpeiaaDoorRmr
import Derived.Test.YtfmngeemhfpeiaaDoorOrd
import Derived.RangeFuncNested
import Derived.RangeFuncBound
import Derived.RangeFuncCalls
import Derived.RangeFuncOwn
import Derived.Shelf.Abstract
import Derived.WalkKit
import Derived.OwnWalkIn
import Derived.TacticsInMore
import Derived.LoopNIn
import Derived.LoopIn
import Derived.Stop.RegionWithIn
namespace Go.Proofs.YtfmngeemhfpeiaaDoor
open Go.RowKit Go.Shelf
attribute [local go_sem] Oper.semAt_some

/-- How many digests the row x has, where the first one has n. -/
def msz (n : Nat) : Nat → Nat
  | 0 => n
  | x + 1 => (msz n x + 1) / 2
/-- The place of the way of i in the row x. -/
def mpos (i : Nat) : Nat → Nat
  | 0 => i
  | x + 1 => mpos i x / 2
/-- How many rows have more than one digest. -/
def mrows (n : Nat) : Nat := if _ : n ≤ 1 then 0 else mrows ((n + 1) / 2) + 1
termination_by n
decreasing_by omega
theorem mrows_one {n : Nat} (h : n ≤ 1) : mrows n = 0 := by rw [mrows]; exact dif_pos h
theorem mrows_more {n : Nat} (h : 1 < n) : mrows n = mrows ((n + 1) / 2) + 1 := by rw [mrows]; exact dif_neg (by omega)
theorem msz_shift (n : Nat) : ∀ x, msz n (x + 1) = msz ((n + 1) / 2) x
  | 0 => rfl
  | x + 1 => by show (msz n (x + 1) + 1) / 2 = (msz ((n + 1) / 2) x + 1) / 2; rw [msz_shift n x]
theorem mpos_shift (i : Nat) : ∀ x, mpos i (x + 1) = mpos (i / 2) x
  | 0 => rfl
  | x + 1 => by show mpos i (x + 1) / 2 = mpos (i / 2) x / 2; rw [mpos_shift i x]
theorem msz_small {n : Nat} (h : n ≤ 1) : ∀ x, msz n x ≤ 1
  | 0 => h
  | x + 1 => by have := msz_small h x; show (msz n x + 1) / 2 ≤ 1; omega
theorem msz_le {n : Nat} (h : 1 ≤ n) : ∀ x, 1 ≤ msz n x ∧ msz n x ≤ n
  | 0 => ⟨h, Nat.le_refl n⟩
  | x + 1 => by have := msz_le h x; show 1 ≤ (msz n x + 1) / 2 ∧ (msz n x + 1) / 2 ≤ n; omega
theorem mpos_lt {i n : Nat} (h : i < n) : ∀ x, mpos i x < msz n x
  | 0 => h
  | x + 1 => by have := mpos_lt h x; show mpos i x / 2 < (msz n x + 1) / 2; omega
theorem mpos_le (i : Nat) : ∀ x, mpos i x ≤ i
  | 0 => Nat.le_refl i
  | x + 1 => by have := mpos_le i x; show mpos i x / 2 ≤ i; omega
theorem mrows_iff : ∀ (x n : Nat), x < mrows n ↔ 1 < msz n x
  | 0, n => by
    by_cases h : n ≤ 1
    · rw [mrows_one h]; show 0 < 0 ↔ 1 < n; omega
    · rw [mrows_more (by omega)]; show 0 < _ + 1 ↔ 1 < n; omega
  | x + 1, n => by
    by_cases h : n ≤ 1
    · rw [mrows_one h]; have := msz_small h (x + 1); omega
    · rw [mrows_more (by omega), msz_shift, ← mrows_iff x]; omega
theorem msz_end (n : Nat) : msz n (mrows n) ≤ 1 := by have := mrows_iff (mrows n) n; omega
theorem mrows_le : ∀ (k n : Nat), n ≤ 2 ^ k → mrows n ≤ k
  | 0, n, h => by rw [mrows_one (by simpa using h)]; exact Nat.le_refl 0
  | k + 1, n, h => by
    by_cases h1 : n ≤ 1
    · rw [mrows_one h1]; omega
    · rw [mrows_more (by omega)]
      have := mrows_le k ((n + 1) / 2) (by rw [Nat.pow_succ] at h; omega)
      omega

/-- What is yielded for the row x. -/
def stpV (i m : Nat) (x : Nat) : Array Value := #[.agg #[.int .i64 (mpos i x), .int .i64 (msz m x)]]

set_option maxRecDepth 100000 in
set_option maxHeartbeats 4000000 in
theorem steps1_in (n : Nat) (_hn : 1 ≤ n) (lb Qi Qn N i m : Nat) (hN : mrows m = N) (hm1 : 1 ≤ m) (hm : m ≤ 1000000) (him : i < m) (J : Nat → World → Prop) (Jx : Unit → World → Prop)
    (hY : ∀ k W, k < N → J k W → YieldAt Fence.wide (n - 1) Tryd.prog lb (stpV i m k) W fun e W' => (e = .returned (.bool true) ∧ J (k + 1) W') ∨ (e = .returned (.bool false) ∧ Jx () W'))
    (W : World) (hsi : W.cell? ⟨Qi, 0, none⟩ = some (.int .i64 i)) (hsn : W.cell? ⟨Qn, 0, none⟩ = some (.int .i64 m)) (hj : J 0 W.drew) :
    CallsIn Fence.wide n Tryd.prog 74 #[.func (.yield lb) #[] #[], .pointer (some ⟨Qi, 0, none⟩), .pointer (some ⟨Qn, 0, none⟩)] W fun e W' => (∃ v, e = .returned v) ∧ (J N W' ∨ Jx () W') := by
  refine callsIn_of_wp Tryd.func74 rfl trivial ?_ rfl
  simp only [Tryd.ntmps74, List.size_toArray, List.length_cons, List.length_nil, Nat.reduceAdd, Nat.reduceSub, Array.replicate_succ, Array.replicate_zero, List.push_toArray, List.append_toArray, List.nil_append, List.cons_append]
  have HP := Lib.hid (fun x : Nat => (⟨by rw [← hN]; exact mrows_iff x m, mpos_lt him x, msz_le hm1 x, mpos_le i x⟩ : (x < N ↔ 1 < msz m x) ∧ mpos i x < msz m x ∧ (1 ≤ msz m x ∧ msz m x ≤ m) ∧ mpos i x ≤ i))
  have HY := Lib.hid hY
  have HE : Hid (msz m N ≤ 1) := Lib.hid (by rw [← hN]; exact msz_end m)
  have HJ0 := Lib.hid hj
  clear hY hN hj
  gi_wp2
  gi_region
  gi_wp2
  gi_loopw [4, 5] (fun s4 s5 wr => ∃ k : Nat, k ≤ N ∧ s4 = .int .i64 (mpos i k) ∧ s5 = .int .i64 (msz m k) ∧ Hid (J k wr)) (fun _ s5 _ => (intOf s5).toNat)
  case atStart => exact ⟨0, Nat.zero_le _, rfl, rfl, HJ0⟩
  case round =>
    obtain ⟨k, hkN, rfl, rfl, HJ⟩ := hrel
    obtain ⟨p1, p2, ⟨p3, p4⟩, p5⟩ := HP.out k
    by_cases hk : k < N
    · have hs := p1.1 hk
      have dk : decide ((msz m k : Int) > 1) = true := by simp; omega
      have dk2 : decide ((1 : Int) < (msz m k : Int)) = true := by simp; omega
      have dk3 : decide (1 < msz m k) = true := by simp; omega
      have q1 : IntKind.i64.wrap (Int.tdiv (mpos i k : Int) 2) = ((mpos i (k + 1) : Nat) : Int) := by
        show _ = ((mpos i k / 2 : Nat) : Int)
        rw [IntKind.wrap_i64, Int.tdiv_eq_ediv_of_nonneg (by omega)]; omega
      have q2 : IntKind.i64.wrap ((msz m k : Int) + 1) = ((msz m k + 1 : Nat) : Int) := by rw [IntKind.wrap_i64]; omega
      have q3 : IntKind.i64.wrap (Int.tdiv ((msz m k + 1 : Nat) : Int) 2) = ((msz m (k + 1) : Nat) : Int) := by
        show _ = (((msz m k + 1) / 2 : Nat) : Int)
        rw [IntKind.wrap_i64, Int.tdiv_eq_ediv_of_nonneg (by omega)]; omega
      have HM : Hid (msz m (k + 1) < msz m k) := Lib.hid (by show (msz m k + 1) / 2 < msz m k; omega)
      have HYY : Hid (YieldAt Fence.wide (n - 1) Tryd.prog lb #[.agg #[.int .i64 (mpos i k), .int .i64 (msz m k)]] wr fun e W' => ∃ bb, e = .returned (.bool bb) ∧ ((bb = true ∧ J (k + 1) W') ∨ (bb = false ∧ Jx () W'))) := Lib.hid (by
        obtain ⟨fn, tmps, assign, body, hy, hR⟩ := HY.out k wr hk HJ.out
        refine ⟨fn, tmps, assign, body, hy, hR.mono ?_⟩
        rintro e W' (⟨rfl, h1⟩ | ⟨rfl, h1⟩)
        · exact ⟨true, rfl, .inl ⟨rfl, h1⟩⟩
        · exact ⟨false, rfl, .inr ⟨rfl, h1⟩⟩)
      obtain ⟨fn, tmps, assign, body, hy, hR⟩ := HYY.out
      gi_wp2_with (refine hR.mono ?_; rintro e W3 ⟨bb, rfl, h3⟩)
      · rename_i hb
        rcases h3 with ⟨rfl, hJ3⟩ | ⟨rfl, hJ3⟩
        · simp at hb
        · refine bodyPost_ret (results_none rfl _ _ _) rfl ?_
          exact ⟨⟨_, rfl⟩, .inr hJ3⟩
      · rename_i hb
        rcases h3 with ⟨rfl, hJ3⟩ | ⟨rfl, hJ3⟩
        · have HJ3 := Lib.hid hJ3
          clear hJ3 hb
          gi_wp2
          go_roundw
          case rel => exact ⟨k + 1, by omega, rfl, rfl, HJ3⟩
          case measure => have := HM.out; simp [intOf]; omega
        · simp at hb
    · have hk2 : k = N := by omega
      subst hk2
      have he := HE.out
      have dk : decide ((msz m k : Int) > 1) = false := by simp; omega
      have dk2 : decide ((1 : Int) < (msz m k : Int)) = false := by simp; omega
      have dk3 : decide (1 < msz m k) = false := by simp; omega
      gi_wp2
      go_end0
      exact ⟨⟨_, rfl⟩, .inl HJ.out⟩

theorem steps_turn (n : Nat) (hn : 1 ≤ n) (Qi Qn i m : Nat) (hm1 : 1 ≤ m) (hm : m ≤ 1000000) (him : i < m) (w : World) (hQi : Qi < w.heap.size) (hQn : Qn < w.heap.size) (hsi : w.cell? ⟨Qi, 0, none⟩ = some (.int .i64 i)) (hsn : w.cell? ⟨Qn, 0, none⟩ = some (.int .i64 m)) :
    InTurn n Tryd.prog 74 #[.pointer (some ⟨Qi, 0, none⟩), .pointer (some ⟨Qn, 0, none⟩)] (stpV i m) (mrows m) w :=
  fun lb J Jx W hW hJ _ hY h0 =>
    steps1_in n hn lb Qi Qn (mrows m) i m rfl hm1 hm him J Jx hY W ((hW.cell (p := ⟨Qi, 0, none⟩) hQi).trans hsi) ((hW.cell (p := ⟨Qn, 0, none⟩) hQn).trans hsn)
      (hJ 0 W W.drew none h0 (gbelow (Below.drew (Below.refl _ W))) (fun r e => by cases e))
set_option maxRecDepth 100000 in
theorem steps_any (w : World) (i m : Nat) : Calls Tryd.prog 44 #[.int .i64 m, .int .i64 i] w fun e w' => e = .returned (.func (.func 74) #[] #[.pointer (some ⟨w.heap.size + 1, 0, none⟩), .pointer (some ⟨w.heap.size, 0, none⟩)]) ∧
    w'.cell? ⟨w.heap.size + 1, 0, none⟩ = some (.int .i64 i) ∧ w'.cell? ⟨w.heap.size, 0, none⟩ = some (.int .i64 m) ∧ Below w.heap.size w w' ∧ w'.heap.size = w.heap.size + 2 := by
  go_enter Tryd.func44, Tryd.ntmps44
  go_wp2
  go_returns
  exact ⟨by simp, by go_cell, by go_cell, by go_grown, by simp⟩
end Go.Proofs.YtfmngeemhfpeiaaDoor
