/- slices.Chunk of digests, two and two. -/
import Derived.Test.YtfmngeemhfpeiaaDoorMce
namespace Go.Proofs.YtfmngeemhfpeiaaDoor
open Go.RowKit Go.Shelf
attribute [local go_sem] Oper.semAt_some

/-- What is yielded for the pair k. -/
def chkV (b off N : Nat) (k : Nat) : Array Value := #[.slice (some ⟨b, off + 2 * k * 32, none⟩) (min 2 (N - 2 * k)) (min 2 (N - 2 * k))]
/-- What the iterator's variables hold. -/
def ChkAt (Qs Qn : Nat) (a : Option Addr) (N cap : Nat) (W : World) : Prop := W.cell? ⟨Qs, 0, none⟩ = some (.slice a N cap) ∧ W.cell? ⟨Qn, 0, none⟩ = some (.int .i64 2)

set_option maxRecDepth 100000 in
set_option maxHeartbeats 4000000 in
theorem chunkd_in (n : Nat) (_hn : 1 ≤ n) (lb Qs Qn b off N cap : Nat) (a : Option Addr) (hNc : N ≤ cap) (hq : N ≤ 1000000) (_hcm : cap ≤ maxLen) (ha : 0 < N → a = some ⟨b, off, none⟩) (J : Nat → World → Prop) (Jx : Unit → World → Prop)
    (hal : ∀ k W W', J k W → Below W.heap.size W W' → J k W') (hKp : ∀ k W, J k W → ChkAt Qs Qn a N cap W)
    (hY : ∀ k W, k < (N + 1) / 2 → J k W → YieldAt Fence.wide (n - 1) Tryd.prog lb (chkV b off N k) W fun e W' => (e = .returned (.bool true) ∧ J (k + 1) W') ∨ (e = .returned (.bool false) ∧ Jx () W'))
    (W : World) (hj : J 0 W) :
    CallsIn Fence.wide n Tryd.prog 94 #[.func (.yield lb) #[] #[], .pointer (some ⟨Qs, 0, none⟩), .pointer (some ⟨Qn, 0, none⟩)] W fun e W' => (∃ v, e = .returned v) ∧ (J ((N + 1) / 2) W' ∨ Jx () W') := by
  refine callsIn_of_wp Tryd.func94 rfl trivial ?_ rfl
  simp only [Tryd.ntmps94, List.size_toArray, List.length_cons, List.length_nil, Nat.reduceAdd, Nat.reduceSub, Array.replicate_succ, Array.replicate_zero, List.push_toArray, List.append_toArray, List.nil_append, List.cons_append]
  have HY := Lib.hid hY
  have HAL := Lib.hid hal
  have HKP := Lib.hid hKp
  have HA := Lib.hid ha
  have HJ0 := Lib.hid hj
  unfold maxLen at _hcm
  obtain ⟨N', hN'⟩ : ∃ x, (N + 1) / 2 = x := ⟨_, rfl⟩
  rw [hN'] at HY ⊢
  clear hY hj hal hKp ha
  gi_wp2
  gi_loopw [4] (fun s4 wr => ∃ k : Nat, k ≤ N' ∧ s4 = .int .i64 (2 * k : Nat) ∧ Hid (J k wr)) (fun s4 _ => N + 2 - (intOf s4).toNat)
  case atStart => exact ⟨0, Nat.zero_le _, rfl, HJ0⟩
  case round =>
    obtain ⟨k, hkN, rfl, HJ⟩ := hrel
    obtain ⟨d1, d2⟩ := HKP.out k wr HJ.out
    obtain ⟨t, ht⟩ : ∃ t, 2 * k = t := ⟨_, rfl⟩
    rw [ht]
    have HTK := Lib.hid ht
    by_cases hk : k < N'
    · have htN : t < N := by omega
      have ha := HA.out (by omega)
      subst ha
      have f1 : decide ((t : Int) < (N : Int)) = true := by simp; omega
      have f2 : decide (t < N) = true := by simp; omega
      have f3 : (t : Int) < (N : Int) := by omega
      have f4 : (t : Int) ≤ (N : Int) := by omega
      have f5 : (t : Int) ≤ (cap : Int) := by omega
      have f6 : t ≤ cap := by omega
      obtain ⟨E, hE⟩ : ∃ E, min 2 (N - t) = E := ⟨_, rfl⟩
      have hm : min (2 : Int) ((N - t : Nat) : Int) = (E : Int) := by omega
      have hEb : 1 ≤ E ∧ t + E ≤ N := by omega
      have HYY : Hid (YieldAt Fence.wide (n - 1) Tryd.prog lb #[.slice (some ⟨b, off + t * 32, none⟩) E E] wr.drew fun e W' => ∃ bb, e = .returned (.bool bb) ∧ ((bb = true ∧ J (k + 1) W' ∧ W'.cell? ⟨Qn, 0, none⟩ = some (.int .i64 2)) ∨ (bb = false ∧ Jx () W'))) := Lib.hid (by
        obtain ⟨fn, tmps, assign, body, hy, hR⟩ := HY.out k wr.drew hk (HAL.out _ _ _ HJ.out (Below.drew (Below.refl _ _)))
        unfold chkV at hy
        rw [ht, hE] at hy
        refine ⟨fn, tmps, assign, body, hy, hR.mono ?_⟩
        rintro e W' (⟨rfl, h1⟩ | ⟨rfl, h1⟩)
        · exact ⟨true, rfl, .inl ⟨rfl, h1, (HKP.out _ _ h1).2⟩⟩
        · exact ⟨false, rfl, .inr ⟨rfl, h1⟩⟩)
      clear ht
      gi_wp2
      gi_region
      clear hm hE
      have d1' : wr.drew.cell? ⟨Qs, 0, none⟩ = some (.slice (some ⟨b, off, none⟩) N cap) := d1
      have g1 : IntKind.i64.wrap ((t : Int) + (E : Int)) = ((t + E : Nat) : Int) := by rw [IntKind.wrap_i64]; omega
      have g2 : (t : Int) ≤ ((t + E : Nat) : Int) := by omega
      have g3 : ((t + E : Nat) : Int) ≤ (cap : Int) := by omega
      have g4 : t + E ≤ cap := by omega
      obtain ⟨fn, tmps, assign, body, hy, hR⟩ := HYY.out
      gi_wp2_with (refine hR.mono ?_; rintro e W3 ⟨bb, rfl, (⟨rfl, hj3, d3⟩ | ⟨rfl, hj3⟩)⟩)
      · have := HTK.out
        exact ⟨⟨k + 1, by omega, by congr 1; omega, Lib.hid hj3⟩, by simp [intOf]; omega⟩
      · refine bodyPost_ret (results_none rfl _ _ _) rfl ?_
        exact ⟨⟨_, rfl⟩, .inr hj3⟩
    · have f1 : decide ((t : Int) < (N : Int)) = false := by simp; omega
      have f2 : decide (t < N) = false := by simp; omega
      have hkk : k = N' := by omega
      subst hkk
      gi_wp2
      go_end0
      exact ⟨⟨_, rfl⟩, .inl HJ.out⟩
theorem chunkd_turn (n : Nat) (hn : 1 ≤ n) (Qs Qn b off N cap : Nat) (a : Option Addr) (hNc : N ≤ cap) (hq : N ≤ 1000000) (hcm : cap ≤ maxLen) (ha : 0 < N → a = some ⟨b, off, none⟩) (w : World) :
    InTurnK n Tryd.prog 94 #[.pointer (some ⟨Qs, 0, none⟩), .pointer (some ⟨Qn, 0, none⟩)] (chkV b off N) ((N + 1) / 2) (ChkAt Qs Qn a N cap) w :=
  fun lb J Jx W _ hJ _ hK hY h0 =>
    chunkd_in n hn lb Qs Qn b off N cap a hNc hq hcm ha J Jx (fun k W1 W' h hb => hJ k W1 W' none h (gbelow hb) (fun r e => by cases e)) hK hY W h0
set_option maxRecDepth 100000 in
theorem chunkd_any (w : World) (a : Option Addr) (N cap : Nat) : Calls Tryd.prog 75 #[.slice a N cap, .int .i64 2] w fun e w' => e = .returned (.func (.func 94) #[] #[.pointer (some ⟨w.heap.size, 0, none⟩), .pointer (some ⟨w.heap.size + 1, 0, none⟩)]) ∧
    ChkAt w.heap.size (w.heap.size + 1) a N cap w' ∧ Below w.heap.size w w' ∧ w'.heap.size = w.heap.size + 2 := by
  go_enter Tryd.func75, Tryd.ntmps75
  go_wp2
  go_returns
  exact ⟨by simp, ⟨by go_cell, by go_cell⟩, by go_grown, by simp⟩
end Go.Proofs.YtfmngeemhfpeiaaDoor
