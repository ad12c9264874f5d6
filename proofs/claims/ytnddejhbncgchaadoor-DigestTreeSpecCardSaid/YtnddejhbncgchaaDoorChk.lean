/- slices.Chunk over bytes, 64 at a time: the iterator's contract. -/
import Derived.RangeFuncNested
import Derived.RangeFuncBound
import Derived.RangeFuncCalls
import Derived.RangeFuncLeaves
import Derived.Shelf.Abstract
import Derived.Shelf.RegionOpen
import Derived.WalkKit
import Derived.OwnWalkIn
import Derived.TacticsInMore
import Derived.LoopNIn
import Derived.LoopIn
import Derived.Test.YtnddejhbncgchaaDoorEnd
namespace Go.Proofs.YtnddejhbncgchaaDoor
open Go.RowKit Go.Shelf
attribute [local go_sem] Oper.semAt_some

/-- What a round keeps: the blocks below n₀, but sb. -/
def LowBut (n₀ sb : Nat) (W W' : World) : Prop := W.heap.size ≤ W'.heap.size ∧ ∀ b, b < n₀ → b ≠ sb → W'.heap[b]? = W.heap[b]?
theorem LowBut.refl (n₀ sb : Nat) (W : World) : LowBut n₀ sb W W := ⟨Nat.le_refl _, fun _ _ _ => rfl⟩
theorem LowBut.trans {n₀ sb : Nat} {A B C : World} (h : LowBut n₀ sb A B) (k : LowBut n₀ sb B C) : LowBut n₀ sb A C := ⟨Nat.le_trans h.1 k.1, fun b h1 h2 => (k.2 b h1 h2).trans (h.2 b h1 h2)⟩
theorem LowBut.cell {n₀ sb : Nat} {W W' : World} (h : LowBut n₀ sb W W') {b i : Nat} (h1 : b < n₀) (h2 : b ≠ sb) : W'.cell? ⟨b, i, none⟩ = W.cell? ⟨b, i, none⟩ := by
  simp [World.cell?, h.2 b h1 h2]
theorem lowBut_b {n₀ sb : Nat} {w : World} (hn : n₀ ≤ w.heap.size) (W : World) (l : Nat) (o o' : Obj) (hl : w.heap.size ≤ l) (h : W.heap[l]? = some o) (_ : o.isCells = false) (_ : o.isWalk = false) : LowBut n₀ sb W (W.putObj l o') := by
  have hg := belowK_b (n₀ := n₀) hn W l o o' hl h (by assumption) (by assumption)
  exact ⟨hg.size, fun b h1 _ => hg.block b h1⟩

theorem take_fin {m k : Nat} (h : k < m) : (List.finRange m).take (k + 1) = (List.finRange m).take k ++ [⟨k, h⟩] := by
  have hl : k < (List.finRange m).length := by simpa using h
  rw [List.take_add_one, List.getElem?_eq_getElem hl]
  simp

set_option maxRecDepth 100000 in
set_option maxHeartbeats 2000000 in
theorem chunk1_in (n : Nat) (hn : 1 ≤ n) (l Bs Bn n₀ sb db off m cap : Nat) (a : Option Addr) (ha : m = 0 ∨ a = some ⟨db, off, none⟩) (hm : 64 * m ≤ cap) (hc : cap ≤ 9223372036854775807)
    (hBs : Bs < n₀) (hBs' : Bs ≠ sb) (hBn : Bn < n₀) (hBn' : Bn ≠ sb) (J Jx : List (Fin m) → World → Prop)
    (hY : ∀ pre (x : Fin m) W, J pre W → pre.length < m → YieldAt Fence.wide (n - 1) Tryd.prog l #[.slice (some ⟨db, off + 64 * x.1, none⟩) 64 64] W fun e W' =>
      (e = .returned (.bool true) ∧ J (pre ++ [x]) W' ∧ LowBut n₀ sb W W') ∨ (e = .returned (.bool false) ∧ Jx (pre ++ [x]) W'))
    (hJd : ∀ pre W q, J pre W → J pre (W.drewN q)) (W : World) (hs : W.cell? ⟨Bs, 0, none⟩ = some (.slice a (64 * m) cap)) (hk : W.cell? ⟨Bn, 0, none⟩ = some (.int .i64 64)) (h0 : J [] W) :
    CallsIn Fence.wide n Tryd.prog 49 #[.func (.yield l) #[] #[], .pointer (some ⟨Bs, 0, none⟩), .pointer (some ⟨Bn, 0, none⟩)] W fun e W' => (∃ v, e = .returned v) ∧
      ((∃ ys, ys = List.finRange m ∧ J ys W') ∨ (∃ pre, True ∧ Jx pre W')) := by
  refine callsIn_of_wp Tryd.func49 rfl trivial ?_ rfl
  have hmx : Tryd.prog.follows .mixedOrders = true := by kernel_rfl
  simp only [Tryd.ntmps49, List.size_toArray, List.length_cons, List.length_nil, Nat.reduceAdd, Nat.reduceSub, Array.replicate_succ, Array.replicate_zero, List.push_toArray, List.append_toArray, List.nil_append, List.cons_append]
  gi_wp2
  gi_loopw [4] (fun i wr => ∃ k : Nat, k ≤ m ∧ i = .int .i64 (64 * k : Nat) ∧ J ((List.finRange m).take k) wr ∧ LowBut n₀ sb W wr)
    (fun i _ => 64 * m - (intOf i).toNat)
  case atStart => exact ⟨0, Nat.zero_le _, rfl, h0, LowBut.refl _ _ _⟩
  case round =>
    obtain ⟨k, hkm, rfl, hJ, hL⟩ := hrel
    have hs' : wr.cell? ⟨Bs, 0, none⟩ = some (.slice a (64 * m) cap) := (hL.cell hBs hBs').trans hs
    have hk' : wr.cell? ⟨Bn, 0, none⟩ = some (.int .i64 64) := (hL.cell hBn hBn').trans hk
    by_cases hlt : k < m
    · obtain rfl := ha.resolve_left (by omega)
      have d1 : decide (((64 * k : Nat) : Int) < ((64 * m : Nat) : Int)) = true := by simp; omega
      have HMIN : Hid (¬ (((64 * m - 64 * k : Nat) : Int) < 64)) := by show ¬ _; omega
      have q1 : IntKind.i64.wrap (64 * (k : Int) + 64) = ((64 * k + 64 : Nat) : Int) := by rw [IntKind.wrap_i64]; omega
      have q2 : ((64 * k + 64 : Nat) : Int) ≤ (cap : Int) := by omega
      have q3 : ((64 * k : Nat) : Int) ≤ ((64 * k + 64 : Nat) : Int) := by omega
      have q4 : 64 * k + 64 ≤ cap := by omega
      have q5 : 64 * k + 64 - 64 * k = 64 := by omega
      gi_wp2
      gi_big_quiet_th_o (fail)
      obtain ⟨W1, hW1⟩ : ∃ W1, W1 = wr.drewN nq := ⟨_, rfl⟩
      rw [← hW1]
      have hs1 : W1.cell? ⟨Bs, 0, none⟩ = some (.slice (some ⟨db, off, none⟩) (64 * m) cap) := by rw [hW1]; exact hs'
      have hJ1 : J ((List.finRange m).take k) W1 := by rw [hW1]; exact hJd _ _ _ hJ
      have hL1 : LowBut n₀ sb W W1 := by rw [hW1]; exact hL
      obtain ⟨fn, tmps, assign, body, hy, hR⟩ := hY _ ⟨k, hlt⟩ W1 hJ1 (by simp; omega)
      dsimp only at hy
      clear hW1 hs' hk'
      gi_wp2
      refine hR.mono ?_
      rintro e W3 (⟨rfl, hJ3, hk3⟩ | ⟨rfl, hJx3⟩)
      · have hn3 : W3.cell? ⟨Bn, 0, none⟩ = some (.int .i64 64) := ((hL1.trans hk3).cell hBn hBn').trans hk
        gi_wp2
        go_roundw
        case rel => exact ⟨k + 1, by omega, by simp; omega, by rw [take_fin hlt]; exact hJ3, hL1.trans hk3⟩
        case measure => simp [intOf]; omega
      · gi_wp2
        refine bodyPost_ret (results_none rfl _ _ _) rfl ?_
        exact ⟨⟨_, rfl⟩, .inr ⟨_, trivial, hJx3⟩⟩
    · obtain rfl : k = m := by omega
      have hJ' : J (List.finRange k) wr := by have := hJ; rwa [List.take_of_length_le (by simp)] at this
      gi_wp2
      go_end0
      exact ⟨⟨_, rfl⟩, .inl ⟨_, rfl, hJ'⟩⟩
end Go.Proofs.YtnddejhbncgchaaDoor
