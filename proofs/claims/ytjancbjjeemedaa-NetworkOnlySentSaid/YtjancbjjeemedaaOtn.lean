/- The iterator over the other pairs. -/
import Derived.Test.YtjancbjjeemedaaOth
namespace Go.Proofs.Ytjancbjjeemedaa
open Go.RowKit Go.Shelf
attribute [local go_sem] Oper.semAt_some

def oth (p : Int × Int) (l : List (Int × Int)) : List (Int × Int) := l.filter fun q => !(decide (q.1 = p.1) && decide (q.2 = p.2))
def pairV (x : Int × Int) : Array Value := #[.agg #[.int .i64 x.1, .int .i64 x.2]]
theorem oth_step (p : Int × Int) (l : List (Int × Int)) (k : Nat) (h : k < l.length) : oth p (l.take (k + 1)) = oth p (l.take k) ++ if (decide (l[k].1 = p.1) && decide (l[k].2 = p.2)) then [] else [l[k]] := by
  unfold oth
  rw [List.take_succ_eq_append_getElem h, List.filter_append]
  congr 1
  simp only [List.filter_cons, List.filter_nil]
  cases (decide (l[k].1 = p.1) && decide (l[k].2 = p.2)) <;> rfl
theorem oth_le (p : Int × Int) (l : List (Int × Int)) : (oth p l).length ≤ l.length := List.length_filter_le _ _

/-- Nothing below n₀ has changed but block g. -/
structure Bt (g n₀ : Nat) (W W' : World) : Prop where
  os : W'.os = W.os
  tape : W'.tape = W.tape
  output : W'.output = W.output
  size : W.heap.size ≤ W'.heap.size
  block : ∀ i, i < n₀ → i ≠ g → W'.heap[i]? = W.heap[i]?
section
variable {g n₀ : Nat} {W W' W'' : World}
theorem Bt.refl (g n₀ : Nat) (W : World) : Bt g n₀ W W := ⟨rfl, rfl, rfl, Nat.le_refl _, fun _ _ _ => rfl⟩
theorem Bt.trans (h : Bt g n₀ W W') (k : Bt g n₀ W' W'') : Bt g n₀ W W'' := ⟨k.os.trans h.os, k.tape.trans h.tape, k.output.trans h.output, Nat.le_trans h.size k.size, fun i hi hne => (k.block i hi hne).trans (h.block i hi hne)⟩
theorem Bt.of (h : Below n₀ W W') : Bt g n₀ W W' := ⟨h.os, h.tape, h.output, h.size, fun i hi _ => h.block i hi⟩
theorem Bt.below {B : Nat} (h : Bt g n₀ W W') (h1 : B ≤ n₀) (h2 : B ≤ g) : Below B W W' := ⟨h.os, h.tape, h.output, h.size, fun i hi => h.block i (by omega) (by omega)⟩
theorem Bt.cell (h : Bt g n₀ W W') {b o : Nat} (h1 : b < n₀) (h2 : b ≠ g) : W'.cell? ⟨b, o, none⟩ = W.cell? ⟨b, o, none⟩ := World.cell?_of_block (a := ⟨b, o, none⟩) (h.block b h1 h2)
theorem Bt.set (h : Bt g n₀ W W') (i : Nat) (v : Value) : Bt g n₀ W (W'.setCell ⟨g, i, none⟩ v) :=
  ⟨h.os, h.tape, h.output, by simpa using h.size, fun k hk hne => (Below.heap_setCell _ _ _ _ (by first | exact fun e => hne e | exact fun e => hne e.symm)).trans (h.block k hk hne)⟩
theorem bt_b {w : World} (hn : n₀ ≤ w.heap.size) (W : World) (l : Nat) (o o' : Obj) (hl : w.heap.size ≤ l) (h : W.heap[l]? = some o) (h1 : o.isCells = false) (h2 : o.isWalk = false) : Bt g n₀ W (W.putObj l o') := Bt.of (belowK_b hn W l o o' hl h h1 h2)
end

set_option maxRecDepth 100000 in
set_option maxHeartbeats 4000000 in
theorem oth1_in (n : Nat) (hn : 1 ≤ n) (lb Bs Cs g n₀ B N cap : Nat) (a : Option Addr) (q : List (Int × Int)) (p : Int × Int) (hN : q.length = N) (hq : N ≤ 1000000) (_hcap : cap ≤ maxLen)
    (hBs : Bs < n₀ ∧ Bs ≠ g) (hCs : Cs < n₀ ∧ Cs ≠ g) (hBg : B ≤ g ∧ B ≤ n₀) (J Jx : List (Int × Int) → World → Prop)
    (hY : ∀ pre (x : Int × Int) W, J pre W → pre.length < N → YieldAt Fence.wide (n - 1) Try.prog lb (pairV x) W fun e W' =>
      (e = .returned (.bool true) ∧ J (pre ++ [x]) W' ∧ Bt g n₀ W W') ∨ (e = .returned (.bool false) ∧ Jx (pre ++ [x]) W'))
    (hal : ∀ pre W W', J pre W → Below W.heap.size W W' → J pre W')
    (W : World) (hW : n₀ ≤ W.heap.size) (hs : W.cell? ⟨Bs, 0, none⟩ = some (.slice a N cap)) (hc0 : W.cell? ⟨Cs, 0, none⟩ = some (.int .i64 p.1)) (hc1 : W.cell? ⟨Cs, 1, none⟩ = some (.int .i64 p.2))
    (hA : AAt W B (.slice a N cap) q) (h0 : J [] W) :
    CallsIn Fence.wide n Try.prog 48 #[.func (.yield lb) #[] #[], .pointer (some ⟨Bs, 0, none⟩), .pointer (some ⟨Cs, 0, none⟩)] W fun e W' => (∃ v, e = .returned v) ∧
      ((∃ ys, ys = oth p q ∧ J ys W') ∨ (∃ pre, True ∧ Jx pre W')) := by
  refine callsIn_of_wp Try.func48 rfl trivial ?_ rfl
  simp only [Try.ntmps48, List.size_toArray, List.length_cons, List.length_nil, Nat.reduceAdd, Nat.reduceSub, Array.replicate_succ, Array.replicate_zero, List.push_toArray, List.append_toArray, List.nil_append, List.cons_append]
  have HA := Lib.hid hA
  have HAL := Lib.hid hal
  have HN := Lib.hid hN
  have HY := Lib.hid hY
  unfold maxLen at _hcap
  clear hA hal hN hY
  gi_wp2
  gi_loopw [8] (fun i wr => ∃ k : Nat, k ≤ N ∧ i = .int .i64 k ∧ Hid (J (oth p (q.take k)) wr) ∧ Bt g n₀ W wr) (fun i _ => N - (intOf i).toNat)
  case atStart => exact ⟨0, Nat.zero_le _, rfl, Lib.hid (by simpa [oth] using h0), Bt.refl _ _ _⟩
  case round =>
    clear h0
    obtain ⟨k, hkN, rfl, HJ, hL⟩ := hrel
    have d0 : wr.cell? ⟨Cs, 0, none⟩ = some (.int .i64 p.1) := (hL.cell hCs.1 hCs.2).trans hc0
    have d1 : wr.cell? ⟨Cs, 1, none⟩ = some (.int .i64 p.2) := (hL.cell hCs.1 hCs.2).trans hc1
    have hnw : n₀ ≤ wr.heap.size := Nat.le_trans hW hL.size
    have ds : wr.cell? ⟨Bs, 0, none⟩ = some (.slice a N cap) := (hL.cell hBs.1 hBs.2).trans hs
    by_cases hk : k < N
    · have hkl : k < q.length := by rw [HN.out]; exact hk
      obtain ⟨b, off, rfl, hbl, -, p0, p1⟩ := (HA.out.below (hL.below hBg.2 hBg.1)).got k hkl
      have hst := oth_step p q k hkl
      have hlen : (oth p (q.take k)).length < N := by
        have := oth_le p (q.take k)
        rw [List.length_take] at this
        omega
      obtain ⟨x, hx⟩ : ∃ x, q[k]'hkl = x := ⟨_, rfl⟩
      rw [hx] at p0 p1 hst
      have dk : decide ((k : Int) < (N : Int)) = true := by simp; omega
      have ki : (k : Int) < (N : Int) := by omega
      have heq : ∀ W, (Op.equalIn 10000 55 (.agg #[.int .i64 x.1, .int .i64 x.2]) (.agg #[.int .i64 p.1, .int .i64 p.2])).run Try.prog W = .ok (decide (x.1 = p.1) && decide (x.2 = p.2)) W := fun W => pair_eq _ _ _ _ W
      obtain ⟨E, hE⟩ : ∃ E, (decide (x.1 = p.1) && decide (x.2 = p.2)) = E := ⟨_, rfl⟩
      rw [hE] at hst
      simp only [hE] at heq
      have HST := Lib.hid hst
      have HBA := Lib.hid (show Below wr.heap.size wr (wr.alloc (.cells #[.int .i64 x.1, .int .i64 x.2] 55)) from by go_grown)
      have hnC : Cs < wr.heap.size := by omega
      have d0' := (HBA.out.cell (p := ⟨Cs, 0, none⟩) hnC).trans d0
      have d1' := (HBA.out.cell (p := ⟨Cs, 1, none⟩) hnC).trans d1
      clear hst hE hx hkl
      cases E with
      | true =>
        gi_wp2
        refine ⟨fun f h => (by cases h), ?_⟩
        gi_wp2
        go_roundw
        case rel => exact ⟨k + 1, by omega, by go_num, Lib.hid (by rw [HST.out]; simpa using HAL.out _ _ _ HJ.out HBA.out), hL.trans (Bt.of (HBA.out.mono hnw))⟩
        case measure => simp [intOf]; omega
      | false =>
        obtain ⟨fn, tmps, assign, body, hy, hR⟩ := HY.out _ x _ (HAL.out _ _ _ HJ.out HBA.out) hlen
        unfold pairV at hy
        gi_wp2
        refine hR.mono ?_
        rintro e W3 (⟨rfl, hJ3, hk3⟩ | ⟨rfl, hJx3⟩)
        · gi_wp2
          go_roundw
          case rel => exact ⟨k + 1, by omega, by go_num, Lib.hid (by rw [HST.out]; exact hJ3), (hL.trans (Bt.of (HBA.out.mono hnw))).trans hk3⟩
          case measure => simp [intOf]; omega
        · gi_wp2
          refine bodyPost_ret (results_none rfl _ _ _) rfl ?_
          exact ⟨⟨_, rfl⟩, .inr ⟨_, trivial, hJx3⟩⟩
    · obtain rfl : k = N := by omega
      have dk : decide ((k : Int) < (k : Int)) = false := by simp
      gi_wp2
      go_end0
      exact ⟨⟨_, rfl⟩, .inl ⟨_, rfl, by have := HJ.out; rwa [List.take_of_length_le (by rw [HN.out]; omega)] at this⟩⟩

theorem oth_seq (n : Nat) (hn : 1 ≤ n) (Bs Cs g n₀ B N cap : Nat) (a : Option Addr) (q : List (Int × Int)) (p : Int × Int) (hN : q.length = N) (hq : N ≤ 1000000) (hcap : cap ≤ maxLen)
    (hBs : Bs < n₀ ∧ Bs ≠ g) (hCs : Cs < n₀ ∧ Cs ≠ g) (hBg : B ≤ g ∧ B ≤ n₀) (w : World) (hn₀ : n₀ ≤ w.heap.size) (hs : w.cell? ⟨Bs, 0, none⟩ = some (.slice a N cap)) (hc0 : w.cell? ⟨Cs, 0, none⟩ = some (.int .i64 p.1)) (hc1 : w.cell? ⟨Cs, 1, none⟩ = some (.int .i64 p.2)) (hA : AAt w B (.slice a N cap) q) :
    SeqStopsK Fence.wide n Try.prog 48 #[.pointer (some ⟨Bs, 0, none⟩), .pointer (some ⟨Cs, 0, none⟩)] pairV (Bt g n₀) (fun ys => ys = oth p q) (fun _ => True) N w :=
  fun l J Jx W hW hJ _ hY h0 =>
    oth1_in n hn l Bs Cs g n₀ B N cap a q p hN hq hcap hBs hCs hBg J Jx hY (fun pre W1 W' h hb => hJ pre W1 W' none h (gbelow hb) (fun r e => by cases e)) W (Nat.le_trans hn₀ hW.size)
      ((hW.cell (p := ⟨Bs, 0, none⟩) (by show Bs < _; omega)).trans hs) ((hW.cell (p := ⟨Cs, 0, none⟩) (by show Cs < _; omega)).trans hc0) ((hW.cell (p := ⟨Cs, 1, none⟩) (by show Cs < _; omega)).trans hc1) (hA.below (hW.mono (by omega))) h0
end Go.Proofs.Ytjancbjjeemedaa
