/- slices.Backward over a slice of writes: the iterator's contract. -/
import Derived.RangeFuncNested
import Derived.RangeFuncBound
import Derived.RangeFuncCalls
import Derived.RangeFuncLeaves
import Derived.Shelf.Abstract
import Derived.OwnWalkIn
import Derived.TacticsInMore
import Derived.LoopNIn
import Derived.LoopIn
import Derived.Test.YtmklchjgiaomkaaPfm
namespace Go.Proofs.Ytmklchjgiaomkaa
open Go.RowKit Go.Shelf
attribute [local go_sem] Oper.semAt_some

/-- The indices from q - 1 down to k. -/
def dn (q k : Nat) : List Nat := ((List.range q).drop k).reverse
theorem dn_all (q : Nat) : dn q q = [] := by simp [dn]
theorem dn_len (q k : Nat) : (dn q k).length = q - k := by simp [dn]
theorem dn_step (q k : Nat) (h : k < q) : dn q (k + 1) ++ [k] = dn q k := by
  have e : (List.range q).drop k = k :: (List.range q).drop (k + 1) := by
    rw [List.drop_eq_getElem_cons (show k < (List.range q).length by simpa using h)]; simp
  unfold dn
  rw [e, List.reverse_cons]

/-- The value of the x-th write. -/
def pv (f : Nat → Int) (s : Nat → Option Addr × Nat × Nat) (x : Nat) : Value := .agg #[.int .i64 (f x), .slice (s x).1 (s x).2.1 (s x).2.2]

set_option maxRecDepth 100000 in
set_option maxHeartbeats 2000000 in
theorem back1_in (n : Nat) (hn : 1 ≤ n) (l Bs n₀ db off q cap : Nat) (a : Option Addr) (ha : q = 0 ∨ a = some ⟨db, off, none⟩) (hq : q ≤ 1000000)
    (hBs : Bs < n₀) (hdb : db < n₀) (f : Nat → Int) (s : Nat → Option Addr × Nat × Nat) (J Jx : List Nat → World → Prop)
    (hY : ∀ pre (x : Nat) W, J pre W → pre.length < q → YieldAt Fence.wide (n - 1) Try.prog l #[.int .i64 x, pv f s x] W fun e W' =>
      (e = .returned (.bool true) ∧ J (pre ++ [x]) W' ∧ Below n₀ W W') ∨ (e = .returned (.bool false) ∧ Jx (pre ++ [x]) W'))
    (W : World) (hs : W.cell? ⟨Bs, 0, none⟩ = some (.slice a q cap))
    (hc : ∀ x, x < q → W.cell? ⟨db, off + x * 2, none⟩ = some (.int .i64 (f x)) ∧ W.cell? ⟨db, off + x * 2 + 1, none⟩ = some (.slice (s x).1 (s x).2.1 (s x).2.2)) (h0 : J [] W) :
    CallsIn Fence.wide n Try.prog 40 #[.func (.yield l) #[] #[], .pointer (some ⟨Bs, 0, none⟩)] W fun e W' => (∃ v, e = .returned v) ∧
      ((∃ ys, ys = dn q 0 ∧ J ys W') ∨ (∃ pre, (∃ k, k < q ∧ pre = dn q k) ∧ Jx pre W')) := by
  refine callsIn_of_wp Try.func40 rfl trivial ?_ rfl
  simp only [Try.ntmps40, List.size_toArray, List.length_cons, List.length_nil, Nat.reduceAdd, Nat.reduceSub, Array.replicate_succ, Array.replicate_zero, List.push_toArray, List.append_toArray, List.nil_append, List.cons_append]
  have HC := Lib.hid hc
  clear hc
  gi_wp2
  gi_loopw [3] (fun i wr => ∃ (k : Nat) (z : Int), k ≤ q ∧ i = .int .i64 z ∧ z + 1 = k ∧ J (dn q k) wr ∧ Below n₀ W wr)
    (fun i _ => (intOf i + 1).toNat)
  case atStart => exact ⟨q, _, Nat.le_refl _, rfl, by omega, by rw [dn_all]; exact h0, Below.refl _ _⟩
  case round =>
    obtain ⟨k, z, hkq, rfl, hz, hJ, hL⟩ := hrel
    have hs' : wr.cell? ⟨Bs, 0, none⟩ = some (.slice a q cap) := (hL.cell (p := ⟨Bs, 0, none⟩) hBs).trans hs
    have HZ := Lib.hid hz
    clear hz
    by_cases hk : k = 0
    · have hzz : z = -1 := by have := HZ.out; omega
      subst hzz
      subst hk
      clear hs'
      gi_wp2
      go_end0
      exact ⟨⟨_, rfl⟩, .inl ⟨_, rfl, hJ⟩⟩
    · obtain ⟨j, rfl⟩ : ∃ j, k = j + 1 := ⟨k - 1, by omega⟩
      have hzz : z = (j : Int) := by have := HZ.out; omega
      subst hzz
      obtain rfl := ha.resolve_left (by omega)
      obtain ⟨c0, c1⟩ := HC.out j (by omega)
      have e0 : wr.cell? ⟨db, off + j * 2, none⟩ = some (.int .i64 (f j)) := (hL.cell (p := ⟨db, off + j * 2, none⟩) hdb).trans c0
      have e1 : wr.cell? ⟨db, off + j * 2 + 1, none⟩ = some (.slice (s j).1 (s j).2.1 (s j).2.2) := (hL.cell (p := ⟨db, off + j * 2 + 1, none⟩) hdb).trans c1
      obtain ⟨fn, tmps, assign, body, hy, hR⟩ := hY _ j wr hJ (by rw [dn_len]; omega)
      have HST := Lib.hid (dn_step q j (by omega))
      unfold pv at hy
      clear c0 c1 HZ
      gi_wp2
      refine hR.mono ?_
      rintro e W3 (⟨rfl, hJ3, hk3⟩ | ⟨rfl, hJx3⟩)
      · gi_wp2
        go_roundw
        case rel => exact ⟨j, _, by omega, rfl, by omega, by rw [← HST.out]; exact hJ3, hL.trans hk3⟩
        case measure => simp [intOf]
      · gi_wp2
        refine bodyPost_ret (results_none rfl _ _ _) rfl ?_
        exact ⟨⟨_, rfl⟩, .inr ⟨_, ⟨j, by omega, HST.out⟩, hJx3⟩⟩

theorem back_stops (n : Nat) (hn : 1 ≤ n) (Bs n₀ db off q cap : Nat) (a : Option Addr) (ha : q = 0 ∨ a = some ⟨db, off, none⟩) (hq : q ≤ 1000000)
    (hBs : Bs < n₀) (hdb : db < n₀) (f : Nat → Int) (s : Nat → Option Addr × Nat × Nat) (w : World) (hn₀ : n₀ ≤ w.heap.size) (hs : w.cell? ⟨Bs, 0, none⟩ = some (.slice a q cap))
    (hc : ∀ x, x < q → w.cell? ⟨db, off + x * 2, none⟩ = some (.int .i64 (f x)) ∧ w.cell? ⟨db, off + x * 2 + 1, none⟩ = some (.slice (s x).1 (s x).2.1 (s x).2.2)) :
    SeqStopsK Fence.wide n Try.prog 40 #[.pointer (some ⟨Bs, 0, none⟩)] (fun x : Nat => #[.int .i64 x, pv f s x]) (Below n₀) (fun ys => ys = dn q 0) (fun pre => ∃ k, k < q ∧ pre = dn q k) q w :=
  fun l J Jx W hW hJ _ hY h0 => by
    have hs' := (hW.cell (p := ⟨Bs, 0, none⟩) (by show Bs < _; omega)).trans hs
    exact back1_in n hn l Bs n₀ db off q cap a ha hq hBs hdb f s J Jx hY W hs' (fun x hx => ⟨(hW.cell (p := ⟨db, off + x * 2, none⟩) (by show db < _; omega)).trans (hc x hx).1, (hW.cell (p := ⟨db, off + x * 2 + 1, none⟩) (by show db < _; omega)).trans (hc x hx).2⟩) h0

set_option maxHeartbeats 400000 in
theorem back_any (w : World) (a : Option Addr) (len cap : Nat) : Calls Try.prog 38 #[.slice a len cap] w fun e w' =>
    e = .returned (.func (.func 40) #[] #[.pointer (some ⟨w.heap.size, 0, none⟩)]) ∧ w'.cell? ⟨w.heap.size, 0, none⟩ = some (.slice a len cap) ∧ Below w.heap.size w w' ∧ w'.heap.size = w.heap.size + 1 := by
  go_enter Try.func38, Try.ntmps38
  go_wp2
  go_ret
  exact ⟨rfl, by go_cell, by go_grown, by simp⟩
end Go.Proofs.Ytmklchjgiaomkaa
