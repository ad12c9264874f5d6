/- slices.Chunk over bytes, 64 at a time: the iterator's contract. The first state; slices.Chunk's function; what it gives a loop. digest.Sum is SHA-256. digest.Sum is SHA-256, where the slice has no room behind whole blocks. digest.Sum of an empty slice without room, wherever it points. digest.Sum of nil. slices.Grow of nil and slices.Concat of two rows of bytes. slices.Concat of two rows of bytes. digest.Tagged. digest.Tagged: the hash of the hash of the tag and the bytes. Rows of digests; equality of digests; what is appended; steps of regions whose order is drawn. -/
import Derived.Test.YtfmngeemhfpeiaaDoorMA
import Derived.RangeFuncNested
import Derived.RangeFuncBound
import Derived.RangeFuncCalls
import Derived.RangeFuncLeaves
import Derived.Shelf.Abstract
import Derived.Shelf.RegionOpen
import Derived.WalkKit
import Derived.OwnWalkIn
import Derived.TacticsInMore
import Derived.LoopNIn
import Derived.LoopIn
import Derived.Laws.EntriesVeiled
import Derived.Lib.AppendZeros
import Derived.Deep.DeepAppendRoom
import Derived.Deep.Upon
import Derived.Lib.ConvBytes
import Derived.Deep.AppendLies
import Derived.Lib.SlBytesConst
import Derived.Deep.RegionHeld3
import Derived.DeepKeys
import Derived.LoopTactic
import Derived.Deep.DeepCutAuto
namespace Go.Proofs.YtfmngeemhfpeiaaDoor
open Go.RowKit Go.Shelf
attribute [local go_sem] Oper.semAt_some

/-- What a round keeps: the blocks below n₀, but sb. -/
def LowBut (n₀ sb : Nat) (W W' : World) : Prop := W.heap.size ≤ W'.heap.size ∧ ∀ b, b < n₀ → b ≠ sb → W'.heap[b]? = W.heap[b]?
theorem LowBut.refl (n₀ sb : Nat) (W : World) : LowBut n₀ sb W W := ⟨Nat.le_refl _, fun _ _ _ => rfl⟩
theorem LowBut.trans {n₀ sb : Nat} {A B C : World} (h : LowBut n₀ sb A B) (k : LowBut n₀ sb B C) : LowBut n₀ sb A C := ⟨Nat.le_trans h.1 k.1, fun b h1 h2 => (k.2 b h1 h2).trans (h.2 b h1 h2)⟩
theorem LowBut.cell {n₀ sb : Nat} {W W' : World} (h : LowBut n₀ sb W W') {b i : Nat} (h1 : b < n₀) (h2 : b ≠ sb) : W'.cell? ⟨b, i, none⟩ = W.cell? ⟨b, i, none⟩ := by
  simp [World.cell?, h.2 b h1 h2]
theorem lowBut_b {n₀ sb : Nat} {w : World} (hn : n₀ ≤ w.heap.size) (W : World) (l : Nat) (o o' : Obj) (hl : w.heap.size ≤ l) (h : W.heap[l]? = some o) (_ : o.isCells = false) (_ : o.isWalk = false) : LowBut n₀ sb W (W.putObj l o') := by
  have hg := belowK_b (n₀ := n₀) hn W l o o' hl h (by assumption) (by assumption)
  exact ⟨hg.size, fun b h1 _ => hg.block b h1⟩

theorem take_fin {m k : Nat} (h : k < m) : (List.finRange m).take (k + 1) = (List.finRange m).take k ++ [⟨k, h⟩] := by
  have hl : k < (List.finRange m).length := by simpa using h
  rw [List.take_add_one, List.getElem?_eq_getElem hl]
  simp

set_option maxRecDepth 100000 in
set_option maxHeartbeats 2000000 in
theorem chunk1_in (n : Nat) (hn : 1 ≤ n) (l Bs Bn n₀ sb db off m cap : Nat) (a : Option Addr) (ha : m = 0 ∨ a = some ⟨db, off, none⟩) (hm : 64 * m ≤ cap) (hc : cap ≤ 9223372036854775807)
    (hBs : Bs < n₀) (hBs' : Bs ≠ sb) (hBn : Bn < n₀) (hBn' : Bn ≠ sb) (J Jx : List (Fin m) → World → Prop)
    (hY : ∀ pre (x : Fin m) W, J pre W → pre.length < m → YieldAt Fence.wide (n - 1) Tryd.prog l #[.slice (some ⟨db, off + 64 * x.1, none⟩) 64 64] W fun e W' =>
      (e = .returned (.bool true) ∧ J (pre ++ [x]) W' ∧ LowBut n₀ sb W W') ∨ (e = .returned (.bool false) ∧ Jx (pre ++ [x]) W'))
    (hJd : ∀ pre W q, J pre W → J pre (W.drewN q)) (W : World) (hs : W.cell? ⟨Bs, 0, none⟩ = some (.slice a (64 * m) cap)) (hk : W.cell? ⟨Bn, 0, none⟩ = some (.int .i64 64)) (h0 : J [] W) :
    CallsIn Fence.wide n Tryd.prog 84 #[.func (.yield l) #[] #[], .pointer (some ⟨Bs, 0, none⟩), .pointer (some ⟨Bn, 0, none⟩)] W fun e W' => (∃ v, e = .returned v) ∧
      ((∃ ys, ys = List.finRange m ∧ J ys W') ∨ (∃ pre, True ∧ Jx pre W')) := by
  refine callsIn_of_wp Tryd.func84 rfl trivial ?_ rfl
  have hmx : Tryd.prog.follows .mixedOrders = true := by kernel_rfl
  simp only [Tryd.ntmps84, List.size_toArray, List.length_cons, List.length_nil, Nat.reduceAdd, Nat.reduceSub, Array.replicate_succ, Array.replicate_zero, List.push_toArray, List.append_toArray, List.nil_append, List.cons_append]
  gi_wp2
  gi_loopw [4] (fun i wr => ∃ k : Nat, k ≤ m ∧ i = .int .i64 (64 * k : Nat) ∧ J ((List.finRange m).take k) wr ∧ LowBut n₀ sb W wr)
    (fun i _ => 64 * m - (intOf i).toNat)
  case atStart => exact ⟨0, Nat.zero_le _, rfl, h0, LowBut.refl _ _ _⟩
  case round =>
    obtain ⟨k, hkm, rfl, hJ, hL⟩ := hrel
    have hs' : wr.cell? ⟨Bs, 0, none⟩ = some (.slice a (64 * m) cap) := (hL.cell hBs hBs').trans hs
    have hk' : wr.cell? ⟨Bn, 0, none⟩ = some (.int .i64 64) := (hL.cell hBn hBn').trans hk
    by_cases hlt : k < m
    · obtain rfl := ha.resolve_left (by omega)
      have d1 : decide (((64 * k : Nat) : Int) < ((64 * m : Nat) : Int)) = true := by simp; omega
      have HMIN : Hid (¬ (((64 * m - 64 * k : Nat) : Int) < 64)) := by show ¬ _; omega
      have q1 : IntKind.i64.wrap (64 * (k : Int) + 64) = ((64 * k + 64 : Nat) : Int) := by rw [IntKind.wrap_i64]; omega
      have q2 : ((64 * k + 64 : Nat) : Int) ≤ (cap : Int) := by omega
      have q3 : ((64 * k : Nat) : Int) ≤ ((64 * k + 64 : Nat) : Int) := by omega
      have q4 : 64 * k + 64 ≤ cap := by omega
      have q5 : 64 * k + 64 - 64 * k = 64 := by omega
      gi_wp2
      gi_big_quiet_th_o (fail)
      obtain ⟨W1, hW1⟩ : ∃ W1, W1 = wr.drewN nq := ⟨_, rfl⟩
      rw [← hW1]
      have hs1 : W1.cell? ⟨Bs, 0, none⟩ = some (.slice (some ⟨db, off, none⟩) (64 * m) cap) := by rw [hW1]; exact hs'
      have hJ1 : J ((List.finRange m).take k) W1 := by rw [hW1]; exact hJd _ _ _ hJ
      have hL1 : LowBut n₀ sb W W1 := by rw [hW1]; exact hL
      obtain ⟨fn, tmps, assign, body, hy, hR⟩ := hY _ ⟨k, hlt⟩ W1 hJ1 (by simp; omega)
      dsimp only at hy
      clear hW1 hs' hk'
      gi_wp2
      refine hR.mono ?_
      rintro e W3 (⟨rfl, hJ3, hk3⟩ | ⟨rfl, hJx3⟩)
      · have hn3 : W3.cell? ⟨Bn, 0, none⟩ = some (.int .i64 64) := ((hL1.trans hk3).cell hBn hBn').trans hk
        gi_wp2
        go_roundw
        case rel => exact ⟨k + 1, by omega, by simp; omega, by rw [take_fin hlt]; exact hJ3, hL1.trans hk3⟩
        case measure => simp [intOf]; omega
      · gi_wp2
        refine bodyPost_ret (results_none rfl _ _ _) rfl ?_
        exact ⟨⟨_, rfl⟩, .inr ⟨_, trivial, hJx3⟩⟩
    · obtain rfl : k = m := by omega
      have hJ' : J (List.finRange k) wr := by have := hJ; rwa [List.take_of_length_le (by simp)] at this
      gi_wp2
      go_end0
      exact ⟨⟨_, rfl⟩, .inl ⟨_, rfl, hJ'⟩⟩
end Go.Proofs.YtfmngeemhfpeiaaDoor

namespace Go.Proofs.YtfmngeemhfpeiaaDoor
open Go.RowKit Go.Shelf

set_option maxRecDepth 100000 in
set_option maxHeartbeats 2000000 in
theorem first_any (w : World) : Calls Tryd.prog 57 #[] w fun e w' => e = .returned (.agg #[.int .u32 1779033703, .int .u32 3144134277, .int .u32 1013904242, .int .u32 2773480762, .int .u32 1359893119, .int .u32 2600822924, .int .u32 528734635, .int .u32 1541459225]) ∧ Below w.heap.size w w' := by
  go_enter Tryd.func57, Tryd.ntmps57
  go_wp2
  go_returns
  exact ⟨rfl, by go_grown⟩

set_option maxRecDepth 100000 in
set_option maxHeartbeats 2000000 in
theorem chunk_any (w : World) (a : Option Addr) (len cap : Nat) : Calls Tryd.prog 59 #[.slice a len cap, .int .i64 64] w fun e w' =>
    e = .returned (.func (.func 84) #[] #[.pointer (some ⟨w.heap.size, 0, none⟩), .pointer (some ⟨w.heap.size + 1, 0, none⟩)])
    ∧ w'.cell? ⟨w.heap.size, 0, none⟩ = some (.slice a len cap) ∧ w'.cell? ⟨w.heap.size + 1, 0, none⟩ = some (.int .i64 64) ∧ Below w.heap.size w w' ∧ w'.heap.size = w.heap.size + 2 := by
  go_enter Tryd.func59, Tryd.ntmps59
  go_wp2
  go_ret
  exact ⟨rfl, by go_cell, by go_cell, by go_grown, by simp⟩

theorem s0_lit : (#[.int .u32 1779033703, .int .u32 3144134277, .int .u32 1013904242, .int .u32 2773480762, .int .u32 1359893119, .int .u32 2600822924, .int .u32 528734635, .int .u32 1541459225] : Array Value).toList = ws s0.list := rfl
/-- Chunk number k of the bytes L. -/
def chunkAt (L : List UInt8) (k : Nat) : List UInt8 := (L.drop (64 * k)).take 64

theorem chunk_stops (n : Nat) (hn : 1 ≤ n) (Bs Bn n₀ sb db off m cap : Nat) (a : Option Addr) (ha : m = 0 ∨ a = some ⟨db, off, none⟩) (hm : 64 * m ≤ cap) (hc : cap ≤ 9223372036854775807)
    (hBs : Bs < n₀) (hBs' : Bs ≠ sb) (hBn : Bn < n₀) (hBn' : Bn ≠ sb) (w : World) (hn₀ : n₀ ≤ w.heap.size) (hs : w.cell? ⟨Bs, 0, none⟩ = some (.slice a (64 * m) cap)) (hk : w.cell? ⟨Bn, 0, none⟩ = some (.int .i64 64)) :
    SeqStopsK Fence.wide n Tryd.prog 84 #[.pointer (some ⟨Bs, 0, none⟩), .pointer (some ⟨Bn, 0, none⟩)] (fun x : Fin m => #[Value.slice (some ⟨db, off + 64 * x.1, none⟩) 64 64]) (LowBut n₀ sb) (fun ys => ys = List.finRange m) (fun _ => True) m w :=
  fun l J Jx W hW hJ _ hY h0 => by
    have hs' := (hW.cell (p := ⟨Bs, 0, none⟩) (by show Bs < _; omega)).trans hs
    have hk' := (hW.cell (p := ⟨Bn, 0, none⟩) (by show Bn < _; omega)).trans hk
    exact chunk1_in n hn l Bs Bn n₀ sb db off m cap a ha hm hc hBs hBs' hBn hBn' J Jx hY (fun pre V q h => hJ pre V (V.drewN q) none h ⟨rfl, rfl, rfl, Nat.le_refl _, fun _ _ _ => rfl⟩ (fun _ e => by cases e)) W hs' hk' h0

theorem runs_fold (s : St) (L : List UInt8) : ∀ m, runs s L m = (List.range m).foldl (fun t k => press t (chunkAt L k)) s := by
  intro m
  suffices h : ∀ m s j, runs s (L.drop (64 * j)) m = (List.range' j m).foldl (fun t k => press t (chunkAt L k)) s by
    have := h m s 0
    simpa [List.range_eq_range'] using this
  intro m
  induction m with
  | zero => intro s j; rfl
  | succ m ih =>
    intro s j
    rw [runs, List.range'_succ, List.foldl_cons, List.drop_drop, show 64 * j + 64 = 64 * (j + 1) by omega, ih]
    rfl
theorem fold_fin (s : St) (L : List UInt8) (m : Nat) : (List.finRange m).foldl (fun t (k : Fin m) => press t (chunkAt L k.1)) s = runs s L m := by
  rw [runs_fold]
  have : (List.range m) = (List.finRange m).map (·.1) := List.ext_getElem (by simp) (by intro i h1 h2; simp [List.finRange])
  rw [this, List.foldl_map]

theorem chunk_len (L : List UInt8) {k : Nat} (h : 64 * (k + 1) ≤ L.length) : (chunkAt L k).length = 64 := by simp [chunkAt]; omega
theorem BytesIn.chunk {W : World} {db off k : Nat} {L : List UInt8} (hb : BytesIn W db off L) (h : 64 * (k + 1) ≤ L.length) : BytesIn W db (off + 64 * k) (chunkAt L k) := fun i hi => by
  have hi' : i < 64 := by rw [chunk_len L h] at hi; exact hi
  rw [Nat.add_assoc, hb (64 * k + i) (by omega)]
  simp [chunkAt]
theorem Arr.same {W W' : World} {b : Nat} {cs : List Value} (h : Arr W b cs) (e : W'.heap[b]? = W.heap[b]?) : Arr W' b cs := by
  have hc : ∀ j, W'.cell? ⟨b, j, none⟩ = W.cell? ⟨b, j, none⟩ := fun j => by simp [World.cell?, e]
  have hf : ∀ j, W'.frozen? ⟨b, j, none⟩ = W.frozen? ⟨b, j, none⟩ := fun j => by simp [World.frozen?, e]
  exact ⟨fun j v hv => (hc _).trans (h.at_ j v hv), fun j hj => ⟨by rw [hc]; exact (h.there j hj).1, by rw [hf]; exact (h.there j hj).2⟩⟩

/-- What holds while chunks come: the state; what lay. -/
def Loop (w w2 : World) (sb n₀ : Nat) (L : List UInt8) (s : St) (ks : List Nat) (W : World) : Prop :=
  (Arr W sb (ws (ks.foldl (fun t k => press t (chunkAt L k)) s).list) ∧ LowBut n₀ sb w2 W) ∧ Below w.heap.size w W
theorem loop_own {w w2 : World} {sb n₀ m : Nat} {L : List UInt8} {s : St} (hsb : sb < n₀) (hn : n₀ ≤ w2.heap.size) (hw : w.heap.size ≤ w2.heap.size) : OwnFrom w2.heap.size (fun (pre : List (Fin m)) W => Loop w w2 sb n₀ L s (pre.map (·.1)) W) := by
  intro pre W W' row ⟨⟨hA, hL⟩, hB⟩ hg hr
  have hsz := hL.1
  have hne : ∀ b, b < n₀ → W'.heap[b]? = W.heap[b]? := fun b hb => hg.block b (by omega) (fun e => by have := (hr b e.symm).1; omega)
  exact ⟨⟨hA.same (hne sb hsb), Nat.le_trans hL.1 hg.size, fun b h1 h2 => (hne b h1).trans (hL.2 b h1 h2)⟩, hB.grown hg (by omega) (fun k e => by have := (hr k e).1; omega)⟩
theorem loop_step {w w2 W W' : World} {sb n₀ : Nat} {L : List UInt8} {s : St} {ks : List Nat} {k : Nat} (hsb : sb < n₀) (hws : w.heap.size ≤ sb) (hn : n₀ ≤ w2.heap.size) (h : Loop w w2 sb n₀ L s ks W)
    (hA : Arr W' sb (ws (press (ks.foldl (fun t k => press t (chunkAt L k)) s) (chunkAt L k)).list)) (hg : W.grownBy W' (some sb)) : Loop w w2 sb n₀ L s (ks ++ [k]) W' ∧ LowBut n₀ sb W W' ∧ KeepsOthers W W' := by
  obtain ⟨⟨hA0, hL⟩, hB⟩ := h
  have hsz := hL.1
  have hlow : LowBut n₀ sb W W' := ⟨hg.size, fun b h1 h2 => hg.block b (by omega) (fun e => h2 (Option.some.inj e))⟩
  refine ⟨⟨⟨?_, hL.trans hlow⟩, hB.grown hg (by omega) (fun k e => by cases e; exact hws)⟩, hlow, ?_⟩
  · rw [List.foldl_append]; exact hA
  · refine KeepsOthers.of_grownBy hg (fun j o e ho => ?_)
    cases e
    obtain ⟨v, hv⟩ := Option.isSome_iff_exists.1 (hA0.there 0 (by simp [ws, St.list])).1
    cases o with
    | cells C t fr => rfl
    | _ => simp [World.cell?, ho] at hv

theorem rest_at {W : World} {B db off cap m r : Nat} {b : List UInt8} (hb : BytesIn W db off b) (hbl : b.length = 64 * m + r) (hdb : db < B) (hcap : 64 * m + r ≤ cap) (hm : cap ≤ maxLen) :
    BytesAt W B (.slice (if cap = 64 * m then some ⟨db, off, none⟩ else some ⟨db, off + 64 * m, none⟩) r (cap - 64 * m)) (b.drop (64 * m)) := by
  have hl : (b.drop (64 * m)).length = r := by simp; omega
  refine ⟨_, _, by rw [hl], by rw [hl]; omega, by omega, ?_⟩
  by_cases h0 : r = 0
  · exact .inl (List.length_eq_zero_iff.1 (by omega))
  · refine .inr ⟨db, off + 64 * m, if_neg (by omega), hdb, fun i hi => ?_⟩
    rw [hl] at hi
    rw [Nat.add_assoc, hb (64 * m + i) (by omega)]
    simp
theorem ending_cast (w : World) (v : Value) (l : List UInt8) (size r m2 : Nat) (z : Int) (hz : z = (size : Int)) (hr : l.length = r) (hm2 : endOf r = 64 * m2) (hv : BytesAt w w.heap.size v l) (hn : r < 64) (hsz : size < 1000000000000) :
    Calls Tryd.prog 60 #[v, .int .i64 z] w fun e w' => ∃ g, e = .returned (.slice (some ⟨g, 0, none⟩) (64 * m2) 128) ∧ w.heap.size ≤ g ∧ g < w'.heap.size ∧ BytesIn w' g 0 (tailOf l size) ∧ Below w.heap.size w w' := by
  subst hz; subst hr
  rw [← hm2]
  exact ending_any w v l size hv hn hsz
/-- The padded bytes: the whole blocks, and their end. -/
theorem pad_split (b : List UInt8) (m r : Nat) (hbl : b.length = 64 * m + r) (hr : r < 64) : pad b = b.take (64 * m) ++ tailOf (b.drop (64 * m)) b.length := by
  have h1 : (b.drop (64 * m)).length % 64 = b.length % 64 := by simp; omega
  unfold pad tailOf
  rw [h1, ← List.append_assoc, List.take_append_drop]
theorem runs_add (s : St) (L : List UInt8) (a : Nat) : ∀ c, runs s L (a + c) = runs (runs s L a) (L.drop (64 * a)) c := by
  induction a generalizing s L with
  | zero => intro c; simp [runs]
  | succ a ih =>
    intro c
    rw [show a + 1 + c = (a + c) + 1 by omega, runs, runs, ih, List.drop_drop, show 64 + 64 * a = 64 * (a + 1) by omega]
theorem runs_app (L R : List UInt8) : ∀ (m : Nat) (s : St), 64 * m ≤ L.length → runs s (L ++ R) m = runs s L m
  | 0, _, _ => rfl
  | m + 1, s, h => by
    rw [runs, runs, List.take_append_of_le_length (by omega), List.drop_append_of_le_length (by omega), runs_app (L.drop 64) R m _ (by simp; omega)]
theorem sha_split (b : List UInt8) (m r m2 : Nat) (hbl : b.length = 64 * m + r) (hr : r < 64) (hm2 : endOf r = 64 * m2) :
    sha b = outs (runs (runs s0 b m) (tailOf (b.drop (64 * m)) (64 * m + r)) m2) := by
  have hd : (b.drop (64 * m)).length = r := by simp; omega
  have hp := pad_split b m r hbl hr
  have hl : (pad b).length = 64 * (m + m2) := by
    rw [hp, List.length_append, tail_len _ _ (by omega), hd, hm2, List.length_take]; omega
  have e1 : (pad b).drop (64 * m) = tailOf (b.drop (64 * m)) b.length := by rw [hp, List.drop_left' (by simp; omega)]
  have e2 : runs s0 (pad b) m = runs s0 b m := by
    have h3 : pad b = b ++ (0x80 :: (List.replicate ((119 - b.length % 64) % 64) 0 ++ be64 (8 * b.length))) := rfl
    rw [h3, runs_app b _ m s0 (by omega)]
  unfold sha outs
  rw [hl, Nat.mul_div_cancel_left _ (by omega : 0 < 64), runs_add, e1, e2, hbl]

theorem heap_setCells_other (b : Nat) {k : Nat} (hk : k ≠ b) : ∀ (vs : List Value) (o : Nat) (w : World), (w.setCells b o vs).heap[k]? = w.heap[k]?
  | [], _, _ => rfl
  | v :: r, o, w => by
    rw [World.setCells, heap_setCells_other b hk r (o + 1) _]
    exact Below.heap_setCell _ _ _ _ (by first | exact hk | exact hk.symm)
theorem store_newIn {F : Fence} {n : Nat} {P : Program} {ops : Array Oper} {rest : List Oper} {op : Oper} {a : Act} {w w0 : World} {Q : Exit → Act → World → Prop} (hgd : op.guard = none) (ty : TypeId) (x y : Operand) (ho : op.op = .store ty x y)
    (B b : Nat) (cs old : List Value) (hx : a.eval x = .pointer (some ⟨b, 0, none⟩)) (hy : a.eval y = .agg cs.toArray) (hB : Below B w0 w) (hb : B ≤ b) (ht : Arr w b old) (hl : cs.length = old.length)
    (hi : (P.info? ty).map (·.size) = some cs.length) (h1 : ∀ v ∈ cs, v.oneCell' = true) (h : ∀ W, Below B w0 W → Arr W b cs → (∀ k, k ≠ b → W.heap[k]? = w.heap[k]?) → wpListIn F n P ops Q rest (a.put op.dst undef) W) : wpListIn F n P ops Q (op :: rest) a w := by
  refine wpListIn_plain hgd fun K hK' => ?_
  have hrun := run_storeAt_mid (P := P) w b 0 ty cs.toArray (by rw [List.size_toArray, hl]; exact ht.there) (by simpa using hi) (all_oneCell_toArray h1)
  unfold Oper.wpIn
  refine ⟨?_, ?_⟩
  · simp [Oper.about, ho]
  · rw [Oper.semAt_plain F _ _ (by rw [ho]; intro c hc'; cases hc')]
    simp only [execOp, ho, hx, hy, Sem.run_bind, hrun, Result.andThen_ok, Sem.run_pure]
    exact hK' _ _ (h _ (below_setCells hb _ _ _ hB) (ht.stored hl) (fun k hk => heap_setCells_other b hk _ _ _))
end Go.Proofs.YtfmngeemhfpeiaaDoor

namespace Go.Proofs.YtfmngeemhfpeiaaDoor
open Go.RowKit Go.Shelf
attribute [local go_sem] Oper.semAt_some

set_option maxRecDepth 100000 in
set_option maxHeartbeats 4000000 in
theorem sum_some (w : World) (db off cap m r : Nat) (b : List UInt8) (hbl : b.length = 64 * m + r) (hr : r < 64) (hb : BytesIn w db off b) (hdb : db < w.heap.size) (hcap : 64 * m + r ≤ cap) (hlt : 64 * m < cap) (hm : cap ≤ maxLen) (hl : 64 * m + r < 1000000000) (hT : Tab w) (h0 : 0 < w.heap.size) :
    Calls Tryd.prog 27 #[.slice (some ⟨db, off, none⟩) (64 * m + r) cap] w fun e w' => e = .returned (dv (sha b)) ∧ Below w.heap.size w w' := by
  unfold maxLen at hm
  have hmod : (64 * (m : Int) + (r : Int)) % 64 = (r : Int) := by omega
  have HB := Lib.hid hb
  have HT := Lib.hid hT
  clear hb hT
  refine (callsIn_wide (n := 9)).1 ?_
  refine callsIn_of_wp_marks Tryd.func27 rfl trivial ?_ rfl
  simp only [Tryd.ntmps27, List.size_toArray, List.length_cons, List.length_nil, Nat.reduceAdd, Nat.reduceSub, Array.replicate_succ, Array.replicate_zero, List.push_toArray, List.append_toArray, List.nil_append, List.cons_append]
  have i1 : ((64 * m : Nat) : Int) ≤ (cap : Int) := by omega
  have i2 : (0 : Int) ≤ ((64 * m : Nat) : Int) := by omega
  have i3 : 64 * m ≤ cap := by omega
  gi_wp2_with fail
  refine ⟨trivial, ?_⟩
  refine (callsIn_wide.2 (first_any _)).mono ?_
  rintro e w1 ⟨rfl, hB1⟩
  have hA0 := Arr.new (w1.alloc (.cells #[.int .u32 1779033703, .int .u32 3144134277, .int .u32 1013904242, .int .u32 2773480762, .int .u32 1359893119, .int .u32 2600822924, .int .u32 528734635, .int .u32 1541459225] 76)) #[.nilFunc] 78
  rw [World.size_alloc] at hA0
  have hc1 := hA0.cell (i := 0) (v := .nilFunc) rfl
  have hc2 := hA0.frozen (i := 0) (by simp)
  clear hA0
  have hBw1 : Below w.heap.size w w1 := ((Below.refl w.heap.size w).alloc (Nat.le_refl _) _).trans (hB1.mono (by simp))
  have hD1 := (Arr.new w _ 30).below hB1 (by simp)
  have HB1 := Lib.hid hBw1
  have HD1 := Lib.hid hD1
  have hw1 : w.heap.size < w1.heap.size := by have := hB1.size; simp at this; omega
  clear hB1 hBw1 hD1
  gi_wp2_with fail
  refine ⟨trivial, ?_⟩
  refine (callsIn_wide.2 (chunk_any _ _ _ _)).mono ?_
  rintro e w2 ⟨rfl, hcs, hcn, hB2, hz2⟩
  have hS2 : Arr w2 w1.heap.size (ws s0.list) := by
    have h1 := Arr.new w1 #[.int .u32 1779033703, .int .u32 3144134277, .int .u32 1013904242, .int .u32 2773480762, .int .u32 1359893119, .int .u32 2600822924, .int .u32 528734635, .int .u32 1541459225] 76
    rw [s0_lit] at h1
    exact ((h1.alloc (by simp) _)).below hB2 (by simp; omega)
  have hF2 : w2.cell? ⟨w1.heap.size + 1, 0, none⟩ = some (.func (.func 58) #[.pointer (some ⟨w1.heap.size, 0, none⟩)] #[]) := by
    refine (hB2.cell (p := ⟨w1.heap.size + 1, 0, none⟩) (by simp)).trans ?_
    go_cell
  have hBw2 : Below w.heap.size w w2 :=
    HB1.out.trans ((((Below.refl w.heap.size w1).alloc (by omega) _).alloc (by simp; omega) _).trans (hB2.mono (by simp; omega)))
  have hD2 : Arr w2 w.heap.size _ := ((HD1.out.alloc hw1 _).alloc (by simp; omega) _).below hB2 (by simp; omega)
  simp only [World.size_alloc] at hcs hcn hz2
  obtain ⟨sb, hsb⟩ : ∃ sb, w1.heap.size = sb := ⟨_, rfl⟩
  rw [hsb] at hcs hcn hz2 hS2 hF2 hw1
  have HD2 := Lib.hid hD2
  clear hB2 HD1 HB1 hc1 hc2 hD2
  gi_wp2_with fail
  have hl1 : Loop w w2 sb (sb + 4) b s0 (([] : List (Fin m)).map (·.1)) w2 := ⟨⟨hS2, LowBut.refl _ _ _⟩, hBw2⟩
  refine wpIn_rangeFunc_ownF rfl (by omega) (gf := 84) (lb := #[.pointer (some ⟨sb + 1 + 1, 0, none⟩), .pointer (some ⟨sb + 1 + 1 + 1, 0, none⟩)]) rfl trivial (enters_of Tryd.func84 (by kernel_rfl) rfl)
    (chunk_stops 8 (by omega) (sb + 1 + 1) (sb + 1 + 1 + 1) (sb + 4) sb db off m cap (some ⟨db, off, none⟩) (.inr rfl) i3 (by omega) (by omega) (by omega) (by omega) (by omega) w2 (by omega) hcs hcn)
    LowBut.trans (lowBut_b (by omega)) (Below.refl _ _) (fun _ => rfl)
    (fun pre W => Loop w w2 sb (sb + 4) b s0 (pre.map (·.1)) W) (fun _ _ _ => False)
    (loop_own (by omega) (by omega) (by omega)) (fun _ _ _ _ _ hs _ _ => hs) hl1
    (fun x => { tmps := #[.slice (some ⟨db, off, none⟩) (64 * m + r) cap, undef, .pointer (some ⟨w.heap.size, 0, none⟩), .int .i64 (64 * (m : Int)), .pointer (some ⟨sb, 0, none⟩), .pointer (some ⟨sb + 1, 0, none⟩), (.slice (some ⟨db, off + 64 * x.1, none⟩) 64 64), undef, .slice (some ⟨db, off, none⟩) (64 * m + r) cap, .int .i64 (64 * (m : Int) + (r : Int)), .slice (some ⟨db, off, none⟩) (64 * m + r) cap, .int .i64 (64 * (m : Int) + (r : Int)), .int .i64 (r : Int), .int .i64 (64 * (m : Int)), .agg #[.int .u32 1779033703, .int .u32 3144134277, .int .u32 1013904242, .int .u32 2773480762, .int .u32 1359893119, .int .u32 2600822924, .int .u32 528734635, .int .u32 1541459225], .func (.func 58) #[.pointer (some ⟨sb, 0, none⟩)] #[], .slice (some ⟨db, off, none⟩) (64 * m + r) cap, .int .i64 (64 * (m : Int)), .slice (some ⟨db, off, none⟩) (64 * m) cap, .func (.func 84) #[] #[.pointer (some ⟨sb + 1 + 1, 0, none⟩), .pointer (some ⟨sb + 1 + 1 + 1, 0, none⟩)], (.slice (some ⟨db, off + 64 * x.1, none⟩) 64 64), undef, undef, undef, undef, undef, undef, undef, undef, undef, undef, undef, undef, undef, undef, undef], defers := [] }) ?assign ?body ?done ?stop
  case assign =>
    intro l x W K hK
    gi_wp2
    exact hK
  case body =>
    rintro l pre x W hL _
    have hLL := hL
    obtain ⟨⟨hA, hLo⟩, hBW⟩ := hL
    have hx := x.2
    have hab := absorb_any W sb db (off + 64 * x.1) _ (chunkAt b x.1) (HT.out.below hBW h0) (by have := hBW.size; omega) hA (by have := hLo.1; omega) (chunk_len b (by omega)) ((HB.out.below hBW hdb).chunk (by omega)) (by have := hBW.size; omega)
    have hfc : W.cell? ⟨sb + 1, 0, none⟩ = some (.func (.func 58) #[.pointer (some ⟨sb, 0, none⟩)] #[]) := (hLo.cell (by omega) (by omega)).trans hF2
    have HAB := Lib.hid hab
    have HLL := Lib.hid hLL
    clear hab hLL hA hLo hBW
    gi_wp2_with fail
    refine ⟨trivial, ?_⟩
    refine (CallsIn.inRound l (callsIn_wide.2 HAB.out)).mono ?_
    rintro e W' ⟨⟨v, rfl⟩, hA', hG'⟩
    have HST := Lib.hid (loop_step (by omega) (by omega) (by omega) HLL.out hA' hG')
    clear hA' hG'
    gi_wp2_with fail
    exact ⟨HST.out.2.2, HST.out.2.1, by show Loop w w2 sb (sb + 4) b s0 (List.map _ (pre ++ [x])) W'; rw [List.map_append]; exact HST.out.1⟩
  case done =>
    rintro D ys W hD rfl hL hK
    obtain ⟨⟨hA, hLo⟩, hBW⟩ := hL
    have hst : ((List.finRange m).map (·.1)).foldl (fun t k => press t (chunkAt b k)) s0 = runs s0 b m := by rw [List.foldl_map]; exact fold_fin s0 b m
    rw [hst] at hA
    obtain ⟨m2, hm2, hm22⟩ : ∃ m2, endOf r = 64 * m2 ∧ m2 ≤ 2 := by
      by_cases h : 55 < r
      · exact ⟨2, if_pos h, by omega⟩
      · exact ⟨1, if_neg h, by omega⟩
    have hdl : (b.drop (64 * m)).length = r := by simp; omega
    have hWs := hBW.size
    have hra := rest_at (HB.out.below hBW hdb) hbl (by omega : db < W.heap.size) hcap (by unfold maxLen; omega)
    rw [if_neg (by omega : ¬ cap = 64 * m)] at hra
    have hend := ending_cast W _ (b.drop (64 * m)) (64 * m + r) r m2 (64 * (m : Int) + (r : Int)) (by omega) hdl hm2 hra hr (by omega)
    have hFW : W.cell? ⟨sb + 1, 0, none⟩ = some (.func (.func 58) #[.pointer (some ⟨sb, 0, none⟩)] #[]) := (hLo.cell (by omega) (by omega)).trans hF2
    have hDW := HD2.out.same (W' := W) (hLo.2 w.heap.size (by omega) (by omega))
    have hLsz := hLo.1
    have HEND := Lib.hid hend
    have HAW := Lib.hid hA
    have HBW := Lib.hid hBW
    have HFW := Lib.hid hFW
    have HDW := Lib.hid hDW
    have HK := Lib.hid hK
    clear hend hA hBW hFW hDW hLo hst hdl hK hra
    gi_wp2_with fail
    refine ⟨trivial, ?_⟩
    refine (callsIn_wide.2 HEND.out).mono ?_
    rintro e w3 ⟨g, rfl, hg1, hg2, hgb, hB3⟩
    gi_wp2_with fail
    refine ⟨trivial, ?_⟩
    refine (callsIn_wide.2 (chunk_any _ _ _ _)).mono ?_
    rintro e w5 ⟨rfl, hcs5, hcn5, hB5, hz5⟩
    have hB35 : Below W.heap.size W w5 := hB3.trans (hB5.mono hB3.size)
    have hz3 := hB3.size
    have hA5 := HAW.out.below hB35 (by omega)
    have hF5 : w5.cell? ⟨sb + 1, 0, none⟩ = some (.func (.func 58) #[.pointer (some ⟨sb, 0, none⟩)] #[]) := (hB35.cell (p := ⟨sb + 1, 0, none⟩) (by show sb + 1 < _; omega)).trans HFW.out
    have hDl : D < W.heap.size := (Array.getElem?_eq_some_iff.1 HK.out).1
    have hK5 : w5.heap[D]? = some (.deferred (some [])) := (hB35.block D hDl).trans HK.out
    have hD5 := HDW.out.below hB35 (by omega)
    have hBw5 : Below w.heap.size w w5 := HBW.out.trans (hB35.mono (by omega))
    have hgb5 := hgb.below hB5 hg2
    obtain ⟨T, hT2⟩ : ∃ T, tailOf (b.drop (64 * m)) (64 * m + r) = T := ⟨_, rfl⟩
    have hTl : T.length = 64 * m2 := by rw [← hT2, tail_len _ _ (by simp; omega), ← hm2]; congr 1; simp; omega
    rw [hT2] at hgb5
    obtain ⟨S1, hS1⟩ : ∃ S1, runs s0 b m = S1 := ⟨_, rfl⟩
    rw [hS1] at hA5
    have HT2 := Lib.hid hT2
    have HS1 := Lib.hid hS1
    have HA5 := Lib.hid hA5
    have HD5 := Lib.hid hD5
    have HK5 := Lib.hid hK5
    have HGB := Lib.hid hgb5
    have HBW5 := Lib.hid hBw5
    have HM2 := Lib.hid hm2
    have HM22 := Lib.hid hm22
    have HG1 := Lib.hid hg1
    have HG2 := Lib.hid hg2
    have HZ5 := Lib.hid hz5
    have HCS5 := Lib.hid hcs5
    have HCN5 := Lib.hid hcn5
    have HF5 := Lib.hid hF5
    have HTL := Lib.hid hTl
    have HDL := Lib.hid hDl
    have HZ3 := Lib.hid hz3
    clear hB35 hA5 hK5 hD5 hgb5 hgb hB3 HEND HAW HFW HDW HK HBW hB5 hT2 hS1 hBw5 hm2 hm22 hg1 hg2 hz5 hcs5 hcn5 hF5 hTl hDl hz3
    gi_wp2_with fail
    have hm2 := HM2.out
    have hm22 := HM22.out
    have hg1 := HG1.out
    have hg2 := HG2.out
    have hz5 := HZ5.out
    have hcs5 := HCS5.out
    have hcn5 := HCN5.out
    have hTl := HTL.out
    have hDl := HDL.out
    have hz3 := HZ3.out
    have hstops := chunk_stops 8 (by omega) w3.heap.size (w3.heap.size + 1) (w3.heap.size + 2) sb g 0 m2 128 (some ⟨g, 0, none⟩) (.inr rfl) (by omega) (by omega) (by omega) (by omega) (by omega) (by omega) w5 (by omega) hcs5 hcn5
    simp only [Nat.zero_add] at hstops
    have hl2 : Loop w w5 sb (w3.heap.size + 2) T S1 (([] : List (Fin m2)).map (·.1)) w5 := ⟨⟨HA5.out, LowBut.refl _ _ _⟩, HBW5.out⟩
    refine wpIn_rangeFunc_ownF rfl (by omega) (gf := 84) (lb := #[.pointer (some ⟨w3.heap.size, 0, none⟩), .pointer (some ⟨w3.heap.size + 1, 0, none⟩)]) rfl trivial (enters_of Tryd.func84 (by kernel_rfl) rfl)
      hstops
      LowBut.trans (lowBut_b (by omega)) (Below.refl _ _) (fun _ => rfl)
      (fun pre W => Loop w w5 sb (w3.heap.size + 2) T S1 (pre.map (·.1)) W) (fun _ _ _ => False)
      (loop_own (by omega) (by omega) (by omega)) (fun _ _ _ _ _ hs _ _ => hs) hl2
      (fun x => { tmps := #[.slice (some ⟨db, off, none⟩) (64 * m + r) cap, undef, .pointer (some ⟨w.heap.size, 0, none⟩), .int .i64 (64 * (m : Int)), .pointer (some ⟨sb, 0, none⟩), .pointer (some ⟨sb + 1, 0, none⟩), undef, (.slice (some ⟨g, 64 * x.1, none⟩) 64 64), .slice (some ⟨db, off, none⟩) (64 * m + r) cap, .int .i64 (64 * (m : Int) + (r : Int)), .slice (some ⟨db, off, none⟩) (64 * m + r) cap, .int .i64 (64 * (m : Int) + (r : Int)), .int .i64 (r : Int), .int .i64 (64 * (m : Int)), .agg #[.int .u32 1779033703, .int .u32 3144134277, .int .u32 1013904242, .int .u32 2773480762, .int .u32 1359893119, .int .u32 2600822924, .int .u32 528734635, .int .u32 1541459225], .func (.func 58) #[.pointer (some ⟨sb, 0, none⟩)] #[], .slice (some ⟨db, off, none⟩) (64 * m + r) cap, .int .i64 (64 * (m : Int)), .slice (some ⟨db, off, none⟩) (64 * m) cap, .func (.func 84) #[] #[.pointer (some ⟨sb + 1 + 1, 0, none⟩), .pointer (some ⟨sb + 1 + 1 + 1, 0, none⟩)], undef, undef, undef, undef, .slice (some ⟨db, off, none⟩) (64 * m + r) cap, .int .i64 (64 * (m : Int)), .slice (some ⟨db, off + 64 * m, none⟩) r (cap - 64 * m), .slice (some ⟨db, off, none⟩) (64 * m + r) cap, .int .i64 (64 * (m : Int) + (r : Int)), .slice (some ⟨g, 0, none⟩) (64 * m2) 128, .func (.func 84) #[] #[.pointer (some ⟨w3.heap.size, 0, none⟩), .pointer (some ⟨w3.heap.size + 1, 0, none⟩)], (.slice (some ⟨g, 64 * x.1, none⟩) 64 64), undef, undef, undef, undef], defers := [] }) ?assign2 ?body2 ?done2 ?stop2
    case assign2 =>
      clear hstops hm2 hm22 hg1 hg2 hz5 hcs5 hcn5 hTl hDl hz3
      intro l x W K hK
      gi_wp2
      exact hK
    case body2 =>
      rintro l pre x W' hL _
      have hLL := hL
      obtain ⟨⟨hA, hLo⟩, hBW⟩ := hL
      have hx := x.2
      have hg' : BytesIn W' g 0 T := fun i hi => (hLo.cell (by omega) (by omega)).trans (HGB.out i hi)
      have hch := hg'.chunk (k := x.1) (by omega)
      rw [Nat.zero_add] at hch
      have hab := absorb_any W' sb g (64 * x.1) _ (chunkAt T x.1) (HT.out.below hBW h0) (by have := hBW.size; omega) hA (by have := hLo.1; omega) (chunk_len T (by omega)) hch (by have := hLo.1; omega)
      have hfc : W'.cell? ⟨sb + 1, 0, none⟩ = some (.func (.func 58) #[.pointer (some ⟨sb, 0, none⟩)] #[]) := (hLo.cell (by omega) (by omega)).trans HF5.out
      have HAB := Lib.hid hab
      have HLL := Lib.hid hLL
      clear hab hLL hA hLo hBW hg' hch hstops hm2 hm22 hg1 hg2 hz5 hcs5 hcn5 hTl hDl hz3
      gi_wp2_with fail
      refine ⟨trivial, ?_⟩
      refine (CallsIn.inRound l (callsIn_wide.2 HAB.out)).mono ?_
      rintro e W'' ⟨⟨v, rfl⟩, hA', hG'⟩
      have HST := Lib.hid (loop_step (by have := HZ3.out; have := HDL.out; omega) (by omega) (by have := HZ5.out; omega) HLL.out hA' hG')
      clear hA' hG'
      gi_wp2_with fail
      exact ⟨HST.out.2.2, HST.out.2.1, by show Loop w w5 sb (w3.heap.size + 2) T S1 (List.map _ (pre ++ [x])) W''; rw [List.map_append]; exact HST.out.1⟩
    case done2 =>
      rintro D2 ys W' hDD rfl hL hK2
      obtain ⟨⟨hA, hLo⟩, hBW⟩ := hL
      have hst : ((List.finRange m2).map (·.1)).foldl (fun t k => press t (chunkAt T k)) S1 = runs S1 T m2 := by rw [List.foldl_map]; exact fold_fin S1 T m2
      rw [hst] at hA
      have hKD : W'.heap[D]? = some (.deferred (some [])) := (hLo.2 D (by omega) (by omega)).trans HK5.out
      have hDW := HD5.out.same (W' := W') (hLo.2 w.heap.size (by omega) (by omega))
      have hLsz := hLo.1
      have HA := Lib.hid hA
      have HKD := Lib.hid hKD
      have HDW := Lib.hid hDW
      have HKK2 := Lib.hid hK2
      have HBW := Lib.hid hBW
      have HLSZ := Lib.hid hLsz
      clear hA hKD hDW hK2 hBW hLo hLsz hm2 hm22 hg1 hg2 hz5 hcs5 hcn5 hTl hDl hz3 hst hstops
      gi_wp2_with fail
      have hdg := digest_any W' sb (runs S1 T m2) HA.out (by have := HLSZ.out; have := HZ5.out; have := HDL.out; have := HZ3.out; omega)
      have hcl : (cells8 (outs (runs S1 T m2))).length = 32 := by rw [cells8_len, outs_len]
      have ho1 := one_cells8 (outs (runs S1 T m2))
      unfold dv at hdg
      obtain ⟨cs, hcs7⟩ : ∃ cs, cells8 (outs (runs S1 T m2)) = cs := ⟨_, rfl⟩
      rw [hcs7] at hdg hcl ho1
      have HZ1 : Hid ((Tryd.prog.info? 30).map (·.size) = some cs.length) := by show _ = _; rw [hcl]; exact Tryd.info30
      have HDG := Lib.hid hdg
      have HO1 := Lib.hid ho1
      have HCL := Lib.hid hcl
      have HCS7 := Lib.hid hcs7
      clear hdg ho1 hcl hcs7
      refine ⟨trivial, ?_⟩
      refine (callsIn_wide.2 HDG.out).mono ?_
      rintro e w7 ⟨rfl, hB7⟩
      have HB7 := Lib.hid hB7
      clear hB7
      have hw7 : w.heap.size < W'.heap.size := by have := HLSZ.out; have := HZ5.out; have := HDL.out; have := HZ3.out; omega
      gi_wp2_with (refine store_newIn rfl 30 _ _ (by rfl) w.heap.size w.heap.size cs _ (by rfl) (by rfl) (HBW.out.trans (HB7.out.mono (by omega))) (Nat.le_refl _) (HDW.out.below HB7.out hw7) (by rw [HCL.out]; rfl) HZ1.out HO1.out ?_; intro W8 hB8 hA8 ho8)
      have hDlt : D < W'.heap.size := (Array.getElem?_eq_some_iff.1 HKD.out).1
      have hD2lt : D2 < W'.heap.size := (Array.getElem?_eq_some_iff.1 HKK2.out).1
      have hwD : w.heap.size < D := by have := HZ5.out; have := HDL.out; have := HZ3.out; omega
      have hD12 : D < D2 := by have := HZ5.out; have := HDL.out; have := HZ3.out; omega
      have hK28 : W8.heap[D2]? = some (.deferred (some [])) := (ho8 D2 (by omega)).trans ((HB7.out.block D2 hD2lt).trans HKK2.out)
      have hK18 : W8.heap[D]? = some (.deferred (some [])) := (ho8 D (by omega)).trans ((HB7.out.block D hDlt).trans HKD.out)
      have hW9 := belowK_b (n₀ := w5.heap.size) (w := w5) (Nat.le_refl _) W8 D2 _ (.deferred none) hDD hK28 rfl rfl
      obtain ⟨W9, hW9e⟩ : ∃ W9, W8.putObj D2 (.deferred none) = W9 := ⟨_, rfl⟩
      rw [hW9e] at hW9
      have hz5 := HZ5.out
      have hz3 := HZ3.out
      have hDl := HDL.out
      have hK19 : W9.heap[D]? = some (.deferred (some [])) := (hW9.block D (by omega)).trans hK18
      have hW10 := belowK_b (n₀ := w2.heap.size) (w := w2) (Nat.le_refl _) W9 D _ (.deferred none) hD hK19 rfl rfl
      have hA10 := (hA8.below hW9 (by omega)).below hW10 (by omega)
      have hB10 : Below w.heap.size w _ := (hB8.trans (hW9.mono (by omega))).trans (hW10.mono (by omega))
      have hsha := sha_split b m r m2 hbl hr HM2.out
      rw [HS1.out, HT2.out] at hsha
      refine ⟨by simp, .inl ⟨_, _, rfl, run_takeDeferred hK28, ?_⟩⟩
      rw [hW9e]
      refine ⟨by simp, .inl ⟨_, _, rfl, run_takeDeferred hK19, ?_⟩⟩
      exact ⟨_, results_cell_mid rfl _ _ _ _ _ rfl hA10.at_ Tryd.underlying30 rfl HZ1.out, by rw [hsha, dv, HCS7.out], hB10⟩
    case stop2 =>
      rintro D c pre W _ _ h _
      exact h.elim
  case stop =>
    rintro D c pre W _ _ h _
    exact h.elim
end Go.Proofs.YtfmngeemhfpeiaaDoor

namespace Go.Proofs.YtfmngeemhfpeiaaDoor
open Go.RowKit Go.Shelf
attribute [local go_sem] Oper.semAt_some

set_option maxRecDepth 100000 in
set_option maxHeartbeats 4000000 in
theorem sum_full (w : World) (db off m : Nat) (b : List UInt8) (hbl : b.length = 64 * m) (hb : BytesIn w db off b) (hdb : db < w.heap.size) (hl : 64 * m < 1000000000) (hT : Tab w) (h0 : 0 < w.heap.size) :
    Calls Tryd.prog 27 #[.slice (some ⟨db, off, none⟩) (64 * m) (64 * m)] w fun e w' => e = .returned (dv (sha b)) ∧ Below w.heap.size w w' := by
  have hmod : (64 * (m : Int)) % 64 = 0 := by omega
  have HB := Lib.hid hb
  have HT := Lib.hid hT
  clear hb hT
  refine (callsIn_wide (n := 9)).1 ?_
  refine callsIn_of_wp_marks Tryd.func27 rfl trivial ?_ rfl
  simp only [Tryd.ntmps27, List.size_toArray, List.length_cons, List.length_nil, Nat.reduceAdd, Nat.reduceSub, Array.replicate_succ, Array.replicate_zero, List.push_toArray, List.append_toArray, List.nil_append, List.cons_append]
  have i2 : (0 : Int) ≤ ((64 * m : Nat) : Int) := by omega
  have i3 : 64 * m ≤ 64 * m := Nat.le_refl _
  gi_wp2_with fail
  refine ⟨trivial, ?_⟩
  refine (callsIn_wide.2 (first_any _)).mono ?_
  rintro e w1 ⟨rfl, hB1⟩
  have hA0 := Arr.new (w1.alloc (.cells #[.int .u32 1779033703, .int .u32 3144134277, .int .u32 1013904242, .int .u32 2773480762, .int .u32 1359893119, .int .u32 2600822924, .int .u32 528734635, .int .u32 1541459225] 76)) #[.nilFunc] 78
  rw [World.size_alloc] at hA0
  have hc1 := hA0.cell (i := 0) (v := .nilFunc) rfl
  have hc2 := hA0.frozen (i := 0) (by simp)
  clear hA0
  have hBw1 : Below w.heap.size w w1 := ((Below.refl w.heap.size w).alloc (Nat.le_refl _) _).trans (hB1.mono (by simp))
  have hD1 := (Arr.new w _ 30).below hB1 (by simp)
  have HB1 := Lib.hid hBw1
  have HD1 := Lib.hid hD1
  have hw1 : w.heap.size < w1.heap.size := by have := hB1.size; simp at this; omega
  clear hB1 hBw1 hD1
  gi_wp2_with fail
  refine ⟨trivial, ?_⟩
  refine (callsIn_wide.2 (chunk_any _ _ _ _)).mono ?_
  rintro e w2 ⟨rfl, hcs, hcn, hB2, hz2⟩
  have hS2 : Arr w2 w1.heap.size (ws s0.list) := by
    have h1 := Arr.new w1 #[.int .u32 1779033703, .int .u32 3144134277, .int .u32 1013904242, .int .u32 2773480762, .int .u32 1359893119, .int .u32 2600822924, .int .u32 528734635, .int .u32 1541459225] 76
    rw [s0_lit] at h1
    exact ((h1.alloc (by simp) _)).below hB2 (by simp; omega)
  have hF2 : w2.cell? ⟨w1.heap.size + 1, 0, none⟩ = some (.func (.func 58) #[.pointer (some ⟨w1.heap.size, 0, none⟩)] #[]) := by
    refine (hB2.cell (p := ⟨w1.heap.size + 1, 0, none⟩) (by simp)).trans ?_
    go_cell
  have hBw2 : Below w.heap.size w w2 :=
    HB1.out.trans ((((Below.refl w.heap.size w1).alloc (by omega) _).alloc (by simp; omega) _).trans (hB2.mono (by simp; omega)))
  have hD2 : Arr w2 w.heap.size _ := ((HD1.out.alloc hw1 _).alloc (by simp; omega) _).below hB2 (by simp; omega)
  simp only [World.size_alloc] at hcs hcn hz2
  obtain ⟨sb, hsb⟩ : ∃ sb, w1.heap.size = sb := ⟨_, rfl⟩
  rw [hsb] at hcs hcn hz2 hS2 hF2 hw1
  have HD2 := Lib.hid hD2
  clear hB2 HD1 HB1 hc1 hc2 hD2
  gi_wp2_with fail
  have hl1 : Loop w w2 sb (sb + 4) b s0 (([] : List (Fin m)).map (·.1)) w2 := ⟨⟨hS2, LowBut.refl _ _ _⟩, hBw2⟩
  refine wpIn_rangeFunc_ownF rfl (by omega) (gf := 84) (lb := #[.pointer (some ⟨sb + 1 + 1, 0, none⟩), .pointer (some ⟨sb + 1 + 1 + 1, 0, none⟩)]) rfl trivial (enters_of Tryd.func84 (by kernel_rfl) rfl)
    (chunk_stops 8 (by omega) (sb + 1 + 1) (sb + 1 + 1 + 1) (sb + 4) sb db off m (64 * m) (some ⟨db, off, none⟩) (.inr rfl) i3 (by omega) (by omega) (by omega) (by omega) (by omega) w2 (by omega) hcs hcn)
    LowBut.trans (lowBut_b (by omega)) (Below.refl _ _) (fun _ => rfl)
    (fun pre W => Loop w w2 sb (sb + 4) b s0 (pre.map (·.1)) W) (fun _ _ _ => False)
    (loop_own (by omega) (by omega) (by omega)) (fun _ _ _ _ _ hs _ _ => hs) hl1
    (fun x => { tmps := #[.slice (some ⟨db, off, none⟩) (64 * m) (64 * m), undef, .pointer (some ⟨w.heap.size, 0, none⟩), .int .i64 (64 * (m : Int)), .pointer (some ⟨sb, 0, none⟩), .pointer (some ⟨sb + 1, 0, none⟩), (.slice (some ⟨db, off + 64 * x.1, none⟩) 64 64), undef, .slice (some ⟨db, off, none⟩) (64 * m) (64 * m), .int .i64 (64 * (m : Int)), .slice (some ⟨db, off, none⟩) (64 * m) (64 * m), .int .i64 (64 * (m : Int)), .int .i64 0, .int .i64 (64 * (m : Int)), .agg #[.int .u32 1779033703, .int .u32 3144134277, .int .u32 1013904242, .int .u32 2773480762, .int .u32 1359893119, .int .u32 2600822924, .int .u32 528734635, .int .u32 1541459225], .func (.func 58) #[.pointer (some ⟨sb, 0, none⟩)] #[], .slice (some ⟨db, off, none⟩) (64 * m) (64 * m), .int .i64 (64 * (m : Int)), .slice (some ⟨db, off, none⟩) (64 * m) (64 * m), .func (.func 84) #[] #[.pointer (some ⟨sb + 1 + 1, 0, none⟩), .pointer (some ⟨sb + 1 + 1 + 1, 0, none⟩)], (.slice (some ⟨db, off + 64 * x.1, none⟩) 64 64), undef, undef, undef, undef, undef, undef, undef, undef, undef, undef, undef, undef, undef, undef, undef], defers := [] }) ?assign ?body ?done ?stop
  case assign =>
    intro l x W K hK
    gi_wp2
    exact hK
  case body =>
    rintro l pre x W hL _
    have hLL := hL
    obtain ⟨⟨hA, hLo⟩, hBW⟩ := hL
    have hx := x.2
    have hab := absorb_any W sb db (off + 64 * x.1) _ (chunkAt b x.1) (HT.out.below hBW h0) (by have := hBW.size; omega) hA (by have := hLo.1; omega) (chunk_len b (by omega)) ((HB.out.below hBW hdb).chunk (by omega)) (by have := hBW.size; omega)
    have hfc : W.cell? ⟨sb + 1, 0, none⟩ = some (.func (.func 58) #[.pointer (some ⟨sb, 0, none⟩)] #[]) := (hLo.cell (by omega) (by omega)).trans hF2
    have HAB := Lib.hid hab
    have HLL := Lib.hid hLL
    clear hab hLL hA hLo hBW
    gi_wp2_with fail
    refine ⟨trivial, ?_⟩
    refine (CallsIn.inRound l (callsIn_wide.2 HAB.out)).mono ?_
    rintro e W' ⟨⟨v, rfl⟩, hA', hG'⟩
    have HST := Lib.hid (loop_step (by omega) (by omega) (by omega) HLL.out hA' hG')
    clear hA' hG'
    gi_wp2_with fail
    exact ⟨HST.out.2.2, HST.out.2.1, by show Loop w w2 sb (sb + 4) b s0 (List.map _ (pre ++ [x])) W'; rw [List.map_append]; exact HST.out.1⟩
  case done =>
    rintro D ys W hD rfl hL hK
    obtain ⟨⟨hA, hLo⟩, hBW⟩ := hL
    have hst : ((List.finRange m).map (·.1)).foldl (fun t k => press t (chunkAt b k)) s0 = runs s0 b m := by rw [List.foldl_map]; exact fold_fin s0 b m
    rw [hst] at hA
    obtain ⟨m2, hm2, hm22⟩ : ∃ m2, endOf 0 = 64 * m2 ∧ m2 ≤ 2 := ⟨1, rfl, by omega⟩
    have hdl : (b.drop (64 * m)).length = 0 := by simp; omega
    have hWs := hBW.size
    have hra : BytesAt W W.heap.size (.slice (some ⟨db, off, none⟩) 0 0) (b.drop (64 * m)) := ⟨some ⟨db, off, none⟩, 0, by rw [hdl], by omega, by omega, .inl (List.length_eq_zero_iff.1 hdl)⟩
    have hend := ending_cast W _ (b.drop (64 * m)) (64 * m) 0 m2 (64 * (m : Int)) (by omega) hdl hm2 hra (by omega) (by omega)
    have hFW : W.cell? ⟨sb + 1, 0, none⟩ = some (.func (.func 58) #[.pointer (some ⟨sb, 0, none⟩)] #[]) := (hLo.cell (by omega) (by omega)).trans hF2
    have hDW := HD2.out.same (W' := W) (hLo.2 w.heap.size (by omega) (by omega))
    have hLsz := hLo.1
    have HEND := Lib.hid hend
    have HAW := Lib.hid hA
    have HBW := Lib.hid hBW
    have HFW := Lib.hid hFW
    have HDW := Lib.hid hDW
    have HK := Lib.hid hK
    clear hend hA hBW hFW hDW hLo hst hdl hK hra
    gi_wp2_with fail
    refine ⟨trivial, ?_⟩
    refine (callsIn_wide.2 HEND.out).mono ?_
    rintro e w3 ⟨g, rfl, hg1, hg2, hgb, hB3⟩
    gi_wp2_with fail
    refine ⟨trivial, ?_⟩
    refine (callsIn_wide.2 (chunk_any _ _ _ _)).mono ?_
    rintro e w5 ⟨rfl, hcs5, hcn5, hB5, hz5⟩
    have hB35 : Below W.heap.size W w5 := hB3.trans (hB5.mono hB3.size)
    have hz3 := hB3.size
    have hA5 := HAW.out.below hB35 (by omega)
    have hF5 : w5.cell? ⟨sb + 1, 0, none⟩ = some (.func (.func 58) #[.pointer (some ⟨sb, 0, none⟩)] #[]) := (hB35.cell (p := ⟨sb + 1, 0, none⟩) (by show sb + 1 < _; omega)).trans HFW.out
    have hDl : D < W.heap.size := (Array.getElem?_eq_some_iff.1 HK.out).1
    have hK5 : w5.heap[D]? = some (.deferred (some [])) := (hB35.block D hDl).trans HK.out
    have hD5 := HDW.out.below hB35 (by omega)
    have hBw5 : Below w.heap.size w w5 := HBW.out.trans (hB35.mono (by omega))
    have hgb5 := hgb.below hB5 hg2
    obtain ⟨T, hT2⟩ : ∃ T, tailOf (b.drop (64 * m)) (64 * m) = T := ⟨_, rfl⟩
    have hTl : T.length = 64 * m2 := by rw [← hT2, tail_len _ _ (by simp; omega), ← hm2]; congr 1; simp; omega
    rw [hT2] at hgb5
    obtain ⟨S1, hS1⟩ : ∃ S1, runs s0 b m = S1 := ⟨_, rfl⟩
    rw [hS1] at hA5
    have HT2 := Lib.hid hT2
    have HS1 := Lib.hid hS1
    have HA5 := Lib.hid hA5
    have HD5 := Lib.hid hD5
    have HK5 := Lib.hid hK5
    have HGB := Lib.hid hgb5
    have HBW5 := Lib.hid hBw5
    have HM2 := Lib.hid hm2
    have HM22 := Lib.hid hm22
    have HG1 := Lib.hid hg1
    have HG2 := Lib.hid hg2
    have HZ5 := Lib.hid hz5
    have HCS5 := Lib.hid hcs5
    have HCN5 := Lib.hid hcn5
    have HF5 := Lib.hid hF5
    have HTL := Lib.hid hTl
    have HDL := Lib.hid hDl
    have HZ3 := Lib.hid hz3
    clear hB35 hA5 hK5 hD5 hgb5 hgb hB3 HEND HAW HFW HDW HK HBW hB5 hT2 hS1 hBw5 hm2 hm22 hg1 hg2 hz5 hcs5 hcn5 hF5 hTl hDl hz3
    gi_wp2_with fail
    have hm2 := HM2.out
    have hm22 := HM22.out
    have hg1 := HG1.out
    have hg2 := HG2.out
    have hz5 := HZ5.out
    have hcs5 := HCS5.out
    have hcn5 := HCN5.out
    have hTl := HTL.out
    have hDl := HDL.out
    have hz3 := HZ3.out
    have hstops := chunk_stops 8 (by omega) w3.heap.size (w3.heap.size + 1) (w3.heap.size + 2) sb g 0 m2 128 (some ⟨g, 0, none⟩) (.inr rfl) (by omega) (by omega) (by omega) (by omega) (by omega) (by omega) w5 (by omega) hcs5 hcn5
    simp only [Nat.zero_add] at hstops
    have hl2 : Loop w w5 sb (w3.heap.size + 2) T S1 (([] : List (Fin m2)).map (·.1)) w5 := ⟨⟨HA5.out, LowBut.refl _ _ _⟩, HBW5.out⟩
    refine wpIn_rangeFunc_ownF rfl (by omega) (gf := 84) (lb := #[.pointer (some ⟨w3.heap.size, 0, none⟩), .pointer (some ⟨w3.heap.size + 1, 0, none⟩)]) rfl trivial (enters_of Tryd.func84 (by kernel_rfl) rfl)
      hstops
      LowBut.trans (lowBut_b (by omega)) (Below.refl _ _) (fun _ => rfl)
      (fun pre W => Loop w w5 sb (w3.heap.size + 2) T S1 (pre.map (·.1)) W) (fun _ _ _ => False)
      (loop_own (by omega) (by omega) (by omega)) (fun _ _ _ _ _ hs _ _ => hs) hl2
      (fun x => { tmps := #[.slice (some ⟨db, off, none⟩) (64 * m) (64 * m), undef, .pointer (some ⟨w.heap.size, 0, none⟩), .int .i64 (64 * (m : Int)), .pointer (some ⟨sb, 0, none⟩), .pointer (some ⟨sb + 1, 0, none⟩), undef, (.slice (some ⟨g, 64 * x.1, none⟩) 64 64), .slice (some ⟨db, off, none⟩) (64 * m) (64 * m), .int .i64 (64 * (m : Int)), .slice (some ⟨db, off, none⟩) (64 * m) (64 * m), .int .i64 (64 * (m : Int)), .int .i64 0, .int .i64 (64 * (m : Int)), .agg #[.int .u32 1779033703, .int .u32 3144134277, .int .u32 1013904242, .int .u32 2773480762, .int .u32 1359893119, .int .u32 2600822924, .int .u32 528734635, .int .u32 1541459225], .func (.func 58) #[.pointer (some ⟨sb, 0, none⟩)] #[], .slice (some ⟨db, off, none⟩) (64 * m) (64 * m), .int .i64 (64 * (m : Int)), .slice (some ⟨db, off, none⟩) (64 * m) (64 * m), .func (.func 84) #[] #[.pointer (some ⟨sb + 1 + 1, 0, none⟩), .pointer (some ⟨sb + 1 + 1 + 1, 0, none⟩)], undef, undef, undef, undef, .slice (some ⟨db, off, none⟩) (64 * m) (64 * m), .int .i64 (64 * (m : Int)), .slice (some ⟨db, off, none⟩) 0 0, .slice (some ⟨db, off, none⟩) (64 * m) (64 * m), .int .i64 (64 * (m : Int)), .slice (some ⟨g, 0, none⟩) (64 * m2) 128, .func (.func 84) #[] #[.pointer (some ⟨w3.heap.size, 0, none⟩), .pointer (some ⟨w3.heap.size + 1, 0, none⟩)], (.slice (some ⟨g, 64 * x.1, none⟩) 64 64), undef, undef, undef, undef], defers := [] }) ?assign2 ?body2 ?done2 ?stop2
    case assign2 =>
      clear hstops hm2 hm22 hg1 hg2 hz5 hcs5 hcn5 hTl hDl hz3
      intro l x W K hK
      gi_wp2
      exact hK
    case body2 =>
      rintro l pre x W' hL _
      have hLL := hL
      obtain ⟨⟨hA, hLo⟩, hBW⟩ := hL
      have hx := x.2
      have hg' : BytesIn W' g 0 T := fun i hi => (hLo.cell (by omega) (by omega)).trans (HGB.out i hi)
      have hch := hg'.chunk (k := x.1) (by omega)
      rw [Nat.zero_add] at hch
      have hab := absorb_any W' sb g (64 * x.1) _ (chunkAt T x.1) (HT.out.below hBW h0) (by have := hBW.size; omega) hA (by have := hLo.1; omega) (chunk_len T (by omega)) hch (by have := hLo.1; omega)
      have hfc : W'.cell? ⟨sb + 1, 0, none⟩ = some (.func (.func 58) #[.pointer (some ⟨sb, 0, none⟩)] #[]) := (hLo.cell (by omega) (by omega)).trans HF5.out
      have HAB := Lib.hid hab
      have HLL := Lib.hid hLL
      clear hab hLL hA hLo hBW hg' hch hstops hm2 hm22 hg1 hg2 hz5 hcs5 hcn5 hTl hDl hz3
      gi_wp2_with fail
      refine ⟨trivial, ?_⟩
      refine (CallsIn.inRound l (callsIn_wide.2 HAB.out)).mono ?_
      rintro e W'' ⟨⟨v, rfl⟩, hA', hG'⟩
      have HST := Lib.hid (loop_step (by have := HZ3.out; have := HDL.out; omega) (by omega) (by have := HZ5.out; omega) HLL.out hA' hG')
      clear hA' hG'
      gi_wp2_with fail
      exact ⟨HST.out.2.2, HST.out.2.1, by show Loop w w5 sb (w3.heap.size + 2) T S1 (List.map _ (pre ++ [x])) W''; rw [List.map_append]; exact HST.out.1⟩
    case done2 =>
      rintro D2 ys W' hDD rfl hL hK2
      obtain ⟨⟨hA, hLo⟩, hBW⟩ := hL
      have hst : ((List.finRange m2).map (·.1)).foldl (fun t k => press t (chunkAt T k)) S1 = runs S1 T m2 := by rw [List.foldl_map]; exact fold_fin S1 T m2
      rw [hst] at hA
      have hKD : W'.heap[D]? = some (.deferred (some [])) := (hLo.2 D (by omega) (by omega)).trans HK5.out
      have hDW := HD5.out.same (W' := W') (hLo.2 w.heap.size (by omega) (by omega))
      have hLsz := hLo.1
      have HA := Lib.hid hA
      have HKD := Lib.hid hKD
      have HDW := Lib.hid hDW
      have HKK2 := Lib.hid hK2
      have HBW := Lib.hid hBW
      have HLSZ := Lib.hid hLsz
      clear hA hKD hDW hK2 hBW hLo hLsz hm2 hm22 hg1 hg2 hz5 hcs5 hcn5 hTl hDl hz3 hst hstops
      gi_wp2_with fail
      have hdg := digest_any W' sb (runs S1 T m2) HA.out (by have := HLSZ.out; have := HZ5.out; have := HDL.out; have := HZ3.out; omega)
      have hcl : (cells8 (outs (runs S1 T m2))).length = 32 := by rw [cells8_len, outs_len]
      have ho1 := one_cells8 (outs (runs S1 T m2))
      unfold dv at hdg
      obtain ⟨cs, hcs7⟩ : ∃ cs, cells8 (outs (runs S1 T m2)) = cs := ⟨_, rfl⟩
      rw [hcs7] at hdg hcl ho1
      have HZ1 : Hid ((Tryd.prog.info? 30).map (·.size) = some cs.length) := by show _ = _; rw [hcl]; exact Tryd.info30
      have HDG := Lib.hid hdg
      have HO1 := Lib.hid ho1
      have HCL := Lib.hid hcl
      have HCS7 := Lib.hid hcs7
      clear hdg ho1 hcl hcs7
      refine ⟨trivial, ?_⟩
      refine (callsIn_wide.2 HDG.out).mono ?_
      rintro e w7 ⟨rfl, hB7⟩
      have HB7 := Lib.hid hB7
      clear hB7
      have hw7 : w.heap.size < W'.heap.size := by have := HLSZ.out; have := HZ5.out; have := HDL.out; have := HZ3.out; omega
      gi_wp2_with (refine store_newIn rfl 30 _ _ (by rfl) w.heap.size w.heap.size cs _ (by rfl) (by rfl) (HBW.out.trans (HB7.out.mono (by omega))) (Nat.le_refl _) (HDW.out.below HB7.out hw7) (by rw [HCL.out]; rfl) HZ1.out HO1.out ?_; intro W8 hB8 hA8 ho8)
      have hDlt : D < W'.heap.size := (Array.getElem?_eq_some_iff.1 HKD.out).1
      have hD2lt : D2 < W'.heap.size := (Array.getElem?_eq_some_iff.1 HKK2.out).1
      have hwD : w.heap.size < D := by have := HZ5.out; have := HDL.out; have := HZ3.out; omega
      have hD12 : D < D2 := by have := HZ5.out; have := HDL.out; have := HZ3.out; omega
      have hK28 : W8.heap[D2]? = some (.deferred (some [])) := (ho8 D2 (by omega)).trans ((HB7.out.block D2 hD2lt).trans HKK2.out)
      have hK18 : W8.heap[D]? = some (.deferred (some [])) := (ho8 D (by omega)).trans ((HB7.out.block D hDlt).trans HKD.out)
      have hW9 := belowK_b (n₀ := w5.heap.size) (w := w5) (Nat.le_refl _) W8 D2 _ (.deferred none) hDD hK28 rfl rfl
      obtain ⟨W9, hW9e⟩ : ∃ W9, W8.putObj D2 (.deferred none) = W9 := ⟨_, rfl⟩
      rw [hW9e] at hW9
      have hz5 := HZ5.out
      have hz3 := HZ3.out
      have hDl := HDL.out
      have hK19 : W9.heap[D]? = some (.deferred (some [])) := (hW9.block D (by omega)).trans hK18
      have hW10 := belowK_b (n₀ := w2.heap.size) (w := w2) (Nat.le_refl _) W9 D _ (.deferred none) hD hK19 rfl rfl
      have hA10 := (hA8.below hW9 (by omega)).below hW10 (by omega)
      have hB10 : Below w.heap.size w _ := (hB8.trans (hW9.mono (by omega))).trans (hW10.mono (by omega))
      have hsha := sha_split b m 0 m2 (by omega) (by omega) HM2.out
      rw [Nat.add_zero, HS1.out, HT2.out] at hsha
      refine ⟨by simp, .inl ⟨_, _, rfl, run_takeDeferred hK28, ?_⟩⟩
      rw [hW9e]
      refine ⟨by simp, .inl ⟨_, _, rfl, run_takeDeferred hK19, ?_⟩⟩
      exact ⟨_, results_cell_mid rfl _ _ _ _ _ rfl hA10.at_ Tryd.underlying30 rfl HZ1.out, by rw [hsha, dv, HCS7.out], hB10⟩
    case stop2 =>
      rintro D c pre W _ _ h _
      exact h.elim
  case stop =>
    rintro D c pre W _ _ h _
    exact h.elim
end Go.Proofs.YtfmngeemhfpeiaaDoor

namespace Go.Proofs.YtfmngeemhfpeiaaDoor
open Go.RowKit Go.Shelf
attribute [local go_sem] Oper.semAt_some

set_option maxRecDepth 100000 in
set_option maxHeartbeats 4000000 in
theorem sum_e (w : World) (a : Option Addr) (hT : Tab w) (h0 : 0 < w.heap.size) :
    Calls Tryd.prog 27 #[.slice a 0 0] w fun e w' => e = .returned (dv (sha [])) ∧ Below w.heap.size w w' := by
  have HT := Lib.hid hT
  clear hT
  refine (callsIn_wide (n := 9)).1 ?_
  refine callsIn_of_wp_marks Tryd.func27 rfl trivial ?_ rfl
  simp only [Tryd.ntmps27, List.size_toArray, List.length_cons, List.length_nil, Nat.reduceAdd, Nat.reduceSub, Array.replicate_succ, Array.replicate_zero, List.push_toArray, List.append_toArray, List.nil_append, List.cons_append]
  gi_wp2_with fail
  refine ⟨trivial, ?_⟩
  refine (callsIn_wide.2 (first_any _)).mono ?_
  rintro e w1 ⟨rfl, hB1⟩
  have hA0 := Arr.new (w1.alloc (.cells #[.int .u32 1779033703, .int .u32 3144134277, .int .u32 1013904242, .int .u32 2773480762, .int .u32 1359893119, .int .u32 2600822924, .int .u32 528734635, .int .u32 1541459225] 76)) #[.nilFunc] 78
  rw [World.size_alloc] at hA0
  have hc1 := hA0.cell (i := 0) (v := .nilFunc) rfl
  have hc2 := hA0.frozen (i := 0) (by simp)
  clear hA0
  have hBw1 : Below w.heap.size w w1 := ((Below.refl w.heap.size w).alloc (Nat.le_refl _) _).trans (hB1.mono (by simp))
  have hD1 := (Arr.new w _ 30).below hB1 (by simp)
  have HB1 := Lib.hid hBw1
  have HD1 := Lib.hid hD1
  have hw1 : w.heap.size < w1.heap.size := by have := hB1.size; simp at this; omega
  clear hB1 hBw1 hD1
  gi_wp2_with fail
  refine ⟨trivial, ?_⟩
  refine (callsIn_wide.2 (chunk_any _ _ _ _)).mono ?_
  rintro e w2 ⟨rfl, hcs, hcn, hB2, hz2⟩
  have hS2 : Arr w2 w1.heap.size (ws s0.list) := by
    have h1 := Arr.new w1 #[.int .u32 1779033703, .int .u32 3144134277, .int .u32 1013904242, .int .u32 2773480762, .int .u32 1359893119, .int .u32 2600822924, .int .u32 528734635, .int .u32 1541459225] 76
    rw [s0_lit] at h1
    exact ((h1.alloc (by simp) _)).below hB2 (by simp; omega)
  have hF2 : w2.cell? ⟨w1.heap.size + 1, 0, none⟩ = some (.func (.func 58) #[.pointer (some ⟨w1.heap.size, 0, none⟩)] #[]) := by
    refine (hB2.cell (p := ⟨w1.heap.size + 1, 0, none⟩) (by simp)).trans ?_
    go_cell
  have hBw2 : Below w.heap.size w w2 :=
    HB1.out.trans ((((Below.refl w.heap.size w1).alloc (by omega) _).alloc (by simp; omega) _).trans (hB2.mono (by simp; omega)))
  have hD2 : Arr w2 w.heap.size _ := ((HD1.out.alloc hw1 _).alloc (by simp; omega) _).below hB2 (by simp; omega)
  simp only [World.size_alloc] at hcs hcn hz2
  obtain ⟨sb, hsb⟩ : ∃ sb, w1.heap.size = sb := ⟨_, rfl⟩
  rw [hsb] at hcs hcn hz2 hS2 hF2 hw1
  have HD2 := Lib.hid hD2
  clear hB2 HD1 HB1 hc1 hc2 hD2
  gi_wp2_with fail
  have hl1 : Loop w w2 sb (sb + 4) [] s0 (([] : List (Fin 0)).map (·.1)) w2 := ⟨⟨hS2, LowBut.refl _ _ _⟩, hBw2⟩
  refine wpIn_rangeFunc_ownF rfl (by omega) (gf := 84) (lb := #[.pointer (some ⟨sb + 1 + 1, 0, none⟩), .pointer (some ⟨sb + 1 + 1 + 1, 0, none⟩)]) rfl trivial (enters_of Tryd.func84 (by kernel_rfl) rfl)
    (chunk_stops 8 (by omega) (sb + 1 + 1) (sb + 1 + 1 + 1) (sb + 4) sb 0 1 0 0 a (.inl rfl) (by omega) (by omega) (by omega) (by omega) (by omega) (by omega) w2 (by omega) hcs hcn)
    LowBut.trans (lowBut_b (by omega)) (Below.refl _ _) (fun _ => rfl)
    (fun pre W => Loop w w2 sb (sb + 4) [] s0 (pre.map (·.1)) W) (fun _ _ _ => False)
    (loop_own (by omega) (by omega) (by omega)) (fun _ _ _ _ _ hs _ _ => hs) hl1
    (fun x => { tmps := #[.slice a 0 0, undef, .pointer (some ⟨w.heap.size, 0, none⟩), .int .i64 0, .pointer (some ⟨sb, 0, none⟩), .pointer (some ⟨sb + 1, 0, none⟩), (.slice (some ⟨0, 1 + 64 * x.1, none⟩) 64 64), undef, .slice a 0 0, .int .i64 0, .slice a 0 0, .int .i64 0, .int .i64 0, .int .i64 0, .agg #[.int .u32 1779033703, .int .u32 3144134277, .int .u32 1013904242, .int .u32 2773480762, .int .u32 1359893119, .int .u32 2600822924, .int .u32 528734635, .int .u32 1541459225], .func (.func 58) #[.pointer (some ⟨sb, 0, none⟩)] #[], .slice a 0 0, .int .i64 0, .slice a 0 0, .func (.func 84) #[] #[.pointer (some ⟨sb + 1 + 1, 0, none⟩), .pointer (some ⟨sb + 1 + 1 + 1, 0, none⟩)], (.slice (some ⟨0, 1 + 64 * x.1, none⟩) 64 64), undef, undef, undef, undef, undef, undef, undef, undef, undef, undef, undef, undef, undef, undef, undef], defers := [] }) ?assign ?body ?done ?stop
  case assign =>
    intro l x W K hK
    gi_wp2
    exact hK
  case body =>
    rintro l pre x W hL _
    exact x.elim0
  case done =>
    rintro D ys W hD rfl hL hK
    obtain ⟨⟨hA, hLo⟩, hBW⟩ := hL
    have hst : ((List.finRange 0).map (·.1)).foldl (fun t k => press t (chunkAt [] k)) s0 = runs s0 [] 0 := by rw [List.foldl_map]; exact fold_fin s0 ([] : List UInt8) 0
    rw [hst] at hA
    obtain ⟨m2, hm2, hm22⟩ : ∃ m2, endOf 0 = 64 * m2 ∧ m2 ≤ 2 := ⟨1, rfl, by omega⟩
    have hdl : ([] : List UInt8).length = 0 := rfl
    have hWs := hBW.size
    have hra : BytesAt W W.heap.size (.slice a 0 0) (([] : List UInt8)) := ⟨a, 0, rfl, by simp, by omega, .inl rfl⟩
    have hend := ending_cast W _ (([] : List UInt8)) 0 0 m2 0 (by omega) hdl hm2 hra (by omega) (by omega)
    have hFW : W.cell? ⟨sb + 1, 0, none⟩ = some (.func (.func 58) #[.pointer (some ⟨sb, 0, none⟩)] #[]) := (hLo.cell (by omega) (by omega)).trans hF2
    have hDW := HD2.out.same (W' := W) (hLo.2 w.heap.size (by omega) (by omega))
    have hLsz := hLo.1
    have HEND := Lib.hid hend
    have HAW := Lib.hid hA
    have HBW := Lib.hid hBW
    have HFW := Lib.hid hFW
    have HDW := Lib.hid hDW
    have HK := Lib.hid hK
    clear hend hA hBW hFW hDW hLo hst hdl hK hra
    gi_wp2_with fail
    refine ⟨trivial, ?_⟩
    refine (callsIn_wide.2 HEND.out).mono ?_
    rintro e w3 ⟨g, rfl, hg1, hg2, hgb, hB3⟩
    gi_wp2_with fail
    refine ⟨trivial, ?_⟩
    refine (callsIn_wide.2 (chunk_any _ _ _ _)).mono ?_
    rintro e w5 ⟨rfl, hcs5, hcn5, hB5, hz5⟩
    have hB35 : Below W.heap.size W w5 := hB3.trans (hB5.mono hB3.size)
    have hz3 := hB3.size
    have hA5 := HAW.out.below hB35 (by omega)
    have hF5 : w5.cell? ⟨sb + 1, 0, none⟩ = some (.func (.func 58) #[.pointer (some ⟨sb, 0, none⟩)] #[]) := (hB35.cell (p := ⟨sb + 1, 0, none⟩) (by show sb + 1 < _; omega)).trans HFW.out
    have hDl : D < W.heap.size := (Array.getElem?_eq_some_iff.1 HK.out).1
    have hK5 : w5.heap[D]? = some (.deferred (some [])) := (hB35.block D hDl).trans HK.out
    have hD5 := HDW.out.below hB35 (by omega)
    have hBw5 : Below w.heap.size w w5 := HBW.out.trans (hB35.mono (by omega))
    have hgb5 := hgb.below hB5 hg2
    obtain ⟨T, hT2⟩ : ∃ T, tailOf (([] : List UInt8)) 0 = T := ⟨_, rfl⟩
    have hTl : T.length = 64 * m2 := by rw [← hT2, tail_len _ _ (by simp), ← hm2]; congr 1
    rw [hT2] at hgb5
    obtain ⟨S1, hS1⟩ : ∃ S1, runs s0 [] 0 = S1 := ⟨_, rfl⟩
    rw [hS1] at hA5
    have HT2 := Lib.hid hT2
    have HS1 := Lib.hid hS1
    have HA5 := Lib.hid hA5
    have HD5 := Lib.hid hD5
    have HK5 := Lib.hid hK5
    have HGB := Lib.hid hgb5
    have HBW5 := Lib.hid hBw5
    have HM2 := Lib.hid hm2
    have HM22 := Lib.hid hm22
    have HG1 := Lib.hid hg1
    have HG2 := Lib.hid hg2
    have HZ5 := Lib.hid hz5
    have HCS5 := Lib.hid hcs5
    have HCN5 := Lib.hid hcn5
    have HF5 := Lib.hid hF5
    have HTL := Lib.hid hTl
    have HDL := Lib.hid hDl
    have HZ3 := Lib.hid hz3
    clear hB35 hA5 hK5 hD5 hgb5 hgb hB3 HEND HAW HFW HDW HK HBW hB5 hT2 hS1 hBw5 hm2 hm22 hg1 hg2 hz5 hcs5 hcn5 hF5 hTl hDl hz3
    gi_wp2_with fail
    have hm2 := HM2.out
    have hm22 := HM22.out
    have hg1 := HG1.out
    have hg2 := HG2.out
    have hz5 := HZ5.out
    have hcs5 := HCS5.out
    have hcn5 := HCN5.out
    have hTl := HTL.out
    have hDl := HDL.out
    have hz3 := HZ3.out
    have hstops := chunk_stops 8 (by omega) w3.heap.size (w3.heap.size + 1) (w3.heap.size + 2) sb g 0 m2 128 (some ⟨g, 0, none⟩) (.inr rfl) (by omega) (by omega) (by omega) (by omega) (by omega) (by omega) w5 (by omega) hcs5 hcn5
    simp only [Nat.zero_add] at hstops
    have hl2 : Loop w w5 sb (w3.heap.size + 2) T S1 (([] : List (Fin m2)).map (·.1)) w5 := ⟨⟨HA5.out, LowBut.refl _ _ _⟩, HBW5.out⟩
    refine wpIn_rangeFunc_ownF rfl (by omega) (gf := 84) (lb := #[.pointer (some ⟨w3.heap.size, 0, none⟩), .pointer (some ⟨w3.heap.size + 1, 0, none⟩)]) rfl trivial (enters_of Tryd.func84 (by kernel_rfl) rfl)
      hstops
      LowBut.trans (lowBut_b (by omega)) (Below.refl _ _) (fun _ => rfl)
      (fun pre W => Loop w w5 sb (w3.heap.size + 2) T S1 (pre.map (·.1)) W) (fun _ _ _ => False)
      (loop_own (by omega) (by omega) (by omega)) (fun _ _ _ _ _ hs _ _ => hs) hl2
      (fun x => { tmps := #[.slice a 0 0, undef, .pointer (some ⟨w.heap.size, 0, none⟩), .int .i64 0, .pointer (some ⟨sb, 0, none⟩), .pointer (some ⟨sb + 1, 0, none⟩), undef, (.slice (some ⟨g, 64 * x.1, none⟩) 64 64), .slice a 0 0, .int .i64 0, .slice a 0 0, .int .i64 0, .int .i64 0, .int .i64 0, .agg #[.int .u32 1779033703, .int .u32 3144134277, .int .u32 1013904242, .int .u32 2773480762, .int .u32 1359893119, .int .u32 2600822924, .int .u32 528734635, .int .u32 1541459225], .func (.func 58) #[.pointer (some ⟨sb, 0, none⟩)] #[], .slice a 0 0, .int .i64 0, .slice a 0 0, .func (.func 84) #[] #[.pointer (some ⟨sb + 1 + 1, 0, none⟩), .pointer (some ⟨sb + 1 + 1 + 1, 0, none⟩)], undef, undef, undef, undef, .slice a 0 0, .int .i64 0, .slice a 0 0, .slice a 0 0, .int .i64 0, .slice (some ⟨g, 0, none⟩) (64 * m2) 128, .func (.func 84) #[] #[.pointer (some ⟨w3.heap.size, 0, none⟩), .pointer (some ⟨w3.heap.size + 1, 0, none⟩)], (.slice (some ⟨g, 64 * x.1, none⟩) 64 64), undef, undef, undef, undef], defers := [] }) ?assign2 ?body2 ?done2 ?stop2
    case assign2 =>
      clear hstops hm2 hm22 hg1 hg2 hz5 hcs5 hcn5 hTl hDl hz3
      intro l x W K hK
      gi_wp2
      exact hK
    case body2 =>
      rintro l pre x W' hL _
      have hLL := hL
      obtain ⟨⟨hA, hLo⟩, hBW⟩ := hL
      have hx := x.2
      have hg' : BytesIn W' g 0 T := fun i hi => (hLo.cell (by omega) (by omega)).trans (HGB.out i hi)
      have hch := hg'.chunk (k := x.1) (by omega)
      rw [Nat.zero_add] at hch
      have hab := absorb_any W' sb g (64 * x.1) _ (chunkAt T x.1) (HT.out.below hBW h0) (by have := hBW.size; omega) hA (by have := hLo.1; omega) (chunk_len T (by omega)) hch (by have := hLo.1; omega)
      have hfc : W'.cell? ⟨sb + 1, 0, none⟩ = some (.func (.func 58) #[.pointer (some ⟨sb, 0, none⟩)] #[]) := (hLo.cell (by omega) (by omega)).trans HF5.out
      have HAB := Lib.hid hab
      have HLL := Lib.hid hLL
      clear hab hLL hA hLo hBW hg' hch hstops hm2 hm22 hg1 hg2 hz5 hcs5 hcn5 hTl hDl hz3
      gi_wp2_with fail
      refine ⟨trivial, ?_⟩
      refine (CallsIn.inRound l (callsIn_wide.2 HAB.out)).mono ?_
      rintro e W'' ⟨⟨v, rfl⟩, hA', hG'⟩
      have HST := Lib.hid (loop_step (by have := HZ3.out; have := HDL.out; omega) (by omega) (by have := HZ5.out; omega) HLL.out hA' hG')
      clear hA' hG'
      gi_wp2_with fail
      exact ⟨HST.out.2.2, HST.out.2.1, by show Loop w w5 sb (w3.heap.size + 2) T S1 (List.map _ (pre ++ [x])) W''; rw [List.map_append]; exact HST.out.1⟩
    case done2 =>
      rintro D2 ys W' hDD rfl hL hK2
      obtain ⟨⟨hA, hLo⟩, hBW⟩ := hL
      have hst : ((List.finRange m2).map (·.1)).foldl (fun t k => press t (chunkAt T k)) S1 = runs S1 T m2 := by rw [List.foldl_map]; exact fold_fin S1 T m2
      rw [hst] at hA
      have hKD : W'.heap[D]? = some (.deferred (some [])) := (hLo.2 D (by omega) (by omega)).trans HK5.out
      have hDW := HD5.out.same (W' := W') (hLo.2 w.heap.size (by omega) (by omega))
      have hLsz := hLo.1
      have HA := Lib.hid hA
      have HKD := Lib.hid hKD
      have HDW := Lib.hid hDW
      have HKK2 := Lib.hid hK2
      have HBW := Lib.hid hBW
      have HLSZ := Lib.hid hLsz
      clear hA hKD hDW hK2 hBW hLo hLsz hm2 hm22 hg1 hg2 hz5 hcs5 hcn5 hTl hDl hz3 hst hstops
      gi_wp2_with fail
      have hdg := digest_any W' sb (runs S1 T m2) HA.out (by have := HLSZ.out; have := HZ5.out; have := HDL.out; have := HZ3.out; omega)
      have hcl : (cells8 (outs (runs S1 T m2))).length = 32 := by rw [cells8_len, outs_len]
      have ho1 := one_cells8 (outs (runs S1 T m2))
      unfold dv at hdg
      obtain ⟨cs, hcs7⟩ : ∃ cs, cells8 (outs (runs S1 T m2)) = cs := ⟨_, rfl⟩
      rw [hcs7] at hdg hcl ho1
      have HZ1 : Hid ((Tryd.prog.info? 30).map (·.size) = some cs.length) := by show _ = _; rw [hcl]; exact Tryd.info30
      have HDG := Lib.hid hdg
      have HO1 := Lib.hid ho1
      have HCL := Lib.hid hcl
      have HCS7 := Lib.hid hcs7
      clear hdg ho1 hcl hcs7
      refine ⟨trivial, ?_⟩
      refine (callsIn_wide.2 HDG.out).mono ?_
      rintro e w7 ⟨rfl, hB7⟩
      have HB7 := Lib.hid hB7
      clear hB7
      have hw7 : w.heap.size < W'.heap.size := by have := HLSZ.out; have := HZ5.out; have := HDL.out; have := HZ3.out; omega
      gi_wp2_with (refine store_newIn rfl 30 _ _ (by rfl) w.heap.size w.heap.size cs _ (by rfl) (by rfl) (HBW.out.trans (HB7.out.mono (by omega))) (Nat.le_refl _) (HDW.out.below HB7.out hw7) (by rw [HCL.out]; rfl) HZ1.out HO1.out ?_; intro W8 hB8 hA8 ho8)
      have hDlt : D < W'.heap.size := (Array.getElem?_eq_some_iff.1 HKD.out).1
      have hD2lt : D2 < W'.heap.size := (Array.getElem?_eq_some_iff.1 HKK2.out).1
      have hwD : w.heap.size < D := by have := HZ5.out; have := HDL.out; have := HZ3.out; omega
      have hD12 : D < D2 := by have := HZ5.out; have := HDL.out; have := HZ3.out; omega
      have hK28 : W8.heap[D2]? = some (.deferred (some [])) := (ho8 D2 (by omega)).trans ((HB7.out.block D2 hD2lt).trans HKK2.out)
      have hK18 : W8.heap[D]? = some (.deferred (some [])) := (ho8 D (by omega)).trans ((HB7.out.block D hDlt).trans HKD.out)
      have hW9 := belowK_b (n₀ := w5.heap.size) (w := w5) (Nat.le_refl _) W8 D2 _ (.deferred none) hDD hK28 rfl rfl
      obtain ⟨W9, hW9e⟩ : ∃ W9, W8.putObj D2 (.deferred none) = W9 := ⟨_, rfl⟩
      rw [hW9e] at hW9
      have hz5 := HZ5.out
      have hz3 := HZ3.out
      have hDl := HDL.out
      have hK19 : W9.heap[D]? = some (.deferred (some [])) := (hW9.block D (by omega)).trans hK18
      have hW10 := belowK_b (n₀ := w2.heap.size) (w := w2) (Nat.le_refl _) W9 D _ (.deferred none) hD hK19 rfl rfl
      have hA10 := (hA8.below hW9 (by omega)).below hW10 (by omega)
      have hB10 : Below w.heap.size w _ := (hB8.trans (hW9.mono (by omega))).trans (hW10.mono (by omega))
      have hsha := sha_split [] 0 0 m2 rfl (by omega) HM2.out
      simp only [Nat.mul_zero, Nat.add_zero, List.drop_nil] at hsha
      rw [HS1.out, HT2.out] at hsha
      refine ⟨by simp, .inl ⟨_, _, rfl, run_takeDeferred hK28, ?_⟩⟩
      rw [hW9e]
      refine ⟨by simp, .inl ⟨_, _, rfl, run_takeDeferred hK19, ?_⟩⟩
      exact ⟨_, results_cell_mid rfl _ _ _ _ _ rfl hA10.at_ Tryd.underlying30 rfl HZ1.out, by rw [hsha, dv, HCS7.out], hB10⟩
    case stop2 =>
      rintro D c pre W _ _ h _
      exact h.elim
  case stop =>
    rintro D c pre W _ _ h _
    exact h.elim
end Go.Proofs.YtfmngeemhfpeiaaDoor

namespace Go.Proofs.YtfmngeemhfpeiaaDoor
open Go.RowKit Go.Shelf
attribute [local go_sem] Oper.semAt_some

set_option maxRecDepth 100000 in
set_option maxHeartbeats 4000000 in
theorem sum_nil (w : World) (hT : Tab w) (h0 : 0 < w.heap.size) :
    Calls Tryd.prog 27 #[.slice none 0 0] w fun e w' => e = .returned (dv (sha [])) ∧ Below w.heap.size w w' := by
  have HT := Lib.hid hT
  clear hT
  refine (callsIn_wide (n := 9)).1 ?_
  refine callsIn_of_wp_marks Tryd.func27 rfl trivial ?_ rfl
  simp only [Tryd.ntmps27, List.size_toArray, List.length_cons, List.length_nil, Nat.reduceAdd, Nat.reduceSub, Array.replicate_succ, Array.replicate_zero, List.push_toArray, List.append_toArray, List.nil_append, List.cons_append]
  gi_wp2_with fail
  refine ⟨trivial, ?_⟩
  refine (callsIn_wide.2 (first_any _)).mono ?_
  rintro e w1 ⟨rfl, hB1⟩
  have hA0 := Arr.new (w1.alloc (.cells #[.int .u32 1779033703, .int .u32 3144134277, .int .u32 1013904242, .int .u32 2773480762, .int .u32 1359893119, .int .u32 2600822924, .int .u32 528734635, .int .u32 1541459225] 76)) #[.nilFunc] 78
  rw [World.size_alloc] at hA0
  have hc1 := hA0.cell (i := 0) (v := .nilFunc) rfl
  have hc2 := hA0.frozen (i := 0) (by simp)
  clear hA0
  have hBw1 : Below w.heap.size w w1 := ((Below.refl w.heap.size w).alloc (Nat.le_refl _) _).trans (hB1.mono (by simp))
  have hD1 := (Arr.new w _ 30).below hB1 (by simp)
  have HB1 := Lib.hid hBw1
  have HD1 := Lib.hid hD1
  have hw1 : w.heap.size < w1.heap.size := by have := hB1.size; simp at this; omega
  clear hB1 hBw1 hD1
  gi_wp2_with fail
  refine ⟨trivial, ?_⟩
  refine (callsIn_wide.2 (chunk_any _ _ _ _)).mono ?_
  rintro e w2 ⟨rfl, hcs, hcn, hB2, hz2⟩
  have hS2 : Arr w2 w1.heap.size (ws s0.list) := by
    have h1 := Arr.new w1 #[.int .u32 1779033703, .int .u32 3144134277, .int .u32 1013904242, .int .u32 2773480762, .int .u32 1359893119, .int .u32 2600822924, .int .u32 528734635, .int .u32 1541459225] 76
    rw [s0_lit] at h1
    exact ((h1.alloc (by simp) _)).below hB2 (by simp; omega)
  have hF2 : w2.cell? ⟨w1.heap.size + 1, 0, none⟩ = some (.func (.func 58) #[.pointer (some ⟨w1.heap.size, 0, none⟩)] #[]) := by
    refine (hB2.cell (p := ⟨w1.heap.size + 1, 0, none⟩) (by simp)).trans ?_
    go_cell
  have hBw2 : Below w.heap.size w w2 :=
    HB1.out.trans ((((Below.refl w.heap.size w1).alloc (by omega) _).alloc (by simp; omega) _).trans (hB2.mono (by simp; omega)))
  have hD2 : Arr w2 w.heap.size _ := ((HD1.out.alloc hw1 _).alloc (by simp; omega) _).below hB2 (by simp; omega)
  simp only [World.size_alloc] at hcs hcn hz2
  obtain ⟨sb, hsb⟩ : ∃ sb, w1.heap.size = sb := ⟨_, rfl⟩
  rw [hsb] at hcs hcn hz2 hS2 hF2 hw1
  have HD2 := Lib.hid hD2
  clear hB2 HD1 HB1 hc1 hc2 hD2
  gi_wp2_with fail
  have hl1 : Loop w w2 sb (sb + 4) [] s0 (([] : List (Fin 0)).map (·.1)) w2 := ⟨⟨hS2, LowBut.refl _ _ _⟩, hBw2⟩
  refine wpIn_rangeFunc_ownF rfl (by omega) (gf := 84) (lb := #[.pointer (some ⟨sb + 1 + 1, 0, none⟩), .pointer (some ⟨sb + 1 + 1 + 1, 0, none⟩)]) rfl trivial (enters_of Tryd.func84 (by kernel_rfl) rfl)
    (chunk_stops 8 (by omega) (sb + 1 + 1) (sb + 1 + 1 + 1) (sb + 4) sb 0 1 0 0 none (.inl rfl) (by omega) (by omega) (by omega) (by omega) (by omega) (by omega) w2 (by omega) hcs hcn)
    LowBut.trans (lowBut_b (by omega)) (Below.refl _ _) (fun _ => rfl)
    (fun pre W => Loop w w2 sb (sb + 4) [] s0 (pre.map (·.1)) W) (fun _ _ _ => False)
    (loop_own (by omega) (by omega) (by omega)) (fun _ _ _ _ _ hs _ _ => hs) hl1
    (fun x => { tmps := #[.slice none 0 0, undef, .pointer (some ⟨w.heap.size, 0, none⟩), .int .i64 0, .pointer (some ⟨sb, 0, none⟩), .pointer (some ⟨sb + 1, 0, none⟩), (.slice (some ⟨0, 1 + 64 * x.1, none⟩) 64 64), undef, .slice none 0 0, .int .i64 0, .slice none 0 0, .int .i64 0, .int .i64 0, .int .i64 0, .agg #[.int .u32 1779033703, .int .u32 3144134277, .int .u32 1013904242, .int .u32 2773480762, .int .u32 1359893119, .int .u32 2600822924, .int .u32 528734635, .int .u32 1541459225], .func (.func 58) #[.pointer (some ⟨sb, 0, none⟩)] #[], .slice none 0 0, .int .i64 0, .slice none 0 0, .func (.func 84) #[] #[.pointer (some ⟨sb + 1 + 1, 0, none⟩), .pointer (some ⟨sb + 1 + 1 + 1, 0, none⟩)], (.slice (some ⟨0, 1 + 64 * x.1, none⟩) 64 64), undef, undef, undef, undef, undef, undef, undef, undef, undef, undef, undef, undef, undef, undef, undef], defers := [] }) ?assign ?body ?done ?stop
  case assign =>
    intro l x W K hK
    gi_wp2
    exact hK
  case body =>
    rintro l pre x W hL _
    exact x.elim0
  case done =>
    rintro D ys W hD rfl hL hK
    obtain ⟨⟨hA, hLo⟩, hBW⟩ := hL
    have hst : ((List.finRange 0).map (·.1)).foldl (fun t k => press t (chunkAt [] k)) s0 = runs s0 [] 0 := by rw [List.foldl_map]; exact fold_fin s0 ([] : List UInt8) 0
    rw [hst] at hA
    obtain ⟨m2, hm2, hm22⟩ : ∃ m2, endOf 0 = 64 * m2 ∧ m2 ≤ 2 := ⟨1, rfl, by omega⟩
    have hdl : ([] : List UInt8).length = 0 := rfl
    have hWs := hBW.size
    have hra : BytesAt W W.heap.size (.slice none 0 0) (([] : List UInt8)) := ⟨none, 0, rfl, by simp, by omega, .inl rfl⟩
    have hend := ending_cast W _ (([] : List UInt8)) 0 0 m2 0 (by omega) hdl hm2 hra (by omega) (by omega)
    have hFW : W.cell? ⟨sb + 1, 0, none⟩ = some (.func (.func 58) #[.pointer (some ⟨sb, 0, none⟩)] #[]) := (hLo.cell (by omega) (by omega)).trans hF2
    have hDW := HD2.out.same (W' := W) (hLo.2 w.heap.size (by omega) (by omega))
    have hLsz := hLo.1
    have HEND := Lib.hid hend
    have HAW := Lib.hid hA
    have HBW := Lib.hid hBW
    have HFW := Lib.hid hFW
    have HDW := Lib.hid hDW
    have HK := Lib.hid hK
    clear hend hA hBW hFW hDW hLo hst hdl hK hra
    gi_wp2_with fail
    refine ⟨trivial, ?_⟩
    refine (callsIn_wide.2 HEND.out).mono ?_
    rintro e w3 ⟨g, rfl, hg1, hg2, hgb, hB3⟩
    gi_wp2_with fail
    refine ⟨trivial, ?_⟩
    refine (callsIn_wide.2 (chunk_any _ _ _ _)).mono ?_
    rintro e w5 ⟨rfl, hcs5, hcn5, hB5, hz5⟩
    have hB35 : Below W.heap.size W w5 := hB3.trans (hB5.mono hB3.size)
    have hz3 := hB3.size
    have hA5 := HAW.out.below hB35 (by omega)
    have hF5 : w5.cell? ⟨sb + 1, 0, none⟩ = some (.func (.func 58) #[.pointer (some ⟨sb, 0, none⟩)] #[]) := (hB35.cell (p := ⟨sb + 1, 0, none⟩) (by show sb + 1 < _; omega)).trans HFW.out
    have hDl : D < W.heap.size := (Array.getElem?_eq_some_iff.1 HK.out).1
    have hK5 : w5.heap[D]? = some (.deferred (some [])) := (hB35.block D hDl).trans HK.out
    have hD5 := HDW.out.below hB35 (by omega)
    have hBw5 : Below w.heap.size w w5 := HBW.out.trans (hB35.mono (by omega))
    have hgb5 := hgb.below hB5 hg2
    obtain ⟨T, hT2⟩ : ∃ T, tailOf (([] : List UInt8)) 0 = T := ⟨_, rfl⟩
    have hTl : T.length = 64 * m2 := by rw [← hT2, tail_len _ _ (by simp), ← hm2]; congr 1
    rw [hT2] at hgb5
    obtain ⟨S1, hS1⟩ : ∃ S1, runs s0 [] 0 = S1 := ⟨_, rfl⟩
    rw [hS1] at hA5
    have HT2 := Lib.hid hT2
    have HS1 := Lib.hid hS1
    have HA5 := Lib.hid hA5
    have HD5 := Lib.hid hD5
    have HK5 := Lib.hid hK5
    have HGB := Lib.hid hgb5
    have HBW5 := Lib.hid hBw5
    have HM2 := Lib.hid hm2
    have HM22 := Lib.hid hm22
    have HG1 := Lib.hid hg1
    have HG2 := Lib.hid hg2
    have HZ5 := Lib.hid hz5
    have HCS5 := Lib.hid hcs5
    have HCN5 := Lib.hid hcn5
    have HF5 := Lib.hid hF5
    have HTL := Lib.hid hTl
    have HDL := Lib.hid hDl
    have HZ3 := Lib.hid hz3
    clear hB35 hA5 hK5 hD5 hgb5 hgb hB3 HEND HAW HFW HDW HK HBW hB5 hT2 hS1 hBw5 hm2 hm22 hg1 hg2 hz5 hcs5 hcn5 hF5 hTl hDl hz3
    gi_wp2_with fail
    have hm2 := HM2.out
    have hm22 := HM22.out
    have hg1 := HG1.out
    have hg2 := HG2.out
    have hz5 := HZ5.out
    have hcs5 := HCS5.out
    have hcn5 := HCN5.out
    have hTl := HTL.out
    have hDl := HDL.out
    have hz3 := HZ3.out
    have hstops := chunk_stops 8 (by omega) w3.heap.size (w3.heap.size + 1) (w3.heap.size + 2) sb g 0 m2 128 (some ⟨g, 0, none⟩) (.inr rfl) (by omega) (by omega) (by omega) (by omega) (by omega) (by omega) w5 (by omega) hcs5 hcn5
    simp only [Nat.zero_add] at hstops
    have hl2 : Loop w w5 sb (w3.heap.size + 2) T S1 (([] : List (Fin m2)).map (·.1)) w5 := ⟨⟨HA5.out, LowBut.refl _ _ _⟩, HBW5.out⟩
    refine wpIn_rangeFunc_ownF rfl (by omega) (gf := 84) (lb := #[.pointer (some ⟨w3.heap.size, 0, none⟩), .pointer (some ⟨w3.heap.size + 1, 0, none⟩)]) rfl trivial (enters_of Tryd.func84 (by kernel_rfl) rfl)
      hstops
      LowBut.trans (lowBut_b (by omega)) (Below.refl _ _) (fun _ => rfl)
      (fun pre W => Loop w w5 sb (w3.heap.size + 2) T S1 (pre.map (·.1)) W) (fun _ _ _ => False)
      (loop_own (by omega) (by omega) (by omega)) (fun _ _ _ _ _ hs _ _ => hs) hl2
      (fun x => { tmps := #[.slice none 0 0, undef, .pointer (some ⟨w.heap.size, 0, none⟩), .int .i64 0, .pointer (some ⟨sb, 0, none⟩), .pointer (some ⟨sb + 1, 0, none⟩), undef, (.slice (some ⟨g, 64 * x.1, none⟩) 64 64), .slice none 0 0, .int .i64 0, .slice none 0 0, .int .i64 0, .int .i64 0, .int .i64 0, .agg #[.int .u32 1779033703, .int .u32 3144134277, .int .u32 1013904242, .int .u32 2773480762, .int .u32 1359893119, .int .u32 2600822924, .int .u32 528734635, .int .u32 1541459225], .func (.func 58) #[.pointer (some ⟨sb, 0, none⟩)] #[], .slice none 0 0, .int .i64 0, .slice none 0 0, .func (.func 84) #[] #[.pointer (some ⟨sb + 1 + 1, 0, none⟩), .pointer (some ⟨sb + 1 + 1 + 1, 0, none⟩)], undef, undef, undef, undef, .slice none 0 0, .int .i64 0, .slice none 0 0, .slice none 0 0, .int .i64 0, .slice (some ⟨g, 0, none⟩) (64 * m2) 128, .func (.func 84) #[] #[.pointer (some ⟨w3.heap.size, 0, none⟩), .pointer (some ⟨w3.heap.size + 1, 0, none⟩)], (.slice (some ⟨g, 64 * x.1, none⟩) 64 64), undef, undef, undef, undef], defers := [] }) ?assign2 ?body2 ?done2 ?stop2
    case assign2 =>
      clear hstops hm2 hm22 hg1 hg2 hz5 hcs5 hcn5 hTl hDl hz3
      intro l x W K hK
      gi_wp2
      exact hK
    case body2 =>
      rintro l pre x W' hL _
      have hLL := hL
      obtain ⟨⟨hA, hLo⟩, hBW⟩ := hL
      have hx := x.2
      have hg' : BytesIn W' g 0 T := fun i hi => (hLo.cell (by omega) (by omega)).trans (HGB.out i hi)
      have hch := hg'.chunk (k := x.1) (by omega)
      rw [Nat.zero_add] at hch
      have hab := absorb_any W' sb g (64 * x.1) _ (chunkAt T x.1) (HT.out.below hBW h0) (by have := hBW.size; omega) hA (by have := hLo.1; omega) (chunk_len T (by omega)) hch (by have := hLo.1; omega)
      have hfc : W'.cell? ⟨sb + 1, 0, none⟩ = some (.func (.func 58) #[.pointer (some ⟨sb, 0, none⟩)] #[]) := (hLo.cell (by omega) (by omega)).trans HF5.out
      have HAB := Lib.hid hab
      have HLL := Lib.hid hLL
      clear hab hLL hA hLo hBW hg' hch hstops hm2 hm22 hg1 hg2 hz5 hcs5 hcn5 hTl hDl hz3
      gi_wp2_with fail
      refine ⟨trivial, ?_⟩
      refine (CallsIn.inRound l (callsIn_wide.2 HAB.out)).mono ?_
      rintro e W'' ⟨⟨v, rfl⟩, hA', hG'⟩
      have HST := Lib.hid (loop_step (by have := HZ3.out; have := HDL.out; omega) (by omega) (by have := HZ5.out; omega) HLL.out hA' hG')
      clear hA' hG'
      gi_wp2_with fail
      exact ⟨HST.out.2.2, HST.out.2.1, by show Loop w w5 sb (w3.heap.size + 2) T S1 (List.map _ (pre ++ [x])) W''; rw [List.map_append]; exact HST.out.1⟩
    case done2 =>
      rintro D2 ys W' hDD rfl hL hK2
      obtain ⟨⟨hA, hLo⟩, hBW⟩ := hL
      have hst : ((List.finRange m2).map (·.1)).foldl (fun t k => press t (chunkAt T k)) S1 = runs S1 T m2 := by rw [List.foldl_map]; exact fold_fin S1 T m2
      rw [hst] at hA
      have hKD : W'.heap[D]? = some (.deferred (some [])) := (hLo.2 D (by omega) (by omega)).trans HK5.out
      have hDW := HD5.out.same (W' := W') (hLo.2 w.heap.size (by omega) (by omega))
      have hLsz := hLo.1
      have HA := Lib.hid hA
      have HKD := Lib.hid hKD
      have HDW := Lib.hid hDW
      have HKK2 := Lib.hid hK2
      have HBW := Lib.hid hBW
      have HLSZ := Lib.hid hLsz
      clear hA hKD hDW hK2 hBW hLo hLsz hm2 hm22 hg1 hg2 hz5 hcs5 hcn5 hTl hDl hz3 hst hstops
      gi_wp2_with fail
      have hdg := digest_any W' sb (runs S1 T m2) HA.out (by have := HLSZ.out; have := HZ5.out; have := HDL.out; have := HZ3.out; omega)
      have hcl : (cells8 (outs (runs S1 T m2))).length = 32 := by rw [cells8_len, outs_len]
      have ho1 := one_cells8 (outs (runs S1 T m2))
      unfold dv at hdg
      obtain ⟨cs, hcs7⟩ : ∃ cs, cells8 (outs (runs S1 T m2)) = cs := ⟨_, rfl⟩
      rw [hcs7] at hdg hcl ho1
      have HZ1 : Hid ((Tryd.prog.info? 30).map (·.size) = some cs.length) := by show _ = _; rw [hcl]; exact Tryd.info30
      have HDG := Lib.hid hdg
      have HO1 := Lib.hid ho1
      have HCL := Lib.hid hcl
      have HCS7 := Lib.hid hcs7
      clear hdg ho1 hcl hcs7
      refine ⟨trivial, ?_⟩
      refine (callsIn_wide.2 HDG.out).mono ?_
      rintro e w7 ⟨rfl, hB7⟩
      have HB7 := Lib.hid hB7
      clear hB7
      have hw7 : w.heap.size < W'.heap.size := by have := HLSZ.out; have := HZ5.out; have := HDL.out; have := HZ3.out; omega
      gi_wp2_with (refine store_newIn rfl 30 _ _ (by rfl) w.heap.size w.heap.size cs _ (by rfl) (by rfl) (HBW.out.trans (HB7.out.mono (by omega))) (Nat.le_refl _) (HDW.out.below HB7.out hw7) (by rw [HCL.out]; rfl) HZ1.out HO1.out ?_; intro W8 hB8 hA8 ho8)
      have hDlt : D < W'.heap.size := (Array.getElem?_eq_some_iff.1 HKD.out).1
      have hD2lt : D2 < W'.heap.size := (Array.getElem?_eq_some_iff.1 HKK2.out).1
      have hwD : w.heap.size < D := by have := HZ5.out; have := HDL.out; have := HZ3.out; omega
      have hD12 : D < D2 := by have := HZ5.out; have := HDL.out; have := HZ3.out; omega
      have hK28 : W8.heap[D2]? = some (.deferred (some [])) := (ho8 D2 (by omega)).trans ((HB7.out.block D2 hD2lt).trans HKK2.out)
      have hK18 : W8.heap[D]? = some (.deferred (some [])) := (ho8 D (by omega)).trans ((HB7.out.block D hDlt).trans HKD.out)
      have hW9 := belowK_b (n₀ := w5.heap.size) (w := w5) (Nat.le_refl _) W8 D2 _ (.deferred none) hDD hK28 rfl rfl
      obtain ⟨W9, hW9e⟩ : ∃ W9, W8.putObj D2 (.deferred none) = W9 := ⟨_, rfl⟩
      rw [hW9e] at hW9
      have hz5 := HZ5.out
      have hz3 := HZ3.out
      have hDl := HDL.out
      have hK19 : W9.heap[D]? = some (.deferred (some [])) := (hW9.block D (by omega)).trans hK18
      have hW10 := belowK_b (n₀ := w2.heap.size) (w := w2) (Nat.le_refl _) W9 D _ (.deferred none) hD hK19 rfl rfl
      have hA10 := (hA8.below hW9 (by omega)).below hW10 (by omega)
      have hB10 : Below w.heap.size w _ := (hB8.trans (hW9.mono (by omega))).trans (hW10.mono (by omega))
      have hsha := sha_split [] 0 0 m2 rfl (by omega) HM2.out
      simp only [Nat.mul_zero, Nat.add_zero, List.drop_nil] at hsha
      rw [HS1.out, HT2.out] at hsha
      refine ⟨by simp, .inl ⟨_, _, rfl, run_takeDeferred hK28, ?_⟩⟩
      rw [hW9e]
      refine ⟨by simp, .inl ⟨_, _, rfl, run_takeDeferred hK19, ?_⟩⟩
      exact ⟨_, results_cell_mid rfl _ _ _ _ _ rfl hA10.at_ Tryd.underlying30 rfl HZ1.out, by rw [hsha, dv, HCS7.out], hB10⟩
    case stop2 =>
      rintro D c pre W _ _ h _
      exact h.elim
  case stop =>
    rintro D c pre W _ _ h _
    exact h.elim
end Go.Proofs.YtfmngeemhfpeiaaDoor

namespace Go.Proofs.YtfmngeemhfpeiaaDoor
open Go.RowKit

/-- An append whose run is known. -/
theorem wpList_append_run {P : Program} {ops : Array Oper} {rest : List Oper} {o : Oper} {a : Act} {w : World} {Q : Exit → Act → World → Prop} (hgd : o.guard = none) (s x : Operand) (t tx : TypeId)
    (ho : o.op = .call { callee := .builtin .append, args := #[s, x], argTypes := #[t, tx] }) (va vb v : Value) (w' : World) (h1 : a.eval s = va) (h2 : a.eval x = vb)
    (hrun : (Builtin.append_ #[t, tx] o.type #[va, vb]).run P w = .ok v w') (h : wpList P ops Q rest (a.put o.dst v) w') : wpList P ops Q (o :: rest) a w :=
  wpList_plain hgd fun K hK => by
    subst h1; subst h2
    unfold Oper.wp execOp
    simp [ho, resolve, invoke, builtin, hrun, Result.andThen]
    exact hK _ _ h
theorem Tryd.infoU8 : (Tryd.prog.info? 5).map (fun i => (i.zero, i.size, i.bytes)) = some (some (.int .u8 0), 1, 1) := by kernel_rfl

set_option maxRecDepth 100000 in
set_option maxHeartbeats 2000000 in
theorem grow_any (w : World) (n : Nat) (h0 : 0 < n) (hn : n ≤ 1000000000) : Calls Tryd.prog 85 #[.slice none 0 0, .int .i64 n] w fun e w' =>
    ∃ g cap, e = .returned (.slice (some ⟨g, 0, none⟩) 0 cap) ∧ w.heap.size ≤ g ∧ n ≤ cap ∧ w'.ownsRow w.heap.size 5 1 (.slice (some ⟨g, 0, none⟩) 0 cap) 0 [] ∧ Below w.heap.size w w' := by
  obtain ⟨i0, hi, hz0, hz1, hz2⟩ := info_parts Tryd.infoU8
  have happ := fun (W : World) (ty : TypeId) => Lib.run_append_nil_zeros W 34 3 ty 5 i0 (.int .u8 0) .i64 .i64 Tryd.underlying34 Tryd.underlying3 hi hz0 n h0 (by omega) (by omega) (by rw [hz2]; omega)
  have hge := grownCap_ge w n 0 5
  have hle := grownCap_le_maxLen w n 0 5 (by unfold maxLen; omega)
  obtain ⟨cap, hcap⟩ : ∃ cap, grownCap w n 0 5 = cap := ⟨_, rfl⟩
  have hap := happ w
  rw [hcap] at hge hle hap
  have ha := hap 34
  obtain ⟨C, hC⟩ : ∃ C, Builtin.zeroCells (Value.int IntKind.u8 0).cells n ++ Builtin.zeroCells (Value.int IntKind.u8 0).cells (cap - n) = C := ⟨_, rfl⟩
  have hCs : C.size = cap := by rw [← hC]; simp [Builtin.zeroCells, Value.cells]; omega
  rw [hC] at ha
  have HLE := Lib.hid hle
  have HCS := Lib.hid hCs
  clear happ hap hC hcap hle hi hz0 hz1 hz2 hCs
  have d1 : decide ((0 : Int) < (n : Int)) = true := by simpa using h0
  have d2 : decide ((n : Int) < 0) = false := by simp
  go_enter Tryd.func85, Tryd.ntmps85
  go_wp2_with (at_builtin; refine wpList_append_run rfl (.tmp 20) (.tmp 21) 34 3 rfl (.slice none 0 0) (.int .i64 n) _ _ (by rfl) (by rfl) ha ?_)
  go_ret
  refine ⟨w.heap.size, cap, rfl, Nat.le_refl _, hge, ⟨rfl, .inr ⟨_, cap, C, rfl, Nat.le_refl _, ?_, Nat.zero_le _, HLE.out, by rw [HCS.out]; omega, rfl⟩⟩, by go_grown⟩
  exact heap_alloc_new w.drew _
end Go.Proofs.YtfmngeemhfpeiaaDoor

namespace Go.Proofs.YtfmngeemhfpeiaaDoor
open Go.RowKit

/-- A slice that owns a row with room. -/
def Spare (w : World) (B g n cap : Nat) (l : List UInt8) : Prop := w.ownsRow B 5 1 (.slice (some ⟨g, 0, none⟩) n cap) n (cells8 l)
theorem Spare.below {w w' : World} {B g m cap : Nat} {l : List UInt8} (h : Spare w B g m cap l) (hb : Below w.heap.size w w') : Spare w' B g m cap l := World.ownsRow.kept h (gbelow (row := none) hb) (.inr (by simp [Value.ownBlock]))
theorem Spare.bytes {w : World} {B g n cap : Nat} {l : List UInt8} (h : Spare w B g n cap l) : B ≤ g ∧ g < w.heap.size ∧ n ≤ cap ∧ cap ≤ maxLen ∧ l.length = n ∧ BytesIn w g 0 l := by
  have hlt := World.ownsRow.lt h g rfl
  obtain ⟨h1, h2⟩ := h
  have hl : l.length = n := by simpa [cells8] using h1
  rcases h2 with ⟨h3, _⟩ | ⟨g', cap', cur, hv, hbg, hg, hnc, hcm, hcs, htake⟩
  · cases h3
  · cases hv
    refine ⟨hbg, hlt.2, hnc, hcm, hl, fun i hi => ?_⟩
    have hi2 : i < cur.size := by omega
    have e : (cells8 l)[i]? = some (.int .u8 l[i].toNat) := by simp [cells8, List.getElem?_eq_getElem hi]
    rw [← htake, List.getElem?_take, if_pos (by omega)] at e
    rw [Nat.zero_add]
    simpa [World.cell?, hg] using e

theorem bytes_news {w : World} {db off : Nat} {l : List UInt8} (h : BytesIn w db off l) : ∀ j u, (cells8 l)[j]? = some u → w.cell? ((⟨db, off, none⟩ : Addr).add j) = some u := fun j u hu => by
  have hj : j < l.length := by have := (List.getElem?_eq_some_iff.1 hu).1; simpa [cells8] using this
  rw [show (⟨db, off, none⟩ : Addr).add j = ⟨db, off + j, none⟩ from Addr.add_mid db off j, h j hj, ← hu]
  simp [cells8, List.getElem?_eq_getElem hj]

set_option maxRecDepth 100000 in
set_option maxHeartbeats 2000000 in
theorem concat_any (w : World) (lb db1 off1 c1 c2 : Nat) (a2 : Option Addr) (l1 l2 : List UInt8) (h1 : BytesIn w db1 off1 l1) (hd1 : db1 < w.heap.size) (h2 : l2 = [] ∨ ∃ db2 off2, a2 = some ⟨db2, off2, none⟩ ∧ db2 < w.heap.size ∧ BytesIn w db2 off2 l2)
    (hl0 : 0 < l1.length) (hl : l1.length + l2.length ≤ 1000000000) (hlb : lb < w.heap.size) (hc1 : w.cell? ⟨lb, 0, none⟩ = some (.slice (some ⟨db1, off1, none⟩) l1.length c1)) (hc2 : w.cell? ⟨lb, 1, none⟩ = some (.slice a2 l2.length c2)) :
    Calls Tryd.prog 62 #[.slice (some ⟨lb, 0, none⟩) 2 2] w fun e w' => ∃ g cap, e = .returned (.slice (some ⟨g, 0, none⟩) (l1.length + l2.length) cap) ∧ Spare w' w.heap.size g (l1.length + l2.length) cap (l1 ++ l2) ∧ Below w.heap.size w w' := by
  have HG := Lib.hid (fun W => grow_any W (l1.length + l2.length) (by omega) hl)
  have H1 := Lib.hid h1
  have H2 := Lib.hid h2
  have hc1' := Lib.hid hc1
  have hc2' := Lib.hid hc2
  obtain ⟨n1, hn1⟩ : ∃ n, l1.length = n := ⟨_, rfl⟩
  obtain ⟨n2, hn2⟩ : ∃ n, l2.length = n := ⟨_, rfl⟩
  rw [hn1, hn2] at HG hl ⊢
  rw [hn1] at hc1 hc1'
  rw [hn2] at hc2 hc2'
  have HN1 := Lib.hid hn1
  have HN2 := Lib.hid hn2
  have hl01 : 0 < n1 := by omega
  clear h1 h2 hn1 hn2 hl0
  have q1 : IntKind.i64.wrap (n1 : Int) = (n1 : Int) := by rw [IntKind.wrap_i64]; omega
  have q2 : IntKind.i64.wrap ((n1 : Int) + (n2 : Int)) = (n1 : Int) + (n2 : Int) := by rw [IntKind.wrap_i64]; omega
  have d1 : decide ((n1 : Int) < 0) = false := by simp
  have d2 : decide ((n1 : Int) + (n2 : Int) < 0) = false := by simp; omega
  go_enter Tryd.func62, Tryd.ntmps62
  go_wp2
  go_loopw [3, 11] (fun s i wr => w = wr ∧ ((i = .int .i64 0 ∧ s = .int .i64 0) ∨ (i = .int .i64 1 ∧ s = .int .i64 n1) ∨ (i = .int .i64 2 ∧ s = .int .i64 ((n1 : Int) + (n2 : Int))))) (fun _ i _ => 2 - (intOf i).toNat)
  case atStart => exact ⟨rfl, .inl ⟨rfl, rfl⟩⟩
  case round =>
    obtain ⟨rfl, ⟨rfl, rfl⟩ | ⟨rfl, rfl⟩ | ⟨rfl, rfl⟩⟩ := hrel
    · go_wp2
      go_roundw
      case rel => exact ⟨by simp, .inr (.inl ⟨rfl, rfl⟩)⟩
      case measure => simp [intOf]
    · go_wp2
      go_roundw
      case rel => exact ⟨by simp, .inr (.inr ⟨rfl, rfl⟩)⟩
      case measure => simp [intOf]
    · go_wp2_with fail
      have hgr := HG.out w
      rw [Int.natCast_add] at hgr
      refine hgr.mono ?_
      rintro e w3 ⟨g, cap, rfl, hg1, hncap, hown, hB3⟩
      have hm1 : w3.cell? ⟨lb, 0, none⟩ = some (.slice (some ⟨db1, off1, none⟩) n1 c1) := (hB3.cell (p := ⟨lb, 0, none⟩) hlb).trans hc1'.out
      have hm2 : w3.cell? ⟨lb, 1, none⟩ = some (.slice a2 n2 c2) := (hB3.cell (p := ⟨lb, 1, none⟩) hlb).trans hc2'.out
      have HOWN := Lib.hid hown
      have HB3 := Lib.hid hB3
      clear hown hB3 hc1 hc2
      have hroom : n1 + n2 ≤ cap := by omega
      obtain ⟨i0, hi, hz0, hz1, hz2⟩ := info_parts Tryd.infoU8
      go_wp2
      go_loopw [6, 27] (fun v i W => Below w.heap.size w W ∧ ((i = .int .i64 0 ∧ v = .slice (some ⟨g, 0, none⟩) 0 cap ∧ Spare W w.heap.size g 0 cap []) ∨ (i = .int .i64 1 ∧ v = .slice (some ⟨g, 0, none⟩) n1 cap ∧ Spare W w.heap.size g n1 cap l1)
        ∨ (i = .int .i64 2 ∧ v = .slice (some ⟨g, 0, none⟩) (n1 + n2) cap ∧ Spare W w.heap.size g (n1 + n2) cap (l1 ++ l2)))) (fun _ i _ => 2 - (intOf i).toNat)
      case atStart => exact ⟨HB3.out, .inl ⟨rfl, rfl, HOWN.out⟩⟩
      case round =>
        obtain ⟨hBW, ⟨rfl, rfl, hsp⟩ | ⟨rfl, rfl, hsp⟩ | ⟨rfl, rfl, hsp⟩⟩ := hrel
        · have hv1 : wr.cell? ⟨lb, 0, none⟩ = some (.slice (some ⟨db1, off1, none⟩) n1 c1) := (hBW.cell (p := ⟨lb, 0, none⟩) hlb).trans hc1'.out
          have hnews := H1.out.below hBW hd1
          have HSP := Lib.hid hsp
          have HBW := Lib.hid hBW
          have HN := Lib.hid hnews
          clear hsp hBW hnews hm1 hm2
          go_wp2_with (at_builtin; refine wpList_append_own_spare _ rfl (.tmp 31) (.tmp 32) 34 rfl w.heap.size 5 i0 1 Tryd.underlying34 hi hz1 g 0 cap _ rfl HSP.out ⟨db1, off1, none⟩ n1 c1 (cells8 l1) rfl (by rw [cells8_len, HN1.out]; omega) (bytes_news HN.out) (one_cells8 l1) (by omega) ?_; intro w4 hown4 hgrow4)
          have HO4 := Lib.hid hown4
          have HG4 := Lib.hid hgrow4
          clear hown4 hgrow4
          go_wp2
          go_roundw
          case rel => exact ⟨HBW.out.grown HG4.out HBW.out.size (fun k e => by cases e; exact HSP.out.bytes.1), .inr (.inl ⟨rfl, by simp, by have h := HO4.out; rw [Nat.zero_add] at h; exact h⟩)⟩
          case measure => simp [intOf]
        · have hv2 : wr.cell? ⟨lb, 1, none⟩ = some (.slice a2 n2 c2) := (hBW.cell (p := ⟨lb, 1, none⟩) hlb).trans hc2'.out
          have HSP := Lib.hid hsp
          have HBW := Lib.hid hBW
          clear hsp hBW hm1 hm2
          rcases H2.out with h20 | ⟨db2, off2, rfl, hd2, hb2⟩
          · have hn20 : n2 = 0 := by have := HN2.out; rw [h20] at this; simpa using this.symm
            subst hn20
            subst h20
            have hrun := fun ty => run_append_nothing wr 34 34 ty 5 i0 Tryd.underlying34 hi (some ⟨g, 0, none⟩) n1 cap (by omega) (.slice a2 0 c2) (by rcases a2 with _ | p; exact Src.ofNil wr Tryd.underlying34 c2; exact Src.ofSlice wr Tryd.underlying34 p 0 c2 [] (by simp) (fun j u h => by cases h) (fun _ h => by cases h))
            go_wp2_with (at_builtin; refine wpList_append_run rfl (.tmp 31) (.tmp 32) 34 34 rfl (.slice (some ⟨g, 0, none⟩) n1 cap) (.slice a2 0 c2) _ _ (by rfl) (by rfl) (hrun _) ?_)
            go_wp2
            go_roundw
            case rel => exact ⟨_, _, _, ⟨HBW.out, .inr (.inr ⟨rfl, rfl, HSP.out⟩)⟩, rfl, rfl, rfl⟩
            case measure => simp [intOf]
          · have hnews := hb2.below HBW.out hd2
            have HN := Lib.hid hnews
            clear hnews hb2
            go_wp2_with (at_builtin; refine wpList_append_own_spare _ rfl (.tmp 31) (.tmp 32) 34 rfl w.heap.size 5 i0 1 Tryd.underlying34 hi hz1 g n1 cap _ rfl HSP.out ⟨db2, off2, none⟩ n2 c2 (cells8 l2) rfl (by rw [cells8_len, HN2.out]; omega) (bytes_news HN.out) (one_cells8 l2) (by omega) ?_; intro w4 hown4 hgrow4)
            have HO4 := Lib.hid hown4
            have HG4 := Lib.hid hgrow4
            clear hown4 hgrow4
            go_wp2
            go_roundw
            case rel => exact ⟨HBW.out.grown HG4.out HBW.out.size (fun k e => by cases e; exact HSP.out.bytes.1), .inr (.inr ⟨rfl, rfl, by unfold Spare; rw [cells8_app]; exact HO4.out⟩)⟩
            case measure => simp [intOf]
        · go_wp2
          go_ret
          exact ⟨g, cap, rfl, hsp, hBW⟩
end Go.Proofs.YtfmngeemhfpeiaaDoor

namespace Go.Proofs.YtfmngeemhfpeiaaDoor
open Go.RowKit

/-- Bytes in a slice: nil, or in memory below B. -/
def Row (w : World) (B : Nat) (v : Value) (b : List UInt8) : Prop :=
  (v = .slice none 0 0 ∧ b = []) ∨ ∃ db off cap, v = .slice (some ⟨db, off, none⟩) b.length cap ∧ b.length ≤ cap ∧ cap ≤ maxLen ∧ db < B ∧ BytesIn w db off b
theorem Row.below {w w' : World} {B : Nat} {v : Value} {b : List UInt8} (h : Row w B v b) (hb : Below B w w') : Row w' B v b := by
  rcases h with h | ⟨db, off, cap, h1, h2, h3, h4, h5⟩
  · exact .inl h
  · exact .inr ⟨db, off, cap, h1, h2, h3, h4, h5.below hb h4⟩
theorem Row.mono {w : World} {B B' : Nat} {v : Value} {b : List UInt8} (h : Row w B v b) (hb : B ≤ B') : Row w B' v b := by
  rcases h with h | ⟨db, off, cap, h1, h2, h3, h4, h5⟩
  · exact .inl h
  · exact .inr ⟨db, off, cap, h1, h2, h3, by omega, h5⟩
theorem Spare.row {w : World} {B g n cap : Nat} {l : List UInt8} (h : Spare w B g n cap l) : Row w w.heap.size (.slice (some ⟨g, 0, none⟩) n cap) l := by
  obtain ⟨_, h1, h2, h3, h4, h5⟩ := h.bytes
  exact .inr ⟨g, 0, cap, by rw [h4], by omega, h3, h1, h5⟩
theorem sum_any (w : World) (v : Value) (b : List UInt8) (h : Row w w.heap.size v b) (hl : b.length < 1000000000) (hT : Tab w) (h0 : 0 < w.heap.size) :
    Calls Tryd.prog 27 #[v] w fun e w' => e = .returned (dv (sha b)) ∧ Below w.heap.size w w' := by
  rcases h with ⟨rfl, rfl⟩ | ⟨db, off, cap, rfl, hc, hm, hdb, hb⟩
  · exact sum_nil w hT h0
  · have e : b.length = 64 * (b.length / 64) + b.length % 64 := by omega
    by_cases hlt : 64 * (b.length / 64) < cap
    · have := sum_some w db off cap (b.length / 64) (b.length % 64) b e (by omega) hb hdb (by omega) hlt hm (by omega) hT h0
      rwa [← e] at this
    · have hc' : cap = 64 * (b.length / 64) := by omega
      have hl' : b.length = 64 * (b.length / 64) := by omega
      have := sum_full w db off (b.length / 64) b hl' hb hdb (by omega) hT h0
      rw [← hl'] at this hc'
      rw [hc']; exact this
end Go.Proofs.YtfmngeemhfpeiaaDoor

namespace Go.Proofs.YtfmngeemhfpeiaaDoor
open Go.RowKit

def tagged (t b : List UInt8) : List UInt8 := sha (sha t ++ b)
theorem dv_eq (l : List UInt8) : dv l = .agg (cells8 l).toArray := rfl
theorem bytesWorld_row (w : World) (s : ByteArray) (cap : Nat) (hc : s.size ≤ cap) (hm : cap ≤ maxLen) : Row (Lib.bytesWorld w 5 s) (Lib.bytesWorld w 5 s).heap.size (.slice (some ⟨w.heap.size, 0, none⟩) s.size cap) s.data.toList := by
  have hl : s.data.toList.length = s.size := by rw [Array.length_toList]; rfl
  refine .inr ⟨w.heap.size, 0, cap, by rw [hl], by omega, hm, by rw [Lib.bytesWorld_size]; omega, fun i hi => ?_⟩
  rw [Nat.zero_add, Lib.bytesWorld_cell w 5 s i (by omega)]
  simp [List.getD, List.getElem?_eq_getElem hi]
theorem bytesWorld_below (w : World) (s : ByteArray) : Below w.heap.size w (Lib.bytesWorld w 5 s) :=
  ⟨rfl, rfl, rfl, by rw [Lib.bytesWorld_size]; omega, fun k hk => Lib.bytesWorld_at_old w 5 s k hk⟩

set_option maxRecDepth 100000 in
set_option maxHeartbeats 2000000 in
theorem tagged_any (w : World) (s : ByteArray) (v : Value) (b : List UInt8) (hv : BytesAt w w.heap.size v b) (hs : s.size ≤ 100000000) (hb : b.length ≤ 100000000) (hT : Tab w) (h0 : 0 < w.heap.size) :
    Calls Tryd.prog 28 #[.string s, v] w fun e w' => e = .returned (dv (tagged s.data.toList b)) ∧ Below w.heap.size w w' := by
  have hcv := fun (W : World) => Lib.run_convert_string_bytes (P := Tryd.prog) W 9 34 5 s Tryd.underlying9 Tryd.underlying34 Tryd.underlying5
  obtain ⟨a2, c2, rfl, _, _, h2⟩ := hv
  obtain ⟨n2, hn2⟩ : ∃ n2, b.length = n2 := ⟨_, rfl⟩
  rw [hn2]
  have hls : s.data.toList.length = s.size := by rw [Array.length_toList]; rfl
  have HT := Lib.hid hT
  have H2 := Lib.hid h2
  have HLS := Lib.hid hls
  have HN2 := Lib.hid hn2
  have HBL := Lib.hid hb
  clear hT h2 hls hn2 hb
  go_enter Tryd.func28, Tryd.ntmps28
  go_wp2_with (refine wpList_world (fun W => Below w.heap.size w W ∧ Arr W w.heap.size (cells8 (List.replicate 32 0)) ∧ w.heap.size < W.heap.size) ⟨by go_grown, Arr.new w _ 30, by simp⟩ ?_; rintro W0 ⟨hB0, hD0, hz0⟩)
  refine (sum_any _ _ s.data.toList (bytesWorld_row W0 s _ (grownCap_ge _ _ _ _) (grownCap_le_maxLen _ _ _ _ (by unfold maxLen; omega))) (by rw [HLS.out]; omega)
    (HT.out.below (hB0.trans ((bytesWorld_below W0 s).mono (by omega))) h0) (by rw [Lib.bytesWorld_size]; omega)).mono ?_
  rintro e w2 ⟨rfl, hB2⟩
  have hBw2 : Below w.heap.size w w2 := (hB0.trans ((bytesWorld_below W0 s).mono (by omega))).trans (hB2.mono (by rw [Lib.bytesWorld_size]; omega))
  have hD2 := (hD0.below (bytesWorld_below W0 s) hz0).below hB2 (by rw [Lib.bytesWorld_size]; omega)
  have hw2 : w.heap.size < w2.heap.size := by have := hB2.size; rw [Lib.bytesWorld_size] at this; omega
  clear hB0 hD0
  have hcl := sha_len s.data.toList
  have ho1 := one_cells8 (sha s.data.toList)
  rw [dv_eq]
  obtain ⟨cs, hcs⟩ : ∃ cs, cells8 (sha s.data.toList) = cs := ⟨_, rfl⟩
  rw [← cells8_len, hcs] at hcl
  rw [hcs] at ho1
  rw [hcs]
  have HZ1 : Hid ((Tryd.prog.info? 30).map (·.size) = some cs.length) := by show _ = _; rw [hcl]; exact Tryd.info30
  have HO1 := Lib.hid ho1
  have HCL := Lib.hid hcl
  have HCS := Lib.hid hcs
  have HBW2 := Lib.hid hBw2
  have HD2 := Lib.hid hD2
  clear hB2 hBw2 hD2 hcl ho1 hcs hcv
  go_wp2_with (refine store_new rfl 30 _ _ (by rfl) w2.heap.size w2.heap.size cs _ (by rfl) (by rfl) ((Below.refl w2.heap.size w2).alloc (Nat.le_refl _) _) (Nat.le_refl _) (Arr.new w2 _ 30) (by rw [HCL.out]; rfl) HZ1.out HO1.out ?_; intro W3 hB3 hA3 hz3)
  have hw3 : w2.heap.size < W3.heap.size := by simp at hz3; omega
  have hk3 : Below w.heap.size w W3 := HBW2.out.trans (hB3.mono (by omega))
  obtain ⟨W4, hW4⟩ : ∃ W4, W3.alloc (Obj.cells #[.slice (some ⟨w2.heap.size, 0, none⟩) 32 32, .slice a2 n2 c2] 34) = W4 := ⟨_, rfl⟩
  rw [hW4]
  have hB4 : Below W3.heap.size W3 W4 := by rw [← hW4]; exact (Below.refl _ _).alloc (Nat.le_refl _) _
  have hz4 : W4.heap.size = W3.heap.size + 1 := by rw [← hW4]; simp
  have hk4 : Below w.heap.size w W4 := hk3.trans (hB4.mono hk3.size)
  have hby : BytesIn W4 w2.heap.size 0 (sha s.data.toList) := fun i hi => by
    rw [Nat.zero_add, hB4.cell (p := ⟨w2.heap.size, i, none⟩) hw3]
    exact hA3.cell (by rw [← HCS.out]; simp [cells8, List.getElem?_eq_getElem hi])
  have hcA : W4.cell? ⟨W3.heap.size, 0, none⟩ = some (.slice (some ⟨w2.heap.size, 0, none⟩) 32 32) := by rw [← hW4, World.cell?_alloc_new]; rfl
  have hcB : W4.cell? ⟨W3.heap.size, 1, none⟩ = some (.slice a2 n2 c2) := by rw [← hW4, World.cell?_alloc_new]; rfl
  have hcat := concat_any W4 W3.heap.size w2.heap.size 0 32 c2 a2 (sha s.data.toList) b hby (by omega) (by
      rcases H2.out with h | ⟨db2, off2, h1, h2, h3⟩
      · exact .inl h
      · exact .inr ⟨db2, off2, h1, by have := hk4.size; omega, h3.below hk4 h2⟩)
    (by rw [sha_len]; omega) (by rw [sha_len]; have := HBL.out; omega) (by omega) (by rw [sha_len]; exact hcA) (by rw [HN2.out]; exact hcB)
  rw [sha_len, HN2.out] at hcat
  refine hcat.mono ?_
  rintro e w5 ⟨g, cap5, rfl, hsp, hB5⟩
  have hw5 : w.heap.size < w5.heap.size := by have := hB5.size; omega
  have hk5 : Below w.heap.size w w5 := hk4.trans (hB5.mono hk4.size)
  have hsum := sum_any w5 _ (sha s.data.toList ++ b) hsp.row (by rw [List.length_append, sha_len]; have := HBL.out; have := HN2.out; omega) (HT.out.below hk5 h0) (by have := hk5.size; omega)
  have hD5 := ((HD2.out.below (hB3.mono (Nat.le_refl _)) hw2).below hB4 (by omega)).below hB5 (by omega)
  have hcl2 := sha_len (sha s.data.toList ++ b)
  have ho2 := one_cells8 (sha (sha s.data.toList ++ b))
  rw [dv_eq] at hsum
  obtain ⟨cs2, hcs2⟩ : ∃ cs2, cells8 (sha (sha s.data.toList ++ b)) = cs2 := ⟨_, rfl⟩
  rw [← cells8_len, hcs2] at hcl2
  rw [hcs2] at ho2 hsum
  have HZ2 : Hid ((Tryd.prog.info? 30).map (·.size) = some cs2.length) := by show _ = _; rw [hcl2]; exact Tryd.info30
  have HO2 := Lib.hid ho2
  have HCL2 := Lib.hid hcl2
  have HCS2 := Lib.hid hcs2
  have HSUM := Lib.hid hsum
  have HK5 := Lib.hid hk5
  have HD5 := Lib.hid hD5
  clear hsum hcs2 ho2 hcl2 hk5 hD5 hsp hB5 hcat hby hcA hcB hk4 hk3 hB4 hW4 hA3 hB3 hz3
  go_wp2_with fail
  refine HSUM.out.mono ?_
  rintro e w6 ⟨rfl, hB6⟩
  have hk6 : Below w.heap.size w w6 := HK5.out.trans (hB6.mono HK5.out.size)
  have hD6 := HD5.out.below hB6 hw5
  have HK6 := Lib.hid hk6
  have HD6 := Lib.hid hD6
  clear hB6 hk6 hD6
  go_wp2_with (refine store_new rfl 30 _ _ (by rfl) w.heap.size w.heap.size cs2 _ (by rfl) (by rfl) HK6.out (Nat.le_refl _) HD6.out (by rw [HCL2.out]; rfl) HZ2.out HO2.out ?_; intro W7 hB7 hA7 hz7)
  refine bodyPost_ret (results_cell_mid rfl _ _ _ _ _ rfl hA7.at_ Tryd.underlying30 rfl HZ2.out) rfl ?_
  exact ⟨by rw [tagged, dv_eq, HCS2.out], hB7⟩
end Go.Proofs.YtfmngeemhfpeiaaDoor

namespace Go.Proofs.YtfmngeemhfpeiaaDoor
open Go.RowKit


/-- Digests in a slice, in memory below B. -/
def Digs (w : World) (B : Nat) (v : Value) (ds : List (List UInt8)) : Prop :=
  (∀ d ∈ ds, d.length = 32) ∧ ∃ a cap, v = .slice a ds.length cap ∧ ds.length ≤ cap ∧ cap ≤ maxLen ∧
    (ds = [] ∨ ∃ db off, a = some ⟨db, off, none⟩ ∧ db < B ∧ ∀ i (h : i < ds.length), w.rangeAt db (off + i * 32) (cells8 ds[i]))
theorem Digs.below {w w' : World} {B : Nat} {v : Value} {ds : List (List UInt8)} (h : Digs w B v ds) (hb : Below B w w') : Digs w' B v ds := by
  obtain ⟨h0, a, cap, h1, h2, h3, h4⟩ := h
  refine ⟨h0, a, cap, h1, h2, h3, ?_⟩
  rcases h4 with h4 | ⟨db, off, h4, h5, h6⟩
  · exact .inl h4
  · exact .inr ⟨db, off, h4, h5, fun i hi j v hv => (hb.cell (p := ⟨db, off + i * 32 + j, none⟩) h5).trans (h6 i hi j v hv)⟩
theorem Digs.mono {w : World} {B B' : Nat} {v : Value} {ds : List (List UInt8)} (h : Digs w B v ds) (hb : B ≤ B') : Digs w B' v ds := by
  obtain ⟨h0, a, cap, h1, h2, h3, h4⟩ := h
  refine ⟨h0, a, cap, h1, h2, h3, ?_⟩
  rcases h4 with h4 | ⟨db, off, h4, h5, h6⟩
  · exact .inl h4
  · exact .inr ⟨db, off, h4, by omega, h6⟩



def flat (ds : List (List UInt8)) : List Value := ds.flatMap cells8
theorem flat_snoc (ds : List (List UInt8)) (d : List UInt8) : flat (ds ++ [d]) = flat ds ++ cells8 d := by simp [flat]
theorem flat_at : ∀ (ds : List (List UInt8)), (∀ d ∈ ds, d.length = 32) → ∀ (i : Nat) (hi : i < ds.length) (j : Nat) (v : Value), (cells8 ds[i])[j]? = some v → (flat ds)[i * 32 + j]? = some v
  | [], _, i, hi, _, _, _ => absurd hi (by simp)
  | d :: ds, h, 0, _, j, v, hv => by
    have hj : j < (cells8 d).length := by
      rcases Nat.lt_or_ge j (cells8 d).length with h | h
      · exact h
      · rw [List.getElem_cons_zero, List.getElem?_eq_none h] at hv; cases hv
    show (cells8 d ++ flat ds)[0 * 32 + j]? = some v
    rw [Nat.zero_mul, Nat.zero_add, List.getElem?_append_left hj]; exact hv
  | d :: ds, h, i + 1, hi, j, v, hv => by
    have hl : (cells8 d).length = 32 := by rw [cells8_len]; exact h d (by simp)
    show (cells8 d ++ flat ds)[(i + 1) * 32 + j]? = some v
    rw [List.getElem?_append_right (by rw [hl]; omega), hl, show (i + 1) * 32 + j - 32 = i * 32 + j by omega]
    exact flat_at ds (fun x hx => h x (List.mem_cons_of_mem _ hx)) i (by simpa using hi) j v (by simpa using hv)
theorem own_digs {W : World} {B : Nat} {v : Value} {ds : List (List UInt8)} (h : W.ownsRow B 30 32 v ds.length (flat ds)) (h32 : ∀ d ∈ ds, d.length = 32) : Digs W W.heap.size v ds := by
  refine ⟨h32, ?_⟩
  have hlt := h.lt
  have hcl := @World.ownsRow.cells _ _ _ _ _ _ _ h
  rcases h.2 with ⟨rfl, h0⟩ | ⟨g, cap, cur, rfl, hb, hg, hn, hc, hcs, ht⟩
  · exact ⟨none, 0, by rw [h0], by omega, by unfold maxLen; omega, .inl (List.eq_nil_of_length_eq_zero h0)⟩
  · refine ⟨some ⟨g, 0, none⟩, cap, rfl, hn, hc, .inr ⟨g, 0, rfl, (hlt g rfl).2, fun i hi j u hu => ?_⟩⟩
    have := hcl (g := g) rfl (i * 32 + j) u (flat_at ds h32 i hi j u hu)
    rw [Addr.add_mid] at this
    rw [← this]; congr 2; omega

theorem Tryd.info26z : (Tryd.prog.info? 30).map (fun i => (i.zero, i.size, i.bytes)) = some (some (.agg (Array.replicate 32 (.int .u8 0))), 32, 32) := by kernel_rfl
theorem own_keep {W W' : World} {B e size n : Nat} {v : Value} {xs : List Value} (h : W.ownsRow B e size v n xs) (hb : Below W.heap.size W W') : W'.ownsRow B e size v n xs := by
  refine World.ownsRow.kept h (gbelow (row := none) hb) ?_
  cases hv : v.ownBlock with
  | none => exact .inl rfl
  | some k => exact .inr (by simp)
theorem below_grow {B : Nat} {w W W' : World} {row : Option Nat} (h : Below B w W) (hg : W.grownBy W' row) (hr : ∀ k, row = some k → B ≤ k) (hB : B ≤ W.heap.size) : Below B w W' :=
  ⟨hg.os.trans h.os, hg.tape.trans h.tape, hg.output.trans h.output, Nat.le_trans h.size hg.size, fun i hi => (hg.block i (by omega) (fun e => by have := hr i e.symm; omega)).trans (h.block i hi)⟩

/-- A build, and a slice that is built, whose runs are known. -/
theorem wpList_build_run {P : Program} {ops : Array Oper} {rest : List Oper} {o : Oper} {a : Act} {w : World} {Q : Exit → Act → World → Prop} (hgd : o.guard = none) (t : TypeId) (parts : List (Nat × Operand))
    (ho : o.op = .build t parts.toArray) (vals : List (Nat × Value)) (v : Value) (hv : parts.map (fun p => (p.1, a.eval p.2)) = vals)
    (hrun : (Instr.build t vals.toArray).run P w = .ok v w) (h : wpList P ops Q rest (a.put o.dst v) w) : wpList P ops Q (o :: rest) a w :=
  wpList_plain hgd fun K hK => by
    subst hv
    rw [← List.map_toArray] at hrun
    unfold Oper.wp execOp
    simp only [ho, Sem.run_bind, hrun, Result.andThen_ok]
    exact hK _ _ h
theorem wpList_buildSlice_run {P : Program} {ops : Array Oper} {rest : List Oper} {o : Oper} {a : Act} {w w' : World} {Q : Exit → Act → World → Prop} (hgd : o.guard = none) (t : TypeId) (len : Nat) (parts : List (Nat × Operand))
    (ho : o.op = .buildSlice t len parts.toArray) (vals : List (Nat × Value)) (v : Value) (hv : parts.map (fun p => (p.1, a.eval p.2)) = vals)
    (hrun : (Instr.buildSlice t len vals.toArray).run P w = .ok v w') (h : wpList P ops Q rest (a.put o.dst v) w') : wpList P ops Q (o :: rest) a w :=
  wpList_plain hgd fun K hK => by
    subst hv
    rw [← List.map_toArray] at hrun
    unfold Oper.wp execOp
    simp only [ho, Sem.run_bind, hrun, Result.andThen_ok]
    exact hK _ _ h
theorem fill32 (a0 a1 a2 a3 a4 a5 a6 a7 a8 a9 a10 a11 a12 a13 a14 a15 a16 a17 a18 a19 a20 a21 a22 a23 a24 a25 a26 a27 a28 a29 a30 a31 : Value) : Instr.fill (fun i => some (i * 32, 32)) (Array.replicate 32 (.int .u8 0)) [(0, .agg #[a0, a1, a2, a3, a4, a5, a6, a7, a8, a9, a10, a11, a12, a13, a14, a15, a16, a17, a18, a19, a20, a21, a22, a23, a24, a25, a26, a27, a28, a29, a30, a31])] = some #[a0, a1, a2, a3, a4, a5, a6, a7, a8, a9, a10, a11, a12, a13, a14, a15, a16, a17, a18, a19, a20, a21, a22, a23, a24, a25, a26, a27, a28, a29, a30, a31] := by kernel_rfl
theorem fill_row : ∀ l : List Value, l.length = 32 → Instr.fill (fun i => some (i * 32, 32)) (Array.replicate 32 (.int .u8 0)) [(0, .agg l.toArray)] = some l.toArray
  | [a0, a1, a2, a3, a4, a5, a6, a7, a8, a9, a10, a11, a12, a13, a14, a15, a16, a17, a18, a19, a20, a21, a22, a23, a24, a25, a26, a27, a28, a29, a30, a31], _ => fill32 a0 a1 a2 a3 a4 a5 a6 a7 a8 a9 a10 a11 a12 a13 a14 a15 a16 a17 a18 a19 a20 a21 a22 a23 a24 a25 a26 a27 a28 a29 a30 a31
theorem zero32 : (Array.range 32).map (fun k => (Array.replicate 32 (Value.int .u8 0))[k % (Array.replicate 32 (Value.int .u8 0)).size]!) = Array.replicate 32 (.int .u8 0) := by kernel_rfl
theorem run_buildSlice1 (W : World) (D : Array Value) (hD : D.size = 32) : (Instr.buildSlice 25 1 #[(0, .agg D)]).run Tryd.prog W = .ok (.slice (some ⟨W.heap.size, 0, none⟩) 1 1) (W.alloc (.cells D 30)) := by
  obtain ⟨i, hi, h⟩ := Option.map_eq_some_iff.1 Tryd.info26z
  simp only [Prod.mk.injEq] at h
  have hf := fill_row D.toList (by simpa using hD)
  rw [Array.toArray_toList] at hf
  have hz := zero32
  simp [Instr.buildSlice, run_underlying Tryd.underlying25, sizeOf, typeInfo, zeroValue, hi, h.1, h.2.1, Value.cells] at hz ⊢
  rw [hz, hf]
  have hn : (newRow 30 D).run Tryd.prog W = .ok ⟨W.heap.size, 0, none⟩ (W.alloc (.cells D 30)) := rfl
  simp only [Sem.run_map, hn]
  rfl



theorem same_key {x : Value} (h : (keyOf Tryd.prog 30 x).isSome = true) (W : World) : (Op.equalIn 10000 30 x x).run Tryd.prog W = .ok true W := by
  obtain ⟨l, hl⟩ := Option.isSome_iff_exists.1 h
  obtain ⟨r, hr, hi⟩ := run_equal_deep (P := Tryd.prog) W (m := 20) (by decide) (k := 30) (by kernel_rfl) (by kernel_rfl) hl hl
  rw [hi.2 rfl] at hr
  exact hr
theorem wp_buildSlice_run {P : Program} {o : Oper} {a : Act} {w w' : World} {K : Act → World → Prop} {Q : Exit → Act → World → Prop} (t : TypeId) (len : Nat) (parts : List (Nat × Operand))
    (ho : o.op = .buildSlice t len parts.toArray) (vals : List (Nat × Value)) (v : Value) (hv : parts.map (fun p => (p.1, a.eval p.2)) = vals)
    (hrun : (Instr.buildSlice t len vals.toArray).run P w = .ok v w') (h : K (a.put o.dst v) w') : o.wp P a w K Q := by
  subst hv
  rw [← List.map_toArray] at hrun
  unfold Oper.wp execOp
  simp only [ho, Sem.run_bind, hrun, Result.andThen_ok]
  exact h
theorem mapM_some {α β : Type} (f : α → Option β) : ∀ l : List α, (∀ x ∈ l, (f x).isSome = true) → (l.mapM f).isSome = true
  | [], _ => rfl
  | x :: l, h => by
    obtain ⟨y, hy⟩ := Option.isSome_iff_exists.1 (h x (by simp))
    obtain ⟨r, hr⟩ := Option.isSome_iff_exists.1 (mapM_some f l fun z hz => h z (List.mem_cons_of_mem _ hz))
    simp [List.mapM_cons, hy, hr]
theorem Tryd.keyType30 : Tryd.prog.keyType 30 = true := by decide +kernel
theorem Tryd.cellsOf30 : Tryd.prog.cellsOf 30 = 32 := by kernel_rfl
theorem Tryd.cellsOf5 : Tryd.prog.cellsOf 5 = 1 := by kernel_rfl
theorem Tryd.tsize : Tryd.prog.types.size = (Tryd.prog.types.size - 1) + 1 := by kernel_rfl
theorem one_chunk (l : List UInt8) (i : Nat) (h : i < l.length) : ((cells8 l).drop i).take 1 = [.int .u8 l[i].toNat] := by
  have : i < (cells8 l).length := by rw [cells8_len]; exact h
  rw [List.drop_eq_getElem_cons this]
  simp [cells8]
theorem key_any (l : List UInt8) (h : l.length = 32) : (keyOf Tryd.prog 30 (dv l)).isSome = true := by
  have hf : (dv l).formed Tryd.prog 30 = true := by
    simp [dv, Value.formed, Tryd.underlying30, Tryd.cellsOf30, cells8_len, h]
  unfold keyOf
  rw [Tryd.underlying30]
  simp only [Tryd.keyType30, hf, Bool.and_self, if_true]
  rw [Option.isSome_map, show (dv l).cells.toList = cells8 l by simp [dv, Value.cells], Tryd.tsize]
  unfold Program.keyLits
  simp only [Tryd.underlying30]
  rw [if_pos (by rw [cells8_len, h, Tryd.cellsOf30]), Option.isSome_map]
  refine mapM_some _ _ fun i hi => ?_
  have hi' : i < l.length := by rw [h]; simpa using hi
  rw [Tryd.cellsOf5, Nat.mul_one, one_chunk l i hi']
  unfold Program.keyLits
  simp only [Tryd.underlying5]
  have hx := l[i].toNat_lt
  have e1 : IntKind.u8.min = 0 := rfl
  have e2 : IntKind.u8.max = 255 := rfl
  rw [if_pos (by simp [Lit.wf, e1, e2]; omega)]
  rfl
theorem eq_any (l : List UInt8) (h : l.length = 32) (W : World) : (Op.equalIn 10000 30 (dv l) (dv l)).run Tryd.prog W = .ok true W := same_key (key_any l h) W

/-- What is appended: m elements whose cells are news. -/
def Piece (w : World) (v : Value) (m : Nat) (news : List Value) : Prop :=
  ∃ a c, v = .slice a m c ∧ ((m = 0 ∧ news = []) ∨ ∃ ad, a = some ad ∧ ∀ j u, news[j]? = some u → w.cell? (ad.add j) = some u)
theorem piece_run (t e : TypeId) (i : TypeInfo) (z : Value) (size bytes : Nat) (ht : Tryd.prog.underlying t = some (.slice e)) (hi : Tryd.prog.info? e = some i) (hz : i.zero = some z) (hsize : i.size = size) (hby : i.bytes = bytes) (hzs : z.cells.size = size) (hsz : 0 < size)
    {w : World} {base g n cap : Nat} {xs : List Value} (hown : w.ownsRow base e size (.slice (some ⟨g, 0, none⟩) n cap) n xs) {v : Value} {m : Nat} {news : List Value} (hv : Piece w v m news) (hl : news.length = m * size) (h1 : ∀ u ∈ news, u.oneCell' = true)
    (h63 : n + m ≤ maxLen) (hbytes : (n + m) * bytes ≤ 140737488355328) (hbase : base ≤ w.heap.size) (ty : TypeId) :
    ∃ g' cap' w', (Builtin.append_ #[t, t] ty #[.slice (some ⟨g, 0, none⟩) n cap, v]).run Tryd.prog w = .ok (.slice (some ⟨g', 0, none⟩) (n + m) cap') w' ∧ w'.ownsRow base e size (.slice (some ⟨g', 0, none⟩) (n + m) cap') (n + m) (xs ++ news) ∧ w.grownBy w' (some g) ∧ (g' = g ∨ g' = w.heap.size) := by
  obtain ⟨a, c, rfl, h⟩ := hv
  have none_ : news = [] → m = 0 → ∀ a c, ∃ g' cap' w', (Builtin.append_ #[t, t] ty #[.slice (some ⟨g, 0, none⟩) n cap, .slice a m c]).run Tryd.prog w = .ok (.slice (some ⟨g', 0, none⟩) (n + m) cap') w' ∧ w'.ownsRow base e size (.slice (some ⟨g', 0, none⟩) (n + m) cap') (n + m) (xs ++ news) ∧ w.grownBy w' (some g) ∧ (g' = g ∨ g' = w.heap.size) := by
    rintro rfl rfl a c
    have hle : n ≤ cap := by
      rcases hown.2 with ⟨h0, _⟩ | ⟨g1, cap1, cur, h0, _, _, hn, _⟩
      · cases h0
      · injection h0 with _ _ e; omega
    refine ⟨g, cap, w, run_append_nothing w t t ty e i ht hi (some ⟨g, 0, none⟩) n cap hle (.slice a 0 c) ?_, by simpa using hown, ⟨rfl, rfl, rfl, Nat.le_refl _, fun _ _ _ => rfl⟩, .inl rfl⟩
    rcases a with _ | p
    · exact Src.ofNil w ht c
    · exact Src.ofSlice w ht p 0 c [] (by simp) (by simp) (by simp)
  rcases h with ⟨rfl, rfl⟩ | ⟨ad, rfl, hc⟩
  · exact none_ rfl rfl a c
  · obtain ⟨v', w', hr, h2, h3, h4, h5⟩ := run_append_own_at (P := Tryd.prog) w base t ty e i z size bytes ht hi hz hsize hby hzs hsz _ n xs hown ad m c news hl hc h1 h63 hbytes hbase
    obtain ⟨g', cap', rfl⟩ : ∃ g' cap', v' = .slice (some ⟨g', 0, none⟩) (n + m) cap' := by
      rcases h2.2 with ⟨h0, _⟩ | ⟨g', cap', cur, hv, _⟩
      · have := (h4.1 h0).1; cases this
      · exact ⟨g', cap', hv⟩
    refine ⟨g', cap', w', hr, h2, h3, ?_⟩
    rcases h5 with h5 | h5 <;> simp [Value.ownBlock] at h5
    · exact .inl h5
    · exact .inr h5
theorem step_piece (t e : TypeId) (i : TypeInfo) (z : Value) (size bytes : Nat) (ht : Tryd.prog.underlying t = some (.slice e)) (hi : Tryd.prog.info? e = some i) (hz : i.zero = some z) (hsize : i.size = size) (hby : i.bytes = bytes) (hzs : z.cells.size = size) (hsz : 0 < size)
    {ops : Array Oper} {o : Oper} {a : Act} {w : World} {K : Act → World → Prop} {Q : Exit → Act → World → Prop} {E : Prop} (hgd : o.guard = none) (sl x : Operand) (ho : o.op = .call { callee := .builtin .append, args := #[sl, x], argTypes := #[t, t] })
    {base g n cap : Nat} {xs : List Value} (hs : a.eval sl = .slice (some ⟨g, 0, none⟩) n cap) (hown : w.ownsRow base e size (.slice (some ⟨g, 0, none⟩) n cap) n xs) {v : Value} {m : Nat} {news : List Value} (hx : a.eval x = v) (hv : Piece w v m news) (hl : news.length = m * size) (h1 : ∀ u ∈ news, u.oneCell' = true)
    (h63 : n + m ≤ maxLen) (hbytes : (n + m) * bytes ≤ 140737488355328) (hbase : base ≤ w.heap.size)
    (h : base ≤ g → ∀ g' cap' w', w'.ownsRow base e size (.slice (some ⟨g', 0, none⟩) (n + m) cap') (n + m) (xs ++ news) → w.grownBy w' (some g) → K (a.put o.dst (.slice (some ⟨g', 0, none⟩) (n + m) cap')) w') :
    if Region.wanted o (yielded ops a.tmps) = true then Oper.wp Tryd.prog o a w K Q else E := by
  have hw : Region.wanted o (yielded ops a.tmps) = true := by simp [Region.wanted, hgd]
  rw [if_pos hw]
  obtain ⟨g', cap', w', hr, h2, h3, _⟩ := piece_run t e i z size bytes ht hi hz hsize hby hzs hsz hown hv hl h1 h63 hbytes hbase o.type
  unfold Oper.wp execOp
  simp only [ho, resolve, invoke, builtin, Sem.run_bind, Sem.run_pure, Result.andThen_ok, List.map_toArray, List.map_cons, List.map_nil, hs, hx, hr]
  exact h (hown.lt g rfl).1 _ _ _ h2 h3
theorem piece_bytes {w : World} {B : Nat} {v : Value} {b : List UInt8} (h : BytesAt w B v b) : Piece w v b.length (cells8 b) := by
  obtain ⟨a, c, rfl, _, _, h | ⟨db, off, rfl, _, h⟩⟩ := h
  · subst h; exact ⟨a, c, rfl, .inl ⟨rfl, rfl⟩⟩
  · refine ⟨_, c, rfl, .inr ⟨_, rfl, fun j u hu => ?_⟩⟩
    rw [Addr.add_mid]
    have hj : j < b.length := by
      rcases Nat.lt_or_ge j b.length with hj | hj
      · exact hj
      · rw [List.getElem?_eq_none (by rw [cells8_len]; exact hj)] at hu; cases hu
    rw [h j hj]
    simpa [cells8, List.getElem?_eq_getElem hj] using hu
theorem Arr.others {b b' : Nat} {cs : List Value} (hne : b ≠ b') : ∀ (vs : List Value) (o : Nat) (W : World), Arr W b cs → Arr (W.setCells b' o vs) b cs
  | [], _, _, h => h
  | v :: r, o, W, h => by
    rw [World.setCells]
    exact Arr.others hne r (o + 1) _ (h.other hne o v)
theorem store_new2 {P : Program} {ops : Array Oper} {rest : List Oper} {op : Oper} {a : Act} {w w0 : World} {Q : Exit → Act → World → Prop} (hgd : op.guard = none) (ty : TypeId) (x y : Operand) (ho : op.op = .store ty x y)
    (B b : Nat) (cs old : List Value) (hx : a.eval x = .pointer (some ⟨b, 0, none⟩)) (hy : a.eval y = .agg cs.toArray) (hB : Below B w0 w) (hb : B ≤ b) (ht : Arr w b old) (hl : cs.length = old.length)
    (hi : (P.info? ty).map (·.size) = some cs.length) (h1 : ∀ v ∈ cs, v.oneCell' = true)
    (h : ∀ W, Below B w0 W → Arr W b cs → (∀ b' cs', b' ≠ b → Arr w b' cs' → Arr W b' cs') → w.heap.size ≤ W.heap.size → wpList P ops Q rest (a.put op.dst undef) W) : wpList P ops Q (op :: rest) a w := by
  refine wpList_store_mid hgd ty x y ho b 0 cs.toArray hx hy (by rw [List.size_toArray, hl]; exact ht.there) (by simpa using hi) (all_oneCell_toArray h1) ?_
  exact h _ (below_setCells hb _ _ _ hB) (ht.stored hl) (fun b' cs' hne h' => h'.others hne _ _ _) (below_setCells (B := 0) (Nat.zero_le _) cs.toArray.toList 0 w (Below.refl 0 w)).size
theorem calls_world {P : Program} {f : FuncId} {args : Array Value} {w : World} {R : Ending → World → Prop} (X : World → Prop) (hX : X w) (h : ∀ W, X W → Calls P f args W R) : Calls P f args w R := h w hX
theorem tagged_len (t b : List UInt8) : (tagged t b).length = 32 := sha_len _
theorem piece_row {w : World} {b o n c : Nat} {cs : List Value} (h : w.rangeAt b o cs) : Piece w (.slice (some ⟨b, o, none⟩) n c) n cs :=
  ⟨_, c, rfl, .inr ⟨_, rfl, fun j u hu => by rw [Addr.add_mid]; exact h j u hu⟩⟩
theorem own_after {W W' : World} {B e size n : Nat} {v : Value} {xs : List Value} (hb : Below W.heap.size W W') (h : W.ownsRow B e size v n xs) : W'.ownsRow B e size v n xs := own_keep h hb
theorem bytesAt_any {w W : World} {v : Value} {b : List UInt8} (h : BytesAt w w.heap.size v b) (hb : Below w.heap.size w W) : BytesAt W W.heap.size v b := (h.below hb).mono hb.size
theorem own_digs' {W : World} {B n : Nat} {v : Value} {ds : List (List UInt8)} (h : W.ownsRow B 30 32 v n (flat ds)) (hn : ds.length = n) (h32 : ∀ d ∈ ds, d.length = 32) : Digs W W.heap.size v ds := by
  subst hn; exact own_digs h h32


theorem Arr.moved {W W' : World} {r : Option Nat} {b : Nat} {cs : List Value} (h : Arr W b cs) (hG : W.grownBy W' r) (hlt : b < W.heap.size) (hne : some b ≠ r) : Arr W' b cs :=
  ⟨fun j v hv => (World.cell?_of_block (a := ⟨b, 0 + j, none⟩) (hG.block b hlt hne)).trans (h.at_ j v hv),
    fun j hj => ⟨by rw [World.cell?_of_block (a := ⟨b, 0 + j, none⟩) (hG.block b hlt hne)]; exact (h.there j hj).1, by rw [World.frozen?_of_block (a := ⟨b, 0 + j, none⟩) (hG.block b hlt hne)]; exact (h.there j hj).2⟩⟩
theorem rng_moved {W W' : World} {r : Option Nat} {b o : Nat} {cs : List Value} (h : W.rangeAt b o cs) (hG : W.grownBy W' r) (hlt : b < W.heap.size) (hne : some b ≠ r) : W'.rangeAt b o cs :=
  fun j v hv => (World.cell?_of_block (a := ⟨b, o + j, none⟩) (hG.block b hlt hne)).trans (h j v hv)
theorem own_moved {W W' : World} {r : Option Nat} {B e size n m c g : Nat} {xs : List Value} (h : W.ownsRow B e size (.slice (some ⟨g, 0, none⟩) m c) n xs) (hG : W.grownBy W' r) (hne : some g ≠ r) : W'.ownsRow B e size (.slice (some ⟨g, 0, none⟩) m c) n xs :=
  World.ownsRow.kept h hG (.inr (by simpa [Value.ownBlock] using hne))
theorem Kept.moved {W0 W W' : World} {r : Option Nat} (h : Kept W0 W) (hG : W.grownBy W' r) (hr : ∀ k, r = some k → W0.heap.size ≤ k) : Kept W0 W' := below_grow h hG hr h.size
theorem piece_own {W : World} {B e size n : Nat} {v : Value} {xs : List Value} (h : W.ownsRow B e size v n xs) : Piece W v n xs := by
  have hcl := @World.ownsRow.cells _ _ _ _ _ _ _ h
  rcases h.2 with ⟨rfl, h0⟩ | ⟨g, cap, cur, rfl, _⟩
  · exact ⟨none, 0, by rw [h0], .inl ⟨h0, List.eq_nil_of_length_eq_zero (by rw [h.1, h0, Nat.zero_mul])⟩⟩
  · exact ⟨_, cap, rfl, .inr ⟨_, rfl, fun j u hu => hcl (g := g) rfl j u hu⟩⟩
theorem Piece.kept {W W' : World} {v : Value} {n : Nat} {xs : List Value} (h : Piece W v n xs) (hb : Below W.heap.size W W') : Piece W' v n xs := by
  obtain ⟨a, c, rfl, h | ⟨ad, rfl, h⟩⟩ := h
  · exact ⟨a, c, rfl, .inl h⟩
  · exact ⟨_, c, rfl, .inr ⟨_, rfl, fun j u hu => (hb.cell (World.block_lt_of_cell? W (ad.add j) (h j u hu) : (ad.add j).block < W.heap.size)).trans (h j u hu)⟩⟩

theorem bs0_30 (W : World) : (Instr.buildSlice 25 0 #[]).run Tryd.prog W = .ok (.slice (some ⟨W.heap.size, 0, none⟩) 0 0) (W.alloc (.cells #[] 30)) := by
  obtain ⟨i, hi, h⟩ := Option.map_eq_some_iff.1 Tryd.info26z
  have hn : (newRow 30 #[]).run Tryd.prog W = .ok ⟨W.heap.size, 0, none⟩ (W.alloc (.cells #[] 30)) := rfl
  simp [Instr.buildSlice, run_underlying Tryd.underlying25, sizeOf, typeInfo, hi, Instr.fill]
  rw [show (Array.map (fun _ => (default : Value)) (Array.range 0)) = #[] by simp, hn]
  rfl
theorem bs0_22 (W : World) : (Instr.buildSlice 34 0 #[]).run Tryd.prog W = .ok (.slice (some ⟨W.heap.size, 0, none⟩) 0 0) (W.alloc (.cells #[] 5)) := by
  obtain ⟨i, hi, h⟩ := Option.map_eq_some_iff.1 Tryd.infoU8
  have hn : (newRow 5 #[]).run Tryd.prog W = .ok ⟨W.heap.size, 0, none⟩ (W.alloc (.cells #[] 5)) := rfl
  simp [Instr.buildSlice, run_underlying Tryd.underlying34, sizeOf, typeInfo, hi, Instr.fill]
  rw [show (Array.map (fun _ => (default : Value)) (Array.range 0)) = #[] by simp, hn]
  rfl

section
variable {o : Oper} {a : Act} {W : World} {K : Act → World → Prop} {Q : Exit → Act → World → Prop}
theorem wp_new30 (ho : o.op = .buildSlice 25 0 #[]) (h : ∀ g W', W.heap.size ≤ g → g < W'.heap.size → W.grownBy W' none → (∀ B, B ≤ W.heap.size → W'.ownsRow B 30 32 (.slice (some ⟨g, 0, none⟩) 0 0) 0 []) → K (a.put o.dst (.slice (some ⟨g, 0, none⟩) 0 0)) W') : o.wp Tryd.prog a W K Q :=
  wp_buildSlice_run 25 0 [] ho [] _ rfl (bs0_30 W) (h _ _ (Nat.le_refl _) (by simp) (World.grownBy_alloc W _ none) fun B hB => World.ownsRow_made (base := B) W #[] 0 hB (by unfold maxLen; omega) rfl)
theorem wp_new22 (ho : o.op = .buildSlice 34 0 #[]) (h : ∀ g W', W.heap.size ≤ g → g < W'.heap.size → W.grownBy W' none → (∀ B, B ≤ W.heap.size → W'.ownsRow B 5 1 (.slice (some ⟨g, 0, none⟩) 0 0) 0 []) → K (a.put o.dst (.slice (some ⟨g, 0, none⟩) 0 0)) W') : o.wp Tryd.prog a W K Q :=
  wp_buildSlice_run 34 0 [] ho [] _ rfl (bs0_22 W) (h _ _ (Nat.le_refl _) (by simp) (World.grownBy_alloc W _ none) fun B hB => World.ownsRow_made (base := B) W #[] 0 hB (by unfold maxLen; omega) rfl)
theorem wp_one30 (x : Operand) (ho : o.op = .buildSlice 25 1 #[(0, x)]) (D : List Value) (hx : a.eval x = .agg D.toArray) (hD : D.length = 32) (h : ∀ g W', W.heap.size ≤ g → g < W'.heap.size → W.grownBy W' none → W'.rangeAt g 0 D → K (a.put o.dst (.slice (some ⟨g, 0, none⟩) 1 1)) W') : o.wp Tryd.prog a W K Q := by
  refine wp_buildSlice_run 25 1 [(0, x)] ho [(0, .agg D.toArray)] _ (by simp [hx]) (run_buildSlice1 W _ (by simpa using hD)) (h _ _ (Nat.le_refl _) (by simp) (World.grownBy_alloc W _ none) ?_)
  have := (Arr.new W D.toArray 30).at_
  rwa [List.toList_toArray] at this
theorem wp_alloc26 (ho : o.op = .alloc 30) (h : ∀ g W', W.heap.size ≤ g → g < W'.heap.size → W.grownBy W' none → Arr W' g (cells8 (List.replicate 32 0)) → K (a.put o.dst (.pointer (some ⟨g, 0, none⟩))) W') : o.wp Tryd.prog a W K Q := by
  obtain ⟨i, hi, hz⟩ := Option.map_eq_some_iff.1 Tryd.info26z
  simp only [Prod.mk.injEq] at hz
  have hrun : (Instr.alloc 30 true (.tuple #[])).run Tryd.prog W = .ok (.pointer (some ⟨W.heap.size, 0, none⟩)) (W.alloc (.cells (Array.replicate 32 (.int .u8 0)) 30)) := by
    have hn : ∀ C, (newRow 30 C).run Tryd.prog W = .ok ⟨W.heap.size, 0, none⟩ (W.alloc (.cells C 30)) := fun _ => rfl
    simp [Instr.alloc, zeroValue, typeInfo, newVar, hi, hz.1, hn, Value.cells]
  have hA := Arr.new W (Array.replicate 32 (.int .u8 0)) 30
  have hk := h _ _ (Nat.le_refl _) (by simp) (World.grownBy_alloc W (.cells (Array.replicate 32 (.int .u8 0)) 30) none) (by rw [Array.toList_replicate] at hA; exact hA)
  unfold Oper.wp execOp
  simp only [ho, Sem.run_bind, hrun, Result.andThen_ok]
  exact hk
theorem grown_setCell {W : World} {b : Nat} (i : Nat) (v : Value) : W.grownBy (W.setCell ⟨b, i, none⟩ v) (some b) :=
  ⟨rfl, rfl, rfl, by simp [World.setCell], fun k _ hne => Below.heap_setCell _ _ _ _ (by first | exact fun e => hne (congrArg some e) | exact fun e => hne (congrArg some e.symm))⟩
theorem grown_setCells {b : Nat} : ∀ (vs : List Value) (o : Nat) (W : World), W.grownBy (W.setCells b o vs) (some b)
  | [], _, _ => ⟨rfl, rfl, rfl, Nat.le_refl _, fun _ _ _ => rfl⟩
  | v :: r, o, W => by
    rw [World.setCells]
    exact gtrans (grown_setCell o v) (grown_setCells r (o + 1) _)
theorem wp_st26 (x y : Operand) (ho : o.op = .store 30 x y) (b : Nat) (cs old : List Value) (hx : a.eval x = .pointer (some ⟨b, 0, none⟩)) (hy : a.eval y = .agg cs.toArray) (hA : Arr W b old) (hl : cs.length = old.length)
    (hi : (Tryd.prog.info? 30).map (·.size) = some cs.length) (h1 : ∀ v ∈ cs, v.oneCell' = true) (h : ∀ W', W.grownBy W' (some b) → Arr W' b cs → K (a.put o.dst undef) W') : o.wp Tryd.prog a W K Q := by
  refine wp_store_mid 30 x y ho b 0 cs.toArray hx hy (by rw [List.size_toArray, hl]; exact hA.there) (by simpa using hi) (all_oneCell_toArray h1) ?_
  rw [List.toList_toArray]
  exact h _ (grown_setCells _ _ _) (hA.stored hl)
end
/-- An append inside a drawn region. -/
theorem wp_piece (t e : TypeId) (i : TypeInfo) (z : Value) (size bytes : Nat) (ht : Tryd.prog.underlying t = some (.slice e)) (hi : Tryd.prog.info? e = some i) (hz : i.zero = some z) (hsize : i.size = size) (hby : i.bytes = bytes) (hzs : z.cells.size = size) (hsz : 0 < size)
    {o : Oper} {a : Act} {W : World} {K : Act → World → Prop} {Q : Exit → Act → World → Prop} (sl x : Operand) (ho : o.op = .call { callee := .builtin .append, args := #[sl, x], argTypes := #[t, t] })
    {base g n cap : Nat} {xs : List Value} (hs : a.eval sl = .slice (some ⟨g, 0, none⟩) n cap) (hown : W.ownsRow base e size (.slice (some ⟨g, 0, none⟩) n cap) n xs) {v : Value} {m : Nat} {news : List Value} (hx : a.eval x = v) (hv : Piece W v m news) (hl : news.length = m * size) (h1 : ∀ u ∈ news, u.oneCell' = true)
    (h63 : n + m ≤ maxLen) (hbytes : (n + m) * bytes ≤ 140737488355328) (hbase : base ≤ W.heap.size) (N : Nat) (hN : n + m = N) (ys : List Value) (hys : xs ++ news = ys)
    (h : base ≤ g → ∀ g' cap' W', W'.ownsRow base e size (.slice (some ⟨g', 0, none⟩) N cap') N ys → W.grownBy W' (some g) → (g' = g ∨ g' = W.heap.size) → K (a.put o.dst (.slice (some ⟨g', 0, none⟩) N cap')) W') : o.wp Tryd.prog a W K Q := by
  subst hN; subst hys
  obtain ⟨g', cap', w', hr, h2, h3, h4⟩ := piece_run t e i z size bytes ht hi hz hsize hby hzs hsz hown hv hl h1 h63 hbytes hbase o.type
  unfold Oper.wp execOp
  simp only [ho, resolve, invoke, builtin, Sem.run_bind, Sem.run_pure, Result.andThen_ok, List.map_toArray, List.map_cons, List.map_nil, hs, hx, hr]
  exact h (hown.lt g rfl).1 _ _ _ h2 h3 h4
/-- A load of a long array under a guard that holds. -/
theorem wpList_load_wanted {P : Program} {ops : Array Oper} {rest : List Oper} {op : Oper} {a : Act} {w : World} {Q : Exit → Act → World → Prop} (hw : Region.wanted op (yielded ops a.tmps) = true) (ty : TypeId) (x : Operand) (ho : op.op = .load ty x)
    (b o : Nat) (hx : a.eval x = .pointer (some ⟨b, o, none⟩)) (cs : List Value) (d : TypeDesc) (hc : w.rangeAt b o cs) (hu : P.underlying ty = some d) (hd : d.isRow = true) (hi : (P.info? ty).map (·.size) = some cs.length)
    (h : wpList P ops Q rest (a.put op.dst (.agg cs.toArray)) w) : wpList P ops Q (op :: rest) a w := by
  unfold wpList
  rw [if_pos hw]
  exact .inl (wp_load_mid ty x ho b o hx cs d hc hu hd hi h)
end Go.Proofs.YtfmngeemhfpeiaaDoor
