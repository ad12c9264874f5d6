/- Worlds in which nothing has changed but some blocks. -/
import Derived.Test.YtfmngeemhfpeiaaDoorMpl
namespace Go.Proofs.YtfmngeemhfpeiaaDoor
open Go.RowKit

/-- Nothing that lay in W has changed in W' but the blocks of ls. -/
structure Obk (ls : List Nat) (W W' : World) : Prop where
  os : W'.os = W.os
  tape : W'.tape = W.tape
  output : W'.output = W.output
  size : W.heap.size ≤ W'.heap.size
  block : ∀ i, i < W.heap.size → i ∉ ls → W'.heap[i]? = W.heap[i]?
section
variable {ls : List Nat} {W W' W'' : World}
theorem Obk.refl (ls : List Nat) (W : World) : Obk ls W W := ⟨rfl, rfl, rfl, Nat.le_refl _, fun _ _ _ => rfl⟩
theorem Obk.trans (h : Obk ls W W') (k : Obk ls W' W'') : Obk ls W W'' :=
  ⟨k.os.trans h.os, k.tape.trans h.tape, k.output.trans h.output, Nat.le_trans h.size k.size, fun i hi hn => (k.block i (Nat.lt_of_lt_of_le hi h.size) hn).trans (h.block i hi hn)⟩
theorem Obk.of (h : Below W.heap.size W W') : Obk ls W W' := ⟨h.os, h.tape, h.output, h.size, fun i hi _ => h.block i hi⟩
theorem Obk.next (h : Obk ls W W') (k : Below W'.heap.size W' W'') : Obk ls W W'' := h.trans (.of k)
theorem Obk.drew (h : Obk ls W W') : Obk ls W W'.drew := ⟨h.os, h.tape, h.output, h.size, h.block⟩
theorem Obk.drewN (h : Obk ls W W') (q : Nat) : Obk ls W (W'.drewN q) := ⟨h.os, h.tape, h.output, h.size, h.block⟩
theorem Obk.moved (h : Obk ls W W') {r : Option Nat} (hG : W'.grownBy W'' r) (hr : ∀ k, r = some k → k ∈ ls ∨ W.heap.size ≤ k) : Obk ls W W'' :=
  ⟨hG.os.trans h.os, hG.tape.trans h.tape, hG.output.trans h.output, Nat.le_trans h.size hG.size, fun i hi hn => (hG.block i (Nat.lt_of_lt_of_le hi h.size) fun e => by
    rcases hr i e.symm with h1 | h1
    · exact hn h1
    · omega).trans (h.block i hi hn)⟩
theorem Obk.set (h : Obk ls W W') {b : Nat} (hb : b ∈ ls) (i : Nat) (v : Value) : Obk ls W (W'.setCell ⟨b, i, none⟩ v) :=
  h.moved (grown_setCell i v) fun k e => by cases e; exact .inl hb
theorem Obk.arr (h : Obk ls W W') {b : Nat} {cs : List Value} (hA : Arr W b cs) (hlt : b < W.heap.size) (hn : b ∉ ls) : Arr W' b cs :=
  ⟨fun j v hv => (World.cell?_of_block (a := ⟨b, 0 + j, none⟩) (h.block b hlt hn)).trans (hA.at_ j v hv),
    fun j hj => ⟨by rw [World.cell?_of_block (a := ⟨b, 0 + j, none⟩) (h.block b hlt hn)]; exact (hA.there j hj).1, by rw [World.frozen?_of_block (a := ⟨b, 0 + j, none⟩) (h.block b hlt hn)]; exact (hA.there j hj).2⟩⟩
theorem Obk.rng (h : Obk ls W W') {b o : Nat} {cs : List Value} (hr : W.rangeAt b o cs) (hlt : b < W.heap.size) (hn : b ∉ ls) : W'.rangeAt b o cs :=
  fun j v hv => (World.cell?_of_block (a := ⟨b, o + j, none⟩) (h.block b hlt hn)).trans (hr j v hv)
theorem Obk.cell (h : Obk ls W W') {p : Addr} (hlt : p.block < W.heap.size) (hn : p.block ∉ ls) : W'.cell? p = W.cell? p := World.cell?_of_block (h.block p.block hlt hn)
theorem Obk.below (h : Obk ls W W') {B : Nat} (hB : B ≤ W.heap.size) (hl : ∀ x ∈ ls, B ≤ x) : Below B W W' :=
  ⟨h.os, h.tape, h.output, h.size, fun i hi => h.block i (by omega) fun hm => by have := hl i hm; omega⟩
theorem Obk.keeps (h : Obk ls W W') {B : Nat} (hl : ∀ x ∈ ls, x < B) : KeepsFrom B W W' :=
  ⟨h.size, fun k _ hk ho _ => (h.block k (Array.getElem?_eq_some_iff.1 ho).1 fun hm => by have := hl k hm; omega).trans ho⟩
end
/-- A region that draws and does not panic, outside of rounds. -/
theorem wp_region_ends {id : Nat} {P : Program} {a : Act} {w : World} {l : List Oper} {Q : Exit → Act → World → Prop} (S : World → Prop) (hm : P.follows .mixedOrders = true) (hS : S w.drew)
    (h : ∀ K : Act → World → Prop, (∀ a' w', Q .normal a' w' → K a' w') → S w.drew → wpAnyH P .any l.toArray (Ends K) S l.toArray.size (Array.replicate l.toArray.size false) a w.drew) : (Code.region id l.toArray true).wp P Q a w := by
  refine Code.wp_mono (Q := Ends fun a' w' => Q .normal a' w') ?_ (wp_region_held_drew (S := S) hm hS (h _ fun _ _ h => h))
  intro e a' w' h
  cases e <;> first | exact h | exact h.elim
/-- Results: an array in a block, and a variable. -/
theorem results_cell_tmp {P : Program} {fn : Func} {p t : Tmp} {ty : TypeId} (h : fn.results = #[.cell p ty, .tmp t]) (tmps : Array Value) (w : World) (b : Nat) (cs : List Value) (d : TypeDesc) (v : Value)
    (hp : tmps.getD p undef = .pointer (some ⟨b, 0, none⟩)) (hv : tmps.getD t undef = v) (hc : w.rangeAt b 0 cs)
    (hu : P.underlying ty = some d) (hd : d.isRow = true) (hi : (P.info? ty).map (·.size) = some cs.length) :
    (results fn tmps).run P w = .ok (.tuple #[.agg cs.toArray, v]) w := by
  have hp' : tmps[p]?.getD undef = .pointer (some ⟨b, 0, none⟩) := by simpa using hp
  have hv' : tmps[t]?.getD undef = v := by simpa using hv
  simp [results, h, hp', hv', asAddr, run_loadVar_mid w b 0 ty cs d hc hu hd hi]
/-- An array stored over another one. -/
theorem store_grown {P : Program} {ops : Array Oper} {rest : List Oper} {op : Oper} {a : Act} {w : World} {Q : Exit → Act → World → Prop} (hgd : op.guard = none) (ty : TypeId) (x y : Operand) (ho : op.op = .store ty x y)
    (b : Nat) (cs old : List Value) (hx : a.eval x = .pointer (some ⟨b, 0, none⟩)) (hy : a.eval y = .agg cs.toArray) (ht : Arr w b old) (hl : cs.length = old.length)
    (hi : (P.info? ty).map (·.size) = some cs.length) (h1 : ∀ v ∈ cs, v.oneCell' = true) (h : ∀ W, w.grownBy W (some b) → Arr W b cs → wpList P ops Q rest (a.put op.dst undef) W) : wpList P ops Q (op :: rest) a w := by
  refine wpList_store_mid hgd ty x y ho b 0 cs.toArray hx hy (by rw [List.size_toArray, hl]; exact ht.there) (by simpa using hi) (all_oneCell_toArray h1) ?_
  exact h _ (grown_setCells _ _ _) (ht.stored hl)
/-- What a row shows behind a call that has put its deferred calls away. -/
theorem heap_grown_other {W W' : World} {b D : Nat} {o : Obj} (hG : W.grownBy W' (some b)) (hne : D ≠ b) (h : W.heap[D]? = some o) : W'.heap[D]? = some o :=
  (hG.block D (Array.getElem?_eq_some_iff.1 h).1 (by simpa using hne)).trans h
end Go.Proofs.YtfmngeemhfpeiaaDoor
