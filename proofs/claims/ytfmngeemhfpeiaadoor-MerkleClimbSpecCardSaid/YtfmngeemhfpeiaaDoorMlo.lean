/- Worlds in which nothing below a bound has changed but some blocks, and nothing that is no cells. -/
import Derived.Test.YtfmngeemhfpeiaaDoorMck
namespace Go.Proofs.YtfmngeemhfpeiaaDoor
open Go.RowKit

/-- Nothing below n has changed but the blocks of ls, and nothing that is no cells. -/
structure Low (n : Nat) (ls : List Nat) (W W' : World) : Prop where
  os : W'.os = W.os
  tape : W'.tape = W.tape
  output : W'.output = W.output
  size : W.heap.size ≤ W'.heap.size
  block : ∀ i, i < n → i ∉ ls → W'.heap[i]? = W.heap[i]?
  keep : ∀ (k : Nat) (o : Obj), W.heap[k]? = some o → o.isCells = false → W'.heap[k]? = some o
section
variable {n : Nat} {ls : List Nat} {W W' W'' : World}
theorem Low.refl (n : Nat) (ls : List Nat) (W : World) : Low n ls W W := ⟨rfl, rfl, rfl, Nat.le_refl _, fun _ _ _ => rfl, fun _ _ h _ => h⟩
theorem Low.trans (h : Low n ls W W') (k : Low n ls W' W'') : Low n ls W W'' :=
  ⟨k.os.trans h.os, k.tape.trans h.tape, k.output.trans h.output, Nat.le_trans h.size k.size, fun i hi hn => (k.block i hi hn).trans (h.block i hi hn), fun i o hi ho => k.keep i o (h.keep i o hi ho) ho⟩
theorem Low.of (h : Below W.heap.size W W') (hn : n ≤ W.heap.size) : Low n ls W W' :=
  ⟨h.os, h.tape, h.output, h.size, fun i hi _ => h.block i (by omega), fun k _ hk _ => (h.block k (Array.getElem?_eq_some_iff.1 hk).1).trans hk⟩
theorem Low.next (h : Low n ls W W') (k : Below W'.heap.size W' W'') (hn : n ≤ W.heap.size) : Low n ls W W'' := h.trans (.of k (Nat.le_trans hn h.size))
theorem Low.drew (h : Low n ls W W') : Low n ls W W'.drew := ⟨h.os, h.tape, h.output, h.size, h.block, h.keep⟩
/-- One block of cells has changed, or nothing. -/
theorem Low.moved (h : Low n ls W W') {r : Option Nat} (hG : W'.grownBy W'' r) (hn : n ≤ W.heap.size) (hr : ∀ k, r = some k → (k ∈ ls ∨ n ≤ k) ∧ ∃ o : Obj, W'.heap[k]? = some o ∧ o.isCells = true) : Low n ls W W'' :=
  ⟨hG.os.trans h.os, hG.tape.trans h.tape, hG.output.trans h.output, Nat.le_trans h.size hG.size, fun i hi hm => (hG.block i (by have := h.size; omega) fun e => by
    rcases (hr i e.symm).1 with h1 | h1
    · exact hm h1
    · omega).trans (h.block i hi hm), fun k o hk ho => (hG.block k (Array.getElem?_eq_some_iff.1 (h.keep k o hk ho)).1 fun e => by
      obtain ⟨o', h1, h2⟩ := (hr k e.symm).2
      rw [h.keep k o hk ho] at h1
      cases h1
      rw [ho] at h2
      cases h2).trans (h.keep k o hk ho)⟩
theorem Arr.obj {b : Nat} {cs : List Value} (h : Arr W b cs) (hl : 0 < cs.length) : ∃ o : Obj, W.heap[b]? = some o ∧ o.isCells = true :=
  cells_of_cell (a := ⟨b, 0, none⟩) (h.cell (List.getElem?_eq_getElem hl))
theorem Low.set (h : Low n ls W W') {b : Nat} (hn : n ≤ W.heap.size) (hb : b ∈ ls) {cs : List Value} (hA : Arr W' b cs) (hl : 0 < cs.length) (i : Nat) (v : Value) : Low n ls W (W'.setCell ⟨b, i, none⟩ v) :=
  h.moved (grown_setCell i v) hn fun k e => by cases e; exact ⟨.inl hb, hA.obj hl⟩
theorem Low.arr (h : Low n ls W W') {b : Nat} {cs : List Value} (hA : Arr W b cs) (hlt : b < n) (hn : b ∉ ls) : Arr W' b cs :=
  ⟨fun j v hv => (World.cell?_of_block (a := ⟨b, 0 + j, none⟩) (h.block b hlt hn)).trans (hA.at_ j v hv),
    fun j hj => ⟨by rw [World.cell?_of_block (a := ⟨b, 0 + j, none⟩) (h.block b hlt hn)]; exact (hA.there j hj).1, by rw [World.frozen?_of_block (a := ⟨b, 0 + j, none⟩) (h.block b hlt hn)]; exact (hA.there j hj).2⟩⟩
theorem Low.rng (h : Low n ls W W') {b o : Nat} {cs : List Value} (hr : W.rangeAt b o cs) (hlt : b < n) (hn : b ∉ ls) : W'.rangeAt b o cs :=
  fun j v hv => (World.cell?_of_block (a := ⟨b, o + j, none⟩) (h.block b hlt hn)).trans (hr j v hv)
theorem Low.cell (h : Low n ls W W') {p : Addr} (hlt : p.block < n) (hn : p.block ∉ ls) : W'.cell? p = W.cell? p := World.cell?_of_block (h.block p.block hlt hn)
theorem Low.below (h : Low n ls W W') {B : Nat} (hB : B ≤ n) (hl : ∀ x ∈ ls, B ≤ x) : Below B W W' :=
  ⟨h.os, h.tape, h.output, h.size, fun i hi => h.block i (by omega) fun hm => by have := hl i hm; omega⟩
theorem Low.keeps (h : Low n ls W W') (B : Nat) : KeepsFrom B W W' := ⟨h.size, fun k o _ hk ho => h.keep k o hk ho⟩
theorem Low.own (h : Low n ls W W') {row : Option Nat} (hg : W'.grownBy W'' row) (hn : n ≤ W.heap.size) (hr : ∀ r, row = some r → n ≤ r) : ∀ i, i < n → i ∉ ls → W''.heap[i]? = W.heap[i]? :=
  fun i hi hm => (hg.block i (by have := h.size; omega) fun e => by have := hr i e.symm; omega).trans (h.block i hi hm)
end
/-- One digest behind a row of one's own; what else that changes. -/
theorem digs_app2 {W : World} {B n : Nat} {v : Value} {xs D : List Value} (h : W.ownsRow B 30 32 v n xs) (hB : B ≤ W.heap.size) (g : Nat) (hD : D.length = 32) (h1 : ∀ u ∈ D, u.oneCell' = true) (hg : W.rangeAt g 0 D) (hn : n ≤ 1000000) :
    ∃ v' W' r, (Builtin.append_ #[25, 25] 25 #[v, .slice (some ⟨g, 0, none⟩) 1 1]).run Tryd.prog W = .ok v' W' ∧ W'.ownsRow B 30 32 v' (n + 1) (xs ++ D) ∧ W.grownBy W' r ∧ (∀ k, r = some k → B ≤ k ∧ ∃ o : Obj, W.heap[k]? = some o ∧ o.isCells = true) ∧ r = v.ownBlock ∧ (v'.ownBlock = v.ownBlock ∨ v'.ownBlock = some W.heap.size) := by
  obtain ⟨i, hi, hz0, hz1, hz2⟩ := info_parts Tryd.info26z
  obtain ⟨v', W', hr, h2, h3, _, h6⟩ := run_append_own_at (P := Tryd.prog) W B 25 25 30 i _ 32 32 Tryd.underlying25 hi hz0 hz1 hz2 (by simp [Value.cells]) (by omega) v n xs h ⟨g, 0, none⟩ 1 1 D (by rw [hD]) (fun j u hu => by rw [Addr.add_mid]; exact hg j u hu) h1 (by unfold maxLen; omega) (by omega) hB
  refine ⟨v', W', _, hr, h2, h3, fun k e => ?_, rfl, h6⟩
  have := h.lt k e
  refine ⟨this.1, ?_⟩
  rcases h.2 with ⟨rfl, _⟩ | ⟨g, cap, cur, rfl, _, h5, _⟩
  · simp [Value.ownBlock] at e
  · simp [Value.ownBlock] at e
    subst e
    exact ⟨_, h5, rfl⟩
theorem own_base {W : World} {B B' e size n : Nat} {v : Value} {xs : List Value} (h : W.ownsRow B e size v n xs) (hb : B' ≤ B) : W.ownsRow B' e size v n xs := by
  refine ⟨h.1, ?_⟩
  rcases h.2 with h1 | ⟨g, cap, cur, h1, h2, h3⟩
  · exact .inl h1
  · exact .inr ⟨g, cap, cur, h1, Nat.le_trans hb h2, h3⟩
/-- A row of one's own, behind a change of another block. -/
theorem own_grown {W W' : World} {B e size n : Nat} {v : Value} {xs : List Value} {r : Option Nat} (h : W.ownsRow B e size v n xs) (hG : W.grownBy W' r) (hr : ∀ k, r = some k → k < B) : W'.ownsRow B e size v n xs :=
  h.kept hG (by
    cases hv : v.ownBlock with
    | none => exact .inl rfl
    | some g =>
      refine .inr fun e => ?_
      have h1 := (h.lt g hv).1
      have h2 := hr g e.symm
      omega)
end Go.Proofs.YtfmngeemhfpeiaaDoor
