/- Queues that are appended to others. -/
import Derived.Test.YtjancbjjeemedaaChk
namespace Go.Proofs.Ytjancbjjeemedaa
open Go.RowKit

theorem Try.info28 : (Try.prog.info? 28).map (fun i => (i.zero, i.size, i.bytes)) = some (some (.agg #[.int .i64 0, .int .i64 0, .slice none 0 0]), 3, 40) := by kernel_rfl
/-- The cells of a queue. -/
structure QCells (w : World) (B : Nat) (l : List Pk) (cs : List Value) : Prop where
  len : cs.length = l.length * 3
  at_ : ∀ i (h : i < l.length), (In64 l[i].frm ∧ In64 l[i].to) ∧ cs[i * 3]? = some (.int .i64 l[i].frm) ∧ cs[i * 3 + 1]? = some (.int .i64 l[i].to) ∧ ∃ u, cs[i * 3 + 2]? = some u ∧ BytesAt w B u l[i].data
theorem QCells.nil (w : World) (B : Nat) : QCells w B [] [] := ⟨rfl, fun i h => by simp at h⟩
theorem QCells.one {w : World} {B : Nat} {p : Pk} {u : Value} (h : (In64 p.frm ∧ In64 p.to)) (hu : BytesAt w B u p.data) : QCells w B [p] [.int .i64 p.frm, .int .i64 p.to, u] := by
  refine ⟨rfl, fun i hi => ?_⟩
  obtain rfl : i = 0 := by simp at hi; exact hi
  exact ⟨h, rfl, rfl, u, rfl, hu⟩
theorem QCells.app {w : World} {B : Nat} {l m : List Pk} {cs ds : List Value} (h : QCells w B l cs) (k : QCells w B m ds) : QCells w B (l ++ m) (cs ++ ds) := by
  refine ⟨by rw [List.length_append, List.length_append, h.len, k.len]; omega, fun i hi => ?_⟩
  have hl := h.len
  by_cases h1 : i < l.length
  · obtain ⟨a0, a1, a2, u, a3, a4⟩ := h.at_ i h1
    rw [List.getElem_append_left h1]
    exact ⟨a0, by rw [List.getElem?_append_left (by omega)]; exact a1, by rw [List.getElem?_append_left (by omega)]; exact a2, u, by rw [List.getElem?_append_left (by omega)]; exact a3, a4⟩
  · rw [List.length_append] at hi
    obtain ⟨a0, a1, a2, u, a3, a4⟩ := k.at_ (i - l.length) (by omega)
    rw [List.getElem_append_right (by omega)]
    refine ⟨a0, ?_, ?_, u, ?_, a4⟩
    · rw [List.getElem?_append_right (by omega), show i * 3 - cs.length = (i - l.length) * 3 by omega]; exact a1
    · rw [List.getElem?_append_right (by omega), show i * 3 + 1 - cs.length = (i - l.length) * 3 + 1 by omega]; exact a2
    · rw [List.getElem?_append_right (by omega), show i * 3 + 2 - cs.length = (i - l.length) * 3 + 2 by omega]; exact a3
theorem QCells.below {w w' : World} {B : Nat} {l : List Pk} {cs : List Value} (h : QCells w B l cs) (hb : Below B w w') : QCells w' B l cs :=
  ⟨h.len, fun i hi => by obtain ⟨a0, a1, a2, u, a3, a4⟩ := h.at_ i hi; exact ⟨a0, a1, a2, u, a3, a4.below hb⟩⟩
theorem QIn.cells {w : World} {B b off : Nat} {l : List Pk} (h : QIn w B b off l) : ∃ cs, QCells w B l cs ∧ ∀ j u, cs[j]? = some u → w.cell? ⟨b, off + j, none⟩ = some u := by
  refine ⟨(List.range (l.length * 3)).map fun j => (w.cell? ⟨b, off + j, none⟩).getD undef, ⟨by simp, fun i hi => ?_⟩, fun j u hu => ?_⟩
  · obtain ⟨a0, a1, a2, u, a3, a4⟩ := h i hi
    refine ⟨a0, ?_, ?_, u, ?_, a4⟩
    · rw [List.getElem?_map, List.getElem?_range (by omega), Option.map_some, a1]; rfl
    · rw [List.getElem?_map, List.getElem?_range (by omega), Option.map_some, ← Nat.add_assoc, a2]; rfl
    · rw [List.getElem?_map, List.getElem?_range (by omega), Option.map_some, ← Nat.add_assoc, a3]; rfl
  · rw [List.getElem?_map] at hu
    obtain ⟨k, hk, rfl⟩ := Option.map_eq_some_iff.1 hu
    have hjl : j < l.length * 3 := by have := (List.getElem?_eq_some_iff.1 hk).1; simpa using this
    rw [List.getElem?_range hjl] at hk
    injection hk with hk
    subst hk
    obtain ⟨a0, a1, a2, u, a3, a4⟩ := h (j / 3) (by omega)
    have h3 : j % 3 = 0 ∨ j % 3 = 1 ∨ j % 3 = 2 := by omega
    rcases h3 with h3 | h3 | h3
    · have e : off + j = off + j / 3 * 3 := by omega
      rw [e, a1]; rfl
    · have e : off + j = off + j / 3 * 3 + 1 := by omega
      rw [e, a2]; rfl
    · have e : off + j = off + j / 3 * 3 + 2 := by omega
      rw [e, a3]; rfl
theorem QAt.cells {w : World} {B : Nat} {a : Option Addr} {n cap : Nat} {l : List Pk} (h : QAt w B (.slice a n cap) l) : ∃ cs, QCells w B l cs ∧ (l ≠ [] → ∃ b off, a = some ⟨b, off, none⟩ ∧ b < B ∧ ∀ j u, cs[j]? = some u → w.cell? ⟨b, off + j, none⟩ = some u) ∧ (l = [] → cs = []) := by
  obtain ⟨a', cap', e, _, _, h4⟩ := h
  cases e
  by_cases hl : l = []
  · subst hl
    exact ⟨[], QCells.nil _ _, fun h => absurd rfl h, fun _ => rfl⟩
  · rcases h4 with h4 | ⟨b, off, h4, h5, h6⟩
    · exact absurd h4 hl
    · obtain ⟨cs, h7, h8⟩ := h6.cells
      exact ⟨cs, h7, fun _ => ⟨b, off, h4, h5, h8⟩, fun h => absurd h hl⟩
/-- A block that begins with the cells of a queue is that queue. -/
theorem QCells.row {w : World} {B g cap : Nat} {l : List Pk} {cs : List Value} (h : QCells w B l cs) (hc : ∀ j u, cs[j]? = some u → w.cell? ⟨g, j, none⟩ = some u) (hg : g < B) (h1 : l.length ≤ cap) (h2 : cap ≤ maxLen) : QAt w B (.slice (some ⟨g, 0, none⟩) l.length cap) l := by
  refine ⟨_, cap, rfl, h1, h2, .inr ⟨g, 0, rfl, hg, fun i hi => ?_⟩⟩
  obtain ⟨a0, a1, a2, u, a3, a4⟩ := h.at_ i hi
  rw [Nat.zero_add]
  exact ⟨a0, hc _ _ a1, hc _ _ a2, u, hc _ _ a3, a4⟩
theorem BytesAt.drew {w : World} {B : Nat} {v : Value} {l : By} (h : BytesAt w B v l) : BytesAt w.drew B v l := h.below (Below.drew (Below.refl B w))

theorem row_made (W : World) (B : Nat) (hB : B ≤ W.heap.size) (l : List Pk) (cs : List Value) (h : QCells W B l cs) (arr : Array Value) (ha : ∀ (j : Nat) (u : Value), cs[j]? = some u → arr[j]? = some u) (cap : Nat) (h1 : l.length ≤ cap) (h2 : cap ≤ maxLen) :
    QAt (W.drew.alloc (.cells arr 28)) (W.drew.alloc (.cells arr 28)).heap.size (.slice (some ⟨W.heap.size, 0, none⟩) l.length cap) l ∧ Below W.heap.size W (W.drew.alloc (.cells arr 28)) := by
  have hb : Below W.heap.size W (W.drew.alloc (.cells arr 28)) := (Below.drew (Below.refl _ _)).alloc (Nat.le_refl _) _
  have hz : (W.drew.alloc (.cells arr 28)).heap.size = W.heap.size + 1 := by rw [World.size_alloc]; rfl
  refine ⟨?_, hb⟩
  have hq := (h.below (hb.mono hB))
  have hq2 : QCells (W.drew.alloc (.cells arr 28)) (W.heap.size + 1) l cs := ⟨hq.len, fun i hi => by obtain ⟨a0, a1, a2, u, a3, a4⟩ := hq.at_ i hi; exact ⟨a0, a1, a2, u, a3, a4.mono (by omega)⟩⟩
  rw [hz]
  refine hq2.row (fun j u hu => ?_) (by omega) h1 h2
  have : (W.drew.alloc (.cells arr 28)).cell? ⟨W.drew.heap.size, j, none⟩ = arr[j]? := by rw [World.cell?_alloc_new]
  exact this.trans (ha j u hu)

/-- A queue behind one without room. -/
theorem q_append (W : World) (B : Nat) (hB : B ≤ W.heap.size) (a : Option Addr) (l : List Pk) (h : QAt W B (.slice a l.length l.length) l) (a2 : Option Addr) (c2 : Nat) (l2 : List Pk) (h2 : QAt W B (.slice a2 l2.length c2) l2) (hm : l2 ≠ []) (hs : l.length + l2.length ≤ 100000) :
    ∃ v' W', (Builtin.append_ #[22, 22] 22 #[.slice a l.length l.length, .slice a2 l2.length c2]).run Try.prog W = .ok v' W' ∧ QAt W' W'.heap.size v' (l ++ l2) ∧ Below W.heap.size W W' := by
  obtain ⟨i, hi, hz0, hz1, hz2⟩ := info_parts Try.info28
  obtain ⟨cs, h3, h4, h5⟩ := h.cells
  obtain ⟨ds, h6, h7, _⟩ := h2.cells
  obtain ⟨b2, o2, rfl, _, h8⟩ := h7 hm
  have hds := h6.len
  have hcs := h3.len
  have hpos : 0 < l2.length := List.length_pos_iff.2 hm
  have hnews : ∀ j u, ds[j]? = some u → W.cell? ((⟨b2, o2, none⟩ : Addr).add j) = some u := fun j u hu => by
    rw [Addr.add_mid]; exact h8 j u hu
  have hfin : ∀ (arr : Array Value) (cap : Nat), (∀ (j : Nat) (u : Value), (cs ++ ds)[j]? = some u → arr[j]? = some u) → l.length + l2.length ≤ cap → cap ≤ maxLen → QAt (W.drew.alloc (.cells arr 28)) (W.drew.alloc (.cells arr 28)).heap.size (.slice (some ⟨W.heap.size, 0, none⟩) (l.length + l2.length) cap) (l ++ l2) ∧ Below W.heap.size W (W.drew.alloc (.cells arr 28)) := fun arr cap h1 h2 h9 => by
    have := row_made W B hB (l ++ l2) (cs ++ ds) (h3.app h6) arr h1 cap (by rw [List.length_append]; exact h2) h9
    rw [List.length_append] at this
    exact this
  have hgrow : ∀ ad : Addr, (∀ j v, cs[j]? = some v → W.cell? (ad.add j) = some v) → ∃ v' W', (Builtin.append_ #[22, 22] 22 #[.slice (some ad) l.length l.length, .slice (some ⟨b2, o2, none⟩) l2.length c2]).run Try.prog W = .ok v' W' ∧ QAt W' W'.heap.size v' (l ++ l2) ∧ Below W.heap.size W W' := fun ad had => by
    have := run_append_grow (P := Try.prog) W 22 22 28 i _ Try.underlying22 hi hz0 ad l.length l.length cs (by rw [hz1]; exact hcs) had ⟨b2, o2, none⟩ l2.length c2 ds (by rw [hz1]; exact hds) hnews (by omega) (by omega) (growslice_fits (by omega) (by rw [hz2]; omega))
    refine ⟨_, _, this, hfin _ _ (fun j u hu => ?_) (grownCap_ge _ _ _ _) (grownCap_le_maxLen _ _ _ _ (by unfold maxLen; omega))⟩
    have hj := (List.getElem?_eq_some_iff.1 hu).1
    rw [Array.getElem?_append_left (by simpa using hj), ← hu]
    simp
  by_cases hl : l = []
  · subst hl
    obtain rfl := h5 rfl
    cases a with
    | none =>
      have := run_append_nil (P := Try.prog) W 22 22 28 i _ Try.underlying22 hi hz0 ⟨b2, o2, none⟩ l2.length c2 ds (by rw [hz1]; exact hds) hnews hpos (by omega) (by rw [hz2]; omega)
      have hf := hfin (ds.toArray ++ Builtin.zeroCells (Value.agg #[.int .i64 0, .int .i64 0, .slice none 0 0]).cells (grownCap W l2.length 0 28 - l2.length)) (grownCap W l2.length 0 28) (fun j u hu => by
        rw [List.nil_append] at hu
        have hj := (List.getElem?_eq_some_iff.1 hu).1
        rw [Array.getElem?_append_left (by simpa using hj), ← hu]
        simp) (by simpa using grownCap_ge W l2.length 0 28) (grownCap_le_maxLen _ _ _ _ (by unfold maxLen; omega))
      simp only [List.length_nil, Nat.zero_add] at hf
      exact ⟨_, _, this, hf⟩
    | some ad => exact hgrow ad fun j v hv => by simp at hv
  · obtain ⟨b, off, rfl, _, h9⟩ := h4 hl
    exact hgrow _ fun j v hv => by rw [Addr.add_mid]; exact h9 j v hv
/-- The same, by cells: what is made is a new block. -/
theorem q_app2 (W : World) (B : Nat) (a : Option Addr) (l : List Pk) (cs : List Value) (h3 : QCells W B l cs) (ha : l = [] ∨ ∃ ad, a = some ad ∧ ∀ (j : Nat) (u : Value), cs[j]? = some u → W.cell? (ad.add j) = some u) (b2 : Addr) (c2 : Nat) (l2 : List Pk) (ds : List Value) (h6 : QCells W B l2 ds)
    (hnews : ∀ (j : Nat) (u : Value), ds[j]? = some u → W.cell? (b2.add j) = some u) (hm : l2 ≠ []) (hs : l.length + l2.length ≤ 100000) :
    ∃ cap arr, (Builtin.append_ #[22, 22] 22 #[.slice a l.length l.length, .slice (some b2) l2.length c2]).run Try.prog W = .ok (.slice (some ⟨W.heap.size, 0, none⟩) (l.length + l2.length) cap) (W.drew.alloc (.cells arr 28)) ∧
      (∀ (j : Nat) (u : Value), (cs ++ ds)[j]? = some u → arr[j]? = some u) ∧ l.length + l2.length ≤ cap ∧ cap ≤ maxLen := by
  obtain ⟨i, hi, hz0, hz1, hz2⟩ := info_parts Try.info28
  have hds := h6.len
  have hcs := h3.len
  have hpos : 0 < l2.length := List.length_pos_iff.2 hm
  have hgrow : ∀ ad : Addr, (∀ (j : Nat) (v : Value), cs[j]? = some v → W.cell? (ad.add j) = some v) → ∃ cap arr, (Builtin.append_ #[22, 22] 22 #[.slice (some ad) l.length l.length, .slice (some b2) l2.length c2]).run Try.prog W = .ok (.slice (some ⟨W.heap.size, 0, none⟩) (l.length + l2.length) cap) (W.drew.alloc (.cells arr 28)) ∧
      (∀ (j : Nat) (u : Value), (cs ++ ds)[j]? = some u → arr[j]? = some u) ∧ l.length + l2.length ≤ cap ∧ cap ≤ maxLen := fun ad had => by
    have := run_append_grow (P := Try.prog) W 22 22 28 i _ Try.underlying22 hi hz0 ad l.length l.length cs (by rw [hz1]; exact hcs) had b2 l2.length c2 ds (by rw [hz1]; exact hds) hnews (by omega) (by omega) (growslice_fits (by omega) (by rw [hz2]; omega))
    refine ⟨_, _, this, fun j u hu => ?_, grownCap_ge _ _ _ _, grownCap_le_maxLen _ _ _ _ (by unfold maxLen; omega)⟩
    have hj := (List.getElem?_eq_some_iff.1 hu).1
    rw [Array.getElem?_append_left (by simpa using hj), ← hu]
    simp
  by_cases hl : l = []
  · subst hl
    obtain rfl : cs = [] := List.length_eq_zero_iff.1 (by simpa using hcs)
    cases a with
    | none =>
      have := run_append_nil (P := Try.prog) W 22 22 28 i _ Try.underlying22 hi hz0 b2 l2.length c2 ds (by rw [hz1]; exact hds) hnews hpos (by omega) (by rw [hz2]; omega)
      refine ⟨grownCap W l2.length 0 28, _, by simpa using this, fun j u hu => ?_, by simpa using grownCap_ge W l2.length 0 28, grownCap_le_maxLen _ _ _ _ (by unfold maxLen; omega)⟩
      rw [List.nil_append] at hu
      have hj := (List.getElem?_eq_some_iff.1 hu).1
      rw [Array.getElem?_append_left (by simpa using hj), ← hu]
      simp
    | some ad => exact hgrow ad fun j v hv => by simp at hv
  · rcases ha with h0 | ⟨ad, rfl, h9⟩
    · exact absurd h0 hl
    · exact hgrow ad h9
/-- Nothing is appended. -/
theorem q_append_none (W : World) (a : Option Addr) (n c : Nat) (hc : n ≤ c) (a2 : Option Addr) (c2 : Nat) : (Builtin.append_ #[22, 22] 22 #[.slice a n c, .slice a2 0 c2]).run Try.prog W = .ok (.slice a n c) W := by
  obtain ⟨i, hi, _, _, _⟩ := info_parts Try.info28
  cases a <;> cases a2 <;> simp [Builtin.append_, run_underlying Try.underlying22, sizeOf, typeInfo, hi, Builtin.lenOf, hc, storeCells, Builtin.firstCells, loadCells, loadCellsFrom]

theorem wpList_append_run {P : Program} {ops : Array Oper} {rest : List Oper} {o : Oper} {a : Act} {w : World} {Q : Exit → Act → World → Prop} (hgd : o.guard = none) (s x : Operand) (t tx : TypeId)
    (ho : o.op = .call { callee := .builtin .append, args := #[s, x], argTypes := #[t, tx] }) (va vb v : Value) (w' : World) (h1 : a.eval s = va) (h2 : a.eval x = vb)
    (hrun : (Builtin.append_ #[t, tx] o.type #[va, vb]).run P w = .ok v w') (h : wpList P ops Q rest (a.put o.dst v) w') : wpList P ops Q (o :: rest) a w :=
  wpList_plain hgd fun K hK => by
    subst h1; subst h2
    unfold Oper.wp execOp
    simp [ho, resolve, invoke, builtin, hrun, Result.andThen]
    exact hK _ _ h
end Go.Proofs.Ytjancbjjeemedaa
