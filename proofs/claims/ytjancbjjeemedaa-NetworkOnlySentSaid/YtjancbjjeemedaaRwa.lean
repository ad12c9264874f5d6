/- A row of pairs that the call owns. -/
import Derived.Test.YtjancbjjeemedaaNil
import Derived.Lib.AppendZerosOnto
import Derived.Laws.CopyRow
import Derived.Lib.Overlaps
import Derived.RangeFuncOwn
namespace Go.Proofs.Ytjancbjjeemedaa
open Go.RowKit

def acells : List (Int × Int) → List Value
  | [] => []
  | p :: l => .int .i64 p.1 :: .int .i64 p.2 :: acells l
theorem acells_len (l : List (Int × Int)) : (acells l).length = l.length * 2 := by
  induction l with
  | nil => rfl
  | cons a l ih => simp only [acells, List.length_cons, ih]; omega
theorem acells_app (l m : List (Int × Int)) : acells (l ++ m) = acells l ++ acells m := by
  induction l with
  | nil => rfl
  | cons a l ih => simp only [List.cons_append, acells, ih]
theorem acells_get (l : List (Int × Int)) : ∀ i (h : i < l.length), (acells l)[i * 2]? = some (.int .i64 l[i].1) ∧ (acells l)[i * 2 + 1]? = some (.int .i64 l[i].2) := by
  induction l with
  | nil => intro i h; simp at h
  | cons a l ih =>
    intro i h
    cases i with
    | zero => exact ⟨rfl, rfl⟩
    | succ i =>
      have := ih i (by simpa using h)
      rw [show (i + 1) * 2 = i * 2 + 1 + 1 by omega]
      simpa [acells] using this
theorem acells_one (l : List (Int × Int)) : ∀ u ∈ acells l, u.oneCell' = true := by
  induction l with
  | nil => intro u h; simp [acells] at h
  | cons a l ih =>
    intro u h
    simp only [acells, List.mem_cons] at h
    rcases h with rfl | rfl | h
    · rfl
    · rfl
    · exact ih u h
theorem acells_take (l : List (Int × Int)) (i : Nat) : (acells l).take (i * 2) = acells (l.take i) := by
  induction l generalizing i with
  | nil => simp [acells]
  | cons a l ih =>
    cases i with
    | zero => simp [acells]
    | succ i =>
      rw [show (i + 1) * 2 = i * 2 + 1 + 1 by omega]
      simp [acells, ih]
theorem acells_drop (l : List (Int × Int)) (i : Nat) : (acells l).drop (i * 2) = acells (l.drop i) := by
  induction l generalizing i with
  | nil => simp [acells]
  | cons a l ih =>
    cases i with
    | zero => simp
    | succ i =>
      rw [show (i + 1) * 2 = i * 2 + 1 + 1 by omega]
      simp [acells, ih]

/-- A row of pairs in a block of its own. -/
structure RowA (W : World) (g n cap : Nat) (l : List (Int × Int)) : Prop where
  len : l.length = n
  le : n ≤ cap
  max : cap ≤ maxLen
  obj : ∃ C : Array Value, W.heap[g]? = some (.cells C 55 (0, 0)) ∧ C.size = cap * 2 ∧ C.toList.take (n * 2) = acells l
section
variable {W W' : World} {g n cap : Nat} {l : List (Int × Int)}
theorem RowA.lt (h : RowA W g n cap l) : g < W.heap.size := by
  obtain ⟨C, h1, _⟩ := h.obj
  exact (Array.getElem?_eq_some_iff.1 h1).1
theorem RowA.cells (h : RowA W g n cap l) : ∀ j v, (acells l)[j]? = some v → W.cell? ⟨g, j, none⟩ = some v := fun j v hv => by
  obtain ⟨C, h1, h2, h3⟩ := h.obj
  rw [cell_of_row W g j C 55 (0, 0) h1, ← Array.getElem?_toList]
  rw [← h3, List.getElem?_take] at hv
  split at hv
  · exact hv
  · cases hv
theorem RowA.ain (h : RowA W g n cap l) (h64 : ∀ p ∈ l, In64 p.1 ∧ In64 p.2) : AIn W g 0 l := fun i hi => by
  obtain ⟨e1, e2⟩ := acells_get l i hi
  exact ⟨h64 _ (List.getElem_mem hi), by rw [Nat.zero_add]; exact h.cells _ _ e1, by rw [Nat.zero_add]; exact h.cells _ _ e2⟩
theorem RowA.row (h : RowA W g n cap l) (h64 : ∀ p ∈ l, In64 p.1 ∧ In64 p.2) {B : Nat} (hg : g < B) : AAt W B (.slice (some ⟨g, 0, none⟩) n cap) l :=
  ⟨_, cap, by rw [h.len], by rw [h.len]; exact h.le, h.max, .inr ⟨g, 0, rfl, hg, h.ain h64⟩⟩
theorem RowA.next (h : RowA W g n cap l) (hb : Below W.heap.size W W') : RowA W' g n cap l := by
  obtain ⟨C, h1, h2⟩ := h.obj
  exact ⟨h.len, h.le, h.max, C, by rw [hb.block g h.lt]; exact h1, h2⟩
theorem RowA.kept (h : RowA W g n cap l) {r : Option Nat} (hG : W.grownBy W' r) (hne : some g ≠ r) : RowA W' g n cap l := by
  obtain ⟨C, h1, h2⟩ := h.obj
  exact ⟨h.len, h.le, h.max, C, by rw [hG.block g h.lt hne]; exact h1, h2⟩
end
/-- A row of pairs that the call has made since the heap had B0 blocks. -/
def RA (B0 : Nat) (W : World) (ra : Option Addr) (n rc : Nat) (l : List (Int × Int)) : Prop :=
  l.length = n ∧ ((n = 0 ∧ rc = 0 ∧ ra = none) ∨ ∃ g, ra = some ⟨g, 0, none⟩ ∧ B0 ≤ g ∧ RowA W g n rc l)
section
variable {B0 : Nat} {W W' : World} {ra : Option Addr} {n rc : Nat} {l : List (Int × Int)}
theorem RA.nil (B0 : Nat) (W : World) : RA B0 W none 0 0 [] := ⟨rfl, .inl ⟨rfl, rfl, rfl⟩⟩
theorem RA.next (h : RA B0 W ra n rc l) (hb : Below W.heap.size W W') : RA B0 W' ra n rc l := by
  rcases h.2 with e | ⟨g, e1, e2, e3⟩
  · exact ⟨h.1, .inl e⟩
  · exact ⟨h.1, .inr ⟨g, e1, e2, e3.next hb⟩⟩
theorem RA.kept (h : RA B0 W ra n rc l) {r : Nat} (hG : W.grownBy W' (some r)) (hne : r < B0) : RA B0 W' ra n rc l := by
  rcases h.2 with e | ⟨g, e1, e2, e3⟩
  · exact ⟨h.1, .inl e⟩
  · exact ⟨h.1, .inr ⟨g, e1, e2, e3.kept hG (by simp; omega)⟩⟩
theorem RA.le (h : RA B0 W ra n rc l) : n ≤ rc := by
  rcases h.2 with ⟨e1, e2, _⟩ | ⟨g, _, _, e3⟩
  · omega
  · exact e3.le
theorem RA.max (h : RA B0 W ra n rc l) : rc ≤ maxLen := by
  rcases h.2 with ⟨e1, e2, _⟩ | ⟨g, _, _, e3⟩
  · unfold maxLen; omega
  · exact e3.max
theorem RA.row (h : RA B0 W ra n rc l) (h64 : ∀ p ∈ l, In64 p.1 ∧ In64 p.2) : AAt W W.heap.size (.slice ra n rc) l := by
  rcases h.2 with ⟨rfl, rfl, rfl⟩ | ⟨g, rfl, _, e3⟩
  · have : l = [] := List.length_eq_zero_iff.1 h.1
    subst this
    exact a_nil _ _ _
  · exact e3.row h64 e3.lt
/-- A pair comes behind. -/
theorem RA.push (h : RA B0 W ra n rc l) (hB : B0 ≤ W.heap.size) (q c2 : Nat) (p : Int × Int) (h0 : W.cell? ⟨q, 0, none⟩ = some (.int .i64 p.1)) (h1 : W.cell? ⟨q, 1, none⟩ = some (.int .i64 p.2)) (hs : n + 1 ≤ 100000) :
    ∃ a' c' W', (Builtin.append_ #[23, 23] 23 #[.slice ra n rc, .slice (some ⟨q, 0, none⟩) 1 c2]).run Try.prog W = .ok (.slice a' (n + 1) c') W' ∧ RA B0 W' a' (n + 1) c' (l ++ [p]) ∧ Below B0 W W' ∧ ∀ (k : Nat) (o : Obj), W.heap[k]? = some o → o.isCells = false → W'.heap[k]? = some o := by
  obtain ⟨i, hi, hz0, hz1, hz2⟩ := info_parts Try.info55
  have hone : acells [p] = [.int .i64 p.1, .int .i64 p.2] := rfl
  have hnews : ∀ j u, [Value.int .i64 p.1, .int .i64 p.2][j]? = some u → W.cell? ((⟨q, 0, none⟩ : Addr).add j) = some u := fun j u hu => by
    rw [Addr.add_mid, Nat.zero_add]
    match j, hu with
    | 0, hu => rw [h0, ← hu]; rfl
    | 1, hu => rw [h1, ← hu]; rfl
    | j + 2, hu => simp at hu
  have hb : ∀ o : Obj, Below B0 W (W.drew.alloc o) := fun o => (Below.drew (Below.refl _ _)).alloc hB _
  have hkk : ∀ (O : Obj) (k : Nat) (o : Obj), W.heap[k]? = some o → o.isCells = false → (W.drew.alloc O).heap[k]? = some o := fun O k o h1 _ => (((Below.drew (Below.refl W.heap.size W)).alloc (Nat.le_refl _) O).block k (Array.getElem?_eq_some_iff.1 h1).1).trans h1
  have hlen := h.1
  rcases h.2 with ⟨rfl, rfl, rfl⟩ | ⟨g, rfl, e2, e3⟩
  · have hl : l = [] := List.length_eq_zero_iff.1 hlen
    subst hl
    have hrun := run_append_nil (P := Try.prog) W 23 23 55 i _ Try.underlying23 hi hz0 ⟨q, 0, none⟩ 1 c2 _ (by rw [hz1]; rfl) hnews (by omega) (by omega) (by rw [hz2]; omega)
    refine ⟨_, _, _, hrun, ⟨rfl, .inr ⟨W.heap.size, rfl, hB, ⟨rfl, by simpa using grownCap_ge W 1 0 55, grownCap_le_maxLen _ _ _ _ (by unfold maxLen; omega), _, heap_alloc_new _ _, ?_, ?_⟩⟩⟩, hb _, hkk _⟩
    · have hg := grownCap_ge W 1 0 55
      simp only [Array.size_append, List.size_toArray, List.length_cons, List.length_nil, Builtin.zeroCells, Array.size_map, Array.size_range]
      show 0 + 1 + 1 + (grownCap W 1 0 55 - 1) * 2 = _
      omega
    · simp only [Array.toList_append]
      rw [List.take_append_of_le_length (by simp)]
      rfl
  · obtain ⟨C, k1, k2, k3⟩ := e3.obj
    have hcl : (acells l).length = n * 2 := by rw [acells_len, hlen]
    have htl : (C.toList.take (n * 2)).length = n * 2 := by rw [k3, hcl]
    have hle := e3.le
    by_cases hr : n + 1 ≤ rc
    · have hrun := run_append_room (P := Try.prog) W 23 23 55 i Try.underlying23 hi g n rc C k1 ⟨q, 0, none⟩ 1 c2 _ (by rw [hz1]; rfl) hnews (by intro u hu; simp at hu; rcases hu with rfl | rfl <;> rfl) hr (by rw [hz1, k2]; simp; omega)
      rw [hz1] at hrun
      refine ⟨_, _, _, hrun, ⟨by simp [hlen], .inr ⟨g, rfl, e2, ⟨by simp [hlen], hr, e3.max, _, setRow_heap W g C _ 55 _ k1, ?_, ?_⟩⟩⟩, ?_⟩
      · simp only [List.size_toArray, List.length_append, List.length_drop, htl, Array.length_toList, k2, List.length_cons, List.length_nil]; omega
      · show List.take ((n + 1) * 2) (_ ++ _ ++ _) = _
        rw [acells_app, hone, k3, List.take_append_of_le_length (by rw [List.length_append, hcl]; simp only [List.length_cons, List.length_nil]; omega), List.take_of_length_le (by rw [List.length_append, hcl]; simp only [List.length_cons, List.length_nil]; omega)]
      · exact ⟨⟨rfl, rfl, rfl, by simp [World.setRow], fun k hk => setRow_other W g k _ (by omega)⟩, fun k o h1 h2 => (setRow_other W g k _ (fun e => by subst e; rw [k1] at h1; cases h1; cases h2)).trans h1⟩
    · have hold : ∀ j u, (acells l)[j]? = some u → W.cell? ((⟨g, 0, none⟩ : Addr).add j) = some u := fun j v hv => by
        rw [Addr.add_mid, Nat.zero_add]; exact e3.cells j v hv
      have hrun := run_append_grow (P := Try.prog) W 23 23 55 i _ Try.underlying23 hi hz0 ⟨g, 0, none⟩ n rc (acells l) (by rw [hz1, hcl]) hold ⟨q, 0, none⟩ 1 c2 _ (by rw [hz1]; rfl) hnews (by omega) (by omega) (growslice_fits (by omega) (by rw [hz2]; omega))
      refine ⟨_, _, _, hrun, ⟨by simp [hlen], .inr ⟨W.heap.size, rfl, hB, ⟨by simp [hlen], grownCap_ge _ _ _ _, grownCap_le_maxLen _ _ _ _ (by unfold maxLen; omega), _, heap_alloc_new _ _, ?_, ?_⟩⟩⟩, hb _, hkk _⟩
      · have hg := grownCap_ge W (n + 1) rc 55
        simp only [Array.size_append, List.size_toArray, hcl, List.length_cons, List.length_nil, Builtin.zeroCells, Array.size_map, Array.size_range]
        show n * 2 + (0 + 1 + 1) + (grownCap W (n + 1) rc 55 - (n + 1)) * 2 = _
        omega
      · simp only [Array.toList_append]
        rw [acells_app, hone, List.take_append_of_le_length (by rw [List.length_append, hcl]; simp only [List.length_cons, List.length_nil]; omega), List.take_of_length_le (by rw [List.length_append, hcl]; simp only [List.length_cons, List.length_nil]; omega)]
end
/-- Pairs are copied over a part of a row. -/
theorem copy_pairs (w : World) (ty : TypeId) (g o dLen dCap : Nat) (a : Addr) (sLen sCap : Nat) (cur : Array Value) (cs : List Value) (hg : w.heap[g]? = some (.cells cur 55 (0, 0))) (m : Nat) (hm : m = Nat.min sLen dLen) (hn : cs.length = m * 2)
    (hsrc : ∀ j v, cs[j]? = some v → w.cell? (a.add j) = some v) (hfit : o + cs.length ≤ cur.size) (h1 : ∀ v ∈ cs, v.oneCell' = true) :
    (Builtin.copy_ #[23, 23] ty #[.slice (some ⟨g, o, none⟩) dLen dCap, .slice (some a) sLen sCap]).run Try.prog w =
      .ok (goInt m) (w.setRow g (cur.toList.take o ++ cs ++ cur.toList.drop (o + cs.length)).toArray) := by
  have hl := run_loadCells_list (P := Try.prog) w a cs hsrc
  have hst := run_storeCells_at Try.prog g o 55 cs 0 cur w hg (by simpa using hfit) h1
  obtain ⟨i, hi, _, hz1, _⟩ := info_parts Try.info55
  rw [hn] at hl
  simp [Builtin.copy_, run_underlying Try.underlying23, Builtin.lenOf, Builtin.firstCells, sizeOf, typeInfo, hi, hz1, ← hm, hl, hst]
end Go.Proofs.Ytjancbjjeemedaa
