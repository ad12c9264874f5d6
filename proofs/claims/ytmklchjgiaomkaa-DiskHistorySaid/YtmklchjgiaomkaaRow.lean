/- Rows of sectors and of writes that the call owns; extended, Clone. -/
import Derived.Test.YtmklchjgiaomkaaVld
namespace Go.Proofs.Ytmklchjgiaomkaa
open Go.RowKit

/-- Bytes in a slice, in blocks of a kind. -/
def BytesOn (w : World) (P : Nat → Prop) (v : Value) (bs : By) : Prop :=
  ∃ a cap, v = .slice a bs.length cap ∧ bs.length ≤ cap ∧ cap ≤ maxLen ∧ (bs = [] ∨ ∃ db off, a = some ⟨db, off, none⟩ ∧ P db ∧ db < w.heap.size ∧ BytesIn w db off bs)
theorem BytesOn.keep {w w' : World} {P Q : Nat → Prop} {v : Value} {bs : By} (h : BytesOn w P v bs) (hw : ∀ b, P b → b < w.heap.size → w'.heap[b]? = w.heap[b]?) (hQ : ∀ b, P b → b < w.heap.size → Q b) (hs : w.heap.size ≤ w'.heap.size) : BytesOn w' Q v bs := by
  obtain ⟨a, cap, h1, h2, h3, h4⟩ := h
  refine ⟨a, cap, h1, h2, h3, ?_⟩
  rcases h4 with h4 | ⟨db, off, h4, h5, h6, h7⟩
  · exact .inl h4
  · exact .inr ⟨db, off, h4, hQ db h5 h6, by omega, fun i hi => (World.cell?_of_block (a := ⟨db, off + i, none⟩) (hw db h5 h6)).trans (h7 i hi)⟩
theorem BytesAt.on {w : World} {B : Nat} {v : Value} {bs : By} (h : BytesAt w B v bs) (hB : B ≤ w.heap.size) : BytesOn w (· < B) v bs := by
  obtain ⟨a, cap, h1, h2, h3, h4⟩ := h
  refine ⟨a, cap, h1, h2, h3, ?_⟩
  rcases h4 with h4 | ⟨db, off, h4, h5, h6⟩
  · exact .inl h4
  · exact .inr ⟨db, off, h4, h5, by omega, h6⟩
theorem BytesOn.at {w : World} {P : Nat → Prop} {v : Value} {bs : By} (h : BytesOn w P v bs) : BytesAt w w.heap.size v bs := by
  obtain ⟨a, cap, h1, h2, h3, h4⟩ := h
  refine ⟨a, cap, h1, h2, h3, ?_⟩
  rcases h4 with h4 | ⟨db, off, h4, h5, h6, h7⟩
  · exact .inl h4
  · exact .inr ⟨db, off, h4, h6, h7⟩
theorem Arr.bytesOn {W : World} {g : Nat} {l : By} (h : Arr W g (cells8 l)) {P : Nat → Prop} {cap n : Nat} (hn : l.length = n) (hb : g < W.heap.size) (hP : P g) (hc : n ≤ cap) (hm : cap ≤ maxLen) : BytesOn W P (.slice (some ⟨g, 0, none⟩) n cap) l := by
  subst hn; exact ⟨_, cap, rfl, hc, hm, .inr ⟨g, 0, rfl, hP, hb, h.bytes⟩⟩
theorem on_shape {w : World} {P : Nat → Prop} {v : Value} {l : By} (h : BytesOn w P v l) : ∃ a c, v = .slice a l.length c ∧ l.length ≤ c ∧ c ≤ maxLen := by
  obtain ⟨a, c, rfl, h1, h2, _⟩ := h; exact ⟨a, c, rfl, h1, h2⟩

/-- The cells of a slice of writes. -/
def penCells (w : World) (P : Nat → Prop) (l : List (Int × By)) (cs : List Value) : Prop :=
  cs.length = l.length * 2 ∧ ∀ i (h : i < l.length), In64 l[i].1 ∧ cs[i * 2]? = some (.int .i64 l[i].1) ∧ ∃ u, cs[i * 2 + 1]? = some u ∧ BytesOn w P u l[i].2
/-- The cells of a slice of sectors. -/
def secCells (w : World) (P : Nat → Prop) (l : List By) (cs : List Value) : Prop :=
  cs.length = l.length ∧ ∀ i (h : i < l.length), ∃ u, cs[i]? = some u ∧ BytesOn w P u l[i]

theorem penCells.keep {w w' : World} {P Q : Nat → Prop} {l : List (Int × By)} {cs : List Value} (h : penCells w P l cs) (hw : ∀ b, P b → b < w.heap.size → w'.heap[b]? = w.heap[b]?) (hQ : ∀ b, P b → b < w.heap.size → Q b) (hs : w.heap.size ≤ w'.heap.size) : penCells w' Q l cs :=
  ⟨h.1, fun i hi => by obtain ⟨h0, h1, u, h2, h3⟩ := h.2 i hi; exact ⟨h0, h1, u, h2, h3.keep hw hQ hs⟩⟩
theorem secCells.keep {w w' : World} {P Q : Nat → Prop} {l : List By} {cs : List Value} (h : secCells w P l cs) (hw : ∀ b, P b → b < w.heap.size → w'.heap[b]? = w.heap[b]?) (hQ : ∀ b, P b → b < w.heap.size → Q b) (hs : w.heap.size ≤ w'.heap.size) : secCells w' Q l cs :=
  ⟨h.1, fun i hi => by obtain ⟨u, h2, h3⟩ := h.2 i hi; exact ⟨u, h2, h3.keep hw hQ hs⟩⟩
theorem secCells.below {w w' : World} {B : Nat} {l : List By} {cs : List Value} (h : secCells w (· < B) l cs) (hb : Below B w w') (hs : w.heap.size ≤ w'.heap.size) : secCells w' (· < B) l cs :=
  h.keep (fun b hB _ => hb.block b hB) (fun _ h _ => h) hs
theorem penCells.below {w w' : World} {B : Nat} {l : List (Int × By)} {cs : List Value} (h : penCells w (· < B) l cs) (hb : Below B w w') (hs : w.heap.size ≤ w'.heap.size) : penCells w' (· < B) l cs :=
  h.keep (fun b hB _ => hb.block b hB) (fun _ h _ => h) hs
theorem penCells.snoc {w : World} {P : Nat → Prop} {l : List (Int × By)} {cs : List Value} (h : penCells w P l cs) {n : Int} {b : By} {u : Value} (hn : In64 n) (hu : BytesOn w P u b) : penCells w P (l ++ [(n, b)]) (cs ++ [.int .i64 n, u]) := by
  refine ⟨by rw [List.length_append, List.length_append, h.1]; simp; omega, fun i hi => ?_⟩
  by_cases e : i < l.length
  · obtain ⟨h0, h1, u', h2, h3⟩ := h.2 i e
    rw [List.getElem_append_left e]
    exact ⟨h0, by rw [List.getElem?_append_left (by rw [h.1]; omega)]; exact h1, u', by rw [List.getElem?_append_left (by rw [h.1]; omega)]; exact h2, h3⟩
  · have e2 : i = l.length := by rw [List.length_append] at hi; simp at hi; omega
    subst e2
    rw [List.getElem_append_right (Nat.le_refl _)]
    simp only [Nat.sub_self, List.getElem_cons_zero]
    refine ⟨hn, ?_, u, ?_, hu⟩
    · rw [List.getElem?_append_right (by rw [h.1]; omega), h.1, Nat.sub_self]; rfl
    · rw [List.getElem?_append_right (by rw [h.1]; omega), h.1, show l.length * 2 + 1 - l.length * 2 = 1 by omega]; rfl
theorem secCells.snoc {w : World} {P : Nat → Prop} {l : List By} {cs : List Value} (h : secCells w P l cs) {b : By} {u : Value} (hu : BytesOn w P u b) : secCells w P (l ++ [b]) (cs ++ [u]) := by
  refine ⟨by rw [List.length_append, List.length_append, h.1]; simp, fun i hi => ?_⟩
  by_cases e : i < l.length
  · obtain ⟨u', h2, h3⟩ := h.2 i e
    rw [List.getElem_append_left e]
    exact ⟨u', by rw [List.getElem?_append_left (by rw [h.1]; omega)]; exact h2, h3⟩
  · have e2 : i = l.length := by rw [List.length_append] at hi; simp at hi; omega
    subst e2
    rw [List.getElem_append_right (Nat.le_refl _)]
    simp only [Nat.sub_self, List.getElem_cons_zero]
    exact ⟨u, by rw [List.getElem?_append_right (by rw [h.1]; omega), h.1, Nat.sub_self]; rfl, hu⟩
theorem secCells.set {w : World} {P : Nat → Prop} {l : List By} {cs : List Value} (h : secCells w P l cs) {b : By} {u : Value} (n : Nat) (hu : BytesOn w P u b) : secCells w P (l.set n b) (cs.set n u) := by
  refine ⟨by rw [List.length_set, List.length_set, h.1], fun i hi => ?_⟩
  rw [List.length_set] at hi
  by_cases e : n = i
  · subst e
    rw [List.getElem_set_self, List.getElem?_set_self (by rw [h.1]; exact hi)]
    exact ⟨u, rfl, hu⟩
  · rw [List.getElem_set_ne e, List.getElem?_set_ne e]
    exact h.2 i hi
theorem secCells.at {w : World} {P : Nat → Prop} {g cap n : Nat} {l : List By} {cs : List Value} (h : secCells w P l cs) (hA : Arr w g cs) (hg : g < w.heap.size) (hn : l.length = n) (hc : n ≤ cap) (hm : cap ≤ maxLen) : SecAt w w.heap.size (.slice (some ⟨g, 0, none⟩) n cap) l := by
  subst hn
  refine ⟨_, cap, rfl, hc, hm, .inr ⟨g, 0, rfl, hg, fun i hi => ?_⟩⟩
  obtain ⟨u, h1, h2⟩ := h.2 i hi
  rw [Nat.zero_add]
  exact ⟨u, hA.cell h1, h2.at⟩
theorem penCells.at {w : World} {P : Nat → Prop} {g cap n : Nat} {l : List (Int × By)} {cs : List Value} (h : penCells w P l cs) (hA : Arr w g cs) (hg : g < w.heap.size) (hn : l.length = n) (hc : n ≤ cap) (hm : cap ≤ maxLen) : PenAt w w.heap.size (.slice (some ⟨g, 0, none⟩) n cap) l := by
  subst hn
  refine ⟨_, cap, rfl, hc, hm, .inr ⟨g, 0, rfl, hg, fun i hi => ?_⟩⟩
  obtain ⟨h0, h1, u, h2, h3⟩ := h.2 i hi
  rw [Nat.zero_add]
  exact ⟨h0, hA.cell h1, u, hA.cell h2, h3.at⟩

/-- The cells of a slice that reads as writes. -/
theorem PenIn.cells {w : World} {B b off : Nat} (hB : B ≤ w.heap.size) : ∀ {l : List (Int × By)}, PenIn w B b off l → ∃ cs, penCells w (· < B) l cs ∧ ∀ j u, cs[j]? = some u → w.cell? ⟨b, off + j, none⟩ = some u := by
  intro l h
  refine ⟨(List.range (l.length * 2)).map fun j => (w.cell? ⟨b, off + j, none⟩).getD undef, ⟨by simp, fun i hi => ?_⟩, fun j u hu => ?_⟩
  · obtain ⟨h0, h1, u, h2, h3⟩ := h i hi
    refine ⟨h0, ?_, u, ?_, h3.on hB⟩
    · rw [List.getElem?_map, List.getElem?_range (by omega)]; simp only [Option.map_some]; rw [h1]; rfl
    · rw [List.getElem?_map, List.getElem?_range (by omega)]; simp only [Option.map_some]; rw [← Nat.add_assoc, h2]; rfl
  · have hj : j < l.length * 2 := by have := (List.getElem?_eq_some_iff.1 hu).1; simpa using this
    rw [List.getElem?_map, List.getElem?_range hj] at hu
    simp only [Option.map_some, Option.some.injEq] at hu
    obtain ⟨h0, h1, v, h2, h3⟩ := h (j / 2) (by omega)
    rcases Nat.mod_two_eq_zero_or_one j with e | e
    · rw [show off + j / 2 * 2 = off + j by omega] at h1
      rw [h1] at hu ⊢; simpa using hu
    · rw [show off + j / 2 * 2 + 1 = off + j by omega] at h2
      rw [h2] at hu ⊢; simpa using hu
theorem SecIn.cells {w : World} {B b off : Nat} (hB : B ≤ w.heap.size) : ∀ {l : List By}, SecIn w B b off l → ∃ cs, secCells w (· < B) l cs ∧ ∀ j u, cs[j]? = some u → w.cell? ⟨b, off + j, none⟩ = some u := by
  intro l h
  refine ⟨(List.range l.length).map fun j => (w.cell? ⟨b, off + j, none⟩).getD undef, ⟨by simp, fun i hi => ?_⟩, fun j u hu => ?_⟩
  · obtain ⟨u, h2, h3⟩ := h i hi
    exact ⟨u, by rw [List.getElem?_map, List.getElem?_range hi]; simp only [Option.map_some]; rw [h2]; rfl, h3.on hB⟩
  · have hj : j < l.length := by have := (List.getElem?_eq_some_iff.1 hu).1; simpa using this
    rw [List.getElem?_map, List.getElem?_range hj] at hu
    simp only [Option.map_some, Option.some.injEq] at hu
    obtain ⟨v, h2, h3⟩ := h j hj
    rw [h2] at hu ⊢; simpa using hu
theorem one_pen {w : World} {P : Nat → Prop} {l : List (Int × By)} {cs : List Value} (h : penCells w P l cs) : ∀ v ∈ cs, v.oneCell' = true := by
  intro v hv
  obtain ⟨j, hj, rfl⟩ := List.getElem_of_mem hv
  have hjl : j / 2 < l.length := by have := h.1; omega
  obtain ⟨h0, h1, u, h2, h3⟩ := h.2 (j / 2) hjl
  rcases Nat.mod_two_eq_zero_or_one j with e | e
  · rw [show j / 2 * 2 = j by omega, List.getElem?_eq_getElem hj] at h1
    injection h1 with h1; rw [h1]; rfl
  · rw [show j / 2 * 2 + 1 = j by omega, List.getElem?_eq_getElem hj] at h2
    injection h2 with h2; rw [h2]
    obtain ⟨a, c, rfl, _⟩ := on_shape h3; rfl
theorem one_sec {w : World} {P : Nat → Prop} {l : List By} {cs : List Value} (h : secCells w P l cs) : ∀ v ∈ cs, v.oneCell' = true := by
  intro v hv
  obtain ⟨j, hj, rfl⟩ := List.getElem_of_mem hv
  obtain ⟨u, h2, h3⟩ := h.2 j (by have := h.1; omega)
  rw [List.getElem?_eq_getElem hj] at h2
  injection h2 with h2; rw [h2]
  obtain ⟨a, c, rfl, _⟩ := on_shape h3; rfl

theorem Try.info54 : (Try.prog.info? 54).map (fun i => (i.zero, i.size, i.bytes)) = some (some (.agg #[.int .i64 0, .slice none 0 0]), 2, 32) := by kernel_rfl
theorem Try.info35 : (Try.prog.info? 35).map (fun i => (i.zero, i.size, i.bytes)) = some (some (.slice none 0 0), 1, 24) := by kernel_rfl
theorem Try.size54 : (Try.prog.info? 54).map (·.size) = some 2 := by kernel_rfl
theorem Try.size35 : (Try.prog.info? 35).map (·.size) = some 1 := by kernel_rfl
end Go.Proofs.Ytmklchjgiaomkaa
