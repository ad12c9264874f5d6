/- merkle: bytes that grow behind an array. -/
import Derived.Test.YtfmngeemhfpeiaaDoorMot
namespace Go.Proofs.YtfmngeemhfpeiaaDoor
open Go.RowKit

/-- Bytes to which can be appended: a whole array of the call's own, or a row of its own. -/
def Gro (W : World) (B : Nat) (v : Value) (bs : List UInt8) : Prop :=
  ∃ g c, v = .slice (some ⟨g, 0, none⟩) bs.length c ∧ ((c = bs.length ∧ Arr W g (cells8 bs) ∧ B ≤ g ∧ bs ≠ [] ∧ c ≤ maxLen) ∨ W.ownsRow B 5 1 (.slice (some ⟨g, 0, none⟩) bs.length c) bs.length (cells8 bs))
theorem Gro.bytes {W : World} {B : Nat} {v : Value} {bs : List UInt8} (h : Gro W B v bs) : BytesAt W W.heap.size v bs := by
  obtain ⟨g, c, rfl, ⟨rfl, h1, _, h2, h3⟩ | h⟩ := h
  · refine ⟨_, _, rfl, Nat.le_refl _, h3, .inr ⟨g, 0, rfl, h1.lt (by rw [cells8_len]; exact List.length_pos_iff.2 h2), fun j hj => ?_⟩⟩
    rw [Nat.zero_add]
    exact h1.cell (by simp [cells8, List.getElem?_eq_getElem hj])
  · exact own_at h
theorem Gro.below {W W' : World} {B : Nat} {v : Value} {bs : List UInt8} (h : Gro W B v bs) (hb : Below W.heap.size W W') : Gro W' B v bs := by
  obtain ⟨g, c, rfl, ⟨rfl, h1, h2, h3, h4⟩ | h⟩ := h
  · exact ⟨g, _, rfl, .inl ⟨rfl, h1.below hb (h1.lt (by rw [cells8_len]; exact List.length_pos_iff.2 h3)), h2, h3, h4⟩⟩
  · exact ⟨g, c, rfl, .inr (own_after hb h)⟩
theorem gro_app {W : World} {B : Nat} {v : Value} {bs : List UInt8} (h : Gro W B v bs) (hB : B ≤ W.heap.size) {u : Value} {b : List UInt8} (hu : BytesAt W W.heap.size u b) (hl : bs.length + b.length ≤ 100000000) :
    ∃ v' W', (Builtin.append_ #[34, 34] 34 #[v, u]).run Tryd.prog W = .ok v' W' ∧ Gro W' B v' (bs ++ b) ∧ Below B W W' := by
  obtain ⟨i, hi, hz0, hz1, hz2⟩ := info_parts Tryd.infoU8
  obtain ⟨g, c, rfl, ⟨rfl, h1, h2, h3, h4⟩ | h⟩ := h
  · have hP := piece_bytes hu
    obtain ⟨a, c2, rfl, ⟨hb0, _⟩ | ⟨ad, rfl, hc⟩⟩ := hP
    · have hbe : b = [] := List.eq_nil_of_length_eq_zero hb0
      subst hbe
      refine ⟨_, W, run_append_nothing W 34 34 34 5 i Tryd.underlying34 hi (some ⟨g, 0, none⟩) bs.length bs.length (Nat.le_refl _) (.slice a 0 c2) ?_, ?_, Below.refl _ _⟩
      · rcases a with _ | p
        · exact Src.ofNil W Tryd.underlying34 c2
        · exact Src.ofSlice W Tryd.underlying34 p 0 c2 [] (by simp) (by simp) (by simp)
      · rw [List.append_nil]
        exact ⟨g, _, rfl, .inl ⟨rfl, h1, h2, h3, h4⟩⟩
    · by_cases hb0 : b = []
      · subst hb0
        refine ⟨_, W, run_append_nothing W 34 34 34 5 i Tryd.underlying34 hi (some ⟨g, 0, none⟩) bs.length bs.length (Nat.le_refl _) (.slice (some ad) 0 c2) ?_, ?_, Below.refl _ _⟩
        · exact Src.ofSlice W Tryd.underlying34 ad 0 c2 [] (by simp) (by simp) (by simp)
        · rw [List.append_nil]
          exact ⟨g, _, rfl, .inl ⟨rfl, h1, h2, h3, h4⟩⟩
      · have hbp : 0 < b.length := List.length_pos_iff.2 hb0
        have hrun := run_append_grow (P := Tryd.prog) W 34 34 5 i _ Tryd.underlying34 hi hz0 ⟨g, 0, none⟩ bs.length bs.length (cells8 bs) (by rw [hz1, cells8_len]; omega) (fun j v hv => by rw [Addr.add_mid, Nat.zero_add]; exact h1.cell hv) ad b.length c2 (cells8 b) (by rw [hz1, cells8_len]; omega) hc (by omega) (by omega) (growslice_fits (by omega) (by rw [hz2]; omega))
        have hge := grownCap_ge W (bs.length + b.length) bs.length 5
        have hcm := grownCap_le_maxLen W (bs.length + b.length) bs.length 5 (by unfold maxLen; omega)
        have hbl := fun (arr : Array Value) => (Below.drew (Below.refl B W)).alloc hB (.cells arr 5)
        refine ⟨_, _, hrun, ?_, hbl _⟩
        refine ⟨_, _, by rw [List.length_append], .inr ?_⟩
        rw [List.length_append, ← cells8_append]
        refine ⟨by simp [cells8_len], .inr ⟨W.heap.size, _, _, rfl, hB, heap_alloc_new W.drew _, hge, hcm, ?_, ?_⟩⟩
        · simp only [Array.size_append, List.size_toArray, size_zeroCells, cells8_len]
          simp [Value.cells]
          omega
        · simp only [Array.toList_append, List.append_assoc]
          rw [← List.append_assoc]
          exact List.take_left' (by simp [cells8_len])
  · have hP := piece_bytes hu
    obtain ⟨g', c', W', hrun, hO, hG, _⟩ := piece_run 34 5 i _ 1 1 Tryd.underlying34 hi hz0 hz1 hz2 rfl (by omega) h hP (by rw [cells8_len]; omega) (one_cells8 _) (by unfold maxLen; omega) (by omega) hB 34
    have hgB := (h.lt g rfl).1
    refine ⟨_, W', hrun, ⟨g', c', by rw [List.length_append], .inr ?_⟩, (Below.refl B W).grown hG hB (fun k e => by cases e; exact hgB)⟩
    rw [List.length_append, ← cells8_append]
    exact hO
/-- A row whose block lies at B or beyond. -/
def Fresh (B : Nat) (v : Value) : Prop := ∃ g n c, v = .slice (some ⟨g, 0, none⟩) n c ∧ B ≤ g
theorem Fresh.mono {B B' : Nat} {v : Value} (h : Fresh B v) (hb : B' ≤ B) : Fresh B' v := by
  obtain ⟨g, n, c, h1, h2⟩ := h
  exact ⟨g, n, c, h1, Nat.le_trans hb h2⟩
theorem Gro.fresh {W : World} {B : Nat} {v : Value} {bs : List UInt8} (h : Gro W B v bs) : Fresh B v := by
  obtain ⟨g, c, rfl, ⟨_, _, h2, _⟩ | h⟩ := h
  · exact ⟨g, _, c, rfl, h2⟩
  · exact ⟨g, _, c, rfl, (h.lt g rfl).1⟩
/-- Bytes that have been made since B. -/
def NewB (B : Nat) (W : World) (v : Value) (b : List UInt8) : Prop := Fresh B v ∧ BytesAt W W.heap.size v b
end Go.Proofs.YtfmngeemhfpeiaaDoor
