/- A row of bytes that comes in. -/
import Derived.Test.YtilkhamlhbbmgaaDoorWrd
namespace Go.Proofs.YtilkhamlhbbmgaaDoor
open Go.RowKit

/-- Bytes in a slice, in memory below B. -/
def BRow (w : World) (B : Nat) (v : Value) (bs : List UInt8) : Prop :=
  ∃ a cap, v = .slice a bs.length cap ∧ bs.length ≤ cap ∧ cap ≤ maxLen ∧ (bs = [] ∨ ∃ b off, a = some ⟨b, off, none⟩ ∧ b < B ∧ ∀ i (h : i < bs.length), w.cell? ⟨b, off + i, none⟩ = some (.int .u8 (bs[i]).toNat))
theorem BRow.below {w w' : World} {B : Nat} {v : Value} {bs : List UInt8} (h : BRow w B v bs) (hb : Below B w w') : BRow w' B v bs := by
  obtain ⟨a, cap, h1, h2, h3, h4⟩ := h
  refine ⟨a, cap, h1, h2, h3, ?_⟩
  rcases h4 with h4 | ⟨b, off, h4, h5, h6⟩
  · exact .inl h4
  · exact .inr ⟨b, off, h4, h5, fun i hi => (hb.cell (p := ⟨b, off + i, none⟩) h5).trans (h6 i hi)⟩
theorem BRow.mono {w : World} {B C : Nat} {v : Value} {bs : List UInt8} (h : BRow w B v bs) (hb : B ≤ C) : BRow w C v bs := by
  obtain ⟨a, c, rfl, h1, h2, h3⟩ := h
  refine ⟨a, c, rfl, h1, h2, ?_⟩
  rcases h3 with h3 | ⟨b, off, rfl, h4, h5⟩
  · exact .inl h3
  · exact .inr ⟨b, off, rfl, by omega, h5⟩
theorem BRow.later {w : World} {v : Value} {l : List UInt8} (h : BRow w w.heap.size v l) : ∃ a c, v = .slice a l.length c ∧ l.length ≤ c ∧ c ≤ maxLen ∧ ∀ W, Below w.heap.size w W → ∀ k (hk : k < l.length), ∃ b off, a = some ⟨b, off, none⟩ ∧ W.cell? ⟨b, off + k, none⟩ = some (.int .u8 (l[k]).toNat) := by
  obtain ⟨a, c, rfl, hc, hm, h⟩ := h
  refine ⟨a, c, rfl, hc, by omega, fun W hW k hk => ?_⟩
  rcases h with rfl | ⟨b, off, rfl, hb, h⟩
  · simp at hk
  · exact ⟨b, off, rfl, (hW.cell (p := ⟨b, off + k, none⟩) hb).trans (h k hk)⟩
end Go.Proofs.YtilkhamlhbbmgaaDoor
