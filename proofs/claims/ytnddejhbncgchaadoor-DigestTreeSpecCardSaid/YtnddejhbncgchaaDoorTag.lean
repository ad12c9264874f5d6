/- digest.Tagged. -/
import Derived.Test.YtnddejhbncgchaaDoorCon
import Derived.Lib.ConvBytes
namespace Go.Proofs.YtnddejhbncgchaaDoor
open Go.RowKit

/-- Bytes in a slice: nil, or in memory below B. -/
def Row (w : World) (B : Nat) (v : Value) (b : List UInt8) : Prop :=
  (v = .slice none 0 0 ∧ b = []) ∨ ∃ db off cap, v = .slice (some ⟨db, off, none⟩) b.length cap ∧ b.length ≤ cap ∧ cap ≤ maxLen ∧ db < B ∧ BytesIn w db off b
theorem Row.below {w w' : World} {B : Nat} {v : Value} {b : List UInt8} (h : Row w B v b) (hb : Below B w w') : Row w' B v b := by
  rcases h with h | ⟨db, off, cap, h1, h2, h3, h4, h5⟩
  · exact .inl h
  · exact .inr ⟨db, off, cap, h1, h2, h3, h4, h5.below hb h4⟩
theorem Row.mono {w : World} {B B' : Nat} {v : Value} {b : List UInt8} (h : Row w B v b) (hb : B ≤ B') : Row w B' v b := by
  rcases h with h | ⟨db, off, cap, h1, h2, h3, h4, h5⟩
  · exact .inl h
  · exact .inr ⟨db, off, cap, h1, h2, h3, by omega, h5⟩
theorem Spare.row {w : World} {B g n cap : Nat} {l : List UInt8} (h : Spare w B g n cap l) : Row w w.heap.size (.slice (some ⟨g, 0, none⟩) n cap) l := by
  obtain ⟨_, h1, h2, h3, h4, h5⟩ := h.bytes
  exact .inr ⟨g, 0, cap, by rw [h4], by omega, h3, h1, h5⟩
theorem sum_any (w : World) (v : Value) (b : List UInt8) (h : Row w w.heap.size v b) (hl : b.length < 1000000000) (hT : Tab w) (h0 : 0 < w.heap.size) :
    Calls Tryd.prog 12 #[v] w fun e w' => e = .returned (dv (sha b)) ∧ Below w.heap.size w w' := by
  rcases h with ⟨rfl, rfl⟩ | ⟨db, off, cap, rfl, hc, hm, hdb, hb⟩
  · exact sum_nil w hT h0
  · have e : b.length = 64 * (b.length / 64) + b.length % 64 := by omega
    by_cases hlt : 64 * (b.length / 64) < cap
    · have := sum_some w db off cap (b.length / 64) (b.length % 64) b e (by omega) hb hdb (by omega) hlt hm (by omega) hT h0
      rwa [← e] at this
    · have hc' : cap = 64 * (b.length / 64) := by omega
      have hl' : b.length = 64 * (b.length / 64) := by omega
      have := sum_full w db off (b.length / 64) b hl' hb hdb (by omega) hT h0
      rw [← hl'] at this hc'
      rw [hc']; exact this
end Go.Proofs.YtnddejhbncgchaaDoor
