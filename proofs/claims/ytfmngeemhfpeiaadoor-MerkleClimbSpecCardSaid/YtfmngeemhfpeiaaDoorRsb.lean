/- merkle's reference: the way of a leaf as data; texts that lie in no block of a growing row. -/
import Derived.Test.YtfmngeemhfpeiaaDoorRcb
namespace Go.Proofs.YtfmngeemhfpeiaaDoor
open Go.RowKit

/-- The text that was hashed for the digest k of a way; none where a digest is left alone. -/
def wayT (i m : Nat) (b : List UInt8) (p : List (List UInt8)) : Nat → List UInt8
  | 0 => leafT b
  | k + 1 => if alone (mpos i k) (msz m k) then [] else stepT (mpos i k) (mst i m (sha (leafT b)) p k) (p.getD (mcnt i m k) [])
/-- The digests of a way. -/
def wayD (i m : Nat) (b : List UInt8) (p : List (List UInt8)) (k : Nat) : List (List UInt8) := (List.range (k + 1)).map (mst i m (sha (leafT b)) p)
theorem wayD_len (i m : Nat) (b : List UInt8) (p : List (List UInt8)) (k : Nat) : (wayD i m b p k).length = k + 1 := by simp [wayD]
theorem wayD_succ (i m : Nat) (b : List UInt8) (p : List (List UInt8)) (k : Nat) : wayD i m b p (k + 1) = wayD i m b p k ++ [mst i m (sha (leafT b)) p (k + 1)] := by
  unfold wayD
  rw [List.range_succ (n := k + 1), List.map_append]
  rfl
theorem wayD_get (i m : Nat) (b : List UInt8) (p : List (List UInt8)) (k j : Nat) (h : j < (wayD i m b p k).length) : (wayD i m b p k)[j] = mst i m (sha (leafT b)) p j := by
  simp [wayD]
/-- At the first row in which two ways have one digest, the text that was hashed there is the last one that was hashed. -/
theorem wayT_first (i m : Nat) (a b : List UInt8) (p q : List (List UInt8)) : ∀ K, (∀ j, j < K → mst i m (sha (leafT a)) p j ≠ mst i m (sha (leafT b)) q j) → mst i m (sha (leafT a)) p K = mst i m (sha (leafT b)) q K → wayT i m a p K = mtx i m (leafT a) (sha (leafT a)) p K
  | 0, _, _ => rfl
  | k + 1, hn, he => by
    have hk := hn k (by omega)
    have e1 : mst i m (sha (leafT a)) p (k + 1) = if alone (mpos i k) (msz m k) then mst i m (sha (leafT a)) p k else sha (stepT (mpos i k) (mst i m (sha (leafT a)) p k) (p.getD (mcnt i m k) [])) := rfl
    have e2 : mst i m (sha (leafT b)) q (k + 1) = if alone (mpos i k) (msz m k) then mst i m (sha (leafT b)) q k else sha (stepT (mpos i k) (mst i m (sha (leafT b)) q k) (q.getD (mcnt i m k) [])) := rfl
    by_cases ha : alone (mpos i k) (msz m k) = true
    · rw [e1, e2, if_pos ha, if_pos ha] at he
      exact absurd he hk
    · show (if alone (mpos i k) (msz m k) then [] else stepT (mpos i k) (mst i m (sha (leafT a)) p k) (p.getD (mcnt i m k) [])) = (if alone (mpos i k) (msz m k) then mtx i m (leafT a) (sha (leafT a)) p k else stepT (mpos i k) (mst i m (sha (leafT a)) p k) (p.getD (mcnt i m k) []))
      rw [if_neg ha, if_neg ha]
/-- Bytes that lie in none of two blocks. -/
def SepB (W : World) (o1 o2 : Option Nat) (v : Value) (b : List UInt8) : Prop := BytesAt W W.heap.size v b ∧ (b ≠ [] → ∀ a n c, v = .slice (some a) n c → some a.block ≠ o1 ∧ some a.block ≠ o2)
theorem SepB.moved {W W' : World} {o1 o2 o3 o4 r : Option Nat} {v : Value} {b : List UInt8} (h : SepB W o1 o2 v b) (hG : W.grownBy W' r) (hr : r = o1 ∨ r = o2 ∨ r = none)
    (h3 : o3 = o1 ∨ ∃ g, o3 = some g ∧ W.heap.size ≤ g) (h4 : o4 = o2 ∨ ∃ g, o4 = some g ∧ W.heap.size ≤ g) : SepB W' o3 o4 v b := by
  obtain ⟨⟨a, c, rfl, h5, h6, h7⟩, h8⟩ := h
  by_cases hb : b = []
  · exact ⟨⟨a, c, rfl, h5, h6, .inl hb⟩, fun h => absurd hb h⟩
  · obtain ⟨g, off, rfl, hg, hc⟩ := h7.resolve_left hb
    have h9 := h8 hb _ _ _ rfl
    have hne : some g ≠ r := by
      rcases hr with rfl | rfl | rfl
      · exact h9.1
      · exact h9.2
      · simp
    have hsz := hG.size
    refine ⟨⟨_, c, rfl, h5, h6, .inr ⟨g, off, rfl, by omega, fun j hj => ?_⟩⟩, fun _ a n c e => ?_⟩
    · exact (World.cell?_of_block (a := ⟨g, off + j, none⟩) (hG.block g hg (by simpa using hne))).trans (hc j hj)
    · injection e with e _ _
      injection e with e
      subst e
      refine ⟨?_, ?_⟩
      · rcases h3 with rfl | ⟨x, rfl, hx⟩
        · exact h9.1
        · simp; omega
      · rcases h4 with rfl | ⟨x, rfl, hx⟩
        · exact h9.2
        · simp; omega
end Go.Proofs.YtfmngeemhfpeiaaDoor
