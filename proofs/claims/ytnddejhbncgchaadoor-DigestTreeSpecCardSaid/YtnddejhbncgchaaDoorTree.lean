/- digest.Tree. -/
import Derived.Test.YtnddejhbncgchaaDoorLen
namespace Go.Proofs.YtnddejhbncgchaaDoor
open Go.RowKit

/-- Digests in a slice, in memory below B. -/
def Digs (w : World) (B : Nat) (v : Value) (ds : List (List UInt8)) : Prop :=
  (∀ d ∈ ds, d.length = 32) ∧ ∃ a cap, v = .slice a ds.length cap ∧ ds.length ≤ cap ∧ cap ≤ maxLen ∧
    (ds = [] ∨ ∃ db off, a = some ⟨db, off, none⟩ ∧ db < B ∧ ∀ i (h : i < ds.length), w.rangeAt db (off + i * 32) (cells8 ds[i]))
theorem Digs.below {w w' : World} {B : Nat} {v : Value} {ds : List (List UInt8)} (h : Digs w B v ds) (hb : Below B w w') : Digs w' B v ds := by
  obtain ⟨h0, a, cap, h1, h2, h3, h4⟩ := h
  refine ⟨h0, a, cap, h1, h2, h3, ?_⟩
  rcases h4 with h4 | ⟨db, off, h4, h5, h6⟩
  · exact .inl h4
  · exact .inr ⟨db, off, h4, h5, fun i hi j v hv => (hb.cell (p := ⟨db, off + i * 32 + j, none⟩) h5).trans (h6 i hi j v hv)⟩
theorem Digs.mono {w : World} {B B' : Nat} {v : Value} {ds : List (List UInt8)} (h : Digs w B v ds) (hb : B ≤ B') : Digs w B' v ds := by
  obtain ⟨h0, a, cap, h1, h2, h3, h4⟩ := h
  refine ⟨h0, a, cap, h1, h2, h3, ?_⟩
  rcases h4 with h4 | ⟨db, off, h4, h5, h6⟩
  · exact .inl h4
  · exact .inr ⟨db, off, h4, by omega, h6⟩

/-- The digest of a list (f bounds its length). -/
def treeF : Nat → List (List UInt8) → List UInt8
  | 0, _ => tagged tEmpty []
  | f + 1, ds => if ds.length = 0 then tagged tEmpty [] else if ds.length = 1 then tagged tLeaf (ds.getD 0 []) else tagged tNode (treeF f (ds.take (spl ds.length)) ++ treeF f (ds.drop (spl ds.length)))
theorem treeF_fuel : ∀ (f g : Nat) (ds : List (List UInt8)), ds.length ≤ f → ds.length ≤ g → ds.length ≤ 1099511627776 → treeF f ds = treeF g ds
  | 0, 0, _, _, _, _ => rfl
  | 0, g + 1, ds, h, _, _ => by rw [treeF, treeF, if_pos (by omega)]
  | f + 1, 0, ds, _, h, _ => by rw [treeF, treeF, if_pos (by omega)]
  | f + 1, g + 1, ds, h1, h2, hn => by
    rw [treeF, treeF]
    by_cases h : ds.length = 0
    · rw [if_pos h, if_pos h]
    · by_cases h' : ds.length = 1
      · rw [if_neg h, if_neg h, if_pos h', if_pos h']
      · obtain ⟨a, b, _⟩ := spl_bound ds.length (by omega) hn
        rw [if_neg h, if_neg h, if_neg h', if_neg h', treeF_fuel f g _ (by rw [List.length_take]; omega) (by rw [List.length_take]; omega) (by rw [List.length_take]; omega),
          treeF_fuel f g _ (by rw [List.length_drop]; omega) (by rw [List.length_drop]; omega) (by rw [List.length_drop]; omega)]
def tree (ds : List (List UInt8)) : List UInt8 := treeF ds.length ds
theorem tree_nil : tree [] = tagged tEmpty [] := rfl
theorem tree_one (d : List UInt8) : tree [d] = tagged tLeaf d := rfl
theorem tree_len (ds : List (List UInt8)) : (tree ds).length = 32 := by
  unfold tree
  cases h : ds.length with
  | zero => rw [treeF]; exact tagged_len _ _
  | succ n => rw [treeF]; repeat (first | exact tagged_len _ _ | split)
theorem tree_more (ds : List (List UInt8)) (h1 : 1 < ds.length) (hn : ds.length ≤ 1099511627776) : tree ds = tagged tNode (tree (ds.take (spl ds.length)) ++ tree (ds.drop (spl ds.length))) := by
  obtain ⟨a, b, _⟩ := spl_bound ds.length h1 hn
  obtain ⟨k, hk⟩ : ∃ k, ds.length = k + 1 := ⟨ds.length - 1, by omega⟩
  have e : tree ds = treeF (k + 1) ds := by unfold tree; rw [hk]
  rw [e, treeF, if_neg (by omega), if_neg (by omega), treeF_fuel k (ds.take (spl ds.length)).length _ (by rw [List.length_take]; omega) (Nat.le_refl _) (by rw [List.length_take]; omega),
    treeF_fuel k (ds.drop (spl ds.length)).length _ (by rw [List.length_drop]; omega) (Nat.le_refl _) (by rw [List.length_drop]; omega)]
  rfl
end Go.Proofs.YtnddejhbncgchaaDoor
