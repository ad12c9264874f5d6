/- merkle: the texts of a way, and bytes of one's own that stay as they are. -/
import Derived.Test.YtfmngeemhfpeiaaDoorMpr
namespace Go.Proofs.YtfmngeemhfpeiaaDoor
open Go.RowKit

theorem NewB.move {B : Nat} {W W' : World} {v : Value} {b : List UInt8} (h : NewB B W v b) (hs : W.heap.size ≤ W'.heap.size) (hc : ∀ g, B ≤ g → g < W.heap.size → W'.heap[g]? = W.heap[g]?) : NewB B W' v b := by
  obtain ⟨⟨g, n, c, rfl, hg⟩, a', c', e, h1, h2, h3⟩ := h
  injection e with e1 e2 e3
  subst e2
  subst e3
  refine ⟨⟨g, _, _, rfl, hg⟩, _, _, rfl, h1, h2, ?_⟩
  rcases h3 with h3 | ⟨db, off, h4, h5, h6⟩
  · exact .inl h3
  · rw [← e1] at h4
    injection h4 with h4
    injection h4 with h4 h4'
    subst h4
    subst h4'
    exact .inr ⟨g, 0, rfl, by omega, fun i hi => (World.cell?_of_block (a := ⟨g, 0 + i, none⟩) (hc g hg h5)).trans (h6 i hi)⟩
theorem NewB.below {B : Nat} {W W' : World} {v : Value} {b : List UInt8} (h : NewB B W v b) (hb : Below W.heap.size W W') : NewB B W' v b := h.move hb.size fun g _ hg => hb.block g hg
theorem NewB.low {B : Nat} {W W' : World} {v : Value} {b : List UInt8} {ls : List Nat} (h : NewB B W v b) (hL : Low W.heap.size ls W W') (hl : ∀ x ∈ ls, x < B) : NewB B W' v b :=
  h.move hL.size fun g h1 hg => hL.block g hg fun hm => by have := hl g hm; omega
theorem NewB.kept {B : Nat} {W W' : World} {v : Value} {b : List UInt8} {r : Option Nat} (h : NewB B W v b) (hG : W.grownBy W' r) (hr : ∀ k, r = some k → k < B) : NewB B W' v b :=
  h.move hG.size fun g h1 hg => hG.block g hg fun e => by have := hr g e.symm; omega
theorem NewB.own {B : Nat} {W W' : World} {v : Value} {b : List UInt8} {row : Option Nat} (h : NewB B W v b) (_hb : b ≠ []) (hG : W.grownBy W' row) (hr : ∀ r, row = some r → ∃ o : Obj, W.heap[r]? = some o ∧ o.isCells = false) : NewB B W' v b := by
  obtain ⟨⟨g, n, c, rfl, hg⟩, a', c', e, h1, h2, h3⟩ := h
  injection e with e1 e2 e3
  subst e2
  subst e3
  refine ⟨⟨g, _, _, rfl, hg⟩, _, _, rfl, h1, h2, ?_⟩
  rcases h3 with h3 | ⟨db, off, h4, h5, h6⟩
  · exact .inl h3
  · rw [← e1] at h4
    injection h4 with h4
    injection h4 with h4 h4'
    subst h4
    subst h4'
    exact .inr ⟨g, 0, rfl, Nat.lt_of_lt_of_le h5 hG.size, fun i hi => cell_kept (h6 i hi) hG hr⟩
theorem NewB.mono {B B' : Nat} {W : World} {v : Value} {b : List UInt8} (h : NewB B W v b) (hb : B' ≤ B) : NewB B' W v b := ⟨h.1.mono hb, h.2⟩
theorem NewB.head {B : Nat} {W : World} {v : Value} {b : List UInt8} (h : NewB B W v b) : ∃ g c, v = .slice (some ⟨g, 0, none⟩) b.length c := by
  obtain ⟨⟨g, n, c, rfl, hg⟩, a', c', e, _⟩ := h
  injection e with e1 e2 e3
  subst e2
  exact ⟨g, c, rfl⟩

/-- The text of which the digest of a way before the row k is one; the first one is t. -/
def mtx (i m : Nat) (t d : List UInt8) (p : List (List UInt8)) : Nat → List UInt8
  | 0 => t
  | k + 1 => if alone (mpos i k) (msz m k) then mtx i m t d p k else stepT (mpos i k) (mst i m d p k) (p.getD (mcnt i m k) [])
theorem mtx_sha (i m : Nat) (t : List UInt8) (p : List (List UInt8)) : ∀ k, sha (mtx i m t (sha t) p k) = mst i m (sha t) p k
  | 0 => rfl
  | k + 1 => by
    show sha (if alone (mpos i k) (msz m k) then mtx i m t (sha t) p k else _) = (if alone (mpos i k) (msz m k) then mst i m (sha t) p k else _)
    split
    · exact mtx_sha i m t p k
    · rfl
theorem mtx_ne (i m : Nat) {t d : List UInt8} (ht : t ≠ []) (p : List (List UInt8)) : ∀ k, mtx i m t d p k ≠ []
  | 0 => ht
  | k + 1 => by
    unfold mtx
    split
    · exact mtx_ne i m ht p k
    · exact stepT_ne _ _ _
theorem mtx_len (i m : Nat) {t d : List UInt8} (hd : d.length = 32) {p : List (List UInt8)} (hp : ∀ x ∈ p, x.length = 32) (hl : p.length = mlen i m) : ∀ k, k ≤ mrows m → (mtx i m t d p k).length ≤ t.length + 96
  | 0, _ => by unfold mtx; omega
  | k + 1, hk => by
    unfold mtx
    split
    · exact mtx_len i m hd hp hl k (by omega)
    · rename_i ha
      have h1 : mcnt i m (k + 1) = mcnt i m k + 1 := by show mcnt i m k + (if _ then 0 else 1) = _; rw [if_neg ha]
      have h2 := mcnt_mono i m hk
      have h3 : mcnt i m k < p.length := by rw [hl]; unfold mlen; omega
      rw [stepT_len, mst_len i m hd, hp _ (getD_mem h3)]
      omega
/-- A load of an array, in a round. -/
theorem wpListIn_load_mid {n lp : Nat} {P : Program} {ops : Array Oper} {rest : List Oper} {op : Oper} {a : Act} {w : World} {Q : Exit → Act → World → Prop} (hgd : op.guard = none) (ty : TypeId) (x : Operand) (ho : op.op = .load ty x)
    (b o : Nat) (hx : a.eval x = .pointer (some ⟨b, o, none⟩)) (cs : List Value) (d : TypeDesc) (hc : w.rangeAt b o cs)
    (hu : P.underlying ty = some d) (hd : d.isRow = true) (hi : (P.info? ty).map (·.size) = some cs.length)
    (h : wpListIn (Fence.wide.inRound lp) n P ops Q rest (a.put op.dst (.agg cs.toArray)) w) : wpListIn (Fence.wide.inRound lp) n P ops Q (op :: rest) a w :=
  wpListIn_plain hgd fun K hK => wpIn_round_of_wp (by rw [ho]; intro c hc'; cases hc') (wp_load_mid ty x ho b o hx cs d hc hu hd hi (hK _ _ h))
end Go.Proofs.YtfmngeemhfpeiaaDoor
