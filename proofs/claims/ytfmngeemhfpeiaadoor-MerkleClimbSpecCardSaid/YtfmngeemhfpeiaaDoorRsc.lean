/- merkle's reference: rows of texts that grow. -/
import Derived.Test.YtfmngeemhfpeiaaDoorRsb
namespace Go.Proofs.YtfmngeemhfpeiaaDoor
open Go.RowKit

/-- A row of one, of one's own. -/
theorem own_single {w : World} {base e size : Nat} (cs : List Value) (hb : base ≤ w.heap.size) (hs : cs.length = size) : (w.alloc (.cells cs.toArray e)).ownsRow base e size (.slice (some ⟨w.heap.size, 0, none⟩) 1 1) 1 cs :=
  ⟨by simp [hs], .inr ⟨w.heap.size, 1, cs.toArray, rfl, hb, heap_alloc_new w _, Nat.le_refl _, by unfold maxLen; omega, by simp [hs], by subst hs; simp⟩⟩
theorem Tryd.info34t : (Tryd.prog.info? 34).map (fun i => (i.zero, i.size, i.bytes)) = some (some (.slice none 0 0), 1, 24) := by kernel_rfl
/-- One text behind a row of texts of one's own. -/
theorem text_app {W : World} {B n : Nat} {v : Value} {xs : List Value} (h : W.ownsRow B 34 1 v n xs) (hB : B ≤ W.heap.size) (g : Nat) (a : Option Addr) (m c : Nat) (hg : W.cell? ⟨g, 0, none⟩ = some (.slice a m c)) (hn : n ≤ 1000000) :
    ∃ v' W', (Builtin.append_ #[22, 22] 22 #[v, .slice (some ⟨g, 0, none⟩) 1 1]).run Tryd.prog W = .ok v' W' ∧ W'.ownsRow B 34 1 v' (n + 1) (xs ++ [.slice a m c]) ∧ W.grownBy W' v.ownBlock ∧ (v'.ownBlock = v.ownBlock ∨ v'.ownBlock = some W.heap.size) := by
  obtain ⟨i, hi, hz0, hz1, hz2⟩ := info_parts Tryd.info34t
  obtain ⟨v', W', hr, h2, h3, _, h6⟩ := run_append_own_at (P := Tryd.prog) W B 22 22 34 i _ 1 24 Tryd.underlying22 hi hz0 hz1 hz2 (by simp [Value.cells]) (by omega) v n xs h ⟨g, 0, none⟩ 1 1 [.slice a m c] (by simp) (fun j u hu => by
    obtain ⟨hj, rfl⟩ := List.getElem?_eq_some_iff.1 hu
    have hj0 : j = 0 := by simpa using hj
    subst hj0
    rw [Addr.add_mid]
    exact hg) (by simp [Value.oneCell']) (by unfold maxLen; omega) (by omega) hB
  exact ⟨v', W', hr, h2, h3, h6⟩
end Go.Proofs.YtfmngeemhfpeiaaDoor
