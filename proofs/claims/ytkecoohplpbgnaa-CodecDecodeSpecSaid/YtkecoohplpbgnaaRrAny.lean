/- The reference's reader: any value. -/
import Derived.Test.YtkecoohplpbgnaaRrLst
namespace Go.Proofs.Ytkecoohplpbgnaa
open Go.RowKit

theorem value_ref : ∀ (q : Nat) (w : World) (rb : Nat) (a : Option Addr) (cap : Nat) (all : List UInt8) (k : Nat) (dep : Int), dep + q = 16 → 0 ≤ dep → RR w rb a cap all k false → (∀ db off, a = some ⟨db, off, none⟩ → db < w.heap.size) →
    Calls Try.prog 35 #[.pointer (some ⟨rb, 0, none⟩), .int .i64 dep] w (ValR w rb a cap all (rdV q (all.drop k))) := by
  intro q
  induction q using Nat.strongRecOn with
  | _ q ih =>
    intro w rb a cap all k dep hdep hd0 h hda
    by_cases hk : k < all.length
    · have hdk : all.drop k = all[k] :: all.drop (k + 1) := List.drop_eq_getElem_cons hk
      have hn : ∀ z, all[k].toNat = z → ∀ W, RR W rb a cap all k false → Calls Try.prog 47 #[.pointer (some ⟨rb, 0, none⟩)] W fun e w' => e = .returned (.int .u8 z) ∧ RR w' rb a cap all (k + 1) false ∧ W.grownBy w' (some rb) := fun z hz W hW => by
        have := next_some W rb a cap all k false hW hk
        rw [hz] at this
        exact this
      rw [hdk, rdV_eq, rdStep_cons]
      by_cases h1 : all[k].toNat = 1
      · rw [if_pos h1]; exact rval_1 w rb a cap all k dep h hda (hn 1 h1)
      rw [if_neg h1]
      by_cases h2 : all[k].toNat = 2
      · rw [if_pos h2]; exact rval_2 w rb a cap all k dep h hda (hn 2 h2)
      rw [if_neg h2]
      by_cases h3 : all[k].toNat = 3
      · rw [if_pos h3]
        exact rval_3 q w rb a cap all k dep hdep hd0 h hda (fun q' e W k' hW hd => ih q' (by omega) W rb a cap all k' (dep + 1) (by omega) (by omega) hW hd) (hn 3 h3)
      rw [if_neg h3]
      exact rval_bad w rb a cap all k false dep _ none rfl h (.inr hda) (fun W hW => (hn _ rfl W hW).mono fun e w' hh => ⟨hh.1, ⟨_, hh.2.1⟩, hh.2.2⟩) ⟨h1, h2, h3⟩
    · have hkl : k = all.length := by have := h.le; omega
      have e : rdV q (all.drop k) = none := by rw [hkl, List.drop_length, rdV_eq]; rfl
      exact rval_bad w rb a cap all k true dep 0 _ e h (.inr hda) (fun W hW => (next_end W rb a cap all k false hW hkl).mono fun e w' hh => ⟨hh.1, ⟨_, hh.2.1⟩, hh.2.2⟩) ⟨by omega, by omega, by omega⟩
end Go.Proofs.Ytkecoohplpbgnaa
