/- sane of the law is true. -/
import Derived.Test.YtmklchjgiaomkaaDbl
namespace Go.Proofs.Ytmklchjgiaomkaa
open Go.RowKit

def T1 : Dk := (Dk.new 2).1
def T2 : Dk := (T1.write 1 [7]).1
def T3 : Dk := (T2.halt 1).1
def T4 : Dk := (T3.write 0 (dbl 8)).1
def T5 : Dk := T4.sync.1
def T6 : Dk := T5.restart
theorem t1_err : (Dk.new 2).2 = 0 := by decide +kernel
theorem t0_err : (Dk.new 0).2 = 1 := by decide +kernel
theorem t2_err : (T1.write 1 [7]).2 = 0 := by decide +kernel
theorem tr_err : (T2.read 1).2 = 0 := by decide +kernel
theorem tr_len : (T2.read 1).1.length = 128 := by decide +kernel
theorem tr_at : (T2.read 1).1[0]? = some 7 := by decide +kernel
theorem tn_err : (T1.read 2).2 = 40 := by decide +kernel
theorem tw_err : (T1.write 0 (List.replicate 129 0)).2 = 1 := by decide +kernel
theorem t3_err : (T2.halt 1).2 = 0 := by decide +kernel
theorem t4_err : (T3.write 0 (dbl 8)).2 = 0 := by decide +kernel
theorem t5_err : T4.sync.2 = 40 := by decide +kernel
theorem t5_stop : T5.stop = true := by decide +kernel
theorem o_err : (T6.read 1).2 = 0 := by decide +kernel
theorem o_len : (T6.read 1).1.length = 128 := by decide +kernel
theorem o_at : (T6.read 1).1[0]? = some 7 := by decide +kernel
theorem n_err : (T6.read 0).2 = 0 := by decide +kernel
theorem n_len : (T6.read 0).1.length = 128 := by decide +kernel
theorem n_at : (T6.read 0).1[0]? = some 8 ∧ (T6.read 0).1[64]? = some 0 := by decide +kernel
theorem l_err : (T2.restart.read 1).2 = 0 := by decide +kernel
theorem l_len : (T2.restart.read 1).1.length = 128 := by decide +kernel
theorem l_at : (T2.restart.read 1).1[0]? = some 0 := by decide +kernel
theorem z_ok : Dk.zero.ok = false := by decide +kernel
theorem lens : T1.sec.length = 2 ∧ T1.pen.length = 0 ∧ T1.left = -1 ∧ T1.stop = false ∧ T2.sec.length = 2 ∧ T2.pen.length = 1 ∧ T2.left = -1 ∧ T2.stop = false ∧ T3.sec.length = 2 ∧ T3.pen.length = 1 ∧ T3.left = 1 ∧ T3.stop = false
  ∧ T4.sec.length = 2 ∧ T4.pen.length = 2 ∧ T4.left = 1 ∧ T4.stop = false ∧ T5.sec.length = 2 ∧ T5.pen.length = 0 ∧ T5.left = 0 ∧ T5.stop = true ∧ T6.sec.length = 2 ∧ T6.pen.length = 0 ∧ T6.left = -1 ∧ T6.stop = false := by decide +kernel

theorem tw_zero : (T1.write 0 (List.replicate 129 0)).1 = Dk.zero := by
  unfold Dk.write
  rw [if_pos (by decide +kernel), if_pos (by decide +kernel)]
theorem full4 : T4.full := by unfold Dk.full; decide +kernel
theorem full6 : T6.full := by unfold Dk.full; decide +kernel

/-- A byte of a slice. -/
theorem BytesAt.cell {w : World} {B : Nat} {v : Value} {bs : By} (h : BytesAt w B v bs) {n : Nat} (hn : bs.length = n) (h0 : 0 < n) : ∃ b off c, v = .slice (some ⟨b, off, none⟩) n c ∧ b < B ∧ n ≤ c ∧ c ≤ maxLen ∧ ∀ i x, bs[i]? = some x → w.cell? ⟨b, off + i, none⟩ = some (.int .u8 x.toNat) := by
  obtain ⟨a, c, rfl, h1, h2, h4⟩ := h
  rcases h4 with h4 | ⟨db, off, rfl, h5, h6⟩
  · subst h4; simp at hn; omega
  · subst hn
    refine ⟨db, off, c, rfl, h5, h1, h2, fun i x hx => ?_⟩
    obtain ⟨hi, rfl⟩ := List.getElem?_eq_some_iff.1 hx
    exact h6 i hi
end Go.Proofs.Ytmklchjgiaomkaa
