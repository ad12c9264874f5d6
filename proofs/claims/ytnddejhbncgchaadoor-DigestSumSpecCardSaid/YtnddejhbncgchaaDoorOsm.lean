/- Reading the arguments of DigestSumSpec. -/
import Derived.Test.YtnddejhbncgchaaDoorLsm
import Derived.Test.YtnddejhbncgchaaDoorFrm
namespace Go.Proofs.YtnddejhbncgchaaDoor
open Go.RowKit Go.ChangeShapes Go.WideShapes Go.ChangeAt
variable {H : Type} {enc : TypeId × Value → H} {w : World} {base : Nat} {held : Bool}
/-- An argument of bytes whose spare room is read too. -/
theorem open_row2 {v : Value} {d : DataW H} {ps : List MemPlace} {r : Reach} {b0 : Nat} (hv : Value.okWide Tryd.prog w r b0 22 v) (h : DataW.Trod enc Tryd.prog w base (fun _ => true) held 22 v d ps) : ∃ bs : List UInt8, Row2 w w.heap.size v bs := by
  obtain ⟨bs, a, cap, rfl, h1, h2, h3⟩ := open_bytes hv h
  obtain ⟨fuel, hf⟩ := h
  rcases open_ints Tryd.underlying22 Tryd.underlying5 Tryd.cellsOf5 hf with ⟨hcs, _⟩ | ⟨a', len', cap', zs, hcs, _, hl, hm, hz, _, hcell, hwz⟩
  · simp [Value.cells] at hcs
    obtain ⟨rfl, h4, rfl⟩ := hcs
    exact ⟨bs, .inl ⟨none, by rw [h4]; rfl, h4⟩⟩
  · simp [Value.cells] at hcs
    obtain ⟨rfl, _, rfl⟩ := hcs
    simp only [if_true] at hz
    by_cases hc0 : cap = 0
    · subst hc0
      have h4 : bs = [] := List.eq_nil_of_length_eq_zero (by omega)
      exact ⟨bs, .inl ⟨some a', by rw [h4]; rfl, h4⟩⟩
    · obtain ⟨b, off, spot⟩ := a'
      have hspot : spot = none := by simpa [Addr.add] using World.cell?_spot (hcell 0 (by omega))
      subst hspot
      have hbl : b < w.heap.size := World.block_lt_of_cell? w _ (hcell 0 (by omega))
      refine ⟨bs, .inr ⟨b, off, cap, rfl, h1, h2, hbl, ?_⟩⟩
      rcases h3 with h4 | ⟨db, off', h5, _, h6⟩
      · subst h4; exact fun i hi => absurd hi (by simp)
      · injection h5 with h5; injection h5 with h5 h7 _; subst h5; subst h7; exact h6
theorem lawSumI (w : World) (v : Value) (b : List UInt8) (hv : Row2 w w.heap.size v b) (s : ByteArray) (n : Int) (hs : s.size ≤ maxLen) (hw : (Lit.int .u8 n).wf = true) (hT : Tab w) (h0 : 0 < w.heap.size) :
    Calls Tryd.prog 3 #[v, .string s, .int .u8 n] w fun e w' => e = .returned (.bool true) ∧ Below w.heap.size w w' := by
  have e1 : IntKind.u8.min = 0 := rfl
  have e2 : IntKind.u8.max = 255 := rfl
  have hbd : 0 ≤ n ∧ n ≤ 255 := by simpa [Lit.wf, e1, e2] using hw
  obtain ⟨m, rfl⟩ : ∃ m : Nat, n = m := ⟨n.toNat, by omega⟩
  exact lawSum w v b s m (by omega) hv hs hT h0
end Go.Proofs.YtnddejhbncgchaaDoor
