/- An argument that is a digest. -/
import Derived.Test.YtnddejhbncgchaaDoorFrm
namespace Go.Proofs.YtnddejhbncgchaaDoor
open Go.RowKit Go.ChangeShapes Go.WideShapes Go.ChangeAt

theorem list_of : ∀ L : List Value, (∀ v ∈ L, ∃ c : UInt8, v = .int .u8 c.toNat) → ∃ l, L = cells8 l
  | [], _ => ⟨[], rfl⟩
  | v :: L, h => by
    obtain ⟨c, rfl⟩ := h v (by simp)
    obtain ⟨l, rfl⟩ := list_of L fun x hx => h x (List.mem_cons_of_mem _ hx)
    exact ⟨c :: l, rfl⟩
section
variable {H : Type} {enc : TypeId × Value → H} {w : World} {base : Nat} {spare : Nat → Bool} {held : Bool}
theorem open_dig {v : Value} {d : DataW H} {ps : List MemPlace} {r : Reach} {b0 : Nat} (hv : Value.okWide Tryd.prog w r b0 26 v) (h : DataW.Trod enc Tryd.prog w base spare held 26 v d ps) : ∃ l : List UInt8, v = dv l ∧ l.length = 32 := by
  simp only [Value.okWide, Tryd.underlying26] at hv
  obtain ⟨cs, rfl, hsz, _⟩ := hv
  rw [Tryd.cellsOf26] at hsz
  obtain ⟨fuel, hf⟩ := h
  obtain ⟨xs, m, _, _, hcl, hxl, hx⟩ := DataW.trod_array Tryd.underlying26 hf
  rw [Tryd.cellsOf5] at hx
  have hcell : ∀ v ∈ cs.toList, ∃ c : UInt8, v = .int .u8 c.toNat := fun v hv => by
    obtain ⟨i, hi, rfl⟩ := List.getElem_of_mem hv
    have hi32 : i < 32 := by simpa [hsz] using hi
    have hxi := hx i hi32
    obtain ⟨y, hy⟩ : ∃ y, xs[i]? = some y := ⟨_, List.getElem?_eq_getElem (by omega)⟩
    rw [hy, Nat.mul_one] at hxi
    obtain ⟨n, hn, _, hw⟩ := DataW.trod_int Tryd.underlying5 hxi
    have h1 : cs.toList[i]? = some (.int .u8 n) := by
      have := congrArg (·[0]?) hn
      simpa [Value.cells, List.getElem?_take, List.getElem?_drop] using this
    rw [List.getElem?_eq_getElem hi] at h1
    have e1 : IntKind.u8.min = 0 := rfl
    have e2 : IntKind.u8.max = 255 := rfl
    have hb : 0 ≤ n ∧ n ≤ 255 := by simpa [Lit.wf, e1, e2] using hw
    refine ⟨UInt8.ofNat n.toNat, ?_⟩
    rw [Option.some.inj h1]
    have : ((UInt8.ofNat n.toNat).toNat : Int) = n := by simp; omega
    rw [this]
  obtain ⟨l, hl⟩ := list_of _ hcell
  refine ⟨l, ?_, ?_⟩
  · rw [dv, ← hl, Array.toArray_toList]
  · have := congrArg List.length hl
    rw [cells8_len] at this
    simpa [hsz] using this.symm
end
end Go.Proofs.YtnddejhbncgchaaDoor
