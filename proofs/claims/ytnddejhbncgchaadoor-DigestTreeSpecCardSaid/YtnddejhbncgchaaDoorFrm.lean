/- What every law's frame shares: the laid variable, the arguments' readings, a world for the witness. -/
import Derived.Test.YtnddejhbncgchaaDoorEqd
import Derived.Test.YtnddejhbncgchaaDoorCards
import Derived.Test.YtnddejhbncgchaaDoorTie
import Derived.OpenShut
import Derived.Deep.DeepHandedRow
import Derived.Lib.LaidTab
namespace Go.Proofs.YtnddejhbncgchaaDoor
open Go.RowKit Go.ChangeShapes Go.WideShapes Go.ChangeAt

theorem Fr.own : ownKnob Tryd.prog.godebug = none := by kernel_rfl
theorem Fr.laidOut : laidOutB Tryd.prog = true := by kernel_rfl
theorem Fr.gTab : Tryd.prog.globalNamed "hansard/digest.roundNumbers" = some 0 := by kernel_rfl
theorem Fr.gTabType : (Tryd.prog.globals[0]?).map (·.type) = some 69 := by kernel_rfl
theorem Fr.cells69 : Tryd.prog.cellsOf 69 = 64 := by kernel_rfl
theorem Fr.zs (i : Nat) (h : i < 64) : ((ks.map fun k => (k.toNat : Int)).getD i 0) = ((ks.getD i 0).toNat : Int) := by
  have hl : ks.length = 64 := by decide
  simp [List.getD, List.getElem?_map, List.getElem?_eq_getElem (show i < ks.length by omega)]
theorem Fr.data {H : Type} : (Rows.laid_hansard_digest_roundNumbers : DataW H) = Lib.tabData .u32 (ks.map fun k => (k.toNat : Int)) := by kernel_rfl
/-- What the row's list gives: the variable's cells hold the numbers K. -/
theorem Fr.tab {W : World} (h : laidMetH Tryd.prog [("hansard/digest.roundNumbers", Rows.laid_hansard_digest_roundNumbers)] W) : Tab W := by
  rw [Fr.data] at h
  have t : Lib.TabIs Tryd.prog W "hansard/digest.roundNumbers" .u32 (ks.map fun k => (k.toNat : Int)) := Lib.tabIs_of_head (rest := []) Fr.gTab Fr.gTabType Tryd.underlying69 Tryd.underlying49 (by kernel_rfl) Fr.cells69 h
  intro i hi
  have hl : ks.length = 64 := by decide
  have := t.cell Fr.gTab i (by rw [List.length_map, hl]; exact hi)
  rw [this, Fr.zs i hi]
theorem Fr.pos {W : World} (h : Tab W) : 0 < W.heap.size := World.block_lt_of_cell? W _ (h 0 (by decide))
/-- A world for the witness: the settled one, the variable (block 0) holding what its initialiser lays. -/
noncomputable def laidWorld (os : Os) : World :=
  { World.holding Tryd.prog os ⟨#[], #[], []⟩ with heap := (World.holding Tryd.prog os ⟨#[], #[], []⟩).heap.modify 0 fun
      | .cells _ t frozen => .cells (ws ks).toArray t frozen
      | o => o }

section
variable {H : Type} {enc : TypeId × Value → H} {w : World} {base : Nat} {spare : Nat → Bool} {held : Bool}
/-- An argument of bytes. -/
theorem open_bytes {v : Value} {d : DataW H} {ps : List MemPlace} {r : Reach} {b0 : Nat} (hv : Value.okWide Tryd.prog w r b0 22 v) (h : DataW.Trod enc Tryd.prog w base spare held 22 v d ps) : ∃ bs : List UInt8, BytesAt w w.heap.size v bs := by
  obtain ⟨a0, len, cap, rfl⟩ := okWide_slice Tryd.underlying22 hv
  obtain ⟨fuel, hf⟩ := h
  rcases open_ints Tryd.underlying22 Tryd.underlying5 Tryd.cellsOf5 hf with ⟨hcs, _⟩ | ⟨a, len', cap', zs, hcs, _, hl, hm, hz, _, hcell, hwz⟩
  · simp [Value.cells] at hcs
    obtain ⟨rfl, rfl, rfl⟩ := hcs
    exact ⟨[], none, 0, rfl, by simp, by unfold maxLen; omega, .inl rfl⟩
  · simp [Value.cells] at hcs
    obtain ⟨rfl, rfl, rfl⟩ := hcs
    have hle : len ≤ zs.length := by rw [hz]; split <;> omega
    by_cases h0 : len = 0
    · subst h0
      exact ⟨[], some a, cap, rfl, by simp, hm, .inl rfl⟩
    · obtain ⟨b, off, spot⟩ := a
      have hspot : spot = none := by simpa [Addr.add] using World.cell?_spot (hcell 0 (by omega))
      subst hspot
      have hbl : b < w.heap.size := World.block_lt_of_cell? w _ (hcell 0 (by omega))
      have hlen : ((zs.take len).map fun z => UInt8.ofNat z.toNat).length = len := by rw [List.length_map, List.length_take]; omega
      refine ⟨(zs.take len).map fun z => UInt8.ofNat z.toNat, some ⟨b, off, none⟩, cap, by rw [hlen], by rw [hlen]; exact hl, hm, .inr ⟨b, off, rfl, hbl, fun i hi => ?_⟩⟩
      rw [hlen] at hi
      have hci := hcell i (by omega)
      have hadd : (⟨b, off, none⟩ : Addr).add i = ⟨b, off + i, none⟩ := by unfold Addr.add; split <;> simp_all
      rw [hadd] at hci
      rw [hci, List.getElem_map, List.getElem_take]
      have hmem : zs[i]'(by omega) ∈ zs := List.getElem_mem _
      have hwf := hwz _ hmem
      have e1 : IntKind.u8.min = 0 := rfl
      have e2 : IntKind.u8.max = 255 := rfl
      have hbd : 0 ≤ zs[i]'(by omega) ∧ zs[i]'(by omega) ≤ 255 := by simpa [Lit.wf, e1, e2] using hwf
      have e3 : zs.getD i 0 = zs[i]'(by omega) := by simp [List.getD, List.getElem?_eq_getElem (show i < zs.length by omega)]
      have e4 : ((UInt8.ofNat (zs[i]'(by omega)).toNat).toNat : Int) = zs[i]'(by omega) := by simp; omega
      rw [e3, e4]
end
end Go.Proofs.YtnddejhbncgchaaDoor
