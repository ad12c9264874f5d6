/- What every law's frame shares: the laid variables, a world for the witness, rows of numbers and bytes that come in. -/
import Derived.Test.YtilkhamlhbbmgaaDoorSne
import Derived.Test.YtilkhamlhbbmgaaDoorCards
import Derived.Test.YtilkhamlhbbmgaaDoorTie
import Derived.OpenShut
import Derived.Deep.DeepHandedRow
import Derived.Lib.LaidTab
import Derived.Lib.LaidU8
import Derived.PinnedBridge
import Derived.MakeChecks
import Derived.SizedLaws
namespace Go.Proofs.YtilkhamlhbbmgaaDoor
open Go.RowKit Go.ChangeShapes Go.WideShapes Go.ChangeAt Go.Lib

theorem Fr.own : ownKnob Tryd.prog.godebug = none := by kernel_rfl
theorem Fr.laidOut : laidOutB Tryd.prog = true := by kernel_rfl
theorem Fr.x : U8Extra Tryd.prog Tryd.lays260_ren := ⟨by kernel_rfl, by kernel_rfl, by kernel_rfl, by kernel_rfl, by kernel_rfl, by kernel_rfl, by kernel_rfl⟩
theorem Fr.acc : (Rows.laid_unicode_utf8_acceptRanges : DataW Unit) = acceptData := by kernel_rfl
theorem Fr.fst : Rows.laid_unicode_utf8_first = firstData := by unfold Rows.laid_unicode_utf8_first; exact Pinned.utf8First_eq
theorem Fr.c3 : Tryd.prog.cellsOf 3 = 1 := by kernel_rfl
theorem Fr.c5 : Tryd.prog.cellsOf 5 = 1 := by kernel_rfl
theorem utab_of {W : World} {l : List (String × DataW Unit)} (h : laidMet Tryd.prog l W) (h1 : ("unicode/utf8.first", firstData) ∈ l) (h2 : ("unicode/utf8.acceptRanges", acceptData) ∈ l) (hz : 2 < W.heap.size) : UTab W :=
  ⟨utf8Tabs_of_reads Tryd.lays260 Fr.x (laidMet.reads h h1) (laidMet.reads h h2), hz⟩
theorem size_of_tabs {W : World} (h : Lib.Utf8Tabs 1 2 W) : 2 < W.heap.size := World.block_lt_of_cell? W _ (h.2 0 (by omega)).1
theorem Fr.utab {W : World} (h : laidMetH Tryd.prog Rows.textSpecRow.laid W) : UTab W := by
  rw [Go.MakeChecks.laidMetH_plain _ _ _ (by kernel_rfl)] at h
  have h1 := laidMet.reads h (n := "unicode/utf8.first") (d := firstData) (by rw [← Fr.fst]; simp [Rows.textSpecRow])
  have h2 := laidMet.reads h (n := "unicode/utf8.acceptRanges") (d := acceptData) (by rw [← Fr.acc]; simp [Rows.textSpecRow])
  have hu := utf8Tabs_of_reads Tryd.lays260 Fr.x h1 h2
  exact ⟨hu, size_of_tabs hu⟩
section
variable {H : Type} {enc : TypeId × Value → H} {w : World} {base : Nat} {spare : Nat → Bool} {held : Bool}
theorem open_ir {v : Value} {d : DataW H} {ps : List MemPlace} {r : Reach} {b0 : Nat} (hv : Value.okWide Tryd.prog w r b0 22 v) (h : DataW.Trod enc Tryd.prog w base spare held 22 v d ps) : ∃ l : List Int, IRow w w.heap.size v l := by
  obtain ⟨a0, len, cap, rfl⟩ := okWide_slice Tryd.underlying22 hv
  obtain ⟨fuel, hf⟩ := h
  rcases open_ints Tryd.underlying22 Tryd.underlying3 Fr.c3 hf with ⟨hcs, _⟩ | ⟨a, len, cap, zs, hcs, _, hl, hm, hz, _, hcell, _⟩
  · simp only [Value.cells, List.cons.injEq, and_true] at hcs
    rw [hcs]
    exact ⟨[], IRow.nil w _⟩
  · simp only [Value.cells, List.cons.injEq, and_true] at hcs
    rw [hcs]
    have hle : len ≤ zs.length := by rw [hz]; split <;> omega
    by_cases h0 : len = 0
    · subst h0
      exact ⟨[], some a, cap, rfl, by simp, hm, .inl rfl⟩
    · obtain ⟨b, off, spot⟩ := a
      have hspot : spot = none := by simpa [Addr.add] using World.cell?_spot (hcell 0 (by omega))
      subst hspot
      have hbl : b < w.heap.size := World.block_lt_of_cell? w _ (hcell 0 (by omega))
      have hlen : (zs.take len).length = len := by rw [List.length_take]; omega
      refine ⟨zs.take len, some ⟨b, off, none⟩, cap, by rw [hlen], by rw [hlen]; exact hl, hm, .inr ⟨b, off, rfl, hbl, fun i hi => ?_⟩⟩
      rw [hlen] at hi
      have hci := hcell i (by omega)
      rw [Addr.add_mid] at hci
      rw [hci, List.getElem_take]
      simp [List.getD, List.getElem?_eq_getElem (show i < zs.length by omega)]
end
def Fr.cellsOf (k : IntKind) (l : List Int) : Array Value := (l.map fun z => Value.int k z).toArray
def Fr.put (cs : Array Value) : Obj → Obj
  | .cells _ t frozen => .cells cs t frozen
  | o => o
def Fr.tabK : List Int := [-1, -1, 0, 0, 1, -1, -1, 2, 2, 1]
def Fr.tabF : List Int := Go.Pinned.utf8FirstZ.map Int.ofNat
def Fr.tabA : List Int := (List.range 16).flatMap fun i => [(accLo i : Int), (accHi i : Int)]
/-- A world for the witness: the settled one, the variables holding what their initialisers lay. -/
noncomputable def laidWorld (os : Os) : World :=
  let w0 := World.holding Tryd.prog os ⟨#[], #[], []⟩
  { w0 with heap := ((w0.heap.modify 0 (Fr.put (Fr.cellsOf .i64 Fr.tabK))).modify 1 (Fr.put (Fr.cellsOf .u8 Fr.tabF))).modify 2 (Fr.put (Fr.cellsOf .u8 Fr.tabA)) }
end Go.Proofs.YtilkhamlhbbmgaaDoor
