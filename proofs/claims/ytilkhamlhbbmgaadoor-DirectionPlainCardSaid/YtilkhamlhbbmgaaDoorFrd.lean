/- What the laws of stage 10 share: the tables. -/
import Derived.Test.YtilkhamlhbbmgaaDoorFrm
import Derived.Test.YtilkhamlhbbmgaaDoorLvo
namespace Go.Proofs.YtilkhamlhbbmgaaDoor
open Go.RowKit Go.ChangeShapes Go.WideShapes Go.ChangeAt Go.Lib

theorem Fr.c88 : Tryd.prog.cellsOf 88 = 5 := by kernel_rfl
theorem Fr.u89 : Tryd.prog.underlying 89 = some (.array 2 88) := by kernel_rfl
theorem Fr.u88 : Tryd.prog.underlying 88 = some (.array 5 3) := by kernel_rfl
theorem Fr.levels {W : World} (h3 : VarReads Tryd.prog W "hansard/direction.kindLevels" Rows.laid_hansard_direction_kindLevels) : ∀ j, j < 10 → W.cell? ⟨0, j, none⟩ = some (.int .i64 (tabD.getD j 0)) := by
  obtain ⟨g, t, cs, fuel, p, hg, hty, hvar, hd⟩ := h3
  obtain rfl := Option.some.inj ((show Tryd.prog.globalNamed "hansard/direction.kindLevels" = some 0 by kernel_rfl).symm.trans hg)
  obtain rfl := Option.some.inj ((show (Tryd.prog.globals[0]?).map (·.type) = some 89 by kernel_rfl).symm.trans hty)
  have row : ∀ (i : Nat) (zs : List Int), i < 2 → zs = (tabD.drop (5 * i)).take 5 → (cs.toList.drop (5 * i)).take 5 = zs.map (Value.int .i64) := by
    intro i zs hi hz
    obtain ⟨fuel', d, q, hdi, he⟩ := array_elem Fr.u89 hd i hi
    rw [Fr.c88] at he
    have hdd : d = tabData .i64 zs := by
      rcases (by omega : i = 0 ∨ i = 1) with rfl | rfl
      · simp at hdi; rw [← hdi, hz]; rfl
      · simp at hdi; rw [← hdi, hz]; rfl
    rw [hdd] at he
    have := cells_of_tab Fr.u88 Tryd.underlying3 Fr.c3 Fr.c88 he
    rw [Nat.mul_comm]; exact this
  intro j hj
  rw [World.var?_cell hg hvar j, ← Array.getElem?_toList]
  rcases (by omega : j < 5 ∨ (5 ≤ j ∧ j < 10)) with h | h
  · have := congrArg (·[j]?) (row 0 _ (by omega) rfl)
    simp only [List.getElem?_take_of_lt h, Nat.mul_zero, List.drop_zero] at this
    rw [this]
    rcases (by omega : j = 0 ∨ j = 1 ∨ j = 2 ∨ j = 3 ∨ j = 4) with rfl | rfl | rfl | rfl | rfl <;> rfl
  · have := congrArg (·[j - 5]?) (row 1 _ (by omega) rfl)
    simp only [List.getElem?_take_of_lt (show j - 5 < 5 by omega), List.getElem?_drop] at this
    rw [show 5 * 1 + (j - 5) = j by omega] at this
    rw [this]
    rcases (by omega : j = 5 ∨ j = 6 ∨ j = 7 ∨ j = 8 ∨ j = 9) with rfl | rfl | rfl | rfl | rfl <;> rfl
theorem Fr.dtab {W : World} (h : laidMetH Tryd.prog Rows.directionSpecRow.laid W) : DTab W := by
  rw [Go.MakeChecks.laidMetH_plain _ _ _ (by kernel_rfl)] at h
  have h1 := laidMet.reads h (n := "unicode/utf8.first") (d := firstData) (by rw [← Fr.fst]; simp [Rows.directionSpecRow])
  have h2 := laidMet.reads h (n := "unicode/utf8.acceptRanges") (d := acceptData) (by rw [← Fr.acc]; simp [Rows.directionSpecRow])
  have h3 := laidMet.reads h (n := "hansard/direction.kindLevels") (d := Rows.laid_hansard_direction_kindLevels) (by simp [Rows.directionSpecRow])
  have hu := utf8Tabs_of_reads Tryd.lays260 Fr.x h1 h2
  exact ⟨⟨hu, size_of_tabs hu⟩, Fr.levels h3⟩
end Go.Proofs.YtilkhamlhbbmgaaDoor
