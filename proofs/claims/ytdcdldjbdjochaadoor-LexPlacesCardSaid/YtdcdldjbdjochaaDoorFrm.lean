/- What every law's frame shares: the laid variables, a world for the witness. -/
import Derived.Test.YtdcdldjbdjochaaDoorSne
import Derived.Test.YtdcdldjbdjochaaDoorCards
import Derived.Test.YtdcdldjbdjochaaDoorTie
import Derived.OpenShut
import Derived.Deep.DeepHandedRow
import Derived.Lib.LaidTab
import Derived.Stop.LaidErr
import Derived.MakeChecks
namespace Go.Proofs.YtdcdldjbdjochaaDoor
open Go.RowKit Go.ChangeShapes Go.WideShapes Go.ChangeAt

theorem Fr.own : ownKnob Tryd.prog.godebug = none := by kernel_rfl
theorem Fr.laidOut : laidOutB Tryd.prog = true := by kernel_rfl
theorem Fr.g0 : Tryd.prog.globalNamed "hansard/lex.classes" = some 0 := by kernel_rfl
theorem Fr.g2 : Tryd.prog.globalNamed "internal/strconv.uint64pow10" = some 2 := by kernel_rfl
theorem Fr.g4 : Tryd.prog.globalNamed "strconv.ErrRange" = some 4 := by kernel_rfl
theorem Fr.g5 : Tryd.prog.globalNamed "math/bits.deBruijn32tab" = some 5 := by kernel_rfl
theorem Fr.t0 : (Tryd.prog.globals[0]?).map (·.type) = some 72 := by kernel_rfl
theorem Fr.t2 : (Tryd.prog.globals[2]?).map (·.type) = some 99 := by kernel_rfl
theorem Fr.t4 : (Tryd.prog.globals[4]?).map (·.type) = some 68 := by kernel_rfl
theorem Fr.t5 : (Tryd.prog.globals[5]?).map (·.type) = some 116 := by kernel_rfl
theorem Fr.c72 : Tryd.prog.cellsOf 72 = 128 := by kernel_rfl
theorem Fr.c99 : Tryd.prog.cellsOf 99 = 20 := by kernel_rfl
theorem Fr.c116 : Tryd.prog.cellsOf 116 = 32 := by kernel_rfl
theorem Fr.c115 : Tryd.prog.cellsOf 115 = 1 := by kernel_rfl
theorem Fr.c9 : Tryd.prog.cellsOf 9 = 1 := by kernel_rfl
theorem Fr.star : "*" ++ "errors.errorString" = "*errors.errorString" := by decide
theorem Fr.row113 (u : TypeId) (h : Tryd.prog.typeName? 3 u = some "*errors.errorString") : u = 113 :=
  typeName_ptr_named (nm := "errors.errorString") (by rw [Fr.star]; kernel_rfl) (by kernel_rfl) (by decide) u (by rw [Fr.star]; exact h)
def clsTab : List Int := (List.range 128).map fun i => (cls i : Int)
theorem Fr.d0 {H : Type} : (Rows.laid_hansard_lex_classes : DataW H) = Lib.tabData .u8 clsTab := by kernel_rfl
theorem Fr.d2 {H : Type} : (Rows.laid_internal_strconv_uint64pow10 : DataW H) = Lib.tabData .u64 Lib.pow10Tab := by kernel_rfl
def db32 : List Int := [0, 1, 28, 2, 29, 14, 24, 3, 30, 22, 20, 15, 25, 17, 4, 8, 31, 27, 13, 23, 21, 19, 16, 7, 26, 12, 18, 6, 11, 5, 10, 9]
theorem Fr.d5 {H : Type} : (Rows.laid_math_bits_deBruijn32tab : DataW H) = Lib.tabData .u8 db32 := by kernel_rfl
/-- What the rows' list gives. -/
theorem Fr.tab {W : World} (h : laidMetH Tryd.prog [("math/bits.deBruijn32tab", Rows.laid_math_bits_deBruijn32tab), ("math/bits.deBruijn64tab", Rows.laid_math_bits_deBruijn64tab), ("internal/strconv.uint64pow10", Rows.laid_internal_strconv_uint64pow10), ("strconv.ErrRange", Rows.laid_strconv_ErrRange), ("strconv.ErrSyntax", Rows.laid_strconv_ErrSyntax), ("hansard/lex.classes", Rows.laid_hansard_lex_classes)] W) : Tab W := by
  rw [Go.MakeChecks.laidMetH_plain _ _ _ (by kernel_rfl)] at h
  have h5 := h
  have h2 := h.tail.tail
  have h4 := h.tail.tail.tail
  have h0 := h.tail.tail.tail.tail.tail
  rw [Fr.d5] at h5
  rw [Fr.d2] at h2
  rw [Fr.d0] at h0
  have t5 : Lib.TabIs Tryd.prog W "math/bits.deBruijn32tab" .u8 db32 := Lib.tabIs_of_head Fr.g5 Fr.t5 Tryd.underlying116 Tryd.underlying5 (by kernel_rfl) Fr.c116 h5
  have t2 : Lib.TabIs Tryd.prog W "internal/strconv.uint64pow10" .u64 Lib.pow10Tab := Lib.tabIs_of_head Fr.g2 Fr.t2 Tryd.underlying99 Tryd.underlying86 (by kernel_rfl) Fr.c99 h2
  have t0 : Lib.TabIs Tryd.prog W "hansard/lex.classes" .u8 clsTab := Lib.tabIs_of_head Fr.g0 Fr.t0 Tryd.underlying72 Tryd.underlying52 (by kernel_rfl) Fr.c72 h0
  obtain ⟨a0, s0, hv, -, -, -⟩ := laid_sentinel h4 Fr.g4 Fr.t4 Tryd.underlying68 Fr.row113 Tryd.underlying113 Tryd.underlying115 rfl rfl Tryd.underlying9 Fr.c115 Fr.c9
  refine ⟨fun i hi => ?_, ⟨113, .pointer (some a0), by have h0 := World.var?_cell Fr.g4 hv 0; simpa using h0⟩, t2, World.block_lt_of_cell? W _ (t5.cell Fr.g5 0 (by decide))⟩
  have hl : clsTab.length = 128 := by simp [clsTab]
  have := t0.cell Fr.g0 i (by rw [hl]; exact hi)
  rw [this]
  have e : clsTab.getD i 0 = (cls i : Int) := by unfold clsTab; simp [List.getD, List.getElem?_map, List.getElem?_range hi]
  rw [e]
abbrev Fr.synS : ByteArray := { data := #[105, 110, 118, 97, 108, 105, 100, 32, 115, 121, 110, 116, 97, 120] }
abbrev Fr.rngS : ByteArray := { data := #[118, 97, 108, 117, 101, 32, 111, 117, 116, 32, 111, 102, 32, 114, 97, 110, 103, 101] }
/-- So many blocks has the settled world. -/
noncomputable def Fr.low : Nat := (World.holding Tryd.prog default ⟨#[], #[], []⟩).heap.size
def db64 : List Int := [0, 1, 56, 2, 57, 49, 28, 3, 61, 58, 42, 50, 38, 29, 17, 4, 62, 47, 59, 36, 45, 43, 51, 22, 53, 39, 33, 30, 24, 18, 12, 5, 63, 55, 48, 27, 60, 41, 37, 16, 46, 35, 44, 21, 52, 32, 23, 11, 54, 26, 40, 15, 34, 20, 31, 10, 25, 14, 19, 9, 13, 8, 7, 6]
def Fr.cellsOf (k : IntKind) (l : List Int) : Array Value := (l.map fun z => Value.int k z).toArray
def Fr.put (cs : Array Value) : Obj → Obj
  | .cells _ t frozen => .cells cs t frozen
  | o => o
/-- A world for the witness: the settled one, the variables holding what their initialisers lay, two blocks more for the two errors. -/
noncomputable def laidWorld (os : Os) : World :=
  let w0 := World.holding Tryd.prog os ⟨#[.cells #[.string Fr.rngS] 115, .cells #[.string Fr.synS] 115], #[], []⟩
  { w0 with heap := (((((w0.heap.modify 0 (Fr.put (Fr.cellsOf .u8 clsTab))).modify 2 (Fr.put (Fr.cellsOf .u64 Lib.pow10Tab))).modify 3 (Fr.put #[.iface 113 (.pointer (some ⟨Fr.low + 1, 0, none⟩))])).modify 4 (Fr.put #[.iface 113 (.pointer (some ⟨Fr.low, 0, none⟩))])).modify 5 (Fr.put (Fr.cellsOf .u8 db32))).modify 6 (Fr.put (Fr.cellsOf .u8 db64)) }
end Go.Proofs.YtdcdldjbdjochaaDoor
