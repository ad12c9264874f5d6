/- The law DirectionPlain, for every text. -/
import Derived.Test.YtilkhamlhbbmgaaDoorLpw
namespace Go.Proofs.YtilkhamlhbbmgaaDoor
open Go.RowKit

theorem lawPlainS (w : World) (s0 : ByteArray) (x : Bool) (hT : DTab w) : Calls Tryd.prog 15 #[.string s0, .bool x] w fun e w' => e = .returned (.bool true) ∧ Below w.heap.size w w' := by
  obtain ⟨bs, rfl⟩ : ∃ bs, s0 = str bs := ⟨s0.data.toList, (str_of s0).symm⟩
  exact lawPlain w bs x hT
end Go.Proofs.YtilkhamlhbbmgaaDoor
