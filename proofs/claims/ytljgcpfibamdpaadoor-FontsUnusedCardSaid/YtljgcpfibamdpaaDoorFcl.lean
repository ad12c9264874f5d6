/- Fonts: the width of one code point and of two, as texts of their own; two texts together. -/
import Derived.Test.YtljgcpfibamdpaaDoorFof
namespace Go.Proofs.YtljgcpfibamdpaaDoor
open Go.RowKit

/-- The width of a pair. -/
def pairW (f : Fo) (x y : Int) : Int := oneW f x + oneW f y - nearW f x y
theorem wdt_one (f : Fo) (x : Int) : wdt f [x] 1 = oneW f x := by
  have : wdt f [x] 1 = 0 + oneW f x - 0 := rfl
  rw [this]; omega
theorem wdt_two (f : Fo) (x y : Int) : wdt f [x, y] 2 = pairW f x y := by
  have : wdt f [x, y] 2 = (0 + oneW f x - 0) + oneW f y - nearW f x y := rfl
  rw [this]; unfold pairW; omega
theorem irow_new1 (W : World) (x : Int) : IRow (W.alloc (.cells #[.int .i64 x] 3)) (W.alloc (.cells #[.int .i64 x] 3)).heap.size (.slice (some ⟨W.heap.size, 0, none⟩) 1 1) [x] := by
  refine ⟨_, 1, rfl, by simp, by unfold maxLen; omega, .inr ⟨W.heap.size, 0, rfl, by simp, fun j hj => ?_⟩⟩
  have : j = 0 := by simpa using hj
  subst this
  simp
theorem irow_new2 (W : World) (x y : Int) : IRow (W.alloc (.cells #[.int .i64 x, .int .i64 y] 3)) (W.alloc (.cells #[.int .i64 x, .int .i64 y] 3)).heap.size (.slice (some ⟨W.heap.size, 0, none⟩) 2 2) [x, y] := by
  refine ⟨_, 2, rfl, by simp, by unfold maxLen; omega, .inr ⟨W.heap.size, 0, rfl, by simp, fun j hj => ?_⟩⟩
  have hj2 : j = 0 ∨ j = 1 := by simp at hj; omega
  rcases hj2 with rfl | rfl
  · simp
  · simp
theorem wp_buildSlice_run {P : Program} {o : Oper} {a : Act} {w w' : World} {K : Act → World → Prop} {Q : Exit → Act → World → Prop} (t : TypeId) (len : Nat) (parts : List (Nat × Operand))
    (ho : o.op = .buildSlice t len parts.toArray) (vals : List (Nat × Value)) (v : Value) (hv : parts.map (fun p => (p.1, a.eval p.2)) = vals)
    (hrun : (Instr.buildSlice t len vals.toArray).run P w = .ok v w') (h : K (a.put o.dst v) w') : o.wp P a w K Q := by
  subst hv
  rw [← List.map_toArray] at hrun
  unfold Oper.wp execOp
  simp only [ho, Sem.run_bind, hrun, Result.andThen_ok]
  exact h
theorem bs1_26 (W : World) (x : Int) : (Instr.buildSlice 26 1 #[(0, .int .i64 x)]).run Tryd.prog W = .ok (.slice (some ⟨W.heap.size, 0, none⟩) 1 1) (W.alloc (.cells #[.int .i64 x] 3)) := by kernel_rfl
theorem bs2_26 (W : World) (x y : Int) : (Instr.buildSlice 26 2 #[(0, .int .i64 x), (1, .int .i64 y)]).run Tryd.prog W = .ok (.slice (some ⟨W.heap.size, 0, none⟩) 2 2) (W.alloc (.cells #[.int .i64 x, .int .i64 y] 3)) := by kernel_rfl
theorem encs_le (l : List Int) : (encs l).length ≤ 4 * l.length := (encs_len l).2
theorem of1_any (w : World) (v : Value) (f : Fo) (h : FAt w w.heap.size v f) (h0 : f.err = 0) (x : Int) (hx : okPt x = true) (hT : UTab w) (W : World) (hW : Below w.heap.size w W) :
    Calls Tryd.prog 22 #[v, .slice (some ⟨W.heap.size, 0, none⟩) 1 1] (W.alloc (.cells #[.int .i64 x] 3)) fun e w' => e = .returned (.tuple #[.int .i64 (oneW f x), .bool true]) ∧ Below (W.alloc (.cells #[.int .i64 x] 3)).heap.size (W.alloc (.cells #[.int .i64 x] 3)) w' := by
  have hB : Below w.heap.size w (W.alloc (.cells #[.int .i64 x] 3)) := hW.alloc hW.size _
  have := of_any _ v _ f [x] (h.from hB hB.size) (irow_new1 W x) h0 (by simp [hx]) (by have := encs_le [x]; simp at this; omega) (hT.below hB)
  rw [show ([x] : List Int).length = 1 from rfl, wdt_one] at this
  exact this
theorem of2_any (w : World) (v : Value) (f : Fo) (h : FAt w w.heap.size v f) (h0 : f.err = 0) (x y : Int) (hx : okPt x = true) (hy : okPt y = true) (hT : UTab w) (W : World) (hW : Below w.heap.size w W) :
    Calls Tryd.prog 22 #[v, .slice (some ⟨W.heap.size, 0, none⟩) 2 2] (W.alloc (.cells #[.int .i64 x, .int .i64 y] 3)) fun e w' => e = .returned (.tuple #[.int .i64 (pairW f x y), .bool true]) ∧ Below (W.alloc (.cells #[.int .i64 x, .int .i64 y] 3)).heap.size (W.alloc (.cells #[.int .i64 x, .int .i64 y] 3)) w' := by
  have hB : Below w.heap.size w (W.alloc (.cells #[.int .i64 x, .int .i64 y] 3)) := hW.alloc hW.size _
  have := of_any _ v _ f [x, y] (h.from hB hB.size) (irow_new2 W x y) h0 (by simp [hx, hy]) (by have := encs_le [x, y]; simp at this; omega) (hT.below hB)
  rw [show ([x, y] : List Int).length = 2 from rfl, wdt_two] at this
  exact this
theorem of1_drew (w : World) (v : Value) (f : Fo) (h : FAt w w.heap.size v f) (h0 : f.err = 0) (x : Int) (hx : okPt x = true) (hT : UTab w) (W : World) (hW : Below w.heap.size w W) :
    Calls Tryd.prog 22 #[v, .slice (some ⟨W.heap.size, 0, none⟩) 1 1] (W.alloc (.cells #[.int .i64 x] 3)).drew fun e w' => e = .returned (.tuple #[.int .i64 (oneW f x), .bool true]) ∧ Below (W.alloc (.cells #[.int .i64 x] 3)).drew.heap.size (W.alloc (.cells #[.int .i64 x] 3)).drew w' :=
  of1_any w v f h h0 x hx hT W.drew hW.drew
theorem of2_drew (w : World) (v : Value) (f : Fo) (h : FAt w w.heap.size v f) (h0 : f.err = 0) (x y : Int) (hx : okPt x = true) (hy : okPt y = true) (hT : UTab w) (W : World) (hW : Below w.heap.size w W) :
    Calls Tryd.prog 22 #[v, .slice (some ⟨W.heap.size, 0, none⟩) 2 2] (W.alloc (.cells #[.int .i64 x, .int .i64 y] 3)).drew fun e w' => e = .returned (.tuple #[.int .i64 (pairW f x y), .bool true]) ∧ Below (W.alloc (.cells #[.int .i64 x, .int .i64 y] 3)).drew.heap.size (W.alloc (.cells #[.int .i64 x, .int .i64 y] 3)).drew w' :=
  of2_any w v f h h0 x y hx hy hT W.drew hW.drew
theorem wdt_app (f : Fo) (a b : List Int) : ∀ k, k ≤ b.length → wdt f (a ++ b) (a.length + k) = wdt f a a.length + wdt f b k - (if 0 < k ∧ 0 < a.length then nearW f (a.getD (a.length - 1) 0) (b.getD 0 0) else 0)
  | 0, _ => by
    rw [Nat.add_zero, if_neg (by omega), show wdt f b 0 = 0 from rfl, wdt_ext (l := a ++ b) (m := a) (fun i hi => by simp [List.getD, List.getElem?_append_left hi])]
    omega
  | k + 1, h => by
    have ih := wdt_app f a b k (by omega)
    have e0 : (a ++ b).getD (a.length + k) 0 = b.getD k 0 := by simp only [List.getD]; rw [List.getElem?_append_right (by omega), Nat.add_sub_cancel_left]
    have e1 : wdt f (a ++ b) (a.length + (k + 1)) = wdt f (a ++ b) (a.length + k) + oneW f ((a ++ b).getD (a.length + k) 0) - (if 0 < a.length + k then nearW f ((a ++ b).getD (a.length + k - 1) 0) ((a ++ b).getD (a.length + k) 0) else 0) := rfl
    have e2 : wdt f b (k + 1) = wdt f b k + oneW f (b.getD k 0) - (if 0 < k then nearW f (b.getD (k - 1) 0) (b.getD k 0) else 0) := rfl
    rw [e1, e2, ih, e0]
    by_cases hk : 0 < k
    · have e3 : (a ++ b).getD (a.length + k - 1) 0 = b.getD (k - 1) 0 := by
        rw [show a.length + k - 1 = a.length + (k - 1) by omega]
        simp only [List.getD]; rw [List.getElem?_append_right (by omega), Nat.add_sub_cancel_left]
      rw [e3, if_pos (by omega : 0 < a.length + k), if_pos hk]
      by_cases ha : 0 < a.length
      · rw [if_pos ⟨hk, ha⟩, if_pos ⟨by omega, ha⟩]; omega
      · rw [if_neg (fun h => ha h.2), if_neg (fun h => ha h.2)]; omega
    · have hk0 : k = 0 := by omega
      subst hk0
      rw [if_neg (by omega : ¬ ((0 < 0) ∧ 0 < a.length)), if_neg (by omega : ¬ 0 < 0)]
      by_cases ha : 0 < a.length
      · have e3 : (a ++ b).getD (a.length + 0 - 1) 0 = a.getD (a.length - 1) 0 := by
          simp only [Nat.add_zero, List.getD]
          rw [List.getElem?_append_left (by omega)]
        rw [e3, if_pos (by omega : 0 < a.length + 0), if_pos ⟨by omega, ha⟩]; omega
      · rw [if_neg (by omega : ¬ 0 < a.length + 0), if_neg (fun h => ha h.2)]; omega
end Go.Proofs.YtljgcpfibamdpaaDoor
