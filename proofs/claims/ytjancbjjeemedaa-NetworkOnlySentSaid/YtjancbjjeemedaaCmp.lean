/- Pairs in order. -/
import Derived.Test.YtjancbjjeemedaaLnk
import Derived.StillTailTactics
import Derived.ChangeKeysEq
namespace Go.Proofs.Ytjancbjjeemedaa
open Go.RowKit

theorem wpList_world {P : Program} {ops : Array Oper} {rest : List Oper} {a : Act} {w : World} {Q : Exit → Act → World → Prop} (X : World → Prop) (hX : X w) (h : ∀ W, X W → wpList P ops Q rest a W) : wpList P ops Q rest a w := h w hX
set_option maxRecDepth 100000 in
set_option maxHeartbeats 1000000 in
theorem comp_any (w : World) (x y : Int × Int) : Calls Try.prog 39 #[.agg #[.int .i64 x.1, .int .i64 x.2], .agg #[.int .i64 y.1, .int .i64 y.2]] w fun e w' => e = .returned (.int .i64 (cmp2 x y)) ∧ Below w.heap.size w w' := by
  have hsc := fun W b c h0 h1 k0 k1 => scmp_any W x y b c h0 h1 k0 k1
  obtain ⟨r, hr⟩ : ∃ r, cmp2 x y = r := ⟨_, rfl⟩
  rw [hr] at hsc ⊢
  obtain ⟨x0, x1⟩ := x
  obtain ⟨y0, y1⟩ := y
  dsimp only at hsc ⊢
  have HS := Lib.hid hsc
  clear hsc hr
  go_enter Try.func39, Try.ntmps39
  go_wp2
  go_still_tail 2, (by kernel_rfl)
  refine wpList_world (fun W => Below w.heap.size w W ∧ W.cell? ⟨w.heap.size, 0, none⟩ = some (.int .i64 x0) ∧ W.cell? ⟨w.heap.size, 1, none⟩ = some (.int .i64 x1) ∧ W.cell? ⟨w.heap.size + 1, 0, none⟩ = some (.int .i64 y0) ∧ W.cell? ⟨w.heap.size + 1, 1, none⟩ = some (.int .i64 y1)) ⟨?_, ?_, ?_, ?_, ?_⟩ fun W ⟨hB, c0, c1, d0, d1⟩ => ?_
  · exact (((Below.refl w.heap.size w).alloc (Nat.le_refl _) _).alloc (by simp) _).drew
  · exact (show ((w.alloc _).alloc _).cell? _ = _ by go_cell)
  · exact (show ((w.alloc _).alloc _).cell? _ = _ by go_cell)
  · exact (show ((w.alloc _).alloc _).cell? _ = _ by go_cell)
  · exact (show ((w.alloc _).alloc _).cell? _ = _ by go_cell)
  have HB := Lib.hid hB
  clear hB
  go_wp2_with fail
  refine (HS.out W _ _ c0 c1 d0 d1).mono ?_
  rintro e w' ⟨rfl, rfl⟩
  go_wp2
  go_ret
  exact ⟨rfl, HB.out⟩

theorem Try.info3' : (Try.prog.info? 3).map (fun i => (i.zero, i.size, i.bytes)) = some (some (.int .i64 0), 1, 8) := by kernel_rfl
theorem Try.cellsOf3 : Try.prog.cellsOf 3 = 1 := by kernel_rfl
theorem eq_int (n : Nat) (a b : Int) (W : World) : (Op.equalIn (n + 1) 3 (.int .i64 a) (.int .i64 b)).run Try.prog W = .ok (a == b) W := by
  simp [Op.equalIn, run_underlying Try.underlying3]
/-- Pairs of numbers are compared as arrays. -/
theorem pair_eq (a b c d : Int) (W : World) : (Op.equalIn 10000 55 (.agg #[.int .i64 a, .int .i64 b]) (.agg #[.int .i64 c, .int .i64 d])).run Try.prog W = .ok (decide (a = c) && decide (b = d)) W := by
  obtain ⟨i0, hi, _, _, _⟩ := info_parts Try.info3'
  rw [run_equalIn_array W 9999 _ _ Try.underlying55 hi, Try.cellsOf3]
  have e1 := fun n W => eq_int n a c W
  have e2 := fun n W => eq_int n b d W
  have hr : List.range 2 = [0, 1] := rfl
  rw [hr]
  simp [Op.eqItems, part, e1, e2]
  by_cases h1 : a = c <;> by_cases h2 : b = d <;> simp [h1, h2]
end Go.Proofs.Ytjancbjjeemedaa
