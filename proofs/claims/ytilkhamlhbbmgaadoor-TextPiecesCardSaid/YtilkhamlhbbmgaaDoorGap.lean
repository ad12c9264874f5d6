/- The law TextPieces, walked. -/
import Derived.Test.YtilkhamlhbbmgaaDoorPcs
namespace Go.Proofs.YtilkhamlhbbmgaaDoor
open Go.RowKit

theorem idx42_0 (w : World) : (Instr.index 42 (.agg #[.string ⟨#[32]⟩, .string ⟨#[9]⟩, .string ⟨#[10, 32]⟩, .string ⟨#[13, 10]⟩]) (.int .i64 0)).run Tryd.prog w = .ok (.string ⟨#[32]⟩) w := by
  simp [Instr.index, asIntOf, go_sem, run_underlying (show Tryd.prog.underlying 42 = some (.array 4 9) by kernel_rfl)]
theorem idx42_1 (w : World) : (Instr.index 42 (.agg #[.string ⟨#[32]⟩, .string ⟨#[9]⟩, .string ⟨#[10, 32]⟩, .string ⟨#[13, 10]⟩]) (.int .i64 1)).run Tryd.prog w = .ok (.string ⟨#[9]⟩) w := by
  simp [Instr.index, asIntOf, go_sem, run_underlying (show Tryd.prog.underlying 42 = some (.array 4 9) by kernel_rfl)]
theorem idx42_2 (w : World) : (Instr.index 42 (.agg #[.string ⟨#[32]⟩, .string ⟨#[9]⟩, .string ⟨#[10, 32]⟩, .string ⟨#[13, 10]⟩]) (.int .i64 2)).run Tryd.prog w = .ok (.string ⟨#[10, 32]⟩) w := by
  simp [Instr.index, asIntOf, go_sem, run_underlying (show Tryd.prog.underlying 42 = some (.array 4 9) by kernel_rfl)]
theorem idx42_3 (w : World) : (Instr.index 42 (.agg #[.string ⟨#[32]⟩, .string ⟨#[9]⟩, .string ⟨#[10, 32]⟩, .string ⟨#[13, 10]⟩]) (.int .i64 3)).run Tryd.prog w = .ok (.string ⟨#[13, 10]⟩) w := by
  simp [Instr.index, asIntOf, go_sem, run_underlying (show Tryd.prog.underlying 42 = some (.array 4 9) by kernel_rfl)]
def gapN (l : List UInt8) (i : Nat) : Nat := (l.getD i 0).toNat
set_option maxRecDepth 100000 in
theorem gap_any (w : World) (Q : Nat) (v : Value) (l : List UInt8) (i : Nat) (hQ : w.cell? ⟨Q, 0, none⟩ = some v) (hv : BRow w w.heap.size v l) : Calls Tryd.prog 29 #[.int .i64 i, .pointer (some ⟨Q, 0, none⟩)] w fun e w' => e = .returned (.string (str (gB (gapN l i)))) ∧ w' = w := by
  obtain ⟨a, c, rfl, hc, hm, h⟩ := hv.later
  unfold maxLen at hm
  unfold gapN
  by_cases hlt : i < l.length
  · obtain ⟨b, off, rfl, hcell⟩ := h w (Below.refl _ _) i hlt
    have hg : l.getD i 0 = l[i] := by simp [List.getD, hlt]
    rw [hg]
    have hb := (l[i]).toNat_lt
    obtain ⟨x, hx⟩ : ∃ x, (l[i]).toNat = x := ⟨_, rfl⟩
    rw [hx] at hcell hb ⊢
    obtain ⟨n, hn⟩ : ∃ n, l.length = n := ⟨_, rfl⟩
    rw [hn] at hlt hc hQ
    have d : decide ((i : Int) < (n : Int)) = true := by simp; omega
    have hw64 : IntKind.i64.wrap (x : Int) = (x : Int) := by rw [IntKind.wrap_i64]; omega
    clear hg hx hn h
    rcases g_case x with ⟨h1, _, h2⟩ | ⟨h1, _, h2⟩ | ⟨h1, _, h2⟩ | ⟨h1, _, h2⟩
    · have hr : (x : Int).tmod 4 = 0 := by rw [show (x : Int).tmod 4 = ((x % 4 : Nat) : Int) from rfl, h1]; rfl
      have hix := idx42_0 w
      rw [h2]
      clear h1 h2
      go_enter Tryd.func29, Tryd.ntmps29
      go_wp2
      go_ret
      exact ⟨rfl, rfl⟩
    · have hr : (x : Int).tmod 4 = 1 := by rw [show (x : Int).tmod 4 = ((x % 4 : Nat) : Int) from rfl, h1]; rfl
      have hix := idx42_1 w
      rw [h2]
      clear h1 h2
      go_enter Tryd.func29, Tryd.ntmps29
      go_wp2
      go_ret
      exact ⟨rfl, rfl⟩
    · have hr : (x : Int).tmod 4 = 2 := by rw [show (x : Int).tmod 4 = ((x % 4 : Nat) : Int) from rfl, h1]; rfl
      have hix := idx42_2 w
      rw [h2]
      clear h1 h2
      go_enter Tryd.func29, Tryd.ntmps29
      go_wp2
      go_ret
      exact ⟨rfl, rfl⟩
    · have hr : (x : Int).tmod 4 = 3 := by rw [show (x : Int).tmod 4 = ((x % 4 : Nat) : Int) from rfl, h1]; rfl
      have hix := idx42_3 w
      rw [h2]
      clear h1 h2
      go_enter Tryd.func29, Tryd.ntmps29
      go_wp2
      go_ret
      exact ⟨rfl, rfl⟩
  · have hg : l.getD i 0 = 0 := by simp [List.getD, List.getElem?_eq_none (show l.length ≤ i by omega)]
    rw [hg]
    obtain ⟨n, hn⟩ : ∃ n, l.length = n := ⟨_, rfl⟩
    rw [hn] at hlt hc hQ
    have d : decide ((i : Int) < (n : Int)) = false := by simp; omega
    clear hg hn h
    have hix := idx42_0 w
    rw [show gB ((0 : UInt8).toNat) = [32] by decide]
    go_enter Tryd.func29, Tryd.ntmps29
    go_wp2
    go_ret
    exact ⟨rfl, rfl⟩
end Go.Proofs.YtilkhamlhbbmgaaDoor
