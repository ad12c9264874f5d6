/- codec.size is the length of the encoding. -/
import Derived.Test.YtkecoohplpbgnaaNum
import Derived.Deep.RegionHeld3
namespace Go.Proofs.Ytkecoohplpbgnaa
open Go.RowKit

mutual
/-- The encoding of a well-formed tree. -/
def V.enc : V → List UInt8
  | ⟨k, n, s, l⟩ => if k = 1 then 1 :: num (zig n).toNat else if k = 2 then 2 :: (num s.size ++ s.data.toList) else 3 :: (num l.length ++ V.encs l)
def V.encs : List V → List UInt8
  | [] => []
  | x :: xs => V.enc x ++ V.encs xs
end

theorem V.encs_nil : V.encs [] = [] := by rw [V.encs]
theorem V.encs_cons (x : V) (xs : List V) : V.encs (x :: xs) = V.enc x ++ V.encs xs := by rw [V.encs]
theorem V.formeds_cons (x : V) (xs : List V) : V.formeds (x :: xs) = (V.formed x && V.formeds xs) := by rw [V.formeds]

/-- The array of writers. -/
abbrev wrArr : Value := .agg #[.nilFunc, .nilFunc, .func (.func 49) #[] #[], .func (.func 50) #[] #[], .func (.func 51) #[] #[], .func (.func 52) #[] #[], .func (.func 53) #[] #[], .func (.func 54) #[] #[]]
theorem idx_1 (w : World) : (Instr.index 59 wrArr (.int .i64 1)).run Try.prog w = .ok (.agg #[.func (.func 49) #[] #[], .func (.func 50) #[] #[]]) w := by kernel_rfl
theorem idx_2 (w : World) : (Instr.index 59 wrArr (.int .i64 2)).run Try.prog w = .ok (.agg #[.func (.func 51) #[] #[], .func (.func 52) #[] #[]]) w := by kernel_rfl
theorem idx_3 (w : World) : (Instr.index 59 wrArr (.int .i64 3)).run Try.prog w = .ok (.agg #[.func (.func 53) #[] #[], .func (.func 54) #[] #[]]) w := by kernel_rfl

theorem fld_1 (w : World) : (Instr.field 58 (.agg #[.func (.func 49) #[] #[], .func (.func 50) #[] #[]]) 0).run Try.prog w = .ok (.func (.func 49) #[] #[]) w := by kernel_rfl
theorem fld_2 (w : World) : (Instr.field 58 (.agg #[.func (.func 51) #[] #[], .func (.func 52) #[] #[]]) 0).run Try.prog w = .ok (.func (.func 51) #[] #[]) w := by kernel_rfl
theorem fld_3 (w : World) : (Instr.field 58 (.agg #[.func (.func 53) #[] #[], .func (.func 54) #[] #[]]) 0).run Try.prog w = .ok (.func (.func 53) #[] #[]) w := by kernel_rfl

/-- A world that is w below its heap's end, and has grown. -/
def Kept (w1 W : World) : Prop := Below w1.heap.size w1 W
theorem Kept.below {w1 W : World} (h : Kept w1 W) : Below w1.heap.size w1 W := h
theorem Kept.next {w1 W W' : World} (h : Kept w1 W) (k : Below W.heap.size W W') : Kept w1 W' := Below.trans h (k.mono h.size)
theorem Kept.refl (w1 : World) : Kept w1 w1 := Below.refl _ _
theorem Kept.drew {w1 W : World} (h : Kept w1 W) : Kept w1 W.drew := Below.drew h

def CSize (x : V) : Prop := ∀ (w : World) (B : Nat) (v : Value), x.formed = true → x.enc.length ≤ 1000000000 → B ≤ w.heap.size → V.At w B x v →
  Calls Try.prog 27 #[v] w fun e w' => e = .returned (.int .i64 (x.enc.length : Nat)) ∧ Below w.heap.size w w'

set_option maxHeartbeats 400000 in
theorem size_01 (n : Int) (s : ByteArray) (a : Option Addr) (cap : Nat) (w : World) (u : Nat) (hbd : 1 + (num u).length + s.size ≤ 1000000000)
    (hu : u < 18446744073709551616)
    (hN : ∀ W, Calls Try.prog 49 #[.agg #[.int .i64 1, .int .i64 n, .string s, .slice a 0 cap]] W fun e w' => e = .returned (.int .u64 (u : Nat)) ∧ Below W.heap.size W w') :
    Calls Try.prog 27 #[.agg #[.int .i64 1, .int .i64 n, .string s, .slice a 0 cap]] w
      fun e w' => e = .returned (.int .i64 ((1 + (num u).length + s.size : Nat) : Int)) ∧ Below w.heap.size w w' := by
  obtain ⟨w1, hw1⟩ : ∃ w1, w1 = w.alloc (Obj.cells #[Value.int IntKind.i64 1, Value.int IntKind.i64 n, Value.string s, Value.slice a 0 cap] 24) := ⟨_, rfl⟩
  have hz1 : w1.heap.size = w.heap.size + 1 := by rw [hw1]; simp
  have hB1 : Below w.heap.size w w1 := by rw [hw1]; go_grown
  have c0 : ∀ W, Kept w1 W → W.cell? ⟨w.heap.size, 0, none⟩ = some (.int .i64 1) := fun W hW => (hW.below.cell (by simp; omega)).trans (by rw [hw1]; go_cell)
  have c1 : ∀ W, Kept w1 W → W.cell? ⟨w.heap.size, 1, none⟩ = some (.int .i64 n) := fun W hW => (hW.below.cell (by simp; omega)).trans (by rw [hw1]; go_cell)
  have c2 : ∀ W, Kept w1 W → W.cell? ⟨w.heap.size, 2, none⟩ = some (.string s) := fun W hW => (hW.below.cell (by simp; omega)).trans (by rw [hw1]; go_cell)
  have c3 : ∀ W, Kept w1 W → W.cell? ⟨w.heap.size, 3, none⟩ = some (.slice a 0 cap) := fun W hW => (hW.below.cell (by simp; omega)).trans (by rw [hw1]; go_cell)
  have hA : ∀ W, Kept w1 W → Calls Try.prog 38 #[] W fun e w' => e = .returned (.agg #[.nilFunc, .nilFunc, .func (.func 49) #[] #[], .func (.func 50) #[] #[], .func (.func 51) #[] #[], .func (.func 52) #[] #[], .func (.func 53) #[] #[], .func (.func 54) #[] #[]]) ∧ Kept w1 w' :=
    fun W hW => (writers_any W).mono fun e w' h => ⟨h.1, hW.next h.2⟩
  have hN' : ∀ W, Kept w1 W → Calls Try.prog 49 #[.agg #[.int .i64 1, .int .i64 n, .string s, .slice a 0 cap]] W fun e w' => e = .returned (.int .u64 (u : Nat)) ∧ Kept w1 w' :=
    fun W hW => (hN W).mono fun e w' h => ⟨h.1, hW.next h.2⟩
  have hS : ∀ W, Kept w1 W → Calls Try.prog 40 #[.int .u64 (u : Nat)] W fun e w' => e = .returned (.int .i64 ((num u).length : Nat)) ∧ Kept w1 w' :=
    fun W hW => (numSize _ hu W).mono fun e w' h => ⟨h.1, by rw [h.2]; exact hW⟩
  have hle := num_len64 u hu
  obtain ⟨q, hq⟩ : ∃ q, (num u).length = q := ⟨_, rfl⟩
  rw [hq] at hS hle hbd ⊢
  have e1 : IntKind.i64.wrap (1 + (q : Int)) = 1 + (q : Int) := IntWalk.i64_in _ (by omega)
  have e2 : IntKind.i64.wrap (1 + (q : Int) + (s.size : Int)) = 1 + (q : Int) + (s.size : Int) := IntWalk.i64_in _ (by omega)
  have HA := Lib.hid hA
  have HN := Lib.hid hN'
  have HS := Lib.hid hS
  have HW := Lib.hid hw1
  clear hA hN hN' hS hw1 hq
  have hidx := idx_1
  have hfld := fld_1
  unfold wrArr at hidx
  go_enter Try.func27, Try.ntmps27
  go_wp2
  rw [← HW.out]
  go_region_held3 (fun W => Kept w1 W) (first | assumption | exact Kept.drew (Kept.refl _))
    (first | (go_at_call 38; refine (HA.out _ (by assumption)).mono ?_; rintro e w' ⟨rfl, hK⟩) | (go_at_call 40; refine (HS.out _ (by assumption)).mono ?_; rintro e w' ⟨rfl, hK⟩) | (go_at_call 49; refine (HN.out _ (by assumption)).mono ?_; rintro e w' ⟨rfl, hK⟩))
  all_goals
    clear c0 c1 c2
    go_wp2
    go_rounds 1
    go_ret
    exact ⟨ret_int (by push_cast; omega), hB1.trans ((‹Kept w1 _›).below.mono (by omega))⟩

set_option maxHeartbeats 400000 in
theorem size_02 (n : Int) (s : ByteArray) (a : Option Addr) (cap : Nat) (w : World) (u : Nat) (hbd : 1 + (num u).length + s.size ≤ 1000000000)
    (hu : u < 18446744073709551616)
    (hN : ∀ W, Calls Try.prog 51 #[.agg #[.int .i64 2, .int .i64 n, .string s, .slice a 0 cap]] W fun e w' => e = .returned (.int .u64 (u : Nat)) ∧ Below W.heap.size W w') :
    Calls Try.prog 27 #[.agg #[.int .i64 2, .int .i64 n, .string s, .slice a 0 cap]] w
      fun e w' => e = .returned (.int .i64 ((1 + (num u).length + s.size : Nat) : Int)) ∧ Below w.heap.size w w' := by
  obtain ⟨w1, hw1⟩ : ∃ w1, w1 = w.alloc (Obj.cells #[Value.int IntKind.i64 2, Value.int IntKind.i64 n, Value.string s, Value.slice a 0 cap] 24) := ⟨_, rfl⟩
  have hz1 : w1.heap.size = w.heap.size + 1 := by rw [hw1]; simp
  have hB1 : Below w.heap.size w w1 := by rw [hw1]; go_grown
  have c0 : ∀ W, Kept w1 W → W.cell? ⟨w.heap.size, 0, none⟩ = some (.int .i64 2) := fun W hW => (hW.below.cell (by simp; omega)).trans (by rw [hw1]; go_cell)
  have c1 : ∀ W, Kept w1 W → W.cell? ⟨w.heap.size, 1, none⟩ = some (.int .i64 n) := fun W hW => (hW.below.cell (by simp; omega)).trans (by rw [hw1]; go_cell)
  have c2 : ∀ W, Kept w1 W → W.cell? ⟨w.heap.size, 2, none⟩ = some (.string s) := fun W hW => (hW.below.cell (by simp; omega)).trans (by rw [hw1]; go_cell)
  have c3 : ∀ W, Kept w1 W → W.cell? ⟨w.heap.size, 3, none⟩ = some (.slice a 0 cap) := fun W hW => (hW.below.cell (by simp; omega)).trans (by rw [hw1]; go_cell)
  have hA : ∀ W, Kept w1 W → Calls Try.prog 38 #[] W fun e w' => e = .returned (.agg #[.nilFunc, .nilFunc, .func (.func 49) #[] #[], .func (.func 50) #[] #[], .func (.func 51) #[] #[], .func (.func 52) #[] #[], .func (.func 53) #[] #[], .func (.func 54) #[] #[]]) ∧ Kept w1 w' :=
    fun W hW => (writers_any W).mono fun e w' h => ⟨h.1, hW.next h.2⟩
  have hN' : ∀ W, Kept w1 W → Calls Try.prog 51 #[.agg #[.int .i64 2, .int .i64 n, .string s, .slice a 0 cap]] W fun e w' => e = .returned (.int .u64 (u : Nat)) ∧ Kept w1 w' :=
    fun W hW => (hN W).mono fun e w' h => ⟨h.1, hW.next h.2⟩
  have hS : ∀ W, Kept w1 W → Calls Try.prog 40 #[.int .u64 (u : Nat)] W fun e w' => e = .returned (.int .i64 ((num u).length : Nat)) ∧ Kept w1 w' :=
    fun W hW => (numSize _ hu W).mono fun e w' h => ⟨h.1, by rw [h.2]; exact hW⟩
  have hle := num_len64 u hu
  obtain ⟨q, hq⟩ : ∃ q, (num u).length = q := ⟨_, rfl⟩
  rw [hq] at hS hle hbd ⊢
  have e1 : IntKind.i64.wrap (1 + (q : Int)) = 1 + (q : Int) := IntWalk.i64_in _ (by omega)
  have e2 : IntKind.i64.wrap (1 + (q : Int) + (s.size : Int)) = 1 + (q : Int) + (s.size : Int) := IntWalk.i64_in _ (by omega)
  have HA := Lib.hid hA
  have HN := Lib.hid hN'
  have HS := Lib.hid hS
  have HW := Lib.hid hw1
  clear hA hN hN' hS hw1 hq
  have hidx := idx_2
  have hfld := fld_2
  unfold wrArr at hidx
  go_enter Try.func27, Try.ntmps27
  go_wp2
  rw [← HW.out]
  go_region_held3 (fun W => Kept w1 W) (first | assumption | exact Kept.drew (Kept.refl _))
    (first | (go_at_call 38; refine (HA.out _ (by assumption)).mono ?_; rintro e w' ⟨rfl, hK⟩) | (go_at_call 40; refine (HS.out _ (by assumption)).mono ?_; rintro e w' ⟨rfl, hK⟩) | (go_at_call 51; refine (HN.out _ (by assumption)).mono ?_; rintro e w' ⟨rfl, hK⟩))
  all_goals
    clear c0 c1 c2
    go_wp2
    go_rounds 1
    go_ret
    exact ⟨ret_int (by push_cast; omega), hB1.trans ((‹Kept w1 _›).below.mono (by omega))⟩

set_option maxHeartbeats 400000 in
theorem size_03 (n : Int) (s : ByteArray) (a : Option Addr) (cap : Nat) (w : World) (u : Nat) (hbd : 1 + (num u).length + s.size ≤ 1000000000)
    (hu : u < 18446744073709551616)
    (hN : ∀ W, Calls Try.prog 53 #[.agg #[.int .i64 3, .int .i64 n, .string s, .slice a 0 cap]] W fun e w' => e = .returned (.int .u64 (u : Nat)) ∧ Below W.heap.size W w') :
    Calls Try.prog 27 #[.agg #[.int .i64 3, .int .i64 n, .string s, .slice a 0 cap]] w
      fun e w' => e = .returned (.int .i64 ((1 + (num u).length + s.size : Nat) : Int)) ∧ Below w.heap.size w w' := by
  obtain ⟨w1, hw1⟩ : ∃ w1, w1 = w.alloc (Obj.cells #[Value.int IntKind.i64 3, Value.int IntKind.i64 n, Value.string s, Value.slice a 0 cap] 24) := ⟨_, rfl⟩
  have hz1 : w1.heap.size = w.heap.size + 1 := by rw [hw1]; simp
  have hB1 : Below w.heap.size w w1 := by rw [hw1]; go_grown
  have c0 : ∀ W, Kept w1 W → W.cell? ⟨w.heap.size, 0, none⟩ = some (.int .i64 3) := fun W hW => (hW.below.cell (by simp; omega)).trans (by rw [hw1]; go_cell)
  have c1 : ∀ W, Kept w1 W → W.cell? ⟨w.heap.size, 1, none⟩ = some (.int .i64 n) := fun W hW => (hW.below.cell (by simp; omega)).trans (by rw [hw1]; go_cell)
  have c2 : ∀ W, Kept w1 W → W.cell? ⟨w.heap.size, 2, none⟩ = some (.string s) := fun W hW => (hW.below.cell (by simp; omega)).trans (by rw [hw1]; go_cell)
  have c3 : ∀ W, Kept w1 W → W.cell? ⟨w.heap.size, 3, none⟩ = some (.slice a 0 cap) := fun W hW => (hW.below.cell (by simp; omega)).trans (by rw [hw1]; go_cell)
  have hA : ∀ W, Kept w1 W → Calls Try.prog 38 #[] W fun e w' => e = .returned (.agg #[.nilFunc, .nilFunc, .func (.func 49) #[] #[], .func (.func 50) #[] #[], .func (.func 51) #[] #[], .func (.func 52) #[] #[], .func (.func 53) #[] #[], .func (.func 54) #[] #[]]) ∧ Kept w1 w' :=
    fun W hW => (writers_any W).mono fun e w' h => ⟨h.1, hW.next h.2⟩
  have hN' : ∀ W, Kept w1 W → Calls Try.prog 53 #[.agg #[.int .i64 3, .int .i64 n, .string s, .slice a 0 cap]] W fun e w' => e = .returned (.int .u64 (u : Nat)) ∧ Kept w1 w' :=
    fun W hW => (hN W).mono fun e w' h => ⟨h.1, hW.next h.2⟩
  have hS : ∀ W, Kept w1 W → Calls Try.prog 40 #[.int .u64 (u : Nat)] W fun e w' => e = .returned (.int .i64 ((num u).length : Nat)) ∧ Kept w1 w' :=
    fun W hW => (numSize _ hu W).mono fun e w' h => ⟨h.1, by rw [h.2]; exact hW⟩
  have hle := num_len64 u hu
  obtain ⟨q, hq⟩ : ∃ q, (num u).length = q := ⟨_, rfl⟩
  rw [hq] at hS hle hbd ⊢
  have e1 : IntKind.i64.wrap (1 + (q : Int)) = 1 + (q : Int) := IntWalk.i64_in _ (by omega)
  have e2 : IntKind.i64.wrap (1 + (q : Int) + (s.size : Int)) = 1 + (q : Int) + (s.size : Int) := IntWalk.i64_in _ (by omega)
  have HA := Lib.hid hA
  have HN := Lib.hid hN'
  have HS := Lib.hid hS
  have HW := Lib.hid hw1
  clear hA hN hN' hS hw1 hq
  have hidx := idx_3
  have hfld := fld_3
  unfold wrArr at hidx
  go_enter Try.func27, Try.ntmps27
  go_wp2
  rw [← HW.out]
  go_region_held3 (fun W => Kept w1 W) (first | assumption | exact Kept.drew (Kept.refl _))
    (first | (go_at_call 38; refine (HA.out _ (by assumption)).mono ?_; rintro e w' ⟨rfl, hK⟩) | (go_at_call 40; refine (HS.out _ (by assumption)).mono ?_; rintro e w' ⟨rfl, hK⟩) | (go_at_call 53; refine (HN.out _ (by assumption)).mono ?_; rintro e w' ⟨rfl, hK⟩))
  all_goals
    clear c0 c1 c2
    go_wp2
    go_rounds 1
    go_ret
    exact ⟨ret_int (by push_cast; omega), hB1.trans ((‹Kept w1 _›).below.mono (by omega))⟩

set_option maxHeartbeats 400000 in
theorem size_5 (n : Int) (s : ByteArray) (l : List V) (len : Nat) (hlen : l.length = len) (hfm : V.formeds l = true) (ih : ∀ x ∈ l, CSize x) (b off cap : Nat) (w : World) (hb : b < w.heap.size) (hcap : len ≤ cap) (hm : cap ≤ maxLen) (h : AtL w w.heap.size l b off) (u : Nat) (hbd : 1 + (num u).length + s.size + (V.encs l).length ≤ 1000000000)
    (hu : u < 18446744073709551616)
    (hN : ∀ W, Calls Try.prog 53 #[.agg #[.int .i64 3, .int .i64 n, .string s, .slice (some ⟨b, off, none⟩) len cap]] W fun e w' => e = .returned (.int .u64 (u : Nat)) ∧ Below W.heap.size W w') :
    Calls Try.prog 27 #[.agg #[.int .i64 3, .int .i64 n, .string s, .slice (some ⟨b, off, none⟩) len cap]] w
      fun e w' => e = .returned (.int .i64 ((1 + (num u).length + s.size + (V.encs l).length : Nat) : Int)) ∧ Below w.heap.size w w' := by
  unfold maxLen at hm
  have HLEN := Lib.hid hlen; clear hlen
  have HF := Lib.hid hfm; clear hfm
  obtain ⟨w1, hw1⟩ : ∃ w1, w1 = w.alloc (Obj.cells #[Value.int IntKind.i64 3, Value.int IntKind.i64 n, Value.string s, Value.slice (some ⟨b, off, none⟩) len cap] 24) := ⟨_, rfl⟩
  have hz1 : w1.heap.size = w.heap.size + 1 := by rw [hw1]; simp
  have hB1 : Below w.heap.size w w1 := by rw [hw1]; go_grown
  have c0 : ∀ W, Kept w1 W → W.cell? ⟨w.heap.size, 0, none⟩ = some (.int .i64 3) := fun W hW => (hW.below.cell (by simp; omega)).trans (by rw [hw1]; go_cell)
  have c1 : ∀ W, Kept w1 W → W.cell? ⟨w.heap.size, 1, none⟩ = some (.int .i64 n) := fun W hW => (hW.below.cell (by simp; omega)).trans (by rw [hw1]; go_cell)
  have c2 : ∀ W, Kept w1 W → W.cell? ⟨w.heap.size, 2, none⟩ = some (.string s) := fun W hW => (hW.below.cell (by simp; omega)).trans (by rw [hw1]; go_cell)
  have c3 : ∀ W, Kept w1 W → W.cell? ⟨w.heap.size, 3, none⟩ = some (.slice (some ⟨b, off, none⟩) len cap) := fun W hW => (hW.below.cell (by simp; omega)).trans (by rw [hw1]; go_cell)
  have hA : ∀ W, Kept w1 W → Calls Try.prog 38 #[] W fun e w' => e = .returned (.agg #[.nilFunc, .nilFunc, .func (.func 49) #[] #[], .func (.func 50) #[] #[], .func (.func 51) #[] #[], .func (.func 52) #[] #[], .func (.func 53) #[] #[], .func (.func 54) #[] #[]]) ∧ Kept w1 w' :=
    fun W hW => (writers_any W).mono fun e w' h => ⟨h.1, hW.next h.2⟩
  have hN' : ∀ W, Kept w1 W → Calls Try.prog 53 #[.agg #[.int .i64 3, .int .i64 n, .string s, .slice (some ⟨b, off, none⟩) len cap]] W fun e w' => e = .returned (.int .u64 (u : Nat)) ∧ Kept w1 w' :=
    fun W hW => (hN W).mono fun e w' h => ⟨h.1, hW.next h.2⟩
  have hS : ∀ W, Kept w1 W → Calls Try.prog 40 #[.int .u64 (u : Nat)] W fun e w' => e = .returned (.int .i64 ((num u).length : Nat)) ∧ Kept w1 w' :=
    fun W hW => (numSize _ hu W).mono fun e w' h => ⟨h.1, by rw [h.2]; exact hW⟩
  have hle := num_len64 u hu
  obtain ⟨q, hq⟩ : ∃ q, (num u).length = q := ⟨_, rfl⟩
  rw [hq] at hS hle hbd ⊢
  have e1 : IntKind.i64.wrap (1 + (q : Int)) = 1 + (q : Int) := IntWalk.i64_in _ (by omega)
  have e2 : IntKind.i64.wrap (1 + (q : Int) + (s.size : Int)) = 1 + (q : Int) + (s.size : Int) := IntWalk.i64_in _ (by omega)
  have HA := Lib.hid hA
  have HN := Lib.hid hN'
  have HS := Lib.hid hS
  have HW := Lib.hid hw1
  clear hA hN hN' hS hw1 hq
  have hidx := idx_3
  have hfld := fld_3
  unfold wrArr at hidx
  have H := Lib.hid h; clear h
  go_enter Try.func27, Try.ntmps27
  go_wp2
  rw [← HW.out]
  go_region_held3 (fun W => Kept w1 W) (first | assumption | exact Kept.drew (Kept.refl _))
    (first | (go_at_call 38; refine (HA.out _ (by assumption)).mono ?_; rintro e w' ⟨rfl, hK⟩) | (go_at_call 40; refine (HS.out _ (by assumption)).mono ?_; rintro e w' ⟨rfl, hK⟩) | (go_at_call 53; refine (HN.out _ (by assumption)).mono ?_; rintro e w' ⟨rfl, hK⟩))
  all_goals
    have h := H.out
    clear c0 c1 c2
    have hK := Kept.below ‹Kept w1 _›
    have hBx := hB1.trans (hK.mono (Nat.le_of_lt (by omega : w.heap.size < w1.heap.size)))
    go_wp2
    go_loopw [3, 22] (fun t i wr => ∃ m p : Nat, i = .int .i64 m ∧ t = .int .i64 p ∧ m ≤ len ∧ 1 + q + s.size + (V.encs l).length = p + (V.encs (l.drop m)).length ∧ V.formeds (l.drop m) = true ∧ Below w.heap.size w wr) (fun _ i _ => len - (intOf i).toNat)
    case atStart => exact ⟨0, 1 + q + s.size, rfl, by congr 1, Nat.zero_le _, by simp, by simpa using HF.out, hBx⟩
    case round =>
      obtain ⟨m, p, rfl, rfl, hmle, hsm, hfo, hBr⟩ := hrel
      have HSM := Lib.hid hsm; clear hsm
      have HFO := Lib.hid hfo; clear hfo
      have hzr := hBr.size
      by_cases hlt : m < len
      · obtain ⟨k2, n2, s2, a2, ln, cp, g0, g1, g2, g3, ga⟩ := AtL.got l b off m (by rw [HLEN.out]; exact hlt) (AtL.below hBr l b off hb h)
        have GA := Lib.hid ga; clear ga
        have hdl : l.drop m = (l[m]'(by rw [HLEN.out]; exact hlt)) :: l.drop (m + 1) := List.drop_eq_getElem_cons (by rw [HLEN.out]; exact hlt)
        have hf2 := HFO.out
        have hs2 := HSM.out
        rw [hdl, V.formeds_cons, Bool.and_eq_true] at hf2
        rw [hdl, V.encs_cons, List.length_append] at hs2
        have hc : ∀ W, Below w.heap.size wr W → Calls Try.prog 27 #[.agg #[.int .i64 k2, .int .i64 n2, .string s2, .slice a2 ln cp]] W fun e w' => e = .returned (.int .i64 ((V.enc (l[m]'(by rw [HLEN.out]; exact hlt))).length : Nat)) ∧ Below W.heap.size W w' := by
          intro W hW
          have hll := HSM.out
          exact ih _ (List.getElem_mem (by rw [HLEN.out]; exact hlt)) W w.heap.size _ hf2.1 (by omega) (by have := hW.size; omega) (V.At.below hW _ _ GA.out)
        have hf3 := hf2.2
        obtain ⟨r, hr⟩ : ∃ r, (V.enc (l[m]'(by rw [HLEN.out]; exact hlt))).length = r := ⟨_, rfl⟩
        rw [hr] at hc hs2
        have hp1 : p + r ≤ 1000000000 := by omega
        have HC := Lib.hid hc
        have HS2 := Lib.hid hs2
        have HF3 := Lib.hid hf3
        clear hc hr h hdl hf2 hs2 hf3
        go_wp2_with fail
        refine (HC.out _ (by go_grown)).mono ?_
        rintro e w3 ⟨rfl, hb3⟩
        have hB3 : Below w.heap.size w w3 := hBr.trans (Below.trans (by go_grown) (hb3.mono (by simp; omega)))
        clear hb3
        go_wp2
        go_roundw
        case rel => exact ⟨m + 1, p + r, by go_num, by congr 1, by omega, by rw [HS2.out]; omega, HF3.out, hB3⟩
        case measure => simp [intOf]; omega
      · have hme : m = len := by omega
        have hq : 1 + q + s.size + (V.encs l).length = p := by
          rw [HSM.out, hme, List.drop_of_length_le (by rw [HLEN.out]; exact Nat.le_refl _)]; unfold V.encs; simp
        have HQ := Lib.hid hq
        clear hq hme h
        go_wp2
        go_ret
        exact ⟨ret_int (by rw [HQ.out]), hBr⟩

theorem cSize : ∀ (N : Nat) (x : V), SizeOf.sizeOf x ≤ N → CSize x
  | 0, ⟨k, n, s, l⟩, h => by simp at h
  | N + 1, ⟨k, n, s, l⟩, h => by
    intro w B v hf hbd hB hx
    have hx := V.At.mono hB _ _ hx
    unfold V.At at hx
    obtain ⟨h1, h2, h3, a, cap, rfl, h5, h6, h7⟩ := hx
    unfold V.formed at hf
    unfold V.enc at hbd ⊢
    have hzr := zig_range n h2
    have hs0 : s.toList = [] → s.size = 0 := by
      intro e; rw [ByteArray.toList_eq] at e; have := congrArg List.length e; simpa using this
    by_cases e1 : k = 1
    · subst e1
      simp only [if_true] at hf hbd ⊢
      simp at hf
      have hl : l = [] := hf.2
      subst hl
      have e0 := hs0 hf.1
      have hN : ∀ W, Calls Try.prog 49 #[.agg #[.int .i64 1, .int .i64 n, .string s, .slice a 0 cap]] W fun e w' => e = .returned (.int .u64 ((zig n).toNat : Nat)) ∧ Below W.heap.size W w' := by
        intro W
        rw [Int.toNat_of_nonneg hzr.1]
        by_cases h : n < 0
        · exact unsF_neg 1 n s a 0 cap W h2 h
        · exact unsF_pos 1 n s a 0 cap W h2 h
      have := size_01 n s a cap w (zig n).toNat (by have := num_len64 (zig n).toNat (by omega); omega) (by omega) hN
      rw [List.length_cons, show (num (zig n).toNat).length + 1 = 1 + (num (zig n).toNat).length + s.size by omega]
      exact this
    by_cases e2 : k = 2
    · subst e2
      simp only [show ¬ ((2 : Int) = 1) by omega, if_true, if_false] at hf hbd ⊢
      simp at hf
      have hl : l = [] := hf.2
      subst hl
      have hlen : (2 :: (num s.size ++ s.data.toList) : List UInt8).length = 1 + (num s.size).length + s.size := by
        have e1 : s.data.toList.length = s.size := Array.length_toList
        rw [List.length_cons, List.length_append, e1]
        omega
      rw [hlen] at hbd ⊢
      exact size_02 n s a cap w s.size hbd (by unfold maxLen at h3; omega) (fun W => txtL 2 n s h3 a 0 cap W)
    by_cases e3 : k = 3
    · subst e3
      simp only [show ¬ ((3 : Int) = 1) by omega, show ¬ ((3 : Int) = 2) by omega, if_true, if_false] at hf hbd ⊢
      simp at hf
      have e0 := hs0 hf.2.1
      have hlen : (3 :: (num l.length ++ V.encs l) : List UInt8).length = 1 + (num l.length).length + s.size + (V.encs l).length := by
        simp; omega
      rw [hlen] at hbd ⊢
      rcases h7 with h7 | ⟨b, off, rfl, hb, h10⟩
      · subst h7
        rw [V.encs_nil, List.length_nil, List.length_nil, Nat.add_zero] at hbd ⊢
        exact size_03 n s a cap w 0 hbd (by omega) (fun W => lstL 3 n s a 0 cap (by unfold maxLen; omega) W)
      · exact size_5 n s l l.length rfl hf.2.2 (fun x hx => cSize N x (by have := List.sizeOf_lt_of_mem hx; simp at h; omega)) b off cap w hb h5 h6 h10 l.length hbd (by unfold maxLen at h6; omega)
          (fun W => lstL 3 n s _ _ cap (by omega) W)
    · simp only [e1, e2, e3, if_false] at hf
      simp at hf

end Go.Proofs.Ytkecoohplpbgnaa
