/- Values as trees, and what it means that a value of the program reads as a tree in a world. No conditions. -/
import Derived.Test.YtkecoohplpbgnaaRows
import Derived.WalkKit
import Derived.ProofKit
import Derived.Deep.Slices
import Derived.Lib.SmallJoins
namespace Go.Proofs.Ytkecoohplpbgnaa
open Go.RowKit

theorem ret_int {k : IntKind} {a b : Int} (h : a = b) : Ending.returned (.int k a) = .returned (.int k b) := by rw [h]

theorem gtrans {a b c : World} {row : Option Nat} (h : a.grownBy b row) (k : b.grownBy c row) : a.grownBy c row :=
  ⟨k.os.trans h.os, k.tape.trans h.tape, k.output.trans h.output, Nat.le_trans h.size k.size, fun i hi hne => (k.block i (Nat.lt_of_lt_of_le hi h.size) hne).trans (h.block i hi hne)⟩
theorem gbelow {a b : World} {row : Option Nat} (h : Below a.heap.size a b) : a.grownBy b row := ⟨h.os, h.tape, h.output, h.size, fun i hi _ => h.block i hi⟩
/-- What is grown by a row from B on is as it was below B. -/
theorem belowg {a b : World} {g B : Nat} (h : a.grownBy b (some g)) (hB : B ≤ a.heap.size) (hg : B ≤ g) : Below B a b :=
  ⟨h.os, h.tape, h.output, h.size, fun i hi => h.block i (by omega) (by simp; omega)⟩

inductive V where
  | mk (k n : Int) (s : ByteArray) (l : List V)

def In64 (k : Int) : Prop := -9223372036854775808 ≤ k ∧ k ≤ 9223372036854775807

mutual
def V.At (w : World) (B : Nat) : V → Value → Prop
  | ⟨k, n, s, l⟩, v => In64 k ∧ In64 n ∧ s.size ≤ maxLen ∧ ∃ a cap, v = .agg #[.int .i64 k, .int .i64 n, .string s, .slice a l.length cap] ∧ l.length ≤ cap ∧ cap ≤ maxLen ∧
      (l = [] ∨ ∃ b off, a = some ⟨b, off, none⟩ ∧ b < B ∧ AtL w B l b off)
def AtL (w : World) (B : Nat) : List V → Nat → Nat → Prop
  | [], _, _ => True
  | x :: xs, b, off => (∃ c0 c1 c2 c3, w.cell? ⟨b, off, none⟩ = some c0 ∧ w.cell? ⟨b, off + 1, none⟩ = some c1 ∧ w.cell? ⟨b, off + 2, none⟩ = some c2 ∧ w.cell? ⟨b, off + 3, none⟩ = some c3 ∧
      V.At w B x (.agg #[c0, c1, c2, c3])) ∧ AtL w B xs b (off + 4)
end

mutual
theorem V.At.below {w w' : World} {B : Nat} (hb : Below B w w') : ∀ (x : V) (v : Value), V.At w B x v → V.At w' B x v
  | ⟨k, n, s, l⟩, v, h => by
    unfold V.At at h ⊢
    obtain ⟨h1, h2, h3, a, cap, h4, h5, h6, h7⟩ := h
    refine ⟨h1, h2, h3, a, cap, h4, h5, h6, ?_⟩
    rcases h7 with h7 | ⟨b, off, h8, h9, h10⟩
    · exact .inl h7
    · exact .inr ⟨b, off, h8, h9, AtL.below hb l b off h9 h10⟩
theorem AtL.below {w w' : World} {B : Nat} (hb : Below B w w') : ∀ (l : List V) (b off : Nat), b < B → AtL w B l b off → AtL w' B l b off
  | [], _, _, _, _ => by unfold AtL; trivial
  | x :: xs, b, off, hB, h => by
    unfold AtL at h ⊢
    obtain ⟨⟨c0, c1, c2, c3, e0, e1, e2, e3, h0⟩, hr⟩ := h
    exact ⟨⟨c0, c1, c2, c3, (hb.cell (p := ⟨b, off, none⟩) hB).trans e0, (hb.cell (p := ⟨b, off + 1, none⟩) hB).trans e1, (hb.cell (p := ⟨b, off + 2, none⟩) hB).trans e2, (hb.cell (p := ⟨b, off + 3, none⟩) hB).trans e3,
      V.At.below hb x _ h0⟩, AtL.below hb xs b _ hB hr⟩
end

mutual
theorem V.At.mono {w : World} {B B' : Nat} (hb : B ≤ B') : ∀ (x : V) (v : Value), V.At w B x v → V.At w B' x v
  | ⟨k, n, s, l⟩, v, h => by
    unfold V.At at h ⊢
    obtain ⟨h1, h2, h3, a, cap, h4, h5, h6, h7⟩ := h
    refine ⟨h1, h2, h3, a, cap, h4, h5, h6, ?_⟩
    rcases h7 with h7 | ⟨b, off, h8, h9, h10⟩
    · exact .inl h7
    · exact .inr ⟨b, off, h8, by omega, AtL.mono hb l b off h10⟩
theorem AtL.mono {w : World} {B B' : Nat} (hb : B ≤ B') : ∀ (l : List V) (b off : Nat), AtL w B l b off → AtL w B' l b off
  | [], _, _, _ => by unfold AtL; trivial
  | x :: xs, b, off, h => by
    unfold AtL at h ⊢
    obtain ⟨⟨c0, c1, c2, c3, e0, e1, e2, e3, h0⟩, hr⟩ := h
    exact ⟨⟨c0, c1, c2, c3, e0, e1, e2, e3, V.At.mono hb x _ h0⟩, AtL.mono hb xs b _ hr⟩
end

/-- The element at an index. -/
theorem AtL.get {w : World} {B : Nat} : ∀ (l : List V) (b off i : Nat) (hi : i < l.length), AtL w B l b off →
    ∃ c0 c1 c2 c3, w.cell? ⟨b, off + i * 4, none⟩ = some c0 ∧ w.cell? ⟨b, off + i * 4 + 1, none⟩ = some c1 ∧ w.cell? ⟨b, off + i * 4 + 2, none⟩ = some c2 ∧ w.cell? ⟨b, off + i * 4 + 3, none⟩ = some c3 ∧
      V.At w B l[i] (.agg #[c0, c1, c2, c3])
  | x :: xs, b, off, 0, _, h => by
    unfold AtL at h
    obtain ⟨⟨c0, c1, c2, c3, e0, e1, e2, e3, h0⟩, _⟩ := h
    exact ⟨c0, c1, c2, c3, by simpa using e0, by simpa using e1, by simpa using e2, by simpa using e3, h0⟩
  | x :: xs, b, off, i + 1, hi, h => by
    unfold AtL at h
    have := AtL.get xs b (off + 4) i (by simpa using hi) h.2
    rw [show off + 4 + i * 4 = off + (i + 1) * 4 by omega] at this
    exact this

/-- .. with its parts. -/
theorem AtL.got {w : World} {B : Nat} (l : List V) (b off i : Nat) (hi : i < l.length) (h : AtL w B l b off) :
    ∃ (k n : Int) (s : ByteArray) (a : Option Addr) (len cap : Nat), w.cell? ⟨b, off + i * 4, none⟩ = some (.int .i64 k) ∧ w.cell? ⟨b, off + i * 4 + 1, none⟩ = some (.int .i64 n) ∧ w.cell? ⟨b, off + i * 4 + 2, none⟩ = some (.string s) ∧
      w.cell? ⟨b, off + i * 4 + 3, none⟩ = some (.slice a len cap) ∧ V.At w B l[i] (.agg #[.int .i64 k, .int .i64 n, .string s, .slice a len cap]) := by
  obtain ⟨c0, c1, c2, c3, e0, e1, e2, e3, h0⟩ := AtL.get l b off i hi h
  generalize l[i] = x at *
  obtain ⟨k, n, s, l2⟩ := x
  have h0' := h0
  unfold V.At at h0'
  obtain ⟨_, _, _, a, cap, hv, _⟩ := h0'
  simp only [Value.agg.injEq, Array.mk.injEq, List.cons.injEq, and_true] at hv
  obtain ⟨rfl, rfl, rfl, rfl⟩ := hv
  exact ⟨k, n, s, a, l2.length, cap, e0, e1, e2, e3, h0⟩

/-! ### Equality -/
mutual
def V.same : V → V → Bool
  | ⟨k, n, s, l⟩, ⟨k', n', s', l'⟩ => k == k' && (n == n' && (s.toList == s'.toList && V.sames l l'))
def V.sames : List V → List V → Bool
  | [], [] => true
  | x :: xs, y :: ys => V.same x y && V.sames xs ys
  | _, _ => false
end

mutual
theorem V.same_refl : ∀ x : V, V.same x x = true
  | ⟨k, n, s, l⟩ => by unfold V.same; simp [V.sames_refl l]
theorem V.sames_refl : ∀ l : List V, V.sames l l = true
  | [] => by unfold V.sames; rfl
  | x :: xs => by unfold V.sames; simp [V.same_refl x, V.sames_refl xs]
end

theorem V.sames_len : ∀ (l l' : List V), ¬ l'.length = l.length → V.sames l l' = false
  | [], [], h => by simp at h
  | [], y :: ys, h => by unfold V.sames; rfl
  | x :: xs, [], h => by unfold V.sames; rfl
  | x :: xs, y :: ys, h => by unfold V.sames; rw [V.sames_len xs ys (by simpa using h)]; simp

end Go.Proofs.Ytkecoohplpbgnaa
