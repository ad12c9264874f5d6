/- DERIVED: THE SHELF's CONTRACTS AT THIS DUMP, IN PLAIN WORDS (tools/lay-plain. Values as trees, and what it means that a value of the program reads as a tree in a world. No conditions. codec.wellFormed answers what V.formed answers. Plain facts on numerals and encodings. Numerals and their sizes. codec.size is the length of the encoding. codec.write appends the encoding. codec.Encode and codec.Size. -/
import Derived.Test.YtfmngeemhfpeiaaDoorProg
import Derived.Test.YtfmngeemhfpeiaaDoorRows
import Derived.Shelf.Strconv.Itoa0
import Derived.WalkKit
import Derived.ProofKit
import Derived.Deep.Slices
import Derived.Lib.SmallJoins
import Derived.WalkSpells
import Derived.WalkLawsBesides
import Derived.Handy
import Derived.Lib.Hide
import Derived.StillTailTactics
import Derived.Lib.BitFns
import Derived.Laws.BitsAllLaws
import Derived.Laws.EntriesVeiled
import Derived.Deep.DeepAppendRoom
import Derived.Deep.RegionHeld3
import Derived.Deep.DeepCutAuto
import Derived.Room.AppendFits
import Derived.Laws.MakeOwn
namespace Go.Proofs
open Go.Shelf
def Tryd.lays129_ren : Go.Shelf.Ren := ⟨fun | 129 => 126 | n => n, fun | 53 => 108 | 3 => 3 | 4 => 4 | 46 => 123 | 5 => 5 | 9 => 9 | n => n, fun | n => n⟩
theorem Tryd.lays129 : Go.Proofs.Lays.n129 Tryd.prog Tryd.lays129_ren := {
  mixed := by kernel_rfl
  f129 := Tryd.func126.trans (congrArg some (by kernel_rfl))
  t3 := Tryd.underlying3
  a3 := Tryd.isAgg3
  z3 := Tryd.sizeOf3
  v3 := Tryd.zeroValue3
  t4 := Tryd.underlying4
  a4 := Tryd.isAgg4
  z4 := Tryd.sizeOf4
  v4 := Tryd.zeroValue4
  t5 := Tryd.underlying5
  a5 := Tryd.isAgg5
  z5 := Tryd.sizeOf5
  v5 := Tryd.zeroValue5
  t9 := Tryd.underlying9
  a9 := Tryd.isAgg9
  z9 := Tryd.sizeOf9
  v9 := Tryd.zeroValue9
  t46 := Tryd.underlying123
  a46 := Tryd.isAgg123
  z46 := Tryd.sizeOf123
  v46 := Tryd.zeroValue123
  t53 := Tryd.underlying108
  a53 := Tryd.isAgg108
  z53 := Tryd.sizeOf108
  v53 := Tryd.zeroValue108 }
/-- bits.Len64: "Len64 returns the minimum number of bits required to represent x; the result is 0 for x == 0.": IT RETURNS 'Lib.bitLen x'; the world is as it was. ('h0', 'h1': x is a uint64.) (LAID: no walk: one application.) -/
theorem Tryd.bits_Len64 (x : Int) (w : World) (h0 : 0 ≤ x) (h1 : x ≤ 18446744073709551615) :
    Calls Tryd.prog 126 #[.int .u64 x] w fun e w' => e = .returned (.int .i64 (Lib.bitLen x.toNat)) ∧ w' = w := Any.bits_Len64 Tryd.lays129 x w h0 h1
end Go.Proofs

namespace Go.Proofs.YtfmngeemhfpeiaaDoor.K
open Go.RowKit

theorem ret_int {k : IntKind} {a b : Int} (h : a = b) : Ending.returned (.int k a) = .returned (.int k b) := by rw [h]

theorem gtrans {a b c : World} {row : Option Nat} (h : a.grownBy b row) (k : b.grownBy c row) : a.grownBy c row :=
  ⟨k.os.trans h.os, k.tape.trans h.tape, k.output.trans h.output, Nat.le_trans h.size k.size, fun i hi hne => (k.block i (Nat.lt_of_lt_of_le hi h.size) hne).trans (h.block i hi hne)⟩
theorem gbelow {a b : World} {row : Option Nat} (h : Below a.heap.size a b) : a.grownBy b row := ⟨h.os, h.tape, h.output, h.size, fun i hi _ => h.block i hi⟩
/-- What is grown by a row from B on is as it was below B. -/
theorem belowg {a b : World} {g B : Nat} (h : a.grownBy b (some g)) (hB : B ≤ a.heap.size) (hg : B ≤ g) : Below B a b :=
  ⟨h.os, h.tape, h.output, h.size, fun i hi => h.block i (by omega) (by simp; omega)⟩

inductive V where
  | mk (k n : Int) (s : ByteArray) (l : List V)

def In64 (k : Int) : Prop := -9223372036854775808 ≤ k ∧ k ≤ 9223372036854775807

mutual
def V.At (w : World) (B : Nat) : V → Value → Prop
  | ⟨k, n, s, l⟩, v => In64 k ∧ In64 n ∧ s.size ≤ maxLen ∧ ∃ a cap, v = .agg #[.int .i64 k, .int .i64 n, .string s, .slice a l.length cap] ∧ l.length ≤ cap ∧ cap ≤ maxLen ∧
      (l = [] ∨ ∃ b off, a = some ⟨b, off, none⟩ ∧ b < B ∧ AtL w B l b off)
def AtL (w : World) (B : Nat) : List V → Nat → Nat → Prop
  | [], _, _ => True
  | x :: xs, b, off => (∃ c0 c1 c2 c3, w.cell? ⟨b, off, none⟩ = some c0 ∧ w.cell? ⟨b, off + 1, none⟩ = some c1 ∧ w.cell? ⟨b, off + 2, none⟩ = some c2 ∧ w.cell? ⟨b, off + 3, none⟩ = some c3 ∧
      V.At w B x (.agg #[c0, c1, c2, c3])) ∧ AtL w B xs b (off + 4)
end

mutual
theorem V.At.below {w w' : World} {B : Nat} (hb : Below B w w') : ∀ (x : V) (v : Value), V.At w B x v → V.At w' B x v
  | ⟨k, n, s, l⟩, v, h => by
    unfold V.At at h ⊢
    obtain ⟨h1, h2, h3, a, cap, h4, h5, h6, h7⟩ := h
    refine ⟨h1, h2, h3, a, cap, h4, h5, h6, ?_⟩
    rcases h7 with h7 | ⟨b, off, h8, h9, h10⟩
    · exact .inl h7
    · exact .inr ⟨b, off, h8, h9, AtL.below hb l b off h9 h10⟩
theorem AtL.below {w w' : World} {B : Nat} (hb : Below B w w') : ∀ (l : List V) (b off : Nat), b < B → AtL w B l b off → AtL w' B l b off
  | [], _, _, _, _ => by unfold AtL; trivial
  | x :: xs, b, off, hB, h => by
    unfold AtL at h ⊢
    obtain ⟨⟨c0, c1, c2, c3, e0, e1, e2, e3, h0⟩, hr⟩ := h
    exact ⟨⟨c0, c1, c2, c3, (hb.cell (p := ⟨b, off, none⟩) hB).trans e0, (hb.cell (p := ⟨b, off + 1, none⟩) hB).trans e1, (hb.cell (p := ⟨b, off + 2, none⟩) hB).trans e2, (hb.cell (p := ⟨b, off + 3, none⟩) hB).trans e3,
      V.At.below hb x _ h0⟩, AtL.below hb xs b _ hB hr⟩
end

mutual
theorem V.At.mono {w : World} {B B' : Nat} (hb : B ≤ B') : ∀ (x : V) (v : Value), V.At w B x v → V.At w B' x v
  | ⟨k, n, s, l⟩, v, h => by
    unfold V.At at h ⊢
    obtain ⟨h1, h2, h3, a, cap, h4, h5, h6, h7⟩ := h
    refine ⟨h1, h2, h3, a, cap, h4, h5, h6, ?_⟩
    rcases h7 with h7 | ⟨b, off, h8, h9, h10⟩
    · exact .inl h7
    · exact .inr ⟨b, off, h8, by omega, AtL.mono hb l b off h10⟩
theorem AtL.mono {w : World} {B B' : Nat} (hb : B ≤ B') : ∀ (l : List V) (b off : Nat), AtL w B l b off → AtL w B' l b off
  | [], _, _, _ => by unfold AtL; trivial
  | x :: xs, b, off, h => by
    unfold AtL at h ⊢
    obtain ⟨⟨c0, c1, c2, c3, e0, e1, e2, e3, h0⟩, hr⟩ := h
    exact ⟨⟨c0, c1, c2, c3, e0, e1, e2, e3, V.At.mono hb x _ h0⟩, AtL.mono hb xs b _ hr⟩
end

/-- The element at an index. -/
theorem AtL.get {w : World} {B : Nat} : ∀ (l : List V) (b off i : Nat) (hi : i < l.length), AtL w B l b off →
    ∃ c0 c1 c2 c3, w.cell? ⟨b, off + i * 4, none⟩ = some c0 ∧ w.cell? ⟨b, off + i * 4 + 1, none⟩ = some c1 ∧ w.cell? ⟨b, off + i * 4 + 2, none⟩ = some c2 ∧ w.cell? ⟨b, off + i * 4 + 3, none⟩ = some c3 ∧
      V.At w B l[i] (.agg #[c0, c1, c2, c3])
  | x :: xs, b, off, 0, _, h => by
    unfold AtL at h
    obtain ⟨⟨c0, c1, c2, c3, e0, e1, e2, e3, h0⟩, _⟩ := h
    exact ⟨c0, c1, c2, c3, by simpa using e0, by simpa using e1, by simpa using e2, by simpa using e3, h0⟩
  | x :: xs, b, off, i + 1, hi, h => by
    unfold AtL at h
    have := AtL.get xs b (off + 4) i (by simpa using hi) h.2
    rw [show off + 4 + i * 4 = off + (i + 1) * 4 by omega] at this
    exact this

/-- .. with its parts. -/
theorem AtL.got {w : World} {B : Nat} (l : List V) (b off i : Nat) (hi : i < l.length) (h : AtL w B l b off) :
    ∃ (k n : Int) (s : ByteArray) (a : Option Addr) (len cap : Nat), w.cell? ⟨b, off + i * 4, none⟩ = some (.int .i64 k) ∧ w.cell? ⟨b, off + i * 4 + 1, none⟩ = some (.int .i64 n) ∧ w.cell? ⟨b, off + i * 4 + 2, none⟩ = some (.string s) ∧
      w.cell? ⟨b, off + i * 4 + 3, none⟩ = some (.slice a len cap) ∧ V.At w B l[i] (.agg #[.int .i64 k, .int .i64 n, .string s, .slice a len cap]) := by
  obtain ⟨c0, c1, c2, c3, e0, e1, e2, e3, h0⟩ := AtL.get l b off i hi h
  generalize l[i] = x at *
  obtain ⟨k, n, s, l2⟩ := x
  have h0' := h0
  unfold V.At at h0'
  obtain ⟨_, _, _, a, cap, hv, _⟩ := h0'
  simp only [Value.agg.injEq, Array.mk.injEq, List.cons.injEq, and_true] at hv
  obtain ⟨rfl, rfl, rfl, rfl⟩ := hv
  exact ⟨k, n, s, a, l2.length, cap, e0, e1, e2, e3, h0⟩

/-! ### Equality -/
mutual
def V.same : V → V → Bool
  | ⟨k, n, s, l⟩, ⟨k', n', s', l'⟩ => k == k' && (n == n' && (s.toList == s'.toList && V.sames l l'))
def V.sames : List V → List V → Bool
  | [], [] => true
  | x :: xs, y :: ys => V.same x y && V.sames xs ys
  | _, _ => false
end

mutual
theorem V.same_refl : ∀ x : V, V.same x x = true
  | ⟨k, n, s, l⟩ => by unfold V.same; simp [V.sames_refl l]
theorem V.sames_refl : ∀ l : List V, V.sames l l = true
  | [] => by unfold V.sames; rfl
  | x :: xs => by unfold V.sames; simp [V.same_refl x, V.sames_refl xs]
end

theorem V.sames_len : ∀ (l l' : List V), ¬ l'.length = l.length → V.sames l l' = false
  | [], [], h => by simp at h
  | [], y :: ys, h => by unfold V.sames; rfl
  | x :: xs, [], h => by unfold V.sames; rfl
  | x :: xs, y :: ys, h => by unfold V.sames; rw [V.sames_len xs ys (by simpa using h)]; simp

end Go.Proofs.YtfmngeemhfpeiaaDoor.K

namespace Go.Proofs.YtfmngeemhfpeiaaDoor.K
open Go.RowKit

mutual
def V.formed : V → Bool
  | ⟨k, n, s, l⟩ => if k = 1 then (decide (s.toList = []) && decide (l.length = 0)) else if k = 2 then (decide (n = 0) && decide (l.length = 0)) else
      if k = 3 then (decide (n = 0) && (decide (s.toList = []) && V.formeds l)) else false
def V.formeds : List V → Bool
  | [] => true
  | x :: xs => V.formed x && V.formeds xs
end

/-- The index of the first tree that is not well-formed. -/
def V.illAt : List V → Int → Int
  | [], _ => -1
  | x :: xs, i => if V.formed x = true then V.illAt xs (i + 1) else i

theorem V.illAt_yes : ∀ (l : List V) (i : Int), V.formeds l = true → V.illAt l i = -1
  | [], i, _ => rfl
  | x :: xs, i, h => by
    unfold V.formeds at h
    simp at h
    unfold V.illAt
    rw [if_pos h.1]; exact V.illAt_yes xs _ h.2
theorem V.illAt_no : ∀ (l : List V) (i : Int), 0 ≤ i → V.formeds l = false → 0 ≤ V.illAt l i
  | [], i, _, h => by unfold V.formeds at h; simp at h
  | x :: xs, i, hi, h => by
    unfold V.illAt
    split
    · rename_i hx
      unfold V.formeds at h
      rw [hx] at h
      exact V.illAt_no xs _ (by omega) (by simpa using h)
    · exact hi

def CForm (x : V) : Prop := ∀ (w : World) (B : Nat) (v : Value), B ≤ w.heap.size → V.At w B x v →
  Calls Tryd.prog 113 #[v] w fun e w' => e = .returned (.bool x.formed) ∧ Below w.heap.size w w'

set_option maxHeartbeats 400000 in
theorem ill_any (x : V) (hx : CForm x) (w : World) (B : Nat) (v : Value) (hB : B ≤ w.heap.size) (h : V.At w B x v) :
    Calls Tryd.prog 119 #[v] w fun e w' => e = .returned (.bool !x.formed) ∧ Below w.heap.size w w' := by
  have hc : ∀ W, Below w.heap.size w W → Calls Tryd.prog 113 #[v] W fun e w' => e = .returned (.bool x.formed) ∧ Below W.heap.size W w' :=
    fun W hW => hx W B v (by have := hW.size; omega) (V.At.below (hW.mono hB) _ _ h)
  obtain ⟨q, hq⟩ : ∃ q, x.formed = q := ⟨_, rfl⟩
  rw [hq] at hc ⊢
  obtain ⟨k, n, s, l⟩ := x
  unfold V.At at h
  obtain ⟨h1, h2, h3, a, cap, rfl, _⟩ := h
  have HC := Lib.hid hc
  clear hc hx h1 h2 hq
  go_enter Tryd.func119, Tryd.ntmps119
  go_wp2_with fail
  refine (HC.out _ (by go_grown)).mono ?_
  rintro e w3 ⟨rfl, hb3⟩
  go_wp2
  go_ret
  exact ⟨rfl, Below.trans (by go_grown) (hb3.mono (by simp))⟩

set_option maxHeartbeats 400000 in
theorem idxFunc_0 (a : Option Addr) (cap : Nat) (w : World) :
    Calls Tryd.prog 127 #[.slice a 0 cap, .func (.func 119) #[] #[]] w fun e w' => e = .returned (.int .i64 (-1)) ∧ Below w.heap.size w w' := by
  go_enter Tryd.func127, Tryd.ntmps127
  go_wp2
  go_rounds 1
  go_ret
  exact ⟨rfl, by go_grown⟩

set_option maxHeartbeats 400000 in
theorem idxFunc_5 (l : List V) (ih : ∀ x ∈ l, CForm x) (b off cap : Nat) (w : World) (hb : b < w.heap.size) (hcap : l.length ≤ cap) (hm : cap ≤ maxLen) (h : AtL w w.heap.size l b off) :
    Calls Tryd.prog 127 #[.slice (some ⟨b, off, none⟩) l.length cap, .func (.func 119) #[] #[]] w fun e w' => e = .returned (.int .i64 (V.illAt l 0)) ∧ Below w.heap.size w w' := by
  unfold maxLen at hm
  obtain ⟨len, hlen⟩ : ∃ len, l.length = len := ⟨_, rfl⟩
  rw [hlen] at hcap ⊢
  have HLEN := Lib.hid hlen; clear hlen
  go_enter Tryd.func127, Tryd.ntmps127
  go_wp2
  go_loopw [8] (fun i wr => ∃ m : Nat, i = .int .i64 m ∧ m ≤ len ∧ V.illAt l 0 = V.illAt (l.drop m) m ∧ Below w.heap.size w wr) (fun i _ => len - (intOf i).toNat)
  case atStart => exact ⟨0, rfl, Nat.zero_le _, by simp, Below.refl _ _⟩
  case round =>
    obtain ⟨m, rfl, hmle, hsm, hBr⟩ := hrel
    have HSM := Lib.hid hsm; clear hsm
    have hzr := hBr.size
    by_cases hlt : m < len
    · obtain ⟨k, n, s, a, ln, cp, g0, g1, g2, g3, ga⟩ := AtL.got l b off m (by rw [HLEN.out]; exact hlt) (AtL.below hBr l b off hb h)
      have GA := Lib.hid ga; clear ga
      have hq : V.illAt l 0 = if (l[m]'(by rw [HLEN.out]; exact hlt)).formed = true then V.illAt (l.drop (m + 1)) ((m + 1 : Nat) : Int) else (m : Int) := by
        rw [HSM.out, List.drop_eq_getElem_cons (by rw [HLEN.out]; exact hlt)]; simp only [V.illAt]; rfl
      have hc : ∀ W, Below w.heap.size wr W → Calls Tryd.prog 119 #[.agg #[.int .i64 k, .int .i64 n, .string s, .slice a ln cp]] W fun e w' => e = .returned (.bool !(l[m]'(by rw [HLEN.out]; exact hlt)).formed) ∧ Below W.heap.size W w' := by
        intro W hW
        exact ill_any _ (ih _ (List.getElem_mem (by rw [HLEN.out]; exact hlt))) W w.heap.size _ (by have := hW.size; omega) (V.At.below hW _ _ GA.out)
      obtain ⟨r, hr⟩ : ∃ r, (l[m]'(by rw [HLEN.out]; exact hlt)).formed = r := ⟨_, rfl⟩
      rw [hr] at hq hc
      have HQ := Lib.hid hq
      have HC := Lib.hid hc
      clear hq hc hr h
      go_wp2_with fail
      refine (HC.out _ (by go_grown)).mono ?_
      rintro e w3 ⟨rfl, hb3⟩
      have hB3 : Below w.heap.size w w3 := hBr.trans (hb3.mono hzr)
      clear hb3
      cases r
      · go_wp2
        go_ret
        exact ⟨by rw [HQ.out]; rfl, hB3⟩
      · go_wp2
        go_roundw
        case rel => exact ⟨m + 1, by go_num, by omega, by rw [HQ.out]; rfl, hB3⟩
        case measure => simp [intOf]; omega
    · have hme : m = len := by omega
      have hq : V.illAt l 0 = -1 := by
        rw [HSM.out, hme, List.drop_of_length_le (by rw [HLEN.out]; exact Nat.le_refl _)]; rfl
      have HQ := Lib.hid hq
      clear hq hme h
      go_wp2
      go_ret
      exact ⟨by rw [HQ.out]; rfl, hBr⟩

set_option maxHeartbeats 400000 in
theorem contFunc_any (l : List V) (ih : ∀ x ∈ l, CForm x) (a : Option Addr) (cap : Nat) (w : World) (hcap : l.length ≤ cap) (hm : cap ≤ maxLen) (h : l = [] ∨ ∃ b off, a = some ⟨b, off, none⟩ ∧ b < w.heap.size ∧ AtL w w.heap.size l b off) :
    Calls Tryd.prog 118 #[.slice a l.length cap, .func (.func 119) #[] #[]] w fun e w' => e = .returned (.bool !V.formeds l) ∧ Below w.heap.size w w' := by
  have hc : Calls Tryd.prog 127 #[.slice a l.length cap, .func (.func 119) #[] #[]] w fun e w' => e = .returned (.int .i64 (V.illAt l 0)) ∧ Below w.heap.size w w' := by
    rcases h with rfl | ⟨b, off, rfl, hb, h⟩
    · exact idxFunc_0 a cap w
    · exact idxFunc_5 l ih b off cap w hb hcap hm h
  have hq : (V.formeds l = true ∧ V.illAt l 0 = -1) ∨ (V.formeds l = false ∧ 0 ≤ V.illAt l 0) := by
    cases e : V.formeds l
    · exact .inr ⟨rfl, V.illAt_no l 0 (by omega) e⟩
    · exact .inl ⟨rfl, V.illAt_yes l 0 e⟩
  have HC := Lib.hid hc
  obtain ⟨q, hqq⟩ : ∃ q, V.illAt l 0 = q := ⟨_, rfl⟩
  rw [hqq] at hq HC
  clear hc hqq h ih
  rcases hq with ⟨h1, rfl⟩ | ⟨h1, h2⟩
  · rw [h1]
    clear h1
    go_enter Tryd.func118, Tryd.ntmps118
    go_wp2_with fail
    refine HC.out.mono ?_
    rintro e w3 ⟨rfl, hb3⟩
    go_wp2
    go_ret
    exact ⟨rfl, hb3⟩
  · rw [h1]
    clear h1
    have h3 : decide (0 ≤ q) = true := by simpa using h2
    go_enter Tryd.func118, Tryd.ntmps118
    go_wp2_with fail
    refine HC.out.mono ?_
    rintro e w3 ⟨rfl, hb3⟩
    go_wp2
    go_ret
    exact ⟨by simp, hb3⟩

set_option maxHeartbeats 400000 in
theorem cform_1 (n : Int) (s : ByteArray) (a : Option Addr) (len cap : Nat) (w : World) :
    Calls Tryd.prog 113 #[.agg #[.int .i64 1, .int .i64 n, .string s, .slice a len cap]] w
      fun e w' => e = .returned (.bool (decide (s.toList = []) && decide (len = 0))) ∧ Below w.heap.size w w' := by
  by_cases hs : s.toList = []
  · by_cases hl : len = 0
    · subst hl
      go_enter Tryd.func113, Tryd.ntmps113
      go_wp2
      go_ret
      exact ⟨by simp [hs], by go_grown⟩
    · have hl' : ((len : Int) == 0) = false := by simpa using hl
      go_enter Tryd.func113, Tryd.ntmps113
      go_wp2
      go_ret
      exact ⟨by simp [hl], by go_grown⟩
  · go_enter Tryd.func113, Tryd.ntmps113
    go_wp2
    go_ret
    exact ⟨by simp [hs], by go_grown⟩

set_option maxHeartbeats 400000 in
theorem cform_2 (n : Int) (s : ByteArray) (a : Option Addr) (len cap : Nat) (w : World) :
    Calls Tryd.prog 113 #[.agg #[.int .i64 2, .int .i64 n, .string s, .slice a len cap]] w
      fun e w' => e = .returned (.bool (decide (n = 0) && decide (len = 0))) ∧ Below w.heap.size w w' := by
  by_cases hs : n = 0
  · subst hs
    by_cases hl : len = 0
    · subst hl
      go_enter Tryd.func113, Tryd.ntmps113
      go_wp2
      go_ret
      exact ⟨by simp, by go_grown⟩
    · have hl' : ((len : Int) == 0) = false := by simpa using hl
      go_enter Tryd.func113, Tryd.ntmps113
      go_wp2
      go_ret
      exact ⟨by simp [hl], by go_grown⟩
  · have hl' : (n == 0) = false := by simpa using hs
    go_enter Tryd.func113, Tryd.ntmps113
    go_wp2
    go_ret
    exact ⟨by simp [hs], by go_grown⟩

set_option maxHeartbeats 400000 in
theorem cform_3n (n : Int) (hn : n ≠ 0) (s : ByteArray) (a : Option Addr) (len cap : Nat) (w : World) :
    Calls Tryd.prog 113 #[.agg #[.int .i64 3, .int .i64 n, .string s, .slice a len cap]] w
      fun e w' => e = .returned (.bool false) ∧ Below w.heap.size w w' := by
  have hl' : (n == 0) = false := by simpa using hn
  go_enter Tryd.func113, Tryd.ntmps113
  go_wp2
  go_ret
  exact ⟨by simp, by go_grown⟩

set_option maxHeartbeats 400000 in
theorem cform_3s (s : ByteArray) (hs : ¬ s.toList = []) (a : Option Addr) (len cap : Nat) (w : World) :
    Calls Tryd.prog 113 #[.agg #[.int .i64 3, .int .i64 0, .string s, .slice a len cap]] w
      fun e w' => e = .returned (.bool false) ∧ Below w.heap.size w w' := by
  go_enter Tryd.func113, Tryd.ntmps113
  go_wp2
  go_ret
  exact ⟨by simp, by go_grown⟩

set_option maxHeartbeats 400000 in
theorem cform_3 (s : ByteArray) (hs : s.toList = []) (l : List V) (ih : ∀ x ∈ l, CForm x) (a : Option Addr) (cap : Nat) (w : World) (hcap : l.length ≤ cap) (hm : cap ≤ maxLen)
    (h : l = [] ∨ ∃ b off, a = some ⟨b, off, none⟩ ∧ b < w.heap.size ∧ AtL w w.heap.size l b off) :
    Calls Tryd.prog 113 #[.agg #[.int .i64 3, .int .i64 0, .string s, .slice a l.length cap]] w
      fun e w' => e = .returned (.bool (V.formeds l)) ∧ Below w.heap.size w w' := by
  have H := Lib.hid h; clear h
  have IH := Lib.hid ih; clear ih
  have hc : ∀ W, Below w.heap.size w W → Calls Tryd.prog 118 #[.slice a l.length cap, .func (.func 119) #[] #[]] W fun e w' => e = .returned (.bool !V.formeds l) ∧ Below W.heap.size W w' := by
    intro W hW
    refine contFunc_any l IH.out a cap W hcap hm ?_
    rcases H.out with h | ⟨b, off, h1, h2, h3⟩
    · exact .inl h
    · exact .inr ⟨b, off, h1, by have := hW.size; omega, AtL.mono hW.size _ _ _ (AtL.below hW _ _ _ h2 h3)⟩
  have HC := Lib.hid hc
  clear hc
  go_enter Tryd.func113, Tryd.ntmps113
  go_wp2_with fail
  refine (HC.out _ (by go_grown)).mono ?_
  rintro e w3 ⟨rfl, hb3⟩
  go_wp2
  go_ret
  exact ⟨by simp, Below.trans (by go_grown) (hb3.mono (by simp))⟩

set_option maxHeartbeats 400000 in
theorem cform_no (k n : Int) (h1 : k ≠ 1) (h2 : k ≠ 2) (h3 : k ≠ 3) (s : ByteArray) (a : Option Addr) (len cap : Nat) (w : World) :
    Calls Tryd.prog 113 #[.agg #[.int .i64 k, .int .i64 n, .string s, .slice a len cap]] w
      fun e w' => e = .returned (.bool false) ∧ Below w.heap.size w w' := by
  have h1' : (k == 1) = false := by simpa using h1
  have h2' : (k == 2) = false := by simpa using h2
  have h3' : (k == 3) = false := by simpa using h3
  go_enter Tryd.func113, Tryd.ntmps113
  go_wp2
  go_ret
  exact ⟨by simp, by go_grown⟩

theorem cForm : ∀ (N : Nat) (x : V), SizeOf.sizeOf x ≤ N → CForm x
  | 0, ⟨k, n, s, l⟩, h => by simp at h
  | N + 1, ⟨k, n, s, l⟩, h => by
    intro w B v hB hx
    have hx := V.At.mono hB _ _ hx
    unfold V.At at hx
    obtain ⟨h1, h2, h3, a, cap, rfl, h5, h6, h7⟩ := hx
    unfold V.formed
    by_cases e1 : k = 1
    · subst e1
      simp only [if_true]
      exact cform_1 n s a _ cap w
    by_cases e2 : k = 2
    · subst e2
      simp only [show ¬ ((2 : Int) = 1) by omega, if_true, if_false]
      exact cform_2 n s a _ cap w
    by_cases e3 : k = 3
    · subst e3
      simp only [show ¬ ((3 : Int) = 1) by omega, show ¬ ((3 : Int) = 2) by omega, if_true, if_false]
      by_cases hn : n = 0
      · subst hn
        by_cases hs : s.toList = []
        · have e : (decide ((0 : Int) = 0) && (decide (s.toList = []) && V.formeds l)) = V.formeds l := by simp [hs]
          rw [e]
          exact cform_3 s hs l (fun x hx => cForm N x (by have := List.sizeOf_lt_of_mem hx; simp at h; omega)) a cap w h5 h6 h7
        · have e : (decide ((0 : Int) = 0) && (decide (s.toList = []) && V.formeds l)) = false := by simp [hs]
          rw [e]; exact cform_3s s hs a _ cap w
      · have e : (decide (n = 0) && (decide (s.toList = []) && V.formeds l)) = false := by simp [hn]
        rw [e]; exact cform_3n n hn s a _ cap w
    · simp only [e1, e2, e3, if_false]
      exact cform_no k n e1 e2 e3 s a _ cap w

/-! ### Depth -/
mutual
def V.dep : V → Nat
  | ⟨k, _, _, l⟩ => if k = 3 then V.deps l + 1 else 0
def V.deps : List V → Nat
  | [] => 0
  | x :: xs => max (V.dep x) (V.deps xs)
end

def CDep (x : V) : Prop := ∀ (w : World) (B : Nat) (v : Value), V.dep x ≤ 1000000 → B ≤ w.heap.size → V.At w B x v →
  Calls Tryd.prog 114 #[v] w fun e w' => e = .returned (.int .i64 (x.dep : Nat)) ∧ Below w.heap.size w w'

set_option maxHeartbeats 400000 in
theorem dep_no (k n : Int) (h1 : k ≠ 3) (s : ByteArray) (a : Option Addr) (len cap : Nat) (w : World) :
    Calls Tryd.prog 114 #[.agg #[.int .i64 k, .int .i64 n, .string s, .slice a len cap]] w
      fun e w' => e = .returned (.int .i64 0) ∧ Below w.heap.size w w' := by
  have h1' : (k != 3) = true := by simpa using h1
  go_enter Tryd.func114, Tryd.ntmps114
  go_wp2
  go_ret
  exact ⟨rfl, by go_grown⟩

set_option maxHeartbeats 400000 in
theorem dep_0 (n : Int) (s : ByteArray) (a : Option Addr) (cap : Nat) (w : World) :
    Calls Tryd.prog 114 #[.agg #[.int .i64 3, .int .i64 n, .string s, .slice a 0 cap]] w
      fun e w' => e = .returned (.int .i64 1) ∧ Below w.heap.size w w' := by
  go_enter Tryd.func114, Tryd.ntmps114
  go_wp2
  go_rounds 1
  go_ret
  exact ⟨rfl, by go_grown⟩

set_option maxHeartbeats 400000 in
theorem dep_5 (n : Int) (s : ByteArray) (l : List V) (hd : V.deps l ≤ 999999) (ih : ∀ x ∈ l, CDep x) (b off cap : Nat) (w : World) (hb : b < w.heap.size) (hcap : l.length ≤ cap) (hm : cap ≤ maxLen) (h : AtL w w.heap.size l b off) :
    Calls Tryd.prog 114 #[.agg #[.int .i64 3, .int .i64 n, .string s, .slice (some ⟨b, off, none⟩) l.length cap]] w
      fun e w' => e = .returned (.int .i64 ((V.deps l + 1 : Nat) : Int)) ∧ Below w.heap.size w w' := by
  unfold maxLen at hm
  obtain ⟨len, hlen⟩ : ∃ len, l.length = len := ⟨_, rfl⟩
  rw [hlen] at hcap ⊢
  have HLEN := Lib.hid hlen; clear hlen
  have HD := Lib.hid hd; clear hd
  go_enter Tryd.func114, Tryd.ntmps114
  go_wp2
  obtain ⟨w0, hw0⟩ : ∃ w0, w0 = (w.alloc (Obj.cells #[Value.int IntKind.i64 3, Value.int IntKind.i64 n, Value.string s, Value.slice (some ⟨b, off, none⟩) len cap] 115)) := ⟨_, rfl⟩
  rw [← hw0]
  have hz : w0.heap.size = w.heap.size + 1 := by rw [hw0]; simp
  have hB : Below w.heap.size w w0 := by rw [hw0]; go_grown
  clear hw0
  go_loopw [3, 12] (fun t i wr => ∃ m q : Nat, i = .int .i64 m ∧ t = .int .i64 q ∧ m ≤ len ∧ q ≤ 999999 ∧ V.deps l = max q (V.deps (l.drop m)) ∧ Below w.heap.size w wr) (fun _ i _ => len - (intOf i).toNat)
  case atStart => exact ⟨0, 0, rfl, rfl, Nat.zero_le _, by omega, by simp, hB⟩
  case round =>
    obtain ⟨m, q, rfl, rfl, hmle, hq1, hsm, hBr⟩ := hrel
    have HSM := Lib.hid hsm; clear hsm
    have hzr := hBr.size
    by_cases hlt : m < len
    · obtain ⟨k2, n2, s2, a2, ln, cp, g0, g1, g2, g3, ga⟩ := AtL.got l b off m (by rw [HLEN.out]; exact hlt) (AtL.below hBr l b off hb h)
      have GA := Lib.hid ga; clear ga
      have hdl : V.deps (l.drop m) = max (V.dep (l[m]'(by rw [HLEN.out]; exact hlt))) (V.deps (l.drop (m + 1))) := by
        rw [List.drop_eq_getElem_cons (by rw [HLEN.out]; exact hlt)]; simp only [V.deps]
      have hr0 : V.dep (l[m]'(by rw [HLEN.out]; exact hlt)) ≤ 999999 := by
        have h1 := HSM.out; have h2 := HD.out; rw [hdl] at h1; omega
      have hc : ∀ W, Below w.heap.size wr W → Calls Tryd.prog 114 #[.agg #[.int .i64 k2, .int .i64 n2, .string s2, .slice a2 ln cp]] W fun e w' => e = .returned (.int .i64 ((V.dep (l[m]'(by rw [HLEN.out]; exact hlt)) : Nat) : Int)) ∧ Below W.heap.size W w' := by
        intro W hW
        exact ih _ (List.getElem_mem (by rw [HLEN.out]; exact hlt)) W w.heap.size _ (by omega) (by have := hW.size; omega) (V.At.below hW _ _ GA.out)
      obtain ⟨r, hr⟩ : ∃ r, V.dep (l[m]'(by rw [HLEN.out]; exact hlt)) = r := ⟨_, rfl⟩
      rw [hr] at hdl hc hr0
      have hq2 : V.deps l = max (max q r) (V.deps (l.drop (m + 1))) := by rw [HSM.out, hdl]; omega
      have HQ := Lib.hid hq2
      have HC := Lib.hid hc
      clear hq2 hc hr h hdl
      go_wp2_with fail
      refine (HC.out _ (by go_grown)).mono ?_
      rintro e w3 ⟨rfl, hb3⟩
      have hB3 : Below w.heap.size w w3 := hBr.trans (Below.trans (by go_grown) (hb3.mono (by simp; omega)))
      clear hb3
      go_wp2
      refine ⟨⟨m + 1, max q r, by go_num, ?_, by omega, by omega, HQ.out, hB3⟩, by simp [intOf]; omega⟩
      congr 1; first | omega | (split <;> omega) | (simp only [intOf]; omega) | (congr 1; omega)
    · have hme : m = len := by omega
      have hq : V.deps l = q := by
        rw [HSM.out, hme, List.drop_of_length_le (by rw [HLEN.out]; exact Nat.le_refl _)]; unfold V.deps; omega
      have HQ := Lib.hid hq
      clear hq hme h
      go_wp2
      go_ret
      exact ⟨ret_int (by rw [HQ.out]; push_cast; omega), hBr⟩

theorem cDep : ∀ (N : Nat) (x : V), SizeOf.sizeOf x ≤ N → CDep x
  | 0, ⟨k, n, s, l⟩, h => by simp at h
  | N + 1, ⟨k, n, s, l⟩, h => by
    intro w B v hd hB hx
    have hx := V.At.mono hB _ _ hx
    unfold V.At at hx
    obtain ⟨h1, h2, h3, a, cap, rfl, h5, h6, h7⟩ := hx
    unfold V.dep at hd ⊢
    by_cases e3 : k = 3
    · subst e3
      simp only [if_true] at hd ⊢
      rcases h7 with h7 | ⟨b, off, rfl, hb, h10⟩
      · subst h7
        unfold V.deps
        exact dep_0 n s a cap w
      · exact dep_5 n s l (by omega) (fun x hx => cDep N x (by have := List.sizeOf_lt_of_mem hx; simp at h; omega)) b off cap w hb h5 h6 h10
    · simp only [e3, if_false]
      exact dep_no k n e3 s a _ cap w

/-- The answer of Check. -/
def V.chk (x : V) : Int := if x.formed = false then 1 else if 16 < x.dep then 2 else 0

set_option maxHeartbeats 400000 in
theorem check_any (x : V) (w : World) (B : Nat) (v : Value) (hd : V.dep x ≤ 1000000) (hB : B ≤ w.heap.size) (h : V.At w B x v) :
    Calls Tryd.prog 106 #[v] w fun e w' => e = .returned (.int .i64 x.chk) ∧ Below w.heap.size w w' := by
  have hc : ∀ W, Below w.heap.size w W → Calls Tryd.prog 113 #[v] W fun e w' => e = .returned (.bool x.formed) ∧ Below W.heap.size W w' :=
    fun W hW => cForm _ x (Nat.le_refl _) W B v (by have := hW.size; omega) (V.At.below (hW.mono hB) _ _ h)
  have hc2 : ∀ W, Below w.heap.size w W → Calls Tryd.prog 114 #[v] W fun e w' => e = .returned (.int .i64 (x.dep : Nat)) ∧ Below W.heap.size W w' :=
    fun W hW => cDep _ x (Nat.le_refl _) W B v hd (by have := hW.size; omega) (V.At.below (hW.mono hB) _ _ h)
  unfold V.chk
  obtain ⟨q, hq⟩ : ∃ q, x.formed = q := ⟨_, rfl⟩
  obtain ⟨d, hdd⟩ : ∃ d, x.dep = d := ⟨_, rfl⟩
  rw [hq] at hc ⊢
  rw [hdd] at hc2 hd ⊢
  obtain ⟨k, n, s, l⟩ := x
  unfold V.At at h
  obtain ⟨h1, h2, h3, a, cap, rfl, _⟩ := h
  have HC := Lib.hid hc
  have HC2 := Lib.hid hc2
  clear hc hc2 h1 h2 hq hdd
  cases q
  · go_enter Tryd.func106, Tryd.ntmps106
    go_wp2_with fail
    refine (HC.out _ (by go_grown)).mono ?_
    rintro e w3 ⟨rfl, hb3⟩
    go_wp2
    go_ret
    exact ⟨rfl, Below.trans (by go_grown) (hb3.mono (by simp))⟩
  · go_enter Tryd.func106, Tryd.ntmps106
    go_wp2_with fail
    refine (HC.out _ (by go_grown)).mono ?_
    rintro e w3 ⟨rfl, hb3⟩
    have hs3 := hb3.size
    have hc0 : ∀ i v, (w.alloc (Obj.cells #[Value.int IntKind.i64 k, Value.int IntKind.i64 n, Value.string s, Value.slice a l.length cap] 115)).cell? ⟨w.heap.size, i, none⟩ = some v → w3.cell? ⟨w.heap.size, i, none⟩ = some v :=
      fun i v hv => (hb3.cell (p := ⟨w.heap.size, i, none⟩) (by simp)).trans hv
    have k0 := hc0 0 (.int .i64 k) (by go_cell)
    have k1 := hc0 1 (.int .i64 n) (by go_cell)
    have k2 := hc0 2 (.string s) (by go_cell)
    have k3 := hc0 3 (.slice a l.length cap) (by go_cell)
    have hb4 : Below w.heap.size w w3 := Below.trans (by go_grown) (hb3.mono (by simp))
    clear hc0 hb3
    by_cases h16 : 16 < d
    · have h16' : decide (16 < (d : Int)) = true := by simp; omega
      go_wp2_with fail
      refine (HC2.out _ hb4).mono ?_
      rintro e w5 ⟨rfl, hb5⟩
      go_wp2
      go_ret
      exact ⟨rfl, hb4.trans (hb5.mono hb4.size)⟩
    · have h16' : decide (16 < (d : Int)) = false := by simp; omega
      go_wp2_with fail
      refine (HC2.out _ hb4).mono ?_
      rintro e w5 ⟨rfl, hb5⟩
      go_wp2
      go_ret
      exact ⟨rfl, hb4.trans (hb5.mono hb4.size)⟩

end Go.Proofs.YtfmngeemhfpeiaaDoor.K

namespace Go.Proofs.YtfmngeemhfpeiaaDoor.K
open Go.RowKit

/-- The unsigned form. -/
def zig (n : Int) : Int := if n < 0 then -2 * n - 1 else 2 * n

/-- The numeral of a number. -/
def num (u : Nat) : List UInt8 := if u < 128 then [UInt8.ofNat u] else UInt8.ofNat (u % 128 + 128) :: num (u / 128)
termination_by u
decreasing_by omega

theorem num_lt (u : Nat) (h : u < 128) : num u = [UInt8.ofNat u] := by unfold num; rw [if_pos h]
theorem num_ge (u : Nat) (h : ¬ u < 128) : num u = UInt8.ofNat (u % 128 + 128) :: num (u / 128) := by rw [num]; rw [if_neg h]

theorem num_pos (u : Nat) : 0 < (num u).length := by
  by_cases h : u < 128
  · rw [num_lt u h]; simp
  · rw [num_ge u h]; simp

theorem or_one_nat (u : Nat) : u ||| 1 = u / 2 * 2 + 1 := by
  apply Nat.eq_of_testBit_eq
  intro i
  cases i with
  | zero => simp [Nat.testBit_zero]
  | succ i =>
    rw [Nat.testBit_or, Nat.testBit_succ, Nat.testBit_succ, Nat.testBit_succ]
    have : (u / 2 * 2 + 1) / 2 = u / 2 := by omega
    rw [this]
    simp

theorem bitLen_or_one (y : Nat) (h : 1 ≤ y) (h2 : y < 18446744073709551616) : Lib.bitLen (y ||| 1) = Lib.bitLen y := by
  rw [or_one_nat]
  by_cases hy : y = 1
  · subst hy; rfl
  · rw [Lib.bitLen_shift 1 y (by omega) (by omega), Lib.bitLen_shift 1 (y / 2 * 2 + 1) (by omega) (by omega)]
    congr 2
    omega

theorem bitLen_small : ∀ n : Fin 128, (Lib.bitLen (n.val / 2 * 2 + 1) + 6) / 7 = 1 := by decide +kernel

theorem num_len : ∀ (u : Nat), u < 18446744073709551616 → (num u).length = (Lib.bitLen (u ||| 1) + 6) / 7 := by
  intro u
  induction u using Nat.strongRecOn with
  | _ u ih =>
    intro hu
    by_cases h : u < 128
    · rw [num_lt u h, or_one_nat]
      exact (bitLen_small ⟨u, h⟩).symm
    · rw [num_ge u h, List.length_cons, ih (u / 128) (by omega) (by omega), bitLen_or_one (u / 128) (by omega) (by omega)]
      have e := Lib.bitLen_shift 7 (u ||| 1) (by rw [or_one_nat]; omega) (by rw [or_one_nat]; omega)
      rw [e]
      have : (u ||| 1) / 2 ^ 7 = u / 128 := by rw [or_one_nat]; omega
      rw [this]; omega

theorem num_len_le : ∀ (k u : Nat), u < 128 ^ (k + 1) → (num u).length ≤ k + 1 := by
  intro k
  induction k with
  | zero => intro u hu; rw [num_lt u (by simpa using hu)]; simp
  | succ k ih =>
    intro u hu
    by_cases h : u < 128
    · rw [num_lt u h]; simp
    · rw [num_ge u h, List.length_cons]
      have := ih (u / 128) (by rw [Nat.div_lt_iff_lt_mul (by omega)]; rw [Nat.pow_succ] at hu; exact hu)
      omega

theorem num_len64 (u : Nat) (h : u < 18446744073709551616) : (num u).length ≤ 10 := num_len_le 9 u (by omega)

theorem xor_max (m : Nat) (h : m < 18446744073709551616) : (18446744073709551615 : Nat) ^^^ m = 18446744073709551615 - m := by
  have e : (BitVec.allOnes 64 ^^^ BitVec.ofNat 64 m).toNat = (~~~ BitVec.ofNat 64 m).toNat := by rw [BitVec.allOnes_xor]
  rw [BitVec.toNat_xor, BitVec.toNat_not, BitVec.toNat_allOnes, BitVec.toNat_ofNat] at e
  have e2 : m % 2 ^ 64 = m := Nat.mod_eq_of_lt (by omega)
  rw [e2] at e
  have e3 : (2 : Nat) ^ 64 - 1 = 18446744073709551615 := by decide
  rw [e3] at e
  omega

theorem zig_range (n : Int) (h : In64 n) : 0 ≤ zig n ∧ zig n < 18446744073709551616 := by
  unfold In64 at h
  unfold zig
  split <;> omega

theorem zig_wrap (n : Int) (h : In64 n) (hn : n < 0) : bits .xor .u64 IntKind.u64.max (IntKind.u64.wrap (IntKind.u64.wrap n * 2)) = zig n := by
  have hz := zig_range n h
  unfold In64 at h
  have e1 : IntKind.u64.wrap n = n + 18446744073709551616 := by rw [IntKind.wrap_u64]; omega
  have e2 : IntKind.u64.wrap (IntKind.u64.wrap n * 2) = 2 * n + 18446744073709551616 := by rw [e1, IntKind.wrap_u64]; omega
  have e3 : IntKind.u64.max = 18446744073709551615 := rfl
  rw [e2, e3, u64_xor _ _ (by omega) (by omega) (by omega) (by omega)]
  have e4 : (18446744073709551615 : Int).toNat = 18446744073709551615 := rfl
  rw [e4, xor_max _ (by omega)]
  unfold zig
  rw [if_pos hn]
  omega

end Go.Proofs.YtfmngeemhfpeiaaDoor.K

namespace Go.Proofs.YtfmngeemhfpeiaaDoor.K
open Go.RowKit

set_option maxHeartbeats 400000 in
theorem unsF_neg (k n : Int) (s : ByteArray) (a : Option Addr) (len cap : Nat) (w : World) (hn : In64 n) (h : n < 0) :
    Calls Tryd.prog 120 #[.agg #[.int .i64 k, .int .i64 n, .string s, .slice a len cap]] w
      fun e w' => e = .returned (.int .u64 (zig n)) ∧ Below w.heap.size w w' := by
  unfold In64 at hn
  have hd : decide (n < 0) = true := by simpa using h
  have HZ := Lib.hid (zig_wrap n hn h)
  go_enter Tryd.func120, Tryd.ntmps120
  go_wp2
  go_ret
  exact ⟨ret_int (HZ.out), by go_grown⟩

set_option maxHeartbeats 400000 in
theorem unsF_pos (k n : Int) (s : ByteArray) (a : Option Addr) (len cap : Nat) (w : World) (hn : In64 n) (h : ¬ n < 0) :
    Calls Tryd.prog 120 #[.agg #[.int .i64 k, .int .i64 n, .string s, .slice a len cap]] w
      fun e w' => e = .returned (.int .u64 (zig n)) ∧ Below w.heap.size w w' := by
  unfold In64 at hn
  have hd : decide (n < 0) = false := by simpa using h
  go_enter Tryd.func120, Tryd.ntmps120
  go_wp2
  go_ret
  exact ⟨ret_int (by unfold zig; rw [if_neg (by omega)]; omega), by go_grown⟩

set_option maxHeartbeats 400000 in
theorem txtL (k n : Int) (s : ByteArray) (hs : s.size ≤ maxLen) (a : Option Addr) (len cap : Nat) (w : World) :
    Calls Tryd.prog 122 #[.agg #[.int .i64 k, .int .i64 n, .string s, .slice a len cap]] w
      fun e w' => e = .returned (.int .u64 s.size) ∧ Below w.heap.size w w' := by
  unfold maxLen at hs
  go_enter Tryd.func122, Tryd.ntmps122
  go_wp2
  go_ret
  exact ⟨rfl, by go_grown⟩

set_option maxHeartbeats 400000 in
theorem lstL (k n : Int) (s : ByteArray) (a : Option Addr) (len cap : Nat) (hs : len ≤ maxLen) (w : World) :
    Calls Tryd.prog 124 #[.agg #[.int .i64 k, .int .i64 n, .string s, .slice a len cap]] w
      fun e w' => e = .returned (.int .u64 len) ∧ Below w.heap.size w w' := by
  unfold maxLen at hs
  go_enter Tryd.func124, Tryd.ntmps124
  go_wp2
  go_ret
  exact ⟨rfl, by go_grown⟩

set_option maxHeartbeats 400000 in
theorem wrNo (k n : Int) (s : ByteArray) (a : Option Addr) (len cap : Nat) (b : Option Addr) (m c : Nat) (w : World) :
    Calls Tryd.prog 121 #[.slice b m c, .agg #[.int .i64 k, .int .i64 n, .string s, .slice a len cap]] w
      fun e w' => e = .returned (.slice b m c) ∧ Below w.heap.size w w' := by
  go_enter Tryd.func121, Tryd.ntmps121
  go_wp2
  go_ret
  exact ⟨rfl, by go_grown⟩

set_option maxHeartbeats 400000 in
theorem writers_any (w : World) :
    Calls Tryd.prog 115 #[] w
      fun e w' => e = .returned (.agg #[.nilFunc, .nilFunc, .func (.func 120) #[] #[], .func (.func 121) #[] #[], .func (.func 122) #[] #[], .func (.func 123) #[] #[], .func (.func 124) #[] #[], .func (.func 125) #[] #[]]) ∧ Below w.heap.size w w' := by
  go_enter Tryd.func115, Tryd.ntmps115
  go_wp2
  go_returns
  exact ⟨rfl, by go_grown⟩

set_option maxHeartbeats 400000 in
theorem numSize (u : Nat) (hu : u < 18446744073709551616) (w : World) :
    Calls Tryd.prog 117 #[.int .u64 u] w fun e w' => e = .returned (.int .i64 ((num u).length : Nat)) ∧ w' = w := by
  have hl := num_len u hu
  have hle := num_len64 u hu
  have ho : bits .or .u64 (u : Int) 1 = ((u ||| 1 : Nat) : Int) := u64_or_nat u 1 hu (by omega)
  have hb : u ||| 1 < 18446744073709551616 := by rw [or_one_nat]; omega
  have hc := Go.Proofs.Tryd.bits_Len64 ((u ||| 1 : Nat) : Int) w (by omega) (by omega)
  rw [Int.toNat_natCast] at hc
  obtain ⟨m, hm⟩ : ∃ m, Lib.bitLen (u ||| 1) = m := ⟨_, rfl⟩
  rw [hm] at hl hc
  obtain ⟨x, hx⟩ : ∃ x, u ||| 1 = x := ⟨_, rfl⟩
  rw [hx] at ho hc hb
  obtain ⟨q, hq⟩ : ∃ q, (num u).length = q := ⟨_, rfl⟩
  rw [hq] at hl hle ⊢
  have hm2 : m ≤ 100 := by omega
  have HL := Lib.hid hl
  have HC := Lib.hid hc
  clear hl hc hm hx hq hb
  go_enter Tryd.func117, Tryd.ntmps117
  go_wp2_with fail
  refine HC.out.mono ?_
  rintro e w' ⟨rfl, rfl⟩
  go_wp2
  go_ret
  exact ⟨ret_int (by rw [HL.out]; push_cast; omega), rfl⟩

theorem Tryd.info5 : (Tryd.prog.info? 5).map (fun i => (i.zero, i.size, i.bytes)) = some (some (.int .u8 0), 1, 1) := by kernel_rfl

/-- Bytes as cells. -/
def cells8 (l : List UInt8) : List Value := l.map fun b => .int .u8 b.toNat

/-- A slice that owns a row with room. -/
def Spare (w : World) (g n cap : Nat) (l : List UInt8) : Prop := w.ownsRow 0 5 1 (.slice (some ⟨g, 0, none⟩) n cap) n (cells8 l)

set_option maxHeartbeats 400000 in
theorem wrNum (g cap : Nat) : ∀ (u : Nat), u < 18446744073709551616 → ∀ (n : Nat) (l : List UInt8) (w : World), Spare w g n cap l → n + (num u).length ≤ cap →
    Calls Tryd.prog 116 #[.slice (some ⟨g, 0, none⟩) n cap, .int .u64 u] w
      fun e w' => e = .returned (.slice (some ⟨g, 0, none⟩) (n + (num u).length) cap) ∧ Spare w' g (n + (num u).length) cap (l ++ num u) ∧ w.grownBy w' (some g) := by
  intro u hu n l w hs hr
  have HS := Lib.hid hs; clear hs
  have HR := Lib.hid hr; clear hr
  go_enter Tryd.func116, Tryd.ntmps116
  go_wp2
  go_loopw [0, 1] (fun b t wr => ∃ (m : Nat) (v : Nat) (l' : List UInt8), b = .slice (some ⟨g, 0, none⟩) m cap ∧ t = .int .u64 v ∧ v < 18446744073709551616 ∧ m + (num v).length = n + (num u).length ∧ l' ++ num v = l ++ num u ∧ Spare wr g m cap l' ∧ w.grownBy wr (some g)) (fun _ t _ => (intOf t).toNat)
  case atStart => exact ⟨n, u, l, rfl, rfl, hu, rfl, rfl, HS.out, ⟨rfl, rfl, rfl, Nat.le_refl _, fun _ _ _ => rfl⟩⟩
  case round =>
    obtain ⟨m, v, l', rfl, rfl, hv, hm, hl, hsp, hg⟩ := hrel
    have HM := Lib.hid hm; clear hm
    have HLL := Lib.hid hl; clear hl
    have HSP := Lib.hid hsp; clear hsp
    obtain ⟨i0, hi, hz0, hz1, hz2⟩ := info_parts Tryd.info5
    by_cases h : v < 128
    · have hd : decide (128 ≤ (v : Int)) = false := by simp; omega
      have hlv : (num v).length = 1 := by rw [num_lt v h]; rfl
      have e8 : ((UInt8.ofNat v).toNat : Int) = v := by simp; omega
      have hroom : m + 1 ≤ cap := by have h1 := HM.out; have h2 := HR.out; omega
      have hown : wr.ownsRow 0 5 1 (.slice (some ⟨g, 0, none⟩) m cap) m (cells8 l') := HSP.out
      have HE : Hid (((UInt8.ofNat v).toNat : Int) = v) := e8
      have HLV : Hid ((num v).length = 1) := hlv
      have HOWN := Lib.hid hown
      clear e8 hlv hown
      go_wp2_with ((at_builtin; refine wpList_append_own_spare _ rfl (.tmp 16) (.tmp 19) 34 rfl 0 5 i0 1 Tryd.underlying34 hi hz1 g m cap _ rfl (HOWN.out.alloc _) ⟨wr.heap.size, 0, none⟩ 1 1 [.int .u8 v] rfl rfl (cell_one_new _ _ _) (by intro u hu; simp at hu; subst hu; rfl) hroom ?_; intro w1 hown1 hgrow1))
      have HO1 := Lib.hid hown1
      clear hown1 HOWN HSP
      go_wp2
      go_ret
      have e1 : n + (num u).length = m + 1 := by have h1 := HM.out; have h2 := HLV.out; omega
      have e2 : l ++ num u = l' ++ [UInt8.ofNat v] := by rw [← HLL.out, num_lt v h]
      refine ⟨by rw [e1]; rfl, ?_, gtrans hg (gtrans (World.grownBy_alloc _ _ _) hgrow1)⟩
      rw [e1, e2]
      have := HO1.out
      unfold Spare cells8 at *
      rw [List.map_append, List.map_cons, List.map_nil, HE.out]
      exact this
    · have hd : decide (128 ≤ (v : Int)) = true := by simp; omega
      have hroom : m + 1 ≤ cap := by have h1 := HM.out; have h2 := HR.out; have := num_pos v; omega
      have hown : wr.ownsRow 0 5 1 (.slice (some ⟨g, 0, none⟩) m cap) m (cells8 l') := HSP.out
      have HOWN := Lib.hid hown
      clear hown
      go_wp2_with ((at_builtin; refine wpList_append_own_spare _ rfl (.tmp 7) (.tmp 12) 34 rfl 0 5 i0 1 Tryd.underlying34 hi hz1 g m cap _ rfl (HOWN.out.alloc _) ⟨wr.heap.size, 0, none⟩ 1 1 [.int .u8 (v % 128 + 128)] rfl rfl (cell_one_new _ _ _) (by intro u hu; simp at hu; subst hu; rfl) hroom ?_; intro w1 hown1 hgrow1))
      have HO1 := Lib.hid hown1
      clear hown1 HOWN HSP
      have e8 : ((UInt8.ofNat (v % 128 + 128)).toNat : Int) = (v : Int) % 128 + 128 := by simp; omega
      refine ⟨⟨m + 1, v / 128, l' ++ [UInt8.ofNat (v % 128 + 128)], rfl, by congr 1, by omega, ?_, ?_, ?_, gtrans hg (gtrans (World.grownBy_alloc _ _ _) hgrow1)⟩, by simp [intOf]; omega⟩
      · have h1 := HM.out; rw [num_ge v h, List.length_cons] at h1; omega
      · rw [← HLL.out, num_ge v h, List.append_assoc]; rfl
      · have := HO1.out
        unfold Spare cells8 at *
        rw [List.map_append, List.map_cons, List.map_nil, e8]
        exact this

end Go.Proofs.YtfmngeemhfpeiaaDoor.K

namespace Go.Proofs.YtfmngeemhfpeiaaDoor.K
open Go.RowKit

mutual
/-- The encoding of a well-formed tree. -/
def V.enc : V → List UInt8
  | ⟨k, n, s, l⟩ => if k = 1 then 1 :: num (zig n).toNat else if k = 2 then 2 :: (num s.size ++ s.data.toList) else 3 :: (num l.length ++ V.encs l)
def V.encs : List V → List UInt8
  | [] => []
  | x :: xs => V.enc x ++ V.encs xs
end

theorem V.encs_nil : V.encs [] = [] := by rw [V.encs]
theorem V.encs_cons (x : V) (xs : List V) : V.encs (x :: xs) = V.enc x ++ V.encs xs := by rw [V.encs]
theorem V.formeds_cons (x : V) (xs : List V) : V.formeds (x :: xs) = (V.formed x && V.formeds xs) := by rw [V.formeds]

/-- The array of writers. -/
abbrev wrArr : Value := .agg #[.nilFunc, .nilFunc, .func (.func 120) #[] #[], .func (.func 121) #[] #[], .func (.func 122) #[] #[], .func (.func 123) #[] #[], .func (.func 124) #[] #[], .func (.func 125) #[] #[]]
theorem idx_1 (w : World) : (Instr.index 136 wrArr (.int .i64 1)).run Tryd.prog w = .ok (.agg #[.func (.func 120) #[] #[], .func (.func 121) #[] #[]]) w := by kernel_rfl
theorem idx_2 (w : World) : (Instr.index 136 wrArr (.int .i64 2)).run Tryd.prog w = .ok (.agg #[.func (.func 122) #[] #[], .func (.func 123) #[] #[]]) w := by kernel_rfl
theorem idx_3 (w : World) : (Instr.index 136 wrArr (.int .i64 3)).run Tryd.prog w = .ok (.agg #[.func (.func 124) #[] #[], .func (.func 125) #[] #[]]) w := by kernel_rfl

theorem fld_1 (w : World) : (Instr.field 135 (.agg #[.func (.func 120) #[] #[], .func (.func 121) #[] #[]]) 0).run Tryd.prog w = .ok (.func (.func 120) #[] #[]) w := by kernel_rfl
theorem fld_2 (w : World) : (Instr.field 135 (.agg #[.func (.func 122) #[] #[], .func (.func 123) #[] #[]]) 0).run Tryd.prog w = .ok (.func (.func 122) #[] #[]) w := by kernel_rfl
theorem fld_3 (w : World) : (Instr.field 135 (.agg #[.func (.func 124) #[] #[], .func (.func 125) #[] #[]]) 0).run Tryd.prog w = .ok (.func (.func 124) #[] #[]) w := by kernel_rfl

/-- A world that is w below its heap's end, and has grown. -/
def Kept (w1 W : World) : Prop := Below w1.heap.size w1 W
theorem Kept.below {w1 W : World} (h : Kept w1 W) : Below w1.heap.size w1 W := h
theorem Kept.next {w1 W W' : World} (h : Kept w1 W) (k : Below W.heap.size W W') : Kept w1 W' := Below.trans h (k.mono h.size)
theorem Kept.refl (w1 : World) : Kept w1 w1 := Below.refl _ _
theorem Kept.drew {w1 W : World} (h : Kept w1 W) : Kept w1 W.drew := Below.drew h

def CSize (x : V) : Prop := ∀ (w : World) (B : Nat) (v : Value), x.formed = true → x.enc.length ≤ 1000000000 → B ≤ w.heap.size → V.At w B x v →
  Calls Tryd.prog 108 #[v] w fun e w' => e = .returned (.int .i64 (x.enc.length : Nat)) ∧ Below w.heap.size w w'

set_option maxHeartbeats 400000 in
theorem size_01 (n : Int) (s : ByteArray) (a : Option Addr) (cap : Nat) (w : World) (u : Nat) (hbd : 1 + (num u).length + s.size ≤ 1000000000)
    (hu : u < 18446744073709551616)
    (hN : ∀ W, Calls Tryd.prog 120 #[.agg #[.int .i64 1, .int .i64 n, .string s, .slice a 0 cap]] W fun e w' => e = .returned (.int .u64 (u : Nat)) ∧ Below W.heap.size W w') :
    Calls Tryd.prog 108 #[.agg #[.int .i64 1, .int .i64 n, .string s, .slice a 0 cap]] w
      fun e w' => e = .returned (.int .i64 ((1 + (num u).length + s.size : Nat) : Int)) ∧ Below w.heap.size w w' := by
  obtain ⟨w1, hw1⟩ : ∃ w1, w1 = w.alloc (Obj.cells #[Value.int IntKind.i64 1, Value.int IntKind.i64 n, Value.string s, Value.slice a 0 cap] 115) := ⟨_, rfl⟩
  have hz1 : w1.heap.size = w.heap.size + 1 := by rw [hw1]; simp
  have hB1 : Below w.heap.size w w1 := by rw [hw1]; go_grown
  have c0 : ∀ W, Kept w1 W → W.cell? ⟨w.heap.size, 0, none⟩ = some (.int .i64 1) := fun W hW => (hW.below.cell (by simp; omega)).trans (by rw [hw1]; go_cell)
  have c1 : ∀ W, Kept w1 W → W.cell? ⟨w.heap.size, 1, none⟩ = some (.int .i64 n) := fun W hW => (hW.below.cell (by simp; omega)).trans (by rw [hw1]; go_cell)
  have c2 : ∀ W, Kept w1 W → W.cell? ⟨w.heap.size, 2, none⟩ = some (.string s) := fun W hW => (hW.below.cell (by simp; omega)).trans (by rw [hw1]; go_cell)
  have c3 : ∀ W, Kept w1 W → W.cell? ⟨w.heap.size, 3, none⟩ = some (.slice a 0 cap) := fun W hW => (hW.below.cell (by simp; omega)).trans (by rw [hw1]; go_cell)
  have hA : ∀ W, Kept w1 W → Calls Tryd.prog 115 #[] W fun e w' => e = .returned (.agg #[.nilFunc, .nilFunc, .func (.func 120) #[] #[], .func (.func 121) #[] #[], .func (.func 122) #[] #[], .func (.func 123) #[] #[], .func (.func 124) #[] #[], .func (.func 125) #[] #[]]) ∧ Kept w1 w' :=
    fun W hW => (writers_any W).mono fun e w' h => ⟨h.1, hW.next h.2⟩
  have hN' : ∀ W, Kept w1 W → Calls Tryd.prog 120 #[.agg #[.int .i64 1, .int .i64 n, .string s, .slice a 0 cap]] W fun e w' => e = .returned (.int .u64 (u : Nat)) ∧ Kept w1 w' :=
    fun W hW => (hN W).mono fun e w' h => ⟨h.1, hW.next h.2⟩
  have hS : ∀ W, Kept w1 W → Calls Tryd.prog 117 #[.int .u64 (u : Nat)] W fun e w' => e = .returned (.int .i64 ((num u).length : Nat)) ∧ Kept w1 w' :=
    fun W hW => (numSize _ hu W).mono fun e w' h => ⟨h.1, by rw [h.2]; exact hW⟩
  have hle := num_len64 u hu
  obtain ⟨q, hq⟩ : ∃ q, (num u).length = q := ⟨_, rfl⟩
  rw [hq] at hS hle hbd ⊢
  have e1 : IntKind.i64.wrap (1 + (q : Int)) = 1 + (q : Int) := IntWalk.i64_in _ (by omega)
  have e2 : IntKind.i64.wrap (1 + (q : Int) + (s.size : Int)) = 1 + (q : Int) + (s.size : Int) := IntWalk.i64_in _ (by omega)
  have HA := Lib.hid hA
  have HN := Lib.hid hN'
  have HS := Lib.hid hS
  have HW := Lib.hid hw1
  clear hA hN hN' hS hw1 hq
  have hidx := idx_1
  have hfld := fld_1
  unfold wrArr at hidx
  go_enter Tryd.func108, Tryd.ntmps108
  go_wp2
  rw [← HW.out]
  go_region_held3 (fun W => Kept w1 W) (first | assumption | exact Kept.drew (Kept.refl _))
    (first | (go_at_call 115; refine (HA.out _ (by assumption)).mono ?_; rintro e w' ⟨rfl, hK⟩) | (go_at_call 117; refine (HS.out _ (by assumption)).mono ?_; rintro e w' ⟨rfl, hK⟩) | (go_at_call 120; refine (HN.out _ (by assumption)).mono ?_; rintro e w' ⟨rfl, hK⟩))
  all_goals
    clear c0 c1 c2
    go_wp2
    go_rounds 1
    go_ret
    exact ⟨ret_int (by push_cast; omega), hB1.trans ((‹Kept w1 _›).below.mono (by omega))⟩

set_option maxHeartbeats 400000 in
theorem size_02 (n : Int) (s : ByteArray) (a : Option Addr) (cap : Nat) (w : World) (u : Nat) (hbd : 1 + (num u).length + s.size ≤ 1000000000)
    (hu : u < 18446744073709551616)
    (hN : ∀ W, Calls Tryd.prog 122 #[.agg #[.int .i64 2, .int .i64 n, .string s, .slice a 0 cap]] W fun e w' => e = .returned (.int .u64 (u : Nat)) ∧ Below W.heap.size W w') :
    Calls Tryd.prog 108 #[.agg #[.int .i64 2, .int .i64 n, .string s, .slice a 0 cap]] w
      fun e w' => e = .returned (.int .i64 ((1 + (num u).length + s.size : Nat) : Int)) ∧ Below w.heap.size w w' := by
  obtain ⟨w1, hw1⟩ : ∃ w1, w1 = w.alloc (Obj.cells #[Value.int IntKind.i64 2, Value.int IntKind.i64 n, Value.string s, Value.slice a 0 cap] 115) := ⟨_, rfl⟩
  have hz1 : w1.heap.size = w.heap.size + 1 := by rw [hw1]; simp
  have hB1 : Below w.heap.size w w1 := by rw [hw1]; go_grown
  have c0 : ∀ W, Kept w1 W → W.cell? ⟨w.heap.size, 0, none⟩ = some (.int .i64 2) := fun W hW => (hW.below.cell (by simp; omega)).trans (by rw [hw1]; go_cell)
  have c1 : ∀ W, Kept w1 W → W.cell? ⟨w.heap.size, 1, none⟩ = some (.int .i64 n) := fun W hW => (hW.below.cell (by simp; omega)).trans (by rw [hw1]; go_cell)
  have c2 : ∀ W, Kept w1 W → W.cell? ⟨w.heap.size, 2, none⟩ = some (.string s) := fun W hW => (hW.below.cell (by simp; omega)).trans (by rw [hw1]; go_cell)
  have c3 : ∀ W, Kept w1 W → W.cell? ⟨w.heap.size, 3, none⟩ = some (.slice a 0 cap) := fun W hW => (hW.below.cell (by simp; omega)).trans (by rw [hw1]; go_cell)
  have hA : ∀ W, Kept w1 W → Calls Tryd.prog 115 #[] W fun e w' => e = .returned (.agg #[.nilFunc, .nilFunc, .func (.func 120) #[] #[], .func (.func 121) #[] #[], .func (.func 122) #[] #[], .func (.func 123) #[] #[], .func (.func 124) #[] #[], .func (.func 125) #[] #[]]) ∧ Kept w1 w' :=
    fun W hW => (writers_any W).mono fun e w' h => ⟨h.1, hW.next h.2⟩
  have hN' : ∀ W, Kept w1 W → Calls Tryd.prog 122 #[.agg #[.int .i64 2, .int .i64 n, .string s, .slice a 0 cap]] W fun e w' => e = .returned (.int .u64 (u : Nat)) ∧ Kept w1 w' :=
    fun W hW => (hN W).mono fun e w' h => ⟨h.1, hW.next h.2⟩
  have hS : ∀ W, Kept w1 W → Calls Tryd.prog 117 #[.int .u64 (u : Nat)] W fun e w' => e = .returned (.int .i64 ((num u).length : Nat)) ∧ Kept w1 w' :=
    fun W hW => (numSize _ hu W).mono fun e w' h => ⟨h.1, by rw [h.2]; exact hW⟩
  have hle := num_len64 u hu
  obtain ⟨q, hq⟩ : ∃ q, (num u).length = q := ⟨_, rfl⟩
  rw [hq] at hS hle hbd ⊢
  have e1 : IntKind.i64.wrap (1 + (q : Int)) = 1 + (q : Int) := IntWalk.i64_in _ (by omega)
  have e2 : IntKind.i64.wrap (1 + (q : Int) + (s.size : Int)) = 1 + (q : Int) + (s.size : Int) := IntWalk.i64_in _ (by omega)
  have HA := Lib.hid hA
  have HN := Lib.hid hN'
  have HS := Lib.hid hS
  have HW := Lib.hid hw1
  clear hA hN hN' hS hw1 hq
  have hidx := idx_2
  have hfld := fld_2
  unfold wrArr at hidx
  go_enter Tryd.func108, Tryd.ntmps108
  go_wp2
  rw [← HW.out]
  go_region_held3 (fun W => Kept w1 W) (first | assumption | exact Kept.drew (Kept.refl _))
    (first | (go_at_call 115; refine (HA.out _ (by assumption)).mono ?_; rintro e w' ⟨rfl, hK⟩) | (go_at_call 117; refine (HS.out _ (by assumption)).mono ?_; rintro e w' ⟨rfl, hK⟩) | (go_at_call 122; refine (HN.out _ (by assumption)).mono ?_; rintro e w' ⟨rfl, hK⟩))
  all_goals
    clear c0 c1 c2
    go_wp2
    go_rounds 1
    go_ret
    exact ⟨ret_int (by push_cast; omega), hB1.trans ((‹Kept w1 _›).below.mono (by omega))⟩

set_option maxHeartbeats 400000 in
theorem size_03 (n : Int) (s : ByteArray) (a : Option Addr) (cap : Nat) (w : World) (u : Nat) (hbd : 1 + (num u).length + s.size ≤ 1000000000)
    (hu : u < 18446744073709551616)
    (hN : ∀ W, Calls Tryd.prog 124 #[.agg #[.int .i64 3, .int .i64 n, .string s, .slice a 0 cap]] W fun e w' => e = .returned (.int .u64 (u : Nat)) ∧ Below W.heap.size W w') :
    Calls Tryd.prog 108 #[.agg #[.int .i64 3, .int .i64 n, .string s, .slice a 0 cap]] w
      fun e w' => e = .returned (.int .i64 ((1 + (num u).length + s.size : Nat) : Int)) ∧ Below w.heap.size w w' := by
  obtain ⟨w1, hw1⟩ : ∃ w1, w1 = w.alloc (Obj.cells #[Value.int IntKind.i64 3, Value.int IntKind.i64 n, Value.string s, Value.slice a 0 cap] 115) := ⟨_, rfl⟩
  have hz1 : w1.heap.size = w.heap.size + 1 := by rw [hw1]; simp
  have hB1 : Below w.heap.size w w1 := by rw [hw1]; go_grown
  have c0 : ∀ W, Kept w1 W → W.cell? ⟨w.heap.size, 0, none⟩ = some (.int .i64 3) := fun W hW => (hW.below.cell (by simp; omega)).trans (by rw [hw1]; go_cell)
  have c1 : ∀ W, Kept w1 W → W.cell? ⟨w.heap.size, 1, none⟩ = some (.int .i64 n) := fun W hW => (hW.below.cell (by simp; omega)).trans (by rw [hw1]; go_cell)
  have c2 : ∀ W, Kept w1 W → W.cell? ⟨w.heap.size, 2, none⟩ = some (.string s) := fun W hW => (hW.below.cell (by simp; omega)).trans (by rw [hw1]; go_cell)
  have c3 : ∀ W, Kept w1 W → W.cell? ⟨w.heap.size, 3, none⟩ = some (.slice a 0 cap) := fun W hW => (hW.below.cell (by simp; omega)).trans (by rw [hw1]; go_cell)
  have hA : ∀ W, Kept w1 W → Calls Tryd.prog 115 #[] W fun e w' => e = .returned (.agg #[.nilFunc, .nilFunc, .func (.func 120) #[] #[], .func (.func 121) #[] #[], .func (.func 122) #[] #[], .func (.func 123) #[] #[], .func (.func 124) #[] #[], .func (.func 125) #[] #[]]) ∧ Kept w1 w' :=
    fun W hW => (writers_any W).mono fun e w' h => ⟨h.1, hW.next h.2⟩
  have hN' : ∀ W, Kept w1 W → Calls Tryd.prog 124 #[.agg #[.int .i64 3, .int .i64 n, .string s, .slice a 0 cap]] W fun e w' => e = .returned (.int .u64 (u : Nat)) ∧ Kept w1 w' :=
    fun W hW => (hN W).mono fun e w' h => ⟨h.1, hW.next h.2⟩
  have hS : ∀ W, Kept w1 W → Calls Tryd.prog 117 #[.int .u64 (u : Nat)] W fun e w' => e = .returned (.int .i64 ((num u).length : Nat)) ∧ Kept w1 w' :=
    fun W hW => (numSize _ hu W).mono fun e w' h => ⟨h.1, by rw [h.2]; exact hW⟩
  have hle := num_len64 u hu
  obtain ⟨q, hq⟩ : ∃ q, (num u).length = q := ⟨_, rfl⟩
  rw [hq] at hS hle hbd ⊢
  have e1 : IntKind.i64.wrap (1 + (q : Int)) = 1 + (q : Int) := IntWalk.i64_in _ (by omega)
  have e2 : IntKind.i64.wrap (1 + (q : Int) + (s.size : Int)) = 1 + (q : Int) + (s.size : Int) := IntWalk.i64_in _ (by omega)
  have HA := Lib.hid hA
  have HN := Lib.hid hN'
  have HS := Lib.hid hS
  have HW := Lib.hid hw1
  clear hA hN hN' hS hw1 hq
  have hidx := idx_3
  have hfld := fld_3
  unfold wrArr at hidx
  go_enter Tryd.func108, Tryd.ntmps108
  go_wp2
  rw [← HW.out]
  go_region_held3 (fun W => Kept w1 W) (first | assumption | exact Kept.drew (Kept.refl _))
    (first | (go_at_call 115; refine (HA.out _ (by assumption)).mono ?_; rintro e w' ⟨rfl, hK⟩) | (go_at_call 117; refine (HS.out _ (by assumption)).mono ?_; rintro e w' ⟨rfl, hK⟩) | (go_at_call 124; refine (HN.out _ (by assumption)).mono ?_; rintro e w' ⟨rfl, hK⟩))
  all_goals
    clear c0 c1 c2
    go_wp2
    go_rounds 1
    go_ret
    exact ⟨ret_int (by push_cast; omega), hB1.trans ((‹Kept w1 _›).below.mono (by omega))⟩

set_option maxHeartbeats 400000 in
theorem size_5 (n : Int) (s : ByteArray) (l : List V) (len : Nat) (hlen : l.length = len) (hfm : V.formeds l = true) (ih : ∀ x ∈ l, CSize x) (b off cap : Nat) (w : World) (hb : b < w.heap.size) (hcap : len ≤ cap) (hm : cap ≤ maxLen) (h : AtL w w.heap.size l b off) (u : Nat) (hbd : 1 + (num u).length + s.size + (V.encs l).length ≤ 1000000000)
    (hu : u < 18446744073709551616)
    (hN : ∀ W, Calls Tryd.prog 124 #[.agg #[.int .i64 3, .int .i64 n, .string s, .slice (some ⟨b, off, none⟩) len cap]] W fun e w' => e = .returned (.int .u64 (u : Nat)) ∧ Below W.heap.size W w') :
    Calls Tryd.prog 108 #[.agg #[.int .i64 3, .int .i64 n, .string s, .slice (some ⟨b, off, none⟩) len cap]] w
      fun e w' => e = .returned (.int .i64 ((1 + (num u).length + s.size + (V.encs l).length : Nat) : Int)) ∧ Below w.heap.size w w' := by
  unfold maxLen at hm
  have HLEN := Lib.hid hlen; clear hlen
  have HF := Lib.hid hfm; clear hfm
  obtain ⟨w1, hw1⟩ : ∃ w1, w1 = w.alloc (Obj.cells #[Value.int IntKind.i64 3, Value.int IntKind.i64 n, Value.string s, Value.slice (some ⟨b, off, none⟩) len cap] 115) := ⟨_, rfl⟩
  have hz1 : w1.heap.size = w.heap.size + 1 := by rw [hw1]; simp
  have hB1 : Below w.heap.size w w1 := by rw [hw1]; go_grown
  have c0 : ∀ W, Kept w1 W → W.cell? ⟨w.heap.size, 0, none⟩ = some (.int .i64 3) := fun W hW => (hW.below.cell (by simp; omega)).trans (by rw [hw1]; go_cell)
  have c1 : ∀ W, Kept w1 W → W.cell? ⟨w.heap.size, 1, none⟩ = some (.int .i64 n) := fun W hW => (hW.below.cell (by simp; omega)).trans (by rw [hw1]; go_cell)
  have c2 : ∀ W, Kept w1 W → W.cell? ⟨w.heap.size, 2, none⟩ = some (.string s) := fun W hW => (hW.below.cell (by simp; omega)).trans (by rw [hw1]; go_cell)
  have c3 : ∀ W, Kept w1 W → W.cell? ⟨w.heap.size, 3, none⟩ = some (.slice (some ⟨b, off, none⟩) len cap) := fun W hW => (hW.below.cell (by simp; omega)).trans (by rw [hw1]; go_cell)
  have hA : ∀ W, Kept w1 W → Calls Tryd.prog 115 #[] W fun e w' => e = .returned (.agg #[.nilFunc, .nilFunc, .func (.func 120) #[] #[], .func (.func 121) #[] #[], .func (.func 122) #[] #[], .func (.func 123) #[] #[], .func (.func 124) #[] #[], .func (.func 125) #[] #[]]) ∧ Kept w1 w' :=
    fun W hW => (writers_any W).mono fun e w' h => ⟨h.1, hW.next h.2⟩
  have hN' : ∀ W, Kept w1 W → Calls Tryd.prog 124 #[.agg #[.int .i64 3, .int .i64 n, .string s, .slice (some ⟨b, off, none⟩) len cap]] W fun e w' => e = .returned (.int .u64 (u : Nat)) ∧ Kept w1 w' :=
    fun W hW => (hN W).mono fun e w' h => ⟨h.1, hW.next h.2⟩
  have hS : ∀ W, Kept w1 W → Calls Tryd.prog 117 #[.int .u64 (u : Nat)] W fun e w' => e = .returned (.int .i64 ((num u).length : Nat)) ∧ Kept w1 w' :=
    fun W hW => (numSize _ hu W).mono fun e w' h => ⟨h.1, by rw [h.2]; exact hW⟩
  have hle := num_len64 u hu
  obtain ⟨q, hq⟩ : ∃ q, (num u).length = q := ⟨_, rfl⟩
  rw [hq] at hS hle hbd ⊢
  have e1 : IntKind.i64.wrap (1 + (q : Int)) = 1 + (q : Int) := IntWalk.i64_in _ (by omega)
  have e2 : IntKind.i64.wrap (1 + (q : Int) + (s.size : Int)) = 1 + (q : Int) + (s.size : Int) := IntWalk.i64_in _ (by omega)
  have HA := Lib.hid hA
  have HN := Lib.hid hN'
  have HS := Lib.hid hS
  have HW := Lib.hid hw1
  clear hA hN hN' hS hw1 hq
  have hidx := idx_3
  have hfld := fld_3
  unfold wrArr at hidx
  have H := Lib.hid h; clear h
  go_enter Tryd.func108, Tryd.ntmps108
  go_wp2
  rw [← HW.out]
  go_region_held3 (fun W => Kept w1 W) (first | assumption | exact Kept.drew (Kept.refl _))
    (first | (go_at_call 115; refine (HA.out _ (by assumption)).mono ?_; rintro e w' ⟨rfl, hK⟩) | (go_at_call 117; refine (HS.out _ (by assumption)).mono ?_; rintro e w' ⟨rfl, hK⟩) | (go_at_call 124; refine (HN.out _ (by assumption)).mono ?_; rintro e w' ⟨rfl, hK⟩))
  all_goals
    have h := H.out
    clear c0 c1 c2
    have hK := Kept.below ‹Kept w1 _›
    have hBx := hB1.trans (hK.mono (Nat.le_of_lt (by omega : w.heap.size < w1.heap.size)))
    go_wp2
    go_loopw [3, 22] (fun t i wr => ∃ m p : Nat, i = .int .i64 m ∧ t = .int .i64 p ∧ m ≤ len ∧ 1 + q + s.size + (V.encs l).length = p + (V.encs (l.drop m)).length ∧ V.formeds (l.drop m) = true ∧ Below w.heap.size w wr) (fun _ i _ => len - (intOf i).toNat)
    case atStart => exact ⟨0, 1 + q + s.size, rfl, by congr 1, Nat.zero_le _, by simp, by simpa using HF.out, hBx⟩
    case round =>
      obtain ⟨m, p, rfl, rfl, hmle, hsm, hfo, hBr⟩ := hrel
      have HSM := Lib.hid hsm; clear hsm
      have HFO := Lib.hid hfo; clear hfo
      have hzr := hBr.size
      by_cases hlt : m < len
      · obtain ⟨k2, n2, s2, a2, ln, cp, g0, g1, g2, g3, ga⟩ := AtL.got l b off m (by rw [HLEN.out]; exact hlt) (AtL.below hBr l b off hb h)
        have GA := Lib.hid ga; clear ga
        have hdl : l.drop m = (l[m]'(by rw [HLEN.out]; exact hlt)) :: l.drop (m + 1) := List.drop_eq_getElem_cons (by rw [HLEN.out]; exact hlt)
        have hf2 := HFO.out
        have hs2 := HSM.out
        rw [hdl, V.formeds_cons, Bool.and_eq_true] at hf2
        rw [hdl, V.encs_cons, List.length_append] at hs2
        have hc : ∀ W, Below w.heap.size wr W → Calls Tryd.prog 108 #[.agg #[.int .i64 k2, .int .i64 n2, .string s2, .slice a2 ln cp]] W fun e w' => e = .returned (.int .i64 ((V.enc (l[m]'(by rw [HLEN.out]; exact hlt))).length : Nat)) ∧ Below W.heap.size W w' := by
          intro W hW
          have hll := HSM.out
          exact ih _ (List.getElem_mem (by rw [HLEN.out]; exact hlt)) W w.heap.size _ hf2.1 (by omega) (by have := hW.size; omega) (V.At.below hW _ _ GA.out)
        have hf3 := hf2.2
        obtain ⟨r, hr⟩ : ∃ r, (V.enc (l[m]'(by rw [HLEN.out]; exact hlt))).length = r := ⟨_, rfl⟩
        rw [hr] at hc hs2
        have hp1 : p + r ≤ 1000000000 := by omega
        have HC := Lib.hid hc
        have HS2 := Lib.hid hs2
        have HF3 := Lib.hid hf3
        clear hc hr h hdl hf2 hs2 hf3
        go_wp2_with fail
        refine (HC.out _ (by go_grown)).mono ?_
        rintro e w3 ⟨rfl, hb3⟩
        have hB3 : Below w.heap.size w w3 := hBr.trans (Below.trans (by go_grown) (hb3.mono (by simp; omega)))
        clear hb3
        go_wp2
        go_roundw
        case rel => exact ⟨m + 1, p + r, by go_num, by congr 1, by omega, by rw [HS2.out]; omega, HF3.out, hB3⟩
        case measure => simp [intOf]; omega
      · have hme : m = len := by omega
        have hq : 1 + q + s.size + (V.encs l).length = p := by
          rw [HSM.out, hme, List.drop_of_length_le (by rw [HLEN.out]; exact Nat.le_refl _)]; unfold V.encs; simp
        have HQ := Lib.hid hq
        clear hq hme h
        go_wp2
        go_ret
        exact ⟨ret_int (by rw [HQ.out]), hBr⟩

theorem cSize : ∀ (N : Nat) (x : V), SizeOf.sizeOf x ≤ N → CSize x
  | 0, ⟨k, n, s, l⟩, h => by simp at h
  | N + 1, ⟨k, n, s, l⟩, h => by
    intro w B v hf hbd hB hx
    have hx := V.At.mono hB _ _ hx
    unfold V.At at hx
    obtain ⟨h1, h2, h3, a, cap, rfl, h5, h6, h7⟩ := hx
    unfold V.formed at hf
    unfold V.enc at hbd ⊢
    have hzr := zig_range n h2
    have hs0 : s.toList = [] → s.size = 0 := by
      intro e; rw [ByteArray.toList_eq] at e; have := congrArg List.length e; simpa using this
    by_cases e1 : k = 1
    · subst e1
      simp only [if_true] at hf hbd ⊢
      simp at hf
      have hl : l = [] := hf.2
      subst hl
      have e0 := hs0 hf.1
      have hN : ∀ W, Calls Tryd.prog 120 #[.agg #[.int .i64 1, .int .i64 n, .string s, .slice a 0 cap]] W fun e w' => e = .returned (.int .u64 ((zig n).toNat : Nat)) ∧ Below W.heap.size W w' := by
        intro W
        rw [Int.toNat_of_nonneg hzr.1]
        by_cases h : n < 0
        · exact unsF_neg 1 n s a 0 cap W h2 h
        · exact unsF_pos 1 n s a 0 cap W h2 h
      have := size_01 n s a cap w (zig n).toNat (by have := num_len64 (zig n).toNat (by omega); omega) (by omega) hN
      rw [List.length_cons, show (num (zig n).toNat).length + 1 = 1 + (num (zig n).toNat).length + s.size by omega]
      exact this
    by_cases e2 : k = 2
    · subst e2
      simp only [show ¬ ((2 : Int) = 1) by omega, if_true, if_false] at hf hbd ⊢
      simp at hf
      have hl : l = [] := hf.2
      subst hl
      have hlen : (2 :: (num s.size ++ s.data.toList) : List UInt8).length = 1 + (num s.size).length + s.size := by
        have e1 : s.data.toList.length = s.size := Array.length_toList
        rw [List.length_cons, List.length_append, e1]
        omega
      rw [hlen] at hbd ⊢
      exact size_02 n s a cap w s.size hbd (by unfold maxLen at h3; omega) (fun W => txtL 2 n s h3 a 0 cap W)
    by_cases e3 : k = 3
    · subst e3
      simp only [show ¬ ((3 : Int) = 1) by omega, show ¬ ((3 : Int) = 2) by omega, if_true, if_false] at hf hbd ⊢
      simp at hf
      have e0 := hs0 hf.2.1
      have hlen : (3 :: (num l.length ++ V.encs l) : List UInt8).length = 1 + (num l.length).length + s.size + (V.encs l).length := by
        simp; omega
      rw [hlen] at hbd ⊢
      rcases h7 with h7 | ⟨b, off, rfl, hb, h10⟩
      · subst h7
        rw [V.encs_nil, List.length_nil, List.length_nil, Nat.add_zero] at hbd ⊢
        exact size_03 n s a cap w 0 hbd (by omega) (fun W => lstL 3 n s a 0 cap (by unfold maxLen; omega) W)
      · exact size_5 n s l l.length rfl hf.2.2 (fun x hx => cSize N x (by have := List.sizeOf_lt_of_mem hx; simp at h; omega)) b off cap w hb h5 h6 h10 l.length hbd (by unfold maxLen at h6; omega)
          (fun W => lstL 3 n s _ _ cap (by omega) W)
    · simp only [e1, e2, e3, if_false] at hf
      simp at hf

end Go.Proofs.YtfmngeemhfpeiaaDoor.K

namespace Go.Proofs.YtfmngeemhfpeiaaDoor.K
open Go.RowKit

theorem bcell {W w1 : World} (hb : Below W.heap.size W w1) : (∀ b o, b < W.heap.size → w1.cell? ⟨b, o, none⟩ = W.cell? ⟨b, o, none⟩) ∧ (∀ b o, b < W.heap.size → w1.frozen? ⟨b, o, none⟩ = W.frozen? ⟨b, o, none⟩) :=
  ⟨fun b o h => hb.cell (p := ⟨b, o, none⟩) h, fun b o h => hb.frozen (p := ⟨b, o, none⟩) h⟩
theorem Kept.alloc {w1 W : World} (h : Kept w1 W) (o : Obj) : Kept w1 (W.alloc o) := Below.alloc h h.size o
theorem Kept.set {w1 W : World} (h : Kept w1 W) {p : Addr} (hp : w1.heap.size ≤ p.block) (u : Value) : Kept w1 (W.setCell p u) := Below.setCell h hp u

/-- A slot points to a new writer. -/
def NewWriter (w1 : World) (F G : FuncId) (s5 : Value) (wx : World) : Prop :=
  ∃ p : Nat, s5 = .pointer (some ⟨p, 0, none⟩) ∧ w1.heap.size ≤ p ∧ p < wx.heap.size ∧ wx.cell? ⟨p, 0, none⟩ = some (.func (.func F) #[] #[]) ∧ wx.cell? ⟨p, 1, none⟩ = some (.func (.func G) #[] #[]) ∧ Kept w1 wx
theorem NewWriter.new {w1 W : World} {F G : FuncId} (h : Kept w1 W) : NewWriter w1 F G (.pointer (some ⟨W.heap.size, 0, none⟩)) (W.alloc (.cells #[.func (.func F) #[] #[], .func (.func G) #[] #[]] 135)) :=
  ⟨_, rfl, h.size, by simp, by rw [World.cell?_alloc_new]; rfl, by rw [World.cell?_alloc_new]; rfl, h.alloc _⟩
theorem NewWriter.old {w1 W : World} {F G : FuncId} {b : Nat} (h : Kept w1 W) (hb : w1.heap.size ≤ b) (hz : b < W.heap.size) (h0 : W.cell? ⟨b, 0, none⟩ = some .nilFunc) (h1 : W.cell? ⟨b, 1, none⟩ = some .nilFunc) :
    NewWriter w1 F G (.pointer (some ⟨b, 0, none⟩)) ((W.setCell ⟨b, 0, none⟩ (.func (.func F) #[] #[])).setCell ⟨b, 1, none⟩ (.func (.func G) #[] #[])) := by
  have e0 : (W.setCell ⟨b, 0, none⟩ (.func (.func F) #[] #[])).cell? ⟨b, 0, none⟩ = some (.func (.func F) #[] #[]) := World.cell?_setCell_same _ _ _ h0
  have e1 : (W.setCell ⟨b, 0, none⟩ (.func (.func F) #[] #[])).cell? ⟨b, 1, none⟩ = some .nilFunc := (World.cell?_setCell_other _ _ _ _ (by simp)).trans h1
  exact ⟨b, rfl, hb, by simpa using hz, (World.cell?_setCell_other _ _ _ _ (by simp)).trans e0, World.cell?_setCell_same _ _ _ e1, (h.set hb _).set hb _⟩

/-- What codec.write is to do with a tree. -/
def CWrite (x : V) : Prop := ∀ (w : World) (B : Nat) (v : Value) (g n cap : Nat) (l : List UInt8), x.formed = true → B ≤ g → B ≤ w.heap.size → V.At w B x v → Spare w g n cap l → n + x.enc.length ≤ cap →
  Calls Tryd.prog 107 #[.slice (some ⟨g, 0, none⟩) n cap, v] w fun e w' => e = .returned (.slice (some ⟨g, 0, none⟩) (n + x.enc.length) cap) ∧ Spare w' g (n + x.enc.length) cap (l ++ x.enc) ∧ w.grownBy w' (some g)

/-- A world that has grown, but for what is appended to one row. -/
def GKept (w1 : World) (g m cap : Nat) (l : List UInt8) (W : World) : Prop := w1.grownBy W (some g) ∧ Spare W g m cap l
theorem GKept.refl {w1 : World} {g m cap : Nat} {l : List UInt8} (h : Spare w1 g m cap l) : GKept w1 g m cap l w1 := ⟨World.grownBy.refl _ _, h⟩
theorem Spare.drew {w : World} {g m cap : Nat} {l : List UInt8} (h : Spare w g m cap l) : Spare w.drew g m cap l := h
theorem GKept.drew {w1 W : World} {g m cap : Nat} {l : List UInt8} (h : GKept w1 g m cap l W) : GKept w1 g m cap l W.drew := ⟨⟨h.1.os, h.1.tape, h.1.output, h.1.size, h.1.block⟩, h.2⟩
theorem GKept.alloc {w1 W : World} {g m cap : Nat} {l : List UInt8} (h : GKept w1 g m cap l W) (o : Obj) : GKept w1 g m cap l (W.alloc o) := ⟨gtrans h.1 (World.grownBy_alloc _ _ _), World.ownsRow.alloc h.2 o⟩
theorem Spare.below {w w' : World} {g m cap : Nat} {l : List UInt8} (h : Spare w g m cap l) (hb : Below w.heap.size w w') : Spare w' g m cap l := World.ownsRow.kept h (gbelow (row := none) hb) (.inr (by simp [Value.ownBlock]))
theorem GKept.below {w1 W W' : World} {g m cap : Nat} {l : List UInt8} (h : GKept w1 g m cap l W) (hb : Below W.heap.size W W') : GKept w1 g m cap l W' := ⟨gtrans h.1 (gbelow hb), h.2.below hb⟩
theorem Spare.lt {w : World} {g m cap : Nat} {l : List UInt8} (h : Spare w g m cap l) : g < w.heap.size := (World.ownsRow.lt h g rfl).2
theorem Spare.len {w : World} {g m cap : Nat} {l : List UInt8} (h : Spare w g m cap l) : l.length = m := by have := h.1; simpa [cells8] using this
theorem Spare.pre {w : World} {g m k cap : Nat} {l l2 : List UInt8} (h : Spare w g (m + k) cap (l ++ l2)) (hl : l.length = m) : Spare w g m cap l := by
  obtain ⟨h1, h2⟩ := h
  refine ⟨by simp [cells8, hl], ?_⟩
  rcases h2 with ⟨h3, _⟩ | ⟨g', cap', cur, hv, hbg, hg, hnc, hcm, hcs, htake⟩
  · cases h3
  · cases hv
    refine .inr ⟨g, cap, cur, rfl, hbg, hg, by omega, hcm, hcs, ?_⟩
    have e : cur.toList.take (m * 1) = (cur.toList.take ((m + k) * 1)).take (m * 1) := by rw [List.take_take]; congr 1; omega
    rw [e, htake]
    unfold cells8
    rw [List.map_append, List.take_left' (by simp [hl])]
theorem GKept.app {w1 W W' : World} {g m k cap : Nat} {l l2 : List UInt8} (h : GKept w1 g m cap l W) (hs : Spare W' g (m + k) cap (l ++ l2)) (hg : W.grownBy W' (some g)) : GKept w1 g m cap l W' :=
  ⟨gtrans h.1 hg, hs.pre h.2.len⟩
theorem GKept.cell {w1 W : World} {g m cap : Nat} {l : List UInt8} (h : GKept w1 g m cap l W) {b o : Nat} {v : Value} (hv : w1.cell? ⟨b, o, none⟩ = some v) (hb : b ≠ g) : W.cell? ⟨b, o, none⟩ = some v :=
  h.1.cell hv (by simpa using hb)

/-- A byte is appended, as a step of a region that draws its order. -/
theorem step_byte {ops : Array Oper} {o : Oper} {a : Act} {w : World} {K : Act → World → Prop} {Q : Exit → Act → World → Prop} {E : Prop} (hgd : o.guard = none) (s x : Operand)
    (ho : o.op = .call { callee := .builtin .append, args := #[s, x], argTypes := #[34, 34] }) (g n cap : Nat) (l : List UInt8) (hs : a.eval s = .slice (some ⟨g, 0, none⟩) n cap) (hsp : Spare w g n cap l)
    (B : Nat) (c : UInt8) (c' : Int) (hcc : c' = c.toNat) (hx : a.eval x = .slice (some ⟨B, 0, none⟩) 1 1) (hc : w.cell? ⟨B, 0, none⟩ = some (.int .u8 c')) (hroom : n + 1 ≤ cap)
    (h : ∀ w', Spare w' g (n + 1) cap (l ++ [c]) → w.grownBy w' (some g) → K (a.put o.dst (.slice (some ⟨g, 0, none⟩) (n + 1) cap)) w') :
    if Region.wanted o (yielded ops a.tmps) = true then Oper.wp Tryd.prog o a w K Q else E := by
  subst hcc
  have hw : Region.wanted o (yielded ops a.tmps) = true := by simp [Region.wanted, hgd]
  rw [if_pos hw]
  obtain ⟨i0, hi, hz0, hz1, hz2⟩ := info_parts Tryd.info5
  refine wp_append_own_spare w s x 34 ho 0 5 i0 1 Tryd.underlying34 hi hz1 g n cap _ hs hsp ⟨B, 0, none⟩ 1 1 [.int .u8 c.toNat] hx rfl ?_ (by intro u hu; simp at hu; subst hu; rfl) hroom ?_
  · intro j u hj
    cases j with
    | zero => simp at hj; subst hj; exact hc
    | succ j => simp at hj
  · intro w' h1 h2
    refine h w' ?_ h2
    unfold Spare cells8 at *
    rw [List.map_append]
    exact h1

set_option maxHeartbeats 1000000 in
set_option maxRecDepth 20000 in
theorem write_1 (n : Int) (s : ByteArray) (a : Option Addr) (len cp : Nat) (w : World) (g m cap : Nat) (l l2 : List UInt8) (hsp : Spare w g m cap l) (u : Nat) (hu : u < 18446744073709551616) (hr : m + 1 + (num u).length + l2.length ≤ cap)
    (hN : ∀ W, Calls Tryd.prog 120 #[.agg #[.int .i64 1, .int .i64 n, .string s, .slice a len cp]] W fun e w' => e = .returned (.int .u64 (u : Nat)) ∧ Below W.heap.size W w')
    (hR : ∀ W, w.grownBy W (some g) → Spare W g (m + 1 + (num u).length) cap (l ++ [1] ++ num u) → Calls Tryd.prog 121 #[.slice (some ⟨g, 0, none⟩) (m + 1 + (num u).length) cap, .agg #[.int .i64 1, .int .i64 n, .string s, .slice a len cp]] W
      fun e w' => e = .returned (.slice (some ⟨g, 0, none⟩) (m + 1 + (num u).length + l2.length) cap) ∧ Spare w' g (m + 1 + (num u).length + l2.length) cap (l ++ [1] ++ num u ++ l2) ∧ W.grownBy w' (some g)) :
    Calls Tryd.prog 107 #[.slice (some ⟨g, 0, none⟩) m cap, .agg #[.int .i64 1, .int .i64 n, .string s, .slice a len cp]] w
      fun e w' => e = .returned (.slice (some ⟨g, 0, none⟩) (m + 1 + (num u).length + l2.length) cap) ∧ Spare w' g (m + 1 + (num u).length + l2.length) cap (l ++ [1] ++ num u ++ l2) ∧ w.grownBy w' (some g) := by
  have hg : g < w.heap.size := hsp.lt
  obtain ⟨w1, hw1⟩ : ∃ w1, w1 = w.alloc (Obj.cells #[Value.int IntKind.i64 1, Value.int IntKind.i64 n, Value.string s, Value.slice a len cp] 115) := ⟨_, rfl⟩
  have hz1 : w1.heap.size = w.heap.size + 1 := by rw [hw1]; simp
  have hB1 : Below w.heap.size w w1 := by rw [hw1]; go_grown
  have hsp1 := hsp.below hB1
  have c0 : ∀ W, Kept w1 W → W.cell? ⟨w.heap.size, 0, none⟩ = some (.int .i64 1) := fun W hW => (hW.below.cell (by simp; omega)).trans (by rw [hw1]; go_cell)
  have c1 : ∀ W, Kept w1 W → W.cell? ⟨w.heap.size, 1, none⟩ = some (.int .i64 n) := fun W hW => (hW.below.cell (by simp; omega)).trans (by rw [hw1]; go_cell)
  have c2 : ∀ W, Kept w1 W → W.cell? ⟨w.heap.size, 2, none⟩ = some (.string s) := fun W hW => (hW.below.cell (by simp; omega)).trans (by rw [hw1]; go_cell)
  have c3 : ∀ W, Kept w1 W → W.cell? ⟨w.heap.size, 3, none⟩ = some (.slice a len cp) := fun W hW => (hW.below.cell (by simp; omega)).trans (by rw [hw1]; go_cell)
  have hA : ∀ W, Kept w1 W → Calls Tryd.prog 115 #[] W fun e w' => e = .returned (.agg #[.nilFunc, .nilFunc, .func (.func 120) #[] #[], .func (.func 121) #[] #[], .func (.func 122) #[] #[], .func (.func 123) #[] #[], .func (.func 124) #[] #[], .func (.func 125) #[] #[]]) ∧ Kept w1 w' ∧ Below W.heap.size W w' :=
    fun W hW => (writers_any W).mono fun e w' h => ⟨h.1, hW.next h.2, h.2⟩
  have i1 := idx_1
  unfold wrArr at i1
  have HA := Lib.hid hA
  have HN := Lib.hid hN
  have HR := Lib.hid hR
  have HW := Lib.hid hw1
  have HSP := Lib.hid hsp
  have HSP1 := Lib.hid hsp1
  have HC := Lib.hid (And.intro c1 (And.intro c2 c3))
  clear hA hN hR hw1 hsp hsp1 c1 c2 c3
  go_enter Tryd.func107, Tryd.ntmps107
  go_upto_region 1 with fail
  rw [← HW.out]
  go_cut [5] (fun s5 wx => NewWriter w1 120 121 s5 wx)
  case first =>
    go_region_held3 (fun W => Kept w1 W) (first | assumption | exact Kept.drew (Kept.refl _) | exact Kept.alloc (by assumption) _ | exact Kept.set (Kept.set (by assumption) (by show w1.heap.size ≤ _; simp; omega) _) (by show w1.heap.size ≤ _; simp; omega) _)
      (first | (go_at_call 115; refine (HA.out _ (by assumption)).mono ?_; rintro e w' ⟨rfl, hK, hb⟩; obtain ⟨hc, hf⟩ := bcell hb))
    all_goals go_wp2_with fail
    all_goals go_meet
    all_goals first
      | exact NewWriter.new (by assumption)
      | exact NewWriter.old (by assumption) (by omega) (by have := hb.size; simp at this; omega) ((hc _ _ (by simp; omega)).trans (by rw [← hz1]; simp)) ((hc _ _ (by simp; omega)).trans (by rw [← hz1]; simp))
  case rest =>
    obtain ⟨p, rfl, hp1, hp2, d0, d1, hK0⟩ := hcut
    have b0 := c0 _ hK0
    have b1 := HC.out.1 _ hK0
    have b2 := HC.out.2.1 _ hK0
    have b3 := HC.out.2.2 _ hK0
    have hspc := HSP1.out.below hK0.below
    have hwg : w.grownBy wc (some g) := gtrans (gbelow hB1) (gbelow hK0.below)
    have hng : w.heap.size ≠ g := by omega
    have hnp : p ≠ g := by omega
    have k0 : ∀ W, GKept wc g m cap l W → W.cell? ⟨w.heap.size, 0, none⟩ = some (.int .i64 1) := fun W hW => hW.cell b0 hng
    have k1 : ∀ W, GKept wc g m cap l W → W.cell? ⟨w.heap.size, 1, none⟩ = some (.int .i64 n) := fun W hW => hW.cell b1 hng
    have k2 : ∀ W, GKept wc g m cap l W → W.cell? ⟨w.heap.size, 2, none⟩ = some (.string s) := fun W hW => hW.cell b2 hng
    have k3 : ∀ W, GKept wc g m cap l W → W.cell? ⟨w.heap.size, 3, none⟩ = some (.slice a len cp) := fun W hW => hW.cell b3 hng
    have k4 : ∀ W, GKept wc g m cap l W → W.cell? ⟨p, 0, none⟩ = some (.func (.func 120) #[] #[]) := fun W hW => hW.cell d0 hnp
    have k5 : ∀ W, GKept wc g m cap l W → W.cell? ⟨p, 1, none⟩ = some (.func (.func 121) #[] #[]) := fun W hW => hW.cell d1 hnp
    have hN2 : ∀ W, GKept wc g m cap l W → Calls Tryd.prog 120 #[.agg #[.int .i64 1, .int .i64 n, .string s, .slice a len cp]] W fun e w' => e = .returned (.int .u64 (u : Nat)) ∧ GKept wc g m cap l w' ∧ Below W.heap.size W w' :=
      fun W hW => (HN.out W).mono fun e w' h => ⟨h.1, hW.below h.2, h.2⟩
    have hD : GKept wc g m cap l wc.drew := (GKept.refl hspc).drew
    have hAl : ∀ W o, GKept wc g m cap l W → GKept wc g m cap l (W.alloc o) := fun W o hW => hW.alloc o
    have hAp : ∀ W W' k l2, GKept wc g m cap l W → Spare W' g (m + k) cap (l ++ l2) → W.grownBy W' (some g) → GKept wc g m cap l W' := fun W W' k l2 hW h1 h2 => hW.app h1 h2
    have hGs : ∀ W, GKept wc g m cap l W → Spare W g m cap l := fun W hW => hW.2
    have hGg : ∀ W, GKept wc g m cap l W → w.grownBy W (some g) := fun W hW => gtrans hwg hW.1
    have hr1 : m + 1 ≤ cap := by omega
    have hr2 : m + 1 + (num u).length ≤ cap := by omega
    have HN2 := Lib.hid hN2
    have HD := Lib.hid hD
    have HAL := Lib.hid hAl
    have HAP := Lib.hid hAp
    have HGS := Lib.hid hGs
    have HGG := Lib.hid hGg
    clear hN2 hD hAl hAp hGs hGg hwg hspc b0 b1 b2 b3 d0 d1 hK0 c0 HC i1
    go_upto_region 2 with fail
    go_cut [0] (fun s0 wx => s0 = .slice (some ⟨g, 0, none⟩) (m + 1 + (num u).length) cap ∧ Spare wx g (m + 1 + (num u).length) cap (l ++ [1] ++ num u) ∧ GKept wc g m cap l wx)
    case first =>
      go_region_held3 (fun W => GKept wc g m cap l W) (first | assumption | exact HD.out | exact HAL.out _ _ (by assumption) | exact HAP.out _ _ 1 [1] (by assumption) hown1 hgrow1 | exact HAP.out _ _ (1 + (num u).length) ([1] ++ num u) (by assumption) (by rw [← Nat.add_assoc, ← List.append_assoc]; assumption) hgrow2)
        (first
          | (refine step_byte (by rfl) _ _ (by rfl) g m cap l (by rfl) (HGS.out _ (by assumption)) _ 1 (IntKind.u8.wrap 1) (by decide) (by rfl) (by simp) hr1 ?_; intro w1 hown1 hgrow1)
          | (go_at_call 120; refine (HN2.out _ (by assumption)).mono ?_; rintro e w' ⟨rfl, hK, hbN⟩)
          | (go_at_call 116; refine (wrNum g cap u hu (m + 1) (l ++ [1]) _ (by first | exact hown1 | exact hown1.below hbN) hr2).mono ?_; rintro e w'' ⟨rfl, hs2, hgrow2⟩))
      all_goals go_wp2_with fail
      all_goals go_meet
      all_goals exact ⟨rfl, hs2, by assumption⟩
    case rest =>
      obtain ⟨rfl, hs3, hK3⟩ := hcut
      have hgg := HGG.out _ hK3
      clear hp1 hp2 hng hnp
      go_wp2_with fail
      refine (HR.out _ hgg hs3).mono ?_
      rintro e w4 ⟨rfl, hs4, hg4⟩
      go_wp2
      go_ret
      exact ⟨rfl, hs4, gtrans hgg hg4⟩

set_option maxHeartbeats 1000000 in
set_option maxRecDepth 20000 in
theorem write_2 (n : Int) (s : ByteArray) (a : Option Addr) (len cp : Nat) (w : World) (g m cap : Nat) (l l2 : List UInt8) (hsp : Spare w g m cap l) (u : Nat) (hu : u < 18446744073709551616) (hr : m + 1 + (num u).length + l2.length ≤ cap)
    (hN : ∀ W, Calls Tryd.prog 122 #[.agg #[.int .i64 2, .int .i64 n, .string s, .slice a len cp]] W fun e w' => e = .returned (.int .u64 (u : Nat)) ∧ Below W.heap.size W w')
    (hR : ∀ W, w.grownBy W (some g) → Spare W g (m + 1 + (num u).length) cap (l ++ [2] ++ num u) → Calls Tryd.prog 123 #[.slice (some ⟨g, 0, none⟩) (m + 1 + (num u).length) cap, .agg #[.int .i64 2, .int .i64 n, .string s, .slice a len cp]] W
      fun e w' => e = .returned (.slice (some ⟨g, 0, none⟩) (m + 1 + (num u).length + l2.length) cap) ∧ Spare w' g (m + 1 + (num u).length + l2.length) cap (l ++ [2] ++ num u ++ l2) ∧ W.grownBy w' (some g)) :
    Calls Tryd.prog 107 #[.slice (some ⟨g, 0, none⟩) m cap, .agg #[.int .i64 2, .int .i64 n, .string s, .slice a len cp]] w
      fun e w' => e = .returned (.slice (some ⟨g, 0, none⟩) (m + 1 + (num u).length + l2.length) cap) ∧ Spare w' g (m + 1 + (num u).length + l2.length) cap (l ++ [2] ++ num u ++ l2) ∧ w.grownBy w' (some g) := by
  have hg : g < w.heap.size := hsp.lt
  obtain ⟨w1, hw1⟩ : ∃ w1, w1 = w.alloc (Obj.cells #[Value.int IntKind.i64 2, Value.int IntKind.i64 n, Value.string s, Value.slice a len cp] 115) := ⟨_, rfl⟩
  have hz1 : w1.heap.size = w.heap.size + 1 := by rw [hw1]; simp
  have hB1 : Below w.heap.size w w1 := by rw [hw1]; go_grown
  have hsp1 := hsp.below hB1
  have c0 : ∀ W, Kept w1 W → W.cell? ⟨w.heap.size, 0, none⟩ = some (.int .i64 2) := fun W hW => (hW.below.cell (by simp; omega)).trans (by rw [hw1]; go_cell)
  have c1 : ∀ W, Kept w1 W → W.cell? ⟨w.heap.size, 1, none⟩ = some (.int .i64 n) := fun W hW => (hW.below.cell (by simp; omega)).trans (by rw [hw1]; go_cell)
  have c2 : ∀ W, Kept w1 W → W.cell? ⟨w.heap.size, 2, none⟩ = some (.string s) := fun W hW => (hW.below.cell (by simp; omega)).trans (by rw [hw1]; go_cell)
  have c3 : ∀ W, Kept w1 W → W.cell? ⟨w.heap.size, 3, none⟩ = some (.slice a len cp) := fun W hW => (hW.below.cell (by simp; omega)).trans (by rw [hw1]; go_cell)
  have hA : ∀ W, Kept w1 W → Calls Tryd.prog 115 #[] W fun e w' => e = .returned (.agg #[.nilFunc, .nilFunc, .func (.func 120) #[] #[], .func (.func 121) #[] #[], .func (.func 122) #[] #[], .func (.func 123) #[] #[], .func (.func 124) #[] #[], .func (.func 125) #[] #[]]) ∧ Kept w1 w' ∧ Below W.heap.size W w' :=
    fun W hW => (writers_any W).mono fun e w' h => ⟨h.1, hW.next h.2, h.2⟩
  have i1 := idx_2
  unfold wrArr at i1
  have HA := Lib.hid hA
  have HN := Lib.hid hN
  have HR := Lib.hid hR
  have HW := Lib.hid hw1
  have HSP := Lib.hid hsp
  have HSP1 := Lib.hid hsp1
  have HC := Lib.hid (And.intro c1 (And.intro c2 c3))
  clear hA hN hR hw1 hsp hsp1 c1 c2 c3
  go_enter Tryd.func107, Tryd.ntmps107
  go_upto_region 1 with fail
  rw [← HW.out]
  go_cut [5] (fun s5 wx => NewWriter w1 122 123 s5 wx)
  case first =>
    go_region_held3 (fun W => Kept w1 W) (first | assumption | exact Kept.drew (Kept.refl _) | exact Kept.alloc (by assumption) _ | exact Kept.set (Kept.set (by assumption) (by show w1.heap.size ≤ _; simp; omega) _) (by show w1.heap.size ≤ _; simp; omega) _)
      (first | (go_at_call 115; refine (HA.out _ (by assumption)).mono ?_; rintro e w' ⟨rfl, hK, hb⟩; obtain ⟨hc, hf⟩ := bcell hb))
    all_goals go_wp2_with fail
    all_goals go_meet
    all_goals first
      | exact NewWriter.new (by assumption)
      | exact NewWriter.old (by assumption) (by omega) (by have := hb.size; simp at this; omega) ((hc _ _ (by simp; omega)).trans (by rw [← hz1]; simp)) ((hc _ _ (by simp; omega)).trans (by rw [← hz1]; simp))
  case rest =>
    obtain ⟨p, rfl, hp1, hp2, d0, d1, hK0⟩ := hcut
    have b0 := c0 _ hK0
    have b1 := HC.out.1 _ hK0
    have b2 := HC.out.2.1 _ hK0
    have b3 := HC.out.2.2 _ hK0
    have hspc := HSP1.out.below hK0.below
    have hwg : w.grownBy wc (some g) := gtrans (gbelow hB1) (gbelow hK0.below)
    have hng : w.heap.size ≠ g := by omega
    have hnp : p ≠ g := by omega
    have k0 : ∀ W, GKept wc g m cap l W → W.cell? ⟨w.heap.size, 0, none⟩ = some (.int .i64 2) := fun W hW => hW.cell b0 hng
    have k1 : ∀ W, GKept wc g m cap l W → W.cell? ⟨w.heap.size, 1, none⟩ = some (.int .i64 n) := fun W hW => hW.cell b1 hng
    have k2 : ∀ W, GKept wc g m cap l W → W.cell? ⟨w.heap.size, 2, none⟩ = some (.string s) := fun W hW => hW.cell b2 hng
    have k3 : ∀ W, GKept wc g m cap l W → W.cell? ⟨w.heap.size, 3, none⟩ = some (.slice a len cp) := fun W hW => hW.cell b3 hng
    have k4 : ∀ W, GKept wc g m cap l W → W.cell? ⟨p, 0, none⟩ = some (.func (.func 122) #[] #[]) := fun W hW => hW.cell d0 hnp
    have k5 : ∀ W, GKept wc g m cap l W → W.cell? ⟨p, 1, none⟩ = some (.func (.func 123) #[] #[]) := fun W hW => hW.cell d1 hnp
    have hN2 : ∀ W, GKept wc g m cap l W → Calls Tryd.prog 122 #[.agg #[.int .i64 2, .int .i64 n, .string s, .slice a len cp]] W fun e w' => e = .returned (.int .u64 (u : Nat)) ∧ GKept wc g m cap l w' ∧ Below W.heap.size W w' :=
      fun W hW => (HN.out W).mono fun e w' h => ⟨h.1, hW.below h.2, h.2⟩
    have hD : GKept wc g m cap l wc.drew := (GKept.refl hspc).drew
    have hAl : ∀ W o, GKept wc g m cap l W → GKept wc g m cap l (W.alloc o) := fun W o hW => hW.alloc o
    have hAp : ∀ W W' k l2, GKept wc g m cap l W → Spare W' g (m + k) cap (l ++ l2) → W.grownBy W' (some g) → GKept wc g m cap l W' := fun W W' k l2 hW h1 h2 => hW.app h1 h2
    have hGs : ∀ W, GKept wc g m cap l W → Spare W g m cap l := fun W hW => hW.2
    have hGg : ∀ W, GKept wc g m cap l W → w.grownBy W (some g) := fun W hW => gtrans hwg hW.1
    have hr1 : m + 1 ≤ cap := by omega
    have hr2 : m + 1 + (num u).length ≤ cap := by omega
    have HN2 := Lib.hid hN2
    have HD := Lib.hid hD
    have HAL := Lib.hid hAl
    have HAP := Lib.hid hAp
    have HGS := Lib.hid hGs
    have HGG := Lib.hid hGg
    clear hN2 hD hAl hAp hGs hGg hwg hspc b0 b1 b2 b3 d0 d1 hK0 c0 HC i1
    go_upto_region 2 with fail
    go_cut [0] (fun s0 wx => s0 = .slice (some ⟨g, 0, none⟩) (m + 1 + (num u).length) cap ∧ Spare wx g (m + 1 + (num u).length) cap (l ++ [2] ++ num u) ∧ GKept wc g m cap l wx)
    case first =>
      go_region_held3 (fun W => GKept wc g m cap l W) (first | assumption | exact HD.out | exact HAL.out _ _ (by assumption) | exact HAP.out _ _ 1 [2] (by assumption) hown1 hgrow1 | exact HAP.out _ _ (1 + (num u).length) ([2] ++ num u) (by assumption) (by rw [← Nat.add_assoc, ← List.append_assoc]; assumption) hgrow2)
        (first
          | (refine step_byte (by rfl) _ _ (by rfl) g m cap l (by rfl) (HGS.out _ (by assumption)) _ 2 (IntKind.u8.wrap 2) (by decide) (by rfl) (by simp) hr1 ?_; intro w1 hown1 hgrow1)
          | (go_at_call 122; refine (HN2.out _ (by assumption)).mono ?_; rintro e w' ⟨rfl, hK, hbN⟩)
          | (go_at_call 116; refine (wrNum g cap u hu (m + 1) (l ++ [2]) _ (by first | exact hown1 | exact hown1.below hbN) hr2).mono ?_; rintro e w'' ⟨rfl, hs2, hgrow2⟩))
      all_goals go_wp2_with fail
      all_goals go_meet
      all_goals exact ⟨rfl, hs2, by assumption⟩
    case rest =>
      obtain ⟨rfl, hs3, hK3⟩ := hcut
      have hgg := HGG.out _ hK3
      clear hp1 hp2 hng hnp
      go_wp2_with fail
      refine (HR.out _ hgg hs3).mono ?_
      rintro e w4 ⟨rfl, hs4, hg4⟩
      go_wp2
      go_ret
      exact ⟨rfl, hs4, gtrans hgg hg4⟩

set_option maxHeartbeats 1000000 in
set_option maxRecDepth 20000 in
theorem write_3 (n : Int) (s : ByteArray) (a : Option Addr) (len cp : Nat) (w : World) (g m cap : Nat) (l l2 : List UInt8) (hsp : Spare w g m cap l) (u : Nat) (hu : u < 18446744073709551616) (hr : m + 1 + (num u).length + l2.length ≤ cap)
    (hN : ∀ W, Calls Tryd.prog 124 #[.agg #[.int .i64 3, .int .i64 n, .string s, .slice a len cp]] W fun e w' => e = .returned (.int .u64 (u : Nat)) ∧ Below W.heap.size W w')
    (hR : ∀ W, w.grownBy W (some g) → Spare W g (m + 1 + (num u).length) cap (l ++ [3] ++ num u) → Calls Tryd.prog 125 #[.slice (some ⟨g, 0, none⟩) (m + 1 + (num u).length) cap, .agg #[.int .i64 3, .int .i64 n, .string s, .slice a len cp]] W
      fun e w' => e = .returned (.slice (some ⟨g, 0, none⟩) (m + 1 + (num u).length + l2.length) cap) ∧ Spare w' g (m + 1 + (num u).length + l2.length) cap (l ++ [3] ++ num u ++ l2) ∧ W.grownBy w' (some g)) :
    Calls Tryd.prog 107 #[.slice (some ⟨g, 0, none⟩) m cap, .agg #[.int .i64 3, .int .i64 n, .string s, .slice a len cp]] w
      fun e w' => e = .returned (.slice (some ⟨g, 0, none⟩) (m + 1 + (num u).length + l2.length) cap) ∧ Spare w' g (m + 1 + (num u).length + l2.length) cap (l ++ [3] ++ num u ++ l2) ∧ w.grownBy w' (some g) := by
  have hg : g < w.heap.size := hsp.lt
  obtain ⟨w1, hw1⟩ : ∃ w1, w1 = w.alloc (Obj.cells #[Value.int IntKind.i64 3, Value.int IntKind.i64 n, Value.string s, Value.slice a len cp] 115) := ⟨_, rfl⟩
  have hz1 : w1.heap.size = w.heap.size + 1 := by rw [hw1]; simp
  have hB1 : Below w.heap.size w w1 := by rw [hw1]; go_grown
  have hsp1 := hsp.below hB1
  have c0 : ∀ W, Kept w1 W → W.cell? ⟨w.heap.size, 0, none⟩ = some (.int .i64 3) := fun W hW => (hW.below.cell (by simp; omega)).trans (by rw [hw1]; go_cell)
  have c1 : ∀ W, Kept w1 W → W.cell? ⟨w.heap.size, 1, none⟩ = some (.int .i64 n) := fun W hW => (hW.below.cell (by simp; omega)).trans (by rw [hw1]; go_cell)
  have c2 : ∀ W, Kept w1 W → W.cell? ⟨w.heap.size, 2, none⟩ = some (.string s) := fun W hW => (hW.below.cell (by simp; omega)).trans (by rw [hw1]; go_cell)
  have c3 : ∀ W, Kept w1 W → W.cell? ⟨w.heap.size, 3, none⟩ = some (.slice a len cp) := fun W hW => (hW.below.cell (by simp; omega)).trans (by rw [hw1]; go_cell)
  have hA : ∀ W, Kept w1 W → Calls Tryd.prog 115 #[] W fun e w' => e = .returned (.agg #[.nilFunc, .nilFunc, .func (.func 120) #[] #[], .func (.func 121) #[] #[], .func (.func 122) #[] #[], .func (.func 123) #[] #[], .func (.func 124) #[] #[], .func (.func 125) #[] #[]]) ∧ Kept w1 w' ∧ Below W.heap.size W w' :=
    fun W hW => (writers_any W).mono fun e w' h => ⟨h.1, hW.next h.2, h.2⟩
  have i1 := idx_3
  unfold wrArr at i1
  have HA := Lib.hid hA
  have HN := Lib.hid hN
  have HR := Lib.hid hR
  have HW := Lib.hid hw1
  have HSP := Lib.hid hsp
  have HSP1 := Lib.hid hsp1
  have HC := Lib.hid (And.intro c1 (And.intro c2 c3))
  clear hA hN hR hw1 hsp hsp1 c1 c2 c3
  go_enter Tryd.func107, Tryd.ntmps107
  go_upto_region 1 with fail
  rw [← HW.out]
  go_cut [5] (fun s5 wx => NewWriter w1 124 125 s5 wx)
  case first =>
    go_region_held3 (fun W => Kept w1 W) (first | assumption | exact Kept.drew (Kept.refl _) | exact Kept.alloc (by assumption) _ | exact Kept.set (Kept.set (by assumption) (by show w1.heap.size ≤ _; simp; omega) _) (by show w1.heap.size ≤ _; simp; omega) _)
      (first | (go_at_call 115; refine (HA.out _ (by assumption)).mono ?_; rintro e w' ⟨rfl, hK, hb⟩; obtain ⟨hc, hf⟩ := bcell hb))
    all_goals go_wp2_with fail
    all_goals go_meet
    all_goals first
      | exact NewWriter.new (by assumption)
      | exact NewWriter.old (by assumption) (by omega) (by have := hb.size; simp at this; omega) ((hc _ _ (by simp; omega)).trans (by rw [← hz1]; simp)) ((hc _ _ (by simp; omega)).trans (by rw [← hz1]; simp))
  case rest =>
    obtain ⟨p, rfl, hp1, hp2, d0, d1, hK0⟩ := hcut
    have b0 := c0 _ hK0
    have b1 := HC.out.1 _ hK0
    have b2 := HC.out.2.1 _ hK0
    have b3 := HC.out.2.2 _ hK0
    have hspc := HSP1.out.below hK0.below
    have hwg : w.grownBy wc (some g) := gtrans (gbelow hB1) (gbelow hK0.below)
    have hng : w.heap.size ≠ g := by omega
    have hnp : p ≠ g := by omega
    have k0 : ∀ W, GKept wc g m cap l W → W.cell? ⟨w.heap.size, 0, none⟩ = some (.int .i64 3) := fun W hW => hW.cell b0 hng
    have k1 : ∀ W, GKept wc g m cap l W → W.cell? ⟨w.heap.size, 1, none⟩ = some (.int .i64 n) := fun W hW => hW.cell b1 hng
    have k2 : ∀ W, GKept wc g m cap l W → W.cell? ⟨w.heap.size, 2, none⟩ = some (.string s) := fun W hW => hW.cell b2 hng
    have k3 : ∀ W, GKept wc g m cap l W → W.cell? ⟨w.heap.size, 3, none⟩ = some (.slice a len cp) := fun W hW => hW.cell b3 hng
    have k4 : ∀ W, GKept wc g m cap l W → W.cell? ⟨p, 0, none⟩ = some (.func (.func 124) #[] #[]) := fun W hW => hW.cell d0 hnp
    have k5 : ∀ W, GKept wc g m cap l W → W.cell? ⟨p, 1, none⟩ = some (.func (.func 125) #[] #[]) := fun W hW => hW.cell d1 hnp
    have hN2 : ∀ W, GKept wc g m cap l W → Calls Tryd.prog 124 #[.agg #[.int .i64 3, .int .i64 n, .string s, .slice a len cp]] W fun e w' => e = .returned (.int .u64 (u : Nat)) ∧ GKept wc g m cap l w' ∧ Below W.heap.size W w' :=
      fun W hW => (HN.out W).mono fun e w' h => ⟨h.1, hW.below h.2, h.2⟩
    have hD : GKept wc g m cap l wc.drew := (GKept.refl hspc).drew
    have hAl : ∀ W o, GKept wc g m cap l W → GKept wc g m cap l (W.alloc o) := fun W o hW => hW.alloc o
    have hAp : ∀ W W' k l2, GKept wc g m cap l W → Spare W' g (m + k) cap (l ++ l2) → W.grownBy W' (some g) → GKept wc g m cap l W' := fun W W' k l2 hW h1 h2 => hW.app h1 h2
    have hGs : ∀ W, GKept wc g m cap l W → Spare W g m cap l := fun W hW => hW.2
    have hGg : ∀ W, GKept wc g m cap l W → w.grownBy W (some g) := fun W hW => gtrans hwg hW.1
    have hr1 : m + 1 ≤ cap := by omega
    have hr2 : m + 1 + (num u).length ≤ cap := by omega
    have HN2 := Lib.hid hN2
    have HD := Lib.hid hD
    have HAL := Lib.hid hAl
    have HAP := Lib.hid hAp
    have HGS := Lib.hid hGs
    have HGG := Lib.hid hGg
    clear hN2 hD hAl hAp hGs hGg hwg hspc b0 b1 b2 b3 d0 d1 hK0 c0 HC i1
    go_upto_region 2 with fail
    go_cut [0] (fun s0 wx => s0 = .slice (some ⟨g, 0, none⟩) (m + 1 + (num u).length) cap ∧ Spare wx g (m + 1 + (num u).length) cap (l ++ [3] ++ num u) ∧ GKept wc g m cap l wx)
    case first =>
      go_region_held3 (fun W => GKept wc g m cap l W) (first | assumption | exact HD.out | exact HAL.out _ _ (by assumption) | exact HAP.out _ _ 1 [3] (by assumption) hown1 hgrow1 | exact HAP.out _ _ (1 + (num u).length) ([3] ++ num u) (by assumption) (by rw [← Nat.add_assoc, ← List.append_assoc]; assumption) hgrow2)
        (first
          | (refine step_byte (by rfl) _ _ (by rfl) g m cap l (by rfl) (HGS.out _ (by assumption)) _ 3 (IntKind.u8.wrap 3) (by decide) (by rfl) (by simp) hr1 ?_; intro w1 hown1 hgrow1)
          | (go_at_call 124; refine (HN2.out _ (by assumption)).mono ?_; rintro e w' ⟨rfl, hK, hbN⟩)
          | (go_at_call 116; refine (wrNum g cap u hu (m + 1) (l ++ [3]) _ (by first | exact hown1 | exact hown1.below hbN) hr2).mono ?_; rintro e w'' ⟨rfl, hs2, hgrow2⟩))
      all_goals go_wp2_with fail
      all_goals go_meet
      all_goals exact ⟨rfl, hs2, by assumption⟩
    case rest =>
      obtain ⟨rfl, hs3, hK3⟩ := hcut
      have hgg := HGG.out _ hK3
      clear hp1 hp2 hng hnp
      go_wp2_with fail
      refine (HR.out _ hgg hs3).mono ?_
      rintro e w4 ⟨rfl, hs4, hg4⟩
      go_wp2
      go_ret
      exact ⟨rfl, hs4, gtrans hgg hg4⟩

end Go.Proofs.YtfmngeemhfpeiaaDoor.K

namespace Go.Proofs.YtfmngeemhfpeiaaDoor.K
open Go.RowKit

set_option maxHeartbeats 400000 in
theorem wrText (k n : Int) (s : ByteArray) (_hs : s.size ≤ maxLen) (a : Option Addr) (len cp : Nat) (w : World) (g m cap : Nat) (hc0 : 0 < cap) (l : List UInt8) (hsp : Spare w g m cap l) (hr : m + s.size ≤ cap) :
    Calls Tryd.prog 123 #[.slice (some ⟨g, 0, none⟩) m cap, .agg #[.int .i64 k, .int .i64 n, .string s, .slice a len cp]] w
      fun e w' => e = .returned (.slice (some ⟨g, 0, none⟩) (m + s.size) cap) ∧ Spare w' g (m + s.size) cap (l ++ s.data.toList) ∧ w.grownBy w' (some g) := by
  have HSP := Lib.hid hsp
  clear hsp
  obtain ⟨i0, hi, hz0, hz1, hz2⟩ := info_parts Tryd.info5
  go_enter Tryd.func123, Tryd.ntmps123
  go_wp2_with ((at_builtin; refine Lib.wpList_append_fits_string _ rfl (.tmp 5) (.tmp 7) 34 9 rfl 0 5 i0 Tryd.underlying34 Tryd.underlying9 hi hz1 (some ⟨g, 0, none⟩) m cap _ rfl (HSP.out.alloc _) s rfl hc0 hr ?_; intro w1 hown1 hgrow1))
  have HO := Lib.hid hown1
  clear hown1
  go_wp2
  go_ret
  refine ⟨rfl, ?_, gtrans (World.grownBy_alloc _ _ _) hgrow1⟩
  have := HO.out
  unfold Spare cells8 Lib.strCells at *
  rw [List.map_append]
  exact this

set_option maxHeartbeats 400000 in
theorem wrElems_0 (n : Int) (s : ByteArray) (a : Option Addr) (cp : Nat) (w : World) (g m cap : Nat) :
    Calls Tryd.prog 125 #[.slice (some ⟨g, 0, none⟩) m cap, .agg #[.int .i64 3, .int .i64 n, .string s, .slice a 0 cp]] w
      fun e w' => e = .returned (.slice (some ⟨g, 0, none⟩) m cap) ∧ Below w.heap.size w w' := by
  go_enter Tryd.func125, Tryd.ntmps125
  go_wp2
  go_rounds 1
  go_ret
  exact ⟨rfl, by go_grown⟩

set_option maxHeartbeats 800000 in
theorem wrElems_5 (n : Int) (s : ByteArray) (l : List V) (len : Nat) (hlen : l.length = len) (hfm : V.formeds l = true) (ih : ∀ x ∈ l, CWrite x) (b off cp : Nat) (w : World) (B : Nat) (hb : b < B) (hBw : B ≤ w.heap.size) (hcap : len ≤ cp) (hm : cp ≤ maxLen)
    (h : AtL w B l b off) (g m cap : Nat) (hBg : B ≤ g) (bs : List UInt8) (hsp : Spare w g m cap bs) (hr : m + (V.encs l).length ≤ cap) :
    Calls Tryd.prog 125 #[.slice (some ⟨g, 0, none⟩) m cap, .agg #[.int .i64 3, .int .i64 n, .string s, .slice (some ⟨b, off, none⟩) len cp]] w
      fun e w' => e = .returned (.slice (some ⟨g, 0, none⟩) (m + (V.encs l).length) cap) ∧ Spare w' g (m + (V.encs l).length) cap (bs ++ V.encs l) ∧ w.grownBy w' (some g) := by
  unfold maxLen at hm
  have HLEN := Lib.hid hlen; clear hlen
  have HF := Lib.hid hfm; clear hfm
  have HSP := Lib.hid hsp; clear hsp
  have HR := Lib.hid hr; clear hr
  have HG := Lib.hid HSP.out.lt
  go_enter Tryd.func125, Tryd.ntmps125
  go_wp2
  obtain ⟨w0, hw0⟩ : ∃ w0, w0 = (w.alloc (Obj.cells #[Value.int IntKind.i64 3, Value.int IntKind.i64 n, Value.string s, Value.slice (some ⟨b, off, none⟩) len cp] 115)) := ⟨_, rfl⟩
  rw [← hw0]
  have hw1 : w.grownBy w0 (some g) := by rw [hw0]; exact World.grownBy_alloc _ _ _
  have hsp0 : Spare w0 g m cap bs := by rw [hw0]; exact HSP.out.alloc _
  have HSP0 := Lib.hid hsp0
  clear hw0 hsp0
  go_loopw [0, 10] (fun d i wr => ∃ (j p : Nat) (cs : List UInt8), i = .int .i64 j ∧ d = .slice (some ⟨g, 0, none⟩) p cap ∧ j ≤ len ∧ m + (V.encs l).length = p + (V.encs (l.drop j)).length ∧ bs ++ V.encs l = cs ++ V.encs (l.drop j) ∧ V.formeds (l.drop j) = true ∧ Spare wr g p cap cs ∧ w.grownBy wr (some g)) (fun _ i _ => len - (intOf i).toNat)
  case atStart => exact ⟨0, m, bs, rfl, rfl, Nat.zero_le _, by simp, by simp, by simpa using HF.out, HSP0.out, hw1⟩
  case round =>
    obtain ⟨j, p, cs, rfl, rfl, hjle, hsm, hbs, hfo, hspr, hgr⟩ := hrel
    have HSM := Lib.hid hsm
    have HBS := Lib.hid hbs
    have HSR := Lib.hid hspr
    have hBr : Below B w wr := belowg hgr hBw hBg
    have hzr := hBr.size
    by_cases hlt : j < len
    · obtain ⟨k2, n2, s2, a2, ln, cp2, g0, g1, g2, g3, ga⟩ := AtL.got l b off j (by rw [HLEN.out]; exact hlt) (AtL.below hBr l b off hb h)
      have hdl : l.drop j = (l[j]'(by rw [HLEN.out]; exact hlt)) :: l.drop (j + 1) := List.drop_eq_getElem_cons (by rw [HLEN.out]; exact hlt)
      rw [hdl, V.formeds_cons, Bool.and_eq_true] at hfo
      rw [hdl, V.encs_cons, List.length_append] at hsm
      rw [hdl, V.encs_cons, ← List.append_assoc] at hbs
      have hrr := HR.out
      have hc : ∀ W, Below wr.heap.size wr W → Calls Tryd.prog 107 #[.slice (some ⟨g, 0, none⟩) p cap, .agg #[.int .i64 k2, .int .i64 n2, .string s2, .slice a2 ln cp2]] W
          fun e w' => e = .returned (.slice (some ⟨g, 0, none⟩) (p + (l[j]'(by rw [HLEN.out]; exact hlt)).enc.length) cap) ∧ Spare w' g (p + (l[j]'(by rw [HLEN.out]; exact hlt)).enc.length) cap (cs ++ (l[j]'(by rw [HLEN.out]; exact hlt)).enc) ∧ W.grownBy w' (some g) := by
        intro W hW
        exact ih _ (List.getElem_mem (by rw [HLEN.out]; exact hlt)) W B _ g p cap cs hfo.1 hBg (by have := hW.size; omega) (V.At.below (hW.mono (by omega)) _ _ ga) (HSR.out.below hW) (by omega)
      have hfo2 := hfo.2
      obtain ⟨r, hrq⟩ : ∃ r, (l[j]'(by rw [HLEN.out]; exact hlt)).enc = r := ⟨_, rfl⟩
      rw [hrq] at hc hsm hbs
      have HC := Lib.hid hc
      have HS2 := Lib.hid hsm
      have HB2 := Lib.hid hbs
      have HF3 := Lib.hid hfo2
      have HGR := Lib.hid hgr
      clear hc hrq h hdl hfo hsm hbs hfo2 ga HSM HBS HSR hspr hrr hgr
      go_wp2_with fail
      refine (HC.out _ (by go_grown)).mono ?_
      rintro e w3 ⟨rfl, hs3, hg3⟩
      have HS3 := Lib.hid hs3
      have HG3 := Lib.hid (gtrans HGR.out (gtrans (World.grownBy_alloc _ _ _) hg3))
      clear hs3 hg3
      go_wp2
      go_roundw
      case rel => exact ⟨j + 1, p + r.length, cs ++ r, by go_num, rfl, by omega, by rw [HS2.out]; omega, by rw [HB2.out], HF3.out, HS3.out, HG3.out⟩
      case measure => simp [intOf]; omega
    · have hje : j = len := by omega
      have hn : l.drop j = [] := by rw [hje]; exact List.drop_of_length_le (by rw [HLEN.out]; exact Nat.le_refl _)
      have hq : m + (V.encs l).length = p := by rw [HSM.out, hn, V.encs_nil]; simp
      have hq2 : bs ++ V.encs l = cs := by rw [HBS.out, hn, V.encs_nil]; simp
      have HQ := Lib.hid hq
      have HQ2 := Lib.hid hq2
      have HGR := Lib.hid hgr
      clear hq hq2 hn hje h hsm hbs hfo hspr hgr
      go_wp2
      go_ret
      exact ⟨by rw [HQ.out]; rfl, by rw [HQ.out, HQ2.out]; exact HSR.out, HGR.out⟩

theorem cWrite : ∀ (N : Nat) (x : V), SizeOf.sizeOf x ≤ N → CWrite x
  | 0, ⟨k, n, s, l⟩, h => by simp at h
  | N + 1, ⟨k, n, s, l⟩, h => by
    intro w B v g m cap bs hf hBg hB hx hsp hr
    have hx0 := hx
    unfold V.At at hx
    obtain ⟨h1, h2, h3, a, cp, rfl, h5, h6, h7⟩ := hx
    unfold V.formed at hf
    unfold V.enc at hr ⊢
    have hzr := zig_range n h2
    have hs0 : s.toList = [] → s.size = 0 := by
      intro e; rw [ByteArray.toList_eq] at e; have := congrArg List.length e; simpa using this
    by_cases e1 : k = 1
    · subst e1
      simp only [if_true] at hf hr ⊢
      simp at hf
      have hl : l = [] := hf.2
      subst hl
      have hN : ∀ W, Calls Tryd.prog 120 #[.agg #[.int .i64 1, .int .i64 n, .string s, .slice a 0 cp]] W fun e w' => e = .returned (.int .u64 ((zig n).toNat : Nat)) ∧ Below W.heap.size W w' := by
        intro W
        rw [Int.toNat_of_nonneg hzr.1]
        by_cases h : n < 0
        · exact unsF_neg 1 n s a 0 cp W h2 h
        · exact unsF_pos 1 n s a 0 cp W h2 h
      rw [List.length_cons] at hr ⊢
      have := write_1 n s a 0 cp w g m cap bs [] hsp (zig n).toNat (by omega) (by rw [List.length_nil]; omega) hN (fun W hW hS => by
        refine (wrNo 1 n s a 0 cp (some ⟨g, 0, none⟩) (m + 1 + (num (zig n).toNat).length) cap W).mono ?_
        rintro e w' ⟨rfl, hb⟩
        exact ⟨rfl, by rw [List.append_nil]; exact hS.below hb, gbelow hb⟩)
      rw [List.append_nil, List.length_nil, Nat.add_zero, List.append_assoc, Nat.add_assoc, Nat.add_comm 1] at this
      exact this
    by_cases e2 : k = 2
    · subst e2
      simp only [show ¬ ((2 : Int) = 1) by omega, if_true, if_false] at hf hr ⊢
      simp at hf
      have hl : l = [] := hf.2
      subst hl
      have e1 : s.data.toList.length = s.size := Array.length_toList
      rw [List.length_cons, List.length_append, e1] at hr ⊢
      have := write_2 n s a 0 cp w g m cap bs s.data.toList hsp s.size (by unfold maxLen at h3; omega) (by omega) (fun W => txtL 2 n s h3 a 0 cp W) (fun W hW hS => by
        rw [e1]
        exact wrText 2 n s h3 a 0 cp W g _ cap (by omega) _ hS (by omega))
      rw [e1, List.append_assoc, List.append_assoc, show m + 1 + (num s.size).length + s.size = m + ((num s.size).length + s.size + 1) by omega] at this
      exact this
    by_cases e3 : k = 3
    · subst e3
      simp only [show ¬ ((3 : Int) = 1) by omega, show ¬ ((3 : Int) = 2) by omega, if_true, if_false] at hf hr ⊢
      simp at hf
      rw [List.length_cons, List.length_append] at hr ⊢
      have := write_3 n s a l.length cp w g m cap bs (V.encs l) hsp l.length (by unfold maxLen at h6; omega) (by omega) (fun W => lstL 3 n s a _ cp (by omega) W) (fun W hW hS => by
        have hBW : Below B w W := belowg hW hB hBg
        rcases h7 with h7 | ⟨b, off, rfl, hb, h10⟩
        · subst h7
          rw [V.encs_nil, List.length_nil]
          refine (wrElems_0 n s a cp W g _ cap).mono ?_
          rintro e w' ⟨rfl, hb⟩
          exact ⟨rfl, by rw [List.append_nil]; exact hS.below hb, gbelow hb⟩
        · exact wrElems_5 n s l l.length rfl hf.2.2 (fun x hx => cWrite N x (by have := List.sizeOf_lt_of_mem hx; simp at h; omega)) b off cp W B hb (by have := hBW.size; omega) h5 h6 (AtL.below hBW _ _ _ hb h10) g _ cap hBg _ hS (by omega))
      rw [List.append_assoc, List.append_assoc, show m + 1 + (num l.length).length + (V.encs l).length = m + ((num l.length).length + (V.encs l).length + 1) by omega] at this
      exact this
    · simp only [e1, e2, e3, if_false] at hf
      simp at hf

theorem Kept.size {w1 W : World} (h : Kept w1 W) : w1.heap.size ≤ W.heap.size := Below.size h

/-- New bytes in a slice. -/
def Made (w : World) (l : List UInt8) (v : Value) (w' : World) : Prop := ∃ g cap, v = .slice (some ⟨g, 0, none⟩) l.length cap ∧ w.heap.size ≤ g ∧ Spare w' g l.length cap l ∧ Below w.heap.size w w'
/-- What Encode is to end in. -/
def EncPost (w : World) (l : List UInt8) (e : Ending) (w' : World) : Prop := ∃ v, e = .returned (.tuple #[v, .int .i64 0]) ∧ Made w l v w'

/-- The cells of a new row of bytes. -/
def mkRow (q : Nat) : Array Value := madeCells (Value.int IntKind.u8 0).cells (q * 1)
theorem run_mk (q : Nat) (hq : q ≤ 1000000000) (W : World) : (Instr.makeSlice 34 (.int .i64 0) (.int .i64 q)).run Tryd.prog W = .ok (.slice (some ⟨W.heap.size, 0, none⟩) 0 q) (W.alloc (.cells (mkRow q) 5)) := by
  obtain ⟨i0, hi, hz0, hz1, hz2⟩ := info_parts Tryd.info5
  have := run_make (P := Tryd.prog) W 34 5 i0 _ Tryd.underlying34 hi hz0 .i64 .i64 0 (q : Int) (by omega) (by omega) (by rw [hz2]; omega) (by omega)
  rw [hz1] at this
  simpa [mkRow] using this
theorem mk_spare (q : Nat) (hq : q ≤ 1000000000) (W : World) : Spare (W.alloc (.cells (mkRow q) 5)) W.heap.size 0 q [] := by
  have : World.ownsRow _ 0 5 1 _ 0 [] := World.ownsRow_made (base := 0) (e := 5) (size := 1) W (mkRow q) q (by omega) (by unfold maxLen; omega) (by unfold mkRow; rw [size_madeCells])
  exact this

set_option maxHeartbeats 400000 in
theorem encode_bad (x : V) (w : World) (B : Nat) (v : Value) (hd : V.dep x ≤ 1000000) (hB : B ≤ w.heap.size) (h : V.At w B x v) (hk : x.chk ≠ 0) :
    Calls Tryd.prog 100 #[v] w fun e w' => e = .returned (.tuple #[.slice none 0 0, .int .i64 x.chk]) ∧ Below w.heap.size w w' := by
  have hc : ∀ W, Below w.heap.size w W → Calls Tryd.prog 106 #[v] W fun e w' => e = .returned (.int .i64 x.chk) ∧ Below W.heap.size W w' :=
    fun W hW => check_any x W B v hd (by have := hW.size; omega) (V.At.below (hW.mono hB) _ _ h)
  obtain ⟨q, hq⟩ : ∃ q, x.chk = q := ⟨_, rfl⟩
  rw [hq] at hc hk ⊢
  obtain ⟨k, n, s, l⟩ := x
  unfold V.At at h
  obtain ⟨h1, h2, h3, a, cap, rfl, _⟩ := h
  have HC := Lib.hid hc
  have hk' : (q != 0) = true := by simpa using hk
  clear hc h1 h2 hq hd hk
  go_enter Tryd.func100, Tryd.ntmps100
  go_wp2_with fail
  refine (HC.out _ (by go_grown)).mono ?_
  rintro e w3 ⟨rfl, hb3⟩
  go_wp2
  go_ret2
  exact ⟨rfl, Below.trans (by go_grown) (hb3.mono (by simp))⟩

set_option maxHeartbeats 800000 in
theorem encode_ok (x : V) (w : World) (B : Nat) (v : Value) (hd : V.dep x ≤ 1000000) (hB : B ≤ w.heap.size) (h : V.At w B x v) (hk : x.chk = 0) (hbd : x.enc.length ≤ 1000000000) :
    Calls Tryd.prog 100 #[v] w (EncPost w x.enc) := by
  have hf : x.formed = true := by
    cases e : x.formed
    · unfold V.chk at hk; rw [e] at hk; simp at hk
    · rfl
  have hc : ∀ W, Below w.heap.size w W → Calls Tryd.prog 106 #[v] W fun e w' => e = .returned (.int .i64 0) ∧ Below W.heap.size W w' :=
    fun W hW => by rw [← hk]; exact check_any x W B v hd (by have := hW.size; omega) (V.At.below (hW.mono hB) _ _ h)
  have hs : ∀ W, Below w.heap.size w W → Calls Tryd.prog 108 #[v] W fun e w' => e = .returned (.int .i64 (x.enc.length : Nat)) ∧ Below W.heap.size W w' :=
    fun W hW => cSize _ x (Nat.le_refl _) W B v hf hbd (by have := hW.size; omega) (V.At.below (hW.mono hB) _ _ h)
  have hw : ∀ W g, Below w.heap.size w W → w.heap.size ≤ g → Spare W g 0 x.enc.length [] → Calls Tryd.prog 107 #[.slice (some ⟨g, 0, none⟩) 0 x.enc.length, v] W fun e w' => e = .returned (.slice (some ⟨g, 0, none⟩) x.enc.length x.enc.length) ∧ Spare w' g x.enc.length x.enc.length x.enc ∧ W.grownBy w' (some g) := by
    intro W g hW hg hS
    have := cWrite _ x (Nat.le_refl _) W B v g 0 x.enc.length [] hf (by omega) (by have := hW.size; omega) (V.At.below (hW.mono hB) _ _ h) hS (by omega)
    rw [Nat.zero_add, List.nil_append] at this
    exact this
  obtain ⟨E, hE⟩ : ∃ E, x.enc = E := ⟨_, rfl⟩
  rw [hE] at hs hw hbd ⊢
  have hmk := run_mk E.length hbd
  obtain ⟨k, n, s, l⟩ := x
  unfold V.At at h
  obtain ⟨h1, h2, h3, a, cap, rfl, _⟩ := h
  obtain ⟨w1, hw1⟩ : ∃ w1, w1 = w.alloc (Obj.cells #[Value.int IntKind.i64 k, Value.int IntKind.i64 n, Value.string s, Value.slice a l.length cap] 115) := ⟨_, rfl⟩
  have hz1 : w1.heap.size = w.heap.size + 1 := by rw [hw1]; simp
  have hB1 : Below w.heap.size w w1 := by rw [hw1]; go_grown
  have c0 : ∀ W, Kept w1 W → W.cell? ⟨w.heap.size, 0, none⟩ = some (.int .i64 k) := fun W hW => (hW.below.cell (by simp; omega)).trans (by rw [hw1]; go_cell)
  have c1 : ∀ W, Kept w1 W → W.cell? ⟨w.heap.size, 1, none⟩ = some (.int .i64 n) := fun W hW => (hW.below.cell (by simp; omega)).trans (by rw [hw1]; go_cell)
  have c2 : ∀ W, Kept w1 W → W.cell? ⟨w.heap.size, 2, none⟩ = some (.string s) := fun W hW => (hW.below.cell (by simp; omega)).trans (by rw [hw1]; go_cell)
  have c3 : ∀ W, Kept w1 W → W.cell? ⟨w.heap.size, 3, none⟩ = some (.slice a l.length cap) := fun W hW => (hW.below.cell (by simp; omega)).trans (by rw [hw1]; go_cell)
  have hkb : ∀ W, Kept w1 W → Below w.heap.size w W := fun W hW => hB1.trans (hW.below.mono (by omega))
  have hs1 : ∀ W, Kept w1 W → Calls Tryd.prog 108 #[.agg #[.int .i64 k, .int .i64 n, .string s, .slice a l.length cap]] W fun e w' => e = .returned (.int .i64 (E.length : Nat)) ∧ Kept w1 w' :=
    fun W hW => (hs W (hkb W hW)).mono fun e w' h => ⟨h.1, hW.next h.2⟩
  have hwr : ∀ W g, Kept w1 W → w1.heap.size ≤ g → Spare W g 0 E.length [] → Calls Tryd.prog 107 #[.slice (some ⟨g, 0, none⟩) 0 E.length, .agg #[.int .i64 k, .int .i64 n, .string s, .slice a l.length cap]] W fun e w' => e = .returned (.slice (some ⟨g, 0, none⟩) E.length E.length) ∧ Spare w' g E.length E.length E ∧ Kept w1 w' :=
    fun W g hW hg hS => (hw W g (hkb W hW) (by omega) hS).mono fun e w' h => ⟨h.1, h.2.1, Below.trans hW (belowg h.2.2 hW.size hg)⟩
  have hcc : ∀ W, Kept w1 W → Calls Tryd.prog 106 #[.agg #[.int .i64 k, .int .i64 n, .string s, .slice a l.length cap]] W fun e w' => e = .returned (.int .i64 0) ∧ Kept w1 w' :=
    fun W hW => (hc W (hkb W hW)).mono fun e w' h => ⟨h.1, hW.next h.2⟩
  have HC := Lib.hid hcc
  have HS := Lib.hid hs1
  have HWR := Lib.hid hwr
  have HW := Lib.hid hw1
  have HKB := Lib.hid hkb
  clear hc hcc hs hs1 hw hwr hw1 hkb h1 h2 h3 hE hk hf hd
  go_enter Tryd.func100, Tryd.ntmps100
  go_wp2_with fail
  rw [← HW.out]
  refine (HC.out _ (Kept.refl _)).mono ?_
  rintro e w3 ⟨rfl, hK3⟩
  go_wp2_with fail
  go_region_held3 (fun W => Kept w1 W) (first | assumption | exact Kept.drew (by assumption) | exact Kept.alloc (by assumption) _)
    (first | (go_at_call 108; refine (HS.out _ (by assumption)).mono ?_; rintro e w5 ⟨rfl, hK5⟩) | (go_at_call 107; refine (HWR.out _ _ (by assumption) (Kept.size (by assumption)) (mk_spare _ hbd _)).mono ?_; rintro e w' ⟨rfl, hS5, hK⟩))
  all_goals
    go_wp2
    go_ret2
    exact ⟨_, rfl, _, _, rfl, by have := hK5.size; omega, hS5, HKB.out _ hK⟩


theorem V.chk_formed (x : V) (hk : x.chk = 0) : x.formed = true := by
  cases e : x.formed
  · unfold V.chk at hk; rw [e] at hk; simp at hk
  · rfl

end Go.Proofs.YtfmngeemhfpeiaaDoor.K
