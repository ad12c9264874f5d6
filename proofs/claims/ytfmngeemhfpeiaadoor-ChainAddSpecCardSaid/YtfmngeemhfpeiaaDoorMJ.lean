/- ChainParts: the law's walk. -/
import Derived.Test.YtfmngeemhfpeiaaDoorMH
namespace Go.Proofs.YtfmngeemhfpeiaaDoor
open Go.RowKit

theorem LRow.get {w : World} {B n cap : Nat} {a : Option Addr} {l : List Lk} (h : LRow w B (.slice a n cap) l) (i : Nat) (hi : i < l.length) : ∃ b off d, a = some ⟨b, off, none⟩ ∧ b < B ∧ l[i].ok ∧ w.rangeAt b (off + i * 35) (lcells l[i] d) ∧ BytesAt w B d l[i].data := by
  obtain ⟨hok, a', cap', e, _, _, h4⟩ := h
  injection e with e1 _ _
  subst e1
  obtain ⟨b, off, rfl, hb, h5⟩ := h4.resolve_left (fun e => by subst e; exact absurd hi (by simp))
  obtain ⟨d, h6, h7⟩ := h5 i hi
  exact ⟨b, off, d, rfl, hb, hok _ (List.getElem_mem hi), h6, h7⟩
theorem oneNode_symm (a b : List Lk) : oneNode a b = oneNode b a := by
  cases a <;> cases b <;> simp [oneNode, bel, eq_comm]
theorem diffAt_symm (a b : List Lk) (j : Nat) : diffAt a b j = diffAt b a j := by
  unfold diffAt
  cases a[j]? <;> cases b[j]? <;> simp [eq_comm]
theorem fst_symm (a b : List Lk) (n : Nat) : fstOf (diffAt a b) n = fstOf (diffAt b a) n := by
  rw [show diffAt a b = diffAt b a from funext (diffAt_symm a b)]
theorem fstOf_none_spec {p : Nat → Bool} {n : Nat} (h : fstOf p n = none) : ∀ j, j < n → p j = false := by
  have : (fstOf p n).isNone = true := by rw [h]; rfl
  exact fstOf_isNone.1 this
theorem fstOf_some_spec {p : Nat → Bool} {n i : Nat} (h : fstOf p n = some i) : i < n ∧ p i = true ∧ ∀ j, j < i → p j = false := by
  unfold fstOf at h
  rw [List.find?_range_eq_some] at h
  obtain ⟨h1, h2, h3⟩ := h
  exact ⟨by simpa using h2, h1, fun j hj => by simpa using h3 j hj⟩
/-- What Part returns, and what it returns the other way round. -/
theorem part_two (l m : List Lk) : (∃ F G : Int, F ≠ 0 ∧ G ≠ 0 ∧ partV l m = .tuple #[.int .i64 0, .bool false, .int .i64 F] ∧ partV m l = .tuple #[.int .i64 0, .bool false, .int .i64 G]) ∨
    (fstOf (diffAt l m) (min l.length m.length) = none ∧ partV l m = .tuple #[.int .i64 0, .bool false, .int .i64 0] ∧ partV m l = .tuple #[.int .i64 0, .bool false, .int .i64 0]) ∨
    (∃ i : Nat, fstOf (diffAt l m) (min l.length m.length) = some i ∧ partV l m = .tuple #[.int .i64 i, .bool true, .int .i64 0] ∧ partV m l = .tuple #[.int .i64 i, .bool true, .int .i64 0]) := by
  unfold partV
  rw [oneNode_symm m l, fst_symm m l, Nat.min_comm m.length l.length]
  generalize chk l = x
  generalize chk m = y
  by_cases hx : x = 0
  · by_cases hy : y = 0
    · by_cases ho : oneNode l m = false
      · exact .inl ⟨80, 80, by decide, by decide, by simp [hx, hy, ho], by simp [hx, hy, ho]⟩
      · simp only [hx, hy, ho, ne_eq, not_true_eq_false, if_false]
        cases fstOf (diffAt l m) (min l.length m.length) with
        | none => exact .inr (.inl ⟨rfl, rfl, rfl⟩)
        | some i => exact .inr (.inr ⟨i, rfl, rfl, rfl⟩)
    · exact .inl ⟨y, y, hy, hy, by simp [hx, hy], by simp [hy]⟩
  · by_cases hy : y = 0
    · exact .inl ⟨x, x, hx, hx, by simp [hx], by simp [hx, hy]⟩
    · exact .inl ⟨x, y, hx, hy, by simp [hx], by simp [hy]⟩
theorem take_eq_of_fst {l m : List Lk} {n : Nat} (hn : n ≤ min l.length m.length) (h : ∀ j, j < n → diffAt l m j = false) : l.take n = m.take n := by
  refine List.ext_getElem (by rw [List.length_take, List.length_take]; omega) fun j h1 h2 => ?_
  rw [List.length_take] at h1 h2
  have := h j (by omega)
  unfold diffAt at this
  rw [List.getElem?_eq_getElem (by omega), List.getElem?_eq_getElem (by omega)] at this
  rw [List.getElem_take, List.getElem_take]
  simpa using this

def c15a0 : Oper := { dst := some 67, op := Go.Op.move (Go.Operand.tmp 5), type := 3, pos := "law.go:150", after := #[], guard := none }
def c15a1 : Oper := { dst := some 68, op := Go.Op.binOp Go.BinOp.eql 3 (Go.Operand.tmp 67) (Go.Operand.const (Go.Value.int Go.IntKind.i64 0)) 3, type := 4, pos := "law.go:150", after := #[{ on := 0, ground := Go.Ground.data }], guard := none }
def c15a2 : Oper := { dst := some 69, op := Go.Op.move (Go.Operand.tmp 68), type := 4, pos := "law.go:150", after := #[{ on := 1, ground := Go.Ground.data }], guard := none }
def c15a3 : Oper := { dst := some 70, op := Go.Op.move (Go.Operand.tmp 0), type := 44, pos := "law.go:150", after := #[{ on := 2, ground := Go.Ground.guard }], guard := some (2, true) }
def c15a4 : Oper := { dst := some 71, op := Go.Op.move (Go.Operand.tmp 11), type := 3, pos := "law.go:150", after := #[{ on := 2, ground := Go.Ground.guard }], guard := some (2, true) }
def c15a5 : Oper := { dst := some 72, op := Go.Op.slice 44 (Go.Operand.tmp 70) none (some (Go.Operand.tmp 71)) none, type := 44, pos := "law.go:150", after := #[{ on := 3, ground := Go.Ground.data }, { on := 4, ground := Go.Ground.data }, { on := 2, ground := Go.Ground.guard }], guard := some (2, true) }
def c15a6 : Oper := { dst := some 73, op := Go.Op.move (Go.Operand.tmp 1), type := 44, pos := "law.go:150", after := #[{ on := 2, ground := Go.Ground.guard }], guard := some (2, true) }
def c15a7 : Oper := { dst := some 74, op := Go.Op.move (Go.Operand.tmp 11), type := 3, pos := "law.go:150", after := #[{ on := 2, ground := Go.Ground.guard }], guard := some (2, true) }
def c15a8 : Oper := { dst := some 75, op := Go.Op.slice 44 (Go.Operand.tmp 73) none (some (Go.Operand.tmp 74)) none, type := 44, pos := "law.go:150", after := #[{ on := 6, ground := Go.Ground.data }, { on := 7, ground := Go.Ground.data }, { on := 2, ground := Go.Ground.guard }], guard := some (2, true) }
def c15a9 : Oper := { dst := some 76, op := Go.Op.call { callee := Go.Callee.value (Go.Operand.func 39), args := #[Go.Operand.tmp 72, Go.Operand.tmp 75], argTypes := #[44, 44] }, type := 4, pos := "law.go:150", after := #[{ on := 5, ground := Go.Ground.data }, { on := 8, ground := Go.Ground.data }, { on := 2, ground := Go.Ground.chain }, { on := 2, ground := Go.Ground.guard }], guard := some (2, true) }
def c15a10 : Oper := { dst := some 77, op := Go.Op.pick (Go.Operand.tmp 69) (Go.Operand.tmp 76) (Go.Operand.const (Go.Value.bool false)), type := 4, pos := "law.go:150", after := #[{ on := 2, ground := Go.Ground.data }, { on := 9, ground := Go.Ground.data }], guard := none }
def c15a11 : Oper := { dst := some 4, op := Go.Op.assign (Go.Operand.tmp 77), type := 4, pos := "law.go:150", after := #[{ on := 10, ground := Go.Ground.data }, { on := 9, ground := Go.Ground.chain }, { on := 0, ground := Go.Ground.phase }, { on := 1, ground := Go.Ground.phase }, { on := 2, ground := Go.Ground.phase }, { on := 3, ground := Go.Ground.phase }, { on := 4, ground := Go.Ground.phase }, { on := 5, ground := Go.Ground.phase }, { on := 6, ground := Go.Ground.phase }, { on := 7, ground := Go.Ground.phase }, { on := 8, ground := Go.Ground.phase }, { on := 9, ground := Go.Ground.phase }, { on := 10, ground := Go.Ground.phase }], guard := none }
def c15b0 : Oper := { dst := some 78, op := Go.Op.move (Go.Operand.tmp 5), type := 3, pos := "law.go:152", after := #[], guard := none }
def c15b1 : Oper := { dst := some 79, op := Go.Op.binOp Go.BinOp.geq 3 (Go.Operand.tmp 78) (Go.Operand.const (Go.Value.int Go.IntKind.i64 0)) 3, type := 4, pos := "law.go:152", after := #[{ on := 0, ground := Go.Ground.data }], guard := none }
def c15b2 : Oper := { dst := some 80, op := Go.Op.move (Go.Operand.tmp 79), type := 4, pos := "law.go:152", after := #[{ on := 1, ground := Go.Ground.data }], guard := none }
def c15b3 : Oper := { dst := some 81, op := Go.Op.move (Go.Operand.tmp 5), type := 3, pos := "law.go:152", after := #[{ on := 2, ground := Go.Ground.guard }], guard := some (2, true) }
def c15b4 : Oper := { dst := some 82, op := Go.Op.move (Go.Operand.tmp 11), type := 3, pos := "law.go:152", after := #[{ on := 2, ground := Go.Ground.guard }], guard := some (2, true) }
def c15b5 : Oper := { dst := some 83, op := Go.Op.binOp Go.BinOp.lss 3 (Go.Operand.tmp 81) (Go.Operand.tmp 82) 3, type := 4, pos := "law.go:152", after := #[{ on := 3, ground := Go.Ground.data }, { on := 4, ground := Go.Ground.data }, { on := 2, ground := Go.Ground.guard }], guard := some (2, true) }
def c15b6 : Oper := { dst := some 84, op := Go.Op.pick (Go.Operand.tmp 80) (Go.Operand.tmp 83) (Go.Operand.const (Go.Value.bool false)), type := 4, pos := "law.go:152", after := #[{ on := 2, ground := Go.Ground.data }, { on := 5, ground := Go.Ground.data }], guard := none }
def c15b7 : Oper := { dst := some 85, op := Go.Op.move (Go.Operand.tmp 84), type := 4, pos := "law.go:152", after := #[{ on := 6, ground := Go.Ground.data }, { on := 2, ground := Go.Ground.chain }], guard := none }
def c15b8 : Oper := { dst := some 86, op := Go.Op.move (Go.Operand.tmp 0), type := 44, pos := "law.go:152", after := #[{ on := 7, ground := Go.Ground.guard }], guard := some (7, true) }
def c15b9 : Oper := { dst := some 87, op := Go.Op.move (Go.Operand.tmp 5), type := 3, pos := "law.go:152", after := #[{ on := 7, ground := Go.Ground.guard }], guard := some (7, true) }
def c15b10 : Oper := { dst := some 88, op := Go.Op.slice 44 (Go.Operand.tmp 86) none (some (Go.Operand.tmp 87)) none, type := 44, pos := "law.go:152", after := #[{ on := 8, ground := Go.Ground.data }, { on := 9, ground := Go.Ground.data }, { on := 7, ground := Go.Ground.guard }], guard := some (7, true) }
def c15b11 : Oper := { dst := some 89, op := Go.Op.move (Go.Operand.tmp 1), type := 44, pos := "law.go:152", after := #[{ on := 7, ground := Go.Ground.guard }], guard := some (7, true) }
def c15b12 : Oper := { dst := some 90, op := Go.Op.move (Go.Operand.tmp 5), type := 3, pos := "law.go:152", after := #[{ on := 7, ground := Go.Ground.guard }], guard := some (7, true) }
def c15b13 : Oper := { dst := some 91, op := Go.Op.slice 44 (Go.Operand.tmp 89) none (some (Go.Operand.tmp 90)) none, type := 44, pos := "law.go:152", after := #[{ on := 11, ground := Go.Ground.data }, { on := 12, ground := Go.Ground.data }, { on := 7, ground := Go.Ground.guard }], guard := some (7, true) }
def c15b14 : Oper := { dst := some 92, op := Go.Op.call { callee := Go.Callee.value (Go.Operand.func 39), args := #[Go.Operand.tmp 88, Go.Operand.tmp 91], argTypes := #[44, 44] }, type := 4, pos := "law.go:152", after := #[{ on := 10, ground := Go.Ground.data }, { on := 13, ground := Go.Ground.data }, { on := 7, ground := Go.Ground.chain }, { on := 7, ground := Go.Ground.guard }], guard := some (7, true) }
def c15b15 : Oper := { dst := some 93, op := Go.Op.pick (Go.Operand.tmp 85) (Go.Operand.tmp 92) (Go.Operand.const (Go.Value.bool false)), type := 4, pos := "law.go:152", after := #[{ on := 7, ground := Go.Ground.data }, { on := 14, ground := Go.Ground.data }], guard := none }
def c15b16 : Oper := { dst := some 94, op := Go.Op.move (Go.Operand.tmp 93), type := 4, pos := "law.go:152", after := #[{ on := 15, ground := Go.Ground.data }, { on := 14, ground := Go.Ground.chain }], guard := none }
def c15b17 : Oper := { dst := some 95, op := Go.Op.move (Go.Operand.tmp 0), type := 44, pos := "law.go:152", after := #[{ on := 16, ground := Go.Ground.guard }], guard := some (16, true) }
def c15b18 : Oper := { dst := some 96, op := Go.Op.move (Go.Operand.tmp 5), type := 3, pos := "law.go:152", after := #[{ on := 16, ground := Go.Ground.guard }], guard := some (16, true) }
def c15b19 : Oper := { dst := some 97, op := Go.Op.indexAddr 44 (Go.Operand.tmp 95) (Go.Operand.tmp 96), type := 0, pos := "law.go:152", after := #[{ on := 17, ground := Go.Ground.data }, { on := 18, ground := Go.Ground.data }, { on := 16, ground := Go.Ground.guard }], guard := some (16, true) }
def c15b20 : Oper := { dst := some 98, op := Go.Op.load 55 (Go.Operand.tmp 97), type := 55, pos := "law.go:152", after := #[{ on := 19, ground := Go.Ground.data }, { on := 16, ground := Go.Ground.guard }], guard := some (16, true) }
def c15b21 : Oper := { dst := some 99, op := Go.Op.move (Go.Operand.tmp 1), type := 44, pos := "law.go:152", after := #[{ on := 16, ground := Go.Ground.guard }], guard := some (16, true) }
def c15b22 : Oper := { dst := some 100, op := Go.Op.move (Go.Operand.tmp 5), type := 3, pos := "law.go:152", after := #[{ on := 16, ground := Go.Ground.guard }], guard := some (16, true) }
def c15b23 : Oper := { dst := some 101, op := Go.Op.indexAddr 44 (Go.Operand.tmp 99) (Go.Operand.tmp 100), type := 0, pos := "law.go:152", after := #[{ on := 21, ground := Go.Ground.data }, { on := 22, ground := Go.Ground.data }, { on := 16, ground := Go.Ground.guard }], guard := some (16, true) }
def c15b24 : Oper := { dst := some 102, op := Go.Op.load 55 (Go.Operand.tmp 101), type := 55, pos := "law.go:152", after := #[{ on := 23, ground := Go.Ground.data }, { on := 16, ground := Go.Ground.guard }], guard := some (16, true) }
def c15b25 : Oper := { dst := some 103, op := Go.Op.call { callee := Go.Callee.value (Go.Operand.func 41), args := #[Go.Operand.tmp 98, Go.Operand.tmp 102], argTypes := #[55, 55] }, type := 4, pos := "law.go:152", after := #[{ on := 20, ground := Go.Ground.data }, { on := 24, ground := Go.Ground.data }, { on := 16, ground := Go.Ground.chain }, { on := 16, ground := Go.Ground.guard }], guard := some (16, true) }
def c15b26 : Oper := { dst := some 104, op := Go.Op.unOp Go.UnOp.not 4 (Go.Operand.tmp 103), type := 4, pos := "law.go:152", after := #[{ on := 25, ground := Go.Ground.data }, { on := 16, ground := Go.Ground.guard }], guard := some (16, true) }
def c15b27 : Oper := { dst := some 105, op := Go.Op.pick (Go.Operand.tmp 94) (Go.Operand.tmp 104) (Go.Operand.const (Go.Value.bool false)), type := 4, pos := "law.go:152", after := #[{ on := 16, ground := Go.Ground.data }, { on := 26, ground := Go.Ground.data }], guard := none }
def c15b28 : Oper := { dst := some 4, op := Go.Op.assign (Go.Operand.tmp 105), type := 4, pos := "law.go:152", after := #[{ on := 27, ground := Go.Ground.data }, { on := 25, ground := Go.Ground.chain }, { on := 0, ground := Go.Ground.phase }, { on := 1, ground := Go.Ground.phase }, { on := 2, ground := Go.Ground.phase }, { on := 3, ground := Go.Ground.phase }, { on := 4, ground := Go.Ground.phase }, { on := 5, ground := Go.Ground.phase }, { on := 6, ground := Go.Ground.phase }, { on := 7, ground := Go.Ground.phase }, { on := 8, ground := Go.Ground.phase }, { on := 9, ground := Go.Ground.phase }, { on := 10, ground := Go.Ground.phase }, { on := 11, ground := Go.Ground.phase }, { on := 12, ground := Go.Ground.phase }, { on := 13, ground := Go.Ground.phase }, { on := 14, ground := Go.Ground.phase }, { on := 15, ground := Go.Ground.phase }, { on := 16, ground := Go.Ground.phase }, { on := 17, ground := Go.Ground.phase }, { on := 18, ground := Go.Ground.phase }, { on := 19, ground := Go.Ground.phase }, { on := 20, ground := Go.Ground.phase }, { on := 21, ground := Go.Ground.phase }, { on := 22, ground := Go.Ground.phase }, { on := 23, ground := Go.Ground.phase }, { on := 24, ground := Go.Ground.phase }, { on := 25, ground := Go.Ground.phase }, { on := 26, ground := Go.Ground.phase }, { on := 27, ground := Go.Ground.phase }], guard := none }

set_option maxRecDepth 100000 in
set_option maxHeartbeats 8000000 in
theorem lawParts (w : World) (v u : Value) (l m : List Lk) (hv : LRow0 w w.heap.size v l) (hu : LRow0 w w.heap.size u m) (hT : Tab w) (h0 : 0 < w.heap.size) :
    Calls Tryd.prog 15 #[v, u] w fun e w' => e = .returned (.bool true) ∧ Below w.heap.size w w' := by
  have hfa : ∀ W, Below w.heap.size w W → Calls Tryd.prog 30 #[v] W fun e w' => e = .returned (.bool (fewL l)) ∧ w' = W := fun W hW => few_any W v l (hv.at hW)
  have hfb : ∀ W, Below w.heap.size w W → Calls Tryd.prog 30 #[u] W fun e w' => e = .returned (.bool (fewL m)) ∧ w' = W := fun W hW => few_any W u m (hu.at hW)
  have HSA := Lib.hid (sane_any w hT h0)
  have hv0 := hv
  have hu0 := hu
  obtain ⟨hok, a, cap, rfl, h1, h2, h3⟩ := hv
  obtain ⟨hok', a', cap', rfl, h1', h2', h3'⟩ := hu
  have HFA := Lib.hid hfa
  have HFB := Lib.hid hfb
  clear hfa hfb hok hok' h3 h3'
  obtain ⟨N, hN⟩ : ∃ N, l.length = N := ⟨_, rfl⟩
  obtain ⟨M, hM⟩ : ∃ M, m.length = M := ⟨_, rfl⟩
  rw [hN] at h1 hv0 HFA ⊢
  rw [hM] at h1' hu0 HFB ⊢
  cases hla : fewL l with
  | false =>
    rw [hla] at HFA
    clear hv0 hu0 hla hN hM
    go_enter Tryd.func15, Tryd.ntmps15
    go_wp2_with fail
    refine HSA.out.mono ?_
    rintro e w1 ⟨rfl, hb1⟩
    have HB1 := Lib.hid hb1
    clear hb1
    go_wp2_with (go_at_call 30; with_reducible refine (HFA.out _ HB1.out).mono ?_; rintro e w2 ⟨rfl, rfl⟩)
    go_returns
    exact ⟨rfl, HB1.out⟩
  | true =>
    obtain ⟨hl, hl16⟩ := fewL_row hv0 hla
    cases hlb : fewL m with
    | false =>
      rw [hla] at HFA
      rw [hlb] at HFB
      clear hv0 hu0 hla hlb hN hM hl
      go_enter Tryd.func15, Tryd.ntmps15
      go_wp2_with fail
      refine HSA.out.mono ?_
      rintro e w1 ⟨rfl, hb1⟩
      have HB1 := Lib.hid hb1
      clear hb1
      go_wp2_with (first
        | (go_at_call 30; with_reducible refine (HFA.out _ HB1.out).mono ?_; rintro e w2 ⟨rfl, rfl⟩)
        | (go_at_call 30; with_reducible refine (HFB.out _ HB1.out).mono ?_; rintro e w2 ⟨rfl, rfl⟩))
      go_returns
      exact ⟨rfl, HB1.out⟩
    | true =>
      obtain ⟨hm, hm16⟩ := fewL_row hu0 hlb
      rw [hla] at HFA
      rw [hlb] at HFB
      rw [hN] at hl16
      rw [hM] at hm16
      have hp1 : ∀ W, Below w.heap.size w W → Calls Tryd.prog 37 #[.slice a N cap, .slice a' M cap'] W fun e w' => e = .returned (partV l m) ∧ Below W.heap.size W w' := fun W hW =>
        part_any W _ _ l m (hl.at hW) (hm.at hW) (by omega) (by omega) (hT.below hW h0) (by have := hW.size; omega)
      have hp2 : ∀ W, Below w.heap.size w W → Calls Tryd.prog 37 #[.slice a' M cap', .slice a N cap] W fun e w' => e = .returned (partV m l) ∧ Below W.heap.size W w' := fun W hW =>
        part_any W _ _ m l (hm.at hW) (hl.at hW) (by omega) (by omega) (hT.below hW h0) (by have := hW.size; omega)
      have HL := Lib.hid hl
      have HM := Lib.hid hm
      have HN := Lib.hid hN
      have HMM := Lib.hid hM
      have h12 := part_two l m
      unfold maxLen at h2 h2'
      rw [hN, hM] at h12
      clear hv0 hu0 hla hlb hl hm hN hM hT
      rcases h12 with ⟨F, G, hF, hG, e1, e2⟩ | ⟨hf, e1, e2⟩ | ⟨i, hf, e1, e2⟩
      · rw [e1] at hp1
        rw [e2] at hp2
        have HP1 := Lib.hid hp1
        have HP2 := Lib.hid hp2
        have d1 : (F != 0) = true := by simp [hF]
        have d2 : (F == 0) = false := by simp [hF]
        have d3 : (G != 0) = true := by simp [hG]
        have d4 : (G == 0) = false := by simp [hG]
        clear hp1 hp2 e1 e2 hF hG
        go_enter Tryd.func15, Tryd.ntmps15
        go_wp2_with fail
        refine HSA.out.mono ?_
        rintro e w1 ⟨rfl, hb1⟩
        have HB1 := Lib.hid hb1
        clear hb1
        go_wp2_with (first
          | (go_at_call 30; with_reducible refine (HFA.out _ HB1.out).mono ?_; rintro e w2 ⟨rfl, rfl⟩)
          | (go_at_call 30; with_reducible refine (HFB.out _ HB1.out).mono ?_; rintro e w2 ⟨rfl, rfl⟩))
        refine (HP1.out _ HB1.out).mono ?_
        rintro e w3 ⟨rfl, hb3⟩
        have HB3 := Lib.hid (HB1.out.trans (hb3.mono HB1.out.size))
        clear hb3
        go_wp2_with fail
        refine (HP2.out _ HB3.out).mono ?_
        rintro e w5 ⟨rfl, hb5⟩
        have HB := Lib.hid (HB3.out.trans (hb5.mono HB3.out.size))
        clear hb5
        go_wp2_with fail
        go_returns
        exact ⟨by simp, HB.out⟩
      · rw [e1] at hp1
        rw [e2] at hp2
        have HP1 := Lib.hid hp1
        have HP2 := Lib.hid hp2
        have hsm : ∀ W, Below w.heap.size w W → Calls Tryd.prog 39 #[.slice a (min N M) cap, .slice a' (min N M) cap'] W fun e w' => e = .returned (.bool true) ∧ Below W.heap.size W w' := fun W hW => by
          have h := rsame_any W _ _ _ _ ((HL.out.at hW).take (m := min N M) (c := cap) (by omega) rfl) ((HM.out.at hW).take (m := min N M) (c := cap') (by omega) rfl) (by rw [List.length_take]; omega) (by rw [List.length_take]; omega)
          rw [decide_eq_true (take_eq_of_fst (by rw [HN.out, HMM.out]; exact Nat.le_refl _) (fstOf_none_spec hf))] at h
          exact h
        have HSM0 := Lib.hid hsm
        clear hp1 hp2 e1 e2 hf hsm
        go_enter Tryd.func15, Tryd.ntmps15
        go_wp2_with fail
        refine HSA.out.mono ?_
        rintro e w1 ⟨rfl, hb1⟩
        have HB1 := Lib.hid hb1
        clear hb1
        go_wp2_with (first
          | (go_at_call 30; with_reducible refine (HFA.out _ HB1.out).mono ?_; rintro e w2 ⟨rfl, rfl⟩)
          | (go_at_call 30; with_reducible refine (HFB.out _ HB1.out).mono ?_; rintro e w2 ⟨rfl, rfl⟩))
        refine (HP1.out _ HB1.out).mono ?_
        rintro e w3 ⟨rfl, hb3⟩
        have HB3 := Lib.hid (HB1.out.trans (hb3.mono HB1.out.size))
        clear hb3
        go_wp2_with fail
        refine (HP2.out _ HB3.out).mono ?_
        rintro e w5 ⟨rfl, hb5⟩
        have HB := Lib.hid (HB3.out.trans (hb5.mono HB3.out.size))
        clear hb5
        have tn : (min (N : Int) (M : Int)).toNat = min N M := by omega
        have HSM : Hid (∀ W, Kept w5 W → Calls Tryd.prog 39 #[.slice a (min (N : Int) (M : Int)).toNat cap, .slice a' (min (N : Int) (M : Int)).toNat cap'] W fun e w' => e = .returned (.bool true) ∧ Below W.heap.size W w') := Lib.hid fun W hW => by
          rw [tn]; exact HSM0.out W (HB.out.trans (hW.below.mono HB.out.size))
        have k1 : (min (N : Int) (M : Int)) ≤ (cap : Int) := by omega
        have k2 : (min (N : Int) (M : Int)) ≤ (cap' : Int) := by omega
        have k3 : 0 ≤ (min (N : Int) (M : Int)) := by omega
        clear tn
        go_upto_region 13 with fail
        go_wp2_with fail
        refine wp_region_held_drew (S := fun W => Kept w5 W) (by kernel_rfl) (Kept.drew (Kept.refl w5)) (fun hHeld => ?_)
        refine wpAnyH_take (i := 0) (oi := c15a0) (v := ?_) rfl (by kernel_rfl) (by kernel_rfl) (by kernel_rfl) (fun _ _ _ h => h) (Or.inl ⟨by rfl, ?_⟩) hHeld ?_
        rotate_left
        · (intro w hSw; (try dsimp only at hSw); unfold c15a0; go_simp <;> with_reducible rfl)
        try simp only [c15a0, Act.put, List.setIfInBounds_toArray, List.set_cons_zero, List.set_cons_succ]
        refine wpAnyH_take (i := 1) (oi := c15a1) (v := ?_) rfl (by kernel_rfl) (by kernel_rfl) (by kernel_rfl) (fun _ _ _ h => h) (Or.inl ⟨by rfl, ?_⟩) hHeld ?_
        rotate_left
        · (intro w hSw; (try dsimp only at hSw); unfold c15a1; go_simp <;> with_reducible rfl)
        try simp only [c15a1, Act.put, List.setIfInBounds_toArray, List.set_cons_zero, List.set_cons_succ]
        refine wpAnyH_take (i := 2) (oi := c15a2) (v := ?_) rfl (by kernel_rfl) (by kernel_rfl) (by kernel_rfl) (fun _ _ _ h => h) (Or.inl ⟨by rfl, ?_⟩) hHeld ?_
        rotate_left
        · (intro w hSw; (try dsimp only at hSw); unfold c15a2; go_simp <;> with_reducible rfl)
        try simp only [c15a2, Act.put, List.setIfInBounds_toArray, List.set_cons_zero, List.set_cons_succ]
        refine wpAnyH_take (i := 3) (oi := c15a3) (v := ?_) rfl (by kernel_rfl) (by kernel_rfl) (by kernel_rfl) (fun _ _ _ h => h) (Or.inl ⟨by rfl, ?_⟩) hHeld ?_
        rotate_left
        · (intro w hSw; (try dsimp only at hSw); unfold c15a3; go_simp <;> with_reducible rfl)
        try simp only [c15a3, Act.put, List.setIfInBounds_toArray, List.set_cons_zero, List.set_cons_succ]
        refine wpAnyH_take (i := 4) (oi := c15a4) (v := ?_) rfl (by kernel_rfl) (by kernel_rfl) (by kernel_rfl) (fun _ _ _ h => h) (Or.inl ⟨by rfl, ?_⟩) hHeld ?_
        rotate_left
        · (intro w hSw; (try dsimp only at hSw); unfold c15a4; go_simp <;> with_reducible rfl)
        try simp only [c15a4, Act.put, List.setIfInBounds_toArray, List.set_cons_zero, List.set_cons_succ]
        refine wpAnyH_take (i := 5) (oi := c15a5) (v := ?_) rfl (by kernel_rfl) (by kernel_rfl) (by kernel_rfl) (fun _ _ _ h => h) (Or.inl ⟨by rfl, ?_⟩) hHeld ?_
        rotate_left
        · (intro w hSw; (try dsimp only at hSw); unfold c15a5; go_simp <;> with_reducible rfl)
        try simp only [c15a5, Act.put, List.setIfInBounds_toArray, List.set_cons_zero, List.set_cons_succ]
        refine wpAnyH_take (i := 6) (oi := c15a6) (v := ?_) rfl (by kernel_rfl) (by kernel_rfl) (by kernel_rfl) (fun _ _ _ h => h) (Or.inl ⟨by rfl, ?_⟩) hHeld ?_
        rotate_left
        · (intro w hSw; (try dsimp only at hSw); unfold c15a6; go_simp <;> with_reducible rfl)
        try simp only [c15a6, Act.put, List.setIfInBounds_toArray, List.set_cons_zero, List.set_cons_succ]
        refine wpAnyH_take (i := 7) (oi := c15a7) (v := ?_) rfl (by kernel_rfl) (by kernel_rfl) (by kernel_rfl) (fun _ _ _ h => h) (Or.inl ⟨by rfl, ?_⟩) hHeld ?_
        rotate_left
        · (intro w hSw; (try dsimp only at hSw); unfold c15a7; go_simp <;> with_reducible rfl)
        try simp only [c15a7, Act.put, List.setIfInBounds_toArray, List.set_cons_zero, List.set_cons_succ]
        refine wpAnyH_take (i := 8) (oi := c15a8) (v := ?_) rfl (by kernel_rfl) (by kernel_rfl) (by kernel_rfl) (fun _ _ _ h => h) (Or.inl ⟨by rfl, ?_⟩) hHeld ?_
        rotate_left
        · (intro w hSw; (try dsimp only at hSw); unfold c15a8; go_simp <;> with_reducible rfl)
        try simp only [c15a8, Act.put, List.setIfInBounds_toArray, List.set_cons_zero, List.set_cons_succ]
        refine wpAnyH_ready (rs := [9]) (by kernel_rfl) (by simp) ?_
        refine AllReadyH.cons (o := c15a9) rfl (fun K hK => ?_) AllReadyH.nil
        rw [if_pos (by rfl)]
        unfold c15a9
        go_simp
        (with_reducible refine (HSM.out _ hHeld).mono ?_)
        rintro e W9 ⟨rfl, hB9⟩
        have hS9 := hHeld.next hB9
        go_wp2_with fail
        refine hK.out _ _ hS9 (fun hHeld => ?_)
        clear hK K
        try simp only [c15a9, Act.put, List.setIfInBounds_toArray, List.set_cons_zero, List.set_cons_succ]
        refine wpAnyH_take (i := 10) (oi := c15a10) (v := ?_) rfl (by kernel_rfl) (by kernel_rfl) (by kernel_rfl) (fun _ _ _ h => h) (Or.inl ⟨by rfl, ?_⟩) hHeld ?_
        rotate_left
        · (intro w hSw; (try dsimp only at hSw); unfold c15a10; go_simp <;> with_reducible rfl)
        try simp only [c15a10, Act.put, List.setIfInBounds_toArray, List.set_cons_zero, List.set_cons_succ]
        refine wpAnyH_take (i := 11) (oi := c15a11) (v := ?_) rfl (by kernel_rfl) (by kernel_rfl) (by kernel_rfl) (fun _ _ _ h => h) (Or.inl ⟨by rfl, ?_⟩) hHeld ?_
        rotate_left
        · (intro w hSw; (try dsimp only at hSw); unfold c15a11; go_simp <;> with_reducible rfl)
        try simp only [c15a11, Act.put, List.setIfInBounds_toArray, List.set_cons_zero, List.set_cons_succ]
        refine wpAnyH_done (by kernel_rfl) ?_ _
        have HST := Lib.hid hHeld
        clear hHeld
        go_wp2
        go_returns
        exact ⟨rfl, HB.out.trans (HST.out.mono HB.out.size)⟩
      · rw [e1] at hp1
        rw [e2] at hp2
        have HP1 := Lib.hid hp1
        have HP2 := Lib.hid hp2
        obtain ⟨hin, hdi, hdj⟩ := fstOf_some_spec hf
        have hil : i < l.length := by rw [HN.out]; omega
        have him : i < m.length := by rw [HMM.out]; omega
        have hsm : ∀ W, Below w.heap.size w W → Calls Tryd.prog 39 #[.slice a i cap, .slice a' i cap'] W fun e w' => e = .returned (.bool true) ∧ Below W.heap.size W w' := fun W hW => by
          have h := rsame_any W _ _ _ _ ((HL.out.at hW).take (m := i) (c := cap) (by omega) rfl) ((HM.out.at hW).take (m := i) (c := cap') (by omega) rfl) (by rw [List.length_take]; omega) (by rw [List.length_take]; omega)
          rw [decide_eq_true (take_eq_of_fst (by rw [HN.out, HMM.out]; omega) hdj)] at h
          exact h
        have hne : l[i] ≠ m[i] := by
          unfold diffAt at hdi
          rw [List.getElem?_eq_getElem hil, List.getElem?_eq_getElem him] at hdi
          simpa using hdi
        obtain ⟨b, off, d, rfl, hb, hx, h6, h7⟩ := HL.out.get i hil
        obtain ⟨b2, off2, f, rfl, hb2, hy, h6', h7'⟩ := HM.out.get i him
        have lx := lcells_len _ d hx.1
        have ly := lcells_len _ f hy.1
        have hsl : ∀ W, Below w.heap.size w W → Calls Tryd.prog 41 #[.agg (lcells l[i] d).toArray, .agg (lcells m[i] f).toArray] W fun e w' => e = .returned (.bool false) ∧ Below W.heap.size W w' := fun W hW => by
          have h := samelink_any W _ _ _ _ hx hy ⟨d, rfl, (h7.below hW).mono hW.size⟩ ⟨f, rfl, (h7'.below hW).mono hW.size⟩
          rw [decide_eq_false hne] at h
          exact h
        obtain ⟨cx, hcx⟩ : ∃ cs, lcells l[i] d = cs := ⟨_, rfl⟩
        obtain ⟨cy, hcy⟩ : ∃ cs, lcells m[i] f = cs := ⟨_, rfl⟩
        rw [hcx] at lx hsl h6
        rw [hcy] at ly hsl h6'
        have HZX : Hid ((Tryd.prog.info? 55).map (·.size) = some cx.length) := by show _ = _; rw [lx]; exact Tryd.info55
        have HZY : Hid ((Tryd.prog.info? 55).map (·.size) = some cy.length) := by show _ = _; rw [ly]; exact Tryd.info55
        have HSM0 := Lib.hid hsm
        have HSL0 := Lib.hid hsl
        have H6 := Lib.hid h6
        have H6' := Lib.hid h6'
        have iN : (i : Int) < (N : Int) := by omega
        have iM : (i : Int) < (M : Int) := by omega
        have ic : (i : Int) ≤ (cap : Int) := by omega
        have ic' : (i : Int) ≤ (cap' : Int) := by omega
        have dmin : decide ((i : Int) < min (N : Int) (M : Int)) = true := by simp; omega
        have imin : (i : Int) < min (N : Int) (M : Int) := by omega
        clear hp1 hp2 e1 e2 hf hsm hsl h6 h6' hcx hcy h7 h7' lx ly hx hy hne hdi hdj hin
        go_enter Tryd.func15, Tryd.ntmps15
        go_wp2_with fail
        refine HSA.out.mono ?_
        rintro e w1 ⟨rfl, hb1⟩
        have HB1 := Lib.hid hb1
        clear hb1
        go_wp2_with (first
          | (go_at_call 30; with_reducible refine (HFA.out _ HB1.out).mono ?_; rintro e w2 ⟨rfl, rfl⟩)
          | (go_at_call 30; with_reducible refine (HFB.out _ HB1.out).mono ?_; rintro e w2 ⟨rfl, rfl⟩))
        refine (HP1.out _ HB1.out).mono ?_
        rintro e w3 ⟨rfl, hb3⟩
        have HB3 := Lib.hid (HB1.out.trans (hb3.mono HB1.out.size))
        clear hb3
        go_wp2_with fail
        refine (HP2.out _ HB3.out).mono ?_
        rintro e w5 ⟨rfl, hb5⟩
        have HB := Lib.hid (HB3.out.trans (hb5.mono HB3.out.size))
        clear hb5
        have HSM : Hid (∀ W, Kept w5 W → Calls Tryd.prog 39 #[.slice (some ⟨b, off, none⟩) i cap, .slice (some ⟨b2, off2, none⟩) i cap'] W fun e w' => e = .returned (.bool true) ∧ Below W.heap.size W w') := Lib.hid fun W hW =>
          HSM0.out W (HB.out.trans (hW.below.mono HB.out.size))
        have HSL : Hid (∀ W, Kept w5 W → Calls Tryd.prog 41 #[.agg cx.toArray, .agg cy.toArray] W fun e w' => e = .returned (.bool false) ∧ Below W.heap.size W w') := Lib.hid fun W hW =>
          HSL0.out W (HB.out.trans (hW.below.mono HB.out.size))
        have AX : Hid (∀ W, Kept w5 W → W.rangeAt b (off + i * 35) cx) := Lib.hid fun W hW j v hv => ((HB.out.trans (hW.below.mono HB.out.size)).cell (p := ⟨b, off + i * 35 + j, none⟩) hb).trans (H6.out j v hv)
        have AY : Hid (∀ W, Kept w5 W → W.rangeAt b2 (off2 + i * 35) cy) := Lib.hid fun W hW j v hv => ((HB.out.trans (hW.below.mono HB.out.size)).cell (p := ⟨b2, off2 + i * 35 + j, none⟩) hb2).trans (H6'.out j v hv)
        clear hb hb2
        go_upto_region 14 with fail
        go_wp2_with fail
        refine wp_region_held_drew (S := fun W => Kept w5 W) (by kernel_rfl) (Kept.drew (Kept.refl w5)) (fun hHeld => ?_)
        refine wpAnyH_take (i := 0) (oi := c15b0) (v := ?_) rfl (by kernel_rfl) (by kernel_rfl) (by kernel_rfl) (fun _ _ _ h => h) (Or.inl ⟨by rfl, ?_⟩) hHeld ?_
        rotate_left
        · (intro w hSw; (try dsimp only at hSw); unfold c15b0; go_simp <;> with_reducible rfl)
        try simp only [c15b0, Act.put, List.setIfInBounds_toArray, List.set_cons_zero, List.set_cons_succ]
        refine wpAnyH_take (i := 1) (oi := c15b1) (v := ?_) rfl (by kernel_rfl) (by kernel_rfl) (by kernel_rfl) (fun _ _ _ h => h) (Or.inl ⟨by rfl, ?_⟩) hHeld ?_
        rotate_left
        · (intro w hSw; (try dsimp only at hSw); unfold c15b1; go_simp <;> with_reducible rfl)
        try simp only [c15b1, Act.put, List.setIfInBounds_toArray, List.set_cons_zero, List.set_cons_succ]
        refine wpAnyH_take (i := 2) (oi := c15b2) (v := ?_) rfl (by kernel_rfl) (by kernel_rfl) (by kernel_rfl) (fun _ _ _ h => h) (Or.inl ⟨by rfl, ?_⟩) hHeld ?_
        rotate_left
        · (intro w hSw; (try dsimp only at hSw); unfold c15b2; go_simp <;> with_reducible rfl)
        try simp only [c15b2, Act.put, List.setIfInBounds_toArray, List.set_cons_zero, List.set_cons_succ]
        refine wpAnyH_take (i := 3) (oi := c15b3) (v := ?_) rfl (by kernel_rfl) (by kernel_rfl) (by kernel_rfl) (fun _ _ _ h => h) (Or.inl ⟨by rfl, ?_⟩) hHeld ?_
        rotate_left
        · (intro w hSw; (try dsimp only at hSw); unfold c15b3; go_simp <;> with_reducible rfl)
        try simp only [c15b3, Act.put, List.setIfInBounds_toArray, List.set_cons_zero, List.set_cons_succ]
        refine wpAnyH_take (i := 4) (oi := c15b4) (v := ?_) rfl (by kernel_rfl) (by kernel_rfl) (by kernel_rfl) (fun _ _ _ h => h) (Or.inl ⟨by rfl, ?_⟩) hHeld ?_
        rotate_left
        · (intro w hSw; (try dsimp only at hSw); unfold c15b4; go_simp <;> with_reducible rfl)
        try simp only [c15b4, Act.put, List.setIfInBounds_toArray, List.set_cons_zero, List.set_cons_succ]
        refine wpAnyH_take (i := 5) (oi := c15b5) (v := ?_) rfl (by kernel_rfl) (by kernel_rfl) (by kernel_rfl) (fun _ _ _ h => h) (Or.inl ⟨by rfl, ?_⟩) hHeld ?_
        rotate_left
        · (intro w hSw; (try dsimp only at hSw); unfold c15b5; go_simp <;> with_reducible rfl)
        try simp only [c15b5, Act.put, List.setIfInBounds_toArray, List.set_cons_zero, List.set_cons_succ]
        refine wpAnyH_take (i := 6) (oi := c15b6) (v := ?_) rfl (by kernel_rfl) (by kernel_rfl) (by kernel_rfl) (fun _ _ _ h => h) (Or.inl ⟨by rfl, ?_⟩) hHeld ?_
        rotate_left
        · (intro w hSw; (try dsimp only at hSw); unfold c15b6; go_simp <;> with_reducible rfl)
        try simp only [c15b6, Act.put, List.setIfInBounds_toArray, List.set_cons_zero, List.set_cons_succ]
        refine wpAnyH_take (i := 7) (oi := c15b7) (v := ?_) rfl (by kernel_rfl) (by kernel_rfl) (by kernel_rfl) (fun _ _ _ h => h) (Or.inl ⟨by rfl, ?_⟩) hHeld ?_
        rotate_left
        · (intro w hSw; (try dsimp only at hSw); unfold c15b7; go_simp <;> with_reducible rfl)
        try simp only [c15b7, Act.put, List.setIfInBounds_toArray, List.set_cons_zero, List.set_cons_succ]
        refine wpAnyH_take (i := 8) (oi := c15b8) (v := ?_) rfl (by kernel_rfl) (by kernel_rfl) (by kernel_rfl) (fun _ _ _ h => h) (Or.inl ⟨by rfl, ?_⟩) hHeld ?_
        rotate_left
        · (intro w hSw; (try dsimp only at hSw); unfold c15b8; go_simp <;> with_reducible rfl)
        try simp only [c15b8, Act.put, List.setIfInBounds_toArray, List.set_cons_zero, List.set_cons_succ]
        refine wpAnyH_take (i := 9) (oi := c15b9) (v := ?_) rfl (by kernel_rfl) (by kernel_rfl) (by kernel_rfl) (fun _ _ _ h => h) (Or.inl ⟨by rfl, ?_⟩) hHeld ?_
        rotate_left
        · (intro w hSw; (try dsimp only at hSw); unfold c15b9; go_simp <;> with_reducible rfl)
        try simp only [c15b9, Act.put, List.setIfInBounds_toArray, List.set_cons_zero, List.set_cons_succ]
        refine wpAnyH_take (i := 10) (oi := c15b10) (v := ?_) rfl (by kernel_rfl) (by kernel_rfl) (by kernel_rfl) (fun _ _ _ h => h) (Or.inl ⟨by rfl, ?_⟩) hHeld ?_
        rotate_left
        · (intro w hSw; (try dsimp only at hSw); unfold c15b10; go_simp <;> with_reducible rfl)
        try simp only [c15b10, Act.put, List.setIfInBounds_toArray, List.set_cons_zero, List.set_cons_succ]
        refine wpAnyH_take (i := 11) (oi := c15b11) (v := ?_) rfl (by kernel_rfl) (by kernel_rfl) (by kernel_rfl) (fun _ _ _ h => h) (Or.inl ⟨by rfl, ?_⟩) hHeld ?_
        rotate_left
        · (intro w hSw; (try dsimp only at hSw); unfold c15b11; go_simp <;> with_reducible rfl)
        try simp only [c15b11, Act.put, List.setIfInBounds_toArray, List.set_cons_zero, List.set_cons_succ]
        refine wpAnyH_take (i := 12) (oi := c15b12) (v := ?_) rfl (by kernel_rfl) (by kernel_rfl) (by kernel_rfl) (fun _ _ _ h => h) (Or.inl ⟨by rfl, ?_⟩) hHeld ?_
        rotate_left
        · (intro w hSw; (try dsimp only at hSw); unfold c15b12; go_simp <;> with_reducible rfl)
        try simp only [c15b12, Act.put, List.setIfInBounds_toArray, List.set_cons_zero, List.set_cons_succ]
        refine wpAnyH_take (i := 13) (oi := c15b13) (v := ?_) rfl (by kernel_rfl) (by kernel_rfl) (by kernel_rfl) (fun _ _ _ h => h) (Or.inl ⟨by rfl, ?_⟩) hHeld ?_
        rotate_left
        · (intro w hSw; (try dsimp only at hSw); unfold c15b13; go_simp <;> with_reducible rfl)
        try simp only [c15b13, Act.put, List.setIfInBounds_toArray, List.set_cons_zero, List.set_cons_succ]
        refine wpAnyH_ready (rs := [14]) (by kernel_rfl) (by simp) ?_
        refine AllReadyH.cons (o := c15b14) rfl (fun K hK => ?_) AllReadyH.nil
        rw [if_pos (by rfl)]
        unfold c15b14
        go_simp
        (with_reducible refine (HSM.out _ hHeld).mono ?_)
        rintro e W14 ⟨rfl, hB14⟩
        have hS14 := hHeld.next hB14
        go_wp2_with fail
        refine hK.out _ _ hS14 (fun hHeld => ?_)
        clear hK K
        try simp only [c15b14, Act.put, List.setIfInBounds_toArray, List.set_cons_zero, List.set_cons_succ]
        refine wpAnyH_take (i := 15) (oi := c15b15) (v := ?_) rfl (by kernel_rfl) (by kernel_rfl) (by kernel_rfl) (fun _ _ _ h => h) (Or.inl ⟨by rfl, ?_⟩) hHeld ?_
        rotate_left
        · (intro w hSw; (try dsimp only at hSw); unfold c15b15; go_simp <;> with_reducible rfl)
        try simp only [c15b15, Act.put, List.setIfInBounds_toArray, List.set_cons_zero, List.set_cons_succ]
        refine wpAnyH_take (i := 16) (oi := c15b16) (v := ?_) rfl (by kernel_rfl) (by kernel_rfl) (by kernel_rfl) (fun _ _ _ h => h) (Or.inl ⟨by rfl, ?_⟩) hHeld ?_
        rotate_left
        · (intro w hSw; (try dsimp only at hSw); unfold c15b16; go_simp <;> with_reducible rfl)
        try simp only [c15b16, Act.put, List.setIfInBounds_toArray, List.set_cons_zero, List.set_cons_succ]
        refine wpAnyH_take (i := 17) (oi := c15b17) (v := ?_) rfl (by kernel_rfl) (by kernel_rfl) (by kernel_rfl) (fun _ _ _ h => h) (Or.inl ⟨by rfl, ?_⟩) hHeld ?_
        rotate_left
        · (intro w hSw; (try dsimp only at hSw); unfold c15b17; go_simp <;> with_reducible rfl)
        try simp only [c15b17, Act.put, List.setIfInBounds_toArray, List.set_cons_zero, List.set_cons_succ]
        refine wpAnyH_take (i := 18) (oi := c15b18) (v := ?_) rfl (by kernel_rfl) (by kernel_rfl) (by kernel_rfl) (fun _ _ _ h => h) (Or.inl ⟨by rfl, ?_⟩) hHeld ?_
        rotate_left
        · (intro w hSw; (try dsimp only at hSw); unfold c15b18; go_simp <;> with_reducible rfl)
        try simp only [c15b18, Act.put, List.setIfInBounds_toArray, List.set_cons_zero, List.set_cons_succ]
        refine wpAnyH_take (i := 19) (oi := c15b19) (v := ?_) rfl (by kernel_rfl) (by kernel_rfl) (by kernel_rfl) (fun _ _ _ h => h) (Or.inl ⟨by rfl, ?_⟩) hHeld ?_
        rotate_left
        · (intro w hSw; (try dsimp only at hSw); unfold c15b19; go_simp <;> with_reducible rfl)
        try simp only [c15b19, Act.put, List.setIfInBounds_toArray, List.set_cons_zero, List.set_cons_succ]
        refine wpAnyH_take (i := 20) (oi := c15b20) rfl (by kernel_rfl) (by kernel_rfl) (by kernel_rfl) (fun _ _ _ h => h) (yieldsIf_load_mid (by rfl) 55 (.tmp 97) (by rfl) b (off + i * 35) (by rfl) cx _ (fun w hSw => AX.out w hSw) Tryd.underlying55 rfl HZX.out) hHeld ?_
        try simp only [c15b20, Act.put, List.setIfInBounds_toArray, List.set_cons_zero, List.set_cons_succ]
        refine wpAnyH_take (i := 21) (oi := c15b21) (v := ?_) rfl (by kernel_rfl) (by kernel_rfl) (by kernel_rfl) (fun _ _ _ h => h) (Or.inl ⟨by rfl, ?_⟩) hHeld ?_
        rotate_left
        · (intro w hSw; (try dsimp only at hSw); unfold c15b21; go_simp <;> with_reducible rfl)
        try simp only [c15b21, Act.put, List.setIfInBounds_toArray, List.set_cons_zero, List.set_cons_succ]
        refine wpAnyH_take (i := 22) (oi := c15b22) (v := ?_) rfl (by kernel_rfl) (by kernel_rfl) (by kernel_rfl) (fun _ _ _ h => h) (Or.inl ⟨by rfl, ?_⟩) hHeld ?_
        rotate_left
        · (intro w hSw; (try dsimp only at hSw); unfold c15b22; go_simp <;> with_reducible rfl)
        try simp only [c15b22, Act.put, List.setIfInBounds_toArray, List.set_cons_zero, List.set_cons_succ]
        refine wpAnyH_take (i := 23) (oi := c15b23) (v := ?_) rfl (by kernel_rfl) (by kernel_rfl) (by kernel_rfl) (fun _ _ _ h => h) (Or.inl ⟨by rfl, ?_⟩) hHeld ?_
        rotate_left
        · (intro w hSw; (try dsimp only at hSw); unfold c15b23; go_simp <;> with_reducible rfl)
        try simp only [c15b23, Act.put, List.setIfInBounds_toArray, List.set_cons_zero, List.set_cons_succ]
        refine wpAnyH_take (i := 24) (oi := c15b24) rfl (by kernel_rfl) (by kernel_rfl) (by kernel_rfl) (fun _ _ _ h => h) (yieldsIf_load_mid (by rfl) 55 (.tmp 101) (by rfl) b2 (off2 + i * 35) (by rfl) cy _ (fun w hSw => AY.out w hSw) Tryd.underlying55 rfl HZY.out) hHeld ?_
        try simp only [c15b24, Act.put, List.setIfInBounds_toArray, List.set_cons_zero, List.set_cons_succ]
        refine wpAnyH_ready (rs := [25]) (by kernel_rfl) (by simp) ?_
        refine AllReadyH.cons (o := c15b25) rfl (fun K hK => ?_) AllReadyH.nil
        rw [if_pos (by rfl)]
        unfold c15b25
        go_simp
        (with_reducible refine (HSL.out _ hHeld).mono ?_)
        rintro e W25 ⟨rfl, hB25⟩
        have hS25 := hHeld.next hB25
        go_wp2_with fail
        refine hK.out _ _ hS25 (fun hHeld => ?_)
        clear hK K
        try simp only [c15b25, Act.put, List.setIfInBounds_toArray, List.set_cons_zero, List.set_cons_succ]
        refine wpAnyH_take (i := 26) (oi := c15b26) (v := ?_) rfl (by kernel_rfl) (by kernel_rfl) (by kernel_rfl) (fun _ _ _ h => h) (Or.inl ⟨by rfl, ?_⟩) hHeld ?_
        rotate_left
        · (intro w hSw; (try dsimp only at hSw); unfold c15b26; go_simp <;> with_reducible rfl)
        try simp only [c15b26, Act.put, List.setIfInBounds_toArray, List.set_cons_zero, List.set_cons_succ]
        refine wpAnyH_take (i := 27) (oi := c15b27) (v := ?_) rfl (by kernel_rfl) (by kernel_rfl) (by kernel_rfl) (fun _ _ _ h => h) (Or.inl ⟨by rfl, ?_⟩) hHeld ?_
        rotate_left
        · (intro w hSw; (try dsimp only at hSw); unfold c15b27; go_simp <;> with_reducible rfl)
        try simp only [c15b27, Act.put, List.setIfInBounds_toArray, List.set_cons_zero, List.set_cons_succ]
        refine wpAnyH_take (i := 28) (oi := c15b28) (v := ?_) rfl (by kernel_rfl) (by kernel_rfl) (by kernel_rfl) (fun _ _ _ h => h) (Or.inl ⟨by rfl, ?_⟩) hHeld ?_
        rotate_left
        · (intro w hSw; (try dsimp only at hSw); unfold c15b28; go_simp <;> with_reducible rfl)
        try simp only [c15b28, Act.put, List.setIfInBounds_toArray, List.set_cons_zero, List.set_cons_succ]
        refine wpAnyH_done (by kernel_rfl) ?_ _
        have HST := Lib.hid hHeld
        clear hHeld
        go_wp2
        go_returns
        exact ⟨rfl, HB.out.trans (HST.out.mono HB.out.size)⟩
end Go.Proofs.YtfmngeemhfpeiaaDoor
