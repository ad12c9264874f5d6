/- For every disk and script DiskTogether answers true and leaves its arguments as they were. No condition but the row's own. -/
import Derived.Test.YtmklchjgiaomkaaSnw
import Derived.Test.YtmklchjgiaomkaaBxs
import Derived.Deep.CutRange
namespace Go.Proofs.Ytmklchjgiaomkaa
open Go.RowKit Go.ChangeShapes Go.WideShapes Go.ChangeAt

/-- The writes of a script. -/
def wrs (k : Nat) (l : List Ac) : List (Int × By) := l.map fun a => (((a.at_.toNat % k : Nat) : Int), pad [a.byte])
theorem wrs_len (k : Nat) (l : List Ac) : (wrs k l).length = l.length := by simp [wrs]
theorem wrs_ok {k : Nat} (hk : 1 ≤ k) (l : List Ac) : okPen k (wrs k l) = true := okPen_iff.2 fun x hx => by
  obtain ⟨a, _, rfl⟩ := List.mem_map.1 hx
  have := Nat.mod_lt a.at_.toNat (show 0 < k by omega)
  exact ⟨by show (0 : Int) ≤ ((a.at_.toNat % k : Nat) : Int); omega, by show ((a.at_.toNat % k : Nat) : Int) < k; omega, pad_len (by simp)⟩
theorem okPen_part {k : Nat} {l m : List (Int × By)} (h : okPen k l = true) (hm : ∀ x ∈ m, x ∈ l) : okPen k m = true := okPen_iff.2 fun x hx => okPen_get h x (hm x hx)
def q8a0 : Oper := { dst := some 47, op := Go.Op.load 25 (Go.Operand.tmp 2), type := 25, pos := "law.go:195", after := #[], guard := none }
def q8a1 : Oper := { dst := some 48, op := Go.Op.load 25 (Go.Operand.tmp 2), type := 25, pos := "law.go:195", after := #[{ on := 4, ground := Go.Ground.gcOnly Go.Departure.lateStores }], guard := none }
def q8a2 : Oper := { dst := some 5, op := Go.Op.alloc 25, type := 0, pos := "law.go:195", after := #[], guard := none }
def q8a3 : Oper := { dst := some 6, op := Go.Op.alloc 25, type := 0, pos := "law.go:195", after := #[], guard := none }
def q8a4 : Oper := { dst := none, op := Go.Op.store 25 (Go.Operand.tmp 5) (Go.Operand.tmp 47), type := 0, pos := "law.go:195", after := #[{ on := 2, ground := Go.Ground.data }, { on := 0, ground := Go.Ground.data }, { on := 0, ground := Go.Ground.phase }, { on := 1, ground := Go.Ground.textOnly Go.Departure.lateStores }, { on := 2, ground := Go.Ground.phase }, { on := 3, ground := Go.Ground.phase }], guard := none }
def q8a5 : Oper := { dst := none, op := Go.Op.store 25 (Go.Operand.tmp 6) (Go.Operand.tmp 48), type := 0, pos := "law.go:195", after := #[{ on := 3, ground := Go.Ground.data }, { on := 1, ground := Go.Ground.data }, { on := 4, ground := Go.Ground.chain }, { on := 0, ground := Go.Ground.phase }, { on := 1, ground := Go.Ground.phase }, { on := 2, ground := Go.Ground.phase }, { on := 3, ground := Go.Ground.phase }, { on := 4, ground := Go.Ground.phase }], guard := none }
def q8b0 : Oper := { dst := some 59, op := Go.Op.move (Go.Operand.tmp 1), type := 43, pos := "law.go:198", after := #[], guard := none }
def q8b1 : Oper := { dst := some 60, op := Go.Op.move (Go.Operand.tmp 8), type := 3, pos := "law.go:198", after := #[], guard := none }
def q8b2 : Oper := { dst := some 61, op := Go.Op.indexAddr 43 (Go.Operand.tmp 59) (Go.Operand.tmp 60), type := 0, pos := "law.go:198", after := #[{ on := 0, ground := Go.Ground.data }, { on := 1, ground := Go.Ground.data }], guard := none }
def q8b3 : Oper := { dst := some 62, op := Go.Op.fieldAddr 46 (Go.Operand.tmp 61) 1, type := 0, pos := "law.go:198", after := #[{ on := 2, ground := Go.Ground.data }], guard := none }
def q8b4 : Oper := { dst := some 63, op := Go.Op.load 5 (Go.Operand.tmp 62), type := 5, pos := "law.go:198", after := #[{ on := 3, ground := Go.Ground.data }], guard := none }
def q8b5 : Oper := { dst := some 64, op := Go.Op.convert 5 3 (Go.Operand.tmp 63), type := 3, pos := "law.go:198", after := #[{ on := 4, ground := Go.Ground.data }], guard := none }
def q8b6 : Oper := { dst := some 65, op := Go.Op.fieldAddr 25 (Go.Operand.tmp 2) 0, type := 0, pos := "law.go:198", after := #[], guard := none }
def q8b7 : Oper := { dst := some 66, op := Go.Op.load 22 (Go.Operand.tmp 65), type := 22, pos := "law.go:198", after := #[{ on := 6, ground := Go.Ground.data }], guard := none }
def q8b8 : Oper := { dst := some 67, op := Go.Op.call { callee := Go.Callee.builtin Go.Builtin.len, args := #[Go.Operand.tmp 66], argTypes := #[22] }, type := 3, pos := "law.go:198", after := #[{ on := 7, ground := Go.Ground.data }], guard := none }
def q8b9 : Oper := { dst := some 68, op := Go.Op.binOp Go.BinOp.rem 3 (Go.Operand.tmp 64) (Go.Operand.tmp 67) 3, type := 3, pos := "law.go:198", after := #[{ on := 5, ground := Go.Ground.data }, { on := 8, ground := Go.Ground.data }], guard := none }
def q8b10 : Oper := { dst := some 9, op := Go.Op.assign (Go.Operand.tmp 68), type := 3, pos := "law.go:198", after := #[{ on := 9, ground := Go.Ground.data }, { on := 0, ground := Go.Ground.phase }, { on := 1, ground := Go.Ground.phase }, { on := 2, ground := Go.Ground.phase }, { on := 3, ground := Go.Ground.phase }, { on := 4, ground := Go.Ground.phase }, { on := 5, ground := Go.Ground.phase }, { on := 6, ground := Go.Ground.phase }, { on := 7, ground := Go.Ground.phase }, { on := 8, ground := Go.Ground.phase }, { on := 9, ground := Go.Ground.phase }], guard := none }
def q8d0 : Oper := { dst := some 70, op := Go.Op.load 25 (Go.Operand.tmp 5), type := 25, pos := "law.go:199", after := #[], guard := none }
def q8d1 : Oper := { dst := some 71, op := Go.Op.move (Go.Operand.tmp 9), type := 3, pos := "law.go:199", after := #[], guard := none }
def q8d2 : Oper := { dst := some 72, op := Go.Op.move (Go.Operand.tmp 1), type := 43, pos := "law.go:199", after := #[], guard := none }
def q8d3 : Oper := { dst := some 73, op := Go.Op.move (Go.Operand.tmp 8), type := 3, pos := "law.go:199", after := #[], guard := none }
def q8d4 : Oper := { dst := some 74, op := Go.Op.indexAddr 43 (Go.Operand.tmp 72) (Go.Operand.tmp 73), type := 0, pos := "law.go:199", after := #[{ on := 2, ground := Go.Ground.data }, { on := 3, ground := Go.Ground.data }], guard := none }
def q8d5 : Oper := { dst := some 75, op := Go.Op.fieldAddr 46 (Go.Operand.tmp 74) 2, type := 0, pos := "law.go:199", after := #[{ on := 4, ground := Go.Ground.data }], guard := none }
def q8d6 : Oper := { dst := some 76, op := Go.Op.load 5 (Go.Operand.tmp 75), type := 5, pos := "law.go:199", after := #[{ on := 5, ground := Go.Ground.data }], guard := none }
def q8d7 : Oper := { dst := some 77, op := Go.Op.buildSlice 35 1 #[(0, Go.Operand.tmp 76)], type := 35, pos := "law.go:199", after := #[{ on := 6, ground := Go.Ground.data }], guard := none }
def q8d8 : Oper := { dst := some 78, op := Go.Op.call { callee := Go.Callee.value (Go.Operand.func 19), args := #[Go.Operand.tmp 70, Go.Operand.tmp 71, Go.Operand.tmp 77], argTypes := #[25, 3, 35] }, type := 29, pos := "law.go:199", after := #[{ on := 0, ground := Go.Ground.data }, { on := 1, ground := Go.Ground.data }, { on := 7, ground := Go.Ground.data }], guard := none }
def q8d9 : Oper := { dst := some 69, op := Go.Op.move (Go.Operand.tmp 78), type := 29, pos := "law.go:199", after := #[{ on := 8, ground := Go.Ground.data }], guard := none }
def q8d10 : Oper := { dst := some 79, op := Go.Op.extract (Go.Operand.tmp 69) 0, type := 25, pos := "law.go:199", after := #[{ on := 9, ground := Go.Ground.data }], guard := none }
def q8d11 : Oper := { dst := some 80, op := Go.Op.extract (Go.Operand.tmp 69) 1, type := 28, pos := "law.go:199", after := #[{ on := 9, ground := Go.Ground.data }, { on := 13, ground := Go.Ground.gcOnly Go.Departure.lateStores }], guard := none }
def q8d12 : Oper := { dst := some 10, op := Go.Op.alloc 25, type := 0, pos := "law.go:199", after := #[], guard := none }
def q8d13 : Oper := { dst := none, op := Go.Op.store 25 (Go.Operand.tmp 10) (Go.Operand.tmp 79), type := 0, pos := "law.go:199", after := #[{ on := 12, ground := Go.Ground.data }, { on := 10, ground := Go.Ground.data }, { on := 8, ground := Go.Ground.chain }, { on := 0, ground := Go.Ground.phase }, { on := 1, ground := Go.Ground.phase }, { on := 2, ground := Go.Ground.phase }, { on := 3, ground := Go.Ground.phase }, { on := 4, ground := Go.Ground.phase }, { on := 5, ground := Go.Ground.phase }, { on := 6, ground := Go.Ground.phase }, { on := 7, ground := Go.Ground.phase }, { on := 8, ground := Go.Ground.phase }, { on := 9, ground := Go.Ground.phase }, { on := 10, ground := Go.Ground.phase }, { on := 11, ground := Go.Ground.textOnly Go.Departure.lateStores }, { on := 12, ground := Go.Ground.phase }], guard := none }
def q8d14 : Oper := { dst := some 11, op := Go.Op.assign (Go.Operand.tmp 80), type := 28, pos := "law.go:199", after := #[{ on := 11, ground := Go.Ground.data }, { on := 13, ground := Go.Ground.chain }, { on := 0, ground := Go.Ground.phase }, { on := 1, ground := Go.Ground.phase }, { on := 2, ground := Go.Ground.phase }, { on := 3, ground := Go.Ground.phase }, { on := 4, ground := Go.Ground.phase }, { on := 5, ground := Go.Ground.phase }, { on := 6, ground := Go.Ground.phase }, { on := 7, ground := Go.Ground.phase }, { on := 8, ground := Go.Ground.phase }, { on := 9, ground := Go.Ground.phase }, { on := 10, ground := Go.Ground.phase }, { on := 11, ground := Go.Ground.phase }, { on := 12, ground := Go.Ground.phase }, { on := 13, ground := Go.Ground.phase }], guard := none }
def q8e0 : Oper := { dst := some 95, op := Go.Op.load 25 (Go.Operand.tmp 6), type := 25, pos := "law.go:206", after := #[], guard := none }
def q8e1 : Oper := { dst := some 96, op := Go.Op.move (Go.Operand.tmp 1), type := 43, pos := "law.go:206", after := #[], guard := none }
def q8e2 : Oper := { dst := some 97, op := Go.Op.move (Go.Operand.tmp 12), type := 3, pos := "law.go:206", after := #[], guard := none }
def q8e3 : Oper := { dst := some 98, op := Go.Op.indexAddr 43 (Go.Operand.tmp 96) (Go.Operand.tmp 97), type := 0, pos := "law.go:206", after := #[{ on := 1, ground := Go.Ground.data }, { on := 2, ground := Go.Ground.data }], guard := none }
def q8e4 : Oper := { dst := some 99, op := Go.Op.fieldAddr 46 (Go.Operand.tmp 98) 1, type := 0, pos := "law.go:206", after := #[{ on := 3, ground := Go.Ground.data }], guard := none }
def q8e5 : Oper := { dst := some 100, op := Go.Op.load 5 (Go.Operand.tmp 99), type := 5, pos := "law.go:206", after := #[{ on := 4, ground := Go.Ground.data }], guard := none }
def q8e6 : Oper := { dst := some 101, op := Go.Op.convert 5 3 (Go.Operand.tmp 100), type := 3, pos := "law.go:206", after := #[{ on := 5, ground := Go.Ground.data }], guard := none }
def q8e7 : Oper := { dst := some 102, op := Go.Op.fieldAddr 25 (Go.Operand.tmp 2) 0, type := 0, pos := "law.go:206", after := #[], guard := none }
def q8e8 : Oper := { dst := some 103, op := Go.Op.load 22 (Go.Operand.tmp 102), type := 22, pos := "law.go:206", after := #[{ on := 7, ground := Go.Ground.data }], guard := none }
def q8e9 : Oper := { dst := some 104, op := Go.Op.call { callee := Go.Callee.builtin Go.Builtin.len, args := #[Go.Operand.tmp 103], argTypes := #[22] }, type := 3, pos := "law.go:206", after := #[{ on := 8, ground := Go.Ground.data }], guard := none }
def q8e10 : Oper := { dst := some 105, op := Go.Op.binOp Go.BinOp.rem 3 (Go.Operand.tmp 101) (Go.Operand.tmp 104) 3, type := 3, pos := "law.go:206", after := #[{ on := 6, ground := Go.Ground.data }, { on := 9, ground := Go.Ground.data }], guard := none }
def q8e11 : Oper := { dst := some 106, op := Go.Op.move (Go.Operand.tmp 1), type := 43, pos := "law.go:206", after := #[], guard := none }
def q8e12 : Oper := { dst := some 107, op := Go.Op.move (Go.Operand.tmp 12), type := 3, pos := "law.go:206", after := #[], guard := none }
def q8e13 : Oper := { dst := some 108, op := Go.Op.indexAddr 43 (Go.Operand.tmp 106) (Go.Operand.tmp 107), type := 0, pos := "law.go:206", after := #[{ on := 11, ground := Go.Ground.data }, { on := 12, ground := Go.Ground.data }], guard := none }
def q8e14 : Oper := { dst := some 109, op := Go.Op.fieldAddr 46 (Go.Operand.tmp 108) 2, type := 0, pos := "law.go:206", after := #[{ on := 13, ground := Go.Ground.data }], guard := none }
def q8e15 : Oper := { dst := some 110, op := Go.Op.load 5 (Go.Operand.tmp 109), type := 5, pos := "law.go:206", after := #[{ on := 14, ground := Go.Ground.data }], guard := none }
def q8e16 : Oper := { dst := some 111, op := Go.Op.buildSlice 35 1 #[(0, Go.Operand.tmp 110)], type := 35, pos := "law.go:206", after := #[{ on := 15, ground := Go.Ground.data }], guard := none }
def q8e17 : Oper := { dst := some 112, op := Go.Op.call { callee := Go.Callee.value (Go.Operand.func 19), args := #[Go.Operand.tmp 95, Go.Operand.tmp 105, Go.Operand.tmp 111], argTypes := #[25, 3, 35] }, type := 29, pos := "law.go:206", after := #[{ on := 0, ground := Go.Ground.data }, { on := 10, ground := Go.Ground.data }, { on := 16, ground := Go.Ground.data }], guard := none }
def q8e18 : Oper := { dst := some 94, op := Go.Op.move (Go.Operand.tmp 112), type := 29, pos := "law.go:206", after := #[{ on := 17, ground := Go.Ground.data }], guard := none }
def q8e19 : Oper := { dst := some 113, op := Go.Op.extract (Go.Operand.tmp 94) 0, type := 25, pos := "law.go:206", after := #[{ on := 18, ground := Go.Ground.data }], guard := none }
def q8e20 : Oper := { dst := some 114, op := Go.Op.extract (Go.Operand.tmp 94) 1, type := 28, pos := "law.go:206", after := #[{ on := 18, ground := Go.Ground.data }, { on := 22, ground := Go.Ground.gcOnly Go.Departure.lateStores }], guard := none }
def q8e21 : Oper := { dst := some 13, op := Go.Op.alloc 25, type := 0, pos := "law.go:206", after := #[], guard := none }
def q8e22 : Oper := { dst := none, op := Go.Op.store 25 (Go.Operand.tmp 13) (Go.Operand.tmp 113), type := 0, pos := "law.go:206", after := #[{ on := 21, ground := Go.Ground.data }, { on := 19, ground := Go.Ground.data }, { on := 17, ground := Go.Ground.chain }, { on := 0, ground := Go.Ground.phase }, { on := 1, ground := Go.Ground.phase }, { on := 2, ground := Go.Ground.phase }, { on := 3, ground := Go.Ground.phase }, { on := 4, ground := Go.Ground.phase }, { on := 5, ground := Go.Ground.phase }, { on := 6, ground := Go.Ground.phase }, { on := 7, ground := Go.Ground.phase }, { on := 8, ground := Go.Ground.phase }, { on := 9, ground := Go.Ground.phase }, { on := 10, ground := Go.Ground.phase }, { on := 11, ground := Go.Ground.phase }, { on := 12, ground := Go.Ground.phase }, { on := 13, ground := Go.Ground.phase }, { on := 14, ground := Go.Ground.phase }, { on := 15, ground := Go.Ground.phase }, { on := 16, ground := Go.Ground.phase }, { on := 17, ground := Go.Ground.phase }, { on := 18, ground := Go.Ground.phase }, { on := 19, ground := Go.Ground.phase }, { on := 20, ground := Go.Ground.textOnly Go.Departure.lateStores }, { on := 21, ground := Go.Ground.phase }], guard := none }
def q8e23 : Oper := { dst := some 14, op := Go.Op.assign (Go.Operand.tmp 114), type := 28, pos := "law.go:206", after := #[{ on := 20, ground := Go.Ground.data }, { on := 22, ground := Go.Ground.chain }, { on := 0, ground := Go.Ground.phase }, { on := 1, ground := Go.Ground.phase }, { on := 2, ground := Go.Ground.phase }, { on := 3, ground := Go.Ground.phase }, { on := 4, ground := Go.Ground.phase }, { on := 5, ground := Go.Ground.phase }, { on := 6, ground := Go.Ground.phase }, { on := 7, ground := Go.Ground.phase }, { on := 8, ground := Go.Ground.phase }, { on := 9, ground := Go.Ground.phase }, { on := 10, ground := Go.Ground.phase }, { on := 11, ground := Go.Ground.phase }, { on := 12, ground := Go.Ground.phase }, { on := 13, ground := Go.Ground.phase }, { on := 14, ground := Go.Ground.phase }, { on := 15, ground := Go.Ground.phase }, { on := 16, ground := Go.Ground.phase }, { on := 17, ground := Go.Ground.phase }, { on := 18, ground := Go.Ground.phase }, { on := 19, ground := Go.Ground.phase }, { on := 20, ground := Go.Ground.phase }, { on := 21, ground := Go.Ground.phase }, { on := 22, ground := Go.Ground.phase }], guard := none }
theorem wrs_get {k m : Nat} {l : List Ac} (h : m < (wrs k l).length) (h' : m < l.length) : (wrs k l)[m] = (((l[m].at_.toNat % k : Nat) : Int), pad [l[m].byte]) := by
  show (l.map _)[m] = _
  exact List.getElem_map _
theorem belowN {W W' : World} (h : W.grownBy W' none) : Below W.heap.size W W' := ⟨h.os, h.tape, h.output, h.size, fun i hi => h.block i hi (by simp)⟩
theorem write_ok {d : Dk} {n : Int} {b : By} (h1 : d.runs = true) (h2 : d.has n = true) (h3 : b.length ≤ 128) (h4 : d.pen.length ≠ 4096) : d.write n b = ({ d with pen := d.pen ++ [(n, pad b)] }, 0) := by
  unfold Dk.write; rw [h1, h2, Bool.true_and, if_pos rfl, if_neg (by omega), if_neg h4]
section
variable {w : World} {b0 b5 b6 : Nat} {sa ap : Option Addr} {k cs p cp : Nat} {left : Int} {d : Dk} {ya : Option Addr} {n yc : Nat} {l : List Ac} {X Y X' : Dk} {wr W : World}
theorem LT.store5 (h : LT w b0 b5 b6 sa ap k cs p cp left d ya n yc l X Y wr) (hG : wr.grownBy W (some b5)) (hx : BoxAt W b5 X') (hw : w.heap.size ≤ b5) (h0 : b0 ≠ b5) (h6 : b6 ≠ b5) (hd : d.full) (hY : Y.full) : LT w b0 b5 b6 sa ap k cs p cp left d ya n yc l X' Y W := by
  obtain ⟨_, _, _, _, _, _, _, _, hb⟩ := h.b5
  obtain ⟨_, _, _, _, _, _, _, _, hb6⟩ := h.b6
  have hB := below_grow h.bel hG (fun q e => by cases e; exact hw) h.bel.size
  have hBw : Below w.heap.size wr W := ⟨hG.os, hG.tape, hG.output, hG.size, fun i hi => hG.block i (by have := h.bel.size; omega) (by simp; omega)⟩
  exact ⟨hB, hb.beside h.bx h0 hG hd, hx, ⟨_, _, _, _, _, _, _, _, hb.beside hb6 h6 hG hY⟩, h.acts.below hBw⟩
theorem LT.store6 (h : LT w b0 b5 b6 sa ap k cs p cp left d ya n yc l X Y wr) (hG : wr.grownBy W (some b6)) (hx : BoxAt W b6 X') (hw : w.heap.size ≤ b6) (h0 : b0 ≠ b6) (h5 : b5 ≠ b6) (hd : d.full) (hX : X.full) : LT w b0 b5 b6 sa ap k cs p cp left d ya n yc l X X' W := by
  obtain ⟨_, _, _, _, _, _, _, _, hb⟩ := h.b6
  obtain ⟨_, _, _, _, _, _, _, _, hb5⟩ := h.b5
  have hB := below_grow h.bel hG (fun q e => by cases e; exact hw) h.bel.size
  have hBw : Below w.heap.size wr W := ⟨hG.os, hG.tape, hG.output, hG.size, fun i hi => hG.block i (by have := h.bel.size; omega) (by simp; omega)⟩
  exact ⟨hB, hb.beside h.bx h0 hG hd, ⟨_, _, _, _, _, _, _, _, hb.beside hb5 h5 hG hX⟩, hx, h.acts.below hBw⟩
end
set_option maxRecDepth 100000 in
set_option maxHeartbeats 16000000 in
theorem lawTogether (w : World) (d : Dk) (v vs : Value) (l : List Ac) (h : DkAt w w.heap.size v d) (hl : ActsAt w w.heap.size vs l) :
    Calls Try.prog 8 #[v, vs] w fun e w' => e = .returned (.bool true) ∧ Below w.heap.size w w' := by
  obtain ⟨k, hk⟩ : ∃ k, d.sec.length = k := ⟨_, rfl⟩
  obtain ⟨p, hp⟩ : ∃ k, d.pen.length = k := ⟨_, rfl⟩
  obtain ⟨left, hle⟩ : ∃ x, d.left = x := ⟨_, rfl⟩
  obtain ⟨st, hst⟩ : ∃ x, d.stop = x := ⟨_, rfl⟩
  obtain ⟨n, hn⟩ : ∃ x, l.length = x := ⟨_, rfl⟩
  obtain ⟨ok, hok⟩ : ∃ x, d.ok = x := ⟨_, rfl⟩
  have hck := fun W v h => check_any W d v h
  rw [hok] at hck
  obtain ⟨sa, cs, ap, cp, w1, rfl, hw1, hX, hB, -⟩ := h.box hk hp hle hst
  obtain ⟨ya, yc, rfl, hy1, hy2⟩ := acts_shape hl
  rw [hn] at hl hy1 ⊢
  have HW := Lib.hid hw1
  have HX := Lib.hid hX
  have HA := Lib.hid (hl.below hB)
  have HBASE := Lib.hid hB
  have HK := Lib.hid hk
  have HP := Lib.hid hp
  have HLE := Lib.hid hle
  have HST := Lib.hid hst
  have HN := Lib.hid hn
  have HOK := Lib.hid hok
  have HCK := Lib.hid hck
  unfold maxLen at hy2
  clear h hl hw1 hX hB hk hp hle hst hn hok hck
  go_enter Try.func8, Try.ntmps8
  go_wp2_with fail
  rw [← HW.out]
  refine (sane_any _).mono ?_
  rintro e w2 ⟨rfl, hB⟩
  have HA := Lib.hid (HA.out.below (hB.mono HBASE.out.size))
  have HX := Lib.hid (HX.out.next hB)
  have HBASE := Lib.hid (Below.andthen HBASE.out hB)
  clear hB
  obtain ⟨e0, e1, e2, e3⟩ := HX.out.four
  go_wp2_with fail
  refine (few_any _ d _ HX.out.dk).mono ?_
  rintro e w3 ⟨f, rfl, hB⟩
  clear e0 e1 e2 e3
  have HA := Lib.hid (HA.out.below (hB.mono HBASE.out.size))
  have HX := Lib.hid (HX.out.next hB)
  have HBASE := Lib.hid (Below.andthen HBASE.out hB)
  clear hB
  obtain ⟨e0, e1, e2, e3⟩ := HX.out.four
  by_cases hsk : f = false ∨ 20 < n ∨ 0 < p ∨ k = 0
  · have dq : f = false ∨ (f = true ∧ decide (20 < (n : Int)) = true) ∨ (f = true ∧ decide (20 < (n : Int)) = false ∧ decide (0 < (p : Int)) = true ∧ decide (0 < p) = true) ∨ (f = true ∧ decide (20 < (n : Int)) = false ∧ decide (0 < (p : Int)) = false ∧ p = 0 ∧ k = 0) := by
      cases f
      · exact .inl rfl
      · by_cases q1 : 20 < n
        · exact .inr (.inl ⟨rfl, by simp; omega⟩)
        · by_cases q2 : 0 < p
          · exact .inr (.inr (.inl ⟨rfl, by simp; omega, by simp; omega, by simpa using q2⟩))
          · refine .inr (.inr (.inr ⟨rfl, by simp; omega, by simp; omega, by omega, ?_⟩))
            rcases hsk with h | h | h | h
            · cases h
            · omega
            · omega
            · exact h
    clear hsk
    rcases dq with rfl | ⟨rfl, dq⟩ | ⟨rfl, dq, dq2, dq3⟩ | ⟨rfl, dq, dq2, rfl, rfl⟩
    all_goals
      go_wp2
      go_ret
      exact ⟨rfl, HBASE.out⟩
  obtain ⟨rfl, hn20, hp0, hk0⟩ : f = true ∧ n ≤ 20 ∧ p = 0 ∧ 1 ≤ k := by
    cases f
    · simp at hsk
    · exact ⟨rfl, by omega, by omega, by omega⟩
  subst hp0
  have dq1 : decide (20 < (n : Int)) = false := by simp; omega
  have dq2 : ((k : Int) == 0) = false := by simp; omega
  have dq3 : (k == 0) = false := by simp; omega
  have dq4 : ¬ k = 0 := by omega
  clear hsk
  go_wp2_with fail
  refine (HCK.out _ _ HX.out.dk).mono ?_
  rintro e w4 ⟨rfl, hB⟩
  clear e0 e1 e2 e3
  have HA := Lib.hid (HA.out.below (hB.mono HBASE.out.size))
  have HX := Lib.hid (HX.out.next hB)
  have HBASE := Lib.hid (Below.andthen HBASE.out hB)
  clear hB
  obtain ⟨e0, e1, e2, e3⟩ := HX.out.four
  by_cases hrs : ok = false ∨ st = true
  · have hrs' : ok = false ∨ (ok = true ∧ st = true) := by cases ok <;> simp_all
    clear hrs
    rcases hrs' with rfl | ⟨rfl, rfl⟩
    all_goals
      go_wp2
      go_ret
      exact ⟨rfl, HBASE.out⟩
  obtain ⟨rfl, rfl⟩ : ok = true ∧ st = false := by cases ok <;> cases st <;> simp_all
  clear hrs HCK
  have hpn : d.pen = [] := List.eq_nil_of_length_eq_zero HP.out
  have hdk := (ok_iff d).1 HOK.out
  rw [HK.out, HLE.out] at hdk
  obtain ⟨⟨l1, l2, -⟩, ls, -, l4, l5⟩ := hdk
  have hd0 : d = pd d.sec [] left := by
    have := HLE.out; have := HST.out
    cases d; simp only at *; subst this; subst hpn; subst_vars; rfl
  have HD0 := Lib.hid hd0
  have HLS := Lib.hid ls
  obtain ⟨b0, hb0⟩ : ∃ b, w.heap.size = b := ⟨_, rfl⟩
  rw [hb0] at HX e0 e1 e2 e3
  have hb0w : w.heap.size ≤ b0 := by omega
  have hb04 : b0 < w4.heap.size := HX.out.lt
  have hcells : ∀ W, Below w4.heap.size w4 W → Below w4.heap.size w4 W ∧ W.cell? ⟨b0, 0, none⟩ = some (.slice sa k cs) ∧ W.cell? ⟨b0, 1, none⟩ = some (.slice ap 0 cp) ∧ W.cell? ⟨b0, 2, none⟩ = some (.int .i64 left) ∧ W.cell? ⟨b0, 3, none⟩ = some (.bool false) := fun W hW =>
    ⟨hW, (hW.cell (p := ⟨b0, 0, none⟩) hb04).trans e0, (hW.cell (p := ⟨b0, 1, none⟩) hb04).trans e1, (hW.cell (p := ⟨b0, 2, none⟩) hb04).trans e2, (hW.cell (p := ⟨b0, 3, none⟩) hb04).trans e3⟩
  have HS := Lib.hid hcells
  clear hpn ls hd0 hcells
  go_wp2_with fail
  clear e0 e1 e2 e3
  go_cut [5, 6] from 47 (fun s5 s6 wx => ∃ b5 b6, s5 = .pointer (some ⟨b5, 0, none⟩) ∧ s6 = .pointer (some ⟨b6, 0, none⟩) ∧ b5 ≠ b6 ∧ w4.heap.size ≤ b5 ∧ w4.heap.size ≤ b6 ∧ BoxAt wx b5 d ∧ BoxAt wx b6 d ∧ Below w4.heap.size w4 wx)
  case first =>
    rename_i J1 K1 hJ1 hM1
    refine wp_region_held_drew (S := fun W => Below w4.heap.size w4 W ∧ W.cell? ⟨b0, 0, none⟩ = some (.slice sa k cs) ∧ W.cell? ⟨b0, 1, none⟩ = some (.slice ap 0 cp) ∧ W.cell? ⟨b0, 2, none⟩ = some (.int .i64 left) ∧ W.cell? ⟨b0, 3, none⟩ = some (.bool false)) (by kernel_rfl) (HS.out _ (Below.drew (Below.refl _ _))) (fun hHeld => ?_)
    refine wpAnyH_take (i := 0) (oi := q8a0) (v := ?_) rfl (by kernel_rfl) (by kernel_rfl) (by kernel_rfl) (fun _ _ _ h => h) (Or.inl ⟨by rfl, ?_⟩) hHeld ?_
    rotate_left
    · (intro w hSw; (try dsimp only at hSw); unfold q8a0; go_simp <;> with_reducible rfl)
    try simp only [q8a0, Act.put, List.setIfInBounds_toArray, List.set_cons_zero, List.set_cons_succ]
    refine wpAnyH_take (i := 1) (oi := q8a1) (v := ?_) rfl (by kernel_rfl) (by kernel_rfl) (by kernel_rfl) (fun _ _ _ h => h) (Or.inl ⟨by rfl, ?_⟩) hHeld ?_
    rotate_left
    · (intro w hSw; (try dsimp only at hSw); unfold q8a1; go_simp <;> with_reducible rfl)
    try simp only [q8a1, Act.put, List.setIfInBounds_toArray, List.set_cons_zero, List.set_cons_succ]
    refine wpAnyH_ready (rs := [2, 3]) (by kernel_rfl) (by simp) ?_
    refine AllReadyH.cons (o := q8a2) rfl (fun K hK => ?_) (AllReadyH.cons (o := q8a3) rfl (fun K hK => ?_) AllReadyH.nil)
    · skip
      rw [if_pos (by rfl)]
      refine wp_alloc25t (by rfl) ?_
      intro b5 W2 hG2 hge2 hltb5 hAb5 htb5
      have leb5 : w4.heap.size ≤ b5 := Nat.le_trans (Below.drew (Below.refl w4.heap.size w4)).size hge2
      have hB2 := below_grow (Below.drew (Below.refl w4.heap.size w4)) hG2 (fun _ h => by cases h) (Below.drew (Below.refl w4.heap.size w4)).size
      refine hK.out _ _ (HS.out _ hB2) (fun hHeld => ?_)
      clear hK K
      try simp only [q8a2, Act.put, List.setIfInBounds_toArray, List.set_cons_zero, List.set_cons_succ]
      refine wpAnyH_ready (rs := [3]) (by kernel_rfl) (by simp) ?_
      refine AllReadyH.cons (o := q8a3) rfl (fun K hK => ?_) AllReadyH.nil
      rw [if_pos (by rfl)]
      refine wp_alloc25t (by rfl) ?_
      intro b6 W3 hG3 hge3 hltb6 hAb6 htb6
      have leb6 : w4.heap.size ≤ b6 := Nat.le_trans hB2.size hge3
      have hB3 := below_grow hB2 hG3 (fun _ h => by cases h) hB2.size
      have hAb5' := hAb5.moved hG3 hltb5 (by simp)
      have htb5' : ∀ i, 4 ≤ i → W3.cell? ⟨b5, i, none⟩ = none := fun i hi => (World.cell?_of_block (a := ⟨b5, i, none⟩) (hG3.block b5 hltb5 (by simp))).trans (htb5 i hi)
      have hltb5' := Nat.lt_of_lt_of_le hltb5 hG3.size
      have hne : b5 ≠ b6 := by omega
      clear hAb5 htb5 hltb5
      have hAb5 := hAb5'
      have htb5 := htb5'
      have hltb5 := hltb5'
      refine hK.out _ _ (HS.out _ hB3) (fun hHeld => ?_)
      clear hK K
      try simp only [q8a3, Act.put, List.setIfInBounds_toArray, List.set_cons_zero, List.set_cons_succ]
      refine wpAnyH_ready (rs := [4]) (by kernel_rfl) (by simp) ?_
      refine AllReadyH.cons (o := q8a4) rfl (fun K hK => ?_) AllReadyH.nil
      rw [if_pos (by rfl)]
      refine wp_st25t (.tmp 5) (.tmp 47) (by rfl) b5 _ _ _ _ _ (by rfl) (by rfl) hAb5 rfl htb5 rfl ?_
      intro W4 hG4 hA4 ht4
      have hB4 := below_grow hB3 hG4 (fun q e => by cases e; exact leb5) hB3.size
      have hx5 : Boxed W4 b5 sa k cs ap 0 cp left false d := ⟨Nat.lt_of_lt_of_le hltb5 hG4.size, hA4, HX.out.dk.next hB4, ht4⟩
      have hAb6' := hAb6.moved hG4 hltb6 (by simp; omega)
      have htb6' : ∀ i, 4 ≤ i → W4.cell? ⟨b6, i, none⟩ = none := fun i hi => (World.cell?_of_block (a := ⟨b6, i, none⟩) (hG4.block b6 hltb6 (by simp; omega))).trans (htb6 i hi)
      have hltb6' := Nat.lt_of_lt_of_le hltb6 hG4.size
      clear hAb6 htb6 hltb6
      have hAb6 := hAb6'
      have htb6 := htb6'
      have hltb6 := hltb6'
      refine hK.out _ _ (HS.out _ hB4) (fun hHeld => ?_)
      clear hK K
      try simp only [q8a4, Act.put]
      refine wpAnyH_ready (rs := [5]) (by kernel_rfl) (by simp) ?_
      refine AllReadyH.cons (o := q8a5) rfl (fun K hK => ?_) AllReadyH.nil
      rw [if_pos (by rfl)]
      refine wp_st25t (.tmp 6) (.tmp 48) (by rfl) b6 _ _ _ _ _ (by rfl) (by rfl) hAb6 rfl htb6 rfl ?_
      intro W5 hG5 hA5 ht5
      have hB5 := below_grow hB4 hG5 (fun q e => by cases e; exact leb6) hB4.size
      have hx6 : Boxed W5 b6 sa k cs ap 0 cp left false d := ⟨Nat.lt_of_lt_of_le hltb6 hG5.size, hA5, HX.out.dk.next hB5, ht5⟩
      have hx5' : Boxed W5 b5 sa k cs ap 0 cp left false d := ⟨Nat.lt_of_lt_of_le hx5.lt hG5.size, hx5.arr.moved hG5 hx5.lt (by simp; omega), HX.out.dk.next hB5, fun i hi => (World.cell?_of_block (a := ⟨b5, i, none⟩) (hG5.block b5 hx5.lt (by simp; omega))).trans (hx5.top i hi)⟩
      refine hK.out _ _ (HS.out _ hB5) (fun hHeld => ?_)
      clear hK K
      try simp only [q8a5, Act.put]
      refine wpAnyH_done (by kernel_rfl) ?_ _
      refine hM1 _ _ ?_
      go_meet
      exact ⟨b5, b6, rfl, rfl, hne, leb5, leb6, ⟨_, _, _, _, _, _, _, _, hx5'⟩, ⟨_, _, _, _, _, _, _, _, hx6⟩, hB5⟩
    · skip
      rw [if_pos (by rfl)]
      refine wp_alloc25t (by rfl) ?_
      intro b6 W3 hG3 hge3 hltb6 hAb6 htb6
      have leb6 : w4.heap.size ≤ b6 := Nat.le_trans (Below.drew (Below.refl w4.heap.size w4)).size hge3
      have hB3 := below_grow (Below.drew (Below.refl w4.heap.size w4)) hG3 (fun _ h => by cases h) (Below.drew (Below.refl w4.heap.size w4)).size
      refine hK.out _ _ (HS.out _ hB3) (fun hHeld => ?_)
      clear hK K
      try simp only [q8a3, Act.put, List.setIfInBounds_toArray, List.set_cons_zero, List.set_cons_succ]
      refine wpAnyH_ready (rs := [2]) (by kernel_rfl) (by simp) ?_
      refine AllReadyH.cons (o := q8a2) rfl (fun K hK => ?_) AllReadyH.nil
      rw [if_pos (by rfl)]
      refine wp_alloc25t (by rfl) ?_
      intro b5 W2 hG2 hge2 hltb5 hAb5 htb5
      have leb5 : w4.heap.size ≤ b5 := Nat.le_trans hB3.size hge2
      have hB2 := below_grow hB3 hG2 (fun _ h => by cases h) hB3.size
      have hAb6' := hAb6.moved hG2 hltb6 (by simp)
      have htb6' : ∀ i, 4 ≤ i → W2.cell? ⟨b6, i, none⟩ = none := fun i hi => (World.cell?_of_block (a := ⟨b6, i, none⟩) (hG2.block b6 hltb6 (by simp))).trans (htb6 i hi)
      have hltb6' := Nat.lt_of_lt_of_le hltb6 hG2.size
      have hne : b5 ≠ b6 := by omega
      clear hAb6 htb6 hltb6
      have hAb6 := hAb6'
      have htb6 := htb6'
      have hltb6 := hltb6'
      refine hK.out _ _ (HS.out _ hB2) (fun hHeld => ?_)
      clear hK K
      try simp only [q8a2, Act.put, List.setIfInBounds_toArray, List.set_cons_zero, List.set_cons_succ]
      refine wpAnyH_ready (rs := [4]) (by kernel_rfl) (by simp) ?_
      refine AllReadyH.cons (o := q8a4) rfl (fun K hK => ?_) AllReadyH.nil
      rw [if_pos (by rfl)]
      refine wp_st25t (.tmp 5) (.tmp 47) (by rfl) b5 _ _ _ _ _ (by rfl) (by rfl) hAb5 rfl htb5 rfl ?_
      intro W4 hG4 hA4 ht4
      have hB4 := below_grow hB2 hG4 (fun q e => by cases e; exact leb5) hB2.size
      have hx5 : Boxed W4 b5 sa k cs ap 0 cp left false d := ⟨Nat.lt_of_lt_of_le hltb5 hG4.size, hA4, HX.out.dk.next hB4, ht4⟩
      have hAb6' := hAb6.moved hG4 hltb6 (by simp; omega)
      have htb6' : ∀ i, 4 ≤ i → W4.cell? ⟨b6, i, none⟩ = none := fun i hi => (World.cell?_of_block (a := ⟨b6, i, none⟩) (hG4.block b6 hltb6 (by simp; omega))).trans (htb6 i hi)
      have hltb6' := Nat.lt_of_lt_of_le hltb6 hG4.size
      clear hAb6 htb6 hltb6
      have hAb6 := hAb6'
      have htb6 := htb6'
      have hltb6 := hltb6'
      refine hK.out _ _ (HS.out _ hB4) (fun hHeld => ?_)
      clear hK K
      try simp only [q8a4, Act.put]
      refine wpAnyH_ready (rs := [5]) (by kernel_rfl) (by simp) ?_
      refine AllReadyH.cons (o := q8a5) rfl (fun K hK => ?_) AllReadyH.nil
      rw [if_pos (by rfl)]
      refine wp_st25t (.tmp 6) (.tmp 48) (by rfl) b6 _ _ _ _ _ (by rfl) (by rfl) hAb6 rfl htb6 rfl ?_
      intro W5 hG5 hA5 ht5
      have hB5 := below_grow hB4 hG5 (fun q e => by cases e; exact leb6) hB4.size
      have hx6 : Boxed W5 b6 sa k cs ap 0 cp left false d := ⟨Nat.lt_of_lt_of_le hltb6 hG5.size, hA5, HX.out.dk.next hB5, ht5⟩
      have hx5' : Boxed W5 b5 sa k cs ap 0 cp left false d := ⟨Nat.lt_of_lt_of_le hx5.lt hG5.size, hx5.arr.moved hG5 hx5.lt (by simp; omega), HX.out.dk.next hB5, fun i hi => (World.cell?_of_block (a := ⟨b5, i, none⟩) (hG5.block b5 hx5.lt (by simp; omega))).trans (hx5.top i hi)⟩
      refine hK.out _ _ (HS.out _ hB5) (fun hHeld => ?_)
      clear hK K
      try simp only [q8a5, Act.put]
      refine wpAnyH_done (by kernel_rfl) ?_ _
      refine hM1 _ _ ?_
      go_meet
      exact ⟨b5, b6, rfl, rfl, hne, leb5, leb6, ⟨_, _, _, _, _, _, _, _, hx5'⟩, ⟨_, _, _, _, _, _, _, _, hx6⟩, hB5⟩
  case rest =>
  obtain ⟨b5, b6, rfl, rfl, hne, le5, le6, hx5, hx6, hB⟩ := hcut
  have hT0 : LT w b0 b5 b6 sa ap k cs 0 cp left d ya n yc l d d wc := ⟨HBASE.out.trans (hB.mono HBASE.out.size), HX.out.next hB, hx5, hx6, HA.out.below (hB.mono HBASE.out.size)⟩
  have HT0 := Lib.hid hT0
  have h05 : b0 ≠ b5 := by omega
  have h06 : b0 ≠ b6 := by omega
  have h5w : w.heap.size ≤ b5 := by omega
  have h6w : w.heap.size ≤ b6 := by omega
  have hwl : (wrs k l).length = n := by rw [wrs_len, HN.out]
  have hwo := wrs_ok hk0 l
  have HWL := Lib.hid hwl
  have HWO := Lib.hid hwo
  have HDF := Lib.hid (ok_full HOK.out)
  clear hT0 hx5 hx6 hB HX HA HBASE hwl hwo
  go_wp2
  go_loopw [7, 8] (fun e i wr => ∃ (m : Nat) (X : Dk) (E : Int), e = .int .i64 E ∧ i = .int .i64 m ∧ m ≤ n ∧ (pd d.sec ((wrs k l).take m) left).sync = (X, E) ∧ LT w b0 b5 b6 sa ap k cs 0 cp left d ya n yc l X d wr) (fun _ i _ => n - (intOf i).toNat)
  case atStart => exact ⟨0, d, 0, rfl, rfl, Nat.zero_le _, by rw [List.take_zero, sync_empty ⟨by rw [HK.out]; exact l1, by rw [HK.out]; exact l2⟩ HLS.out ⟨l4, l5⟩, ← HD0.out], HT0.out⟩
  case round =>
  obtain ⟨m, X, E, rfl, rfl, hmn, hsy, hT⟩ := hrel
  by_cases hgo : m < n ∧ E = 0
  · obtain ⟨hlt, rfl⟩ := hgo
    have hml : m < l.length := by rw [HN.out]; exact hlt
    have hmw : m < (wrs k l).length := by rw [HWL.out]; exact hlt
    obtain ⟨sb, so, rfl, hsb, hin⟩ := acts_get hT.acts (by omega)
    obtain ⟨-, c1, c2⟩ := hin m hml
    have hwm : (wrs k l)[m] = (((l[m].at_.toNat % k : Nat) : Int), pad [l[m].byte]) := wrs_get hmw hml
    obtain ⟨t, ht⟩ : ∃ t, l[m].at_.toNat = t := ⟨_, rfl⟩
    obtain ⟨c, hc⟩ : ∃ c, l[m].byte = c := ⟨_, rfl⟩
    obtain ⟨q, hq⟩ : ∃ q, t % k = q := ⟨_, rfl⟩
    have hqk : q < k := by rw [← hq]; exact Nat.mod_lt _ (by omega)
    have htm : (t : Int).tmod (k : Int) = (q : Int) := by rw [← hq]; rfl
    have htm2 : (t : Int) % (k : Int) = (q : Int) := by rw [← hq]; rfl
    have ht256 : t < 256 := by rw [← ht]; exact l[m].at_.toNat_lt
    have hwt : IntKind.i64.wrap (t : Int) = (t : Int) := by rw [IntKind.wrap_i64]; omega
    rw [ht] at c1 hwm
    rw [hc] at c2 hwm
    rw [hq] at hwm
    have hnx := sync_next (s := d.sec) (p := (wrs k l).take m) (L := left) (a := ((q : Int), pad [c])) ⟨by rw [HK.out]; exact l1, by rw [HK.out]; exact l2⟩ (by rw [List.length_take]; omega) HLS.out (by rw [HK.out]; exact okPen_part HWO.out (fun x hx => List.mem_of_mem_take hx)) (by rw [HK.out]; exact ⟨by simp, by show (q : Int) < k; omega, pad_len (by simp)⟩) ⟨l4, l5⟩ (by rw [hsy])
    rw [hsy] at hnx
    rw [show (wrs k l).take m ++ [((q : Int), pad [c])] = (wrs k l).take (m + 1) by rw [List.take_succ_eq_append_getElem hmw, hwm]] at hnx
    obtain ⟨hXr, hXp, hXs, hXn⟩ := hnx
    simp only at hXr hXp hXs hXn
    rw [HK.out] at hXs
    obtain ⟨Z, hZ⟩ : ∃ Z, ({ X with pen := [((q : Int), pad [c])] } : Dk) = Z := ⟨_, rfl⟩
    have hwz : X.write q [c] = (Z, 0) := by
      rw [write_ok hXr (has_iff.2 ⟨by simp, by rw [hXs]; omega⟩) (by simp) (by rw [hXp]; simp), hXp, ← hZ]; rfl
    rw [hZ] at hXn
    have hZo : Z.ok = true := by
      have h := ok_snoc (runs_ok hXr).1 (n := (q : Int)) (y := pad [c]) (has_iff.2 ⟨by simp, by rw [hXs]; omega⟩) (by rw [hXp]; simp) (pad_len (by simp))
      rw [hXp] at h; rw [← hZ]; exact h
    have hZr : Z.runs = true := runs_of hZo (by rw [← hZ]; exact (runs_ok hXr).2)
    obtain ⟨⟨X', E'⟩, hXE⟩ : ∃ x, (pd d.sec ((wrs k l).take (m + 1)) left).sync = x := ⟨_, rfl⟩
    rw [hXE] at hXn
    have h23 := fun W v h => sync_any W Z v h
    have hXF := sync_full hZr
    rw [hXn] at h23 hXF
    simp only at h23 hXF
    have H23 := Lib.hid h23
    have HXF := Lib.hid hXF
    have HXE := Lib.hid hXE
    have HZF := Lib.hid (ok_full hZo)
    obtain ⟨sx, kx, cx, ax, px, qx, lx, tx, hbx⟩ := hT.b5
    obtain ⟨kz, hz1⟩ : ∃ x, Z.sec.length = x := ⟨_, rfl⟩
    obtain ⟨pz, hz2⟩ : ∃ x, Z.pen.length = x := ⟨_, rfl⟩
    obtain ⟨lz, hz3⟩ : ∃ x, Z.left = x := ⟨_, rfl⟩
    obtain ⟨tz, hz4⟩ : ∃ x, Z.stop = x := ⟨_, rfl⟩
    have HZ1 := Lib.hid hz1
    have HZ2 := Lib.hid hz2
    have HZ3 := Lib.hid hz3
    have HZ4 := Lib.hid hz4
    obtain ⟨ku, hu1⟩ : ∃ x, X'.sec.length = x := ⟨_, rfl⟩
    obtain ⟨pu, hu2⟩ : ∃ x, X'.pen.length = x := ⟨_, rfl⟩
    obtain ⟨lu, hu3⟩ : ∃ x, X'.left = x := ⟨_, rfl⟩
    obtain ⟨tu, hu4⟩ : ∃ x, X'.stop = x := ⟨_, rfl⟩
    have HU1 := Lib.hid hu1
    have HU2 := Lib.hid hu2
    have HU3 := Lib.hid hu3
    have HU4 := Lib.hid hu4
    have hwc : ∀ W g, Below wr.heap.size wr W → Arr W g (cells8 [c]) → g < W.heap.size → Calls Try.prog 19 #[.agg #[.slice sx kx cx, .slice ax px qx, .int .i64 lx, .bool tx], .int .i64 q, .slice (some ⟨g, 0, none⟩) 1 1] W fun e w' => ∃ u, e = .returned (.tuple #[u, .int .i64 0]) ∧ DkAt w' w'.heap.size u Z ∧ Below W.heap.size W w' := fun W g hW hA hg => by
      have := write_any W X (.agg #[.slice sx kx cx, .slice ax px qx, .int .i64 lx, .bool tx]) (.slice (some ⟨g, 0, none⟩) 1 1) q [c] (hbx.dk.next hW) (hA.bytesAt rfl hg (Nat.le_refl _) (by unfold maxLen; omega)) ⟨by omega, by omega⟩
      rw [hwz] at this
      exact this
    have HWC := Lib.hid hwc
    have hsbr : sb < wr.heap.size := by have := hT.bel.size; omega
    have hb0r := hT.bx.lt
    have hb5r := hbx.lt
    have HT := Lib.hid hT
    have HBX := Lib.hid hbx
    have hs10 : ∀ W, Below wr.heap.size wr W → Below wr.heap.size wr W ∧ W.cell? ⟨b0, 0, none⟩ = some (.slice sa k cs) ∧ W.cell? ⟨sb, so + m * 3 + 1, none⟩ = some (.int .u8 t) := fun W hW => ⟨hW, (hW.cell (p := ⟨b0, 0, none⟩) hb0r).trans hT.bx.four.1, (hW.cell (p := ⟨sb, so + m * 3 + 1, none⟩) hsbr).trans c1⟩
    have hs11 : ∀ W, Below wr.heap.size wr W → Below wr.heap.size wr W ∧ W.cell? ⟨sb, so + m * 3 + 2, none⟩ = some (.int .u8 c.toNat) ∧ W.cell? ⟨b5, 0, none⟩ = some (.slice sx kx cx) ∧ W.cell? ⟨b5, 1, none⟩ = some (.slice ax px qx) ∧ W.cell? ⟨b5, 2, none⟩ = some (.int .i64 lx) ∧ W.cell? ⟨b5, 3, none⟩ = some (.bool tx) := fun W hW => ⟨hW, (hW.cell (p := ⟨sb, so + m * 3 + 2, none⟩) hsbr).trans c2, (hW.cell (p := ⟨b5, 0, none⟩) hb5r).trans hbx.four.1, (hW.cell (p := ⟨b5, 1, none⟩) hb5r).trans hbx.four.2.1, (hW.cell (p := ⟨b5, 2, none⟩) hb5r).trans hbx.four.2.2.1, (hW.cell (p := ⟨b5, 3, none⟩) hb5r).trans hbx.four.2.2.2⟩
    have HS10 := Lib.hid hs10
    have HS := Lib.hid hs11
    have dlt : decide ((m : Int) < (n : Int)) = true := by simp; omega
    have d00 : ((0 : Int) == 0) = true := by decide
    clear hml hmw hin c1 c2 hwm ht hc hq hsy hXr hXp hXs hXn hZ hwz hwc hZo hZr hXE h23 hXF hz1 hz2 hz3 hz4 hu1 hu2 hu3 hu4 hbx hT hs10 hs11
    go_wp2
    refine wp_region_held_drew (S := fun W => Below wr.heap.size wr W ∧ W.cell? ⟨b0, 0, none⟩ = some (.slice sa k cs) ∧ W.cell? ⟨sb, so + m * 3 + 1, none⟩ = some (.int .u8 t)) (by kernel_rfl) (HS10.out _ (Below.drew (Below.refl _ _))) (fun hHeld => ?_)
    refine wpAnyH_take (i := 0) (oi := q8b0) (v := ?_) rfl (by kernel_rfl) (by kernel_rfl) (by kernel_rfl) (fun _ _ _ h => h) (Or.inl ⟨by rfl, ?_⟩) hHeld ?_
    rotate_left
    · (intro w hSw; (try dsimp only at hSw); unfold q8b0; go_simp <;> with_reducible rfl)
    try simp only [q8b0, Act.put, List.setIfInBounds_toArray, List.set_cons_zero, List.set_cons_succ]
    refine wpAnyH_take (i := 1) (oi := q8b1) (v := ?_) rfl (by kernel_rfl) (by kernel_rfl) (by kernel_rfl) (fun _ _ _ h => h) (Or.inl ⟨by rfl, ?_⟩) hHeld ?_
    rotate_left
    · (intro w hSw; (try dsimp only at hSw); unfold q8b1; go_simp <;> with_reducible rfl)
    try simp only [q8b1, Act.put, List.setIfInBounds_toArray, List.set_cons_zero, List.set_cons_succ]
    refine wpAnyH_take (i := 2) (oi := q8b2) (v := ?_) rfl (by kernel_rfl) (by kernel_rfl) (by kernel_rfl) (fun _ _ _ h => h) (Or.inl ⟨by rfl, ?_⟩) hHeld ?_
    rotate_left
    · (intro w hSw; (try dsimp only at hSw); unfold q8b2; go_simp <;> with_reducible rfl)
    try simp only [q8b2, Act.put, List.setIfInBounds_toArray, List.set_cons_zero, List.set_cons_succ]
    refine wpAnyH_take (i := 3) (oi := q8b3) (v := ?_) rfl (by kernel_rfl) (by kernel_rfl) (by kernel_rfl) (fun _ _ _ h => h) (Or.inl ⟨by rfl, ?_⟩) hHeld ?_
    rotate_left
    · (intro w hSw; (try dsimp only at hSw); unfold q8b3; go_simp <;> with_reducible rfl)
    try simp only [q8b3, Act.put, List.setIfInBounds_toArray, List.set_cons_zero, List.set_cons_succ]
    refine wpAnyH_take (i := 4) (oi := q8b4) (v := ?_) rfl (by kernel_rfl) (by kernel_rfl) (by kernel_rfl) (fun _ _ _ h => h) (Or.inl ⟨by rfl, ?_⟩) hHeld ?_
    rotate_left
    · (intro w hSw; (try dsimp only at hSw); unfold q8b4; go_simp <;> with_reducible rfl)
    try simp only [q8b4, Act.put, List.setIfInBounds_toArray, List.set_cons_zero, List.set_cons_succ]
    refine wpAnyH_take (i := 5) (oi := q8b5) (v := ?_) rfl (by kernel_rfl) (by kernel_rfl) (by kernel_rfl) (fun _ _ _ h => h) (Or.inl ⟨by rfl, ?_⟩) hHeld ?_
    rotate_left
    · (intro w hSw; (try dsimp only at hSw); unfold q8b5; go_simp <;> with_reducible rfl)
    try simp only [q8b5, Act.put, List.setIfInBounds_toArray, List.set_cons_zero, List.set_cons_succ]
    refine wpAnyH_take (i := 6) (oi := q8b6) (v := ?_) rfl (by kernel_rfl) (by kernel_rfl) (by kernel_rfl) (fun _ _ _ h => h) (Or.inl ⟨by rfl, ?_⟩) hHeld ?_
    rotate_left
    · (intro w hSw; (try dsimp only at hSw); unfold q8b6; go_simp <;> with_reducible rfl)
    try simp only [q8b6, Act.put, List.setIfInBounds_toArray, List.set_cons_zero, List.set_cons_succ]
    refine wpAnyH_take (i := 7) (oi := q8b7) (v := ?_) rfl (by kernel_rfl) (by kernel_rfl) (by kernel_rfl) (fun _ _ _ h => h) (Or.inl ⟨by rfl, ?_⟩) hHeld ?_
    rotate_left
    · (intro w hSw; (try dsimp only at hSw); unfold q8b7; go_simp <;> with_reducible rfl)
    try simp only [q8b7, Act.put, List.setIfInBounds_toArray, List.set_cons_zero, List.set_cons_succ]
    refine wpAnyH_take (i := 8) (oi := q8b8) (v := ?_) rfl (by kernel_rfl) (by kernel_rfl) (by kernel_rfl) (fun _ _ _ h => h) (Or.inl ⟨by rfl, ?_⟩) hHeld ?_
    rotate_left
    · (intro w hSw; (try dsimp only at hSw); unfold q8b8; go_simp <;> with_reducible rfl)
    try simp only [q8b8, Act.put, List.setIfInBounds_toArray, List.set_cons_zero, List.set_cons_succ]
    refine wpAnyH_take (i := 9) (oi := q8b9) (v := ?_) rfl (by kernel_rfl) (by kernel_rfl) (by kernel_rfl) (fun _ _ _ h => h) (Or.inl ⟨by rfl, ?_⟩) hHeld ?_
    rotate_left
    · (intro w hSw; (try dsimp only at hSw); unfold q8b9; go_simp <;> with_reducible rfl)
    try simp only [q8b9, Act.put, List.setIfInBounds_toArray, List.set_cons_zero, List.set_cons_succ]
    refine wpAnyH_ready (rs := [10]) (by kernel_rfl) (by simp) ?_
    refine AllReadyH.cons (o := q8b10) rfl (fun K hK => ?_) AllReadyH.nil
    rw [if_pos (by rfl)]
    unfold q8b10
    go_simp
    refine hK.out _ _ (HS10.out _ (Below.drew (Below.refl _ _))) (fun hHeld => ?_)
    clear hK K
    try simp only [q8b10, Act.put, List.setIfInBounds_toArray, List.set_cons_zero, List.set_cons_succ]
    refine wpAnyH_done (by kernel_rfl) ?_ _
    clear hHeld
    go_wp2
    go_cut [10, 11] from 69 to 87 (fun s10 s11 wx => ∃ b10, s10 = .pointer (some ⟨b10, 0, none⟩) ∧ s11 = .int .i64 0 ∧ BoxAt wx b10 Z ∧ Below wr.heap.size wr wx ∧ wr.heap.size ≤ b10)
    case first =>
      rename_i J3 K3 hJ3 hM3
      refine wp_region_held_drew (S := fun W => Below wr.heap.size wr W ∧ W.cell? ⟨sb, so + m * 3 + 2, none⟩ = some (.int .u8 c.toNat) ∧ W.cell? ⟨b5, 0, none⟩ = some (.slice sx kx cx) ∧ W.cell? ⟨b5, 1, none⟩ = some (.slice ax px qx) ∧ W.cell? ⟨b5, 2, none⟩ = some (.int .i64 lx) ∧ W.cell? ⟨b5, 3, none⟩ = some (.bool tx)) (by kernel_rfl) (HS.out _ (Below.drew (Below.drew (Below.refl _ _)))) (fun hHeld => ?_)
      refine wpAnyH_take (i := 0) (oi := q8d0) (v := ?_) rfl (by kernel_rfl) (by kernel_rfl) (by kernel_rfl) (fun _ _ _ h => h) (Or.inl ⟨by rfl, ?_⟩) hHeld ?_
      rotate_left
      · (intro w hSw; (try dsimp only at hSw); unfold q8d0; go_simp <;> with_reducible rfl)
      try simp only [q8d0, Act.put, List.setIfInBounds_toArray, List.set_cons_zero, List.set_cons_succ]
      refine wpAnyH_take (i := 1) (oi := q8d1) (v := ?_) rfl (by kernel_rfl) (by kernel_rfl) (by kernel_rfl) (fun _ _ _ h => h) (Or.inl ⟨by rfl, ?_⟩) hHeld ?_
      rotate_left
      · (intro w hSw; (try dsimp only at hSw); unfold q8d1; go_simp <;> with_reducible rfl)
      try simp only [q8d1, Act.put, List.setIfInBounds_toArray, List.set_cons_zero, List.set_cons_succ]
      refine wpAnyH_take (i := 2) (oi := q8d2) (v := ?_) rfl (by kernel_rfl) (by kernel_rfl) (by kernel_rfl) (fun _ _ _ h => h) (Or.inl ⟨by rfl, ?_⟩) hHeld ?_
      rotate_left
      · (intro w hSw; (try dsimp only at hSw); unfold q8d2; go_simp <;> with_reducible rfl)
      try simp only [q8d2, Act.put, List.setIfInBounds_toArray, List.set_cons_zero, List.set_cons_succ]
      refine wpAnyH_take (i := 3) (oi := q8d3) (v := ?_) rfl (by kernel_rfl) (by kernel_rfl) (by kernel_rfl) (fun _ _ _ h => h) (Or.inl ⟨by rfl, ?_⟩) hHeld ?_
      rotate_left
      · (intro w hSw; (try dsimp only at hSw); unfold q8d3; go_simp <;> with_reducible rfl)
      try simp only [q8d3, Act.put, List.setIfInBounds_toArray, List.set_cons_zero, List.set_cons_succ]
      refine wpAnyH_take (i := 4) (oi := q8d4) (v := ?_) rfl (by kernel_rfl) (by kernel_rfl) (by kernel_rfl) (fun _ _ _ h => h) (Or.inl ⟨by rfl, ?_⟩) hHeld ?_
      rotate_left
      · (intro w hSw; (try dsimp only at hSw); unfold q8d4; go_simp <;> with_reducible rfl)
      try simp only [q8d4, Act.put, List.setIfInBounds_toArray, List.set_cons_zero, List.set_cons_succ]
      refine wpAnyH_take (i := 5) (oi := q8d5) (v := ?_) rfl (by kernel_rfl) (by kernel_rfl) (by kernel_rfl) (fun _ _ _ h => h) (Or.inl ⟨by rfl, ?_⟩) hHeld ?_
      rotate_left
      · (intro w hSw; (try dsimp only at hSw); unfold q8d5; go_simp <;> with_reducible rfl)
      try simp only [q8d5, Act.put, List.setIfInBounds_toArray, List.set_cons_zero, List.set_cons_succ]
      refine wpAnyH_take (i := 6) (oi := q8d6) (v := ?_) rfl (by kernel_rfl) (by kernel_rfl) (by kernel_rfl) (fun _ _ _ h => h) (Or.inl ⟨by rfl, ?_⟩) hHeld ?_
      rotate_left
      · (intro w hSw; (try dsimp only at hSw); unfold q8d6; go_simp <;> with_reducible rfl)
      try simp only [q8d6, Act.put, List.setIfInBounds_toArray, List.set_cons_zero, List.set_cons_succ]
      refine wpAnyH_ready (rs := [7, 12]) (by kernel_rfl) (by simp) ?_
      refine AllReadyH.cons (o := q8d7) rfl (fun K hK => ?_) (AllReadyH.cons (o := q8d12) rfl (fun K hK => ?_) AllReadyH.nil)
      · skip
        rw [if_pos (by rfl)]
        refine wp_bs1 _ c (by rfl) (by rfl) ?_
        intro g W7 hG7 hge7 hltg hAg
        have hBB := belowN hG7
        have hB7 := Below.trans (Below.drew (Below.drew (Below.refl wr.heap.size wr))) (hBB.mono (Below.drew (Below.drew (Below.refl wr.heap.size wr))).size)
        clear hBB
        refine hK.out _ _ (HS.out _ hB7) (fun hHeld => ?_)
        clear hK K
        try simp only [q8d7, Act.put, List.setIfInBounds_toArray, List.set_cons_zero, List.set_cons_succ]
        refine wpAnyH_ready (rs := [8, 12]) (by kernel_rfl) (by simp) ?_
        refine AllReadyH.cons (o := q8d8) rfl (fun K hK => ?_) (AllReadyH.cons (o := q8d12) rfl (fun K hK => ?_) AllReadyH.nil)
        · skip
          rw [if_pos (by rfl)]
          unfold q8d8
          go_simp
          (with_reducible refine (HWC.out _ g hB7 hAg hltg).mono ?_)
          rintro e W8 ⟨u, rfl, hu, hBB⟩
          have hB8 := Below.trans hB7 (hBB.mono hB7.size)
          clear hBB hAg hltg
          obtain ⟨sz, cz, az, qz, rfl, -⟩ := hu.parts HZ1.out HZ2.out HZ3.out HZ4.out
          go_wp2_with fail
          refine hK.out _ _ (HS.out _ hB8) (fun hHeld => ?_)
          clear hK K
          try simp only [q8d8, Act.put, List.setIfInBounds_toArray, List.set_cons_zero, List.set_cons_succ]
          refine wpAnyH_take (i := 9) (oi := q8d9) (v := ?_) rfl (by kernel_rfl) (by kernel_rfl) (by kernel_rfl) (fun _ _ _ h => h) (Or.inl ⟨by rfl, ?_⟩) hHeld ?_
          rotate_left
          · (intro w hSw; (try dsimp only at hSw); unfold q8d9; go_simp <;> with_reducible rfl)
          try simp only [q8d9, Act.put, List.setIfInBounds_toArray, List.set_cons_zero, List.set_cons_succ]
          refine wpAnyH_take (i := 10) (oi := q8d10) (v := ?_) rfl (by kernel_rfl) (by kernel_rfl) (by kernel_rfl) (fun _ _ _ h => h) (Or.inl ⟨by rfl, ?_⟩) hHeld ?_
          rotate_left
          · (intro w hSw; (try dsimp only at hSw); unfold q8d10; go_simp <;> with_reducible rfl)
          try simp only [q8d10, Act.put, List.setIfInBounds_toArray, List.set_cons_zero, List.set_cons_succ]
          refine wpAnyH_take (i := 11) (oi := q8d11) (v := ?_) rfl (by kernel_rfl) (by kernel_rfl) (by kernel_rfl) (fun _ _ _ h => h) (Or.inl ⟨by rfl, ?_⟩) hHeld ?_
          rotate_left
          · (intro w hSw; (try dsimp only at hSw); unfold q8d11; go_simp <;> with_reducible rfl)
          try simp only [q8d11, Act.put, List.setIfInBounds_toArray, List.set_cons_zero, List.set_cons_succ]
          refine wpAnyH_ready (rs := [12]) (by kernel_rfl) (by simp) ?_
          refine AllReadyH.cons (o := q8d12) rfl (fun K hK => ?_) AllReadyH.nil
          rw [if_pos (by rfl)]
          refine wp_alloc25t (by rfl) ?_
          intro b10 W12 hG12 hge12 hlt10 hA10 ht10
          have hBB := belowN hG12
          have hu := hu.next hBB
          have hB12 := Below.trans hB8 (hBB.mono hB8.size)
          have le10 : wr.heap.size ≤ b10 := Nat.le_trans hB8.size hge12
          clear hBB
          refine hK.out _ _ (HS.out _ hB12) (fun hHeld => ?_)
          clear hK K
          try simp only [q8d12, Act.put, List.setIfInBounds_toArray, List.set_cons_zero, List.set_cons_succ]
          refine wpAnyH_ready (rs := [13]) (by kernel_rfl) (by simp) ?_
          refine AllReadyH.cons (o := q8d13) rfl (fun K hK => ?_) AllReadyH.nil
          rw [if_pos (by rfl)]
          refine wp_st25t (.tmp 10) (.tmp 79) (by rfl) b10 _ _ _ _ _ (by rfl) (by rfl) hA10 rfl ht10 rfl ?_
          intro Wz hGz hAz htz
          have hbz := (show Boxed _ b10 none 0 0 none 0 0 0 false Dk.zero from ⟨hlt10, hA10, zero_at _ _, ht10⟩).store hGz hAz htz hu HZF.out
          have hBz := below_grow hB12 hGz (fun q e => by cases e; exact le10) hB12.size
          refine hK.out _ _ (HS.out _ hBz) (fun hHeld => ?_)
          clear hK K
          try simp only [q8d13, Act.put]
          refine wpAnyH_ready (rs := [14]) (by kernel_rfl) (by simp) ?_
          refine AllReadyH.cons (o := q8d14) rfl (fun K hK => ?_) AllReadyH.nil
          rw [if_pos (by rfl)]
          unfold q8d14
          go_simp
          refine hK.out _ _ hHeld (fun hHeld => ?_)
          clear hK K
          try simp only [q8d14, Act.put, List.setIfInBounds_toArray, List.set_cons_zero, List.set_cons_succ]
          refine wpAnyH_done (by kernel_rfl) ?_ _
          refine hM3 _ _ ?_
          go_meet
          exact ⟨b10, rfl, rfl, ⟨_, _, _, _, _, _, _, _, hbz⟩, hBz, le10⟩
        · skip
          rw [if_pos (by rfl)]
          refine wp_alloc25t (by rfl) ?_
          intro b10 W12 hG12 hge12 hlt10 hA10 ht10
          have hBB := belowN hG12
          have hAg := hAg.below hBB hltg
          have hltg := Nat.lt_of_lt_of_le hltg hBB.size
          have hB12 := Below.trans hB7 (hBB.mono hB7.size)
          have le10 : wr.heap.size ≤ b10 := Nat.le_trans hB7.size hge12
          clear hBB
          refine hK.out _ _ (HS.out _ hB12) (fun hHeld => ?_)
          clear hK K
          try simp only [q8d12, Act.put, List.setIfInBounds_toArray, List.set_cons_zero, List.set_cons_succ]
          refine wpAnyH_ready (rs := [8]) (by kernel_rfl) (by simp) ?_
          refine AllReadyH.cons (o := q8d8) rfl (fun K hK => ?_) AllReadyH.nil
          rw [if_pos (by rfl)]
          unfold q8d8
          go_simp
          (with_reducible refine (HWC.out _ g hB12 hAg hltg).mono ?_)
          rintro e W8 ⟨u, rfl, hu, hBB⟩
          have hA10 := hA10.below hBB hlt10
          have ht10 : ∀ i, 4 ≤ i → W8.cell? ⟨b10, i, none⟩ = none := fun i hi => (hBB.cell (p := ⟨b10, i, none⟩) hlt10).trans (ht10 i hi)
          have hlt10 := Nat.lt_of_lt_of_le hlt10 hBB.size
          have hB8 := Below.trans hB12 (hBB.mono hB12.size)
          clear hBB hAg hltg
          obtain ⟨sz, cz, az, qz, rfl, -⟩ := hu.parts HZ1.out HZ2.out HZ3.out HZ4.out
          go_wp2_with fail
          refine hK.out _ _ (HS.out _ hB8) (fun hHeld => ?_)
          clear hK K
          try simp only [q8d8, Act.put, List.setIfInBounds_toArray, List.set_cons_zero, List.set_cons_succ]
          refine wpAnyH_take (i := 9) (oi := q8d9) (v := ?_) rfl (by kernel_rfl) (by kernel_rfl) (by kernel_rfl) (fun _ _ _ h => h) (Or.inl ⟨by rfl, ?_⟩) hHeld ?_
          rotate_left
          · (intro w hSw; (try dsimp only at hSw); unfold q8d9; go_simp <;> with_reducible rfl)
          try simp only [q8d9, Act.put, List.setIfInBounds_toArray, List.set_cons_zero, List.set_cons_succ]
          refine wpAnyH_take (i := 10) (oi := q8d10) (v := ?_) rfl (by kernel_rfl) (by kernel_rfl) (by kernel_rfl) (fun _ _ _ h => h) (Or.inl ⟨by rfl, ?_⟩) hHeld ?_
          rotate_left
          · (intro w hSw; (try dsimp only at hSw); unfold q8d10; go_simp <;> with_reducible rfl)
          try simp only [q8d10, Act.put, List.setIfInBounds_toArray, List.set_cons_zero, List.set_cons_succ]
          refine wpAnyH_take (i := 11) (oi := q8d11) (v := ?_) rfl (by kernel_rfl) (by kernel_rfl) (by kernel_rfl) (fun _ _ _ h => h) (Or.inl ⟨by rfl, ?_⟩) hHeld ?_
          rotate_left
          · (intro w hSw; (try dsimp only at hSw); unfold q8d11; go_simp <;> with_reducible rfl)
          try simp only [q8d11, Act.put, List.setIfInBounds_toArray, List.set_cons_zero, List.set_cons_succ]
          refine wpAnyH_ready (rs := [13]) (by kernel_rfl) (by simp) ?_
          refine AllReadyH.cons (o := q8d13) rfl (fun K hK => ?_) AllReadyH.nil
          rw [if_pos (by rfl)]
          refine wp_st25t (.tmp 10) (.tmp 79) (by rfl) b10 _ _ _ _ _ (by rfl) (by rfl) hA10 rfl ht10 rfl ?_
          intro Wz hGz hAz htz
          have hbz := (show Boxed _ b10 none 0 0 none 0 0 0 false Dk.zero from ⟨hlt10, hA10, zero_at _ _, ht10⟩).store hGz hAz htz hu HZF.out
          have hBz := below_grow hB8 hGz (fun q e => by cases e; exact le10) hB8.size
          refine hK.out _ _ (HS.out _ hBz) (fun hHeld => ?_)
          clear hK K
          try simp only [q8d13, Act.put]
          refine wpAnyH_ready (rs := [14]) (by kernel_rfl) (by simp) ?_
          refine AllReadyH.cons (o := q8d14) rfl (fun K hK => ?_) AllReadyH.nil
          rw [if_pos (by rfl)]
          unfold q8d14
          go_simp
          refine hK.out _ _ hHeld (fun hHeld => ?_)
          clear hK K
          try simp only [q8d14, Act.put, List.setIfInBounds_toArray, List.set_cons_zero, List.set_cons_succ]
          refine wpAnyH_done (by kernel_rfl) ?_ _
          refine hM3 _ _ ?_
          go_meet
          exact ⟨b10, rfl, rfl, ⟨_, _, _, _, _, _, _, _, hbz⟩, hBz, le10⟩
      · skip
        rw [if_pos (by rfl)]
        refine wp_alloc25t (by rfl) ?_
        intro b10 W12 hG12 hge12 hlt10 hA10 ht10
        have hBB := belowN hG12
        have hB12 := Below.trans (Below.drew (Below.drew (Below.refl wr.heap.size wr))) (hBB.mono (Below.drew (Below.drew (Below.refl wr.heap.size wr))).size)
        have le10 : wr.heap.size ≤ b10 := Nat.le_trans (Below.drew (Below.drew (Below.refl wr.heap.size wr))).size hge12
        clear hBB
        refine hK.out _ _ (HS.out _ hB12) (fun hHeld => ?_)
        clear hK K
        try simp only [q8d12, Act.put, List.setIfInBounds_toArray, List.set_cons_zero, List.set_cons_succ]
        refine wpAnyH_ready (rs := [7]) (by kernel_rfl) (by simp) ?_
        refine AllReadyH.cons (o := q8d7) rfl (fun K hK => ?_) AllReadyH.nil
        rw [if_pos (by rfl)]
        refine wp_bs1 _ c (by rfl) (by rfl) ?_
        intro g W7 hG7 hge7 hltg hAg
        have hBB := belowN hG7
        have hA10 := hA10.below hBB hlt10
        have ht10 : ∀ i, 4 ≤ i → W7.cell? ⟨b10, i, none⟩ = none := fun i hi => (hBB.cell (p := ⟨b10, i, none⟩) hlt10).trans (ht10 i hi)
        have hlt10 := Nat.lt_of_lt_of_le hlt10 hBB.size
        have hB7 := Below.trans hB12 (hBB.mono hB12.size)
        clear hBB
        refine hK.out _ _ (HS.out _ hB7) (fun hHeld => ?_)
        clear hK K
        try simp only [q8d7, Act.put, List.setIfInBounds_toArray, List.set_cons_zero, List.set_cons_succ]
        refine wpAnyH_ready (rs := [8]) (by kernel_rfl) (by simp) ?_
        refine AllReadyH.cons (o := q8d8) rfl (fun K hK => ?_) AllReadyH.nil
        rw [if_pos (by rfl)]
        unfold q8d8
        go_simp
        (with_reducible refine (HWC.out _ g hB7 hAg hltg).mono ?_)
        rintro e W8 ⟨u, rfl, hu, hBB⟩
        have hA10 := hA10.below hBB hlt10
        have ht10 : ∀ i, 4 ≤ i → W8.cell? ⟨b10, i, none⟩ = none := fun i hi => (hBB.cell (p := ⟨b10, i, none⟩) hlt10).trans (ht10 i hi)
        have hlt10 := Nat.lt_of_lt_of_le hlt10 hBB.size
        have hB8 := Below.trans hB7 (hBB.mono hB7.size)
        clear hBB hAg hltg
        obtain ⟨sz, cz, az, qz, rfl, -⟩ := hu.parts HZ1.out HZ2.out HZ3.out HZ4.out
        go_wp2_with fail
        refine hK.out _ _ (HS.out _ hB8) (fun hHeld => ?_)
        clear hK K
        try simp only [q8d8, Act.put, List.setIfInBounds_toArray, List.set_cons_zero, List.set_cons_succ]
        refine wpAnyH_take (i := 9) (oi := q8d9) (v := ?_) rfl (by kernel_rfl) (by kernel_rfl) (by kernel_rfl) (fun _ _ _ h => h) (Or.inl ⟨by rfl, ?_⟩) hHeld ?_
        rotate_left
        · (intro w hSw; (try dsimp only at hSw); unfold q8d9; go_simp <;> with_reducible rfl)
        try simp only [q8d9, Act.put, List.setIfInBounds_toArray, List.set_cons_zero, List.set_cons_succ]
        refine wpAnyH_take (i := 10) (oi := q8d10) (v := ?_) rfl (by kernel_rfl) (by kernel_rfl) (by kernel_rfl) (fun _ _ _ h => h) (Or.inl ⟨by rfl, ?_⟩) hHeld ?_
        rotate_left
        · (intro w hSw; (try dsimp only at hSw); unfold q8d10; go_simp <;> with_reducible rfl)
        try simp only [q8d10, Act.put, List.setIfInBounds_toArray, List.set_cons_zero, List.set_cons_succ]
        refine wpAnyH_take (i := 11) (oi := q8d11) (v := ?_) rfl (by kernel_rfl) (by kernel_rfl) (by kernel_rfl) (fun _ _ _ h => h) (Or.inl ⟨by rfl, ?_⟩) hHeld ?_
        rotate_left
        · (intro w hSw; (try dsimp only at hSw); unfold q8d11; go_simp <;> with_reducible rfl)
        try simp only [q8d11, Act.put, List.setIfInBounds_toArray, List.set_cons_zero, List.set_cons_succ]
        refine wpAnyH_ready (rs := [13]) (by kernel_rfl) (by simp) ?_
        refine AllReadyH.cons (o := q8d13) rfl (fun K hK => ?_) AllReadyH.nil
        rw [if_pos (by rfl)]
        refine wp_st25t (.tmp 10) (.tmp 79) (by rfl) b10 _ _ _ _ _ (by rfl) (by rfl) hA10 rfl ht10 rfl ?_
        intro Wz hGz hAz htz
        have hbz := (show Boxed _ b10 none 0 0 none 0 0 0 false Dk.zero from ⟨hlt10, hA10, zero_at _ _, ht10⟩).store hGz hAz htz hu HZF.out
        have hBz := below_grow hB8 hGz (fun q e => by cases e; exact le10) hB8.size
        refine hK.out _ _ (HS.out _ hBz) (fun hHeld => ?_)
        clear hK K
        try simp only [q8d13, Act.put]
        refine wpAnyH_ready (rs := [14]) (by kernel_rfl) (by simp) ?_
        refine AllReadyH.cons (o := q8d14) rfl (fun K hK => ?_) AllReadyH.nil
        rw [if_pos (by rfl)]
        unfold q8d14
        go_simp
        refine hK.out _ _ hHeld (fun hHeld => ?_)
        clear hK K
        try simp only [q8d14, Act.put, List.setIfInBounds_toArray, List.set_cons_zero, List.set_cons_succ]
        refine wpAnyH_done (by kernel_rfl) ?_ _
        refine hM3 _ _ ?_
        go_meet
        exact ⟨b10, rfl, rfl, ⟨_, _, _, _, _, _, _, _, hbz⟩, hBz, le10⟩
    case rest =>
      obtain ⟨b10, rfl, rfl, ⟨s2, k2, c2, a2, p2, q2, l2', t2, hz⟩, hBz, le10⟩ := hcut
      obtain ⟨z0, z1, z2, z3⟩ := hz.four
      have HBZ := Lib.hid hBz
      have HDZ := Lib.hid hz.dk
      clear hz hBz
      go_wp2_with fail
      refine (H23.out _ _ HDZ.out).mono ?_
      rintro e W6 ⟨u, rfl, hu, hB6⟩
      obtain ⟨su, cu, au, qu, rfl, -⟩ := hu.parts HU1.out HU2.out HU3.out HU4.out
      have hbel := Below.andthen HBZ.out hB6
      have HTN := Lib.hid (HT.out.next hbel)
      have HB5 := Lib.hid (HBX.out.next hbel)
      have HU := Lib.hid hu
      clear hu hbel hB6 z0 z1 z2 z3
      go_wp2_with (refine store_box rfl (.tmp 5) (.tmp 86) rfl HB5.out (by rfl) (by rfl) HU.out HXF.out ?_; intro W9 hG9 hx9)
      go_roundw
      case rel => exact ⟨m + 1, X', E', rfl, by go_num, by omega, HXE.out, HTN.out.store5 hG9 ⟨_, _, _, _, _, _, _, _, hx9⟩ h5w h05 hne.symm HDF.out HDF.out⟩
      case measure => simp [intOf]; omega
  · skip
    have hall : (pd d.sec (wrs k l) left).sync = (X, E) := by
      by_cases hm : m = n
      · rw [List.take_of_length_le (by rw [HWL.out]; omega)] at hsy; exact hsy
      · have hE : E ≠ 0 := fun e => hgo ⟨by omega, e⟩
        have hs := sync_stopped (s := d.sec) (p := (wrs k l).take m) (q := (wrs k l).drop m) (L := left) ⟨by rw [HK.out]; exact l1, by rw [HK.out]; exact l2⟩ (by rw [List.take_append_drop, HWL.out]; omega) HLS.out (by rw [List.take_append_drop, HK.out]; exact HWO.out) ⟨l4, l5⟩ (by rw [hsy]; exact hE)
        rw [List.take_append_drop] at hs
        rw [← hs]; exact hsy
    have dex : (decide ((m : Int) < (n : Int)) = true ∧ (E == 0) = false ∧ ¬ E = 0 ∧ decide (E = 0) = false ∧ decide (m < n) = true) ∨ (decide ((m : Int) < (n : Int)) = false ∧ decide (m < n) = false) := by
      by_cases hm : m < n
      · have hE : ¬ E = 0 := fun e => hgo ⟨hm, e⟩
        exact .inl ⟨by simp; omega, by simpa using hE, hE, by simpa using hE, by simpa using hm⟩
      · exact .inr ⟨by simp; omega, by simpa using hm⟩
    have HALL := Lib.hid hall
    have HT1 := Lib.hid hT
    clear hall hsy hT hgo HT0
    rcases dex with ⟨d1, d2, d3, d4, d5⟩ | ⟨d1, d2⟩
    all_goals
      go_wp2
      go_loopw [12] (fun i wr => ∃ m : Nat, i = .int .i64 m ∧ m ≤ n ∧ LT w b0 b5 b6 sa ap k cs 0 cp left d ya n yc l X (pd d.sec ((wrs k l).take m) left) wr) (fun i _ => n - (intOf i).toNat)
      case atStart => exact ⟨0, rfl, Nat.zero_le _, by rw [List.take_zero, ← HD0.out]; exact HT1.out⟩
      case round =>
      clear HT1 hmn
      obtain ⟨m, rfl, hmn, hT⟩ := hrel
      have hokm : ∀ m, (pd d.sec ((wrs k l).take m) left).ok = true := fun m => pd_ok ⟨by rw [HK.out]; exact l1, by rw [HK.out]; exact l2⟩ (by rw [List.length_take, HWL.out]; omega) HLS.out (by rw [HK.out]; exact okPen_part HWO.out (fun x hx => List.mem_of_mem_take hx)) ⟨l4, l5⟩
      by_cases hlt : m < n
      · skip
        have hml : m < l.length := by rw [HN.out]; exact hlt
        have hmw : m < (wrs k l).length := by rw [HWL.out]; exact hlt
        obtain ⟨sb, so, rfl, hsb, hin⟩ := acts_get hT.acts (by omega)
        obtain ⟨-, c1, c2⟩ := hin m hml
        have hwm : (wrs k l)[m] = (((l[m].at_.toNat % k : Nat) : Int), pad [l[m].byte]) := wrs_get hmw hml
        obtain ⟨t, ht⟩ : ∃ t, l[m].at_.toNat = t := ⟨_, rfl⟩
        obtain ⟨c, hc⟩ : ∃ c, l[m].byte = c := ⟨_, rfl⟩
        obtain ⟨q, hq⟩ : ∃ q, t % k = q := ⟨_, rfl⟩
        have hqk : q < k := by rw [← hq]; exact Nat.mod_lt _ (by omega)
        have htm : (t : Int).tmod (k : Int) = (q : Int) := by rw [← hq]; rfl
        have htm2 : (t : Int) % (k : Int) = (q : Int) := by rw [← hq]; rfl
        have ht256 : t < 256 := by rw [← ht]; exact l[m].at_.toNat_lt
        have hwt : IntKind.i64.wrap (t : Int) = (t : Int) := by rw [IntKind.wrap_i64]; omega
        rw [ht] at c1 hwm
        rw [hc] at c2 hwm
        rw [hq] at hwm
        obtain ⟨Z, hZ⟩ : ∃ Z, pd d.sec ((wrs k l).take (m + 1)) left = Z := ⟨_, rfl⟩
        obtain ⟨Y, hY⟩ : ∃ Y, pd d.sec ((wrs k l).take m) left = Y := ⟨_, rfl⟩
        have hYo := hokm m
        have hZo := hokm (m + 1)
        rw [hY] at hYo hT
        rw [hZ] at hZo
        have hwz : Y.write q [c] = (Z, 0) := by
          rw [write_ok (runs_of hYo (by rw [← hY]; rfl)) (has_iff.2 ⟨by simp, by rw [← hY]; show (q : Int) < (d.sec.length : Int); rw [HK.out]; omega⟩) (by simp) (by rw [← hY]; show ((wrs k l).take m).length ≠ 4096; rw [List.length_take]; omega), ← hY, ← hZ]
          unfold pd
          rw [List.take_succ_eq_append_getElem hmw, hwm]
        obtain ⟨sx, kx, cx, ax, px, qx, lx, tx, hbx⟩ := hT.b6
        obtain ⟨kz, hz1⟩ : ∃ x, Z.sec.length = x := ⟨_, rfl⟩
        obtain ⟨pz, hz2⟩ : ∃ x, Z.pen.length = x := ⟨_, rfl⟩
        obtain ⟨lz, hz3⟩ : ∃ x, Z.left = x := ⟨_, rfl⟩
        obtain ⟨tz, hz4⟩ : ∃ x, Z.stop = x := ⟨_, rfl⟩
        have HZ1 := Lib.hid hz1
        have HZ2 := Lib.hid hz2
        have HZ3 := Lib.hid hz3
        have HZ4 := Lib.hid hz4
        have hwc : ∀ W g, Below wr.heap.size wr W → Arr W g (cells8 [c]) → g < W.heap.size → Calls Try.prog 19 #[.agg #[.slice sx kx cx, .slice ax px qx, .int .i64 lx, .bool tx], .int .i64 q, .slice (some ⟨g, 0, none⟩) 1 1] W fun e w' => ∃ u, e = .returned (.tuple #[u, .int .i64 0]) ∧ DkAt w' w'.heap.size u Z ∧ Below W.heap.size W w' := fun W g hW hA hg => by
          have := write_any W Y (.agg #[.slice sx kx cx, .slice ax px qx, .int .i64 lx, .bool tx]) (.slice (some ⟨g, 0, none⟩) 1 1) q [c] (hbx.dk.next hW) (hA.bytesAt rfl hg (Nat.le_refl _) (by unfold maxLen; omega)) ⟨by omega, by omega⟩
          rw [hwz] at this
          exact this
        have HWC := Lib.hid hwc
        have hsbr : sb < wr.heap.size := by have := hT.bel.size; omega
        have hb0r := hT.bx.lt
        have hb6r := hbx.lt
        have HT := Lib.hid hT
        have HBX := Lib.hid hbx
        have HZF := Lib.hid (ok_full hZo)
        have HZZ := Lib.hid hZ
        have HXF : Hid X.full := Lib.hid (by
          have := sync_full (runs_of (pd_ok (s := d.sec) (p := wrs k l) (L := left) ⟨by rw [HK.out]; exact l1, by rw [HK.out]; exact l2⟩ (by rw [HWL.out]; omega) HLS.out (by rw [HK.out]; exact HWO.out) ⟨l4, l5⟩) rfl)
          rw [HALL.out] at this; exact this)
        have hs18 : ∀ W, Below wr.heap.size wr W → Below wr.heap.size wr W ∧ W.cell? ⟨b0, 0, none⟩ = some (.slice sa k cs) ∧ W.cell? ⟨sb, so + m * 3 + 1, none⟩ = some (.int .u8 t) ∧ W.cell? ⟨sb, so + m * 3 + 2, none⟩ = some (.int .u8 c.toNat) ∧ W.cell? ⟨b6, 0, none⟩ = some (.slice sx kx cx) ∧ W.cell? ⟨b6, 1, none⟩ = some (.slice ax px qx) ∧ W.cell? ⟨b6, 2, none⟩ = some (.int .i64 lx) ∧ W.cell? ⟨b6, 3, none⟩ = some (.bool tx) := fun W hW => ⟨hW, (hW.cell (p := ⟨b0, 0, none⟩) hb0r).trans hT.bx.four.1, (hW.cell (p := ⟨sb, so + m * 3 + 1, none⟩) hsbr).trans c1, (hW.cell (p := ⟨sb, so + m * 3 + 2, none⟩) hsbr).trans c2, (hW.cell (p := ⟨b6, 0, none⟩) hb6r).trans hbx.four.1, (hW.cell (p := ⟨b6, 1, none⟩) hb6r).trans hbx.four.2.1, (hW.cell (p := ⟨b6, 2, none⟩) hb6r).trans hbx.four.2.2.1, (hW.cell (p := ⟨b6, 3, none⟩) hb6r).trans hbx.four.2.2.2⟩
        have HS := Lib.hid hs18
        have dlt : decide ((m : Int) < (n : Int)) = true := by simp; omega
        clear hml hmw hin c1 c2 hwm ht hc hq hZ hwz hwc hZo hYo hY hz1 hz2 hz3 hz4 hbx hT hs18 hokm
        go_wp2
        go_cut [13, 14] from 94 to 117 (fun s13 s14 wx => ∃ b10, s13 = .pointer (some ⟨b10, 0, none⟩) ∧ s14 = .int .i64 0 ∧ BoxAt wx b10 Z ∧ Below wr.heap.size wr wx ∧ wr.heap.size ≤ b10)
        case first =>
          rename_i J3 K3 hJ3 hM3
          refine wp_region_held_drew (S := fun W => Below wr.heap.size wr W ∧ W.cell? ⟨b0, 0, none⟩ = some (.slice sa k cs) ∧ W.cell? ⟨sb, so + m * 3 + 1, none⟩ = some (.int .u8 t) ∧ W.cell? ⟨sb, so + m * 3 + 2, none⟩ = some (.int .u8 c.toNat) ∧ W.cell? ⟨b6, 0, none⟩ = some (.slice sx kx cx) ∧ W.cell? ⟨b6, 1, none⟩ = some (.slice ax px qx) ∧ W.cell? ⟨b6, 2, none⟩ = some (.int .i64 lx) ∧ W.cell? ⟨b6, 3, none⟩ = some (.bool tx)) (by kernel_rfl) (HS.out _ (Below.drew (Below.refl _ _))) (fun hHeld => ?_)
          refine wpAnyH_take (i := 0) (oi := q8e0) (v := ?_) rfl (by kernel_rfl) (by kernel_rfl) (by kernel_rfl) (fun _ _ _ h => h) (Or.inl ⟨by rfl, ?_⟩) hHeld ?_
          rotate_left
          · (intro w hSw; (try dsimp only at hSw); unfold q8e0; go_simp <;> with_reducible rfl)
          try simp only [q8e0, Act.put, List.setIfInBounds_toArray, List.set_cons_zero, List.set_cons_succ]
          refine wpAnyH_take (i := 1) (oi := q8e1) (v := ?_) rfl (by kernel_rfl) (by kernel_rfl) (by kernel_rfl) (fun _ _ _ h => h) (Or.inl ⟨by rfl, ?_⟩) hHeld ?_
          rotate_left
          · (intro w hSw; (try dsimp only at hSw); unfold q8e1; go_simp <;> with_reducible rfl)
          try simp only [q8e1, Act.put, List.setIfInBounds_toArray, List.set_cons_zero, List.set_cons_succ]
          refine wpAnyH_take (i := 2) (oi := q8e2) (v := ?_) rfl (by kernel_rfl) (by kernel_rfl) (by kernel_rfl) (fun _ _ _ h => h) (Or.inl ⟨by rfl, ?_⟩) hHeld ?_
          rotate_left
          · (intro w hSw; (try dsimp only at hSw); unfold q8e2; go_simp <;> with_reducible rfl)
          try simp only [q8e2, Act.put, List.setIfInBounds_toArray, List.set_cons_zero, List.set_cons_succ]
          refine wpAnyH_take (i := 3) (oi := q8e3) (v := ?_) rfl (by kernel_rfl) (by kernel_rfl) (by kernel_rfl) (fun _ _ _ h => h) (Or.inl ⟨by rfl, ?_⟩) hHeld ?_
          rotate_left
          · (intro w hSw; (try dsimp only at hSw); unfold q8e3; go_simp <;> with_reducible rfl)
          try simp only [q8e3, Act.put, List.setIfInBounds_toArray, List.set_cons_zero, List.set_cons_succ]
          refine wpAnyH_take (i := 4) (oi := q8e4) (v := ?_) rfl (by kernel_rfl) (by kernel_rfl) (by kernel_rfl) (fun _ _ _ h => h) (Or.inl ⟨by rfl, ?_⟩) hHeld ?_
          rotate_left
          · (intro w hSw; (try dsimp only at hSw); unfold q8e4; go_simp <;> with_reducible rfl)
          try simp only [q8e4, Act.put, List.setIfInBounds_toArray, List.set_cons_zero, List.set_cons_succ]
          refine wpAnyH_take (i := 5) (oi := q8e5) (v := ?_) rfl (by kernel_rfl) (by kernel_rfl) (by kernel_rfl) (fun _ _ _ h => h) (Or.inl ⟨by rfl, ?_⟩) hHeld ?_
          rotate_left
          · (intro w hSw; (try dsimp only at hSw); unfold q8e5; go_simp <;> with_reducible rfl)
          try simp only [q8e5, Act.put, List.setIfInBounds_toArray, List.set_cons_zero, List.set_cons_succ]
          refine wpAnyH_take (i := 6) (oi := q8e6) (v := ?_) rfl (by kernel_rfl) (by kernel_rfl) (by kernel_rfl) (fun _ _ _ h => h) (Or.inl ⟨by rfl, ?_⟩) hHeld ?_
          rotate_left
          · (intro w hSw; (try dsimp only at hSw); unfold q8e6; go_simp <;> with_reducible rfl)
          try simp only [q8e6, Act.put, List.setIfInBounds_toArray, List.set_cons_zero, List.set_cons_succ]
          refine wpAnyH_take (i := 7) (oi := q8e7) (v := ?_) rfl (by kernel_rfl) (by kernel_rfl) (by kernel_rfl) (fun _ _ _ h => h) (Or.inl ⟨by rfl, ?_⟩) hHeld ?_
          rotate_left
          · (intro w hSw; (try dsimp only at hSw); unfold q8e7; go_simp <;> with_reducible rfl)
          try simp only [q8e7, Act.put, List.setIfInBounds_toArray, List.set_cons_zero, List.set_cons_succ]
          refine wpAnyH_take (i := 8) (oi := q8e8) (v := ?_) rfl (by kernel_rfl) (by kernel_rfl) (by kernel_rfl) (fun _ _ _ h => h) (Or.inl ⟨by rfl, ?_⟩) hHeld ?_
          rotate_left
          · (intro w hSw; (try dsimp only at hSw); unfold q8e8; go_simp <;> with_reducible rfl)
          try simp only [q8e8, Act.put, List.setIfInBounds_toArray, List.set_cons_zero, List.set_cons_succ]
          refine wpAnyH_take (i := 9) (oi := q8e9) (v := ?_) rfl (by kernel_rfl) (by kernel_rfl) (by kernel_rfl) (fun _ _ _ h => h) (Or.inl ⟨by rfl, ?_⟩) hHeld ?_
          rotate_left
          · (intro w hSw; (try dsimp only at hSw); unfold q8e9; go_simp <;> with_reducible rfl)
          try simp only [q8e9, Act.put, List.setIfInBounds_toArray, List.set_cons_zero, List.set_cons_succ]
          refine wpAnyH_take (i := 10) (oi := q8e10) (v := ?_) rfl (by kernel_rfl) (by kernel_rfl) (by kernel_rfl) (fun _ _ _ h => h) (Or.inl ⟨by rfl, ?_⟩) hHeld ?_
          rotate_left
          · (intro w hSw; (try dsimp only at hSw); unfold q8e10; go_simp <;> with_reducible rfl)
          try simp only [q8e10, Act.put, List.setIfInBounds_toArray, List.set_cons_zero, List.set_cons_succ]
          refine wpAnyH_take (i := 11) (oi := q8e11) (v := ?_) rfl (by kernel_rfl) (by kernel_rfl) (by kernel_rfl) (fun _ _ _ h => h) (Or.inl ⟨by rfl, ?_⟩) hHeld ?_
          rotate_left
          · (intro w hSw; (try dsimp only at hSw); unfold q8e11; go_simp <;> with_reducible rfl)
          try simp only [q8e11, Act.put, List.setIfInBounds_toArray, List.set_cons_zero, List.set_cons_succ]
          refine wpAnyH_take (i := 12) (oi := q8e12) (v := ?_) rfl (by kernel_rfl) (by kernel_rfl) (by kernel_rfl) (fun _ _ _ h => h) (Or.inl ⟨by rfl, ?_⟩) hHeld ?_
          rotate_left
          · (intro w hSw; (try dsimp only at hSw); unfold q8e12; go_simp <;> with_reducible rfl)
          try simp only [q8e12, Act.put, List.setIfInBounds_toArray, List.set_cons_zero, List.set_cons_succ]
          refine wpAnyH_take (i := 13) (oi := q8e13) (v := ?_) rfl (by kernel_rfl) (by kernel_rfl) (by kernel_rfl) (fun _ _ _ h => h) (Or.inl ⟨by rfl, ?_⟩) hHeld ?_
          rotate_left
          · (intro w hSw; (try dsimp only at hSw); unfold q8e13; go_simp <;> with_reducible rfl)
          try simp only [q8e13, Act.put, List.setIfInBounds_toArray, List.set_cons_zero, List.set_cons_succ]
          refine wpAnyH_take (i := 14) (oi := q8e14) (v := ?_) rfl (by kernel_rfl) (by kernel_rfl) (by kernel_rfl) (fun _ _ _ h => h) (Or.inl ⟨by rfl, ?_⟩) hHeld ?_
          rotate_left
          · (intro w hSw; (try dsimp only at hSw); unfold q8e14; go_simp <;> with_reducible rfl)
          try simp only [q8e14, Act.put, List.setIfInBounds_toArray, List.set_cons_zero, List.set_cons_succ]
          refine wpAnyH_take (i := 15) (oi := q8e15) (v := ?_) rfl (by kernel_rfl) (by kernel_rfl) (by kernel_rfl) (fun _ _ _ h => h) (Or.inl ⟨by rfl, ?_⟩) hHeld ?_
          rotate_left
          · (intro w hSw; (try dsimp only at hSw); unfold q8e15; go_simp <;> with_reducible rfl)
          try simp only [q8e15, Act.put, List.setIfInBounds_toArray, List.set_cons_zero, List.set_cons_succ]
          refine wpAnyH_ready (rs := [16, 21]) (by kernel_rfl) (by simp) ?_
          refine AllReadyH.cons (o := q8e16) rfl (fun K hK => ?_) (AllReadyH.cons (o := q8e21) rfl (fun K hK => ?_) AllReadyH.nil)
          · skip
            rw [if_pos (by rfl)]
            refine wp_bs1 _ c (by rfl) (by rfl) ?_
            intro g W16 hG16 hge16 hltg hAg
            have hBB := belowN hG16
            have hB16 := Below.trans (Below.drew (Below.refl wr.heap.size wr)) (hBB.mono (Below.drew (Below.refl wr.heap.size wr)).size)
            clear hBB
            refine hK.out _ _ (HS.out _ hB16) (fun hHeld => ?_)
            clear hK K
            try simp only [q8e16, Act.put, List.setIfInBounds_toArray, List.set_cons_zero, List.set_cons_succ]
            refine wpAnyH_ready (rs := [17, 21]) (by kernel_rfl) (by simp) ?_
            refine AllReadyH.cons (o := q8e17) rfl (fun K hK => ?_) (AllReadyH.cons (o := q8e21) rfl (fun K hK => ?_) AllReadyH.nil)
            · skip
              rw [if_pos (by rfl)]
              unfold q8e17
              go_simp
              (with_reducible refine (HWC.out _ g hB16 hAg hltg).mono ?_)
              rintro e W17 ⟨u, rfl, hu, hBB⟩
              have hB17 := Below.trans hB16 (hBB.mono hB16.size)
              clear hBB hAg hltg
              obtain ⟨sz, cz, az, qz, rfl, -⟩ := hu.parts HZ1.out HZ2.out HZ3.out HZ4.out
              go_wp2_with fail
              refine hK.out _ _ (HS.out _ hB17) (fun hHeld => ?_)
              clear hK K
              try simp only [q8e17, Act.put, List.setIfInBounds_toArray, List.set_cons_zero, List.set_cons_succ]
              refine wpAnyH_take (i := 18) (oi := q8e18) (v := ?_) rfl (by kernel_rfl) (by kernel_rfl) (by kernel_rfl) (fun _ _ _ h => h) (Or.inl ⟨by rfl, ?_⟩) hHeld ?_
              rotate_left
              · (intro w hSw; (try dsimp only at hSw); unfold q8e18; go_simp <;> with_reducible rfl)
              try simp only [q8e18, Act.put, List.setIfInBounds_toArray, List.set_cons_zero, List.set_cons_succ]
              refine wpAnyH_take (i := 19) (oi := q8e19) (v := ?_) rfl (by kernel_rfl) (by kernel_rfl) (by kernel_rfl) (fun _ _ _ h => h) (Or.inl ⟨by rfl, ?_⟩) hHeld ?_
              rotate_left
              · (intro w hSw; (try dsimp only at hSw); unfold q8e19; go_simp <;> with_reducible rfl)
              try simp only [q8e19, Act.put, List.setIfInBounds_toArray, List.set_cons_zero, List.set_cons_succ]
              refine wpAnyH_take (i := 20) (oi := q8e20) (v := ?_) rfl (by kernel_rfl) (by kernel_rfl) (by kernel_rfl) (fun _ _ _ h => h) (Or.inl ⟨by rfl, ?_⟩) hHeld ?_
              rotate_left
              · (intro w hSw; (try dsimp only at hSw); unfold q8e20; go_simp <;> with_reducible rfl)
              try simp only [q8e20, Act.put, List.setIfInBounds_toArray, List.set_cons_zero, List.set_cons_succ]
              refine wpAnyH_ready (rs := [21]) (by kernel_rfl) (by simp) ?_
              refine AllReadyH.cons (o := q8e21) rfl (fun K hK => ?_) AllReadyH.nil
              rw [if_pos (by rfl)]
              refine wp_alloc25t (by rfl) ?_
              intro b10 W21 hG21 hge21 hlt10 hA10 ht10
              have hBB := belowN hG21
              have hu := hu.next hBB
              have hB21 := Below.trans hB17 (hBB.mono hB17.size)
              have le10 : wr.heap.size ≤ b10 := Nat.le_trans hB17.size hge21
              clear hBB
              refine hK.out _ _ (HS.out _ hB21) (fun hHeld => ?_)
              clear hK K
              try simp only [q8e21, Act.put, List.setIfInBounds_toArray, List.set_cons_zero, List.set_cons_succ]
              refine wpAnyH_ready (rs := [22]) (by kernel_rfl) (by simp) ?_
              refine AllReadyH.cons (o := q8e22) rfl (fun K hK => ?_) AllReadyH.nil
              rw [if_pos (by rfl)]
              refine wp_st25t (.tmp 13) (.tmp 113) (by rfl) b10 _ _ _ _ _ (by rfl) (by rfl) hA10 rfl ht10 rfl ?_
              intro Wz hGz hAz htz
              have hbz := (show Boxed _ b10 none 0 0 none 0 0 0 false Dk.zero from ⟨hlt10, hA10, zero_at _ _, ht10⟩).store hGz hAz htz hu HZF.out
              have hBz := below_grow hB21 hGz (fun q e => by cases e; exact le10) hB21.size
              refine hK.out _ _ (HS.out _ hBz) (fun hHeld => ?_)
              clear hK K
              try simp only [q8e22, Act.put]
              refine wpAnyH_ready (rs := [23]) (by kernel_rfl) (by simp) ?_
              refine AllReadyH.cons (o := q8e23) rfl (fun K hK => ?_) AllReadyH.nil
              rw [if_pos (by rfl)]
              unfold q8e23
              go_simp
              refine hK.out _ _ hHeld (fun hHeld => ?_)
              clear hK K
              try simp only [q8e23, Act.put, List.setIfInBounds_toArray, List.set_cons_zero, List.set_cons_succ]
              refine wpAnyH_done (by kernel_rfl) ?_ _
              refine hM3 _ _ ?_
              go_meet
              exact ⟨b10, rfl, rfl, ⟨_, _, _, _, _, _, _, _, hbz⟩, hBz, le10⟩
            · skip
              rw [if_pos (by rfl)]
              refine wp_alloc25t (by rfl) ?_
              intro b10 W21 hG21 hge21 hlt10 hA10 ht10
              have hBB := belowN hG21
              have hAg := hAg.below hBB hltg
              have hltg := Nat.lt_of_lt_of_le hltg hBB.size
              have hB21 := Below.trans hB16 (hBB.mono hB16.size)
              have le10 : wr.heap.size ≤ b10 := Nat.le_trans hB16.size hge21
              clear hBB
              refine hK.out _ _ (HS.out _ hB21) (fun hHeld => ?_)
              clear hK K
              try simp only [q8e21, Act.put, List.setIfInBounds_toArray, List.set_cons_zero, List.set_cons_succ]
              refine wpAnyH_ready (rs := [17]) (by kernel_rfl) (by simp) ?_
              refine AllReadyH.cons (o := q8e17) rfl (fun K hK => ?_) AllReadyH.nil
              rw [if_pos (by rfl)]
              unfold q8e17
              go_simp
              (with_reducible refine (HWC.out _ g hB21 hAg hltg).mono ?_)
              rintro e W17 ⟨u, rfl, hu, hBB⟩
              have hA10 := hA10.below hBB hlt10
              have ht10 : ∀ i, 4 ≤ i → W17.cell? ⟨b10, i, none⟩ = none := fun i hi => (hBB.cell (p := ⟨b10, i, none⟩) hlt10).trans (ht10 i hi)
              have hlt10 := Nat.lt_of_lt_of_le hlt10 hBB.size
              have hB17 := Below.trans hB21 (hBB.mono hB21.size)
              clear hBB hAg hltg
              obtain ⟨sz, cz, az, qz, rfl, -⟩ := hu.parts HZ1.out HZ2.out HZ3.out HZ4.out
              go_wp2_with fail
              refine hK.out _ _ (HS.out _ hB17) (fun hHeld => ?_)
              clear hK K
              try simp only [q8e17, Act.put, List.setIfInBounds_toArray, List.set_cons_zero, List.set_cons_succ]
              refine wpAnyH_take (i := 18) (oi := q8e18) (v := ?_) rfl (by kernel_rfl) (by kernel_rfl) (by kernel_rfl) (fun _ _ _ h => h) (Or.inl ⟨by rfl, ?_⟩) hHeld ?_
              rotate_left
              · (intro w hSw; (try dsimp only at hSw); unfold q8e18; go_simp <;> with_reducible rfl)
              try simp only [q8e18, Act.put, List.setIfInBounds_toArray, List.set_cons_zero, List.set_cons_succ]
              refine wpAnyH_take (i := 19) (oi := q8e19) (v := ?_) rfl (by kernel_rfl) (by kernel_rfl) (by kernel_rfl) (fun _ _ _ h => h) (Or.inl ⟨by rfl, ?_⟩) hHeld ?_
              rotate_left
              · (intro w hSw; (try dsimp only at hSw); unfold q8e19; go_simp <;> with_reducible rfl)
              try simp only [q8e19, Act.put, List.setIfInBounds_toArray, List.set_cons_zero, List.set_cons_succ]
              refine wpAnyH_take (i := 20) (oi := q8e20) (v := ?_) rfl (by kernel_rfl) (by kernel_rfl) (by kernel_rfl) (fun _ _ _ h => h) (Or.inl ⟨by rfl, ?_⟩) hHeld ?_
              rotate_left
              · (intro w hSw; (try dsimp only at hSw); unfold q8e20; go_simp <;> with_reducible rfl)
              try simp only [q8e20, Act.put, List.setIfInBounds_toArray, List.set_cons_zero, List.set_cons_succ]
              refine wpAnyH_ready (rs := [22]) (by kernel_rfl) (by simp) ?_
              refine AllReadyH.cons (o := q8e22) rfl (fun K hK => ?_) AllReadyH.nil
              rw [if_pos (by rfl)]
              refine wp_st25t (.tmp 13) (.tmp 113) (by rfl) b10 _ _ _ _ _ (by rfl) (by rfl) hA10 rfl ht10 rfl ?_
              intro Wz hGz hAz htz
              have hbz := (show Boxed _ b10 none 0 0 none 0 0 0 false Dk.zero from ⟨hlt10, hA10, zero_at _ _, ht10⟩).store hGz hAz htz hu HZF.out
              have hBz := below_grow hB17 hGz (fun q e => by cases e; exact le10) hB17.size
              refine hK.out _ _ (HS.out _ hBz) (fun hHeld => ?_)
              clear hK K
              try simp only [q8e22, Act.put]
              refine wpAnyH_ready (rs := [23]) (by kernel_rfl) (by simp) ?_
              refine AllReadyH.cons (o := q8e23) rfl (fun K hK => ?_) AllReadyH.nil
              rw [if_pos (by rfl)]
              unfold q8e23
              go_simp
              refine hK.out _ _ hHeld (fun hHeld => ?_)
              clear hK K
              try simp only [q8e23, Act.put, List.setIfInBounds_toArray, List.set_cons_zero, List.set_cons_succ]
              refine wpAnyH_done (by kernel_rfl) ?_ _
              refine hM3 _ _ ?_
              go_meet
              exact ⟨b10, rfl, rfl, ⟨_, _, _, _, _, _, _, _, hbz⟩, hBz, le10⟩
          · skip
            rw [if_pos (by rfl)]
            refine wp_alloc25t (by rfl) ?_
            intro b10 W21 hG21 hge21 hlt10 hA10 ht10
            have hBB := belowN hG21
            have hB21 := Below.trans (Below.drew (Below.refl wr.heap.size wr)) (hBB.mono (Below.drew (Below.refl wr.heap.size wr)).size)
            have le10 : wr.heap.size ≤ b10 := Nat.le_trans (Below.drew (Below.refl wr.heap.size wr)).size hge21
            clear hBB
            refine hK.out _ _ (HS.out _ hB21) (fun hHeld => ?_)
            clear hK K
            try simp only [q8e21, Act.put, List.setIfInBounds_toArray, List.set_cons_zero, List.set_cons_succ]
            refine wpAnyH_ready (rs := [16]) (by kernel_rfl) (by simp) ?_
            refine AllReadyH.cons (o := q8e16) rfl (fun K hK => ?_) AllReadyH.nil
            rw [if_pos (by rfl)]
            refine wp_bs1 _ c (by rfl) (by rfl) ?_
            intro g W16 hG16 hge16 hltg hAg
            have hBB := belowN hG16
            have hA10 := hA10.below hBB hlt10
            have ht10 : ∀ i, 4 ≤ i → W16.cell? ⟨b10, i, none⟩ = none := fun i hi => (hBB.cell (p := ⟨b10, i, none⟩) hlt10).trans (ht10 i hi)
            have hlt10 := Nat.lt_of_lt_of_le hlt10 hBB.size
            have hB16 := Below.trans hB21 (hBB.mono hB21.size)
            clear hBB
            refine hK.out _ _ (HS.out _ hB16) (fun hHeld => ?_)
            clear hK K
            try simp only [q8e16, Act.put, List.setIfInBounds_toArray, List.set_cons_zero, List.set_cons_succ]
            refine wpAnyH_ready (rs := [17]) (by kernel_rfl) (by simp) ?_
            refine AllReadyH.cons (o := q8e17) rfl (fun K hK => ?_) AllReadyH.nil
            rw [if_pos (by rfl)]
            unfold q8e17
            go_simp
            (with_reducible refine (HWC.out _ g hB16 hAg hltg).mono ?_)
            rintro e W17 ⟨u, rfl, hu, hBB⟩
            have hA10 := hA10.below hBB hlt10
            have ht10 : ∀ i, 4 ≤ i → W17.cell? ⟨b10, i, none⟩ = none := fun i hi => (hBB.cell (p := ⟨b10, i, none⟩) hlt10).trans (ht10 i hi)
            have hlt10 := Nat.lt_of_lt_of_le hlt10 hBB.size
            have hB17 := Below.trans hB16 (hBB.mono hB16.size)
            clear hBB hAg hltg
            obtain ⟨sz, cz, az, qz, rfl, -⟩ := hu.parts HZ1.out HZ2.out HZ3.out HZ4.out
            go_wp2_with fail
            refine hK.out _ _ (HS.out _ hB17) (fun hHeld => ?_)
            clear hK K
            try simp only [q8e17, Act.put, List.setIfInBounds_toArray, List.set_cons_zero, List.set_cons_succ]
            refine wpAnyH_take (i := 18) (oi := q8e18) (v := ?_) rfl (by kernel_rfl) (by kernel_rfl) (by kernel_rfl) (fun _ _ _ h => h) (Or.inl ⟨by rfl, ?_⟩) hHeld ?_
            rotate_left
            · (intro w hSw; (try dsimp only at hSw); unfold q8e18; go_simp <;> with_reducible rfl)
            try simp only [q8e18, Act.put, List.setIfInBounds_toArray, List.set_cons_zero, List.set_cons_succ]
            refine wpAnyH_take (i := 19) (oi := q8e19) (v := ?_) rfl (by kernel_rfl) (by kernel_rfl) (by kernel_rfl) (fun _ _ _ h => h) (Or.inl ⟨by rfl, ?_⟩) hHeld ?_
            rotate_left
            · (intro w hSw; (try dsimp only at hSw); unfold q8e19; go_simp <;> with_reducible rfl)
            try simp only [q8e19, Act.put, List.setIfInBounds_toArray, List.set_cons_zero, List.set_cons_succ]
            refine wpAnyH_take (i := 20) (oi := q8e20) (v := ?_) rfl (by kernel_rfl) (by kernel_rfl) (by kernel_rfl) (fun _ _ _ h => h) (Or.inl ⟨by rfl, ?_⟩) hHeld ?_
            rotate_left
            · (intro w hSw; (try dsimp only at hSw); unfold q8e20; go_simp <;> with_reducible rfl)
            try simp only [q8e20, Act.put, List.setIfInBounds_toArray, List.set_cons_zero, List.set_cons_succ]
            refine wpAnyH_ready (rs := [22]) (by kernel_rfl) (by simp) ?_
            refine AllReadyH.cons (o := q8e22) rfl (fun K hK => ?_) AllReadyH.nil
            rw [if_pos (by rfl)]
            refine wp_st25t (.tmp 13) (.tmp 113) (by rfl) b10 _ _ _ _ _ (by rfl) (by rfl) hA10 rfl ht10 rfl ?_
            intro Wz hGz hAz htz
            have hbz := (show Boxed _ b10 none 0 0 none 0 0 0 false Dk.zero from ⟨hlt10, hA10, zero_at _ _, ht10⟩).store hGz hAz htz hu HZF.out
            have hBz := below_grow hB17 hGz (fun q e => by cases e; exact le10) hB17.size
            refine hK.out _ _ (HS.out _ hBz) (fun hHeld => ?_)
            clear hK K
            try simp only [q8e22, Act.put]
            refine wpAnyH_ready (rs := [23]) (by kernel_rfl) (by simp) ?_
            refine AllReadyH.cons (o := q8e23) rfl (fun K hK => ?_) AllReadyH.nil
            rw [if_pos (by rfl)]
            unfold q8e23
            go_simp
            refine hK.out _ _ hHeld (fun hHeld => ?_)
            clear hK K
            try simp only [q8e23, Act.put, List.setIfInBounds_toArray, List.set_cons_zero, List.set_cons_succ]
            refine wpAnyH_done (by kernel_rfl) ?_ _
            refine hM3 _ _ ?_
            go_meet
            exact ⟨b10, rfl, rfl, ⟨_, _, _, _, _, _, _, _, hbz⟩, hBz, le10⟩
        case rest =>
          obtain ⟨b10, rfl, rfl, ⟨s2, k2, c2, a2, p2, q2, l2', t2, hz⟩, hBz, le10⟩ := hcut
          obtain ⟨z0, z1, z2, z3⟩ := hz.four
          have HTN := Lib.hid (HT.out.next hBz)
          have HB6 := Lib.hid (HBX.out.next hBz)
          have HU := Lib.hid hz.dk
          clear hz hBz
          go_wp2_with (refine store_box rfl (.tmp 6) (.tmp 117) rfl HB6.out (by rfl) (by rfl) HU.out HZF.out ?_; intro W9 hG9 hx9)
          go_roundw
          case rel => exact ⟨m + 1, by go_num, by omega, by rw [HZZ.out]; exact HTN.out.store6 hG9 ⟨_, _, _, _, _, _, _, _, hx9⟩ h6w h06 hne HDF.out HXF.out⟩
          case measure => simp [intOf]; omega
      · obtain rfl : m = n := by omega
        rw [List.take_of_length_le (by rw [HWL.out]; omega)] at hT
        have hYr : (pd d.sec (wrs k l) left).runs = true := runs_of (pd_ok (s := d.sec) (p := wrs k l) (L := left) ⟨by rw [HK.out]; exact l1, by rw [HK.out]; exact l2⟩ (by rw [HWL.out]; omega) HLS.out (by rw [HK.out]; exact HWO.out) ⟨l4, l5⟩) rfl
        have hXF := sync_full hYr
        have h23 := fun W v h => sync_any W (pd d.sec (wrs k l) left) v h
        rw [HALL.out] at hXF h23
        simp only at hXF h23
        have HXF := Lib.hid hXF
        have H23 := Lib.hid h23
        obtain ⟨sx, kx, cx, ax, px, qx, lx, tx, hbx⟩ := hT.b6
        obtain ⟨z0, z1, z2, z3⟩ := hbx.four
        obtain ⟨ku, hu1⟩ : ∃ x, X.sec.length = x := ⟨_, rfl⟩
        obtain ⟨pu, hu2⟩ : ∃ x, X.pen.length = x := ⟨_, rfl⟩
        obtain ⟨lu, hu3⟩ : ∃ x, X.left = x := ⟨_, rfl⟩
        obtain ⟨tu, hu4⟩ : ∃ x, X.stop = x := ⟨_, rfl⟩
        have HU1 := Lib.hid hu1
        have HU2 := Lib.hid hu2
        have HU3 := Lib.hid hu3
        have HU4 := Lib.hid hu4
        have HT := Lib.hid hT
        have HBX := Lib.hid hbx
        have dE : (E == E) = true := by simp
        have dlt : decide ((m : Int) < (m : Int)) = false := by simp
        clear hYr hXF h23 hbx hT hu1 hu2 hu3 hu4 hokm hlt
        go_wp2_with fail
        refine (H23.out _ _ HBX.out.dk).mono ?_
        rintro e W6 ⟨u, rfl, hu, hB6⟩
        obtain ⟨su, cu, au, qu, rfl, -⟩ := hu.parts HU1.out HU2.out HU3.out HU4.out
        have HTN := Lib.hid (HT.out.next hB6)
        have HB6 := Lib.hid (HBX.out.next hB6)
        have HU := Lib.hid hu
        clear hu hB6 z0 z1 z2 z3
        go_wp2_with (refine store_box rfl (.tmp 6) (.tmp 121) rfl HB6.out (by rfl) (by rfl) HU.out HXF.out ?_; intro W9 hG9 hx9; have hT9 := HTN.out.store6 hG9 ⟨_, _, _, _, _, _, _, _, hx9⟩ h6w h06 hne HDF.out HXF.out; obtain ⟨s9, k9, c9, a9, p9, q9, l9, t9, hb5⟩ := hT9.b5; obtain ⟨y0, y1, y2, y3⟩ := hx9.four; obtain ⟨x0, x1, x2, x3⟩ := hb5.four)
        refine (same_any _ X X _ _ hb5.dk hx9.dk).mono ?_
        rw [Dk.same_refl]
        rintro e W10 ⟨rfl, hB10⟩
        have hfin := Lib.hid (Below.andthen hT9.bel hB10)
        clear x0 x1 x2 x3 y0 y1 y2 y3 hB10 hT9 hb5 hx9 hG9
        go_wp2
        go_ret
        exact ⟨rfl, hfin.out⟩

set_option maxRecDepth 100000 in
theorem diskTogether_lifted (os : Os) (started : os.Started) (H : Type) (enc : TypeId × Value → H) :
    ReturnsInHanded {} Try.checked os 8 .any (Rows.diskTogetherSpec.pre6 enc Try.prog Try.f8 Rows.diskTogetherRow.domain false) (Rows.diskTogetherSpec.post enc Try.prog Try.f8 false true false false) := by
  refine returnsInHanded_of_change (C := Try.checked) Try.own started (by kernel_rfl) Try.func8
    (ChangeSpec.witness6 (enc := enc) (C := Try.checked) false ⟨#[], #[.agg #[.slice none 0 0, .slice none 0 0, .int .i64 0, .bool false], .slice none 0 0], []⟩ 8 (by kernel_rfl) (by kernel_rfl) (by kernel_rfl) (by kernel_rfl)) ?_
  intro W base args ds gs before hval0 hW _ _
  have hval : ∀ (j : Nat) t v, Try.f8.params[j]? = some t → args[j]? = some v → Value.okWide Try.prog W .any base t v := hval0
  have hW' := hW
  obtain ⟨p, q, hA0, hV, rfl, _, _⟩ := hW
  have hA : DataW.TrodAll enc Try.prog W 0 (fun _ => true) true Try.f8.params.toList args.toList ds p := hA0
  rw [Try.params8] at hA hval
  obtain ⟨v0, v1, d0, d1, p0, p1, rfl, rfl, rfl, h0, h1⟩ := trodAll_two hA
  obtain ⟨rfl, rfl⟩ := trodVars_none hV
  obtain ⟨x0, hx0⟩ := open_disk (hval 0 25 v0 rfl rfl) h0
  obtain ⟨x1, hx1⟩ := open_acts (hval 1 43 v1 rfl rfl) h1
  clear hA0 hval0
  simp only [List.append_nil] at hW'
  have hlt : ∀ x ∈ p0 ++ p1, x.block < W.heap.size := fun x hx => by simpa using hW'.lt x hx
  refine (lawTogether W x0 v0 v1 x1 hx0 hx1).mono fun e W' ⟨he, hnx⟩ => ?_
  subst he
  exact ⟨_, rfl, _, _, _, [], _, [], hW', trodAll_mk1 (shut_bool Try.underlying4 _), trodAll_mk2 (Below.trod Try.laidOut (by kernel_rfl) (of_decide_eq_true (by kernel_rfl)) h0 hnx fun x hx => hlt x (by simp only [List.mem_append]; simp only [hx, true_or])) (Below.trod Try.laidOut (by kernel_rfl) (of_decide_eq_true (by kernel_rfl)) h1 hnx fun x hx => hlt x (by simp only [List.mem_append]; simp only [hx, or_true])), rfl, hnx.frame _, fun h => by cases h⟩

/-- DiskTogether holds. -/
theorem diskTogether_holds : Rows.DiskTogetherSaid :=
  OpenClaim.holds_of_wide 8 Try.f8 rfl rfl rfl rfl rfl rfl rfl ⟨rfl, rfl, rfl, rfl, rfl⟩ rfl rfl rfl rfl rfl (by kernel_rfl) Try.func8 (by kernel_rfl)
    (of_decide_eq_true (by kernel_rfl)) (by unfold Func.isWrapper; first | (rw [if_pos (by decide +kernel)]; kernel_rfl) | (rw [if_neg (by decide +kernel)]; exact ⟨rfl, rfl⟩))
    (fun os started H enc _ => diskTogether_lifted os started H enc)

end Go.Proofs.Ytmklchjgiaomkaa
