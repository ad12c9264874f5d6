/- For every script and number DiskHistory answers true and leaves its arguments as they were. No condition but the row's own. -/
import Derived.Test.YtmklchjgiaomkaaSnw
import Derived.Test.YtmklchjgiaomkaaLhp
import Derived.Deep.CutRange
namespace Go.Proofs.Ytmklchjgiaomkaa
open Go.RowKit Go.ChangeShapes Go.WideShapes Go.ChangeAt

theorem four_list {L : List UInt8} (h : L.length = 4) : ∃ l0 l1 l2 l3, L = [l0, l1, l2, l3] := by
  match L, h with
  | [l0, l1, l2, l3], _ => exact ⟨_, _, _, _, rfl⟩
def q6z0 : Oper := { dst := some 158, op := Go.Op.load 25 (Go.Operand.tmp 5), type := 25, pos := "law.go:148", after := #[], guard := none }
def q6z1 : Oper := { dst := some 159, op := Go.Op.call { callee := Go.Callee.value (Go.Operand.func 17), args := #[Go.Operand.tmp 158], argTypes := #[25] }, type := 25, pos := "law.go:148", after := #[{ on := 0, ground := Go.Ground.data }], guard := none }
def q6z2 : Oper := { dst := some 160, op := Go.Op.load 44 (Go.Operand.tmp 9), type := 44, pos := "law.go:148", after := #[], guard := none }
def q6z3 : Oper := { dst := some 161, op := Go.Op.load 44 (Go.Operand.tmp 10), type := 44, pos := "law.go:148", after := #[], guard := none }
def q6z4 : Oper := { dst := some 162, op := Go.Op.call { callee := Go.Callee.value (Go.Operand.func 28), args := #[Go.Operand.tmp 159, Go.Operand.tmp 160, Go.Operand.tmp 161], argTypes := #[25, 44, 44] }, type := 4, pos := "law.go:148", after := #[{ on := 1, ground := Go.Ground.data }, { on := 2, ground := Go.Ground.data }, { on := 3, ground := Go.Ground.data }, { on := 1, ground := Go.Ground.chain }], guard := none }
def q6z5 : Oper := { dst := some 4, op := Go.Op.assign (Go.Operand.tmp 162), type := 4, pos := "law.go:148", after := #[{ on := 4, ground := Go.Ground.data }, { on := 4, ground := Go.Ground.chain }, { on := 0, ground := Go.Ground.phase }, { on := 1, ground := Go.Ground.phase }, { on := 2, ground := Go.Ground.phase }, { on := 3, ground := Go.Ground.phase }, { on := 4, ground := Go.Ground.phase }], guard := none }
def q6w0 : Oper := { dst := some 60, op := Go.Op.load 25 (Go.Operand.tmp 5), type := 25, pos := "law.go:118", after := #[], guard := none }
def q6w1 : Oper := { dst := some 61, op := Go.Op.fieldAddr 46 (Go.Operand.tmp 14) 1, type := 0, pos := "law.go:118", after := #[], guard := none }
def q6w2 : Oper := { dst := some 62, op := Go.Op.load 5 (Go.Operand.tmp 61), type := 5, pos := "law.go:118", after := #[{ on := 1, ground := Go.Ground.data }], guard := none }
def q6w3 : Oper := { dst := some 63, op := Go.Op.binOp Go.BinOp.rem 5 (Go.Operand.tmp 62) (Go.Operand.const (Go.Value.int Go.IntKind.u8 4)) 5, type := 5, pos := "law.go:118", after := #[{ on := 2, ground := Go.Ground.data }], guard := none }
def q6w4 : Oper := { dst := some 64, op := Go.Op.convert 5 3 (Go.Operand.tmp 63), type := 3, pos := "law.go:118", after := #[{ on := 3, ground := Go.Ground.data }], guard := none }
def q6w5 : Oper := { dst := some 65, op := Go.Op.fieldAddr 46 (Go.Operand.tmp 14) 2, type := 0, pos := "law.go:118", after := #[], guard := none }
def q6w6 : Oper := { dst := some 66, op := Go.Op.load 5 (Go.Operand.tmp 65), type := 5, pos := "law.go:118", after := #[{ on := 5, ground := Go.Ground.data }], guard := none }
def q6w7 : Oper := { dst := some 67, op := Go.Op.call { callee := Go.Callee.value (Go.Operand.func 27), args := #[Go.Operand.tmp 66], argTypes := #[5] }, type := 35, pos := "law.go:118", after := #[{ on := 6, ground := Go.Ground.data }], guard := none }
def q6w8 : Oper := { dst := some 68, op := Go.Op.call { callee := Go.Callee.value (Go.Operand.func 19), args := #[Go.Operand.tmp 60, Go.Operand.tmp 64, Go.Operand.tmp 67], argTypes := #[25, 3, 35] }, type := 29, pos := "law.go:118", after := #[{ on := 0, ground := Go.Ground.data }, { on := 4, ground := Go.Ground.data }, { on := 7, ground := Go.Ground.data }, { on := 7, ground := Go.Ground.chain }], guard := none }
def q6w9 : Oper := { dst := some 59, op := Go.Op.move (Go.Operand.tmp 68), type := 29, pos := "law.go:118", after := #[{ on := 8, ground := Go.Ground.data }], guard := none }
def q6w10 : Oper := { dst := some 69, op := Go.Op.extract (Go.Operand.tmp 59) 0, type := 25, pos := "law.go:118", after := #[{ on := 9, ground := Go.Ground.data }], guard := none }
def q6w11 : Oper := { dst := some 70, op := Go.Op.extract (Go.Operand.tmp 59) 1, type := 28, pos := "law.go:118", after := #[{ on := 9, ground := Go.Ground.data }, { on := 13, ground := Go.Ground.gcOnly Go.Departure.lateStores }], guard := none }
def q6w12 : Oper := { dst := some 15, op := Go.Op.alloc 25, type := 0, pos := "law.go:118", after := #[], guard := none }
def q6w13 : Oper := { dst := none, op := Go.Op.store 25 (Go.Operand.tmp 15) (Go.Operand.tmp 69), type := 0, pos := "law.go:118", after := #[{ on := 12, ground := Go.Ground.data }, { on := 10, ground := Go.Ground.data }, { on := 8, ground := Go.Ground.chain }, { on := 0, ground := Go.Ground.phase }, { on := 1, ground := Go.Ground.phase }, { on := 2, ground := Go.Ground.phase }, { on := 3, ground := Go.Ground.phase }, { on := 4, ground := Go.Ground.phase }, { on := 5, ground := Go.Ground.phase }, { on := 6, ground := Go.Ground.phase }, { on := 7, ground := Go.Ground.phase }, { on := 8, ground := Go.Ground.phase }, { on := 9, ground := Go.Ground.phase }, { on := 10, ground := Go.Ground.phase }, { on := 11, ground := Go.Ground.textOnly Go.Departure.lateStores }, { on := 12, ground := Go.Ground.phase }], guard := none }
def q6w14 : Oper := { dst := some 16, op := Go.Op.assign (Go.Operand.tmp 70), type := 28, pos := "law.go:118", after := #[{ on := 11, ground := Go.Ground.data }, { on := 13, ground := Go.Ground.chain }, { on := 0, ground := Go.Ground.phase }, { on := 1, ground := Go.Ground.phase }, { on := 2, ground := Go.Ground.phase }, { on := 3, ground := Go.Ground.phase }, { on := 4, ground := Go.Ground.phase }, { on := 5, ground := Go.Ground.phase }, { on := 6, ground := Go.Ground.phase }, { on := 7, ground := Go.Ground.phase }, { on := 8, ground := Go.Ground.phase }, { on := 9, ground := Go.Ground.phase }, { on := 10, ground := Go.Ground.phase }, { on := 11, ground := Go.Ground.phase }, { on := 12, ground := Go.Ground.phase }, { on := 13, ground := Go.Ground.phase }], guard := none }
theorem belowN {W W' : World} (h : W.grownBy W' none) : Below W.heap.size W W' := ⟨h.os, h.tape, h.output, h.size, fun i hi => h.block i hi (by simp)⟩
def q6f0 : Oper := { dst := some 104, op := Go.Op.move (Go.Operand.tmp 11), type := 43, pos := "law.go:129", after := #[], guard := none }
def q6f1 : Oper := { dst := some 105, op := Go.Op.move (Go.Operand.tmp 20), type := 3, pos := "law.go:129", after := #[], guard := none }
def q6f2 : Oper := { dst := some 106, op := Go.Op.indexAddr 43 (Go.Operand.tmp 104) (Go.Operand.tmp 105), type := 0, pos := "law.go:129", after := #[{ on := 0, ground := Go.Ground.data }, { on := 1, ground := Go.Ground.data }], guard := none }
def q6f3 : Oper := { dst := some 107, op := Go.Op.fieldAddr 46 (Go.Operand.tmp 106) 1, type := 0, pos := "law.go:129", after := #[{ on := 2, ground := Go.Ground.data }], guard := none }
def q6f4 : Oper := { dst := some 108, op := Go.Op.load 5 (Go.Operand.tmp 107), type := 5, pos := "law.go:129", after := #[{ on := 3, ground := Go.Ground.data }], guard := none }
def q6f5 : Oper := { dst := some 109, op := Go.Op.binOp Go.BinOp.rem 5 (Go.Operand.tmp 108) (Go.Operand.const (Go.Value.int Go.IntKind.u8 4)) 5, type := 5, pos := "law.go:129", after := #[{ on := 4, ground := Go.Ground.data }], guard := none }
def q6f6 : Oper := { dst := some 110, op := Go.Op.move (Go.Operand.tmp 11), type := 43, pos := "law.go:129", after := #[], guard := none }
def q6f7 : Oper := { dst := some 111, op := Go.Op.move (Go.Operand.tmp 20), type := 3, pos := "law.go:129", after := #[], guard := none }
def q6f8 : Oper := { dst := some 112, op := Go.Op.indexAddr 43 (Go.Operand.tmp 110) (Go.Operand.tmp 111), type := 0, pos := "law.go:129", after := #[{ on := 6, ground := Go.Ground.data }, { on := 7, ground := Go.Ground.data }], guard := none }
def q6f9 : Oper := { dst := some 113, op := Go.Op.fieldAddr 46 (Go.Operand.tmp 112) 2, type := 0, pos := "law.go:129", after := #[{ on := 8, ground := Go.Ground.data }], guard := none }
def q6f10 : Oper := { dst := some 114, op := Go.Op.load 5 (Go.Operand.tmp 113), type := 5, pos := "law.go:129", after := #[{ on := 9, ground := Go.Ground.data }], guard := none }
def q6f11 : Oper := { dst := some 115, op := Go.Op.indexAddr 44 (Go.Operand.tmp 9) (Go.Operand.tmp 109), type := 0, pos := "law.go:129", after := #[{ on := 5, ground := Go.Ground.data }, { on := 0, ground := Go.Ground.phase }, { on := 1, ground := Go.Ground.phase }, { on := 2, ground := Go.Ground.phase }, { on := 3, ground := Go.Ground.phase }, { on := 4, ground := Go.Ground.phase }, { on := 5, ground := Go.Ground.phase }, { on := 6, ground := Go.Ground.phase }, { on := 7, ground := Go.Ground.phase }, { on := 8, ground := Go.Ground.phase }, { on := 9, ground := Go.Ground.phase }, { on := 10, ground := Go.Ground.phase }], guard := none }
def q6f12 : Oper := { dst := none, op := Go.Op.store 5 (Go.Operand.tmp 115) (Go.Operand.tmp 114), type := 0, pos := "law.go:129", after := #[{ on := 11, ground := Go.Ground.data }, { on := 10, ground := Go.Ground.data }, { on := 0, ground := Go.Ground.phase }, { on := 1, ground := Go.Ground.phase }, { on := 2, ground := Go.Ground.phase }, { on := 3, ground := Go.Ground.phase }, { on := 4, ground := Go.Ground.phase }, { on := 5, ground := Go.Ground.phase }, { on := 6, ground := Go.Ground.phase }, { on := 7, ground := Go.Ground.phase }, { on := 8, ground := Go.Ground.phase }, { on := 9, ground := Go.Ground.phase }, { on := 10, ground := Go.Ground.phase }], guard := none }
def q6s0 : Oper := { dst := some 119, op := Go.Op.move (Go.Operand.tmp 11), type := 43, pos := "law.go:131", after := #[], guard := none }
def q6s1 : Oper := { dst := some 120, op := Go.Op.move (Go.Operand.tmp 20), type := 3, pos := "law.go:131", after := #[], guard := none }
def q6s2 : Oper := { dst := some 121, op := Go.Op.indexAddr 43 (Go.Operand.tmp 119) (Go.Operand.tmp 120), type := 0, pos := "law.go:131", after := #[{ on := 0, ground := Go.Ground.data }, { on := 1, ground := Go.Ground.data }], guard := none }
def q6s3 : Oper := { dst := some 122, op := Go.Op.fieldAddr 46 (Go.Operand.tmp 121) 1, type := 0, pos := "law.go:131", after := #[{ on := 2, ground := Go.Ground.data }], guard := none }
def q6s4 : Oper := { dst := some 123, op := Go.Op.load 5 (Go.Operand.tmp 122), type := 5, pos := "law.go:131", after := #[{ on := 3, ground := Go.Ground.data }], guard := none }
def q6s5 : Oper := { dst := some 124, op := Go.Op.binOp Go.BinOp.rem 5 (Go.Operand.tmp 123) (Go.Operand.const (Go.Value.int Go.IntKind.u8 4)) 5, type := 5, pos := "law.go:131", after := #[{ on := 4, ground := Go.Ground.data }], guard := none }
def q6s6 : Oper := { dst := some 125, op := Go.Op.move (Go.Operand.tmp 11), type := 43, pos := "law.go:131", after := #[], guard := none }
def q6s7 : Oper := { dst := some 126, op := Go.Op.move (Go.Operand.tmp 20), type := 3, pos := "law.go:131", after := #[], guard := none }
def q6s8 : Oper := { dst := some 127, op := Go.Op.indexAddr 43 (Go.Operand.tmp 125) (Go.Operand.tmp 126), type := 0, pos := "law.go:131", after := #[{ on := 6, ground := Go.Ground.data }, { on := 7, ground := Go.Ground.data }], guard := none }
def q6s9 : Oper := { dst := some 128, op := Go.Op.fieldAddr 46 (Go.Operand.tmp 127) 2, type := 0, pos := "law.go:131", after := #[{ on := 8, ground := Go.Ground.data }], guard := none }
def q6s10 : Oper := { dst := some 129, op := Go.Op.load 5 (Go.Operand.tmp 128), type := 5, pos := "law.go:131", after := #[{ on := 9, ground := Go.Ground.data }], guard := none }
def q6s11 : Oper := { dst := some 130, op := Go.Op.indexAddr 44 (Go.Operand.tmp 10) (Go.Operand.tmp 124), type := 0, pos := "law.go:131", after := #[{ on := 5, ground := Go.Ground.data }, { on := 0, ground := Go.Ground.phase }, { on := 1, ground := Go.Ground.phase }, { on := 2, ground := Go.Ground.phase }, { on := 3, ground := Go.Ground.phase }, { on := 4, ground := Go.Ground.phase }, { on := 5, ground := Go.Ground.phase }, { on := 6, ground := Go.Ground.phase }, { on := 7, ground := Go.Ground.phase }, { on := 8, ground := Go.Ground.phase }, { on := 9, ground := Go.Ground.phase }, { on := 10, ground := Go.Ground.phase }], guard := none }
def q6s12 : Oper := { dst := none, op := Go.Op.store 5 (Go.Operand.tmp 130) (Go.Operand.tmp 129), type := 0, pos := "law.go:131", after := #[{ on := 11, ground := Go.Ground.data }, { on := 10, ground := Go.Ground.data }, { on := 0, ground := Go.Ground.phase }, { on := 1, ground := Go.Ground.phase }, { on := 2, ground := Go.Ground.phase }, { on := 3, ground := Go.Ground.phase }, { on := 4, ground := Go.Ground.phase }, { on := 5, ground := Go.Ground.phase }, { on := 6, ground := Go.Ground.phase }, { on := 7, ground := Go.Ground.phase }, { on := 8, ground := Go.Ground.phase }, { on := 9, ground := Go.Ground.phase }, { on := 10, ground := Go.Ground.phase }], guard := none }
def q6r0 : Oper := { dst := some 132, op := Go.Op.move (Go.Operand.tmp 18), type := 28, pos := "law.go:135", after := #[], guard := none }
def q6r1 : Oper := { dst := some 133, op := Go.Op.binOp Go.BinOp.eql 28 (Go.Operand.tmp 132) (Go.Operand.const (Go.Value.int Go.IntKind.i64 40)) 28, type := 4, pos := "law.go:135", after := #[{ on := 0, ground := Go.Ground.data }], guard := none }
def q6r2 : Oper := { dst := some 134, op := Go.Op.move (Go.Operand.tmp 133), type := 4, pos := "law.go:135", after := #[{ on := 1, ground := Go.Ground.data }], guard := none }
def q6r3 : Oper := { dst := some 135, op := Go.Op.fieldAddr 25 (Go.Operand.tmp 17) 3, type := 0, pos := "law.go:135", after := #[{ on := 2, ground := Go.Ground.guard }], guard := some (2, true) }
def q6r4 : Oper := { dst := some 136, op := Go.Op.load 4 (Go.Operand.tmp 135), type := 4, pos := "law.go:135", after := #[{ on := 3, ground := Go.Ground.data }, { on := 2, ground := Go.Ground.guard }], guard := some (2, true) }
def q6r5 : Oper := { dst := some 137, op := Go.Op.pick (Go.Operand.tmp 134) (Go.Operand.tmp 136) (Go.Operand.const (Go.Value.bool false)), type := 4, pos := "law.go:135", after := #[{ on := 2, ground := Go.Ground.data }, { on := 4, ground := Go.Ground.data }], guard := none }
def q6r6 : Oper := { dst := some 138, op := Go.Op.move (Go.Operand.tmp 137), type := 4, pos := "law.go:135", after := #[{ on := 5, ground := Go.Ground.data }, { on := 2, ground := Go.Ground.chain }], guard := none }
def q6r7 : Oper := { dst := some 139, op := Go.Op.load 25 (Go.Operand.tmp 17), type := 25, pos := "law.go:135", after := #[{ on := 6, ground := Go.Ground.guard }], guard := some (6, true) }
def q6r8 : Oper := { dst := some 140, op := Go.Op.call { callee := Go.Callee.value (Go.Operand.func 17), args := #[Go.Operand.tmp 139], argTypes := #[25] }, type := 25, pos := "law.go:135", after := #[{ on := 7, ground := Go.Ground.data }, { on := 6, ground := Go.Ground.chain }, { on := 6, ground := Go.Ground.guard }], guard := some (6, true) }
def q6r9 : Oper := { dst := some 141, op := Go.Op.load 44 (Go.Operand.tmp 9), type := 44, pos := "law.go:135", after := #[{ on := 6, ground := Go.Ground.guard }], guard := some (6, true) }
def q6r10 : Oper := { dst := some 142, op := Go.Op.load 44 (Go.Operand.tmp 10), type := 44, pos := "law.go:135", after := #[{ on := 6, ground := Go.Ground.guard }], guard := some (6, true) }
def q6r11 : Oper := { dst := some 143, op := Go.Op.call { callee := Go.Callee.value (Go.Operand.func 28), args := #[Go.Operand.tmp 140, Go.Operand.tmp 141, Go.Operand.tmp 142], argTypes := #[25, 44, 44] }, type := 4, pos := "law.go:135", after := #[{ on := 8, ground := Go.Ground.data }, { on := 9, ground := Go.Ground.data }, { on := 10, ground := Go.Ground.data }, { on := 8, ground := Go.Ground.chain }, { on := 6, ground := Go.Ground.guard }], guard := some (6, true) }
def q6r12 : Oper := { dst := some 144, op := Go.Op.pick (Go.Operand.tmp 138) (Go.Operand.tmp 143) (Go.Operand.const (Go.Value.bool false)), type := 4, pos := "law.go:135", after := #[{ on := 6, ground := Go.Ground.data }, { on := 11, ground := Go.Ground.data }], guard := none }
def q6r13 : Oper := { dst := some 4, op := Go.Op.assign (Go.Operand.tmp 144), type := 4, pos := "law.go:135", after := #[{ on := 12, ground := Go.Ground.data }, { on := 11, ground := Go.Ground.chain }, { on := 0, ground := Go.Ground.phase }, { on := 1, ground := Go.Ground.phase }, { on := 2, ground := Go.Ground.phase }, { on := 3, ground := Go.Ground.phase }, { on := 4, ground := Go.Ground.phase }, { on := 5, ground := Go.Ground.phase }, { on := 6, ground := Go.Ground.phase }, { on := 7, ground := Go.Ground.phase }, { on := 8, ground := Go.Ground.phase }, { on := 9, ground := Go.Ground.phase }, { on := 10, ground := Go.Ground.phase }, { on := 11, ground := Go.Ground.phase }, { on := 12, ground := Go.Ground.phase }], guard := none }
theorem BoxedAside {w W : World} {b b' : Nat} {sa : Option Addr} {k cs : Nat} {ap : Option Addr} {p cp : Nat} {left : Int} {st : Bool} {D : Dk} (h : Boxed w b sa k cs ap p cp left st D) (ha : Alien w b') (hne : b ≠ b') (hG : w.grownBy W (some b')) (hF : D.wide) : Boxed W b sa k cs ap p cp left st D :=
  ⟨Nat.lt_of_lt_of_le h.lt hG.size, h.arr.moved hG h.lt (by simpa using hne), alien_dk ha hG h.dk hF, fun i hi => (World.cell?_of_block (a := ⟨b, i, none⟩) (hG.block b h.lt (by simpa using hne))).trans (h.top i hi)⟩
set_option maxRecDepth 100000 in
set_option maxHeartbeats 16000000 in
theorem lawHistory (w : World) (vs : Value) (l : List Ac) (r0 : Nat) (hr : r0 ≤ 255) (hl : ActsAt w w.heap.size vs l) :
    Calls Try.prog 6 #[vs, .int .u8 r0] w fun e w' => e = .returned (.bool true) ∧ Below w.heap.size w w' := by
  obtain ⟨n, hn⟩ : ∃ x, l.length = x := ⟨_, rfl⟩
  obtain ⟨ya, yc, rfl, hy1, hy2⟩ := acts_shape hl
  rw [hn] at hl hy1 ⊢
  have HA := Lib.hid hl
  have HN := Lib.hid hn
  unfold maxLen at hy2
  have hwr : IntKind.i64.wrap (r0 : Int) = (r0 : Int) := by rw [IntKind.wrap_i64]; omega
  clear hl hn
  go_enter Try.func6, Try.ntmps6
  go_wp2_with fail
  refine (sane_any _).mono ?_
  rintro e w2 ⟨rfl, hB2⟩
  have HA := Lib.hid (HA.out.below hB2)
  have HBASE := Lib.hid hB2
  clear hB2
  by_cases hsk : 40 < n
  · have dq : decide (40 < (n : Int)) = true := by simp; omega
    go_wp2
    go_ret
    exact ⟨rfl, HBASE.out⟩
  have dq : decide (40 < (n : Int)) = false := by simp; omega
  have hn40 : n ≤ 40 := by omega
  clear hsk
  go_wp2_with fail
  refine (new_any _ 4 (.inl (by omega))).mono ?_
  rintro e w3 ⟨v3, rfl, hv3, hB3⟩
  rw [hd_new.1] at hv3
  rw [hd_new.2]
  obtain ⟨sa, cs, ap, cp, W4, rfl, hW4, hX, hB4, -, -, -, -, hz4⟩ := hv3.box (k := 4) (p := 0) (left := -1) (st := false) rfl rfl rfl rfl
  have HB4 := Lib.hid (HBASE.out.trans ((hB3.trans (hB4.mono hB3.size)).mono HBASE.out.size))
  have HA := Lib.hid (HA.out.below ((hB3.trans (hB4.mono hB3.size)).mono HBASE.out.size))
  have HW := Lib.hid hW4
  have HX := Lib.hid hX
  obtain ⟨b5, hb5⟩ : ∃ b, w3.heap.size = b := ⟨_, rfl⟩
  have h5w : w.heap.size ≤ b5 := by have := HBASE.out.size; have := hB3.size; omega
  clear hv3 hB3 hB4 hW4 hX
  obtain ⟨e0, e1, e2, e3⟩ := HX.out.four
  rw [HW.out] at e0 e1 e2 e3
  go_wp2_with fail
  rw [← HW.out]
  refine (stop_any _ _ _ r0 HX.out.dk ⟨by omega, by omega⟩).mono ?_
  rw [hd_halt hr]
  rintro e w5 ⟨u, rfl, hu, hB5⟩
  obtain ⟨s5, c5, a5, q5, rfl, -⟩ := hu.parts (k := 4) (p := 0) (left := (r0 : Int)) (st := false) rfl rfl rfl rfl
  rw [hb5] at HX hz4
  have HX5 := Lib.hid (HX.out.next hB5)
  have HB5 := Lib.hid (HB4.out.trans (hB5.mono HB4.out.size))
  have HA := Lib.hid (HA.out.below (hB5.mono HB4.out.size))
  have HU := Lib.hid hu
  have HFU : Hid (Hd [0, 0, 0, 0] [] r0).full := Lib.hid (ok_full (hd_ok rfl rfl (by simp) ⟨by omega, by omega⟩))
  clear hu hB5 e0 e1 e2 e3 HX HW HBASE HB4
  go_wp2_with (refine store_box rfl (.tmp 5) (.tmp 35) rfl HX5.out (by rfl) (by rfl) HU.out HFU.out ?_; intro W6 hG6 hx6)
  have hb6 := Lib.hid (below_grow HB5.out hG6 (fun q e => by cases e; exact h5w) HB5.out.size)
  have hA6 := HA.out.below (show Below w.heap.size w5 W6 from ⟨hG6.os, hG6.tape, hG6.output, hG6.size, fun i hi => hG6.block i (by have := HB5.out.size; omega) (by simp; omega)⟩)
  obtain ⟨A4, hA4⟩ : ∃ o : Obj, o = .cells #[.int .u8 0, .int .u8 0, .int .u8 0, .int .u8 0] 44 := ⟨_, rfl⟩
  have hT0 : LH w ya n yc l b5 W6.heap.size (W6.heap.size + 1) (W6.heap.size + 1 + 1) (Hd [0, 0, 0, 0] [] r0) [0, 0, 0, 0] [0, 0, 0, 0] [0, 0, 0, 0] (W6.heap.size + 1 + 1 + 1) 0 0 [] ((((W6.alloc (.cells #[.int .u8 0, .int .u8 0, .int .u8 0, .int .u8 0] 44)).alloc (.cells #[.int .u8 0, .int .u8 0, .int .u8 0, .int .u8 0] 44)).alloc (.cells #[.int .u8 0, .int .u8 0, .int .u8 0, .int .u8 0] 44)).alloc (.cells #[] 46)) := by
    rw [← hA4]
    have q1 : Below W6.heap.size W6 (W6.alloc A4) := (Below.refl _ _).alloc (Nat.le_refl _) _
    have z1 : (W6.alloc A4).heap.size = W6.heap.size + 1 := by simp
    have q2 : Below (W6.alloc A4).heap.size (W6.alloc A4) ((W6.alloc A4).alloc A4) := (Below.refl _ _).alloc (Nat.le_refl _) _
    have z2 : ((W6.alloc A4).alloc A4).heap.size = W6.heap.size + 1 + 1 := by simp
    have q3 : Below ((W6.alloc A4).alloc A4).heap.size ((W6.alloc A4).alloc A4) (((W6.alloc A4).alloc A4).alloc A4) := (Below.refl _ _).alloc (Nat.le_refl _) _
    have z3 : (((W6.alloc A4).alloc A4).alloc A4).heap.size = W6.heap.size + 1 + 1 + 1 := by simp
    have q4 : Below (((W6.alloc A4).alloc A4).alloc A4).heap.size (((W6.alloc A4).alloc A4).alloc A4) ((((W6.alloc A4).alloc A4).alloc A4).alloc (.cells #[] 46)) := (Below.refl _ _).alloc (Nat.le_refl _) _
    have n1 := Ar4.new W6
    have n2 := Ar4.new (W6.alloc A4)
    have n3 := Ar4.new ((W6.alloc A4).alloc A4)
    rw [← hA4] at n1 n2 n3
    rw [z1] at n2 q2
    rw [z2] at n3 q3
    have n4 := rowa_new (((W6.alloc A4).alloc A4).alloc A4)
    rw [z3] at n4 q4
    have qq : Below W6.heap.size W6 ((((W6.alloc A4).alloc A4).alloc A4).alloc (.cells #[] 46)) := q1.trans ((q2.mono (by omega)).trans ((q3.mono (by omega)).trans (q4.mono (by omega))))
    have h5l := hx6.lt
    exact ⟨hb6.out.trans (qq.mono hb6.out.size), hA6.below (qq.mono hb6.out.size), BoxAt.next (w := W6) (b := b5) ⟨_, _, _, _, _, _, _, _, hx6⟩ qq, ((n1.kept (gbelow (row := none) (by rw [z1]; exact q2)) (by simp)).kept (gbelow (row := none) (by rw [z2]; exact q3)) (by simp)).kept (gbelow (row := none) (by rw [z3]; exact q4)) (by simp), (n2.kept (gbelow (row := none) (by rw [z2]; exact q3)) (by simp)).kept (gbelow (row := none) (by rw [z3]; exact q4)) (by simp), n3.kept (gbelow (row := none) (by rw [z3]; exact q4)) (by simp), n4, wide_hd, h5w, h5l, by omega, by omega, by omega⟩
  have HT0 := Lib.hid hT0
  obtain ⟨b8, hb8⟩ : ∃ b, W6.heap.size = b := ⟨_, rfl⟩
  rw [hb8] at HT0
  obtain ⟨b9, hb9⟩ : ∃ b, b8 + 1 = b := ⟨_, rfl⟩
  rw [hb9] at HT0
  obtain ⟨b10, hb10⟩ : ∃ b, b9 + 1 = b := ⟨_, rfl⟩
  rw [hb10] at HT0
  rw [hb8, hb9, hb10]
  clear hT0 hA6 hA4 hG6 hx6 HX5 HU HA HB5 hb6
  have hmx : ∀ W, LH w ya n yc l b5 b8 b9 b10 (Hd [0, 0, 0, 0] [] r0) [0, 0, 0, 0] [0, 0, 0, 0] [0, 0, 0, 0] (b10 + 1) 0 0 [] W → ∃ (m g q cap room : Nat) (F : List UInt8) (wt : List Ac), Value.slice (some ⟨b10 + 1, 0, none⟩) 0 0 = .slice (some ⟨g, 0, none⟩) q cap ∧ Value.int .i64 r0 = .int .i64 room ∧ Value.int .i64 0 = .int .i64 m ∧ m ≤ n ∧ q ≤ m ∧ room ≤ 255 ∧ F.length = 4 ∧ LH w ya n yc l b5 b8 b9 b10 (Hd F wt room) (ups F wt) F F g q cap wt W := fun W h => ⟨0, _, 0, 0, r0, [0, 0, 0, 0], [], rfl, rfl, rfl, Nat.zero_le _, Nat.le_refl _, hr, rfl, h⟩
  have HMX := Lib.hid hmx
  clear hmx
  go_loopw [11, 12, 13] (fun v11 v12 v13 wr => ∃ (m g q cap room : Nat) (F : List UInt8) (wt : List Ac), v11 = .slice (some ⟨g, 0, none⟩) q cap ∧ v12 = .int .i64 room ∧ v13 = .int .i64 m ∧ m ≤ n ∧ q ≤ m ∧ room ≤ 255 ∧ F.length = 4 ∧ LH w ya n yc l b5 b8 b9 b10 (Hd F wt room) (ups F wt) F F g q cap wt wr) (fun _ _ i _ => n - (intOf i).toNat)
  case atStart => exact HMX.out _ HT0.out
  case round =>
  clear HMX HT0
  obtain ⟨m, g, q, cap, room, F, wt, rfl, rfl, rfl, hmn, hqm, hrm, hF, hT⟩ := hrel
  have hq := hT.row.len
  by_cases hlt : m < n
  · have hml : m < l.length := by rw [HN.out]; exact hlt
    obtain ⟨sb, so, rfl, hsb, hin⟩ := acts_get hT.acts (by omega)
    obtain ⟨i0, i1, i2⟩ := hin m hml
    obtain ⟨a, ha⟩ : ∃ a, l[m] = a := ⟨_, rfl⟩
    rw [ha] at i0 i1 i2
    have dlt : decide ((m : Int) < (n : Int)) = true := by simp; omega
    have dlt2 : decide (m < n) = true := by simpa using hlt
    have HT := Lib.hid hT
    obtain ⟨t, ht⟩ : ∃ t, a.at_.toNat = t := ⟨_, rfl⟩
    obtain ⟨c, hc⟩ : ∃ c, a.byte = c := ⟨_, rfl⟩
    obtain ⟨sy, hsy⟩ : ∃ s, a.sync = s := ⟨_, rfl⟩
    rw [ht] at i1
    rw [hc] at i2
    rw [hsy] at i0
    have ht256 : t < 256 := by rw [← ht]; exact a.at_.toNat_lt
    have HTT := Lib.hid ht
    have HCC := Lib.hid hc
    have HSY := Lib.hid hsy
    clear hml hin ha hT ht hc hsy
    go_upto_if 58 with (fail)
    obtain ⟨W15, hW15⟩ : ∃ W, W = wr.alloc (Obj.cells #[.bool sy, .int .u8 t, .int .u8 c.toNat] 46) := ⟨_, rfl⟩
    rw [← hW15]
    have hA15 : Arr W15 wr.heap.size [.bool sy, .int .u8 t, .int .u8 c.toNat] := by rw [hW15]; exact Arr.new wr #[.bool sy, .int .u8 t, .int .u8 c.toNat] 46
    have hB15 : Below wr.heap.size wr W15 := by rw [hW15]; go_grown
    have hz15 : W15.heap.size = wr.heap.size + 1 := by rw [hW15]; simp
    obtain ⟨b14, hb14⟩ : ∃ b, wr.heap.size = b := ⟨_, rfl⟩
    rw [hb14] at hA15 hz15 ⊢
    have h1014 : b10 < b14 := by have := HT.out.a10.lt; omega
    have HT15 := Lib.hid (HT.out.next hB15)
    have HA15 := Lib.hid hA15
    clear hW15 hA15 hB15 HT hb14 i0 i1 i2
    go_cut [11, 12] from 59 to 152 (fun s11 s12 wx => ∃ (g q cap room : Nat) (F : List UInt8) (wt : List Ac), s11 = .slice (some ⟨g, 0, none⟩) q cap ∧ s12 = .int .i64 room ∧ q ≤ m + 1 ∧ room ≤ 255 ∧ F.length = 4 ∧ LH w (some ⟨sb, so, none⟩) n yc l b5 b8 b9 b10 (Hd F wt room) (ups F wt) F F g q cap wt wx)
    case first =>
      rename_i J1 K1 hJ1 hM1
      cases sy with
      | false =>
        obtain ⟨q4, hq4⟩ : ∃ x, t % 4 = x := ⟨_, rfl⟩
        have hq4l : q4 < 4 := by omega
        have htm : (t : Int).tmod 4 = (q4 : Int) := by rw [← hq4]; rfl
        have htm2 : (t : Int) % 4 = (q4 : Int) := by rw [← hq4]; rfl
        have hwq : IntKind.i64.wrap (q4 : Int) = (q4 : Int) := by rw [IntKind.wrap_i64]; omega
        have hq4i : (q4 : Int) < 4 := by omega
        have hwz : (Hd F wt room).write q4 (dbl c) = (Hd F (wt ++ [a]) room, 0) := by
          rw [← hq4, ← HTT.out, ← HCC.out]; exact hd_write hF (by omega) (by omega) a
        obtain ⟨sx, kx, cx, ax, px, qx, lx, tx, hbx⟩ := HT15.out.x5
        obtain ⟨Z, hZ⟩ : ∃ Z, Hd F (wt ++ [a]) room = Z := ⟨_, rfl⟩
        rw [hZ] at hwz
        have HZF : Hid Z.full := Lib.hid (by rw [← hZ]; exact ok_full (hd_ok hF hF (by simp; omega) ⟨by omega, by omega⟩))
        have HZW : Hid Z.wide := Lib.hid (by rw [← hZ]; exact wide_hd)
        obtain ⟨kz, hz1⟩ : ∃ x, Z.sec.length = x := ⟨_, rfl⟩
        obtain ⟨pz, hz2⟩ : ∃ x, Z.pen.length = x := ⟨_, rfl⟩
        obtain ⟨lz, hz3⟩ : ∃ x, Z.left = x := ⟨_, rfl⟩
        obtain ⟨tz, hz4⟩ : ∃ x, Z.stop = x := ⟨_, rfl⟩
        have HZ1 := Lib.hid hz1
        have HZ2 := Lib.hid hz2
        have HZ3 := Lib.hid hz3
        have HZ4 := Lib.hid hz4
        have HZ := Lib.hid hZ
        have hwc : ∀ W g, Below W15.heap.size W15 W → Arr W g (cells8 (dbl c)) → g < W.heap.size → Calls Try.prog 19 #[.agg #[.slice sx kx cx, .slice ax px qx, .int .i64 lx, .bool tx], .int .i64 q4, .slice (some ⟨g, 0, none⟩) 128 128] W fun e w' => ∃ u, e = .returned (.tuple #[u, .int .i64 0]) ∧ DkAt w' w'.heap.size u Z ∧ Below W.heap.size W w' := fun W g hW hA hg => by
          have := write_any W (Hd F wt room) (.agg #[.slice sx kx cx, .slice ax px qx, .int .i64 lx, .bool tx]) (.slice (some ⟨g, 0, none⟩) 128 128) q4 (dbl c) (hbx.dk.next hW) (hA.bytesAt (dbl_len c) hg (Nat.le_refl _) (by unfold maxLen; omega)) ⟨by omega, by omega⟩
          rw [hwz] at this
          exact this
        have HWC := Lib.hid hwc
        have HDB : Hid (∀ W : World, Calls Try.prog 27 #[.int .u8 c.toNat] W fun e w' => ∃ gd, e = .returned (.slice (some ⟨gd, 0, none⟩) 128 128) ∧ Arr w' gd (cells8 (dbl c)) ∧ gd < w'.heap.size ∧ Below W.heap.size W w') := Lib.hid fun W => (double_any W c).mono fun e w' ⟨h1, h2, h3⟩ => ⟨_, h1, h2, h2.lt (by rw [cells8_len, dbl_len]; omega), h3⟩
        have hb5l := hbx.lt
        have HS : Hid (∀ W, Below W15.heap.size W15 W → Below W15.heap.size W15 W ∧ W.cell? ⟨b5, 0, none⟩ = some (.slice sx kx cx) ∧ W.cell? ⟨b5, 1, none⟩ = some (.slice ax px qx) ∧ W.cell? ⟨b5, 2, none⟩ = some (.int .i64 lx) ∧ W.cell? ⟨b5, 3, none⟩ = some (.bool tx) ∧ W.cell? ⟨b14, 1, none⟩ = some (.int .u8 t) ∧ W.cell? ⟨b14, 2, none⟩ = some (.int .u8 c.toNat)) := Lib.hid fun W hW => ⟨hW, (hW.cell (p := ⟨b5, 0, none⟩) hb5l).trans hbx.four.1, (hW.cell (p := ⟨b5, 1, none⟩) hb5l).trans hbx.four.2.1, (hW.cell (p := ⟨b5, 2, none⟩) hb5l).trans hbx.four.2.2.1, (hW.cell (p := ⟨b5, 3, none⟩) hb5l).trans hbx.four.2.2.2, (hW.cell (p := ⟨b14, 1, none⟩) (by show b14 < _; omega)).trans (HA15.out.cell rfl), (hW.cell (p := ⟨b14, 2, none⟩) (by show b14 < _; omega)).trans (HA15.out.cell rfl)⟩
        obtain ⟨j0, j1, j2⟩ : W15.cell? ⟨b14, 0, none⟩ = some (.bool false) ∧ W15.cell? ⟨b14, 1, none⟩ = some (.int .u8 t) ∧ W15.cell? ⟨b14, 2, none⟩ = some (.int .u8 c.toNat) := ⟨HA15.out.cell rfl, HA15.out.cell rfl, HA15.out.cell rfl⟩
        clear hbx hwc hwz hz1 hz2 hz3 hz4 hZ
        go_wp2
        go_cut [15, 16] from 59 to 70 (fun s15 s16 wx => ∃ bz, s15 = .pointer (some ⟨bz, 0, none⟩) ∧ s16 = .int .i64 0 ∧ BoxAt wx bz Z ∧ Below W15.heap.size W15 wx ∧ W15.heap.size ≤ bz)
        case first =>
          rename_i J3 K3 hJ3 hM3
          clear j0 j1 j2
          refine wp_region_held_drew (S := fun W => Below W15.heap.size W15 W ∧ W.cell? ⟨b5, 0, none⟩ = some (.slice sx kx cx) ∧ W.cell? ⟨b5, 1, none⟩ = some (.slice ax px qx) ∧ W.cell? ⟨b5, 2, none⟩ = some (.int .i64 lx) ∧ W.cell? ⟨b5, 3, none⟩ = some (.bool tx) ∧ W.cell? ⟨b14, 1, none⟩ = some (.int .u8 t) ∧ W.cell? ⟨b14, 2, none⟩ = some (.int .u8 c.toNat)) (by kernel_rfl) (HS.out _ (Below.drew (Below.refl _ _))) (fun hHeld => ?_)
          refine wpAnyH_take (i := 0) (oi := q6w0) (v := ?_) rfl (by kernel_rfl) (by kernel_rfl) (by kernel_rfl) (fun _ _ _ h => h) (Or.inl ⟨by rfl, ?_⟩) hHeld ?_
          rotate_left
          · (intro w hSw; (try dsimp only at hSw); unfold q6w0; go_simp <;> with_reducible rfl)
          try simp only [q6w0, Act.put, List.setIfInBounds_toArray, List.set_cons_zero, List.set_cons_succ]
          refine wpAnyH_take (i := 1) (oi := q6w1) (v := ?_) rfl (by kernel_rfl) (by kernel_rfl) (by kernel_rfl) (fun _ _ _ h => h) (Or.inl ⟨by rfl, ?_⟩) hHeld ?_
          rotate_left
          · (intro w hSw; (try dsimp only at hSw); unfold q6w1; go_simp <;> with_reducible rfl)
          try simp only [q6w1, Act.put, List.setIfInBounds_toArray, List.set_cons_zero, List.set_cons_succ]
          refine wpAnyH_take (i := 2) (oi := q6w2) (v := ?_) rfl (by kernel_rfl) (by kernel_rfl) (by kernel_rfl) (fun _ _ _ h => h) (Or.inl ⟨by rfl, ?_⟩) hHeld ?_
          rotate_left
          · (intro w hSw; (try dsimp only at hSw); unfold q6w2; go_simp <;> with_reducible rfl)
          try simp only [q6w2, Act.put, List.setIfInBounds_toArray, List.set_cons_zero, List.set_cons_succ]
          refine wpAnyH_take (i := 3) (oi := q6w3) (v := ?_) rfl (by kernel_rfl) (by kernel_rfl) (by kernel_rfl) (fun _ _ _ h => h) (Or.inl ⟨by rfl, ?_⟩) hHeld ?_
          rotate_left
          · (intro w hSw; (try dsimp only at hSw); unfold q6w3; go_simp <;> with_reducible rfl)
          try simp only [q6w3, Act.put, List.setIfInBounds_toArray, List.set_cons_zero, List.set_cons_succ]
          refine wpAnyH_take (i := 4) (oi := q6w4) (v := ?_) rfl (by kernel_rfl) (by kernel_rfl) (by kernel_rfl) (fun _ _ _ h => h) (Or.inl ⟨by rfl, ?_⟩) hHeld ?_
          rotate_left
          · (intro w hSw; (try dsimp only at hSw); unfold q6w4; go_simp <;> with_reducible rfl)
          try simp only [q6w4, Act.put, List.setIfInBounds_toArray, List.set_cons_zero, List.set_cons_succ]
          refine wpAnyH_take (i := 5) (oi := q6w5) (v := ?_) rfl (by kernel_rfl) (by kernel_rfl) (by kernel_rfl) (fun _ _ _ h => h) (Or.inl ⟨by rfl, ?_⟩) hHeld ?_
          rotate_left
          · (intro w hSw; (try dsimp only at hSw); unfold q6w5; go_simp <;> with_reducible rfl)
          try simp only [q6w5, Act.put, List.setIfInBounds_toArray, List.set_cons_zero, List.set_cons_succ]
          refine wpAnyH_take (i := 6) (oi := q6w6) (v := ?_) rfl (by kernel_rfl) (by kernel_rfl) (by kernel_rfl) (fun _ _ _ h => h) (Or.inl ⟨by rfl, ?_⟩) hHeld ?_
          rotate_left
          · (intro w hSw; (try dsimp only at hSw); unfold q6w6; go_simp <;> with_reducible rfl)
          try simp only [q6w6, Act.put, List.setIfInBounds_toArray, List.set_cons_zero, List.set_cons_succ]
          refine wpAnyH_ready (rs := [7, 12]) (by kernel_rfl) (by simp) ?_
          refine AllReadyH.cons (o := q6w7) rfl (fun K hK => ?_) (AllReadyH.cons (o := q6w12) rfl (fun K hK => ?_) AllReadyH.nil)
          · skip
            rw [if_pos (by rfl)]
            unfold q6w7
            go_simp
            (with_reducible refine (HDB.out _).mono ?_)
            rintro e W7 ⟨gd, rfl, hAg, hltg, hBB⟩
            have hB7 := Below.trans (Below.drew (Below.refl W15.heap.size W15)) (hBB.mono (Below.drew (Below.refl W15.heap.size W15)).size)
            clear hBB
            go_wp2_with fail
            refine hK.out _ _ (HS.out _ hB7) (fun hHeld => ?_)
            clear hK K
            try simp only [q6w7, Act.put, List.setIfInBounds_toArray, List.set_cons_zero, List.set_cons_succ]
            refine wpAnyH_ready (rs := [8, 12]) (by kernel_rfl) (by simp) ?_
            refine AllReadyH.cons (o := q6w8) rfl (fun K hK => ?_) (AllReadyH.cons (o := q6w12) rfl (fun K hK => ?_) AllReadyH.nil)
            · skip
              rw [if_pos (by rfl)]
              unfold q6w8
              go_simp
              (with_reducible refine (HWC.out _ gd hB7 hAg hltg).mono ?_)
              rintro e W8 ⟨u, rfl, hu, hBB⟩
              have hB8 := Below.trans hB7 (hBB.mono hB7.size)
              clear hBB hAg hltg
              obtain ⟨sz, cz, az, qz, rfl, -⟩ := hu.parts HZ1.out HZ2.out HZ3.out HZ4.out
              go_wp2_with fail
              refine hK.out _ _ (HS.out _ hB8) (fun hHeld => ?_)
              clear hK K
              try simp only [q6w8, Act.put, List.setIfInBounds_toArray, List.set_cons_zero, List.set_cons_succ]
              refine wpAnyH_take (i := 9) (oi := q6w9) (v := ?_) rfl (by kernel_rfl) (by kernel_rfl) (by kernel_rfl) (fun _ _ _ h => h) (Or.inl ⟨by rfl, ?_⟩) hHeld ?_
              rotate_left
              · (intro w hSw; (try dsimp only at hSw); unfold q6w9; go_simp <;> with_reducible rfl)
              try simp only [q6w9, Act.put, List.setIfInBounds_toArray, List.set_cons_zero, List.set_cons_succ]
              refine wpAnyH_take (i := 10) (oi := q6w10) (v := ?_) rfl (by kernel_rfl) (by kernel_rfl) (by kernel_rfl) (fun _ _ _ h => h) (Or.inl ⟨by rfl, ?_⟩) hHeld ?_
              rotate_left
              · (intro w hSw; (try dsimp only at hSw); unfold q6w10; go_simp <;> with_reducible rfl)
              try simp only [q6w10, Act.put, List.setIfInBounds_toArray, List.set_cons_zero, List.set_cons_succ]
              refine wpAnyH_take (i := 11) (oi := q6w11) (v := ?_) rfl (by kernel_rfl) (by kernel_rfl) (by kernel_rfl) (fun _ _ _ h => h) (Or.inl ⟨by rfl, ?_⟩) hHeld ?_
              rotate_left
              · (intro w hSw; (try dsimp only at hSw); unfold q6w11; go_simp <;> with_reducible rfl)
              try simp only [q6w11, Act.put, List.setIfInBounds_toArray, List.set_cons_zero, List.set_cons_succ]
              refine wpAnyH_ready (rs := [12]) (by kernel_rfl) (by simp) ?_
              refine AllReadyH.cons (o := q6w12) rfl (fun K hK => ?_) AllReadyH.nil
              rw [if_pos (by rfl)]
              refine wp_alloc25t (by rfl) ?_
              intro bz W12 hG12 hge12 hlt10 hA10 ht10
              have hBB := belowN hG12
              have hu := hu.next hBB
              have hB12 := Below.trans hB8 (hBB.mono hB8.size)
              have le10 : W15.heap.size ≤ bz := Nat.le_trans hB8.size hge12
              clear hBB
              refine hK.out _ _ (HS.out _ hB12) (fun hHeld => ?_)
              clear hK K
              try simp only [q6w12, Act.put, List.setIfInBounds_toArray, List.set_cons_zero, List.set_cons_succ]
              refine wpAnyH_ready (rs := [13]) (by kernel_rfl) (by simp) ?_
              refine AllReadyH.cons (o := q6w13) rfl (fun K hK => ?_) AllReadyH.nil
              rw [if_pos (by rfl)]
              refine wp_st25t (.tmp 15) (.tmp 69) (by rfl) bz _ _ _ _ _ (by rfl) (by rfl) hA10 rfl ht10 rfl ?_
              intro Wz hGz hAz htz
              have hbz := (show Boxed _ bz none 0 0 none 0 0 0 false Dk.zero from ⟨hlt10, hA10, zero_at _ _, ht10⟩).store hGz hAz htz hu HZF.out
              have hBz := below_grow hB12 hGz (fun q e => by cases e; exact le10) hB12.size
              refine hK.out _ _ (HS.out _ hBz) (fun hHeld => ?_)
              clear hK K
              try simp only [q6w13, Act.put]
              refine wpAnyH_ready (rs := [14]) (by kernel_rfl) (by simp) ?_
              refine AllReadyH.cons (o := q6w14) rfl (fun K hK => ?_) AllReadyH.nil
              rw [if_pos (by rfl)]
              unfold q6w14
              go_simp
              refine hK.out _ _ hHeld (fun hHeld => ?_)
              clear hK K
              try simp only [q6w14, Act.put, List.setIfInBounds_toArray, List.set_cons_zero, List.set_cons_succ]
              refine wpAnyH_done (by kernel_rfl) ?_ _
              refine hM3 _ _ ?_
              go_meet
              exact ⟨bz, rfl, rfl, ⟨_, _, _, _, _, _, _, _, hbz⟩, hBz, le10⟩
            · skip
              rw [if_pos (by rfl)]
              refine wp_alloc25t (by rfl) ?_
              intro bz W12 hG12 hge12 hlt10 hA10 ht10
              have hBB := belowN hG12
              have hAg := hAg.below hBB hltg
              have hltg := Nat.lt_of_lt_of_le hltg hBB.size
              have hB12 := Below.trans hB7 (hBB.mono hB7.size)
              have le10 : W15.heap.size ≤ bz := Nat.le_trans hB7.size hge12
              clear hBB
              refine hK.out _ _ (HS.out _ hB12) (fun hHeld => ?_)
              clear hK K
              try simp only [q6w12, Act.put, List.setIfInBounds_toArray, List.set_cons_zero, List.set_cons_succ]
              refine wpAnyH_ready (rs := [8]) (by kernel_rfl) (by simp) ?_
              refine AllReadyH.cons (o := q6w8) rfl (fun K hK => ?_) AllReadyH.nil
              rw [if_pos (by rfl)]
              unfold q6w8
              go_simp
              (with_reducible refine (HWC.out _ gd hB12 hAg hltg).mono ?_)
              rintro e W8 ⟨u, rfl, hu, hBB⟩
              have hA10 := hA10.below hBB hlt10
              have ht10 : ∀ i, 4 ≤ i → W8.cell? ⟨bz, i, none⟩ = none := fun i hi => (hBB.cell (p := ⟨bz, i, none⟩) hlt10).trans (ht10 i hi)
              have hlt10 := Nat.lt_of_lt_of_le hlt10 hBB.size
              have hB8 := Below.trans hB12 (hBB.mono hB12.size)
              clear hBB hAg hltg
              obtain ⟨sz, cz, az, qz, rfl, -⟩ := hu.parts HZ1.out HZ2.out HZ3.out HZ4.out
              go_wp2_with fail
              refine hK.out _ _ (HS.out _ hB8) (fun hHeld => ?_)
              clear hK K
              try simp only [q6w8, Act.put, List.setIfInBounds_toArray, List.set_cons_zero, List.set_cons_succ]
              refine wpAnyH_take (i := 9) (oi := q6w9) (v := ?_) rfl (by kernel_rfl) (by kernel_rfl) (by kernel_rfl) (fun _ _ _ h => h) (Or.inl ⟨by rfl, ?_⟩) hHeld ?_
              rotate_left
              · (intro w hSw; (try dsimp only at hSw); unfold q6w9; go_simp <;> with_reducible rfl)
              try simp only [q6w9, Act.put, List.setIfInBounds_toArray, List.set_cons_zero, List.set_cons_succ]
              refine wpAnyH_take (i := 10) (oi := q6w10) (v := ?_) rfl (by kernel_rfl) (by kernel_rfl) (by kernel_rfl) (fun _ _ _ h => h) (Or.inl ⟨by rfl, ?_⟩) hHeld ?_
              rotate_left
              · (intro w hSw; (try dsimp only at hSw); unfold q6w10; go_simp <;> with_reducible rfl)
              try simp only [q6w10, Act.put, List.setIfInBounds_toArray, List.set_cons_zero, List.set_cons_succ]
              refine wpAnyH_take (i := 11) (oi := q6w11) (v := ?_) rfl (by kernel_rfl) (by kernel_rfl) (by kernel_rfl) (fun _ _ _ h => h) (Or.inl ⟨by rfl, ?_⟩) hHeld ?_
              rotate_left
              · (intro w hSw; (try dsimp only at hSw); unfold q6w11; go_simp <;> with_reducible rfl)
              try simp only [q6w11, Act.put, List.setIfInBounds_toArray, List.set_cons_zero, List.set_cons_succ]
              refine wpAnyH_ready (rs := [13]) (by kernel_rfl) (by simp) ?_
              refine AllReadyH.cons (o := q6w13) rfl (fun K hK => ?_) AllReadyH.nil
              rw [if_pos (by rfl)]
              refine wp_st25t (.tmp 15) (.tmp 69) (by rfl) bz _ _ _ _ _ (by rfl) (by rfl) hA10 rfl ht10 rfl ?_
              intro Wz hGz hAz htz
              have hbz := (show Boxed _ bz none 0 0 none 0 0 0 false Dk.zero from ⟨hlt10, hA10, zero_at _ _, ht10⟩).store hGz hAz htz hu HZF.out
              have hBz := below_grow hB8 hGz (fun q e => by cases e; exact le10) hB8.size
              refine hK.out _ _ (HS.out _ hBz) (fun hHeld => ?_)
              clear hK K
              try simp only [q6w13, Act.put]
              refine wpAnyH_ready (rs := [14]) (by kernel_rfl) (by simp) ?_
              refine AllReadyH.cons (o := q6w14) rfl (fun K hK => ?_) AllReadyH.nil
              rw [if_pos (by rfl)]
              unfold q6w14
              go_simp
              refine hK.out _ _ hHeld (fun hHeld => ?_)
              clear hK K
              try simp only [q6w14, Act.put, List.setIfInBounds_toArray, List.set_cons_zero, List.set_cons_succ]
              refine wpAnyH_done (by kernel_rfl) ?_ _
              refine hM3 _ _ ?_
              go_meet
              exact ⟨bz, rfl, rfl, ⟨_, _, _, _, _, _, _, _, hbz⟩, hBz, le10⟩
          · skip
            rw [if_pos (by rfl)]
            refine wp_alloc25t (by rfl) ?_
            intro bz W12 hG12 hge12 hlt10 hA10 ht10
            have hBB := belowN hG12
            have hB12 := Below.trans (Below.drew (Below.refl W15.heap.size W15)) (hBB.mono (Below.drew (Below.refl W15.heap.size W15)).size)
            have le10 : W15.heap.size ≤ bz := Nat.le_trans (Below.drew (Below.refl W15.heap.size W15)).size hge12
            clear hBB
            refine hK.out _ _ (HS.out _ hB12) (fun hHeld => ?_)
            clear hK K
            try simp only [q6w12, Act.put, List.setIfInBounds_toArray, List.set_cons_zero, List.set_cons_succ]
            refine wpAnyH_ready (rs := [7]) (by kernel_rfl) (by simp) ?_
            refine AllReadyH.cons (o := q6w7) rfl (fun K hK => ?_) AllReadyH.nil
            rw [if_pos (by rfl)]
            unfold q6w7
            go_simp
            (with_reducible refine (HDB.out _).mono ?_)
            rintro e W7 ⟨gd, rfl, hAg, hltg, hBB⟩
            have hA10 := hA10.below hBB hlt10
            have ht10 : ∀ i, 4 ≤ i → W7.cell? ⟨bz, i, none⟩ = none := fun i hi => (hBB.cell (p := ⟨bz, i, none⟩) hlt10).trans (ht10 i hi)
            have hlt10 := Nat.lt_of_lt_of_le hlt10 hBB.size
            have hB7 := Below.trans hB12 (hBB.mono hB12.size)
            clear hBB
            go_wp2_with fail
            refine hK.out _ _ (HS.out _ hB7) (fun hHeld => ?_)
            clear hK K
            try simp only [q6w7, Act.put, List.setIfInBounds_toArray, List.set_cons_zero, List.set_cons_succ]
            refine wpAnyH_ready (rs := [8]) (by kernel_rfl) (by simp) ?_
            refine AllReadyH.cons (o := q6w8) rfl (fun K hK => ?_) AllReadyH.nil
            rw [if_pos (by rfl)]
            unfold q6w8
            go_simp
            (with_reducible refine (HWC.out _ gd hB7 hAg hltg).mono ?_)
            rintro e W8 ⟨u, rfl, hu, hBB⟩
            have hA10 := hA10.below hBB hlt10
            have ht10 : ∀ i, 4 ≤ i → W8.cell? ⟨bz, i, none⟩ = none := fun i hi => (hBB.cell (p := ⟨bz, i, none⟩) hlt10).trans (ht10 i hi)
            have hlt10 := Nat.lt_of_lt_of_le hlt10 hBB.size
            have hB8 := Below.trans hB7 (hBB.mono hB7.size)
            clear hBB hAg hltg
            obtain ⟨sz, cz, az, qz, rfl, -⟩ := hu.parts HZ1.out HZ2.out HZ3.out HZ4.out
            go_wp2_with fail
            refine hK.out _ _ (HS.out _ hB8) (fun hHeld => ?_)
            clear hK K
            try simp only [q6w8, Act.put, List.setIfInBounds_toArray, List.set_cons_zero, List.set_cons_succ]
            refine wpAnyH_take (i := 9) (oi := q6w9) (v := ?_) rfl (by kernel_rfl) (by kernel_rfl) (by kernel_rfl) (fun _ _ _ h => h) (Or.inl ⟨by rfl, ?_⟩) hHeld ?_
            rotate_left
            · (intro w hSw; (try dsimp only at hSw); unfold q6w9; go_simp <;> with_reducible rfl)
            try simp only [q6w9, Act.put, List.setIfInBounds_toArray, List.set_cons_zero, List.set_cons_succ]
            refine wpAnyH_take (i := 10) (oi := q6w10) (v := ?_) rfl (by kernel_rfl) (by kernel_rfl) (by kernel_rfl) (fun _ _ _ h => h) (Or.inl ⟨by rfl, ?_⟩) hHeld ?_
            rotate_left
            · (intro w hSw; (try dsimp only at hSw); unfold q6w10; go_simp <;> with_reducible rfl)
            try simp only [q6w10, Act.put, List.setIfInBounds_toArray, List.set_cons_zero, List.set_cons_succ]
            refine wpAnyH_take (i := 11) (oi := q6w11) (v := ?_) rfl (by kernel_rfl) (by kernel_rfl) (by kernel_rfl) (fun _ _ _ h => h) (Or.inl ⟨by rfl, ?_⟩) hHeld ?_
            rotate_left
            · (intro w hSw; (try dsimp only at hSw); unfold q6w11; go_simp <;> with_reducible rfl)
            try simp only [q6w11, Act.put, List.setIfInBounds_toArray, List.set_cons_zero, List.set_cons_succ]
            refine wpAnyH_ready (rs := [13]) (by kernel_rfl) (by simp) ?_
            refine AllReadyH.cons (o := q6w13) rfl (fun K hK => ?_) AllReadyH.nil
            rw [if_pos (by rfl)]
            refine wp_st25t (.tmp 15) (.tmp 69) (by rfl) bz _ _ _ _ _ (by rfl) (by rfl) hA10 rfl ht10 rfl ?_
            intro Wz hGz hAz htz
            have hbz := (show Boxed _ bz none 0 0 none 0 0 0 false Dk.zero from ⟨hlt10, hA10, zero_at _ _, ht10⟩).store hGz hAz htz hu HZF.out
            have hBz := below_grow hB8 hGz (fun q e => by cases e; exact le10) hB8.size
            refine hK.out _ _ (HS.out _ hBz) (fun hHeld => ?_)
            clear hK K
            try simp only [q6w13, Act.put]
            refine wpAnyH_ready (rs := [14]) (by kernel_rfl) (by simp) ?_
            refine AllReadyH.cons (o := q6w14) rfl (fun K hK => ?_) AllReadyH.nil
            rw [if_pos (by rfl)]
            unfold q6w14
            go_simp
            refine hK.out _ _ hHeld (fun hHeld => ?_)
            clear hK K
            try simp only [q6w14, Act.put, List.setIfInBounds_toArray, List.set_cons_zero, List.set_cons_succ]
            refine wpAnyH_done (by kernel_rfl) ?_ _
            refine hM3 _ _ ?_
            go_meet
            exact ⟨bz, rfl, rfl, ⟨_, _, _, _, _, _, _, _, hbz⟩, hBz, le10⟩
        case rest =>
          clear HS HWC HDB j0 j1 j2
          obtain ⟨bz, rfl, rfl, ⟨s2, k2, c2, a2, p2, q2, l2', t2, hz⟩, hBz, lez⟩ := hcut
          obtain ⟨z0, z1, z2, z3⟩ := hz.four
          have HTC := Lib.hid (HT15.out.next hBz)
          have HAC := Lib.hid (HA15.out.below hBz (by omega))
          have HU := Lib.hid hz.dk
          obtain ⟨s3, k3, c3, a3, p3, q3, l3', t3, hb5c⟩ := HTC.out.x5
          have HB5C := Lib.hid hb5c
          have h145 : b14 ≠ b5 := by have := HTC.out.l58; have := HTC.out.l89; have := HTC.out.l9x; omega
          have h148 : b14 ≠ b8 := by have := HTC.out.l89; have := HTC.out.l9x; omega
          have h14c : b14 < wc.heap.size := by have := hBz.size; omega
          have hlx := HTC.out.a10.lt
          clear hz hBz hb5c
          have harm : ∀ W9, wc.grownBy W9 (some b5) → BoxAt W9 b5 Z → ∃ (u8 : Value) (g' cap' : Nat) (W12 : World), W9.cell? ⟨b14, 1, none⟩ = some (.int .u8 t) ∧ W9.cell? ⟨b14, 2, none⟩ = some (.int .u8 c.toNat) ∧ W9.cell? ⟨b8, q4, none⟩ = some u8 ∧ W9.frozen? ⟨b8, q4, none⟩ = false ∧
              (∀ v, (W9.setCell ⟨b8, q4, none⟩ v).cell? ⟨b14, 0, none⟩ = some (.bool false)) ∧ (∀ v, (W9.setCell ⟨b8, q4, none⟩ v).cell? ⟨b14, 1, none⟩ = some (.int .u8 t)) ∧ (∀ v, (W9.setCell ⟨b8, q4, none⟩ v).cell? ⟨b14, 2, none⟩ = some (.int .u8 c.toNat)) ∧
              (Builtin.append_ #[43, 43] 43 #[.slice (some ⟨g, 0, none⟩) q cap, .slice (some ⟨W9.heap.size, 0, none⟩) 1 1]).run Try.prog ((W9.setCell ⟨b8, q4, none⟩ (.int .u8 c.toNat)).alloc (.cells #[.bool false, .int .u8 t, .int .u8 c.toNat] 46)) = .ok (.slice (some ⟨g', 0, none⟩) (q + 1) cap') W12 ∧
              LH w (some ⟨sb, so, none⟩) n yc l b5 b8 b9 b10 Z (ups F (wt ++ [a])) F F g' (q + 1) cap' (wt ++ [a]) W12 := fun W9 hG9 hx9 => by
            have hT9 := HTC.out.st5 hG9 hx9 HZW.out
            have hA9 := HAC.out.moved hG9 h14c (by simpa using h145)
            have hl8 : q4 < (cells8 (ups F wt)).length := by rw [cells8_len, hT9.a8.len]; exact hq4l
            have hc : ∀ i v, (W9.setCell ⟨b8, q4, none⟩ v).cell? ⟨b14, i, none⟩ = W9.cell? ⟨b14, i, none⟩ := fun i v => World.cell?_setCell_other _ _ _ _ (fun h => by injection h; omega)
            have hG10 := grown_setCell (W := W9) (b := b8) q4 (.int .u8 c.toNat)
            have hT10 := hT9.st8 hG10 (hT9.a8.set hq4l c)
            have hB11 : Below (W9.setCell ⟨b8, q4, none⟩ (.int .u8 c.toNat)).heap.size (W9.setCell ⟨b8, q4, none⟩ (.int .u8 c.toNat)) ((W9.setCell ⟨b8, q4, none⟩ (.int .u8 c.toNat)).alloc (.cells #[.bool false, .int .u8 t, .int .u8 c.toNat] 46)) := (Below.refl _ _).alloc (Nat.le_refl _) _
            have hT11 := hT10.next hB11
            have hN := Arr.new (W9.setCell ⟨b8, q4, none⟩ (.int .u8 c.toNat)) #[.bool false, .int .u8 t, .int .u8 c.toNat] 46
            have hsz : (W9.setCell ⟨b8, q4, none⟩ (.int .u8 c.toNat)).heap.size = W9.heap.size := by simp
            rw [hsz] at hN
            have hN' : Arr ((W9.setCell ⟨b8, q4, none⟩ (.int .u8 c.toNat)).alloc (.cells #[.bool false, .int .u8 t, .int .u8 c.toNat] 46)) W9.heap.size [.bool a.sync, .int .u8 a.at_.toNat, .int .u8 a.byte.toNat] := by
              rw [HSY.out, HTT.out, HCC.out]; exact hN
            obtain ⟨g', cap', W12, hrun, hrow, hG12, hg⟩ := acts_app hT11.row (by omega) hN'
            have hg' : b10 < g' := by
              have h1 := hT11.lxg
              have h2 := hT11.a10.lt
              rcases hg with h | h <;> omega
            have hT12 := hT11.app hG12 hrow hg'
            rw [show (ups F wt).set q4 c = ups F (wt ++ [a]) by rw [ups_snoc, HTT.out, HCC.out, hq4]] at hT12
            exact ⟨_, g', cap', W12, hA9.cell rfl, hA9.cell rfl, hT9.a8.arr.cell (List.getElem?_eq_getElem hl8), hT9.a8.arr.frozen hl8, fun v => (hc _ v).trans (hA9.cell rfl), fun v => (hc _ v).trans (hA9.cell rfl), fun v => (hc _ v).trans (hA9.cell rfl), hrun, hT12⟩
          have HARM := Lib.hid harm
          clear harm
          go_wp2_with (first | (refine store_box rfl (.tmp 5) (.tmp 73) rfl HB5C.out (by rfl) (by rfl) HU.out HZF.out ?_; intro W9 hG9 hx9; obtain ⟨u8, g', cap', W12, m1, m2, k8, f8, n0, n1, n2, hrun, hT12⟩ := HARM.out W9 hG9 ⟨_, _, _, _, _, _, _, _, hx9⟩; have HRUN := Lib.hid hrun; have HT12 := Lib.hid hT12; clear hrun hT12 hx9) | (at_builtin; refine wpList_append_run rfl (.tmp 80) (.tmp 82) 43 43 rfl _ _ _ _ (by rfl) (by rfl) HRUN.out ?_))
          go_meet
          case rel => exact ⟨g', q + 1, cap', room, F, wt ++ [a], rfl, rfl, by omega, hrm, hF, by rw [HZ.out]; exact HT12.out⟩
      | true =>
        by_cases hst : room < q
        · have hXE := hd_stop hF (show wt.length ≤ 4096 by omega) (show room ≤ 65536 by omega) (show room < wt.length by omega)
          have dst1 : decide ((room : Int) < (q : Int)) = true := by simp; omega
          have dst2 : decide (room < q) = true := by simpa using hst
          have h23 := fun W v h => sync_any W (Hd F wt room) v h
          rw [hXE] at h23
          simp only at h23
          obtain ⟨X, hX⟩ : ∃ X, (⟨zs (ups F (wt.take (room + 1))) (ups F (wt.take room)), [], 0, true⟩ : Dk) = X := ⟨_, rfl⟩
          rw [hX] at h23
          have hXw : X.wide := by rw [← hX]; exact wide_hd (l := [])
          obtain ⟨k7, hx1⟩ : ∃ x, X.sec.length = x := ⟨_, rfl⟩
          obtain ⟨p7, hx2⟩ : ∃ x, X.pen.length = x := ⟨_, rfl⟩
          obtain ⟨l7, hx3⟩ : ∃ x, X.left = x := ⟨_, rfl⟩
          obtain ⟨t7, ht7⟩ : ∃ x : Bool, x = true := ⟨_, rfl⟩
          have hx4 : X.stop = t7 := by rw [ht7, ← hX]
          have HT7B := Lib.hid ht7
          clear ht7
          have HX1 := Lib.hid hx1
          have HX2 := Lib.hid hx2
          have HX3 := Lib.hid hx3
          have HX4 := Lib.hid hx4
          have HX := Lib.hid hX
          have HXW := Lib.hid hXw
          have H23 := Lib.hid h23
          obtain ⟨sx, kx, cx, ax, px, qx, lx, tx, hbx⟩ := HT15.out.x5
          obtain ⟨x0, x1, x2, x3⟩ := hbx.four
          obtain ⟨j0, j1, j2⟩ : W15.cell? ⟨b14, 0, none⟩ = some (.bool true) ∧ W15.cell? ⟨b14, 1, none⟩ = some (.int .u8 t) ∧ W15.cell? ⟨b14, 2, none⟩ = some (.int .u8 c.toNat) := ⟨HA15.out.cell rfl, HA15.out.cell rfl, HA15.out.cell rfl⟩
          have HBX := Lib.hid hbx
          clear h23 hX hXw hx1 hx2 hx3 hx4 hbx hXE
          go_wp2_with fail
          refine (H23.out _ _ HBX.out.dk).mono ?_
          rintro e W6 ⟨u, rfl, hu, hB6⟩
          clear x0 x1 x2 x3 j0 j1 j2
          obtain ⟨s7, c7, a7, q7, W7, rfl, hW7, hX7, hB7, -⟩ := hu.box HX1.out HX2.out HX3.out HX4.out
          have HW := Lib.hid hW7
          have HT7 := Lib.hid ((HT15.out.next hB6).next hB7)
          obtain ⟨b17, hb17⟩ : ∃ b, W6.heap.size = b := ⟨_, rfl⟩
          rw [hb17] at hX7
          have h1017 : b10 < b17 := by have := (HT15.out.next hB6).a10.lt; omega
          have h517 : b5 < b17 := by have := HT15.out.l58; have := HT15.out.l89; have := HT15.out.l9x; omega
          have HX7 : Hid (BoxAt W7 b17 X) := Lib.hid ⟨_, _, _, _, _, _, _, _, hX7⟩
          have HX7b := Lib.hid hX7
          clear hu hB6 hB7 hW7 hX7
          go_wp2
          rw [← HW.out]
          go_loopw [20] (fun i wQ => ∃ kk : Nat, i = .int .i64 kk ∧ kk ≤ q ∧ kk ≤ room + 1 ∧ LH w (some ⟨sb, so, none⟩) n yc l b5 b8 b9 b10 (Hd F wt room) (ups F wt) (ups F (wt.take kk)) (ups F (wt.take (min kk room))) g q cap wt wQ ∧ Boxed wQ b17 s7 k7 c7 a7 p7 q7 l7 t7 X) (fun i _ => q - (intOf i).toNat)
          case atStart => exact ⟨0, rfl, Nat.zero_le _, Nat.zero_le _, by rw [Nat.zero_min, List.take_zero]; exact HT7.out, HX7b.out⟩
          case round =>
          clear HT7 HX7 HX7b HBX H23
          obtain ⟨kk, rfl, hkq, hkr, hT, hx⟩ := hrel
          by_cases hgo : kk < q ∧ kk ≤ room
          · obtain ⟨hk1, hk2⟩ := hgo
            have hkw : kk < wt.length := by omega
            obtain ⟨-, r1, r2⟩ := hT.row.acts kk hkw
            rw [Nat.zero_add] at r1 r2
            have hun := ups_next F wt kk hkw
            obtain ⟨tk, htk⟩ : ∃ t, wt[kk].at_.toNat = t := ⟨_, rfl⟩
            obtain ⟨ck, hck⟩ : ∃ c, wt[kk].byte = c := ⟨_, rfl⟩
            have htk256 : tk < 256 := by rw [← htk]; exact wt[kk].at_.toNat_lt
            rw [htk] at r1 hun
            rw [hck] at r2 hun
            obtain ⟨qk, hqk⟩ : ∃ x, tk % 4 = x := ⟨_, rfl⟩
            have hqkl : qk < 4 := by omega
            have htm : (tk : Int).tmod 4 = (qk : Int) := by rw [← hqk]; rfl
            have htm2 : (tk : Int) % 4 = (qk : Int) := by rw [← hqk]; rfl
            have hqki : (qk : Int) < 4 := by omega
            rw [hqk] at hun
            have dk1 : decide ((kk : Int) < (q : Int)) = true := by simp; omega
            have dk2 : decide ((kk : Int) ≤ (room : Int)) = true := by simp; omega
            have dk3 : decide (kk < q) = true := by simpa using hk1
            have dk4 : decide (kk ≤ room) = true := by simpa using hk2
            have hl9 : qk < (cells8 (ups F (wt.take kk))).length := by rw [cells8_len, hT.a9.len]; exact hqkl
            obtain ⟨u9, hu9⟩ : ∃ u, (cells8 (ups F (wt.take kk)))[qk] = u := ⟨_, rfl⟩
            have k9 := hT.a9.arr.cell (List.getElem?_eq_getElem hl9)
            rw [hu9] at k9
            have f9 := hT.a9.arr.frozen hl9
            have hl1 := hT.l89
            have hl2 := hT.l9x
            have hl3 := hT.lxg
            have hG28 := grown_setCell (W := wr) (b := b9) qk (.int .u8 ck.toNat)
            have hT28 := hT.st9 hG28 (hT.a9.set hqkl ck)
            have hx28 := BoxedAside hx hT.a9.alien (by omega) hG28 HXW.out
            rw [← hun] at hT28
            have HSR : Hid (wr.drew.cell? ⟨g, kk * 3 + 1, none⟩ = some (.int .u8 tk) ∧ wr.drew.cell? ⟨g, kk * 3 + 2, none⟩ = some (.int .u8 ck.toNat)) := Lib.hid ⟨r1, r2⟩
            have HSF : Hid ((wr.setCell ⟨b9, qk, none⟩ (.int .u8 ck.toNat)).cell? ⟨g, kk * 3 + 1, none⟩ = some (.int .u8 tk) ∧ (wr.setCell ⟨b9, qk, none⟩ (.int .u8 ck.toNat)).cell? ⟨g, kk * 3 + 2, none⟩ = some (.int .u8 ck.toNat)) := Lib.hid ⟨by rw [World.cell?_setCell_other _ _ _ _ (by intro h; injection h; omega)]; exact r1, by rw [World.cell?_setCell_other _ _ _ _ (by intro h; injection h; omega)]; exact r2⟩
            have HT28 := Lib.hid hT28
            have HX28 := Lib.hid hx28
            have HUN := Lib.hid hun
            clear hT hx r1 r2 hun htk hck hqk hkw hl9 hu9 hG28 hT28 hx28
            go_wp2
            refine wp_region_held_drew (S := fun W => W.cell? ⟨g, kk * 3 + 1, none⟩ = some (.int .u8 tk) ∧ W.cell? ⟨g, kk * 3 + 2, none⟩ = some (.int .u8 ck.toNat)) (by kernel_rfl) HSR.out (fun hHeld => ?_)
            refine wpAnyH_take (i := 0) (oi := q6f0) (v := ?_) rfl (by kernel_rfl) (by kernel_rfl) (by kernel_rfl) (fun _ _ _ h => h) (Or.inl ⟨by rfl, ?_⟩) hHeld ?_
            rotate_left
            · (intro w hSw; (try dsimp only at hSw); unfold q6f0; go_simp <;> with_reducible rfl)
            try simp only [q6f0, Act.put, List.setIfInBounds_toArray, List.set_cons_zero, List.set_cons_succ]
            refine wpAnyH_take (i := 1) (oi := q6f1) (v := ?_) rfl (by kernel_rfl) (by kernel_rfl) (by kernel_rfl) (fun _ _ _ h => h) (Or.inl ⟨by rfl, ?_⟩) hHeld ?_
            rotate_left
            · (intro w hSw; (try dsimp only at hSw); unfold q6f1; go_simp <;> with_reducible rfl)
            try simp only [q6f1, Act.put, List.setIfInBounds_toArray, List.set_cons_zero, List.set_cons_succ]
            refine wpAnyH_take (i := 2) (oi := q6f2) (v := ?_) rfl (by kernel_rfl) (by kernel_rfl) (by kernel_rfl) (fun _ _ _ h => h) (Or.inl ⟨by rfl, ?_⟩) hHeld ?_
            rotate_left
            · (intro w hSw; (try dsimp only at hSw); unfold q6f2; go_simp <;> with_reducible rfl)
            try simp only [q6f2, Act.put, List.setIfInBounds_toArray, List.set_cons_zero, List.set_cons_succ]
            refine wpAnyH_take (i := 3) (oi := q6f3) (v := ?_) rfl (by kernel_rfl) (by kernel_rfl) (by kernel_rfl) (fun _ _ _ h => h) (Or.inl ⟨by rfl, ?_⟩) hHeld ?_
            rotate_left
            · (intro w hSw; (try dsimp only at hSw); unfold q6f3; go_simp <;> with_reducible rfl)
            try simp only [q6f3, Act.put, List.setIfInBounds_toArray, List.set_cons_zero, List.set_cons_succ]
            refine wpAnyH_take (i := 4) (oi := q6f4) (v := ?_) rfl (by kernel_rfl) (by kernel_rfl) (by kernel_rfl) (fun _ _ _ h => h) (Or.inl ⟨by rfl, ?_⟩) hHeld ?_
            rotate_left
            · (intro w hSw; (try dsimp only at hSw); unfold q6f4; go_simp <;> with_reducible rfl)
            try simp only [q6f4, Act.put, List.setIfInBounds_toArray, List.set_cons_zero, List.set_cons_succ]
            refine wpAnyH_take (i := 5) (oi := q6f5) (v := ?_) rfl (by kernel_rfl) (by kernel_rfl) (by kernel_rfl) (fun _ _ _ h => h) (Or.inl ⟨by rfl, ?_⟩) hHeld ?_
            rotate_left
            · (intro w hSw; (try dsimp only at hSw); unfold q6f5; go_simp <;> with_reducible rfl)
            try simp only [q6f5, Act.put, List.setIfInBounds_toArray, List.set_cons_zero, List.set_cons_succ]
            refine wpAnyH_take (i := 6) (oi := q6f6) (v := ?_) rfl (by kernel_rfl) (by kernel_rfl) (by kernel_rfl) (fun _ _ _ h => h) (Or.inl ⟨by rfl, ?_⟩) hHeld ?_
            rotate_left
            · (intro w hSw; (try dsimp only at hSw); unfold q6f6; go_simp <;> with_reducible rfl)
            try simp only [q6f6, Act.put, List.setIfInBounds_toArray, List.set_cons_zero, List.set_cons_succ]
            refine wpAnyH_take (i := 7) (oi := q6f7) (v := ?_) rfl (by kernel_rfl) (by kernel_rfl) (by kernel_rfl) (fun _ _ _ h => h) (Or.inl ⟨by rfl, ?_⟩) hHeld ?_
            rotate_left
            · (intro w hSw; (try dsimp only at hSw); unfold q6f7; go_simp <;> with_reducible rfl)
            try simp only [q6f7, Act.put, List.setIfInBounds_toArray, List.set_cons_zero, List.set_cons_succ]
            refine wpAnyH_take (i := 8) (oi := q6f8) (v := ?_) rfl (by kernel_rfl) (by kernel_rfl) (by kernel_rfl) (fun _ _ _ h => h) (Or.inl ⟨by rfl, ?_⟩) hHeld ?_
            rotate_left
            · (intro w hSw; (try dsimp only at hSw); unfold q6f8; go_simp <;> with_reducible rfl)
            try simp only [q6f8, Act.put, List.setIfInBounds_toArray, List.set_cons_zero, List.set_cons_succ]
            refine wpAnyH_take (i := 9) (oi := q6f9) (v := ?_) rfl (by kernel_rfl) (by kernel_rfl) (by kernel_rfl) (fun _ _ _ h => h) (Or.inl ⟨by rfl, ?_⟩) hHeld ?_
            rotate_left
            · (intro w hSw; (try dsimp only at hSw); unfold q6f9; go_simp <;> with_reducible rfl)
            try simp only [q6f9, Act.put, List.setIfInBounds_toArray, List.set_cons_zero, List.set_cons_succ]
            refine wpAnyH_take (i := 10) (oi := q6f10) (v := ?_) rfl (by kernel_rfl) (by kernel_rfl) (by kernel_rfl) (fun _ _ _ h => h) (Or.inl ⟨by rfl, ?_⟩) hHeld ?_
            rotate_left
            · (intro w hSw; (try dsimp only at hSw); unfold q6f10; go_simp <;> with_reducible rfl)
            try simp only [q6f10, Act.put, List.setIfInBounds_toArray, List.set_cons_zero, List.set_cons_succ]
            refine wpAnyH_take (i := 11) (oi := q6f11) (v := ?_) rfl (by kernel_rfl) (by kernel_rfl) (by kernel_rfl) (fun _ _ _ h => h) (Or.inl ⟨by rfl, ?_⟩) hHeld ?_
            rotate_left
            · (intro w hSw; (try dsimp only at hSw); unfold q6f11; go_simp <;> with_reducible rfl)
            try simp only [q6f11, Act.put, List.setIfInBounds_toArray, List.set_cons_zero, List.set_cons_succ]
            refine wpAnyH_ready (rs := [12]) (by kernel_rfl) (by simp) ?_
            refine AllReadyH.cons (o := q6f12) rfl (fun K hK => ?_) AllReadyH.nil
            rw [if_pos (by rfl)]
            unfold q6f12
            go_simp
            refine hK.out _ _ HSF.out (fun hHeld => ?_)
            clear hK K
            try simp only [q6f12, Act.put]
            refine wpAnyH_done (by kernel_rfl) ?_ _
            clear hHeld
            obtain ⟨W28, hW28⟩ : ∃ W, W = wr.setCell ⟨b9, qk, none⟩ (.int .u8 ck.toNat) := ⟨_, rfl⟩
            rw [← hW28] at HT28 HX28 HSF
            try rw [← hW28]
            clear hW28 k9 f9 HSR
            by_cases hk3 : kk < room
            · have dk5 : decide ((kk : Int) < (room : Int)) = true := by simp; omega
              have dk6 : decide (kk < room) = true := by simpa using hk3
              have hl10 : qk < (cells8 (ups F (wt.take (min kk room)))).length := by rw [cells8_len, HT28.out.a10.len]; exact hqkl
              obtain ⟨u10, hu10⟩ : ∃ u, (cells8 (ups F (wt.take (min kk room))))[qk] = u := ⟨_, rfl⟩
              have k10 := HT28.out.a10.arr.cell (List.getElem?_eq_getElem hl10)
              rw [hu10] at k10
              have f10 := HT28.out.a10.arr.frozen hl10
              have hG30 := grown_setCell (W := W28) (b := b10) qk (.int .u8 ck.toNat)
              have hT30 := HT28.out.st10 hG30 (HT28.out.a10.set hqkl ck)
              have hx30 := BoxedAside HX28.out HT28.out.a10.alien (by omega) hG30 HXW.out
              have HSR2 : Hid (W28.drew.cell? ⟨g, kk * 3 + 1, none⟩ = some (.int .u8 tk) ∧ W28.drew.cell? ⟨g, kk * 3 + 2, none⟩ = some (.int .u8 ck.toNat)) := Lib.hid HSF.out
              have HSS : Hid ((W28.setCell ⟨b10, qk, none⟩ (.int .u8 ck.toNat)).cell? ⟨g, kk * 3 + 1, none⟩ = some (.int .u8 tk) ∧ (W28.setCell ⟨b10, qk, none⟩ (.int .u8 ck.toNat)).cell? ⟨g, kk * 3 + 2, none⟩ = some (.int .u8 ck.toNat)) := Lib.hid ⟨by rw [World.cell?_setCell_other _ _ _ _ (by intro h; injection h; omega)]; exact HSF.out.1, by rw [World.cell?_setCell_other _ _ _ _ (by intro h; injection h; omega)]; exact HSF.out.2⟩
              have hm1 : min kk room = kk := by omega
              have hm2 : min (kk + 1) room = kk + 1 := by omega
              rw [hm1, ← HUN.out] at hT30
              have HT30 : Hid (LH w (some ⟨sb, so, none⟩) n yc l b5 b8 b9 b10 (Hd F wt room) (ups F wt) (ups F (wt.take (kk + 1))) (ups F (wt.take (min (kk + 1) room))) g q cap wt (W28.setCell ⟨b10, qk, none⟩ (.int .u8 ck.toNat))) := Lib.hid (by rw [hm2]; exact hT30)
              have HX30 := Lib.hid hx30
              obtain ⟨r1, r2⟩ := HSF.out
              clear hT30 hx30 hu10 hl10 hG30 hm1 hm2 HT28 HX28
              go_wp2
              refine wp_region_held_drew (S := fun W => W.cell? ⟨g, kk * 3 + 1, none⟩ = some (.int .u8 tk) ∧ W.cell? ⟨g, kk * 3 + 2, none⟩ = some (.int .u8 ck.toNat)) (by kernel_rfl) HSR2.out (fun hHeld => ?_)
              refine wpAnyH_take (i := 0) (oi := q6s0) (v := ?_) rfl (by kernel_rfl) (by kernel_rfl) (by kernel_rfl) (fun _ _ _ h => h) (Or.inl ⟨by rfl, ?_⟩) hHeld ?_
              rotate_left
              · (intro w hSw; (try dsimp only at hSw); unfold q6s0; go_simp <;> with_reducible rfl)
              try simp only [q6s0, Act.put, List.setIfInBounds_toArray, List.set_cons_zero, List.set_cons_succ]
              refine wpAnyH_take (i := 1) (oi := q6s1) (v := ?_) rfl (by kernel_rfl) (by kernel_rfl) (by kernel_rfl) (fun _ _ _ h => h) (Or.inl ⟨by rfl, ?_⟩) hHeld ?_
              rotate_left
              · (intro w hSw; (try dsimp only at hSw); unfold q6s1; go_simp <;> with_reducible rfl)
              try simp only [q6s1, Act.put, List.setIfInBounds_toArray, List.set_cons_zero, List.set_cons_succ]
              refine wpAnyH_take (i := 2) (oi := q6s2) (v := ?_) rfl (by kernel_rfl) (by kernel_rfl) (by kernel_rfl) (fun _ _ _ h => h) (Or.inl ⟨by rfl, ?_⟩) hHeld ?_
              rotate_left
              · (intro w hSw; (try dsimp only at hSw); unfold q6s2; go_simp <;> with_reducible rfl)
              try simp only [q6s2, Act.put, List.setIfInBounds_toArray, List.set_cons_zero, List.set_cons_succ]
              refine wpAnyH_take (i := 3) (oi := q6s3) (v := ?_) rfl (by kernel_rfl) (by kernel_rfl) (by kernel_rfl) (fun _ _ _ h => h) (Or.inl ⟨by rfl, ?_⟩) hHeld ?_
              rotate_left
              · (intro w hSw; (try dsimp only at hSw); unfold q6s3; go_simp <;> with_reducible rfl)
              try simp only [q6s3, Act.put, List.setIfInBounds_toArray, List.set_cons_zero, List.set_cons_succ]
              refine wpAnyH_take (i := 4) (oi := q6s4) (v := ?_) rfl (by kernel_rfl) (by kernel_rfl) (by kernel_rfl) (fun _ _ _ h => h) (Or.inl ⟨by rfl, ?_⟩) hHeld ?_
              rotate_left
              · (intro w hSw; (try dsimp only at hSw); unfold q6s4; go_simp <;> with_reducible rfl)
              try simp only [q6s4, Act.put, List.setIfInBounds_toArray, List.set_cons_zero, List.set_cons_succ]
              refine wpAnyH_take (i := 5) (oi := q6s5) (v := ?_) rfl (by kernel_rfl) (by kernel_rfl) (by kernel_rfl) (fun _ _ _ h => h) (Or.inl ⟨by rfl, ?_⟩) hHeld ?_
              rotate_left
              · (intro w hSw; (try dsimp only at hSw); unfold q6s5; go_simp <;> with_reducible rfl)
              try simp only [q6s5, Act.put, List.setIfInBounds_toArray, List.set_cons_zero, List.set_cons_succ]
              refine wpAnyH_take (i := 6) (oi := q6s6) (v := ?_) rfl (by kernel_rfl) (by kernel_rfl) (by kernel_rfl) (fun _ _ _ h => h) (Or.inl ⟨by rfl, ?_⟩) hHeld ?_
              rotate_left
              · (intro w hSw; (try dsimp only at hSw); unfold q6s6; go_simp <;> with_reducible rfl)
              try simp only [q6s6, Act.put, List.setIfInBounds_toArray, List.set_cons_zero, List.set_cons_succ]
              refine wpAnyH_take (i := 7) (oi := q6s7) (v := ?_) rfl (by kernel_rfl) (by kernel_rfl) (by kernel_rfl) (fun _ _ _ h => h) (Or.inl ⟨by rfl, ?_⟩) hHeld ?_
              rotate_left
              · (intro w hSw; (try dsimp only at hSw); unfold q6s7; go_simp <;> with_reducible rfl)
              try simp only [q6s7, Act.put, List.setIfInBounds_toArray, List.set_cons_zero, List.set_cons_succ]
              refine wpAnyH_take (i := 8) (oi := q6s8) (v := ?_) rfl (by kernel_rfl) (by kernel_rfl) (by kernel_rfl) (fun _ _ _ h => h) (Or.inl ⟨by rfl, ?_⟩) hHeld ?_
              rotate_left
              · (intro w hSw; (try dsimp only at hSw); unfold q6s8; go_simp <;> with_reducible rfl)
              try simp only [q6s8, Act.put, List.setIfInBounds_toArray, List.set_cons_zero, List.set_cons_succ]
              refine wpAnyH_take (i := 9) (oi := q6s9) (v := ?_) rfl (by kernel_rfl) (by kernel_rfl) (by kernel_rfl) (fun _ _ _ h => h) (Or.inl ⟨by rfl, ?_⟩) hHeld ?_
              rotate_left
              · (intro w hSw; (try dsimp only at hSw); unfold q6s9; go_simp <;> with_reducible rfl)
              try simp only [q6s9, Act.put, List.setIfInBounds_toArray, List.set_cons_zero, List.set_cons_succ]
              refine wpAnyH_take (i := 10) (oi := q6s10) (v := ?_) rfl (by kernel_rfl) (by kernel_rfl) (by kernel_rfl) (fun _ _ _ h => h) (Or.inl ⟨by rfl, ?_⟩) hHeld ?_
              rotate_left
              · (intro w hSw; (try dsimp only at hSw); unfold q6s10; go_simp <;> with_reducible rfl)
              try simp only [q6s10, Act.put, List.setIfInBounds_toArray, List.set_cons_zero, List.set_cons_succ]
              refine wpAnyH_take (i := 11) (oi := q6s11) (v := ?_) rfl (by kernel_rfl) (by kernel_rfl) (by kernel_rfl) (fun _ _ _ h => h) (Or.inl ⟨by rfl, ?_⟩) hHeld ?_
              rotate_left
              · (intro w hSw; (try dsimp only at hSw); unfold q6s11; go_simp <;> with_reducible rfl)
              try simp only [q6s11, Act.put, List.setIfInBounds_toArray, List.set_cons_zero, List.set_cons_succ]
              refine wpAnyH_ready (rs := [12]) (by kernel_rfl) (by simp) ?_
              refine AllReadyH.cons (o := q6s12) rfl (fun K hK => ?_) AllReadyH.nil
              rw [if_pos (by rfl)]
              unfold q6s12
              go_simp
              refine hK.out _ _ HSS.out (fun hHeld => ?_)
              clear hK K
              try simp only [q6s12, Act.put]
              refine wpAnyH_done (by kernel_rfl) ?_ _
              clear hHeld
              go_wp2
              go_roundw
              case rel => first | exact ⟨kk + 1, by go_num, by omega, by omega, HT30.out, HX30.out⟩ | exact ⟨kk + 1, by go_num, by omega, by omega, HT30.out.next (Below.drew (Below.drew (Below.refl _ _))), HX30.out.next (Below.drew (Below.drew (Below.refl _ _)))⟩
              case measure => simp [intOf]; omega
            · have dk5 : decide ((kk : Int) < (room : Int)) = false := by simp; omega
              have dk6 : decide (kk < room) = false := by simpa using hk3
              have HT30 : Hid (LH w (some ⟨sb, so, none⟩) n yc l b5 b8 b9 b10 (Hd F wt room) (ups F wt) (ups F (wt.take (kk + 1))) (ups F (wt.take (min (kk + 1) room))) g q cap wt W28) := Lib.hid (by rw [show min (kk + 1) room = min kk room by omega]; exact HT28.out)
              go_wp2
              go_roundw
              case rel => first | exact ⟨kk + 1, by go_num, by omega, by omega, HT30.out, HX28.out⟩ | exact ⟨kk + 1, by go_num, by omega, by omega, HT30.out.next (Below.drew (Below.refl _ _)), HX28.out.next (Below.drew (Below.refl _ _))⟩
              case measure => simp [intOf]; omega
          · skip
            have hkk : kk = room + 1 := by
              by_cases h : kk < q
              · have : ¬ kk ≤ room := fun h' => hgo ⟨h, h'⟩
                omega
              · omega
            have hmm : min kk room = room := by omega
            rw [hmm] at hT
            obtain ⟨Fi, hFi⟩ : ∃ Fi, ups F (wt.take kk) = Fi := ⟨_, rfl⟩
            obtain ⟨Se, hSe⟩ : ∃ Se, ups F (wt.take room) = Se := ⟨_, rfl⟩
            rw [hFi, hSe] at hT
            have hF4 : Fi.length = 4 := by rw [← hFi, ups_len, hF]
            have hS4 : Se.length = 4 := by rw [← hSe, ups_len, hF]
            have hXR : X.restart = ⟨zs Fi Se, wr4 [], -1, false⟩ := by rw [← HX.out, ← hkk, hFi, hSe]; rfl
            have hRd : ∀ (i : Nat) (h1 : i < Fi.length) (h2 : i < Se.length), X.restart.read i = (hb Fi[i] Se[i], 0) := fun i h1 h2 => by
              rw [hXR]; exact hd_read (wt := []) hF4 hS4 (by simp) ⟨by omega, by omega⟩ i h1 h2
            have HHOF : ∀ W u, DkAt W W.heap.size u X.restart → Calls Try.prog 28 #[u, .agg (cells8 Fi).toArray, .agg (cells8 Se).toArray] W fun e w' => e = .returned (.bool true) ∧ Below W.heap.size W w' := fun W u h => holds_any W X.restart u Fi Se hF4 hS4 h hRd
            have hrs := fun W (hW : Below wr.heap.size wr W) => restart_any W X (.agg #[.slice s7 k7 c7, .slice a7 p7 q7, .int .i64 l7, .bool t7]) (hx.dk.next hW) 17 (.inl rfl)
            obtain ⟨R, hR⟩ : ∃ R, X.restart = R := ⟨_, rfl⟩
            rw [hR] at hrs HHOF
            have dex : (decide ((kk : Int) < (q : Int)) = true ∧ decide (kk < q) = true ∧ decide ((kk : Int) ≤ (room : Int)) = false ∧ decide (kk ≤ room) = false) ∨ (decide ((kk : Int) < (q : Int)) = false ∧ decide (kk < q) = false) := by
              by_cases h : kk < q
              · exact .inl ⟨by simp; omega, by simpa using h, by simp; omega, by simp; omega⟩
              · exact .inr ⟨by simp; omega, by simpa using h⟩
            have HBW := Lib.hid hT.bel
            have l17 := hx.lt
            have l9 := hT.a9.lt
            have l10 := hT.a10.lt
            clear hXR hRd hFi hSe hR hkk hgo hmm
            obtain ⟨f0, f1, f2, f3, rfl⟩ := four_list hF4
            obtain ⟨s0, s1, s2, s3, rfl⟩ := four_list hS4
            have HHO : Hid (∀ W u, DkAt W W.heap.size u R → Calls Try.prog 28 #[u, .agg #[.int .u8 f0.toNat, .int .u8 f1.toNat, .int .u8 f2.toNat, .int .u8 f3.toNat], .agg #[.int .u8 s0.toNat, .int .u8 s1.toNat, .int .u8 s2.toNat, .int .u8 s3.toNat]] W fun e w' => e = .returned (.bool true) ∧ Below W.heap.size W w') := Lib.hid HHOF
            have HRS := Lib.hid hrs
            have HS : Hid (∀ W, Below wr.heap.size wr W → Below wr.heap.size wr W ∧ W.cell? ⟨b17, 0, none⟩ = some (.slice s7 k7 c7) ∧ W.cell? ⟨b17, 1, none⟩ = some (.slice a7 p7 q7) ∧ W.cell? ⟨b17, 2, none⟩ = some (.int .i64 l7) ∧ W.cell? ⟨b17, 3, none⟩ = some (.bool t7) ∧ W.cell? ⟨b9, 0, none⟩ = some (.int .u8 f0.toNat) ∧ W.cell? ⟨b9, 1, none⟩ = some (.int .u8 f1.toNat) ∧ W.cell? ⟨b9, 2, none⟩ = some (.int .u8 f2.toNat) ∧ W.cell? ⟨b9, 3, none⟩ = some (.int .u8 f3.toNat) ∧ W.cell? ⟨b10, 0, none⟩ = some (.int .u8 s0.toNat) ∧ W.cell? ⟨b10, 1, none⟩ = some (.int .u8 s1.toNat) ∧ W.cell? ⟨b10, 2, none⟩ = some (.int .u8 s2.toNat) ∧ W.cell? ⟨b10, 3, none⟩ = some (.int .u8 s3.toNat)) := Lib.hid fun W hW => ⟨hW, (hW.cell (p := ⟨b17, 0, none⟩) l17).trans hx.four.1, (hW.cell (p := ⟨b17, 1, none⟩) l17).trans hx.four.2.1, (hW.cell (p := ⟨b17, 2, none⟩) l17).trans hx.four.2.2.1, (hW.cell (p := ⟨b17, 3, none⟩) l17).trans hx.four.2.2.2, (hW.cell (p := ⟨b9, 0, none⟩) l9).trans (hT.a9.arr.cell (i := 0) (v := .int .u8 f0.toNat) rfl), (hW.cell (p := ⟨b9, 1, none⟩) l9).trans (hT.a9.arr.cell (i := 1) (v := .int .u8 f1.toNat) rfl), (hW.cell (p := ⟨b9, 2, none⟩) l9).trans (hT.a9.arr.cell (i := 2) (v := .int .u8 f2.toNat) rfl), (hW.cell (p := ⟨b9, 3, none⟩) l9).trans (hT.a9.arr.cell (i := 3) (v := .int .u8 f3.toNat) rfl), (hW.cell (p := ⟨b10, 0, none⟩) l10).trans (hT.a10.arr.cell (i := 0) (v := .int .u8 s0.toNat) rfl), (hW.cell (p := ⟨b10, 1, none⟩) l10).trans (hT.a10.arr.cell (i := 1) (v := .int .u8 s1.toNat) rfl), (hW.cell (p := ⟨b10, 2, none⟩) l10).trans (hT.a10.arr.cell (i := 2) (v := .int .u8 s2.toNat) rfl), (hW.cell (p := ⟨b10, 3, none⟩) l10).trans (hT.a10.arr.cell (i := 3) (v := .int .u8 s3.toNat) rfl)⟩
            have y3 := hx.four.2.2.2
            clear hT hx hrs HHOF
            obtain rfl := HT7B.out
            have d40 : ((40 : Int) == 40) = true := by decide
            rcases dex with ⟨d1, d2, d3, d4⟩ | ⟨d1, d2⟩
            all_goals
              go_wp2
              refine wp_region_held_drew (S := fun W => Below wr.heap.size wr W ∧ W.cell? ⟨b17, 0, none⟩ = some (.slice s7 k7 c7) ∧ W.cell? ⟨b17, 1, none⟩ = some (.slice a7 p7 q7) ∧ W.cell? ⟨b17, 2, none⟩ = some (.int .i64 l7) ∧ W.cell? ⟨b17, 3, none⟩ = some (.bool true) ∧ W.cell? ⟨b9, 0, none⟩ = some (.int .u8 f0.toNat) ∧ W.cell? ⟨b9, 1, none⟩ = some (.int .u8 f1.toNat) ∧ W.cell? ⟨b9, 2, none⟩ = some (.int .u8 f2.toNat) ∧ W.cell? ⟨b9, 3, none⟩ = some (.int .u8 f3.toNat) ∧ W.cell? ⟨b10, 0, none⟩ = some (.int .u8 s0.toNat) ∧ W.cell? ⟨b10, 1, none⟩ = some (.int .u8 s1.toNat) ∧ W.cell? ⟨b10, 2, none⟩ = some (.int .u8 s2.toNat) ∧ W.cell? ⟨b10, 3, none⟩ = some (.int .u8 s3.toNat)) (by kernel_rfl) (HS.out _ (Below.drew (Below.refl _ _))) (fun hHeld => ?_)
              refine wpAnyH_take (i := 0) (oi := q6r0) (v := ?_) rfl (by kernel_rfl) (by kernel_rfl) (by kernel_rfl) (fun _ _ _ h => h) (Or.inl ⟨by rfl, ?_⟩) hHeld ?_
              rotate_left
              · (intro w hSw; (try dsimp only at hSw); unfold q6r0; go_simp <;> with_reducible rfl)
              try simp only [q6r0, Act.put, List.setIfInBounds_toArray, List.set_cons_zero, List.set_cons_succ]
              refine wpAnyH_take (i := 1) (oi := q6r1) (v := ?_) rfl (by kernel_rfl) (by kernel_rfl) (by kernel_rfl) (fun _ _ _ h => h) (Or.inl ⟨by rfl, ?_⟩) hHeld ?_
              rotate_left
              · (intro w hSw; (try dsimp only at hSw); unfold q6r1; go_simp <;> with_reducible rfl)
              try simp only [q6r1, Act.put, List.setIfInBounds_toArray, List.set_cons_zero, List.set_cons_succ]
              refine wpAnyH_take (i := 2) (oi := q6r2) (v := ?_) rfl (by kernel_rfl) (by kernel_rfl) (by kernel_rfl) (fun _ _ _ h => h) (Or.inl ⟨by rfl, ?_⟩) hHeld ?_
              rotate_left
              · (intro w hSw; (try dsimp only at hSw); unfold q6r2; go_simp <;> with_reducible rfl)
              try simp only [q6r2, Act.put, List.setIfInBounds_toArray, List.set_cons_zero, List.set_cons_succ]
              refine wpAnyH_take (i := 3) (oi := q6r3) (v := ?_) rfl (by kernel_rfl) (by kernel_rfl) (by kernel_rfl) (fun _ _ _ h => h) (Or.inl ⟨by rfl, ?_⟩) hHeld ?_
              rotate_left
              · (intro w hSw; (try dsimp only at hSw); unfold q6r3; go_simp <;> with_reducible rfl)
              try simp only [q6r3, Act.put, List.setIfInBounds_toArray, List.set_cons_zero, List.set_cons_succ]
              refine wpAnyH_take (i := 4) (oi := q6r4) (v := ?_) rfl (by kernel_rfl) (by kernel_rfl) (by kernel_rfl) (fun _ _ _ h => h) (Or.inl ⟨by rfl, ?_⟩) hHeld ?_
              rotate_left
              · (intro w hSw; (try dsimp only at hSw); unfold q6r4; go_simp <;> with_reducible rfl)
              try simp only [q6r4, Act.put, List.setIfInBounds_toArray, List.set_cons_zero, List.set_cons_succ]
              refine wpAnyH_take (i := 5) (oi := q6r5) (v := ?_) rfl (by kernel_rfl) (by kernel_rfl) (by kernel_rfl) (fun _ _ _ h => h) (Or.inl ⟨by rfl, ?_⟩) hHeld ?_
              rotate_left
              · (intro w hSw; (try dsimp only at hSw); unfold q6r5; go_simp <;> with_reducible rfl)
              try simp only [q6r5, Act.put, List.setIfInBounds_toArray, List.set_cons_zero, List.set_cons_succ]
              refine wpAnyH_take (i := 6) (oi := q6r6) (v := ?_) rfl (by kernel_rfl) (by kernel_rfl) (by kernel_rfl) (fun _ _ _ h => h) (Or.inl ⟨by rfl, ?_⟩) hHeld ?_
              rotate_left
              · (intro w hSw; (try dsimp only at hSw); unfold q6r6; go_simp <;> with_reducible rfl)
              try simp only [q6r6, Act.put, List.setIfInBounds_toArray, List.set_cons_zero, List.set_cons_succ]
              refine wpAnyH_take (i := 7) (oi := q6r7) (v := ?_) rfl (by kernel_rfl) (by kernel_rfl) (by kernel_rfl) (fun _ _ _ h => h) (Or.inl ⟨by rfl, ?_⟩) hHeld ?_
              rotate_left
              · (intro w hSw; (try dsimp only at hSw); unfold q6r7; go_simp <;> with_reducible rfl)
              try simp only [q6r7, Act.put, List.setIfInBounds_toArray, List.set_cons_zero, List.set_cons_succ]
              refine wpAnyH_take (i := 9) (oi := q6r9) (v := ?_) rfl (by kernel_rfl) (by kernel_rfl) (by kernel_rfl) (fun _ _ _ h => h) (Or.inl ⟨by rfl, ?_⟩) hHeld ?_
              rotate_left
              · (intro w hSw; (try dsimp only at hSw); unfold q6r9; go_simp <;> with_reducible rfl)
              try simp only [q6r9, Act.put, List.setIfInBounds_toArray, List.set_cons_zero, List.set_cons_succ]
              refine wpAnyH_take (i := 10) (oi := q6r10) (v := ?_) rfl (by kernel_rfl) (by kernel_rfl) (by kernel_rfl) (fun _ _ _ h => h) (Or.inl ⟨by rfl, ?_⟩) hHeld ?_
              rotate_left
              · (intro w hSw; (try dsimp only at hSw); unfold q6r10; go_simp <;> with_reducible rfl)
              try simp only [q6r10, Act.put, List.setIfInBounds_toArray, List.set_cons_zero, List.set_cons_succ]
              refine wpAnyH_ready (rs := [8]) (by kernel_rfl) (by simp) ?_
              refine AllReadyH.cons (o := q6r8) rfl (fun K hK => ?_) AllReadyH.nil
              rw [if_pos (by rfl)]
              unfold q6r8
              go_simp
              (with_reducible refine (HRS.out _ hHeld.1).mono ?_)
              rintro e w' ⟨u, rfl, hu, hB'⟩
              have hS' := HS.out _ (Below.trans hHeld.1 (hB'.mono hHeld.1.size))
              go_wp2_with fail
              refine hK.out _ _ hS' (fun hHeld => ?_)
              clear hK K
              try simp only [q6r8, Act.put, List.setIfInBounds_toArray, List.set_cons_zero, List.set_cons_succ]
              refine wpAnyH_ready (rs := [11]) (by kernel_rfl) (by simp) ?_
              refine AllReadyH.cons (o := q6r11) rfl (fun K hK => ?_) AllReadyH.nil
              rw [if_pos (by rfl)]
              unfold q6r11
              go_simp
              (with_reducible refine (HHO.out _ _ hu).mono ?_)
              rintro e w'' ⟨rfl, hB''⟩
              have hS'' := HS.out _ (Below.trans hHeld.1 (hB''.mono hHeld.1.size))
              go_wp2_with fail
              refine hK.out _ _ hS'' (fun hHeld => ?_)
              clear hK K
              try simp only [q6r11, Act.put, List.setIfInBounds_toArray, List.set_cons_zero, List.set_cons_succ]
              refine wpAnyH_take (i := 12) (oi := q6r12) (v := ?_) rfl (by kernel_rfl) (by kernel_rfl) (by kernel_rfl) (fun _ _ _ h => h) (Or.inl ⟨by rfl, ?_⟩) hHeld ?_
              rotate_left
              · (intro w hSw; (try dsimp only at hSw); unfold q6r12; go_simp <;> with_reducible rfl)
              try simp only [q6r12, Act.put, List.setIfInBounds_toArray, List.set_cons_zero, List.set_cons_succ]
              refine wpAnyH_ready (rs := [13]) (by kernel_rfl) (by simp) ?_
              refine AllReadyH.cons (o := q6r13) rfl (fun K hK => ?_) AllReadyH.nil
              rw [if_pos (by rfl)]
              unfold q6r13
              go_simp
              refine hK.out _ _ hHeld (fun hHeld => ?_)
              clear hK K
              try simp only [q6r13, Act.put, List.setIfInBounds_toArray, List.set_cons_zero, List.set_cons_succ]
              refine wpAnyH_done (by kernel_rfl) ?_ _
              have hfin := Lib.hid (HBW.out.trans (hHeld.1.mono HBW.out.size))
              clear hHeld
              go_wp2
              go_ret
              exact ⟨rfl, hfin.out⟩
        · have hXE := hd_sync hF (show wt.length ≤ 4096 by omega) (show room ≤ 65536 by omega) (show wt.length ≤ room by omega)
          have dst1 : decide ((room : Int) < (q : Int)) = false := by simp; omega
          have dst2 : decide (room < q) = false := by simpa using hst
          have h23 := fun W v h => sync_any W (Hd F wt room) v h
          rw [hXE] at h23
          simp only at h23
          obtain ⟨X, hX⟩ : ∃ X, Hd (ups F wt) [] (room - wt.length) = X := ⟨_, rfl⟩
          rw [hX] at h23
          have hXw : X.wide := by rw [← hX]; exact wide_hd (l := [])
          obtain ⟨k7, hx1⟩ : ∃ x, X.sec.length = x := ⟨_, rfl⟩
          obtain ⟨p7, hx2⟩ : ∃ x, X.pen.length = x := ⟨_, rfl⟩
          obtain ⟨l7, hx3⟩ : ∃ x, X.left = x := ⟨_, rfl⟩
          obtain ⟨t7, ht7⟩ : ∃ x : Bool, x = false := ⟨_, rfl⟩
          have hx4 : X.stop = t7 := by rw [ht7, ← hX]; rfl
          have HT7B := Lib.hid ht7
          clear ht7
          have HX1 := Lib.hid hx1
          have HX2 := Lib.hid hx2
          have HX3 := Lib.hid hx3
          have HX4 := Lib.hid hx4
          have HX := Lib.hid hX
          have HXW := Lib.hid hXw
          have H23 := Lib.hid h23
          obtain ⟨sx, kx, cx, ax, px, qx, lx, tx, hbx⟩ := HT15.out.x5
          obtain ⟨x0, x1, x2, x3⟩ := hbx.four
          obtain ⟨j0, j1, j2⟩ : W15.cell? ⟨b14, 0, none⟩ = some (.bool true) ∧ W15.cell? ⟨b14, 1, none⟩ = some (.int .u8 t) ∧ W15.cell? ⟨b14, 2, none⟩ = some (.int .u8 c.toNat) := ⟨HA15.out.cell rfl, HA15.out.cell rfl, HA15.out.cell rfl⟩
          have HBX := Lib.hid hbx
          clear h23 hX hXw hx1 hx2 hx3 hx4 hbx hXE
          go_wp2_with fail
          refine (H23.out _ _ HBX.out.dk).mono ?_
          rintro e W6 ⟨u, rfl, hu, hB6⟩
          clear x0 x1 x2 x3 j0 j1 j2
          obtain ⟨s7, c7, a7, q7, W7, rfl, hW7, hX7, hB7, -⟩ := hu.box HX1.out HX2.out HX3.out HX4.out
          have HW := Lib.hid hW7
          have HT7 := Lib.hid ((HT15.out.next hB6).next hB7)
          obtain ⟨b17, hb17⟩ : ∃ b, W6.heap.size = b := ⟨_, rfl⟩
          rw [hb17] at hX7
          have h1017 : b10 < b17 := by have := (HT15.out.next hB6).a10.lt; omega
          have h517 : b5 < b17 := by have := HT15.out.l58; have := HT15.out.l89; have := HT15.out.l9x; omega
          have HX7 : Hid (BoxAt W7 b17 X) := Lib.hid ⟨_, _, _, _, _, _, _, _, hX7⟩
          have HX7b := Lib.hid hX7
          clear hu hB6 hB7 hW7 hX7
          go_wp2
          rw [← HW.out]
          go_loopw [20] (fun i wQ => ∃ kk : Nat, i = .int .i64 kk ∧ kk ≤ q ∧ kk ≤ room + 1 ∧ LH w (some ⟨sb, so, none⟩) n yc l b5 b8 b9 b10 (Hd F wt room) (ups F wt) (ups F (wt.take kk)) (ups F (wt.take (min kk room))) g q cap wt wQ ∧ Boxed wQ b17 s7 k7 c7 a7 p7 q7 l7 t7 X) (fun i _ => q - (intOf i).toNat)
          case atStart => exact ⟨0, rfl, Nat.zero_le _, Nat.zero_le _, by rw [Nat.zero_min, List.take_zero]; exact HT7.out, HX7b.out⟩
          case round =>
          clear HT7 HX7 HX7b HBX H23
          obtain ⟨kk, rfl, hkq, hkr, hT, hx⟩ := hrel
          by_cases hgo : kk < q ∧ kk ≤ room
          · obtain ⟨hk1, hk2⟩ := hgo
            have hkw : kk < wt.length := by omega
            obtain ⟨-, r1, r2⟩ := hT.row.acts kk hkw
            rw [Nat.zero_add] at r1 r2
            have hun := ups_next F wt kk hkw
            obtain ⟨tk, htk⟩ : ∃ t, wt[kk].at_.toNat = t := ⟨_, rfl⟩
            obtain ⟨ck, hck⟩ : ∃ c, wt[kk].byte = c := ⟨_, rfl⟩
            have htk256 : tk < 256 := by rw [← htk]; exact wt[kk].at_.toNat_lt
            rw [htk] at r1 hun
            rw [hck] at r2 hun
            obtain ⟨qk, hqk⟩ : ∃ x, tk % 4 = x := ⟨_, rfl⟩
            have hqkl : qk < 4 := by omega
            have htm : (tk : Int).tmod 4 = (qk : Int) := by rw [← hqk]; rfl
            have htm2 : (tk : Int) % 4 = (qk : Int) := by rw [← hqk]; rfl
            have hqki : (qk : Int) < 4 := by omega
            rw [hqk] at hun
            have dk1 : decide ((kk : Int) < (q : Int)) = true := by simp; omega
            have dk2 : decide ((kk : Int) ≤ (room : Int)) = true := by simp; omega
            have dk3 : decide (kk < q) = true := by simpa using hk1
            have dk4 : decide (kk ≤ room) = true := by simpa using hk2
            have hl9 : qk < (cells8 (ups F (wt.take kk))).length := by rw [cells8_len, hT.a9.len]; exact hqkl
            obtain ⟨u9, hu9⟩ : ∃ u, (cells8 (ups F (wt.take kk)))[qk] = u := ⟨_, rfl⟩
            have k9 := hT.a9.arr.cell (List.getElem?_eq_getElem hl9)
            rw [hu9] at k9
            have f9 := hT.a9.arr.frozen hl9
            have hl1 := hT.l89
            have hl2 := hT.l9x
            have hl3 := hT.lxg
            have hG28 := grown_setCell (W := wr) (b := b9) qk (.int .u8 ck.toNat)
            have hT28 := hT.st9 hG28 (hT.a9.set hqkl ck)
            have hx28 := BoxedAside hx hT.a9.alien (by omega) hG28 HXW.out
            rw [← hun] at hT28
            have HSR : Hid (wr.drew.cell? ⟨g, kk * 3 + 1, none⟩ = some (.int .u8 tk) ∧ wr.drew.cell? ⟨g, kk * 3 + 2, none⟩ = some (.int .u8 ck.toNat)) := Lib.hid ⟨r1, r2⟩
            have HSF : Hid ((wr.setCell ⟨b9, qk, none⟩ (.int .u8 ck.toNat)).cell? ⟨g, kk * 3 + 1, none⟩ = some (.int .u8 tk) ∧ (wr.setCell ⟨b9, qk, none⟩ (.int .u8 ck.toNat)).cell? ⟨g, kk * 3 + 2, none⟩ = some (.int .u8 ck.toNat)) := Lib.hid ⟨by rw [World.cell?_setCell_other _ _ _ _ (by intro h; injection h; omega)]; exact r1, by rw [World.cell?_setCell_other _ _ _ _ (by intro h; injection h; omega)]; exact r2⟩
            have HT28 := Lib.hid hT28
            have HX28 := Lib.hid hx28
            have HUN := Lib.hid hun
            clear hT hx r1 r2 hun htk hck hqk hkw hl9 hu9 hG28 hT28 hx28
            go_wp2
            refine wp_region_held_drew (S := fun W => W.cell? ⟨g, kk * 3 + 1, none⟩ = some (.int .u8 tk) ∧ W.cell? ⟨g, kk * 3 + 2, none⟩ = some (.int .u8 ck.toNat)) (by kernel_rfl) HSR.out (fun hHeld => ?_)
            refine wpAnyH_take (i := 0) (oi := q6f0) (v := ?_) rfl (by kernel_rfl) (by kernel_rfl) (by kernel_rfl) (fun _ _ _ h => h) (Or.inl ⟨by rfl, ?_⟩) hHeld ?_
            rotate_left
            · (intro w hSw; (try dsimp only at hSw); unfold q6f0; go_simp <;> with_reducible rfl)
            try simp only [q6f0, Act.put, List.setIfInBounds_toArray, List.set_cons_zero, List.set_cons_succ]
            refine wpAnyH_take (i := 1) (oi := q6f1) (v := ?_) rfl (by kernel_rfl) (by kernel_rfl) (by kernel_rfl) (fun _ _ _ h => h) (Or.inl ⟨by rfl, ?_⟩) hHeld ?_
            rotate_left
            · (intro w hSw; (try dsimp only at hSw); unfold q6f1; go_simp <;> with_reducible rfl)
            try simp only [q6f1, Act.put, List.setIfInBounds_toArray, List.set_cons_zero, List.set_cons_succ]
            refine wpAnyH_take (i := 2) (oi := q6f2) (v := ?_) rfl (by kernel_rfl) (by kernel_rfl) (by kernel_rfl) (fun _ _ _ h => h) (Or.inl ⟨by rfl, ?_⟩) hHeld ?_
            rotate_left
            · (intro w hSw; (try dsimp only at hSw); unfold q6f2; go_simp <;> with_reducible rfl)
            try simp only [q6f2, Act.put, List.setIfInBounds_toArray, List.set_cons_zero, List.set_cons_succ]
            refine wpAnyH_take (i := 3) (oi := q6f3) (v := ?_) rfl (by kernel_rfl) (by kernel_rfl) (by kernel_rfl) (fun _ _ _ h => h) (Or.inl ⟨by rfl, ?_⟩) hHeld ?_
            rotate_left
            · (intro w hSw; (try dsimp only at hSw); unfold q6f3; go_simp <;> with_reducible rfl)
            try simp only [q6f3, Act.put, List.setIfInBounds_toArray, List.set_cons_zero, List.set_cons_succ]
            refine wpAnyH_take (i := 4) (oi := q6f4) (v := ?_) rfl (by kernel_rfl) (by kernel_rfl) (by kernel_rfl) (fun _ _ _ h => h) (Or.inl ⟨by rfl, ?_⟩) hHeld ?_
            rotate_left
            · (intro w hSw; (try dsimp only at hSw); unfold q6f4; go_simp <;> with_reducible rfl)
            try simp only [q6f4, Act.put, List.setIfInBounds_toArray, List.set_cons_zero, List.set_cons_succ]
            refine wpAnyH_take (i := 5) (oi := q6f5) (v := ?_) rfl (by kernel_rfl) (by kernel_rfl) (by kernel_rfl) (fun _ _ _ h => h) (Or.inl ⟨by rfl, ?_⟩) hHeld ?_
            rotate_left
            · (intro w hSw; (try dsimp only at hSw); unfold q6f5; go_simp <;> with_reducible rfl)
            try simp only [q6f5, Act.put, List.setIfInBounds_toArray, List.set_cons_zero, List.set_cons_succ]
            refine wpAnyH_take (i := 6) (oi := q6f6) (v := ?_) rfl (by kernel_rfl) (by kernel_rfl) (by kernel_rfl) (fun _ _ _ h => h) (Or.inl ⟨by rfl, ?_⟩) hHeld ?_
            rotate_left
            · (intro w hSw; (try dsimp only at hSw); unfold q6f6; go_simp <;> with_reducible rfl)
            try simp only [q6f6, Act.put, List.setIfInBounds_toArray, List.set_cons_zero, List.set_cons_succ]
            refine wpAnyH_take (i := 7) (oi := q6f7) (v := ?_) rfl (by kernel_rfl) (by kernel_rfl) (by kernel_rfl) (fun _ _ _ h => h) (Or.inl ⟨by rfl, ?_⟩) hHeld ?_
            rotate_left
            · (intro w hSw; (try dsimp only at hSw); unfold q6f7; go_simp <;> with_reducible rfl)
            try simp only [q6f7, Act.put, List.setIfInBounds_toArray, List.set_cons_zero, List.set_cons_succ]
            refine wpAnyH_take (i := 8) (oi := q6f8) (v := ?_) rfl (by kernel_rfl) (by kernel_rfl) (by kernel_rfl) (fun _ _ _ h => h) (Or.inl ⟨by rfl, ?_⟩) hHeld ?_
            rotate_left
            · (intro w hSw; (try dsimp only at hSw); unfold q6f8; go_simp <;> with_reducible rfl)
            try simp only [q6f8, Act.put, List.setIfInBounds_toArray, List.set_cons_zero, List.set_cons_succ]
            refine wpAnyH_take (i := 9) (oi := q6f9) (v := ?_) rfl (by kernel_rfl) (by kernel_rfl) (by kernel_rfl) (fun _ _ _ h => h) (Or.inl ⟨by rfl, ?_⟩) hHeld ?_
            rotate_left
            · (intro w hSw; (try dsimp only at hSw); unfold q6f9; go_simp <;> with_reducible rfl)
            try simp only [q6f9, Act.put, List.setIfInBounds_toArray, List.set_cons_zero, List.set_cons_succ]
            refine wpAnyH_take (i := 10) (oi := q6f10) (v := ?_) rfl (by kernel_rfl) (by kernel_rfl) (by kernel_rfl) (fun _ _ _ h => h) (Or.inl ⟨by rfl, ?_⟩) hHeld ?_
            rotate_left
            · (intro w hSw; (try dsimp only at hSw); unfold q6f10; go_simp <;> with_reducible rfl)
            try simp only [q6f10, Act.put, List.setIfInBounds_toArray, List.set_cons_zero, List.set_cons_succ]
            refine wpAnyH_take (i := 11) (oi := q6f11) (v := ?_) rfl (by kernel_rfl) (by kernel_rfl) (by kernel_rfl) (fun _ _ _ h => h) (Or.inl ⟨by rfl, ?_⟩) hHeld ?_
            rotate_left
            · (intro w hSw; (try dsimp only at hSw); unfold q6f11; go_simp <;> with_reducible rfl)
            try simp only [q6f11, Act.put, List.setIfInBounds_toArray, List.set_cons_zero, List.set_cons_succ]
            refine wpAnyH_ready (rs := [12]) (by kernel_rfl) (by simp) ?_
            refine AllReadyH.cons (o := q6f12) rfl (fun K hK => ?_) AllReadyH.nil
            rw [if_pos (by rfl)]
            unfold q6f12
            go_simp
            refine hK.out _ _ HSF.out (fun hHeld => ?_)
            clear hK K
            try simp only [q6f12, Act.put]
            refine wpAnyH_done (by kernel_rfl) ?_ _
            clear hHeld
            obtain ⟨W28, hW28⟩ : ∃ W, W = wr.setCell ⟨b9, qk, none⟩ (.int .u8 ck.toNat) := ⟨_, rfl⟩
            rw [← hW28] at HT28 HX28 HSF
            try rw [← hW28]
            clear hW28 k9 f9 HSR
            by_cases hk3 : kk < room
            · have dk5 : decide ((kk : Int) < (room : Int)) = true := by simp; omega
              have dk6 : decide (kk < room) = true := by simpa using hk3
              have hl10 : qk < (cells8 (ups F (wt.take (min kk room)))).length := by rw [cells8_len, HT28.out.a10.len]; exact hqkl
              obtain ⟨u10, hu10⟩ : ∃ u, (cells8 (ups F (wt.take (min kk room))))[qk] = u := ⟨_, rfl⟩
              have k10 := HT28.out.a10.arr.cell (List.getElem?_eq_getElem hl10)
              rw [hu10] at k10
              have f10 := HT28.out.a10.arr.frozen hl10
              have hG30 := grown_setCell (W := W28) (b := b10) qk (.int .u8 ck.toNat)
              have hT30 := HT28.out.st10 hG30 (HT28.out.a10.set hqkl ck)
              have hx30 := BoxedAside HX28.out HT28.out.a10.alien (by omega) hG30 HXW.out
              have HSR2 : Hid (W28.drew.cell? ⟨g, kk * 3 + 1, none⟩ = some (.int .u8 tk) ∧ W28.drew.cell? ⟨g, kk * 3 + 2, none⟩ = some (.int .u8 ck.toNat)) := Lib.hid HSF.out
              have HSS : Hid ((W28.setCell ⟨b10, qk, none⟩ (.int .u8 ck.toNat)).cell? ⟨g, kk * 3 + 1, none⟩ = some (.int .u8 tk) ∧ (W28.setCell ⟨b10, qk, none⟩ (.int .u8 ck.toNat)).cell? ⟨g, kk * 3 + 2, none⟩ = some (.int .u8 ck.toNat)) := Lib.hid ⟨by rw [World.cell?_setCell_other _ _ _ _ (by intro h; injection h; omega)]; exact HSF.out.1, by rw [World.cell?_setCell_other _ _ _ _ (by intro h; injection h; omega)]; exact HSF.out.2⟩
              have hm1 : min kk room = kk := by omega
              have hm2 : min (kk + 1) room = kk + 1 := by omega
              rw [hm1, ← HUN.out] at hT30
              have HT30 : Hid (LH w (some ⟨sb, so, none⟩) n yc l b5 b8 b9 b10 (Hd F wt room) (ups F wt) (ups F (wt.take (kk + 1))) (ups F (wt.take (min (kk + 1) room))) g q cap wt (W28.setCell ⟨b10, qk, none⟩ (.int .u8 ck.toNat))) := Lib.hid (by rw [hm2]; exact hT30)
              have HX30 := Lib.hid hx30
              obtain ⟨r1, r2⟩ := HSF.out
              clear hT30 hx30 hu10 hl10 hG30 hm1 hm2 HT28 HX28
              go_wp2
              refine wp_region_held_drew (S := fun W => W.cell? ⟨g, kk * 3 + 1, none⟩ = some (.int .u8 tk) ∧ W.cell? ⟨g, kk * 3 + 2, none⟩ = some (.int .u8 ck.toNat)) (by kernel_rfl) HSR2.out (fun hHeld => ?_)
              refine wpAnyH_take (i := 0) (oi := q6s0) (v := ?_) rfl (by kernel_rfl) (by kernel_rfl) (by kernel_rfl) (fun _ _ _ h => h) (Or.inl ⟨by rfl, ?_⟩) hHeld ?_
              rotate_left
              · (intro w hSw; (try dsimp only at hSw); unfold q6s0; go_simp <;> with_reducible rfl)
              try simp only [q6s0, Act.put, List.setIfInBounds_toArray, List.set_cons_zero, List.set_cons_succ]
              refine wpAnyH_take (i := 1) (oi := q6s1) (v := ?_) rfl (by kernel_rfl) (by kernel_rfl) (by kernel_rfl) (fun _ _ _ h => h) (Or.inl ⟨by rfl, ?_⟩) hHeld ?_
              rotate_left
              · (intro w hSw; (try dsimp only at hSw); unfold q6s1; go_simp <;> with_reducible rfl)
              try simp only [q6s1, Act.put, List.setIfInBounds_toArray, List.set_cons_zero, List.set_cons_succ]
              refine wpAnyH_take (i := 2) (oi := q6s2) (v := ?_) rfl (by kernel_rfl) (by kernel_rfl) (by kernel_rfl) (fun _ _ _ h => h) (Or.inl ⟨by rfl, ?_⟩) hHeld ?_
              rotate_left
              · (intro w hSw; (try dsimp only at hSw); unfold q6s2; go_simp <;> with_reducible rfl)
              try simp only [q6s2, Act.put, List.setIfInBounds_toArray, List.set_cons_zero, List.set_cons_succ]
              refine wpAnyH_take (i := 3) (oi := q6s3) (v := ?_) rfl (by kernel_rfl) (by kernel_rfl) (by kernel_rfl) (fun _ _ _ h => h) (Or.inl ⟨by rfl, ?_⟩) hHeld ?_
              rotate_left
              · (intro w hSw; (try dsimp only at hSw); unfold q6s3; go_simp <;> with_reducible rfl)
              try simp only [q6s3, Act.put, List.setIfInBounds_toArray, List.set_cons_zero, List.set_cons_succ]
              refine wpAnyH_take (i := 4) (oi := q6s4) (v := ?_) rfl (by kernel_rfl) (by kernel_rfl) (by kernel_rfl) (fun _ _ _ h => h) (Or.inl ⟨by rfl, ?_⟩) hHeld ?_
              rotate_left
              · (intro w hSw; (try dsimp only at hSw); unfold q6s4; go_simp <;> with_reducible rfl)
              try simp only [q6s4, Act.put, List.setIfInBounds_toArray, List.set_cons_zero, List.set_cons_succ]
              refine wpAnyH_take (i := 5) (oi := q6s5) (v := ?_) rfl (by kernel_rfl) (by kernel_rfl) (by kernel_rfl) (fun _ _ _ h => h) (Or.inl ⟨by rfl, ?_⟩) hHeld ?_
              rotate_left
              · (intro w hSw; (try dsimp only at hSw); unfold q6s5; go_simp <;> with_reducible rfl)
              try simp only [q6s5, Act.put, List.setIfInBounds_toArray, List.set_cons_zero, List.set_cons_succ]
              refine wpAnyH_take (i := 6) (oi := q6s6) (v := ?_) rfl (by kernel_rfl) (by kernel_rfl) (by kernel_rfl) (fun _ _ _ h => h) (Or.inl ⟨by rfl, ?_⟩) hHeld ?_
              rotate_left
              · (intro w hSw; (try dsimp only at hSw); unfold q6s6; go_simp <;> with_reducible rfl)
              try simp only [q6s6, Act.put, List.setIfInBounds_toArray, List.set_cons_zero, List.set_cons_succ]
              refine wpAnyH_take (i := 7) (oi := q6s7) (v := ?_) rfl (by kernel_rfl) (by kernel_rfl) (by kernel_rfl) (fun _ _ _ h => h) (Or.inl ⟨by rfl, ?_⟩) hHeld ?_
              rotate_left
              · (intro w hSw; (try dsimp only at hSw); unfold q6s7; go_simp <;> with_reducible rfl)
              try simp only [q6s7, Act.put, List.setIfInBounds_toArray, List.set_cons_zero, List.set_cons_succ]
              refine wpAnyH_take (i := 8) (oi := q6s8) (v := ?_) rfl (by kernel_rfl) (by kernel_rfl) (by kernel_rfl) (fun _ _ _ h => h) (Or.inl ⟨by rfl, ?_⟩) hHeld ?_
              rotate_left
              · (intro w hSw; (try dsimp only at hSw); unfold q6s8; go_simp <;> with_reducible rfl)
              try simp only [q6s8, Act.put, List.setIfInBounds_toArray, List.set_cons_zero, List.set_cons_succ]
              refine wpAnyH_take (i := 9) (oi := q6s9) (v := ?_) rfl (by kernel_rfl) (by kernel_rfl) (by kernel_rfl) (fun _ _ _ h => h) (Or.inl ⟨by rfl, ?_⟩) hHeld ?_
              rotate_left
              · (intro w hSw; (try dsimp only at hSw); unfold q6s9; go_simp <;> with_reducible rfl)
              try simp only [q6s9, Act.put, List.setIfInBounds_toArray, List.set_cons_zero, List.set_cons_succ]
              refine wpAnyH_take (i := 10) (oi := q6s10) (v := ?_) rfl (by kernel_rfl) (by kernel_rfl) (by kernel_rfl) (fun _ _ _ h => h) (Or.inl ⟨by rfl, ?_⟩) hHeld ?_
              rotate_left
              · (intro w hSw; (try dsimp only at hSw); unfold q6s10; go_simp <;> with_reducible rfl)
              try simp only [q6s10, Act.put, List.setIfInBounds_toArray, List.set_cons_zero, List.set_cons_succ]
              refine wpAnyH_take (i := 11) (oi := q6s11) (v := ?_) rfl (by kernel_rfl) (by kernel_rfl) (by kernel_rfl) (fun _ _ _ h => h) (Or.inl ⟨by rfl, ?_⟩) hHeld ?_
              rotate_left
              · (intro w hSw; (try dsimp only at hSw); unfold q6s11; go_simp <;> with_reducible rfl)
              try simp only [q6s11, Act.put, List.setIfInBounds_toArray, List.set_cons_zero, List.set_cons_succ]
              refine wpAnyH_ready (rs := [12]) (by kernel_rfl) (by simp) ?_
              refine AllReadyH.cons (o := q6s12) rfl (fun K hK => ?_) AllReadyH.nil
              rw [if_pos (by rfl)]
              unfold q6s12
              go_simp
              refine hK.out _ _ HSS.out (fun hHeld => ?_)
              clear hK K
              try simp only [q6s12, Act.put]
              refine wpAnyH_done (by kernel_rfl) ?_ _
              clear hHeld
              go_wp2
              go_roundw
              case rel => first | exact ⟨kk + 1, by go_num, by omega, by omega, HT30.out, HX30.out⟩ | exact ⟨kk + 1, by go_num, by omega, by omega, HT30.out.next (Below.drew (Below.drew (Below.refl _ _))), HX30.out.next (Below.drew (Below.drew (Below.refl _ _)))⟩
              case measure => simp [intOf]; omega
            · have dk5 : decide ((kk : Int) < (room : Int)) = false := by simp; omega
              have dk6 : decide (kk < room) = false := by simpa using hk3
              have HT30 : Hid (LH w (some ⟨sb, so, none⟩) n yc l b5 b8 b9 b10 (Hd F wt room) (ups F wt) (ups F (wt.take (kk + 1))) (ups F (wt.take (min (kk + 1) room))) g q cap wt W28) := Lib.hid (by rw [show min (kk + 1) room = min kk room by omega]; exact HT28.out)
              go_wp2
              go_roundw
              case rel => first | exact ⟨kk + 1, by go_num, by omega, by omega, HT30.out, HX28.out⟩ | exact ⟨kk + 1, by go_num, by omega, by omega, HT30.out.next (Below.drew (Below.refl _ _)), HX28.out.next (Below.drew (Below.refl _ _))⟩
              case measure => simp [intOf]; omega
          · skip
            have hkk : kk = q := by
              by_cases h : kk < q
              · exact absurd ⟨h, by omega⟩ hgo
              · omega
            rw [show min kk room = kk by omega, show wt.take kk = wt by rw [hkk, ← hq, List.take_length]] at hT
            have hA := hT.anew
            have hBA : Below wr.heap.size wr (wr.alloc (.cells #[] 46)) := (Below.refl _ _).alloc (Nat.le_refl _) _
            have hxA := hx.next hBA
            obtain ⟨z0, z1, z2, z3⟩ := hxA.four
            obtain ⟨sx, kx, cx, ax, px, qx, lx, tx, hbx⟩ := hA.x5
            have HBA := Lib.hid hbx
            have HU := Lib.hid hxA.dk
            have HXF : Hid X.full := Lib.hid ⟨fun s hs => by rw [HXW.out.1 s hs]; decide, fun x hx => by rw [HXW.out.2 x hx]; decide⟩
            have HTA := Lib.hid hA
            have HEQ : Hid (Hd (ups F wt) [] (room - q) = X) := Lib.hid (by rw [← hq]; exact HX.out)
            have d1 : decide ((kk : Int) < (q : Int)) = false := by simp; omega
            have d2 : decide (kk < q) = false := by simp; omega
            have hqr : (q : Int) ≤ (room : Int) := by omega
            clear hT hx hA hBA hxA hbx hgo hkk
            go_wp2_with (refine store_box rfl (.tmp 5) (.tmp 152) rfl HBA.out (by rfl) (by rfl) HU.out HXF.out ?_; intro W9 hG9 hx9)
            go_meet
            case rel => exact ⟨_, 0, 0, room - q, ups F wt, [], rfl, by rw [show (room : Int) - (q : Int) = ((room - q : Nat) : Int) by omega], by omega, by omega, by rw [ups_len, hF], by rw [HEQ.out]; exact HTA.out.st5 hG9 ⟨_, _, _, _, _, _, _, _, hx9⟩ HXW.out⟩
    case rest =>
      clear hqm hrm hF hq
      obtain ⟨g, q, cap, room, F, wt, rfl, rfl, hqm, hrm, hF, hT⟩ := hcut
      have hq := hT.row.len
      obtain ⟨L, hL⟩ : ∃ L, ups F wt = L := ⟨_, rfl⟩
      have hLl : L.length = 4 := by rw [← hL, ups_len, hF]
      have hrd : ∀ (i : Nat) (h1 : i < L.length) (h2 : i < L.length), (Hd F wt room).read i = (hb L[i] L[i], 0) := by
        subst hL
        exact fun i h1 h2 => hd_read hF hF (by omega) ⟨by omega, by omega⟩ i h1 h2
      rw [hL] at hT
      obtain ⟨sx, kx, cx, ax, px, qx, lx, tx, hbx⟩ := hT.x5
      obtain ⟨x0, x1, x2, x3⟩ := hbx.four
      have h28 := holds_any wc (Hd F wt room) _ L L hLl hLl hbx.dk hrd
      obtain ⟨l0, l1, l2, l3, rfl⟩ := four_list hLl
      have y0 := hT.a8.arr.cell (i := 0) (v := .int .u8 l0.toNat) rfl
      have y1 := hT.a8.arr.cell (i := 1) (v := .int .u8 l1.toNat) rfl
      have y2 := hT.a8.arr.cell (i := 2) (v := .int .u8 l2.toNat) rfl
      have y3 := hT.a8.arr.cell (i := 3) (v := .int .u8 l3.toNat) rfl
      have H28 : Hid (Calls Try.prog 28 #[.agg #[.slice sx kx cx, .slice ax px qx, .int .i64 lx, .bool tx], .agg #[.int .u8 l0.toNat, .int .u8 l1.toNat, .int .u8 l2.toNat, .int .u8 l3.toNat], .agg #[.int .u8 l0.toNat, .int .u8 l1.toNat, .int .u8 l2.toNat, .int .u8 l3.toNat]] wc fun e w' => e = .returned (.bool true) ∧ Below wc.heap.size wc w') := Lib.hid h28
      have HTC := Lib.hid hT
      have HLL := Lib.hid hL
      clear hT hrd hbx h28 hL hLl hq
      go_wp2_with fail
      with_reducible refine H28.out.mono ?_
      rintro e W1 ⟨rfl, hB1⟩
      have HT1 := Lib.hid (HTC.out.next hB1)
      clear hB1 x0 x1 x2 x3 y0 y1 y2 y3 H28 HTC
      go_wp2
      go_roundw
      case rel => exact ⟨m + 1, g, q, cap, room, F, wt, rfl, rfl, by go_num, by omega, hqm, hrm, hF, by rw [HLL.out]; exact HT1.out⟩
      case measure => simp [intOf]; omega
  · skip
    have dlt : decide ((m : Int) < (n : Int)) = false := by simp; omega
    have dlt2 : decide (m < n) = false := by simpa using hlt
    have hRd : ∀ (i : Nat) (h1 : i < F.length) (h2 : i < F.length), (Hd F wt room).restart.read i = (hb F[i] F[i], 0) := fun i h1 h2 => hd_read (wt := []) (L := -1) hF hF (by simp) ⟨by omega, by omega⟩ i h1 h2
    have HHOF : ∀ W u, DkAt W W.heap.size u (Hd F wt room).restart → Calls Try.prog 28 #[u, .agg (cells8 F).toArray, .agg (cells8 F).toArray] W fun e w' => e = .returned (.bool true) ∧ Below W.heap.size W w' := fun W u h => holds_any W (Hd F wt room).restart u F F hF hF h hRd
    obtain ⟨R, hR⟩ : ∃ R, (Hd F wt room).restart = R := ⟨_, rfl⟩
    obtain ⟨sx, kx, cx, ax, px, qx, lx, tx, hbx⟩ := hT.x5
    have hrs := fun W (hW : Below wr.heap.size wr W) => restart_any W (Hd F wt room) (.agg #[.slice sx kx cx, .slice ax px qx, .int .i64 lx, .bool tx]) (hbx.dk.next hW) 17 (.inl rfl)
    rw [hR] at hrs HHOF
    clear hRd
    obtain ⟨f0, f1, f2, f3, rfl⟩ := four_list hF
    have HHO : Hid (∀ W u, DkAt W W.heap.size u R → Calls Try.prog 28 #[u, .agg #[.int .u8 f0.toNat, .int .u8 f1.toNat, .int .u8 f2.toNat, .int .u8 f3.toNat], .agg #[.int .u8 f0.toNat, .int .u8 f1.toNat, .int .u8 f2.toNat, .int .u8 f3.toNat]] W fun e w' => e = .returned (.bool true) ∧ Below W.heap.size W w') := Lib.hid HHOF
    have HRS := Lib.hid hrs
    have l5 := hbx.lt
    have l9 := hT.a9.lt
    have l10 := hT.a10.lt
    have HS : Hid (∀ W, Below wr.heap.size wr W → Below wr.heap.size wr W ∧ W.cell? ⟨b5, 0, none⟩ = some (.slice sx kx cx) ∧ W.cell? ⟨b5, 1, none⟩ = some (.slice ax px qx) ∧ W.cell? ⟨b5, 2, none⟩ = some (.int .i64 lx) ∧ W.cell? ⟨b5, 3, none⟩ = some (.bool tx) ∧ W.cell? ⟨b9, 0, none⟩ = some (.int .u8 f0.toNat) ∧ W.cell? ⟨b9, 1, none⟩ = some (.int .u8 f1.toNat) ∧ W.cell? ⟨b9, 2, none⟩ = some (.int .u8 f2.toNat) ∧ W.cell? ⟨b9, 3, none⟩ = some (.int .u8 f3.toNat) ∧ W.cell? ⟨b10, 0, none⟩ = some (.int .u8 f0.toNat) ∧ W.cell? ⟨b10, 1, none⟩ = some (.int .u8 f1.toNat) ∧ W.cell? ⟨b10, 2, none⟩ = some (.int .u8 f2.toNat) ∧ W.cell? ⟨b10, 3, none⟩ = some (.int .u8 f3.toNat)) := Lib.hid fun W hW => ⟨hW, (hW.cell (p := ⟨b5, 0, none⟩) l5).trans hbx.four.1, (hW.cell (p := ⟨b5, 1, none⟩) l5).trans hbx.four.2.1, (hW.cell (p := ⟨b5, 2, none⟩) l5).trans hbx.four.2.2.1, (hW.cell (p := ⟨b5, 3, none⟩) l5).trans hbx.four.2.2.2, (hW.cell (p := ⟨b9, 0, none⟩) l9).trans (hT.a9.arr.cell (i := 0) (v := .int .u8 f0.toNat) rfl), (hW.cell (p := ⟨b9, 1, none⟩) l9).trans (hT.a9.arr.cell (i := 1) (v := .int .u8 f1.toNat) rfl), (hW.cell (p := ⟨b9, 2, none⟩) l9).trans (hT.a9.arr.cell (i := 2) (v := .int .u8 f2.toNat) rfl), (hW.cell (p := ⟨b9, 3, none⟩) l9).trans (hT.a9.arr.cell (i := 3) (v := .int .u8 f3.toNat) rfl), (hW.cell (p := ⟨b10, 0, none⟩) l10).trans (hT.a10.arr.cell (i := 0) (v := .int .u8 f0.toNat) rfl), (hW.cell (p := ⟨b10, 1, none⟩) l10).trans (hT.a10.arr.cell (i := 1) (v := .int .u8 f1.toNat) rfl), (hW.cell (p := ⟨b10, 2, none⟩) l10).trans (hT.a10.arr.cell (i := 2) (v := .int .u8 f2.toNat) rfl), (hW.cell (p := ⟨b10, 3, none⟩) l10).trans (hT.a10.arr.cell (i := 3) (v := .int .u8 f3.toNat) rfl)⟩
    have HBW := Lib.hid hT.bel
    clear hT hbx hrs HHOF hR hq hF
    go_wp2
    refine wp_region_held_drew (S := fun W => Below wr.heap.size wr W ∧ W.cell? ⟨b5, 0, none⟩ = some (.slice sx kx cx) ∧ W.cell? ⟨b5, 1, none⟩ = some (.slice ax px qx) ∧ W.cell? ⟨b5, 2, none⟩ = some (.int .i64 lx) ∧ W.cell? ⟨b5, 3, none⟩ = some (.bool tx) ∧ W.cell? ⟨b9, 0, none⟩ = some (.int .u8 f0.toNat) ∧ W.cell? ⟨b9, 1, none⟩ = some (.int .u8 f1.toNat) ∧ W.cell? ⟨b9, 2, none⟩ = some (.int .u8 f2.toNat) ∧ W.cell? ⟨b9, 3, none⟩ = some (.int .u8 f3.toNat) ∧ W.cell? ⟨b10, 0, none⟩ = some (.int .u8 f0.toNat) ∧ W.cell? ⟨b10, 1, none⟩ = some (.int .u8 f1.toNat) ∧ W.cell? ⟨b10, 2, none⟩ = some (.int .u8 f2.toNat) ∧ W.cell? ⟨b10, 3, none⟩ = some (.int .u8 f3.toNat)) (by kernel_rfl) (HS.out _ (Below.drew (Below.refl _ _))) (fun hHeld => ?_)
    refine wpAnyH_take (i := 0) (oi := q6z0) (v := ?_) rfl (by kernel_rfl) (by kernel_rfl) (by kernel_rfl) (fun _ _ _ h => h) (Or.inl ⟨by rfl, ?_⟩) hHeld ?_
    rotate_left
    · (intro w hSw; (try dsimp only at hSw); unfold q6z0; go_simp <;> with_reducible rfl)
    try simp only [q6z0, Act.put, List.setIfInBounds_toArray, List.set_cons_zero, List.set_cons_succ]
    refine wpAnyH_take (i := 2) (oi := q6z2) (v := ?_) rfl (by kernel_rfl) (by kernel_rfl) (by kernel_rfl) (fun _ _ _ h => h) (Or.inl ⟨by rfl, ?_⟩) hHeld ?_
    rotate_left
    · (intro w hSw; (try dsimp only at hSw); unfold q6z2; go_simp <;> with_reducible rfl)
    try simp only [q6z2, Act.put, List.setIfInBounds_toArray, List.set_cons_zero, List.set_cons_succ]
    refine wpAnyH_take (i := 3) (oi := q6z3) (v := ?_) rfl (by kernel_rfl) (by kernel_rfl) (by kernel_rfl) (fun _ _ _ h => h) (Or.inl ⟨by rfl, ?_⟩) hHeld ?_
    rotate_left
    · (intro w hSw; (try dsimp only at hSw); unfold q6z3; go_simp <;> with_reducible rfl)
    try simp only [q6z3, Act.put, List.setIfInBounds_toArray, List.set_cons_zero, List.set_cons_succ]
    refine wpAnyH_ready (rs := [1]) (by kernel_rfl) (by simp) ?_
    refine AllReadyH.cons (o := q6z1) rfl (fun K hK => ?_) AllReadyH.nil
    rw [if_pos (by rfl)]
    unfold q6z1
    go_simp
    (with_reducible refine (HRS.out _ hHeld.1).mono ?_)
    rintro e w' ⟨u, rfl, hu, hB'⟩
    have hS' := HS.out _ (Below.trans hHeld.1 (hB'.mono hHeld.1.size))
    go_wp2_with fail
    refine hK.out _ _ hS' (fun hHeld => ?_)
    clear hK K
    try simp only [q6z1, Act.put, List.setIfInBounds_toArray, List.set_cons_zero, List.set_cons_succ]
    refine wpAnyH_ready (rs := [4]) (by kernel_rfl) (by simp) ?_
    refine AllReadyH.cons (o := q6z4) rfl (fun K hK => ?_) AllReadyH.nil
    rw [if_pos (by rfl)]
    unfold q6z4
    go_simp
    (with_reducible refine (HHO.out _ _ hu).mono ?_)
    rintro e w'' ⟨rfl, hB''⟩
    have hS'' := HS.out _ (Below.trans hHeld.1 (hB''.mono hHeld.1.size))
    go_wp2_with fail
    refine hK.out _ _ hS'' (fun hHeld => ?_)
    clear hK K
    try simp only [q6z4, Act.put, List.setIfInBounds_toArray, List.set_cons_zero, List.set_cons_succ]
    refine wpAnyH_ready (rs := [5]) (by kernel_rfl) (by simp) ?_
    refine AllReadyH.cons (o := q6z5) rfl (fun K hK => ?_) AllReadyH.nil
    rw [if_pos (by rfl)]
    unfold q6z5
    go_simp
    refine hK.out _ _ hHeld (fun hHeld => ?_)
    clear hK K
    try simp only [q6z5, Act.put, List.setIfInBounds_toArray, List.set_cons_zero, List.set_cons_succ]
    refine wpAnyH_done (by kernel_rfl) ?_ _
    have hfin := Lib.hid (HBW.out.trans (hHeld.1.mono HBW.out.size))
    clear hHeld
    go_wp2
    go_ret
    exact ⟨rfl, hfin.out⟩

set_option maxRecDepth 100000 in
theorem diskHistory_lifted (os : Os) (started : os.Started) (H : Type) (enc : TypeId × Value → H) :
    ReturnsInHanded {} Try.checked os 6 .any (Rows.diskHistorySpec.pre6 enc Try.prog Try.f6 Rows.diskHistoryRow.domain false) (Rows.diskHistorySpec.post enc Try.prog Try.f6 false true false false) := by
  refine returnsInHanded_of_change (C := Try.checked) Try.own started (by kernel_rfl) Try.func6
    (ChangeSpec.witness6 (enc := enc) (C := Try.checked) false ⟨#[], #[.slice none 0 0, .int .u8 0], []⟩ 8 (by kernel_rfl) (by kernel_rfl) (by kernel_rfl) (by kernel_rfl)) ?_
  intro W base args ds gs before hval0 hW _ _
  have hval : ∀ (j : Nat) t v, Try.f6.params[j]? = some t → args[j]? = some v → Value.okWide Try.prog W .any base t v := hval0
  have hW' := hW
  obtain ⟨p, q, hA0, hV, rfl, _, _⟩ := hW
  have hA : DataW.TrodAll enc Try.prog W 0 (fun _ => true) true Try.f6.params.toList args.toList ds p := hA0
  rw [Try.params6] at hA hval
  obtain ⟨v0, v1, d0, d1, p0, p1, rfl, rfl, rfl, h0, h1⟩ := trodAll_two hA
  obtain ⟨rfl, rfl⟩ := trodVars_none hV
  obtain ⟨x0, hx0⟩ := open_acts (hval 0 43 v0 rfl rfl) h0
  obtain ⟨x1, rfl, rfl, rfl, hx1⟩ := open_int Try.underlying5 (hval 1 5 v1 rfl rfl) h1
  clear hA0 hval0
  simp only [List.append_nil] at hW'
  have hlt : ∀ x ∈ p0, x.block < W.heap.size := fun x hx => by simpa using hW'.lt x hx
  refine (show Calls Try.prog 6 #[v0, .int .u8 x1] W (fun e w' => e = .returned (.bool true) ∧ Below W.heap.size W w') from by (obtain ⟨c, hc⟩ := u8_of hx1; have h := lawHistory W v0 x0 c.toNat (by have := c.toNat_lt; omega) hx0; rw [← hc] at h; exact h)).mono fun e W' ⟨he, hnx⟩ => ?_
  subst he
  exact ⟨_, rfl, _, _, _, [], _, [], hW', trodAll_mk1 (shut_bool Try.underlying4 _), trodAll_mk2 (Below.trod Try.laidOut (by kernel_rfl) (of_decide_eq_true (by kernel_rfl)) h0 hnx fun x hx => hlt x hx) (shut_int Try.underlying5 hx1), rfl, hnx.frame _, fun h => by cases h⟩

/-- DiskHistory holds. -/
theorem diskHistory_holds : Rows.DiskHistorySaid :=
  OpenClaim.holds_of_wide 6 Try.f6 rfl rfl rfl rfl rfl rfl rfl ⟨rfl, rfl, rfl, rfl, rfl⟩ rfl rfl rfl rfl rfl (by kernel_rfl) Try.func6 (by kernel_rfl)
    (of_decide_eq_true (by kernel_rfl)) (by unfold Func.isWrapper; first | (rw [if_pos (by decide +kernel)]; kernel_rfl) | (rw [if_neg (by decide +kernel)]; exact ⟨rfl, rfl⟩))
    (fun os started H enc _ => diskHistory_lifted os started H enc)

end Go.Proofs.Ytmklchjgiaomkaa
