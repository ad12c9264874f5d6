/- merkle: the chapter's examples (sane). -/
import Derived.Test.YtfmngeemhfpeiaaDoorMcn
namespace Go.Proofs.YtfmngeemhfpeiaaDoor
open Go.RowKit

theorem bytes_lit1 (W : World) (x : UInt8) : BytesAt (W.alloc (.cells #[.int .u8 x.toNat] 5)) (W.alloc (.cells #[.int .u8 x.toNat] 5)).heap.size (.slice (some ⟨W.heap.size, 0, none⟩) 1 1) [x] := by
  refine ⟨_, _, rfl, Nat.le_refl _, by unfold maxLen; omega, .inr ⟨W.heap.size, 0, rfl, by rw [World.size_alloc]; exact Nat.lt_succ_self _, fun i hi => ?_⟩⟩
  obtain rfl : i = 0 := by simp at hi; exact hi
  rw [World.cell?_alloc_new]; rfl
theorem bytes_nil0 (W : World) (B : Nat) : BytesAt W B (.slice none 0 0) [] := ⟨none, 0, rfl, Nat.le_refl _, by unfold maxLen; omega, .inl rfl⟩
theorem digs_nil (W : World) (B : Nat) : Digs W B (.slice none 0 0) [] := ⟨fun d hd => (by cases hd), none, 0, rfl, Nat.le_refl _, by unfold maxLen; omega, .inl rfl⟩
theorem brows_nil (W : World) (B : Nat) : BRows W B (.slice none 0 0) [] := ⟨none, 0, rfl, Nat.le_refl _, by unfold maxLen; omega, .inl rfl⟩
theorem climbR_1 : climbR 1 0 [5] [] = (sha (leafT [5]), 0) := by
  have h : mrows 1 = 0 := mrows_one (by omega)
  unfold climbR
  rw [if_neg (by decide)]
  show (if ([] : List (List UInt8)).length ≠ mlen 0 1 then _ else _) = _
  unfold mlen mclimb
  show (if ([] : List (List UInt8)).length ≠ mcnt 0 1 (mrows 1) then _ else (mst 0 1 (sha (leafT [5])) [] (mrows 1), _)) = _
  rw [h]
  rfl
theorem climbR_6 : climbR 1 0 [6] [] = (sha (leafT [6]), 0) := by
  have h : mrows 1 = 0 := mrows_one (by omega)
  unfold climbR
  rw [if_neg (by decide)]
  show (if ([] : List (List UInt8)).length ≠ mlen 0 1 then _ else _) = _
  unfold mlen mclimb
  show (if ([] : List (List UInt8)).length ≠ mcnt 0 1 (mrows 1) then _ else (mst 0 1 (sha (leafT [6])) [] (mrows 1), _)) = _
  rw [h]
  rfl
theorem climbR_0 : climbR 0 0 [] [] = (z32, 1) := by
  unfold climbR
  rw [if_pos (by decide)]
theorem mrows_2 : mrows 2 = 1 := by rw [mrows_more (by omega), mrows_one (by omega)]
theorem mrows_3 : mrows 3 = 2 := by rw [mrows_more (by omega), mrows_more (by omega), mrows_one (by omega)]
theorem climbR_2 : climbR 2 0 [] [] = (z32, 70) := by
  unfold climbR
  rw [if_neg (by decide)]
  show (if ([] : List (List UInt8)).length ≠ mlen 0 2 then _ else _) = _
  unfold mlen
  rw [mrows_2, if_pos (by decide)]
theorem mpath_3 : mpath (firsts [[1], [2], [3]]) 2 = [sha (nodeT (sha (leafT [1])) (sha (leafT [2])))] := by
  unfold mpath
  rw [show (firsts [[1], [2], [3]]).length = 3 from rfl, mrows_3]
  have h0 : alone (mpos 2 0) (msz (firsts [[1], [2], [3]]).length 0) = true := by decide
  have h1 : alone (mpos 2 1) (msz (firsts [[1], [2], [3]]).length 1) = false := by decide
  unfold mpathk
  rw [h1, if_neg (by simp)]
  unfold mpathk
  rw [h0, if_pos rfl]
  show [] ++ [(nexts [sha (leafT [1]), sha (leafT [2]), sha (leafT [3])]).getD 0 []] = _
  simp [nexts]
theorem mpath_1 : mpath (firsts [[1]]) 0 = [] := by
  unfold mpath
  rw [show (firsts [[1]]).length = 1 from rfl, mrows_one (by omega)]
  rfl
theorem mroot_2 : mroot [[1], [2]] = sha (nodeT (sha (leafT [1])) (sha (leafT [2]))) := by
  unfold mroot
  rw [if_neg (by simp), rootD_more (by decide), rootD_one (by decide)]
  show (nexts [sha (leafT [1]), sha (leafT [2])]).headD [] = _
  simp [nexts]
theorem mroot_0 : mroot [] = tagged tNone [] := by unfold mroot; rw [if_pos rfl]
set_option maxRecDepth 100000 in
theorem two_leaves : sha (leafT [5]) ≠ sha (leafT [6]) := by decide +kernel
def c16a0 : Oper := { dst := some 84, op := Go.Op.move (Go.Operand.tmp 17), type := 4, pos := "law.go:22", after := #[], guard := none }
def c16a1 : Oper := { dst := some 85, op := Go.Op.move (Go.Operand.tmp 84), type := 4, pos := "law.go:22", after := #[{ on := 0, ground := Go.Ground.data }], guard := none }
def c16a2 : Oper := { dst := some 86, op := Go.Op.load 30 (Go.Operand.tmp 1), type := 30, pos := "law.go:22", after := #[{ on := 1, ground := Go.Ground.guard }], guard := some (1, true) }
def c16a3 : Oper := { dst := some 87, op := Go.Op.buildSlice 34 1 #[(0, Go.Operand.const (Go.Value.int Go.IntKind.u8 5))], type := 34, pos := "law.go:22", after := #[{ on := 1, ground := Go.Ground.guard }], guard := some (1, true) }
def c16a4 : Oper := { dst := some 88, op := Go.Op.call { callee := Go.Callee.value (Go.Operand.func 28), args := #[Go.Operand.const (Go.Value.string { data := #[108, 101, 97, 102] }), Go.Operand.tmp 87], argTypes := #[9, 34] }, type := 30, pos := "law.go:22", after := #[{ on := 3, ground := Go.Ground.data }, { on := 1, ground := Go.Ground.chain }, { on := 1, ground := Go.Ground.guard }], guard := some (1, true) }
def c16a5 : Oper := { dst := some 89, op := Go.Op.binOp Go.BinOp.eql 30 (Go.Operand.tmp 86) (Go.Operand.tmp 88) 30, type := 4, pos := "law.go:22", after := #[{ on := 2, ground := Go.Ground.data }, { on := 4, ground := Go.Ground.data }, { on := 1, ground := Go.Ground.guard }], guard := some (1, true) }
def c16a6 : Oper := { dst := some 90, op := Go.Op.pick (Go.Operand.tmp 85) (Go.Operand.tmp 89) (Go.Operand.const (Go.Value.bool false)), type := 4, pos := "law.go:22", after := #[{ on := 1, ground := Go.Ground.data }, { on := 5, ground := Go.Ground.data }], guard := none }
def c16a7 : Oper := { dst := some 91, op := Go.Op.move (Go.Operand.tmp 90), type := 4, pos := "law.go:22", after := #[{ on := 6, ground := Go.Ground.data }, { on := 4, ground := Go.Ground.chain }], guard := none }
def c16a8 : Oper := { dst := some 92, op := Go.Op.move (Go.Operand.tmp 10), type := 25, pos := "law.go:22", after := #[{ on := 7, ground := Go.Ground.guard }], guard := some (7, true) }
def c16a9 : Oper := { dst := some 93, op := Go.Op.call { callee := Go.Callee.builtin Go.Builtin.len, args := #[Go.Operand.tmp 92], argTypes := #[25] }, type := 3, pos := "law.go:22", after := #[{ on := 8, ground := Go.Ground.data }, { on := 7, ground := Go.Ground.guard }], guard := some (7, true) }
def c16a10 : Oper := { dst := some 94, op := Go.Op.binOp Go.BinOp.eql 3 (Go.Operand.tmp 93) (Go.Operand.const (Go.Value.int Go.IntKind.i64 0)) 3, type := 4, pos := "law.go:22", after := #[{ on := 9, ground := Go.Ground.data }, { on := 7, ground := Go.Ground.guard }], guard := some (7, true) }
def c16a11 : Oper := { dst := some 95, op := Go.Op.pick (Go.Operand.tmp 91) (Go.Operand.tmp 94) (Go.Operand.const (Go.Value.bool false)), type := 4, pos := "law.go:22", after := #[{ on := 7, ground := Go.Ground.data }, { on := 10, ground := Go.Ground.data }], guard := none }
def c16a12 : Oper := { dst := some 96, op := Go.Op.move (Go.Operand.tmp 95), type := 4, pos := "law.go:22", after := #[{ on := 11, ground := Go.Ground.data }, { on := 7, ground := Go.Ground.chain }], guard := none }
def c16a13 : Oper := { dst := some 97, op := Go.Op.move (Go.Operand.tmp 8), type := 25, pos := "law.go:22", after := #[{ on := 12, ground := Go.Ground.guard }], guard := some (12, true) }
def c16a14 : Oper := { dst := some 98, op := Go.Op.call { callee := Go.Callee.builtin Go.Builtin.len, args := #[Go.Operand.tmp 97], argTypes := #[25] }, type := 3, pos := "law.go:22", after := #[{ on := 13, ground := Go.Ground.data }, { on := 12, ground := Go.Ground.guard }], guard := some (12, true) }
def c16a15 : Oper := { dst := some 99, op := Go.Op.binOp Go.BinOp.eql 3 (Go.Operand.tmp 98) (Go.Operand.const (Go.Value.int Go.IntKind.i64 1)) 3, type := 4, pos := "law.go:22", after := #[{ on := 14, ground := Go.Ground.data }, { on := 12, ground := Go.Ground.guard }], guard := some (12, true) }
def c16a16 : Oper := { dst := some 100, op := Go.Op.pick (Go.Operand.tmp 96) (Go.Operand.tmp 99) (Go.Operand.const (Go.Value.bool false)), type := 4, pos := "law.go:22", after := #[{ on := 12, ground := Go.Ground.data }, { on := 15, ground := Go.Ground.data }], guard := none }
def c16a17 : Oper := { dst := some 101, op := Go.Op.move (Go.Operand.tmp 100), type := 4, pos := "law.go:22", after := #[{ on := 16, ground := Go.Ground.data }, { on := 12, ground := Go.Ground.chain }], guard := none }
def c16a18 : Oper := { dst := some 102, op := Go.Op.move (Go.Operand.tmp 8), type := 25, pos := "law.go:22", after := #[{ on := 17, ground := Go.Ground.guard }], guard := some (17, true) }
def c16a19 : Oper := { dst := some 103, op := Go.Op.indexAddr 25 (Go.Operand.tmp 102) (Go.Operand.const (Go.Value.int Go.IntKind.i64 0)), type := 0, pos := "law.go:22", after := #[{ on := 18, ground := Go.Ground.data }, { on := 17, ground := Go.Ground.guard }], guard := some (17, true) }
def c16a20 : Oper := { dst := some 104, op := Go.Op.load 30 (Go.Operand.tmp 103), type := 30, pos := "law.go:22", after := #[{ on := 19, ground := Go.Ground.data }, { on := 17, ground := Go.Ground.guard }], guard := some (17, true) }
def c16a21 : Oper := { dst := some 105, op := Go.Op.move (Go.Operand.tmp 7), type := 22, pos := "law.go:22", after := #[{ on := 17, ground := Go.Ground.guard }], guard := some (17, true) }
def c16a22 : Oper := { dst := some 106, op := Go.Op.slice 22 (Go.Operand.tmp 105) none (some (Go.Operand.const (Go.Value.int Go.IntKind.i64 2))) none, type := 22, pos := "law.go:22", after := #[{ on := 21, ground := Go.Ground.data }, { on := 17, ground := Go.Ground.guard }], guard := some (17, true) }
def c16a23 : Oper := { dst := some 107, op := Go.Op.call { callee := Go.Callee.value (Go.Operand.func 20), args := #[Go.Operand.tmp 106], argTypes := #[22] }, type := 30, pos := "law.go:22", after := #[{ on := 22, ground := Go.Ground.data }, { on := 17, ground := Go.Ground.chain }, { on := 17, ground := Go.Ground.guard }], guard := some (17, true) }
def c16a24 : Oper := { dst := some 108, op := Go.Op.binOp Go.BinOp.eql 30 (Go.Operand.tmp 104) (Go.Operand.tmp 107) 30, type := 4, pos := "law.go:22", after := #[{ on := 20, ground := Go.Ground.data }, { on := 23, ground := Go.Ground.data }, { on := 17, ground := Go.Ground.guard }], guard := some (17, true) }
def c16a25 : Oper := { dst := some 109, op := Go.Op.pick (Go.Operand.tmp 101) (Go.Operand.tmp 108) (Go.Operand.const (Go.Value.bool false)), type := 4, pos := "law.go:22", after := #[{ on := 17, ground := Go.Ground.data }, { on := 24, ground := Go.Ground.data }], guard := none }
def c16a26 : Oper := { dst := some 110, op := Go.Op.move (Go.Operand.tmp 109), type := 4, pos := "law.go:22", after := #[{ on := 25, ground := Go.Ground.data }, { on := 23, ground := Go.Ground.chain }], guard := none }
def c16a27 : Oper := { dst := some 111, op := Go.Op.call { callee := Go.Callee.value (Go.Operand.func 20), args := #[Go.Operand.const (Go.Value.slice none 0 0)], argTypes := #[22] }, type := 30, pos := "law.go:22", after := #[{ on := 26, ground := Go.Ground.chain }, { on := 26, ground := Go.Ground.guard }], guard := some (26, true) }
def c16a28 : Oper := { dst := some 112, op := Go.Op.call { callee := Go.Callee.value (Go.Operand.func 28), args := #[Go.Operand.const (Go.Value.string { data := #[110, 111, 110, 101] }), Go.Operand.const (Go.Value.slice none 0 0)], argTypes := #[9, 34] }, type := 30, pos := "law.go:22", after := #[{ on := 27, ground := Go.Ground.chain }, { on := 26, ground := Go.Ground.guard }], guard := some (26, true) }
def c16a29 : Oper := { dst := some 113, op := Go.Op.binOp Go.BinOp.eql 30 (Go.Operand.tmp 111) (Go.Operand.tmp 112) 30, type := 4, pos := "law.go:22", after := #[{ on := 27, ground := Go.Ground.data }, { on := 28, ground := Go.Ground.data }, { on := 26, ground := Go.Ground.guard }], guard := some (26, true) }
def c16a30 : Oper := { dst := some 114, op := Go.Op.pick (Go.Operand.tmp 110) (Go.Operand.tmp 113) (Go.Operand.const (Go.Value.bool false)), type := 4, pos := "law.go:22", after := #[{ on := 26, ground := Go.Ground.data }, { on := 29, ground := Go.Ground.data }], guard := none }
def c16a31 : Oper := { dst := some 0, op := Go.Op.assign (Go.Operand.tmp 114), type := 4, pos := "law.go:22", after := #[{ on := 30, ground := Go.Ground.data }, { on := 28, ground := Go.Ground.chain }, { on := 0, ground := Go.Ground.phase }, { on := 1, ground := Go.Ground.phase }, { on := 2, ground := Go.Ground.phase }, { on := 3, ground := Go.Ground.phase }, { on := 4, ground := Go.Ground.phase }, { on := 5, ground := Go.Ground.phase }, { on := 6, ground := Go.Ground.phase }, { on := 7, ground := Go.Ground.phase }, { on := 8, ground := Go.Ground.phase }, { on := 9, ground := Go.Ground.phase }, { on := 10, ground := Go.Ground.phase }, { on := 11, ground := Go.Ground.phase }, { on := 12, ground := Go.Ground.phase }, { on := 13, ground := Go.Ground.phase }, { on := 14, ground := Go.Ground.phase }, { on := 15, ground := Go.Ground.phase }, { on := 16, ground := Go.Ground.phase }, { on := 17, ground := Go.Ground.phase }, { on := 18, ground := Go.Ground.phase }, { on := 19, ground := Go.Ground.phase }, { on := 20, ground := Go.Ground.phase }, { on := 21, ground := Go.Ground.phase }, { on := 22, ground := Go.Ground.phase }, { on := 23, ground := Go.Ground.phase }, { on := 24, ground := Go.Ground.phase }, { on := 25, ground := Go.Ground.phase }, { on := 26, ground := Go.Ground.phase }, { on := 27, ground := Go.Ground.phase }, { on := 28, ground := Go.Ground.phase }, { on := 29, ground := Go.Ground.phase }, { on := 30, ground := Go.Ground.phase }], guard := none }
theorem rows_lit3 (W : World) : BRows ((((W.alloc (.cells #[.int .u8 1] 5)).alloc (.cells #[.int .u8 2] 5)).alloc (.cells #[.int .u8 3] 5)).alloc (.cells #[.slice (some ⟨W.heap.size, 0, none⟩) 1 1, .slice (some ⟨W.heap.size + 1, 0, none⟩) 1 1, .slice (some ⟨W.heap.size + 1 + 1, 0, none⟩) 1 1] 34))
    ((((W.alloc (.cells #[.int .u8 1] 5)).alloc (.cells #[.int .u8 2] 5)).alloc (.cells #[.int .u8 3] 5)).alloc (.cells #[.slice (some ⟨W.heap.size, 0, none⟩) 1 1, .slice (some ⟨W.heap.size + 1, 0, none⟩) 1 1, .slice (some ⟨W.heap.size + 1 + 1, 0, none⟩) 1 1] 34)).heap.size
    (.slice (some ⟨W.heap.size + 1 + 1 + 1, 0, none⟩) 3 3) [[1], [2], [3]] := by
  obtain ⟨C, hC⟩ : ∃ C, (#[.slice (some ⟨W.heap.size, 0, none⟩) 1 1, .slice (some ⟨W.heap.size + 1, 0, none⟩) 1 1, .slice (some ⟨W.heap.size + 1 + 1, 0, none⟩) 1 1] : Array Value) = C := ⟨_, rfl⟩
  rw [hC]
  have b1 := bytes_lit1 W 1
  have b2 := bytes_lit1 (W.alloc (.cells #[.int .u8 1] 5)) 2
  have b3 := bytes_lit1 ((W.alloc (.cells #[.int .u8 1] 5)).alloc (.cells #[.int .u8 2] 5)) 3
  have z1 : (W.alloc (.cells #[.int .u8 1] 5)).heap.size = W.heap.size + 1 := World.size_alloc _ _
  have z2 : ((W.alloc (.cells #[.int .u8 1] 5)).alloc (.cells #[.int .u8 2] 5)).heap.size = W.heap.size + 1 + 1 := by rw [World.size_alloc, z1]
  have z3 : (((W.alloc (.cells #[.int .u8 1] 5)).alloc (.cells #[.int .u8 2] 5)).alloc (.cells #[.int .u8 3] 5)).heap.size = W.heap.size + 1 + 1 + 1 := by rw [World.size_alloc, z2]
  have hb2 : Below (W.alloc (.cells #[.int .u8 1] 5)).heap.size (W.alloc (.cells #[.int .u8 1] 5)) ((W.alloc (.cells #[.int .u8 1] 5)).alloc (.cells #[.int .u8 2] 5)) := (Below.refl _ _).alloc (Nat.le_refl _) _
  have hb3 : Below ((W.alloc (.cells #[.int .u8 1] 5)).alloc (.cells #[.int .u8 2] 5)).heap.size ((W.alloc (.cells #[.int .u8 1] 5)).alloc (.cells #[.int .u8 2] 5)) (((W.alloc (.cells #[.int .u8 1] 5)).alloc (.cells #[.int .u8 2] 5)).alloc (.cells #[.int .u8 3] 5)) := (Below.refl _ _).alloc (Nat.le_refl _) _
  have hb4 : Below (((W.alloc (.cells #[.int .u8 1] 5)).alloc (.cells #[.int .u8 2] 5)).alloc (.cells #[.int .u8 3] 5)).heap.size (((W.alloc (.cells #[.int .u8 1] 5)).alloc (.cells #[.int .u8 2] 5)).alloc (.cells #[.int .u8 3] 5)) ((((W.alloc (.cells #[.int .u8 1] 5)).alloc (.cells #[.int .u8 2] 5)).alloc (.cells #[.int .u8 3] 5)).alloc (.cells C 34)) := (Below.refl _ _).alloc (Nat.le_refl _) _
  have hA := Arr.new (((W.alloc (.cells #[.int .u8 1] 5)).alloc (.cells #[.int .u8 2] 5)).alloc (.cells #[.int .u8 3] 5)) C 34
  have b1' := ((((b1.below hb2).mono hb2.size).below hb3).mono hb3.size |>.below hb4).mono hb4.size
  have b2' := (((b2.below hb3).mono hb3.size).below hb4).mono hb4.size
  have b3' := (b3.below hb4).mono hb4.size
  rw [z1] at b2'
  rw [z2] at b3'
  rw [z3] at hA
  refine ⟨_, 3, rfl, Nat.le_refl _, by unfold maxLen; omega, .inr ⟨_, 0, rfl, by rw [World.size_alloc, z3]; omega, fun i hi => ?_⟩⟩
  have hi3 : i < 3 := hi
  match i, hi3 with
  | 0, _ => exact ⟨_, hA.cell (i := 0) (by rw [← hC]; rfl), b1'⟩
  | 1, _ => exact ⟨_, hA.cell (i := 1) (by rw [← hC]; rfl), b2'⟩
  | 2, _ => exact ⟨_, hA.cell (i := 2) (by rw [← hC]; rfl), b3'⟩
theorem BRows.take {w : World} {B n c : Nat} {a : Option Addr} {l : List (List UInt8)} (h : BRows w B (.slice a n c) l) {k : Nat} (hk : k ≤ n) : BRows w B (.slice a k c) (l.take k) := by
  obtain ⟨a', c', e, h1, h2, h3⟩ := h
  injection e with e1 e2 e3
  subst e1
  subst e2
  subst e3
  have hl : (l.take k).length = k := by rw [List.length_take]; omega
  refine ⟨a, c, by rw [hl], by rw [hl]; omega, h2, ?_⟩
  rcases h3 with rfl | ⟨b, off, rfl, h4, h5⟩
  · exact .inl (by simp)
  · refine .inr ⟨b, off, rfl, h4, fun i hi => ?_⟩
    rw [hl] at hi
    obtain ⟨d, h6, h7⟩ := h5 i (by omega)
    exact ⟨d, h6, by rw [List.getElem_take]; exact h7⟩
theorem digs_one {w : World} {B : Nat} {v : Value} {d : List UInt8} (h : Digs w B v [d]) : ∃ a c, v = .slice a 1 c ∧ ∃ b off, a = some ⟨b, off, none⟩ ∧ b < B ∧ w.rangeAt b off (cells8 d) := by
  obtain ⟨_, a, c, e, _, _, h3⟩ := h
  obtain ⟨b, off, h4, h5, h6⟩ := h3.resolve_left (by simp)
  have h7 := h6 0 (by simp)
  simp only [Nat.zero_mul, Nat.add_zero] at h7
  exact ⟨a, c, e, b, off, h4, h5, h7⟩
set_option maxRecDepth 100000 in
set_option maxHeartbeats 16000000 in
theorem msane_any (w : World) (hT : Tab w) (h0 : 0 < w.heap.size) : Calls Tryd.prog 16 #[] w fun e w' => e = .returned (.bool true) ∧ Below w.heap.size w w' := by
  have HT := Lib.hid hT
  have HL5 : Hid ((cells8 (sha (leafT [5]))).length = 32) := Lib.hid (by rw [cells8_len, sha_len])
  have HLZ : Hid ((cells8 z32).length = 32) := Lib.hid (by rw [cells8_len]; rfl)
  have HO5 : Hid (∀ v ∈ cells8 (sha (leafT [5])), v.oneCell' = true) := Lib.hid (one_cells8 _)
  have HOZ : Hid (∀ v ∈ cells8 z32, v.oneCell' = true) := Lib.hid (one_cells8 _)
  have HK1 := Lib.hid climbR_1
  have HK0 := Lib.hid climbR_0
  have HK2 := Lib.hid climbR_2
  have HC1 : Hid (∀ (W : World) v u, Below w.heap.size w W → BytesAt W W.heap.size v [5] → Digs W W.heap.size u [] → Calls Tryd.prog 23 #[.int .i64 1, .int .i64 0, v, u] W fun e w' => e = .returned (.tuple #[.agg (cells8 (sha (leafT [5]))).toArray, .int .i64 0]) ∧ Below W.heap.size W w') := Lib.hid fun W v u hW hv hu => by
    have h := climb_any W 1 0 v u [5] [] hv (by decide) hu (hT.below hW h0) (by have := hW.size; omega)
    rw [climbR_1] at h
    exact h
  have HC0 : Hid (∀ (W : World), Below w.heap.size w W → Calls Tryd.prog 23 #[.int .i64 0, .int .i64 0, .slice none 0 0, .slice none 0 0] W fun e w' => e = .returned (.tuple #[.agg (cells8 z32).toArray, .int .i64 1]) ∧ Below W.heap.size W w') := Lib.hid fun W hW => by
    have h := climb_any W 0 0 (.slice none 0 0) (.slice none 0 0) [] [] (bytes_nil0 W _) (by decide) (digs_nil W _) (hT.below hW h0) (by have := hW.size; omega)
    rw [climbR_0] at h
    exact h
  have HC2 : Hid (∀ (W : World), Below w.heap.size w W → Calls Tryd.prog 23 #[.int .i64 2, .int .i64 0, .slice none 0 0, .slice none 0 0] W fun e w' => e = .returned (.tuple #[.agg (cells8 z32).toArray, .int .i64 70]) ∧ Below W.heap.size W w') := Lib.hid fun W hW => by
    have h := climb_any W 2 0 (.slice none 0 0) (.slice none 0 0) [] [] (bytes_nil0 W _) (by decide) (digs_nil W _) (hT.below hW h0) (by have := hW.size; omega)
    rw [climbR_2] at h
    exact h
  obtain ⟨c5, hc5⟩ : ∃ x, cells8 (sha (leafT [5])) = x := ⟨_, rfl⟩
  obtain ⟨cz, hcz⟩ : ∃ x, cells8 z32 = x := ⟨_, rfl⟩
  rw [hc5] at HL5 HO5 HC1
  rw [hcz] at HLZ HOZ HC0 HC2
  have HZ5 : Hid ((Tryd.prog.info? 30).map (·.size) = some c5.length) := Lib.hid (by rw [HL5.out]; exact Tryd.info30)
  have HZZ : Hid ((Tryd.prog.info? 30).map (·.size) = some cz.length) := Lib.hid (by rw [HLZ.out]; exact Tryd.info30)
  have H5E := Lib.hid hc5
  clear hc5 hcz hT
  go_enter Tryd.func16, Tryd.ntmps16
  go_wp2_with fail
  have hbA : Below w.heap.size w (w.alloc (.cells #[.int .u8 5] 5)) := (Below.refl _ _).alloc (Nat.le_refl _) _
  refine (HC1.out _ _ _ hbA (bytes_lit1 w 5) (digs_nil _ _)).mono ?_
  rintro e W1 ⟨rfl, hb1⟩
  have HBc1 := Lib.hid (hbA.trans (hb1.mono hbA.size))
  clear hbA hb1
  go_wp2_with (first
    | (refine wpList_world (fun X => Below W1.heap.size W1 X ∧ Arr X W1.heap.size (cells8 (List.replicate 32 0)) ∧ W1.heap.size < X.heap.size) ⟨by go_grown, Arr.new W1 _ 30, by simp⟩ ?_; rintro Xa ⟨hBa, hDa, hza⟩)
    | (refine store_new2 rfl 30 _ _ (by rfl) W1.heap.size W1.heap.size c5 _ (by rfl) (by rfl) hBa (Nat.le_refl _) hDa (by rw [HL5.out]; rfl) HZ5.out HO5.out ?_; intro W2 hB hA hO hz; have HB1 := Lib.hid (HBc1.out.trans (hB.mono HBc1.out.size)); have HD1 := Lib.hid hA; have hzz1 : W1.heap.size < W2.heap.size := Nat.lt_of_lt_of_le hza hz; clear hB hA hO hBa hDa))
  refine (HC0.out _ HB1.out).mono ?_
  rintro e W3 ⟨rfl, hb3⟩
  have hs3 := hb3.size
  have HBc2 := Lib.hid (HB1.out.trans (hb3.mono HB1.out.size))
  have HD1b := Lib.hid (HD1.out.below hb3 hzz1)
  clear hb3
  go_wp2_with (first
    | (refine wpList_world (fun X => Below W3.heap.size W3 X ∧ Arr X W3.heap.size (cells8 (List.replicate 32 0)) ∧ W3.heap.size < X.heap.size) ⟨by go_grown, Arr.new W3 _ 30, by simp⟩ ?_; rintro Xa ⟨hBa, hDa, hza⟩)
    | (refine store_new2 rfl 30 _ _ (by rfl) W3.heap.size W3.heap.size cz _ (by rfl) (by rfl) hBa (Nat.le_refl _) hDa (by rw [HLZ.out]; rfl) HZZ.out HOZ.out ?_; intro W4 hB hA hO hz; have HB2 := Lib.hid (HBc2.out.trans (hB.mono HBc2.out.size)); have HD2 := Lib.hid hA; have hzz2 : W3.heap.size < W4.heap.size := Nat.lt_of_lt_of_le hza hz; have HD1c := Lib.hid (HD1b.out.below hB (by omega)); clear hB hA hO hBa hDa))
  refine (HC2.out _ HB2.out).mono ?_
  rintro e W5 ⟨rfl, hb5⟩
  have hs5 := hb5.size
  have HBc3 := Lib.hid (HB2.out.trans (hb5.mono HB2.out.size))
  have HD1d := Lib.hid (HD1c.out.below hb5 (by omega))
  clear hb5
  go_wp2_with (first
    | (refine wpList_world (fun X => Below W5.heap.size W5 X ∧ Arr X W5.heap.size (cells8 (List.replicate 32 0)) ∧ W5.heap.size < X.heap.size) ⟨by go_grown, Arr.new W5 _ 30, by simp⟩ ?_; rintro Xa ⟨hBa, hDa, hza⟩)
    | (refine store_new2 rfl 30 _ _ (by rfl) W5.heap.size W5.heap.size cz _ (by rfl) (by rfl) hBa (Nat.le_refl _) hDa (by rw [HLZ.out]; rfl) HZZ.out HOZ.out ?_; intro W6 hB hA hO hz; have HB3 := Lib.hid (HBc3.out.trans (hB.mono HBc3.out.size)); have HD3 := Lib.hid hA; have hzz3 : W5.heap.size < W6.heap.size := Nat.lt_of_lt_of_le hza hz; have HD1e := Lib.hid (HD1d.out.below hB (by omega)); clear hB hA hO hBa hDa))
  have hbR : Below W6.heap.size W6 ((((W6.alloc (.cells #[.int .u8 1] 5)).alloc (.cells #[.int .u8 2] 5)).alloc (.cells #[.int .u8 3] 5)).alloc (.cells #[.slice (some ⟨W6.heap.size, 0, none⟩) 1 1, .slice (some ⟨W6.heap.size + 1, 0, none⟩) 1 1, .slice (some ⟨W6.heap.size + 1 + 1, 0, none⟩) 1 1] 34)) := by go_grown
  have hrR := rows_lit3 W6
  obtain ⟨W7, hW7⟩ : ∃ X, (((W6.alloc (.cells #[.int .u8 1] 5)).alloc (.cells #[.int .u8 2] 5)).alloc (.cells #[.int .u8 3] 5)).alloc (.cells #[.slice (some ⟨W6.heap.size, 0, none⟩) 1 1, .slice (some ⟨W6.heap.size + 1, 0, none⟩) 1 1, .slice (some ⟨W6.heap.size + 1 + 1, 0, none⟩) 1 1] 34) = X := ⟨_, rfl⟩
  rw [hW7] at hbR hrR ⊢
  have hs7 := hbR.size
  have HB7 := Lib.hid (HB3.out.trans (hbR.mono HB3.out.size))
  have HD7 := Lib.hid (HD1e.out.below hbR (by omega))
  have HR7 := Lib.hid hrR
  clear hbR hrR hW7 HD1e
  have HP3 : Hid (∀ (W : World), Below W7.heap.size W7 W → Calls Tryd.prog 18 #[.slice (some ⟨W6.heap.size + 1 + 1 + 1, 0, none⟩) 3 3, .int .i64 2] W fun e w' => ∃ v', Digs w' w'.heap.size v' [sha (nodeT (sha (leafT [1])) (sha (leafT [2])))] ∧ e = .returned (.tuple #[v', .int .i64 0]) ∧ Below W.heap.size W w') := Lib.hid fun W hW => by
    have hb := HB7.out.trans (hW.mono HB7.out.size)
    have h := prove_any W _ [[1], [2], [3]] 2 (HR7.out.at hW) (by decide) (HT.out.below hb h0) (by have := hb.size; omega)
    rw [show leafOk (([[1], [2], [3]] : List (List UInt8)).length) 2 = true from by decide] at h
    simp only [if_true] at h
    rw [show (2 : Int).toNat = 2 from rfl, mpath_3] at h
    exact h
  have HP1 : Hid (∀ (W : World), Below W7.heap.size W7 W → Calls Tryd.prog 18 #[.slice (some ⟨W6.heap.size + 1 + 1 + 1, 0, none⟩) 1 3, .int .i64 0] W fun e w' => ∃ v', Digs w' w'.heap.size v' [] ∧ e = .returned (.tuple #[v', .int .i64 0]) ∧ Below W.heap.size W w') := Lib.hid fun W hW => by
    have hb := HB7.out.trans (hW.mono HB7.out.size)
    have h := prove_any W _ [[1]] 0 ((HR7.out.at hW).take (k := 1) (by decide)) (by decide) (HT.out.below hb h0) (by have := hb.size; omega)
    rw [show leafOk (([[1]] : List (List UInt8)).length) 0 = true from by decide] at h
    simp only [if_true] at h
    rw [show (0 : Int).toNat = 0 from rfl, mpath_1] at h
    exact h
  have HPX : Hid (∀ (W : World), Below W7.heap.size W7 W → Calls Tryd.prog 18 #[.slice (some ⟨W6.heap.size + 1 + 1 + 1, 0, none⟩) 3 3, .int .i64 3] W fun e w' => ∃ v', Digs w' w'.heap.size v' [] ∧ e = .returned (.tuple #[v', .int .i64 1]) ∧ Below W.heap.size W w') := Lib.hid fun W hW => by
    have hb := HB7.out.trans (hW.mono HB7.out.size)
    have h := prove_any W _ [[1], [2], [3]] 3 (HR7.out.at hW) (by decide) (HT.out.below hb h0) (by have := hb.size; omega)
    rw [show leafOk (([[1], [2], [3]] : List (List UInt8)).length) 3 = false from by decide] at h
    simpa using h
  refine (HP3.out _ (Below.refl _ _)).mono ?_
  rintro e W8 ⟨v8, hd8, rfl, hb8⟩
  obtain ⟨pa, pc, rfl, hpd⟩ := digs_one hd8
  obtain ⟨pb, po, rfl, hpb, hpr⟩ := hpd
  have h78 := hb8
  have hs8 := hb8.size
  have H78 := Lib.hid hb8
  have HPR := Lib.hid hpr
  clear hd8 hb8 h78 hpr
  go_wp2_with fail
  refine (HP1.out _ H78.out).mono ?_
  rintro e W9 ⟨v9, hd9, rfl, hb9⟩
  obtain ⟨a9, c9, rfl⟩ : ∃ a c, v9 = .slice a 0 c := by obtain ⟨_, a, c, e, _⟩ := hd9; exact ⟨a, c, e⟩
  have hs9 := hb9.size
  have H79 := Lib.hid (H78.out.trans (hb9.mono hs8))
  have HPR9 : Hid (W9.rangeAt pb po (cells8 (sha (nodeT (sha (leafT [1])) (sha (leafT [2])))))) := Lib.hid fun j v hv => (hb9.cell (p := ⟨pb, po + j, none⟩) hpb).trans (HPR.out j v hv)
  clear hd9 hb9 HPR
  go_wp2_with fail
  refine (HPX.out _ H79.out).mono ?_
  rintro e W10 ⟨v10, hd10, rfl, hb10⟩
  obtain ⟨a10, c10, rfl⟩ : ∃ a c, v10 = .slice a 0 c := by obtain ⟨_, a, c, e, _⟩ := hd10; exact ⟨a, c, e⟩
  have hs10 := hb10.size
  have H7X := Lib.hid (H79.out.trans (hb10.mono (by omega)))
  have HPRX : Hid (W10.rangeAt pb po (cells8 (sha (nodeT (sha (leafT [1])) (sha (leafT [2])))))) := Lib.hid fun j v hv => (hb10.cell (p := ⟨pb, po + j, none⟩) (by show pb < _; omega)).trans (HPR9.out j v hv)
  clear hd10 hb10 HPR9
  go_wp2_with fail
  have hbC : Below W10.heap.size W10 ((W10.alloc (.cells #[.int .u8 5] 5)).alloc (.cells #[.int .u8 6] 5)) := by go_grown
  have hx5 : BytesAt ((W10.alloc (.cells #[.int .u8 5] 5)).alloc (.cells #[.int .u8 6] 5)) ((W10.alloc (.cells #[.int .u8 5] 5)).alloc (.cells #[.int .u8 6] 5)).heap.size (.slice (some ⟨W10.heap.size, 0, none⟩) 1 1) [5] := ((bytes_lit1 W10 5).below ((Below.refl _ _).alloc (Nat.le_refl _) _)).mono (by simp)
  obtain ⟨W11, hW11⟩ : ∃ X, (W10.alloc (.cells #[.int .u8 5] 5)).alloc (.cells #[.int .u8 6] 5) = X := ⟨_, rfl⟩
  have hx6' : BytesAt ((W10.alloc (.cells #[.int .u8 5] 5)).alloc (.cells #[.int .u8 6] 5)) ((W10.alloc (.cells #[.int .u8 5] 5)).alloc (.cells #[.int .u8 6] 5)).heap.size (.slice (some ⟨W10.heap.size + 1, 0, none⟩) 1 1) [6] := by
    have h := bytes_lit1 (W10.alloc (.cells #[.int .u8 5] 5)) 6
    have e : (W10.alloc (.cells #[.int .u8 5] 5)).heap.size = W10.heap.size + 1 := World.size_alloc _ _
    rw [← e]
    exact h
  rw [hW11] at hbC hx5 hx6' ⊢
  have hs11 := hbC.size
  have H7C := Lib.hid (H7X.out.trans (hbC.mono (by omega)))
  have HBC := Lib.hid (HB7.out.trans (H7C.out.mono HB7.out.size))
  have HPRC : Hid (W11.rangeAt pb po (cells8 (sha (nodeT (sha (leafT [1])) (sha (leafT [2])))))) := Lib.hid fun j v hv => (hbC.cell (p := ⟨pb, po + j, none⟩) (by show pb < _; omega)).trans (HPRX.out j v hv)
  refine (collide_no W11 1 0 _ _ _ _ [5] [6] [] [] hx5 hx6' (by decide) (by decide) (digs_nil _ _) (digs_nil _ _) (HT.out.below HBC.out h0) (by have := HBC.out.size; omega) (by rw [climbR_1, climbR_6]; exact fun h => two_leaves h.2.2.1)).mono ?_
  rintro e W12 ⟨rfl, hb12⟩
  have hs12 := hb12.size
  have H7D := Lib.hid (H7C.out.trans (hb12.mono (by omega)))
  have HBD := Lib.hid (HB7.out.trans (H7D.out.mono HB7.out.size))
  have HPRD : Hid (W12.rangeAt pb po (cells8 (sha (nodeT (sha (leafT [1])) (sha (leafT [2])))))) := Lib.hid fun j v hv => (hb12.cell (p := ⟨pb, po + j, none⟩) (by show pb < _; omega)).trans (HPRC.out j v hv)
  have HD12 := Lib.hid (HD7.out.below H7D.out (by omega))
  clear hb12 hx5 hx6' hbC hW11 HPRC HPRX H78 H79 H7X H7C HD7
  have HTL : Hid (Calls Tryd.prog 28 #[.string { data := #[108, 101, 97, 102] }, .slice (some ⟨W12.heap.size, 0, none⟩) 1 1] (W12.alloc (.cells #[.int .u8 5] 5)).drew fun e w' => e = .returned (.agg c5.toArray) ∧ Below (W12.alloc (.cells #[.int .u8 5] 5)).drew.heap.size (W12.alloc (.cells #[.int .u8 5] 5)).drew w') := Lib.hid (by
    have hb : Below w.heap.size w (W12.alloc (.cells #[.int .u8 5] 5)).drew := (HBD.out.alloc HBD.out.size _).drew
    have h := tagged_any (W12.alloc (.cells #[.int .u8 5] 5)).drew { data := #[108, 101, 97, 102] } (.slice (some ⟨W12.heap.size, 0, none⟩) 1 1) [5] ((bytes_lit1 W12 5).below (Below.refl _ _).drew) (by decide) (by decide) (HT.out.below hb h0) (by have := hb.size; omega)
    rw [dv_eq, show tagged ({ data := #[108, 101, 97, 102] } : ByteArray).data.toList [5] = sha (leafT [5]) from rfl, H5E.out] at h
    exact h)
  obtain ⟨cn, hcn⟩ : ∃ x, cells8 (sha (nodeT (sha (leafT [1])) (sha (leafT [2])))) = x := ⟨_, rfl⟩
  obtain ⟨cm, hcm⟩ : ∃ x, cells8 (tagged tNone []) = x := ⟨_, rfl⟩
  have HRT : Hid (∀ W, Kept W12 W → Calls Tryd.prog 20 #[.slice (some ⟨W6.heap.size + 1 + 1 + 1, 0, none⟩) 2 3] W fun e w' => e = .returned (.agg cn.toArray) ∧ Below W.heap.size W w') := Lib.hid fun W hW => by
    have hb := HBD.out.trans (hW.below.mono HBD.out.size)
    have h := root_any W _ [[1], [2]] ((HR7.out.at (H7D.out.trans (hW.below.mono H7D.out.size))).take (k := 2) (by decide)) (by decide) (by decide) (HT.out.below hb h0) (by have := hb.size; omega)
    rw [mroot_2, hcn] at h
    exact h
  have HRN : Hid (∀ W, Kept W12 W → Calls Tryd.prog 20 #[.slice none 0 0] W fun e w' => e = .returned (.agg cm.toArray) ∧ Below W.heap.size W w') := Lib.hid fun W hW => by
    have hb := HBD.out.trans (hW.below.mono HBD.out.size)
    have h := root_any W _ [] (brows_nil W _) (by decide) (by decide) (HT.out.below hb h0) (by have := hb.size; omega)
    rw [mroot_0, hcm] at h
    exact h
  have HTN : Hid (∀ W, Kept W12 W → Calls Tryd.prog 28 #[.string { data := #[110, 111, 110, 101] }, .slice none 0 0] W fun e w' => e = .returned (.agg cm.toArray) ∧ Below W.heap.size W w') := Lib.hid fun W hW => by
    have hb := HBD.out.trans (hW.below.mono HBD.out.size)
    have h := tagged_any W { data := #[110, 111, 110, 101] } (.slice none 0 0) [] (bytes_nil0 W _) (by decide) (by decide) (HT.out.below hb h0) (by have := hb.size; omega)
    rw [dv_eq, show tagged ({ data := #[110, 111, 110, 101] } : ByteArray).data.toList [] = tagged tNone [] from rfl, hcm] at h
    exact h
  have hq5 := fun (W : World) => dig_eq (sha (leafT [5])) (sha (leafT [5])) (sha_len _) (sha_len _) W
  have hqn := fun (W : World) => dig_eq (sha (nodeT (sha (leafT [1])) (sha (leafT [2])))) (sha (nodeT (sha (leafT [1])) (sha (leafT [2])))) (sha_len _) (sha_len _) W
  have hqm := fun (W : World) => dig_eq (tagged tNone []) (tagged tNone []) (tagged_len _ _) (tagged_len _ _) W
  simp only [decide_true, dv_eq, H5E.out, hcn, hcm] at hq5 hqn hqm
  have HQ5 := Lib.hid hq5
  have HQN := Lib.hid hqn
  have HQM := Lib.hid hqm
  have hcl : cn.length = 32 := by rw [← hcn, cells8_len, sha_len]
  have HZN : Hid ((Tryd.prog.info? 30).map (·.size) = some cn.length) := Lib.hid (by rw [hcl]; exact Tryd.info30)
  have PA : Hid (∀ W, Kept W12 W → W.rangeAt W1.heap.size 0 c5) := Lib.hid fun W hW => (HD12.out.below hW.below (by omega)).at_
  have PB : Hid (∀ W, Kept W12 W → W.rangeAt pb po cn) := Lib.hid fun W hW j v hv => (hW.below.cell (p := ⟨pb, po + j, none⟩) (by show pb < _; omega)).trans (by rw [← hcn] at hv; exact HPRD.out j v hv)
  clear hcn hcm hq5 hqn hqm hcl
  go_wp2_with fail
  refine wp_region_held_drew (S := fun W => Kept W12 W) (by kernel_rfl) (Kept.drew (Kept.refl W12)) (fun hHeld => ?_)
  refine wpAnyH_take (i := 0) (oi := c16a0) (v := ?_) rfl (by kernel_rfl) (by kernel_rfl) (by kernel_rfl) (fun _ _ _ h => h) (Or.inl ⟨by rfl, ?_⟩) hHeld ?_
  rotate_left
  · (intro w hSw; (try dsimp only at hSw); unfold c16a0; go_simp <;> with_reducible rfl)
  try simp only [c16a0, Act.put, List.setIfInBounds_toArray, List.set_cons_zero, List.set_cons_succ]
  refine wpAnyH_take (i := 1) (oi := c16a1) (v := ?_) rfl (by kernel_rfl) (by kernel_rfl) (by kernel_rfl) (fun _ _ _ h => h) (Or.inl ⟨by rfl, ?_⟩) hHeld ?_
  rotate_left
  · (intro w hSw; (try dsimp only at hSw); unfold c16a1; go_simp <;> with_reducible rfl)
  try simp only [c16a1, Act.put, List.setIfInBounds_toArray, List.set_cons_zero, List.set_cons_succ]
  refine wpAnyH_take (i := 2) (oi := c16a2) rfl (by kernel_rfl) (by kernel_rfl) (by kernel_rfl) (fun _ _ _ h => h) (yieldsIf_load_mid (by rfl) 30 (.tmp 1) (by rfl) W1.heap.size 0 (by rfl) c5 _ (fun w hSw => PA.out w hSw) Tryd.underlying30 rfl HZ5.out) hHeld ?_
  try simp only [c16a2, Act.put, List.setIfInBounds_toArray, List.set_cons_zero, List.set_cons_succ]
  refine wpAnyH_ready (rs := [3]) (by kernel_rfl) (by simp) ?_
  refine AllReadyH.cons (o := c16a3) rfl (fun K hK => ?_) AllReadyH.nil
  rw [if_pos (by rfl)]
  unfold c16a3
  go_simp
  have hS3 := hHeld.alloc (Obj.cells #[.int .u8 5] 5)
  refine hK.out _ _ hS3 (fun hHeld => ?_)
  clear hK K
  try simp only [c16a3, Act.put, List.setIfInBounds_toArray, List.set_cons_zero, List.set_cons_succ]
  refine wpAnyH_ready (rs := [4]) (by kernel_rfl) (by simp) ?_
  refine AllReadyH.cons (o := c16a4) rfl (fun K hK => ?_) AllReadyH.nil
  rw [if_pos (by rfl)]
  unfold c16a4
  go_simp
  (with_reducible refine (HTL.out).mono ?_)
  rintro e X4 ⟨rfl, hB4⟩
  have hS4 := hHeld.next hB4
  go_wp2_with fail
  refine hK.out _ _ hS4 (fun hHeld => ?_)
  clear hK K
  try simp only [c16a4, Act.put, List.setIfInBounds_toArray, List.set_cons_zero, List.set_cons_succ]
  refine wpAnyH_take (i := 5) (oi := c16a5) (v := ?_) rfl (by kernel_rfl) (by kernel_rfl) (by kernel_rfl) (fun _ _ _ h => h) (Or.inl ⟨by rfl, ?_⟩) hHeld ?_
  rotate_left
  · (intro w hSw; have q5 := HQ5.out; have qn := HQN.out; have qm := HQM.out; unfold c16a5; go_simp <;> with_reducible rfl)
  try simp only [c16a5, Act.put, List.setIfInBounds_toArray, List.set_cons_zero, List.set_cons_succ]
  refine wpAnyH_take (i := 6) (oi := c16a6) (v := ?_) rfl (by kernel_rfl) (by kernel_rfl) (by kernel_rfl) (fun _ _ _ h => h) (Or.inl ⟨by rfl, ?_⟩) hHeld ?_
  rotate_left
  · (intro w hSw; (try dsimp only at hSw); unfold c16a6; go_simp <;> with_reducible rfl)
  try simp only [c16a6, Act.put, List.setIfInBounds_toArray, List.set_cons_zero, List.set_cons_succ]
  refine wpAnyH_take (i := 7) (oi := c16a7) (v := ?_) rfl (by kernel_rfl) (by kernel_rfl) (by kernel_rfl) (fun _ _ _ h => h) (Or.inl ⟨by rfl, ?_⟩) hHeld ?_
  rotate_left
  · (intro w hSw; (try dsimp only at hSw); unfold c16a7; go_simp <;> with_reducible rfl)
  try simp only [c16a7, Act.put, List.setIfInBounds_toArray, List.set_cons_zero, List.set_cons_succ]
  refine wpAnyH_take (i := 8) (oi := c16a8) (v := ?_) rfl (by kernel_rfl) (by kernel_rfl) (by kernel_rfl) (fun _ _ _ h => h) (Or.inl ⟨by rfl, ?_⟩) hHeld ?_
  rotate_left
  · (intro w hSw; (try dsimp only at hSw); unfold c16a8; go_simp <;> with_reducible rfl)
  try simp only [c16a8, Act.put, List.setIfInBounds_toArray, List.set_cons_zero, List.set_cons_succ]
  refine wpAnyH_take (i := 9) (oi := c16a9) (v := ?_) rfl (by kernel_rfl) (by kernel_rfl) (by kernel_rfl) (fun _ _ _ h => h) (Or.inl ⟨by rfl, ?_⟩) hHeld ?_
  rotate_left
  · (intro w hSw; (try dsimp only at hSw); unfold c16a9; go_simp <;> with_reducible rfl)
  try simp only [c16a9, Act.put, List.setIfInBounds_toArray, List.set_cons_zero, List.set_cons_succ]
  refine wpAnyH_take (i := 10) (oi := c16a10) (v := ?_) rfl (by kernel_rfl) (by kernel_rfl) (by kernel_rfl) (fun _ _ _ h => h) (Or.inl ⟨by rfl, ?_⟩) hHeld ?_
  rotate_left
  · (intro w hSw; (try dsimp only at hSw); unfold c16a10; go_simp <;> with_reducible rfl)
  try simp only [c16a10, Act.put, List.setIfInBounds_toArray, List.set_cons_zero, List.set_cons_succ]
  refine wpAnyH_take (i := 11) (oi := c16a11) (v := ?_) rfl (by kernel_rfl) (by kernel_rfl) (by kernel_rfl) (fun _ _ _ h => h) (Or.inl ⟨by rfl, ?_⟩) hHeld ?_
  rotate_left
  · (intro w hSw; (try dsimp only at hSw); unfold c16a11; go_simp <;> with_reducible rfl)
  try simp only [c16a11, Act.put, List.setIfInBounds_toArray, List.set_cons_zero, List.set_cons_succ]
  refine wpAnyH_take (i := 12) (oi := c16a12) (v := ?_) rfl (by kernel_rfl) (by kernel_rfl) (by kernel_rfl) (fun _ _ _ h => h) (Or.inl ⟨by rfl, ?_⟩) hHeld ?_
  rotate_left
  · (intro w hSw; (try dsimp only at hSw); unfold c16a12; go_simp <;> with_reducible rfl)
  try simp only [c16a12, Act.put, List.setIfInBounds_toArray, List.set_cons_zero, List.set_cons_succ]
  refine wpAnyH_take (i := 13) (oi := c16a13) (v := ?_) rfl (by kernel_rfl) (by kernel_rfl) (by kernel_rfl) (fun _ _ _ h => h) (Or.inl ⟨by rfl, ?_⟩) hHeld ?_
  rotate_left
  · (intro w hSw; (try dsimp only at hSw); unfold c16a13; go_simp <;> with_reducible rfl)
  try simp only [c16a13, Act.put, List.setIfInBounds_toArray, List.set_cons_zero, List.set_cons_succ]
  refine wpAnyH_take (i := 14) (oi := c16a14) (v := ?_) rfl (by kernel_rfl) (by kernel_rfl) (by kernel_rfl) (fun _ _ _ h => h) (Or.inl ⟨by rfl, ?_⟩) hHeld ?_
  rotate_left
  · (intro w hSw; (try dsimp only at hSw); unfold c16a14; go_simp <;> with_reducible rfl)
  try simp only [c16a14, Act.put, List.setIfInBounds_toArray, List.set_cons_zero, List.set_cons_succ]
  refine wpAnyH_take (i := 15) (oi := c16a15) (v := ?_) rfl (by kernel_rfl) (by kernel_rfl) (by kernel_rfl) (fun _ _ _ h => h) (Or.inl ⟨by rfl, ?_⟩) hHeld ?_
  rotate_left
  · (intro w hSw; (try dsimp only at hSw); unfold c16a15; go_simp <;> with_reducible rfl)
  try simp only [c16a15, Act.put, List.setIfInBounds_toArray, List.set_cons_zero, List.set_cons_succ]
  refine wpAnyH_take (i := 16) (oi := c16a16) (v := ?_) rfl (by kernel_rfl) (by kernel_rfl) (by kernel_rfl) (fun _ _ _ h => h) (Or.inl ⟨by rfl, ?_⟩) hHeld ?_
  rotate_left
  · (intro w hSw; (try dsimp only at hSw); unfold c16a16; go_simp <;> with_reducible rfl)
  try simp only [c16a16, Act.put, List.setIfInBounds_toArray, List.set_cons_zero, List.set_cons_succ]
  refine wpAnyH_take (i := 17) (oi := c16a17) (v := ?_) rfl (by kernel_rfl) (by kernel_rfl) (by kernel_rfl) (fun _ _ _ h => h) (Or.inl ⟨by rfl, ?_⟩) hHeld ?_
  rotate_left
  · (intro w hSw; (try dsimp only at hSw); unfold c16a17; go_simp <;> with_reducible rfl)
  try simp only [c16a17, Act.put, List.setIfInBounds_toArray, List.set_cons_zero, List.set_cons_succ]
  refine wpAnyH_take (i := 18) (oi := c16a18) (v := ?_) rfl (by kernel_rfl) (by kernel_rfl) (by kernel_rfl) (fun _ _ _ h => h) (Or.inl ⟨by rfl, ?_⟩) hHeld ?_
  rotate_left
  · (intro w hSw; (try dsimp only at hSw); unfold c16a18; go_simp <;> with_reducible rfl)
  try simp only [c16a18, Act.put, List.setIfInBounds_toArray, List.set_cons_zero, List.set_cons_succ]
  refine wpAnyH_take (i := 19) (oi := c16a19) (v := ?_) rfl (by kernel_rfl) (by kernel_rfl) (by kernel_rfl) (fun _ _ _ h => h) (Or.inl ⟨by rfl, ?_⟩) hHeld ?_
  rotate_left
  · (intro w hSw; (try dsimp only at hSw); unfold c16a19; go_simp <;> with_reducible rfl)
  try simp only [c16a19, Act.put, List.setIfInBounds_toArray, List.set_cons_zero, List.set_cons_succ]
  refine wpAnyH_take (i := 20) (oi := c16a20) rfl (by kernel_rfl) (by kernel_rfl) (by kernel_rfl) (fun _ _ _ h => h) (yieldsIf_load_mid (by rfl) 30 (.tmp 103) (by rfl) pb po (by rfl) cn _ (fun w hSw => PB.out w hSw) Tryd.underlying30 rfl HZN.out) hHeld ?_
  try simp only [c16a20, Act.put, List.setIfInBounds_toArray, List.set_cons_zero, List.set_cons_succ]
  refine wpAnyH_take (i := 21) (oi := c16a21) (v := ?_) rfl (by kernel_rfl) (by kernel_rfl) (by kernel_rfl) (fun _ _ _ h => h) (Or.inl ⟨by rfl, ?_⟩) hHeld ?_
  rotate_left
  · (intro w hSw; (try dsimp only at hSw); unfold c16a21; go_simp <;> with_reducible rfl)
  try simp only [c16a21, Act.put, List.setIfInBounds_toArray, List.set_cons_zero, List.set_cons_succ]
  refine wpAnyH_take (i := 22) (oi := c16a22) (v := ?_) rfl (by kernel_rfl) (by kernel_rfl) (by kernel_rfl) (fun _ _ _ h => h) (Or.inl ⟨by rfl, ?_⟩) hHeld ?_
  rotate_left
  · (intro w hSw; (try dsimp only at hSw); unfold c16a22; go_simp <;> with_reducible rfl)
  try simp only [c16a22, Act.put, List.setIfInBounds_toArray, List.set_cons_zero, List.set_cons_succ]
  refine wpAnyH_ready (rs := [23]) (by kernel_rfl) (by simp) ?_
  refine AllReadyH.cons (o := c16a23) rfl (fun K hK => ?_) AllReadyH.nil
  rw [if_pos (by rfl)]
  unfold c16a23
  go_simp
  (with_reducible refine (HRT.out _ hHeld).mono ?_)
  rintro e X23 ⟨rfl, hB23⟩
  have hS23 := hHeld.next hB23
  go_wp2_with fail
  refine hK.out _ _ hS23 (fun hHeld => ?_)
  clear hK K
  try simp only [c16a23, Act.put, List.setIfInBounds_toArray, List.set_cons_zero, List.set_cons_succ]
  refine wpAnyH_take (i := 24) (oi := c16a24) (v := ?_) rfl (by kernel_rfl) (by kernel_rfl) (by kernel_rfl) (fun _ _ _ h => h) (Or.inl ⟨by rfl, ?_⟩) hHeld ?_
  rotate_left
  · (intro w hSw; have q5 := HQ5.out; have qn := HQN.out; have qm := HQM.out; unfold c16a24; go_simp <;> with_reducible rfl)
  try simp only [c16a24, Act.put, List.setIfInBounds_toArray, List.set_cons_zero, List.set_cons_succ]
  refine wpAnyH_take (i := 25) (oi := c16a25) (v := ?_) rfl (by kernel_rfl) (by kernel_rfl) (by kernel_rfl) (fun _ _ _ h => h) (Or.inl ⟨by rfl, ?_⟩) hHeld ?_
  rotate_left
  · (intro w hSw; (try dsimp only at hSw); unfold c16a25; go_simp <;> with_reducible rfl)
  try simp only [c16a25, Act.put, List.setIfInBounds_toArray, List.set_cons_zero, List.set_cons_succ]
  refine wpAnyH_take (i := 26) (oi := c16a26) (v := ?_) rfl (by kernel_rfl) (by kernel_rfl) (by kernel_rfl) (fun _ _ _ h => h) (Or.inl ⟨by rfl, ?_⟩) hHeld ?_
  rotate_left
  · (intro w hSw; (try dsimp only at hSw); unfold c16a26; go_simp <;> with_reducible rfl)
  try simp only [c16a26, Act.put, List.setIfInBounds_toArray, List.set_cons_zero, List.set_cons_succ]
  refine wpAnyH_ready (rs := [27]) (by kernel_rfl) (by simp) ?_
  refine AllReadyH.cons (o := c16a27) rfl (fun K hK => ?_) AllReadyH.nil
  rw [if_pos (by rfl)]
  unfold c16a27
  go_simp
  (with_reducible refine (HRN.out _ hHeld).mono ?_)
  rintro e X27 ⟨rfl, hB27⟩
  have hS27 := hHeld.next hB27
  go_wp2_with fail
  refine hK.out _ _ hS27 (fun hHeld => ?_)
  clear hK K
  try simp only [c16a27, Act.put, List.setIfInBounds_toArray, List.set_cons_zero, List.set_cons_succ]
  refine wpAnyH_ready (rs := [28]) (by kernel_rfl) (by simp) ?_
  refine AllReadyH.cons (o := c16a28) rfl (fun K hK => ?_) AllReadyH.nil
  rw [if_pos (by rfl)]
  unfold c16a28
  go_simp
  (with_reducible refine (HTN.out _ hHeld).mono ?_)
  rintro e X28 ⟨rfl, hB28⟩
  have hS28 := hHeld.next hB28
  go_wp2_with fail
  refine hK.out _ _ hS28 (fun hHeld => ?_)
  clear hK K
  try simp only [c16a28, Act.put, List.setIfInBounds_toArray, List.set_cons_zero, List.set_cons_succ]
  refine wpAnyH_take (i := 29) (oi := c16a29) (v := ?_) rfl (by kernel_rfl) (by kernel_rfl) (by kernel_rfl) (fun _ _ _ h => h) (Or.inl ⟨by rfl, ?_⟩) hHeld ?_
  rotate_left
  · (intro w hSw; have q5 := HQ5.out; have qn := HQN.out; have qm := HQM.out; unfold c16a29; go_simp <;> with_reducible rfl)
  try simp only [c16a29, Act.put, List.setIfInBounds_toArray, List.set_cons_zero, List.set_cons_succ]
  refine wpAnyH_take (i := 30) (oi := c16a30) (v := ?_) rfl (by kernel_rfl) (by kernel_rfl) (by kernel_rfl) (fun _ _ _ h => h) (Or.inl ⟨by rfl, ?_⟩) hHeld ?_
  rotate_left
  · (intro w hSw; (try dsimp only at hSw); unfold c16a30; go_simp <;> with_reducible rfl)
  try simp only [c16a30, Act.put, List.setIfInBounds_toArray, List.set_cons_zero, List.set_cons_succ]
  refine wpAnyH_take (i := 31) (oi := c16a31) (v := ?_) rfl (by kernel_rfl) (by kernel_rfl) (by kernel_rfl) (fun _ _ _ h => h) (Or.inl ⟨by rfl, ?_⟩) hHeld ?_
  rotate_left
  · (intro w hSw; (try dsimp only at hSw); unfold c16a31; go_simp <;> with_reducible rfl)
  try simp only [c16a31, Act.put, List.setIfInBounds_toArray, List.set_cons_zero]
  refine wpAnyH_done (by kernel_rfl) ?_ _
  have HST := Lib.hid hHeld
  clear hHeld
  go_wp2
  go_returns
  exact ⟨rfl, HBD.out.trans (HST.out.below.mono HBD.out.size)⟩
end Go.Proofs.YtfmngeemhfpeiaaDoor
