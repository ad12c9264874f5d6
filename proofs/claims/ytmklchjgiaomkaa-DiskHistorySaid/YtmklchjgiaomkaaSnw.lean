/- sane of the law is true: the walk. -/
import Derived.Test.YtmklchjgiaomkaaSne
import Derived.Deep.CutRange
namespace Go.Proofs.Ytmklchjgiaomkaa
open Go.RowKit

theorem Below.andthen {w a b : World} (h : Below w.heap.size w a) (k : Below a.heap.size a b) : Below w.heap.size w b := h.trans (k.mono h.size)

theorem make_bytes_obj (n : Nat) (z : Int) (hz : z = n) (hn : n ≤ 100000) : ∃ M : Obj, (∀ w : World, (Instr.makeSlice 35 (.int .i64 z) (.int .i64 z)).run Try.prog w = .ok (.slice (some ⟨w.heap.size, 0, none⟩) n n) (w.alloc M)) ∧ ∀ w : World, Arr (w.alloc M) w.heap.size (cells8 (List.replicate n 0)) := by
  subst hz
  obtain ⟨i0, hi, hz0, hz1, hz2⟩ := info_parts Try.info5
  refine ⟨.cells (madeCells (Value.int .u8 0).cells (n * 1)) 5, fun w => ?_, fun w => ?_⟩
  · have := run_make (P := Try.prog) w 35 5 i0 _ Try.underlying35 hi hz0 .i64 .i64 n n (by omega) (by omega) (by rw [hz2]; omega) (by omega)
    rw [hz1, Int.toNat_natCast] at this
    exact this
  · have hA := Arr.new w (madeCells (Value.int .u8 0).cells (n * 1)) 5
    rw [show (Value.int .u8 0).cells = #[Value.int .u8 0] from rfl, made_bytes] at hA
    exact hA

theorem BytesAt.drew {W : World} {B : Nat} {v : Value} {bs : By} (h : BytesAt W B v bs) : BytesAt W.drew B v bs := by
  obtain ⟨a, c, h1, h2, h3, h4⟩ := h
  refine ⟨a, c, h1, h2, h3, ?_⟩
  rcases h4 with h4 | ⟨b, off, h4, h5, h6⟩
  · exact .inl h4
  · exact .inr ⟨b, off, h4, h5, h6⟩
theorem fld_left (c0 c1 c2 c3 : Value) (w : World) : (Instr.field 25 (.agg #[c0, c1, c2, c3]) 2).run Try.prog w = .ok c2 w := by kernel_rfl
def zcs : List Value := [.slice none 0 0, .slice none 0 0, .int .i64 0, .bool false]
theorem zcs_new (w : World) : Arr (w.alloc (.cells #[.slice none 0 0, .slice none 0 0, .int .i64 0, .bool false] 25)) w.heap.size zcs := Arr.new w #[.slice none 0 0, .slice none 0 0, .int .i64 0, .bool false] 25
theorem zcs_four {w : World} {b : Nat} (h : Arr w b zcs) : Cells4 w b (.slice none 0 0) (.slice none 0 0) (.int .i64 0) (.bool false) ∧ w.frozen? ⟨b, 0, none⟩ = false ∧ w.frozen? ⟨b, 1, none⟩ = false ∧ w.frozen? ⟨b, 2, none⟩ = false ∧ w.frozen? ⟨b, 3, none⟩ = false := by
  unfold zcs at h
  exact ⟨h.four, h.free⟩
/-- A block of zero cells lies where the last but one, or the last, allocation put it. -/
theorem zcs_1 {w w' : World} {B : Nat} (o : Obj) (hB : Below B ((w.alloc (.cells #[.slice none 0 0, .slice none 0 0, .int .i64 0, .bool false] 25)).alloc o).drew w') (h : w.heap.size < B) : Arr w' w.heap.size zcs := (((zcs_new w).alloc (by simp) o).drew).below hB h
theorem zcs_2 {w w' : World} {B : Nat} (o : Obj) (hB : Below B ((w.alloc o).alloc (.cells #[.slice none 0 0, .slice none 0 0, .int .i64 0, .bool false] 25)).drew w') (h : w.heap.size + 1 < B) : Arr w' (w.heap.size + 1) zcs := by
  have := zcs_new (w.alloc o)
  rw [World.size_alloc] at this
  exact this.drew.below hB h
theorem zcs_3 {w w' : World} {B : Nat} (hB : Below B (w.alloc (.cells #[.slice none 0 0, .slice none 0 0, .int .i64 0, .bool false] 25)).drew w') (h : w.heap.size < B) : Arr w' w.heap.size zcs := ((zcs_new w).drew).below hB h

/-! The operations of a region of the program that draws its order, as printed. -/
def q8c0 : Oper := { dst := some 60, op := Go.Op.load 25 (Go.Operand.tmp 13), type := 25, pos := "law.go:19", after := #[], guard := none }
def q8c1 : Oper := { dst := some 61, op := Go.Op.call { callee := Go.Callee.value (Go.Operand.func 27), args := #[Go.Operand.const (Go.Value.int Go.IntKind.u8 8)], argTypes := #[5] }, type := 35, pos := "law.go:19", after := #[], guard := none }
def q8c2 : Oper := { dst := some 62, op := Go.Op.call { callee := Go.Callee.value (Go.Operand.func 19), args := #[Go.Operand.tmp 60, Go.Operand.const (Go.Value.int Go.IntKind.i64 0), Go.Operand.tmp 61], argTypes := #[25, 3, 35] }, type := 29, pos := "law.go:19", after := #[{ on := 0, ground := Go.Ground.data }, { on := 1, ground := Go.Ground.data }, { on := 1, ground := Go.Ground.chain }], guard := none }
def q8c3 : Oper := { dst := some 59, op := Go.Op.move (Go.Operand.tmp 62), type := 29, pos := "law.go:19", after := #[{ on := 2, ground := Go.Ground.data }], guard := none }
def q8c4 : Oper := { dst := some 63, op := Go.Op.extract (Go.Operand.tmp 59) 0, type := 25, pos := "law.go:19", after := #[{ on := 3, ground := Go.Ground.data }], guard := none }
def q8c5 : Oper := { dst := some 64, op := Go.Op.extract (Go.Operand.tmp 59) 1, type := 28, pos := "law.go:19", after := #[{ on := 3, ground := Go.Ground.data }, { on := 6, ground := Go.Ground.gcOnly Go.Departure.lateStores }], guard := none }
def q8c6 : Oper := { dst := none, op := Go.Op.store 25 (Go.Operand.tmp 13) (Go.Operand.tmp 63), type := 0, pos := "law.go:19", after := #[{ on := 4, ground := Go.Ground.data }, { on := 2, ground := Go.Ground.chain }, { on := 0, ground := Go.Ground.phase }, { on := 1, ground := Go.Ground.phase }, { on := 2, ground := Go.Ground.phase }, { on := 3, ground := Go.Ground.phase }, { on := 4, ground := Go.Ground.phase }, { on := 5, ground := Go.Ground.textOnly Go.Departure.lateStores }], guard := none }
def q8c7 : Oper := { dst := some 15, op := Go.Op.assign (Go.Operand.tmp 64), type := 28, pos := "law.go:19", after := #[{ on := 5, ground := Go.Ground.data }, { on := 6, ground := Go.Ground.chain }, { on := 0, ground := Go.Ground.phase }, { on := 1, ground := Go.Ground.phase }, { on := 2, ground := Go.Ground.phase }, { on := 3, ground := Go.Ground.phase }, { on := 4, ground := Go.Ground.phase }, { on := 5, ground := Go.Ground.phase }, { on := 6, ground := Go.Ground.phase }], guard := none }

set_option maxRecDepth 100000 in
set_option maxHeartbeats 16000000 in
theorem sane_walk (w : World) (D0 D1 D2 D3 D4 D5 D6 D7 D8 : Dk) (R1 R6 R7 R8 B8 : By)
    (hN0 : ∀ w, Calls Try.prog 12 #[.int .i64 0] w fun e w' => ∃ u, e = .returned (.tuple #[u, .int .i64 1]) ∧ DkAt w' w'.heap.size u D0 ∧ Below w.heap.size w w')
    (hN2 : ∀ w, Calls Try.prog 12 #[.int .i64 2] w fun e w' => ∃ u, e = .returned (.tuple #[u, .int .i64 0]) ∧ DkAt w' w'.heap.size u D1 ∧ Below w.heap.size w w')
    (hW1 : ∀ w v vb, DkAt w w.heap.size v D1 → BytesAt w w.heap.size vb [7] → Calls Try.prog 19 #[v, .int .i64 1, vb] w fun e w' => ∃ u, e = .returned (.tuple #[u, .int .i64 0]) ∧ DkAt w' w'.heap.size u D2 ∧ Below w.heap.size w w')
    (hR1 : ∀ w v, DkAt w w.heap.size v D2 → Calls Try.prog 21 #[v, .int .i64 1] w fun e w' => ∃ u, e = .returned (.tuple #[u, .int .i64 0]) ∧ BytesAt w' w'.heap.size u R1 ∧ Below w.heap.size w w')
    (hR2 : ∀ w v, DkAt w w.heap.size v D1 → Calls Try.prog 21 #[v, .int .i64 2] w fun e w' => ∃ u, e = .returned (.tuple #[u, .int .i64 40]) ∧ Below w.heap.size w w')
    (hW2 : ∀ w v vb, DkAt w w.heap.size v D1 → BytesAt w w.heap.size vb (List.replicate 129 0) → Calls Try.prog 19 #[v, .int .i64 0, vb] w fun e w' => ∃ u, e = .returned (.tuple #[u, .int .i64 1]) ∧ DkAt w' w'.heap.size u D0 ∧ Below w.heap.size w w')
    (hH1 : ∀ w v, DkAt w w.heap.size v D2 → Calls Try.prog 25 #[v, .int .i64 1] w fun e w' => ∃ u, e = .returned (.tuple #[u, .int .i64 0]) ∧ DkAt w' w'.heap.size u D3 ∧ Below w.heap.size w w')
    (hW3 : ∀ w v vb, DkAt w w.heap.size v D3 → BytesAt w w.heap.size vb B8 → Calls Try.prog 19 #[v, .int .i64 0, vb] w fun e w' => ∃ u, e = .returned (.tuple #[u, .int .i64 0]) ∧ DkAt w' w'.heap.size u D4 ∧ Below w.heap.size w w')
    (hS4 : ∀ w v, DkAt w w.heap.size v D4 → Calls Try.prog 23 #[v] w fun e w' => ∃ u, e = .returned (.tuple #[u, .int .i64 40]) ∧ DkAt w' w'.heap.size u D5 ∧ Below w.heap.size w w')
    (hT5 : ∀ w v, DkAt w w.heap.size v D5 → Calls Try.prog 17 #[v] w fun e w' => ∃ u, e = .returned u ∧ DkAt w' w'.heap.size u D6 ∧ Below w.heap.size w w')
    (hR6 : ∀ w v, DkAt w w.heap.size v D6 → Calls Try.prog 21 #[v, .int .i64 1] w fun e w' => ∃ u, e = .returned (.tuple #[u, .int .i64 0]) ∧ BytesAt w' w'.heap.size u R6 ∧ Below w.heap.size w w')
    (hR7 : ∀ w v, DkAt w w.heap.size v D6 → Calls Try.prog 21 #[v, .int .i64 0] w fun e w' => ∃ u, e = .returned (.tuple #[u, .int .i64 0]) ∧ BytesAt w' w'.heap.size u R7 ∧ Below w.heap.size w w')
    (hT2 : ∀ w v, DkAt w w.heap.size v D2 → Calls Try.prog 17 #[v] w fun e w' => ∃ u, e = .returned u ∧ DkAt w' w'.heap.size u D7 ∧ Below w.heap.size w w')
    (hR8 : ∀ w v, DkAt w w.heap.size v D7 → Calls Try.prog 21 #[v, .int .i64 1] w fun e w' => ∃ u, e = .returned (.tuple #[u, .int .i64 0]) ∧ BytesAt w' w'.heap.size u R8 ∧ Below w.heap.size w w')
    (hD8 : ∀ w, Calls Try.prog 27 #[.int .u8 8] w fun e w' => e = .returned (.slice (some ⟨w.heap.size, 0, none⟩) 128 128) ∧ Arr w' w.heap.size (cells8 B8) ∧ Below w.heap.size w w')
    (hCz : ∀ w, Calls Try.prog 15 #[.agg #[.slice none 0 0, .slice none 0 0, .int .i64 0, .bool false]] w fun e w' => e = .returned (.int .i64 40) ∧ Below w.heap.size w w')
    (hTz : ∀ w, Calls Try.prog 17 #[.agg #[.slice none 0 0, .slice none 0 0, .int .i64 0, .bool false]] w fun e w' => ∃ u, e = .returned u ∧ DkAt w' w'.heap.size u D8 ∧ Below w.heap.size w w')
    (l0 : D0.sec.length = 0 ∧ D0.pen.length = 0 ∧ D0.left = 0 ∧ D0.stop = false)
    (l1 : D1.sec.length = 2 ∧ D1.pen.length = 0 ∧ D1.left = -1 ∧ D1.stop = false)
    (l2 : D2.sec.length = 2 ∧ D2.pen.length = 1 ∧ D2.left = -1 ∧ D2.stop = false)
    (l3 : D3.sec.length = 2 ∧ D3.pen.length = 1 ∧ D3.left = 1 ∧ D3.stop = false)
    (l4 : D4.sec.length = 2 ∧ D4.pen.length = 2 ∧ D4.left = 1 ∧ D4.stop = false)
    (l5 : D5.sec.length = 2 ∧ D5.pen.length = 0 ∧ D5.left = 0 ∧ D5.stop = true)
    (l6 : D6.sec.length = 2 ∧ D6.pen.length = 0 ∧ D6.left = -1 ∧ D6.stop = false)
    (l8 : D8.sec.length = 0 ∧ D8.pen.length = 0 ∧ D8.left = -1 ∧ D8.stop = false)
    (r1 : R1.length = 128 ∧ R1[0]? = some 7) (r6 : R6.length = 128 ∧ R6[0]? = some 7) (r7 : R7.length = 128 ∧ R7[0]? = some 8 ∧ R7[64]? = some 0) (r8 : R8.length = 128 ∧ R8[0]? = some 0) (b8 : B8.length = 128) (f4 : D4.full) (f6 : D6.full)
    : Calls Try.prog 10 #[] w fun e w' => e = .returned (.bool true) ∧ Below w.heap.size w w' := by
  have HN0 := Lib.hid hN0
  have HN2 := Lib.hid hN2
  have HW1 := Lib.hid hW1
  have HR1 := Lib.hid hR1
  have HR2 := Lib.hid hR2
  have HW2 := Lib.hid hW2
  have HH1 := Lib.hid hH1
  have HW3 := Lib.hid hW3
  have HS4 := Lib.hid hS4
  have HT5 := Lib.hid hT5
  have HR6 := Lib.hid hR6
  have HR7 := Lib.hid hR7
  have HT2 := Lib.hid hT2
  have HR8 := Lib.hid hR8
  have HD8 := Lib.hid hD8
  have HCZ := Lib.hid hCz
  have HTZ := Lib.hid hTz
  have L0 := Lib.hid l0
  have L1 := Lib.hid l1
  have L2 := Lib.hid l2
  have L3 := Lib.hid l3
  have L4 := Lib.hid l4
  have L5 := Lib.hid l5
  have L6 := Lib.hid l6
  have L8 := Lib.hid l8
  have R1H := Lib.hid r1
  have R6H := Lib.hid r6
  have R7H := Lib.hid r7
  have R8H := Lib.hid r8
  have B8H := Lib.hid b8
  have F4 := Lib.hid f4
  have F6 := Lib.hid f6
  clear hN0 hN2 hW1 hR1 hR2 hW2 hH1 hW3 hS4 hT5 hR6 hR7 hT2 hR8 hD8 hCz hTz l0 l1 l2 l3 l4 l5 l6 l8 r1 r6 r7 r8 b8 f4 f6
  go_enter Try.func10, Try.ntmps10
  go_wp2_with fail
  refine (HN0.out _).mono ?_
  rintro e w1 ⟨u1, rfl, hu1, hB1⟩
  obtain ⟨s1, c1, p1, q1, W1, rfl, hw1, hX1, hb1, -⟩ := hu1.box L0.out.1 L0.out.2.1 L0.out.2.2.1 L0.out.2.2.2
  have HW := Lib.hid hw1
  have HB1 := Lib.hid (Below.andthen hB1 hb1)
  clear hu1 hB1 hw1 hX1 hb1
  go_wp2_with fail
  rw [← HW.out]
  refine (HN2.out _).mono ?_
  rintro e w2 ⟨u2, rfl, hu2, hB2⟩
  obtain ⟨s2, c2, p2, q2, W2, rfl, hw2, hX2, hb2, -, -, -, -, hz2⟩ := hu2.box L1.out.1 L1.out.2.1 L1.out.2.2.1 L1.out.2.2.2
  have HW := Lib.hid hw2
  have HB2 := Lib.hid (Below.andthen (Below.andthen HB1.out hB2) hb2)
  have HX2 := Lib.hid hX2
  clear hu2 hB2 hw2 hX2 hb2 HB1
  -- the write of 7
  obtain ⟨W2b, hW2b⟩ : ∃ W, W = W2.alloc (.cells #[.int .u8 7] 5) := ⟨_, rfl⟩
  have hB2b : Below W2.heap.size W2 W2b := by rw [hW2b]; go_grown
  have hA2b : Arr W2b W2.heap.size (cells8 [7]) := by rw [hW2b]; exact Arr.new W2 #[.int .u8 7] 5
  have hy2b : BytesAt W2b W2b.heap.size (.slice (some ⟨W2.heap.size, 0, none⟩) 1 1) [7] := hA2b.bytesAt rfl (by rw [hW2b]; simp) (Nat.le_refl _) (by unfold maxLen; omega)
  rw [hz2] at hy2b
  have HX2b := Lib.hid (HX2.out.next hB2b)
  have HY2b := Lib.hid hy2b
  have HB2b := Lib.hid (Below.andthen HB2.out hB2b)
  have HWb := Lib.hid hW2b
  obtain ⟨e0, e1, e2, e3⟩ := HX2.out.four
  rw [HW.out] at e0 e1 e2 e3
  clear hW2b hB2b hA2b hy2b HX2 hz2
  go_wp2_with fail
  rw [← HW.out, ← HWb.out]
  refine (HW1.out _ _ _ HX2b.out.dk HY2b.out).mono ?_
  rintro e w3 ⟨u3, rfl, hu3, hB3⟩
  obtain ⟨s3, c3, p3, q3, W3, rfl, hw3, hX3, hb3, -⟩ := hu3.box L2.out.1 L2.out.2.1 L2.out.2.2.1 L2.out.2.2.2
  have HW := Lib.hid hw3
  have HX3 := Lib.hid hX3
  have HX2 := Lib.hid ((HX2b.out.next hB3).next hb3)
  have HB3 := Lib.hid (Below.andthen (Below.andthen HB2b.out hB3) hb3)
  clear hu3 hB3 hw3 hX3 hb3 HB2b HY2b HX2b e0 e1 e2 e3
  obtain ⟨e0, e1, e2, e3⟩ := HX3.out.four
  rw [HW.out] at e0 e1 e2 e3
  go_wp2_with fail
  rw [← HW.out]
  refine (HR1.out _ _ HX3.out.dk).mono ?_
  rintro e w4 ⟨u4, rfl, hu4, hB4⟩
  have HU4 := Lib.hid hu4
  have HX2 := Lib.hid (HX2.out.next hB4)
  have HX3 := Lib.hid (HX3.out.next hB4)
  have HB4 := Lib.hid (Below.andthen HB3.out hB4)
  clear hu4 hB4 e0 e1 e2 e3
  obtain ⟨e0, e1, e2, e3⟩ := HX2.out.four
  go_wp2_with fail
  refine (HR2.out _ _ HX2.out.dk).mono ?_
  rintro e w5 ⟨u5, rfl, hB5⟩
  have HU5 := Lib.hid (HU4.out.nxt hB5)
  have HX2 := Lib.hid (HX2.out.next hB5)
  have HX3 := Lib.hid (HX3.out.next hB5)
  have HB5 := Lib.hid (Below.andthen HB4.out hB5)
  clear hB5 e0 e1 e2 e3 HU4 HB4
  go_wp2_with fail
  go_cut [12] from 48 to 53 (fun s12 wx => s12 = .int .i64 1 ∧ Kept w5 wx)
  case first =>
    -- <6
    rename_i J1 K1 hJ1 hM1
    have hs1 : ∀ W, Kept w5 W → W.cell? ⟨w2.heap.size, 0, none⟩ = some (.slice s2 2 c2) ∧ W.cell? ⟨w2.heap.size, 1, none⟩ = some (.slice p2 0 q2) ∧ W.cell? ⟨w2.heap.size, 2, none⟩ = some (.int .i64 (-1)) ∧ W.cell? ⟨w2.heap.size, 3, none⟩ = some (.bool false) := fun W hW => by
      obtain ⟨e0, e1, e2, e3⟩ := (HX2.out.next hW.below).four
      exact ⟨e0, e1, e2, e3⟩
    have hc : ∀ W g, Kept w5 W → g < W.heap.size → Arr W g (cells8 (List.replicate 129 0)) → Calls Try.prog 19 #[.agg #[.slice s2 2 c2, .slice p2 0 q2, .int .i64 (-1), .bool false], .int .i64 0, .slice (some ⟨g, 0, none⟩) 129 129] W fun e w' =>
        ∃ sa cs ap cp, e = .returned (.tuple #[.agg #[.slice sa 0 cs, .slice ap 0 cp, .int .i64 0, .bool false], .int .i64 1]) ∧ Kept w5 w' ∧ Below W.heap.size W w' := fun W g hW hg hA => by
      refine (HW2.out W _ _ (HX2.out.next hW.below).dk (hA.bytesAt (by rw [List.length_replicate]) hg (Nat.le_refl _) (by unfold maxLen; omega))).mono fun e w' ⟨u, h1, h2, h3⟩ => ?_
      obtain ⟨sa, cs, ap, cp, rfl, _⟩ := h2.parts L0.out.1 L0.out.2.1 L0.out.2.2.1 L0.out.2.2.2
      exact ⟨sa, cs, ap, cp, h1, hW.next h3, h3⟩
    have HS1 := Lib.hid hs1
    have HC := Lib.hid hc
    obtain ⟨M, hmk, hMA⟩ := make_bytes_obj 129 129 rfl (by omega)
    have HM := Lib.hid hMA
    clear hs1 hc hMA
    go_region_held3 (fun W => W.cell? ⟨w2.heap.size, 0, none⟩ = some (.slice s2 2 c2) ∧ W.cell? ⟨w2.heap.size, 1, none⟩ = some (.slice p2 0 q2) ∧ W.cell? ⟨w2.heap.size, 2, none⟩ = some (.int .i64 (-1)) ∧ W.cell? ⟨w2.heap.size, 3, none⟩ = some (.bool false))
      (first | assumption | exact HS1.out _ (by first | assumption | exact Kept.refl _ | exact Kept.drew (Kept.refl _) | (repeat' first | assumption | exact Kept.refl _ | refine Kept.drew ?_ | refine Kept.alloc ?_ _ | refine Kept.set ?_ ?_ _) <;> first | omega | (simp; done) | (simp; omega)))
      (first | ((with_reducible refine (HC.out _ _ (by first | assumption | exact Kept.refl _ | exact Kept.drew (Kept.refl _) | (repeat' first | assumption | exact Kept.refl _ | refine Kept.drew ?_ | refine Kept.alloc ?_ _ | refine Kept.set ?_ ?_ _) <;> first | omega | (simp; done) | (simp; omega)) (by first | omega | (simp; done) | (simp; omega)) (by first | exact HM.out _ | exact (HM.out _).drew | exact (HM.out _).alloc (by simp) _ | exact ((HM.out _).alloc (by simp) _).drew | (have := HM.out (w5.alloc (.cells #[.slice none 0 0, .slice none 0 0, .int .i64 0, .bool false] 25)); simpa using this.drew))).mono ?_); rintro e w' ⟨sa, ca, pa, qa, rfl, hK, hB⟩; first | (have hz := zcs_1 M hB (by first | omega | (simp; done) | (simp; omega)); obtain ⟨⟨z0, z1, z2, z3⟩, y0, y1, y2, y3⟩ := zcs_four hz) | (have hz := zcs_2 M hB (by first | omega | (simp; done) | (simp; omega)); obtain ⟨⟨z0, z1, z2, z3⟩, y0, y1, y2, y3⟩ := zcs_four hz) | skip))
    all_goals
      refine hM1 _ _ ?_
      go_meet
      exact ⟨rfl, by first | assumption | exact Kept.refl _ | exact Kept.drew (Kept.refl _) | (repeat' first | assumption | exact Kept.refl _ | refine Kept.drew ?_ | refine Kept.alloc ?_ _ | refine Kept.set ?_ ?_ _) <;> first | omega | (simp; done) | (simp; omega)⟩
    -- 6>
  case rest =>
    obtain ⟨rfl, hKc⟩ := hcut
    have HX2 := Lib.hid (HX2.out.next hKc.below)
    have HX3 := Lib.hid (HX3.out.next hKc.below)
    have HU6 := Lib.hid (HU5.out.nxt hKc.below)
    have HB6 := Lib.hid (Below.andthen HB5.out hKc.below)
    clear hKc HU5 HB5
    obtain ⟨e0, e1, e2, e3⟩ := HX3.out.four
    go_wp2_with fail
    refine (HH1.out _ _ HX3.out.dk).mono ?_
    rintro e w7 ⟨u7, rfl, hu7, hB7⟩
    obtain ⟨s7, c7, p7, q7, W7, rfl, hw7, hX7, hb7, -⟩ := hu7.box L3.out.1 L3.out.2.1 L3.out.2.2.1 L3.out.2.2.2
    have HW := Lib.hid hw7
    have HX7 := Lib.hid hX7
    have HX3 := Lib.hid (HX3.out.next hB7)
    have HU7 := Lib.hid (HU6.out.nxt hB7)
    have HB7 := Lib.hid (Below.andthen HB6.out hB7)
    have HB77 := Lib.hid hb7
    clear hu7 hB7 hw7 hX7 hb7 HU6 HB6 e0 e1 e2 e3
    go_wp2_with fail
    rw [← HW.out]
    go_cut [15] from 59 to 64 (fun s15 wx => s15 = .int .i64 0 ∧ (∃ sa cs ap cp, Boxed wx w7.heap.size sa 2 cs ap 2 cp 1 false D4) ∧ Below w7.heap.size W7 wx)
    case first =>
      -- <8
      rename_i J1 K1 hJ1 hM1
      have hc1 : ∀ W, Kept W7 W → Calls Try.prog 27 #[.int .u8 8] W fun e w' => e = .returned (.slice (some ⟨W.heap.size, 0, none⟩) 128 128) ∧ Kept W7 w' ∧ BytesAt w' w'.heap.size (.slice (some ⟨W.heap.size, 0, none⟩) 128 128) B8 := fun W hW =>
        (HD8.out W).mono fun e w' ⟨h1, h2, h3⟩ => ⟨h1, hW.next h3, h2.bytesAt B8H.out (h2.lt (by rw [cells8_len, B8H.out]; omega)) (Nat.le_refl _) (by unfold maxLen; omega)⟩
      have hc2 : ∀ W v, Kept W7 W → BytesAt W W.heap.size v B8 → Calls Try.prog 19 #[.agg #[.slice s7 2 c7, .slice p7 1 q7, .int .i64 1, .bool false], .int .i64 0, v] W fun e w' =>
          ∃ sa cs ap cp, e = .returned (.tuple #[.agg #[.slice sa 2 cs, .slice ap 2 cp, .int .i64 1, .bool false], .int .i64 0]) ∧ Kept W7 w' ∧ DkAt w' w'.heap.size (.agg #[.slice sa 2 cs, .slice ap 2 cp, .int .i64 1, .bool false]) D4 := fun W v hW hv => by
        refine (HW3.out W _ v (HX7.out.next hW.below).dk hv).mono fun e w' ⟨u, h1, h2, h3⟩ => ?_
        obtain ⟨sa, cs, ap, cp, rfl, _⟩ := h2.parts L4.out.1 L4.out.2.1 L4.out.2.2.1 L4.out.2.2.2
        exact ⟨sa, cs, ap, cp, h1, hW.next h3, h2⟩
      have hcell : ∀ W, Kept W7 W → Cells4 W w7.heap.size (.slice s7 2 c7) (.slice p7 1 q7) (.int .i64 1) (.bool false) := fun W hW => (HX7.out.next hW.below).four
      have hfree : ∀ W, Kept W7 W → W.frozen? ⟨w7.heap.size, 0, none⟩ = false ∧ W.frozen? ⟨w7.heap.size, 1, none⟩ = false ∧ W.frozen? ⟨w7.heap.size, 2, none⟩ = false ∧ W.frozen? ⟨w7.heap.size, 3, none⟩ = false := fun W hW => (HX7.out.next hW.below).arr.free
      have hsb : ∀ W, Kept W7 W → Below w7.heap.size W7 W := fun W hW => hW.below.mono (Nat.le_of_lt HX7.out.lt)
      have HC1 := Lib.hid hc1
      have HC2 := Lib.hid hc2
      have HCE := Lib.hid hcell
      have HFR := Lib.hid hfree
      have HSB := Lib.hid hsb
      obtain ⟨e0, e1, e2, e3⟩ := hcell _ (Kept.refl _)
      clear hc1 hc2 hcell hfree hsb
      refine wp_region_held_drew (S := fun W => Below w7.heap.size W7 W) (by kernel_rfl) (HSB.out _ (Kept.drew (Kept.refl _))) (fun hHeld => ?_)
      refine wpAnyH_ready (rs := [0, 1]) (by kernel_rfl) (by simp) ?_
      refine AllReadyH.cons (o := q8c0) rfl (fun K hK => ?_) (AllReadyH.cons (o := q8c1) rfl (fun K hK => ?_) AllReadyH.nil)
      · skip
        rw [if_pos (by rfl)]
        unfold q8c0
        go_simp
        refine hK.out _ _ hHeld (fun hHeld => ?_)
        clear hK K
        try simp only [q8c0, Act.put, List.setIfInBounds_toArray, List.set_cons_zero, List.set_cons_succ]
        refine wpAnyH_ready (rs := [1]) (by kernel_rfl) (by simp) ?_
        refine AllReadyH.cons (o := q8c1) rfl (fun K hK => ?_) AllReadyH.nil
        rw [if_pos (by rfl)]
        unfold q8c1
        go_simp
        (with_reducible refine (HC1.out _ (by first | assumption | exact Kept.refl _ | exact Kept.drew (Kept.refl _))).mono ?_)
        rintro e w' ⟨rfl, hK1, hy⟩
        have hy' : BytesAt w' w'.heap.size (.slice (some ⟨W7.heap.size, 0, none⟩) 128 128) B8 := hy
        obtain ⟨x0, x1, x2, x3⟩ := HCE.out _ hK1
        go_wp2_with fail
        refine hK.out _ _ (HSB.out _ hK1) (fun hHeld => ?_)
        clear hK K
        try simp only [q8c1, Act.put, List.setIfInBounds_toArray, List.set_cons_zero, List.set_cons_succ]
        refine wpAnyH_ready (rs := [2]) (by kernel_rfl) (by simp) ?_
        refine AllReadyH.cons (o := q8c2) rfl (fun K hK => ?_) AllReadyH.nil
        rw [if_pos (by rfl)]
        unfold q8c2
        go_simp
        (with_reducible refine (HC2.out _ _ (by assumption) (by assumption)).mono ?_)
        rintro e w'' ⟨sa, ca, pa, qa, rfl, hK2, hd4⟩
        obtain ⟨y0, y1, y2, y3⟩ := HCE.out _ hK2
        obtain ⟨r0, r1, r2, r3⟩ := HFR.out _ hK2
        go_wp2_with fail
        refine hK.out _ _ (HSB.out _ hK2) (fun hHeld => ?_)
        clear hK K
        try simp only [q8c2, Act.put, List.setIfInBounds_toArray, List.set_cons_zero, List.set_cons_succ]
        refine wpAnyH_take (i := 3) (oi := q8c3) (v := ?_) rfl (by kernel_rfl) (by kernel_rfl) (by kernel_rfl) (fun _ _ _ h => h) (Or.inl ⟨by rfl, ?_⟩) hHeld ?_
        rotate_left
        · (intro w hSw; (try dsimp only at hSw); unfold q8c3; go_simp <;> with_reducible rfl)
        try simp only [q8c3, Act.put, List.setIfInBounds_toArray, List.set_cons_zero, List.set_cons_succ]
        refine wpAnyH_take (i := 4) (oi := q8c4) (v := ?_) rfl (by kernel_rfl) (by kernel_rfl) (by kernel_rfl) (fun _ _ _ h => h) (Or.inl ⟨by rfl, ?_⟩) hHeld ?_
        rotate_left
        · (intro w hSw; (try dsimp only at hSw); unfold q8c4; go_simp <;> with_reducible rfl)
        try simp only [q8c4, Act.put, List.setIfInBounds_toArray, List.set_cons_zero, List.set_cons_succ]
        refine wpAnyH_take (i := 5) (oi := q8c5) (v := ?_) rfl (by kernel_rfl) (by kernel_rfl) (by kernel_rfl) (fun _ _ _ h => h) (Or.inl ⟨by rfl, ?_⟩) hHeld ?_
        rotate_left
        · (intro w hSw; (try dsimp only at hSw); unfold q8c5; go_simp <;> with_reducible rfl)
        try simp only [q8c5, Act.put, List.setIfInBounds_toArray, List.set_cons_zero, List.set_cons_succ]
        refine wpAnyH_ready (rs := [6]) (by kernel_rfl) (by simp) ?_
        refine AllReadyH.cons (o := q8c6) rfl (fun K hK => ?_) AllReadyH.nil
        rw [if_pos (by rfl)]
        unfold q8c6
        go_simp
        refine hK.out _ _ (((((HSB.out _ hK2).setCell (p := ⟨w7.heap.size, 0, none⟩) (Nat.le_refl _) _).setCell (p := ⟨w7.heap.size, 1, none⟩) (Nat.le_refl _) _).setCell (p := ⟨w7.heap.size, 2, none⟩) (Nat.le_refl _) _).setCell (p := ⟨w7.heap.size, 3, none⟩) (Nat.le_refl _) _) (fun hHeld => ?_)
        clear hK K
        try simp only [q8c6, Act.put]
        refine wpAnyH_take (i := 7) (oi := q8c7) (v := ?_) rfl (by kernel_rfl) (by kernel_rfl) (by kernel_rfl) (fun _ _ _ h => h) (Or.inl ⟨by rfl, ?_⟩) hHeld ?_
        rotate_left
        · (intro w hSw; (try dsimp only at hSw); unfold q8c7; go_simp <;> with_reducible rfl)
        try simp only [q8c7, Act.put, List.setIfInBounds_toArray, List.set_cons_zero, List.set_cons_succ]
        refine wpAnyH_done (by kernel_rfl) ?_ _
        have HD4 := Lib.hid hd4
        have HK2 := Lib.hid hK2
        refine hM1 _ _ ?_
        go_meet
        exact ⟨rfl, ⟨sa, ca, pa, qa, (HX7.out.next HK2.out.below).over HD4.out F4.out⟩, hHeld⟩
      · skip
        rw [if_pos (by rfl)]
        unfold q8c1
        go_simp
        (with_reducible refine (HC1.out _ (by first | assumption | exact Kept.refl _ | exact Kept.drew (Kept.refl _))).mono ?_)
        rintro e w' ⟨rfl, hK1, hy⟩
        have hy' : BytesAt w' w'.heap.size (.slice (some ⟨W7.heap.size, 0, none⟩) 128 128) B8 := hy
        obtain ⟨x0, x1, x2, x3⟩ := HCE.out _ hK1
        go_wp2_with fail
        refine hK.out _ _ (HSB.out _ hK1) (fun hHeld => ?_)
        clear hK K
        try simp only [q8c1, Act.put, List.setIfInBounds_toArray, List.set_cons_zero, List.set_cons_succ]
        refine wpAnyH_ready (rs := [0]) (by kernel_rfl) (by simp) ?_
        refine AllReadyH.cons (o := q8c0) rfl (fun K hK => ?_) AllReadyH.nil
        rw [if_pos (by rfl)]
        unfold q8c0
        go_simp
        refine hK.out _ _ hHeld (fun hHeld => ?_)
        clear hK K
        try simp only [q8c0, Act.put, List.setIfInBounds_toArray, List.set_cons_zero, List.set_cons_succ]
        refine wpAnyH_ready (rs := [2]) (by kernel_rfl) (by simp) ?_
        refine AllReadyH.cons (o := q8c2) rfl (fun K hK => ?_) AllReadyH.nil
        rw [if_pos (by rfl)]
        unfold q8c2
        go_simp
        (with_reducible refine (HC2.out _ _ (by assumption) (by assumption)).mono ?_)
        rintro e w'' ⟨sa, ca, pa, qa, rfl, hK2, hd4⟩
        obtain ⟨y0, y1, y2, y3⟩ := HCE.out _ hK2
        obtain ⟨r0, r1, r2, r3⟩ := HFR.out _ hK2
        go_wp2_with fail
        refine hK.out _ _ (HSB.out _ hK2) (fun hHeld => ?_)
        clear hK K
        try simp only [q8c2, Act.put, List.setIfInBounds_toArray, List.set_cons_zero, List.set_cons_succ]
        refine wpAnyH_take (i := 3) (oi := q8c3) (v := ?_) rfl (by kernel_rfl) (by kernel_rfl) (by kernel_rfl) (fun _ _ _ h => h) (Or.inl ⟨by rfl, ?_⟩) hHeld ?_
        rotate_left
        · (intro w hSw; (try dsimp only at hSw); unfold q8c3; go_simp <;> with_reducible rfl)
        try simp only [q8c3, Act.put, List.setIfInBounds_toArray, List.set_cons_zero, List.set_cons_succ]
        refine wpAnyH_take (i := 4) (oi := q8c4) (v := ?_) rfl (by kernel_rfl) (by kernel_rfl) (by kernel_rfl) (fun _ _ _ h => h) (Or.inl ⟨by rfl, ?_⟩) hHeld ?_
        rotate_left
        · (intro w hSw; (try dsimp only at hSw); unfold q8c4; go_simp <;> with_reducible rfl)
        try simp only [q8c4, Act.put, List.setIfInBounds_toArray, List.set_cons_zero, List.set_cons_succ]
        refine wpAnyH_take (i := 5) (oi := q8c5) (v := ?_) rfl (by kernel_rfl) (by kernel_rfl) (by kernel_rfl) (fun _ _ _ h => h) (Or.inl ⟨by rfl, ?_⟩) hHeld ?_
        rotate_left
        · (intro w hSw; (try dsimp only at hSw); unfold q8c5; go_simp <;> with_reducible rfl)
        try simp only [q8c5, Act.put, List.setIfInBounds_toArray, List.set_cons_zero, List.set_cons_succ]
        refine wpAnyH_ready (rs := [6]) (by kernel_rfl) (by simp) ?_
        refine AllReadyH.cons (o := q8c6) rfl (fun K hK => ?_) AllReadyH.nil
        rw [if_pos (by rfl)]
        unfold q8c6
        go_simp
        refine hK.out _ _ (((((HSB.out _ hK2).setCell (p := ⟨w7.heap.size, 0, none⟩) (Nat.le_refl _) _).setCell (p := ⟨w7.heap.size, 1, none⟩) (Nat.le_refl _) _).setCell (p := ⟨w7.heap.size, 2, none⟩) (Nat.le_refl _) _).setCell (p := ⟨w7.heap.size, 3, none⟩) (Nat.le_refl _) _) (fun hHeld => ?_)
        clear hK K
        try simp only [q8c6, Act.put]
        refine wpAnyH_take (i := 7) (oi := q8c7) (v := ?_) rfl (by kernel_rfl) (by kernel_rfl) (by kernel_rfl) (fun _ _ _ h => h) (Or.inl ⟨by rfl, ?_⟩) hHeld ?_
        rotate_left
        · (intro w hSw; (try dsimp only at hSw); unfold q8c7; go_simp <;> with_reducible rfl)
        try simp only [q8c7, Act.put, List.setIfInBounds_toArray, List.set_cons_zero, List.set_cons_succ]
        refine wpAnyH_done (by kernel_rfl) ?_ _
        have HD4 := Lib.hid hd4
        have HK2 := Lib.hid hK2
        refine hM1 _ _ ?_
        go_meet
        exact ⟨rfl, ⟨sa, ca, pa, qa, (HX7.out.next HK2.out.below).over HD4.out F4.out⟩, hHeld⟩
      -- 8>
    case rest =>
      obtain ⟨rfl, ⟨sa, ca, pa, qa, hX8⟩, hB8⟩ := hcut
      have hB78 : Below w7.heap.size w7 wc := HB77.out.trans hB8
      have HX8 := Lib.hid hX8
      have HX3 := Lib.hid (HX3.out.next hB78)
      have HU8 := Lib.hid (HU7.out.nxt hB78)
      have HB8 := Lib.hid (Below.andthen HB7.out hB78)
      clear hX8 hB8 hB78 HX7 HX2 HU7 HB7 HB77
      obtain ⟨e0, e1, e2, e3⟩ := HX8.out.four
      go_wp2_with fail
      refine (HS4.out _ _ HX8.out.dk).mono ?_
      rintro e w9 ⟨u9, rfl, hu9, hB9⟩
      obtain ⟨s9, c9, p9, q9, W9, rfl, hw9, hX9, hb9, -⟩ := hu9.box L5.out.1 L5.out.2.1 L5.out.2.2.1 L5.out.2.2.2
      have HW := Lib.hid hw9
      have HX9 := Lib.hid hX9
      have HX3 := Lib.hid (HX3.out.next hB9)
      have HU9 := Lib.hid (HU8.out.nxt hB9)
      have HB9 := Lib.hid (Below.andthen HB8.out hB9)
      have HB99 := Lib.hid hb9
      clear hu9 hB9 hw9 hX9 hb9 HU8 HB8 HX8 e0 e1 e2 e3
      obtain ⟨e0, e1, e2, e3⟩ := HX9.out.four
      rw [HW.out] at e0 e1 e2 e3
      go_wp2_with fail
      rw [← HW.out]
      refine (HT5.out _ _ HX9.out.dk).mono ?_
      rintro e w10 ⟨u10, rfl, hu10, hB10⟩
      obtain ⟨s10, c10, p10, q10, rfl, -⟩ := hu10.parts L6.out.1 L6.out.2.1 L6.out.2.2.1 L6.out.2.2.2
      have HU10 := Lib.hid hu10
      have HX10 := Lib.hid (HX9.out.next hB10)
      have HB99 := Lib.hid (HB99.out.trans (hB10.mono (Nat.le_of_lt HX9.out.lt)))
      clear hu10 hB10 HX9 e0 e1 e2 e3
      go_wp2_with (refine store_box rfl (.tmp 16) (.tmp 110) rfl HX10.out (by rfl) (by rfl) HU10.out F6.out ?_; intro W12 hG12 hX12; have HX12 := Lib.hid hX12; have HG12 := Lib.hid hG12; obtain ⟨e0, e1, e2, e3⟩ := hX12.four; clear hG12 hX12)
      have hB912 : Below w9.heap.size w9 W12 := below_grow HB99.out HG12.out (fun j hj => by cases hj; exact Nat.le_refl _) HB99.out.size
      have HX3 := Lib.hid (HX3.out.next hB912)
      have HU12 := Lib.hid (HU9.out.nxt hB912)
      have HB12 := Lib.hid (Below.andthen HB9.out hB912)
      clear hB912 HU9 HB9 HB99 HX10 HG12 HU10
      refine (HR6.out _ _ HX12.out.dk).mono ?_
      rintro e w13 ⟨u13, rfl, hu13, hB13⟩
      have HV13 := Lib.hid hu13
      have HX13 := Lib.hid (HX12.out.next hB13)
      have HX3 := Lib.hid (HX3.out.next hB13)
      have HU13 := Lib.hid (HU12.out.nxt hB13)
      have HB13 := Lib.hid (Below.andthen HB12.out hB13)
      clear hu13 hB13 HX12 HU12 HB12 e0 e1 e2 e3
      obtain ⟨e0, e1, e2, e3⟩ := HX13.out.four
      go_wp2_with fail
      refine (HR7.out _ _ HX13.out.dk).mono ?_
      rintro e w14 ⟨u14, rfl, hu14, hB14⟩
      have HN14 := Lib.hid hu14
      have HX3 := Lib.hid (HX3.out.next hB14)
      have HV14 := Lib.hid (HV13.out.nxt hB14)
      have HU14 := Lib.hid (HU13.out.nxt hB14)
      have HB14 := Lib.hid (Below.andthen HB13.out hB14)
      clear hu14 hB14 HX13 HU13 HB13 HV13 e0 e1 e2 e3
      obtain ⟨e0, e1, e2, e3⟩ := HX3.out.four
      go_wp2_with fail
      refine (HT2.out _ _ HX3.out.dk).mono ?_
      rintro e w15 ⟨u15, rfl, hu15, hB15⟩
      have HD15 := Lib.hid hu15
      have HN15 := Lib.hid (HN14.out.nxt hB15)
      have HV15 := Lib.hid (HV14.out.nxt hB15)
      have HU15 := Lib.hid (HU14.out.nxt hB15)
      have HB15 := Lib.hid (Below.andthen HB14.out hB15)
      clear hu15 hB15 HX3 HU14 HB14 HV14 HN14 e0 e1 e2 e3
      go_wp2_with fail
      refine (HR8.out _ _ HD15.out).mono ?_
      rintro e w16 ⟨u16, rfl, hu16, hB16⟩
      obtain ⟨nb, no, nc, rfl, hn0, hn1, hn2, hn3⟩ := (HN15.out.nxt hB16).cell R7H.out.1 (by omega)
      obtain ⟨vb, vo, vc, rfl, hv0, hv1, hv2, hv3⟩ := (HV15.out.nxt hB16).cell R6H.out.1 (by omega)
      obtain ⟨ub, uo, uc, rfl, hu0, hu1, hu2, hu3⟩ := (HU15.out.nxt hB16).cell R1H.out.1 (by omega)
      obtain ⟨lb, lo, lc, rfl, hl0, hl1, hl2, hl3⟩ := hu16.cell R8H.out.1 (by omega)
      have a0 := hn3 0 8 R7H.out.2.1
      have a1 := hn3 64 0 R7H.out.2.2
      have a2 := hv3 0 7 R6H.out.2
      have a3 := hu3 0 7 R1H.out.2
      have a4 := hl3 0 0 R8H.out.2
      rw [Nat.add_zero] at a0 a2 a3 a4
      have a0 : w16.cell? ⟨nb, no, none⟩ = some (.int .u8 8) := a0
      have a1 : w16.cell? ⟨nb, no + 64, none⟩ = some (.int .u8 0) := a1
      have a2 : w16.cell? ⟨vb, vo, none⟩ = some (.int .u8 7) := a2
      have a3 : w16.cell? ⟨ub, uo, none⟩ = some (.int .u8 7) := a3
      have a4 : w16.cell? ⟨lb, lo, none⟩ = some (.int .u8 0) := a4
      have HB16 := Lib.hid (Below.andthen HB15.out hB16)
      have hcz := fun W => HCZ.out W
      have htz := fun W => HTZ.out W
      unfold maxLen at hn2 hv2 hu2 hl2
      clear hn0 hv0 hu0 hl0 hn3 hv3 hu3 hl3 hu16 hB16 HD15 HN15 HV15 HU15 HB15
      go_wp2_with fail
      refine (hcz _).mono ?_
      rintro e w17 ⟨rfl, hB17⟩
      have HB17 := Lib.hid (Below.andthen HB16.out hB17)
      clear hB17 a0 a1 a2 a3 a4
      go_wp2_with fail
      refine (htz _).mono ?_
      rintro e w18 ⟨u18, rfl, hu18, hB18⟩
      obtain ⟨s18, c18, p18, q18, rfl, -⟩ := hu18.parts L8.out.1 L8.out.2.1 L8.out.2.2.1 L8.out.2.2.2
      have HB18 := Lib.hid (Below.andthen HB17.out hB18)
      have hfl := fld_left (.slice s18 0 c18) (.slice p18 0 q18) (.int .i64 (-1)) (.bool false)
      clear hu18 hB18
      go_wp2
      go_ret
      exact ⟨rfl, HB18.out⟩

theorem sane_any (w : World) : Calls Try.prog 10 #[] w fun e w' => e = .returned (.bool true) ∧ Below w.heap.size w w' := by
  have hl := lens
  refine sane_walk w Dk.zero T1 T2 T3 T4 T5 T6 T2.restart Dk.zero.restart (T2.read 1).1 (T6.read 1).1 (T6.read 0).1 (T2.restart.read 1).1 (dbl 8) ?_ ?_ ?_ ?_ ?_ ?_ ?_ ?_ ?_ ?_ ?_ ?_ ?_ ?_ ?_ ?_ ?_ ?_ ?_ ?_ ?_ ?_ ?_ ?_ ?_ ?_ ?_ ?_ ?_ ?_ ?_ ?_
  · intro w; have h := new_any w 0 (.inl (by omega)); rw [t0_err] at h; exact h
  · intro w; have h := new_any w 2 (.inl (by omega)); rw [t1_err] at h; exact h
  · intro w v vb h1 h2; have h := write_any w T1 v vb 1 [7] h1 h2 ⟨by decide, by decide⟩; rw [t2_err] at h; exact h
  · intro w v h1; have h := read_any w T2 v 1 h1; rw [tr_err] at h; exact h
  · intro w v h1; have h := read_any w T1 v 2 h1; rw [tn_err] at h; exact h.mono fun e w' ⟨u, h2, _, h3⟩ => ⟨u, h2, h3⟩
  · intro w v vb h1 h2; have h := write_any w T1 v vb 0 _ h1 h2 ⟨by decide, by decide⟩; rw [tw_err, tw_zero] at h; exact h
  · intro w v h1; have h := stop_any w T2 v 1 h1 ⟨by decide, by decide⟩; rw [t3_err] at h; exact h
  · intro w v vb h1 h2; have h := write_any w T3 v vb 0 _ h1 h2 ⟨by decide, by decide⟩; rw [t4_err] at h; exact h
  · intro w v h1; have h := sync_any w T4 v h1; rw [t5_err] at h; exact h
  · intro w v h1; exact restart_any w T5 v h1 17 (.inl rfl)
  · intro w v h1; have h := read_any w T6 v 1 h1; rw [o_err] at h; exact h
  · intro w v h1; have h := read_any w T6 v 0 h1; rw [n_err] at h; exact h
  · intro w v h1; exact restart_any w T2 v h1 17 (.inl rfl)
  · intro w v h1; have h := read_any w T2.restart v 1 h1; rw [l_err] at h; exact h
  · intro w; exact double_any w 8
  · intro w; have h := check_any w Dk.zero _ (zero_at w _); rw [z_ok] at h; exact h
  · intro w; exact restart_any w Dk.zero _ (zero_at w _) 17 (.inl rfl)
  · exact ⟨rfl, rfl, rfl, rfl⟩
  · exact ⟨hl.1, hl.2.1, hl.2.2.1, hl.2.2.2.1⟩
  · exact ⟨hl.2.2.2.2.1, hl.2.2.2.2.2.1, hl.2.2.2.2.2.2.1, hl.2.2.2.2.2.2.2.1⟩
  · exact ⟨hl.2.2.2.2.2.2.2.2.1, hl.2.2.2.2.2.2.2.2.2.1, hl.2.2.2.2.2.2.2.2.2.2.1, hl.2.2.2.2.2.2.2.2.2.2.2.1⟩
  · exact ⟨hl.2.2.2.2.2.2.2.2.2.2.2.2.1, hl.2.2.2.2.2.2.2.2.2.2.2.2.2.1, hl.2.2.2.2.2.2.2.2.2.2.2.2.2.2.1, hl.2.2.2.2.2.2.2.2.2.2.2.2.2.2.2.1⟩
  · exact ⟨hl.2.2.2.2.2.2.2.2.2.2.2.2.2.2.2.2.1, hl.2.2.2.2.2.2.2.2.2.2.2.2.2.2.2.2.2.1, hl.2.2.2.2.2.2.2.2.2.2.2.2.2.2.2.2.2.2.1, hl.2.2.2.2.2.2.2.2.2.2.2.2.2.2.2.2.2.2.2.1⟩
  · exact ⟨hl.2.2.2.2.2.2.2.2.2.2.2.2.2.2.2.2.2.2.2.2.1, hl.2.2.2.2.2.2.2.2.2.2.2.2.2.2.2.2.2.2.2.2.2.1, hl.2.2.2.2.2.2.2.2.2.2.2.2.2.2.2.2.2.2.2.2.2.2.1, hl.2.2.2.2.2.2.2.2.2.2.2.2.2.2.2.2.2.2.2.2.2.2.2⟩
  · exact ⟨rfl, rfl, rfl, rfl⟩
  · exact ⟨tr_len, tr_at⟩
  · exact ⟨o_len, o_at⟩
  · exact ⟨n_len, n_at.1, n_at.2⟩
  · exact ⟨l_len, l_at⟩
  · exact dbl_len 8
  · exact full4
  · exact full6
end Go.Proofs.Ytmklchjgiaomkaa
