/- holds of the law: the halves of the sectors of a disk. -/
import Derived.Test.YtmklchjgiaomkaaSne
import Derived.Test.YtmklchjgiaomkaaRd
namespace Go.Proofs.Ytmklchjgiaomkaa
open Go.RowKit

/-- The bytes of a sector whose halves begin with two bytes. -/
def hb (a b : UInt8) : By := ((List.replicate 128 0).set 0 a).set 64 b
theorem hb_len (a b : UInt8) : (hb a b).length = 128 := by simp [hb]
theorem hb_0 (a b : UInt8) : (hb a b)[0]? = some a := rfl
theorem hb_1 (a b : UInt8) : (hb a b)[1]? = some 0 := rfl
theorem hb_64 (a b : UInt8) : (hb a b)[64]? = some b := rfl
theorem hb_127 (a b : UInt8) : (hb a b)[127]? = some 0 := rfl
theorem dbl_hb (c : UInt8) : dbl c = hb c c := rfl
def q28a0 : Oper := { dst := some 20, op := Go.Op.move (Go.Operand.tmp 9), type := 28, pos := "law.go:92", after := #[], guard := none }
def q28a1 : Oper := { dst := some 21, op := Go.Op.binOp Go.BinOp.neq 28 (Go.Operand.tmp 20) (Go.Operand.const (Go.Value.int Go.IntKind.i64 0)) 28, type := 4, pos := "law.go:92", after := #[{ on := 0, ground := Go.Ground.data }], guard := none }
def q28a2 : Oper := { dst := some 22, op := Go.Op.move (Go.Operand.tmp 21), type := 4, pos := "law.go:92", after := #[{ on := 1, ground := Go.Ground.data }], guard := none }
def q28a3 : Oper := { dst := some 23, op := Go.Op.move (Go.Operand.tmp 8), type := 35, pos := "law.go:92", after := #[{ on := 2, ground := Go.Ground.guard }], guard := some (2, false) }
def q28a4 : Oper := { dst := some 24, op := Go.Op.call { callee := Go.Callee.builtin Go.Builtin.len, args := #[Go.Operand.tmp 23], argTypes := #[35] }, type := 3, pos := "law.go:92", after := #[{ on := 3, ground := Go.Ground.data }, { on := 2, ground := Go.Ground.guard }], guard := some (2, false) }
def q28a5 : Oper := { dst := some 25, op := Go.Op.binOp Go.BinOp.neq 3 (Go.Operand.tmp 24) (Go.Operand.const (Go.Value.int Go.IntKind.i64 128)) 3, type := 4, pos := "law.go:92", after := #[{ on := 4, ground := Go.Ground.data }, { on := 2, ground := Go.Ground.guard }], guard := some (2, false) }
def q28a6 : Oper := { dst := some 26, op := Go.Op.pick (Go.Operand.tmp 22) (Go.Operand.const (Go.Value.bool true)) (Go.Operand.tmp 25), type := 4, pos := "law.go:92", after := #[{ on := 2, ground := Go.Ground.data }, { on := 5, ground := Go.Ground.data }], guard := none }
def q28a7 : Oper := { dst := some 27, op := Go.Op.move (Go.Operand.tmp 26), type := 4, pos := "law.go:92", after := #[{ on := 6, ground := Go.Ground.data }, { on := 2, ground := Go.Ground.chain }], guard := none }
def q28a8 : Oper := { dst := some 28, op := Go.Op.move (Go.Operand.tmp 8), type := 35, pos := "law.go:92", after := #[{ on := 7, ground := Go.Ground.guard }], guard := some (7, false) }
def q28a9 : Oper := { dst := some 29, op := Go.Op.indexAddr 35 (Go.Operand.tmp 28) (Go.Operand.const (Go.Value.int Go.IntKind.i64 0)), type := 0, pos := "law.go:92", after := #[{ on := 8, ground := Go.Ground.data }, { on := 7, ground := Go.Ground.guard }], guard := some (7, false) }
def q28a10 : Oper := { dst := some 30, op := Go.Op.load 5 (Go.Operand.tmp 29), type := 5, pos := "law.go:92", after := #[{ on := 9, ground := Go.Ground.data }, { on := 7, ground := Go.Ground.guard }], guard := some (7, false) }
def q28a11 : Oper := { dst := some 31, op := Go.Op.move (Go.Operand.tmp 7), type := 3, pos := "law.go:92", after := #[{ on := 7, ground := Go.Ground.guard }], guard := some (7, false) }
def q28a12 : Oper := { dst := some 32, op := Go.Op.indexAddr 44 (Go.Operand.tmp 4) (Go.Operand.tmp 31), type := 0, pos := "law.go:92", after := #[{ on := 11, ground := Go.Ground.data }, { on := 7, ground := Go.Ground.guard }], guard := some (7, false) }
def q28a13 : Oper := { dst := some 33, op := Go.Op.load 5 (Go.Operand.tmp 32), type := 5, pos := "law.go:92", after := #[{ on := 12, ground := Go.Ground.data }, { on := 7, ground := Go.Ground.guard }], guard := some (7, false) }
def q28a14 : Oper := { dst := some 34, op := Go.Op.binOp Go.BinOp.neq 5 (Go.Operand.tmp 30) (Go.Operand.tmp 33) 5, type := 4, pos := "law.go:92", after := #[{ on := 10, ground := Go.Ground.data }, { on := 13, ground := Go.Ground.data }, { on := 7, ground := Go.Ground.guard }], guard := some (7, false) }
def q28a15 : Oper := { dst := some 35, op := Go.Op.pick (Go.Operand.tmp 27) (Go.Operand.const (Go.Value.bool true)) (Go.Operand.tmp 34), type := 4, pos := "law.go:92", after := #[{ on := 7, ground := Go.Ground.data }, { on := 14, ground := Go.Ground.data }], guard := none }
def q28a16 : Oper := { dst := some 36, op := Go.Op.move (Go.Operand.tmp 35), type := 4, pos := "law.go:92", after := #[{ on := 15, ground := Go.Ground.data }, { on := 7, ground := Go.Ground.chain }], guard := none }
def q28a17 : Oper := { dst := some 37, op := Go.Op.move (Go.Operand.tmp 8), type := 35, pos := "law.go:92", after := #[{ on := 16, ground := Go.Ground.guard }], guard := some (16, false) }
def q28a18 : Oper := { dst := some 38, op := Go.Op.indexAddr 35 (Go.Operand.tmp 37) (Go.Operand.const (Go.Value.int Go.IntKind.i64 64)), type := 0, pos := "law.go:92", after := #[{ on := 17, ground := Go.Ground.data }, { on := 16, ground := Go.Ground.guard }], guard := some (16, false) }
def q28a19 : Oper := { dst := some 39, op := Go.Op.load 5 (Go.Operand.tmp 38), type := 5, pos := "law.go:92", after := #[{ on := 18, ground := Go.Ground.data }, { on := 16, ground := Go.Ground.guard }], guard := some (16, false) }
def q28a20 : Oper := { dst := some 40, op := Go.Op.move (Go.Operand.tmp 7), type := 3, pos := "law.go:92", after := #[{ on := 16, ground := Go.Ground.guard }], guard := some (16, false) }
def q28a21 : Oper := { dst := some 41, op := Go.Op.indexAddr 44 (Go.Operand.tmp 5) (Go.Operand.tmp 40), type := 0, pos := "law.go:92", after := #[{ on := 20, ground := Go.Ground.data }, { on := 16, ground := Go.Ground.guard }], guard := some (16, false) }
def q28a22 : Oper := { dst := some 42, op := Go.Op.load 5 (Go.Operand.tmp 41), type := 5, pos := "law.go:92", after := #[{ on := 21, ground := Go.Ground.data }, { on := 16, ground := Go.Ground.guard }], guard := some (16, false) }
def q28a23 : Oper := { dst := some 43, op := Go.Op.binOp Go.BinOp.neq 5 (Go.Operand.tmp 39) (Go.Operand.tmp 42) 5, type := 4, pos := "law.go:92", after := #[{ on := 19, ground := Go.Ground.data }, { on := 22, ground := Go.Ground.data }, { on := 16, ground := Go.Ground.guard }], guard := some (16, false) }
def q28a24 : Oper := { dst := some 44, op := Go.Op.pick (Go.Operand.tmp 36) (Go.Operand.const (Go.Value.bool true)) (Go.Operand.tmp 43), type := 4, pos := "law.go:92", after := #[{ on := 16, ground := Go.Ground.data }, { on := 23, ground := Go.Ground.data }], guard := none }
def q28a25 : Oper := { dst := some 45, op := Go.Op.move (Go.Operand.tmp 44), type := 4, pos := "law.go:92", after := #[{ on := 24, ground := Go.Ground.data }, { on := 16, ground := Go.Ground.chain }], guard := none }
def q28a26 : Oper := { dst := some 46, op := Go.Op.move (Go.Operand.tmp 8), type := 35, pos := "law.go:92", after := #[{ on := 25, ground := Go.Ground.guard }], guard := some (25, false) }
def q28a27 : Oper := { dst := some 47, op := Go.Op.indexAddr 35 (Go.Operand.tmp 46) (Go.Operand.const (Go.Value.int Go.IntKind.i64 1)), type := 0, pos := "law.go:92", after := #[{ on := 26, ground := Go.Ground.data }, { on := 25, ground := Go.Ground.guard }], guard := some (25, false) }
def q28a28 : Oper := { dst := some 48, op := Go.Op.load 5 (Go.Operand.tmp 47), type := 5, pos := "law.go:92", after := #[{ on := 27, ground := Go.Ground.data }, { on := 25, ground := Go.Ground.guard }], guard := some (25, false) }
def q28a29 : Oper := { dst := some 49, op := Go.Op.binOp Go.BinOp.neq 5 (Go.Operand.tmp 48) (Go.Operand.const (Go.Value.int Go.IntKind.u8 0)) 5, type := 4, pos := "law.go:92", after := #[{ on := 28, ground := Go.Ground.data }, { on := 25, ground := Go.Ground.guard }], guard := some (25, false) }
def q28a30 : Oper := { dst := some 50, op := Go.Op.pick (Go.Operand.tmp 45) (Go.Operand.const (Go.Value.bool true)) (Go.Operand.tmp 49), type := 4, pos := "law.go:92", after := #[{ on := 25, ground := Go.Ground.data }, { on := 29, ground := Go.Ground.data }], guard := none }
def q28a31 : Oper := { dst := some 51, op := Go.Op.move (Go.Operand.tmp 50), type := 4, pos := "law.go:92", after := #[{ on := 30, ground := Go.Ground.data }, { on := 25, ground := Go.Ground.chain }], guard := none }
def q28a32 : Oper := { dst := some 52, op := Go.Op.move (Go.Operand.tmp 8), type := 35, pos := "law.go:92", after := #[{ on := 31, ground := Go.Ground.guard }], guard := some (31, false) }
def q28a33 : Oper := { dst := some 53, op := Go.Op.indexAddr 35 (Go.Operand.tmp 52) (Go.Operand.const (Go.Value.int Go.IntKind.i64 127)), type := 0, pos := "law.go:92", after := #[{ on := 32, ground := Go.Ground.data }, { on := 31, ground := Go.Ground.guard }], guard := some (31, false) }
def q28a34 : Oper := { dst := some 54, op := Go.Op.load 5 (Go.Operand.tmp 53), type := 5, pos := "law.go:92", after := #[{ on := 33, ground := Go.Ground.data }, { on := 31, ground := Go.Ground.guard }], guard := some (31, false) }
def q28a35 : Oper := { dst := some 55, op := Go.Op.binOp Go.BinOp.neq 5 (Go.Operand.tmp 54) (Go.Operand.const (Go.Value.int Go.IntKind.u8 0)) 5, type := 4, pos := "law.go:92", after := #[{ on := 34, ground := Go.Ground.data }, { on := 31, ground := Go.Ground.guard }], guard := some (31, false) }
def q28a36 : Oper := { dst := some 56, op := Go.Op.pick (Go.Operand.tmp 51) (Go.Operand.const (Go.Value.bool true)) (Go.Operand.tmp 55), type := 4, pos := "law.go:92", after := #[{ on := 31, ground := Go.Ground.data }, { on := 35, ground := Go.Ground.data }], guard := none }

set_option maxHeartbeats 4000000 in
theorem holds_any (w : World) (d : Dk) (v : Value) (F S : List UInt8) (hF : F.length = 4) (hS : S.length = 4) (h : DkAt w w.heap.size v d) (hr : ∀ (i : Nat) (h1 : i < F.length) (h2 : i < S.length), d.read i = (hb F[i] S[i], 0)) :
    Calls Try.prog 28 #[v, .agg (cells8 F).toArray, .agg (cells8 S).toArray] w fun e w' => e = .returned (.bool true) ∧ Below w.heap.size w w' := by
  match F, hF with
  | [f0, f1, f2, f3], _ =>
  match S, hS with
  | [s0, s1, s2, s3], _ =>
  show Calls Try.prog 28 #[v, .agg #[.int .u8 f0.toNat, .int .u8 f1.toNat, .int .u8 f2.toNat, .int .u8 f3.toNat], .agg #[.int .u8 s0.toNat, .int .u8 s1.toNat, .int .u8 s2.toNat, .int .u8 s3.toNat]] w _
  have hget : ∀ m : Nat, m < 4 → ∃ f s : UInt8, d.read m = (hb f s, 0) ∧ (cells8 [f0, f1, f2, f3])[m]? = some (.int .u8 f.toNat) ∧ (cells8 [s0, s1, s2, s3])[m]? = some (.int .u8 s.toNat) := fun m hm => by
    refine ⟨[f0, f1, f2, f3][m]'hm, [s0, s1, s2, s3][m]'hm, hr m hm hm, ?_, ?_⟩
    · simp only [cells8, List.getElem?_map, List.getElem?_eq_getElem (show m < [f0, f1, f2, f3].length from hm)]; rfl
    · simp only [cells8, List.getElem?_map, List.getElem?_eq_getElem (show m < [s0, s1, s2, s3].length from hm)]; rfl
  have hrd := fun W v n h => read_any W d v n h
  have HRD := Lib.hid hrd
  have HGET := Lib.hid hget
  have H := Lib.hid h
  obtain ⟨sa, cs, ap, cp, rfl, -⟩ := h.open
  obtain ⟨k, hk⟩ : ∃ k, d.sec.length = k := ⟨_, rfl⟩
  obtain ⟨pn, hp⟩ : ∃ k, d.pen.length = k := ⟨_, rfl⟩
  obtain ⟨left, hle⟩ : ∃ x, d.left = x := ⟨_, rfl⟩
  obtain ⟨st, hst⟩ : ∃ x, d.stop = x := ⟨_, rfl⟩
  rw [hk, hp, hle, hst] at H ⊢
  obtain ⟨p, hpp⟩ : ∃ p, w.heap.size = p := ⟨_, rfl⟩
  obtain ⟨w0, hw0⟩ : ∃ w0, w0 = ((w.alloc (.cells #[.slice sa k cs, .slice ap pn cp, .int .i64 left, .bool st] 25)).alloc (.cells #[.int .u8 f0.toNat, .int .u8 f1.toNat, .int .u8 f2.toNat, .int .u8 f3.toNat] 44)).alloc (.cells #[.int .u8 s0.toNat, .int .u8 s1.toNat, .int .u8 s2.toNat, .int .u8 s3.toNat] 44) := ⟨_, rfl⟩
  have hz : w0.heap.size = p + 1 + 1 + 1 := by rw [hw0]; simp [hpp]
  have hB0 : Below w.heap.size w w0 := by rw [hw0]; go_grown
  have hX : Arr w0 p [.slice sa k cs, .slice ap pn cp, .int .i64 left, .bool st] := by
    rw [hw0, ← hpp]; exact ((Arr.new w #[.slice sa k cs, .slice ap pn cp, .int .i64 left, .bool st] 25).alloc (by simp) _).alloc (by simp; omega) _
  have hA : Arr w0 (p + 1) (cells8 [f0, f1, f2, f3]) := by
    rw [hw0, ← hpp]
    have := (Arr.new (w.alloc (.cells #[.slice sa k cs, .slice ap pn cp, .int .i64 left, .bool st] 25)) #[.int .u8 f0.toNat, .int .u8 f1.toNat, .int .u8 f2.toNat, .int .u8 f3.toNat] 44).alloc (by simp) (.cells #[.int .u8 s0.toNat, .int .u8 s1.toNat, .int .u8 s2.toNat, .int .u8 s3.toNat] 44)
    simpa [cells8] using this
  have hC : Arr w0 (p + 1 + 1) (cells8 [s0, s1, s2, s3]) := by
    rw [hw0, ← hpp]
    have := Arr.new ((w.alloc (.cells #[.slice sa k cs, .slice ap pn cp, .int .i64 left, .bool st] 25)).alloc (.cells #[.int .u8 f0.toNat, .int .u8 f1.toNat, .int .u8 f2.toNat, .int .u8 f3.toNat] 44)) #[.int .u8 s0.toNat, .int .u8 s1.toNat, .int .u8 s2.toNat, .int .u8 s3.toNat] 44
    simpa [cells8] using this
  have HW := Lib.hid hw0
  have HX := Lib.hid hX
  have HA := Lib.hid hA
  have HC := Lib.hid hC
  have HB0 := Lib.hid hB0
  have HD := Lib.hid (H.out.next hB0)
  have HPP := Lib.hid hpp
  clear h hr hget hrd hk hp hle hst hw0 hB0 hX hA hC H
  go_enter Try.func28, Try.ntmps28
  go_wp2
  rw [← HW.out]


  go_loopw [7] (fun i wr => ∃ m : Nat, i = .int .i64 m ∧ m ≤ 4 ∧ Below w0.heap.size w0 wr) (fun i _ => 4 - (intOf i).toNat)
  case atStart => exact ⟨0, rfl, Nat.zero_le _, Below.refl _ _⟩
  case round =>
  obtain ⟨m, rfl, hm4, hBr⟩ := hrel
  by_cases hlt : m < 4
  · obtain ⟨f, s, hread, hf, hs⟩ := HGET.out m hlt
    obtain ⟨e0, e1, e2, e3⟩ := (HX.out.below hBr (by omega)).four
    have hfm := (HA.out.below hBr (by omega)).cell hf
    have hsm := (HC.out.below hBr (by omega)).cell hs
    have h21 := HRD.out wr (.agg #[.slice sa k cs, .slice ap pn cp, .int .i64 left, .bool st]) m (HD.out.next hBr)
    rw [hread] at h21
    have H21 := Lib.hid h21
    have HBR := Lib.hid hBr
    have dlt : decide ((m : Int) < 4) = true := by simp; omega
    have dm4 : (m : Int) < 4 := by omega
    clear hf hs hread h21 hBr
    go_wp2_with fail
    refine H21.out.mono ?_
    rintro e W1 ⟨u, rfl, hu, hB1⟩
    obtain ⟨b, off, c, rfl, hbl, hc1, hc2, hcell⟩ := hu.cell (hb_len f s) (by omega)
    have k0 := hcell 0 _ (hb_0 f s)
    have k1 := hcell 1 _ (hb_1 f s)
    have k64 := hcell 64 _ (hb_64 f s)
    have k127 := hcell 127 _ (hb_127 f s)
    obtain ⟨f, hf⟩ : ∃ z : Int, (f.toNat : Int) = z := ⟨_, rfl⟩
    obtain ⟨s, hs⟩ : ∃ z : Int, (s.toNat : Int) = z := ⟨_, rfl⟩
    rw [hf] at k0 hfm
    rw [hs] at k64 hsm
    have hB01 := HBR.out.trans (hB1.mono HBR.out.size)
    have hfm1 := (hB1.cell (p := ⟨p + 1, m, none⟩) (by show p + 1 < _; have := HBR.out.size; omega)).trans hfm
    have hsm1 := (hB1.cell (p := ⟨p + 1 + 1, m, none⟩) (by show p + 1 + 1 < _; have := HBR.out.size; omega)).trans hsm
    have HS : Hid (∀ W, Below W1.heap.size W1 W → Below w0.heap.size w0 W ∧ W.cell? ⟨b, off + 0, none⟩ = some (.int .u8 f) ∧ W.cell? ⟨b, off, none⟩ = some (.int .u8 f) ∧ W.cell? ⟨b, off + 64, none⟩ = some (.int .u8 s) ∧ W.cell? ⟨b, off + 1, none⟩ = some (.int .u8 0) ∧ W.cell? ⟨b, off + 127, none⟩ = some (.int .u8 0) ∧ W.cell? ⟨p + 1, m, none⟩ = some (.int .u8 f) ∧ W.cell? ⟨p + 1 + 1, m, none⟩ = some (.int .u8 s)) := Lib.hid fun W hW => ⟨hB01.trans (hW.mono (by have := hB01.size; omega)), (hW.cell (p := ⟨b, off + 0, none⟩) hbl).trans k0, (hW.cell (p := ⟨b, off, none⟩) hbl).trans k0, (hW.cell (p := ⟨b, off + 64, none⟩) hbl).trans k64, (hW.cell (p := ⟨b, off + 1, none⟩) hbl).trans k1, (hW.cell (p := ⟨b, off + 127, none⟩) hbl).trans k127,
      (hW.cell (p := ⟨p + 1, m, none⟩) (by show p + 1 < _; have := hB1.size; have := HBR.out.size; omega)).trans hfm1, (hW.cell (p := ⟨p + 1 + 1, m, none⟩) (by show p + 1 + 1 < _; have := hB1.size; have := HBR.out.size; omega)).trans hsm1⟩
    have dff : (f != f) = false := by simp
    have dss : (s != s) = false := by simp
    unfold maxLen at hc2
    clear hu hcell k0 k1 k64 k127 hf hs hB01 hfm1 hsm1 hB1 e0 e1 e2 e3 hfm hsm
    go_wp2
    refine wp_region_held_drew (S := fun W => Below w0.heap.size w0 W ∧ W.cell? ⟨b, off + 0, none⟩ = some (.int .u8 f) ∧ W.cell? ⟨b, off, none⟩ = some (.int .u8 f) ∧ W.cell? ⟨b, off + 64, none⟩ = some (.int .u8 s) ∧ W.cell? ⟨b, off + 1, none⟩ = some (.int .u8 0) ∧ W.cell? ⟨b, off + 127, none⟩ = some (.int .u8 0) ∧ W.cell? ⟨p + 1, m, none⟩ = some (.int .u8 f) ∧ W.cell? ⟨p + 1 + 1, m, none⟩ = some (.int .u8 s)) (by kernel_rfl) (HS.out _ (Below.drew (Below.refl _ _))) (fun hHeld => ?_)
    refine wpAnyH_take (i := 0) (oi := q28a0) (v := ?_) rfl (by kernel_rfl) (by kernel_rfl) (by kernel_rfl) (fun _ _ _ h => h) (Or.inl ⟨by rfl, ?_⟩) hHeld ?_
    rotate_left
    · (intro w hSw; (try dsimp only at hSw); unfold q28a0; go_simp <;> with_reducible rfl)
    try simp only [q28a0, Act.put, List.setIfInBounds_toArray, List.set_cons_zero, List.set_cons_succ]
    refine wpAnyH_take (i := 1) (oi := q28a1) (v := ?_) rfl (by kernel_rfl) (by kernel_rfl) (by kernel_rfl) (fun _ _ _ h => h) (Or.inl ⟨by rfl, ?_⟩) hHeld ?_
    rotate_left
    · (intro w hSw; (try dsimp only at hSw); unfold q28a1; go_simp <;> with_reducible rfl)
    try simp only [q28a1, Act.put, List.setIfInBounds_toArray, List.set_cons_zero, List.set_cons_succ]
    refine wpAnyH_take (i := 2) (oi := q28a2) (v := ?_) rfl (by kernel_rfl) (by kernel_rfl) (by kernel_rfl) (fun _ _ _ h => h) (Or.inl ⟨by rfl, ?_⟩) hHeld ?_
    rotate_left
    · (intro w hSw; (try dsimp only at hSw); unfold q28a2; go_simp <;> with_reducible rfl)
    try simp only [q28a2, Act.put, List.setIfInBounds_toArray, List.set_cons_zero, List.set_cons_succ]
    refine wpAnyH_take (i := 3) (oi := q28a3) (v := ?_) rfl (by kernel_rfl) (by kernel_rfl) (by kernel_rfl) (fun _ _ _ h => h) (Or.inl ⟨by rfl, ?_⟩) hHeld ?_
    rotate_left
    · (intro w hSw; (try dsimp only at hSw); unfold q28a3; go_simp <;> with_reducible rfl)
    try simp only [q28a3, Act.put, List.setIfInBounds_toArray, List.set_cons_zero, List.set_cons_succ]
    refine wpAnyH_take (i := 4) (oi := q28a4) (v := ?_) rfl (by kernel_rfl) (by kernel_rfl) (by kernel_rfl) (fun _ _ _ h => h) (Or.inl ⟨by rfl, ?_⟩) hHeld ?_
    rotate_left
    · (intro w hSw; (try dsimp only at hSw); unfold q28a4; go_simp <;> with_reducible rfl)
    try simp only [q28a4, Act.put, List.setIfInBounds_toArray, List.set_cons_zero, List.set_cons_succ]
    refine wpAnyH_take (i := 5) (oi := q28a5) (v := ?_) rfl (by kernel_rfl) (by kernel_rfl) (by kernel_rfl) (fun _ _ _ h => h) (Or.inl ⟨by rfl, ?_⟩) hHeld ?_
    rotate_left
    · (intro w hSw; (try dsimp only at hSw); unfold q28a5; go_simp <;> with_reducible rfl)
    try simp only [q28a5, Act.put, List.setIfInBounds_toArray, List.set_cons_zero, List.set_cons_succ]
    refine wpAnyH_take (i := 6) (oi := q28a6) (v := ?_) rfl (by kernel_rfl) (by kernel_rfl) (by kernel_rfl) (fun _ _ _ h => h) (Or.inl ⟨by rfl, ?_⟩) hHeld ?_
    rotate_left
    · (intro w hSw; (try dsimp only at hSw); unfold q28a6; go_simp <;> with_reducible rfl)
    try simp only [q28a6, Act.put, List.setIfInBounds_toArray, List.set_cons_zero, List.set_cons_succ]
    refine wpAnyH_take (i := 7) (oi := q28a7) (v := ?_) rfl (by kernel_rfl) (by kernel_rfl) (by kernel_rfl) (fun _ _ _ h => h) (Or.inl ⟨by rfl, ?_⟩) hHeld ?_
    rotate_left
    · (intro w hSw; (try dsimp only at hSw); unfold q28a7; go_simp <;> with_reducible rfl)
    try simp only [q28a7, Act.put, List.setIfInBounds_toArray, List.set_cons_zero, List.set_cons_succ]
    refine wpAnyH_take (i := 8) (oi := q28a8) (v := ?_) rfl (by kernel_rfl) (by kernel_rfl) (by kernel_rfl) (fun _ _ _ h => h) (Or.inl ⟨by rfl, ?_⟩) hHeld ?_
    rotate_left
    · (intro w hSw; (try dsimp only at hSw); unfold q28a8; go_simp <;> with_reducible rfl)
    try simp only [q28a8, Act.put, List.setIfInBounds_toArray, List.set_cons_zero, List.set_cons_succ]
    refine wpAnyH_take (i := 9) (oi := q28a9) (v := ?_) rfl (by kernel_rfl) (by kernel_rfl) (by kernel_rfl) (fun _ _ _ h => h) (Or.inl ⟨by rfl, ?_⟩) hHeld ?_
    rotate_left
    · (intro w hSw; (try dsimp only at hSw); unfold q28a9; go_simp <;> with_reducible rfl)
    try simp only [q28a9, Act.put, List.setIfInBounds_toArray, List.set_cons_zero, List.set_cons_succ]
    refine wpAnyH_take (i := 10) (oi := q28a10) (v := ?_) rfl (by kernel_rfl) (by kernel_rfl) (by kernel_rfl) (fun _ _ _ h => h) (Or.inl ⟨by rfl, ?_⟩) hHeld ?_
    rotate_left
    · (intro w hSw; (try dsimp only at hSw); unfold q28a10; go_simp <;> with_reducible rfl)
    try simp only [q28a10, Act.put, List.setIfInBounds_toArray, List.set_cons_zero, List.set_cons_succ]
    refine wpAnyH_take (i := 11) (oi := q28a11) (v := ?_) rfl (by kernel_rfl) (by kernel_rfl) (by kernel_rfl) (fun _ _ _ h => h) (Or.inl ⟨by rfl, ?_⟩) hHeld ?_
    rotate_left
    · (intro w hSw; (try dsimp only at hSw); unfold q28a11; go_simp <;> with_reducible rfl)
    try simp only [q28a11, Act.put, List.setIfInBounds_toArray, List.set_cons_zero, List.set_cons_succ]
    refine wpAnyH_take (i := 12) (oi := q28a12) (v := ?_) rfl (by kernel_rfl) (by kernel_rfl) (by kernel_rfl) (fun _ _ _ h => h) (Or.inl ⟨by rfl, ?_⟩) hHeld ?_
    rotate_left
    · (intro w hSw; (try dsimp only at hSw); unfold q28a12; go_simp <;> with_reducible rfl)
    try simp only [q28a12, Act.put, List.setIfInBounds_toArray, List.set_cons_zero, List.set_cons_succ]
    refine wpAnyH_take (i := 13) (oi := q28a13) (v := ?_) rfl (by kernel_rfl) (by kernel_rfl) (by kernel_rfl) (fun _ _ _ h => h) (Or.inl ⟨by rfl, ?_⟩) hHeld ?_
    rotate_left
    · (intro w hSw; (try dsimp only at hSw); unfold q28a13; go_simp <;> with_reducible rfl)
    try simp only [q28a13, Act.put, List.setIfInBounds_toArray, List.set_cons_zero, List.set_cons_succ]
    refine wpAnyH_take (i := 14) (oi := q28a14) (v := ?_) rfl (by kernel_rfl) (by kernel_rfl) (by kernel_rfl) (fun _ _ _ h => h) (Or.inl ⟨by rfl, ?_⟩) hHeld ?_
    rotate_left
    · (intro w hSw; (try dsimp only at hSw); unfold q28a14; go_simp <;> with_reducible rfl)
    try simp only [q28a14, Act.put, List.setIfInBounds_toArray, List.set_cons_zero, List.set_cons_succ]
    refine wpAnyH_take (i := 15) (oi := q28a15) (v := ?_) rfl (by kernel_rfl) (by kernel_rfl) (by kernel_rfl) (fun _ _ _ h => h) (Or.inl ⟨by rfl, ?_⟩) hHeld ?_
    rotate_left
    · (intro w hSw; (try dsimp only at hSw); unfold q28a15; go_simp <;> with_reducible rfl)
    try simp only [q28a15, Act.put, List.setIfInBounds_toArray, List.set_cons_zero, List.set_cons_succ]
    refine wpAnyH_take (i := 16) (oi := q28a16) (v := ?_) rfl (by kernel_rfl) (by kernel_rfl) (by kernel_rfl) (fun _ _ _ h => h) (Or.inl ⟨by rfl, ?_⟩) hHeld ?_
    rotate_left
    · (intro w hSw; (try dsimp only at hSw); unfold q28a16; go_simp <;> with_reducible rfl)
    try simp only [q28a16, Act.put, List.setIfInBounds_toArray, List.set_cons_zero, List.set_cons_succ]
    refine wpAnyH_take (i := 17) (oi := q28a17) (v := ?_) rfl (by kernel_rfl) (by kernel_rfl) (by kernel_rfl) (fun _ _ _ h => h) (Or.inl ⟨by rfl, ?_⟩) hHeld ?_
    rotate_left
    · (intro w hSw; (try dsimp only at hSw); unfold q28a17; go_simp <;> with_reducible rfl)
    try simp only [q28a17, Act.put, List.setIfInBounds_toArray, List.set_cons_zero, List.set_cons_succ]
    refine wpAnyH_take (i := 18) (oi := q28a18) (v := ?_) rfl (by kernel_rfl) (by kernel_rfl) (by kernel_rfl) (fun _ _ _ h => h) (Or.inl ⟨by rfl, ?_⟩) hHeld ?_
    rotate_left
    · (intro w hSw; (try dsimp only at hSw); unfold q28a18; go_simp <;> with_reducible rfl)
    try simp only [q28a18, Act.put, List.setIfInBounds_toArray, List.set_cons_zero, List.set_cons_succ]
    refine wpAnyH_take (i := 19) (oi := q28a19) (v := ?_) rfl (by kernel_rfl) (by kernel_rfl) (by kernel_rfl) (fun _ _ _ h => h) (Or.inl ⟨by rfl, ?_⟩) hHeld ?_
    rotate_left
    · (intro w hSw; (try dsimp only at hSw); unfold q28a19; go_simp <;> with_reducible rfl)
    try simp only [q28a19, Act.put, List.setIfInBounds_toArray, List.set_cons_zero, List.set_cons_succ]
    refine wpAnyH_take (i := 20) (oi := q28a20) (v := ?_) rfl (by kernel_rfl) (by kernel_rfl) (by kernel_rfl) (fun _ _ _ h => h) (Or.inl ⟨by rfl, ?_⟩) hHeld ?_
    rotate_left
    · (intro w hSw; (try dsimp only at hSw); unfold q28a20; go_simp <;> with_reducible rfl)
    try simp only [q28a20, Act.put, List.setIfInBounds_toArray, List.set_cons_zero, List.set_cons_succ]
    refine wpAnyH_take (i := 21) (oi := q28a21) (v := ?_) rfl (by kernel_rfl) (by kernel_rfl) (by kernel_rfl) (fun _ _ _ h => h) (Or.inl ⟨by rfl, ?_⟩) hHeld ?_
    rotate_left
    · (intro w hSw; (try dsimp only at hSw); unfold q28a21; go_simp <;> with_reducible rfl)
    try simp only [q28a21, Act.put, List.setIfInBounds_toArray, List.set_cons_zero, List.set_cons_succ]
    refine wpAnyH_take (i := 22) (oi := q28a22) (v := ?_) rfl (by kernel_rfl) (by kernel_rfl) (by kernel_rfl) (fun _ _ _ h => h) (Or.inl ⟨by rfl, ?_⟩) hHeld ?_
    rotate_left
    · (intro w hSw; (try dsimp only at hSw); unfold q28a22; go_simp <;> with_reducible rfl)
    try simp only [q28a22, Act.put, List.setIfInBounds_toArray, List.set_cons_zero, List.set_cons_succ]
    refine wpAnyH_take (i := 23) (oi := q28a23) (v := ?_) rfl (by kernel_rfl) (by kernel_rfl) (by kernel_rfl) (fun _ _ _ h => h) (Or.inl ⟨by rfl, ?_⟩) hHeld ?_
    rotate_left
    · (intro w hSw; (try dsimp only at hSw); unfold q28a23; go_simp <;> with_reducible rfl)
    try simp only [q28a23, Act.put, List.setIfInBounds_toArray, List.set_cons_zero, List.set_cons_succ]
    refine wpAnyH_take (i := 24) (oi := q28a24) (v := ?_) rfl (by kernel_rfl) (by kernel_rfl) (by kernel_rfl) (fun _ _ _ h => h) (Or.inl ⟨by rfl, ?_⟩) hHeld ?_
    rotate_left
    · (intro w hSw; (try dsimp only at hSw); unfold q28a24; go_simp <;> with_reducible rfl)
    try simp only [q28a24, Act.put, List.setIfInBounds_toArray, List.set_cons_zero, List.set_cons_succ]
    refine wpAnyH_take (i := 25) (oi := q28a25) (v := ?_) rfl (by kernel_rfl) (by kernel_rfl) (by kernel_rfl) (fun _ _ _ h => h) (Or.inl ⟨by rfl, ?_⟩) hHeld ?_
    rotate_left
    · (intro w hSw; (try dsimp only at hSw); unfold q28a25; go_simp <;> with_reducible rfl)
    try simp only [q28a25, Act.put, List.setIfInBounds_toArray, List.set_cons_zero, List.set_cons_succ]
    refine wpAnyH_take (i := 26) (oi := q28a26) (v := ?_) rfl (by kernel_rfl) (by kernel_rfl) (by kernel_rfl) (fun _ _ _ h => h) (Or.inl ⟨by rfl, ?_⟩) hHeld ?_
    rotate_left
    · (intro w hSw; (try dsimp only at hSw); unfold q28a26; go_simp <;> with_reducible rfl)
    try simp only [q28a26, Act.put, List.setIfInBounds_toArray, List.set_cons_zero, List.set_cons_succ]
    refine wpAnyH_take (i := 27) (oi := q28a27) (v := ?_) rfl (by kernel_rfl) (by kernel_rfl) (by kernel_rfl) (fun _ _ _ h => h) (Or.inl ⟨by rfl, ?_⟩) hHeld ?_
    rotate_left
    · (intro w hSw; (try dsimp only at hSw); unfold q28a27; go_simp <;> with_reducible rfl)
    try simp only [q28a27, Act.put, List.setIfInBounds_toArray, List.set_cons_zero, List.set_cons_succ]
    refine wpAnyH_take (i := 28) (oi := q28a28) (v := ?_) rfl (by kernel_rfl) (by kernel_rfl) (by kernel_rfl) (fun _ _ _ h => h) (Or.inl ⟨by rfl, ?_⟩) hHeld ?_
    rotate_left
    · (intro w hSw; (try dsimp only at hSw); unfold q28a28; go_simp <;> with_reducible rfl)
    try simp only [q28a28, Act.put, List.setIfInBounds_toArray, List.set_cons_zero, List.set_cons_succ]
    refine wpAnyH_take (i := 29) (oi := q28a29) (v := ?_) rfl (by kernel_rfl) (by kernel_rfl) (by kernel_rfl) (fun _ _ _ h => h) (Or.inl ⟨by rfl, ?_⟩) hHeld ?_
    rotate_left
    · (intro w hSw; (try dsimp only at hSw); unfold q28a29; go_simp <;> with_reducible rfl)
    try simp only [q28a29, Act.put, List.setIfInBounds_toArray, List.set_cons_zero, List.set_cons_succ]
    refine wpAnyH_take (i := 30) (oi := q28a30) (v := ?_) rfl (by kernel_rfl) (by kernel_rfl) (by kernel_rfl) (fun _ _ _ h => h) (Or.inl ⟨by rfl, ?_⟩) hHeld ?_
    rotate_left
    · (intro w hSw; (try dsimp only at hSw); unfold q28a30; go_simp <;> with_reducible rfl)
    try simp only [q28a30, Act.put, List.setIfInBounds_toArray, List.set_cons_zero, List.set_cons_succ]
    refine wpAnyH_take (i := 31) (oi := q28a31) (v := ?_) rfl (by kernel_rfl) (by kernel_rfl) (by kernel_rfl) (fun _ _ _ h => h) (Or.inl ⟨by rfl, ?_⟩) hHeld ?_
    rotate_left
    · (intro w hSw; (try dsimp only at hSw); unfold q28a31; go_simp <;> with_reducible rfl)
    try simp only [q28a31, Act.put, List.setIfInBounds_toArray, List.set_cons_zero, List.set_cons_succ]
    refine wpAnyH_take (i := 32) (oi := q28a32) (v := ?_) rfl (by kernel_rfl) (by kernel_rfl) (by kernel_rfl) (fun _ _ _ h => h) (Or.inl ⟨by rfl, ?_⟩) hHeld ?_
    rotate_left
    · (intro w hSw; (try dsimp only at hSw); unfold q28a32; go_simp <;> with_reducible rfl)
    try simp only [q28a32, Act.put, List.setIfInBounds_toArray, List.set_cons_zero, List.set_cons_succ]
    refine wpAnyH_take (i := 33) (oi := q28a33) (v := ?_) rfl (by kernel_rfl) (by kernel_rfl) (by kernel_rfl) (fun _ _ _ h => h) (Or.inl ⟨by rfl, ?_⟩) hHeld ?_
    rotate_left
    · (intro w hSw; (try dsimp only at hSw); unfold q28a33; go_simp <;> with_reducible rfl)
    try simp only [q28a33, Act.put, List.setIfInBounds_toArray, List.set_cons_zero, List.set_cons_succ]
    refine wpAnyH_take (i := 34) (oi := q28a34) (v := ?_) rfl (by kernel_rfl) (by kernel_rfl) (by kernel_rfl) (fun _ _ _ h => h) (Or.inl ⟨by rfl, ?_⟩) hHeld ?_
    rotate_left
    · (intro w hSw; (try dsimp only at hSw); unfold q28a34; go_simp <;> with_reducible rfl)
    try simp only [q28a34, Act.put, List.setIfInBounds_toArray, List.set_cons_zero, List.set_cons_succ]
    refine wpAnyH_take (i := 35) (oi := q28a35) (v := ?_) rfl (by kernel_rfl) (by kernel_rfl) (by kernel_rfl) (fun _ _ _ h => h) (Or.inl ⟨by rfl, ?_⟩) hHeld ?_
    rotate_left
    · (intro w hSw; (try dsimp only at hSw); unfold q28a35; go_simp <;> with_reducible rfl)
    try simp only [q28a35, Act.put, List.setIfInBounds_toArray, List.set_cons_zero, List.set_cons_succ]
    refine wpAnyH_take (i := 36) (oi := q28a36) (v := ?_) rfl (by kernel_rfl) (by kernel_rfl) (by kernel_rfl) (fun _ _ _ h => h) (Or.inl ⟨by rfl, ?_⟩) hHeld ?_
    rotate_left
    · (intro w hSw; (try dsimp only at hSw); unfold q28a36; go_simp <;> with_reducible rfl)
    try simp only [q28a36, Act.put, List.setIfInBounds_toArray, List.set_cons_zero, List.set_cons_succ]
    refine wpAnyH_done (by kernel_rfl) ?_ _
    have HB := Lib.hid (hHeld.1)
    clear hHeld
    go_wp2
    go_roundw
    case rel => exact ⟨m + 1, by go_num, by omega, HB.out⟩
    case measure => simp [intOf]; omega
  · have dlt : decide ((m : Int) < 4) = false := by simp; omega
    have hfin := Lib.hid (HB0.out.trans (hBr.mono HB0.out.size))
    clear hBr
    go_wp2
    go_ret
    exact ⟨rfl, by rw [HPP.out] at *; exact hfin.out⟩
end Go.Proofs.Ytmklchjgiaomkaa
