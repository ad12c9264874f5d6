/- ChainBuilt: the law's walk. -/
import Derived.Test.YtfmngeemhfpeiaaDoorMF
import Derived.Test.YtfmngeemhfpeiaaDoorMU
namespace Go.Proofs.YtfmngeemhfpeiaaDoor
open Go.RowKit

def l12a0 : Oper := { dst := some 45, op := Go.Op.move (Go.Operand.tmp 8), type := 26, pos := "law.go:73", after := #[], guard := none }
def l12a1 : Oper := { dst := some 46, op := Go.Op.binOp Go.BinOp.neq 26 (Go.Operand.tmp 45) (Go.Operand.const (Go.Value.int Go.IntKind.i64 0)) 26, type := 4, pos := "law.go:73", after := #[{ on := 0, ground := Go.Ground.data }], guard := none }
def l12a2 : Oper := { dst := some 47, op := Go.Op.move (Go.Operand.tmp 46), type := 4, pos := "law.go:73", after := #[{ on := 1, ground := Go.Ground.data }], guard := none }
def l12a3 : Oper := { dst := some 48, op := Go.Op.move (Go.Operand.tmp 7), type := 44, pos := "law.go:73", after := #[{ on := 2, ground := Go.Ground.guard }], guard := some (2, false) }
def l12a4 : Oper := { dst := some 49, op := Go.Op.call { callee := Go.Callee.builtin Go.Builtin.len, args := #[Go.Operand.tmp 48], argTypes := #[44] }, type := 3, pos := "law.go:73", after := #[{ on := 3, ground := Go.Ground.data }, { on := 2, ground := Go.Ground.guard }], guard := some (2, false) }
def l12a5 : Oper := { dst := some 50, op := Go.Op.move (Go.Operand.tmp 6), type := 3, pos := "law.go:73", after := #[{ on := 2, ground := Go.Ground.guard }], guard := some (2, false) }
def l12a6 : Oper := { dst := some 51, op := Go.Op.binOp Go.BinOp.add 3 (Go.Operand.tmp 50) (Go.Operand.const (Go.Value.int Go.IntKind.i64 1)) 3, type := 3, pos := "law.go:73", after := #[{ on := 5, ground := Go.Ground.data }, { on := 2, ground := Go.Ground.guard }], guard := some (2, false) }
def l12a7 : Oper := { dst := some 52, op := Go.Op.binOp Go.BinOp.neq 3 (Go.Operand.tmp 49) (Go.Operand.tmp 51) 3, type := 4, pos := "law.go:73", after := #[{ on := 4, ground := Go.Ground.data }, { on := 6, ground := Go.Ground.data }, { on := 2, ground := Go.Ground.guard }], guard := some (2, false) }
def l12a8 : Oper := { dst := some 53, op := Go.Op.pick (Go.Operand.tmp 47) (Go.Operand.const (Go.Value.bool true)) (Go.Operand.tmp 52), type := 4, pos := "law.go:73", after := #[{ on := 2, ground := Go.Ground.data }, { on := 7, ground := Go.Ground.data }], guard := none }
def l12a9 : Oper := { dst := some 54, op := Go.Op.move (Go.Operand.tmp 53), type := 4, pos := "law.go:73", after := #[{ on := 8, ground := Go.Ground.data }, { on := 2, ground := Go.Ground.chain }], guard := none }
def l12a10 : Oper := { dst := some 55, op := Go.Op.move (Go.Operand.tmp 7), type := 44, pos := "law.go:73", after := #[{ on := 9, ground := Go.Ground.guard }], guard := some (9, false) }
def l12a11 : Oper := { dst := some 56, op := Go.Op.move (Go.Operand.tmp 6), type := 3, pos := "law.go:73", after := #[{ on := 9, ground := Go.Ground.guard }], guard := some (9, false) }
def l12a12 : Oper := { dst := some 57, op := Go.Op.slice 44 (Go.Operand.tmp 55) none (some (Go.Operand.tmp 56)) none, type := 44, pos := "law.go:73", after := #[{ on := 10, ground := Go.Ground.data }, { on := 11, ground := Go.Ground.data }, { on := 9, ground := Go.Ground.guard }], guard := some (9, false) }
def l12a13 : Oper := { dst := some 58, op := Go.Op.move (Go.Operand.tmp 5), type := 44, pos := "law.go:73", after := #[{ on := 9, ground := Go.Ground.guard }], guard := some (9, false) }
def l12a14 : Oper := { dst := some 59, op := Go.Op.call { callee := Go.Callee.value (Go.Operand.func 39), args := #[Go.Operand.tmp 57, Go.Operand.tmp 58], argTypes := #[44, 44] }, type := 4, pos := "law.go:73", after := #[{ on := 12, ground := Go.Ground.data }, { on := 13, ground := Go.Ground.data }, { on := 9, ground := Go.Ground.chain }, { on := 9, ground := Go.Ground.guard }], guard := some (9, false) }
def l12a15 : Oper := { dst := some 60, op := Go.Op.unOp Go.UnOp.not 4 (Go.Operand.tmp 59), type := 4, pos := "law.go:73", after := #[{ on := 14, ground := Go.Ground.data }, { on := 9, ground := Go.Ground.guard }], guard := some (9, false) }
def l12a16 : Oper := { dst := some 61, op := Go.Op.pick (Go.Operand.tmp 54) (Go.Operand.const (Go.Value.bool true)) (Go.Operand.tmp 60), type := 4, pos := "law.go:73", after := #[{ on := 9, ground := Go.Ground.data }, { on := 15, ground := Go.Ground.data }], guard := none }
def l12a17 : Oper := { dst := some 62, op := Go.Op.move (Go.Operand.tmp 61), type := 4, pos := "law.go:73", after := #[{ on := 16, ground := Go.Ground.data }, { on := 14, ground := Go.Ground.chain }], guard := none }
def l12a18 : Oper := { dst := some 63, op := Go.Op.move (Go.Operand.tmp 7), type := 44, pos := "law.go:73", after := #[{ on := 17, ground := Go.Ground.guard }], guard := some (17, false) }
def l12a19 : Oper := { dst := some 64, op := Go.Op.move (Go.Operand.tmp 6), type := 3, pos := "law.go:73", after := #[{ on := 17, ground := Go.Ground.guard }], guard := some (17, false) }
def l12a20 : Oper := { dst := some 65, op := Go.Op.indexAddr 44 (Go.Operand.tmp 63) (Go.Operand.tmp 64), type := 0, pos := "law.go:73", after := #[{ on := 18, ground := Go.Ground.data }, { on := 19, ground := Go.Ground.data }, { on := 17, ground := Go.Ground.guard }], guard := some (17, false) }
def l12a21 : Oper := { dst := some 66, op := Go.Op.fieldAddr 55 (Go.Operand.tmp 65) 2, type := 0, pos := "law.go:73", after := #[{ on := 20, ground := Go.Ground.data }, { on := 17, ground := Go.Ground.guard }], guard := some (17, false) }
def l12a22 : Oper := { dst := some 67, op := Go.Op.load 30 (Go.Operand.tmp 66), type := 30, pos := "law.go:73", after := #[{ on := 21, ground := Go.Ground.data }, { on := 17, ground := Go.Ground.guard }], guard := some (17, false) }
def l12a23 : Oper := { dst := some 68, op := Go.Op.move (Go.Operand.tmp 5), type := 44, pos := "law.go:73", after := #[{ on := 17, ground := Go.Ground.guard }], guard := some (17, false) }
def l12a24 : Oper := { dst := some 69, op := Go.Op.call { callee := Go.Callee.value (Go.Operand.func 33), args := #[Go.Operand.tmp 68], argTypes := #[44] }, type := 30, pos := "law.go:73", after := #[{ on := 23, ground := Go.Ground.data }, { on := 17, ground := Go.Ground.chain }, { on := 17, ground := Go.Ground.guard }], guard := some (17, false) }
def l12a25 : Oper := { dst := some 70, op := Go.Op.binOp Go.BinOp.neq 30 (Go.Operand.tmp 67) (Go.Operand.tmp 69) 30, type := 4, pos := "law.go:73", after := #[{ on := 22, ground := Go.Ground.data }, { on := 24, ground := Go.Ground.data }, { on := 17, ground := Go.Ground.guard }], guard := some (17, false) }
def l12a26 : Oper := { dst := some 71, op := Go.Op.pick (Go.Operand.tmp 62) (Go.Operand.const (Go.Value.bool true)) (Go.Operand.tmp 70), type := 4, pos := "law.go:73", after := #[{ on := 17, ground := Go.Ground.data }, { on := 25, ground := Go.Ground.data }], guard := none }
def l12a27 : Oper := { dst := some 72, op := Go.Op.move (Go.Operand.tmp 71), type := 4, pos := "law.go:73", after := #[{ on := 26, ground := Go.Ground.data }, { on := 24, ground := Go.Ground.chain }], guard := none }
def l12a28 : Oper := { dst := some 73, op := Go.Op.move (Go.Operand.tmp 7), type := 44, pos := "law.go:73", after := #[{ on := 27, ground := Go.Ground.guard }], guard := some (27, false) }
def l12a29 : Oper := { dst := some 74, op := Go.Op.move (Go.Operand.tmp 6), type := 3, pos := "law.go:73", after := #[{ on := 27, ground := Go.Ground.guard }], guard := some (27, false) }
def l12a30 : Oper := { dst := some 75, op := Go.Op.indexAddr 44 (Go.Operand.tmp 73) (Go.Operand.tmp 74), type := 0, pos := "law.go:73", after := #[{ on := 28, ground := Go.Ground.data }, { on := 29, ground := Go.Ground.data }, { on := 27, ground := Go.Ground.guard }], guard := some (27, false) }
def l12a31 : Oper := { dst := some 76, op := Go.Op.fieldAddr 55 (Go.Operand.tmp 75) 1, type := 0, pos := "law.go:73", after := #[{ on := 30, ground := Go.Ground.data }, { on := 27, ground := Go.Ground.guard }], guard := some (27, false) }
def l12a32 : Oper := { dst := some 77, op := Go.Op.load 3 (Go.Operand.tmp 76), type := 3, pos := "law.go:73", after := #[{ on := 31, ground := Go.Ground.data }, { on := 27, ground := Go.Ground.guard }], guard := some (27, false) }
def l12a33 : Oper := { dst := some 78, op := Go.Op.move (Go.Operand.tmp 6), type := 3, pos := "law.go:73", after := #[{ on := 27, ground := Go.Ground.guard }], guard := some (27, false) }
def l12a34 : Oper := { dst := some 79, op := Go.Op.binOp Go.BinOp.neq 3 (Go.Operand.tmp 77) (Go.Operand.tmp 78) 3, type := 4, pos := "law.go:73", after := #[{ on := 32, ground := Go.Ground.data }, { on := 33, ground := Go.Ground.data }, { on := 27, ground := Go.Ground.guard }], guard := some (27, false) }
def l12a35 : Oper := { dst := some 80, op := Go.Op.pick (Go.Operand.tmp 72) (Go.Operand.const (Go.Value.bool true)) (Go.Operand.tmp 79), type := 4, pos := "law.go:73", after := #[{ on := 27, ground := Go.Ground.data }, { on := 34, ground := Go.Ground.data }], guard := none }
def l12a36 : Oper := { dst := some 81, op := Go.Op.move (Go.Operand.tmp 80), type := 4, pos := "law.go:73", after := #[{ on := 35, ground := Go.Ground.data }, { on := 27, ground := Go.Ground.chain }], guard := none }
def l12a37 : Oper := { dst := some 82, op := Go.Op.move (Go.Operand.tmp 7), type := 44, pos := "law.go:73", after := #[{ on := 36, ground := Go.Ground.guard }], guard := some (36, false) }
def l12a38 : Oper := { dst := some 83, op := Go.Op.move (Go.Operand.tmp 6), type := 3, pos := "law.go:73", after := #[{ on := 36, ground := Go.Ground.guard }], guard := some (36, false) }
def l12a39 : Oper := { dst := some 84, op := Go.Op.indexAddr 44 (Go.Operand.tmp 82) (Go.Operand.tmp 83), type := 0, pos := "law.go:73", after := #[{ on := 37, ground := Go.Ground.data }, { on := 38, ground := Go.Ground.data }, { on := 36, ground := Go.Ground.guard }], guard := some (36, false) }
def l12a40 : Oper := { dst := some 85, op := Go.Op.fieldAddr 55 (Go.Operand.tmp 84) 0, type := 0, pos := "law.go:73", after := #[{ on := 39, ground := Go.Ground.data }, { on := 36, ground := Go.Ground.guard }], guard := some (36, false) }
def l12a41 : Oper := { dst := some 86, op := Go.Op.load 3 (Go.Operand.tmp 85), type := 3, pos := "law.go:73", after := #[{ on := 40, ground := Go.Ground.data }, { on := 36, ground := Go.Ground.guard }], guard := some (36, false) }
def l12a42 : Oper := { dst := some 87, op := Go.Op.move (Go.Operand.tmp 0), type := 3, pos := "law.go:73", after := #[{ on := 36, ground := Go.Ground.guard }], guard := some (36, false) }
def l12a43 : Oper := { dst := some 88, op := Go.Op.binOp Go.BinOp.neq 3 (Go.Operand.tmp 86) (Go.Operand.tmp 87) 3, type := 4, pos := "law.go:73", after := #[{ on := 41, ground := Go.Ground.data }, { on := 42, ground := Go.Ground.data }, { on := 36, ground := Go.Ground.guard }], guard := some (36, false) }
def l12a44 : Oper := { dst := some 89, op := Go.Op.pick (Go.Operand.tmp 81) (Go.Operand.const (Go.Value.bool true)) (Go.Operand.tmp 88), type := 4, pos := "law.go:73", after := #[{ on := 36, ground := Go.Ground.data }, { on := 43, ground := Go.Ground.data }], guard := none }
def l12a45 : Oper := { dst := some 90, op := Go.Op.move (Go.Operand.tmp 89), type := 4, pos := "law.go:73", after := #[{ on := 44, ground := Go.Ground.data }, { on := 36, ground := Go.Ground.chain }], guard := none }
def l12a46 : Oper := { dst := some 91, op := Go.Op.move (Go.Operand.tmp 7), type := 44, pos := "law.go:73", after := #[{ on := 45, ground := Go.Ground.guard }], guard := some (45, false) }
def l12a47 : Oper := { dst := some 92, op := Go.Op.move (Go.Operand.tmp 6), type := 3, pos := "law.go:73", after := #[{ on := 45, ground := Go.Ground.guard }], guard := some (45, false) }
def l12a48 : Oper := { dst := some 93, op := Go.Op.indexAddr 44 (Go.Operand.tmp 91) (Go.Operand.tmp 92), type := 0, pos := "law.go:73", after := #[{ on := 46, ground := Go.Ground.data }, { on := 47, ground := Go.Ground.data }, { on := 45, ground := Go.Ground.guard }], guard := some (45, false) }
def l12a49 : Oper := { dst := some 94, op := Go.Op.fieldAddr 55 (Go.Operand.tmp 93) 3, type := 0, pos := "law.go:73", after := #[{ on := 48, ground := Go.Ground.data }, { on := 45, ground := Go.Ground.guard }], guard := some (45, false) }
def l12a50 : Oper := { dst := some 95, op := Go.Op.load 34 (Go.Operand.tmp 94), type := 34, pos := "law.go:73", after := #[{ on := 49, ground := Go.Ground.data }, { on := 45, ground := Go.Ground.guard }], guard := some (45, false) }
def l12a51 : Oper := { dst := some 96, op := Go.Op.convert 34 9 (Go.Operand.tmp 95), type := 9, pos := "law.go:73", after := #[{ on := 50, ground := Go.Ground.data }, { on := 45, ground := Go.Ground.guard }], guard := some (45, false) }
def l12a52 : Oper := { dst := some 97, op := Go.Op.move (Go.Operand.tmp 1), type := 22, pos := "law.go:73", after := #[{ on := 45, ground := Go.Ground.guard }], guard := some (45, false) }
def l12a53 : Oper := { dst := some 98, op := Go.Op.move (Go.Operand.tmp 6), type := 3, pos := "law.go:73", after := #[{ on := 45, ground := Go.Ground.guard }], guard := some (45, false) }
def l12a54 : Oper := { dst := some 99, op := Go.Op.indexAddr 22 (Go.Operand.tmp 97) (Go.Operand.tmp 98), type := 0, pos := "law.go:73", after := #[{ on := 52, ground := Go.Ground.data }, { on := 53, ground := Go.Ground.data }, { on := 45, ground := Go.Ground.guard }], guard := some (45, false) }
def l12a55 : Oper := { dst := some 100, op := Go.Op.load 34 (Go.Operand.tmp 99), type := 34, pos := "law.go:73", after := #[{ on := 54, ground := Go.Ground.data }, { on := 45, ground := Go.Ground.guard }], guard := some (45, false) }
def l12a56 : Oper := { dst := some 101, op := Go.Op.convert 34 9 (Go.Operand.tmp 100), type := 9, pos := "law.go:73", after := #[{ on := 55, ground := Go.Ground.data }, { on := 45, ground := Go.Ground.guard }], guard := some (45, false) }
def l12a57 : Oper := { dst := some 102, op := Go.Op.binOp Go.BinOp.neq 9 (Go.Operand.tmp 96) (Go.Operand.tmp 101) 9, type := 4, pos := "law.go:73", after := #[{ on := 51, ground := Go.Ground.data }, { on := 56, ground := Go.Ground.data }, { on := 45, ground := Go.Ground.guard }], guard := some (45, false) }
def l12a58 : Oper := { dst := some 103, op := Go.Op.pick (Go.Operand.tmp 90) (Go.Operand.const (Go.Value.bool true)) (Go.Operand.tmp 102), type := 4, pos := "law.go:73", after := #[{ on := 45, ground := Go.Ground.data }, { on := 57, ground := Go.Ground.data }], guard := none }

theorem bel_snoc (X : List Lk) (x : Lk) (h : bel X x.node = true) : bel (X ++ [x]) x.node = true := by
  by_cases e : X = []
  · subst e
    unfold bel
    simp
  · rw [bel_append e]
    exact h

set_option maxRecDepth 100000 in
set_option maxHeartbeats 8000000 in
theorem lawBuilt (w : World) (n : Int) (v : Value) (l : List (List UInt8)) (hv : BRows w w.heap.size v l) (hn0 : (Lit.int .i64 n).wf = true) (hT : Tab w) (h0 : 0 < w.heap.size) :
    Calls Tryd.prog 12 #[.int .i64 n, v] w fun e w' => e = .returned (.bool true) ∧ Below w.heap.size w w' := by
  have hn := i64_of hn0
  have HSA := Lib.hid (sane_any w hT h0)
  obtain ⟨a0, cap0, rfl, h1, h2, h3⟩ := hv
  unfold maxLen at h2
  have hrow : ∀ W, Below w.heap.size w W → ∀ t (ht : t < l.length), ∃ b0 off0 da dc, a0 = some ⟨b0, off0, none⟩ ∧ b0 < w.heap.size ∧ W.cell? ⟨b0, off0 + t, none⟩ = some (.slice da l[t].length dc) ∧ BytesAt W W.heap.size (.slice da l[t].length dc) l[t] := fun W hW t ht => by
    obtain ⟨b0, off0, rfl, h4, h5⟩ := h3.resolve_left (fun e => by subst e; exact absurd ht (by simp))
    obtain ⟨d, h6, h7⟩ := h5 t ht
    obtain ⟨da, dc, rfl, _, _, _⟩ := id h7
    exact ⟨b0, off0, da, dc, rfl, h4, (hW.cell (p := ⟨b0, off0 + t, none⟩) h4).trans h6, (h7.below hW).mono hW.size⟩
  obtain ⟨N, hN⟩ : ∃ N, l.length = N := ⟨_, rfl⟩
  rw [hN] at h1 ⊢
  have HROW := Lib.hid hrow
  have HN := Lib.hid hN
  have HT := Lib.hid hT
  have HIN := Lib.hid hn
  clear hrow h3 hN hT hn hn0
  by_cases hN12 : 12 < N
  · have d1 : decide ((12 : Int) < (N : Int)) = true := by simp; omega
    have d2 : decide ((N : Int) > 12) = true := by simp; omega
    have d3 : decide (12 < N) = true := by simp; omega
    clear HROW HN
    go_enter Tryd.func12, Tryd.ntmps12
    go_wp2_with fail
    refine HSA.out.mono ?_
    rintro e w1 ⟨rfl, hb1⟩
    go_wp2
    go_returns
    exact ⟨rfl, hb1⟩
  · have d1 : decide ((12 : Int) < (N : Int)) = false := by simp; omega
    have d2 : decide ((N : Int) > 12) = false := by simp; omega
    have d3 : decide (12 < N) = false := by simp; omega
    by_cases hn1 : n < 0
    · have e1 : decide (n < 0) = true := by simp; omega
      clear HROW HN
      go_enter Tryd.func12, Tryd.ntmps12
      go_wp2_with fail
      refine HSA.out.mono ?_
      rintro e w1 ⟨rfl, hb1⟩
      go_wp2
      go_returns
      exact ⟨rfl, hb1⟩
    · have e1 : decide (n < 0) = false := by simp; omega
      by_cases hn2 : 24 ≤ n
      · have e2 : decide (n ≥ 24) = true := by simp; omega
        have e3 : decide (24 ≤ n) = true := by simp; omega
        clear HROW HN
        go_enter Tryd.func12, Tryd.ntmps12
        go_wp2_with fail
        refine HSA.out.mono ?_
        rintro e w1 ⟨rfl, hb1⟩
        go_wp2
        go_returns
        exact ⟨rfl, hb1⟩
      · have e2 : decide (n ≥ 24) = false := by simp; omega
        have e3 : decide (24 ≤ n) = false := by simp; omega
        have HNN : Hid (0 ≤ n ∧ n < 24) := Lib.hid ⟨by omega, by omega⟩
        have hN13 : N ≤ 12 := by omega
        clear hn1 hn2 hN12
        go_enter Tryd.func12, Tryd.ntmps12
        go_wp2_with fail
        refine HSA.out.mono ?_
        rintro e w1 ⟨rfl, hb1⟩
        have HB1 := Lib.hid hb1
        clear hb1
        go_wp2
        go_loopw [5, 6] (fun s5 i wr => ∃ (t : Nat) (X : List Lk) (a : Option Addr) (c : Nat), i = .int .i64 t ∧ s5 = .slice a t c ∧ t ≤ N ∧ X.length = t ∧ Below w.heap.size w wr ∧ Hid (LRow wr wr.heap.size (.slice a t c) X) ∧ Hid (Chn X) ∧ Hid (bel X n = true)) (fun _ i _ => N - (intOf i).toNat)
        case atStart => exact ⟨0, [], none, 0, rfl, rfl, by omega, rfl, HB1.out, Lib.hid (LRow.nil _ _), Lib.hid Chn.nil, Lib.hid rfl⟩
        case round =>
          obtain ⟨t, X, a, c, rfl, rfl, htn, hXL, hB, HLX, HCX, HBX⟩ := hrel
          have HB := Lib.hid hB
          have HXL := Lib.hid hXL
          clear hB hXL
          by_cases hlt : t < N
          · have htl : t < l.length := by rw [HN.out]; exact hlt
            have f1 : decide ((t : Int) < (N : Int)) = true := by simp; omega
            have f2 : decide (t < N) = true := by simp; omega
            have f3 : (t : Int) < (N : Int) := by omega
            have iw : IntKind.i64.wrap ((t : Int) + 1) = (t : Int) + 1 := by rw [IntKind.wrap_i64]; omega
            obtain ⟨b0, off0, da, dc, rfl, hb0, hcell, hbytes⟩ := HROW.out _ HB.out t htl
            obtain ⟨dt, hdt⟩ : ∃ dt, l[t]'htl = dt := ⟨_, rfl⟩
            rw [hdt] at hcell hbytes
            obtain ⟨L, hL⟩ : ∃ L, dt.length = L := ⟨_, rfl⟩
            rw [hL] at hcell hbytes
            by_cases hL3 : 300 < L
            · have g1 : decide ((300 : Int) < (L : Int)) = true := by simp; omega
              have g2 : decide ((L : Int) > 300) = true := by simp; omega
              have g3 : decide (300 < L) = true := by simp; omega
              clear hbytes hdt hL
              go_wp2
              go_returns
              exact ⟨rfl, HB.out⟩
            · have g1 : decide ((300 : Int) < (L : Int)) = false := by simp; omega
              have g2 : decide ((L : Int) > 300) = false := by simp; omega
              have g3 : decide (300 < L) = false := by simp; omega
              have HD := Lib.hid hbytes
              have HL := Lib.hid hL
              have hLs : L ≤ 300 := by omega
              have HLS := Lib.hid hLs
              clear hbytes hdt hL hL3 hLs
              go_wp2_with fail
              refine (add_any wr (.slice a t c) (.slice da L dc) X n dt HIN.out HLX.out (by rw [HXL.out]; omega) HD.out (HT.out.below HB.out h0) (by have := HB.out.size; omega)).mono ?_
              rintro e w2 ⟨v2, rfl, hLY, hB2⟩
              have hd65 : dt.length ≤ 65536 := by rw [HL.out]; have := HLS.out; omega
              have hX24 : X.length < 1024 := by rw [HXL.out]; omega
              rw [added_ok HCX.out HNN.out HBX.out hd65 hX24] at hLY
              simp only [addErr_ok HCX.out HNN.out HBX.out hd65 hX24]
              have HCY : Hid (Chn (X ++ [⟨n, X.length, hd X, dt⟩])) := Lib.hid (HCX.out.snoc HNN.out HBX.out hd65 hX24)
              have HBY : Hid (bel (X ++ [⟨n, X.length, hd X, dt⟩]) n = true) := Lib.hid (bel_snoc X ⟨n, X.length, hd X, dt⟩ HBX.out)
              obtain ⟨Y, hY⟩ : ∃ Y, X ++ [⟨n, X.length, hd X, dt⟩] = Y := ⟨_, rfl⟩
              have hYL : Y.length = t + 1 := by rw [← hY, List.length_append, HXL.out]; rfl
              have hYt : Y.take t = X := by rw [← hY, ← HXL.out]; simp
              have hYg : ∀ h, Y[t]'h = ⟨n, t, hd X, dt⟩ := fun h => by
                have := HXL.out
                subst hY
                subst this
                simp
              rw [hY] at hLY HCY HBY
              obtain ⟨a2, c2, rfl, hc2, hcm2⟩ := hLY.shape
              unfold maxLen at hcm2
              rw [hYL] at hLY hc2 ⊢
              have hc3 : t ≤ c2 := by omega
              have ht1 : (t : Int) < (t : Int) + 1 := by omega
              obtain ⟨b2, off2, d2, rfl, hb2, hyok, hyr, hyd⟩ := hLY.get t (by omega)
              have hB2w := HB.out.trans (hB2.mono HB.out.size)
              simp only [hYg] at hyok hyr hyd
              obtain ⟨da2, dc2, rfl, _, _, _⟩ := id hyd
              have hLd := HL.out
              simp only [hLd] at hyr hyd
              have hcl := hd_len X
              have c0 := hyr 0 _ (lcells_0 _ _)
              have c1 := hyr 1 _ (lcells_1 _ _)
              have c34 := hyr 34 _ (lcells_34 _ _ hcl)
              have cpv : w2.rangeAt b2 (off2 + t * 35 + 2) (cells8 (hd X)) := fun j v hj => by
                have := hyr (2 + j) v (lcells_prev _ _ hcl j v hj)
                rw [← this]; congr 2; omega
              have hq0 := fun (W : World) => dig_eq (hd X) (hd X) hcl hcl W
              simp only [decide_true, dv_eq] at hq0
              have hhd : ∀ W, Kept w2 W → Calls Tryd.prog 33 #[.slice a t c] W fun e w' => e = .returned (.agg (cells8 (hd X)).toArray) ∧ Below W.heap.size W w' := fun W hW => by
                have hb := hB2.trans (hW.below.mono hB2.size)
                have hbw := hB2w.trans (hW.below.mono hB2w.size)
                exact head_any W _ X (HLX.out.at hb) (HT.out.below hbw h0) (by have := hbw.size; omega)
              have hsm : ∀ W, Kept w2 W → Calls Tryd.prog 39 #[.slice (some ⟨b2, off2, none⟩) t c2, .slice a t c] W fun e w' => e = .returned (.bool true) ∧ Below W.heap.size W w' := fun W hW => by
                have hb := hB2.trans (hW.below.mono hB2.size)
                have h := rsame_any W _ _ (Y.take t) X (LRow.take (hLY.at hW.below) (by omega) rfl) (HLX.out.at hb) (by rw [hYt, HXL.out]; omega) (by rw [HXL.out]; omega)
                rw [hYt, decide_eq_true rfl] at h
                exact h
              obtain ⟨sd, hsd⟩ : ∃ s : ByteArray, (⟨dt.toArray⟩ : ByteArray) = s := ⟨_, rfl⟩
              have hcv : ∀ W v, BytesAt W W.heap.size v dt → (convert 34 9 v).run Tryd.prog W = .ok (.string sd) W := fun W v hb => by
                obtain ⟨p, q, rfl, _, _, h3⟩ := hb
                rw [← hsd]
                exact conv_bytes W p _ q (by
                  rcases h3 with h | ⟨db, off, rfl, _, h5⟩
                  · exact .inl h
                  · exact .inr ⟨db, off, rfl, fun i hi => h5 i hi⟩)
              have P56 : Hid (∀ W, Kept w2 W → (convert 34 9 (.slice da L dc)).run Tryd.prog W = .ok (.string sd) W) := Lib.hid fun W hW => by
                have hb := hB2.trans (hW.below.mono hB2.size)
                exact hcv W _ ((HD.out.below hb).mono hb.size)
              have P51 : Hid (∀ W, Kept w2 W → (convert 34 9 (.slice da2 L dc2)).run Tryd.prog W = .ok (.string sd) W) := Lib.hid fun W hW => hcv W _ ((hyd.below hW.below).mono hW.size)
              have P55 : Hid (∀ W, Kept w2 W → W.cell? ⟨b0, off0 + t, none⟩ = some (.slice da L dc)) := Lib.hid fun W hW => by
                have hb := hB2.trans (hW.below.mono hB2.size)
                exact (hb.cell (p := ⟨b0, off0 + t, none⟩) (by show b0 < _; have := HB.out.size; omega)).trans hcell
              have P32 : Hid (∀ W, Kept w2 W → W.cell? ⟨b2, off2 + t * 35 + 1, none⟩ = some (.int .i64 t)) := Lib.hid fun W hW => (hW.below.cell (p := ⟨b2, off2 + t * 35 + 1, none⟩) hb2).trans c1
              have P41 : Hid (∀ W, Kept w2 W → W.cell? ⟨b2, off2 + t * 35, none⟩ = some (.int .i64 n)) := Lib.hid fun W hW => (hW.below.cell (p := ⟨b2, off2 + t * 35, none⟩) hb2).trans c0
              have P50 : Hid (∀ W, Kept w2 W → W.cell? ⟨b2, off2 + t * 35 + 34, none⟩ = some (.slice da2 L dc2)) := Lib.hid fun W hW => (hW.below.cell (p := ⟨b2, off2 + t * 35 + 34, none⟩) hb2).trans c34
              have hpl : (cells8 (hd X)).length = 32 := by rw [cells8_len, hcl]
              obtain ⟨pa, hpa⟩ : ∃ pa, cells8 (hd X) = pa := ⟨_, rfl⟩
              rw [hpa] at hhd cpv hpl
              simp only [hpa] at hq0
              have PA : Hid (∀ W, Kept w2 W → W.rangeAt b2 (off2 + t * 35 + 2) pa) := Lib.hid fun W hW j v hj => (hW.below.cell (p := ⟨b2, off2 + t * 35 + 2 + j, none⟩) hb2).trans (cpv j v hj)
              have HZP : Hid ((Tryd.prog.info? 30).map (·.size) = some pa.length) := by show _ = _; rw [hpl]; exact Tryd.info30
              have HQ := Lib.hid hq0
              have HHD := Lib.hid hhd
              have HSM := Lib.hid hsm
              have HYL := Lib.hid hYL
              have HLY := Lib.hid hLY
              have HB2 := Lib.hid hB2w
              clear hB2w hLY hYL hsm hhd hq0 cpv hpl hpa hcv hsd c0 c1 c34 hcl hyr hyd hyok hLd hYg hYt hY hB2 hb2 hb0 hcell hd65 hX24
              go_upto_region 12 with fail
              refine wp_region_held_drew (S := fun W => Kept w2 W) (by kernel_rfl) (Kept.drew (Kept.refl w2)) (fun hHeld => ?_)
              refine wpAnyH_take (i := 0) (oi := l12a0) (v := ?_) rfl (by kernel_rfl) (by kernel_rfl) (by kernel_rfl) (fun _ _ _ h => h) (Or.inl ⟨by rfl, ?_⟩) hHeld ?_
              rotate_left
              · (intro w hSw; (try dsimp only at hSw); unfold l12a0; go_simp <;> with_reducible rfl)
              try simp only [l12a0, Act.put, List.setIfInBounds_toArray, List.set_cons_zero, List.set_cons_succ]
              refine wpAnyH_take (i := 1) (oi := l12a1) (v := ?_) rfl (by kernel_rfl) (by kernel_rfl) (by kernel_rfl) (fun _ _ _ h => h) (Or.inl ⟨by rfl, ?_⟩) hHeld ?_
              rotate_left
              · (intro w hSw; (try dsimp only at hSw); unfold l12a1; go_simp <;> with_reducible rfl)
              try simp only [l12a1, Act.put, List.setIfInBounds_toArray, List.set_cons_zero, List.set_cons_succ]
              refine wpAnyH_take (i := 2) (oi := l12a2) (v := ?_) rfl (by kernel_rfl) (by kernel_rfl) (by kernel_rfl) (fun _ _ _ h => h) (Or.inl ⟨by rfl, ?_⟩) hHeld ?_
              rotate_left
              · (intro w hSw; (try dsimp only at hSw); unfold l12a2; go_simp <;> with_reducible rfl)
              try simp only [l12a2, Act.put, List.setIfInBounds_toArray, List.set_cons_zero, List.set_cons_succ]
              refine wpAnyH_take (i := 3) (oi := l12a3) (v := ?_) rfl (by kernel_rfl) (by kernel_rfl) (by kernel_rfl) (fun _ _ _ h => h) (Or.inl ⟨by rfl, ?_⟩) hHeld ?_
              rotate_left
              · (intro w hSw; (try dsimp only at hSw); unfold l12a3; go_simp <;> with_reducible rfl)
              try simp only [l12a3, Act.put, List.setIfInBounds_toArray, List.set_cons_zero, List.set_cons_succ]
              refine wpAnyH_take (i := 4) (oi := l12a4) (v := ?_) rfl (by kernel_rfl) (by kernel_rfl) (by kernel_rfl) (fun _ _ _ h => h) (Or.inl ⟨by rfl, ?_⟩) hHeld ?_
              rotate_left
              · (intro w hSw; (try dsimp only at hSw); unfold l12a4; go_simp <;> with_reducible rfl)
              try simp only [l12a4, Act.put, List.setIfInBounds_toArray, List.set_cons_zero, List.set_cons_succ]
              refine wpAnyH_take (i := 5) (oi := l12a5) (v := ?_) rfl (by kernel_rfl) (by kernel_rfl) (by kernel_rfl) (fun _ _ _ h => h) (Or.inl ⟨by rfl, ?_⟩) hHeld ?_
              rotate_left
              · (intro w hSw; (try dsimp only at hSw); unfold l12a5; go_simp <;> with_reducible rfl)
              try simp only [l12a5, Act.put, List.setIfInBounds_toArray, List.set_cons_zero, List.set_cons_succ]
              refine wpAnyH_take (i := 6) (oi := l12a6) (v := ?_) rfl (by kernel_rfl) (by kernel_rfl) (by kernel_rfl) (fun _ _ _ h => h) (Or.inl ⟨by rfl, ?_⟩) hHeld ?_
              rotate_left
              · (intro w hSw; (try dsimp only at hSw); unfold l12a6; go_simp <;> with_reducible rfl)
              try simp only [l12a6, Act.put, List.setIfInBounds_toArray, List.set_cons_zero, List.set_cons_succ]
              refine wpAnyH_take (i := 7) (oi := l12a7) (v := ?_) rfl (by kernel_rfl) (by kernel_rfl) (by kernel_rfl) (fun _ _ _ h => h) (Or.inl ⟨by rfl, ?_⟩) hHeld ?_
              rotate_left
              · (intro w hSw; (try dsimp only at hSw); unfold l12a7; go_simp <;> with_reducible rfl)
              try simp only [l12a7, Act.put, List.setIfInBounds_toArray, List.set_cons_zero, List.set_cons_succ]
              refine wpAnyH_take (i := 8) (oi := l12a8) (v := ?_) rfl (by kernel_rfl) (by kernel_rfl) (by kernel_rfl) (fun _ _ _ h => h) (Or.inl ⟨by rfl, ?_⟩) hHeld ?_
              rotate_left
              · (intro w hSw; (try dsimp only at hSw); unfold l12a8; go_simp <;> with_reducible rfl)
              try simp only [l12a8, Act.put, List.setIfInBounds_toArray, List.set_cons_zero, List.set_cons_succ]
              refine wpAnyH_take (i := 9) (oi := l12a9) (v := ?_) rfl (by kernel_rfl) (by kernel_rfl) (by kernel_rfl) (fun _ _ _ h => h) (Or.inl ⟨by rfl, ?_⟩) hHeld ?_
              rotate_left
              · (intro w hSw; (try dsimp only at hSw); unfold l12a9; go_simp <;> with_reducible rfl)
              try simp only [l12a9, Act.put, List.setIfInBounds_toArray, List.set_cons_zero, List.set_cons_succ]
              refine wpAnyH_take (i := 10) (oi := l12a10) (v := ?_) rfl (by kernel_rfl) (by kernel_rfl) (by kernel_rfl) (fun _ _ _ h => h) (Or.inl ⟨by rfl, ?_⟩) hHeld ?_
              rotate_left
              · (intro w hSw; (try dsimp only at hSw); unfold l12a10; go_simp <;> with_reducible rfl)
              try simp only [l12a10, Act.put, List.setIfInBounds_toArray, List.set_cons_zero, List.set_cons_succ]
              refine wpAnyH_take (i := 11) (oi := l12a11) (v := ?_) rfl (by kernel_rfl) (by kernel_rfl) (by kernel_rfl) (fun _ _ _ h => h) (Or.inl ⟨by rfl, ?_⟩) hHeld ?_
              rotate_left
              · (intro w hSw; (try dsimp only at hSw); unfold l12a11; go_simp <;> with_reducible rfl)
              try simp only [l12a11, Act.put, List.setIfInBounds_toArray, List.set_cons_zero, List.set_cons_succ]
              refine wpAnyH_take (i := 12) (oi := l12a12) (v := ?_) rfl (by kernel_rfl) (by kernel_rfl) (by kernel_rfl) (fun _ _ _ h => h) (Or.inl ⟨by rfl, ?_⟩) hHeld ?_
              rotate_left
              · (intro w hSw; (try dsimp only at hSw); unfold l12a12; go_simp <;> with_reducible rfl)
              try simp only [l12a12, Act.put, List.setIfInBounds_toArray, List.set_cons_zero, List.set_cons_succ]
              refine wpAnyH_take (i := 13) (oi := l12a13) (v := ?_) rfl (by kernel_rfl) (by kernel_rfl) (by kernel_rfl) (fun _ _ _ h => h) (Or.inl ⟨by rfl, ?_⟩) hHeld ?_
              rotate_left
              · (intro w hSw; (try dsimp only at hSw); unfold l12a13; go_simp <;> with_reducible rfl)
              try simp only [l12a13, Act.put, List.setIfInBounds_toArray, List.set_cons_zero, List.set_cons_succ]
              refine wpAnyH_ready (rs := [14]) (by kernel_rfl) (by simp) ?_
              refine AllReadyH.cons (o := l12a14) rfl (fun K hK => ?_) AllReadyH.nil
              rw [if_pos (by rfl)]
              unfold l12a14
              go_simp
              (with_reducible refine (HSM.out _ hHeld).mono ?_)
              rintro e W14 ⟨rfl, hB14⟩
              have hS14 := hHeld.next hB14
              go_wp2_with fail
              refine hK.out _ _ hS14 (fun hHeld => ?_)
              clear hK K
              try simp only [l12a14, Act.put, List.setIfInBounds_toArray, List.set_cons_zero, List.set_cons_succ]
              refine wpAnyH_take (i := 15) (oi := l12a15) (v := ?_) rfl (by kernel_rfl) (by kernel_rfl) (by kernel_rfl) (fun _ _ _ h => h) (Or.inl ⟨by rfl, ?_⟩) hHeld ?_
              rotate_left
              · (intro w hSw; (try dsimp only at hSw); unfold l12a15; go_simp <;> with_reducible rfl)
              try simp only [l12a15, Act.put, List.setIfInBounds_toArray, List.set_cons_zero, List.set_cons_succ]
              refine wpAnyH_take (i := 16) (oi := l12a16) (v := ?_) rfl (by kernel_rfl) (by kernel_rfl) (by kernel_rfl) (fun _ _ _ h => h) (Or.inl ⟨by rfl, ?_⟩) hHeld ?_
              rotate_left
              · (intro w hSw; (try dsimp only at hSw); unfold l12a16; go_simp <;> with_reducible rfl)
              try simp only [l12a16, Act.put, List.setIfInBounds_toArray, List.set_cons_zero, List.set_cons_succ]
              refine wpAnyH_take (i := 17) (oi := l12a17) (v := ?_) rfl (by kernel_rfl) (by kernel_rfl) (by kernel_rfl) (fun _ _ _ h => h) (Or.inl ⟨by rfl, ?_⟩) hHeld ?_
              rotate_left
              · (intro w hSw; (try dsimp only at hSw); unfold l12a17; go_simp <;> with_reducible rfl)
              try simp only [l12a17, Act.put, List.setIfInBounds_toArray, List.set_cons_zero, List.set_cons_succ]
              refine wpAnyH_take (i := 18) (oi := l12a18) (v := ?_) rfl (by kernel_rfl) (by kernel_rfl) (by kernel_rfl) (fun _ _ _ h => h) (Or.inl ⟨by rfl, ?_⟩) hHeld ?_
              rotate_left
              · (intro w hSw; (try dsimp only at hSw); unfold l12a18; go_simp <;> with_reducible rfl)
              try simp only [l12a18, Act.put, List.setIfInBounds_toArray, List.set_cons_zero, List.set_cons_succ]
              refine wpAnyH_take (i := 19) (oi := l12a19) (v := ?_) rfl (by kernel_rfl) (by kernel_rfl) (by kernel_rfl) (fun _ _ _ h => h) (Or.inl ⟨by rfl, ?_⟩) hHeld ?_
              rotate_left
              · (intro w hSw; (try dsimp only at hSw); unfold l12a19; go_simp <;> with_reducible rfl)
              try simp only [l12a19, Act.put, List.setIfInBounds_toArray, List.set_cons_zero, List.set_cons_succ]
              refine wpAnyH_take (i := 20) (oi := l12a20) (v := ?_) rfl (by kernel_rfl) (by kernel_rfl) (by kernel_rfl) (fun _ _ _ h => h) (Or.inl ⟨by rfl, ?_⟩) hHeld ?_
              rotate_left
              · (intro w hSw; (try dsimp only at hSw); unfold l12a20; go_simp <;> with_reducible rfl)
              try simp only [l12a20, Act.put, List.setIfInBounds_toArray, List.set_cons_zero, List.set_cons_succ]
              refine wpAnyH_take (i := 21) (oi := l12a21) (v := ?_) rfl (by kernel_rfl) (by kernel_rfl) (by kernel_rfl) (fun _ _ _ h => h) (Or.inl ⟨by rfl, ?_⟩) hHeld ?_
              rotate_left
              · (intro w hSw; (try dsimp only at hSw); unfold l12a21; go_simp <;> with_reducible rfl)
              try simp only [l12a21, Act.put, List.setIfInBounds_toArray, List.set_cons_zero, List.set_cons_succ]
              refine wpAnyH_take (i := 22) (oi := l12a22) rfl (by kernel_rfl) (by kernel_rfl) (by kernel_rfl) (fun _ _ _ h => h) (yieldsIf_load_mid (by rfl) 30 (.tmp 66) (by rfl) b2 (off2 + t * 35 + 2) (by rfl) pa _ (fun w hSw => PA.out w hSw) Tryd.underlying30 rfl HZP.out) hHeld ?_
              try simp only [l12a22, Act.put, List.setIfInBounds_toArray, List.set_cons_zero, List.set_cons_succ]
              refine wpAnyH_take (i := 23) (oi := l12a23) (v := ?_) rfl (by kernel_rfl) (by kernel_rfl) (by kernel_rfl) (fun _ _ _ h => h) (Or.inl ⟨by rfl, ?_⟩) hHeld ?_
              rotate_left
              · (intro w hSw; (try dsimp only at hSw); unfold l12a23; go_simp <;> with_reducible rfl)
              try simp only [l12a23, Act.put, List.setIfInBounds_toArray, List.set_cons_zero, List.set_cons_succ]
              refine wpAnyH_ready (rs := [24]) (by kernel_rfl) (by simp) ?_
              refine AllReadyH.cons (o := l12a24) rfl (fun K hK => ?_) AllReadyH.nil
              rw [if_pos (by rfl)]
              unfold l12a24
              go_simp
              (with_reducible refine (HHD.out _ hHeld).mono ?_)
              rintro e W24 ⟨rfl, hB24⟩
              have hS24 := hHeld.next hB24
              go_wp2_with fail
              refine hK.out _ _ hS24 (fun hHeld => ?_)
              clear hK K
              try simp only [l12a24, Act.put, List.setIfInBounds_toArray, List.set_cons_zero, List.set_cons_succ]
              refine wpAnyH_take (i := 25) (oi := l12a25) (v := ?_) rfl (by kernel_rfl) (by kernel_rfl) (by kernel_rfl) (fun _ _ _ h => h) (Or.inl ⟨by rfl, ?_⟩) hHeld ?_
              rotate_left
              · (intro w hSw; have q0 := HQ.out; have f32 := P32.out w hSw; have f41 := P41.out w hSw; have f50 := P50.out w hSw; have f51 := P51.out w hSw; have f55 := P55.out w hSw; have f56 := P56.out w hSw; unfold l12a25; go_simp <;> with_reducible rfl)
              try simp only [l12a25, Act.put, List.setIfInBounds_toArray, List.set_cons_zero, List.set_cons_succ]
              refine wpAnyH_take (i := 26) (oi := l12a26) (v := ?_) rfl (by kernel_rfl) (by kernel_rfl) (by kernel_rfl) (fun _ _ _ h => h) (Or.inl ⟨by rfl, ?_⟩) hHeld ?_
              rotate_left
              · (intro w hSw; (try dsimp only at hSw); unfold l12a26; go_simp <;> with_reducible rfl)
              try simp only [l12a26, Act.put, List.setIfInBounds_toArray, List.set_cons_zero, List.set_cons_succ]
              refine wpAnyH_take (i := 27) (oi := l12a27) (v := ?_) rfl (by kernel_rfl) (by kernel_rfl) (by kernel_rfl) (fun _ _ _ h => h) (Or.inl ⟨by rfl, ?_⟩) hHeld ?_
              rotate_left
              · (intro w hSw; (try dsimp only at hSw); unfold l12a27; go_simp <;> with_reducible rfl)
              try simp only [l12a27, Act.put, List.setIfInBounds_toArray, List.set_cons_zero, List.set_cons_succ]
              refine wpAnyH_take (i := 28) (oi := l12a28) (v := ?_) rfl (by kernel_rfl) (by kernel_rfl) (by kernel_rfl) (fun _ _ _ h => h) (Or.inl ⟨by rfl, ?_⟩) hHeld ?_
              rotate_left
              · (intro w hSw; (try dsimp only at hSw); unfold l12a28; go_simp <;> with_reducible rfl)
              try simp only [l12a28, Act.put, List.setIfInBounds_toArray, List.set_cons_zero, List.set_cons_succ]
              refine wpAnyH_take (i := 29) (oi := l12a29) (v := ?_) rfl (by kernel_rfl) (by kernel_rfl) (by kernel_rfl) (fun _ _ _ h => h) (Or.inl ⟨by rfl, ?_⟩) hHeld ?_
              rotate_left
              · (intro w hSw; (try dsimp only at hSw); unfold l12a29; go_simp <;> with_reducible rfl)
              try simp only [l12a29, Act.put, List.setIfInBounds_toArray, List.set_cons_zero, List.set_cons_succ]
              refine wpAnyH_take (i := 30) (oi := l12a30) (v := ?_) rfl (by kernel_rfl) (by kernel_rfl) (by kernel_rfl) (fun _ _ _ h => h) (Or.inl ⟨by rfl, ?_⟩) hHeld ?_
              rotate_left
              · (intro w hSw; (try dsimp only at hSw); unfold l12a30; go_simp <;> with_reducible rfl)
              try simp only [l12a30, Act.put, List.setIfInBounds_toArray, List.set_cons_zero, List.set_cons_succ]
              refine wpAnyH_take (i := 31) (oi := l12a31) (v := ?_) rfl (by kernel_rfl) (by kernel_rfl) (by kernel_rfl) (fun _ _ _ h => h) (Or.inl ⟨by rfl, ?_⟩) hHeld ?_
              rotate_left
              · (intro w hSw; (try dsimp only at hSw); unfold l12a31; go_simp <;> with_reducible rfl)
              try simp only [l12a31, Act.put, List.setIfInBounds_toArray, List.set_cons_zero, List.set_cons_succ]
              refine wpAnyH_take (i := 32) (oi := l12a32) (v := ?_) rfl (by kernel_rfl) (by kernel_rfl) (by kernel_rfl) (fun _ _ _ h => h) (Or.inl ⟨by rfl, ?_⟩) hHeld ?_
              rotate_left
              · (intro w hSw; have q0 := HQ.out; have f32 := P32.out w hSw; have f41 := P41.out w hSw; have f50 := P50.out w hSw; have f51 := P51.out w hSw; have f55 := P55.out w hSw; have f56 := P56.out w hSw; unfold l12a32; go_simp <;> with_reducible rfl)
              try simp only [l12a32, Act.put, List.setIfInBounds_toArray, List.set_cons_zero, List.set_cons_succ]
              refine wpAnyH_take (i := 33) (oi := l12a33) (v := ?_) rfl (by kernel_rfl) (by kernel_rfl) (by kernel_rfl) (fun _ _ _ h => h) (Or.inl ⟨by rfl, ?_⟩) hHeld ?_
              rotate_left
              · (intro w hSw; (try dsimp only at hSw); unfold l12a33; go_simp <;> with_reducible rfl)
              try simp only [l12a33, Act.put, List.setIfInBounds_toArray, List.set_cons_zero, List.set_cons_succ]
              refine wpAnyH_take (i := 34) (oi := l12a34) (v := ?_) rfl (by kernel_rfl) (by kernel_rfl) (by kernel_rfl) (fun _ _ _ h => h) (Or.inl ⟨by rfl, ?_⟩) hHeld ?_
              rotate_left
              · (intro w hSw; have q0 := HQ.out; have f32 := P32.out w hSw; have f41 := P41.out w hSw; have f50 := P50.out w hSw; have f51 := P51.out w hSw; have f55 := P55.out w hSw; have f56 := P56.out w hSw; unfold l12a34; go_simp <;> with_reducible rfl)
              try simp only [l12a34, Act.put, List.setIfInBounds_toArray, List.set_cons_zero, List.set_cons_succ]
              refine wpAnyH_take (i := 35) (oi := l12a35) (v := ?_) rfl (by kernel_rfl) (by kernel_rfl) (by kernel_rfl) (fun _ _ _ h => h) (Or.inl ⟨by rfl, ?_⟩) hHeld ?_
              rotate_left
              · (intro w hSw; (try dsimp only at hSw); unfold l12a35; go_simp <;> with_reducible rfl)
              try simp only [l12a35, Act.put, List.setIfInBounds_toArray, List.set_cons_zero, List.set_cons_succ]
              refine wpAnyH_take (i := 36) (oi := l12a36) (v := ?_) rfl (by kernel_rfl) (by kernel_rfl) (by kernel_rfl) (fun _ _ _ h => h) (Or.inl ⟨by rfl, ?_⟩) hHeld ?_
              rotate_left
              · (intro w hSw; (try dsimp only at hSw); unfold l12a36; go_simp <;> with_reducible rfl)
              try simp only [l12a36, Act.put, List.setIfInBounds_toArray, List.set_cons_zero, List.set_cons_succ]
              refine wpAnyH_take (i := 37) (oi := l12a37) (v := ?_) rfl (by kernel_rfl) (by kernel_rfl) (by kernel_rfl) (fun _ _ _ h => h) (Or.inl ⟨by rfl, ?_⟩) hHeld ?_
              rotate_left
              · (intro w hSw; (try dsimp only at hSw); unfold l12a37; go_simp <;> with_reducible rfl)
              try simp only [l12a37, Act.put, List.setIfInBounds_toArray, List.set_cons_zero, List.set_cons_succ]
              refine wpAnyH_take (i := 38) (oi := l12a38) (v := ?_) rfl (by kernel_rfl) (by kernel_rfl) (by kernel_rfl) (fun _ _ _ h => h) (Or.inl ⟨by rfl, ?_⟩) hHeld ?_
              rotate_left
              · (intro w hSw; (try dsimp only at hSw); unfold l12a38; go_simp <;> with_reducible rfl)
              try simp only [l12a38, Act.put, List.setIfInBounds_toArray, List.set_cons_zero, List.set_cons_succ]
              refine wpAnyH_take (i := 39) (oi := l12a39) (v := ?_) rfl (by kernel_rfl) (by kernel_rfl) (by kernel_rfl) (fun _ _ _ h => h) (Or.inl ⟨by rfl, ?_⟩) hHeld ?_
              rotate_left
              · (intro w hSw; (try dsimp only at hSw); unfold l12a39; go_simp <;> with_reducible rfl)
              try simp only [l12a39, Act.put, List.setIfInBounds_toArray, List.set_cons_zero, List.set_cons_succ]
              refine wpAnyH_take (i := 40) (oi := l12a40) (v := ?_) rfl (by kernel_rfl) (by kernel_rfl) (by kernel_rfl) (fun _ _ _ h => h) (Or.inl ⟨by rfl, ?_⟩) hHeld ?_
              rotate_left
              · (intro w hSw; (try dsimp only at hSw); unfold l12a40; go_simp <;> with_reducible rfl)
              try simp only [l12a40, Act.put, List.setIfInBounds_toArray, List.set_cons_zero, List.set_cons_succ]
              refine wpAnyH_take (i := 41) (oi := l12a41) (v := ?_) rfl (by kernel_rfl) (by kernel_rfl) (by kernel_rfl) (fun _ _ _ h => h) (Or.inl ⟨by rfl, ?_⟩) hHeld ?_
              rotate_left
              · (intro w hSw; have q0 := HQ.out; have f32 := P32.out w hSw; have f41 := P41.out w hSw; have f50 := P50.out w hSw; have f51 := P51.out w hSw; have f55 := P55.out w hSw; have f56 := P56.out w hSw; unfold l12a41; go_simp <;> with_reducible rfl)
              try simp only [l12a41, Act.put, List.setIfInBounds_toArray, List.set_cons_zero, List.set_cons_succ]
              refine wpAnyH_take (i := 42) (oi := l12a42) (v := ?_) rfl (by kernel_rfl) (by kernel_rfl) (by kernel_rfl) (fun _ _ _ h => h) (Or.inl ⟨by rfl, ?_⟩) hHeld ?_
              rotate_left
              · (intro w hSw; (try dsimp only at hSw); unfold l12a42; go_simp <;> with_reducible rfl)
              try simp only [l12a42, Act.put, List.setIfInBounds_toArray, List.set_cons_zero, List.set_cons_succ]
              refine wpAnyH_take (i := 43) (oi := l12a43) (v := ?_) rfl (by kernel_rfl) (by kernel_rfl) (by kernel_rfl) (fun _ _ _ h => h) (Or.inl ⟨by rfl, ?_⟩) hHeld ?_
              rotate_left
              · (intro w hSw; have q0 := HQ.out; have f32 := P32.out w hSw; have f41 := P41.out w hSw; have f50 := P50.out w hSw; have f51 := P51.out w hSw; have f55 := P55.out w hSw; have f56 := P56.out w hSw; unfold l12a43; go_simp <;> with_reducible rfl)
              try simp only [l12a43, Act.put, List.setIfInBounds_toArray, List.set_cons_zero, List.set_cons_succ]
              refine wpAnyH_take (i := 44) (oi := l12a44) (v := ?_) rfl (by kernel_rfl) (by kernel_rfl) (by kernel_rfl) (fun _ _ _ h => h) (Or.inl ⟨by rfl, ?_⟩) hHeld ?_
              rotate_left
              · (intro w hSw; (try dsimp only at hSw); unfold l12a44; go_simp <;> with_reducible rfl)
              try simp only [l12a44, Act.put, List.setIfInBounds_toArray, List.set_cons_zero, List.set_cons_succ]
              refine wpAnyH_take (i := 45) (oi := l12a45) (v := ?_) rfl (by kernel_rfl) (by kernel_rfl) (by kernel_rfl) (fun _ _ _ h => h) (Or.inl ⟨by rfl, ?_⟩) hHeld ?_
              rotate_left
              · (intro w hSw; (try dsimp only at hSw); unfold l12a45; go_simp <;> with_reducible rfl)
              try simp only [l12a45, Act.put, List.setIfInBounds_toArray, List.set_cons_zero, List.set_cons_succ]
              refine wpAnyH_take (i := 46) (oi := l12a46) (v := ?_) rfl (by kernel_rfl) (by kernel_rfl) (by kernel_rfl) (fun _ _ _ h => h) (Or.inl ⟨by rfl, ?_⟩) hHeld ?_
              rotate_left
              · (intro w hSw; (try dsimp only at hSw); unfold l12a46; go_simp <;> with_reducible rfl)
              try simp only [l12a46, Act.put, List.setIfInBounds_toArray, List.set_cons_zero, List.set_cons_succ]
              refine wpAnyH_take (i := 47) (oi := l12a47) (v := ?_) rfl (by kernel_rfl) (by kernel_rfl) (by kernel_rfl) (fun _ _ _ h => h) (Or.inl ⟨by rfl, ?_⟩) hHeld ?_
              rotate_left
              · (intro w hSw; (try dsimp only at hSw); unfold l12a47; go_simp <;> with_reducible rfl)
              try simp only [l12a47, Act.put, List.setIfInBounds_toArray, List.set_cons_zero, List.set_cons_succ]
              refine wpAnyH_take (i := 48) (oi := l12a48) (v := ?_) rfl (by kernel_rfl) (by kernel_rfl) (by kernel_rfl) (fun _ _ _ h => h) (Or.inl ⟨by rfl, ?_⟩) hHeld ?_
              rotate_left
              · (intro w hSw; (try dsimp only at hSw); unfold l12a48; go_simp <;> with_reducible rfl)
              try simp only [l12a48, Act.put, List.setIfInBounds_toArray, List.set_cons_zero, List.set_cons_succ]
              refine wpAnyH_take (i := 49) (oi := l12a49) (v := ?_) rfl (by kernel_rfl) (by kernel_rfl) (by kernel_rfl) (fun _ _ _ h => h) (Or.inl ⟨by rfl, ?_⟩) hHeld ?_
              rotate_left
              · (intro w hSw; (try dsimp only at hSw); unfold l12a49; go_simp <;> with_reducible rfl)
              try simp only [l12a49, Act.put, List.setIfInBounds_toArray, List.set_cons_zero, List.set_cons_succ]
              refine wpAnyH_take (i := 50) (oi := l12a50) (v := ?_) rfl (by kernel_rfl) (by kernel_rfl) (by kernel_rfl) (fun _ _ _ h => h) (Or.inl ⟨by rfl, ?_⟩) hHeld ?_
              rotate_left
              · (intro w hSw; have q0 := HQ.out; have f32 := P32.out w hSw; have f41 := P41.out w hSw; have f50 := P50.out w hSw; have f51 := P51.out w hSw; have f55 := P55.out w hSw; have f56 := P56.out w hSw; unfold l12a50; go_simp <;> with_reducible rfl)
              try simp only [l12a50, Act.put, List.setIfInBounds_toArray, List.set_cons_zero, List.set_cons_succ]
              refine wpAnyH_take (i := 51) (oi := l12a51) (v := ?_) rfl (by kernel_rfl) (by kernel_rfl) (by kernel_rfl) (fun _ _ _ h => h) (Or.inl ⟨by rfl, ?_⟩) hHeld ?_
              rotate_left
              · (intro w hSw; have q0 := HQ.out; have f32 := P32.out w hSw; have f41 := P41.out w hSw; have f50 := P50.out w hSw; have f51 := P51.out w hSw; have f55 := P55.out w hSw; have f56 := P56.out w hSw; unfold l12a51; go_simp <;> with_reducible rfl)
              try simp only [l12a51, Act.put, List.setIfInBounds_toArray, List.set_cons_zero, List.set_cons_succ]
              refine wpAnyH_take (i := 52) (oi := l12a52) (v := ?_) rfl (by kernel_rfl) (by kernel_rfl) (by kernel_rfl) (fun _ _ _ h => h) (Or.inl ⟨by rfl, ?_⟩) hHeld ?_
              rotate_left
              · (intro w hSw; (try dsimp only at hSw); unfold l12a52; go_simp <;> with_reducible rfl)
              try simp only [l12a52, Act.put, List.setIfInBounds_toArray, List.set_cons_zero, List.set_cons_succ]
              refine wpAnyH_take (i := 53) (oi := l12a53) (v := ?_) rfl (by kernel_rfl) (by kernel_rfl) (by kernel_rfl) (fun _ _ _ h => h) (Or.inl ⟨by rfl, ?_⟩) hHeld ?_
              rotate_left
              · (intro w hSw; (try dsimp only at hSw); unfold l12a53; go_simp <;> with_reducible rfl)
              try simp only [l12a53, Act.put, List.setIfInBounds_toArray, List.set_cons_zero, List.set_cons_succ]
              refine wpAnyH_take (i := 54) (oi := l12a54) (v := ?_) rfl (by kernel_rfl) (by kernel_rfl) (by kernel_rfl) (fun _ _ _ h => h) (Or.inl ⟨by rfl, ?_⟩) hHeld ?_
              rotate_left
              · (intro w hSw; (try dsimp only at hSw); unfold l12a54; go_simp <;> with_reducible rfl)
              try simp only [l12a54, Act.put, List.setIfInBounds_toArray, List.set_cons_zero, List.set_cons_succ]
              refine wpAnyH_take (i := 55) (oi := l12a55) (v := ?_) rfl (by kernel_rfl) (by kernel_rfl) (by kernel_rfl) (fun _ _ _ h => h) (Or.inl ⟨by rfl, ?_⟩) hHeld ?_
              rotate_left
              · (intro w hSw; have q0 := HQ.out; have f32 := P32.out w hSw; have f41 := P41.out w hSw; have f50 := P50.out w hSw; have f51 := P51.out w hSw; have f55 := P55.out w hSw; have f56 := P56.out w hSw; unfold l12a55; go_simp <;> with_reducible rfl)
              try simp only [l12a55, Act.put, List.setIfInBounds_toArray, List.set_cons_zero, List.set_cons_succ]
              refine wpAnyH_take (i := 56) (oi := l12a56) (v := ?_) rfl (by kernel_rfl) (by kernel_rfl) (by kernel_rfl) (fun _ _ _ h => h) (Or.inl ⟨by rfl, ?_⟩) hHeld ?_
              rotate_left
              · (intro w hSw; have q0 := HQ.out; have f32 := P32.out w hSw; have f41 := P41.out w hSw; have f50 := P50.out w hSw; have f51 := P51.out w hSw; have f55 := P55.out w hSw; have f56 := P56.out w hSw; unfold l12a56; go_simp <;> with_reducible rfl)
              try simp only [l12a56, Act.put, List.setIfInBounds_toArray, List.set_cons_zero, List.set_cons_succ]
              refine wpAnyH_take (i := 57) (oi := l12a57) (v := ?_) rfl (by kernel_rfl) (by kernel_rfl) (by kernel_rfl) (fun _ _ _ h => h) (Or.inl ⟨by rfl, ?_⟩) hHeld ?_
              rotate_left
              · (intro w hSw; have q0 := HQ.out; have f32 := P32.out w hSw; have f41 := P41.out w hSw; have f50 := P50.out w hSw; have f51 := P51.out w hSw; have f55 := P55.out w hSw; have f56 := P56.out w hSw; unfold l12a57; go_simp <;> with_reducible rfl)
              try simp only [l12a57, Act.put, List.setIfInBounds_toArray, List.set_cons_zero, List.set_cons_succ]
              refine wpAnyH_take (i := 58) (oi := l12a58) (v := ?_) rfl (by kernel_rfl) (by kernel_rfl) (by kernel_rfl) (fun _ _ _ h => h) (Or.inl ⟨by rfl, ?_⟩) hHeld ?_
              rotate_left
              · (intro w hSw; (try dsimp only at hSw); unfold l12a58; go_simp <;> with_reducible rfl)
              try simp only [l12a58, Act.put, List.setIfInBounds_toArray, List.set_cons_zero, List.set_cons_succ]
              refine wpAnyH_done (by kernel_rfl) ?_ _
              have HST := Lib.hid hHeld
              clear hHeld
              go_wp2
              go_roundw
              case rel => exact ⟨t + 1, Y, some ⟨b2, off2, none⟩, c2, by simp, rfl, by omega, HYL.out, HB2.out.trans (HST.out.mono HB2.out.size), Lib.hid (HLY.out.at HST.out), HCY, HBY⟩
              case measure => simp [intOf]; omega
          · obtain rfl : t = N := by omega
            have f1 : decide ((t : Int) < (t : Int)) = false := by simp
            have f2 : decide (t < t) = false := by simp
            obtain ⟨hcc, hccm⟩ : t ≤ c ∧ c ≤ maxLen := by obtain ⟨_, _, _, e, h1, h2, _⟩ := HLX.out; injection e with e1 e2 e3; exact ⟨by omega, by omega⟩
            unfold maxLen at hccm
            have hck : ∀ W, Kept wr W → ∀ j, j ≤ t → Calls Tryd.prog 31 #[.slice a j c] W fun e w' => e = .returned (.int .i64 0) ∧ Below W.heap.size W w' := fun W hW j hj => by
              have hbw := HB.out.trans (hW.below.mono HB.out.size)
              have h := check_any W (.slice a j c) (X.take j) (LRow.take (HLX.out.at hW.below) hj rfl) (by rw [List.length_take]; have := HXL.out; omega) (HT.out.below hbw h0) (by have := hbw.size; omega)
              rw [(chk_iff _).2 (HCX.out.take j)] at h
              exact h
            have HCK := Lib.hid hck
            have HK0 := Lib.hid (Kept.refl wr)
            clear hck HROW HN HLX HCX HBX HXL
            go_wp2
            go_loopw [9] (fun i W => ∃ j : Nat, i = .int .i64 j ∧ j ≤ t + 1 ∧ Hid (Kept wr W)) (fun i _ => t + 1 - (intOf i).toNat)
            case atStart => exact ⟨0, rfl, by omega, HK0⟩
            case round =>
              obtain ⟨j, rfl, hj, hK⟩ := hrel
              by_cases hjt : j ≤ t
              · have q1 : decide ((j : Int) ≤ (t : Int)) = true := by simp; omega
                have q2 : decide (j ≤ t) = true := by simp; omega
                have q3 : (j : Int) ≤ (t : Int) := by omega
                have q4 : j ≤ c := by omega
                have iw : IntKind.i64.wrap ((j : Int) + 1) = (j : Int) + 1 := by rw [IntKind.wrap_i64]; omega
                go_wp2_with (go_at_call 31; with_reducible refine (HCK.out _ hK.out _ hjt).mono ?_; rintro e w3 ⟨rfl, hb3⟩; have HK3 := Lib.hid (hK.out.next hb3); clear hb3)
                go_roundw
                case rel => exact ⟨j + 1, by simp, by omega, HK3⟩
                case measure => simp [intOf]; omega
              · have q1 : decide ((j : Int) ≤ (t : Int)) = false := by simp; omega
                have q2 : decide (j ≤ t) = false := by simp; omega
                have q3 : ¬ (j : Int) ≤ (t : Int) := by omega
                go_wp2
                go_returns
                exact ⟨rfl, HB.out.trans (hK.out.below.mono HB.out.size)⟩
end Go.Proofs.YtfmngeemhfpeiaaDoor
