/- The reference's reader: the next byte. -/
import Derived.Test.YtkecoohplpbgnaaRdVal
import Derived.Test.YtkecoohplpbgnaaDec
import Derived.Deep.RegionHeld3
namespace Go.Proofs.Ytkecoohplpbgnaa
open Go.RowKit

/-- The reference's reader at rb: all of its bytes, where it stands, whether it has failed. -/
structure RR (w : World) (rb : Nat) (a : Option Addr) (cap : Nat) (all : List UInt8) (k : Nat) (bad : Bool) : Prop where
  c0 : w.cell? ⟨rb, 0, none⟩ = some (.slice a all.length cap)
  c1 : w.cell? ⟨rb, 1, none⟩ = some (.int .i64 k)
  c2 : w.cell? ⟨rb, 2, none⟩ = some (.bool bad)
  f1 : w.frozen? ⟨rb, 1, none⟩ = false
  f2 : w.frozen? ⟨rb, 2, none⟩ = false
  le : k ≤ all.length
  short : all.length ≤ 1000000
  fits : all.length ≤ cap
  at_ : all = [] ∨ ∃ db off, a = some ⟨db, off, none⟩ ∧ db ≠ rb ∧ db < w.heap.size ∧ ∀ i (h : i < all.length), w.cell? ⟨db, off + i, none⟩ = some (.int .u8 (all[i]).toNat)
theorem RR.lt {w : World} {rb : Nat} {a : Option Addr} {cap : Nat} {all : List UInt8} {k : Nat} {bad : Bool} (h : RR w rb a cap all k bad) : rb < w.heap.size := World.block_lt_of_cell? w _ h.c0
theorem RR.moved {w W : World} {rb : Nat} {a : Option Addr} {cap : Nat} {all : List UInt8} {k : Nat} {bad : Bool} (h : RR w rb a cap all k bad) {r : Option Nat} (hG : w.grownBy W r) (hr : some rb ≠ r) (hd : ∀ db off, a = some ⟨db, off, none⟩ → some db ≠ r) : RR W rb a cap all k bad := by
  have hc : ∀ i, W.cell? ⟨rb, i, none⟩ = w.cell? ⟨rb, i, none⟩ := fun i => World.cell?_of_block (a := ⟨rb, i, none⟩) (hG.block rb h.lt hr)
  have hf : ∀ i, W.frozen? ⟨rb, i, none⟩ = w.frozen? ⟨rb, i, none⟩ := fun i => World.frozen?_of_block (a := ⟨rb, i, none⟩) (hG.block rb h.lt hr)
  refine ⟨(hc _).trans h.c0, (hc _).trans h.c1, (hc _).trans h.c2, (hf _).trans h.f1, (hf _).trans h.f2, h.le, h.short, h.fits, ?_⟩
  rcases h.at_ with h1 | ⟨db, off, h1, h2, h3, h4⟩
  · exact .inl h1
  · exact .inr ⟨db, off, h1, h2, Nat.lt_of_lt_of_le h3 hG.size, fun i hi => (World.cell?_of_block (a := ⟨db, off + i, none⟩) (hG.block db h3 (hd db off h1))).trans (h4 i hi)⟩
theorem RR.goTo {w : World} {rb : Nat} {a : Option Addr} {cap : Nat} {all : List UInt8} {k : Nat} {bad : Bool} (h : RR w rb a cap all k bad) (k' : Nat) (hk : k' ≤ all.length) (z : Int) (hz : z = k') : RR (w.setCell ⟨rb, 1, none⟩ (.int .i64 z)) rb a cap all k' bad := by
  subst hz
  have hc : ∀ b i, (b, i) ≠ (rb, 1) → (w.setCell ⟨rb, 1, none⟩ (.int .i64 k')).cell? ⟨b, i, none⟩ = w.cell? ⟨b, i, none⟩ := fun b i hne => World.cell?_setCell_other _ _ _ _ (fun e => hne (by injection e with e1 e2; rw [e1, e2]))
  refine ⟨(hc _ _ (by simp)).trans h.c0, World.cell?_setCell_same _ _ _ h.c1, (hc _ _ (by simp)).trans h.c2, (frozen?_set _ _ _ _).trans h.f1, (frozen?_set _ _ _ _).trans h.f2, hk, h.short, h.fits, ?_⟩
  rcases h.at_ with h1 | ⟨db, off, h1, h2, h3, h4⟩
  · exact .inl h1
  · exact .inr ⟨db, off, h1, h2, by simpa using h3, fun i hi => (hc _ _ (fun e => h2 (by injection e))).trans (h4 i hi)⟩
theorem RR.fail {w : World} {rb : Nat} {a : Option Addr} {cap : Nat} {all : List UInt8} {k : Nat} {bad : Bool} (h : RR w rb a cap all k bad) : RR (w.setCell ⟨rb, 2, none⟩ (.bool true)) rb a cap all k true := by
  have hc : ∀ b i, (b, i) ≠ (rb, 2) → (w.setCell ⟨rb, 2, none⟩ (.bool true)).cell? ⟨b, i, none⟩ = w.cell? ⟨b, i, none⟩ := fun b i hne => World.cell?_setCell_other _ _ _ _ (fun e => hne (by injection e with e1 e2; rw [e1, e2]))
  refine ⟨(hc _ _ (by simp)).trans h.c0, (hc _ _ (by simp)).trans h.c1, World.cell?_setCell_same _ _ _ h.c2, (frozen?_set _ _ _ _).trans h.f1, (frozen?_set _ _ _ _).trans h.f2, h.le, h.short, h.fits, ?_⟩
  rcases h.at_ with h1 | ⟨db, off, h1, h2, h3, h4⟩
  · exact .inl h1
  · exact .inr ⟨db, off, h1, h2, by simpa using h3, fun i hi => (hc _ _ (fun e => h2 (by injection e))).trans (h4 i hi)⟩
theorem RR.drew {w : World} {rb : Nat} {a : Option Addr} {cap : Nat} {all : List UInt8} {k : Nat} {bad : Bool} (h : RR w rb a cap all k bad) : RR w.drew rb a cap all k bad := ⟨h.c0, h.c1, h.c2, h.f1, h.f2, h.le, h.short, h.fits, h.at_⟩
theorem gdrew {a b : World} {r : Option Nat} (h : a.grownBy b r) : a.grownBy b.drew r := ⟨h.os, h.tape, h.output, h.size, h.block⟩
def q47a0 : Oper := { dst := some 3, op := Go.Op.move (Go.Operand.tmp 0), type := 51, pos := "ref.go:102", after := #[], guard := none }
def q47a1 : Oper := { dst := some 4, op := Go.Op.nilCheck (Go.Operand.tmp 3), type := 0, pos := "ref.go:102", after := #[{ on := 0, ground := Go.Ground.data }], guard := none }
def q47a2 : Oper := { dst := some 5, op := Go.Op.fieldAddr 53 (Go.Operand.tmp 4) 1, type := 0, pos := "ref.go:102", after := #[{ on := 1, ground := Go.Ground.data }], guard := none }
def q47a3 : Oper := { dst := some 6, op := Go.Op.load 3 (Go.Operand.tmp 5), type := 3, pos := "ref.go:102", after := #[{ on := 2, ground := Go.Ground.data }], guard := none }
def q47a4 : Oper := { dst := some 7, op := Go.Op.move (Go.Operand.tmp 0), type := 51, pos := "ref.go:102", after := #[], guard := none }
def q47a5 : Oper := { dst := some 8, op := Go.Op.nilCheck (Go.Operand.tmp 7), type := 0, pos := "ref.go:102", after := #[{ on := 4, ground := Go.Ground.data }], guard := none }
def q47a6 : Oper := { dst := some 9, op := Go.Op.fieldAddr 53 (Go.Operand.tmp 8) 0, type := 0, pos := "ref.go:102", after := #[{ on := 5, ground := Go.Ground.data }], guard := none }
def q47a7 : Oper := { dst := some 10, op := Go.Op.load 27 (Go.Operand.tmp 9), type := 27, pos := "ref.go:102", after := #[{ on := 6, ground := Go.Ground.data }], guard := none }
def q47a8 : Oper := { dst := some 11, op := Go.Op.call { callee := Go.Callee.builtin Go.Builtin.len, args := #[Go.Operand.tmp 10], argTypes := #[27] }, type := 3, pos := "ref.go:102", after := #[{ on := 7, ground := Go.Ground.data }], guard := none }
def q47a9 : Oper := { dst := some 12, op := Go.Op.binOp Go.BinOp.geq 3 (Go.Operand.tmp 6) (Go.Operand.tmp 11) 3, type := 4, pos := "ref.go:102", after := #[{ on := 3, ground := Go.Ground.data }, { on := 8, ground := Go.Ground.data }], guard := none }
def q47b0 : Oper := { dst := some 23, op := Go.Op.move (Go.Operand.tmp 0), type := 51, pos := "ref.go:107", after := #[], guard := none }
def q47b1 : Oper := { dst := some 24, op := Go.Op.nilCheck (Go.Operand.tmp 23), type := 0, pos := "ref.go:107", after := #[{ on := 0, ground := Go.Ground.data }], guard := none }
def q47b2 : Oper := { dst := some 25, op := Go.Op.fieldAddr 53 (Go.Operand.tmp 24) 0, type := 0, pos := "ref.go:107", after := #[{ on := 1, ground := Go.Ground.data }], guard := none }
def q47b3 : Oper := { dst := some 26, op := Go.Op.load 27 (Go.Operand.tmp 25), type := 27, pos := "ref.go:107", after := #[{ on := 2, ground := Go.Ground.data }], guard := none }
def q47b4 : Oper := { dst := some 27, op := Go.Op.move (Go.Operand.tmp 0), type := 51, pos := "ref.go:107", after := #[], guard := none }
def q47b5 : Oper := { dst := some 28, op := Go.Op.nilCheck (Go.Operand.tmp 27), type := 0, pos := "ref.go:107", after := #[{ on := 4, ground := Go.Ground.data }], guard := none }
def q47b6 : Oper := { dst := some 29, op := Go.Op.fieldAddr 53 (Go.Operand.tmp 28) 1, type := 0, pos := "ref.go:107", after := #[{ on := 5, ground := Go.Ground.data }], guard := none }
def q47b7 : Oper := { dst := some 30, op := Go.Op.load 3 (Go.Operand.tmp 29), type := 3, pos := "ref.go:107", after := #[{ on := 6, ground := Go.Ground.data }], guard := none }
def q47b8 : Oper := { dst := some 31, op := Go.Op.binOp Go.BinOp.sub 3 (Go.Operand.tmp 30) (Go.Operand.const (Go.Value.int Go.IntKind.i64 1)) 3, type := 3, pos := "ref.go:107", after := #[{ on := 7, ground := Go.Ground.data }], guard := none }
def q47b9 : Oper := { dst := some 32, op := Go.Op.indexAddr 27 (Go.Operand.tmp 26) (Go.Operand.tmp 31), type := 0, pos := "ref.go:107", after := #[{ on := 3, ground := Go.Ground.data }, { on := 8, ground := Go.Ground.data }], guard := none }
def q47b10 : Oper := { dst := some 33, op := Go.Op.load 5 (Go.Operand.tmp 32), type := 5, pos := "ref.go:107", after := #[{ on := 9, ground := Go.Ground.data }], guard := none }
def q47b11 : Oper := { dst := some 2, op := Go.Op.assign (Go.Operand.tmp 33), type := 5, pos := "ref.go:107", after := #[{ on := 10, ground := Go.Ground.data }, { on := 0, ground := Go.Ground.phase }, { on := 1, ground := Go.Ground.phase }, { on := 2, ground := Go.Ground.phase }, { on := 3, ground := Go.Ground.phase }, { on := 4, ground := Go.Ground.phase }, { on := 5, ground := Go.Ground.phase }, { on := 6, ground := Go.Ground.phase }, { on := 7, ground := Go.Ground.phase }, { on := 8, ground := Go.Ground.phase }, { on := 9, ground := Go.Ground.phase }, { on := 10, ground := Go.Ground.phase }], guard := none }

set_option maxHeartbeats 1000000 in
theorem next_end (w : World) (rb : Nat) (a : Option Addr) (cap : Nat) (all : List UInt8) (k : Nat) (bad : Bool) (h : RR w rb a cap all k bad) (hk : k = all.length) :
    Calls Try.prog 47 #[.pointer (some ⟨rb, 0, none⟩)] w fun e w' => e = .returned (.int .u8 0) ∧ RR w' rb a cap all k true ∧ w.grownBy w' (some rb) := by
  have h0 := h.c0
  have h1 := h.c1
  have h2 := h.c2
  have f2 := h.f2
  have HF : Hid (RR (w.setCell ⟨rb, 2, none⟩ (.bool true)) rb a cap all k true ∧ w.grownBy (w.setCell ⟨rb, 2, none⟩ (.bool true)) (some rb)) := Lib.hid ⟨h.fail, gset w rb 2 _⟩
  have hs := h.short
  obtain ⟨L, hL⟩ : ∃ L, all.length = L := ⟨_, rfl⟩
  rw [hL] at h0 hk hs
  subst hk
  have d1 : decide ((k : Int) ≤ (k : Int)) = true := by simp
  have d2 : decide (k ≤ k) = true := by simp
  clear h hL
  go_enter Try.func47, Try.ntmps47
  go_wp2
  refine wp_region_held_drew (S := fun W => W.cell? ⟨rb, 0, none⟩ = some (.slice a k cap) ∧ W.cell? ⟨rb, 1, none⟩ = some (.int .i64 k)) (by kernel_rfl) ⟨h0, h1⟩ (fun hHeld => ?_)
  refine wpAnyH_take (i := 0) (oi := q47a0) (v := ?_) rfl (by kernel_rfl) (by kernel_rfl) (by kernel_rfl) (fun _ _ _ h => h) (Or.inl ⟨by rfl, ?_⟩) hHeld ?_
  rotate_left
  · (intro w hSw; (try dsimp only at hSw); unfold q47a0; go_simp <;> with_reducible rfl)
  try simp only [q47a0, Act.put, List.setIfInBounds_toArray, List.set_cons_zero, List.set_cons_succ]
  refine wpAnyH_take (i := 1) (oi := q47a1) (v := ?_) rfl (by kernel_rfl) (by kernel_rfl) (by kernel_rfl) (fun _ _ _ h => h) (Or.inl ⟨by rfl, ?_⟩) hHeld ?_
  rotate_left
  · (intro w hSw; (try dsimp only at hSw); unfold q47a1; go_simp <;> with_reducible rfl)
  try simp only [q47a1, Act.put, List.setIfInBounds_toArray, List.set_cons_zero, List.set_cons_succ]
  refine wpAnyH_take (i := 2) (oi := q47a2) (v := ?_) rfl (by kernel_rfl) (by kernel_rfl) (by kernel_rfl) (fun _ _ _ h => h) (Or.inl ⟨by rfl, ?_⟩) hHeld ?_
  rotate_left
  · (intro w hSw; (try dsimp only at hSw); unfold q47a2; go_simp <;> with_reducible rfl)
  try simp only [q47a2, Act.put, List.setIfInBounds_toArray, List.set_cons_zero, List.set_cons_succ]
  refine wpAnyH_take (i := 3) (oi := q47a3) (v := ?_) rfl (by kernel_rfl) (by kernel_rfl) (by kernel_rfl) (fun _ _ _ h => h) (Or.inl ⟨by rfl, ?_⟩) hHeld ?_
  rotate_left
  · (intro w hSw; (try dsimp only at hSw); unfold q47a3; go_simp <;> with_reducible rfl)
  try simp only [q47a3, Act.put, List.setIfInBounds_toArray, List.set_cons_zero, List.set_cons_succ]
  refine wpAnyH_take (i := 4) (oi := q47a4) (v := ?_) rfl (by kernel_rfl) (by kernel_rfl) (by kernel_rfl) (fun _ _ _ h => h) (Or.inl ⟨by rfl, ?_⟩) hHeld ?_
  rotate_left
  · (intro w hSw; (try dsimp only at hSw); unfold q47a4; go_simp <;> with_reducible rfl)
  try simp only [q47a4, Act.put, List.setIfInBounds_toArray, List.set_cons_zero, List.set_cons_succ]
  refine wpAnyH_take (i := 5) (oi := q47a5) (v := ?_) rfl (by kernel_rfl) (by kernel_rfl) (by kernel_rfl) (fun _ _ _ h => h) (Or.inl ⟨by rfl, ?_⟩) hHeld ?_
  rotate_left
  · (intro w hSw; (try dsimp only at hSw); unfold q47a5; go_simp <;> with_reducible rfl)
  try simp only [q47a5, Act.put, List.setIfInBounds_toArray, List.set_cons_zero, List.set_cons_succ]
  refine wpAnyH_take (i := 6) (oi := q47a6) (v := ?_) rfl (by kernel_rfl) (by kernel_rfl) (by kernel_rfl) (fun _ _ _ h => h) (Or.inl ⟨by rfl, ?_⟩) hHeld ?_
  rotate_left
  · (intro w hSw; (try dsimp only at hSw); unfold q47a6; go_simp <;> with_reducible rfl)
  try simp only [q47a6, Act.put, List.setIfInBounds_toArray, List.set_cons_zero, List.set_cons_succ]
  refine wpAnyH_take (i := 7) (oi := q47a7) (v := ?_) rfl (by kernel_rfl) (by kernel_rfl) (by kernel_rfl) (fun _ _ _ h => h) (Or.inl ⟨by rfl, ?_⟩) hHeld ?_
  rotate_left
  · (intro w hSw; (try dsimp only at hSw); unfold q47a7; go_simp <;> with_reducible rfl)
  try simp only [q47a7, Act.put, List.setIfInBounds_toArray, List.set_cons_zero, List.set_cons_succ]
  refine wpAnyH_take (i := 8) (oi := q47a8) (v := ?_) rfl (by kernel_rfl) (by kernel_rfl) (by kernel_rfl) (fun _ _ _ h => h) (Or.inl ⟨by rfl, ?_⟩) hHeld ?_
  rotate_left
  · (intro w hSw; (try dsimp only at hSw); unfold q47a8; go_simp <;> with_reducible rfl)
  try simp only [q47a8, Act.put, List.setIfInBounds_toArray, List.set_cons_zero, List.set_cons_succ]
  refine wpAnyH_take (i := 9) (oi := q47a9) (v := ?_) rfl (by kernel_rfl) (by kernel_rfl) (by kernel_rfl) (fun _ _ _ h => h) (Or.inl ⟨by rfl, ?_⟩) hHeld ?_
  rotate_left
  · (intro w hSw; (try dsimp only at hSw); unfold q47a9; go_simp <;> with_reducible rfl)
  try simp only [q47a9, Act.put, List.setIfInBounds_toArray, List.set_cons_zero, List.set_cons_succ]
  refine wpAnyH_done (by kernel_rfl) ?_ _
  clear hHeld
  go_wp2
  go_ret
  exact ⟨rfl, HF.out.1.drew, gdrew HF.out.2⟩

set_option maxHeartbeats 1000000 in
theorem next_some (w : World) (rb : Nat) (a : Option Addr) (cap : Nat) (all : List UInt8) (k : Nat) (bad : Bool) (h : RR w rb a cap all k bad) (hk : k < all.length) :
    Calls Try.prog 47 #[.pointer (some ⟨rb, 0, none⟩)] w fun e w' => e = .returned (.int .u8 all[k].toNat) ∧ RR w' rb a cap all (k + 1) bad ∧ w.grownBy w' (some rb) := by
  have h0 := h.c0
  have h1 := h.c1
  have h2 := h.c2
  have f1 := h.f1
  have HF : Hid (∀ z : Int, z = ((k + 1 : Nat) : Int) → RR (w.setCell ⟨rb, 1, none⟩ (.int .i64 z)) rb a cap all (k + 1) bad ∧ w.grownBy (w.setCell ⟨rb, 1, none⟩ (.int .i64 z)) (some rb)) := Lib.hid fun z hz => ⟨h.goTo (k + 1) hk z hz, gset w rb 1 _⟩
  have hs := h.short
  have hfi := h.fits
  obtain ⟨db, off, rfl, hdr, hdl, hby⟩ : ∃ db off, a = some ⟨db, off, none⟩ ∧ db ≠ rb ∧ db < w.heap.size ∧ ∀ i (h : i < all.length), w.cell? ⟨db, off + i, none⟩ = some (.int .u8 (all[i]).toNat) := by
    rcases h.at_ with e | e
    · subst e; simp at hk
    · exact e
  have hc := hby k hk
  obtain ⟨c, hcc⟩ : ∃ c : Int, (all[k].toNat : Int) = c := ⟨_, rfl⟩
  rw [hcc] at hc ⊢
  obtain ⟨L, hL⟩ : ∃ L, all.length = L := ⟨_, rfl⟩
  rw [hL] at h0 hk hs hfi
  have d1 : decide ((L : Int) ≤ (k : Int)) = false := by simp; omega
  have d2 : decide (L ≤ k) = false := by simp; omega
  have w1 : IntKind.i64.wrap ((k : Int) + 1) = (k : Int) + 1 := by rw [IntKind.wrap_i64]; omega
  have w2 : IntKind.i64.wrap ((k : Int) + 1 - 1) = (k : Int) := by rw [IntKind.wrap_i64]; omega
  have HS5 : Hid ((w.setCell ⟨rb, 1, none⟩ (.int .i64 ((k : Int) + 1))).cell? ⟨rb, 0, none⟩ = some (.slice (some ⟨db, off, none⟩) L cap) ∧ (w.setCell ⟨rb, 1, none⟩ (.int .i64 ((k : Int) + 1))).cell? ⟨rb, 1, none⟩ = some (.int .i64 ((k : Int) + 1)) ∧ (w.setCell ⟨rb, 1, none⟩ (.int .i64 ((k : Int) + 1))).cell? ⟨db, off + k, none⟩ = some (.int .u8 c)) := Lib.hid ⟨(World.cell?_setCell_other _ _ _ _ (by intro e; injection e with _ e2; cases e2)).trans h0, World.cell?_setCell_same _ _ _ h1, (World.cell?_setCell_other _ _ _ _ (by intro e; injection e with e1; exact hdr e1.symm)).trans hc⟩
  have hkL : (k : Int) < (L : Int) := by omega
  have w3 : IntKind.i64.wrap (k : Int) = (k : Int) := by rw [IntKind.wrap_i64]; omega
  clear h hL hby hcc
  go_enter Try.func47, Try.ntmps47
  go_wp2
  refine wp_region_held_drew (S := fun W => W.cell? ⟨rb, 0, none⟩ = some (.slice (some ⟨db, off, none⟩) L cap) ∧ W.cell? ⟨rb, 1, none⟩ = some (.int .i64 k)) (by kernel_rfl) ⟨h0, h1⟩ (fun hHeld => ?_)
  refine wpAnyH_take (i := 0) (oi := q47a0) (v := ?_) rfl (by kernel_rfl) (by kernel_rfl) (by kernel_rfl) (fun _ _ _ h => h) (Or.inl ⟨by rfl, ?_⟩) hHeld ?_
  rotate_left
  · (intro w hSw; (try dsimp only at hSw); unfold q47a0; go_simp <;> with_reducible rfl)
  try simp only [q47a0, Act.put, List.setIfInBounds_toArray, List.set_cons_zero, List.set_cons_succ]
  refine wpAnyH_take (i := 1) (oi := q47a1) (v := ?_) rfl (by kernel_rfl) (by kernel_rfl) (by kernel_rfl) (fun _ _ _ h => h) (Or.inl ⟨by rfl, ?_⟩) hHeld ?_
  rotate_left
  · (intro w hSw; (try dsimp only at hSw); unfold q47a1; go_simp <;> with_reducible rfl)
  try simp only [q47a1, Act.put, List.setIfInBounds_toArray, List.set_cons_zero, List.set_cons_succ]
  refine wpAnyH_take (i := 2) (oi := q47a2) (v := ?_) rfl (by kernel_rfl) (by kernel_rfl) (by kernel_rfl) (fun _ _ _ h => h) (Or.inl ⟨by rfl, ?_⟩) hHeld ?_
  rotate_left
  · (intro w hSw; (try dsimp only at hSw); unfold q47a2; go_simp <;> with_reducible rfl)
  try simp only [q47a2, Act.put, List.setIfInBounds_toArray, List.set_cons_zero, List.set_cons_succ]
  refine wpAnyH_take (i := 3) (oi := q47a3) (v := ?_) rfl (by kernel_rfl) (by kernel_rfl) (by kernel_rfl) (fun _ _ _ h => h) (Or.inl ⟨by rfl, ?_⟩) hHeld ?_
  rotate_left
  · (intro w hSw; (try dsimp only at hSw); unfold q47a3; go_simp <;> with_reducible rfl)
  try simp only [q47a3, Act.put, List.setIfInBounds_toArray, List.set_cons_zero, List.set_cons_succ]
  refine wpAnyH_take (i := 4) (oi := q47a4) (v := ?_) rfl (by kernel_rfl) (by kernel_rfl) (by kernel_rfl) (fun _ _ _ h => h) (Or.inl ⟨by rfl, ?_⟩) hHeld ?_
  rotate_left
  · (intro w hSw; (try dsimp only at hSw); unfold q47a4; go_simp <;> with_reducible rfl)
  try simp only [q47a4, Act.put, List.setIfInBounds_toArray, List.set_cons_zero, List.set_cons_succ]
  refine wpAnyH_take (i := 5) (oi := q47a5) (v := ?_) rfl (by kernel_rfl) (by kernel_rfl) (by kernel_rfl) (fun _ _ _ h => h) (Or.inl ⟨by rfl, ?_⟩) hHeld ?_
  rotate_left
  · (intro w hSw; (try dsimp only at hSw); unfold q47a5; go_simp <;> with_reducible rfl)
  try simp only [q47a5, Act.put, List.setIfInBounds_toArray, List.set_cons_zero, List.set_cons_succ]
  refine wpAnyH_take (i := 6) (oi := q47a6) (v := ?_) rfl (by kernel_rfl) (by kernel_rfl) (by kernel_rfl) (fun _ _ _ h => h) (Or.inl ⟨by rfl, ?_⟩) hHeld ?_
  rotate_left
  · (intro w hSw; (try dsimp only at hSw); unfold q47a6; go_simp <;> with_reducible rfl)
  try simp only [q47a6, Act.put, List.setIfInBounds_toArray, List.set_cons_zero, List.set_cons_succ]
  refine wpAnyH_take (i := 7) (oi := q47a7) (v := ?_) rfl (by kernel_rfl) (by kernel_rfl) (by kernel_rfl) (fun _ _ _ h => h) (Or.inl ⟨by rfl, ?_⟩) hHeld ?_
  rotate_left
  · (intro w hSw; (try dsimp only at hSw); unfold q47a7; go_simp <;> with_reducible rfl)
  try simp only [q47a7, Act.put, List.setIfInBounds_toArray, List.set_cons_zero, List.set_cons_succ]
  refine wpAnyH_take (i := 8) (oi := q47a8) (v := ?_) rfl (by kernel_rfl) (by kernel_rfl) (by kernel_rfl) (fun _ _ _ h => h) (Or.inl ⟨by rfl, ?_⟩) hHeld ?_
  rotate_left
  · (intro w hSw; (try dsimp only at hSw); unfold q47a8; go_simp <;> with_reducible rfl)
  try simp only [q47a8, Act.put, List.setIfInBounds_toArray, List.set_cons_zero, List.set_cons_succ]
  refine wpAnyH_take (i := 9) (oi := q47a9) (v := ?_) rfl (by kernel_rfl) (by kernel_rfl) (by kernel_rfl) (fun _ _ _ h => h) (Or.inl ⟨by rfl, ?_⟩) hHeld ?_
  rotate_left
  · (intro w hSw; (try dsimp only at hSw); unfold q47a9; go_simp <;> with_reducible rfl)
  try simp only [q47a9, Act.put, List.setIfInBounds_toArray, List.set_cons_zero, List.set_cons_succ]
  refine wpAnyH_done (by kernel_rfl) ?_ _
  clear hHeld
  go_wp2
  refine wp_region_held_drew (S := fun W => W.cell? ⟨rb, 0, none⟩ = some (.slice (some ⟨db, off, none⟩) L cap) ∧ W.cell? ⟨rb, 1, none⟩ = some (.int .i64 ((k : Int) + 1)) ∧ W.cell? ⟨db, off + k, none⟩ = some (.int .u8 c)) (by kernel_rfl) HS5.out (fun hHeld => ?_)
  refine wpAnyH_take (i := 0) (oi := q47b0) (v := ?_) rfl (by kernel_rfl) (by kernel_rfl) (by kernel_rfl) (fun _ _ _ h => h) (Or.inl ⟨by rfl, ?_⟩) hHeld ?_
  rotate_left
  · (intro w hSw; (try dsimp only at hSw); unfold q47b0; go_simp <;> with_reducible rfl)
  try simp only [q47b0, Act.put, List.setIfInBounds_toArray, List.set_cons_zero, List.set_cons_succ]
  refine wpAnyH_take (i := 1) (oi := q47b1) (v := ?_) rfl (by kernel_rfl) (by kernel_rfl) (by kernel_rfl) (fun _ _ _ h => h) (Or.inl ⟨by rfl, ?_⟩) hHeld ?_
  rotate_left
  · (intro w hSw; (try dsimp only at hSw); unfold q47b1; go_simp <;> with_reducible rfl)
  try simp only [q47b1, Act.put, List.setIfInBounds_toArray, List.set_cons_zero, List.set_cons_succ]
  refine wpAnyH_take (i := 2) (oi := q47b2) (v := ?_) rfl (by kernel_rfl) (by kernel_rfl) (by kernel_rfl) (fun _ _ _ h => h) (Or.inl ⟨by rfl, ?_⟩) hHeld ?_
  rotate_left
  · (intro w hSw; (try dsimp only at hSw); unfold q47b2; go_simp <;> with_reducible rfl)
  try simp only [q47b2, Act.put, List.setIfInBounds_toArray, List.set_cons_zero, List.set_cons_succ]
  refine wpAnyH_take (i := 3) (oi := q47b3) (v := ?_) rfl (by kernel_rfl) (by kernel_rfl) (by kernel_rfl) (fun _ _ _ h => h) (Or.inl ⟨by rfl, ?_⟩) hHeld ?_
  rotate_left
  · (intro w hSw; (try dsimp only at hSw); unfold q47b3; go_simp <;> with_reducible rfl)
  try simp only [q47b3, Act.put, List.setIfInBounds_toArray, List.set_cons_zero, List.set_cons_succ]
  refine wpAnyH_take (i := 4) (oi := q47b4) (v := ?_) rfl (by kernel_rfl) (by kernel_rfl) (by kernel_rfl) (fun _ _ _ h => h) (Or.inl ⟨by rfl, ?_⟩) hHeld ?_
  rotate_left
  · (intro w hSw; (try dsimp only at hSw); unfold q47b4; go_simp <;> with_reducible rfl)
  try simp only [q47b4, Act.put, List.setIfInBounds_toArray, List.set_cons_zero, List.set_cons_succ]
  refine wpAnyH_take (i := 5) (oi := q47b5) (v := ?_) rfl (by kernel_rfl) (by kernel_rfl) (by kernel_rfl) (fun _ _ _ h => h) (Or.inl ⟨by rfl, ?_⟩) hHeld ?_
  rotate_left
  · (intro w hSw; (try dsimp only at hSw); unfold q47b5; go_simp <;> with_reducible rfl)
  try simp only [q47b5, Act.put, List.setIfInBounds_toArray, List.set_cons_zero, List.set_cons_succ]
  refine wpAnyH_take (i := 6) (oi := q47b6) (v := ?_) rfl (by kernel_rfl) (by kernel_rfl) (by kernel_rfl) (fun _ _ _ h => h) (Or.inl ⟨by rfl, ?_⟩) hHeld ?_
  rotate_left
  · (intro w hSw; (try dsimp only at hSw); unfold q47b6; go_simp <;> with_reducible rfl)
  try simp only [q47b6, Act.put, List.setIfInBounds_toArray, List.set_cons_zero, List.set_cons_succ]
  refine wpAnyH_take (i := 7) (oi := q47b7) (v := ?_) rfl (by kernel_rfl) (by kernel_rfl) (by kernel_rfl) (fun _ _ _ h => h) (Or.inl ⟨by rfl, ?_⟩) hHeld ?_
  rotate_left
  · (intro w hSw; (try dsimp only at hSw); unfold q47b7; go_simp <;> with_reducible rfl)
  try simp only [q47b7, Act.put, List.setIfInBounds_toArray, List.set_cons_zero, List.set_cons_succ]
  refine wpAnyH_take (i := 8) (oi := q47b8) (v := ?_) rfl (by kernel_rfl) (by kernel_rfl) (by kernel_rfl) (fun _ _ _ h => h) (Or.inl ⟨by rfl, ?_⟩) hHeld ?_
  rotate_left
  · (intro w hSw; (try dsimp only at hSw); unfold q47b8; go_simp <;> with_reducible rfl)
  try simp only [q47b8, Act.put, List.setIfInBounds_toArray, List.set_cons_zero, List.set_cons_succ]
  refine wpAnyH_take (i := 9) (oi := q47b9) (v := ?_) rfl (by kernel_rfl) (by kernel_rfl) (by kernel_rfl) (fun _ _ _ h => h) (Or.inl ⟨by rfl, ?_⟩) hHeld ?_
  rotate_left
  · (intro w hSw; (try dsimp only at hSw); unfold q47b9; go_simp <;> with_reducible rfl)
  try simp only [q47b9, Act.put, List.setIfInBounds_toArray, List.set_cons_zero, List.set_cons_succ]
  refine wpAnyH_take (i := 10) (oi := q47b10) (v := ?_) rfl (by kernel_rfl) (by kernel_rfl) (by kernel_rfl) (fun _ _ _ h => h) (Or.inl ⟨by rfl, ?_⟩) hHeld ?_
  rotate_left
  · (intro w hSw; (try dsimp only at hSw); unfold q47b10; go_simp <;> with_reducible rfl)
  try simp only [q47b10, Act.put, List.setIfInBounds_toArray, List.set_cons_zero, List.set_cons_succ]
  refine wpAnyH_ready (rs := [11]) (by kernel_rfl) (by simp) ?_
  refine AllReadyH.cons (o := q47b11) rfl (fun K hK => ?_) AllReadyH.nil
  rw [if_pos (by rfl)]
  unfold q47b11
  go_simp
  refine hK.out _ _ hHeld (fun hHeld => ?_)
  clear hK K
  try simp only [q47b11, Act.put, List.setIfInBounds_toArray, List.set_cons_zero, List.set_cons_succ]
  refine wpAnyH_done (by kernel_rfl) ?_ _
  clear hHeld
  go_wp2
  go_ret
  obtain ⟨o1, o2⟩ := HF.out _ (show (k : Int) + 1 = ((k + 1 : Nat) : Int) by omega)
  exact ⟨rfl, o1.drew.drew, gdrew (gdrew o2)⟩
end Go.Proofs.Ytkecoohplpbgnaa
