/- chain: the law's examples. -/
import Derived.Test.YtfmngeemhfpeiaaDoorME
import Derived.Test.YtfmngeemhfpeiaaDoorMR
namespace Go.Proofs.YtfmngeemhfpeiaaDoor
open Go.RowKit

theorem LRow.shape {w : World} {B : Nat} {v : Value} {l : List Lk} (h : LRow w B v l) : ∃ a cap, v = .slice a l.length cap ∧ l.length ≤ cap ∧ cap ≤ maxLen := by
  obtain ⟨_, a, cap, h1, h2, h3, _⟩ := h; exact ⟨a, cap, h1, h2, h3⟩
theorem LRow.at {w W : World} {v : Value} {l : List Lk} (h : LRow w w.heap.size v l) (hb : Below w.heap.size w W) : LRow W W.heap.size v l := (h.below hb).mono hb.size
theorem wpList_wanted {P : Program} {ops : Array Oper} {rest : List Oper} {o : Oper} {a : Act} {w : World} {Q : Exit → Act → World → Prop} (hw : Region.wanted o (yielded ops a.tmps) = true) (h : o.wp P a w (wpList P ops Q rest) Q) : wpList P ops Q (o :: rest) a w := by
  unfold wpList
  rw [if_pos hw]
  exact .inl h
theorem one_byte (W : World) (b : UInt8) (k : Int) (hk : k = b.toNat) : BytesAt (W.alloc (.cells #[.int .u8 k] 5 (1, 2))) (W.alloc (.cells #[.int .u8 k] 5 (1, 2))).heap.size (.slice (some ⟨W.heap.size, 0, none⟩) 1 1) [b] := by
  subst hk
  refine ⟨_, 1, rfl, by simp, by unfold maxLen; omega, .inr ⟨W.heap.size, 0, rfl, by simp, fun i hi => ?_⟩⟩
  obtain rfl : i = 0 := by simp at hi; exact hi
  have : (W.alloc (.cells #[.int .u8 b.toNat] 5 (1, 2))).cell? ⟨W.heap.size, 0, none⟩ = some (.int .u8 b.toNat) := by simp only [World.cell?, heap_alloc_new]; rfl
  simpa using this

theorem LRow.shape1 {w : World} {B : Nat} {v : Value} {l : List Lk} (h : LRow w B v l) (hl : l ≠ []) : ∃ b off cap, v = .slice (some ⟨b, off, none⟩) l.length cap ∧ b < B ∧ l.length ≤ cap ∧ cap ≤ maxLen := by
  obtain ⟨_, a, cap, h1, h2, h3, h4⟩ := h
  obtain ⟨b, off, rfl, h5, _⟩ := h4.resolve_left hl
  exact ⟨b, off, cap, h1, h5, h2, h3⟩
theorem wp_build_run {P : Program} {o : Oper} {a : Act} {w : World} {K : Act → World → Prop} {Q : Exit → Act → World → Prop} (t : TypeId) (parts : List (Nat × Operand))
    (ho : o.op = .build t parts.toArray) (vals : List (Nat × Value)) (v : Value) (hv : parts.map (fun p => (p.1, a.eval p.2)) = vals)
    (hrun : (Instr.build t vals.toArray).run P w = .ok v w) (h : K (a.put o.dst v) w) : o.wp P a w K Q := by
  subst hv
  rw [← List.map_toArray] at hrun
  unfold Oper.wp execOp
  simp only [ho, Sem.run_bind, hrun, Result.andThen_ok]
  exact h
theorem LRow.drop1 {w : World} {B n cap b off : Nat} {x : Lk} {l : List Lk} (h : LRow w B (.slice (some ⟨b, off, none⟩) n cap) (x :: l)) : LRow w B (.slice (some ⟨b, off + 35, none⟩) (n - 1) (cap - 1)) l := by
  obtain ⟨h0, a, c, h1, h2, h3, h4⟩ := h
  injection h1 with e1 e2 e3
  subst e1; subst e2; subst e3
  obtain ⟨b', off', e, h5, h6⟩ := h4.resolve_left (by simp)
  injection e with e
  injection e with e1 e2
  subst e1; subst e2
  refine ⟨fun y hy => h0 y (List.mem_cons_of_mem _ hy), _, cap - 1, by simp, by simp at h2; omega, by omega, .inr ⟨b, off + 35, rfl, h5, fun i hi => ?_⟩⟩
  obtain ⟨d, h7, h8⟩ := h6 (i + 1) (by simpa using hi)
  refine ⟨d, ?_, ?_⟩
  · rw [show off + 35 + i * 35 = off + (i + 1) * 35 by omega]; simpa using h7
  · simpa using h8
theorem lrow_one {W : World} {g : Nat} {x : Lk} {d : Value} (hx : x.ok) (hR : W.rangeAt g 0 (lcells x d)) (hg : g < W.heap.size) (hd : BytesAt W W.heap.size d x.data) : LRow W W.heap.size (.slice (some ⟨g, 0, none⟩) 1 1) [x] := by
  refine ⟨fun y hy => by simp only [List.mem_singleton] at hy; rw [hy]; exact hx, _, 1, rfl, by simp, by unfold maxLen; omega, .inr ⟨g, 0, rfl, hg, fun i hi => ?_⟩⟩
  obtain rfl : i = 0 := by simp at hi; exact hi
  exact ⟨d, by simpa using hR, by simpa using hd⟩
def szero : Lk := ⟨0, 1, List.replicate 32 0, []⟩
theorem ok_zero : szero.ok := ⟨by rfl, by unfold K.In64 szero; simp, by unfold K.In64 szero; simp, by decide⟩
theorem built_zero : Tryd.prog.built 55 [(1, .int .i64 1)] = some (lcells szero (.slice none 0 0)).toArray := by kernel_rfl

def c29a0 : Oper := { dst := some 155, op := Go.Op.move (Go.Operand.tmp 1), type := 44, pos := "law.go:30", after := #[], guard := none }
def c29a1 : Oper := { dst := some 156, op := Go.Op.indexAddr 44 (Go.Operand.tmp 155) (Go.Operand.const (Go.Value.int Go.IntKind.i64 0)), type := 0, pos := "law.go:30", after := #[{ on := 0, ground := Go.Ground.data }], guard := none }
def c29a2 : Oper := { dst := some 157, op := Go.Op.fieldAddr 55 (Go.Operand.tmp 156) 2, type := 0, pos := "law.go:30", after := #[{ on := 1, ground := Go.Ground.data }], guard := none }
def c29a3 : Oper := { dst := some 158, op := Go.Op.load 30 (Go.Operand.tmp 157), type := 30, pos := "law.go:30", after := #[{ on := 2, ground := Go.Ground.data }], guard := none }
def c29a4 : Oper := { dst := some 159, op := Go.Op.load 30 (Go.Operand.tmp 20), type := 30, pos := "law.go:30", after := #[], guard := none }
def c29a5 : Oper := { dst := some 160, op := Go.Op.binOp Go.BinOp.eql 30 (Go.Operand.tmp 158) (Go.Operand.tmp 159) 30, type := 4, pos := "law.go:30", after := #[{ on := 3, ground := Go.Ground.data }, { on := 4, ground := Go.Ground.data }], guard := none }
def c29a6 : Oper := { dst := some 161, op := Go.Op.move (Go.Operand.tmp 160), type := 4, pos := "law.go:30", after := #[{ on := 5, ground := Go.Ground.data }], guard := none }
def c29a7 : Oper := { dst := some 162, op := Go.Op.call { callee := Go.Callee.value (Go.Operand.func 33), args := #[Go.Operand.const (Go.Value.slice none 0 0)], argTypes := #[44] }, type := 30, pos := "law.go:30", after := #[{ on := 6, ground := Go.Ground.chain }, { on := 6, ground := Go.Ground.guard }], guard := some (6, true) }
def c29a8 : Oper := { dst := some 163, op := Go.Op.load 30 (Go.Operand.tmp 20), type := 30, pos := "law.go:30", after := #[{ on := 6, ground := Go.Ground.guard }], guard := some (6, true) }
def c29a9 : Oper := { dst := some 164, op := Go.Op.binOp Go.BinOp.eql 30 (Go.Operand.tmp 162) (Go.Operand.tmp 163) 30, type := 4, pos := "law.go:30", after := #[{ on := 7, ground := Go.Ground.data }, { on := 8, ground := Go.Ground.data }, { on := 6, ground := Go.Ground.guard }], guard := some (6, true) }
def c29a10 : Oper := { dst := some 165, op := Go.Op.pick (Go.Operand.tmp 161) (Go.Operand.tmp 164) (Go.Operand.const (Go.Value.bool false)), type := 4, pos := "law.go:30", after := #[{ on := 6, ground := Go.Ground.data }, { on := 9, ground := Go.Ground.data }], guard := none }
def c29a11 : Oper := { dst := some 166, op := Go.Op.move (Go.Operand.tmp 165), type := 4, pos := "law.go:30", after := #[{ on := 10, ground := Go.Ground.data }, { on := 7, ground := Go.Ground.chain }], guard := none }
def c29a12 : Oper := { dst := some 167, op := Go.Op.move (Go.Operand.tmp 1), type := 44, pos := "law.go:30", after := #[{ on := 11, ground := Go.Ground.guard }], guard := some (11, true) }
def c29a13 : Oper := { dst := some 168, op := Go.Op.call { callee := Go.Callee.value (Go.Operand.func 33), args := #[Go.Operand.tmp 167], argTypes := #[44] }, type := 30, pos := "law.go:30", after := #[{ on := 12, ground := Go.Ground.data }, { on := 11, ground := Go.Ground.chain }, { on := 11, ground := Go.Ground.guard }], guard := some (11, true) }
def c29a14 : Oper := { dst := some 169, op := Go.Op.move (Go.Operand.tmp 21), type := 34, pos := "law.go:30", after := #[{ on := 11, ground := Go.Ground.guard }], guard := some (11, true) }
def c29a15 : Oper := { dst := some 170, op := Go.Op.call { callee := Go.Callee.value (Go.Operand.func 28), args := #[Go.Operand.const (Go.Value.string { data := #[108, 105, 110, 107] }), Go.Operand.tmp 169], argTypes := #[9, 34] }, type := 30, pos := "law.go:30", after := #[{ on := 14, ground := Go.Ground.data }, { on := 13, ground := Go.Ground.chain }, { on := 11, ground := Go.Ground.guard }], guard := some (11, true) }
def c29a16 : Oper := { dst := some 171, op := Go.Op.binOp Go.BinOp.eql 30 (Go.Operand.tmp 168) (Go.Operand.tmp 170) 30, type := 4, pos := "law.go:30", after := #[{ on := 13, ground := Go.Ground.data }, { on := 15, ground := Go.Ground.data }, { on := 11, ground := Go.Ground.guard }], guard := some (11, true) }
def c29a17 : Oper := { dst := some 172, op := Go.Op.pick (Go.Operand.tmp 166) (Go.Operand.tmp 171) (Go.Operand.const (Go.Value.bool false)), type := 4, pos := "law.go:30", after := #[{ on := 11, ground := Go.Ground.data }, { on := 16, ground := Go.Ground.data }], guard := none }
def c29a18 : Oper := { dst := some 173, op := Go.Op.move (Go.Operand.tmp 172), type := 4, pos := "law.go:30", after := #[{ on := 17, ground := Go.Ground.data }, { on := 15, ground := Go.Ground.chain }], guard := none }
def c29a19 : Oper := { dst := some 174, op := Go.Op.move (Go.Operand.tmp 3), type := 44, pos := "law.go:30", after := #[{ on := 18, ground := Go.Ground.guard }], guard := some (18, true) }
def c29a20 : Oper := { dst := some 175, op := Go.Op.indexAddr 44 (Go.Operand.tmp 174) (Go.Operand.const (Go.Value.int Go.IntKind.i64 1)), type := 0, pos := "law.go:30", after := #[{ on := 19, ground := Go.Ground.data }, { on := 18, ground := Go.Ground.guard }], guard := some (18, true) }
def c29a21 : Oper := { dst := some 176, op := Go.Op.fieldAddr 55 (Go.Operand.tmp 175) 2, type := 0, pos := "law.go:30", after := #[{ on := 20, ground := Go.Ground.data }, { on := 18, ground := Go.Ground.guard }], guard := some (18, true) }
def c29a22 : Oper := { dst := some 177, op := Go.Op.load 30 (Go.Operand.tmp 176), type := 30, pos := "law.go:30", after := #[{ on := 21, ground := Go.Ground.data }, { on := 18, ground := Go.Ground.guard }], guard := some (18, true) }
def c29a23 : Oper := { dst := some 178, op := Go.Op.move (Go.Operand.tmp 1), type := 44, pos := "law.go:30", after := #[{ on := 18, ground := Go.Ground.guard }], guard := some (18, true) }
def c29a24 : Oper := { dst := some 179, op := Go.Op.call { callee := Go.Callee.value (Go.Operand.func 33), args := #[Go.Operand.tmp 178], argTypes := #[44] }, type := 30, pos := "law.go:30", after := #[{ on := 23, ground := Go.Ground.data }, { on := 18, ground := Go.Ground.chain }, { on := 18, ground := Go.Ground.guard }], guard := some (18, true) }
def c29a25 : Oper := { dst := some 180, op := Go.Op.binOp Go.BinOp.eql 30 (Go.Operand.tmp 177) (Go.Operand.tmp 179) 30, type := 4, pos := "law.go:30", after := #[{ on := 22, ground := Go.Ground.data }, { on := 24, ground := Go.Ground.data }, { on := 18, ground := Go.Ground.guard }], guard := some (18, true) }
def c29a26 : Oper := { dst := some 181, op := Go.Op.pick (Go.Operand.tmp 173) (Go.Operand.tmp 180) (Go.Operand.const (Go.Value.bool false)), type := 4, pos := "law.go:30", after := #[{ on := 18, ground := Go.Ground.data }, { on := 25, ground := Go.Ground.data }], guard := none }
def c29a27 : Oper := { dst := some 182, op := Go.Op.move (Go.Operand.tmp 181), type := 4, pos := "law.go:30", after := #[{ on := 26, ground := Go.Ground.data }, { on := 24, ground := Go.Ground.chain }], guard := none }
def c29a28 : Oper := { dst := some 183, op := Go.Op.move (Go.Operand.tmp 3), type := 44, pos := "law.go:30", after := #[{ on := 27, ground := Go.Ground.guard }], guard := some (27, true) }
def c29a29 : Oper := { dst := some 184, op := Go.Op.indexAddr 44 (Go.Operand.tmp 183) (Go.Operand.const (Go.Value.int Go.IntKind.i64 1)), type := 0, pos := "law.go:30", after := #[{ on := 28, ground := Go.Ground.data }, { on := 27, ground := Go.Ground.guard }], guard := some (27, true) }
def c29a30 : Oper := { dst := some 185, op := Go.Op.fieldAddr 55 (Go.Operand.tmp 184) 1, type := 0, pos := "law.go:30", after := #[{ on := 29, ground := Go.Ground.data }, { on := 27, ground := Go.Ground.guard }], guard := some (27, true) }
def c29a31 : Oper := { dst := some 186, op := Go.Op.load 3 (Go.Operand.tmp 185), type := 3, pos := "law.go:30", after := #[{ on := 30, ground := Go.Ground.data }, { on := 27, ground := Go.Ground.guard }], guard := some (27, true) }
def c29a32 : Oper := { dst := some 187, op := Go.Op.binOp Go.BinOp.eql 3 (Go.Operand.tmp 186) (Go.Operand.const (Go.Value.int Go.IntKind.i64 1)) 3, type := 4, pos := "law.go:30", after := #[{ on := 31, ground := Go.Ground.data }, { on := 27, ground := Go.Ground.guard }], guard := some (27, true) }
def c29a33 : Oper := { dst := some 188, op := Go.Op.pick (Go.Operand.tmp 182) (Go.Operand.tmp 187) (Go.Operand.const (Go.Value.bool false)), type := 4, pos := "law.go:30", after := #[{ on := 27, ground := Go.Ground.data }, { on := 32, ground := Go.Ground.data }], guard := none }
def c29a34 : Oper := { dst := some 189, op := Go.Op.move (Go.Operand.tmp 188), type := 4, pos := "law.go:30", after := #[{ on := 33, ground := Go.Ground.data }, { on := 27, ground := Go.Ground.chain }], guard := none }
def c29a35 : Oper := { dst := some 190, op := Go.Op.move (Go.Operand.tmp 3), type := 44, pos := "law.go:30", after := #[{ on := 34, ground := Go.Ground.guard }], guard := some (34, true) }
def c29a36 : Oper := { dst := some 191, op := Go.Op.indexAddr 44 (Go.Operand.tmp 190) (Go.Operand.const (Go.Value.int Go.IntKind.i64 1)), type := 0, pos := "law.go:30", after := #[{ on := 35, ground := Go.Ground.data }, { on := 34, ground := Go.Ground.guard }], guard := some (34, true) }
def c29a37 : Oper := { dst := some 192, op := Go.Op.fieldAddr 55 (Go.Operand.tmp 191) 3, type := 0, pos := "law.go:30", after := #[{ on := 36, ground := Go.Ground.data }, { on := 34, ground := Go.Ground.guard }], guard := some (34, true) }
def c29a38 : Oper := { dst := some 193, op := Go.Op.load 34 (Go.Operand.tmp 192), type := 34, pos := "law.go:30", after := #[{ on := 37, ground := Go.Ground.data }, { on := 34, ground := Go.Ground.guard }], guard := some (34, true) }
def c29a39 : Oper := { dst := some 194, op := Go.Op.convert 34 9 (Go.Operand.tmp 193), type := 9, pos := "law.go:30", after := #[{ on := 38, ground := Go.Ground.data }, { on := 34, ground := Go.Ground.guard }], guard := some (34, true) }
def c29a40 : Oper := { dst := some 195, op := Go.Op.binOp Go.BinOp.eql 9 (Go.Operand.tmp 194) (Go.Operand.const (Go.Value.string { data := #[121] })) 9, type := 4, pos := "law.go:30", after := #[{ on := 39, ground := Go.Ground.data }, { on := 34, ground := Go.Ground.guard }], guard := some (34, true) }
def c29a41 : Oper := { dst := some 196, op := Go.Op.pick (Go.Operand.tmp 189) (Go.Operand.tmp 195) (Go.Operand.const (Go.Value.bool false)), type := 4, pos := "law.go:30", after := #[{ on := 34, ground := Go.Ground.data }, { on := 40, ground := Go.Ground.data }], guard := none }
def c29a42 : Oper := { dst := some 0, op := Go.Op.assign (Go.Operand.tmp 196), type := 4, pos := "law.go:30", after := #[{ on := 41, ground := Go.Ground.data }, { on := 34, ground := Go.Ground.chain }, { on := 0, ground := Go.Ground.phase }, { on := 1, ground := Go.Ground.phase }, { on := 2, ground := Go.Ground.phase }, { on := 3, ground := Go.Ground.phase }, { on := 4, ground := Go.Ground.phase }, { on := 5, ground := Go.Ground.phase }, { on := 6, ground := Go.Ground.phase }, { on := 7, ground := Go.Ground.phase }, { on := 8, ground := Go.Ground.phase }, { on := 9, ground := Go.Ground.phase }, { on := 10, ground := Go.Ground.phase }, { on := 11, ground := Go.Ground.phase }, { on := 12, ground := Go.Ground.phase }, { on := 13, ground := Go.Ground.phase }, { on := 14, ground := Go.Ground.phase }, { on := 15, ground := Go.Ground.phase }, { on := 16, ground := Go.Ground.phase }, { on := 17, ground := Go.Ground.phase }, { on := 18, ground := Go.Ground.phase }, { on := 19, ground := Go.Ground.phase }, { on := 20, ground := Go.Ground.phase }, { on := 21, ground := Go.Ground.phase }, { on := 22, ground := Go.Ground.phase }, { on := 23, ground := Go.Ground.phase }, { on := 24, ground := Go.Ground.phase }, { on := 25, ground := Go.Ground.phase }, { on := 26, ground := Go.Ground.phase }, { on := 27, ground := Go.Ground.phase }, { on := 28, ground := Go.Ground.phase }, { on := 29, ground := Go.Ground.phase }, { on := 30, ground := Go.Ground.phase }, { on := 31, ground := Go.Ground.phase }, { on := 32, ground := Go.Ground.phase }, { on := 33, ground := Go.Ground.phase }, { on := 34, ground := Go.Ground.phase }, { on := 35, ground := Go.Ground.phase }, { on := 36, ground := Go.Ground.phase }, { on := 37, ground := Go.Ground.phase }, { on := 38, ground := Go.Ground.phase }, { on := 39, ground := Go.Ground.phase }, { on := 40, ground := Go.Ground.phase }, { on := 41, ground := Go.Ground.phase }], guard := none }
theorem wpList_app_run {P : Program} {ops : Array Oper} {rest : List Oper} {o : Oper} {a : Act} {w : World} {Q : Exit → Act → World → Prop} (hgd : o.guard = none) (s x : Operand) (t tx : TypeId)
    (ho : o.op = .call { callee := .builtin .append, args := #[s, x], argTypes := #[t, tx] }) (va vb v : Value) (w' : World) (h1 : a.eval s = va) (h2 : a.eval x = vb)
    (hrun : (Builtin.append_ #[t, tx] o.type #[va, vb]).run P w = .ok v w') (h : wpList P ops Q rest (a.put o.dst v) w') : wpList P ops Q (o :: rest) a w :=
  wpList_plain hgd fun K hK => by
    subst h1; subst h2
    unfold Oper.wp execOp
    simp [ho, resolve, invoke, builtin, hrun, Result.andThen]
    exact hK _ _ h

set_option maxRecDepth 100000 in
set_option maxHeartbeats 8000000 in
theorem sane_any (w : World) (hT : Tab w) (h0 : 0 < w.heap.size) : Calls Tryd.prog 29 #[] w fun e w' => e = .returned (.bool true) ∧ Below w.heap.size w w' := by
  have hadd : ∀ W, Below w.heap.size w W → ∀ v u l n d, K.In64 n → LRow W W.heap.size v l → l.length ≤ 100000 → BytesAt W W.heap.size u d → Calls Tryd.prog 35 #[v, .int .i64 n, u] W fun e w' => ∃ v', e = .returned (.tuple #[v', .int .i64 (addErr l n d)]) ∧ LRow w' w'.heap.size v' (added l n d) ∧ Below W.heap.size W w' :=
    fun W hW v u l n d h1 h2 h3 h4 => add_any W v u l n d h1 h2 h3 h4 (hT.below hW h0) (by have := hW.size; omega)
  have hA := fun W hW v u h1 h2 => hadd W hW v u [] 3 [120] (by unfold K.In64; omega) h1 (by simp) h2
  have hB := fun W hW v u h1 h2 => hadd W hW v u [sx0] 3 [121] (by unfold K.In64; omega) h1 (by simp) h2
  have hC := fun W hW v u h1 h2 => hadd W hW v u [sx0] 3 [122] (by unfold K.In64; omega) h1 (by simp) h2
  have hH := fun W hW v u h1 h2 => hadd W hW v u [] 24 [] (by unfold K.In64; omega) h1 (by simp) h2
  have hI := fun W hW v u h1 h2 => hadd W hW v u [sx0] 4 [] (by unfold K.In64; omega) h1 (by simp) h2
  rw [add_a.1, add_a.2] at hA
  rw [add_b.1, add_b.2] at hB
  rw [add_c.1, add_c.2] at hC
  rw [add_h] at hH
  rw [add_i] at hI
  have hpart : ∀ W, Below w.heap.size w W → ∀ v u l m, LRow W W.heap.size v l → LRow W W.heap.size u m → l.length ≤ 100000 → m.length ≤ 100000 → Calls Tryd.prog 37 #[v, u] W fun e w' => e = .returned (partV l m) ∧ Below W.heap.size W w' :=
    fun W hW v u l m h1 h2 h3 h4 => part_any W v u l m h1 h2 h3 h4 (hT.below hW h0) (by have := hW.size; omega)
  have hP1 := fun W hW v u h1 h2 => hpart W hW v u [sx0, sy] [sx0, sz] h1 h2 (by simp) (by simp)
  have hP2 := fun W hW v u h1 h2 => hpart W hW v u [sx0] [sx0, sy] h1 h2 (by simp) (by simp)
  have hP3 := fun W hW v u h1 h2 => hpart W hW v u [] [sx0] h1 h2 (by simp) (by simp)
  rw [part_bc] at hP1
  rw [part_ab] at hP2
  rw [part_na] at hP3
  have HA := Lib.hid hA
  have HB := Lib.hid hB
  have HC := Lib.hid hC
  have HH := Lib.hid hH
  have HI := Lib.hid hI
  have HP1 := Lib.hid hP1
  have HP2 := Lib.hid hP2
  have HP3 := Lib.hid hP3
  have HT := Lib.hid hT
  clear hadd hA hB hC hH hI hpart hP1 hP2 hP3 hT
  have kc := fun (W : World) (C : Array Value) (n c : Nat) => Lib.run_convert_bytes_const (P := Tryd.prog) W 34 5 C n c Tryd.underlying34 Tryd.underlying5
  go_enter Tryd.func29, Tryd.ntmps29
  go_wp2_with fail
  refine (HA.out _ ?_ _ _ ?_ ?_).mono ?_
  · go_grown
  · exact LRow.nil _ _
  · exact one_byte w 120 _ (by decide)
  rintro e w1 ⟨va, rfl, la1, b1⟩
  have B1 : Below w.heap.size w w1 := ((Below.refl w.heap.size w).alloc (Nat.le_refl _) _).trans (b1.mono (by simp))
  obtain ⟨ab, ao, ac, rfl, _, ha1, ha2⟩ := la1.shape1 (by simp)
  have LA1 := Lib.hid la1
  have BB1 := Lib.hid B1
  clear la1 b1 B1
  go_wp2_with fail
  have hb1' : Below w1.heap.size w1 (w1.alloc (.cells #[.int .u8 121] 5 (1, 2))) := (Below.refl _ _).alloc (Nat.le_refl _) _
  refine (HB.out _ ?_ _ _ ?_ ?_).mono ?_
  · exact BB1.out.trans (hb1'.mono BB1.out.size)
  · exact LA1.out.at hb1'
  · exact one_byte w1 121 _ (by decide)
  rintro e w2 ⟨vb, rfl, lb2, b2⟩
  have c12 : Below w1.heap.size w1 w2 := hb1'.trans (b2.mono hb1'.size)
  have BB2 := Lib.hid (BB1.out.trans (c12.mono BB1.out.size))
  obtain ⟨bb, bo, bc, rfl, _, hb1, hb2⟩ := lb2.shape1 (by simp)
  have LB2 := Lib.hid lb2
  have LA2 := Lib.hid (LA1.out.at c12)
  clear lb2 b2 c12 hb1' LA1
  go_wp2_with fail
  have hb2' : Below w2.heap.size w2 (w2.alloc (.cells #[.int .u8 122] 5 (1, 2))) := (Below.refl _ _).alloc (Nat.le_refl _) _
  refine (HC.out _ ?_ _ _ ?_ ?_).mono ?_
  · exact BB2.out.trans (hb2'.mono BB2.out.size)
  · exact LA2.out.at hb2'
  · exact one_byte w2 122 _ (by decide)
  rintro e w3 ⟨vc, rfl, lc3, b3⟩
  have c23 : Below w2.heap.size w2 w3 := hb2'.trans (b3.mono hb2'.size)
  have BB3 := Lib.hid (BB2.out.trans (c23.mono BB2.out.size))
  obtain ⟨ca, cc, rfl, hc1, hc2⟩ := lc3.shape
  have LC3 := Lib.hid lc3
  have LA3 := Lib.hid (LA2.out.at c23)
  have LB3 := Lib.hid (LB2.out.at c23)
  clear lc3 b3 c23 hb2' LA2 LB2
  go_wp2_with fail
  refine (HH.out _ BB3.out _ _ (LRow.nil _ _) (bytes_nil _ _ _)).mono ?_
  rintro e w4 ⟨vh, rfl, lh, b4⟩
  have BB4 := Lib.hid (BB3.out.trans (b4.mono BB3.out.size))
  have LA4 := Lib.hid (LA3.out.at b4)
  have LB4 := Lib.hid (LB3.out.at b4)
  have LC4 := Lib.hid (LC3.out.at b4)
  obtain ⟨xa, xc, rfl, _, _⟩ := lh.shape
  clear lh b4 LA3 LB3 LC3
  go_wp2_with fail
  refine (HI.out _ BB4.out _ _ LA4.out (bytes_nil _ _ _)).mono ?_
  rintro e w5 ⟨vi, rfl, li, b5⟩
  have BB5 := Lib.hid (BB4.out.trans (b5.mono BB4.out.size))
  have LA5 := Lib.hid (LA4.out.at b5)
  have LB5 := Lib.hid (LB4.out.at b5)
  have LC5 := Lib.hid (LC4.out.at b5)
  obtain ⟨ya, yc, rfl, _, _⟩ := li.shape
  clear li b5 LA4 LB4 LC4
  go_wp2_with fail
  refine (HP1.out _ BB5.out _ _ LB5.out LC5.out).mono ?_
  rintro e w6 ⟨rfl, b6⟩
  have BB6 := Lib.hid (BB5.out.trans (b6.mono BB5.out.size))
  have LA6 := Lib.hid (LA5.out.at b6)
  have LB6 := Lib.hid (LB5.out.at b6)
  clear b6 LA5 LB5 LC5
  go_wp2_with fail
  refine (HP2.out _ BB6.out _ _ LA6.out LB6.out).mono ?_
  rintro e w7 ⟨rfl, b7⟩
  have BB7 := Lib.hid (BB6.out.trans (b7.mono BB6.out.size))
  have LA7 := Lib.hid (LA6.out.at b7)
  have LB7 := Lib.hid (LB6.out.at b7)
  clear b7 LA6 LB6
  go_wp2_with fail
  refine (HP3.out _ BB7.out _ _ (LRow.nil _ _) LA7.out).mono ?_
  rintro e w8 ⟨rfl, b8⟩
  have BB8 := Lib.hid (BB7.out.trans (b8.mono BB7.out.size))
  have LA8 := Lib.hid (LA7.out.at b8)
  have LB8 := Lib.hid (LB7.out.at b8)
  clear b8 LA7 LB7 HA HB HC HH HI HP1 HP2 HP3
  have hk : ∀ W, Below w.heap.size w W → ∀ v l, LRow W W.heap.size v l → l.length ≤ 100000 → Calls Tryd.prog 31 #[v] W fun e w' => e = .returned (.int .i64 (chk l)) ∧ Below W.heap.size W w' :=
    fun W hW v l h1 h2 => check_any W v l h1 h2 (HT.out.below hW h0) (by have := hW.size; omega)
  have hk0 := fun W hW => hk W hW (.slice none 0 0) [] (LRow.nil _ _) (by simp)
  have hk2 := fun W hW v h1 => hk W hW v [sx0, sy] h1 (by simp)
  have hk3 := fun W hW v h1 => hk W hW v [szero] h1 (by simp)
  have hk4 := fun W hW v h1 => hk W hW v [sy] h1 (by simp)
  rw [(chk_iff _).2 Chn.nil] at hk0
  rw [(chk_iff _).2 chn_b] at hk2
  rw [show chk [szero] = 80 from chk_no] at hk3
  rw [chk_tail] at hk4
  have HK0 := Lib.hid hk0
  have HK2 := Lib.hid hk2
  have HK3 := Lib.hid hk3
  have HK4 := Lib.hid hk4
  have hzl : (lcells szero (.slice none 0 0)).length = 35 := by rfl
  have hbu : ∀ W : World, (Instr.build 55 #[(1, .int .i64 1)]).run Tryd.prog W = .ok (.agg (lcells szero (.slice none 0 0)).toArray) W := fun W => run_build W 55 _ _ built_zero
  obtain ⟨zc, hzc⟩ : ∃ zc, lcells szero (.slice none 0 0) = zc := ⟨_, rfl⟩
  rw [hzc] at hzl hbu
  have HZC := Lib.hid hzc
  have HZL := Lib.hid hzl
  have HBU := Lib.hid hbu
  clear hk hk0 hk2 hk3 hk4 hzl hbu hzc kc
  go_upto_region 11 with fail
  go_wp2_with fail
  refine (HK0.out _ BB8.out).mono ?_
  rintro e w9 ⟨rfl, b9⟩
  have BB9 := Lib.hid (BB8.out.trans (b9.mono BB8.out.size))
  have LA9 := Lib.hid (LA8.out.at b9)
  have LB9 := Lib.hid (LB8.out.at b9)
  clear b9 LA8 LB8
  go_wp2_with fail
  refine (HK2.out _ BB9.out _ LB9.out).mono ?_
  rintro e w10 ⟨rfl, b10⟩
  have BB10 := Lib.hid (BB9.out.trans (b10.mono BB9.out.size))
  have LA10 := Lib.hid (LA9.out.at b10)
  have LB10 := Lib.hid (LB9.out.at b10)
  clear b10 LA9 LB9
  go_wp2_with (first
    | (refine wpList_wanted (by rfl) ?_; refine wp_build_run 55 [(1, .const (.int .i64 1))] (by rfl) [(1, .int .i64 1)] _ (by rfl) (HBU.out _) ?_; simp only [Act.put, List.setIfInBounds_toArray, List.set_cons_zero, List.set_cons_succ])
    | (refine wpList_wanted (by rfl) ?_; refine wp_one_link (by rfl) zc (by rfl) HZL.out ?_; intro g11 W11 hB11 hR11; simp only [Act.put, List.setIfInBounds_toArray, List.set_cons_zero, List.set_cons_succ]))
  have hg11 : g11 < W11.heap.size := World.block_lt_of_cell? W11 ⟨g11, 0 + 0, none⟩ (hR11 0 (.int .i64 0) (by rw [← HZC.out]; rfl))
  refine (HK3.out _ (BB10.out.trans (hB11.mono BB10.out.size)) _ (lrow_one ok_zero (d := .slice none 0 0) (by rw [HZC.out]; exact hR11) hg11 (bytes_nil _ _ _))).mono ?_
  rintro e w12 ⟨rfl, b12⟩
  have c12 := hB11.trans (b12.mono hB11.size)
  have BB12 := Lib.hid (BB10.out.trans (c12.mono BB10.out.size))
  have LA12 := Lib.hid (LA10.out.at c12)
  have LB12 := Lib.hid (LB10.out.at c12)
  clear b12 c12 hB11 hR11 hg11 LA10 LB10
  have hbc2 : 2 ≤ bc := by simpa using hb1
  have hbc3 : ¬ bc = 1 := by omega
  have hbc4 : 1 ≤ bc := by omega
  unfold maxLen at hb2
  go_wp2_with fail
  refine (HK4.out _ BB12.out _ LB12.out.drop1).mono ?_
  rintro e w13 ⟨rfl, b13⟩
  have BB13 := Lib.hid (BB12.out.trans (b13.mono BB12.out.size))
  have LA13 := Lib.hid (LA12.out.at b13)
  have LB13 := Lib.hid (LB12.out.at b13)
  clear b13 LA12 LB12
  have htg0 : ∀ W, Below w.heap.size w W → Calls Tryd.prog 28 #[.string { data := #[110, 111, 110, 101] }, .slice none 0 0] W fun e w' => e = .returned (dv (hd [])) ∧ Below W.heap.size W w' := fun W hW => by
    have h := tagged_any W { data := #[110, 111, 110, 101] } (.slice none 0 0) [] ⟨none, 0, rfl, by simp, by unfold maxLen; omega, .inl rfl⟩ (by decide) (by simp) (HT.out.below hW h0) (by have := hW.size; omega)
    exact h
  have hcl := hd_len ([] : List Lk)
  simp only [dv_eq] at htg0
  obtain ⟨cs, hcs⟩ : ∃ cs, cells8 (hd ([] : List Lk)) = cs := ⟨_, rfl⟩
  have ho1 := one_cells8 (hd ([] : List Lk))
  rw [← cells8_len, hcs] at hcl
  rw [hcs] at htg0 ho1
  have HZ : Hid ((Tryd.prog.info? 30).map (·.size) = some cs.length) := by show _ = _; rw [hcl]; exact Tryd.info30
  have HCL := Lib.hid hcl
  have HO := Lib.hid ho1
  have HCS := Lib.hid hcs
  have HTG0 := Lib.hid htg0
  clear hcl ho1 hcs htg0
  go_upto_region 13 with fail
  go_wp2_with fail
  refine (HTG0.out _ BB13.out).mono ?_
  rintro e w14 ⟨rfl, b14⟩
  have BB14 := Lib.hid (BB13.out.trans (b14.mono BB13.out.size))
  have LA14 := Lib.hid (LA13.out.at b14)
  have LB14 := Lib.hid (LB13.out.at b14)
  clear b14 LA13 LB13
  go_upto_region 14 with (first
    | (refine wpList_world (fun W => Below w14.heap.size w14 W ∧ (∃ z : List Value, z.length = 32 ∧ Arr W w14.heap.size z) ∧ w14.heap.size < W.heap.size) ⟨by exact (Below.refl _ _).alloc (Nat.le_refl _) _, ⟨_, by rfl, Arr.new w14 _ 30⟩, by simp⟩ ?_
       rintro W1 ⟨hB1, ⟨z, hz35, hA1⟩, hz1⟩
       refine store_new rfl 30 _ _ (by rfl) w14.heap.size w14.heap.size cs _ (by rfl) (by rfl) hB1 (Nat.le_refl _) hA1 (by rw [HCL.out, hz35]) HZ.out HO.out ?_
       intro w15 hB15 hA15 hz15))
  -- region 14
  obtain ⟨j0, hj0, hy0, hy1, hy2⟩ := info_parts Tryd.infoU8
  have hO1 : (w15.alloc (.cells #[.int .u8 3, .int .u8 4, .int .u8 1, .int .u8 6, .int .u8 1, .int .u8 0, .int .u8 2, .int .u8 32] 5)).ownsRow w15.heap.size 5 1 (.slice (some ⟨w15.heap.size, 0, none⟩) 8 8) 8 [.int .u8 3, .int .u8 4, .int .u8 1, .int .u8 6, .int .u8 1, .int .u8 0, .int .u8 2, .int .u8 32] :=
    World.ownsRow_lit (base := w15.heap.size) w15 #[.int .u8 3, .int .u8 4, .int .u8 1, .int .u8 6, .int .u8 1, .int .u8 0, .int .u8 2, .int .u8 32] 8 (Nat.le_refl _) (by unfold maxLen; omega) rfl
  have hb15 : Below w15.heap.size w15 (w15.alloc (.cells #[.int .u8 3, .int .u8 4, .int .u8 1, .int .u8 6, .int .u8 1, .int .u8 0, .int .u8 2, .int .u8 32] 5)) := (Below.refl _ _).alloc (Nat.le_refl _) _
  have hz15' : w14.heap.size < w15.heap.size := by omega
  obtain ⟨g16, c16, w16, hrun16, hO16, hG16, hat16⟩ := piece_run 34 5 j0 _ 1 1 Tryd.underlying34 hj0 hy0 hy1 hy2 rfl (by omega) hO1 (v := .slice (some ⟨w14.heap.size, 0, none⟩) 32 32) (m := 32) (news := cs) (piece_row (n := 32) (c := 32) ((hA15.below hb15 hz15').at_)) (by rw [HCL.out]) HO.out (by unfold maxLen; omega) (by omega) (by simp) 34
  have hg16 : w15.heap.size ≤ g16 := by rcases hat16 with h | h <;> rw [h] <;> simp
  have hb16 : Below w15.heap.size w15 w16 := hb15.grown hG16 hb15.size (fun k e => by cases e; exact Nat.le_refl _)
  have hO17 : (w16.alloc (.cells #[.int .u8 2, .int .u8 1, .int .u8 120] 5)).ownsRow w15.heap.size 5 1 (.slice (some ⟨g16, 0, none⟩) (8 + 32) c16) (8 + 32) ([.int .u8 3, .int .u8 4, .int .u8 1, .int .u8 6, .int .u8 1, .int .u8 0, .int .u8 2, .int .u8 32] ++ cs) := hO16.alloc _
  have hb17 : Below w15.heap.size w15 (w16.alloc (.cells #[.int .u8 2, .int .u8 1, .int .u8 120] 5)) := hb16.alloc hb16.size _
  obtain ⟨g18, c18, w18, hrun18, hO18, hG18, hat18⟩ := piece_run 34 5 j0 _ 1 1 Tryd.underlying34 hj0 hy0 hy1 hy2 rfl (by omega) hO17 (v := .slice (some ⟨w16.heap.size, 0, none⟩) 3 3) (m := 3) (news := [.int .u8 2, .int .u8 1, .int .u8 120]) (piece_row (n := 3) (c := 3) (Arr.new w16 #[.int .u8 2, .int .u8 1, .int .u8 120] 5).at_) rfl (by decide) (by unfold maxLen; omega) (by omega) (by rw [World.size_alloc]; have := hb16.size; omega) 34
  have hb18 : Below w15.heap.size w15 w18 := hb17.grown hG18 hb17.size (fun k e => by cases e; exact hg16)
  have hcells : ([.int .u8 3, .int .u8 4, .int .u8 1, .int .u8 6, .int .u8 1, .int .u8 0, .int .u8 2, .int .u8 32] ++ cs) ++ [.int .u8 2, .int .u8 1, .int .u8 120] = cells8 (txt sx0) := by
    rw [txt_x0, ← HCS.out]; simp [cells8]
  rw [hcells] at hO18
  have hT18 := own_at hO18
  have hB18 : Below w.heap.size w w18 := (BB14.out.trans (hB15.mono BB14.out.size)).trans (hb18.mono (by have := BB14.out.size; omega))
  have h1418 : Below w14.heap.size w14 w18 := hB15.trans (hb18.mono (by omega))
  have BB18 := Lib.hid hB18
  have LA18 := Lib.hid (LA14.out.at h1418)
  have LB18 := Lib.hid (LB14.out.at h1418)
  have HR16 := Lib.hid hrun16
  have HR18 := Lib.hid hrun18
  have HT18 := Lib.hid hT18
  have HA18 := Lib.hid (hA15.below hb18 hz15')
  have HZ18 : Hid (w14.heap.size < w18.heap.size) := Lib.hid (by have := hb18.size; omega)
  clear hO1 hb15 hrun16 hO16 hG16 hat16 hg16 hb16 hO17 hb17 hrun18 hO18 hG18 hat18 hb18 hcells hT18 hB18 h1418 hA15 hB15 hj0 hy0 hy1 hy2 LA14 LB14
  go_upto_region 15 with (first
    | (at_builtin; refine wpList_app_run rfl (.tmp 150) (.tmp 151) 34 34 rfl _ _ _ _ (by rfl) (by rfl) HR16.out ?_)
    | (at_builtin; refine wpList_app_run rfl (.tmp 152) (.tmp 153) 34 34 rfl _ _ _ _ (by rfl) (by rfl) HR18.out ?_))
  have hca := hd_len [sx0]
  have hq0 := fun (W : World) => dig_eq (hd []) (hd []) (hd_len _) (hd_len _) W
  have hq1 := fun (W : World) => dig_eq (hd [sx0]) (hd [sx0]) (hd_len _) (hd_len _) W
  simp only [decide_true, dv_eq, HCS.out] at hq0 hq1
  have hh0 : ∀ W, Kept w18 W → Calls Tryd.prog 33 #[.slice none 0 0] W fun e w' => e = .returned (dv (hd [])) ∧ Below W.heap.size W w' := fun W hW => by
    have hb := BB18.out.trans (hW.below.mono BB18.out.size)
    exact head_any W _ [] (LRow.nil _ _) (HT.out.below hb h0) (by have := hb.size; omega)
  have hh1 : ∀ W, Kept w18 W → Calls Tryd.prog 33 #[.slice (some ⟨ab, ao, none⟩) 1 ac] W fun e w' => e = .returned (dv (hd [sx0])) ∧ Below W.heap.size W w' := fun W hW => by
    have hb := BB18.out.trans (hW.below.mono BB18.out.size)
    exact head_any W _ [sx0] (LA18.out.at hW.below) (HT.out.below hb h0) (by have := hb.size; omega)
  have htl : ∀ W, Kept w18 W → Calls Tryd.prog 28 #[.string { data := #[108, 105, 110, 107] }, .slice (some ⟨g18, 0, none⟩) 43 c18] W fun e w' => e = .returned (dv (hd [sx0])) ∧ Below W.heap.size W w' := fun W hW => by
    have hb := BB18.out.trans (hW.below.mono BB18.out.size)
    have h := tagged_any W { data := #[108, 105, 110, 107] } (.slice (some ⟨g18, 0, none⟩) 43 c18) (txt sx0) ((HT18.out.below hW.below).mono hW.size) (by decide) (by have := txt_len sx0 ok_x0; have : sx0.data.length = 1 := rfl; omega) (HT.out.below hb h0) (by have := hb.size; omega)
    exact h
  have hpa : ∃ pa, w18.rangeAt ab (ao + 2) pa ∧ pa = cells8 (hd []) ∧ ab < w18.heap.size := by
    obtain ⟨hok, a', c', e1, _, _, h4⟩ := LA18.out
    obtain ⟨b', o', e2, h5, h6⟩ := h4.resolve_left (by simp)
    injection e1 with e1 _ _
    subst e1
    injection e2 with e2; injection e2 with e2 e3
    subst e2; subst e3
    obtain ⟨d, h7, h8⟩ := h6 0 (by simp)
    refine ⟨_, fun j v hj => ?_, rfl, h5⟩
    have := h7 (2 + j) v (lcells_prev _ d (show (hd []).length = 32 from hd_len _) j v hj)
    rw [← this]; congr 2; omega
  have hpb : ∃ pb yd ydc, w18.rangeAt bb (bo + 35 + 2) pb ∧ pb = cells8 (hd [sx0]) ∧ bb < w18.heap.size ∧ w18.cell? ⟨bb, bo + 35 + 1, none⟩ = some (.int .i64 1) ∧ w18.cell? ⟨bb, bo + 35 + 34, none⟩ = some (.slice yd 1 ydc) ∧ BytesAt w18 w18.heap.size (.slice yd 1 ydc) [121] := by
    obtain ⟨hok, a', c', e1, _, _, h4⟩ := LB18.out
    obtain ⟨b', o', e2, h5, h6⟩ := h4.resolve_left (by simp)
    injection e1 with e1 _ _
    subst e1
    injection e2 with e2; injection e2 with e2 e3
    subst e2; subst e3
    obtain ⟨d, h7, h8⟩ := h6 1 (by simp)
    obtain ⟨yd, ydc, rfl, _, _, _⟩ := id h8
    have c1 := h7 1 _ (lcells_1 _ _)
    have c34 := h7 34 _ (lcells_34 _ _ (show (hd [sx0]).length = 32 from hd_len _))
    refine ⟨_, yd, ydc, fun j v hj => ?_, rfl, h5, by simpa [sy] using c1, by simpa [sy] using c34, h8⟩
    have := h7 (2 + j) v (lcells_prev _ _ (show (hd [sx0]).length = 32 from hd_len _) j v hj)
    rw [← this]; congr 2; omega
  obtain ⟨pa, hpa1, hpa2, hpa3⟩ := hpa
  obtain ⟨pb, yd, ydc, hpb1, hpb2, hpb3, hpb4, hpb5, hpb6⟩ := hpb
  rw [HCS.out] at hpa2
  subst hpa2
  obtain ⟨c1, hc1e⟩ : ∃ c1, cells8 (hd [sx0]) = c1 := ⟨_, rfl⟩
  simp only [dv_eq, HCS.out, hc1e] at hq1 hh0 hh1 htl
  rw [hc1e] at hpb2
  subst hpb2
  have HZ1 : Hid ((Tryd.prog.info? 30).map (·.size) = some pb.length) := by show _ = _; rw [← hc1e, cells8_len, hca]; exact Tryd.info30
  have HQ0 := Lib.hid hq0
  have HQ1 := Lib.hid hq1
  have HH0 := Lib.hid hh0
  have HH1 := Lib.hid hh1
  have HTL := Lib.hid htl
  have PA : Hid (∀ W, Kept w18 W → W.rangeAt ab (ao + 2) pa) := Lib.hid fun W hW j v hv => (hW.below.cell (p := ⟨ab, ao + 2 + j, none⟩) hpa3).trans (hpa1 j v hv)
  have PB : Hid (∀ W, Kept w18 W → W.rangeAt bb (bo + 35 + 2) pb) := Lib.hid fun W hW j v hv => (hW.below.cell (p := ⟨bb, bo + 35 + 2 + j, none⟩) hpb3).trans (hpb1 j v hv)
  have PD : Hid (∀ W, Kept w18 W → W.rangeAt w14.heap.size 0 pa) := Lib.hid fun W hW => (HA18.out.below hW.below HZ18.out).at_
  have P31 : Hid (∀ W, Kept w18 W → W.cell? ⟨bb, bo + 35 + 1, none⟩ = some (.int .i64 1)) := Lib.hid fun W hW => (hW.below.cell (p := ⟨bb, bo + 35 + 1, none⟩) hpb3).trans hpb4
  have P38 : Hid (∀ W, Kept w18 W → W.cell? ⟨bb, bo + 35 + 34, none⟩ = some (.slice yd 1 ydc)) := Lib.hid fun W hW => (hW.below.cell (p := ⟨bb, bo + 35 + 34, none⟩) hpb3).trans hpb5
  have P39 : Hid (∀ W, Kept w18 W → (convert 34 9 (.slice yd 1 ydc)).run Tryd.prog W = .ok (.string { data := #[121] }) W) := Lib.hid fun W hW => by
    obtain ⟨a', c', e1, _, _, h4⟩ := (hpb6.below hW.below)
    injection e1 with e1 _ e3
    subst e1; subst e3
    exact conv_bytes W yd [121] ydc (by
      rcases h4 with h | ⟨db, off, h5, _, h6⟩
      · exact .inl h
      · exact .inr ⟨db, off, h5, fun i hi => h6 i hi⟩)
  clear hca hq0 hq1 hh0 hh1 htl hpa1 hpa3 hpb1 hpb3 hpb4 hpb5 hpb6 hc1e HT HO
  refine wp_region_held_drew (S := fun W => Kept w18 W) (by kernel_rfl) (Kept.drew (Kept.refl w18)) (fun hHeld => ?_)
  refine wpAnyH_take (i := 0) (oi := c29a0) (v := ?_) rfl (by kernel_rfl) (by kernel_rfl) (by kernel_rfl) (fun _ _ _ h => h) (Or.inl ⟨by rfl, ?_⟩) hHeld ?_
  rotate_left
  · (intro w hSw; (try dsimp only at hSw); unfold c29a0; go_simp <;> with_reducible rfl)
  try simp only [c29a0, Act.put, List.setIfInBounds_toArray, List.set_cons_zero, List.set_cons_succ]
  refine wpAnyH_take (i := 1) (oi := c29a1) (v := ?_) rfl (by kernel_rfl) (by kernel_rfl) (by kernel_rfl) (fun _ _ _ h => h) (Or.inl ⟨by rfl, ?_⟩) hHeld ?_
  rotate_left
  · (intro w hSw; (try dsimp only at hSw); unfold c29a1; go_simp <;> with_reducible rfl)
  try simp only [c29a1, Act.put, List.setIfInBounds_toArray, List.set_cons_zero, List.set_cons_succ]
  refine wpAnyH_take (i := 2) (oi := c29a2) (v := ?_) rfl (by kernel_rfl) (by kernel_rfl) (by kernel_rfl) (fun _ _ _ h => h) (Or.inl ⟨by rfl, ?_⟩) hHeld ?_
  rotate_left
  · (intro w hSw; (try dsimp only at hSw); unfold c29a2; go_simp <;> with_reducible rfl)
  try simp only [c29a2, Act.put, List.setIfInBounds_toArray, List.set_cons_zero, List.set_cons_succ]
  refine wpAnyH_take (i := 3) (oi := c29a3) rfl (by kernel_rfl) (by kernel_rfl) (by kernel_rfl) (fun _ _ _ h => h) (yieldsIf_load_mid (by rfl) 30 (.tmp 157) (by rfl) ab (ao + 2) (by rfl) pa _ (fun w hSw => PA.out w hSw) Tryd.underlying30 rfl HZ.out) hHeld ?_
  try simp only [c29a3, Act.put, List.setIfInBounds_toArray, List.set_cons_zero, List.set_cons_succ]
  refine wpAnyH_take (i := 4) (oi := c29a4) rfl (by kernel_rfl) (by kernel_rfl) (by kernel_rfl) (fun _ _ _ h => h) (yieldsIf_load_mid (by rfl) 30 (.tmp 20) (by rfl) w14.heap.size (0) (by rfl) pa _ (fun w hSw => PD.out w hSw) Tryd.underlying30 rfl HZ.out) hHeld ?_
  try simp only [c29a4, Act.put, List.setIfInBounds_toArray, List.set_cons_zero, List.set_cons_succ]
  refine wpAnyH_take (i := 5) (oi := c29a5) (v := ?_) rfl (by kernel_rfl) (by kernel_rfl) (by kernel_rfl) (fun _ _ _ h => h) (Or.inl ⟨by rfl, ?_⟩) hHeld ?_
  rotate_left
  · (intro w hSw; have q0 := HQ0.out; have q1 := HQ1.out; have f31 := P31.out w hSw; have f38 := P38.out w hSw; have f39 := P39.out w hSw; unfold c29a5; go_simp <;> with_reducible rfl)
  try simp only [c29a5, Act.put, List.setIfInBounds_toArray, List.set_cons_zero, List.set_cons_succ]
  refine wpAnyH_take (i := 6) (oi := c29a6) (v := ?_) rfl (by kernel_rfl) (by kernel_rfl) (by kernel_rfl) (fun _ _ _ h => h) (Or.inl ⟨by rfl, ?_⟩) hHeld ?_
  rotate_left
  · (intro w hSw; (try dsimp only at hSw); unfold c29a6; go_simp <;> with_reducible rfl)
  try simp only [c29a6, Act.put, List.setIfInBounds_toArray, List.set_cons_zero, List.set_cons_succ]
  refine wpAnyH_take (i := 8) (oi := c29a8) rfl (by kernel_rfl) (by kernel_rfl) (by kernel_rfl) (fun _ _ _ h => h) (yieldsIf_load_mid (by rfl) 30 (.tmp 20) (by rfl) w14.heap.size (0) (by rfl) pa _ (fun w hSw => PD.out w hSw) Tryd.underlying30 rfl HZ.out) hHeld ?_
  try simp only [c29a8, Act.put, List.setIfInBounds_toArray, List.set_cons_zero, List.set_cons_succ]
  refine wpAnyH_ready (rs := [7]) (by kernel_rfl) (by simp) ?_
  refine AllReadyH.cons (o := c29a7) rfl (fun K hK => ?_) AllReadyH.nil
  rw [if_pos (by rfl)]
  unfold c29a7
  go_simp
  (with_reducible refine (HH0.out _ hHeld).mono ?_)
  rintro e W7 ⟨rfl, hB7⟩
  have hS7 := hHeld.next hB7
  go_wp2_with fail
  refine hK.out _ _ hS7 (fun hHeld => ?_)
  clear hK K
  try simp only [c29a7, Act.put, List.setIfInBounds_toArray, List.set_cons_zero, List.set_cons_succ]
  refine wpAnyH_take (i := 9) (oi := c29a9) (v := ?_) rfl (by kernel_rfl) (by kernel_rfl) (by kernel_rfl) (fun _ _ _ h => h) (Or.inl ⟨by rfl, ?_⟩) hHeld ?_
  rotate_left
  · (intro w hSw; have q0 := HQ0.out; have q1 := HQ1.out; have f31 := P31.out w hSw; have f38 := P38.out w hSw; have f39 := P39.out w hSw; unfold c29a9; go_simp <;> with_reducible rfl)
  try simp only [c29a9, Act.put, List.setIfInBounds_toArray, List.set_cons_zero, List.set_cons_succ]
  refine wpAnyH_take (i := 10) (oi := c29a10) (v := ?_) rfl (by kernel_rfl) (by kernel_rfl) (by kernel_rfl) (fun _ _ _ h => h) (Or.inl ⟨by rfl, ?_⟩) hHeld ?_
  rotate_left
  · (intro w hSw; (try dsimp only at hSw); unfold c29a10; go_simp <;> with_reducible rfl)
  try simp only [c29a10, Act.put, List.setIfInBounds_toArray, List.set_cons_zero, List.set_cons_succ]
  refine wpAnyH_take (i := 11) (oi := c29a11) (v := ?_) rfl (by kernel_rfl) (by kernel_rfl) (by kernel_rfl) (fun _ _ _ h => h) (Or.inl ⟨by rfl, ?_⟩) hHeld ?_
  rotate_left
  · (intro w hSw; (try dsimp only at hSw); unfold c29a11; go_simp <;> with_reducible rfl)
  try simp only [c29a11, Act.put, List.setIfInBounds_toArray, List.set_cons_zero, List.set_cons_succ]
  refine wpAnyH_take (i := 12) (oi := c29a12) (v := ?_) rfl (by kernel_rfl) (by kernel_rfl) (by kernel_rfl) (fun _ _ _ h => h) (Or.inl ⟨by rfl, ?_⟩) hHeld ?_
  rotate_left
  · (intro w hSw; (try dsimp only at hSw); unfold c29a12; go_simp <;> with_reducible rfl)
  try simp only [c29a12, Act.put, List.setIfInBounds_toArray, List.set_cons_zero, List.set_cons_succ]
  refine wpAnyH_take (i := 14) (oi := c29a14) (v := ?_) rfl (by kernel_rfl) (by kernel_rfl) (by kernel_rfl) (fun _ _ _ h => h) (Or.inl ⟨by rfl, ?_⟩) hHeld ?_
  rotate_left
  · (intro w hSw; (try dsimp only at hSw); unfold c29a14; go_simp <;> with_reducible rfl)
  try simp only [c29a14, Act.put, List.setIfInBounds_toArray, List.set_cons_zero, List.set_cons_succ]
  refine wpAnyH_ready (rs := [13]) (by kernel_rfl) (by simp) ?_
  refine AllReadyH.cons (o := c29a13) rfl (fun K hK => ?_) AllReadyH.nil
  rw [if_pos (by rfl)]
  unfold c29a13
  go_simp
  (with_reducible refine (HH1.out _ hHeld).mono ?_)
  rintro e W13 ⟨rfl, hB13⟩
  have hS13 := hHeld.next hB13
  go_wp2_with fail
  refine hK.out _ _ hS13 (fun hHeld => ?_)
  clear hK K
  try simp only [c29a13, Act.put, List.setIfInBounds_toArray, List.set_cons_zero, List.set_cons_succ]
  refine wpAnyH_ready (rs := [15]) (by kernel_rfl) (by simp) ?_
  refine AllReadyH.cons (o := c29a15) rfl (fun K hK => ?_) AllReadyH.nil
  rw [if_pos (by rfl)]
  unfold c29a15
  go_simp
  (with_reducible refine (HTL.out _ hHeld).mono ?_)
  rintro e W15 ⟨rfl, hB15⟩
  have hS15 := hHeld.next hB15
  go_wp2_with fail
  refine hK.out _ _ hS15 (fun hHeld => ?_)
  clear hK K
  try simp only [c29a15, Act.put, List.setIfInBounds_toArray, List.set_cons_zero, List.set_cons_succ]
  refine wpAnyH_take (i := 16) (oi := c29a16) (v := ?_) rfl (by kernel_rfl) (by kernel_rfl) (by kernel_rfl) (fun _ _ _ h => h) (Or.inl ⟨by rfl, ?_⟩) hHeld ?_
  rotate_left
  · (intro w hSw; have q0 := HQ0.out; have q1 := HQ1.out; have f31 := P31.out w hSw; have f38 := P38.out w hSw; have f39 := P39.out w hSw; unfold c29a16; go_simp <;> with_reducible rfl)
  try simp only [c29a16, Act.put, List.setIfInBounds_toArray, List.set_cons_zero, List.set_cons_succ]
  refine wpAnyH_take (i := 17) (oi := c29a17) (v := ?_) rfl (by kernel_rfl) (by kernel_rfl) (by kernel_rfl) (fun _ _ _ h => h) (Or.inl ⟨by rfl, ?_⟩) hHeld ?_
  rotate_left
  · (intro w hSw; (try dsimp only at hSw); unfold c29a17; go_simp <;> with_reducible rfl)
  try simp only [c29a17, Act.put, List.setIfInBounds_toArray, List.set_cons_zero, List.set_cons_succ]
  refine wpAnyH_take (i := 18) (oi := c29a18) (v := ?_) rfl (by kernel_rfl) (by kernel_rfl) (by kernel_rfl) (fun _ _ _ h => h) (Or.inl ⟨by rfl, ?_⟩) hHeld ?_
  rotate_left
  · (intro w hSw; (try dsimp only at hSw); unfold c29a18; go_simp <;> with_reducible rfl)
  try simp only [c29a18, Act.put, List.setIfInBounds_toArray, List.set_cons_zero, List.set_cons_succ]
  refine wpAnyH_take (i := 19) (oi := c29a19) (v := ?_) rfl (by kernel_rfl) (by kernel_rfl) (by kernel_rfl) (fun _ _ _ h => h) (Or.inl ⟨by rfl, ?_⟩) hHeld ?_
  rotate_left
  · (intro w hSw; (try dsimp only at hSw); unfold c29a19; go_simp <;> with_reducible rfl)
  try simp only [c29a19, Act.put, List.setIfInBounds_toArray, List.set_cons_zero, List.set_cons_succ]
  refine wpAnyH_take (i := 20) (oi := c29a20) (v := ?_) rfl (by kernel_rfl) (by kernel_rfl) (by kernel_rfl) (fun _ _ _ h => h) (Or.inl ⟨by rfl, ?_⟩) hHeld ?_
  rotate_left
  · (intro w hSw; (try dsimp only at hSw); unfold c29a20; go_simp <;> with_reducible rfl)
  try simp only [c29a20, Act.put, List.setIfInBounds_toArray, List.set_cons_zero, List.set_cons_succ]
  refine wpAnyH_take (i := 21) (oi := c29a21) (v := ?_) rfl (by kernel_rfl) (by kernel_rfl) (by kernel_rfl) (fun _ _ _ h => h) (Or.inl ⟨by rfl, ?_⟩) hHeld ?_
  rotate_left
  · (intro w hSw; (try dsimp only at hSw); unfold c29a21; go_simp <;> with_reducible rfl)
  try simp only [c29a21, Act.put, List.setIfInBounds_toArray, List.set_cons_zero, List.set_cons_succ]
  refine wpAnyH_take (i := 22) (oi := c29a22) rfl (by kernel_rfl) (by kernel_rfl) (by kernel_rfl) (fun _ _ _ h => h) (yieldsIf_load_mid (by rfl) 30 (.tmp 176) (by rfl) bb (bo + 35 + 2) (by rfl) pb _ (fun w hSw => PB.out w hSw) Tryd.underlying30 rfl HZ1.out) hHeld ?_
  try simp only [c29a22, Act.put, List.setIfInBounds_toArray, List.set_cons_zero, List.set_cons_succ]
  refine wpAnyH_take (i := 23) (oi := c29a23) (v := ?_) rfl (by kernel_rfl) (by kernel_rfl) (by kernel_rfl) (fun _ _ _ h => h) (Or.inl ⟨by rfl, ?_⟩) hHeld ?_
  rotate_left
  · (intro w hSw; (try dsimp only at hSw); unfold c29a23; go_simp <;> with_reducible rfl)
  try simp only [c29a23, Act.put, List.setIfInBounds_toArray, List.set_cons_zero, List.set_cons_succ]
  refine wpAnyH_ready (rs := [24]) (by kernel_rfl) (by simp) ?_
  refine AllReadyH.cons (o := c29a24) rfl (fun K hK => ?_) AllReadyH.nil
  rw [if_pos (by rfl)]
  unfold c29a24
  go_simp
  (with_reducible refine (HH1.out _ hHeld).mono ?_)
  rintro e W24 ⟨rfl, hB24⟩
  have hS24 := hHeld.next hB24
  go_wp2_with fail
  refine hK.out _ _ hS24 (fun hHeld => ?_)
  clear hK K
  try simp only [c29a24, Act.put, List.setIfInBounds_toArray, List.set_cons_zero, List.set_cons_succ]
  refine wpAnyH_take (i := 25) (oi := c29a25) (v := ?_) rfl (by kernel_rfl) (by kernel_rfl) (by kernel_rfl) (fun _ _ _ h => h) (Or.inl ⟨by rfl, ?_⟩) hHeld ?_
  rotate_left
  · (intro w hSw; have q0 := HQ0.out; have q1 := HQ1.out; have f31 := P31.out w hSw; have f38 := P38.out w hSw; have f39 := P39.out w hSw; unfold c29a25; go_simp <;> with_reducible rfl)
  try simp only [c29a25, Act.put, List.setIfInBounds_toArray, List.set_cons_zero, List.set_cons_succ]
  refine wpAnyH_take (i := 26) (oi := c29a26) (v := ?_) rfl (by kernel_rfl) (by kernel_rfl) (by kernel_rfl) (fun _ _ _ h => h) (Or.inl ⟨by rfl, ?_⟩) hHeld ?_
  rotate_left
  · (intro w hSw; (try dsimp only at hSw); unfold c29a26; go_simp <;> with_reducible rfl)
  try simp only [c29a26, Act.put, List.setIfInBounds_toArray, List.set_cons_zero, List.set_cons_succ]
  refine wpAnyH_take (i := 27) (oi := c29a27) (v := ?_) rfl (by kernel_rfl) (by kernel_rfl) (by kernel_rfl) (fun _ _ _ h => h) (Or.inl ⟨by rfl, ?_⟩) hHeld ?_
  rotate_left
  · (intro w hSw; (try dsimp only at hSw); unfold c29a27; go_simp <;> with_reducible rfl)
  try simp only [c29a27, Act.put, List.setIfInBounds_toArray, List.set_cons_zero, List.set_cons_succ]
  refine wpAnyH_take (i := 28) (oi := c29a28) (v := ?_) rfl (by kernel_rfl) (by kernel_rfl) (by kernel_rfl) (fun _ _ _ h => h) (Or.inl ⟨by rfl, ?_⟩) hHeld ?_
  rotate_left
  · (intro w hSw; (try dsimp only at hSw); unfold c29a28; go_simp <;> with_reducible rfl)
  try simp only [c29a28, Act.put, List.setIfInBounds_toArray, List.set_cons_zero, List.set_cons_succ]
  refine wpAnyH_take (i := 29) (oi := c29a29) (v := ?_) rfl (by kernel_rfl) (by kernel_rfl) (by kernel_rfl) (fun _ _ _ h => h) (Or.inl ⟨by rfl, ?_⟩) hHeld ?_
  rotate_left
  · (intro w hSw; (try dsimp only at hSw); unfold c29a29; go_simp <;> with_reducible rfl)
  try simp only [c29a29, Act.put, List.setIfInBounds_toArray, List.set_cons_zero, List.set_cons_succ]
  refine wpAnyH_take (i := 30) (oi := c29a30) (v := ?_) rfl (by kernel_rfl) (by kernel_rfl) (by kernel_rfl) (fun _ _ _ h => h) (Or.inl ⟨by rfl, ?_⟩) hHeld ?_
  rotate_left
  · (intro w hSw; (try dsimp only at hSw); unfold c29a30; go_simp <;> with_reducible rfl)
  try simp only [c29a30, Act.put, List.setIfInBounds_toArray, List.set_cons_zero, List.set_cons_succ]
  refine wpAnyH_take (i := 31) (oi := c29a31) (v := ?_) rfl (by kernel_rfl) (by kernel_rfl) (by kernel_rfl) (fun _ _ _ h => h) (Or.inl ⟨by rfl, ?_⟩) hHeld ?_
  rotate_left
  · (intro w hSw; have q0 := HQ0.out; have q1 := HQ1.out; have f31 := P31.out w hSw; have f38 := P38.out w hSw; have f39 := P39.out w hSw; unfold c29a31; go_simp <;> with_reducible rfl)
  try simp only [c29a31, Act.put, List.setIfInBounds_toArray, List.set_cons_zero, List.set_cons_succ]
  refine wpAnyH_take (i := 32) (oi := c29a32) (v := ?_) rfl (by kernel_rfl) (by kernel_rfl) (by kernel_rfl) (fun _ _ _ h => h) (Or.inl ⟨by rfl, ?_⟩) hHeld ?_
  rotate_left
  · (intro w hSw; (try dsimp only at hSw); unfold c29a32; go_simp <;> with_reducible rfl)
  try simp only [c29a32, Act.put, List.setIfInBounds_toArray, List.set_cons_zero, List.set_cons_succ]
  refine wpAnyH_take (i := 33) (oi := c29a33) (v := ?_) rfl (by kernel_rfl) (by kernel_rfl) (by kernel_rfl) (fun _ _ _ h => h) (Or.inl ⟨by rfl, ?_⟩) hHeld ?_
  rotate_left
  · (intro w hSw; (try dsimp only at hSw); unfold c29a33; go_simp <;> with_reducible rfl)
  try simp only [c29a33, Act.put, List.setIfInBounds_toArray, List.set_cons_zero, List.set_cons_succ]
  refine wpAnyH_take (i := 34) (oi := c29a34) (v := ?_) rfl (by kernel_rfl) (by kernel_rfl) (by kernel_rfl) (fun _ _ _ h => h) (Or.inl ⟨by rfl, ?_⟩) hHeld ?_
  rotate_left
  · (intro w hSw; (try dsimp only at hSw); unfold c29a34; go_simp <;> with_reducible rfl)
  try simp only [c29a34, Act.put, List.setIfInBounds_toArray, List.set_cons_zero, List.set_cons_succ]
  refine wpAnyH_take (i := 35) (oi := c29a35) (v := ?_) rfl (by kernel_rfl) (by kernel_rfl) (by kernel_rfl) (fun _ _ _ h => h) (Or.inl ⟨by rfl, ?_⟩) hHeld ?_
  rotate_left
  · (intro w hSw; (try dsimp only at hSw); unfold c29a35; go_simp <;> with_reducible rfl)
  try simp only [c29a35, Act.put, List.setIfInBounds_toArray, List.set_cons_zero, List.set_cons_succ]
  refine wpAnyH_take (i := 36) (oi := c29a36) (v := ?_) rfl (by kernel_rfl) (by kernel_rfl) (by kernel_rfl) (fun _ _ _ h => h) (Or.inl ⟨by rfl, ?_⟩) hHeld ?_
  rotate_left
  · (intro w hSw; (try dsimp only at hSw); unfold c29a36; go_simp <;> with_reducible rfl)
  try simp only [c29a36, Act.put, List.setIfInBounds_toArray, List.set_cons_zero, List.set_cons_succ]
  refine wpAnyH_take (i := 37) (oi := c29a37) (v := ?_) rfl (by kernel_rfl) (by kernel_rfl) (by kernel_rfl) (fun _ _ _ h => h) (Or.inl ⟨by rfl, ?_⟩) hHeld ?_
  rotate_left
  · (intro w hSw; (try dsimp only at hSw); unfold c29a37; go_simp <;> with_reducible rfl)
  try simp only [c29a37, Act.put, List.setIfInBounds_toArray, List.set_cons_zero, List.set_cons_succ]
  refine wpAnyH_take (i := 38) (oi := c29a38) (v := ?_) rfl (by kernel_rfl) (by kernel_rfl) (by kernel_rfl) (fun _ _ _ h => h) (Or.inl ⟨by rfl, ?_⟩) hHeld ?_
  rotate_left
  · (intro w hSw; have q0 := HQ0.out; have q1 := HQ1.out; have f31 := P31.out w hSw; have f38 := P38.out w hSw; have f39 := P39.out w hSw; unfold c29a38; go_simp <;> with_reducible rfl)
  try simp only [c29a38, Act.put, List.setIfInBounds_toArray, List.set_cons_zero, List.set_cons_succ]
  refine wpAnyH_take (i := 39) (oi := c29a39) (v := ?_) rfl (by kernel_rfl) (by kernel_rfl) (by kernel_rfl) (fun _ _ _ h => h) (Or.inl ⟨by rfl, ?_⟩) hHeld ?_
  rotate_left
  · (intro w hSw; have q0 := HQ0.out; have q1 := HQ1.out; have f31 := P31.out w hSw; have f38 := P38.out w hSw; have f39 := P39.out w hSw; unfold c29a39; go_simp <;> with_reducible rfl)
  try simp only [c29a39, Act.put, List.setIfInBounds_toArray, List.set_cons_zero, List.set_cons_succ]
  refine wpAnyH_take (i := 40) (oi := c29a40) (v := ?_) rfl (by kernel_rfl) (by kernel_rfl) (by kernel_rfl) (fun _ _ _ h => h) (Or.inl ⟨by rfl, ?_⟩) hHeld ?_
  rotate_left
  · (intro w hSw; have q0 := HQ0.out; have q1 := HQ1.out; have f31 := P31.out w hSw; have f38 := P38.out w hSw; have f39 := P39.out w hSw; unfold c29a40; go_simp <;> with_reducible rfl)
  try simp only [c29a40, Act.put, List.setIfInBounds_toArray, List.set_cons_zero, List.set_cons_succ]
  refine wpAnyH_take (i := 41) (oi := c29a41) (v := ?_) rfl (by kernel_rfl) (by kernel_rfl) (by kernel_rfl) (fun _ _ _ h => h) (Or.inl ⟨by rfl, ?_⟩) hHeld ?_
  rotate_left
  · (intro w hSw; (try dsimp only at hSw); unfold c29a41; go_simp <;> with_reducible rfl)
  try simp only [c29a41, Act.put, List.setIfInBounds_toArray, List.set_cons_zero, List.set_cons_succ]
  refine wpAnyH_take (i := 42) (oi := c29a42) (v := ?_) rfl (by kernel_rfl) (by kernel_rfl) (by kernel_rfl) (fun _ _ _ h => h) (Or.inl ⟨by rfl, ?_⟩) hHeld ?_
  rotate_left
  · (intro w hSw; (try dsimp only at hSw); unfold c29a42; go_simp <;> with_reducible rfl)
  try simp only [c29a42, Act.put, List.setIfInBounds_toArray, List.set_cons_zero]
  refine wpAnyH_done (by kernel_rfl) ?_ _
  have HST := Lib.hid hHeld
  clear hHeld
  go_wp2
  go_returns
  exact ⟨rfl, BB18.out.trans (HST.out.mono BB18.out.size)⟩
end Go.Proofs.YtfmngeemhfpeiaaDoor
