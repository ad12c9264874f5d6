/- The source in memory: a token more, a place that is refused. -/
import Derived.Test.YtdcdldjbdjochaaDoorNam
import Derived.Deep.AppendLies
import Derived.Deep.RegionHeld3
namespace Go.Proofs.YtdcdldjbdjochaaDoor
open Go.RowKit

def Tok.cells (t : Tok) : List Value := [.int .i64 t.kind, .string (str t.text), .int .i64 t.n, .int .i64 t.at_]
def tcells (l : List Tok) : List Value := l.flatMap Tok.cells
theorem tcells_len (l : List Tok) : (tcells l).length = l.length * 4 := by
  induction l with
  | nil => rfl
  | cons t l ih => rw [tcells, List.flatMap_cons, List.length_append]; rw [tcells] at ih; rw [ih, List.length_cons]; simp [Tok.cells]; omega
theorem tcells_snoc (l : List Tok) (t : Tok) : tcells (l ++ [t]) = tcells l ++ t.cells := by simp [tcells]

theorem gtrans {a b c : World} {row : Option Nat} (h : a.grownBy b row) (k : b.grownBy c row) : a.grownBy c row :=
  ⟨k.os.trans h.os, k.tape.trans h.tape, k.output.trans h.output, Nat.le_trans h.size k.size, fun i hi hne => (k.block i (Nat.lt_of_lt_of_le hi h.size) hne).trans (h.block i hi hne)⟩
theorem frozen?_set (w : World) (a b : Addr) (v : Value) : (w.setCell a v).frozen? b = w.frozen? b := by simp
/-- Below B nothing has turned but the block sb. -/
structure Kep (w w' : World) (sb B : Nat) : Prop where
  os : w'.os = w.os
  tape : w'.tape = w.tape
  output : w'.output = w.output
  size : w.heap.size ≤ w'.heap.size
  block : ∀ b, b < B → b ≠ sb → w'.heap[b]? = w.heap[b]?
theorem Kep.refl (w : World) (sb B : Nat) : Kep w w sb B := ⟨rfl, rfl, rfl, Nat.le_refl _, fun _ _ _ => rfl⟩
theorem Kep.trans {a b c : World} {sb B : Nat} (h : Kep a b sb B) (k : Kep b c sb B) : Kep a c sb B :=
  ⟨k.os.trans h.os, k.tape.trans h.tape, k.output.trans h.output, Nat.le_trans h.size k.size, fun i hi hne => (k.block i hi hne).trans (h.block i hi hne)⟩
theorem Kep.below {w w' : World} {sb B : Nat} (h : Kep w w' sb B) (hs : sb ≤ B) : Below sb w w' := ⟨h.os, h.tape, h.output, h.size, fun b hb => h.block b (by omega) (by omega)⟩
theorem Kep.of_below {w w' : World} {sb B : Nat} (h : Below w.heap.size w w') (hB : B ≤ w.heap.size) : Kep w w' sb B := ⟨h.os, h.tape, h.output, h.size, fun b hb _ => h.block b (by omega)⟩
theorem Kep.drewN {w w' : World} {sb B : Nat} (h : Kep w w' sb B) (n : Nat) : Kep w (w'.drewN n) sb B := ⟨h.os, h.tape, h.output, h.size, h.block⟩

/-- The source at sb: all bytes, the place, the tokens. -/
structure Src (w : World) (sb B : Nat) (bs : List UInt8) (k : Nat) (v : Value) (l : List Tok) : Prop where
  c0 : w.cell? ⟨sb, 0, none⟩ = some (.string (str bs))
  c1 : w.cell? ⟨sb, 1, none⟩ = some (.int .i64 k)
  c2 : w.cell? ⟨sb, 2, none⟩ = some v
  f1 : w.frozen? ⟨sb, 1, none⟩ = false
  f2 : w.frozen? ⟨sb, 2, none⟩ = false
  own : w.ownsRow B 35 4 v l.length (tcells l)
  sB : sb < B
  bl : B ≤ w.heap.size
theorem Src.lt {w : World} {sb B : Nat} {bs : List UInt8} {k : Nat} {v : Value} {l : List Tok} (h : Src w sb B bs k v l) : sb < w.heap.size := Nat.lt_of_lt_of_le h.sB h.bl
theorem Src.below {w w' : World} {sb B : Nat} {bs : List UInt8} {k : Nat} {v : Value} {l : List Tok} (h : Src w sb B bs k v l) (hb : Below w.heap.size w w') : Src w' sb B bs k v l := by
  have hl := h.lt
  refine ⟨(hb.cell (p := ⟨sb, 0, none⟩) hl).trans h.c0, (hb.cell (p := ⟨sb, 1, none⟩) hl).trans h.c1, (hb.cell (p := ⟨sb, 2, none⟩) hl).trans h.c2, (hb.frozen (p := ⟨sb, 1, none⟩) hl).trans h.f1, (hb.frozen (p := ⟨sb, 2, none⟩) hl).trans h.f2, ?_, h.sB, Nat.le_trans h.bl hb.size⟩
  refine h.own.kept (row := none) ⟨hb.os, hb.tape, hb.output, hb.size, fun i hi _ => hb.block i hi⟩ ?_
  by_cases he : v.ownBlock = none
  · exact .inl he
  · exact .inr (by simpa using fun e => he e)
theorem Src.goTo {w : World} {sb B : Nat} {bs : List UInt8} {k : Nat} {v : Value} {l : List Tok} (h : Src w sb B bs k v l) (k' : Nat) (z : Int) (hz : z = k') : Src (w.setCell ⟨sb, 1, none⟩ (.int .i64 z)) sb B bs k' v l := by
  subst hz
  have hc : ∀ i, i ≠ 1 → (w.setCell ⟨sb, 1, none⟩ (.int .i64 k')).cell? ⟨sb, i, none⟩ = w.cell? ⟨sb, i, none⟩ := fun i hi => World.cell?_setCell_other _ _ _ _ (by intro e; injection e with _ e2; exact hi e2.symm)
  refine ⟨(hc _ (by omega)).trans h.c0, World.cell?_setCell_same _ _ _ h.c1, (hc _ (by omega)).trans h.c2, (frozen?_set _ _ _ _).trans h.f1, (frozen?_set _ _ _ _).trans h.f2, ?_, h.sB, by simpa using h.bl⟩
  refine h.own.kept (row := some sb) ⟨rfl, rfl, rfl, by simp, fun i hi hne => Below.heap_setCell _ _ _ _ (by simpa using fun e => hne (by rw [e]))⟩ (.inr fun e => ?_)
  have := (h.own.lt sb e).1
  have := h.sB
  omega

theorem Tryd.info35 : (Tryd.prog.info? 35).map (fun i => (i.zero, i.size, i.bytes)) = some (some (.agg #[.int .i64 0, .string { data := #[] }, .int .i64 0, .int .i64 0]), 4, 40) := by kernel_rfl
theorem info_parts {P : Program} {t : TypeId} {z : Option Value} {s b : Nat} (h : (P.info? t).map (fun i => (i.zero, i.size, i.bytes)) = some (z, s, b)) : ∃ i, P.info? t = some i ∧ i.zero = z ∧ i.size = s ∧ i.bytes = b := by
  cases hi : P.info? t with
  | none => rw [hi] at h; cases h
  | some i =>
    rw [hi] at h
    simp only [Option.map_some, Option.some.injEq, Prod.mk.injEq] at h
    exact ⟨i, rfl, h.1, h.2.1, h.2.2⟩

def Void : Ending := .returned (.tuple #[])
def Pan (k : Nat) : Ending := .panicked [{ v := .iface 42 (.int .i64 k), recovered := false }]

def q60p0 : Oper := { dst := some 8, op := Go.Op.move (Go.Operand.tmp 0), type := 62, pos := "scan.go:59", after := #[], guard := none }
def q60p1 : Oper := { dst := some 9, op := Go.Op.move (Go.Operand.tmp 0), type := 62, pos := "scan.go:59", after := #[], guard := none }
def q60p2 : Oper := { dst := some 10, op := Go.Op.nilCheck (Go.Operand.tmp 9), type := 0, pos := "scan.go:59", after := #[{ on := 1, ground := Go.Ground.data }], guard := none }
def q60p3 : Oper := { dst := some 11, op := Go.Op.fieldAddr 56 (Go.Operand.tmp 10) 2, type := 0, pos := "scan.go:59", after := #[{ on := 2, ground := Go.Ground.data }], guard := none }
def q60p4 : Oper := { dst := some 12, op := Go.Op.load 23 (Go.Operand.tmp 11), type := 23, pos := "scan.go:59", after := #[{ on := 3, ground := Go.Ground.data }], guard := none }
def q60p5 : Oper := { dst := some 13, op := Go.Op.move (Go.Operand.tmp 1), type := 3, pos := "scan.go:59", after := #[], guard := none }
def q60p6 : Oper := { dst := some 14, op := Go.Op.move (Go.Operand.tmp 2), type := 9, pos := "scan.go:59", after := #[], guard := none }
def q60p7 : Oper := { dst := some 15, op := Go.Op.move (Go.Operand.tmp 3), type := 3, pos := "scan.go:59", after := #[], guard := none }
def q60p8 : Oper := { dst := some 16, op := Go.Op.move (Go.Operand.tmp 0), type := 62, pos := "scan.go:59", after := #[], guard := none }
def q60p9 : Oper := { dst := some 17, op := Go.Op.nilCheck (Go.Operand.tmp 16), type := 0, pos := "scan.go:59", after := #[{ on := 8, ground := Go.Ground.data }], guard := none }
def q60p10 : Oper := { dst := some 18, op := Go.Op.fieldAddr 56 (Go.Operand.tmp 17) 1, type := 0, pos := "scan.go:59", after := #[{ on := 9, ground := Go.Ground.data }], guard := none }
def q60p11 : Oper := { dst := some 19, op := Go.Op.load 3 (Go.Operand.tmp 18), type := 3, pos := "scan.go:59", after := #[{ on := 10, ground := Go.Ground.data }], guard := none }
def q60p12 : Oper := { dst := some 20, op := Go.Op.build 35 #[(0, Go.Operand.tmp 13), (1, Go.Operand.tmp 14), (2, Go.Operand.tmp 15), (3, Go.Operand.tmp 19)], type := 35, pos := "scan.go:59", after := #[{ on := 5, ground := Go.Ground.data }, { on := 6, ground := Go.Ground.data }, { on := 7, ground := Go.Ground.data }, { on := 11, ground := Go.Ground.data }], guard := none }
def q60p13 : Oper := { dst := some 21, op := Go.Op.buildSlice 23 1 #[(0, Go.Operand.tmp 20)], type := 23, pos := "scan.go:59", after := #[{ on := 12, ground := Go.Ground.data }], guard := none }
def q60p14 : Oper := { dst := some 22, op := Go.Op.call { callee := Go.Callee.builtin Go.Builtin.append, args := #[Go.Operand.tmp 12, Go.Operand.tmp 21], argTypes := #[23, 23] }, type := 23, pos := "scan.go:59", after := #[{ on := 4, ground := Go.Ground.data }, { on := 13, ground := Go.Ground.data }], guard := none }
def q60p15 : Oper := { dst := some 23, op := Go.Op.nilCheck (Go.Operand.tmp 8), type := 0, pos := "scan.go:59", after := #[{ on := 0, ground := Go.Ground.data }, { on := 0, ground := Go.Ground.phase }, { on := 1, ground := Go.Ground.phase }, { on := 2, ground := Go.Ground.phase }, { on := 3, ground := Go.Ground.phase }, { on := 4, ground := Go.Ground.phase }, { on := 5, ground := Go.Ground.phase }, { on := 6, ground := Go.Ground.phase }, { on := 7, ground := Go.Ground.phase }, { on := 8, ground := Go.Ground.phase }, { on := 9, ground := Go.Ground.phase }, { on := 10, ground := Go.Ground.phase }, { on := 11, ground := Go.Ground.phase }, { on := 12, ground := Go.Ground.phase }, { on := 13, ground := Go.Ground.phase }, { on := 14, ground := Go.Ground.phase }], guard := none }
def q60p16 : Oper := { dst := some 24, op := Go.Op.fieldAddr 56 (Go.Operand.tmp 23) 2, type := 0, pos := "scan.go:59", after := #[{ on := 15, ground := Go.Ground.data }, { on := 0, ground := Go.Ground.phase }, { on := 1, ground := Go.Ground.phase }, { on := 2, ground := Go.Ground.phase }, { on := 3, ground := Go.Ground.phase }, { on := 4, ground := Go.Ground.phase }, { on := 5, ground := Go.Ground.phase }, { on := 6, ground := Go.Ground.phase }, { on := 7, ground := Go.Ground.phase }, { on := 8, ground := Go.Ground.phase }, { on := 9, ground := Go.Ground.phase }, { on := 10, ground := Go.Ground.phase }, { on := 11, ground := Go.Ground.phase }, { on := 12, ground := Go.Ground.phase }, { on := 13, ground := Go.Ground.phase }, { on := 14, ground := Go.Ground.phase }], guard := none }
def q60p17 : Oper := { dst := none, op := Go.Op.store 23 (Go.Operand.tmp 24) (Go.Operand.tmp 22), type := 0, pos := "scan.go:59", after := #[{ on := 16, ground := Go.Ground.data }, { on := 14, ground := Go.Ground.data }, { on := 14, ground := Go.Ground.chain }, { on := 0, ground := Go.Ground.phase }, { on := 1, ground := Go.Ground.phase }, { on := 2, ground := Go.Ground.phase }, { on := 3, ground := Go.Ground.phase }, { on := 4, ground := Go.Ground.phase }, { on := 5, ground := Go.Ground.phase }, { on := 6, ground := Go.Ground.phase }, { on := 7, ground := Go.Ground.phase }, { on := 8, ground := Go.Ground.phase }, { on := 9, ground := Go.Ground.phase }, { on := 10, ground := Go.Ground.phase }, { on := 11, ground := Go.Ground.phase }, { on := 12, ground := Go.Ground.phase }, { on := 13, ground := Go.Ground.phase }, { on := 14, ground := Go.Ground.phase }], guard := none }

set_option maxRecDepth 100000 in
set_option maxHeartbeats 4000000 in
theorem push_any (w : World) (sb B : Nat) (bs : List UInt8) (k : Nat) (v : Value) (l : List Tok) (kd n : Int) (text : List UInt8) (h : Src w sb B bs k v l) (hll : l.length ≤ 1000000) :
    Calls Tryd.prog 60 #[.pointer (some ⟨sb, 0, none⟩), .int .i64 kd, .string (str text), .int .i64 n] w fun e w' => e = Void ∧ ∃ v', Src w' sb B bs k v' (l ++ [⟨kd, text, n, k⟩]) ∧ Kep w w' sb B := by
  obtain ⟨i0, hi, hz0, hz2, hz3⟩ := info_parts Tryd.info35
  obtain ⟨tx, htx⟩ : ∃ tx, str text = tx := ⟨_, rfl⟩
  obtain ⟨m, hm⟩ : ∃ m, l.length = m := ⟨_, rfl⟩
  obtain ⟨xs, hxs⟩ : ∃ xs, tcells l = xs := ⟨_, rfl⟩
  have hO := h.own
  rw [hm, hxs] at hO
  rw [hm] at hll
  have c1 := h.c1
  have c2 := h.c2
  have f2 := h.f2
  have hlt := h.lt
  have hsB := h.sB
  have hbl := h.bl
  have HO := Lib.hid hO
  have HSRC : Hid (∀ gg cap2 (w6 : World), w6.ownsRow B 35 4 (.slice (some ⟨gg, 0, none⟩) (m + 1) cap2) (m + 1) (xs ++ [.int .i64 kd, .string tx, .int .i64 n, .int .i64 k]) → (∀ b, b < B → w6.heap[b]? = w.heap[b]?) → w.heap.size + 1 ≤ w6.heap.size → gg < w6.heap.size →
      Src (w6.setCell ⟨sb, 2, none⟩ (.slice (some ⟨gg, 0, none⟩) (m + 1) cap2)) sb B bs k (.slice (some ⟨gg, 0, none⟩) (m + 1) cap2) (l ++ [⟨kd, text, n, k⟩])) := Lib.hid fun gg cap2 w6 hown hk hs hg => by
    have hc : ∀ i, w6.cell? ⟨sb, i, none⟩ = w.cell? ⟨sb, i, none⟩ := fun i => World.cell?_of_block (a := ⟨sb, i, none⟩) (hk sb hsB)
    have hf : ∀ i, w6.frozen? ⟨sb, i, none⟩ = w.frozen? ⟨sb, i, none⟩ := fun i => World.frozen?_of_block (a := ⟨sb, i, none⟩) (hk sb hsB)
    have ho : ∀ i, i ≠ 2 → (w6.setCell ⟨sb, 2, none⟩ (.slice (some ⟨gg, 0, none⟩) (m + 1) cap2)).cell? ⟨sb, i, none⟩ = w6.cell? ⟨sb, i, none⟩ := fun i hi => World.cell?_setCell_other _ _ _ _ (by intro e; injection e with _ e2; exact hi e2.symm)
    refine ⟨(ho _ (by omega)).trans ((hc _).trans h.c0), (ho _ (by omega)).trans ((hc _).trans h.c1), World.cell?_setCell_same _ _ _ ((hc _).trans h.c2), (frozen?_set _ _ _ _).trans ((hf _).trans h.f1), (frozen?_set _ _ _ _).trans ((hf _).trans h.f2), ?_, hsB, by simp; omega⟩
    rw [List.length_append, hm, tcells_snoc, hxs]
    show World.ownsRow _ B 35 4 _ (m + 1) (xs ++ [.int .i64 kd, .string (str text), .int .i64 n, .int .i64 k])
    rw [htx]
    refine hown.kept (row := some sb) ⟨rfl, rfl, rfl, by simp, fun i hi hne => Below.heap_setCell _ _ _ _ (by simpa using fun e => hne (by rw [e]))⟩ (.inr fun e => ?_)
    have := (hown.lt sb e).1
    omega
  have HKEP : Hid (∀ gg cap2 (w6 : World), (∀ b, b < B → w6.heap[b]? = w.heap[b]?) → w.heap.size + 1 ≤ w6.heap.size → w6.os = w.os → w6.tape = w.tape → w6.output = w.output → Kep w (w6.setCell ⟨sb, 2, none⟩ (.slice (some ⟨gg, 0, none⟩) (m + 1) cap2)) sb B) := Lib.hid fun gg cap2 w6 hk hs h1 h2 h3 =>
    ⟨h1, h2, h3, by simp; omega, fun b hb hne => (Below.heap_setCell _ _ _ _ hne).trans (hk b hb)⟩
  rw [htx]
  clear h hO htx hm hxs
  go_enter Tryd.func60, Tryd.ntmps60
  go_wp2
  refine wp_region_held_drew (S := fun W => W.cell? ⟨sb, 1, none⟩ = some (.int .i64 k)) (by kernel_rfl) c1 (fun hHeld => ?_)
  refine wpAnyH_take (i := 0) (oi := q60p0) (v := ?_) rfl (by kernel_rfl) (by kernel_rfl) (by kernel_rfl) (fun _ _ _ h => h) (Or.inl ⟨by rfl, ?_⟩) hHeld ?_
  rotate_left
  · (intro w hSw; (try dsimp only at hSw); unfold q60p0; go_simp <;> with_reducible rfl)
  try simp only [q60p0, Act.put, List.setIfInBounds_toArray, List.set_cons_zero, List.set_cons_succ]
  refine wpAnyH_take (i := 1) (oi := q60p1) (v := ?_) rfl (by kernel_rfl) (by kernel_rfl) (by kernel_rfl) (fun _ _ _ h => h) (Or.inl ⟨by rfl, ?_⟩) hHeld ?_
  rotate_left
  · (intro w hSw; (try dsimp only at hSw); unfold q60p1; go_simp <;> with_reducible rfl)
  try simp only [q60p1, Act.put, List.setIfInBounds_toArray, List.set_cons_zero, List.set_cons_succ]
  refine wpAnyH_take (i := 2) (oi := q60p2) (v := ?_) rfl (by kernel_rfl) (by kernel_rfl) (by kernel_rfl) (fun _ _ _ h => h) (Or.inl ⟨by rfl, ?_⟩) hHeld ?_
  rotate_left
  · (intro w hSw; (try dsimp only at hSw); unfold q60p2; go_simp <;> with_reducible rfl)
  try simp only [q60p2, Act.put, List.setIfInBounds_toArray, List.set_cons_zero, List.set_cons_succ]
  refine wpAnyH_take (i := 3) (oi := q60p3) (v := ?_) rfl (by kernel_rfl) (by kernel_rfl) (by kernel_rfl) (fun _ _ _ h => h) (Or.inl ⟨by rfl, ?_⟩) hHeld ?_
  rotate_left
  · (intro w hSw; (try dsimp only at hSw); unfold q60p3; go_simp <;> with_reducible rfl)
  try simp only [q60p3, Act.put, List.setIfInBounds_toArray, List.set_cons_zero, List.set_cons_succ]
  refine wpAnyH_take (i := 5) (oi := q60p5) (v := ?_) rfl (by kernel_rfl) (by kernel_rfl) (by kernel_rfl) (fun _ _ _ h => h) (Or.inl ⟨by rfl, ?_⟩) hHeld ?_
  rotate_left
  · (intro w hSw; (try dsimp only at hSw); unfold q60p5; go_simp <;> with_reducible rfl)
  try simp only [q60p5, Act.put, List.setIfInBounds_toArray, List.set_cons_zero, List.set_cons_succ]
  refine wpAnyH_take (i := 6) (oi := q60p6) (v := ?_) rfl (by kernel_rfl) (by kernel_rfl) (by kernel_rfl) (fun _ _ _ h => h) (Or.inl ⟨by rfl, ?_⟩) hHeld ?_
  rotate_left
  · (intro w hSw; (try dsimp only at hSw); unfold q60p6; go_simp <;> with_reducible rfl)
  try simp only [q60p6, Act.put, List.setIfInBounds_toArray, List.set_cons_zero, List.set_cons_succ]
  refine wpAnyH_take (i := 7) (oi := q60p7) (v := ?_) rfl (by kernel_rfl) (by kernel_rfl) (by kernel_rfl) (fun _ _ _ h => h) (Or.inl ⟨by rfl, ?_⟩) hHeld ?_
  rotate_left
  · (intro w hSw; (try dsimp only at hSw); unfold q60p7; go_simp <;> with_reducible rfl)
  try simp only [q60p7, Act.put, List.setIfInBounds_toArray, List.set_cons_zero, List.set_cons_succ]
  refine wpAnyH_take (i := 8) (oi := q60p8) (v := ?_) rfl (by kernel_rfl) (by kernel_rfl) (by kernel_rfl) (fun _ _ _ h => h) (Or.inl ⟨by rfl, ?_⟩) hHeld ?_
  rotate_left
  · (intro w hSw; (try dsimp only at hSw); unfold q60p8; go_simp <;> with_reducible rfl)
  try simp only [q60p8, Act.put, List.setIfInBounds_toArray, List.set_cons_zero, List.set_cons_succ]
  refine wpAnyH_take (i := 9) (oi := q60p9) (v := ?_) rfl (by kernel_rfl) (by kernel_rfl) (by kernel_rfl) (fun _ _ _ h => h) (Or.inl ⟨by rfl, ?_⟩) hHeld ?_
  rotate_left
  · (intro w hSw; (try dsimp only at hSw); unfold q60p9; go_simp <;> with_reducible rfl)
  try simp only [q60p9, Act.put, List.setIfInBounds_toArray, List.set_cons_zero, List.set_cons_succ]
  refine wpAnyH_take (i := 10) (oi := q60p10) (v := ?_) rfl (by kernel_rfl) (by kernel_rfl) (by kernel_rfl) (fun _ _ _ h => h) (Or.inl ⟨by rfl, ?_⟩) hHeld ?_
  rotate_left
  · (intro w hSw; (try dsimp only at hSw); unfold q60p10; go_simp <;> with_reducible rfl)
  try simp only [q60p10, Act.put, List.setIfInBounds_toArray, List.set_cons_zero, List.set_cons_succ]
  refine wpAnyH_take (i := 11) (oi := q60p11) (v := ?_) rfl (by kernel_rfl) (by kernel_rfl) (by kernel_rfl) (fun _ _ _ h => h) (Or.inl ⟨by rfl, ?_⟩) hHeld ?_
  rotate_left
  · (intro w hSw; (try dsimp only at hSw); unfold q60p11; go_simp <;> with_reducible rfl)
  try simp only [q60p11, Act.put, List.setIfInBounds_toArray, List.set_cons_zero, List.set_cons_succ]
  refine wpAnyH_take (i := 12) (oi := q60p12) (v := ?_) rfl (by kernel_rfl) (by kernel_rfl) (by kernel_rfl) (fun _ _ _ h => h) (Or.inl ⟨by rfl, ?_⟩) hHeld ?_
  rotate_left
  · (intro w hSw; (try dsimp only at hSw); unfold q60p12; go_simp <;> with_reducible rfl)
  try simp only [q60p12, Act.put, List.setIfInBounds_toArray, List.set_cons_zero, List.set_cons_succ]
  refine wpAnyH_ready (rs := [4, 13]) (by kernel_rfl) (by simp) ?_
  refine AllReadyH.cons (o := q60p4) rfl (fun K hK => ?_) (AllReadyH.cons (o := q60p13) rfl (fun K hK => ?_) AllReadyH.nil)
  · skip
    rw [if_pos (by rfl)]
    unfold q60p4
    go_simp
    refine hK.out _ _ hHeld (fun hHeld => ?_)
    clear hK K
    try simp only [q60p4, Act.put, List.setIfInBounds_toArray, List.set_cons_zero, List.set_cons_succ]
    refine wpAnyH_ready (rs := [13]) (by kernel_rfl) (by simp) ?_
    refine AllReadyH.cons (o := q60p13) rfl (fun K hK => ?_) AllReadyH.nil
    rw [if_pos (by rfl)]
    unfold q60p13
    go_simp
    have hS13 : (w.alloc (Obj.cells #[.int .i64 kd, .string tx, .int .i64 n, .int .i64 k] 35)).cell? ⟨sb, 1, none⟩ = some (.int .i64 k) := (World.cell?_alloc_lt w _ ⟨sb, 1, none⟩ hlt).trans c1
    have hc2a : (w.alloc (Obj.cells #[.int .i64 kd, .string tx, .int .i64 n, .int .i64 k] 35)).cell? ⟨sb, 2, none⟩ = some v := (World.cell?_alloc_lt w _ ⟨sb, 2, none⟩ hlt).trans c2
    refine hK.out _ _ hS13 (fun hHeld => ?_)
    clear hK K
    try simp only [q60p13, Act.put, List.setIfInBounds_toArray, List.set_cons_zero, List.set_cons_succ]
    refine wpAnyH_ready (rs := [14]) (by kernel_rfl) (by simp) ?_
    refine AllReadyH.cons (o := q60p14) rfl (fun K hK => ?_) AllReadyH.nil
    refine step_append_lies _ rfl (.tmp 12) (.tmp 21) 23 rfl B 35 i0 _ 4 40 Tryd.underlying23 hi hz0 hz2 hz3 rfl (by omega) v m xs (by rfl) (HO.out.alloc _) ⟨w.heap.size, 0, none⟩ 1 1 [.int .i64 kd, .string tx, .int .i64 n, .int .i64 k] (by rfl) rfl (World.news_of_block (cs := #[.int .i64 kd, .string tx, .int .i64 n, .int .i64 k]) (t := 35) (fr := (0, 0)) (heap_alloc_new w _)) (by simp [Value.oneCell']) (by omega) (by unfold maxLen; omega) (by omega) (by simp; omega) (w.heap.size + 1) (by simp) ?_
    intro gg cap2 w6 hown6 hgr6 hat6 hlt6
    have hs6 : w.heap.size + 1 ≤ w6.heap.size := by have := hgr6.size; simpa using this
    have hk6 : ∀ b, b < B → w6.heap[b]? = w.heap[b]? := fun b hb => (hgr6.block b (by simp; omega) (fun e => by have := (HO.out.lt b e.symm).1; omega)).trans (Below.heap_alloc _ _ _ (by omega))
    have hS14 : w6.cell? ⟨sb, 1, none⟩ = some (.int .i64 k) := (World.cell?_of_block (a := ⟨sb, 1, none⟩) (hk6 sb hsB)).trans c1
    have hc6 : w6.cell? ⟨sb, 2, none⟩ = some v := (World.cell?_of_block (a := ⟨sb, 2, none⟩) (hk6 sb hsB)).trans c2
    have hf6 : w6.frozen? ⟨sb, 2, none⟩ = false := (World.frozen?_of_block (a := ⟨sb, 2, none⟩) (hk6 sb hsB)).trans f2
    refine hK.out _ _ hS14 (fun hHeld => ?_)
    clear hK K
    try simp only [q60p14, Act.put, List.setIfInBounds_toArray, List.set_cons_zero, List.set_cons_succ]
    refine wpAnyH_take (i := 15) (oi := q60p15) (v := ?_) rfl (by kernel_rfl) (by kernel_rfl) (by kernel_rfl) (fun _ _ _ h => h) (Or.inl ⟨by rfl, ?_⟩) hHeld ?_
    rotate_left
    · (intro w hSw; (try dsimp only at hSw); unfold q60p15; go_simp <;> with_reducible rfl)
    try simp only [q60p15, Act.put, List.setIfInBounds_toArray, List.set_cons_zero, List.set_cons_succ]
    refine wpAnyH_take (i := 16) (oi := q60p16) (v := ?_) rfl (by kernel_rfl) (by kernel_rfl) (by kernel_rfl) (fun _ _ _ h => h) (Or.inl ⟨by rfl, ?_⟩) hHeld ?_
    rotate_left
    · (intro w hSw; (try dsimp only at hSw); unfold q60p16; go_simp <;> with_reducible rfl)
    try simp only [q60p16, Act.put, List.setIfInBounds_toArray, List.set_cons_zero, List.set_cons_succ]
    refine wpAnyH_ready (rs := [17]) (by kernel_rfl) (by simp) ?_
    refine AllReadyH.cons (o := q60p17) rfl (fun K hK => ?_) AllReadyH.nil
    rw [if_pos (by rfl)]
    unfold q60p17
    go_simp
    have hS17 : (w6.setCell ⟨sb, 2, none⟩ (.slice (some ⟨gg, 0, none⟩) (m + 1) cap2)).cell? ⟨sb, 1, none⟩ = some (.int .i64 k) := (World.cell?_setCell_other _ _ _ _ (by intro e; injection e with _ e2; cases e2)).trans hHeld
    refine hK.out _ _ hS17 (fun hHeld => ?_)
    clear hK K
    try simp only [q60p17, Act.put]
    refine wpAnyH_done (by kernel_rfl) ?_ _
    clear hHeld
    go_wp2
    go_end0
    refine ⟨rfl, .slice (some ⟨gg, 0, none⟩) (m + 1) cap2, ?_, ?_⟩
    · exact HSRC.out gg cap2 w6 hown6 hk6 hs6 hlt6
    · exact HKEP.out gg cap2 w6 hk6 hs6 hgr6.os hgr6.tape hgr6.output
  · skip
    rw [if_pos (by rfl)]
    unfold q60p13
    go_simp
    have hS13 : (w.alloc (Obj.cells #[.int .i64 kd, .string tx, .int .i64 n, .int .i64 k] 35)).cell? ⟨sb, 1, none⟩ = some (.int .i64 k) := (World.cell?_alloc_lt w _ ⟨sb, 1, none⟩ hlt).trans c1
    have hc2a : (w.alloc (Obj.cells #[.int .i64 kd, .string tx, .int .i64 n, .int .i64 k] 35)).cell? ⟨sb, 2, none⟩ = some v := (World.cell?_alloc_lt w _ ⟨sb, 2, none⟩ hlt).trans c2
    refine hK.out _ _ hS13 (fun hHeld => ?_)
    clear hK K
    try simp only [q60p13, Act.put, List.setIfInBounds_toArray, List.set_cons_zero, List.set_cons_succ]
    refine wpAnyH_ready (rs := [4]) (by kernel_rfl) (by simp) ?_
    refine AllReadyH.cons (o := q60p4) rfl (fun K hK => ?_) AllReadyH.nil
    rw [if_pos (by rfl)]
    unfold q60p4
    go_simp
    refine hK.out _ _ hHeld (fun hHeld => ?_)
    clear hK K
    try simp only [q60p4, Act.put, List.setIfInBounds_toArray, List.set_cons_zero, List.set_cons_succ]
    refine wpAnyH_ready (rs := [14]) (by kernel_rfl) (by simp) ?_
    refine AllReadyH.cons (o := q60p14) rfl (fun K hK => ?_) AllReadyH.nil
    refine step_append_lies _ rfl (.tmp 12) (.tmp 21) 23 rfl B 35 i0 _ 4 40 Tryd.underlying23 hi hz0 hz2 hz3 rfl (by omega) v m xs (by rfl) (HO.out.alloc _) ⟨w.heap.size, 0, none⟩ 1 1 [.int .i64 kd, .string tx, .int .i64 n, .int .i64 k] (by rfl) rfl (World.news_of_block (cs := #[.int .i64 kd, .string tx, .int .i64 n, .int .i64 k]) (t := 35) (fr := (0, 0)) (heap_alloc_new w _)) (by simp [Value.oneCell']) (by omega) (by unfold maxLen; omega) (by omega) (by simp; omega) (w.heap.size + 1) (by simp) ?_
    intro gg cap2 w6 hown6 hgr6 hat6 hlt6
    have hs6 : w.heap.size + 1 ≤ w6.heap.size := by have := hgr6.size; simpa using this
    have hk6 : ∀ b, b < B → w6.heap[b]? = w.heap[b]? := fun b hb => (hgr6.block b (by simp; omega) (fun e => by have := (HO.out.lt b e.symm).1; omega)).trans (Below.heap_alloc _ _ _ (by omega))
    have hS14 : w6.cell? ⟨sb, 1, none⟩ = some (.int .i64 k) := (World.cell?_of_block (a := ⟨sb, 1, none⟩) (hk6 sb hsB)).trans c1
    have hc6 : w6.cell? ⟨sb, 2, none⟩ = some v := (World.cell?_of_block (a := ⟨sb, 2, none⟩) (hk6 sb hsB)).trans c2
    have hf6 : w6.frozen? ⟨sb, 2, none⟩ = false := (World.frozen?_of_block (a := ⟨sb, 2, none⟩) (hk6 sb hsB)).trans f2
    refine hK.out _ _ hS14 (fun hHeld => ?_)
    clear hK K
    try simp only [q60p14, Act.put, List.setIfInBounds_toArray, List.set_cons_zero, List.set_cons_succ]
    refine wpAnyH_take (i := 15) (oi := q60p15) (v := ?_) rfl (by kernel_rfl) (by kernel_rfl) (by kernel_rfl) (fun _ _ _ h => h) (Or.inl ⟨by rfl, ?_⟩) hHeld ?_
    rotate_left
    · (intro w hSw; (try dsimp only at hSw); unfold q60p15; go_simp <;> with_reducible rfl)
    try simp only [q60p15, Act.put, List.setIfInBounds_toArray, List.set_cons_zero, List.set_cons_succ]
    refine wpAnyH_take (i := 16) (oi := q60p16) (v := ?_) rfl (by kernel_rfl) (by kernel_rfl) (by kernel_rfl) (fun _ _ _ h => h) (Or.inl ⟨by rfl, ?_⟩) hHeld ?_
    rotate_left
    · (intro w hSw; (try dsimp only at hSw); unfold q60p16; go_simp <;> with_reducible rfl)
    try simp only [q60p16, Act.put, List.setIfInBounds_toArray, List.set_cons_zero, List.set_cons_succ]
    refine wpAnyH_ready (rs := [17]) (by kernel_rfl) (by simp) ?_
    refine AllReadyH.cons (o := q60p17) rfl (fun K hK => ?_) AllReadyH.nil
    rw [if_pos (by rfl)]
    unfold q60p17
    go_simp
    have hS17 : (w6.setCell ⟨sb, 2, none⟩ (.slice (some ⟨gg, 0, none⟩) (m + 1) cap2)).cell? ⟨sb, 1, none⟩ = some (.int .i64 k) := (World.cell?_setCell_other _ _ _ _ (by intro e; injection e with _ e2; cases e2)).trans hHeld
    refine hK.out _ _ hS17 (fun hHeld => ?_)
    clear hK K
    try simp only [q60p17, Act.put]
    refine wpAnyH_done (by kernel_rfl) ?_ _
    clear hHeld
    go_wp2
    go_end0
    refine ⟨rfl, .slice (some ⟨gg, 0, none⟩) (m + 1) cap2, ?_, ?_⟩
    · exact HSRC.out gg cap2 w6 hown6 hk6 hs6 hlt6
    · exact HKEP.out gg cap2 w6 hk6 hs6 hgr6.os hgr6.tape hgr6.output

end Go.Proofs.YtdcdldjbdjochaaDoor
