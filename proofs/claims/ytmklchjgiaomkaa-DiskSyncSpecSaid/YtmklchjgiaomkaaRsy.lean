/- Sync of the reference. -/
import Derived.Test.YtmklchjgiaomkaaRnw
import Derived.Test.YtmklchjgiaomkaaRwr
import Derived.Test.YtmklchjgiaomkaaSyn
import Derived.Deep.Cut
namespace Go.Proofs.Ytmklchjgiaomkaa
open Go.RowKit

theorem wp_build0 {o : Oper} {a : Act} {W : World} {K : Act → World → Prop} {Q : Exit → Act → World → Prop} (t e : TypeId) (ho : o.op = .buildSlice t 0 (List.toArray [])) (ht : Try.prog.underlying t = some (.slice e)) {sz by_ : Nat} {z : Value} (hi : (Try.prog.info? e).map (fun i => (i.zero, i.size, i.bytes)) = some (some z, sz, by_))
    (h : ∀ g W', W.grownBy W' none → W.heap.size ≤ g → g < W'.heap.size → (∀ base, base ≤ W.heap.size → W'.ownsRow base e sz (.slice (some ⟨g, 0, none⟩) 0 0) 0 []) → K (a.put o.dst (.slice (some ⟨g, 0, none⟩) 0 0)) W') : o.wp Try.prog a W K Q := by
  obtain ⟨i, hi1, hz0, hz1, hz2⟩ := info_parts hi
  have hn : (newRow e #[]).run Try.prog W = .ok ⟨W.heap.size, 0, none⟩ (W.alloc (.cells #[] e)) := rfl
  have hrun : (Instr.buildSlice t 0 #[]).run Try.prog W = .ok (.slice (some ⟨W.heap.size, 0, none⟩) 0 0) (W.alloc (.cells #[] e)) := by
    simp [Instr.buildSlice, run_underlying ht, sizeOf, typeInfo, hi1, Instr.fill]
    rw [show (Array.map (fun _ => (default : Value)) (Array.range 0)) = #[] by simp, hn]
    rfl
  have hk := h _ _ (World.grownBy_alloc W _ none) (Nat.le_refl _) (by simp) fun base hb => World.ownsRow_made (base := base) W #[] 0 hb (by unfold maxLen; omega) (by simp)
  unfold Oper.wp execOp
  simp [ho, hrun]
  exact hk
theorem Try.info25 : (Try.prog.info? 25).map (fun i => (i.zero, i.size)) = some (some (.agg #[.slice none 0 0, .slice none 0 0, .int .i64 0, .bool false]), 4) := by kernel_rfl
theorem wp_alloc25 {o : Oper} {a : Act} {W : World} {K : Act → World → Prop} {Q : Exit → Act → World → Prop} (ho : o.op = .alloc 25)
    (h : ∀ x W', W.grownBy W' none → W.heap.size ≤ x → x < W'.heap.size → Arr W' x [.slice none 0 0, .slice none 0 0, .int .i64 0, .bool false] → K (a.put o.dst (.pointer (some ⟨x, 0, none⟩))) W') : o.wp Try.prog a W K Q := by
  obtain ⟨i, hi, hz⟩ := Option.map_eq_some_iff.1 Try.info25
  simp only [Prod.mk.injEq] at hz
  have hrun : (Instr.alloc 25 true (.tuple #[])).run Try.prog W = .ok (.pointer (some ⟨W.heap.size, 0, none⟩)) (W.alloc (.cells #[.slice none 0 0, .slice none 0 0, .int .i64 0, .bool false] 25)) := by
    have hn : ∀ C, (newRow 25 C).run Try.prog W = .ok ⟨W.heap.size, 0, none⟩ (W.alloc (.cells C 25)) := fun _ => rfl
    simp [Instr.alloc, zeroValue, typeInfo, newVar, hi, hz.1, hn, Value.cells]
  have hk := h _ _ (World.grownBy_alloc W (.cells #[.slice none 0 0, .slice none 0 0, .int .i64 0, .bool false] 25) none) (Nat.le_refl _) (by simp) (Arr.new W #[.slice none 0 0, .slice none 0 0, .int .i64 0, .bool false] 25)
  unfold Oper.wp execOp
  simp only [ho, Sem.run_bind, hrun, Result.andThen_ok]
  exact hk
theorem wp_st25 {o : Oper} {a : Act} {W : World} {K : Act → World → Prop} {Q : Exit → Act → World → Prop} (x y : Operand) (ho : o.op = .store 25 x y) (b : Nat) (c0 c1 c2 c3 : Value) (old : List Value) (hx : a.eval x = .pointer (some ⟨b, 0, none⟩)) (hy : a.eval y = .agg #[c0, c1, c2, c3]) (hA : Arr W b old) (hl : 4 = old.length)
    (h1 : [c0, c1, c2, c3].all (·.oneCell') = true) (h : ∀ W', W.grownBy W' (some b) → Arr W' b [c0, c1, c2, c3] → K (a.put o.dst undef) W') : o.wp Try.prog a W K Q := by
  refine wp_store_mid 25 x y ho b 0 #[c0, c1, c2, c3] hx hy (by show W.there b 0 4; rw [hl]; exact hA.there) Try.size25 (by simpa using h1) ?_
  exact h _ (grown_setCells _ _ _) (hA.stored hl)
theorem wp_piece (t e : TypeId) {o : Oper} {a : Act} {W : World} {K : Act → World → Prop} {Q : Exit → Act → World → Prop} (sl x : Operand) (ho : o.op = .call { callee := .builtin .append, args := #[sl, x], argTypes := #[t, t] }) (ht : Try.prog.underlying t = some (.slice e)) {sz by_ : Nat} {z : Value} (hi : (Try.prog.info? e).map (fun i => (i.zero, i.size, i.bytes)) = some (some z, sz, by_)) (hzs : z.cells.size = sz) (hsz : 0 < sz)
    {base g n cap : Nat} {xs : List Value} (hs : a.eval sl = .slice (some ⟨g, 0, none⟩) n cap) (hown : W.ownsRow base e sz (.slice (some ⟨g, 0, none⟩) n cap) n xs) {v : Value} {m : Nat} {news : List Value} (hx : a.eval x = v) (hv : Piece W v m news) (hl : news.length = m * sz) (h1 : ∀ u ∈ news, u.oneCell' = true)
    (h63 : n + m ≤ maxLen) (hbytes : (n + m) * by_ ≤ 140737488355328) (hbase : base ≤ W.heap.size) (N : Nat) (hN : n + m = N) (ys : List Value) (hys : xs ++ news = ys)
    (h : ∀ g' cap' W', W'.ownsRow base e sz (.slice (some ⟨g', 0, none⟩) N cap') N ys → W.grownBy W' (some g) → (g' = g ∨ g' = W.heap.size) → K (a.put o.dst (.slice (some ⟨g', 0, none⟩) N cap')) W') : o.wp Try.prog a W K Q := by
  subst hN; subst hys
  obtain ⟨i, hi1, hz0, hz1, hz2⟩ := info_parts hi
  obtain ⟨g', cap', w', hr, h2, h3, h4⟩ := piece_run t e i z sz by_ ht hi1 hz0 hz1 hz2 hzs hsz hown hv hl h1 h63 hbytes hbase o.type
  unfold Oper.wp execOp
  simp only [ho, resolve, invoke, builtin, Sem.run_bind, Sem.run_pure, Result.andThen_ok, List.map_toArray, List.map_cons, List.map_nil, hs, hx, hr]
  exact h _ _ _ h2 h3 h4

/-- Blocks where the bytes of its sectors lie. -/
def Pq (w w1 : World) (x g b : Nat) : Prop := b < w.heap.size ∨ (w1.heap.size ≤ b ∧ b ≠ x ∧ b ≠ g)
/-- The new disk of Sync: its block, its row. -/
structure R7 (w w1 : World) (k : Nat) (left : Int) (l : List By) (stp : Bool) (x g cap : Nat) (W : World) : Prop where
  ne : g ≠ x
  gle : w1.heap.size ≤ g
  xle : w1.heap.size ≤ x
  glt : g < W.heap.size
  xlt : x < W.heap.size
  kc : k ≤ cap
  cm : cap ≤ maxLen
  xs : Arr W x [.slice (some ⟨g, 0, none⟩) k cap, .slice none 0 0, .int .i64 left, .bool stp]
  gs : ∃ cs, Arr W g cs ∧ secCells W (Pq w w1 x g) l cs
  bel : Below w1.heap.size w1 W

theorem R7.drew {w w1 : World} {k : Nat} {left : Int} {l : List By} {stp : Bool} {x g cap : Nat} {W : World} (h : R7 w w1 k left l stp x g cap W) : R7 w w1 k left l stp x g cap W.drew := by
  obtain ⟨h1, h2, h3, h4, h5, h6, h7, h8, ⟨cs, h9, h10⟩, h11⟩ := h
  exact ⟨h1, h2, h3, h4, h5, h6, h7, h8.drew, ⟨cs, h9.drew, h10.keep (fun _ _ _ => rfl) (fun _ h _ => h) (Nat.le_refl _)⟩, h11.drew⟩
theorem R7.fin {w w1 : World} {k : Nat} {left : Int} {l : List By} {stp : Bool} {x g cap : Nat} {W Wm W' : World} (h : R7 w w1 k left l stp x g cap W) (hl : l.length = k) (hB : Below w.heap.size w w1) (ho : w.heap.size + 1 < w1.heap.size)
    (hG : W.grownBy Wm (some x)) (hG' : Wm.grownBy W' (some (w.heap.size + 1))) (lf : Int) (st' : Bool) (h64 : In64 lf) : DkAt W' W'.heap.size (.agg #[.slice (some ⟨g, 0, none⟩) k cap, .slice none 0 0, .int .i64 lf, .bool st']) ⟨l, [], lf, st'⟩ ∧ Below w.heap.size w W' := by
  obtain ⟨h1, h2, h3, h4, h5, h6, h7, h8, ⟨cs, h9, h10⟩, h11⟩ := h
  have s1 := hG.size
  have s2 := hG'.size
  have hw1 := hB.size
  have hblk : ∀ b, Pq w w1 x g b → b < W.heap.size → W'.heap[b]? = W.heap[b]? := fun b hb hl => (hG'.block b (by omega) (by unfold Pq at hb; simp; omega)).trans (hG.block b hl (by unfold Pq at hb; simp; omega))
  have hA := (h9.moved hG h4 (by simp; omega)).moved hG' (by omega) (by simp; omega)
  refine ⟨⟨h64, _, _, rfl, (h10.keep (Q := fun _ => True) hblk (fun _ _ _ => trivial) (by omega)).at hA (by omega) hl h6 h7, pen_nil _ _ _⟩, ?_⟩
  have hb := hB.trans (h11.mono hB.size)
  exact below_grow (below_grow hb hG (fun q e => by cases e; have := hB.size; omega) (by have := hb.size; omega)) hG' (fun q e => by cases e; omega) (by have := hb.size; omega)
theorem tear_parts {a b : By} : tear a b = b.take 64 ++ a.drop 64 := rfl
theorem drop_at {w : World} {P : Nat → Prop} {c : Nat} {a : Option Addr} {b : By} (h : BytesOn w P (.slice a 128 c) b) (hb : b.length = 128) : ∃ db off, a = some ⟨db, off, none⟩ ∧ P db ∧ db < w.heap.size ∧ 128 ≤ c ∧ BytesIn w db (off + 64) (b.drop 64) := by
  obtain ⟨a', c', e, h1, h2, h3⟩ := h
  injection e with e1 e2 e3
  subst e1; subst e3
  rcases h3 with h3 | ⟨db, off, h4, h5, h6, h7⟩
  · subst h3; simp at hb
  · refine ⟨db, off, h4, h5, h6, by omega, fun i hi => ?_⟩
    rw [List.length_drop] at hi
    rw [List.getElem_drop, show off + 64 + i = off + (64 + i) by omega]
    exact h7 (64 + i) (by omega)
def q24a0 : Oper := { dst := some 32, op := Go.Op.buildSlice 22 0 #[], type := 22, pos := "ref.go:81", after := #[], guard := none }
def q24a1 : Oper := { dst := some 33, op := Go.Op.fieldAddr 25 (Go.Operand.tmp 1) 0, type := 0, pos := "ref.go:81", after := #[], guard := none }
def q24a2 : Oper := { dst := some 34, op := Go.Op.load 22 (Go.Operand.tmp 33), type := 22, pos := "ref.go:81", after := #[{ on := 1, ground := Go.Ground.data }], guard := none }
def q24a3 : Oper := { dst := some 35, op := Go.Op.call { callee := Go.Callee.builtin Go.Builtin.append, args := #[Go.Operand.tmp 32, Go.Operand.tmp 34], argTypes := #[22, 22] }, type := 22, pos := "ref.go:81", after := #[{ on := 0, ground := Go.Ground.data }, { on := 2, ground := Go.Ground.data }], guard := none }
def q24a4 : Oper := { dst := some 36, op := Go.Op.fieldAddr 25 (Go.Operand.tmp 1) 2, type := 0, pos := "ref.go:81", after := #[], guard := none }
def q24a5 : Oper := { dst := some 37, op := Go.Op.load 3 (Go.Operand.tmp 36), type := 3, pos := "ref.go:81", after := #[{ on := 4, ground := Go.Ground.data }], guard := none }
def q24a6 : Oper := { dst := some 38, op := Go.Op.build 25 #[(0, Go.Operand.tmp 35), (2, Go.Operand.tmp 37)], type := 25, pos := "ref.go:81", after := #[{ on := 3, ground := Go.Ground.data }, { on := 5, ground := Go.Ground.data }], guard := none }
def q24a7 : Oper := { dst := some 6, op := Go.Op.alloc 25, type := 0, pos := "ref.go:81", after := #[], guard := none }
def q24a8 : Oper := { dst := none, op := Go.Op.store 25 (Go.Operand.tmp 6) (Go.Operand.tmp 38), type := 0, pos := "ref.go:81", after := #[{ on := 7, ground := Go.Ground.data }, { on := 6, ground := Go.Ground.data }, { on := 3, ground := Go.Ground.chain }, { on := 0, ground := Go.Ground.phase }, { on := 1, ground := Go.Ground.phase }, { on := 2, ground := Go.Ground.phase }, { on := 3, ground := Go.Ground.phase }, { on := 4, ground := Go.Ground.phase }, { on := 5, ground := Go.Ground.phase }, { on := 6, ground := Go.Ground.phase }, { on := 7, ground := Go.Ground.phase }], guard := none }
def q24b0 : Oper := { dst := some 44, op := Go.Op.fieldAddr 25 (Go.Operand.tmp 6) 0, type := 0, pos := "ref.go:83", after := #[], guard := none }
def q24b1 : Oper := { dst := some 45, op := Go.Op.load 22 (Go.Operand.tmp 44), type := 22, pos := "ref.go:83", after := #[{ on := 0, ground := Go.Ground.data }], guard := none }
def q24b2 : Oper := { dst := some 46, op := Go.Op.fieldAddr 25 (Go.Operand.tmp 1) 1, type := 0, pos := "ref.go:83", after := #[], guard := none }
def q24b3 : Oper := { dst := some 47, op := Go.Op.load 23 (Go.Operand.tmp 46), type := 23, pos := "ref.go:83", after := #[{ on := 2, ground := Go.Ground.data }], guard := none }
def q24b4 : Oper := { dst := some 48, op := Go.Op.move (Go.Operand.tmp 7), type := 3, pos := "ref.go:83", after := #[], guard := none }
def q24b5 : Oper := { dst := some 49, op := Go.Op.indexAddr 23 (Go.Operand.tmp 47) (Go.Operand.tmp 48), type := 0, pos := "ref.go:83", after := #[{ on := 3, ground := Go.Ground.data }, { on := 4, ground := Go.Ground.data }], guard := none }
def q24b6 : Oper := { dst := some 50, op := Go.Op.fieldAddr 54 (Go.Operand.tmp 49) 0, type := 0, pos := "ref.go:83", after := #[{ on := 5, ground := Go.Ground.data }], guard := none }
def q24b7 : Oper := { dst := some 51, op := Go.Op.load 3 (Go.Operand.tmp 50), type := 3, pos := "ref.go:83", after := #[{ on := 6, ground := Go.Ground.data }], guard := none }
def q24b8 : Oper := { dst := some 52, op := Go.Op.fieldAddr 25 (Go.Operand.tmp 1) 1, type := 0, pos := "ref.go:83", after := #[], guard := none }
def q24b9 : Oper := { dst := some 53, op := Go.Op.load 23 (Go.Operand.tmp 52), type := 23, pos := "ref.go:83", after := #[{ on := 8, ground := Go.Ground.data }], guard := none }
def q24b10 : Oper := { dst := some 54, op := Go.Op.move (Go.Operand.tmp 7), type := 3, pos := "ref.go:83", after := #[], guard := none }
def q24b11 : Oper := { dst := some 55, op := Go.Op.indexAddr 23 (Go.Operand.tmp 53) (Go.Operand.tmp 54), type := 0, pos := "ref.go:83", after := #[{ on := 9, ground := Go.Ground.data }, { on := 10, ground := Go.Ground.data }], guard := none }
def q24b12 : Oper := { dst := some 56, op := Go.Op.fieldAddr 54 (Go.Operand.tmp 55) 1, type := 0, pos := "ref.go:83", after := #[{ on := 11, ground := Go.Ground.data }], guard := none }
def q24b13 : Oper := { dst := some 57, op := Go.Op.load 35 (Go.Operand.tmp 56), type := 35, pos := "ref.go:83", after := #[{ on := 12, ground := Go.Ground.data }], guard := none }
def q24b14 : Oper := { dst := some 58, op := Go.Op.indexAddr 22 (Go.Operand.tmp 45) (Go.Operand.tmp 51), type := 0, pos := "ref.go:83", after := #[{ on := 1, ground := Go.Ground.data }, { on := 7, ground := Go.Ground.data }, { on := 0, ground := Go.Ground.phase }, { on := 1, ground := Go.Ground.phase }, { on := 2, ground := Go.Ground.phase }, { on := 3, ground := Go.Ground.phase }, { on := 4, ground := Go.Ground.phase }, { on := 5, ground := Go.Ground.phase }, { on := 6, ground := Go.Ground.phase }, { on := 7, ground := Go.Ground.phase }, { on := 8, ground := Go.Ground.phase }, { on := 9, ground := Go.Ground.phase }, { on := 10, ground := Go.Ground.phase }, { on := 11, ground := Go.Ground.phase }, { on := 12, ground := Go.Ground.phase }, { on := 13, ground := Go.Ground.phase }], guard := none }
def q24b15 : Oper := { dst := none, op := Go.Op.store 35 (Go.Operand.tmp 58) (Go.Operand.tmp 57), type := 0, pos := "ref.go:83", after := #[{ on := 14, ground := Go.Ground.data }, { on := 13, ground := Go.Ground.data }, { on := 0, ground := Go.Ground.phase }, { on := 1, ground := Go.Ground.phase }, { on := 2, ground := Go.Ground.phase }, { on := 3, ground := Go.Ground.phase }, { on := 4, ground := Go.Ground.phase }, { on := 5, ground := Go.Ground.phase }, { on := 6, ground := Go.Ground.phase }, { on := 7, ground := Go.Ground.phase }, { on := 8, ground := Go.Ground.phase }, { on := 9, ground := Go.Ground.phase }, { on := 10, ground := Go.Ground.phase }, { on := 11, ground := Go.Ground.phase }, { on := 12, ground := Go.Ground.phase }, { on := 13, ground := Go.Ground.phase }], guard := none }
def q24d0 : Oper := { dst := some 65, op := Go.Op.fieldAddr 25 (Go.Operand.tmp 6) 0, type := 0, pos := "ref.go:87", after := #[], guard := none }
def q24d1 : Oper := { dst := some 66, op := Go.Op.load 22 (Go.Operand.tmp 65), type := 22, pos := "ref.go:87", after := #[{ on := 0, ground := Go.Ground.data }], guard := none }
def q24d2 : Oper := { dst := some 67, op := Go.Op.fieldAddr 54 (Go.Operand.tmp 8) 0, type := 0, pos := "ref.go:87", after := #[], guard := none }
def q24d3 : Oper := { dst := some 68, op := Go.Op.load 3 (Go.Operand.tmp 67), type := 3, pos := "ref.go:87", after := #[{ on := 2, ground := Go.Ground.data }], guard := none }
def q24d4 : Oper := { dst := some 69, op := Go.Op.buildSlice 35 0 #[], type := 35, pos := "ref.go:87", after := #[], guard := none }
def q24d5 : Oper := { dst := some 70, op := Go.Op.fieldAddr 54 (Go.Operand.tmp 8) 1, type := 0, pos := "ref.go:87", after := #[], guard := none }
def q24d6 : Oper := { dst := some 71, op := Go.Op.load 35 (Go.Operand.tmp 70), type := 35, pos := "ref.go:87", after := #[{ on := 5, ground := Go.Ground.data }], guard := none }
def q24d7 : Oper := { dst := some 72, op := Go.Op.slice 35 (Go.Operand.tmp 71) none (some (Go.Operand.const (Go.Value.int Go.IntKind.i64 64))) none, type := 35, pos := "ref.go:87", after := #[{ on := 6, ground := Go.Ground.data }], guard := none }
def q24d8 : Oper := { dst := some 73, op := Go.Op.call { callee := Go.Callee.builtin Go.Builtin.append, args := #[Go.Operand.tmp 69, Go.Operand.tmp 72], argTypes := #[35, 35] }, type := 35, pos := "ref.go:87", after := #[{ on := 4, ground := Go.Ground.data }, { on := 7, ground := Go.Ground.data }], guard := none }
def q24d9 : Oper := { dst := some 74, op := Go.Op.fieldAddr 25 (Go.Operand.tmp 6) 0, type := 0, pos := "ref.go:87", after := #[], guard := none }
def q24d10 : Oper := { dst := some 75, op := Go.Op.load 22 (Go.Operand.tmp 74), type := 22, pos := "ref.go:87", after := #[{ on := 9, ground := Go.Ground.data }], guard := none }
def q24d11 : Oper := { dst := some 76, op := Go.Op.fieldAddr 54 (Go.Operand.tmp 8) 0, type := 0, pos := "ref.go:87", after := #[], guard := none }
def q24d12 : Oper := { dst := some 77, op := Go.Op.load 3 (Go.Operand.tmp 76), type := 3, pos := "ref.go:87", after := #[{ on := 11, ground := Go.Ground.data }], guard := none }
def q24d13 : Oper := { dst := some 78, op := Go.Op.indexAddr 22 (Go.Operand.tmp 75) (Go.Operand.tmp 77), type := 0, pos := "ref.go:87", after := #[{ on := 10, ground := Go.Ground.data }, { on := 12, ground := Go.Ground.data }], guard := none }
def q24d14 : Oper := { dst := some 79, op := Go.Op.load 35 (Go.Operand.tmp 78), type := 35, pos := "ref.go:87", after := #[{ on := 13, ground := Go.Ground.data }], guard := none }
def q24d15 : Oper := { dst := some 80, op := Go.Op.slice 35 (Go.Operand.tmp 79) (some (Go.Operand.const (Go.Value.int Go.IntKind.i64 64))) none none, type := 35, pos := "ref.go:87", after := #[{ on := 14, ground := Go.Ground.data }], guard := none }
def q24d16 : Oper := { dst := some 81, op := Go.Op.call { callee := Go.Callee.builtin Go.Builtin.append, args := #[Go.Operand.tmp 73, Go.Operand.tmp 80], argTypes := #[35, 35] }, type := 35, pos := "ref.go:87", after := #[{ on := 8, ground := Go.Ground.data }, { on := 15, ground := Go.Ground.data }, { on := 8, ground := Go.Ground.chain }], guard := none }
def q24d17 : Oper := { dst := some 82, op := Go.Op.indexAddr 22 (Go.Operand.tmp 66) (Go.Operand.tmp 68), type := 0, pos := "ref.go:87", after := #[{ on := 1, ground := Go.Ground.data }, { on := 3, ground := Go.Ground.data }, { on := 0, ground := Go.Ground.phase }, { on := 1, ground := Go.Ground.phase }, { on := 2, ground := Go.Ground.phase }, { on := 3, ground := Go.Ground.phase }, { on := 4, ground := Go.Ground.phase }, { on := 5, ground := Go.Ground.phase }, { on := 6, ground := Go.Ground.phase }, { on := 7, ground := Go.Ground.phase }, { on := 8, ground := Go.Ground.phase }, { on := 9, ground := Go.Ground.phase }, { on := 10, ground := Go.Ground.phase }, { on := 11, ground := Go.Ground.phase }, { on := 12, ground := Go.Ground.phase }, { on := 13, ground := Go.Ground.phase }, { on := 14, ground := Go.Ground.phase }, { on := 15, ground := Go.Ground.phase }, { on := 16, ground := Go.Ground.phase }], guard := none }
def q24d18 : Oper := { dst := none, op := Go.Op.store 35 (Go.Operand.tmp 82) (Go.Operand.tmp 81), type := 0, pos := "ref.go:87", after := #[{ on := 17, ground := Go.Ground.data }, { on := 16, ground := Go.Ground.data }, { on := 16, ground := Go.Ground.chain }, { on := 0, ground := Go.Ground.phase }, { on := 1, ground := Go.Ground.phase }, { on := 2, ground := Go.Ground.phase }, { on := 3, ground := Go.Ground.phase }, { on := 4, ground := Go.Ground.phase }, { on := 5, ground := Go.Ground.phase }, { on := 6, ground := Go.Ground.phase }, { on := 7, ground := Go.Ground.phase }, { on := 8, ground := Go.Ground.phase }, { on := 9, ground := Go.Ground.phase }, { on := 10, ground := Go.Ground.phase }, { on := 11, ground := Go.Ground.phase }, { on := 12, ground := Go.Ground.phase }, { on := 13, ground := Go.Ground.phase }, { on := 14, ground := Go.Ground.phase }, { on := 15, ground := Go.Ground.phase }, { on := 16, ground := Go.Ground.phase }], guard := none }
set_option maxHeartbeats 8000000 in
theorem rsync_any (w : World) (d : Dk) (v : Value) (h : DkAt w w.heap.size v d) :
    Calls Try.prog 24 #[v] w fun e w' => ∃ u, e = .returned (.tuple #[u, .int .i64 d.sync.2]) ∧ DkAt w' w'.heap.size u d.sync.1 ∧ Below w.heap.size w w' := by
  have H := Lib.hid h
  obtain ⟨sa, cs0, ap, cp, rfl, hl64, hcs, hcsm, hpc, hcp, hS, hP⟩ := h.open
  have hchk : ∀ W, Below w.heap.size w W → Calls Try.prog 16 #[.agg #[.slice sa d.sec.length cs0, .slice ap d.pen.length cp, .int .i64 d.left, .bool d.stop]] W fun e w' => e = .returned (.int .i64 (if d.ok then 0 else 40)) ∧ Below W.heap.size W w' := fun W hW => rcheck_any W d _ (H.out.next hW)
  obtain ⟨m, hm⟩ : ∃ m : Nat, (if d.stops then d.left.toNat else d.pen.length) = m := ⟨_, rfl⟩
  have hmc : (d.stops = true ∧ d.left = m ∧ m < d.pen.length) ∨ (d.stops = false ∧ m = d.pen.length ∧ (d.left < 0 ∨ (d.pen.length : Int) ≤ d.left)) := by
    unfold Dk.stops at hm ⊢
    by_cases hst : 0 ≤ d.left ∧ d.left < d.pen.length
    · rw [show decide (0 ≤ d.left ∧ d.left < d.pen.length) = true by simpa using hst] at hm ⊢
      rw [if_pos rfl] at hm
      exact .inl ⟨rfl, by omega, by omega⟩
    · rw [show decide (0 ≤ d.left ∧ d.left < d.pen.length) = false by simpa using hst] at hm ⊢
      rw [if_neg (by simp)] at hm
      exact .inr ⟨rfl, hm.symm, by omega⟩
  have hmle : m ≤ d.pen.length := by rcases hmc with h | h <;> omega
  have hlens : d.ok = true → 1 ≤ d.sec.length ∧ d.sec.length ≤ 4096 ∧ d.pen.length ≤ 4096 ∧ -1 ≤ d.left ∧ d.left ≤ 65536 := fun h1 => by
    obtain ⟨l1, l2, l3, l4, l5, l6, l7⟩ := ok_lens h1
    exact ⟨l1, l2, l3, l6, l7⟩
  obtain ⟨T, hT⟩ : ∃ T : Nat → List By, T = fun i => perf d.sec (d.pen.take i) := ⟨_, rfl⟩
  have hT0 : T 0 = d.sec := by rw [hT]; rfl
  have hTl : ∀ i, (T i).length = d.sec.length := fun i => by rw [hT]; exact perf_len _ _
  have hT128 : d.ok = true → ∀ i, ∀ y ∈ T i, y.length = 128 := fun h1 i => by
    obtain ⟨l1, l2, l3, l4, l5, l6, l7⟩ := ok_lens h1
    rw [hT]; exact perf_128 _ (fun x hx => (l5 x (List.mem_of_mem_take hx)).2.2) _ l4
  have hwr : d.ok = true → ∀ i, i < d.pen.length → ∃ (j : Nat) (y : By) (b' off' : Nat) (a : Option Addr) (c : Nat), ap = some ⟨b', off', none⟩ ∧ j < d.sec.length ∧ y.length = 128 ∧ b' < w.heap.size ∧ w.cell? ⟨b', off' + i * 2, none⟩ = some (.int .i64 j) ∧ w.cell? ⟨b', off' + i * 2 + 1, none⟩ = some (.slice a 128 c) ∧ 128 ≤ c ∧ c ≤ maxLen ∧ BytesAt w w.heap.size (.slice a 128 c) y ∧ T (i + 1) = (T i).set j y ∧ d.pen.getD i (0, []) = ((j : Int), y) := by
    intro h1 i hi
    obtain ⟨b', off', rfl, hb', hin⟩ := pen_get hP (by omega)
    obtain ⟨_, e1, a, c, e2, e3, e4, hy⟩ := hin.got i hi
    have hx := (ok_lens h1).2.2.2.2.1 _ (List.getElem_mem hi)
    have hpt := perf_take d.sec d.pen i hi
    have hat : d.pen.getD i (0, []) = d.pen[i] := by rw [List.getD_eq_getElem?_getD, List.getElem?_eq_getElem hi]; rfl
    obtain ⟨⟨n, y⟩, hpm⟩ : ∃ x, d.pen[i] = x := ⟨_, rfl⟩
    rw [hpm] at e1 e2 e3 hx hat hy hpt
    simp only at e1 e2 e3 hx hat hy hpt
    obtain ⟨j, rfl⟩ : ∃ j : Nat, n = j := ⟨n.toNat, by omega⟩
    rw [hx.2.2] at e2 e3 hy
    exact ⟨j, y, b', off', a, c, rfl, by omega, hx.2.2, hb', e1, e2, e3, e4, hy, by rw [hT]; exact hpt, hat⟩
  -- what the answer is
  have hTp : T d.pen.length = perf d.sec d.pen := by rw [hT]; show perf d.sec (d.pen.take d.pen.length) = _; rw [List.take_length]
  have hrun : d.ok = true → d.stop = false → d.runs = true := fun h1 h2 => runs_of h1 h2
  have hans1 : d.ok = false ∨ d.stop = true → d.sync = (Dk.zero, 40) := fun h1 => by
    unfold Dk.sync; rw [if_neg]
    intro hh
    obtain ⟨q1, q2⟩ := runs_ok hh
    rcases h1 with h1 | h1
    · rw [q1] at h1; cases h1
    · rw [q2] at h1; cases h1
  have hans2 : d.ok = true → d.stop = false → d.stops = false → d.left < 0 → d.sync = (⟨T m, [], d.left, false⟩, 0) := fun h0 h1 h2 h3 => by
    rcases hmc with ⟨h4, _⟩ | ⟨_, h4, _⟩
    · rw [h2] at h4; cases h4
    · unfold Dk.sync; rw [hrun h0 h1, h2, if_pos rfl, if_neg (by simp), if_pos h3, h4, hTp]
  have hans3 : d.ok = true → d.stop = false → d.stops = false → 0 ≤ d.left → d.sync = (⟨T m, [], d.left - m, false⟩, 0) := fun h0 h1 h2 h3 => by
    rcases hmc with ⟨h4, _⟩ | ⟨_, h4, _⟩
    · rw [h2] at h4; cases h4
    · unfold Dk.sync; rw [hrun h0 h1, h2, if_pos rfl, if_neg (by simp), if_neg (by omega), h4, hTp]
  have hans4 : d.ok = true → d.stop = false → d.stops = true → ∀ (j : Nat) (y : By), d.pen.getD m (0, []) = ((j : Int), y) → d.sync = (⟨(T m).set j (tear ((T m).getD j []) y), [], 0, true⟩, 40) := fun h0 h1 h2 j y hj => by
    rcases hmc with ⟨_, h4, _⟩ | ⟨h4, _⟩
    · unfold Dk.sync; rw [hrun h0 h1, h2, if_pos rfl, if_pos rfl]; unfold Dk.done Dk.at_; rw [h4, Int.toNat_natCast, hj, hT]; rfl
    · rw [h2] at h4; cases h4
  obtain ⟨A, hA⟩ : ∃ A, d.sync = A := ⟨_, rfl⟩
  obtain ⟨r, hr⟩ : ∃ r, d.ok = r := ⟨_, rfl⟩
  obtain ⟨ss, hss⟩ : ∃ r, d.stops = r := ⟨_, rfl⟩
  obtain ⟨left, hle⟩ : ∃ x, d.left = x := ⟨_, rfl⟩
  obtain ⟨k, hk⟩ : ∃ k, d.sec.length = k := ⟨_, rfl⟩
  obtain ⟨st, hst⟩ : ∃ x, d.stop = x := ⟨_, rfl⟩
  obtain ⟨p, hp⟩ : ∃ k, d.pen.length = k := ⟨_, rfl⟩
  rw [hA] at hans1 hans2 hans3 hans4 ⊢
  rw [hr] at hchk hlens hT128 hwr hans1 hans2 hans3 hans4
  rw [hst] at hchk hans1 hans2 hans3 hans4 ⊢
  rw [hss] at hmc hans2 hans3 hans4
  rw [hle] at hchk hmc hlens hans2 hans3 hl64 ⊢
  rw [hk] at hchk hlens hwr hcs hS
  simp only [hk] at hTl
  rw [hk]
  rw [hp] at hchk hmc hlens hwr hmle hpc ⊢
  have HC := Lib.hid hchk
  have HLE := Lib.hid hlens
  have HWR := Lib.hid hwr
  have HA1 := Lib.hid hans1
  have HA2 := Lib.hid hans2
  have HA3 := Lib.hid hans3
  have HA4 := Lib.hid hans4
  have HTL := Lib.hid hTl
  have HT0 := Lib.hid hT0
  have HT8 := Lib.hid hT128
  have HMC := Lib.hid hmc
  have HSS := Lib.hid hS
  have HP0 := Lib.hid (fun W => zero_at W W.heap.size)
  unfold maxLen at hcp hcsm
  unfold In64 at hl64
  have hkl : d.sec.length = k := hk
  have HKL := Lib.hid hkl
  clear h H hchk hlens hwr hans1 hans2 hans3 hans4 hTl hT0 hT128 hmc hS hP hrun hA hr hss hle hk hst hp hm hT hkl hTp
  obtain ⟨w0, hw0⟩ : ∃ w0, w0 = ((w.alloc (.cells #[.slice sa k cs0, .slice ap p cp, .int .i64 left, .bool st] 25)).alloc (.cells #[.slice none 0 0, .slice none 0 0, .int .i64 0, .bool false] 25)) := ⟨_, rfl⟩
  have hz : w0.heap.size = w.heap.size + 1 + 1 := by rw [hw0]; simp
  have hX : Arr w0 w.heap.size [.slice sa k cs0, .slice ap p cp, .int .i64 left, .bool st] := by
    rw [hw0]; exact (Arr.new w #[.slice sa k cs0, .slice ap p cp, .int .i64 left, .bool st] 25).alloc (by simp) _
  have hY : Arr w0 (w.heap.size + 1) [.slice none 0 0, .slice none 0 0, .int .i64 0, .bool false] := by
    rw [hw0]
    have := Arr.new (w.alloc (.cells #[.slice sa k cs0, .slice ap p cp, .int .i64 left, .bool st] 25)) #[.slice none 0 0, .slice none 0 0, .int .i64 0, .bool false] 25
    simpa using this
  have hB0 : Below w.heap.size w w0 := by rw [hw0]; go_grown
  have HW0 := Lib.hid hw0
  have HX := Lib.hid hX
  have HY := Lib.hid hY
  have HB0 := Lib.hid hB0
  have HZ := Lib.hid hz
  clear hX hY hB0 hz hw0
  go_enter Try.func24, Try.ntmps24
  go_wp2_with fail
  rw [← HW0.out]
  refine (HC.out _ HB0.out).mono ?_
  rintro e w1 ⟨rfl, hB1⟩
  have hb1 : Below w.heap.size w w1 := HB0.out.trans (hB1.mono (by rw [HZ.out]; omega))
  have HX1 := Lib.hid (HX.out.below hB1 (by rw [HZ.out]; omega))
  have HY1 := Lib.hid (HY.out.below hB1 (by rw [HZ.out]; omega))
  obtain ⟨e0, e1, e2, e3⟩ := HX1.out.four
  have HB1 := Lib.hid hb1
  have hlt1 : w.heap.size + 1 < w1.heap.size := by have := hB1.size; rw [HZ.out] at this; omega
  clear hB1 hb1
  by_cases hrs : r = false ∨ st = true
  · obtain rfl := (HA1.out hrs).symm
    have hrs' : r = false ∨ (r = true ∧ st = true) := by cases r <;> simp_all
    clear hrs
    rcases hrs' with rfl | ⟨rfl, rfl⟩
    all_goals
      go_wp2_with (refine store_disk rfl (.tmp 2) (.tmp 16) rfl (w.heap.size + 1) _ _ _ _ _ _ _ _ (by rfl) (by rfl) HY1.out rfl ?_; intro W3 hG3 hA3; obtain ⟨y0, y1, y2, y3⟩ := hA3.four)
      have hB3 := below_grow HB1.out hG3 (fun j hj => by cases hj; omega) (by omega)
      refine bodyPost_ret (v := .tuple #[.agg #[.slice none 0 0, .slice none 0 0, .int .i64 0, .bool false], .int .i64 40]) (by simp [results, Try.results24, go_sem, y0, y1, y2, y3]) rfl ⟨_, rfl, HP0.out _, hB3⟩
  obtain ⟨rfl, rfl⟩ : r = true ∧ st = false := by cases r <;> cases st <;> simp_all
  clear hrs
  obtain ⟨l1, l2, l3, l4, l5⟩ := HLE.out rfl
  have dd : (ss = true ∧ decide (0 ≤ left) = true ∧ decide (left < (p : Int)) = true) ∨ (ss = false ∧ ((decide (0 ≤ left) = false) ∨ (decide (0 ≤ left) = true ∧ decide (left < (p : Int)) = false))) := by
    rcases HMC.out with ⟨h1, h2, h3⟩ | ⟨h1, h2, h3⟩
    · exact .inl ⟨h1, by simp; omega, by simp; omega⟩
    · refine .inr ⟨h1, ?_⟩
      by_cases h0 : 0 ≤ left
      · exact .inr ⟨by simpa using h0, by simp; omega⟩
      · exact .inl (by simpa using h0)
  obtain ⟨cs, hcs, hpc7⟩ := piece_sec (w := w1) (B := w.heap.size) (by omega) (HSS.out.below HB1.out)
  rw [HKL.out] at hpc7
  have HPC := Lib.hid hpc7
  have HCS := Lib.hid hcs
  have HCL : Hid (cs.length = k * 1) := Lib.hid (by rw [hcs.1, HKL.out, Nat.mul_one])
  have HON := Lib.hid (one_sec hcs)
  have HS : Hid (∀ W, Below w1.heap.size w1 W → Below w1.heap.size w1 W ∧ W.cell? ⟨w.heap.size, 0, none⟩ = some (.slice sa k cs0) ∧ W.cell? ⟨w.heap.size, 2, none⟩ = some (.int .i64 left)) := Lib.hid fun W hW => ⟨hW, (hW.cell (p := ⟨w.heap.size, 0, none⟩) (by show w.heap.size < _; omega)).trans e0, (hW.cell (p := ⟨w.heap.size, 2, none⟩) (by show w.heap.size < _; omega)).trans e2⟩
  clear hpc7 hcs
  rcases dd with ⟨rfl, d1, d2⟩ | ⟨rfl, d1 | ⟨d1, d2⟩⟩
  · skip
    obtain ⟨hlm, hmp⟩ : left = m ∧ m < p := by rcases HMC.out with ⟨_, h1, h2⟩ | ⟨h, _⟩; exact ⟨h1, h2⟩; cases h
    subst hlm
    go_wp2_with fail
    go_cut [6] from 32 (fun s6 wx => ∃ x g cap, s6 = .pointer (some ⟨x, 0, none⟩) ∧ R7 w w1 k m (T 0) false x g cap wx)
    case first =>
      -- <7
      rename_i J1 K1 hJ1 hM1
      refine wp_region_held_drew (S := fun W => Below w1.heap.size w1 W ∧ W.cell? ⟨w.heap.size, 0, none⟩ = some (.slice sa k cs0) ∧ W.cell? ⟨w.heap.size, 2, none⟩ = some (.int .i64 m)) (by kernel_rfl) ⟨Below.drew (Below.refl _ _), e0, e2⟩ (fun hHeld => ?_)
      refine wpAnyH_take (i := 1) (oi := q24a1) (v := ?_) rfl (by kernel_rfl) (by kernel_rfl) (by kernel_rfl) (fun _ _ _ h => h) (Or.inl ⟨by rfl, ?_⟩) hHeld ?_
      rotate_left
      · (intro w hSw; (try dsimp only at hSw); unfold q24a1; go_simp <;> with_reducible rfl)
      try simp only [q24a1, Act.put, List.setIfInBounds_toArray, List.set_cons_zero, List.set_cons_succ]
      refine wpAnyH_take (i := 2) (oi := q24a2) (v := ?_) rfl (by kernel_rfl) (by kernel_rfl) (by kernel_rfl) (fun _ _ _ h => h) (Or.inl ⟨by rfl, ?_⟩) hHeld ?_
      rotate_left
      · (intro w hSw; (try dsimp only at hSw); unfold q24a2; go_simp <;> with_reducible rfl)
      try simp only [q24a2, Act.put, List.setIfInBounds_toArray, List.set_cons_zero, List.set_cons_succ]
      refine wpAnyH_take (i := 4) (oi := q24a4) (v := ?_) rfl (by kernel_rfl) (by kernel_rfl) (by kernel_rfl) (fun _ _ _ h => h) (Or.inl ⟨by rfl, ?_⟩) hHeld ?_
      rotate_left
      · (intro w hSw; (try dsimp only at hSw); unfold q24a4; go_simp <;> with_reducible rfl)
      try simp only [q24a4, Act.put, List.setIfInBounds_toArray, List.set_cons_zero, List.set_cons_succ]
      refine wpAnyH_take (i := 5) (oi := q24a5) (v := ?_) rfl (by kernel_rfl) (by kernel_rfl) (by kernel_rfl) (fun _ _ _ h => h) (Or.inl ⟨by rfl, ?_⟩) hHeld ?_
      rotate_left
      · (intro w hSw; (try dsimp only at hSw); unfold q24a5; go_simp <;> with_reducible rfl)
      try simp only [q24a5, Act.put, List.setIfInBounds_toArray, List.set_cons_zero, List.set_cons_succ]
      refine wpAnyH_ready (rs := [0, 7]) (by kernel_rfl) (by simp) ?_
      refine AllReadyH.cons (o := q24a0) rfl (fun K hK => ?_) (AllReadyH.cons (o := q24a7) rfl (fun K hK => ?_) AllReadyH.nil)
      · skip
        rw [if_pos (by rfl)]
        refine wp_build0 22 35 (by rfl) Try.underlying22 Try.info35 ?_
        intro g0 W0 hG0 hge0 hlt0 hO0
        have hO0 := hO0 w1.heap.size (Below.drew (Below.refl w1.heap.size w1)).size
        have hB0 := below_grow (Below.drew (Below.refl w1.heap.size w1)) hG0 (fun _ h => by cases h) (Below.drew (Below.refl w1.heap.size w1)).size
        refine hK.out _ _ (HS.out _ hB0) (fun hHeld => ?_)
        clear hK K
        try simp only [q24a0, Act.put, List.setIfInBounds_toArray, List.set_cons_zero, List.set_cons_succ]
        refine wpAnyH_ready (rs := [3, 7]) (by kernel_rfl) (by simp) ?_
        refine AllReadyH.cons (o := q24a3) rfl (fun K hK => ?_) (AllReadyH.cons (o := q24a7) rfl (fun K hK => ?_) AllReadyH.nil)
        · skip
          rw [if_pos (by rfl)]
          refine wp_piece 22 35 (.tmp 32) (.tmp 34) (by rfl) Try.underlying22 Try.info35 rfl (by decide) (by rfl) hO0 (by rfl) (HPC.out.kept hB0) HCL.out HON.out (by unfold maxLen; omega) (by omega) hB0.size k (by omega) cs (by simp) ?_
          intro g cap W3 hO3 hG3 hat3
          have hg0 := (own_arr hO0).1
          have hB3 := below_grow hB0 hG3 (fun q e => by cases e; exact hg0) hB0.size
          have lg3 := (own_arr hO3).2.1
          refine hK.out _ _ (HS.out _ hB3) (fun hHeld => ?_)
          clear hK K
          try simp only [q24a3, Act.put, List.setIfInBounds_toArray, List.set_cons_zero, List.set_cons_succ]
          refine wpAnyH_take (i := 6) (oi := q24a6) (v := ?_) rfl (by kernel_rfl) (by kernel_rfl) (by kernel_rfl) (fun _ _ _ h => h) (Or.inl ⟨by rfl, ?_⟩) hHeld ?_
          rotate_left
          · (intro w hSw; (try dsimp only at hSw); unfold q24a6; go_simp <;> with_reducible rfl)
          try simp only [q24a6, Act.put, List.setIfInBounds_toArray, List.set_cons_zero, List.set_cons_succ]
          refine wpAnyH_ready (rs := [7]) (by kernel_rfl) (by simp) ?_
          refine AllReadyH.cons (o := q24a7) rfl (fun K hK => ?_) AllReadyH.nil
          rw [if_pos (by rfl)]
          refine wp_alloc25 (by rfl) ?_
          intro x W7 hG7 hge7 lX7 hX7
          have hB7 := below_grow hB3 hG7 (fun _ h => by cases h) hB3.size
          have hxl : w1.heap.size ≤ x := Nat.le_trans hB3.size hge7
          have hne : g ≠ x := by omega
          have hO7 := own_moved hO3 hG7 (by simp)
          have lg7 := Nat.lt_of_lt_of_le lg3 hG7.size
          refine hK.out _ _ (HS.out _ hB7) (fun hHeld => ?_)
          clear hK K
          try simp only [q24a7, Act.put, List.setIfInBounds_toArray, List.set_cons_zero, List.set_cons_succ]
          refine wpAnyH_ready (rs := [8]) (by kernel_rfl) (by simp) ?_
          refine AllReadyH.cons (o := q24a8) rfl (fun K hK => ?_) AllReadyH.nil
          rw [if_pos (by rfl)]
          refine wp_st25 (.tmp 6) (.tmp 38) (by rfl) x _ _ _ _ _ (by rfl) (by rfl) hX7 rfl rfl ?_
          intro W8 hG8 hX8
          have hB8 := below_grow hB7 hG8 (fun q e => by cases e; exact hxl) hB7.size
          have hO8 := own_moved hO7 hG8 (by simpa using hne)
          have lX8 := Nat.lt_of_lt_of_le lX7 hG8.size
          refine hK.out _ _ (HS.out _ hB8) (fun hHeld => ?_)
          clear hK K
          try simp only [q24a8, Act.put]
          refine wpAnyH_done (by kernel_rfl) ?_ _
          obtain ⟨o1, o2, o3, o4, o5⟩ := own_arr hO8
          refine hM1 _ _ ?_
          go_meet
          exact ⟨x, g, cap, rfl, hne, o1, hxl, o2, lX8, o3, o4, hX8, ⟨cs, o5, by rw [HT0.out]; exact HCS.out.keep (fun b hb _ => hB8.block b (by have : b < w.heap.size := hb; omega)) (fun b hb _ => .inl hb) hB8.size⟩, hB8⟩
        · skip
          rw [if_pos (by rfl)]
          refine wp_alloc25 (by rfl) ?_
          intro x W7 hG7 hge7 lX7 hX7
          have hB7 := below_grow hB0 hG7 (fun _ h => by cases h) hB0.size
          have hxl : w1.heap.size ≤ x := Nat.le_trans hB0.size hge7
          have hne : g0 ≠ x := by omega
          have hO7 := own_moved hO0 hG7 (by simp)
          have lg7 := Nat.lt_of_lt_of_le hlt0 hG7.size
          refine hK.out _ _ (HS.out _ hB7) (fun hHeld => ?_)
          clear hK K
          try simp only [q24a7, Act.put, List.setIfInBounds_toArray, List.set_cons_zero, List.set_cons_succ]
          refine wpAnyH_ready (rs := [3]) (by kernel_rfl) (by simp) ?_
          refine AllReadyH.cons (o := q24a3) rfl (fun K hK => ?_) AllReadyH.nil
          rw [if_pos (by rfl)]
          refine wp_piece 22 35 (.tmp 32) (.tmp 34) (by rfl) Try.underlying22 Try.info35 rfl (by decide) (by rfl) hO7 (by rfl) (HPC.out.kept hB7) HCL.out HON.out (by unfold maxLen; omega) (by omega) hB7.size k (by omega) cs (by simp) ?_
          intro g cap W3 hO3 hG3 hat3
          have hg0 := (own_arr hO7).1
          have hB3 := below_grow hB7 hG3 (fun q e => by cases e; exact hg0) hB7.size
          have lg3 := (own_arr hO3).2.1
          have hX3 := hX7.moved hG3 lX7 (by simpa using hne.symm)
          have lX3 := Nat.lt_of_lt_of_le lX7 hG3.size
          have hne : g ≠ x := by rcases hat3 with h | h <;> omega
          refine hK.out _ _ (HS.out _ hB3) (fun hHeld => ?_)
          clear hK K
          try simp only [q24a3, Act.put, List.setIfInBounds_toArray, List.set_cons_zero, List.set_cons_succ]
          refine wpAnyH_take (i := 6) (oi := q24a6) (v := ?_) rfl (by kernel_rfl) (by kernel_rfl) (by kernel_rfl) (fun _ _ _ h => h) (Or.inl ⟨by rfl, ?_⟩) hHeld ?_
          rotate_left
          · (intro w hSw; (try dsimp only at hSw); unfold q24a6; go_simp <;> with_reducible rfl)
          try simp only [q24a6, Act.put, List.setIfInBounds_toArray, List.set_cons_zero, List.set_cons_succ]
          refine wpAnyH_ready (rs := [8]) (by kernel_rfl) (by simp) ?_
          refine AllReadyH.cons (o := q24a8) rfl (fun K hK => ?_) AllReadyH.nil
          rw [if_pos (by rfl)]
          refine wp_st25 (.tmp 6) (.tmp 38) (by rfl) x _ _ _ _ _ (by rfl) (by rfl) hX3 rfl rfl ?_
          intro W8 hG8 hX8
          have hB8 := below_grow hB3 hG8 (fun q e => by cases e; exact hxl) hB3.size
          have hO8 := own_moved hO3 hG8 (by simpa using hne)
          have lX8 := Nat.lt_of_lt_of_le lX3 hG8.size
          refine hK.out _ _ (HS.out _ hB8) (fun hHeld => ?_)
          clear hK K
          try simp only [q24a8, Act.put]
          refine wpAnyH_done (by kernel_rfl) ?_ _
          obtain ⟨o1, o2, o3, o4, o5⟩ := own_arr hO8
          refine hM1 _ _ ?_
          go_meet
          exact ⟨x, g, cap, rfl, hne, o1, hxl, o2, lX8, o3, o4, hX8, ⟨cs, o5, by rw [HT0.out]; exact HCS.out.keep (fun b hb _ => hB8.block b (by have : b < w.heap.size := hb; omega)) (fun b hb _ => .inl hb) hB8.size⟩, hB8⟩
      · skip
        rw [if_pos (by rfl)]
        refine wp_alloc25 (by rfl) ?_
        intro x W7 hG7 hge7 lX7 hX7
        have hB7 := below_grow (Below.drew (Below.refl w1.heap.size w1)) hG7 (fun _ h => by cases h) (Below.drew (Below.refl w1.heap.size w1)).size
        have hxl : w1.heap.size ≤ x := Nat.le_trans (Below.drew (Below.refl w1.heap.size w1)).size hge7
        refine hK.out _ _ (HS.out _ hB7) (fun hHeld => ?_)
        clear hK K
        try simp only [q24a7, Act.put, List.setIfInBounds_toArray, List.set_cons_zero, List.set_cons_succ]
        refine wpAnyH_ready (rs := [0]) (by kernel_rfl) (by simp) ?_
        refine AllReadyH.cons (o := q24a0) rfl (fun K hK => ?_) AllReadyH.nil
        rw [if_pos (by rfl)]
        refine wp_build0 22 35 (by rfl) Try.underlying22 Try.info35 ?_
        intro g0 W0 hG0 hge0 hlt0 hO0
        have hO0 := hO0 w1.heap.size hB7.size
        have hB0 := below_grow hB7 hG0 (fun _ h => by cases h) hB7.size
        have hX0 := hX7.moved hG0 lX7 (by simp)
        have lX0 := Nat.lt_of_lt_of_le lX7 hG0.size
        have hne : g0 ≠ x := by omega
        refine hK.out _ _ (HS.out _ hB0) (fun hHeld => ?_)
        clear hK K
        try simp only [q24a0, Act.put, List.setIfInBounds_toArray, List.set_cons_zero, List.set_cons_succ]
        refine wpAnyH_ready (rs := [3]) (by kernel_rfl) (by simp) ?_
        refine AllReadyH.cons (o := q24a3) rfl (fun K hK => ?_) AllReadyH.nil
        rw [if_pos (by rfl)]
        refine wp_piece 22 35 (.tmp 32) (.tmp 34) (by rfl) Try.underlying22 Try.info35 rfl (by decide) (by rfl) hO0 (by rfl) (HPC.out.kept hB0) HCL.out HON.out (by unfold maxLen; omega) (by omega) hB0.size k (by omega) cs (by simp) ?_
        intro g cap W3 hO3 hG3 hat3
        have hg0 := (own_arr hO0).1
        have hB3 := below_grow hB0 hG3 (fun q e => by cases e; exact hg0) hB0.size
        have lg3 := (own_arr hO3).2.1
        have hX3 := hX0.moved hG3 lX0 (by simpa using hne.symm)
        have lX3 := Nat.lt_of_lt_of_le lX0 hG3.size
        have hne : g ≠ x := by rcases hat3 with h | h <;> omega
        refine hK.out _ _ (HS.out _ hB3) (fun hHeld => ?_)
        clear hK K
        try simp only [q24a3, Act.put, List.setIfInBounds_toArray, List.set_cons_zero, List.set_cons_succ]
        refine wpAnyH_take (i := 6) (oi := q24a6) (v := ?_) rfl (by kernel_rfl) (by kernel_rfl) (by kernel_rfl) (fun _ _ _ h => h) (Or.inl ⟨by rfl, ?_⟩) hHeld ?_
        rotate_left
        · (intro w hSw; (try dsimp only at hSw); unfold q24a6; go_simp <;> with_reducible rfl)
        try simp only [q24a6, Act.put, List.setIfInBounds_toArray, List.set_cons_zero, List.set_cons_succ]
        refine wpAnyH_ready (rs := [8]) (by kernel_rfl) (by simp) ?_
        refine AllReadyH.cons (o := q24a8) rfl (fun K hK => ?_) AllReadyH.nil
        rw [if_pos (by rfl)]
        refine wp_st25 (.tmp 6) (.tmp 38) (by rfl) x _ _ _ _ _ (by rfl) (by rfl) hX3 rfl rfl ?_
        intro W8 hG8 hX8
        have hB8 := below_grow hB3 hG8 (fun q e => by cases e; exact hxl) hB3.size
        have hO8 := own_moved hO3 hG8 (by simpa using hne)
        have lX8 := Nat.lt_of_lt_of_le lX3 hG8.size
        refine hK.out _ _ (HS.out _ hB8) (fun hHeld => ?_)
        clear hK K
        try simp only [q24a8, Act.put]
        refine wpAnyH_done (by kernel_rfl) ?_ _
        obtain ⟨o1, o2, o3, o4, o5⟩ := own_arr hO8
        refine hM1 _ _ ?_
        go_meet
        exact ⟨x, g, cap, rfl, hne, o1, hxl, o2, lX8, o3, o4, hX8, ⟨cs, o5, by rw [HT0.out]; exact HCS.out.keep (fun b hb _ => hB8.block b (by have : b < w.heap.size := hb; omega)) (fun b hb _ => .inl hb) hB8.size⟩, hB8⟩
      -- 7>
    case rest =>
      obtain ⟨x, g, cap, rfl, h7⟩ := hcut
      have H7 := Lib.hid h7
      have hxl := h7.xle
      have hgl := h7.gle
      have hxg := h7.ne
      have hkc := h7.kc
      have hcm := h7.cm
      unfold maxLen at hcm
      clear h7
      go_wp2
      go_loopw [7] (fun i wr => ∃ n : Nat, i = .int .i64 n ∧ n ≤ m ∧ R7 w w1 k m (T n) false x g cap wr) (fun i _ => m - (intOf i).toNat)
      case atStart => exact ⟨0, rfl, Nat.zero_le _, H7.out⟩
      case round =>
      clear H7
      obtain ⟨n, rfl, hnm, h7⟩ := hrel
      have H7 := Lib.hid h7
      have hxr := h7.xlt
      have hgr := h7.glt
      have hBr := h7.bel
      have hX1 := HX1.out.below hBr (by omega)
      have hY1 := HY1.out.below hBr (by omega)
      by_cases hlt : n < m
      · obtain ⟨j, y, b', off', a, c, rfl, hjk, hy8, hb', c0, c1, hc1, hc2, hyb, hTn, -⟩ := HWR.out (by simp) n (by omega)
        have hnp : n < p := by omega
        have hbw : Below w.heap.size w wr := HB1.out.trans (hBr.mono (by omega))
        obtain ⟨cs', hA', hcs'⟩ := h7.gs
        have k0 := h7.xs.four.1
        have k1 := hX1.four.2.1
        have k2 : wr.cell? ⟨b', off' + n * 2, none⟩ = some (.int .i64 j) := (hbw.cell (p := ⟨b', off' + n * 2, none⟩) hb').trans c0
        have k3 : wr.cell? ⟨b', off' + n * 2 + 1, none⟩ = some (.slice a 128 c) := (hbw.cell (p := ⟨b', off' + n * 2 + 1, none⟩) hb').trans c1
        have hjc : j < cs'.length := by rw [hcs'.1, HTL.out]; exact hjk
        have k4 := hA'.frozen hjc
        have k5 := hA'.cell (List.getElem?_eq_getElem hjc)
        obtain ⟨u5, hu5⟩ : ∃ u, cs'[j] = u := ⟨_, rfl⟩
        rw [hu5] at k5
        have hG := grown_setCell (W := wr) (b := g) j (.slice a 128 c)
        have hBn := below_grow hBr hG (fun q e => by cases e; exact hgl) hBr.size
        have HS1 := Lib.hid (show Below w1.heap.size w1 wr.drew ∧ wr.drew.cell? ⟨x, 0, none⟩ = some (.slice (some ⟨g, 0, none⟩) k cap) ∧ wr.drew.cell? ⟨w.heap.size, 1, none⟩ = some (.slice (some ⟨b', off', none⟩) p cp) ∧ wr.drew.cell? ⟨b', off' + n * 2, none⟩ = some (.int .i64 j) ∧ wr.drew.cell? ⟨b', off' + n * 2 + 1, none⟩ = some (.slice a 128 c) from ⟨hBr.drew, k0, k1, k2, k3⟩)
        have hc : ∀ i b, b ≠ g → (wr.setCell ⟨g, j, none⟩ (.slice a 128 c)).cell? ⟨b, i, none⟩ = wr.cell? ⟨b, i, none⟩ := fun i b hb => World.cell?_setCell_other _ _ _ _ (by intro h; injection h; omega)
        have HS2 := Lib.hid (show Below w1.heap.size w1 (wr.setCell ⟨g, j, none⟩ (.slice a 128 c)).drew ∧ (wr.setCell ⟨g, j, none⟩ (.slice a 128 c)).drew.cell? ⟨x, 0, none⟩ = some (.slice (some ⟨g, 0, none⟩) k cap) ∧ (wr.setCell ⟨g, j, none⟩ (.slice a 128 c)).drew.cell? ⟨w.heap.size, 1, none⟩ = some (.slice (some ⟨b', off', none⟩) p cp) ∧ (wr.setCell ⟨g, j, none⟩ (.slice a 128 c)).drew.cell? ⟨b', off' + n * 2, none⟩ = some (.int .i64 j) ∧ (wr.setCell ⟨g, j, none⟩ (.slice a 128 c)).drew.cell? ⟨b', off' + n * 2 + 1, none⟩ = some (.slice a 128 c) from ⟨hBn.drew, (hc _ _ (by omega)).trans k0, (hc _ _ (by omega)).trans k1, (hc _ _ (by omega)).trans k2, (hc _ _ (by omega)).trans k3⟩)
        have hbw' : Below w.heap.size w (wr.setCell ⟨g, j, none⟩ (.slice a 128 c)) := HB1.out.trans (hBn.mono (by omega))
        have HN := Lib.hid (show R7 w w1 k m (T (n + 1)) false x g cap (wr.setCell ⟨g, j, none⟩ (.slice a 128 c)) from
          ⟨hxg, hgl, hxl, by simpa using hgr, by simpa using hxr, hkc, by unfold maxLen; omega, h7.xs.moved hG hxr (by simp; omega), ⟨_, hA'.set j _, by rw [hTn]; exact (hcs'.keep (fun b hb hl => hG.block b hl (by unfold Pq at hb; simp; omega)) (fun _ h _ => h) hG.size).set j (((hyb.below hbw').on hbw'.size).keep (fun _ _ _ => rfl) (fun _ h _ => .inl h) (Nat.le_refl _))⟩, hBn⟩)
        unfold maxLen at hc2
        clear h7 H7 hX1 hY1 hyb hTn c0 c1 hbw hbw' hA' hcs' hjc hu5 hG hBn hc hBr e0 e1 e2 e3
        go_wp2
        refine wp_region_held_drew (S := fun W => Below w1.heap.size w1 W ∧ W.cell? ⟨x, 0, none⟩ = some (.slice (some ⟨g, 0, none⟩) k cap) ∧ W.cell? ⟨w.heap.size, 1, none⟩ = some (.slice (some ⟨b', off', none⟩) p cp) ∧ W.cell? ⟨b', off' + n * 2, none⟩ = some (.int .i64 j) ∧ W.cell? ⟨b', off' + n * 2 + 1, none⟩ = some (.slice a 128 c)) (by kernel_rfl) HS1.out (fun hHeld => ?_)
        refine wpAnyH_take (i := 0) (oi := q24b0) (v := ?_) rfl (by kernel_rfl) (by kernel_rfl) (by kernel_rfl) (fun _ _ _ h => h) (Or.inl ⟨by rfl, ?_⟩) hHeld ?_
        rotate_left
        · (intro w hSw; (try dsimp only at hSw); unfold q24b0; go_simp <;> with_reducible rfl)
        try simp only [q24b0, Act.put, List.setIfInBounds_toArray, List.set_cons_zero, List.set_cons_succ]
        refine wpAnyH_take (i := 1) (oi := q24b1) (v := ?_) rfl (by kernel_rfl) (by kernel_rfl) (by kernel_rfl) (fun _ _ _ h => h) (Or.inl ⟨by rfl, ?_⟩) hHeld ?_
        rotate_left
        · (intro w hSw; (try dsimp only at hSw); unfold q24b1; go_simp <;> with_reducible rfl)
        try simp only [q24b1, Act.put, List.setIfInBounds_toArray, List.set_cons_zero, List.set_cons_succ]
        refine wpAnyH_take (i := 2) (oi := q24b2) (v := ?_) rfl (by kernel_rfl) (by kernel_rfl) (by kernel_rfl) (fun _ _ _ h => h) (Or.inl ⟨by rfl, ?_⟩) hHeld ?_
        rotate_left
        · (intro w hSw; (try dsimp only at hSw); unfold q24b2; go_simp <;> with_reducible rfl)
        try simp only [q24b2, Act.put, List.setIfInBounds_toArray, List.set_cons_zero, List.set_cons_succ]
        refine wpAnyH_take (i := 3) (oi := q24b3) (v := ?_) rfl (by kernel_rfl) (by kernel_rfl) (by kernel_rfl) (fun _ _ _ h => h) (Or.inl ⟨by rfl, ?_⟩) hHeld ?_
        rotate_left
        · (intro w hSw; (try dsimp only at hSw); unfold q24b3; go_simp <;> with_reducible rfl)
        try simp only [q24b3, Act.put, List.setIfInBounds_toArray, List.set_cons_zero, List.set_cons_succ]
        refine wpAnyH_take (i := 4) (oi := q24b4) (v := ?_) rfl (by kernel_rfl) (by kernel_rfl) (by kernel_rfl) (fun _ _ _ h => h) (Or.inl ⟨by rfl, ?_⟩) hHeld ?_
        rotate_left
        · (intro w hSw; (try dsimp only at hSw); unfold q24b4; go_simp <;> with_reducible rfl)
        try simp only [q24b4, Act.put, List.setIfInBounds_toArray, List.set_cons_zero, List.set_cons_succ]
        refine wpAnyH_take (i := 5) (oi := q24b5) (v := ?_) rfl (by kernel_rfl) (by kernel_rfl) (by kernel_rfl) (fun _ _ _ h => h) (Or.inl ⟨by rfl, ?_⟩) hHeld ?_
        rotate_left
        · (intro w hSw; (try dsimp only at hSw); unfold q24b5; go_simp <;> with_reducible rfl)
        try simp only [q24b5, Act.put, List.setIfInBounds_toArray, List.set_cons_zero, List.set_cons_succ]
        refine wpAnyH_take (i := 6) (oi := q24b6) (v := ?_) rfl (by kernel_rfl) (by kernel_rfl) (by kernel_rfl) (fun _ _ _ h => h) (Or.inl ⟨by rfl, ?_⟩) hHeld ?_
        rotate_left
        · (intro w hSw; (try dsimp only at hSw); unfold q24b6; go_simp <;> with_reducible rfl)
        try simp only [q24b6, Act.put, List.setIfInBounds_toArray, List.set_cons_zero, List.set_cons_succ]
        refine wpAnyH_take (i := 7) (oi := q24b7) (v := ?_) rfl (by kernel_rfl) (by kernel_rfl) (by kernel_rfl) (fun _ _ _ h => h) (Or.inl ⟨by rfl, ?_⟩) hHeld ?_
        rotate_left
        · (intro w hSw; (try dsimp only at hSw); unfold q24b7; go_simp <;> with_reducible rfl)
        try simp only [q24b7, Act.put, List.setIfInBounds_toArray, List.set_cons_zero, List.set_cons_succ]
        refine wpAnyH_take (i := 8) (oi := q24b8) (v := ?_) rfl (by kernel_rfl) (by kernel_rfl) (by kernel_rfl) (fun _ _ _ h => h) (Or.inl ⟨by rfl, ?_⟩) hHeld ?_
        rotate_left
        · (intro w hSw; (try dsimp only at hSw); unfold q24b8; go_simp <;> with_reducible rfl)
        try simp only [q24b8, Act.put, List.setIfInBounds_toArray, List.set_cons_zero, List.set_cons_succ]
        refine wpAnyH_take (i := 9) (oi := q24b9) (v := ?_) rfl (by kernel_rfl) (by kernel_rfl) (by kernel_rfl) (fun _ _ _ h => h) (Or.inl ⟨by rfl, ?_⟩) hHeld ?_
        rotate_left
        · (intro w hSw; (try dsimp only at hSw); unfold q24b9; go_simp <;> with_reducible rfl)
        try simp only [q24b9, Act.put, List.setIfInBounds_toArray, List.set_cons_zero, List.set_cons_succ]
        refine wpAnyH_take (i := 10) (oi := q24b10) (v := ?_) rfl (by kernel_rfl) (by kernel_rfl) (by kernel_rfl) (fun _ _ _ h => h) (Or.inl ⟨by rfl, ?_⟩) hHeld ?_
        rotate_left
        · (intro w hSw; (try dsimp only at hSw); unfold q24b10; go_simp <;> with_reducible rfl)
        try simp only [q24b10, Act.put, List.setIfInBounds_toArray, List.set_cons_zero, List.set_cons_succ]
        refine wpAnyH_take (i := 11) (oi := q24b11) (v := ?_) rfl (by kernel_rfl) (by kernel_rfl) (by kernel_rfl) (fun _ _ _ h => h) (Or.inl ⟨by rfl, ?_⟩) hHeld ?_
        rotate_left
        · (intro w hSw; (try dsimp only at hSw); unfold q24b11; go_simp <;> with_reducible rfl)
        try simp only [q24b11, Act.put, List.setIfInBounds_toArray, List.set_cons_zero, List.set_cons_succ]
        refine wpAnyH_take (i := 12) (oi := q24b12) (v := ?_) rfl (by kernel_rfl) (by kernel_rfl) (by kernel_rfl) (fun _ _ _ h => h) (Or.inl ⟨by rfl, ?_⟩) hHeld ?_
        rotate_left
        · (intro w hSw; (try dsimp only at hSw); unfold q24b12; go_simp <;> with_reducible rfl)
        try simp only [q24b12, Act.put, List.setIfInBounds_toArray, List.set_cons_zero, List.set_cons_succ]
        refine wpAnyH_take (i := 13) (oi := q24b13) (v := ?_) rfl (by kernel_rfl) (by kernel_rfl) (by kernel_rfl) (fun _ _ _ h => h) (Or.inl ⟨by rfl, ?_⟩) hHeld ?_
        rotate_left
        · (intro w hSw; (try dsimp only at hSw); unfold q24b13; go_simp <;> with_reducible rfl)
        try simp only [q24b13, Act.put, List.setIfInBounds_toArray, List.set_cons_zero, List.set_cons_succ]
        refine wpAnyH_take (i := 14) (oi := q24b14) (v := ?_) rfl (by kernel_rfl) (by kernel_rfl) (by kernel_rfl) (fun _ _ _ h => h) (Or.inl ⟨by rfl, ?_⟩) hHeld ?_
        rotate_left
        · (intro w hSw; (try dsimp only at hSw); unfold q24b14; go_simp <;> with_reducible rfl)
        try simp only [q24b14, Act.put, List.setIfInBounds_toArray, List.set_cons_zero, List.set_cons_succ]
        refine wpAnyH_ready (rs := [15]) (by kernel_rfl) (by simp) ?_
        refine AllReadyH.cons (o := q24b15) rfl (fun K hK => ?_) AllReadyH.nil
        rw [if_pos (by rfl)]
        unfold q24b15
        go_simp
        refine hK.out _ _ HS2.out (fun hHeld => ?_)
        clear hK K
        try simp only [q24b15, Act.put]
        refine wpAnyH_done (by kernel_rfl) ?_ _
        clear hHeld
        go_wp2
        go_roundw
        case rel => exact ⟨n + 1, by go_num, by omega, HN.out.drew⟩
        case measure => simp [intOf]; omega
      · obtain rfl : n = m := by omega
        obtain ⟨j, y, b', off', a, c, rfl, hjk, hy8, hb', c0, c1, hc1, hc2, hyb, -, hget⟩ := HWR.out (by simp) n hmp
        obtain rfl := (HA4.out (by simp) (by simp) (by simp) j y hget).symm
        have hbw : Below w.heap.size w wr := HB1.out.trans (hBr.mono (by omega))
        have k1 := hX1.four.2.1
        have k2 : wr.cell? ⟨b', off' + n * 2, none⟩ = some (.int .i64 j) := (hbw.cell (p := ⟨b', off' + n * 2, none⟩) hb').trans c0
        have k3 : wr.cell? ⟨b', off' + n * 2 + 1, none⟩ = some (.slice a 128 c) := (hbw.cell (p := ⟨b', off' + n * 2 + 1, none⟩) hb').trans c1
        have HYB := Lib.hid (hyb.below hbw)
        have HGET := Lib.hid hget
        unfold maxLen at hc2
        have hc64 : (64 : Int) ≤ (c : Int) := by omega
        clear h7 hX1 hyb c0 c1 hbw hget e0 e1 e2 e3 hnm hlt HS HPC HCS HCL HON
        go_wp2
        obtain ⟨W7, hW7⟩ : ∃ W7, W7 = wr.alloc (Obj.cells #[Value.int IntKind.i64 j, Value.slice a 128 c] 54) := ⟨_, rfl⟩
        rw [← hW7]
        have hz7 : W7.heap.size = wr.heap.size + 1 := by rw [hW7]; simp
        have hB7 : Below wr.heap.size wr W7 := by rw [hW7]; go_grown
        have hG7 : wr.grownBy W7 none := by rw [hW7]; exact World.grownBy_alloc _ _ _
        have hN7 : Arr W7 wr.heap.size [.int .i64 j, .slice a 128 c] := by rw [hW7]; exact Arr.new wr #[Value.int IntKind.i64 j, Value.slice a 128 c] 54
        obtain ⟨q, hq⟩ : ∃ q, wr.heap.size = q := ⟨_, rfl⟩
        rw [hq] at hN7 hz7 ⊢
        obtain ⟨cs', hA', hcs'⟩ := H7.out.gs
        have hA7 := hA'.below hB7 hgr
        have hxs7 := H7.out.xs.below hB7 hxr
        have hjc : j < cs'.length := by rw [hcs'.1, HTL.out]; exact hjk
        have hjT : j < (T n).length := by rw [HTL.out]; exact hjk
        have hcs7 : secCells W7 (Pq w w1 x g) (T n) cs' := hcs'.keep (fun b hb hl => hB7.block b hl) (fun _ h _ => h) hB7.size
        obtain ⟨v0, hv0, hby0⟩ := hcs7.2 j hjT
        have h0128 := HT8.out (by simp) n _ (List.getElem_mem hjT)
        obtain ⟨ag, cg, rfl, -, hcg⟩ := on_shape hby0
        obtain ⟨Tj, hTj⟩ : ∃ Tj, (T n)[j] = Tj := ⟨_, rfl⟩
        have hTgd : (T n).getD j [] = Tj := by rw [List.getD_eq_getElem?_getD, List.getElem?_eq_getElem hjT, ← hTj]; rfl
        rw [hTj] at hv0 hby0 h0128
        rw [h0128] at hv0 hby0
        obtain ⟨db, off, rfl, hdb, hdbl, hcg1, hbin⟩ := drop_at hby0 h0128
        have hbe7 : Below w1.heap.size w1 W7 := hBr.trans (hB7.mono hBr.size)
        have hS : ∀ W, Below W7.heap.size W7 W → Below w1.heap.size w1 W ∧ W.cell? ⟨x, 0, none⟩ = some (.slice (some ⟨g, 0, none⟩) k cap) ∧ W.cell? ⟨q, 0, none⟩ = some (.int .i64 j) ∧ W.cell? ⟨q, 1, none⟩ = some (.slice a 128 c) := fun W hW =>
          ⟨hbe7.trans (hW.mono hbe7.size), (hW.cell (p := ⟨x, 0, none⟩) (by show x < _; omega)).trans hxs7.four.1, (hW.cell (p := ⟨q, 0, none⟩) (by show q < _; omega)).trans (hN7.cell rfl), (hW.cell (p := ⟨q, 1, none⟩) (by show q < _; omega)).trans (hN7.cell rfl)⟩
        have HS := Lib.hid hS
        have HGJ : Hid (∀ W, Below W7.heap.size W7 W → W.cell? ⟨g, j, none⟩ = some (.slice (some ⟨db, off, none⟩) 128 cg)) := Lib.hid fun W hW => (hW.cell (p := ⟨g, j, none⟩) (by show g < _; omega)).trans (hA7.cell hv0)
        have HGF : Hid (∀ W, Below W7.heap.size W7 W → W.frozen? ⟨g, j, none⟩ = false) := Lib.hid fun W hW => (hW.frozen (p := ⟨g, j, none⟩) (by show g < _; omega)).trans (hA7.frozen hjc)
        have HST : Hid (∀ W v, Below W7.heap.size W7 W → Below w1.heap.size w1 (W.setCell ⟨g, j, none⟩ v) ∧ (W.setCell ⟨g, j, none⟩ v).cell? ⟨x, 0, none⟩ = some (.slice (some ⟨g, 0, none⟩) k cap) ∧ (W.setCell ⟨g, j, none⟩ v).cell? ⟨q, 0, none⟩ = some (.int .i64 j) ∧ (W.setCell ⟨g, j, none⟩ v).cell? ⟨q, 1, none⟩ = some (.slice a 128 c)) := Lib.hid fun W v hW => by
          obtain ⟨s0, s1, s2, s3⟩ := hS W hW
          have hc : ∀ i b, b ≠ g → (W.setCell ⟨g, j, none⟩ v).cell? ⟨b, i, none⟩ = W.cell? ⟨b, i, none⟩ := fun i b hb => World.cell?_setCell_other _ _ _ _ (by intro h; injection h; omega)
          exact ⟨(s0.setCell (p := ⟨g, j, none⟩) (by show _ ≤ g; omega) _), (hc _ _ (by omega)).trans s1, (hc _ _ (by omega)).trans s2, (hc _ _ (by omega)).trans s3⟩
        have hyt := take_at HYB.out (m := 64) (by omega)
        have hly : (y.take 64).length = 64 := by rw [List.length_take]; omega
        have hlt6 : (Tj.drop 64).length = 64 := by rw [List.length_drop]; omega
        have hpy : Piece W7 (.slice a 64 c) 64 (cells8 (y.take 64)) := by have := piece_bytes (hyt.below (hB7.mono (by omega))); rwa [hly] at this
        have hpt : Piece W7 (.slice (some ⟨db, off + 64, none⟩) 64 (cg - 64)) 64 (cells8 (Tj.drop 64)) := ⟨_, _, rfl, .inr ⟨_, rfl, bytes_news hbin⟩⟩
        have HPY := Lib.hid hpy
        have HPT := Lib.hid hpt
        have HLY : Hid ((y.take 64).length = 64 * 1) := Lib.hid (by rw [hly])
        have HLT : Hid ((Tj.drop 64).length = 64 * 1) := Lib.hid (by rw [hlt6])
        have HFR : Hid (∀ W gt ct, W.ownsRow W7.heap.size 5 1 (.slice (some ⟨gt, 0, none⟩) 128 ct) 128 (cells8 (tear Tj y)) → Below W7.heap.size W7 W → R7 w w1 k n ((T n).set j (tear Tj y)) false x g cap (W.setCell ⟨g, j, none⟩ (.slice (some ⟨gt, 0, none⟩) 128 ct))) := Lib.hid fun W gt ct hO hW => by
          obtain ⟨o1, o2, o3, o4, o5⟩ := own_bytes hO
          have hG := grown_setCell (W := W) (b := g) j (.slice (some ⟨gt, 0, none⟩) 128 ct)
          have hsz := hW.size
          have hbe := hbe7.trans (hW.mono hbe7.size)
          have hcsW : secCells W (Pq w w1 x g) (T n) cs' := hcs7.keep (fun b hb hl => hW.block b hl) (fun _ h _ => h) hW.size
          have hbt : BytesOn (W.setCell ⟨g, j, none⟩ (.slice (some ⟨gt, 0, none⟩) 128 ct)) (Pq w w1 x g) (.slice (some ⟨gt, 0, none⟩) 128 ct) (tear Tj y) :=
            (o5.moved hG o2 (by simp; omega)).bytesOn (tear_len h0128 hy8) (by simpa using o2) (.inr ⟨by omega, by omega, by omega⟩) o3 o4
          exact ⟨hxg, hgl, hxl, by simp; omega, by simp; omega, hkc, by unfold maxLen; omega, (hxs7.below hW (by omega)).moved hG (by omega) (by simp; omega), ⟨_, (hA7.below hW (by omega)).set j _, (hcsW.keep (fun b hb hl => hG.block b hl (by unfold Pq at hb; simp; omega)) (fun _ h _ => h) hG.size).set j hbt⟩, below_grow hbe hG (fun q e => by cases e; exact hgl) hbe.size⟩
        have hTS : ((T n).set j (tear Tj y)).length = k := by rw [List.length_set, HTL.out]
        have HTS := Lib.hid hTS
        have hcg64 : ¬ cg = 64 := by omega
        clear hTS hS hTgd hbin hpy hpt hyt hbe7 hby0 hv0 hcs7 hA7 hA' hxs7 hcs' hN7 hG7 hB7 hW7 hBr hjc hly hlt6
        go_cut [6] from 65 (fun s6 wx => s6 = .pointer (some ⟨x, 0, none⟩) ∧ R7 w w1 k n ((T n).set j (tear Tj y)) false x g cap wx)
        case first =>
          -- <14
          rename_i J2 K2 hJ2 hM2
          refine wp_region_held_drew (S := fun W => Below w1.heap.size w1 W ∧ W.cell? ⟨x, 0, none⟩ = some (.slice (some ⟨g, 0, none⟩) k cap) ∧ W.cell? ⟨q, 0, none⟩ = some (.int .i64 j) ∧ W.cell? ⟨q, 1, none⟩ = some (.slice a 128 c)) (by kernel_rfl) (HS.out _ (Below.drew (Below.refl W7.heap.size W7))) (fun hHeld => ?_)
          refine wpAnyH_take (i := 0) (oi := q24d0) (v := ?_) rfl (by kernel_rfl) (by kernel_rfl) (by kernel_rfl) (fun _ _ _ h => h) (Or.inl ⟨by rfl, ?_⟩) hHeld ?_
          rotate_left
          · (intro w hSw; (try dsimp only at hSw); unfold q24d0; go_simp <;> with_reducible rfl)
          try simp only [q24d0, Act.put, List.setIfInBounds_toArray, List.set_cons_zero, List.set_cons_succ]
          refine wpAnyH_take (i := 1) (oi := q24d1) (v := ?_) rfl (by kernel_rfl) (by kernel_rfl) (by kernel_rfl) (fun _ _ _ h => h) (Or.inl ⟨by rfl, ?_⟩) hHeld ?_
          rotate_left
          · (intro w hSw; (try dsimp only at hSw); unfold q24d1; go_simp <;> with_reducible rfl)
          try simp only [q24d1, Act.put, List.setIfInBounds_toArray, List.set_cons_zero, List.set_cons_succ]
          refine wpAnyH_take (i := 2) (oi := q24d2) (v := ?_) rfl (by kernel_rfl) (by kernel_rfl) (by kernel_rfl) (fun _ _ _ h => h) (Or.inl ⟨by rfl, ?_⟩) hHeld ?_
          rotate_left
          · (intro w hSw; (try dsimp only at hSw); unfold q24d2; go_simp <;> with_reducible rfl)
          try simp only [q24d2, Act.put, List.setIfInBounds_toArray, List.set_cons_zero, List.set_cons_succ]
          refine wpAnyH_take (i := 3) (oi := q24d3) (v := ?_) rfl (by kernel_rfl) (by kernel_rfl) (by kernel_rfl) (fun _ _ _ h => h) (Or.inl ⟨by rfl, ?_⟩) hHeld ?_
          rotate_left
          · (intro w hSw; (try dsimp only at hSw); unfold q24d3; go_simp <;> with_reducible rfl)
          try simp only [q24d3, Act.put, List.setIfInBounds_toArray, List.set_cons_zero, List.set_cons_succ]
          refine wpAnyH_take (i := 5) (oi := q24d5) (v := ?_) rfl (by kernel_rfl) (by kernel_rfl) (by kernel_rfl) (fun _ _ _ h => h) (Or.inl ⟨by rfl, ?_⟩) hHeld ?_
          rotate_left
          · (intro w hSw; (try dsimp only at hSw); unfold q24d5; go_simp <;> with_reducible rfl)
          try simp only [q24d5, Act.put, List.setIfInBounds_toArray, List.set_cons_zero, List.set_cons_succ]
          refine wpAnyH_take (i := 6) (oi := q24d6) (v := ?_) rfl (by kernel_rfl) (by kernel_rfl) (by kernel_rfl) (fun _ _ _ h => h) (Or.inl ⟨by rfl, ?_⟩) hHeld ?_
          rotate_left
          · (intro w hSw; (try dsimp only at hSw); unfold q24d6; go_simp <;> with_reducible rfl)
          try simp only [q24d6, Act.put, List.setIfInBounds_toArray, List.set_cons_zero, List.set_cons_succ]
          refine wpAnyH_take (i := 7) (oi := q24d7) (v := ?_) rfl (by kernel_rfl) (by kernel_rfl) (by kernel_rfl) (fun _ _ _ h => h) (Or.inl ⟨by rfl, ?_⟩) hHeld ?_
          rotate_left
          · (intro w hSw; (try dsimp only at hSw); unfold q24d7; go_simp <;> with_reducible rfl)
          try simp only [q24d7, Act.put, List.setIfInBounds_toArray, List.set_cons_zero, List.set_cons_succ]
          refine wpAnyH_take (i := 9) (oi := q24d9) (v := ?_) rfl (by kernel_rfl) (by kernel_rfl) (by kernel_rfl) (fun _ _ _ h => h) (Or.inl ⟨by rfl, ?_⟩) hHeld ?_
          rotate_left
          · (intro w hSw; (try dsimp only at hSw); unfold q24d9; go_simp <;> with_reducible rfl)
          try simp only [q24d9, Act.put, List.setIfInBounds_toArray, List.set_cons_zero, List.set_cons_succ]
          refine wpAnyH_take (i := 10) (oi := q24d10) (v := ?_) rfl (by kernel_rfl) (by kernel_rfl) (by kernel_rfl) (fun _ _ _ h => h) (Or.inl ⟨by rfl, ?_⟩) hHeld ?_
          rotate_left
          · (intro w hSw; (try dsimp only at hSw); unfold q24d10; go_simp <;> with_reducible rfl)
          try simp only [q24d10, Act.put, List.setIfInBounds_toArray, List.set_cons_zero, List.set_cons_succ]
          refine wpAnyH_take (i := 11) (oi := q24d11) (v := ?_) rfl (by kernel_rfl) (by kernel_rfl) (by kernel_rfl) (fun _ _ _ h => h) (Or.inl ⟨by rfl, ?_⟩) hHeld ?_
          rotate_left
          · (intro w hSw; (try dsimp only at hSw); unfold q24d11; go_simp <;> with_reducible rfl)
          try simp only [q24d11, Act.put, List.setIfInBounds_toArray, List.set_cons_zero, List.set_cons_succ]
          refine wpAnyH_take (i := 12) (oi := q24d12) (v := ?_) rfl (by kernel_rfl) (by kernel_rfl) (by kernel_rfl) (fun _ _ _ h => h) (Or.inl ⟨by rfl, ?_⟩) hHeld ?_
          rotate_left
          · (intro w hSw; (try dsimp only at hSw); unfold q24d12; go_simp <;> with_reducible rfl)
          try simp only [q24d12, Act.put, List.setIfInBounds_toArray, List.set_cons_zero, List.set_cons_succ]
          refine wpAnyH_take (i := 13) (oi := q24d13) (v := ?_) rfl (by kernel_rfl) (by kernel_rfl) (by kernel_rfl) (fun _ _ _ h => h) (Or.inl ⟨by rfl, ?_⟩) hHeld ?_
          rotate_left
          · (intro w hSw; (try dsimp only at hSw); unfold q24d13; go_simp <;> with_reducible rfl)
          try simp only [q24d13, Act.put, List.setIfInBounds_toArray, List.set_cons_zero, List.set_cons_succ]
          refine wpAnyH_ready (rs := [4, 14]) (by kernel_rfl) (by simp) ?_
          refine AllReadyH.cons (o := q24d4) rfl (fun K hK => ?_) (AllReadyH.cons (o := q24d14) rfl (fun K hK => ?_) AllReadyH.nil)
          · skip
            rw [if_pos (by rfl)]
            refine wp_build0 35 5 (by rfl) Try.underlying35 Try.info5 ?_
            intro g0 V0 hG0 hge0 hlt0 hO0
            have hO0 : V0.ownsRow W7.heap.size 5 1 (.slice (some ⟨g0, 0, none⟩) 0 0) 0 (cells8 []) := hO0 W7.heap.size (Below.drew (Below.refl W7.heap.size W7)).size
            have hV0 := below_grow (Below.drew (Below.refl W7.heap.size W7)) hG0 (fun _ h => by cases h) (Below.drew (Below.refl W7.heap.size W7)).size
            refine hK.out _ _ (HS.out _ hV0) (fun hHeld => ?_)
            clear hK K
            try simp only [q24d4, Act.put, List.setIfInBounds_toArray, List.set_cons_zero, List.set_cons_succ]
            refine wpAnyH_ready (rs := [8, 14]) (by kernel_rfl) (by simp) ?_
            refine AllReadyH.cons (o := q24d8) rfl (fun K hK => ?_) (AllReadyH.cons (o := q24d14) rfl (fun K hK => ?_) AllReadyH.nil)
            · skip
              rw [if_pos (by rfl)]
              refine wp_piece 35 5 (.tmp 69) (.tmp 72) (by rfl) Try.underlying35 Try.info5 rfl (by decide) (by rfl) hO0 (by rfl) (HPY.out.kept hV0) (by rw [cells8_len]; exact HLY.out) (one_cells8 _) (by unfold maxLen; omega) (by omega) hV0.size 64 (by omega) (cells8 (y.take 64)) (by rw [← cells8_app]; rfl) ?_
              intro g8 c8 V8 hO8 hG8 hat8
              have hg8 := (own_bytes hO0).1
              have hV8 := below_grow hV0 hG8 (fun q e => by cases e; exact hg8) hV0.size
              refine hK.out _ _ (HS.out _ hV8) (fun hHeld => ?_)
              clear hK K
              try simp only [q24d8, Act.put, List.setIfInBounds_toArray, List.set_cons_zero, List.set_cons_succ]
              refine wpAnyH_ready (rs := [14]) (by kernel_rfl) (by simp) ?_
              refine AllReadyH.cons (o := q24d14) rfl (fun K hK => ?_) AllReadyH.nil
              rw [if_pos (by rfl)]
              have kj := HGJ.out _ hV8
              unfold q24d14
              go_simp
              refine hK.out _ _ hHeld (fun hHeld => ?_)
              clear kj
              clear hK K
              try simp only [q24d14, Act.put, List.setIfInBounds_toArray, List.set_cons_zero, List.set_cons_succ]
              refine wpAnyH_take (i := 15) (oi := q24d15) (v := Value.slice (some ⟨db, off + 64, none⟩) 64 (cg - 64)) rfl (by kernel_rfl) (by kernel_rfl) (by kernel_rfl) (fun _ _ _ h => h) (Or.inl ⟨by rfl, ?_⟩) hHeld ?_
              · (intro w hSw; (try dsimp only at hSw); unfold q24d15; go_simp)
              try simp only [q24d15, Act.put, List.setIfInBounds_toArray, List.set_cons_zero, List.set_cons_succ]
              refine wpAnyH_ready (rs := [16]) (by kernel_rfl) (by simp) ?_
              refine AllReadyH.cons (o := q24d16) rfl (fun K hK => ?_) AllReadyH.nil
              rw [if_pos (by rfl)]
              refine wp_piece 35 5 (.tmp 73) (.tmp 80) (by rfl) Try.underlying35 Try.info5 rfl (by decide) (by rfl) hO8 (by rfl) (HPT.out.kept hV8) (by rw [cells8_len]; exact HLT.out) (one_cells8 _) (by unfold maxLen; omega) (by omega) hV8.size 128 (by omega) (cells8 (tear Tj y)) (by rw [← cells8_app]; rfl) ?_
              intro g16 c16 V16 hO16 hG16 hat16
              have hg16 := (own_bytes hO8).1
              have hV16 := below_grow hV8 hG16 (fun q e => by cases e; exact hg16) hV8.size
              refine hK.out _ _ (HS.out _ hV16) (fun hHeld => ?_)
              clear hK K
              try simp only [q24d16, Act.put, List.setIfInBounds_toArray, List.set_cons_zero, List.set_cons_succ]
              refine wpAnyH_take (i := 17) (oi := q24d17) (v := ?_) rfl (by kernel_rfl) (by kernel_rfl) (by kernel_rfl) (fun _ _ _ h => h) (Or.inl ⟨by rfl, ?_⟩) hHeld ?_
              rotate_left
              · (intro w hSw; (try dsimp only at hSw); unfold q24d17; go_simp <;> with_reducible rfl)
              try simp only [q24d17, Act.put, List.setIfInBounds_toArray, List.set_cons_zero, List.set_cons_succ]
              refine wpAnyH_ready (rs := [18]) (by kernel_rfl) (by simp) ?_
              refine AllReadyH.cons (o := q24d18) rfl (fun K hK => ?_) AllReadyH.nil
              rw [if_pos (by rfl)]
              have kj := HGJ.out _ hV16
              have kf := HGF.out _ hV16
              unfold q24d18
              go_simp
              refine hK.out _ _ (HST.out _ _ hV16) (fun hHeld => ?_)
              clear hK K
              try simp only [q24d18, Act.put]
              refine wpAnyH_done (by kernel_rfl) ?_ _
              refine hM2 _ _ ?_
              go_meet
              exact ⟨rfl, HFR.out _ _ _ hO16 hV16⟩
            · skip
              rw [if_pos (by rfl)]
              have kj := HGJ.out _ hV0
              unfold q24d14
              go_simp
              refine hK.out _ _ hHeld (fun hHeld => ?_)
              clear kj
              clear hK K
              try simp only [q24d14, Act.put, List.setIfInBounds_toArray, List.set_cons_zero, List.set_cons_succ]
              refine wpAnyH_take (i := 15) (oi := q24d15) (v := Value.slice (some ⟨db, off + 64, none⟩) 64 (cg - 64)) rfl (by kernel_rfl) (by kernel_rfl) (by kernel_rfl) (fun _ _ _ h => h) (Or.inl ⟨by rfl, ?_⟩) hHeld ?_
              · (intro w hSw; (try dsimp only at hSw); unfold q24d15; go_simp)
              try simp only [q24d15, Act.put, List.setIfInBounds_toArray, List.set_cons_zero, List.set_cons_succ]
              refine wpAnyH_ready (rs := [8]) (by kernel_rfl) (by simp) ?_
              refine AllReadyH.cons (o := q24d8) rfl (fun K hK => ?_) AllReadyH.nil
              rw [if_pos (by rfl)]
              refine wp_piece 35 5 (.tmp 69) (.tmp 72) (by rfl) Try.underlying35 Try.info5 rfl (by decide) (by rfl) hO0 (by rfl) (HPY.out.kept hV0) (by rw [cells8_len]; exact HLY.out) (one_cells8 _) (by unfold maxLen; omega) (by omega) hV0.size 64 (by omega) (cells8 (y.take 64)) (by rw [← cells8_app]; rfl) ?_
              intro g8 c8 V8 hO8 hG8 hat8
              have hg8 := (own_bytes hO0).1
              have hV8 := below_grow hV0 hG8 (fun q e => by cases e; exact hg8) hV0.size
              refine hK.out _ _ (HS.out _ hV8) (fun hHeld => ?_)
              clear hK K
              try simp only [q24d8, Act.put, List.setIfInBounds_toArray, List.set_cons_zero, List.set_cons_succ]
              refine wpAnyH_ready (rs := [16]) (by kernel_rfl) (by simp) ?_
              refine AllReadyH.cons (o := q24d16) rfl (fun K hK => ?_) AllReadyH.nil
              rw [if_pos (by rfl)]
              refine wp_piece 35 5 (.tmp 73) (.tmp 80) (by rfl) Try.underlying35 Try.info5 rfl (by decide) (by rfl) hO8 (by rfl) (HPT.out.kept hV8) (by rw [cells8_len]; exact HLT.out) (one_cells8 _) (by unfold maxLen; omega) (by omega) hV8.size 128 (by omega) (cells8 (tear Tj y)) (by rw [← cells8_app]; rfl) ?_
              intro g16 c16 V16 hO16 hG16 hat16
              have hg16 := (own_bytes hO8).1
              have hV16 := below_grow hV8 hG16 (fun q e => by cases e; exact hg16) hV8.size
              refine hK.out _ _ (HS.out _ hV16) (fun hHeld => ?_)
              clear hK K
              try simp only [q24d16, Act.put, List.setIfInBounds_toArray, List.set_cons_zero, List.set_cons_succ]
              refine wpAnyH_take (i := 17) (oi := q24d17) (v := ?_) rfl (by kernel_rfl) (by kernel_rfl) (by kernel_rfl) (fun _ _ _ h => h) (Or.inl ⟨by rfl, ?_⟩) hHeld ?_
              rotate_left
              · (intro w hSw; (try dsimp only at hSw); unfold q24d17; go_simp <;> with_reducible rfl)
              try simp only [q24d17, Act.put, List.setIfInBounds_toArray, List.set_cons_zero, List.set_cons_succ]
              refine wpAnyH_ready (rs := [18]) (by kernel_rfl) (by simp) ?_
              refine AllReadyH.cons (o := q24d18) rfl (fun K hK => ?_) AllReadyH.nil
              rw [if_pos (by rfl)]
              have kj := HGJ.out _ hV16
              have kf := HGF.out _ hV16
              unfold q24d18
              go_simp
              refine hK.out _ _ (HST.out _ _ hV16) (fun hHeld => ?_)
              clear hK K
              try simp only [q24d18, Act.put]
              refine wpAnyH_done (by kernel_rfl) ?_ _
              refine hM2 _ _ ?_
              go_meet
              exact ⟨rfl, HFR.out _ _ _ hO16 hV16⟩
          · skip
            rw [if_pos (by rfl)]
            have kj := HGJ.out _ (Below.drew (Below.refl W7.heap.size W7))
            unfold q24d14
            go_simp
            refine hK.out _ _ hHeld (fun hHeld => ?_)
            clear kj
            clear hK K
            try simp only [q24d14, Act.put, List.setIfInBounds_toArray, List.set_cons_zero, List.set_cons_succ]
            refine wpAnyH_take (i := 15) (oi := q24d15) (v := Value.slice (some ⟨db, off + 64, none⟩) 64 (cg - 64)) rfl (by kernel_rfl) (by kernel_rfl) (by kernel_rfl) (fun _ _ _ h => h) (Or.inl ⟨by rfl, ?_⟩) hHeld ?_
            · (intro w hSw; (try dsimp only at hSw); unfold q24d15; go_simp)
            try simp only [q24d15, Act.put, List.setIfInBounds_toArray, List.set_cons_zero, List.set_cons_succ]
            refine wpAnyH_ready (rs := [4]) (by kernel_rfl) (by simp) ?_
            refine AllReadyH.cons (o := q24d4) rfl (fun K hK => ?_) AllReadyH.nil
            rw [if_pos (by rfl)]
            refine wp_build0 35 5 (by rfl) Try.underlying35 Try.info5 ?_
            intro g0 V0 hG0 hge0 hlt0 hO0
            have hO0 : V0.ownsRow W7.heap.size 5 1 (.slice (some ⟨g0, 0, none⟩) 0 0) 0 (cells8 []) := hO0 W7.heap.size (Below.drew (Below.refl W7.heap.size W7)).size
            have hV0 := below_grow (Below.drew (Below.refl W7.heap.size W7)) hG0 (fun _ h => by cases h) (Below.drew (Below.refl W7.heap.size W7)).size
            refine hK.out _ _ (HS.out _ hV0) (fun hHeld => ?_)
            clear hK K
            try simp only [q24d4, Act.put, List.setIfInBounds_toArray, List.set_cons_zero, List.set_cons_succ]
            refine wpAnyH_ready (rs := [8]) (by kernel_rfl) (by simp) ?_
            refine AllReadyH.cons (o := q24d8) rfl (fun K hK => ?_) AllReadyH.nil
            rw [if_pos (by rfl)]
            refine wp_piece 35 5 (.tmp 69) (.tmp 72) (by rfl) Try.underlying35 Try.info5 rfl (by decide) (by rfl) hO0 (by rfl) (HPY.out.kept hV0) (by rw [cells8_len]; exact HLY.out) (one_cells8 _) (by unfold maxLen; omega) (by omega) hV0.size 64 (by omega) (cells8 (y.take 64)) (by rw [← cells8_app]; rfl) ?_
            intro g8 c8 V8 hO8 hG8 hat8
            have hg8 := (own_bytes hO0).1
            have hV8 := below_grow hV0 hG8 (fun q e => by cases e; exact hg8) hV0.size
            refine hK.out _ _ (HS.out _ hV8) (fun hHeld => ?_)
            clear hK K
            try simp only [q24d8, Act.put, List.setIfInBounds_toArray, List.set_cons_zero, List.set_cons_succ]
            refine wpAnyH_ready (rs := [16]) (by kernel_rfl) (by simp) ?_
            refine AllReadyH.cons (o := q24d16) rfl (fun K hK => ?_) AllReadyH.nil
            rw [if_pos (by rfl)]
            refine wp_piece 35 5 (.tmp 73) (.tmp 80) (by rfl) Try.underlying35 Try.info5 rfl (by decide) (by rfl) hO8 (by rfl) (HPT.out.kept hV8) (by rw [cells8_len]; exact HLT.out) (one_cells8 _) (by unfold maxLen; omega) (by omega) hV8.size 128 (by omega) (cells8 (tear Tj y)) (by rw [← cells8_app]; rfl) ?_
            intro g16 c16 V16 hO16 hG16 hat16
            have hg16 := (own_bytes hO8).1
            have hV16 := below_grow hV8 hG16 (fun q e => by cases e; exact hg16) hV8.size
            refine hK.out _ _ (HS.out _ hV16) (fun hHeld => ?_)
            clear hK K
            try simp only [q24d16, Act.put, List.setIfInBounds_toArray, List.set_cons_zero, List.set_cons_succ]
            refine wpAnyH_take (i := 17) (oi := q24d17) (v := ?_) rfl (by kernel_rfl) (by kernel_rfl) (by kernel_rfl) (fun _ _ _ h => h) (Or.inl ⟨by rfl, ?_⟩) hHeld ?_
            rotate_left
            · (intro w hSw; (try dsimp only at hSw); unfold q24d17; go_simp <;> with_reducible rfl)
            try simp only [q24d17, Act.put, List.setIfInBounds_toArray, List.set_cons_zero, List.set_cons_succ]
            refine wpAnyH_ready (rs := [18]) (by kernel_rfl) (by simp) ?_
            refine AllReadyH.cons (o := q24d18) rfl (fun K hK => ?_) AllReadyH.nil
            rw [if_pos (by rfl)]
            have kj := HGJ.out _ hV16
            have kf := HGF.out _ hV16
            unfold q24d18
            go_simp
            refine hK.out _ _ (HST.out _ _ hV16) (fun hHeld => ?_)
            clear hK K
            try simp only [q24d18, Act.put]
            refine wpAnyH_done (by kernel_rfl) ?_ _
            refine hM2 _ _ ?_
            go_meet
            exact ⟨rfl, HFR.out _ _ _ hO16 hV16⟩
          -- 14>
        case rest =>
          obtain ⟨rfl, h7⟩ := hcut
          have H7 := Lib.hid h7
          obtain ⟨x0, x1, x2, x3⟩ := h7.xs.four
          obtain ⟨f0, f1, f2, f3⟩ := h7.xs.free
          have hx2 := h7.xs.set 2 (.int .i64 0)
          have hx3 := hx2.set 3 (.bool true)
          have hG := gtrans (grown_setCell (W := wc) (b := x) 2 (.int .i64 0)) (grown_setCell (b := x) 3 (.bool true))
          have hYc := ((HY1.out.below h7.bel (by omega)).moved hG (by have := h7.bel.size; omega) (by simp; omega))
          have HYC := Lib.hid hYc
          have HGG := Lib.hid hG
          clear h7 hx2 hx3 hYc hG
          go_wp2_with (refine store_disk rfl (.tmp 2) (.tmp 85) rfl (w.heap.size + 1) _ _ _ _ _ _ _ _ (by rfl) (by rfl) HYC.out rfl ?_; intro W9 hG9 hA9; obtain ⟨y0, y1, y2, y3⟩ := hA9.four)
          obtain ⟨o1, o2⟩ := H7.out.fin HTS.out HB1.out hlt1 HGG.out hG9 0 true ⟨by decide, by decide⟩
          refine bodyPost_ret (v := .tuple #[.agg #[.slice (some ⟨g, 0, none⟩) k cap, .slice none 0 0, .int .i64 0, .bool true], .int .i64 40]) (by simp [results, Try.results24, go_sem, y0, y1, y2, y3]) rfl ⟨_, rfl, o1, o2⟩
  · skip
    obtain ⟨hmp, hmq⟩ : m = p ∧ (left < 0 ∨ (p : Int) ≤ left) := by rcases HMC.out with ⟨h, _⟩ | ⟨_, h1, h2⟩; cases h; exact ⟨h1, h2⟩
    subst hmp
    have hneg : left < 0 := by simpa using d1
    go_wp2_with fail
    go_cut [6] from 32 (fun s6 wx => ∃ x g cap, s6 = .pointer (some ⟨x, 0, none⟩) ∧ R7 w w1 k left (T 0) false x g cap wx)
    case first =>
      -- <7
      rename_i J1 K1 hJ1 hM1
      refine wp_region_held_drew (S := fun W => Below w1.heap.size w1 W ∧ W.cell? ⟨w.heap.size, 0, none⟩ = some (.slice sa k cs0) ∧ W.cell? ⟨w.heap.size, 2, none⟩ = some (.int .i64 left)) (by kernel_rfl) ⟨Below.drew (Below.refl _ _), e0, e2⟩ (fun hHeld => ?_)
      refine wpAnyH_take (i := 1) (oi := q24a1) (v := ?_) rfl (by kernel_rfl) (by kernel_rfl) (by kernel_rfl) (fun _ _ _ h => h) (Or.inl ⟨by rfl, ?_⟩) hHeld ?_
      rotate_left
      · (intro w hSw; (try dsimp only at hSw); unfold q24a1; go_simp <;> with_reducible rfl)
      try simp only [q24a1, Act.put, List.setIfInBounds_toArray, List.set_cons_zero, List.set_cons_succ]
      refine wpAnyH_take (i := 2) (oi := q24a2) (v := ?_) rfl (by kernel_rfl) (by kernel_rfl) (by kernel_rfl) (fun _ _ _ h => h) (Or.inl ⟨by rfl, ?_⟩) hHeld ?_
      rotate_left
      · (intro w hSw; (try dsimp only at hSw); unfold q24a2; go_simp <;> with_reducible rfl)
      try simp only [q24a2, Act.put, List.setIfInBounds_toArray, List.set_cons_zero, List.set_cons_succ]
      refine wpAnyH_take (i := 4) (oi := q24a4) (v := ?_) rfl (by kernel_rfl) (by kernel_rfl) (by kernel_rfl) (fun _ _ _ h => h) (Or.inl ⟨by rfl, ?_⟩) hHeld ?_
      rotate_left
      · (intro w hSw; (try dsimp only at hSw); unfold q24a4; go_simp <;> with_reducible rfl)
      try simp only [q24a4, Act.put, List.setIfInBounds_toArray, List.set_cons_zero, List.set_cons_succ]
      refine wpAnyH_take (i := 5) (oi := q24a5) (v := ?_) rfl (by kernel_rfl) (by kernel_rfl) (by kernel_rfl) (fun _ _ _ h => h) (Or.inl ⟨by rfl, ?_⟩) hHeld ?_
      rotate_left
      · (intro w hSw; (try dsimp only at hSw); unfold q24a5; go_simp <;> with_reducible rfl)
      try simp only [q24a5, Act.put, List.setIfInBounds_toArray, List.set_cons_zero, List.set_cons_succ]
      refine wpAnyH_ready (rs := [0, 7]) (by kernel_rfl) (by simp) ?_
      refine AllReadyH.cons (o := q24a0) rfl (fun K hK => ?_) (AllReadyH.cons (o := q24a7) rfl (fun K hK => ?_) AllReadyH.nil)
      · skip
        rw [if_pos (by rfl)]
        refine wp_build0 22 35 (by rfl) Try.underlying22 Try.info35 ?_
        intro g0 W0 hG0 hge0 hlt0 hO0
        have hO0 := hO0 w1.heap.size (Below.drew (Below.refl w1.heap.size w1)).size
        have hB0 := below_grow (Below.drew (Below.refl w1.heap.size w1)) hG0 (fun _ h => by cases h) (Below.drew (Below.refl w1.heap.size w1)).size
        refine hK.out _ _ (HS.out _ hB0) (fun hHeld => ?_)
        clear hK K
        try simp only [q24a0, Act.put, List.setIfInBounds_toArray, List.set_cons_zero, List.set_cons_succ]
        refine wpAnyH_ready (rs := [3, 7]) (by kernel_rfl) (by simp) ?_
        refine AllReadyH.cons (o := q24a3) rfl (fun K hK => ?_) (AllReadyH.cons (o := q24a7) rfl (fun K hK => ?_) AllReadyH.nil)
        · skip
          rw [if_pos (by rfl)]
          refine wp_piece 22 35 (.tmp 32) (.tmp 34) (by rfl) Try.underlying22 Try.info35 rfl (by decide) (by rfl) hO0 (by rfl) (HPC.out.kept hB0) HCL.out HON.out (by unfold maxLen; omega) (by omega) hB0.size k (by omega) cs (by simp) ?_
          intro g cap W3 hO3 hG3 hat3
          have hg0 := (own_arr hO0).1
          have hB3 := below_grow hB0 hG3 (fun q e => by cases e; exact hg0) hB0.size
          have lg3 := (own_arr hO3).2.1
          refine hK.out _ _ (HS.out _ hB3) (fun hHeld => ?_)
          clear hK K
          try simp only [q24a3, Act.put, List.setIfInBounds_toArray, List.set_cons_zero, List.set_cons_succ]
          refine wpAnyH_take (i := 6) (oi := q24a6) (v := ?_) rfl (by kernel_rfl) (by kernel_rfl) (by kernel_rfl) (fun _ _ _ h => h) (Or.inl ⟨by rfl, ?_⟩) hHeld ?_
          rotate_left
          · (intro w hSw; (try dsimp only at hSw); unfold q24a6; go_simp <;> with_reducible rfl)
          try simp only [q24a6, Act.put, List.setIfInBounds_toArray, List.set_cons_zero, List.set_cons_succ]
          refine wpAnyH_ready (rs := [7]) (by kernel_rfl) (by simp) ?_
          refine AllReadyH.cons (o := q24a7) rfl (fun K hK => ?_) AllReadyH.nil
          rw [if_pos (by rfl)]
          refine wp_alloc25 (by rfl) ?_
          intro x W7 hG7 hge7 lX7 hX7
          have hB7 := below_grow hB3 hG7 (fun _ h => by cases h) hB3.size
          have hxl : w1.heap.size ≤ x := Nat.le_trans hB3.size hge7
          have hne : g ≠ x := by omega
          have hO7 := own_moved hO3 hG7 (by simp)
          have lg7 := Nat.lt_of_lt_of_le lg3 hG7.size
          refine hK.out _ _ (HS.out _ hB7) (fun hHeld => ?_)
          clear hK K
          try simp only [q24a7, Act.put, List.setIfInBounds_toArray, List.set_cons_zero, List.set_cons_succ]
          refine wpAnyH_ready (rs := [8]) (by kernel_rfl) (by simp) ?_
          refine AllReadyH.cons (o := q24a8) rfl (fun K hK => ?_) AllReadyH.nil
          rw [if_pos (by rfl)]
          refine wp_st25 (.tmp 6) (.tmp 38) (by rfl) x _ _ _ _ _ (by rfl) (by rfl) hX7 rfl rfl ?_
          intro W8 hG8 hX8
          have hB8 := below_grow hB7 hG8 (fun q e => by cases e; exact hxl) hB7.size
          have hO8 := own_moved hO7 hG8 (by simpa using hne)
          have lX8 := Nat.lt_of_lt_of_le lX7 hG8.size
          refine hK.out _ _ (HS.out _ hB8) (fun hHeld => ?_)
          clear hK K
          try simp only [q24a8, Act.put]
          refine wpAnyH_done (by kernel_rfl) ?_ _
          obtain ⟨o1, o2, o3, o4, o5⟩ := own_arr hO8
          refine hM1 _ _ ?_
          go_meet
          exact ⟨x, g, cap, rfl, hne, o1, hxl, o2, lX8, o3, o4, hX8, ⟨cs, o5, by rw [HT0.out]; exact HCS.out.keep (fun b hb _ => hB8.block b (by have : b < w.heap.size := hb; omega)) (fun b hb _ => .inl hb) hB8.size⟩, hB8⟩
        · skip
          rw [if_pos (by rfl)]
          refine wp_alloc25 (by rfl) ?_
          intro x W7 hG7 hge7 lX7 hX7
          have hB7 := below_grow hB0 hG7 (fun _ h => by cases h) hB0.size
          have hxl : w1.heap.size ≤ x := Nat.le_trans hB0.size hge7
          have hne : g0 ≠ x := by omega
          have hO7 := own_moved hO0 hG7 (by simp)
          have lg7 := Nat.lt_of_lt_of_le hlt0 hG7.size
          refine hK.out _ _ (HS.out _ hB7) (fun hHeld => ?_)
          clear hK K
          try simp only [q24a7, Act.put, List.setIfInBounds_toArray, List.set_cons_zero, List.set_cons_succ]
          refine wpAnyH_ready (rs := [3]) (by kernel_rfl) (by simp) ?_
          refine AllReadyH.cons (o := q24a3) rfl (fun K hK => ?_) AllReadyH.nil
          rw [if_pos (by rfl)]
          refine wp_piece 22 35 (.tmp 32) (.tmp 34) (by rfl) Try.underlying22 Try.info35 rfl (by decide) (by rfl) hO7 (by rfl) (HPC.out.kept hB7) HCL.out HON.out (by unfold maxLen; omega) (by omega) hB7.size k (by omega) cs (by simp) ?_
          intro g cap W3 hO3 hG3 hat3
          have hg0 := (own_arr hO7).1
          have hB3 := below_grow hB7 hG3 (fun q e => by cases e; exact hg0) hB7.size
          have lg3 := (own_arr hO3).2.1
          have hX3 := hX7.moved hG3 lX7 (by simpa using hne.symm)
          have lX3 := Nat.lt_of_lt_of_le lX7 hG3.size
          have hne : g ≠ x := by rcases hat3 with h | h <;> omega
          refine hK.out _ _ (HS.out _ hB3) (fun hHeld => ?_)
          clear hK K
          try simp only [q24a3, Act.put, List.setIfInBounds_toArray, List.set_cons_zero, List.set_cons_succ]
          refine wpAnyH_take (i := 6) (oi := q24a6) (v := ?_) rfl (by kernel_rfl) (by kernel_rfl) (by kernel_rfl) (fun _ _ _ h => h) (Or.inl ⟨by rfl, ?_⟩) hHeld ?_
          rotate_left
          · (intro w hSw; (try dsimp only at hSw); unfold q24a6; go_simp <;> with_reducible rfl)
          try simp only [q24a6, Act.put, List.setIfInBounds_toArray, List.set_cons_zero, List.set_cons_succ]
          refine wpAnyH_ready (rs := [8]) (by kernel_rfl) (by simp) ?_
          refine AllReadyH.cons (o := q24a8) rfl (fun K hK => ?_) AllReadyH.nil
          rw [if_pos (by rfl)]
          refine wp_st25 (.tmp 6) (.tmp 38) (by rfl) x _ _ _ _ _ (by rfl) (by rfl) hX3 rfl rfl ?_
          intro W8 hG8 hX8
          have hB8 := below_grow hB3 hG8 (fun q e => by cases e; exact hxl) hB3.size
          have hO8 := own_moved hO3 hG8 (by simpa using hne)
          have lX8 := Nat.lt_of_lt_of_le lX3 hG8.size
          refine hK.out _ _ (HS.out _ hB8) (fun hHeld => ?_)
          clear hK K
          try simp only [q24a8, Act.put]
          refine wpAnyH_done (by kernel_rfl) ?_ _
          obtain ⟨o1, o2, o3, o4, o5⟩ := own_arr hO8
          refine hM1 _ _ ?_
          go_meet
          exact ⟨x, g, cap, rfl, hne, o1, hxl, o2, lX8, o3, o4, hX8, ⟨cs, o5, by rw [HT0.out]; exact HCS.out.keep (fun b hb _ => hB8.block b (by have : b < w.heap.size := hb; omega)) (fun b hb _ => .inl hb) hB8.size⟩, hB8⟩
      · skip
        rw [if_pos (by rfl)]
        refine wp_alloc25 (by rfl) ?_
        intro x W7 hG7 hge7 lX7 hX7
        have hB7 := below_grow (Below.drew (Below.refl w1.heap.size w1)) hG7 (fun _ h => by cases h) (Below.drew (Below.refl w1.heap.size w1)).size
        have hxl : w1.heap.size ≤ x := Nat.le_trans (Below.drew (Below.refl w1.heap.size w1)).size hge7
        refine hK.out _ _ (HS.out _ hB7) (fun hHeld => ?_)
        clear hK K
        try simp only [q24a7, Act.put, List.setIfInBounds_toArray, List.set_cons_zero, List.set_cons_succ]
        refine wpAnyH_ready (rs := [0]) (by kernel_rfl) (by simp) ?_
        refine AllReadyH.cons (o := q24a0) rfl (fun K hK => ?_) AllReadyH.nil
        rw [if_pos (by rfl)]
        refine wp_build0 22 35 (by rfl) Try.underlying22 Try.info35 ?_
        intro g0 W0 hG0 hge0 hlt0 hO0
        have hO0 := hO0 w1.heap.size hB7.size
        have hB0 := below_grow hB7 hG0 (fun _ h => by cases h) hB7.size
        have hX0 := hX7.moved hG0 lX7 (by simp)
        have lX0 := Nat.lt_of_lt_of_le lX7 hG0.size
        have hne : g0 ≠ x := by omega
        refine hK.out _ _ (HS.out _ hB0) (fun hHeld => ?_)
        clear hK K
        try simp only [q24a0, Act.put, List.setIfInBounds_toArray, List.set_cons_zero, List.set_cons_succ]
        refine wpAnyH_ready (rs := [3]) (by kernel_rfl) (by simp) ?_
        refine AllReadyH.cons (o := q24a3) rfl (fun K hK => ?_) AllReadyH.nil
        rw [if_pos (by rfl)]
        refine wp_piece 22 35 (.tmp 32) (.tmp 34) (by rfl) Try.underlying22 Try.info35 rfl (by decide) (by rfl) hO0 (by rfl) (HPC.out.kept hB0) HCL.out HON.out (by unfold maxLen; omega) (by omega) hB0.size k (by omega) cs (by simp) ?_
        intro g cap W3 hO3 hG3 hat3
        have hg0 := (own_arr hO0).1
        have hB3 := below_grow hB0 hG3 (fun q e => by cases e; exact hg0) hB0.size
        have lg3 := (own_arr hO3).2.1
        have hX3 := hX0.moved hG3 lX0 (by simpa using hne.symm)
        have lX3 := Nat.lt_of_lt_of_le lX0 hG3.size
        have hne : g ≠ x := by rcases hat3 with h | h <;> omega
        refine hK.out _ _ (HS.out _ hB3) (fun hHeld => ?_)
        clear hK K
        try simp only [q24a3, Act.put, List.setIfInBounds_toArray, List.set_cons_zero, List.set_cons_succ]
        refine wpAnyH_take (i := 6) (oi := q24a6) (v := ?_) rfl (by kernel_rfl) (by kernel_rfl) (by kernel_rfl) (fun _ _ _ h => h) (Or.inl ⟨by rfl, ?_⟩) hHeld ?_
        rotate_left
        · (intro w hSw; (try dsimp only at hSw); unfold q24a6; go_simp <;> with_reducible rfl)
        try simp only [q24a6, Act.put, List.setIfInBounds_toArray, List.set_cons_zero, List.set_cons_succ]
        refine wpAnyH_ready (rs := [8]) (by kernel_rfl) (by simp) ?_
        refine AllReadyH.cons (o := q24a8) rfl (fun K hK => ?_) AllReadyH.nil
        rw [if_pos (by rfl)]
        refine wp_st25 (.tmp 6) (.tmp 38) (by rfl) x _ _ _ _ _ (by rfl) (by rfl) hX3 rfl rfl ?_
        intro W8 hG8 hX8
        have hB8 := below_grow hB3 hG8 (fun q e => by cases e; exact hxl) hB3.size
        have hO8 := own_moved hO3 hG8 (by simpa using hne)
        have lX8 := Nat.lt_of_lt_of_le lX3 hG8.size
        refine hK.out _ _ (HS.out _ hB8) (fun hHeld => ?_)
        clear hK K
        try simp only [q24a8, Act.put]
        refine wpAnyH_done (by kernel_rfl) ?_ _
        obtain ⟨o1, o2, o3, o4, o5⟩ := own_arr hO8
        refine hM1 _ _ ?_
        go_meet
        exact ⟨x, g, cap, rfl, hne, o1, hxl, o2, lX8, o3, o4, hX8, ⟨cs, o5, by rw [HT0.out]; exact HCS.out.keep (fun b hb _ => hB8.block b (by have : b < w.heap.size := hb; omega)) (fun b hb _ => .inl hb) hB8.size⟩, hB8⟩
      -- 7>
    case rest =>
      obtain ⟨x, g, cap, rfl, h7⟩ := hcut
      have H7 := Lib.hid h7
      have hxl := h7.xle
      have hgl := h7.gle
      have hxg := h7.ne
      have hkc := h7.kc
      have hcm := h7.cm
      unfold maxLen at hcm
      clear h7
      go_wp2
      go_loopw [7] (fun i wr => ∃ n : Nat, i = .int .i64 n ∧ n ≤ m ∧ R7 w w1 k left (T n) false x g cap wr) (fun i _ => m - (intOf i).toNat)
      case atStart => exact ⟨0, rfl, Nat.zero_le _, H7.out⟩
      case round =>
      clear H7
      obtain ⟨n, rfl, hnm, h7⟩ := hrel
      have H7 := Lib.hid h7
      have hxr := h7.xlt
      have hgr := h7.glt
      have hBr := h7.bel
      have hX1 := HX1.out.below hBr (by omega)
      have hY1 := HY1.out.below hBr (by omega)
      by_cases hlt : n < m
      · obtain ⟨j, y, b', off', a, c, rfl, hjk, hy8, hb', c0, c1, hc1, hc2, hyb, hTn, -⟩ := HWR.out (by simp) n (by omega)
        have hnp : n < m := by omega
        have hbw : Below w.heap.size w wr := HB1.out.trans (hBr.mono (by omega))
        obtain ⟨cs', hA', hcs'⟩ := h7.gs
        have k0 := h7.xs.four.1
        have k1 := hX1.four.2.1
        have k2 : wr.cell? ⟨b', off' + n * 2, none⟩ = some (.int .i64 j) := (hbw.cell (p := ⟨b', off' + n * 2, none⟩) hb').trans c0
        have k3 : wr.cell? ⟨b', off' + n * 2 + 1, none⟩ = some (.slice a 128 c) := (hbw.cell (p := ⟨b', off' + n * 2 + 1, none⟩) hb').trans c1
        have hjc : j < cs'.length := by rw [hcs'.1, HTL.out]; exact hjk
        have k4 := hA'.frozen hjc
        have k5 := hA'.cell (List.getElem?_eq_getElem hjc)
        obtain ⟨u5, hu5⟩ : ∃ u, cs'[j] = u := ⟨_, rfl⟩
        rw [hu5] at k5
        have hG := grown_setCell (W := wr) (b := g) j (.slice a 128 c)
        have hBn := below_grow hBr hG (fun q e => by cases e; exact hgl) hBr.size
        have HS1 := Lib.hid (show Below w1.heap.size w1 wr.drew ∧ wr.drew.cell? ⟨x, 0, none⟩ = some (.slice (some ⟨g, 0, none⟩) k cap) ∧ wr.drew.cell? ⟨w.heap.size, 1, none⟩ = some (.slice (some ⟨b', off', none⟩) m cp) ∧ wr.drew.cell? ⟨b', off' + n * 2, none⟩ = some (.int .i64 j) ∧ wr.drew.cell? ⟨b', off' + n * 2 + 1, none⟩ = some (.slice a 128 c) from ⟨hBr.drew, k0, k1, k2, k3⟩)
        have hc : ∀ i b, b ≠ g → (wr.setCell ⟨g, j, none⟩ (.slice a 128 c)).cell? ⟨b, i, none⟩ = wr.cell? ⟨b, i, none⟩ := fun i b hb => World.cell?_setCell_other _ _ _ _ (by intro h; injection h; omega)
        have HS2 := Lib.hid (show Below w1.heap.size w1 (wr.setCell ⟨g, j, none⟩ (.slice a 128 c)).drew ∧ (wr.setCell ⟨g, j, none⟩ (.slice a 128 c)).drew.cell? ⟨x, 0, none⟩ = some (.slice (some ⟨g, 0, none⟩) k cap) ∧ (wr.setCell ⟨g, j, none⟩ (.slice a 128 c)).drew.cell? ⟨w.heap.size, 1, none⟩ = some (.slice (some ⟨b', off', none⟩) m cp) ∧ (wr.setCell ⟨g, j, none⟩ (.slice a 128 c)).drew.cell? ⟨b', off' + n * 2, none⟩ = some (.int .i64 j) ∧ (wr.setCell ⟨g, j, none⟩ (.slice a 128 c)).drew.cell? ⟨b', off' + n * 2 + 1, none⟩ = some (.slice a 128 c) from ⟨hBn.drew, (hc _ _ (by omega)).trans k0, (hc _ _ (by omega)).trans k1, (hc _ _ (by omega)).trans k2, (hc _ _ (by omega)).trans k3⟩)
        have hbw' : Below w.heap.size w (wr.setCell ⟨g, j, none⟩ (.slice a 128 c)) := HB1.out.trans (hBn.mono (by omega))
        have HN := Lib.hid (show R7 w w1 k left (T (n + 1)) false x g cap (wr.setCell ⟨g, j, none⟩ (.slice a 128 c)) from
          ⟨hxg, hgl, hxl, by simpa using hgr, by simpa using hxr, hkc, by unfold maxLen; omega, h7.xs.moved hG hxr (by simp; omega), ⟨_, hA'.set j _, by rw [hTn]; exact (hcs'.keep (fun b hb hl => hG.block b hl (by unfold Pq at hb; simp; omega)) (fun _ h _ => h) hG.size).set j (((hyb.below hbw').on hbw'.size).keep (fun _ _ _ => rfl) (fun _ h _ => .inl h) (Nat.le_refl _))⟩, hBn⟩)
        unfold maxLen at hc2
        clear h7 H7 hX1 hY1 hyb hTn c0 c1 hbw hbw' hA' hcs' hjc hu5 hG hBn hc hBr e0 e1 e2 e3
        go_wp2
        refine wp_region_held_drew (S := fun W => Below w1.heap.size w1 W ∧ W.cell? ⟨x, 0, none⟩ = some (.slice (some ⟨g, 0, none⟩) k cap) ∧ W.cell? ⟨w.heap.size, 1, none⟩ = some (.slice (some ⟨b', off', none⟩) m cp) ∧ W.cell? ⟨b', off' + n * 2, none⟩ = some (.int .i64 j) ∧ W.cell? ⟨b', off' + n * 2 + 1, none⟩ = some (.slice a 128 c)) (by kernel_rfl) HS1.out (fun hHeld => ?_)
        refine wpAnyH_take (i := 0) (oi := q24b0) (v := ?_) rfl (by kernel_rfl) (by kernel_rfl) (by kernel_rfl) (fun _ _ _ h => h) (Or.inl ⟨by rfl, ?_⟩) hHeld ?_
        rotate_left
        · (intro w hSw; (try dsimp only at hSw); unfold q24b0; go_simp <;> with_reducible rfl)
        try simp only [q24b0, Act.put, List.setIfInBounds_toArray, List.set_cons_zero, List.set_cons_succ]
        refine wpAnyH_take (i := 1) (oi := q24b1) (v := ?_) rfl (by kernel_rfl) (by kernel_rfl) (by kernel_rfl) (fun _ _ _ h => h) (Or.inl ⟨by rfl, ?_⟩) hHeld ?_
        rotate_left
        · (intro w hSw; (try dsimp only at hSw); unfold q24b1; go_simp <;> with_reducible rfl)
        try simp only [q24b1, Act.put, List.setIfInBounds_toArray, List.set_cons_zero, List.set_cons_succ]
        refine wpAnyH_take (i := 2) (oi := q24b2) (v := ?_) rfl (by kernel_rfl) (by kernel_rfl) (by kernel_rfl) (fun _ _ _ h => h) (Or.inl ⟨by rfl, ?_⟩) hHeld ?_
        rotate_left
        · (intro w hSw; (try dsimp only at hSw); unfold q24b2; go_simp <;> with_reducible rfl)
        try simp only [q24b2, Act.put, List.setIfInBounds_toArray, List.set_cons_zero, List.set_cons_succ]
        refine wpAnyH_take (i := 3) (oi := q24b3) (v := ?_) rfl (by kernel_rfl) (by kernel_rfl) (by kernel_rfl) (fun _ _ _ h => h) (Or.inl ⟨by rfl, ?_⟩) hHeld ?_
        rotate_left
        · (intro w hSw; (try dsimp only at hSw); unfold q24b3; go_simp <;> with_reducible rfl)
        try simp only [q24b3, Act.put, List.setIfInBounds_toArray, List.set_cons_zero, List.set_cons_succ]
        refine wpAnyH_take (i := 4) (oi := q24b4) (v := ?_) rfl (by kernel_rfl) (by kernel_rfl) (by kernel_rfl) (fun _ _ _ h => h) (Or.inl ⟨by rfl, ?_⟩) hHeld ?_
        rotate_left
        · (intro w hSw; (try dsimp only at hSw); unfold q24b4; go_simp <;> with_reducible rfl)
        try simp only [q24b4, Act.put, List.setIfInBounds_toArray, List.set_cons_zero, List.set_cons_succ]
        refine wpAnyH_take (i := 5) (oi := q24b5) (v := ?_) rfl (by kernel_rfl) (by kernel_rfl) (by kernel_rfl) (fun _ _ _ h => h) (Or.inl ⟨by rfl, ?_⟩) hHeld ?_
        rotate_left
        · (intro w hSw; (try dsimp only at hSw); unfold q24b5; go_simp <;> with_reducible rfl)
        try simp only [q24b5, Act.put, List.setIfInBounds_toArray, List.set_cons_zero, List.set_cons_succ]
        refine wpAnyH_take (i := 6) (oi := q24b6) (v := ?_) rfl (by kernel_rfl) (by kernel_rfl) (by kernel_rfl) (fun _ _ _ h => h) (Or.inl ⟨by rfl, ?_⟩) hHeld ?_
        rotate_left
        · (intro w hSw; (try dsimp only at hSw); unfold q24b6; go_simp <;> with_reducible rfl)
        try simp only [q24b6, Act.put, List.setIfInBounds_toArray, List.set_cons_zero, List.set_cons_succ]
        refine wpAnyH_take (i := 7) (oi := q24b7) (v := ?_) rfl (by kernel_rfl) (by kernel_rfl) (by kernel_rfl) (fun _ _ _ h => h) (Or.inl ⟨by rfl, ?_⟩) hHeld ?_
        rotate_left
        · (intro w hSw; (try dsimp only at hSw); unfold q24b7; go_simp <;> with_reducible rfl)
        try simp only [q24b7, Act.put, List.setIfInBounds_toArray, List.set_cons_zero, List.set_cons_succ]
        refine wpAnyH_take (i := 8) (oi := q24b8) (v := ?_) rfl (by kernel_rfl) (by kernel_rfl) (by kernel_rfl) (fun _ _ _ h => h) (Or.inl ⟨by rfl, ?_⟩) hHeld ?_
        rotate_left
        · (intro w hSw; (try dsimp only at hSw); unfold q24b8; go_simp <;> with_reducible rfl)
        try simp only [q24b8, Act.put, List.setIfInBounds_toArray, List.set_cons_zero, List.set_cons_succ]
        refine wpAnyH_take (i := 9) (oi := q24b9) (v := ?_) rfl (by kernel_rfl) (by kernel_rfl) (by kernel_rfl) (fun _ _ _ h => h) (Or.inl ⟨by rfl, ?_⟩) hHeld ?_
        rotate_left
        · (intro w hSw; (try dsimp only at hSw); unfold q24b9; go_simp <;> with_reducible rfl)
        try simp only [q24b9, Act.put, List.setIfInBounds_toArray, List.set_cons_zero, List.set_cons_succ]
        refine wpAnyH_take (i := 10) (oi := q24b10) (v := ?_) rfl (by kernel_rfl) (by kernel_rfl) (by kernel_rfl) (fun _ _ _ h => h) (Or.inl ⟨by rfl, ?_⟩) hHeld ?_
        rotate_left
        · (intro w hSw; (try dsimp only at hSw); unfold q24b10; go_simp <;> with_reducible rfl)
        try simp only [q24b10, Act.put, List.setIfInBounds_toArray, List.set_cons_zero, List.set_cons_succ]
        refine wpAnyH_take (i := 11) (oi := q24b11) (v := ?_) rfl (by kernel_rfl) (by kernel_rfl) (by kernel_rfl) (fun _ _ _ h => h) (Or.inl ⟨by rfl, ?_⟩) hHeld ?_
        rotate_left
        · (intro w hSw; (try dsimp only at hSw); unfold q24b11; go_simp <;> with_reducible rfl)
        try simp only [q24b11, Act.put, List.setIfInBounds_toArray, List.set_cons_zero, List.set_cons_succ]
        refine wpAnyH_take (i := 12) (oi := q24b12) (v := ?_) rfl (by kernel_rfl) (by kernel_rfl) (by kernel_rfl) (fun _ _ _ h => h) (Or.inl ⟨by rfl, ?_⟩) hHeld ?_
        rotate_left
        · (intro w hSw; (try dsimp only at hSw); unfold q24b12; go_simp <;> with_reducible rfl)
        try simp only [q24b12, Act.put, List.setIfInBounds_toArray, List.set_cons_zero, List.set_cons_succ]
        refine wpAnyH_take (i := 13) (oi := q24b13) (v := ?_) rfl (by kernel_rfl) (by kernel_rfl) (by kernel_rfl) (fun _ _ _ h => h) (Or.inl ⟨by rfl, ?_⟩) hHeld ?_
        rotate_left
        · (intro w hSw; (try dsimp only at hSw); unfold q24b13; go_simp <;> with_reducible rfl)
        try simp only [q24b13, Act.put, List.setIfInBounds_toArray, List.set_cons_zero, List.set_cons_succ]
        refine wpAnyH_take (i := 14) (oi := q24b14) (v := ?_) rfl (by kernel_rfl) (by kernel_rfl) (by kernel_rfl) (fun _ _ _ h => h) (Or.inl ⟨by rfl, ?_⟩) hHeld ?_
        rotate_left
        · (intro w hSw; (try dsimp only at hSw); unfold q24b14; go_simp <;> with_reducible rfl)
        try simp only [q24b14, Act.put, List.setIfInBounds_toArray, List.set_cons_zero, List.set_cons_succ]
        refine wpAnyH_ready (rs := [15]) (by kernel_rfl) (by simp) ?_
        refine AllReadyH.cons (o := q24b15) rfl (fun K hK => ?_) AllReadyH.nil
        rw [if_pos (by rfl)]
        unfold q24b15
        go_simp
        refine hK.out _ _ HS2.out (fun hHeld => ?_)
        clear hK K
        try simp only [q24b15, Act.put]
        refine wpAnyH_done (by kernel_rfl) ?_ _
        clear hHeld
        go_wp2
        go_roundw
        case rel => exact ⟨n + 1, by go_num, by omega, HN.out.drew⟩
        case measure => simp [intOf]; omega
      · obtain rfl : n = m := by omega
        obtain rfl := (HA2.out (by simp) (by simp) (by simp) hneg).symm
        obtain ⟨x0, x1, x2, x3⟩ := h7.xs.four
        have HYC := Lib.hid hY1
        clear h7 hX1 hY1 e0 e1 e2 e3 hnm hlt HS HPC HCS HCL HON hBr
        go_wp2_with (refine store_disk rfl (.tmp 2) (.tmp 94) rfl (w.heap.size + 1) _ _ _ _ _ _ _ _ (by rfl) (by rfl) HYC.out rfl ?_; intro W9 hG9 hA9; obtain ⟨y0, y1, y2, y3⟩ := hA9.four)
        obtain ⟨o1, o2⟩ := H7.out.fin (HTL.out n) HB1.out hlt1 (⟨rfl, rfl, rfl, Nat.le_refl _, fun _ _ _ => rfl⟩ : wr.grownBy wr (some x)) hG9 left false hl64
        refine bodyPost_ret (v := .tuple #[.agg #[.slice (some ⟨g, 0, none⟩) k cap, .slice none 0 0, .int .i64 left, .bool false], .int .i64 0]) (by simp [results, Try.results24, go_sem, y0, y1, y2, y3]) rfl ⟨_, rfl, o1, o2⟩
  · skip
    obtain ⟨hmp, hmq⟩ : m = p ∧ (left < 0 ∨ (p : Int) ≤ left) := by rcases HMC.out with ⟨h, _⟩ | ⟨_, h1, h2⟩; cases h; exact ⟨h1, h2⟩
    subst hmp
    have hneg : 0 ≤ left := by simpa using d1
    have hle2 : (m : Int) ≤ left := by omega
    clear hmq
    go_wp2_with fail
    go_cut [6] from 32 (fun s6 wx => ∃ x g cap, s6 = .pointer (some ⟨x, 0, none⟩) ∧ R7 w w1 k left (T 0) false x g cap wx)
    case first =>
      -- <7
      rename_i J1 K1 hJ1 hM1
      refine wp_region_held_drew (S := fun W => Below w1.heap.size w1 W ∧ W.cell? ⟨w.heap.size, 0, none⟩ = some (.slice sa k cs0) ∧ W.cell? ⟨w.heap.size, 2, none⟩ = some (.int .i64 left)) (by kernel_rfl) ⟨Below.drew (Below.refl _ _), e0, e2⟩ (fun hHeld => ?_)
      refine wpAnyH_take (i := 1) (oi := q24a1) (v := ?_) rfl (by kernel_rfl) (by kernel_rfl) (by kernel_rfl) (fun _ _ _ h => h) (Or.inl ⟨by rfl, ?_⟩) hHeld ?_
      rotate_left
      · (intro w hSw; (try dsimp only at hSw); unfold q24a1; go_simp <;> with_reducible rfl)
      try simp only [q24a1, Act.put, List.setIfInBounds_toArray, List.set_cons_zero, List.set_cons_succ]
      refine wpAnyH_take (i := 2) (oi := q24a2) (v := ?_) rfl (by kernel_rfl) (by kernel_rfl) (by kernel_rfl) (fun _ _ _ h => h) (Or.inl ⟨by rfl, ?_⟩) hHeld ?_
      rotate_left
      · (intro w hSw; (try dsimp only at hSw); unfold q24a2; go_simp <;> with_reducible rfl)
      try simp only [q24a2, Act.put, List.setIfInBounds_toArray, List.set_cons_zero, List.set_cons_succ]
      refine wpAnyH_take (i := 4) (oi := q24a4) (v := ?_) rfl (by kernel_rfl) (by kernel_rfl) (by kernel_rfl) (fun _ _ _ h => h) (Or.inl ⟨by rfl, ?_⟩) hHeld ?_
      rotate_left
      · (intro w hSw; (try dsimp only at hSw); unfold q24a4; go_simp <;> with_reducible rfl)
      try simp only [q24a4, Act.put, List.setIfInBounds_toArray, List.set_cons_zero, List.set_cons_succ]
      refine wpAnyH_take (i := 5) (oi := q24a5) (v := ?_) rfl (by kernel_rfl) (by kernel_rfl) (by kernel_rfl) (fun _ _ _ h => h) (Or.inl ⟨by rfl, ?_⟩) hHeld ?_
      rotate_left
      · (intro w hSw; (try dsimp only at hSw); unfold q24a5; go_simp <;> with_reducible rfl)
      try simp only [q24a5, Act.put, List.setIfInBounds_toArray, List.set_cons_zero, List.set_cons_succ]
      refine wpAnyH_ready (rs := [0, 7]) (by kernel_rfl) (by simp) ?_
      refine AllReadyH.cons (o := q24a0) rfl (fun K hK => ?_) (AllReadyH.cons (o := q24a7) rfl (fun K hK => ?_) AllReadyH.nil)
      · skip
        rw [if_pos (by rfl)]
        refine wp_build0 22 35 (by rfl) Try.underlying22 Try.info35 ?_
        intro g0 W0 hG0 hge0 hlt0 hO0
        have hO0 := hO0 w1.heap.size (Below.drew (Below.refl w1.heap.size w1)).size
        have hB0 := below_grow (Below.drew (Below.refl w1.heap.size w1)) hG0 (fun _ h => by cases h) (Below.drew (Below.refl w1.heap.size w1)).size
        refine hK.out _ _ (HS.out _ hB0) (fun hHeld => ?_)
        clear hK K
        try simp only [q24a0, Act.put, List.setIfInBounds_toArray, List.set_cons_zero, List.set_cons_succ]
        refine wpAnyH_ready (rs := [3, 7]) (by kernel_rfl) (by simp) ?_
        refine AllReadyH.cons (o := q24a3) rfl (fun K hK => ?_) (AllReadyH.cons (o := q24a7) rfl (fun K hK => ?_) AllReadyH.nil)
        · skip
          rw [if_pos (by rfl)]
          refine wp_piece 22 35 (.tmp 32) (.tmp 34) (by rfl) Try.underlying22 Try.info35 rfl (by decide) (by rfl) hO0 (by rfl) (HPC.out.kept hB0) HCL.out HON.out (by unfold maxLen; omega) (by omega) hB0.size k (by omega) cs (by simp) ?_
          intro g cap W3 hO3 hG3 hat3
          have hg0 := (own_arr hO0).1
          have hB3 := below_grow hB0 hG3 (fun q e => by cases e; exact hg0) hB0.size
          have lg3 := (own_arr hO3).2.1
          refine hK.out _ _ (HS.out _ hB3) (fun hHeld => ?_)
          clear hK K
          try simp only [q24a3, Act.put, List.setIfInBounds_toArray, List.set_cons_zero, List.set_cons_succ]
          refine wpAnyH_take (i := 6) (oi := q24a6) (v := ?_) rfl (by kernel_rfl) (by kernel_rfl) (by kernel_rfl) (fun _ _ _ h => h) (Or.inl ⟨by rfl, ?_⟩) hHeld ?_
          rotate_left
          · (intro w hSw; (try dsimp only at hSw); unfold q24a6; go_simp <;> with_reducible rfl)
          try simp only [q24a6, Act.put, List.setIfInBounds_toArray, List.set_cons_zero, List.set_cons_succ]
          refine wpAnyH_ready (rs := [7]) (by kernel_rfl) (by simp) ?_
          refine AllReadyH.cons (o := q24a7) rfl (fun K hK => ?_) AllReadyH.nil
          rw [if_pos (by rfl)]
          refine wp_alloc25 (by rfl) ?_
          intro x W7 hG7 hge7 lX7 hX7
          have hB7 := below_grow hB3 hG7 (fun _ h => by cases h) hB3.size
          have hxl : w1.heap.size ≤ x := Nat.le_trans hB3.size hge7
          have hne : g ≠ x := by omega
          have hO7 := own_moved hO3 hG7 (by simp)
          have lg7 := Nat.lt_of_lt_of_le lg3 hG7.size
          refine hK.out _ _ (HS.out _ hB7) (fun hHeld => ?_)
          clear hK K
          try simp only [q24a7, Act.put, List.setIfInBounds_toArray, List.set_cons_zero, List.set_cons_succ]
          refine wpAnyH_ready (rs := [8]) (by kernel_rfl) (by simp) ?_
          refine AllReadyH.cons (o := q24a8) rfl (fun K hK => ?_) AllReadyH.nil
          rw [if_pos (by rfl)]
          refine wp_st25 (.tmp 6) (.tmp 38) (by rfl) x _ _ _ _ _ (by rfl) (by rfl) hX7 rfl rfl ?_
          intro W8 hG8 hX8
          have hB8 := below_grow hB7 hG8 (fun q e => by cases e; exact hxl) hB7.size
          have hO8 := own_moved hO7 hG8 (by simpa using hne)
          have lX8 := Nat.lt_of_lt_of_le lX7 hG8.size
          refine hK.out _ _ (HS.out _ hB8) (fun hHeld => ?_)
          clear hK K
          try simp only [q24a8, Act.put]
          refine wpAnyH_done (by kernel_rfl) ?_ _
          obtain ⟨o1, o2, o3, o4, o5⟩ := own_arr hO8
          refine hM1 _ _ ?_
          go_meet
          exact ⟨x, g, cap, rfl, hne, o1, hxl, o2, lX8, o3, o4, hX8, ⟨cs, o5, by rw [HT0.out]; exact HCS.out.keep (fun b hb _ => hB8.block b (by have : b < w.heap.size := hb; omega)) (fun b hb _ => .inl hb) hB8.size⟩, hB8⟩
        · skip
          rw [if_pos (by rfl)]
          refine wp_alloc25 (by rfl) ?_
          intro x W7 hG7 hge7 lX7 hX7
          have hB7 := below_grow hB0 hG7 (fun _ h => by cases h) hB0.size
          have hxl : w1.heap.size ≤ x := Nat.le_trans hB0.size hge7
          have hne : g0 ≠ x := by omega
          have hO7 := own_moved hO0 hG7 (by simp)
          have lg7 := Nat.lt_of_lt_of_le hlt0 hG7.size
          refine hK.out _ _ (HS.out _ hB7) (fun hHeld => ?_)
          clear hK K
          try simp only [q24a7, Act.put, List.setIfInBounds_toArray, List.set_cons_zero, List.set_cons_succ]
          refine wpAnyH_ready (rs := [3]) (by kernel_rfl) (by simp) ?_
          refine AllReadyH.cons (o := q24a3) rfl (fun K hK => ?_) AllReadyH.nil
          rw [if_pos (by rfl)]
          refine wp_piece 22 35 (.tmp 32) (.tmp 34) (by rfl) Try.underlying22 Try.info35 rfl (by decide) (by rfl) hO7 (by rfl) (HPC.out.kept hB7) HCL.out HON.out (by unfold maxLen; omega) (by omega) hB7.size k (by omega) cs (by simp) ?_
          intro g cap W3 hO3 hG3 hat3
          have hg0 := (own_arr hO7).1
          have hB3 := below_grow hB7 hG3 (fun q e => by cases e; exact hg0) hB7.size
          have lg3 := (own_arr hO3).2.1
          have hX3 := hX7.moved hG3 lX7 (by simpa using hne.symm)
          have lX3 := Nat.lt_of_lt_of_le lX7 hG3.size
          have hne : g ≠ x := by rcases hat3 with h | h <;> omega
          refine hK.out _ _ (HS.out _ hB3) (fun hHeld => ?_)
          clear hK K
          try simp only [q24a3, Act.put, List.setIfInBounds_toArray, List.set_cons_zero, List.set_cons_succ]
          refine wpAnyH_take (i := 6) (oi := q24a6) (v := ?_) rfl (by kernel_rfl) (by kernel_rfl) (by kernel_rfl) (fun _ _ _ h => h) (Or.inl ⟨by rfl, ?_⟩) hHeld ?_
          rotate_left
          · (intro w hSw; (try dsimp only at hSw); unfold q24a6; go_simp <;> with_reducible rfl)
          try simp only [q24a6, Act.put, List.setIfInBounds_toArray, List.set_cons_zero, List.set_cons_succ]
          refine wpAnyH_ready (rs := [8]) (by kernel_rfl) (by simp) ?_
          refine AllReadyH.cons (o := q24a8) rfl (fun K hK => ?_) AllReadyH.nil
          rw [if_pos (by rfl)]
          refine wp_st25 (.tmp 6) (.tmp 38) (by rfl) x _ _ _ _ _ (by rfl) (by rfl) hX3 rfl rfl ?_
          intro W8 hG8 hX8
          have hB8 := below_grow hB3 hG8 (fun q e => by cases e; exact hxl) hB3.size
          have hO8 := own_moved hO3 hG8 (by simpa using hne)
          have lX8 := Nat.lt_of_lt_of_le lX3 hG8.size
          refine hK.out _ _ (HS.out _ hB8) (fun hHeld => ?_)
          clear hK K
          try simp only [q24a8, Act.put]
          refine wpAnyH_done (by kernel_rfl) ?_ _
          obtain ⟨o1, o2, o3, o4, o5⟩ := own_arr hO8
          refine hM1 _ _ ?_
          go_meet
          exact ⟨x, g, cap, rfl, hne, o1, hxl, o2, lX8, o3, o4, hX8, ⟨cs, o5, by rw [HT0.out]; exact HCS.out.keep (fun b hb _ => hB8.block b (by have : b < w.heap.size := hb; omega)) (fun b hb _ => .inl hb) hB8.size⟩, hB8⟩
      · skip
        rw [if_pos (by rfl)]
        refine wp_alloc25 (by rfl) ?_
        intro x W7 hG7 hge7 lX7 hX7
        have hB7 := below_grow (Below.drew (Below.refl w1.heap.size w1)) hG7 (fun _ h => by cases h) (Below.drew (Below.refl w1.heap.size w1)).size
        have hxl : w1.heap.size ≤ x := Nat.le_trans (Below.drew (Below.refl w1.heap.size w1)).size hge7
        refine hK.out _ _ (HS.out _ hB7) (fun hHeld => ?_)
        clear hK K
        try simp only [q24a7, Act.put, List.setIfInBounds_toArray, List.set_cons_zero, List.set_cons_succ]
        refine wpAnyH_ready (rs := [0]) (by kernel_rfl) (by simp) ?_
        refine AllReadyH.cons (o := q24a0) rfl (fun K hK => ?_) AllReadyH.nil
        rw [if_pos (by rfl)]
        refine wp_build0 22 35 (by rfl) Try.underlying22 Try.info35 ?_
        intro g0 W0 hG0 hge0 hlt0 hO0
        have hO0 := hO0 w1.heap.size hB7.size
        have hB0 := below_grow hB7 hG0 (fun _ h => by cases h) hB7.size
        have hX0 := hX7.moved hG0 lX7 (by simp)
        have lX0 := Nat.lt_of_lt_of_le lX7 hG0.size
        have hne : g0 ≠ x := by omega
        refine hK.out _ _ (HS.out _ hB0) (fun hHeld => ?_)
        clear hK K
        try simp only [q24a0, Act.put, List.setIfInBounds_toArray, List.set_cons_zero, List.set_cons_succ]
        refine wpAnyH_ready (rs := [3]) (by kernel_rfl) (by simp) ?_
        refine AllReadyH.cons (o := q24a3) rfl (fun K hK => ?_) AllReadyH.nil
        rw [if_pos (by rfl)]
        refine wp_piece 22 35 (.tmp 32) (.tmp 34) (by rfl) Try.underlying22 Try.info35 rfl (by decide) (by rfl) hO0 (by rfl) (HPC.out.kept hB0) HCL.out HON.out (by unfold maxLen; omega) (by omega) hB0.size k (by omega) cs (by simp) ?_
        intro g cap W3 hO3 hG3 hat3
        have hg0 := (own_arr hO0).1
        have hB3 := below_grow hB0 hG3 (fun q e => by cases e; exact hg0) hB0.size
        have lg3 := (own_arr hO3).2.1
        have hX3 := hX0.moved hG3 lX0 (by simpa using hne.symm)
        have lX3 := Nat.lt_of_lt_of_le lX0 hG3.size
        have hne : g ≠ x := by rcases hat3 with h | h <;> omega
        refine hK.out _ _ (HS.out _ hB3) (fun hHeld => ?_)
        clear hK K
        try simp only [q24a3, Act.put, List.setIfInBounds_toArray, List.set_cons_zero, List.set_cons_succ]
        refine wpAnyH_take (i := 6) (oi := q24a6) (v := ?_) rfl (by kernel_rfl) (by kernel_rfl) (by kernel_rfl) (fun _ _ _ h => h) (Or.inl ⟨by rfl, ?_⟩) hHeld ?_
        rotate_left
        · (intro w hSw; (try dsimp only at hSw); unfold q24a6; go_simp <;> with_reducible rfl)
        try simp only [q24a6, Act.put, List.setIfInBounds_toArray, List.set_cons_zero, List.set_cons_succ]
        refine wpAnyH_ready (rs := [8]) (by kernel_rfl) (by simp) ?_
        refine AllReadyH.cons (o := q24a8) rfl (fun K hK => ?_) AllReadyH.nil
        rw [if_pos (by rfl)]
        refine wp_st25 (.tmp 6) (.tmp 38) (by rfl) x _ _ _ _ _ (by rfl) (by rfl) hX3 rfl rfl ?_
        intro W8 hG8 hX8
        have hB8 := below_grow hB3 hG8 (fun q e => by cases e; exact hxl) hB3.size
        have hO8 := own_moved hO3 hG8 (by simpa using hne)
        have lX8 := Nat.lt_of_lt_of_le lX3 hG8.size
        refine hK.out _ _ (HS.out _ hB8) (fun hHeld => ?_)
        clear hK K
        try simp only [q24a8, Act.put]
        refine wpAnyH_done (by kernel_rfl) ?_ _
        obtain ⟨o1, o2, o3, o4, o5⟩ := own_arr hO8
        refine hM1 _ _ ?_
        go_meet
        exact ⟨x, g, cap, rfl, hne, o1, hxl, o2, lX8, o3, o4, hX8, ⟨cs, o5, by rw [HT0.out]; exact HCS.out.keep (fun b hb _ => hB8.block b (by have : b < w.heap.size := hb; omega)) (fun b hb _ => .inl hb) hB8.size⟩, hB8⟩
      -- 7>
    case rest =>
      obtain ⟨x, g, cap, rfl, h7⟩ := hcut
      have H7 := Lib.hid h7
      have hxl := h7.xle
      have hgl := h7.gle
      have hxg := h7.ne
      have hkc := h7.kc
      have hcm := h7.cm
      unfold maxLen at hcm
      clear h7
      go_wp2
      go_loopw [7] (fun i wr => ∃ n : Nat, i = .int .i64 n ∧ n ≤ m ∧ R7 w w1 k left (T n) false x g cap wr) (fun i _ => m - (intOf i).toNat)
      case atStart => exact ⟨0, rfl, Nat.zero_le _, H7.out⟩
      case round =>
      clear H7
      obtain ⟨n, rfl, hnm, h7⟩ := hrel
      have H7 := Lib.hid h7
      have hxr := h7.xlt
      have hgr := h7.glt
      have hBr := h7.bel
      have hX1 := HX1.out.below hBr (by omega)
      have hY1 := HY1.out.below hBr (by omega)
      by_cases hlt : n < m
      · obtain ⟨j, y, b', off', a, c, rfl, hjk, hy8, hb', c0, c1, hc1, hc2, hyb, hTn, -⟩ := HWR.out (by simp) n (by omega)
        have hnp : n < m := by omega
        have hbw : Below w.heap.size w wr := HB1.out.trans (hBr.mono (by omega))
        obtain ⟨cs', hA', hcs'⟩ := h7.gs
        have k0 := h7.xs.four.1
        have k1 := hX1.four.2.1
        have k2 : wr.cell? ⟨b', off' + n * 2, none⟩ = some (.int .i64 j) := (hbw.cell (p := ⟨b', off' + n * 2, none⟩) hb').trans c0
        have k3 : wr.cell? ⟨b', off' + n * 2 + 1, none⟩ = some (.slice a 128 c) := (hbw.cell (p := ⟨b', off' + n * 2 + 1, none⟩) hb').trans c1
        have hjc : j < cs'.length := by rw [hcs'.1, HTL.out]; exact hjk
        have k4 := hA'.frozen hjc
        have k5 := hA'.cell (List.getElem?_eq_getElem hjc)
        obtain ⟨u5, hu5⟩ : ∃ u, cs'[j] = u := ⟨_, rfl⟩
        rw [hu5] at k5
        have hG := grown_setCell (W := wr) (b := g) j (.slice a 128 c)
        have hBn := below_grow hBr hG (fun q e => by cases e; exact hgl) hBr.size
        have HS1 := Lib.hid (show Below w1.heap.size w1 wr.drew ∧ wr.drew.cell? ⟨x, 0, none⟩ = some (.slice (some ⟨g, 0, none⟩) k cap) ∧ wr.drew.cell? ⟨w.heap.size, 1, none⟩ = some (.slice (some ⟨b', off', none⟩) m cp) ∧ wr.drew.cell? ⟨b', off' + n * 2, none⟩ = some (.int .i64 j) ∧ wr.drew.cell? ⟨b', off' + n * 2 + 1, none⟩ = some (.slice a 128 c) from ⟨hBr.drew, k0, k1, k2, k3⟩)
        have hc : ∀ i b, b ≠ g → (wr.setCell ⟨g, j, none⟩ (.slice a 128 c)).cell? ⟨b, i, none⟩ = wr.cell? ⟨b, i, none⟩ := fun i b hb => World.cell?_setCell_other _ _ _ _ (by intro h; injection h; omega)
        have HS2 := Lib.hid (show Below w1.heap.size w1 (wr.setCell ⟨g, j, none⟩ (.slice a 128 c)).drew ∧ (wr.setCell ⟨g, j, none⟩ (.slice a 128 c)).drew.cell? ⟨x, 0, none⟩ = some (.slice (some ⟨g, 0, none⟩) k cap) ∧ (wr.setCell ⟨g, j, none⟩ (.slice a 128 c)).drew.cell? ⟨w.heap.size, 1, none⟩ = some (.slice (some ⟨b', off', none⟩) m cp) ∧ (wr.setCell ⟨g, j, none⟩ (.slice a 128 c)).drew.cell? ⟨b', off' + n * 2, none⟩ = some (.int .i64 j) ∧ (wr.setCell ⟨g, j, none⟩ (.slice a 128 c)).drew.cell? ⟨b', off' + n * 2 + 1, none⟩ = some (.slice a 128 c) from ⟨hBn.drew, (hc _ _ (by omega)).trans k0, (hc _ _ (by omega)).trans k1, (hc _ _ (by omega)).trans k2, (hc _ _ (by omega)).trans k3⟩)
        have hbw' : Below w.heap.size w (wr.setCell ⟨g, j, none⟩ (.slice a 128 c)) := HB1.out.trans (hBn.mono (by omega))
        have HN := Lib.hid (show R7 w w1 k left (T (n + 1)) false x g cap (wr.setCell ⟨g, j, none⟩ (.slice a 128 c)) from
          ⟨hxg, hgl, hxl, by simpa using hgr, by simpa using hxr, hkc, by unfold maxLen; omega, h7.xs.moved hG hxr (by simp; omega), ⟨_, hA'.set j _, by rw [hTn]; exact (hcs'.keep (fun b hb hl => hG.block b hl (by unfold Pq at hb; simp; omega)) (fun _ h _ => h) hG.size).set j (((hyb.below hbw').on hbw'.size).keep (fun _ _ _ => rfl) (fun _ h _ => .inl h) (Nat.le_refl _))⟩, hBn⟩)
        unfold maxLen at hc2
        clear h7 H7 hX1 hY1 hyb hTn c0 c1 hbw hbw' hA' hcs' hjc hu5 hG hBn hc hBr e0 e1 e2 e3
        go_wp2
        refine wp_region_held_drew (S := fun W => Below w1.heap.size w1 W ∧ W.cell? ⟨x, 0, none⟩ = some (.slice (some ⟨g, 0, none⟩) k cap) ∧ W.cell? ⟨w.heap.size, 1, none⟩ = some (.slice (some ⟨b', off', none⟩) m cp) ∧ W.cell? ⟨b', off' + n * 2, none⟩ = some (.int .i64 j) ∧ W.cell? ⟨b', off' + n * 2 + 1, none⟩ = some (.slice a 128 c)) (by kernel_rfl) HS1.out (fun hHeld => ?_)
        refine wpAnyH_take (i := 0) (oi := q24b0) (v := ?_) rfl (by kernel_rfl) (by kernel_rfl) (by kernel_rfl) (fun _ _ _ h => h) (Or.inl ⟨by rfl, ?_⟩) hHeld ?_
        rotate_left
        · (intro w hSw; (try dsimp only at hSw); unfold q24b0; go_simp <;> with_reducible rfl)
        try simp only [q24b0, Act.put, List.setIfInBounds_toArray, List.set_cons_zero, List.set_cons_succ]
        refine wpAnyH_take (i := 1) (oi := q24b1) (v := ?_) rfl (by kernel_rfl) (by kernel_rfl) (by kernel_rfl) (fun _ _ _ h => h) (Or.inl ⟨by rfl, ?_⟩) hHeld ?_
        rotate_left
        · (intro w hSw; (try dsimp only at hSw); unfold q24b1; go_simp <;> with_reducible rfl)
        try simp only [q24b1, Act.put, List.setIfInBounds_toArray, List.set_cons_zero, List.set_cons_succ]
        refine wpAnyH_take (i := 2) (oi := q24b2) (v := ?_) rfl (by kernel_rfl) (by kernel_rfl) (by kernel_rfl) (fun _ _ _ h => h) (Or.inl ⟨by rfl, ?_⟩) hHeld ?_
        rotate_left
        · (intro w hSw; (try dsimp only at hSw); unfold q24b2; go_simp <;> with_reducible rfl)
        try simp only [q24b2, Act.put, List.setIfInBounds_toArray, List.set_cons_zero, List.set_cons_succ]
        refine wpAnyH_take (i := 3) (oi := q24b3) (v := ?_) rfl (by kernel_rfl) (by kernel_rfl) (by kernel_rfl) (fun _ _ _ h => h) (Or.inl ⟨by rfl, ?_⟩) hHeld ?_
        rotate_left
        · (intro w hSw; (try dsimp only at hSw); unfold q24b3; go_simp <;> with_reducible rfl)
        try simp only [q24b3, Act.put, List.setIfInBounds_toArray, List.set_cons_zero, List.set_cons_succ]
        refine wpAnyH_take (i := 4) (oi := q24b4) (v := ?_) rfl (by kernel_rfl) (by kernel_rfl) (by kernel_rfl) (fun _ _ _ h => h) (Or.inl ⟨by rfl, ?_⟩) hHeld ?_
        rotate_left
        · (intro w hSw; (try dsimp only at hSw); unfold q24b4; go_simp <;> with_reducible rfl)
        try simp only [q24b4, Act.put, List.setIfInBounds_toArray, List.set_cons_zero, List.set_cons_succ]
        refine wpAnyH_take (i := 5) (oi := q24b5) (v := ?_) rfl (by kernel_rfl) (by kernel_rfl) (by kernel_rfl) (fun _ _ _ h => h) (Or.inl ⟨by rfl, ?_⟩) hHeld ?_
        rotate_left
        · (intro w hSw; (try dsimp only at hSw); unfold q24b5; go_simp <;> with_reducible rfl)
        try simp only [q24b5, Act.put, List.setIfInBounds_toArray, List.set_cons_zero, List.set_cons_succ]
        refine wpAnyH_take (i := 6) (oi := q24b6) (v := ?_) rfl (by kernel_rfl) (by kernel_rfl) (by kernel_rfl) (fun _ _ _ h => h) (Or.inl ⟨by rfl, ?_⟩) hHeld ?_
        rotate_left
        · (intro w hSw; (try dsimp only at hSw); unfold q24b6; go_simp <;> with_reducible rfl)
        try simp only [q24b6, Act.put, List.setIfInBounds_toArray, List.set_cons_zero, List.set_cons_succ]
        refine wpAnyH_take (i := 7) (oi := q24b7) (v := ?_) rfl (by kernel_rfl) (by kernel_rfl) (by kernel_rfl) (fun _ _ _ h => h) (Or.inl ⟨by rfl, ?_⟩) hHeld ?_
        rotate_left
        · (intro w hSw; (try dsimp only at hSw); unfold q24b7; go_simp <;> with_reducible rfl)
        try simp only [q24b7, Act.put, List.setIfInBounds_toArray, List.set_cons_zero, List.set_cons_succ]
        refine wpAnyH_take (i := 8) (oi := q24b8) (v := ?_) rfl (by kernel_rfl) (by kernel_rfl) (by kernel_rfl) (fun _ _ _ h => h) (Or.inl ⟨by rfl, ?_⟩) hHeld ?_
        rotate_left
        · (intro w hSw; (try dsimp only at hSw); unfold q24b8; go_simp <;> with_reducible rfl)
        try simp only [q24b8, Act.put, List.setIfInBounds_toArray, List.set_cons_zero, List.set_cons_succ]
        refine wpAnyH_take (i := 9) (oi := q24b9) (v := ?_) rfl (by kernel_rfl) (by kernel_rfl) (by kernel_rfl) (fun _ _ _ h => h) (Or.inl ⟨by rfl, ?_⟩) hHeld ?_
        rotate_left
        · (intro w hSw; (try dsimp only at hSw); unfold q24b9; go_simp <;> with_reducible rfl)
        try simp only [q24b9, Act.put, List.setIfInBounds_toArray, List.set_cons_zero, List.set_cons_succ]
        refine wpAnyH_take (i := 10) (oi := q24b10) (v := ?_) rfl (by kernel_rfl) (by kernel_rfl) (by kernel_rfl) (fun _ _ _ h => h) (Or.inl ⟨by rfl, ?_⟩) hHeld ?_
        rotate_left
        · (intro w hSw; (try dsimp only at hSw); unfold q24b10; go_simp <;> with_reducible rfl)
        try simp only [q24b10, Act.put, List.setIfInBounds_toArray, List.set_cons_zero, List.set_cons_succ]
        refine wpAnyH_take (i := 11) (oi := q24b11) (v := ?_) rfl (by kernel_rfl) (by kernel_rfl) (by kernel_rfl) (fun _ _ _ h => h) (Or.inl ⟨by rfl, ?_⟩) hHeld ?_
        rotate_left
        · (intro w hSw; (try dsimp only at hSw); unfold q24b11; go_simp <;> with_reducible rfl)
        try simp only [q24b11, Act.put, List.setIfInBounds_toArray, List.set_cons_zero, List.set_cons_succ]
        refine wpAnyH_take (i := 12) (oi := q24b12) (v := ?_) rfl (by kernel_rfl) (by kernel_rfl) (by kernel_rfl) (fun _ _ _ h => h) (Or.inl ⟨by rfl, ?_⟩) hHeld ?_
        rotate_left
        · (intro w hSw; (try dsimp only at hSw); unfold q24b12; go_simp <;> with_reducible rfl)
        try simp only [q24b12, Act.put, List.setIfInBounds_toArray, List.set_cons_zero, List.set_cons_succ]
        refine wpAnyH_take (i := 13) (oi := q24b13) (v := ?_) rfl (by kernel_rfl) (by kernel_rfl) (by kernel_rfl) (fun _ _ _ h => h) (Or.inl ⟨by rfl, ?_⟩) hHeld ?_
        rotate_left
        · (intro w hSw; (try dsimp only at hSw); unfold q24b13; go_simp <;> with_reducible rfl)
        try simp only [q24b13, Act.put, List.setIfInBounds_toArray, List.set_cons_zero, List.set_cons_succ]
        refine wpAnyH_take (i := 14) (oi := q24b14) (v := ?_) rfl (by kernel_rfl) (by kernel_rfl) (by kernel_rfl) (fun _ _ _ h => h) (Or.inl ⟨by rfl, ?_⟩) hHeld ?_
        rotate_left
        · (intro w hSw; (try dsimp only at hSw); unfold q24b14; go_simp <;> with_reducible rfl)
        try simp only [q24b14, Act.put, List.setIfInBounds_toArray, List.set_cons_zero, List.set_cons_succ]
        refine wpAnyH_ready (rs := [15]) (by kernel_rfl) (by simp) ?_
        refine AllReadyH.cons (o := q24b15) rfl (fun K hK => ?_) AllReadyH.nil
        rw [if_pos (by rfl)]
        unfold q24b15
        go_simp
        refine hK.out _ _ HS2.out (fun hHeld => ?_)
        clear hK K
        try simp only [q24b15, Act.put]
        refine wpAnyH_done (by kernel_rfl) ?_ _
        clear hHeld
        go_wp2
        go_roundw
        case rel => exact ⟨n + 1, by go_num, by omega, HN.out.drew⟩
        case measure => simp [intOf]; omega
      · obtain rfl : n = m := by omega
        obtain rfl := (HA3.out (by simp) (by simp) (by simp) hneg).symm
        obtain ⟨x0, x1, x2, x3⟩ := h7.xs.four
        obtain ⟨f0, f1, f2, f3⟩ := h7.xs.free
        have hlo : (n : Int) ≤ left := by omega
        have hx2 := h7.xs.set 2 (.int .i64 (left - (n : Int)))
        have hG := grown_setCell (W := wr) (b := x) 2 (.int .i64 (left - (n : Int)))
        have HYC := Lib.hid (hY1.moved hG (by have := h7.bel.size; omega) (by simp; omega))
        have HGG := Lib.hid hG
        clear h7 hX1 hY1 e0 e1 e2 e3 hnm hlt HS HPC HCS HCL HON hBr hx2 hG
        go_wp2_with (refine store_disk rfl (.tmp 2) (.tmp 94) rfl (w.heap.size + 1) _ _ _ _ _ _ _ _ (by rfl) (by rfl) HYC.out rfl ?_; intro W9 hG9 hA9; obtain ⟨y0, y1, y2, y3⟩ := hA9.four)
        obtain ⟨o1, o2⟩ := H7.out.fin (HTL.out n) HB1.out hlt1 HGG.out hG9 (left - (n : Int)) false (by unfold In64; omega)
        refine bodyPost_ret (v := .tuple #[.agg #[.slice (some ⟨g, 0, none⟩) k cap, .slice none 0 0, .int .i64 (left - (n : Int)), .bool false], .int .i64 0]) (by simp [results, Try.results24, go_sem, y0, y1, y2, y3]) rfl ⟨_, rfl, o1, o2⟩
end Go.Proofs.Ytmklchjgiaomkaa
