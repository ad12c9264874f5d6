/- ref.Decode. -/
import Derived.Test.YtkecoohplpbgnaaRrAny
import Derived.Test.YtkecoohplpbgnaaLawEnc
namespace Go.Proofs.Ytkecoohplpbgnaa
open Go.RowKit

theorem Zro.alloc {w : World} {p : Nat} (h : Zro w p) (hp : p < w.heap.size) (o : Obj) : Zro (w.alloc o) p := h.of (Below.heap_alloc _ _ _ hp)
theorem RR.alloc {w : World} {rb : Nat} {a : Option Addr} {cap : Nat} {all : List UInt8} {k : Nat} {bad : Bool} (h : RR w rb a cap all k bad) (o : Obj) : RR (w.alloc o) rb a cap all k bad :=
  h.moved (r := none) (World.grownBy_alloc _ _ _) (by simp) (fun _ _ _ => by simp)
theorem belowr {a b : World} {g B : Nat} (h : a.grownBy b (some g)) (hB : B ≤ a.heap.size) (hg : B ≤ g) : Below B a b := belowg h hB hg

theorem value_any (q : Nat) (w : World) (rb : Nat) (a : Option Addr) (cap : Nat) (all : List UInt8) (k : Nat) (dep : Int) (hdep : dep + q = 16) (hd0 : 0 ≤ dep) (h : RR w rb a cap all k false) (hda : all = [] ∨ ∀ db off, a = some ⟨db, off, none⟩ → db < w.heap.size) :
    Calls Try.prog 35 #[.pointer (some ⟨rb, 0, none⟩), .int .i64 dep] w (ValR w rb a cap all (rdV q (all.drop k))) := by
  rcases hda with hda | hda
  · have hkl : k = all.length := by have := h.le; rw [hda] at this ⊢; simpa using this
    have e : rdV q (all.drop k) = none := by rw [hkl, List.drop_length, rdV_eq]; rfl
    exact rval_bad w rb a cap all k true dep 0 _ e h (.inl hda) (fun W hW => (next_end W rb a cap all k false hW hkl).mono fun e w' hh => ⟨hh.1, ⟨_, hh.2.1⟩, hh.2.2⟩) ⟨by omega, by omega, by omega⟩
  · exact value_ref q w rb a cap all k dep hdep hd0 h hda

def restOf : Option (V × List UInt8) → Option V
  | some (x, []) => some x
  | _ => none
theorem decode_rest {bs : List UInt8} {o : Option (V × List UInt8)} (h : rdV 16 bs = o) : decode bs = restOf o := by subst h; rfl
theorem drop_cons_of_lt {bs : List UInt8} {k : Nat} (h : k < bs.length) : ∃ b r, bs.drop k = b :: r := ⟨_, _, List.drop_eq_getElem_cons h⟩
def q19d0 : Oper := { dst := some 11, op := Go.Op.move (Go.Operand.tmp 4), type := 51, pos := "ref.go:164", after := #[], guard := none }
def q19d1 : Oper := { dst := some 12, op := Go.Op.nilCheck (Go.Operand.tmp 11), type := 0, pos := "ref.go:164", after := #[{ on := 0, ground := Go.Ground.data }], guard := none }
def q19d2 : Oper := { dst := some 13, op := Go.Op.fieldAddr 53 (Go.Operand.tmp 12) 2, type := 0, pos := "ref.go:164", after := #[{ on := 1, ground := Go.Ground.data }], guard := none }
def q19d3 : Oper := { dst := some 14, op := Go.Op.load 4 (Go.Operand.tmp 13), type := 4, pos := "ref.go:164", after := #[{ on := 2, ground := Go.Ground.data }], guard := none }
def q19d4 : Oper := { dst := some 15, op := Go.Op.move (Go.Operand.tmp 14), type := 4, pos := "ref.go:164", after := #[{ on := 3, ground := Go.Ground.data }], guard := none }
def q19d5 : Oper := { dst := some 16, op := Go.Op.move (Go.Operand.tmp 4), type := 51, pos := "ref.go:164", after := #[{ on := 4, ground := Go.Ground.guard }], guard := some (4, false) }
def q19d6 : Oper := { dst := some 17, op := Go.Op.nilCheck (Go.Operand.tmp 16), type := 0, pos := "ref.go:164", after := #[{ on := 5, ground := Go.Ground.data }, { on := 4, ground := Go.Ground.guard }], guard := some (4, false) }
def q19d7 : Oper := { dst := some 18, op := Go.Op.fieldAddr 53 (Go.Operand.tmp 17) 1, type := 0, pos := "ref.go:164", after := #[{ on := 6, ground := Go.Ground.data }, { on := 4, ground := Go.Ground.guard }], guard := some (4, false) }
def q19d8 : Oper := { dst := some 19, op := Go.Op.load 3 (Go.Operand.tmp 18), type := 3, pos := "ref.go:164", after := #[{ on := 7, ground := Go.Ground.data }, { on := 4, ground := Go.Ground.guard }], guard := some (4, false) }
def q19d9 : Oper := { dst := some 20, op := Go.Op.move (Go.Operand.tmp 0), type := 27, pos := "ref.go:164", after := #[{ on := 4, ground := Go.Ground.guard }], guard := some (4, false) }
def q19d10 : Oper := { dst := some 21, op := Go.Op.call { callee := Go.Callee.builtin Go.Builtin.len, args := #[Go.Operand.tmp 20], argTypes := #[27] }, type := 3, pos := "ref.go:164", after := #[{ on := 9, ground := Go.Ground.data }, { on := 4, ground := Go.Ground.guard }], guard := some (4, false) }
def q19d11 : Oper := { dst := some 22, op := Go.Op.binOp Go.BinOp.neq 3 (Go.Operand.tmp 19) (Go.Operand.tmp 21) 3, type := 4, pos := "ref.go:164", after := #[{ on := 8, ground := Go.Ground.data }, { on := 10, ground := Go.Ground.data }, { on := 4, ground := Go.Ground.guard }], guard := some (4, false) }
def q19d12 : Oper := { dst := some 23, op := Go.Op.pick (Go.Operand.tmp 15) (Go.Operand.const (Go.Value.bool true)) (Go.Operand.tmp 22), type := 4, pos := "ref.go:164", after := #[{ on := 4, ground := Go.Ground.data }, { on := 11, ground := Go.Ground.data }], guard := none }
def q19d13 : Oper := { dst := some 24, op := Go.Op.move (Go.Operand.tmp 23), type := 4, pos := "ref.go:164", after := #[{ on := 12, ground := Go.Ground.data }, { on := 4, ground := Go.Ground.chain }], guard := none }
def q19d14 : Oper := { dst := some 25, op := Go.Op.load 24 (Go.Operand.tmp 5), type := 24, pos := "ref.go:164", after := #[{ on := 13, ground := Go.Ground.guard }], guard := some (13, false) }
def q19d15 : Oper := { dst := some 26, op := Go.Op.call { callee := Go.Callee.value (Go.Operand.func 17), args := #[Go.Operand.tmp 25], argTypes := #[24] }, type := 28, pos := "ref.go:164", after := #[{ on := 14, ground := Go.Ground.data }, { on := 13, ground := Go.Ground.chain }, { on := 13, ground := Go.Ground.guard }], guard := some (13, false) }
def q19d16 : Oper := { dst := some 27, op := Go.Op.binOp Go.BinOp.neq 28 (Go.Operand.tmp 26) (Go.Operand.const (Go.Value.int Go.IntKind.i64 0)) 28, type := 4, pos := "ref.go:164", after := #[{ on := 15, ground := Go.Ground.data }, { on := 13, ground := Go.Ground.guard }], guard := some (13, false) }
def q19d17 : Oper := { dst := some 28, op := Go.Op.pick (Go.Operand.tmp 24) (Go.Operand.const (Go.Value.bool true)) (Go.Operand.tmp 27), type := 4, pos := "ref.go:164", after := #[{ on := 13, ground := Go.Ground.data }, { on := 16, ground := Go.Ground.data }], guard := none }
def q19d18 : Oper := { dst := some 29, op := Go.Op.move (Go.Operand.tmp 28), type := 4, pos := "ref.go:164", after := #[{ on := 17, ground := Go.Ground.data }, { on := 15, ground := Go.Ground.chain }], guard := none }
def q19d19 : Oper := { dst := some 30, op := Go.Op.load 24 (Go.Operand.tmp 5), type := 24, pos := "ref.go:164", after := #[{ on := 18, ground := Go.Ground.guard }], guard := some (18, false) }
def q19d20 : Oper := { dst := some 31, op := Go.Op.call { callee := Go.Callee.value (Go.Operand.func 28), args := #[Go.Operand.tmp 30], argTypes := #[24] }, type := 27, pos := "ref.go:164", after := #[{ on := 19, ground := Go.Ground.data }, { on := 18, ground := Go.Ground.chain }, { on := 18, ground := Go.Ground.guard }], guard := some (18, false) }
def q19d21 : Oper := { dst := some 32, op := Go.Op.convert 27 9 (Go.Operand.tmp 31), type := 9, pos := "ref.go:164", after := #[{ on := 20, ground := Go.Ground.data }, { on := 18, ground := Go.Ground.guard }], guard := some (18, false) }
def q19d22 : Oper := { dst := some 33, op := Go.Op.move (Go.Operand.tmp 0), type := 27, pos := "ref.go:164", after := #[{ on := 18, ground := Go.Ground.guard }], guard := some (18, false) }
def q19d23 : Oper := { dst := some 34, op := Go.Op.convert 27 9 (Go.Operand.tmp 33), type := 9, pos := "ref.go:164", after := #[{ on := 22, ground := Go.Ground.data }, { on := 18, ground := Go.Ground.guard }], guard := some (18, false) }
def q19d24 : Oper := { dst := some 35, op := Go.Op.binOp Go.BinOp.neq 9 (Go.Operand.tmp 32) (Go.Operand.tmp 34) 9, type := 4, pos := "ref.go:164", after := #[{ on := 21, ground := Go.Ground.data }, { on := 23, ground := Go.Ground.data }, { on := 18, ground := Go.Ground.guard }], guard := some (18, false) }
def q19d25 : Oper := { dst := some 36, op := Go.Op.pick (Go.Operand.tmp 29) (Go.Operand.const (Go.Value.bool true)) (Go.Operand.tmp 35), type := 4, pos := "ref.go:164", after := #[{ on := 18, ground := Go.Ground.data }, { on := 24, ground := Go.Ground.data }], guard := none }

set_option maxRecDepth 100000 in
set_option maxHeartbeats 4000000 in
theorem rdecode_any (w : World) (v : Value) (bs : List UInt8) (hbl : bs.length ≤ 1000000) (h : BytesAt w w.heap.size v bs) :
    Calls Try.prog 19 #[v] w (DecPost w (decode bs)) := by
  obtain ⟨a, cap, rfl, hcap, hm, h4⟩ := h
  obtain ⟨w1, hw1⟩ : ∃ w1, w1 = (w.alloc (Obj.cells #[.int .i64 0, .int .i64 0, .string { data := #[] }, .slice none 0 0] 24)).alloc (Obj.cells #[.slice a bs.length cap, .int .i64 0, .bool false] 53) := ⟨_, rfl⟩
  have hz1 : w1.heap.size = w.heap.size + 2 := by rw [hw1]; simp
  have hB1 : Below w.heap.size w w1 := by rw [hw1]; go_grown
  have hz : Zro w1 w.heap.size := by rw [hw1]; exact (Zro.new w).alloc (by simp) _
  have hda : bs = [] ∨ ∀ db off, a = some ⟨db, off, none⟩ → db < w1.heap.size := by
    rcases h4 with h4 | ⟨db, off, h4, h5, h6⟩
    · exact .inl h4
    · exact .inr fun db' off' e => by rw [h4] at e; injection e with e; injection e with e1; omega
  have hrd : RR w1 (w.heap.size + 1) a cap bs 0 false := by
    refine ⟨by rw [hw1]; go_cell, by rw [hw1]; go_cell, by rw [hw1]; go_cell, by rw [hw1]; go_cell, by rw [hw1]; go_cell, Nat.zero_le _, hbl, hcap, ?_⟩
    rcases h4 with h4 | ⟨db, off, h4, h5, h6⟩
    · exact .inl h4
    · exact .inr ⟨db, off, h4, by omega, by omega, fun i hi => (hB1.cell (p := ⟨db, off + i, none⟩) h5).trans (h6 i hi)⟩
  have hc := value_any 16 w1 (w.heap.size + 1) a cap bs 0 0 (by omega) (by omega) hrd hda
  obtain ⟨o, ho⟩ : ∃ o, rdV 16 bs = o := ⟨_, rfl⟩
  rw [List.drop_zero, ho] at hc
  have hdec := decode_rest ho
  obtain ⟨O, hO⟩ : ∃ O, decode bs = O := ⟨_, rfl⟩
  rw [hO] at hdec ⊢
  have HC := Lib.hid hc
  have HW := Lib.hid hw1
  have HDEC := Lib.hid hdec
  have HO := Lib.hid hO
  have HZ := Lib.hid hz
  have HBY : Hid (BytesAt w w.heap.size (.slice a bs.length cap) bs) := Lib.hid ⟨a, cap, rfl, hcap, hm, h4⟩
  clear hc hw1 hdec hO ho hz hrd h4 hda
  go_enter Try.func19, Try.ntmps19
  go_wp2_with fail
  rw [← HW.out]
  refine HC.out.mono ?_
  rintro e w2 ⟨hg2, hcase⟩
  have hB2 : Below w.heap.size w w2 := hB1.trans (belowg (B := w.heap.size) hg2 (by omega) (by omega))
  have hz2 := HZ.out.of (hg2.block w.heap.size (by omega) (by simp))
  have hs2 := hg2.size
  rcases hcase with ⟨x, k, v, hox, rfl, hx, hr⟩ | ⟨hon, c0, c1, s, d, m, n, k, rfl, hr⟩
  · obtain ⟨k1, n, s, al, len, cp, rfl⟩ := own_shape hx
    have hr3 := hr.alloc (Obj.cells #[.int .i64 k1, .int .i64 n, .string s, .slice al len cp] 24)
    have hz3 := hz2.alloc (by omega) (Obj.cells #[.int .i64 k1, .int .i64 n, .string s, .slice al len cp] 24)
    have hB3 := hB2.alloc (by omega) (Obj.cells #[.int .i64 k1, .int .i64 n, .string s, .slice al len cp] 24)
    have r0 := hr3.c0
    have r1 := hr3.c1
    have r2 := hr3.c2
    have f2 := hr3.f2
    have hz3' := hz3
    obtain ⟨q0, q1, q2, q3, f⟩ := hz3
    have g0 := f 0
    have g1 := f 1
    have g2 := f 2
    have g3 := f 3
    by_cases hk : k < bs.length
    · have hn : ((k : Int) != (bs.length : Int)) = true := by simp; omega
      have hO : O = none := by
        obtain ⟨b, r, e⟩ := drop_cons_of_lt hk
        have := HDEC.out
        rw [hox, e] at this
        exact this
      subst hO
      have HB3 := Lib.hid hB3
      clear hox hx hr hr3 hz2 hz3' hg2 hB2 hB3 hB1 f
      go_wp2_with fail
      go_quiet (fail)
      have hBN := below_drewN HB3.out nq
      go_wp2
      refine bodyPost_ret (v := .tuple #[.agg #[.int .i64 0, .int .i64 0, .string { data := #[] }, .slice none 0 0], .int .i64 10]) (by simp [results, Try.results19, go_sem, q0, q1, q2, q3]) rfl ⟨rfl, ?_⟩
      exact (((hBN.setCell (Nat.le_refl _) _).setCell (Nat.le_refl _) _).setCell (Nat.le_refl _) _).setCell (Nat.le_refl _) _
    · obtain rfl : k = bs.length := by have := hr.le; omega
      have hn : ((bs.length : Int) != (bs.length : Int)) = false := by simp
      have hO : O = some x := by
        have := HDEC.out
        rw [hox, List.drop_length] at this
        exact this
      subst hO
      obtain ⟨hbe, hck⟩ := decode_back HO.out
      obtain ⟨hform, hdp⟩ := And.right (rdV_back 16 bs x [] (by
        have := HO.out
        unfold decode at this
        split at this
        · rename_i y he; injection this with this; subst this; exact he
        · cases this))
      obtain ⟨w3, hw3⟩ : ∃ w3, w3 = w2.alloc (Obj.cells #[.int .i64 k1, .int .i64 n, .string s, .slice al len cp] 24) := ⟨_, rfl⟩
      have HW3 := Lib.hid hw3
      rw [← hw3] at r0 r1 r2 f2 q0 q1 q2 q3 g0 g1 g2 g3 hB3 hr3 hz3' f
      clear q0 q1 q2 q3 g0 g1 g2 g3 f r0 r1 r2 f2 hn
      have hsz3 : w3.heap.size = w2.heap.size + 1 := by rw [hw3, World.size_alloc]
      have hx3 : V.At w3 w3.heap.size x (.agg #[.int .i64 k1, .int .i64 n, .string s, .slice al len cp]) :=
        V.At.mono (by omega) _ _ (V.At.below (w := w2) (B := w2.heap.size) (by rw [hw3]; exact (Below.refl _ _).alloc (Nat.le_refl _) _) _ _ (V.Own.at (fun b hb => hb.2) x _ hx))
      have hkc : ∀ W, Kept w3 W → ∀ b i u, b < w3.heap.size → w3.cell? ⟨b, i, none⟩ = some u → W.cell? ⟨b, i, none⟩ = some u := fun W hW b i u hb hu => (hW.below.cell (p := ⟨b, i, none⟩) hb).trans hu
      have hkx : ∀ W, Kept w3 W → V.At W W.heap.size x (.agg #[.int .i64 k1, .int .i64 n, .string s, .slice al len cp]) := fun W hW => V.At.mono hW.below.size _ _ (V.At.below hW.below _ _ hx3)
      have r0 : ∀ W, Kept w3 W → W.cell? ⟨w.heap.size + 1, 0, none⟩ = some (.slice a bs.length cap) := fun W hW => hkc W hW _ _ _ hr3.lt hr3.c0
      have r1 : ∀ W, Kept w3 W → W.cell? ⟨w.heap.size + 1, 1, none⟩ = some (.int .i64 bs.length) := fun W hW => hkc W hW _ _ _ hr3.lt hr3.c1
      have r2 : ∀ W, Kept w3 W → W.cell? ⟨w.heap.size + 1, 2, none⟩ = some (.bool false) := fun W hW => hkc W hW _ _ _ hr3.lt hr3.c2
      have y0 : ∀ W, Kept w3 W → W.cell? ⟨w2.heap.size, 0, none⟩ = some (.int .i64 k1) := fun W hW => hkc W hW _ _ _ (by omega) (by rw [hw3]; go_cell)
      have y1 : ∀ W, Kept w3 W → W.cell? ⟨w2.heap.size, 1, none⟩ = some (.int .i64 n) := fun W hW => hkc W hW _ _ _ (by omega) (by rw [hw3]; go_cell)
      have y2 : ∀ W, Kept w3 W → W.cell? ⟨w2.heap.size, 2, none⟩ = some (.string s) := fun W hW => hkc W hW _ _ _ (by omega) (by rw [hw3]; go_cell)
      have y3 : ∀ W, Kept w3 W → W.cell? ⟨w2.heap.size, 3, none⟩ = some (.slice al len cp) := fun W hW => hkc W hW _ _ _ (by omega) (by rw [hw3]; go_cell)
      have hKw : ∀ W, Kept w3 W → Below w.heap.size w W := fun W hW => hB3.trans (hW.below.mono (by omega))
      have hzW : ∀ W, Kept w3 W → Zro W w.heap.size := fun W hW => hz3'.of (hW.below.block w.heap.size (by omega))
      have hlx : x.enc.length = bs.length := by rw [← hbe]
      have hcC : ∀ W, Kept w3 W → Calls Try.prog 17 #[.agg #[.int .i64 k1, .int .i64 n, .string s, .slice al len cp]] W fun e w' => e = .returned (.int .i64 0) ∧ Kept w3 w' := fun W hW => by
        have := rcheck_any x W W.heap.size _ (by omega) (Nat.le_refl _) (hkx W hW)
        rw [hck] at this
        exact this.mono fun e w' h => ⟨h.1, hW.next h.2⟩
      have hcE : ∀ W, Kept w3 W → Calls Try.prog 28 #[.agg #[.int .i64 k1, .int .i64 n, .string s, .slice al len cp]] W (NewPost W bs) := fun W hW => by
        rw [hbe]; exact refEnc _ x (Nat.le_refl _) W W.heap.size _ hform (by omega) (Nat.le_refl _) (hkx W hW)
      obtain ⟨S, hS⟩ : ∃ S : ByteArray, (⟨bs.toArray⟩ : ByteArray) = S := ⟨_, rfl⟩
      have d2 : ∀ W, Kept w3 W → (convert 27 9 (.slice a bs.length cap)).run Try.prog W = .ok (.string S) W := fun W hW => by
        rw [← hS]
        obtain ⟨a', cap', hv, _, _, h5⟩ := HBY.out.below (hKw W hW)
        cases hv
        exact conv_bytes W a bs cap (h5.imp id fun ⟨db, off, e1, _, e3⟩ => ⟨db, off, e1, e3⟩)
      have HS := Lib.hid hS
      have HCC := Lib.hid hcC
      have HCE := Lib.hid hcE
      have HKW := Lib.hid hKw
      have HZW := Lib.hid hzW
      have HLX := Lib.hid hlx
      have HX := Lib.hid hx
      have HY0 := Lib.hid y0
      have HSZ := Lib.hid hsz3
      have hvb : Hid (w.heap.size < w2.heap.size) := Lib.hid (by omega)
      clear hox hx hr hr3 hz2 hz3' hg2 hB2 hB3 hB1 hbe hck hform hdp hx3 hkc hkx hKw hzW hlx hcC hcE hS HO HDEC HBY HZ HW HC
      have z2 := r2 _ (Kept.refl _)
      go_wp2_with fail
      rw [← HW3.out]
      clear hw3 z2
      refine wp_region_held_drew (S := fun W => Kept w3 W) (by kernel_rfl) (Kept.drew (Kept.refl _)) (fun hHeld => ?_)
      refine wpAnyH_take (i := 0) (oi := q19d0) (v := ?_) rfl (by kernel_rfl) (by kernel_rfl) (by kernel_rfl) (fun _ _ _ h => h) (Or.inl ⟨by rfl, ?_⟩) hHeld ?_
      rotate_left
      · (intro w hSw; (try dsimp only at hSw); unfold q19d0; go_simp <;> with_reducible rfl)
      try simp only [q19d0, Act.put, List.setIfInBounds_toArray, List.set_cons_zero, List.set_cons_succ]
      refine wpAnyH_take (i := 1) (oi := q19d1) (v := ?_) rfl (by kernel_rfl) (by kernel_rfl) (by kernel_rfl) (fun _ _ _ h => h) (Or.inl ⟨by rfl, ?_⟩) hHeld ?_
      rotate_left
      · (intro w hSw; (try dsimp only at hSw); unfold q19d1; go_simp <;> with_reducible rfl)
      try simp only [q19d1, Act.put, List.setIfInBounds_toArray, List.set_cons_zero, List.set_cons_succ]
      refine wpAnyH_take (i := 2) (oi := q19d2) (v := ?_) rfl (by kernel_rfl) (by kernel_rfl) (by kernel_rfl) (fun _ _ _ h => h) (Or.inl ⟨by rfl, ?_⟩) hHeld ?_
      rotate_left
      · (intro w hSw; (try dsimp only at hSw); unfold q19d2; go_simp <;> with_reducible rfl)
      try simp only [q19d2, Act.put, List.setIfInBounds_toArray, List.set_cons_zero, List.set_cons_succ]
      refine wpAnyH_take (i := 3) (oi := q19d3) (v := ?_) rfl (by kernel_rfl) (by kernel_rfl) (by kernel_rfl) (fun _ _ _ h => h) (Or.inl ⟨by rfl, ?_⟩) hHeld ?_
      rotate_left
      · (intro w hSw; (try dsimp only at hSw); unfold q19d3; go_simp <;> with_reducible rfl)
      try simp only [q19d3, Act.put, List.setIfInBounds_toArray, List.set_cons_zero, List.set_cons_succ]
      refine wpAnyH_take (i := 4) (oi := q19d4) (v := ?_) rfl (by kernel_rfl) (by kernel_rfl) (by kernel_rfl) (fun _ _ _ h => h) (Or.inl ⟨by rfl, ?_⟩) hHeld ?_
      rotate_left
      · (intro w hSw; (try dsimp only at hSw); unfold q19d4; go_simp <;> with_reducible rfl)
      try simp only [q19d4, Act.put, List.setIfInBounds_toArray, List.set_cons_zero, List.set_cons_succ]
      refine wpAnyH_take (i := 5) (oi := q19d5) (v := ?_) rfl (by kernel_rfl) (by kernel_rfl) (by kernel_rfl) (fun _ _ _ h => h) (Or.inl ⟨by rfl, ?_⟩) hHeld ?_
      rotate_left
      · (intro w hSw; (try dsimp only at hSw); unfold q19d5; go_simp <;> with_reducible rfl)
      try simp only [q19d5, Act.put, List.setIfInBounds_toArray, List.set_cons_zero, List.set_cons_succ]
      refine wpAnyH_take (i := 6) (oi := q19d6) (v := ?_) rfl (by kernel_rfl) (by kernel_rfl) (by kernel_rfl) (fun _ _ _ h => h) (Or.inl ⟨by rfl, ?_⟩) hHeld ?_
      rotate_left
      · (intro w hSw; (try dsimp only at hSw); unfold q19d6; go_simp <;> with_reducible rfl)
      try simp only [q19d6, Act.put, List.setIfInBounds_toArray, List.set_cons_zero, List.set_cons_succ]
      refine wpAnyH_take (i := 7) (oi := q19d7) (v := ?_) rfl (by kernel_rfl) (by kernel_rfl) (by kernel_rfl) (fun _ _ _ h => h) (Or.inl ⟨by rfl, ?_⟩) hHeld ?_
      rotate_left
      · (intro w hSw; (try dsimp only at hSw); unfold q19d7; go_simp <;> with_reducible rfl)
      try simp only [q19d7, Act.put, List.setIfInBounds_toArray, List.set_cons_zero, List.set_cons_succ]
      refine wpAnyH_take (i := 8) (oi := q19d8) (v := ?_) rfl (by kernel_rfl) (by kernel_rfl) (by kernel_rfl) (fun _ _ _ h => h) (Or.inl ⟨by rfl, ?_⟩) hHeld ?_
      rotate_left
      · (intro w hSw; (try dsimp only at hSw); unfold q19d8; go_simp <;> with_reducible rfl)
      try simp only [q19d8, Act.put, List.setIfInBounds_toArray, List.set_cons_zero, List.set_cons_succ]
      refine wpAnyH_take (i := 9) (oi := q19d9) (v := ?_) rfl (by kernel_rfl) (by kernel_rfl) (by kernel_rfl) (fun _ _ _ h => h) (Or.inl ⟨by rfl, ?_⟩) hHeld ?_
      rotate_left
      · (intro w hSw; (try dsimp only at hSw); unfold q19d9; go_simp <;> with_reducible rfl)
      try simp only [q19d9, Act.put, List.setIfInBounds_toArray, List.set_cons_zero, List.set_cons_succ]
      refine wpAnyH_take (i := 10) (oi := q19d10) (v := ?_) rfl (by kernel_rfl) (by kernel_rfl) (by kernel_rfl) (fun _ _ _ h => h) (Or.inl ⟨by rfl, ?_⟩) hHeld ?_
      rotate_left
      · (intro w hSw; (try dsimp only at hSw); unfold q19d10; go_simp <;> with_reducible rfl)
      try simp only [q19d10, Act.put, List.setIfInBounds_toArray, List.set_cons_zero, List.set_cons_succ]
      refine wpAnyH_take (i := 11) (oi := q19d11) (v := ?_) rfl (by kernel_rfl) (by kernel_rfl) (by kernel_rfl) (fun _ _ _ h => h) (Or.inl ⟨by rfl, ?_⟩) hHeld ?_
      rotate_left
      · (intro w hSw; (try dsimp only at hSw); unfold q19d11; go_simp <;> with_reducible rfl)
      try simp only [q19d11, Act.put, List.setIfInBounds_toArray, List.set_cons_zero, List.set_cons_succ]
      refine wpAnyH_take (i := 12) (oi := q19d12) (v := ?_) rfl (by kernel_rfl) (by kernel_rfl) (by kernel_rfl) (fun _ _ _ h => h) (Or.inl ⟨by rfl, ?_⟩) hHeld ?_
      rotate_left
      · (intro w hSw; (try dsimp only at hSw); unfold q19d12; go_simp <;> with_reducible rfl)
      try simp only [q19d12, Act.put, List.setIfInBounds_toArray, List.set_cons_zero, List.set_cons_succ]
      refine wpAnyH_take (i := 13) (oi := q19d13) (v := ?_) rfl (by kernel_rfl) (by kernel_rfl) (by kernel_rfl) (fun _ _ _ h => h) (Or.inl ⟨by rfl, ?_⟩) hHeld ?_
      rotate_left
      · (intro w hSw; (try dsimp only at hSw); unfold q19d13; go_simp <;> with_reducible rfl)
      try simp only [q19d13, Act.put, List.setIfInBounds_toArray, List.set_cons_zero, List.set_cons_succ]
      refine wpAnyH_take (i := 14) (oi := q19d14) (v := ?_) rfl (by kernel_rfl) (by kernel_rfl) (by kernel_rfl) (fun _ _ _ h => h) (Or.inl ⟨by rfl, ?_⟩) hHeld ?_
      rotate_left
      · (intro w hSw; (try dsimp only at hSw); unfold q19d14; go_simp <;> with_reducible rfl)
      try simp only [q19d14, Act.put, List.setIfInBounds_toArray, List.set_cons_zero, List.set_cons_succ]
      refine wpAnyH_ready (rs := [15]) (by kernel_rfl) (by simp) ?_
      refine AllReadyH.cons (o := q19d15) rfl (fun K hK => ?_) AllReadyH.nil
      rw [if_pos (by rfl)]
      unfold q19d15
      go_simp
      go_at_call 17
      refine (HCC.out _ hHeld).mono ?_
      rintro e w8 ⟨rfl, hK8⟩
      go_wp2_with fail
      clear hHeld
      refine hK.out _ _ hK8 (fun hHeld => ?_)
      clear hK K
      try simp only [q19d15, Act.put, List.setIfInBounds_toArray, List.set_cons_zero, List.set_cons_succ]
      refine wpAnyH_take (i := 16) (oi := q19d16) (v := ?_) rfl (by kernel_rfl) (by kernel_rfl) (by kernel_rfl) (fun _ _ _ h => h) (Or.inl ⟨by rfl, ?_⟩) hHeld ?_
      rotate_left
      · (intro w hSw; (try dsimp only at hSw); unfold q19d16; go_simp <;> with_reducible rfl)
      try simp only [q19d16, Act.put, List.setIfInBounds_toArray, List.set_cons_zero, List.set_cons_succ]
      refine wpAnyH_take (i := 17) (oi := q19d17) (v := ?_) rfl (by kernel_rfl) (by kernel_rfl) (by kernel_rfl) (fun _ _ _ h => h) (Or.inl ⟨by rfl, ?_⟩) hHeld ?_
      rotate_left
      · (intro w hSw; (try dsimp only at hSw); unfold q19d17; go_simp <;> with_reducible rfl)
      try simp only [q19d17, Act.put, List.setIfInBounds_toArray, List.set_cons_zero, List.set_cons_succ]
      refine wpAnyH_take (i := 18) (oi := q19d18) (v := ?_) rfl (by kernel_rfl) (by kernel_rfl) (by kernel_rfl) (fun _ _ _ h => h) (Or.inl ⟨by rfl, ?_⟩) hHeld ?_
      rotate_left
      · (intro w hSw; (try dsimp only at hSw); unfold q19d18; go_simp <;> with_reducible rfl)
      try simp only [q19d18, Act.put, List.setIfInBounds_toArray, List.set_cons_zero, List.set_cons_succ]
      refine wpAnyH_take (i := 19) (oi := q19d19) (v := ?_) rfl (by kernel_rfl) (by kernel_rfl) (by kernel_rfl) (fun _ _ _ h => h) (Or.inl ⟨by rfl, ?_⟩) hHeld ?_
      rotate_left
      · (intro w hSw; (try dsimp only at hSw); unfold q19d19; go_simp <;> with_reducible rfl)
      try simp only [q19d19, Act.put, List.setIfInBounds_toArray, List.set_cons_zero, List.set_cons_succ]
      refine wpAnyH_take (i := 22) (oi := q19d22) (v := ?_) rfl (by kernel_rfl) (by kernel_rfl) (by kernel_rfl) (fun _ _ _ h => h) (Or.inl ⟨by rfl, ?_⟩) hHeld ?_
      rotate_left
      · (intro w hSw; (try dsimp only at hSw); unfold q19d22; go_simp <;> with_reducible rfl)
      try simp only [q19d22, Act.put, List.setIfInBounds_toArray, List.set_cons_zero, List.set_cons_succ]
      refine wpAnyH_take (i := 23) (oi := q19d23) (v := ?_) rfl (by kernel_rfl) (by kernel_rfl) (by kernel_rfl) (fun _ _ _ h => h) (Or.inl ⟨by rfl, ?_⟩) hHeld ?_
      rotate_left
      · (intro w hSw; (try dsimp only at hSw); unfold q19d23; go_simp <;> with_reducible rfl)
      try simp only [q19d23, Act.put, List.setIfInBounds_toArray, List.set_cons_zero, List.set_cons_succ]
      refine wpAnyH_ready (rs := [20]) (by kernel_rfl) (by simp) ?_
      refine AllReadyH.cons (o := q19d20) rfl (fun K hK => ?_) AllReadyH.nil
      rw [if_pos (by rfl)]
      unfold q19d20
      go_simp
      go_at_call 28
      refine (HCE.out _ hHeld).mono ?_
      rintro e w9 ⟨_, rfl, g1, cap1, rfl, hg9, hs9, hb9⟩
      have hK9 := Kept.next hHeld hb9
      have hcv := hs9.conv rfl
      rw [HS.out] at hcv
      go_wp2_with fail
      clear hHeld
      refine hK.out _ _ hK9 (fun hHeld => ?_)
      clear hK K
      try simp only [q19d20, Act.put, List.setIfInBounds_toArray, List.set_cons_zero, List.set_cons_succ]
      refine wpAnyH_ready (rs := [21]) (by kernel_rfl) (by simp) ?_
      refine AllReadyH.cons (o := q19d21) rfl (fun K hK => ?_) AllReadyH.nil
      rw [if_pos (by rfl)]
      unfold q19d21
      go_simp
      refine hK.out _ _ hHeld (fun hHeld => ?_)
      clear hK K
      try simp only [q19d21, Act.put, List.setIfInBounds_toArray, List.set_cons_zero, List.set_cons_succ]
      refine wpAnyH_take (i := 24) (oi := q19d24) (v := ?_) rfl (by kernel_rfl) (by kernel_rfl) (by kernel_rfl) (fun _ _ _ h => h) (Or.inl ⟨by rfl, ?_⟩) hHeld ?_
      rotate_left
      · (intro w hSw; (try dsimp only at hSw); unfold q19d24; go_simp <;> with_reducible rfl)
      try simp only [q19d24, Act.put, List.setIfInBounds_toArray, List.set_cons_zero, List.set_cons_succ]
      refine wpAnyH_take (i := 25) (oi := q19d25) (v := ?_) rfl (by kernel_rfl) (by kernel_rfl) (by kernel_rfl) (fun _ _ _ h => h) (Or.inl ⟨by rfl, ?_⟩) hHeld ?_
      rotate_left
      · (intro w hSw; (try dsimp only at hSw); unfold q19d25; go_simp <;> with_reducible rfl)
      try simp only [q19d25, Act.put, List.setIfInBounds_toArray, List.set_cons_zero, List.set_cons_succ]
      refine wpAnyH_done (by kernel_rfl) ?_ _
      clear hHeld
      have t0 := y0 _ hK9
      have t1 := y1 _ hK9
      have t2 := y2 _ hK9
      have t3 := y3 _ hK9
      obtain ⟨q0, q1, q2, q3, f⟩ := HZW.out _ hK9
      have g0 := f 0
      have g1 := f 1
      have g2 := f 2
      have g3 := f 3
      have HBW := Lib.hid (HKW.out _ hK9)
      have HGW := Lib.hid hK9.below
      clear f y0 y1 y2 y3 r0 r1 r2 d2
      go_wp2
      refine bodyPost_ret (v := .tuple #[.agg #[.int .i64 k1, .int .i64 n, .string s, .slice al len cp], .int .i64 0]) (by simp [results, Try.results19, go_sem, q0, q1, q2, q3]) rfl ⟨_, rfl, ?_, ?_⟩
      · have hsb := HSZ.out
        have hgs := HGW.out.size
        refine V.Own.keep (w' := set4 w9 w.heap.size (.int .i64 k1) (.int .i64 n) (.string s) (.slice al len cp)) (fun b hb => ?_) (fun b hb => ⟨by have := hb.1; omega, ?_⟩) x _ HX.out
        · have h1 := hb.1
          have h2 := hb.2
          rw [set4_block b (by omega), HGW.out.block b (by omega), HW3.out, Below.heap_alloc _ _ _ h2]
        · have := set4_size (w := w9) (b := w.heap.size) (v0 := .int .i64 k1) (v1 := .int .i64 n) (v2 := .string s) (v3 := .slice al len cp)
          unfold set4 at this; rw [this]; have h2 := hb.2; omega
      · exact (((HBW.out.setCell (Nat.le_refl _) _).setCell (Nat.le_refl _) _).setCell (Nat.le_refl _) _).setCell (Nat.le_refl _) _
  · have hr3 := hr.alloc (Obj.cells #[.int .i64 c0, .int .i64 c1, .string s, .slice d m n] 24)
    have hz3 := hz2.alloc (by omega) (Obj.cells #[.int .i64 c0, .int .i64 c1, .string s, .slice d m n] 24)
    have hB3 := hB2.alloc (by omega) (Obj.cells #[.int .i64 c0, .int .i64 c1, .string s, .slice d m n] 24)
    have r2 := hr3.c2
    obtain ⟨q0, q1, q2, q3, f⟩ := hz3
    have g0 := f 0
    have g1 := f 1
    have g2 := f 2
    have g3 := f 3
    have hO : O = none := by
      have := HDEC.out
      rw [hon] at this
      exact this
    subst hO
    have HB3 := Lib.hid hB3
    clear hon hr hr3 hz2 hg2 hB2 hB3 hB1 f
    go_wp2_with fail
    go_quiet (fail)
    have hBN := below_drewN HB3.out nq
    go_wp2
    refine bodyPost_ret (v := .tuple #[.agg #[.int .i64 0, .int .i64 0, .string { data := #[] }, .slice none 0 0], .int .i64 10]) (by simp [results, Try.results19, go_sem, q0, q1, q2, q3]) rfl ⟨rfl, ?_⟩
    exact (((hBN.setCell (Nat.le_refl _) _).setCell (Nat.le_refl _) _).setCell (Nat.le_refl _) _).setCell (Nat.le_refl _) _
end Go.Proofs.Ytkecoohplpbgnaa
