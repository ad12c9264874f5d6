/- The reference's reader: a list. -/
import Derived.Test.YtkecoohplpbgnaaRrTxt
import Derived.Deep.AppendLies
namespace Go.Proofs.Ytkecoohplpbgnaa
open Go.RowKit

/-- What the reference's value ends in, whatever it is. -/
theorem ValR.flat {w w' : World} {rb : Nat} {a : Option Addr} {cap : Nat} {all : List UInt8} {o : Option (V × List UInt8)} {e : Ending} (h : ValR w rb a cap all o e w') :
    ∃ c0 c1 c2 c3, e = .returned (.agg #[c0, c1, c2, c3]) ∧ (∀ u ∈ [c0, c1, c2, c3], u.oneCell' = true) ∧ w.grownBy w' (some rb) ∧
      ((∃ x k, o = some (x, all.drop k) ∧ V.Own w' (Fresh w w') x (.agg #[c0, c1, c2, c3]) ∧ RR w' rb a cap all k false) ∨ (o = none ∧ ∃ k, RR w' rb a cap all k true)) := by
  obtain ⟨hg, ⟨x, k, v, ho, he, hx, hr⟩ | ⟨ho, c0, c1, s, d, m, n, k, he, hr⟩⟩ := h
  · obtain ⟨k1, n, s, a1, len, cp, rfl⟩ := own_shape hx
    exact ⟨_, _, _, _, he, by simp [Value.oneCell'], hg, .inl ⟨x, k, ho, hx, hr⟩⟩
  · exact ⟨_, _, _, _, he, by simp [Value.oneCell'], hg, .inr ⟨ho, k, hr⟩⟩

/-- Where the list's reader stands: besides, v's block at vb with the slice SL. -/
structure LV (w W : World) (rb p vb : Nat) (a : Option Addr) (cap : Nat) (all : List UInt8) (SL : Value) : Prop where
  z : Zro W p
  g : w.grownBy W (some rb)
  ne : p ≠ rb
  new : w.heap.size ≤ p
  lt : p < W.heap.size
  da : ∀ db off, a = some ⟨db, off, none⟩ → db < w.heap.size
  v0 : W.cell? ⟨vb, 0, none⟩ = some (.int .i64 3)
  v1 : W.cell? ⟨vb, 1, none⟩ = some (.int .i64 0)
  v2 : W.cell? ⟨vb, 2, none⟩ = some (.string ⟨#[]⟩)
  v3 : W.cell? ⟨vb, 3, none⟩ = some SL
  vf : ∀ i, W.frozen? ⟨vb, i, none⟩ = false
  vrb : vb ≠ rb
  vp : p < vb
  vnew : w.heap.size ≤ vb
  vlt : vb < W.heap.size
theorem LV.same {w W W' : World} {rb p vb : Nat} {a : Option Addr} {cap : Nat} {all : List UInt8} {SL : Value} (h : LV w W rb p vb a cap all SL) (hg : w.grownBy W' (some rb)) (hs : W.heap.size ≤ W'.heap.size) (h1 : W'.heap[p]? = W.heap[p]?) (h2 : W'.heap[vb]? = W.heap[vb]?) : LV w W' rb p vb a cap all SL :=
  have hc : ∀ i, W'.cell? ⟨vb, i, none⟩ = W.cell? ⟨vb, i, none⟩ := fun i => World.cell?_of_block (a := ⟨vb, i, none⟩) h2
  ⟨h.z.of h1, hg, h.ne, h.new, Nat.lt_of_lt_of_le h.lt hs, h.da, (hc _).trans h.v0, (hc _).trans h.v1, (hc _).trans h.v2, (hc _).trans h.v3, fun i => (World.frozen?_of_block (a := ⟨vb, i, none⟩) h2).trans (h.vf i), h.vrb, h.vp, h.vnew, Nat.lt_of_lt_of_le h.vlt hs⟩
theorem LV.drewN {w W : World} {rb p vb : Nat} {a : Option Addr} {cap : Nat} {all : List UInt8} {SL : Value} (h : LV w W rb p vb a cap all SL) (n : Nat) : LV w (W.drewN n) rb p vb a cap all SL := h.same (gdrewN h.g n) (Nat.le_refl _) rfl rfl
theorem LV.grow {w W W' : World} {rb p vb : Nat} {a : Option Addr} {cap : Nat} {all : List UInt8} {SL : Value} (h : LV w W rb p vb a cap all SL) (hg : W.grownBy W' (some rb)) : LV w W' rb p vb a cap all SL :=
  h.same (gtrans h.g hg) hg.size (hg.block p h.lt (by simpa using h.ne)) (hg.block vb h.vlt (by simpa using h.vrb))
/-- Something has been appended. -/
theorem LV.appended {w W W' : World} {rb p vb : Nat} {a : Option Addr} {cap : Nat} {all : List UInt8} {SL : Value} (h : LV w W rb p vb a cap all SL) (o : Obj) (hg : (W.alloc o).grownBy W' SL.ownBlock) (hb : ∀ b, SL.ownBlock = some b → vb < b) : LV w W' rb p vb a cap all SL := by
  have hs := hg.size
  simp only [World.size_alloc] at hs
  have hk : ∀ b, b < W.heap.size → SL.ownBlock ≠ some b → W'.heap[b]? = W.heap[b]? := fun b hb hne => (hg.block b (by simp; omega) (fun e => hne e.symm)).trans (Below.heap_alloc _ _ _ hb)
  refine h.same (gthen h.g (gtrans (World.grownBy_alloc _ _ _) hg) fun b e => ?_) (by omega) (hk p h.lt fun e => by have := hb p e; have := h.vp; omega) (hk vb h.vlt fun e => by have := hb vb e; omega)
  left; have := hb b e; have := h.vnew; omega
theorem LV.stored {w W : World} {rb p vb : Nat} {a : Option Addr} {cap : Nat} {all : List UInt8} {SL : Value} (h : LV w W rb p vb a cap all SL) (SL' : Value) : LV w (W.setCell ⟨vb, 3, none⟩ SL') rb p vb a cap all SL' := by
  have hc : ∀ i, i ≠ 3 → (W.setCell ⟨vb, 3, none⟩ SL').cell? ⟨vb, i, none⟩ = W.cell? ⟨vb, i, none⟩ := fun i hi => World.cell?_setCell_other _ _ _ _ (by intro e; injection e with _ e2; exact hi e2.symm)
  exact ⟨h.z.of (Below.heap_setCell _ _ _ _ (by have := h.vp; show p ≠ vb; omega)), gset_new h.g h.vnew _ _, h.ne, h.new, by simpa using h.lt, h.da, (hc _ (by omega)).trans h.v0, (hc _ (by omega)).trans h.v1, (hc _ (by omega)).trans h.v2, World.cell?_setCell_same _ _ _ h.v3, fun i => (frozen?_set _ _ _ _).trans (h.vf i), h.vrb, h.vp, h.vnew, by simpa using h.vlt⟩
theorem LV.fin {w W : World} {rb p vb : Nat} {a : Option Addr} {cap : Nat} {all : List UInt8} {SL : Value} (h : LV w W rb p vb a cap all SL) {k : Nat} {bad : Bool} (hr : RR W rb a cap all k bad) (v0 v1 v2 v3 : Value) : RR (set4 W p v0 v1 v2 v3) rb a cap all k bad ∧ w.grownBy (set4 W p v0 v1 v2 v3) (some rb) :=
  RV.fin ⟨hr, h.z, h.g, h.ne, h.new, h.lt, h.da⟩ v0 v1 v2 v3
theorem Many.stored {W : World} {vb : Nat} {SL : Value} {l : List V} (h : Many W (vb + 1) SL l) (i : Nat) (v : Value) : Many (W.setCell ⟨vb, i, none⟩ v) (vb + 1) SL l := by
  obtain ⟨xs, h1, h2⟩ := h
  refine ⟨xs, h1.kept (gset W vb i v) (.inr fun e => by have := (h1.lt vb e).1; omega), Elems.keep (fun b hb => Below.heap_setCell _ _ _ _ (by show b ≠ vb; omega)) (fun b hb => ⟨hb.1, by simpa using hb.2.1, hb.2.2⟩) l xs h2⟩
theorem Many.drew {W : World} {B : Nat} {SL : Value} {l : List V} (h : Many W B SL l) : Many W.drew B SL l := by
  obtain ⟨xs, h1, h2⟩ := h
  exact ⟨xs, h1, Elems.keep (w := W) (w' := W.drew) (p := fun b => B ≤ b ∧ b < W.heap.size ∧ SL.ownBlock ≠ some b) (fun b _ => rfl) (fun b hb => hb) l xs h2⟩

/-- What holds at the head of a round of the list's reader. -/
def LRV (w : World) (rb p vb : Nat) (a : Option Addr) (cap : Nat) (all : List UInt8) (q u : Nat) (r : List UInt8) (i : Value) (wr : World) : Prop :=
  ∃ (j k' : Nat) (SL : Value), i = .int .u64 j ∧ j ≤ u ∧ LV w wr rb p vb a cap all SL ∧
    ((RR wr rb a cap all k' false ∧ ∃ l, l.length = j ∧ Many wr (vb + 1) SL l ∧ rdMany (rdV q) u r = (match rdMany (rdV q) (u - j) (all.drop k') with | none => none | some (l2, r2) => some (l ++ l2, r2))) ∨
     (RR wr rb a cap all k' true ∧ (∃ a3 n3 c3, SL = .slice a3 n3 c3) ∧ rdMany (rdV q) u r = none))

theorem rdMany_short (q u : Nat) (r : List UInt8) (h : r.length < u) : rdMany (rdV q) u r = none := by
  cases hm : rdMany (rdV q) u r with
  | none => rfl
  | some y =>
    obtain ⟨l, r2⟩ := y
    have h1 := rdMany_len _ (rdV_len q) u r l r2 hm
    have h2 : ∀ (n : Nat) (bs : List UInt8) (l : List V) (r : List UInt8), rdMany (rdV q) n bs = some (l, r) → l.length = n := by
      intro n
      induction n with
      | zero => intro bs l r h; rw [rdMany] at h; injection h with h; injection h with h1 h2; subst h1; rfl
      | succ n ih =>
        intro bs l r h
        rw [rdMany_step] at h
        split at h
        · cases h
        · split at h
          · cases h
          · rename_i l2 r2 hm
            injection h with h; injection h with h3 h4; subst h3
            rw [List.length_cons, ih _ _ _ hm]
    have := h2 u r l r2 hm
    omega
theorem rdLst_short (q u : Nat) (bs r : List UInt8) (ho : rdNum 0 0 bs = some (u, r)) (h : r.length < u) : rdLst (manyOf q) bs = none := by
  unfold rdLst; rw [ho]
  cases q with
  | zero => rfl
  | succ q => simp only [manyOf, rdMany_short q u r h]

def q35l0 : Oper := { dst := some 128, op := Go.Op.fieldAddr 24 (Go.Operand.tmp 8) 3, type := 0, pos := "ref.go:152", after := #[], guard := none }
def q35l1 : Oper := { dst := some 129, op := Go.Op.load 22 (Go.Operand.tmp 128), type := 22, pos := "ref.go:152", after := #[{ on := 0, ground := Go.Ground.data }], guard := none }
def q35l2 : Oper := { dst := some 130, op := Go.Op.move (Go.Operand.tmp 0), type := 51, pos := "ref.go:152", after := #[], guard := none }
def q35l3 : Oper := { dst := some 131, op := Go.Op.move (Go.Operand.tmp 1), type := 3, pos := "ref.go:152", after := #[], guard := none }
def q35l4 : Oper := { dst := some 132, op := Go.Op.binOp Go.BinOp.add 3 (Go.Operand.tmp 131) (Go.Operand.const (Go.Value.int Go.IntKind.i64 1)) 3, type := 3, pos := "ref.go:152", after := #[{ on := 3, ground := Go.Ground.data }], guard := none }
def q35l5 : Oper := { dst := some 133, op := Go.Op.call { callee := Go.Callee.value (Go.Operand.func 35), args := #[Go.Operand.tmp 130, Go.Operand.tmp 132], argTypes := #[51, 3] }, type := 24, pos := "ref.go:152", after := #[{ on := 2, ground := Go.Ground.data }, { on := 4, ground := Go.Ground.data }], guard := none }
def q35l6 : Oper := { dst := some 134, op := Go.Op.buildSlice 22 1 #[(0, Go.Operand.tmp 133)], type := 22, pos := "ref.go:152", after := #[{ on := 5, ground := Go.Ground.data }], guard := none }
def q35l7 : Oper := { dst := some 135, op := Go.Op.call { callee := Go.Callee.builtin Go.Builtin.append, args := #[Go.Operand.tmp 129, Go.Operand.tmp 134], argTypes := #[22, 22] }, type := 22, pos := "ref.go:152", after := #[{ on := 1, ground := Go.Ground.data }, { on := 6, ground := Go.Ground.data }, { on := 5, ground := Go.Ground.chain }], guard := none }
def q35l8 : Oper := { dst := some 136, op := Go.Op.fieldAddr 24 (Go.Operand.tmp 8) 3, type := 0, pos := "ref.go:152", after := #[{ on := 0, ground := Go.Ground.phase }, { on := 1, ground := Go.Ground.phase }, { on := 2, ground := Go.Ground.phase }, { on := 3, ground := Go.Ground.phase }, { on := 4, ground := Go.Ground.phase }, { on := 5, ground := Go.Ground.phase }, { on := 6, ground := Go.Ground.phase }, { on := 7, ground := Go.Ground.phase }], guard := none }
def q35l9 : Oper := { dst := none, op := Go.Op.store 22 (Go.Operand.tmp 136) (Go.Operand.tmp 135), type := 0, pos := "ref.go:152", after := #[{ on := 8, ground := Go.Ground.data }, { on := 7, ground := Go.Ground.data }, { on := 7, ground := Go.Ground.chain }, { on := 0, ground := Go.Ground.phase }, { on := 1, ground := Go.Ground.phase }, { on := 2, ground := Go.Ground.phase }, { on := 3, ground := Go.Ground.phase }, { on := 4, ground := Go.Ground.phase }, { on := 5, ground := Go.Ground.phase }, { on := 6, ground := Go.Ground.phase }, { on := 7, ground := Go.Ground.phase }], guard := none }

set_option maxRecDepth 100000 in
set_option maxHeartbeats 8000000 in
theorem rval_3 (q : Nat) (w : World) (rb : Nat) (a : Option Addr) (cap : Nat) (all : List UInt8) (k : Nat) (dep : Int) (hdep : dep + q = 16) (hd0 : 0 ≤ dep) (h : RR w rb a cap all k false) (hda : ∀ db off, a = some ⟨db, off, none⟩ → db < w.heap.size)
    (ih : ∀ q', q = q' + 1 → ∀ W k, RR W rb a cap all k false → (∀ db off, a = some ⟨db, off, none⟩ → db < W.heap.size) → Calls Try.prog 35 #[.pointer (some ⟨rb, 0, none⟩), .int .i64 (dep + 1)] W (ValR W rb a cap all (rdV q' (all.drop k))))
    (hn : ∀ W, RR W rb a cap all k false → Calls Try.prog 47 #[.pointer (some ⟨rb, 0, none⟩)] W fun e w' => e = .returned (.int .u8 3) ∧ RR w' rb a cap all (k + 1) false ∧ W.grownBy w' (some rb)) :
    Calls Try.prog 35 #[.pointer (some ⟨rb, 0, none⟩), .int .i64 dep] w (ValR w rb a cap all (rdLst (manyOf q) (all.drop (k + 1)))) := by
  have hrl := h.lt
  obtain ⟨w0, hw0⟩ : ∃ w0, w0 = w.alloc (Obj.cells #[.int .i64 0, .int .i64 0, .string ⟨#[]⟩, .slice none 0 0] 24) := ⟨_, rfl⟩
  have hg0 : w.grownBy w0 none := by rw [hw0]; exact World.grownBy_alloc _ _ _
  have hr0 := h.moved hg0 (by simp) (fun db off e => by simp)
  obtain ⟨p, hp⟩ : ∃ p, w.heap.size = p := ⟨_, rfl⟩
  have hrv0 : RV w w0 rb p a cap all k false := ⟨hr0, by rw [hw0, ← hp]; exact Zro.new w, by rw [hw0]; exact World.grownBy_alloc _ _ _, by omega, by omega, by rw [hw0, ← hp]; simp, hda⟩
  have HN := Lib.hid (hn w0 hr0)
  have HW := Lib.hid hw0
  have HV0 := Lib.hid hrv0
  have HIHA := Lib.hid ih
  have HDEP := Lib.hid hdep
  have HDA := Lib.hid hda
  obtain ⟨res, hres⟩ : ∃ res, rdLst (manyOf q) (all.drop (k + 1)) = res := ⟨_, rfl⟩
  rw [hres]
  have HR0 := Lib.hid hres
  clear h hn hg0 hr0 hw0 hda hrv0 ih hdep hres
  go_enter Try.func35, Try.ntmps35
  go_wp2_with fail
  rw [← HW.out]
  refine HN.out.mono ?_
  rintro e w1 ⟨rfl, hr1, hg1⟩
  have hv1 := HV0.out.step hr1 hg1
  have hnum := number_any w1 rb a cap all (k + 1) hr1
  obtain ⟨O, hO⟩ : ∃ O, rdNum 0 0 (all.drop (k + 1)) = O := ⟨_, rfl⟩
  rw [hO] at hnum
  have HNUM := Lib.hid hnum
  have HO := Lib.hid hO
  have HV1 := Lib.hid hv1
  clear hr1 hg1 hv1 hnum hO HV0 HW
  go_wp2_with fail
  refine HNUM.out.mono ?_
  rintro e w2 ⟨hg2, hcase⟩
  clear HNUM
  rcases hcase with ⟨u, k2, ho, rfl, hu, hr2⟩ | ⟨ho, rfl, k2, hr2⟩
  · have HV2 := Lib.hid (HV1.out.step hr2 hg2)
    have hkl := hr2.le
    have hsh := hr2.short
    obtain ⟨m, hm⟩ : ∃ m, (all.drop k2).length = m := ⟨_, rfl⟩
    have hL := drop_rest all k2 hkl
    rw [hm] at hL
    have c0 := hr2.c0
    have c1 := hr2.c1
    have c2 := hr2.c2
    have hne := HV2.out.ne
    have e1 : IntKind.i64.wrap ((all.length : Int) - (k2 : Int)) = (m : Int) := by rw [IntKind.wrap_i64]; omega
    have e2 : IntKind.u64.wrap (m : Int) = (m : Int) := by rw [IntKind.wrap_u64]; omega
    have HNUM2 : Hid (rdNum 0 0 (all.drop (k + 1)) = some (u, all.drop k2)) := Lib.hid (HO.out.trans ho)
    have HM := Lib.hid hm
    clear hg2 HV1 ho
    by_cases hum : u ≤ m
    · have d1 : decide ((m : Int) < (u : Int)) = false := by simp; omega
      have d2 : decide (m < u) = false := by simp; omega
      by_cases hq : q = 0
      · have hdd : dep = 16 := by have := HDEP.out; omega
        have HN0 : Hid (res = none) := Lib.hid (by rw [← HR0.out, hq]; unfold rdLst manyOf; rw [HNUM2.out])
        subst hdd
        have HUM := Lib.hid hum
        clear hum hL hd0 hq
        go_wp2_with fail
        go_quiet (fail)
        obtain ⟨w3, hw3⟩ : ∃ w3, w3 = w2.drewN nq := ⟨_, rfl⟩
        have hv3 := HV2.out.drewN nq
        rw [← hw3] at hv3 ⊢
        have g2 := hv3.rr.f2
        have b2 := hv3.rr.c2
        have HV4 := Lib.hid hv3.fail
        obtain ⟨q0, q1, q2, q3, f⟩ := hv3.z
        have f0 := f 0
        have f1 := f 1
        have f2 := f 2
        have f3 := f 3
        clear hr2 f hv3 HV2 c0 c1 c2 hw3
        go_wp2
        obtain ⟨o1, o2⟩ := HV4.out.fin (.int .i64 0) (.int .i64 0) (.string ⟨#[]⟩) (.slice none 0 0)
        refine bodyPost_ret (v := .agg #[.int .i64 0, .int .i64 0, .string ⟨#[]⟩, .slice none 0 0]) (by simp [results, Try.results35, go_sem, q0, q1, q2, q3]) rfl ⟨o2, .inr ⟨HN0.out, _, _, _, _, _, _, k2, rfl, o1⟩⟩
      · obtain ⟨q', hq'⟩ : ∃ q', q = q' + 1 := ⟨q - 1, by omega⟩
        have HIHC := Lib.hid (HIHA.out q' hq')
        have HR1 : Hid ((match rdMany (rdV q') u (all.drop k2) with | none => none | some (l, r2) => some ((⟨3, 0, ByteArray.empty, l⟩ : V), r2)) = res) := Lib.hid (by rw [← HR0.out, hq']; unfold rdLst manyOf; rw [HNUM2.out]; rfl)
        have hdl : dep ≤ 15 := by have := HDEP.out; omega
        have d16 : ((dep : Int) == 16) = false := by simp; omega
        have hum1 : u ≤ 1000000 := by omega
        clear hL HIHA HR0 HNUM2 HO hq hum
        go_wp2_with fail
        go_quiet (fail)
        obtain ⟨w3, hw3⟩ : ∃ w3, w3 = w2.drewN nq := ⟨_, rfl⟩
        have hv3 := HV2.out.drewN nq
        rw [← hw3] at hv3 ⊢
        have HV3 := Lib.hid hv3
        clear hr2 HV2 c0 c1 c2 hw3 hv3 e1 e2 d1 d2 d16
        go_wp2_with fail
        obtain ⟨w4, hw4⟩ : ∃ w4, w4 = w3.alloc (Obj.cells #[.int .i64 3, .int .i64 0, .string ⟨#[]⟩, .slice none 0 0] 24) := ⟨_, rfl⟩
        rw [← hw4]
        obtain ⟨vb, hvb⟩ : ∃ vb, w3.heap.size = vb := ⟨_, rfl⟩
        rw [hvb]
        have hsz4 : w4.heap.size = vb + 1 := by rw [hw4, World.size_alloc, hvb]
        have hlv4 : LV w w4 rb p vb a cap all (.slice none 0 0) := by
          have h3 := HV3.out
          have hb3 : w4.heap[p]? = w3.heap[p]? := by rw [hw4]; exact Below.heap_alloc _ _ _ h3.lt
          have hrl3 := h3.rr.lt
          have hlt3 := h3.lt
          have hnw3 := h3.g.size
          exact ⟨h3.z.of hb3, by rw [hw4]; exact gtrans h3.g (World.grownBy_alloc _ _ _), h3.ne, h3.new, by rw [hsz4]; omega, h3.da, by rw [hw4, ← hvb]; go_cell, by rw [hw4, ← hvb]; go_cell, by rw [hw4, ← hvb]; go_cell, by rw [hw4, ← hvb]; go_cell, fun i => by rw [hw4, ← hvb, World.frozen?_alloc_new], by omega, by omega, by omega, by omega⟩
        have hr4 : RR w4 rb a cap all k2 false := by rw [hw4]; exact HV3.out.rr.moved (r := none) (World.grownBy_alloc _ _ _) (by simp) (fun db off e => by simp)
        have HLV4 := Lib.hid hlv4
        have HR4 := Lib.hid hr4
        clear hw4 hvb hsz4 hlv4 hr4 HV3
        go_loopw [9] (fun i wr => LRV w rb p vb a cap all q' u (all.drop k2) i wr) (fun i _ => u - (intOf i).toNat)
        case atStart => exact ⟨0, k2, _, rfl, Nat.zero_le _, HLV4.out, .inl ⟨HR4.out, [], rfl, Many.nil _ _, by
          rw [Nat.sub_zero]
          cases rdMany (rdV q') u (all.drop k2) with
          | none => rfl
          | some y => rfl⟩⟩
        case round =>
          obtain ⟨j, k', SL, rfl, hju, hlv, hcs⟩ := hrel
          clear HLV4 HR4
          obtain ⟨i0, hi, hz0, hz2, hz3⟩ := info_parts Try.info24
          have v3 := hlv.v3
          rcases hcs with ⟨hr, l, hlj, hmany, hrm⟩ | ⟨hr, hone, hrm⟩
          · have c2 := hr.c2
            by_cases hlt : j < u
            · have hdlt : decide (j < u) = true := by simpa using hlt
              have huj : u - j = (u - j - 1) + 1 := by omega
              rw [huj, rdMany_step] at hrm
              have HIH := HIHC.out wr.drew k' hr.drew (fun db off e => Nat.lt_of_lt_of_le (HDA.out db off e) hlv.g.size)
              have HLV := Lib.hid hlv
              have HIH := Lib.hid HIH
              have HRM := Lib.hid hrm
              have hkl := hr.le
              obtain ⟨xs, hown, hel⟩ := hmany.drew
              have HOWN := Lib.hid hown
              have HEL := Lib.hid hel
              have HLJ := Lib.hid hlj
              have hvb0 : rb ≠ vb := fun e => hlv.vrb e.symm
              have wd : IntKind.i64.wrap (dep + 1) = dep + 1 := by rw [IntKind.wrap_i64]; omega
              clear hlv hr hrm huj hown hel hlj HIHC
              go_wp2_with fail
              refine wp_region_held_drew (S := fun _ => True) (by kernel_rfl) trivial (fun hHeld => ?_)
              refine wpAnyH_take (i := 0) (oi := q35l0) (v := ?_) rfl (by kernel_rfl) (by kernel_rfl) (by kernel_rfl) (fun _ _ _ h => h) (Or.inl ⟨by rfl, ?_⟩) hHeld ?_
              rotate_left
              · (intro w hSw; (try dsimp only at hSw); unfold q35l0; go_simp <;> with_reducible rfl)
              try simp only [q35l0, Act.put, List.setIfInBounds_toArray, List.set_cons_zero, List.set_cons_succ]
              refine wpAnyH_take (i := 2) (oi := q35l2) (v := ?_) rfl (by kernel_rfl) (by kernel_rfl) (by kernel_rfl) (fun _ _ _ h => h) (Or.inl ⟨by rfl, ?_⟩) hHeld ?_
              rotate_left
              · (intro w hSw; (try dsimp only at hSw); unfold q35l2; go_simp <;> with_reducible rfl)
              try simp only [q35l2, Act.put, List.setIfInBounds_toArray, List.set_cons_zero, List.set_cons_succ]
              refine wpAnyH_take (i := 3) (oi := q35l3) (v := ?_) rfl (by kernel_rfl) (by kernel_rfl) (by kernel_rfl) (fun _ _ _ h => h) (Or.inl ⟨by rfl, ?_⟩) hHeld ?_
              rotate_left
              · (intro w hSw; (try dsimp only at hSw); unfold q35l3; go_simp <;> with_reducible rfl)
              try simp only [q35l3, Act.put, List.setIfInBounds_toArray, List.set_cons_zero, List.set_cons_succ]
              refine wpAnyH_take (i := 4) (oi := q35l4) (v := ?_) rfl (by kernel_rfl) (by kernel_rfl) (by kernel_rfl) (fun _ _ _ h => h) (Or.inl ⟨by rfl, ?_⟩) hHeld ?_
              rotate_left
              · (intro w hSw; (try dsimp only at hSw); unfold q35l4; go_simp <;> with_reducible rfl)
              try simp only [q35l4, Act.put, List.setIfInBounds_toArray, List.set_cons_zero, List.set_cons_succ]
              refine wpAnyH_ready (rs := [1, 5]) (by kernel_rfl) (by simp) ?_
              refine AllReadyH.cons (o := q35l1) rfl (fun K hK => ?_) (AllReadyH.cons (o := q35l5) rfl (fun K hK => ?_) AllReadyH.nil)
              · skip
                rw [if_pos (by rfl)]
                unfold q35l1
                go_simp
                refine hK.out _ _ trivial (fun hHeld => ?_)
                clear hK K
                try simp only [q35l1, Act.put, List.setIfInBounds_toArray, List.set_cons_zero, List.set_cons_succ]
                refine wpAnyH_ready (rs := [5]) (by kernel_rfl) (by simp) ?_
                refine AllReadyH.cons (o := q35l5) rfl (fun K hK => ?_) AllReadyH.nil
                rw [if_pos (by rfl)]
                unfold q35l5
                go_simp
                go_at_call 35
                refine HIH.out.mono ?_
                rintro e w5 hp5
                obtain ⟨c0, c1, c2, c3, rfl, hone, hg5, hcase5⟩ := hp5.flat
                have hlv5 := (HLV.out.drewN 1).grow hg5
                have hS5 := hlv5.v3
                have hO5 : w5.ownsRow (vb + 1) 24 4 SL l.length xs := HOWN.out.kept (w := wr.drew) hg5 (.inr fun e => by have := (HOWN.out.lt rb e).1; have := HLV.out.vp; have := HLV.out.ne; have := HLV.out.new; omega)
                rw [HLJ.out] at hO5
                have HG5 := Lib.hid hg5
                have HC5 := Lib.hid hcase5
                have HL5 := Lib.hid hlv5
                have HONE := Lib.hid hone
                have HOWN5 := Lib.hid hO5
                clear hp5 hg5 hcase5 hlv5 hone hO5
                go_wp2_with fail
                refine hK.out _ _ trivial (fun hHeld => ?_)
                clear hK K
                try simp only [q35l5, Act.put, List.setIfInBounds_toArray, List.set_cons_zero, List.set_cons_succ]
                refine wpAnyH_ready (rs := [6]) (by kernel_rfl) (by simp) ?_
                refine AllReadyH.cons (o := q35l6) rfl (fun K hK => ?_) AllReadyH.nil
                rw [if_pos (by rfl)]
                unfold q35l6
                go_simp
                have hS6 : (w5.alloc (Obj.cells #[c0, c1, c2, c3] 24)).cell? ⟨vb, 3, none⟩ = some SL := (World.cell?_alloc_lt w5 _ ⟨vb, 3, none⟩ HL5.out.vlt).trans hS5
                refine hK.out _ _ trivial (fun hHeld => ?_)
                clear hK K
                try simp only [q35l6, Act.put, List.setIfInBounds_toArray, List.set_cons_zero, List.set_cons_succ]
                refine wpAnyH_ready (rs := [7]) (by kernel_rfl) (by simp) ?_
                refine AllReadyH.cons (o := q35l7) rfl (fun K hK => ?_) AllReadyH.nil
                have hw5s : vb + 1 ≤ w5.heap.size := HL5.out.vlt
                refine step_append_lies _ rfl (.tmp 129) (.tmp 134) 22 rfl (vb + 1) 24 i0 _ 4 56 Try.underlying22 hi hz0 hz2 hz3 rfl (by omega) SL j xs (by rfl) (HOWN5.out.alloc _) ⟨w5.heap.size, 0, none⟩ 1 1 [c0, c1, c2, c3] (by rfl) rfl (World.news_of_block (cs := #[c0, c1, c2, c3]) (t := 24) (fr := (0, 0)) (heap_alloc_new w5 _)) HONE.out (by omega) (by unfold maxLen; omega) (by omega) (by rw [World.size_alloc]; omega) (w5.heap.size + 1) (by simp) ?_
                intro gg cap2 w6 hown6 hgr6 hat6 hlt6
                have hl6 := HL5.out.appended _ hgr6 (fun b e => (HOWN5.out.lt b e).1)
                have hc6 := hl6.v3
                have hf6 := hl6.vf 3
                have HL6 := Lib.hid hl6
                have HOWN6 := Lib.hid hown6
                have HGR6 := Lib.hid hgr6
                have HAT6 := Lib.hid hat6
                clear hown6 hgr6 hat6 hlt6 hl6
                refine hK.out _ _ trivial (fun hHeld => ?_)
                clear hK K
                try simp only [q35l7, Act.put, List.setIfInBounds_toArray, List.set_cons_zero, List.set_cons_succ]
                refine wpAnyH_take (i := 8) (oi := q35l8) (v := ?_) rfl (by kernel_rfl) (by kernel_rfl) (by kernel_rfl) (fun _ _ _ h => h) (Or.inl ⟨by rfl, ?_⟩) hHeld ?_
                rotate_left
                · (intro w hSw; (try dsimp only at hSw); unfold q35l8; go_simp <;> with_reducible rfl)
                try simp only [q35l8, Act.put, List.setIfInBounds_toArray, List.set_cons_zero, List.set_cons_succ]
                refine wpAnyH_ready (rs := [9]) (by kernel_rfl) (by simp) ?_
                refine AllReadyH.cons (o := q35l9) rfl (fun K hK => ?_) AllReadyH.nil
                rw [if_pos (by rfl)]
                unfold q35l9
                go_simp
                refine hK.out _ _ trivial (fun hHeld => ?_)
                clear hK K
                try simp only [q35l9, Act.put]
                refine wpAnyH_done (by kernel_rfl) ?_ _
                clear hHeld hS5 hS6 hc6 hf6
                go_wp2
                go_roundw
                case rel =>
                  have hl6 := HL6.out
                  have hvp := hl6.vp
                  have hvn := hl6.new
                  have hs5 := HL5.out.vlt
                  have hRR : ∀ k5 b, RR w5 rb a cap all k5 b → RR (w6.setCell ⟨vb, 3, none⟩ (.slice (some ⟨gg, 0, none⟩) (j + 1) cap2)) rb a cap all k5 b := fun k5 b hr5 => by
                    have h1 := hr5.moved (r := none) (World.grownBy_alloc w5 (Obj.cells #[c0, c1, c2, c3] 24) _) (by simp) (fun db off e => by simp)
                    have h2 := h1.moved HGR6.out (fun e => by have := (HOWN5.out.lt rb e.symm).1; omega) (fun db off e h => by have := (HOWN5.out.lt db h.symm).1; have := HDA.out db off e; omega)
                    exact h2.moved (gset w6 vb 3 _) (by simpa using hvb0) (fun db off e => by have := HDA.out db off e; simp; omega)
                  rcases HC5.out with ⟨x, k5, ho, hx, hr5⟩ | ⟨ho, k5, hr5⟩
                  · refine ⟨j + 1, k5, _, by go_num, by omega, hl6.stored _, .inl ⟨hRR k5 false hr5, l ++ [x], by rw [List.length_append, HLJ.out]; rfl, ?_, ?_⟩⟩
                    · have hmn := Many.next (w := wr.drew) (w' := w5) (w1 := w6) (rb := rb) (x := x) _ HOWN.out HEL.out (by omega) (by have := HLV.out.vlt; exact this) HG5.out hx (by rw [HLJ.out]; exact HOWN6.out) HGR6.out HAT6.out
                      rw [HLJ.out] at hmn
                      exact hmn.stored _ _
                    · rw [HRM.out, ho, show u - (j + 1) = u - j - 1 by omega]
                      dsimp only
                      cases rdMany (rdV q') (u - j - 1) (all.drop k5) with
                      | none => rfl
                      | some y => obtain ⟨l9, r9⟩ := y; simp
                  · refine ⟨j + 1, k5, _, by go_num, by omega, hl6.stored _, .inr ⟨hRR k5 true hr5, ⟨_, _, _, rfl⟩, ?_⟩⟩
                    rw [HRM.out, ho]
                case measure => simp [intOf]; omega
              · skip
                rw [if_pos (by rfl)]
                unfold q35l5
                go_simp
                go_at_call 35
                refine HIH.out.mono ?_
                rintro e w5 hp5
                obtain ⟨c0, c1, c2, c3, rfl, hone, hg5, hcase5⟩ := hp5.flat
                have hlv5 := (HLV.out.drewN 1).grow hg5
                have hS5 := hlv5.v3
                have hO5 : w5.ownsRow (vb + 1) 24 4 SL l.length xs := HOWN.out.kept (w := wr.drew) hg5 (.inr fun e => by have := (HOWN.out.lt rb e).1; have := HLV.out.vp; have := HLV.out.ne; have := HLV.out.new; omega)
                rw [HLJ.out] at hO5
                have HG5 := Lib.hid hg5
                have HC5 := Lib.hid hcase5
                have HL5 := Lib.hid hlv5
                have HONE := Lib.hid hone
                have HOWN5 := Lib.hid hO5
                clear hp5 hg5 hcase5 hlv5 hone hO5
                go_wp2_with fail
                refine hK.out _ _ trivial (fun hHeld => ?_)
                clear hK K
                try simp only [q35l5, Act.put, List.setIfInBounds_toArray, List.set_cons_zero, List.set_cons_succ]
                refine wpAnyH_ready (rs := [1, 6]) (by kernel_rfl) (by simp) ?_
                refine AllReadyH.cons (o := q35l1) rfl (fun K hK => ?_) (AllReadyH.cons (o := q35l6) rfl (fun K hK => ?_) AllReadyH.nil)
                · skip
                  rw [if_pos (by rfl)]
                  unfold q35l1
                  go_simp
                  refine hK.out _ _ trivial (fun hHeld => ?_)
                  clear hK K
                  try simp only [q35l1, Act.put, List.setIfInBounds_toArray, List.set_cons_zero, List.set_cons_succ]
                  refine wpAnyH_ready (rs := [6]) (by kernel_rfl) (by simp) ?_
                  refine AllReadyH.cons (o := q35l6) rfl (fun K hK => ?_) AllReadyH.nil
                  rw [if_pos (by rfl)]
                  unfold q35l6
                  go_simp
                  have hS6 : (w5.alloc (Obj.cells #[c0, c1, c2, c3] 24)).cell? ⟨vb, 3, none⟩ = some SL := (World.cell?_alloc_lt w5 _ ⟨vb, 3, none⟩ HL5.out.vlt).trans hS5
                  refine hK.out _ _ trivial (fun hHeld => ?_)
                  clear hK K
                  try simp only [q35l6, Act.put, List.setIfInBounds_toArray, List.set_cons_zero, List.set_cons_succ]
                  refine wpAnyH_ready (rs := [7]) (by kernel_rfl) (by simp) ?_
                  refine AllReadyH.cons (o := q35l7) rfl (fun K hK => ?_) AllReadyH.nil
                  have hw5s : vb + 1 ≤ w5.heap.size := HL5.out.vlt
                  refine step_append_lies _ rfl (.tmp 129) (.tmp 134) 22 rfl (vb + 1) 24 i0 _ 4 56 Try.underlying22 hi hz0 hz2 hz3 rfl (by omega) SL j xs (by rfl) (HOWN5.out.alloc _) ⟨w5.heap.size, 0, none⟩ 1 1 [c0, c1, c2, c3] (by rfl) rfl (World.news_of_block (cs := #[c0, c1, c2, c3]) (t := 24) (fr := (0, 0)) (heap_alloc_new w5 _)) HONE.out (by omega) (by unfold maxLen; omega) (by omega) (by rw [World.size_alloc]; omega) (w5.heap.size + 1) (by simp) ?_
                  intro gg cap2 w6 hown6 hgr6 hat6 hlt6
                  have hl6 := HL5.out.appended _ hgr6 (fun b e => (HOWN5.out.lt b e).1)
                  have hc6 := hl6.v3
                  have hf6 := hl6.vf 3
                  have HL6 := Lib.hid hl6
                  have HOWN6 := Lib.hid hown6
                  have HGR6 := Lib.hid hgr6
                  have HAT6 := Lib.hid hat6
                  clear hown6 hgr6 hat6 hlt6 hl6
                  refine hK.out _ _ trivial (fun hHeld => ?_)
                  clear hK K
                  try simp only [q35l7, Act.put, List.setIfInBounds_toArray, List.set_cons_zero, List.set_cons_succ]
                  refine wpAnyH_take (i := 8) (oi := q35l8) (v := ?_) rfl (by kernel_rfl) (by kernel_rfl) (by kernel_rfl) (fun _ _ _ h => h) (Or.inl ⟨by rfl, ?_⟩) hHeld ?_
                  rotate_left
                  · (intro w hSw; (try dsimp only at hSw); unfold q35l8; go_simp <;> with_reducible rfl)
                  try simp only [q35l8, Act.put, List.setIfInBounds_toArray, List.set_cons_zero, List.set_cons_succ]
                  refine wpAnyH_ready (rs := [9]) (by kernel_rfl) (by simp) ?_
                  refine AllReadyH.cons (o := q35l9) rfl (fun K hK => ?_) AllReadyH.nil
                  rw [if_pos (by rfl)]
                  unfold q35l9
                  go_simp
                  refine hK.out _ _ trivial (fun hHeld => ?_)
                  clear hK K
                  try simp only [q35l9, Act.put]
                  refine wpAnyH_done (by kernel_rfl) ?_ _
                  clear hHeld hS5 hS6 hc6 hf6
                  go_wp2
                  go_roundw
                  case rel =>
                    have hl6 := HL6.out
                    have hvp := hl6.vp
                    have hvn := hl6.new
                    have hs5 := HL5.out.vlt
                    have hRR : ∀ k5 b, RR w5 rb a cap all k5 b → RR (w6.setCell ⟨vb, 3, none⟩ (.slice (some ⟨gg, 0, none⟩) (j + 1) cap2)) rb a cap all k5 b := fun k5 b hr5 => by
                      have h1 := hr5.moved (r := none) (World.grownBy_alloc w5 (Obj.cells #[c0, c1, c2, c3] 24) _) (by simp) (fun db off e => by simp)
                      have h2 := h1.moved HGR6.out (fun e => by have := (HOWN5.out.lt rb e.symm).1; omega) (fun db off e h => by have := (HOWN5.out.lt db h.symm).1; have := HDA.out db off e; omega)
                      exact h2.moved (gset w6 vb 3 _) (by simpa using hvb0) (fun db off e => by have := HDA.out db off e; simp; omega)
                    rcases HC5.out with ⟨x, k5, ho, hx, hr5⟩ | ⟨ho, k5, hr5⟩
                    · refine ⟨j + 1, k5, _, by go_num, by omega, hl6.stored _, .inl ⟨hRR k5 false hr5, l ++ [x], by rw [List.length_append, HLJ.out]; rfl, ?_, ?_⟩⟩
                      · have hmn := Many.next (w := wr.drew) (w' := w5) (w1 := w6) (rb := rb) (x := x) _ HOWN.out HEL.out (by omega) (by have := HLV.out.vlt; exact this) HG5.out hx (by rw [HLJ.out]; exact HOWN6.out) HGR6.out HAT6.out
                        rw [HLJ.out] at hmn
                        exact hmn.stored _ _
                      · rw [HRM.out, ho, show u - (j + 1) = u - j - 1 by omega]
                        dsimp only
                        cases rdMany (rdV q') (u - j - 1) (all.drop k5) with
                        | none => rfl
                        | some y => obtain ⟨l9, r9⟩ := y; simp
                    · refine ⟨j + 1, k5, _, by go_num, by omega, hl6.stored _, .inr ⟨hRR k5 true hr5, ⟨_, _, _, rfl⟩, ?_⟩⟩
                      rw [HRM.out, ho]
                  case measure => simp [intOf]; omega
                · skip
                  rw [if_pos (by rfl)]
                  unfold q35l6
                  go_simp
                  have hS6 : (w5.alloc (Obj.cells #[c0, c1, c2, c3] 24)).cell? ⟨vb, 3, none⟩ = some SL := (World.cell?_alloc_lt w5 _ ⟨vb, 3, none⟩ HL5.out.vlt).trans hS5
                  refine hK.out _ _ trivial (fun hHeld => ?_)
                  clear hK K
                  try simp only [q35l6, Act.put, List.setIfInBounds_toArray, List.set_cons_zero, List.set_cons_succ]
                  refine wpAnyH_ready (rs := [1]) (by kernel_rfl) (by simp) ?_
                  refine AllReadyH.cons (o := q35l1) rfl (fun K hK => ?_) AllReadyH.nil
                  rw [if_pos (by rfl)]
                  unfold q35l1
                  go_simp
                  refine hK.out _ _ trivial (fun hHeld => ?_)
                  clear hK K
                  try simp only [q35l1, Act.put, List.setIfInBounds_toArray, List.set_cons_zero, List.set_cons_succ]
                  refine wpAnyH_ready (rs := [7]) (by kernel_rfl) (by simp) ?_
                  refine AllReadyH.cons (o := q35l7) rfl (fun K hK => ?_) AllReadyH.nil
                  have hw5s : vb + 1 ≤ w5.heap.size := HL5.out.vlt
                  refine step_append_lies _ rfl (.tmp 129) (.tmp 134) 22 rfl (vb + 1) 24 i0 _ 4 56 Try.underlying22 hi hz0 hz2 hz3 rfl (by omega) SL j xs (by rfl) (HOWN5.out.alloc _) ⟨w5.heap.size, 0, none⟩ 1 1 [c0, c1, c2, c3] (by rfl) rfl (World.news_of_block (cs := #[c0, c1, c2, c3]) (t := 24) (fr := (0, 0)) (heap_alloc_new w5 _)) HONE.out (by omega) (by unfold maxLen; omega) (by omega) (by rw [World.size_alloc]; omega) (w5.heap.size + 1) (by simp) ?_
                  intro gg cap2 w6 hown6 hgr6 hat6 hlt6
                  have hl6 := HL5.out.appended _ hgr6 (fun b e => (HOWN5.out.lt b e).1)
                  have hc6 := hl6.v3
                  have hf6 := hl6.vf 3
                  have HL6 := Lib.hid hl6
                  have HOWN6 := Lib.hid hown6
                  have HGR6 := Lib.hid hgr6
                  have HAT6 := Lib.hid hat6
                  clear hown6 hgr6 hat6 hlt6 hl6
                  refine hK.out _ _ trivial (fun hHeld => ?_)
                  clear hK K
                  try simp only [q35l7, Act.put, List.setIfInBounds_toArray, List.set_cons_zero, List.set_cons_succ]
                  refine wpAnyH_take (i := 8) (oi := q35l8) (v := ?_) rfl (by kernel_rfl) (by kernel_rfl) (by kernel_rfl) (fun _ _ _ h => h) (Or.inl ⟨by rfl, ?_⟩) hHeld ?_
                  rotate_left
                  · (intro w hSw; (try dsimp only at hSw); unfold q35l8; go_simp <;> with_reducible rfl)
                  try simp only [q35l8, Act.put, List.setIfInBounds_toArray, List.set_cons_zero, List.set_cons_succ]
                  refine wpAnyH_ready (rs := [9]) (by kernel_rfl) (by simp) ?_
                  refine AllReadyH.cons (o := q35l9) rfl (fun K hK => ?_) AllReadyH.nil
                  rw [if_pos (by rfl)]
                  unfold q35l9
                  go_simp
                  refine hK.out _ _ trivial (fun hHeld => ?_)
                  clear hK K
                  try simp only [q35l9, Act.put]
                  refine wpAnyH_done (by kernel_rfl) ?_ _
                  clear hHeld hS5 hS6 hc6 hf6
                  go_wp2
                  go_roundw
                  case rel =>
                    have hl6 := HL6.out
                    have hvp := hl6.vp
                    have hvn := hl6.new
                    have hs5 := HL5.out.vlt
                    have hRR : ∀ k5 b, RR w5 rb a cap all k5 b → RR (w6.setCell ⟨vb, 3, none⟩ (.slice (some ⟨gg, 0, none⟩) (j + 1) cap2)) rb a cap all k5 b := fun k5 b hr5 => by
                      have h1 := hr5.moved (r := none) (World.grownBy_alloc w5 (Obj.cells #[c0, c1, c2, c3] 24) _) (by simp) (fun db off e => by simp)
                      have h2 := h1.moved HGR6.out (fun e => by have := (HOWN5.out.lt rb e.symm).1; omega) (fun db off e h => by have := (HOWN5.out.lt db h.symm).1; have := HDA.out db off e; omega)
                      exact h2.moved (gset w6 vb 3 _) (by simpa using hvb0) (fun db off e => by have := HDA.out db off e; simp; omega)
                    rcases HC5.out with ⟨x, k5, ho, hx, hr5⟩ | ⟨ho, k5, hr5⟩
                    · refine ⟨j + 1, k5, _, by go_num, by omega, hl6.stored _, .inl ⟨hRR k5 false hr5, l ++ [x], by rw [List.length_append, HLJ.out]; rfl, ?_, ?_⟩⟩
                      · have hmn := Many.next (w := wr.drew) (w' := w5) (w1 := w6) (rb := rb) (x := x) _ HOWN.out HEL.out (by omega) (by have := HLV.out.vlt; exact this) HG5.out hx (by rw [HLJ.out]; exact HOWN6.out) HGR6.out HAT6.out
                        rw [HLJ.out] at hmn
                        exact hmn.stored _ _
                      · rw [HRM.out, ho, show u - (j + 1) = u - j - 1 by omega]
                        dsimp only
                        cases rdMany (rdV q') (u - j - 1) (all.drop k5) with
                        | none => rfl
                        | some y => obtain ⟨l9, r9⟩ := y; simp
                    · refine ⟨j + 1, k5, _, by go_num, by omega, hl6.stored _, .inr ⟨hRR k5 true hr5, ⟨_, _, _, rfl⟩, ?_⟩⟩
                      rw [HRM.out, ho]
                  case measure => simp [intOf]; omega

            · have hje : j = u := by omega
              subst hje
              have hdlt : decide (j < j) = false := by simp
              have hrm2 : rdMany (rdV q') j (all.drop k2) = some (l, all.drop k') := by rw [hrm, Nat.sub_self]; simp [rdMany]
              have HRS : Hid (res = some (⟨3, 0, ByteArray.empty, l⟩, all.drop k')) := Lib.hid (by rw [← HR1.out, hrm2])
              obtain ⟨a3, cap3, rfl, hl3, hc3, hsh⟩ := hmany.shape
              rw [hlj] at v3
              have v0 := hlv.v0
              have v1 := hlv.v1
              have v2 := hlv.v2
              obtain ⟨q0, q1, q2, q3, f⟩ := hlv.z
              have f0 := f 0
              have f1 := f 1
              have f2 := f 2
              have f3 := f 3
              have HSH := Lib.hid hsh
              have HL := Lib.hid hlv
              have HR := Lib.hid hr
              have HLJ := Lib.hid hlj
              have h33 := And.intro hl3 hc3
              have H33 := Lib.hid h33
              have hnp := hlv.new
              have hvp := hlv.vp
              have hvl := hlv.vlt
              clear hrm hrm2 hmany hlv hr f hsh hlj hl3 hc3 h33 HR1
              go_wp2
              obtain ⟨o1, o2⟩ := HL.out.fin HR.out (.int .i64 3) (.int .i64 0) (.string ⟨#[]⟩) (.slice a3 j cap3)
              refine bodyPost_ret (v := .agg #[.int .i64 3, .int .i64 0, .string ⟨#[]⟩, .slice a3 j cap3]) (by simp [results, Try.results35, go_sem, q0, q1, q2, q3]) rfl ⟨o2, .inl ⟨_, k', _, HRS.out, rfl, ?_, o1⟩⟩
              have hsz4 : (set4 wr p (.int .i64 3) (.int .i64 0) (.string { data := #[] }) (.slice a3 j cap3)).heap.size = wr.heap.size := set4_size
              have hb4 : ∀ b, vb + 1 ≤ b → (set4 wr p (.int .i64 3) (.int .i64 0) (.string { data := #[] }) (.slice a3 j cap3)).heap[b]? = wr.heap[b]? := fun b hb => set4_block b (by omega)
              unfold V.Own
              refine ⟨by unfold In64; omega, by unfold In64; omega, by unfold maxLen; decide, a3, cap3, by rw [HLJ.out]; rfl, H33.out.1, H33.out.2, ?_⟩
              rcases HSH.out with h0 | ⟨gq, h0, h1, h2, h3⟩
              · exact .inl h0
              · unfold set4 at hsz4
                refine .inr ⟨gq, 0, h0, ⟨by omega, ?_⟩, OwnL.keep (fun b hb => hb4 b hb.1) (fun b hb => ⟨by omega, ?_⟩) l gq 0 ⟨h1, h2⟩ h3⟩
                · rw [hsz4]; exact h2
                · rw [hsz4]; exact hb.2
          · obtain ⟨a3, n3, c3, rfl⟩ := hone
            have HRS : Hid (res = none) := Lib.hid (by rw [← HR1.out, hrm])
            have c2 := hr.c2
            have v0 := hlv.v0
            have v1 := hlv.v1
            have v2 := hlv.v2
            obtain ⟨q0, q1, q2, q3, f⟩ := hlv.z
            have f0 := f 0
            have f1 := f 1
            have f2 := f 2
            have f3 := f 3
            have HL := Lib.hid hlv
            have HR := Lib.hid hr
            have dd : decide (j < u) = true ∨ decide (j < u) = false := by cases decide (j < u) <;> simp
            clear hrm hlv hr f HR1
            rcases dd with dd | dd
            all_goals
              go_wp2
              obtain ⟨o1, o2⟩ := HL.out.fin HR.out (.int .i64 3) (.int .i64 0) (.string ⟨#[]⟩) (.slice a3 n3 c3)
              refine bodyPost_ret (v := .agg #[.int .i64 3, .int .i64 0, .string ⟨#[]⟩, .slice a3 n3 c3]) (by simp [results, Try.results35, go_sem, q0, q1, q2, q3]) rfl ⟨o2, .inr ⟨HRS.out, _, _, _, _, _, _, k', rfl, o1⟩⟩
    · have HN0 : Hid (res = none) := Lib.hid (by rw [← HR0.out]; exact rdLst_short q u _ _ HNUM2.out (by rw [hm]; omega))
      have d1 : decide ((m : Int) < (u : Int)) = true := by simp; omega
      have d2 : decide (m < u) = true := by simp; omega
      clear hL hd0
      go_wp2_with fail
      go_quiet (fail)
      obtain ⟨w3, hw3⟩ : ∃ w3, w3 = w2.drewN nq := ⟨_, rfl⟩
      have hv3 := HV2.out.drewN nq
      rw [← hw3] at hv3 ⊢
      have g2 := hv3.rr.f2
      have b2 := hv3.rr.c2
      have HV4 := Lib.hid hv3.fail
      obtain ⟨q0, q1, q2, q3, f⟩ := hv3.z
      have f0 := f 0
      have f1 := f 1
      have f2 := f 2
      have f3 := f 3
      clear hr2 f hv3 HV2 c0 c1 c2 hw3
      go_wp2
      obtain ⟨o1, o2⟩ := HV4.out.fin (.int .i64 0) (.int .i64 0) (.string ⟨#[]⟩) (.slice none 0 0)
      refine bodyPost_ret (v := .agg #[.int .i64 0, .int .i64 0, .string ⟨#[]⟩, .slice none 0 0]) (by simp [results, Try.results35, go_sem, q0, q1, q2, q3]) rfl ⟨o2, .inr ⟨HN0.out, _, _, _, _, _, _, k2, rfl, o1⟩⟩
  · have HN0 : Hid (res = none) := Lib.hid (by rw [← HR0.out]; unfold rdLst; rw [HO.out, ho])
    have HV2 := Lib.hid (HV1.out.step hr2 hg2)
    have c2 := hr2.c2
    have c0 := hr2.c0
    have c1 := hr2.c1
    have hne := HV2.out.ne
    clear ho hg2 HV1 hd0
    go_wp2_with fail
    go_quiet (fail)
    obtain ⟨w3, hw3⟩ : ∃ w3, w3 = w2.drewN nq := ⟨_, rfl⟩
    have hv3 := HV2.out.drewN nq
    rw [← hw3] at hv3 ⊢
    have g2 := hv3.rr.f2
    have b2 := hv3.rr.c2
    have HV4 := Lib.hid hv3.fail
    obtain ⟨q0, q1, q2, q3, f⟩ := hv3.z
    have f0 := f 0
    have f1 := f 1
    have f2 := f 2
    have f3 := f 3
    clear hr2 f hv3 HV2 c0 c1 c2 hw3
    go_wp2
    obtain ⟨o1, o2⟩ := HV4.out.fin (.int .i64 0) (.int .i64 0) (.string ⟨#[]⟩) (.slice none 0 0)
    refine bodyPost_ret (v := .agg #[.int .i64 0, .int .i64 0, .string ⟨#[]⟩, .slice none 0 0]) (by simp [results, Try.results35, go_sem, q0, q1, q2, q3]) rfl ⟨o2, .inr ⟨HN0.out, _, _, _, _, _, _, k2, rfl, o1⟩⟩
end Go.Proofs.Ytkecoohplpbgnaa
