/- The law DigestHalves, walked. -/
import Derived.Test.YtnddejhbncgchaaDoorReg
namespace Go.Proofs.YtnddejhbncgchaaDoor
open Go.RowKit

def c7a0 : Oper := { dst := some 21, op := Go.Op.move (Go.Operand.tmp 3), type := 30, pos := "law.go:120", after := #[], guard := none }
def c7a1 : Oper := { dst := some 22, op := Go.Op.call { callee := Go.Callee.value (Go.Operand.func 17), args := #[Go.Operand.tmp 21], argTypes := #[30] }, type := 26, pos := "law.go:120", after := #[{ on := 0, ground := Go.Ground.data }], guard := none }
def c7a2 : Oper := { dst := some 23, op := Go.Op.move (Go.Operand.tmp 3), type := 30, pos := "law.go:120", after := #[], guard := none }
def c7a3 : Oper := { dst := some 24, op := Go.Op.indexAddr 30 (Go.Operand.tmp 23) (Go.Operand.const (Go.Value.int Go.IntKind.i64 0)), type := 0, pos := "law.go:120", after := #[{ on := 2, ground := Go.Ground.data }], guard := none }
def c7a4 : Oper := { dst := some 25, op := Go.Op.slice 26 (Go.Operand.tmp 24) none none none, type := 22, pos := "law.go:120", after := #[{ on := 3, ground := Go.Ground.data }], guard := none }
def c7a5 : Oper := { dst := some 26, op := Go.Op.call { callee := Go.Callee.value (Go.Operand.func 14), args := #[Go.Operand.const (Go.Value.string { data := #[108, 101, 97, 102] }), Go.Operand.tmp 25], argTypes := #[9, 22] }, type := 26, pos := "law.go:120", after := #[{ on := 4, ground := Go.Ground.data }, { on := 1, ground := Go.Ground.chain }], guard := none }
def c7a6 : Oper := { dst := some 27, op := Go.Op.binOp Go.BinOp.eql 26 (Go.Operand.tmp 22) (Go.Operand.tmp 26) 26, type := 4, pos := "law.go:120", after := #[{ on := 1, ground := Go.Ground.data }, { on := 5, ground := Go.Ground.data }], guard := none }
def c7a7 : Oper := { dst := some 2, op := Go.Op.assign (Go.Operand.tmp 27), type := 4, pos := "law.go:120", after := #[{ on := 6, ground := Go.Ground.data }, { on := 5, ground := Go.Ground.chain }, { on := 0, ground := Go.Ground.phase }, { on := 1, ground := Go.Ground.phase }, { on := 2, ground := Go.Ground.phase }, { on := 3, ground := Go.Ground.phase }, { on := 4, ground := Go.Ground.phase }, { on := 5, ground := Go.Ground.phase }, { on := 6, ground := Go.Ground.phase }], guard := none }
def c7b0 : Oper := { dst := some 35, op := Go.Op.move (Go.Operand.tmp 3), type := 30, pos := "law.go:126", after := #[], guard := none }
def c7b1 : Oper := { dst := some 36, op := Go.Op.move (Go.Operand.tmp 4), type := 3, pos := "law.go:126", after := #[], guard := none }
def c7b2 : Oper := { dst := some 37, op := Go.Op.slice 30 (Go.Operand.tmp 35) none (some (Go.Operand.tmp 36)) none, type := 30, pos := "law.go:126", after := #[{ on := 0, ground := Go.Ground.data }, { on := 1, ground := Go.Ground.data }], guard := none }
def c7b3 : Oper := { dst := some 38, op := Go.Op.call { callee := Go.Callee.value (Go.Operand.func 17), args := #[Go.Operand.tmp 37], argTypes := #[30] }, type := 26, pos := "law.go:126", after := #[{ on := 2, ground := Go.Ground.data }], guard := none }
def c7b4 : Oper := { dst := some 39, op := Go.Op.move (Go.Operand.tmp 3), type := 30, pos := "law.go:126", after := #[], guard := none }
def c7b5 : Oper := { dst := some 40, op := Go.Op.move (Go.Operand.tmp 4), type := 3, pos := "law.go:126", after := #[], guard := none }
def c7b6 : Oper := { dst := some 41, op := Go.Op.slice 30 (Go.Operand.tmp 39) (some (Go.Operand.tmp 40)) none none, type := 30, pos := "law.go:126", after := #[{ on := 4, ground := Go.Ground.data }, { on := 5, ground := Go.Ground.data }], guard := none }
def c7b7 : Oper := { dst := some 42, op := Go.Op.call { callee := Go.Callee.value (Go.Operand.func 17), args := #[Go.Operand.tmp 41], argTypes := #[30] }, type := 26, pos := "law.go:126", after := #[{ on := 6, ground := Go.Ground.data }, { on := 3, ground := Go.Ground.chain }], guard := none }
def c7b8 : Oper := { dst := some 5, op := Go.Op.alloc 26, type := 0, pos := "law.go:126", after := #[], guard := none }
def c7b9 : Oper := { dst := some 6, op := Go.Op.alloc 26, type := 0, pos := "law.go:126", after := #[], guard := none }
def c7b10 : Oper := { dst := none, op := Go.Op.store 26 (Go.Operand.tmp 5) (Go.Operand.tmp 38), type := 0, pos := "law.go:126", after := #[{ on := 8, ground := Go.Ground.data }, { on := 3, ground := Go.Ground.data }, { on := 7, ground := Go.Ground.chain }, { on := 0, ground := Go.Ground.phase }, { on := 1, ground := Go.Ground.phase }, { on := 2, ground := Go.Ground.phase }, { on := 3, ground := Go.Ground.phase }, { on := 4, ground := Go.Ground.textOnly Go.Departure.lateStores }, { on := 5, ground := Go.Ground.textOnly Go.Departure.lateStores }, { on := 6, ground := Go.Ground.textOnly Go.Departure.lateStoresUnsure }, { on := 7, ground := Go.Ground.phase }, { on := 8, ground := Go.Ground.phase }, { on := 9, ground := Go.Ground.phase }], guard := none }
def c7b11 : Oper := { dst := none, op := Go.Op.store 26 (Go.Operand.tmp 6) (Go.Operand.tmp 42), type := 0, pos := "law.go:126", after := #[{ on := 9, ground := Go.Ground.data }, { on := 7, ground := Go.Ground.data }, { on := 10, ground := Go.Ground.chain }, { on := 0, ground := Go.Ground.phase }, { on := 1, ground := Go.Ground.phase }, { on := 2, ground := Go.Ground.phase }, { on := 3, ground := Go.Ground.phase }, { on := 4, ground := Go.Ground.phase }, { on := 5, ground := Go.Ground.phase }, { on := 6, ground := Go.Ground.phase }, { on := 7, ground := Go.Ground.phase }, { on := 8, ground := Go.Ground.phase }, { on := 9, ground := Go.Ground.phase }, { on := 10, ground := Go.Ground.phase }], guard := none }
def c7c0 : Oper := { dst := some 43, op := Go.Op.move (Go.Operand.tmp 3), type := 30, pos := "law.go:127", after := #[], guard := none }
def c7c1 : Oper := { dst := some 44, op := Go.Op.call { callee := Go.Callee.value (Go.Operand.func 17), args := #[Go.Operand.tmp 43], argTypes := #[30] }, type := 26, pos := "law.go:127", after := #[{ on := 0, ground := Go.Ground.data }], guard := none }
def c7c2 : Oper := { dst := some 45, op := Go.Op.buildSlice 22 0 #[], type := 22, pos := "law.go:127", after := #[], guard := none }
def c7c3 : Oper := { dst := some 46, op := Go.Op.slice 26 (Go.Operand.tmp 5) none none none, type := 22, pos := "law.go:127", after := #[], guard := none }
def c7c4 : Oper := { dst := some 47, op := Go.Op.call { callee := Go.Callee.builtin Go.Builtin.append, args := #[Go.Operand.tmp 45, Go.Operand.tmp 46], argTypes := #[22, 22] }, type := 22, pos := "law.go:127", after := #[{ on := 2, ground := Go.Ground.data }, { on := 3, ground := Go.Ground.data }, { on := 1, ground := Go.Ground.chain }], guard := none }
def c7c5 : Oper := { dst := some 48, op := Go.Op.slice 26 (Go.Operand.tmp 6) none none none, type := 22, pos := "law.go:127", after := #[], guard := none }
def c7c6 : Oper := { dst := some 49, op := Go.Op.call { callee := Go.Callee.builtin Go.Builtin.append, args := #[Go.Operand.tmp 47, Go.Operand.tmp 48], argTypes := #[22, 22] }, type := 22, pos := "law.go:127", after := #[{ on := 4, ground := Go.Ground.data }, { on := 5, ground := Go.Ground.data }, { on := 4, ground := Go.Ground.chain }], guard := none }
def c7c7 : Oper := { dst := some 50, op := Go.Op.call { callee := Go.Callee.value (Go.Operand.func 14), args := #[Go.Operand.const (Go.Value.string { data := #[110, 111, 100, 101] }), Go.Operand.tmp 49], argTypes := #[9, 22] }, type := 26, pos := "law.go:127", after := #[{ on := 6, ground := Go.Ground.data }, { on := 6, ground := Go.Ground.chain }], guard := none }
def c7c8 : Oper := { dst := some 51, op := Go.Op.binOp Go.BinOp.eql 26 (Go.Operand.tmp 44) (Go.Operand.tmp 50) 26, type := 4, pos := "law.go:127", after := #[{ on := 1, ground := Go.Ground.data }, { on := 7, ground := Go.Ground.data }], guard := none }
def c7c9 : Oper := { dst := some 2, op := Go.Op.assign (Go.Operand.tmp 51), type := 4, pos := "law.go:127", after := #[{ on := 8, ground := Go.Ground.data }, { on := 7, ground := Go.Ground.chain }, { on := 0, ground := Go.Ground.phase }, { on := 1, ground := Go.Ground.phase }, { on := 2, ground := Go.Ground.phase }, { on := 3, ground := Go.Ground.phase }, { on := 4, ground := Go.Ground.phase }, { on := 5, ground := Go.Ground.phase }, { on := 6, ground := Go.Ground.phase }, { on := 7, ground := Go.Ground.phase }, { on := 8, ground := Go.Ground.phase }], guard := none }
set_option maxRecDepth 100000 in
set_option maxHeartbeats 8000000 in
theorem lawHalves0 (w : World) (v : Value) (b : List UInt8) (q : Nat) (hq : (dsOf b).length = q) (h1 : q = 0) (hv : BytesAt w w.heap.size v b) (hT : Tab w) (h0 : 0 < w.heap.size) :
    Calls Tryd.prog 7 #[v] w fun e w' => e = .returned (.bool true) ∧ Below w.heap.size w w' := by
  have hv' := hv
  obtain ⟨a, cap, rfl, hnc, hcm, _⟩ := hv'
  have HV := Lib.hid hv
  have HT := Lib.hid hT
  have HSN := Lib.hid (sane_any w hT h0)
  have hlen := dsOf_len b
  have HQ := Lib.hid hq
  rw [hq] at hlen
  have hq24 : q ≤ 24 := by omega
  obtain ⟨ct, hct⟩ : ∃ ct, cells8 (tree (dsOf b)) = ct := ⟨_, rfl⟩
  have hq1 : ∀ W : World, (Op.equalIn 10000 26 (.agg ct.toArray) (.agg ct.toArray)).run Tryd.prog W = .ok true W := fun W => by
    have h := eq_any (tree (dsOf b)) (tree_len _) W
    rw [dv_eq, hct] at h; exact h
  have hg26 : Tryd.prog.eqGuardType Tryd.prog.depth 26 = false := by kernel_rfl
  have HCT := Lib.hid hct
  have HEQ := Lib.hid hq1
  have HGT := Lib.hid hg26
  clear hv hT hq hlen hct hq1 hg26
  go_enter Tryd.func7, Tryd.ntmps7
  go_wp2_with fail
  refine HSN.out.mono ?_
  rintro e w0 ⟨rfl, hB0⟩
  have HB0 := Lib.hid hB0
  clear hB0
  go_wp2_with fail
  refine (digestsOf_any w0 _ b (bytesAt_any HV.out HB0.out)).mono ?_
  rintro e w1 ⟨u, rfl, hD1, hB1⟩
  have HD1 := Lib.hid hD1
  obtain ⟨h32, a1, cap1, rfl, hcap1, hcm1, h4⟩ := hD1
  rw [HQ.out] at hcap1
  have HH32 := Lib.hid h32
  have HH4 := Lib.hid h4
  have HB1 := Lib.hid (HB0.out.trans (hB1.mono HB0.out.size))
  have HTW : Hid (∀ W, Below w1.heap.size w1 W → Tab W ∧ 0 < W.heap.size) := Lib.hid fun W hW => ⟨HT.out.below (HB1.out.trans (hW.mono HB1.out.size)) h0, by have := HB1.out.size; have := hW.size; omega⟩
  have htr : ∀ W, Kept w1 W → Calls Tryd.prog 17 #[.slice a1 q cap1] W fun e w' => e = .returned (.agg ct.toArray) ∧ Below W.heap.size W w' := fun W hW => by
    have h := tree_any q (dsOf b) W _ HQ.out (by omega) ((HD1.out.below hW.below).mono hW.below.size) (HTW.out W hW).1 (HTW.out W hW).2
    rw [dv_eq, HCT.out, HQ.out] at h
    exact h
  rw [HQ.out]
  have HTR := Lib.hid htr
  clear hB1 h32 h4 htr
  have hte : ct = cells8 (tagged tEmpty []) := by rw [← HCT.out, show dsOf b = [] from List.eq_nil_of_length_eq_zero (HQ.out.trans h1)]; rfl
  have htg : ∀ W, Kept w1 W → Calls Tryd.prog 14 #[.string { data := #[101, 109, 112, 116, 121] }, .slice none 0 0] W fun e w' => e = .returned (.agg ct.toArray) ∧ Below W.heap.size W w' := fun W hW => by
    have h := tagged_any W { data := #[101, 109, 112, 116, 121] } (.slice none 0 0) [] ⟨none, 0, rfl, by simp, by unfold maxLen; omega, .inl rfl⟩ (by decide) (by simp) (HTW.out W hW).1 (HTW.out W hW).2
    rw [dv_eq, show cells8 (tagged (ByteArray.mk #[101, 109, 112, 116, 121]).data.toList []) = ct from hte.symm] at h
    exact h
  have HTG := Lib.hid htg
  clear htg hte
  subst h1
  go_wp2_with fail
  refine (HTR.out w1 (Kept.refl _)).mono ?_
  rintro e w2 ⟨rfl, hB2⟩
  have HB2 := Lib.hid hB2
  clear hB2
  go_wp2_with fail
  refine (HTG.out w2 HB2.out).mono ?_
  rintro e w3 ⟨rfl, hB3⟩
  have HB3 := Lib.hid (HB1.out.trans ((HB2.out.trans (hB3.mono HB2.out.size)).mono HB1.out.size))
  have hq1 := HEQ.out
  have hg26 := HGT.out
  clear hB3
  go_wp2
  go_ret
  exact ⟨rfl, HB3.out⟩

set_option maxRecDepth 100000 in
set_option maxHeartbeats 8000000 in
theorem lawHalves1 (w : World) (v : Value) (b : List UInt8) (q : Nat) (hq : (dsOf b).length = q) (h1 : q = 1) (hv : BytesAt w w.heap.size v b) (hT : Tab w) (h0 : 0 < w.heap.size) :
    Calls Tryd.prog 7 #[v] w fun e w' => e = .returned (.bool true) ∧ Below w.heap.size w w' := by
  have hv' := hv
  obtain ⟨a, cap, rfl, hnc, hcm, _⟩ := hv'
  have HV := Lib.hid hv
  have HT := Lib.hid hT
  have HSN := Lib.hid (sane_any w hT h0)
  have hlen := dsOf_len b
  have HQ := Lib.hid hq
  rw [hq] at hlen
  have hq24 : q ≤ 24 := by omega
  obtain ⟨ct, hct⟩ : ∃ ct, cells8 (tree (dsOf b)) = ct := ⟨_, rfl⟩
  have hq1 : ∀ W : World, (Op.equalIn 10000 26 (.agg ct.toArray) (.agg ct.toArray)).run Tryd.prog W = .ok true W := fun W => by
    have h := eq_any (tree (dsOf b)) (tree_len _) W
    rw [dv_eq, hct] at h; exact h
  have hg26 : Tryd.prog.eqGuardType Tryd.prog.depth 26 = false := by kernel_rfl
  have HCT := Lib.hid hct
  have HEQ := Lib.hid hq1
  have HGT := Lib.hid hg26
  clear hv hT hq hlen hct hq1 hg26
  go_enter Tryd.func7, Tryd.ntmps7
  go_wp2_with fail
  refine HSN.out.mono ?_
  rintro e w0 ⟨rfl, hB0⟩
  have HB0 := Lib.hid hB0
  clear hB0
  go_wp2_with fail
  refine (digestsOf_any w0 _ b (bytesAt_any HV.out HB0.out)).mono ?_
  rintro e w1 ⟨u, rfl, hD1, hB1⟩
  have HD1 := Lib.hid hD1
  obtain ⟨h32, a1, cap1, rfl, hcap1, hcm1, h4⟩ := hD1
  rw [HQ.out] at hcap1
  have HH32 := Lib.hid h32
  have HH4 := Lib.hid h4
  have HB1 := Lib.hid (HB0.out.trans (hB1.mono HB0.out.size))
  have HTW : Hid (∀ W, Below w1.heap.size w1 W → Tab W ∧ 0 < W.heap.size) := Lib.hid fun W hW => ⟨HT.out.below (HB1.out.trans (hW.mono HB1.out.size)) h0, by have := HB1.out.size; have := hW.size; omega⟩
  have htr : ∀ W, Kept w1 W → Calls Tryd.prog 17 #[.slice a1 q cap1] W fun e w' => e = .returned (.agg ct.toArray) ∧ Below W.heap.size W w' := fun W hW => by
    have h := tree_any q (dsOf b) W _ HQ.out (by omega) ((HD1.out.below hW.below).mono hW.below.size) (HTW.out W hW).1 (HTW.out W hW).2
    rw [dv_eq, HCT.out, HQ.out] at h
    exact h
  rw [HQ.out]
  have HTR := Lib.hid htr
  clear hB1 h32 h4 htr
  have hne : dsOf b ≠ [] := fun e => by have := HQ.out; rw [e] at this; simp at this; omega
  rcases HH4.out with h4 | ⟨db, off, rfl, hdb, hr⟩
  · exact absurd h4 hne
  obtain ⟨d, hd⟩ := List.length_eq_one_iff.1 (HQ.out.trans h1)
  have hl : d.length = 32 := HH32.out d (by rw [hd]; simp)
  have hri := hr 0 (by rw [HQ.out]; omega)
  have hr0 : w1.rangeAt db off (cells8 d) := by simpa [hd] using hri
  have hte : ct = cells8 (tagged tLeaf d) := by rw [← HCT.out, hd]; rfl
  have htl : ∀ W, Kept w1 W → Calls Tryd.prog 14 #[.string { data := #[108, 101, 97, 102] }, .slice (some ⟨db, off, none⟩) 32 32] W fun e w' => e = .returned (.agg ct.toArray) ∧ Below W.heap.size W w' := fun W hW => by
    have hby : BytesIn W db off d := fun i hi => (hW.below.cell (p := ⟨db, off + i, none⟩) hdb).trans (hr0 i _ (by simp [cells8, List.getElem?_eq_getElem hi]))
    have h := tagged_any W { data := #[108, 101, 97, 102] } (.slice (some ⟨db, off, none⟩) 32 32) d ⟨some ⟨db, off, none⟩, 32, by rw [hl], by rw [hl]; omega, by unfold maxLen; omega, .inr ⟨db, off, rfl, by have := hW.below.size; omega, hby⟩⟩ (by decide) (by rw [hl]; omega) (HTW.out W hW).1 (HTW.out W hW).2
    rw [dv_eq, show cells8 (tagged (ByteArray.mk #[108, 101, 97, 102]).data.toList d) = ct from hte.symm] at h
    exact h
  have HTL := Lib.hid htl
  have hq1 := HEQ.out
  have hg26 := HGT.out
  clear htl hte hr0 hri hl hd hne hr
  subst h1
  go_wp2_with fail
  refine wp_region_held_drew (S := fun W => Kept w1 W) (by kernel_rfl) ((Kept.refl w1).drew) (fun hHeld => ?_)
  refine wpAnyH_take (i := 0) (oi := c7a0) (v := ?_) rfl (by kernel_rfl) (by kernel_rfl) (by kernel_rfl) (fun _ _ _ h => h) (Or.inl ⟨by rfl, ?_⟩) hHeld ?_
  rotate_left
  · (intro w hSw; (try dsimp only at hSw); unfold c7a0; go_simp <;> with_reducible rfl)
  try simp only [c7a0, Act.put, List.setIfInBounds_toArray, List.set_cons_zero, List.set_cons_succ]
  refine wpAnyH_take (i := 2) (oi := c7a2) (v := ?_) rfl (by kernel_rfl) (by kernel_rfl) (by kernel_rfl) (fun _ _ _ h => h) (Or.inl ⟨by rfl, ?_⟩) hHeld ?_
  rotate_left
  · (intro w hSw; (try dsimp only at hSw); unfold c7a2; go_simp <;> with_reducible rfl)
  try simp only [c7a2, Act.put, List.setIfInBounds_toArray, List.set_cons_zero, List.set_cons_succ]
  refine wpAnyH_take (i := 3) (oi := c7a3) (v := ?_) rfl (by kernel_rfl) (by kernel_rfl) (by kernel_rfl) (fun _ _ _ h => h) (Or.inl ⟨by rfl, ?_⟩) hHeld ?_
  rotate_left
  · (intro w hSw; (try dsimp only at hSw); unfold c7a3; go_simp <;> with_reducible rfl)
  try simp only [c7a3, Act.put, List.setIfInBounds_toArray, List.set_cons_zero, List.set_cons_succ]
  refine wpAnyH_take (i := 4) (oi := c7a4) (v := ?_) rfl (by kernel_rfl) (by kernel_rfl) (by kernel_rfl) (fun _ _ _ h => h) (Or.inl ⟨by rfl, ?_⟩) hHeld ?_
  rotate_left
  · (intro w hSw; (try dsimp only at hSw); unfold c7a4; go_simp <;> with_reducible rfl)
  try simp only [c7a4, Act.put, List.setIfInBounds_toArray, List.set_cons_zero, List.set_cons_succ]
  refine wpAnyH_ready (rs := [1]) (by kernel_rfl) (by simp) ?_
  refine AllReadyH.cons (o := c7a1) rfl (fun K hK => ?_) AllReadyH.nil
  rw [if_pos (by rfl)]
  unfold c7a1
  go_simp
  (with_reducible refine (HTR.out _ hHeld).mono ?_)
  rintro e W1 ⟨rfl, hB1⟩
  have hG1 := gbelow (row := none) hB1
  have hS1 := Kept.moved hHeld hG1 (fun _ h => by cases h)
  go_wp2_with fail
  refine hK.out _ _ hS1 (fun hHeld => ?_)
  clear hK K
  try simp only [c7a1, Act.put, List.setIfInBounds_toArray, List.set_cons_zero, List.set_cons_succ]
  refine wpAnyH_ready (rs := [5]) (by kernel_rfl) (by simp) ?_
  refine AllReadyH.cons (o := c7a5) rfl (fun K hK => ?_) AllReadyH.nil
  rw [if_pos (by rfl)]
  unfold c7a5
  go_simp
  (with_reducible refine (HTL.out _ hHeld).mono ?_)
  rintro e W5 ⟨rfl, hB5⟩
  have hG5 := gbelow (row := none) hB5
  have hS5 := Kept.moved hHeld hG5 (fun _ h => by cases h)
  go_wp2_with fail
  refine hK.out _ _ hS5 (fun hHeld => ?_)
  clear hK K
  try simp only [c7a5, Act.put, List.setIfInBounds_toArray, List.set_cons_zero, List.set_cons_succ]
  refine wpAnyH_ready (rs := [6]) (by kernel_rfl) (by simp) ?_
  refine AllReadyH.cons (o := c7a6) rfl (fun K hK => ?_) AllReadyH.nil
  rw [if_pos (by rfl)]
  unfold c7a6
  go_simp
  refine hK.out _ _ hHeld (fun hHeld => ?_)
  clear hK K
  try simp only [c7a6, Act.put, List.setIfInBounds_toArray, List.set_cons_zero, List.set_cons_succ]
  refine wpAnyH_ready (rs := [7]) (by kernel_rfl) (by simp) ?_
  refine AllReadyH.cons (o := c7a7) rfl (fun K hK => ?_) AllReadyH.nil
  rw [if_pos (by rfl)]
  unfold c7a7
  go_simp
  refine hK.out _ _ hHeld (fun hHeld => ?_)
  clear hK K
  try simp only [c7a7, Act.put, List.setIfInBounds_toArray, List.set_cons_zero, List.set_cons_succ]
  refine wpAnyH_done (by kernel_rfl) ?_ _
  have HK := Lib.hid hHeld
  clear hHeld
  go_wp2
  go_ret
  exact ⟨rfl, HB1.out.trans (HK.out.below.mono HB1.out.size)⟩

set_option maxRecDepth 100000 in
set_option maxHeartbeats 8000000 in
theorem lawHalvesN (w : World) (v : Value) (b : List UInt8) (q : Nat) (hq : (dsOf b).length = q) (h1 : 1 < q) (hv : BytesAt w w.heap.size v b) (hT : Tab w) (h0 : 0 < w.heap.size) :
    Calls Tryd.prog 7 #[v] w fun e w' => e = .returned (.bool true) ∧ Below w.heap.size w w' := by
  have hv' := hv
  obtain ⟨a, cap, rfl, hnc, hcm, _⟩ := hv'
  have HV := Lib.hid hv
  have HT := Lib.hid hT
  have HSN := Lib.hid (sane_any w hT h0)
  have hlen := dsOf_len b
  have HQ := Lib.hid hq
  rw [hq] at hlen
  have hq24 : q ≤ 24 := by omega
  obtain ⟨ct, hct⟩ : ∃ ct, cells8 (tree (dsOf b)) = ct := ⟨_, rfl⟩
  have hq1 : ∀ W : World, (Op.equalIn 10000 26 (.agg ct.toArray) (.agg ct.toArray)).run Tryd.prog W = .ok true W := fun W => by
    have h := eq_any (tree (dsOf b)) (tree_len _) W
    rw [dv_eq, hct] at h; exact h
  have hg26 : Tryd.prog.eqGuardType Tryd.prog.depth 26 = false := by kernel_rfl
  have HCT := Lib.hid hct
  have HEQ := Lib.hid hq1
  have HGT := Lib.hid hg26
  clear hv hT hq hlen hct hq1 hg26
  go_enter Tryd.func7, Tryd.ntmps7
  go_wp2_with fail
  refine HSN.out.mono ?_
  rintro e w0 ⟨rfl, hB0⟩
  have HB0 := Lib.hid hB0
  clear hB0
  go_wp2_with fail
  refine (digestsOf_any w0 _ b (bytesAt_any HV.out HB0.out)).mono ?_
  rintro e w1 ⟨u, rfl, hD1, hB1⟩
  have HD1 := Lib.hid hD1
  obtain ⟨h32, a1, cap1, rfl, hcap1, hcm1, h4⟩ := hD1
  rw [HQ.out] at hcap1
  have HH32 := Lib.hid h32
  have HH4 := Lib.hid h4
  have HB1 := Lib.hid (HB0.out.trans (hB1.mono HB0.out.size))
  have HTW : Hid (∀ W, Below w1.heap.size w1 W → Tab W ∧ 0 < W.heap.size) := Lib.hid fun W hW => ⟨HT.out.below (HB1.out.trans (hW.mono HB1.out.size)) h0, by have := HB1.out.size; have := hW.size; omega⟩
  have htr : ∀ W, Kept w1 W → Calls Tryd.prog 17 #[.slice a1 q cap1] W fun e w' => e = .returned (.agg ct.toArray) ∧ Below W.heap.size W w' := fun W hW => by
    have h := tree_any q (dsOf b) W _ HQ.out (by omega) ((HD1.out.below hW.below).mono hW.below.size) (HTW.out W hW).1 (HTW.out W hW).2
    rw [dv_eq, HCT.out, HQ.out] at h
    exact h
  rw [HQ.out]
  have HTR := Lib.hid htr
  clear hB1 h32 h4 htr
  have hne : dsOf b ≠ [] := fun e => by have := HQ.out; rw [e] at this; simp at this; omega
  rcases HH4.out with h4 | ⟨db, off, rfl, hdb, hr⟩
  · exact absurd h4 hne
  have d0 : ((q : Int) == 0) = false := by simp; omega
  have d0' : decide ((q : Int) = 0) = false := by simp; omega
  have d1 : ((q : Int) == 1) = false := by simp; omega
  have d1' : decide ((q : Int) = 1) = false := by simp; omega
  have HR := Lib.hid hr
  clear hr hne
  go_wp2
  go_loop [4] (fun c => ∃ (k j : Nat), c = .int .i64 k ∧ k = 2 ^ j ∧ k < q) (fun c => q - (intOf c).toNat)
  case atStart => exact ⟨1, 0, rfl, rfl, h1⟩
  case round =>
    obtain ⟨k, j, rfl, hkj, hky⟩ := hrel
    have HKJ := Lib.hid hkj
    have hk0 : 0 < k := by rw [hkj]; exact Nat.two_pow_pos j
    clear hkj
    by_cases h2 : 2 * k < q
    · have d2 : decide (2 * (k : Int) < (q : Int)) = true := by simp; omega
      have h2' : 2 * (k : Int) < (q : Int) := by omega
      go_wp2
      go_round
      case rel => exact ⟨k * 2, j + 1, by simp, by rw [Nat.pow_succ, ← HKJ.out], by omega⟩
      case measure => simp [intOf]; omega
    · have hsp : spl (dsOf b).length = k := by rw [HQ.out]; exact spl_eq q k j HKJ.out h1 (by omega) hky (by omega)
      have htm := tree_more (dsOf b) (by rw [HQ.out]; exact h1) (by rw [HQ.out]; omega)
      rw [hsp] at htm
      have hlt : ((dsOf b).take k).length = k := by rw [List.length_take, HQ.out]; omega
      have hld : ((dsOf b).drop k).length = q - k := by rw [List.length_drop, HQ.out]
      have hql := HQ.out
      have hDt : ∀ W, Kept w1 W → Digs W W.heap.size (.slice (some ⟨db, off, none⟩) k cap1) ((dsOf b).take k) := fun W hB =>
        ⟨fun d hd => HH32.out d (List.mem_of_mem_take hd), some ⟨db, off, none⟩, cap1, by rw [hlt], by omega, hcm1, .inr ⟨db, off, rfl, by have := hB.below.size; omega, fun j hj u v hv => by
          rw [List.getElem_take] at hv
          exact (hB.below.cell (p := ⟨db, off + j * 32 + u, none⟩) hdb).trans (HR.out j (by omega) u v hv)⟩⟩
      have hDd : ∀ W, Kept w1 W → Digs W W.heap.size (.slice (some ⟨db, off + k * 32, none⟩) (q - k) (cap1 - k)) ((dsOf b).drop k) := fun W hB =>
        ⟨fun d hd => HH32.out d (List.mem_of_mem_drop hd), some ⟨db, off + k * 32, none⟩, cap1 - k, by rw [hld], by omega, by omega, .inr ⟨db, off + k * 32, rfl, by have := hB.below.size; omega, fun j hj u v hv => by
          rw [List.getElem_drop] at hv
          have := (hB.below.cell (p := ⟨db, off + (k + j) * 32 + u, none⟩) hdb).trans (HR.out (k + j) (by omega) u v hv)
          rwa [show off + k * 32 + j * 32 = off + (k + j) * 32 by omega]⟩⟩
      obtain ⟨ta, hta⟩ : ∃ ta, tree ((dsOf b).take k) = ta := ⟨_, rfl⟩
      obtain ⟨tb, htb⟩ : ∃ tb, tree ((dsOf b).drop k) = tb := ⟨_, rfl⟩
      have hla : ta.length = 32 := by rw [← hta]; exact tree_len _
      have hlb : tb.length = 32 := by rw [← htb]; exact tree_len _
      rw [hta, htb] at htm
      obtain ⟨ca, hca⟩ : ∃ ca, cells8 ta = ca := ⟨_, rfl⟩
      obtain ⟨cb, hcb⟩ : ∃ cb, cells8 tb = cb := ⟨_, rfl⟩
      have hla' : ca.length = 32 := by rw [← hca, cells8_len, hla]
      have hlb' : cb.length = 32 := by rw [← hcb, cells8_len, hlb]
      have hA : ∀ W, Kept w1 W → Calls Tryd.prog 17 #[.slice (some ⟨db, off, none⟩) k cap1] W fun e w' => e = .returned (.agg ca.toArray) ∧ Below W.heap.size W w' := fun W hW => by
        have h := tree_any k _ W _ hlt (by omega) (hDt W hW) (HTW.out W hW).1 (HTW.out W hW).2
        rw [hta, dv_eq, hca] at h; exact h
      have hB : ∀ W, Kept w1 W → Calls Tryd.prog 17 #[.slice (some ⟨db, off + k * 32, none⟩) (q - k) (cap1 - k)] W fun e w' => e = .returned (.agg cb.toArray) ∧ Below W.heap.size W w' := fun W hW => by
        have h := tree_any (q - k) _ W _ hld (by omega) (hDd W hW) (HTW.out W hW).1 (HTW.out W hW).2
        rw [htb, dv_eq, hcb] at h; exact h
      have htg : ∀ W B g c, Kept w1 W → W.ownsRow B 5 1 (.slice (some ⟨g, 0, none⟩) 64 c) 64 (ca ++ cb) → Calls Tryd.prog 14 #[.string { data := #[110, 111, 100, 101] }, .slice (some ⟨g, 0, none⟩) 64 c] W fun e w' => e = .returned (.agg ct.toArray) ∧ Below W.heap.size W w' := fun W B g c hW hO => by
        have hs : Spare W B g 64 c (ta ++ tb) := by unfold Spare; rw [show cells8 (ta ++ tb) = ca ++ cb by rw [← hca, ← hcb]; simp [cells8]]; exact hO
        obtain ⟨_, s1, s2, s3, s4, s5⟩ := hs.bytes
        have h := tagged_any W { data := #[110, 111, 100, 101] } (.slice (some ⟨g, 0, none⟩) 64 c) (ta ++ tb) ⟨some ⟨g, 0, none⟩, c, by rw [s4], by rw [s4]; exact s2, s3, .inr ⟨g, 0, rfl, s1, s5⟩⟩ (by decide) (by rw [s4]; omega) (HTW.out W hW).1 (HTW.out W hW).2
        rw [dv_eq, show cells8 (tagged (ByteArray.mk #[110, 111, 100, 101]).data.toList (ta ++ tb)) = ct by rw [← HCT.out, htm]; rfl] at h
        exact h
      have HTA := Lib.hid hA
      have HTB := Lib.hid hB
      have HTN := Lib.hid htg
      have HLA := Lib.hid hla'
      have HLB := Lib.hid hlb'
      have HZA : Hid ((Tryd.prog.info? 26).map (·.size) = some ca.length) := by show _ = _; rw [hla']; exact Tryd.info26
      have HZB : Hid ((Tryd.prog.info? 26).map (·.size) = some cb.length) := by show _ = _; rw [hlb']; exact Tryd.info26
      have HOA : Hid (∀ v ∈ ca, v.oneCell' = true) := Lib.hid (by rw [← hca]; exact one_cells8 _)
      have HOB : Hid (∀ v ∈ cb, v.oneCell' = true) := Lib.hid (by rw [← hcb]; exact one_cells8 _)
      have d2 : decide (2 * (k : Int) < (q : Int)) = false := by simp; omega
      have h2' : ¬ 2 * (k : Int) < (q : Int) := by omega
      have f1 : ((k : Nat) : Int) ≤ (q : Int) := by omega
      have f2 : ((k : Nat) : Int) ≤ (cap1 : Int) := by omega
      have f3 : ((q : Nat) : Int) ≤ (cap1 : Int) := by omega
      have hkc : k < cap1 := by omega
      have f5 : ¬ cap1 = k := by omega
      unfold maxLen at hcm1
      clear hsp htm hlt hld hql hDt hDd hta htb hla hlb hca hcb hla' hlb' hA hB htg
      go_wp2
      go_cut [5, 6] (fun s5 s6 wx => ∃ b5 b6 : Nat, s5 = .pointer (some ⟨b5, 0, none⟩) ∧ s6 = .pointer (some ⟨b6, 0, none⟩) ∧ Kept w1 wx ∧ Arr wx b5 ca ∧ Arr wx b6 cb ∧ b5 < wx.heap.size ∧ b6 < wx.heap.size)
      case first =>
        refine wp_region_held_drew (S := fun W => Kept w1 W) (by kernel_rfl) ((Kept.refl w1).drew) (fun hHeld => ?_)
        refine wpAnyH_take (i := 0) (oi := c7b0) (v := ?_) rfl (by kernel_rfl) (by kernel_rfl) (by kernel_rfl) (fun _ _ _ h => h) (Or.inl ⟨by rfl, ?_⟩) hHeld ?_
        rotate_left
        · (intro w hSw; (try dsimp only at hSw); unfold c7b0; go_simp <;> with_reducible rfl)
        try simp only [c7b0, Act.put, List.setIfInBounds_toArray, List.set_cons_zero, List.set_cons_succ]
        refine wpAnyH_take (i := 1) (oi := c7b1) (v := ?_) rfl (by kernel_rfl) (by kernel_rfl) (by kernel_rfl) (fun _ _ _ h => h) (Or.inl ⟨by rfl, ?_⟩) hHeld ?_
        rotate_left
        · (intro w hSw; (try dsimp only at hSw); unfold c7b1; go_simp <;> with_reducible rfl)
        try simp only [c7b1, Act.put, List.setIfInBounds_toArray, List.set_cons_zero, List.set_cons_succ]
        refine wpAnyH_take (i := 2) (oi := c7b2) (v := ?_) rfl (by kernel_rfl) (by kernel_rfl) (by kernel_rfl) (fun _ _ _ h => h) (Or.inl ⟨by rfl, ?_⟩) hHeld ?_
        rotate_left
        · (intro w hSw; (try dsimp only at hSw); unfold c7b2; go_simp <;> with_reducible rfl)
        try simp only [c7b2, Act.put, List.setIfInBounds_toArray, List.set_cons_zero, List.set_cons_succ]
        refine wpAnyH_take (i := 4) (oi := c7b4) (v := ?_) rfl (by kernel_rfl) (by kernel_rfl) (by kernel_rfl) (fun _ _ _ h => h) (Or.inl ⟨by rfl, ?_⟩) hHeld ?_
        rotate_left
        · (intro w hSw; (try dsimp only at hSw); unfold c7b4; go_simp <;> with_reducible rfl)
        try simp only [c7b4, Act.put, List.setIfInBounds_toArray, List.set_cons_zero, List.set_cons_succ]
        refine wpAnyH_take (i := 5) (oi := c7b5) (v := ?_) rfl (by kernel_rfl) (by kernel_rfl) (by kernel_rfl) (fun _ _ _ h => h) (Or.inl ⟨by rfl, ?_⟩) hHeld ?_
        rotate_left
        · (intro w hSw; (try dsimp only at hSw); unfold c7b5; go_simp <;> with_reducible rfl)
        try simp only [c7b5, Act.put, List.setIfInBounds_toArray, List.set_cons_zero, List.set_cons_succ]
        refine wpAnyH_take (i := 6) (oi := c7b6) (v := ?_) rfl (by kernel_rfl) (by kernel_rfl) (by kernel_rfl) (fun _ _ _ h => h) (Or.inl ⟨by rfl, ?_⟩) hHeld ?_
        rotate_left
        · (intro w hSw; (try dsimp only at hSw); unfold c7b6; go_simp <;> with_reducible rfl)
        try simp only [c7b6, Act.put, List.setIfInBounds_toArray, List.set_cons_zero, List.set_cons_succ]
        refine wpAnyH_ready (rs := [3, 8, 9]) (by kernel_rfl) (by simp) ?_
        refine AllReadyH.cons (o := c7b3) rfl (fun K hK => ?_) (AllReadyH.cons (o := c7b8) rfl (fun K hK => ?_) (AllReadyH.cons (o := c7b9) rfl (fun K hK => ?_) AllReadyH.nil))
        · skip
          rw [if_pos (by rfl)]
          unfold c7b3
          go_simp
          (with_reducible refine (HTA.out _ hHeld).mono ?_)
          rintro e W3 ⟨rfl, hB3⟩
          have hG3 := gbelow (row := none) hB3
          have hS3 := Kept.moved hHeld hG3 (fun _ h => by cases h)
          go_wp2_with fail
          refine hK.out _ _ hS3 (fun hHeld => ?_)
          clear hK K
          try simp only [c7b3, Act.put, List.setIfInBounds_toArray, List.set_cons_zero, List.set_cons_succ]
          refine wpAnyH_ready (rs := [7, 8, 9]) (by kernel_rfl) (by simp) ?_
          refine AllReadyH.cons (o := c7b7) rfl (fun K hK => ?_) (AllReadyH.cons (o := c7b8) rfl (fun K hK => ?_) (AllReadyH.cons (o := c7b9) rfl (fun K hK => ?_) AllReadyH.nil))
          · skip
            rw [if_pos (by rfl)]
            unfold c7b7
            go_simp
            (with_reducible refine (HTB.out _ hHeld).mono ?_)
            rintro e W7 ⟨rfl, hB7⟩
            have hG7 := gbelow (row := none) hB7
            have hS7 := Kept.moved hHeld hG7 (fun _ h => by cases h)
            go_wp2_with fail
            refine hK.out _ _ hS7 (fun hHeld => ?_)
            clear hK K
            try simp only [c7b7, Act.put, List.setIfInBounds_toArray, List.set_cons_zero, List.set_cons_succ]
            refine wpAnyH_ready (rs := [8, 9]) (by kernel_rfl) (by simp) ?_
            refine AllReadyH.cons (o := c7b8) rfl (fun K hK => ?_) (AllReadyH.cons (o := c7b9) rfl (fun K hK => ?_) AllReadyH.nil)
            · skip
              rw [if_pos (by rfl)]
              refine wp_alloc26 (by rfl) ?_
              intro g8 W8 hle8 hlt8 hG8 va_8
              have le_g8 := Nat.le_trans hHeld.below.size hle8
              have hS8 := Kept.moved hHeld hG8 (fun _ h => by cases h)
              refine hK.out _ _ hS8 (fun hHeld => ?_)
              clear hK K
              try simp only [c7b8, Act.put, List.setIfInBounds_toArray, List.set_cons_zero, List.set_cons_succ]
              refine wpAnyH_ready (rs := [9]) (by kernel_rfl) (by simp) ?_
              refine AllReadyH.cons (o := c7b9) rfl (fun K hK => ?_) AllReadyH.nil
              rw [if_pos (by rfl)]
              refine wp_alloc26 (by rfl) ?_
              intro g9 W9 hle9 hlt9 hG9 vb_9
              have le_g9 := Nat.le_trans hHeld.below.size hle9
              have hS9 := Kept.moved hHeld hG9 (fun _ h => by cases h)
              have ne_g8_g9 : g8 ≠ g9 := by have := hlt8; have := hle9; omega
              have va_9 := Arr.moved va_8 hG9 hlt8 (by simp)
              have lt_va_9 := Nat.lt_of_lt_of_le hlt8 hG9.size
              clear va_8 hlt8
              refine hK.out _ _ hS9 (fun hHeld => ?_)
              clear hK K
              try simp only [c7b9, Act.put, List.setIfInBounds_toArray, List.set_cons_zero, List.set_cons_succ]
              refine wpAnyH_ready (rs := [10]) (by kernel_rfl) (by simp) ?_
              refine AllReadyH.cons (o := c7b10) rfl (fun K hK => ?_) AllReadyH.nil
              rw [if_pos (by rfl)]
              refine wp_st26 (.tmp 5) (.tmp 38) (by rfl) g8 ca _ (by rfl) (by rfl) va_9 (by rw [HLA.out]; rfl) HZA.out HOA.out ?_
              intro W10 hG10 va_10
              have hS10 := Kept.moved hHeld hG10 (fun k hk => by cases hk; exact le_g8)
              have vb_10 := Arr.moved vb_9 hG10 hlt9 (by simpa using (Ne.symm ne_g8_g9))
              have lt_vb_10 := Nat.lt_of_lt_of_le hlt9 hG10.size
              have lt_va_10 := Nat.lt_of_lt_of_le lt_va_9 hG10.size
              clear va_9
              clear vb_9
              refine hK.out _ _ hS10 (fun hHeld => ?_)
              clear hK K
              try simp only [c7b10, Act.put]
              refine wpAnyH_ready (rs := [11]) (by kernel_rfl) (by simp) ?_
              refine AllReadyH.cons (o := c7b11) rfl (fun K hK => ?_) AllReadyH.nil
              rw [if_pos (by rfl)]
              refine wp_st26 (.tmp 6) (.tmp 42) (by rfl) g9 cb _ (by rfl) (by rfl) vb_10 (by rw [HLB.out]; rfl) HZB.out HOB.out ?_
              intro W11 hG11 vb_11
              have hS11 := Kept.moved hHeld hG11 (fun k hk => by cases hk; exact le_g9)
              have va_11 := Arr.moved va_10 hG11 lt_va_10 (by simpa using ne_g8_g9)
              have lt_va_11 := Nat.lt_of_lt_of_le lt_va_10 hG11.size
              have lt_vb_11 := Nat.lt_of_lt_of_le lt_vb_10 hG11.size
              clear va_10
              clear vb_10
              refine hK.out _ _ hS11 (fun hHeld => ?_)
              clear hK K
              try simp only [c7b11, Act.put]
              refine wpAnyH_done (by kernel_rfl) ?_ _
              go_wp2_with fail
              go_meet
              exact ⟨_, _, rfl, rfl, hHeld, va_11, vb_11, lt_va_11, lt_vb_11⟩
            · skip
              rw [if_pos (by rfl)]
              refine wp_alloc26 (by rfl) ?_
              intro g9 W9 hle9 hlt9 hG9 vb_9
              have le_g9 := Nat.le_trans hHeld.below.size hle9
              have hS9 := Kept.moved hHeld hG9 (fun _ h => by cases h)
              refine hK.out _ _ hS9 (fun hHeld => ?_)
              clear hK K
              try simp only [c7b9, Act.put, List.setIfInBounds_toArray, List.set_cons_zero, List.set_cons_succ]
              refine wpAnyH_ready (rs := [8]) (by kernel_rfl) (by simp) ?_
              refine AllReadyH.cons (o := c7b8) rfl (fun K hK => ?_) AllReadyH.nil
              rw [if_pos (by rfl)]
              refine wp_alloc26 (by rfl) ?_
              intro g8 W8 hle8 hlt8 hG8 va_8
              have le_g8 := Nat.le_trans hHeld.below.size hle8
              have hS8 := Kept.moved hHeld hG8 (fun _ h => by cases h)
              have ne_g9_g8 : g9 ≠ g8 := by have := hlt9; have := hle8; omega
              have vb_8 := Arr.moved vb_9 hG8 hlt9 (by simp)
              have lt_vb_8 := Nat.lt_of_lt_of_le hlt9 hG8.size
              clear vb_9 hlt9
              refine hK.out _ _ hS8 (fun hHeld => ?_)
              clear hK K
              try simp only [c7b8, Act.put, List.setIfInBounds_toArray, List.set_cons_zero, List.set_cons_succ]
              refine wpAnyH_ready (rs := [10]) (by kernel_rfl) (by simp) ?_
              refine AllReadyH.cons (o := c7b10) rfl (fun K hK => ?_) AllReadyH.nil
              rw [if_pos (by rfl)]
              refine wp_st26 (.tmp 5) (.tmp 38) (by rfl) g8 ca _ (by rfl) (by rfl) va_8 (by rw [HLA.out]; rfl) HZA.out HOA.out ?_
              intro W10 hG10 va_10
              have hS10 := Kept.moved hHeld hG10 (fun k hk => by cases hk; exact le_g8)
              have vb_10 := Arr.moved vb_8 hG10 lt_vb_8 (by simpa using ne_g9_g8)
              have lt_vb_10 := Nat.lt_of_lt_of_le lt_vb_8 hG10.size
              have lt_va_10 := Nat.lt_of_lt_of_le hlt8 hG10.size
              clear vb_8
              clear va_8
              refine hK.out _ _ hS10 (fun hHeld => ?_)
              clear hK K
              try simp only [c7b10, Act.put]
              refine wpAnyH_ready (rs := [11]) (by kernel_rfl) (by simp) ?_
              refine AllReadyH.cons (o := c7b11) rfl (fun K hK => ?_) AllReadyH.nil
              rw [if_pos (by rfl)]
              refine wp_st26 (.tmp 6) (.tmp 42) (by rfl) g9 cb _ (by rfl) (by rfl) vb_10 (by rw [HLB.out]; rfl) HZB.out HOB.out ?_
              intro W11 hG11 vb_11
              have hS11 := Kept.moved hHeld hG11 (fun k hk => by cases hk; exact le_g9)
              have va_11 := Arr.moved va_10 hG11 lt_va_10 (by simpa using (Ne.symm ne_g9_g8))
              have lt_va_11 := Nat.lt_of_lt_of_le lt_va_10 hG11.size
              have lt_vb_11 := Nat.lt_of_lt_of_le lt_vb_10 hG11.size
              clear vb_10
              clear va_10
              refine hK.out _ _ hS11 (fun hHeld => ?_)
              clear hK K
              try simp only [c7b11, Act.put]
              refine wpAnyH_done (by kernel_rfl) ?_ _
              go_wp2_with fail
              go_meet
              exact ⟨_, _, rfl, rfl, hHeld, va_11, vb_11, lt_va_11, lt_vb_11⟩
          · skip
            rw [if_pos (by rfl)]
            refine wp_alloc26 (by rfl) ?_
            intro g8 W8 hle8 hlt8 hG8 va_8
            have le_g8 := Nat.le_trans hHeld.below.size hle8
            have hS8 := Kept.moved hHeld hG8 (fun _ h => by cases h)
            refine hK.out _ _ hS8 (fun hHeld => ?_)
            clear hK K
            try simp only [c7b8, Act.put, List.setIfInBounds_toArray, List.set_cons_zero, List.set_cons_succ]
            refine wpAnyH_ready (rs := [7, 9]) (by kernel_rfl) (by simp) ?_
            refine AllReadyH.cons (o := c7b7) rfl (fun K hK => ?_) (AllReadyH.cons (o := c7b9) rfl (fun K hK => ?_) AllReadyH.nil)
            · skip
              rw [if_pos (by rfl)]
              unfold c7b7
              go_simp
              (with_reducible refine (HTB.out _ hHeld).mono ?_)
              rintro e W7 ⟨rfl, hB7⟩
              have hG7 := gbelow (row := none) hB7
              have hS7 := Kept.moved hHeld hG7 (fun _ h => by cases h)
              have va_7 := Arr.moved va_8 hG7 hlt8 (by simp)
              have lt_va_7 := Nat.lt_of_lt_of_le hlt8 hG7.size
              clear va_8 hlt8
              go_wp2_with fail
              refine hK.out _ _ hS7 (fun hHeld => ?_)
              clear hK K
              try simp only [c7b7, Act.put, List.setIfInBounds_toArray, List.set_cons_zero, List.set_cons_succ]
              refine wpAnyH_ready (rs := [9]) (by kernel_rfl) (by simp) ?_
              refine AllReadyH.cons (o := c7b9) rfl (fun K hK => ?_) AllReadyH.nil
              rw [if_pos (by rfl)]
              refine wp_alloc26 (by rfl) ?_
              intro g9 W9 hle9 hlt9 hG9 vb_9
              have le_g9 := Nat.le_trans hHeld.below.size hle9
              have hS9 := Kept.moved hHeld hG9 (fun _ h => by cases h)
              have ne_g8_g9 : g8 ≠ g9 := by have := lt_va_7; have := hle9; omega
              have va_9 := Arr.moved va_7 hG9 lt_va_7 (by simp)
              have lt_va_9 := Nat.lt_of_lt_of_le lt_va_7 hG9.size
              clear va_7 lt_va_7
              refine hK.out _ _ hS9 (fun hHeld => ?_)
              clear hK K
              try simp only [c7b9, Act.put, List.setIfInBounds_toArray, List.set_cons_zero, List.set_cons_succ]
              refine wpAnyH_ready (rs := [10]) (by kernel_rfl) (by simp) ?_
              refine AllReadyH.cons (o := c7b10) rfl (fun K hK => ?_) AllReadyH.nil
              rw [if_pos (by rfl)]
              refine wp_st26 (.tmp 5) (.tmp 38) (by rfl) g8 ca _ (by rfl) (by rfl) va_9 (by rw [HLA.out]; rfl) HZA.out HOA.out ?_
              intro W10 hG10 va_10
              have hS10 := Kept.moved hHeld hG10 (fun k hk => by cases hk; exact le_g8)
              have vb_10 := Arr.moved vb_9 hG10 hlt9 (by simpa using (Ne.symm ne_g8_g9))
              have lt_vb_10 := Nat.lt_of_lt_of_le hlt9 hG10.size
              have lt_va_10 := Nat.lt_of_lt_of_le lt_va_9 hG10.size
              clear va_9
              clear vb_9
              refine hK.out _ _ hS10 (fun hHeld => ?_)
              clear hK K
              try simp only [c7b10, Act.put]
              refine wpAnyH_ready (rs := [11]) (by kernel_rfl) (by simp) ?_
              refine AllReadyH.cons (o := c7b11) rfl (fun K hK => ?_) AllReadyH.nil
              rw [if_pos (by rfl)]
              refine wp_st26 (.tmp 6) (.tmp 42) (by rfl) g9 cb _ (by rfl) (by rfl) vb_10 (by rw [HLB.out]; rfl) HZB.out HOB.out ?_
              intro W11 hG11 vb_11
              have hS11 := Kept.moved hHeld hG11 (fun k hk => by cases hk; exact le_g9)
              have va_11 := Arr.moved va_10 hG11 lt_va_10 (by simpa using ne_g8_g9)
              have lt_va_11 := Nat.lt_of_lt_of_le lt_va_10 hG11.size
              have lt_vb_11 := Nat.lt_of_lt_of_le lt_vb_10 hG11.size
              clear va_10
              clear vb_10
              refine hK.out _ _ hS11 (fun hHeld => ?_)
              clear hK K
              try simp only [c7b11, Act.put]
              refine wpAnyH_done (by kernel_rfl) ?_ _
              go_wp2_with fail
              go_meet
              exact ⟨_, _, rfl, rfl, hHeld, va_11, vb_11, lt_va_11, lt_vb_11⟩
            · skip
              rw [if_pos (by rfl)]
              refine wp_alloc26 (by rfl) ?_
              intro g9 W9 hle9 hlt9 hG9 vb_9
              have le_g9 := Nat.le_trans hHeld.below.size hle9
              have hS9 := Kept.moved hHeld hG9 (fun _ h => by cases h)
              have ne_g8_g9 : g8 ≠ g9 := by have := hlt8; have := hle9; omega
              have va_9 := Arr.moved va_8 hG9 hlt8 (by simp)
              have lt_va_9 := Nat.lt_of_lt_of_le hlt8 hG9.size
              clear va_8 hlt8
              refine hK.out _ _ hS9 (fun hHeld => ?_)
              clear hK K
              try simp only [c7b9, Act.put, List.setIfInBounds_toArray, List.set_cons_zero, List.set_cons_succ]
              refine wpAnyH_ready (rs := [7]) (by kernel_rfl) (by simp) ?_
              refine AllReadyH.cons (o := c7b7) rfl (fun K hK => ?_) AllReadyH.nil
              rw [if_pos (by rfl)]
              unfold c7b7
              go_simp
              (with_reducible refine (HTB.out _ hHeld).mono ?_)
              rintro e W7 ⟨rfl, hB7⟩
              have hG7 := gbelow (row := none) hB7
              have hS7 := Kept.moved hHeld hG7 (fun _ h => by cases h)
              have va_7 := Arr.moved va_9 hG7 lt_va_9 (by simp)
              have lt_va_7 := Nat.lt_of_lt_of_le lt_va_9 hG7.size
              clear va_9 lt_va_9
              have vb_7 := Arr.moved vb_9 hG7 hlt9 (by simp)
              have lt_vb_7 := Nat.lt_of_lt_of_le hlt9 hG7.size
              clear vb_9 hlt9
              go_wp2_with fail
              refine hK.out _ _ hS7 (fun hHeld => ?_)
              clear hK K
              try simp only [c7b7, Act.put, List.setIfInBounds_toArray, List.set_cons_zero, List.set_cons_succ]
              refine wpAnyH_ready (rs := [10]) (by kernel_rfl) (by simp) ?_
              refine AllReadyH.cons (o := c7b10) rfl (fun K hK => ?_) AllReadyH.nil
              rw [if_pos (by rfl)]
              refine wp_st26 (.tmp 5) (.tmp 38) (by rfl) g8 ca _ (by rfl) (by rfl) va_7 (by rw [HLA.out]; rfl) HZA.out HOA.out ?_
              intro W10 hG10 va_10
              have hS10 := Kept.moved hHeld hG10 (fun k hk => by cases hk; exact le_g8)
              have vb_10 := Arr.moved vb_7 hG10 lt_vb_7 (by simpa using (Ne.symm ne_g8_g9))
              have lt_vb_10 := Nat.lt_of_lt_of_le lt_vb_7 hG10.size
              have lt_va_10 := Nat.lt_of_lt_of_le lt_va_7 hG10.size
              clear va_7
              clear vb_7
              refine hK.out _ _ hS10 (fun hHeld => ?_)
              clear hK K
              try simp only [c7b10, Act.put]
              refine wpAnyH_ready (rs := [11]) (by kernel_rfl) (by simp) ?_
              refine AllReadyH.cons (o := c7b11) rfl (fun K hK => ?_) AllReadyH.nil
              rw [if_pos (by rfl)]
              refine wp_st26 (.tmp 6) (.tmp 42) (by rfl) g9 cb _ (by rfl) (by rfl) vb_10 (by rw [HLB.out]; rfl) HZB.out HOB.out ?_
              intro W11 hG11 vb_11
              have hS11 := Kept.moved hHeld hG11 (fun k hk => by cases hk; exact le_g9)
              have va_11 := Arr.moved va_10 hG11 lt_va_10 (by simpa using ne_g8_g9)
              have lt_va_11 := Nat.lt_of_lt_of_le lt_va_10 hG11.size
              have lt_vb_11 := Nat.lt_of_lt_of_le lt_vb_10 hG11.size
              clear va_10
              clear vb_10
              refine hK.out _ _ hS11 (fun hHeld => ?_)
              clear hK K
              try simp only [c7b11, Act.put]
              refine wpAnyH_done (by kernel_rfl) ?_ _
              go_wp2_with fail
              go_meet
              exact ⟨_, _, rfl, rfl, hHeld, va_11, vb_11, lt_va_11, lt_vb_11⟩
          · skip
            rw [if_pos (by rfl)]
            refine wp_alloc26 (by rfl) ?_
            intro g9 W9 hle9 hlt9 hG9 vb_9
            have le_g9 := Nat.le_trans hHeld.below.size hle9
            have hS9 := Kept.moved hHeld hG9 (fun _ h => by cases h)
            refine hK.out _ _ hS9 (fun hHeld => ?_)
            clear hK K
            try simp only [c7b9, Act.put, List.setIfInBounds_toArray, List.set_cons_zero, List.set_cons_succ]
            refine wpAnyH_ready (rs := [7, 8]) (by kernel_rfl) (by simp) ?_
            refine AllReadyH.cons (o := c7b7) rfl (fun K hK => ?_) (AllReadyH.cons (o := c7b8) rfl (fun K hK => ?_) AllReadyH.nil)
            · skip
              rw [if_pos (by rfl)]
              unfold c7b7
              go_simp
              (with_reducible refine (HTB.out _ hHeld).mono ?_)
              rintro e W7 ⟨rfl, hB7⟩
              have hG7 := gbelow (row := none) hB7
              have hS7 := Kept.moved hHeld hG7 (fun _ h => by cases h)
              have vb_7 := Arr.moved vb_9 hG7 hlt9 (by simp)
              have lt_vb_7 := Nat.lt_of_lt_of_le hlt9 hG7.size
              clear vb_9 hlt9
              go_wp2_with fail
              refine hK.out _ _ hS7 (fun hHeld => ?_)
              clear hK K
              try simp only [c7b7, Act.put, List.setIfInBounds_toArray, List.set_cons_zero, List.set_cons_succ]
              refine wpAnyH_ready (rs := [8]) (by kernel_rfl) (by simp) ?_
              refine AllReadyH.cons (o := c7b8) rfl (fun K hK => ?_) AllReadyH.nil
              rw [if_pos (by rfl)]
              refine wp_alloc26 (by rfl) ?_
              intro g8 W8 hle8 hlt8 hG8 va_8
              have le_g8 := Nat.le_trans hHeld.below.size hle8
              have hS8 := Kept.moved hHeld hG8 (fun _ h => by cases h)
              have ne_g9_g8 : g9 ≠ g8 := by have := lt_vb_7; have := hle8; omega
              have vb_8 := Arr.moved vb_7 hG8 lt_vb_7 (by simp)
              have lt_vb_8 := Nat.lt_of_lt_of_le lt_vb_7 hG8.size
              clear vb_7 lt_vb_7
              refine hK.out _ _ hS8 (fun hHeld => ?_)
              clear hK K
              try simp only [c7b8, Act.put, List.setIfInBounds_toArray, List.set_cons_zero, List.set_cons_succ]
              refine wpAnyH_ready (rs := [10]) (by kernel_rfl) (by simp) ?_
              refine AllReadyH.cons (o := c7b10) rfl (fun K hK => ?_) AllReadyH.nil
              rw [if_pos (by rfl)]
              refine wp_st26 (.tmp 5) (.tmp 38) (by rfl) g8 ca _ (by rfl) (by rfl) va_8 (by rw [HLA.out]; rfl) HZA.out HOA.out ?_
              intro W10 hG10 va_10
              have hS10 := Kept.moved hHeld hG10 (fun k hk => by cases hk; exact le_g8)
              have vb_10 := Arr.moved vb_8 hG10 lt_vb_8 (by simpa using ne_g9_g8)
              have lt_vb_10 := Nat.lt_of_lt_of_le lt_vb_8 hG10.size
              have lt_va_10 := Nat.lt_of_lt_of_le hlt8 hG10.size
              clear vb_8
              clear va_8
              refine hK.out _ _ hS10 (fun hHeld => ?_)
              clear hK K
              try simp only [c7b10, Act.put]
              refine wpAnyH_ready (rs := [11]) (by kernel_rfl) (by simp) ?_
              refine AllReadyH.cons (o := c7b11) rfl (fun K hK => ?_) AllReadyH.nil
              rw [if_pos (by rfl)]
              refine wp_st26 (.tmp 6) (.tmp 42) (by rfl) g9 cb _ (by rfl) (by rfl) vb_10 (by rw [HLB.out]; rfl) HZB.out HOB.out ?_
              intro W11 hG11 vb_11
              have hS11 := Kept.moved hHeld hG11 (fun k hk => by cases hk; exact le_g9)
              have va_11 := Arr.moved va_10 hG11 lt_va_10 (by simpa using (Ne.symm ne_g9_g8))
              have lt_va_11 := Nat.lt_of_lt_of_le lt_va_10 hG11.size
              have lt_vb_11 := Nat.lt_of_lt_of_le lt_vb_10 hG11.size
              clear vb_10
              clear va_10
              refine hK.out _ _ hS11 (fun hHeld => ?_)
              clear hK K
              try simp only [c7b11, Act.put]
              refine wpAnyH_done (by kernel_rfl) ?_ _
              go_wp2_with fail
              go_meet
              exact ⟨_, _, rfl, rfl, hHeld, va_11, vb_11, lt_va_11, lt_vb_11⟩
            · skip
              rw [if_pos (by rfl)]
              refine wp_alloc26 (by rfl) ?_
              intro g8 W8 hle8 hlt8 hG8 va_8
              have le_g8 := Nat.le_trans hHeld.below.size hle8
              have hS8 := Kept.moved hHeld hG8 (fun _ h => by cases h)
              have ne_g9_g8 : g9 ≠ g8 := by have := hlt9; have := hle8; omega
              have vb_8 := Arr.moved vb_9 hG8 hlt9 (by simp)
              have lt_vb_8 := Nat.lt_of_lt_of_le hlt9 hG8.size
              clear vb_9 hlt9
              refine hK.out _ _ hS8 (fun hHeld => ?_)
              clear hK K
              try simp only [c7b8, Act.put, List.setIfInBounds_toArray, List.set_cons_zero, List.set_cons_succ]
              refine wpAnyH_ready (rs := [7]) (by kernel_rfl) (by simp) ?_
              refine AllReadyH.cons (o := c7b7) rfl (fun K hK => ?_) AllReadyH.nil
              rw [if_pos (by rfl)]
              unfold c7b7
              go_simp
              (with_reducible refine (HTB.out _ hHeld).mono ?_)
              rintro e W7 ⟨rfl, hB7⟩
              have hG7 := gbelow (row := none) hB7
              have hS7 := Kept.moved hHeld hG7 (fun _ h => by cases h)
              have vb_7 := Arr.moved vb_8 hG7 lt_vb_8 (by simp)
              have lt_vb_7 := Nat.lt_of_lt_of_le lt_vb_8 hG7.size
              clear vb_8 lt_vb_8
              have va_7 := Arr.moved va_8 hG7 hlt8 (by simp)
              have lt_va_7 := Nat.lt_of_lt_of_le hlt8 hG7.size
              clear va_8 hlt8
              go_wp2_with fail
              refine hK.out _ _ hS7 (fun hHeld => ?_)
              clear hK K
              try simp only [c7b7, Act.put, List.setIfInBounds_toArray, List.set_cons_zero, List.set_cons_succ]
              refine wpAnyH_ready (rs := [10]) (by kernel_rfl) (by simp) ?_
              refine AllReadyH.cons (o := c7b10) rfl (fun K hK => ?_) AllReadyH.nil
              rw [if_pos (by rfl)]
              refine wp_st26 (.tmp 5) (.tmp 38) (by rfl) g8 ca _ (by rfl) (by rfl) va_7 (by rw [HLA.out]; rfl) HZA.out HOA.out ?_
              intro W10 hG10 va_10
              have hS10 := Kept.moved hHeld hG10 (fun k hk => by cases hk; exact le_g8)
              have vb_10 := Arr.moved vb_7 hG10 lt_vb_7 (by simpa using ne_g9_g8)
              have lt_vb_10 := Nat.lt_of_lt_of_le lt_vb_7 hG10.size
              have lt_va_10 := Nat.lt_of_lt_of_le lt_va_7 hG10.size
              clear vb_7
              clear va_7
              refine hK.out _ _ hS10 (fun hHeld => ?_)
              clear hK K
              try simp only [c7b10, Act.put]
              refine wpAnyH_ready (rs := [11]) (by kernel_rfl) (by simp) ?_
              refine AllReadyH.cons (o := c7b11) rfl (fun K hK => ?_) AllReadyH.nil
              rw [if_pos (by rfl)]
              refine wp_st26 (.tmp 6) (.tmp 42) (by rfl) g9 cb _ (by rfl) (by rfl) vb_10 (by rw [HLB.out]; rfl) HZB.out HOB.out ?_
              intro W11 hG11 vb_11
              have hS11 := Kept.moved hHeld hG11 (fun k hk => by cases hk; exact le_g9)
              have va_11 := Arr.moved va_10 hG11 lt_va_10 (by simpa using (Ne.symm ne_g9_g8))
              have lt_va_11 := Nat.lt_of_lt_of_le lt_va_10 hG11.size
              have lt_vb_11 := Nat.lt_of_lt_of_le lt_vb_10 hG11.size
              clear vb_10
              clear va_10
              refine hK.out _ _ hS11 (fun hHeld => ?_)
              clear hK K
              try simp only [c7b11, Act.put]
              refine wpAnyH_done (by kernel_rfl) ?_ _
              go_wp2_with fail
              go_meet
              exact ⟨_, _, rfl, rfl, hHeld, va_11, vb_11, lt_va_11, lt_vb_11⟩
        · skip
          rw [if_pos (by rfl)]
          refine wp_alloc26 (by rfl) ?_
          intro g8 W8 hle8 hlt8 hG8 va_8
          have le_g8 := Nat.le_trans hHeld.below.size hle8
          have hS8 := Kept.moved hHeld hG8 (fun _ h => by cases h)
          refine hK.out _ _ hS8 (fun hHeld => ?_)
          clear hK K
          try simp only [c7b8, Act.put, List.setIfInBounds_toArray, List.set_cons_zero, List.set_cons_succ]
          refine wpAnyH_ready (rs := [3, 9]) (by kernel_rfl) (by simp) ?_
          refine AllReadyH.cons (o := c7b3) rfl (fun K hK => ?_) (AllReadyH.cons (o := c7b9) rfl (fun K hK => ?_) AllReadyH.nil)
          · skip
            rw [if_pos (by rfl)]
            unfold c7b3
            go_simp
            (with_reducible refine (HTA.out _ hHeld).mono ?_)
            rintro e W3 ⟨rfl, hB3⟩
            have hG3 := gbelow (row := none) hB3
            have hS3 := Kept.moved hHeld hG3 (fun _ h => by cases h)
            have va_3 := Arr.moved va_8 hG3 hlt8 (by simp)
            have lt_va_3 := Nat.lt_of_lt_of_le hlt8 hG3.size
            clear va_8 hlt8
            go_wp2_with fail
            refine hK.out _ _ hS3 (fun hHeld => ?_)
            clear hK K
            try simp only [c7b3, Act.put, List.setIfInBounds_toArray, List.set_cons_zero, List.set_cons_succ]
            refine wpAnyH_ready (rs := [7, 9]) (by kernel_rfl) (by simp) ?_
            refine AllReadyH.cons (o := c7b7) rfl (fun K hK => ?_) (AllReadyH.cons (o := c7b9) rfl (fun K hK => ?_) AllReadyH.nil)
            · skip
              rw [if_pos (by rfl)]
              unfold c7b7
              go_simp
              (with_reducible refine (HTB.out _ hHeld).mono ?_)
              rintro e W7 ⟨rfl, hB7⟩
              have hG7 := gbelow (row := none) hB7
              have hS7 := Kept.moved hHeld hG7 (fun _ h => by cases h)
              have va_7 := Arr.moved va_3 hG7 lt_va_3 (by simp)
              have lt_va_7 := Nat.lt_of_lt_of_le lt_va_3 hG7.size
              clear va_3 lt_va_3
              go_wp2_with fail
              refine hK.out _ _ hS7 (fun hHeld => ?_)
              clear hK K
              try simp only [c7b7, Act.put, List.setIfInBounds_toArray, List.set_cons_zero, List.set_cons_succ]
              refine wpAnyH_ready (rs := [9]) (by kernel_rfl) (by simp) ?_
              refine AllReadyH.cons (o := c7b9) rfl (fun K hK => ?_) AllReadyH.nil
              rw [if_pos (by rfl)]
              refine wp_alloc26 (by rfl) ?_
              intro g9 W9 hle9 hlt9 hG9 vb_9
              have le_g9 := Nat.le_trans hHeld.below.size hle9
              have hS9 := Kept.moved hHeld hG9 (fun _ h => by cases h)
              have ne_g8_g9 : g8 ≠ g9 := by have := lt_va_7; have := hle9; omega
              have va_9 := Arr.moved va_7 hG9 lt_va_7 (by simp)
              have lt_va_9 := Nat.lt_of_lt_of_le lt_va_7 hG9.size
              clear va_7 lt_va_7
              refine hK.out _ _ hS9 (fun hHeld => ?_)
              clear hK K
              try simp only [c7b9, Act.put, List.setIfInBounds_toArray, List.set_cons_zero, List.set_cons_succ]
              refine wpAnyH_ready (rs := [10]) (by kernel_rfl) (by simp) ?_
              refine AllReadyH.cons (o := c7b10) rfl (fun K hK => ?_) AllReadyH.nil
              rw [if_pos (by rfl)]
              refine wp_st26 (.tmp 5) (.tmp 38) (by rfl) g8 ca _ (by rfl) (by rfl) va_9 (by rw [HLA.out]; rfl) HZA.out HOA.out ?_
              intro W10 hG10 va_10
              have hS10 := Kept.moved hHeld hG10 (fun k hk => by cases hk; exact le_g8)
              have vb_10 := Arr.moved vb_9 hG10 hlt9 (by simpa using (Ne.symm ne_g8_g9))
              have lt_vb_10 := Nat.lt_of_lt_of_le hlt9 hG10.size
              have lt_va_10 := Nat.lt_of_lt_of_le lt_va_9 hG10.size
              clear va_9
              clear vb_9
              refine hK.out _ _ hS10 (fun hHeld => ?_)
              clear hK K
              try simp only [c7b10, Act.put]
              refine wpAnyH_ready (rs := [11]) (by kernel_rfl) (by simp) ?_
              refine AllReadyH.cons (o := c7b11) rfl (fun K hK => ?_) AllReadyH.nil
              rw [if_pos (by rfl)]
              refine wp_st26 (.tmp 6) (.tmp 42) (by rfl) g9 cb _ (by rfl) (by rfl) vb_10 (by rw [HLB.out]; rfl) HZB.out HOB.out ?_
              intro W11 hG11 vb_11
              have hS11 := Kept.moved hHeld hG11 (fun k hk => by cases hk; exact le_g9)
              have va_11 := Arr.moved va_10 hG11 lt_va_10 (by simpa using ne_g8_g9)
              have lt_va_11 := Nat.lt_of_lt_of_le lt_va_10 hG11.size
              have lt_vb_11 := Nat.lt_of_lt_of_le lt_vb_10 hG11.size
              clear va_10
              clear vb_10
              refine hK.out _ _ hS11 (fun hHeld => ?_)
              clear hK K
              try simp only [c7b11, Act.put]
              refine wpAnyH_done (by kernel_rfl) ?_ _
              go_wp2_with fail
              go_meet
              exact ⟨_, _, rfl, rfl, hHeld, va_11, vb_11, lt_va_11, lt_vb_11⟩
            · skip
              rw [if_pos (by rfl)]
              refine wp_alloc26 (by rfl) ?_
              intro g9 W9 hle9 hlt9 hG9 vb_9
              have le_g9 := Nat.le_trans hHeld.below.size hle9
              have hS9 := Kept.moved hHeld hG9 (fun _ h => by cases h)
              have ne_g8_g9 : g8 ≠ g9 := by have := lt_va_3; have := hle9; omega
              have va_9 := Arr.moved va_3 hG9 lt_va_3 (by simp)
              have lt_va_9 := Nat.lt_of_lt_of_le lt_va_3 hG9.size
              clear va_3 lt_va_3
              refine hK.out _ _ hS9 (fun hHeld => ?_)
              clear hK K
              try simp only [c7b9, Act.put, List.setIfInBounds_toArray, List.set_cons_zero, List.set_cons_succ]
              refine wpAnyH_ready (rs := [7]) (by kernel_rfl) (by simp) ?_
              refine AllReadyH.cons (o := c7b7) rfl (fun K hK => ?_) AllReadyH.nil
              rw [if_pos (by rfl)]
              unfold c7b7
              go_simp
              (with_reducible refine (HTB.out _ hHeld).mono ?_)
              rintro e W7 ⟨rfl, hB7⟩
              have hG7 := gbelow (row := none) hB7
              have hS7 := Kept.moved hHeld hG7 (fun _ h => by cases h)
              have va_7 := Arr.moved va_9 hG7 lt_va_9 (by simp)
              have lt_va_7 := Nat.lt_of_lt_of_le lt_va_9 hG7.size
              clear va_9 lt_va_9
              have vb_7 := Arr.moved vb_9 hG7 hlt9 (by simp)
              have lt_vb_7 := Nat.lt_of_lt_of_le hlt9 hG7.size
              clear vb_9 hlt9
              go_wp2_with fail
              refine hK.out _ _ hS7 (fun hHeld => ?_)
              clear hK K
              try simp only [c7b7, Act.put, List.setIfInBounds_toArray, List.set_cons_zero, List.set_cons_succ]
              refine wpAnyH_ready (rs := [10]) (by kernel_rfl) (by simp) ?_
              refine AllReadyH.cons (o := c7b10) rfl (fun K hK => ?_) AllReadyH.nil
              rw [if_pos (by rfl)]
              refine wp_st26 (.tmp 5) (.tmp 38) (by rfl) g8 ca _ (by rfl) (by rfl) va_7 (by rw [HLA.out]; rfl) HZA.out HOA.out ?_
              intro W10 hG10 va_10
              have hS10 := Kept.moved hHeld hG10 (fun k hk => by cases hk; exact le_g8)
              have vb_10 := Arr.moved vb_7 hG10 lt_vb_7 (by simpa using (Ne.symm ne_g8_g9))
              have lt_vb_10 := Nat.lt_of_lt_of_le lt_vb_7 hG10.size
              have lt_va_10 := Nat.lt_of_lt_of_le lt_va_7 hG10.size
              clear va_7
              clear vb_7
              refine hK.out _ _ hS10 (fun hHeld => ?_)
              clear hK K
              try simp only [c7b10, Act.put]
              refine wpAnyH_ready (rs := [11]) (by kernel_rfl) (by simp) ?_
              refine AllReadyH.cons (o := c7b11) rfl (fun K hK => ?_) AllReadyH.nil
              rw [if_pos (by rfl)]
              refine wp_st26 (.tmp 6) (.tmp 42) (by rfl) g9 cb _ (by rfl) (by rfl) vb_10 (by rw [HLB.out]; rfl) HZB.out HOB.out ?_
              intro W11 hG11 vb_11
              have hS11 := Kept.moved hHeld hG11 (fun k hk => by cases hk; exact le_g9)
              have va_11 := Arr.moved va_10 hG11 lt_va_10 (by simpa using ne_g8_g9)
              have lt_va_11 := Nat.lt_of_lt_of_le lt_va_10 hG11.size
              have lt_vb_11 := Nat.lt_of_lt_of_le lt_vb_10 hG11.size
              clear va_10
              clear vb_10
              refine hK.out _ _ hS11 (fun hHeld => ?_)
              clear hK K
              try simp only [c7b11, Act.put]
              refine wpAnyH_done (by kernel_rfl) ?_ _
              go_wp2_with fail
              go_meet
              exact ⟨_, _, rfl, rfl, hHeld, va_11, vb_11, lt_va_11, lt_vb_11⟩
          · skip
            rw [if_pos (by rfl)]
            refine wp_alloc26 (by rfl) ?_
            intro g9 W9 hle9 hlt9 hG9 vb_9
            have le_g9 := Nat.le_trans hHeld.below.size hle9
            have hS9 := Kept.moved hHeld hG9 (fun _ h => by cases h)
            have ne_g8_g9 : g8 ≠ g9 := by have := hlt8; have := hle9; omega
            have va_9 := Arr.moved va_8 hG9 hlt8 (by simp)
            have lt_va_9 := Nat.lt_of_lt_of_le hlt8 hG9.size
            clear va_8 hlt8
            refine hK.out _ _ hS9 (fun hHeld => ?_)
            clear hK K
            try simp only [c7b9, Act.put, List.setIfInBounds_toArray, List.set_cons_zero, List.set_cons_succ]
            refine wpAnyH_ready (rs := [3]) (by kernel_rfl) (by simp) ?_
            refine AllReadyH.cons (o := c7b3) rfl (fun K hK => ?_) AllReadyH.nil
            rw [if_pos (by rfl)]
            unfold c7b3
            go_simp
            (with_reducible refine (HTA.out _ hHeld).mono ?_)
            rintro e W3 ⟨rfl, hB3⟩
            have hG3 := gbelow (row := none) hB3
            have hS3 := Kept.moved hHeld hG3 (fun _ h => by cases h)
            have va_3 := Arr.moved va_9 hG3 lt_va_9 (by simp)
            have lt_va_3 := Nat.lt_of_lt_of_le lt_va_9 hG3.size
            clear va_9 lt_va_9
            have vb_3 := Arr.moved vb_9 hG3 hlt9 (by simp)
            have lt_vb_3 := Nat.lt_of_lt_of_le hlt9 hG3.size
            clear vb_9 hlt9
            go_wp2_with fail
            refine hK.out _ _ hS3 (fun hHeld => ?_)
            clear hK K
            try simp only [c7b3, Act.put, List.setIfInBounds_toArray, List.set_cons_zero, List.set_cons_succ]
            refine wpAnyH_ready (rs := [7]) (by kernel_rfl) (by simp) ?_
            refine AllReadyH.cons (o := c7b7) rfl (fun K hK => ?_) AllReadyH.nil
            rw [if_pos (by rfl)]
            unfold c7b7
            go_simp
            (with_reducible refine (HTB.out _ hHeld).mono ?_)
            rintro e W7 ⟨rfl, hB7⟩
            have hG7 := gbelow (row := none) hB7
            have hS7 := Kept.moved hHeld hG7 (fun _ h => by cases h)
            have va_7 := Arr.moved va_3 hG7 lt_va_3 (by simp)
            have lt_va_7 := Nat.lt_of_lt_of_le lt_va_3 hG7.size
            clear va_3 lt_va_3
            have vb_7 := Arr.moved vb_3 hG7 lt_vb_3 (by simp)
            have lt_vb_7 := Nat.lt_of_lt_of_le lt_vb_3 hG7.size
            clear vb_3 lt_vb_3
            go_wp2_with fail
            refine hK.out _ _ hS7 (fun hHeld => ?_)
            clear hK K
            try simp only [c7b7, Act.put, List.setIfInBounds_toArray, List.set_cons_zero, List.set_cons_succ]
            refine wpAnyH_ready (rs := [10]) (by kernel_rfl) (by simp) ?_
            refine AllReadyH.cons (o := c7b10) rfl (fun K hK => ?_) AllReadyH.nil
            rw [if_pos (by rfl)]
            refine wp_st26 (.tmp 5) (.tmp 38) (by rfl) g8 ca _ (by rfl) (by rfl) va_7 (by rw [HLA.out]; rfl) HZA.out HOA.out ?_
            intro W10 hG10 va_10
            have hS10 := Kept.moved hHeld hG10 (fun k hk => by cases hk; exact le_g8)
            have vb_10 := Arr.moved vb_7 hG10 lt_vb_7 (by simpa using (Ne.symm ne_g8_g9))
            have lt_vb_10 := Nat.lt_of_lt_of_le lt_vb_7 hG10.size
            have lt_va_10 := Nat.lt_of_lt_of_le lt_va_7 hG10.size
            clear va_7
            clear vb_7
            refine hK.out _ _ hS10 (fun hHeld => ?_)
            clear hK K
            try simp only [c7b10, Act.put]
            refine wpAnyH_ready (rs := [11]) (by kernel_rfl) (by simp) ?_
            refine AllReadyH.cons (o := c7b11) rfl (fun K hK => ?_) AllReadyH.nil
            rw [if_pos (by rfl)]
            refine wp_st26 (.tmp 6) (.tmp 42) (by rfl) g9 cb _ (by rfl) (by rfl) vb_10 (by rw [HLB.out]; rfl) HZB.out HOB.out ?_
            intro W11 hG11 vb_11
            have hS11 := Kept.moved hHeld hG11 (fun k hk => by cases hk; exact le_g9)
            have va_11 := Arr.moved va_10 hG11 lt_va_10 (by simpa using ne_g8_g9)
            have lt_va_11 := Nat.lt_of_lt_of_le lt_va_10 hG11.size
            have lt_vb_11 := Nat.lt_of_lt_of_le lt_vb_10 hG11.size
            clear va_10
            clear vb_10
            refine hK.out _ _ hS11 (fun hHeld => ?_)
            clear hK K
            try simp only [c7b11, Act.put]
            refine wpAnyH_done (by kernel_rfl) ?_ _
            go_wp2_with fail
            go_meet
            exact ⟨_, _, rfl, rfl, hHeld, va_11, vb_11, lt_va_11, lt_vb_11⟩
        · skip
          rw [if_pos (by rfl)]
          refine wp_alloc26 (by rfl) ?_
          intro g9 W9 hle9 hlt9 hG9 vb_9
          have le_g9 := Nat.le_trans hHeld.below.size hle9
          have hS9 := Kept.moved hHeld hG9 (fun _ h => by cases h)
          refine hK.out _ _ hS9 (fun hHeld => ?_)
          clear hK K
          try simp only [c7b9, Act.put, List.setIfInBounds_toArray, List.set_cons_zero, List.set_cons_succ]
          refine wpAnyH_ready (rs := [3, 8]) (by kernel_rfl) (by simp) ?_
          refine AllReadyH.cons (o := c7b3) rfl (fun K hK => ?_) (AllReadyH.cons (o := c7b8) rfl (fun K hK => ?_) AllReadyH.nil)
          · skip
            rw [if_pos (by rfl)]
            unfold c7b3
            go_simp
            (with_reducible refine (HTA.out _ hHeld).mono ?_)
            rintro e W3 ⟨rfl, hB3⟩
            have hG3 := gbelow (row := none) hB3
            have hS3 := Kept.moved hHeld hG3 (fun _ h => by cases h)
            have vb_3 := Arr.moved vb_9 hG3 hlt9 (by simp)
            have lt_vb_3 := Nat.lt_of_lt_of_le hlt9 hG3.size
            clear vb_9 hlt9
            go_wp2_with fail
            refine hK.out _ _ hS3 (fun hHeld => ?_)
            clear hK K
            try simp only [c7b3, Act.put, List.setIfInBounds_toArray, List.set_cons_zero, List.set_cons_succ]
            refine wpAnyH_ready (rs := [7, 8]) (by kernel_rfl) (by simp) ?_
            refine AllReadyH.cons (o := c7b7) rfl (fun K hK => ?_) (AllReadyH.cons (o := c7b8) rfl (fun K hK => ?_) AllReadyH.nil)
            · skip
              rw [if_pos (by rfl)]
              unfold c7b7
              go_simp
              (with_reducible refine (HTB.out _ hHeld).mono ?_)
              rintro e W7 ⟨rfl, hB7⟩
              have hG7 := gbelow (row := none) hB7
              have hS7 := Kept.moved hHeld hG7 (fun _ h => by cases h)
              have vb_7 := Arr.moved vb_3 hG7 lt_vb_3 (by simp)
              have lt_vb_7 := Nat.lt_of_lt_of_le lt_vb_3 hG7.size
              clear vb_3 lt_vb_3
              go_wp2_with fail
              refine hK.out _ _ hS7 (fun hHeld => ?_)
              clear hK K
              try simp only [c7b7, Act.put, List.setIfInBounds_toArray, List.set_cons_zero, List.set_cons_succ]
              refine wpAnyH_ready (rs := [8]) (by kernel_rfl) (by simp) ?_
              refine AllReadyH.cons (o := c7b8) rfl (fun K hK => ?_) AllReadyH.nil
              rw [if_pos (by rfl)]
              refine wp_alloc26 (by rfl) ?_
              intro g8 W8 hle8 hlt8 hG8 va_8
              have le_g8 := Nat.le_trans hHeld.below.size hle8
              have hS8 := Kept.moved hHeld hG8 (fun _ h => by cases h)
              have ne_g9_g8 : g9 ≠ g8 := by have := lt_vb_7; have := hle8; omega
              have vb_8 := Arr.moved vb_7 hG8 lt_vb_7 (by simp)
              have lt_vb_8 := Nat.lt_of_lt_of_le lt_vb_7 hG8.size
              clear vb_7 lt_vb_7
              refine hK.out _ _ hS8 (fun hHeld => ?_)
              clear hK K
              try simp only [c7b8, Act.put, List.setIfInBounds_toArray, List.set_cons_zero, List.set_cons_succ]
              refine wpAnyH_ready (rs := [10]) (by kernel_rfl) (by simp) ?_
              refine AllReadyH.cons (o := c7b10) rfl (fun K hK => ?_) AllReadyH.nil
              rw [if_pos (by rfl)]
              refine wp_st26 (.tmp 5) (.tmp 38) (by rfl) g8 ca _ (by rfl) (by rfl) va_8 (by rw [HLA.out]; rfl) HZA.out HOA.out ?_
              intro W10 hG10 va_10
              have hS10 := Kept.moved hHeld hG10 (fun k hk => by cases hk; exact le_g8)
              have vb_10 := Arr.moved vb_8 hG10 lt_vb_8 (by simpa using ne_g9_g8)
              have lt_vb_10 := Nat.lt_of_lt_of_le lt_vb_8 hG10.size
              have lt_va_10 := Nat.lt_of_lt_of_le hlt8 hG10.size
              clear vb_8
              clear va_8
              refine hK.out _ _ hS10 (fun hHeld => ?_)
              clear hK K
              try simp only [c7b10, Act.put]
              refine wpAnyH_ready (rs := [11]) (by kernel_rfl) (by simp) ?_
              refine AllReadyH.cons (o := c7b11) rfl (fun K hK => ?_) AllReadyH.nil
              rw [if_pos (by rfl)]
              refine wp_st26 (.tmp 6) (.tmp 42) (by rfl) g9 cb _ (by rfl) (by rfl) vb_10 (by rw [HLB.out]; rfl) HZB.out HOB.out ?_
              intro W11 hG11 vb_11
              have hS11 := Kept.moved hHeld hG11 (fun k hk => by cases hk; exact le_g9)
              have va_11 := Arr.moved va_10 hG11 lt_va_10 (by simpa using (Ne.symm ne_g9_g8))
              have lt_va_11 := Nat.lt_of_lt_of_le lt_va_10 hG11.size
              have lt_vb_11 := Nat.lt_of_lt_of_le lt_vb_10 hG11.size
              clear vb_10
              clear va_10
              refine hK.out _ _ hS11 (fun hHeld => ?_)
              clear hK K
              try simp only [c7b11, Act.put]
              refine wpAnyH_done (by kernel_rfl) ?_ _
              go_wp2_with fail
              go_meet
              exact ⟨_, _, rfl, rfl, hHeld, va_11, vb_11, lt_va_11, lt_vb_11⟩
            · skip
              rw [if_pos (by rfl)]
              refine wp_alloc26 (by rfl) ?_
              intro g8 W8 hle8 hlt8 hG8 va_8
              have le_g8 := Nat.le_trans hHeld.below.size hle8
              have hS8 := Kept.moved hHeld hG8 (fun _ h => by cases h)
              have ne_g9_g8 : g9 ≠ g8 := by have := lt_vb_3; have := hle8; omega
              have vb_8 := Arr.moved vb_3 hG8 lt_vb_3 (by simp)
              have lt_vb_8 := Nat.lt_of_lt_of_le lt_vb_3 hG8.size
              clear vb_3 lt_vb_3
              refine hK.out _ _ hS8 (fun hHeld => ?_)
              clear hK K
              try simp only [c7b8, Act.put, List.setIfInBounds_toArray, List.set_cons_zero, List.set_cons_succ]
              refine wpAnyH_ready (rs := [7]) (by kernel_rfl) (by simp) ?_
              refine AllReadyH.cons (o := c7b7) rfl (fun K hK => ?_) AllReadyH.nil
              rw [if_pos (by rfl)]
              unfold c7b7
              go_simp
              (with_reducible refine (HTB.out _ hHeld).mono ?_)
              rintro e W7 ⟨rfl, hB7⟩
              have hG7 := gbelow (row := none) hB7
              have hS7 := Kept.moved hHeld hG7 (fun _ h => by cases h)
              have vb_7 := Arr.moved vb_8 hG7 lt_vb_8 (by simp)
              have lt_vb_7 := Nat.lt_of_lt_of_le lt_vb_8 hG7.size
              clear vb_8 lt_vb_8
              have va_7 := Arr.moved va_8 hG7 hlt8 (by simp)
              have lt_va_7 := Nat.lt_of_lt_of_le hlt8 hG7.size
              clear va_8 hlt8
              go_wp2_with fail
              refine hK.out _ _ hS7 (fun hHeld => ?_)
              clear hK K
              try simp only [c7b7, Act.put, List.setIfInBounds_toArray, List.set_cons_zero, List.set_cons_succ]
              refine wpAnyH_ready (rs := [10]) (by kernel_rfl) (by simp) ?_
              refine AllReadyH.cons (o := c7b10) rfl (fun K hK => ?_) AllReadyH.nil
              rw [if_pos (by rfl)]
              refine wp_st26 (.tmp 5) (.tmp 38) (by rfl) g8 ca _ (by rfl) (by rfl) va_7 (by rw [HLA.out]; rfl) HZA.out HOA.out ?_
              intro W10 hG10 va_10
              have hS10 := Kept.moved hHeld hG10 (fun k hk => by cases hk; exact le_g8)
              have vb_10 := Arr.moved vb_7 hG10 lt_vb_7 (by simpa using ne_g9_g8)
              have lt_vb_10 := Nat.lt_of_lt_of_le lt_vb_7 hG10.size
              have lt_va_10 := Nat.lt_of_lt_of_le lt_va_7 hG10.size
              clear vb_7
              clear va_7
              refine hK.out _ _ hS10 (fun hHeld => ?_)
              clear hK K
              try simp only [c7b10, Act.put]
              refine wpAnyH_ready (rs := [11]) (by kernel_rfl) (by simp) ?_
              refine AllReadyH.cons (o := c7b11) rfl (fun K hK => ?_) AllReadyH.nil
              rw [if_pos (by rfl)]
              refine wp_st26 (.tmp 6) (.tmp 42) (by rfl) g9 cb _ (by rfl) (by rfl) vb_10 (by rw [HLB.out]; rfl) HZB.out HOB.out ?_
              intro W11 hG11 vb_11
              have hS11 := Kept.moved hHeld hG11 (fun k hk => by cases hk; exact le_g9)
              have va_11 := Arr.moved va_10 hG11 lt_va_10 (by simpa using (Ne.symm ne_g9_g8))
              have lt_va_11 := Nat.lt_of_lt_of_le lt_va_10 hG11.size
              have lt_vb_11 := Nat.lt_of_lt_of_le lt_vb_10 hG11.size
              clear vb_10
              clear va_10
              refine hK.out _ _ hS11 (fun hHeld => ?_)
              clear hK K
              try simp only [c7b11, Act.put]
              refine wpAnyH_done (by kernel_rfl) ?_ _
              go_wp2_with fail
              go_meet
              exact ⟨_, _, rfl, rfl, hHeld, va_11, vb_11, lt_va_11, lt_vb_11⟩
          · skip
            rw [if_pos (by rfl)]
            refine wp_alloc26 (by rfl) ?_
            intro g8 W8 hle8 hlt8 hG8 va_8
            have le_g8 := Nat.le_trans hHeld.below.size hle8
            have hS8 := Kept.moved hHeld hG8 (fun _ h => by cases h)
            have ne_g9_g8 : g9 ≠ g8 := by have := hlt9; have := hle8; omega
            have vb_8 := Arr.moved vb_9 hG8 hlt9 (by simp)
            have lt_vb_8 := Nat.lt_of_lt_of_le hlt9 hG8.size
            clear vb_9 hlt9
            refine hK.out _ _ hS8 (fun hHeld => ?_)
            clear hK K
            try simp only [c7b8, Act.put, List.setIfInBounds_toArray, List.set_cons_zero, List.set_cons_succ]
            refine wpAnyH_ready (rs := [3]) (by kernel_rfl) (by simp) ?_
            refine AllReadyH.cons (o := c7b3) rfl (fun K hK => ?_) AllReadyH.nil
            rw [if_pos (by rfl)]
            unfold c7b3
            go_simp
            (with_reducible refine (HTA.out _ hHeld).mono ?_)
            rintro e W3 ⟨rfl, hB3⟩
            have hG3 := gbelow (row := none) hB3
            have hS3 := Kept.moved hHeld hG3 (fun _ h => by cases h)
            have vb_3 := Arr.moved vb_8 hG3 lt_vb_8 (by simp)
            have lt_vb_3 := Nat.lt_of_lt_of_le lt_vb_8 hG3.size
            clear vb_8 lt_vb_8
            have va_3 := Arr.moved va_8 hG3 hlt8 (by simp)
            have lt_va_3 := Nat.lt_of_lt_of_le hlt8 hG3.size
            clear va_8 hlt8
            go_wp2_with fail
            refine hK.out _ _ hS3 (fun hHeld => ?_)
            clear hK K
            try simp only [c7b3, Act.put, List.setIfInBounds_toArray, List.set_cons_zero, List.set_cons_succ]
            refine wpAnyH_ready (rs := [7]) (by kernel_rfl) (by simp) ?_
            refine AllReadyH.cons (o := c7b7) rfl (fun K hK => ?_) AllReadyH.nil
            rw [if_pos (by rfl)]
            unfold c7b7
            go_simp
            (with_reducible refine (HTB.out _ hHeld).mono ?_)
            rintro e W7 ⟨rfl, hB7⟩
            have hG7 := gbelow (row := none) hB7
            have hS7 := Kept.moved hHeld hG7 (fun _ h => by cases h)
            have vb_7 := Arr.moved vb_3 hG7 lt_vb_3 (by simp)
            have lt_vb_7 := Nat.lt_of_lt_of_le lt_vb_3 hG7.size
            clear vb_3 lt_vb_3
            have va_7 := Arr.moved va_3 hG7 lt_va_3 (by simp)
            have lt_va_7 := Nat.lt_of_lt_of_le lt_va_3 hG7.size
            clear va_3 lt_va_3
            go_wp2_with fail
            refine hK.out _ _ hS7 (fun hHeld => ?_)
            clear hK K
            try simp only [c7b7, Act.put, List.setIfInBounds_toArray, List.set_cons_zero, List.set_cons_succ]
            refine wpAnyH_ready (rs := [10]) (by kernel_rfl) (by simp) ?_
            refine AllReadyH.cons (o := c7b10) rfl (fun K hK => ?_) AllReadyH.nil
            rw [if_pos (by rfl)]
            refine wp_st26 (.tmp 5) (.tmp 38) (by rfl) g8 ca _ (by rfl) (by rfl) va_7 (by rw [HLA.out]; rfl) HZA.out HOA.out ?_
            intro W10 hG10 va_10
            have hS10 := Kept.moved hHeld hG10 (fun k hk => by cases hk; exact le_g8)
            have vb_10 := Arr.moved vb_7 hG10 lt_vb_7 (by simpa using ne_g9_g8)
            have lt_vb_10 := Nat.lt_of_lt_of_le lt_vb_7 hG10.size
            have lt_va_10 := Nat.lt_of_lt_of_le lt_va_7 hG10.size
            clear vb_7
            clear va_7
            refine hK.out _ _ hS10 (fun hHeld => ?_)
            clear hK K
            try simp only [c7b10, Act.put]
            refine wpAnyH_ready (rs := [11]) (by kernel_rfl) (by simp) ?_
            refine AllReadyH.cons (o := c7b11) rfl (fun K hK => ?_) AllReadyH.nil
            rw [if_pos (by rfl)]
            refine wp_st26 (.tmp 6) (.tmp 42) (by rfl) g9 cb _ (by rfl) (by rfl) vb_10 (by rw [HLB.out]; rfl) HZB.out HOB.out ?_
            intro W11 hG11 vb_11
            have hS11 := Kept.moved hHeld hG11 (fun k hk => by cases hk; exact le_g9)
            have va_11 := Arr.moved va_10 hG11 lt_va_10 (by simpa using (Ne.symm ne_g9_g8))
            have lt_va_11 := Nat.lt_of_lt_of_le lt_va_10 hG11.size
            have lt_vb_11 := Nat.lt_of_lt_of_le lt_vb_10 hG11.size
            clear vb_10
            clear va_10
            refine hK.out _ _ hS11 (fun hHeld => ?_)
            clear hK K
            try simp only [c7b11, Act.put]
            refine wpAnyH_done (by kernel_rfl) ?_ _
            go_wp2_with fail
            go_meet
            exact ⟨_, _, rfl, rfl, hHeld, va_11, vb_11, lt_va_11, lt_vb_11⟩
      case rest =>
        obtain ⟨b5, b6, rfl, rfl, hKC, hA5, hA6, hl5, hl6⟩ := hcut
        have HKC := Lib.hid hKC.below
        have HTC := Lib.hid (fun W (hW : Kept wc W) => HTR.out W (hKC.next hW.below))
        have HTG := Lib.hid (fun W g c (hW : Kept wc W) (hO : W.ownsRow wc.heap.size 5 1 (.slice (some ⟨g, 0, none⟩) 64 c) 64 (ca ++ cb)) => HTN.out W _ g c (hKC.next hW.below) hO)
        have HP5 := Lib.hid (fun W (hW : Kept wc W) => (piece_row (n := 32) (c := 32) ((hA5.below hW.below hl5).at_) : Piece W (.slice (some ⟨b5, 0, none⟩) 32 32) 32 ca))
        have HP6 := Lib.hid (fun W (hW : Kept wc W) => (piece_row (n := 32) (c := 32) ((hA6.below hW.below hl6).at_) : Piece W (.slice (some ⟨b6, 0, none⟩) 32 32) 32 cb))
        obtain ⟨j0, hj0, hy0, hy1, hy2⟩ := info_parts Tryd.infoU8
        have HJ := Lib.hid hj0
        have HY0 := Lib.hid hy0
        have HY1 := Lib.hid hy1
        have HY2 := Lib.hid hy2
        have hq1 := HEQ.out
        have hg26 := HGT.out
        clear hKC hA5 hA6 hj0 hy0 hy1 hy2
        go_wp2_with fail
        refine wp_region_held_drew (S := fun W => Kept wc W) (by kernel_rfl) ((Kept.refl wc).drew) (fun hHeld => ?_)
        refine wpAnyH_take (i := 0) (oi := c7c0) (v := ?_) rfl (by kernel_rfl) (by kernel_rfl) (by kernel_rfl) (fun _ _ _ h => h) (Or.inl ⟨by rfl, ?_⟩) hHeld ?_
        rotate_left
        · (intro w hSw; (try dsimp only at hSw); unfold c7c0; go_simp <;> with_reducible rfl)
        try simp only [c7c0, Act.put, List.setIfInBounds_toArray, List.set_cons_zero, List.set_cons_succ]
        refine wpAnyH_take (i := 3) (oi := c7c3) (v := ?_) rfl (by kernel_rfl) (by kernel_rfl) (by kernel_rfl) (fun _ _ _ h => h) (Or.inl ⟨by rfl, ?_⟩) hHeld ?_
        rotate_left
        · (intro w hSw; (try dsimp only at hSw); unfold c7c3; go_simp <;> with_reducible rfl)
        try simp only [c7c3, Act.put, List.setIfInBounds_toArray, List.set_cons_zero, List.set_cons_succ]
        refine wpAnyH_take (i := 5) (oi := c7c5) (v := ?_) rfl (by kernel_rfl) (by kernel_rfl) (by kernel_rfl) (fun _ _ _ h => h) (Or.inl ⟨by rfl, ?_⟩) hHeld ?_
        rotate_left
        · (intro w hSw; (try dsimp only at hSw); unfold c7c5; go_simp <;> with_reducible rfl)
        try simp only [c7c5, Act.put, List.setIfInBounds_toArray, List.set_cons_zero, List.set_cons_succ]
        refine wpAnyH_ready (rs := [1, 2]) (by kernel_rfl) (by simp) ?_
        refine AllReadyH.cons (o := c7c1) rfl (fun K hK => ?_) (AllReadyH.cons (o := c7c2) rfl (fun K hK => ?_) AllReadyH.nil)
        · skip
          rw [if_pos (by rfl)]
          unfold c7c1
          go_simp
          (with_reducible refine (HTC.out _ hHeld).mono ?_)
          rintro e W1 ⟨rfl, hB1⟩
          have hG1 := gbelow (row := none) hB1
          have hS1 := Kept.moved hHeld hG1 (fun _ h => by cases h)
          go_wp2_with fail
          refine hK.out _ _ hS1 (fun hHeld => ?_)
          clear hK K
          try simp only [c7c1, Act.put, List.setIfInBounds_toArray, List.set_cons_zero, List.set_cons_succ]
          refine wpAnyH_ready (rs := [2]) (by kernel_rfl) (by simp) ?_
          refine AllReadyH.cons (o := c7c2) rfl (fun K hK => ?_) AllReadyH.nil
          rw [if_pos (by rfl)]
          refine wp_new22 (by rfl) ?_
          intro g2 W2 hle2 hlt2 hG2 hn2
          have row_2 := hn2 wc.heap.size hHeld.below.size
          clear hn2
          have hS2 := Kept.moved hHeld hG2 (fun _ h => by cases h)
          refine hK.out _ _ hS2 (fun hHeld => ?_)
          clear hK K
          try simp only [c7c2, Act.put, List.setIfInBounds_toArray, List.set_cons_zero, List.set_cons_succ]
          refine wpAnyH_ready (rs := [4]) (by kernel_rfl) (by simp) ?_
          refine AllReadyH.cons (o := c7c4) rfl (fun K hK => ?_) AllReadyH.nil
          rw [if_pos (by rfl)]
          refine wp_piece 22 5 j0 _ 1 1 Tryd.underlying22 HJ.out HY0.out HY1.out HY2.out rfl (by omega) (.tmp 45) (.tmp 46) (by rfl) (base := wc.heap.size) (by rfl) row_2 (by rfl) (HP5.out _ hHeld) (by rw [HLA.out]) HOA.out (by unfold maxLen; omega) (by omega) hHeld.below.size (32) (rfl) (ca) (by simp) ?_
          intro hb4 g4 c4 W4 row_4 hG4 hat4
          have hS4 := Kept.moved hHeld hG4 (fun k hk => by cases hk; exact hb4)
          clear row_2
          have lt_row_4 := (row_4.lt g4 rfl).2
          refine hK.out _ _ hS4 (fun hHeld => ?_)
          clear hK K
          try simp only [c7c4, Act.put, List.setIfInBounds_toArray, List.set_cons_zero, List.set_cons_succ]
          refine wpAnyH_ready (rs := [6]) (by kernel_rfl) (by simp) ?_
          refine AllReadyH.cons (o := c7c6) rfl (fun K hK => ?_) AllReadyH.nil
          rw [if_pos (by rfl)]
          refine wp_piece 22 5 j0 _ 1 1 Tryd.underlying22 HJ.out HY0.out HY1.out HY2.out rfl (by omega) (.tmp 47) (.tmp 48) (by rfl) (base := wc.heap.size) (by rfl) row_4 (by rfl) (HP6.out _ hHeld) (by rw [HLB.out]) HOB.out (by unfold maxLen; omega) (by omega) hHeld.below.size (64) (rfl) (ca ++ cb) (rfl) ?_
          intro hb6 g6 c6 W6 row_6 hG6 hat6
          have hS6 := Kept.moved hHeld hG6 (fun k hk => by cases hk; exact hb6)
          clear row_4
          have lt_row_6 := (row_6.lt g6 rfl).2
          refine hK.out _ _ hS6 (fun hHeld => ?_)
          clear hK K
          try simp only [c7c6, Act.put, List.setIfInBounds_toArray, List.set_cons_zero, List.set_cons_succ]
          refine wpAnyH_ready (rs := [7]) (by kernel_rfl) (by simp) ?_
          refine AllReadyH.cons (o := c7c7) rfl (fun K hK => ?_) AllReadyH.nil
          rw [if_pos (by rfl)]
          unfold c7c7
          go_simp
          (with_reducible refine (HTG.out _ _ _ hHeld row_6).mono ?_)
          rintro e W7 ⟨rfl, hB7⟩
          have hG7 := gbelow (row := none) hB7
          have hS7 := Kept.moved hHeld hG7 (fun _ h => by cases h)
          have row_7 := own_moved row_6 hG7  (by simp)
          have lt_row_7 := Nat.lt_of_lt_of_le lt_row_6 hG7.size
          clear row_6 lt_row_6
          go_wp2_with fail
          refine hK.out _ _ hS7 (fun hHeld => ?_)
          clear hK K
          try simp only [c7c7, Act.put, List.setIfInBounds_toArray, List.set_cons_zero, List.set_cons_succ]
          refine wpAnyH_ready (rs := [8]) (by kernel_rfl) (by simp) ?_
          refine AllReadyH.cons (o := c7c8) rfl (fun K hK => ?_) AllReadyH.nil
          rw [if_pos (by rfl)]
          unfold c7c8
          go_simp
          refine hK.out _ _ hHeld (fun hHeld => ?_)
          clear hK K
          try simp only [c7c8, Act.put, List.setIfInBounds_toArray, List.set_cons_zero, List.set_cons_succ]
          refine wpAnyH_ready (rs := [9]) (by kernel_rfl) (by simp) ?_
          refine AllReadyH.cons (o := c7c9) rfl (fun K hK => ?_) AllReadyH.nil
          rw [if_pos (by rfl)]
          unfold c7c9
          go_simp
          refine hK.out _ _ hHeld (fun hHeld => ?_)
          clear hK K
          try simp only [c7c9, Act.put, List.setIfInBounds_toArray, List.set_cons_zero, List.set_cons_succ]
          refine wpAnyH_done (by kernel_rfl) ?_ _
          have HK := Lib.hid hHeld
          clear hHeld
          go_wp2
          go_ret
          exact ⟨rfl, HB1.out.trans ((HKC.out.trans (HK.out.below.mono HKC.out.size)).mono HB1.out.size)⟩
        · skip
          rw [if_pos (by rfl)]
          refine wp_new22 (by rfl) ?_
          intro g2 W2 hle2 hlt2 hG2 hn2
          have row_2 := hn2 wc.heap.size hHeld.below.size
          clear hn2
          have hS2 := Kept.moved hHeld hG2 (fun _ h => by cases h)
          refine hK.out _ _ hS2 (fun hHeld => ?_)
          clear hK K
          try simp only [c7c2, Act.put, List.setIfInBounds_toArray, List.set_cons_zero, List.set_cons_succ]
          refine wpAnyH_ready (rs := [1]) (by kernel_rfl) (by simp) ?_
          refine AllReadyH.cons (o := c7c1) rfl (fun K hK => ?_) AllReadyH.nil
          rw [if_pos (by rfl)]
          unfold c7c1
          go_simp
          (with_reducible refine (HTC.out _ hHeld).mono ?_)
          rintro e W1 ⟨rfl, hB1⟩
          have hG1 := gbelow (row := none) hB1
          have hS1 := Kept.moved hHeld hG1 (fun _ h => by cases h)
          have row_1 := own_moved row_2 hG1  (by simp)
          have lt_row_1 := Nat.lt_of_lt_of_le hlt2 hG1.size
          clear row_2 hlt2
          go_wp2_with fail
          refine hK.out _ _ hS1 (fun hHeld => ?_)
          clear hK K
          try simp only [c7c1, Act.put, List.setIfInBounds_toArray, List.set_cons_zero, List.set_cons_succ]
          refine wpAnyH_ready (rs := [4]) (by kernel_rfl) (by simp) ?_
          refine AllReadyH.cons (o := c7c4) rfl (fun K hK => ?_) AllReadyH.nil
          rw [if_pos (by rfl)]
          refine wp_piece 22 5 j0 _ 1 1 Tryd.underlying22 HJ.out HY0.out HY1.out HY2.out rfl (by omega) (.tmp 45) (.tmp 46) (by rfl) (base := wc.heap.size) (by rfl) row_1 (by rfl) (HP5.out _ hHeld) (by rw [HLA.out]) HOA.out (by unfold maxLen; omega) (by omega) hHeld.below.size (32) (rfl) (ca) (by simp) ?_
          intro hb4 g4 c4 W4 row_4 hG4 hat4
          have hS4 := Kept.moved hHeld hG4 (fun k hk => by cases hk; exact hb4)
          clear row_1
          have lt_row_4 := (row_4.lt g4 rfl).2
          refine hK.out _ _ hS4 (fun hHeld => ?_)
          clear hK K
          try simp only [c7c4, Act.put, List.setIfInBounds_toArray, List.set_cons_zero, List.set_cons_succ]
          refine wpAnyH_ready (rs := [6]) (by kernel_rfl) (by simp) ?_
          refine AllReadyH.cons (o := c7c6) rfl (fun K hK => ?_) AllReadyH.nil
          rw [if_pos (by rfl)]
          refine wp_piece 22 5 j0 _ 1 1 Tryd.underlying22 HJ.out HY0.out HY1.out HY2.out rfl (by omega) (.tmp 47) (.tmp 48) (by rfl) (base := wc.heap.size) (by rfl) row_4 (by rfl) (HP6.out _ hHeld) (by rw [HLB.out]) HOB.out (by unfold maxLen; omega) (by omega) hHeld.below.size (64) (rfl) (ca ++ cb) (rfl) ?_
          intro hb6 g6 c6 W6 row_6 hG6 hat6
          have hS6 := Kept.moved hHeld hG6 (fun k hk => by cases hk; exact hb6)
          clear row_4
          have lt_row_6 := (row_6.lt g6 rfl).2
          refine hK.out _ _ hS6 (fun hHeld => ?_)
          clear hK K
          try simp only [c7c6, Act.put, List.setIfInBounds_toArray, List.set_cons_zero, List.set_cons_succ]
          refine wpAnyH_ready (rs := [7]) (by kernel_rfl) (by simp) ?_
          refine AllReadyH.cons (o := c7c7) rfl (fun K hK => ?_) AllReadyH.nil
          rw [if_pos (by rfl)]
          unfold c7c7
          go_simp
          (with_reducible refine (HTG.out _ _ _ hHeld row_6).mono ?_)
          rintro e W7 ⟨rfl, hB7⟩
          have hG7 := gbelow (row := none) hB7
          have hS7 := Kept.moved hHeld hG7 (fun _ h => by cases h)
          have row_7 := own_moved row_6 hG7  (by simp)
          have lt_row_7 := Nat.lt_of_lt_of_le lt_row_6 hG7.size
          clear row_6 lt_row_6
          go_wp2_with fail
          refine hK.out _ _ hS7 (fun hHeld => ?_)
          clear hK K
          try simp only [c7c7, Act.put, List.setIfInBounds_toArray, List.set_cons_zero, List.set_cons_succ]
          refine wpAnyH_ready (rs := [8]) (by kernel_rfl) (by simp) ?_
          refine AllReadyH.cons (o := c7c8) rfl (fun K hK => ?_) AllReadyH.nil
          rw [if_pos (by rfl)]
          unfold c7c8
          go_simp
          refine hK.out _ _ hHeld (fun hHeld => ?_)
          clear hK K
          try simp only [c7c8, Act.put, List.setIfInBounds_toArray, List.set_cons_zero, List.set_cons_succ]
          refine wpAnyH_ready (rs := [9]) (by kernel_rfl) (by simp) ?_
          refine AllReadyH.cons (o := c7c9) rfl (fun K hK => ?_) AllReadyH.nil
          rw [if_pos (by rfl)]
          unfold c7c9
          go_simp
          refine hK.out _ _ hHeld (fun hHeld => ?_)
          clear hK K
          try simp only [c7c9, Act.put, List.setIfInBounds_toArray, List.set_cons_zero, List.set_cons_succ]
          refine wpAnyH_done (by kernel_rfl) ?_ _
          have HK := Lib.hid hHeld
          clear hHeld
          go_wp2
          go_ret
          exact ⟨rfl, HB1.out.trans ((HKC.out.trans (HK.out.below.mono HKC.out.size)).mono HB1.out.size)⟩


theorem lawHalves (w : World) (v : Value) (b : List UInt8) (hv : BytesAt w w.heap.size v b) (hT : Tab w) (h0 : 0 < w.heap.size) :
    Calls Tryd.prog 7 #[v] w fun e w' => e = .returned (.bool true) ∧ Below w.heap.size w w' := by
  rcases Nat.lt_trichotomy (dsOf b).length 1 with h | h | h
  · exact lawHalves0 w v b _ rfl (by omega) hv hT h0
  · exact lawHalves1 w v b _ rfl h hv hT h0
  · exact lawHalvesN w v b _ rfl h hv hT h0
end Go.Proofs.YtnddejhbncgchaaDoor
