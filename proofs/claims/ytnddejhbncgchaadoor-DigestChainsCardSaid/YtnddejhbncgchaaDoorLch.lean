/- The law DigestChains, walked. -/
import Derived.Test.YtnddejhbncgchaaDoorRch
import Derived.Test.YtnddejhbncgchaaDoorDow
import Derived.Test.YtnddejhbncgchaaDoorEqd
namespace Go.Proofs.YtnddejhbncgchaaDoor
open Go.RowKit

theorem ch1 {α : Type} (l : List α) (i : Nat) (a : α) : l.toArray.setIfInBounds i a = (l.set i a).toArray := List.setIfInBounds_toArray ..
theorem ch2 {α : Type} (x : α) (l : List α) (a : α) : (x :: l).set 0 a = a :: l := List.set_cons_zero ..
theorem ch3 {α : Type} (x : α) (l : List α) (n : Nat) (a : α) : (x :: l).set (n + 1) a = x :: l.set n a := List.set_cons_succ ..

def c10a0 : Oper := { dst := some 12, op := Go.Op.load 26 (Go.Operand.tmp 2), type := 26, pos := "law.go:192", after := #[], guard := none }
def c10a1 : Oper := { dst := some 13, op := Go.Op.load 26 (Go.Operand.tmp 2), type := 26, pos := "law.go:192", after := #[{ on := 4, ground := Go.Ground.gcOnly Go.Departure.lateStores }], guard := none }
def c10a2 : Oper := { dst := some 5, op := Go.Op.alloc 26, type := 0, pos := "law.go:192", after := #[], guard := none }
def c10a3 : Oper := { dst := some 6, op := Go.Op.alloc 26, type := 0, pos := "law.go:192", after := #[], guard := none }
def c10a4 : Oper := { dst := none, op := Go.Op.store 26 (Go.Operand.tmp 5) (Go.Operand.tmp 12), type := 0, pos := "law.go:192", after := #[{ on := 2, ground := Go.Ground.data }, { on := 0, ground := Go.Ground.data }, { on := 0, ground := Go.Ground.phase }, { on := 1, ground := Go.Ground.textOnly Go.Departure.lateStores }, { on := 2, ground := Go.Ground.phase }, { on := 3, ground := Go.Ground.phase }], guard := none }
def c10a5 : Oper := { dst := none, op := Go.Op.store 26 (Go.Operand.tmp 6) (Go.Operand.tmp 13), type := 0, pos := "law.go:192", after := #[{ on := 3, ground := Go.Ground.data }, { on := 1, ground := Go.Ground.data }, { on := 4, ground := Go.Ground.chain }, { on := 0, ground := Go.Ground.phase }, { on := 1, ground := Go.Ground.phase }, { on := 2, ground := Go.Ground.phase }, { on := 3, ground := Go.Ground.phase }, { on := 4, ground := Go.Ground.phase }], guard := none }
def c10b0 : Oper := { dst := some 22, op := Go.Op.load 26 (Go.Operand.tmp 5), type := 26, pos := "law.go:195", after := #[], guard := none }
def c10b1 : Oper := { dst := some 23, op := Go.Op.load 26 (Go.Operand.tmp 8), type := 26, pos := "law.go:195", after := #[], guard := none }
def c10b2 : Oper := { dst := some 24, op := Go.Op.call { callee := Go.Callee.value (Go.Operand.func 25), args := #[Go.Operand.tmp 22, Go.Operand.tmp 23], argTypes := #[26, 26] }, type := 26, pos := "law.go:195", after := #[{ on := 0, ground := Go.Ground.data }, { on := 1, ground := Go.Ground.data }], guard := none }
def c10b3 : Oper := { dst := some 25, op := Go.Op.load 26 (Go.Operand.tmp 6), type := 26, pos := "law.go:195", after := #[], guard := none }
def c10b4 : Oper := { dst := some 26, op := Go.Op.load 26 (Go.Operand.tmp 8), type := 26, pos := "law.go:195", after := #[], guard := none }
def c10b5 : Oper := { dst := some 27, op := Go.Op.call { callee := Go.Callee.value (Go.Operand.func 26), args := #[Go.Operand.tmp 25, Go.Operand.tmp 26], argTypes := #[26, 26] }, type := 26, pos := "law.go:195", after := #[{ on := 3, ground := Go.Ground.data }, { on := 4, ground := Go.Ground.data }, { on := 2, ground := Go.Ground.chain }], guard := none }
def c10b6 : Oper := { dst := none, op := Go.Op.store 26 (Go.Operand.tmp 5) (Go.Operand.tmp 24), type := 0, pos := "law.go:195", after := #[{ on := 2, ground := Go.Ground.data }, { on := 5, ground := Go.Ground.chain }, { on := 0, ground := Go.Ground.phase }, { on := 1, ground := Go.Ground.phase }, { on := 2, ground := Go.Ground.phase }, { on := 3, ground := Go.Ground.textOnly Go.Departure.lateStores }, { on := 4, ground := Go.Ground.textOnly Go.Departure.lateStores }, { on := 5, ground := Go.Ground.textOnly Go.Departure.lateStoresUnsure }], guard := none }
def c10b7 : Oper := { dst := none, op := Go.Op.store 26 (Go.Operand.tmp 6) (Go.Operand.tmp 27), type := 0, pos := "law.go:195", after := #[{ on := 5, ground := Go.Ground.data }, { on := 6, ground := Go.Ground.chain }, { on := 0, ground := Go.Ground.phase }, { on := 1, ground := Go.Ground.phase }, { on := 2, ground := Go.Ground.phase }, { on := 3, ground := Go.Ground.phase }, { on := 4, ground := Go.Ground.phase }, { on := 5, ground := Go.Ground.phase }, { on := 6, ground := Go.Ground.phase }], guard := none }
def c10c0 : Oper := { dst := some 28, op := Go.Op.load 26 (Go.Operand.tmp 5), type := 26, pos := "law.go:196", after := #[], guard := none }
def c10c1 : Oper := { dst := some 29, op := Go.Op.load 26 (Go.Operand.tmp 6), type := 26, pos := "law.go:196", after := #[], guard := none }
def c10c2 : Oper := { dst := some 30, op := Go.Op.binOp Go.BinOp.neq 26 (Go.Operand.tmp 28) (Go.Operand.tmp 29) 26, type := 4, pos := "law.go:196", after := #[{ on := 0, ground := Go.Ground.data }, { on := 1, ground := Go.Ground.data }], guard := none }
def c10c3 : Oper := { dst := some 31, op := Go.Op.move (Go.Operand.tmp 30), type := 4, pos := "law.go:196", after := #[{ on := 2, ground := Go.Ground.data }], guard := none }
def c10c4 : Oper := { dst := some 32, op := Go.Op.load 26 (Go.Operand.tmp 5), type := 26, pos := "law.go:196", after := #[{ on := 3, ground := Go.Ground.guard }], guard := some (3, false) }
def c10c5 : Oper := { dst := some 33, op := Go.Op.buildSlice 22 0 #[], type := 22, pos := "law.go:196", after := #[{ on := 3, ground := Go.Ground.guard }], guard := some (3, false) }
def c10c6 : Oper := { dst := some 34, op := Go.Op.slice 26 (Go.Operand.tmp 9) none none none, type := 22, pos := "law.go:196", after := #[{ on := 3, ground := Go.Ground.guard }], guard := some (3, false) }
def c10c7 : Oper := { dst := some 35, op := Go.Op.call { callee := Go.Callee.builtin Go.Builtin.append, args := #[Go.Operand.tmp 33, Go.Operand.tmp 34], argTypes := #[22, 22] }, type := 22, pos := "law.go:196", after := #[{ on := 5, ground := Go.Ground.data }, { on := 6, ground := Go.Ground.data }, { on := 3, ground := Go.Ground.chain }, { on := 3, ground := Go.Ground.guard }], guard := some (3, false) }
def c10c8 : Oper := { dst := some 36, op := Go.Op.slice 26 (Go.Operand.tmp 8) none none none, type := 22, pos := "law.go:196", after := #[{ on := 3, ground := Go.Ground.guard }], guard := some (3, false) }
def c10c9 : Oper := { dst := some 37, op := Go.Op.call { callee := Go.Callee.builtin Go.Builtin.append, args := #[Go.Operand.tmp 35, Go.Operand.tmp 36], argTypes := #[22, 22] }, type := 22, pos := "law.go:196", after := #[{ on := 7, ground := Go.Ground.data }, { on := 8, ground := Go.Ground.data }, { on := 7, ground := Go.Ground.chain }, { on := 3, ground := Go.Ground.guard }], guard := some (3, false) }
def c10c10 : Oper := { dst := some 38, op := Go.Op.call { callee := Go.Callee.value (Go.Operand.func 14), args := #[Go.Operand.const (Go.Value.string { data := #[99, 104, 97, 105, 110] }), Go.Operand.tmp 37], argTypes := #[9, 22] }, type := 26, pos := "law.go:196", after := #[{ on := 9, ground := Go.Ground.data }, { on := 9, ground := Go.Ground.chain }, { on := 3, ground := Go.Ground.guard }], guard := some (3, false) }
def c10c11 : Oper := { dst := some 39, op := Go.Op.binOp Go.BinOp.neq 26 (Go.Operand.tmp 32) (Go.Operand.tmp 38) 26, type := 4, pos := "law.go:196", after := #[{ on := 4, ground := Go.Ground.data }, { on := 10, ground := Go.Ground.data }, { on := 3, ground := Go.Ground.guard }], guard := some (3, false) }
def c10c12 : Oper := { dst := some 40, op := Go.Op.pick (Go.Operand.tmp 31) (Go.Operand.const (Go.Value.bool true)) (Go.Operand.tmp 39), type := 4, pos := "law.go:196", after := #[{ on := 3, ground := Go.Ground.data }, { on := 11, ground := Go.Ground.data }], guard := none }

theorem blk_moved {W W' : World} {r : Option Nat} {b : Nat} {o : Option Obj} (h : W.heap[b]? = o) (hG : W.grownBy W' r) (hlt : b < W.heap.size) (hne : some b ≠ r) : W'.heap[b]? = o :=
  (hG.block b hlt hne).trans h
/-- A region in which the world above w may change, but b8 does not. -/
def K8 (w : World) (b8 : Nat) (cx : List Value) (W : World) : Prop := Kept w W ∧ W.rangeAt b8 0 cx ∧ b8 < W.heap.size
theorem K8.below {w : World} {b8 : Nat} {cx : List Value} {W : World} (h : K8 w b8 cx W) : Below w.heap.size w W := h.1
theorem K8.moved {w : World} {b8 : Nat} {cx : List Value} {W W' : World} {r : Option Nat} (h : K8 w b8 cx W) (hG : W.grownBy W' r) (hr : ∀ k, r = some k → w.heap.size ≤ k) (hne : some b8 ≠ r) : K8 w b8 cx W' :=
  ⟨Kept.moved h.1 hG hr, rng_moved h.2.1 hG h.2.2 hne, Nat.lt_of_lt_of_le h.2.2 hG.size⟩
/-- The digests lie in a block of their own. -/
def Hold (W : World) (a1 : Option Addr) (L : Nat) (ds : List (List UInt8)) : Prop :=
  ds = [] ∨ ∃ db, a1 = some ⟨db, 0, none⟩ ∧ L ≤ db ∧ db < W.heap.size ∧ ∀ i (h : i < ds.length), W.rangeAt db (i * 32) (cells8 ds[i])
theorem own_hold {W : World} {B : Nat} {v : Value} {ds : List (List UInt8)} (h : W.ownsRow B 26 32 v ds.length (flat ds)) (h32 : ∀ d ∈ ds, d.length = 32) : ∃ a c, v = .slice a ds.length c ∧ ds.length ≤ c ∧ c ≤ maxLen ∧ Hold W a B ds := by
  have hlt := h.lt
  have hcl := @World.ownsRow.cells _ _ _ _ _ _ _ h
  rcases h.2 with ⟨rfl, h0⟩ | ⟨g, cap, cur, rfl, hb, hg, hn, hc, hcs, ht⟩
  · exact ⟨none, 0, by rw [h0], by omega, by unfold maxLen; omega, .inl (List.eq_nil_of_length_eq_zero h0)⟩
  · refine ⟨some ⟨g, 0, none⟩, cap, rfl, hn, hc, .inr ⟨g, rfl, hb, (hlt g rfl).2, fun i hi j u hu => ?_⟩⟩
    have := hcl (g := g) rfl (i * 32 + j) u (flat_at ds h32 i hi j u hu)
    rwa [Addr.add_mid, Nat.zero_add] at this

set_option maxRecDepth 100000 in
set_option maxHeartbeats 8000000 in
theorem lawChains (w : World) (d : List UInt8) (hd : d.length = 32) (v : Value) (b : List UInt8) (hv : BytesAt w w.heap.size v b) (hT : Tab w) (h0 : 0 < w.heap.size) :
    Calls Tryd.prog 10 #[dv d, v] w fun e w' => e = .returned (.bool true) ∧ Below w.heap.size w w' := by
  obtain ⟨j0, hj0, hy0, hy1, hy2⟩ := info_parts Tryd.infoU8
  have HJ := Lib.hid hj0
  have HY0 := Lib.hid hy0
  have HY1 := Lib.hid hy1
  have HY2 := Lib.hid hy2
  have hv' := hv
  obtain ⟨a, cap, rfl, hnc, hcm, _⟩ := hv'
  have HV := Lib.hid hv
  have HT := Lib.hid hT
  obtain ⟨q, hq⟩ : ∃ q, (dsOf b).length = q := ⟨_, rfl⟩
  have HQ := Lib.hid hq
  have hlen := dsOf_len b
  have hq24 : q ≤ 24 := by omega
  obtain ⟨cd, hcd⟩ : ∃ cd, cells8 d = cd := ⟨_, rfl⟩
  have hld : cd.length = 32 := by rw [← hcd, cells8_len, hd]
  have HCD := Lib.hid hcd
  have HLD := Lib.hid hld
  have HZD : Hid ((Tryd.prog.info? 26).map (·.size) = some cd.length) := by show _ = _; rw [hld]; exact Tryd.info26
  have HOD : Hid (∀ v ∈ cd, v.oneCell' = true) := Lib.hid (by rw [← hcd]; exact one_cells8 _)
  have hg26 : Tryd.prog.eqGuardType Tryd.prog.depth 26 = false := by kernel_rfl
  have HGT := Lib.hid hg26
  have HD := Lib.hid hd
  rw [dv_eq d, hcd]
  have HSN : Hid (∀ W, Below w.heap.size w W → Calls Tryd.prog 11 #[] W fun e w' => e = .returned (.bool true) ∧ Below W.heap.size W w') := Lib.hid fun W hW => sane_any W (hT.below hW h0) (by have := hW.size; omega)
  clear hv hT hq hlen hj0 hy0 hy1 hy2 hcd hld hg26 hd
  go_enter Tryd.func10, Tryd.ntmps10
  go_wp2_with fail
  refine calls_world (fun W => Below w.heap.size w W ∧ W.rangeAt w.heap.size 0 cd ∧ w.heap.size < W.heap.size) ⟨by go_grown, ?_, by simp⟩ ?_
  · have h := (Arr.new w cd.toArray 26).at_
    rw [List.toList_toArray] at h; exact h
  rintro Wb ⟨hBb, hRb, hzb⟩
  have HBb := Lib.hid hBb
  have HRb := Lib.hid hRb
  refine (HSN.out Wb hBb).mono ?_
  rintro e w0 ⟨rfl, hB0⟩
  have HB0 := Lib.hid (hBb.trans (hB0.mono hBb.size))
  have hs0 := hB0.size
  have HRD : Hid (∀ W, Kept w0 W → W.rangeAt w.heap.size 0 cd) := Lib.hid fun W hW j v hv => (((hB0.trans (hW.below.mono hB0.size)).cell (p := ⟨w.heap.size, 0 + j, none⟩) hzb)).trans (HRb.out j v hv)
  clear hB0 hBb hRb HRb HBb
  go_wp2_with fail
  go_cut [5, 6] (fun s5 s6 wx => ∃ b5 b6 : Nat, s5 = .pointer (some ⟨b5, 0, none⟩) ∧ s6 = .pointer (some ⟨b6, 0, none⟩) ∧ Kept w0 wx ∧ Arr wx b5 cd ∧ Arr wx b6 cd ∧ b5 < wx.heap.size ∧ b6 < wx.heap.size ∧ w0.heap.size ≤ b5 ∧ w0.heap.size ≤ b6 ∧ b5 ≠ b6)
  case first =>
    refine wp_region_held_drew (S := fun W => Kept w0 W) (by kernel_rfl) ((Kept.refl w0).drew) (fun hHeld => ?_)
    refine wpAnyH_take (i := 0) (oi := c10a0) rfl (by kernel_rfl) (by kernel_rfl) (by kernel_rfl) (fun _ _ _ h => h) (yieldsIf_load_mid (by rfl) 26 (.tmp 2) (by rfl) w.heap.size 0 (by rfl) cd _ (fun W h => HRD.out W h) Tryd.underlying26 rfl HZD.out) hHeld ?_
    try simp only [c10a0, Act.put, ch1, ch2, ch3]
    refine wpAnyH_take (i := 1) (oi := c10a1) rfl (by kernel_rfl) (by kernel_rfl) (by kernel_rfl) (fun _ _ _ h => h) (yieldsIf_load_mid (by rfl) 26 (.tmp 2) (by rfl) w.heap.size 0 (by rfl) cd _ (fun W h => HRD.out W h) Tryd.underlying26 rfl HZD.out) hHeld ?_
    try simp only [c10a1, Act.put, ch1, ch2, ch3]
    refine wpAnyH_ready (rs := [2, 3]) (by kernel_rfl) (by simp) ?_
    refine AllReadyH.cons (o := c10a2) rfl (fun K hK => ?_) (AllReadyH.cons (o := c10a3) rfl (fun K hK => ?_) AllReadyH.nil)
    · skip
      rw [if_pos (by rfl)]
      refine wp_alloc26 (by rfl) ?_
      intro g2 W2 hle2 hlt2 hG2 va_2
      have le_g2 := Nat.le_trans hHeld.below.size hle2
      have hS2 := Kept.moved hHeld hG2 (fun _ h => by cases h)
      refine hK.out _ _ hS2 (fun hHeld => ?_)
      clear hK K
      try simp only [c10a2, Act.put, ch1, ch2, ch3]
      refine wpAnyH_ready (rs := [3]) (by kernel_rfl) (by simp) ?_
      refine AllReadyH.cons (o := c10a3) rfl (fun K hK => ?_) AllReadyH.nil
      rw [if_pos (by rfl)]
      refine wp_alloc26 (by rfl) ?_
      intro g3 W3 hle3 hlt3 hG3 vb_3
      have le_g3 := Nat.le_trans hHeld.below.size hle3
      have hS3 := Kept.moved hHeld hG3 (fun _ h => by cases h)
      have ne_g2_g3 : g2 ≠ g3 := by have := hlt2; have := hle3; omega
      have va_3 := Arr.moved va_2 hG3 hlt2 (by simp)
      have lt_va_3 := Nat.lt_of_lt_of_le hlt2 hG3.size
      clear va_2 hlt2
      refine hK.out _ _ hS3 (fun hHeld => ?_)
      clear hK K
      try simp only [c10a3, Act.put, ch1, ch2, ch3]
      refine wpAnyH_ready (rs := [4]) (by kernel_rfl) (by simp) ?_
      refine AllReadyH.cons (o := c10a4) rfl (fun K hK => ?_) AllReadyH.nil
      rw [if_pos (by rfl)]
      refine wp_st26 (.tmp 5) (.tmp 12) (by rfl) g2 cd _ (by rfl) (by rfl) va_3 (by rw [HLD.out]; rfl) HZD.out HOD.out ?_
      intro W4 hG4 va_4
      have hS4 := Kept.moved hHeld hG4 (fun k hk => by cases hk; exact le_g2)
      have vb_4 := Arr.moved vb_3 hG4 hlt3 (by simpa using (Ne.symm ne_g2_g3))
      have lt_vb_4 := Nat.lt_of_lt_of_le hlt3 hG4.size
      have lt_va_4 := Nat.lt_of_lt_of_le lt_va_3 hG4.size
      clear va_3
      clear vb_3
      refine hK.out _ _ hS4 (fun hHeld => ?_)
      clear hK K
      try simp only [c10a4, Act.put]
      refine wpAnyH_ready (rs := [5]) (by kernel_rfl) (by simp) ?_
      refine AllReadyH.cons (o := c10a5) rfl (fun K hK => ?_) AllReadyH.nil
      rw [if_pos (by rfl)]
      refine wp_st26 (.tmp 6) (.tmp 13) (by rfl) g3 cd _ (by rfl) (by rfl) vb_4 (by rw [HLD.out]; rfl) HZD.out HOD.out ?_
      intro W5 hG5 vb_5
      have hS5 := Kept.moved hHeld hG5 (fun k hk => by cases hk; exact le_g3)
      have va_5 := Arr.moved va_4 hG5 lt_va_4 (by simpa using ne_g2_g3)
      have lt_va_5 := Nat.lt_of_lt_of_le lt_va_4 hG5.size
      have lt_vb_5 := Nat.lt_of_lt_of_le lt_vb_4 hG5.size
      clear va_4
      clear vb_4
      refine hK.out _ _ hS5 (fun hHeld => ?_)
      clear hK K
      try simp only [c10a5, Act.put]
      refine wpAnyH_done (by kernel_rfl) ?_ _
      go_wp2_with fail
      go_meet
      exact ⟨_, _, rfl, rfl, hHeld, va_5, vb_5, lt_va_5, lt_vb_5, le_g2, le_g3, ne_g2_g3⟩
    · skip
      rw [if_pos (by rfl)]
      refine wp_alloc26 (by rfl) ?_
      intro g3 W3 hle3 hlt3 hG3 vb_3
      have le_g3 := Nat.le_trans hHeld.below.size hle3
      have hS3 := Kept.moved hHeld hG3 (fun _ h => by cases h)
      refine hK.out _ _ hS3 (fun hHeld => ?_)
      clear hK K
      try simp only [c10a3, Act.put, ch1, ch2, ch3]
      refine wpAnyH_ready (rs := [2]) (by kernel_rfl) (by simp) ?_
      refine AllReadyH.cons (o := c10a2) rfl (fun K hK => ?_) AllReadyH.nil
      rw [if_pos (by rfl)]
      refine wp_alloc26 (by rfl) ?_
      intro g2 W2 hle2 hlt2 hG2 va_2
      have le_g2 := Nat.le_trans hHeld.below.size hle2
      have hS2 := Kept.moved hHeld hG2 (fun _ h => by cases h)
      have ne_g3_g2 : g3 ≠ g2 := by have := hlt3; have := hle2; omega
      have vb_2 := Arr.moved vb_3 hG2 hlt3 (by simp)
      have lt_vb_2 := Nat.lt_of_lt_of_le hlt3 hG2.size
      clear vb_3 hlt3
      refine hK.out _ _ hS2 (fun hHeld => ?_)
      clear hK K
      try simp only [c10a2, Act.put, ch1, ch2, ch3]
      refine wpAnyH_ready (rs := [4]) (by kernel_rfl) (by simp) ?_
      refine AllReadyH.cons (o := c10a4) rfl (fun K hK => ?_) AllReadyH.nil
      rw [if_pos (by rfl)]
      refine wp_st26 (.tmp 5) (.tmp 12) (by rfl) g2 cd _ (by rfl) (by rfl) va_2 (by rw [HLD.out]; rfl) HZD.out HOD.out ?_
      intro W4 hG4 va_4
      have hS4 := Kept.moved hHeld hG4 (fun k hk => by cases hk; exact le_g2)
      have vb_4 := Arr.moved vb_2 hG4 lt_vb_2 (by simpa using ne_g3_g2)
      have lt_vb_4 := Nat.lt_of_lt_of_le lt_vb_2 hG4.size
      have lt_va_4 := Nat.lt_of_lt_of_le hlt2 hG4.size
      clear vb_2
      clear va_2
      refine hK.out _ _ hS4 (fun hHeld => ?_)
      clear hK K
      try simp only [c10a4, Act.put]
      refine wpAnyH_ready (rs := [5]) (by kernel_rfl) (by simp) ?_
      refine AllReadyH.cons (o := c10a5) rfl (fun K hK => ?_) AllReadyH.nil
      rw [if_pos (by rfl)]
      refine wp_st26 (.tmp 6) (.tmp 13) (by rfl) g3 cd _ (by rfl) (by rfl) vb_4 (by rw [HLD.out]; rfl) HZD.out HOD.out ?_
      intro W5 hG5 vb_5
      have hS5 := Kept.moved hHeld hG5 (fun k hk => by cases hk; exact le_g3)
      have va_5 := Arr.moved va_4 hG5 lt_va_4 (by simpa using (Ne.symm ne_g3_g2))
      have lt_va_5 := Nat.lt_of_lt_of_le lt_va_4 hG5.size
      have lt_vb_5 := Nat.lt_of_lt_of_le lt_vb_4 hG5.size
      clear vb_4
      clear va_4
      refine hK.out _ _ hS5 (fun hHeld => ?_)
      clear hK K
      try simp only [c10a5, Act.put]
      refine wpAnyH_done (by kernel_rfl) ?_ _
      go_wp2_with fail
      go_meet
      exact ⟨_, _, rfl, rfl, hHeld, va_5, vb_5, lt_va_5, lt_vb_5, le_g2, le_g3, (Ne.symm ne_g3_g2)⟩
  case rest =>
    obtain ⟨b5, b6, rfl, rfl, hKA, hA5, hA6, hl5, hl6, hle5, hle6, h56⟩ := hcut
    obtain ⟨wA, rfl⟩ : ∃ x : World, x = wc := ⟨_, rfl⟩
    have HA5 := Lib.hid hA5
    have HA6 := Lib.hid hA6
    have HKA := Lib.hid (HB0.out.trans (hKA.below.mono HB0.out.size))
    have hw0 := HB0.out.size
    clear hKA hA5 hA6
    go_wp2_with fail
    refine (digestsOwn_any wA _ b (bytesAt_any HV.out HKA.out)).mono ?_
    rintro e w1 ⟨u, rfl, hO, hB1⟩
    obtain ⟨a1, cap1, rfl, hcap1, hcm1, hH⟩ := own_hold hO (dsOf_32 b)
    have HH := Lib.hid hH
    have HA51 := Lib.hid (HA5.out.below hB1 hl5)
    have HA61 := Lib.hid (HA6.out.below hB1 hl6)
    have HB1 := Lib.hid (HKA.out.trans (hB1.mono HKA.out.size))
    have hs1 := hB1.size
    rw [HQ.out] at hcap1 ⊢
    obtain ⟨L, hL⟩ : ∃ L, wA.heap.size = L := ⟨_, rfl⟩
    rw [hL] at HH hl5 hl6 hs1
    unfold maxLen at hcm1
    clear hO hB1 hH hL
    go_wp2_with fail
    go_loopw [17] (fun j W => ∃ (t : Nat) (ce : List UInt8), j = .int .i64 t ∧ t ≤ q ∧ ce.length = 32 ∧ Below w.heap.size w W ∧ Arr W b5 (cells8 ce) ∧ Arr W b6 (cells8 ce) ∧ L ≤ W.heap.size ∧ Hold W a1 L (dsOf b)) (fun j _ => q - (intOf j).toNat)
    case atStart => exact ⟨0, d, rfl, by omega, HD.out, HB1.out, by rw [HCD.out]; exact HA51.out, by rw [HCD.out]; exact HA61.out, hs1, HH.out⟩
    case round =>
      obtain ⟨t, ce, rfl, ht, hce, hB, hA5, hA6, hLW, hH⟩ := hrel
      have HB := Lib.hid hB
      by_cases hlt : t < q
      · have hdd : decide ((t : Int) < (q : Int)) = true := by simp; omega
        have hdn : decide (t < q) = true := by simpa using hlt
        have hne : dsOf b ≠ [] := fun e => by have := HQ.out; rw [e] at this; simp at this; omega
        rcases hH with hH | ⟨db, rfl, hLd, hdbl, hrng⟩
        · exact absurd hH hne
        have htq : t < (dsOf b).length := by rw [HQ.out]; exact hlt
        obtain ⟨dx, hdx⟩ : ∃ dx, (dsOf b)[t] = dx := ⟨_, rfl⟩
        have hdxl : dx.length = 32 := by rw [← hdx]; exact dsOf_32 b _ (List.getElem_mem _)
        obtain ⟨cx, hcx⟩ : ∃ cx, cells8 dx = cx := ⟨_, rfl⟩
        obtain ⟨cc, hcc⟩ : ∃ cc, cells8 ce = cc := ⟨_, rfl⟩
        obtain ⟨cn, hcn⟩ : ∃ cn, cells8 (tagged tChain (ce ++ dx)) = cn := ⟨_, rfl⟩
        have hrt := hrng t htq
        rw [hdx, hcx] at hrt
        rw [hcc] at hA5 hA6
        have HLX : Hid (cx.length = 32) := Lib.hid (by rw [← hcx, cells8_len, hdxl])
        have HLC : Hid (cc.length = 32) := Lib.hid (by rw [← hcc, cells8_len, hce])
        have HLN : Hid (cn.length = 32) := Lib.hid (by rw [← hcn, cells8_len, tagged_len])
        have HOX : Hid (∀ v ∈ cx, v.oneCell' = true) := Lib.hid (by rw [← hcx]; exact one_cells8 _)
        have HOC : Hid (∀ v ∈ cc, v.oneCell' = true) := Lib.hid (by rw [← hcc]; exact one_cells8 _)
        have HON : Hid (∀ v ∈ cn, v.oneCell' = true) := Lib.hid (by rw [← hcn]; exact one_cells8 _)
        have HZX : Hid ((Tryd.prog.info? 26).map (·.size) = some cx.length) := by show _ = _; rw [HLX.out]; exact Tryd.info26
        have HZC : Hid ((Tryd.prog.info? 26).map (·.size) = some cc.length) := by show _ = _; rw [HLC.out]; exact Tryd.info26
        have HZN : Hid ((Tryd.prog.info? 26).map (·.size) = some cn.length) := by show _ = _; rw [HLN.out]; exact Tryd.info26
        have HC25 : Hid (∀ W, Below w.heap.size w W → Calls Tryd.prog 25 #[.agg cc.toArray, .agg cx.toArray] W fun e w' => e = .returned (.agg cn.toArray) ∧ Below W.heap.size W w') := Lib.hid fun W hW => by
          have h := chain_any W ce dx hce hdxl (HT.out.below hW h0) (by have := hW.size; omega)
          rw [dv_eq, dv_eq, dv_eq, hcc, hcx, hcn] at h; exact h
        have HC26 : Hid (∀ W, Below w.heap.size w W → Calls Tryd.prog 26 #[.agg cc.toArray, .agg cx.toArray] W fun e w' => e = .returned (.agg cn.toArray) ∧ Below W.heap.size W w') := Lib.hid fun W hW => by
          have h := rchain_any W ce dx hce hdxl
          rw [dv_eq, dv_eq, dv_eq, hcc, hcx, hcn] at h; exact h
        have HTGN : Hid (∀ W B (g c : Nat), Below w.heap.size w W → W.ownsRow B 5 1 (.slice (some ⟨g, 0, none⟩) 64 c) 64 (cc ++ cx) → Calls Tryd.prog 14 #[.string { data := #[99, 104, 97, 105, 110] }, .slice (some ⟨g, 0, none⟩) 64 c] W fun e w' => e = .returned (.agg cn.toArray) ∧ Below W.heap.size W w') := Lib.hid fun W B g c hW hO => by
          have h := tagged_any W { data := #[99, 104, 97, 105, 110] } _ (ce ++ dx) (own_at (B := B) (by rw [← cells8_append, hcc, hcx]; exact hO)) (by decide) (by rw [List.length_append, hce, hdxl]; omega) (HT.out.below hW h0) (by have := hW.size; omega)
          rw [dv_eq, show cells8 (tagged (ByteArray.mk #[99, 104, 97, 105, 110]).data.toList (ce ++ dx)) = cn from hcn] at h
          exact h
        have HEQ : Hid (∀ W : World, (Op.equalIn 10000 26 (.agg cn.toArray) (.agg cn.toArray)).run Tryd.prog W = .ok true W) := Lib.hid fun W => by
          have h := eq_any (tagged tChain (ce ++ dx)) (tagged_len _ _) W
          rw [dv_eq, hcn] at h; exact h
        have HEN : Hid ((tagged tChain (ce ++ dx)).length = 32) := Lib.hid (tagged_len _ _)
        have HCN := Lib.hid hcn
        have hw5 : b5 < wr.heap.size := by omega
        have hw6 : b6 < wr.heap.size := by omega
        have HA5 := Lib.hid hA5
        have HA6 := Lib.hid hA6
        have HRT := Lib.hid hrt
        have HRNG := Lib.hid hrng
        clear hA5 hA6 hrt hrng hdx hcx hcc hcn hce hdxl hne hB
        go_wp2_with (first
          | (refine wpList_load_mid rfl 26 (.tmp 19) (by rfl) db (t * 32) (by rfl) cx _ HRT.out Tryd.underlying26 rfl HZX.out ?_; simp only [Act.put, ch1, ch2, ch3])
          | (refine store_new rfl 26 _ _ (by rfl) wr.heap.size wr.heap.size cx _ (by rfl) (by rfl) ((Below.refl wr.heap.size wr).alloc (Nat.le_refl _) _) (Nat.le_refl _) (Arr.new wr _ 26) (by rw [HLX.out]; rfl) HZX.out HOX.out ?_; intro W3 hB3 hA83 hz3; simp only [Act.put])
          | (refine wpList_load_mid rfl 26 (.tmp 5) (by rfl) b5 0 (by rfl) cc _ (HA5.out.below hB3 hw5).at_ Tryd.underlying26 rfl HZC.out ?_; simp only [Act.put, ch1, ch2, ch3])
          | (refine store_new rfl 26 _ _ (by rfl) W3.heap.size W3.heap.size cc _ (by rfl) (by rfl) ((Below.refl W3.heap.size W3).alloc (Nat.le_refl _) _) (Nat.le_refl _) (Arr.new W3 _ 26) (by rw [HLC.out]; rfl) HZC.out HOC.out ?_; intro W4 hB4 hA94 hz4; simp only [Act.put]))
        have hz3' : wr.heap.size < W3.heap.size := by simp at hz3; omega
        have hz4' : W3.heap.size < W4.heap.size := by simp at hz4; omega
        have hb34 : Below wr.heap.size wr W4 := hB3.trans (hB4.mono (by omega))
        have hE5 := (HA5.out.below hb34 hw5).drew
        have hE6 := (HA6.out.below hb34 hw6).drew
        have hD8 := (hA83.below hB4 hz3').drew
        have hP9 := hA94.drew
        obtain ⟨b8, hb8⟩ : ∃ b8, wr.heap.size = b8 := ⟨_, rfl⟩
        obtain ⟨b9, hb9⟩ : ∃ b9, W3.heap.size = b9 := ⟨_, rfl⟩
        rw [hb8] at hD8
        rw [hb9] at hP9
        rw [hb8, hb9]
        obtain ⟨o, ho⟩ : ∃ o, wr.heap[db]? = o := ⟨_, rfl⟩
        have HOO := Lib.hid ho
        have hDD : W4.drew.heap[db]? = o := (hb34.block db hdbl).trans ho
        have HW4 := Lib.hid (HB.out.trans (hb34.mono HB.out.size))
        have hs4 := hb34.size
        have lt5 : b5 < W4.drew.heap.size := by show b5 < W4.heap.size; omega
        have lt6 : b6 < W4.drew.heap.size := by show b6 < W4.heap.size; omega
        have lt8 : b8 < W4.drew.heap.size := by show b8 < W4.heap.size; omega
        have lt9 : b9 < W4.drew.heap.size := by show b9 < W4.heap.size; omega
        have ltd : db < W4.drew.heap.size := by show db < W4.heap.size; omega
        have hwr := HB.out.size
        have le_b5 : w.heap.size ≤ b5 := by omega
        have le_b6 : w.heap.size ≤ b6 := by omega
        have n5b6 : b5 ≠ b6 := h56
        have n5b8 : b5 ≠ b8 := by omega
        have n5b9 : b5 ≠ b9 := by omega
        have n5db : b5 ≠ db := by omega
        have n6b8 : b6 ≠ b8 := by omega
        have n6b9 : b6 ≠ b9 := by omega
        have n6db : b6 ≠ db := by omega
        have hK8 : K8 w b8 cx W4.drew := ⟨Kept.drew (show Kept w W4 from HW4.out), hD8.at_, lt8⟩
        clear hB3 hA83 hz3 hB4 hA94 hz4 hz3' hz4' hb34 hs4 hb8 hb9 hwr ho hw5 hw6
        go_cut [5] (fun s5 wx => s5 = .pointer (some ⟨b5, 0, none⟩) ∧ Below w.heap.size w wx ∧ Arr wx b5 cn ∧ Arr wx b6 cn ∧ Arr wx b8 cx ∧ Arr wx b9 cc ∧ wx.heap[db]? = o ∧ b5 < wx.heap.size ∧ b6 < wx.heap.size ∧ b8 < wx.heap.size ∧ b9 < wx.heap.size ∧ db < wx.heap.size)
        case first =>
          refine wp_region_held_drew (S := fun W => K8 w b8 cx W) (by kernel_rfl) hK8 (fun hHeld => ?_)
          refine wpAnyH_take (i := 1) (oi := c10b1) rfl (by kernel_rfl) (by kernel_rfl) (by kernel_rfl) (fun _ _ _ h => h) (yieldsIf_load_mid (by rfl) 26 (.tmp 8) (by rfl) b8 0 (by rfl) cx _ (fun W h => h.2.1) Tryd.underlying26 rfl HZX.out) hHeld ?_
          try simp only [c10b1, Act.put, ch1, ch2, ch3]
          refine wpAnyH_take (i := 4) (oi := c10b4) rfl (by kernel_rfl) (by kernel_rfl) (by kernel_rfl) (fun _ _ _ h => h) (yieldsIf_load_mid (by rfl) 26 (.tmp 8) (by rfl) b8 0 (by rfl) cx _ (fun W h => h.2.1) Tryd.underlying26 rfl HZX.out) hHeld ?_
          try simp only [c10b4, Act.put, ch1, ch2, ch3]
          refine wpAnyH_ready (rs := [0, 3]) (by kernel_rfl) (by simp) ?_
          refine AllReadyH.cons (o := c10b0) rfl (fun K hK => ?_) (AllReadyH.cons (o := c10b3) rfl (fun K hK => ?_) AllReadyH.nil)
          · skip
            rw [if_pos (by rfl)]
            refine wp_load_mid 26 (.tmp 5) (by rfl) b5 0 (by rfl) cc _ hE5.at_ Tryd.underlying26 rfl HZC.out ?_
            refine hK.out _ _ hHeld (fun hHeld => ?_)
            clear hK K
            try simp only [c10b0, Act.put, ch1, ch2, ch3]
            refine wpAnyH_ready (rs := [2, 3]) (by kernel_rfl) (by simp) ?_
            refine AllReadyH.cons (o := c10b2) rfl (fun K hK => ?_) (AllReadyH.cons (o := c10b3) rfl (fun K hK => ?_) AllReadyH.nil)
            · skip
              rw [if_pos (by rfl)]
              unfold c10b2
              go_simp
              (with_reducible refine (HC25.out _ hHeld.below).mono ?_)
              rintro e W2 ⟨rfl, hB2⟩
              have hG2 := gbelow (row := none) hB2
              have hS2 := K8.moved hHeld hG2 (fun _ h => by cases h) (by simp)
              have e5_2 := Arr.moved hE5 hG2 lt5 (by simp)
              have lt_e5_2 := Nat.lt_of_lt_of_le lt5 hG2.size
              clear hE5 lt5
              have e6_2 := Arr.moved hE6 hG2 lt6 (by simp)
              have lt_e6_2 := Nat.lt_of_lt_of_le lt6 hG2.size
              clear hE6 lt6
              have d8_2 := Arr.moved hD8 hG2 lt8 (by simp)
              have lt_d8_2 := Nat.lt_of_lt_of_le lt8 hG2.size
              clear hD8 lt8
              have p9_2 := Arr.moved hP9 hG2 lt9 (by simp)
              have lt_p9_2 := Nat.lt_of_lt_of_le lt9 hG2.size
              clear hP9 lt9
              have dd_2 := blk_moved hDD hG2 ltd (by simp)
              have lt_dd_2 := Nat.lt_of_lt_of_le ltd hG2.size
              clear hDD ltd
              go_wp2_with fail
              refine hK.out _ _ hS2 (fun hHeld => ?_)
              clear hK K
              try simp only [c10b2, Act.put, ch1, ch2, ch3]
              refine wpAnyH_ready (rs := [3]) (by kernel_rfl) (by simp) ?_
              refine AllReadyH.cons (o := c10b3) rfl (fun K hK => ?_) AllReadyH.nil
              rw [if_pos (by rfl)]
              refine wp_load_mid 26 (.tmp 6) (by rfl) b6 0 (by rfl) cc _ e6_2.at_ Tryd.underlying26 rfl HZC.out ?_
              refine hK.out _ _ hHeld (fun hHeld => ?_)
              clear hK K
              try simp only [c10b3, Act.put, ch1, ch2, ch3]
              refine wpAnyH_ready (rs := [5]) (by kernel_rfl) (by simp) ?_
              refine AllReadyH.cons (o := c10b5) rfl (fun K hK => ?_) AllReadyH.nil
              rw [if_pos (by rfl)]
              unfold c10b5
              go_simp
              (with_reducible refine (HC26.out _ hHeld.below).mono ?_)
              rintro e W5 ⟨rfl, hB5⟩
              have hG5 := gbelow (row := none) hB5
              have hS5 := K8.moved hHeld hG5 (fun _ h => by cases h) (by simp)
              have e5_5 := Arr.moved e5_2 hG5 lt_e5_2 (by simp)
              have lt_e5_5 := Nat.lt_of_lt_of_le lt_e5_2 hG5.size
              clear e5_2 lt_e5_2
              have e6_5 := Arr.moved e6_2 hG5 lt_e6_2 (by simp)
              have lt_e6_5 := Nat.lt_of_lt_of_le lt_e6_2 hG5.size
              clear e6_2 lt_e6_2
              have d8_5 := Arr.moved d8_2 hG5 lt_d8_2 (by simp)
              have lt_d8_5 := Nat.lt_of_lt_of_le lt_d8_2 hG5.size
              clear d8_2 lt_d8_2
              have p9_5 := Arr.moved p9_2 hG5 lt_p9_2 (by simp)
              have lt_p9_5 := Nat.lt_of_lt_of_le lt_p9_2 hG5.size
              clear p9_2 lt_p9_2
              have dd_5 := blk_moved dd_2 hG5 lt_dd_2 (by simp)
              have lt_dd_5 := Nat.lt_of_lt_of_le lt_dd_2 hG5.size
              clear dd_2 lt_dd_2
              go_wp2_with fail
              refine hK.out _ _ hS5 (fun hHeld => ?_)
              clear hK K
              try simp only [c10b5, Act.put, ch1, ch2, ch3]
              refine wpAnyH_ready (rs := [6]) (by kernel_rfl) (by simp) ?_
              refine AllReadyH.cons (o := c10b6) rfl (fun K hK => ?_) AllReadyH.nil
              rw [if_pos (by rfl)]
              refine wp_st26 (.tmp 5) (.tmp 24) (by rfl) b5 cn _ (by rfl) (by rfl) e5_5 (HLN.out.trans HLC.out.symm) HZN.out HON.out ?_
              intro W6 hG6 e5_6
              have hS6 := K8.moved hHeld hG6 (fun k hk => by cases hk; exact le_b5) (by simpa using Ne.symm n5b8)
              have e6_6 := Arr.moved e6_5 hG6 lt_e6_5 (by simpa using (Ne.symm n5b6))
              have lt_e6_6 := Nat.lt_of_lt_of_le lt_e6_5 hG6.size
              have d8_6 := Arr.moved d8_5 hG6 lt_d8_5 (by simpa using (Ne.symm n5b8))
              have lt_d8_6 := Nat.lt_of_lt_of_le lt_d8_5 hG6.size
              have p9_6 := Arr.moved p9_5 hG6 lt_p9_5 (by simpa using (Ne.symm n5b9))
              have lt_p9_6 := Nat.lt_of_lt_of_le lt_p9_5 hG6.size
              have dd_6 := blk_moved dd_5 hG6 lt_dd_5 (by simpa using (Ne.symm n5db))
              have lt_dd_6 := Nat.lt_of_lt_of_le lt_dd_5 hG6.size
              have lt_e5_6 := Nat.lt_of_lt_of_le lt_e5_5 hG6.size
              clear e5_5
              clear e6_5
              clear d8_5
              clear p9_5
              clear dd_5
              refine hK.out _ _ hS6 (fun hHeld => ?_)
              clear hK K
              try simp only [c10b6, Act.put]
              refine wpAnyH_ready (rs := [7]) (by kernel_rfl) (by simp) ?_
              refine AllReadyH.cons (o := c10b7) rfl (fun K hK => ?_) AllReadyH.nil
              rw [if_pos (by rfl)]
              refine wp_st26 (.tmp 6) (.tmp 27) (by rfl) b6 cn _ (by rfl) (by rfl) e6_6 (HLN.out.trans HLC.out.symm) HZN.out HON.out ?_
              intro W7 hG7 e6_7
              have hS7 := K8.moved hHeld hG7 (fun k hk => by cases hk; exact le_b6) (by simpa using Ne.symm n6b8)
              have e5_7 := Arr.moved e5_6 hG7 lt_e5_6 (by simpa using n5b6)
              have lt_e5_7 := Nat.lt_of_lt_of_le lt_e5_6 hG7.size
              have d8_7 := Arr.moved d8_6 hG7 lt_d8_6 (by simpa using (Ne.symm n6b8))
              have lt_d8_7 := Nat.lt_of_lt_of_le lt_d8_6 hG7.size
              have p9_7 := Arr.moved p9_6 hG7 lt_p9_6 (by simpa using (Ne.symm n6b9))
              have lt_p9_7 := Nat.lt_of_lt_of_le lt_p9_6 hG7.size
              have dd_7 := blk_moved dd_6 hG7 lt_dd_6 (by simpa using (Ne.symm n6db))
              have lt_dd_7 := Nat.lt_of_lt_of_le lt_dd_6 hG7.size
              have lt_e6_7 := Nat.lt_of_lt_of_le lt_e6_6 hG7.size
              clear e5_6
              clear e6_6
              clear d8_6
              clear p9_6
              clear dd_6
              refine hK.out _ _ hS7 (fun hHeld => ?_)
              clear hK K
              try simp only [c10b7, Act.put]
              refine wpAnyH_done (by kernel_rfl) ?_ _
              go_wp2_with fail
              go_meet
              exact ⟨rfl, hHeld.below, e5_7, e6_7, d8_7, p9_7, dd_7, lt_e5_7, lt_e6_7, lt_d8_7, lt_p9_7, lt_dd_7⟩
            · skip
              rw [if_pos (by rfl)]
              refine wp_load_mid 26 (.tmp 6) (by rfl) b6 0 (by rfl) cc _ hE6.at_ Tryd.underlying26 rfl HZC.out ?_
              refine hK.out _ _ hHeld (fun hHeld => ?_)
              clear hK K
              try simp only [c10b3, Act.put, ch1, ch2, ch3]
              refine wpAnyH_ready (rs := [2]) (by kernel_rfl) (by simp) ?_
              refine AllReadyH.cons (o := c10b2) rfl (fun K hK => ?_) AllReadyH.nil
              rw [if_pos (by rfl)]
              unfold c10b2
              go_simp
              (with_reducible refine (HC25.out _ hHeld.below).mono ?_)
              rintro e W2 ⟨rfl, hB2⟩
              have hG2 := gbelow (row := none) hB2
              have hS2 := K8.moved hHeld hG2 (fun _ h => by cases h) (by simp)
              have e5_2 := Arr.moved hE5 hG2 lt5 (by simp)
              have lt_e5_2 := Nat.lt_of_lt_of_le lt5 hG2.size
              clear hE5 lt5
              have e6_2 := Arr.moved hE6 hG2 lt6 (by simp)
              have lt_e6_2 := Nat.lt_of_lt_of_le lt6 hG2.size
              clear hE6 lt6
              have d8_2 := Arr.moved hD8 hG2 lt8 (by simp)
              have lt_d8_2 := Nat.lt_of_lt_of_le lt8 hG2.size
              clear hD8 lt8
              have p9_2 := Arr.moved hP9 hG2 lt9 (by simp)
              have lt_p9_2 := Nat.lt_of_lt_of_le lt9 hG2.size
              clear hP9 lt9
              have dd_2 := blk_moved hDD hG2 ltd (by simp)
              have lt_dd_2 := Nat.lt_of_lt_of_le ltd hG2.size
              clear hDD ltd
              go_wp2_with fail
              refine hK.out _ _ hS2 (fun hHeld => ?_)
              clear hK K
              try simp only [c10b2, Act.put, ch1, ch2, ch3]
              refine wpAnyH_ready (rs := [5]) (by kernel_rfl) (by simp) ?_
              refine AllReadyH.cons (o := c10b5) rfl (fun K hK => ?_) AllReadyH.nil
              rw [if_pos (by rfl)]
              unfold c10b5
              go_simp
              (with_reducible refine (HC26.out _ hHeld.below).mono ?_)
              rintro e W5 ⟨rfl, hB5⟩
              have hG5 := gbelow (row := none) hB5
              have hS5 := K8.moved hHeld hG5 (fun _ h => by cases h) (by simp)
              have e5_5 := Arr.moved e5_2 hG5 lt_e5_2 (by simp)
              have lt_e5_5 := Nat.lt_of_lt_of_le lt_e5_2 hG5.size
              clear e5_2 lt_e5_2
              have e6_5 := Arr.moved e6_2 hG5 lt_e6_2 (by simp)
              have lt_e6_5 := Nat.lt_of_lt_of_le lt_e6_2 hG5.size
              clear e6_2 lt_e6_2
              have d8_5 := Arr.moved d8_2 hG5 lt_d8_2 (by simp)
              have lt_d8_5 := Nat.lt_of_lt_of_le lt_d8_2 hG5.size
              clear d8_2 lt_d8_2
              have p9_5 := Arr.moved p9_2 hG5 lt_p9_2 (by simp)
              have lt_p9_5 := Nat.lt_of_lt_of_le lt_p9_2 hG5.size
              clear p9_2 lt_p9_2
              have dd_5 := blk_moved dd_2 hG5 lt_dd_2 (by simp)
              have lt_dd_5 := Nat.lt_of_lt_of_le lt_dd_2 hG5.size
              clear dd_2 lt_dd_2
              go_wp2_with fail
              refine hK.out _ _ hS5 (fun hHeld => ?_)
              clear hK K
              try simp only [c10b5, Act.put, ch1, ch2, ch3]
              refine wpAnyH_ready (rs := [6]) (by kernel_rfl) (by simp) ?_
              refine AllReadyH.cons (o := c10b6) rfl (fun K hK => ?_) AllReadyH.nil
              rw [if_pos (by rfl)]
              refine wp_st26 (.tmp 5) (.tmp 24) (by rfl) b5 cn _ (by rfl) (by rfl) e5_5 (HLN.out.trans HLC.out.symm) HZN.out HON.out ?_
              intro W6 hG6 e5_6
              have hS6 := K8.moved hHeld hG6 (fun k hk => by cases hk; exact le_b5) (by simpa using Ne.symm n5b8)
              have e6_6 := Arr.moved e6_5 hG6 lt_e6_5 (by simpa using (Ne.symm n5b6))
              have lt_e6_6 := Nat.lt_of_lt_of_le lt_e6_5 hG6.size
              have d8_6 := Arr.moved d8_5 hG6 lt_d8_5 (by simpa using (Ne.symm n5b8))
              have lt_d8_6 := Nat.lt_of_lt_of_le lt_d8_5 hG6.size
              have p9_6 := Arr.moved p9_5 hG6 lt_p9_5 (by simpa using (Ne.symm n5b9))
              have lt_p9_6 := Nat.lt_of_lt_of_le lt_p9_5 hG6.size
              have dd_6 := blk_moved dd_5 hG6 lt_dd_5 (by simpa using (Ne.symm n5db))
              have lt_dd_6 := Nat.lt_of_lt_of_le lt_dd_5 hG6.size
              have lt_e5_6 := Nat.lt_of_lt_of_le lt_e5_5 hG6.size
              clear e5_5
              clear e6_5
              clear d8_5
              clear p9_5
              clear dd_5
              refine hK.out _ _ hS6 (fun hHeld => ?_)
              clear hK K
              try simp only [c10b6, Act.put]
              refine wpAnyH_ready (rs := [7]) (by kernel_rfl) (by simp) ?_
              refine AllReadyH.cons (o := c10b7) rfl (fun K hK => ?_) AllReadyH.nil
              rw [if_pos (by rfl)]
              refine wp_st26 (.tmp 6) (.tmp 27) (by rfl) b6 cn _ (by rfl) (by rfl) e6_6 (HLN.out.trans HLC.out.symm) HZN.out HON.out ?_
              intro W7 hG7 e6_7
              have hS7 := K8.moved hHeld hG7 (fun k hk => by cases hk; exact le_b6) (by simpa using Ne.symm n6b8)
              have e5_7 := Arr.moved e5_6 hG7 lt_e5_6 (by simpa using n5b6)
              have lt_e5_7 := Nat.lt_of_lt_of_le lt_e5_6 hG7.size
              have d8_7 := Arr.moved d8_6 hG7 lt_d8_6 (by simpa using (Ne.symm n6b8))
              have lt_d8_7 := Nat.lt_of_lt_of_le lt_d8_6 hG7.size
              have p9_7 := Arr.moved p9_6 hG7 lt_p9_6 (by simpa using (Ne.symm n6b9))
              have lt_p9_7 := Nat.lt_of_lt_of_le lt_p9_6 hG7.size
              have dd_7 := blk_moved dd_6 hG7 lt_dd_6 (by simpa using (Ne.symm n6db))
              have lt_dd_7 := Nat.lt_of_lt_of_le lt_dd_6 hG7.size
              have lt_e6_7 := Nat.lt_of_lt_of_le lt_e6_6 hG7.size
              clear e5_6
              clear e6_6
              clear d8_6
              clear p9_6
              clear dd_6
              refine hK.out _ _ hS7 (fun hHeld => ?_)
              clear hK K
              try simp only [c10b7, Act.put]
              refine wpAnyH_done (by kernel_rfl) ?_ _
              go_wp2_with fail
              go_meet
              exact ⟨rfl, hHeld.below, e5_7, e6_7, d8_7, p9_7, dd_7, lt_e5_7, lt_e6_7, lt_d8_7, lt_p9_7, lt_dd_7⟩
          · skip
            rw [if_pos (by rfl)]
            refine wp_load_mid 26 (.tmp 6) (by rfl) b6 0 (by rfl) cc _ hE6.at_ Tryd.underlying26 rfl HZC.out ?_
            refine hK.out _ _ hHeld (fun hHeld => ?_)
            clear hK K
            try simp only [c10b3, Act.put, ch1, ch2, ch3]
            refine wpAnyH_ready (rs := [0]) (by kernel_rfl) (by simp) ?_
            refine AllReadyH.cons (o := c10b0) rfl (fun K hK => ?_) AllReadyH.nil
            rw [if_pos (by rfl)]
            refine wp_load_mid 26 (.tmp 5) (by rfl) b5 0 (by rfl) cc _ hE5.at_ Tryd.underlying26 rfl HZC.out ?_
            refine hK.out _ _ hHeld (fun hHeld => ?_)
            clear hK K
            try simp only [c10b0, Act.put, ch1, ch2, ch3]
            refine wpAnyH_ready (rs := [2]) (by kernel_rfl) (by simp) ?_
            refine AllReadyH.cons (o := c10b2) rfl (fun K hK => ?_) AllReadyH.nil
            rw [if_pos (by rfl)]
            unfold c10b2
            go_simp
            (with_reducible refine (HC25.out _ hHeld.below).mono ?_)
            rintro e W2 ⟨rfl, hB2⟩
            have hG2 := gbelow (row := none) hB2
            have hS2 := K8.moved hHeld hG2 (fun _ h => by cases h) (by simp)
            have e5_2 := Arr.moved hE5 hG2 lt5 (by simp)
            have lt_e5_2 := Nat.lt_of_lt_of_le lt5 hG2.size
            clear hE5 lt5
            have e6_2 := Arr.moved hE6 hG2 lt6 (by simp)
            have lt_e6_2 := Nat.lt_of_lt_of_le lt6 hG2.size
            clear hE6 lt6
            have d8_2 := Arr.moved hD8 hG2 lt8 (by simp)
            have lt_d8_2 := Nat.lt_of_lt_of_le lt8 hG2.size
            clear hD8 lt8
            have p9_2 := Arr.moved hP9 hG2 lt9 (by simp)
            have lt_p9_2 := Nat.lt_of_lt_of_le lt9 hG2.size
            clear hP9 lt9
            have dd_2 := blk_moved hDD hG2 ltd (by simp)
            have lt_dd_2 := Nat.lt_of_lt_of_le ltd hG2.size
            clear hDD ltd
            go_wp2_with fail
            refine hK.out _ _ hS2 (fun hHeld => ?_)
            clear hK K
            try simp only [c10b2, Act.put, ch1, ch2, ch3]
            refine wpAnyH_ready (rs := [5]) (by kernel_rfl) (by simp) ?_
            refine AllReadyH.cons (o := c10b5) rfl (fun K hK => ?_) AllReadyH.nil
            rw [if_pos (by rfl)]
            unfold c10b5
            go_simp
            (with_reducible refine (HC26.out _ hHeld.below).mono ?_)
            rintro e W5 ⟨rfl, hB5⟩
            have hG5 := gbelow (row := none) hB5
            have hS5 := K8.moved hHeld hG5 (fun _ h => by cases h) (by simp)
            have e5_5 := Arr.moved e5_2 hG5 lt_e5_2 (by simp)
            have lt_e5_5 := Nat.lt_of_lt_of_le lt_e5_2 hG5.size
            clear e5_2 lt_e5_2
            have e6_5 := Arr.moved e6_2 hG5 lt_e6_2 (by simp)
            have lt_e6_5 := Nat.lt_of_lt_of_le lt_e6_2 hG5.size
            clear e6_2 lt_e6_2
            have d8_5 := Arr.moved d8_2 hG5 lt_d8_2 (by simp)
            have lt_d8_5 := Nat.lt_of_lt_of_le lt_d8_2 hG5.size
            clear d8_2 lt_d8_2
            have p9_5 := Arr.moved p9_2 hG5 lt_p9_2 (by simp)
            have lt_p9_5 := Nat.lt_of_lt_of_le lt_p9_2 hG5.size
            clear p9_2 lt_p9_2
            have dd_5 := blk_moved dd_2 hG5 lt_dd_2 (by simp)
            have lt_dd_5 := Nat.lt_of_lt_of_le lt_dd_2 hG5.size
            clear dd_2 lt_dd_2
            go_wp2_with fail
            refine hK.out _ _ hS5 (fun hHeld => ?_)
            clear hK K
            try simp only [c10b5, Act.put, ch1, ch2, ch3]
            refine wpAnyH_ready (rs := [6]) (by kernel_rfl) (by simp) ?_
            refine AllReadyH.cons (o := c10b6) rfl (fun K hK => ?_) AllReadyH.nil
            rw [if_pos (by rfl)]
            refine wp_st26 (.tmp 5) (.tmp 24) (by rfl) b5 cn _ (by rfl) (by rfl) e5_5 (HLN.out.trans HLC.out.symm) HZN.out HON.out ?_
            intro W6 hG6 e5_6
            have hS6 := K8.moved hHeld hG6 (fun k hk => by cases hk; exact le_b5) (by simpa using Ne.symm n5b8)
            have e6_6 := Arr.moved e6_5 hG6 lt_e6_5 (by simpa using (Ne.symm n5b6))
            have lt_e6_6 := Nat.lt_of_lt_of_le lt_e6_5 hG6.size
            have d8_6 := Arr.moved d8_5 hG6 lt_d8_5 (by simpa using (Ne.symm n5b8))
            have lt_d8_6 := Nat.lt_of_lt_of_le lt_d8_5 hG6.size
            have p9_6 := Arr.moved p9_5 hG6 lt_p9_5 (by simpa using (Ne.symm n5b9))
            have lt_p9_6 := Nat.lt_of_lt_of_le lt_p9_5 hG6.size
            have dd_6 := blk_moved dd_5 hG6 lt_dd_5 (by simpa using (Ne.symm n5db))
            have lt_dd_6 := Nat.lt_of_lt_of_le lt_dd_5 hG6.size
            have lt_e5_6 := Nat.lt_of_lt_of_le lt_e5_5 hG6.size
            clear e5_5
            clear e6_5
            clear d8_5
            clear p9_5
            clear dd_5
            refine hK.out _ _ hS6 (fun hHeld => ?_)
            clear hK K
            try simp only [c10b6, Act.put]
            refine wpAnyH_ready (rs := [7]) (by kernel_rfl) (by simp) ?_
            refine AllReadyH.cons (o := c10b7) rfl (fun K hK => ?_) AllReadyH.nil
            rw [if_pos (by rfl)]
            refine wp_st26 (.tmp 6) (.tmp 27) (by rfl) b6 cn _ (by rfl) (by rfl) e6_6 (HLN.out.trans HLC.out.symm) HZN.out HON.out ?_
            intro W7 hG7 e6_7
            have hS7 := K8.moved hHeld hG7 (fun k hk => by cases hk; exact le_b6) (by simpa using Ne.symm n6b8)
            have e5_7 := Arr.moved e5_6 hG7 lt_e5_6 (by simpa using n5b6)
            have lt_e5_7 := Nat.lt_of_lt_of_le lt_e5_6 hG7.size
            have d8_7 := Arr.moved d8_6 hG7 lt_d8_6 (by simpa using (Ne.symm n6b8))
            have lt_d8_7 := Nat.lt_of_lt_of_le lt_d8_6 hG7.size
            have p9_7 := Arr.moved p9_6 hG7 lt_p9_6 (by simpa using (Ne.symm n6b9))
            have lt_p9_7 := Nat.lt_of_lt_of_le lt_p9_6 hG7.size
            have dd_7 := blk_moved dd_6 hG7 lt_dd_6 (by simpa using (Ne.symm n6db))
            have lt_dd_7 := Nat.lt_of_lt_of_le lt_dd_6 hG7.size
            have lt_e6_7 := Nat.lt_of_lt_of_le lt_e6_6 hG7.size
            clear e5_6
            clear e6_6
            clear d8_6
            clear p9_6
            clear dd_6
            refine hK.out _ _ hS7 (fun hHeld => ?_)
            clear hK K
            try simp only [c10b7, Act.put]
            refine wpAnyH_done (by kernel_rfl) ?_ _
            go_wp2_with fail
            go_meet
            exact ⟨rfl, hHeld.below, e5_7, e6_7, d8_7, p9_7, dd_7, lt_e5_7, lt_e6_7, lt_d8_7, lt_p9_7, lt_dd_7⟩
        case rest =>
          obtain ⟨rfl, hBB, hN5, hN6, hN8, hN9, hOB, ht5, ht6, ht8, ht9, htd⟩ := hcut
          obtain ⟨wB, rfl⟩ : ∃ x : World, x = wc := ⟨_, rfl⟩
          have HBB := Lib.hid hBB
          have HR5 := Lib.hid (fun W (hW : Kept wB W) => (hN5.below hW.below ht5).at_)
          have HR6 := Lib.hid (fun W (hW : Kept wB W) => (hN6.below hW.below ht6).at_)
          have HP8 := Lib.hid (fun W (hW : Kept wB W) => (piece_row (n := 32) (c := 32) ((hN8.below hW.below ht8).at_) : Piece W (.slice (some ⟨b8, 0, none⟩) 32 32) 32 cx))
          have HP9 := Lib.hid (fun W (hW : Kept wB W) => (piece_row (n := 32) (c := 32) ((hN9.below hW.below ht9).at_) : Piece W (.slice (some ⟨b9, 0, none⟩) 32 32) 32 cc))
          have HTG := Lib.hid (fun W g c (hW : Kept wB W) (hO : W.ownsRow wB.heap.size 5 1 (.slice (some ⟨g, 0, none⟩) 64 c) 64 (cc ++ cx)) => HTGN.out W _ g c (HBB.out.trans (hW.below.mono HBB.out.size)) hO)
          have HFIN : Hid (∀ W, Kept wB W → Below w.heap.size w W ∧ Arr W b5 (cells8 (tagged tChain (ce ++ dx))) ∧ Arr W b6 (cells8 (tagged tChain (ce ++ dx))) ∧ L ≤ W.heap.size ∧ Hold W (some ⟨db, 0, none⟩) L (dsOf b)) := Lib.hid fun W hW => by
            rw [HCN.out]
            have hs := hW.below.size
            refine ⟨HBB.out.trans (hW.below.mono HBB.out.size), hN5.below hW.below ht5, hN6.below hW.below ht6, by omega, .inr ⟨db, rfl, hLd, by omega, fun i hi j v hv => ?_⟩⟩
            rw [World.cell?_of_block (a := ⟨db, i * 32 + j, none⟩) (((hW.below.block db htd).trans hOB).trans HOO.out.symm)]
            exact HRNG.out i hi j v hv
          have hq1 := HEQ.out
          have hg26 := HGT.out
          clear hBB hN5 hN6 hN8 hN9 hOB
          go_wp2_with fail
          refine wp_region_held_drew (S := fun W => Kept wB W) (by kernel_rfl) ((Kept.refl wB).drew) (fun hHeld => ?_)
          refine wpAnyH_take (i := 0) (oi := c10c0) rfl (by kernel_rfl) (by kernel_rfl) (by kernel_rfl) (fun _ _ _ h => h) (yieldsIf_load_mid (by rfl) 26 (.tmp 5) (by rfl) b5 0 (by rfl) cn _ (fun W h => HR5.out W h) Tryd.underlying26 rfl HZN.out) hHeld ?_
          try simp only [c10c0, Act.put, ch1, ch2, ch3]
          refine wpAnyH_take (i := 1) (oi := c10c1) rfl (by kernel_rfl) (by kernel_rfl) (by kernel_rfl) (fun _ _ _ h => h) (yieldsIf_load_mid (by rfl) 26 (.tmp 6) (by rfl) b6 0 (by rfl) cn _ (fun W h => HR6.out W h) Tryd.underlying26 rfl HZN.out) hHeld ?_
          try simp only [c10c1, Act.put, ch1, ch2, ch3]
          refine wpAnyH_ready (rs := [2]) (by kernel_rfl) (by simp) ?_
          refine AllReadyH.cons (o := c10c2) rfl (fun K hK => ?_) AllReadyH.nil
          rw [if_pos (by rfl)]
          unfold c10c2
          go_simp
          refine hK.out _ _ hHeld (fun hHeld => ?_)
          clear hK K
          try simp only [c10c2, Act.put, ch1, ch2, ch3]
          refine wpAnyH_take (i := 3) (oi := c10c3) (v := ?_) rfl (by kernel_rfl) (by kernel_rfl) (by kernel_rfl) (fun _ _ _ h => h) (Or.inl ⟨by rfl, ?_⟩) hHeld ?_
          rotate_left
          · (intro w hSw; (try dsimp only at hSw); unfold c10c3; go_simp <;> with_reducible rfl)
          try simp only [c10c3, Act.put, ch1, ch2, ch3]
          refine wpAnyH_take (i := 4) (oi := c10c4) rfl (by kernel_rfl) (by kernel_rfl) (by kernel_rfl) (fun _ _ _ h => h) (yieldsIf_load_mid (by rfl) 26 (.tmp 5) (by rfl) b5 0 (by rfl) cn _ (fun W h => HR5.out W h) Tryd.underlying26 rfl HZN.out) hHeld ?_
          try simp only [c10c4, Act.put, ch1, ch2, ch3]
          refine wpAnyH_take (i := 6) (oi := c10c6) (v := ?_) rfl (by kernel_rfl) (by kernel_rfl) (by kernel_rfl) (fun _ _ _ h => h) (Or.inl ⟨by rfl, ?_⟩) hHeld ?_
          rotate_left
          · (intro w hSw; (try dsimp only at hSw); unfold c10c6; go_simp <;> with_reducible rfl)
          try simp only [c10c6, Act.put, ch1, ch2, ch3]
          refine wpAnyH_take (i := 8) (oi := c10c8) (v := ?_) rfl (by kernel_rfl) (by kernel_rfl) (by kernel_rfl) (fun _ _ _ h => h) (Or.inl ⟨by rfl, ?_⟩) hHeld ?_
          rotate_left
          · (intro w hSw; (try dsimp only at hSw); unfold c10c8; go_simp <;> with_reducible rfl)
          try simp only [c10c8, Act.put, ch1, ch2, ch3]
          refine wpAnyH_ready (rs := [5]) (by kernel_rfl) (by simp) ?_
          refine AllReadyH.cons (o := c10c5) rfl (fun K hK => ?_) AllReadyH.nil
          rw [if_pos (by rfl)]
          refine wp_new22 (by rfl) ?_
          intro g5 W5 hle5 hlt5 hG5 hn5
          have row_5 := hn5 wB.heap.size hHeld.below.size
          clear hn5
          have hS5 := Kept.moved hHeld hG5 (fun _ h => by cases h)
          refine hK.out _ _ hS5 (fun hHeld => ?_)
          clear hK K
          try simp only [c10c5, Act.put, ch1, ch2, ch3]
          refine wpAnyH_ready (rs := [7]) (by kernel_rfl) (by simp) ?_
          refine AllReadyH.cons (o := c10c7) rfl (fun K hK => ?_) AllReadyH.nil
          rw [if_pos (by rfl)]
          refine wp_piece 22 5 j0 _ 1 1 Tryd.underlying22 HJ.out HY0.out HY1.out HY2.out rfl (by omega) (.tmp 33) (.tmp 34) (by rfl) (base := wB.heap.size) (by rfl) row_5 (by rfl) (HP9.out _ hHeld) HLC.out HOC.out (by unfold maxLen; omega) (by omega) hHeld.below.size (32) (rfl) (cc) (by simp) ?_
          intro hb7 g7 c7 W7 row_7 hG7 hat7
          have hS7 := Kept.moved hHeld hG7 (fun k hk => by cases hk; exact hb7)
          clear row_5
          have lt_row_7 := (row_7.lt g7 rfl).2
          refine hK.out _ _ hS7 (fun hHeld => ?_)
          clear hK K
          try simp only [c10c7, Act.put, ch1, ch2, ch3]
          refine wpAnyH_ready (rs := [9]) (by kernel_rfl) (by simp) ?_
          refine AllReadyH.cons (o := c10c9) rfl (fun K hK => ?_) AllReadyH.nil
          rw [if_pos (by rfl)]
          refine wp_piece 22 5 j0 _ 1 1 Tryd.underlying22 HJ.out HY0.out HY1.out HY2.out rfl (by omega) (.tmp 35) (.tmp 36) (by rfl) (base := wB.heap.size) (by rfl) row_7 (by rfl) (HP8.out _ hHeld) HLX.out HOX.out (by unfold maxLen; omega) (by omega) hHeld.below.size (64) (rfl) (cc ++ cx) (rfl) ?_
          intro hb9 g9 c9 W9 row_9 hG9 hat9
          have hS9 := Kept.moved hHeld hG9 (fun k hk => by cases hk; exact hb9)
          clear row_7
          have lt_row_9 := (row_9.lt g9 rfl).2
          refine hK.out _ _ hS9 (fun hHeld => ?_)
          clear hK K
          try simp only [c10c9, Act.put, ch1, ch2, ch3]
          refine wpAnyH_ready (rs := [10]) (by kernel_rfl) (by simp) ?_
          refine AllReadyH.cons (o := c10c10) rfl (fun K hK => ?_) AllReadyH.nil
          rw [if_pos (by rfl)]
          unfold c10c10
          go_simp
          (with_reducible refine (HTG.out _ _ _ hHeld row_9).mono ?_)
          rintro e W10 ⟨rfl, hB10⟩
          have hG10 := gbelow (row := none) hB10
          have hS10 := Kept.moved hHeld hG10 (fun _ h => by cases h)
          have row_10 := own_moved row_9 hG10  (by simp)
          have lt_row_10 := Nat.lt_of_lt_of_le lt_row_9 hG10.size
          clear row_9 lt_row_9
          go_wp2_with fail
          refine hK.out _ _ hS10 (fun hHeld => ?_)
          clear hK K
          try simp only [c10c10, Act.put, ch1, ch2, ch3]
          refine wpAnyH_ready (rs := [11]) (by kernel_rfl) (by simp) ?_
          refine AllReadyH.cons (o := c10c11) rfl (fun K hK => ?_) AllReadyH.nil
          rw [if_pos (by rfl)]
          unfold c10c11
          go_simp
          refine hK.out _ _ hHeld (fun hHeld => ?_)
          clear hK K
          try simp only [c10c11, Act.put, ch1, ch2, ch3]
          refine wpAnyH_take (i := 12) (oi := c10c12) (v := ?_) rfl (by kernel_rfl) (by kernel_rfl) (by kernel_rfl) (fun _ _ _ h => h) (Or.inl ⟨by rfl, ?_⟩) hHeld ?_
          rotate_left
          · (intro w hSw; (try dsimp only at hSw); unfold c10c12; go_simp <;> with_reducible rfl)
          try simp only [c10c12, Act.put, ch1, ch2, ch3]
          refine wpAnyH_done (by kernel_rfl) ?_ _
          have HK := Lib.hid hHeld
          clear hHeld
          go_wp2
          go_roundw
          case rel => exact ⟨t + 1, _, by simp, by omega, HEN.out, HFIN.out _ HK.out⟩
          case measure => simp [intOf]; omega
      · obtain rfl : t = q := by omega
        have hdd : decide ((t : Int) < (t : Int)) = false := by simp
        clear hA5 hA6 hH hB
        go_wp2
        go_ret
        exact ⟨rfl, HB.out⟩
end Go.Proofs.YtnddejhbncgchaaDoor
