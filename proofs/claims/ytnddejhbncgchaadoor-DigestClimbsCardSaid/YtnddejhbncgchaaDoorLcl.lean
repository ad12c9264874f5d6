/- The law DigestClimbs, walked. -/
import Derived.Test.YtnddejhbncgchaaDoorReg
namespace Go.Proofs.YtnddejhbncgchaaDoor
open Go.RowKit

def c6a0 : Oper := { dst := some 42, op := Go.Op.load 26 (Go.Operand.tmp 6), type := 26, pos := "law.go:102", after := #[], guard := none }
def c6a1 : Oper := { dst := some 43, op := Go.Op.move (Go.Operand.tmp 5), type := 3, pos := "law.go:102", after := #[], guard := none }
def c6a2 : Oper := { dst := some 44, op := Go.Op.move (Go.Operand.tmp 3), type := 30, pos := "law.go:102", after := #[], guard := none }
def c6a3 : Oper := { dst := some 45, op := Go.Op.call { callee := Go.Callee.builtin Go.Builtin.len, args := #[Go.Operand.tmp 44], argTypes := #[30] }, type := 3, pos := "law.go:102", after := #[{ on := 2, ground := Go.Ground.data }], guard := none }
def c6a4 : Oper := { dst := some 46, op := Go.Op.buildSlice 30 0 #[], type := 30, pos := "law.go:102", after := #[], guard := none }
def c6a5 : Oper := { dst := some 47, op := Go.Op.move (Go.Operand.tmp 7), type := 30, pos := "law.go:102", after := #[], guard := none }
def c6a6 : Oper := { dst := some 48, op := Go.Op.call { callee := Go.Callee.builtin Go.Builtin.append, args := #[Go.Operand.tmp 46, Go.Operand.tmp 47], argTypes := #[30, 30] }, type := 30, pos := "law.go:102", after := #[{ on := 4, ground := Go.Ground.data }, { on := 5, ground := Go.Ground.data }], guard := none }
def c6a7 : Oper := { dst := some 49, op := Go.Op.load 26 (Go.Operand.tmp 6), type := 26, pos := "law.go:102", after := #[], guard := none }
def c6a8 : Oper := { dst := some 50, op := Go.Op.buildSlice 30 1 #[(0, Go.Operand.tmp 49)], type := 30, pos := "law.go:102", after := #[{ on := 7, ground := Go.Ground.data }], guard := none }
def c6a9 : Oper := { dst := some 51, op := Go.Op.call { callee := Go.Callee.builtin Go.Builtin.append, args := #[Go.Operand.tmp 48, Go.Operand.tmp 50], argTypes := #[30, 30] }, type := 30, pos := "law.go:102", after := #[{ on := 6, ground := Go.Ground.data }, { on := 8, ground := Go.Ground.data }, { on := 6, ground := Go.Ground.chain }], guard := none }
def c6a10 : Oper := { dst := some 52, op := Go.Op.call { callee := Go.Callee.value (Go.Operand.func 22), args := #[Go.Operand.tmp 42, Go.Operand.tmp 43, Go.Operand.tmp 45, Go.Operand.tmp 51], argTypes := #[26, 3, 3, 30] }, type := 39, pos := "law.go:102", after := #[{ on := 0, ground := Go.Ground.data }, { on := 1, ground := Go.Ground.data }, { on := 3, ground := Go.Ground.data }, { on := 9, ground := Go.Ground.data }, { on := 9, ground := Go.Ground.chain }], guard := none }
def c6a11 : Oper := { dst := some 41, op := Go.Op.move (Go.Operand.tmp 52), type := 39, pos := "law.go:102", after := #[{ on := 10, ground := Go.Ground.data }], guard := none }
def c6a12 : Oper := { dst := some 53, op := Go.Op.extract (Go.Operand.tmp 41) 0, type := 26, pos := "law.go:102", after := #[{ on := 11, ground := Go.Ground.data }], guard := none }
def c6a13 : Oper := { dst := some 54, op := Go.Op.extract (Go.Operand.tmp 41) 1, type := 34, pos := "law.go:102", after := #[{ on := 11, ground := Go.Ground.data }, { on := 15, ground := Go.Ground.gcOnly Go.Departure.lateStores }], guard := none }
def c6a14 : Oper := { dst := some 11, op := Go.Op.alloc 26, type := 0, pos := "law.go:102", after := #[], guard := none }
def c6a15 : Oper := { dst := none, op := Go.Op.store 26 (Go.Operand.tmp 11) (Go.Operand.tmp 53), type := 0, pos := "law.go:102", after := #[{ on := 14, ground := Go.Ground.data }, { on := 12, ground := Go.Ground.data }, { on := 10, ground := Go.Ground.chain }, { on := 0, ground := Go.Ground.phase }, { on := 1, ground := Go.Ground.phase }, { on := 2, ground := Go.Ground.phase }, { on := 3, ground := Go.Ground.phase }, { on := 4, ground := Go.Ground.phase }, { on := 5, ground := Go.Ground.phase }, { on := 6, ground := Go.Ground.phase }, { on := 7, ground := Go.Ground.phase }, { on := 8, ground := Go.Ground.phase }, { on := 9, ground := Go.Ground.phase }, { on := 10, ground := Go.Ground.phase }, { on := 11, ground := Go.Ground.phase }, { on := 12, ground := Go.Ground.phase }, { on := 13, ground := Go.Ground.textOnly Go.Departure.lateStores }, { on := 14, ground := Go.Ground.phase }], guard := none }
def c6a16 : Oper := { dst := some 12, op := Go.Op.assign (Go.Operand.tmp 54), type := 34, pos := "law.go:102", after := #[{ on := 13, ground := Go.Ground.data }, { on := 15, ground := Go.Ground.chain }, { on := 0, ground := Go.Ground.phase }, { on := 1, ground := Go.Ground.phase }, { on := 2, ground := Go.Ground.phase }, { on := 3, ground := Go.Ground.phase }, { on := 4, ground := Go.Ground.phase }, { on := 5, ground := Go.Ground.phase }, { on := 6, ground := Go.Ground.phase }, { on := 7, ground := Go.Ground.phase }, { on := 8, ground := Go.Ground.phase }, { on := 9, ground := Go.Ground.phase }, { on := 10, ground := Go.Ground.phase }, { on := 11, ground := Go.Ground.phase }, { on := 12, ground := Go.Ground.phase }, { on := 13, ground := Go.Ground.phase }, { on := 14, ground := Go.Ground.phase }, { on := 15, ground := Go.Ground.phase }], guard := none }

set_option maxRecDepth 100000 in
set_option maxHeartbeats 8000000 in
theorem lawClimbs (w : World) (v : Value) (b : List UInt8) (hv : BytesAt w w.heap.size v b) (hT : Tab w) (h0 : 0 < w.heap.size) :
    Calls Tryd.prog 6 #[v] w fun e w' => e = .returned (.bool true) ∧ Below w.heap.size w w' := by
  obtain ⟨i0, hi0, hz0, hz1, hz2⟩ := info_parts Tryd.info26z
  have HI := Lib.hid hi0
  have HZ0 := Lib.hid hz0
  have HZ1 := Lib.hid hz1
  have HZ2 := Lib.hid hz2
  have hv' := hv
  obtain ⟨a, cap, rfl, hnc, hcm, _⟩ := hv'
  have HV := Lib.hid hv
  have HT := Lib.hid hT
  have HSN := Lib.hid (sane_any w hT h0)
  have hlen := dsOf_len b
  obtain ⟨q, hq⟩ : ∃ q, (dsOf b).length = q := ⟨_, rfl⟩
  rw [hq] at hlen
  have HQ := Lib.hid hq
  have hq24 : q ≤ 24 := by omega
  obtain ⟨ct, hct⟩ : ∃ ct, cells8 (tree (dsOf b)) = ct := ⟨_, rfl⟩
  have hlt' : ct.length = 32 := by rw [← hct, cells8_len, tree_len]
  have HCT := Lib.hid hct
  have HZT : Hid ((Tryd.prog.info? 26).map (·.size) = some ct.length) := by show _ = _; rw [hlt']; exact Tryd.info26
  have HOT : Hid (∀ v ∈ ct, v.oneCell' = true) := Lib.hid (by rw [← hct]; exact one_cells8 _)
  have HLT := Lib.hid hlt'
  have hq1 : ∀ W : World, (Op.equalIn 10000 26 (.agg ct.toArray) (.agg ct.toArray)).run Tryd.prog W = .ok true W := fun W => by
    have h := eq_any (tree (dsOf b)) (tree_len _) W
    rw [dv_eq, hct] at h; exact h
  have hg26 : Tryd.prog.eqGuardType Tryd.prog.depth 26 = false := by kernel_rfl
  obtain ⟨cz, hcz⟩ : ∃ cz, cells8 z32 = cz := ⟨_, rfl⟩
  have hlz : cz.length = 32 := by rw [← hcz, cells8_len, z32_len]
  have HCZ := Lib.hid hcz
  have HZZ : Hid ((Tryd.prog.info? 26).map (·.size) = some cz.length) := by show _ = _; rw [hlz]; exact Tryd.info26
  have HOZ : Hid (∀ v ∈ cz, v.oneCell' = true) := Lib.hid (by rw [← hcz]; exact one_cells8 _)
  have HLZ := Lib.hid hlz
  have HEQ := Lib.hid hq1
  have HGT := Lib.hid hg26
  clear hv hT hq hlen hi0 hz0 hz1 hz2 hct hlt' hcz hlz hq1 hg26
  go_enter Tryd.func6, Tryd.ntmps6
  go_wp2_with fail
  refine HSN.out.mono ?_
  rintro e w0 ⟨rfl, hB0⟩
  have HB0 := Lib.hid hB0
  clear hB0
  go_wp2_with fail
  refine (digestsOf_any w0 _ b (bytesAt_any HV.out HB0.out)).mono ?_
  rintro e w1 ⟨u, rfl, hD1, hB1⟩
  have HD1 := Lib.hid hD1
  obtain ⟨h32, a1, cap1, rfl, hcap1, hcm1, h4⟩ := hD1
  rw [HQ.out] at hcap1
  have HH32 := Lib.hid h32
  have HH4 := Lib.hid h4
  have HB1 := Lib.hid (HB0.out.trans (hB1.mono HB0.out.size))
  have hT1 := HT.out.below HB1.out h0
  have htr := tree_any q (dsOf b) w1 _ HQ.out (by omega) HD1.out hT1 (by have := HB1.out.size; omega)
  rw [dv_eq, HCT.out, HQ.out] at htr
  rw [HQ.out]
  have HTR := Lib.hid htr
  clear hB1 h32 h4 hT1 htr
  go_wp2_with fail
  refine HTR.out.mono ?_
  rintro e w2 ⟨rfl, hB2⟩
  have HB12 := Lib.hid hB2
  clear hB2
  go_wp2_with (refine store_new rfl 26 _ _ (by rfl) w2.heap.size w2.heap.size ct _ (by rfl) (by rfl) ((Below.refl w2.heap.size w2).alloc (Nat.le_refl _) _) (Nat.le_refl _) (Arr.new w2 _ 26) (by rw [HLT.out]; rfl) HZT.out HOT.out ?_; intro W3 hB3 hA3 hz3)
  have hlt3 : w2.heap.size < W3.heap.size := by simp at hz3; omega
  have HB13 := Lib.hid (HB12.out.trans (hB3.mono HB12.out.size))
  have HA3 := Lib.hid hA3
  clear hB3 hA3 hz3
  go_loopw [21] (fun j W => ∃ t : Nat, j = .int .i64 t ∧ t ≤ q ∧ Below W3.heap.size W3 W) (fun j _ => q - (intOf j).toNat)
  case atStart => exact ⟨0, rfl, by omega, Below.refl _ _⟩
  case round =>
    obtain ⟨t, rfl, ht, hB⟩ := hrel
    have hb1 : Below w1.heap.size w1 wr := HB13.out.trans (hB.mono HB13.out.size)
    have hbw : Below w.heap.size w wr := HB1.out.trans (hb1.mono HB1.out.size)
    by_cases hlt : t < q
    · have dt : decide (t < q) = true := by simpa using hlt
      have hne : dsOf b ≠ [] := fun e => by have := HQ.out; rw [e] at this; simp at this; omega
      rcases HH4.out with h4 | ⟨db, off, rfl, hdb, hr⟩
      · exact absurd h4 hne
      have hd : ((dsOf b)[t]'(by rw [HQ.out]; exact hlt)).length = 32 := HH32.out _ (List.getElem_mem _)
      have hri := hr t (by rw [HQ.out]; exact hlt)
      have hgd : (dsOf b).getD t [] = (dsOf b)[t]'(by rw [HQ.out]; exact hlt) := by simp [List.getD, List.getElem?_eq_getElem (show t < (dsOf b).length by rw [HQ.out]; exact hlt)]
      obtain ⟨d, hde⟩ : ∃ d, (dsOf b)[t]'(by rw [HQ.out]; exact hlt) = d := ⟨_, rfl⟩
      rw [hde] at hd hri hgd
      have hclm := clm_pth q (dsOf b) t HQ.out (by omega) (by omega) hlt
      rw [hgd] at hclm
      have hpl := pth_len _ (dsOf b) t rfl (by rw [HQ.out]; omega)
      have hp32 := pth_32 _ (dsOf b) t rfl (by rw [HQ.out]; omega)
      rw [HQ.out] at hpl
      have hm5 : (pth (dsOf b) t).length ≤ 5 := by rw [hpl]; exact psteps_pow 5 t q (by omega) (by omega)
      obtain ⟨cd, hcd⟩ : ∃ cd, cells8 d = cd := ⟨_, rfl⟩
      have hld : cd.length = 32 := by rw [← hcd, cells8_len, hd]
      have hzd : (Tryd.prog.info? 26).map (·.size) = some cd.length := by rw [hld]; exact Tryd.info26
      have hod : ∀ v ∈ cd, v.oneCell' = true := by rw [← hcd]; exact one_cells8 _
      have hrw : wr.rangeAt db (off + t * 32) cd := fun j v hv => (hb1.cell (p := ⟨db, off + t * 32 + j, none⟩) hdb).trans (hri j v (by rw [hcd]; exact hv))
      have HDw := Lib.hid ((HD1.out.below hb1).mono hb1.size)
      rw [HQ.out] at HDw
      have hpa : ∀ W, Below wr.heap.size wr W → Calls Tryd.prog 19 #[.slice (some ⟨db, off, none⟩) q cap1, .int .i64 t] W fun e w' => ∃ u, e = .returned (.tuple #[u, .int .i64 0]) ∧ w'.ownsRow W.heap.size 26 32 u (pth (dsOf b) t).length (flat (pth (dsOf b) t)) ∧ Below W.heap.size W w' := fun W hW =>
        path_any W (dsOf b) _ t (by rw [HQ.out]; exact hlt) (by rw [HQ.out]; omega) ((HDw.out.below hW).mono hW.size) (HT.out.below (hbw.trans (hW.mono hbw.size)) h0) (by have := hbw.size; have := hW.size; omega)
      obtain ⟨p, hpe⟩ : ∃ p, pth (dsOf b) t = p := ⟨_, rfl⟩
      rw [hpe] at hpa hclm hpl hp32 hm5
      obtain ⟨m, hm⟩ : ∃ m, p.length = m := ⟨_, rfl⟩
      rw [hm] at hpa hpl hm5
      have hcl : ∀ W ap cp, Below wr.heap.size wr W → Digs W W.heap.size (.slice ap m cp) p → Calls Tryd.prog 22 #[.agg cd.toArray, .int .i64 t, .int .i64 q, .slice ap m cp] W fun e w' => e = .returned (.tuple #[.agg ct.toArray, .int .i64 0]) ∧ Below W.heap.size W w' := fun W ap cp hW hD => by
        have h := Climb_any W d hd t q (by omega) (by omega) hlt p (by rw [hm, hpl]) (by rw [hm]; omega) _ hD (HT.out.below (hbw.trans (hW.mono hbw.size)) h0) (by have := hbw.size; have := hW.size; omega)
        rw [dv_eq d, hcd, hclm, dv_eq, HCT.out] at h
        exact h
      have hbad : ∀ W ap cp, Calls Tryd.prog 22 #[.agg cd.toArray, .int .i64 t, .int .i64 q, .slice ap (m + 1) cp] W fun e w' => e = .returned (.tuple #[.agg cz.toArray, .int .i64 1]) ∧ Below W.heap.size W w' := fun W ap cp => by
        have h := climb_bad W d hd t q (m + 1) cp ap (by omega) (by omega) hlt (by rw [hpl]; omega) (by omega)
        rw [dv_eq d, hcd, dv_eq, HCZ.out] at h
        exact h
      have HPA := Lib.hid hpa
      have HCL := Lib.hid hcl
      have HBAD := Lib.hid hbad
      have HP32 := Lib.hid hp32
      have HM := Lib.hid hm
      have HLD := Lib.hid hld
      have HZD := Lib.hid hzd
      have HOD := Lib.hid hod
      have HRW := Lib.hid hrw
      have HB := Lib.hid hB
      have HBW := Lib.hid hbw
      have hAt := HA3.out.below hB hlt3
      have HAT := Lib.hid hAt
      have f1 : (t : Int) < (q : Int) := by omega
      have f2 : (0 : Int) ≤ (t : Int) := by omega
      have hbt : w2.heap.size < wr.heap.size := by have := hB.size; omega
      clear hpa hcl hbad hp32 hm hld hzd hod hrw hB hbw hb1 hAt hpe hclm hpl hde hgd hri hd hcd hne hr
      go_wp2_with (first
        | (refine wpList_load_mid rfl 26 (.tmp 24) (by rfl) db (off + t * 32) (by rfl) _ _ HRW.out Tryd.underlying26 rfl HZD.out ?_)
        | (refine store_new rfl 26 _ _ (by rfl) wr.heap.size wr.heap.size cd _ (by rfl) (by rfl) ((Below.refl wr.heap.size wr).alloc (Nat.le_refl _) _) (Nat.le_refl _) (Arr.new wr _ 26) (by rw [HLD.out]; rfl) HZD.out HOD.out ?_; intro W4 hB4 hA4 hz4; have HB4 := Lib.hid hB4; have HA4 := Lib.hid hA4; clear hB4 hA4))
      have hlt4 : wr.heap.size < W4.heap.size := by simp at hz4; omega
      refine (HPA.out W4 HB4.out).mono ?_
      rintro e w5 ⟨pv, rfl, hO5, hB5⟩
      obtain ⟨ap, cp, rfl⟩ : ∃ ap cp, pv = .slice ap m cp := by
        rcases hO5.2 with ⟨h, h'⟩ | ⟨g, c, _, h, _⟩
        · exact ⟨none, 0, by rw [h, h']⟩
        · exact ⟨_, c, h⟩
      have HB45 := Lib.hid (HB4.out.trans (hB5.mono HB4.out.size))
      have hA5 := HA4.out.below hB5 hlt4
      have HA5 := Lib.hid hA5
      have HO5 := Lib.hid hO5
      have hs5 := hB5.size
      clear hz4 hB5 hA5 hO5
      go_wp2_with (refine wpList_load_mid rfl 26 (.tmp 6) (by rfl) wr.heap.size 0 (by rfl) _ _ HA5.out.at_ Tryd.underlying26 rfl HZD.out ?_)
      refine (HCL.out w5 ap cp HB45.out (own_digs' HO5.out HM.out HP32.out)).mono ?_
      rintro e w6 ⟨rfl, hB6⟩
      have HB56 := Lib.hid hB6
      have hs6 := hB6.size
      clear hB6
      go_wp2_with (refine store_new rfl 26 _ _ (by rfl) w6.heap.size w6.heap.size ct _ (by rfl) (by rfl) ((Below.refl w6.heap.size w6).alloc (Nat.le_refl _) _) (Nat.le_refl _) (Arr.new w6 _ 26) (by rw [HLT.out]; rfl) HZT.out HOT.out ?_; intro W7 hB7 hA7 hz7)
      have hlt7 : w6.heap.size < W7.heap.size := by simp at hz7; omega
      have hb57 : Below w5.heap.size w5 W7 := HB56.out.trans (hB7.mono HB56.out.size)
      have HBR7 := Lib.hid (HB45.out.trans (hb57.mono HB45.out.size))
      have HA7 := Lib.hid hA7
      have hr6 : ∀ W, Kept W7 W → W.rangeAt wr.heap.size 0 cd := fun W hW => ((HA5.out.below hb57 (by omega)).below hW.below (by omega)).at_
      have hpv : ∀ W, Kept W7 W → Piece W (.slice ap m cp) m (flat p) := fun W hW => ((piece_own HO5.out).kept hb57).kept hW.below
      have HR6 := Lib.hid hr6
      have HPV := Lib.hid hpv
      have hfl : (flat p).length = m * 32 := by have := HO5.out.1; exact this
      have hfo : ∀ u ∈ flat p, u.oneCell' = true := fun u hu => by
        obtain ⟨x, _, hx⟩ := List.mem_flatMap.1 hu
        exact one_cells8 x u hx
      have HFL := Lib.hid hfl
      have HFO := Lib.hid hfo
      clear hr6 hpv hB7 hA7 hz7 hb57 hs6 hfl hfo
      go_cut [11, 12] (fun _ s12 wx => s12 = .int .i64 1 ∧ Kept W7 wx)
      case first =>
        refine wp_region_held_drew (S := fun W => Kept W7 W) (by kernel_rfl) ((Kept.refl W7).drew) (fun hHeld => ?_)
        refine wpAnyH_take (i := 0) (oi := c6a0) rfl (by kernel_rfl) (by kernel_rfl) (by kernel_rfl) (fun _ _ _ h => h) (yieldsIf_load_mid (by rfl) 26 (.tmp 6) (by rfl) wr.heap.size 0 (by rfl) cd _ (fun W h => HR6.out W h) Tryd.underlying26 rfl HZD.out) hHeld ?_
        try simp only [c6a0, Act.put, List.setIfInBounds_toArray, List.set_cons_zero, List.set_cons_succ]
        refine wpAnyH_take (i := 1) (oi := c6a1) (v := ?_) rfl (by kernel_rfl) (by kernel_rfl) (by kernel_rfl) (fun _ _ _ h => h) (Or.inl ⟨by rfl, ?_⟩) hHeld ?_
        rotate_left
        · (intro w hSw; (try dsimp only at hSw); unfold c6a1; go_simp <;> with_reducible rfl)
        try simp only [c6a1, Act.put, List.setIfInBounds_toArray, List.set_cons_zero, List.set_cons_succ]
        refine wpAnyH_take (i := 2) (oi := c6a2) (v := ?_) rfl (by kernel_rfl) (by kernel_rfl) (by kernel_rfl) (fun _ _ _ h => h) (Or.inl ⟨by rfl, ?_⟩) hHeld ?_
        rotate_left
        · (intro w hSw; (try dsimp only at hSw); unfold c6a2; go_simp <;> with_reducible rfl)
        try simp only [c6a2, Act.put, List.setIfInBounds_toArray, List.set_cons_zero, List.set_cons_succ]
        refine wpAnyH_take (i := 3) (oi := c6a3) (v := ?_) rfl (by kernel_rfl) (by kernel_rfl) (by kernel_rfl) (fun _ _ _ h => h) (Or.inl ⟨by rfl, ?_⟩) hHeld ?_
        rotate_left
        · (intro w hSw; (try dsimp only at hSw); unfold c6a3; go_simp <;> with_reducible rfl)
        try simp only [c6a3, Act.put, List.setIfInBounds_toArray, List.set_cons_zero, List.set_cons_succ]
        refine wpAnyH_take (i := 5) (oi := c6a5) (v := ?_) rfl (by kernel_rfl) (by kernel_rfl) (by kernel_rfl) (fun _ _ _ h => h) (Or.inl ⟨by rfl, ?_⟩) hHeld ?_
        rotate_left
        · (intro w hSw; (try dsimp only at hSw); unfold c6a5; go_simp <;> with_reducible rfl)
        try simp only [c6a5, Act.put, List.setIfInBounds_toArray, List.set_cons_zero, List.set_cons_succ]
        refine wpAnyH_take (i := 7) (oi := c6a7) rfl (by kernel_rfl) (by kernel_rfl) (by kernel_rfl) (fun _ _ _ h => h) (yieldsIf_load_mid (by rfl) 26 (.tmp 6) (by rfl) wr.heap.size 0 (by rfl) cd _ (fun W h => HR6.out W h) Tryd.underlying26 rfl HZD.out) hHeld ?_
        try simp only [c6a7, Act.put, List.setIfInBounds_toArray, List.set_cons_zero, List.set_cons_succ]
        refine wpAnyH_ready (rs := [4, 8, 14]) (by kernel_rfl) (by simp) ?_
        refine AllReadyH.cons (o := c6a4) rfl (fun K hK => ?_) (AllReadyH.cons (o := c6a8) rfl (fun K hK => ?_) (AllReadyH.cons (o := c6a14) rfl (fun K hK => ?_) AllReadyH.nil))
        · skip
          rw [if_pos (by rfl)]
          refine wp_new30 (by rfl) ?_
          intro g4 W4 hle4 hlt4 hG4 hn4
          have row_4 := hn4 W7.heap.size hHeld.below.size
          clear hn4
          have hS4 := Kept.moved hHeld hG4 (fun _ h => by cases h)
          refine hK.out _ _ hS4 (fun hHeld => ?_)
          clear hK K
          try simp only [c6a4, Act.put, List.setIfInBounds_toArray, List.set_cons_zero, List.set_cons_succ]
          refine wpAnyH_ready (rs := [6, 8, 14]) (by kernel_rfl) (by simp) ?_
          refine AllReadyH.cons (o := c6a6) rfl (fun K hK => ?_) (AllReadyH.cons (o := c6a8) rfl (fun K hK => ?_) (AllReadyH.cons (o := c6a14) rfl (fun K hK => ?_) AllReadyH.nil))
          · skip
            rw [if_pos (by rfl)]
            refine wp_piece 30 26 i0 _ 32 32 Tryd.underlying30 HI.out HZ0.out HZ1.out HZ2.out (by simp [Value.cells]) (by omega) (.tmp 46) (.tmp 47) (by rfl) (base := W7.heap.size) (by rfl) row_4 (by rfl) (HPV.out _ hHeld) HFL.out HFO.out (by unfold maxLen; omega) (by omega) hHeld.below.size (m) (by omega) (flat p) (by simp) ?_
            intro hb6 g6 c6 W6 row_6 hG6 hat6
            have hS6 := Kept.moved hHeld hG6 (fun k hk => by cases hk; exact hb6)
            clear row_4
            have lt_row_6 := (row_6.lt g6 rfl).2
            refine hK.out _ _ hS6 (fun hHeld => ?_)
            clear hK K
            try simp only [c6a6, Act.put, List.setIfInBounds_toArray, List.set_cons_zero, List.set_cons_succ]
            refine wpAnyH_ready (rs := [8, 14]) (by kernel_rfl) (by simp) ?_
            refine AllReadyH.cons (o := c6a8) rfl (fun K hK => ?_) (AllReadyH.cons (o := c6a14) rfl (fun K hK => ?_) AllReadyH.nil)
            · skip
              rw [if_pos (by rfl)]
              refine wp_one30 (.tmp 49) (by rfl) cd (by rfl) HLD.out ?_
              intro g8 W8 hle8 hlt8 hG8 one_8
              have hS8 := Kept.moved hHeld hG8 (fun _ h => by cases h)
              have ne_g6_g8 : g6 ≠ g8 := by have := lt_row_6; have := hle8; omega
              have row_8 := own_moved row_6 hG8  (by simp)
              have lt_row_8 := Nat.lt_of_lt_of_le lt_row_6 hG8.size
              clear row_6 lt_row_6
              refine hK.out _ _ hS8 (fun hHeld => ?_)
              clear hK K
              try simp only [c6a8, Act.put, List.setIfInBounds_toArray, List.set_cons_zero, List.set_cons_succ]
              refine wpAnyH_ready (rs := [9, 14]) (by kernel_rfl) (by simp) ?_
              refine AllReadyH.cons (o := c6a9) rfl (fun K hK => ?_) (AllReadyH.cons (o := c6a14) rfl (fun K hK => ?_) AllReadyH.nil)
              · skip
                rw [if_pos (by rfl)]
                refine wp_piece 30 26 i0 _ 32 32 Tryd.underlying30 HI.out HZ0.out HZ1.out HZ2.out (by simp [Value.cells]) (by omega) (.tmp 48) (.tmp 50) (by rfl) (base := W7.heap.size) (by rfl) row_8 (by rfl) (piece_row one_8) (by rw [HLD.out]) HOD.out (by unfold maxLen; omega) (by omega) hHeld.below.size (m + 1) (by omega) (flat p ++ cd) (rfl) ?_
                intro hb9 g9 c9 W9 row_9 hG9 hat9
                have hS9 := Kept.moved hHeld hG9 (fun k hk => by cases hk; exact hb9)
                have one_9 := rng_moved one_8 hG9 hlt8 (by simpa using (Ne.symm ne_g6_g8))
                have lt_one_9 := Nat.lt_of_lt_of_le hlt8 hG9.size
                have ne_g8_g9 : g8 ≠ g9 := by have := (Ne.symm ne_g6_g8); have := hlt8; rcases hat9 with h | h <;> omega
                clear row_8
                clear one_8
                have lt_row_9 := (row_9.lt g9 rfl).2
                refine hK.out _ _ hS9 (fun hHeld => ?_)
                clear hK K
                try simp only [c6a9, Act.put, List.setIfInBounds_toArray, List.set_cons_zero, List.set_cons_succ]
                refine wpAnyH_ready (rs := [10, 14]) (by kernel_rfl) (by simp) ?_
                refine AllReadyH.cons (o := c6a10) rfl (fun K hK => ?_) (AllReadyH.cons (o := c6a14) rfl (fun K hK => ?_) AllReadyH.nil)
                · skip
                  rw [if_pos (by rfl)]
                  unfold c6a10
                  go_simp
                  (with_reducible refine (HBAD.out _ _ _).mono ?_)
                  rintro e W10 ⟨rfl, hB10⟩
                  have hG10 := gbelow (row := none) hB10
                  have hS10 := Kept.moved hHeld hG10 (fun _ h => by cases h)
                  have row_10 := own_moved row_9 hG10  (by simp)
                  have lt_row_10 := Nat.lt_of_lt_of_le lt_row_9 hG10.size
                  clear row_9 lt_row_9
                  go_wp2_with fail
                  refine hK.out _ _ hS10 (fun hHeld => ?_)
                  clear hK K
                  try simp only [c6a10, Act.put, List.setIfInBounds_toArray, List.set_cons_zero, List.set_cons_succ]
                  refine wpAnyH_take (i := 11) (oi := c6a11) (v := ?_) rfl (by kernel_rfl) (by kernel_rfl) (by kernel_rfl) (fun _ _ _ h => h) (Or.inl ⟨by rfl, ?_⟩) hHeld ?_
                  rotate_left
                  · (intro w hSw; (try dsimp only at hSw); unfold c6a11; go_simp <;> with_reducible rfl)
                  try simp only [c6a11, Act.put, List.setIfInBounds_toArray, List.set_cons_zero, List.set_cons_succ]
                  refine wpAnyH_take (i := 12) (oi := c6a12) (v := ?_) rfl (by kernel_rfl) (by kernel_rfl) (by kernel_rfl) (fun _ _ _ h => h) (Or.inl ⟨by rfl, ?_⟩) hHeld ?_
                  rotate_left
                  · (intro w hSw; (try dsimp only at hSw); unfold c6a12; go_simp <;> with_reducible rfl)
                  try simp only [c6a12, Act.put, List.setIfInBounds_toArray, List.set_cons_zero, List.set_cons_succ]
                  refine wpAnyH_take (i := 13) (oi := c6a13) (v := ?_) rfl (by kernel_rfl) (by kernel_rfl) (by kernel_rfl) (fun _ _ _ h => h) (Or.inl ⟨by rfl, ?_⟩) hHeld ?_
                  rotate_left
                  · (intro w hSw; (try dsimp only at hSw); unfold c6a13; go_simp <;> with_reducible rfl)
                  try simp only [c6a13, Act.put, List.setIfInBounds_toArray, List.set_cons_zero, List.set_cons_succ]
                  refine wpAnyH_ready (rs := [14]) (by kernel_rfl) (by simp) ?_
                  refine AllReadyH.cons (o := c6a14) rfl (fun K hK => ?_) AllReadyH.nil
                  rw [if_pos (by rfl)]
                  refine wp_alloc26 (by rfl) ?_
                  intro g14 W14 hle14 hlt14 hG14 fin_14
                  have le_g14 := Nat.le_trans hHeld.below.size hle14
                  have hS14 := Kept.moved hHeld hG14 (fun _ h => by cases h)
                  have ne_g9_g14 : g9 ≠ g14 := by have := lt_row_10; have := hle14; omega
                  have row_14 := own_moved row_10 hG14  (by simp)
                  have lt_row_14 := Nat.lt_of_lt_of_le lt_row_10 hG14.size
                  clear row_10 lt_row_10
                  refine hK.out _ _ hS14 (fun hHeld => ?_)
                  clear hK K
                  try simp only [c6a14, Act.put, List.setIfInBounds_toArray, List.set_cons_zero, List.set_cons_succ]
                  refine wpAnyH_ready (rs := [15]) (by kernel_rfl) (by simp) ?_
                  refine AllReadyH.cons (o := c6a15) rfl (fun K hK => ?_) AllReadyH.nil
                  rw [if_pos (by rfl)]
                  refine wp_st26 (.tmp 11) (.tmp 53) (by rfl) g14 cz _ (by rfl) (by rfl) fin_14 (by rw [HLZ.out]; rfl) HZZ.out HOZ.out ?_
                  intro W15 hG15 fin_15
                  have hS15 := Kept.moved hHeld hG15 (fun k hk => by cases hk; exact le_g14)
                  have row_15 := own_moved row_14 hG15  (by simpa using ne_g9_g14)
                  have lt_row_15 := Nat.lt_of_lt_of_le lt_row_14 hG15.size
                  have lt_fin_15 := Nat.lt_of_lt_of_le hlt14 hG15.size
                  clear row_14
                  clear fin_14
                  refine hK.out _ _ hS15 (fun hHeld => ?_)
                  clear hK K
                  try simp only [c6a15, Act.put]
                  refine wpAnyH_ready (rs := [16]) (by kernel_rfl) (by simp) ?_
                  refine AllReadyH.cons (o := c6a16) rfl (fun K hK => ?_) AllReadyH.nil
                  rw [if_pos (by rfl)]
                  unfold c6a16
                  go_simp
                  refine hK.out _ _ hHeld (fun hHeld => ?_)
                  clear hK K
                  try simp only [c6a16, Act.put, List.setIfInBounds_toArray, List.set_cons_zero, List.set_cons_succ]
                  refine wpAnyH_done (by kernel_rfl) ?_ _
                  clear hHeld
                  go_wp2_with fail
                  go_meet
                  exact ⟨rfl, by assumption⟩
                · skip
                  rw [if_pos (by rfl)]
                  refine wp_alloc26 (by rfl) ?_
                  intro g14 W14 hle14 hlt14 hG14 fin_14
                  have le_g14 := Nat.le_trans hHeld.below.size hle14
                  have hS14 := Kept.moved hHeld hG14 (fun _ h => by cases h)
                  have ne_g9_g14 : g9 ≠ g14 := by have := lt_row_9; have := hle14; omega
                  have row_14 := own_moved row_9 hG14  (by simp)
                  have lt_row_14 := Nat.lt_of_lt_of_le lt_row_9 hG14.size
                  clear row_9 lt_row_9
                  refine hK.out _ _ hS14 (fun hHeld => ?_)
                  clear hK K
                  try simp only [c6a14, Act.put, List.setIfInBounds_toArray, List.set_cons_zero, List.set_cons_succ]
                  refine wpAnyH_ready (rs := [10]) (by kernel_rfl) (by simp) ?_
                  refine AllReadyH.cons (o := c6a10) rfl (fun K hK => ?_) AllReadyH.nil
                  rw [if_pos (by rfl)]
                  unfold c6a10
                  go_simp
                  (with_reducible refine (HBAD.out _ _ _).mono ?_)
                  rintro e W10 ⟨rfl, hB10⟩
                  have hG10 := gbelow (row := none) hB10
                  have hS10 := Kept.moved hHeld hG10 (fun _ h => by cases h)
                  have row_10 := own_moved row_14 hG10  (by simp)
                  have lt_row_10 := Nat.lt_of_lt_of_le lt_row_14 hG10.size
                  clear row_14 lt_row_14
                  have fin_10 := Arr.moved fin_14 hG10 hlt14 (by simp)
                  have lt_fin_10 := Nat.lt_of_lt_of_le hlt14 hG10.size
                  clear fin_14 hlt14
                  go_wp2_with fail
                  refine hK.out _ _ hS10 (fun hHeld => ?_)
                  clear hK K
                  try simp only [c6a10, Act.put, List.setIfInBounds_toArray, List.set_cons_zero, List.set_cons_succ]
                  refine wpAnyH_take (i := 11) (oi := c6a11) (v := ?_) rfl (by kernel_rfl) (by kernel_rfl) (by kernel_rfl) (fun _ _ _ h => h) (Or.inl ⟨by rfl, ?_⟩) hHeld ?_
                  rotate_left
                  · (intro w hSw; (try dsimp only at hSw); unfold c6a11; go_simp <;> with_reducible rfl)
                  try simp only [c6a11, Act.put, List.setIfInBounds_toArray, List.set_cons_zero, List.set_cons_succ]
                  refine wpAnyH_take (i := 12) (oi := c6a12) (v := ?_) rfl (by kernel_rfl) (by kernel_rfl) (by kernel_rfl) (fun _ _ _ h => h) (Or.inl ⟨by rfl, ?_⟩) hHeld ?_
                  rotate_left
                  · (intro w hSw; (try dsimp only at hSw); unfold c6a12; go_simp <;> with_reducible rfl)
                  try simp only [c6a12, Act.put, List.setIfInBounds_toArray, List.set_cons_zero, List.set_cons_succ]
                  refine wpAnyH_take (i := 13) (oi := c6a13) (v := ?_) rfl (by kernel_rfl) (by kernel_rfl) (by kernel_rfl) (fun _ _ _ h => h) (Or.inl ⟨by rfl, ?_⟩) hHeld ?_
                  rotate_left
                  · (intro w hSw; (try dsimp only at hSw); unfold c6a13; go_simp <;> with_reducible rfl)
                  try simp only [c6a13, Act.put, List.setIfInBounds_toArray, List.set_cons_zero, List.set_cons_succ]
                  refine wpAnyH_ready (rs := [15]) (by kernel_rfl) (by simp) ?_
                  refine AllReadyH.cons (o := c6a15) rfl (fun K hK => ?_) AllReadyH.nil
                  rw [if_pos (by rfl)]
                  refine wp_st26 (.tmp 11) (.tmp 53) (by rfl) g14 cz _ (by rfl) (by rfl) fin_10 (by rw [HLZ.out]; rfl) HZZ.out HOZ.out ?_
                  intro W15 hG15 fin_15
                  have hS15 := Kept.moved hHeld hG15 (fun k hk => by cases hk; exact le_g14)
                  have row_15 := own_moved row_10 hG15  (by simpa using ne_g9_g14)
                  have lt_row_15 := Nat.lt_of_lt_of_le lt_row_10 hG15.size
                  have lt_fin_15 := Nat.lt_of_lt_of_le lt_fin_10 hG15.size
                  clear row_10
                  clear fin_10
                  refine hK.out _ _ hS15 (fun hHeld => ?_)
                  clear hK K
                  try simp only [c6a15, Act.put]
                  refine wpAnyH_ready (rs := [16]) (by kernel_rfl) (by simp) ?_
                  refine AllReadyH.cons (o := c6a16) rfl (fun K hK => ?_) AllReadyH.nil
                  rw [if_pos (by rfl)]
                  unfold c6a16
                  go_simp
                  refine hK.out _ _ hHeld (fun hHeld => ?_)
                  clear hK K
                  try simp only [c6a16, Act.put, List.setIfInBounds_toArray, List.set_cons_zero, List.set_cons_succ]
                  refine wpAnyH_done (by kernel_rfl) ?_ _
                  clear hHeld
                  go_wp2_with fail
                  go_meet
                  exact ⟨rfl, by assumption⟩
              · skip
                rw [if_pos (by rfl)]
                refine wp_alloc26 (by rfl) ?_
                intro g14 W14 hle14 hlt14 hG14 fin_14
                have le_g14 := Nat.le_trans hHeld.below.size hle14
                have hS14 := Kept.moved hHeld hG14 (fun _ h => by cases h)
                have ne_g6_g14 : g6 ≠ g14 := by have := lt_row_8; have := hle14; omega
                have row_14 := own_moved row_8 hG14  (by simp)
                have lt_row_14 := Nat.lt_of_lt_of_le lt_row_8 hG14.size
                clear row_8 lt_row_8
                have ne_g8_g14 : g8 ≠ g14 := by have := hlt8; have := hle14; omega
                have one_14 := rng_moved one_8 hG14 hlt8 (by simp)
                have lt_one_14 := Nat.lt_of_lt_of_le hlt8 hG14.size
                clear one_8 hlt8
                refine hK.out _ _ hS14 (fun hHeld => ?_)
                clear hK K
                try simp only [c6a14, Act.put, List.setIfInBounds_toArray, List.set_cons_zero, List.set_cons_succ]
                refine wpAnyH_ready (rs := [9]) (by kernel_rfl) (by simp) ?_
                refine AllReadyH.cons (o := c6a9) rfl (fun K hK => ?_) AllReadyH.nil
                rw [if_pos (by rfl)]
                refine wp_piece 30 26 i0 _ 32 32 Tryd.underlying30 HI.out HZ0.out HZ1.out HZ2.out (by simp [Value.cells]) (by omega) (.tmp 48) (.tmp 50) (by rfl) (base := W7.heap.size) (by rfl) row_14 (by rfl) (piece_row one_14) (by rw [HLD.out]) HOD.out (by unfold maxLen; omega) (by omega) hHeld.below.size (m + 1) (by omega) (flat p ++ cd) (rfl) ?_
                intro hb9 g9 c9 W9 row_9 hG9 hat9
                have hS9 := Kept.moved hHeld hG9 (fun k hk => by cases hk; exact hb9)
                have one_9 := rng_moved one_14 hG9 lt_one_14 (by simpa using (Ne.symm ne_g6_g8))
                have lt_one_9 := Nat.lt_of_lt_of_le lt_one_14 hG9.size
                have fin_9 := Arr.moved fin_14 hG9 hlt14 (by simpa using (Ne.symm ne_g6_g14))
                have lt_fin_9 := Nat.lt_of_lt_of_le hlt14 hG9.size
                have ne_g8_g9 : g8 ≠ g9 := by have := (Ne.symm ne_g6_g8); have := lt_one_14; rcases hat9 with h | h <;> omega
                have ne_g14_g9 : g14 ≠ g9 := by have := (Ne.symm ne_g6_g14); have := hlt14; rcases hat9 with h | h <;> omega
                clear row_14
                clear one_14
                clear fin_14
                have lt_row_9 := (row_9.lt g9 rfl).2
                refine hK.out _ _ hS9 (fun hHeld => ?_)
                clear hK K
                try simp only [c6a9, Act.put, List.setIfInBounds_toArray, List.set_cons_zero, List.set_cons_succ]
                refine wpAnyH_ready (rs := [10]) (by kernel_rfl) (by simp) ?_
                refine AllReadyH.cons (o := c6a10) rfl (fun K hK => ?_) AllReadyH.nil
                rw [if_pos (by rfl)]
                unfold c6a10
                go_simp
                (with_reducible refine (HBAD.out _ _ _).mono ?_)
                rintro e W10 ⟨rfl, hB10⟩
                have hG10 := gbelow (row := none) hB10
                have hS10 := Kept.moved hHeld hG10 (fun _ h => by cases h)
                have row_10 := own_moved row_9 hG10  (by simp)
                have lt_row_10 := Nat.lt_of_lt_of_le lt_row_9 hG10.size
                clear row_9 lt_row_9
                have fin_10 := Arr.moved fin_9 hG10 lt_fin_9 (by simp)
                have lt_fin_10 := Nat.lt_of_lt_of_le lt_fin_9 hG10.size
                clear fin_9 lt_fin_9
                go_wp2_with fail
                refine hK.out _ _ hS10 (fun hHeld => ?_)
                clear hK K
                try simp only [c6a10, Act.put, List.setIfInBounds_toArray, List.set_cons_zero, List.set_cons_succ]
                refine wpAnyH_take (i := 11) (oi := c6a11) (v := ?_) rfl (by kernel_rfl) (by kernel_rfl) (by kernel_rfl) (fun _ _ _ h => h) (Or.inl ⟨by rfl, ?_⟩) hHeld ?_
                rotate_left
                · (intro w hSw; (try dsimp only at hSw); unfold c6a11; go_simp <;> with_reducible rfl)
                try simp only [c6a11, Act.put, List.setIfInBounds_toArray, List.set_cons_zero, List.set_cons_succ]
                refine wpAnyH_take (i := 12) (oi := c6a12) (v := ?_) rfl (by kernel_rfl) (by kernel_rfl) (by kernel_rfl) (fun _ _ _ h => h) (Or.inl ⟨by rfl, ?_⟩) hHeld ?_
                rotate_left
                · (intro w hSw; (try dsimp only at hSw); unfold c6a12; go_simp <;> with_reducible rfl)
                try simp only [c6a12, Act.put, List.setIfInBounds_toArray, List.set_cons_zero, List.set_cons_succ]
                refine wpAnyH_take (i := 13) (oi := c6a13) (v := ?_) rfl (by kernel_rfl) (by kernel_rfl) (by kernel_rfl) (fun _ _ _ h => h) (Or.inl ⟨by rfl, ?_⟩) hHeld ?_
                rotate_left
                · (intro w hSw; (try dsimp only at hSw); unfold c6a13; go_simp <;> with_reducible rfl)
                try simp only [c6a13, Act.put, List.setIfInBounds_toArray, List.set_cons_zero, List.set_cons_succ]
                refine wpAnyH_ready (rs := [15]) (by kernel_rfl) (by simp) ?_
                refine AllReadyH.cons (o := c6a15) rfl (fun K hK => ?_) AllReadyH.nil
                rw [if_pos (by rfl)]
                refine wp_st26 (.tmp 11) (.tmp 53) (by rfl) g14 cz _ (by rfl) (by rfl) fin_10 (by rw [HLZ.out]; rfl) HZZ.out HOZ.out ?_
                intro W15 hG15 fin_15
                have hS15 := Kept.moved hHeld hG15 (fun k hk => by cases hk; exact le_g14)
                have row_15 := own_moved row_10 hG15  (by simpa using (Ne.symm ne_g14_g9))
                have lt_row_15 := Nat.lt_of_lt_of_le lt_row_10 hG15.size
                have lt_fin_15 := Nat.lt_of_lt_of_le lt_fin_10 hG15.size
                clear row_10
                clear fin_10
                refine hK.out _ _ hS15 (fun hHeld => ?_)
                clear hK K
                try simp only [c6a15, Act.put]
                refine wpAnyH_ready (rs := [16]) (by kernel_rfl) (by simp) ?_
                refine AllReadyH.cons (o := c6a16) rfl (fun K hK => ?_) AllReadyH.nil
                rw [if_pos (by rfl)]
                unfold c6a16
                go_simp
                refine hK.out _ _ hHeld (fun hHeld => ?_)
                clear hK K
                try simp only [c6a16, Act.put, List.setIfInBounds_toArray, List.set_cons_zero, List.set_cons_succ]
                refine wpAnyH_done (by kernel_rfl) ?_ _
                clear hHeld
                go_wp2_with fail
                go_meet
                exact ⟨rfl, by assumption⟩
            · skip
              rw [if_pos (by rfl)]
              refine wp_alloc26 (by rfl) ?_
              intro g14 W14 hle14 hlt14 hG14 fin_14
              have le_g14 := Nat.le_trans hHeld.below.size hle14
              have hS14 := Kept.moved hHeld hG14 (fun _ h => by cases h)
              have ne_g6_g14 : g6 ≠ g14 := by have := lt_row_6; have := hle14; omega
              have row_14 := own_moved row_6 hG14  (by simp)
              have lt_row_14 := Nat.lt_of_lt_of_le lt_row_6 hG14.size
              clear row_6 lt_row_6
              refine hK.out _ _ hS14 (fun hHeld => ?_)
              clear hK K
              try simp only [c6a14, Act.put, List.setIfInBounds_toArray, List.set_cons_zero, List.set_cons_succ]
              refine wpAnyH_ready (rs := [8]) (by kernel_rfl) (by simp) ?_
              refine AllReadyH.cons (o := c6a8) rfl (fun K hK => ?_) AllReadyH.nil
              rw [if_pos (by rfl)]
              refine wp_one30 (.tmp 49) (by rfl) cd (by rfl) HLD.out ?_
              intro g8 W8 hle8 hlt8 hG8 one_8
              have hS8 := Kept.moved hHeld hG8 (fun _ h => by cases h)
              have ne_g6_g8 : g6 ≠ g8 := by have := lt_row_14; have := hle8; omega
              have row_8 := own_moved row_14 hG8  (by simp)
              have lt_row_8 := Nat.lt_of_lt_of_le lt_row_14 hG8.size
              clear row_14 lt_row_14
              have ne_g14_g8 : g14 ≠ g8 := by have := hlt14; have := hle8; omega
              have fin_8 := Arr.moved fin_14 hG8 hlt14 (by simp)
              have lt_fin_8 := Nat.lt_of_lt_of_le hlt14 hG8.size
              clear fin_14 hlt14
              refine hK.out _ _ hS8 (fun hHeld => ?_)
              clear hK K
              try simp only [c6a8, Act.put, List.setIfInBounds_toArray, List.set_cons_zero, List.set_cons_succ]
              refine wpAnyH_ready (rs := [9]) (by kernel_rfl) (by simp) ?_
              refine AllReadyH.cons (o := c6a9) rfl (fun K hK => ?_) AllReadyH.nil
              rw [if_pos (by rfl)]
              refine wp_piece 30 26 i0 _ 32 32 Tryd.underlying30 HI.out HZ0.out HZ1.out HZ2.out (by simp [Value.cells]) (by omega) (.tmp 48) (.tmp 50) (by rfl) (base := W7.heap.size) (by rfl) row_8 (by rfl) (piece_row one_8) (by rw [HLD.out]) HOD.out (by unfold maxLen; omega) (by omega) hHeld.below.size (m + 1) (by omega) (flat p ++ cd) (rfl) ?_
              intro hb9 g9 c9 W9 row_9 hG9 hat9
              have hS9 := Kept.moved hHeld hG9 (fun k hk => by cases hk; exact hb9)
              have fin_9 := Arr.moved fin_8 hG9 lt_fin_8 (by simpa using (Ne.symm ne_g6_g14))
              have lt_fin_9 := Nat.lt_of_lt_of_le lt_fin_8 hG9.size
              have one_9 := rng_moved one_8 hG9 hlt8 (by simpa using (Ne.symm ne_g6_g8))
              have lt_one_9 := Nat.lt_of_lt_of_le hlt8 hG9.size
              have ne_g14_g9 : g14 ≠ g9 := by have := (Ne.symm ne_g6_g14); have := lt_fin_8; rcases hat9 with h | h <;> omega
              have ne_g8_g9 : g8 ≠ g9 := by have := (Ne.symm ne_g6_g8); have := hlt8; rcases hat9 with h | h <;> omega
              clear row_8
              clear fin_8
              clear one_8
              have lt_row_9 := (row_9.lt g9 rfl).2
              refine hK.out _ _ hS9 (fun hHeld => ?_)
              clear hK K
              try simp only [c6a9, Act.put, List.setIfInBounds_toArray, List.set_cons_zero, List.set_cons_succ]
              refine wpAnyH_ready (rs := [10]) (by kernel_rfl) (by simp) ?_
              refine AllReadyH.cons (o := c6a10) rfl (fun K hK => ?_) AllReadyH.nil
              rw [if_pos (by rfl)]
              unfold c6a10
              go_simp
              (with_reducible refine (HBAD.out _ _ _).mono ?_)
              rintro e W10 ⟨rfl, hB10⟩
              have hG10 := gbelow (row := none) hB10
              have hS10 := Kept.moved hHeld hG10 (fun _ h => by cases h)
              have row_10 := own_moved row_9 hG10  (by simp)
              have lt_row_10 := Nat.lt_of_lt_of_le lt_row_9 hG10.size
              clear row_9 lt_row_9
              have fin_10 := Arr.moved fin_9 hG10 lt_fin_9 (by simp)
              have lt_fin_10 := Nat.lt_of_lt_of_le lt_fin_9 hG10.size
              clear fin_9 lt_fin_9
              go_wp2_with fail
              refine hK.out _ _ hS10 (fun hHeld => ?_)
              clear hK K
              try simp only [c6a10, Act.put, List.setIfInBounds_toArray, List.set_cons_zero, List.set_cons_succ]
              refine wpAnyH_take (i := 11) (oi := c6a11) (v := ?_) rfl (by kernel_rfl) (by kernel_rfl) (by kernel_rfl) (fun _ _ _ h => h) (Or.inl ⟨by rfl, ?_⟩) hHeld ?_
              rotate_left
              · (intro w hSw; (try dsimp only at hSw); unfold c6a11; go_simp <;> with_reducible rfl)
              try simp only [c6a11, Act.put, List.setIfInBounds_toArray, List.set_cons_zero, List.set_cons_succ]
              refine wpAnyH_take (i := 12) (oi := c6a12) (v := ?_) rfl (by kernel_rfl) (by kernel_rfl) (by kernel_rfl) (fun _ _ _ h => h) (Or.inl ⟨by rfl, ?_⟩) hHeld ?_
              rotate_left
              · (intro w hSw; (try dsimp only at hSw); unfold c6a12; go_simp <;> with_reducible rfl)
              try simp only [c6a12, Act.put, List.setIfInBounds_toArray, List.set_cons_zero, List.set_cons_succ]
              refine wpAnyH_take (i := 13) (oi := c6a13) (v := ?_) rfl (by kernel_rfl) (by kernel_rfl) (by kernel_rfl) (fun _ _ _ h => h) (Or.inl ⟨by rfl, ?_⟩) hHeld ?_
              rotate_left
              · (intro w hSw; (try dsimp only at hSw); unfold c6a13; go_simp <;> with_reducible rfl)
              try simp only [c6a13, Act.put, List.setIfInBounds_toArray, List.set_cons_zero, List.set_cons_succ]
              refine wpAnyH_ready (rs := [15]) (by kernel_rfl) (by simp) ?_
              refine AllReadyH.cons (o := c6a15) rfl (fun K hK => ?_) AllReadyH.nil
              rw [if_pos (by rfl)]
              refine wp_st26 (.tmp 11) (.tmp 53) (by rfl) g14 cz _ (by rfl) (by rfl) fin_10 (by rw [HLZ.out]; rfl) HZZ.out HOZ.out ?_
              intro W15 hG15 fin_15
              have hS15 := Kept.moved hHeld hG15 (fun k hk => by cases hk; exact le_g14)
              have row_15 := own_moved row_10 hG15  (by simpa using (Ne.symm ne_g14_g9))
              have lt_row_15 := Nat.lt_of_lt_of_le lt_row_10 hG15.size
              have lt_fin_15 := Nat.lt_of_lt_of_le lt_fin_10 hG15.size
              clear row_10
              clear fin_10
              refine hK.out _ _ hS15 (fun hHeld => ?_)
              clear hK K
              try simp only [c6a15, Act.put]
              refine wpAnyH_ready (rs := [16]) (by kernel_rfl) (by simp) ?_
              refine AllReadyH.cons (o := c6a16) rfl (fun K hK => ?_) AllReadyH.nil
              rw [if_pos (by rfl)]
              unfold c6a16
              go_simp
              refine hK.out _ _ hHeld (fun hHeld => ?_)
              clear hK K
              try simp only [c6a16, Act.put, List.setIfInBounds_toArray, List.set_cons_zero, List.set_cons_succ]
              refine wpAnyH_done (by kernel_rfl) ?_ _
              clear hHeld
              go_wp2_with fail
              go_meet
              exact ⟨rfl, by assumption⟩
          · skip
            rw [if_pos (by rfl)]
            refine wp_one30 (.tmp 49) (by rfl) cd (by rfl) HLD.out ?_
            intro g8 W8 hle8 hlt8 hG8 one_8
            have hS8 := Kept.moved hHeld hG8 (fun _ h => by cases h)
            have ne_g4_g8 : g4 ≠ g8 := by have := hlt4; have := hle8; omega
            have row_8 := own_moved row_4 hG8  (by simp)
            have lt_row_8 := Nat.lt_of_lt_of_le hlt4 hG8.size
            clear row_4 hlt4
            refine hK.out _ _ hS8 (fun hHeld => ?_)
            clear hK K
            try simp only [c6a8, Act.put, List.setIfInBounds_toArray, List.set_cons_zero, List.set_cons_succ]
            refine wpAnyH_ready (rs := [6, 14]) (by kernel_rfl) (by simp) ?_
            refine AllReadyH.cons (o := c6a6) rfl (fun K hK => ?_) (AllReadyH.cons (o := c6a14) rfl (fun K hK => ?_) AllReadyH.nil)
            · skip
              rw [if_pos (by rfl)]
              refine wp_piece 30 26 i0 _ 32 32 Tryd.underlying30 HI.out HZ0.out HZ1.out HZ2.out (by simp [Value.cells]) (by omega) (.tmp 46) (.tmp 47) (by rfl) (base := W7.heap.size) (by rfl) row_8 (by rfl) (HPV.out _ hHeld) HFL.out HFO.out (by unfold maxLen; omega) (by omega) hHeld.below.size (m) (by omega) (flat p) (by simp) ?_
              intro hb6 g6 c6 W6 row_6 hG6 hat6
              have hS6 := Kept.moved hHeld hG6 (fun k hk => by cases hk; exact hb6)
              have one_6 := rng_moved one_8 hG6 hlt8 (by simpa using (Ne.symm ne_g4_g8))
              have lt_one_6 := Nat.lt_of_lt_of_le hlt8 hG6.size
              have ne_g8_g6 : g8 ≠ g6 := by have := (Ne.symm ne_g4_g8); have := hlt8; rcases hat6 with h | h <;> omega
              clear row_8
              clear one_8
              have lt_row_6 := (row_6.lt g6 rfl).2
              refine hK.out _ _ hS6 (fun hHeld => ?_)
              clear hK K
              try simp only [c6a6, Act.put, List.setIfInBounds_toArray, List.set_cons_zero, List.set_cons_succ]
              refine wpAnyH_ready (rs := [9, 14]) (by kernel_rfl) (by simp) ?_
              refine AllReadyH.cons (o := c6a9) rfl (fun K hK => ?_) (AllReadyH.cons (o := c6a14) rfl (fun K hK => ?_) AllReadyH.nil)
              · skip
                rw [if_pos (by rfl)]
                refine wp_piece 30 26 i0 _ 32 32 Tryd.underlying30 HI.out HZ0.out HZ1.out HZ2.out (by simp [Value.cells]) (by omega) (.tmp 48) (.tmp 50) (by rfl) (base := W7.heap.size) (by rfl) row_6 (by rfl) (piece_row one_6) (by rw [HLD.out]) HOD.out (by unfold maxLen; omega) (by omega) hHeld.below.size (m + 1) (by omega) (flat p ++ cd) (rfl) ?_
                intro hb9 g9 c9 W9 row_9 hG9 hat9
                have hS9 := Kept.moved hHeld hG9 (fun k hk => by cases hk; exact hb9)
                have one_9 := rng_moved one_6 hG9 lt_one_6 (by simpa using ne_g8_g6)
                have lt_one_9 := Nat.lt_of_lt_of_le lt_one_6 hG9.size
                have ne_g8_g9 : g8 ≠ g9 := by have := ne_g8_g6; have := lt_one_6; rcases hat9 with h | h <;> omega
                clear row_6
                clear one_6
                have lt_row_9 := (row_9.lt g9 rfl).2
                refine hK.out _ _ hS9 (fun hHeld => ?_)
                clear hK K
                try simp only [c6a9, Act.put, List.setIfInBounds_toArray, List.set_cons_zero, List.set_cons_succ]
                refine wpAnyH_ready (rs := [10, 14]) (by kernel_rfl) (by simp) ?_
                refine AllReadyH.cons (o := c6a10) rfl (fun K hK => ?_) (AllReadyH.cons (o := c6a14) rfl (fun K hK => ?_) AllReadyH.nil)
                · skip
                  rw [if_pos (by rfl)]
                  unfold c6a10
                  go_simp
                  (with_reducible refine (HBAD.out _ _ _).mono ?_)
                  rintro e W10 ⟨rfl, hB10⟩
                  have hG10 := gbelow (row := none) hB10
                  have hS10 := Kept.moved hHeld hG10 (fun _ h => by cases h)
                  have row_10 := own_moved row_9 hG10  (by simp)
                  have lt_row_10 := Nat.lt_of_lt_of_le lt_row_9 hG10.size
                  clear row_9 lt_row_9
                  go_wp2_with fail
                  refine hK.out _ _ hS10 (fun hHeld => ?_)
                  clear hK K
                  try simp only [c6a10, Act.put, List.setIfInBounds_toArray, List.set_cons_zero, List.set_cons_succ]
                  refine wpAnyH_take (i := 11) (oi := c6a11) (v := ?_) rfl (by kernel_rfl) (by kernel_rfl) (by kernel_rfl) (fun _ _ _ h => h) (Or.inl ⟨by rfl, ?_⟩) hHeld ?_
                  rotate_left
                  · (intro w hSw; (try dsimp only at hSw); unfold c6a11; go_simp <;> with_reducible rfl)
                  try simp only [c6a11, Act.put, List.setIfInBounds_toArray, List.set_cons_zero, List.set_cons_succ]
                  refine wpAnyH_take (i := 12) (oi := c6a12) (v := ?_) rfl (by kernel_rfl) (by kernel_rfl) (by kernel_rfl) (fun _ _ _ h => h) (Or.inl ⟨by rfl, ?_⟩) hHeld ?_
                  rotate_left
                  · (intro w hSw; (try dsimp only at hSw); unfold c6a12; go_simp <;> with_reducible rfl)
                  try simp only [c6a12, Act.put, List.setIfInBounds_toArray, List.set_cons_zero, List.set_cons_succ]
                  refine wpAnyH_take (i := 13) (oi := c6a13) (v := ?_) rfl (by kernel_rfl) (by kernel_rfl) (by kernel_rfl) (fun _ _ _ h => h) (Or.inl ⟨by rfl, ?_⟩) hHeld ?_
                  rotate_left
                  · (intro w hSw; (try dsimp only at hSw); unfold c6a13; go_simp <;> with_reducible rfl)
                  try simp only [c6a13, Act.put, List.setIfInBounds_toArray, List.set_cons_zero, List.set_cons_succ]
                  refine wpAnyH_ready (rs := [14]) (by kernel_rfl) (by simp) ?_
                  refine AllReadyH.cons (o := c6a14) rfl (fun K hK => ?_) AllReadyH.nil
                  rw [if_pos (by rfl)]
                  refine wp_alloc26 (by rfl) ?_
                  intro g14 W14 hle14 hlt14 hG14 fin_14
                  have le_g14 := Nat.le_trans hHeld.below.size hle14
                  have hS14 := Kept.moved hHeld hG14 (fun _ h => by cases h)
                  have ne_g9_g14 : g9 ≠ g14 := by have := lt_row_10; have := hle14; omega
                  have row_14 := own_moved row_10 hG14  (by simp)
                  have lt_row_14 := Nat.lt_of_lt_of_le lt_row_10 hG14.size
                  clear row_10 lt_row_10
                  refine hK.out _ _ hS14 (fun hHeld => ?_)
                  clear hK K
                  try simp only [c6a14, Act.put, List.setIfInBounds_toArray, List.set_cons_zero, List.set_cons_succ]
                  refine wpAnyH_ready (rs := [15]) (by kernel_rfl) (by simp) ?_
                  refine AllReadyH.cons (o := c6a15) rfl (fun K hK => ?_) AllReadyH.nil
                  rw [if_pos (by rfl)]
                  refine wp_st26 (.tmp 11) (.tmp 53) (by rfl) g14 cz _ (by rfl) (by rfl) fin_14 (by rw [HLZ.out]; rfl) HZZ.out HOZ.out ?_
                  intro W15 hG15 fin_15
                  have hS15 := Kept.moved hHeld hG15 (fun k hk => by cases hk; exact le_g14)
                  have row_15 := own_moved row_14 hG15  (by simpa using ne_g9_g14)
                  have lt_row_15 := Nat.lt_of_lt_of_le lt_row_14 hG15.size
                  have lt_fin_15 := Nat.lt_of_lt_of_le hlt14 hG15.size
                  clear row_14
                  clear fin_14
                  refine hK.out _ _ hS15 (fun hHeld => ?_)
                  clear hK K
                  try simp only [c6a15, Act.put]
                  refine wpAnyH_ready (rs := [16]) (by kernel_rfl) (by simp) ?_
                  refine AllReadyH.cons (o := c6a16) rfl (fun K hK => ?_) AllReadyH.nil
                  rw [if_pos (by rfl)]
                  unfold c6a16
                  go_simp
                  refine hK.out _ _ hHeld (fun hHeld => ?_)
                  clear hK K
                  try simp only [c6a16, Act.put, List.setIfInBounds_toArray, List.set_cons_zero, List.set_cons_succ]
                  refine wpAnyH_done (by kernel_rfl) ?_ _
                  clear hHeld
                  go_wp2_with fail
                  go_meet
                  exact ⟨rfl, by assumption⟩
                · skip
                  rw [if_pos (by rfl)]
                  refine wp_alloc26 (by rfl) ?_
                  intro g14 W14 hle14 hlt14 hG14 fin_14
                  have le_g14 := Nat.le_trans hHeld.below.size hle14
                  have hS14 := Kept.moved hHeld hG14 (fun _ h => by cases h)
                  have ne_g9_g14 : g9 ≠ g14 := by have := lt_row_9; have := hle14; omega
                  have row_14 := own_moved row_9 hG14  (by simp)
                  have lt_row_14 := Nat.lt_of_lt_of_le lt_row_9 hG14.size
                  clear row_9 lt_row_9
                  refine hK.out _ _ hS14 (fun hHeld => ?_)
                  clear hK K
                  try simp only [c6a14, Act.put, List.setIfInBounds_toArray, List.set_cons_zero, List.set_cons_succ]
                  refine wpAnyH_ready (rs := [10]) (by kernel_rfl) (by simp) ?_
                  refine AllReadyH.cons (o := c6a10) rfl (fun K hK => ?_) AllReadyH.nil
                  rw [if_pos (by rfl)]
                  unfold c6a10
                  go_simp
                  (with_reducible refine (HBAD.out _ _ _).mono ?_)
                  rintro e W10 ⟨rfl, hB10⟩
                  have hG10 := gbelow (row := none) hB10
                  have hS10 := Kept.moved hHeld hG10 (fun _ h => by cases h)
                  have row_10 := own_moved row_14 hG10  (by simp)
                  have lt_row_10 := Nat.lt_of_lt_of_le lt_row_14 hG10.size
                  clear row_14 lt_row_14
                  have fin_10 := Arr.moved fin_14 hG10 hlt14 (by simp)
                  have lt_fin_10 := Nat.lt_of_lt_of_le hlt14 hG10.size
                  clear fin_14 hlt14
                  go_wp2_with fail
                  refine hK.out _ _ hS10 (fun hHeld => ?_)
                  clear hK K
                  try simp only [c6a10, Act.put, List.setIfInBounds_toArray, List.set_cons_zero, List.set_cons_succ]
                  refine wpAnyH_take (i := 11) (oi := c6a11) (v := ?_) rfl (by kernel_rfl) (by kernel_rfl) (by kernel_rfl) (fun _ _ _ h => h) (Or.inl ⟨by rfl, ?_⟩) hHeld ?_
                  rotate_left
                  · (intro w hSw; (try dsimp only at hSw); unfold c6a11; go_simp <;> with_reducible rfl)
                  try simp only [c6a11, Act.put, List.setIfInBounds_toArray, List.set_cons_zero, List.set_cons_succ]
                  refine wpAnyH_take (i := 12) (oi := c6a12) (v := ?_) rfl (by kernel_rfl) (by kernel_rfl) (by kernel_rfl) (fun _ _ _ h => h) (Or.inl ⟨by rfl, ?_⟩) hHeld ?_
                  rotate_left
                  · (intro w hSw; (try dsimp only at hSw); unfold c6a12; go_simp <;> with_reducible rfl)
                  try simp only [c6a12, Act.put, List.setIfInBounds_toArray, List.set_cons_zero, List.set_cons_succ]
                  refine wpAnyH_take (i := 13) (oi := c6a13) (v := ?_) rfl (by kernel_rfl) (by kernel_rfl) (by kernel_rfl) (fun _ _ _ h => h) (Or.inl ⟨by rfl, ?_⟩) hHeld ?_
                  rotate_left
                  · (intro w hSw; (try dsimp only at hSw); unfold c6a13; go_simp <;> with_reducible rfl)
                  try simp only [c6a13, Act.put, List.setIfInBounds_toArray, List.set_cons_zero, List.set_cons_succ]
                  refine wpAnyH_ready (rs := [15]) (by kernel_rfl) (by simp) ?_
                  refine AllReadyH.cons (o := c6a15) rfl (fun K hK => ?_) AllReadyH.nil
                  rw [if_pos (by rfl)]
                  refine wp_st26 (.tmp 11) (.tmp 53) (by rfl) g14 cz _ (by rfl) (by rfl) fin_10 (by rw [HLZ.out]; rfl) HZZ.out HOZ.out ?_
                  intro W15 hG15 fin_15
                  have hS15 := Kept.moved hHeld hG15 (fun k hk => by cases hk; exact le_g14)
                  have row_15 := own_moved row_10 hG15  (by simpa using ne_g9_g14)
                  have lt_row_15 := Nat.lt_of_lt_of_le lt_row_10 hG15.size
                  have lt_fin_15 := Nat.lt_of_lt_of_le lt_fin_10 hG15.size
                  clear row_10
                  clear fin_10
                  refine hK.out _ _ hS15 (fun hHeld => ?_)
                  clear hK K
                  try simp only [c6a15, Act.put]
                  refine wpAnyH_ready (rs := [16]) (by kernel_rfl) (by simp) ?_
                  refine AllReadyH.cons (o := c6a16) rfl (fun K hK => ?_) AllReadyH.nil
                  rw [if_pos (by rfl)]
                  unfold c6a16
                  go_simp
                  refine hK.out _ _ hHeld (fun hHeld => ?_)
                  clear hK K
                  try simp only [c6a16, Act.put, List.setIfInBounds_toArray, List.set_cons_zero, List.set_cons_succ]
                  refine wpAnyH_done (by kernel_rfl) ?_ _
                  clear hHeld
                  go_wp2_with fail
                  go_meet
                  exact ⟨rfl, by assumption⟩
              · skip
                rw [if_pos (by rfl)]
                refine wp_alloc26 (by rfl) ?_
                intro g14 W14 hle14 hlt14 hG14 fin_14
                have le_g14 := Nat.le_trans hHeld.below.size hle14
                have hS14 := Kept.moved hHeld hG14 (fun _ h => by cases h)
                have ne_g6_g14 : g6 ≠ g14 := by have := lt_row_6; have := hle14; omega
                have row_14 := own_moved row_6 hG14  (by simp)
                have lt_row_14 := Nat.lt_of_lt_of_le lt_row_6 hG14.size
                clear row_6 lt_row_6
                have ne_g8_g14 : g8 ≠ g14 := by have := lt_one_6; have := hle14; omega
                have one_14 := rng_moved one_6 hG14 lt_one_6 (by simp)
                have lt_one_14 := Nat.lt_of_lt_of_le lt_one_6 hG14.size
                clear one_6 lt_one_6
                refine hK.out _ _ hS14 (fun hHeld => ?_)
                clear hK K
                try simp only [c6a14, Act.put, List.setIfInBounds_toArray, List.set_cons_zero, List.set_cons_succ]
                refine wpAnyH_ready (rs := [9]) (by kernel_rfl) (by simp) ?_
                refine AllReadyH.cons (o := c6a9) rfl (fun K hK => ?_) AllReadyH.nil
                rw [if_pos (by rfl)]
                refine wp_piece 30 26 i0 _ 32 32 Tryd.underlying30 HI.out HZ0.out HZ1.out HZ2.out (by simp [Value.cells]) (by omega) (.tmp 48) (.tmp 50) (by rfl) (base := W7.heap.size) (by rfl) row_14 (by rfl) (piece_row one_14) (by rw [HLD.out]) HOD.out (by unfold maxLen; omega) (by omega) hHeld.below.size (m + 1) (by omega) (flat p ++ cd) (rfl) ?_
                intro hb9 g9 c9 W9 row_9 hG9 hat9
                have hS9 := Kept.moved hHeld hG9 (fun k hk => by cases hk; exact hb9)
                have one_9 := rng_moved one_14 hG9 lt_one_14 (by simpa using ne_g8_g6)
                have lt_one_9 := Nat.lt_of_lt_of_le lt_one_14 hG9.size
                have fin_9 := Arr.moved fin_14 hG9 hlt14 (by simpa using (Ne.symm ne_g6_g14))
                have lt_fin_9 := Nat.lt_of_lt_of_le hlt14 hG9.size
                have ne_g8_g9 : g8 ≠ g9 := by have := ne_g8_g6; have := lt_one_14; rcases hat9 with h | h <;> omega
                have ne_g14_g9 : g14 ≠ g9 := by have := (Ne.symm ne_g6_g14); have := hlt14; rcases hat9 with h | h <;> omega
                clear row_14
                clear one_14
                clear fin_14
                have lt_row_9 := (row_9.lt g9 rfl).2
                refine hK.out _ _ hS9 (fun hHeld => ?_)
                clear hK K
                try simp only [c6a9, Act.put, List.setIfInBounds_toArray, List.set_cons_zero, List.set_cons_succ]
                refine wpAnyH_ready (rs := [10]) (by kernel_rfl) (by simp) ?_
                refine AllReadyH.cons (o := c6a10) rfl (fun K hK => ?_) AllReadyH.nil
                rw [if_pos (by rfl)]
                unfold c6a10
                go_simp
                (with_reducible refine (HBAD.out _ _ _).mono ?_)
                rintro e W10 ⟨rfl, hB10⟩
                have hG10 := gbelow (row := none) hB10
                have hS10 := Kept.moved hHeld hG10 (fun _ h => by cases h)
                have row_10 := own_moved row_9 hG10  (by simp)
                have lt_row_10 := Nat.lt_of_lt_of_le lt_row_9 hG10.size
                clear row_9 lt_row_9
                have fin_10 := Arr.moved fin_9 hG10 lt_fin_9 (by simp)
                have lt_fin_10 := Nat.lt_of_lt_of_le lt_fin_9 hG10.size
                clear fin_9 lt_fin_9
                go_wp2_with fail
                refine hK.out _ _ hS10 (fun hHeld => ?_)
                clear hK K
                try simp only [c6a10, Act.put, List.setIfInBounds_toArray, List.set_cons_zero, List.set_cons_succ]
                refine wpAnyH_take (i := 11) (oi := c6a11) (v := ?_) rfl (by kernel_rfl) (by kernel_rfl) (by kernel_rfl) (fun _ _ _ h => h) (Or.inl ⟨by rfl, ?_⟩) hHeld ?_
                rotate_left
                · (intro w hSw; (try dsimp only at hSw); unfold c6a11; go_simp <;> with_reducible rfl)
                try simp only [c6a11, Act.put, List.setIfInBounds_toArray, List.set_cons_zero, List.set_cons_succ]
                refine wpAnyH_take (i := 12) (oi := c6a12) (v := ?_) rfl (by kernel_rfl) (by kernel_rfl) (by kernel_rfl) (fun _ _ _ h => h) (Or.inl ⟨by rfl, ?_⟩) hHeld ?_
                rotate_left
                · (intro w hSw; (try dsimp only at hSw); unfold c6a12; go_simp <;> with_reducible rfl)
                try simp only [c6a12, Act.put, List.setIfInBounds_toArray, List.set_cons_zero, List.set_cons_succ]
                refine wpAnyH_take (i := 13) (oi := c6a13) (v := ?_) rfl (by kernel_rfl) (by kernel_rfl) (by kernel_rfl) (fun _ _ _ h => h) (Or.inl ⟨by rfl, ?_⟩) hHeld ?_
                rotate_left
                · (intro w hSw; (try dsimp only at hSw); unfold c6a13; go_simp <;> with_reducible rfl)
                try simp only [c6a13, Act.put, List.setIfInBounds_toArray, List.set_cons_zero, List.set_cons_succ]
                refine wpAnyH_ready (rs := [15]) (by kernel_rfl) (by simp) ?_
                refine AllReadyH.cons (o := c6a15) rfl (fun K hK => ?_) AllReadyH.nil
                rw [if_pos (by rfl)]
                refine wp_st26 (.tmp 11) (.tmp 53) (by rfl) g14 cz _ (by rfl) (by rfl) fin_10 (by rw [HLZ.out]; rfl) HZZ.out HOZ.out ?_
                intro W15 hG15 fin_15
                have hS15 := Kept.moved hHeld hG15 (fun k hk => by cases hk; exact le_g14)
                have row_15 := own_moved row_10 hG15  (by simpa using (Ne.symm ne_g14_g9))
                have lt_row_15 := Nat.lt_of_lt_of_le lt_row_10 hG15.size
                have lt_fin_15 := Nat.lt_of_lt_of_le lt_fin_10 hG15.size
                clear row_10
                clear fin_10
                refine hK.out _ _ hS15 (fun hHeld => ?_)
                clear hK K
                try simp only [c6a15, Act.put]
                refine wpAnyH_ready (rs := [16]) (by kernel_rfl) (by simp) ?_
                refine AllReadyH.cons (o := c6a16) rfl (fun K hK => ?_) AllReadyH.nil
                rw [if_pos (by rfl)]
                unfold c6a16
                go_simp
                refine hK.out _ _ hHeld (fun hHeld => ?_)
                clear hK K
                try simp only [c6a16, Act.put, List.setIfInBounds_toArray, List.set_cons_zero, List.set_cons_succ]
                refine wpAnyH_done (by kernel_rfl) ?_ _
                clear hHeld
                go_wp2_with fail
                go_meet
                exact ⟨rfl, by assumption⟩
            · skip
              rw [if_pos (by rfl)]
              refine wp_alloc26 (by rfl) ?_
              intro g14 W14 hle14 hlt14 hG14 fin_14
              have le_g14 := Nat.le_trans hHeld.below.size hle14
              have hS14 := Kept.moved hHeld hG14 (fun _ h => by cases h)
              have ne_g4_g14 : g4 ≠ g14 := by have := lt_row_8; have := hle14; omega
              have row_14 := own_moved row_8 hG14  (by simp)
              have lt_row_14 := Nat.lt_of_lt_of_le lt_row_8 hG14.size
              clear row_8 lt_row_8
              have ne_g8_g14 : g8 ≠ g14 := by have := hlt8; have := hle14; omega
              have one_14 := rng_moved one_8 hG14 hlt8 (by simp)
              have lt_one_14 := Nat.lt_of_lt_of_le hlt8 hG14.size
              clear one_8 hlt8
              refine hK.out _ _ hS14 (fun hHeld => ?_)
              clear hK K
              try simp only [c6a14, Act.put, List.setIfInBounds_toArray, List.set_cons_zero, List.set_cons_succ]
              refine wpAnyH_ready (rs := [6]) (by kernel_rfl) (by simp) ?_
              refine AllReadyH.cons (o := c6a6) rfl (fun K hK => ?_) AllReadyH.nil
              rw [if_pos (by rfl)]
              refine wp_piece 30 26 i0 _ 32 32 Tryd.underlying30 HI.out HZ0.out HZ1.out HZ2.out (by simp [Value.cells]) (by omega) (.tmp 46) (.tmp 47) (by rfl) (base := W7.heap.size) (by rfl) row_14 (by rfl) (HPV.out _ hHeld) HFL.out HFO.out (by unfold maxLen; omega) (by omega) hHeld.below.size (m) (by omega) (flat p) (by simp) ?_
              intro hb6 g6 c6 W6 row_6 hG6 hat6
              have hS6 := Kept.moved hHeld hG6 (fun k hk => by cases hk; exact hb6)
              have one_6 := rng_moved one_14 hG6 lt_one_14 (by simpa using (Ne.symm ne_g4_g8))
              have lt_one_6 := Nat.lt_of_lt_of_le lt_one_14 hG6.size
              have fin_6 := Arr.moved fin_14 hG6 hlt14 (by simpa using (Ne.symm ne_g4_g14))
              have lt_fin_6 := Nat.lt_of_lt_of_le hlt14 hG6.size
              have ne_g8_g6 : g8 ≠ g6 := by have := (Ne.symm ne_g4_g8); have := lt_one_14; rcases hat6 with h | h <;> omega
              have ne_g14_g6 : g14 ≠ g6 := by have := (Ne.symm ne_g4_g14); have := hlt14; rcases hat6 with h | h <;> omega
              clear row_14
              clear one_14
              clear fin_14
              have lt_row_6 := (row_6.lt g6 rfl).2
              refine hK.out _ _ hS6 (fun hHeld => ?_)
              clear hK K
              try simp only [c6a6, Act.put, List.setIfInBounds_toArray, List.set_cons_zero, List.set_cons_succ]
              refine wpAnyH_ready (rs := [9]) (by kernel_rfl) (by simp) ?_
              refine AllReadyH.cons (o := c6a9) rfl (fun K hK => ?_) AllReadyH.nil
              rw [if_pos (by rfl)]
              refine wp_piece 30 26 i0 _ 32 32 Tryd.underlying30 HI.out HZ0.out HZ1.out HZ2.out (by simp [Value.cells]) (by omega) (.tmp 48) (.tmp 50) (by rfl) (base := W7.heap.size) (by rfl) row_6 (by rfl) (piece_row one_6) (by rw [HLD.out]) HOD.out (by unfold maxLen; omega) (by omega) hHeld.below.size (m + 1) (by omega) (flat p ++ cd) (rfl) ?_
              intro hb9 g9 c9 W9 row_9 hG9 hat9
              have hS9 := Kept.moved hHeld hG9 (fun k hk => by cases hk; exact hb9)
              have one_9 := rng_moved one_6 hG9 lt_one_6 (by simpa using ne_g8_g6)
              have lt_one_9 := Nat.lt_of_lt_of_le lt_one_6 hG9.size
              have fin_9 := Arr.moved fin_6 hG9 lt_fin_6 (by simpa using ne_g14_g6)
              have lt_fin_9 := Nat.lt_of_lt_of_le lt_fin_6 hG9.size
              have ne_g8_g9 : g8 ≠ g9 := by have := ne_g8_g6; have := lt_one_6; rcases hat9 with h | h <;> omega
              have ne_g14_g9 : g14 ≠ g9 := by have := ne_g14_g6; have := lt_fin_6; rcases hat9 with h | h <;> omega
              clear row_6
              clear one_6
              clear fin_6
              have lt_row_9 := (row_9.lt g9 rfl).2
              refine hK.out _ _ hS9 (fun hHeld => ?_)
              clear hK K
              try simp only [c6a9, Act.put, List.setIfInBounds_toArray, List.set_cons_zero, List.set_cons_succ]
              refine wpAnyH_ready (rs := [10]) (by kernel_rfl) (by simp) ?_
              refine AllReadyH.cons (o := c6a10) rfl (fun K hK => ?_) AllReadyH.nil
              rw [if_pos (by rfl)]
              unfold c6a10
              go_simp
              (with_reducible refine (HBAD.out _ _ _).mono ?_)
              rintro e W10 ⟨rfl, hB10⟩
              have hG10 := gbelow (row := none) hB10
              have hS10 := Kept.moved hHeld hG10 (fun _ h => by cases h)
              have row_10 := own_moved row_9 hG10  (by simp)
              have lt_row_10 := Nat.lt_of_lt_of_le lt_row_9 hG10.size
              clear row_9 lt_row_9
              have fin_10 := Arr.moved fin_9 hG10 lt_fin_9 (by simp)
              have lt_fin_10 := Nat.lt_of_lt_of_le lt_fin_9 hG10.size
              clear fin_9 lt_fin_9
              go_wp2_with fail
              refine hK.out _ _ hS10 (fun hHeld => ?_)
              clear hK K
              try simp only [c6a10, Act.put, List.setIfInBounds_toArray, List.set_cons_zero, List.set_cons_succ]
              refine wpAnyH_take (i := 11) (oi := c6a11) (v := ?_) rfl (by kernel_rfl) (by kernel_rfl) (by kernel_rfl) (fun _ _ _ h => h) (Or.inl ⟨by rfl, ?_⟩) hHeld ?_
              rotate_left
              · (intro w hSw; (try dsimp only at hSw); unfold c6a11; go_simp <;> with_reducible rfl)
              try simp only [c6a11, Act.put, List.setIfInBounds_toArray, List.set_cons_zero, List.set_cons_succ]
              refine wpAnyH_take (i := 12) (oi := c6a12) (v := ?_) rfl (by kernel_rfl) (by kernel_rfl) (by kernel_rfl) (fun _ _ _ h => h) (Or.inl ⟨by rfl, ?_⟩) hHeld ?_
              rotate_left
              · (intro w hSw; (try dsimp only at hSw); unfold c6a12; go_simp <;> with_reducible rfl)
              try simp only [c6a12, Act.put, List.setIfInBounds_toArray, List.set_cons_zero, List.set_cons_succ]
              refine wpAnyH_take (i := 13) (oi := c6a13) (v := ?_) rfl (by kernel_rfl) (by kernel_rfl) (by kernel_rfl) (fun _ _ _ h => h) (Or.inl ⟨by rfl, ?_⟩) hHeld ?_
              rotate_left
              · (intro w hSw; (try dsimp only at hSw); unfold c6a13; go_simp <;> with_reducible rfl)
              try simp only [c6a13, Act.put, List.setIfInBounds_toArray, List.set_cons_zero, List.set_cons_succ]
              refine wpAnyH_ready (rs := [15]) (by kernel_rfl) (by simp) ?_
              refine AllReadyH.cons (o := c6a15) rfl (fun K hK => ?_) AllReadyH.nil
              rw [if_pos (by rfl)]
              refine wp_st26 (.tmp 11) (.tmp 53) (by rfl) g14 cz _ (by rfl) (by rfl) fin_10 (by rw [HLZ.out]; rfl) HZZ.out HOZ.out ?_
              intro W15 hG15 fin_15
              have hS15 := Kept.moved hHeld hG15 (fun k hk => by cases hk; exact le_g14)
              have row_15 := own_moved row_10 hG15  (by simpa using (Ne.symm ne_g14_g9))
              have lt_row_15 := Nat.lt_of_lt_of_le lt_row_10 hG15.size
              have lt_fin_15 := Nat.lt_of_lt_of_le lt_fin_10 hG15.size
              clear row_10
              clear fin_10
              refine hK.out _ _ hS15 (fun hHeld => ?_)
              clear hK K
              try simp only [c6a15, Act.put]
              refine wpAnyH_ready (rs := [16]) (by kernel_rfl) (by simp) ?_
              refine AllReadyH.cons (o := c6a16) rfl (fun K hK => ?_) AllReadyH.nil
              rw [if_pos (by rfl)]
              unfold c6a16
              go_simp
              refine hK.out _ _ hHeld (fun hHeld => ?_)
              clear hK K
              try simp only [c6a16, Act.put, List.setIfInBounds_toArray, List.set_cons_zero, List.set_cons_succ]
              refine wpAnyH_done (by kernel_rfl) ?_ _
              clear hHeld
              go_wp2_with fail
              go_meet
              exact ⟨rfl, by assumption⟩
          · skip
            rw [if_pos (by rfl)]
            refine wp_alloc26 (by rfl) ?_
            intro g14 W14 hle14 hlt14 hG14 fin_14
            have le_g14 := Nat.le_trans hHeld.below.size hle14
            have hS14 := Kept.moved hHeld hG14 (fun _ h => by cases h)
            have ne_g4_g14 : g4 ≠ g14 := by have := hlt4; have := hle14; omega
            have row_14 := own_moved row_4 hG14  (by simp)
            have lt_row_14 := Nat.lt_of_lt_of_le hlt4 hG14.size
            clear row_4 hlt4
            refine hK.out _ _ hS14 (fun hHeld => ?_)
            clear hK K
            try simp only [c6a14, Act.put, List.setIfInBounds_toArray, List.set_cons_zero, List.set_cons_succ]
            refine wpAnyH_ready (rs := [6, 8]) (by kernel_rfl) (by simp) ?_
            refine AllReadyH.cons (o := c6a6) rfl (fun K hK => ?_) (AllReadyH.cons (o := c6a8) rfl (fun K hK => ?_) AllReadyH.nil)
            · skip
              rw [if_pos (by rfl)]
              refine wp_piece 30 26 i0 _ 32 32 Tryd.underlying30 HI.out HZ0.out HZ1.out HZ2.out (by simp [Value.cells]) (by omega) (.tmp 46) (.tmp 47) (by rfl) (base := W7.heap.size) (by rfl) row_14 (by rfl) (HPV.out _ hHeld) HFL.out HFO.out (by unfold maxLen; omega) (by omega) hHeld.below.size (m) (by omega) (flat p) (by simp) ?_
              intro hb6 g6 c6 W6 row_6 hG6 hat6
              have hS6 := Kept.moved hHeld hG6 (fun k hk => by cases hk; exact hb6)
              have fin_6 := Arr.moved fin_14 hG6 hlt14 (by simpa using (Ne.symm ne_g4_g14))
              have lt_fin_6 := Nat.lt_of_lt_of_le hlt14 hG6.size
              have ne_g14_g6 : g14 ≠ g6 := by have := (Ne.symm ne_g4_g14); have := hlt14; rcases hat6 with h | h <;> omega
              clear row_14
              clear fin_14
              have lt_row_6 := (row_6.lt g6 rfl).2
              refine hK.out _ _ hS6 (fun hHeld => ?_)
              clear hK K
              try simp only [c6a6, Act.put, List.setIfInBounds_toArray, List.set_cons_zero, List.set_cons_succ]
              refine wpAnyH_ready (rs := [8]) (by kernel_rfl) (by simp) ?_
              refine AllReadyH.cons (o := c6a8) rfl (fun K hK => ?_) AllReadyH.nil
              rw [if_pos (by rfl)]
              refine wp_one30 (.tmp 49) (by rfl) cd (by rfl) HLD.out ?_
              intro g8 W8 hle8 hlt8 hG8 one_8
              have hS8 := Kept.moved hHeld hG8 (fun _ h => by cases h)
              have ne_g6_g8 : g6 ≠ g8 := by have := lt_row_6; have := hle8; omega
              have row_8 := own_moved row_6 hG8  (by simp)
              have lt_row_8 := Nat.lt_of_lt_of_le lt_row_6 hG8.size
              clear row_6 lt_row_6
              have ne_g14_g8 : g14 ≠ g8 := by have := lt_fin_6; have := hle8; omega
              have fin_8 := Arr.moved fin_6 hG8 lt_fin_6 (by simp)
              have lt_fin_8 := Nat.lt_of_lt_of_le lt_fin_6 hG8.size
              clear fin_6 lt_fin_6
              refine hK.out _ _ hS8 (fun hHeld => ?_)
              clear hK K
              try simp only [c6a8, Act.put, List.setIfInBounds_toArray, List.set_cons_zero, List.set_cons_succ]
              refine wpAnyH_ready (rs := [9]) (by kernel_rfl) (by simp) ?_
              refine AllReadyH.cons (o := c6a9) rfl (fun K hK => ?_) AllReadyH.nil
              rw [if_pos (by rfl)]
              refine wp_piece 30 26 i0 _ 32 32 Tryd.underlying30 HI.out HZ0.out HZ1.out HZ2.out (by simp [Value.cells]) (by omega) (.tmp 48) (.tmp 50) (by rfl) (base := W7.heap.size) (by rfl) row_8 (by rfl) (piece_row one_8) (by rw [HLD.out]) HOD.out (by unfold maxLen; omega) (by omega) hHeld.below.size (m + 1) (by omega) (flat p ++ cd) (rfl) ?_
              intro hb9 g9 c9 W9 row_9 hG9 hat9
              have hS9 := Kept.moved hHeld hG9 (fun k hk => by cases hk; exact hb9)
              have fin_9 := Arr.moved fin_8 hG9 lt_fin_8 (by simpa using ne_g14_g6)
              have lt_fin_9 := Nat.lt_of_lt_of_le lt_fin_8 hG9.size
              have one_9 := rng_moved one_8 hG9 hlt8 (by simpa using (Ne.symm ne_g6_g8))
              have lt_one_9 := Nat.lt_of_lt_of_le hlt8 hG9.size
              have ne_g14_g9 : g14 ≠ g9 := by have := ne_g14_g6; have := lt_fin_8; rcases hat9 with h | h <;> omega
              have ne_g8_g9 : g8 ≠ g9 := by have := (Ne.symm ne_g6_g8); have := hlt8; rcases hat9 with h | h <;> omega
              clear row_8
              clear fin_8
              clear one_8
              have lt_row_9 := (row_9.lt g9 rfl).2
              refine hK.out _ _ hS9 (fun hHeld => ?_)
              clear hK K
              try simp only [c6a9, Act.put, List.setIfInBounds_toArray, List.set_cons_zero, List.set_cons_succ]
              refine wpAnyH_ready (rs := [10]) (by kernel_rfl) (by simp) ?_
              refine AllReadyH.cons (o := c6a10) rfl (fun K hK => ?_) AllReadyH.nil
              rw [if_pos (by rfl)]
              unfold c6a10
              go_simp
              (with_reducible refine (HBAD.out _ _ _).mono ?_)
              rintro e W10 ⟨rfl, hB10⟩
              have hG10 := gbelow (row := none) hB10
              have hS10 := Kept.moved hHeld hG10 (fun _ h => by cases h)
              have row_10 := own_moved row_9 hG10  (by simp)
              have lt_row_10 := Nat.lt_of_lt_of_le lt_row_9 hG10.size
              clear row_9 lt_row_9
              have fin_10 := Arr.moved fin_9 hG10 lt_fin_9 (by simp)
              have lt_fin_10 := Nat.lt_of_lt_of_le lt_fin_9 hG10.size
              clear fin_9 lt_fin_9
              go_wp2_with fail
              refine hK.out _ _ hS10 (fun hHeld => ?_)
              clear hK K
              try simp only [c6a10, Act.put, List.setIfInBounds_toArray, List.set_cons_zero, List.set_cons_succ]
              refine wpAnyH_take (i := 11) (oi := c6a11) (v := ?_) rfl (by kernel_rfl) (by kernel_rfl) (by kernel_rfl) (fun _ _ _ h => h) (Or.inl ⟨by rfl, ?_⟩) hHeld ?_
              rotate_left
              · (intro w hSw; (try dsimp only at hSw); unfold c6a11; go_simp <;> with_reducible rfl)
              try simp only [c6a11, Act.put, List.setIfInBounds_toArray, List.set_cons_zero, List.set_cons_succ]
              refine wpAnyH_take (i := 12) (oi := c6a12) (v := ?_) rfl (by kernel_rfl) (by kernel_rfl) (by kernel_rfl) (fun _ _ _ h => h) (Or.inl ⟨by rfl, ?_⟩) hHeld ?_
              rotate_left
              · (intro w hSw; (try dsimp only at hSw); unfold c6a12; go_simp <;> with_reducible rfl)
              try simp only [c6a12, Act.put, List.setIfInBounds_toArray, List.set_cons_zero, List.set_cons_succ]
              refine wpAnyH_take (i := 13) (oi := c6a13) (v := ?_) rfl (by kernel_rfl) (by kernel_rfl) (by kernel_rfl) (fun _ _ _ h => h) (Or.inl ⟨by rfl, ?_⟩) hHeld ?_
              rotate_left
              · (intro w hSw; (try dsimp only at hSw); unfold c6a13; go_simp <;> with_reducible rfl)
              try simp only [c6a13, Act.put, List.setIfInBounds_toArray, List.set_cons_zero, List.set_cons_succ]
              refine wpAnyH_ready (rs := [15]) (by kernel_rfl) (by simp) ?_
              refine AllReadyH.cons (o := c6a15) rfl (fun K hK => ?_) AllReadyH.nil
              rw [if_pos (by rfl)]
              refine wp_st26 (.tmp 11) (.tmp 53) (by rfl) g14 cz _ (by rfl) (by rfl) fin_10 (by rw [HLZ.out]; rfl) HZZ.out HOZ.out ?_
              intro W15 hG15 fin_15
              have hS15 := Kept.moved hHeld hG15 (fun k hk => by cases hk; exact le_g14)
              have row_15 := own_moved row_10 hG15  (by simpa using (Ne.symm ne_g14_g9))
              have lt_row_15 := Nat.lt_of_lt_of_le lt_row_10 hG15.size
              have lt_fin_15 := Nat.lt_of_lt_of_le lt_fin_10 hG15.size
              clear row_10
              clear fin_10
              refine hK.out _ _ hS15 (fun hHeld => ?_)
              clear hK K
              try simp only [c6a15, Act.put]
              refine wpAnyH_ready (rs := [16]) (by kernel_rfl) (by simp) ?_
              refine AllReadyH.cons (o := c6a16) rfl (fun K hK => ?_) AllReadyH.nil
              rw [if_pos (by rfl)]
              unfold c6a16
              go_simp
              refine hK.out _ _ hHeld (fun hHeld => ?_)
              clear hK K
              try simp only [c6a16, Act.put, List.setIfInBounds_toArray, List.set_cons_zero, List.set_cons_succ]
              refine wpAnyH_done (by kernel_rfl) ?_ _
              clear hHeld
              go_wp2_with fail
              go_meet
              exact ⟨rfl, by assumption⟩
            · skip
              rw [if_pos (by rfl)]
              refine wp_one30 (.tmp 49) (by rfl) cd (by rfl) HLD.out ?_
              intro g8 W8 hle8 hlt8 hG8 one_8
              have hS8 := Kept.moved hHeld hG8 (fun _ h => by cases h)
              have ne_g4_g8 : g4 ≠ g8 := by have := lt_row_14; have := hle8; omega
              have row_8 := own_moved row_14 hG8  (by simp)
              have lt_row_8 := Nat.lt_of_lt_of_le lt_row_14 hG8.size
              clear row_14 lt_row_14
              have ne_g14_g8 : g14 ≠ g8 := by have := hlt14; have := hle8; omega
              have fin_8 := Arr.moved fin_14 hG8 hlt14 (by simp)
              have lt_fin_8 := Nat.lt_of_lt_of_le hlt14 hG8.size
              clear fin_14 hlt14
              refine hK.out _ _ hS8 (fun hHeld => ?_)
              clear hK K
              try simp only [c6a8, Act.put, List.setIfInBounds_toArray, List.set_cons_zero, List.set_cons_succ]
              refine wpAnyH_ready (rs := [6]) (by kernel_rfl) (by simp) ?_
              refine AllReadyH.cons (o := c6a6) rfl (fun K hK => ?_) AllReadyH.nil
              rw [if_pos (by rfl)]
              refine wp_piece 30 26 i0 _ 32 32 Tryd.underlying30 HI.out HZ0.out HZ1.out HZ2.out (by simp [Value.cells]) (by omega) (.tmp 46) (.tmp 47) (by rfl) (base := W7.heap.size) (by rfl) row_8 (by rfl) (HPV.out _ hHeld) HFL.out HFO.out (by unfold maxLen; omega) (by omega) hHeld.below.size (m) (by omega) (flat p) (by simp) ?_
              intro hb6 g6 c6 W6 row_6 hG6 hat6
              have hS6 := Kept.moved hHeld hG6 (fun k hk => by cases hk; exact hb6)
              have fin_6 := Arr.moved fin_8 hG6 lt_fin_8 (by simpa using (Ne.symm ne_g4_g14))
              have lt_fin_6 := Nat.lt_of_lt_of_le lt_fin_8 hG6.size
              have one_6 := rng_moved one_8 hG6 hlt8 (by simpa using (Ne.symm ne_g4_g8))
              have lt_one_6 := Nat.lt_of_lt_of_le hlt8 hG6.size
              have ne_g14_g6 : g14 ≠ g6 := by have := (Ne.symm ne_g4_g14); have := lt_fin_8; rcases hat6 with h | h <;> omega
              have ne_g8_g6 : g8 ≠ g6 := by have := (Ne.symm ne_g4_g8); have := hlt8; rcases hat6 with h | h <;> omega
              clear row_8
              clear fin_8
              clear one_8
              have lt_row_6 := (row_6.lt g6 rfl).2
              refine hK.out _ _ hS6 (fun hHeld => ?_)
              clear hK K
              try simp only [c6a6, Act.put, List.setIfInBounds_toArray, List.set_cons_zero, List.set_cons_succ]
              refine wpAnyH_ready (rs := [9]) (by kernel_rfl) (by simp) ?_
              refine AllReadyH.cons (o := c6a9) rfl (fun K hK => ?_) AllReadyH.nil
              rw [if_pos (by rfl)]
              refine wp_piece 30 26 i0 _ 32 32 Tryd.underlying30 HI.out HZ0.out HZ1.out HZ2.out (by simp [Value.cells]) (by omega) (.tmp 48) (.tmp 50) (by rfl) (base := W7.heap.size) (by rfl) row_6 (by rfl) (piece_row one_6) (by rw [HLD.out]) HOD.out (by unfold maxLen; omega) (by omega) hHeld.below.size (m + 1) (by omega) (flat p ++ cd) (rfl) ?_
              intro hb9 g9 c9 W9 row_9 hG9 hat9
              have hS9 := Kept.moved hHeld hG9 (fun k hk => by cases hk; exact hb9)
              have fin_9 := Arr.moved fin_6 hG9 lt_fin_6 (by simpa using ne_g14_g6)
              have lt_fin_9 := Nat.lt_of_lt_of_le lt_fin_6 hG9.size
              have one_9 := rng_moved one_6 hG9 lt_one_6 (by simpa using ne_g8_g6)
              have lt_one_9 := Nat.lt_of_lt_of_le lt_one_6 hG9.size
              have ne_g14_g9 : g14 ≠ g9 := by have := ne_g14_g6; have := lt_fin_6; rcases hat9 with h | h <;> omega
              have ne_g8_g9 : g8 ≠ g9 := by have := ne_g8_g6; have := lt_one_6; rcases hat9 with h | h <;> omega
              clear row_6
              clear fin_6
              clear one_6
              have lt_row_9 := (row_9.lt g9 rfl).2
              refine hK.out _ _ hS9 (fun hHeld => ?_)
              clear hK K
              try simp only [c6a9, Act.put, List.setIfInBounds_toArray, List.set_cons_zero, List.set_cons_succ]
              refine wpAnyH_ready (rs := [10]) (by kernel_rfl) (by simp) ?_
              refine AllReadyH.cons (o := c6a10) rfl (fun K hK => ?_) AllReadyH.nil
              rw [if_pos (by rfl)]
              unfold c6a10
              go_simp
              (with_reducible refine (HBAD.out _ _ _).mono ?_)
              rintro e W10 ⟨rfl, hB10⟩
              have hG10 := gbelow (row := none) hB10
              have hS10 := Kept.moved hHeld hG10 (fun _ h => by cases h)
              have row_10 := own_moved row_9 hG10  (by simp)
              have lt_row_10 := Nat.lt_of_lt_of_le lt_row_9 hG10.size
              clear row_9 lt_row_9
              have fin_10 := Arr.moved fin_9 hG10 lt_fin_9 (by simp)
              have lt_fin_10 := Nat.lt_of_lt_of_le lt_fin_9 hG10.size
              clear fin_9 lt_fin_9
              go_wp2_with fail
              refine hK.out _ _ hS10 (fun hHeld => ?_)
              clear hK K
              try simp only [c6a10, Act.put, List.setIfInBounds_toArray, List.set_cons_zero, List.set_cons_succ]
              refine wpAnyH_take (i := 11) (oi := c6a11) (v := ?_) rfl (by kernel_rfl) (by kernel_rfl) (by kernel_rfl) (fun _ _ _ h => h) (Or.inl ⟨by rfl, ?_⟩) hHeld ?_
              rotate_left
              · (intro w hSw; (try dsimp only at hSw); unfold c6a11; go_simp <;> with_reducible rfl)
              try simp only [c6a11, Act.put, List.setIfInBounds_toArray, List.set_cons_zero, List.set_cons_succ]
              refine wpAnyH_take (i := 12) (oi := c6a12) (v := ?_) rfl (by kernel_rfl) (by kernel_rfl) (by kernel_rfl) (fun _ _ _ h => h) (Or.inl ⟨by rfl, ?_⟩) hHeld ?_
              rotate_left
              · (intro w hSw; (try dsimp only at hSw); unfold c6a12; go_simp <;> with_reducible rfl)
              try simp only [c6a12, Act.put, List.setIfInBounds_toArray, List.set_cons_zero, List.set_cons_succ]
              refine wpAnyH_take (i := 13) (oi := c6a13) (v := ?_) rfl (by kernel_rfl) (by kernel_rfl) (by kernel_rfl) (fun _ _ _ h => h) (Or.inl ⟨by rfl, ?_⟩) hHeld ?_
              rotate_left
              · (intro w hSw; (try dsimp only at hSw); unfold c6a13; go_simp <;> with_reducible rfl)
              try simp only [c6a13, Act.put, List.setIfInBounds_toArray, List.set_cons_zero, List.set_cons_succ]
              refine wpAnyH_ready (rs := [15]) (by kernel_rfl) (by simp) ?_
              refine AllReadyH.cons (o := c6a15) rfl (fun K hK => ?_) AllReadyH.nil
              rw [if_pos (by rfl)]
              refine wp_st26 (.tmp 11) (.tmp 53) (by rfl) g14 cz _ (by rfl) (by rfl) fin_10 (by rw [HLZ.out]; rfl) HZZ.out HOZ.out ?_
              intro W15 hG15 fin_15
              have hS15 := Kept.moved hHeld hG15 (fun k hk => by cases hk; exact le_g14)
              have row_15 := own_moved row_10 hG15  (by simpa using (Ne.symm ne_g14_g9))
              have lt_row_15 := Nat.lt_of_lt_of_le lt_row_10 hG15.size
              have lt_fin_15 := Nat.lt_of_lt_of_le lt_fin_10 hG15.size
              clear row_10
              clear fin_10
              refine hK.out _ _ hS15 (fun hHeld => ?_)
              clear hK K
              try simp only [c6a15, Act.put]
              refine wpAnyH_ready (rs := [16]) (by kernel_rfl) (by simp) ?_
              refine AllReadyH.cons (o := c6a16) rfl (fun K hK => ?_) AllReadyH.nil
              rw [if_pos (by rfl)]
              unfold c6a16
              go_simp
              refine hK.out _ _ hHeld (fun hHeld => ?_)
              clear hK K
              try simp only [c6a16, Act.put, List.setIfInBounds_toArray, List.set_cons_zero, List.set_cons_succ]
              refine wpAnyH_done (by kernel_rfl) ?_ _
              clear hHeld
              go_wp2_with fail
              go_meet
              exact ⟨rfl, by assumption⟩
        · skip
          rw [if_pos (by rfl)]
          refine wp_one30 (.tmp 49) (by rfl) cd (by rfl) HLD.out ?_
          intro g8 W8 hle8 hlt8 hG8 one_8
          have hS8 := Kept.moved hHeld hG8 (fun _ h => by cases h)
          refine hK.out _ _ hS8 (fun hHeld => ?_)
          clear hK K
          try simp only [c6a8, Act.put, List.setIfInBounds_toArray, List.set_cons_zero, List.set_cons_succ]
          refine wpAnyH_ready (rs := [4, 14]) (by kernel_rfl) (by simp) ?_
          refine AllReadyH.cons (o := c6a4) rfl (fun K hK => ?_) (AllReadyH.cons (o := c6a14) rfl (fun K hK => ?_) AllReadyH.nil)
          · skip
            rw [if_pos (by rfl)]
            refine wp_new30 (by rfl) ?_
            intro g4 W4 hle4 hlt4 hG4 hn4
            have row_4 := hn4 W7.heap.size hHeld.below.size
            clear hn4
            have hS4 := Kept.moved hHeld hG4 (fun _ h => by cases h)
            have ne_g8_g4 : g8 ≠ g4 := by have := hlt8; have := hle4; omega
            have one_4 := rng_moved one_8 hG4 hlt8 (by simp)
            have lt_one_4 := Nat.lt_of_lt_of_le hlt8 hG4.size
            clear one_8 hlt8
            refine hK.out _ _ hS4 (fun hHeld => ?_)
            clear hK K
            try simp only [c6a4, Act.put, List.setIfInBounds_toArray, List.set_cons_zero, List.set_cons_succ]
            refine wpAnyH_ready (rs := [6, 14]) (by kernel_rfl) (by simp) ?_
            refine AllReadyH.cons (o := c6a6) rfl (fun K hK => ?_) (AllReadyH.cons (o := c6a14) rfl (fun K hK => ?_) AllReadyH.nil)
            · skip
              rw [if_pos (by rfl)]
              refine wp_piece 30 26 i0 _ 32 32 Tryd.underlying30 HI.out HZ0.out HZ1.out HZ2.out (by simp [Value.cells]) (by omega) (.tmp 46) (.tmp 47) (by rfl) (base := W7.heap.size) (by rfl) row_4 (by rfl) (HPV.out _ hHeld) HFL.out HFO.out (by unfold maxLen; omega) (by omega) hHeld.below.size (m) (by omega) (flat p) (by simp) ?_
              intro hb6 g6 c6 W6 row_6 hG6 hat6
              have hS6 := Kept.moved hHeld hG6 (fun k hk => by cases hk; exact hb6)
              have one_6 := rng_moved one_4 hG6 lt_one_4 (by simpa using ne_g8_g4)
              have lt_one_6 := Nat.lt_of_lt_of_le lt_one_4 hG6.size
              have ne_g8_g6 : g8 ≠ g6 := by have := ne_g8_g4; have := lt_one_4; rcases hat6 with h | h <;> omega
              clear one_4
              clear row_4
              have lt_row_6 := (row_6.lt g6 rfl).2
              refine hK.out _ _ hS6 (fun hHeld => ?_)
              clear hK K
              try simp only [c6a6, Act.put, List.setIfInBounds_toArray, List.set_cons_zero, List.set_cons_succ]
              refine wpAnyH_ready (rs := [9, 14]) (by kernel_rfl) (by simp) ?_
              refine AllReadyH.cons (o := c6a9) rfl (fun K hK => ?_) (AllReadyH.cons (o := c6a14) rfl (fun K hK => ?_) AllReadyH.nil)
              · skip
                rw [if_pos (by rfl)]
                refine wp_piece 30 26 i0 _ 32 32 Tryd.underlying30 HI.out HZ0.out HZ1.out HZ2.out (by simp [Value.cells]) (by omega) (.tmp 48) (.tmp 50) (by rfl) (base := W7.heap.size) (by rfl) row_6 (by rfl) (piece_row one_6) (by rw [HLD.out]) HOD.out (by unfold maxLen; omega) (by omega) hHeld.below.size (m + 1) (by omega) (flat p ++ cd) (rfl) ?_
                intro hb9 g9 c9 W9 row_9 hG9 hat9
                have hS9 := Kept.moved hHeld hG9 (fun k hk => by cases hk; exact hb9)
                have one_9 := rng_moved one_6 hG9 lt_one_6 (by simpa using ne_g8_g6)
                have lt_one_9 := Nat.lt_of_lt_of_le lt_one_6 hG9.size
                have ne_g8_g9 : g8 ≠ g9 := by have := ne_g8_g6; have := lt_one_6; rcases hat9 with h | h <;> omega
                clear one_6
                clear row_6
                have lt_row_9 := (row_9.lt g9 rfl).2
                refine hK.out _ _ hS9 (fun hHeld => ?_)
                clear hK K
                try simp only [c6a9, Act.put, List.setIfInBounds_toArray, List.set_cons_zero, List.set_cons_succ]
                refine wpAnyH_ready (rs := [10, 14]) (by kernel_rfl) (by simp) ?_
                refine AllReadyH.cons (o := c6a10) rfl (fun K hK => ?_) (AllReadyH.cons (o := c6a14) rfl (fun K hK => ?_) AllReadyH.nil)
                · skip
                  rw [if_pos (by rfl)]
                  unfold c6a10
                  go_simp
                  (with_reducible refine (HBAD.out _ _ _).mono ?_)
                  rintro e W10 ⟨rfl, hB10⟩
                  have hG10 := gbelow (row := none) hB10
                  have hS10 := Kept.moved hHeld hG10 (fun _ h => by cases h)
                  have row_10 := own_moved row_9 hG10  (by simp)
                  have lt_row_10 := Nat.lt_of_lt_of_le lt_row_9 hG10.size
                  clear row_9 lt_row_9
                  go_wp2_with fail
                  refine hK.out _ _ hS10 (fun hHeld => ?_)
                  clear hK K
                  try simp only [c6a10, Act.put, List.setIfInBounds_toArray, List.set_cons_zero, List.set_cons_succ]
                  refine wpAnyH_take (i := 11) (oi := c6a11) (v := ?_) rfl (by kernel_rfl) (by kernel_rfl) (by kernel_rfl) (fun _ _ _ h => h) (Or.inl ⟨by rfl, ?_⟩) hHeld ?_
                  rotate_left
                  · (intro w hSw; (try dsimp only at hSw); unfold c6a11; go_simp <;> with_reducible rfl)
                  try simp only [c6a11, Act.put, List.setIfInBounds_toArray, List.set_cons_zero, List.set_cons_succ]
                  refine wpAnyH_take (i := 12) (oi := c6a12) (v := ?_) rfl (by kernel_rfl) (by kernel_rfl) (by kernel_rfl) (fun _ _ _ h => h) (Or.inl ⟨by rfl, ?_⟩) hHeld ?_
                  rotate_left
                  · (intro w hSw; (try dsimp only at hSw); unfold c6a12; go_simp <;> with_reducible rfl)
                  try simp only [c6a12, Act.put, List.setIfInBounds_toArray, List.set_cons_zero, List.set_cons_succ]
                  refine wpAnyH_take (i := 13) (oi := c6a13) (v := ?_) rfl (by kernel_rfl) (by kernel_rfl) (by kernel_rfl) (fun _ _ _ h => h) (Or.inl ⟨by rfl, ?_⟩) hHeld ?_
                  rotate_left
                  · (intro w hSw; (try dsimp only at hSw); unfold c6a13; go_simp <;> with_reducible rfl)
                  try simp only [c6a13, Act.put, List.setIfInBounds_toArray, List.set_cons_zero, List.set_cons_succ]
                  refine wpAnyH_ready (rs := [14]) (by kernel_rfl) (by simp) ?_
                  refine AllReadyH.cons (o := c6a14) rfl (fun K hK => ?_) AllReadyH.nil
                  rw [if_pos (by rfl)]
                  refine wp_alloc26 (by rfl) ?_
                  intro g14 W14 hle14 hlt14 hG14 fin_14
                  have le_g14 := Nat.le_trans hHeld.below.size hle14
                  have hS14 := Kept.moved hHeld hG14 (fun _ h => by cases h)
                  have ne_g9_g14 : g9 ≠ g14 := by have := lt_row_10; have := hle14; omega
                  have row_14 := own_moved row_10 hG14  (by simp)
                  have lt_row_14 := Nat.lt_of_lt_of_le lt_row_10 hG14.size
                  clear row_10 lt_row_10
                  refine hK.out _ _ hS14 (fun hHeld => ?_)
                  clear hK K
                  try simp only [c6a14, Act.put, List.setIfInBounds_toArray, List.set_cons_zero, List.set_cons_succ]
                  refine wpAnyH_ready (rs := [15]) (by kernel_rfl) (by simp) ?_
                  refine AllReadyH.cons (o := c6a15) rfl (fun K hK => ?_) AllReadyH.nil
                  rw [if_pos (by rfl)]
                  refine wp_st26 (.tmp 11) (.tmp 53) (by rfl) g14 cz _ (by rfl) (by rfl) fin_14 (by rw [HLZ.out]; rfl) HZZ.out HOZ.out ?_
                  intro W15 hG15 fin_15
                  have hS15 := Kept.moved hHeld hG15 (fun k hk => by cases hk; exact le_g14)
                  have row_15 := own_moved row_14 hG15  (by simpa using ne_g9_g14)
                  have lt_row_15 := Nat.lt_of_lt_of_le lt_row_14 hG15.size
                  have lt_fin_15 := Nat.lt_of_lt_of_le hlt14 hG15.size
                  clear row_14
                  clear fin_14
                  refine hK.out _ _ hS15 (fun hHeld => ?_)
                  clear hK K
                  try simp only [c6a15, Act.put]
                  refine wpAnyH_ready (rs := [16]) (by kernel_rfl) (by simp) ?_
                  refine AllReadyH.cons (o := c6a16) rfl (fun K hK => ?_) AllReadyH.nil
                  rw [if_pos (by rfl)]
                  unfold c6a16
                  go_simp
                  refine hK.out _ _ hHeld (fun hHeld => ?_)
                  clear hK K
                  try simp only [c6a16, Act.put, List.setIfInBounds_toArray, List.set_cons_zero, List.set_cons_succ]
                  refine wpAnyH_done (by kernel_rfl) ?_ _
                  clear hHeld
                  go_wp2_with fail
                  go_meet
                  exact ⟨rfl, by assumption⟩
                · skip
                  rw [if_pos (by rfl)]
                  refine wp_alloc26 (by rfl) ?_
                  intro g14 W14 hle14 hlt14 hG14 fin_14
                  have le_g14 := Nat.le_trans hHeld.below.size hle14
                  have hS14 := Kept.moved hHeld hG14 (fun _ h => by cases h)
                  have ne_g9_g14 : g9 ≠ g14 := by have := lt_row_9; have := hle14; omega
                  have row_14 := own_moved row_9 hG14  (by simp)
                  have lt_row_14 := Nat.lt_of_lt_of_le lt_row_9 hG14.size
                  clear row_9 lt_row_9
                  refine hK.out _ _ hS14 (fun hHeld => ?_)
                  clear hK K
                  try simp only [c6a14, Act.put, List.setIfInBounds_toArray, List.set_cons_zero, List.set_cons_succ]
                  refine wpAnyH_ready (rs := [10]) (by kernel_rfl) (by simp) ?_
                  refine AllReadyH.cons (o := c6a10) rfl (fun K hK => ?_) AllReadyH.nil
                  rw [if_pos (by rfl)]
                  unfold c6a10
                  go_simp
                  (with_reducible refine (HBAD.out _ _ _).mono ?_)
                  rintro e W10 ⟨rfl, hB10⟩
                  have hG10 := gbelow (row := none) hB10
                  have hS10 := Kept.moved hHeld hG10 (fun _ h => by cases h)
                  have row_10 := own_moved row_14 hG10  (by simp)
                  have lt_row_10 := Nat.lt_of_lt_of_le lt_row_14 hG10.size
                  clear row_14 lt_row_14
                  have fin_10 := Arr.moved fin_14 hG10 hlt14 (by simp)
                  have lt_fin_10 := Nat.lt_of_lt_of_le hlt14 hG10.size
                  clear fin_14 hlt14
                  go_wp2_with fail
                  refine hK.out _ _ hS10 (fun hHeld => ?_)
                  clear hK K
                  try simp only [c6a10, Act.put, List.setIfInBounds_toArray, List.set_cons_zero, List.set_cons_succ]
                  refine wpAnyH_take (i := 11) (oi := c6a11) (v := ?_) rfl (by kernel_rfl) (by kernel_rfl) (by kernel_rfl) (fun _ _ _ h => h) (Or.inl ⟨by rfl, ?_⟩) hHeld ?_
                  rotate_left
                  · (intro w hSw; (try dsimp only at hSw); unfold c6a11; go_simp <;> with_reducible rfl)
                  try simp only [c6a11, Act.put, List.setIfInBounds_toArray, List.set_cons_zero, List.set_cons_succ]
                  refine wpAnyH_take (i := 12) (oi := c6a12) (v := ?_) rfl (by kernel_rfl) (by kernel_rfl) (by kernel_rfl) (fun _ _ _ h => h) (Or.inl ⟨by rfl, ?_⟩) hHeld ?_
                  rotate_left
                  · (intro w hSw; (try dsimp only at hSw); unfold c6a12; go_simp <;> with_reducible rfl)
                  try simp only [c6a12, Act.put, List.setIfInBounds_toArray, List.set_cons_zero, List.set_cons_succ]
                  refine wpAnyH_take (i := 13) (oi := c6a13) (v := ?_) rfl (by kernel_rfl) (by kernel_rfl) (by kernel_rfl) (fun _ _ _ h => h) (Or.inl ⟨by rfl, ?_⟩) hHeld ?_
                  rotate_left
                  · (intro w hSw; (try dsimp only at hSw); unfold c6a13; go_simp <;> with_reducible rfl)
                  try simp only [c6a13, Act.put, List.setIfInBounds_toArray, List.set_cons_zero, List.set_cons_succ]
                  refine wpAnyH_ready (rs := [15]) (by kernel_rfl) (by simp) ?_
                  refine AllReadyH.cons (o := c6a15) rfl (fun K hK => ?_) AllReadyH.nil
                  rw [if_pos (by rfl)]
                  refine wp_st26 (.tmp 11) (.tmp 53) (by rfl) g14 cz _ (by rfl) (by rfl) fin_10 (by rw [HLZ.out]; rfl) HZZ.out HOZ.out ?_
                  intro W15 hG15 fin_15
                  have hS15 := Kept.moved hHeld hG15 (fun k hk => by cases hk; exact le_g14)
                  have row_15 := own_moved row_10 hG15  (by simpa using ne_g9_g14)
                  have lt_row_15 := Nat.lt_of_lt_of_le lt_row_10 hG15.size
                  have lt_fin_15 := Nat.lt_of_lt_of_le lt_fin_10 hG15.size
                  clear row_10
                  clear fin_10
                  refine hK.out _ _ hS15 (fun hHeld => ?_)
                  clear hK K
                  try simp only [c6a15, Act.put]
                  refine wpAnyH_ready (rs := [16]) (by kernel_rfl) (by simp) ?_
                  refine AllReadyH.cons (o := c6a16) rfl (fun K hK => ?_) AllReadyH.nil
                  rw [if_pos (by rfl)]
                  unfold c6a16
                  go_simp
                  refine hK.out _ _ hHeld (fun hHeld => ?_)
                  clear hK K
                  try simp only [c6a16, Act.put, List.setIfInBounds_toArray, List.set_cons_zero, List.set_cons_succ]
                  refine wpAnyH_done (by kernel_rfl) ?_ _
                  clear hHeld
                  go_wp2_with fail
                  go_meet
                  exact ⟨rfl, by assumption⟩
              · skip
                rw [if_pos (by rfl)]
                refine wp_alloc26 (by rfl) ?_
                intro g14 W14 hle14 hlt14 hG14 fin_14
                have le_g14 := Nat.le_trans hHeld.below.size hle14
                have hS14 := Kept.moved hHeld hG14 (fun _ h => by cases h)
                have ne_g8_g14 : g8 ≠ g14 := by have := lt_one_6; have := hle14; omega
                have one_14 := rng_moved one_6 hG14 lt_one_6 (by simp)
                have lt_one_14 := Nat.lt_of_lt_of_le lt_one_6 hG14.size
                clear one_6 lt_one_6
                have ne_g6_g14 : g6 ≠ g14 := by have := lt_row_6; have := hle14; omega
                have row_14 := own_moved row_6 hG14  (by simp)
                have lt_row_14 := Nat.lt_of_lt_of_le lt_row_6 hG14.size
                clear row_6 lt_row_6
                refine hK.out _ _ hS14 (fun hHeld => ?_)
                clear hK K
                try simp only [c6a14, Act.put, List.setIfInBounds_toArray, List.set_cons_zero, List.set_cons_succ]
                refine wpAnyH_ready (rs := [9]) (by kernel_rfl) (by simp) ?_
                refine AllReadyH.cons (o := c6a9) rfl (fun K hK => ?_) AllReadyH.nil
                rw [if_pos (by rfl)]
                refine wp_piece 30 26 i0 _ 32 32 Tryd.underlying30 HI.out HZ0.out HZ1.out HZ2.out (by simp [Value.cells]) (by omega) (.tmp 48) (.tmp 50) (by rfl) (base := W7.heap.size) (by rfl) row_14 (by rfl) (piece_row one_14) (by rw [HLD.out]) HOD.out (by unfold maxLen; omega) (by omega) hHeld.below.size (m + 1) (by omega) (flat p ++ cd) (rfl) ?_
                intro hb9 g9 c9 W9 row_9 hG9 hat9
                have hS9 := Kept.moved hHeld hG9 (fun k hk => by cases hk; exact hb9)
                have one_9 := rng_moved one_14 hG9 lt_one_14 (by simpa using ne_g8_g6)
                have lt_one_9 := Nat.lt_of_lt_of_le lt_one_14 hG9.size
                have fin_9 := Arr.moved fin_14 hG9 hlt14 (by simpa using (Ne.symm ne_g6_g14))
                have lt_fin_9 := Nat.lt_of_lt_of_le hlt14 hG9.size
                have ne_g8_g9 : g8 ≠ g9 := by have := ne_g8_g6; have := lt_one_14; rcases hat9 with h | h <;> omega
                have ne_g14_g9 : g14 ≠ g9 := by have := (Ne.symm ne_g6_g14); have := hlt14; rcases hat9 with h | h <;> omega
                clear one_14
                clear row_14
                clear fin_14
                have lt_row_9 := (row_9.lt g9 rfl).2
                refine hK.out _ _ hS9 (fun hHeld => ?_)
                clear hK K
                try simp only [c6a9, Act.put, List.setIfInBounds_toArray, List.set_cons_zero, List.set_cons_succ]
                refine wpAnyH_ready (rs := [10]) (by kernel_rfl) (by simp) ?_
                refine AllReadyH.cons (o := c6a10) rfl (fun K hK => ?_) AllReadyH.nil
                rw [if_pos (by rfl)]
                unfold c6a10
                go_simp
                (with_reducible refine (HBAD.out _ _ _).mono ?_)
                rintro e W10 ⟨rfl, hB10⟩
                have hG10 := gbelow (row := none) hB10
                have hS10 := Kept.moved hHeld hG10 (fun _ h => by cases h)
                have row_10 := own_moved row_9 hG10  (by simp)
                have lt_row_10 := Nat.lt_of_lt_of_le lt_row_9 hG10.size
                clear row_9 lt_row_9
                have fin_10 := Arr.moved fin_9 hG10 lt_fin_9 (by simp)
                have lt_fin_10 := Nat.lt_of_lt_of_le lt_fin_9 hG10.size
                clear fin_9 lt_fin_9
                go_wp2_with fail
                refine hK.out _ _ hS10 (fun hHeld => ?_)
                clear hK K
                try simp only [c6a10, Act.put, List.setIfInBounds_toArray, List.set_cons_zero, List.set_cons_succ]
                refine wpAnyH_take (i := 11) (oi := c6a11) (v := ?_) rfl (by kernel_rfl) (by kernel_rfl) (by kernel_rfl) (fun _ _ _ h => h) (Or.inl ⟨by rfl, ?_⟩) hHeld ?_
                rotate_left
                · (intro w hSw; (try dsimp only at hSw); unfold c6a11; go_simp <;> with_reducible rfl)
                try simp only [c6a11, Act.put, List.setIfInBounds_toArray, List.set_cons_zero, List.set_cons_succ]
                refine wpAnyH_take (i := 12) (oi := c6a12) (v := ?_) rfl (by kernel_rfl) (by kernel_rfl) (by kernel_rfl) (fun _ _ _ h => h) (Or.inl ⟨by rfl, ?_⟩) hHeld ?_
                rotate_left
                · (intro w hSw; (try dsimp only at hSw); unfold c6a12; go_simp <;> with_reducible rfl)
                try simp only [c6a12, Act.put, List.setIfInBounds_toArray, List.set_cons_zero, List.set_cons_succ]
                refine wpAnyH_take (i := 13) (oi := c6a13) (v := ?_) rfl (by kernel_rfl) (by kernel_rfl) (by kernel_rfl) (fun _ _ _ h => h) (Or.inl ⟨by rfl, ?_⟩) hHeld ?_
                rotate_left
                · (intro w hSw; (try dsimp only at hSw); unfold c6a13; go_simp <;> with_reducible rfl)
                try simp only [c6a13, Act.put, List.setIfInBounds_toArray, List.set_cons_zero, List.set_cons_succ]
                refine wpAnyH_ready (rs := [15]) (by kernel_rfl) (by simp) ?_
                refine AllReadyH.cons (o := c6a15) rfl (fun K hK => ?_) AllReadyH.nil
                rw [if_pos (by rfl)]
                refine wp_st26 (.tmp 11) (.tmp 53) (by rfl) g14 cz _ (by rfl) (by rfl) fin_10 (by rw [HLZ.out]; rfl) HZZ.out HOZ.out ?_
                intro W15 hG15 fin_15
                have hS15 := Kept.moved hHeld hG15 (fun k hk => by cases hk; exact le_g14)
                have row_15 := own_moved row_10 hG15  (by simpa using (Ne.symm ne_g14_g9))
                have lt_row_15 := Nat.lt_of_lt_of_le lt_row_10 hG15.size
                have lt_fin_15 := Nat.lt_of_lt_of_le lt_fin_10 hG15.size
                clear row_10
                clear fin_10
                refine hK.out _ _ hS15 (fun hHeld => ?_)
                clear hK K
                try simp only [c6a15, Act.put]
                refine wpAnyH_ready (rs := [16]) (by kernel_rfl) (by simp) ?_
                refine AllReadyH.cons (o := c6a16) rfl (fun K hK => ?_) AllReadyH.nil
                rw [if_pos (by rfl)]
                unfold c6a16
                go_simp
                refine hK.out _ _ hHeld (fun hHeld => ?_)
                clear hK K
                try simp only [c6a16, Act.put, List.setIfInBounds_toArray, List.set_cons_zero, List.set_cons_succ]
                refine wpAnyH_done (by kernel_rfl) ?_ _
                clear hHeld
                go_wp2_with fail
                go_meet
                exact ⟨rfl, by assumption⟩
            · skip
              rw [if_pos (by rfl)]
              refine wp_alloc26 (by rfl) ?_
              intro g14 W14 hle14 hlt14 hG14 fin_14
              have le_g14 := Nat.le_trans hHeld.below.size hle14
              have hS14 := Kept.moved hHeld hG14 (fun _ h => by cases h)
              have ne_g8_g14 : g8 ≠ g14 := by have := lt_one_4; have := hle14; omega
              have one_14 := rng_moved one_4 hG14 lt_one_4 (by simp)
              have lt_one_14 := Nat.lt_of_lt_of_le lt_one_4 hG14.size
              clear one_4 lt_one_4
              have ne_g4_g14 : g4 ≠ g14 := by have := hlt4; have := hle14; omega
              have row_14 := own_moved row_4 hG14  (by simp)
              have lt_row_14 := Nat.lt_of_lt_of_le hlt4 hG14.size
              clear row_4 hlt4
              refine hK.out _ _ hS14 (fun hHeld => ?_)
              clear hK K
              try simp only [c6a14, Act.put, List.setIfInBounds_toArray, List.set_cons_zero, List.set_cons_succ]
              refine wpAnyH_ready (rs := [6]) (by kernel_rfl) (by simp) ?_
              refine AllReadyH.cons (o := c6a6) rfl (fun K hK => ?_) AllReadyH.nil
              rw [if_pos (by rfl)]
              refine wp_piece 30 26 i0 _ 32 32 Tryd.underlying30 HI.out HZ0.out HZ1.out HZ2.out (by simp [Value.cells]) (by omega) (.tmp 46) (.tmp 47) (by rfl) (base := W7.heap.size) (by rfl) row_14 (by rfl) (HPV.out _ hHeld) HFL.out HFO.out (by unfold maxLen; omega) (by omega) hHeld.below.size (m) (by omega) (flat p) (by simp) ?_
              intro hb6 g6 c6 W6 row_6 hG6 hat6
              have hS6 := Kept.moved hHeld hG6 (fun k hk => by cases hk; exact hb6)
              have one_6 := rng_moved one_14 hG6 lt_one_14 (by simpa using ne_g8_g4)
              have lt_one_6 := Nat.lt_of_lt_of_le lt_one_14 hG6.size
              have fin_6 := Arr.moved fin_14 hG6 hlt14 (by simpa using (Ne.symm ne_g4_g14))
              have lt_fin_6 := Nat.lt_of_lt_of_le hlt14 hG6.size
              have ne_g8_g6 : g8 ≠ g6 := by have := ne_g8_g4; have := lt_one_14; rcases hat6 with h | h <;> omega
              have ne_g14_g6 : g14 ≠ g6 := by have := (Ne.symm ne_g4_g14); have := hlt14; rcases hat6 with h | h <;> omega
              clear one_14
              clear row_14
              clear fin_14
              have lt_row_6 := (row_6.lt g6 rfl).2
              refine hK.out _ _ hS6 (fun hHeld => ?_)
              clear hK K
              try simp only [c6a6, Act.put, List.setIfInBounds_toArray, List.set_cons_zero, List.set_cons_succ]
              refine wpAnyH_ready (rs := [9]) (by kernel_rfl) (by simp) ?_
              refine AllReadyH.cons (o := c6a9) rfl (fun K hK => ?_) AllReadyH.nil
              rw [if_pos (by rfl)]
              refine wp_piece 30 26 i0 _ 32 32 Tryd.underlying30 HI.out HZ0.out HZ1.out HZ2.out (by simp [Value.cells]) (by omega) (.tmp 48) (.tmp 50) (by rfl) (base := W7.heap.size) (by rfl) row_6 (by rfl) (piece_row one_6) (by rw [HLD.out]) HOD.out (by unfold maxLen; omega) (by omega) hHeld.below.size (m + 1) (by omega) (flat p ++ cd) (rfl) ?_
              intro hb9 g9 c9 W9 row_9 hG9 hat9
              have hS9 := Kept.moved hHeld hG9 (fun k hk => by cases hk; exact hb9)
              have one_9 := rng_moved one_6 hG9 lt_one_6 (by simpa using ne_g8_g6)
              have lt_one_9 := Nat.lt_of_lt_of_le lt_one_6 hG9.size
              have fin_9 := Arr.moved fin_6 hG9 lt_fin_6 (by simpa using ne_g14_g6)
              have lt_fin_9 := Nat.lt_of_lt_of_le lt_fin_6 hG9.size
              have ne_g8_g9 : g8 ≠ g9 := by have := ne_g8_g6; have := lt_one_6; rcases hat9 with h | h <;> omega
              have ne_g14_g9 : g14 ≠ g9 := by have := ne_g14_g6; have := lt_fin_6; rcases hat9 with h | h <;> omega
              clear one_6
              clear row_6
              clear fin_6
              have lt_row_9 := (row_9.lt g9 rfl).2
              refine hK.out _ _ hS9 (fun hHeld => ?_)
              clear hK K
              try simp only [c6a9, Act.put, List.setIfInBounds_toArray, List.set_cons_zero, List.set_cons_succ]
              refine wpAnyH_ready (rs := [10]) (by kernel_rfl) (by simp) ?_
              refine AllReadyH.cons (o := c6a10) rfl (fun K hK => ?_) AllReadyH.nil
              rw [if_pos (by rfl)]
              unfold c6a10
              go_simp
              (with_reducible refine (HBAD.out _ _ _).mono ?_)
              rintro e W10 ⟨rfl, hB10⟩
              have hG10 := gbelow (row := none) hB10
              have hS10 := Kept.moved hHeld hG10 (fun _ h => by cases h)
              have row_10 := own_moved row_9 hG10  (by simp)
              have lt_row_10 := Nat.lt_of_lt_of_le lt_row_9 hG10.size
              clear row_9 lt_row_9
              have fin_10 := Arr.moved fin_9 hG10 lt_fin_9 (by simp)
              have lt_fin_10 := Nat.lt_of_lt_of_le lt_fin_9 hG10.size
              clear fin_9 lt_fin_9
              go_wp2_with fail
              refine hK.out _ _ hS10 (fun hHeld => ?_)
              clear hK K
              try simp only [c6a10, Act.put, List.setIfInBounds_toArray, List.set_cons_zero, List.set_cons_succ]
              refine wpAnyH_take (i := 11) (oi := c6a11) (v := ?_) rfl (by kernel_rfl) (by kernel_rfl) (by kernel_rfl) (fun _ _ _ h => h) (Or.inl ⟨by rfl, ?_⟩) hHeld ?_
              rotate_left
              · (intro w hSw; (try dsimp only at hSw); unfold c6a11; go_simp <;> with_reducible rfl)
              try simp only [c6a11, Act.put, List.setIfInBounds_toArray, List.set_cons_zero, List.set_cons_succ]
              refine wpAnyH_take (i := 12) (oi := c6a12) (v := ?_) rfl (by kernel_rfl) (by kernel_rfl) (by kernel_rfl) (fun _ _ _ h => h) (Or.inl ⟨by rfl, ?_⟩) hHeld ?_
              rotate_left
              · (intro w hSw; (try dsimp only at hSw); unfold c6a12; go_simp <;> with_reducible rfl)
              try simp only [c6a12, Act.put, List.setIfInBounds_toArray, List.set_cons_zero, List.set_cons_succ]
              refine wpAnyH_take (i := 13) (oi := c6a13) (v := ?_) rfl (by kernel_rfl) (by kernel_rfl) (by kernel_rfl) (fun _ _ _ h => h) (Or.inl ⟨by rfl, ?_⟩) hHeld ?_
              rotate_left
              · (intro w hSw; (try dsimp only at hSw); unfold c6a13; go_simp <;> with_reducible rfl)
              try simp only [c6a13, Act.put, List.setIfInBounds_toArray, List.set_cons_zero, List.set_cons_succ]
              refine wpAnyH_ready (rs := [15]) (by kernel_rfl) (by simp) ?_
              refine AllReadyH.cons (o := c6a15) rfl (fun K hK => ?_) AllReadyH.nil
              rw [if_pos (by rfl)]
              refine wp_st26 (.tmp 11) (.tmp 53) (by rfl) g14 cz _ (by rfl) (by rfl) fin_10 (by rw [HLZ.out]; rfl) HZZ.out HOZ.out ?_
              intro W15 hG15 fin_15
              have hS15 := Kept.moved hHeld hG15 (fun k hk => by cases hk; exact le_g14)
              have row_15 := own_moved row_10 hG15  (by simpa using (Ne.symm ne_g14_g9))
              have lt_row_15 := Nat.lt_of_lt_of_le lt_row_10 hG15.size
              have lt_fin_15 := Nat.lt_of_lt_of_le lt_fin_10 hG15.size
              clear row_10
              clear fin_10
              refine hK.out _ _ hS15 (fun hHeld => ?_)
              clear hK K
              try simp only [c6a15, Act.put]
              refine wpAnyH_ready (rs := [16]) (by kernel_rfl) (by simp) ?_
              refine AllReadyH.cons (o := c6a16) rfl (fun K hK => ?_) AllReadyH.nil
              rw [if_pos (by rfl)]
              unfold c6a16
              go_simp
              refine hK.out _ _ hHeld (fun hHeld => ?_)
              clear hK K
              try simp only [c6a16, Act.put, List.setIfInBounds_toArray, List.set_cons_zero, List.set_cons_succ]
              refine wpAnyH_done (by kernel_rfl) ?_ _
              clear hHeld
              go_wp2_with fail
              go_meet
              exact ⟨rfl, by assumption⟩
          · skip
            rw [if_pos (by rfl)]
            refine wp_alloc26 (by rfl) ?_
            intro g14 W14 hle14 hlt14 hG14 fin_14
            have le_g14 := Nat.le_trans hHeld.below.size hle14
            have hS14 := Kept.moved hHeld hG14 (fun _ h => by cases h)
            have ne_g8_g14 : g8 ≠ g14 := by have := hlt8; have := hle14; omega
            have one_14 := rng_moved one_8 hG14 hlt8 (by simp)
            have lt_one_14 := Nat.lt_of_lt_of_le hlt8 hG14.size
            clear one_8 hlt8
            refine hK.out _ _ hS14 (fun hHeld => ?_)
            clear hK K
            try simp only [c6a14, Act.put, List.setIfInBounds_toArray, List.set_cons_zero, List.set_cons_succ]
            refine wpAnyH_ready (rs := [4]) (by kernel_rfl) (by simp) ?_
            refine AllReadyH.cons (o := c6a4) rfl (fun K hK => ?_) AllReadyH.nil
            rw [if_pos (by rfl)]
            refine wp_new30 (by rfl) ?_
            intro g4 W4 hle4 hlt4 hG4 hn4
            have row_4 := hn4 W7.heap.size hHeld.below.size
            clear hn4
            have hS4 := Kept.moved hHeld hG4 (fun _ h => by cases h)
            have ne_g8_g4 : g8 ≠ g4 := by have := lt_one_14; have := hle4; omega
            have one_4 := rng_moved one_14 hG4 lt_one_14 (by simp)
            have lt_one_4 := Nat.lt_of_lt_of_le lt_one_14 hG4.size
            clear one_14 lt_one_14
            have ne_g14_g4 : g14 ≠ g4 := by have := hlt14; have := hle4; omega
            have fin_4 := Arr.moved fin_14 hG4 hlt14 (by simp)
            have lt_fin_4 := Nat.lt_of_lt_of_le hlt14 hG4.size
            clear fin_14 hlt14
            refine hK.out _ _ hS4 (fun hHeld => ?_)
            clear hK K
            try simp only [c6a4, Act.put, List.setIfInBounds_toArray, List.set_cons_zero, List.set_cons_succ]
            refine wpAnyH_ready (rs := [6]) (by kernel_rfl) (by simp) ?_
            refine AllReadyH.cons (o := c6a6) rfl (fun K hK => ?_) AllReadyH.nil
            rw [if_pos (by rfl)]
            refine wp_piece 30 26 i0 _ 32 32 Tryd.underlying30 HI.out HZ0.out HZ1.out HZ2.out (by simp [Value.cells]) (by omega) (.tmp 46) (.tmp 47) (by rfl) (base := W7.heap.size) (by rfl) row_4 (by rfl) (HPV.out _ hHeld) HFL.out HFO.out (by unfold maxLen; omega) (by omega) hHeld.below.size (m) (by omega) (flat p) (by simp) ?_
            intro hb6 g6 c6 W6 row_6 hG6 hat6
            have hS6 := Kept.moved hHeld hG6 (fun k hk => by cases hk; exact hb6)
            have one_6 := rng_moved one_4 hG6 lt_one_4 (by simpa using ne_g8_g4)
            have lt_one_6 := Nat.lt_of_lt_of_le lt_one_4 hG6.size
            have fin_6 := Arr.moved fin_4 hG6 lt_fin_4 (by simpa using ne_g14_g4)
            have lt_fin_6 := Nat.lt_of_lt_of_le lt_fin_4 hG6.size
            have ne_g8_g6 : g8 ≠ g6 := by have := ne_g8_g4; have := lt_one_4; rcases hat6 with h | h <;> omega
            have ne_g14_g6 : g14 ≠ g6 := by have := ne_g14_g4; have := lt_fin_4; rcases hat6 with h | h <;> omega
            clear one_4
            clear fin_4
            clear row_4
            have lt_row_6 := (row_6.lt g6 rfl).2
            refine hK.out _ _ hS6 (fun hHeld => ?_)
            clear hK K
            try simp only [c6a6, Act.put, List.setIfInBounds_toArray, List.set_cons_zero, List.set_cons_succ]
            refine wpAnyH_ready (rs := [9]) (by kernel_rfl) (by simp) ?_
            refine AllReadyH.cons (o := c6a9) rfl (fun K hK => ?_) AllReadyH.nil
            rw [if_pos (by rfl)]
            refine wp_piece 30 26 i0 _ 32 32 Tryd.underlying30 HI.out HZ0.out HZ1.out HZ2.out (by simp [Value.cells]) (by omega) (.tmp 48) (.tmp 50) (by rfl) (base := W7.heap.size) (by rfl) row_6 (by rfl) (piece_row one_6) (by rw [HLD.out]) HOD.out (by unfold maxLen; omega) (by omega) hHeld.below.size (m + 1) (by omega) (flat p ++ cd) (rfl) ?_
            intro hb9 g9 c9 W9 row_9 hG9 hat9
            have hS9 := Kept.moved hHeld hG9 (fun k hk => by cases hk; exact hb9)
            have one_9 := rng_moved one_6 hG9 lt_one_6 (by simpa using ne_g8_g6)
            have lt_one_9 := Nat.lt_of_lt_of_le lt_one_6 hG9.size
            have fin_9 := Arr.moved fin_6 hG9 lt_fin_6 (by simpa using ne_g14_g6)
            have lt_fin_9 := Nat.lt_of_lt_of_le lt_fin_6 hG9.size
            have ne_g8_g9 : g8 ≠ g9 := by have := ne_g8_g6; have := lt_one_6; rcases hat9 with h | h <;> omega
            have ne_g14_g9 : g14 ≠ g9 := by have := ne_g14_g6; have := lt_fin_6; rcases hat9 with h | h <;> omega
            clear one_6
            clear fin_6
            clear row_6
            have lt_row_9 := (row_9.lt g9 rfl).2
            refine hK.out _ _ hS9 (fun hHeld => ?_)
            clear hK K
            try simp only [c6a9, Act.put, List.setIfInBounds_toArray, List.set_cons_zero, List.set_cons_succ]
            refine wpAnyH_ready (rs := [10]) (by kernel_rfl) (by simp) ?_
            refine AllReadyH.cons (o := c6a10) rfl (fun K hK => ?_) AllReadyH.nil
            rw [if_pos (by rfl)]
            unfold c6a10
            go_simp
            (with_reducible refine (HBAD.out _ _ _).mono ?_)
            rintro e W10 ⟨rfl, hB10⟩
            have hG10 := gbelow (row := none) hB10
            have hS10 := Kept.moved hHeld hG10 (fun _ h => by cases h)
            have fin_10 := Arr.moved fin_9 hG10 lt_fin_9 (by simp)
            have lt_fin_10 := Nat.lt_of_lt_of_le lt_fin_9 hG10.size
            clear fin_9 lt_fin_9
            have row_10 := own_moved row_9 hG10  (by simp)
            have lt_row_10 := Nat.lt_of_lt_of_le lt_row_9 hG10.size
            clear row_9 lt_row_9
            go_wp2_with fail
            refine hK.out _ _ hS10 (fun hHeld => ?_)
            clear hK K
            try simp only [c6a10, Act.put, List.setIfInBounds_toArray, List.set_cons_zero, List.set_cons_succ]
            refine wpAnyH_take (i := 11) (oi := c6a11) (v := ?_) rfl (by kernel_rfl) (by kernel_rfl) (by kernel_rfl) (fun _ _ _ h => h) (Or.inl ⟨by rfl, ?_⟩) hHeld ?_
            rotate_left
            · (intro w hSw; (try dsimp only at hSw); unfold c6a11; go_simp <;> with_reducible rfl)
            try simp only [c6a11, Act.put, List.setIfInBounds_toArray, List.set_cons_zero, List.set_cons_succ]
            refine wpAnyH_take (i := 12) (oi := c6a12) (v := ?_) rfl (by kernel_rfl) (by kernel_rfl) (by kernel_rfl) (fun _ _ _ h => h) (Or.inl ⟨by rfl, ?_⟩) hHeld ?_
            rotate_left
            · (intro w hSw; (try dsimp only at hSw); unfold c6a12; go_simp <;> with_reducible rfl)
            try simp only [c6a12, Act.put, List.setIfInBounds_toArray, List.set_cons_zero, List.set_cons_succ]
            refine wpAnyH_take (i := 13) (oi := c6a13) (v := ?_) rfl (by kernel_rfl) (by kernel_rfl) (by kernel_rfl) (fun _ _ _ h => h) (Or.inl ⟨by rfl, ?_⟩) hHeld ?_
            rotate_left
            · (intro w hSw; (try dsimp only at hSw); unfold c6a13; go_simp <;> with_reducible rfl)
            try simp only [c6a13, Act.put, List.setIfInBounds_toArray, List.set_cons_zero, List.set_cons_succ]
            refine wpAnyH_ready (rs := [15]) (by kernel_rfl) (by simp) ?_
            refine AllReadyH.cons (o := c6a15) rfl (fun K hK => ?_) AllReadyH.nil
            rw [if_pos (by rfl)]
            refine wp_st26 (.tmp 11) (.tmp 53) (by rfl) g14 cz _ (by rfl) (by rfl) fin_10 (by rw [HLZ.out]; rfl) HZZ.out HOZ.out ?_
            intro W15 hG15 fin_15
            have hS15 := Kept.moved hHeld hG15 (fun k hk => by cases hk; exact le_g14)
            have row_15 := own_moved row_10 hG15  (by simpa using (Ne.symm ne_g14_g9))
            have lt_row_15 := Nat.lt_of_lt_of_le lt_row_10 hG15.size
            have lt_fin_15 := Nat.lt_of_lt_of_le lt_fin_10 hG15.size
            clear fin_10
            clear row_10
            refine hK.out _ _ hS15 (fun hHeld => ?_)
            clear hK K
            try simp only [c6a15, Act.put]
            refine wpAnyH_ready (rs := [16]) (by kernel_rfl) (by simp) ?_
            refine AllReadyH.cons (o := c6a16) rfl (fun K hK => ?_) AllReadyH.nil
            rw [if_pos (by rfl)]
            unfold c6a16
            go_simp
            refine hK.out _ _ hHeld (fun hHeld => ?_)
            clear hK K
            try simp only [c6a16, Act.put, List.setIfInBounds_toArray, List.set_cons_zero, List.set_cons_succ]
            refine wpAnyH_done (by kernel_rfl) ?_ _
            clear hHeld
            go_wp2_with fail
            go_meet
            exact ⟨rfl, by assumption⟩
        · skip
          rw [if_pos (by rfl)]
          refine wp_alloc26 (by rfl) ?_
          intro g14 W14 hle14 hlt14 hG14 fin_14
          have le_g14 := Nat.le_trans hHeld.below.size hle14
          have hS14 := Kept.moved hHeld hG14 (fun _ h => by cases h)
          refine hK.out _ _ hS14 (fun hHeld => ?_)
          clear hK K
          try simp only [c6a14, Act.put, List.setIfInBounds_toArray, List.set_cons_zero, List.set_cons_succ]
          refine wpAnyH_ready (rs := [4, 8]) (by kernel_rfl) (by simp) ?_
          refine AllReadyH.cons (o := c6a4) rfl (fun K hK => ?_) (AllReadyH.cons (o := c6a8) rfl (fun K hK => ?_) AllReadyH.nil)
          · skip
            rw [if_pos (by rfl)]
            refine wp_new30 (by rfl) ?_
            intro g4 W4 hle4 hlt4 hG4 hn4
            have row_4 := hn4 W7.heap.size hHeld.below.size
            clear hn4
            have hS4 := Kept.moved hHeld hG4 (fun _ h => by cases h)
            have ne_g14_g4 : g14 ≠ g4 := by have := hlt14; have := hle4; omega
            have fin_4 := Arr.moved fin_14 hG4 hlt14 (by simp)
            have lt_fin_4 := Nat.lt_of_lt_of_le hlt14 hG4.size
            clear fin_14 hlt14
            refine hK.out _ _ hS4 (fun hHeld => ?_)
            clear hK K
            try simp only [c6a4, Act.put, List.setIfInBounds_toArray, List.set_cons_zero, List.set_cons_succ]
            refine wpAnyH_ready (rs := [6, 8]) (by kernel_rfl) (by simp) ?_
            refine AllReadyH.cons (o := c6a6) rfl (fun K hK => ?_) (AllReadyH.cons (o := c6a8) rfl (fun K hK => ?_) AllReadyH.nil)
            · skip
              rw [if_pos (by rfl)]
              refine wp_piece 30 26 i0 _ 32 32 Tryd.underlying30 HI.out HZ0.out HZ1.out HZ2.out (by simp [Value.cells]) (by omega) (.tmp 46) (.tmp 47) (by rfl) (base := W7.heap.size) (by rfl) row_4 (by rfl) (HPV.out _ hHeld) HFL.out HFO.out (by unfold maxLen; omega) (by omega) hHeld.below.size (m) (by omega) (flat p) (by simp) ?_
              intro hb6 g6 c6 W6 row_6 hG6 hat6
              have hS6 := Kept.moved hHeld hG6 (fun k hk => by cases hk; exact hb6)
              have fin_6 := Arr.moved fin_4 hG6 lt_fin_4 (by simpa using ne_g14_g4)
              have lt_fin_6 := Nat.lt_of_lt_of_le lt_fin_4 hG6.size
              have ne_g14_g6 : g14 ≠ g6 := by have := ne_g14_g4; have := lt_fin_4; rcases hat6 with h | h <;> omega
              clear fin_4
              clear row_4
              have lt_row_6 := (row_6.lt g6 rfl).2
              refine hK.out _ _ hS6 (fun hHeld => ?_)
              clear hK K
              try simp only [c6a6, Act.put, List.setIfInBounds_toArray, List.set_cons_zero, List.set_cons_succ]
              refine wpAnyH_ready (rs := [8]) (by kernel_rfl) (by simp) ?_
              refine AllReadyH.cons (o := c6a8) rfl (fun K hK => ?_) AllReadyH.nil
              rw [if_pos (by rfl)]
              refine wp_one30 (.tmp 49) (by rfl) cd (by rfl) HLD.out ?_
              intro g8 W8 hle8 hlt8 hG8 one_8
              have hS8 := Kept.moved hHeld hG8 (fun _ h => by cases h)
              have ne_g14_g8 : g14 ≠ g8 := by have := lt_fin_6; have := hle8; omega
              have fin_8 := Arr.moved fin_6 hG8 lt_fin_6 (by simp)
              have lt_fin_8 := Nat.lt_of_lt_of_le lt_fin_6 hG8.size
              clear fin_6 lt_fin_6
              have ne_g6_g8 : g6 ≠ g8 := by have := lt_row_6; have := hle8; omega
              have row_8 := own_moved row_6 hG8  (by simp)
              have lt_row_8 := Nat.lt_of_lt_of_le lt_row_6 hG8.size
              clear row_6 lt_row_6
              refine hK.out _ _ hS8 (fun hHeld => ?_)
              clear hK K
              try simp only [c6a8, Act.put, List.setIfInBounds_toArray, List.set_cons_zero, List.set_cons_succ]
              refine wpAnyH_ready (rs := [9]) (by kernel_rfl) (by simp) ?_
              refine AllReadyH.cons (o := c6a9) rfl (fun K hK => ?_) AllReadyH.nil
              rw [if_pos (by rfl)]
              refine wp_piece 30 26 i0 _ 32 32 Tryd.underlying30 HI.out HZ0.out HZ1.out HZ2.out (by simp [Value.cells]) (by omega) (.tmp 48) (.tmp 50) (by rfl) (base := W7.heap.size) (by rfl) row_8 (by rfl) (piece_row one_8) (by rw [HLD.out]) HOD.out (by unfold maxLen; omega) (by omega) hHeld.below.size (m + 1) (by omega) (flat p ++ cd) (rfl) ?_
              intro hb9 g9 c9 W9 row_9 hG9 hat9
              have hS9 := Kept.moved hHeld hG9 (fun k hk => by cases hk; exact hb9)
              have fin_9 := Arr.moved fin_8 hG9 lt_fin_8 (by simpa using ne_g14_g6)
              have lt_fin_9 := Nat.lt_of_lt_of_le lt_fin_8 hG9.size
              have one_9 := rng_moved one_8 hG9 hlt8 (by simpa using (Ne.symm ne_g6_g8))
              have lt_one_9 := Nat.lt_of_lt_of_le hlt8 hG9.size
              have ne_g14_g9 : g14 ≠ g9 := by have := ne_g14_g6; have := lt_fin_8; rcases hat9 with h | h <;> omega
              have ne_g8_g9 : g8 ≠ g9 := by have := (Ne.symm ne_g6_g8); have := hlt8; rcases hat9 with h | h <;> omega
              clear fin_8
              clear row_8
              clear one_8
              have lt_row_9 := (row_9.lt g9 rfl).2
              refine hK.out _ _ hS9 (fun hHeld => ?_)
              clear hK K
              try simp only [c6a9, Act.put, List.setIfInBounds_toArray, List.set_cons_zero, List.set_cons_succ]
              refine wpAnyH_ready (rs := [10]) (by kernel_rfl) (by simp) ?_
              refine AllReadyH.cons (o := c6a10) rfl (fun K hK => ?_) AllReadyH.nil
              rw [if_pos (by rfl)]
              unfold c6a10
              go_simp
              (with_reducible refine (HBAD.out _ _ _).mono ?_)
              rintro e W10 ⟨rfl, hB10⟩
              have hG10 := gbelow (row := none) hB10
              have hS10 := Kept.moved hHeld hG10 (fun _ h => by cases h)
              have fin_10 := Arr.moved fin_9 hG10 lt_fin_9 (by simp)
              have lt_fin_10 := Nat.lt_of_lt_of_le lt_fin_9 hG10.size
              clear fin_9 lt_fin_9
              have row_10 := own_moved row_9 hG10  (by simp)
              have lt_row_10 := Nat.lt_of_lt_of_le lt_row_9 hG10.size
              clear row_9 lt_row_9
              go_wp2_with fail
              refine hK.out _ _ hS10 (fun hHeld => ?_)
              clear hK K
              try simp only [c6a10, Act.put, List.setIfInBounds_toArray, List.set_cons_zero, List.set_cons_succ]
              refine wpAnyH_take (i := 11) (oi := c6a11) (v := ?_) rfl (by kernel_rfl) (by kernel_rfl) (by kernel_rfl) (fun _ _ _ h => h) (Or.inl ⟨by rfl, ?_⟩) hHeld ?_
              rotate_left
              · (intro w hSw; (try dsimp only at hSw); unfold c6a11; go_simp <;> with_reducible rfl)
              try simp only [c6a11, Act.put, List.setIfInBounds_toArray, List.set_cons_zero, List.set_cons_succ]
              refine wpAnyH_take (i := 12) (oi := c6a12) (v := ?_) rfl (by kernel_rfl) (by kernel_rfl) (by kernel_rfl) (fun _ _ _ h => h) (Or.inl ⟨by rfl, ?_⟩) hHeld ?_
              rotate_left
              · (intro w hSw; (try dsimp only at hSw); unfold c6a12; go_simp <;> with_reducible rfl)
              try simp only [c6a12, Act.put, List.setIfInBounds_toArray, List.set_cons_zero, List.set_cons_succ]
              refine wpAnyH_take (i := 13) (oi := c6a13) (v := ?_) rfl (by kernel_rfl) (by kernel_rfl) (by kernel_rfl) (fun _ _ _ h => h) (Or.inl ⟨by rfl, ?_⟩) hHeld ?_
              rotate_left
              · (intro w hSw; (try dsimp only at hSw); unfold c6a13; go_simp <;> with_reducible rfl)
              try simp only [c6a13, Act.put, List.setIfInBounds_toArray, List.set_cons_zero, List.set_cons_succ]
              refine wpAnyH_ready (rs := [15]) (by kernel_rfl) (by simp) ?_
              refine AllReadyH.cons (o := c6a15) rfl (fun K hK => ?_) AllReadyH.nil
              rw [if_pos (by rfl)]
              refine wp_st26 (.tmp 11) (.tmp 53) (by rfl) g14 cz _ (by rfl) (by rfl) fin_10 (by rw [HLZ.out]; rfl) HZZ.out HOZ.out ?_
              intro W15 hG15 fin_15
              have hS15 := Kept.moved hHeld hG15 (fun k hk => by cases hk; exact le_g14)
              have row_15 := own_moved row_10 hG15  (by simpa using (Ne.symm ne_g14_g9))
              have lt_row_15 := Nat.lt_of_lt_of_le lt_row_10 hG15.size
              have lt_fin_15 := Nat.lt_of_lt_of_le lt_fin_10 hG15.size
              clear fin_10
              clear row_10
              refine hK.out _ _ hS15 (fun hHeld => ?_)
              clear hK K
              try simp only [c6a15, Act.put]
              refine wpAnyH_ready (rs := [16]) (by kernel_rfl) (by simp) ?_
              refine AllReadyH.cons (o := c6a16) rfl (fun K hK => ?_) AllReadyH.nil
              rw [if_pos (by rfl)]
              unfold c6a16
              go_simp
              refine hK.out _ _ hHeld (fun hHeld => ?_)
              clear hK K
              try simp only [c6a16, Act.put, List.setIfInBounds_toArray, List.set_cons_zero, List.set_cons_succ]
              refine wpAnyH_done (by kernel_rfl) ?_ _
              clear hHeld
              go_wp2_with fail
              go_meet
              exact ⟨rfl, by assumption⟩
            · skip
              rw [if_pos (by rfl)]
              refine wp_one30 (.tmp 49) (by rfl) cd (by rfl) HLD.out ?_
              intro g8 W8 hle8 hlt8 hG8 one_8
              have hS8 := Kept.moved hHeld hG8 (fun _ h => by cases h)
              have ne_g14_g8 : g14 ≠ g8 := by have := lt_fin_4; have := hle8; omega
              have fin_8 := Arr.moved fin_4 hG8 lt_fin_4 (by simp)
              have lt_fin_8 := Nat.lt_of_lt_of_le lt_fin_4 hG8.size
              clear fin_4 lt_fin_4
              have ne_g4_g8 : g4 ≠ g8 := by have := hlt4; have := hle8; omega
              have row_8 := own_moved row_4 hG8  (by simp)
              have lt_row_8 := Nat.lt_of_lt_of_le hlt4 hG8.size
              clear row_4 hlt4
              refine hK.out _ _ hS8 (fun hHeld => ?_)
              clear hK K
              try simp only [c6a8, Act.put, List.setIfInBounds_toArray, List.set_cons_zero, List.set_cons_succ]
              refine wpAnyH_ready (rs := [6]) (by kernel_rfl) (by simp) ?_
              refine AllReadyH.cons (o := c6a6) rfl (fun K hK => ?_) AllReadyH.nil
              rw [if_pos (by rfl)]
              refine wp_piece 30 26 i0 _ 32 32 Tryd.underlying30 HI.out HZ0.out HZ1.out HZ2.out (by simp [Value.cells]) (by omega) (.tmp 46) (.tmp 47) (by rfl) (base := W7.heap.size) (by rfl) row_8 (by rfl) (HPV.out _ hHeld) HFL.out HFO.out (by unfold maxLen; omega) (by omega) hHeld.below.size (m) (by omega) (flat p) (by simp) ?_
              intro hb6 g6 c6 W6 row_6 hG6 hat6
              have hS6 := Kept.moved hHeld hG6 (fun k hk => by cases hk; exact hb6)
              have fin_6 := Arr.moved fin_8 hG6 lt_fin_8 (by simpa using ne_g14_g4)
              have lt_fin_6 := Nat.lt_of_lt_of_le lt_fin_8 hG6.size
              have one_6 := rng_moved one_8 hG6 hlt8 (by simpa using (Ne.symm ne_g4_g8))
              have lt_one_6 := Nat.lt_of_lt_of_le hlt8 hG6.size
              have ne_g14_g6 : g14 ≠ g6 := by have := ne_g14_g4; have := lt_fin_8; rcases hat6 with h | h <;> omega
              have ne_g8_g6 : g8 ≠ g6 := by have := (Ne.symm ne_g4_g8); have := hlt8; rcases hat6 with h | h <;> omega
              clear fin_8
              clear row_8
              clear one_8
              have lt_row_6 := (row_6.lt g6 rfl).2
              refine hK.out _ _ hS6 (fun hHeld => ?_)
              clear hK K
              try simp only [c6a6, Act.put, List.setIfInBounds_toArray, List.set_cons_zero, List.set_cons_succ]
              refine wpAnyH_ready (rs := [9]) (by kernel_rfl) (by simp) ?_
              refine AllReadyH.cons (o := c6a9) rfl (fun K hK => ?_) AllReadyH.nil
              rw [if_pos (by rfl)]
              refine wp_piece 30 26 i0 _ 32 32 Tryd.underlying30 HI.out HZ0.out HZ1.out HZ2.out (by simp [Value.cells]) (by omega) (.tmp 48) (.tmp 50) (by rfl) (base := W7.heap.size) (by rfl) row_6 (by rfl) (piece_row one_6) (by rw [HLD.out]) HOD.out (by unfold maxLen; omega) (by omega) hHeld.below.size (m + 1) (by omega) (flat p ++ cd) (rfl) ?_
              intro hb9 g9 c9 W9 row_9 hG9 hat9
              have hS9 := Kept.moved hHeld hG9 (fun k hk => by cases hk; exact hb9)
              have fin_9 := Arr.moved fin_6 hG9 lt_fin_6 (by simpa using ne_g14_g6)
              have lt_fin_9 := Nat.lt_of_lt_of_le lt_fin_6 hG9.size
              have one_9 := rng_moved one_6 hG9 lt_one_6 (by simpa using ne_g8_g6)
              have lt_one_9 := Nat.lt_of_lt_of_le lt_one_6 hG9.size
              have ne_g14_g9 : g14 ≠ g9 := by have := ne_g14_g6; have := lt_fin_6; rcases hat9 with h | h <;> omega
              have ne_g8_g9 : g8 ≠ g9 := by have := ne_g8_g6; have := lt_one_6; rcases hat9 with h | h <;> omega
              clear fin_6
              clear row_6
              clear one_6
              have lt_row_9 := (row_9.lt g9 rfl).2
              refine hK.out _ _ hS9 (fun hHeld => ?_)
              clear hK K
              try simp only [c6a9, Act.put, List.setIfInBounds_toArray, List.set_cons_zero, List.set_cons_succ]
              refine wpAnyH_ready (rs := [10]) (by kernel_rfl) (by simp) ?_
              refine AllReadyH.cons (o := c6a10) rfl (fun K hK => ?_) AllReadyH.nil
              rw [if_pos (by rfl)]
              unfold c6a10
              go_simp
              (with_reducible refine (HBAD.out _ _ _).mono ?_)
              rintro e W10 ⟨rfl, hB10⟩
              have hG10 := gbelow (row := none) hB10
              have hS10 := Kept.moved hHeld hG10 (fun _ h => by cases h)
              have fin_10 := Arr.moved fin_9 hG10 lt_fin_9 (by simp)
              have lt_fin_10 := Nat.lt_of_lt_of_le lt_fin_9 hG10.size
              clear fin_9 lt_fin_9
              have row_10 := own_moved row_9 hG10  (by simp)
              have lt_row_10 := Nat.lt_of_lt_of_le lt_row_9 hG10.size
              clear row_9 lt_row_9
              go_wp2_with fail
              refine hK.out _ _ hS10 (fun hHeld => ?_)
              clear hK K
              try simp only [c6a10, Act.put, List.setIfInBounds_toArray, List.set_cons_zero, List.set_cons_succ]
              refine wpAnyH_take (i := 11) (oi := c6a11) (v := ?_) rfl (by kernel_rfl) (by kernel_rfl) (by kernel_rfl) (fun _ _ _ h => h) (Or.inl ⟨by rfl, ?_⟩) hHeld ?_
              rotate_left
              · (intro w hSw; (try dsimp only at hSw); unfold c6a11; go_simp <;> with_reducible rfl)
              try simp only [c6a11, Act.put, List.setIfInBounds_toArray, List.set_cons_zero, List.set_cons_succ]
              refine wpAnyH_take (i := 12) (oi := c6a12) (v := ?_) rfl (by kernel_rfl) (by kernel_rfl) (by kernel_rfl) (fun _ _ _ h => h) (Or.inl ⟨by rfl, ?_⟩) hHeld ?_
              rotate_left
              · (intro w hSw; (try dsimp only at hSw); unfold c6a12; go_simp <;> with_reducible rfl)
              try simp only [c6a12, Act.put, List.setIfInBounds_toArray, List.set_cons_zero, List.set_cons_succ]
              refine wpAnyH_take (i := 13) (oi := c6a13) (v := ?_) rfl (by kernel_rfl) (by kernel_rfl) (by kernel_rfl) (fun _ _ _ h => h) (Or.inl ⟨by rfl, ?_⟩) hHeld ?_
              rotate_left
              · (intro w hSw; (try dsimp only at hSw); unfold c6a13; go_simp <;> with_reducible rfl)
              try simp only [c6a13, Act.put, List.setIfInBounds_toArray, List.set_cons_zero, List.set_cons_succ]
              refine wpAnyH_ready (rs := [15]) (by kernel_rfl) (by simp) ?_
              refine AllReadyH.cons (o := c6a15) rfl (fun K hK => ?_) AllReadyH.nil
              rw [if_pos (by rfl)]
              refine wp_st26 (.tmp 11) (.tmp 53) (by rfl) g14 cz _ (by rfl) (by rfl) fin_10 (by rw [HLZ.out]; rfl) HZZ.out HOZ.out ?_
              intro W15 hG15 fin_15
              have hS15 := Kept.moved hHeld hG15 (fun k hk => by cases hk; exact le_g14)
              have row_15 := own_moved row_10 hG15  (by simpa using (Ne.symm ne_g14_g9))
              have lt_row_15 := Nat.lt_of_lt_of_le lt_row_10 hG15.size
              have lt_fin_15 := Nat.lt_of_lt_of_le lt_fin_10 hG15.size
              clear fin_10
              clear row_10
              refine hK.out _ _ hS15 (fun hHeld => ?_)
              clear hK K
              try simp only [c6a15, Act.put]
              refine wpAnyH_ready (rs := [16]) (by kernel_rfl) (by simp) ?_
              refine AllReadyH.cons (o := c6a16) rfl (fun K hK => ?_) AllReadyH.nil
              rw [if_pos (by rfl)]
              unfold c6a16
              go_simp
              refine hK.out _ _ hHeld (fun hHeld => ?_)
              clear hK K
              try simp only [c6a16, Act.put, List.setIfInBounds_toArray, List.set_cons_zero, List.set_cons_succ]
              refine wpAnyH_done (by kernel_rfl) ?_ _
              clear hHeld
              go_wp2_with fail
              go_meet
              exact ⟨rfl, by assumption⟩
          · skip
            rw [if_pos (by rfl)]
            refine wp_one30 (.tmp 49) (by rfl) cd (by rfl) HLD.out ?_
            intro g8 W8 hle8 hlt8 hG8 one_8
            have hS8 := Kept.moved hHeld hG8 (fun _ h => by cases h)
            have ne_g14_g8 : g14 ≠ g8 := by have := hlt14; have := hle8; omega
            have fin_8 := Arr.moved fin_14 hG8 hlt14 (by simp)
            have lt_fin_8 := Nat.lt_of_lt_of_le hlt14 hG8.size
            clear fin_14 hlt14
            refine hK.out _ _ hS8 (fun hHeld => ?_)
            clear hK K
            try simp only [c6a8, Act.put, List.setIfInBounds_toArray, List.set_cons_zero, List.set_cons_succ]
            refine wpAnyH_ready (rs := [4]) (by kernel_rfl) (by simp) ?_
            refine AllReadyH.cons (o := c6a4) rfl (fun K hK => ?_) AllReadyH.nil
            rw [if_pos (by rfl)]
            refine wp_new30 (by rfl) ?_
            intro g4 W4 hle4 hlt4 hG4 hn4
            have row_4 := hn4 W7.heap.size hHeld.below.size
            clear hn4
            have hS4 := Kept.moved hHeld hG4 (fun _ h => by cases h)
            have ne_g14_g4 : g14 ≠ g4 := by have := lt_fin_8; have := hle4; omega
            have fin_4 := Arr.moved fin_8 hG4 lt_fin_8 (by simp)
            have lt_fin_4 := Nat.lt_of_lt_of_le lt_fin_8 hG4.size
            clear fin_8 lt_fin_8
            have ne_g8_g4 : g8 ≠ g4 := by have := hlt8; have := hle4; omega
            have one_4 := rng_moved one_8 hG4 hlt8 (by simp)
            have lt_one_4 := Nat.lt_of_lt_of_le hlt8 hG4.size
            clear one_8 hlt8
            refine hK.out _ _ hS4 (fun hHeld => ?_)
            clear hK K
            try simp only [c6a4, Act.put, List.setIfInBounds_toArray, List.set_cons_zero, List.set_cons_succ]
            refine wpAnyH_ready (rs := [6]) (by kernel_rfl) (by simp) ?_
            refine AllReadyH.cons (o := c6a6) rfl (fun K hK => ?_) AllReadyH.nil
            rw [if_pos (by rfl)]
            refine wp_piece 30 26 i0 _ 32 32 Tryd.underlying30 HI.out HZ0.out HZ1.out HZ2.out (by simp [Value.cells]) (by omega) (.tmp 46) (.tmp 47) (by rfl) (base := W7.heap.size) (by rfl) row_4 (by rfl) (HPV.out _ hHeld) HFL.out HFO.out (by unfold maxLen; omega) (by omega) hHeld.below.size (m) (by omega) (flat p) (by simp) ?_
            intro hb6 g6 c6 W6 row_6 hG6 hat6
            have hS6 := Kept.moved hHeld hG6 (fun k hk => by cases hk; exact hb6)
            have fin_6 := Arr.moved fin_4 hG6 lt_fin_4 (by simpa using ne_g14_g4)
            have lt_fin_6 := Nat.lt_of_lt_of_le lt_fin_4 hG6.size
            have one_6 := rng_moved one_4 hG6 lt_one_4 (by simpa using ne_g8_g4)
            have lt_one_6 := Nat.lt_of_lt_of_le lt_one_4 hG6.size
            have ne_g14_g6 : g14 ≠ g6 := by have := ne_g14_g4; have := lt_fin_4; rcases hat6 with h | h <;> omega
            have ne_g8_g6 : g8 ≠ g6 := by have := ne_g8_g4; have := lt_one_4; rcases hat6 with h | h <;> omega
            clear fin_4
            clear one_4
            clear row_4
            have lt_row_6 := (row_6.lt g6 rfl).2
            refine hK.out _ _ hS6 (fun hHeld => ?_)
            clear hK K
            try simp only [c6a6, Act.put, List.setIfInBounds_toArray, List.set_cons_zero, List.set_cons_succ]
            refine wpAnyH_ready (rs := [9]) (by kernel_rfl) (by simp) ?_
            refine AllReadyH.cons (o := c6a9) rfl (fun K hK => ?_) AllReadyH.nil
            rw [if_pos (by rfl)]
            refine wp_piece 30 26 i0 _ 32 32 Tryd.underlying30 HI.out HZ0.out HZ1.out HZ2.out (by simp [Value.cells]) (by omega) (.tmp 48) (.tmp 50) (by rfl) (base := W7.heap.size) (by rfl) row_6 (by rfl) (piece_row one_6) (by rw [HLD.out]) HOD.out (by unfold maxLen; omega) (by omega) hHeld.below.size (m + 1) (by omega) (flat p ++ cd) (rfl) ?_
            intro hb9 g9 c9 W9 row_9 hG9 hat9
            have hS9 := Kept.moved hHeld hG9 (fun k hk => by cases hk; exact hb9)
            have fin_9 := Arr.moved fin_6 hG9 lt_fin_6 (by simpa using ne_g14_g6)
            have lt_fin_9 := Nat.lt_of_lt_of_le lt_fin_6 hG9.size
            have one_9 := rng_moved one_6 hG9 lt_one_6 (by simpa using ne_g8_g6)
            have lt_one_9 := Nat.lt_of_lt_of_le lt_one_6 hG9.size
            have ne_g14_g9 : g14 ≠ g9 := by have := ne_g14_g6; have := lt_fin_6; rcases hat9 with h | h <;> omega
            have ne_g8_g9 : g8 ≠ g9 := by have := ne_g8_g6; have := lt_one_6; rcases hat9 with h | h <;> omega
            clear fin_6
            clear one_6
            clear row_6
            have lt_row_9 := (row_9.lt g9 rfl).2
            refine hK.out _ _ hS9 (fun hHeld => ?_)
            clear hK K
            try simp only [c6a9, Act.put, List.setIfInBounds_toArray, List.set_cons_zero, List.set_cons_succ]
            refine wpAnyH_ready (rs := [10]) (by kernel_rfl) (by simp) ?_
            refine AllReadyH.cons (o := c6a10) rfl (fun K hK => ?_) AllReadyH.nil
            rw [if_pos (by rfl)]
            unfold c6a10
            go_simp
            (with_reducible refine (HBAD.out _ _ _).mono ?_)
            rintro e W10 ⟨rfl, hB10⟩
            have hG10 := gbelow (row := none) hB10
            have hS10 := Kept.moved hHeld hG10 (fun _ h => by cases h)
            have fin_10 := Arr.moved fin_9 hG10 lt_fin_9 (by simp)
            have lt_fin_10 := Nat.lt_of_lt_of_le lt_fin_9 hG10.size
            clear fin_9 lt_fin_9
            have row_10 := own_moved row_9 hG10  (by simp)
            have lt_row_10 := Nat.lt_of_lt_of_le lt_row_9 hG10.size
            clear row_9 lt_row_9
            go_wp2_with fail
            refine hK.out _ _ hS10 (fun hHeld => ?_)
            clear hK K
            try simp only [c6a10, Act.put, List.setIfInBounds_toArray, List.set_cons_zero, List.set_cons_succ]
            refine wpAnyH_take (i := 11) (oi := c6a11) (v := ?_) rfl (by kernel_rfl) (by kernel_rfl) (by kernel_rfl) (fun _ _ _ h => h) (Or.inl ⟨by rfl, ?_⟩) hHeld ?_
            rotate_left
            · (intro w hSw; (try dsimp only at hSw); unfold c6a11; go_simp <;> with_reducible rfl)
            try simp only [c6a11, Act.put, List.setIfInBounds_toArray, List.set_cons_zero, List.set_cons_succ]
            refine wpAnyH_take (i := 12) (oi := c6a12) (v := ?_) rfl (by kernel_rfl) (by kernel_rfl) (by kernel_rfl) (fun _ _ _ h => h) (Or.inl ⟨by rfl, ?_⟩) hHeld ?_
            rotate_left
            · (intro w hSw; (try dsimp only at hSw); unfold c6a12; go_simp <;> with_reducible rfl)
            try simp only [c6a12, Act.put, List.setIfInBounds_toArray, List.set_cons_zero, List.set_cons_succ]
            refine wpAnyH_take (i := 13) (oi := c6a13) (v := ?_) rfl (by kernel_rfl) (by kernel_rfl) (by kernel_rfl) (fun _ _ _ h => h) (Or.inl ⟨by rfl, ?_⟩) hHeld ?_
            rotate_left
            · (intro w hSw; (try dsimp only at hSw); unfold c6a13; go_simp <;> with_reducible rfl)
            try simp only [c6a13, Act.put, List.setIfInBounds_toArray, List.set_cons_zero, List.set_cons_succ]
            refine wpAnyH_ready (rs := [15]) (by kernel_rfl) (by simp) ?_
            refine AllReadyH.cons (o := c6a15) rfl (fun K hK => ?_) AllReadyH.nil
            rw [if_pos (by rfl)]
            refine wp_st26 (.tmp 11) (.tmp 53) (by rfl) g14 cz _ (by rfl) (by rfl) fin_10 (by rw [HLZ.out]; rfl) HZZ.out HOZ.out ?_
            intro W15 hG15 fin_15
            have hS15 := Kept.moved hHeld hG15 (fun k hk => by cases hk; exact le_g14)
            have row_15 := own_moved row_10 hG15  (by simpa using (Ne.symm ne_g14_g9))
            have lt_row_15 := Nat.lt_of_lt_of_le lt_row_10 hG15.size
            have lt_fin_15 := Nat.lt_of_lt_of_le lt_fin_10 hG15.size
            clear fin_10
            clear row_10
            refine hK.out _ _ hS15 (fun hHeld => ?_)
            clear hK K
            try simp only [c6a15, Act.put]
            refine wpAnyH_ready (rs := [16]) (by kernel_rfl) (by simp) ?_
            refine AllReadyH.cons (o := c6a16) rfl (fun K hK => ?_) AllReadyH.nil
            rw [if_pos (by rfl)]
            unfold c6a16
            go_simp
            refine hK.out _ _ hHeld (fun hHeld => ?_)
            clear hK K
            try simp only [c6a16, Act.put, List.setIfInBounds_toArray, List.set_cons_zero, List.set_cons_succ]
            refine wpAnyH_done (by kernel_rfl) ?_ _
            clear hHeld
            go_wp2_with fail
            go_meet
            exact ⟨rfl, by assumption⟩
      case rest =>
        obtain ⟨rfl, hK⟩ := hcut
        have hbr : Below wr.heap.size wr wc := HBR7.out.trans (hK.below.mono HBR7.out.size)
        have hAt := HAT.out.below hbr hbt
        have hA9 := HA7.out.below hK.below hlt7
        have HBC := Lib.hid (HB.out.trans (hbr.mono HB.out.size))
        have HAC := Lib.hid hAt
        have HA9 := Lib.hid hA9
        have d5 : decide ((5 : Int) < (m : Int)) = false := by simp; omega
        have hq1 := HEQ.out
        have hg26 := HGT.out
        clear hbr hAt hA9 hK
        go_wp2_with (first
          | (refine wpList_load_wanted (by rfl) 26 (.tmp 9) (by rfl) w6.heap.size 0 (by rfl) ct _ HA9.out.at_ Tryd.underlying26 rfl HZT.out ?_)
          | (refine wpList_load_wanted (by rfl) 26 (.tmp 4) (by rfl) w2.heap.size 0 (by rfl) ct _ HAC.out.at_ Tryd.underlying26 rfl HZT.out ?_))
        go_roundw
        case rel => exact ⟨t + 1, by simp, by omega, HBC.out⟩
        case measure => simp [intOf]; omega
    · obtain rfl : t = q := by omega
      have HBW := Lib.hid hbw
      clear hB hb1 hbw
      go_wp2
      go_ret
      exact ⟨rfl, HBW.out⟩
end Go.Proofs.YtnddejhbncgchaaDoor
