/- merkle's reference: Collide where it finds two texts. -/
import Derived.Test.YtfmngeemhfpeiaaDoorRco
namespace Go.Proofs.YtfmngeemhfpeiaaDoor
open Go.RowKit

def c26a0 : Oper := { dst := some 80, op := Go.Op.move (Go.Operand.tmp 19), type := 25, pos := "ref.go:135", after := #[], guard := none }
def c26a1 : Oper := { dst := some 81, op := Go.Op.move (Go.Operand.tmp 23), type := 3, pos := "ref.go:135", after := #[], guard := none }
def c26a2 : Oper := { dst := some 82, op := Go.Op.indexAddr 25 (Go.Operand.tmp 80) (Go.Operand.tmp 81), type := 0, pos := "ref.go:135", after := #[{ on := 0, ground := Go.Ground.data }, { on := 1, ground := Go.Ground.data }], guard := none }
def c26a3 : Oper := { dst := some 83, op := Go.Op.load 30 (Go.Operand.tmp 82), type := 30, pos := "ref.go:135", after := #[{ on := 2, ground := Go.Ground.data }], guard := none }
def c26a4 : Oper := { dst := some 84, op := Go.Op.move (Go.Operand.tmp 21), type := 25, pos := "ref.go:135", after := #[], guard := none }
def c26a5 : Oper := { dst := some 85, op := Go.Op.move (Go.Operand.tmp 23), type := 3, pos := "ref.go:135", after := #[], guard := none }
def c26a6 : Oper := { dst := some 86, op := Go.Op.indexAddr 25 (Go.Operand.tmp 84) (Go.Operand.tmp 85), type := 0, pos := "ref.go:135", after := #[{ on := 4, ground := Go.Ground.data }, { on := 5, ground := Go.Ground.data }], guard := none }
def c26a7 : Oper := { dst := some 87, op := Go.Op.load 30 (Go.Operand.tmp 86), type := 30, pos := "ref.go:135", after := #[{ on := 6, ground := Go.Ground.data }], guard := none }
def c26a8 : Oper := { dst := some 88, op := Go.Op.binOp Go.BinOp.eql 30 (Go.Operand.tmp 83) (Go.Operand.tmp 87) 30, type := 4, pos := "ref.go:135", after := #[{ on := 3, ground := Go.Ground.data }, { on := 7, ground := Go.Ground.data }], guard := none }
def c26b0 : Oper := { dst := some 89, op := Go.Op.move (Go.Operand.tmp 20), type := 22, pos := "ref.go:136", after := #[], guard := none }
def c26b1 : Oper := { dst := some 90, op := Go.Op.move (Go.Operand.tmp 23), type := 3, pos := "ref.go:136", after := #[], guard := none }
def c26b2 : Oper := { dst := some 91, op := Go.Op.indexAddr 22 (Go.Operand.tmp 89) (Go.Operand.tmp 90), type := 0, pos := "ref.go:136", after := #[{ on := 0, ground := Go.Ground.data }, { on := 1, ground := Go.Ground.data }], guard := none }
def c26b3 : Oper := { dst := some 92, op := Go.Op.load 34 (Go.Operand.tmp 91), type := 34, pos := "ref.go:136", after := #[{ on := 2, ground := Go.Ground.data }], guard := none }
def c26b4 : Oper := { dst := some 93, op := Go.Op.move (Go.Operand.tmp 22), type := 22, pos := "ref.go:136", after := #[{ on := 8, ground := Go.Ground.gcOnly Go.Departure.lateStores }], guard := none }
def c26b5 : Oper := { dst := some 94, op := Go.Op.move (Go.Operand.tmp 23), type := 3, pos := "ref.go:136", after := #[{ on := 8, ground := Go.Ground.gcOnly Go.Departure.lateStores }], guard := none }
def c26b6 : Oper := { dst := some 95, op := Go.Op.indexAddr 22 (Go.Operand.tmp 93) (Go.Operand.tmp 94), type := 0, pos := "ref.go:136", after := #[{ on := 4, ground := Go.Ground.data }, { on := 5, ground := Go.Ground.data }, { on := 8, ground := Go.Ground.gcOnly Go.Departure.lateStores }], guard := none }
def c26b7 : Oper := { dst := some 96, op := Go.Op.load 34 (Go.Operand.tmp 95), type := 34, pos := "ref.go:136", after := #[{ on := 6, ground := Go.Ground.data }, { on := 8, ground := Go.Ground.gcOnly Go.Departure.lateStores }], guard := none }
def c26b8 : Oper := { dst := some 12, op := Go.Op.assign (Go.Operand.tmp 92), type := 34, pos := "ref.go:136", after := #[{ on := 3, ground := Go.Ground.data }, { on := 0, ground := Go.Ground.phase }, { on := 1, ground := Go.Ground.phase }, { on := 2, ground := Go.Ground.phase }, { on := 3, ground := Go.Ground.phase }, { on := 4, ground := Go.Ground.textOnly Go.Departure.lateStores }, { on := 5, ground := Go.Ground.textOnly Go.Departure.lateStores }, { on := 6, ground := Go.Ground.textOnly Go.Departure.lateStores }, { on := 7, ground := Go.Ground.textOnly Go.Departure.lateStores }], guard := none }
def c26b9 : Oper := { dst := some 13, op := Go.Op.assign (Go.Operand.tmp 96), type := 34, pos := "ref.go:136", after := #[{ on := 7, ground := Go.Ground.data }, { on := 8, ground := Go.Ground.chain }, { on := 0, ground := Go.Ground.phase }, { on := 1, ground := Go.Ground.phase }, { on := 2, ground := Go.Ground.phase }, { on := 3, ground := Go.Ground.phase }, { on := 4, ground := Go.Ground.phase }, { on := 5, ground := Go.Ground.phase }, { on := 6, ground := Go.Ground.phase }, { on := 7, ground := Go.Ground.phase }, { on := 8, ground := Go.Ground.phase }], guard := none }
def c26b10 : Oper := { dst := some 14, op := Go.Op.assign (Go.Operand.const (Go.Value.bool true)), type := 4, pos := "ref.go:136", after := #[{ on := 9, ground := Go.Ground.chain }, { on := 0, ground := Go.Ground.phase }, { on := 1, ground := Go.Ground.phase }, { on := 2, ground := Go.Ground.phase }, { on := 3, ground := Go.Ground.phase }, { on := 4, ground := Go.Ground.phase }, { on := 5, ground := Go.Ground.phase }, { on := 6, ground := Go.Ground.phase }, { on := 7, ground := Go.Ground.phase }, { on := 8, ground := Go.Ground.phase }, { on := 9, ground := Go.Ground.phase }], guard := none }

set_option maxRecDepth 100000 in
set_option maxHeartbeats 8000000 in
theorem rcollide_ok (w : World) (i m : Nat) (v u pv qv : Value) (a b : List UInt8) (p q : List (List UInt8)) (hv : BytesAt w w.heap.size v a) (hu : BytesAt w w.heap.size u b) (ha : a.length ≤ 800000) (hb : b.length ≤ 800000) (hp : Digs w w.heap.size pv p) (hq : Digs w w.heap.size qv q)
    (him : i < m) (hm : m ≤ 65536) (hpl : p.length = mlen i m) (hql : q.length = mlen i m) (hR : mclimb i m a p = mclimb i m b q) (hab : a ≠ b) :
    Calls Tryd.prog 26 #[.int .i64 m, .int .i64 i, v, u, pv, qv] w fun e w' => ∃ vx vy K, e = .returned (.tuple #[vx, vy, .bool true]) ∧ K ≤ mrows m ∧ mst i m (sha (leafT a)) p K = mst i m (sha (leafT b)) q K ∧ (∀ j, j < K → mst i m (sha (leafT a)) p j ≠ mst i m (sha (leafT b)) q j) ∧
      BytesAt w' w'.heap.size vx (mtx i m (leafT a) (sha (leafT a)) p K) ∧ BytesAt w' w'.heap.size vy (mtx i m (leafT b) (sha (leafT b)) q K) ∧ Below w.heap.size w w' := by
  have HC1 := Lib.hid (fun (W : World) (hW : Below w.heap.size w W) => rclimb_ok W i m v pv a p ((hv.below hW).mono hW.size) ha (digs_at hp hW) him hm hpl)
  have HC2 := Lib.hid (fun (W : World) (hW : Below w.heap.size w W) => rclimb_ok W i m u qv b q ((hu.below hW).mono hW.size) hb (digs_at hq hW) him hm hql)
  have HW1 := Lib.hid (fun (W : World) (hW : Below w.heap.size w W) => rway_ok W i m v pv a p ((hv.below hW).mono hW.size) ha (digs_at hp hW) him hm hpl)
  have HW2 := Lib.hid (fun (W : World) (hW : Below w.heap.size w W) => rway_ok W i m u qv b q ((hu.below hW).mono hW.size) hb (digs_at hq hW) him hm hql)
  have HVA := Lib.hid hv
  have HVB := Lib.hid hu
  obtain ⟨va, vc, rfl⟩ : ∃ x c, v = .slice x a.length c := by obtain ⟨x, c, rfl, _⟩ := hv; exact ⟨x, c, rfl⟩
  obtain ⟨ua, uc, rfl⟩ : ∃ x c, u = .slice x b.length c := by obtain ⟨x, c, rfl, _⟩ := hu; exact ⟨x, c, rfl⟩
  obtain ⟨pa, pn, pc, rfl⟩ : ∃ x n c, pv = .slice x n c := by obtain ⟨_, x, c, e, _⟩ := hp; exact ⟨x, _, c, e⟩
  obtain ⟨qa, qn, qc, rfl⟩ : ∃ x n c, qv = .slice x n c := by obtain ⟨_, x, c, e, _⟩ := hq; exact ⟨x, _, c, e⟩
  obtain ⟨NA, hNA⟩ : ∃ x, a.length = x := ⟨_, rfl⟩
  obtain ⟨NB, hNB⟩ : ∃ x, b.length = x := ⟨_, rfl⟩
  rw [hNA] at HC1 HVA HW1 ⊢
  rw [hNB] at HC2 HVB HW2 ⊢
  have HNA := Lib.hid hNA
  have HNB := Lib.hid hNB
  have hl1 : (mclimb i m a p).length = 32 := mst_len i m (sha_len _) p _
  have heq := fun W : World => dig_eq (mclimb i m a p) (mclimb i m a p) hl1 hl1 W
  simp only [dv_eq, decide_true] at heq
  rw [← hR] at HC2
  have HEND : Hid (mst i m (sha (leafT a)) p (mrows m) = mst i m (sha (leafT b)) q (mrows m)) := Lib.hid hR
  have HL1 : Hid ((cells8 (mclimb i m a p)).length = 32) := Lib.hid (by rw [cells8_len, hl1])
  have HO1 : Hid (∀ v ∈ cells8 (mclimb i m a p), v.oneCell' = true) := Lib.hid (one_cells8 _)
  obtain ⟨cc, hcc⟩ : ∃ x, cells8 (mclimb i m a p) = x := ⟨_, rfl⟩
  rw [hcc] at HC1 HC2 heq HL1 HO1
  have HL2 := HL1
  have HO2 := HO1
  have HZC : Hid ((Tryd.prog.info? 30).map (·.size) = some cc.length) := Lib.hid (by rw [HL1.out]; exact Tryd.info30)
  have HZD := HZC
  have HHEQ := Lib.hid heq
  have e0 : ¬ (⟨a.toArray⟩ : ByteArray) = ⟨b.toArray⟩ := fun e => hab (by injection e with e; simpa using e)
  have e1 : decide ((⟨a.toArray⟩ : ByteArray) = ⟨b.toArray⟩) = false := by simpa using e0
  have hab2 : (a == b) = false := by simpa using hab
  have HR16 := Lib.hid (mrows_le 16 m (by omega))
  clear hv hu hp hq hNA hNB hl1 hcc heq hR hpl hql
  go_enter Tryd.func26, Tryd.ntmps26
  go_wp2_with fail
  refine (HC1.out w (Below.refl _ _)).mono ?_
  rintro e w1 ⟨rfl, hb1⟩
  have HB1 := Lib.hid hb1
  clear hb1
  go_wp2_with (first
    | (refine wpList_world (fun X => Below w1.heap.size w1 X ∧ Arr X w1.heap.size (cells8 (List.replicate 32 0)) ∧ w1.heap.size < X.heap.size) ⟨by go_grown, Arr.new w1 _ 30, by simp⟩ ?_; rintro Xa ⟨hBa, hDa, hza⟩)
    | (refine store_new2 rfl 30 _ _ (by rfl) w1.heap.size w1.heap.size cc _ (by rfl) (by rfl) hBa (Nat.le_refl _) hDa (by rw [HL1.out]; rfl) HZC.out HO1.out ?_; intro w2 hB hA hO hz; have HB2 := Lib.hid (HB1.out.trans (hB.mono HB1.out.size)); have HA2 := Lib.hid hA; have hz2 : w1.heap.size < w2.heap.size := Nat.lt_of_lt_of_le hza hz; clear hB hA hO hz hBa hDa hza))
  refine (HC2.out w2 HB2.out).mono ?_
  rintro e w3 ⟨rfl, hb3⟩
  have hs3 := hb3.size
  have HB3 := Lib.hid (HB2.out.trans (hb3.mono HB2.out.size))
  have HA3 := Lib.hid (HA2.out.below hb3 hz2)
  clear hb3
  go_upto_region 3 with (first
    | (refine wpList_world (fun X => Below w3.heap.size w3 X ∧ Arr X w3.heap.size (cells8 (List.replicate 32 0)) ∧ w3.heap.size < X.heap.size) ⟨by go_grown, Arr.new w3 _ 30, by simp⟩ ?_; rintro Xa ⟨hBa, hDa, hza⟩)
    | (refine store_new2 rfl 30 _ _ (by rfl) w3.heap.size w3.heap.size cc _ (by rfl) (by rfl) hBa (Nat.le_refl _) hDa (by rw [HL2.out]; rfl) HZD.out HO2.out ?_; intro w5 hB hA hO hz; have HB5 := Lib.hid (HB3.out.trans (hB.mono HB3.out.size)); have HA5 := Lib.hid hA; have HA4 := Lib.hid (HA3.out.below hB (by omega)); have hz5 : w3.heap.size < w5.heap.size := Nat.lt_of_lt_of_le hza hz; clear hB hA hO hz hBa hDa hza))
  have heq := HHEQ.out
  have hcvA := conv_of (HVA.out.below HB5.out) HNA.out
  have hcvB := conv_of (HVB.out.below HB5.out) HNB.out
  go_wp2_with (first
    | (refine wpList_wanted (by rfl) ?_; refine wp_load_mid 30 (.tmp 15) (by rfl) w1.heap.size 0 (by rfl) cc _ HA4.out.at_ Tryd.underlying30 rfl HZC.out ?_; simp only [Act.put, List.setIfInBounds_toArray, List.set_cons_zero, List.set_cons_succ])
    | (refine wpList_wanted (by rfl) ?_; refine wp_load_mid 30 (.tmp 17) (by rfl) w3.heap.size 0 (by rfl) cc _ HA5.out.at_ Tryd.underlying30 rfl HZD.out ?_; simp only [Act.put, List.setIfInBounds_toArray, List.set_cons_zero, List.set_cons_succ]))
  refine (HW1.out w5 HB5.out).mono ?_
  rintro e w6 ⟨vl1, vt1, rfl, hd1, ht1, hb6⟩
  have HB6 := Lib.hid (HB5.out.trans (hb6.mono HB5.out.size))
  have HD1 := Lib.hid hd1
  have HT1 := Lib.hid ht1
  clear hb6 hd1 ht1 hcvA hcvB
  go_wp2_with fail
  refine (HW2.out w6 HB6.out).mono ?_
  rintro e w7 ⟨vl2, vt2, rfl, hd2, ht2, hb7⟩
  have HB7 := Lib.hid (HB6.out.trans (hb7.mono HB6.out.size))
  have hd1 := digs_at HD1.out hb7
  have ht1 := HT1.out.at hb7
  obtain ⟨_, a1, k1, e1x, _, _, hr1⟩ := hd1
  obtain ⟨_, a2, k2, e2x, _, _, hr2⟩ := hd2
  obtain ⟨a3, k3, e3x, _, _, hr3⟩ := ht1
  obtain ⟨a4, k4, e4x, _, _, hr4⟩ := ht2
  rw [wayD_len] at e1x e2x
  rw [List.length_map, List.length_range] at e3x e4x
  subst e1x
  subst e2x
  subst e3x
  subst e4x
  obtain ⟨g1, o1, rfl, hg1, hr1⟩ := hr1.resolve_left (fun e => by have h := wayD_len i m a p (mrows m); rw [e] at h; simp at h)
  obtain ⟨g2, o2, rfl, hg2, hr2⟩ := hr2.resolve_left (fun e => by have h := wayD_len i m b q (mrows m); rw [e] at h; simp at h)
  obtain ⟨g3, o3, rfl, hg3, hr3⟩ := hr3.resolve_left (fun e => by have h := congrArg List.length e; simp at h)
  obtain ⟨g4, o4, rfl, hg4, hr4⟩ := hr4.resolve_left (fun e => by have h := congrArg List.length e; simp at h)
  have HR1 := Lib.hid hr1
  have HR2 := Lib.hid hr2
  have HR3 := Lib.hid hr3
  have HR4 := Lib.hid hr4
  have hR16 := HR16.out
  clear hb7 hr1 hr2 hr3 hr4 HD1 HT1
  obtain ⟨R, hRR⟩ : ∃ R, mrows m = R := ⟨_, rfl⟩
  have HRR := Lib.hid hRR
  rw [hRR] at hR16 HEND ⊢
  obtain ⟨Q, hQ⟩ : ∃ Q, R + 1 = Q := ⟨_, rfl⟩
  rw [hQ]
  go_wp2
  go_loopw [23] (fun s23 wr => ∃ k : Nat, s23 = .int .i64 (k : Int) ∧ k ≤ R ∧ Kept w7 wr ∧ Hid (∀ j, j < k → mst i m (sha (leafT a)) p j ≠ mst i m (sha (leafT b)) q j)) (fun s23 _ => 64 - (intOf s23).toNat)
  case atStart => exact ⟨0, rfl, by omega, Kept.refl _, Lib.hid (fun j h => by omega)⟩
  case round =>
    obtain ⟨k, rfl, hkm, hB, HNE⟩ := hrel
    have f1 : decide ((k : Int) < (Q : Int)) = true := by simp; omega
    have f2 : decide (k < Q) = true := by simp; omega
    have f3 : (k : Int) < (Q : Int) := by omega
    have iw : IntKind.i64.wrap ((k : Int) + 1) = (k : Int) + 1 := by rw [IntKind.wrap_i64]; omega
    have hra := HR1.out k (by rw [wayD_len]; omega)
    have hrb := HR2.out k (by rw [wayD_len]; omega)
    rw [wayD_get] at hra hrb
    have lx := mst_len i m (sha_len (leafT a)) p k
    have ly := mst_len i m (sha_len (leafT b)) q k
    have hq := fun W : World => dig_eq (mst i m (sha (leafT a)) p k) (mst i m (sha (leafT b)) q k) lx ly W
    simp only [dv_eq] at hq
    have lcx : (cells8 (mst i m (sha (leafT a)) p k)).length = 32 := by rw [cells8_len, lx]
    have lcy : (cells8 (mst i m (sha (leafT b)) q k)).length = 32 := by rw [cells8_len, ly]
    obtain ⟨cx, hcx⟩ : ∃ c, cells8 (mst i m (sha (leafT a)) p k) = c := ⟨_, rfl⟩
    obtain ⟨cy, hcy⟩ : ∃ c, cells8 (mst i m (sha (leafT b)) q k) = c := ⟨_, rfl⟩
    rw [hcx] at hra lcx hq
    rw [hcy] at hrb lcy hq
    have HZX : Hid ((Tryd.prog.info? 30).map (·.size) = some cx.length) := by show _ = _; rw [lcx]; exact Tryd.info30
    have HZY : Hid ((Tryd.prog.info? 30).map (·.size) = some cy.length) := by show _ = _; rw [lcy]; exact Tryd.info30
    have AX : Hid (∀ W, Kept w7 W → W.rangeAt g1 (o1 + k * 32) cx) := Lib.hid fun W hW j v hv => (hW.below.cell (p := ⟨g1, o1 + k * 32 + j, none⟩) hg1).trans (hra j v hv)
    have AY : Hid (∀ W, Kept w7 W → W.rangeAt g2 (o2 + k * 32) cy) := Lib.hid fun W hW j v hv => (hW.below.cell (p := ⟨g2, o2 + k * 32 + j, none⟩) hg2).trans (hrb j v hv)
    clear hra hrb lx ly lcx lcy hcx hcy
    by_cases he : mst i m (sha (leafT a)) p k = mst i m (sha (leafT b)) q k
    · have hd : decide (mst i m (sha (leafT a)) p k = mst i m (sha (leafT b)) q k) = true := by simpa using he
      rw [hd] at hq
      have HQ := Lib.hid hq
      have HEQ := Lib.hid he
      have hw1 := wayT_first i m a b p q k HNE.out he
      have hw2 := wayT_first i m b a q p k (fun j hj e => HNE.out j hj e.symm) he.symm
      obtain ⟨x3, hx3, hy3⟩ := HR3.out k (by rw [List.length_map, List.length_range, HRR.out]; omega)
      obtain ⟨x4, hx4, hy4⟩ := HR4.out k (by rw [List.length_map, List.length_range, HRR.out]; omega)
      rw [List.getElem_map, List.getElem_range, hw1] at hy3
      rw [List.getElem_map, List.getElem_range, hw2] at hy4
      have HTA := Lib.hid hy3
      have HTB := Lib.hid hy4
      have PT1 : Hid (∀ W, Kept w7 W → W.cell? ⟨g3, o3 + k, none⟩ = some x3) := Lib.hid fun W hW => (hW.below.cell (p := ⟨g3, o3 + k, none⟩) hg3).trans hx3
      have PT2 : Hid (∀ W, Kept w7 W → W.cell? ⟨g4, o4 + k, none⟩ = some x4) := Lib.hid fun W hW => (hW.below.cell (p := ⟨g4, o4 + k, none⟩) hg4).trans hx4
      clear hd hq hw1 hw2 hx3 hy3 hx4 hy4 he
      go_upto_region 10 with fail
      refine wp_region_held_drew (S := fun W => Kept w7 W) (by kernel_rfl) (Kept.drew hB) (fun hHeld => ?_)
      refine wpAnyH_take (i := 0) (oi := c26a0) (v := ?_) rfl (by kernel_rfl) (by kernel_rfl) (by kernel_rfl) (fun _ _ _ h => h) (Or.inl ⟨by rfl, ?_⟩) hHeld ?_
      rotate_left
      · (intro w hSw; (try dsimp only at hSw); unfold c26a0; go_simp <;> with_reducible rfl)
      try simp only [c26a0, Act.put, List.setIfInBounds_toArray, List.set_cons_zero, List.set_cons_succ]
      refine wpAnyH_take (i := 1) (oi := c26a1) (v := ?_) rfl (by kernel_rfl) (by kernel_rfl) (by kernel_rfl) (fun _ _ _ h => h) (Or.inl ⟨by rfl, ?_⟩) hHeld ?_
      rotate_left
      · (intro w hSw; (try dsimp only at hSw); unfold c26a1; go_simp <;> with_reducible rfl)
      try simp only [c26a1, Act.put, List.setIfInBounds_toArray, List.set_cons_zero, List.set_cons_succ]
      refine wpAnyH_take (i := 2) (oi := c26a2) (v := ?_) rfl (by kernel_rfl) (by kernel_rfl) (by kernel_rfl) (fun _ _ _ h => h) (Or.inl ⟨by rfl, ?_⟩) hHeld ?_
      rotate_left
      · (intro w hSw; (try dsimp only at hSw); unfold c26a2; go_simp <;> with_reducible rfl)
      try simp only [c26a2, Act.put, List.setIfInBounds_toArray, List.set_cons_zero, List.set_cons_succ]
      refine wpAnyH_take (i := 3) (oi := c26a3) rfl (by kernel_rfl) (by kernel_rfl) (by kernel_rfl) (fun _ _ _ h => h) (yieldsIf_load_mid (by rfl) 30 (.tmp 82) (by rfl) g1 (o1 + k * 32) (by rfl) cx _ (fun w hSw => AX.out w hSw) Tryd.underlying30 rfl HZX.out) hHeld ?_
      try simp only [c26a3, Act.put, List.setIfInBounds_toArray, List.set_cons_zero, List.set_cons_succ]
      refine wpAnyH_take (i := 4) (oi := c26a4) (v := ?_) rfl (by kernel_rfl) (by kernel_rfl) (by kernel_rfl) (fun _ _ _ h => h) (Or.inl ⟨by rfl, ?_⟩) hHeld ?_
      rotate_left
      · (intro w hSw; (try dsimp only at hSw); unfold c26a4; go_simp <;> with_reducible rfl)
      try simp only [c26a4, Act.put, List.setIfInBounds_toArray, List.set_cons_zero, List.set_cons_succ]
      refine wpAnyH_take (i := 5) (oi := c26a5) (v := ?_) rfl (by kernel_rfl) (by kernel_rfl) (by kernel_rfl) (fun _ _ _ h => h) (Or.inl ⟨by rfl, ?_⟩) hHeld ?_
      rotate_left
      · (intro w hSw; (try dsimp only at hSw); unfold c26a5; go_simp <;> with_reducible rfl)
      try simp only [c26a5, Act.put, List.setIfInBounds_toArray, List.set_cons_zero, List.set_cons_succ]
      refine wpAnyH_take (i := 6) (oi := c26a6) (v := ?_) rfl (by kernel_rfl) (by kernel_rfl) (by kernel_rfl) (fun _ _ _ h => h) (Or.inl ⟨by rfl, ?_⟩) hHeld ?_
      rotate_left
      · (intro w hSw; (try dsimp only at hSw); unfold c26a6; go_simp <;> with_reducible rfl)
      try simp only [c26a6, Act.put, List.setIfInBounds_toArray, List.set_cons_zero, List.set_cons_succ]
      refine wpAnyH_take (i := 7) (oi := c26a7) rfl (by kernel_rfl) (by kernel_rfl) (by kernel_rfl) (fun _ _ _ h => h) (yieldsIf_load_mid (by rfl) 30 (.tmp 86) (by rfl) g2 (o2 + k * 32) (by rfl) cy _ (fun w hSw => AY.out w hSw) Tryd.underlying30 rfl HZY.out) hHeld ?_
      try simp only [c26a7, Act.put, List.setIfInBounds_toArray, List.set_cons_zero, List.set_cons_succ]
      refine wpAnyH_take (i := 8) (oi := c26a8) (v := ?_) rfl (by kernel_rfl) (by kernel_rfl) (by kernel_rfl) (fun _ _ _ h => h) (Or.inl ⟨by rfl, ?_⟩) hHeld ?_
      rotate_left
      · (intro w hSw; have q5 := HQ.out; unfold c26a8; go_simp <;> with_reducible rfl)
      try simp only [c26a8, Act.put, List.setIfInBounds_toArray, List.set_cons_zero, List.set_cons_succ]
      refine wpAnyH_done (by kernel_rfl) ?_ _
      have HST := Lib.hid hHeld
      clear hHeld
      go_upto_region 11 with fail
      refine wp_region_held_drew (S := fun W => Kept w7 W) (by kernel_rfl) (Kept.drew HST.out) (fun hHeld => ?_)
      refine wpAnyH_take (i := 0) (oi := c26b0) (v := ?_) rfl (by kernel_rfl) (by kernel_rfl) (by kernel_rfl) (fun _ _ _ h => h) (Or.inl ⟨by rfl, ?_⟩) hHeld ?_
      rotate_left
      · (intro w hSw; (try dsimp only at hSw); unfold c26b0; go_simp <;> with_reducible rfl)
      try simp only [c26b0, Act.put, List.setIfInBounds_toArray, List.set_cons_zero, List.set_cons_succ]
      refine wpAnyH_take (i := 1) (oi := c26b1) (v := ?_) rfl (by kernel_rfl) (by kernel_rfl) (by kernel_rfl) (fun _ _ _ h => h) (Or.inl ⟨by rfl, ?_⟩) hHeld ?_
      rotate_left
      · (intro w hSw; (try dsimp only at hSw); unfold c26b1; go_simp <;> with_reducible rfl)
      try simp only [c26b1, Act.put, List.setIfInBounds_toArray, List.set_cons_zero, List.set_cons_succ]
      refine wpAnyH_take (i := 2) (oi := c26b2) (v := ?_) rfl (by kernel_rfl) (by kernel_rfl) (by kernel_rfl) (fun _ _ _ h => h) (Or.inl ⟨by rfl, ?_⟩) hHeld ?_
      rotate_left
      · (intro w hSw; (try dsimp only at hSw); unfold c26b2; go_simp <;> with_reducible rfl)
      try simp only [c26b2, Act.put, List.setIfInBounds_toArray, List.set_cons_zero, List.set_cons_succ]
      refine wpAnyH_take (i := 3) (oi := c26b3) (v := ?_) rfl (by kernel_rfl) (by kernel_rfl) (by kernel_rfl) (fun _ _ _ h => h) (Or.inl ⟨by rfl, ?_⟩) hHeld ?_
      rotate_left
      · (intro w hSw; have f1 := PT1.out w hSw; have f2 := PT2.out w hSw; unfold c26b3; go_simp <;> with_reducible rfl)
      try simp only [c26b3, Act.put, List.setIfInBounds_toArray, List.set_cons_zero, List.set_cons_succ]
      refine wpAnyH_take (i := 4) (oi := c26b4) (v := ?_) rfl (by kernel_rfl) (by kernel_rfl) (by kernel_rfl) (fun _ _ _ h => h) (Or.inl ⟨by rfl, ?_⟩) hHeld ?_
      rotate_left
      · (intro w hSw; (try dsimp only at hSw); unfold c26b4; go_simp <;> with_reducible rfl)
      try simp only [c26b4, Act.put, List.setIfInBounds_toArray, List.set_cons_zero, List.set_cons_succ]
      refine wpAnyH_take (i := 5) (oi := c26b5) (v := ?_) rfl (by kernel_rfl) (by kernel_rfl) (by kernel_rfl) (fun _ _ _ h => h) (Or.inl ⟨by rfl, ?_⟩) hHeld ?_
      rotate_left
      · (intro w hSw; (try dsimp only at hSw); unfold c26b5; go_simp <;> with_reducible rfl)
      try simp only [c26b5, Act.put, List.setIfInBounds_toArray, List.set_cons_zero, List.set_cons_succ]
      refine wpAnyH_take (i := 6) (oi := c26b6) (v := ?_) rfl (by kernel_rfl) (by kernel_rfl) (by kernel_rfl) (fun _ _ _ h => h) (Or.inl ⟨by rfl, ?_⟩) hHeld ?_
      rotate_left
      · (intro w hSw; (try dsimp only at hSw); unfold c26b6; go_simp <;> with_reducible rfl)
      try simp only [c26b6, Act.put, List.setIfInBounds_toArray, List.set_cons_zero, List.set_cons_succ]
      refine wpAnyH_take (i := 7) (oi := c26b7) (v := ?_) rfl (by kernel_rfl) (by kernel_rfl) (by kernel_rfl) (fun _ _ _ h => h) (Or.inl ⟨by rfl, ?_⟩) hHeld ?_
      rotate_left
      · (intro w hSw; have f1 := PT1.out w hSw; have f2 := PT2.out w hSw; unfold c26b7; go_simp <;> with_reducible rfl)
      try simp only [c26b7, Act.put, List.setIfInBounds_toArray, List.set_cons_zero, List.set_cons_succ]
      refine wpAnyH_take (i := 8) (oi := c26b8) (v := ?_) rfl (by kernel_rfl) (by kernel_rfl) (by kernel_rfl) (fun _ _ _ h => h) (Or.inl ⟨by rfl, ?_⟩) hHeld ?_
      rotate_left
      · (intro w hSw; (try dsimp only at hSw); unfold c26b8; go_simp <;> with_reducible rfl)
      try simp only [c26b8, Act.put, List.setIfInBounds_toArray, List.set_cons_zero, List.set_cons_succ]
      refine wpAnyH_take (i := 9) (oi := c26b9) (v := ?_) rfl (by kernel_rfl) (by kernel_rfl) (by kernel_rfl) (fun _ _ _ h => h) (Or.inl ⟨by rfl, ?_⟩) hHeld ?_
      rotate_left
      · (intro w hSw; (try dsimp only at hSw); unfold c26b9; go_simp <;> with_reducible rfl)
      try simp only [c26b9, Act.put, List.setIfInBounds_toArray, List.set_cons_zero, List.set_cons_succ]
      refine wpAnyH_take (i := 10) (oi := c26b10) (v := ?_) rfl (by kernel_rfl) (by kernel_rfl) (by kernel_rfl) (fun _ _ _ h => h) (Or.inl ⟨by rfl, ?_⟩) hHeld ?_
      rotate_left
      · (intro w hSw; (try dsimp only at hSw); unfold c26b10; go_simp <;> with_reducible rfl)
      try simp only [c26b10, Act.put, List.setIfInBounds_toArray, List.set_cons_zero, List.set_cons_succ]
      refine wpAnyH_done (by kernel_rfl) ?_ _
      have HST2 := Lib.hid hHeld
      clear hHeld
      go_wp2
      go_returns
      exact ⟨_, _, k, rfl, by rw [HRR.out]; exact hkm, HEQ.out, HNE.out, (HTA.out.below HST2.out.below).mono HST2.out.below.size, (HTB.out.below HST2.out.below).mono HST2.out.below.size, HB7.out.trans (HST2.out.below.mono HB7.out.size)⟩
    · have hd : decide (mst i m (sha (leafT a)) p k = mst i m (sha (leafT b)) q k) = false := by simpa using he
      rw [hd] at hq
      have HQ := Lib.hid hq
      have hkR : k < R := by
        by_cases h : k = R
        · subst h; exact absurd HEND.out he
        · omega
      have HN2 : Hid (∀ j, j < k + 1 → mst i m (sha (leafT a)) p j ≠ mst i m (sha (leafT b)) q j) := Lib.hid fun j hj => by
        by_cases h : j = k
        · subst h; exact he
        · exact HNE.out j (by omega)
      clear hd hq he
      go_upto_region 10 with fail
      refine wp_region_held_drew (S := fun W => Kept w7 W) (by kernel_rfl) (Kept.drew hB) (fun hHeld => ?_)
      refine wpAnyH_take (i := 0) (oi := c26a0) (v := ?_) rfl (by kernel_rfl) (by kernel_rfl) (by kernel_rfl) (fun _ _ _ h => h) (Or.inl ⟨by rfl, ?_⟩) hHeld ?_
      rotate_left
      · (intro w hSw; (try dsimp only at hSw); unfold c26a0; go_simp <;> with_reducible rfl)
      try simp only [c26a0, Act.put, List.setIfInBounds_toArray, List.set_cons_zero, List.set_cons_succ]
      refine wpAnyH_take (i := 1) (oi := c26a1) (v := ?_) rfl (by kernel_rfl) (by kernel_rfl) (by kernel_rfl) (fun _ _ _ h => h) (Or.inl ⟨by rfl, ?_⟩) hHeld ?_
      rotate_left
      · (intro w hSw; (try dsimp only at hSw); unfold c26a1; go_simp <;> with_reducible rfl)
      try simp only [c26a1, Act.put, List.setIfInBounds_toArray, List.set_cons_zero, List.set_cons_succ]
      refine wpAnyH_take (i := 2) (oi := c26a2) (v := ?_) rfl (by kernel_rfl) (by kernel_rfl) (by kernel_rfl) (fun _ _ _ h => h) (Or.inl ⟨by rfl, ?_⟩) hHeld ?_
      rotate_left
      · (intro w hSw; (try dsimp only at hSw); unfold c26a2; go_simp <;> with_reducible rfl)
      try simp only [c26a2, Act.put, List.setIfInBounds_toArray, List.set_cons_zero, List.set_cons_succ]
      refine wpAnyH_take (i := 3) (oi := c26a3) rfl (by kernel_rfl) (by kernel_rfl) (by kernel_rfl) (fun _ _ _ h => h) (yieldsIf_load_mid (by rfl) 30 (.tmp 82) (by rfl) g1 (o1 + k * 32) (by rfl) cx _ (fun w hSw => AX.out w hSw) Tryd.underlying30 rfl HZX.out) hHeld ?_
      try simp only [c26a3, Act.put, List.setIfInBounds_toArray, List.set_cons_zero, List.set_cons_succ]
      refine wpAnyH_take (i := 4) (oi := c26a4) (v := ?_) rfl (by kernel_rfl) (by kernel_rfl) (by kernel_rfl) (fun _ _ _ h => h) (Or.inl ⟨by rfl, ?_⟩) hHeld ?_
      rotate_left
      · (intro w hSw; (try dsimp only at hSw); unfold c26a4; go_simp <;> with_reducible rfl)
      try simp only [c26a4, Act.put, List.setIfInBounds_toArray, List.set_cons_zero, List.set_cons_succ]
      refine wpAnyH_take (i := 5) (oi := c26a5) (v := ?_) rfl (by kernel_rfl) (by kernel_rfl) (by kernel_rfl) (fun _ _ _ h => h) (Or.inl ⟨by rfl, ?_⟩) hHeld ?_
      rotate_left
      · (intro w hSw; (try dsimp only at hSw); unfold c26a5; go_simp <;> with_reducible rfl)
      try simp only [c26a5, Act.put, List.setIfInBounds_toArray, List.set_cons_zero, List.set_cons_succ]
      refine wpAnyH_take (i := 6) (oi := c26a6) (v := ?_) rfl (by kernel_rfl) (by kernel_rfl) (by kernel_rfl) (fun _ _ _ h => h) (Or.inl ⟨by rfl, ?_⟩) hHeld ?_
      rotate_left
      · (intro w hSw; (try dsimp only at hSw); unfold c26a6; go_simp <;> with_reducible rfl)
      try simp only [c26a6, Act.put, List.setIfInBounds_toArray, List.set_cons_zero, List.set_cons_succ]
      refine wpAnyH_take (i := 7) (oi := c26a7) rfl (by kernel_rfl) (by kernel_rfl) (by kernel_rfl) (fun _ _ _ h => h) (yieldsIf_load_mid (by rfl) 30 (.tmp 86) (by rfl) g2 (o2 + k * 32) (by rfl) cy _ (fun w hSw => AY.out w hSw) Tryd.underlying30 rfl HZY.out) hHeld ?_
      try simp only [c26a7, Act.put, List.setIfInBounds_toArray, List.set_cons_zero, List.set_cons_succ]
      refine wpAnyH_take (i := 8) (oi := c26a8) (v := ?_) rfl (by kernel_rfl) (by kernel_rfl) (by kernel_rfl) (fun _ _ _ h => h) (Or.inl ⟨by rfl, ?_⟩) hHeld ?_
      rotate_left
      · (intro w hSw; have q5 := HQ.out; unfold c26a8; go_simp <;> with_reducible rfl)
      try simp only [c26a8, Act.put, List.setIfInBounds_toArray, List.set_cons_zero, List.set_cons_succ]
      refine wpAnyH_done (by kernel_rfl) ?_ _
      have HST := Lib.hid hHeld
      clear hHeld
      go_wp2
      go_roundw
      case rel => exact ⟨k + 1, by simp, by omega, HST.out, HN2⟩
      case measure => simp [intOf]; omega
end Go.Proofs.YtfmngeemhfpeiaaDoor
