/- MerkleProve, walked. -/
import Derived.Test.YtfmngeemhfpeiaaDoorMfe
namespace Go.Proofs.YtfmngeemhfpeiaaDoor
open Go.RowKit

def c5a0 : Oper := { dst := some 47, op := Go.Op.move (Go.Operand.tmp 6), type := 26, pos := "law.go:66", after := #[], guard := none }
def c5a1 : Oper := { dst := some 48, op := Go.Op.binOp Go.BinOp.eql 26 (Go.Operand.tmp 47) (Go.Operand.const (Go.Value.int Go.IntKind.i64 0)) 26, type := 4, pos := "law.go:66", after := #[{ on := 0, ground := Go.Ground.data }], guard := none }
def c5a2 : Oper := { dst := some 49, op := Go.Op.move (Go.Operand.tmp 48), type := 4, pos := "law.go:66", after := #[{ on := 1, ground := Go.Ground.data }], guard := none }
def c5a3 : Oper := { dst := some 50, op := Go.Op.move (Go.Operand.tmp 8), type := 26, pos := "law.go:66", after := #[{ on := 2, ground := Go.Ground.guard }], guard := some (2, true) }
def c5a4 : Oper := { dst := some 51, op := Go.Op.binOp Go.BinOp.eql 26 (Go.Operand.tmp 50) (Go.Operand.const (Go.Value.int Go.IntKind.i64 0)) 26, type := 4, pos := "law.go:66", after := #[{ on := 3, ground := Go.Ground.data }, { on := 2, ground := Go.Ground.guard }], guard := some (2, true) }
def c5a5 : Oper := { dst := some 52, op := Go.Op.pick (Go.Operand.tmp 49) (Go.Operand.tmp 51) (Go.Operand.const (Go.Value.bool false)), type := 4, pos := "law.go:66", after := #[{ on := 2, ground := Go.Ground.data }, { on := 4, ground := Go.Ground.data }], guard := none }
def c5a6 : Oper := { dst := some 53, op := Go.Op.move (Go.Operand.tmp 52), type := 4, pos := "law.go:66", after := #[{ on := 5, ground := Go.Ground.data }, { on := 2, ground := Go.Ground.chain }], guard := none }
def c5a7 : Oper := { dst := some 54, op := Go.Op.load 30 (Go.Operand.tmp 7), type := 30, pos := "law.go:66", after := #[{ on := 6, ground := Go.Ground.guard }], guard := some (6, true) }
def c5a8 : Oper := { dst := some 55, op := Go.Op.move (Go.Operand.tmp 0), type := 22, pos := "law.go:66", after := #[{ on := 6, ground := Go.Ground.guard }], guard := some (6, true) }
def c5a9 : Oper := { dst := some 56, op := Go.Op.call { callee := Go.Callee.value (Go.Operand.func 20), args := #[Go.Operand.tmp 55], argTypes := #[22] }, type := 30, pos := "law.go:66", after := #[{ on := 8, ground := Go.Ground.data }, { on := 6, ground := Go.Ground.chain }, { on := 6, ground := Go.Ground.guard }], guard := some (6, true) }
def c5a10 : Oper := { dst := some 57, op := Go.Op.binOp Go.BinOp.eql 30 (Go.Operand.tmp 54) (Go.Operand.tmp 56) 30, type := 4, pos := "law.go:66", after := #[{ on := 7, ground := Go.Ground.data }, { on := 9, ground := Go.Ground.data }, { on := 6, ground := Go.Ground.guard }], guard := some (6, true) }
def c5a11 : Oper := { dst := some 58, op := Go.Op.pick (Go.Operand.tmp 53) (Go.Operand.tmp 57) (Go.Operand.const (Go.Value.bool false)), type := 4, pos := "law.go:66", after := #[{ on := 6, ground := Go.Ground.data }, { on := 10, ground := Go.Ground.data }], guard := none }
def c5a12 : Oper := { dst := some 59, op := Go.Op.move (Go.Operand.tmp 58), type := 4, pos := "law.go:66", after := #[{ on := 11, ground := Go.Ground.data }, { on := 9, ground := Go.Ground.chain }], guard := none }
def c5a13 : Oper := { dst := some 60, op := Go.Op.move (Go.Operand.tmp 5), type := 25, pos := "law.go:66", after := #[{ on := 12, ground := Go.Ground.guard }], guard := some (12, true) }
def c5a14 : Oper := { dst := some 61, op := Go.Op.call { callee := Go.Callee.builtin Go.Builtin.len, args := #[Go.Operand.tmp 60], argTypes := #[25] }, type := 3, pos := "law.go:66", after := #[{ on := 13, ground := Go.Ground.data }, { on := 12, ground := Go.Ground.guard }], guard := some (12, true) }
def c5a15 : Oper := { dst := some 62, op := Go.Op.binOp Go.BinOp.leq 3 (Go.Operand.tmp 61) (Go.Operand.const (Go.Value.int Go.IntKind.i64 16)) 3, type := 4, pos := "law.go:66", after := #[{ on := 14, ground := Go.Ground.data }, { on := 12, ground := Go.Ground.guard }], guard := some (12, true) }
def c5a16 : Oper := { dst := some 63, op := Go.Op.pick (Go.Operand.tmp 59) (Go.Operand.tmp 62) (Go.Operand.const (Go.Value.bool false)), type := 4, pos := "law.go:66", after := #[{ on := 12, ground := Go.Ground.data }, { on := 15, ground := Go.Ground.data }], guard := none }
def c5a17 : Oper := { dst := some 4, op := Go.Op.assign (Go.Operand.tmp 63), type := 4, pos := "law.go:66", after := #[{ on := 16, ground := Go.Ground.data }, { on := 12, ground := Go.Ground.chain }, { on := 0, ground := Go.Ground.phase }, { on := 1, ground := Go.Ground.phase }, { on := 2, ground := Go.Ground.phase }, { on := 3, ground := Go.Ground.phase }, { on := 4, ground := Go.Ground.phase }, { on := 5, ground := Go.Ground.phase }, { on := 6, ground := Go.Ground.phase }, { on := 7, ground := Go.Ground.phase }, { on := 8, ground := Go.Ground.phase }, { on := 9, ground := Go.Ground.phase }, { on := 10, ground := Go.Ground.phase }, { on := 11, ground := Go.Ground.phase }, { on := 12, ground := Go.Ground.phase }, { on := 13, ground := Go.Ground.phase }, { on := 14, ground := Go.Ground.phase }, { on := 15, ground := Go.Ground.phase }, { on := 16, ground := Go.Ground.phase }], guard := none }

theorem climbR_mine (l : List (List UInt8)) (i : Nat) (hi : i < l.length) (hq : l.length ≤ 65536) : climbR (l.length : Int) (i : Int) l[i] (mpath (firsts l) i) = (mroot l, 0) := by
  rw [climbR_ok hq hi _ (mpath_len l i), prove_root l i hi]
theorem mroot_len (l : List (List UInt8)) (h : l ≠ []) : (mroot l).length = 32 := by
  obtain ⟨i, hi⟩ : ∃ i, i < l.length := ⟨0, List.length_pos_iff.2 h⟩
  rw [← prove_root l i hi]
  exact mst_len _ _ (sha_len _) _ _

set_option maxRecDepth 100000 in
set_option maxHeartbeats 16000000 in
theorem lawMProve (w : World) (v : Value) (l : List (List UInt8)) (hv : BRows w w.heap.size v l) (i : Int) (_hi : (Lit.int .i64 i).wf = true) (hT : Tab w) (h0 : 0 < w.heap.size) :
    Calls Tryd.prog 5 #[v, .int .i64 i] w fun e w' => e = .returned (.bool true) ∧ Below w.heap.size w w' := by
  have HS := Lib.hid (msane_any w hT h0)
  have HFE := Lib.hid (fun (W : World) (hW : Below w.heap.size w W) => mfew_any W v l (hv.at hW))
  have HPR := Lib.hid (fun (W : World) (hW : Below w.heap.size w W) (hf : fewB l) => prove_any W v l i (hv.at hW) (fun b hb => by have := hf.2 b hb; omega) (hT.below hW h0) (by have := hW.size; omega))
  have HRO := Lib.hid (fun (W : World) (hW : Below w.heap.size w W) (hf : fewB l) => root_any W v l (hv.at hW) (fun b hb => by have := hf.2 b hb; omega) (by have := hf.1; omega) (hT.below hW h0) (by have := hW.size; omega))
  have HTT := Lib.hid hT
  obtain ⟨a, cap, rfl, hNc, hcm, _⟩ := id hv
  have HRC := Lib.hid (rows_cells hv)
  obtain ⟨N, hN⟩ : ∃ N, l.length = N := ⟨_, rfl⟩
  rw [hN] at HFE HPR HRO hNc ⊢
  have HN := Lib.hid hN
  unfold maxLen at hcm
  clear hv hT hN
  go_enter Tryd.func5, Tryd.ntmps5
  go_wp2_with fail
  refine HS.out.mono ?_
  rintro e w1 ⟨rfl, hb1⟩
  have HB1 := Lib.hid hb1
  clear hb1
  go_wp2_with fail
  refine (HFE.out w1 HB1.out).mono ?_
  rintro e w2 ⟨B, rfl, hB, rfl⟩
  cases B with
  | false =>
    go_wp2
    go_returns
    exact ⟨rfl, HB1.out⟩
  | true =>
  have hfew := hB rfl
  have HFW := Lib.hid hfew
  have hN40 : N ≤ 40 := by rw [← HN.out]; exact hfew.1
  clear hB hfew
  by_cases hl : leafOk (N : Int) i = false
  · have hpr := HPR.out w2 HB1.out HFW.out
    rw [hl] at hpr
    simp only [Bool.false_eq_true, if_false] at hpr
    have HP2 := Lib.hid hpr
    clear hpr
    go_wp2_with fail
    refine HP2.out.mono ?_
    rintro e w3 ⟨v3, hd3, rfl, hb3⟩
    obtain ⟨a3, c3, rfl⟩ : ∃ a c, v3 = .slice a 0 c := by obtain ⟨_, a, c, e, _⟩ := hd3; exact ⟨a, c, e⟩
    have HB3 := Lib.hid (HB1.out.trans (hb3.mono HB1.out.size))
    clear hb3 hd3
    unfold leafOk at hl
    by_cases hi0 : i < 0
    · have k1 : decide (i < 0) = true := by simpa using hi0
      go_wp2
      go_returns
      exact ⟨rfl, HB3.out⟩
    · have k1 : decide (i < 0) = false := by simpa using hi0
      have k2 : (N : Int) ≤ i := by
        simp only [Bool.and_eq_false_iff, decide_eq_false_iff_not] at hl
        omega
      have k3 : decide (i ≥ (N : Int)) = true := by simpa using k2
      have k4 : decide ((N : Int) ≤ i) = true := by simpa using k2
      go_wp2
      go_returns
      exact ⟨rfl, HB3.out⟩
  obtain ⟨j, m, hm, rfl, hjm, _⟩ := leafOk_true (show leafOk (N : Int) i = true by simpa using hl)
  obtain rfl : m = N := by omega
  have hpr := HPR.out w2 HB1.out HFW.out
  rw [show leafOk (m : Int) (j : Int) = true by simpa using hl] at hpr
  simp only [if_true] at hpr
  rw [show ((j : Int)).toNat = j from rfl] at hpr
  have HP2 := Lib.hid hpr
  have hjl : j < l.length := by rw [HN.out]; exact hjm
  have hpl : (mpath (firsts l) j).length ≤ 16 := by
    rw [mpath_len, HN.out]
    have h1 := mcnt_le j m (mrows m)
    have h2 : mrows m ≤ 16 := mrows_le 16 m (by omega)
    unfold mlen
    omega
  have hro := fun W hW => HRO.out W hW HFW.out
  have hcm2 := climbR_mine l j hjl (by rw [HN.out]; omega)
  have hrl := mroot_len l (by intro e; subst e; simp at hjl)
  have hbj : l[j].length ≤ 200 := HFW.out.2 _ (List.getElem_mem hjl)
  rw [HN.out] at hcm2
  have hq := fun W : World => dig_eq (mroot l) (mroot l) hrl hrl W
  simp only [decide_true, dv_eq] at hq
  have HLC : Hid ((cells8 (mroot l)).length = 32) := Lib.hid (by rw [cells8_len, hrl])
  have HOC : Hid (∀ v ∈ cells8 (mroot l), v.oneCell' = true) := Lib.hid (one_cells8 _)
  have HCM := Lib.hid hcm2
  obtain ⟨cc, hcc⟩ : ∃ x, cells8 (mroot l) = x := ⟨_, rfl⟩
  rw [hcc] at hq HLC HOC
  simp only [hcc] at hro
  have HRT0 := Lib.hid hro
  have HCC := Lib.hid hcc
  have HQ := Lib.hid hq
  have HZC : Hid ((Tryd.prog.info? 30).map (·.size) = some cc.length) := Lib.hid (by rw [HLC.out]; exact Tryd.info30)
  have k1 : decide ((j : Int) < 0) = false := by simp
  have k3 : decide ((j : Int) ≥ (m : Int)) = false := by simp; omega
  have k4 : decide ((m : Int) ≤ (j : Int)) = false := by simp; omega
  have k5 : decide (m ≤ j) = false := by simp; omega
  clear hpr hro hcm2 hrl hcc hq hm hl
  go_wp2_with fail
  refine HP2.out.mono ?_
  rintro e w3 ⟨v3, hd3, rfl, hb3⟩
  have hs3 := hb3.size
  have HB3 := Lib.hid (HB1.out.trans (hb3.mono HB1.out.size))
  obtain ⟨a3, n3, c3, rfl, hn3⟩ : ∃ a n c, v3 = .slice a n c ∧ n ≤ 16 := by obtain ⟨_, a, c, e, _⟩ := hd3; exact ⟨a, _, c, e, hpl⟩
  obtain ⟨b0, off0, da, dc, rfl, hb0, hcell, hbytes⟩ := HRC.out w3 HB3.out j hjl
  have HCL := Lib.hid (climb_any w3 m j (.slice da l[j].length dc) (.slice a3 n3 c3) l[j] (mpath (firsts l) j) hbytes (by omega) hd3 (HTT.out.below HB3.out h0) (by have := HB3.out.size; omega))
  have hcl := HCL.out
  rw [HCM.out] at hcl
  simp only [HCC.out] at hcl
  obtain ⟨L, hL⟩ : ∃ L, l[j].length = L := ⟨_, rfl⟩
  rw [hL] at hcell hcl
  have HCL2 := Lib.hid hcl
  have q1 : (j : Int) < (m : Int) := by omega
  have q2 : decide ((j : Int) < (m : Int)) = true := by simp; omega
  have q3 : decide (j < m) = true := by simp; omega
  clear hd3 hb3 hbytes HCL hcl hL hpl hbj
  go_wp2_with fail
  refine HCL2.out.mono ?_
  rintro e w4 ⟨rfl, hb4⟩
  have HB4 := Lib.hid (HB3.out.trans (hb4.mono HB3.out.size))
  clear hb4 hcell
  go_upto_region 9 with (first
    | (refine wpList_world (fun X => Below w4.heap.size w4 X ∧ Arr X w4.heap.size (cells8 (List.replicate 32 0)) ∧ w4.heap.size < X.heap.size) ⟨by go_grown, Arr.new w4 _ 30, by simp⟩ ?_; rintro Xa ⟨hBa, hDa, hza⟩)
    | (refine store_new2 rfl 30 _ _ (by rfl) w4.heap.size w4.heap.size cc _ (by rfl) (by rfl) hBa (Nat.le_refl _) hDa (by rw [HLC.out]; rfl) HZC.out HOC.out ?_; intro w5 hB hA hO hz; have HB5 := Lib.hid (HB4.out.trans (hB.mono HB4.out.size)); have HA5 := Lib.hid hA; have hz5 : w4.heap.size < w5.heap.size := Nat.lt_of_lt_of_le hza hz; clear hB hA hO hz hBa hDa hza))
  have PA : Hid (∀ W, Kept w5 W → W.rangeAt w4.heap.size 0 cc) := Lib.hid fun W hW => (HA5.out.below hW.below hz5).at_
  have HRT : Hid (∀ W, Kept w5 W → Calls Tryd.prog 20 #[.slice (some ⟨b0, off0, none⟩) m cap] W fun e w' => e = .returned (.agg cc.toArray) ∧ Below W.heap.size W w') := Lib.hid fun W hW => HRT0.out W (HB5.out.trans (hW.below.mono HB5.out.size))
  have r1 : decide ((n3 : Int) ≤ 16) = true := by simp; omega
  have r2 : decide (n3 ≤ 16) = true := by simp; omega
  refine wp_region_held_drew (S := fun W => Kept w5 W) (by kernel_rfl) (Kept.drew (Kept.refl w5)) (fun hHeld => ?_)
  refine wpAnyH_take (i := 0) (oi := c5a0) (v := ?_) rfl (by kernel_rfl) (by kernel_rfl) (by kernel_rfl) (fun _ _ _ h => h) (Or.inl ⟨by rfl, ?_⟩) hHeld ?_
  rotate_left
  · (intro w hSw; (try dsimp only at hSw); unfold c5a0; go_simp <;> with_reducible rfl)
  try simp only [c5a0, Act.put, List.setIfInBounds_toArray, List.set_cons_zero, List.set_cons_succ]
  refine wpAnyH_take (i := 1) (oi := c5a1) (v := ?_) rfl (by kernel_rfl) (by kernel_rfl) (by kernel_rfl) (fun _ _ _ h => h) (Or.inl ⟨by rfl, ?_⟩) hHeld ?_
  rotate_left
  · (intro w hSw; (try dsimp only at hSw); unfold c5a1; go_simp <;> with_reducible rfl)
  try simp only [c5a1, Act.put, List.setIfInBounds_toArray, List.set_cons_zero, List.set_cons_succ]
  refine wpAnyH_take (i := 2) (oi := c5a2) (v := ?_) rfl (by kernel_rfl) (by kernel_rfl) (by kernel_rfl) (fun _ _ _ h => h) (Or.inl ⟨by rfl, ?_⟩) hHeld ?_
  rotate_left
  · (intro w hSw; (try dsimp only at hSw); unfold c5a2; go_simp <;> with_reducible rfl)
  try simp only [c5a2, Act.put, List.setIfInBounds_toArray, List.set_cons_zero, List.set_cons_succ]
  refine wpAnyH_take (i := 3) (oi := c5a3) (v := ?_) rfl (by kernel_rfl) (by kernel_rfl) (by kernel_rfl) (fun _ _ _ h => h) (Or.inl ⟨by rfl, ?_⟩) hHeld ?_
  rotate_left
  · (intro w hSw; (try dsimp only at hSw); unfold c5a3; go_simp <;> with_reducible rfl)
  try simp only [c5a3, Act.put, List.setIfInBounds_toArray, List.set_cons_zero, List.set_cons_succ]
  refine wpAnyH_take (i := 4) (oi := c5a4) (v := ?_) rfl (by kernel_rfl) (by kernel_rfl) (by kernel_rfl) (fun _ _ _ h => h) (Or.inl ⟨by rfl, ?_⟩) hHeld ?_
  rotate_left
  · (intro w hSw; (try dsimp only at hSw); unfold c5a4; go_simp <;> with_reducible rfl)
  try simp only [c5a4, Act.put, List.setIfInBounds_toArray, List.set_cons_zero, List.set_cons_succ]
  refine wpAnyH_take (i := 5) (oi := c5a5) (v := ?_) rfl (by kernel_rfl) (by kernel_rfl) (by kernel_rfl) (fun _ _ _ h => h) (Or.inl ⟨by rfl, ?_⟩) hHeld ?_
  rotate_left
  · (intro w hSw; (try dsimp only at hSw); unfold c5a5; go_simp <;> with_reducible rfl)
  try simp only [c5a5, Act.put, List.setIfInBounds_toArray, List.set_cons_zero, List.set_cons_succ]
  refine wpAnyH_take (i := 6) (oi := c5a6) (v := ?_) rfl (by kernel_rfl) (by kernel_rfl) (by kernel_rfl) (fun _ _ _ h => h) (Or.inl ⟨by rfl, ?_⟩) hHeld ?_
  rotate_left
  · (intro w hSw; (try dsimp only at hSw); unfold c5a6; go_simp <;> with_reducible rfl)
  try simp only [c5a6, Act.put, List.setIfInBounds_toArray, List.set_cons_zero, List.set_cons_succ]
  refine wpAnyH_take (i := 7) (oi := c5a7) rfl (by kernel_rfl) (by kernel_rfl) (by kernel_rfl) (fun _ _ _ h => h) (yieldsIf_load_mid (by rfl) 30 (.tmp 7) (by rfl) w4.heap.size 0 (by rfl) cc _ (fun w hSw => PA.out w hSw) Tryd.underlying30 rfl HZC.out) hHeld ?_
  try simp only [c5a7, Act.put, List.setIfInBounds_toArray, List.set_cons_zero, List.set_cons_succ]
  refine wpAnyH_take (i := 8) (oi := c5a8) (v := ?_) rfl (by kernel_rfl) (by kernel_rfl) (by kernel_rfl) (fun _ _ _ h => h) (Or.inl ⟨by rfl, ?_⟩) hHeld ?_
  rotate_left
  · (intro w hSw; (try dsimp only at hSw); unfold c5a8; go_simp <;> with_reducible rfl)
  try simp only [c5a8, Act.put, List.setIfInBounds_toArray, List.set_cons_zero, List.set_cons_succ]
  refine wpAnyH_ready (rs := [9]) (by kernel_rfl) (by simp) ?_
  refine AllReadyH.cons (o := c5a9) rfl (fun K hK => ?_) AllReadyH.nil
  rw [if_pos (by rfl)]
  unfold c5a9
  go_simp
  (with_reducible refine (HRT.out _ hHeld).mono ?_)
  rintro e X9 ⟨rfl, hB9⟩
  have hS9 := hHeld.next hB9
  go_wp2_with fail
  refine hK.out _ _ hS9 (fun hHeld => ?_)
  clear hK K
  try simp only [c5a9, Act.put, List.setIfInBounds_toArray, List.set_cons_zero, List.set_cons_succ]
  refine wpAnyH_take (i := 10) (oi := c5a10) (v := ?_) rfl (by kernel_rfl) (by kernel_rfl) (by kernel_rfl) (fun _ _ _ h => h) (Or.inl ⟨by rfl, ?_⟩) hHeld ?_
  rotate_left
  · (intro w hSw; have q5 := HQ.out; unfold c5a10; go_simp <;> with_reducible rfl)
  try simp only [c5a10, Act.put, List.setIfInBounds_toArray, List.set_cons_zero, List.set_cons_succ]
  refine wpAnyH_take (i := 11) (oi := c5a11) (v := ?_) rfl (by kernel_rfl) (by kernel_rfl) (by kernel_rfl) (fun _ _ _ h => h) (Or.inl ⟨by rfl, ?_⟩) hHeld ?_
  rotate_left
  · (intro w hSw; (try dsimp only at hSw); unfold c5a11; go_simp <;> with_reducible rfl)
  try simp only [c5a11, Act.put, List.setIfInBounds_toArray, List.set_cons_zero, List.set_cons_succ]
  refine wpAnyH_take (i := 12) (oi := c5a12) (v := ?_) rfl (by kernel_rfl) (by kernel_rfl) (by kernel_rfl) (fun _ _ _ h => h) (Or.inl ⟨by rfl, ?_⟩) hHeld ?_
  rotate_left
  · (intro w hSw; (try dsimp only at hSw); unfold c5a12; go_simp <;> with_reducible rfl)
  try simp only [c5a12, Act.put, List.setIfInBounds_toArray, List.set_cons_zero, List.set_cons_succ]
  refine wpAnyH_take (i := 13) (oi := c5a13) (v := ?_) rfl (by kernel_rfl) (by kernel_rfl) (by kernel_rfl) (fun _ _ _ h => h) (Or.inl ⟨by rfl, ?_⟩) hHeld ?_
  rotate_left
  · (intro w hSw; (try dsimp only at hSw); unfold c5a13; go_simp <;> with_reducible rfl)
  try simp only [c5a13, Act.put, List.setIfInBounds_toArray, List.set_cons_zero, List.set_cons_succ]
  refine wpAnyH_take (i := 14) (oi := c5a14) (v := ?_) rfl (by kernel_rfl) (by kernel_rfl) (by kernel_rfl) (fun _ _ _ h => h) (Or.inl ⟨by rfl, ?_⟩) hHeld ?_
  rotate_left
  · (intro w hSw; (try dsimp only at hSw); unfold c5a14; go_simp <;> with_reducible rfl)
  try simp only [c5a14, Act.put, List.setIfInBounds_toArray, List.set_cons_zero, List.set_cons_succ]
  refine wpAnyH_take (i := 15) (oi := c5a15) (v := ?_) rfl (by kernel_rfl) (by kernel_rfl) (by kernel_rfl) (fun _ _ _ h => h) (Or.inl ⟨by rfl, ?_⟩) hHeld ?_
  rotate_left
  · (intro w hSw; (try dsimp only at hSw); unfold c5a15; go_simp <;> with_reducible rfl)
  try simp only [c5a15, Act.put, List.setIfInBounds_toArray, List.set_cons_zero, List.set_cons_succ]
  refine wpAnyH_take (i := 16) (oi := c5a16) (v := ?_) rfl (by kernel_rfl) (by kernel_rfl) (by kernel_rfl) (fun _ _ _ h => h) (Or.inl ⟨by rfl, ?_⟩) hHeld ?_
  rotate_left
  · (intro w hSw; (try dsimp only at hSw); unfold c5a16; go_simp <;> with_reducible rfl)
  try simp only [c5a16, Act.put, List.setIfInBounds_toArray, List.set_cons_zero, List.set_cons_succ]
  refine wpAnyH_take (i := 17) (oi := c5a17) (v := ?_) rfl (by kernel_rfl) (by kernel_rfl) (by kernel_rfl) (fun _ _ _ h => h) (Or.inl ⟨by rfl, ?_⟩) hHeld ?_
  rotate_left
  · (intro w hSw; (try dsimp only at hSw); unfold c5a17; go_simp <;> with_reducible rfl)
  try simp only [c5a17, Act.put, List.setIfInBounds_toArray, List.set_cons_zero, List.set_cons_succ]
  refine wpAnyH_done (by kernel_rfl) ?_ _
  have HST := Lib.hid hHeld
  clear hHeld
  go_wp2
  go_returns
  exact ⟨rfl, HB5.out.trans (HST.out.below.mono HB5.out.size)⟩
end Go.Proofs.YtfmngeemhfpeiaaDoor
