/- The reference's Send. -/
import Derived.Test.YtjancbjjeemedaaRq
import Derived.Test.YtjancbjjeemedaaLlo
namespace Go.Proofs.Ytjancbjjeemedaa
open Go.RowKit
def q12p0 : Oper := { dst := some 20, op := Go.Op.buildSlice 22 0 #[], type := 22, pos := "ref.go:50", after := #[], guard := none }
def q12p1 : Oper := { dst := some 21, op := Go.Op.fieldAddr 25 (Go.Operand.tmp 2) 0, type := 0, pos := "ref.go:50", after := #[], guard := none }
def q12p2 : Oper := { dst := some 22, op := Go.Op.load 22 (Go.Operand.tmp 21), type := 22, pos := "ref.go:50", after := #[{ on := 1, ground := Go.Ground.data }], guard := none }
def q12p3 : Oper := { dst := some 23, op := Go.Op.call { callee := Go.Callee.builtin Go.Builtin.append, args := #[Go.Operand.tmp 20, Go.Operand.tmp 22], argTypes := #[22, 22] }, type := 22, pos := "ref.go:50", after := #[{ on := 0, ground := Go.Ground.data }, { on := 2, ground := Go.Ground.data }], guard := none }
def q12p4 : Oper := { dst := some 24, op := Go.Op.load 28 (Go.Operand.tmp 3), type := 28, pos := "ref.go:50", after := #[], guard := none }
def q12p5 : Oper := { dst := some 25, op := Go.Op.buildSlice 22 1 #[(0, Go.Operand.tmp 24)], type := 22, pos := "ref.go:50", after := #[{ on := 4, ground := Go.Ground.data }], guard := none }
def q12p6 : Oper := { dst := some 26, op := Go.Op.call { callee := Go.Callee.builtin Go.Builtin.append, args := #[Go.Operand.tmp 23, Go.Operand.tmp 25], argTypes := #[22, 22] }, type := 22, pos := "ref.go:50", after := #[{ on := 3, ground := Go.Ground.data }, { on := 5, ground := Go.Ground.data }, { on := 3, ground := Go.Ground.chain }], guard := none }
def q12p7 : Oper := { dst := some 27, op := Go.Op.fieldAddr 25 (Go.Operand.tmp 2) 0, type := 0, pos := "ref.go:50", after := #[{ on := 0, ground := Go.Ground.phase }, { on := 1, ground := Go.Ground.phase }, { on := 2, ground := Go.Ground.phase }, { on := 3, ground := Go.Ground.phase }, { on := 4, ground := Go.Ground.phase }, { on := 5, ground := Go.Ground.phase }, { on := 6, ground := Go.Ground.phase }], guard := none }
def q12p8 : Oper := { dst := none, op := Go.Op.store 22 (Go.Operand.tmp 27) (Go.Operand.tmp 26), type := 0, pos := "ref.go:50", after := #[{ on := 7, ground := Go.Ground.data }, { on := 6, ground := Go.Ground.data }, { on := 6, ground := Go.Ground.chain }, { on := 0, ground := Go.Ground.phase }, { on := 1, ground := Go.Ground.phase }, { on := 2, ground := Go.Ground.phase }, { on := 3, ground := Go.Ground.phase }, { on := 4, ground := Go.Ground.phase }, { on := 5, ground := Go.Ground.phase }, { on := 6, ground := Go.Ground.phase }], guard := none }

set_option maxRecDepth 100000 in
set_option maxHeartbeats 16000000 in
theorem rsend_any (w : World) (v : Value) (n : Nt) (h : NtAt w w.heap.size v n) (vp : Value) (p : Pk) (hp : PkAt w w.heap.size vp p) (hl : n.q.length ≤ 40) : Calls Try.prog 12 #[v, vp] w fun e w' => ∃ v', e = .returned (.tuple #[v', .int .i64 (n.send p).2]) ∧ NtAt w' w'.heap.size v' (n.send p).1 ∧ Below w.heap.size w w' := by
  have H := Lib.hid h
  obtain ⟨qa, qc, aa, ac, rfl, l1, l2, l3, l4, hq, ha⟩ := h.open
  obtain ⟨da, dc, rfl, hin, l5, l6, hd⟩ := hp.shape
  have hvp := fun W => rpk_any W p da dc
  have hck := fun W (hW : Below w.heap.size w W) => rchk_any W _ n (H.out.next hW)
  obtain ⟨O, hO⟩ : ∃ x, n.ok = x := ⟨_, rfl⟩
  obtain ⟨K, hKo⟩ : ∃ x, okPk p = x := ⟨_, rfl⟩
  have hres : n.send p = if O then (if K then (⟨n.q ++ [p], n.ap⟩, 0) else (Nt.zero, 60)) else (Nt.zero, 60) := by
    unfold Nt.send Nt.push
    rw [hO, hKo, if_neg (show ¬ n.q.length = 4096 by omega)]
  rw [hres]
  simp only [hO] at hck
  simp only [hKo] at hvp
  obtain ⟨q, ap⟩ := n
  dsimp only at hl l1 l3 hq ha hck H ⊢
  obtain ⟨N, hN⟩ : ∃ x, q.length = x := ⟨_, rfl⟩
  obtain ⟨M, hM⟩ : ∃ x, ap.length = x := ⟨_, rfl⟩
  obtain ⟨L, hL⟩ : ∃ x, p.data.length = x := ⟨_, rfl⟩
  rw [hN] at l1 hl hq ⊢
  rw [hM] at l3 ha ⊢
  rw [hL] at l5 hd ⊢
  simp only [hN, hM] at hck
  simp only [hL] at hvp
  obtain ⟨X0, hX0⟩ : ∃ X, X = w.alloc (Obj.cells #[.slice qa N qc, .slice aa M ac] 25) := ⟨_, rfl⟩
  obtain ⟨X1, hX1⟩ : ∃ X, X = X0.alloc (Obj.cells #[.int .i64 p.frm, .int .i64 p.to, .slice da L dc] 28) := ⟨_, rfl⟩
  obtain ⟨w3, hw3⟩ : ∃ X, X = X1.alloc (Obj.cells #[.slice none 0 0, .slice none 0 0] 25) := ⟨_, rfl⟩
  have hz0 : X0.heap.size = w.heap.size + 1 := by rw [hX0, World.size_alloc]
  have hz1 : X1.heap.size = w.heap.size + 1 + 1 := by rw [hX1, World.size_alloc, hz0]
  have hz3 : w3.heap.size = w.heap.size + 1 + 1 + 1 := by rw [hw3, World.size_alloc, hz1]
  have hb3 : Below w.heap.size w w3 := by rw [hw3, hX1, hX0]; go_grown
  have S0 : SlB w3 w.heap.size := by
    have h1 : SlB X0 w.heap.size := by rw [hX0]; exact SlB.new w qa aa N qc M ac 25
    rw [hw3, hX1]
    exact (h1.below ((Below.refl X0.heap.size X0).alloc (Nat.le_refl _) _) (by omega)).below ((Below.refl _ _).alloc (Nat.le_refl _) _) (by rw [World.size_alloc]; omega)
  have A0 : Arr w3 w.heap.size [.slice qa N qc, .slice aa M ac] := by
    have h1 : Arr X0 w.heap.size [.slice qa N qc, .slice aa M ac] := by rw [hX0]; exact Arr.new w #[.slice qa N qc, .slice aa M ac] 25
    rw [hw3, hX1]
    exact (h1.alloc (by omega) _).alloc (by rw [World.size_alloc]; omega) _
  have A1 : Arr w3 (w.heap.size + 1) [.int .i64 p.frm, .int .i64 p.to, .slice da L dc] := by
    have h1 : Arr X1 (w.heap.size + 1) [.int .i64 p.frm, .int .i64 p.to, .slice da L dc] := by rw [hX1, ← hz0]; exact Arr.new X0 #[.int .i64 p.frm, .int .i64 p.to, .slice da L dc] 28
    rw [hw3]
    exact h1.alloc (by omega) _
  have A2 : Arr w3 (w.heap.size + 1 + 1) [.slice none 0 0, .slice none 0 0] := by
    rw [hw3, ← hz1]; exact Arr.new X1 #[.slice none 0 0, .slice none 0 0] 25
  have S2 : SlB w3 (w.heap.size + 1 + 1) := by
    rw [hw3, ← hz1]; exact SlB.new X1 none none 0 0 0 0 25
  have HW3 : Hid (((w.alloc (Obj.cells #[.slice qa N qc, .slice aa M ac] 25)).alloc (Obj.cells #[.int .i64 p.frm, .int .i64 p.to, .slice da L dc] 28)).alloc (Obj.cells #[.slice none 0 0, .slice none 0 0] 25) = w3) := Lib.hid (by rw [hw3, hX1, hX0])
  have HCK := Lib.hid (hck w3 hb3)
  have HVP := Lib.hid hvp
  have HA0 := Lib.hid A0
  have HA1 := Lib.hid A1
  have HA2 := Lib.hid A2
  have HS0 := Lib.hid S0
  have HS2 := Lib.hid S2
  have HB3 := Lib.hid hb3
  have HIN := Lib.hid hin
  have HN := Lib.hid hN
  have HQ0 := Lib.hid hq
  have HP0 := Lib.hid hd
  have HAP0 := Lib.hid ha
  have c00 : w3.cell? ⟨w.heap.size, 0, none⟩ = some (.slice qa N qc) := A0.cell rfl
  have c01 : w3.cell? ⟨w.heap.size, 1, none⟩ = some (.slice aa M ac) := A0.cell rfl
  clear h hp hq ha hd hin hvp hck hO hKo hN hM hL hX0 hX1 hw3 hb3 A0 A1 A2 S0 S2 hres
  go_enter Try.func12, Try.ntmps12
  go_wp2_with fail
  rw [HW3.out]
  refine HCK.out.mono ?_
  rintro e w4 ⟨rfl, hb4⟩
  have hs4 := hb4.size
  clear c00 c01
  cases O with
  | false =>
    have B2 : Arr w4 (w.heap.size + 1 + 1) [.slice none 0 0, .slice none 0 0] := HA2.out.below hb4 (by omega)
    have C2 := (B2.set 0 (.slice none 0 0)).set 1 (.slice none 0 0)
    have r0 : ((w4.setCell ⟨w.heap.size + 1 + 1, 0, none⟩ (.slice none 0 0)).setCell ⟨w.heap.size + 1 + 1, 1, none⟩ (.slice none 0 0)).cell? ⟨w.heap.size + 1 + 1, 0, none⟩ = some (.slice none 0 0) := C2.cell rfl
    have r1 : ((w4.setCell ⟨w.heap.size + 1 + 1, 0, none⟩ (.slice none 0 0)).setCell ⟨w.heap.size + 1 + 1, 1, none⟩ (.slice none 0 0)).cell? ⟨w.heap.size + 1 + 1, 1, none⟩ = some (.slice none 0 0) := C2.cell rfl
    have e20 : w4.cell? ⟨w.heap.size + 1 + 1, 0, none⟩ = some (.slice none 0 0) := B2.cell rfl
    have e21 : w4.cell? ⟨w.heap.size + 1 + 1, 1, none⟩ = some (.slice none 0 0) := B2.cell rfl
    have f20 : w4.frozen? ⟨w.heap.size + 1 + 1, 0, none⟩ = false := B2.frozen (by simp)
    have f21 : w4.frozen? ⟨w.heap.size + 1 + 1, 1, none⟩ = false := B2.frozen (by simp)
    have HBF : Hid (Below w.heap.size w ((w4.setCell ⟨w.heap.size + 1 + 1, 0, none⟩ (.slice none 0 0)).setCell ⟨w.heap.size + 1 + 1, 1, none⟩ (.slice none 0 0))) := Lib.hid (((HB3.out.trans (hb4.mono HB3.out.size)).setCell (p := ⟨w.heap.size + 1 + 1, 0, none⟩) (by show w.heap.size ≤ w.heap.size + 1 + 1; omega) _).setCell (p := ⟨w.heap.size + 1 + 1, 1, none⟩) (by show w.heap.size ≤ w.heap.size + 1 + 1; omega) _)
    clear B2 C2
    go_wp2
    refine bodyPost_ret (v := .tuple #[.agg #[.slice none 0 0, .slice none 0 0], .int .i64 60]) (by simp [results, Try.results12, go_sem, r0, r1]) rfl ⟨_, rfl, zero_at _ _, HBF.out⟩
  | true =>
    have D1 : Arr w4 (w.heap.size + 1) [.int .i64 p.frm, .int .i64 p.to, .slice da L dc] := HA1.out.below hb4 (by omega)
    have c10 : w4.cell? ⟨w.heap.size + 1, 0, none⟩ = some (.int .i64 p.frm) := D1.cell rfl
    have c11 : w4.cell? ⟨w.heap.size + 1, 1, none⟩ = some (.int .i64 p.to) := D1.cell rfl
    have c12 : w4.cell? ⟨w.heap.size + 1, 2, none⟩ = some (.slice da L dc) := D1.cell rfl
    clear D1
    go_wp2_with fail
    refine (HVP.out w4).mono ?_
    rintro e X ⟨rfl, hb5⟩
    have hb35 : Below w3.heap.size w3 X := hb4.trans (hb5.mono hb4.size)
    have hs35 := hb35.size
    clear hb4 hb5 c10 c11 c12
    cases K with
    | false =>
      have B2 : Arr X (w.heap.size + 1 + 1) [.slice none 0 0, .slice none 0 0] := HA2.out.below hb35 (by omega)
      have C2 := (B2.set 0 (.slice none 0 0)).set 1 (.slice none 0 0)
      have r0 : ((X.setCell ⟨w.heap.size + 1 + 1, 0, none⟩ (.slice none 0 0)).setCell ⟨w.heap.size + 1 + 1, 1, none⟩ (.slice none 0 0)).cell? ⟨w.heap.size + 1 + 1, 0, none⟩ = some (.slice none 0 0) := C2.cell rfl
      have r1 : ((X.setCell ⟨w.heap.size + 1 + 1, 0, none⟩ (.slice none 0 0)).setCell ⟨w.heap.size + 1 + 1, 1, none⟩ (.slice none 0 0)).cell? ⟨w.heap.size + 1 + 1, 1, none⟩ = some (.slice none 0 0) := C2.cell rfl
      have e20 : X.cell? ⟨w.heap.size + 1 + 1, 0, none⟩ = some (.slice none 0 0) := B2.cell rfl
      have e21 : X.cell? ⟨w.heap.size + 1 + 1, 1, none⟩ = some (.slice none 0 0) := B2.cell rfl
      have f20 : X.frozen? ⟨w.heap.size + 1 + 1, 0, none⟩ = false := B2.frozen (by simp)
      have f21 : X.frozen? ⟨w.heap.size + 1 + 1, 1, none⟩ = false := B2.frozen (by simp)
      have HBF : Hid (Below w.heap.size w ((X.setCell ⟨w.heap.size + 1 + 1, 0, none⟩ (.slice none 0 0)).setCell ⟨w.heap.size + 1 + 1, 1, none⟩ (.slice none 0 0))) := Lib.hid (((HB3.out.trans (hb35.mono HB3.out.size)).setCell (p := ⟨w.heap.size + 1 + 1, 0, none⟩) (by show w.heap.size ≤ w.heap.size + 1 + 1; omega) _).setCell (p := ⟨w.heap.size + 1 + 1, 1, none⟩) (by show w.heap.size ≤ w.heap.size + 1 + 1; omega) _)
      clear B2 C2
      go_wp2
      refine bodyPost_ret (v := .tuple #[.agg #[.slice none 0 0, .slice none 0 0], .int .i64 60]) (by simp [results, Try.results12, go_sem, r0, r1]) rfl ⟨_, rfl, zero_at _ _, HBF.out⟩
    | true =>
      have dN : ((N : Int) == 4096) = false := by simp; omega
      have HA0 := Lib.hid (HA0.out.below hb35 (by omega))
      have HA1 := Lib.hid (HA1.out.below hb35 (by omega))
      have HA2 := Lib.hid (HA2.out.below hb35 (by omega))
      have HS0 := Lib.hid (HS0.out.below hb35 (by omega))
      have HS2 := Lib.hid (HS2.out.below hb35 (by omega))
      have HBX := Lib.hid (HB3.out.trans (hb35.mono HB3.out.size))
      have hzX : w.heap.size + 1 + 1 + 1 ≤ X.heap.size := by omega
      have HCZ := Lib.hid (show ∀ W, Kept X W → W.cell? ⟨w.heap.size, 0, none⟩ = some (.slice qa N qc) ∧ W.cell? ⟨w.heap.size, 1, none⟩ = some (.slice aa M ac) from fun W hW => ⟨(HA0.out.below hW.below (by omega)).cell rfl, (HA0.out.below hW.below (by omega)).cell rfl⟩)
      have HQ := Lib.hid (show ∀ W, Kept X W → QAt W W.heap.size (.slice qa N qc) q from fun W hW => HQ0.out.next (bthen HBX.out hW.below))
      have HAP := Lib.hid (show ∀ W, Kept X W → AAt W W.heap.size (.slice aa M ac) ap from fun W hW => HAP0.out.next (bthen HBX.out hW.below))
      have HPD := Lib.hid (show ∀ W, Kept X W → BytesAt W W.heap.size (.slice da L dc) p.data from fun W hW => HP0.out.nxt (bthen HBX.out hW.below))
      have HKS := Lib.hid (show ∀ W, Kept X W → Below w.heap.size w W ∧ W.cell? ⟨w.heap.size + 1, 0, none⟩ = some (.int .i64 p.frm) ∧ W.cell? ⟨w.heap.size + 1, 1, none⟩ = some (.int .i64 p.to) ∧ W.cell? ⟨w.heap.size + 1, 2, none⟩ = some (.slice da L dc) from fun W hW => by
        have hh := HA1.out.below hW.below (by omega)
        exact ⟨bthen HBX.out hW.below, hh.cell rfl, hh.cell rfl, hh.cell rfl⟩)
      obtain ⟨c0, c1⟩ := HCZ.out X (Kept.refl _)
      clear hb35
      go_wp2
      clear c0 c1
      have hk : Kept X X.drew := (Kept.refl _).drew
      have HSC := Lib.hid (show ∀ W, (Below w.heap.size w W ∧ W.cell? ⟨w.heap.size + 1, 0, none⟩ = some (.int .i64 p.frm) ∧ W.cell? ⟨w.heap.size + 1, 1, none⟩ = some (.int .i64 p.to) ∧ W.cell? ⟨w.heap.size + 1, 2, none⟩ = some (.slice da L dc)) → (Below w.heap.size w W ∧ W.cell? ⟨w.heap.size + 1, 0, none⟩ = some (.int .i64 p.frm) ∧ W.cell? ⟨w.heap.size + 1, 1, none⟩ = some (.int .i64 p.to) ∧ W.cell? ⟨w.heap.size + 1, 2, none⟩ = some (.slice da L dc)) from fun W h => h)
      refine wp_region_held_drew (S := fun W => Below w.heap.size w W ∧ W.cell? ⟨w.heap.size + 1, 0, none⟩ = some (.int .i64 p.frm) ∧ W.cell? ⟨w.heap.size + 1, 1, none⟩ = some (.int .i64 p.to) ∧ W.cell? ⟨w.heap.size + 1, 2, none⟩ = some (.slice da L dc)) (by kernel_rfl) (HKS.out _ hk) (fun hHeld => ?_)
      refine wpAnyH_take (i := 1) (oi := q12p1) (v := ?_) rfl (by kernel_rfl) (by kernel_rfl) (by kernel_rfl) (fun _ _ _ h => h) (Or.inl ⟨by rfl, ?_⟩) hHeld ?_
      rotate_left
      · (intro w hSw; (try dsimp only at hSw); unfold q12p1; go_simp <;> with_reducible rfl)
      try simp only [q12p1, Act.put, List.setIfInBounds_toArray, List.set_cons_zero, List.set_cons_succ]
      refine wpAnyH_take (i := 4) (oi := q12p4) (v := ?_) rfl (by kernel_rfl) (by kernel_rfl) (by kernel_rfl) (fun _ _ _ h => h) (Or.inl ⟨by rfl, ?_⟩) hHeld ?_
      rotate_left
      · (intro w hSw; obtain ⟨_, b0, b1, b2⟩ := HSC.out _ hSw; unfold q12p4; go_simp <;> with_reducible rfl)
      try simp only [q12p4, Act.put, List.setIfInBounds_toArray, List.set_cons_zero, List.set_cons_succ]
      refine wpAnyH_ready (rs := [0, 2, 5]) (by kernel_rfl) (by simp) ?_
      refine AllReadyH.cons (o := q12p0) rfl (fun K hK => ?_) (AllReadyH.cons (o := q12p2) rfl (fun K hK => ?_) (AllReadyH.cons (o := q12p5) rfl (fun K hK => ?_) AllReadyH.nil))
      · skip
        rw [if_pos (by rfl)]
        refine wp_build0 22 28 (by rfl) Try.underlying22 Try.info28 ?_
        intro g0 Wa hba _
        have hk := hk.next hba
        have hS := HKS.out _ hk
        clear hba
        refine hK.out _ _ hS (fun hHeld => ?_)
        clear hK K
        try simp only [q12p0, Act.put, List.setIfInBounds_toArray, List.set_cons_zero, List.set_cons_succ]
        refine wpAnyH_ready (rs := [2, 5]) (by kernel_rfl) (by simp) ?_
        refine AllReadyH.cons (o := q12p2) rfl (fun K hK => ?_) (AllReadyH.cons (o := q12p5) rfl (fun K hK => ?_) AllReadyH.nil)
        · skip
          rw [if_pos (by rfl)]
          unfold q12p2
          have c0 := (HCZ.out _ hk).1
          have c1 := (HCZ.out _ hk).2
          go_simp
          have hS := HKS.out _ hk
          clear c0 c1
          refine hK.out _ _ hS (fun hHeld => ?_)
          clear hK K
          try simp only [q12p2, Act.put, List.setIfInBounds_toArray, List.set_cons_zero, List.set_cons_succ]
          refine wpAnyH_ready (rs := [3, 5]) (by kernel_rfl) (by simp) ?_
          refine AllReadyH.cons (o := q12p3) rfl (fun K hK => ?_) (AllReadyH.cons (o := q12p5) rfl (fun K hK => ?_) AllReadyH.nil)
          · skip
            rw [if_pos (by rfl)]
            obtain ⟨a1, c1, Wb, hr, hR, hbb⟩ := app0 X.heap.size hk.below.size (some ⟨g0, 0, none⟩) qa qc N q (HQ.out _ hk) HN.out (by omega)
            refine wp_app_run (.tmp 20) (.tmp 22) 22 22 rfl _ _ _ Wb (by rfl) (by rfl) hr ?_
            have hk := hk.next hbb
            have hS := HKS.out _ hk
            clear hbb hr
            refine hK.out _ _ hS (fun hHeld => ?_)
            clear hK K
            try simp only [q12p3, Act.put, List.setIfInBounds_toArray, List.set_cons_zero, List.set_cons_succ]
            refine wpAnyH_ready (rs := [5]) (by kernel_rfl) (by simp) ?_
            refine AllReadyH.cons (o := q12p5) rfl (fun K hK => ?_) AllReadyH.nil
            rw [if_pos (by rfl)]
            unfold q12p5
            go_simp
            obtain ⟨Wc, hWc⟩ : ∃ Wc, Wc = Wb.alloc (.cells #[.int .i64 p.frm, .int .i64 p.to, .slice da L dc] 28) := ⟨_, rfl⟩
            have hbc : Below Wb.heap.size Wb Wc := by rw [hWc]; go_grown
            have hone : QAt Wc Wc.heap.size (.slice (some ⟨Wb.heap.size, 0, none⟩) 1 1) [p] := q_one (by rw [hWc]; exact Arr.new Wb #[.int .i64 p.frm, .int .i64 p.to, .slice da L dc] 28) (by rw [hWc]; simp) HIN.out (HPD.out _ (hk.next hbc))
            have hk := hk.next hbc
            have hR := hR.next hbc
            have hS := HKS.out _ hk
            rw [← hWc]
            clear hWc hbc
            refine hK.out _ _ hS (fun hHeld => ?_)
            clear hK K
            try simp only [q12p5, Act.put, List.setIfInBounds_toArray, List.set_cons_zero, List.set_cons_succ]
            refine wpAnyH_ready (rs := [6]) (by kernel_rfl) (by simp) ?_
            refine AllReadyH.cons (o := q12p6) rfl (fun K hK => ?_) AllReadyH.nil
            rw [if_pos (by rfl)]
            obtain ⟨a2, c2, Wd, hr, hR2, hbd⟩ := hR.app hk.below.size _ _ 1 [p] hone rfl (by omega)
            refine wp_app_run (.tmp 23) (.tmp 25) 22 22 rfl _ _ _ Wd (by rfl) (by rfl) hr ?_
            have hk : Kept X Wd := hk.below.trans hbd
            have hS := HKS.out _ hk
            clear hbd hr hR hone
            refine hK.out _ _ hS (fun hHeld => ?_)
            clear hK K
            try simp only [q12p6, Act.put, List.setIfInBounds_toArray, List.set_cons_zero, List.set_cons_succ]
            refine wpAnyH_take (i := 7) (oi := q12p7) (v := ?_) rfl (by kernel_rfl) (by kernel_rfl) (by kernel_rfl) (fun _ _ _ h => h) (Or.inl ⟨by rfl, ?_⟩) hHeld ?_
            rotate_left
            · (intro w hSw; (try dsimp only at hSw); unfold q12p7; go_simp <;> with_reducible rfl)
            try simp only [q12p7, Act.put, List.setIfInBounds_toArray, List.set_cons_zero, List.set_cons_succ]
            refine wpAnyH_ready (rs := [8]) (by kernel_rfl) (by simp) ?_
            refine AllReadyH.cons (o := q12p8) rfl (fun K hK => ?_) AllReadyH.nil
            rw [if_pos (by rfl)]
            unfold q12p8
            have hA := HA0.out.below hk.below (by omega)
            have c0 := (HCZ.out _ hk).1
            have f0 : Wd.frozen? ⟨w.heap.size, 0, none⟩ = false := hA.frozen (by simp)
            obtain ⟨WF, hWF⟩ : ∃ WF, Wd.setCell ⟨w.heap.size, 0, none⟩ (.slice a2 (N + 1) c2) = WF := ⟨_, rfl⟩
            have hSl := HS0.out.below hk.below (by omega)
            have hNt : NtAt WF WF.heap.size (.agg #[.slice a2 (N + 1) c2, .slice aa M ac]) ⟨q ++ [p], ap⟩ := by
              have : NtAt Wd Wd.heap.size (.agg #[.slice a2 (N + 1) c2, .slice aa M ac]) ⟨q ++ [p], ap⟩ := ⟨_, _, rfl, hR2.row, HAP.out _ hk⟩
              have hz : WF.heap.size = Wd.heap.size := by rw [← hWF]; simp
              rw [hz, ← hWF]; exact this.apart hSl _
            have hA4 : Arr WF w.heap.size [.slice a2 (N + 1) c2, .slice aa M ac] := by rw [← hWF]; exact hA.set 0 _
            have hB4 : Arr WF (w.heap.size + 1 + 1) [.slice none 0 0, .slice none 0 0] := by rw [← hWF]; exact (HA2.out.below hk.below (by omega)).other (by omega) 0 _
            have hS4 : SlB WF (w.heap.size + 1 + 1) := by rw [← hWF]; exact fun o v hv => (HS2.out.below hk.below (by omega)) o v ((cell_apart (by omega) _).symm.trans hv)
            have hwF : Below w.heap.size w WF := by rw [← hWF]; exact (bthen HBX.out hk.below).setCell (p := ⟨w.heap.size, 0, none⟩) (Nat.le_refl _) _
            have hS : Below w.heap.size w WF ∧ WF.cell? ⟨w.heap.size + 1, 0, none⟩ = some (.int .i64 p.frm) ∧ WF.cell? ⟨w.heap.size + 1, 1, none⟩ = some (.int .i64 p.to) ∧ WF.cell? ⟨w.heap.size + 1, 2, none⟩ = some (.slice da L dc) := by
              have hh : Arr WF (w.heap.size + 1) [.int .i64 p.frm, .int .i64 p.to, .slice da L dc] := by rw [← hWF]; exact (HA1.out.below hk.below (by omega)).other (by omega) 0 _
              exact ⟨hwF, hh.cell rfl, hh.cell rfl, hh.cell rfl⟩
            go_simp
            try rw [hWF]
            clear hA c0 f0 hWF hSl hR2 hk
            refine hK.out _ _ hS (fun hHeld => ?_)
            clear hK K
            try simp only [q12p8, Act.put]
            refine wpAnyH_done (by kernel_rfl) ?_ _
            clear hHeld hS
            have r0 : WF.cell? ⟨w.heap.size, 0, none⟩ = some (.slice a2 (N + 1) c2) := hA4.cell rfl
            have r1 : WF.cell? ⟨w.heap.size, 1, none⟩ = some (.slice aa M ac) := hA4.cell rfl
            have e20 : WF.cell? ⟨w.heap.size + 1 + 1, 0, none⟩ = some (.slice none 0 0) := hB4.cell rfl
            have e21 : WF.cell? ⟨w.heap.size + 1 + 1, 1, none⟩ = some (.slice none 0 0) := hB4.cell rfl
            have f20 : WF.frozen? ⟨w.heap.size + 1 + 1, 0, none⟩ = false := hB4.frozen (by simp)
            have f21 : WF.frozen? ⟨w.heap.size + 1 + 1, 1, none⟩ = false := hB4.frozen (by simp)
            obtain ⟨WG, hWG⟩ : ∃ WG, (WF.setCell ⟨w.heap.size + 1 + 1, 0, none⟩ (.slice a2 (N + 1) c2)).setCell ⟨w.heap.size + 1 + 1, 1, none⟩ (.slice aa M ac) = WG := ⟨_, rfl⟩
            have C2 : Arr WG (w.heap.size + 1 + 1) [.slice a2 (N + 1) c2, .slice aa M ac] := by rw [← hWG]; exact (hB4.set 0 _).set 1 _
            have s0 : WG.cell? ⟨w.heap.size + 1 + 1, 0, none⟩ = some (.slice a2 (N + 1) c2) := C2.cell rfl
            have s1 : WG.cell? ⟨w.heap.size + 1 + 1, 1, none⟩ = some (.slice aa M ac) := C2.cell rfl
            have HFF : Hid (NtAt WG WG.heap.size (.agg #[.slice a2 (N + 1) c2, .slice aa M ac]) ⟨q ++ [p], ap⟩) := Lib.hid (by
              have hz : WG.heap.size = WF.heap.size := by rw [← hWG]; simp
              rw [hz, ← hWG]
              exact (hNt.apart hS4 _).apart (hS4.set e20 _ _ _) _)
            have HBF : Hid (Below w.heap.size w WG) := Lib.hid (by rw [← hWG]; exact (hwF.setCell (p := ⟨w.heap.size + 1 + 1, 0, none⟩) (by show w.heap.size ≤ w.heap.size + 1 + 1; omega) _).setCell (p := ⟨w.heap.size + 1 + 1, 1, none⟩) (by show w.heap.size ≤ w.heap.size + 1 + 1; omega) _)
            have HWG := Lib.hid hWG
            clear hNt hA4 hB4 hS4 hwF C2 hWG
            go_wp2
            rw [HWG.out]
            refine bodyPost_ret (v := .tuple #[.agg #[.slice a2 (N + 1) c2, .slice aa M ac], .int .i64 0]) (by simp [results, Try.results12, go_sem, s0, s1]) rfl ⟨_, rfl, HFF.out, HBF.out⟩
          · skip
            rw [if_pos (by rfl)]
            unfold q12p5
            go_simp
            obtain ⟨Wc, hWc⟩ : ∃ Wc, Wc = Wa.alloc (.cells #[.int .i64 p.frm, .int .i64 p.to, .slice da L dc] 28) := ⟨_, rfl⟩
            have hbc : Below Wa.heap.size Wa Wc := by rw [hWc]; go_grown
            have hone : QAt Wc Wc.heap.size (.slice (some ⟨Wa.heap.size, 0, none⟩) 1 1) [p] := q_one (by rw [hWc]; exact Arr.new Wa #[.int .i64 p.frm, .int .i64 p.to, .slice da L dc] 28) (by rw [hWc]; simp) HIN.out (HPD.out _ (hk.next hbc))
            have hk := hk.next hbc
            have hS := HKS.out _ hk
            rw [← hWc]
            clear hWc hbc
            refine hK.out _ _ hS (fun hHeld => ?_)
            clear hK K
            try simp only [q12p5, Act.put, List.setIfInBounds_toArray, List.set_cons_zero, List.set_cons_succ]
            refine wpAnyH_ready (rs := [3]) (by kernel_rfl) (by simp) ?_
            refine AllReadyH.cons (o := q12p3) rfl (fun K hK => ?_) AllReadyH.nil
            rw [if_pos (by rfl)]
            obtain ⟨a1, c1, Wb, hr, hR, hbb⟩ := app0 X.heap.size hk.below.size (some ⟨g0, 0, none⟩) qa qc N q (HQ.out _ hk) HN.out (by omega)
            refine wp_app_run (.tmp 20) (.tmp 22) 22 22 rfl _ _ _ Wb (by rfl) (by rfl) hr ?_
            have hk := hk.next hbb
            have hS := HKS.out _ hk
            have hone := hone.next hbb
            clear hbb hr
            refine hK.out _ _ hS (fun hHeld => ?_)
            clear hK K
            try simp only [q12p3, Act.put, List.setIfInBounds_toArray, List.set_cons_zero, List.set_cons_succ]
            refine wpAnyH_ready (rs := [6]) (by kernel_rfl) (by simp) ?_
            refine AllReadyH.cons (o := q12p6) rfl (fun K hK => ?_) AllReadyH.nil
            rw [if_pos (by rfl)]
            obtain ⟨a2, c2, Wd, hr, hR2, hbd⟩ := hR.app hk.below.size _ _ 1 [p] hone rfl (by omega)
            refine wp_app_run (.tmp 23) (.tmp 25) 22 22 rfl _ _ _ Wd (by rfl) (by rfl) hr ?_
            have hk : Kept X Wd := hk.below.trans hbd
            have hS := HKS.out _ hk
            clear hbd hr hR hone
            refine hK.out _ _ hS (fun hHeld => ?_)
            clear hK K
            try simp only [q12p6, Act.put, List.setIfInBounds_toArray, List.set_cons_zero, List.set_cons_succ]
            refine wpAnyH_take (i := 7) (oi := q12p7) (v := ?_) rfl (by kernel_rfl) (by kernel_rfl) (by kernel_rfl) (fun _ _ _ h => h) (Or.inl ⟨by rfl, ?_⟩) hHeld ?_
            rotate_left
            · (intro w hSw; (try dsimp only at hSw); unfold q12p7; go_simp <;> with_reducible rfl)
            try simp only [q12p7, Act.put, List.setIfInBounds_toArray, List.set_cons_zero, List.set_cons_succ]
            refine wpAnyH_ready (rs := [8]) (by kernel_rfl) (by simp) ?_
            refine AllReadyH.cons (o := q12p8) rfl (fun K hK => ?_) AllReadyH.nil
            rw [if_pos (by rfl)]
            unfold q12p8
            have hA := HA0.out.below hk.below (by omega)
            have c0 := (HCZ.out _ hk).1
            have f0 : Wd.frozen? ⟨w.heap.size, 0, none⟩ = false := hA.frozen (by simp)
            obtain ⟨WF, hWF⟩ : ∃ WF, Wd.setCell ⟨w.heap.size, 0, none⟩ (.slice a2 (N + 1) c2) = WF := ⟨_, rfl⟩
            have hSl := HS0.out.below hk.below (by omega)
            have hNt : NtAt WF WF.heap.size (.agg #[.slice a2 (N + 1) c2, .slice aa M ac]) ⟨q ++ [p], ap⟩ := by
              have : NtAt Wd Wd.heap.size (.agg #[.slice a2 (N + 1) c2, .slice aa M ac]) ⟨q ++ [p], ap⟩ := ⟨_, _, rfl, hR2.row, HAP.out _ hk⟩
              have hz : WF.heap.size = Wd.heap.size := by rw [← hWF]; simp
              rw [hz, ← hWF]; exact this.apart hSl _
            have hA4 : Arr WF w.heap.size [.slice a2 (N + 1) c2, .slice aa M ac] := by rw [← hWF]; exact hA.set 0 _
            have hB4 : Arr WF (w.heap.size + 1 + 1) [.slice none 0 0, .slice none 0 0] := by rw [← hWF]; exact (HA2.out.below hk.below (by omega)).other (by omega) 0 _
            have hS4 : SlB WF (w.heap.size + 1 + 1) := by rw [← hWF]; exact fun o v hv => (HS2.out.below hk.below (by omega)) o v ((cell_apart (by omega) _).symm.trans hv)
            have hwF : Below w.heap.size w WF := by rw [← hWF]; exact (bthen HBX.out hk.below).setCell (p := ⟨w.heap.size, 0, none⟩) (Nat.le_refl _) _
            have hS : Below w.heap.size w WF ∧ WF.cell? ⟨w.heap.size + 1, 0, none⟩ = some (.int .i64 p.frm) ∧ WF.cell? ⟨w.heap.size + 1, 1, none⟩ = some (.int .i64 p.to) ∧ WF.cell? ⟨w.heap.size + 1, 2, none⟩ = some (.slice da L dc) := by
              have hh : Arr WF (w.heap.size + 1) [.int .i64 p.frm, .int .i64 p.to, .slice da L dc] := by rw [← hWF]; exact (HA1.out.below hk.below (by omega)).other (by omega) 0 _
              exact ⟨hwF, hh.cell rfl, hh.cell rfl, hh.cell rfl⟩
            go_simp
            try rw [hWF]
            clear hA c0 f0 hWF hSl hR2 hk
            refine hK.out _ _ hS (fun hHeld => ?_)
            clear hK K
            try simp only [q12p8, Act.put]
            refine wpAnyH_done (by kernel_rfl) ?_ _
            clear hHeld hS
            have r0 : WF.cell? ⟨w.heap.size, 0, none⟩ = some (.slice a2 (N + 1) c2) := hA4.cell rfl
            have r1 : WF.cell? ⟨w.heap.size, 1, none⟩ = some (.slice aa M ac) := hA4.cell rfl
            have e20 : WF.cell? ⟨w.heap.size + 1 + 1, 0, none⟩ = some (.slice none 0 0) := hB4.cell rfl
            have e21 : WF.cell? ⟨w.heap.size + 1 + 1, 1, none⟩ = some (.slice none 0 0) := hB4.cell rfl
            have f20 : WF.frozen? ⟨w.heap.size + 1 + 1, 0, none⟩ = false := hB4.frozen (by simp)
            have f21 : WF.frozen? ⟨w.heap.size + 1 + 1, 1, none⟩ = false := hB4.frozen (by simp)
            obtain ⟨WG, hWG⟩ : ∃ WG, (WF.setCell ⟨w.heap.size + 1 + 1, 0, none⟩ (.slice a2 (N + 1) c2)).setCell ⟨w.heap.size + 1 + 1, 1, none⟩ (.slice aa M ac) = WG := ⟨_, rfl⟩
            have C2 : Arr WG (w.heap.size + 1 + 1) [.slice a2 (N + 1) c2, .slice aa M ac] := by rw [← hWG]; exact (hB4.set 0 _).set 1 _
            have s0 : WG.cell? ⟨w.heap.size + 1 + 1, 0, none⟩ = some (.slice a2 (N + 1) c2) := C2.cell rfl
            have s1 : WG.cell? ⟨w.heap.size + 1 + 1, 1, none⟩ = some (.slice aa M ac) := C2.cell rfl
            have HFF : Hid (NtAt WG WG.heap.size (.agg #[.slice a2 (N + 1) c2, .slice aa M ac]) ⟨q ++ [p], ap⟩) := Lib.hid (by
              have hz : WG.heap.size = WF.heap.size := by rw [← hWG]; simp
              rw [hz, ← hWG]
              exact (hNt.apart hS4 _).apart (hS4.set e20 _ _ _) _)
            have HBF : Hid (Below w.heap.size w WG) := Lib.hid (by rw [← hWG]; exact (hwF.setCell (p := ⟨w.heap.size + 1 + 1, 0, none⟩) (by show w.heap.size ≤ w.heap.size + 1 + 1; omega) _).setCell (p := ⟨w.heap.size + 1 + 1, 1, none⟩) (by show w.heap.size ≤ w.heap.size + 1 + 1; omega) _)
            have HWG := Lib.hid hWG
            clear hNt hA4 hB4 hS4 hwF C2 hWG
            go_wp2
            rw [HWG.out]
            refine bodyPost_ret (v := .tuple #[.agg #[.slice a2 (N + 1) c2, .slice aa M ac], .int .i64 0]) (by simp [results, Try.results12, go_sem, s0, s1]) rfl ⟨_, rfl, HFF.out, HBF.out⟩
        · skip
          rw [if_pos (by rfl)]
          unfold q12p5
          go_simp
          obtain ⟨Wc, hWc⟩ : ∃ Wc, Wc = Wa.alloc (.cells #[.int .i64 p.frm, .int .i64 p.to, .slice da L dc] 28) := ⟨_, rfl⟩
          have hbc : Below Wa.heap.size Wa Wc := by rw [hWc]; go_grown
          have hone : QAt Wc Wc.heap.size (.slice (some ⟨Wa.heap.size, 0, none⟩) 1 1) [p] := q_one (by rw [hWc]; exact Arr.new Wa #[.int .i64 p.frm, .int .i64 p.to, .slice da L dc] 28) (by rw [hWc]; simp) HIN.out (HPD.out _ (hk.next hbc))
          have hk := hk.next hbc
          have hS := HKS.out _ hk
          rw [← hWc]
          clear hWc hbc
          refine hK.out _ _ hS (fun hHeld => ?_)
          clear hK K
          try simp only [q12p5, Act.put, List.setIfInBounds_toArray, List.set_cons_zero, List.set_cons_succ]
          refine wpAnyH_ready (rs := [2]) (by kernel_rfl) (by simp) ?_
          refine AllReadyH.cons (o := q12p2) rfl (fun K hK => ?_) AllReadyH.nil
          rw [if_pos (by rfl)]
          unfold q12p2
          have c0 := (HCZ.out _ hk).1
          have c1 := (HCZ.out _ hk).2
          go_simp
          have hS := HKS.out _ hk
          clear c0 c1
          refine hK.out _ _ hS (fun hHeld => ?_)
          clear hK K
          try simp only [q12p2, Act.put, List.setIfInBounds_toArray, List.set_cons_zero, List.set_cons_succ]
          refine wpAnyH_ready (rs := [3]) (by kernel_rfl) (by simp) ?_
          refine AllReadyH.cons (o := q12p3) rfl (fun K hK => ?_) AllReadyH.nil
          rw [if_pos (by rfl)]
          obtain ⟨a1, c1, Wb, hr, hR, hbb⟩ := app0 X.heap.size hk.below.size (some ⟨g0, 0, none⟩) qa qc N q (HQ.out _ hk) HN.out (by omega)
          refine wp_app_run (.tmp 20) (.tmp 22) 22 22 rfl _ _ _ Wb (by rfl) (by rfl) hr ?_
          have hk := hk.next hbb
          have hS := HKS.out _ hk
          have hone := hone.next hbb
          clear hbb hr
          refine hK.out _ _ hS (fun hHeld => ?_)
          clear hK K
          try simp only [q12p3, Act.put, List.setIfInBounds_toArray, List.set_cons_zero, List.set_cons_succ]
          refine wpAnyH_ready (rs := [6]) (by kernel_rfl) (by simp) ?_
          refine AllReadyH.cons (o := q12p6) rfl (fun K hK => ?_) AllReadyH.nil
          rw [if_pos (by rfl)]
          obtain ⟨a2, c2, Wd, hr, hR2, hbd⟩ := hR.app hk.below.size _ _ 1 [p] hone rfl (by omega)
          refine wp_app_run (.tmp 23) (.tmp 25) 22 22 rfl _ _ _ Wd (by rfl) (by rfl) hr ?_
          have hk : Kept X Wd := hk.below.trans hbd
          have hS := HKS.out _ hk
          clear hbd hr hR hone
          refine hK.out _ _ hS (fun hHeld => ?_)
          clear hK K
          try simp only [q12p6, Act.put, List.setIfInBounds_toArray, List.set_cons_zero, List.set_cons_succ]
          refine wpAnyH_take (i := 7) (oi := q12p7) (v := ?_) rfl (by kernel_rfl) (by kernel_rfl) (by kernel_rfl) (fun _ _ _ h => h) (Or.inl ⟨by rfl, ?_⟩) hHeld ?_
          rotate_left
          · (intro w hSw; (try dsimp only at hSw); unfold q12p7; go_simp <;> with_reducible rfl)
          try simp only [q12p7, Act.put, List.setIfInBounds_toArray, List.set_cons_zero, List.set_cons_succ]
          refine wpAnyH_ready (rs := [8]) (by kernel_rfl) (by simp) ?_
          refine AllReadyH.cons (o := q12p8) rfl (fun K hK => ?_) AllReadyH.nil
          rw [if_pos (by rfl)]
          unfold q12p8
          have hA := HA0.out.below hk.below (by omega)
          have c0 := (HCZ.out _ hk).1
          have f0 : Wd.frozen? ⟨w.heap.size, 0, none⟩ = false := hA.frozen (by simp)
          obtain ⟨WF, hWF⟩ : ∃ WF, Wd.setCell ⟨w.heap.size, 0, none⟩ (.slice a2 (N + 1) c2) = WF := ⟨_, rfl⟩
          have hSl := HS0.out.below hk.below (by omega)
          have hNt : NtAt WF WF.heap.size (.agg #[.slice a2 (N + 1) c2, .slice aa M ac]) ⟨q ++ [p], ap⟩ := by
            have : NtAt Wd Wd.heap.size (.agg #[.slice a2 (N + 1) c2, .slice aa M ac]) ⟨q ++ [p], ap⟩ := ⟨_, _, rfl, hR2.row, HAP.out _ hk⟩
            have hz : WF.heap.size = Wd.heap.size := by rw [← hWF]; simp
            rw [hz, ← hWF]; exact this.apart hSl _
          have hA4 : Arr WF w.heap.size [.slice a2 (N + 1) c2, .slice aa M ac] := by rw [← hWF]; exact hA.set 0 _
          have hB4 : Arr WF (w.heap.size + 1 + 1) [.slice none 0 0, .slice none 0 0] := by rw [← hWF]; exact (HA2.out.below hk.below (by omega)).other (by omega) 0 _
          have hS4 : SlB WF (w.heap.size + 1 + 1) := by rw [← hWF]; exact fun o v hv => (HS2.out.below hk.below (by omega)) o v ((cell_apart (by omega) _).symm.trans hv)
          have hwF : Below w.heap.size w WF := by rw [← hWF]; exact (bthen HBX.out hk.below).setCell (p := ⟨w.heap.size, 0, none⟩) (Nat.le_refl _) _
          have hS : Below w.heap.size w WF ∧ WF.cell? ⟨w.heap.size + 1, 0, none⟩ = some (.int .i64 p.frm) ∧ WF.cell? ⟨w.heap.size + 1, 1, none⟩ = some (.int .i64 p.to) ∧ WF.cell? ⟨w.heap.size + 1, 2, none⟩ = some (.slice da L dc) := by
            have hh : Arr WF (w.heap.size + 1) [.int .i64 p.frm, .int .i64 p.to, .slice da L dc] := by rw [← hWF]; exact (HA1.out.below hk.below (by omega)).other (by omega) 0 _
            exact ⟨hwF, hh.cell rfl, hh.cell rfl, hh.cell rfl⟩
          go_simp
          try rw [hWF]
          clear hA c0 f0 hWF hSl hR2 hk
          refine hK.out _ _ hS (fun hHeld => ?_)
          clear hK K
          try simp only [q12p8, Act.put]
          refine wpAnyH_done (by kernel_rfl) ?_ _
          clear hHeld hS
          have r0 : WF.cell? ⟨w.heap.size, 0, none⟩ = some (.slice a2 (N + 1) c2) := hA4.cell rfl
          have r1 : WF.cell? ⟨w.heap.size, 1, none⟩ = some (.slice aa M ac) := hA4.cell rfl
          have e20 : WF.cell? ⟨w.heap.size + 1 + 1, 0, none⟩ = some (.slice none 0 0) := hB4.cell rfl
          have e21 : WF.cell? ⟨w.heap.size + 1 + 1, 1, none⟩ = some (.slice none 0 0) := hB4.cell rfl
          have f20 : WF.frozen? ⟨w.heap.size + 1 + 1, 0, none⟩ = false := hB4.frozen (by simp)
          have f21 : WF.frozen? ⟨w.heap.size + 1 + 1, 1, none⟩ = false := hB4.frozen (by simp)
          obtain ⟨WG, hWG⟩ : ∃ WG, (WF.setCell ⟨w.heap.size + 1 + 1, 0, none⟩ (.slice a2 (N + 1) c2)).setCell ⟨w.heap.size + 1 + 1, 1, none⟩ (.slice aa M ac) = WG := ⟨_, rfl⟩
          have C2 : Arr WG (w.heap.size + 1 + 1) [.slice a2 (N + 1) c2, .slice aa M ac] := by rw [← hWG]; exact (hB4.set 0 _).set 1 _
          have s0 : WG.cell? ⟨w.heap.size + 1 + 1, 0, none⟩ = some (.slice a2 (N + 1) c2) := C2.cell rfl
          have s1 : WG.cell? ⟨w.heap.size + 1 + 1, 1, none⟩ = some (.slice aa M ac) := C2.cell rfl
          have HFF : Hid (NtAt WG WG.heap.size (.agg #[.slice a2 (N + 1) c2, .slice aa M ac]) ⟨q ++ [p], ap⟩) := Lib.hid (by
            have hz : WG.heap.size = WF.heap.size := by rw [← hWG]; simp
            rw [hz, ← hWG]
            exact (hNt.apart hS4 _).apart (hS4.set e20 _ _ _) _)
          have HBF : Hid (Below w.heap.size w WG) := Lib.hid (by rw [← hWG]; exact (hwF.setCell (p := ⟨w.heap.size + 1 + 1, 0, none⟩) (by show w.heap.size ≤ w.heap.size + 1 + 1; omega) _).setCell (p := ⟨w.heap.size + 1 + 1, 1, none⟩) (by show w.heap.size ≤ w.heap.size + 1 + 1; omega) _)
          have HWG := Lib.hid hWG
          clear hNt hA4 hB4 hS4 hwF C2 hWG
          go_wp2
          rw [HWG.out]
          refine bodyPost_ret (v := .tuple #[.agg #[.slice a2 (N + 1) c2, .slice aa M ac], .int .i64 0]) (by simp [results, Try.results12, go_sem, s0, s1]) rfl ⟨_, rfl, HFF.out, HBF.out⟩
      · skip
        rw [if_pos (by rfl)]
        unfold q12p2
        have c0 := (HCZ.out _ hk).1
        have c1 := (HCZ.out _ hk).2
        go_simp
        have hS := HKS.out _ hk
        clear c0 c1
        refine hK.out _ _ hS (fun hHeld => ?_)
        clear hK K
        try simp only [q12p2, Act.put, List.setIfInBounds_toArray, List.set_cons_zero, List.set_cons_succ]
        refine wpAnyH_ready (rs := [0, 5]) (by kernel_rfl) (by simp) ?_
        refine AllReadyH.cons (o := q12p0) rfl (fun K hK => ?_) (AllReadyH.cons (o := q12p5) rfl (fun K hK => ?_) AllReadyH.nil)
        · skip
          rw [if_pos (by rfl)]
          refine wp_build0 22 28 (by rfl) Try.underlying22 Try.info28 ?_
          intro g0 Wa hba _
          have hk := hk.next hba
          have hS := HKS.out _ hk
          clear hba
          refine hK.out _ _ hS (fun hHeld => ?_)
          clear hK K
          try simp only [q12p0, Act.put, List.setIfInBounds_toArray, List.set_cons_zero, List.set_cons_succ]
          refine wpAnyH_ready (rs := [3, 5]) (by kernel_rfl) (by simp) ?_
          refine AllReadyH.cons (o := q12p3) rfl (fun K hK => ?_) (AllReadyH.cons (o := q12p5) rfl (fun K hK => ?_) AllReadyH.nil)
          · skip
            rw [if_pos (by rfl)]
            obtain ⟨a1, c1, Wb, hr, hR, hbb⟩ := app0 X.heap.size hk.below.size (some ⟨g0, 0, none⟩) qa qc N q (HQ.out _ hk) HN.out (by omega)
            refine wp_app_run (.tmp 20) (.tmp 22) 22 22 rfl _ _ _ Wb (by rfl) (by rfl) hr ?_
            have hk := hk.next hbb
            have hS := HKS.out _ hk
            clear hbb hr
            refine hK.out _ _ hS (fun hHeld => ?_)
            clear hK K
            try simp only [q12p3, Act.put, List.setIfInBounds_toArray, List.set_cons_zero, List.set_cons_succ]
            refine wpAnyH_ready (rs := [5]) (by kernel_rfl) (by simp) ?_
            refine AllReadyH.cons (o := q12p5) rfl (fun K hK => ?_) AllReadyH.nil
            rw [if_pos (by rfl)]
            unfold q12p5
            go_simp
            obtain ⟨Wc, hWc⟩ : ∃ Wc, Wc = Wb.alloc (.cells #[.int .i64 p.frm, .int .i64 p.to, .slice da L dc] 28) := ⟨_, rfl⟩
            have hbc : Below Wb.heap.size Wb Wc := by rw [hWc]; go_grown
            have hone : QAt Wc Wc.heap.size (.slice (some ⟨Wb.heap.size, 0, none⟩) 1 1) [p] := q_one (by rw [hWc]; exact Arr.new Wb #[.int .i64 p.frm, .int .i64 p.to, .slice da L dc] 28) (by rw [hWc]; simp) HIN.out (HPD.out _ (hk.next hbc))
            have hk := hk.next hbc
            have hR := hR.next hbc
            have hS := HKS.out _ hk
            rw [← hWc]
            clear hWc hbc
            refine hK.out _ _ hS (fun hHeld => ?_)
            clear hK K
            try simp only [q12p5, Act.put, List.setIfInBounds_toArray, List.set_cons_zero, List.set_cons_succ]
            refine wpAnyH_ready (rs := [6]) (by kernel_rfl) (by simp) ?_
            refine AllReadyH.cons (o := q12p6) rfl (fun K hK => ?_) AllReadyH.nil
            rw [if_pos (by rfl)]
            obtain ⟨a2, c2, Wd, hr, hR2, hbd⟩ := hR.app hk.below.size _ _ 1 [p] hone rfl (by omega)
            refine wp_app_run (.tmp 23) (.tmp 25) 22 22 rfl _ _ _ Wd (by rfl) (by rfl) hr ?_
            have hk : Kept X Wd := hk.below.trans hbd
            have hS := HKS.out _ hk
            clear hbd hr hR hone
            refine hK.out _ _ hS (fun hHeld => ?_)
            clear hK K
            try simp only [q12p6, Act.put, List.setIfInBounds_toArray, List.set_cons_zero, List.set_cons_succ]
            refine wpAnyH_take (i := 7) (oi := q12p7) (v := ?_) rfl (by kernel_rfl) (by kernel_rfl) (by kernel_rfl) (fun _ _ _ h => h) (Or.inl ⟨by rfl, ?_⟩) hHeld ?_
            rotate_left
            · (intro w hSw; (try dsimp only at hSw); unfold q12p7; go_simp <;> with_reducible rfl)
            try simp only [q12p7, Act.put, List.setIfInBounds_toArray, List.set_cons_zero, List.set_cons_succ]
            refine wpAnyH_ready (rs := [8]) (by kernel_rfl) (by simp) ?_
            refine AllReadyH.cons (o := q12p8) rfl (fun K hK => ?_) AllReadyH.nil
            rw [if_pos (by rfl)]
            unfold q12p8
            have hA := HA0.out.below hk.below (by omega)
            have c0 := (HCZ.out _ hk).1
            have f0 : Wd.frozen? ⟨w.heap.size, 0, none⟩ = false := hA.frozen (by simp)
            obtain ⟨WF, hWF⟩ : ∃ WF, Wd.setCell ⟨w.heap.size, 0, none⟩ (.slice a2 (N + 1) c2) = WF := ⟨_, rfl⟩
            have hSl := HS0.out.below hk.below (by omega)
            have hNt : NtAt WF WF.heap.size (.agg #[.slice a2 (N + 1) c2, .slice aa M ac]) ⟨q ++ [p], ap⟩ := by
              have : NtAt Wd Wd.heap.size (.agg #[.slice a2 (N + 1) c2, .slice aa M ac]) ⟨q ++ [p], ap⟩ := ⟨_, _, rfl, hR2.row, HAP.out _ hk⟩
              have hz : WF.heap.size = Wd.heap.size := by rw [← hWF]; simp
              rw [hz, ← hWF]; exact this.apart hSl _
            have hA4 : Arr WF w.heap.size [.slice a2 (N + 1) c2, .slice aa M ac] := by rw [← hWF]; exact hA.set 0 _
            have hB4 : Arr WF (w.heap.size + 1 + 1) [.slice none 0 0, .slice none 0 0] := by rw [← hWF]; exact (HA2.out.below hk.below (by omega)).other (by omega) 0 _
            have hS4 : SlB WF (w.heap.size + 1 + 1) := by rw [← hWF]; exact fun o v hv => (HS2.out.below hk.below (by omega)) o v ((cell_apart (by omega) _).symm.trans hv)
            have hwF : Below w.heap.size w WF := by rw [← hWF]; exact (bthen HBX.out hk.below).setCell (p := ⟨w.heap.size, 0, none⟩) (Nat.le_refl _) _
            have hS : Below w.heap.size w WF ∧ WF.cell? ⟨w.heap.size + 1, 0, none⟩ = some (.int .i64 p.frm) ∧ WF.cell? ⟨w.heap.size + 1, 1, none⟩ = some (.int .i64 p.to) ∧ WF.cell? ⟨w.heap.size + 1, 2, none⟩ = some (.slice da L dc) := by
              have hh : Arr WF (w.heap.size + 1) [.int .i64 p.frm, .int .i64 p.to, .slice da L dc] := by rw [← hWF]; exact (HA1.out.below hk.below (by omega)).other (by omega) 0 _
              exact ⟨hwF, hh.cell rfl, hh.cell rfl, hh.cell rfl⟩
            go_simp
            try rw [hWF]
            clear hA c0 f0 hWF hSl hR2 hk
            refine hK.out _ _ hS (fun hHeld => ?_)
            clear hK K
            try simp only [q12p8, Act.put]
            refine wpAnyH_done (by kernel_rfl) ?_ _
            clear hHeld hS
            have r0 : WF.cell? ⟨w.heap.size, 0, none⟩ = some (.slice a2 (N + 1) c2) := hA4.cell rfl
            have r1 : WF.cell? ⟨w.heap.size, 1, none⟩ = some (.slice aa M ac) := hA4.cell rfl
            have e20 : WF.cell? ⟨w.heap.size + 1 + 1, 0, none⟩ = some (.slice none 0 0) := hB4.cell rfl
            have e21 : WF.cell? ⟨w.heap.size + 1 + 1, 1, none⟩ = some (.slice none 0 0) := hB4.cell rfl
            have f20 : WF.frozen? ⟨w.heap.size + 1 + 1, 0, none⟩ = false := hB4.frozen (by simp)
            have f21 : WF.frozen? ⟨w.heap.size + 1 + 1, 1, none⟩ = false := hB4.frozen (by simp)
            obtain ⟨WG, hWG⟩ : ∃ WG, (WF.setCell ⟨w.heap.size + 1 + 1, 0, none⟩ (.slice a2 (N + 1) c2)).setCell ⟨w.heap.size + 1 + 1, 1, none⟩ (.slice aa M ac) = WG := ⟨_, rfl⟩
            have C2 : Arr WG (w.heap.size + 1 + 1) [.slice a2 (N + 1) c2, .slice aa M ac] := by rw [← hWG]; exact (hB4.set 0 _).set 1 _
            have s0 : WG.cell? ⟨w.heap.size + 1 + 1, 0, none⟩ = some (.slice a2 (N + 1) c2) := C2.cell rfl
            have s1 : WG.cell? ⟨w.heap.size + 1 + 1, 1, none⟩ = some (.slice aa M ac) := C2.cell rfl
            have HFF : Hid (NtAt WG WG.heap.size (.agg #[.slice a2 (N + 1) c2, .slice aa M ac]) ⟨q ++ [p], ap⟩) := Lib.hid (by
              have hz : WG.heap.size = WF.heap.size := by rw [← hWG]; simp
              rw [hz, ← hWG]
              exact (hNt.apart hS4 _).apart (hS4.set e20 _ _ _) _)
            have HBF : Hid (Below w.heap.size w WG) := Lib.hid (by rw [← hWG]; exact (hwF.setCell (p := ⟨w.heap.size + 1 + 1, 0, none⟩) (by show w.heap.size ≤ w.heap.size + 1 + 1; omega) _).setCell (p := ⟨w.heap.size + 1 + 1, 1, none⟩) (by show w.heap.size ≤ w.heap.size + 1 + 1; omega) _)
            have HWG := Lib.hid hWG
            clear hNt hA4 hB4 hS4 hwF C2 hWG
            go_wp2
            rw [HWG.out]
            refine bodyPost_ret (v := .tuple #[.agg #[.slice a2 (N + 1) c2, .slice aa M ac], .int .i64 0]) (by simp [results, Try.results12, go_sem, s0, s1]) rfl ⟨_, rfl, HFF.out, HBF.out⟩
          · skip
            rw [if_pos (by rfl)]
            unfold q12p5
            go_simp
            obtain ⟨Wc, hWc⟩ : ∃ Wc, Wc = Wa.alloc (.cells #[.int .i64 p.frm, .int .i64 p.to, .slice da L dc] 28) := ⟨_, rfl⟩
            have hbc : Below Wa.heap.size Wa Wc := by rw [hWc]; go_grown
            have hone : QAt Wc Wc.heap.size (.slice (some ⟨Wa.heap.size, 0, none⟩) 1 1) [p] := q_one (by rw [hWc]; exact Arr.new Wa #[.int .i64 p.frm, .int .i64 p.to, .slice da L dc] 28) (by rw [hWc]; simp) HIN.out (HPD.out _ (hk.next hbc))
            have hk := hk.next hbc
            have hS := HKS.out _ hk
            rw [← hWc]
            clear hWc hbc
            refine hK.out _ _ hS (fun hHeld => ?_)
            clear hK K
            try simp only [q12p5, Act.put, List.setIfInBounds_toArray, List.set_cons_zero, List.set_cons_succ]
            refine wpAnyH_ready (rs := [3]) (by kernel_rfl) (by simp) ?_
            refine AllReadyH.cons (o := q12p3) rfl (fun K hK => ?_) AllReadyH.nil
            rw [if_pos (by rfl)]
            obtain ⟨a1, c1, Wb, hr, hR, hbb⟩ := app0 X.heap.size hk.below.size (some ⟨g0, 0, none⟩) qa qc N q (HQ.out _ hk) HN.out (by omega)
            refine wp_app_run (.tmp 20) (.tmp 22) 22 22 rfl _ _ _ Wb (by rfl) (by rfl) hr ?_
            have hk := hk.next hbb
            have hS := HKS.out _ hk
            have hone := hone.next hbb
            clear hbb hr
            refine hK.out _ _ hS (fun hHeld => ?_)
            clear hK K
            try simp only [q12p3, Act.put, List.setIfInBounds_toArray, List.set_cons_zero, List.set_cons_succ]
            refine wpAnyH_ready (rs := [6]) (by kernel_rfl) (by simp) ?_
            refine AllReadyH.cons (o := q12p6) rfl (fun K hK => ?_) AllReadyH.nil
            rw [if_pos (by rfl)]
            obtain ⟨a2, c2, Wd, hr, hR2, hbd⟩ := hR.app hk.below.size _ _ 1 [p] hone rfl (by omega)
            refine wp_app_run (.tmp 23) (.tmp 25) 22 22 rfl _ _ _ Wd (by rfl) (by rfl) hr ?_
            have hk : Kept X Wd := hk.below.trans hbd
            have hS := HKS.out _ hk
            clear hbd hr hR hone
            refine hK.out _ _ hS (fun hHeld => ?_)
            clear hK K
            try simp only [q12p6, Act.put, List.setIfInBounds_toArray, List.set_cons_zero, List.set_cons_succ]
            refine wpAnyH_take (i := 7) (oi := q12p7) (v := ?_) rfl (by kernel_rfl) (by kernel_rfl) (by kernel_rfl) (fun _ _ _ h => h) (Or.inl ⟨by rfl, ?_⟩) hHeld ?_
            rotate_left
            · (intro w hSw; (try dsimp only at hSw); unfold q12p7; go_simp <;> with_reducible rfl)
            try simp only [q12p7, Act.put, List.setIfInBounds_toArray, List.set_cons_zero, List.set_cons_succ]
            refine wpAnyH_ready (rs := [8]) (by kernel_rfl) (by simp) ?_
            refine AllReadyH.cons (o := q12p8) rfl (fun K hK => ?_) AllReadyH.nil
            rw [if_pos (by rfl)]
            unfold q12p8
            have hA := HA0.out.below hk.below (by omega)
            have c0 := (HCZ.out _ hk).1
            have f0 : Wd.frozen? ⟨w.heap.size, 0, none⟩ = false := hA.frozen (by simp)
            obtain ⟨WF, hWF⟩ : ∃ WF, Wd.setCell ⟨w.heap.size, 0, none⟩ (.slice a2 (N + 1) c2) = WF := ⟨_, rfl⟩
            have hSl := HS0.out.below hk.below (by omega)
            have hNt : NtAt WF WF.heap.size (.agg #[.slice a2 (N + 1) c2, .slice aa M ac]) ⟨q ++ [p], ap⟩ := by
              have : NtAt Wd Wd.heap.size (.agg #[.slice a2 (N + 1) c2, .slice aa M ac]) ⟨q ++ [p], ap⟩ := ⟨_, _, rfl, hR2.row, HAP.out _ hk⟩
              have hz : WF.heap.size = Wd.heap.size := by rw [← hWF]; simp
              rw [hz, ← hWF]; exact this.apart hSl _
            have hA4 : Arr WF w.heap.size [.slice a2 (N + 1) c2, .slice aa M ac] := by rw [← hWF]; exact hA.set 0 _
            have hB4 : Arr WF (w.heap.size + 1 + 1) [.slice none 0 0, .slice none 0 0] := by rw [← hWF]; exact (HA2.out.below hk.below (by omega)).other (by omega) 0 _
            have hS4 : SlB WF (w.heap.size + 1 + 1) := by rw [← hWF]; exact fun o v hv => (HS2.out.below hk.below (by omega)) o v ((cell_apart (by omega) _).symm.trans hv)
            have hwF : Below w.heap.size w WF := by rw [← hWF]; exact (bthen HBX.out hk.below).setCell (p := ⟨w.heap.size, 0, none⟩) (Nat.le_refl _) _
            have hS : Below w.heap.size w WF ∧ WF.cell? ⟨w.heap.size + 1, 0, none⟩ = some (.int .i64 p.frm) ∧ WF.cell? ⟨w.heap.size + 1, 1, none⟩ = some (.int .i64 p.to) ∧ WF.cell? ⟨w.heap.size + 1, 2, none⟩ = some (.slice da L dc) := by
              have hh : Arr WF (w.heap.size + 1) [.int .i64 p.frm, .int .i64 p.to, .slice da L dc] := by rw [← hWF]; exact (HA1.out.below hk.below (by omega)).other (by omega) 0 _
              exact ⟨hwF, hh.cell rfl, hh.cell rfl, hh.cell rfl⟩
            go_simp
            try rw [hWF]
            clear hA c0 f0 hWF hSl hR2 hk
            refine hK.out _ _ hS (fun hHeld => ?_)
            clear hK K
            try simp only [q12p8, Act.put]
            refine wpAnyH_done (by kernel_rfl) ?_ _
            clear hHeld hS
            have r0 : WF.cell? ⟨w.heap.size, 0, none⟩ = some (.slice a2 (N + 1) c2) := hA4.cell rfl
            have r1 : WF.cell? ⟨w.heap.size, 1, none⟩ = some (.slice aa M ac) := hA4.cell rfl
            have e20 : WF.cell? ⟨w.heap.size + 1 + 1, 0, none⟩ = some (.slice none 0 0) := hB4.cell rfl
            have e21 : WF.cell? ⟨w.heap.size + 1 + 1, 1, none⟩ = some (.slice none 0 0) := hB4.cell rfl
            have f20 : WF.frozen? ⟨w.heap.size + 1 + 1, 0, none⟩ = false := hB4.frozen (by simp)
            have f21 : WF.frozen? ⟨w.heap.size + 1 + 1, 1, none⟩ = false := hB4.frozen (by simp)
            obtain ⟨WG, hWG⟩ : ∃ WG, (WF.setCell ⟨w.heap.size + 1 + 1, 0, none⟩ (.slice a2 (N + 1) c2)).setCell ⟨w.heap.size + 1 + 1, 1, none⟩ (.slice aa M ac) = WG := ⟨_, rfl⟩
            have C2 : Arr WG (w.heap.size + 1 + 1) [.slice a2 (N + 1) c2, .slice aa M ac] := by rw [← hWG]; exact (hB4.set 0 _).set 1 _
            have s0 : WG.cell? ⟨w.heap.size + 1 + 1, 0, none⟩ = some (.slice a2 (N + 1) c2) := C2.cell rfl
            have s1 : WG.cell? ⟨w.heap.size + 1 + 1, 1, none⟩ = some (.slice aa M ac) := C2.cell rfl
            have HFF : Hid (NtAt WG WG.heap.size (.agg #[.slice a2 (N + 1) c2, .slice aa M ac]) ⟨q ++ [p], ap⟩) := Lib.hid (by
              have hz : WG.heap.size = WF.heap.size := by rw [← hWG]; simp
              rw [hz, ← hWG]
              exact (hNt.apart hS4 _).apart (hS4.set e20 _ _ _) _)
            have HBF : Hid (Below w.heap.size w WG) := Lib.hid (by rw [← hWG]; exact (hwF.setCell (p := ⟨w.heap.size + 1 + 1, 0, none⟩) (by show w.heap.size ≤ w.heap.size + 1 + 1; omega) _).setCell (p := ⟨w.heap.size + 1 + 1, 1, none⟩) (by show w.heap.size ≤ w.heap.size + 1 + 1; omega) _)
            have HWG := Lib.hid hWG
            clear hNt hA4 hB4 hS4 hwF C2 hWG
            go_wp2
            rw [HWG.out]
            refine bodyPost_ret (v := .tuple #[.agg #[.slice a2 (N + 1) c2, .slice aa M ac], .int .i64 0]) (by simp [results, Try.results12, go_sem, s0, s1]) rfl ⟨_, rfl, HFF.out, HBF.out⟩
        · skip
          rw [if_pos (by rfl)]
          unfold q12p5
          go_simp
          obtain ⟨Wc, hWc⟩ : ∃ Wc, Wc = (X.alloc (.cells #[.int .i64 p.frm, .int .i64 p.to, .slice da L dc] 28)).drew := ⟨_, rfl⟩
          have hbc : Below X.drew.heap.size X.drew Wc := by rw [hWc]; exact (Below.refl X.drew.heap.size X.drew).alloc (Nat.le_refl _) (.cells #[.int .i64 p.frm, .int .i64 p.to, .slice da L dc] 28)
          have hone : QAt Wc Wc.heap.size (.slice (some ⟨X.heap.size, 0, none⟩) 1 1) [p] := q_one (by rw [hWc]; exact (Arr.new X #[.int .i64 p.frm, .int .i64 p.to, .slice da L dc] 28).drew) (by rw [hWc]; simp) HIN.out (HPD.out _ (hk.next hbc))
          have hk := hk.next hbc
          have hS := HKS.out _ hk
          rw [← hWc]
          clear hWc hbc
          refine hK.out _ _ hS (fun hHeld => ?_)
          clear hK K
          try simp only [q12p5, Act.put, List.setIfInBounds_toArray, List.set_cons_zero, List.set_cons_succ]
          refine wpAnyH_ready (rs := [0]) (by kernel_rfl) (by simp) ?_
          refine AllReadyH.cons (o := q12p0) rfl (fun K hK => ?_) AllReadyH.nil
          rw [if_pos (by rfl)]
          refine wp_build0 22 28 (by rfl) Try.underlying22 Try.info28 ?_
          intro g0 Wa hba _
          have hk := hk.next hba
          have hS := HKS.out _ hk
          have hone := hone.next hba
          clear hba
          refine hK.out _ _ hS (fun hHeld => ?_)
          clear hK K
          try simp only [q12p0, Act.put, List.setIfInBounds_toArray, List.set_cons_zero, List.set_cons_succ]
          refine wpAnyH_ready (rs := [3]) (by kernel_rfl) (by simp) ?_
          refine AllReadyH.cons (o := q12p3) rfl (fun K hK => ?_) AllReadyH.nil
          rw [if_pos (by rfl)]
          obtain ⟨a1, c1, Wb, hr, hR, hbb⟩ := app0 X.heap.size hk.below.size (some ⟨g0, 0, none⟩) qa qc N q (HQ.out _ hk) HN.out (by omega)
          refine wp_app_run (.tmp 20) (.tmp 22) 22 22 rfl _ _ _ Wb (by rfl) (by rfl) hr ?_
          have hk := hk.next hbb
          have hS := HKS.out _ hk
          have hone := hone.next hbb
          clear hbb hr
          refine hK.out _ _ hS (fun hHeld => ?_)
          clear hK K
          try simp only [q12p3, Act.put, List.setIfInBounds_toArray, List.set_cons_zero, List.set_cons_succ]
          refine wpAnyH_ready (rs := [6]) (by kernel_rfl) (by simp) ?_
          refine AllReadyH.cons (o := q12p6) rfl (fun K hK => ?_) AllReadyH.nil
          rw [if_pos (by rfl)]
          obtain ⟨a2, c2, Wd, hr, hR2, hbd⟩ := hR.app hk.below.size _ _ 1 [p] hone rfl (by omega)
          refine wp_app_run (.tmp 23) (.tmp 25) 22 22 rfl _ _ _ Wd (by rfl) (by rfl) hr ?_
          have hk : Kept X Wd := hk.below.trans hbd
          have hS := HKS.out _ hk
          clear hbd hr hR hone
          refine hK.out _ _ hS (fun hHeld => ?_)
          clear hK K
          try simp only [q12p6, Act.put, List.setIfInBounds_toArray, List.set_cons_zero, List.set_cons_succ]
          refine wpAnyH_take (i := 7) (oi := q12p7) (v := ?_) rfl (by kernel_rfl) (by kernel_rfl) (by kernel_rfl) (fun _ _ _ h => h) (Or.inl ⟨by rfl, ?_⟩) hHeld ?_
          rotate_left
          · (intro w hSw; (try dsimp only at hSw); unfold q12p7; go_simp <;> with_reducible rfl)
          try simp only [q12p7, Act.put, List.setIfInBounds_toArray, List.set_cons_zero, List.set_cons_succ]
          refine wpAnyH_ready (rs := [8]) (by kernel_rfl) (by simp) ?_
          refine AllReadyH.cons (o := q12p8) rfl (fun K hK => ?_) AllReadyH.nil
          rw [if_pos (by rfl)]
          unfold q12p8
          have hA := HA0.out.below hk.below (by omega)
          have c0 := (HCZ.out _ hk).1
          have f0 : Wd.frozen? ⟨w.heap.size, 0, none⟩ = false := hA.frozen (by simp)
          obtain ⟨WF, hWF⟩ : ∃ WF, Wd.setCell ⟨w.heap.size, 0, none⟩ (.slice a2 (N + 1) c2) = WF := ⟨_, rfl⟩
          have hSl := HS0.out.below hk.below (by omega)
          have hNt : NtAt WF WF.heap.size (.agg #[.slice a2 (N + 1) c2, .slice aa M ac]) ⟨q ++ [p], ap⟩ := by
            have : NtAt Wd Wd.heap.size (.agg #[.slice a2 (N + 1) c2, .slice aa M ac]) ⟨q ++ [p], ap⟩ := ⟨_, _, rfl, hR2.row, HAP.out _ hk⟩
            have hz : WF.heap.size = Wd.heap.size := by rw [← hWF]; simp
            rw [hz, ← hWF]; exact this.apart hSl _
          have hA4 : Arr WF w.heap.size [.slice a2 (N + 1) c2, .slice aa M ac] := by rw [← hWF]; exact hA.set 0 _
          have hB4 : Arr WF (w.heap.size + 1 + 1) [.slice none 0 0, .slice none 0 0] := by rw [← hWF]; exact (HA2.out.below hk.below (by omega)).other (by omega) 0 _
          have hS4 : SlB WF (w.heap.size + 1 + 1) := by rw [← hWF]; exact fun o v hv => (HS2.out.below hk.below (by omega)) o v ((cell_apart (by omega) _).symm.trans hv)
          have hwF : Below w.heap.size w WF := by rw [← hWF]; exact (bthen HBX.out hk.below).setCell (p := ⟨w.heap.size, 0, none⟩) (Nat.le_refl _) _
          have hS : Below w.heap.size w WF ∧ WF.cell? ⟨w.heap.size + 1, 0, none⟩ = some (.int .i64 p.frm) ∧ WF.cell? ⟨w.heap.size + 1, 1, none⟩ = some (.int .i64 p.to) ∧ WF.cell? ⟨w.heap.size + 1, 2, none⟩ = some (.slice da L dc) := by
            have hh : Arr WF (w.heap.size + 1) [.int .i64 p.frm, .int .i64 p.to, .slice da L dc] := by rw [← hWF]; exact (HA1.out.below hk.below (by omega)).other (by omega) 0 _
            exact ⟨hwF, hh.cell rfl, hh.cell rfl, hh.cell rfl⟩
          go_simp
          try rw [hWF]
          clear hA c0 f0 hWF hSl hR2 hk
          refine hK.out _ _ hS (fun hHeld => ?_)
          clear hK K
          try simp only [q12p8, Act.put]
          refine wpAnyH_done (by kernel_rfl) ?_ _
          clear hHeld hS
          have r0 : WF.cell? ⟨w.heap.size, 0, none⟩ = some (.slice a2 (N + 1) c2) := hA4.cell rfl
          have r1 : WF.cell? ⟨w.heap.size, 1, none⟩ = some (.slice aa M ac) := hA4.cell rfl
          have e20 : WF.cell? ⟨w.heap.size + 1 + 1, 0, none⟩ = some (.slice none 0 0) := hB4.cell rfl
          have e21 : WF.cell? ⟨w.heap.size + 1 + 1, 1, none⟩ = some (.slice none 0 0) := hB4.cell rfl
          have f20 : WF.frozen? ⟨w.heap.size + 1 + 1, 0, none⟩ = false := hB4.frozen (by simp)
          have f21 : WF.frozen? ⟨w.heap.size + 1 + 1, 1, none⟩ = false := hB4.frozen (by simp)
          obtain ⟨WG, hWG⟩ : ∃ WG, (WF.setCell ⟨w.heap.size + 1 + 1, 0, none⟩ (.slice a2 (N + 1) c2)).setCell ⟨w.heap.size + 1 + 1, 1, none⟩ (.slice aa M ac) = WG := ⟨_, rfl⟩
          have C2 : Arr WG (w.heap.size + 1 + 1) [.slice a2 (N + 1) c2, .slice aa M ac] := by rw [← hWG]; exact (hB4.set 0 _).set 1 _
          have s0 : WG.cell? ⟨w.heap.size + 1 + 1, 0, none⟩ = some (.slice a2 (N + 1) c2) := C2.cell rfl
          have s1 : WG.cell? ⟨w.heap.size + 1 + 1, 1, none⟩ = some (.slice aa M ac) := C2.cell rfl
          have HFF : Hid (NtAt WG WG.heap.size (.agg #[.slice a2 (N + 1) c2, .slice aa M ac]) ⟨q ++ [p], ap⟩) := Lib.hid (by
            have hz : WG.heap.size = WF.heap.size := by rw [← hWG]; simp
            rw [hz, ← hWG]
            exact (hNt.apart hS4 _).apart (hS4.set e20 _ _ _) _)
          have HBF : Hid (Below w.heap.size w WG) := Lib.hid (by rw [← hWG]; exact (hwF.setCell (p := ⟨w.heap.size + 1 + 1, 0, none⟩) (by show w.heap.size ≤ w.heap.size + 1 + 1; omega) _).setCell (p := ⟨w.heap.size + 1 + 1, 1, none⟩) (by show w.heap.size ≤ w.heap.size + 1 + 1; omega) _)
          have HWG := Lib.hid hWG
          clear hNt hA4 hB4 hS4 hwF C2 hWG
          go_wp2
          rw [HWG.out]
          refine bodyPost_ret (v := .tuple #[.agg #[.slice a2 (N + 1) c2, .slice aa M ac], .int .i64 0]) (by simp [results, Try.results12, go_sem, s0, s1]) rfl ⟨_, rfl, HFF.out, HBF.out⟩
      · skip
        rw [if_pos (by rfl)]
        unfold q12p5
        go_simp
        obtain ⟨Wc, hWc⟩ : ∃ Wc, Wc = (X.alloc (.cells #[.int .i64 p.frm, .int .i64 p.to, .slice da L dc] 28)).drew := ⟨_, rfl⟩
        have hbc : Below X.drew.heap.size X.drew Wc := by rw [hWc]; exact (Below.refl X.drew.heap.size X.drew).alloc (Nat.le_refl _) (.cells #[.int .i64 p.frm, .int .i64 p.to, .slice da L dc] 28)
        have hone : QAt Wc Wc.heap.size (.slice (some ⟨X.heap.size, 0, none⟩) 1 1) [p] := q_one (by rw [hWc]; exact (Arr.new X #[.int .i64 p.frm, .int .i64 p.to, .slice da L dc] 28).drew) (by rw [hWc]; simp) HIN.out (HPD.out _ (hk.next hbc))
        have hk := hk.next hbc
        have hS := HKS.out _ hk
        rw [← hWc]
        clear hWc hbc
        refine hK.out _ _ hS (fun hHeld => ?_)
        clear hK K
        try simp only [q12p5, Act.put, List.setIfInBounds_toArray, List.set_cons_zero, List.set_cons_succ]
        refine wpAnyH_ready (rs := [0, 2]) (by kernel_rfl) (by simp) ?_
        refine AllReadyH.cons (o := q12p0) rfl (fun K hK => ?_) (AllReadyH.cons (o := q12p2) rfl (fun K hK => ?_) AllReadyH.nil)
        · skip
          rw [if_pos (by rfl)]
          refine wp_build0 22 28 (by rfl) Try.underlying22 Try.info28 ?_
          intro g0 Wa hba _
          have hk := hk.next hba
          have hS := HKS.out _ hk
          have hone := hone.next hba
          clear hba
          refine hK.out _ _ hS (fun hHeld => ?_)
          clear hK K
          try simp only [q12p0, Act.put, List.setIfInBounds_toArray, List.set_cons_zero, List.set_cons_succ]
          refine wpAnyH_ready (rs := [2]) (by kernel_rfl) (by simp) ?_
          refine AllReadyH.cons (o := q12p2) rfl (fun K hK => ?_) AllReadyH.nil
          rw [if_pos (by rfl)]
          unfold q12p2
          have c0 := (HCZ.out _ hk).1
          have c1 := (HCZ.out _ hk).2
          go_simp
          have hS := HKS.out _ hk
          clear c0 c1
          refine hK.out _ _ hS (fun hHeld => ?_)
          clear hK K
          try simp only [q12p2, Act.put, List.setIfInBounds_toArray, List.set_cons_zero, List.set_cons_succ]
          refine wpAnyH_ready (rs := [3]) (by kernel_rfl) (by simp) ?_
          refine AllReadyH.cons (o := q12p3) rfl (fun K hK => ?_) AllReadyH.nil
          rw [if_pos (by rfl)]
          obtain ⟨a1, c1, Wb, hr, hR, hbb⟩ := app0 X.heap.size hk.below.size (some ⟨g0, 0, none⟩) qa qc N q (HQ.out _ hk) HN.out (by omega)
          refine wp_app_run (.tmp 20) (.tmp 22) 22 22 rfl _ _ _ Wb (by rfl) (by rfl) hr ?_
          have hk := hk.next hbb
          have hS := HKS.out _ hk
          have hone := hone.next hbb
          clear hbb hr
          refine hK.out _ _ hS (fun hHeld => ?_)
          clear hK K
          try simp only [q12p3, Act.put, List.setIfInBounds_toArray, List.set_cons_zero, List.set_cons_succ]
          refine wpAnyH_ready (rs := [6]) (by kernel_rfl) (by simp) ?_
          refine AllReadyH.cons (o := q12p6) rfl (fun K hK => ?_) AllReadyH.nil
          rw [if_pos (by rfl)]
          obtain ⟨a2, c2, Wd, hr, hR2, hbd⟩ := hR.app hk.below.size _ _ 1 [p] hone rfl (by omega)
          refine wp_app_run (.tmp 23) (.tmp 25) 22 22 rfl _ _ _ Wd (by rfl) (by rfl) hr ?_
          have hk : Kept X Wd := hk.below.trans hbd
          have hS := HKS.out _ hk
          clear hbd hr hR hone
          refine hK.out _ _ hS (fun hHeld => ?_)
          clear hK K
          try simp only [q12p6, Act.put, List.setIfInBounds_toArray, List.set_cons_zero, List.set_cons_succ]
          refine wpAnyH_take (i := 7) (oi := q12p7) (v := ?_) rfl (by kernel_rfl) (by kernel_rfl) (by kernel_rfl) (fun _ _ _ h => h) (Or.inl ⟨by rfl, ?_⟩) hHeld ?_
          rotate_left
          · (intro w hSw; (try dsimp only at hSw); unfold q12p7; go_simp <;> with_reducible rfl)
          try simp only [q12p7, Act.put, List.setIfInBounds_toArray, List.set_cons_zero, List.set_cons_succ]
          refine wpAnyH_ready (rs := [8]) (by kernel_rfl) (by simp) ?_
          refine AllReadyH.cons (o := q12p8) rfl (fun K hK => ?_) AllReadyH.nil
          rw [if_pos (by rfl)]
          unfold q12p8
          have hA := HA0.out.below hk.below (by omega)
          have c0 := (HCZ.out _ hk).1
          have f0 : Wd.frozen? ⟨w.heap.size, 0, none⟩ = false := hA.frozen (by simp)
          obtain ⟨WF, hWF⟩ : ∃ WF, Wd.setCell ⟨w.heap.size, 0, none⟩ (.slice a2 (N + 1) c2) = WF := ⟨_, rfl⟩
          have hSl := HS0.out.below hk.below (by omega)
          have hNt : NtAt WF WF.heap.size (.agg #[.slice a2 (N + 1) c2, .slice aa M ac]) ⟨q ++ [p], ap⟩ := by
            have : NtAt Wd Wd.heap.size (.agg #[.slice a2 (N + 1) c2, .slice aa M ac]) ⟨q ++ [p], ap⟩ := ⟨_, _, rfl, hR2.row, HAP.out _ hk⟩
            have hz : WF.heap.size = Wd.heap.size := by rw [← hWF]; simp
            rw [hz, ← hWF]; exact this.apart hSl _
          have hA4 : Arr WF w.heap.size [.slice a2 (N + 1) c2, .slice aa M ac] := by rw [← hWF]; exact hA.set 0 _
          have hB4 : Arr WF (w.heap.size + 1 + 1) [.slice none 0 0, .slice none 0 0] := by rw [← hWF]; exact (HA2.out.below hk.below (by omega)).other (by omega) 0 _
          have hS4 : SlB WF (w.heap.size + 1 + 1) := by rw [← hWF]; exact fun o v hv => (HS2.out.below hk.below (by omega)) o v ((cell_apart (by omega) _).symm.trans hv)
          have hwF : Below w.heap.size w WF := by rw [← hWF]; exact (bthen HBX.out hk.below).setCell (p := ⟨w.heap.size, 0, none⟩) (Nat.le_refl _) _
          have hS : Below w.heap.size w WF ∧ WF.cell? ⟨w.heap.size + 1, 0, none⟩ = some (.int .i64 p.frm) ∧ WF.cell? ⟨w.heap.size + 1, 1, none⟩ = some (.int .i64 p.to) ∧ WF.cell? ⟨w.heap.size + 1, 2, none⟩ = some (.slice da L dc) := by
            have hh : Arr WF (w.heap.size + 1) [.int .i64 p.frm, .int .i64 p.to, .slice da L dc] := by rw [← hWF]; exact (HA1.out.below hk.below (by omega)).other (by omega) 0 _
            exact ⟨hwF, hh.cell rfl, hh.cell rfl, hh.cell rfl⟩
          go_simp
          try rw [hWF]
          clear hA c0 f0 hWF hSl hR2 hk
          refine hK.out _ _ hS (fun hHeld => ?_)
          clear hK K
          try simp only [q12p8, Act.put]
          refine wpAnyH_done (by kernel_rfl) ?_ _
          clear hHeld hS
          have r0 : WF.cell? ⟨w.heap.size, 0, none⟩ = some (.slice a2 (N + 1) c2) := hA4.cell rfl
          have r1 : WF.cell? ⟨w.heap.size, 1, none⟩ = some (.slice aa M ac) := hA4.cell rfl
          have e20 : WF.cell? ⟨w.heap.size + 1 + 1, 0, none⟩ = some (.slice none 0 0) := hB4.cell rfl
          have e21 : WF.cell? ⟨w.heap.size + 1 + 1, 1, none⟩ = some (.slice none 0 0) := hB4.cell rfl
          have f20 : WF.frozen? ⟨w.heap.size + 1 + 1, 0, none⟩ = false := hB4.frozen (by simp)
          have f21 : WF.frozen? ⟨w.heap.size + 1 + 1, 1, none⟩ = false := hB4.frozen (by simp)
          obtain ⟨WG, hWG⟩ : ∃ WG, (WF.setCell ⟨w.heap.size + 1 + 1, 0, none⟩ (.slice a2 (N + 1) c2)).setCell ⟨w.heap.size + 1 + 1, 1, none⟩ (.slice aa M ac) = WG := ⟨_, rfl⟩
          have C2 : Arr WG (w.heap.size + 1 + 1) [.slice a2 (N + 1) c2, .slice aa M ac] := by rw [← hWG]; exact (hB4.set 0 _).set 1 _
          have s0 : WG.cell? ⟨w.heap.size + 1 + 1, 0, none⟩ = some (.slice a2 (N + 1) c2) := C2.cell rfl
          have s1 : WG.cell? ⟨w.heap.size + 1 + 1, 1, none⟩ = some (.slice aa M ac) := C2.cell rfl
          have HFF : Hid (NtAt WG WG.heap.size (.agg #[.slice a2 (N + 1) c2, .slice aa M ac]) ⟨q ++ [p], ap⟩) := Lib.hid (by
            have hz : WG.heap.size = WF.heap.size := by rw [← hWG]; simp
            rw [hz, ← hWG]
            exact (hNt.apart hS4 _).apart (hS4.set e20 _ _ _) _)
          have HBF : Hid (Below w.heap.size w WG) := Lib.hid (by rw [← hWG]; exact (hwF.setCell (p := ⟨w.heap.size + 1 + 1, 0, none⟩) (by show w.heap.size ≤ w.heap.size + 1 + 1; omega) _).setCell (p := ⟨w.heap.size + 1 + 1, 1, none⟩) (by show w.heap.size ≤ w.heap.size + 1 + 1; omega) _)
          have HWG := Lib.hid hWG
          clear hNt hA4 hB4 hS4 hwF C2 hWG
          go_wp2
          rw [HWG.out]
          refine bodyPost_ret (v := .tuple #[.agg #[.slice a2 (N + 1) c2, .slice aa M ac], .int .i64 0]) (by simp [results, Try.results12, go_sem, s0, s1]) rfl ⟨_, rfl, HFF.out, HBF.out⟩
        · skip
          rw [if_pos (by rfl)]
          unfold q12p2
          have c0 := (HCZ.out _ hk).1
          have c1 := (HCZ.out _ hk).2
          go_simp
          have hS := HKS.out _ hk
          clear c0 c1
          refine hK.out _ _ hS (fun hHeld => ?_)
          clear hK K
          try simp only [q12p2, Act.put, List.setIfInBounds_toArray, List.set_cons_zero, List.set_cons_succ]
          refine wpAnyH_ready (rs := [0]) (by kernel_rfl) (by simp) ?_
          refine AllReadyH.cons (o := q12p0) rfl (fun K hK => ?_) AllReadyH.nil
          rw [if_pos (by rfl)]
          refine wp_build0 22 28 (by rfl) Try.underlying22 Try.info28 ?_
          intro g0 Wa hba _
          have hk := hk.next hba
          have hS := HKS.out _ hk
          have hone := hone.next hba
          clear hba
          refine hK.out _ _ hS (fun hHeld => ?_)
          clear hK K
          try simp only [q12p0, Act.put, List.setIfInBounds_toArray, List.set_cons_zero, List.set_cons_succ]
          refine wpAnyH_ready (rs := [3]) (by kernel_rfl) (by simp) ?_
          refine AllReadyH.cons (o := q12p3) rfl (fun K hK => ?_) AllReadyH.nil
          rw [if_pos (by rfl)]
          obtain ⟨a1, c1, Wb, hr, hR, hbb⟩ := app0 X.heap.size hk.below.size (some ⟨g0, 0, none⟩) qa qc N q (HQ.out _ hk) HN.out (by omega)
          refine wp_app_run (.tmp 20) (.tmp 22) 22 22 rfl _ _ _ Wb (by rfl) (by rfl) hr ?_
          have hk := hk.next hbb
          have hS := HKS.out _ hk
          have hone := hone.next hbb
          clear hbb hr
          refine hK.out _ _ hS (fun hHeld => ?_)
          clear hK K
          try simp only [q12p3, Act.put, List.setIfInBounds_toArray, List.set_cons_zero, List.set_cons_succ]
          refine wpAnyH_ready (rs := [6]) (by kernel_rfl) (by simp) ?_
          refine AllReadyH.cons (o := q12p6) rfl (fun K hK => ?_) AllReadyH.nil
          rw [if_pos (by rfl)]
          obtain ⟨a2, c2, Wd, hr, hR2, hbd⟩ := hR.app hk.below.size _ _ 1 [p] hone rfl (by omega)
          refine wp_app_run (.tmp 23) (.tmp 25) 22 22 rfl _ _ _ Wd (by rfl) (by rfl) hr ?_
          have hk : Kept X Wd := hk.below.trans hbd
          have hS := HKS.out _ hk
          clear hbd hr hR hone
          refine hK.out _ _ hS (fun hHeld => ?_)
          clear hK K
          try simp only [q12p6, Act.put, List.setIfInBounds_toArray, List.set_cons_zero, List.set_cons_succ]
          refine wpAnyH_take (i := 7) (oi := q12p7) (v := ?_) rfl (by kernel_rfl) (by kernel_rfl) (by kernel_rfl) (fun _ _ _ h => h) (Or.inl ⟨by rfl, ?_⟩) hHeld ?_
          rotate_left
          · (intro w hSw; (try dsimp only at hSw); unfold q12p7; go_simp <;> with_reducible rfl)
          try simp only [q12p7, Act.put, List.setIfInBounds_toArray, List.set_cons_zero, List.set_cons_succ]
          refine wpAnyH_ready (rs := [8]) (by kernel_rfl) (by simp) ?_
          refine AllReadyH.cons (o := q12p8) rfl (fun K hK => ?_) AllReadyH.nil
          rw [if_pos (by rfl)]
          unfold q12p8
          have hA := HA0.out.below hk.below (by omega)
          have c0 := (HCZ.out _ hk).1
          have f0 : Wd.frozen? ⟨w.heap.size, 0, none⟩ = false := hA.frozen (by simp)
          obtain ⟨WF, hWF⟩ : ∃ WF, Wd.setCell ⟨w.heap.size, 0, none⟩ (.slice a2 (N + 1) c2) = WF := ⟨_, rfl⟩
          have hSl := HS0.out.below hk.below (by omega)
          have hNt : NtAt WF WF.heap.size (.agg #[.slice a2 (N + 1) c2, .slice aa M ac]) ⟨q ++ [p], ap⟩ := by
            have : NtAt Wd Wd.heap.size (.agg #[.slice a2 (N + 1) c2, .slice aa M ac]) ⟨q ++ [p], ap⟩ := ⟨_, _, rfl, hR2.row, HAP.out _ hk⟩
            have hz : WF.heap.size = Wd.heap.size := by rw [← hWF]; simp
            rw [hz, ← hWF]; exact this.apart hSl _
          have hA4 : Arr WF w.heap.size [.slice a2 (N + 1) c2, .slice aa M ac] := by rw [← hWF]; exact hA.set 0 _
          have hB4 : Arr WF (w.heap.size + 1 + 1) [.slice none 0 0, .slice none 0 0] := by rw [← hWF]; exact (HA2.out.below hk.below (by omega)).other (by omega) 0 _
          have hS4 : SlB WF (w.heap.size + 1 + 1) := by rw [← hWF]; exact fun o v hv => (HS2.out.below hk.below (by omega)) o v ((cell_apart (by omega) _).symm.trans hv)
          have hwF : Below w.heap.size w WF := by rw [← hWF]; exact (bthen HBX.out hk.below).setCell (p := ⟨w.heap.size, 0, none⟩) (Nat.le_refl _) _
          have hS : Below w.heap.size w WF ∧ WF.cell? ⟨w.heap.size + 1, 0, none⟩ = some (.int .i64 p.frm) ∧ WF.cell? ⟨w.heap.size + 1, 1, none⟩ = some (.int .i64 p.to) ∧ WF.cell? ⟨w.heap.size + 1, 2, none⟩ = some (.slice da L dc) := by
            have hh : Arr WF (w.heap.size + 1) [.int .i64 p.frm, .int .i64 p.to, .slice da L dc] := by rw [← hWF]; exact (HA1.out.below hk.below (by omega)).other (by omega) 0 _
            exact ⟨hwF, hh.cell rfl, hh.cell rfl, hh.cell rfl⟩
          go_simp
          try rw [hWF]
          clear hA c0 f0 hWF hSl hR2 hk
          refine hK.out _ _ hS (fun hHeld => ?_)
          clear hK K
          try simp only [q12p8, Act.put]
          refine wpAnyH_done (by kernel_rfl) ?_ _
          clear hHeld hS
          have r0 : WF.cell? ⟨w.heap.size, 0, none⟩ = some (.slice a2 (N + 1) c2) := hA4.cell rfl
          have r1 : WF.cell? ⟨w.heap.size, 1, none⟩ = some (.slice aa M ac) := hA4.cell rfl
          have e20 : WF.cell? ⟨w.heap.size + 1 + 1, 0, none⟩ = some (.slice none 0 0) := hB4.cell rfl
          have e21 : WF.cell? ⟨w.heap.size + 1 + 1, 1, none⟩ = some (.slice none 0 0) := hB4.cell rfl
          have f20 : WF.frozen? ⟨w.heap.size + 1 + 1, 0, none⟩ = false := hB4.frozen (by simp)
          have f21 : WF.frozen? ⟨w.heap.size + 1 + 1, 1, none⟩ = false := hB4.frozen (by simp)
          obtain ⟨WG, hWG⟩ : ∃ WG, (WF.setCell ⟨w.heap.size + 1 + 1, 0, none⟩ (.slice a2 (N + 1) c2)).setCell ⟨w.heap.size + 1 + 1, 1, none⟩ (.slice aa M ac) = WG := ⟨_, rfl⟩
          have C2 : Arr WG (w.heap.size + 1 + 1) [.slice a2 (N + 1) c2, .slice aa M ac] := by rw [← hWG]; exact (hB4.set 0 _).set 1 _
          have s0 : WG.cell? ⟨w.heap.size + 1 + 1, 0, none⟩ = some (.slice a2 (N + 1) c2) := C2.cell rfl
          have s1 : WG.cell? ⟨w.heap.size + 1 + 1, 1, none⟩ = some (.slice aa M ac) := C2.cell rfl
          have HFF : Hid (NtAt WG WG.heap.size (.agg #[.slice a2 (N + 1) c2, .slice aa M ac]) ⟨q ++ [p], ap⟩) := Lib.hid (by
            have hz : WG.heap.size = WF.heap.size := by rw [← hWG]; simp
            rw [hz, ← hWG]
            exact (hNt.apart hS4 _).apart (hS4.set e20 _ _ _) _)
          have HBF : Hid (Below w.heap.size w WG) := Lib.hid (by rw [← hWG]; exact (hwF.setCell (p := ⟨w.heap.size + 1 + 1, 0, none⟩) (by show w.heap.size ≤ w.heap.size + 1 + 1; omega) _).setCell (p := ⟨w.heap.size + 1 + 1, 1, none⟩) (by show w.heap.size ≤ w.heap.size + 1 + 1; omega) _)
          have HWG := Lib.hid hWG
          clear hNt hA4 hB4 hS4 hwF C2 hWG
          go_wp2
          rw [HWG.out]
          refine bodyPost_ret (v := .tuple #[.agg #[.slice a2 (N + 1) c2, .slice aa M ac], .int .i64 0]) (by simp [results, Try.results12, go_sem, s0, s1]) rfl ⟨_, rfl, HFF.out, HBF.out⟩
end Go.Proofs.Ytjancbjjeemedaa
