/- Repeat. -/
import Derived.Test.YtjancbjjeemedaaLose
namespace Go.Proofs.Ytjancbjjeemedaa
open Go.RowKit

def q25p0 : Oper := { dst := some 13, op := Go.Op.load 25 (Go.Operand.tmp 2), type := 25, pos := "network.go:61", after := #[], guard := none }
def q25p1 : Oper := { dst := some 14, op := Go.Op.fieldAddr 25 (Go.Operand.tmp 2) 0, type := 0, pos := "network.go:61", after := #[], guard := none }
def q25p2 : Oper := { dst := some 15, op := Go.Op.load 22 (Go.Operand.tmp 14), type := 22, pos := "network.go:61", after := #[{ on := 1, ground := Go.Ground.data }], guard := none }
def q25p3 : Oper := { dst := some 16, op := Go.Op.move (Go.Operand.tmp 1), type := 3, pos := "network.go:61", after := #[], guard := none }
def q25p4 : Oper := { dst := some 17, op := Go.Op.indexAddr 22 (Go.Operand.tmp 15) (Go.Operand.tmp 16), type := 0, pos := "network.go:61", after := #[{ on := 2, ground := Go.Ground.data }, { on := 3, ground := Go.Ground.data }], guard := none }
def q25p5 : Oper := { dst := some 18, op := Go.Op.load 28 (Go.Operand.tmp 17), type := 28, pos := "network.go:61", after := #[{ on := 4, ground := Go.Ground.data }], guard := none }
def q25p6 : Oper := { dst := some 19, op := Go.Op.call { callee := Go.Callee.value (Go.Operand.func 30), args := #[Go.Operand.tmp 13, Go.Operand.tmp 18], argTypes := #[25, 28] }, type := 32, pos := "network.go:61", after := #[{ on := 0, ground := Go.Ground.data }, { on := 5, ground := Go.Ground.data }], guard := none }
def q25p7 : Oper := { dst := some 20, op := Go.Op.extract (Go.Operand.tmp 19) 0, type := 25, pos := "network.go:61", after := #[{ on := 6, ground := Go.Ground.data }], guard := none }
def q25p8 : Oper := { dst := some 21, op := Go.Op.extract (Go.Operand.tmp 19) 1, type := 31, pos := "network.go:61", after := #[{ on := 6, ground := Go.Ground.data }], guard := none }
def q25p9 : Oper := { dst := none, op := Go.Op.store 25 (Go.Operand.tmp 4) (Go.Operand.tmp 20), type := 0, pos := "network.go:61", after := #[{ on := 7, ground := Go.Ground.data }, { on := 6, ground := Go.Ground.chain }, { on := 0, ground := Go.Ground.phase }, { on := 1, ground := Go.Ground.phase }, { on := 2, ground := Go.Ground.phase }, { on := 3, ground := Go.Ground.phase }, { on := 4, ground := Go.Ground.phase }, { on := 5, ground := Go.Ground.phase }, { on := 6, ground := Go.Ground.phase }, { on := 7, ground := Go.Ground.phase }, { on := 8, ground := Go.Ground.phase }], guard := none }
def q25p10 : Oper := { dst := some 5, op := Go.Op.assign (Go.Operand.tmp 21), type := 31, pos := "network.go:61", after := #[{ on := 8, ground := Go.Ground.data }, { on := 9, ground := Go.Ground.chain }, { on := 0, ground := Go.Ground.phase }, { on := 1, ground := Go.Ground.phase }, { on := 2, ground := Go.Ground.phase }, { on := 3, ground := Go.Ground.phase }, { on := 4, ground := Go.Ground.phase }, { on := 5, ground := Go.Ground.phase }, { on := 6, ground := Go.Ground.phase }, { on := 7, ground := Go.Ground.phase }, { on := 8, ground := Go.Ground.phase }, { on := 9, ground := Go.Ground.phase }], guard := none }
def Nt.rpt (n : Nt) (at_ : Int) : Nt × Int := if n.err at_ = 0 then (match n.q[at_.toNat]? with
  | some p => n.push p
  | none => (Nt.zero, 0)) else (Nt.zero, n.err at_)
set_option maxRecDepth 100000 in
set_option maxHeartbeats 4000000 in
theorem rpt_any (w : World) (v : Value) (n : Nt) (h : NtAt w w.heap.size v n) (at_ : Int) : Calls Try.prog 25 #[v, .int .i64 at_] w fun e w' => ∃ v', e = .returned (.tuple #[v', .int .i64 (n.rpt at_).2]) ∧ NtAt w' w'.heap.size v' (n.rpt at_).1 ∧ Below w.heap.size w w' := by
  have H := Lib.hid h
  obtain ⟨qa, qc, aa, ac, rfl, l1, l2, l3, l4, hq, ha⟩ := h.open
  have HQ := Lib.hid hq
  have HA := Lib.hid ha
  have hez := @err_zero n at_
  unfold Nt.rpt
  obtain ⟨E, hE⟩ : ∃ E, n.err at_ = E := ⟨_, rfl⟩
  have HE := Lib.hid hE
  rw [hE] at hez ⊢
  obtain ⟨N, hN⟩ : ∃ x, n.q.length = x := ⟨_, rfl⟩
  obtain ⟨M, hM⟩ : ∃ x, n.ap.length = x := ⟨_, rfl⟩
  have HN := Lib.hid hN
  have HM := Lib.hid hM
  rw [hN] at l1 hez HQ H ⊢
  rw [hM] at l3 HA H ⊢
  obtain ⟨X0, hX0⟩ : ∃ X, X = w.alloc (Obj.cells #[.slice qa N qc, .slice aa M ac] 25) := ⟨_, rfl⟩
  obtain ⟨w3, hw3⟩ : ∃ X, X = X0.alloc (Obj.cells #[.slice none 0 0, .slice none 0 0] 25) := ⟨_, rfl⟩
  have hz0 : X0.heap.size = w.heap.size + 1 := by rw [hX0, World.size_alloc]
  have hz3 : w3.heap.size = w.heap.size + 1 + 1 := by rw [hw3, World.size_alloc, hz0]
  have hb3 : Below w.heap.size w w3 := by rw [hw3, hX0]; go_grown
  have A0 : Arr w3 w.heap.size [.slice qa N qc, .slice aa M ac] := by
    have h1 : Arr X0 w.heap.size [.slice qa N qc, .slice aa M ac] := by rw [hX0]; exact Arr.new w #[.slice qa N qc, .slice aa M ac] 25
    rw [hw3]
    exact h1.alloc (by omega) _
  have A1 : Arr w3 (w.heap.size + 1) [.slice none 0 0, .slice none 0 0] := by
    rw [hw3, ← hz0]; exact Arr.new X0 #[.slice none 0 0, .slice none 0 0] 25
  have HCK : Hid (Calls Try.prog 42 #[.agg #[.slice qa N qc, .slice aa M ac], .int .i64 at_] w3 fun e w' => e = .returned (.int .i64 E) ∧ Below w3.heap.size w3 w') := Lib.hid (HE.out ▸ chkAt_any w3 _ n (H.out.next hb3) at_)
  have HW3 : Hid ((w.alloc (Obj.cells #[.slice qa N qc, .slice aa M ac] 25)).alloc (Obj.cells #[.slice none 0 0, .slice none 0 0] 25) = w3) := Lib.hid (by rw [hw3, hX0])
  have HA0 := Lib.hid A0
  have HA1 := Lib.hid A1
  have HB3 := Lib.hid hb3
  have c00 : w3.cell? ⟨w.heap.size, 0, none⟩ = some (.slice qa N qc) := A0.cell rfl
  have c01 : w3.cell? ⟨w.heap.size, 1, none⟩ = some (.slice aa M ac) := A0.cell rfl
  clear h hq ha hE hN hM hX0 hw3 hb3 A0 A1
  by_cases hE0 : E = 0
  · rw [if_pos hE0]
    subst hE0
    obtain ⟨i, rfl, hi, hok⟩ := hez rfl
    rw [Int.toNat_natCast]
    have h4096 := ok_len hok
    rw [HN.out] at h4096
    have hil : i < n.q.length := by rw [HN.out]; exact hi
    rw [List.getElem?_eq_getElem hil]
    have ii : (i : Int) < (N : Int) := by omega
    obtain ⟨b, off, rfl, hbl, hin, p0, p1, da, dc, p2, _, _, hpd⟩ := HQ.out.got i hil
    obtain ⟨p, hp⟩ : ∃ p, n.q[i]'hil = p := ⟨_, rfl⟩
    rw [hp] at p0 p1 p2 hpd hin ⊢
    dsimp only
    have hENQ : ∀ W, Below w.heap.size w W → Calls Try.prog 30 #[.agg #[.slice (some ⟨b, off, none⟩) N qc, .slice aa M ac], .agg #[.int .i64 p.frm, .int .i64 p.to, .slice da p.data.length dc]] W fun e w' => ∃ v', e = .returned (.tuple #[v', .int .i64 (n.push p).2]) ∧ NSep w' w.heap.size W.heap.size v' (n.push p).1 ∧ Below W.heap.size W w' := fun W hW => enq_sep W w.heap.size hW.size _ n (H.out.below hW) (by rw [HN.out]; omega) _ p ⟨hin, _, rfl, hpd.below hW⟩
    obtain ⟨m, hm⟩ : ∃ m, n.push p = m := ⟨_, rfl⟩
    rw [hm] at ⊢
    simp only [hm] at hENQ
    obtain ⟨D, hD⟩ : ∃ x, p.data.length = x := ⟨_, rfl⟩
    rw [hD] at p2
    simp only [hD] at hENQ
    obtain ⟨nn, ec⟩ := m
    dsimp only at hENQ ⊢
    have HENQ := Lib.hid hENQ
    have P0 := Lib.hid p0
    have P1 := Lib.hid p1
    have P2 := Lib.hid p2
    clear hez hok hp hm hD hpd hin p0 p1 p2 hENQ
    go_enter Try.func25, Try.ntmps25
    go_wp2_with fail
    rw [HW3.out]
    refine HCK.out.mono ?_
    rintro e w4 ⟨rfl, hb4⟩
    have hs4 := hb4.size
    have hw4 : Below w.heap.size w w4 := HB3.out.trans (hb4.mono HB3.out.size)
    have d00 : w4.cell? ⟨w.heap.size, 0, none⟩ = some (.slice (some ⟨b, off, none⟩) N qc) := (hb4.cell (p := ⟨w.heap.size, 0, none⟩) (by show w.heap.size < _; omega)).trans c00
    have d01 : w4.cell? ⟨w.heap.size, 1, none⟩ = some (.slice aa M ac) := (hb4.cell (p := ⟨w.heap.size, 1, none⟩) (by show w.heap.size < _; omega)).trans c01
    have q0 := (hw4.cell (p := ⟨b, off + i * 3, none⟩) hbl).trans P0.out
    have q1 := (hw4.cell (p := ⟨b, off + i * 3 + 1, none⟩) hbl).trans P1.out
    have q2 := (hw4.cell (p := ⟨b, off + i * 3 + 2, none⟩) hbl).trans P2.out
    have HB4 := Lib.hid hb4
    have HW4 := Lib.hid hw4
    have HBD : Hid (Below w.heap.size w w4.drew) := Lib.hid hw4.drew
    clear hb4 hw4 c00 c01
    go_wp2
    refine wp_region_held_drew (S := fun W => Below w.heap.size w W) (by kernel_rfl) HBD.out (fun hHeld => ?_)
    refine wpAnyH_take (i := 1) (oi := q25p1) (v := ?_) rfl (by kernel_rfl) (by kernel_rfl) (by kernel_rfl) (fun _ _ _ h => h) (Or.inl ⟨by rfl, ?_⟩) hHeld ?_
    rotate_left
    · (intro w hSw; (try dsimp only at hSw); unfold q25p1; go_simp <;> with_reducible rfl)
    try simp only [q25p1, Act.put, List.setIfInBounds_toArray, List.set_cons_zero, List.set_cons_succ]
    refine wpAnyH_take (i := 3) (oi := q25p3) (v := ?_) rfl (by kernel_rfl) (by kernel_rfl) (by kernel_rfl) (fun _ _ _ h => h) (Or.inl ⟨by rfl, ?_⟩) hHeld ?_
    rotate_left
    · (intro w hSw; (try dsimp only at hSw); unfold q25p3; go_simp <;> with_reducible rfl)
    try simp only [q25p3, Act.put, List.setIfInBounds_toArray, List.set_cons_zero, List.set_cons_succ]
    refine wpAnyH_ready (rs := [0, 2]) (by kernel_rfl) (by simp) ?_
    refine AllReadyH.cons (o := q25p0) rfl (fun K hK => ?_) (AllReadyH.cons (o := q25p2) rfl (fun K hK => ?_) AllReadyH.nil)
    · skip
      rw [if_pos (by rfl)]
      unfold q25p0
      go_simp
      refine hK.out _ _ hHeld (fun hHeld => ?_)
      clear hK K
      try simp only [q25p0, Act.put, List.setIfInBounds_toArray, List.set_cons_zero, List.set_cons_succ]
      refine wpAnyH_ready (rs := [2]) (by kernel_rfl) (by simp) ?_
      refine AllReadyH.cons (o := q25p2) rfl (fun K hK => ?_) AllReadyH.nil
      rw [if_pos (by rfl)]
      unfold q25p2
      go_simp
      refine hK.out _ _ hHeld (fun hHeld => ?_)
      clear hK K
      try simp only [q25p2, Act.put, List.setIfInBounds_toArray, List.set_cons_zero, List.set_cons_succ]
      refine wpAnyH_take (i := 4) (oi := q25p4) (v := ?_) rfl (by kernel_rfl) (by kernel_rfl) (by kernel_rfl) (fun _ _ _ h => h) (Or.inl ⟨by rfl, ?_⟩) hHeld ?_
      rotate_left
      · (intro w hSw; (try dsimp only at hSw); unfold q25p4; go_simp <;> with_reducible rfl)
      try simp only [q25p4, Act.put, List.setIfInBounds_toArray, List.set_cons_zero, List.set_cons_succ]
      refine wpAnyH_ready (rs := [5]) (by kernel_rfl) (by simp) ?_
      refine AllReadyH.cons (o := q25p5) rfl (fun K hK => ?_) AllReadyH.nil
      rw [if_pos (by rfl)]
      unfold q25p5
      go_simp
      refine hK.out _ _ hHeld (fun hHeld => ?_)
      clear hK K
      try simp only [q25p5, Act.put, List.setIfInBounds_toArray, List.set_cons_zero, List.set_cons_succ]
      refine wpAnyH_ready (rs := [6]) (by kernel_rfl) (by simp) ?_
      refine AllReadyH.cons (o := q25p6) rfl (fun K hK => ?_) AllReadyH.nil
      rw [if_pos (by rfl)]
      unfold q25p6
      go_simp
      go_at_call 30
      refine (HENQ.out w4.drew HBD.out).mono ?_
      rintro e w5 ⟨v', rfl, hsep, hb5⟩
      obtain ⟨qa', qc', aa', ac', rfl⟩ := hsep.shape
      have hz4 : w4.drew.heap.size = w4.heap.size := rfl
      have hw5 : Below w.heap.size w w5 := HBD.out.trans (hb5.mono (by rw [hz4]; exact HW4.out.size))
      have B1 : Arr w5 (w.heap.size + 1) [.slice none 0 0, .slice none 0 0] := (HA1.out.below (HB4.out.drew) (by omega)).below hb5 (by rw [hz4]; omega)
      obtain ⟨L1, hL1⟩ : ∃ x, nn.q.length = x := ⟨_, rfl⟩
      obtain ⟨L2, hL2⟩ : ∃ x, nn.ap.length = x := ⟨_, rfl⟩
      rw [hL1, hL2] at hsep ⊢
      have e10 : w5.cell? ⟨w.heap.size + 1, 0, none⟩ = some (.slice none 0 0) := B1.cell rfl
      have e11 : w5.cell? ⟨w.heap.size + 1, 1, none⟩ = some (.slice none 0 0) := B1.cell rfl
      have f10 : w5.frozen? ⟨w.heap.size + 1, 0, none⟩ = false := B1.frozen (by simp)
      have f11 : w5.frozen? ⟨w.heap.size + 1, 1, none⟩ = false := B1.frozen (by simp)
      obtain ⟨WF, hWF⟩ : ∃ WF, (w5.setCell ⟨w.heap.size + 1, 0, none⟩ (.slice qa' L1 qc')).setCell ⟨w.heap.size + 1, 1, none⟩ (.slice aa' L2 ac') = WF := ⟨_, rfl⟩
      have C1 : Arr WF (w.heap.size + 1) [.slice qa' L1 qc', .slice aa' L2 ac'] := by
        rw [← hWF]; exact (B1.set 0 _).set 1 _
      have r0 : WF.cell? ⟨w.heap.size + 1, 0, none⟩ = some (.slice qa' L1 qc') := C1.cell rfl
      have r1 : WF.cell? ⟨w.heap.size + 1, 1, none⟩ = some (.slice aa' L2 ac') := C1.cell rfl
      have hBF5 : Below w.heap.size w5 WF := by
        rw [← hWF]; exact ((Below.refl _ _).setCell (p := ⟨w.heap.size + 1, 0, none⟩) (by show w.heap.size ≤ w.heap.size + 1; omega) _).setCell (p := ⟨w.heap.size + 1, 1, none⟩) (by show w.heap.size ≤ w.heap.size + 1; omega) _
      have HS5 : Hid (Below w.heap.size w w5) := Lib.hid hw5
      have HBF : Hid (Below w.heap.size w WF) := Lib.hid (hw5.trans hBF5)
      have hwz := hw5.size
      have HFF : Hid (NtAt WF WF.heap.size (.agg #[.slice qa' L1 qc', .slice aa' L2 ac']) nn) := Lib.hid (hsep.at hBF5 (by rw [← hWF]; simp) (by rw [← hWF]; simp; omega) (fun b o hb _ => by
        rw [← hWF]
        refine (cell_out (B := w.heap.size) (H := w4.drew.heap.size) _ _ _ _ ⟨?_, ?_⟩ hb).trans (cell_out (B := w.heap.size) (H := w4.drew.heap.size) _ _ _ _ ⟨?_, ?_⟩ hb) <;> dsimp only <;> omega))
      have HWF := Lib.hid hWF
      clear hsep hb5 hw5 B1 C1 hBF5 hWF d00 d01 hL1 hL2 q0 q1 q2
      go_wp2_with fail
      refine hK.out _ _ HS5.out (fun hHeld => ?_)
      clear hK K
      try simp only [q25p6, Act.put, List.setIfInBounds_toArray, List.set_cons_zero, List.set_cons_succ]
      refine wpAnyH_take (i := 7) (oi := q25p7) (v := ?_) rfl (by kernel_rfl) (by kernel_rfl) (by kernel_rfl) (fun _ _ _ h => h) (Or.inl ⟨by rfl, ?_⟩) hHeld ?_
      rotate_left
      · (intro w hSw; (try dsimp only at hSw); unfold q25p7; go_simp <;> with_reducible rfl)
      try simp only [q25p7, Act.put, List.setIfInBounds_toArray, List.set_cons_zero, List.set_cons_succ]
      refine wpAnyH_take (i := 8) (oi := q25p8) (v := ?_) rfl (by kernel_rfl) (by kernel_rfl) (by kernel_rfl) (fun _ _ _ h => h) (Or.inl ⟨by rfl, ?_⟩) hHeld ?_
      rotate_left
      · (intro w hSw; (try dsimp only at hSw); unfold q25p8; go_simp <;> with_reducible rfl)
      try simp only [q25p8, Act.put, List.setIfInBounds_toArray, List.set_cons_zero, List.set_cons_succ]
      refine wpAnyH_ready (rs := [9]) (by kernel_rfl) (by simp) ?_
      refine AllReadyH.cons (o := q25p9) rfl (fun K hK => ?_) AllReadyH.nil
      rw [if_pos (by rfl)]
      unfold q25p9
      go_simp
      rw [HWF.out]
      refine hK.out _ _ HBF.out (fun hHeld => ?_)
      clear hK K
      try simp only [q25p9, Act.put]
      refine wpAnyH_take (i := 10) (oi := q25p10) (v := ?_) rfl (by kernel_rfl) (by kernel_rfl) (by kernel_rfl) (fun _ _ _ h => h) (Or.inl ⟨by rfl, ?_⟩) hHeld ?_
      rotate_left
      · (intro w hSw; (try dsimp only at hSw); unfold q25p10; go_simp <;> with_reducible rfl)
      try simp only [q25p10, Act.put, List.setIfInBounds_toArray, List.set_cons_zero, List.set_cons_succ]
      refine wpAnyH_done (by kernel_rfl) ?_ _
      clear hHeld
      go_wp2
      refine bodyPost_ret (v := .tuple #[.agg #[.slice qa' L1 qc', .slice aa' L2 ac'], .int .i64 ec]) (by simp [results, Try.results25, go_sem, r0, r1]) rfl ⟨_, rfl, HFF.out, HBF.out⟩
    · skip
      rw [if_pos (by rfl)]
      unfold q25p2
      go_simp
      refine hK.out _ _ hHeld (fun hHeld => ?_)
      clear hK K
      try simp only [q25p2, Act.put, List.setIfInBounds_toArray, List.set_cons_zero, List.set_cons_succ]
      refine wpAnyH_take (i := 4) (oi := q25p4) (v := ?_) rfl (by kernel_rfl) (by kernel_rfl) (by kernel_rfl) (fun _ _ _ h => h) (Or.inl ⟨by rfl, ?_⟩) hHeld ?_
      rotate_left
      · (intro w hSw; (try dsimp only at hSw); unfold q25p4; go_simp <;> with_reducible rfl)
      try simp only [q25p4, Act.put, List.setIfInBounds_toArray, List.set_cons_zero, List.set_cons_succ]
      refine wpAnyH_ready (rs := [0, 5]) (by kernel_rfl) (by simp) ?_
      refine AllReadyH.cons (o := q25p0) rfl (fun K hK => ?_) (AllReadyH.cons (o := q25p5) rfl (fun K hK => ?_) AllReadyH.nil)
      · skip
        rw [if_pos (by rfl)]
        unfold q25p0
        go_simp
        refine hK.out _ _ hHeld (fun hHeld => ?_)
        clear hK K
        try simp only [q25p0, Act.put, List.setIfInBounds_toArray, List.set_cons_zero, List.set_cons_succ]
        refine wpAnyH_ready (rs := [5]) (by kernel_rfl) (by simp) ?_
        refine AllReadyH.cons (o := q25p5) rfl (fun K hK => ?_) AllReadyH.nil
        rw [if_pos (by rfl)]
        unfold q25p5
        go_simp
        refine hK.out _ _ hHeld (fun hHeld => ?_)
        clear hK K
        try simp only [q25p5, Act.put, List.setIfInBounds_toArray, List.set_cons_zero, List.set_cons_succ]
        refine wpAnyH_ready (rs := [6]) (by kernel_rfl) (by simp) ?_
        refine AllReadyH.cons (o := q25p6) rfl (fun K hK => ?_) AllReadyH.nil
        rw [if_pos (by rfl)]
        unfold q25p6
        go_simp
        go_at_call 30
        refine (HENQ.out w4.drew HBD.out).mono ?_
        rintro e w5 ⟨v', rfl, hsep, hb5⟩
        obtain ⟨qa', qc', aa', ac', rfl⟩ := hsep.shape
        have hz4 : w4.drew.heap.size = w4.heap.size := rfl
        have hw5 : Below w.heap.size w w5 := HBD.out.trans (hb5.mono (by rw [hz4]; exact HW4.out.size))
        have B1 : Arr w5 (w.heap.size + 1) [.slice none 0 0, .slice none 0 0] := (HA1.out.below (HB4.out.drew) (by omega)).below hb5 (by rw [hz4]; omega)
        obtain ⟨L1, hL1⟩ : ∃ x, nn.q.length = x := ⟨_, rfl⟩
        obtain ⟨L2, hL2⟩ : ∃ x, nn.ap.length = x := ⟨_, rfl⟩
        rw [hL1, hL2] at hsep ⊢
        have e10 : w5.cell? ⟨w.heap.size + 1, 0, none⟩ = some (.slice none 0 0) := B1.cell rfl
        have e11 : w5.cell? ⟨w.heap.size + 1, 1, none⟩ = some (.slice none 0 0) := B1.cell rfl
        have f10 : w5.frozen? ⟨w.heap.size + 1, 0, none⟩ = false := B1.frozen (by simp)
        have f11 : w5.frozen? ⟨w.heap.size + 1, 1, none⟩ = false := B1.frozen (by simp)
        obtain ⟨WF, hWF⟩ : ∃ WF, (w5.setCell ⟨w.heap.size + 1, 0, none⟩ (.slice qa' L1 qc')).setCell ⟨w.heap.size + 1, 1, none⟩ (.slice aa' L2 ac') = WF := ⟨_, rfl⟩
        have C1 : Arr WF (w.heap.size + 1) [.slice qa' L1 qc', .slice aa' L2 ac'] := by
          rw [← hWF]; exact (B1.set 0 _).set 1 _
        have r0 : WF.cell? ⟨w.heap.size + 1, 0, none⟩ = some (.slice qa' L1 qc') := C1.cell rfl
        have r1 : WF.cell? ⟨w.heap.size + 1, 1, none⟩ = some (.slice aa' L2 ac') := C1.cell rfl
        have hBF5 : Below w.heap.size w5 WF := by
          rw [← hWF]; exact ((Below.refl _ _).setCell (p := ⟨w.heap.size + 1, 0, none⟩) (by show w.heap.size ≤ w.heap.size + 1; omega) _).setCell (p := ⟨w.heap.size + 1, 1, none⟩) (by show w.heap.size ≤ w.heap.size + 1; omega) _
        have HS5 : Hid (Below w.heap.size w w5) := Lib.hid hw5
        have HBF : Hid (Below w.heap.size w WF) := Lib.hid (hw5.trans hBF5)
        have hwz := hw5.size
        have HFF : Hid (NtAt WF WF.heap.size (.agg #[.slice qa' L1 qc', .slice aa' L2 ac']) nn) := Lib.hid (hsep.at hBF5 (by rw [← hWF]; simp) (by rw [← hWF]; simp; omega) (fun b o hb _ => by
          rw [← hWF]
          refine (cell_out (B := w.heap.size) (H := w4.drew.heap.size) _ _ _ _ ⟨?_, ?_⟩ hb).trans (cell_out (B := w.heap.size) (H := w4.drew.heap.size) _ _ _ _ ⟨?_, ?_⟩ hb) <;> dsimp only <;> omega))
        have HWF := Lib.hid hWF
        clear hsep hb5 hw5 B1 C1 hBF5 hWF d00 d01 hL1 hL2 q0 q1 q2
        go_wp2_with fail
        refine hK.out _ _ HS5.out (fun hHeld => ?_)
        clear hK K
        try simp only [q25p6, Act.put, List.setIfInBounds_toArray, List.set_cons_zero, List.set_cons_succ]
        refine wpAnyH_take (i := 7) (oi := q25p7) (v := ?_) rfl (by kernel_rfl) (by kernel_rfl) (by kernel_rfl) (fun _ _ _ h => h) (Or.inl ⟨by rfl, ?_⟩) hHeld ?_
        rotate_left
        · (intro w hSw; (try dsimp only at hSw); unfold q25p7; go_simp <;> with_reducible rfl)
        try simp only [q25p7, Act.put, List.setIfInBounds_toArray, List.set_cons_zero, List.set_cons_succ]
        refine wpAnyH_take (i := 8) (oi := q25p8) (v := ?_) rfl (by kernel_rfl) (by kernel_rfl) (by kernel_rfl) (fun _ _ _ h => h) (Or.inl ⟨by rfl, ?_⟩) hHeld ?_
        rotate_left
        · (intro w hSw; (try dsimp only at hSw); unfold q25p8; go_simp <;> with_reducible rfl)
        try simp only [q25p8, Act.put, List.setIfInBounds_toArray, List.set_cons_zero, List.set_cons_succ]
        refine wpAnyH_ready (rs := [9]) (by kernel_rfl) (by simp) ?_
        refine AllReadyH.cons (o := q25p9) rfl (fun K hK => ?_) AllReadyH.nil
        rw [if_pos (by rfl)]
        unfold q25p9
        go_simp
        rw [HWF.out]
        refine hK.out _ _ HBF.out (fun hHeld => ?_)
        clear hK K
        try simp only [q25p9, Act.put]
        refine wpAnyH_take (i := 10) (oi := q25p10) (v := ?_) rfl (by kernel_rfl) (by kernel_rfl) (by kernel_rfl) (fun _ _ _ h => h) (Or.inl ⟨by rfl, ?_⟩) hHeld ?_
        rotate_left
        · (intro w hSw; (try dsimp only at hSw); unfold q25p10; go_simp <;> with_reducible rfl)
        try simp only [q25p10, Act.put, List.setIfInBounds_toArray, List.set_cons_zero, List.set_cons_succ]
        refine wpAnyH_done (by kernel_rfl) ?_ _
        clear hHeld
        go_wp2
        refine bodyPost_ret (v := .tuple #[.agg #[.slice qa' L1 qc', .slice aa' L2 ac'], .int .i64 ec]) (by simp [results, Try.results25, go_sem, r0, r1]) rfl ⟨_, rfl, HFF.out, HBF.out⟩
      · skip
        rw [if_pos (by rfl)]
        unfold q25p5
        go_simp
        refine hK.out _ _ hHeld (fun hHeld => ?_)
        clear hK K
        try simp only [q25p5, Act.put, List.setIfInBounds_toArray, List.set_cons_zero, List.set_cons_succ]
        refine wpAnyH_ready (rs := [0]) (by kernel_rfl) (by simp) ?_
        refine AllReadyH.cons (o := q25p0) rfl (fun K hK => ?_) AllReadyH.nil
        rw [if_pos (by rfl)]
        unfold q25p0
        go_simp
        refine hK.out _ _ hHeld (fun hHeld => ?_)
        clear hK K
        try simp only [q25p0, Act.put, List.setIfInBounds_toArray, List.set_cons_zero, List.set_cons_succ]
        refine wpAnyH_ready (rs := [6]) (by kernel_rfl) (by simp) ?_
        refine AllReadyH.cons (o := q25p6) rfl (fun K hK => ?_) AllReadyH.nil
        rw [if_pos (by rfl)]
        unfold q25p6
        go_simp
        go_at_call 30
        refine (HENQ.out w4.drew HBD.out).mono ?_
        rintro e w5 ⟨v', rfl, hsep, hb5⟩
        obtain ⟨qa', qc', aa', ac', rfl⟩ := hsep.shape
        have hz4 : w4.drew.heap.size = w4.heap.size := rfl
        have hw5 : Below w.heap.size w w5 := HBD.out.trans (hb5.mono (by rw [hz4]; exact HW4.out.size))
        have B1 : Arr w5 (w.heap.size + 1) [.slice none 0 0, .slice none 0 0] := (HA1.out.below (HB4.out.drew) (by omega)).below hb5 (by rw [hz4]; omega)
        obtain ⟨L1, hL1⟩ : ∃ x, nn.q.length = x := ⟨_, rfl⟩
        obtain ⟨L2, hL2⟩ : ∃ x, nn.ap.length = x := ⟨_, rfl⟩
        rw [hL1, hL2] at hsep ⊢
        have e10 : w5.cell? ⟨w.heap.size + 1, 0, none⟩ = some (.slice none 0 0) := B1.cell rfl
        have e11 : w5.cell? ⟨w.heap.size + 1, 1, none⟩ = some (.slice none 0 0) := B1.cell rfl
        have f10 : w5.frozen? ⟨w.heap.size + 1, 0, none⟩ = false := B1.frozen (by simp)
        have f11 : w5.frozen? ⟨w.heap.size + 1, 1, none⟩ = false := B1.frozen (by simp)
        obtain ⟨WF, hWF⟩ : ∃ WF, (w5.setCell ⟨w.heap.size + 1, 0, none⟩ (.slice qa' L1 qc')).setCell ⟨w.heap.size + 1, 1, none⟩ (.slice aa' L2 ac') = WF := ⟨_, rfl⟩
        have C1 : Arr WF (w.heap.size + 1) [.slice qa' L1 qc', .slice aa' L2 ac'] := by
          rw [← hWF]; exact (B1.set 0 _).set 1 _
        have r0 : WF.cell? ⟨w.heap.size + 1, 0, none⟩ = some (.slice qa' L1 qc') := C1.cell rfl
        have r1 : WF.cell? ⟨w.heap.size + 1, 1, none⟩ = some (.slice aa' L2 ac') := C1.cell rfl
        have hBF5 : Below w.heap.size w5 WF := by
          rw [← hWF]; exact ((Below.refl _ _).setCell (p := ⟨w.heap.size + 1, 0, none⟩) (by show w.heap.size ≤ w.heap.size + 1; omega) _).setCell (p := ⟨w.heap.size + 1, 1, none⟩) (by show w.heap.size ≤ w.heap.size + 1; omega) _
        have HS5 : Hid (Below w.heap.size w w5) := Lib.hid hw5
        have HBF : Hid (Below w.heap.size w WF) := Lib.hid (hw5.trans hBF5)
        have hwz := hw5.size
        have HFF : Hid (NtAt WF WF.heap.size (.agg #[.slice qa' L1 qc', .slice aa' L2 ac']) nn) := Lib.hid (hsep.at hBF5 (by rw [← hWF]; simp) (by rw [← hWF]; simp; omega) (fun b o hb _ => by
          rw [← hWF]
          refine (cell_out (B := w.heap.size) (H := w4.drew.heap.size) _ _ _ _ ⟨?_, ?_⟩ hb).trans (cell_out (B := w.heap.size) (H := w4.drew.heap.size) _ _ _ _ ⟨?_, ?_⟩ hb) <;> dsimp only <;> omega))
        have HWF := Lib.hid hWF
        clear hsep hb5 hw5 B1 C1 hBF5 hWF d00 d01 hL1 hL2 q0 q1 q2
        go_wp2_with fail
        refine hK.out _ _ HS5.out (fun hHeld => ?_)
        clear hK K
        try simp only [q25p6, Act.put, List.setIfInBounds_toArray, List.set_cons_zero, List.set_cons_succ]
        refine wpAnyH_take (i := 7) (oi := q25p7) (v := ?_) rfl (by kernel_rfl) (by kernel_rfl) (by kernel_rfl) (fun _ _ _ h => h) (Or.inl ⟨by rfl, ?_⟩) hHeld ?_
        rotate_left
        · (intro w hSw; (try dsimp only at hSw); unfold q25p7; go_simp <;> with_reducible rfl)
        try simp only [q25p7, Act.put, List.setIfInBounds_toArray, List.set_cons_zero, List.set_cons_succ]
        refine wpAnyH_take (i := 8) (oi := q25p8) (v := ?_) rfl (by kernel_rfl) (by kernel_rfl) (by kernel_rfl) (fun _ _ _ h => h) (Or.inl ⟨by rfl, ?_⟩) hHeld ?_
        rotate_left
        · (intro w hSw; (try dsimp only at hSw); unfold q25p8; go_simp <;> with_reducible rfl)
        try simp only [q25p8, Act.put, List.setIfInBounds_toArray, List.set_cons_zero, List.set_cons_succ]
        refine wpAnyH_ready (rs := [9]) (by kernel_rfl) (by simp) ?_
        refine AllReadyH.cons (o := q25p9) rfl (fun K hK => ?_) AllReadyH.nil
        rw [if_pos (by rfl)]
        unfold q25p9
        go_simp
        rw [HWF.out]
        refine hK.out _ _ HBF.out (fun hHeld => ?_)
        clear hK K
        try simp only [q25p9, Act.put]
        refine wpAnyH_take (i := 10) (oi := q25p10) (v := ?_) rfl (by kernel_rfl) (by kernel_rfl) (by kernel_rfl) (fun _ _ _ h => h) (Or.inl ⟨by rfl, ?_⟩) hHeld ?_
        rotate_left
        · (intro w hSw; (try dsimp only at hSw); unfold q25p10; go_simp <;> with_reducible rfl)
        try simp only [q25p10, Act.put, List.setIfInBounds_toArray, List.set_cons_zero, List.set_cons_succ]
        refine wpAnyH_done (by kernel_rfl) ?_ _
        clear hHeld
        go_wp2
        refine bodyPost_ret (v := .tuple #[.agg #[.slice qa' L1 qc', .slice aa' L2 ac'], .int .i64 ec]) (by simp [results, Try.results25, go_sem, r0, r1]) rfl ⟨_, rfl, HFF.out, HBF.out⟩
  · rw [if_neg hE0]
    have dE : (E != 0) = true := by simpa using hE0
    clear hez hE0
    go_enter Try.func25, Try.ntmps25
    go_wp2_with fail
    rw [HW3.out]
    refine HCK.out.mono ?_
    rintro e w4 ⟨rfl, hb4⟩
    have hs4 := hb4.size
    have B1 : Arr w4 (w.heap.size + 1) [.slice none 0 0, .slice none 0 0] := HA1.out.below hb4 (by omega)
    have e10 : w4.cell? ⟨w.heap.size + 1, 0, none⟩ = some (.slice none 0 0) := B1.cell rfl
    have e11 : w4.cell? ⟨w.heap.size + 1, 1, none⟩ = some (.slice none 0 0) := B1.cell rfl
    have f10 : w4.frozen? ⟨w.heap.size + 1, 0, none⟩ = false := B1.frozen (by simp)
    have f11 : w4.frozen? ⟨w.heap.size + 1, 1, none⟩ = false := B1.frozen (by simp)
    have hw4 : Below w.heap.size w w4 := HB3.out.trans (hb4.mono HB3.out.size)
    have HBF : Hid (Below w.heap.size w ((w4.setCell ⟨w.heap.size + 1, 0, none⟩ (.slice none 0 0)).setCell ⟨w.heap.size + 1, 1, none⟩ (.slice none 0 0))) := Lib.hid ((hw4.setCell (p := ⟨w.heap.size + 1, 0, none⟩) (by show w.heap.size ≤ w.heap.size + 1; omega) _).setCell (p := ⟨w.heap.size + 1, 1, none⟩) (by show w.heap.size ≤ w.heap.size + 1; omega) _)
    have C1 := (B1.set 0 (.slice none 0 0)).set 1 (.slice none 0 0)
    have r0 : ((w4.setCell ⟨w.heap.size + 1, 0, none⟩ (.slice none 0 0)).setCell ⟨w.heap.size + 1, 1, none⟩ (.slice none 0 0)).cell? ⟨w.heap.size + 1, 0, none⟩ = some (.slice none 0 0) := C1.cell rfl
    have r1 : ((w4.setCell ⟨w.heap.size + 1, 0, none⟩ (.slice none 0 0)).setCell ⟨w.heap.size + 1, 1, none⟩ (.slice none 0 0)).cell? ⟨w.heap.size + 1, 1, none⟩ = some (.slice none 0 0) := C1.cell rfl
    clear hb4 B1 C1 hw4 c00 c01
    go_wp2
    refine bodyPost_ret (v := .tuple #[.agg #[.slice none 0 0, .slice none 0 0], .int .i64 E]) (by simp [results, Try.results25, go_sem, r0, r1]) rfl ⟨_, rfl, zero_at _ _, HBF.out⟩
end Go.Proofs.Ytjancbjjeemedaa
