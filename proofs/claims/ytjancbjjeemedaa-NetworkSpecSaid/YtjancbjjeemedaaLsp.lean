/- For every link and packet NetworkSpec answers true and leaves its arguments as they were: the walk. -/
import Derived.Test.YtjancbjjeemedaaRsd
namespace Go.Proofs.Ytjancbjjeemedaa
open Go.RowKit
def q3p0 : Oper := { dst := some 26, op := Go.Op.load 25 (Go.Operand.tmp 2), type := 25, pos := "law.go:35", after := #[], guard := none }
def q3p1 : Oper := { dst := some 27, op := Go.Op.call { callee := Go.Callee.value (Go.Operand.func 13), args := #[Go.Operand.tmp 26], argTypes := #[25] }, type := 31, pos := "law.go:35", after := #[{ on := 0, ground := Go.Ground.data }], guard := none }
def q3p2 : Oper := { dst := some 28, op := Go.Op.load 25 (Go.Operand.tmp 2), type := 25, pos := "law.go:35", after := #[], guard := none }
def q3p3 : Oper := { dst := some 29, op := Go.Op.call { callee := Go.Callee.value (Go.Operand.func 14), args := #[Go.Operand.tmp 28], argTypes := #[25] }, type := 31, pos := "law.go:35", after := #[{ on := 2, ground := Go.Ground.data }, { on := 1, ground := Go.Ground.chain }], guard := none }
def q3p4 : Oper := { dst := some 30, op := Go.Op.binOp Go.BinOp.eql 31 (Go.Operand.tmp 27) (Go.Operand.tmp 29) 31, type := 4, pos := "law.go:35", after := #[{ on := 1, ground := Go.Ground.data }, { on := 3, ground := Go.Ground.data }], guard := none }
def q3p5 : Oper := { dst := some 31, op := Go.Op.move (Go.Operand.tmp 30), type := 4, pos := "law.go:35", after := #[{ on := 4, ground := Go.Ground.data }, { on := 3, ground := Go.Ground.chain }], guard := none }
def q3p6 : Oper := { dst := some 32, op := Go.Op.load 25 (Go.Operand.tmp 5), type := 25, pos := "law.go:35", after := #[{ on := 5, ground := Go.Ground.guard }], guard := some (5, true) }
def q3p7 : Oper := { dst := some 33, op := Go.Op.load 25 (Go.Operand.tmp 7), type := 25, pos := "law.go:35", after := #[{ on := 5, ground := Go.Ground.guard }], guard := some (5, true) }
def q3p8 : Oper := { dst := some 34, op := Go.Op.call { callee := Go.Callee.value (Go.Operand.func 15), args := #[Go.Operand.tmp 32, Go.Operand.tmp 33], argTypes := #[25, 25] }, type := 4, pos := "law.go:35", after := #[{ on := 6, ground := Go.Ground.data }, { on := 7, ground := Go.Ground.data }, { on := 5, ground := Go.Ground.chain }, { on := 5, ground := Go.Ground.guard }], guard := some (5, true) }
def q3p9 : Oper := { dst := some 35, op := Go.Op.pick (Go.Operand.tmp 31) (Go.Operand.tmp 34) (Go.Operand.const (Go.Value.bool false)), type := 4, pos := "law.go:35", after := #[{ on := 5, ground := Go.Ground.data }, { on := 8, ground := Go.Ground.data }], guard := none }
def q3p10 : Oper := { dst := some 36, op := Go.Op.move (Go.Operand.tmp 35), type := 4, pos := "law.go:35", after := #[{ on := 9, ground := Go.Ground.data }, { on := 8, ground := Go.Ground.chain }], guard := none }
def q3p11 : Oper := { dst := some 37, op := Go.Op.move (Go.Operand.tmp 6), type := 31, pos := "law.go:35", after := #[{ on := 10, ground := Go.Ground.guard }], guard := some (10, true) }
def q3p12 : Oper := { dst := some 38, op := Go.Op.move (Go.Operand.tmp 8), type := 31, pos := "law.go:35", after := #[{ on := 10, ground := Go.Ground.guard }], guard := some (10, true) }
def q3p13 : Oper := { dst := some 39, op := Go.Op.binOp Go.BinOp.eql 31 (Go.Operand.tmp 37) (Go.Operand.tmp 38) 31, type := 4, pos := "law.go:35", after := #[{ on := 11, ground := Go.Ground.data }, { on := 12, ground := Go.Ground.data }, { on := 10, ground := Go.Ground.guard }], guard := some (10, true) }
def q3p14 : Oper := { dst := some 40, op := Go.Op.pick (Go.Operand.tmp 36) (Go.Operand.tmp 39) (Go.Operand.const (Go.Value.bool false)), type := 4, pos := "law.go:35", after := #[{ on := 10, ground := Go.Ground.data }, { on := 13, ground := Go.Ground.data }], guard := none }
def q3p15 : Oper := { dst := some 41, op := Go.Op.move (Go.Operand.tmp 40), type := 4, pos := "law.go:35", after := #[{ on := 14, ground := Go.Ground.data }, { on := 10, ground := Go.Ground.chain }], guard := none }
def q3p16 : Oper := { dst := some 42, op := Go.Op.call { callee := Go.Callee.value (Go.Operand.func 16), args := #[], argTypes := #[] }, type := 25, pos := "law.go:35", after := #[{ on := 15, ground := Go.Ground.chain }, { on := 15, ground := Go.Ground.guard }], guard := some (15, true) }
def q3p17 : Oper := { dst := some 43, op := Go.Op.call { callee := Go.Callee.value (Go.Operand.func 17), args := #[], argTypes := #[] }, type := 25, pos := "law.go:35", after := #[{ on := 16, ground := Go.Ground.chain }, { on := 15, ground := Go.Ground.guard }], guard := some (15, true) }
def q3p18 : Oper := { dst := some 44, op := Go.Op.call { callee := Go.Callee.value (Go.Operand.func 15), args := #[Go.Operand.tmp 42, Go.Operand.tmp 43], argTypes := #[25, 25] }, type := 4, pos := "law.go:35", after := #[{ on := 16, ground := Go.Ground.data }, { on := 17, ground := Go.Ground.data }, { on := 17, ground := Go.Ground.chain }, { on := 15, ground := Go.Ground.guard }], guard := some (15, true) }
def q3p19 : Oper := { dst := some 45, op := Go.Op.pick (Go.Operand.tmp 41) (Go.Operand.tmp 44) (Go.Operand.const (Go.Value.bool false)), type := 4, pos := "law.go:35", after := #[{ on := 15, ground := Go.Ground.data }, { on := 18, ground := Go.Ground.data }], guard := none }
def q3p20 : Oper := { dst := some 4, op := Go.Op.assign (Go.Operand.tmp 45), type := 4, pos := "law.go:35", after := #[{ on := 19, ground := Go.Ground.data }, { on := 18, ground := Go.Ground.chain }, { on := 0, ground := Go.Ground.phase }, { on := 1, ground := Go.Ground.phase }, { on := 2, ground := Go.Ground.phase }, { on := 3, ground := Go.Ground.phase }, { on := 4, ground := Go.Ground.phase }, { on := 5, ground := Go.Ground.phase }, { on := 6, ground := Go.Ground.phase }, { on := 7, ground := Go.Ground.phase }, { on := 8, ground := Go.Ground.phase }, { on := 9, ground := Go.Ground.phase }, { on := 10, ground := Go.Ground.phase }, { on := 11, ground := Go.Ground.phase }, { on := 12, ground := Go.Ground.phase }, { on := 13, ground := Go.Ground.phase }, { on := 14, ground := Go.Ground.phase }, { on := 15, ground := Go.Ground.phase }, { on := 16, ground := Go.Ground.phase }, { on := 17, ground := Go.Ground.phase }, { on := 18, ground := Go.Ground.phase }, { on := 19, ground := Go.Ground.phase }], guard := none }

set_option maxRecDepth 100000 in
set_option maxHeartbeats 16000000 in
theorem lawSpec (w : World) (n : Nt) (v : Value) (p : Pk) (vp : Value) (h : NtAt w w.heap.size v n) (hp : PkAt w w.heap.size vp p) :
    Calls Try.prog 3 #[v, vp] w fun e w' => e = .returned (.bool true) ∧ Below w.heap.size w w' := by
  obtain ⟨N, hN⟩ : ∃ x, n.q.length = x := ⟨_, rfl⟩
  obtain ⟨M, hM⟩ : ∃ x, n.ap.length = x := ⟨_, rfl⟩
  obtain ⟨x, hx⟩ : ∃ x, p.frm = x := ⟨_, rfl⟩
  obtain ⟨y, hy⟩ : ∃ x, p.to = x := ⟨_, rfl⟩
  obtain ⟨L, hL⟩ : ∃ x, p.data.length = x := ⟨_, rfl⟩
  obtain ⟨s, hs⟩ : ∃ x, n.send p = x := ⟨_, rfl⟩
  obtain ⟨ns, es⟩ := s
  obtain ⟨N', hN'⟩ : ∃ x, ns.q.length = x := ⟨_, rfl⟩
  obtain ⟨M', hM'⟩ : ∃ x, ns.ap.length = x := ⟨_, rfl⟩
  have hck := fun W v h => chk_any W v n h
  have hrc := fun W v h => rchk_any W v n h
  obtain ⟨O, hO⟩ : ∃ x : Int, (if n.ok then 0 else 60) = x := ⟨_, rfl⟩
  simp only [hO] at hck hrc
  have hfew : n.few = true → n.q.length ≤ 40 := fun h => (few_iff.1 h).1
  have hfw := fun W v h => few_any W v n h
  obtain ⟨F, hF⟩ : ∃ x, n.few = x := ⟨_, rfl⟩
  simp only [hF] at hfw
  rw [hF] at hfew
  have hsd : ∀ W v vp, NtAt W W.heap.size v n → PkAt W W.heap.size vp p → Calls Try.prog 11 #[v, vp] W fun e w' => ∃ v', e = .returned (.tuple #[v', .int .i64 es]) ∧ NtAt w' w'.heap.size v' ns ∧ Below W.heap.size W w' := fun W v vp h hp => by
    have := send_any W v n h vp p hp
    rwa [hs] at this
  have hrs : F = true → ∀ W v vp, NtAt W W.heap.size v n → PkAt W W.heap.size vp p → Calls Try.prog 12 #[v, vp] W fun e w' => ∃ v', e = .returned (.tuple #[v', .int .i64 es]) ∧ NtAt w' w'.heap.size v' ns ∧ Below W.heap.size W w' := fun hf W v vp h hp => by
    have := rsend_any W v n h vp p hp (hfew hf)
    rwa [hs] at this
  obtain ⟨qa, qc, aa, ac, X0, rfl, hX, hB, hbX, hzX⟩ := h.box hN hM
  obtain ⟨pa, pc, X1, rfl, hX1, hP, hbX1, hzX1⟩ := (hp.next hbX).box hx hy hL
  rw [hzX] at hP
  have HX0 := Lib.hid hX
  have HX1 := Lib.hid hX1
  have Bn := Lib.hid (hB.next hbX1)
  have Bp := Lib.hid hP
  have HB := Lib.hid (bthen hbX hbX1)
  have HCK := Lib.hid hck
  have HRC := Lib.hid hrc
  have HFW := Lib.hid hfw
  have HSD := Lib.hid hsd
  have HRS := Lib.hid hrs
  clear h hp hX hB hbX hX1 hP hbX1 hzX1 hzX hN hM hck hfw hF hrc hO hfew hsd hrs hs hx hy hL
  go_enter Try.func3, Try.ntmps3
  go_wp2_with fail
  rw [← HX0.out, ← HX1.out]
  refine (sane_any _).mono ?_
  rintro e w1 ⟨rfl, hb⟩
  have Bn := Lib.hid (Bn.out.next hb)
  have Bp := Lib.hid (Bp.out.next hb)
  have HB := Lib.hid (bthen HB.out hb)
  clear hb
  have c0_Bn := Bn.out.c0
  have c1_Bn := Bn.out.c1
  go_wp2_with fail
  refine (HFW.out w1 _ Bn.out.nt).mono ?_
  rintro e w2 ⟨rfl, hb⟩
  have Bn := Lib.hid (Bn.out.next hb)
  have Bp := Lib.hid (Bp.out.next hb)
  have HB := Lib.hid (bthen HB.out hb)
  clear hb
  clear c0_Bn c1_Bn
  have c0_Bn := Bn.out.c0
  have c1_Bn := Bn.out.c1
  cases F with
  | false =>
    go_wp2
    go_ret
    exact ⟨rfl, HB.out⟩
  | true =>
    have HRS2 := Lib.hid (fun W v vp => HRS.out (by trivial) W v vp)
    clear c0_Bn c1_Bn
    have c0_Bn := Bn.out.c0
    have c1_Bn := Bn.out.c1
    have c0_Bp := Bp.out.c0
    have c1_Bp := Bp.out.c1
    have c2_Bp := Bp.out.c2
    go_wp2_with fail
    refine (HSD.out w2 _ _ Bn.out.nt Bp.out.pk).mono ?_
    rintro e w3 ⟨v, rfl, hu, hb⟩
    obtain ⟨qa3, qc3, aa3, ac3, X3, rfl, hX, hN, hbX, hzX⟩ := hu.box (N := N') (M := M') (by first | rfl | assumption) (by first | rfl | assumption)
    have hbb := hb.trans (hbX.mono hb.size)
    have Bn := Lib.hid (Bn.out.next hbb)
    have Bp := Lib.hid (Bp.out.next hbb)
    have HB := Lib.hid (bthen HB.out hbb)
    have Ba := Lib.hid hN
    have HX3 := Lib.hid hX
    clear hu hb hX hN hbX hzX hbb
    clear c0_Bn c1_Bn c0_Bp c1_Bp c2_Bp
    have c0_Bn := Bn.out.c0
    have c1_Bn := Bn.out.c1
    have c0_Bp := Bp.out.c0
    have c1_Bp := Bp.out.c1
    have c2_Bp := Bp.out.c2
    rw [HX3.out] at c0_Bn c1_Bn c0_Bp c1_Bp c2_Bp
    go_wp2_with fail
    rw [← HX3.out]
    refine (HRS2.out X3 _ _ Bn.out.nt Bp.out.pk).mono ?_
    rintro e w4 ⟨v, rfl, hu, hb⟩
    obtain ⟨qa4, qc4, aa4, ac4, X4, rfl, hX, hN, hbX, hzX⟩ := hu.box (N := N') (M := M') (by first | rfl | assumption) (by first | rfl | assumption)
    have hbb := hb.trans (hbX.mono hb.size)
    have Bn := Lib.hid (Bn.out.next hbb)
    have Bp := Lib.hid (Bp.out.next hbb)
    have Ba := Lib.hid (Ba.out.next hbb)
    have HB := Lib.hid (bthen HB.out hbb)
    have Bb := Lib.hid hN
    have HX4 := Lib.hid hX
    clear hu hb hX hN hbX hzX hbb
    clear c0_Bn c1_Bn c0_Bp c1_Bp c2_Bp
    go_wp2
    rw [← HX4.out]
    have hx0 : Kept X4 X4.drew := (Kept.refl _).drew
    have HSC := Lib.hid (show ∀ W, Kept X4 W → (W.cell? ⟨w.heap.size, 0, none⟩ = some (.slice qa N qc) ∧ W.cell? ⟨w.heap.size, 1, none⟩ = some (.slice aa M ac)) ∧ (W.cell? ⟨w3.heap.size, 0, none⟩ = some (.slice qa3 N' qc3) ∧ W.cell? ⟨w3.heap.size, 1, none⟩ = some (.slice aa3 M' ac3)) ∧ W.cell? ⟨w4.heap.size, 0, none⟩ = some (.slice qa4 N' qc4) ∧ W.cell? ⟨w4.heap.size, 1, none⟩ = some (.slice aa4 M' ac4) from fun W hW =>
      ⟨⟨(hW.cell Bn.out.lt).trans Bn.out.c0, (hW.cell Bn.out.lt).trans Bn.out.c1⟩, ⟨(hW.cell Ba.out.lt).trans Ba.out.c0, (hW.cell Ba.out.lt).trans Ba.out.c1⟩, (hW.cell Bb.out.lt).trans Bb.out.c0, (hW.cell Bb.out.lt).trans Bb.out.c1⟩)
    refine wp_region_held_drew (S := fun W => Kept X4 W) (by kernel_rfl) hx0 (fun hHeld => ?_)
    refine wpAnyH_take (i := 0) (oi := q3p0) (v := ?_) rfl (by kernel_rfl) (by kernel_rfl) (by kernel_rfl) (fun _ _ _ h => h) (Or.inl ⟨by rfl, ?_⟩) hHeld ?_
    rotate_left
    · (intro w hSw; obtain ⟨⟨n0, n1⟩, ⟨a0, a1⟩, b0, b1⟩ := HSC.out _ hSw; unfold q3p0; go_simp <;> with_reducible rfl)
    try simp only [q3p0, Act.put, List.setIfInBounds_toArray, List.set_cons_zero, List.set_cons_succ]
    refine wpAnyH_take (i := 2) (oi := q3p2) (v := ?_) rfl (by kernel_rfl) (by kernel_rfl) (by kernel_rfl) (fun _ _ _ h => h) (Or.inl ⟨by rfl, ?_⟩) hHeld ?_
    rotate_left
    · (intro w hSw; obtain ⟨⟨n0, n1⟩, ⟨a0, a1⟩, b0, b1⟩ := HSC.out _ hSw; unfold q3p2; go_simp <;> with_reducible rfl)
    try simp only [q3p2, Act.put, List.setIfInBounds_toArray, List.set_cons_zero, List.set_cons_succ]
    refine wpAnyH_ready (rs := [1]) (by kernel_rfl) (by simp) ?_
    refine AllReadyH.cons (o := q3p1) rfl (fun K hK => ?_) AllReadyH.nil
    rw [if_pos (by rfl)]
    unfold q3p1
    go_simp
    go_at_call 13
    refine (HCK.out X4.drew _ (Bn.out.nt.next hHeld.below)).mono ?_
    rintro e W1 ⟨rfl, hb1⟩
    have hk1 : Kept X4 W1 := hHeld.next hb1
    refine hK.out _ _ hk1 (fun hHeld => ?_)
    clear hK K
    try simp only [q3p1, Act.put, List.setIfInBounds_toArray, List.set_cons_zero, List.set_cons_succ]
    refine wpAnyH_ready (rs := [3]) (by kernel_rfl) (by simp) ?_
    refine AllReadyH.cons (o := q3p3) rfl (fun K hK => ?_) AllReadyH.nil
    rw [if_pos (by rfl)]
    unfold q3p3
    go_simp
    go_at_call 14
    refine (HRC.out W1 _ (Bn.out.nt.next hHeld.below)).mono ?_
    rintro e W3 ⟨rfl, hb3⟩
    have hk3 : Kept X4 W3 := hHeld.next hb3
    refine hK.out _ _ hk3 (fun hHeld => ?_)
    clear hK K
    try simp only [q3p3, Act.put, List.setIfInBounds_toArray, List.set_cons_zero, List.set_cons_succ]
    refine wpAnyH_take (i := 4) (oi := q3p4) (v := ?_) rfl (by kernel_rfl) (by kernel_rfl) (by kernel_rfl) (fun _ _ _ h => h) (Or.inl ⟨by rfl, ?_⟩) hHeld ?_
    rotate_left
    · (intro w hSw; (try dsimp only at hSw); unfold q3p4; go_simp <;> with_reducible rfl)
    try simp only [q3p4, Act.put, List.setIfInBounds_toArray, List.set_cons_zero, List.set_cons_succ]
    refine wpAnyH_take (i := 5) (oi := q3p5) (v := ?_) rfl (by kernel_rfl) (by kernel_rfl) (by kernel_rfl) (fun _ _ _ h => h) (Or.inl ⟨by rfl, ?_⟩) hHeld ?_
    rotate_left
    · (intro w hSw; (try dsimp only at hSw); unfold q3p5; go_simp <;> with_reducible rfl)
    try simp only [q3p5, Act.put, List.setIfInBounds_toArray, List.set_cons_zero, List.set_cons_succ]
    refine wpAnyH_take (i := 6) (oi := q3p6) (v := ?_) rfl (by kernel_rfl) (by kernel_rfl) (by kernel_rfl) (fun _ _ _ h => h) (Or.inl ⟨by rfl, ?_⟩) hHeld ?_
    rotate_left
    · (intro w hSw; obtain ⟨⟨n0, n1⟩, ⟨a0, a1⟩, b0, b1⟩ := HSC.out _ hSw; unfold q3p6; go_simp <;> with_reducible rfl)
    try simp only [q3p6, Act.put, List.setIfInBounds_toArray, List.set_cons_zero, List.set_cons_succ]
    refine wpAnyH_take (i := 7) (oi := q3p7) (v := ?_) rfl (by kernel_rfl) (by kernel_rfl) (by kernel_rfl) (fun _ _ _ h => h) (Or.inl ⟨by rfl, ?_⟩) hHeld ?_
    rotate_left
    · (intro w hSw; obtain ⟨⟨n0, n1⟩, ⟨a0, a1⟩, b0, b1⟩ := HSC.out _ hSw; unfold q3p7; go_simp <;> with_reducible rfl)
    try simp only [q3p7, Act.put, List.setIfInBounds_toArray, List.set_cons_zero, List.set_cons_succ]
    refine wpAnyH_ready (rs := [8]) (by kernel_rfl) (by simp) ?_
    refine AllReadyH.cons (o := q3p8) rfl (fun K hK => ?_) AllReadyH.nil
    rw [if_pos (by rfl)]
    unfold q3p8
    go_simp
    go_at_call 15
    refine (same_any W3 _ _ ns (Ba.out.nt.next hHeld.below) (Bb.out.nt.next hHeld.below)).mono ?_
    rintro e W8 ⟨rfl, hb8⟩
    have hk8 : Kept X4 W8 := hHeld.next hb8
    refine hK.out _ _ hk8 (fun hHeld => ?_)
    clear hK K
    try simp only [q3p8, Act.put, List.setIfInBounds_toArray, List.set_cons_zero, List.set_cons_succ]
    refine wpAnyH_take (i := 9) (oi := q3p9) (v := ?_) rfl (by kernel_rfl) (by kernel_rfl) (by kernel_rfl) (fun _ _ _ h => h) (Or.inl ⟨by rfl, ?_⟩) hHeld ?_
    rotate_left
    · (intro w hSw; (try dsimp only at hSw); unfold q3p9; go_simp <;> with_reducible rfl)
    try simp only [q3p9, Act.put, List.setIfInBounds_toArray, List.set_cons_zero, List.set_cons_succ]
    refine wpAnyH_take (i := 10) (oi := q3p10) (v := ?_) rfl (by kernel_rfl) (by kernel_rfl) (by kernel_rfl) (fun _ _ _ h => h) (Or.inl ⟨by rfl, ?_⟩) hHeld ?_
    rotate_left
    · (intro w hSw; (try dsimp only at hSw); unfold q3p10; go_simp <;> with_reducible rfl)
    try simp only [q3p10, Act.put, List.setIfInBounds_toArray, List.set_cons_zero, List.set_cons_succ]
    refine wpAnyH_take (i := 11) (oi := q3p11) (v := ?_) rfl (by kernel_rfl) (by kernel_rfl) (by kernel_rfl) (fun _ _ _ h => h) (Or.inl ⟨by rfl, ?_⟩) hHeld ?_
    rotate_left
    · (intro w hSw; (try dsimp only at hSw); unfold q3p11; go_simp <;> with_reducible rfl)
    try simp only [q3p11, Act.put, List.setIfInBounds_toArray, List.set_cons_zero, List.set_cons_succ]
    refine wpAnyH_take (i := 12) (oi := q3p12) (v := ?_) rfl (by kernel_rfl) (by kernel_rfl) (by kernel_rfl) (fun _ _ _ h => h) (Or.inl ⟨by rfl, ?_⟩) hHeld ?_
    rotate_left
    · (intro w hSw; (try dsimp only at hSw); unfold q3p12; go_simp <;> with_reducible rfl)
    try simp only [q3p12, Act.put, List.setIfInBounds_toArray, List.set_cons_zero, List.set_cons_succ]
    refine wpAnyH_take (i := 13) (oi := q3p13) (v := ?_) rfl (by kernel_rfl) (by kernel_rfl) (by kernel_rfl) (fun _ _ _ h => h) (Or.inl ⟨by rfl, ?_⟩) hHeld ?_
    rotate_left
    · (intro w hSw; (try dsimp only at hSw); unfold q3p13; go_simp <;> with_reducible rfl)
    try simp only [q3p13, Act.put, List.setIfInBounds_toArray, List.set_cons_zero, List.set_cons_succ]
    refine wpAnyH_take (i := 14) (oi := q3p14) (v := ?_) rfl (by kernel_rfl) (by kernel_rfl) (by kernel_rfl) (fun _ _ _ h => h) (Or.inl ⟨by rfl, ?_⟩) hHeld ?_
    rotate_left
    · (intro w hSw; (try dsimp only at hSw); unfold q3p14; go_simp <;> with_reducible rfl)
    try simp only [q3p14, Act.put, List.setIfInBounds_toArray, List.set_cons_zero, List.set_cons_succ]
    refine wpAnyH_take (i := 15) (oi := q3p15) (v := ?_) rfl (by kernel_rfl) (by kernel_rfl) (by kernel_rfl) (fun _ _ _ h => h) (Or.inl ⟨by rfl, ?_⟩) hHeld ?_
    rotate_left
    · (intro w hSw; (try dsimp only at hSw); unfold q3p15; go_simp <;> with_reducible rfl)
    try simp only [q3p15, Act.put, List.setIfInBounds_toArray, List.set_cons_zero, List.set_cons_succ]
    refine wpAnyH_ready (rs := [16]) (by kernel_rfl) (by simp) ?_
    refine AllReadyH.cons (o := q3p16) rfl (fun K hK => ?_) AllReadyH.nil
    rw [if_pos (by rfl)]
    unfold q3p16
    go_simp
    go_at_call 16
    refine (new_any W8).mono ?_
    rintro e W16 ⟨rfl, hb16⟩
    have hk16 : Kept X4 W16 := hHeld.next hb16
    refine hK.out _ _ hk16 (fun hHeld => ?_)
    clear hK K
    try simp only [q3p16, Act.put, List.setIfInBounds_toArray, List.set_cons_zero, List.set_cons_succ]
    refine wpAnyH_ready (rs := [17]) (by kernel_rfl) (by simp) ?_
    refine AllReadyH.cons (o := q3p17) rfl (fun K hK => ?_) AllReadyH.nil
    rw [if_pos (by rfl)]
    unfold q3p17
    go_simp
    go_at_call 17
    refine (rnew_any W16).mono ?_
    rintro e W17 ⟨rfl, hb17⟩
    have hk17 : Kept X4 W17 := hHeld.next hb17
    refine hK.out _ _ hk17 (fun hHeld => ?_)
    clear hK K
    try simp only [q3p17, Act.put, List.setIfInBounds_toArray, List.set_cons_zero, List.set_cons_succ]
    refine wpAnyH_ready (rs := [18]) (by kernel_rfl) (by simp) ?_
    refine AllReadyH.cons (o := q3p18) rfl (fun K hK => ?_) AllReadyH.nil
    rw [if_pos (by rfl)]
    unfold q3p18
    go_simp
    go_at_call 15
    refine (same_any W17 _ _ Nt.zero (zero_at _ _) (zero_at _ _)).mono ?_
    rintro e W18 ⟨rfl, hb18⟩
    have hk18 : Kept X4 W18 := hHeld.next hb18
    refine hK.out _ _ hk18 (fun hHeld => ?_)
    clear hK K
    try simp only [q3p18, Act.put, List.setIfInBounds_toArray, List.set_cons_zero, List.set_cons_succ]
    refine wpAnyH_take (i := 19) (oi := q3p19) (v := ?_) rfl (by kernel_rfl) (by kernel_rfl) (by kernel_rfl) (fun _ _ _ h => h) (Or.inl ⟨by rfl, ?_⟩) hHeld ?_
    rotate_left
    · (intro w hSw; (try dsimp only at hSw); unfold q3p19; go_simp <;> with_reducible rfl)
    try simp only [q3p19, Act.put, List.setIfInBounds_toArray, List.set_cons_zero, List.set_cons_succ]
    refine wpAnyH_take (i := 20) (oi := q3p20) (v := ?_) rfl (by kernel_rfl) (by kernel_rfl) (by kernel_rfl) (fun _ _ _ h => h) (Or.inl ⟨by rfl, ?_⟩) hHeld ?_
    rotate_left
    · (intro w hSw; (try dsimp only at hSw); unfold q3p20; go_simp <;> with_reducible rfl)
    try simp only [q3p20, Act.put, List.setIfInBounds_toArray, List.set_cons_zero, List.set_cons_succ]
    refine wpAnyH_done (by kernel_rfl) ?_ _
    have HF := Lib.hid (bthen HB.out hk18.below)
    go_wp2
    go_ret
    exact ⟨rfl, HF.out⟩
end Go.Proofs.Ytjancbjjeemedaa
