/- For every number and disk DiskNewSpec answers true and leaves its arguments as they were. No condition but the row's own. -/
import Derived.Test.YtmklchjgiaomkaaSnw
import Derived.Test.YtmklchjgiaomkaaRnw
import Derived.Test.YtmklchjgiaomkaaArg
namespace Go.Proofs.Ytmklchjgiaomkaa
open Go.RowKit Go.ChangeShapes Go.WideShapes Go.ChangeAt

/-- What the last region keeps: three disks. -/
def SNew (W0 : World) (b6 b5 b3 : Nat) (a0 a1 a2 a3 c0 c1 c2 c3 e0 e1 e2 e3 : Value) (W : World) : Prop :=
  Below W0.heap.size W0 W ∧ Cells4 W b6 a0 a1 a2 a3 ∧ Cells4 W b5 c0 c1 c2 c3 ∧ Cells4 W b3 e0 e1 e2 e3
def q3c0 : Oper := { dst := some 32, op := Go.Op.load 25 (Go.Operand.tmp 5), type := 25, pos := "law.go:41", after := #[], guard := none }
def q3c1 : Oper := { dst := some 33, op := Go.Op.load 25 (Go.Operand.tmp 7), type := 25, pos := "law.go:41", after := #[], guard := none }
def q3c2 : Oper := { dst := some 34, op := Go.Op.call { callee := Go.Callee.value (Go.Operand.func 14), args := #[Go.Operand.tmp 32, Go.Operand.tmp 33], argTypes := #[25, 25] }, type := 4, pos := "law.go:41", after := #[{ on := 0, ground := Go.Ground.data }, { on := 1, ground := Go.Ground.data }], guard := none }
def q3c3 : Oper := { dst := some 35, op := Go.Op.move (Go.Operand.tmp 34), type := 4, pos := "law.go:41", after := #[{ on := 2, ground := Go.Ground.data }, { on := 2, ground := Go.Ground.chain }], guard := none }
def q3c4 : Oper := { dst := some 36, op := Go.Op.move (Go.Operand.tmp 6), type := 28, pos := "law.go:41", after := #[{ on := 3, ground := Go.Ground.guard }], guard := some (3, true) }
def q3c5 : Oper := { dst := some 37, op := Go.Op.move (Go.Operand.tmp 8), type := 28, pos := "law.go:41", after := #[{ on := 3, ground := Go.Ground.guard }], guard := some (3, true) }
def q3c6 : Oper := { dst := some 38, op := Go.Op.binOp Go.BinOp.eql 28 (Go.Operand.tmp 36) (Go.Operand.tmp 37) 28, type := 4, pos := "law.go:41", after := #[{ on := 4, ground := Go.Ground.data }, { on := 5, ground := Go.Ground.data }, { on := 3, ground := Go.Ground.guard }], guard := some (3, true) }
def q3c7 : Oper := { dst := some 39, op := Go.Op.pick (Go.Operand.tmp 35) (Go.Operand.tmp 38) (Go.Operand.const (Go.Value.bool false)), type := 4, pos := "law.go:41", after := #[{ on := 3, ground := Go.Ground.data }, { on := 6, ground := Go.Ground.data }], guard := none }
def q3c8 : Oper := { dst := some 40, op := Go.Op.move (Go.Operand.tmp 39), type := 4, pos := "law.go:41", after := #[{ on := 7, ground := Go.Ground.data }, { on := 3, ground := Go.Ground.chain }], guard := none }
def q3c9 : Oper := { dst := some 41, op := Go.Op.load 25 (Go.Operand.tmp 3), type := 25, pos := "law.go:41", after := #[{ on := 8, ground := Go.Ground.guard }], guard := some (8, true) }
def q3c10 : Oper := { dst := some 42, op := Go.Op.call { callee := Go.Callee.value (Go.Operand.func 15), args := #[Go.Operand.tmp 41], argTypes := #[25] }, type := 28, pos := "law.go:41", after := #[{ on := 9, ground := Go.Ground.data }, { on := 8, ground := Go.Ground.chain }, { on := 8, ground := Go.Ground.guard }], guard := some (8, true) }
def q3c11 : Oper := { dst := some 43, op := Go.Op.load 25 (Go.Operand.tmp 3), type := 25, pos := "law.go:41", after := #[{ on := 8, ground := Go.Ground.guard }], guard := some (8, true) }
def q3c12 : Oper := { dst := some 44, op := Go.Op.call { callee := Go.Callee.value (Go.Operand.func 16), args := #[Go.Operand.tmp 43], argTypes := #[25] }, type := 28, pos := "law.go:41", after := #[{ on := 11, ground := Go.Ground.data }, { on := 10, ground := Go.Ground.chain }, { on := 8, ground := Go.Ground.guard }], guard := some (8, true) }
def q3c13 : Oper := { dst := some 45, op := Go.Op.binOp Go.BinOp.eql 28 (Go.Operand.tmp 42) (Go.Operand.tmp 44) 28, type := 4, pos := "law.go:41", after := #[{ on := 10, ground := Go.Ground.data }, { on := 12, ground := Go.Ground.data }, { on := 8, ground := Go.Ground.guard }], guard := some (8, true) }
def q3c14 : Oper := { dst := some 46, op := Go.Op.pick (Go.Operand.tmp 40) (Go.Operand.tmp 45) (Go.Operand.const (Go.Value.bool false)), type := 4, pos := "law.go:41", after := #[{ on := 8, ground := Go.Ground.data }, { on := 13, ground := Go.Ground.data }], guard := none }
def q3c15 : Oper := { dst := some 47, op := Go.Op.move (Go.Operand.tmp 46), type := 4, pos := "law.go:41", after := #[{ on := 14, ground := Go.Ground.data }, { on := 12, ground := Go.Ground.chain }], guard := none }
def q3c16 : Oper := { dst := some 48, op := Go.Op.load 25 (Go.Operand.tmp 3), type := 25, pos := "law.go:41", after := #[{ on := 15, ground := Go.Ground.guard }], guard := some (15, true) }
def q3c17 : Oper := { dst := some 49, op := Go.Op.call { callee := Go.Callee.value (Go.Operand.func 17), args := #[Go.Operand.tmp 48], argTypes := #[25] }, type := 25, pos := "law.go:41", after := #[{ on := 16, ground := Go.Ground.data }, { on := 15, ground := Go.Ground.chain }, { on := 15, ground := Go.Ground.guard }], guard := some (15, true) }
def q3c18 : Oper := { dst := some 50, op := Go.Op.load 25 (Go.Operand.tmp 3), type := 25, pos := "law.go:41", after := #[{ on := 15, ground := Go.Ground.guard }], guard := some (15, true) }
def q3c19 : Oper := { dst := some 51, op := Go.Op.call { callee := Go.Callee.value (Go.Operand.func 18), args := #[Go.Operand.tmp 50], argTypes := #[25] }, type := 25, pos := "law.go:41", after := #[{ on := 18, ground := Go.Ground.data }, { on := 17, ground := Go.Ground.chain }, { on := 15, ground := Go.Ground.guard }], guard := some (15, true) }
def q3c20 : Oper := { dst := some 52, op := Go.Op.call { callee := Go.Callee.value (Go.Operand.func 14), args := #[Go.Operand.tmp 49, Go.Operand.tmp 51], argTypes := #[25, 25] }, type := 4, pos := "law.go:41", after := #[{ on := 17, ground := Go.Ground.data }, { on := 19, ground := Go.Ground.data }, { on := 19, ground := Go.Ground.chain }, { on := 15, ground := Go.Ground.guard }], guard := some (15, true) }
def q3c21 : Oper := { dst := some 53, op := Go.Op.pick (Go.Operand.tmp 47) (Go.Operand.tmp 52) (Go.Operand.const (Go.Value.bool false)), type := 4, pos := "law.go:41", after := #[{ on := 15, ground := Go.Ground.data }, { on := 20, ground := Go.Ground.data }], guard := none }
def q3c22 : Oper := { dst := some 4, op := Go.Op.assign (Go.Operand.tmp 53), type := 4, pos := "law.go:41", after := #[{ on := 21, ground := Go.Ground.data }, { on := 20, ground := Go.Ground.chain }, { on := 0, ground := Go.Ground.phase }, { on := 1, ground := Go.Ground.phase }, { on := 2, ground := Go.Ground.phase }, { on := 3, ground := Go.Ground.phase }, { on := 4, ground := Go.Ground.phase }, { on := 5, ground := Go.Ground.phase }, { on := 6, ground := Go.Ground.phase }, { on := 7, ground := Go.Ground.phase }, { on := 8, ground := Go.Ground.phase }, { on := 9, ground := Go.Ground.phase }, { on := 10, ground := Go.Ground.phase }, { on := 11, ground := Go.Ground.phase }, { on := 12, ground := Go.Ground.phase }, { on := 13, ground := Go.Ground.phase }, { on := 14, ground := Go.Ground.phase }, { on := 15, ground := Go.Ground.phase }, { on := 16, ground := Go.Ground.phase }, { on := 17, ground := Go.Ground.phase }, { on := 18, ground := Go.Ground.phase }, { on := 19, ground := Go.Ground.phase }, { on := 20, ground := Go.Ground.phase }, { on := 21, ground := Go.Ground.phase }], guard := none }
set_option maxRecDepth 100000 in
set_option maxHeartbeats 8000000 in
theorem lawNew (w : World) (n : Int) (d : Dk) (v : Value) (h : DkAt w w.heap.size v d) :
    Calls Try.prog 3 #[.int .i64 n, v] w fun e w' => e = .returned (.bool true) ∧ Below w.heap.size w w' := by
  obtain ⟨k, hk⟩ : ∃ k, d.sec.length = k := ⟨_, rfl⟩
  obtain ⟨p, hp⟩ : ∃ k, d.pen.length = k := ⟨_, rfl⟩
  obtain ⟨left, hle⟩ : ∃ x, d.left = x := ⟨_, rfl⟩
  obtain ⟨st, hst⟩ : ∃ x, d.stop = x := ⟨_, rfl⟩
  obtain ⟨sa, cs, ap, cp, w1, rfl, hw1, hX, hB, -⟩ := h.box hk hp hle hst
  have HW := Lib.hid hw1
  have HX := Lib.hid hX
  have HBASE := Lib.hid hB
  clear h hw1 hX hB hk hp hle hst
  go_enter Try.func3, Try.ntmps3
  go_wp2_with fail
  rw [← HW.out]
  refine (sane_any _).mono ?_
  rintro e w2 ⟨rfl, hB⟩
  have HX := Lib.hid (HX.out.next hB)
  have HBASE := Lib.hid (Below.andthen HBASE.out hB)
  clear hB
  by_cases hskip : 60 < n ∧ n ≤ 4096
  · have d1 : decide (60 < n) = true := by simp; omega
    have d2 : decide (n ≤ 4096) = true := by simp; omega
    go_wp2_with fail
    go_ret
    exact ⟨rfl, HBASE.out⟩
  have hrange : n ≤ 60 ∨ 4096 < n := by omega
  have dq : decide (60 < n) = false ∨ (decide (60 < n) = true ∧ decide (n ≤ 4096) = false) := by
    by_cases hh : 60 < n
    · exact .inr ⟨by simpa using hh, by simp; omega⟩
    · exact .inl (by simpa using hh)
  have HRANGE := Lib.hid hrange
  clear hskip hrange
  obtain ⟨e0, e1, e2, e3⟩ := HX.out.four
  have HFEW := Lib.hid (few_any _ d _ HX.out.dk)
  rcases dq with d1 | ⟨d1, d2⟩
  all_goals
    go_wp2_with fail
    refine HFEW.out.mono ?_
    rintro e w3 ⟨f, rfl, hB⟩
    clear e0 e1 e2 e3
    clear HFEW
    have HX := Lib.hid (HX.out.next hB)
    have HBASE := Lib.hid (Below.andthen HBASE.out hB)
    clear hB
    cases f with
    | false =>
      go_wp2
      go_ret
      exact ⟨rfl, HBASE.out⟩
    | true =>
      obtain ⟨X, hXe⟩ : ∃ x, Dk.new n = x := ⟨_, rfl⟩
      have hcw := fun W => new_any W n HRANGE.out
      have hcr := fun W => rnew_any W n HRANGE.out
      rw [hXe] at hcw hcr
      obtain ⟨X, F⟩ := X
      simp only at hcw hcr
      have HCW := Lib.hid hcw
      have HCR := Lib.hid hcr
      have dF : (F == F) = true := by simp
      obtain ⟨k5, hk5⟩ : ∃ x, X.sec.length = x := ⟨_, rfl⟩
      obtain ⟨p5, hp5⟩ : ∃ x, X.pen.length = x := ⟨_, rfl⟩
      obtain ⟨l5, hl5⟩ : ∃ x, X.left = x := ⟨_, rfl⟩
      obtain ⟨t5, ht5⟩ : ∃ x, X.stop = x := ⟨_, rfl⟩
      have HL5 := Lib.hid (And.intro hk5 (And.intro hp5 (And.intro hl5 ht5)))
      clear hXe hcw hcr hk5 hp5 hl5 ht5
      go_wp2_with fail
      refine (HCW.out _).mono ?_
      rintro e w5 ⟨u5, rfl, hu5, hB⟩
      have HX := Lib.hid (HX.out.next hB)
      have HBASE := Lib.hid (Below.andthen HBASE.out hB)
      clear hB
      obtain ⟨s5, c5, a5, q5, W5, rfl, hw5, hX5, hB, -⟩ := hu5.box HL5.out.1 HL5.out.2.1 HL5.out.2.2.1 HL5.out.2.2.2
      have HW := Lib.hid hw5
      have HX5 := Lib.hid hX5
      clear hu5 hw5 hX5
      have HX := Lib.hid (HX.out.next hB)
      have HBASE := Lib.hid (Below.andthen HBASE.out hB)
      clear hB
      go_wp2_with fail
      rw [← HW.out]
      refine (HCR.out _).mono ?_
      rintro e w6 ⟨u6, rfl, hu6, hB⟩
      have HX := Lib.hid (HX.out.next hB)
      have HX5 := Lib.hid (HX5.out.next hB)
      have HBASE := Lib.hid (Below.andthen HBASE.out hB)
      clear hB
      obtain ⟨s6, c6, a6, q6, W6, rfl, hw6, hX6, hB, -⟩ := hu6.box HL5.out.1 HL5.out.2.1 HL5.out.2.2.1 HL5.out.2.2.2
      have HW := Lib.hid hw6
      have HX6 := Lib.hid hX6
      clear hu6 hw6 hX6
      have HX := Lib.hid (HX.out.next hB)
      have HX5 := Lib.hid (HX5.out.next hB)
      have HBASE := Lib.hid (Below.andthen HBASE.out hB)
      clear hB
      have hS0 : SNew W6 w6.heap.size w5.heap.size w.heap.size (.slice s6 k5 c6) (.slice a6 p5 q6) (.int .i64 l5) (.bool t5) (.slice s5 k5 c5) (.slice a5 p5 q5) (.int .i64 l5) (.bool t5) (.slice sa k cs) (.slice ap p cp) (.int .i64 left) (.bool st) W6 := ⟨Below.refl _ _, HX6.out.four, HX5.out.four, HX.out.four⟩
      have hSn : ∀ W W', SNew W6 w6.heap.size w5.heap.size w.heap.size (.slice s6 k5 c6) (.slice a6 p5 q6) (.int .i64 l5) (.bool t5) (.slice s5 k5 c5) (.slice a5 p5 q5) (.int .i64 l5) (.bool t5) (.slice sa k cs) (.slice ap p cp) (.int .i64 left) (.bool st) W → Below W.heap.size W W' → SNew W6 w6.heap.size w5.heap.size w.heap.size (.slice s6 k5 c6) (.slice a6 p5 q6) (.int .i64 l5) (.bool t5) (.slice s5 k5 c5) (.slice a5 p5 q5) (.int .i64 l5) (.bool t5) (.slice sa k cs) (.slice ap p cp) (.int .i64 left) (.bool st) W' :=
        fun W W' hS hB => ⟨hS.1.trans (hB.mono hS.1.size), hS.2.1.next hB, hS.2.2.1.next hB, hS.2.2.2.next hB⟩
      obtain ⟨S, hSd⟩ : ∃ S, SNew W6 w6.heap.size w5.heap.size w.heap.size (.slice s6 k5 c6) (.slice a6 p5 q6) (.int .i64 l5) (.bool t5) (.slice s5 k5 c5) (.slice a5 p5 q5) (.int .i64 l5) (.bool t5) (.slice sa k cs) (.slice ap p cp) (.int .i64 left) (.bool st) = S := ⟨_, rfl⟩
      have hSc : ∀ W, S W → SNew W6 w6.heap.size w5.heap.size w.heap.size (.slice s6 k5 c6) (.slice a6 p5 q6) (.int .i64 l5) (.bool t5) (.slice s5 k5 c5) (.slice a5 p5 q5) (.int .i64 l5) (.bool t5) (.slice sa k cs) (.slice ap p cp) (.int .i64 left) (.bool st) W := fun W h => by rw [hSd]; exact h
      rw [hSd] at hS0 hSn
      clear hSd
      have HS0 := Lib.hid hS0
      have HSN := Lib.hid hSn
      have HSC := Lib.hid hSc
      have h14 := fun W hW => same_any W X X _ _ (HX5.out.dk.next (HSC.out W hW).1) (HX6.out.dk.next (HSC.out W hW).1)
      rw [Dk.same_refl] at h14
      have h15 := fun W hW => check_any W d _ (HX.out.dk.next (HSC.out W hW).1)
      have h16 := fun W hW => rcheck_any W d _ (HX.out.dk.next (HSC.out W hW).1)
      have h17 := fun W hW => restart_any W d _ (HX.out.dk.next (HSC.out W hW).1) 17 (.inl rfl)
      have h18 := fun W hW => restart_any W d _ (HX.out.dk.next (HSC.out W hW).1) 18 (.inr rfl)
      obtain ⟨G, hG⟩ : ∃ G : Int, (if d.ok then 0 else 40) = G := ⟨_, rfl⟩
      rw [hG] at h15 h16
      have dG : (G == G) = true := by simp
      have H14 := Lib.hid h14
      have H15 := Lib.hid h15
      have H16 := Lib.hid h16
      have H17 := Lib.hid h17
      have H18 := Lib.hid h18
      clear hS0 hSn hSc h14 h15 h16 h17 h18 hG HCW HCR
      go_wp2_with fail
      rw [← HW.out]
      refine wp_region_held_drew (S := S) (by kernel_rfl) (HSN.out _ _ HS0.out (Below.drew (Below.refl _ _))) (fun hHeld => ?_)
      refine wpAnyH_take (i := 0) (oi := q3c0) (v := ?_) rfl (by kernel_rfl) (by kernel_rfl) (by kernel_rfl) (fun _ _ _ h => h) (Or.inl ⟨by rfl, ?_⟩) hHeld ?_
      rotate_left
      · (intro w hSw; obtain ⟨-, ⟨a0, a1, a2, a3⟩, ⟨b0, b1, b2, b3⟩, ⟨c0, c1, c2, c3⟩⟩ := HSC.out _ hSw; unfold q3c0; go_simp <;> with_reducible rfl)
      try simp only [q3c0, Act.put, List.setIfInBounds_toArray, List.set_cons_zero, List.set_cons_succ]
      refine wpAnyH_take (i := 1) (oi := q3c1) (v := ?_) rfl (by kernel_rfl) (by kernel_rfl) (by kernel_rfl) (fun _ _ _ h => h) (Or.inl ⟨by rfl, ?_⟩) hHeld ?_
      rotate_left
      · (intro w hSw; obtain ⟨-, ⟨a0, a1, a2, a3⟩, ⟨b0, b1, b2, b3⟩, ⟨c0, c1, c2, c3⟩⟩ := HSC.out _ hSw; unfold q3c1; go_simp <;> with_reducible rfl)
      try simp only [q3c1, Act.put, List.setIfInBounds_toArray, List.set_cons_zero, List.set_cons_succ]
      refine wpAnyH_ready (rs := [2]) (by kernel_rfl) (by simp) ?_
      refine AllReadyH.cons (o := q3c2) rfl (fun K hK => ?_) AllReadyH.nil
      rw [if_pos (by rfl)]
      unfold q3c2
      go_simp
      (with_reducible refine (H14.out _ hHeld).mono ?_)
      rintro e w' ⟨rfl, hB'⟩
      have hS' := HSN.out _ _ hHeld hB'
      go_wp2_with fail
      refine hK.out _ _ hS' (fun hHeld => ?_)
      clear hK K
      try simp only [q3c2, Act.put, List.setIfInBounds_toArray, List.set_cons_zero, List.set_cons_succ]
      refine wpAnyH_take (i := 3) (oi := q3c3) (v := ?_) rfl (by kernel_rfl) (by kernel_rfl) (by kernel_rfl) (fun _ _ _ h => h) (Or.inl ⟨by rfl, ?_⟩) hHeld ?_
      rotate_left
      · (intro w hSw; (try dsimp only at hSw); unfold q3c3; go_simp <;> with_reducible rfl)
      try simp only [q3c3, Act.put, List.setIfInBounds_toArray, List.set_cons_zero, List.set_cons_succ]
      refine wpAnyH_take (i := 4) (oi := q3c4) (v := ?_) rfl (by kernel_rfl) (by kernel_rfl) (by kernel_rfl) (fun _ _ _ h => h) (Or.inl ⟨by rfl, ?_⟩) hHeld ?_
      rotate_left
      · (intro w hSw; (try dsimp only at hSw); unfold q3c4; go_simp <;> with_reducible rfl)
      try simp only [q3c4, Act.put, List.setIfInBounds_toArray, List.set_cons_zero, List.set_cons_succ]
      refine wpAnyH_take (i := 5) (oi := q3c5) (v := ?_) rfl (by kernel_rfl) (by kernel_rfl) (by kernel_rfl) (fun _ _ _ h => h) (Or.inl ⟨by rfl, ?_⟩) hHeld ?_
      rotate_left
      · (intro w hSw; (try dsimp only at hSw); unfold q3c5; go_simp <;> with_reducible rfl)
      try simp only [q3c5, Act.put, List.setIfInBounds_toArray, List.set_cons_zero, List.set_cons_succ]
      refine wpAnyH_take (i := 6) (oi := q3c6) (v := ?_) rfl (by kernel_rfl) (by kernel_rfl) (by kernel_rfl) (fun _ _ _ h => h) (Or.inl ⟨by rfl, ?_⟩) hHeld ?_
      rotate_left
      · (intro w hSw; (try dsimp only at hSw); unfold q3c6; go_simp <;> with_reducible rfl)
      try simp only [q3c6, Act.put, List.setIfInBounds_toArray, List.set_cons_zero, List.set_cons_succ]
      refine wpAnyH_take (i := 7) (oi := q3c7) (v := ?_) rfl (by kernel_rfl) (by kernel_rfl) (by kernel_rfl) (fun _ _ _ h => h) (Or.inl ⟨by rfl, ?_⟩) hHeld ?_
      rotate_left
      · (intro w hSw; (try dsimp only at hSw); unfold q3c7; go_simp <;> with_reducible rfl)
      try simp only [q3c7, Act.put, List.setIfInBounds_toArray, List.set_cons_zero, List.set_cons_succ]
      refine wpAnyH_take (i := 8) (oi := q3c8) (v := ?_) rfl (by kernel_rfl) (by kernel_rfl) (by kernel_rfl) (fun _ _ _ h => h) (Or.inl ⟨by rfl, ?_⟩) hHeld ?_
      rotate_left
      · (intro w hSw; (try dsimp only at hSw); unfold q3c8; go_simp <;> with_reducible rfl)
      try simp only [q3c8, Act.put, List.setIfInBounds_toArray, List.set_cons_zero, List.set_cons_succ]
      refine wpAnyH_take (i := 9) (oi := q3c9) (v := ?_) rfl (by kernel_rfl) (by kernel_rfl) (by kernel_rfl) (fun _ _ _ h => h) (Or.inl ⟨by rfl, ?_⟩) hHeld ?_
      rotate_left
      · (intro w hSw; obtain ⟨-, ⟨a0, a1, a2, a3⟩, ⟨b0, b1, b2, b3⟩, ⟨c0, c1, c2, c3⟩⟩ := HSC.out _ hSw; unfold q3c9; go_simp <;> with_reducible rfl)
      try simp only [q3c9, Act.put, List.setIfInBounds_toArray, List.set_cons_zero, List.set_cons_succ]
      refine wpAnyH_take (i := 11) (oi := q3c11) (v := ?_) rfl (by kernel_rfl) (by kernel_rfl) (by kernel_rfl) (fun _ _ _ h => h) (Or.inl ⟨by rfl, ?_⟩) hHeld ?_
      rotate_left
      · (intro w hSw; obtain ⟨-, ⟨a0, a1, a2, a3⟩, ⟨b0, b1, b2, b3⟩, ⟨c0, c1, c2, c3⟩⟩ := HSC.out _ hSw; unfold q3c11; go_simp <;> with_reducible rfl)
      try simp only [q3c11, Act.put, List.setIfInBounds_toArray, List.set_cons_zero, List.set_cons_succ]
      refine wpAnyH_ready (rs := [10]) (by kernel_rfl) (by simp) ?_
      refine AllReadyH.cons (o := q3c10) rfl (fun K hK => ?_) AllReadyH.nil
      rw [if_pos (by rfl)]
      unfold q3c10
      go_simp
      (with_reducible refine (H15.out _ hHeld).mono ?_)
      rintro e w' ⟨rfl, hB'⟩
      have hS' := HSN.out _ _ hHeld hB'
      go_wp2_with fail
      refine hK.out _ _ hS' (fun hHeld => ?_)
      clear hK K
      try simp only [q3c10, Act.put, List.setIfInBounds_toArray, List.set_cons_zero, List.set_cons_succ]
      refine wpAnyH_ready (rs := [12]) (by kernel_rfl) (by simp) ?_
      refine AllReadyH.cons (o := q3c12) rfl (fun K hK => ?_) AllReadyH.nil
      rw [if_pos (by rfl)]
      unfold q3c12
      go_simp
      (with_reducible refine (H16.out _ hHeld).mono ?_)
      rintro e w' ⟨rfl, hB'⟩
      have hS' := HSN.out _ _ hHeld hB'
      go_wp2_with fail
      refine hK.out _ _ hS' (fun hHeld => ?_)
      clear hK K
      try simp only [q3c12, Act.put, List.setIfInBounds_toArray, List.set_cons_zero, List.set_cons_succ]
      refine wpAnyH_take (i := 13) (oi := q3c13) (v := ?_) rfl (by kernel_rfl) (by kernel_rfl) (by kernel_rfl) (fun _ _ _ h => h) (Or.inl ⟨by rfl, ?_⟩) hHeld ?_
      rotate_left
      · (intro w hSw; (try dsimp only at hSw); unfold q3c13; go_simp <;> with_reducible rfl)
      try simp only [q3c13, Act.put, List.setIfInBounds_toArray, List.set_cons_zero, List.set_cons_succ]
      refine wpAnyH_take (i := 14) (oi := q3c14) (v := ?_) rfl (by kernel_rfl) (by kernel_rfl) (by kernel_rfl) (fun _ _ _ h => h) (Or.inl ⟨by rfl, ?_⟩) hHeld ?_
      rotate_left
      · (intro w hSw; (try dsimp only at hSw); unfold q3c14; go_simp <;> with_reducible rfl)
      try simp only [q3c14, Act.put, List.setIfInBounds_toArray, List.set_cons_zero, List.set_cons_succ]
      refine wpAnyH_take (i := 15) (oi := q3c15) (v := ?_) rfl (by kernel_rfl) (by kernel_rfl) (by kernel_rfl) (fun _ _ _ h => h) (Or.inl ⟨by rfl, ?_⟩) hHeld ?_
      rotate_left
      · (intro w hSw; (try dsimp only at hSw); unfold q3c15; go_simp <;> with_reducible rfl)
      try simp only [q3c15, Act.put, List.setIfInBounds_toArray, List.set_cons_zero, List.set_cons_succ]
      refine wpAnyH_take (i := 16) (oi := q3c16) (v := ?_) rfl (by kernel_rfl) (by kernel_rfl) (by kernel_rfl) (fun _ _ _ h => h) (Or.inl ⟨by rfl, ?_⟩) hHeld ?_
      rotate_left
      · (intro w hSw; obtain ⟨-, ⟨a0, a1, a2, a3⟩, ⟨b0, b1, b2, b3⟩, ⟨c0, c1, c2, c3⟩⟩ := HSC.out _ hSw; unfold q3c16; go_simp <;> with_reducible rfl)
      try simp only [q3c16, Act.put, List.setIfInBounds_toArray, List.set_cons_zero, List.set_cons_succ]
      refine wpAnyH_take (i := 18) (oi := q3c18) (v := ?_) rfl (by kernel_rfl) (by kernel_rfl) (by kernel_rfl) (fun _ _ _ h => h) (Or.inl ⟨by rfl, ?_⟩) hHeld ?_
      rotate_left
      · (intro w hSw; obtain ⟨-, ⟨a0, a1, a2, a3⟩, ⟨b0, b1, b2, b3⟩, ⟨c0, c1, c2, c3⟩⟩ := HSC.out _ hSw; unfold q3c18; go_simp <;> with_reducible rfl)
      try simp only [q3c18, Act.put, List.setIfInBounds_toArray, List.set_cons_zero, List.set_cons_succ]
      refine wpAnyH_ready (rs := [17]) (by kernel_rfl) (by simp) ?_
      refine AllReadyH.cons (o := q3c17) rfl (fun K hK => ?_) AllReadyH.nil
      rw [if_pos (by rfl)]
      unfold q3c17
      go_simp
      (with_reducible refine (H17.out _ hHeld).mono ?_)
      rintro e w' ⟨u7, rfl, hu7, hB'⟩
      have hS' := HSN.out _ _ hHeld hB'
      go_wp2_with fail
      refine hK.out _ _ hS' (fun hHeld => ?_)
      clear hK K
      try simp only [q3c17, Act.put, List.setIfInBounds_toArray, List.set_cons_zero, List.set_cons_succ]
      refine wpAnyH_ready (rs := [19]) (by kernel_rfl) (by simp) ?_
      refine AllReadyH.cons (o := q3c19) rfl (fun K hK => ?_) AllReadyH.nil
      rw [if_pos (by rfl)]
      unfold q3c19
      go_simp
      (with_reducible refine (H18.out _ hHeld).mono ?_)
      rintro e w' ⟨u8, rfl, hu8, hB'⟩
      have hS' := HSN.out _ _ hHeld hB'
      go_wp2_with fail
      refine hK.out _ _ hS' (fun hHeld => ?_)
      have hu7 := hu7.next hB'
      clear hK K
      try simp only [q3c19, Act.put, List.setIfInBounds_toArray, List.set_cons_zero, List.set_cons_succ]
      refine wpAnyH_ready (rs := [20]) (by kernel_rfl) (by simp) ?_
      refine AllReadyH.cons (o := q3c20) rfl (fun K hK => ?_) AllReadyH.nil
      rw [if_pos (by rfl)]
      unfold q3c20
      go_simp
      (with_reducible refine (same_any _ d.restart d.restart _ _ hu7 hu8).mono ?_)
      rw [Dk.same_refl]
      rintro e w' ⟨rfl, hB'⟩
      have hS' := HSN.out _ _ hHeld hB'
      go_wp2_with fail
      refine hK.out _ _ hS' (fun hHeld => ?_)
      clear hK K
      try simp only [q3c20, Act.put, List.setIfInBounds_toArray, List.set_cons_zero, List.set_cons_succ]
      refine wpAnyH_take (i := 21) (oi := q3c21) (v := ?_) rfl (by kernel_rfl) (by kernel_rfl) (by kernel_rfl) (fun _ _ _ h => h) (Or.inl ⟨by rfl, ?_⟩) hHeld ?_
      rotate_left
      · (intro w hSw; (try dsimp only at hSw); unfold q3c21; go_simp <;> with_reducible rfl)
      try simp only [q3c21, Act.put, List.setIfInBounds_toArray, List.set_cons_zero, List.set_cons_succ]
      refine wpAnyH_take (i := 22) (oi := q3c22) (v := ?_) rfl (by kernel_rfl) (by kernel_rfl) (by kernel_rfl) (fun _ _ _ h => h) (Or.inl ⟨by rfl, ?_⟩) hHeld ?_
      rotate_left
      · (intro w hSw; (try dsimp only at hSw); unfold q3c22; go_simp <;> with_reducible rfl)
      try simp only [q3c22, Act.put, List.setIfInBounds_toArray, List.set_cons_zero, List.set_cons_succ]
      refine wpAnyH_done (by kernel_rfl) ?_ _
      have hfin := Lib.hid (Below.andthen HBASE.out (HSC.out _ hHeld).1)
      clear hHeld
      go_wp2
      go_ret
      exact ⟨rfl, hfin.out⟩

set_option maxRecDepth 100000 in
theorem diskNewSpec_lifted (os : Os) (started : os.Started) (H : Type) (enc : TypeId × Value → H) :
    ReturnsInHanded {} Try.checked os 3 .any (Rows.diskNewSpecSpec.pre6 enc Try.prog Try.f3 Rows.diskNewSpecRow.domain false) (Rows.diskNewSpecSpec.post enc Try.prog Try.f3 false true false false) := by
  refine returnsInHanded_of_change (C := Try.checked) Try.own started (by kernel_rfl) Try.func3
    (ChangeSpec.witness6 (enc := enc) (C := Try.checked) false ⟨#[], #[.int .i64 0, .agg #[.slice none 0 0, .slice none 0 0, .int .i64 0, .bool false]], []⟩ 8 (by kernel_rfl) (by kernel_rfl) (by kernel_rfl) (by kernel_rfl)) ?_
  intro W base args ds gs before hval0 hW _ _
  have hval : ∀ (j : Nat) t v, Try.f3.params[j]? = some t → args[j]? = some v → Value.okWide Try.prog W .any base t v := hval0
  have hW' := hW
  obtain ⟨p, q, hA0, hV, rfl, _, _⟩ := hW
  have hA : DataW.TrodAll enc Try.prog W 0 (fun _ => true) true Try.f3.params.toList args.toList ds p := hA0
  rw [Try.params3] at hA hval
  obtain ⟨v0, v1, d0, d1, p0, p1, rfl, rfl, rfl, h0, h1⟩ := trodAll_two hA
  obtain ⟨rfl, rfl⟩ := trodVars_none hV
  obtain ⟨x0, rfl, rfl, rfl, hx0⟩ := open_int Try.underlying3 (hval 0 3 v0 rfl rfl) h0
  obtain ⟨x1, hx1⟩ := open_disk (hval 1 25 v1 rfl rfl) h1
  clear hA0 hval0
  simp only [List.append_nil] at hW'
  have hlt : ∀ x ∈ p1, x.block < W.heap.size := fun x hx => by simpa using hW'.lt x hx
  refine (lawNew W x0 x1 v1 hx1).mono fun e W' ⟨he, hnx⟩ => ?_
  subst he
  exact ⟨_, rfl, _, _, _, [], _, [], hW', trodAll_mk1 (shut_bool Try.underlying4 _), trodAll_mk2 (shut_int Try.underlying3 hx0) (Below.trod Try.laidOut (by kernel_rfl) (of_decide_eq_true (by kernel_rfl)) h1 hnx fun x hx => hlt x hx), rfl, hnx.frame _, fun h => by cases h⟩

/-- DiskNewSpec holds. -/
theorem diskNewSpec_holds : Rows.DiskNewSpecSaid :=
  OpenClaim.holds_of_wide 3 Try.f3 rfl rfl rfl rfl rfl rfl rfl ⟨rfl, rfl, rfl, rfl, rfl⟩ rfl rfl rfl rfl rfl (by kernel_rfl) Try.func3 (by kernel_rfl)
    (of_decide_eq_true (by kernel_rfl)) (by unfold Func.isWrapper; first | (rw [if_pos (by decide +kernel)]; kernel_rfl) | (rw [if_neg (by decide +kernel)]; exact ⟨rfl, rfl⟩))
    (fun os started H enc _ => diskNewSpec_lifted os started H enc)

end Go.Proofs.Ytmklchjgiaomkaa
