/- New of the reference. -/
import Derived.Test.YtmklchjgiaomkaaRrd
import Derived.Maps.AppendAt
namespace Go.Proofs.Ytmklchjgiaomkaa
open Go.RowKit

/-- Own blocks of a call from B on, but not the block of v. -/
def Off (B : Nat) (v : Value) (b : Nat) : Prop := B ≤ b ∧ v.ownBlock ≠ some b
/-- The row of sectors that is being laid. -/
def NRow (wr : World) (B m : Nat) (v : Value) : Prop := ∃ cs, wr.ownsRow B 35 1 v m cs ∧ secCells wr (Off B v) (List.replicate m zb) cs

/-- One round: a sector, a row of one, the append. -/
theorem nrow_step {wr : World} {B m : Nat} {v : Value} (h : NRow wr B m v) (hm : m ≤ 4096) (hB : B ≤ wr.heap.size) :
    ∃ v' w1 w3, (Instr.makeSlice 35 (.int .i64 128) (.int .i64 128)).run Try.prog wr = .ok (.slice (some ⟨wr.heap.size, 0, none⟩) 128 128) w1 ∧
      (Builtin.append_ #[22, 22] 22 #[v, .slice (some ⟨w1.heap.size, 0, none⟩) 1 1]).run Try.prog (w1.alloc (.cells #[.slice (some ⟨wr.heap.size, 0, none⟩) 128 128] 35)) = .ok v' w3 ∧
      NRow w3 B (m + 1) v' ∧ Below B wr w3 ∧ Below wr.heap.size wr w1 := by
  obtain ⟨cs, hown, hsec⟩ := h
  obtain ⟨w1, hmk, hA1, hB1⟩ := make_bytes wr 128 128 rfl (by omega)
  obtain ⟨w2, hw2⟩ : ∃ w2, w2 = w1.alloc (.cells #[.slice (some ⟨wr.heap.size, 0, none⟩) 128 128] 35) := ⟨_, rfl⟩
  have hB2 : Below w1.heap.size w1 w2 := by rw [hw2]; go_grown
  have hs1 := hB1.size
  have hs2 := hB2.size
  have hlt : wr.heap.size < w1.heap.size := hA1.lt (by simp [cells8])
  have hz2 : w2.heap.size = w1.heap.size + 1 := by rw [hw2]; simp
  have hBB : Below wr.heap.size wr w2 := hB1.trans (hB2.mono hs1)
  have hown2 := own_keep hown hBB
  have hA2 := hA1.below hB2 hlt
  have hN : Arr w2 w1.heap.size [.slice (some ⟨wr.heap.size, 0, none⟩) 128 128] := by
    rw [hw2]; exact Arr.new w1 #[.slice (some ⟨wr.heap.size, 0, none⟩) 128 128] 35
  obtain ⟨i0, hi, hz0, hz1, hz2'⟩ := info_parts Try.info35
  obtain ⟨v', w3, hr, h2, h3, h4, h5⟩ := run_append_own_at (P := Try.prog) w2 B 22 22 35 i0 _ 1 24 Try.underlying22 hi hz0 hz1 hz2' rfl (by decide) v m cs hown2 ⟨w1.heap.size, 0, none⟩ 1 1 [.slice (some ⟨wr.heap.size, 0, none⟩) 128 128] rfl
    (fun j u hu => by rw [Addr.add_mid, Nat.zero_add]; exact hN.cell hu) (by intro u hu; simp at hu; rw [hu]; rfl) (by unfold maxLen; omega) (by omega) (by omega)
  obtain ⟨q1, hq1⟩ : ∃ q, w1.heap.size = q := ⟨_, rfl⟩
  obtain ⟨q0, hq0⟩ : ∃ q, wr.heap.size = q := ⟨_, rfl⟩
  have hvb : ∀ g, v.ownBlock = some g → B ≤ g ∧ g < wr.heap.size := fun g hg => hown.lt g hg
  have hs3 := h3.size
  have hB3 : Below B w2 w3 := below_grow (Below.refl _ _) h3 (fun g hg => (hvb g hg).1) (by omega)
  have hoff : ∀ b, Off B v b → b < w2.heap.size → Off B v' b := fun b hb hlt => by
    refine ⟨hb.1, fun e => ?_⟩
    rcases h5 with h5 | h5
    · exact hb.2 (by rw [← h5, e])
    · rw [h5] at e; injection e; omega
  have hA3 : Arr w3 wr.heap.size (cells8 (List.replicate 128 0)) := hA2.moved h3 (by omega) (fun e => by have := (hvb _ e.symm).2; omega)
  have hoffn : Off B v' wr.heap.size := hoff _ ⟨hB, fun e => by have := (hvb _ e).2; omega⟩ (by omega)
  refine ⟨v', w1, w3, hmk, by rw [← hw2]; exact hr, ⟨_, h2, ?_⟩, (hBB.mono hB).trans hB3, hB1⟩
  rw [List.replicate_succ']
  refine secCells.snoc ?_ (hA3.bytesOn (n := 128) (by simp) (by omega) hoffn (Nat.le_refl _) (by unfold maxLen; omega))
  exact hsec.keep (fun b hb hlt => (h3.block b (by omega) (fun e => hb.2 e.symm)).trans (hBB.block b hlt)) (fun b hb hlt => hoff b hb (by omega)) (by omega)

theorem nrow_moved {W W' : World} {B m x : Nat} {v : Value} (h : NRow W B m v) (hG : W.grownBy W' (some x)) (hx : x < B) : NRow W' B m v := by
  obtain ⟨cs, h1, h2⟩ := h
  have hne : ∀ g, v.ownBlock = some g → g ≠ x := fun g hg e => by have := (h1.lt g hg).1; omega
  refine ⟨cs, World.ownsRow.kept h1 hG ?_, h2.keep (fun b hb hlt => hG.block b hlt (by intro e; injection e with e; have := hb.1; omega)) (fun _ hb _ => hb) hG.size⟩
  cases hv : v.ownBlock with
  | none => exact .inl rfl
  | some g => exact .inr (by simpa using hne g hv)
theorem nrow_nil (W : World) (B : Nat) : NRow W B 0 (.slice none 0 0) := ⟨[], World.ownsRow_nil W B 35 1, rfl, fun i hi => absurd hi (by simp)⟩
theorem nrow_at {W : World} {B m : Nat} {v : Value} (h : NRow W B m v) (h0 : 0 < m) : SecAt W W.heap.size v (List.replicate m zb) ∧ ∃ g c, v = .slice (some ⟨g, 0, none⟩) m c := by
  obtain ⟨cs, h1, h2⟩ := h
  obtain ⟨g, c, rfl⟩ : ∃ g c, v = .slice (some ⟨g, 0, none⟩) m c := by
    rcases h1.2 with ⟨_, e⟩ | ⟨g, c, cur, hv, _⟩
    · omega
    · exact ⟨g, c, hv⟩
  obtain ⟨o1, o2, o3, o4, o5⟩ := own_arr h1
  exact ⟨h2.at o5 o2 (by simp) o3 o4, g, c, rfl⟩

theorem wp_app_run {o : Oper} {a : Act} {W : World} {K : Act → World → Prop} {Q : Exit → Act → World → Prop} (s x : Operand) (t : TypeId) (ho : o.op = .call { callee := .builtin .append, args := #[s, x], argTypes := #[t, t] })
    (va vb v : Value) (W' : World) (h1 : a.eval s = va) (h2 : a.eval x = vb) (hrun : (Builtin.append_ #[t, t] o.type #[va, vb]).run Try.prog W = .ok v W') (h : K (a.put o.dst v) W') : o.wp Try.prog a W K Q := by
  unfold Oper.wp execOp
  simp only [ho, resolve, invoke, builtin, Sem.run_bind, Sem.run_pure, Result.andThen_ok, List.map_toArray, List.map_cons, List.map_nil, h1, h2, hrun]
  exact h
theorem wp_mk_run {o : Oper} {a : Act} {W : World} {K : Act → World → Prop} {Q : Exit → Act → World → Prop} (t : TypeId) (s x : Operand) (ho : o.op = .makeSlice t s x)
    (va vb v : Value) (W' : World) (h1 : a.eval s = va) (h2 : a.eval x = vb) (hrun : (Instr.makeSlice t va vb).run Try.prog W = .ok v W') (h : K (a.put o.dst v) W') : o.wp Try.prog a W K Q := by
  unfold Oper.wp execOp
  simp only [ho, h1, h2, hrun, Sem.run_bind, Result.andThen_ok]
  exact h
def q13c0 : Oper := { dst := some 19, op := Go.Op.fieldAddr 25 (Go.Operand.tmp 4) 0, type := 0, pos := "ref.go:33", after := #[], guard := none }
def q13c1 : Oper := { dst := some 20, op := Go.Op.load 22 (Go.Operand.tmp 19), type := 22, pos := "ref.go:33", after := #[{ on := 0, ground := Go.Ground.data }], guard := none }
def q13c2 : Oper := { dst := some 21, op := Go.Op.makeSlice 35 (Go.Operand.const (Go.Value.int Go.IntKind.i64 128)) (Go.Operand.const (Go.Value.int Go.IntKind.i64 128)), type := 35, pos := "ref.go:33", after := #[], guard := none }
def q13c3 : Oper := { dst := some 22, op := Go.Op.buildSlice 22 1 #[(0, Go.Operand.tmp 21)], type := 22, pos := "ref.go:33", after := #[{ on := 2, ground := Go.Ground.data }], guard := none }
def q13c4 : Oper := { dst := some 23, op := Go.Op.call { callee := Go.Callee.builtin Go.Builtin.append, args := #[Go.Operand.tmp 20, Go.Operand.tmp 22], argTypes := #[22, 22] }, type := 22, pos := "ref.go:33", after := #[{ on := 1, ground := Go.Ground.data }, { on := 3, ground := Go.Ground.data }], guard := none }
def q13c5 : Oper := { dst := some 24, op := Go.Op.fieldAddr 25 (Go.Operand.tmp 4) 0, type := 0, pos := "ref.go:33", after := #[{ on := 0, ground := Go.Ground.phase }, { on := 1, ground := Go.Ground.phase }, { on := 2, ground := Go.Ground.phase }, { on := 3, ground := Go.Ground.phase }, { on := 4, ground := Go.Ground.phase }], guard := none }
def q13c6 : Oper := { dst := none, op := Go.Op.store 22 (Go.Operand.tmp 24) (Go.Operand.tmp 23), type := 0, pos := "ref.go:33", after := #[{ on := 5, ground := Go.Ground.data }, { on := 4, ground := Go.Ground.data }, { on := 4, ground := Go.Ground.chain }, { on := 0, ground := Go.Ground.phase }, { on := 1, ground := Go.Ground.phase }, { on := 2, ground := Go.Ground.phase }, { on := 3, ground := Go.Ground.phase }, { on := 4, ground := Go.Ground.phase }], guard := none }
set_option maxHeartbeats 2000000 in
theorem rnew_ok (w : World) (k : Nat) (h1 : 1 ≤ k) (h2 : k ≤ 60) :
    Calls Try.prog 13 #[.int .i64 k] w fun e w' => ∃ v, e = .returned (.tuple #[v, .int .i64 0]) ∧ DkAt w' w'.heap.size v ⟨List.replicate k zb, [], -1, false⟩ ∧ Below w.heap.size w w' := by
  have d1 : decide ((k : Int) < 1) = false := by simp; omega
  have d2 : decide (4096 < (k : Int)) = false := by simp; omega
  obtain ⟨w0, hw0⟩ : ∃ w0, w0 = ((w.alloc (.cells #[.slice none 0 0, .slice none 0 0, .int .i64 0, .bool false] 25)).alloc (.cells #[.slice none 0 0, .slice none 0 0, .int .i64 0, .bool false] 25)) := ⟨_, rfl⟩
  have hz : w0.heap.size = w.heap.size + 1 + 1 := by rw [hw0]; simp
  have hX : Arr w0 w.heap.size [.slice none 0 0, .slice none 0 0, .int .i64 0, .bool false] := by
    rw [hw0]; exact (Arr.new w #[.slice none 0 0, .slice none 0 0, .int .i64 0, .bool false] 25).alloc (by simp) _
  have hY : Arr w0 (w.heap.size + 1) [.slice none 0 0, .slice none 0 0, .int .i64 0, .bool false] := by
    rw [hw0]
    have := Arr.new (w.alloc (.cells #[.slice none 0 0, .slice none 0 0, .int .i64 0, .bool false] 25)) #[.slice none 0 0, .slice none 0 0, .int .i64 0, .bool false] 25
    simpa using this
  have hB0 : Below w.heap.size w w0 := by rw [hw0]; go_grown
  have HW0 := Lib.hid hw0
  have HX := Lib.hid hX
  have HY := Lib.hid hY
  have HB0 := Lib.hid hB0
  have HZ := Lib.hid hz
  rw [hw0] at hY
  have HY' := Lib.hid hY
  clear hX hY hB0 hz hw0
  go_enter Try.func13, Try.ntmps13
  go_wp2_with (refine store_disk rfl (.tmp 4) (.tmp 13) rfl (w.heap.size + 1) _ _ _ _ _ _ _ _ (by rfl) (by rfl) HY'.out rfl ?_; intro W1 hG1 hA1)
  rw [← HW0.out] at hG1
  obtain ⟨x, hx⟩ : ∃ x, w.heap.size + 1 = x := ⟨_, rfl⟩
  obtain ⟨p, hp⟩ : ∃ p, w.heap.size = p := ⟨_, rfl⟩
  obtain ⟨B, hB⟩ : ∃ B, W1.heap.size = B := ⟨_, rfl⟩
  have hz1 := hG1.size
  have hz0 := HZ.out
  have hxB : x < B := by omega
  have hpx : p < x := by omega
  have hwp : w.heap.size ≤ p := by omega
  have HA1 := Lib.hid hA1
  have HP1 := Lib.hid (HX.out.moved hG1 (by omega) (by simp))
  have HB1 := Lib.hid (below_grow HB0.out hG1 (fun j hj => by cases hj; omega) (by omega))
  rw [hx] at HA1 ⊢
  rw [hp] at HP1 HB1 ⊢
  clear HW0 HX HY HY' HB0 HZ hG1 hA1 hz1 hz0 hx
  go_loopw [5] (fun i wr => ∃ (m : Nat) (v : Value), i = .int .i64 m ∧ m ≤ k ∧ Arr wr x [v, .slice none 0 0, .int .i64 (-1), .bool false] ∧ Arr wr p [.slice none 0 0, .slice none 0 0, .int .i64 0, .bool false] ∧ NRow wr B m v ∧ Below p w wr ∧ B ≤ wr.heap.size) (fun i _ => k - (intOf i).toNat)
  case atStart => exact ⟨0, _, rfl, Nat.zero_le _, HA1.out, HP1.out, nrow_nil _ _, HB1.out, by omega⟩
  case round =>
    obtain ⟨m, v, rfl, hmk, hX, hP, hN, hBr, hzr⟩ := hrel
    have HX := Lib.hid hX
    have HP := Lib.hid hP
    have HN := Lib.hid hN
    have HBR := Lib.hid hBr
    obtain ⟨x0, x1, x2, x3⟩ := hX.four
    obtain ⟨f0, f1, f2, f3⟩ := hX.free
    clear hX hP hN hBr
    by_cases hlt : m < k
    · have hs1 : ∀ W, Below wr.heap.size wr W → Below p w W := fun W hW => HBR.out.trans (hW.mono (by have := HBR.out.size; omega))
      have hs2 : ∀ W, Below wr.heap.size wr W → W.cell? ⟨x, 0, none⟩ = some v := fun W hW => (hW.cell (p := ⟨x, 0, none⟩) (by show x < _; omega)).trans HX.out.four.1
      have HS1 := Lib.hid hs1
      have hnr : NRow wr.drew B m v := by
        obtain ⟨cs, o1, o2⟩ := HN.out
        exact ⟨cs, own_keep o1 (Below.drew (Below.refl _ _)), o2.keep (fun _ _ _ => rfl) (fun _ h _ => h) (Nat.le_refl _)⟩
      obtain ⟨v', w1, w3, hmk, happ, hN3, hB3, hB1⟩ := nrow_step hnr (by omega) hzr
      have HMK := Lib.hid hmk
      have HAPP := Lib.hid happ
      have HN3 := Lib.hid hN3
      have HB3 := Lib.hid hB3
      have HB1' := Lib.hid (Below.trans (Below.drew (Below.refl wr.heap.size wr)) hB1)
      have hx3 : w3.cell? ⟨x, 0, none⟩ = some v := (HB3.out.cell (p := ⟨x, 0, none⟩) hxB).trans HX.out.four.1
      have hb3 : Below p w w3 := (Below.drew HBR.out).trans (HB3.out.mono (show p ≤ B by omega))
      have hf3 : w3.frozen? ⟨x, 0, none⟩ = false := (HB3.out.frozen (p := ⟨x, 0, none⟩) hxB).trans HX.out.free.1
      have hy1 := hs2 _ HB1'.out
      have hy2 : ∀ o, (w1.alloc o).cell? ⟨x, 0, none⟩ = some v := fun o => hs2 _ (HB1'.out.alloc HB1'.out.size o)
      obtain ⟨-, g, c, rfl⟩ := nrow_at HN3.out (by omega)
      have hA3 := (HX.out.below (Below.drew (Below.refl B wr)) hxB).below HB3.out hxB
      have hP3 := (HP.out.below (Below.drew (Below.refl B wr)) (by omega)).below HB3.out (by omega)
      have HA4 := Lib.hid (hA3.set 0 (.slice (some ⟨g, 0, none⟩) (m + 1) c))
      have HP4 := Lib.hid (hP3.other (b' := x) (by omega) 0 (.slice (some ⟨g, 0, none⟩) (m + 1) c))
      have HN4 := Lib.hid (nrow_moved HN3.out (grown_setCell (W := w3) (b := x) 0 (.slice (some ⟨g, 0, none⟩) (m + 1) c)) hxB)
      have HB4 := Lib.hid (hb3.setCell (p := ⟨x, 0, none⟩) (by show p ≤ x; omega) (.slice (some ⟨g, 0, none⟩) (m + 1) c))
      have hz4 : B ≤ w3.heap.size := by have := HB3.out.size; have : wr.drew.heap.size = wr.heap.size := rfl; omega
      have HBW3 := Lib.hid hb3
      clear hs1 hs2 hnr hmk happ hN3 hB3 hB1 hb3 hA3 hP3
      go_wp2
      refine wp_region_held_drew (S := fun W => Below p w W) (by kernel_rfl) (HS1.out _ (Below.drew (Below.refl _ _))) (fun hHeld => ?_)
      refine wpAnyH_take (i := 0) (oi := q13c0) (v := ?_) rfl (by kernel_rfl) (by kernel_rfl) (by kernel_rfl) (fun _ _ _ h => h) (Or.inl ⟨by rfl, ?_⟩) hHeld ?_
      rotate_left
      · (intro w hSw; (try dsimp only at hSw); unfold q13c0; go_simp <;> with_reducible rfl)
      try simp only [q13c0, Act.put, List.setIfInBounds_toArray, List.set_cons_zero, List.set_cons_succ]
      refine wpAnyH_ready (rs := [1, 2]) (by kernel_rfl) (by simp) ?_
      refine AllReadyH.cons (o := q13c1) rfl (fun K hK => ?_) (AllReadyH.cons (o := q13c2) rfl (fun K hK => ?_) AllReadyH.nil)
      · skip
        rw [if_pos (by rfl)]
        unfold q13c1
        go_simp
        refine hK.out _ _ hHeld (fun hHeld => ?_)
        clear hK K
        try simp only [q13c1, Act.put, List.setIfInBounds_toArray, List.set_cons_zero, List.set_cons_succ]
        refine wpAnyH_ready (rs := [2]) (by kernel_rfl) (by simp) ?_
        refine AllReadyH.cons (o := q13c2) rfl (fun K hK => ?_) AllReadyH.nil
        rw [if_pos (by rfl)]
        refine wp_mk_run 35 _ _ (by rfl) _ _ _ _ (by rfl) (by rfl) HMK.out ?_
        refine hK.out _ _ (HS1.out _ HB1'.out) (fun hHeld => ?_)
        clear hK K
        try simp only [q13c2, Act.put, List.setIfInBounds_toArray, List.set_cons_zero, List.set_cons_succ]
        refine wpAnyH_ready (rs := [3]) (by kernel_rfl) (by simp) ?_
        refine AllReadyH.cons (o := q13c3) rfl (fun K hK => ?_) AllReadyH.nil
        rw [if_pos (by rfl)]
        unfold q13c3
        go_simp
        refine hK.out _ _ (HS1.out _ (HB1'.out.alloc HB1'.out.size _)) (fun hHeld => ?_)
        clear hK K
        try simp only [q13c3, Act.put, List.setIfInBounds_toArray, List.set_cons_zero, List.set_cons_succ]
        refine wpAnyH_ready (rs := [4]) (by kernel_rfl) (by simp) ?_
        refine AllReadyH.cons (o := q13c4) rfl (fun K hK => ?_) AllReadyH.nil
        rw [if_pos (by rfl)]
        refine wp_app_run _ _ 22 (by rfl) _ _ _ _ (by rfl) (by rfl) HAPP.out ?_
        refine hK.out _ _ HBW3.out (fun hHeld => ?_)
        clear hK K
        try simp only [q13c4, Act.put, List.setIfInBounds_toArray, List.set_cons_zero, List.set_cons_succ]
        refine wpAnyH_take (i := 5) (oi := q13c5) (v := ?_) rfl (by kernel_rfl) (by kernel_rfl) (by kernel_rfl) (fun _ _ _ h => h) (Or.inl ⟨by rfl, ?_⟩) hHeld ?_
        rotate_left
        · (intro w hSw; (try dsimp only at hSw); unfold q13c5; go_simp <;> with_reducible rfl)
        try simp only [q13c5, Act.put, List.setIfInBounds_toArray, List.set_cons_zero, List.set_cons_succ]
        refine wpAnyH_ready (rs := [6]) (by kernel_rfl) (by simp) ?_
        refine AllReadyH.cons (o := q13c6) rfl (fun K hK => ?_) AllReadyH.nil
        rw [if_pos (by rfl)]
        unfold q13c6
        go_simp
        refine hK.out _ _ HB4.out (fun hHeld => ?_)
        clear hK K
        try simp only [q13c6, Act.put]
        refine wpAnyH_done (by kernel_rfl) ?_ _
        go_wp2
        go_roundw
        case rel => exact ⟨m + 1, _, by go_num, by omega, HA4.out, HP4.out, HN4.out, HB4.out, by simp; omega⟩
        case measure => simp [intOf]; omega
      · skip
        rw [if_pos (by rfl)]
        refine wp_mk_run 35 _ _ (by rfl) _ _ _ _ (by rfl) (by rfl) HMK.out ?_
        refine hK.out _ _ (HS1.out _ HB1'.out) (fun hHeld => ?_)
        clear hK K
        try simp only [q13c2, Act.put, List.setIfInBounds_toArray, List.set_cons_zero, List.set_cons_succ]
        refine wpAnyH_ready (rs := [1, 3]) (by kernel_rfl) (by simp) ?_
        refine AllReadyH.cons (o := q13c1) rfl (fun K hK => ?_) (AllReadyH.cons (o := q13c3) rfl (fun K hK => ?_) AllReadyH.nil)
        · skip
          rw [if_pos (by rfl)]
          unfold q13c1
          go_simp
          refine hK.out _ _ hHeld (fun hHeld => ?_)
          clear hK K
          try simp only [q13c1, Act.put, List.setIfInBounds_toArray, List.set_cons_zero, List.set_cons_succ]
          refine wpAnyH_ready (rs := [3]) (by kernel_rfl) (by simp) ?_
          refine AllReadyH.cons (o := q13c3) rfl (fun K hK => ?_) AllReadyH.nil
          rw [if_pos (by rfl)]
          unfold q13c3
          go_simp
          refine hK.out _ _ (HS1.out _ (HB1'.out.alloc HB1'.out.size _)) (fun hHeld => ?_)
          clear hK K
          try simp only [q13c3, Act.put, List.setIfInBounds_toArray, List.set_cons_zero, List.set_cons_succ]
          refine wpAnyH_ready (rs := [4]) (by kernel_rfl) (by simp) ?_
          refine AllReadyH.cons (o := q13c4) rfl (fun K hK => ?_) AllReadyH.nil
          rw [if_pos (by rfl)]
          refine wp_app_run _ _ 22 (by rfl) _ _ _ _ (by rfl) (by rfl) HAPP.out ?_
          refine hK.out _ _ HBW3.out (fun hHeld => ?_)
          clear hK K
          try simp only [q13c4, Act.put, List.setIfInBounds_toArray, List.set_cons_zero, List.set_cons_succ]
          refine wpAnyH_take (i := 5) (oi := q13c5) (v := ?_) rfl (by kernel_rfl) (by kernel_rfl) (by kernel_rfl) (fun _ _ _ h => h) (Or.inl ⟨by rfl, ?_⟩) hHeld ?_
          rotate_left
          · (intro w hSw; (try dsimp only at hSw); unfold q13c5; go_simp <;> with_reducible rfl)
          try simp only [q13c5, Act.put, List.setIfInBounds_toArray, List.set_cons_zero, List.set_cons_succ]
          refine wpAnyH_ready (rs := [6]) (by kernel_rfl) (by simp) ?_
          refine AllReadyH.cons (o := q13c6) rfl (fun K hK => ?_) AllReadyH.nil
          rw [if_pos (by rfl)]
          unfold q13c6
          go_simp
          refine hK.out _ _ HB4.out (fun hHeld => ?_)
          clear hK K
          try simp only [q13c6, Act.put]
          refine wpAnyH_done (by kernel_rfl) ?_ _
          go_wp2
          go_roundw
          case rel => exact ⟨m + 1, _, by go_num, by omega, HA4.out, HP4.out, HN4.out, HB4.out, by simp; omega⟩
          case measure => simp [intOf]; omega
        · skip
          rw [if_pos (by rfl)]
          unfold q13c3
          go_simp
          refine hK.out _ _ (HS1.out _ (HB1'.out.alloc HB1'.out.size _)) (fun hHeld => ?_)
          clear hK K
          try simp only [q13c3, Act.put, List.setIfInBounds_toArray, List.set_cons_zero, List.set_cons_succ]
          refine wpAnyH_ready (rs := [1]) (by kernel_rfl) (by simp) ?_
          refine AllReadyH.cons (o := q13c1) rfl (fun K hK => ?_) AllReadyH.nil
          rw [if_pos (by rfl)]
          unfold q13c1
          go_simp
          refine hK.out _ _ hHeld (fun hHeld => ?_)
          clear hK K
          try simp only [q13c1, Act.put, List.setIfInBounds_toArray, List.set_cons_zero, List.set_cons_succ]
          refine wpAnyH_ready (rs := [4]) (by kernel_rfl) (by simp) ?_
          refine AllReadyH.cons (o := q13c4) rfl (fun K hK => ?_) AllReadyH.nil
          rw [if_pos (by rfl)]
          refine wp_app_run _ _ 22 (by rfl) _ _ _ _ (by rfl) (by rfl) HAPP.out ?_
          refine hK.out _ _ HBW3.out (fun hHeld => ?_)
          clear hK K
          try simp only [q13c4, Act.put, List.setIfInBounds_toArray, List.set_cons_zero, List.set_cons_succ]
          refine wpAnyH_take (i := 5) (oi := q13c5) (v := ?_) rfl (by kernel_rfl) (by kernel_rfl) (by kernel_rfl) (fun _ _ _ h => h) (Or.inl ⟨by rfl, ?_⟩) hHeld ?_
          rotate_left
          · (intro w hSw; (try dsimp only at hSw); unfold q13c5; go_simp <;> with_reducible rfl)
          try simp only [q13c5, Act.put, List.setIfInBounds_toArray, List.set_cons_zero, List.set_cons_succ]
          refine wpAnyH_ready (rs := [6]) (by kernel_rfl) (by simp) ?_
          refine AllReadyH.cons (o := q13c6) rfl (fun K hK => ?_) AllReadyH.nil
          rw [if_pos (by rfl)]
          unfold q13c6
          go_simp
          refine hK.out _ _ HB4.out (fun hHeld => ?_)
          clear hK K
          try simp only [q13c6, Act.put]
          refine wpAnyH_done (by kernel_rfl) ?_ _
          go_wp2
          go_roundw
          case rel => exact ⟨m + 1, _, by go_num, by omega, HA4.out, HP4.out, HN4.out, HB4.out, by simp; omega⟩
          case measure => simp [intOf]; omega
    · obtain rfl : m = k := by omega
      obtain ⟨hsec, g, c, rfl⟩ := nrow_at HN.out (by omega)
      have hfin : ∀ W, wr.grownBy W (some p) → DkAt W W.heap.size (.agg #[.slice (some ⟨g, 0, none⟩) m c, .slice none 0 0, .int .i64 (-1), .bool false]) ⟨List.replicate m zb, [], -1, false⟩ ∧ Below p w W := fun W hG => by
        obtain ⟨hs, _⟩ := nrow_at (nrow_moved HN.out hG (by omega)) (by omega)
        refine ⟨⟨⟨by show (-9223372036854775808 : Int) ≤ -1; decide, by show (-1 : Int) ≤ _; decide⟩, _, _, rfl, hs, pen_nil _ _ _⟩, below_grow HBR.out hG (fun j hj => by cases hj; omega) (by have := HBR.out.size; omega)⟩
      have HFIN := Lib.hid hfin
      clear hsec hfin
      go_wp2_with (refine store_disk rfl (.tmp 2) (.tmp 25) rfl p _ _ _ _ _ _ _ _ (by rfl) (by rfl) HP.out rfl ?_; intro W3 hG3 hA3; obtain ⟨y0, y1, y2, y3⟩ := hA3.four)
      obtain ⟨o1, o2⟩ := HFIN.out W3 hG3
      refine bodyPost_ret (v := .tuple #[.agg #[.slice (some ⟨g, 0, none⟩) m c, .slice none 0 0, .int .i64 (-1), .bool false], .int .i64 0]) (by simp [results, Try.results13, go_sem, y0, y1, y2, y3]) rfl ⟨_, rfl, o1, by rw [hp]; exact o2⟩

set_option maxHeartbeats 1000000 in
theorem rnew_err (w : World) (n : Int) (h : n < 1 ∨ 4096 < n) :
    Calls Try.prog 13 #[.int .i64 n] w fun e w' => ∃ v, e = .returned (.tuple #[v, .int .i64 1]) ∧ DkAt w' w'.heap.size v Dk.zero ∧ Below w.heap.size w w' := by
  have hpo : ∀ W, DkAt W W.heap.size (.agg #[.slice none 0 0, .slice none 0 0, .int .i64 0, .bool false]) Dk.zero := fun W => zero_at W _
  have HPO := Lib.hid hpo
  clear hpo
  by_cases h1 : n < 1
  · have d1 : decide (n < 1) = true := by simpa using h1
    go_enter Try.func13, Try.ntmps13
    go_wp2
    refine bodyPost_ret (v := .tuple #[.agg #[.slice none 0 0, .slice none 0 0, .int .i64 0, .bool false], .int .i64 1]) (by simp [results, Try.results13, go_sem]) rfl ⟨_, rfl, HPO.out _, by go_grown⟩
  · have d1 : decide (n < 1) = false := by simpa using h1
    have d2 : decide (4096 < n) = true := by simp; omega
    clear h
    go_enter Try.func13, Try.ntmps13
    go_wp2
    refine bodyPost_ret (v := .tuple #[.agg #[.slice none 0 0, .slice none 0 0, .int .i64 0, .bool false], .int .i64 1]) (by simp [results, Try.results13, go_sem]) rfl ⟨_, rfl, HPO.out _, by go_grown⟩

theorem rnew_any (w : World) (n : Int) (h : n ≤ 60 ∨ 4096 < n) :
    Calls Try.prog 13 #[.int .i64 n] w fun e w' => ∃ v, e = .returned (.tuple #[v, .int .i64 (Dk.new n).2]) ∧ DkAt w' w'.heap.size v (Dk.new n).1 ∧ Below w.heap.size w w' := by
  unfold Dk.new
  by_cases h1 : n < 1 ∨ 4096 < n
  · rw [if_pos h1]; exact rnew_err w n h1
  · rw [if_neg h1]
    obtain ⟨k, rfl⟩ : ∃ k : Nat, n = k := ⟨n.toNat, by omega⟩
    rw [Int.toNat_natCast]
    exact rnew_ok w k (by omega) (by omega)
end Go.Proofs.Ytmklchjgiaomkaa
