/- sector, has, valid, runs, Check. -/
import Derived.Test.YtmklchjgiaomkaaVal
namespace Go.Proofs.Ytmklchjgiaomkaa
open Go.RowKit

theorem Try.info5 : (Try.prog.info? 5).map (fun i => (i.zero, i.size, i.bytes)) = some (some (.int .u8 0), 1, 1) := by kernel_rfl
theorem Try.size5 : (Try.prog.info? 5).map (·.size) = some 1 := by kernel_rfl

/-- A builtin whose run is known. -/
theorem wpList_copy_run {P : Program} {ops : Array Oper} {rest : List Oper} {o : Oper} {a : Act} {w : World} {Q : Exit → Act → World → Prop} (hgd : o.guard = none) (s x : Operand) (t tx : TypeId)
    (ho : o.op = .call { callee := .builtin .copy, args := #[s, x], argTypes := #[t, tx] }) (va vb v : Value) (w' : World) (h1 : a.eval s = va) (h2 : a.eval x = vb)
    (hrun : (Builtin.copy_ #[t, tx] o.type #[va, vb]).run P w = .ok v w') (h : wpList P ops Q rest (a.put o.dst v) w') : wpList P ops Q (o :: rest) a w :=
  wpList_plain hgd fun K hK => by
    subst h1; subst h2
    unfold Oper.wp execOp
    simp [ho, resolve, invoke, builtin, hrun, Result.andThen]
    exact hK _ _ h
theorem wpList_append_run {P : Program} {ops : Array Oper} {rest : List Oper} {o : Oper} {a : Act} {w : World} {Q : Exit → Act → World → Prop} (hgd : o.guard = none) (s x : Operand) (t tx : TypeId)
    (ho : o.op = .call { callee := .builtin .append, args := #[s, x], argTypes := #[t, tx] }) (va vb v : Value) (w' : World) (h1 : a.eval s = va) (h2 : a.eval x = vb)
    (hrun : (Builtin.append_ #[t, tx] o.type #[va, vb]).run P w = .ok v w') (h : wpList P ops Q rest (a.put o.dst v) w') : wpList P ops Q (o :: rest) a w :=
  wpList_plain hgd fun K hK => by
    subst h1; subst h2
    unfold Oper.wp execOp
    simp [ho, resolve, invoke, builtin, hrun, Result.andThen]
    exact hK _ _ h

theorem wpList_make_run {P : Program} {ops : Array Oper} {rest : List Oper} {o : Oper} {a : Act} {w : World} {Q : Exit → Act → World → Prop} (hgd : o.guard = none) (t : TypeId) (s x : Operand)
    (ho : o.op = .makeSlice t s x) (va vb v : Value) (w' : World) (h1 : a.eval s = va) (h2 : a.eval x = vb)
    (hrun : (Instr.makeSlice t va vb).run P w = .ok v w') (h : wpList P ops Q rest (a.put o.dst v) w') : wpList P ops Q (o :: rest) a w :=
  wpList_plain hgd fun K hK => by
    subst h1; subst h2
    unfold Oper.wp execOp
    simp [ho, hrun, Result.andThen]
    exact hK _ _ h
theorem made_bytes (n : Nat) : (madeCells #[Value.int .u8 0] (n * 1)).toList = cells8 (List.replicate n 0) := by
  rw [cells8_rep]
  refine List.ext_getElem (by simp [madeCells]) fun i h1 h2 => ?_
  simp [madeCells, Nat.mod_one]
theorem make_bytes (w : World) (n : Nat) (z : Int) (hz : z = n) (hn : n ≤ 100000) : ∃ W, (Instr.makeSlice 35 (.int .i64 z) (.int .i64 z)).run Try.prog w = .ok (.slice (some ⟨w.heap.size, 0, none⟩) n n) W ∧ Arr W w.heap.size (cells8 (List.replicate n 0)) ∧ Below w.heap.size w W := by
  subst hz
  obtain ⟨i0, hi, hz0, hz1, hz2⟩ := info_parts Try.info5
  have := run_make (P := Try.prog) w 35 5 i0 _ Try.underlying35 hi hz0 .i64 .i64 n n (by omega) (by omega) (by rw [hz2]; omega) (by omega)
  rw [hz1, Int.toNat_natCast] at this
  have hA := Arr.new w (madeCells (Value.int .u8 0).cells (n * 1)) 5
  rw [show (Value.int .u8 0).cells = #[Value.int .u8 0] from rfl, made_bytes] at hA
  exact ⟨_, this, hA, (Below.refl _ _).alloc (Nat.le_refl _) _⟩

/-- copy of bytes to the head of a row of the call's own. -/
theorem copy_any (W : World) (g n : Nat) (v : Value) (l c : By) (hA : Arr W g (cells8 c)) (hc : c.length = n) (B : Nat) (hv : BytesAt W B v l) (hn : l.length ≤ n) :
    ∃ W1, (Builtin.copy_ #[35, 35] 3 #[.slice (some ⟨g, 0, none⟩) n n, v]).run Try.prog W = .ok (goInt l.length) W1 ∧ Arr W1 g (cells8 (l ++ c.drop l.length)) ∧ Below g W W1 := by
  obtain ⟨a, cap', rfl, hc', hm, h⟩ := hv
  rcases h with rfl | ⟨db, off, rfl, hdb, hb⟩
  · exact ⟨W, run_copy_none W 35 35 3 5 (some ⟨g, 0, none⟩) a n n 0 cap' Try.underlying35 Try.size5 (by simp), by simpa using hA, Below.refl _ _⟩
  · refine ⟨W.setCells g 0 (cells8 l), ?_, ?_, below_setCells (Nat.le_refl _) _ _ _ (Below.refl _ _)⟩
    · have := run_copy_cells W 35 35 3 5 g 0 n n ⟨db, off, none⟩ l.length cap' (cells8 l) Try.underlying35 Try.size5 (by rw [cells8_len]; exact (Nat.min_eq_left (by omega)).symm)
        (bytes_news hb)
        (fun j hj => by simpa using (hA.there j (by rw [cells8_len] at hj ⊢; omega)).1) (fun j hj => by simpa using (hA.there j (by rw [cells8_len] at hj ⊢; omega)).2) (one_cells8 l)
      rwa [cells8_len] at this
    · have := hA.over (l := cells8 l) (by rw [cells8_len, cells8_len]; omega)
      rw [cells8_len, show (cells8 c).drop l.length = cells8 (c.drop l.length) by unfold cells8; rw [List.map_drop], ← cells8_app] at this
      exact this

/-- The four cells of a disk. -/
def Cells4 (W : World) (b : Nat) (c0 c1 c2 c3 : Value) : Prop := W.cell? ⟨b, 0, none⟩ = some c0 ∧ W.cell? ⟨b, 1, none⟩ = some c1 ∧ W.cell? ⟨b, 2, none⟩ = some c2 ∧ W.cell? ⟨b, 3, none⟩ = some c3
theorem Cells4.below {w W : World} {B b : Nat} {c0 c1 c2 c3 : Value} (h : Cells4 w b c0 c1 c2 c3) (hB : Below B w W) (hb : b < B) : Cells4 W b c0 c1 c2 c3 :=
  ⟨(hB.cell (p := ⟨b, 0, none⟩) hb).trans h.1, (hB.cell (p := ⟨b, 1, none⟩) hb).trans h.2.1, (hB.cell (p := ⟨b, 2, none⟩) hb).trans h.2.2.1, (hB.cell (p := ⟨b, 3, none⟩) hb).trans h.2.2.2⟩
theorem Cells4.next {w W : World} {b : Nat} {c0 c1 c2 c3 : Value} (h : Cells4 w b c0 c1 c2 c3) (hB : Below w.heap.size w W) : Cells4 W b c0 c1 c2 c3 := h.below hB (World.block_lt_of_cell? w _ h.1)
theorem Cells4.alloc {w : World} {b : Nat} {c0 c1 c2 c3 : Value} (h : Cells4 w b c0 c1 c2 c3) :
    (∀ o, (w.alloc o).cell? ⟨b, 0, none⟩ = some c0) ∧ (∀ o, (w.alloc o).cell? ⟨b, 1, none⟩ = some c1) ∧ (∀ o, (w.alloc o).cell? ⟨b, 2, none⟩ = some c2) ∧ (∀ o, (w.alloc o).cell? ⟨b, 3, none⟩ = some c3) := by
  have hn := fun o => h.next ((Below.refl _ _).alloc (Nat.le_refl _) o)
  exact ⟨fun o => (hn o).1, fun o => (hn o).2.1, fun o => (hn o).2.2.1, fun o => (hn o).2.2.2⟩
theorem Cells4.new (w : World) (c0 c1 c2 c3 : Value) (t : TypeId) : Cells4 (w.alloc (.cells #[c0, c1, c2, c3] t)) w.heap.size c0 c1 c2 c3 := ⟨by go_cell, by go_cell, by go_cell, by go_cell⟩

set_option maxHeartbeats 1000000 in
/-- sector returns a new row that begins with the bytes. -/
theorem sector_any (w : World) (v : Value) (b : By) (B : Nat) (hv : BytesAt w B v b) (hb : b.length ≤ 128) (hB : B ≤ w.heap.size) :
    Calls Try.prog 29 #[v] w fun e w' => e = .returned (.slice (some ⟨w.heap.size, 0, none⟩) 128 128) ∧ Arr w' w.heap.size (cells8 (pad b)) ∧ Below w.heap.size w w' := by
  obtain ⟨W0, hm, hA0, hb0⟩ := make_bytes w 128 128 rfl (by omega)
  obtain ⟨W1, hrun, hA1, hB1⟩ := copy_any W0 w.heap.size 128 v b (List.replicate 128 0) hA0 (by simp) B (hv.below (hb0.mono hB)) hb
  rw [List.drop_replicate] at hA1
  have HA := Lib.hid hA1
  have HB := Lib.hid (hb0.trans hB1)
  have HR := Lib.hid hrun
  have HM := Lib.hid hm
  clear hA0 hb0 hA1 hB1 hrun hm hv
  go_enter Try.func29, Try.ntmps29
  go_wp2_with (first | refine wpList_make_run rfl 35 _ _ rfl _ _ _ _ (by rfl) (by rfl) HM.out ?_ | refine wpList_copy_run rfl (.tmp 5) (.tmp 6) 35 35 rfl _ _ _ _ (by rfl) (by rfl) HR.out ?_)

  go_ret
  exact ⟨rfl, HA.out, HB.out⟩

set_option maxHeartbeats 400000 in
theorem has_any (w : World) (d : Dk) (v : Value) (B : Nat) (n : Int) (h : DkAt w B v d) :
    Calls Try.prog 32 #[v, .int .i64 n] w fun e w' => e = .returned (.bool (d.has n)) ∧ Below w.heap.size w w' := by
  obtain ⟨sa, cs, ap, cp, rfl, _, hc1, hc2, _, _, _, _⟩ := h.open
  obtain ⟨k, hk⟩ : ∃ k, d.sec.length = k := ⟨_, rfl⟩
  unfold Dk.has
  rw [hk] at hc1 ⊢
  clear h hk
  unfold maxLen at hc2
  by_cases h0 : 0 ≤ n
  · by_cases h1 : n < k
    · have e : decide (0 ≤ n ∧ n < (k : Int)) = true := by simp; omega
      rw [e]; clear e
      have d1 : decide (0 ≤ n) = true := by simpa using h0
      have d2 : decide (n < (k : Int)) = true := by simpa using h1
      go_enter Try.func32, Try.ntmps32
      go_wp2
      go_ret
      exact ⟨rfl, by go_grown⟩
    · have e : decide (0 ≤ n ∧ n < (k : Int)) = false := by simp; omega
      rw [e]; clear e
      have d1 : decide (0 ≤ n) = true := by simpa using h0
      have d2 : decide (n < (k : Int)) = false := by simpa using h1
      go_enter Try.func32, Try.ntmps32
      go_wp2
      go_ret
      exact ⟨rfl, by go_grown⟩
  · have e : decide (0 ≤ n ∧ n < (k : Int)) = false := by simp; omega
    rw [e]; clear e
    have d1 : decide (0 ≤ n) = false := by simpa using h0
    go_enter Try.func32, Try.ntmps32
    go_wp2
    go_ret
    exact ⟨rfl, by go_grown⟩
end Go.Proofs.Ytmklchjgiaomkaa
