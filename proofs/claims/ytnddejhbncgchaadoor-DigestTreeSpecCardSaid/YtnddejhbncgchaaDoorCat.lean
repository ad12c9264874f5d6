/- slices.Grow of nil and slices.Concat of two rows of bytes. -/
import Derived.Test.YtnddejhbncgchaaDoorSumN
import Derived.Lib.AppendZeros
import Derived.Deep.DeepAppendRoom
import Derived.Deep.Upon
namespace Go.Proofs.YtnddejhbncgchaaDoor
open Go.RowKit

/-- An append whose run is known. -/
theorem wpList_append_run {P : Program} {ops : Array Oper} {rest : List Oper} {o : Oper} {a : Act} {w : World} {Q : Exit → Act → World → Prop} (hgd : o.guard = none) (s x : Operand) (t tx : TypeId)
    (ho : o.op = .call { callee := .builtin .append, args := #[s, x], argTypes := #[t, tx] }) (va vb v : Value) (w' : World) (h1 : a.eval s = va) (h2 : a.eval x = vb)
    (hrun : (Builtin.append_ #[t, tx] o.type #[va, vb]).run P w = .ok v w') (h : wpList P ops Q rest (a.put o.dst v) w') : wpList P ops Q (o :: rest) a w :=
  wpList_plain hgd fun K hK => by
    subst h1; subst h2
    unfold Oper.wp execOp
    simp [ho, resolve, invoke, builtin, hrun, Result.andThen]
    exact hK _ _ h
theorem Tryd.infoU8 : (Tryd.prog.info? 5).map (fun i => (i.zero, i.size, i.bytes)) = some (some (.int .u8 0), 1, 1) := by kernel_rfl

set_option maxRecDepth 100000 in
set_option maxHeartbeats 2000000 in
theorem grow_any (w : World) (n : Nat) (h0 : 0 < n) (hn : n ≤ 1000000000) : Calls Tryd.prog 53 #[.slice none 0 0, .int .i64 n] w fun e w' =>
    ∃ g cap, e = .returned (.slice (some ⟨g, 0, none⟩) 0 cap) ∧ w.heap.size ≤ g ∧ n ≤ cap ∧ w'.ownsRow w.heap.size 5 1 (.slice (some ⟨g, 0, none⟩) 0 cap) 0 [] ∧ Below w.heap.size w w' := by
  obtain ⟨i0, hi, hz0, hz1, hz2⟩ := info_parts Tryd.infoU8
  have happ := fun (W : World) (ty : TypeId) => Lib.run_append_nil_zeros W 22 3 ty 5 i0 (.int .u8 0) .i64 .i64 Tryd.underlying22 Tryd.underlying3 hi hz0 n h0 (by omega) (by omega) (by rw [hz2]; omega)
  have hge := grownCap_ge w n 0 5
  have hle := grownCap_le_maxLen w n 0 5 (by unfold maxLen; omega)
  obtain ⟨cap, hcap⟩ : ∃ cap, grownCap w n 0 5 = cap := ⟨_, rfl⟩
  have hap := happ w
  rw [hcap] at hge hle hap
  have ha := hap 22
  obtain ⟨C, hC⟩ : ∃ C, Builtin.zeroCells (Value.int IntKind.u8 0).cells n ++ Builtin.zeroCells (Value.int IntKind.u8 0).cells (cap - n) = C := ⟨_, rfl⟩
  have hCs : C.size = cap := by rw [← hC]; simp [Builtin.zeroCells, Value.cells]; omega
  rw [hC] at ha
  have HLE := Lib.hid hle
  have HCS := Lib.hid hCs
  clear happ hap hC hcap hle hi hz0 hz1 hz2 hCs
  have d1 : decide ((0 : Int) < (n : Int)) = true := by simpa using h0
  have d2 : decide ((n : Int) < 0) = false := by simp
  go_enter Tryd.func53, Tryd.ntmps53
  go_wp2_with (at_builtin; refine wpList_append_run rfl (.tmp 20) (.tmp 21) 22 3 rfl (.slice none 0 0) (.int .i64 n) _ _ (by rfl) (by rfl) ha ?_)
  go_ret
  refine ⟨w.heap.size, cap, rfl, Nat.le_refl _, hge, ⟨rfl, .inr ⟨_, cap, C, rfl, Nat.le_refl _, ?_, Nat.zero_le _, HLE.out, by rw [HCS.out]; omega, rfl⟩⟩, by go_grown⟩
  exact heap_alloc_new w.drew _
end Go.Proofs.YtnddejhbncgchaaDoor
