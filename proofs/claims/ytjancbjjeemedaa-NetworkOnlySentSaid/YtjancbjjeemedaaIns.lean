/- slices.Insert of one pair. -/
import Derived.Test.YtjancbjjeemedaaRwa
import Derived.Laws.Externs
import Derived.Deep.QuietTactic
namespace Go.Proofs.Ytjancbjjeemedaa
open Go.RowKit

theorem Try.elem23 : Try.prog.elem 23 = 55 := by simp [Program.elem, Try.underlying23]
theorem Try.slice23 : Try.prog.underlying 23 = some (.slice (Try.prog.elem 23)) := by rw [Try.elem23]; exact Try.underlying23
theorem Try.sizeOf55 (W : World) : (sizeOf 55).run Try.prog W = .ok 2 W := by
  obtain ⟨i, hi, _, hz, _⟩ := info_parts Try.info55
  simp [sizeOf, typeInfo, hi, hz]
theorem prs_to (a : Option Addr) (N cap : Nat) (z : Int) (i : Nat) (hz : z = i) (h : i ≤ cap) (W : World) : (Instr.slice 23 (.slice a N cap) none (some (.int .i64 z)) none).run Try.prog W = .ok (.slice a i cap) W := by
  subst hz
  rw [run_slice_h W 23 _ _ _ Try.slice23 .i64 _ (by omega) (by omega), Try.elem23, Try.sizeOf55]
  simp only [Result.andThen, sliced, Int.toNat_natCast, Nat.sub_zero]
  cases a <;> simp [Addr.add]
theorem prs_from (g N cap : Nat) (z : Int) (i : Nat) (hz : z = i) (h : i ≤ N) (hc : i < cap) (W : World) : (Instr.slice 23 (.slice (some ⟨g, 0, none⟩) N cap) (some (.int .i64 z)) none none).run Try.prog W = .ok (.slice (some ⟨g, i * 2, none⟩) (N - i) (cap - i)) W := by
  subst hz
  rw [run_slice_l W 23 _ _ _ Try.slice23 .i64 _ (by omega) (by omega), Try.elem23, Try.sizeOf55]
  have h1 : ¬ cap = i := by omega
  simp [Result.andThen, sliced, h1, Addr.add]
  try exact fun h => h.symm
theorem prs_from_any (a : Option Addr) (N cap i : Nat) (h : i ≤ N) (_W : World) : ∃ A, ∀ W, (Instr.slice 23 (.slice a N cap) (some (.int .i64 (i : Int))) none none).run Try.prog W = .ok (.slice A (N - i) (cap - i)) W := by
  refine ⟨if cap = i then a else a.map (·.add (i * 2)), fun W => ?_⟩
  rw [run_slice_l W 23 _ _ _ Try.slice23 .i64 _ (by omega) (by omega), Try.elem23, Try.sizeOf55]
  simp [Result.andThen, sliced]
theorem wp_copy_run2 {o : Oper} {a : Act} {w : World} {K : Act → World → Prop} {Q : Exit → Act → World → Prop} (d s : Operand) (t t' : TypeId)
    (ho : o.op = .call { callee := .builtin .copy, args := #[d, s], argTypes := #[t, t'] }) (v u : Value) (hd : a.eval d = v) (hs : a.eval s = u) {v' : Value} {w' : World}
    (hr : (Builtin.copy_ #[t, t'] o.type #[v, u]).run Try.prog w = .ok v' w') (h : K (a.put o.dst v') w') : o.wp Try.prog a w K Q := by
  unfold Oper.wp execOp
  simp only [ho, resolve, invoke, builtin, Sem.run_bind, Sem.run_pure, Result.andThen_ok, List.map_toArray, List.map_cons, List.map_nil, hd, hs, hr]
  exact h
theorem wpList_copy_run2 {ops : Array Oper} {rest : List Oper} {o : Oper} {a : Act} {w : World} {Q : Exit → Act → World → Prop} (hgd : o.guard = none) (d s : Operand) (t t' : TypeId)
    (ho : o.op = .call { callee := .builtin .copy, args := #[d, s], argTypes := #[t, t'] }) (v u : Value) (hd : a.eval d = v) (hs : a.eval s = u) {v' : Value} {w' : World}
    (hr : (Builtin.copy_ #[t, t'] o.type #[v, u]).run Try.prog w = .ok v' w') (h : wpList Try.prog ops Q rest (a.put o.dst v') w') : wpList Try.prog ops Q (o :: rest) a w :=
  wpList_plain hgd fun _ hK => wp_copy_run2 d s t t' ho v u hd hs hr (hK _ _ h)
theorem setRow_below {B0 g : Nat} {W : World} (hg : B0 ≤ g) (cs : Array Value) : Below B0 W (W.setRow g cs) := ⟨rfl, rfl, rfl, by simp [World.setRow], fun k hk => setRow_other W g k _ (by omega)⟩
/-- What two copies leave: first behind, then before. -/
theorem seg_shift (C v D : List Value) (a : Nat) (hv : v.length = 2) (hC : a + 2 + D.length ≤ C.length) :
    ((C.take (a + 2) ++ D ++ C.drop (a + 2 + D.length)).take a ++ v ++ (C.take (a + 2) ++ D ++ C.drop (a + 2 + D.length)).drop (a + v.length)).take (a + 2 + D.length) = C.take a ++ v ++ D := by
  have h1 : (C.take (a + 2)).length = a + 2 := by rw [List.length_take]; omega
  have h2 : (C.take (a + 2) ++ D ++ C.drop (a + 2 + D.length)).take a = C.take a := by
    rw [List.append_assoc, List.take_append_of_le_length (by omega), List.take_take, show min a (a + 2) = a by omega]
  have h3 : (C.take (a + 2) ++ D ++ C.drop (a + 2 + D.length)).drop (a + v.length) = D ++ C.drop (a + 2 + D.length) := by
    rw [hv, List.append_assoc, List.drop_append, List.drop_of_length_le (by omega), h1]; simp
  rw [h2, h3, ← List.append_assoc, List.take_append_of_le_length (by simp only [List.length_append, List.length_take, hv]; omega), List.take_of_length_le (by simp only [List.length_append, List.length_take, hv]; omega)]
/-- First before, then behind. -/
theorem seg_new (C v D : List Value) (a : Nat) (hv : v.length = 2) (hC : a + 2 + D.length ≤ C.length) :
    ((C.take a ++ v ++ C.drop (a + v.length)).take (a + 2) ++ D ++ (C.take a ++ v ++ C.drop (a + v.length)).drop (a + 2 + D.length)).take (a + 2 + D.length) = C.take a ++ v ++ D := by
  have h1 : (C.take a).length = a := by rw [List.length_take]; omega
  have h2 : (C.take a ++ v ++ C.drop (a + v.length)).take (a + 2) = C.take a ++ v := by
    rw [List.take_append_of_le_length (by simp only [List.length_append, h1, hv]; omega), List.take_of_length_le (by simp only [List.length_append, h1, hv]; omega)]
  rw [h2, List.take_append_of_le_length (by simp only [List.length_append, h1, hv]; omega), List.take_of_length_le (by simp only [List.length_append, h1, hv]; omega)]
theorem ins_eq (l : List (Int × Int)) (i : Nat) (p : Int × Int) : acells (l.take i ++ p :: l.drop i) = (acells l).take (i * 2) ++ [.int .i64 p.1, .int .i64 p.2] ++ acells (l.drop i) := by
  rw [acells_app, acells, acells_take]; simp
end Go.Proofs.Ytjancbjjeemedaa
