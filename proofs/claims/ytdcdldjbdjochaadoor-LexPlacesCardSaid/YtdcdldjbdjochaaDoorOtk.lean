/- From a row's reading to tokens. -/
import Derived.Test.YtdcdldjbdjochaaDoorSme
import Derived.Test.YtdcdldjbdjochaaDoorFrm
import Derived.SizedLaws
namespace Go.Proofs.YtdcdldjbdjochaaDoor
open Go.RowKit Go.ChangeShapes Go.WideShapes Go.ChangeAt

theorem Tryd.cells35 : Tryd.prog.cellsOf 35 = 4 := by kernel_rfl
theorem Tryd.cells3 : Tryd.prog.cellsOf 3 = 1 := by kernel_rfl
theorem Tryd.cells9 : Tryd.prog.cellsOf 9 = 1 := by kernel_rfl
theorem add_mid (b off i : Nat) : (⟨b, off, none⟩ : Addr).add i = ⟨b, off + i, none⟩ := by unfold Addr.add; by_cases h : i = 0 <;> simp [h]
theorem i64_of {z : Int} (h : (Lit.int .i64 z).wf = true) : -9223372036854775808 ≤ z ∧ z ≤ 9223372036854775807 := by
  have e1 : IntKind.i64.min = -9223372036854775808 := rfl
  have e2 : IntKind.i64.max = 9223372036854775807 := rfl
  simpa [Lit.wf, e1, e2] using h
/-- Tokens whose texts lie within the reach. -/
def Fit (l : List Tok) : Prop := ∀ t ∈ l, t.text.length ≤ 140737488355328 ∧ (-9223372036854775808 ≤ t.n ∧ t.n ≤ 9223372036854775807)

section
variable {H : Type} {enc : TypeId × Value → H} {w : World} {base : Nat} {spare : Nat → Bool} {held : Bool}
theorem weightsAll_mem (P : Program) (e : TypeId) : ∀ (l : List (DataW H)) (i : Nat) (d : DataW H), l[i]? = some d → ∀ n ∈ d.weights P e, n ∈ DataW.weightsAll P e l
  | [], i, d, h, n, hn => by simp at h
  | c :: l, 0, d, h, n, hn => by
    simp only [List.getElem?_cons_zero, Option.some.injEq] at h
    subst h
    simp only [DataW.weightsAll, List.mem_append]
    exact .inl hn
  | c :: l, i + 1, d, h, n, hn => by
    simp only [List.getElem?_cons_succ] at h
    simp only [DataW.weightsAll, List.mem_append]
    exact .inr (weightsAll_mem P e l i d h n hn)
set_option maxRecDepth 100000 in
theorem open_tok (fuel : Nat) (c : Value) (x : DataW H × List MemPlace) (hf : DataW.trod enc Tryd.prog w base spare held fuel 23 [c] = some x) (hS : ∀ n ∈ x.1.weights Tryd.prog 23, n ≤ 140737488355328) : ∃ l : List Tok, TRow w w.heap.size c l ∧ Fit l := by
  rcases DataW.trod_slice Tryd.underlying23 hf with ⟨h0, _⟩ | ⟨a, len, cap, elems, rest, n', hn', hc, hx, hb, hle, hcm, hel, hget, _, _⟩
  · simp only [List.cons.injEq, and_true] at h0
    subst h0
    exact ⟨[], ⟨none, 0, rfl, by simp, by unfold maxLen; omega, .inl rfl⟩, fun t ht => by cases ht⟩
  · simp only [List.cons.injEq, and_true] at hc
    subst hc
    by_cases hlen : len = 0
    · subst hlen
      exact ⟨[], ⟨some a, cap, rfl, by simp, hcm, .inl rfl⟩, fun t ht => by cases ht⟩
    have each : ∀ i, i < len → ∃ (t : Tok), (w.cell? (a.add (i * 4)) = some (.int .i64 t.kind) ∧ w.cell? ((a.add (i * 4)).add 1) = some (.string (str t.text)) ∧ w.cell? ((a.add (i * 4)).add 2) = some (.int .i64 t.n) ∧ w.cell? ((a.add (i * 4)).add 3) = some (.int .i64 t.at_)) ∧ t.text.length ≤ 140737488355328 ∧ (-9223372036854775808 ≤ t.n ∧ t.n ≤ 9223372036854775807) := by
      intro i hi
      have h1 := hget i hi
      have hei : elems[i]? = some (elems[i]'(by omega)) := List.getElem?_eq_getElem (by omega)
      rw [Tryd.cells35, hei] at h1
      obtain ⟨cs', h2, h3⟩ := Option.bind_eq_some_iff.1 h1
      obtain ⟨hl, _, h4⟩ := World.cells?_some h2
      obtain ⟨xs, m, _, hxe, _, hx4, hfl⟩ := DataW.trod_struct Tryd.underlying35 h3
      match cs', hl with
      | [u0, u1, u2, u3], _ =>
        match xs, hx4 with
        | [y0, y1, y2, y3], _ =>
          have f0 : DataW.trod enc Tryd.prog w base spare held m 3 [u0] = some y0 := by have := hfl 0 _ rfl; simpa [Tryd.cells3] using this
          have f1 : DataW.trod enc Tryd.prog w base spare held m 9 [u1] = some y1 := by have := hfl 1 _ rfl; simpa [Tryd.cells9] using this
          have f2 : DataW.trod enc Tryd.prog w base spare held m 3 [u2] = some y2 := by have := hfl 2 _ rfl; simpa [Tryd.cells3] using this
          have f3 : DataW.trod enc Tryd.prog w base spare held m 3 [u3] = some y3 := by have := hfl 3 _ rfl; simpa [Tryd.cells3] using this
          obtain ⟨k0, hk0, _, wk0⟩ := DataW.trod_int Tryd.underlying3 f0
          obtain ⟨s1, hk1, hy1, ws1⟩ := DataW.trod_string Tryd.underlying9 f1
          obtain ⟨k2, hk2, _, wk2⟩ := DataW.trod_int Tryd.underlying3 f2
          obtain ⟨k3, hk3, _, wk3⟩ := DataW.trod_int Tryd.underlying3 f3
          simp only [List.cons.injEq, and_true] at hk0 hk1 hk2 hk3
          subst hk0; subst hk1; subst hk2; subst hk3
          have g0 := h4 0 (by omega)
          have g1 := h4 1 (by omega)
          have g2 := h4 2 (by omega)
          have g3 := h4 3 (by omega)
          have hwt : s1.data.toList.length ∈ x.1.weights Tryd.prog 23 := by
            rw [hx]
            simp only [DataW.weights, Tryd.underlying23, List.mem_cons, List.mem_append]
            refine .inr (.inl (weightsAll_mem _ _ _ i (elems[i]'(by omega)).1 (by rw [List.getElem?_map, hei]; rfl) _ ?_))
            rw [hxe, hy1]
            simp [DataW.weights, Tryd.underlying35, DataW.weightsEach]
          have hbd := hS _ hwt
          refine ⟨⟨k0, s1.data.toList, k2, k3⟩, ⟨by simpa [Addr.add] using g0, ?_, by simpa using g2, by simpa using g3⟩, hbd, i64_of wk2⟩
          rw [str_of]
          simpa using g1
    obtain ⟨b, off, spot⟩ := a
    have : Inhabited Tok := ⟨⟨0, [], 0, 0⟩⟩
    obtain ⟨f, hfx⟩ := Deep.choose_lt (α := Tok) (p := fun i t => (w.cell? ((⟨b, off, spot⟩ : Addr).add (i * 4)) = some (.int .i64 t.kind) ∧ w.cell? (((⟨b, off, spot⟩ : Addr).add (i * 4)).add 1) = some (.string (str t.text)) ∧ w.cell? (((⟨b, off, spot⟩ : Addr).add (i * 4)).add 2) = some (.int .i64 t.n) ∧ w.cell? (((⟨b, off, spot⟩ : Addr).add (i * 4)).add 3) = some (.int .i64 t.at_)) ∧ t.text.length ≤ 140737488355328 ∧ (-9223372036854775808 ≤ t.n ∧ t.n ≤ 9223372036854775807)) each
    have hs0 : spot = none := by
      obtain ⟨⟨h0, _⟩, _⟩ := hfx 0 (by omega)
      simpa [Addr.add] using World.cell?_spot h0
    subst hs0
    have hbl : b < w.heap.size := by
      obtain ⟨⟨h0, _⟩, _⟩ := hfx 0 (by omega)
      exact World.block_lt_of_cell? w _ h0
    have hll : ((List.range len).map f).length = len := by simp
    refine ⟨(List.range len).map f, ⟨some ⟨b, off, none⟩, cap, by rw [hll], by rw [hll]; exact hle, hcm, .inr ⟨b, off, rfl, hbl, fun i u hu => ?_⟩⟩, fun t ht => ?_⟩
    · have hi := (List.getElem?_eq_some_iff.1 hu).1
      rw [tcells_len, hll] at hi
      have hq : i / 4 < len := by omega
      obtain ⟨⟨h1, h2, h3, h4⟩, _⟩ := hfx (i / 4) hq
      rw [add_mid] at h1
      rw [add_mid, add_mid] at h2 h3 h4
      obtain ⟨t1, t2, t3, t4⟩ := tcells_at ((List.range len).map f) (i / 4) (by rw [hll]; exact hq)
      have hg : ((List.range len).map f)[i / 4]'(by rw [hll]; exact hq) = f (i / 4) := by simp
      rw [hg] at t1 t2 t3 t4
      have hr : i % 4 = 0 ∨ i % 4 = 1 ∨ i % 4 = 2 ∨ i % 4 = 3 := by omega
      rcases hr with hr | hr | hr | hr
      · have e : i = i / 4 * 4 := by omega
        rw [e, t1] at hu; injection hu with hu; rw [e, ← hu]; exact h1
      · have e : i = i / 4 * 4 + 1 := by omega
        rw [e, t2] at hu; injection hu with hu; rw [e, ← hu, ← Nat.add_assoc]; exact h2
      · have e : i = i / 4 * 4 + 2 := by omega
        rw [e, t3] at hu; injection hu with hu; rw [e, ← hu, ← Nat.add_assoc]; exact h3
      · have e : i = i / 4 * 4 + 3 := by omega
        rw [e, t4] at hu; injection hu with hu; rw [e, ← hu, ← Nat.add_assoc]; exact h4
    · simp only [List.mem_map, List.mem_range] at ht
      obtain ⟨i, hi, rfl⟩ := ht
      exact (hfx i hi).2
set_option maxRecDepth 100000 in
theorem open_toks {v : Value} {d : DataW H} {ps : List MemPlace} {r : Reach} {b0 : Nat} (hv : Value.okWide Tryd.prog w r b0 23 v) (h : DataW.Trod enc Tryd.prog w base spare held 23 v d ps) (hS : ∀ n ∈ d.weights Tryd.prog 23, n ≤ 140737488355328) : ∃ l : List Tok, TRow w w.heap.size v l ∧ Fit l := by
  obtain ⟨a0, len, cap, rfl⟩ := okWide_slice Tryd.underlying23 hv
  obtain ⟨fuel, hf⟩ := h
  exact open_tok fuel _ _ hf hS
end
end Go.Proofs.YtdcdldjbdjochaaDoor
