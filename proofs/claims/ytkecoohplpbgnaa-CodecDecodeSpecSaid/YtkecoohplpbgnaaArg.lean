/- An argument that reads as data reads as a tree. -/
import Derived.Test.YtkecoohplpbgnaaVal
namespace Go.Proofs.Ytkecoohplpbgnaa
open Go.RowKit Go.ChangeShapes Go.WideShapes Go.ChangeAt

theorem Try.own : ownKnob Try.prog.godebug = none := by kernel_rfl
theorem Try.laidOut : laidOutB Try.prog = true := by kernel_rfl
theorem Try.cells3 : Try.prog.cellsOf 3 = 1 := by kernel_rfl
theorem Try.cells9 : Try.prog.cellsOf 9 = 1 := by kernel_rfl
theorem Try.cells22 : Try.prog.cellsOf 22 = 1 := by kernel_rfl
theorem Try.cells24 : Try.prog.cellsOf 24 = 4 := by kernel_rfl

theorem wf64 {n : Int} (h : (Lit.int .i64 n).wf = true) : In64 n := by
  have e1 : IntKind.i64.min = -9223372036854775808 := rfl
  have e2 : IntKind.i64.max = 9223372036854775807 := rfl
  simpa [Lit.wf, e1, e2, In64] using h

section
variable {H : Type} {enc : TypeId × Value → H} {w : World} {base : Nat} {spare : Nat → Bool} {held : Bool}

instance : Inhabited V := ⟨⟨0, 0, ByteArray.empty, []⟩⟩

/-- Trees one by one, over a function on indices. -/
theorem AtL.of {B : Nat} : ∀ (n : Nat) (f : Nat → V) (b off : Nat), (∀ i, i < n → ∃ c0 c1 c2 c3, w.cell? ⟨b, off + i * 4, none⟩ = some c0 ∧ w.cell? ⟨b, off + i * 4 + 1, none⟩ = some c1 ∧ w.cell? ⟨b, off + i * 4 + 2, none⟩ = some c2 ∧
    w.cell? ⟨b, off + i * 4 + 3, none⟩ = some c3 ∧ V.At w B (f i) (.agg #[c0, c1, c2, c3])) → AtL w B ((List.range n).map f) b off
  | 0, f, b, off, h => by simp only [List.range_zero, List.map_nil]; unfold AtL; trivial
  | n + 1, f, b, off, h => by
    rw [List.range_succ_eq_map, List.map_cons, List.map_map]
    unfold AtL
    refine ⟨?_, ?_⟩
    · obtain ⟨c0, c1, c2, c3, h0, h1, h2, h3, h4⟩ := h 0 (by omega)
      exact ⟨c0, c1, c2, c3, by simpa using h0, by simpa using h1, by simpa using h2, by simpa using h3, h4⟩
    · refine AtL.of n (f ∘ Nat.succ) b (off + 4) fun i hi => ?_
      obtain ⟨c0, c1, c2, c3, h0, h1, h2, h3, h4⟩ := h (i + 1) (by omega)
      rw [show off + 4 + i * 4 = off + (i + 1) * 4 by omega]
      exact ⟨c0, c1, c2, c3, h0, h1, h2, h3, h4⟩

/-- What is read as data of the type reads as a tree. -/
theorem open_val : ∀ (N fuel : Nat), fuel ≤ N → ∀ (cs : List Value) (x : DataW H × List MemPlace), DataW.trod enc Try.prog w base spare held fuel 24 cs = some x → ∃ (c0 c1 c2 c3 : Value) (t : V), cs = [c0, c1, c2, c3] ∧ V.At w w.heap.size t (.agg #[c0, c1, c2, c3])
  | 0, fuel, hN, cs, x, h => by
    have : fuel = 0 := by omega
    subst this
    simp [DataW.trod] at h
  | N + 1, fuel, hN, cs, x, h => by
    obtain ⟨xs, n, rfl, _, hl, hx4, hf⟩ := DataW.trod_struct Try.underlying24 h
    rw [Try.cells24] at hl
    match cs, hl with
    | [c0, c1, c2, c3], _ =>
      match xs, hx4 with
      | [y0, y1, y2, y3], _ =>
        have f0 : DataW.trod enc Try.prog w base spare held n 3 [c0] = some y0 := by have := hf 0 _ rfl; simpa [Try.cells3] using this
        have f1 : DataW.trod enc Try.prog w base spare held n 3 [c1] = some y1 := by have := hf 1 _ rfl; simpa [Try.cells3] using this
        have f2 : DataW.trod enc Try.prog w base spare held n 9 [c2] = some y2 := by have := hf 2 _ rfl; simpa [Try.cells9] using this
        have f3 : DataW.trod enc Try.prog w base spare held n 22 [c3] = some y3 := by have := hf 3 _ rfl; simpa [Try.cells22] using this
        obtain ⟨k, hk, _, wk⟩ := DataW.trod_int Try.underlying3 f0
        obtain ⟨m, hm, _, wm⟩ := DataW.trod_int Try.underlying3 f1
        obtain ⟨s, hs, _, ws⟩ := DataW.trod_string Try.underlying9 f2
        simp only [List.cons.injEq, and_true] at hk hm hs
        subst hk; subst hm; subst hs
        rcases DataW.trod_slice Try.underlying22 f3 with ⟨h0, _⟩ | ⟨a, len, cap, elems, rest, n', hn', hc, _, hb, hle, hcm, hel, hget, _, _⟩
        · simp only [List.cons.injEq, and_true] at h0
          subst h0
          refine ⟨_, _, _, _, ⟨k, m, s, []⟩, rfl, ?_⟩
          unfold V.At
          exact ⟨wf64 wk, wf64 wm, ws, none, 0, rfl, by simp, by unfold maxLen; omega, .inl rfl⟩
        · simp only [List.cons.injEq, and_true] at hc
          subst hc
          subst hn'
          by_cases hlen : len = 0
          · subst hlen
            refine ⟨_, _, _, _, ⟨k, m, s, []⟩, rfl, ?_⟩
            unfold V.At
            exact ⟨wf64 wk, wf64 wm, ws, some a, cap, rfl, by simp, hcm, .inl rfl⟩
          · have each : ∀ i, i < len → ∃ (t : V), ∃ c0 c1 c2 c3, w.cell? (a.add (i * 4)) = some c0 ∧ w.cell? ((a.add (i * 4)).add 1) = some c1 ∧ w.cell? ((a.add (i * 4)).add 2) = some c2 ∧ w.cell? ((a.add (i * 4)).add 3) = some c3 ∧ V.At w w.heap.size t (.agg #[c0, c1, c2, c3]) := by
              intro i hi
              have h1 := hget i hi
              rw [Try.cells24, List.getElem?_eq_getElem (by omega)] at h1
              obtain ⟨cs', h2, h3⟩ := Option.bind_eq_some_iff.1 h1
              obtain ⟨c0, c1, c2, c3, t, rfl, ht⟩ := open_val N n' (by omega) cs' _ h3
              obtain ⟨_, _, h4⟩ := World.cells?_some h2
              have g0 := h4 0 (by omega)
              have g1 := h4 1 (by omega)
              have g2 := h4 2 (by omega)
              have g3 := h4 3 (by omega)
              exact ⟨t, c0, c1, c2, c3, by simpa [Addr.add] using g0, by simpa using g1, by simpa using g2, by simpa using g3, ht⟩
            obtain ⟨b, off, spot⟩ := a
            obtain ⟨f, hfx⟩ := Deep.choose_lt (α := V) (p := fun i t => ∃ c0 c1 c2 c3, w.cell? ((⟨b, off, spot⟩ : Addr).add (i * 4)) = some c0 ∧ w.cell? (((⟨b, off, spot⟩ : Addr).add (i * 4)).add 1) = some c1 ∧ w.cell? (((⟨b, off, spot⟩ : Addr).add (i * 4)).add 2) = some c2 ∧ w.cell? (((⟨b, off, spot⟩ : Addr).add (i * 4)).add 3) = some c3 ∧ V.At w w.heap.size t (.agg #[c0, c1, c2, c3])) each
            have hs0 : spot = none := by
              obtain ⟨c0, _, _, _, h0, _⟩ := hfx 0 (by omega)
              simpa [Addr.add] using World.cell?_spot h0
            subst hs0
            have hadd : ∀ i j, ((⟨b, off, none⟩ : Addr).add i).add j = ⟨b, off + i + j, none⟩ := fun i j => by
              unfold Addr.add
              by_cases h1 : i = 0 <;> by_cases h2 : j = 0 <;> simp [h1, h2]
            have hadd0 : ∀ i, (⟨b, off, none⟩ : Addr).add i = ⟨b, off + i, none⟩ := fun i => by
              unfold Addr.add
              by_cases h1 : i = 0 <;> simp [h1]
            have hbl : b < w.heap.size := by
              obtain ⟨c0, _, _, _, h0, _⟩ := hfx 0 (by omega)
              exact World.block_lt_of_cell? w _ h0
            have hat : AtL w w.heap.size ((List.range len).map f) b off := AtL.of len f b off fun i hi => by
              obtain ⟨c0, c1, c2, c3, h0, h1, h2, h3, h4⟩ := hfx i hi
              rw [hadd0] at h0
              rw [hadd] at h1 h2 h3
              exact ⟨c0, c1, c2, c3, h0, h1, h2, h3, h4⟩
            refine ⟨_, _, _, _, ⟨k, m, s, (List.range len).map f⟩, rfl, ?_⟩
            unfold V.At
            exact ⟨wf64 wk, wf64 wm, ws, some ⟨b, off, none⟩, cap, by simp, by simpa using hle, hcm, .inr ⟨b, off, rfl, hbl, hat⟩⟩

/-- An argument. -/
theorem open_arg {v : Value} {d : DataW H} {ps : List MemPlace} {r : Reach} {b0 : Nat} (hv : Value.okWide Try.prog w r b0 24 v) (h : DataW.Trod enc Try.prog w base spare held 24 v d ps) : ∃ t : V, V.At w w.heap.size t v := by
  obtain ⟨cs, rfl, hsz⟩ := okWide_struct Try.underlying24 hv
  obtain ⟨fuel, hf⟩ := h
  obtain ⟨c0, c1, c2, c3, t, hcs, ht⟩ := open_val fuel fuel (Nat.le_refl _) _ _ hf
  refine ⟨t, ?_⟩
  have : cs = #[c0, c1, c2, c3] := by apply Array.ext'; simpa [Value.cells] using hcs
  rw [this]; exact ht

end
end Go.Proofs.Ytkecoohplpbgnaa
