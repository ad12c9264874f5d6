/- Arguments that are rows of digests; six arguments. -/
import Derived.Test.YtfmngeemhfpeiaaDoorMsa
import Derived.Carry
namespace Go.Proofs.YtfmngeemhfpeiaaDoor
open Go.RowKit Go.ChangeShapes Go.WideShapes Go.ChangeAt

section
variable {H : Type} {enc : TypeId × Value → H} {w : World} {base : Nat} {spare : Nat → Bool} {held : Bool}
set_option maxRecDepth 100000 in
theorem open_drow {v : Value} {d : DataW H} {ps : List MemPlace} {r : Reach} {b0 : Nat} (hv : Value.okWide Tryd.prog w r b0 25 v) (h : DataW.Trod enc Tryd.prog w base spare held 25 v d ps) : ∃ l : List (List UInt8), Digs w w.heap.size v l := by
  obtain ⟨a0, len0, cap0, rfl⟩ := okWide_slice Tryd.underlying25 hv
  obtain ⟨fuel, hf⟩ := h
  rcases DataW.trod_slice Tryd.underlying25 hf with ⟨h0, _⟩ | ⟨a, len, cap, elems, rest, n', hn', hc, hx, hb, hle, hcm, hel, hget, _, _⟩
  · simp [Value.cells] at h0
    obtain ⟨rfl, rfl, rfl⟩ := h0
    exact ⟨[], fun x hx => by (cases hx), none, 0, rfl, by simp, by unfold maxLen; omega, .inl rfl⟩
  · simp [Value.cells] at hc
    obtain ⟨rfl, rfl, rfl⟩ := hc
    by_cases hlen : len0 = 0
    · subst hlen
      exact ⟨[], fun x hx => by (cases hx), some a, cap0, rfl, by simp, hcm, .inl rfl⟩
    have each : ∀ i, i < len0 → ∃ (y : List UInt8), y.length = 32 ∧ ∀ (j : Nat) (u : Value), (cells8 y)[j]? = some u → w.cell? ((a.add (i * 32)).add j) = some u := by
      intro i hi
      have h1 := hget i hi
      have hei : elems[i]? = some (elems[i]'(by omega)) := List.getElem?_eq_getElem (by omega)
      rw [Tryd.cellsOf30, hei] at h1
      obtain ⟨cs', h2, h3⟩ := Option.bind_eq_some_iff.1 h1
      obtain ⟨hl, _, h4⟩ := World.cells?_some h2
      obtain ⟨y, rfl, hy⟩ := open_dig0 h3
      refine ⟨y, hy, fun j u hu => ?_⟩
      have hj := (List.getElem?_eq_some_iff.1 hu).1
      have := h4 j (by omega)
      rw [this, hu]
    obtain ⟨b, off, spot⟩ := a
    obtain ⟨f, hfx⟩ := Deep.choose_lt (α := List UInt8) (p := fun i y => y.length = 32 ∧ ∀ (j : Nat) (u : Value), (cells8 y)[j]? = some u → w.cell? (((⟨b, off, spot⟩ : Addr).add (i * 32)).add j) = some u) each
    have hc0 : ∃ u, w.cell? (((⟨b, off, spot⟩ : Addr).add (0 * 32)).add 0) = some u := by
      obtain ⟨h32, h1⟩ := hfx 0 (by omega)
      have hl : 0 < (cells8 (f 0)).length := by rw [cells8_len, h32]; omega
      exact ⟨_, h1 0 _ (List.getElem?_eq_getElem hl)⟩
    obtain ⟨u0, hu0⟩ := hc0
    have hs0 : spot = none := by simpa [Addr.add] using World.cell?_spot hu0
    subst hs0
    have hbl : b < w.heap.size := World.block_lt_of_cell? w _ hu0
    have hll : ((List.range len0).map f).length = len0 := by simp
    refine ⟨(List.range len0).map f, fun y hy => ?_, some ⟨b, off, none⟩, cap0, by rw [hll], by rw [hll]; exact hle, hcm, .inr ⟨b, off, rfl, hbl, fun i hi => ?_⟩⟩
    · simp only [List.mem_map, List.mem_range] at hy
      obtain ⟨i, hi, rfl⟩ := hy
      exact (hfx i hi).1
    · rw [hll] at hi
      obtain ⟨_, h1⟩ := hfx i hi
      have hg : ((List.range len0).map f)[i]'(by rw [hll]; exact hi) = f i := by simp
      rw [hg]
      intro j u hu
      have := h1 j u hu
      rwa [Addr.add_mid, Addr.add_mid] at this
variable {P : Program}
theorem trodAll_six {t t' t'' t3 t4 t5 : TypeId} {args : Array Value} {ds : List (DataW H)} {ps : List MemPlace} (h : DataW.TrodAll enc P w base spare held [t, t', t'', t3, t4, t5] args.toList ds ps) :
    ∃ v v' v'' v3 v4 v5 d d' d'' d3 d4 d5 p p' p'' p3 p4 p5, args = #[v, v', v'', v3, v4, v5] ∧ ds = [d, d', d'', d3, d4, d5] ∧ ps = p ++ p' ++ p'' ++ p3 ++ p4 ++ p5 ∧ DataW.Trod enc P w base spare held t v d p ∧ DataW.Trod enc P w base spare held t' v' d' p' ∧ DataW.Trod enc P w base spare held t'' v'' d'' p'' ∧ DataW.Trod enc P w base spare held t3 v3 d3 p3 ∧ DataW.Trod enc P w base spare held t4 v4 d4 p4 ∧ DataW.Trod enc P w base spare held t5 v5 d5 p5 := by
  obtain ⟨v, vs, d, ds', p, q, hargs, rfl, rfl, hd, hrest⟩ := trodAll_cons h
  obtain ⟨v', vs', d', ds'', p', q', rfl, rfl, rfl, hd', hrest'⟩ := trodAll_cons hrest
  obtain ⟨v'', vs'', d'', ds''', p'', q'', rfl, rfl, rfl, hd'', hrest''⟩ := trodAll_cons hrest'
  obtain ⟨v3, vs3, d3, ds3, p3, q3, rfl, rfl, rfl, hd3, hrest3⟩ := trodAll_cons hrest''
  obtain ⟨v4, vs4, d4, ds4, p4, q4, rfl, rfl, rfl, hd4, hrest4⟩ := trodAll_cons hrest3
  obtain ⟨v5, vs5, d5, ds5, p5, q5, rfl, rfl, rfl, hd5, hrest5⟩ := trodAll_cons hrest4
  obtain ⟨rfl, rfl, rfl⟩ := trodAll_nil hrest5
  exact ⟨v, v', v'', v3, v4, v5, d, d', d'', d3, d4, d5, p, p', p'', p3, p4, p5, by cases args; simp_all, rfl, by simp, hd, hd', hd'', hd3, hd4, hd5⟩
theorem trodAll_mk6 {t t' t'' t3 t4 t5 : TypeId} {v v' v'' v3 v4 v5 : Value} {d d' d'' d3 d4 d5 : DataW H} {p p' p'' p3 p4 p5 : List MemPlace} (h : DataW.Trod enc P w base spare held t v d p) (h' : DataW.Trod enc P w base spare held t' v' d' p')
    (h'' : DataW.Trod enc P w base spare held t'' v'' d'' p'') (h3 : DataW.Trod enc P w base spare held t3 v3 d3 p3) (h4 : DataW.Trod enc P w base spare held t4 v4 d4 p4) (h5 : DataW.Trod enc P w base spare held t5 v5 d5 p5) :
    DataW.TrodAll enc P w base spare held [t, t', t'', t3, t4, t5] [v, v', v'', v3, v4, v5] [d, d', d'', d3, d4, d5] (p ++ (p' ++ (p'' ++ (p3 ++ (p4 ++ p5))))) := ⟨p, p' ++ (p'' ++ (p3 ++ (p4 ++ p5))), h, ⟨p', _, h', trodAll_mk4 h'' h3 h4 h5, rfl⟩, rfl⟩
end
end Go.Proofs.YtfmngeemhfpeiaaDoor
