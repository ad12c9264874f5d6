/- Moves; a cell that is written with what it holds. -/
import Derived.Test.YtjancbjjeemedaaArg
import Derived.Test.YtjancbjjeemedaaLcu
namespace Go.Proofs.Ytjancbjjeemedaa
open Go.RowKit Go.ChangeShapes Go.WideShapes Go.ChangeAt

theorem setCell_id {W : World} {b o : Nat} {v : Value} (h : W.cell? ⟨b, o, none⟩ = some v) : W.setCell ⟨b, o, none⟩ v = W := by
  have hh : W.heap.modify b (fun
      | .cells c elem frozen => .cells (if (⟨b, o, none⟩ : Addr).spot.isSome then c else c.setIfInBounds o v) elem frozen
      | o => o) = W.heap := by
    refine Array.ext_getElem? fun k => ?_
    rw [Array.getElem?_modify]
    split
    · rename_i e
      subst e
      cases hb : W.heap[b]? with
      | none => rfl
      | some O =>
        unfold World.cell? at h
        rw [hb] at h
        cases O with
        | cells C t fr =>
          simp only [Option.map_some, Option.isSome_none, Bool.false_eq_true, if_false]
          have hc : C[o]? = some v := by simpa using h
          congr 2
          refine Array.ext_getElem? fun j => ?_
          rw [Array.getElem?_setIfInBounds]
          split
          · rename_i e
            subst e
            rw [hc]
            have := (Array.getElem?_eq_some_iff.1 hc).1
            simp [this]
          · rfl
        | _ => rfl
    · rfl
  have h2 : (W.setCell ⟨b, o, none⟩ v).heap = W.heap := hh
  have h3 : W.setCell ⟨b, o, none⟩ v = { W with heap := (W.setCell ⟨b, o, none⟩ v).heap } := rfl
  rw [h3, h2]

/-- A move. -/
structure Mv where
  kind : UInt8
  at_ : UInt8
  a : UInt8
  b : UInt8
  data : UInt8
instance : Inhabited Mv := ⟨⟨0, 0, 0, 0, 0⟩⟩
def mcells (m : Mv) : List Value := [.int .u8 m.kind.toNat, .int .u8 m.at_.toNat, .int .u8 m.a.toNat, .int .u8 m.b.toNat, .int .u8 m.data.toNat]
def MIn (w : World) (b off : Nat) (l : List Mv) : Prop := ∀ i (h : i < l.length), ∀ j v, (mcells l[i])[j]? = some v → w.cell? ⟨b, off + i * 5 + j, none⟩ = some v
def MAt (w : World) (B : Nat) (v : Value) (l : List Mv) : Prop :=
  ∃ a cap, v = .slice a l.length cap ∧ l.length ≤ cap ∧ cap ≤ maxLen ∧ (l = [] ∨ ∃ b off, a = some ⟨b, off, none⟩ ∧ b < B ∧ MIn w b off l)
theorem MAt.got {w : World} {B : Nat} {a : Option Addr} {n cap : Nat} {l : List Mv} (h : MAt w B (.slice a n cap) l) (i : Nat) (hi : i < l.length) : ∃ b off, a = some ⟨b, off, none⟩ ∧ b < B ∧ ∀ j v, (mcells l[i])[j]? = some v → w.cell? ⟨b, off + i * 5 + j, none⟩ = some v := by
  obtain ⟨a', cap', e, _, _, h4⟩ := h
  cases e
  rcases h4 with h4 | ⟨b, off, h4, h5, h6⟩
  · subst h4; simp at hi
  · exact ⟨b, off, h4, h5, h6 i hi⟩
theorem Try.cells49 : Try.prog.cellsOf 49 = 5 := by kernel_rfl
theorem u8_val {z : Int} (h : (Lit.int .u8 z).wf = true) : ∃ x : UInt8, z = (x.toNat : Int) := by
  have e1 : IntKind.u8.min = 0 := rfl
  have e2 : IntKind.u8.max = 255 := rfl
  have hb : 0 ≤ z ∧ z ≤ 255 := by simpa [Lit.wf, e1, e2] using h
  exact ⟨UInt8.ofNat z.toNat, by rw [u8_nat _ (by omega)]; omega⟩
section
variable {H : Type} {enc : TypeId × Value → H} {w : World} {base : Nat} {spare : Nat → Bool} {held : Bool}
theorem open_mv5 (fuel : Nat) (u0 u1 u2 u3 u4 : Value) (x : DataW H × List MemPlace) (hf : DataW.trod enc Try.prog w base spare held fuel 49 [u0, u1, u2, u3, u4] = some x) : ∃ m : Mv, [u0, u1, u2, u3, u4] = mcells m := by
  obtain ⟨xs, n, _, _, _, hx4, hfl⟩ := DataW.trod_struct Try.underlying49 hf
  match xs, hx4 with
  | [y0, y1, y2, y3, y4], _ =>
    have f0 : DataW.trod enc Try.prog w base spare held n 5 [u0] = some y0 := by have := hfl 0 _ rfl; simpa [Try.cells5] using this
    have f1 : DataW.trod enc Try.prog w base spare held n 5 [u1] = some y1 := by have := hfl 1 _ rfl; simpa [Try.cells5] using this
    have f2 : DataW.trod enc Try.prog w base spare held n 5 [u2] = some y2 := by have := hfl 2 _ rfl; simpa [Try.cells5] using this
    have f3 : DataW.trod enc Try.prog w base spare held n 5 [u3] = some y3 := by have := hfl 3 _ rfl; simpa [Try.cells5] using this
    have f4 : DataW.trod enc Try.prog w base spare held n 5 [u4] = some y4 := by have := hfl 4 _ rfl; simpa [Try.cells5] using this
    obtain ⟨k0, h0, _, w0⟩ := DataW.trod_int Try.underlying5 f0
    obtain ⟨k1, h1, _, w1⟩ := DataW.trod_int Try.underlying5 f1
    obtain ⟨k2, h2, _, w2⟩ := DataW.trod_int Try.underlying5 f2
    obtain ⟨k3, h3, _, w3⟩ := DataW.trod_int Try.underlying5 f3
    obtain ⟨k4, h4, _, w4⟩ := DataW.trod_int Try.underlying5 f4
    simp only [List.cons.injEq, and_true] at h0 h1 h2 h3 h4
    subst h0; subst h1; subst h2; subst h3; subst h4
    obtain ⟨x0, rfl⟩ := u8_val w0
    obtain ⟨x1, rfl⟩ := u8_val w1
    obtain ⟨x2, rfl⟩ := u8_val w2
    obtain ⟨x3, rfl⟩ := u8_val w3
    obtain ⟨x4, rfl⟩ := u8_val w4
    exact ⟨⟨x0, x1, x2, x3, x4⟩, rfl⟩
theorem open_moves {v : Value} {d : DataW H} {ps : List MemPlace} {r : Reach} {b0 : Nat} (hv : Value.okWide Try.prog w r b0 45 v) (h : DataW.Trod enc Try.prog w base spare held 45 v d ps) : ∃ l : List Mv, MAt w w.heap.size v l := by
  obtain ⟨a0, len0, cap0, rfl⟩ := okWide_slice Try.underlying45 hv
  obtain ⟨fuel, hf⟩ := h
  have hf' : DataW.trod enc Try.prog w base spare held fuel 45 [.slice a0 len0 cap0] = some (d, ps) := by simpa [Value.cells] using hf
  rcases DataW.trod_slice Try.underlying45 hf' with ⟨h0, _⟩ | ⟨a, len, cap, elems, rest, n', hn', hc, _, hb, hle, hcm, hel, hget, _, _⟩
  · simp only [List.cons.injEq, and_true] at h0
    rw [h0]
    exact ⟨[], none, 0, rfl, by simp, by unfold maxLen; omega, .inl rfl⟩
  · simp only [List.cons.injEq, and_true] at hc
    rw [hc]
    by_cases hlen : len = 0
    · subst hlen
      exact ⟨[], some a, cap, rfl, by simp, hcm, .inl rfl⟩
    have each : ∀ i, i < len → ∃ (t : Mv), ∀ j v, (mcells t)[j]? = some v → w.cell? ((a.add (i * 5)).add j) = some v := by
      intro i hi
      have h1 := hget i hi
      rw [Try.cells49, List.getElem?_eq_getElem (by omega)] at h1
      obtain ⟨cs', h2, h3⟩ := Option.bind_eq_some_iff.1 h1
      obtain ⟨hl, _, h4⟩ := World.cells?_some h2
      match cs', hl with
      | [u0, u1, u2, u3, u4], _ =>
        obtain ⟨t, ht⟩ := open_mv5 _ _ _ _ _ _ _ h3
        refine ⟨t, fun j v hj => ?_⟩
        rw [← ht] at hj
        have hjl := (List.getElem?_eq_some_iff.1 hj).1
        have := h4 j (by simpa using hjl)
        rw [this, ← hj]
        try simp [List.getElem?_eq_getElem hjl]
    obtain ⟨b, off, spot⟩ := a
    obtain ⟨f, hfx⟩ := Deep.choose_lt (α := Mv) (p := fun i t => ∀ j v, (mcells t)[j]? = some v → w.cell? (((⟨b, off, spot⟩ : Addr).add (i * 5)).add j) = some v) each
    have hs0 : spot = none := by
      have h0 := hfx 0 (by omega) 0 _ rfl
      simpa [Addr.add] using World.cell?_spot h0
    subst hs0
    have hbl : b < w.heap.size := by
      have h0 := hfx 0 (by omega) 0 _ rfl
      exact World.block_lt_of_cell? w _ h0
    refine ⟨(List.range len).map f, some ⟨b, off, none⟩, cap, by simp, by simpa using hle, hcm, .inr ⟨b, off, rfl, hbl, fun i hi j v hj => ?_⟩⟩
    simp at hi
    have := hfx i hi j v (by simpa using hj)
    rw [add_mid, add_mid] at this
    exact this
end
end Go.Proofs.Ytjancbjjeemedaa
