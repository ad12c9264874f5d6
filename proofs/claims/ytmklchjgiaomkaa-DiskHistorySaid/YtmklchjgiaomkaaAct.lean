/- Acts: what a script of the laws holds; from the row's reading to data. -/
import Derived.Test.YtmklchjgiaomkaaArg
namespace Go.Proofs.Ytmklchjgiaomkaa
open Go.RowKit Go.ChangeShapes Go.WideShapes Go.ChangeAt

structure Ac where
  sync : Bool
  at_ : UInt8
  byte : UInt8
def ActsIn (w : World) (b off : Nat) (l : List Ac) : Prop := ∀ i (h : i < l.length), w.cell? ⟨b, off + i * 3, none⟩ = some (.bool l[i].sync) ∧ w.cell? ⟨b, off + i * 3 + 1, none⟩ = some (.int .u8 l[i].at_.toNat) ∧ w.cell? ⟨b, off + i * 3 + 2, none⟩ = some (.int .u8 l[i].byte.toNat)
def ActsAt (w : World) (B : Nat) (v : Value) (l : List Ac) : Prop :=
  ∃ a cap, v = .slice a l.length cap ∧ l.length ≤ cap ∧ cap ≤ maxLen ∧ (l = [] ∨ ∃ b off, a = some ⟨b, off, none⟩ ∧ b < B ∧ ActsIn w b off l)
theorem ActsIn.below {w w' : World} {B b off : Nat} {l : List Ac} (h : ActsIn w b off l) (hb : Below B w w') (hlt : b < B) : ActsIn w' b off l := fun i hi => by
  obtain ⟨h1, h2, h3⟩ := h i hi
  exact ⟨(hb.cell (p := ⟨b, off + i * 3, none⟩) hlt).trans h1, (hb.cell (p := ⟨b, off + i * 3 + 1, none⟩) hlt).trans h2, (hb.cell (p := ⟨b, off + i * 3 + 2, none⟩) hlt).trans h3⟩
theorem ActsAt.below {w w' : World} {B : Nat} {v : Value} {l : List Ac} (h : ActsAt w B v l) (hb : Below B w w') : ActsAt w' B v l := by
  obtain ⟨a, cap, h1, h2, h3, h4⟩ := h
  refine ⟨a, cap, h1, h2, h3, ?_⟩
  rcases h4 with h4 | ⟨b, off, h4, h5, h6⟩
  · exact .inl h4
  · exact .inr ⟨b, off, h4, h5, h6.below hb h5⟩
theorem acts_get {w : World} {B n cap : Nat} {a : Option Addr} {l : List Ac} (h : ActsAt w B (.slice a n cap) l) (h0 : 0 < l.length) : ∃ b off, a = some ⟨b, off, none⟩ ∧ b < B ∧ ActsIn w b off l := by
  obtain ⟨a', c', e, _, _, h3⟩ := h
  cases e
  rcases h3 with h3 | h3
  · subst h3; simp at h0
  · exact h3
theorem acts_shape {w : World} {B : Nat} {v : Value} {l : List Ac} (h : ActsAt w B v l) : ∃ a c, v = .slice a l.length c ∧ l.length ≤ c ∧ c ≤ maxLen := by
  obtain ⟨a, c, rfl, h1, h2, _⟩ := h; exact ⟨a, c, rfl, h1, h2⟩
theorem Try.cells46 : Try.prog.cellsOf 46 = 3 := by kernel_rfl

section
variable {H : Type} {enc : TypeId × Value → H} {w : World} {base : Nat} {spare : Nat → Bool} {held : Bool}
theorem u8_of {z : Int} (h : (Lit.int .u8 z).wf = true) : ∃ c : UInt8, z = c.toNat := by
  have e1 : IntKind.u8.min = 0 := rfl
  have e2 : IntKind.u8.max = 255 := rfl
  have hb : 0 ≤ z ∧ z ≤ 255 := by simpa [Lit.wf, e1, e2] using h
  exact ⟨UInt8.ofNat z.toNat, by rw [u8_nat _ (by omega)]; omega⟩
theorem open_act (fuel : Nat) (c : Value) (x : DataW H × List MemPlace) (hf : DataW.trod enc Try.prog w base spare held fuel 43 [c] = some x) : ∃ l : List Ac, ActsAt w w.heap.size c l := by
  rcases DataW.trod_slice Try.underlying43 hf with ⟨h0, _⟩ | ⟨a, len, cap, elems, rest, n', hn', hc, _, hb, hle, hcm, hel, hget, _, _⟩
  · simp only [List.cons.injEq, and_true] at h0
    subst h0
    exact ⟨[], none, 0, rfl, by simp, by unfold maxLen; omega, .inl rfl⟩
  · simp only [List.cons.injEq, and_true] at hc
    subst hc
    by_cases hlen : len = 0
    · subst hlen
      exact ⟨[], some a, cap, rfl, by simp, hcm, .inl rfl⟩
    have each : ∀ i, i < len → ∃ (t : Ac), w.cell? (a.add (i * 3)) = some (.bool t.sync) ∧ w.cell? ((a.add (i * 3)).add 1) = some (.int .u8 t.at_.toNat) ∧ w.cell? ((a.add (i * 3)).add 2) = some (.int .u8 t.byte.toNat) := by
      intro i hi
      have h1 := hget i hi
      rw [Try.cells46, List.getElem?_eq_getElem (by omega)] at h1
      obtain ⟨cs', h2, h3⟩ := Option.bind_eq_some_iff.1 h1
      obtain ⟨hl, _, h4⟩ := World.cells?_some h2
      obtain ⟨xs, m, _, _, _, hx4, hfl⟩ := DataW.trod_struct Try.underlying46 h3
      match cs', hl with
      | [u0, u1, u2], _ =>
        match xs, hx4 with
        | [y0, y1, y2], _ =>
          have f0 : DataW.trod enc Try.prog w base spare held m 4 [u0] = some y0 := by have := hfl 0 _ rfl; simpa [Try.cells4] using this
          have f1 : DataW.trod enc Try.prog w base spare held m 5 [u1] = some y1 := by have := hfl 1 _ rfl; simpa [Try.cells5] using this
          have f2 : DataW.trod enc Try.prog w base spare held m 5 [u2] = some y2 := by have := hfl 2 _ rfl; simpa [Try.cells5] using this
          obtain ⟨b0, hb0, _⟩ := DataW.trod_bool Try.underlying4 f0
          obtain ⟨k1, hk1, _, wk1⟩ := DataW.trod_int Try.underlying5 f1
          obtain ⟨k2, hk2, _, wk2⟩ := DataW.trod_int Try.underlying5 f2
          simp only [List.cons.injEq, and_true] at hb0 hk1 hk2
          subst hb0; subst hk1; subst hk2
          obtain ⟨c1, rfl⟩ := u8_of wk1
          obtain ⟨c2, rfl⟩ := u8_of wk2
          have g0 := h4 0 (by omega)
          have g1 := h4 1 (by omega)
          have g2 := h4 2 (by omega)
          exact ⟨⟨b0, c1, c2⟩, by simpa [Addr.add] using g0, by simpa using g1, by simpa using g2⟩
    obtain ⟨b, off, spot⟩ := a
    have : Inhabited Ac := ⟨⟨false, 0, 0⟩⟩
    obtain ⟨f, hfx⟩ := Deep.choose_lt (α := Ac) (p := fun i t => w.cell? ((⟨b, off, spot⟩ : Addr).add (i * 3)) = some (.bool t.sync) ∧ w.cell? (((⟨b, off, spot⟩ : Addr).add (i * 3)).add 1) = some (.int .u8 t.at_.toNat) ∧ w.cell? (((⟨b, off, spot⟩ : Addr).add (i * 3)).add 2) = some (.int .u8 t.byte.toNat)) each
    have hs0 : spot = none := by
      obtain ⟨h0, _⟩ := hfx 0 (by omega)
      simpa [Addr.add] using World.cell?_spot h0
    subst hs0
    have hbl : b < w.heap.size := by
      obtain ⟨h0, _⟩ := hfx 0 (by omega)
      exact World.block_lt_of_cell? w _ h0
    refine ⟨(List.range len).map f, some ⟨b, off, none⟩, cap, by simp, by simpa using hle, hcm, .inr ⟨b, off, rfl, hbl, fun i hi => ?_⟩⟩
    simp at hi
    obtain ⟨h1, h2, h3⟩ := hfx i hi
    rw [add_mid] at h1
    rw [add_mid, add_mid] at h2 h3
    simp only [List.getElem_map, List.getElem_range]
    exact ⟨h1, h2, h3⟩
theorem open_acts {v : Value} {d : DataW H} {ps : List MemPlace} {r : Reach} {b0 : Nat} (hv : Value.okWide Try.prog w r b0 43 v) (h : DataW.Trod enc Try.prog w base spare held 43 v d ps) : ∃ l : List Ac, ActsAt w w.heap.size v l := by
  obtain ⟨a0, len, cap, rfl⟩ := okWide_slice Try.underlying43 hv
  obtain ⟨fuel, hf⟩ := h
  exact open_act fuel _ _ hf
end
end Go.Proofs.Ytmklchjgiaomkaa
