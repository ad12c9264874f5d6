/- What every law's frame shares: the laid variables, a world for the witness, rows of numbers and bytes that come in. -/
import Derived.Test.YtljgcpfibamdpaaDoorFsn
import Derived.Test.YtljgcpfibamdpaaDoorCards
import Derived.Test.YtljgcpfibamdpaaDoorTie
import Derived.OpenShut
import Derived.Deep.DeepHandedRow
import Derived.Lib.LaidTab
import Derived.Lib.LaidU8
import Derived.PinnedBridge
import Derived.MakeChecks
import Derived.SizedLaws
namespace Go.Proofs.YtljgcpfibamdpaaDoor
open Go.RowKit Go.ChangeShapes Go.WideShapes Go.ChangeAt Go.Lib

theorem Fr.own : ownKnob Tryd.prog.godebug = none := by kernel_rfl
theorem Fr.laidOut : laidOutB Tryd.prog = true := by kernel_rfl
theorem Fr.x : U8Extra Tryd.prog Tryd.lays260_ren := ⟨by kernel_rfl, by kernel_rfl, by kernel_rfl, by kernel_rfl, by kernel_rfl, by kernel_rfl, by kernel_rfl⟩
theorem Fr.acc : (Rows.laid_unicode_utf8_acceptRanges : DataW Unit) = acceptData := by kernel_rfl
theorem Fr.fst : Rows.laid_unicode_utf8_first = firstData := by unfold Rows.laid_unicode_utf8_first; exact Pinned.utf8First_eq
theorem Fr.c3 : Tryd.prog.cellsOf 3 = 1 := by kernel_rfl
theorem Fr.c5 : Tryd.prog.cellsOf 5 = 1 := by kernel_rfl
theorem utab_of {W : World} {l : List (String × DataW Unit)} (h : laidMet Tryd.prog l W) (h1 : ("unicode/utf8.first", firstData) ∈ l) (h2 : ("unicode/utf8.acceptRanges", acceptData) ∈ l) (hz : 2 < W.heap.size) : UTab W :=
  ⟨utf8Tabs_of_reads Tryd.lays260 Fr.x (laidMet.reads h h1) (laidMet.reads h h2), hz⟩
theorem size_of_tabs {W : World} (h : Lib.Utf8Tabs 1 2 W) : 2 < W.heap.size := World.block_lt_of_cell? W _ (h.2 0 (by omega)).1
theorem Fr.utab {W : World} (h : laidMetH Tryd.prog Rows.fontsSpecRow.laid W) : UTab W := by
  rw [Go.MakeChecks.laidMetH_plain _ _ _ (by kernel_rfl)] at h
  have h1 := laidMet.reads h (n := "unicode/utf8.first") (d := firstData) (by rw [← Fr.fst]; simp [Rows.fontsSpecRow])
  have h2 := laidMet.reads h (n := "unicode/utf8.acceptRanges") (d := acceptData) (by rw [← Fr.acc]; simp [Rows.fontsSpecRow])
  have hu := utf8Tabs_of_reads Tryd.lays260 Fr.x h1 h2
  exact ⟨hu, size_of_tabs hu⟩
section
variable {H : Type} {enc : TypeId × Value → H} {w : World} {base : Nat} {spare : Nat → Bool} {held : Bool}
set_option maxRecDepth 100000 in
theorem open_ir {v : Value} {d : DataW H} {ps : List MemPlace} {r : Reach} {b0 : Nat} (hv : Value.okWide Tryd.prog w r b0 26 v) (h : DataW.Trod enc Tryd.prog w base spare held 26 v d ps) : ∃ l : List Int, IRow w w.heap.size v l := by
  obtain ⟨a0, len, cap, rfl⟩ := okWide_slice Tryd.underlying26 hv
  obtain ⟨fuel, hf⟩ := h
  rcases open_ints Tryd.underlying26 Tryd.underlying3 Fr.c3 hf with ⟨hcs, _⟩ | ⟨a, len, cap, zs, hcs, _, hl, hm, hz, _, hcell, _⟩
  · simp only [Value.cells, List.cons.injEq, and_true] at hcs
    rw [hcs]
    exact ⟨[], IRow.nil w _⟩
  · simp only [Value.cells, List.cons.injEq, and_true] at hcs
    rw [hcs]
    have hle : len ≤ zs.length := by rw [hz]; split <;> omega
    by_cases h0 : len = 0
    · subst h0
      exact ⟨[], some a, cap, rfl, by simp, hm, .inl rfl⟩
    · obtain ⟨b, off, spot⟩ := a
      have hspot : spot = none := by simpa [Addr.add] using World.cell?_spot (hcell 0 (by omega))
      subst hspot
      have hbl : b < w.heap.size := World.block_lt_of_cell? w _ (hcell 0 (by omega))
      have hlen : (zs.take len).length = len := by rw [List.length_take]; omega
      refine ⟨zs.take len, some ⟨b, off, none⟩, cap, by rw [hlen], by rw [hlen]; exact hl, hm, .inr ⟨b, off, rfl, hbl, fun i hi => ?_⟩⟩
      rw [hlen] at hi
      have hci := hcell i (by omega)
      rw [Addr.add_mid] at hci
      rw [hci, List.getElem_take]
      simp [List.getD, List.getElem?_eq_getElem (show i < zs.length by omega)]
end
theorem wf_in64 {n : Int} (h : (Lit.int .i64 n).wf = true) : In64 n := by
  have e1 : IntKind.i64.min = -9223372036854775808 := rfl
  have e2 : IntKind.i64.max = 9223372036854775807 := rfl
  simpa [Lit.wf, e1, e2, In64] using h
theorem Fr.c33 : Tryd.prog.cellsOf 33 = 1 := by kernel_rfl
theorem Fr.c34 : Tryd.prog.cellsOf 34 = 1 := by kernel_rfl
theorem Fr.c36 : Tryd.prog.cellsOf 36 = 3 := by kernel_rfl
theorem Fr.c47 : Tryd.prog.cellsOf 47 = 3 := by kernel_rfl
theorem Fr.c49 : Tryd.prog.cellsOf 49 = 3 := by kernel_rfl
section
variable {H : Type} {enc : TypeId × Value → H} {w : World} {base : Nat} {spare : Nat → Bool} {held : Bool}
theorem open_three47 (fuel : Nat) (u0 u1 u2 : Value) (x : DataW H × List MemPlace) (hf : DataW.trod enc Tryd.prog w base spare held fuel 47 [u0, u1, u2] = some x) : ∃ t : Tri, t.in64 ∧ u0 = .int .i64 t.a ∧ u1 = .int .i64 t.b ∧ u2 = .int .i64 t.c := by
  obtain ⟨xs, m, _, _, _, hx4, hfl⟩ := DataW.trod_struct Tryd.underlying47 hf
  match xs, hx4 with
  | [y0, y1, y2], _ =>
    have f0 : DataW.trod enc Tryd.prog w base spare held m 3 [u0] = some y0 := by have := hfl 0 _ rfl; simpa [Fr.c3] using this
    have f1 : DataW.trod enc Tryd.prog w base spare held m 3 [u1] = some y1 := by have := hfl 1 _ rfl; simpa [Fr.c3] using this
    have f2 : DataW.trod enc Tryd.prog w base spare held m 3 [u2] = some y2 := by have := hfl 2 _ rfl; simpa [Fr.c3] using this
    obtain ⟨k, hk, _, wk⟩ := DataW.trod_int Tryd.underlying3 f0
    obtain ⟨j, hj, _, wj⟩ := DataW.trod_int Tryd.underlying3 f1
    obtain ⟨i, hi, _, wi⟩ := DataW.trod_int Tryd.underlying3 f2
    simp only [List.cons.injEq, and_true] at hk hj hi
    subst hk; subst hj; subst hi
    exact ⟨⟨k, j, i⟩, ⟨wf_in64 wk, wf_in64 wj, wf_in64 wi⟩, rfl, rfl, rfl⟩
theorem open_tri33 (fuel : Nat) (c : Value) (x : DataW H × List MemPlace) (hf : DataW.trod enc Tryd.prog w base spare held fuel 33 [c] = some x) : ∃ l : List Tri, TAt w w.heap.size c l := by
  rcases DataW.trod_slice Tryd.underlying33 hf with ⟨h0, _⟩ | ⟨a, len, cap, elems, rest, n', hn', hc, _, hb, hle, hcm, hel, hget, _, _⟩
  · simp only [List.cons.injEq, and_true] at h0
    subst h0
    exact ⟨[], t_nil _ _ _⟩
  · simp only [List.cons.injEq, and_true] at hc
    subst hc
    by_cases hlen : len = 0
    · subst hlen
      exact ⟨[], some a, cap, rfl, by simp, hcm, .inl rfl⟩
    have each : ∀ i, i < len → ∃ (t : Tri), t.in64 ∧ w.cell? (a.add (i * 3)) = some (.int .i64 t.a) ∧ w.cell? ((a.add (i * 3)).add 1) = some (.int .i64 t.b) ∧ w.cell? ((a.add (i * 3)).add 2) = some (.int .i64 t.c) := by
      intro i hi
      have h1 := hget i hi
      rw [Fr.c47, List.getElem?_eq_getElem (by omega)] at h1
      obtain ⟨cs', h2, h3⟩ := Option.bind_eq_some_iff.1 h1
      obtain ⟨hl, _, h4⟩ := World.cells?_some h2
      match cs', hl with
      | [u0, u1, u2], _ =>
        obtain ⟨t, k1, rfl, rfl, rfl⟩ := open_three47 _ _ _ _ _ h3
        have g0 := h4 0 (by omega)
        have g1 := h4 1 (by omega)
        have g2 := h4 2 (by omega)
        exact ⟨t, k1, by simpa [Addr.add] using g0, by simpa using g1, by simpa using g2⟩
    obtain ⟨b, off, spot⟩ := a
    obtain ⟨f, hfx⟩ := Deep.choose_lt (α := Tri) (p := fun i t => t.in64 ∧ w.cell? ((⟨b, off, spot⟩ : Addr).add (i * 3)) = some (.int .i64 t.a) ∧ w.cell? (((⟨b, off, spot⟩ : Addr).add (i * 3)).add 1) = some (.int .i64 t.b) ∧ w.cell? (((⟨b, off, spot⟩ : Addr).add (i * 3)).add 2) = some (.int .i64 t.c)) each
    have hs0 : spot = none := by
      obtain ⟨_, h0, _⟩ := hfx 0 (by omega)
      simpa [Addr.add] using World.cell?_spot h0
    subst hs0
    have hbl : b < w.heap.size := by
      obtain ⟨_, h0, _⟩ := hfx 0 (by omega)
      exact World.block_lt_of_cell? w _ h0
    refine ⟨(List.range len).map f, some ⟨b, off, none⟩, cap, by simp, by simpa using hle, hcm, .inr ⟨b, off, rfl, hbl, fun i hi => ?_⟩⟩
    simp at hi
    obtain ⟨h0, h1, h2, h3⟩ := hfx i hi
    rw [Addr.add_mid] at h1
    rw [Addr.add_mid, Addr.add_mid] at h2 h3
    simp only [List.getElem_map, List.getElem_range]
    exact ⟨h0, h1, h2, h3⟩
theorem open_three49 (fuel : Nat) (u0 u1 u2 : Value) (x : DataW H × List MemPlace) (hf : DataW.trod enc Tryd.prog w base spare held fuel 49 [u0, u1, u2] = some x) : ∃ t : Tri, t.in64 ∧ u0 = .int .i64 t.a ∧ u1 = .int .i64 t.b ∧ u2 = .int .i64 t.c := by
  obtain ⟨xs, m, _, _, _, hx4, hfl⟩ := DataW.trod_struct Tryd.underlying49 hf
  match xs, hx4 with
  | [y0, y1, y2], _ =>
    have f0 : DataW.trod enc Tryd.prog w base spare held m 3 [u0] = some y0 := by have := hfl 0 _ rfl; simpa [Fr.c3] using this
    have f1 : DataW.trod enc Tryd.prog w base spare held m 3 [u1] = some y1 := by have := hfl 1 _ rfl; simpa [Fr.c3] using this
    have f2 : DataW.trod enc Tryd.prog w base spare held m 3 [u2] = some y2 := by have := hfl 2 _ rfl; simpa [Fr.c3] using this
    obtain ⟨k, hk, _, wk⟩ := DataW.trod_int Tryd.underlying3 f0
    obtain ⟨j, hj, _, wj⟩ := DataW.trod_int Tryd.underlying3 f1
    obtain ⟨i, hi, _, wi⟩ := DataW.trod_int Tryd.underlying3 f2
    simp only [List.cons.injEq, and_true] at hk hj hi
    subst hk; subst hj; subst hi
    exact ⟨⟨k, j, i⟩, ⟨wf_in64 wk, wf_in64 wj, wf_in64 wi⟩, rfl, rfl, rfl⟩
theorem open_tri34 (fuel : Nat) (c : Value) (x : DataW H × List MemPlace) (hf : DataW.trod enc Tryd.prog w base spare held fuel 34 [c] = some x) : ∃ l : List Tri, TAt w w.heap.size c l := by
  rcases DataW.trod_slice Tryd.underlying34 hf with ⟨h0, _⟩ | ⟨a, len, cap, elems, rest, n', hn', hc, _, hb, hle, hcm, hel, hget, _, _⟩
  · simp only [List.cons.injEq, and_true] at h0
    subst h0
    exact ⟨[], t_nil _ _ _⟩
  · simp only [List.cons.injEq, and_true] at hc
    subst hc
    by_cases hlen : len = 0
    · subst hlen
      exact ⟨[], some a, cap, rfl, by simp, hcm, .inl rfl⟩
    have each : ∀ i, i < len → ∃ (t : Tri), t.in64 ∧ w.cell? (a.add (i * 3)) = some (.int .i64 t.a) ∧ w.cell? ((a.add (i * 3)).add 1) = some (.int .i64 t.b) ∧ w.cell? ((a.add (i * 3)).add 2) = some (.int .i64 t.c) := by
      intro i hi
      have h1 := hget i hi
      rw [Fr.c49, List.getElem?_eq_getElem (by omega)] at h1
      obtain ⟨cs', h2, h3⟩ := Option.bind_eq_some_iff.1 h1
      obtain ⟨hl, _, h4⟩ := World.cells?_some h2
      match cs', hl with
      | [u0, u1, u2], _ =>
        obtain ⟨t, k1, rfl, rfl, rfl⟩ := open_three49 _ _ _ _ _ h3
        have g0 := h4 0 (by omega)
        have g1 := h4 1 (by omega)
        have g2 := h4 2 (by omega)
        exact ⟨t, k1, by simpa [Addr.add] using g0, by simpa using g1, by simpa using g2⟩
    obtain ⟨b, off, spot⟩ := a
    obtain ⟨f, hfx⟩ := Deep.choose_lt (α := Tri) (p := fun i t => t.in64 ∧ w.cell? ((⟨b, off, spot⟩ : Addr).add (i * 3)) = some (.int .i64 t.a) ∧ w.cell? (((⟨b, off, spot⟩ : Addr).add (i * 3)).add 1) = some (.int .i64 t.b) ∧ w.cell? (((⟨b, off, spot⟩ : Addr).add (i * 3)).add 2) = some (.int .i64 t.c)) each
    have hs0 : spot = none := by
      obtain ⟨_, h0, _⟩ := hfx 0 (by omega)
      simpa [Addr.add] using World.cell?_spot h0
    subst hs0
    have hbl : b < w.heap.size := by
      obtain ⟨_, h0, _⟩ := hfx 0 (by omega)
      exact World.block_lt_of_cell? w _ h0
    refine ⟨(List.range len).map f, some ⟨b, off, none⟩, cap, by simp, by simpa using hle, hcm, .inr ⟨b, off, rfl, hbl, fun i hi => ?_⟩⟩
    simp at hi
    obtain ⟨h0, h1, h2, h3⟩ := hfx i hi
    rw [Addr.add_mid] at h1
    rw [Addr.add_mid, Addr.add_mid] at h2 h3
    simp only [List.getElem_map, List.getElem_range]
    exact ⟨h0, h1, h2, h3⟩
set_option maxRecDepth 100000 in
theorem open_font {v : Value} {d : DataW H} {ps : List MemPlace} {r : Reach} {b0 : Nat} (hv : Value.okWide Tryd.prog w r b0 36 v) (h : DataW.Trod enc Tryd.prog w base spare held 36 v d ps) : ∃ f : Fo, FAt w w.heap.size v f := by
  obtain ⟨cs, rfl, hsz⟩ := okWide_struct Tryd.underlying36 hv
  obtain ⟨fuel, hf⟩ := h
  obtain ⟨xs, n, rfl, _, hl, hx4, hfl⟩ := DataW.trod_struct Tryd.underlying36 hf
  rw [Fr.c36] at hsz
  obtain ⟨l⟩ := cs
  match l, hsz with
  | [c0, c1, c2], _ =>
    match xs, hx4 with
    | [y0, y1, y2], _ =>
      have f0 : DataW.trod enc Tryd.prog w base spare held n 33 [c0] = some y0 := by have := hfl 0 _ rfl; simpa [Value.cells, Fr.c33] using this
      have f1 : DataW.trod enc Tryd.prog w base spare held n 3 [c1] = some y1 := by have := hfl 1 _ rfl; simpa [Value.cells, Fr.c3] using this
      have f2 : DataW.trod enc Tryd.prog w base spare held n 34 [c2] = some y2 := by have := hfl 2 _ rfl; simpa [Value.cells, Fr.c34] using this
      obtain ⟨k, hk, _, wk⟩ := DataW.trod_int Tryd.underlying3 f1
      simp only [List.cons.injEq, and_true] at hk
      subst hk
      obtain ⟨s, hs⟩ := open_tri33 _ _ _ f0
      obtain ⟨p, hp⟩ := open_tri34 _ _ _ f2
      exact ⟨⟨s, k, p⟩, c0, c2, rfl, wf_in64 wk, hs, hp⟩
end
def Fr.cellsOf (k : IntKind) (l : List Int) : Array Value := (l.map fun z => Value.int k z).toArray
def Fr.put (cs : Array Value) : Obj → Obj
  | .cells _ t frozen => .cells cs t frozen
  | o => o
def Fr.tabK : List Int := [-1, -1, 0, 0, 1, -1, -1, 2, 2, 1]
def Fr.tabF : List Int := Go.Pinned.utf8FirstZ.map Int.ofNat
def Fr.tabA : List Int := (List.range 16).flatMap fun i => [(accLo i : Int), (accHi i : Int)]
/-- A world for the witness: the settled one, the variables holding what their initialisers lay. -/
noncomputable def laidWorld (os : Os) : World :=
  let w0 := World.holding Tryd.prog os ⟨#[], #[], []⟩
  { w0 with heap := ((w0.heap.modify 0 (Fr.put (Fr.cellsOf .i64 Fr.tabK))).modify 1 (Fr.put (Fr.cellsOf .u8 Fr.tabF))).modify 2 (Fr.put (Fr.cellsOf .u8 Fr.tabA)) }
end Go.Proofs.YtljgcpfibamdpaaDoor
