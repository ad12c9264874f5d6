/- An argument that reads as data reads as bytes, as a disk. -/
import Derived.Test.YtmklchjgiaomkaaVal
import Derived.Carry
import Derived.OpenShut
namespace Go.Proofs.Ytmklchjgiaomkaa
open Go.RowKit Go.ChangeShapes Go.WideShapes Go.ChangeAt

theorem Try.own : ownKnob Try.prog.godebug = none := by kernel_rfl
theorem Try.laidOut : laidOutB Try.prog = true := by kernel_rfl
theorem Try.cells3 : Try.prog.cellsOf 3 = 1 := by kernel_rfl
theorem Try.cells4 : Try.prog.cellsOf 4 = 1 := by kernel_rfl
theorem Try.cells5 : Try.prog.cellsOf 5 = 1 := by kernel_rfl
theorem Try.cells22 : Try.prog.cellsOf 22 = 1 := by kernel_rfl
theorem Try.cells23 : Try.prog.cellsOf 23 = 1 := by kernel_rfl
theorem Try.cells25 : Try.prog.cellsOf 25 = 4 := by kernel_rfl
theorem Try.cells35 : Try.prog.cellsOf 35 = 1 := by kernel_rfl
theorem Try.cells54 : Try.prog.cellsOf 54 = 2 := by kernel_rfl

theorem wf64 {n : Int} (h : (Lit.int .i64 n).wf = true) : In64 n := by
  have e1 : IntKind.i64.min = -9223372036854775808 := rfl
  have e2 : IntKind.i64.max = 9223372036854775807 := rfl
  simpa [Lit.wf, e1, e2, In64] using h
theorem u8_nat (n : Nat) (h : n < 256) : (UInt8.ofNat n).toNat = n := by simp; omega

section
variable {H : Type} {enc : TypeId × Value → H} {w : World} {base : Nat} {spare : Nat → Bool} {held : Bool}

theorem add_mid (b off i : Nat) : (⟨b, off, none⟩ : Addr).add i = ⟨b, off + i, none⟩ := by unfold Addr.add; by_cases h : i = 0 <;> simp [h]

/-- Bytes. -/
theorem open_by (fuel : Nat) (c : Value) (x : DataW H × List MemPlace) (hf : DataW.trod enc Try.prog w base spare held fuel 35 [c] = some x) : ∃ bs : By, BytesAt w w.heap.size c bs := by
  rcases open_ints Try.underlying35 Try.underlying5 Try.cells5 hf with ⟨hcs, _⟩ | ⟨a, len, cap, zs, hcs, _, hl, hm, hz, _, hcell, hwz⟩
  · simp only [List.cons.injEq, and_true] at hcs
    subst hcs
    exact ⟨[], none, 0, rfl, by simp, by unfold maxLen; omega, .inl rfl⟩
  · simp only [List.cons.injEq, and_true] at hcs
    subst hcs
    have hle : len ≤ zs.length := by rw [hz]; split <;> omega
    by_cases h0 : len = 0
    · subst h0
      exact ⟨[], some a, cap, rfl, by simp, hm, .inl rfl⟩
    · obtain ⟨b, off, spot⟩ := a
      have hspot : spot = none := by simpa [Addr.add] using World.cell?_spot (hcell 0 (by omega))
      subst hspot
      have hbl : b < w.heap.size := World.block_lt_of_cell? w _ (hcell 0 (by omega))
      have hlen : ((zs.take len).map fun z => UInt8.ofNat z.toNat).length = len := by rw [List.length_map, List.length_take]; omega
      refine ⟨(zs.take len).map fun z => UInt8.ofNat z.toNat, some ⟨b, off, none⟩, cap, by rw [hlen], by rw [hlen]; exact hl, hm, .inr ⟨b, off, rfl, hbl, fun i hi => ?_⟩⟩
      rw [hlen] at hi
      have hci := hcell i (by omega)
      rw [add_mid] at hci
      rw [hci, List.getElem_map, List.getElem_take]
      have hmem : zs[i]'(by omega) ∈ zs := List.getElem_mem _
      have hwf := hwz _ hmem
      have e1 : IntKind.u8.min = 0 := rfl
      have e2 : IntKind.u8.max = 255 := rfl
      have hbd : 0 ≤ zs[i]'(by omega) ∧ zs[i]'(by omega) ≤ 255 := by simpa [Lit.wf, e1, e2] using hwf
      have e3 : zs.getD i 0 = zs[i]'(by omega) := by simp [List.getD, List.getElem?_eq_getElem (show i < zs.length by omega)]
      rw [e3, u8_nat _ (by omega)]
      congr 2
      omega

/-- Sectors. -/
theorem open_sec (fuel : Nat) (c : Value) (x : DataW H × List MemPlace) (hf : DataW.trod enc Try.prog w base spare held fuel 22 [c] = some x) : ∃ l : List By, SecAt w w.heap.size c l := by
  rcases DataW.trod_slice Try.underlying22 hf with ⟨h0, _⟩ | ⟨a, len, cap, elems, rest, n', hn', hc, _, hb, hle, hcm, hel, hget, _, _⟩
  · simp only [List.cons.injEq, and_true] at h0
    subst h0
    exact ⟨[], sec_nil _ _ _⟩
  · simp only [List.cons.injEq, and_true] at hc
    subst hc
    by_cases hlen : len = 0
    · subst hlen
      exact ⟨[], some a, cap, rfl, by simp, hcm, .inl rfl⟩
    have each : ∀ i, i < len → ∃ (t : By), ∃ u, w.cell? (a.add i) = some u ∧ BytesAt w w.heap.size u t := by
      intro i hi
      have h1 := hget i hi
      rw [Try.cells35, List.getElem?_eq_getElem (by omega)] at h1
      obtain ⟨cs', h2, h3⟩ := Option.bind_eq_some_iff.1 h1
      obtain ⟨hl, _, h4⟩ := World.cells?_some h2
      match cs', hl with
      | [u], _ =>
        obtain ⟨t, ht⟩ := open_by _ u _ h3
        have g0 := h4 0 (by omega)
        exact ⟨t, u, by simpa [Addr.add] using g0, ht⟩
    obtain ⟨b, off, spot⟩ := a
    obtain ⟨f, hfx⟩ := Deep.choose_lt (α := By) (p := fun i t => ∃ u, w.cell? ((⟨b, off, spot⟩ : Addr).add i) = some u ∧ BytesAt w w.heap.size u t) each
    have hs0 : spot = none := by
      obtain ⟨u, h0, _⟩ := hfx 0 (by omega)
      simpa [Addr.add] using World.cell?_spot h0
    subst hs0
    have hbl : b < w.heap.size := by
      obtain ⟨u, h0, _⟩ := hfx 0 (by omega)
      exact World.block_lt_of_cell? w _ h0
    refine ⟨(List.range len).map f, some ⟨b, off, none⟩, cap, by simp, by simpa using hle, hcm, .inr ⟨b, off, rfl, hbl, fun i hi => ?_⟩⟩
    simp at hi
    obtain ⟨u, h1, h2⟩ := hfx i hi
    rw [add_mid] at h1
    exact ⟨u, h1, by simpa using h2⟩

/-- Writes. -/
theorem open_pen (fuel : Nat) (c : Value) (x : DataW H × List MemPlace) (hf : DataW.trod enc Try.prog w base spare held fuel 23 [c] = some x) : ∃ l : List (Int × By), PenAt w w.heap.size c l := by
  rcases DataW.trod_slice Try.underlying23 hf with ⟨h0, _⟩ | ⟨a, len, cap, elems, rest, n', hn', hc, _, hb, hle, hcm, hel, hget, _, _⟩
  · simp only [List.cons.injEq, and_true] at h0
    subst h0
    exact ⟨[], pen_nil _ _ _⟩
  · simp only [List.cons.injEq, and_true] at hc
    subst hc
    by_cases hlen : len = 0
    · subst hlen
      exact ⟨[], some a, cap, rfl, by simp, hcm, .inl rfl⟩
    have each : ∀ i, i < len → ∃ (t : Int × By), In64 t.1 ∧ w.cell? (a.add (i * 2)) = some (.int .i64 t.1) ∧ ∃ u, w.cell? ((a.add (i * 2)).add 1) = some u ∧ BytesAt w w.heap.size u t.2 := by
      intro i hi
      have h1 := hget i hi
      rw [Try.cells54, List.getElem?_eq_getElem (by omega)] at h1
      obtain ⟨cs', h2, h3⟩ := Option.bind_eq_some_iff.1 h1
      obtain ⟨hl, _, h4⟩ := World.cells?_some h2
      obtain ⟨xs, m, _, _, _, hx4, hfl⟩ := DataW.trod_struct Try.underlying54 h3
      match cs', hl with
      | [u0, u1], _ =>
        match xs, hx4 with
        | [y0, y1], _ =>
          have f0 : DataW.trod enc Try.prog w base spare held m 3 [u0] = some y0 := by have := hfl 0 _ rfl; simpa [Try.cells3] using this
          have f1 : DataW.trod enc Try.prog w base spare held m 35 [u1] = some y1 := by have := hfl 1 _ rfl; simpa [Try.cells35] using this
          obtain ⟨k, hk, _, wk⟩ := DataW.trod_int Try.underlying3 f0
          simp only [List.cons.injEq, and_true] at hk
          subst hk
          obtain ⟨t, ht⟩ := open_by _ u1 _ f1
          have g0 := h4 0 (by omega)
          have g1 := h4 1 (by omega)
          exact ⟨(k, t), wf64 wk, by simpa [Addr.add] using g0, u1, by simpa using g1, ht⟩
    obtain ⟨b, off, spot⟩ := a
    obtain ⟨f, hfx⟩ := Deep.choose_lt (α := Int × By) (p := fun i t => In64 t.1 ∧ w.cell? ((⟨b, off, spot⟩ : Addr).add (i * 2)) = some (.int .i64 t.1) ∧ ∃ u, w.cell? (((⟨b, off, spot⟩ : Addr).add (i * 2)).add 1) = some u ∧ BytesAt w w.heap.size u t.2) each
    have hs0 : spot = none := by
      obtain ⟨_, h0, _⟩ := hfx 0 (by omega)
      simpa [Addr.add] using World.cell?_spot h0
    subst hs0
    have hbl : b < w.heap.size := by
      obtain ⟨_, h0, _⟩ := hfx 0 (by omega)
      exact World.block_lt_of_cell? w _ h0
    refine ⟨(List.range len).map f, some ⟨b, off, none⟩, cap, by simp, by simpa using hle, hcm, .inr ⟨b, off, rfl, hbl, fun i hi => ?_⟩⟩
    simp at hi
    obtain ⟨h0, h1, u, h2, h3⟩ := hfx i hi
    rw [add_mid] at h1
    rw [add_mid, add_mid] at h2
    simp only [List.getElem_map, List.getElem_range]
    exact ⟨h0, h1, u, h2, h3⟩

theorem open_bytes {v : Value} {d : DataW H} {ps : List MemPlace} {r : Reach} {b0 : Nat} (hv : Value.okWide Try.prog w r b0 35 v) (h : DataW.Trod enc Try.prog w base spare held 35 v d ps) : ∃ bs : By, BytesAt w w.heap.size v bs := by
  obtain ⟨a0, len, cap, rfl⟩ := okWide_slice Try.underlying35 hv
  obtain ⟨fuel, hf⟩ := h
  exact open_by fuel _ _ hf

/-- A disk. -/
theorem open_disk {v : Value} {d : DataW H} {ps : List MemPlace} {r : Reach} {b0 : Nat} (hv : Value.okWide Try.prog w r b0 25 v) (h : DataW.Trod enc Try.prog w base spare held 25 v d ps) : ∃ t : Dk, DkAt w w.heap.size v t := by
  obtain ⟨cs, rfl, hsz⟩ := okWide_struct Try.underlying25 hv
  obtain ⟨fuel, hf⟩ := h
  obtain ⟨xs, n, rfl, _, hl, hx4, hfl⟩ := DataW.trod_struct Try.underlying25 hf
  rw [Try.cells25] at hsz
  obtain ⟨l⟩ := cs
  match l, hsz with
  | [c0, c1, c2, c3], _ =>
    match xs, hx4 with
    | [y0, y1, y2, y3], _ =>
      have f0 : DataW.trod enc Try.prog w base spare held n 22 [c0] = some y0 := by have := hfl 0 _ rfl; simpa [Value.cells, Try.cells22] using this
      have f1 : DataW.trod enc Try.prog w base spare held n 23 [c1] = some y1 := by have := hfl 1 _ rfl; simpa [Value.cells, Try.cells23] using this
      have f2 : DataW.trod enc Try.prog w base spare held n 3 [c2] = some y2 := by have := hfl 2 _ rfl; simpa [Value.cells, Try.cells3] using this
      have f3 : DataW.trod enc Try.prog w base spare held n 4 [c3] = some y3 := by have := hfl 3 _ rfl; simpa [Value.cells, Try.cells4] using this
      obtain ⟨s, hs⟩ := open_sec _ _ _ f0
      obtain ⟨p, hp⟩ := open_pen _ _ _ f1
      obtain ⟨k, hk, _, wk⟩ := DataW.trod_int Try.underlying3 f2
      obtain ⟨b, hb, _⟩ := DataW.trod_bool Try.underlying4 f3
      simp only [List.cons.injEq, and_true] at hk hb
      subst hk; subst hb
      exact ⟨⟨s, p, k, b⟩, wf64 wk, c0, c1, rfl, hs, hp⟩
end
end Go.Proofs.Ytmklchjgiaomkaa
