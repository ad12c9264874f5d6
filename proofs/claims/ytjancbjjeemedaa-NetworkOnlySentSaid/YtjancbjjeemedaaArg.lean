/- An argument that reads as data reads as bytes, a packet, packets, links. -/
import Derived.Test.YtjancbjjeemedaaVal
import Derived.Carry
import Derived.OpenShut
namespace Go.Proofs.Ytjancbjjeemedaa
open Go.RowKit Go.ChangeShapes Go.WideShapes Go.ChangeAt

theorem Try.own : ownKnob Try.prog.godebug = none := by kernel_rfl
theorem Try.laidOut : laidOutB Try.prog = true := by kernel_rfl
theorem Try.cells3 : Try.prog.cellsOf 3 = 1 := by kernel_rfl
theorem Try.cells5 : Try.prog.cellsOf 5 = 1 := by kernel_rfl
theorem Try.cells22 : Try.prog.cellsOf 22 = 1 := by kernel_rfl
theorem Try.cells23 : Try.prog.cellsOf 23 = 1 := by kernel_rfl
theorem Try.cells25 : Try.prog.cellsOf 25 = 2 := by kernel_rfl
theorem Try.cells26 : Try.prog.cellsOf 26 = 1 := by kernel_rfl
theorem Try.cells28 : Try.prog.cellsOf 28 = 3 := by kernel_rfl
theorem Try.cells55 : Try.prog.cellsOf 55 = 2 := by kernel_rfl

instance : Inhabited Pk := ⟨⟨0, 0, []⟩⟩
theorem wf64 {n : Int} (h : (Lit.int .i64 n).wf = true) : In64 n := by
  have e1 : IntKind.i64.min = -9223372036854775808 := rfl
  have e2 : IntKind.i64.max = 9223372036854775807 := rfl
  simpa [Lit.wf, e1, e2, In64] using h
theorem u8_nat (n : Nat) (h : n < 256) : (UInt8.ofNat n).toNat = n := by simp; omega

section
variable {H : Type} {enc : TypeId × Value → H} {w : World} {base : Nat} {spare : Nat → Bool} {held : Bool}

theorem add_mid (b off i : Nat) : (⟨b, off, none⟩ : Addr).add i = ⟨b, off + i, none⟩ := by unfold Addr.add; by_cases h : i = 0 <;> simp [h]

/-- Bytes. -/
theorem open_by (fuel : Nat) (c : Value) (x : DataW H × List MemPlace) (hf : DataW.trod enc Try.prog w base spare held fuel 26 [c] = some x) : ∃ bs : By, BytesAt w w.heap.size c bs := by
  rcases open_ints Try.underlying26 Try.underlying5 Try.cells5 hf with ⟨hcs, _⟩ | ⟨a, len, cap, zs, hcs, _, hl, hm, hz, _, hcell, hwz⟩
  · simp only [List.cons.injEq, and_true] at hcs
    subst hcs
    exact ⟨[], none, 0, rfl, by simp, by unfold maxLen; omega, .inl rfl⟩
  · simp only [List.cons.injEq, and_true] at hcs
    subst hcs
    have hle : len ≤ zs.length := by rw [hz]; split <;> omega
    by_cases h0 : len = 0
    · subst h0
      exact ⟨[], some a, cap, rfl, by simp, hm, .inl rfl⟩
    · obtain ⟨b, off, spot⟩ := a
      have hspot : spot = none := by simpa [Addr.add] using World.cell?_spot (hcell 0 (by omega))
      subst hspot
      have hbl : b < w.heap.size := World.block_lt_of_cell? w _ (hcell 0 (by omega))
      have hlen : ((zs.take len).map fun z => UInt8.ofNat z.toNat).length = len := by rw [List.length_map, List.length_take]; omega
      refine ⟨(zs.take len).map fun z => UInt8.ofNat z.toNat, some ⟨b, off, none⟩, cap, by rw [hlen], by rw [hlen]; exact hl, hm, .inr ⟨b, off, rfl, hbl, fun i hi => ?_⟩⟩
      rw [hlen] at hi
      have hci := hcell i (by omega)
      rw [add_mid] at hci
      rw [hci, List.getElem_map, List.getElem_take]
      have hmem : zs[i]'(by omega) ∈ zs := List.getElem_mem _
      have hwf := hwz _ hmem
      have e1 : IntKind.u8.min = 0 := rfl
      have e2 : IntKind.u8.max = 255 := rfl
      have hbd : 0 ≤ zs[i]'(by omega) ∧ zs[i]'(by omega) ≤ 255 := by simpa [Lit.wf, e1, e2] using hwf
      have e3 : zs.getD i 0 = zs[i]'(by omega) := by simp [List.getD, List.getElem?_eq_getElem (show i < zs.length by omega)]
      rw [e3, u8_nat _ (by omega)]
      congr 2
      omega

/-- A packet, cell by cell. -/
theorem open_pk3 (fuel : Nat) (u0 u1 u2 : Value) (x : DataW H × List MemPlace) (hf : DataW.trod enc Try.prog w base spare held fuel 28 [u0, u1, u2] = some x) : ∃ p : Pk, (In64 p.frm ∧ In64 p.to) ∧ u0 = .int .i64 p.frm ∧ u1 = .int .i64 p.to ∧ BytesAt w w.heap.size u2 p.data := by
  obtain ⟨xs, m, _, _, _, hx4, hfl⟩ := DataW.trod_struct Try.underlying28 hf
  match xs, hx4 with
  | [y0, y1, y2], _ =>
    have f0 : DataW.trod enc Try.prog w base spare held m 3 [u0] = some y0 := by have := hfl 0 _ rfl; simpa [Try.cells3] using this
    have f1 : DataW.trod enc Try.prog w base spare held m 3 [u1] = some y1 := by have := hfl 1 _ rfl; simpa [Try.cells3] using this
    have f2 : DataW.trod enc Try.prog w base spare held m 26 [u2] = some y2 := by have := hfl 2 _ rfl; simpa [Try.cells26] using this
    obtain ⟨k, hk, _, wk⟩ := DataW.trod_int Try.underlying3 f0
    obtain ⟨j, hj, _, wj⟩ := DataW.trod_int Try.underlying3 f1
    simp only [List.cons.injEq, and_true] at hk hj
    subst hk; subst hj
    obtain ⟨t, ht⟩ := open_by _ u2 _ f2
    exact ⟨⟨k, j, t⟩, ⟨wf64 wk, wf64 wj⟩, rfl, rfl, ht⟩
/-- A pair, cell by cell. -/
theorem open_pair2 (fuel : Nat) (u0 u1 : Value) (x : DataW H × List MemPlace) (hf : DataW.trod enc Try.prog w base spare held fuel 55 [u0, u1] = some x) : ∃ p : Int × Int, (In64 p.1 ∧ In64 p.2) ∧ u0 = .int .i64 p.1 ∧ u1 = .int .i64 p.2 := by
  obtain ⟨xs, m, _, _, _, hx4, hfl⟩ := DataW.trod_array Try.underlying55 hf
  match xs, hx4 with
  | [y0, y1], _ =>
    have f0 : DataW.trod enc Try.prog w base spare held m 3 [u0] = some y0 := by have := hfl 0 (by omega); simpa [Try.cells3] using this
    have f1 : DataW.trod enc Try.prog w base spare held m 3 [u1] = some y1 := by have := hfl 1 (by omega); simpa [Try.cells3] using this
    obtain ⟨k, hk, _, wk⟩ := DataW.trod_int Try.underlying3 f0
    obtain ⟨j, hj, _, wj⟩ := DataW.trod_int Try.underlying3 f1
    simp only [List.cons.injEq, and_true] at hk hj
    subst hk; subst hj
    exact ⟨(k, j), ⟨wf64 wk, wf64 wj⟩, rfl, rfl⟩
/-- Packets. -/
theorem open_que (fuel : Nat) (c : Value) (x : DataW H × List MemPlace) (hf : DataW.trod enc Try.prog w base spare held fuel 22 [c] = some x) : ∃ l : List Pk, QAt w w.heap.size c l := by
  rcases DataW.trod_slice Try.underlying22 hf with ⟨h0, _⟩ | ⟨a, len, cap, elems, rest, n', hn', hc, _, hb, hle, hcm, hel, hget, _, _⟩
  · simp only [List.cons.injEq, and_true] at h0
    subst h0
    exact ⟨[], q_nil _ _ _⟩
  · simp only [List.cons.injEq, and_true] at hc
    subst hc
    by_cases hlen : len = 0
    · subst hlen
      exact ⟨[], some a, cap, rfl, by simp, hcm, .inl rfl⟩
    have each : ∀ i, i < len → ∃ (t : Pk), (In64 t.frm ∧ In64 t.to) ∧ w.cell? (a.add (i * 3)) = some (.int .i64 t.frm) ∧ w.cell? ((a.add (i * 3)).add 1) = some (.int .i64 t.to) ∧ ∃ u, w.cell? ((a.add (i * 3)).add 2) = some u ∧ BytesAt w w.heap.size u t.data := by
      intro i hi
      have h1 := hget i hi
      rw [Try.cells28, List.getElem?_eq_getElem (by omega)] at h1
      obtain ⟨cs', h2, h3⟩ := Option.bind_eq_some_iff.1 h1
      obtain ⟨hl, _, h4⟩ := World.cells?_some h2
      match cs', hl with
      | [u0, u1, u2], _ =>
        obtain ⟨t, k1, rfl, rfl, k4⟩ := open_pk3 _ _ _ _ _ h3
        have g0 := h4 0 (by omega)
        have g1 := h4 1 (by omega)
        have g2 := h4 2 (by omega)
        exact ⟨t, k1, by simpa [Addr.add] using g0, by simpa using g1, u2, by simpa using g2, k4⟩
    obtain ⟨b, off, spot⟩ := a
    obtain ⟨f, hfx⟩ := Deep.choose_lt (α := Pk) (p := fun i t => (In64 t.frm ∧ In64 t.to) ∧ w.cell? ((⟨b, off, spot⟩ : Addr).add (i * 3)) = some (.int .i64 t.frm) ∧ w.cell? (((⟨b, off, spot⟩ : Addr).add (i * 3)).add 1) = some (.int .i64 t.to) ∧ ∃ u, w.cell? (((⟨b, off, spot⟩ : Addr).add (i * 3)).add 2) = some u ∧ BytesAt w w.heap.size u t.data) each
    have hs0 : spot = none := by
      obtain ⟨_, h0, _⟩ := hfx 0 (by omega)
      simpa [Addr.add] using World.cell?_spot h0
    subst hs0
    have hbl : b < w.heap.size := by
      obtain ⟨_, h0, _⟩ := hfx 0 (by omega)
      exact World.block_lt_of_cell? w _ h0
    refine ⟨(List.range len).map f, some ⟨b, off, none⟩, cap, by simp, by simpa using hle, hcm, .inr ⟨b, off, rfl, hbl, fun i hi => ?_⟩⟩
    simp at hi
    obtain ⟨h0, h1, h2, u, h3, h4⟩ := hfx i hi
    rw [add_mid] at h1
    rw [add_mid, add_mid] at h2 h3
    simp only [List.getElem_map, List.getElem_range]
    exact ⟨h0, h1, h2, u, h3, h4⟩
/-- Pairs. -/
theorem open_prs (fuel : Nat) (c : Value) (x : DataW H × List MemPlace) (hf : DataW.trod enc Try.prog w base spare held fuel 23 [c] = some x) : ∃ l : List (Int × Int), AAt w w.heap.size c l := by
  rcases DataW.trod_slice Try.underlying23 hf with ⟨h0, _⟩ | ⟨a, len, cap, elems, rest, n', hn', hc, _, hb, hle, hcm, hel, hget, _, _⟩
  · simp only [List.cons.injEq, and_true] at h0
    subst h0
    exact ⟨[], a_nil _ _ _⟩
  · simp only [List.cons.injEq, and_true] at hc
    subst hc
    by_cases hlen : len = 0
    · subst hlen
      exact ⟨[], some a, cap, rfl, by simp, hcm, .inl rfl⟩
    have each : ∀ i, i < len → ∃ (t : Int × Int), (In64 t.1 ∧ In64 t.2) ∧ w.cell? (a.add (i * 2)) = some (.int .i64 t.1) ∧ w.cell? ((a.add (i * 2)).add 1) = some (.int .i64 t.2) := by
      intro i hi
      have h1 := hget i hi
      rw [Try.cells55, List.getElem?_eq_getElem (by omega)] at h1
      obtain ⟨cs', h2, h3⟩ := Option.bind_eq_some_iff.1 h1
      obtain ⟨hl, _, h4⟩ := World.cells?_some h2
      match cs', hl with
      | [u0, u1], _ =>
        obtain ⟨t, k1, rfl, rfl⟩ := open_pair2 _ _ _ _ h3
        have g0 := h4 0 (by omega)
        have g1 := h4 1 (by omega)
        exact ⟨t, k1, by simpa [Addr.add] using g0, by simpa using g1⟩
    obtain ⟨b, off, spot⟩ := a
    obtain ⟨f, hfx⟩ := Deep.choose_lt (α := Int × Int) (p := fun i t => (In64 t.1 ∧ In64 t.2) ∧ w.cell? ((⟨b, off, spot⟩ : Addr).add (i * 2)) = some (.int .i64 t.1) ∧ w.cell? (((⟨b, off, spot⟩ : Addr).add (i * 2)).add 1) = some (.int .i64 t.2)) each
    have hs0 : spot = none := by
      obtain ⟨_, h0, _⟩ := hfx 0 (by omega)
      simpa [Addr.add] using World.cell?_spot h0
    subst hs0
    have hbl : b < w.heap.size := by
      obtain ⟨_, h0, _⟩ := hfx 0 (by omega)
      exact World.block_lt_of_cell? w _ h0
    refine ⟨(List.range len).map f, some ⟨b, off, none⟩, cap, by simp, by simpa using hle, hcm, .inr ⟨b, off, rfl, hbl, fun i hi => ?_⟩⟩
    simp at hi
    obtain ⟨h0, h1, h2⟩ := hfx i hi
    rw [add_mid] at h1
    rw [add_mid, add_mid] at h2
    simp only [List.getElem_map, List.getElem_range]
    exact ⟨h0, h1, h2⟩

theorem open_bytes {v : Value} {d : DataW H} {ps : List MemPlace} {r : Reach} {b0 : Nat} (hv : Value.okWide Try.prog w r b0 26 v) (h : DataW.Trod enc Try.prog w base spare held 26 v d ps) : ∃ bs : By, BytesAt w w.heap.size v bs := by
  obtain ⟨a0, len, cap, rfl⟩ := okWide_slice Try.underlying26 hv
  obtain ⟨fuel, hf⟩ := h
  exact open_by fuel _ _ hf

/-- A row of packets. -/
theorem open_pks {v : Value} {d : DataW H} {ps : List MemPlace} {r : Reach} {b0 : Nat} (hv : Value.okWide Try.prog w r b0 22 v) (h : DataW.Trod enc Try.prog w base spare held 22 v d ps) : ∃ l : List Pk, QAt w w.heap.size v l := by
  obtain ⟨a0, len, cap, rfl⟩ := okWide_slice Try.underlying22 hv
  obtain ⟨fuel, hf⟩ := h
  exact open_que fuel _ _ hf
/-- A packet. -/
theorem open_pk {v : Value} {d : DataW H} {ps : List MemPlace} {r : Reach} {b0 : Nat} (hv : Value.okWide Try.prog w r b0 28 v) (h : DataW.Trod enc Try.prog w base spare held 28 v d ps) : ∃ p : Pk, PkAt w w.heap.size v p := by
  obtain ⟨cs, rfl, hsz⟩ := okWide_struct Try.underlying28 hv
  obtain ⟨fuel, hf⟩ := h
  rw [Try.cells28] at hsz
  obtain ⟨l⟩ := cs
  match l, hsz with
  | [c0, c1, c2], _ =>
    obtain ⟨p, h1, rfl, rfl, h2⟩ := open_pk3 fuel c0 c1 c2 _ (by simpa [Value.cells] using hf)
    exact ⟨p, h1, _, rfl, h2⟩
/-- Links. -/
theorem open_net {v : Value} {d : DataW H} {ps : List MemPlace} {r : Reach} {b0 : Nat} (hv : Value.okWide Try.prog w r b0 25 v) (h : DataW.Trod enc Try.prog w base spare held 25 v d ps) : ∃ n : Nt, NtAt w w.heap.size v n := by
  obtain ⟨cs, rfl, hsz⟩ := okWide_struct Try.underlying25 hv
  obtain ⟨fuel, hf⟩ := h
  obtain ⟨xs, n, rfl, _, hl, hx4, hfl⟩ := DataW.trod_struct Try.underlying25 hf
  rw [Try.cells25] at hsz
  obtain ⟨l⟩ := cs
  match l, hsz with
  | [c0, c1], _ =>
    match xs, hx4 with
    | [y0, y1], _ =>
      have f0 : DataW.trod enc Try.prog w base spare held n 22 [c0] = some y0 := by have := hfl 0 _ rfl; simpa [Value.cells, Try.cells22] using this
      have f1 : DataW.trod enc Try.prog w base spare held n 23 [c1] = some y1 := by have := hfl 1 _ rfl; simpa [Value.cells, Try.cells23] using this
      obtain ⟨s, hs⟩ := open_que _ _ _ f0
      obtain ⟨p, hp⟩ := open_prs _ _ _ f1
      exact ⟨⟨s, p⟩, c0, c1, rfl, hs, hp⟩
end
end Go.Proofs.Ytjancbjjeemedaa
