/- What every law's frame shares: the laid variable, the arguments' readings, a world for the witness. An argument that is a digest. Arguments that are links, rows of links. Arguments that are rows of byte strings. -/
import Derived.Test.YtfmngeemhfpeiaaDoorMB
import Derived.Test.YtfmngeemhfpeiaaDoorCards
import Derived.Test.YtfmngeemhfpeiaaDoorTie
import Derived.Test.YtfmngeemhfpeiaaDoorMH
import Derived.OpenShut
import Derived.Deep.DeepHandedRow
import Derived.Lib.LaidTab
namespace Go.Proofs.YtfmngeemhfpeiaaDoor
open Go.RowKit Go.ChangeShapes Go.WideShapes Go.ChangeAt

theorem Fr.own : ownKnob Tryd.prog.godebug = none := by kernel_rfl
theorem Fr.laidOut : laidOutB Tryd.prog = true := by kernel_rfl
theorem Fr.gTab : Tryd.prog.globalNamed "hansard/digest.roundNumbers" = some 0 := by kernel_rfl
theorem Fr.gTabType : (Tryd.prog.globals[0]?).map (·.type) = some 103 := by kernel_rfl
theorem Fr.cells69 : Tryd.prog.cellsOf 103 = 64 := by kernel_rfl
theorem Fr.zs (i : Nat) (h : i < 64) : ((ks.map fun k => (k.toNat : Int)).getD i 0) = ((ks.getD i 0).toNat : Int) := by
  have hl : ks.length = 64 := by decide
  simp [List.getD, List.getElem?_map, List.getElem?_eq_getElem (show i < ks.length by omega)]
theorem Fr.data {H : Type} : (Rows.laid_hansard_digest_roundNumbers : DataW H) = Lib.tabData .u32 (ks.map fun k => (k.toNat : Int)) := by kernel_rfl
/-- What the row's list gives: the variable's cells hold the numbers K. -/
theorem Fr.tab {W : World} (h : laidMetH Tryd.prog [("hansard/digest.roundNumbers", Rows.laid_hansard_digest_roundNumbers)] W) : Tab W := by
  rw [Fr.data] at h
  have t : Lib.TabIs Tryd.prog W "hansard/digest.roundNumbers" .u32 (ks.map fun k => (k.toNat : Int)) := Lib.tabIs_of_head (rest := []) Fr.gTab Fr.gTabType Tryd.underlying103 Tryd.underlying74 (by kernel_rfl) Fr.cells69 h
  intro i hi
  have hl : ks.length = 64 := by decide
  have := t.cell Fr.gTab i (by rw [List.length_map, hl]; exact hi)
  rw [this, Fr.zs i hi]
theorem Fr.pos {W : World} (h : Tab W) : 0 < W.heap.size := World.block_lt_of_cell? W _ (h 0 (by decide))
/-- A world for the witness: the settled one, the variable (block 0) holding what its initialiser lays. -/
noncomputable def laidWorld (os : Os) : World :=
  { World.holding Tryd.prog os ⟨#[], #[], []⟩ with heap := (World.holding Tryd.prog os ⟨#[], #[], []⟩).heap.modify 0 fun
      | .cells _ t frozen => .cells (ws ks).toArray t frozen
      | o => o }

section
variable {H : Type} {enc : TypeId × Value → H} {w : World} {base : Nat} {spare : Nat → Bool} {held : Bool}
set_option maxRecDepth 100000 in
/-- An argument of bytes. -/
theorem open_bytes {v : Value} {d : DataW H} {ps : List MemPlace} {r : Reach} {b0 : Nat} (hv : Value.okWide Tryd.prog w r b0 34 v) (h : DataW.Trod enc Tryd.prog w base spare held 34 v d ps) : ∃ bs : List UInt8, BytesAt w w.heap.size v bs := by
  obtain ⟨a0, len, cap, rfl⟩ := okWide_slice Tryd.underlying34 hv
  obtain ⟨fuel, hf⟩ := h
  rcases open_ints Tryd.underlying34 Tryd.underlying5 Tryd.cellsOf5 hf with ⟨hcs, _⟩ | ⟨a, len', cap', zs, hcs, _, hl, hm, hz, _, hcell, hwz⟩
  · simp [Value.cells] at hcs
    obtain ⟨rfl, rfl, rfl⟩ := hcs
    exact ⟨[], none, 0, rfl, by simp, by unfold maxLen; omega, .inl rfl⟩
  · simp [Value.cells] at hcs
    obtain ⟨rfl, rfl, rfl⟩ := hcs
    have hle : len ≤ zs.length := by rw [hz]; split <;> omega
    by_cases h0 : len = 0
    · subst h0
      exact ⟨[], some a, cap, rfl, by simp, hm, .inl rfl⟩
    · obtain ⟨b, off, spot⟩ := a
      have hspot : spot = none := by simpa [Addr.add] using World.cell?_spot (hcell 0 (by omega))
      subst hspot
      have hbl : b < w.heap.size := World.block_lt_of_cell? w _ (hcell 0 (by omega))
      have hlen : ((zs.take len).map fun z => UInt8.ofNat z.toNat).length = len := by rw [List.length_map, List.length_take]; omega
      refine ⟨(zs.take len).map fun z => UInt8.ofNat z.toNat, some ⟨b, off, none⟩, cap, by rw [hlen], by rw [hlen]; exact hl, hm, .inr ⟨b, off, rfl, hbl, fun i hi => ?_⟩⟩
      rw [hlen] at hi
      have hci := hcell i (by omega)
      have hadd : (⟨b, off, none⟩ : Addr).add i = ⟨b, off + i, none⟩ := by unfold Addr.add; split <;> simp_all
      rw [hadd] at hci
      rw [hci, List.getElem_map, List.getElem_take]
      have hmem : zs[i]'(by omega) ∈ zs := List.getElem_mem _
      have hwf := hwz _ hmem
      have e1 : IntKind.u8.min = 0 := rfl
      have e2 : IntKind.u8.max = 255 := rfl
      have hbd : 0 ≤ zs[i]'(by omega) ∧ zs[i]'(by omega) ≤ 255 := by simpa [Lit.wf, e1, e2] using hwf
      have e3 : zs.getD i 0 = zs[i]'(by omega) := by simp [List.getD, List.getElem?_eq_getElem (show i < zs.length by omega)]
      have e4 : ((UInt8.ofNat (zs[i]'(by omega)).toNat).toNat : Int) = zs[i]'(by omega) := by simp; omega
      rw [e3, e4]
end
end Go.Proofs.YtfmngeemhfpeiaaDoor

namespace Go.Proofs.YtfmngeemhfpeiaaDoor
open Go.RowKit Go.ChangeShapes Go.WideShapes Go.ChangeAt

theorem list_of : ∀ L : List Value, (∀ v ∈ L, ∃ c : UInt8, v = .int .u8 c.toNat) → ∃ l, L = cells8 l
  | [], _ => ⟨[], rfl⟩
  | v :: L, h => by
    obtain ⟨c, rfl⟩ := h v (by simp)
    obtain ⟨l, rfl⟩ := list_of L fun x hx => h x (List.mem_cons_of_mem _ hx)
    exact ⟨c :: l, rfl⟩
section
variable {H : Type} {enc : TypeId × Value → H} {w : World} {base : Nat} {spare : Nat → Bool} {held : Bool}
set_option maxRecDepth 100000 in
theorem open_dig {v : Value} {d : DataW H} {ps : List MemPlace} {r : Reach} {b0 : Nat} (hv : Value.okWide Tryd.prog w r b0 30 v) (h : DataW.Trod enc Tryd.prog w base spare held 30 v d ps) : ∃ l : List UInt8, v = dv l ∧ l.length = 32 := by
  simp only [Value.okWide, Tryd.underlying30] at hv
  obtain ⟨cs, rfl, hsz, _⟩ := hv
  rw [Tryd.cellsOf30] at hsz
  obtain ⟨fuel, hf⟩ := h
  obtain ⟨xs, m, _, _, hcl, hxl, hx⟩ := DataW.trod_array Tryd.underlying30 hf
  rw [Tryd.cellsOf5] at hx
  have hcell : ∀ v ∈ cs.toList, ∃ c : UInt8, v = .int .u8 c.toNat := fun v hv => by
    obtain ⟨i, hi, rfl⟩ := List.getElem_of_mem hv
    have hi32 : i < 32 := by simpa [hsz] using hi
    have hxi := hx i hi32
    obtain ⟨y, hy⟩ : ∃ y, xs[i]? = some y := ⟨_, List.getElem?_eq_getElem (by omega)⟩
    rw [hy, Nat.mul_one] at hxi
    obtain ⟨n, hn, _, hw⟩ := DataW.trod_int Tryd.underlying5 hxi
    have h1 : cs.toList[i]? = some (.int .u8 n) := by
      have := congrArg (·[0]?) hn
      simpa [Value.cells, List.getElem?_take, List.getElem?_drop] using this
    rw [List.getElem?_eq_getElem hi] at h1
    have e1 : IntKind.u8.min = 0 := rfl
    have e2 : IntKind.u8.max = 255 := rfl
    have hb : 0 ≤ n ∧ n ≤ 255 := by simpa [Lit.wf, e1, e2] using hw
    refine ⟨UInt8.ofNat n.toNat, ?_⟩
    rw [Option.some.inj h1]
    have : ((UInt8.ofNat n.toNat).toNat : Int) = n := by simp; omega
    rw [this]
  obtain ⟨l, hl⟩ := list_of _ hcell
  refine ⟨l, ?_, ?_⟩
  · rw [dv, ← hl, Array.toArray_toList]
  · have := congrArg List.length hl
    rw [cells8_len] at this
    simpa [hsz] using this.symm
end
end Go.Proofs.YtfmngeemhfpeiaaDoor

namespace Go.Proofs.YtfmngeemhfpeiaaDoor
open Go.RowKit Go.ChangeShapes Go.WideShapes Go.ChangeAt

theorem Tryd.cells55 : Tryd.prog.cellsOf 55 = 35 := by kernel_rfl
theorem Tryd.cells3 : Tryd.prog.cellsOf 3 = 1 := by kernel_rfl
theorem Tryd.cells34 : Tryd.prog.cellsOf 34 = 1 := by kernel_rfl
section
variable {H : Type} {enc : TypeId × Value → H} {w : World} {base : Nat} {spare : Nat → Bool} {held : Bool}
set_option maxRecDepth 100000 in
theorem open_dig0 {fuel : Nat} {cs : List Value} {x : DataW H × List MemPlace} (hf : DataW.trod enc Tryd.prog w base spare held fuel 30 cs = some x) : ∃ l : List UInt8, cs = cells8 l ∧ l.length = 32 := by
  obtain ⟨xs, m, _, _, hcl, hxl, hx⟩ := DataW.trod_array Tryd.underlying30 hf
  rw [Tryd.cellsOf30] at hcl
  rw [Tryd.cellsOf5] at hx
  have hcell : ∀ v ∈ cs, ∃ c : UInt8, v = .int .u8 c.toNat := fun v hv => by
    obtain ⟨i, hi, rfl⟩ := List.getElem_of_mem hv
    have hi32 : i < 32 := by omega
    have hxi := hx i hi32
    obtain ⟨y, hy⟩ : ∃ y, xs[i]? = some y := ⟨_, List.getElem?_eq_getElem (by omega)⟩
    rw [hy, Nat.mul_one] at hxi
    obtain ⟨n, hn, _, hw⟩ := DataW.trod_int Tryd.underlying5 hxi
    have h1 : cs[i]? = some (.int .u8 n) := by
      have := congrArg (·[0]?) hn
      simpa [List.getElem?_take, List.getElem?_drop] using this
    rw [List.getElem?_eq_getElem hi] at h1
    have e1 : IntKind.u8.min = 0 := rfl
    have e2 : IntKind.u8.max = 255 := rfl
    have hb : 0 ≤ n ∧ n ≤ 255 := by simpa [Lit.wf, e1, e2] using hw
    refine ⟨UInt8.ofNat n.toNat, ?_⟩
    rw [Option.some.inj h1]
    have : ((UInt8.ofNat n.toNat).toNat : Int) = n := by simp; omega
    rw [this]
  obtain ⟨l, hl⟩ := list_of _ hcell
  exact ⟨l, hl, by rw [← cells8_len, ← hl, hcl]⟩
set_option maxRecDepth 100000 in
theorem open_bytes0 {fuel : Nat} {v : Value} {x : DataW H × List MemPlace} (hf : DataW.trod enc Tryd.prog w base spare held fuel 34 [v] = some x) : ∃ bs : List UInt8, BytesAt w w.heap.size v bs := by
  rcases open_ints Tryd.underlying34 Tryd.underlying5 Tryd.cellsOf5 hf with ⟨hcs, _⟩ | ⟨a, len, cap, zs, hcs, _, hl, hm, hz, _, hcell, hwz⟩
  · simp only [List.cons.injEq, and_true] at hcs
    subst hcs
    exact ⟨[], none, 0, rfl, by simp, by unfold maxLen; omega, .inl rfl⟩
  · simp only [List.cons.injEq, and_true] at hcs
    subst hcs
    have hle : len ≤ zs.length := by rw [hz]; split <;> omega
    by_cases h0 : len = 0
    · subst h0
      exact ⟨[], some a, cap, rfl, by simp, hm, .inl rfl⟩
    · obtain ⟨b, off, spot⟩ := a
      have hspot : spot = none := by simpa [Addr.add] using World.cell?_spot (hcell 0 (by omega))
      subst hspot
      have hbl : b < w.heap.size := World.block_lt_of_cell? w _ (hcell 0 (by omega))
      have hlen : ((zs.take len).map fun z => UInt8.ofNat z.toNat).length = len := by rw [List.length_map, List.length_take]; omega
      refine ⟨(zs.take len).map fun z => UInt8.ofNat z.toNat, some ⟨b, off, none⟩, cap, by rw [hlen], by rw [hlen]; exact hl, hm, .inr ⟨b, off, rfl, hbl, fun i hi => ?_⟩⟩
      rw [hlen] at hi
      have hci := hcell i (by omega)
      rw [Addr.add_mid] at hci
      rw [hci, List.getElem_map, List.getElem_take]
      have hmem : zs[i]'(by omega) ∈ zs := List.getElem_mem _
      have hwf := hwz _ hmem
      have e1 : IntKind.u8.min = 0 := rfl
      have e2 : IntKind.u8.max = 255 := rfl
      have hbd : 0 ≤ zs[i]'(by omega) ∧ zs[i]'(by omega) ≤ 255 := by simpa [Lit.wf, e1, e2] using hwf
      have e3 : zs.getD i 0 = zs[i]'(by omega) := by simp [List.getD, List.getElem?_eq_getElem (show i < zs.length by omega)]
      have e4 : ((UInt8.ofNat (zs[i]'(by omega)).toNat).toNat : Int) = zs[i]'(by omega) := by simp; omega
      rw [e3, e4]
theorem i64_of {z : Int} (h : (Lit.int .i64 z).wf = true) : K.In64 z := by
  have e1 : IntKind.i64.min = -9223372036854775808 := rfl
  have e2 : IntKind.i64.max = 9223372036854775807 := rfl
  simpa [Lit.wf, e1, e2, K.In64] using h
theorem split35 (cs : List Value) (h : cs.length = 35) : ∃ u v d, (cs.drop 0).take 1 = [u] ∧ (cs.drop 1).take 1 = [v] ∧ (cs.drop 34).take 1 = [d] ∧ cs = u :: v :: ((cs.drop 2).take 32 ++ [d]) := by
  refine ⟨cs[0], cs[1], cs[34], ?_, ?_, ?_, ?_⟩
  · rw [List.drop_eq_getElem_cons (by omega)]; rfl
  · rw [List.drop_eq_getElem_cons (by omega)]; rfl
  · rw [List.drop_eq_getElem_cons (by omega)]; rfl
  · refine List.ext_getElem (by simp; omega) fun i h1 h2 => ?_
    match i, h1 with
    | 0, _ => rfl
    | 1, _ => rfl
    | k + 2, h1 =>
      simp only [List.getElem_cons_succ]
      by_cases hk : k < 32
      · rw [List.getElem_append_left (by simp; omega)]
        simp [Nat.add_comm]
      · have : k = 32 := by omega
        subst this
        rw [List.getElem_append_right (by simp; omega)]
        simp [h]
set_option maxRecDepth 100000 in
/-- The cells of a link. -/
theorem open_link0 {fuel : Nat} {cs : List Value} {x : DataW H × List MemPlace} (hf : DataW.trod enc Tryd.prog w base spare held fuel 55 cs = some x) : ∃ (y : Lk) (d : Value), y.ok0 ∧ cs = lcells y d ∧ BytesAt w w.heap.size d y.data := by
  obtain ⟨xs, m, _, _, hcl, hxl, hfl⟩ := DataW.trod_struct Tryd.underlying55 hf
  rw [Tryd.cells55] at hcl
  have hx4 : xs.length = 4 := hxl
  obtain ⟨u, v, d, e0, e1, e3, e4⟩ := split35 cs hcl
  match xs, hx4 with
  | [y0, y1, y2, y3], _ =>
    have f0 : DataW.trod enc Tryd.prog w base spare held m 3 [u] = some y0 := by have := hfl 0 _ rfl; rw [← e0]; simpa [Tryd.cells3] using this
    have f1 : DataW.trod enc Tryd.prog w base spare held m 3 [v] = some y1 := by have := hfl 1 _ rfl; rw [← e1]; simpa [Tryd.cells3] using this
    have f2 : DataW.trod enc Tryd.prog w base spare held m 30 ((cs.drop 2).take 32) = some y2 := by have := hfl 2 _ rfl; simpa [Tryd.cellsOf30] using this
    have f3 : DataW.trod enc Tryd.prog w base spare held m 34 [d] = some y3 := by have := hfl 3 _ rfl; rw [← e3]; simpa [Tryd.cells34] using this
    obtain ⟨k0, hk0, _, wk0⟩ := DataW.trod_int Tryd.underlying3 f0
    obtain ⟨k1, hk1, _, wk1⟩ := DataW.trod_int Tryd.underlying3 f1
    obtain ⟨pl, hpl, hpl32⟩ := open_dig0 f2
    obtain ⟨bs, hbs⟩ := open_bytes0 f3
    simp only [List.cons.injEq, and_true] at hk0 hk1
    refine ⟨⟨k0, k1, pl, bs⟩, d, ⟨hpl32, i64_of wk0, i64_of wk1⟩, ?_, hbs⟩
    rw [e4, hpl, hk0, hk1]
    rfl
set_option maxRecDepth 100000 in
/-- A row of links. -/
theorem open_lrow {v : Value} {d : DataW H} {ps : List MemPlace} {r : Reach} {b0 : Nat} (hv : Value.okWide Tryd.prog w r b0 44 v) (h : DataW.Trod enc Tryd.prog w base spare held 44 v d ps) : ∃ l : List Lk, LRow0 w w.heap.size v l := by
  obtain ⟨a0, len0, cap0, rfl⟩ := okWide_slice Tryd.underlying44 hv
  obtain ⟨fuel, hf⟩ := h
  rcases DataW.trod_slice Tryd.underlying44 hf with ⟨h0, _⟩ | ⟨a, len, cap, elems, rest, n', hn', hc, hx, hb, hle, hcm, hel, hget, _, _⟩
  · simp [Value.cells] at h0
    obtain ⟨rfl, rfl, rfl⟩ := h0
    exact ⟨[], fun x hx => by (cases hx), none, 0, rfl, by simp, by unfold maxLen; omega, .inl rfl⟩
  · simp [Value.cells] at hc
    obtain ⟨rfl, rfl, rfl⟩ := hc
    by_cases hlen : len0 = 0
    · subst hlen
      exact ⟨[], fun x hx => by (cases hx), some a, cap0, rfl, by simp, hcm, .inl rfl⟩
    have each : ∀ i, i < len0 → ∃ (y : Lk), y.ok0 ∧ ∃ dd, (∀ (j : Nat) (u : Value), (lcells y dd)[j]? = some u → w.cell? ((a.add (i * 35)).add j) = some u) ∧ BytesAt w w.heap.size dd y.data := by
      intro i hi
      have h1 := hget i hi
      have hei : elems[i]? = some (elems[i]'(by omega)) := List.getElem?_eq_getElem (by omega)
      rw [Tryd.cells55, hei] at h1
      obtain ⟨cs', h2, h3⟩ := Option.bind_eq_some_iff.1 h1
      obtain ⟨hl, _, h4⟩ := World.cells?_some h2
      obtain ⟨y, dd, hy, rfl, hbs⟩ := open_link0 h3
      refine ⟨y, hy, dd, fun j u hu => ?_, hbs⟩
      have hj := (List.getElem?_eq_some_iff.1 hu).1
      have := h4 j (by omega)
      rw [this, hu]
    obtain ⟨b, off, spot⟩ := a
    have : Inhabited Lk := ⟨⟨0, 0, [], []⟩⟩
    obtain ⟨f, hfx⟩ := Deep.choose_lt (α := Lk) (p := fun i y => y.ok0 ∧ ∃ dd, (∀ (j : Nat) (u : Value), (lcells y dd)[j]? = some u → w.cell? (((⟨b, off, spot⟩ : Addr).add (i * 35)).add j) = some u) ∧ BytesAt w w.heap.size dd y.data) each
    have hc0 : ∃ u, w.cell? (((⟨b, off, spot⟩ : Addr).add (0 * 35)).add 0) = some u := by
      obtain ⟨_, dd, h1, _⟩ := hfx 0 (by omega)
      exact ⟨_, h1 0 _ (lcells_0 _ _)⟩
    obtain ⟨u0, hu0⟩ := hc0
    have hs0 : spot = none := by simpa [Addr.add] using World.cell?_spot hu0
    subst hs0
    have hbl : b < w.heap.size := World.block_lt_of_cell? w _ hu0
    have hll : ((List.range len0).map f).length = len0 := by simp
    refine ⟨(List.range len0).map f, fun y hy => ?_, some ⟨b, off, none⟩, cap0, by rw [hll], by rw [hll]; exact hle, hcm, .inr ⟨b, off, rfl, hbl, fun i hi => ?_⟩⟩
    · simp only [List.mem_map, List.mem_range] at hy
      obtain ⟨i, hi, rfl⟩ := hy
      exact (hfx i hi).1
    · rw [hll] at hi
      obtain ⟨_, dd, h1, h2⟩ := hfx i hi
      have hg : ((List.range len0).map f)[i]'(by rw [hll]; exact hi) = f i := by simp
      rw [hg]
      refine ⟨dd, fun j u hu => ?_, h2⟩
      have := h1 j u hu
      rwa [Addr.add_mid, Addr.add_mid] at this
set_option maxRecDepth 100000 in
/-- A link. -/
theorem open_link {v : Value} {d : DataW H} {ps : List MemPlace} {r : Reach} {b0 : Nat} (hv : Value.okWide Tryd.prog w r b0 55 v) (h : DataW.Trod enc Tryd.prog w base spare held 55 v d ps) : ∃ y : Lk, y.ok0 ∧ LinkAt w w.heap.size v y := by
  simp only [Value.okWide, Tryd.underlying55] at hv
  obtain ⟨cs, rfl, hsz, _⟩ := hv
  obtain ⟨fuel, hf⟩ := h
  obtain ⟨y, dd, hy, hc, hbs⟩ := open_link0 hf
  refine ⟨y, hy, dd, ?_, hbs⟩
  have : cs.toList = lcells y dd := by simpa [Value.cells] using hc
  rw [← this, Array.toArray_toList]
end
end Go.Proofs.YtfmngeemhfpeiaaDoor

namespace Go.Proofs.YtfmngeemhfpeiaaDoor
open Go.RowKit Go.ChangeShapes Go.WideShapes Go.ChangeAt

/-- Byte strings in a slice, in memory below B. -/
def BRows (w : World) (B : Nat) (v : Value) (l : List (List UInt8)) : Prop :=
  ∃ a cap, v = .slice a l.length cap ∧ l.length ≤ cap ∧ cap ≤ maxLen ∧
    (l = [] ∨ ∃ b off, a = some ⟨b, off, none⟩ ∧ b < B ∧ ∀ i (h : i < l.length), ∃ d, w.cell? ⟨b, off + i, none⟩ = some d ∧ BytesAt w B d l[i])
theorem BRows.below {w w' : World} {B : Nat} {v : Value} {l : List (List UInt8)} (h : BRows w B v l) (hb : Below B w w') : BRows w' B v l := by
  obtain ⟨a, cap, h1, h2, h3, h4⟩ := h
  refine ⟨a, cap, h1, h2, h3, ?_⟩
  rcases h4 with h4 | ⟨b, off, h4, h5, h6⟩
  · exact .inl h4
  · refine .inr ⟨b, off, h4, h5, fun i hi => ?_⟩
    obtain ⟨d, h7, h8⟩ := h6 i hi
    exact ⟨d, (hb.cell (p := ⟨b, off + i, none⟩) h5).trans h7, h8.below hb⟩
theorem BRows.mono {w : World} {B B' : Nat} {v : Value} {l : List (List UInt8)} (h : BRows w B v l) (hb : B ≤ B') : BRows w B' v l := by
  obtain ⟨a, cap, h1, h2, h3, h4⟩ := h
  refine ⟨a, cap, h1, h2, h3, ?_⟩
  rcases h4 with h4 | ⟨b, off, h4, h5, h6⟩
  · exact .inl h4
  · refine .inr ⟨b, off, h4, by omega, fun i hi => ?_⟩
    obtain ⟨d, h7, h8⟩ := h6 i hi
    exact ⟨d, h7, h8.mono hb⟩
theorem BRows.at {w W : World} {v : Value} {l : List (List UInt8)} (h : BRows w w.heap.size v l) (hb : Below w.heap.size w W) : BRows W W.heap.size v l := (h.below hb).mono hb.size
section
variable {H : Type} {enc : TypeId × Value → H} {w : World} {base : Nat} {spare : Nat → Bool} {held : Bool}
set_option maxRecDepth 100000 in
theorem open_brows {v : Value} {d : DataW H} {ps : List MemPlace} {r : Reach} {b0 : Nat} (hv : Value.okWide Tryd.prog w r b0 22 v) (h : DataW.Trod enc Tryd.prog w base spare held 22 v d ps) : ∃ l : List (List UInt8), BRows w w.heap.size v l := by
  obtain ⟨a0, len0, cap0, rfl⟩ := okWide_slice Tryd.underlying22 hv
  obtain ⟨fuel, hf⟩ := h
  rcases DataW.trod_slice Tryd.underlying22 hf with ⟨h0, _⟩ | ⟨a, len, cap, elems, rest, n', hn', hc, hx, hb, hle, hcm, hel, hget, _, _⟩
  · simp [Value.cells] at h0
    obtain ⟨rfl, rfl, rfl⟩ := h0
    exact ⟨[], none, 0, rfl, by simp, by unfold maxLen; omega, .inl rfl⟩
  · simp [Value.cells] at hc
    obtain ⟨rfl, rfl, rfl⟩ := hc
    by_cases hlen : len0 = 0
    · subst hlen
      exact ⟨[], some a, cap0, rfl, by simp, hcm, .inl rfl⟩
    have each : ∀ i, i < len0 → ∃ (y : List UInt8), ∃ dd, w.cell? ((a.add i).add 0) = some dd ∧ BytesAt w w.heap.size dd y := by
      intro i hi
      have h1 := hget i hi
      have hei : elems[i]? = some (elems[i]'(by omega)) := List.getElem?_eq_getElem (by omega)
      rw [Tryd.cells34, Nat.mul_one, hei] at h1
      obtain ⟨cs', h2, h3⟩ := Option.bind_eq_some_iff.1 h1
      obtain ⟨hl, _, h4⟩ := World.cells?_some h2
      match cs', hl with
      | [u0], _ =>
        obtain ⟨bs, hbs⟩ := open_bytes0 h3
        have := h4 0 (by omega)
        exact ⟨bs, u0, by simpa using this, hbs⟩
    obtain ⟨b, off, spot⟩ := a
    obtain ⟨f, hfx⟩ := Deep.choose_lt (α := List UInt8) (p := fun i y => ∃ dd, w.cell? (((⟨b, off, spot⟩ : Addr).add i).add 0) = some dd ∧ BytesAt w w.heap.size dd y) each
    obtain ⟨u0, hu0, _⟩ := hfx 0 (by omega)
    have hs0 : spot = none := by simpa [Addr.add] using World.cell?_spot hu0
    subst hs0
    have hbl : b < w.heap.size := World.block_lt_of_cell? w _ hu0
    have hll : ((List.range len0).map f).length = len0 := by simp
    refine ⟨(List.range len0).map f, some ⟨b, off, none⟩, cap0, by rw [hll], by rw [hll]; exact hle, hcm, .inr ⟨b, off, rfl, hbl, fun i hi => ?_⟩⟩
    rw [hll] at hi
    obtain ⟨dd, h1, h2⟩ := hfx i hi
    have hg : ((List.range len0).map f)[i]'(by rw [hll]; exact hi) = f i := by simp
    rw [hg]
    rw [Addr.add_mid, Addr.add_mid] at h1
    exact ⟨dd, h1, h2⟩
end
end Go.Proofs.YtfmngeemhfpeiaaDoor
