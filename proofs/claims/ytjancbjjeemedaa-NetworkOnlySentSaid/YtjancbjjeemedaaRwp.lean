/- A row of packets that the call owns, with zero packets behind it; valid links have no part behind it. -/
import Derived.Test.YtjancbjjeemedaaBox
import Derived.Test.YtjancbjjeemedaaSend
namespace Go.Proofs.Ytjancbjjeemedaa
open Go.RowKit

def zpk : Array Value := #[.int .i64 0, .int .i64 0, .slice none 0 0]
theorem zcells_len (m : Nat) : (Builtin.zeroCells zpk m).size = m * 3 := by simp [Builtin.zeroCells, zpk]
theorem zcells_llen (m : Nat) : (Builtin.zeroCells zpk m).toList.length = m * 3 := by rw [Array.length_toList, zcells_len]
theorem zcells_get (m i : Nat) (h : i < m * 3) : (Builtin.zeroCells zpk m).toList[i]? = some (if i % 3 = 2 then .slice none 0 0 else .int .i64 0) := by
  have hs : zpk.size = 3 := rfl
  unfold Builtin.zeroCells
  rw [hs, Array.getElem?_toList, Array.getElem?_map, Array.getElem?_range, if_pos h]
  have h3 : i % 3 = 0 ∨ i % 3 = 1 ∨ i % 3 = 2 := by omega
  rcases h3 with e | e | e <;> rw [Option.map_some, e] <;> rfl
theorem zcells_drop (m k : Nat) (h : k ≤ m) : (Builtin.zeroCells zpk m).toList.drop (k * 3) = (Builtin.zeroCells zpk (m - k)).toList := by
  refine List.ext_getElem? fun i => ?_
  rw [List.getElem?_drop]
  by_cases hi : i < (m - k) * 3
  · rw [zcells_get _ _ (show k * 3 + i < m * 3 by omega), zcells_get _ _ hi, show (k * 3 + i) % 3 = i % 3 by omega]
  · rw [List.getElem?_eq_none (show (Builtin.zeroCells zpk m).toList.length ≤ k * 3 + i by rw [zcells_llen]; omega), List.getElem?_eq_none (show (Builtin.zeroCells zpk (m - k)).toList.length ≤ i by rw [zcells_llen]; omega)]

/-- A row of packets in a block of its own, zero packets behind it; the data lie below B. -/
structure RowP (W : World) (B g n cap : Nat) (l : List Pk) : Prop where
  len : l.length = n
  le : n ≤ cap
  max : cap ≤ maxLen
  obj : ∃ (C : Array Value) (cs : List Value), W.heap[g]? = some (.cells C 28 (0, 0)) ∧ C.toList = cs ++ (Builtin.zeroCells zpk (cap - n)).toList ∧ QCells W B l cs

theorem QCells.mono {w : World} {B B' : Nat} {l : List Pk} {cs : List Value} (h : QCells w B l cs) (hb : B ≤ B') : QCells w B' l cs :=
  ⟨h.len, fun i hi => by obtain ⟨a0, a1, a2, u, a3, a4⟩ := h.at_ i hi; exact ⟨a0, a1, a2, u, a3, a4.mono hb⟩⟩
/-- What the cells of a queue are. -/
theorem QCells.kind {w : World} {B : Nat} {l : List Pk} {cs : List Value} (h : QCells w B l cs) {j : Nat} {v : Value} (hv : cs[j]? = some v) : (j % 3 ≠ 2 → ∃ z, v = .int .i64 z) ∧ (j % 3 = 2 → ∃ a n c, v = .slice a n c) := by
  have hj := (List.getElem?_eq_some_iff.1 hv).1
  rw [h.len] at hj
  obtain ⟨_, a1, a2, u, a3, a4⟩ := h.at_ (j / 3) (by omega)
  obtain ⟨da, dc, rfl, _⟩ := bytes_shape a4
  have h3 : j % 3 = 0 ∨ j % 3 = 1 ∨ j % 3 = 2 := by omega
  rcases h3 with e | e | e
  · rw [show j / 3 * 3 = j by omega, hv] at a1
    exact ⟨fun _ => ⟨_, Option.some.inj a1⟩, fun h => by omega⟩
  · rw [show j / 3 * 3 + 1 = j by omega, hv] at a2
    exact ⟨fun _ => ⟨_, Option.some.inj a2⟩, fun h => by omega⟩
  · rw [show j / 3 * 3 + 2 = j by omega, hv] at a3
    exact ⟨fun h => absurd e h, fun _ => ⟨_, _, _, Option.some.inj a3⟩⟩
section
variable {W W' : World} {B g n cap : Nat} {l : List Pk}
theorem RowP.lt (h : RowP W B g n cap l) : g < W.heap.size := by
  obtain ⟨C, cs, h1, _⟩ := h.obj
  exact (Array.getElem?_eq_some_iff.1 h1).1
theorem RowP.cell (h : RowP W B g n cap l) : ∃ cs, QCells W B l cs ∧ (∀ j u, cs[j]? = some u → W.cell? ⟨g, j, none⟩ = some u) ∧ ∀ j v, W.cell? ⟨g, j, none⟩ = some v → (n * 3 ≤ j → v = if j % 3 = 2 then .slice none 0 0 else .int .i64 0) ∧ (j < n * 3 → cs[j]? = some v) := by
  obtain ⟨C, cs, h1, h2, h3⟩ := h.obj
  have hl := h3.len
  rw [h.len] at hl
  have hc : ∀ j, W.cell? ⟨g, j, none⟩ = C.toList[j]? := fun j => by
    rw [cell_of_row W g j C 28 (0, 0) h1, Array.getElem?_toList]
  refine ⟨cs, h3, fun j u hu => ?_, fun j v hv => ?_⟩
  · rw [hc, h2, List.getElem?_append_left (by have := (List.getElem?_eq_some_iff.1 hu).1; omega), hu]
  · rw [hc, h2] at hv
    refine ⟨fun hj => ?_, fun hj => ?_⟩
    · rw [List.getElem?_append_right (by omega)] at hv
      have hlt := (List.getElem?_eq_some_iff.1 hv).1
      rw [zcells_llen] at hlt
      rw [zcells_get _ _ hlt] at hv
      rw [← Option.some.inj hv, hl]
      have : (j - n * 3) % 3 = j % 3 := by omega
      rw [this]
    · rwa [List.getElem?_append_left (by omega)] at hv
theorem RowP.kind (h : RowP W B g n cap l) {j : Nat} {v : Value} (hv : W.cell? ⟨g, j, none⟩ = some v) : (j % 3 ≠ 2 → ∃ z, v = .int .i64 z) ∧ (j % 3 = 2 → ∃ a n c, v = .slice a n c) := by
  obtain ⟨cs, h1, h2, h3⟩ := h.cell
  obtain ⟨k1, k2⟩ := h3 j v hv
  by_cases hj : j < n * 3
  · exact h1.kind (k2 hj)
  · have := k1 (by omega)
    subst this
    refine ⟨fun e => ⟨0, by rw [if_neg e]⟩, fun e => ⟨none, 0, 0, by rw [if_pos e]⟩⟩
theorem RowP.noU8 (h : RowP W B g n cap l) : NoU8 W g := fun o k e => by
  obtain ⟨k1, k2⟩ := h.kind e
  by_cases ho : o % 3 = 2
  · obtain ⟨_, _, _, e'⟩ := k2 ho; cases e'
  · obtain ⟨_, e'⟩ := k1 ho; cases e'
theorem RowP.row (h : RowP W B g n cap l) (hg : g < B) : QAt W B (.slice (some ⟨g, 0, none⟩) n cap) l := by
  obtain ⟨cs, h1, h2, _⟩ := h.cell
  have := h1.row h2 hg (by rw [h.len]; exact h.le) h.max
  rwa [h.len] at this
theorem RowP.below (h : RowP W B g n cap l) (hb : Below W.heap.size W W') (hB : B ≤ W.heap.size) : RowP W' B g n cap l := by
  obtain ⟨C, cs, h1, h2, h3⟩ := h.obj
  exact ⟨h.len, h.le, h.max, C, cs, by rw [hb.block g h.lt]; exact h1, h2, h3.below (hb.mono hB)⟩
theorem RowP.mono {B' : Nat} (h : RowP W B g n cap l) (hb : B ≤ B') : RowP W B' g n cap l := by
  obtain ⟨C, cs, h1, h2, h3⟩ := h.obj
  exact ⟨h.len, h.le, h.max, C, cs, h1, h2, h3.mono hb⟩
theorem RowP.next (h : RowP W W.heap.size g n cap l) (hb : Below W.heap.size W W') : RowP W' W'.heap.size g n cap l := (h.below hb (Nat.le_refl _)).mono hb.size
/-- What changes in the row behind its packets, and nowhere else, leaves valid links as they are. -/
theorem bytes_spare (h : RowP W B g n cap l) (hG : W.grownBy W' (some g)) {v : Value} {bs : By} (hb : BytesAt W W.heap.size v bs) : BytesAt W' W'.heap.size v bs := by
  obtain ⟨a, c, h1, h2, h3, h4⟩ := hb
  refine ⟨a, c, h1, h2, h3, ?_⟩
  rcases h4 with h4 | ⟨db, o, h5, h6, h7⟩
  · exact .inl h4
  · by_cases h0 : 0 < bs.length
    · have hne : db ≠ g := fun e => by subst e; exact h.noU8 _ _ (h7 0 h0)
      exact .inr ⟨db, o, h5, Nat.lt_of_lt_of_le h6 hG.size, fun i hi => (World.cell?_of_block (a := ⟨db, o + i, none⟩) (hG.block db h6 (by simpa using hne))).trans (h7 i hi)⟩
    · exact .inl (List.length_eq_zero_iff.1 (by omega))
theorem cell_spare (hG : W.grownBy W' (some g)) (hc : ∀ j, j < n * 3 → W'.cell? ⟨g, j, none⟩ = W.cell? ⟨g, j, none⟩) {b o : Nat} (hb : b < W.heap.size) (h : b = g → o < n * 3) : W'.cell? ⟨b, o, none⟩ = W.cell? ⟨b, o, none⟩ := by
  by_cases e : b = g
  · subst e; exact hc o (h rfl)
  · exact World.cell?_of_block (a := ⟨b, o, none⟩) (hG.block b hb (by simpa using e))
theorem nt_spare (h : RowP W B g n cap l) (hG : W.grownBy W' (some g)) (hc : ∀ j, j < n * 3 → W'.cell? ⟨g, j, none⟩ = W.cell? ⟨g, j, none⟩) {v : Value} {t : Nt} (ht : NtAt W W.heap.size v t) (hq : ∀ p ∈ t.q, okPk p = true) (ha : ∀ p ∈ t.ap, p.1 ≠ p.2) : NtAt W' W'.heap.size v t := by
  obtain ⟨cs, _, _, h3⟩ := h.cell
  obtain ⟨vq, va, rfl, hQ, hA⟩ := ht
  refine ⟨_, _, rfl, ?_, ?_⟩
  · obtain ⟨a, c, e1, l1, l2, h4⟩ := hQ
    refine ⟨a, c, e1, l1, l2, ?_⟩
    rcases h4 with h4 | ⟨db, o, h5, h6, h7⟩
    · exact .inl h4
    · refine .inr ⟨db, o, h5, Nat.lt_of_lt_of_le h6 hG.size, fun i hi => ?_⟩
      obtain ⟨a0, a1, a2, u, a3, a4⟩ := h7 i hi
      have hin : db = g → o + i * 3 + 2 < n * 3 := fun e => by
        subst e
        obtain ⟨da, dc, rfl, _⟩ := bytes_shape a4
        by_cases hlt : o + i * 3 + 2 < n * 3
        · exact hlt
        exfalso
        have m2 : (o + i * 3 + 2) % 3 = 2 := by
          by_cases e : (o + i * 3 + 2) % 3 = 2
          · exact e
          · obtain ⟨_, e'⟩ := (h.kind a3).1 e; cases e'
        have z1 := (h3 _ _ a1).1 (by omega)
        have z2 := (h3 _ _ a2).1 (by omega)
        rw [if_neg (by omega)] at z1 z2
        have hok := hq _ (List.getElem_mem hi)
        unfold okPk okPair at hok
        simp only [Bool.and_eq_true, decide_eq_true_eq] at hok
        injection z1 with _ z1
        injection z2 with _ z2
        exact hok.1.1 (z1.trans z2.symm)
      exact ⟨a0, (cell_spare hG hc h6 fun e => by have := hin e; omega).trans a1, (cell_spare hG hc h6 fun e => by have := hin e; omega).trans a2, u, (cell_spare hG hc h6 fun e => by have := hin e; omega).trans a3, bytes_spare h hG (a4.mono (Nat.le_refl _))⟩
  · obtain ⟨a, c, e1, l1, l2, h4⟩ := hA
    refine ⟨a, c, e1, l1, l2, ?_⟩
    rcases h4 with h4 | ⟨db, o, h5, h6, h7⟩
    · exact .inl h4
    · refine .inr ⟨db, o, h5, Nat.lt_of_lt_of_le h6 hG.size, fun i hi => ?_⟩
      obtain ⟨a0, a1, a2⟩ := h7 i hi
      have hin : db = g → o + i * 2 + 1 < n * 3 := fun e => by
        subst e
        by_cases hlt : o + i * 2 + 1 < n * 3
        · exact hlt
        exfalso
        have m2 : (o + i * 2 + 1) % 3 ≠ 2 := fun e => by
          obtain ⟨_, _, _, e'⟩ := (h.kind a2).2 e; cases e'
        have m1 : (o + i * 2) % 3 ≠ 2 := fun e => by
          obtain ⟨_, _, _, e'⟩ := (h.kind a1).2 e; cases e'
        have z1 := (h3 _ _ a1).1 (by omega)
        have z2 := (h3 _ _ a2).1 (by omega)
        rw [if_neg (by omega)] at z1 z2
        injection z1 with _ z1
        injection z2 with _ z2
        exact ha _ (List.getElem_mem hi) (z1.trans z2.symm)
      exact ⟨a0, (cell_spare hG hc h6 fun e => by have := hin e; omega).trans a1, (cell_spare hG hc h6 fun e => by have := hin e; omega).trans a2⟩
end

/-- Packets are appended to a row of the call's own. -/
theorem pks_app {W : World} {g n cap : Nat} {l : List Pk} (h : RowP W W.heap.size g n cap l) (a2 : Option Addr) (c2 : Nat) (l2 : List Pk) (h2 : QAt W W.heap.size (.slice a2 l2.length c2) l2) (hm : l2 ≠ []) (hs : n + l2.length ≤ 100000) :
    ∃ g' cap' W', (Builtin.append_ #[22, 22] 22 #[.slice (some ⟨g, 0, none⟩) n cap, .slice a2 l2.length c2]).run Try.prog W = .ok (.slice (some ⟨g', 0, none⟩) (n + l2.length) cap') W' ∧ RowP W' W'.heap.size g' (n + l2.length) cap' (l ++ l2) ∧ W.grownBy W' (some g) ∧
      (g' = g ∨ g' = W.heap.size) ∧ ∀ j, j < n * 3 → W'.cell? ⟨g, j, none⟩ = W.cell? ⟨g, j, none⟩ := by
  obtain ⟨i, hi, hz0, hz1, hz2⟩ := info_parts Try.info28
  obtain ⟨C, cs, h1, hC, h3⟩ := h.obj
  obtain ⟨ds, h6, h7, _⟩ := h2.cells
  obtain ⟨b2, o2, rfl, _, h8⟩ := h7 hm
  have hds := h6.len
  have hlen := h.len
  have hcs := h3.len
  rw [hlen] at hcs
  have hle := h.le
  have hpos : 0 < l2.length := List.length_pos_iff.2 hm
  have hnews : ∀ j u, ds[j]? = some u → W.cell? ((⟨b2, o2, none⟩ : Addr).add j) = some u := fun j u hu => by
    rw [Addr.add_mid]; exact h8 j u hu
  have hCs : C.size = cap * 3 := by have := congrArg List.length hC; rw [Array.length_toList, List.length_append, zcells_llen, hcs] at this; omega
  have hct : C.toList.take (n * 3) = cs := by rw [hC, List.take_append_of_le_length (by omega), List.take_of_length_le (by omega)]
  have hone : ∀ u ∈ ds, u.oneCell' = true := fun u hu => by
    obtain ⟨j, hj, rfl⟩ := List.mem_iff_getElem.1 hu
    obtain ⟨k1, k2⟩ := h6.kind (List.getElem?_eq_getElem hj)
    by_cases e : j % 3 = 2
    · obtain ⟨_, _, _, e⟩ := k2 e; rw [e]; rfl
    · obtain ⟨_, e⟩ := k1 e; rw [e]; rfl
  by_cases hr : n + l2.length ≤ cap
  · have hroom : n * i.size + ds.length ≤ C.size := by rw [hz1, hCs, hds]; omega
    have hrun := run_append_room (P := Try.prog) W 22 22 28 i Try.underlying22 hi g n cap C h1 ⟨b2, o2, none⟩ l2.length c2 ds (by rw [hz1]; exact hds) hnews hone hr hroom
    rw [hz1] at hrun
    have hG : W.grownBy (W.setRow g (C.toList.take (n * 3) ++ ds ++ C.toList.drop (n * 3 + ds.length)).toArray) (some g) := ⟨rfl, rfl, rfl, by simp [World.setRow], fun k _ hk => setRow_other W g k _ (fun e => hk (by rw [e]))⟩
    have hheap := setRow_heap W g C (C.toList.take (n * 3) ++ ds ++ C.toList.drop (n * 3 + ds.length)).toArray 28 (0, 0) h1
    have hcell : ∀ j, j < n * 3 → (W.setRow g (C.toList.take (n * 3) ++ ds ++ C.toList.drop (n * 3 + ds.length)).toArray).cell? ⟨g, j, none⟩ = W.cell? ⟨g, j, none⟩ := fun j hj => by
      rw [cell_of_row _ g j _ 28 (0, 0) hheap, cell_of_row W g j C 28 (0, 0) h1, ← Array.getElem?_toList, ← Array.getElem?_toList]
      show (C.toList.take (n * 3) ++ ds ++ C.toList.drop (n * 3 + ds.length))[j]? = _
      rw [hct, List.append_assoc, List.getElem?_append_left (by omega), hC, List.getElem?_append_left (by omega)]
    have hsz : (W.setRow g (C.toList.take (n * 3) ++ ds ++ C.toList.drop (n * 3 + ds.length)).toArray).heap.size = W.heap.size := by simp [World.setRow]
    have hq : ∀ {m : List Pk} {es : List Value}, QCells W W.heap.size m es → QCells (W.setRow g (C.toList.take (n * 3) ++ ds ++ C.toList.drop (n * 3 + ds.length)).toArray) (W.setRow g (C.toList.take (n * 3) ++ ds ++ C.toList.drop (n * 3 + ds.length)).toArray).heap.size m es := fun hm =>
      ⟨hm.len, fun i hi => by obtain ⟨a0, a1, a2, u, a3, a4⟩ := hm.at_ i hi; exact ⟨a0, a1, a2, u, a3, bytes_spare h hG a4⟩⟩
    refine ⟨g, cap, _, hrun, ⟨by rw [List.length_append, hlen], hr, h.max, _, cs ++ ds, hheap, ?_, (hq h3).app (hq h6)⟩, hG, .inl rfl, hcell⟩
    show C.toList.take (n * 3) ++ ds ++ C.toList.drop (n * 3 + ds.length) = _
    rw [hct, hC, List.drop_append, List.drop_of_length_le (by omega), List.nil_append, show n * 3 + ds.length - cs.length = l2.length * 3 by omega, zcells_drop _ _ (by omega), show cap - n - l2.length = cap - (n + l2.length) by omega]
  · have holds : ∀ j u, cs[j]? = some u → W.cell? ((⟨g, 0, none⟩ : Addr).add j) = some u := fun j v hv => by
      have hj := (List.getElem?_eq_some_iff.1 hv).1
      rw [Addr.add_mid, Nat.zero_add, cell_of_row W g j C 28 (0, 0) h1, ← Array.getElem?_toList, hC, List.getElem?_append_left hj, hv]
    have hrun := run_append_grow (P := Try.prog) W 22 22 28 i _ Try.underlying22 hi hz0 ⟨g, 0, none⟩ n cap cs (by rw [hz1, hcs]) holds ⟨b2, o2, none⟩ l2.length c2 ds (by rw [hz1]; exact hds) hnews (by omega) (by omega) (growslice_fits (by omega) (by rw [hz2]; omega))
    have hb : Below W.heap.size W (W.drew.alloc (.cells (cs.toArray ++ ds.toArray ++ Builtin.zeroCells zpk (grownCap W (n + l2.length) cap 28 - (n + l2.length))) 28)) := (Below.drew (Below.refl _ _)).alloc (Nat.le_refl _) _
    refine ⟨W.heap.size, grownCap W (n + l2.length) cap 28, _, hrun, ⟨by rw [List.length_append, hlen], grownCap_ge _ _ _ _, grownCap_le_maxLen _ _ _ _ (by unfold maxLen; omega), _, cs ++ ds, heap_alloc_new _ _, ?_, ?_⟩, gbelow hb, .inr rfl, fun j _ => hb.cell (p := ⟨g, j, none⟩) h.lt⟩
    · simp only [Array.toList_append]
      rfl
    · exact ((h3.app h6).below hb).mono hb.size
/-- The first packets of a row, behind no packets. -/
theorem pks_first {W : World} {a : Option Addr} (a2 : Option Addr) (c2 : Nat) (l2 : List Pk) (h2 : QAt W W.heap.size (.slice a2 l2.length c2) l2) (hm : l2 ≠ []) (hs : l2.length ≤ 100000) :
    ∃ cap' W', (Builtin.append_ #[22, 22] 22 #[.slice a 0 0, .slice a2 l2.length c2]).run Try.prog W = .ok (.slice (some ⟨W.heap.size, 0, none⟩) l2.length cap') W' ∧ RowP W' W'.heap.size W.heap.size l2.length cap' l2 ∧ Below W.heap.size W W' := by
  obtain ⟨i, hi, hz0, hz1, hz2⟩ := info_parts Try.info28
  obtain ⟨ds, h6, h7, _⟩ := h2.cells
  obtain ⟨b2, o2, rfl, _, h8⟩ := h7 hm
  have hds := h6.len
  have hpos : 0 < l2.length := List.length_pos_iff.2 hm
  have hnews : ∀ j u, ds[j]? = some u → W.cell? ((⟨b2, o2, none⟩ : Addr).add j) = some u := fun j u hu => by
    rw [Addr.add_mid]; exact h8 j u hu
  have hb : ∀ o : Obj, Below W.heap.size W (W.drew.alloc o) := fun o => (Below.drew (Below.refl _ _)).alloc (Nat.le_refl _) _
  cases a with
  | none =>
    have hrun := run_append_nil (P := Try.prog) W 22 22 28 i _ Try.underlying22 hi hz0 ⟨b2, o2, none⟩ l2.length c2 ds (by rw [hz1]; exact hds) hnews hpos (by omega) (by rw [hz2]; omega)
    refine ⟨grownCap W l2.length 0 28, _, hrun, ⟨rfl, by simpa using grownCap_ge W l2.length 0 28, grownCap_le_maxLen _ _ _ _ (by unfold maxLen; omega), _, ds, heap_alloc_new _ _, ?_, (h6.below (hb _)).mono (hb _).size⟩, hb _⟩
    simp only [Array.toList_append]
    rfl
  | some ad =>
    have hrun := run_append_grow (P := Try.prog) W 22 22 28 i _ Try.underlying22 hi hz0 ad 0 0 [] (by simp) (fun j v hv => by simp at hv) ⟨b2, o2, none⟩ l2.length c2 ds (by rw [hz1]; exact hds) hnews (by omega) (by omega) (growslice_fits (by omega) (by rw [hz2]; omega))
    simp only [Nat.zero_add] at hrun
    refine ⟨grownCap W l2.length 0 28, _, hrun, ⟨rfl, by simpa using grownCap_ge W l2.length 0 28, grownCap_le_maxLen _ _ _ _ (by unfold maxLen; omega), _, ds, heap_alloc_new _ _, ?_, (h6.below (hb _)).mono (hb _).size⟩, hb _⟩
    simp only [Array.toList_append]
    rfl
end Go.Proofs.Ytjancbjjeemedaa
