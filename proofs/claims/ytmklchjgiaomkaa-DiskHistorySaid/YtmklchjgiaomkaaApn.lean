/- A row of acts that the call owns; blocks that hold no part of a disk. -/
import Derived.Test.YtmklchjgiaomkaaHpu
namespace Go.Proofs.Ytmklchjgiaomkaa
open Go.RowKit

/-- No part of a full disk lies in this block. -/
def Alien (W : World) (b : Nat) : Prop :=
  (∀ i v, W.cell? ⟨b, i, none⟩ = some v → (∀ a n c, v ≠ .slice a n c) ∧ ∀ z, v ≠ .int .i64 z) ∧ ∀ off, ∃ j, j < 5 ∧ ∀ x, W.cell? ⟨b, off + j, none⟩ ≠ some (.int .u8 x)
def Dk.wide (d : Dk) : Prop := (∀ s ∈ d.sec, s.length = 128) ∧ ∀ x ∈ d.pen, x.2.length = 128
theorem alien_bytes {w W : World} {b : Nat} (h : Alien w b) (hG : w.grownBy W (some b)) {v : Value} {bs : By} (hl : bs.length = 128) (hb : BytesAt w w.heap.size v bs) : BytesAt W W.heap.size v bs := by
  obtain ⟨a, c, h1, h2, h3, h4⟩ := hb
  refine ⟨a, c, h1, h2, h3, ?_⟩
  rcases h4 with h4 | ⟨db, o, h5, h6, h7⟩
  · exact .inl h4
  · have hne : db ≠ b := fun e => by
      subst e
      obtain ⟨j, hj, hx⟩ := h.2 o
      exact hx _ (h7 j (by omega))
    exact .inr ⟨db, o, h5, Nat.lt_of_lt_of_le h6 hG.size, fun i hi => (World.cell?_of_block (a := ⟨db, o + i, none⟩) (hG.block db h6 (by simpa using hne))).trans (h7 i hi)⟩
theorem alien_dk {w W : World} {b : Nat} (h : Alien w b) (hG : w.grownBy W (some b)) {v : Value} {D : Dk} (hD : DkAt w w.heap.size v D) (hF : D.wide) : DkAt W W.heap.size v D := by
  obtain ⟨h64, vs, vp, rfl, hS, hP⟩ := hD
  refine ⟨h64, _, _, rfl, ?_, ?_⟩
  · obtain ⟨a, c, h1, h2, h3, h4⟩ := hS
    refine ⟨a, c, h1, h2, h3, ?_⟩
    rcases h4 with h4 | ⟨db, o, h5, h6, h7⟩
    · exact .inl h4
    · by_cases h0 : 0 < D.sec.length
      · have hne : db ≠ b := fun e => by
          subst e
          obtain ⟨u, g1, g2⟩ := h7 0 h0
          obtain ⟨a', c', rfl, _⟩ := bytes_shape g2
          exact (h.1 _ _ g1).1 _ _ _ rfl
        refine .inr ⟨db, o, h5, Nat.lt_of_lt_of_le h6 hG.size, fun i hi => ?_⟩
        obtain ⟨u, g1, g2⟩ := h7 i hi
        exact ⟨u, (World.cell?_of_block (a := ⟨db, o + i, none⟩) (hG.block db h6 (by simpa using hne))).trans g1, alien_bytes h hG (hF.1 _ (List.getElem_mem hi)) g2⟩
      · exact .inl (List.length_eq_zero_iff.1 (by omega))
  · obtain ⟨a, c, h1, h2, h3, h4⟩ := hP
    refine ⟨a, c, h1, h2, h3, ?_⟩
    rcases h4 with h4 | ⟨db, o, h5, h6, h7⟩
    · exact .inl h4
    · by_cases h0 : 0 < D.pen.length
      · have hne : db ≠ b := fun e => by
          subst e
          obtain ⟨_, g1, _⟩ := h7 0 h0
          exact (h.1 _ _ g1).2 _ rfl
        refine .inr ⟨db, o, h5, Nat.lt_of_lt_of_le h6 hG.size, fun i hi => ?_⟩
        obtain ⟨g0, g1, u, g2, g3⟩ := h7 i hi
        exact ⟨g0, (World.cell?_of_block (a := ⟨db, o + i * 2, none⟩) (hG.block db h6 (by simpa using hne))).trans g1, u, (World.cell?_of_block (a := ⟨db, o + i * 2 + 1, none⟩) (hG.block db h6 (by simpa using hne))).trans g2, alien_bytes h hG (hF.2 _ (List.getElem_mem hi)) g3⟩
      · exact .inl (List.length_eq_zero_iff.1 (by omega))
theorem wide_hd {F S : List UInt8} {l : List Ac} {L : Int} {st : Bool} : (⟨zs F S, wr4 l, L, st⟩ : Dk).wide := ⟨zs_all, fun x hx => (wr4_all x hx).2.2⟩

/-- Bools at every third place, bytes elsewhere. -/
def Pat (l : List Value) : Prop := ∀ i v, l[i]? = some v → (i % 3 = 0 → ∃ b, v = .bool b) ∧ (i % 3 ≠ 0 → ∃ x : Int, v = .int .u8 x)
theorem Pat.nil : Pat [] := fun i v h => by simp at h
theorem Pat.app {a b : List Value} (ha : Pat a) (hb : Pat b) (hl : a.length % 3 = 0) : Pat (a ++ b) := fun i v h => by
  by_cases hi : i < a.length
  · rw [List.getElem?_append_left hi] at h; exact ha i v h
  · rw [List.getElem?_append_right (by omega)] at h
    have := hb _ v h
    rw [show (i - a.length) % 3 = i % 3 by omega] at this
    exact this
theorem Pat.take {a : List Value} (h : Pat a) (n : Nat) : Pat (a.take n) := fun i v hv => by
  rw [List.getElem?_take] at hv
  split at hv
  · exact h i v hv
  · cases hv
theorem Pat.drop {a : List Value} (h : Pat a) (n : Nat) (hn : n % 3 = 0) : Pat (a.drop n) := fun i v hv => by
  rw [List.getElem?_drop] at hv
  have := h _ v hv
  rw [show (n + i) % 3 = i % 3 by omega] at this
  exact this
def acells : List Ac → List Value
  | [] => []
  | a :: l => .bool a.sync :: .int .u8 a.at_.toNat :: .int .u8 a.byte.toNat :: acells l
theorem acells_len (l : List Ac) : (acells l).length = l.length * 3 := by
  induction l with
  | nil => rfl
  | cons a l ih => simp only [acells, List.length_cons, ih]; omega
theorem acells_app (l m : List Ac) : acells (l ++ m) = acells l ++ acells m := by
  induction l with
  | nil => rfl
  | cons a l ih => simp only [List.cons_append, acells, ih]
theorem acells_get (l : List Ac) : ∀ i (h : i < l.length), (acells l)[i * 3]? = some (.bool l[i].sync) ∧ (acells l)[i * 3 + 1]? = some (.int .u8 l[i].at_.toNat) ∧ (acells l)[i * 3 + 2]? = some (.int .u8 l[i].byte.toNat) := by
  induction l with
  | nil => intro i h; simp at h
  | cons a l ih =>
    intro i h
    cases i with
    | zero => exact ⟨rfl, rfl, rfl⟩
    | succ i =>
      have := ih i (by simpa using h)
      rw [show (i + 1) * 3 = i * 3 + 1 + 1 + 1 by omega]
      simpa [acells] using this
theorem pat_one (a : Ac) : Pat [.bool a.sync, .int .u8 a.at_.toNat, .int .u8 a.byte.toNat] := fun i v h => by
  match i with
  | 0 => simp at h; subst h; exact ⟨fun _ => ⟨_, rfl⟩, fun h => absurd rfl h⟩
  | 1 => simp at h; subst h; exact ⟨fun h => by omega, fun _ => ⟨_, rfl⟩⟩
  | 2 => simp at h; subst h; exact ⟨fun h => by omega, fun _ => ⟨_, rfl⟩⟩
  | i + 3 => simp at h
theorem pat_zero (n : Nat) : Pat (Builtin.zeroCells #[.bool false, .int .u8 0, .int .u8 0] n).toList := fun i v h => by
  unfold Builtin.zeroCells at h
  rw [Array.getElem?_toList, Array.getElem?_map, Array.getElem?_range] at h
  split at h
  · simp only [Option.map_some, Option.some.injEq] at h
    have h3 : i % 3 = 0 ∨ i % 3 = 1 ∨ i % 3 = 2 := by omega
    have hs : (#[Value.bool false, Value.int .u8 0, Value.int .u8 0] : Array Value).size = 3 := rfl
    rw [hs] at h
    rcases h3 with e | e | e
    · rw [e] at h; subst h; exact ⟨fun _ => ⟨_, rfl⟩, fun h => absurd e h⟩
    · rw [e] at h; subst h; exact ⟨fun h => by omega, fun _ => ⟨_, rfl⟩⟩
    · rw [e] at h; subst h; exact ⟨fun h => by omega, fun _ => ⟨_, rfl⟩⟩
  · simp at h

/-- A row of acts in a block of its own. -/
structure RowA (W : World) (g n cap : Nat) (l : List Ac) : Prop where
  len : l.length = n
  le : n ≤ cap
  max : cap ≤ maxLen
  obj : ∃ C : Array Value, W.heap[g]? = some (.cells C 46 (0, 0)) ∧ C.size = cap * 3 ∧ Pat C.toList ∧ C.toList.take (n * 3) = acells l
theorem RowA.lt {W : World} {g n cap : Nat} {l : List Ac} (h : RowA W g n cap l) : g < W.heap.size := by
  obtain ⟨C, h1, _⟩ := h.obj
  exact (Array.getElem?_eq_some_iff.1 h1).1
theorem RowA.kept {W W' : World} {g n cap : Nat} {l : List Ac} (h : RowA W g n cap l) {r : Option Nat} (hG : W.grownBy W' r) (hne : some g ≠ r) : RowA W' g n cap l := by
  obtain ⟨C, h1, h2⟩ := h.obj
  exact ⟨h.len, h.le, h.max, C, by rw [hG.block g h.lt hne]; exact h1, h2⟩
theorem RowA.acts {W : World} {g n cap : Nat} {l : List Ac} (h : RowA W g n cap l) : ActsIn W g 0 l := fun i hi => by
  obtain ⟨C, h1, h2, h3, h4⟩ := h.obj
  obtain ⟨e1, e2, e3⟩ := acells_get l i hi
  have hn := h.len
  have hc : ∀ j v, (acells l)[j]? = some v → W.cell? ⟨g, j, none⟩ = some v := fun j v hv => by
    rw [cell_of_row W g j C 46 (0, 0) h1, ← Array.getElem?_toList]
    rw [← h4, List.getElem?_take] at hv
    split at hv
    · exact hv
    · cases hv
  exact ⟨by rw [Nat.zero_add]; exact hc _ _ e1, by rw [Nat.zero_add]; exact hc _ _ e2, by rw [Nat.zero_add]; exact hc _ _ e3⟩
theorem RowA.alien {W : World} {g n cap : Nat} {l : List Ac} (h : RowA W g n cap l) : Alien W g := by
  obtain ⟨C, h1, h2, h3, h4⟩ := h.obj
  have hc : ∀ i v, W.cell? ⟨g, i, none⟩ = some v → C.toList[i]? = some v := fun i v hv => by
    rw [cell_of_row W g i C 46 (0, 0) h1] at hv; rw [Array.getElem?_toList]; exact hv
  refine ⟨fun i v hv => ?_, fun off => ?_⟩
  · have := h3 i v (hc i v hv)
    by_cases e : i % 3 = 0
    · obtain ⟨b, rfl⟩ := this.1 e; exact ⟨fun _ _ _ h => (by cases h), fun _ h => (by cases h)⟩
    · obtain ⟨b, rfl⟩ := this.2 e; exact ⟨fun _ _ _ h => (by cases h), fun _ h => (by cases h)⟩
  · refine ⟨(3 - off % 3) % 3, by omega, fun x hx => ?_⟩
    obtain ⟨b, hb⟩ := (h3 _ _ (hc _ _ hx)).1 (by omega)
    cases hb
theorem Try.info46 : (Try.prog.info? 46).map (fun i => (i.zero, i.size, i.bytes)) = some (some (.agg #[.bool false, .int .u8 0, .int .u8 0]), 3, 3) := by kernel_rfl
theorem rowa_new (w : World) : RowA (w.alloc (.cells #[] 46)) w.heap.size 0 0 [] :=
  ⟨rfl, Nat.le_refl _, by unfold maxLen; omega, #[], heap_alloc_new w _, rfl, Pat.nil, rfl⟩
theorem acts_app {W : World} {g n cap q : Nat} {l : List Ac} {a : Ac} (h : RowA W g n cap l) (hn : n ≤ 1000) (hq : Arr W q [.bool a.sync, .int .u8 a.at_.toNat, .int .u8 a.byte.toNat]) :
    ∃ g' cap' W', (Builtin.append_ #[43, 43] 43 #[.slice (some ⟨g, 0, none⟩) n cap, .slice (some ⟨q, 0, none⟩) 1 1]).run Try.prog W = .ok (.slice (some ⟨g', 0, none⟩) (n + 1) cap') W' ∧ RowA W' g' (n + 1) cap' (l ++ [a]) ∧ W.grownBy W' (some g) ∧ (g' = g ∨ g' = W.heap.size) := by
  obtain ⟨i, hi, hz0, hz1, hz2⟩ := info_parts Try.info46
  obtain ⟨C, h1, h2, h3, h4⟩ := h.obj
  have hone : acells [a] = [.bool a.sync, .int .u8 a.at_.toNat, .int .u8 a.byte.toNat] := rfl
  have hnews : ∀ j u, [Value.bool a.sync, .int .u8 a.at_.toNat, .int .u8 a.byte.toNat][j]? = some u → W.cell? ((⟨q, 0, none⟩ : Addr).add j) = some u := fun j u hu => by
    rw [Addr.add_mid, Nat.zero_add]; exact hq.cell hu
  have hlen := h.len
  have hcl : (acells l).length = n * 3 := by rw [acells_len, hlen]
  have htl : (C.toList.take (n * 3)).length = n * 3 := by rw [h4, hcl]
  by_cases hr : n + 1 ≤ cap
  · have := run_append_room (P := Try.prog) W 43 43 46 i Try.underlying43 hi g n cap C h1 ⟨q, 0, none⟩ 1 1 _ (by rw [hz1]; rfl) hnews (by intro u hu; simp at hu; rcases hu with rfl | rfl | rfl <;> rfl) hr (by rw [hz1, h2]; simp; omega)
    rw [hz1] at this
    refine ⟨g, cap, _, this, ⟨by simp [hlen], hr, h.max, _, setRow_heap W g C _ 46 _ h1, ?_, ?_, ?_⟩, ⟨rfl, rfl, rfl, by simp [World.setRow], fun k _ hk => setRow_other W g k _ (fun e => hk (by rw [e]))⟩, .inl rfl⟩
    · simp only [List.size_toArray, List.length_append, List.length_drop, htl, Array.length_toList, h2, List.length_cons, List.length_nil]; omega
    · show Pat (_ ++ _ ++ _)
      exact ((h3.take _).app (pat_one a) (by rw [htl]; omega)).app (h3.drop _ (by simp only [List.length_cons, List.length_nil]; omega)) (by rw [List.length_append, htl]; simp only [List.length_cons, List.length_nil]; omega)
    · show List.take ((n + 1) * 3) (_ ++ _ ++ _) = _
      rw [acells_app, hone, h4, List.take_append_of_le_length (by rw [List.length_append, hcl]; simp only [List.length_cons, List.length_nil]; omega), List.take_of_length_le (by rw [List.length_append, hcl]; simp only [List.length_cons, List.length_nil]; omega)]
  · have hle := h.le
    have holds : ∀ j u, (acells l)[j]? = some u → W.cell? ((⟨g, 0, none⟩ : Addr).add j) = some u := fun j v hv => by
      rw [Addr.add_mid, Nat.zero_add, cell_of_row W g j C 46 (0, 0) h1, ← Array.getElem?_toList]
      rw [← h4, List.getElem?_take] at hv
      split at hv
      · exact hv
      · cases hv
    have := run_append_grow (P := Try.prog) W 43 43 46 i _ Try.underlying43 hi hz0 ⟨g, 0, none⟩ n cap (acells l) (by rw [hz1, hcl]) holds ⟨q, 0, none⟩ 1 1 _ (by rw [hz1]; rfl) hnews (by omega) (by omega) (growslice_fits (by omega) (by rw [hz2]; omega))
    refine ⟨_, _, _, this, ⟨by simp [hlen], grownCap_ge _ _ _ _, grownCap_le_maxLen _ _ _ _ (by unfold maxLen; omega), _, heap_alloc_new _ _, ?_, ?_, ?_⟩, ⟨rfl, rfl, rfl, by simp, (World.grownBy_alloc W.drew _ (some g)).block⟩, .inr rfl⟩
    · have hg := grownCap_ge W (n + 1) cap 46
      simp only [Array.size_append, List.size_toArray, hcl, List.length_cons, List.length_nil, Builtin.zeroCells, Array.size_map, Array.size_range]
      show n * 3 + (0 + 1 + 1 + 1) + (grownCap W (n + 1) cap 46 - (n + 1)) * 3 = _
      omega
    · simp only [Array.toList_append]
      have hpl : Pat (acells l) := by rw [← h4]; exact h3.take _
      exact (hpl.app (pat_one a) (by rw [hcl]; omega)).app (pat_zero _) (by rw [List.length_append]; simp only [hcl, List.length_cons, List.length_nil]; omega)
    · simp only [Array.toList_append]
      rw [acells_app, hone, List.take_append_of_le_length (by rw [List.length_append, hcl]; simp only [List.length_cons, List.length_nil]; omega), List.take_of_length_le (by rw [List.length_append, hcl]; simp only [List.length_cons, List.length_nil]; omega)]
end Go.Proofs.Ytmklchjgiaomkaa
