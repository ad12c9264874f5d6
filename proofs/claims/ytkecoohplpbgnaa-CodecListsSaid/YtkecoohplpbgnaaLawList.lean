/- For every list of values CodecLists answers true and leaves its argument as it was. No condition but the row's own. -/
import Derived.Test.YtkecoohplpbgnaaLawNum
import Derived.Test.YtkecoohplpbgnaaLawTrip
namespace Go.Proofs.Ytkecoohplpbgnaa
open Go.RowKit Go.ChangeShapes Go.WideShapes Go.ChangeAt

/-- A slice of values reads as a list of trees. -/
def LstAt (w : World) (B : Nat) (v : Value) (l : List V) : Prop :=
  ∃ a cap, v = .slice a l.length cap ∧ l.length ≤ cap ∧ cap ≤ maxLen ∧ (l = [] ∨ ∃ b off, a = some ⟨b, off, none⟩ ∧ b < B ∧ AtL w B l b off)

section
variable {H : Type} {enc : TypeId × Value → H} {w : World} {base : Nat} {spare : Nat → Bool} {held : Bool}
theorem open_vals {v : Value} {d : DataW H} {ps : List MemPlace} {r : Reach} {b0 : Nat} (hv : Value.okWide Try.prog w r b0 22 v) (h : DataW.Trod enc Try.prog w base spare held 22 v d ps) : ∃ l : List V, LstAt w w.heap.size v l := by
  obtain ⟨a0, len0, cap0, rfl⟩ := okWide_slice Try.underlying22 hv
  obtain ⟨fuel, hf⟩ := h
  rcases DataW.trod_slice Try.underlying22 hf with ⟨h0, _⟩ | ⟨a, len, cap, elems, rest, n', _, hc, _, hb, hle, hcm, hel, hget, _, _⟩
  · simp [Value.cells] at h0
    obtain ⟨rfl, rfl, rfl⟩ := h0
    exact ⟨[], none, 0, rfl, by simp, by unfold maxLen; omega, .inl rfl⟩
  · simp [Value.cells] at hc
    obtain ⟨rfl, rfl, rfl⟩ := hc
    by_cases hlen : len0 = 0
    · subst hlen
      exact ⟨[], some a, cap0, rfl, by simp, hcm, .inl rfl⟩
    · have each : ∀ i, i < len0 → ∃ (t : V), ∃ c0 c1 c2 c3, w.cell? (a.add (i * 4)) = some c0 ∧ w.cell? ((a.add (i * 4)).add 1) = some c1 ∧ w.cell? ((a.add (i * 4)).add 2) = some c2 ∧ w.cell? ((a.add (i * 4)).add 3) = some c3 ∧ V.At w w.heap.size t (.agg #[c0, c1, c2, c3]) := by
        intro i hi
        have h1 := hget i hi
        rw [Try.cells24, List.getElem?_eq_getElem (by omega)] at h1
        obtain ⟨cs', h2, h3⟩ := Option.bind_eq_some_iff.1 h1
        obtain ⟨c0, c1, c2, c3, t, rfl, ht⟩ := open_val n' n' (Nat.le_refl _) cs' _ h3
        obtain ⟨_, _, h4⟩ := World.cells?_some h2
        have g0 := h4 0 (by omega)
        have g1 := h4 1 (by omega)
        have g2 := h4 2 (by omega)
        have g3 := h4 3 (by omega)
        exact ⟨t, c0, c1, c2, c3, by simpa [Addr.add] using g0, by simpa using g1, by simpa using g2, by simpa using g3, ht⟩
      obtain ⟨b, off, spot⟩ := a
      obtain ⟨f, hfx⟩ := Deep.choose_lt (α := V) (p := fun i t => ∃ c0 c1 c2 c3, w.cell? ((⟨b, off, spot⟩ : Addr).add (i * 4)) = some c0 ∧ w.cell? (((⟨b, off, spot⟩ : Addr).add (i * 4)).add 1) = some c1 ∧ w.cell? (((⟨b, off, spot⟩ : Addr).add (i * 4)).add 2) = some c2 ∧ w.cell? (((⟨b, off, spot⟩ : Addr).add (i * 4)).add 3) = some c3 ∧ V.At w w.heap.size t (.agg #[c0, c1, c2, c3])) each
      have hs0 : spot = none := by
        obtain ⟨c0, _, _, _, h0, _⟩ := hfx 0 (by omega)
        simpa [Addr.add] using World.cell?_spot h0
      subst hs0
      have hadd : ∀ i j, ((⟨b, off, none⟩ : Addr).add i).add j = ⟨b, off + i + j, none⟩ := fun i j => by
        unfold Addr.add
        by_cases h1 : i = 0 <;> by_cases h2 : j = 0 <;> simp [h1, h2]
      have hadd0 : ∀ i, (⟨b, off, none⟩ : Addr).add i = ⟨b, off + i, none⟩ := fun i => by
        unfold Addr.add
        by_cases h1 : i = 0 <;> simp [h1]
      have hbl : b < w.heap.size := by
        obtain ⟨c0, _, _, _, h0, _⟩ := hfx 0 (by omega)
        exact World.block_lt_of_cell? w _ h0
      have hat : AtL w w.heap.size ((List.range len0).map f) b off := AtL.of len0 f b off fun i hi => by
        obtain ⟨c0, c1, c2, c3, h0, h1, h2, h3, h4⟩ := hfx i hi
        rw [hadd0] at h0
        rw [hadd] at h1 h2 h3
        exact ⟨c0, c1, c2, c3, h0, h1, h2, h3, h4⟩
      exact ⟨(List.range len0).map f, some ⟨b, off, none⟩, cap0, by simp, by simpa using hle, hcm, .inr ⟨b, off, rfl, hbl, hat⟩⟩
end

/-- The list as a value. -/
def LV (l : List V) : V := ⟨3, 0, ByteArray.empty, l⟩
theorem LV_at {w : World} {B : Nat} {a : Option Addr} {len cap : Nat} {l : List V} (h : LstAt w B (.slice a len cap) l) : V.At w B (LV l) (.agg #[.int .i64 3, .int .i64 0, .string { data := #[] }, .slice a len cap]) := by
  obtain ⟨a', cap', hv, h1, h2, h3⟩ := h
  injection hv with e1 e2 e3
  subst e1; subst e2; subst e3
  unfold LV V.At
  exact ⟨by unfold In64; omega, by unfold In64; omega, by unfold maxLen; decide, a, cap, rfl, h1, h2, h3⟩
theorem LstAt.below {w w' : World} {B : Nat} {v : Value} {l : List V} (h : LstAt w B v l) (hb : Below B w w') : LstAt w' B v l := by
  obtain ⟨a, cap, h1, h2, h3, h4⟩ := h
  refine ⟨a, cap, h1, h2, h3, ?_⟩
  rcases h4 with h4 | ⟨b, off, h4, h5, h6⟩
  · exact .inl h4
  · exact .inr ⟨b, off, h4, h5, AtL.below hb _ _ _ h5 h6⟩
theorem LstAt.mono {w : World} {B B' : Nat} {v : Value} {l : List V} (h : LstAt w B v l) (hb : B ≤ B') : LstAt w B' v l := by
  obtain ⟨a, cap, h1, h2, h3, h4⟩ := h
  refine ⟨a, cap, h1, h2, h3, ?_⟩
  rcases h4 with h4 | ⟨b, off, h4, h5, h6⟩
  · exact .inl h4
  · exact .inr ⟨b, off, h4, by omega, AtL.mono hb _ _ _ h6⟩

theorem formeds_all : ∀ (l : List V), (∀ x ∈ l, x.chk = 0) → V.formeds l = true
  | [], _ => by unfold V.formeds; rfl
  | x :: l, h => by rw [V.formeds_cons, x.chk_formed (h x (by simp)), formeds_all l fun y hy => h y (by simp [hy])]; rfl
theorem deps_all : ∀ (l : List V), (∀ x ∈ l, x.chk = 0) → V.deps l ≤ 16
  | [], _ => by unfold V.deps; omega
  | x :: l, h => by unfold V.deps; have := chk_dep (h x (by simp)); have := deps_all l fun y hy => h y (by simp [hy]); omega
theorem LV_good {l : List V} (h : ∀ x ∈ l, x.chk = 0) : (LV l).chk = 0 ∨ (LV l).chk = 2 := by
  have h1 : (LV l).formed = true := by
    unfold LV V.formed; rw [if_neg (by decide), if_neg (by decide), if_pos rfl, formeds_all l h]; simp [ByteArray.toList_eq]
  unfold V.chk
  rw [h1, if_neg (by simp)]
  split
  · exact .inr rfl
  · exact .inl rfl
theorem LV_bad {l : List V} {x : V} (hx : x ∈ l) (h : x.chk ≠ 0) : (LV l).chk ≠ 0 := by
  intro hk
  have hf := (LV l).chk_formed hk
  have hd := chk_dep hk
  unfold LV at hf hd
  unfold V.formed at hf
  rw [if_neg (by decide), if_neg (by decide), if_pos rfl] at hf
  simp only [Bool.and_eq_true] at hf
  unfold V.dep at hd
  rw [if_pos rfl] at hd
  have := V.deps_mem l x hx
  exact h (chk_ok (V.formeds_mem l x hx hf.2.2) (by omega))

theorem LV_enc (l : List V) : (LV l).enc = 3 :: (num l.length ++ V.encs l) := by
  unfold LV V.enc; rw [if_neg (by decide), if_neg (by decide)]

theorem few_all {w : World} {B : Nat} : ∀ (l : List V) (b off : Nat), AtL w B l b off → l.all V.few = true → (V.encs l).length ≤ 44000 * l.length ∧ V.deps l ≤ 21
  | [], _, _, _, _ => by rw [V.encs_nil]; unfold V.deps; simp
  | x :: l, b, off, h, hf => by
    unfold AtL at h
    obtain ⟨⟨c0, c1, c2, c3, _, _, _, _, hx⟩, hr⟩ := h
    simp only [List.all_cons, Bool.and_eq_true] at hf
    obtain ⟨h1, h2, _⟩ := few_bound hx hf.1
    obtain ⟨h3, h4⟩ := few_all l b (off + 4) hr hf.2
    rw [V.encs_cons, List.length_append, List.length_cons]
    unfold V.deps
    omega

theorem encs_append : ∀ (l m : List V), V.encs (l ++ m) = V.encs l ++ V.encs m
  | [], m => by rw [V.encs_nil]; rfl
  | x :: l, m => by rw [List.cons_append, V.encs_cons, V.encs_cons, encs_append l m, List.append_assoc]

/-- The cells of so many zeros. -/
def zc : Nat → List Value
  | 0 => []
  | j + 1 => zc j ++ [.int .i64 1, .int .i64 0, .string { data := #[] }, .slice none 0 0]
theorem zc_elems {w : World} {p : Nat → Prop} : ∀ j, Elems w p (List.replicate j (intV 0)) (zc j)
  | 0 => rfl
  | j + 1 => by
    rw [List.replicate_succ', zc]
    exact Elems.snoc (own_int 0 (by unfold In64; omega)) _ _ (zc_elems j)
theorem zeros_encs : ∀ j, (V.encs (List.replicate j (intV 0))).length = 2 * j
  | 0 => by rw [List.replicate_zero, V.encs_nil]; rfl
  | j + 1 => by
    rw [List.replicate_succ, V.encs_cons, List.length_append, zeros_encs j, intV_enc]
    have : intLen 0 = 2 := by unfold intLen zig; rw [if_neg (by decide), num_lt _ (by decide)]; rfl
    omega

theorem zeros_at {w : World} {B : Nat} {vz : Value} {j : Nat} (h : w.ownsRow B 24 4 vz j (zc j)) : LstAt w w.heap.size vz (List.replicate j (intV 0)) := by
  have hm : Many w B vz (List.replicate j (intV 0)) := ⟨zc j, by rw [List.length_replicate]; exact h, zc_elems j⟩
  obtain ⟨a, cap, h1, h2, h3, h4⟩ := hm.shape
  refine ⟨a, cap, h1, h2, h3, ?_⟩
  rcases h4 with h4 | ⟨g, h4, h5, h6, h7⟩
  · exact .inl h4
  · exact .inr ⟨g, 0, h4, h6, OwnL.at (fun b hb => hb.2) _ _ _ h7⟩

end Go.Proofs.Ytkecoohplpbgnaa
