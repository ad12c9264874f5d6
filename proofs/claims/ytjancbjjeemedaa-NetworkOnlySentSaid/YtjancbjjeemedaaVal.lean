/- Links as plain data, and what it means that a value of the program reads as one in a world. No conditions. -/
import Derived.Test.YtjancbjjeemedaaRows
import Derived.WalkKit
import Derived.ProofKit
import Derived.Deep.Slices
import Derived.Deep.MidRow
import Derived.Deep.RegionHeld3
import Derived.Deep.AppendLies
import Derived.Lib.SmallJoins
import Derived.Lib.Hide
import Derived.Handy
import Derived.WalkSpells
import Derived.WalkLawsBesides
import Derived.Laws.MakeOwn
namespace Go.Proofs.Ytjancbjjeemedaa
open Go.RowKit

theorem ret_int {k : IntKind} {a b : Int} (h : a = b) : Ending.returned (.int k a) = .returned (.int k b) := by rw [h]
theorem ret_bool {a b : Bool} (h : a = b) : Ending.returned (.bool a) = .returned (.bool b) := by rw [h]
theorem gtrans {a b c : World} {row : Option Nat} (h : a.grownBy b row) (k : b.grownBy c row) : a.grownBy c row :=
  ⟨k.os.trans h.os, k.tape.trans h.tape, k.output.trans h.output, Nat.le_trans h.size k.size, fun i hi hne => (k.block i (Nat.lt_of_lt_of_le hi h.size) hne).trans (h.block i hi hne)⟩
theorem gbelow {a b : World} {row : Option Nat} (h : Below a.heap.size a b) : a.grownBy b row := ⟨h.os, h.tape, h.output, h.size, fun i hi _ => h.block i hi⟩
theorem belowg {a b : World} {g B : Nat} (h : a.grownBy b (some g)) (hB : B ≤ a.heap.size) (hg : B ≤ g) : Below B a b :=
  ⟨h.os, h.tape, h.output, h.size, fun i hi => h.block i (by omega) (by simp; omega)⟩
theorem below_grow {B : Nat} {w W W' : World} {row : Option Nat} (h : Below B w W) (hg : W.grownBy W' row) (hr : ∀ k, row = some k → B ≤ k) (hB : B ≤ W.heap.size) : Below B w W' :=
  ⟨hg.os.trans h.os, hg.tape.trans h.tape, hg.output.trans h.output, Nat.le_trans h.size hg.size, fun i hi => (hg.block i (by omega) (fun e => by have := hr i e.symm; omega)).trans (h.block i hi)⟩

/-- Nothing that lay in w1 has turned in W. -/
def Kept (w1 W : World) : Prop := Below w1.heap.size w1 W
theorem Kept.below {w1 W : World} (h : Kept w1 W) : Below w1.heap.size w1 W := h
theorem Kept.next {w1 W W' : World} (h : Kept w1 W) (k : Below W.heap.size W W') : Kept w1 W' := Below.trans h (k.mono h.size)
theorem Kept.refl (w1 : World) : Kept w1 w1 := Below.refl _ _
theorem Kept.drew {w1 W : World} (h : Kept w1 W) : Kept w1 W.drew := Below.drew h
theorem Kept.alloc {w1 W : World} (h : Kept w1 W) (o : Obj) : Kept w1 (W.alloc o) := Below.alloc h h.size o
theorem Kept.set {w1 W : World} (h : Kept w1 W) {p : Addr} (hp : w1.heap.size ≤ p.block) (u : Value) : Kept w1 (W.setCell p u) := Below.setCell h hp u
theorem below_drewN {B : Nat} {a w : World} (h : Below B a w) (q : Nat) : Below B a (w.drewN q) := ⟨h.os, h.tape, h.output, h.size, h.block⟩
theorem Kept.drewN {w1 W : World} (h : Kept w1 W) (q : Nat) : Kept w1 (W.drewN q) := below_drewN h q
theorem Kept.cell {w1 W : World} (h : Kept w1 W) {b i : Nat} (hb : b < w1.heap.size) : W.cell? ⟨b, i, none⟩ = w1.cell? ⟨b, i, none⟩ := h.below.cell (p := ⟨b, i, none⟩) hb
theorem Kept.frozen {w1 W : World} (h : Kept w1 W) {b i : Nat} (hb : b < w1.heap.size) : W.frozen? ⟨b, i, none⟩ = w1.frozen? ⟨b, i, none⟩ := h.below.frozen (p := ⟨b, i, none⟩) hb
theorem below_setCells {B b : Nat} {a : World} (hb : B ≤ b) : ∀ (vs : List Value) (o : Nat) (w : World), Below B a w → Below B a (w.setCells b o vs)
  | [], _, _, h => h
  | v :: r, o, w, h => by
    rw [World.setCells]
    exact below_setCells hb r (o + 1) _ (h.setCell (p := ⟨b, o, none⟩) hb v)

def cells8 (l : List UInt8) : List Value := l.map fun c => .int .u8 c.toNat
theorem cells8_len (l : List UInt8) : (cells8 l).length = l.length := by simp [cells8]
theorem cells8_rep (m : Nat) : cells8 (List.replicate m 0) = List.replicate m (.int .u8 0) := by rw [cells8, List.map_replicate]; rfl
theorem cells8_app (a b : List UInt8) : cells8 (a ++ b) = cells8 a ++ cells8 b := by simp [cells8]
theorem cells8_set (l : List UInt8) (i : Nat) (c : UInt8) : cells8 (l.set i c) = (cells8 l).set i (.int .u8 c.toNat) := by simp [cells8, List.map_set]
theorem one_cells8 (l : List UInt8) : ∀ v ∈ cells8 l, v.oneCell' = true := by intro v hv; obtain ⟨x, _, rfl⟩ := List.mem_map.1 hv; rfl

/-- Block b of W holds the cells cs, and they may be written. -/
structure Arr (W : World) (b : Nat) (cs : List Value) : Prop where
  at_ : W.rangeAt b 0 cs
  there : W.there b 0 cs.length
theorem Arr.cell {W : World} {b : Nat} {cs : List Value} (h : Arr W b cs) {i : Nat} {v : Value} (hv : cs[i]? = some v) : W.cell? ⟨b, i, none⟩ = some v := by simpa using h.at_ i v hv
theorem Arr.frozen {W : World} {b : Nat} {cs : List Value} (h : Arr W b cs) {i : Nat} (hi : i < cs.length) : W.frozen? ⟨b, i, none⟩ = false := by simpa using (h.there i hi).2
theorem Arr.below {W W' : World} {B b : Nat} {cs : List Value} (h : Arr W b cs) (hb : Below B W W') (hlt : b < B) : Arr W' b cs :=
  ⟨fun j v hv => (hb.cell (p := ⟨b, 0 + j, none⟩) hlt).trans (h.at_ j v hv), fun j hj => ⟨by rw [hb.cell (p := ⟨b, 0 + j, none⟩) hlt]; exact (h.there j hj).1, by rw [hb.frozen (p := ⟨b, 0 + j, none⟩) hlt]; exact (h.there j hj).2⟩⟩
theorem Arr.new (W : World) (C : Array Value) (t : TypeId) : Arr (W.alloc (.cells C t)) W.heap.size C.toList := by
  have hc : ∀ i v, C.toList[i]? = some v → (W.alloc (.cells C t)).cell? ⟨W.heap.size, i, none⟩ = some v := fun i v hv => by
    rw [World.cell?_alloc_new]; simpa using hv
  refine ⟨fun j v hv => by simpa using hc j v hv, fun j hj => ⟨?_, ?_⟩⟩
  · rw [Nat.zero_add, hc j _ (List.getElem?_eq_getElem hj)]; rfl
  · rw [Nat.zero_add, World.frozen?_alloc_new]
theorem Arr.alloc {W : World} {b : Nat} {cs : List Value} (h : Arr W b cs) (hlt : b < W.heap.size) (o : Obj) : Arr (W.alloc o) b cs := h.below ((Below.refl W.heap.size W).alloc (Nat.le_refl _) o) hlt
theorem Arr.set {W : World} {b : Nat} {cs : List Value} (h : Arr W b cs) (i : Nat) (v : Value) : Arr (W.setCell ⟨b, i, none⟩ v) b (cs.set i v) := by
  refine ⟨fun j u hu => ?_, fun j hj => ?_⟩
  · rw [Nat.zero_add]
    by_cases e : j = i
    · subst e
      rw [List.getElem?_set] at hu
      simp at hu
      obtain ⟨hj, rfl⟩ := hu
      exact World.cell?_setCell_same _ _ _ (h.cell (List.getElem?_eq_getElem hj))
    · rw [World.cell?_setCell_other _ _ _ _ (fun h => by injection h; first | exact e (by assumption) | exact e (by symm; assumption))]
      rw [List.getElem?_set_ne (fun h => e h.symm)] at hu
      exact h.cell hu
  · rw [List.length_set] at hj
    refine ⟨?_, by rw [World.frozen?_setCell]; exact (h.there j hj).2⟩
    obtain ⟨u, hu⟩ := Option.isSome_iff_exists.1 (h.there j hj).1
    obtain ⟨u', hu'⟩ := cell?_setCell_some (p := ⟨b, i, none⟩) (x := v) hu
    rw [hu']; rfl
theorem Arr.other {W : World} {b b' : Nat} {cs : List Value} (h : Arr W b cs) (hne : b ≠ b') (i : Nat) (v : Value) : Arr (W.setCell ⟨b', i, none⟩ v) b cs := by
  refine ⟨fun j u hu => ?_, fun j hj => ⟨?_, by rw [World.frozen?_setCell]; exact (h.there j hj).2⟩⟩
  · rw [World.cell?_setCell_other _ _ _ _ (fun h => by injection h; first | exact hne (by assumption) | exact hne (by symm; assumption))]; exact h.at_ j u hu
  · rw [World.cell?_setCell_other _ _ _ _ (fun h => by injection h; first | exact hne (by assumption) | exact hne (by symm; assumption))]; exact (h.there j hj).1
theorem Arr.lt {W : World} {b : Nat} {cs : List Value} (h : Arr W b cs) (hl : 0 < cs.length) : b < W.heap.size := by
  obtain ⟨u, hu⟩ := Option.isSome_iff_exists.1 (h.there 0 hl).1
  exact World.block_lt_of_cell? W _ hu
theorem Arr.drew {W : World} {b : Nat} {cs : List Value} (h : Arr W b cs) : Arr W.drew b cs := ⟨h.at_, h.there⟩
/-- The first cells of a row are written anew. -/
theorem Arr.over {W : World} {g : Nat} {cs l : List Value} (h : Arr W g cs) (hl : l.length ≤ cs.length) : Arr (W.setCells g 0 l) g (l ++ cs.drop l.length) := by
  have hs : ∀ j, j < l.length → (W.cell? ⟨g, 0 + j, none⟩).isSome = true := fun j hj => (h.there j (by omega)).1
  refine ⟨fun j v hv => ?_, fun j hj => ⟨?_, ?_⟩⟩
  · by_cases hj : j < l.length
    · rw [World.cell?_setCells_in g l 0 W hs j hj]
      rw [List.getElem?_append_left hj, List.getElem?_eq_getElem hj] at hv; exact hv
    · rw [World.cell?_setCells_out g l 0 W _ (fun _ _ => .inr (by simp; omega))]
      rw [List.getElem?_append_right (by omega), List.getElem?_drop] at hv
      exact h.at_ j v (by rw [← hv]; congr 1; omega)
  · by_cases hjl : j < l.length
    · rw [World.cell?_setCells_in g l 0 W hs j hjl]; rfl
    · rw [World.cell?_setCells_out g l 0 W _ (fun _ _ => .inr (by simp; omega))]
      exact (h.there j (by rw [List.length_append, List.length_drop] at hj; omega)).1
  · rw [World.frozen?_setCells]
    exact (h.there j (by rw [List.length_append, List.length_drop] at hj; omega)).2

def BytesIn (W : World) (db off : Nat) (l : List UInt8) : Prop := ∀ i (h : i < l.length), W.cell? ⟨db, off + i, none⟩ = some (.int .u8 l[i].toNat)
theorem BytesIn.below {W W' : World} {B db off : Nat} {l : List UInt8} (h : BytesIn W db off l) (hb : Below B W W') (hlt : db < B) : BytesIn W' db off l :=
  fun i hi => (hb.cell (p := ⟨db, off + i, none⟩) hlt).trans (h i hi)
theorem bytes_news {w : World} {db off : Nat} {l : List UInt8} (h : BytesIn w db off l) : ∀ j u, (cells8 l)[j]? = some u → w.cell? ((⟨db, off, none⟩ : Addr).add j) = some u := fun j u hu => by
  have hj : j < l.length := by have := (List.getElem?_eq_some_iff.1 hu).1; simpa [cells8] using this
  rw [show (⟨db, off, none⟩ : Addr).add j = ⟨db, off + j, none⟩ from Addr.add_mid db off j, h j hj, ← hu]
  simp [cells8, List.getElem?_eq_getElem hj]
theorem Arr.bytes {W : World} {g : Nat} {l : List UInt8} (h : Arr W g (cells8 l)) : BytesIn W g 0 l := fun i hi => by
  rw [Nat.zero_add, h.cell (i := i) (v := .int .u8 l[i].toNat) (by simp [cells8, List.getElem?_eq_getElem hi])]

/-- Bytes in a slice, in memory below B. -/
def BytesAt (w : World) (B : Nat) (v : Value) (bs : List UInt8) : Prop :=
  ∃ a cap, v = .slice a bs.length cap ∧ bs.length ≤ cap ∧ cap ≤ maxLen ∧ (bs = [] ∨ ∃ db off, a = some ⟨db, off, none⟩ ∧ db < B ∧ BytesIn w db off bs)
theorem BytesAt.below {w w' : World} {B : Nat} {v : Value} {bs : List UInt8} (h : BytesAt w B v bs) (hb : Below B w w') : BytesAt w' B v bs := by
  obtain ⟨a, cap, h1, h2, h3, h4⟩ := h
  refine ⟨a, cap, h1, h2, h3, ?_⟩
  rcases h4 with h4 | ⟨db, off, h4, h5, h6⟩
  · exact .inl h4
  · exact .inr ⟨db, off, h4, h5, h6.below hb h5⟩
theorem BytesAt.mono {w : World} {B B' : Nat} {v : Value} {bs : List UInt8} (h : BytesAt w B v bs) (hb : B ≤ B') : BytesAt w B' v bs := by
  obtain ⟨a, cap, h1, h2, h3, h4⟩ := h
  refine ⟨a, cap, h1, h2, h3, ?_⟩
  rcases h4 with h4 | ⟨db, off, h4, h5, h6⟩
  · exact .inl h4
  · exact .inr ⟨db, off, h4, by omega, h6⟩
theorem BytesAt.next {w w' : World} {B : Nat} {v : Value} {bs : List UInt8} (h : BytesAt w B v bs) (hb : Below B w w') (hB : B ≤ w'.heap.size) : BytesAt w' w'.heap.size v bs := (h.below hb).mono hB
theorem bytes_nil (w : World) (B : Nat) (a : Option Addr) : BytesAt w B (.slice a 0 0) [] := ⟨a, 0, rfl, by simp, by unfold maxLen; omega, .inl rfl⟩
theorem Arr.bytesAt {W : World} {g : Nat} {l : List UInt8} (h : Arr W g (cells8 l)) {B cap n : Nat} (hn : l.length = n) (hb : g < B) (hc : n ≤ cap) (hm : cap ≤ maxLen) : BytesAt W B (.slice (some ⟨g, 0, none⟩) n cap) l := by
  subst hn; exact ⟨_, cap, rfl, hc, hm, .inr ⟨g, 0, rfl, hb, h.bytes⟩⟩


abbrev By := List UInt8
def In64 (k : Int) : Prop := -9223372036854775808 ≤ k ∧ k ≤ 9223372036854775807
theorem BytesAt.nxt {w w' : World} {v : Value} {d : By} (h : BytesAt w w.heap.size v d) (hb : Below w.heap.size w w') : BytesAt w' w'.heap.size v d := (h.below hb).mono hb.size
theorem bytes_shape {w : World} {B : Nat} {v : Value} {l : By} (h : BytesAt w B v l) : ∃ a c, v = .slice a l.length c ∧ l.length ≤ c ∧ c ≤ maxLen := by
  obtain ⟨a, c, h1, h2, h3, _⟩ := h; exact ⟨a, c, h1, h2, h3⟩

/-! ### Packets and pairs -/
structure Pk where
  frm : Int
  to : Int
  data : By
def PkAt (w : World) (B : Nat) (v : Value) (p : Pk) : Prop := (In64 p.frm ∧ In64 p.to) ∧ ∃ u, v = .agg #[.int .i64 p.frm, .int .i64 p.to, u] ∧ BytesAt w B u p.data
def QIn (w : World) (B b off : Nat) (l : List Pk) : Prop := ∀ i (h : i < l.length), (In64 l[i].frm ∧ In64 l[i].to) ∧ w.cell? ⟨b, off + i * 3, none⟩ = some (.int .i64 l[i].frm) ∧ w.cell? ⟨b, off + i * 3 + 1, none⟩ = some (.int .i64 l[i].to) ∧ ∃ u, w.cell? ⟨b, off + i * 3 + 2, none⟩ = some u ∧ BytesAt w B u l[i].data
def QAt (w : World) (B : Nat) (v : Value) (l : List Pk) : Prop :=
  ∃ a cap, v = .slice a l.length cap ∧ l.length ≤ cap ∧ cap ≤ maxLen ∧ (l = [] ∨ ∃ b off, a = some ⟨b, off, none⟩ ∧ b < B ∧ QIn w B b off l)
def AIn (w : World) (b off : Nat) (l : List (Int × Int)) : Prop := ∀ i (h : i < l.length), (In64 l[i].1 ∧ In64 l[i].2) ∧ w.cell? ⟨b, off + i * 2, none⟩ = some (.int .i64 l[i].1) ∧ w.cell? ⟨b, off + i * 2 + 1, none⟩ = some (.int .i64 l[i].2)
def AAt (w : World) (B : Nat) (v : Value) (l : List (Int × Int)) : Prop :=
  ∃ a cap, v = .slice a l.length cap ∧ l.length ≤ cap ∧ cap ≤ maxLen ∧ (l = [] ∨ ∃ b off, a = some ⟨b, off, none⟩ ∧ b < B ∧ AIn w b off l)
theorem PkAt.below {w w' : World} {B : Nat} {v : Value} {p : Pk} (h : PkAt w B v p) (hb : Below B w w') : PkAt w' B v p := by
  obtain ⟨h0, u, h1, h2⟩ := h; exact ⟨h0, u, h1, h2.below hb⟩
theorem PkAt.mono {w : World} {B B' : Nat} {v : Value} {p : Pk} (h : PkAt w B v p) (hb : B ≤ B') : PkAt w B' v p := by
  obtain ⟨h0, u, h1, h2⟩ := h; exact ⟨h0, u, h1, h2.mono hb⟩
theorem PkAt.next {w w' : World} {v : Value} {p : Pk} (h : PkAt w w.heap.size v p) (hb : Below w.heap.size w w') : PkAt w' w'.heap.size v p := (h.below hb).mono hb.size
theorem QIn.below {w w' : World} {B b off : Nat} {l : List Pk} (h : QIn w B b off l) (hb : Below B w w') (hlt : b < B) : QIn w' B b off l := fun i hi => by
  obtain ⟨h0, h1, h2, u, h3, h4⟩ := h i hi
  exact ⟨h0, (hb.cell (p := ⟨b, off + i * 3, none⟩) hlt).trans h1, (hb.cell (p := ⟨b, off + i * 3 + 1, none⟩) hlt).trans h2, u, (hb.cell (p := ⟨b, off + i * 3 + 2, none⟩) hlt).trans h3, h4.below hb⟩
theorem QIn.mono {w : World} {B B' b off : Nat} {l : List Pk} (h : QIn w B b off l) (hb : B ≤ B') : QIn w B' b off l := fun i hi => by
  obtain ⟨h0, h1, h2, u, h3, h4⟩ := h i hi
  exact ⟨h0, h1, h2, u, h3, h4.mono hb⟩
theorem AIn.below {w w' : World} {B b off : Nat} {l : List (Int × Int)} (h : AIn w b off l) (hb : Below B w w') (hlt : b < B) : AIn w' b off l := fun i hi => by
  obtain ⟨h0, h1, h2⟩ := h i hi
  exact ⟨h0, (hb.cell (p := ⟨b, off + i * 2, none⟩) hlt).trans h1, (hb.cell (p := ⟨b, off + i * 2 + 1, none⟩) hlt).trans h2⟩
theorem QAt.below {w w' : World} {B : Nat} {v : Value} {l : List Pk} (h : QAt w B v l) (hb : Below B w w') : QAt w' B v l := by
  obtain ⟨a, cap, h1, h2, h3, h4⟩ := h
  refine ⟨a, cap, h1, h2, h3, ?_⟩
  rcases h4 with h4 | ⟨db, off, h4, h5, h6⟩
  · exact .inl h4
  · exact .inr ⟨db, off, h4, h5, h6.below hb h5⟩
theorem QAt.mono {w : World} {B B' : Nat} {v : Value} {l : List Pk} (h : QAt w B v l) (hb : B ≤ B') : QAt w B' v l := by
  obtain ⟨a, cap, h1, h2, h3, h4⟩ := h
  refine ⟨a, cap, h1, h2, h3, ?_⟩
  rcases h4 with h4 | ⟨db, off, h4, h5, h6⟩
  · exact .inl h4
  · exact .inr ⟨db, off, h4, by omega, h6.mono hb⟩
theorem AAt.below {w w' : World} {B : Nat} {v : Value} {l : List (Int × Int)} (h : AAt w B v l) (hb : Below B w w') : AAt w' B v l := by
  obtain ⟨a, cap, h1, h2, h3, h4⟩ := h
  refine ⟨a, cap, h1, h2, h3, ?_⟩
  rcases h4 with h4 | ⟨db, off, h4, h5, h6⟩
  · exact .inl h4
  · exact .inr ⟨db, off, h4, h5, h6.below hb h5⟩
theorem AAt.mono {w : World} {B B' : Nat} {v : Value} {l : List (Int × Int)} (h : AAt w B v l) (hb : B ≤ B') : AAt w B' v l := by
  obtain ⟨a, cap, h1, h2, h3, h4⟩ := h
  refine ⟨a, cap, h1, h2, h3, ?_⟩
  rcases h4 with h4 | ⟨db, off, h4, h5, h6⟩
  · exact .inl h4
  · exact .inr ⟨db, off, h4, by omega, h6⟩
theorem QAt.next {w w' : World} {v : Value} {l : List Pk} (h : QAt w w.heap.size v l) (hb : Below w.heap.size w w') : QAt w' w'.heap.size v l := (h.below hb).mono hb.size
theorem AAt.next {w w' : World} {v : Value} {l : List (Int × Int)} (h : AAt w w.heap.size v l) (hb : Below w.heap.size w w') : AAt w' w'.heap.size v l := (h.below hb).mono hb.size
theorem q_nil (w : World) (B : Nat) (a : Option Addr) : QAt w B (.slice a 0 0) [] := ⟨a, 0, rfl, by simp, by unfold maxLen; omega, .inl rfl⟩
theorem a_nil (w : World) (B : Nat) (a : Option Addr) : AAt w B (.slice a 0 0) [] := ⟨a, 0, rfl, by simp, by unfold maxLen; omega, .inl rfl⟩
/-- What stands at a place of the queue. -/
theorem QAt.got {w : World} {B : Nat} {a : Option Addr} {n cap : Nat} {l : List Pk} (h : QAt w B (.slice a n cap) l) (i : Nat) (hi : i < l.length) : ∃ b off, a = some ⟨b, off, none⟩ ∧ b < B ∧ (In64 l[i].frm ∧ In64 l[i].to) ∧
    w.cell? ⟨b, off + i * 3, none⟩ = some (.int .i64 l[i].frm) ∧ w.cell? ⟨b, off + i * 3 + 1, none⟩ = some (.int .i64 l[i].to) ∧ ∃ da dc, w.cell? ⟨b, off + i * 3 + 2, none⟩ = some (.slice da l[i].data.length dc) ∧ l[i].data.length ≤ dc ∧ dc ≤ maxLen ∧ BytesAt w B (.slice da l[i].data.length dc) l[i].data := by
  obtain ⟨a', cap', e, _, _, h4⟩ := h
  cases e
  rcases h4 with h4 | ⟨b, off, h4, h5, h6⟩
  · subst h4; simp at hi
  · obtain ⟨h0, h1, h2, u, h3, h7⟩ := h6 i hi
    obtain ⟨da, dc, rfl, k1, k2⟩ := bytes_shape h7
    exact ⟨b, off, h4, h5, h0, h1, h2, da, dc, h3, k1, k2, h7⟩
theorem AAt.got {w : World} {B : Nat} {a : Option Addr} {n cap : Nat} {l : List (Int × Int)} (h : AAt w B (.slice a n cap) l) (i : Nat) (hi : i < l.length) : ∃ b off, a = some ⟨b, off, none⟩ ∧ b < B ∧ (In64 l[i].1 ∧ In64 l[i].2) ∧
    w.cell? ⟨b, off + i * 2, none⟩ = some (.int .i64 l[i].1) ∧ w.cell? ⟨b, off + i * 2 + 1, none⟩ = some (.int .i64 l[i].2) := by
  obtain ⟨a', cap', e, _, _, h4⟩ := h
  cases e
  rcases h4 with h4 | ⟨b, off, h4, h5, h6⟩
  · subst h4; simp at hi
  · obtain ⟨h0, h1, h2⟩ := h6 i hi
    exact ⟨b, off, h4, h5, h0, h1, h2⟩
theorem PkAt.shape {w : World} {B : Nat} {v : Value} {p : Pk} (h : PkAt w B v p) : ∃ da dc, v = .agg #[.int .i64 p.frm, .int .i64 p.to, .slice da p.data.length dc] ∧ (In64 p.frm ∧ In64 p.to) ∧ p.data.length ≤ dc ∧ dc ≤ maxLen ∧ BytesAt w B (.slice da p.data.length dc) p.data := by
  obtain ⟨h0, u, h1, h2⟩ := h
  obtain ⟨da, dc, rfl, k1, k2⟩ := bytes_shape h2
  exact ⟨da, dc, h1, h0, k1, k2, h2⟩

/-! ### Links -/
structure Nt where
  q : List Pk
  ap : List (Int × Int)
def NtAt (w : World) (B : Nat) (v : Value) (n : Nt) : Prop := ∃ vq va, v = .agg #[vq, va] ∧ QAt w B vq n.q ∧ AAt w B va n.ap
theorem NtAt.below {w w' : World} {B : Nat} {v : Value} {n : Nt} (h : NtAt w B v n) (hb : Below B w w') : NtAt w' B v n := by
  obtain ⟨vq, va, h1, h2, h3⟩ := h; exact ⟨vq, va, h1, h2.below hb, h3.below hb⟩
theorem NtAt.mono {w : World} {B B' : Nat} {v : Value} {n : Nt} (h : NtAt w B v n) (hb : B ≤ B') : NtAt w B' v n := by
  obtain ⟨vq, va, h1, h2, h3⟩ := h; exact ⟨vq, va, h1, h2.mono hb, h3.mono hb⟩
theorem NtAt.next {w w' : World} {v : Value} {n : Nt} (h : NtAt w w.heap.size v n) (hb : Below w.heap.size w w') : NtAt w' w'.heap.size v n := (h.below hb).mono hb.size
theorem NtAt.open {w : World} {B : Nat} {v : Value} {n : Nt} (h : NtAt w B v n) : ∃ (qa : Option Addr) (qc : Nat) (aa : Option Addr) (ac : Nat), v = .agg #[.slice qa n.q.length qc, .slice aa n.ap.length ac] ∧
    n.q.length ≤ qc ∧ qc ≤ maxLen ∧ n.ap.length ≤ ac ∧ ac ≤ maxLen ∧ QAt w B (.slice qa n.q.length qc) n.q ∧ AAt w B (.slice aa n.ap.length ac) n.ap := by
  obtain ⟨vq, va, rfl, h2, h3⟩ := h
  obtain ⟨a, cap, e1, l1, l2, _⟩ := id h2
  obtain ⟨a', cap', e1', l1', l2', _⟩ := id h3
  subst e1; subst e1'
  exact ⟨a, cap, a', cap', rfl, l1, l2, l1', l2', h2, h3⟩
def Nt.zero : Nt := ⟨[], []⟩
theorem zero_at (w : World) (B : Nat) : NtAt w B (.agg #[.slice none 0 0, .slice none 0 0]) Nt.zero := ⟨_, _, rfl, q_nil _ _ _, a_nil _ _ _⟩

/-! ### What is valid -/
def okPair (a b : Int) : Bool := decide (a ≠ b ∧ 0 ≤ min a b ∧ max a b < 24)
def okPk (p : Pk) : Bool := okPair p.frm p.to && decide (p.data.length ≤ 1048576)
def okQ (l : List Pk) : Bool := decide (l.length ≤ 4096) && l.all okPk
def pairLt (a b : Int × Int) : Bool := decide (a.1 < b.1 ∨ (a.1 = b.1 ∧ a.2 < b.2))
def okOne (p : Int × Int) : Bool := okPair p.1 p.2 && decide (p.1 ≤ p.2)
/-- Pairs in increasing order, behind a pair. -/
def okFrom : Int × Int → List (Int × Int) → Bool
  | _, [] => true
  | q, p :: l => okOne p && pairLt q p && okFrom p l
def okA : List (Int × Int) → Bool
  | [] => true
  | p :: l => okOne p && okFrom p l
def Nt.ok (n : Nt) : Bool := okQ n.q && okA n.ap
end Go.Proofs.Ytjancbjjeemedaa
