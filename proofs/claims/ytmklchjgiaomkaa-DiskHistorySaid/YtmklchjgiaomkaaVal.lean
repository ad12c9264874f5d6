/- Disks as plain data, and what it means that a value of the program reads as one in a world. No conditions. -/
import Derived.Test.YtmklchjgiaomkaaRows
import Derived.WalkKit
import Derived.ProofKit
import Derived.Deep.Slices
import Derived.Deep.MidRow
import Derived.Deep.RegionHeld3
import Derived.Deep.AppendLies
import Derived.Lib.SmallJoins
import Derived.Lib.Hide
import Derived.Handy
import Derived.WalkSpells
import Derived.WalkLawsBesides
import Derived.Laws.MakeOwn
namespace Go.Proofs.Ytmklchjgiaomkaa
open Go.RowKit

theorem ret_int {k : IntKind} {a b : Int} (h : a = b) : Ending.returned (.int k a) = .returned (.int k b) := by rw [h]
theorem ret_bool {a b : Bool} (h : a = b) : Ending.returned (.bool a) = .returned (.bool b) := by rw [h]
theorem gtrans {a b c : World} {row : Option Nat} (h : a.grownBy b row) (k : b.grownBy c row) : a.grownBy c row :=
  ⟨k.os.trans h.os, k.tape.trans h.tape, k.output.trans h.output, Nat.le_trans h.size k.size, fun i hi hne => (k.block i (Nat.lt_of_lt_of_le hi h.size) hne).trans (h.block i hi hne)⟩
theorem gbelow {a b : World} {row : Option Nat} (h : Below a.heap.size a b) : a.grownBy b row := ⟨h.os, h.tape, h.output, h.size, fun i hi _ => h.block i hi⟩
theorem belowg {a b : World} {g B : Nat} (h : a.grownBy b (some g)) (hB : B ≤ a.heap.size) (hg : B ≤ g) : Below B a b :=
  ⟨h.os, h.tape, h.output, h.size, fun i hi => h.block i (by omega) (by simp; omega)⟩
theorem below_grow {B : Nat} {w W W' : World} {row : Option Nat} (h : Below B w W) (hg : W.grownBy W' row) (hr : ∀ k, row = some k → B ≤ k) (hB : B ≤ W.heap.size) : Below B w W' :=
  ⟨hg.os.trans h.os, hg.tape.trans h.tape, hg.output.trans h.output, Nat.le_trans h.size hg.size, fun i hi => (hg.block i (by omega) (fun e => by have := hr i e.symm; omega)).trans (h.block i hi)⟩

/-- Nothing that lay in w1 has turned in W. -/
def Kept (w1 W : World) : Prop := Below w1.heap.size w1 W
theorem Kept.below {w1 W : World} (h : Kept w1 W) : Below w1.heap.size w1 W := h
theorem Kept.next {w1 W W' : World} (h : Kept w1 W) (k : Below W.heap.size W W') : Kept w1 W' := Below.trans h (k.mono h.size)
theorem Kept.refl (w1 : World) : Kept w1 w1 := Below.refl _ _
theorem Kept.drew {w1 W : World} (h : Kept w1 W) : Kept w1 W.drew := Below.drew h
theorem Kept.alloc {w1 W : World} (h : Kept w1 W) (o : Obj) : Kept w1 (W.alloc o) := Below.alloc h h.size o
theorem Kept.set {w1 W : World} (h : Kept w1 W) {p : Addr} (hp : w1.heap.size ≤ p.block) (u : Value) : Kept w1 (W.setCell p u) := Below.setCell h hp u
theorem below_drewN {B : Nat} {a w : World} (h : Below B a w) (q : Nat) : Below B a (w.drewN q) := ⟨h.os, h.tape, h.output, h.size, h.block⟩
theorem Kept.drewN {w1 W : World} (h : Kept w1 W) (q : Nat) : Kept w1 (W.drewN q) := below_drewN h q
theorem Kept.cell {w1 W : World} (h : Kept w1 W) {b i : Nat} (hb : b < w1.heap.size) : W.cell? ⟨b, i, none⟩ = w1.cell? ⟨b, i, none⟩ := h.below.cell (p := ⟨b, i, none⟩) hb
theorem Kept.frozen {w1 W : World} (h : Kept w1 W) {b i : Nat} (hb : b < w1.heap.size) : W.frozen? ⟨b, i, none⟩ = w1.frozen? ⟨b, i, none⟩ := h.below.frozen (p := ⟨b, i, none⟩) hb
theorem below_setCells {B b : Nat} {a : World} (hb : B ≤ b) : ∀ (vs : List Value) (o : Nat) (w : World), Below B a w → Below B a (w.setCells b o vs)
  | [], _, _, h => h
  | v :: r, o, w, h => by
    rw [World.setCells]
    exact below_setCells hb r (o + 1) _ (h.setCell (p := ⟨b, o, none⟩) hb v)

def cells8 (l : List UInt8) : List Value := l.map fun c => .int .u8 c.toNat
theorem cells8_len (l : List UInt8) : (cells8 l).length = l.length := by simp [cells8]
theorem cells8_rep (m : Nat) : cells8 (List.replicate m 0) = List.replicate m (.int .u8 0) := by rw [cells8, List.map_replicate]; rfl
theorem cells8_app (a b : List UInt8) : cells8 (a ++ b) = cells8 a ++ cells8 b := by simp [cells8]
theorem cells8_set (l : List UInt8) (i : Nat) (c : UInt8) : cells8 (l.set i c) = (cells8 l).set i (.int .u8 c.toNat) := by simp [cells8, List.map_set]
theorem one_cells8 (l : List UInt8) : ∀ v ∈ cells8 l, v.oneCell' = true := by intro v hv; obtain ⟨x, _, rfl⟩ := List.mem_map.1 hv; rfl

/-- Block b of W holds the cells cs, and they may be written. -/
structure Arr (W : World) (b : Nat) (cs : List Value) : Prop where
  at_ : W.rangeAt b 0 cs
  there : W.there b 0 cs.length
theorem Arr.cell {W : World} {b : Nat} {cs : List Value} (h : Arr W b cs) {i : Nat} {v : Value} (hv : cs[i]? = some v) : W.cell? ⟨b, i, none⟩ = some v := by simpa using h.at_ i v hv
theorem Arr.frozen {W : World} {b : Nat} {cs : List Value} (h : Arr W b cs) {i : Nat} (hi : i < cs.length) : W.frozen? ⟨b, i, none⟩ = false := by simpa using (h.there i hi).2
theorem Arr.below {W W' : World} {B b : Nat} {cs : List Value} (h : Arr W b cs) (hb : Below B W W') (hlt : b < B) : Arr W' b cs :=
  ⟨fun j v hv => (hb.cell (p := ⟨b, 0 + j, none⟩) hlt).trans (h.at_ j v hv), fun j hj => ⟨by rw [hb.cell (p := ⟨b, 0 + j, none⟩) hlt]; exact (h.there j hj).1, by rw [hb.frozen (p := ⟨b, 0 + j, none⟩) hlt]; exact (h.there j hj).2⟩⟩
theorem Arr.new (W : World) (C : Array Value) (t : TypeId) : Arr (W.alloc (.cells C t)) W.heap.size C.toList := by
  have hc : ∀ i v, C.toList[i]? = some v → (W.alloc (.cells C t)).cell? ⟨W.heap.size, i, none⟩ = some v := fun i v hv => by
    rw [World.cell?_alloc_new]; simpa using hv
  refine ⟨fun j v hv => by simpa using hc j v hv, fun j hj => ⟨?_, ?_⟩⟩
  · rw [Nat.zero_add, hc j _ (List.getElem?_eq_getElem hj)]; rfl
  · rw [Nat.zero_add, World.frozen?_alloc_new]
theorem Arr.alloc {W : World} {b : Nat} {cs : List Value} (h : Arr W b cs) (hlt : b < W.heap.size) (o : Obj) : Arr (W.alloc o) b cs := h.below ((Below.refl W.heap.size W).alloc (Nat.le_refl _) o) hlt
theorem Arr.set {W : World} {b : Nat} {cs : List Value} (h : Arr W b cs) (i : Nat) (v : Value) : Arr (W.setCell ⟨b, i, none⟩ v) b (cs.set i v) := by
  refine ⟨fun j u hu => ?_, fun j hj => ?_⟩
  · rw [Nat.zero_add]
    by_cases e : j = i
    · subst e
      rw [List.getElem?_set] at hu
      simp at hu
      obtain ⟨hj, rfl⟩ := hu
      exact World.cell?_setCell_same _ _ _ (h.cell (List.getElem?_eq_getElem hj))
    · rw [World.cell?_setCell_other _ _ _ _ (fun h => by injection h; first | exact e (by assumption) | exact e (by symm; assumption))]
      rw [List.getElem?_set_ne (fun h => e h.symm)] at hu
      exact h.cell hu
  · rw [List.length_set] at hj
    refine ⟨?_, by rw [World.frozen?_setCell]; exact (h.there j hj).2⟩
    obtain ⟨u, hu⟩ := Option.isSome_iff_exists.1 (h.there j hj).1
    obtain ⟨u', hu'⟩ := cell?_setCell_some (p := ⟨b, i, none⟩) (x := v) hu
    rw [hu']; rfl
theorem Arr.other {W : World} {b b' : Nat} {cs : List Value} (h : Arr W b cs) (hne : b ≠ b') (i : Nat) (v : Value) : Arr (W.setCell ⟨b', i, none⟩ v) b cs := by
  refine ⟨fun j u hu => ?_, fun j hj => ⟨?_, by rw [World.frozen?_setCell]; exact (h.there j hj).2⟩⟩
  · rw [World.cell?_setCell_other _ _ _ _ (fun h => by injection h; first | exact hne (by assumption) | exact hne (by symm; assumption))]; exact h.at_ j u hu
  · rw [World.cell?_setCell_other _ _ _ _ (fun h => by injection h; first | exact hne (by assumption) | exact hne (by symm; assumption))]; exact (h.there j hj).1
theorem Arr.lt {W : World} {b : Nat} {cs : List Value} (h : Arr W b cs) (hl : 0 < cs.length) : b < W.heap.size := by
  obtain ⟨u, hu⟩ := Option.isSome_iff_exists.1 (h.there 0 hl).1
  exact World.block_lt_of_cell? W _ hu
theorem Arr.drew {W : World} {b : Nat} {cs : List Value} (h : Arr W b cs) : Arr W.drew b cs := ⟨h.at_, h.there⟩
/-- The first cells of a row are written anew. -/
theorem Arr.over {W : World} {g : Nat} {cs l : List Value} (h : Arr W g cs) (hl : l.length ≤ cs.length) : Arr (W.setCells g 0 l) g (l ++ cs.drop l.length) := by
  have hs : ∀ j, j < l.length → (W.cell? ⟨g, 0 + j, none⟩).isSome = true := fun j hj => (h.there j (by omega)).1
  refine ⟨fun j v hv => ?_, fun j hj => ⟨?_, ?_⟩⟩
  · by_cases hj : j < l.length
    · rw [World.cell?_setCells_in g l 0 W hs j hj]
      rw [List.getElem?_append_left hj, List.getElem?_eq_getElem hj] at hv; exact hv
    · rw [World.cell?_setCells_out g l 0 W _ (fun _ _ => .inr (by simp; omega))]
      rw [List.getElem?_append_right (by omega), List.getElem?_drop] at hv
      exact h.at_ j v (by rw [← hv]; congr 1; omega)
  · by_cases hjl : j < l.length
    · rw [World.cell?_setCells_in g l 0 W hs j hjl]; rfl
    · rw [World.cell?_setCells_out g l 0 W _ (fun _ _ => .inr (by simp; omega))]
      exact (h.there j (by rw [List.length_append, List.length_drop] at hj; omega)).1
  · rw [World.frozen?_setCells]
    exact (h.there j (by rw [List.length_append, List.length_drop] at hj; omega)).2

def BytesIn (W : World) (db off : Nat) (l : List UInt8) : Prop := ∀ i (h : i < l.length), W.cell? ⟨db, off + i, none⟩ = some (.int .u8 l[i].toNat)
theorem BytesIn.below {W W' : World} {B db off : Nat} {l : List UInt8} (h : BytesIn W db off l) (hb : Below B W W') (hlt : db < B) : BytesIn W' db off l :=
  fun i hi => (hb.cell (p := ⟨db, off + i, none⟩) hlt).trans (h i hi)
theorem bytes_news {w : World} {db off : Nat} {l : List UInt8} (h : BytesIn w db off l) : ∀ j u, (cells8 l)[j]? = some u → w.cell? ((⟨db, off, none⟩ : Addr).add j) = some u := fun j u hu => by
  have hj : j < l.length := by have := (List.getElem?_eq_some_iff.1 hu).1; simpa [cells8] using this
  rw [show (⟨db, off, none⟩ : Addr).add j = ⟨db, off + j, none⟩ from Addr.add_mid db off j, h j hj, ← hu]
  simp [cells8, List.getElem?_eq_getElem hj]
theorem Arr.bytes {W : World} {g : Nat} {l : List UInt8} (h : Arr W g (cells8 l)) : BytesIn W g 0 l := fun i hi => by
  rw [Nat.zero_add, h.cell (i := i) (v := .int .u8 l[i].toNat) (by simp [cells8, List.getElem?_eq_getElem hi])]

/-- Bytes in a slice, in memory below B. -/
def BytesAt (w : World) (B : Nat) (v : Value) (bs : List UInt8) : Prop :=
  ∃ a cap, v = .slice a bs.length cap ∧ bs.length ≤ cap ∧ cap ≤ maxLen ∧ (bs = [] ∨ ∃ db off, a = some ⟨db, off, none⟩ ∧ db < B ∧ BytesIn w db off bs)
theorem BytesAt.below {w w' : World} {B : Nat} {v : Value} {bs : List UInt8} (h : BytesAt w B v bs) (hb : Below B w w') : BytesAt w' B v bs := by
  obtain ⟨a, cap, h1, h2, h3, h4⟩ := h
  refine ⟨a, cap, h1, h2, h3, ?_⟩
  rcases h4 with h4 | ⟨db, off, h4, h5, h6⟩
  · exact .inl h4
  · exact .inr ⟨db, off, h4, h5, h6.below hb h5⟩
theorem BytesAt.mono {w : World} {B B' : Nat} {v : Value} {bs : List UInt8} (h : BytesAt w B v bs) (hb : B ≤ B') : BytesAt w B' v bs := by
  obtain ⟨a, cap, h1, h2, h3, h4⟩ := h
  refine ⟨a, cap, h1, h2, h3, ?_⟩
  rcases h4 with h4 | ⟨db, off, h4, h5, h6⟩
  · exact .inl h4
  · exact .inr ⟨db, off, h4, by omega, h6⟩
theorem BytesAt.next {w w' : World} {B : Nat} {v : Value} {bs : List UInt8} (h : BytesAt w B v bs) (hb : Below B w w') (hB : B ≤ w'.heap.size) : BytesAt w' w'.heap.size v bs := (h.below hb).mono hB
theorem bytes_nil (w : World) (B : Nat) (a : Option Addr) : BytesAt w B (.slice a 0 0) [] := ⟨a, 0, rfl, by simp, by unfold maxLen; omega, .inl rfl⟩
theorem Arr.bytesAt {W : World} {g : Nat} {l : List UInt8} (h : Arr W g (cells8 l)) {B cap n : Nat} (hn : l.length = n) (hb : g < B) (hc : n ≤ cap) (hm : cap ≤ maxLen) : BytesAt W B (.slice (some ⟨g, 0, none⟩) n cap) l := by
  subst hn; exact ⟨_, cap, rfl, hc, hm, .inr ⟨g, 0, rfl, hb, h.bytes⟩⟩

/-! ### Sectors and writes -/
abbrev By := List UInt8
def In64 (k : Int) : Prop := -9223372036854775808 ≤ k ∧ k ≤ 9223372036854775807

def SecIn (w : World) (B b off : Nat) (l : List By) : Prop := ∀ i (h : i < l.length), ∃ u, w.cell? ⟨b, off + i, none⟩ = some u ∧ BytesAt w B u l[i]
def SecAt (w : World) (B : Nat) (v : Value) (l : List By) : Prop :=
  ∃ a cap, v = .slice a l.length cap ∧ l.length ≤ cap ∧ cap ≤ maxLen ∧ (l = [] ∨ ∃ b off, a = some ⟨b, off, none⟩ ∧ b < B ∧ SecIn w B b off l)
def PenIn (w : World) (B b off : Nat) (l : List (Int × By)) : Prop := ∀ i (h : i < l.length), In64 l[i].1 ∧ w.cell? ⟨b, off + i * 2, none⟩ = some (.int .i64 l[i].1) ∧ ∃ u, w.cell? ⟨b, off + i * 2 + 1, none⟩ = some u ∧ BytesAt w B u l[i].2
def PenAt (w : World) (B : Nat) (v : Value) (l : List (Int × By)) : Prop :=
  ∃ a cap, v = .slice a l.length cap ∧ l.length ≤ cap ∧ cap ≤ maxLen ∧ (l = [] ∨ ∃ b off, a = some ⟨b, off, none⟩ ∧ b < B ∧ PenIn w B b off l)

theorem SecIn.below {w w' : World} {B b off : Nat} {l : List By} (h : SecIn w B b off l) (hb : Below B w w') (hlt : b < B) : SecIn w' B b off l := fun i hi => by
  obtain ⟨u, h1, h2⟩ := h i hi
  exact ⟨u, (hb.cell (p := ⟨b, off + i, none⟩) hlt).trans h1, h2.below hb⟩
theorem SecIn.mono {w : World} {B B' b off : Nat} {l : List By} (h : SecIn w B b off l) (hb : B ≤ B') : SecIn w B' b off l := fun i hi => by
  obtain ⟨u, h1, h2⟩ := h i hi
  exact ⟨u, h1, h2.mono hb⟩
theorem PenIn.below {w w' : World} {B b off : Nat} {l : List (Int × By)} (h : PenIn w B b off l) (hb : Below B w w') (hlt : b < B) : PenIn w' B b off l := fun i hi => by
  obtain ⟨h0, h1, u, h2, h3⟩ := h i hi
  exact ⟨h0, (hb.cell (p := ⟨b, off + i * 2, none⟩) hlt).trans h1, u, (hb.cell (p := ⟨b, off + i * 2 + 1, none⟩) hlt).trans h2, h3.below hb⟩
theorem PenIn.mono {w : World} {B B' b off : Nat} {l : List (Int × By)} (h : PenIn w B b off l) (hb : B ≤ B') : PenIn w B' b off l := fun i hi => by
  obtain ⟨h0, h1, u, h2, h3⟩ := h i hi
  exact ⟨h0, h1, u, h2, h3.mono hb⟩
theorem SecAt.below {w w' : World} {B : Nat} {v : Value} {l : List By} (h : SecAt w B v l) (hb : Below B w w') : SecAt w' B v l := by
  obtain ⟨a, cap, h1, h2, h3, h4⟩ := h
  refine ⟨a, cap, h1, h2, h3, ?_⟩
  rcases h4 with h4 | ⟨db, off, h4, h5, h6⟩
  · exact .inl h4
  · exact .inr ⟨db, off, h4, h5, h6.below hb h5⟩
theorem SecAt.mono {w : World} {B B' : Nat} {v : Value} {l : List By} (h : SecAt w B v l) (hb : B ≤ B') : SecAt w B' v l := by
  obtain ⟨a, cap, h1, h2, h3, h4⟩ := h
  refine ⟨a, cap, h1, h2, h3, ?_⟩
  rcases h4 with h4 | ⟨db, off, h4, h5, h6⟩
  · exact .inl h4
  · exact .inr ⟨db, off, h4, by omega, h6.mono hb⟩
theorem PenAt.below {w w' : World} {B : Nat} {v : Value} {l : List (Int × By)} (h : PenAt w B v l) (hb : Below B w w') : PenAt w' B v l := by
  obtain ⟨a, cap, h1, h2, h3, h4⟩ := h
  refine ⟨a, cap, h1, h2, h3, ?_⟩
  rcases h4 with h4 | ⟨db, off, h4, h5, h6⟩
  · exact .inl h4
  · exact .inr ⟨db, off, h4, h5, h6.below hb h5⟩
theorem PenAt.mono {w : World} {B B' : Nat} {v : Value} {l : List (Int × By)} (h : PenAt w B v l) (hb : B ≤ B') : PenAt w B' v l := by
  obtain ⟨a, cap, h1, h2, h3, h4⟩ := h
  refine ⟨a, cap, h1, h2, h3, ?_⟩
  rcases h4 with h4 | ⟨db, off, h4, h5, h6⟩
  · exact .inl h4
  · exact .inr ⟨db, off, h4, by omega, h6.mono hb⟩
theorem sec_nil (w : World) (B : Nat) (a : Option Addr) : SecAt w B (.slice a 0 0) [] := ⟨a, 0, rfl, by simp, by unfold maxLen; omega, .inl rfl⟩
theorem pen_nil (w : World) (B : Nat) (a : Option Addr) : PenAt w B (.slice a 0 0) [] := ⟨a, 0, rfl, by simp, by unfold maxLen; omega, .inl rfl⟩

/-! ### Disks -/
structure Dk where
  sec : List By
  pen : List (Int × By)
  left : Int
  stop : Bool

def DkAt (w : World) (B : Nat) (v : Value) (d : Dk) : Prop :=
  In64 d.left ∧ ∃ vs vp, v = .agg #[vs, vp, .int .i64 d.left, .bool d.stop] ∧ SecAt w B vs d.sec ∧ PenAt w B vp d.pen
theorem DkAt.below {w w' : World} {B : Nat} {v : Value} {d : Dk} (h : DkAt w B v d) (hb : Below B w w') : DkAt w' B v d := by
  obtain ⟨h0, vs, vp, h1, h2, h3⟩ := h
  exact ⟨h0, vs, vp, h1, h2.below hb, h3.below hb⟩
theorem DkAt.mono {w : World} {B B' : Nat} {v : Value} {d : Dk} (h : DkAt w B v d) (hb : B ≤ B') : DkAt w B' v d := by
  obtain ⟨h0, vs, vp, h1, h2, h3⟩ := h
  exact ⟨h0, vs, vp, h1, h2.mono hb, h3.mono hb⟩
theorem DkAt.next {w w' : World} {v : Value} {d : Dk} (h : DkAt w w.heap.size v d) (hb : Below w.heap.size w w') : DkAt w' w'.heap.size v d := (h.below hb).mono hb.size
theorem SecAt.next {w w' : World} {v : Value} {d : List By} (h : SecAt w w.heap.size v d) (hb : Below w.heap.size w w') : SecAt w' w'.heap.size v d := (h.below hb).mono hb.size
theorem PenAt.next {w w' : World} {v : Value} {d : List (Int × By)} (h : PenAt w w.heap.size v d) (hb : Below w.heap.size w w') : PenAt w' w'.heap.size v d := (h.below hb).mono hb.size
theorem BytesAt.nxt {w w' : World} {v : Value} {d : By} (h : BytesAt w w.heap.size v d) (hb : Below w.heap.size w w') : BytesAt w' w'.heap.size v d := (h.below hb).mono hb.size

/-- The shape of a disk, with its parts. -/
theorem DkAt.open {w : World} {B : Nat} {v : Value} {d : Dk} (h : DkAt w B v d) : ∃ (sa : Option Addr) (cs : Nat) (ap : Option Addr) (cp : Nat), v = .agg #[.slice sa d.sec.length cs, .slice ap d.pen.length cp, .int .i64 d.left, .bool d.stop] ∧ In64 d.left ∧
    d.sec.length ≤ cs ∧ cs ≤ maxLen ∧ d.pen.length ≤ cp ∧ cp ≤ maxLen ∧ SecAt w B (.slice sa d.sec.length cs) d.sec ∧ PenAt w B (.slice ap d.pen.length cp) d.pen := by
  obtain ⟨h0, vs, vp, rfl, h2, h3⟩ := h
  obtain ⟨a, cap, e1, l1, l2, _⟩ := id h2
  obtain ⟨a', cap', e1', l1', l2', _⟩ := id h3
  subst e1; subst e1'
  exact ⟨a, cap, a', cap', rfl, h0, l1, l2, l1', l2', h2, h3⟩

def Dk.zero : Dk := ⟨[], [], 0, false⟩
theorem zero_at (w : World) (B : Nat) : DkAt w B (.agg #[.slice none 0 0, .slice none 0 0, .int .i64 0, .bool false]) Dk.zero := ⟨⟨by decide, by decide⟩, _, _, rfl, sec_nil _ _ _, pen_nil _ _ _⟩

def okSec (l : List By) : Bool := l.all fun s => decide (s.length = 128)
def okPen (n : Nat) (l : List (Int × By)) : Bool := l.all fun x => decide (0 ≤ x.1 ∧ x.1 < n ∧ x.2.length = 128)
def Dk.ok (d : Dk) : Bool := decide (1 ≤ d.sec.length ∧ d.sec.length ≤ 4096 ∧ d.pen.length ≤ 4096) && (okSec d.sec && (okPen d.sec.length d.pen && decide (-1 ≤ d.left ∧ d.left ≤ 65536)))
def Dk.runs (d : Dk) : Bool := d.ok && !d.stop
def Dk.has (d : Dk) (at_ : Int) : Bool := decide (0 ≤ at_ ∧ at_ < d.sec.length)
def pad (b : By) : By := b ++ List.replicate (128 - b.length) 0
theorem pad_len {b : By} (h : b.length ≤ 128) : (pad b).length = 128 := by simp [pad]; omega
def curOf (at_ : Int) (l : List (Int × By)) (z : By) : By := l.foldl (fun r x => if x.1 = at_ then x.2 else r) z
def Dk.cur (d : Dk) (at_ : Int) : By := curOf at_ d.pen (d.sec.getD at_.toNat [])
def Dk.read (d : Dk) (at_ : Int) : By × Int := if d.runs && d.has at_ then (d.cur at_, 0) else ([], 40)
def Dk.write (d : Dk) (at_ : Int) (b : By) : Dk × Int :=
  if d.runs && d.has at_ then (if 128 < b.length then (Dk.zero, 1) else if d.pen.length = 4096 then (Dk.zero, 2) else ({ d with pen := d.pen ++ [(at_, pad b)] }, 0)) else (Dk.zero, 40)
def perf (s : List By) (l : List (Int × By)) : List By := l.foldl (fun s x => s.set x.1.toNat x.2) s
theorem perf_len (l : List (Int × By)) : ∀ s, (perf s l).length = s.length := by
  unfold perf
  induction l with
  | nil => intro s; rfl
  | cons x l ih => intro s; rw [List.foldl_cons, ih, List.length_set]
def tear (old new : By) : By := new.take 64 ++ old.drop 64
def Dk.stops (d : Dk) : Bool := decide (0 ≤ d.left ∧ d.left < d.pen.length)
def Dk.at_ (d : Dk) : Int × By := d.pen.getD d.left.toNat (0, [])
def Dk.done (d : Dk) : List By := perf d.sec (d.pen.take d.left.toNat)
def Dk.sync (d : Dk) : Dk × Int :=
  if d.runs then (if d.stops then (⟨d.done.set d.at_.1.toNat (tear (d.done.getD d.at_.1.toNat []) d.at_.2), [], 0, true⟩, 40)
    else (⟨perf d.sec d.pen, [], if d.left < 0 then d.left else d.left - d.pen.length, false⟩, 0)) else (Dk.zero, 40)
def Dk.halt (d : Dk) (left : Int) : Dk × Int := if d.runs then (if left < 0 ∨ 65536 < left then (Dk.zero, 1) else ({ d with left := left }, 0)) else (Dk.zero, 40)
def Dk.restart (d : Dk) : Dk := ⟨d.sec, [], -1, false⟩
def Dk.new (n : Int) : Dk × Int := if n < 1 ∨ 4096 < n then (Dk.zero, 1) else (⟨List.replicate n.toNat (List.replicate 128 0), [], -1, false⟩, 0)
def Dk.same (a b : Dk) : Bool := decide (a.sec.length = b.sec.length) && (decide (a.pen.length = b.pen.length) && (decide (a.left = b.left) && (decide (a.stop = b.stop) && (decide (a.sec = b.sec) && decide (a.pen = b.pen)))))
theorem Dk.same_refl (a : Dk) : a.same a = true := by simp [Dk.same]

theorem ok_iff (d : Dk) : d.ok = true ↔ (1 ≤ d.sec.length ∧ d.sec.length ≤ 4096 ∧ d.pen.length ≤ 4096) ∧ okSec d.sec = true ∧ okPen d.sec.length d.pen = true ∧ -1 ≤ d.left ∧ d.left ≤ 65536 := by
  unfold Dk.ok; simp only [Bool.and_eq_true, decide_eq_true_eq]
theorem okSec_cons (s : By) (l : List By) : okSec (s :: l) = (decide (s.length = 128) && okSec l) := rfl
theorem okPen_cons (n : Nat) (x : Int × By) (l : List (Int × By)) : okPen n (x :: l) = (decide (0 ≤ x.1 ∧ x.1 < n ∧ x.2.length = 128) && okPen n l) := rfl
theorem okSec_get {l : List By} (h : okSec l = true) : ∀ s ∈ l, s.length = 128 := by
  unfold okSec at h; rw [List.all_eq_true] at h; intro s hs; simpa using h s hs
theorem okPen_get {n : Nat} {l : List (Int × By)} (h : okPen n l = true) : ∀ x ∈ l, 0 ≤ x.1 ∧ x.1 < n ∧ x.2.length = 128 := by
  unfold okPen at h; rw [List.all_eq_true] at h; intro s hs; simpa using h s hs

end Go.Proofs.Ytmklchjgiaomkaa
