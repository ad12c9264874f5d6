/- Arrays in blocks of their own, bytes in blocks, worlds that keep what lay. -/
import Derived.Test.YtnddejhbncgchaaDoorWord
import Derived.Deep.MidRow
import Derived.Deep.RegionHeld3
import Derived.Deep.Slices
namespace Go.Proofs.YtnddejhbncgchaaDoor
open Go.RowKit

def ws (l : List (BitVec 32)) : List Value := l.map fun x => .int .u32 x.toNat
def cells8 (l : List UInt8) : List Value := l.map fun c => .int .u8 c.toNat
theorem ws_len (l : List (BitVec 32)) : (ws l).length = l.length := by simp [ws]
theorem cells8_len (l : List UInt8) : (cells8 l).length = l.length := by simp [cells8]

/-- Nothing that lay in w1 has turned in W. -/
def Kept (w1 W : World) : Prop := Below w1.heap.size w1 W
theorem Kept.below {w1 W : World} (h : Kept w1 W) : Below w1.heap.size w1 W := h
theorem Kept.next {w1 W W' : World} (h : Kept w1 W) (k : Below W.heap.size W W') : Kept w1 W' := Below.trans h (k.mono h.size)
theorem Kept.refl (w1 : World) : Kept w1 w1 := Below.refl _ _
theorem Kept.drew {w1 W : World} (h : Kept w1 W) : Kept w1 W.drew := Below.drew h
theorem Kept.alloc {w1 W : World} (h : Kept w1 W) (o : Obj) : Kept w1 (W.alloc o) := Below.alloc h h.size o
theorem Kept.set {w1 W : World} (h : Kept w1 W) {p : Addr} (hp : w1.heap.size ≤ p.block) (u : Value) : Kept w1 (W.setCell p u) := Below.setCell h hp u
theorem below_drewN {B : Nat} {a w : World} (h : Below B a w) (q : Nat) : Below B a (w.drewN q) := ⟨h.os, h.tape, h.output, h.size, h.block⟩
theorem Kept.drewN {w1 W : World} (h : Kept w1 W) (q : Nat) : Kept w1 (W.drewN q) := below_drewN h q
theorem below_setCells {B b : Nat} {a : World} (hb : B ≤ b) : ∀ (vs : List Value) (o : Nat) (w : World), Below B a w → Below B a (w.setCells b o vs)
  | [], _, _, h => h
  | v :: r, o, w, h => by
    rw [World.setCells]
    exact below_setCells hb r (o + 1) _ (h.setCell (p := ⟨b, o, none⟩) hb v)

/-- Block b of W holds the cells cs, and they may be written. -/
structure Arr (W : World) (b : Nat) (cs : List Value) : Prop where
  at_ : W.rangeAt b 0 cs
  there : W.there b 0 cs.length
theorem Arr.cell {W : World} {b : Nat} {cs : List Value} (h : Arr W b cs) {i : Nat} {v : Value} (hv : cs[i]? = some v) : W.cell? ⟨b, i, none⟩ = some v := by simpa using h.at_ i v hv
theorem Arr.frozen {W : World} {b : Nat} {cs : List Value} (h : Arr W b cs) {i : Nat} (hi : i < cs.length) : W.frozen? ⟨b, i, none⟩ = false := by simpa using (h.there i hi).2
theorem Arr.below {W W' : World} {B b : Nat} {cs : List Value} (h : Arr W b cs) (hb : Below B W W') (hlt : b < B) : Arr W' b cs :=
  ⟨fun j v hv => (hb.cell (p := ⟨b, 0 + j, none⟩) hlt).trans (h.at_ j v hv), fun j hj => ⟨by rw [hb.cell (p := ⟨b, 0 + j, none⟩) hlt]; exact (h.there j hj).1, by rw [hb.frozen (p := ⟨b, 0 + j, none⟩) hlt]; exact (h.there j hj).2⟩⟩
theorem Arr.drewN {W : World} {b : Nat} {cs : List Value} (h : Arr W b cs) (q : Nat) : Arr (W.drewN q) b cs := ⟨h.at_, h.there⟩
theorem Arr.drew {W : World} {b : Nat} {cs : List Value} (h : Arr W b cs) : Arr W.drew b cs := ⟨h.at_, h.there⟩
theorem Arr.new (W : World) (C : Array Value) (t : TypeId) : Arr (W.alloc (.cells C t)) W.heap.size C.toList := by
  have hc : ∀ i v, C.toList[i]? = some v → (W.alloc (.cells C t)).cell? ⟨W.heap.size, i, none⟩ = some v := fun i v hv => by
    rw [World.cell?_alloc_new]; simpa using hv
  refine ⟨fun j v hv => by simpa using hc j v hv, fun j hj => ⟨?_, ?_⟩⟩
  · rw [Nat.zero_add, hc j _ (List.getElem?_eq_getElem hj)]; rfl
  · rw [Nat.zero_add, World.frozen?_alloc_new]
theorem Arr.alloc {W : World} {b : Nat} {cs : List Value} (h : Arr W b cs) (hlt : b < W.heap.size) (o : Obj) : Arr (W.alloc o) b cs := h.below ((Below.refl W.heap.size W).alloc (Nat.le_refl _) o) hlt
theorem Arr.set {W : World} {b : Nat} {cs : List Value} (h : Arr W b cs) (i : Nat) (v : Value) : Arr (W.setCell ⟨b, i, none⟩ v) b (cs.set i v) := by
  refine ⟨fun j u hu => ?_, fun j hj => ?_⟩
  · rw [Nat.zero_add]
    by_cases e : j = i
    · subst e
      rw [List.getElem?_set] at hu
      simp at hu
      obtain ⟨hj, rfl⟩ := hu
      exact World.cell?_setCell_same _ _ _ (h.cell (List.getElem?_eq_getElem hj))
    · rw [World.cell?_setCell_other _ _ _ _ (fun h => by injection h; first | exact e (by assumption) | exact e (by symm; assumption))]
      rw [List.getElem?_set_ne (fun h => e h.symm)] at hu
      exact h.cell hu
  · rw [List.length_set] at hj
    refine ⟨?_, by rw [World.frozen?_setCell]; exact (h.there j hj).2⟩
    obtain ⟨u, hu⟩ := Option.isSome_iff_exists.1 (h.there j hj).1
    obtain ⟨u', hu'⟩ := cell?_setCell_some (p := ⟨b, i, none⟩) (x := v) hu
    rw [hu']; rfl
theorem Arr.other {W : World} {b b' : Nat} {cs : List Value} (h : Arr W b cs) (hne : b ≠ b') (i : Nat) (v : Value) : Arr (W.setCell ⟨b', i, none⟩ v) b cs := by
  refine ⟨fun j u hu => ?_, fun j hj => ⟨?_, by rw [World.frozen?_setCell]; exact (h.there j hj).2⟩⟩
  · rw [World.cell?_setCell_other _ _ _ _ (fun h => by injection h; first | exact hne (by assumption) | exact hne (by symm; assumption))]; exact h.at_ j u hu
  · rw [World.cell?_setCell_other _ _ _ _ (fun h => by injection h; first | exact hne (by assumption) | exact hne (by symm; assumption))]; exact (h.there j hj).1
theorem Arr.lt {W : World} {b : Nat} {cs : List Value} (h : Arr W b cs) (hl : 0 < cs.length) : b < W.heap.size := by
  obtain ⟨u, hu⟩ := Option.isSome_iff_exists.1 (h.there 0 hl).1
  exact World.block_lt_of_cell? W _ hu
theorem Arr.stored {W : World} {b : Nat} {cs cs' : List Value} (h : Arr W b cs) (hl : cs'.length = cs.length) : Arr (W.setCells b 0 cs') b cs' :=
  ⟨World.rangeAt_setCells_same W b 0 cs' (by rw [hl]; exact h.there), World.there_setCells (by rw [hl]; exact h.there) b 0 cs'⟩
theorem one_ws (l : List (BitVec 32)) : ∀ v ∈ ws l, v.oneCell' = true := by intro v hv; obtain ⟨x, _, rfl⟩ := List.mem_map.1 hv; rfl
theorem one_cells8 (l : List UInt8) : ∀ v ∈ cells8 l, v.oneCell' = true := by intro v hv; obtain ⟨x, _, rfl⟩ := List.mem_map.1 hv; rfl

theorem Tryd.info69 : (Tryd.prog.info? 69).map (·.size) = some 64 := by kernel_rfl
theorem Tryd.info26 : (Tryd.prog.info? 26).map (·.size) = some 32 := by kernel_rfl
end Go.Proofs.YtnddejhbncgchaaDoor
