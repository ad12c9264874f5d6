/- What the loops of DiskHistory keep. -/
import Derived.Test.YtmklchjgiaomkaaApn
namespace Go.Proofs.Ytmklchjgiaomkaa
open Go.RowKit

/-- Four bytes in a block of their own. -/
structure Ar4 (W : World) (b : Nat) (L : List UInt8) : Prop where
  len : L.length = 4
  arr : Arr W b (cells8 L)
  top : ∀ i, 4 ≤ i → W.cell? ⟨b, i, none⟩ = none
theorem Ar4.lt {W : World} {b : Nat} {L : List UInt8} (h : Ar4 W b L) : b < W.heap.size := h.arr.lt (by rw [cells8_len, h.len]; omega)
theorem Ar4.alien {W : World} {b : Nat} {L : List UInt8} (h : Ar4 W b L) : Alien W b := by
  refine ⟨fun i v hv => ?_, fun off => ?_⟩
  · by_cases hi : 4 ≤ i
    · rw [h.top i hi] at hv; cases hv
    · have hl : i < (cells8 L).length := by rw [cells8_len, h.len]; omega
      rw [h.arr.cell (List.getElem?_eq_getElem hl)] at hv
      injection hv with hv
      obtain ⟨x, _, hx⟩ := List.mem_map.1 (show (cells8 L)[i] ∈ cells8 L from List.getElem_mem hl)
      rw [← hx] at hv
      subst hv
      exact ⟨fun _ _ _ h => (by cases h), fun _ h => (by cases h)⟩
  · exact ⟨4, by omega, fun x hx => by rw [h.top _ (by omega)] at hx; cases hx⟩
theorem Ar4.kept {W W' : World} {b : Nat} {L : List UInt8} (h : Ar4 W b L) {r : Option Nat} (hG : W.grownBy W' r) (hne : some b ≠ r) : Ar4 W' b L :=
  ⟨h.len, h.arr.moved hG h.lt hne, fun i hi => (World.cell?_of_block (a := ⟨b, i, none⟩) (hG.block b h.lt hne)).trans (h.top i hi)⟩
theorem Ar4.set {W : World} {b : Nat} {L : List UInt8} (h : Ar4 W b L) {i : Nat} (hi : i < 4) (c : UInt8) : Ar4 (W.setCell ⟨b, i, none⟩ (.int .u8 c.toNat)) b (L.set i c) :=
  ⟨by rw [List.length_set]; exact h.len, by rw [cells8_set]; exact h.arr.set i _, fun j hj => by rw [World.cell?_setCell_other _ _ _ _ (fun h => by injection h; omega)]; exact h.top j hj⟩
theorem Ar4.new (w : World) : Ar4 (w.alloc (.cells #[.int .u8 0, .int .u8 0, .int .u8 0, .int .u8 0] 44)) w.heap.size [0, 0, 0, 0] :=
  ⟨rfl, Arr.new w #[.int .u8 0, .int .u8 0, .int .u8 0, .int .u8 0] 44, fun i hi => by rw [World.cell?_alloc_new]; simp; omega⟩
theorem BoxAt.aside {w W : World} {b b' : Nat} {D : Dk} (h : BoxAt w b D) (ha : Alien w b') (hne : b ≠ b') (hG : w.grownBy W (some b')) (hF : D.wide) : BoxAt W b D := by
  obtain ⟨_, _, _, _, _, _, _, _, h⟩ := h
  exact ⟨_, _, _, _, _, _, _, _, Nat.lt_of_lt_of_le h.lt hG.size, h.arr.moved hG h.lt (by simpa using hne), alien_dk ha hG h.dk hF, fun i hi => (World.cell?_of_block (a := ⟨b, i, none⟩) (hG.block b h.lt (by simpa using hne))).trans (h.top i hi)⟩

structure LH (w : World) (ya : Option Addr) (n yc : Nat) (l : List Ac) (b5 b8 b9 b10 : Nat) (D : Dk) (La Fi Se : List UInt8) (g q cap : Nat) (wt : List Ac) (wr : World) : Prop where
  bel : Below w.heap.size w wr
  acts : ActsAt wr w.heap.size (.slice ya n yc) l
  x5 : BoxAt wr b5 D
  a8 : Ar4 wr b8 La
  a9 : Ar4 wr b9 Fi
  a10 : Ar4 wr b10 Se
  row : RowA wr g q cap wt
  wide : D.wide
  w5 : w.heap.size ≤ b5
  l58 : b5 < b8
  l89 : b8 < b9
  l9x : b9 < b10
  lxg : b10 < g
section
variable {w : World} {ya : Option Addr} {n yc : Nat} {l : List Ac} {b5 b8 b9 b10 : Nat} {D D' : Dk} {La Fi Se L' : List UInt8} {g q cap g' q' cap' : Nat} {wt wt' : List Ac} {wr W : World}
theorem LH.next (h : LH w ya n yc l b5 b8 b9 b10 D La Fi Se g q cap wt wr) (hb : Below wr.heap.size wr W) : LH w ya n yc l b5 b8 b9 b10 D La Fi Se g q cap wt W := by
  have hG : wr.grownBy W none := gbelow hb
  exact ⟨h.bel.trans (hb.mono h.bel.size), h.acts.below (hb.mono h.bel.size), h.x5.next hb, h.a8.kept hG (by simp), h.a9.kept hG (by simp), h.a10.kept hG (by simp), h.row.kept hG (by simp), h.wide, h.w5, h.l58, h.l89, h.l9x, h.lxg⟩
theorem LH.bw (h : LH w ya n yc l b5 b8 b9 b10 D La Fi Se g q cap wt wr) {b : Nat} (hG : wr.grownBy W (some b)) (hb : w.heap.size ≤ b) : Below w.heap.size w W ∧ Below w.heap.size wr W :=
  ⟨below_grow h.bel hG (fun k e => by cases e; exact hb) h.bel.size, hG.os, hG.tape, hG.output, hG.size, fun i hi => hG.block i (by have := h.bel.size; omega) (by simp; omega)⟩
theorem LH.st5 (h : LH w ya n yc l b5 b8 b9 b10 D La Fi Se g q cap wt wr) (hG : wr.grownBy W (some b5)) (hx : BoxAt W b5 D') (hF : D'.wide) : LH w ya n yc l b5 b8 b9 b10 D' La Fi Se g q cap wt W := by
  obtain ⟨hB, hB'⟩ := h.bw hG h.w5
  have l1 := h.l58; have l2 := h.l89; have l3 := h.l9x; have l4 := h.lxg
  exact ⟨hB, h.acts.below hB', hx, h.a8.kept hG (by simp; omega), h.a9.kept hG (by simp; omega), h.a10.kept hG (by simp; omega), h.row.kept hG (by simp; omega), hF, h.w5, h.l58, h.l89, h.l9x, h.lxg⟩
theorem LH.st8 (h : LH w ya n yc l b5 b8 b9 b10 D La Fi Se g q cap wt wr) (hG : wr.grownBy W (some b8)) (hx : Ar4 W b8 L') : LH w ya n yc l b5 b8 b9 b10 D L' Fi Se g q cap wt W := by
  have l0 := h.w5; have l1 := h.l58; have l2 := h.l89; have l3 := h.l9x; have l4 := h.lxg
  obtain ⟨hB, hB'⟩ := h.bw hG (by omega)
  exact ⟨hB, h.acts.below hB', h.x5.aside h.a8.alien (by omega) hG h.wide, hx, h.a9.kept hG (by simp; omega), h.a10.kept hG (by simp; omega), h.row.kept hG (by simp; omega), h.wide, h.w5, h.l58, h.l89, h.l9x, h.lxg⟩
theorem LH.st9 (h : LH w ya n yc l b5 b8 b9 b10 D La Fi Se g q cap wt wr) (hG : wr.grownBy W (some b9)) (hx : Ar4 W b9 L') : LH w ya n yc l b5 b8 b9 b10 D La L' Se g q cap wt W := by
  have l0 := h.w5; have l1 := h.l58; have l2 := h.l89; have l3 := h.l9x; have l4 := h.lxg
  obtain ⟨hB, hB'⟩ := h.bw hG (by omega)
  exact ⟨hB, h.acts.below hB', h.x5.aside h.a9.alien (by omega) hG h.wide, h.a8.kept hG (by simp; omega), hx, h.a10.kept hG (by simp; omega), h.row.kept hG (by simp; omega), h.wide, h.w5, h.l58, h.l89, h.l9x, h.lxg⟩
theorem LH.st10 (h : LH w ya n yc l b5 b8 b9 b10 D La Fi Se g q cap wt wr) (hG : wr.grownBy W (some b10)) (hx : Ar4 W b10 L') : LH w ya n yc l b5 b8 b9 b10 D La Fi L' g q cap wt W := by
  have l0 := h.w5; have l1 := h.l58; have l2 := h.l89; have l3 := h.l9x; have l4 := h.lxg
  obtain ⟨hB, hB'⟩ := h.bw hG (by omega)
  exact ⟨hB, h.acts.below hB', h.x5.aside h.a10.alien (by omega) hG h.wide, h.a8.kept hG (by simp; omega), h.a9.kept hG (by simp; omega), hx, h.row.kept hG (by simp; omega), h.wide, h.w5, h.l58, h.l89, h.l9x, h.lxg⟩
theorem LH.app (h : LH w ya n yc l b5 b8 b9 b10 D La Fi Se g q cap wt wr) (hG : wr.grownBy W (some g)) (hx : RowA W g' q' cap' wt') (hg : b10 < g') : LH w ya n yc l b5 b8 b9 b10 D La Fi Se g' q' cap' wt' W := by
  have l0 := h.w5; have l1 := h.l58; have l2 := h.l89; have l3 := h.l9x; have l4 := h.lxg
  obtain ⟨hB, hB'⟩ := h.bw hG (by omega)
  exact ⟨hB, h.acts.below hB', h.x5.aside h.row.alien (by omega) hG h.wide, h.a8.kept hG (by simp; omega), h.a9.kept hG (by simp; omega), h.a10.kept hG (by simp; omega), hx, h.wide, h.w5, h.l58, h.l89, h.l9x, hg⟩
/-- The row of writes that wait begins anew. -/
theorem LH.anew (h : LH w ya n yc l b5 b8 b9 b10 D La Fi Se g q cap wt wr) : LH w ya n yc l b5 b8 b9 b10 D La Fi Se wr.heap.size 0 0 [] (wr.alloc (.cells #[] 46)) := by
  have hb : Below wr.heap.size wr (wr.alloc (.cells #[] 46)) := (Below.refl _ _).alloc (Nat.le_refl _) _
  have hn := h.next hb
  exact ⟨hn.bel, hn.acts, hn.x5, hn.a8, hn.a9, hn.a10, rowa_new wr, hn.wide, hn.w5, hn.l58, hn.l89, hn.l9x, h.a10.lt⟩
end
end Go.Proofs.Ytmklchjgiaomkaa
