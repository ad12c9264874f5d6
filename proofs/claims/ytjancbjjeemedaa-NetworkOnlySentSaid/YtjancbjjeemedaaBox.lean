/- Links, and packets, in blocks of their own. -/
import Derived.Test.YtjancbjjeemedaaSam
import Derived.Test.YtjancbjjeemedaaDlv
namespace Go.Proofs.Ytjancbjjeemedaa
open Go.RowKit

theorem bthen {w a b : World} (h : Below w.heap.size w a) (k : Below a.heap.size a b) : Below w.heap.size w b := h.trans (k.mono h.size)

/-- Block b holds links. -/
structure NBox (w : World) (b : Nat) (qa : Option Addr) (N qc : Nat) (aa : Option Addr) (M ac : Nat) (n : Nt) : Prop where
  lt : b < w.heap.size
  arr : Arr w b [.slice qa N qc, .slice aa M ac]
  nt : NtAt w w.heap.size (.agg #[.slice qa N qc, .slice aa M ac]) n
/-- Block b holds a packet. -/
structure PBox (w : World) (b : Nat) (x y : Int) (da : Option Addr) (L dc : Nat) (p : Pk) : Prop where
  lt : b < w.heap.size
  arr : Arr w b [.int .i64 x, .int .i64 y, .slice da L dc]
  pk : PkAt w w.heap.size (.agg #[.int .i64 x, .int .i64 y, .slice da L dc]) p
section
variable {w w' : World} {b : Nat} {qa : Option Addr} {N qc : Nat} {aa : Option Addr} {M ac : Nat} {n : Nt} {x y : Int} {da : Option Addr} {L dc : Nat} {p : Pk}
theorem NBox.next (h : NBox w b qa N qc aa M ac n) (hb : Below w.heap.size w w') : NBox w' b qa N qc aa M ac n := ⟨Nat.lt_of_lt_of_le h.lt hb.size, h.arr.below hb h.lt, h.nt.next hb⟩
theorem NBox.c0 (h : NBox w b qa N qc aa M ac n) : w.cell? ⟨b, 0, none⟩ = some (.slice qa N qc) := h.arr.cell rfl
theorem NBox.c1 (h : NBox w b qa N qc aa M ac n) : w.cell? ⟨b, 1, none⟩ = some (.slice aa M ac) := h.arr.cell rfl
theorem PBox.next (h : PBox w b x y da L dc p) (hb : Below w.heap.size w w') : PBox w' b x y da L dc p := ⟨Nat.lt_of_lt_of_le h.lt hb.size, h.arr.below hb h.lt, h.pk.next hb⟩
theorem PBox.c0 (h : PBox w b x y da L dc p) : w.cell? ⟨b, 0, none⟩ = some (.int .i64 x) := h.arr.cell rfl
theorem PBox.c1 (h : PBox w b x y da L dc p) : w.cell? ⟨b, 1, none⟩ = some (.int .i64 y) := h.arr.cell rfl
theorem PBox.c2 (h : PBox w b x y da L dc p) : w.cell? ⟨b, 2, none⟩ = some (.slice da L dc) := h.arr.cell rfl
theorem NtAt.parts {B : Nat} {v : Value} (h : NtAt w B v n) (hN : n.q.length = N) (hM : n.ap.length = M) : ∃ (qa : Option Addr) (qc : Nat) (aa : Option Addr) (ac : Nat), v = .agg #[.slice qa N qc, .slice aa M ac] ∧ N ≤ qc ∧ qc ≤ maxLen ∧ M ≤ ac ∧ ac ≤ maxLen ∧ QAt w B (.slice qa N qc) n.q ∧ AAt w B (.slice aa M ac) n.ap := by
  subst hN; subst hM
  obtain ⟨qa, qc, aa, ac, h1, h2⟩ := h.open
  exact ⟨qa, qc, aa, ac, h1, h2⟩
theorem PkAt.parts {B : Nat} {v : Value} (h : PkAt w B v p) (hx : p.frm = x) (hy : p.to = y) (hL : p.data.length = L) : ∃ (da : Option Addr) (dc : Nat), v = .agg #[.int .i64 x, .int .i64 y, .slice da L dc] ∧ (In64 x ∧ In64 y) ∧ L ≤ dc ∧ dc ≤ maxLen ∧ BytesAt w B (.slice da L dc) p.data := by
  subst hx; subst hy; subst hL
  obtain ⟨da, dc, h1, h2⟩ := h.shape
  exact ⟨da, dc, h1, h2⟩
theorem NtAt.box {u : Value} (h : NtAt w w.heap.size u n) (hN : n.q.length = N) (hM : n.ap.length = M) :
    ∃ (qa : Option Addr) (qc : Nat) (aa : Option Addr) (ac : Nat) (W : World), u = .agg #[.slice qa N qc, .slice aa M ac] ∧ W = w.alloc (.cells #[.slice qa N qc, .slice aa M ac] 25) ∧
      NBox W w.heap.size qa N qc aa M ac n ∧ Below w.heap.size w W ∧ W.heap.size = w.heap.size + 1 := by
  obtain ⟨qa, qc, aa, ac, rfl, _⟩ := h.parts hN hM
  have hB : Below w.heap.size w (w.alloc (.cells #[.slice qa N qc, .slice aa M ac] 25)) := by go_grown
  exact ⟨qa, qc, aa, ac, _, rfl, rfl, ⟨by simp, Arr.new w #[.slice qa N qc, .slice aa M ac] 25, h.next hB⟩, hB, by simp⟩
theorem PkAt.box {u : Value} (h : PkAt w w.heap.size u p) (hx : p.frm = x) (hy : p.to = y) (hL : p.data.length = L) :
    ∃ (da : Option Addr) (dc : Nat) (W : World), u = .agg #[.int .i64 x, .int .i64 y, .slice da L dc] ∧ W = w.alloc (.cells #[.int .i64 x, .int .i64 y, .slice da L dc] 28) ∧
      PBox W w.heap.size x y da L dc p ∧ Below w.heap.size w W ∧ W.heap.size = w.heap.size + 1 := by
  obtain ⟨da, dc, rfl, _⟩ := h.parts hx hy hL
  have hB : Below w.heap.size w (w.alloc (.cells #[.int .i64 x, .int .i64 y, .slice da L dc] 28)) := by go_grown
  exact ⟨da, dc, _, rfl, rfl, ⟨by simp, Arr.new w #[.int .i64 x, .int .i64 y, .slice da L dc] 28, h.next hB⟩, hB, by simp⟩
end
end Go.Proofs.Ytjancbjjeemedaa
