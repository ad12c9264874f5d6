/- Two stores: links, then a packet, into blocks of the call's own. -/
import Derived.Test.YtjancbjjeemedaaOsl
import Derived.Test.YtjancbjjeemedaaMvs
import Derived.Test.YtjancbjjeemedaaCug
namespace Go.Proofs.Ytjancbjjeemedaa
open Go.RowKit

/-- A packet's own block, holding nothing yet. -/
theorem zero_row (W : World) : RowP (W.alloc (.cells #[.int .i64 0, .int .i64 0, .slice none 0 0] 28)) (W.alloc (.cells #[.int .i64 0, .int .i64 0, .slice none 0 0] 28)).heap.size W.heap.size 0 1 [] :=
  ⟨rfl, by omega, by unfold maxLen; omega, #[.int .i64 0, .int .i64 0, .slice none 0 0], [], heap_alloc_new W _, by simp [Builtin.zeroCells, zpk]; kernel_rfl, QCells.nil _ _⟩
/-- What lies ready for the two stores. -/
structure Rdy (W : World) (b7 b8 : Nat) (qa : Option Addr) (N qc : Nat) (aa : Option Addr) (M ac : Nat) (x : Nt) (X Y : Int) (da : Option Addr) (L dc : Nat) (p : Pk) : Prop where
  ne : b7 ≠ b8
  a8 : Arr W b8 [.int .i64 0, .int .i64 0, .slice none 0 0]
  r8 : RowP W W.heap.size b8 0 1 []
  nt : NtAt W W.heap.size (.agg #[.slice qa N qc, .slice aa M ac]) x
  pk : PkAt W W.heap.size (.agg #[.int .i64 X, .int .i64 Y, .slice da L dc]) p
section
variable {W : World} {b7 b8 : Nat} {qa : Option Addr} {N qc : Nat} {aa : Option Addr} {M ac : Nat} {x : Nt} {X Y : Int} {da : Option Addr} {L dc : Nat} {p : Pk}
theorem Rdy.first (h : Rdy W b7 b8 qa N qc aa M ac x X Y da L dc p) (h7 : Arr W b7 [.slice none 0 0, .slice none 0 0]) (s7 : SlB W b7) :
    Rdy ((W.setCell ⟨b7, 0, none⟩ (.slice qa N qc)).setCell ⟨b7, 1, none⟩ (.slice aa M ac)) b7 b8 qa N qc aa M ac x X Y da L dc p ∧ Arr ((W.setCell ⟨b7, 0, none⟩ (.slice qa N qc)).setCell ⟨b7, 1, none⟩ (.slice aa M ac)) b7 [.slice qa N qc, .slice aa M ac] := by
  have hz : ((W.setCell ⟨b7, 0, none⟩ (.slice qa N qc)).setCell ⟨b7, 1, none⟩ (.slice aa M ac)).heap.size = W.heap.size := by simp
  have s7' := s7.set (h7.cell (i := 0) rfl) qa N qc
  have hne := h.ne
  refine ⟨⟨h.ne, (h.a8.other (fun e => hne e.symm) 0 _).other (fun e => hne e.symm) 1 _, ?_, ?_, ?_⟩, (h7.set 0 _).set 1 _⟩
  · obtain ⟨C, cs, k1, k2, k3⟩ := h.r8.obj
    have hG := gtrans (gset (W := W) (b := b7) 0 (.slice qa N qc)) (gset (b := b7) 1 (.slice aa M ac))
    have h8 := h.r8.lt
    exact ⟨rfl, h.r8.le, h.r8.max, C, cs, by rw [hG.block b8 h8 (by simp; omega)]; exact k1, k2, ⟨k3.len, fun i hi => by simp at hi⟩⟩
  · rw [hz]; exact (h.nt.apart s7 _).apart s7' _
  · obtain ⟨h0, u, e, hd⟩ := h.pk
    exact ⟨h0, u, e, by rw [hz]; exact (hd.apart s7.noU8 _).apart s7'.noU8 _⟩
theorem Rdy.second (h : Rdy W b7 b8 qa N qc aa M ac x X Y da L dc p) (h7 : Arr W b7 [.slice qa N qc, .slice aa M ac]) (hok : x.ok = true) :
    NBox (((W.setCell ⟨b8, 0, none⟩ (.int .i64 X)).setCell ⟨b8, 1, none⟩ (.int .i64 Y)).setCell ⟨b8, 2, none⟩ (.slice da L dc)) b7 qa N qc aa M ac x ∧
    PBox (((W.setCell ⟨b8, 0, none⟩ (.int .i64 X)).setCell ⟨b8, 1, none⟩ (.int .i64 Y)).setCell ⟨b8, 2, none⟩ (.slice da L dc)) b8 X Y da L dc p := by
  have hne := h.ne
  have hG : W.grownBy (((W.setCell ⟨b8, 0, none⟩ (.int .i64 X)).setCell ⟨b8, 1, none⟩ (.int .i64 Y)).setCell ⟨b8, 2, none⟩ (.slice da L dc)) (some b8) := gtrans (gtrans (gset 0 _) (gset 1 _)) (gset 2 _)
  have hz : (((W.setCell ⟨b8, 0, none⟩ (.int .i64 X)).setCell ⟨b8, 1, none⟩ (.int .i64 Y)).setCell ⟨b8, 2, none⟩ (.slice da L dc)).heap.size = W.heap.size := by simp
  refine ⟨⟨by rw [hz]; exact h7.lt (by simp), ((h7.other hne 0 _).other hne 1 _).other hne 2 _, nt_spare h.r8 hG (fun j hj => by omega) h.nt (ok_q hok) (ok_a hok)⟩, ⟨by rw [hz]; exact h.r8.lt, ((h.a8.set 0 _).set 1 _).set 2 _, ?_⟩⟩
  obtain ⟨h0, u, e, hd⟩ := h.pk
  exact ⟨h0, u, e, bytes_spare h.r8 hG hd⟩
end
theorem MAt.cells {w : World} {a : Option Addr} {n cap : Nat} {l : List Mv} (h : MAt w w.heap.size (.slice a n cap) l) (hn : l.length = n) (i : Nat) (hi : i < n) (m : Mv) (hm : l[i]? = some m) : ∃ b off, a = some ⟨b, off, none⟩ ∧ ∀ W, Below w.heap.size w W →
    W.cell? ⟨b, off + i * 5, none⟩ = some (.int .u8 m.kind.toNat) ∧ W.cell? ⟨b, off + i * 5 + 1, none⟩ = some (.int .u8 m.at_.toNat) ∧ W.cell? ⟨b, off + i * 5 + 2, none⟩ = some (.int .u8 m.a.toNat) ∧ W.cell? ⟨b, off + i * 5 + 3, none⟩ = some (.int .u8 m.b.toNat) ∧ W.cell? ⟨b, off + i * 5 + 4, none⟩ = some (.int .u8 m.data.toNat) := by
  subst hn
  obtain ⟨b, off, h1, h2, h3⟩ := h.got i hi
  have e : l[i] = m := by rw [List.getElem?_eq_getElem hi] at hm; exact Option.some.inj hm
  rw [e] at h3
  refine ⟨b, off, h1, fun W hW => ⟨?_, ?_, ?_, ?_, ?_⟩⟩
  · exact (hW.cell (p := ⟨b, off + i * 5, none⟩) h2).trans (h3 0 _ rfl)
  · exact (hW.cell (p := ⟨b, off + i * 5 + 1, none⟩) h2).trans (h3 1 _ rfl)
  · exact (hW.cell (p := ⟨b, off + i * 5 + 2, none⟩) h2).trans (h3 2 _ rfl)
  · exact (hW.cell (p := ⟨b, off + i * 5 + 3, none⟩) h2).trans (h3 3 _ rfl)
  · exact (hW.cell (p := ⟨b, off + i * 5 + 4, none⟩) h2).trans (h3 4 _ rfl)
end Go.Proofs.Ytjancbjjeemedaa
