/- The reference's reader: a value, where it begins with no kind. -/
import Derived.Test.YtkecoohplpbgnaaRrNum
namespace Go.Proofs.Ytkecoohplpbgnaa
open Go.RowKit

/-- Blocks that a call has made. -/
def Fresh (w w' : World) (b : Nat) : Prop := w.heap.size ≤ b ∧ b < w'.heap.size
/-- What the reference's value ends in. -/
def ValR (w : World) (rb : Nat) (a : Option Addr) (cap : Nat) (all : List UInt8) (o : Option (V × List UInt8)) (e : Ending) (w' : World) : Prop :=
  w.grownBy w' (some rb) ∧ ((∃ x k v, o = some (x, all.drop k) ∧ e = .returned v ∧ V.Own w' (Fresh w w') x v ∧ RR w' rb a cap all k false) ∨
    (o = none ∧ ∃ (c0 c1 : Int) (s : ByteArray) (d : Option Addr) (m n k : Nat), e = .returned (.agg #[.int .i64 c0, .int .i64 c1, .string s, .slice d m n]) ∧ RR w' rb a cap all k true))
def zeroV : List Value := [.int .i64 0, .int .i64 0, .string ByteArray.empty, .slice none 0 0]

/-- Moved, where there are no bytes too. -/
theorem RR.moved' {w W : World} {rb : Nat} {a : Option Addr} {cap : Nat} {all : List UInt8} {k : Nat} {bad : Bool} (h : RR w rb a cap all k bad) {r : Option Nat} (hG : w.grownBy W r) (hr : some rb ≠ r) (hd : all = [] ∨ ∀ db off, a = some ⟨db, off, none⟩ → some db ≠ r) : RR W rb a cap all k bad := by
  rcases hd with hd | hd
  · have hc : ∀ i, W.cell? ⟨rb, i, none⟩ = w.cell? ⟨rb, i, none⟩ := fun i => World.cell?_of_block (a := ⟨rb, i, none⟩) (hG.block rb h.lt hr)
    have hf : ∀ i, W.frozen? ⟨rb, i, none⟩ = w.frozen? ⟨rb, i, none⟩ := fun i => World.frozen?_of_block (a := ⟨rb, i, none⟩) (hG.block rb h.lt hr)
    exact ⟨(hc _).trans h.c0, (hc _).trans h.c1, (hc _).trans h.c2, (hf _).trans h.f1, (hf _).trans h.f2, h.le, h.short, h.fits, .inl hd⟩
  · exact h.moved hG hr hd

set_option maxRecDepth 100000 in
set_option maxHeartbeats 2000000 in
theorem rval_bad (w : World) (rb : Nat) (a : Option Addr) (cap : Nat) (all : List UInt8) (k : Nat) (bad : Bool) (dep : Int) (z : Nat) (o : Option (V × List UInt8)) (ho : o = none) (h : RR w rb a cap all k false) (hda : all = [] ∨ ∀ db off, a = some ⟨db, off, none⟩ → db < w.heap.size)
    (hn : ∀ W, RR W rb a cap all k false → Calls Try.prog 47 #[.pointer (some ⟨rb, 0, none⟩)] W fun e w' => e = .returned (.int .u8 z) ∧ (∃ k', RR w' rb a cap all k' bad) ∧ W.grownBy w' (some rb)) (hz : z ≠ 1 ∧ z ≠ 2 ∧ z ≠ 3) :
    Calls Try.prog 35 #[.pointer (some ⟨rb, 0, none⟩), .int .i64 dep] w (ValR w rb a cap all o) := by
  subst ho
  obtain ⟨w0, hw0⟩ : ∃ w0, w0 = w.alloc (Obj.cells #[.int .i64 0, .int .i64 0, .string ⟨#[]⟩, .slice none 0 0] 24) := ⟨_, rfl⟩
  have hg0 : w.grownBy w0 none := by rw [hw0]; exact World.grownBy_alloc _ _ _
  have hr0 := h.moved hg0 (by simp) (fun db off e => by simp)
  have hrl := h.lt
  have HN := Lib.hid (hn w0 hr0)
  have HW := Lib.hid hw0
  have HG0 := Lib.hid hg0
  have hz0 : w0.heap.size = w.heap.size + 1 := by rw [hw0]; simp
  obtain ⟨p, hp⟩ : ∃ p, w.heap.size = p := ⟨_, rfl⟩
  have p0 : w0.cell? ⟨p, 0, none⟩ = some (.int .i64 0) := by rw [hw0, ← hp]; go_cell
  have p1 : w0.cell? ⟨p, 1, none⟩ = some (.int .i64 0) := by rw [hw0, ← hp]; go_cell
  have p2 : w0.cell? ⟨p, 2, none⟩ = some (.string ⟨#[]⟩) := by rw [hw0, ← hp]; go_cell
  have p3 : w0.cell? ⟨p, 3, none⟩ = some (.slice none 0 0) := by rw [hw0, ← hp]; go_cell
  have f : ∀ i, w0.frozen? ⟨p, i, none⟩ = false := fun i => by rw [hw0, ← hp, World.frozen?_alloc_new]
  have hd : ((z : Int) == 1) = false ∧ ((z : Int) == 2) = false ∧ ((z : Int) == 3) = false := ⟨by simp; omega, by simp; omega, by simp; omega⟩
  obtain ⟨d1, d2, d3⟩ := hd
  have HDA := Lib.hid hda
  clear h hn hg0 hr0 hw0 hda
  go_enter Try.func35, Try.ntmps35
  go_wp2_with fail
  rw [← HW.out]
  refine HN.out.mono ?_
  rintro e w1 ⟨rfl, ⟨k', hr1⟩, hg1⟩
  have hcp : ∀ i, w1.cell? ⟨p, i, none⟩ = w0.cell? ⟨p, i, none⟩ := fun i => World.cell?_of_block (a := ⟨p, i, none⟩) (hg1.block p (by omega) (by simp; omega))
  have hfp : ∀ i, w1.frozen? ⟨p, i, none⟩ = false := fun i => (World.frozen?_of_block (a := ⟨p, i, none⟩) (hg1.block p (by omega) (by simp; omega))).trans (f i)
  have q0 := (hcp 0).trans p0
  have q1 := (hcp 1).trans p1
  have q2 := (hcp 2).trans p2
  have q3 := (hcp 3).trans p3
  have f0 := hfp 0
  have f1 := hfp 1
  have f2 := hfp 2
  have f3 := hfp 3
  have b2 := hr1.c2
  have g2 := hr1.f2
  have hne : p ≠ rb := by omega
  have HRF := Lib.hid hr1.fail
  have hg01 : w.grownBy w1 (some rb) := by
    have hh := hg1
    rw [HW.out] at hh
    exact gbelow_alloc hh
  have HGW := Lib.hid (gtrans hg01 (gset w1 rb 2 (.bool true)))

  clear hr1 hg1 hcp hfp p0 p1 p2 p3 f hg01
  go_wp2
  have hgp := gtrans (gtrans (gtrans (gset (w1.setCell ⟨rb, 2, none⟩ (.bool true)) p 0 (.int .i64 0)) (gset _ p 1 (.int .i64 0))) (gset _ p 2 (.string ⟨#[]⟩))) (gset _ p 3 (.slice none 0 0))
  have hrr := HRF.out.moved' hgp (by simpa using fun e => hne e.symm) (HDA.out.imp id fun hda db off e => by have := hda db off e; simp; omega)
  have hgw := gset_new (gset_new (gset_new (gset_new HGW.out (b := p) (by omega) 0 (.int .i64 0)) (b := p) (by omega) 1 (.int .i64 0)) (b := p) (by omega) 2 (.string ⟨#[]⟩)) (b := p) (by omega) 3 (.slice none 0 0)
  refine bodyPost_ret (v := .agg #[.int .i64 0, .int .i64 0, .string ⟨#[]⟩, .slice none 0 0]) (by simp [results, Try.results35, go_sem, q0, q1, q2, q3]) rfl ⟨hgw, .inr ⟨rfl, _, _, _, _, _, _, k', rfl, hrr⟩⟩
end Go.Proofs.Ytkecoohplpbgnaa
