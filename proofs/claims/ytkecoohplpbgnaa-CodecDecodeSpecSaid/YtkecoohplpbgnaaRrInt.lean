/- The reference's reader: an integer. -/
import Derived.Test.YtkecoohplpbgnaaRrVal
namespace Go.Proofs.Ytkecoohplpbgnaa
open Go.RowKit

set_option maxRecDepth 100000 in
set_option maxHeartbeats 2000000 in
theorem rval_1 (w : World) (rb : Nat) (a : Option Addr) (cap : Nat) (all : List UInt8) (k : Nat) (dep : Int) (h : RR w rb a cap all k false) (hda : ∀ db off, a = some ⟨db, off, none⟩ → db < w.heap.size)
    (hn : ∀ W, RR W rb a cap all k false → Calls Try.prog 47 #[.pointer (some ⟨rb, 0, none⟩)] W fun e w' => e = .returned (.int .u8 1) ∧ RR w' rb a cap all (k + 1) false ∧ W.grownBy w' (some rb)) :
    Calls Try.prog 35 #[.pointer (some ⟨rb, 0, none⟩), .int .i64 dep] w (ValR w rb a cap all (rdInt (all.drop (k + 1)))) := by
  obtain ⟨w0, hw0⟩ : ∃ w0, w0 = w.alloc (Obj.cells #[.int .i64 0, .int .i64 0, .string ⟨#[]⟩, .slice none 0 0] 24) := ⟨_, rfl⟩
  have hg0 : w.grownBy w0 none := by rw [hw0]; exact World.grownBy_alloc _ _ _
  have hr0 := h.moved hg0 (by simp) (fun db off e => by simp)
  have hrl := h.lt
  have HN := Lib.hid (hn w0 hr0)
  have HW := Lib.hid hw0
  have HG0 := Lib.hid hg0
  have hz0 : w0.heap.size = w.heap.size + 1 := by rw [hw0]; simp
  obtain ⟨p, hp⟩ : ∃ p, w.heap.size = p := ⟨_, rfl⟩
  have p0 : w0.cell? ⟨p, 0, none⟩ = some (.int .i64 0) := by rw [hw0, ← hp]; go_cell
  have p1 : w0.cell? ⟨p, 1, none⟩ = some (.int .i64 0) := by rw [hw0, ← hp]; go_cell
  have p2 : w0.cell? ⟨p, 2, none⟩ = some (.string ⟨#[]⟩) := by rw [hw0, ← hp]; go_cell
  have p3 : w0.cell? ⟨p, 3, none⟩ = some (.slice none 0 0) := by rw [hw0, ← hp]; go_cell
  have f : ∀ i, w0.frozen? ⟨p, i, none⟩ = false := fun i => by rw [hw0, ← hp, World.frozen?_alloc_new]
  have HDA := Lib.hid hda
  clear h hn hg0 hr0 hw0 hda
  go_enter Try.func35, Try.ntmps35
  go_wp2_with fail
  rw [← HW.out]
  refine HN.out.mono ?_
  rintro e w1 ⟨rfl, hr1, hg1⟩
  have hg01 : w.grownBy w1 (some rb) := by
    have hh := hg1
    rw [HW.out] at hh
    exact gbelow_alloc hh
  have hnum := number_any w1 rb a cap all (k + 1) hr1
  obtain ⟨O, hO⟩ : ∃ O, rdNum 0 0 (all.drop (k + 1)) = O := ⟨_, rfl⟩
  rw [hO] at hnum
  have HNUM := Lib.hid hnum
  have HO := Lib.hid hO
  have HG01 := Lib.hid hg01
  have HG1 := Lib.hid hg1
  clear hr1 hg1 hg01 hnum hO
  go_wp2_with fail
  refine HNUM.out.mono ?_
  rintro e w2 ⟨hg2, hcase⟩
  have hg02 := gtrans (HG1.out) hg2
  have hcp : ∀ i, w2.cell? ⟨p, i, none⟩ = w0.cell? ⟨p, i, none⟩ := fun i => World.cell?_of_block (a := ⟨p, i, none⟩) (hg02.block p (by omega) (by simp; omega))
  have hfp : ∀ i, w2.frozen? ⟨p, i, none⟩ = false := fun i => (World.frozen?_of_block (a := ⟨p, i, none⟩) (hg02.block p (by omega) (by simp; omega))).trans (f i)
  have q0 := (hcp 0).trans p0
  have q1 := (hcp 1).trans p1
  have q2 := (hcp 2).trans p2
  have q3 := (hcp 3).trans p3
  have f0 := hfp 0
  have f1 := hfp 1
  have f2 := hfp 2
  have f3 := hfp 3
  have hne : p ≠ rb := by omega
  have HGW := Lib.hid (gtrans HG01.out hg2)
  have hfin : ∀ (n : Int) (k2 : Nat) (b : Bool), RR w2 rb a cap all k2 b → RR (set4 w2 p (.int .i64 1) (.int .i64 n) (.string ⟨#[]⟩) (.slice none 0 0)) rb a cap all k2 b ∧ w.grownBy (set4 w2 p (.int .i64 1) (.int .i64 n) (.string ⟨#[]⟩) (.slice none 0 0)) (some rb) := fun n k2 b hr2 => by
    have hgp := gtrans (gtrans (gtrans (gset w2 p 0 (.int .i64 1)) (gset _ p 1 (.int .i64 n))) (gset _ p 2 (.string ⟨#[]⟩))) (gset _ p 3 (.slice none 0 0))
    exact ⟨hr2.moved hgp (by simpa using fun e => hne e.symm) (fun db off e => by have := HDA.out db off e; simp; omega), set4_grown HGW.out (by omega) _ _ _ _⟩
  have HFI := Lib.hid hfin
  clear hg2 hg02 hcp hfp p0 p1 p2 p3 f hfin
  rcases hcase with ⟨u, k2, ho, rfl, hu, hr2⟩ | ⟨ho, rfl, k2, hr2⟩
  · have hres : rdInt (all.drop (k + 1)) = some (⟨1, zag u, ByteArray.empty, []⟩, all.drop k2) := by unfold rdInt; rw [HO.out, ho]
    have HRES := Lib.hid hres
    have HR2 := Lib.hid hr2
    clear hr2 ho hres
    obtain ⟨m, hm⟩ : ∃ m, u / 2 = m := ⟨_, rfl⟩
    have e1 : (u : Int).tdiv 2 = (m : Int) := by rw [← hm]; rfl
    have e2 : (u : Int) / 2 = (m : Int) := by omega
    have w1' : IntKind.i64.wrap (m : Int) = (m : Int) := by rw [IntKind.wrap_i64]; omega
    have w2' : IntKind.i64.wrap (-(m : Int)) = -(m : Int) := by rw [IntKind.wrap_i64]; omega
    have w3' : IntKind.i64.wrap (-(m : Int) - 1) = -(m : Int) - 1 := by rw [IntKind.wrap_i64]; omega
    by_cases hodd : u % 2 = 1
    · have e3 : (u : Int).tmod 2 = 1 := by rw [show (u : Int).tmod 2 = ((u % 2 : Nat) : Int) from rfl, hodd]; rfl
      have e4 : (u : Int) % 2 = 1 := by omega
      have hzag : zag u = -(m : Int) - 1 := by unfold zag; rw [if_pos hodd, hm]
      have HZAG := Lib.hid hzag
      clear hm hzag
      go_wp2
      obtain ⟨o1, o2⟩ := HFI.out (-(m : Int) - 1) k2 false HR2.out
      refine bodyPost_ret (v := .agg #[.int .i64 1, .int .i64 (-(m : Int) - 1), .string ⟨#[]⟩, .slice none 0 0]) (by simp [results, Try.results35, go_sem, q0, q1, q2, q3]) rfl ⟨o2, .inl ⟨_, k2, _, HRES.out, rfl, by rw [HZAG.out]; exact own_int _ ⟨by omega, by omega⟩, o1⟩⟩
    · have e3 : (u : Int).tmod 2 = 0 := by rw [show (u : Int).tmod 2 = ((u % 2 : Nat) : Int) from rfl, show u % 2 = 0 by omega]; rfl
      have e4 : (u : Int) % 2 = 0 := by omega
      have hzag : zag u = (m : Int) := by unfold zag; rw [if_neg hodd, hm]
      have HZAG := Lib.hid hzag
      clear hm hzag
      go_wp2
      obtain ⟨o1, o2⟩ := HFI.out (m : Int) k2 false HR2.out
      refine bodyPost_ret (v := .agg #[.int .i64 1, .int .i64 (m : Int), .string ⟨#[]⟩, .slice none 0 0]) (by simp [results, Try.results35, go_sem, q0, q1, q2, q3]) rfl ⟨o2, .inl ⟨_, k2, _, HRES.out, rfl, by rw [HZAG.out]; exact own_int _ ⟨by omega, by omega⟩, o1⟩⟩
  · have hres : rdInt (all.drop (k + 1)) = none := by unfold rdInt; rw [HO.out, ho]
    have HRES := Lib.hid hres
    have HR2 := Lib.hid hr2
    clear hr2 ho hres
    go_wp2
    obtain ⟨o1, o2⟩ := HFI.out 0 k2 true HR2.out
    refine bodyPost_ret (v := .agg #[.int .i64 1, .int .i64 0, .string ⟨#[]⟩, .slice none 0 0]) (by simp [results, Try.results35, go_sem, q0, q1, q2, q3]) rfl ⟨o2, .inr ⟨HRES.out, _, _, _, _, _, _, k2, rfl, o1⟩⟩
end Go.Proofs.Ytkecoohplpbgnaa
