/- The reference's reader: a text. -/
import Derived.Test.YtkecoohplpbgnaaRrInt
import Derived.BigQuiet
namespace Go.Proofs.Ytkecoohplpbgnaa
open Go.RowKit

theorem RR.drewN {w : World} {rb : Nat} {a : Option Addr} {cap : Nat} {all : List UInt8} {k : Nat} {bad : Bool} (h : RR w rb a cap all k bad) (n : Nat) : RR (w.drewN n) rb a cap all k bad := ⟨h.c0, h.c1, h.c2, h.f1, h.f2, h.le, h.short, h.fits, h.at_⟩
theorem gdrewN {a b : World} {r : Option Nat} (h : a.grownBy b r) (n : Nat) : a.grownBy (b.drewN n) r := ⟨h.os, h.tape, h.output, h.size, h.block⟩

/-- The block of the result, at p. -/
structure Zro (w : World) (p : Nat) : Prop where
  q0 : w.cell? ⟨p, 0, none⟩ = some (.int .i64 0)
  q1 : w.cell? ⟨p, 1, none⟩ = some (.int .i64 0)
  q2 : w.cell? ⟨p, 2, none⟩ = some (.string ⟨#[]⟩)
  q3 : w.cell? ⟨p, 3, none⟩ = some (.slice none 0 0)
  f : ∀ i, w.frozen? ⟨p, i, none⟩ = false
theorem Zro.of {w W : World} {p : Nat} (h : Zro w p) (hb : W.heap[p]? = w.heap[p]?) : Zro W p :=
  ⟨(World.cell?_of_block (a := ⟨p, 0, none⟩) hb).trans h.q0, (World.cell?_of_block (a := ⟨p, 1, none⟩) hb).trans h.q1, (World.cell?_of_block (a := ⟨p, 2, none⟩) hb).trans h.q2, (World.cell?_of_block (a := ⟨p, 3, none⟩) hb).trans h.q3, fun i => (World.frozen?_of_block (a := ⟨p, i, none⟩) hb).trans (h.f i)⟩
theorem Zro.drewN {w : World} {p : Nat} (h : Zro w p) (n : Nat) : Zro (w.drewN n) p := ⟨h.q0, h.q1, h.q2, h.q3, h.f⟩
theorem Zro.new (w : World) : Zro (w.alloc (Obj.cells #[.int .i64 0, .int .i64 0, .string ⟨#[]⟩, .slice none 0 0] 24)) w.heap.size :=
  ⟨by go_cell, by go_cell, by go_cell, by go_cell, fun i => by rw [World.frozen?_alloc_new]⟩

/-- Where a call of the reader stands: w the world before it, p its result's block. -/
structure RV (w W : World) (rb p : Nat) (a : Option Addr) (cap : Nat) (all : List UInt8) (k : Nat) (bad : Bool) : Prop where
  rr : RR W rb a cap all k bad
  z : Zro W p
  g : w.grownBy W (some rb)
  ne : p ≠ rb
  new : w.heap.size ≤ p
  lt : p < W.heap.size
  da : ∀ db off, a = some ⟨db, off, none⟩ → db < w.heap.size
theorem RV.drewN {w W : World} {rb p : Nat} {a : Option Addr} {cap : Nat} {all : List UInt8} {k : Nat} {bad : Bool} (h : RV w W rb p a cap all k bad) (n : Nat) : RV w (W.drewN n) rb p a cap all k bad :=
  ⟨h.rr.drewN n, h.z.drewN n, gdrewN h.g n, h.ne, h.new, h.lt, h.da⟩
theorem RV.step {w W W' : World} {rb p : Nat} {a : Option Addr} {cap : Nat} {all : List UInt8} {k k' : Nat} {bad bad' : Bool} (h : RV w W rb p a cap all k bad) (hr : RR W' rb a cap all k' bad') (hg : W.grownBy W' (some rb)) : RV w W' rb p a cap all k' bad' :=
  ⟨hr, h.z.of (hg.block p h.lt (by simpa using h.ne)), gtrans h.g hg, h.ne, h.new, Nat.lt_of_lt_of_le h.lt hg.size, h.da⟩
theorem RV.fail {w W : World} {rb p : Nat} {a : Option Addr} {cap : Nat} {all : List UInt8} {k : Nat} {bad : Bool} (h : RV w W rb p a cap all k bad) : RV w (W.setCell ⟨rb, 2, none⟩ (.bool true)) rb p a cap all k true :=
  h.step h.rr.fail (gset _ _ _ _)
/-- The result's block filled. -/
theorem RV.fin {w W : World} {rb p : Nat} {a : Option Addr} {cap : Nat} {all : List UInt8} {k : Nat} {bad : Bool} (h : RV w W rb p a cap all k bad) (v0 v1 v2 v3 : Value) : RR (set4 W p v0 v1 v2 v3) rb a cap all k bad ∧ w.grownBy (set4 W p v0 v1 v2 v3) (some rb) := by
  have hgp := gtrans (gtrans (gtrans (gset W p 0 v0) (gset _ p 1 v1)) (gset _ p 2 v2)) (gset _ p 3 v3)
  have hn := h.new
  exact ⟨h.rr.moved hgp (by simpa using fun e => h.ne e.symm) (fun db off e => by have := h.da db off e; simp; omega), set4_grown h.g hn _ _ _ _⟩

theorem drop_rest (all : List UInt8) (k : Nat) (h : k ≤ all.length) : all.length = k + (all.drop k).length := by rw [List.length_drop]; omega

theorem take_drop_len (all : List UInt8) (k u : Nat) (h : k + u ≤ all.length) : ((all.drop k).take u).length = u := by rw [List.length_take, List.length_drop]; omega
/-- A part of the reader's bytes, as a slice and as a string. -/
theorem RR.part {W : World} {rb : Nat} {a : Option Addr} {cap : Nat} {all : List UInt8} {k : Nat} {bad : Bool} (h : RR W rb a cap all k bad) (k2 u : Nat) (hu : k2 + u ≤ all.length) :
    ∃ A C, (∀ W', (Instr.slice 27 (.slice a all.length cap) (some (.int .i64 (k2 : Int))) (some (.int .i64 ((k2 : Int) + (u : Int)))) none).run Try.prog W' = .ok (.slice A u C) W') ∧
      (convert 27 9 (.slice A u C)).run Try.prog W = .ok (.string ⟨((all.drop k2).take u).toArray⟩) W := by
  have hf := h.fits
  have ht' : Try.prog.underlying 27 = some (.slice (Try.prog.elem 27)) := by simp [Program.elem, Try.underlying27]
  have he : Try.prog.elem 27 = 5 := by simp [Program.elem, Try.underlying27]
  refine ⟨if cap = k2 then a else a.map (·.add (k2 * 1)), cap - k2, fun W' => ?_, ?_⟩
  · rw [run_slice_lh W' 27 _ _ _ ht' .i64 .i64 _ _ (by omega) (by omega) (by omega), he, Try.sizeOf5]
    have e1 : ((k2 : Int) + (u : Int)).toNat = k2 + u := by omega
    simp [Result.andThen, sliced, e1]
  · have hc := conv_bytes W (if cap = k2 then a else a.map (·.add (k2 * 1))) ((all.drop k2).take u) (cap - k2) (by
      by_cases h0 : (all.drop k2).take u = []
      · exact .inl h0
      · have hlu := take_drop_len all k2 u hu
        have hpos := List.length_pos_iff.2 h0
        rcases h.at_ with h1 | ⟨db, off, h1, h2, h3, h4⟩
        · subst h1; simp at h0
        · refine .inr ⟨db, off + k2, ?_, fun i hi => ?_⟩
          · rw [if_neg (by omega), h1]
            by_cases hk0 : k2 = 0
            · subst hk0; simp [Addr.add]
            · simp [Addr.add, hk0]
          · rw [List.getElem_take, List.getElem_drop, Nat.add_assoc]
            exact h4 (k2 + i) (by omega))
    rw [take_drop_len all k2 u hu] at hc
    exact hc

set_option maxRecDepth 100000 in
set_option maxHeartbeats 4000000 in
theorem rval_2 (w : World) (rb : Nat) (a : Option Addr) (cap : Nat) (all : List UInt8) (k : Nat) (dep : Int) (h : RR w rb a cap all k false) (hda : ∀ db off, a = some ⟨db, off, none⟩ → db < w.heap.size)
    (hn : ∀ W, RR W rb a cap all k false → Calls Try.prog 47 #[.pointer (some ⟨rb, 0, none⟩)] W fun e w' => e = .returned (.int .u8 2) ∧ RR w' rb a cap all (k + 1) false ∧ W.grownBy w' (some rb)) :
    Calls Try.prog 35 #[.pointer (some ⟨rb, 0, none⟩), .int .i64 dep] w (ValR w rb a cap all (rdText (all.drop (k + 1)))) := by
  have hrl := h.lt
  obtain ⟨w0, hw0⟩ : ∃ w0, w0 = w.alloc (Obj.cells #[.int .i64 0, .int .i64 0, .string ⟨#[]⟩, .slice none 0 0] 24) := ⟨_, rfl⟩
  have hg0 : w.grownBy w0 none := by rw [hw0]; exact World.grownBy_alloc _ _ _
  have hr0 := h.moved hg0 (by simp) (fun db off e => by simp)
  obtain ⟨p, hp⟩ : ∃ p, w.heap.size = p := ⟨_, rfl⟩
  have hrv0 : RV w w0 rb p a cap all k false := ⟨hr0, by rw [hw0, ← hp]; exact Zro.new w, by rw [hw0]; exact World.grownBy_alloc _ _ _, by omega, by omega, by rw [hw0, ← hp]; simp, hda⟩
  have HN := Lib.hid (hn w0 hr0)
  have HW := Lib.hid hw0
  have HV0 := Lib.hid hrv0
  clear h hn hg0 hr0 hw0 hda hrv0
  go_enter Try.func35, Try.ntmps35
  go_wp2_with fail
  rw [← HW.out]
  refine HN.out.mono ?_
  rintro e w1 ⟨rfl, hr1, hg1⟩
  have hv1 := HV0.out.step hr1 hg1
  have hnum := number_any w1 rb a cap all (k + 1) hr1
  obtain ⟨O, hO⟩ : ∃ O, rdNum 0 0 (all.drop (k + 1)) = O := ⟨_, rfl⟩
  rw [hO] at hnum
  have HNUM := Lib.hid hnum
  have HO := Lib.hid hO
  have HV1 := Lib.hid hv1
  clear hr1 hg1 hv1 hnum hO HV0 HW
  go_wp2_with fail
  refine HNUM.out.mono ?_
  rintro e w2 ⟨hg2, hcase⟩
  clear HNUM
  rcases hcase with ⟨u, k2, ho, rfl, hu, hr2⟩ | ⟨ho, rfl, k2, hr2⟩
  · have HV2 := Lib.hid (HV1.out.step hr2 hg2)
    have hres : rdText (all.drop (k + 1)) = if u ≤ (all.drop k2).length then some (⟨2, 0, ⟨((all.drop k2).take u).toArray⟩, []⟩, (all.drop k2).drop u) else none := by unfold rdText; rw [HO.out, ho]
    have HRES := Lib.hid hres
    have hkl := hr2.le
    have hsh := hr2.short
    have hfi := hr2.fits
    obtain ⟨m, hm⟩ : ∃ m, (all.drop k2).length = m := ⟨_, rfl⟩
    have hL := drop_rest all k2 hkl
    rw [hm] at hL hres
    have c0 := hr2.c0
    have c1 := hr2.c1
    have c2 := hr2.c2
    have hne := HV2.out.ne
    have e1 : IntKind.i64.wrap ((all.length : Int) - (k2 : Int)) = (m : Int) := by rw [IntKind.wrap_i64]; omega
    have e2 : IntKind.u64.wrap (m : Int) = (m : Int) := by rw [IntKind.wrap_u64]; omega
    clear hg2 HV1
    by_cases hum : u ≤ m
    · have HS0 : Hid (rdText (all.drop (k + 1)) = some (⟨2, 0, ⟨((all.drop k2).take u).toArray⟩, []⟩, (all.drop k2).drop u)) := Lib.hid (by rw [hres, if_pos hum])
      have d1 : decide ((m : Int) < (u : Int)) = false := by simp; omega
      have d2 : decide (m < u) = false := by simp; omega
      have w1' : IntKind.i64.wrap (u : Int) = (u : Int) := by rw [IntKind.wrap_i64]; omega
      have w2' : IntKind.i64.wrap ((k2 : Int) + (u : Int)) = (k2 : Int) + (u : Int) := by rw [IntKind.wrap_i64]; omega
      have w3' : IntKind.i64.wrap (k2 : Int) = (k2 : Int) := by rw [IntKind.wrap_i64]; omega
      have hku : k2 + u ≤ all.length := by omega
      have hkc : k2 + u ≤ cap := by omega
      have HU := Lib.hid hum
      have HLL := Lib.hid hL
      have HM := Lib.hid hm
      clear hres ho hum
      go_wp2_with fail
      go_quiet (fail)
      obtain ⟨w3, hw3⟩ : ∃ w3, w3 = w2.drewN nq := ⟨_, rfl⟩
      have hv3 := HV2.out.drewN nq
      rw [← hw3] at hv3 ⊢
      have g1 := hv3.rr.f1
      have b1 := hv3.rr.c1
      have hv4 := hv3.step (hv3.rr.goTo (k2 + u) hku ((k2 : Int) + (u : Int)) (by omega)) (gset _ _ _ _)
      have HV4 := Lib.hid hv4
      clear hr2 HV2 c0 c1 c2 hw3 hv3
      go_wp2_with fail
      obtain ⟨w4, hw4⟩ : ∃ w4, w4 = w3.setCell ⟨rb, 1, none⟩ (.int .i64 ((k2 : Int) + (u : Int))) := ⟨_, rfl⟩
      rw [← hw4] at HV4 ⊢
      have b0 := HV4.out.rr.c0
      have b1 := HV4.out.rr.c1
      obtain ⟨A, C, hsl, hcv⟩ := HV4.out.rr.drew.part k2 u hku
      obtain ⟨S, hS⟩ : ∃ S : ByteArray, (⟨((all.drop k2).take u).toArray⟩ : ByteArray) = S := ⟨_, rfl⟩
      have hsz : S.size ≤ maxLen := by rw [← hS, size_mk, take_drop_len all k2 u hku]; unfold maxLen; omega
      rw [hS] at hcv
      have HSS := Lib.hid hS
      have HSZ := Lib.hid hsz
      clear g1 hw4 hS hsz
      rw [HLL.out] at hsl
      go_still_tail 18, (by kernel_rfl)
      change wpList _ _ _ _ _ w4.drew
      have hv5 : RV w w4.drew rb p a cap all (k2 + u) false := HV4.out.drewN 1
      obtain ⟨w5, hw5⟩ : ∃ w5, w5 = w4.drew := ⟨_, rfl⟩
      rw [← hw5] at hv5 ⊢
      have HV5 := Lib.hid hv5
      obtain ⟨q0, q1, q2, q3, f⟩ := hv5.z
      have f0 := f 0
      have f1 := f 1
      have f2 := f 2
      have f3 := f 3
      clear f hv5 HV4 b0 b1 hw5 hsl hcv
      go_wp2
      obtain ⟨o1, o2⟩ := HV5.out.fin (.int .i64 2) (.int .i64 0) (.string S) (.slice none 0 0)
      refine bodyPost_ret (v := .agg #[.int .i64 2, .int .i64 0, .string S, .slice none 0 0]) (by simp [results, Try.results35, go_sem, q0, q1, q2, q3]) rfl ⟨o2, .inl ⟨_, k2 + u, _, by rw [HS0.out, List.drop_drop], rfl, by rw [HSS.out]; exact own_text S HSZ.out, o1⟩⟩
    · have HN0 : Hid (rdText (all.drop (k + 1)) = none) := Lib.hid (by rw [hres, if_neg hum])
      have d1 : decide ((m : Int) < (u : Int)) = true := by simp; omega
      have d2 : decide (m < u) = true := by simp; omega
      clear hres ho hL
      go_wp2_with fail
      go_quiet (fail)
      obtain ⟨w3, hw3⟩ : ∃ w3, w3 = w2.drewN nq := ⟨_, rfl⟩
      have hv3 := HV2.out.drewN nq
      rw [← hw3] at hv3 ⊢
      have g2 := hv3.rr.f2
      have b2 := hv3.rr.c2
      have HV4 := Lib.hid hv3.fail
      obtain ⟨q0, q1, q2, q3, f⟩ := hv3.z
      have f0 := f 0
      have f1 := f 1
      have f2 := f 2
      have f3 := f 3
      clear hr2 f hv3 HV2 c0 c1 c2 hw3
      go_wp2
      obtain ⟨o1, o2⟩ := HV4.out.fin (.int .i64 0) (.int .i64 0) (.string ⟨#[]⟩) (.slice none 0 0)
      refine bodyPost_ret (v := .agg #[.int .i64 0, .int .i64 0, .string ⟨#[]⟩, .slice none 0 0]) (by simp [results, Try.results35, go_sem, q0, q1, q2, q3]) rfl ⟨o2, .inr ⟨HN0.out, _, _, _, _, _, _, k2, rfl, o1⟩⟩
  · have hv2 := HV1.out.step hr2 hg2
    have hres : rdText (all.drop (k + 1)) = none := by unfold rdText; rw [HO.out, ho]
    have HN0 := Lib.hid hres
    have HV2 := Lib.hid hv2
    have c2 := hr2.c2
    have hne := hv2.ne
    clear hres ho hg2 HV1 hv2
    go_wp2_with fail
    go_quiet (fail)
    obtain ⟨w3, hw3⟩ : ∃ w3, w3 = w2.drewN nq := ⟨_, rfl⟩
    have hv3 := HV2.out.drewN nq
    rw [← hw3] at hv3 ⊢
    have g2 := hv3.rr.f2
    have b2 := hv3.rr.c2
    have HV4 := Lib.hid hv3.fail
    obtain ⟨q0, q1, q2, q3, f⟩ := hv3.z
    have f0 := f 0
    have f1 := f 1
    have f2 := f 2
    have f3 := f 3
    clear hr2 f hv3 HV2 c2 hw3
    go_wp2
    obtain ⟨o1, o2⟩ := HV4.out.fin (.int .i64 0) (.int .i64 0) (.string ⟨#[]⟩) (.slice none 0 0)
    refine bodyPost_ret (v := .agg #[.int .i64 0, .int .i64 0, .string ⟨#[]⟩, .slice none 0 0]) (by simp [results, Try.results35, go_sem, q0, q1, q2, q3]) rfl ⟨o2, .inr ⟨HN0.out, _, _, _, _, _, _, k2, rfl, o1⟩⟩
end Go.Proofs.Ytkecoohplpbgnaa
