/- Fonts, the reference: Width. -/
import Derived.Test.YtljgcpfibamdpaaDoorRfo
import Derived.Test.YtljgcpfibamdpaaDoorRfc
import Derived.Test.YtljgcpfibamdpaaDoorRrn
import Derived.Test.YtljgcpfibamdpaaDoorFwd
namespace Go.Proofs.YtljgcpfibamdpaaDoor
open Go.RowKit

set_option maxRecDepth 100000 in
set_option maxHeartbeats 8000000 in
theorem rwidth_any (w : World) (v : Value) (f : Fo) (h : FAt w w.heap.size v f) (bs : List UInt8) :
    Calls Tryd.prog 17 #[v, .string (str bs)] w fun e w' => e = .returned (.tuple #[.int .i64 (fwW f bs), .int .i64 (frE f bs)]) ∧ Below w.heap.size w w' := by
  have HC := Lib.hid (fun W (hW : Below w.heap.size w W) => rcheck_any W _ f (h.from hW hW.size))
  have HR := Lib.hid (fun W (_ : Below w.heap.size w W) => rrunes_any W bs)
  have HF := Lib.hid h
  obtain ⟨ga, gc, ka, kc, rfl, -, -, -, -, -, -, -⟩ := h.open
  obtain ⟨G, hGe⟩ : ∃ G, f.gs.length = G := ⟨_, rfl⟩
  obtain ⟨K, hKe⟩ : ∃ G, f.ks.length = G := ⟨_, rfl⟩
  obtain ⟨o, hoe⟩ : ∃ G, f.o = G := ⟨_, rfl⟩
  have hec := err_cases f
  unfold fwW frE frV
  by_cases h0 : f.err = 0
  · rw [if_pos h0, if_pos h0]
    obtain ⟨hright, hg1, hk1⟩ := err_ok h0
    simp only [h0] at HC
    by_cases hz : rnsE bs = 0
    · rw [if_pos hz, hz]
      simp only [hz] at HR
      obtain ⟨q1, q2, q3, q4⟩ := rns_ok hz
      have hln : (rnsV bs).length ≤ 4096 := by have := (encs_len (rnsV bs)).1; have h2 := congrArg List.length q4; omega
      obtain ⟨l, hl⟩ : ∃ l, rnsV bs = l := ⟨_, rfl⟩
      simp only [hl] at HR
      rw [hl] at hln ⊢
      have HOF := Lib.hid (fun W (hW : Below w.heap.size w W) (u : Value) (hu : IRow W W.heap.size u l) => rof_any W _ u f l (HF.out.from hW hW.size) hu hright hln)
      obtain ⟨res, hres⟩ : ∃ z, wdt f l l.length = z := ⟨_, rfl⟩
      simp only [hres] at HOF
      rw [hres]
      obtain ⟨M, hM⟩ : ∃ z, l.length = z := ⟨_, rfl⟩
      have HM := Lib.hid hM
      obtain ⟨s, hs⟩ : ∃ s, str bs = s := ⟨_, rfl⟩
      simp only [hs] at HR ⊢
      rw [hGe, hKe, hoe] at HC HOF
      rw [hGe, hKe, hoe]
      clear h h0 hz hl hs hGe hKe hoe HF hright hg1 hk1 hec hres q1 q2 q3 q4 hln hM
      go_enter Tryd.func17, Tryd.ntmps17
      go_wp2_with fail
      have hA := Arr.new w #[.slice ga G gc, .int .i64 o, .slice ka K kc] 36
      have hB1 : Below w.heap.size w (w.alloc (.cells #[.slice ga G gc, .int .i64 o, .slice ka K kc] 36)) := (Below.refl _ _).alloc (Nat.le_refl _) _
      have hl1 : w.heap.size < (w.alloc (.cells #[.slice ga G gc, .int .i64 o, .slice ka K kc] 36)).heap.size := by simp
      obtain ⟨W1, hW1⟩ : ∃ W, w.alloc (.cells #[.slice ga G gc, .int .i64 o, .slice ka K kc] 36) = W := ⟨_, rfl⟩
      rw [hW1] at hA hB1 hl1 ⊢
      refine (HC.out _ hB1).mono ?_
      rintro e w1 ⟨rfl, hb⟩
      have hA1 := hA.below hb hl1
      have HB1 := Lib.hid (hB1.trans (hb.mono hB1.size))
      have hl2 : w.heap.size < w1.heap.size := Nat.lt_of_lt_of_le hl1 hb.size
      clear hW1 hA hB1 hl1 hb
      go_wp2_with fail
      refine (HR.out _ HB1.out).mono ?_
      rintro e w2 ⟨u, rfl, ho, hb2⟩
      rw [HM.out] at ho
      have hA2 := hA1.below hb2 hl2
      have c0 := hA2.cell (i := 0) rfl
      have c1 := hA2.cell (i := 1) rfl
      have c2 := hA2.cell (i := 2) rfl
      have HI := Lib.hid (IRow.of_own (by rw [HM.out]; exact ho))
      have HB2 := Lib.hid (HB1.out.trans (hb2.mono HB1.out.size))
      obtain ⟨la, lc, rfl⟩ := own_slice ho
      clear ho hb2 hA1 hA2
      go_wp2_with fail
      refine (HOF.out _ HB2.out _ HI.out).mono ?_
      rintro e w3 ⟨rfl, hb3⟩
      have HB3 := Lib.hid (HB2.out.trans (hb3.mono HB2.out.size))
      clear hb3
      go_wp2
      go_ret2
      exact ⟨rfl, HB3.out⟩
    · rw [if_neg hz]
      obtain ⟨z, hze⟩ : ∃ z, rnsE bs = z := ⟨_, rfl⟩
      obtain ⟨lv, hlv⟩ : ∃ z, rnsV bs = z := ⟨_, rfl⟩
      simp only [hze, hlv] at HR
      rw [hze] at hz ⊢
      have d : (z != 0) = true := by simpa using hz
      obtain ⟨s, hs⟩ : ∃ s, str bs = s := ⟨_, rfl⟩
      simp only [hs] at HR ⊢
      rw [hGe, hKe, hoe] at HC
      rw [hGe, hKe, hoe]
      clear h h0 hz hze hlv hs hGe hKe hoe HF hright hg1 hk1 hec
      go_enter Tryd.func17, Tryd.ntmps17
      go_wp2_with fail
      have hA := Arr.new w #[.slice ga G gc, .int .i64 o, .slice ka K kc] 36
      have hB1 : Below w.heap.size w (w.alloc (.cells #[.slice ga G gc, .int .i64 o, .slice ka K kc] 36)) := (Below.refl _ _).alloc (Nat.le_refl _) _
      have hl1 : w.heap.size < (w.alloc (.cells #[.slice ga G gc, .int .i64 o, .slice ka K kc] 36)).heap.size := by simp
      obtain ⟨W1, hW1⟩ : ∃ W, w.alloc (.cells #[.slice ga G gc, .int .i64 o, .slice ka K kc] 36) = W := ⟨_, rfl⟩
      rw [hW1] at hA hB1 hl1 ⊢
      refine (HC.out _ hB1).mono ?_
      rintro e w1 ⟨rfl, hb⟩
      have hA1 := hA.below hb hl1
      have HB1 := Lib.hid (hB1.trans (hb.mono hB1.size))
      have hl2 : w.heap.size < w1.heap.size := Nat.lt_of_lt_of_le hl1 hb.size
      clear hW1 hA hB1 hl1 hb
      go_wp2_with fail
      refine (HR.out _ HB1.out).mono ?_
      rintro e w2 ⟨u, rfl, ho, hb2⟩
      have HB2 := Lib.hid (HB1.out.trans (hb2.mono HB1.out.size))
      clear ho hb2 hA1
      go_wp2
      go_ret2
      exact ⟨rfl, HB2.out⟩
  · rw [if_neg h0, if_neg h0]
    obtain ⟨z, hze⟩ : ∃ z, f.err = z := ⟨_, rfl⟩
    simp only [hze] at HC
    rw [hze] at h0 ⊢
    have d : (z != 0) = true := by simpa using h0
    obtain ⟨s, hs⟩ : ∃ s, str bs = s := ⟨_, rfl⟩
    simp only [hs] at HR ⊢
    rw [hGe, hKe, hoe] at HC
    rw [hGe, hKe, hoe]
    clear h h0 hze hs hGe hKe hoe HF hec
    go_enter Tryd.func17, Tryd.ntmps17
    go_wp2_with fail
    have hA := Arr.new w #[.slice ga G gc, .int .i64 o, .slice ka K kc] 36
    have hB1 : Below w.heap.size w (w.alloc (.cells #[.slice ga G gc, .int .i64 o, .slice ka K kc] 36)) := (Below.refl _ _).alloc (Nat.le_refl _) _
    have hl1 : w.heap.size < (w.alloc (.cells #[.slice ga G gc, .int .i64 o, .slice ka K kc] 36)).heap.size := by simp
    obtain ⟨W1, hW1⟩ : ∃ W, w.alloc (.cells #[.slice ga G gc, .int .i64 o, .slice ka K kc] 36) = W := ⟨_, rfl⟩
    rw [hW1] at hA hB1 hl1 ⊢
    refine (HC.out _ hB1).mono ?_
    rintro e w1 ⟨rfl, hb⟩
    have hA1 := hA.below hb hl1
    have HB1 := Lib.hid (hB1.trans (hb.mono hB1.size))
    have hl2 : w.heap.size < w1.heap.size := Nat.lt_of_lt_of_le hl1 hb.size
    clear hW1 hA hB1 hl1 hb
    clear hA1
    go_wp2
    go_ret2
    exact ⟨rfl, HB1.out⟩
end Go.Proofs.YtljgcpfibamdpaaDoor
