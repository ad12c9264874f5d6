/- Fonts: the width of a code point. -/
import Derived.Test.YtljgcpfibamdpaaDoorFse
namespace Go.Proofs.YtljgcpfibamdpaaDoor
open Go.RowKit

set_option maxRecDepth 100000 in
set_option maxHeartbeats 2000000 in
theorem widthOf_any (w : World) (v : Value) (f : Fo) (h : FAt w w.heap.size v f) (hr : okGs f.gs = true) (hL : f.gs.length ≤ 1024) (r : Int) :
    Calls Tryd.prog 59 #[v, .int .i64 r] w fun e w' => e = .returned (.int .i64 (oneW f r)) ∧ Below w.heap.size w w' := by
  obtain ⟨ga, gc, ka, kc, rfl, -, -, -, -, -, hg, -⟩ := h.open
  have HOF := Lib.hid (fun k (h1 : k ≤ f.gs.length) h2 h3 => oneW_of (f := f) hr (r := r) (k := k) h1 h2 h3)
  have H75 := Lib.hid (fun W (hW : Below w.heap.size w W) (R : Nat) (hR : W.cell? ⟨R, 0, none⟩ = some (.int .i64 r)) => first_gl W R r _ f.gs (hg.from hW hW.size) hR hL)
  obtain ⟨N, hN⟩ : ∃ N, f.gs.length = N := ⟨_, rfl⟩
  obtain ⟨M, hM⟩ : ∃ N, f.ks.length = N := ⟨_, rfl⟩
  obtain ⟨o, ho⟩ : ∃ o, f.o = o := ⟨_, rfl⟩
  obtain ⟨res, hres⟩ : ∃ o, oneW f r = o := ⟨_, rfl⟩
  rw [hN, ho, hres] at HOF
  rw [hN] at H75
  rw [hN, hM, ho, hres]
  have HN := Lib.hid hN
  clear hg h hr hN hM ho hres
  go_enter Tryd.func59, Tryd.ntmps59
  go_wp2_with fail
  have hA0 := (Arr.new w #[.slice ga N gc, .int .i64 o, .slice ka M kc] 36).alloc (by simp) (.cells #[.int .i64 r] 3)
  have hA1 := Arr.new (w.alloc (.cells #[.slice ga N gc, .int .i64 o, .slice ka M kc] 36)) #[.int .i64 r] 3
  have hB2 : Below w.heap.size w ((w.alloc (.cells #[.slice ga N gc, .int .i64 o, .slice ka M kc] 36)).alloc (.cells #[.int .i64 r] 3)) := ((Below.refl _ _).alloc (Nat.le_refl _) _).alloc (by simp) _
  have hz : ((w.alloc (.cells #[.slice ga N gc, .int .i64 o, .slice ka M kc] 36)).alloc (.cells #[.int .i64 r] 3)).heap.size = w.heap.size + 2 := by simp
  simp only [World.size_alloc] at hA1
  obtain ⟨W2, hW2⟩ : ∃ W, (w.alloc (.cells #[.slice ga N gc, .int .i64 o, .slice ka M kc] 36)).alloc (.cells #[.int .i64 r] 3) = W := ⟨_, rfl⟩
  rw [hW2] at hA0 hA1 hB2 hz ⊢
  clear hW2
  refine (H75.out W2 hB2 (w.heap.size + 1) (hA1.cell (i := 0) rfl)).mono ?_
  rintro e w3 ⟨k, rfl, hk, hlo, hhi, hb⟩
  have HW := Lib.hid (HOF.out k hk hlo hhi)
  have HB3 := Lib.hid (hB2.trans (hb.mono hB2.size))
  have hA0' := hA0.below hb (by omega)
  have hA1' := hA1.below hb (by omega)
  have HK := Lib.hid hk
  have HZ3 : Hid (w.heap.size + 2 ≤ w3.heap.size) := Lib.hid (by have := hb.size; omega)
  clear hk hlo hhi hb hA0 hA1 hB2 hz HOF H75
  unfold Tri.val fstT
  by_cases hkN : k < N
  · have hcl : k < f.gs.length := by rw [HN.out]; exact hkN
    rw [if_pos hcl]
    have dk : decide (k < N) = true := by simpa using hkN
    obtain ⟨t, ht⟩ : ∃ t, f.gs.getD k tri0 = t := ⟨_, rfl⟩
    rw [ht] at HW ⊢
    rw [dk]
    obtain ⟨x, y, z⟩ := t
    dsimp only at HW ⊢
    have hA3 := hA1'.alloc (by have := HZ3.out; omega) (.cells #[.int .i64 x, .int .i64 y, .int .i64 z] 47)
    have hA4 := hA0'.alloc (by have := HZ3.out; omega) (.cells #[.int .i64 x, .int .i64 y, .int .i64 z] 47)
    have cr := hA3.cell (i := 0) rfl
    have co := hA4.cell (i := 1) rfl
    clear hA0' hA1' hA3 hA4 dk ht
    by_cases hx : x ≤ r
    · have d1 : decide (x ≤ r) = true := by simpa using hx
      have hres := HW.out
      rw [if_pos ⟨hkN, hx⟩] at hres
      have HRS := Lib.hid hres
      clear hx hcl hkN HW hres
      go_wp2
      go_ret
      exact ⟨by rw [HRS.out]; rfl, HB3.out.alloc HB3.out.size _⟩
    · have d1 : decide (x ≤ r) = false := by simpa using hx
      have hres := HW.out
      rw [if_neg (fun h => hx h.2)] at hres
      have HRS := Lib.hid hres
      clear hx hcl hkN HW hres
      go_wp2
      go_ret
      exact ⟨by rw [HRS.out]; rfl, HB3.out.alloc HB3.out.size _⟩
  · have hcl : ¬ k < f.gs.length := by rw [HN.out]; exact hkN
    rw [if_neg hcl]
    have dk : decide (k < N) = false := by simpa using hkN
    rw [dk]
    have hA4 := hA0'.alloc (by have := HZ3.out; omega) (.cells #[.int .i64 0, .int .i64 0, .int .i64 0] 47)
    have co := hA4.cell (i := 1) rfl
    have hres := HW.out
    rw [if_neg (fun h => hkN h.1)] at hres
    have HRS := Lib.hid hres
    clear hA0' hA1' hA4 dk hcl hkN HW hres
    unfold tri0
    dsimp only
    go_wp2
    go_ret
    exact ⟨by rw [HRS.out]; rfl, HB3.out.alloc HB3.out.size _⟩
end Go.Proofs.YtljgcpfibamdpaaDoor
