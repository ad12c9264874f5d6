/- Stop of the reference. -/
import Derived.Test.YtmklchjgiaomkaaRrd
namespace Go.Proofs.Ytmklchjgiaomkaa
open Go.RowKit

set_option maxHeartbeats 2000000 in
theorem rstop_any (w : World) (d : Dk) (v : Value) (n : Int) (h : DkAt w w.heap.size v d) (hn : In64 n) :
    Calls Try.prog 26 #[v, .int .i64 n] w fun e w' => ∃ u, e = .returned (.tuple #[u, .int .i64 (d.halt n).2]) ∧ DkAt w' w'.heap.size u (d.halt n).1 ∧ Below w.heap.size w w' := by
  have H := Lib.hid h
  obtain ⟨sa, cs, ap, cp, rfl, _, _, _, _, _, hS, hP⟩ := h.open
  have hchk : ∀ W, Below w.heap.size w W → Calls Try.prog 16 #[.agg #[.slice sa d.sec.length cs, .slice ap d.pen.length cp, .int .i64 d.left, .bool d.stop]] W fun e w' => e = .returned (.int .i64 (if d.ok then 0 else 40)) ∧ Below W.heap.size W w' := fun W hW => rcheck_any W d _ (H.out.next hW)
  have hfin : ∀ W, Below w.heap.size w W → DkAt W W.heap.size (.agg #[.slice sa d.sec.length cs, .slice ap d.pen.length cp, .int .i64 n, .bool d.stop]) { d with left := n } := fun W hW => ⟨hn, _, _, rfl, hS.next hW, hP.next hW⟩
  have hbad : (d.ok = false ∨ d.stop = true) → d.halt n = (Dk.zero, 40) := fun hc => by
    unfold Dk.halt; rw [if_neg]
    intro hh
    obtain ⟨h1, h2⟩ := runs_ok hh
    rcases hc with hc | hc
    · rw [h1] at hc; cases hc
    · rw [h2] at hc; cases hc
  have harg : d.ok = true → d.stop = false → (n < 0 ∨ 65536 < n) → d.halt n = (Dk.zero, 1) := fun h1 h2 h3 => by
    unfold Dk.halt; rw [if_pos (runs_of h1 h2), if_pos h3]
  have hgood : d.ok = true → d.stop = false → ¬ (n < 0 ∨ 65536 < n) → d.halt n = ({ d with left := n }, 0) := fun h1 h2 h3 => by
    unfold Dk.halt; rw [if_pos (runs_of h1 h2), if_neg h3]
  obtain ⟨A, hA⟩ : ∃ A, d.halt n = A := ⟨_, rfl⟩
  obtain ⟨D, hD⟩ : ∃ D, ({ d with left := n } : Dk) = D := ⟨_, rfl⟩
  obtain ⟨r, hr⟩ : ∃ r, d.ok = r := ⟨_, rfl⟩
  obtain ⟨k, hk⟩ : ∃ k, d.sec.length = k := ⟨_, rfl⟩
  obtain ⟨p, hp⟩ : ∃ k, d.pen.length = k := ⟨_, rfl⟩
  obtain ⟨left, hle⟩ : ∃ x, d.left = x := ⟨_, rfl⟩
  obtain ⟨st, hst⟩ : ∃ x, d.stop = x := ⟨_, rfl⟩
  rw [hA] at hbad harg hgood ⊢
  rw [hD] at hgood hfin
  rw [hr] at hchk hbad harg hgood
  rw [hst] at hbad harg hgood
  rw [hk, hp, hle, hst] at hchk
  rw [hk, hp, hst] at hfin
  rw [hk, hp, hle, hst]
  have HC := Lib.hid hchk
  have HF := Lib.hid hfin
  have HBAD := Lib.hid hbad
  have HARG := Lib.hid harg
  have HGOOD := Lib.hid hgood
  have HP0 := Lib.hid (fun W => zero_at W W.heap.size)
  clear h H hchk hfin hbad harg hgood hA hD hr hk hp hle hst hS hP
  obtain ⟨w0, hw0⟩ : ∃ w0, w0 = ((w.alloc (.cells #[.slice sa k cs, .slice ap p cp, .int .i64 left, .bool st] 25)).alloc (.cells #[.slice none 0 0, .slice none 0 0, .int .i64 0, .bool false] 25)) := ⟨_, rfl⟩
  have hz : w0.heap.size = w.heap.size + 1 + 1 := by rw [hw0]; simp
  have hX : Arr w0 w.heap.size [.slice sa k cs, .slice ap p cp, .int .i64 left, .bool st] := by
    rw [hw0]; exact (Arr.new w #[.slice sa k cs, .slice ap p cp, .int .i64 left, .bool st] 25).alloc (by simp) _
  have hY : Arr w0 (w.heap.size + 1) [.slice none 0 0, .slice none 0 0, .int .i64 0, .bool false] := by
    rw [hw0]
    have := Arr.new (w.alloc (.cells #[.slice sa k cs, .slice ap p cp, .int .i64 left, .bool st] 25)) #[.slice none 0 0, .slice none 0 0, .int .i64 0, .bool false] 25
    simpa using this
  have hB0 : Below w.heap.size w w0 := by rw [hw0]; go_grown
  have HW0 := Lib.hid hw0
  have HX := Lib.hid hX
  have HY := Lib.hid hY
  have HB0 := Lib.hid hB0
  have HZ := Lib.hid hz
  clear hX hY hB0 hz hw0
  go_enter Try.func26, Try.ntmps26
  go_wp2_with fail
  rw [← HW0.out]
  refine (HC.out _ HB0.out).mono ?_
  rintro e w1 ⟨rfl, hB1⟩
  have hb1 : Below w.heap.size w w1 := HB0.out.trans (hB1.mono (by rw [HZ.out]; omega))
  have HX1 := Lib.hid (HX.out.below hB1 (by rw [HZ.out]; omega))
  have HY1 := Lib.hid (HY.out.below hB1 (by rw [HZ.out]; omega))
  obtain ⟨e0, e1, e2, e3⟩ := HX1.out.four
  obtain ⟨f0, f1, f2, f3⟩ := HX1.out.free
  have HB1 := Lib.hid hb1
  have hlt1 : w.heap.size + 1 < w1.heap.size := by have := hB1.size; rw [HZ.out] at this; omega
  clear hB1 hb1
  by_cases hrs : r = false ∨ st = true
  · obtain rfl := (HBAD.out hrs).symm
    have hrs' : r = false ∨ (r = true ∧ st = true) := by cases r <;> simp_all
    clear hrs
    rcases hrs' with rfl | ⟨rfl, rfl⟩
    all_goals
      go_wp2_with (refine store_disk rfl (.tmp 4) (.tmp 13) rfl (w.heap.size + 1) _ _ _ _ _ _ _ _ (by rfl) (by rfl) HY1.out rfl ?_; intro W3 hG3 hA3; obtain ⟨y0, y1, y2, y3⟩ := hA3.four)
      have hB3 := below_grow HB1.out hG3 (fun j hj => by cases hj; omega) (by omega)
      refine bodyPost_ret (v := .tuple #[.agg #[.slice none 0 0, .slice none 0 0, .int .i64 0, .bool false], .int .i64 40]) (by simp [results, Try.results26, go_sem, y0, y1, y2, y3]) rfl ⟨_, rfl, HP0.out _, hB3⟩
  obtain ⟨rfl, rfl⟩ : r = true ∧ st = false := by cases r <;> cases st <;> simp_all
  clear hrs
  by_cases hlo : n < 0 ∨ 65536 < n
  · obtain rfl := (HARG.out rfl rfl hlo).symm
    have hlo' : decide (n < 0) = true ∨ (decide (n < 0) = false ∧ decide (65536 < n) = true) := by
      by_cases h : n < 0
      · exact .inl (by simpa using h)
      · exact .inr ⟨by simpa using h, by simp; omega⟩
    clear hlo
    rcases hlo' with d1 | ⟨d1, d2⟩
    all_goals
      go_wp2_with (refine store_disk rfl (.tmp 4) (.tmp 20) rfl (w.heap.size + 1) _ _ _ _ _ _ _ _ (by rfl) (by rfl) HY1.out rfl ?_; intro W3 hG3 hA3; obtain ⟨y0, y1, y2, y3⟩ := hA3.four)
      have hB3 := below_grow HB1.out hG3 (fun j hj => by cases hj; omega) (by omega)
      refine bodyPost_ret (v := .tuple #[.agg #[.slice none 0 0, .slice none 0 0, .int .i64 0, .bool false], .int .i64 1]) (by simp [results, Try.results26, go_sem, y0, y1, y2, y3]) rfl ⟨_, rfl, HP0.out _, hB3⟩
  obtain rfl := (HGOOD.out rfl rfl hlo).symm
  have d1 : decide (n < 0) = false := by simp; omega
  have d2 : decide (65536 < n) = false := by simp; omega
  have hX2 := HX1.out.set 2 (.int .i64 n)
  have hY2 := HY1.out.other (b' := w.heap.size) (by omega) 2 (.int .i64 n)
  have hB2 : Below w.heap.size w (w1.setCell ⟨w.heap.size, 2, none⟩ (.int .i64 n)) := HB1.out.setCell (p := ⟨w.heap.size, 2, none⟩) (Nat.le_refl _) _
  have HX2 := Lib.hid hX2
  have HY2 := Lib.hid hY2
  have HB2 := Lib.hid hB2
  clear hX2 hY2 hB2 hlo
  go_wp2_with (refine store_disk rfl (.tmp 4) (.tmp 23) rfl (w.heap.size + 1) _ _ _ _ _ _ _ _ (by rfl) (by rfl) HY2.out rfl ?_; intro W3 hG3 hA3; obtain ⟨y0, y1, y2, y3⟩ := hA3.four)
  have hB3 := below_grow HB2.out hG3 (fun j hj => by cases hj; omega) (by simp; omega)
  refine bodyPost_ret (v := .tuple #[.agg #[.slice sa k cs, .slice ap p cp, .int .i64 n, .bool false], .int .i64 0]) (by simp [results, Try.results26, go_sem, y0, y1, y2, y3]) rfl ⟨_, rfl, HF.out _ hB3, hB3⟩
end Go.Proofs.Ytmklchjgiaomkaa
