/- Read and Stop of disk. -/
import Derived.Test.YtmklchjgiaomkaaNew
namespace Go.Proofs.Ytmklchjgiaomkaa
open Go.RowKit

theorem runs_ok {d : Dk} (h : d.runs = true) : d.ok = true ∧ d.stop = false := by
  unfold Dk.runs at h; rw [Bool.and_eq_true] at h; exact ⟨h.1, by simpa using h.2⟩
theorem has_iff {d : Dk} {n : Int} : d.has n = true ↔ 0 ≤ n ∧ n < d.sec.length := by unfold Dk.has; simp
theorem ok_lens {d : Dk} (h : d.ok = true) : 1 ≤ d.sec.length ∧ d.sec.length ≤ 4096 ∧ d.pen.length ≤ 4096 ∧ (∀ s ∈ d.sec, s.length = 128) ∧ (∀ x ∈ d.pen, 0 ≤ x.1 ∧ x.1 < d.sec.length ∧ x.2.length = 128) ∧ -1 ≤ d.left ∧ d.left ≤ 65536 := by
  obtain ⟨⟨h1, h2, h3⟩, h4, h5, h6, h7⟩ := (ok_iff d).1 h
  exact ⟨h1, h2, h3, okSec_get h4, okPen_get h5, h6, h7⟩
theorem curOf_len (n : Int) (l : List (Int × By)) (z : By) (hz : z.length = 128) (h : ∀ x ∈ l, x.2.length = 128) : (curOf n l z).length = 128 := by
  unfold curOf
  induction l generalizing z with
  | nil => exact hz
  | cons x l ih =>
    rw [List.foldl_cons]
    refine ih _ ?_ (fun y hy => h y (List.mem_cons_of_mem _ hy))
    split
    · exact h x (by simp)
    · exact hz
theorem cur_len {d : Dk} (h : d.ok = true) {n : Nat} (hn : n < d.sec.length) : (d.cur n).length = 128 := by
  obtain ⟨_, _, _, h4, h5, _⟩ := ok_lens h
  refine curOf_len _ _ _ ?_ fun x hx => (h5 x hx).2.2
  rw [Int.toNat_natCast, List.getD_eq_getElem?_getD, List.getElem?_eq_getElem hn]
  exact h4 _ (List.getElem_mem hn)
theorem pad_full {b : By} (h : b.length = 128) : pad b = b := by unfold pad; rw [h]; simp

set_option maxHeartbeats 1000000 in
theorem read_any (w : World) (d : Dk) (v : Value) (n : Int) (h : DkAt w w.heap.size v d) :
    Calls Try.prog 21 #[v, .int .i64 n] w fun e w' => ∃ u, e = .returned (.tuple #[u, .int .i64 (d.read n).2]) ∧ BytesAt w' w'.heap.size u (d.read n).1 ∧ Below w.heap.size w w' := by
  have H := Lib.hid h
  obtain ⟨sa, cs, ap, cp, rfl, _⟩ := h.open
  have hruns : ∀ W, Below w.heap.size w W → Calls Try.prog 31 #[.agg #[.slice sa d.sec.length cs, .slice ap d.pen.length cp, .int .i64 d.left, .bool d.stop]] W fun e w' => e = .returned (.bool d.runs) ∧ Below W.heap.size W w' := fun W hW => runs_any W d _ (H.out.next hW)
  have hhas : ∀ W, Below w.heap.size w W → Calls Try.prog 32 #[.agg #[.slice sa d.sec.length cs, .slice ap d.pen.length cp, .int .i64 d.left, .bool d.stop], .int .i64 n] W fun e w' => e = .returned (.bool (d.has n)) ∧ Below W.heap.size W w' := fun W hW => has_any W d _ _ n (H.out.next hW)
  have hcur : d.runs = true → d.has n = true → ∀ W, Below w.heap.size w W → Calls Try.prog 34 #[.agg #[.slice sa d.sec.length cs, .slice ap d.pen.length cp, .int .i64 d.left, .bool d.stop], .int .i64 n] W fun e w' => ∃ u, e = .returned u ∧ BytesAt w' w'.heap.size u (d.cur n) ∧ (d.cur n).length = 128 ∧ Below W.heap.size W w' := by
    intro h1 h2 W hW
    obtain ⟨i0, i1⟩ := has_iff.1 h2
    obtain ⟨k, rfl⟩ : ∃ k : Nat, n = k := ⟨n.toNat, by omega⟩
    have ho := (runs_ok h1).1
    obtain ⟨_, l2, l3, _⟩ := ok_lens ho
    exact (current_any W d _ k (H.out.next hW) (by omega) (by omega) (by omega)).mono fun e w' ⟨u, e1, e2, e3⟩ => ⟨u, e1, e2, cur_len ho (by omega), e3⟩
  unfold Dk.read
  obtain ⟨r, hr⟩ : ∃ r, d.runs = r := ⟨_, rfl⟩
  obtain ⟨t, ht⟩ : ∃ r, d.has n = r := ⟨_, rfl⟩
  obtain ⟨c, hcu⟩ : ∃ r, d.cur n = r := ⟨_, rfl⟩
  rw [hr] at hruns hcur
  rw [ht] at hhas hcur
  rw [hcu] at hcur
  rw [hr, ht, hcu]
  obtain ⟨k, hk⟩ : ∃ k, d.sec.length = k := ⟨_, rfl⟩
  obtain ⟨p, hp⟩ : ∃ k, d.pen.length = k := ⟨_, rfl⟩
  obtain ⟨left, hle⟩ : ∃ x, d.left = x := ⟨_, rfl⟩
  obtain ⟨st, hst⟩ : ∃ x, d.stop = x := ⟨_, rfl⟩
  rw [hk, hp, hle, hst] at hruns hhas hcur
  rw [hk, hp, hle, hst]
  have HR := Lib.hid hruns
  have HH := Lib.hid hhas
  have HC := Lib.hid hcur
  clear h H hruns hhas hcur hr ht hcu hk hp hle hst
  have hX := Cells4.new w (.slice sa k cs) (.slice ap p cp) (.int .i64 left) (.bool st) 25
  have hz : (w.alloc (.cells #[.slice sa k cs, .slice ap p cp, .int .i64 left, .bool st] 25)).heap.size = w.heap.size + 1 := by simp
  have HX := Lib.hid hX
  have HB0 := Lib.hid (show Below w.heap.size w (w.alloc (.cells #[.slice sa k cs, .slice ap p cp, .int .i64 left, .bool st] 25)) by go_grown)
  have HZ := Lib.hid hz
  clear hX hz
  go_enter Try.func21, Try.ntmps21
  go_wp2_with fail
  refine (HR.out _ HB0.out).mono ?_
  rintro e w1 ⟨rfl, hB1⟩
  have hb1 : Below w.heap.size w w1 := HB0.out.trans (hB1.mono (by rw [HZ.out]; omega))
  obtain ⟨e0, e1, e2, e3⟩ := HX.out.next hB1
  have HX1 := Lib.hid (HX.out.next hB1)
  have HB1 := Lib.hid hb1
  clear hB1 hb1
  cases r with
  | false =>
    go_wp2
    go_ret2
    exact ⟨_, rfl, bytes_nil _ _ _, HB1.out⟩
  | true =>
    go_wp2_with fail
    refine (HH.out _ HB1.out).mono ?_
    rintro e w2 ⟨rfl, hB2⟩
    have hb2 : Below w.heap.size w w2 := HB1.out.trans (hB2.mono HB1.out.size)
    obtain ⟨y0, y1, y2, y3⟩ := HX1.out.next hB2
    have HB2 := Lib.hid hb2
    clear hB2 hb2
    cases t with
    | false =>
      go_wp2
      go_ret2
      exact ⟨_, rfl, bytes_nil _ _ _, HB2.out⟩
    | true =>
      go_wp2_with fail
      refine (HC.out (by simp) (by simp) _ HB2.out).mono ?_
      rintro e w3 ⟨u, rfl, hu, hcl, hB3⟩
      have hS := sector_any w3 u c w3.heap.size hu (by omega) (Nat.le_refl _)
      rw [pad_full hcl] at hS
      have HS := Lib.hid hS
      have HB3 := Lib.hid (HB2.out.trans (hB3.mono HB2.out.size))
      have HCL := Lib.hid hcl
      clear hS hB3 hcl
      go_wp2_with fail
      refine HS.out.mono ?_
      rintro e w4 ⟨rfl, hA4, hB4⟩
      have hfin : BytesAt w4 w4.heap.size (.slice (some ⟨w3.heap.size, 0, none⟩) 128 128) c ∧ Below w.heap.size w w4 := ⟨hA4.bytesAt HCL.out (hA4.lt (by rw [cells8_len, HCL.out]; omega)) (Nat.le_refl _) (by unfold maxLen; omega), HB3.out.trans (hB4.mono HB3.out.size)⟩
      have HF := Lib.hid hfin
      clear hA4 hB4 hfin
      go_wp2
      go_ret2
      exact ⟨_, rfl, HF.out.1, HF.out.2⟩

set_option maxHeartbeats 1000000 in
theorem stop_any (w : World) (d : Dk) (v : Value) (n : Int) (h : DkAt w w.heap.size v d) (hn : In64 n) :
    Calls Try.prog 25 #[v, .int .i64 n] w fun e w' => ∃ u, e = .returned (.tuple #[u, .int .i64 (d.halt n).2]) ∧ DkAt w' w'.heap.size u (d.halt n).1 ∧ Below w.heap.size w w' := by
  have H := Lib.hid h
  obtain ⟨sa, cs, ap, cp, rfl, _, _, _, _, _, hS, hP⟩ := h.open
  have hruns : ∀ W, Below w.heap.size w W → Calls Try.prog 31 #[.agg #[.slice sa d.sec.length cs, .slice ap d.pen.length cp, .int .i64 d.left, .bool d.stop]] W fun e w' => e = .returned (.bool d.runs) ∧ Below W.heap.size W w' := fun W hW => runs_any W d _ (H.out.next hW)
  have hfin : ∀ W, Below w.heap.size w W → DkAt W W.heap.size (.agg #[.slice sa d.sec.length cs, .slice ap d.pen.length cp, .int .i64 n, .bool d.stop]) { d with left := n } := fun W hW => ⟨hn, _, _, rfl, hS.next hW, hP.next hW⟩
  unfold Dk.halt
  obtain ⟨r, hr⟩ : ∃ r, d.runs = r := ⟨_, rfl⟩
  rw [hr] at hruns
  rw [hr]
  obtain ⟨k, hk⟩ : ∃ k, d.sec.length = k := ⟨_, rfl⟩
  obtain ⟨p, hp⟩ : ∃ k, d.pen.length = k := ⟨_, rfl⟩
  obtain ⟨left, hle⟩ : ∃ x, d.left = x := ⟨_, rfl⟩
  obtain ⟨st, hst⟩ : ∃ x, d.stop = x := ⟨_, rfl⟩
  rw [hk, hp, hle, hst] at hruns
  rw [hk, hp, hst] at hfin
  rw [hk, hp, hle, hst]
  have HR := Lib.hid hruns
  have HF := Lib.hid hfin
  have HP0 := Lib.hid (fun W => zero_at W W.heap.size)
  clear h H hruns hfin hr hk hp hle hst hS hP
  obtain ⟨w0, hw0⟩ : ∃ w0, w0 = ((w.alloc (.cells #[.slice sa k cs, .slice ap p cp, .int .i64 left, .bool st] 25)).alloc (.cells #[.slice none 0 0, .slice none 0 0, .int .i64 0, .bool false] 25)) := ⟨_, rfl⟩
  have hz : w0.heap.size = w.heap.size + 1 + 1 := by rw [hw0]; simp
  have hX : Arr w0 w.heap.size [.slice sa k cs, .slice ap p cp, .int .i64 left, .bool st] := by
    rw [hw0]; exact (Arr.new w #[.slice sa k cs, .slice ap p cp, .int .i64 left, .bool st] 25).alloc (by simp) _
  have hY : Arr w0 (w.heap.size + 1) [.slice none 0 0, .slice none 0 0, .int .i64 0, .bool false] := by
    rw [hw0]
    have := Arr.new (w.alloc (.cells #[.slice sa k cs, .slice ap p cp, .int .i64 left, .bool st] 25)) #[.slice none 0 0, .slice none 0 0, .int .i64 0, .bool false] 25
    simpa using this
  have hB0 : Below w.heap.size w w0 := by rw [hw0]; go_grown
  have HW0 := Lib.hid hw0
  have HX := Lib.hid hX
  have HY := Lib.hid hY
  have HB0 := Lib.hid hB0
  have HZ := Lib.hid hz
  clear hX hY hB0 hz hw0
  go_enter Try.func25, Try.ntmps25
  go_wp2_with fail
  rw [← HW0.out]
  refine (HR.out _ HB0.out).mono ?_
  rintro e w1 ⟨rfl, hB1⟩
  have hb1 : Below w.heap.size w w1 := HB0.out.trans (hB1.mono (by rw [HZ.out]; omega))
  have HX1 := Lib.hid (HX.out.below hB1 (by rw [HZ.out]; omega))
  have HY1 := Lib.hid (HY.out.below hB1 (by rw [HZ.out]; omega))
  obtain ⟨e0, e1, e2, e3⟩ := HX1.out.four
  obtain ⟨f0, f1, f2, f3⟩ := HX1.out.free
  have HB1 := Lib.hid hb1
  have hlt1 : w.heap.size + 1 < w1.heap.size := by have := hB1.size; rw [HZ.out] at this; omega
  clear hB1 hb1
  cases r with
  | false =>
    go_wp2_with (refine store_disk rfl (.tmp 4) (.tmp 9) rfl (w.heap.size + 1) _ _ _ _ _ _ _ _ (by rfl) (by rfl) HY1.out rfl ?_; intro W3 hG3 hA3; obtain ⟨y0, y1, y2, y3⟩ := hA3.four)
    have hB3 := below_grow HB1.out hG3 (fun j hj => by cases hj; omega) (by omega)
    refine bodyPost_ret (v := .tuple #[.agg #[.slice none 0 0, .slice none 0 0, .int .i64 0, .bool false], .int .i64 40]) (by simp [results, Try.results25, go_sem, y0, y1, y2, y3]) rfl ⟨_, rfl, HP0.out _, hB3⟩
  | true =>
    by_cases hlo : n < 0
    · have d1 : decide (n < 0) = true := by simpa using hlo
      have hif : (n < 0 ∨ 65536 < n) := .inl hlo
      simp only
      clear hif
      go_wp2_with (refine store_disk rfl (.tmp 4) (.tmp 16) rfl (w.heap.size + 1) _ _ _ _ _ _ _ _ (by rfl) (by rfl) HY1.out rfl ?_; intro W3 hG3 hA3; obtain ⟨y0, y1, y2, y3⟩ := hA3.four)
      have hB3 := below_grow HB1.out hG3 (fun j hj => by cases hj; omega) (by omega)
      refine bodyPost_ret (v := .tuple #[.agg #[.slice none 0 0, .slice none 0 0, .int .i64 0, .bool false], .int .i64 1]) (by simp [results, Try.results25, go_sem, y0, y1, y2, y3]) rfl ⟨_, rfl, HP0.out _, hB3⟩
    have d1 : decide (n < 0) = false := by simpa using hlo
    by_cases hhi : 65536 < n
    · have d2 : decide (65536 < n) = true := by simpa using hhi
      have hif : (n < 0 ∨ 65536 < n) := .inr hhi
      simp only
      clear hif
      go_wp2_with (refine store_disk rfl (.tmp 4) (.tmp 16) rfl (w.heap.size + 1) _ _ _ _ _ _ _ _ (by rfl) (by rfl) HY1.out rfl ?_; intro W3 hG3 hA3; obtain ⟨y0, y1, y2, y3⟩ := hA3.four)
      have hB3 := below_grow HB1.out hG3 (fun j hj => by cases hj; omega) (by omega)
      refine bodyPost_ret (v := .tuple #[.agg #[.slice none 0 0, .slice none 0 0, .int .i64 0, .bool false], .int .i64 1]) (by simp [results, Try.results25, go_sem, y0, y1, y2, y3]) rfl ⟨_, rfl, HP0.out _, hB3⟩
    have d2 : decide (65536 < n) = false := by simpa using hhi
    have hif : ¬ (n < 0 ∨ 65536 < n) := by omega
    simp only
    have hX2 := HX1.out.set 2 (.int .i64 n)
    have hY2 := HY1.out.other (b' := w.heap.size) (by omega) 2 (.int .i64 n)
    have hB2 : Below w.heap.size w (w1.setCell ⟨w.heap.size, 2, none⟩ (.int .i64 n)) := HB1.out.setCell (p := ⟨w.heap.size, 2, none⟩) (Nat.le_refl _) _
    have HX2 := Lib.hid hX2
    have HY2 := Lib.hid hY2
    have HB2 := Lib.hid hB2
    clear hX2 hY2 hB2 hif
    go_wp2_with (refine store_disk rfl (.tmp 4) (.tmp 19) rfl (w.heap.size + 1) _ _ _ _ _ _ _ _ (by rfl) (by rfl) HY2.out rfl ?_; intro W3 hG3 hA3; obtain ⟨y0, y1, y2, y3⟩ := hA3.four)
    have hB3 := below_grow HB2.out hG3 (fun j hj => by cases hj; omega) (by simp; omega)
    refine bodyPost_ret (v := .tuple #[.agg #[.slice sa k cs, .slice ap p cp, .int .i64 n, .bool st], .int .i64 0]) (by simp [results, Try.results25, go_sem, y0, y1, y2, y3]) rfl ⟨_, rfl, HF.out _ hB3, hB3⟩
end Go.Proofs.Ytmklchjgiaomkaa
