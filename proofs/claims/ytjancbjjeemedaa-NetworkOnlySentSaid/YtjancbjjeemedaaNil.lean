/- New; the library's functions on rows without elements; Site, Packet of the reference. -/
import Derived.Test.YtjancbjjeemedaaSam
import Derived.Test.YtjancbjjeemedaaApp
namespace Go.Proofs.Ytjancbjjeemedaa
open Go.RowKit

theorem new_any (w : World) : Calls Try.prog 16 #[] w fun e w' => e = .returned (.agg #[.slice none 0 0, .slice none 0 0]) ∧ Below w.heap.size w w' := by
  go_enter Try.func16, Try.ntmps16
  go_wp2
  refine bodyPost_ret (v := .agg #[.slice none 0 0, .slice none 0 0]) (by simp [results, Try.results16, go_sem]) rfl ⟨rfl, by go_grown⟩
theorem rnew_any (w : World) : Calls Try.prog 17 #[] w fun e w' => e = .returned (.agg #[.slice none 0 0, .slice none 0 0]) ∧ Below w.heap.size w w' := by
  go_enter Try.func17, Try.ntmps17
  go_wp2
  refine bodyPost_ret (v := .agg #[.slice none 0 0, .slice none 0 0]) (by simp [results, Try.results17, go_sem]) rfl ⟨rfl, by first | exact Below.refl _ _ | go_grown⟩
theorem rsite_any (w : World) (a : Int) : Calls Try.prog 34 #[.int .i64 a] w fun e w' => e = .returned (.bool (decide (0 ≤ a) && decide (a < 24))) ∧ w' = w := by
  by_cases h1 : 0 ≤ a
  · have d1 : decide (0 ≤ a) = true := by simpa using h1
    rw [d1, Bool.true_and]
    go_enter Try.func34, Try.ntmps34
    go_wp2
    go_ret
    exact ⟨by simp, rfl⟩
  · have d1 : decide (0 ≤ a) = false := by simpa using h1
    rw [d1, Bool.false_and]
    go_enter Try.func34, Try.ntmps34
    go_wp2
    go_ret
    exact ⟨by simp, rfl⟩
/-- A search among no pairs. -/
theorem bsf_nil (w : World) (x y : Int) (f : Value) : Calls Try.prog 38 #[.slice none 0 0, .agg #[.int .i64 x, .int .i64 y], f] w fun e w' => e = .returned (.tuple #[.int .i64 0, .bool false]) ∧ Below w.heap.size w w' := by
  go_enter Try.func38, Try.ntmps38
  go_wp2_with fail
  go_loopw [9, 10] (fun i j wr => i = .int .i64 0 ∧ j = .int .i64 0 ∧ Below w.heap.size w wr) (fun _ _ _ => 0)
  case atStart => exact ⟨rfl, rfl, by go_grown⟩
  case round =>
    obtain ⟨rfl, rfl, hb⟩ := hrel
    have HB := Lib.hid hb
    clear hb
    go_wp2
    go_quiet (fail)
    go_wp2
    go_ret2
    exact ⟨rfl, below_drewN HB.out _⟩

set_option maxRecDepth 100000 in
set_option maxHeartbeats 1000000 in
theorem rpk_any (w : World) (p : Pk) (da : Option Addr) (dc : Nat) : Calls Try.prog 31 #[.agg #[.int .i64 p.frm, .int .i64 p.to, .slice da p.data.length dc]] w fun e w' => e = .returned (.bool (okPk p)) ∧ Below w.heap.size w w' := by
  have hy := okPair_iff p.frm p.to
  have hn := @okPair_no p.frm p.to
  have hr : okPk p = (okPair p.frm p.to && decide (p.data.length ≤ 1048576)) := rfl
  rw [hr]
  have h1 := fun W => rsite_any W p.frm
  have h2 := fun W => rsite_any W p.to
  obtain ⟨x, hx⟩ : ∃ x, p.frm = x := ⟨_, rfl⟩
  obtain ⟨y, hy'⟩ : ∃ x, p.to = x := ⟨_, rfl⟩
  obtain ⟨n, hnn⟩ : ∃ n, p.data.length = n := ⟨_, rfl⟩
  rw [hx, hy'] at hy hn ⊢
  rw [hnn]
  rw [hx] at h1
  rw [hy'] at h2
  obtain ⟨r, hrr⟩ : ∃ r, okPair x y = r := ⟨_, rfl⟩
  rw [hrr] at hy hn ⊢
  have HB : Hid (Below w.heap.size w (w.alloc (Obj.cells #[.int .i64 x, .int .i64 y, .slice da n dc] 28))) := Lib.hid ((Below.refl _ _).alloc (Nat.le_refl _) _)
  obtain ⟨a, ha⟩ : ∃ a, (decide (0 ≤ x) && decide (x < 24)) = a := ⟨_, rfl⟩
  obtain ⟨b, hb⟩ : ∃ a, (decide (0 ≤ y) && decide (y < 24)) = a := ⟨_, rfl⟩
  simp only [ha] at h1
  simp only [hb] at h2
  have H1 := Lib.hid h1
  have H2 := Lib.hid h2
  have ed : decide ((n : Int) ≤ 1048576) = decide (n ≤ 1048576) := by
    by_cases h : n ≤ 1048576
    · have : (n : Int) ≤ 1048576 := by omega
      simp [h, this]
    · have : ¬ (n : Int) ≤ 1048576 := by omega
      simp [h, this]
  clear hr h1 h2 hx hy' hnn hrr
  cases a with
  | false =>
    obtain rfl := hn (by
      intro h
      have : (decide (0 ≤ x) && decide (x < 24)) = true := by simp; omega
      rw [this] at ha; cases ha)
    clear hy hn ha hb
    go_enter Try.func31, Try.ntmps31
    go_wp2_with fail
    refine (H1.out _).mono ?_
    rintro e w1 ⟨rfl, rfl⟩
    go_wp2
    go_ret
    exact ⟨by simp, HB.out⟩
  | true =>
    cases b with
    | false =>
      obtain rfl := hn (by
        intro h
        have : (decide (0 ≤ y) && decide (y < 24)) = true := by simp; omega
        rw [this] at hb; cases hb)
      clear hy hn ha hb
      go_enter Try.func31, Try.ntmps31
      go_wp2_with fail
      refine (H1.out _).mono ?_
      rintro e w1 ⟨rfl, rfl⟩
      go_wp2_with fail
      refine (H2.out _).mono ?_
      rintro e w1 ⟨rfl, rfl⟩
      go_wp2
      go_ret
      exact ⟨by simp, HB.out⟩
    | true =>
      simp at ha hb
      by_cases hxy : x = y
      · subst hxy
        obtain rfl := hn (by omega)
        have dx : (x != x) = false := by simp
        clear hy hn ha hb
        go_enter Try.func31, Try.ntmps31
        go_wp2_with fail
        refine (H1.out _).mono ?_
        rintro e w1 ⟨rfl, rfl⟩
        go_wp2_with fail
        refine (H2.out _).mono ?_
        rintro e w1 ⟨rfl, rfl⟩
        go_wp2
        go_ret
        exact ⟨by simp, HB.out⟩
      · have dx : (x != y) = true := by simpa using hxy
        obtain rfl := hy.2 (by omega)
        clear hy hn ha hb hxy
        go_enter Try.func31, Try.ntmps31
        go_wp2_with fail
        refine (H1.out _).mono ?_
        rintro e w1 ⟨rfl, rfl⟩
        go_wp2_with fail
        refine (H2.out _).mono ?_
        rintro e w1 ⟨rfl, rfl⟩
        go_wp2
        go_ret
        exact ⟨by simp, HB.out⟩

theorem Try.info55 : (Try.prog.info? 55).map (fun i => (i.zero, i.size, i.bytes)) = some (some (.agg #[.int .i64 0, .int .i64 0]), 2, 16) := by kernel_rfl
/-- A pair into a row without pairs. -/
theorem insert_nil (w : World) (g : Nat) (x y : Int) (hx : In64 x ∧ In64 y) (h0 : w.cell? ⟨g, 0, none⟩ = some (.int .i64 x)) (h1 : w.cell? ⟨g, 1, none⟩ = some (.int .i64 y)) :
    Calls Try.prog 40 #[.slice none 0 0, .int .i64 0, .slice (some ⟨g, 0, none⟩) 1 1] w fun e w' => ∃ c, e = .returned (.slice (some ⟨w.heap.size, 0, none⟩) 1 c) ∧ AAt w' w'.heap.size (.slice (some ⟨w.heap.size, 0, none⟩) 1 c) [(x, y)] ∧ Below w.heap.size w w' := by
  obtain ⟨i, hi, hz0, hz1, hz2⟩ := info_parts Try.info55
  have hnews : ∀ j v, [Value.int .i64 x, .int .i64 y][j]? = some v → w.cell? ((⟨g, 0, none⟩ : Addr).add j) = some v := fun j v hv => by
    rw [Addr.add_mid, Nat.zero_add]
    match j, hv with
    | 0, hv => simp at hv; subst hv; exact h0
    | 1, hv => simp at hv; subst hv; exact h1
  have hrun := run_append_nil (P := Try.prog) w 23 23 55 i _ Try.underlying23 hi hz0 ⟨g, 0, none⟩ 1 1 [.int .i64 x, .int .i64 y] (by rw [hz1]; rfl) hnews (by omega) (by omega) (by rw [hz2]; omega)
  obtain ⟨arr, harr⟩ : ∃ arr, (#[Value.int .i64 x, .int .i64 y] ++ Builtin.zeroCells (Value.agg #[Value.int .i64 0, .int .i64 0]).cells (grownCap w 1 0 55 - 1)) = arr := ⟨_, rfl⟩
  have hr2 : (Builtin.append_ #[23, 23] 23 #[.slice none 0 0, .slice (some ⟨g, 0, none⟩) 1 1]).run Try.prog w = .ok (.slice (some ⟨w.heap.size, 0, none⟩) 1 (grownCap w 1 0 55)) (w.drew.alloc (.cells arr 55)) := by rw [← harr]; exact hrun
  have hc1 := grownCap_ge w 1 0 55
  have hc2 := grownCap_le_maxLen w 1 0 55 (by unfold maxLen; omega)
  obtain ⟨c, hc⟩ : ∃ c, grownCap w 1 0 55 = c := ⟨_, rfl⟩
  rw [hc] at hr2 hc1 hc2
  obtain ⟨W', hW'⟩ : ∃ W', W' = w.drew.alloc (.cells arr 55) := ⟨_, rfl⟩
  have hb : Below w.heap.size w W' := by rw [hW']; exact (Below.drew (Below.refl _ _)).alloc (Nat.le_refl _) _
  have hzW : W'.heap.size = w.heap.size + 1 := by rw [hW', World.size_alloc]; rfl
  have hcell : ∀ j : Nat, W'.cell? ⟨w.heap.size, j, none⟩ = arr[j]? := fun j => by
    have h1 : (w.drew.alloc (.cells arr 55)).cell? ⟨w.drew.heap.size, j, none⟩ = arr[j]? := by rw [World.cell?_alloc_new]
    rw [hW']; exact h1
  have ha : ∀ (j : Nat) (u : Value), [Value.int .i64 x, .int .i64 y][j]? = some u → arr[j]? = some u := fun j u hu => by
    have hj := (List.getElem?_eq_some_iff.1 hu).1
    rw [← harr, Array.getElem?_append_left (by simpa using hj), ← hu]
    simp
  have HAT : Hid (AAt W' W'.heap.size (.slice (some ⟨w.heap.size, 0, none⟩) 1 c) [(x, y)]) := Lib.hid ⟨_, c, rfl, hc1, hc2, .inr ⟨w.heap.size, 0, rfl, by omega, fun j hj => by
    obtain rfl : j = 0 := by simp at hj; exact hj
    exact ⟨hx, (hcell 0).trans (ha 0 _ rfl), (hcell 1).trans (ha 1 _ rfl)⟩⟩⟩
  rw [← hW'] at hr2
  have HR := Lib.hid hr2
  have HB := Lib.hid hb
  clear hnews hrun harr ha hr2 hc1 hc2 hc hW' hb hzW hcell h0 h1
  go_enter Try.func40, Try.ntmps40
  go_wp2_with (first | (at_builtin; refine wpList_append_run rfl (.tmp 23) (.tmp 24) 23 23 rfl _ _ _ W' (by rfl) (by rfl) HR.out ?_))
  go_ret
  exact ⟨c, rfl, HAT.out, HB.out⟩
end Go.Proofs.Ytjancbjjeemedaa
