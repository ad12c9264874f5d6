/- Direction: the examples that every law of stage 10 runs first. -/
import Derived.Test.YtilkhamlhbbmgaaDoorRlv
import Derived.Test.YtilkhamlhbbmgaaDoorSne
namespace Go.Proofs.YtilkhamlhbbmgaaDoor
open Go.RowKit

def lvB (x : Bool) (l want : List Int) : Bool := decide (lvE l = 0) && decide (lvV (bsOf x) l = want)
theorem levels53_any (w : World) (x : Bool) (v u : Value) (l want : List Int) (hv : IRow w w.heap.size v l) (hu : IRow w w.heap.size u want) (hT : DTab w) : Calls Tryd.prog 53 #[.bool x, v, u] w fun e w' => e = .returned (.bool (lvB x l want)) ∧ Below w.heap.size w w' := by
  have HL := Lib.hid (levels_any w v l hv x hT)
  have HS := Lib.hid (fun (W : World) (hW : Below w.heap.size w W) (v' : Value) (h : IRow W W.heap.size v' (lvV (bsOf x) l)) => same_36 W v' u _ want h ((hu.below hW).mono hW.size))
  obtain ⟨a, c, rfl, -⟩ := hv
  obtain ⟨a2, c2, rfl, -⟩ := hu
  unfold lvB
  obtain ⟨z, hz⟩ : ∃ z, lvE l = z := ⟨_, rfl⟩
  obtain ⟨q, hq⟩ : ∃ z, lvV (bsOf x) l = z := ⟨_, rfl⟩
  obtain ⟨n, hn⟩ : ∃ n, l.length = n := ⟨_, rfl⟩
  obtain ⟨m, hm⟩ : ∃ n, want.length = n := ⟨_, rfl⟩
  rw [hz, hq, hn] at HL
  rw [hq, hm] at HS
  rw [hz, hq, hn, hm]
  clear hz hq hn hm hT
  by_cases h0 : z = 0
  · subst h0
    rw [decide_eq_true rfl, Bool.true_and]
    go_enter Tryd.func53, Tryd.ntmps53
    go_wp2_with fail
    refine HL.out.mono ?_
    rintro e w1 ⟨v1, rfl, hi1, hb1⟩
    have HB1 := Lib.hid hb1
    have HS1 := Lib.hid (HS.out w1 hb1 v1 hi1)
    obtain ⟨a1, c1, rfl, -⟩ := hi1
    clear hb1
    go_wp2_with fail
    refine HS1.out.mono ?_
    rintro e w2 ⟨rfl, hb2⟩
    have HB2 := Lib.hid (HB1.out.trans (hb2.mono HB1.out.size))
    clear hb2
    go_wp2
    go_ret
    exact ⟨rfl, HB2.out⟩
  · have d : (z == 0) = false := by simpa using h0
    rw [decide_eq_false h0, Bool.false_and]
    clear h0 HS
    go_enter Tryd.func53, Tryd.ntmps53
    go_wp2_with fail
    refine HL.out.mono ?_
    rintro e w1 ⟨v1, rfl, hi1, hb1⟩
    have HB1 := Lib.hid hb1
    obtain ⟨a1, c1, rfl, -⟩ := hi1
    clear hb1
    go_wp2
    go_ret
    exact ⟨rfl, HB1.out⟩
def odB (l want : List Int) : Bool := decide (odE l = 0) && decide (odV l = want)
theorem order54_any (w : World) (v u : Value) (l want : List Int) (hv : IRow w w.heap.size v l) (hu : IRow w w.heap.size u want) : Calls Tryd.prog 54 #[v, u] w fun e w' => e = .returned (.bool (odB l want)) ∧ Below w.heap.size w w' := by
  have HL := Lib.hid (order_any w v l hv)
  have HS := Lib.hid (fun (W : World) (hW : Below w.heap.size w W) (v' : Value) (h : IRow W W.heap.size v' (odV l)) => same_36 W v' u _ want h ((hu.below hW).mono hW.size))
  obtain ⟨a, c, rfl, -⟩ := hv
  obtain ⟨a2, c2, rfl, -⟩ := hu
  unfold odB
  obtain ⟨z, hz⟩ : ∃ z, odE l = z := ⟨_, rfl⟩
  obtain ⟨q, hq⟩ : ∃ z, odV l = z := ⟨_, rfl⟩
  obtain ⟨n, hn⟩ : ∃ n, l.length = n := ⟨_, rfl⟩
  obtain ⟨m, hm⟩ : ∃ n, want.length = n := ⟨_, rfl⟩
  rw [hz, hq, hn] at HL
  rw [hq, hm] at HS
  rw [hz, hq, hn, hm]
  clear hz hq hn hm
  by_cases h0 : z = 0
  · subst h0
    rw [decide_eq_true rfl, Bool.true_and]
    go_enter Tryd.func54, Tryd.ntmps54
    go_wp2_with fail
    refine HL.out.mono ?_
    rintro e w1 ⟨v1, rfl, hi1, hb1⟩
    have HB1 := Lib.hid hb1
    have HS1 := Lib.hid (HS.out w1 hb1 v1 hi1)
    obtain ⟨a1, c1, rfl, -⟩ := hi1
    clear hb1
    go_wp2_with fail
    refine HS1.out.mono ?_
    rintro e w2 ⟨rfl, hb2⟩
    have HB2 := Lib.hid (HB1.out.trans (hb2.mono HB1.out.size))
    clear hb2
    go_wp2
    go_ret
    exact ⟨rfl, HB2.out⟩
  · have d : (z == 0) = false := by simpa using h0
    rw [decide_eq_false h0, Bool.false_and]
    clear h0 HS
    go_enter Tryd.func54, Tryd.ntmps54
    go_wp2_with fail
    refine HL.out.mono ?_
    rintro e w1 ⟨v1, rfl, hi1, hb1⟩
    have HB1 := Lib.hid hb1
    obtain ⟨a1, c1, rfl, -⟩ := hi1
    clear hb1
    go_wp2
    go_ret
    exact ⟨rfl, HB1.out⟩
set_option maxRecDepth 100000 in
set_option maxHeartbeats 16000000 in
theorem sane10_any (w : World) (hT : DTab w) : Calls Tryd.prog 30 #[] w fun e w' => e = .returned (.bool true) ∧ Below w.heap.size w w' := by
  obtain ⟨i0, hif, hz0, hz1, hz2⟩ := info_parts Tryd.info3r
  have HX0 := Lib.hid (show Calls Tryd.prog 53 #[.bool true, .slice none 0 0, .slice none 0 0] w (fun e w' => e = .returned (.bool true) ∧ Below w.heap.size w w') by
    have h := levels53_any w true (.slice none 0 0) (.slice none 0 0) [] [] (IRow.nil _ _) (IRow.nil _ _) hT
    rw [show lvB true [] [] = true by decide +kernel] at h
    exact h)
  have HX1 := Lib.hid (fun (W : World) (hW : Below w.heap.size w W) => (show Calls Tryd.prog 53 #[.bool false, .slice (some ⟨W.heap.size, 0, none⟩) 3 3, .slice (some ⟨W.heap.size + 1, 0, none⟩) 3 3] ((W.alloc (.cells #[.int .i64 97, .int .i64 32, .int .i64 1488] 3)).alloc (.cells #[.int .i64 0, .int .i64 0, .int .i64 1] 3)) (fun e w' => e = .returned (.bool true) ∧ Below W.heap.size W w') by
    have hb1 := below_alloc W (.cells #[.int .i64 97, .int .i64 32, .int .i64 1488] 3)
    have hb2 := below_alloc (W.alloc (.cells #[.int .i64 97, .int .i64 32, .int .i64 1488] 3)) (.cells #[.int .i64 0, .int .i64 0, .int .i64 1] 3)
    have hb : Below W.heap.size W ((W.alloc (.cells #[.int .i64 97, .int .i64 32, .int .i64 1488] 3)).alloc (.cells #[.int .i64 0, .int .i64 0, .int .i64 1] 3)) := hb1.trans (hb2.mono hb1.size)
    have r1 := (irow_made W [97, 32, 1488] 3 rfl (by unfold maxLen; omega)).here (by simp)
    have r2 := (irow_made (W.alloc (.cells #[.int .i64 97, .int .i64 32, .int .i64 1488] 3)) [0, 0, 1] 3 rfl (by unfold maxLen; omega)).here (by simp)
    have hz : (W.alloc (.cells #[.int .i64 97, .int .i64 32, .int .i64 1488] 3)).heap.size = W.heap.size + 1 := by simp
    rw [hz] at r2
    have h := levels53_any _ false _ _ [97, 32, 1488] [0, 0, 1] (r1.next hb2) r2 ((hT.below hW).below hb)
    rw [show lvB false [97, 32, 1488] [0, 0, 1] = true by decide +kernel] at h
    exact h.mono fun e w' ⟨he, hb3⟩ => ⟨he, hb.trans (hb3.mono hb.size)⟩))
  have HX2 := Lib.hid (fun (W : World) (hW : Below w.heap.size w W) => (show Calls Tryd.prog 53 #[.bool false, .slice (some ⟨W.heap.size, 0, none⟩) 3 3, .slice (some ⟨W.heap.size + 1, 0, none⟩) 3 3] ((W.alloc (.cells #[.int .i64 1488, .int .i64 32, .int .i64 1489] 3)).alloc (.cells #[.int .i64 1, .int .i64 1, .int .i64 1] 3)) (fun e w' => e = .returned (.bool true) ∧ Below W.heap.size W w') by
    have hb1 := below_alloc W (.cells #[.int .i64 1488, .int .i64 32, .int .i64 1489] 3)
    have hb2 := below_alloc (W.alloc (.cells #[.int .i64 1488, .int .i64 32, .int .i64 1489] 3)) (.cells #[.int .i64 1, .int .i64 1, .int .i64 1] 3)
    have hb : Below W.heap.size W ((W.alloc (.cells #[.int .i64 1488, .int .i64 32, .int .i64 1489] 3)).alloc (.cells #[.int .i64 1, .int .i64 1, .int .i64 1] 3)) := hb1.trans (hb2.mono hb1.size)
    have r1 := (irow_made W [1488, 32, 1489] 3 rfl (by unfold maxLen; omega)).here (by simp)
    have r2 := (irow_made (W.alloc (.cells #[.int .i64 1488, .int .i64 32, .int .i64 1489] 3)) [1, 1, 1] 3 rfl (by unfold maxLen; omega)).here (by simp)
    have hz : (W.alloc (.cells #[.int .i64 1488, .int .i64 32, .int .i64 1489] 3)).heap.size = W.heap.size + 1 := by simp
    rw [hz] at r2
    have h := levels53_any _ false _ _ [1488, 32, 1489] [1, 1, 1] (r1.next hb2) r2 ((hT.below hW).below hb)
    rw [show lvB false [1488, 32, 1489] [1, 1, 1] = true by decide +kernel] at h
    exact h.mono fun e w' ⟨he, hb3⟩ => ⟨he, hb.trans (hb3.mono hb.size)⟩))
  have HX3 := Lib.hid (fun (W : World) (hW : Below w.heap.size w W) => (show Calls Tryd.prog 53 #[.bool true, .slice (some ⟨W.heap.size, 0, none⟩) 1 1, .slice (some ⟨W.heap.size + 1, 0, none⟩) 1 1] ((W.alloc (.cells #[.int .i64 49] 3)).alloc (.cells #[.int .i64 2] 3)) (fun e w' => e = .returned (.bool true) ∧ Below W.heap.size W w') by
    have hb1 := below_alloc W (.cells #[.int .i64 49] 3)
    have hb2 := below_alloc (W.alloc (.cells #[.int .i64 49] 3)) (.cells #[.int .i64 2] 3)
    have hb : Below W.heap.size W ((W.alloc (.cells #[.int .i64 49] 3)).alloc (.cells #[.int .i64 2] 3)) := hb1.trans (hb2.mono hb1.size)
    have r1 := (irow_made W [49] 1 rfl (by unfold maxLen; omega)).here (by simp)
    have r2 := (irow_made (W.alloc (.cells #[.int .i64 49] 3)) [2] 1 rfl (by unfold maxLen; omega)).here (by simp)
    have hz : (W.alloc (.cells #[.int .i64 49] 3)).heap.size = W.heap.size + 1 := by simp
    rw [hz] at r2
    have h := levels53_any _ true _ _ [49] [2] (r1.next hb2) r2 ((hT.below hW).below hb)
    rw [show lvB true [49] [2] = true by decide +kernel] at h
    exact h.mono fun e w' ⟨he, hb3⟩ => ⟨he, hb.trans (hb3.mono hb.size)⟩))
  have HX4 := Lib.hid (fun (W : World) (hW : Below w.heap.size w W) => (show Calls Tryd.prog 54 #[.slice (some ⟨W.heap.size, 0, none⟩) 4 4, .slice (some ⟨W.heap.size + 1, 0, none⟩) 4 4] ((W.alloc (.cells #[.int .i64 0, .int .i64 1, .int .i64 1, .int .i64 0] 3)).alloc (.cells #[.int .i64 0, .int .i64 2, .int .i64 1, .int .i64 3] 3)) (fun e w' => e = .returned (.bool true) ∧ Below W.heap.size W w') by
    have hb1 := below_alloc W (.cells #[.int .i64 0, .int .i64 1, .int .i64 1, .int .i64 0] 3)
    have hb2 := below_alloc (W.alloc (.cells #[.int .i64 0, .int .i64 1, .int .i64 1, .int .i64 0] 3)) (.cells #[.int .i64 0, .int .i64 2, .int .i64 1, .int .i64 3] 3)
    have hb : Below W.heap.size W ((W.alloc (.cells #[.int .i64 0, .int .i64 1, .int .i64 1, .int .i64 0] 3)).alloc (.cells #[.int .i64 0, .int .i64 2, .int .i64 1, .int .i64 3] 3)) := hb1.trans (hb2.mono hb1.size)
    have r1 := (irow_made W [0, 1, 1, 0] 4 rfl (by unfold maxLen; omega)).here (by simp)
    have r2 := (irow_made (W.alloc (.cells #[.int .i64 0, .int .i64 1, .int .i64 1, .int .i64 0] 3)) [0, 2, 1, 3] 4 rfl (by unfold maxLen; omega)).here (by simp)
    have hz : (W.alloc (.cells #[.int .i64 0, .int .i64 1, .int .i64 1, .int .i64 0] 3)).heap.size = W.heap.size + 1 := by simp
    rw [hz] at r2
    have h := order54_any _ _ _ [0, 1, 1, 0] [0, 2, 1, 3] (r1.next hb2) r2
    rw [show odB [0, 1, 1, 0] [0, 2, 1, 3] = true by decide +kernel] at h
    exact h.mono fun e w' ⟨he, hb3⟩ => ⟨he, hb.trans (hb3.mono hb.size)⟩))
  have HX5 := Lib.hid (fun (W : World) (hW : Below w.heap.size w W) => (show Calls Tryd.prog 54 #[.slice (some ⟨W.heap.size, 0, none⟩) 4 4, .slice (some ⟨W.heap.size + 1, 0, none⟩) 4 4] ((W.alloc (.cells #[.int .i64 1, .int .i64 2, .int .i64 2, .int .i64 1] 3)).alloc (.cells #[.int .i64 3, .int .i64 1, .int .i64 2, .int .i64 0] 3)) (fun e w' => e = .returned (.bool true) ∧ Below W.heap.size W w') by
    have hb1 := below_alloc W (.cells #[.int .i64 1, .int .i64 2, .int .i64 2, .int .i64 1] 3)
    have hb2 := below_alloc (W.alloc (.cells #[.int .i64 1, .int .i64 2, .int .i64 2, .int .i64 1] 3)) (.cells #[.int .i64 3, .int .i64 1, .int .i64 2, .int .i64 0] 3)
    have hb : Below W.heap.size W ((W.alloc (.cells #[.int .i64 1, .int .i64 2, .int .i64 2, .int .i64 1] 3)).alloc (.cells #[.int .i64 3, .int .i64 1, .int .i64 2, .int .i64 0] 3)) := hb1.trans (hb2.mono hb1.size)
    have r1 := (irow_made W [1, 2, 2, 1] 4 rfl (by unfold maxLen; omega)).here (by simp)
    have r2 := (irow_made (W.alloc (.cells #[.int .i64 1, .int .i64 2, .int .i64 2, .int .i64 1] 3)) [3, 1, 2, 0] 4 rfl (by unfold maxLen; omega)).here (by simp)
    have hz : (W.alloc (.cells #[.int .i64 1, .int .i64 2, .int .i64 2, .int .i64 1] 3)).heap.size = W.heap.size + 1 := by simp
    rw [hz] at r2
    have h := order54_any _ _ _ [1, 2, 2, 1] [3, 1, 2, 0] (r1.next hb2) r2
    rw [show odB [1, 2, 2, 1] [3, 1, 2, 0] = true by decide +kernel] at h
    exact h.mono fun e w' ⟨he, hb3⟩ => ⟨he, hb.trans (hb3.mono hb.size)⟩))
  have HX6 := Lib.hid (fun (W : World) (hW : Below w.heap.size w W) => (show Calls Tryd.prog 34 #[.slice (some ⟨W.heap.size, 0, none⟩) 1 1] (W.alloc (.cells #[.int .i64 3] 3)) (fun e w' => ∃ u, e = .returned (.tuple #[u, .int .i64 100]) ∧ Below W.heap.size W w') by
    have hb := below_alloc W (.cells #[.int .i64 3] 3)
    have r1 := (irow_made W [3] 1 rfl (by unfold maxLen; omega)).here (by simp)
    have h := order_any _ _ [3] r1
    rw [show odE [3] = 100 by decide +kernel] at h
    exact h.mono fun e w' ⟨u, he, _, hb3⟩ => ⟨u, he, hb.trans (hb3.mono hb.size)⟩))
  have HX7 := Lib.hid (fun (W : World) (hW : Below w.heap.size w W) => (show Calls Tryd.prog 32 #[.slice (some ⟨W.heap.size, 0, none⟩) 1 1, .bool false] (W.alloc (.cells #[.int .i64 (-1)] 3)) (fun e w' => ∃ u, e = .returned (.tuple #[u, .int .i64 90]) ∧ Below W.heap.size W w') by
    have hb := below_alloc W (.cells #[.int .i64 (-1)] 3)
    have r1 := (irow_made W [(-1)] 1 rfl (by unfold maxLen; omega)).here (by simp)
    have h := levels_any _ _ [(-1)] r1 false ((hT.below hW).below hb)
    rw [show lvE [(-1)] = 90 by decide +kernel] at h
    exact h.mono fun e w' ⟨u, he, _, hb3⟩ => ⟨u, he, hb.trans (hb3.mono hb.size)⟩))
  have HX8 := Lib.hid (fun (W : World) (v : Value) (l : List Int) (hv : IRow W W.heap.size v l) (hl : l.length = 4097) => (show Calls Tryd.prog 34 #[v] W (fun e w' => ∃ u, e = .returned (.tuple #[u, .int .i64 2]) ∧ Below W.heap.size W w') by
    have h := order_any W v l hv
    rw [show odE l = 2 by unfold odE; rw [if_pos (by omega)]] at h
    exact h.mono fun e w' ⟨u, he, _, hb3⟩ => ⟨u, he, hb3⟩))
  have HX9 := Lib.hid (fun (W : World) (hW : Below w.heap.size w W) => (show Calls Tryd.prog 37 #[.string ⟨#[97, 32, 215, 144, 215, 145, 32, 98]⟩, .bool false] W (fun e w' => e = .returned (.tuple #[.string ⟨#[97, 32, 215, 145, 215, 144, 32, 98]⟩, .int .i64 0]) ∧ Below W.heap.size W w') by
    have h := show_any W [97, 32, 215, 144, 215, 145, 32, 98] false (hT.below hW)
    rw [show shS (bsOf false) [97, 32, 215, 144, 215, 145, 32, 98] = [97, 32, 215, 145, 215, 144, 32, 98] by decide +kernel, show shE (bsOf false) [97, 32, 215, 144, 215, 145, 32, 98] = 0 by decide +kernel] at h
    exact h))
  have HMADE := Lib.hid (made_int 4097 (fun _ => 0) (fun _ => rfl))
  clear hT
  go_enter Tryd.func30, Tryd.ntmps30
  go_wp2_with fail
  (with_reducible refine (HX0.out).mono ?_)
  rintro e w1 ⟨rfl, hb⟩
  have HB1 := Lib.hid hb
  clear hb
  go_wp2_with fail
  (with_reducible refine (HX1.out w1 HB1.out).mono ?_)
  rintro e w2 ⟨rfl, hb⟩
  have HB2 := Lib.hid (HB1.out.trans (hb.mono HB1.out.size))
  clear hb
  go_wp2_with fail
  (with_reducible refine (HX2.out w2 HB2.out).mono ?_)
  rintro e w3 ⟨rfl, hb⟩
  have HB3 := Lib.hid (HB2.out.trans (hb.mono HB2.out.size))
  clear hb
  go_wp2_with fail
  (with_reducible refine (HX3.out w3 HB3.out).mono ?_)
  rintro e w4 ⟨rfl, hb⟩
  have HB4 := Lib.hid (HB3.out.trans (hb.mono HB3.out.size))
  clear hb
  go_wp2_with fail
  (with_reducible refine (HX4.out w4 HB4.out).mono ?_)
  rintro e w5 ⟨rfl, hb⟩
  have HB5 := Lib.hid (HB4.out.trans (hb.mono HB4.out.size))
  clear hb
  go_wp2_with fail
  (with_reducible refine (HX5.out w5 HB5.out).mono ?_)
  rintro e w6 ⟨rfl, hb⟩
  have HB6 := Lib.hid (HB5.out.trans (hb.mono HB5.out.size))
  clear hb
  go_wp2_with fail
  (with_reducible refine (HX6.out w6 HB6.out).mono ?_)
  rintro e w7 ⟨u6, rfl, hb⟩
  have HB7 := Lib.hid (HB6.out.trans (hb.mono HB6.out.size))
  clear hb
  go_wp2_with fail
  (with_reducible refine (HX7.out w7 HB7.out).mono ?_)
  rintro e w8 ⟨u7, rfl, hb⟩
  have HB8 := Lib.hid (HB7.out.trans (hb.mono HB7.out.size))
  clear hb
  go_wp2_with (refine wpList_make_full _ rfl (.const (.int .i64 4097)) (.const (.int .i64 4097)) 22 rfl w8.heap.size 3 i0 (.int .i64 0) 1 Tryd.underlying22 hif hz0 hz1 .i64 .i64 _ _ 4097 (by rfl) (by rfl) rfl rfl (by rw [hz2]; omega) (by unfold maxLen; omega) (Nat.le_refl _) ?_; intro wm hO1 hG1; rw [HMADE.out] at hO1; have HIM := Lib.hid (IRow.of_own (l := (List.range 4097).map fun _ => (0 : Int)) (by rw [List.length_map, List.length_range]; exact hO1)); have HBM := Lib.hid (HB8.out.trans ((below_none hG1).mono HB8.out.size)); clear hO1 hG1)
  have HX8W := Lib.hid (HX8.out wm _ _ HIM.out (by simp))
  go_wp2_with fail
  (with_reducible refine (HX8W.out).mono ?_)
  rintro e w9 ⟨u8, rfl, hb⟩
  have HB9 := Lib.hid (HBM.out.trans (hb.mono HBM.out.size))
  clear hb
  go_wp2_with fail
  (with_reducible refine (HX9.out w9 HB9.out).mono ?_)
  rintro e w10 ⟨rfl, hb⟩
  have HB10 := Lib.hid (HB9.out.trans (hb.mono HB9.out.size))
  clear hb
  go_wp2
  go_ret
  exact ⟨rfl, HB10.out⟩
end Go.Proofs.YtilkhamlhbbmgaaDoor
