/- The reference's node. -/
import Derived.Test.YtnddejhbncgchaaDoorRtg
import Derived.Test.YtnddejhbncgchaaDoorReg
namespace Go.Proofs.YtnddejhbncgchaaDoor
open Go.RowKit

def c39a0 : Oper := { dst := some 5, op := Go.Op.buildSlice 22 0 #[], type := 22, pos := "ref.go:92", after := #[], guard := none }
def c39a1 : Oper := { dst := some 6, op := Go.Op.slice 26 (Go.Operand.tmp 2) none none none, type := 22, pos := "ref.go:92", after := #[], guard := none }
def c39a2 : Oper := { dst := some 7, op := Go.Op.call { callee := Go.Callee.builtin Go.Builtin.append, args := #[Go.Operand.tmp 5, Go.Operand.tmp 6], argTypes := #[22, 22] }, type := 22, pos := "ref.go:92", after := #[{ on := 0, ground := Go.Ground.data }, { on := 1, ground := Go.Ground.data }], guard := none }
def c39a3 : Oper := { dst := some 8, op := Go.Op.slice 26 (Go.Operand.tmp 3) none none none, type := 22, pos := "ref.go:92", after := #[], guard := none }
def c39a4 : Oper := { dst := some 9, op := Go.Op.call { callee := Go.Callee.builtin Go.Builtin.append, args := #[Go.Operand.tmp 7, Go.Operand.tmp 8], argTypes := #[22, 22] }, type := 22, pos := "ref.go:92", after := #[{ on := 2, ground := Go.Ground.data }, { on := 3, ground := Go.Ground.data }, { on := 2, ground := Go.Ground.chain }], guard := none }
def c39a5 : Oper := { dst := some 10, op := Go.Op.call { callee := Go.Callee.value (Go.Operand.func 15), args := #[Go.Operand.const (Go.Value.string { data := #[110, 111, 100, 101] }), Go.Operand.tmp 9], argTypes := #[9, 22] }, type := 26, pos := "ref.go:92", after := #[{ on := 4, ground := Go.Ground.data }, { on := 4, ground := Go.Ground.chain }], guard := none }
def c39a6 : Oper := { dst := none, op := Go.Op.store 26 (Go.Operand.tmp 4) (Go.Operand.tmp 10), type := 0, pos := "ref.go:92", after := #[{ on := 5, ground := Go.Ground.data }, { on := 5, ground := Go.Ground.chain }, { on := 0, ground := Go.Ground.phase }, { on := 1, ground := Go.Ground.phase }, { on := 2, ground := Go.Ground.phase }, { on := 3, ground := Go.Ground.phase }, { on := 4, ground := Go.Ground.phase }, { on := 5, ground := Go.Ground.phase }], guard := none }

set_option maxRecDepth 100000 in
set_option maxHeartbeats 8000000 in
theorem rnode_any (w : World) (x y : List UInt8) (hx : x.length = 32) (hy : y.length = 32) :
    Calls Tryd.prog 39 #[dv x, dv y] w fun e w' => e = .returned (dv (tagged tNode (x ++ y))) ∧ Below w.heap.size w w' := by
  rw [dv_eq x, dv_eq y]
  obtain ⟨j0, hj0, hy0, hy1, hy2⟩ := info_parts Tryd.infoU8
  have HJ := Lib.hid hj0
  have HY0 := Lib.hid hy0
  have HY1 := Lib.hid hy1
  have HY2 := Lib.hid hy2
  obtain ⟨cx, hcx⟩ : ∃ cx, cells8 x = cx := ⟨_, rfl⟩
  obtain ⟨cy, hcy⟩ : ∃ cy, cells8 y = cy := ⟨_, rfl⟩
  obtain ⟨ct, hct⟩ : ∃ ct, cells8 (tagged tNode (x ++ y)) = ct := ⟨_, rfl⟩
  have HLX : Hid (cx.length = 32) := Lib.hid (by rw [← hcx, cells8_len, hx])
  have HLY : Hid (cy.length = 32) := Lib.hid (by rw [← hcy, cells8_len, hy])
  have HLT : Hid (ct.length = 32) := Lib.hid (by rw [← hct, cells8_len, tagged_len])
  have HOX : Hid (∀ v ∈ cx, v.oneCell' = true) := Lib.hid (by rw [← hcx]; exact one_cells8 _)
  have HOY : Hid (∀ v ∈ cy, v.oneCell' = true) := Lib.hid (by rw [← hcy]; exact one_cells8 _)
  have HOT : Hid (∀ v ∈ ct, v.oneCell' = true) := Lib.hid (by rw [← hct]; exact one_cells8 _)
  have HZT : Hid ((Tryd.prog.info? 26).map (·.size) = some ct.length) := by show _ = _; rw [HLT.out]; exact Tryd.info26
  have HCT := Lib.hid hct
  have HTG : Hid (∀ W (g c : Nat), W.ownsRow w.heap.size 5 1 (.slice (some ⟨g, 0, none⟩) 64 c) 64 (cx ++ cy) → Calls Tryd.prog 15 #[.string { data := #[110, 111, 100, 101] }, .slice (some ⟨g, 0, none⟩) 64 c] W fun e w' => e = .returned (.agg ct.toArray) ∧ Below W.heap.size W w') := Lib.hid fun W g c hO => by
    have h := rtagged_any W { data := #[110, 111, 100, 101] } _ (x ++ y) (own_at (B := w.heap.size) (by rw [← cells8_append, hcx, hcy]; exact hO)) (by decide) (by rw [List.length_append, hx, hy]; omega)
    rw [dv_eq, show cells8 (tagged (ByteArray.mk #[110, 111, 100, 101]).data.toList (x ++ y)) = ct from hct] at h
    exact h
  rw [hcx, hcy]
  clear hcx hcy hct hx hy hj0 hy0 hy1 hy2
  go_enter Tryd.func39, Tryd.ntmps39
  go_wp2
  refine code_world (fun W => Below w.heap.size w W ∧ Arr W w.heap.size cx ∧ Arr W (w.heap.size + 1) cy ∧ Arr W (w.heap.size + 2) (cells8 (List.replicate 32 0)) ∧ w.heap.size + 2 < W.heap.size) ⟨by go_grown, ?_, ?_, ?_, by simp⟩ ?_
  · have h := ((Arr.new w cx.toArray 26).alloc (by simp) (.cells cy.toArray 26)).alloc (by simp; omega) (.cells (cells8 (List.replicate 32 0)).toArray 26)
    rw [List.toList_toArray] at h; exact h
  · have h := (Arr.new (w.alloc (.cells cx.toArray 26)) cy.toArray 26).alloc (by simp) (.cells (cells8 (List.replicate 32 0)).toArray 26)
    rw [World.size_alloc, List.toList_toArray] at h; exact h
  · have h := Arr.new ((w.alloc (.cells cx.toArray 26)).alloc (.cells cy.toArray 26)) (cells8 (List.replicate 32 0)).toArray 26
    rw [World.size_alloc, World.size_alloc, List.toList_toArray] at h; exact h
  rintro W0 ⟨hB0, hX1, hY1, hD1, hz0⟩
  obtain ⟨bx, hbx⟩ : ∃ bx, w.heap.size = bx := ⟨_, rfl⟩
  obtain ⟨by1, hby⟩ : ∃ by1, w.heap.size + 1 = by1 := ⟨_, rfl⟩
  obtain ⟨br, hbr⟩ : ∃ br, w.heap.size + 2 = br := ⟨_, rfl⟩
  have hX0 := hX1.drew
  have hY0 := hY1.drew
  have hD0 := hD1.drew
  rw [hby] at hY0
  rw [hbr] at hD0
  rw [hbr, hby]
  have ltx0 : w.heap.size < W0.drew.heap.size := by show w.heap.size < W0.heap.size; omega
  have lty0 : by1 < W0.drew.heap.size := by show by1 < W0.heap.size; omega
  have ltr0 : br < W0.drew.heap.size := by show br < W0.heap.size; omega
  have le_br : w.heap.size ≤ br := by omega
  have ne_x_y : w.heap.size ≠ by1 := by omega
  have ne_x_r : w.heap.size ≠ br := by omega
  have ne_y_r : by1 ≠ br := by omega
  clear hX1 hY1 hD1 hbx bx hby hbr hz0
  refine wp_region_held_drew (S := fun W => Kept w W) (by kernel_rfl) (Kept.drew (show Kept w W0 from hB0)) (fun hHeld => ?_)
  refine wpAnyH_take (i := 1) (oi := c39a1) (v := ?_) rfl (by kernel_rfl) (by kernel_rfl) (by kernel_rfl) (fun _ _ _ h => h) (Or.inl ⟨by rfl, ?_⟩) hHeld ?_
  rotate_left
  · (intro w hSw; (try dsimp only at hSw); unfold c39a1; go_simp <;> with_reducible rfl)
  try simp only [c39a1, Act.put, List.setIfInBounds_toArray, List.set_cons_zero, List.set_cons_succ]
  refine wpAnyH_take (i := 3) (oi := c39a3) (v := ?_) rfl (by kernel_rfl) (by kernel_rfl) (by kernel_rfl) (fun _ _ _ h => h) (Or.inl ⟨by rfl, ?_⟩) hHeld ?_
  rotate_left
  · (intro w hSw; (try dsimp only at hSw); unfold c39a3; go_simp <;> with_reducible rfl)
  try simp only [c39a3, Act.put, List.setIfInBounds_toArray, List.set_cons_zero, List.set_cons_succ]
  refine wpAnyH_ready (rs := [0]) (by kernel_rfl) (by simp) ?_
  refine AllReadyH.cons (o := c39a0) rfl (fun K hK => ?_) AllReadyH.nil
  rw [if_pos (by rfl)]
  refine wp_new22 (by rfl) ?_
  intro g0 W0 hle0 hlt0 hG0 hn0
  have row_0 := hn0 w.heap.size hHeld.below.size
  clear hn0
  have hS0 := Kept.moved hHeld hG0 (fun _ h => by cases h)
  have ne_bx_g0 : w.heap.size ≠ g0 := by have := ltx0; have := hle0; omega
  have x_0 := Arr.moved hX0 hG0 ltx0 (by simp)
  have lt_x_0 := Nat.lt_of_lt_of_le ltx0 hG0.size
  clear hX0 ltx0
  have ne_by1_g0 : by1 ≠ g0 := by have := lty0; have := hle0; omega
  have y_0 := Arr.moved hY0 hG0 lty0 (by simp)
  have lt_y_0 := Nat.lt_of_lt_of_le lty0 hG0.size
  clear hY0 lty0
  have ne_br_g0 : br ≠ g0 := by have := ltr0; have := hle0; omega
  have r_0 := Arr.moved hD0 hG0 ltr0 (by simp)
  have lt_r_0 := Nat.lt_of_lt_of_le ltr0 hG0.size
  clear hD0 ltr0
  refine hK.out _ _ hS0 (fun hHeld => ?_)
  clear hK K
  try simp only [c39a0, Act.put, List.setIfInBounds_toArray, List.set_cons_zero, List.set_cons_succ]
  refine wpAnyH_ready (rs := [2]) (by kernel_rfl) (by simp) ?_
  refine AllReadyH.cons (o := c39a2) rfl (fun K hK => ?_) AllReadyH.nil
  rw [if_pos (by rfl)]
  refine wp_piece 22 5 j0 _ 1 1 Tryd.underlying22 HJ.out HY0.out HY1.out HY2.out rfl (by omega) (.tmp 5) (.tmp 6) (by rfl) (base := w.heap.size) (by rfl) row_0 (by rfl) (piece_row (n := 32) (c := 32) x_0.at_) HLX.out HOX.out (by unfold maxLen; omega) (by omega) hHeld.below.size (32) (rfl) (cx) (by simp) ?_
  intro hb2 g2 c2 W2 row_2 hG2 hat2
  have hS2 := Kept.moved hHeld hG2 (fun k hk => by cases hk; exact hb2)
  have x_2 := Arr.moved x_0 hG2 lt_x_0 (by simpa using ne_bx_g0)
  have lt_x_2 := Nat.lt_of_lt_of_le lt_x_0 hG2.size
  have y_2 := Arr.moved y_0 hG2 lt_y_0 (by simpa using ne_by1_g0)
  have lt_y_2 := Nat.lt_of_lt_of_le lt_y_0 hG2.size
  have r_2 := Arr.moved r_0 hG2 lt_r_0 (by simpa using ne_br_g0)
  have lt_r_2 := Nat.lt_of_lt_of_le lt_r_0 hG2.size
  have ne_bx_g2 : w.heap.size ≠ g2 := by have := ne_bx_g0; have := lt_x_0; rcases hat2 with h | h <;> omega
  have ne_by1_g2 : by1 ≠ g2 := by have := ne_by1_g0; have := lt_y_0; rcases hat2 with h | h <;> omega
  have ne_br_g2 : br ≠ g2 := by have := ne_br_g0; have := lt_r_0; rcases hat2 with h | h <;> omega
  clear x_0
  clear y_0
  clear r_0
  clear row_0
  have lt_row_2 := (row_2.lt g2 rfl).2
  refine hK.out _ _ hS2 (fun hHeld => ?_)
  clear hK K
  try simp only [c39a2, Act.put, List.setIfInBounds_toArray, List.set_cons_zero, List.set_cons_succ]
  refine wpAnyH_ready (rs := [4]) (by kernel_rfl) (by simp) ?_
  refine AllReadyH.cons (o := c39a4) rfl (fun K hK => ?_) AllReadyH.nil
  rw [if_pos (by rfl)]
  refine wp_piece 22 5 j0 _ 1 1 Tryd.underlying22 HJ.out HY0.out HY1.out HY2.out rfl (by omega) (.tmp 7) (.tmp 8) (by rfl) (base := w.heap.size) (by rfl) row_2 (by rfl) (piece_row (n := 32) (c := 32) y_2.at_) HLY.out HOY.out (by unfold maxLen; omega) (by omega) hHeld.below.size (64) (rfl) (cx ++ cy) (rfl) ?_
  intro hb4 g4 c4 W4 row_4 hG4 hat4
  have hS4 := Kept.moved hHeld hG4 (fun k hk => by cases hk; exact hb4)
  have y_4 := Arr.moved y_2 hG4 lt_y_2 (by simpa using ne_by1_g2)
  have lt_y_4 := Nat.lt_of_lt_of_le lt_y_2 hG4.size
  have r_4 := Arr.moved r_2 hG4 lt_r_2 (by simpa using ne_br_g2)
  have lt_r_4 := Nat.lt_of_lt_of_le lt_r_2 hG4.size
  have ne_by1_g4 : by1 ≠ g4 := by have := ne_by1_g2; have := lt_y_2; rcases hat4 with h | h <;> omega
  have ne_br_g4 : br ≠ g4 := by have := ne_br_g2; have := lt_r_2; rcases hat4 with h | h <;> omega
  clear y_2
  clear r_2
  clear row_2
  have lt_row_4 := (row_4.lt g4 rfl).2
  refine hK.out _ _ hS4 (fun hHeld => ?_)
  clear hK K
  try simp only [c39a4, Act.put, List.setIfInBounds_toArray, List.set_cons_zero, List.set_cons_succ]
  refine wpAnyH_ready (rs := [5]) (by kernel_rfl) (by simp) ?_
  refine AllReadyH.cons (o := c39a5) rfl (fun K hK => ?_) AllReadyH.nil
  rw [if_pos (by rfl)]
  unfold c39a5
  go_simp
  (with_reducible refine (HTG.out _ _ _ row_4).mono ?_)
  rintro e W5 ⟨rfl, hB5⟩
  have hG5 := gbelow (row := none) hB5
  have hS5 := Kept.moved hHeld hG5 (fun _ h => by cases h)
  have r_5 := Arr.moved r_4 hG5 lt_r_4 (by simp)
  have lt_r_5 := Nat.lt_of_lt_of_le lt_r_4 hG5.size
  clear r_4 lt_r_4
  have row_5 := own_moved row_4 hG5  (by simp)
  have lt_row_5 := Nat.lt_of_lt_of_le lt_row_4 hG5.size
  clear row_4 lt_row_4
  go_wp2_with fail
  refine hK.out _ _ hS5 (fun hHeld => ?_)
  clear hK K
  try simp only [c39a5, Act.put, List.setIfInBounds_toArray, List.set_cons_zero, List.set_cons_succ]
  refine wpAnyH_ready (rs := [6]) (by kernel_rfl) (by simp) ?_
  refine AllReadyH.cons (o := c39a6) rfl (fun K hK => ?_) AllReadyH.nil
  rw [if_pos (by rfl)]
  refine wp_st26 (.tmp 4) (.tmp 10) (by rfl) br ct _ (by rfl) (by rfl) r_5 (by rw [HLT.out]; rfl) HZT.out HOT.out ?_
  intro W6 hG6 r_6
  have hS6 := Kept.moved hHeld hG6 (fun k hk => by cases hk; exact le_br)
  have row_6 := own_moved row_5 hG6  (by simpa using (Ne.symm ne_br_g4))
  have lt_row_6 := Nat.lt_of_lt_of_le lt_row_5 hG6.size
  have lt_r_6 := Nat.lt_of_lt_of_le lt_r_5 hG6.size
  clear r_5
  clear row_5
  refine hK.out _ _ hS6 (fun hHeld => ?_)
  clear hK K
  try simp only [c39a6, Act.put]
  refine wpAnyH_done (by kernel_rfl) ?_ _
  have HST := Lib.hid r_6
  have HBF := Lib.hid hHeld
  clear r_6 hHeld
  go_wp2
  refine bodyPost_ret (results_cell_mid rfl _ _ _ _ _ rfl HST.out.at_ Tryd.underlying26 rfl HZT.out) rfl ?_
  exact ⟨by rw [dv_eq, HCT.out], HBF.out⟩
end Go.Proofs.YtnddejhbncgchaaDoor
