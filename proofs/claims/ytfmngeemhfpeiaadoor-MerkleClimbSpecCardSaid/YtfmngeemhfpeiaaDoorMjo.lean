/- merkle: two neighbours joined (join). -/
import Derived.Test.YtfmngeemhfpeiaaDoorMfr
namespace Go.Proofs.YtfmngeemhfpeiaaDoor
open Go.RowKit

theorem nodeT_len (a b : List UInt8) : (nodeT a b).length = 32 + (a.length + b.length) := by unfold nodeT; rw [List.length_append, List.length_append, sha_len]
theorem nodeT_ne (a b : List UInt8) : nodeT a b ≠ [] := fun e => by have := nodeT_len a b; rw [e] at this; simp at this; omega

def c76a0 : Oper := { dst := some 9, op := Go.Op.move (Go.Operand.tmp 0), type := 25, pos := "rows.go:29", after := #[], guard := none }
def c76a1 : Oper := { dst := some 10, op := Go.Op.indexAddr 25 (Go.Operand.tmp 9) (Go.Operand.const (Go.Value.int Go.IntKind.i64 0)), type := 0, pos := "rows.go:29", after := #[{ on := 0, ground := Go.Ground.data }], guard := none }
def c76a2 : Oper := { dst := some 11, op := Go.Op.load 30 (Go.Operand.tmp 10), type := 30, pos := "rows.go:29", after := #[{ on := 1, ground := Go.Ground.data }], guard := none }
def c76a3 : Oper := { dst := some 12, op := Go.Op.move (Go.Operand.tmp 0), type := 25, pos := "rows.go:29", after := #[], guard := none }
def c76a4 : Oper := { dst := some 13, op := Go.Op.indexAddr 25 (Go.Operand.tmp 12) (Go.Operand.const (Go.Value.int Go.IntKind.i64 1)), type := 0, pos := "rows.go:29", after := #[{ on := 3, ground := Go.Ground.data }], guard := none }
def c76a5 : Oper := { dst := some 14, op := Go.Op.load 30 (Go.Operand.tmp 13), type := 30, pos := "rows.go:29", after := #[{ on := 4, ground := Go.Ground.data }], guard := none }
def c76a6 : Oper := { dst := some 15, op := Go.Op.call { callee := Go.Callee.value (Go.Operand.func 81), args := #[Go.Operand.tmp 11, Go.Operand.tmp 14], argTypes := #[30, 30] }, type := 34, pos := "rows.go:29", after := #[{ on := 2, ground := Go.Ground.data }, { on := 5, ground := Go.Ground.data }], guard := none }
def c76a7 : Oper := { dst := some 16, op := Go.Op.call { callee := Go.Callee.value (Go.Operand.func 27), args := #[Go.Operand.tmp 15], argTypes := #[34] }, type := 30, pos := "rows.go:29", after := #[{ on := 6, ground := Go.Ground.data }, { on := 6, ground := Go.Ground.chain }], guard := none }
def c76a8 : Oper := { dst := none, op := Go.Op.store 30 (Go.Operand.tmp 2) (Go.Operand.tmp 16), type := 0, pos := "rows.go:29", after := #[{ on := 7, ground := Go.Ground.data }, { on := 7, ground := Go.Ground.chain }, { on := 0, ground := Go.Ground.phase }, { on := 1, ground := Go.Ground.phase }, { on := 2, ground := Go.Ground.phase }, { on := 3, ground := Go.Ground.phase }, { on := 4, ground := Go.Ground.phase }, { on := 5, ground := Go.Ground.phase }, { on := 6, ground := Go.Ground.phase }, { on := 7, ground := Go.Ground.phase }], guard := none }

set_option maxRecDepth 100000 in
set_option maxHeartbeats 2000000 in
theorem join_one (w : World) (b off cap : Nat) (d : List UInt8) (hd : d.length = 32) (hb : b < w.heap.size) (hr : w.rangeAt b off (cells8 d)) :
    Calls Tryd.prog 76 #[.slice (some ⟨b, off, none⟩) 1 cap] w fun e w' => e = .returned (.agg (cells8 d).toArray) ∧ Below w.heap.size w w' := by
  have hcl : (cells8 d).length = 32 := by rw [cells8_len, hd]
  have ho1 := one_cells8 d
  obtain ⟨cs, hcs⟩ : ∃ cs, cells8 d = cs := ⟨_, rfl⟩
  rw [hcs] at hcl ho1 hr ⊢
  have HZ : Hid ((Tryd.prog.info? 30).map (·.size) = some cs.length) := by show _ = _; rw [hcl]; exact Tryd.info30
  have HCL := Lib.hid hcl
  have HO := Lib.hid ho1
  have HR := Lib.hid hr
  clear hcs hcl ho1 hr hd
  go_enter Tryd.func76, Tryd.ntmps76
  go_wp2_with (first
    | (refine wpList_world (fun W => Below w.heap.size w W ∧ Arr W w.heap.size (cells8 (List.replicate 32 0)) ∧ w.heap.size < W.heap.size) ⟨by go_grown, Arr.new w _ 30, by simp⟩ ?_; rintro W0 ⟨hB0, hD0, hz0⟩)
    | (refine wpList_load_mid rfl 30 _ (by rfl) b off (by rfl) cs _ (fun j v hv => (hB0.cell (p := ⟨b, off + j, none⟩) hb).trans (HR.out j v hv)) Tryd.underlying30 rfl HZ.out ?_)
    | (refine store_new rfl 30 _ _ (by rfl) w.heap.size w.heap.size cs _ (by rfl) (by rfl) hB0 (Nat.le_refl _) hD0 (by rw [HCL.out]; rfl) HZ.out HO.out ?_; intro W7 hB7 hA7 hz7))
  refine bodyPost_ret (results_cell_mid rfl _ _ _ _ _ rfl hA7.at_ Tryd.underlying30 rfl HZ.out) rfl ?_
  exact ⟨rfl, hB7⟩

set_option maxRecDepth 100000 in
set_option maxHeartbeats 4000000 in
theorem join_two (w : World) (b off cap : Nat) (d e : List UInt8) (hd : d.length = 32) (he : e.length = 32) (hb : b < w.heap.size) (hr : w.rangeAt b off (cells8 d)) (hr2 : w.rangeAt b (off + 32) (cells8 e)) (hT : Tab w) (h0 : 0 < w.heap.size) :
    Calls Tryd.prog 76 #[.slice (some ⟨b, off, none⟩) 2 cap] w fun x w' => x = .returned (.agg (cells8 (sha (nodeT d e))).toArray) ∧ Below w.heap.size w w' := by
  have HNT := Lib.hid (fun W (hW : Kept w W) => nodeText_any W d e hd he (hT.below hW.below h0) (by have := hW.below.size; omega))
  have HSU := Lib.hid (fun W v (hW : Kept w W) (hv : BytesAt W W.heap.size v (nodeT d e)) => sum_any W v (nodeT d e) (row_of hv (nodeT_ne d e)) (by rw [nodeT_len, hd, he]; omega) (hT.below hW.below h0) (by have := hW.below.size; omega))
  simp only [dv_eq] at HSU
  have la : (cells8 d).length = 32 := by rw [cells8_len, hd]
  have lb : (cells8 e).length = 32 := by rw [cells8_len, he]
  have hrl : (cells8 (sha (nodeT d e))).length = 32 := by rw [cells8_len, sha_len]
  have ho1 := one_cells8 (sha (nodeT d e))
  obtain ⟨ca, hca⟩ : ∃ cs, cells8 d = cs := ⟨_, rfl⟩
  obtain ⟨cb, hcb⟩ : ∃ cs, cells8 e = cs := ⟨_, rfl⟩
  obtain ⟨cr, hcr⟩ : ∃ cs, cells8 (sha (nodeT d e)) = cs := ⟨_, rfl⟩
  rw [hca] at la hr HNT
  rw [hcb] at lb hr2 HNT
  simp only [hcr] at HSU
  rw [hcr] at hrl ho1 ⊢
  have HZA : Hid ((Tryd.prog.info? 30).map (·.size) = some ca.length) := by show _ = _; rw [la]; exact Tryd.info30
  have HZB : Hid ((Tryd.prog.info? 30).map (·.size) = some cb.length) := by show _ = _; rw [lb]; exact Tryd.info30
  have HZR : Hid ((Tryd.prog.info? 30).map (·.size) = some cr.length) := by show _ = _; rw [hrl]; exact Tryd.info30
  have HRL := Lib.hid hrl
  have HOR := Lib.hid ho1
  have AX : Hid (∀ W, Kept w W → W.rangeAt b off ca) := Lib.hid fun W hW j v hv => (hW.below.cell (p := ⟨b, off + j, none⟩) hb).trans (hr j v hv)
  have AY : Hid (∀ W, Kept w W → W.rangeAt b (off + 32) cb) := Lib.hid fun W hW j v hv => (hW.below.cell (p := ⟨b, off + 32 + j, none⟩) hb).trans (hr2 j v hv)
  clear la lb hrl ho1 hca hcb hcr hr hr2 hT hd he hb
  go_enter Tryd.func76, Tryd.ntmps76
  go_upto_region 3 with (refine wpList_world (fun W => Below w.heap.size w W ∧ Arr W w.heap.size (cells8 (List.replicate 32 0)) ∧ w.heap.size < W.heap.size) ⟨by go_grown, Arr.new w _ 30, by simp⟩ ?_; rintro W0 ⟨hB0, hD0, hz0⟩)
  have HB0 := Lib.hid hB0
  have HD0 := Lib.hid hD0
  clear hB0 hD0
  refine wp_region_held_drew (S := fun W => Kept w W) (by kernel_rfl) (Kept.drew HB0.out) (fun hHeld => ?_)
  refine wpAnyH_take (i := 0) (oi := c76a0) (v := ?_) rfl (by kernel_rfl) (by kernel_rfl) (by kernel_rfl) (fun _ _ _ h => h) (Or.inl ⟨by rfl, ?_⟩) hHeld ?_
  rotate_left
  · (intro w hSw; (try dsimp only at hSw); unfold c76a0; go_simp <;> with_reducible rfl)
  try simp only [c76a0, Act.put, List.setIfInBounds_toArray, List.set_cons_zero, List.set_cons_succ]
  refine wpAnyH_take (i := 1) (oi := c76a1) (v := ?_) rfl (by kernel_rfl) (by kernel_rfl) (by kernel_rfl) (fun _ _ _ h => h) (Or.inl ⟨by rfl, ?_⟩) hHeld ?_
  rotate_left
  · (intro w hSw; (try dsimp only at hSw); unfold c76a1; go_simp <;> with_reducible rfl)
  try simp only [c76a1, Act.put, List.setIfInBounds_toArray, List.set_cons_zero, List.set_cons_succ]
  refine wpAnyH_take (i := 2) (oi := c76a2) rfl (by kernel_rfl) (by kernel_rfl) (by kernel_rfl) (fun _ _ _ h => h) (yieldsIf_load_mid (by rfl) 30 (.tmp 10) (by rfl) b off (by rfl) ca _ (fun w hSw => AX.out w hSw) Tryd.underlying30 rfl HZA.out) hHeld ?_
  try simp only [c76a2, Act.put, List.setIfInBounds_toArray, List.set_cons_zero, List.set_cons_succ]
  refine wpAnyH_take (i := 3) (oi := c76a3) (v := ?_) rfl (by kernel_rfl) (by kernel_rfl) (by kernel_rfl) (fun _ _ _ h => h) (Or.inl ⟨by rfl, ?_⟩) hHeld ?_
  rotate_left
  · (intro w hSw; (try dsimp only at hSw); unfold c76a3; go_simp <;> with_reducible rfl)
  try simp only [c76a3, Act.put, List.setIfInBounds_toArray, List.set_cons_zero, List.set_cons_succ]
  refine wpAnyH_take (i := 4) (oi := c76a4) (v := ?_) rfl (by kernel_rfl) (by kernel_rfl) (by kernel_rfl) (fun _ _ _ h => h) (Or.inl ⟨by rfl, ?_⟩) hHeld ?_
  rotate_left
  · (intro w hSw; (try dsimp only at hSw); unfold c76a4; go_simp <;> with_reducible rfl)
  try simp only [c76a4, Act.put, List.setIfInBounds_toArray, List.set_cons_zero, List.set_cons_succ]
  refine wpAnyH_take (i := 5) (oi := c76a5) rfl (by kernel_rfl) (by kernel_rfl) (by kernel_rfl) (fun _ _ _ h => h) (yieldsIf_load_mid (by rfl) 30 (.tmp 13) (by rfl) b (off + 32) (by rfl) cb _ (fun w hSw => AY.out w hSw) Tryd.underlying30 rfl HZB.out) hHeld ?_
  try simp only [c76a5, Act.put, List.setIfInBounds_toArray, List.set_cons_zero, List.set_cons_succ]
  refine wpAnyH_ready (rs := [6]) (by kernel_rfl) (by simp) ?_
  refine AllReadyH.cons (o := c76a6) rfl (fun K hK => ?_) AllReadyH.nil
  rw [if_pos (by rfl)]
  unfold c76a6
  go_simp
  (with_reducible refine (HNT.out _ hHeld).mono ?_)
  rintro e W6 ⟨v6, rfl, hv6, hB6⟩
  have hS6 := hHeld.next hB6
  have hD6 := HD0.out.drew.below hB6 hz0
  have hz6 := Nat.lt_of_lt_of_le hz0 hB6.size
  go_wp2_with fail
  refine hK.out _ _ hS6 (fun hHeld => ?_)
  clear hK K
  try simp only [c76a6, Act.put, List.setIfInBounds_toArray, List.set_cons_zero, List.set_cons_succ]
  refine wpAnyH_ready (rs := [7]) (by kernel_rfl) (by simp) ?_
  refine AllReadyH.cons (o := c76a7) rfl (fun K hK => ?_) AllReadyH.nil
  rw [if_pos (by rfl)]
  unfold c76a7
  go_simp
  (with_reducible refine (HSU.out _ _ hHeld hv6).mono ?_)
  rintro e W7 ⟨rfl, hB7⟩
  have hS7 := hHeld.next hB7
  have hD7 := hD6.below hB7 hz6
  go_wp2_with fail
  refine hK.out _ _ hS7 (fun hHeld => ?_)
  clear hK K
  try simp only [c76a7, Act.put, List.setIfInBounds_toArray, List.set_cons_zero, List.set_cons_succ]
  refine wpAnyH_ready (rs := [8]) (by kernel_rfl) (by simp) ?_
  refine AllReadyH.cons (o := c76a8) rfl (fun K hK => ?_) AllReadyH.nil
  rw [if_pos (by rfl)]
  refine wp_st26 (.tmp 2) (.tmp 16) (by rfl) w.heap.size cr _ (by rfl) (by rfl) hD7 (by rw [HRL.out]; rfl) HZR.out HOR.out ?_
  intro W8 hG8 hA8
  have hS8 := Kept.moved hHeld hG8 (fun k e => by cases e; exact Nat.le_refl _)
  refine hK.out _ _ hS8 (fun hHeld => ?_)
  clear hK K
  try simp only [c76a8, Act.put]
  refine wpAnyH_done (by kernel_rfl) ?_ _
  go_wp2
  refine bodyPost_ret (results_cell_mid rfl _ _ _ _ _ rfl hA8.at_ Tryd.underlying30 rfl HZR.out) rfl ?_
  exact ⟨rfl, hHeld.below⟩
end Go.Proofs.YtfmngeemhfpeiaaDoor
