/- merkle's reference: two. -/
import Derived.Test.YtfmngeemhfpeiaaDoorRmf
namespace Go.Proofs.YtfmngeemhfpeiaaDoor
open Go.RowKit

theorem gro_new (W : World) : Gro (W.alloc (.cells #[] 5)) W.heap.size (.slice (some ⟨W.heap.size, 0, none⟩) 0 0) [] ∧ Below W.heap.size W (W.alloc (.cells #[] 5)) :=
  ⟨⟨_, 0, rfl, .inr (World.ownsRow_made W #[] 0 (Nat.le_refl _) (by unfold maxLen; omega) rfl)⟩, (Below.refl _ _).alloc (Nat.le_refl _) _⟩

def c79a0 : Oper := { dst := some 5, op := Go.Op.buildSlice 34 0 #[], type := 34, pos := "ref.go:17", after := #[], guard := none }
def c79a1 : Oper := { dst := some 6, op := Go.Op.slice 30 (Go.Operand.tmp 2) none none none, type := 34, pos := "ref.go:17", after := #[], guard := none }
def c79a2 : Oper := { dst := some 7, op := Go.Op.call { callee := Go.Callee.builtin Go.Builtin.append, args := #[Go.Operand.tmp 5, Go.Operand.tmp 6], argTypes := #[34, 34] }, type := 34, pos := "ref.go:17", after := #[{ on := 0, ground := Go.Ground.data }, { on := 1, ground := Go.Ground.data }], guard := none }
def c79a3 : Oper := { dst := some 8, op := Go.Op.slice 30 (Go.Operand.tmp 3) none none none, type := 34, pos := "ref.go:17", after := #[], guard := none }
def c79a4 : Oper := { dst := some 9, op := Go.Op.call { callee := Go.Callee.builtin Go.Builtin.append, args := #[Go.Operand.tmp 7, Go.Operand.tmp 8], argTypes := #[34, 34] }, type := 34, pos := "ref.go:17", after := #[{ on := 2, ground := Go.Ground.data }, { on := 3, ground := Go.Ground.data }, { on := 2, ground := Go.Ground.chain }], guard := none }
def c79a5 : Oper := { dst := some 10, op := Go.Op.call { callee := Go.Callee.value (Go.Operand.func 78), args := #[Go.Operand.const (Go.Value.string { data := #[110, 111, 100, 101] }), Go.Operand.tmp 9], argTypes := #[9, 34] }, type := 34, pos := "ref.go:17", after := #[{ on := 4, ground := Go.Ground.data }, { on := 4, ground := Go.Ground.chain }], guard := none }
def c79a6 : Oper := { dst := some 4, op := Go.Op.assign (Go.Operand.tmp 10), type := 34, pos := "ref.go:17", after := #[{ on := 5, ground := Go.Ground.data }, { on := 5, ground := Go.Ground.chain }, { on := 0, ground := Go.Ground.phase }, { on := 1, ground := Go.Ground.phase }, { on := 2, ground := Go.Ground.phase }, { on := 3, ground := Go.Ground.phase }, { on := 4, ground := Go.Ground.phase }, { on := 5, ground := Go.Ground.phase }], guard := none }

set_option maxRecDepth 100000 in
set_option maxHeartbeats 4000000 in
theorem rtwo_new (w : World) (a b : List UInt8) (ha : a.length = 32) (hb : b.length = 32) :
    Calls Tryd.prog 79 #[.agg (cells8 a).toArray, .agg (cells8 b).toArray] w fun e w' => ∃ v', e = .returned v' ∧ NewB w.heap.size w' v' (nodeT a b) ∧ Below w.heap.size w w' := by
  have HLA := Lib.hid ha
  have HLB := Lib.hid hb
  have hA := Arr.new w (cells8 a).toArray 30
  have hB := Arr.new (w.alloc (.cells (cells8 a).toArray 30)) (cells8 b).toArray 30
  obtain ⟨ca, hca⟩ : ∃ ca, cells8 a = ca := ⟨_, rfl⟩
  obtain ⟨cb, hcb⟩ : ∃ cb, cells8 b = cb := ⟨_, rfl⟩
  have la : ca.length = 32 := by rw [← hca, cells8_len, ha]
  have lb : cb.length = 32 := by rw [← hcb, cells8_len, hb]
  rw [hca] at hA hB ⊢
  rw [hcb] at hB ⊢
  have hBW : Below w.heap.size w ((w.alloc (.cells ca.toArray 30)).alloc (.cells cb.toArray 30)) := ((Below.refl _ _).alloc (Nat.le_refl _) _).alloc (by rw [World.size_alloc]; omega) _
  have hza : (w.alloc (.cells ca.toArray 30)).heap.size = w.heap.size + 1 := World.size_alloc _ _
  have hzb : ((w.alloc (.cells ca.toArray 30)).alloc (.cells cb.toArray 30)).heap.size = w.heap.size + 1 + 1 := by rw [World.size_alloc, hza]
  have hA2 := hA.alloc (by rw [hza]; omega) (.cells cb.toArray 30)
  rw [hza] at hB
  obtain ⟨W0, hW0⟩ : ∃ W0, (w.alloc (.cells ca.toArray 30)).alloc (.cells cb.toArray 30) = W0 := ⟨_, rfl⟩
  rw [hW0] at hBW hzb hA2 hB
  have HBW := Lib.hid hBW
  have HBA : Hid (∀ W, Kept W0 W → BytesAt W W.heap.size (.slice (some ⟨w.heap.size, 0, none⟩) 32 32) a) := Lib.hid fun W hW => by
    have hz := hW.size
    refine ⟨_, 32, by rw [ha], by omega, by unfold maxLen; omega, .inr ⟨w.heap.size, 0, rfl, by omega, fun j hj => ?_⟩⟩
    rw [Nat.zero_add]
    exact (hA2.below hW.below (by omega)).cell (by simp [← hca, cells8, List.getElem?_eq_getElem hj])
  have HBB : Hid (∀ W, Kept W0 W → BytesAt W W.heap.size (.slice (some ⟨w.heap.size + 1, 0, none⟩) 32 32) b) := Lib.hid fun W hW => by
    have hz := hW.size
    refine ⟨_, 32, by rw [hb], by omega, by unfold maxLen; omega, .inr ⟨w.heap.size + 1, 0, rfl, by omega, fun j hj => ?_⟩⟩
    rw [Nat.zero_add]
    exact (hB.below hW.below (by omega)).cell (by simp [← hcb, cells8, List.getElem?_eq_getElem hj])
  clear hBW hza hzb hA2 hB hA hca hcb
  go_enter Tryd.func79, Tryd.ntmps79
  go_upto_region 1 with fail
  clear hW0
  refine wp_region_held_drew (S := fun W => Kept W0 W) (by kernel_rfl) (Kept.drew (Kept.refl W0)) (fun hHeld => ?_)
  refine wpAnyH_take (i := 1) (oi := c79a1) (v := ?_) rfl (by kernel_rfl) (by kernel_rfl) (by kernel_rfl) (fun _ _ _ h => h) (Or.inl ⟨by rfl, ?_⟩) hHeld ?_
  rotate_left
  · (intro w hSw; (try dsimp only at hSw); unfold c79a1; go_simp <;> with_reducible rfl)
  try simp only [c79a1, Act.put, List.setIfInBounds_toArray, List.set_cons_zero, List.set_cons_succ]
  refine wpAnyH_take (i := 3) (oi := c79a3) (v := ?_) rfl (by kernel_rfl) (by kernel_rfl) (by kernel_rfl) (fun _ _ _ h => h) (Or.inl ⟨by rfl, ?_⟩) hHeld ?_
  rotate_left
  · (intro w hSw; (try dsimp only at hSw); unfold c79a3; go_simp <;> with_reducible rfl)
  try simp only [c79a3, Act.put, List.setIfInBounds_toArray, List.set_cons_zero, List.set_cons_succ]
  refine wpAnyH_ready (rs := [0]) (by kernel_rfl) (by simp) ?_
  refine AllReadyH.cons (o := c79a0) rfl (fun K hK => ?_) AllReadyH.nil
  rw [if_pos (by rfl)]
  have hG0 := gro_new W0.drew
  refine wp_buildSlice_run 34 0 [] (by rfl) [] _ (by rfl) (bs0_22 _) ?_
  have hS0 := hHeld.next hG0.2
  refine hK.out _ _ hS0 (fun hHeld => ?_)
  clear hK K
  try simp only [c79a0, Act.put, List.setIfInBounds_toArray, List.set_cons_zero, List.set_cons_succ]
  refine wpAnyH_ready (rs := [2]) (by kernel_rfl) (by simp) ?_
  refine AllReadyH.cons (o := c79a2) rfl (fun K hK => ?_) AllReadyH.nil
  rw [if_pos (by rfl)]
  obtain ⟨v2, W2, hr2, hG2, hB2⟩ := gro_app hG0.1 hG0.2.size (HBA.out _ hHeld) (by rw [HLA.out]; simp)
  rw [List.nil_append] at hG2
  refine wp_app_run (.tmp 5) (.tmp 6) 34 34 (by rfl) _ _ _ _ (by rfl) (by rfl) hr2 ?_
  have hS2 := hHeld.below.trans hB2
  refine hK.out _ _ hS2 (fun hHeld => ?_)
  clear hK K
  try simp only [c79a2, Act.put, List.setIfInBounds_toArray, List.set_cons_zero, List.set_cons_succ]
  refine wpAnyH_ready (rs := [4]) (by kernel_rfl) (by simp) ?_
  refine AllReadyH.cons (o := c79a4) rfl (fun K hK => ?_) AllReadyH.nil
  rw [if_pos (by rfl)]
  obtain ⟨v4, W4, hr4, hG4, hB4⟩ := gro_app hG2 hHeld.below.size (HBB.out _ hHeld) (by rw [HLA.out, HLB.out]; omega)
  refine wp_app_run (.tmp 7) (.tmp 8) 34 34 (by rfl) _ _ _ _ (by rfl) (by rfl) hr4 ?_
  have hS4 := hHeld.below.trans hB4
  refine hK.out _ _ hS4 (fun hHeld => ?_)
  clear hK K
  try simp only [c79a4, Act.put, List.setIfInBounds_toArray, List.set_cons_zero, List.set_cons_succ]
  refine wpAnyH_ready (rs := [5]) (by kernel_rfl) (by simp) ?_
  refine AllReadyH.cons (o := c79a5) rfl (fun K hK => ?_) AllReadyH.nil
  rw [if_pos (by rfl)]
  unfold c79a5
  go_simp
  (with_reducible refine (rmtext_new _ { data := #[110, 111, 100, 101] } v4 (a ++ b) hG4.bytes (by decide) (by rw [List.length_append, HLA.out, HLB.out]; omega)).mono ?_)
  rintro e W5 ⟨v5, rfl, hv5, hB5⟩
  have HSZ := hHeld.below.size
  have hS5 := hHeld.next hB5
  have hnb : NewB w.heap.size W5 v5 (sha ({ data := #[110, 111, 100, 101] } : ByteArray).data.toList ++ (a ++ b)) := ⟨hv5.1.mono (Nat.le_trans HBW.out.size HSZ), hv5.2⟩
  have HV5 := Lib.hid hnb
  clear hnb
  go_wp2_with fail
  refine hK.out _ _ hS5 (fun hHeld => ?_)
  clear hK K
  try simp only [c79a5, Act.put, List.setIfInBounds_toArray, List.set_cons_zero, List.set_cons_succ]
  refine wpAnyH_take (i := 6) (oi := c79a6) (v := ?_) rfl (by kernel_rfl) (by kernel_rfl) (by kernel_rfl) (fun _ _ _ h => h) (Or.inl ⟨by rfl, ?_⟩) hHeld ?_
  rotate_left
  · (intro w hSw; (try dsimp only at hSw); unfold c79a6; go_simp <;> with_reducible rfl)
  try simp only [c79a6, Act.put, List.setIfInBounds_toArray, List.set_cons_zero, List.set_cons_succ]
  refine wpAnyH_done (by kernel_rfl) ?_ _
  have HST := Lib.hid hHeld
  clear hHeld hG0 hG2 hG4 hr2 hr4 hv5
  go_wp2
  go_returns
  exact ⟨_, rfl, HV5.out, HBW.out.trans (HST.out.mono HBW.out.size)⟩
theorem rtwo_any (w : World) (a b : List UInt8) (ha : a.length = 32) (hb : b.length = 32) :
    Calls Tryd.prog 79 #[.agg (cells8 a).toArray, .agg (cells8 b).toArray] w fun e w' => ∃ v', e = .returned v' ∧ BytesAt w' w'.heap.size v' (nodeT a b) ∧ Below w.heap.size w w' := by
  refine (rtwo_new w a b ha hb).mono ?_
  rintro e w' ⟨v', rfl, h1, h2⟩
  exact ⟨v', rfl, h1.2, h2⟩
end Go.Proofs.YtfmngeemhfpeiaaDoor
