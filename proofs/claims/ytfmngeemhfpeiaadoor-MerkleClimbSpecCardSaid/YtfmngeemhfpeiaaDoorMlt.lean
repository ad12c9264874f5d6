/- merkle: leafText, nodeText. -/
import Derived.Test.YtfmngeemhfpeiaaDoorMtx
namespace Go.Proofs.YtfmngeemhfpeiaaDoor
open Go.RowKit

def tLeaf : List UInt8 := [108, 101, 97, 102]
def tNode : List UInt8 := [110, 111, 100, 101]
/-- The text of a leaf, of two neighbours. -/
def leafT (b : List UInt8) : List UInt8 := sha tLeaf ++ b
def nodeT (a b : List UInt8) : List UInt8 := sha tNode ++ (a ++ b)

set_option maxRecDepth 100000 in
theorem leafText_new (w : World) (v : Value) (b : List UInt8) (hv : BytesAt w w.heap.size v b) (hb : b.length ≤ 80000000) (hT : Tab w) (h0 : 0 < w.heap.size) :
    Calls Tryd.prog 52 #[v] w fun e w' => ∃ v', e = .returned v' ∧ NewB w.heap.size w' v' (leafT b) ∧ Below w.heap.size w w' := by
  obtain ⟨a, c, rfl, k1, k2, _⟩ := id hv
  have HV := Lib.hid hv
  have HT := Lib.hid hT
  obtain ⟨n, hn⟩ : ∃ n, b.length = n := ⟨_, rfl⟩
  rw [hn] at k1 HV ⊢
  have HN := Lib.hid hn
  clear hv hT hn
  go_enter Tryd.func52, Tryd.ntmps52
  go_wp2_with fail
  have hBA : Below w.heap.size w (w.alloc (.cells #[.slice a n c] 34)) := (Below.refl _ _).alloc (Nat.le_refl _) _
  have hrow : BRows (w.alloc (.cells #[.slice a n c] 34)) (w.alloc (.cells #[.slice a n c] 34)).heap.size (.slice (some ⟨w.heap.size, 0, none⟩) 1 1) [b] := by
    refine ⟨_, _, rfl, Nat.le_refl _, by unfold maxLen; omega, .inr ⟨w.heap.size, 0, rfl, by rw [World.size_alloc]; exact Nat.lt_succ_self _, fun i hi => ?_⟩⟩
    obtain rfl : i = 0 := by simp at hi; exact hi
    refine ⟨.slice a n c, by rw [World.cell?_alloc_new]; rfl, ?_⟩
    exact (HV.out.below hBA).mono (by rw [World.size_alloc]; omega)
  have h := mtext_new _ { data := #[108, 101, 97, 102] } _ [b] hrow (by decide) (by simp; have := HN.out; omega) (by simp) (HT.out.below hBA h0) (by have := hBA.size; omega)
  refine h.mono ?_
  rintro e w2 ⟨v2, rfl, h2, hB2⟩
  have HB2 := Lib.hid (hBA.trans (hB2.mono hBA.size))
  have hlt : sha ({ data := #[108, 101, 97, 102] } : ByteArray).data.toList ++ [b].flatten = leafT b := by simp [leafT, tLeaf]
  rw [hlt] at h2
  have HV2 : Hid (NewB w.heap.size w2 v2 (leafT b)) := Lib.hid ⟨h2.1.mono (by rw [World.size_alloc]; omega), h2.2⟩
  clear h hrow h2 hB2 hBA hlt
  go_wp2
  go_returns
  exact ⟨_, rfl, HV2.out, HB2.out⟩

def c81a0 : Oper := { dst := some 5, op := Go.Op.slice 30 (Go.Operand.tmp 2) none none none, type := 34, pos := "rows.go:22", after := #[], guard := none }
def c81a1 : Oper := { dst := some 6, op := Go.Op.slice 30 (Go.Operand.tmp 3) none none none, type := 34, pos := "rows.go:22", after := #[], guard := none }
def c81a2 : Oper := { dst := some 7, op := Go.Op.buildSlice 22 2 #[(0, Go.Operand.tmp 5), (1, Go.Operand.tmp 6)], type := 22, pos := "rows.go:22", after := #[{ on := 0, ground := Go.Ground.data }, { on := 1, ground := Go.Ground.data }], guard := none }
def c81a3 : Oper := { dst := some 8, op := Go.Op.call { callee := Go.Callee.value (Go.Operand.func 80), args := #[Go.Operand.const (Go.Value.string { data := #[110, 111, 100, 101] }), Go.Operand.tmp 7], argTypes := #[9, 22] }, type := 34, pos := "rows.go:22", after := #[{ on := 2, ground := Go.Ground.data }], guard := none }
def c81a4 : Oper := { dst := some 4, op := Go.Op.assign (Go.Operand.tmp 8), type := 34, pos := "rows.go:22", after := #[{ on := 3, ground := Go.Ground.data }, { on := 3, ground := Go.Ground.chain }, { on := 0, ground := Go.Ground.phase }, { on := 1, ground := Go.Ground.phase }, { on := 2, ground := Go.Ground.phase }, { on := 3, ground := Go.Ground.phase }], guard := none }

set_option maxRecDepth 100000 in
set_option maxHeartbeats 4000000 in
theorem nodeText_new (w : World) (a b : List UInt8) (ha : a.length = 32) (hb : b.length = 32) (hT : Tab w) (h0 : 0 < w.heap.size) :
    Calls Tryd.prog 81 #[.agg (cells8 a).toArray, .agg (cells8 b).toArray] w fun e w' => ∃ v', e = .returned v' ∧ NewB w.heap.size w' v' (nodeT a b) ∧ Below w.heap.size w w' := by
  have HT := Lib.hid hT
  have HA := Lib.hid (Arr.new w (cells8 a).toArray 30)
  have HB := Lib.hid (Arr.new (w.alloc (.cells (cells8 a).toArray 30)) (cells8 b).toArray 30)
  obtain ⟨ca, hca⟩ : ∃ ca, cells8 a = ca := ⟨_, rfl⟩
  obtain ⟨cb, hcb⟩ : ∃ cb, cells8 b = cb := ⟨_, rfl⟩
  have la : ca.length = 32 := by rw [← hca, cells8_len, ha]
  have lb : cb.length = 32 := by rw [← hcb, cells8_len, hb]
  rw [hca] at HA HB ⊢
  rw [hcb] at HB ⊢
  have HLA := Lib.hid la
  have HLB := Lib.hid lb
  clear la lb
  go_enter Tryd.func81, Tryd.ntmps81
  have hBW : Below w.heap.size w ((w.alloc (.cells ca.toArray 30)).alloc (.cells cb.toArray 30)) := ((Below.refl _ _).alloc (Nat.le_refl _) _).alloc (by rw [World.size_alloc]; omega) _
  have hza : (w.alloc (.cells ca.toArray 30)).heap.size = w.heap.size + 1 := World.size_alloc _ _
  have hzb : ((w.alloc (.cells ca.toArray 30)).alloc (.cells cb.toArray 30)).heap.size = w.heap.size + 1 + 1 := by rw [World.size_alloc, hza]
  have hA2 := HA.out.alloc (by rw [hza]; omega) (.cells cb.toArray 30)
  have hB2 := HB.out
  rw [hza] at hB2
  obtain ⟨W0, hW0⟩ : ∃ W0, (w.alloc (.cells ca.toArray 30)).alloc (.cells cb.toArray 30) = W0 := ⟨_, rfl⟩
  rw [hW0] at hBW hzb hA2 hB2
  have HBW := Lib.hid hBW
  have HTX : Hid (∀ W, Kept W0 W → Calls Tryd.prog 80 #[.string { data := #[110, 111, 100, 101] }, .slice (some ⟨W.heap.size, 0, none⟩) 2 2] (W.alloc (.cells #[.slice (some ⟨w.heap.size, 0, none⟩) 32 32, .slice (some ⟨w.heap.size + 1, 0, none⟩) 32 32] 34)) fun e w' => ∃ v', e = .returned v' ∧ NewB w.heap.size w' v' (nodeT a b) ∧ Below (W.alloc (.cells #[.slice (some ⟨w.heap.size, 0, none⟩) 32 32, .slice (some ⟨w.heap.size + 1, 0, none⟩) 32 32] 34)).heap.size (W.alloc (.cells #[.slice (some ⟨w.heap.size, 0, none⟩) 32 32, .slice (some ⟨w.heap.size + 1, 0, none⟩) 32 32] 34)) w') := Lib.hid fun W hW => by
    have hz := hW.size
    have hal : Below W.heap.size W (W.alloc (.cells #[.slice (some ⟨w.heap.size, 0, none⟩) 32 32, .slice (some ⟨w.heap.size + 1, 0, none⟩) 32 32] 34)) := (Below.refl _ _).alloc (Nat.le_refl _) _
    have hK := hW.next hal
    have hAA := hA2.below hK.below (by omega)
    have hBB := hB2.below hK.below (by omega)
    have hsz : (W.alloc (.cells #[.slice (some ⟨w.heap.size, 0, none⟩) 32 32, .slice (some ⟨w.heap.size + 1, 0, none⟩) 32 32] 34)).heap.size = W.heap.size + 1 := World.size_alloc _ _
    have hrow : BRows (W.alloc (.cells #[.slice (some ⟨w.heap.size, 0, none⟩) 32 32, .slice (some ⟨w.heap.size + 1, 0, none⟩) 32 32] 34)) (W.alloc (.cells #[.slice (some ⟨w.heap.size, 0, none⟩) 32 32, .slice (some ⟨w.heap.size + 1, 0, none⟩) 32 32] 34)).heap.size (.slice (some ⟨W.heap.size, 0, none⟩) 2 2) [a, b] := by
      refine ⟨_, _, rfl, Nat.le_refl _, by unfold maxLen; omega, .inr ⟨W.heap.size, 0, rfl, by rw [hsz]; omega, fun i hi => ?_⟩⟩
      have hi2 : i = 0 ∨ i = 1 := by simp at hi; omega
      rcases hi2 with rfl | rfl
      · refine ⟨.slice (some ⟨w.heap.size, 0, none⟩) 32 32, by rw [World.cell?_alloc_new]; rfl, ?_⟩
        refine ⟨_, 32, by show _ = Value.slice _ a.length 32; rw [ha], by show a.length ≤ 32; omega, by unfold maxLen; omega, .inr ⟨w.heap.size, 0, rfl, by rw [hsz]; omega, fun j hj => ?_⟩⟩
        rw [Nat.zero_add]
        have hj' : j < a.length := hj
        exact hAA.cell (by simp [← hca, cells8, List.getElem?_eq_getElem hj'])
      · refine ⟨.slice (some ⟨w.heap.size + 1, 0, none⟩) 32 32, by rw [World.cell?_alloc_new]; rfl, ?_⟩
        refine ⟨_, 32, by show _ = Value.slice _ b.length 32; rw [hb], by show b.length ≤ 32; omega, by unfold maxLen; omega, .inr ⟨w.heap.size + 1, 0, rfl, by rw [hsz]; omega, fun j hj => ?_⟩⟩
        rw [Nat.zero_add]
        have hj' : j < b.length := hj
        exact hBB.cell (by simp [← hcb, cells8, List.getElem?_eq_getElem hj'])
    have hBW2 := hBW.trans (hK.below.mono (by omega))
    have h := mtext_new _ { data := #[110, 111, 100, 101] } _ [a, b] hrow (by decide) (by simp [ha, hb]) (by simp) (HT.out.below hBW2 h0) (by rw [hsz]; omega)
    have hlt : sha ({ data := #[110, 111, 100, 101] } : ByteArray).data.toList ++ [a, b].flatten = nodeT a b := by simp [nodeT, tNode]
    rw [hlt] at h
    refine h.mono ?_
    rintro e w' ⟨v', rfl, h1, h2⟩
    exact ⟨v', rfl, ⟨h1.1.mono (by rw [hsz]; omega), h1.2⟩, h2⟩
  clear hBW hza hzb hA2 hB2 HA HB hca hcb
  go_upto_region 1 with fail
  clear hW0
  refine wp_region_held_drew (S := fun W => Kept W0 W) (by kernel_rfl) (Kept.drew (Kept.refl W0)) (fun hHeld => ?_)
  refine wpAnyH_take (i := 0) (oi := c81a0) (v := ?_) rfl (by kernel_rfl) (by kernel_rfl) (by kernel_rfl) (fun _ _ _ h => h) (Or.inl ⟨by rfl, ?_⟩) hHeld ?_
  rotate_left
  · (intro w hSw; (try dsimp only at hSw); unfold c81a0; go_simp <;> with_reducible rfl)
  try simp only [c81a0, Act.put, List.setIfInBounds_toArray, List.set_cons_zero, List.set_cons_succ]
  refine wpAnyH_take (i := 1) (oi := c81a1) (v := ?_) rfl (by kernel_rfl) (by kernel_rfl) (by kernel_rfl) (fun _ _ _ h => h) (Or.inl ⟨by rfl, ?_⟩) hHeld ?_
  rotate_left
  · (intro w hSw; (try dsimp only at hSw); unfold c81a1; go_simp <;> with_reducible rfl)
  try simp only [c81a1, Act.put, List.setIfInBounds_toArray, List.set_cons_zero, List.set_cons_succ]
  refine wpAnyH_ready (rs := [2]) (by kernel_rfl) (by simp) ?_
  refine AllReadyH.cons (o := c81a2) rfl (fun K hK => ?_) AllReadyH.nil
  rw [if_pos (by rfl)]
  unfold c81a2
  go_simp
  refine hK.out _ _ (hHeld.next ((Below.refl _ _).alloc (Nat.le_refl _) _)) (fun hHeld2 => ?_)
  clear hK K
  try simp only [c81a2, Act.put, List.setIfInBounds_toArray, List.set_cons_zero, List.set_cons_succ]
  refine wpAnyH_ready (rs := [3]) (by kernel_rfl) (by simp) ?_
  refine AllReadyH.cons (o := c81a3) rfl (fun K hK => ?_) AllReadyH.nil
  rw [if_pos (by rfl)]
  unfold c81a3
  go_simp
  refine (HTX.out W0.drew hHeld).mono ?_
  rintro e W3 ⟨v3, rfl, hv3, hB3⟩
  have hS3 := hHeld2.next hB3
  have HV3 := Lib.hid hv3
  go_wp2_with fail
  refine hK.out _ _ hS3 (fun hHeld => ?_)
  clear hK K
  try simp only [c81a3, Act.put, List.setIfInBounds_toArray, List.set_cons_zero, List.set_cons_succ]
  refine wpAnyH_take (i := 4) (oi := c81a4) (v := ?_) rfl (by kernel_rfl) (by kernel_rfl) (by kernel_rfl) (fun _ _ _ h => h) (Or.inl ⟨by rfl, ?_⟩) hHeld ?_
  rotate_left
  · (intro w hSw; (try dsimp only at hSw); unfold c81a4; go_simp <;> with_reducible rfl)
  try simp only [c81a4, Act.put, List.setIfInBounds_toArray, List.set_cons_zero, List.set_cons_succ]
  refine wpAnyH_done (by kernel_rfl) ?_ _
  have HST := Lib.hid hHeld
  clear hHeld hS3 hB3 hv3
  go_wp2
  go_returns
  exact ⟨_, rfl, HV3.out, HBW.out.trans (HST.out.mono HBW.out.size)⟩
theorem leafText_any (w : World) (v : Value) (b : List UInt8) (hv : BytesAt w w.heap.size v b) (hb : b.length ≤ 80000000) (hT : Tab w) (h0 : 0 < w.heap.size) :
    Calls Tryd.prog 52 #[v] w fun e w' => ∃ v', e = .returned v' ∧ BytesAt w' w'.heap.size v' (leafT b) ∧ Below w.heap.size w w' := by
  refine (leafText_new w v b hv hb hT h0).mono ?_
  rintro e w' ⟨v', rfl, h1, h2⟩
  exact ⟨v', rfl, h1.2, h2⟩
theorem nodeText_any (w : World) (a b : List UInt8) (ha : a.length = 32) (hb : b.length = 32) (hT : Tab w) (h0 : 0 < w.heap.size) :
    Calls Tryd.prog 81 #[.agg (cells8 a).toArray, .agg (cells8 b).toArray] w fun e w' => ∃ v', e = .returned v' ∧ BytesAt w' w'.heap.size v' (nodeT a b) ∧ Below w.heap.size w w' := by
  refine (nodeText_new w a b ha hb hT h0).mono ?_
  rintro e w' ⟨v', rfl, h1, h2⟩
  exact ⟨v', rfl, h1.2, h2⟩
end Go.Proofs.YtfmngeemhfpeiaaDoor
