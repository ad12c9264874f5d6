/- merkle: a step of a way (alone, text). -/
import Derived.Test.YtfmngeemhfpeiaaDoorMlt
namespace Go.Proofs.YtfmngeemhfpeiaaDoor
open Go.RowKit

theorem Tryd.info65 : (Tryd.prog.info? 65).map (·.size) = some 2 := by kernel_rfl
/-- Is no digest beside the one at place t of s? -/
def alone (t s : Nat) : Bool := decide (oth t = s)
/-- The text of the digest d at place t and of the other one. -/
def stepT (t : Nat) (d o : List UInt8) : List UInt8 := if oth t < t then nodeT o d else nodeT d o

def c45a0 : Oper := { dst := some 3, op := Go.Op.load 65 (Go.Operand.tmp 1), type := 65, pos := "steps.go:27", after := #[], guard := none }
def c45a1 : Oper := { dst := some 4, op := Go.Op.call { callee := Go.Callee.value (Go.Operand.func 46), args := #[Go.Operand.tmp 3], argTypes := #[65] }, type := 3, pos := "steps.go:27", after := #[{ on := 0, ground := Go.Ground.data }], guard := none }
def c45a2 : Oper := { dst := some 5, op := Go.Op.fieldAddr 65 (Go.Operand.tmp 1) 1, type := 0, pos := "steps.go:27", after := #[], guard := none }
def c45a3 : Oper := { dst := some 6, op := Go.Op.load 3 (Go.Operand.tmp 5), type := 3, pos := "steps.go:27", after := #[{ on := 2, ground := Go.Ground.data }], guard := none }
def c45a4 : Oper := { dst := some 7, op := Go.Op.binOp Go.BinOp.eql 3 (Go.Operand.tmp 4) (Go.Operand.tmp 6) 3, type := 4, pos := "steps.go:27", after := #[{ on := 1, ground := Go.Ground.data }, { on := 3, ground := Go.Ground.data }], guard := none }
def c45a5 : Oper := { dst := some 2, op := Go.Op.assign (Go.Operand.tmp 7), type := 4, pos := "steps.go:27", after := #[{ on := 4, ground := Go.Ground.data }, { on := 1, ground := Go.Ground.chain }, { on := 0, ground := Go.Ground.phase }, { on := 1, ground := Go.Ground.phase }, { on := 2, ground := Go.Ground.phase }, { on := 3, ground := Go.Ground.phase }, { on := 4, ground := Go.Ground.phase }], guard := none }
def c53a0 : Oper := { dst := some 7, op := Go.Op.load 65 (Go.Operand.tmp 3), type := 65, pos := "steps.go:31", after := #[], guard := none }
def c53a1 : Oper := { dst := some 8, op := Go.Op.call { callee := Go.Callee.value (Go.Operand.func 46), args := #[Go.Operand.tmp 7], argTypes := #[65] }, type := 3, pos := "steps.go:31", after := #[{ on := 0, ground := Go.Ground.data }], guard := none }
def c53a2 : Oper := { dst := some 9, op := Go.Op.fieldAddr 65 (Go.Operand.tmp 3) 0, type := 0, pos := "steps.go:31", after := #[], guard := none }
def c53a3 : Oper := { dst := some 10, op := Go.Op.load 3 (Go.Operand.tmp 9), type := 3, pos := "steps.go:31", after := #[{ on := 2, ground := Go.Ground.data }], guard := none }
def c53a4 : Oper := { dst := some 11, op := Go.Op.binOp Go.BinOp.lss 3 (Go.Operand.tmp 8) (Go.Operand.tmp 10) 3, type := 4, pos := "steps.go:31", after := #[{ on := 1, ground := Go.Ground.data }, { on := 3, ground := Go.Ground.data }], guard := none }

set_option maxRecDepth 100000 in
set_option maxHeartbeats 2000000 in
theorem alone_any (w : World) (t s : Nat) (ht : t < 1000000) :
    Calls Tryd.prog 45 #[.agg #[.int .i64 t, .int .i64 s]] w fun e w' => e = .returned (.bool (alone t s)) ∧ Below w.heap.size w w' := by
  have HOT := Lib.hid (fun W : World => other_any W t s ht)
  have hA := Arr.new w #[.int .i64 t, .int .i64 s] 65
  have hBW : Below w.heap.size w (w.alloc (.cells #[.int .i64 t, .int .i64 s] 65)) := (Below.refl _ _).alloc (Nat.le_refl _) _
  have hz : w.heap.size < (w.alloc (.cells #[.int .i64 t, .int .i64 s] 65)).heap.size := by rw [World.size_alloc]; exact Nat.lt_succ_self _
  obtain ⟨W0, hW0⟩ : ∃ W0, w.alloc (.cells #[.int .i64 t, .int .i64 s] 65) = W0 := ⟨_, rfl⟩
  rw [hW0] at hA hBW hz
  have HBW := Lib.hid hBW
  have AX : Hid (∀ W, Kept W0 W → W.rangeAt w.heap.size 0 [.int .i64 t, .int .i64 s]) := Lib.hid fun W hW => (hA.below hW.below hz).at_
  have P1 : Hid (∀ W, Kept W0 W → W.cell? ⟨w.heap.size, 1, none⟩ = some (.int .i64 s)) := Lib.hid fun W hW => (hA.below hW.below hz).cell rfl
  clear hA hBW hz
  go_enter Tryd.func45, Tryd.ntmps45
  go_upto_region 1 with fail
  clear hW0
  refine wp_region_held_drew (S := fun W => Kept W0 W) (by kernel_rfl) (Kept.drew (Kept.refl W0)) (fun hHeld => ?_)
  refine wpAnyH_take (i := 0) (oi := c45a0) rfl (by kernel_rfl) (by kernel_rfl) (by kernel_rfl) (fun _ _ _ h => h) (yieldsIf_load_mid (by rfl) 65 (.tmp 1) (by rfl) w.heap.size 0 (by rfl) [.int .i64 t, .int .i64 s] _ (fun w hSw => AX.out w hSw) Tryd.underlying65 rfl Tryd.info65) hHeld ?_
  try simp only [c45a0, Act.put, List.setIfInBounds_toArray, List.set_cons_zero, List.set_cons_succ]
  refine wpAnyH_take (i := 2) (oi := c45a2) (v := ?_) rfl (by kernel_rfl) (by kernel_rfl) (by kernel_rfl) (fun _ _ _ h => h) (Or.inl ⟨by rfl, ?_⟩) hHeld ?_
  rotate_left
  · (intro w hSw; (try dsimp only at hSw); unfold c45a2; go_simp <;> with_reducible rfl)
  try simp only [c45a2, Act.put, List.setIfInBounds_toArray, List.set_cons_zero, List.set_cons_succ]
  refine wpAnyH_take (i := 3) (oi := c45a3) (v := ?_) rfl (by kernel_rfl) (by kernel_rfl) (by kernel_rfl) (fun _ _ _ h => h) (Or.inl ⟨by rfl, ?_⟩) hHeld ?_
  rotate_left
  · (intro w hSw; have f1 := P1.out w hSw; unfold c45a3; go_simp <;> with_reducible rfl)
  try simp only [c45a3, Act.put, List.setIfInBounds_toArray, List.set_cons_zero, List.set_cons_succ]
  refine wpAnyH_ready (rs := [1]) (by kernel_rfl) (by simp) ?_
  refine AllReadyH.cons (o := c45a1) rfl (fun K hK => ?_) AllReadyH.nil
  rw [if_pos (by rfl)]
  unfold c45a1
  go_simp
  (with_reducible refine (HOT.out _).mono ?_)
  rintro e W1 ⟨rfl, hB1⟩
  have hS1 := hHeld.next hB1
  go_wp2_with fail
  refine hK.out _ _ hS1 (fun hHeld => ?_)
  clear hK K
  try simp only [c45a1, Act.put, List.setIfInBounds_toArray, List.set_cons_zero, List.set_cons_succ]
  refine wpAnyH_take (i := 4) (oi := c45a4) (v := ?_) rfl (by kernel_rfl) (by kernel_rfl) (by kernel_rfl) (fun _ _ _ h => h) (Or.inl ⟨by rfl, ?_⟩) hHeld ?_
  rotate_left
  · (intro w hSw; (try dsimp only at hSw); unfold c45a4; go_simp <;> with_reducible rfl)
  try simp only [c45a4, Act.put, List.setIfInBounds_toArray, List.set_cons_zero, List.set_cons_succ]
  refine wpAnyH_take (i := 5) (oi := c45a5) (v := ?_) rfl (by kernel_rfl) (by kernel_rfl) (by kernel_rfl) (fun _ _ _ h => h) (Or.inl ⟨by rfl, ?_⟩) hHeld ?_
  rotate_left
  · (intro w hSw; (try dsimp only at hSw); unfold c45a5; go_simp <;> with_reducible rfl)
  try simp only [c45a5, Act.put, List.setIfInBounds_toArray, List.set_cons_zero, List.set_cons_succ]
  refine wpAnyH_done (by kernel_rfl) ?_ _
  have HST := Lib.hid hHeld
  clear hHeld
  go_wp2
  go_returns
  exact ⟨by
    unfold alone
    by_cases h : oth t = s
    · simp [h]
    · have h2 : ¬ ((oth t : Nat) : Int) = (s : Int) := by omega
      simp [h, h2], HBW.out.trans (HST.out.mono HBW.out.size)⟩

set_option maxRecDepth 100000 in
set_option maxHeartbeats 4000000 in
theorem stepText_new (w : World) (t s : Nat) (ht : t < 1000000) (a b : List UInt8) (ha : a.length = 32) (hb : b.length = 32) (hT : Tab w) (h0 : 0 < w.heap.size) :
    Calls Tryd.prog 53 #[.agg #[.int .i64 t, .int .i64 s], .agg (cells8 a).toArray, .agg (cells8 b).toArray] w fun e w' => ∃ v', e = .returned v' ∧ NewB w.heap.size w' v' (stepT t a b) ∧ Below w.heap.size w w' := by
  have HOT := Lib.hid (fun W : World => other_any W t s ht)
  have HN1 := Lib.hid (fun W (hW : Below w.heap.size w W) => nodeText_new W a b ha hb (hT.below hW h0) (by have := hW.size; omega))
  have HN2 := Lib.hid (fun W (hW : Below w.heap.size w W) => nodeText_new W b a hb ha (hT.below hW h0) (by have := hW.size; omega))
  have la : (cells8 a).length = 32 := by rw [cells8_len, ha]
  have lb : (cells8 b).length = 32 := by rw [cells8_len, hb]
  obtain ⟨ca, hca⟩ : ∃ ca, cells8 a = ca := ⟨_, rfl⟩
  obtain ⟨cb, hcb⟩ : ∃ cb, cells8 b = cb := ⟨_, rfl⟩
  rw [hca] at HN1 HN2 la ⊢
  rw [hcb] at HN1 HN2 lb ⊢
  have HZA : Hid ((Tryd.prog.info? 30).map (·.size) = some ca.length) := by show _ = _; rw [la]; exact Tryd.info30
  have HZB : Hid ((Tryd.prog.info? 30).map (·.size) = some cb.length) := by show _ = _; rw [lb]; exact Tryd.info30
  have z1 : (w.alloc (.cells #[.int .i64 t, .int .i64 s] 65)).heap.size = w.heap.size + 1 := World.size_alloc _ _
  have z2 : ((w.alloc (.cells #[.int .i64 t, .int .i64 s] 65)).alloc (.cells ca.toArray 30)).heap.size = w.heap.size + 2 := by rw [World.size_alloc, z1]
  have z3 : (((w.alloc (.cells #[.int .i64 t, .int .i64 s] 65)).alloc (.cells ca.toArray 30)).alloc (.cells cb.toArray 30)).heap.size = w.heap.size + 3 := by rw [World.size_alloc, z2]
  have hBW : Below w.heap.size w (((w.alloc (.cells #[.int .i64 t, .int .i64 s] 65)).alloc (.cells ca.toArray 30)).alloc (.cells cb.toArray 30)) := (((Below.refl _ _).alloc (Nat.le_refl _) _).alloc (by omega) _).alloc (by omega) _
  have hS := ((Arr.new w #[.int .i64 t, .int .i64 s] 65).alloc (by omega) (.cells ca.toArray 30)).alloc (by omega) (.cells cb.toArray 30)
  have hA := (Arr.new (w.alloc (.cells #[.int .i64 t, .int .i64 s] 65)) ca.toArray 30).alloc (by omega) (.cells cb.toArray 30)
  have hB := Arr.new ((w.alloc (.cells #[.int .i64 t, .int .i64 s] 65)).alloc (.cells ca.toArray 30)) cb.toArray 30
  rw [z1] at hA
  rw [z2] at hB
  obtain ⟨W0, hW0⟩ : ∃ W0, ((w.alloc (.cells #[.int .i64 t, .int .i64 s] 65)).alloc (.cells ca.toArray 30)).alloc (.cells cb.toArray 30) = W0 := ⟨_, rfl⟩
  rw [hW0] at hA hB hS hBW z3
  have HZ0 : Hid (w.heap.size + 2 < W0.heap.size) := Lib.hid (by omega)
  have HBW := Lib.hid hBW
  have HA := Lib.hid hA
  have HB := Lib.hid hB
  have AX : Hid (∀ W, Kept W0 W → W.rangeAt w.heap.size 0 [.int .i64 t, .int .i64 s]) := Lib.hid fun W hW => (hS.below hW.below (by omega)).at_
  have P0 : Hid (∀ W, Kept W0 W → W.cell? ⟨w.heap.size, 0, none⟩ = some (.int .i64 t)) := Lib.hid fun W hW => (hS.below hW.below (by omega)).cell rfl
  clear hS hA hB hBW z1 z2 z3 la lb hca hcb hT
  go_enter Tryd.func53, Tryd.ntmps53
  go_upto_region 1 with fail
  clear hW0
  refine wp_region_held_drew (S := fun W => Kept W0 W) (by kernel_rfl) (Kept.drew (Kept.refl W0)) (fun hHeld => ?_)
  refine wpAnyH_take (i := 0) (oi := c53a0) rfl (by kernel_rfl) (by kernel_rfl) (by kernel_rfl) (fun _ _ _ h => h) (yieldsIf_load_mid (by rfl) 65 (.tmp 3) (by rfl) w.heap.size 0 (by rfl) [.int .i64 t, .int .i64 s] _ (fun w hSw => AX.out w hSw) Tryd.underlying65 rfl Tryd.info65) hHeld ?_
  try simp only [c53a0, Act.put, List.setIfInBounds_toArray, List.set_cons_zero, List.set_cons_succ]
  refine wpAnyH_take (i := 2) (oi := c53a2) (v := ?_) rfl (by kernel_rfl) (by kernel_rfl) (by kernel_rfl) (fun _ _ _ h => h) (Or.inl ⟨by rfl, ?_⟩) hHeld ?_
  rotate_left
  · (intro w hSw; (try dsimp only at hSw); unfold c53a2; go_simp <;> with_reducible rfl)
  try simp only [c53a2, Act.put, List.setIfInBounds_toArray, List.set_cons_zero, List.set_cons_succ]
  refine wpAnyH_take (i := 3) (oi := c53a3) (v := ?_) rfl (by kernel_rfl) (by kernel_rfl) (by kernel_rfl) (fun _ _ _ h => h) (Or.inl ⟨by rfl, ?_⟩) hHeld ?_
  rotate_left
  · (intro w hSw; have f1 := P0.out w hSw; unfold c53a3; go_simp <;> with_reducible rfl)
  try simp only [c53a3, Act.put, List.setIfInBounds_toArray, List.set_cons_zero, List.set_cons_succ]
  refine wpAnyH_ready (rs := [1]) (by kernel_rfl) (by simp) ?_
  refine AllReadyH.cons (o := c53a1) rfl (fun K hK => ?_) AllReadyH.nil
  rw [if_pos (by rfl)]
  unfold c53a1
  go_simp
  (with_reducible refine (HOT.out _).mono ?_)
  rintro e W1 ⟨rfl, hB1⟩
  have hS1 := hHeld.next hB1
  go_wp2_with fail
  refine hK.out _ _ hS1 (fun hHeld => ?_)
  clear hK K
  try simp only [c53a1, Act.put, List.setIfInBounds_toArray, List.set_cons_zero, List.set_cons_succ]
  refine wpAnyH_take (i := 4) (oi := c53a4) (v := ?_) rfl (by kernel_rfl) (by kernel_rfl) (by kernel_rfl) (fun _ _ _ h => h) (Or.inl ⟨by rfl, ?_⟩) hHeld ?_
  rotate_left
  · (intro w hSw; (try dsimp only at hSw); unfold c53a4; go_simp <;> with_reducible rfl)
  try simp only [c53a4, Act.put, List.setIfInBounds_toArray, List.set_cons_zero, List.set_cons_succ]
  refine wpAnyH_done (by kernel_rfl) ?_ _
  have HST := Lib.hid hHeld
  clear hHeld
  have HBX := Lib.hid (HBW.out.trans (HST.out.mono HBW.out.size))
  have HA3 := Lib.hid (HA.out.below HST.out.below (by have := HZ0.out; omega))
  have HB3 := Lib.hid (HB.out.below HST.out.below (by have := HZ0.out; omega))
  by_cases hlt : oth t < t
  · have d1 : decide ((oth t : Int) < (t : Int)) = true := by simp; omega
    have d2 : decide (oth t < t) = true := by simp; omega
    have hte : stepT t a b = nodeT b a := by unfold stepT; rw [if_pos hlt]
    go_wp2_with (first
      | (refine wpList_load_mid rfl 30 (.tmp 5) (by rfl) (w.heap.size + 2) 0 (by rfl) cb _ HB3.out.at_ Tryd.underlying30 rfl HZB.out ?_)
      | (refine wpList_load_mid rfl 30 (.tmp 4) (by rfl) (w.heap.size + 1) 0 (by rfl) ca _ HA3.out.at_ Tryd.underlying30 rfl HZA.out ?_)
      | (go_at_call 81; with_reducible refine (HN2.out _ HBX.out).mono ?_; rintro e w5 ⟨v5, rfl, hv5, hb5⟩; have HV5 := Lib.hid hv5; have HB5 := Lib.hid (HBX.out.trans (hb5.mono HBX.out.size)); clear hv5 hb5))
    go_returns
    exact ⟨_, rfl, by rw [hte]; exact ⟨HV5.out.1.mono HBX.out.size, HV5.out.2⟩, HB5.out⟩
  · have d1 : decide ((oth t : Int) < (t : Int)) = false := by simp; omega
    have d2 : decide (oth t < t) = false := by simp; omega
    have hte : stepT t a b = nodeT a b := by unfold stepT; rw [if_neg hlt]
    go_wp2_with (first
      | (refine wpList_load_mid rfl 30 (.tmp 5) (by rfl) (w.heap.size + 2) 0 (by rfl) cb _ HB3.out.at_ Tryd.underlying30 rfl HZB.out ?_)
      | (refine wpList_load_mid rfl 30 (.tmp 4) (by rfl) (w.heap.size + 1) 0 (by rfl) ca _ HA3.out.at_ Tryd.underlying30 rfl HZA.out ?_)
      | (go_at_call 81; with_reducible refine (HN1.out _ HBX.out).mono ?_; rintro e w5 ⟨v5, rfl, hv5, hb5⟩; have HV5 := Lib.hid hv5; have HB5 := Lib.hid (HBX.out.trans (hb5.mono HBX.out.size)); clear hv5 hb5))
    go_returns
    exact ⟨_, rfl, by rw [hte]; exact ⟨HV5.out.1.mono HBX.out.size, HV5.out.2⟩, HB5.out⟩
theorem stepText_any (w : World) (t s : Nat) (ht : t < 1000000) (a b : List UInt8) (ha : a.length = 32) (hb : b.length = 32) (hT : Tab w) (h0 : 0 < w.heap.size) :
    Calls Tryd.prog 53 #[.agg #[.int .i64 t, .int .i64 s], .agg (cells8 a).toArray, .agg (cells8 b).toArray] w fun e w' => ∃ v', e = .returned v' ∧ BytesAt w' w'.heap.size v' (stepT t a b) ∧ Below w.heap.size w w' := by
  refine (stepText_new w t s ht a b ha hb hT h0).mono ?_
  rintro e w' ⟨v', rfl, h1, h2⟩
  exact ⟨v', rfl, h1.2, h2⟩
end Go.Proofs.YtfmngeemhfpeiaaDoor
