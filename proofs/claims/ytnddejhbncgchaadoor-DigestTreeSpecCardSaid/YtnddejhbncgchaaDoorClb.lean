/- digest.climb of more than one leaf. -/
import Derived.Test.YtnddejhbncgchaaDoorEqd
namespace Go.Proofs.YtnddejhbncgchaaDoor
open Go.RowKit

/-- Where a path leads: the digest that is reached (f bounds the steps). -/
def climbF : Nat → List UInt8 → Nat → Nat → List (List UInt8) → List UInt8
  | 0, d, _, _, _ => tagged tLeaf d
  | f + 1, d, i, n, p => if n ≤ 1 then tagged tLeaf d else
      if i < spl n then tagged tNode (climbF f d i (spl n) (p.take (p.length - 1)) ++ p.getD (p.length - 1) [])
      else tagged tNode (p.getD (p.length - 1) [] ++ climbF f d (i - spl n) (n - spl n) (p.take (p.length - 1)))
theorem climbF_len (f : Nat) (d : List UInt8) (i n : Nat) (p : List (List UInt8)) : (climbF f d i n p).length = 32 := by
  cases f with
  | zero => exact tagged_len _ _
  | succ f => rw [climbF]; repeat (first | exact tagged_len _ _ | split)

/-- What lay before the call has not turned, and the call's own digest, and the argument's box, are there. -/
def SC (w : World) (cx : List Value) (W : World) : Prop := Below w.heap.size w W ∧ W.rangeAt w.heap.size 0 cx ∧ W.there (w.heap.size + 1) 0 32 ∧ w.heap.size + 1 < W.heap.size
theorem SC.next {w W W' : World} {cx : List Value} (h : SC w cx W) (k : Below W.heap.size W W') : SC w cx W' :=
  ⟨h.1.trans (k.mono h.1.size), fun j v hv => (k.cell (p := ⟨w.heap.size, 0 + j, none⟩) (by have := h.2.2.2; show w.heap.size < _; omega)).trans (h.2.1 j v hv),
    fun j hj => ⟨by rw [k.cell (p := ⟨w.heap.size + 1, 0 + j, none⟩) h.2.2.2]; exact (h.2.2.1 j hj).1, by rw [k.frozen (p := ⟨w.heap.size + 1, 0 + j, none⟩) h.2.2.2]; exact (h.2.2.1 j hj).2⟩, Nat.lt_of_lt_of_le h.2.2.2 k.size⟩
theorem SC.drew {w W : World} {cx : List Value} (h : SC w cx W) : SC w cx W.drew := h.next ((Below.refl _ _).drew)
theorem SC.set {w W : World} {cx : List Value} (h : SC w cx W) (cs : List Value) : SC w cx (W.setCells (w.heap.size + 1) 0 cs) :=
  ⟨below_setCells (Nat.le_succ _) cs 0 W h.1, World.rangeAt_setCells_apart h.2.1 _ _ _ (.inl (by omega)), World.there_setCells h.2.2.1 _ _ _, Nat.lt_of_lt_of_le h.2.2.2 (below_setCells (B := 0) (Nat.zero_le _) cs 0 W (Below.refl 0 W)).size⟩

def c43a0 : Oper := { dst := some 23, op := Go.Op.load 26 (Go.Operand.tmp 4), type := 26, pos := "tree.go:53", after := #[], guard := none }
def c43a1 : Oper := { dst := some 24, op := Go.Op.move (Go.Operand.tmp 1), type := 3, pos := "tree.go:53", after := #[], guard := none }
def c43a2 : Oper := { dst := some 25, op := Go.Op.move (Go.Operand.tmp 9), type := 3, pos := "tree.go:53", after := #[], guard := none }
def c43a3 : Oper := { dst := some 26, op := Go.Op.move (Go.Operand.tmp 3), type := 30, pos := "tree.go:53", after := #[], guard := none }
def c43a4 : Oper := { dst := some 27, op := Go.Op.move (Go.Operand.tmp 10), type := 3, pos := "tree.go:53", after := #[], guard := none }
def c43a5 : Oper := { dst := some 28, op := Go.Op.slice 30 (Go.Operand.tmp 26) none (some (Go.Operand.tmp 27)) none, type := 30, pos := "tree.go:53", after := #[{ on := 3, ground := Go.Ground.data }, { on := 4, ground := Go.Ground.data }], guard := none }
def c43a6 : Oper := { dst := some 29, op := Go.Op.call { callee := Go.Callee.value (Go.Operand.func 43), args := #[Go.Operand.tmp 23, Go.Operand.tmp 24, Go.Operand.tmp 25, Go.Operand.tmp 28], argTypes := #[26, 3, 3, 30] }, type := 26, pos := "tree.go:53", after := #[{ on := 0, ground := Go.Ground.data }, { on := 1, ground := Go.Ground.data }, { on := 2, ground := Go.Ground.data }, { on := 5, ground := Go.Ground.data }], guard := none }
def c43a7 : Oper := { dst := some 30, op := Go.Op.move (Go.Operand.tmp 3), type := 30, pos := "tree.go:53", after := #[], guard := none }
def c43a8 : Oper := { dst := some 31, op := Go.Op.move (Go.Operand.tmp 10), type := 3, pos := "tree.go:53", after := #[], guard := none }
def c43a9 : Oper := { dst := some 32, op := Go.Op.indexAddr 30 (Go.Operand.tmp 30) (Go.Operand.tmp 31), type := 0, pos := "tree.go:53", after := #[{ on := 7, ground := Go.Ground.data }, { on := 8, ground := Go.Ground.data }], guard := none }
def c43a10 : Oper := { dst := some 33, op := Go.Op.load 26 (Go.Operand.tmp 32), type := 26, pos := "tree.go:53", after := #[{ on := 9, ground := Go.Ground.data }], guard := none }
def c43a11 : Oper := { dst := some 34, op := Go.Op.call { callee := Go.Callee.value (Go.Operand.func 37), args := #[Go.Operand.tmp 29, Go.Operand.tmp 33], argTypes := #[26, 26] }, type := 26, pos := "tree.go:53", after := #[{ on := 6, ground := Go.Ground.data }, { on := 10, ground := Go.Ground.data }, { on := 6, ground := Go.Ground.chain }], guard := none }
def c43a12 : Oper := { dst := none, op := Go.Op.store 26 (Go.Operand.tmp 8) (Go.Operand.tmp 34), type := 0, pos := "tree.go:53", after := #[{ on := 11, ground := Go.Ground.data }, { on := 11, ground := Go.Ground.chain }, { on := 0, ground := Go.Ground.phase }, { on := 1, ground := Go.Ground.phase }, { on := 2, ground := Go.Ground.phase }, { on := 3, ground := Go.Ground.phase }, { on := 4, ground := Go.Ground.phase }, { on := 5, ground := Go.Ground.phase }, { on := 6, ground := Go.Ground.phase }, { on := 7, ground := Go.Ground.phase }, { on := 8, ground := Go.Ground.phase }, { on := 9, ground := Go.Ground.phase }, { on := 10, ground := Go.Ground.phase }, { on := 11, ground := Go.Ground.phase }], guard := none }
def c43b0 : Oper := { dst := some 35, op := Go.Op.move (Go.Operand.tmp 3), type := 30, pos := "tree.go:55", after := #[], guard := none }
def c43b1 : Oper := { dst := some 36, op := Go.Op.move (Go.Operand.tmp 10), type := 3, pos := "tree.go:55", after := #[], guard := none }
def c43b2 : Oper := { dst := some 37, op := Go.Op.indexAddr 30 (Go.Operand.tmp 35) (Go.Operand.tmp 36), type := 0, pos := "tree.go:55", after := #[{ on := 0, ground := Go.Ground.data }, { on := 1, ground := Go.Ground.data }], guard := none }
def c43b3 : Oper := { dst := some 38, op := Go.Op.load 26 (Go.Operand.tmp 37), type := 26, pos := "tree.go:55", after := #[{ on := 2, ground := Go.Ground.data }], guard := none }
def c43b4 : Oper := { dst := some 39, op := Go.Op.load 26 (Go.Operand.tmp 4), type := 26, pos := "tree.go:55", after := #[], guard := none }
def c43b5 : Oper := { dst := some 40, op := Go.Op.move (Go.Operand.tmp 1), type := 3, pos := "tree.go:55", after := #[], guard := none }
def c43b6 : Oper := { dst := some 41, op := Go.Op.move (Go.Operand.tmp 9), type := 3, pos := "tree.go:55", after := #[], guard := none }
def c43b7 : Oper := { dst := some 42, op := Go.Op.binOp Go.BinOp.sub 3 (Go.Operand.tmp 40) (Go.Operand.tmp 41) 3, type := 3, pos := "tree.go:55", after := #[{ on := 5, ground := Go.Ground.data }, { on := 6, ground := Go.Ground.data }], guard := none }
def c43b8 : Oper := { dst := some 43, op := Go.Op.move (Go.Operand.tmp 2), type := 3, pos := "tree.go:55", after := #[], guard := none }
def c43b9 : Oper := { dst := some 44, op := Go.Op.move (Go.Operand.tmp 9), type := 3, pos := "tree.go:55", after := #[], guard := none }
def c43b10 : Oper := { dst := some 45, op := Go.Op.binOp Go.BinOp.sub 3 (Go.Operand.tmp 43) (Go.Operand.tmp 44) 3, type := 3, pos := "tree.go:55", after := #[{ on := 8, ground := Go.Ground.data }, { on := 9, ground := Go.Ground.data }], guard := none }
def c43b11 : Oper := { dst := some 46, op := Go.Op.move (Go.Operand.tmp 3), type := 30, pos := "tree.go:55", after := #[], guard := none }
def c43b12 : Oper := { dst := some 47, op := Go.Op.move (Go.Operand.tmp 10), type := 3, pos := "tree.go:55", after := #[], guard := none }
def c43b13 : Oper := { dst := some 48, op := Go.Op.slice 30 (Go.Operand.tmp 46) none (some (Go.Operand.tmp 47)) none, type := 30, pos := "tree.go:55", after := #[{ on := 11, ground := Go.Ground.data }, { on := 12, ground := Go.Ground.data }], guard := none }
def c43b14 : Oper := { dst := some 49, op := Go.Op.call { callee := Go.Callee.value (Go.Operand.func 43), args := #[Go.Operand.tmp 39, Go.Operand.tmp 42, Go.Operand.tmp 45, Go.Operand.tmp 48], argTypes := #[26, 3, 3, 30] }, type := 26, pos := "tree.go:55", after := #[{ on := 4, ground := Go.Ground.data }, { on := 7, ground := Go.Ground.data }, { on := 10, ground := Go.Ground.data }, { on := 13, ground := Go.Ground.data }], guard := none }
def c43b15 : Oper := { dst := some 50, op := Go.Op.call { callee := Go.Callee.value (Go.Operand.func 37), args := #[Go.Operand.tmp 38, Go.Operand.tmp 49], argTypes := #[26, 26] }, type := 26, pos := "tree.go:55", after := #[{ on := 3, ground := Go.Ground.data }, { on := 14, ground := Go.Ground.data }, { on := 14, ground := Go.Ground.chain }], guard := none }
def c43b16 : Oper := { dst := none, op := Go.Op.store 26 (Go.Operand.tmp 8) (Go.Operand.tmp 50), type := 0, pos := "tree.go:55", after := #[{ on := 15, ground := Go.Ground.data }, { on := 15, ground := Go.Ground.chain }, { on := 0, ground := Go.Ground.phase }, { on := 1, ground := Go.Ground.phase }, { on := 2, ground := Go.Ground.phase }, { on := 3, ground := Go.Ground.phase }, { on := 4, ground := Go.Ground.phase }, { on := 5, ground := Go.Ground.phase }, { on := 6, ground := Go.Ground.phase }, { on := 7, ground := Go.Ground.phase }, { on := 8, ground := Go.Ground.phase }, { on := 9, ground := Go.Ground.phase }, { on := 10, ground := Go.Ground.phase }, { on := 11, ground := Go.Ground.phase }, { on := 12, ground := Go.Ground.phase }, { on := 13, ground := Go.Ground.phase }, { on := 14, ground := Go.Ground.phase }, { on := 15, ground := Go.Ground.phase }], guard := none }
set_option maxRecDepth 100000 in
set_option maxHeartbeats 4000000 in
theorem climb_lt (w : World) (d x y z : List UInt8) (hd : d.length = 32) (hx : x.length = 32) (hy : y.length = 32) (i n k m db off cap : Nat) (hn1 : 1 < n) (hn : n ≤ 1099511627776) (hk : spl n = k) (hi : i < k) (hz : z = tagged tNode (x ++ y)) (hmc : m + 1 ≤ cap) (hcm : cap ≤ maxLen)
    (hr : w.rangeAt db (off + m * 32) (cells8 y)) (hdb : db < w.heap.size)
    (h1 : ∀ W, Below w.heap.size w W → Calls Tryd.prog 43 #[dv d, .int .i64 i, .int .i64 k, .slice (some ⟨db, off, none⟩) m cap] W fun e w' => e = .returned (dv x) ∧ Below W.heap.size W w') (hT : Tab w) (h0 : 0 < w.heap.size) :
    Calls Tryd.prog 43 #[dv d, .int .i64 i, .int .i64 n, .slice (some ⟨db, off, none⟩) (m + 1) cap] w fun e w' => e = .returned (dv z) ∧ Below w.heap.size w w' := by
  obtain ⟨hk0, hkn, _⟩ := spl_bound n hn1 hn
  rw [hk] at hk0 hkn
  obtain ⟨cs2, hcs2⟩ : ∃ cs2, cells8 z = cs2 := ⟨_, rfl⟩
  have hcl2 : cs2.length = 32 := by rw [← hcs2, cells8_len, hz, tagged_len]
  have ho2 : ∀ v ∈ cs2, v.oneCell' = true := by rw [← hcs2]; exact one_cells8 _
  have hz2 : (Tryd.prog.info? 26).map (·.size) = some cs2.length := by rw [hcl2]; exact Tryd.info26
  obtain ⟨cd, hcd⟩ : ∃ cd, cells8 d = cd := ⟨_, rfl⟩
  obtain ⟨cx, hcx⟩ : ∃ cx, cells8 x = cx := ⟨_, rfl⟩
  obtain ⟨cy, hcy⟩ : ∃ cy, cells8 y = cy := ⟨_, rfl⟩
  have hzd : (Tryd.prog.info? 26).map (·.size) = some cd.length := by rw [← hcd, cells8_len, hd]; exact Tryd.info26
  have hzy : (Tryd.prog.info? 26).map (·.size) = some cy.length := by rw [← hcy, cells8_len, hy]; exact Tryd.info26
  have hnd : ∀ W : World, SC w cd W → Calls Tryd.prog 37 #[.agg cx.toArray, .agg cy.toArray] W fun e w' => e = .returned (.agg cs2.toArray) ∧ SC w cd w' := fun W hS => by
    have h := node_any W x y hx hy (hT.below hS.1 h0) (by have := hS.1.size; omega)
    rw [dv_eq, dv_eq, ← hz, dv_eq, hcx, hcy, hcs2] at h
    exact h.mono fun e w' h => ⟨h.1, hS.next h.2⟩
  have hcl : ∀ W : World, SC w cd W → Calls Tryd.prog 43 #[.agg cd.toArray, .int .i64 i, .int .i64 k, .slice (some ⟨db, off, none⟩) m cap] W fun e w' => e = .returned (.agg cx.toArray) ∧ SC w cd w' := fun W hS => by
    have h := h1 W hS.1
    rw [dv_eq, dv_eq, hcx, hcd] at h
    exact h.mono fun e w' h => ⟨h.1, hS.next h.2⟩
  have hry : ∀ W : World, SC w cd W → W.rangeAt db (off + m * 32) cy := fun W hS j v hv => (hS.1.cell (p := ⟨db, off + m * 32 + j, none⟩) hdb).trans (hr j v (by rw [hcy]; exact hv))
  have hsp := split_any n hn1 hn
  rw [hk] at hsp
  rw [show dv z = .agg cs2.toArray by rw [dv_eq, hcs2], show dv d = .agg cd.toArray by rw [dv_eq, hcd]]
  have HND := Lib.hid hnd
  have HCLB := Lib.hid hcl
  have HRY := Lib.hid hry
  have HSP := Lib.hid hsp
  have HO2 := Lib.hid ho2
  have HCL2 := Lib.hid hcl2
  have HZ2 := Lib.hid hz2
  have HZD := Lib.hid hzd
  have HZY := Lib.hid hzy
  unfold maxLen at hcm
  have d1 : ((n : Int) == 1) = false := by simp; omega
  have e1 : decide ((n : Int) = 1) = false := by simp; omega
  have d2 : decide (i < k) = true := by simpa using hi
  have f2 : ((m : Nat) : Int) ≤ (cap : Int) := by omega
  have f3 : ((m : Nat) : Int) < ((m + 1 : Nat) : Int) := by omega
  have f5 : (m : Int) < (m : Int) + 1 := by omega
  have f4 : (0 : Int) ≤ (m : Int) := by omega
  have q1 : ((m + 1 : Nat) : Int) - 1 = (m : Int) := by omega
  clear hnd hcl hry hsp ho2 hcl2 hz2 hzd hzy hcs2 hT h1 hz hx hy hd hcx hcy hk hr
  go_enter Tryd.func43, Tryd.ntmps43
  go_wp2_with (first
    | (go_at_call 36; refine (HSP.out _).mono ?_; rintro e w' ⟨rfl, rfl⟩))
  refine code_world (fun W => SC w cd W) ⟨by go_grown, box_a w cd, (box_b w cd).there, by simp⟩ ?_
  rintro W0 hS0
  refine wp_region_held_drew (S := fun W => SC w cd W) (by kernel_rfl) (SC.drew hS0) (fun hHeld => ?_)
  refine wpAnyH_take (i := 0) (oi := c43a0) rfl (by kernel_rfl) (by kernel_rfl) (by kernel_rfl) (fun _ _ _ h => h) (yieldsIf_load_mid (by rfl) 26 (.tmp 4) (by rfl) w.heap.size 0 (by rfl) cd _ (fun W h => h.2.1) Tryd.underlying26 rfl HZD.out) hHeld ?_
  try simp only [c43a0, Act.put, List.setIfInBounds_toArray, List.set_cons_zero, List.set_cons_succ]
  refine wpAnyH_take (i := 1) (oi := c43a1) (v := ?_) rfl (by kernel_rfl) (by kernel_rfl) (by kernel_rfl) (fun _ _ _ h => h) (Or.inl ⟨by rfl, ?_⟩) hHeld ?_
  rotate_left
  · (intro w hSw; (try dsimp only at hSw); unfold c43a1; go_simp <;> with_reducible rfl)
  try simp only [c43a1, Act.put, List.setIfInBounds_toArray, List.set_cons_zero, List.set_cons_succ]
  refine wpAnyH_take (i := 2) (oi := c43a2) (v := ?_) rfl (by kernel_rfl) (by kernel_rfl) (by kernel_rfl) (fun _ _ _ h => h) (Or.inl ⟨by rfl, ?_⟩) hHeld ?_
  rotate_left
  · (intro w hSw; (try dsimp only at hSw); unfold c43a2; go_simp <;> with_reducible rfl)
  try simp only [c43a2, Act.put, List.setIfInBounds_toArray, List.set_cons_zero, List.set_cons_succ]
  refine wpAnyH_take (i := 3) (oi := c43a3) (v := ?_) rfl (by kernel_rfl) (by kernel_rfl) (by kernel_rfl) (fun _ _ _ h => h) (Or.inl ⟨by rfl, ?_⟩) hHeld ?_
  rotate_left
  · (intro w hSw; (try dsimp only at hSw); unfold c43a3; go_simp <;> with_reducible rfl)
  try simp only [c43a3, Act.put, List.setIfInBounds_toArray, List.set_cons_zero, List.set_cons_succ]
  refine wpAnyH_take (i := 4) (oi := c43a4) (v := ?_) rfl (by kernel_rfl) (by kernel_rfl) (by kernel_rfl) (fun _ _ _ h => h) (Or.inl ⟨by rfl, ?_⟩) hHeld ?_
  rotate_left
  · (intro w hSw; (try dsimp only at hSw); unfold c43a4; go_simp <;> with_reducible rfl)
  try simp only [c43a4, Act.put, List.setIfInBounds_toArray, List.set_cons_zero, List.set_cons_succ]
  refine wpAnyH_take (i := 5) (oi := c43a5) (v := ?_) rfl (by kernel_rfl) (by kernel_rfl) (by kernel_rfl) (fun _ _ _ h => h) (Or.inl ⟨by rfl, ?_⟩) hHeld ?_
  rotate_left
  · (intro w hSw; (try dsimp only at hSw); unfold c43a5; go_simp <;> with_reducible rfl)
  try simp only [c43a5, Act.put, List.setIfInBounds_toArray, List.set_cons_zero, List.set_cons_succ]
  refine wpAnyH_take (i := 7) (oi := c43a7) (v := ?_) rfl (by kernel_rfl) (by kernel_rfl) (by kernel_rfl) (fun _ _ _ h => h) (Or.inl ⟨by rfl, ?_⟩) hHeld ?_
  rotate_left
  · (intro w hSw; (try dsimp only at hSw); unfold c43a7; go_simp <;> with_reducible rfl)
  try simp only [c43a7, Act.put, List.setIfInBounds_toArray, List.set_cons_zero, List.set_cons_succ]
  refine wpAnyH_take (i := 8) (oi := c43a8) (v := ?_) rfl (by kernel_rfl) (by kernel_rfl) (by kernel_rfl) (fun _ _ _ h => h) (Or.inl ⟨by rfl, ?_⟩) hHeld ?_
  rotate_left
  · (intro w hSw; (try dsimp only at hSw); unfold c43a8; go_simp <;> with_reducible rfl)
  try simp only [c43a8, Act.put, List.setIfInBounds_toArray, List.set_cons_zero, List.set_cons_succ]
  refine wpAnyH_take (i := 9) (oi := c43a9) (v := ?_) rfl (by kernel_rfl) (by kernel_rfl) (by kernel_rfl) (fun _ _ _ h => h) (Or.inl ⟨by rfl, ?_⟩) hHeld ?_
  rotate_left
  · (intro w hSw; (try dsimp only at hSw); unfold c43a9; go_simp <;> with_reducible rfl)
  try simp only [c43a9, Act.put, List.setIfInBounds_toArray, List.set_cons_zero, List.set_cons_succ]
  refine wpAnyH_take (i := 10) (oi := c43a10) rfl (by kernel_rfl) (by kernel_rfl) (by kernel_rfl) (fun _ _ _ h => h) (yieldsIf_load_mid (by rfl) 26 (.tmp 32) (by rfl) db (off + m * 32) (by rfl) cy _ (fun W h => HRY.out W h) Tryd.underlying26 rfl HZY.out) hHeld ?_
  try simp only [c43a10, Act.put, List.setIfInBounds_toArray, List.set_cons_zero, List.set_cons_succ]
  refine wpAnyH_ready (rs := [6]) (by kernel_rfl) (by simp) ?_
  refine AllReadyH.cons (o := c43a6) rfl (fun K hK => ?_) AllReadyH.nil
  rw [if_pos (by rfl)]
  unfold c43a6
  go_simp
  refine (HCLB.out _ hHeld).mono ?_
  rintro e w1 ⟨rfl, hS_w1⟩
  go_wp2_with fail
  refine hK.out _ _ hS_w1 (fun hHeld => ?_)
  clear hK K
  try simp only [c43a6, Act.put, List.setIfInBounds_toArray, List.set_cons_zero, List.set_cons_succ]
  refine wpAnyH_ready (rs := [11]) (by kernel_rfl) (by simp) ?_
  refine AllReadyH.cons (o := c43a11) rfl (fun K hK => ?_) AllReadyH.nil
  rw [if_pos (by rfl)]
  unfold c43a11
  go_simp
  refine (HND.out _ hHeld).mono ?_
  rintro e w2 ⟨rfl, hS_w2⟩
  go_wp2_with fail
  refine hK.out _ _ hS_w2 (fun hHeld => ?_)
  clear hK K
  try simp only [c43a11, Act.put, List.setIfInBounds_toArray, List.set_cons_zero, List.set_cons_succ]
  refine wpAnyH_ready (rs := [12]) (by kernel_rfl) (by simp) ?_
  refine AllReadyH.cons (o := c43a12) rfl (fun K hK => ?_) AllReadyH.nil
  rw [if_pos (by rfl)]
  refine wp_store_mid 26 _ _ (by rfl) (w.heap.size + 1) 0 (List.toArray cs2) (by rfl) (by rfl) (by have h := hHeld.2.2.1; rw [← HCL2.out] at h; exact h) (by simpa using HZ2.out) (all_oneCell_toArray HO2.out) ?_
  refine hK.out _ _ (by rw [List.toList_toArray]; exact hHeld.set cs2) (fun hHeld => ?_)
  clear hK K
  try simp only [c43a12, Act.put]
  refine wpAnyH_done (by kernel_rfl) ?_ _
  have hst := World.rangeAt_setCells_same w2 (w.heap.size + 1) 0 cs2 (by rw [HCL2.out]; exact hS_w2.2.2.1)
  have HST := Lib.hid hst
  have HSF := Lib.hid (hS_w2.set cs2).1
  clear hst hHeld hS_w2 hS_w1
  go_wp2
  refine bodyPost_ret (results_cell_mid rfl _ _ _ _ _ rfl HST.out Tryd.underlying26 rfl HZ2.out) rfl ?_
  exact ⟨rfl, HSF.out⟩
end Go.Proofs.YtnddejhbncgchaaDoor
