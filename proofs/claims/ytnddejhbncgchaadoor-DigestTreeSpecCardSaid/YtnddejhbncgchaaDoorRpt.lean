/- The reference's path and Path. -/
import Derived.Test.YtnddejhbncgchaaDoorRtr
import Derived.Test.YtnddejhbncgchaaDoorPth
namespace Go.Proofs.YtnddejhbncgchaaDoor
open Go.RowKit

def c41a0 : Oper := { dst := some 16, op := Go.Op.move (Go.Operand.tmp 0), type := 30, pos := "ref.go:114", after := #[], guard := none }
def c41a1 : Oper := { dst := some 17, op := Go.Op.move (Go.Operand.tmp 5), type := 3, pos := "ref.go:114", after := #[], guard := none }
def c41a2 : Oper := { dst := some 18, op := Go.Op.slice 30 (Go.Operand.tmp 16) none (some (Go.Operand.tmp 17)) none, type := 30, pos := "ref.go:114", after := #[{ on := 0, ground := Go.Ground.data }, { on := 1, ground := Go.Ground.data }], guard := none }
def c41a3 : Oper := { dst := some 19, op := Go.Op.move (Go.Operand.tmp 1), type := 3, pos := "ref.go:114", after := #[], guard := none }
def c41a4 : Oper := { dst := some 20, op := Go.Op.call { callee := Go.Callee.value (Go.Operand.func 41), args := #[Go.Operand.tmp 18, Go.Operand.tmp 19], argTypes := #[30, 3] }, type := 30, pos := "ref.go:114", after := #[{ on := 2, ground := Go.Ground.data }, { on := 3, ground := Go.Ground.data }], guard := none }
def c41a5 : Oper := { dst := some 21, op := Go.Op.move (Go.Operand.tmp 0), type := 30, pos := "ref.go:114", after := #[], guard := none }
def c41a6 : Oper := { dst := some 22, op := Go.Op.move (Go.Operand.tmp 5), type := 3, pos := "ref.go:114", after := #[], guard := none }
def c41a7 : Oper := { dst := some 23, op := Go.Op.slice 30 (Go.Operand.tmp 21) (some (Go.Operand.tmp 22)) none none, type := 30, pos := "ref.go:114", after := #[{ on := 5, ground := Go.Ground.data }, { on := 6, ground := Go.Ground.data }], guard := none }
def c41a8 : Oper := { dst := some 24, op := Go.Op.call { callee := Go.Callee.value (Go.Operand.func 18), args := #[Go.Operand.tmp 23], argTypes := #[30] }, type := 26, pos := "ref.go:114", after := #[{ on := 7, ground := Go.Ground.data }, { on := 4, ground := Go.Ground.chain }], guard := none }
def c41a9 : Oper := { dst := some 25, op := Go.Op.buildSlice 30 1 #[(0, Go.Operand.tmp 24)], type := 30, pos := "ref.go:114", after := #[{ on := 8, ground := Go.Ground.data }], guard := none }
def c41a10 : Oper := { dst := some 26, op := Go.Op.call { callee := Go.Callee.builtin Go.Builtin.append, args := #[Go.Operand.tmp 20, Go.Operand.tmp 25], argTypes := #[30, 30] }, type := 30, pos := "ref.go:114", after := #[{ on := 4, ground := Go.Ground.data }, { on := 9, ground := Go.Ground.data }, { on := 8, ground := Go.Ground.chain }], guard := none }
def c41a11 : Oper := { dst := some 4, op := Go.Op.assign (Go.Operand.tmp 26), type := 30, pos := "ref.go:114", after := #[{ on := 10, ground := Go.Ground.data }, { on := 10, ground := Go.Ground.chain }, { on := 0, ground := Go.Ground.phase }, { on := 1, ground := Go.Ground.phase }, { on := 2, ground := Go.Ground.phase }, { on := 3, ground := Go.Ground.phase }, { on := 4, ground := Go.Ground.phase }, { on := 5, ground := Go.Ground.phase }, { on := 6, ground := Go.Ground.phase }, { on := 7, ground := Go.Ground.phase }, { on := 8, ground := Go.Ground.phase }, { on := 9, ground := Go.Ground.phase }, { on := 10, ground := Go.Ground.phase }], guard := none }

set_option maxRecDepth 100000 in
set_option maxHeartbeats 1000000 in
theorem rpath_lt (w : World) (db off cap n k i : Nat) (p : List (List UInt8)) (x : List UInt8) (hx : x.length = 32) (hn1 : 1 < n) (hn2 : n ≤ 1000000) (hk : spl n = k) (hi : i < k) (hnc : n ≤ cap) (_hcm : cap ≤ maxLen) (hpl : p.length ≤ 1000000)
    (h1 : ∀ W, Below w.heap.size w W → Calls Tryd.prog 41 #[.slice (some ⟨db, off, none⟩) k cap, .int .i64 i] W (PathPost W p))
    (h2 : ∀ W, Below w.heap.size w W → Calls Tryd.prog 18 #[.slice (some ⟨db, off + k * 32, none⟩) (n - k) (cap - k)] W fun e w' => e = .returned (dv x) ∧ Below W.heap.size W w') :
    Calls Tryd.prog 41 #[.slice (some ⟨db, off, none⟩) n cap, .int .i64 i] w (PathPost w (p ++ [x])) := by
  obtain ⟨hk0, hkn, _⟩ := spl_bound n hn1 (by omega)
  rw [hk] at hk0 hkn
  obtain ⟨i0, hi0, hz0, hz1, hz2⟩ := info_parts Tryd.info26z
  obtain ⟨D, hD⟩ : ∃ D, cells8 x = D := ⟨_, rfl⟩
  have hDl : D.length = 32 := by rw [← hD, cells8_len, hx]
  have hD1 : ∀ v ∈ D, v.oneCell' = true := by rw [← hD]; exact one_cells8 _
  have hbs : ∀ W : World, (Instr.buildSlice 30 1 #[(0, .agg D.toArray)]).run Tryd.prog W = .ok (.slice (some ⟨W.heap.size, 0, none⟩) 1 1) (W.alloc (.cells D.toArray 26)) := fun W => run_buildSlice1 W _ (by simpa using hDl)
  have ha : ∀ W, Below w.heap.size w W → Calls Tryd.prog 41 #[.slice (some ⟨db, off, none⟩) k cap, .int .i64 i] W fun e w' => ∃ u, e = .returned u ∧ w'.ownsRow w.heap.size 26 32 u p.length (flat p) ∧ Below W.heap.size W w' := fun W hB =>
    (h1 W hB).mono fun e w' ⟨u, a, b, c⟩ => ⟨u, a, own_base b hB.size, c⟩
  have hb : ∀ W, Below w.heap.size w W → Calls Tryd.prog 18 #[.slice (some ⟨db, off + k * 32, none⟩) (n - k) (cap - k)] W fun e w' => e = .returned (.agg D.toArray) ∧ Below W.heap.size W w' := fun W hB => by
    have h := h2 W hB
    rw [dv_eq, hD] at h
    exact h
  have hsp := rhalf_any n hn1 (by omega)
  rw [hk] at hsp
  have HSP := Lib.hid hsp
  have H1 := Lib.hid ha
  have H2 := Lib.hid hb
  have HD := Lib.hid hD
  have HDL := Lib.hid hDl
  have HD1 := Lib.hid hD1
  have HBS := Lib.hid hbs
  unfold maxLen at _hcm
  have d1 : ((n : Int) == 1) = false := by simp; omega
  have e1 : decide ((n : Int) = 1) = false := by simp; omega
  have d2 : decide (i < k) = true := by simp; omega
  have f1 : ((k : Nat) : Int) ≤ (n : Int) := by omega
  have f2 : ((k : Nat) : Int) ≤ (cap : Int) := by omega
  have f3 : ((n : Nat) : Int) ≤ (cap : Int) := by omega
  have hkc : k < cap := by omega
  have f5 : ¬ cap = k := by omega
  clear hsp ha hb hD hDl hD1 hbs h1 h2 hx hk
  go_enter Tryd.func41, Tryd.ntmps41
  go_wp2_with (first
    | (go_at_call 38; refine (HSP.out _).mono ?_; rintro e w' ⟨rfl, hw'⟩; rw [hw']; clear hw' w'))
  refine wp_region_held_drew (S := fun W => Below w.heap.size w W) (by kernel_rfl) ((Below.refl _ _).drew) (fun hHeld => ?_)
  refine wpAnyH_take (i := 0) (oi := c41a0) (v := ?_) rfl (by kernel_rfl) (by kernel_rfl) (by kernel_rfl) (fun _ _ _ h => h) (Or.inl ⟨by rfl, ?_⟩) hHeld ?_
  rotate_left
  · (intro w hSw; (try dsimp only at hSw); unfold c41a0; go_simp <;> with_reducible rfl)
  try simp only [c41a0, Act.put, List.setIfInBounds_toArray, List.set_cons_zero, List.set_cons_succ]
  refine wpAnyH_take (i := 1) (oi := c41a1) (v := ?_) rfl (by kernel_rfl) (by kernel_rfl) (by kernel_rfl) (fun _ _ _ h => h) (Or.inl ⟨by rfl, ?_⟩) hHeld ?_
  rotate_left
  · (intro w hSw; (try dsimp only at hSw); unfold c41a1; go_simp <;> with_reducible rfl)
  try simp only [c41a1, Act.put, List.setIfInBounds_toArray, List.set_cons_zero, List.set_cons_succ]
  refine wpAnyH_take (i := 2) (oi := c41a2) (v := ?_) rfl (by kernel_rfl) (by kernel_rfl) (by kernel_rfl) (fun _ _ _ h => h) (Or.inl ⟨by rfl, ?_⟩) hHeld ?_
  rotate_left
  · (intro w hSw; (try dsimp only at hSw); unfold c41a2; go_simp <;> with_reducible rfl)
  try simp only [c41a2, Act.put, List.setIfInBounds_toArray, List.set_cons_zero, List.set_cons_succ]
  refine wpAnyH_take (i := 3) (oi := c41a3) (v := ?_) rfl (by kernel_rfl) (by kernel_rfl) (by kernel_rfl) (fun _ _ _ h => h) (Or.inl ⟨by rfl, ?_⟩) hHeld ?_
  rotate_left
  · (intro w hSw; (try dsimp only at hSw); unfold c41a3; go_simp <;> with_reducible rfl)
  try simp only [c41a3, Act.put, List.setIfInBounds_toArray, List.set_cons_zero, List.set_cons_succ]
  refine wpAnyH_take (i := 5) (oi := c41a5) (v := ?_) rfl (by kernel_rfl) (by kernel_rfl) (by kernel_rfl) (fun _ _ _ h => h) (Or.inl ⟨by rfl, ?_⟩) hHeld ?_
  rotate_left
  · (intro w hSw; (try dsimp only at hSw); unfold c41a5; go_simp <;> with_reducible rfl)
  try simp only [c41a5, Act.put, List.setIfInBounds_toArray, List.set_cons_zero, List.set_cons_succ]
  refine wpAnyH_take (i := 6) (oi := c41a6) (v := ?_) rfl (by kernel_rfl) (by kernel_rfl) (by kernel_rfl) (fun _ _ _ h => h) (Or.inl ⟨by rfl, ?_⟩) hHeld ?_
  rotate_left
  · (intro w hSw; (try dsimp only at hSw); unfold c41a6; go_simp <;> with_reducible rfl)
  try simp only [c41a6, Act.put, List.setIfInBounds_toArray, List.set_cons_zero, List.set_cons_succ]
  refine wpAnyH_take (i := 7) (oi := c41a7) (v := ?_) rfl (by kernel_rfl) (by kernel_rfl) (by kernel_rfl) (fun _ _ _ h => h) (Or.inl ⟨by rfl, ?_⟩) hHeld ?_
  rotate_left
  · (intro w hSw; (try dsimp only at hSw); unfold c41a7; go_simp <;> with_reducible rfl)
  try simp only [c41a7, Act.put, List.setIfInBounds_toArray, List.set_cons_zero, List.set_cons_succ]
  refine wpAnyH_ready (rs := [4]) (by kernel_rfl) (by simp) ?_
  refine AllReadyH.cons (o := c41a4) rfl (fun K hK => ?_) AllReadyH.nil
  rw [if_pos (by rfl)]
  unfold c41a4
  go_simp
  (with_reducible refine (H1.out _ hHeld).mono ?_)
  rintro e w1 ⟨u, rfl, hown1, hB1⟩
  have hS1 : Below w.heap.size w w1 := hHeld.trans (hB1.mono hHeld.size)
  go_wp2_with fail
  refine hK.out _ _ hS1 (fun hHeld => ?_)
  clear hK K
  try simp only [c41a4, Act.put, List.setIfInBounds_toArray, List.set_cons_zero, List.set_cons_succ]
  refine wpAnyH_ready (rs := [8]) (by kernel_rfl) (by simp) ?_
  refine AllReadyH.cons (o := c41a8) rfl (fun K hK => ?_) AllReadyH.nil
  rw [if_pos (by rfl)]
  unfold c41a8
  go_simp
  (with_reducible refine (H2.out _ hHeld).mono ?_)
  rintro e w2 ⟨rfl, hB2⟩
  have hS2 : Below w.heap.size w w2 := hHeld.trans (hB2.mono hHeld.size)
  have hown2 := own_keep hown1 hB2
  clear hown1 hB1 hB2
  go_wp2_with fail
  refine hK.out _ _ hS2 (fun hHeld => ?_)
  clear hK K
  try simp only [c41a8, Act.put, List.setIfInBounds_toArray, List.set_cons_zero, List.set_cons_succ]
  refine wpAnyH_ready (rs := [9]) (by kernel_rfl) (by simp) ?_
  refine AllReadyH.cons (o := c41a9) rfl (fun K hK => ?_) AllReadyH.nil
  rw [if_pos (by rfl)]
  refine wp_buildSlice_run 30 1 [(0, Operand.tmp 24)] (by rfl) _ _ (by rfl) (HBS.out _) ?_
  refine hK.out _ _ (hS2.alloc hS2.size _) (fun hHeld => ?_)
  clear hK K
  try simp only [c41a9, Act.put, List.setIfInBounds_toArray, List.set_cons_zero, List.set_cons_succ]
  refine wpAnyH_ready (rs := [10]) (by kernel_rfl) (by simp) ?_
  refine AllReadyH.cons (o := c41a10) rfl (fun K hK => ?_) AllReadyH.nil
  refine step_append_lies _ (by rfl) (.tmp 20) (.tmp 25) 30 (by rfl) w.heap.size 26 i0 _ 32 32 Tryd.underlying30 hi0 hz0 hz1 hz2 (by simp [Value.cells]) (by omega) u p.length (flat p) (by rfl) (hown2.alloc _) ⟨w2.heap.size, 0, none⟩ 1 1 D (by rfl) (by rw [HDL.out]) (fun j u hu => World.news_of_block (heap_alloc_new w2 _) j u (by simpa using hu)) HD1.out (by omega) (by unfold maxLen; omega) (by omega) (by have := hS2.size; simp; omega) _ rfl ?_
  intro g cap3 w3 hown3 hgr3 hat3 hlt3
  have hS3 : Below w.heap.size w w3 := below_grow (hS2.alloc hS2.size _) hgr3 (fun k hk => (hown2.lt k hk).1) (by have := hS2.size; simp; omega)
  refine hK.out _ _ hS3 (fun hHeld => ?_)
  clear hK K
  try simp only [c41a10, Act.put, List.setIfInBounds_toArray, List.set_cons_zero, List.set_cons_succ]
  refine wpAnyH_ready (rs := [11]) (by kernel_rfl) (by simp) ?_
  refine AllReadyH.cons (o := c41a11) rfl (fun K hK => ?_) AllReadyH.nil
  rw [if_pos (by rfl)]
  unfold c41a11
  go_simp
  refine hK.out _ _ hS3 (fun hHeld => ?_)
  clear hK K
  try simp only [c41a11, Act.put, List.setIfInBounds_toArray, List.set_cons_zero, List.set_cons_succ]
  refine wpAnyH_done (by kernel_rfl) ?_ _
  have HO3 := Lib.hid hown3
  have HS3 := Lib.hid hS3
  clear hown3 hS3 hown2 hgr3 hat3 hHeld
  go_wp2
  go_ret
  exact ⟨_, rfl, by rw [List.length_append, flat_snoc, HD.out]; exact HO3.out, HS3.out⟩

def c41b0 : Oper := { dst := some 27, op := Go.Op.move (Go.Operand.tmp 0), type := 30, pos := "ref.go:116", after := #[], guard := none }
def c41b1 : Oper := { dst := some 28, op := Go.Op.move (Go.Operand.tmp 5), type := 3, pos := "ref.go:116", after := #[], guard := none }
def c41b2 : Oper := { dst := some 29, op := Go.Op.slice 30 (Go.Operand.tmp 27) (some (Go.Operand.tmp 28)) none none, type := 30, pos := "ref.go:116", after := #[{ on := 0, ground := Go.Ground.data }, { on := 1, ground := Go.Ground.data }], guard := none }
def c41b3 : Oper := { dst := some 30, op := Go.Op.move (Go.Operand.tmp 1), type := 3, pos := "ref.go:116", after := #[], guard := none }
def c41b4 : Oper := { dst := some 31, op := Go.Op.move (Go.Operand.tmp 5), type := 3, pos := "ref.go:116", after := #[], guard := none }
def c41b5 : Oper := { dst := some 32, op := Go.Op.binOp Go.BinOp.sub 3 (Go.Operand.tmp 30) (Go.Operand.tmp 31) 3, type := 3, pos := "ref.go:116", after := #[{ on := 3, ground := Go.Ground.data }, { on := 4, ground := Go.Ground.data }], guard := none }
def c41b6 : Oper := { dst := some 33, op := Go.Op.call { callee := Go.Callee.value (Go.Operand.func 41), args := #[Go.Operand.tmp 29, Go.Operand.tmp 32], argTypes := #[30, 3] }, type := 30, pos := "ref.go:116", after := #[{ on := 2, ground := Go.Ground.data }, { on := 5, ground := Go.Ground.data }], guard := none }
def c41b7 : Oper := { dst := some 34, op := Go.Op.move (Go.Operand.tmp 0), type := 30, pos := "ref.go:116", after := #[], guard := none }
def c41b8 : Oper := { dst := some 35, op := Go.Op.move (Go.Operand.tmp 5), type := 3, pos := "ref.go:116", after := #[], guard := none }
def c41b9 : Oper := { dst := some 36, op := Go.Op.slice 30 (Go.Operand.tmp 34) none (some (Go.Operand.tmp 35)) none, type := 30, pos := "ref.go:116", after := #[{ on := 7, ground := Go.Ground.data }, { on := 8, ground := Go.Ground.data }], guard := none }
def c41b10 : Oper := { dst := some 37, op := Go.Op.call { callee := Go.Callee.value (Go.Operand.func 18), args := #[Go.Operand.tmp 36], argTypes := #[30] }, type := 26, pos := "ref.go:116", after := #[{ on := 9, ground := Go.Ground.data }, { on := 6, ground := Go.Ground.chain }], guard := none }
def c41b11 : Oper := { dst := some 38, op := Go.Op.buildSlice 30 1 #[(0, Go.Operand.tmp 37)], type := 30, pos := "ref.go:116", after := #[{ on := 10, ground := Go.Ground.data }], guard := none }
def c41b12 : Oper := { dst := some 39, op := Go.Op.call { callee := Go.Callee.builtin Go.Builtin.append, args := #[Go.Operand.tmp 33, Go.Operand.tmp 38], argTypes := #[30, 30] }, type := 30, pos := "ref.go:116", after := #[{ on := 6, ground := Go.Ground.data }, { on := 11, ground := Go.Ground.data }, { on := 10, ground := Go.Ground.chain }], guard := none }
def c41b13 : Oper := { dst := some 4, op := Go.Op.assign (Go.Operand.tmp 39), type := 30, pos := "ref.go:116", after := #[{ on := 12, ground := Go.Ground.data }, { on := 12, ground := Go.Ground.chain }, { on := 0, ground := Go.Ground.phase }, { on := 1, ground := Go.Ground.phase }, { on := 2, ground := Go.Ground.phase }, { on := 3, ground := Go.Ground.phase }, { on := 4, ground := Go.Ground.phase }, { on := 5, ground := Go.Ground.phase }, { on := 6, ground := Go.Ground.phase }, { on := 7, ground := Go.Ground.phase }, { on := 8, ground := Go.Ground.phase }, { on := 9, ground := Go.Ground.phase }, { on := 10, ground := Go.Ground.phase }, { on := 11, ground := Go.Ground.phase }, { on := 12, ground := Go.Ground.phase }], guard := none }

set_option maxRecDepth 100000 in
set_option maxHeartbeats 1000000 in
theorem rpath_ge (w : World) (db off cap n k i : Nat) (p : List (List UInt8)) (x : List UInt8) (hx : x.length = 32) (hn1 : 1 < n) (hn2 : n ≤ 1000000) (hk : spl n = k) (hi : k ≤ i) (hin : i < n) (hnc : n ≤ cap) (hcm : cap ≤ maxLen) (hpl : p.length ≤ 1000000)
    (h1 : ∀ W, Below w.heap.size w W → Calls Tryd.prog 41 #[.slice (some ⟨db, off + k * 32, none⟩) (n - k) (cap - k), .int .i64 ((i : Int) - (k : Int))] W (PathPost W p))
    (h2 : ∀ W, Below w.heap.size w W → Calls Tryd.prog 18 #[.slice (some ⟨db, off, none⟩) k cap] W fun e w' => e = .returned (dv x) ∧ Below W.heap.size W w') :
    Calls Tryd.prog 41 #[.slice (some ⟨db, off, none⟩) n cap, .int .i64 i] w (PathPost w (p ++ [x])) := by
  obtain ⟨hk0, hkn, _⟩ := spl_bound n hn1 (by omega)
  rw [hk] at hk0 hkn
  obtain ⟨i0, hi0, hz0, hz1, hz2⟩ := info_parts Tryd.info26z
  obtain ⟨D, hD⟩ : ∃ D, cells8 x = D := ⟨_, rfl⟩
  have hDl : D.length = 32 := by rw [← hD, cells8_len, hx]
  have hD1 : ∀ v ∈ D, v.oneCell' = true := by rw [← hD]; exact one_cells8 _
  have hbs : ∀ W : World, (Instr.buildSlice 30 1 #[(0, .agg D.toArray)]).run Tryd.prog W = .ok (.slice (some ⟨W.heap.size, 0, none⟩) 1 1) (W.alloc (.cells D.toArray 26)) := fun W => run_buildSlice1 W _ (by simpa using hDl)
  have ha : ∀ W, Below w.heap.size w W → Calls Tryd.prog 41 #[.slice (some ⟨db, off + k * 32, none⟩) (n - k) (cap - k), .int .i64 ((i : Int) - (k : Int))] W fun e w' => ∃ u, e = .returned u ∧ w'.ownsRow w.heap.size 26 32 u p.length (flat p) ∧ Below W.heap.size W w' := fun W hB =>
    (h1 W hB).mono fun e w' ⟨u, a, b, c⟩ => ⟨u, a, own_base b hB.size, c⟩
  have hb : ∀ W, Below w.heap.size w W → Calls Tryd.prog 18 #[.slice (some ⟨db, off, none⟩) k cap] W fun e w' => e = .returned (.agg D.toArray) ∧ Below W.heap.size W w' := fun W hB => by
    have h := h2 W hB
    rw [dv_eq, hD] at h
    exact h
  have hsp := rhalf_any n hn1 (by omega)
  rw [hk] at hsp
  have HSP := Lib.hid hsp
  have H1 := Lib.hid ha
  have H2 := Lib.hid hb
  have HD := Lib.hid hD
  have HDL := Lib.hid hDl
  have HD1 := Lib.hid hD1
  have HBS := Lib.hid hbs
  unfold maxLen at hcm
  have d1 : ((n : Int) == 1) = false := by simp; omega
  have e1 : decide ((n : Int) = 1) = false := by simp; omega
  have d2 : decide (i < k) = false := by simp; omega
  have f1 : ((k : Nat) : Int) ≤ (n : Int) := by omega
  have f2 : ((k : Nat) : Int) ≤ (cap : Int) := by omega
  have f3 : ((n : Nat) : Int) ≤ (cap : Int) := by omega
  have hkc : k < cap := by omega
  have f5 : ¬ cap = k := by omega
  have q2 : IntKind.i64.wrap ((i : Int) - (k : Int)) = (i : Int) - (k : Int) := by rw [IntKind.wrap_i64]; omega
  clear hsp ha hb hD hDl hD1 hbs h1 h2 hx hk
  go_enter Tryd.func41, Tryd.ntmps41
  go_wp2_with (first
    | (go_at_call 38; refine (HSP.out _).mono ?_; rintro e w' ⟨rfl, hw'⟩; rw [hw']; clear hw' w'))
  refine wp_region_held_drew (S := fun W => Below w.heap.size w W) (by kernel_rfl) ((Below.refl _ _).drew) (fun hHeld => ?_)
  refine wpAnyH_take (i := 0) (oi := c41b0) (v := ?_) rfl (by kernel_rfl) (by kernel_rfl) (by kernel_rfl) (fun _ _ _ h => h) (Or.inl ⟨by rfl, ?_⟩) hHeld ?_
  rotate_left
  · (intro w hSw; (try dsimp only at hSw); unfold c41b0; go_simp <;> with_reducible rfl)
  try simp only [c41b0, Act.put, List.setIfInBounds_toArray, List.set_cons_zero, List.set_cons_succ]
  refine wpAnyH_take (i := 1) (oi := c41b1) (v := ?_) rfl (by kernel_rfl) (by kernel_rfl) (by kernel_rfl) (fun _ _ _ h => h) (Or.inl ⟨by rfl, ?_⟩) hHeld ?_
  rotate_left
  · (intro w hSw; (try dsimp only at hSw); unfold c41b1; go_simp <;> with_reducible rfl)
  try simp only [c41b1, Act.put, List.setIfInBounds_toArray, List.set_cons_zero, List.set_cons_succ]
  refine wpAnyH_take (i := 2) (oi := c41b2) (v := ?_) rfl (by kernel_rfl) (by kernel_rfl) (by kernel_rfl) (fun _ _ _ h => h) (Or.inl ⟨by rfl, ?_⟩) hHeld ?_
  rotate_left
  · (intro w hSw; (try dsimp only at hSw); unfold c41b2; go_simp <;> with_reducible rfl)
  try simp only [c41b2, Act.put, List.setIfInBounds_toArray, List.set_cons_zero, List.set_cons_succ]
  refine wpAnyH_take (i := 3) (oi := c41b3) (v := ?_) rfl (by kernel_rfl) (by kernel_rfl) (by kernel_rfl) (fun _ _ _ h => h) (Or.inl ⟨by rfl, ?_⟩) hHeld ?_
  rotate_left
  · (intro w hSw; (try dsimp only at hSw); unfold c41b3; go_simp <;> with_reducible rfl)
  try simp only [c41b3, Act.put, List.setIfInBounds_toArray, List.set_cons_zero, List.set_cons_succ]
  refine wpAnyH_take (i := 4) (oi := c41b4) (v := ?_) rfl (by kernel_rfl) (by kernel_rfl) (by kernel_rfl) (fun _ _ _ h => h) (Or.inl ⟨by rfl, ?_⟩) hHeld ?_
  rotate_left
  · (intro w hSw; (try dsimp only at hSw); unfold c41b4; go_simp <;> with_reducible rfl)
  try simp only [c41b4, Act.put, List.setIfInBounds_toArray, List.set_cons_zero, List.set_cons_succ]
  refine wpAnyH_take (i := 5) (oi := c41b5) (v := ?_) rfl (by kernel_rfl) (by kernel_rfl) (by kernel_rfl) (fun _ _ _ h => h) (Or.inl ⟨by rfl, ?_⟩) hHeld ?_
  rotate_left
  · (intro w hSw; (try dsimp only at hSw); unfold c41b5; go_simp <;> with_reducible rfl)
  try simp only [c41b5, Act.put, List.setIfInBounds_toArray, List.set_cons_zero, List.set_cons_succ]
  refine wpAnyH_take (i := 7) (oi := c41b7) (v := ?_) rfl (by kernel_rfl) (by kernel_rfl) (by kernel_rfl) (fun _ _ _ h => h) (Or.inl ⟨by rfl, ?_⟩) hHeld ?_
  rotate_left
  · (intro w hSw; (try dsimp only at hSw); unfold c41b7; go_simp <;> with_reducible rfl)
  try simp only [c41b7, Act.put, List.setIfInBounds_toArray, List.set_cons_zero, List.set_cons_succ]
  refine wpAnyH_take (i := 8) (oi := c41b8) (v := ?_) rfl (by kernel_rfl) (by kernel_rfl) (by kernel_rfl) (fun _ _ _ h => h) (Or.inl ⟨by rfl, ?_⟩) hHeld ?_
  rotate_left
  · (intro w hSw; (try dsimp only at hSw); unfold c41b8; go_simp <;> with_reducible rfl)
  try simp only [c41b8, Act.put, List.setIfInBounds_toArray, List.set_cons_zero, List.set_cons_succ]
  refine wpAnyH_take (i := 9) (oi := c41b9) (v := ?_) rfl (by kernel_rfl) (by kernel_rfl) (by kernel_rfl) (fun _ _ _ h => h) (Or.inl ⟨by rfl, ?_⟩) hHeld ?_
  rotate_left
  · (intro w hSw; (try dsimp only at hSw); unfold c41b9; go_simp <;> with_reducible rfl)
  try simp only [c41b9, Act.put, List.setIfInBounds_toArray, List.set_cons_zero, List.set_cons_succ]
  refine wpAnyH_ready (rs := [6]) (by kernel_rfl) (by simp) ?_
  refine AllReadyH.cons (o := c41b6) rfl (fun K hK => ?_) AllReadyH.nil
  rw [if_pos (by rfl)]
  unfold c41b6
  go_simp
  (with_reducible refine (H1.out _ hHeld).mono ?_)
  rintro e w1 ⟨u, rfl, hown1, hB1⟩
  have hS1 : Below w.heap.size w w1 := hHeld.trans (hB1.mono hHeld.size)
  go_wp2_with fail
  refine hK.out _ _ hS1 (fun hHeld => ?_)
  clear hK K
  try simp only [c41b6, Act.put, List.setIfInBounds_toArray, List.set_cons_zero, List.set_cons_succ]
  refine wpAnyH_ready (rs := [10]) (by kernel_rfl) (by simp) ?_
  refine AllReadyH.cons (o := c41b10) rfl (fun K hK => ?_) AllReadyH.nil
  rw [if_pos (by rfl)]
  unfold c41b10
  go_simp
  (with_reducible refine (H2.out _ hHeld).mono ?_)
  rintro e w2 ⟨rfl, hB2⟩
  have hS2 : Below w.heap.size w w2 := hHeld.trans (hB2.mono hHeld.size)
  have hown2 := own_keep hown1 hB2
  clear hown1 hB1 hB2
  go_wp2_with fail
  refine hK.out _ _ hS2 (fun hHeld => ?_)
  clear hK K
  try simp only [c41b10, Act.put, List.setIfInBounds_toArray, List.set_cons_zero, List.set_cons_succ]
  refine wpAnyH_ready (rs := [11]) (by kernel_rfl) (by simp) ?_
  refine AllReadyH.cons (o := c41b11) rfl (fun K hK => ?_) AllReadyH.nil
  rw [if_pos (by rfl)]
  refine wp_buildSlice_run 30 1 [(0, Operand.tmp 37)] (by rfl) _ _ (by rfl) (HBS.out _) ?_
  refine hK.out _ _ (hS2.alloc hS2.size _) (fun hHeld => ?_)
  clear hK K
  try simp only [c41b11, Act.put, List.setIfInBounds_toArray, List.set_cons_zero, List.set_cons_succ]
  refine wpAnyH_ready (rs := [12]) (by kernel_rfl) (by simp) ?_
  refine AllReadyH.cons (o := c41b12) rfl (fun K hK => ?_) AllReadyH.nil
  refine step_append_lies _ (by rfl) (.tmp 33) (.tmp 38) 30 (by rfl) w.heap.size 26 i0 _ 32 32 Tryd.underlying30 hi0 hz0 hz1 hz2 (by simp [Value.cells]) (by omega) u p.length (flat p) (by rfl) (hown2.alloc _) ⟨w2.heap.size, 0, none⟩ 1 1 D (by rfl) (by rw [HDL.out]) (fun j u hu => World.news_of_block (heap_alloc_new w2 _) j u (by simpa using hu)) HD1.out (by omega) (by unfold maxLen; omega) (by omega) (by have := hS2.size; simp; omega) _ rfl ?_
  intro g cap3 w3 hown3 hgr3 hat3 hlt3
  have hS3 : Below w.heap.size w w3 := below_grow (hS2.alloc hS2.size _) hgr3 (fun k hk => (hown2.lt k hk).1) (by have := hS2.size; simp; omega)
  refine hK.out _ _ hS3 (fun hHeld => ?_)
  clear hK K
  try simp only [c41b12, Act.put, List.setIfInBounds_toArray, List.set_cons_zero, List.set_cons_succ]
  refine wpAnyH_ready (rs := [13]) (by kernel_rfl) (by simp) ?_
  refine AllReadyH.cons (o := c41b13) rfl (fun K hK => ?_) AllReadyH.nil
  rw [if_pos (by rfl)]
  unfold c41b13
  go_simp
  refine hK.out _ _ hS3 (fun hHeld => ?_)
  clear hK K
  try simp only [c41b13, Act.put, List.setIfInBounds_toArray, List.set_cons_zero, List.set_cons_succ]
  refine wpAnyH_done (by kernel_rfl) ?_ _
  have HO3 := Lib.hid hown3
  have HS3 := Lib.hid hS3
  clear hown3 hS3 hown2 hgr3 hat3 hHeld
  go_wp2
  go_ret
  exact ⟨_, rfl, by rw [List.length_append, flat_snoc, HD.out]; exact HO3.out, HS3.out⟩

set_option maxRecDepth 100000 in
set_option maxHeartbeats 1000000 in
theorem rpath_one (w : World) (a : Option Addr) (cap : Nat) (i : Int) : Calls Tryd.prog 41 #[.slice a 1 cap, .int .i64 i] w (PathPost w []) := by
  go_enter Tryd.func41, Tryd.ntmps41
  go_wp2
  go_ret
  exact ⟨_, rfl, World.ownsRow_made w #[] 0 (Nat.le_refl _) (by unfold maxLen; omega) rfl, by go_grown⟩
theorem rpath_any : ∀ (n : Nat) (ds : List (List UInt8)) (w : World) (v : Value) (i : Nat), ds.length = n → 0 < n → n ≤ 1000000 → i < n → Digs w w.heap.size v ds →
    Calls Tryd.prog 41 #[v, .int .i64 i] w (PathPost w (pth ds i)) := by
  intro n
  induction n using Nat.strongRecOn with
  | ind n ih =>
    intro ds w v i hl hn0 hn hi hD
    have hD' := hD
    obtain ⟨h32, a, cap, rfl, hc, hm, h4⟩ := hD'
    by_cases h1 : n = 1
    · rw [hl, h1, pth_one ds i (by omega)]
      exact rpath_one w a cap i
    · rcases h4 with rfl | ⟨db, off, rfl, hdb, hr⟩
      · simp at hl; omega
      · obtain ⟨b1, b2, b3, _⟩ := spl_bound ds.length (by omega) (by omega)
        have hlt : (ds.take (spl ds.length)).length = spl ds.length := by rw [List.length_take]; omega
        have hld : (ds.drop (spl ds.length)).length = ds.length - spl ds.length := by rw [List.length_drop]
        have hDt : ∀ W, Below w.heap.size w W → Digs W W.heap.size (.slice (some ⟨db, off, none⟩) (spl ds.length) cap) (ds.take (spl ds.length)) := fun W hB =>
          ⟨fun d hd => h32 d (List.mem_of_mem_take hd), some ⟨db, off, none⟩, cap, by rw [hlt], by omega, hm, .inr ⟨db, off, rfl, by have := hB.size; omega, fun j hj u v hv => by
            rw [List.getElem_take] at hv
            exact (hB.cell (p := ⟨db, off + j * 32 + u, none⟩) hdb).trans (hr j (by omega) u v hv)⟩⟩
        have hDd : ∀ W, Below w.heap.size w W → Digs W W.heap.size (.slice (some ⟨db, off + spl ds.length * 32, none⟩) (ds.length - spl ds.length) (cap - spl ds.length)) (ds.drop (spl ds.length)) := fun W hB =>
          ⟨fun d hd => h32 d (List.mem_of_mem_drop hd), some ⟨db, off + spl ds.length * 32, none⟩, cap - spl ds.length, by rw [hld], by omega, by omega, .inr ⟨db, off + spl ds.length * 32, rfl, by have := hB.size; omega, fun j hj u v hv => by
            rw [List.getElem_drop] at hv
            have := (hB.cell (p := ⟨db, off + (spl ds.length + j) * 32 + u, none⟩) hdb).trans (hr (spl ds.length + j) (by omega) u v hv)
            rwa [show off + spl ds.length * 32 + j * 32 = off + (spl ds.length + j) * 32 by omega]⟩⟩
        have hpl : ∀ (l : List (List UInt8)) (j : Nat), l.length ≤ 1000000 → (pth l j).length ≤ 1000000 := fun l j h => by
          rw [pth_len _ l j rfl (by omega)]
          have := psteps_le j l.length (by omega)
          omega
        by_cases h : i < spl ds.length
        · rw [pth_lt ds i (by omega) (by omega) h]
          refine rpath_lt w db off cap ds.length (spl ds.length) i _ _ (tree_len _) (by omega) (by omega) rfl h hc hm (hpl _ _ (by omega)) (fun W hB => ?_) (fun W hB => ?_)
          · exact ih _ (by omega) _ W _ i hlt (by omega) (by omega) h (hDt W hB)
          · exact rtree_any _ _ W _ hld (by omega) (hDd W hB)
        · rw [pth_ge ds i (by omega) (by omega) h]
          refine rpath_ge w db off cap ds.length (spl ds.length) i _ _ (tree_len _) (by omega) (by omega) rfl (by omega) (by omega) hc hm (hpl _ _ (by omega)) (fun W hB => ?_) (fun W hB => ?_)
          · have := ih _ (by omega) _ W _ (i - spl ds.length) hld (by omega) (by omega) (by omega) (hDd W hB)
            rwa [show ((i - spl ds.length : Nat) : Int) = (i : Int) - (spl ds.length : Int) by omega] at this
          · exact rtree_any _ _ W _ hlt (by omega) (hDt W hB)
set_option maxRecDepth 100000 in
set_option maxHeartbeats 1000000 in
/-- Path of an element that is there. -/
theorem rPath_any (w : World) (ds : List (List UInt8)) (v : Value) (i : Nat) (hi : i < ds.length) (hn : ds.length ≤ 1000000) (hD : Digs w w.heap.size v ds) :
    Calls Tryd.prog 20 #[v, .int .i64 i] w fun e w' => ∃ u, e = .returned (.tuple #[u, .int .i64 0]) ∧ w'.ownsRow w.heap.size 26 32 u (pth ds i).length (flat (pth ds i)) ∧ Below w.heap.size w w' := by
  have hap := rpath_any _ ds w v i rfl (by omega) hn hi hD
  obtain ⟨h32, a, cap, rfl, hc, hm, h4⟩ := hD
  obtain ⟨n, hnn⟩ : ∃ n, ds.length = n := ⟨_, rfl⟩
  rw [hnn] at hap hi hn ⊢
  have HAP := Lib.hid hap
  have d1 : decide ((i : Int) < 0) = false := by simp
  have d2 : decide (n ≤ i) = false := by simpa using hi
  have d3 : ¬ n ≤ i := by omega
  clear hap h4 hc hnn
  go_enter Tryd.func20, Tryd.ntmps20
  go_wp2_with fail
  refine HAP.out.mono ?_
  rintro e w1 ⟨u, rfl, hO, hB⟩
  have HO := Lib.hid hO
  have HB := Lib.hid hB
  clear hO hB
  go_wp2
  go_returns
  exact ⟨_, rfl, HO.out, HB.out⟩
set_option maxRecDepth 100000 in
set_option maxHeartbeats 1000000 in
/-- Path of an element that is not there. -/
theorem rPath_bad (w : World) (a : Option Addr) (n cap : Nat) (i : Int) (hi : i < 0 ∨ (n : Int) ≤ i) (_hn : n ≤ 1000000) :
    Calls Tryd.prog 20 #[.slice a n cap, .int .i64 i] w fun e w' => e = .returned (.tuple #[.slice none 0 0, .int .i64 1]) ∧ Below w.heap.size w w' := by
  by_cases h : i < 0
  · have d1 : decide (i < 0) = true := by simpa using h
    clear hi
    go_enter Tryd.func20, Tryd.ntmps20
    go_wp2
    go_returns
    exact ⟨rfl, by go_grown⟩
  · have h2 : (n : Int) ≤ i := by omega
    have d1 : decide (i < 0) = false := by simpa using h
    have d2 : decide ((n : Int) ≤ i) = true := by simpa using h2
    clear hi
    go_enter Tryd.func20, Tryd.ntmps20
    go_wp2
    go_returns
    exact ⟨rfl, by go_grown⟩
end Go.Proofs.YtnddejhbncgchaaDoor
