/- digest.Path. -/
import Derived.Test.YtnddejhbncgchaaDoorClm
namespace Go.Proofs.YtnddejhbncgchaaDoor
open Go.RowKit

theorem wp_buildSlice_run {P : Program} {o : Oper} {a : Act} {w w' : World} {K : Act → World → Prop} {Q : Exit → Act → World → Prop} (t : TypeId) (len : Nat) (parts : List (Nat × Operand))
    (ho : o.op = .buildSlice t len parts.toArray) (vals : List (Nat × Value)) (v : Value) (hv : parts.map (fun p => (p.1, a.eval p.2)) = vals)
    (hrun : (Instr.buildSlice t len vals.toArray).run P w = .ok v w') (h : K (a.put o.dst v) w') : o.wp P a w K Q := by
  subst hv
  rw [← List.map_toArray] at hrun
  unfold Oper.wp execOp
  simp only [ho, Sem.run_bind, hrun, Result.andThen_ok]
  exact h
/-- The path of an element (f bounds the list). -/
def pthF : Nat → List (List UInt8) → Nat → List (List UInt8)
  | 0, _, _ => []
  | f + 1, ds, i => if ds.length ≤ 1 then [] else if i < spl ds.length then pthF f (ds.take (spl ds.length)) i ++ [tree (ds.drop (spl ds.length))] else pthF f (ds.drop (spl ds.length)) (i - spl ds.length) ++ [tree (ds.take (spl ds.length))]
theorem pthF_fuel : ∀ (f g : Nat) (ds : List (List UInt8)) (i : Nat), ds.length ≤ f → ds.length ≤ g → ds.length ≤ 1099511627776 → pthF f ds i = pthF g ds i
  | 0, 0, _, _, _, _, _ => rfl
  | 0, g + 1, ds, i, h, _, _ => by rw [pthF, pthF, if_pos (by omega)]
  | f + 1, 0, ds, i, _, h, _ => by rw [pthF, pthF, if_pos (by omega)]
  | f + 1, g + 1, ds, i, h1, h2, hn => by
    rw [pthF, pthF]
    by_cases h : ds.length ≤ 1
    · rw [if_pos h, if_pos h]
    · obtain ⟨a, b, _⟩ := spl_bound ds.length (by omega) hn
      rw [if_neg h, if_neg h, pthF_fuel f g _ i (by rw [List.length_take]; omega) (by rw [List.length_take]; omega) (by rw [List.length_take]; omega),
        pthF_fuel f g (ds.drop _) _ (by rw [List.length_drop]; omega) (by rw [List.length_drop]; omega) (by rw [List.length_drop]; omega)]
def pth (ds : List (List UInt8)) (i : Nat) : List (List UInt8) := pthF ds.length ds i
theorem pth_one (ds : List (List UInt8)) (i : Nat) (h : ds.length ≤ 1) : pth ds i = [] := by
  unfold pth
  cases hk : ds.length with
  | zero => rfl
  | succ k => rw [pthF, if_pos h]
theorem pth_lt (ds : List (List UInt8)) (i : Nat) (h1 : 1 < ds.length) (hn : ds.length ≤ 1099511627776) (h : i < spl ds.length) : pth ds i = pth (ds.take (spl ds.length)) i ++ [tree (ds.drop (spl ds.length))] := by
  obtain ⟨a, b, _⟩ := spl_bound ds.length h1 hn
  obtain ⟨k, hk⟩ : ∃ k, ds.length = k + 1 := ⟨ds.length - 1, by omega⟩
  have e : pth ds i = pthF (k + 1) ds i := by unfold pth; rw [hk]
  rw [e, pthF, if_neg (by omega), if_pos h, pthF_fuel k (ds.take (spl ds.length)).length _ _ (by rw [List.length_take]; omega) (Nat.le_refl _) (by rw [List.length_take]; omega)]
  rfl
theorem pth_ge (ds : List (List UInt8)) (i : Nat) (h1 : 1 < ds.length) (hn : ds.length ≤ 1099511627776) (h : ¬ i < spl ds.length) : pth ds i = pth (ds.drop (spl ds.length)) (i - spl ds.length) ++ [tree (ds.take (spl ds.length))] := by
  obtain ⟨a, b, _⟩ := spl_bound ds.length h1 hn
  obtain ⟨k, hk⟩ : ∃ k, ds.length = k + 1 := ⟨ds.length - 1, by omega⟩
  have e : pth ds i = pthF (k + 1) ds i := by unfold pth; rw [hk]
  rw [e, pthF, if_neg (by omega), if_neg h, pthF_fuel k (ds.drop (spl ds.length)).length _ _ (by rw [List.length_drop]; omega) (Nat.le_refl _) (by rw [List.length_drop]; omega)]
  rfl
theorem pth_32 : ∀ (n : Nat) (ds : List (List UInt8)) (i : Nat), ds.length = n → n ≤ 1099511627776 → ∀ d ∈ pth ds i, d.length = 32 := by
  intro n
  induction n using Nat.strongRecOn with
  | ind n ih =>
    intro ds i hl hn d hd
    by_cases h1 : ds.length ≤ 1
    · rw [pth_one ds i h1] at hd; cases hd
    · obtain ⟨a, b, _⟩ := spl_bound ds.length (by omega) (by omega)
      by_cases h : i < spl ds.length
      · rw [pth_lt ds i (by omega) (by omega) h] at hd
        rcases List.mem_append.1 hd with hd | hd
        · exact ih _ (by rw [List.length_take]; omega) _ i rfl (by rw [List.length_take]; omega) d hd
        · rw [List.mem_singleton.1 hd]; exact tree_len _
      · rw [pth_ge ds i (by omega) (by omega) h] at hd
        rcases List.mem_append.1 hd with hd | hd
        · exact ih _ (by rw [List.length_drop]; omega) _ _ rfl (by rw [List.length_drop]; omega) d hd
        · rw [List.mem_singleton.1 hd]; exact tree_len _
/-- A path has as many elements as the index has steps. -/
theorem pth_len : ∀ (n : Nat) (ds : List (List UInt8)) (i : Nat), ds.length = n → n ≤ 1099511627776 → (pth ds i).length = psteps i ds.length := by
  intro n
  induction n using Nat.strongRecOn with
  | ind n ih =>
    intro ds i hl hn
    by_cases h1 : ds.length ≤ 1
    · rw [pth_one ds i h1, psteps_one i _ h1]; rfl
    · obtain ⟨a, b, _⟩ := spl_bound ds.length (by omega) (by omega)
      by_cases h : i < spl ds.length
      · rw [pth_lt ds i (by omega) (by omega) h, psteps_lt i _ (by omega) (by omega) h, List.length_append, ih _ (by rw [List.length_take]; omega) (ds.take (spl ds.length)) i rfl (by rw [List.length_take]; omega), List.length_take, Nat.min_eq_left (by omega)]
        rfl
      · rw [pth_ge ds i (by omega) (by omega) h, psteps_ge i _ (by omega) (by omega) h, List.length_append, ih _ (by rw [List.length_drop]; omega) (ds.drop (spl ds.length)) _ rfl (by rw [List.length_drop]; omega), List.length_drop]
        rfl
/-- A path leads to the digest of the list. -/
theorem clm_pth : ∀ (n : Nat) (ds : List (List UInt8)) (i : Nat), ds.length = n → 0 < n → n ≤ 1099511627776 → i < n → clm (ds.getD i []) i n (pth ds i) = tree ds := by
  intro n
  induction n using Nat.strongRecOn with
  | ind n ih =>
    intro ds i hl h0 hn hi
    by_cases h1 : n = 1
    · subst h1
      obtain ⟨d, rfl⟩ := List.length_eq_one_iff.1 hl
      rw [clm_one, show i = 0 by omega]; rfl
    · obtain ⟨a, b, _⟩ := spl_bound ds.length (by omega) (by omega)
      rw [tree_more ds (by omega) (by omega)]
      by_cases h : i < spl ds.length
      · rw [pth_lt ds i (by omega) (by omega) h]
        rw [hl] at h a b ⊢
        rw [clm_lt _ _ _ _ _ (by omega) hn h]
        have := ih (spl n) b (ds.take (spl n)) i (by rw [List.length_take]; omega) a (by omega) h
        rw [← this]
        simp [List.getD, List.getElem?_take_of_lt h]
      · rw [pth_ge ds i (by omega) (by omega) h]
        rw [hl] at h a b ⊢
        rw [clm_ge _ _ _ _ _ (by omega) hn h]
        have := ih (n - spl n) (by omega) (ds.drop (spl n)) (i - spl n) (by rw [List.length_drop]; omega) (by omega) (by omega) (by omega)
        rw [← this]
        simp [List.getD, List.getElem?_drop, show spl n + (i - spl n) = i by omega]

theorem own_base {W : World} {B B' e size n : Nat} {v : Value} {xs : List Value} (h : W.ownsRow B e size v n xs) (hb : B' ≤ B) : W.ownsRow B' e size v n xs :=
  ⟨h.1, h.2.imp id fun ⟨g, cap, cur, h1, h2, h3⟩ => ⟨g, cap, cur, h1, by omega, h3⟩⟩
/-- What appendPath gives. -/
def PathPost (w : World) (p : List (List UInt8)) (e : Ending) (w' : World) : Prop := ∃ u, e = .returned u ∧ w'.ownsRow w.heap.size 26 32 u p.length (flat p) ∧ Below w.heap.size w w'

def c40a0 : Oper := { dst := some 18, op := Go.Op.move (Go.Operand.tmp 0), type := 30, pos := "tree.go:29", after := #[], guard := none }
def c40a1 : Oper := { dst := some 19, op := Go.Op.move (Go.Operand.tmp 1), type := 30, pos := "tree.go:29", after := #[], guard := none }
def c40a2 : Oper := { dst := some 20, op := Go.Op.move (Go.Operand.tmp 7), type := 3, pos := "tree.go:29", after := #[], guard := none }
def c40a3 : Oper := { dst := some 21, op := Go.Op.slice 30 (Go.Operand.tmp 19) none (some (Go.Operand.tmp 20)) none, type := 30, pos := "tree.go:29", after := #[{ on := 1, ground := Go.Ground.data }, { on := 2, ground := Go.Ground.data }], guard := none }
def c40a4 : Oper := { dst := some 22, op := Go.Op.move (Go.Operand.tmp 2), type := 3, pos := "tree.go:29", after := #[], guard := none }
def c40a5 : Oper := { dst := some 23, op := Go.Op.call { callee := Go.Callee.value (Go.Operand.func 40), args := #[Go.Operand.tmp 18, Go.Operand.tmp 21, Go.Operand.tmp 22], argTypes := #[30, 30, 3] }, type := 30, pos := "tree.go:29", after := #[{ on := 0, ground := Go.Ground.data }, { on := 3, ground := Go.Ground.data }, { on := 4, ground := Go.Ground.data }], guard := none }
def c40a6 : Oper := { dst := some 24, op := Go.Op.move (Go.Operand.tmp 1), type := 30, pos := "tree.go:29", after := #[], guard := none }
def c40a7 : Oper := { dst := some 25, op := Go.Op.move (Go.Operand.tmp 7), type := 3, pos := "tree.go:29", after := #[], guard := none }
def c40a8 : Oper := { dst := some 26, op := Go.Op.slice 30 (Go.Operand.tmp 24) (some (Go.Operand.tmp 25)) none none, type := 30, pos := "tree.go:29", after := #[{ on := 6, ground := Go.Ground.data }, { on := 7, ground := Go.Ground.data }], guard := none }
def c40a9 : Oper := { dst := some 27, op := Go.Op.call { callee := Go.Callee.value (Go.Operand.func 17), args := #[Go.Operand.tmp 26], argTypes := #[30] }, type := 26, pos := "tree.go:29", after := #[{ on := 8, ground := Go.Ground.data }, { on := 5, ground := Go.Ground.chain }], guard := none }
def c40a10 : Oper := { dst := some 28, op := Go.Op.buildSlice 30 1 #[(0, Go.Operand.tmp 27)], type := 30, pos := "tree.go:29", after := #[{ on := 9, ground := Go.Ground.data }], guard := none }
def c40a11 : Oper := { dst := some 29, op := Go.Op.call { callee := Go.Callee.builtin Go.Builtin.append, args := #[Go.Operand.tmp 23, Go.Operand.tmp 28], argTypes := #[30, 30] }, type := 30, pos := "tree.go:29", after := #[{ on := 5, ground := Go.Ground.data }, { on := 10, ground := Go.Ground.data }, { on := 9, ground := Go.Ground.chain }], guard := none }
def c40a12 : Oper := { dst := some 6, op := Go.Op.assign (Go.Operand.tmp 29), type := 30, pos := "tree.go:29", after := #[{ on := 11, ground := Go.Ground.data }, { on := 11, ground := Go.Ground.chain }, { on := 0, ground := Go.Ground.phase }, { on := 1, ground := Go.Ground.phase }, { on := 2, ground := Go.Ground.phase }, { on := 3, ground := Go.Ground.phase }, { on := 4, ground := Go.Ground.phase }, { on := 5, ground := Go.Ground.phase }, { on := 6, ground := Go.Ground.phase }, { on := 7, ground := Go.Ground.phase }, { on := 8, ground := Go.Ground.phase }, { on := 9, ground := Go.Ground.phase }, { on := 10, ground := Go.Ground.phase }, { on := 11, ground := Go.Ground.phase }], guard := none }

set_option maxRecDepth 100000 in
set_option maxHeartbeats 1000000 in
theorem apath_lt (w : World) (db off cap n k i : Nat) (p : List (List UInt8)) (x : List UInt8) (hx : x.length = 32) (hn1 : 1 < n) (hn2 : n ≤ 1000000) (hk : spl n = k) (hi : i < k) (hnc : n ≤ cap) (_hcm : cap ≤ maxLen) (hpl : p.length ≤ 1000000)
    (h1 : ∀ W, Below w.heap.size w W → Calls Tryd.prog 40 #[.slice none 0 0, .slice (some ⟨db, off, none⟩) k cap, .int .i64 i] W (PathPost W p))
    (h2 : ∀ W, Below w.heap.size w W → Calls Tryd.prog 17 #[.slice (some ⟨db, off + k * 32, none⟩) (n - k) (cap - k)] W fun e w' => e = .returned (dv x) ∧ Below W.heap.size W w') :
    Calls Tryd.prog 40 #[.slice none 0 0, .slice (some ⟨db, off, none⟩) n cap, .int .i64 i] w (PathPost w (p ++ [x])) := by
  obtain ⟨hk0, hkn, _⟩ := spl_bound n hn1 (by omega)
  rw [hk] at hk0 hkn
  obtain ⟨i0, hi0, hz0, hz1, hz2⟩ := info_parts Tryd.info26z
  obtain ⟨D, hD⟩ : ∃ D, cells8 x = D := ⟨_, rfl⟩
  have hDl : D.length = 32 := by rw [← hD, cells8_len, hx]
  have hD1 : ∀ v ∈ D, v.oneCell' = true := by rw [← hD]; exact one_cells8 _
  have hbs : ∀ W : World, (Instr.buildSlice 30 1 #[(0, .agg D.toArray)]).run Tryd.prog W = .ok (.slice (some ⟨W.heap.size, 0, none⟩) 1 1) (W.alloc (.cells D.toArray 26)) := fun W => run_buildSlice1 W _ (by simpa using hDl)
  have ha : ∀ W, Below w.heap.size w W → Calls Tryd.prog 40 #[.slice none 0 0, .slice (some ⟨db, off, none⟩) k cap, .int .i64 i] W fun e w' => ∃ u, e = .returned u ∧ w'.ownsRow w.heap.size 26 32 u p.length (flat p) ∧ Below W.heap.size W w' := fun W hB =>
    (h1 W hB).mono fun e w' ⟨u, a, b, c⟩ => ⟨u, a, own_base b hB.size, c⟩
  have hb : ∀ W, Below w.heap.size w W → Calls Tryd.prog 17 #[.slice (some ⟨db, off + k * 32, none⟩) (n - k) (cap - k)] W fun e w' => e = .returned (.agg D.toArray) ∧ Below W.heap.size W w' := fun W hB => by
    have h := h2 W hB
    rw [dv_eq, hD] at h
    exact h
  have hsp := split_any n hn1 (by omega)
  rw [hk] at hsp
  have HSP := Lib.hid hsp
  have H1 := Lib.hid ha
  have H2 := Lib.hid hb
  have HD := Lib.hid hD
  have HDL := Lib.hid hDl
  have HD1 := Lib.hid hD1
  have HBS := Lib.hid hbs
  unfold maxLen at _hcm
  have d1 : ((n : Int) == 1) = false := by simp; omega
  have e1 : decide ((n : Int) = 1) = false := by simp; omega
  have d2 : decide (i < k) = true := by simp; omega
  have f1 : ((k : Nat) : Int) ≤ (n : Int) := by omega
  have f2 : ((k : Nat) : Int) ≤ (cap : Int) := by omega
  have f3 : ((n : Nat) : Int) ≤ (cap : Int) := by omega
  have hkc : k < cap := by omega
  have f5 : ¬ cap = k := by omega
  clear hsp ha hb hD hDl hD1 hbs h1 h2 hx hk
  go_enter Tryd.func40, Tryd.ntmps40
  go_wp2_with (first
    | (go_at_call 36; refine (HSP.out _).mono ?_; rintro e w' ⟨rfl, hw'⟩; rw [hw']; clear hw' w'))
  refine wp_region_held_drew (S := fun W => Below w.heap.size w W) (by kernel_rfl) ((Below.refl _ _).drew) (fun hHeld => ?_)
  refine wpAnyH_take (i := 0) (oi := c40a0) (v := ?_) rfl (by kernel_rfl) (by kernel_rfl) (by kernel_rfl) (fun _ _ _ h => h) (Or.inl ⟨by rfl, ?_⟩) hHeld ?_
  rotate_left
  · (intro w hSw; (try dsimp only at hSw); unfold c40a0; go_simp <;> with_reducible rfl)
  try simp only [c40a0, Act.put, List.setIfInBounds_toArray, List.set_cons_zero, List.set_cons_succ]
  refine wpAnyH_take (i := 1) (oi := c40a1) (v := ?_) rfl (by kernel_rfl) (by kernel_rfl) (by kernel_rfl) (fun _ _ _ h => h) (Or.inl ⟨by rfl, ?_⟩) hHeld ?_
  rotate_left
  · (intro w hSw; (try dsimp only at hSw); unfold c40a1; go_simp <;> with_reducible rfl)
  try simp only [c40a1, Act.put, List.setIfInBounds_toArray, List.set_cons_zero, List.set_cons_succ]
  refine wpAnyH_take (i := 2) (oi := c40a2) (v := ?_) rfl (by kernel_rfl) (by kernel_rfl) (by kernel_rfl) (fun _ _ _ h => h) (Or.inl ⟨by rfl, ?_⟩) hHeld ?_
  rotate_left
  · (intro w hSw; (try dsimp only at hSw); unfold c40a2; go_simp <;> with_reducible rfl)
  try simp only [c40a2, Act.put, List.setIfInBounds_toArray, List.set_cons_zero, List.set_cons_succ]
  refine wpAnyH_take (i := 3) (oi := c40a3) (v := ?_) rfl (by kernel_rfl) (by kernel_rfl) (by kernel_rfl) (fun _ _ _ h => h) (Or.inl ⟨by rfl, ?_⟩) hHeld ?_
  rotate_left
  · (intro w hSw; (try dsimp only at hSw); unfold c40a3; go_simp <;> with_reducible rfl)
  try simp only [c40a3, Act.put, List.setIfInBounds_toArray, List.set_cons_zero, List.set_cons_succ]
  refine wpAnyH_take (i := 4) (oi := c40a4) (v := ?_) rfl (by kernel_rfl) (by kernel_rfl) (by kernel_rfl) (fun _ _ _ h => h) (Or.inl ⟨by rfl, ?_⟩) hHeld ?_
  rotate_left
  · (intro w hSw; (try dsimp only at hSw); unfold c40a4; go_simp <;> with_reducible rfl)
  try simp only [c40a4, Act.put, List.setIfInBounds_toArray, List.set_cons_zero, List.set_cons_succ]
  refine wpAnyH_take (i := 6) (oi := c40a6) (v := ?_) rfl (by kernel_rfl) (by kernel_rfl) (by kernel_rfl) (fun _ _ _ h => h) (Or.inl ⟨by rfl, ?_⟩) hHeld ?_
  rotate_left
  · (intro w hSw; (try dsimp only at hSw); unfold c40a6; go_simp <;> with_reducible rfl)
  try simp only [c40a6, Act.put, List.setIfInBounds_toArray, List.set_cons_zero, List.set_cons_succ]
  refine wpAnyH_take (i := 7) (oi := c40a7) (v := ?_) rfl (by kernel_rfl) (by kernel_rfl) (by kernel_rfl) (fun _ _ _ h => h) (Or.inl ⟨by rfl, ?_⟩) hHeld ?_
  rotate_left
  · (intro w hSw; (try dsimp only at hSw); unfold c40a7; go_simp <;> with_reducible rfl)
  try simp only [c40a7, Act.put, List.setIfInBounds_toArray, List.set_cons_zero, List.set_cons_succ]
  refine wpAnyH_take (i := 8) (oi := c40a8) (v := ?_) rfl (by kernel_rfl) (by kernel_rfl) (by kernel_rfl) (fun _ _ _ h => h) (Or.inl ⟨by rfl, ?_⟩) hHeld ?_
  rotate_left
  · (intro w hSw; (try dsimp only at hSw); unfold c40a8; go_simp <;> with_reducible rfl)
  try simp only [c40a8, Act.put, List.setIfInBounds_toArray, List.set_cons_zero, List.set_cons_succ]
  refine wpAnyH_ready (rs := [5]) (by kernel_rfl) (by simp) ?_
  refine AllReadyH.cons (o := c40a5) rfl (fun K hK => ?_) AllReadyH.nil
  rw [if_pos (by rfl)]
  unfold c40a5
  go_simp
  (with_reducible refine (H1.out _ hHeld).mono ?_)
  rintro e w1 ⟨u, rfl, hown1, hB1⟩
  have hS1 : Below w.heap.size w w1 := hHeld.trans (hB1.mono hHeld.size)
  go_wp2_with fail
  refine hK.out _ _ hS1 (fun hHeld => ?_)
  clear hK K
  try simp only [c40a5, Act.put, List.setIfInBounds_toArray, List.set_cons_zero, List.set_cons_succ]
  refine wpAnyH_ready (rs := [9]) (by kernel_rfl) (by simp) ?_
  refine AllReadyH.cons (o := c40a9) rfl (fun K hK => ?_) AllReadyH.nil
  rw [if_pos (by rfl)]
  unfold c40a9
  go_simp
  (with_reducible refine (H2.out _ hHeld).mono ?_)
  rintro e w2 ⟨rfl, hB2⟩
  have hS2 : Below w.heap.size w w2 := hHeld.trans (hB2.mono hHeld.size)
  have hown2 := own_keep hown1 hB2
  clear hown1 hB1 hB2
  go_wp2_with fail
  refine hK.out _ _ hS2 (fun hHeld => ?_)
  clear hK K
  try simp only [c40a9, Act.put, List.setIfInBounds_toArray, List.set_cons_zero, List.set_cons_succ]
  refine wpAnyH_ready (rs := [10]) (by kernel_rfl) (by simp) ?_
  refine AllReadyH.cons (o := c40a10) rfl (fun K hK => ?_) AllReadyH.nil
  rw [if_pos (by rfl)]
  refine wp_buildSlice_run 30 1 [(0, Operand.tmp 27)] (by rfl) _ _ (by rfl) (HBS.out _) ?_
  refine hK.out _ _ (hS2.alloc hS2.size _) (fun hHeld => ?_)
  clear hK K
  try simp only [c40a10, Act.put, List.setIfInBounds_toArray, List.set_cons_zero, List.set_cons_succ]
  refine wpAnyH_ready (rs := [11]) (by kernel_rfl) (by simp) ?_
  refine AllReadyH.cons (o := c40a11) rfl (fun K hK => ?_) AllReadyH.nil
  refine step_append_lies _ (by rfl) (.tmp 23) (.tmp 28) 30 (by rfl) w.heap.size 26 i0 _ 32 32 Tryd.underlying30 hi0 hz0 hz1 hz2 (by simp [Value.cells]) (by omega) u p.length (flat p) (by rfl) (hown2.alloc _) ⟨w2.heap.size, 0, none⟩ 1 1 D (by rfl) (by rw [HDL.out]) (fun j u hu => World.news_of_block (heap_alloc_new w2 _) j u (by simpa using hu)) HD1.out (by omega) (by unfold maxLen; omega) (by omega) (by have := hS2.size; simp; omega) _ rfl ?_
  intro g cap3 w3 hown3 hgr3 hat3 hlt3
  have hS3 : Below w.heap.size w w3 := below_grow (hS2.alloc hS2.size _) hgr3 (fun k hk => (hown2.lt k hk).1) (by have := hS2.size; simp; omega)
  refine hK.out _ _ hS3 (fun hHeld => ?_)
  clear hK K
  try simp only [c40a11, Act.put, List.setIfInBounds_toArray, List.set_cons_zero, List.set_cons_succ]
  refine wpAnyH_ready (rs := [12]) (by kernel_rfl) (by simp) ?_
  refine AllReadyH.cons (o := c40a12) rfl (fun K hK => ?_) AllReadyH.nil
  rw [if_pos (by rfl)]
  unfold c40a12
  go_simp
  refine hK.out _ _ hS3 (fun hHeld => ?_)
  clear hK K
  try simp only [c40a12, Act.put, List.setIfInBounds_toArray, List.set_cons_zero, List.set_cons_succ]
  refine wpAnyH_done (by kernel_rfl) ?_ _
  have HO3 := Lib.hid hown3
  have HS3 := Lib.hid hS3
  clear hown3 hS3 hown2 hgr3 hat3 hHeld
  go_wp2
  go_ret
  exact ⟨_, rfl, by rw [List.length_append, flat_snoc, HD.out]; exact HO3.out, HS3.out⟩

def c40b0 : Oper := { dst := some 30, op := Go.Op.move (Go.Operand.tmp 0), type := 30, pos := "tree.go:31", after := #[], guard := none }
def c40b1 : Oper := { dst := some 31, op := Go.Op.move (Go.Operand.tmp 1), type := 30, pos := "tree.go:31", after := #[], guard := none }
def c40b2 : Oper := { dst := some 32, op := Go.Op.move (Go.Operand.tmp 7), type := 3, pos := "tree.go:31", after := #[], guard := none }
def c40b3 : Oper := { dst := some 33, op := Go.Op.slice 30 (Go.Operand.tmp 31) (some (Go.Operand.tmp 32)) none none, type := 30, pos := "tree.go:31", after := #[{ on := 1, ground := Go.Ground.data }, { on := 2, ground := Go.Ground.data }], guard := none }
def c40b4 : Oper := { dst := some 34, op := Go.Op.move (Go.Operand.tmp 2), type := 3, pos := "tree.go:31", after := #[], guard := none }
def c40b5 : Oper := { dst := some 35, op := Go.Op.move (Go.Operand.tmp 7), type := 3, pos := "tree.go:31", after := #[], guard := none }
def c40b6 : Oper := { dst := some 36, op := Go.Op.binOp Go.BinOp.sub 3 (Go.Operand.tmp 34) (Go.Operand.tmp 35) 3, type := 3, pos := "tree.go:31", after := #[{ on := 4, ground := Go.Ground.data }, { on := 5, ground := Go.Ground.data }], guard := none }
def c40b7 : Oper := { dst := some 37, op := Go.Op.call { callee := Go.Callee.value (Go.Operand.func 40), args := #[Go.Operand.tmp 30, Go.Operand.tmp 33, Go.Operand.tmp 36], argTypes := #[30, 30, 3] }, type := 30, pos := "tree.go:31", after := #[{ on := 0, ground := Go.Ground.data }, { on := 3, ground := Go.Ground.data }, { on := 6, ground := Go.Ground.data }], guard := none }
def c40b8 : Oper := { dst := some 38, op := Go.Op.move (Go.Operand.tmp 1), type := 30, pos := "tree.go:31", after := #[], guard := none }
def c40b9 : Oper := { dst := some 39, op := Go.Op.move (Go.Operand.tmp 7), type := 3, pos := "tree.go:31", after := #[], guard := none }
def c40b10 : Oper := { dst := some 40, op := Go.Op.slice 30 (Go.Operand.tmp 38) none (some (Go.Operand.tmp 39)) none, type := 30, pos := "tree.go:31", after := #[{ on := 8, ground := Go.Ground.data }, { on := 9, ground := Go.Ground.data }], guard := none }
def c40b11 : Oper := { dst := some 41, op := Go.Op.call { callee := Go.Callee.value (Go.Operand.func 17), args := #[Go.Operand.tmp 40], argTypes := #[30] }, type := 26, pos := "tree.go:31", after := #[{ on := 10, ground := Go.Ground.data }, { on := 7, ground := Go.Ground.chain }], guard := none }
def c40b12 : Oper := { dst := some 42, op := Go.Op.buildSlice 30 1 #[(0, Go.Operand.tmp 41)], type := 30, pos := "tree.go:31", after := #[{ on := 11, ground := Go.Ground.data }], guard := none }
def c40b13 : Oper := { dst := some 43, op := Go.Op.call { callee := Go.Callee.builtin Go.Builtin.append, args := #[Go.Operand.tmp 37, Go.Operand.tmp 42], argTypes := #[30, 30] }, type := 30, pos := "tree.go:31", after := #[{ on := 7, ground := Go.Ground.data }, { on := 12, ground := Go.Ground.data }, { on := 11, ground := Go.Ground.chain }], guard := none }
def c40b14 : Oper := { dst := some 6, op := Go.Op.assign (Go.Operand.tmp 43), type := 30, pos := "tree.go:31", after := #[{ on := 13, ground := Go.Ground.data }, { on := 13, ground := Go.Ground.chain }, { on := 0, ground := Go.Ground.phase }, { on := 1, ground := Go.Ground.phase }, { on := 2, ground := Go.Ground.phase }, { on := 3, ground := Go.Ground.phase }, { on := 4, ground := Go.Ground.phase }, { on := 5, ground := Go.Ground.phase }, { on := 6, ground := Go.Ground.phase }, { on := 7, ground := Go.Ground.phase }, { on := 8, ground := Go.Ground.phase }, { on := 9, ground := Go.Ground.phase }, { on := 10, ground := Go.Ground.phase }, { on := 11, ground := Go.Ground.phase }, { on := 12, ground := Go.Ground.phase }, { on := 13, ground := Go.Ground.phase }], guard := none }

set_option maxRecDepth 100000 in
set_option maxHeartbeats 1000000 in
theorem apath_ge (w : World) (db off cap n k i : Nat) (p : List (List UInt8)) (x : List UInt8) (hx : x.length = 32) (hn1 : 1 < n) (hn2 : n ≤ 1000000) (hk : spl n = k) (hi : k ≤ i) (hin : i < n) (hnc : n ≤ cap) (hcm : cap ≤ maxLen) (hpl : p.length ≤ 1000000)
    (h1 : ∀ W, Below w.heap.size w W → Calls Tryd.prog 40 #[.slice none 0 0, .slice (some ⟨db, off + k * 32, none⟩) (n - k) (cap - k), .int .i64 ((i : Int) - (k : Int))] W (PathPost W p))
    (h2 : ∀ W, Below w.heap.size w W → Calls Tryd.prog 17 #[.slice (some ⟨db, off, none⟩) k cap] W fun e w' => e = .returned (dv x) ∧ Below W.heap.size W w') :
    Calls Tryd.prog 40 #[.slice none 0 0, .slice (some ⟨db, off, none⟩) n cap, .int .i64 i] w (PathPost w (p ++ [x])) := by
  obtain ⟨hk0, hkn, _⟩ := spl_bound n hn1 (by omega)
  rw [hk] at hk0 hkn
  obtain ⟨i0, hi0, hz0, hz1, hz2⟩ := info_parts Tryd.info26z
  obtain ⟨D, hD⟩ : ∃ D, cells8 x = D := ⟨_, rfl⟩
  have hDl : D.length = 32 := by rw [← hD, cells8_len, hx]
  have hD1 : ∀ v ∈ D, v.oneCell' = true := by rw [← hD]; exact one_cells8 _
  have hbs : ∀ W : World, (Instr.buildSlice 30 1 #[(0, .agg D.toArray)]).run Tryd.prog W = .ok (.slice (some ⟨W.heap.size, 0, none⟩) 1 1) (W.alloc (.cells D.toArray 26)) := fun W => run_buildSlice1 W _ (by simpa using hDl)
  have ha : ∀ W, Below w.heap.size w W → Calls Tryd.prog 40 #[.slice none 0 0, .slice (some ⟨db, off + k * 32, none⟩) (n - k) (cap - k), .int .i64 ((i : Int) - (k : Int))] W fun e w' => ∃ u, e = .returned u ∧ w'.ownsRow w.heap.size 26 32 u p.length (flat p) ∧ Below W.heap.size W w' := fun W hB =>
    (h1 W hB).mono fun e w' ⟨u, a, b, c⟩ => ⟨u, a, own_base b hB.size, c⟩
  have hb : ∀ W, Below w.heap.size w W → Calls Tryd.prog 17 #[.slice (some ⟨db, off, none⟩) k cap] W fun e w' => e = .returned (.agg D.toArray) ∧ Below W.heap.size W w' := fun W hB => by
    have h := h2 W hB
    rw [dv_eq, hD] at h
    exact h
  have hsp := split_any n hn1 (by omega)
  rw [hk] at hsp
  have HSP := Lib.hid hsp
  have H1 := Lib.hid ha
  have H2 := Lib.hid hb
  have HD := Lib.hid hD
  have HDL := Lib.hid hDl
  have HD1 := Lib.hid hD1
  have HBS := Lib.hid hbs
  unfold maxLen at hcm
  have d1 : ((n : Int) == 1) = false := by simp; omega
  have e1 : decide ((n : Int) = 1) = false := by simp; omega
  have d2 : decide (i < k) = false := by simp; omega
  have f1 : ((k : Nat) : Int) ≤ (n : Int) := by omega
  have f2 : ((k : Nat) : Int) ≤ (cap : Int) := by omega
  have f3 : ((n : Nat) : Int) ≤ (cap : Int) := by omega
  have hkc : k < cap := by omega
  have f5 : ¬ cap = k := by omega
  have q2 : IntKind.i64.wrap ((i : Int) - (k : Int)) = (i : Int) - (k : Int) := by rw [IntKind.wrap_i64]; omega
  clear hsp ha hb hD hDl hD1 hbs h1 h2 hx hk
  go_enter Tryd.func40, Tryd.ntmps40
  go_wp2_with (first
    | (go_at_call 36; refine (HSP.out _).mono ?_; rintro e w' ⟨rfl, hw'⟩; rw [hw']; clear hw' w'))
  refine wp_region_held_drew (S := fun W => Below w.heap.size w W) (by kernel_rfl) ((Below.refl _ _).drew) (fun hHeld => ?_)
  refine wpAnyH_take (i := 0) (oi := c40b0) (v := ?_) rfl (by kernel_rfl) (by kernel_rfl) (by kernel_rfl) (fun _ _ _ h => h) (Or.inl ⟨by rfl, ?_⟩) hHeld ?_
  rotate_left
  · (intro w hSw; (try dsimp only at hSw); unfold c40b0; go_simp <;> with_reducible rfl)
  try simp only [c40b0, Act.put, List.setIfInBounds_toArray, List.set_cons_zero, List.set_cons_succ]
  refine wpAnyH_take (i := 1) (oi := c40b1) (v := ?_) rfl (by kernel_rfl) (by kernel_rfl) (by kernel_rfl) (fun _ _ _ h => h) (Or.inl ⟨by rfl, ?_⟩) hHeld ?_
  rotate_left
  · (intro w hSw; (try dsimp only at hSw); unfold c40b1; go_simp <;> with_reducible rfl)
  try simp only [c40b1, Act.put, List.setIfInBounds_toArray, List.set_cons_zero, List.set_cons_succ]
  refine wpAnyH_take (i := 2) (oi := c40b2) (v := ?_) rfl (by kernel_rfl) (by kernel_rfl) (by kernel_rfl) (fun _ _ _ h => h) (Or.inl ⟨by rfl, ?_⟩) hHeld ?_
  rotate_left
  · (intro w hSw; (try dsimp only at hSw); unfold c40b2; go_simp <;> with_reducible rfl)
  try simp only [c40b2, Act.put, List.setIfInBounds_toArray, List.set_cons_zero, List.set_cons_succ]
  refine wpAnyH_take (i := 3) (oi := c40b3) (v := ?_) rfl (by kernel_rfl) (by kernel_rfl) (by kernel_rfl) (fun _ _ _ h => h) (Or.inl ⟨by rfl, ?_⟩) hHeld ?_
  rotate_left
  · (intro w hSw; (try dsimp only at hSw); unfold c40b3; go_simp <;> with_reducible rfl)
  try simp only [c40b3, Act.put, List.setIfInBounds_toArray, List.set_cons_zero, List.set_cons_succ]
  refine wpAnyH_take (i := 4) (oi := c40b4) (v := ?_) rfl (by kernel_rfl) (by kernel_rfl) (by kernel_rfl) (fun _ _ _ h => h) (Or.inl ⟨by rfl, ?_⟩) hHeld ?_
  rotate_left
  · (intro w hSw; (try dsimp only at hSw); unfold c40b4; go_simp <;> with_reducible rfl)
  try simp only [c40b4, Act.put, List.setIfInBounds_toArray, List.set_cons_zero, List.set_cons_succ]
  refine wpAnyH_take (i := 5) (oi := c40b5) (v := ?_) rfl (by kernel_rfl) (by kernel_rfl) (by kernel_rfl) (fun _ _ _ h => h) (Or.inl ⟨by rfl, ?_⟩) hHeld ?_
  rotate_left
  · (intro w hSw; (try dsimp only at hSw); unfold c40b5; go_simp <;> with_reducible rfl)
  try simp only [c40b5, Act.put, List.setIfInBounds_toArray, List.set_cons_zero, List.set_cons_succ]
  refine wpAnyH_take (i := 6) (oi := c40b6) (v := ?_) rfl (by kernel_rfl) (by kernel_rfl) (by kernel_rfl) (fun _ _ _ h => h) (Or.inl ⟨by rfl, ?_⟩) hHeld ?_
  rotate_left
  · (intro w hSw; (try dsimp only at hSw); unfold c40b6; go_simp <;> with_reducible rfl)
  try simp only [c40b6, Act.put, List.setIfInBounds_toArray, List.set_cons_zero, List.set_cons_succ]
  refine wpAnyH_take (i := 8) (oi := c40b8) (v := ?_) rfl (by kernel_rfl) (by kernel_rfl) (by kernel_rfl) (fun _ _ _ h => h) (Or.inl ⟨by rfl, ?_⟩) hHeld ?_
  rotate_left
  · (intro w hSw; (try dsimp only at hSw); unfold c40b8; go_simp <;> with_reducible rfl)
  try simp only [c40b8, Act.put, List.setIfInBounds_toArray, List.set_cons_zero, List.set_cons_succ]
  refine wpAnyH_take (i := 9) (oi := c40b9) (v := ?_) rfl (by kernel_rfl) (by kernel_rfl) (by kernel_rfl) (fun _ _ _ h => h) (Or.inl ⟨by rfl, ?_⟩) hHeld ?_
  rotate_left
  · (intro w hSw; (try dsimp only at hSw); unfold c40b9; go_simp <;> with_reducible rfl)
  try simp only [c40b9, Act.put, List.setIfInBounds_toArray, List.set_cons_zero, List.set_cons_succ]
  refine wpAnyH_take (i := 10) (oi := c40b10) (v := ?_) rfl (by kernel_rfl) (by kernel_rfl) (by kernel_rfl) (fun _ _ _ h => h) (Or.inl ⟨by rfl, ?_⟩) hHeld ?_
  rotate_left
  · (intro w hSw; (try dsimp only at hSw); unfold c40b10; go_simp <;> with_reducible rfl)
  try simp only [c40b10, Act.put, List.setIfInBounds_toArray, List.set_cons_zero, List.set_cons_succ]
  refine wpAnyH_ready (rs := [7]) (by kernel_rfl) (by simp) ?_
  refine AllReadyH.cons (o := c40b7) rfl (fun K hK => ?_) AllReadyH.nil
  rw [if_pos (by rfl)]
  unfold c40b7
  go_simp
  (with_reducible refine (H1.out _ hHeld).mono ?_)
  rintro e w1 ⟨u, rfl, hown1, hB1⟩
  have hS1 : Below w.heap.size w w1 := hHeld.trans (hB1.mono hHeld.size)
  go_wp2_with fail
  refine hK.out _ _ hS1 (fun hHeld => ?_)
  clear hK K
  try simp only [c40b7, Act.put, List.setIfInBounds_toArray, List.set_cons_zero, List.set_cons_succ]
  refine wpAnyH_ready (rs := [11]) (by kernel_rfl) (by simp) ?_
  refine AllReadyH.cons (o := c40b11) rfl (fun K hK => ?_) AllReadyH.nil
  rw [if_pos (by rfl)]
  unfold c40b11
  go_simp
  (with_reducible refine (H2.out _ hHeld).mono ?_)
  rintro e w2 ⟨rfl, hB2⟩
  have hS2 : Below w.heap.size w w2 := hHeld.trans (hB2.mono hHeld.size)
  have hown2 := own_keep hown1 hB2
  clear hown1 hB1 hB2
  go_wp2_with fail
  refine hK.out _ _ hS2 (fun hHeld => ?_)
  clear hK K
  try simp only [c40b11, Act.put, List.setIfInBounds_toArray, List.set_cons_zero, List.set_cons_succ]
  refine wpAnyH_ready (rs := [12]) (by kernel_rfl) (by simp) ?_
  refine AllReadyH.cons (o := c40b12) rfl (fun K hK => ?_) AllReadyH.nil
  rw [if_pos (by rfl)]
  refine wp_buildSlice_run 30 1 [(0, Operand.tmp 41)] (by rfl) _ _ (by rfl) (HBS.out _) ?_
  refine hK.out _ _ (hS2.alloc hS2.size _) (fun hHeld => ?_)
  clear hK K
  try simp only [c40b12, Act.put, List.setIfInBounds_toArray, List.set_cons_zero, List.set_cons_succ]
  refine wpAnyH_ready (rs := [13]) (by kernel_rfl) (by simp) ?_
  refine AllReadyH.cons (o := c40b13) rfl (fun K hK => ?_) AllReadyH.nil
  refine step_append_lies _ (by rfl) (.tmp 37) (.tmp 42) 30 (by rfl) w.heap.size 26 i0 _ 32 32 Tryd.underlying30 hi0 hz0 hz1 hz2 (by simp [Value.cells]) (by omega) u p.length (flat p) (by rfl) (hown2.alloc _) ⟨w2.heap.size, 0, none⟩ 1 1 D (by rfl) (by rw [HDL.out]) (fun j u hu => World.news_of_block (heap_alloc_new w2 _) j u (by simpa using hu)) HD1.out (by omega) (by unfold maxLen; omega) (by omega) (by have := hS2.size; simp; omega) _ rfl ?_
  intro g cap3 w3 hown3 hgr3 hat3 hlt3
  have hS3 : Below w.heap.size w w3 := below_grow (hS2.alloc hS2.size _) hgr3 (fun k hk => (hown2.lt k hk).1) (by have := hS2.size; simp; omega)
  refine hK.out _ _ hS3 (fun hHeld => ?_)
  clear hK K
  try simp only [c40b13, Act.put, List.setIfInBounds_toArray, List.set_cons_zero, List.set_cons_succ]
  refine wpAnyH_ready (rs := [14]) (by kernel_rfl) (by simp) ?_
  refine AllReadyH.cons (o := c40b14) rfl (fun K hK => ?_) AllReadyH.nil
  rw [if_pos (by rfl)]
  unfold c40b14
  go_simp
  refine hK.out _ _ hS3 (fun hHeld => ?_)
  clear hK K
  try simp only [c40b14, Act.put, List.setIfInBounds_toArray, List.set_cons_zero, List.set_cons_succ]
  refine wpAnyH_done (by kernel_rfl) ?_ _
  have HO3 := Lib.hid hown3
  have HS3 := Lib.hid hS3
  clear hown3 hS3 hown2 hgr3 hat3 hHeld
  go_wp2
  go_ret
  exact ⟨_, rfl, by rw [List.length_append, flat_snoc, HD.out]; exact HO3.out, HS3.out⟩

set_option maxRecDepth 100000 in
set_option maxHeartbeats 1000000 in
theorem apath_one (w : World) (a : Option Addr) (cap : Nat) (i : Int) : Calls Tryd.prog 40 #[.slice none 0 0, .slice a 1 cap, .int .i64 i] w (PathPost w []) := by
  go_enter Tryd.func40, Tryd.ntmps40
  go_wp2
  go_ret
  exact ⟨_, rfl, World.ownsRow_nil _ _ _ _, by go_grown⟩
theorem apath_any : ∀ (n : Nat) (ds : List (List UInt8)) (w : World) (v : Value) (i : Nat), ds.length = n → 0 < n → n ≤ 1000000 → i < n → Digs w w.heap.size v ds → Tab w → 0 < w.heap.size →
    Calls Tryd.prog 40 #[.slice none 0 0, v, .int .i64 i] w (PathPost w (pth ds i)) := by
  intro n
  induction n using Nat.strongRecOn with
  | ind n ih =>
    intro ds w v i hl hn0 hn hi hD hT h0
    have hD' := hD
    obtain ⟨h32, a, cap, rfl, hc, hm, h4⟩ := hD'
    by_cases h1 : n = 1
    · rw [hl, h1, pth_one ds i (by omega)]
      exact apath_one w a cap i
    · rcases h4 with rfl | ⟨db, off, rfl, hdb, hr⟩
      · simp at hl; omega
      · obtain ⟨b1, b2, b3, _⟩ := spl_bound ds.length (by omega) (by omega)
        have hlt : (ds.take (spl ds.length)).length = spl ds.length := by rw [List.length_take]; omega
        have hld : (ds.drop (spl ds.length)).length = ds.length - spl ds.length := by rw [List.length_drop]
        have hDt : ∀ W, Below w.heap.size w W → Digs W W.heap.size (.slice (some ⟨db, off, none⟩) (spl ds.length) cap) (ds.take (spl ds.length)) := fun W hB =>
          ⟨fun d hd => h32 d (List.mem_of_mem_take hd), some ⟨db, off, none⟩, cap, by rw [hlt], by omega, hm, .inr ⟨db, off, rfl, by have := hB.size; omega, fun j hj u v hv => by
            rw [List.getElem_take] at hv
            exact (hB.cell (p := ⟨db, off + j * 32 + u, none⟩) hdb).trans (hr j (by omega) u v hv)⟩⟩
        have hDd : ∀ W, Below w.heap.size w W → Digs W W.heap.size (.slice (some ⟨db, off + spl ds.length * 32, none⟩) (ds.length - spl ds.length) (cap - spl ds.length)) (ds.drop (spl ds.length)) := fun W hB =>
          ⟨fun d hd => h32 d (List.mem_of_mem_drop hd), some ⟨db, off + spl ds.length * 32, none⟩, cap - spl ds.length, by rw [hld], by omega, by omega, .inr ⟨db, off + spl ds.length * 32, rfl, by have := hB.size; omega, fun j hj u v hv => by
            rw [List.getElem_drop] at hv
            have := (hB.cell (p := ⟨db, off + (spl ds.length + j) * 32 + u, none⟩) hdb).trans (hr (spl ds.length + j) (by omega) u v hv)
            rwa [show off + spl ds.length * 32 + j * 32 = off + (spl ds.length + j) * 32 by omega]⟩⟩
        have htW : ∀ W, Below w.heap.size w W → Tab W ∧ 0 < W.heap.size := fun W hB => ⟨hT.below hB h0, by have := hB.size; omega⟩
        have hpl : ∀ (l : List (List UInt8)) (j : Nat), l.length ≤ 1000000 → (pth l j).length ≤ 1000000 := fun l j h => by
          rw [pth_len _ l j rfl (by omega)]
          have := psteps_le j l.length (by omega)
          omega
        by_cases h : i < spl ds.length
        · rw [pth_lt ds i (by omega) (by omega) h]
          refine apath_lt w db off cap ds.length (spl ds.length) i _ _ (tree_len _) (by omega) (by omega) rfl h hc hm (hpl _ _ (by omega)) (fun W hB => ?_) (fun W hB => ?_)
          · exact ih _ (by omega) _ W _ i hlt (by omega) (by omega) h (hDt W hB) (htW W hB).1 (htW W hB).2
          · exact tree_any _ _ W _ hld (by omega) (hDd W hB) (htW W hB).1 (htW W hB).2
        · rw [pth_ge ds i (by omega) (by omega) h]
          refine apath_ge w db off cap ds.length (spl ds.length) i _ _ (tree_len _) (by omega) (by omega) rfl (by omega) (by omega) hc hm (hpl _ _ (by omega)) (fun W hB => ?_) (fun W hB => ?_)
          · have := ih _ (by omega) _ W _ (i - spl ds.length) hld (by omega) (by omega) (by omega) (hDd W hB) (htW W hB).1 (htW W hB).2
            rwa [show ((i - spl ds.length : Nat) : Int) = (i : Int) - (spl ds.length : Int) by omega] at this
          · exact tree_any _ _ W _ hlt (by omega) (hDt W hB) (htW W hB).1 (htW W hB).2
set_option maxRecDepth 100000 in
set_option maxHeartbeats 1000000 in
/-- Path of an element that is there. -/
theorem path_any (w : World) (ds : List (List UInt8)) (v : Value) (i : Nat) (hi : i < ds.length) (hn : ds.length ≤ 1000000) (hD : Digs w w.heap.size v ds) (hT : Tab w) (h0 : 0 < w.heap.size) :
    Calls Tryd.prog 19 #[v, .int .i64 i] w fun e w' => ∃ u, e = .returned (.tuple #[u, .int .i64 0]) ∧ w'.ownsRow w.heap.size 26 32 u (pth ds i).length (flat (pth ds i)) ∧ Below w.heap.size w w' := by
  have hap := apath_any _ ds w v i rfl (by omega) hn hi hD hT h0
  obtain ⟨h32, a, cap, rfl, hc, hm, h4⟩ := hD
  obtain ⟨n, hnn⟩ : ∃ n, ds.length = n := ⟨_, rfl⟩
  rw [hnn] at hap hi hn ⊢
  have HAP := Lib.hid hap
  have d1 : decide ((i : Int) < 0) = false := by simp
  have d2 : decide (n ≤ i) = false := by simpa using hi
  have d3 : ¬ n ≤ i := by omega
  clear hap h4 hc hnn
  go_enter Tryd.func19, Tryd.ntmps19
  go_wp2_with fail
  refine HAP.out.mono ?_
  rintro e w1 ⟨u, rfl, hO, hB⟩
  have HO := Lib.hid hO
  have HB := Lib.hid hB
  clear hO hB
  go_wp2
  go_returns
  exact ⟨_, rfl, HO.out, HB.out⟩
set_option maxRecDepth 100000 in
set_option maxHeartbeats 1000000 in
/-- Path of an element that is not there. -/
theorem path_bad (w : World) (a : Option Addr) (n cap : Nat) (i : Int) (hi : i < 0 ∨ (n : Int) ≤ i) (_hn : n ≤ 1000000) :
    Calls Tryd.prog 19 #[.slice a n cap, .int .i64 i] w fun e w' => e = .returned (.tuple #[.slice none 0 0, .int .i64 1]) ∧ Below w.heap.size w w' := by
  by_cases h : i < 0
  · have d1 : decide (i < 0) = true := by simpa using h
    clear hi
    go_enter Tryd.func19, Tryd.ntmps19
    go_wp2
    go_returns
    exact ⟨rfl, by go_grown⟩
  · have h2 : (n : Int) ≤ i := by omega
    have d1 : decide (i < 0) = false := by simpa using h
    have d2 : decide ((n : Int) ≤ i) = true := by simpa using h2
    clear hi
    go_enter Tryd.func19, Tryd.ntmps19
    go_wp2
    go_returns
    exact ⟨rfl, by go_grown⟩
end Go.Proofs.YtnddejhbncgchaaDoor
