/- merkle's reference: next. -/
import Derived.Test.YtfmngeemhfpeiaaDoorRmw
namespace Go.Proofs.YtfmngeemhfpeiaaDoor
open Go.RowKit

/-- The row behind a row. -/
def nexts : List (List UInt8) → List (List UInt8)
  | [] => []
  | [a] => [a]
  | a :: b :: r => sha (nodeT a b) :: nexts r
theorem nexts_app : ∀ (l m : List (List UInt8)), l.length % 2 = 0 → nexts (l ++ m) = nexts l ++ nexts m
  | [], m, _ => rfl
  | [a], m, h => by simp at h
  | a :: b :: r, m, h => by
    show sha (nodeT a b) :: nexts (r ++ m) = sha (nodeT a b) :: (nexts r ++ nexts m)
    rw [nexts_app r m (by simp at h; omega)]
theorem nexts_32 : ∀ (l : List (List UInt8)), (∀ d ∈ l, d.length = 32) → ∀ d ∈ nexts l, d.length = 32
  | [], _, d, hd => by cases hd
  | [a], h, d, hd => h d hd
  | a :: b :: r, h, d, hd => by
    rcases List.mem_cons.1 hd with rfl | hd
    · exact sha_len _
    · exact nexts_32 r (fun x hx => h x (by simp [hx])) d hd
theorem nexts_len : ∀ (l : List (List UInt8)), (nexts l).length = (l.length + 1) / 2
  | [] => by simp [nexts]
  | [a] => by simp [nexts]
  | a :: b :: r => by
    show (nexts r).length + 1 = (r.length + 1 + 1 + 1) / 2
    rw [nexts_len r]
    omega
theorem nexts_two {l : List (List UInt8)} {t : Nat} (ht : t % 2 = 0) (h : t + 1 < l.length) : flat (nexts (l.take (t + 2))) = flat (nexts (l.take t)) ++ cells8 (sha (nodeT l[t] l[t + 1])) := by
  rw [show t + 2 = t + 1 + 1 by omega, List.take_succ_eq_append_getElem h, List.take_succ_eq_append_getElem (show t < l.length by omega), List.append_assoc, nexts_app _ _ (by rw [List.length_take]; omega)]
  show flat (nexts (l.take t) ++ [sha (nodeT l[t] l[t + 1])]) = _
  exact flat_snoc _ _
theorem nexts_one {l : List (List UInt8)} {t : Nat} (ht : t % 2 = 0) (h : t + 1 = l.length) : flat (nexts (l.take (t + 2))) = flat (nexts (l.take t)) ++ cells8 (l[t]'(by omega)) := by
  rw [List.take_of_length_le (show l.length ≤ t + 2 by omega)]
  have e : l = l.take t ++ [l[t]'(by omega)] := by
    have := List.take_succ_eq_append_getElem (show t < l.length by omega)
    rwa [List.take_of_length_le (show l.length ≤ t + 1 by omega)] at this
  have h2 : nexts l = nexts (l.take t) ++ [l[t]'(by omega)] := by
    have := nexts_app (l.take t) [l[t]'(by omega)] (by rw [List.length_take]; omega)
    rw [← e] at this
    exact this
  rw [h2]
  exact flat_snoc _ _

def c49a0 : Oper := { dst := some 17, op := Go.Op.move (Go.Operand.tmp 3), type := 25, pos := "ref.go:25", after := #[], guard := none }
def c49a1 : Oper := { dst := some 18, op := Go.Op.move (Go.Operand.tmp 0), type := 25, pos := "ref.go:25", after := #[], guard := none }
def c49a2 : Oper := { dst := some 19, op := Go.Op.move (Go.Operand.tmp 4), type := 3, pos := "ref.go:25", after := #[], guard := none }
def c49a3 : Oper := { dst := some 20, op := Go.Op.indexAddr 25 (Go.Operand.tmp 18) (Go.Operand.tmp 19), type := 0, pos := "ref.go:25", after := #[{ on := 1, ground := Go.Ground.data }, { on := 2, ground := Go.Ground.data }], guard := none }
def c49a4 : Oper := { dst := some 21, op := Go.Op.load 30 (Go.Operand.tmp 20), type := 30, pos := "ref.go:25", after := #[{ on := 3, ground := Go.Ground.data }], guard := none }
def c49a5 : Oper := { dst := some 22, op := Go.Op.move (Go.Operand.tmp 0), type := 25, pos := "ref.go:25", after := #[], guard := none }
def c49a6 : Oper := { dst := some 23, op := Go.Op.move (Go.Operand.tmp 4), type := 3, pos := "ref.go:25", after := #[], guard := none }
def c49a7 : Oper := { dst := some 24, op := Go.Op.binOp Go.BinOp.add 3 (Go.Operand.tmp 23) (Go.Operand.const (Go.Value.int Go.IntKind.i64 1)) 3, type := 3, pos := "ref.go:25", after := #[{ on := 6, ground := Go.Ground.data }], guard := none }
def c49a8 : Oper := { dst := some 25, op := Go.Op.indexAddr 25 (Go.Operand.tmp 22) (Go.Operand.tmp 24), type := 0, pos := "ref.go:25", after := #[{ on := 5, ground := Go.Ground.data }, { on := 7, ground := Go.Ground.data }], guard := none }
def c49a9 : Oper := { dst := some 26, op := Go.Op.load 30 (Go.Operand.tmp 25), type := 30, pos := "ref.go:25", after := #[{ on := 8, ground := Go.Ground.data }], guard := none }
def c49a10 : Oper := { dst := some 27, op := Go.Op.call { callee := Go.Callee.value (Go.Operand.func 79), args := #[Go.Operand.tmp 21, Go.Operand.tmp 26], argTypes := #[30, 30] }, type := 34, pos := "ref.go:25", after := #[{ on := 4, ground := Go.Ground.data }, { on := 9, ground := Go.Ground.data }], guard := none }
def c49a11 : Oper := { dst := some 28, op := Go.Op.call { callee := Go.Callee.value (Go.Operand.func 77), args := #[Go.Operand.tmp 27], argTypes := #[34] }, type := 30, pos := "ref.go:25", after := #[{ on := 10, ground := Go.Ground.data }, { on := 10, ground := Go.Ground.chain }], guard := none }
def c49a12 : Oper := { dst := some 29, op := Go.Op.buildSlice 25 1 #[(0, Go.Operand.tmp 28)], type := 25, pos := "ref.go:25", after := #[{ on := 11, ground := Go.Ground.data }], guard := none }
def c49a13 : Oper := { dst := some 30, op := Go.Op.call { callee := Go.Callee.builtin Go.Builtin.append, args := #[Go.Operand.tmp 17, Go.Operand.tmp 29], argTypes := #[25, 25] }, type := 25, pos := "ref.go:25", after := #[{ on := 0, ground := Go.Ground.data }, { on := 12, ground := Go.Ground.data }, { on := 11, ground := Go.Ground.chain }], guard := none }
def c49a14 : Oper := { dst := some 3, op := Go.Op.assign (Go.Operand.tmp 30), type := 25, pos := "ref.go:25", after := #[{ on := 13, ground := Go.Ground.data }, { on := 13, ground := Go.Ground.chain }, { on := 0, ground := Go.Ground.phase }, { on := 1, ground := Go.Ground.phase }, { on := 2, ground := Go.Ground.phase }, { on := 3, ground := Go.Ground.phase }, { on := 4, ground := Go.Ground.phase }, { on := 5, ground := Go.Ground.phase }, { on := 6, ground := Go.Ground.phase }, { on := 7, ground := Go.Ground.phase }, { on := 8, ground := Go.Ground.phase }, { on := 9, ground := Go.Ground.phase }, { on := 10, ground := Go.Ground.phase }, { on := 11, ground := Go.Ground.phase }, { on := 12, ground := Go.Ground.phase }, { on := 13, ground := Go.Ground.phase }], guard := none }

set_option maxRecDepth 100000 in
set_option maxHeartbeats 4000000 in
theorem rnext_own (w : World) (v : Value) (l : List (List UInt8)) (hv : Digs w w.heap.size v l) (hq : l.length ≤ 100000) :
    Calls Tryd.prog 49 #[v] w fun e w' => ∃ v', e = .returned v' ∧ w'.ownsRow w.heap.size 30 32 v' (nexts l).length (flat (nexts l)) ∧ Below w.heap.size w w' := by
  obtain ⟨h32, a, cap, rfl, h1, h2, h3⟩ := hv
  unfold maxLen at h2
  obtain ⟨N, hN⟩ : ∃ N, l.length = N := ⟨_, rfl⟩
  rw [hN] at h1 hq ⊢
  have HN := Lib.hid hN
  have H3 := Lib.hid h3
  have H32 := Lib.hid h32
  clear h3 hN h32
  go_enter Tryd.func49, Tryd.ntmps49
  go_wp2
  go_loopw [3, 4] (fun s3 i wr => ∃ k : Nat, i = .int .i64 ((2 * k : Nat) : Int) ∧ 2 * k ≤ N + 1 ∧ Below w.heap.size w wr ∧ Hid (wr.ownsRow w.heap.size 30 32 s3 k (flat (nexts (l.take (2 * k)))))) (fun _ i _ => N + 1 - (intOf i).toNat)
  case atStart => exact ⟨0, rfl, by omega, by go_grown, Lib.hid (World.ownsRow_made w #[] 0 (Nat.le_refl _) (by unfold maxLen; omega) rfl)⟩
  case round =>
    obtain ⟨k, rfl, hk, hB, HO⟩ := hrel
    have HB := Lib.hid hB
    clear hB
    obtain ⟨t, ht⟩ : ∃ t, 2 * k = t := ⟨_, rfl⟩
    rw [ht] at hk HO ⊢
    by_cases hlt : t < N
    · have htl : t < l.length := by rw [HN.out]; exact hlt
      have f1 : decide ((t : Int) < (N : Int)) = true := by simp; omega
      have f2 : decide (t < N) = true := by simp; omega
      have f3 : (t : Int) < (N : Int) := by omega
      have iw : IntKind.i64.wrap ((t : Int) + 1) = (t : Int) + 1 := by rw [IntKind.wrap_i64]; omega
      have iw2 : IntKind.i64.wrap ((t : Int) + 2) = (t : Int) + 2 := by rw [IntKind.wrap_i64]; omega
      obtain ⟨b, off, rfl, hb, hr⟩ := H3.out.resolve_left (fun e => by have := HN.out; rw [e] at this; simp at this; omega)
      have hra := hr t htl
      have la := H32.out _ (List.getElem_mem htl)
      by_cases hl2 : t + 1 < N
      · have htl2 : t + 1 < l.length := by rw [HN.out]; exact hl2
        have hrb := hr (t + 1) htl2
        have lb := H32.out _ (List.getElem_mem htl2)
        have hfd := nexts_two (l := l) (t := t) (by omega) htl2
        obtain ⟨x, hx⟩ : ∃ x, l[t] = x := ⟨_, rfl⟩
        obtain ⟨y, hy⟩ : ∃ y, l[t + 1] = y := ⟨_, rfl⟩
        rw [hx] at hra la hfd
        rw [hy] at hrb lb hfd
        have HTW := Lib.hid (fun W => rtwo_any W x y la lb)
        have HSU := Lib.hid (fun W v (hv : BytesAt W W.heap.size v (nodeT x y)) => rsum_any W v (nodeT x y) hv (by rw [nodeT_len, la, lb]; omega))
        simp only [dv_eq] at HSU
        have lca : (cells8 x).length = 32 := by rw [cells8_len, la]
        have lcb : (cells8 y).length = 32 := by rw [cells8_len, lb]
        have hdl : (cells8 (sha (nodeT x y))).length = 32 := by rw [cells8_len, sha_len]
        have hd1 := one_cells8 (sha (nodeT x y))
        obtain ⟨ca, hca⟩ : ∃ c, cells8 x = c := ⟨_, rfl⟩
        obtain ⟨cb, hcb⟩ : ∃ c, cells8 y = c := ⟨_, rfl⟩
        obtain ⟨D, hD⟩ : ∃ c, cells8 (sha (nodeT x y)) = c := ⟨_, rfl⟩
        rw [hca] at hra lca HTW
        rw [hcb] at hrb lcb HTW
        simp only [hD] at HSU
        rw [hD] at hdl hd1 hfd
        have HZA : Hid ((Tryd.prog.info? 30).map (·.size) = some ca.length) := by show _ = _; rw [lca]; exact Tryd.info30
        have HZB : Hid ((Tryd.prog.info? 30).map (·.size) = some cb.length) := by show _ = _; rw [lcb]; exact Tryd.info30
        have HDL := Lib.hid hdl
        have HD1 := Lib.hid hd1
        have HFD := Lib.hid hfd
        have AX : Hid (∀ W, Kept w W → W.rangeAt b (off + t * 32) ca) := Lib.hid fun W hW j v hv => (hW.below.cell (p := ⟨b, off + t * 32 + j, none⟩) hb).trans (hra j v hv)
        have AY : Hid (∀ W, Kept w W → W.rangeAt b (off + (t + 1) * 32) cb) := Lib.hid fun W hW j v hv => (hW.below.cell (p := ⟨b, off + (t + 1) * 32 + j, none⟩) hb).trans (hrb j v hv)
        have g1 : decide ((t : Int) + 1 < (N : Int)) = true := by simp; omega
        have g2 : decide (t + 1 < N) = true := by simp; omega
        have g3 : (t : Int) + 1 < (N : Int) := by omega
        have g4 : (0 : Int) ≤ (t : Int) + 1 := by omega
        clear hra la hrb lb hfd hx hy lca lcb hdl hd1 hca hcb hD hr
        go_upto_region 6 with fail
        refine wp_region_held_drew (S := fun W => Kept w W) (by kernel_rfl) (Kept.drew HB.out) (fun hHeld => ?_)
        refine wpAnyH_take (i := 0) (oi := c49a0) (v := ?_) rfl (by kernel_rfl) (by kernel_rfl) (by kernel_rfl) (fun _ _ _ h => h) (Or.inl ⟨by rfl, ?_⟩) hHeld ?_
        rotate_left
        · (intro w hSw; (try dsimp only at hSw); unfold c49a0; go_simp <;> with_reducible rfl)
        try simp only [c49a0, Act.put, List.setIfInBounds_toArray, List.set_cons_zero, List.set_cons_succ]
        refine wpAnyH_take (i := 1) (oi := c49a1) (v := ?_) rfl (by kernel_rfl) (by kernel_rfl) (by kernel_rfl) (fun _ _ _ h => h) (Or.inl ⟨by rfl, ?_⟩) hHeld ?_
        rotate_left
        · (intro w hSw; (try dsimp only at hSw); unfold c49a1; go_simp <;> with_reducible rfl)
        try simp only [c49a1, Act.put, List.setIfInBounds_toArray, List.set_cons_zero, List.set_cons_succ]
        refine wpAnyH_take (i := 2) (oi := c49a2) (v := ?_) rfl (by kernel_rfl) (by kernel_rfl) (by kernel_rfl) (fun _ _ _ h => h) (Or.inl ⟨by rfl, ?_⟩) hHeld ?_
        rotate_left
        · (intro w hSw; (try dsimp only at hSw); unfold c49a2; go_simp <;> with_reducible rfl)
        try simp only [c49a2, Act.put, List.setIfInBounds_toArray, List.set_cons_zero, List.set_cons_succ]
        refine wpAnyH_take (i := 3) (oi := c49a3) (v := ?_) rfl (by kernel_rfl) (by kernel_rfl) (by kernel_rfl) (fun _ _ _ h => h) (Or.inl ⟨by rfl, ?_⟩) hHeld ?_
        rotate_left
        · (intro w hSw; (try dsimp only at hSw); unfold c49a3; go_simp <;> with_reducible rfl)
        try simp only [c49a3, Act.put, List.setIfInBounds_toArray, List.set_cons_zero, List.set_cons_succ]
        refine wpAnyH_take (i := 4) (oi := c49a4) rfl (by kernel_rfl) (by kernel_rfl) (by kernel_rfl) (fun _ _ _ h => h) (yieldsIf_load_mid (by rfl) 30 (.tmp 20) (by rfl) b (off + t * 32) (by rfl) ca _ (fun w hSw => AX.out w hSw) Tryd.underlying30 rfl HZA.out) hHeld ?_
        try simp only [c49a4, Act.put, List.setIfInBounds_toArray, List.set_cons_zero, List.set_cons_succ]
        refine wpAnyH_take (i := 5) (oi := c49a5) (v := ?_) rfl (by kernel_rfl) (by kernel_rfl) (by kernel_rfl) (fun _ _ _ h => h) (Or.inl ⟨by rfl, ?_⟩) hHeld ?_
        rotate_left
        · (intro w hSw; (try dsimp only at hSw); unfold c49a5; go_simp <;> with_reducible rfl)
        try simp only [c49a5, Act.put, List.setIfInBounds_toArray, List.set_cons_zero, List.set_cons_succ]
        refine wpAnyH_take (i := 6) (oi := c49a6) (v := ?_) rfl (by kernel_rfl) (by kernel_rfl) (by kernel_rfl) (fun _ _ _ h => h) (Or.inl ⟨by rfl, ?_⟩) hHeld ?_
        rotate_left
        · (intro w hSw; (try dsimp only at hSw); unfold c49a6; go_simp <;> with_reducible rfl)
        try simp only [c49a6, Act.put, List.setIfInBounds_toArray, List.set_cons_zero, List.set_cons_succ]
        refine wpAnyH_take (i := 7) (oi := c49a7) (v := ?_) rfl (by kernel_rfl) (by kernel_rfl) (by kernel_rfl) (fun _ _ _ h => h) (Or.inl ⟨by rfl, ?_⟩) hHeld ?_
        rotate_left
        · (intro w hSw; (try dsimp only at hSw); unfold c49a7; go_simp <;> with_reducible rfl)
        try simp only [c49a7, Act.put, List.setIfInBounds_toArray, List.set_cons_zero, List.set_cons_succ]
        refine wpAnyH_take (i := 8) (oi := c49a8) (v := ?_) rfl (by kernel_rfl) (by kernel_rfl) (by kernel_rfl) (fun _ _ _ h => h) (Or.inl ⟨by rfl, ?_⟩) hHeld ?_
        rotate_left
        · (intro w hSw; (try dsimp only at hSw); unfold c49a8; go_simp <;> with_reducible rfl)
        try simp only [c49a8, Act.put, List.setIfInBounds_toArray, List.set_cons_zero, List.set_cons_succ]
        refine wpAnyH_take (i := 9) (oi := c49a9) rfl (by kernel_rfl) (by kernel_rfl) (by kernel_rfl) (fun _ _ _ h => h) (yieldsIf_load_mid (by rfl) 30 (.tmp 25) (by rfl) b (off + (t + 1) * 32) (by rfl) cb _ (fun w hSw => AY.out w hSw) Tryd.underlying30 rfl HZB.out) hHeld ?_
        try simp only [c49a9, Act.put, List.setIfInBounds_toArray, List.set_cons_zero, List.set_cons_succ]
        refine wpAnyH_ready (rs := [10]) (by kernel_rfl) (by simp) ?_
        refine AllReadyH.cons (o := c49a10) rfl (fun K hK => ?_) AllReadyH.nil
        rw [if_pos (by rfl)]
        unfold c49a10
        go_simp
        (with_reducible refine (HTW.out _).mono ?_)
        rintro e W10 ⟨v10, rfl, hv10, hB10⟩
        have hS10 := hHeld.next hB10
        have hO10 := own_after hB10 (own_after (Below.drew (Below.refl wr.heap.size wr)) HO.out)
        go_wp2_with fail
        refine hK.out _ _ hS10 (fun hHeld => ?_)
        clear hK K
        try simp only [c49a10, Act.put, List.setIfInBounds_toArray, List.set_cons_zero, List.set_cons_succ]
        refine wpAnyH_ready (rs := [11]) (by kernel_rfl) (by simp) ?_
        refine AllReadyH.cons (o := c49a11) rfl (fun K hK => ?_) AllReadyH.nil
        rw [if_pos (by rfl)]
        unfold c49a11
        go_simp
        (with_reducible refine (HSU.out _ _ hv10).mono ?_)
        rintro e W11 ⟨rfl, hB11⟩
        have hS11 := hHeld.next hB11
        have hO11 := own_after hB11 hO10
        go_wp2_with fail
        refine hK.out _ _ hS11 (fun hHeld => ?_)
        clear hK K
        try simp only [c49a11, Act.put, List.setIfInBounds_toArray, List.set_cons_zero, List.set_cons_succ]
        refine wpAnyH_ready (rs := [12]) (by kernel_rfl) (by simp) ?_
        refine AllReadyH.cons (o := c49a12) rfl (fun K hK => ?_) AllReadyH.nil
        rw [if_pos (by rfl)]
        refine wp_one30 (.tmp 28) (by rfl) D (by rfl) HDL.out ?_
        intro g12 W12 hg12 hlt12 hG12 hr12
        have hB12 : Below W11.heap.size W11 W12 := (Below.refl _ _).grown hG12 (Nat.le_refl _) (fun k e => by cases e)
        have hS12 := hHeld.next hB12
        have hO12 := own_after hB12 hO11
        refine hK.out _ _ hS12 (fun hHeld => ?_)
        clear hK K
        try simp only [c49a12, Act.put, List.setIfInBounds_toArray, List.set_cons_zero, List.set_cons_succ]
        refine wpAnyH_ready (rs := [13]) (by kernel_rfl) (by simp) ?_
        refine AllReadyH.cons (o := c49a13) rfl (fun K hK => ?_) AllReadyH.nil
        rw [if_pos (by rfl)]
        obtain ⟨v13, W13, hr13, hO13, hB13⟩ := digs_app hO12 hHeld.below.size g12 HDL.out HD1.out hr12 (by omega)
        refine wp_app_run (.tmp 17) (.tmp 29) 25 25 (by rfl) _ _ _ _ (by rfl) (by rfl) hr13 ?_
        have hS13 := hHeld.below.trans hB13
        refine hK.out _ _ hS13 (fun hHeld => ?_)
        clear hK K
        try simp only [c49a13, Act.put, List.setIfInBounds_toArray, List.set_cons_zero, List.set_cons_succ]
        refine wpAnyH_take (i := 14) (oi := c49a14) (v := ?_) rfl (by kernel_rfl) (by kernel_rfl) (by kernel_rfl) (fun _ _ _ h => h) (Or.inl ⟨by rfl, ?_⟩) hHeld ?_
        rotate_left
        · (intro w hSw; (try dsimp only at hSw); unfold c49a14; go_simp <;> with_reducible rfl)
        try simp only [c49a14, Act.put, List.setIfInBounds_toArray, List.set_cons_zero, List.set_cons_succ]
        refine wpAnyH_done (by kernel_rfl) ?_ _
        have HST := Lib.hid hHeld
        have HO13 := Lib.hid hO13
        clear hHeld hr13 hr12 hv10 hO10 hO11 hO12 hO13
        go_wp2
        go_roundw
        case rel => exact ⟨k + 1, by simp; omega, by omega, HST.out, Lib.hid (by rw [show 2 * (k + 1) = t + 2 by omega, HFD.out]; exact HO13.out)⟩
        case measure => simp [intOf]; omega
      · have hfd := nexts_one (l := l) (t := t) (by omega) (by rw [HN.out]; omega)
        obtain ⟨x, hx⟩ : ∃ x, l[t] = x := ⟨_, rfl⟩
        rw [hx] at hra la hfd
        have lca : (cells8 x).length = 32 := by rw [cells8_len, la]
        have hd1 := one_cells8 x
        obtain ⟨D, hD⟩ : ∃ c, cells8 x = c := ⟨_, rfl⟩
        rw [hD] at hra lca hd1 hfd
        have HZA : Hid ((Tryd.prog.info? 30).map (·.size) = some D.length) := by show _ = _; rw [lca]; exact Tryd.info30
        have HDL := Lib.hid lca
        have HD1 := Lib.hid hd1
        have HFD := Lib.hid hfd
        have AX : Hid (wr.rangeAt b (off + t * 32) D) := Lib.hid fun j v hv => (HB.out.cell (p := ⟨b, off + t * 32 + j, none⟩) hb).trans (hra j v hv)
        have g1 : decide ((t : Int) + 1 < (N : Int)) = false := by simp; omega
        have g2 : decide (t + 1 < N) = false := by simp; omega
        clear hra la hfd hx lca hd1 hD hr
        go_wp2_with (first
          | (refine wpList_load_mid rfl 30 (.tmp 34) (by rfl) b (off + t * 32) (by rfl) D _ AX.out Tryd.underlying30 rfl HZA.out ?_)
          | (refine wpList_plain rfl fun K hK => wp_one30 (.tmp 35) (by rfl) D (by rfl) HDL.out ?_
             intro g4 W4 hg4 hlt4 hG4 hr4
             have hB4 : Below wr.heap.size wr W4 := (Below.refl _ _).grown hG4 (Nat.le_refl _) (fun k e => by cases e)
             obtain ⟨v5, W5, hrun5, hO5, hB5⟩ := digs_app (own_after hB4 HO.out) (by have := HB.out.size; have := hB4.size; omega) g4 HDL.out HD1.out hr4 (by omega)
             have HR5 := Lib.hid hrun5
             have HO5 := Lib.hid hO5
             have HB5 := Lib.hid ((HB.out.trans (hB4.mono HB.out.size)).trans hB5)
             clear hrun5 hO5 hB5 hB4 hr4 hG4
             refine hK _ _ ?_)
          | (refine wpList_plain rfl fun K hK => wp_app_run (.tmp 31) (.tmp 36) 25 25 (by rfl) _ _ _ _ (by rfl) (by rfl) HR5.out (hK _ _ ?_)))
        go_roundw
        case rel => exact ⟨k + 1, by simp; omega, by omega, HB5.out, Lib.hid (by rw [show 2 * (k + 1) = t + 2 by omega, HFD.out]; exact HO5.out)⟩
        case measure => simp [intOf]; omega
    · have f1 : decide ((t : Int) < (N : Int)) = false := by simp; omega
      have f2 : decide (t < N) = false := by simp; omega
      have hfin := HO.out
      rw [List.take_of_length_le (by rw [HN.out]; omega)] at hfin
      have hkk : k = (nexts l).length := by rw [nexts_len, HN.out]; omega
      rw [hkk] at hfin
      have HF := Lib.hid hfin
      clear hkk
      clear hfin
      go_wp2
      go_returns
      exact ⟨_, rfl, HF.out, HB.out⟩
theorem rnext_any (w : World) (v : Value) (l : List (List UInt8)) (hv : Digs w w.heap.size v l) (hq : l.length ≤ 100000) :
    Calls Tryd.prog 49 #[v] w fun e w' => ∃ v', e = .returned v' ∧ Digs w' w'.heap.size v' (nexts l) ∧ Below w.heap.size w w' := by
  have h32 := hv.1
  refine (rnext_own w v l hv hq).mono ?_
  rintro e w' ⟨v', rfl, h1, h2⟩
  exact ⟨v', rfl, own_digs' h1 rfl (nexts_32 l h32), h2⟩
end Go.Proofs.YtfmngeemhfpeiaaDoor
