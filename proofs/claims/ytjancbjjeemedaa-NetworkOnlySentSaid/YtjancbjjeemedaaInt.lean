/- slices.Insert of one pair: the walk. -/
import Derived.Test.YtjancbjjeemedaaIns
namespace Go.Proofs.Ytjancbjjeemedaa
open Go.RowKit
def q40p0 : Oper := { dst := some 46, op := Go.Op.move (Go.Operand.tmp 9), type := 23, pos := "slices.go:154", after := #[], guard := none }
def q40p1 : Oper := { dst := some 47, op := Go.Op.move (Go.Operand.tmp 1), type := 3, pos := "slices.go:154", after := #[], guard := none }
def q40p2 : Oper := { dst := some 48, op := Go.Op.move (Go.Operand.tmp 7), type := 3, pos := "slices.go:154", after := #[], guard := none }
def q40p3 : Oper := { dst := some 49, op := Go.Op.binOp Go.BinOp.add 3 (Go.Operand.tmp 47) (Go.Operand.tmp 48) 3, type := 3, pos := "slices.go:154", after := #[{ on := 1, ground := Go.Ground.data }, { on := 2, ground := Go.Ground.data }], guard := none }
def q40p4 : Oper := { dst := some 50, op := Go.Op.slice 23 (Go.Operand.tmp 46) (some (Go.Operand.tmp 49)) none none, type := 23, pos := "slices.go:154", after := #[{ on := 0, ground := Go.Ground.data }, { on := 3, ground := Go.Ground.data }], guard := none }
def q40p5 : Oper := { dst := some 51, op := Go.Op.move (Go.Operand.tmp 0), type := 23, pos := "slices.go:154", after := #[], guard := none }
def q40p6 : Oper := { dst := some 52, op := Go.Op.move (Go.Operand.tmp 1), type := 3, pos := "slices.go:154", after := #[], guard := none }
def q40p7 : Oper := { dst := some 53, op := Go.Op.slice 23 (Go.Operand.tmp 51) (some (Go.Operand.tmp 52)) none none, type := 23, pos := "slices.go:154", after := #[{ on := 5, ground := Go.Ground.data }, { on := 6, ground := Go.Ground.data }], guard := none }
def q40p8 : Oper := { dst := some 54, op := Go.Op.call { callee := Go.Callee.builtin Go.Builtin.copy, args := #[Go.Operand.tmp 50, Go.Operand.tmp 53], argTypes := #[23, 23] }, type := 3, pos := "slices.go:154", after := #[{ on := 4, ground := Go.Ground.data }, { on := 7, ground := Go.Ground.data }], guard := none }
def q40q0 : Oper := { dst := some 69, op := Go.Op.move (Go.Operand.tmp 0), type := 23, pos := "slices.go:178", after := #[], guard := none }
def q40q1 : Oper := { dst := some 70, op := Go.Op.move (Go.Operand.tmp 1), type := 3, pos := "slices.go:178", after := #[], guard := none }
def q40q2 : Oper := { dst := some 71, op := Go.Op.move (Go.Operand.tmp 7), type := 3, pos := "slices.go:178", after := #[], guard := none }
def q40q3 : Oper := { dst := some 72, op := Go.Op.binOp Go.BinOp.add 3 (Go.Operand.tmp 70) (Go.Operand.tmp 71) 3, type := 3, pos := "slices.go:178", after := #[{ on := 1, ground := Go.Ground.data }, { on := 2, ground := Go.Ground.data }], guard := none }
def q40q4 : Oper := { dst := some 73, op := Go.Op.slice 23 (Go.Operand.tmp 69) (some (Go.Operand.tmp 72)) none none, type := 23, pos := "slices.go:178", after := #[{ on := 0, ground := Go.Ground.data }, { on := 3, ground := Go.Ground.data }], guard := none }
def q40q5 : Oper := { dst := some 74, op := Go.Op.move (Go.Operand.tmp 0), type := 23, pos := "slices.go:178", after := #[], guard := none }
def q40q6 : Oper := { dst := some 75, op := Go.Op.move (Go.Operand.tmp 1), type := 3, pos := "slices.go:178", after := #[], guard := none }
def q40q7 : Oper := { dst := some 76, op := Go.Op.slice 23 (Go.Operand.tmp 74) (some (Go.Operand.tmp 75)) none none, type := 23, pos := "slices.go:178", after := #[{ on := 5, ground := Go.Ground.data }, { on := 6, ground := Go.Ground.data }], guard := none }
def q40q8 : Oper := { dst := some 77, op := Go.Op.call { callee := Go.Callee.builtin Go.Builtin.copy, args := #[Go.Operand.tmp 73, Go.Operand.tmp 76], argTypes := #[23, 23] }, type := 3, pos := "slices.go:178", after := #[{ on := 4, ground := Go.Ground.data }, { on := 7, ground := Go.Ground.data }], guard := none }

/-- What is no cells lies as it lay. -/
def KK (W W' : World) : Prop := ∀ (k : Nat) (o : Obj), W.heap[k]? = some o → o.isCells = false → W'.heap[k]? = some o
theorem KK.trans {A B C : World} (h : KK A B) (k : KK B C) : KK A C := fun i o h1 h2 => k i o (h i o h1 h2) h2
theorem KK.of {A B : World} (h : Below A.heap.size A B) : KK A B := fun i _ h1 _ => (h.block i (Array.getElem?_eq_some_iff.1 h1).1).trans h1
theorem KK.row {W : World} {g : Nat} {C cs : Array Value} {t : TypeId} (h : W.heap[g]? = some (.cells C t (0, 0))) : KK W (W.setRow g cs) := fun i o h1 h2 => (setRow_other W g i _ (fun e => by subst e; rw [h] at h1; cases h1; cases h2)).trans h1
set_option maxRecDepth 100000 in
set_option maxHeartbeats 16000000 in
theorem insert_any (w : World) (B0 : Nat) (hB : B0 ≤ w.heap.size) (ra : Option Addr) (n rc : Nat) (l : List (Int × Int)) (h : RA B0 w ra n rc l) (i : Nat) (hi : i ≤ n) (hn : n ≤ 1000) (vb : Nat) (p : Int × Int)
    (hv : w.heap[vb]? = some (.cells #[.int .i64 p.1, .int .i64 p.2] 55 (0, 0))) (hne : ∀ g, ra = some ⟨g, 0, none⟩ → vb ≠ g) :
    Calls Try.prog 40 #[.slice ra n rc, .int .i64 (i : Int), .slice (some ⟨vb, 0, none⟩) 1 1] w fun e w' => ∃ a' c', e = .returned (.slice a' (n + 1) c') ∧ RA B0 w' a' (n + 1) c' (l.take i ++ p :: l.drop i) ∧ Below B0 w w' ∧ KK w w' := by
  have v0 : w.cell? ⟨vb, 0, none⟩ = some (.int .i64 p.1) := by rw [cell_of_row w vb 0 _ 55 (0, 0) hv]; rfl
  have v1 : w.cell? ⟨vb, 1, none⟩ = some (.int .i64 p.2) := by rw [cell_of_row w vb 1 _ 55 (0, 0) hv]; rfl
  obtain ⟨A1, hA1⟩ := prs_from_any ra n rc i hi w
  have hle := h.le
  have hlen := h.1
  have hmx := h.max
  unfold maxLen at hmx
  by_cases hin : i = n
  · subst hin
    obtain ⟨a', c', W', hrun, hR, hb, hkk⟩ := h.push hB vb 1 p v0 v1 (by omega)
    rw [List.take_of_length_le (by omega), List.drop_of_length_le (by omega)]
    have HR := Lib.hid hrun
    have HRF := Lib.hid hR
    have HBF := Lib.hid (And.intro hb (show KK w W' from hkk))
    clear h hB hv hne hrun hR hb hkk v0 v1
    go_enter Try.func40, Try.ntmps40
    go_wp2_with (at_builtin; refine wpList_append_run rfl (.tmp 23) (.tmp 24) 23 23 rfl _ _ _ _ (by rfl) (by rfl) HR.out ?_)
    go_ret
    exact ⟨_, _, rfl, HRF.out, HBF.out⟩
  · have hlt : i < n := by omega
    have d1 : ((i : Int) == (n : Int)) = false := by simp; omega
    have d1' : (i == n) = false := by simpa using hin
    have d1'' : ¬ (i : Int) = (n : Int) := by omega
    obtain ⟨g, rfl, hBg, hrow⟩ : ∃ g, ra = some ⟨g, 0, none⟩ ∧ B0 ≤ g ∧ RowA w g n rc l := by
      rcases h.2 with ⟨e, _⟩ | e
      · omega
      · exact e
    have hvg := hne g rfl
    obtain ⟨C, k1, k2, k3⟩ := hrow.obj
    have hCl : C.toList.length = rc * 2 := by rw [Array.length_toList, k2]
    have hD : (acells (l.drop i)).length = (n - i) * 2 := by rw [acells_len, List.length_drop, hlen]
    have hcells := hrow.cells
    have hcD : ∀ j v, (acells (l.drop i))[j]? = some v → w.cell? ⟨g, i * 2 + j, none⟩ = some v := fun j v hj => by
      rw [← acells_drop, List.getElem?_drop] at hj
      exact hcells _ _ hj
    have hll : (l.take i ++ p :: l.drop i).length = n + 1 := by rw [List.length_append, List.length_take, List.length_cons, List.length_drop]; omega
    have hkt : (acells l).take (i * 2) = C.toList.take (i * 2) := by rw [← k3, List.take_take, show min (i * 2) (n * 2) = i * 2 by omega]
    by_cases hroom : n + 1 ≤ rc
    · have d2 : decide ((rc : Int) < (n : Int) + 1) = false := by simp; omega
      have d3 : decide (rc < n + 1) = false := by simp; omega
      have hs60 := fun W => prs_to (some ⟨g, 0, none⟩) n rc ((n : Int) + 1) (n + 1) (by omega) hroom W
      have hs66 : ∀ W, (Instr.slice 23 (.slice (some ⟨g, 0, none⟩) (n + 1) rc) (some (.int .i64 ((i : Int) + 1))) none none).run Try.prog W = .ok (.slice (some ⟨g, (i + 1) * 2, none⟩) (n - i) (rc - (i + 1))) W := fun W => by
        have := prs_from g (n + 1) rc ((i : Int) + 1) (i + 1) (by omega) (by omega) (by omega) W
        rwa [Nat.add_sub_add_right] at this
      have hs76 := fun W => prs_from g (n + 1) rc (i : Int) i rfl (by omega) (by omega) W
      have hov : ∀ lb cb, (callFunc 50 #[.slice (some ⟨vb, 0, none⟩) 1 1, .slice (some ⟨g, (i + 1) * 2, none⟩) lb cb]).run Try.prog w = .ok (.value (.bool false)) w := fun lb cb => by
        rw [run_callFunc_extern Try.func50 (by kernel_rfl) (by kernel_rfl) (by kernel_rfl) (e := Extern.SlicesOverlaps.overlaps #[23, 23] #[4]) (by kernel_rfl),
          Lib.run_overlaps_apart w 23 4 55 Try.underlying23 2 Try.sizeOf55 ⟨vb, 0, none⟩ ⟨g, (i + 1) * 2, none⟩ 1 1 lb cb hvg 55 55 2 C.size (by simp [World.shape?, hv]) (by simp [World.shape?, k1]) (by omega) (by simp [World.frozen?, hv]) (by simp [World.frozen?, hv])]
        rfl
      have w60 : IntKind.i64.wrap ((n : Int) + 1) = (n : Int) + 1 := by rw [IntKind.wrap_i64]; omega
      have w66 : IntKind.i64.wrap ((i : Int) + 1) = (i : Int) + 1 := by rw [IntKind.wrap_i64]; omega
      have hd : w.drew.heap[g]? = some (.cells C 55 (0, 0)) := k1
      have hc1 := copy_pairs w.drew 3 g ((i + 1) * 2) (n - i) (rc - (i + 1)) ⟨g, i * 2, none⟩ (n + 1 - i) (rc - i) C (acells (l.drop i)) hd (n - i) (by show _ = min _ _; omega) hD
        (fun j v hj => by rw [Addr.add_mid]; exact hcD j v hj) (by rw [hD, k2]; omega) (acells_one _)
      obtain ⟨C1, hC1⟩ : ∃ C1, (C.toList.take ((i + 1) * 2) ++ acells (l.drop i) ++ C.toList.drop ((i + 1) * 2 + (acells (l.drop i)).length)) = C1 := ⟨_, rfl⟩
      rw [hC1] at hc1
      obtain ⟨WA, hWA⟩ : ∃ WA, w.drew.setRow g C1.toArray = WA := ⟨_, rfl⟩
      have hA1 : WA.heap[g]? = some (.cells C1.toArray 55 (0, 0)) := by rw [← hWA]; exact setRow_heap _ g C _ 55 _ hd
      have hvA : WA.heap[vb]? = some (.cells #[.int .i64 p.1, .int .i64 p.2] 55 (0, 0)) := by rw [← hWA]; exact (setRow_other _ g vb _ hvg).trans hv
      have hc2 := copy_pairs WA 3 g (i * 2) (n + 1 - i) (rc - i) ⟨vb, 0, none⟩ 1 1 C1.toArray [.int .i64 p.1, .int .i64 p.2] hA1 1 (by show _ = min _ _; omega) rfl
        (fun j v hj => by
          rw [Addr.add_mid, Nat.zero_add, cell_of_row WA vb j _ 55 (0, 0) hvA]
          simpa using hj) (by
          have : C1.length = rc * 2 := by rw [← hC1]; simp only [List.length_append, List.length_take, List.length_drop, hCl, hD]; omega
          rw [List.size_toArray, this]; simp; omega) (by intro u hu; simp at hu; rcases hu with rfl | rfl <;> rfl)
      have hRF : RA B0 (WA.setRow g (C1.toArray.toList.take (i * 2) ++ [Value.int .i64 p.1, .int .i64 p.2] ++ C1.toArray.toList.drop (i * 2 + [Value.int .i64 p.1, .int .i64 p.2].length)).toArray) (some ⟨g, 0, none⟩) (n + 1) rc (l.take i ++ p :: l.drop i) := by
        refine ⟨hll, .inr ⟨g, rfl, hBg, ⟨hll, hroom, hrow.max, _, setRow_heap _ g _ _ 55 _ hA1, ?_, ?_⟩⟩⟩
        · rw [← hC1]
          simp only [List.size_toArray, List.length_append, List.length_take, List.length_drop, hCl, hD, List.length_cons, List.length_nil]
          omega
        · show List.take ((n + 1) * 2) (_ ++ _ ++ _) = _
          have := seg_shift C.toList [Value.int .i64 p.1, .int .i64 p.2] (acells (l.drop i)) (i * 2) rfl (by rw [hCl, hD]; omega)
          rw [show i * 2 + 2 + (acells (l.drop i)).length = (n + 1) * 2 by rw [hD]; omega] at this
          rw [ins_eq, hkt, ← this, ← hC1]
          have e : (i + 1) * 2 = i * 2 + 2 := by omega
          simp only [e, show i * 2 + 2 + (acells (l.drop i)).length = (n + 1) * 2 by rw [hD]; omega]
      obtain ⟨WB, hWB⟩ : ∃ WB, WA.setRow g (C1.toArray.toList.take (i * 2) ++ [Value.int .i64 p.1, .int .i64 p.2] ++ C1.toArray.toList.drop (i * 2 + [Value.int .i64 p.1, .int .i64 p.2].length)).toArray = WB := ⟨_, rfl⟩
      have hBWB : Below B0 WA WB := by rw [← hWB]; exact setRow_below hBg _
      rw [hWB] at hc2 hRF
      have hBA : Below B0 w WA := by rw [← hWA]; exact ((Below.refl B0 w).drew).trans (setRow_below hBg _)
      have HC1 := Lib.hid hc1
      have HC2 := Lib.hid hc2
      have HRF := Lib.hid hRF
      have HBA := Lib.hid hBA
      have hkA : KK w WA := by rw [← hWA]; exact KK.row (W := w.drew) hd
      have hkB : KK WA WB := by rw [← hWB]; exact KK.row hA1
      have HBF := Lib.hid (And.intro (hBA.trans hBWB) (hkA.trans hkB))
      have HWA := Lib.hid hWA
      rw [hWA] at HC1
      have HB0 := Lib.hid (show Below B0 w w.drew from (Below.refl B0 w).drew)
      clear hkA hkB h hB hv hne hrow k1 k2 k3 hCl hD hcells hcD hll hkt hd hc1 hC1 hA1 hvA hc2 hRF hBA hWA hWB hBWB v0 v1
      go_enter Try.func40, Try.ntmps40
      go_wp2_with (simp only [hov])
      refine wp_region_held_drew (S := fun W => Below B0 w W) (by kernel_rfl) HB0.out (fun hHeld => ?_)
      refine wpAnyH_take (i := 0) (oi := q40q0) (v := ?_) rfl (by kernel_rfl) (by kernel_rfl) (by kernel_rfl) (fun _ _ _ h => h) (Or.inl ⟨by rfl, ?_⟩) hHeld ?_
      rotate_left
      · (intro w hSw; (try dsimp only at hSw); unfold q40q0; go_simp <;> with_reducible rfl)
      try simp only [q40q0, Act.put, List.setIfInBounds_toArray, List.set_cons_zero, List.set_cons_succ]
      refine wpAnyH_take (i := 1) (oi := q40q1) (v := ?_) rfl (by kernel_rfl) (by kernel_rfl) (by kernel_rfl) (fun _ _ _ h => h) (Or.inl ⟨by rfl, ?_⟩) hHeld ?_
      rotate_left
      · (intro w hSw; (try dsimp only at hSw); unfold q40q1; go_simp <;> with_reducible rfl)
      try simp only [q40q1, Act.put, List.setIfInBounds_toArray, List.set_cons_zero, List.set_cons_succ]
      refine wpAnyH_take (i := 2) (oi := q40q2) (v := ?_) rfl (by kernel_rfl) (by kernel_rfl) (by kernel_rfl) (fun _ _ _ h => h) (Or.inl ⟨by rfl, ?_⟩) hHeld ?_
      rotate_left
      · (intro w hSw; (try dsimp only at hSw); unfold q40q2; go_simp <;> with_reducible rfl)
      try simp only [q40q2, Act.put, List.setIfInBounds_toArray, List.set_cons_zero, List.set_cons_succ]
      refine wpAnyH_take (i := 3) (oi := q40q3) (v := ?_) rfl (by kernel_rfl) (by kernel_rfl) (by kernel_rfl) (fun _ _ _ h => h) (Or.inl ⟨by rfl, ?_⟩) hHeld ?_
      rotate_left
      · (intro w hSw; (try dsimp only at hSw); unfold q40q3; go_simp <;> with_reducible rfl)
      try simp only [q40q3, Act.put, List.setIfInBounds_toArray, List.set_cons_zero, List.set_cons_succ]
      refine wpAnyH_take (i := 4) (oi := q40q4) (v := ?_) rfl (by kernel_rfl) (by kernel_rfl) (by kernel_rfl) (fun _ _ _ h => h) (Or.inl ⟨by rfl, ?_⟩) hHeld ?_
      rotate_left
      · (intro w hSw; (try dsimp only at hSw); unfold q40q4; go_simp <;> with_reducible rfl)
      try simp only [q40q4, Act.put, List.setIfInBounds_toArray, List.set_cons_zero, List.set_cons_succ]
      refine wpAnyH_take (i := 5) (oi := q40q5) (v := ?_) rfl (by kernel_rfl) (by kernel_rfl) (by kernel_rfl) (fun _ _ _ h => h) (Or.inl ⟨by rfl, ?_⟩) hHeld ?_
      rotate_left
      · (intro w hSw; (try dsimp only at hSw); unfold q40q5; go_simp <;> with_reducible rfl)
      try simp only [q40q5, Act.put, List.setIfInBounds_toArray, List.set_cons_zero, List.set_cons_succ]
      refine wpAnyH_take (i := 6) (oi := q40q6) (v := ?_) rfl (by kernel_rfl) (by kernel_rfl) (by kernel_rfl) (fun _ _ _ h => h) (Or.inl ⟨by rfl, ?_⟩) hHeld ?_
      rotate_left
      · (intro w hSw; (try dsimp only at hSw); unfold q40q6; go_simp <;> with_reducible rfl)
      try simp only [q40q6, Act.put, List.setIfInBounds_toArray, List.set_cons_zero, List.set_cons_succ]
      refine wpAnyH_take (i := 7) (oi := q40q7) (v := ?_) rfl (by kernel_rfl) (by kernel_rfl) (by kernel_rfl) (fun _ _ _ h => h) (Or.inl ⟨by rfl, ?_⟩) hHeld ?_
      rotate_left
      · (intro w hSw; (try dsimp only at hSw); unfold q40q7; go_simp <;> with_reducible rfl)
      try simp only [q40q7, Act.put, List.setIfInBounds_toArray, List.set_cons_zero, List.set_cons_succ]
      refine wpAnyH_ready (rs := [8]) (by kernel_rfl) (by simp) ?_
      refine AllReadyH.cons (o := q40q8) rfl (fun K hK => ?_) AllReadyH.nil
      rw [if_pos (by rfl)]
      refine wp_copy_run2 (.tmp 73) (.tmp 76) 23 23 rfl _ _ (by rfl) (by rfl) HC1.out ?_
      refine hK.out _ _ HBA.out (fun hHeld => ?_)
      clear hK K
      try simp only [q40q8, Act.put, List.setIfInBounds_toArray, List.set_cons_zero, List.set_cons_succ]
      refine wpAnyH_done (by kernel_rfl) ?_ _
      clear hHeld
      have hcc := HC2.out
      go_wp2
      go_ret
      exact ⟨_, _, rfl, HRF.out, HBF.out⟩
    · have d2 : decide ((rc : Int) < (n : Int) + 1) = true := by simp; omega
      have d3 : decide (rc < n + 1) = true := by simp; omega
      have hrcn : n = rc := by omega
      subst hrcn
      clear hA1
      obtain ⟨i0, hi0, hz0, hz1, hz2⟩ := info_parts Try.info55
      have hold : (Builtin.firstCells i0.size i (.slice (some ⟨g, 0, none⟩) i n)).run Try.prog w.drew = .ok (acells (l.take i)).toArray w.drew := by
        rw [hz1]
        refine run_firstCells_some w.drew 2 i ⟨g, 0, none⟩ i n (acells (l.take i)) (by rw [acells_len, List.length_take]; omega) (fun j v hj => ?_)
        rw [Addr.add_mid, Nat.zero_add]
        rw [← acells_take, List.getElem?_take] at hj
        split at hj
        · exact hcells j v hj
        · cases hj
      have hrz := Lib.run_append_grow_zeros w 23 3 23 55 i0 _ .i64 .i64 Try.underlying23 Try.underlying3 hi0 hz0 (some ⟨g, 0, none⟩) i n (acells (l.take i)) hold (n + 1 - i) (by omega) (by rw [hz1]; omega) (by omega) (by omega) (by rw [hz2]; omega) (by rw [hz2]; exact growslice_fits (by omega) (by omega))
      rw [show i + (n + 1 - i) = n + 1 by omega] at hrz
      have hG := grownCap_ge w (n + 1) n 55
      have hGm := grownCap_le_maxLen w (n + 1) n 55 (by unfold maxLen; omega)
      obtain ⟨G, hGG⟩ : ∃ G, grownCap w (n + 1) n 55 = G := ⟨_, rfl⟩
      rw [hGG] at hrz hG hGm
      obtain ⟨R, hR⟩ : ∃ R : Array Value, (acells (l.take i)).toArray ++ Builtin.zeroCells (Value.agg #[.int .i64 0, .int .i64 0]).cells (n + 1 - i) ++ Builtin.zeroCells (Value.agg #[.int .i64 0, .int .i64 0]).cells (G - (n + 1)) = R := ⟨_, rfl⟩
      rw [hR] at hrz
      have hRs : R.size = G * 2 := by
        rw [← hR]
        simp only [Array.size_append, List.size_toArray, acells_len, List.length_take, Builtin.zeroCells, Array.size_map, Array.size_range]
        show min i l.length * 2 + (n + 1 - i) * 2 + (G - (n + 1)) * 2 = _
        omega
      have hRt : R.toList.take (i * 2) = acells (l.take i) := by
        rw [← hR]
        simp only [Array.toList_append, List.append_assoc]
        rw [List.take_append_of_le_length (by simp only [acells_len, List.length_take]; omega), List.take_of_length_le (by simp only [acells_len, List.length_take]; omega)]
      obtain ⟨W1, hW1⟩ : ∃ W1, w.drew.alloc (.cells R 55) = W1 := ⟨_, rfl⟩
      rw [hW1] at hrz
      have hb1 : Below w.heap.size w W1 := by rw [← hW1]; exact (Below.drew (Below.refl _ _)).alloc (Nat.le_refl _) _
      have hg1 : W1.heap[w.heap.size]? = some (.cells R 55 (0, 0)) := by rw [← hW1]; exact heap_alloc_new w.drew _
      have hvl : vb < w.heap.size := (Array.getElem?_eq_some_iff.1 hv).1
      have hgl := hrow.lt
      have hvA : W1.heap[vb]? = some (.cells #[.int .i64 p.1, .int .i64 p.2] 55 (0, 0)) := by rw [hb1.block vb hvl]; exact hv
      have w39 : IntKind.i64.wrap ((n : Int) + 1 - (i : Int)) = ((n + 1 - i : Nat) : Int) := by rw [IntKind.wrap_i64]; omega
      have e39 : (n : Int) + 1 - (i : Int) = ((n + 1 - i : Nat) : Int) := by omega
      have w60 : IntKind.i64.wrap ((n : Int) + 1) = (n : Int) + 1 := by rw [IntKind.wrap_i64]; omega
      have w66 : IntKind.i64.wrap ((i : Int) + 1) = (i : Int) + 1 := by rw [IntKind.wrap_i64]; omega
      obtain ⟨gn, hgn⟩ : ∃ x, w.heap.size = x := ⟨_, rfl⟩
      rw [hgn] at hrz hg1
      have hs34 := fun W => prs_to (some ⟨g, 0, none⟩) n n (i : Int) i rfl (by omega) W
      have hs43 := fun W => prs_from gn (n + 1) G (i : Int) i rfl (by omega) (by omega) W
      have hs50 : ∀ W, (Instr.slice 23 (.slice (some ⟨gn, 0, none⟩) (n + 1) G) (some (.int .i64 ((i : Int) + 1))) none none).run Try.prog W = .ok (.slice (some ⟨gn, (i + 1) * 2, none⟩) (n - i) (G - (i + 1))) W := fun W => by
        have := prs_from gn (n + 1) G ((i : Int) + 1) (i + 1) (by omega) (by omega) (by omega) W
        rwa [Nat.add_sub_add_right] at this
      have hs53 := fun W => prs_from g n n (i : Int) i rfl (by omega) (by omega) W
      have hc1 := copy_pairs W1 3 gn (i * 2) (n + 1 - i) (G - i) ⟨vb, 0, none⟩ 1 1 R [.int .i64 p.1, .int .i64 p.2] hg1 1 (by show _ = min _ _; omega) rfl
        (fun j v hj => by
          rw [Addr.add_mid, Nat.zero_add, cell_of_row W1 vb j _ 55 (0, 0) hvA]
          simpa using hj) (by rw [hRs]; simp; omega) (by intro u hu; simp at hu; rcases hu with rfl | rfl <;> rfl)
      obtain ⟨C1, hC1⟩ : ∃ C1, (R.toList.take (i * 2) ++ [Value.int .i64 p.1, .int .i64 p.2] ++ R.toList.drop (i * 2 + [Value.int .i64 p.1, .int .i64 p.2].length)) = C1 := ⟨_, rfl⟩
      rw [hC1] at hc1
      obtain ⟨W2, hW2⟩ : ∃ W2, W1.setRow gn C1.toArray = W2 := ⟨_, rfl⟩
      rw [hW2] at hc1
      have hg2 : W2.heap[gn]? = some (.cells C1.toArray 55 (0, 0)) := by rw [← hW2]; exact setRow_heap _ gn R _ 55 _ hg1
      have hb2 : Below gn W1 W2 := by rw [← hW2]; exact setRow_below (Nat.le_refl _) _
      have hcl2 : ∀ o v, w.cell? ⟨g, o, none⟩ = some v → W2.drew.cell? ⟨g, o, none⟩ = some v := fun o v ho => by
        have h1 := (hb1.cell (p := ⟨g, o, none⟩) hgl).trans ho
        exact (hb2.cell (p := ⟨g, o, none⟩) (by rw [← hgn]; exact hgl)).trans h1
      have hd2 : W2.drew.heap[gn]? = some (.cells C1.toArray 55 (0, 0)) := hg2
      have hC1l : C1.length = G * 2 := by rw [← hC1]; simp only [List.length_append, List.length_take, List.length_drop, Array.length_toList, hRs, List.length_cons, List.length_nil]; omega
      have hc2 := copy_pairs W2.drew 3 gn ((i + 1) * 2) (n - i) (G - (i + 1)) ⟨g, i * 2, none⟩ (n - i) (n - i) C1.toArray (acells (l.drop i)) hd2 (n - i) (by show _ = min _ _; omega) hD
        (fun j v hj => by rw [Addr.add_mid]; exact hcl2 _ _ (hcD j v hj)) (by rw [hD, List.size_toArray, hC1l]; omega) (acells_one _)
      have hRF : RA B0 (W2.drew.setRow gn (C1.toArray.toList.take ((i + 1) * 2) ++ acells (l.drop i) ++ C1.toArray.toList.drop ((i + 1) * 2 + (acells (l.drop i)).length)).toArray) (some ⟨gn, 0, none⟩) (n + 1) G (l.take i ++ p :: l.drop i) := by
        refine ⟨hll, .inr ⟨gn, rfl, by omega, ⟨hll, hG, hGm, _, setRow_heap _ gn _ _ 55 _ hd2, ?_, ?_⟩⟩⟩
        · simp only [List.size_toArray, List.length_append, List.length_take, List.length_drop, hD, hC1l]
          omega
        · show List.take ((n + 1) * 2) (_ ++ _ ++ _) = _
          have := seg_new R.toList [Value.int .i64 p.1, .int .i64 p.2] (acells (l.drop i)) (i * 2) rfl (by rw [show R.toList.length = G * 2 from by rw [Array.length_toList]; exact hRs, hD]; omega)
          rw [show i * 2 + 2 + (acells (l.drop i)).length = (n + 1) * 2 by rw [hD]; omega] at this
          rw [ins_eq, acells_take, ← hRt, ← this, ← hC1]
          have e : (i + 1) * 2 = i * 2 + 2 := by omega
          simp only [e, show i * 2 + 2 + (acells (l.drop i)).length = (n + 1) * 2 by rw [hD]; omega]
      have hB0 : B0 ≤ gn := by omega
      have hbW2 : Below B0 w W2.drew := ((hb1.mono hB).trans (hb2.mono hB0)).drew
      have HR := Lib.hid hrz
      have HC1 := Lib.hid hc1
      have HC2 := Lib.hid hc2
      have HRF := Lib.hid hRF
      have HB0 := Lib.hid hbW2
      have hk1 : KK w W1 := KK.of hb1
      have hk2 : KK W1 W2 := by rw [← hW2]; exact KK.row hg1
      obtain ⟨Z, hZ⟩ : ∃ Z, (C1.toArray.toList.take ((i + 1) * 2) ++ acells (l.drop i) ++ C1.toArray.toList.drop ((i + 1) * 2 + (acells (l.drop i)).length)).toArray = Z := ⟨_, rfl⟩
      have HBF := Lib.hid (And.intro (hbW2.trans (setRow_below hB0 Z)) ((hk1.trans hk2).trans (KK.row (W := W2.drew) (cs := Z) hd2)))
      rw [hZ] at HC2 HRF
      clear hZ hk1 hk2 h hB hv hne hrow k1 k2 k3 hCl hD hcells hcD hll hkt v0 v1 hold hi0 hz0 hz1 hz2 hrz hGG hR hRs hRt hW1 hb1 hg1 hvA hc1 hC1 hW2 hg2 hb2 hcl2 hd2 hC1l hc2 hRF hbW2 hgn
      go_enter Try.func40, Try.ntmps40
      have hcc := HC1.out
      go_wp2_with (at_builtin; refine wpList_append_run rfl (.tmp 34) (.tmp 39) 23 3 rfl _ _ _ _ (by rfl) (by rfl) HR.out ?_)
      refine wp_region_held_drew (S := fun W => Below B0 w W) (by kernel_rfl) HB0.out (fun hHeld => ?_)
      refine wpAnyH_take (i := 0) (oi := q40p0) (v := ?_) rfl (by kernel_rfl) (by kernel_rfl) (by kernel_rfl) (fun _ _ _ h => h) (Or.inl ⟨by rfl, ?_⟩) hHeld ?_
      rotate_left
      · (intro w hSw; (try dsimp only at hSw); unfold q40p0; go_simp <;> with_reducible rfl)
      try simp only [q40p0, Act.put, List.setIfInBounds_toArray, List.set_cons_zero, List.set_cons_succ]
      refine wpAnyH_take (i := 1) (oi := q40p1) (v := ?_) rfl (by kernel_rfl) (by kernel_rfl) (by kernel_rfl) (fun _ _ _ h => h) (Or.inl ⟨by rfl, ?_⟩) hHeld ?_
      rotate_left
      · (intro w hSw; (try dsimp only at hSw); unfold q40p1; go_simp <;> with_reducible rfl)
      try simp only [q40p1, Act.put, List.setIfInBounds_toArray, List.set_cons_zero, List.set_cons_succ]
      refine wpAnyH_take (i := 2) (oi := q40p2) (v := ?_) rfl (by kernel_rfl) (by kernel_rfl) (by kernel_rfl) (fun _ _ _ h => h) (Or.inl ⟨by rfl, ?_⟩) hHeld ?_
      rotate_left
      · (intro w hSw; (try dsimp only at hSw); unfold q40p2; go_simp <;> with_reducible rfl)
      try simp only [q40p2, Act.put, List.setIfInBounds_toArray, List.set_cons_zero, List.set_cons_succ]
      refine wpAnyH_take (i := 3) (oi := q40p3) (v := ?_) rfl (by kernel_rfl) (by kernel_rfl) (by kernel_rfl) (fun _ _ _ h => h) (Or.inl ⟨by rfl, ?_⟩) hHeld ?_
      rotate_left
      · (intro w hSw; (try dsimp only at hSw); unfold q40p3; go_simp <;> with_reducible rfl)
      try simp only [q40p3, Act.put, List.setIfInBounds_toArray, List.set_cons_zero, List.set_cons_succ]
      refine wpAnyH_take (i := 4) (oi := q40p4) (v := ?_) rfl (by kernel_rfl) (by kernel_rfl) (by kernel_rfl) (fun _ _ _ h => h) (Or.inl ⟨by rfl, ?_⟩) hHeld ?_
      rotate_left
      · (intro w hSw; (try dsimp only at hSw); unfold q40p4; go_simp <;> with_reducible rfl)
      try simp only [q40p4, Act.put, List.setIfInBounds_toArray, List.set_cons_zero, List.set_cons_succ]
      refine wpAnyH_take (i := 5) (oi := q40p5) (v := ?_) rfl (by kernel_rfl) (by kernel_rfl) (by kernel_rfl) (fun _ _ _ h => h) (Or.inl ⟨by rfl, ?_⟩) hHeld ?_
      rotate_left
      · (intro w hSw; (try dsimp only at hSw); unfold q40p5; go_simp <;> with_reducible rfl)
      try simp only [q40p5, Act.put, List.setIfInBounds_toArray, List.set_cons_zero, List.set_cons_succ]
      refine wpAnyH_take (i := 6) (oi := q40p6) (v := ?_) rfl (by kernel_rfl) (by kernel_rfl) (by kernel_rfl) (fun _ _ _ h => h) (Or.inl ⟨by rfl, ?_⟩) hHeld ?_
      rotate_left
      · (intro w hSw; (try dsimp only at hSw); unfold q40p6; go_simp <;> with_reducible rfl)
      try simp only [q40p6, Act.put, List.setIfInBounds_toArray, List.set_cons_zero, List.set_cons_succ]
      refine wpAnyH_take (i := 7) (oi := q40p7) (v := ?_) rfl (by kernel_rfl) (by kernel_rfl) (by kernel_rfl) (fun _ _ _ h => h) (Or.inl ⟨by rfl, ?_⟩) hHeld ?_
      rotate_left
      · (intro w hSw; (try dsimp only at hSw); unfold q40p7; go_simp <;> with_reducible rfl)
      try simp only [q40p7, Act.put, List.setIfInBounds_toArray, List.set_cons_zero, List.set_cons_succ]
      refine wpAnyH_ready (rs := [8]) (by kernel_rfl) (by simp) ?_
      refine AllReadyH.cons (o := q40p8) rfl (fun K hK => ?_) AllReadyH.nil
      rw [if_pos (by rfl)]
      refine wp_copy_run2 (.tmp 50) (.tmp 53) 23 23 rfl _ _ (by rfl) (by rfl) HC2.out ?_
      refine hK.out _ _ HBF.out.1 (fun hHeld => ?_)
      clear hK K
      try simp only [q40p8, Act.put, List.setIfInBounds_toArray, List.set_cons_zero, List.set_cons_succ]
      refine wpAnyH_done (by kernel_rfl) ?_ _
      clear hHeld
      go_wp2
      go_ret
      exact ⟨_, _, rfl, HRF.out, HBF.out⟩

end Go.Proofs.Ytjancbjjeemedaa
