/- The law FontsSpec, walked. -/
import Derived.Test.YtljgcpfibamdpaaDoorRwf
import Derived.Test.YtljgcpfibamdpaaDoorFsn
namespace Go.Proofs.YtljgcpfibamdpaaDoor
open Go.RowKit

def l4_0 : Oper := { dst := some 27, op := Go.Op.load 36 (Go.Operand.tmp 2), type := 36, pos := "law.go:43", after := #[], guard := none }
def l4_1 : Oper := { dst := some 28, op := Go.Op.call { callee := Go.Callee.value (Go.Operand.func 18), args := #[Go.Operand.tmp 27], argTypes := #[36] }, type := 23, pos := "law.go:43", after := #[{ on := 0, ground := Go.Ground.data }], guard := none }
def l4_2 : Oper := { dst := some 29, op := Go.Op.load 36 (Go.Operand.tmp 2), type := 36, pos := "law.go:43", after := #[], guard := none }
def l4_3 : Oper := { dst := some 30, op := Go.Op.call { callee := Go.Callee.value (Go.Operand.func 19), args := #[Go.Operand.tmp 29], argTypes := #[36] }, type := 23, pos := "law.go:43", after := #[{ on := 2, ground := Go.Ground.data }, { on := 1, ground := Go.Ground.chain }], guard := none }
def l4_4 : Oper := { dst := some 31, op := Go.Op.binOp Go.BinOp.eql 23 (Go.Operand.tmp 28) (Go.Operand.tmp 30) 23, type := 4, pos := "law.go:43", after := #[{ on := 1, ground := Go.Ground.data }, { on := 3, ground := Go.Ground.data }], guard := none }
def l4_5 : Oper := { dst := some 32, op := Go.Op.move (Go.Operand.tmp 31), type := 4, pos := "law.go:43", after := #[{ on := 4, ground := Go.Ground.data }, { on := 3, ground := Go.Ground.chain }], guard := none }
def l4_6 : Oper := { dst := some 33, op := Go.Op.move (Go.Operand.tmp 5), type := 3, pos := "law.go:43", after := #[{ on := 5, ground := Go.Ground.guard }], guard := some (5, true) }
def l4_7 : Oper := { dst := some 34, op := Go.Op.move (Go.Operand.tmp 7), type := 3, pos := "law.go:43", after := #[{ on := 5, ground := Go.Ground.guard }], guard := some (5, true) }
def l4_8 : Oper := { dst := some 35, op := Go.Op.binOp Go.BinOp.eql 3 (Go.Operand.tmp 33) (Go.Operand.tmp 34) 3, type := 4, pos := "law.go:43", after := #[{ on := 6, ground := Go.Ground.data }, { on := 7, ground := Go.Ground.data }, { on := 5, ground := Go.Ground.guard }], guard := some (5, true) }
def l4_9 : Oper := { dst := some 36, op := Go.Op.pick (Go.Operand.tmp 32) (Go.Operand.tmp 35) (Go.Operand.const (Go.Value.bool false)), type := 4, pos := "law.go:43", after := #[{ on := 5, ground := Go.Ground.data }, { on := 8, ground := Go.Ground.data }], guard := none }
def l4_10 : Oper := { dst := some 37, op := Go.Op.move (Go.Operand.tmp 36), type := 4, pos := "law.go:43", after := #[{ on := 9, ground := Go.Ground.data }, { on := 5, ground := Go.Ground.chain }], guard := none }
def l4_11 : Oper := { dst := some 38, op := Go.Op.move (Go.Operand.tmp 6), type := 23, pos := "law.go:43", after := #[{ on := 10, ground := Go.Ground.guard }], guard := some (10, true) }
def l4_12 : Oper := { dst := some 39, op := Go.Op.move (Go.Operand.tmp 8), type := 23, pos := "law.go:43", after := #[{ on := 10, ground := Go.Ground.guard }], guard := some (10, true) }
def l4_13 : Oper := { dst := some 40, op := Go.Op.binOp Go.BinOp.eql 23 (Go.Operand.tmp 38) (Go.Operand.tmp 39) 23, type := 4, pos := "law.go:43", after := #[{ on := 11, ground := Go.Ground.data }, { on := 12, ground := Go.Ground.data }, { on := 10, ground := Go.Ground.guard }], guard := some (10, true) }
def l4_14 : Oper := { dst := some 41, op := Go.Op.pick (Go.Operand.tmp 37) (Go.Operand.tmp 40) (Go.Operand.const (Go.Value.bool false)), type := 4, pos := "law.go:43", after := #[{ on := 10, ground := Go.Ground.data }, { on := 13, ground := Go.Ground.data }], guard := none }
def l4_15 : Oper := { dst := some 4, op := Go.Op.assign (Go.Operand.tmp 41), type := 4, pos := "law.go:43", after := #[{ on := 14, ground := Go.Ground.data }, { on := 10, ground := Go.Ground.chain }, { on := 0, ground := Go.Ground.phase }, { on := 1, ground := Go.Ground.phase }, { on := 2, ground := Go.Ground.phase }, { on := 3, ground := Go.Ground.phase }, { on := 4, ground := Go.Ground.phase }, { on := 5, ground := Go.Ground.phase }, { on := 6, ground := Go.Ground.phase }, { on := 7, ground := Go.Ground.phase }, { on := 8, ground := Go.Ground.phase }, { on := 9, ground := Go.Ground.phase }, { on := 10, ground := Go.Ground.phase }, { on := 11, ground := Go.Ground.phase }, { on := 12, ground := Go.Ground.phase }, { on := 13, ground := Go.Ground.phase }, { on := 14, ground := Go.Ground.phase }], guard := none }

set_option maxRecDepth 100000 in
set_option maxHeartbeats 8000000 in
theorem lawSpec (w : World) (v : Value) (f : Fo) (h : FAt w w.heap.size v f) (s : ByteArray) (hT : UTab w) : Calls Tryd.prog 4 #[v, .string s] w fun e w' => e = .returned (.bool true) ∧ Below w.heap.size w w' := by
  obtain ⟨bs, rfl⟩ : ∃ bs, s = str bs := ⟨s.data.toList, (str_of s).symm⟩
  have HSN := Lib.hid (fun W (hW : Below w.heap.size w W) => sane_any W (hT.below hW))
  have HFE := Lib.hid (fun W (hW : Below w.heap.size w W) => rfew_any W v f (h.from hW hW.size) bs)
  have HWD := Lib.hid (fun W (hW : Below w.heap.size w W) => fwidth_text W v f (h.from hW hW.size) bs (hT.below hW))
  have HRW := Lib.hid (fun W (hW : Below w.heap.size w W) => rwidth_any W v f (h.from hW hW.size) bs)
  have HC := Lib.hid (fun W (hW : Below w.heap.size w W) => fcheck_any W v f (h.from hW hW.size))
  have HRC := Lib.hid (fun W (hW : Below w.heap.size w W) => rcheck_any W v f (h.from hW hW.size))
  obtain ⟨ga, gc, ka, kc, rfl, -, -, -, -, -, -, -⟩ := h.open
  obtain ⟨q, hq⟩ : ∃ b, fewB f.gs.length f.ks.length bs.length = b := ⟨_, rfl⟩
  obtain ⟨x, hx⟩ : ∃ b, fwW f bs = b := ⟨_, rfl⟩
  obtain ⟨y, hy⟩ : ∃ b, frE f bs = b := ⟨_, rfl⟩
  obtain ⟨z, hz⟩ : ∃ b, f.err = b := ⟨_, rfl⟩
  simp only [hq] at HFE
  simp only [hx, hy] at HWD HRW
  simp only [hz] at HC HRC
  obtain ⟨G, hGe⟩ : ∃ G, f.gs.length = G := ⟨_, rfl⟩
  obtain ⟨K, hKe⟩ : ∃ G, f.ks.length = G := ⟨_, rfl⟩
  obtain ⟨o, hoe⟩ : ∃ G, f.o = G := ⟨_, rfl⟩
  obtain ⟨s, hs⟩ : ∃ s, str bs = s := ⟨_, rfl⟩
  rw [hGe, hKe, hoe] at HFE HWD HRW HC HRC
  simp only [hs] at HFE HWD HRW ⊢
  rw [hGe, hKe, hoe]
  clear h hT hq hx hy hz hGe hKe hoe hs
  go_enter Tryd.func4, Tryd.ntmps4
  go_wp2_with fail
  have hA := Arr.new w #[.slice ga G gc, .int .i64 o, .slice ka K kc] 36
  have hB1 : Below w.heap.size w (w.alloc (.cells #[.slice ga G gc, .int .i64 o, .slice ka K kc] 36)) := (Below.refl _ _).alloc (Nat.le_refl _) _
  obtain ⟨w1, hw1⟩ : ∃ W, w.alloc (.cells #[.slice ga G gc, .int .i64 o, .slice ka K kc] 36) = W := ⟨_, rfl⟩
  rw [hw1] at hA hB1 ⊢
  obtain ⟨g, hg⟩ : ∃ g, w.heap.size = g := ⟨_, rfl⟩
  have HGW := Lib.hid hg
  rw [hg] at hA ⊢
  have HA1 := Lib.hid hA
  have HB1 := Lib.hid hB1
  clear hw1 hA hB1 hg
  refine (HSN.out w1 HB1.out).mono ?_
  rintro e w2 ⟨rfl, hb⟩
  have HA2 := Lib.hid (HA1.out.below hb (HA1.out.lt (by simp)))
  have HB2 := Lib.hid (HB1.out.trans (hb.mono HB1.out.size))
  clear hb
  have c0 := HA2.out.cell (i := 0) rfl
  have c1 := HA2.out.cell (i := 1) rfl
  have c2 := HA2.out.cell (i := 2) rfl
  go_wp2_with fail
  refine (HFE.out w2 HB2.out).mono ?_
  rintro e w3 ⟨rfl, hb⟩
  have HA3 := Lib.hid (HA2.out.below hb (HA2.out.lt (by simp)))
  have HB3 := Lib.hid (HB2.out.trans (hb.mono HB2.out.size))
  clear hb c0 c1 c2
  cases q with
  | false =>
    go_wp2
    go_ret
    exact ⟨rfl, HB3.out⟩
  | true =>
    clear HSN
    have c0 := HA3.out.cell (i := 0) rfl
    have c1 := HA3.out.cell (i := 1) rfl
    have c2 := HA3.out.cell (i := 2) rfl
    go_wp2_with fail
    refine (HWD.out w3 HB3.out).mono ?_
    rintro e w4 ⟨rfl, hb⟩
    have HA4 := Lib.hid (HA3.out.below hb (HA3.out.lt (by simp)))
    have HB4 := Lib.hid (HB3.out.trans (hb.mono HB3.out.size))
    clear hb c0 c1 c2
    have c0 := HA4.out.cell (i := 0) rfl
    have c1 := HA4.out.cell (i := 1) rfl
    have c2 := HA4.out.cell (i := 2) rfl
    go_wp2_with fail
    refine (HRW.out w4 HB4.out).mono ?_
    rintro e w5 ⟨rfl, hb⟩
    have HA5 := Lib.hid (HA4.out.below hb (HA4.out.lt (by simp)))
    have HB5 := Lib.hid (HB4.out.trans (hb.mono HB4.out.size))
    clear hb c0 c1 c2
    have c0 := HA5.out.cell (i := 0) rfl
    have c1 := HA5.out.cell (i := 1) rfl
    have c2 := HA5.out.cell (i := 2) rfl
    have HLC : Hid (g < w5.heap.size) := Lib.hid (World.block_lt_of_cell? _ _ c0)
    go_wp2_with fail
    refine wp_region_ends (fun W => Kept w5 W) (by kernel_rfl) (Kept.drew (Kept.refl w5)) (fun KR hKR hHeld => ?_)
    refine wpAnyH_take (i := 0) (oi := l4_0) (v := ?_) rfl (by kernel_rfl) (by kernel_rfl) (by kernel_rfl) (fun _ _ _ h => h) (Or.inl ⟨by rfl, ?_⟩) hHeld ?_
    rotate_left
    · (intro w hSw; (try dsimp only at hSw); have q0 := (hSw.cell HLC.out).trans c0; have q1 := (hSw.cell HLC.out).trans c1; have q2 := (hSw.cell HLC.out).trans c2; unfold l4_0; go_simp <;> with_reducible rfl)
    try simp only [l4_0, Act.put, List.setIfInBounds_toArray, List.set_cons_zero, List.set_cons_succ]
    refine wpAnyH_take (i := 2) (oi := l4_2) (v := ?_) rfl (by kernel_rfl) (by kernel_rfl) (by kernel_rfl) (fun _ _ _ h => h) (Or.inl ⟨by rfl, ?_⟩) hHeld ?_
    rotate_left
    · (intro w hSw; (try dsimp only at hSw); have q0 := (hSw.cell HLC.out).trans c0; have q1 := (hSw.cell HLC.out).trans c1; have q2 := (hSw.cell HLC.out).trans c2; unfold l4_2; go_simp <;> with_reducible rfl)
    try simp only [l4_2, Act.put, List.setIfInBounds_toArray, List.set_cons_zero, List.set_cons_succ]
    refine wpAnyH_ready (rs := [1]) (by kernel_rfl) (by simp) ?_
    refine AllReadyH.cons (o := l4_1) rfl (fun K hK => ?_) AllReadyH.nil
    rw [if_pos (by rfl)]
    unfold l4_1
    go_simp
    (with_reducible refine (HC.out _ (HB5.out.trans (hHeld.below.mono HB5.out.size))).mono ?_)
    rintro e w6 ⟨rfl, hb6⟩
    have hS := hHeld.next hb6
    go_wp2_with fail
    refine hK.out _ _ hS (fun hHeld => ?_)
    clear hK K
    try simp only [l4_1, Act.put, List.setIfInBounds_toArray, List.set_cons_zero, List.set_cons_succ]
    refine wpAnyH_ready (rs := [3]) (by kernel_rfl) (by simp) ?_
    refine AllReadyH.cons (o := l4_3) rfl (fun K hK => ?_) AllReadyH.nil
    rw [if_pos (by rfl)]
    unfold l4_3
    go_simp
    (with_reducible refine (HRC.out _ (HB5.out.trans (hHeld.below.mono HB5.out.size))).mono ?_)
    rintro e w7 ⟨rfl, hb7⟩
    have hS := hHeld.next hb7
    go_wp2_with fail
    refine hK.out _ _ hS (fun hHeld => ?_)
    clear hK K
    try simp only [l4_3, Act.put, List.setIfInBounds_toArray, List.set_cons_zero, List.set_cons_succ]
    refine wpAnyH_take (i := 4) (oi := l4_4) (v := ?_) rfl (by kernel_rfl) (by kernel_rfl) (by kernel_rfl) (fun _ _ _ h => h) (Or.inl ⟨by rfl, ?_⟩) hHeld ?_
    rotate_left
    · (intro w hSw; (try dsimp only at hSw); unfold l4_4; go_simp <;> with_reducible rfl)
    try simp only [l4_4, Act.put, List.setIfInBounds_toArray, List.set_cons_zero, List.set_cons_succ]
    refine wpAnyH_take (i := 5) (oi := l4_5) (v := ?_) rfl (by kernel_rfl) (by kernel_rfl) (by kernel_rfl) (fun _ _ _ h => h) (Or.inl ⟨by rfl, ?_⟩) hHeld ?_
    rotate_left
    · (intro w hSw; (try dsimp only at hSw); unfold l4_5; go_simp <;> with_reducible rfl)
    try simp only [l4_5, Act.put, List.setIfInBounds_toArray, List.set_cons_zero, List.set_cons_succ]
    refine wpAnyH_take (i := 6) (oi := l4_6) (v := ?_) rfl (by kernel_rfl) (by kernel_rfl) (by kernel_rfl) (fun _ _ _ h => h) (Or.inl ⟨by rfl, ?_⟩) hHeld ?_
    rotate_left
    · (intro w hSw; (try dsimp only at hSw); unfold l4_6; go_simp <;> with_reducible rfl)
    try simp only [l4_6, Act.put, List.setIfInBounds_toArray, List.set_cons_zero, List.set_cons_succ]
    refine wpAnyH_take (i := 7) (oi := l4_7) (v := ?_) rfl (by kernel_rfl) (by kernel_rfl) (by kernel_rfl) (fun _ _ _ h => h) (Or.inl ⟨by rfl, ?_⟩) hHeld ?_
    rotate_left
    · (intro w hSw; (try dsimp only at hSw); unfold l4_7; go_simp <;> with_reducible rfl)
    try simp only [l4_7, Act.put, List.setIfInBounds_toArray, List.set_cons_zero, List.set_cons_succ]
    refine wpAnyH_take (i := 8) (oi := l4_8) (v := ?_) rfl (by kernel_rfl) (by kernel_rfl) (by kernel_rfl) (fun _ _ _ h => h) (Or.inl ⟨by rfl, ?_⟩) hHeld ?_
    rotate_left
    · (intro w hSw; (try dsimp only at hSw); unfold l4_8; go_simp <;> with_reducible rfl)
    try simp only [l4_8, Act.put, List.setIfInBounds_toArray, List.set_cons_zero, List.set_cons_succ]
    refine wpAnyH_take (i := 9) (oi := l4_9) (v := ?_) rfl (by kernel_rfl) (by kernel_rfl) (by kernel_rfl) (fun _ _ _ h => h) (Or.inl ⟨by rfl, ?_⟩) hHeld ?_
    rotate_left
    · (intro w hSw; (try dsimp only at hSw); unfold l4_9; go_simp <;> with_reducible rfl)
    try simp only [l4_9, Act.put, List.setIfInBounds_toArray, List.set_cons_zero, List.set_cons_succ]
    refine wpAnyH_take (i := 10) (oi := l4_10) (v := ?_) rfl (by kernel_rfl) (by kernel_rfl) (by kernel_rfl) (fun _ _ _ h => h) (Or.inl ⟨by rfl, ?_⟩) hHeld ?_
    rotate_left
    · (intro w hSw; (try dsimp only at hSw); unfold l4_10; go_simp <;> with_reducible rfl)
    try simp only [l4_10, Act.put, List.setIfInBounds_toArray, List.set_cons_zero, List.set_cons_succ]
    refine wpAnyH_take (i := 11) (oi := l4_11) (v := ?_) rfl (by kernel_rfl) (by kernel_rfl) (by kernel_rfl) (fun _ _ _ h => h) (Or.inl ⟨by rfl, ?_⟩) hHeld ?_
    rotate_left
    · (intro w hSw; (try dsimp only at hSw); unfold l4_11; go_simp <;> with_reducible rfl)
    try simp only [l4_11, Act.put, List.setIfInBounds_toArray, List.set_cons_zero, List.set_cons_succ]
    refine wpAnyH_take (i := 12) (oi := l4_12) (v := ?_) rfl (by kernel_rfl) (by kernel_rfl) (by kernel_rfl) (fun _ _ _ h => h) (Or.inl ⟨by rfl, ?_⟩) hHeld ?_
    rotate_left
    · (intro w hSw; (try dsimp only at hSw); unfold l4_12; go_simp <;> with_reducible rfl)
    try simp only [l4_12, Act.put, List.setIfInBounds_toArray, List.set_cons_zero, List.set_cons_succ]
    refine wpAnyH_take (i := 13) (oi := l4_13) (v := ?_) rfl (by kernel_rfl) (by kernel_rfl) (by kernel_rfl) (fun _ _ _ h => h) (Or.inl ⟨by rfl, ?_⟩) hHeld ?_
    rotate_left
    · (intro w hSw; (try dsimp only at hSw); unfold l4_13; go_simp <;> with_reducible rfl)
    try simp only [l4_13, Act.put, List.setIfInBounds_toArray, List.set_cons_zero, List.set_cons_succ]
    refine wpAnyH_take (i := 14) (oi := l4_14) (v := ?_) rfl (by kernel_rfl) (by kernel_rfl) (by kernel_rfl) (fun _ _ _ h => h) (Or.inl ⟨by rfl, ?_⟩) hHeld ?_
    rotate_left
    · (intro w hSw; (try dsimp only at hSw); unfold l4_14; go_simp <;> with_reducible rfl)
    try simp only [l4_14, Act.put, List.setIfInBounds_toArray, List.set_cons_zero, List.set_cons_succ]
    refine wpAnyH_take (i := 15) (oi := l4_15) (v := ?_) rfl (by kernel_rfl) (by kernel_rfl) (by kernel_rfl) (fun _ _ _ h => h) (Or.inl ⟨by rfl, ?_⟩) hHeld ?_
    rotate_left
    · (intro w hSw; (try dsimp only at hSw); unfold l4_15; go_simp <;> with_reducible rfl)
    try simp only [l4_15, Act.put, List.setIfInBounds_toArray, List.set_cons_zero, List.set_cons_succ]
    refine wpAnyH_done (by kernel_rfl) ?_ _
    refine hKR _ _ ?_
    have HF := Lib.hid (HB5.out.trans (hHeld.below.mono HB5.out.size))
    clear hHeld hS hb6 hb7
    go_wp2
    go_ret
    exact ⟨by simp, HF.out⟩
end Go.Proofs.YtljgcpfibamdpaaDoor
