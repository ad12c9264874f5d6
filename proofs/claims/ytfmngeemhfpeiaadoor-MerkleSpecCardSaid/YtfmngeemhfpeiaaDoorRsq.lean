/- merkle's reference: Same, of one list. -/
import Derived.Test.YtfmngeemhfpeiaaDoorRpv
namespace Go.Proofs.YtfmngeemhfpeiaaDoor
open Go.RowKit

def c22a0 : Oper := { dst := some 17, op := Go.Op.move (Go.Operand.tmp 0), type := 25, pos := "ref.go:148", after := #[], guard := none }
def c22a1 : Oper := { dst := some 18, op := Go.Op.move (Go.Operand.tmp 5), type := 3, pos := "ref.go:148", after := #[], guard := none }
def c22a2 : Oper := { dst := some 19, op := Go.Op.indexAddr 25 (Go.Operand.tmp 17) (Go.Operand.tmp 18), type := 0, pos := "ref.go:148", after := #[{ on := 0, ground := Go.Ground.data }, { on := 1, ground := Go.Ground.data }], guard := none }
def c22a3 : Oper := { dst := some 20, op := Go.Op.load 30 (Go.Operand.tmp 19), type := 30, pos := "ref.go:148", after := #[{ on := 2, ground := Go.Ground.data }], guard := none }
def c22a4 : Oper := { dst := some 21, op := Go.Op.move (Go.Operand.tmp 1), type := 25, pos := "ref.go:148", after := #[], guard := none }
def c22a5 : Oper := { dst := some 22, op := Go.Op.move (Go.Operand.tmp 5), type := 3, pos := "ref.go:148", after := #[], guard := none }
def c22a6 : Oper := { dst := some 23, op := Go.Op.indexAddr 25 (Go.Operand.tmp 21) (Go.Operand.tmp 22), type := 0, pos := "ref.go:148", after := #[{ on := 4, ground := Go.Ground.data }, { on := 5, ground := Go.Ground.data }], guard := none }
def c22a7 : Oper := { dst := some 24, op := Go.Op.load 30 (Go.Operand.tmp 23), type := 30, pos := "ref.go:148", after := #[{ on := 6, ground := Go.Ground.data }], guard := none }
def c22a8 : Oper := { dst := some 25, op := Go.Op.binOp Go.BinOp.neq 30 (Go.Operand.tmp 20) (Go.Operand.tmp 24) 30, type := 4, pos := "ref.go:148", after := #[{ on := 3, ground := Go.Ground.data }, { on := 7, ground := Go.Ground.data }], guard := none }

set_option maxRecDepth 100000 in
set_option maxHeartbeats 4000000 in
theorem rsame_one (w : World) (va vb : Value) (l : List (List UInt8)) (ha : Digs w w.heap.size va l) (hb : Digs w w.heap.size vb l) :
    Calls Tryd.prog 22 #[va, vb] w fun e w' => e = .returned (.bool true) ∧ Below w.heap.size w w' := by
  obtain ⟨h32, a, cap, rfl, h1, h2, h3⟩ := ha
  obtain ⟨_, a2, cap2, rfl, h4, h5, h6⟩ := hb
  unfold maxLen at h2 h5
  obtain ⟨N, hN⟩ : ∃ N, l.length = N := ⟨_, rfl⟩
  rw [hN] at h1 h4 ⊢
  have HN := Lib.hid hN
  have H3 := Lib.hid h3
  have H6 := Lib.hid h6
  have H32 := Lib.hid h32
  clear h3 h6 hN h32
  go_enter Tryd.func22, Tryd.ntmps22
  go_wp2
  go_loopw [5] (fun s5 wr => ∃ t : Nat, s5 = .int .i64 (t : Int) ∧ t ≤ N ∧ Below w.heap.size w wr) (fun s5 _ => N - (intOf s5).toNat)
  case atStart => exact ⟨0, rfl, by omega, Below.refl _ _⟩
  case round =>
    obtain ⟨t, rfl, htn, hB⟩ := hrel
    by_cases hlt : t < N
    · have htl : t < l.length := by rw [HN.out]; exact hlt
      have f1 : decide ((t : Int) < (N : Int)) = true := by simp; omega
      have f2 : decide (t < N) = true := by simp; omega
      have f3 : (t : Int) < (N : Int) := by omega
      have iw : IntKind.i64.wrap ((t : Int) + 1) = (t : Int) + 1 := by rw [IntKind.wrap_i64]; omega
      obtain ⟨b, off, rfl, hb, hr⟩ := H3.out.resolve_left (fun e => by have := HN.out; rw [e] at this; simp at this; omega)
      obtain ⟨b2, off2, rfl, hb2, hr2⟩ := H6.out.resolve_left (fun e => by have := HN.out; rw [e] at this; simp at this; omega)
      have hra := hr t htl
      have hrb := hr2 t htl
      have la := H32.out _ (List.getElem_mem htl)
      have hq := fun W : World => dig_eq l[t] l[t] la la W
      simp only [decide_true, dv_eq] at hq
      have lca : (cells8 l[t]).length = 32 := by rw [cells8_len, la]
      obtain ⟨D, hD⟩ : ∃ c, cells8 l[t] = c := ⟨_, rfl⟩
      rw [hD] at hra hrb lca hq
      have HQ := Lib.hid hq
      have HZA : Hid ((Tryd.prog.info? 30).map (·.size) = some D.length) := by show _ = _; rw [lca]; exact Tryd.info30
      have AX : Hid (∀ W, Kept w W → W.rangeAt b (off + t * 32) D) := Lib.hid fun W hW j v hv => (hW.below.cell (p := ⟨b, off + t * 32 + j, none⟩) hb).trans (hra j v hv)
      have AY : Hid (∀ W, Kept w W → W.rangeAt b2 (off2 + t * 32) D) := Lib.hid fun W hW j v hv => (hW.below.cell (p := ⟨b2, off2 + t * 32 + j, none⟩) hb2).trans (hrb j v hv)
      clear hra hrb la lca hD hr hr2 hq
      go_upto_region 6 with fail
      refine wp_region_held_drew (S := fun W => Kept w W) (by kernel_rfl) (Kept.drew hB) (fun hHeld => ?_)
      refine wpAnyH_take (i := 0) (oi := c22a0) (v := ?_) rfl (by kernel_rfl) (by kernel_rfl) (by kernel_rfl) (fun _ _ _ h => h) (Or.inl ⟨by rfl, ?_⟩) hHeld ?_
      rotate_left
      · (intro w hSw; (try dsimp only at hSw); unfold c22a0; go_simp <;> with_reducible rfl)
      try simp only [c22a0, Act.put, List.setIfInBounds_toArray, List.set_cons_zero, List.set_cons_succ]
      refine wpAnyH_take (i := 1) (oi := c22a1) (v := ?_) rfl (by kernel_rfl) (by kernel_rfl) (by kernel_rfl) (fun _ _ _ h => h) (Or.inl ⟨by rfl, ?_⟩) hHeld ?_
      rotate_left
      · (intro w hSw; (try dsimp only at hSw); unfold c22a1; go_simp <;> with_reducible rfl)
      try simp only [c22a1, Act.put, List.setIfInBounds_toArray, List.set_cons_zero, List.set_cons_succ]
      refine wpAnyH_take (i := 2) (oi := c22a2) (v := ?_) rfl (by kernel_rfl) (by kernel_rfl) (by kernel_rfl) (fun _ _ _ h => h) (Or.inl ⟨by rfl, ?_⟩) hHeld ?_
      rotate_left
      · (intro w hSw; (try dsimp only at hSw); unfold c22a2; go_simp <;> with_reducible rfl)
      try simp only [c22a2, Act.put, List.setIfInBounds_toArray, List.set_cons_zero, List.set_cons_succ]
      refine wpAnyH_take (i := 3) (oi := c22a3) rfl (by kernel_rfl) (by kernel_rfl) (by kernel_rfl) (fun _ _ _ h => h) (yieldsIf_load_mid (by rfl) 30 (.tmp 19) (by rfl) b (off + t * 32) (by rfl) D _ (fun w hSw => AX.out w hSw) Tryd.underlying30 rfl HZA.out) hHeld ?_
      try simp only [c22a3, Act.put, List.setIfInBounds_toArray, List.set_cons_zero, List.set_cons_succ]
      refine wpAnyH_take (i := 4) (oi := c22a4) (v := ?_) rfl (by kernel_rfl) (by kernel_rfl) (by kernel_rfl) (fun _ _ _ h => h) (Or.inl ⟨by rfl, ?_⟩) hHeld ?_
      rotate_left
      · (intro w hSw; (try dsimp only at hSw); unfold c22a4; go_simp <;> with_reducible rfl)
      try simp only [c22a4, Act.put, List.setIfInBounds_toArray, List.set_cons_zero, List.set_cons_succ]
      refine wpAnyH_take (i := 5) (oi := c22a5) (v := ?_) rfl (by kernel_rfl) (by kernel_rfl) (by kernel_rfl) (fun _ _ _ h => h) (Or.inl ⟨by rfl, ?_⟩) hHeld ?_
      rotate_left
      · (intro w hSw; (try dsimp only at hSw); unfold c22a5; go_simp <;> with_reducible rfl)
      try simp only [c22a5, Act.put, List.setIfInBounds_toArray, List.set_cons_zero, List.set_cons_succ]
      refine wpAnyH_take (i := 6) (oi := c22a6) (v := ?_) rfl (by kernel_rfl) (by kernel_rfl) (by kernel_rfl) (fun _ _ _ h => h) (Or.inl ⟨by rfl, ?_⟩) hHeld ?_
      rotate_left
      · (intro w hSw; (try dsimp only at hSw); unfold c22a6; go_simp <;> with_reducible rfl)
      try simp only [c22a6, Act.put, List.setIfInBounds_toArray, List.set_cons_zero, List.set_cons_succ]
      refine wpAnyH_take (i := 7) (oi := c22a7) rfl (by kernel_rfl) (by kernel_rfl) (by kernel_rfl) (fun _ _ _ h => h) (yieldsIf_load_mid (by rfl) 30 (.tmp 23) (by rfl) b2 (off2 + t * 32) (by rfl) D _ (fun w hSw => AY.out w hSw) Tryd.underlying30 rfl HZA.out) hHeld ?_
      try simp only [c22a7, Act.put, List.setIfInBounds_toArray, List.set_cons_zero, List.set_cons_succ]
      refine wpAnyH_take (i := 8) (oi := c22a8) (v := ?_) rfl (by kernel_rfl) (by kernel_rfl) (by kernel_rfl) (fun _ _ _ h => h) (Or.inl ⟨by rfl, ?_⟩) hHeld ?_
      rotate_left
      · (intro w hSw; have q5 := HQ.out; unfold c22a8; go_simp <;> with_reducible rfl)
      try simp only [c22a8, Act.put, List.setIfInBounds_toArray, List.set_cons_zero, List.set_cons_succ]
      refine wpAnyH_done (by kernel_rfl) ?_ _
      have HST := Lib.hid hHeld
      clear hHeld
      go_wp2
      go_roundw
      case rel => exact ⟨t + 1, by simp, by omega, HST.out⟩
      case measure => simp [intOf]; omega
    · obtain rfl : t = N := by omega
      have f1 : decide ((t : Int) < (t : Int)) = false := by simp
      have f2 : decide (t < t) = false := by simp
      have HB := Lib.hid hB
      clear hB
      go_wp2
      go_returns
      exact ⟨rfl, HB.out⟩
end Go.Proofs.YtfmngeemhfpeiaaDoor
