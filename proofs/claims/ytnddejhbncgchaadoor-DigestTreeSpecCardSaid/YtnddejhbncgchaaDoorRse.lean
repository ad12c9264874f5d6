/- The reference's Same. -/
import Derived.Test.YtnddejhbncgchaaDoorRpt
import Derived.Test.YtnddejhbncgchaaDoorEqd
namespace Go.Proofs.YtnddejhbncgchaaDoor
open Go.RowKit

def c21a0 : Oper := { dst := some 17, op := Go.Op.move (Go.Operand.tmp 0), type := 30, pos := "ref.go:169", after := #[], guard := none }
def c21a1 : Oper := { dst := some 18, op := Go.Op.move (Go.Operand.tmp 5), type := 3, pos := "ref.go:169", after := #[], guard := none }
def c21a2 : Oper := { dst := some 19, op := Go.Op.indexAddr 30 (Go.Operand.tmp 17) (Go.Operand.tmp 18), type := 0, pos := "ref.go:169", after := #[{ on := 0, ground := Go.Ground.data }, { on := 1, ground := Go.Ground.data }], guard := none }
def c21a3 : Oper := { dst := some 20, op := Go.Op.load 26 (Go.Operand.tmp 19), type := 26, pos := "ref.go:169", after := #[{ on := 2, ground := Go.Ground.data }], guard := none }
def c21a4 : Oper := { dst := some 21, op := Go.Op.move (Go.Operand.tmp 1), type := 30, pos := "ref.go:169", after := #[], guard := none }
def c21a5 : Oper := { dst := some 22, op := Go.Op.move (Go.Operand.tmp 5), type := 3, pos := "ref.go:169", after := #[], guard := none }
def c21a6 : Oper := { dst := some 23, op := Go.Op.indexAddr 30 (Go.Operand.tmp 21) (Go.Operand.tmp 22), type := 0, pos := "ref.go:169", after := #[{ on := 4, ground := Go.Ground.data }, { on := 5, ground := Go.Ground.data }], guard := none }
def c21a7 : Oper := { dst := some 24, op := Go.Op.load 26 (Go.Operand.tmp 23), type := 26, pos := "ref.go:169", after := #[{ on := 6, ground := Go.Ground.data }], guard := none }
def c21a8 : Oper := { dst := some 25, op := Go.Op.binOp Go.BinOp.neq 26 (Go.Operand.tmp 20) (Go.Operand.tmp 24) 26, type := 4, pos := "ref.go:169", after := #[{ on := 3, ground := Go.Ground.data }, { on := 7, ground := Go.Ground.data }], guard := none }

set_option maxRecDepth 100000 in
set_option maxHeartbeats 4000000 in
/-- Two lists of the same digests. -/
theorem rsame_any (w : World) (ds : List (List UInt8)) (u v : Value) (hu : Digs w w.heap.size u ds) (hv : Digs w w.heap.size v ds) (hm : ds.length ≤ 1000000) :
    Calls Tryd.prog 21 #[u, v] w fun e w' => e = .returned (.bool true) ∧ Below w.heap.size w w' := by
  obtain ⟨h32, a1, c1, rfl, hc1, hm1, h1⟩ := hu
  obtain ⟨_, a2, c2, rfl, hc2, hm2, h2⟩ := hv
  obtain ⟨n, hn⟩ : ∃ n, ds.length = n := ⟨_, rfl⟩
  have HN := Lib.hid hn
  have H32 := Lib.hid h32
  have H1 := Lib.hid h1
  have H2 := Lib.hid h2
  rw [hn] at hm hc1 hc2 ⊢
  unfold maxLen at hm1 hm2
  have hg26 : Tryd.prog.eqGuardType Tryd.prog.depth 26 = false := by kernel_rfl
  clear h32 h1 h2 hn
  go_enter Tryd.func21, Tryd.ntmps21
  go_wp2
  go_loopw [5] (fun j W => ∃ t : Nat, j = .int .i64 t ∧ t ≤ n ∧ Below w.heap.size w W) (fun j _ => n - (intOf j).toNat)
  case atStart => exact ⟨0, rfl, by omega, Below.refl _ _⟩
  case round =>
    obtain ⟨t, rfl, ht, hB⟩ := hrel
    have HB := Lib.hid hB
    clear hB
    by_cases hlt : t < n
    · have hdd : decide ((t : Int) < (n : Int)) = true := by simp; omega
      have hdn : decide (t < n) = true := by simpa using hlt
      have hne : ds ≠ [] := fun e => by have := HN.out; rw [e] at this; simp at this; omega
      rcases H1.out with h | ⟨db1, o1, rfl, hl1, hr1⟩
      · exact absurd h hne
      rcases H2.out with h | ⟨db2, o2, rfl, hl2, hr2⟩
      · exact absurd h hne
      have htn : t < ds.length := by rw [HN.out]; exact hlt
      obtain ⟨x, hx⟩ : ∃ x, ds[t] = x := ⟨_, rfl⟩
      have hxl : x.length = 32 := by rw [← hx]; exact H32.out _ (List.getElem_mem _)
      have hx1 := hr1 t htn
      have hx2 := hr2 t htn
      rw [hx] at hx1 hx2
      obtain ⟨cx, hcx⟩ : ∃ cx, cells8 x = cx := ⟨_, rfl⟩
      rw [hcx] at hx1 hx2
      have HZX : Hid ((Tryd.prog.info? 26).map (·.size) = some cx.length) := by show _ = _; rw [← hcx, cells8_len, hxl]; exact Tryd.info26
      have hq1 : ∀ W : World, (Op.equalIn 10000 26 (.agg cx.toArray) (.agg cx.toArray)).run Tryd.prog W = .ok true W := fun W => by
        have h := eq_any x hxl W
        rw [dv_eq, hcx] at h; exact h
      have HR1 := Lib.hid (fun W (hW : Below w.heap.size w W) => (fun j v hv => (hW.cell (p := ⟨db1, o1 + t * 32 + j, none⟩) hl1).trans (hx1 j v hv) : W.rangeAt db1 (o1 + t * 32) cx))
      have HR2 := Lib.hid (fun W (hW : Below w.heap.size w W) => (fun j v hv => (hW.cell (p := ⟨db2, o2 + t * 32 + j, none⟩) hl2).trans (hx2 j v hv) : W.rangeAt db2 (o2 + t * 32) cx))
      have f1 : (t : Int) < (n : Int) := by omega
      have f0 : (0 : Int) ≤ (t : Int) := by omega
      clear hx1 hx2 hr1 hr2 hx hxl hcx hne hl1 hl2 htn
      go_wp2_with fail
      refine wp_region_held_drew (S := fun W => Below w.heap.size w W) (by kernel_rfl) (HB.out.drew) (fun hHeld => ?_)
      refine wpAnyH_take (i := 0) (oi := c21a0) (v := ?_) rfl (by kernel_rfl) (by kernel_rfl) (by kernel_rfl) (fun _ _ _ h => h) (Or.inl ⟨by rfl, ?_⟩) hHeld ?_
      rotate_left
      · (intro w hSw; (try dsimp only at hSw); unfold c21a0; go_simp <;> with_reducible rfl)
      try simp only [c21a0, Act.put, List.setIfInBounds_toArray, List.set_cons_zero, List.set_cons_succ]
      refine wpAnyH_take (i := 1) (oi := c21a1) (v := ?_) rfl (by kernel_rfl) (by kernel_rfl) (by kernel_rfl) (fun _ _ _ h => h) (Or.inl ⟨by rfl, ?_⟩) hHeld ?_
      rotate_left
      · (intro w hSw; (try dsimp only at hSw); unfold c21a1; go_simp <;> with_reducible rfl)
      try simp only [c21a1, Act.put, List.setIfInBounds_toArray, List.set_cons_zero, List.set_cons_succ]
      refine wpAnyH_take (i := 2) (oi := c21a2) (v := ?_) rfl (by kernel_rfl) (by kernel_rfl) (by kernel_rfl) (fun _ _ _ h => h) (Or.inl ⟨by rfl, ?_⟩) hHeld ?_
      rotate_left
      · (intro w hSw; (try dsimp only at hSw); unfold c21a2; go_simp <;> with_reducible rfl)
      try simp only [c21a2, Act.put, List.setIfInBounds_toArray, List.set_cons_zero, List.set_cons_succ]
      refine wpAnyH_take (i := 3) (oi := c21a3) rfl (by kernel_rfl) (by kernel_rfl) (by kernel_rfl) (fun _ _ _ h => h) (yieldsIf_load_mid (by rfl) 26 (.tmp 19) (by rfl) db1 (o1 + t * 32) (by rfl) cx _ (fun W h => HR1.out W h) Tryd.underlying26 rfl HZX.out) hHeld ?_
      try simp only [c21a3, Act.put, List.setIfInBounds_toArray, List.set_cons_zero, List.set_cons_succ]
      refine wpAnyH_take (i := 4) (oi := c21a4) (v := ?_) rfl (by kernel_rfl) (by kernel_rfl) (by kernel_rfl) (fun _ _ _ h => h) (Or.inl ⟨by rfl, ?_⟩) hHeld ?_
      rotate_left
      · (intro w hSw; (try dsimp only at hSw); unfold c21a4; go_simp <;> with_reducible rfl)
      try simp only [c21a4, Act.put, List.setIfInBounds_toArray, List.set_cons_zero, List.set_cons_succ]
      refine wpAnyH_take (i := 5) (oi := c21a5) (v := ?_) rfl (by kernel_rfl) (by kernel_rfl) (by kernel_rfl) (fun _ _ _ h => h) (Or.inl ⟨by rfl, ?_⟩) hHeld ?_
      rotate_left
      · (intro w hSw; (try dsimp only at hSw); unfold c21a5; go_simp <;> with_reducible rfl)
      try simp only [c21a5, Act.put, List.setIfInBounds_toArray, List.set_cons_zero, List.set_cons_succ]
      refine wpAnyH_take (i := 6) (oi := c21a6) (v := ?_) rfl (by kernel_rfl) (by kernel_rfl) (by kernel_rfl) (fun _ _ _ h => h) (Or.inl ⟨by rfl, ?_⟩) hHeld ?_
      rotate_left
      · (intro w hSw; (try dsimp only at hSw); unfold c21a6; go_simp <;> with_reducible rfl)
      try simp only [c21a6, Act.put, List.setIfInBounds_toArray, List.set_cons_zero, List.set_cons_succ]
      refine wpAnyH_take (i := 7) (oi := c21a7) rfl (by kernel_rfl) (by kernel_rfl) (by kernel_rfl) (fun _ _ _ h => h) (yieldsIf_load_mid (by rfl) 26 (.tmp 23) (by rfl) db2 (o2 + t * 32) (by rfl) cx _ (fun W h => HR2.out W h) Tryd.underlying26 rfl HZX.out) hHeld ?_
      try simp only [c21a7, Act.put, List.setIfInBounds_toArray, List.set_cons_zero, List.set_cons_succ]
      refine wpAnyH_ready (rs := [8]) (by kernel_rfl) (by simp) ?_
      refine AllReadyH.cons (o := c21a8) rfl (fun K hK => ?_) AllReadyH.nil
      rw [if_pos (by rfl)]
      unfold c21a8
      go_simp
      refine hK.out _ _ hHeld (fun hHeld => ?_)
      clear hK K
      try simp only [c21a8, Act.put, List.setIfInBounds_toArray, List.set_cons_zero, List.set_cons_succ]
      refine wpAnyH_done (by kernel_rfl) ?_ _
      have HK := Lib.hid hHeld
      clear hHeld
      go_wp2
      go_roundw
      case rel => exact ⟨t + 1, by simp, by omega, HK.out⟩
      case measure => simp [intOf]; omega
    · obtain rfl : t = n := by omega
      have hdd : decide ((t : Int) < (t : Int)) = false := by simp
      go_wp2
      go_ret
      exact ⟨rfl, HB.out⟩
end Go.Proofs.YtnddejhbncgchaaDoor
