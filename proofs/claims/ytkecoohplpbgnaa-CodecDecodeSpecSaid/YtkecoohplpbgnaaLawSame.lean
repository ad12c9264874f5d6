/- For every two values CodecSameSpec answers true and leaves its arguments as they were. No condition but the row's own. -/
import Derived.Test.YtkecoohplpbgnaaSane
import Derived.Test.YtkecoohplpbgnaaSameR
import Derived.Test.YtkecoohplpbgnaaCount
import Derived.Test.YtkecoohplpbgnaaArg
import Derived.Deep.RegionHeld3
namespace Go.Proofs.Ytkecoohplpbgnaa
open Go.RowKit Go.ChangeShapes Go.WideShapes Go.ChangeAt

theorem at_shape {w : World} {B : Nat} {x : V} {v : Value} (h : V.At w B x v) : ∃ (k n : Int) (s : ByteArray) (a : Option Addr) (len cap : Nat), v = .agg #[.int .i64 k, .int .i64 n, .string s, .slice a len cap] := by
  obtain ⟨k, n, s, l⟩ := x
  unfold V.At at h
  obtain ⟨_, _, _, a, cap, hv, _⟩ := h
  exact ⟨k, n, s, a, l.length, cap, hv⟩

/-- A slice of two trees that was made of them. -/
theorem two_at {w : World} {B : Nat} {x y : V} {k n k' n' : Int} {s s' : ByteArray} {a a' : Option Addr} {len cap len' cap' : Nat} (hx : V.At w B x (.agg #[.int .i64 k, .int .i64 n, .string s, .slice a len cap])) (hy : V.At w B y (.agg #[.int .i64 k', .int .i64 n', .string s', .slice a' len' cap']))
    (hB : B ≤ w.heap.size) : AtL (w.alloc (Obj.cells #[.int .i64 k, .int .i64 n, .string s, .slice a len cap, .int .i64 k', .int .i64 n', .string s', .slice a' len' cap'] 24)) (w.heap.size + 1) [x, y] w.heap.size 0 := by
  have hb : Below B w (w.alloc (Obj.cells #[.int .i64 k, .int .i64 n, .string s, .slice a len cap, .int .i64 k', .int .i64 n', .string s', .slice a' len' cap'] 24)) := (Below.refl _ _).alloc hB _
  unfold AtL AtL AtL
  refine ⟨⟨_, _, _, _, by go_cell, by go_cell, by go_cell, by go_cell, V.At.mono (by omega) _ _ (V.At.below hb _ _ hx)⟩, ⟨_, _, _, _, by go_cell, by go_cell, by go_cell, by go_cell, V.At.mono (by omega) _ _ (V.At.below hb _ _ hy)⟩, trivial⟩

set_option maxHeartbeats 1000000 in
theorem lawSame (x y : V) (v v' : Value) (w : World) (hx : V.At w w.heap.size x v) (hy : V.At w w.heap.size y v') :
    Calls Try.prog 5 #[v, v'] w fun e w' => e = .returned (.bool true) ∧ Below w.heap.size w w' := by
  have HX := Lib.hid hx
  have HY := Lib.hid hy
  obtain ⟨k, n, s, a, len, cap, rfl⟩ := at_shape hx
  obtain ⟨k', n', s', a', len', cap', rfl⟩ := at_shape hy
  clear hx hy
  obtain ⟨w1, hw1⟩ : ∃ w1, w1 = (w.alloc (Obj.cells #[.int .i64 k, .int .i64 n, .string s, .slice a len cap] 24)).alloc (Obj.cells #[.int .i64 k', .int .i64 n', .string s', .slice a' len' cap'] 24) := ⟨_, rfl⟩
  have hz1 : w1.heap.size = w.heap.size + 2 := by rw [hw1]; simp
  have hB1 : Below w.heap.size w w1 := by rw [hw1]; go_grown
  have hcell : ∀ W, Kept w1 W → ∀ k i u, k < w1.heap.size → w1.cell? ⟨k, i, none⟩ = some u → W.cell? ⟨k, i, none⟩ = some u := fun W hW k i u hk hu => (hW.below.cell (p := ⟨k, i, none⟩) hk).trans hu
  have p0 : ∀ W, Kept w1 W → W.cell? ⟨w.heap.size, 0, none⟩ = some (.int .i64 k) := fun W hW => hcell W hW _ _ _ (by omega) (by rw [hw1]; go_cell)
  have p1 : ∀ W, Kept w1 W → W.cell? ⟨w.heap.size, 1, none⟩ = some (.int .i64 n) := fun W hW => hcell W hW _ _ _ (by omega) (by rw [hw1]; go_cell)
  have p2 : ∀ W, Kept w1 W → W.cell? ⟨w.heap.size, 2, none⟩ = some (.string s) := fun W hW => hcell W hW _ _ _ (by omega) (by rw [hw1]; go_cell)
  have p3 : ∀ W, Kept w1 W → W.cell? ⟨w.heap.size, 3, none⟩ = some (.slice a len cap) := fun W hW => hcell W hW _ _ _ (by omega) (by rw [hw1]; go_cell)
  have q0 : ∀ W, Kept w1 W → W.cell? ⟨w.heap.size + 1, 0, none⟩ = some (.int .i64 k') := fun W hW => hcell W hW _ _ _ (by omega) (by rw [hw1]; go_cell)
  have q1 : ∀ W, Kept w1 W → W.cell? ⟨w.heap.size + 1, 1, none⟩ = some (.int .i64 n') := fun W hW => hcell W hW _ _ _ (by omega) (by rw [hw1]; go_cell)
  have q2 : ∀ W, Kept w1 W → W.cell? ⟨w.heap.size + 1, 2, none⟩ = some (.string s') := fun W hW => hcell W hW _ _ _ (by omega) (by rw [hw1]; go_cell)
  have q3 : ∀ W, Kept w1 W → W.cell? ⟨w.heap.size + 1, 3, none⟩ = some (.slice a' len' cap') := fun W hW => hcell W hW _ _ _ (by omega) (by rw [hw1]; go_cell)
  have hkw : ∀ W, Kept w1 W → Below w.heap.size w W := fun W hW => hB1.trans (hW.below.mono (by omega))
  have hxW : ∀ W, Kept w1 W → V.At W W.heap.size x (.agg #[.int .i64 k, .int .i64 n, .string s, .slice a len cap]) := fun W hW => V.At.mono (hkw W hW).size _ _ (V.At.below (hkw W hW) _ _ HX.out)
  have hyW : ∀ W, Kept w1 W → V.At W W.heap.size y (.agg #[.int .i64 k', .int .i64 n', .string s', .slice a' len' cap']) := fun W hW => V.At.mono (hkw W hW).size _ _ (V.At.below (hkw W hW) _ _ HY.out)
  have hc1 : ∀ W, Kept w1 W → Calls Try.prog 21 #[.agg #[.int .i64 k, .int .i64 n, .string s, .slice a len cap], .agg #[.int .i64 k', .int .i64 n', .string s', .slice a' len' cap']] W fun e w' => e = .returned (.bool (x.same y)) ∧ Kept w1 w' :=
    fun W hW => (cSame _ x (Nat.le_refl _) y W W.heap.size _ _ (Nat.le_refl _) (hxW W hW) (hyW W hW)).mono fun e w' h => ⟨h.1, hW.next h.2⟩
  have hc2 : ∀ W, Kept w1 W → Calls Try.prog 20 #[.agg #[.int .i64 k, .int .i64 n, .string s, .slice a len cap], .agg #[.int .i64 k', .int .i64 n', .string s', .slice a' len' cap']] W fun e w' => e = .returned (.bool (x.same y)) ∧ Kept w1 w' :=
    fun W hW => (refSame _ x (Nat.le_refl _) y W W.heap.size _ _ (Nat.le_refl _) (hxW W hW) (hyW W hW)).mono fun e w' h => ⟨h.1, hW.next h.2⟩
  have hc3 : ∀ W, Kept w1 W → Calls Try.prog 21 #[.agg #[.int .i64 k, .int .i64 n, .string s, .slice a len cap], .agg #[.int .i64 k, .int .i64 n, .string s, .slice a len cap]] W fun e w' => e = .returned (.bool true) ∧ Kept w1 w' :=
    fun W hW => (cSame _ x (Nat.le_refl _) x W W.heap.size _ _ (Nat.le_refl _) (hxW W hW) (hxW W hW)).mono fun e w' h => ⟨by rw [h.1, V.same_refl], hW.next h.2⟩
  have hc4 : ∀ W, Kept w1 W → Calls Try.prog 21 #[.agg #[.int .i64 k', .int .i64 n', .string s', .slice a' len' cap'], .agg #[.int .i64 k', .int .i64 n', .string s', .slice a' len' cap']] W fun e w' => e = .returned (.bool true) ∧ Kept w1 w' :=
    fun W hW => (cSame _ y (Nat.le_refl _) y W W.heap.size _ _ (Nat.le_refl _) (hyW W hW) (hyW W hW)).mono fun e w' h => ⟨by rw [h.1, V.same_refl], hW.next h.2⟩
  have hcs : ∀ W, Kept w1 W → Calls Try.prog 10 #[] W fun e w' => e = .returned (.bool true) ∧ Kept w1 w' := fun W hW => (sane_any W).mono fun e w' h => ⟨h.1, hW.next h.2⟩
  have hcf : ∀ W, Kept w1 W → Calls Try.prog 11 #[.slice (some ⟨W.heap.size, 0, none⟩) 2 2] (W.alloc (Obj.cells #[.int .i64 k, .int .i64 n, .string s, .slice a len cap, .int .i64 k', .int .i64 n', .string s', .slice a' len' cap'] 24)) fun e w' => e = .returned (.bool ([x, y].all V.few)) ∧ Kept w1 w' := fun W hW => by
    have h2 := two_at (hxW W hW) (hyW W hW) (Nat.le_refl _)
    have := fews_any [x, y] (some ⟨W.heap.size, 0, none⟩) 2 (W.alloc (Obj.cells #[.int .i64 k, .int .i64 n, .string s, .slice a len cap, .int .i64 k', .int .i64 n', .string s', .slice a' len' cap'] 24)) (by simp) (by unfold maxLen; omega) (.inr ⟨_, _, rfl, by simp, by rw [World.size_alloc]; exact h2⟩)
    exact this.mono fun e w' h => ⟨h.1, Kept.next (hW.alloc _) h.2⟩
  obtain ⟨t, ht⟩ : ∃ t, [x, y].all V.few = t := ⟨_, rfl⟩
  obtain ⟨r, hr⟩ : ∃ r, x.same y = r := ⟨_, rfl⟩
  rw [ht] at hcf
  rw [hr] at hc1 hc2
  have HW := Lib.hid hw1
  have H1 := Lib.hid hc1
  have H2 := Lib.hid hc2
  have H3 := Lib.hid hc3
  have H4 := Lib.hid hc4
  have HS := Lib.hid hcs
  have HF := Lib.hid hcf
  have HK := Lib.hid hkw
  clear hc1 hc2 hc3 hc4 hcs hcf hcell hkw hxW hyW hw1 ht hr HX HY
  go_enter Try.func5, Try.ntmps5
  go_wp2_with fail
  rw [← HW.out]
  refine (HS.out _ (Kept.refl _)).mono ?_
  rintro e w2 ⟨rfl, hK2⟩
  go_wp2_with fail
  refine (HF.out _ hK2).mono ?_
  rintro e w3 ⟨rfl, hK3⟩
  cases t
  · go_wp2
    go_ret
    exact ⟨rfl, HK.out _ hK3⟩
  · cases r
    all_goals
      go_wp2_with fail
      go_region_held3 (fun W => Kept w1 W) (first | assumption | exact Kept.drew (by assumption))
        (first
          | (go_at_call 20; refine (H2.out _ (by assumption)).mono ?_; rintro e w' ⟨rfl, hK⟩)
          | ((with_reducible refine (H1.out _ (by assumption)).mono ?_); rintro e w' ⟨rfl, hK⟩)
          | ((with_reducible refine (H3.out _ (by assumption)).mono ?_); rintro e w' ⟨rfl, hK⟩)
          | ((with_reducible refine (H4.out _ (by assumption)).mono ?_); rintro e w' ⟨rfl, hK⟩))
    all_goals
      go_wp2
      go_ret
      exact ⟨rfl, HK.out _ (by assumption)⟩

set_option maxRecDepth 100000 in
theorem same_lifted (os : Os) (started : os.Started) (H : Type) (enc : TypeId × Value → H) :
    ReturnsInHanded {} Try.checked os 5 .any (Rows.codecSameSpecSpec.pre6 enc Try.prog Try.f5 Rows.codecSameSpecRow.domain false) (Rows.codecSameSpecSpec.post enc Try.prog Try.f5 false true false false) := by
  refine returnsInHanded_of_change (C := Try.checked) Try.own started (by kernel_rfl) Try.func5
    (ChangeSpec.witness6 (enc := enc) (C := Try.checked) false ⟨#[], #[.agg #[.int .i64 0, .int .i64 0, .string ByteArray.empty, .slice none 0 0], .agg #[.int .i64 0, .int .i64 0, .string ByteArray.empty, .slice none 0 0]], []⟩ 8 (by kernel_rfl) (by kernel_rfl) (by kernel_rfl) (by kernel_rfl)) ?_
  intro W base args ds gs before hval0 hW _ _
  have hval : ∀ (j : Nat) t v, Try.f5.params[j]? = some t → args[j]? = some v → Value.okWide Try.prog W .any base t v := hval0
  have hW' := hW
  obtain ⟨p, q, hA0, hV, rfl, _, _⟩ := hW
  have hA : DataW.TrodAll enc Try.prog W 0 (fun _ => true) true Try.f5.params.toList args.toList ds p := hA0
  rw [Try.params5] at hA hval
  obtain ⟨v0, v1, d0, d1, p0, p1, rfl, rfl, rfl, h0, h1⟩ := trodAll_two hA
  obtain ⟨rfl, rfl⟩ := trodVars_none hV
  obtain ⟨x, hx⟩ := open_arg (hval 0 24 v0 rfl rfl) h0
  obtain ⟨y, hy⟩ := open_arg (hval 1 24 v1 rfl rfl) h1
  clear hA0 hval0
  simp only [List.append_nil] at hW'
  have hlt : ∀ x ∈ p0 ++ p1, x.block < W.heap.size := fun x hx => by simpa using hW'.lt x hx
  refine (lawSame x y v0 v1 W hx hy).mono fun e W' ⟨he, hnx⟩ => ?_
  subst he
  exact ⟨_, rfl, _, _, _, [], _, [], hW', trodAll_mk1 (shut_bool Try.underlying4 _), trodAll_mk2 (Below.trod Try.laidOut (by kernel_rfl) (of_decide_eq_true (by kernel_rfl)) h0 hnx fun x hx => hlt x (List.mem_append.2 (.inl hx)))
    (Below.trod Try.laidOut (by kernel_rfl) (of_decide_eq_true (by kernel_rfl)) h1 hnx fun x hx => hlt x (List.mem_append.2 (.inr hx))), rfl, hnx.frame _, fun h => by cases h⟩

/-- CodecSameSpec holds. -/
theorem codecSameSpec_holds : Rows.CodecSameSpecSaid :=
  OpenClaim.holds_of_wide 5 Try.f5 rfl rfl rfl rfl rfl rfl rfl ⟨rfl, rfl, rfl, rfl, rfl⟩ rfl rfl rfl rfl rfl (by kernel_rfl) Try.func5 (by kernel_rfl)
    (of_decide_eq_true (by kernel_rfl)) (by unfold Func.isWrapper; first | (rw [if_pos (by decide +kernel)]; kernel_rfl) | (rw [if_neg (by decide +kernel)]; exact ⟨rfl, rfl⟩))
    (fun os started H enc _ => same_lifted os started H enc)

#print axioms codecSameSpec_holds

end Go.Proofs.Ytkecoohplpbgnaa
