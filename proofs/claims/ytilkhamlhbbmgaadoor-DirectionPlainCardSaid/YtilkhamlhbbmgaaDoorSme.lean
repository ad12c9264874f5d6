/- Equal rows of texts. -/
import Derived.Test.YtilkhamlhbbmgaaDoorRsp
namespace Go.Proofs.YtilkhamlhbbmgaaDoor
open Go.RowKit

/-- The row v reads as the texts l in w; it lies below block B. -/
def SRow (w : World) (B : Nat) (v : Value) (l : List (List UInt8)) : Prop :=
  ∃ a c, v = .slice a l.length c ∧ l.length ≤ c ∧ c ≤ maxLen ∧ (l = [] ∨ ∃ b off, a = some ⟨b, off, none⟩ ∧ b < B ∧ ∀ j (h : j < l.length), w.cell? ⟨b, off + j, none⟩ = some (.string (str l[j])))
theorem SRow.below {w W : World} {B : Nat} {v : Value} {l : List (List UInt8)} (h : SRow w B v l) (hb : Below B w W) : SRow W B v l := by
  obtain ⟨a, c, rfl, h1, h2, h3⟩ := h
  refine ⟨a, c, rfl, h1, h2, ?_⟩
  rcases h3 with h3 | ⟨b, off, rfl, h4, h5⟩
  · exact .inl h3
  · exact .inr ⟨b, off, rfl, h4, fun j hj => (hb.cell (p := ⟨b, off + j, none⟩) h4).trans (h5 j hj)⟩
theorem SRow.mono {w : World} {B C : Nat} {v : Value} {l : List (List UInt8)} (h : SRow w B v l) (hb : B ≤ C) : SRow w C v l := by
  obtain ⟨a, c, rfl, h1, h2, h3⟩ := h
  refine ⟨a, c, rfl, h1, h2, ?_⟩
  rcases h3 with h3 | ⟨b, off, rfl, h4, h5⟩
  · exact .inl h3
  · exact .inr ⟨b, off, rfl, by omega, h5⟩
theorem SRow.next {w W : World} {v : Value} {l : List (List UInt8)} (h : SRow w w.heap.size v l) (hb : Below w.heap.size w W) : SRow W W.heap.size v l := (h.below hb).mono hb.size
theorem SRow.of_own {w : World} {B : Nat} {v : Value} {l : List (List UInt8)} (h : w.ownsRow B 9 1 v l.length (scells l)) : SRow w w.heap.size v l := by
  have hcl := @World.ownsRow.cells _ _ _ _ _ _ _ h
  rcases h.2 with ⟨rfl, h0⟩ | ⟨g, cap, cur, rfl, hb, hg, h1, h2, _⟩
  · have : l = [] := List.eq_nil_of_length_eq_zero h0
    subst this
    exact ⟨none, 0, rfl, Nat.le_refl _, by unfold maxLen; omega, .inl rfl⟩
  · refine ⟨_, cap, rfl, h1, h2, .inr ⟨g, 0, rfl, (Array.getElem?_eq_some_iff.1 hg).1, fun j hj => ?_⟩⟩
    have := hcl (g := g) rfl j (.string (str l[j])) (by simp [scells, hj])
    rw [Addr.add_mid] at this
    exact this

set_option maxRecDepth 100000 in
set_option maxHeartbeats 1000000 in
theorem same_26 (w : World) (v u : Value) (l m : List (List UInt8)) (hv : SRow w w.heap.size v l) (hu : SRow w w.heap.size u m) : Calls Tryd.prog 26 #[v, u] w fun e w' => e = .returned (.bool (decide (l = m))) ∧ Below w.heap.size w w' := by
  obtain ⟨a, c, rfl, hc, hm, h⟩ := hv
  obtain ⟨a2, c2, rfl, hc2, hm2, h2⟩ := hu
  unfold maxLen at hm hm2
  by_cases hl : l.length = m.length
  · obtain ⟨N, hN⟩ : ∃ N, l.length = N := ⟨_, rfl⟩
    have hN2 : m.length = N := by omega
    have HN := Lib.hid hN
    have HN2 := Lib.hid hN2
    have HC : Hid (∀ W, Below w.heap.size w W → ∀ k, k < N → ∃ b off b2 off2, ∃ x y : List UInt8, a = some ⟨b, off, none⟩ ∧ a2 = some ⟨b2, off2, none⟩ ∧ l[k]? = some x ∧ m[k]? = some y ∧ W.cell? ⟨b, off + k, none⟩ = some (.string (str x)) ∧ W.cell? ⟨b2, off2 + k, none⟩ = some (.string (str y))) := Lib.hid fun W hW k hk => by
      rcases h with rfl | ⟨b, off, rfl, hb, h⟩
      · simp at hN; omega
      · rcases h2 with rfl | ⟨b2, off2, rfl, hb2, h2⟩
        · simp at hN2; omega
        · exact ⟨b, off, b2, off2, l[k]'(by omega), m[k]'(by omega), rfl, rfl, List.getElem?_eq_getElem _, List.getElem?_eq_getElem _, (hW.cell (p := ⟨b, off + k, none⟩) hb).trans (h k (by omega)), (hW.cell (p := ⟨b2, off2 + k, none⟩) hb2).trans (h2 k (by omega))⟩
    rw [hN] at hc ⊢
    rw [hN2] at hc2 ⊢
    clear h h2 hN hN2 hl
    go_enter Tryd.func26, Tryd.ntmps26
    go_wp2
    go_loopw [5] (fun s5 wr => ∃ k : Nat, k ≤ N ∧ s5 = .int .i64 k ∧ Below w.heap.size w wr ∧ Hid (l.take k = m.take k)) (fun s5 _ => N - (intOf s5).toNat)
    case atStart => exact ⟨0, Nat.zero_le _, rfl, Below.refl _ _, Lib.hid rfl⟩
    case round =>
      obtain ⟨k, hk, rfl, hbw, HJ⟩ := hrel
      have HB := Lib.hid hbw
      clear hbw
      by_cases hlt : k < N
      · obtain ⟨b, off, b2, off2, x, y, rfl, rfl, hx, hy, hcx, hcy⟩ := HC.out wr HB.out k hlt
        have HX := Lib.hid hx
        have HY := Lib.hid hy
        have i0 : (0 : Int) ≤ (k : Int) := by omega
        have i1 : (k : Int) < (N : Int) := by omega
        clear hx hy
        have hxs : (!((str x).toList == (str y).toList)) = decide (x ≠ y) := by
          rw [Lib.toList_data, Lib.toList_data, str_toList, str_toList]
          by_cases h : x = y <;> simp [h]
        obtain ⟨sx, hsx⟩ : ∃ z, str x = z := ⟨_, rfl⟩
        obtain ⟨sy, hsy⟩ : ∃ z, str y = z := ⟨_, rfl⟩
        rw [hsx, hsy] at hxs
        rw [hsx] at hcx
        rw [hsy] at hcy
        clear hsx hsy
        by_cases hxy : x = y
        · have hd : (!(sx.toList == sy.toList)) = false := by rw [hxs, decide_eq_false (by simpa using hxy)]
          have HXY := Lib.hid hxy
          clear hxy hxs
          go_wp2_with fail
          go_quiet (fail)
          go_wp2
          go_roundw
          case rel =>
            refine ⟨k + 1, by omega, by go_num, below_drewN HB.out _, Lib.hid ?_⟩
            rw [List.take_add_one, List.take_add_one, HJ.out, HX.out, HY.out, HXY.out]
          case measure => simp [intOf]; omega
        · have hd : (!(sx.toList == sy.toList)) = true := by rw [hxs, decide_eq_true hxy]
          have HXY := Lib.hid hxy
          clear hxy hxs
          go_wp2_with fail
          go_quiet (fail)
          go_wp2
          go_ret
          have hne : l ≠ m := fun e => by
            have h3 := HX.out
            have h4 := HY.out
            rw [e, h4] at h3
            injection h3 with h3
            exact HXY.out h3.symm
          rw [decide_eq_false hne]
          exact ⟨rfl, below_drewN HB.out _⟩
      · go_wp2
        go_ret
        refine ⟨?_, HB.out⟩
        have hkk : k = N := by omega
        have hj := HJ.out
        rw [hkk, List.take_of_length_le (by rw [HN.out]; exact Nat.le_refl _), List.take_of_length_le (by rw [HN2.out]; exact Nat.le_refl _)] at hj
        rw [decide_eq_true hj]; rfl
  · have hd : decide (l = m) = false := decide_eq_false fun e => hl (by rw [e])
    rw [hd]
    obtain ⟨N, hN⟩ : ∃ N, l.length = N := ⟨_, rfl⟩
    obtain ⟨M, hM⟩ : ∃ N, m.length = N := ⟨_, rfl⟩
    rw [hN] at hc hl ⊢
    rw [hM] at hc2 hl ⊢
    have d : ((N : Int) != (M : Int)) = true := by simp; omega
    clear h h2 hN hM hl hd
    go_enter Tryd.func26, Tryd.ntmps26
    go_wp2
    go_ret
    exact ⟨rfl, Below.refl _ _⟩
end Go.Proofs.YtilkhamlhbbmgaaDoor
