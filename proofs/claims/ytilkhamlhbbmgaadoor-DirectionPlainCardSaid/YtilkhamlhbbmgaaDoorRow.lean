/- Rows of numbers: looking for one, comparing two. -/
import Derived.Test.YtilkhamlhbbmgaaDoorBas
namespace Go.Proofs.YtilkhamlhbbmgaaDoor
open Go.RowKit

/-- The row v reads as the numbers l in w; it lies below block B. -/
def IRow (w : World) (B : Nat) (v : Value) (l : List Int) : Prop :=
  ∃ a c, v = .slice a l.length c ∧ l.length ≤ c ∧ c ≤ maxLen ∧ (l = [] ∨ ∃ b off, a = some ⟨b, off, none⟩ ∧ b < B ∧ ∀ j (h : j < l.length), w.cell? ⟨b, off + j, none⟩ = some (.int .i64 l[j]))
theorem IRow.below {w W : World} {B : Nat} {v : Value} {l : List Int} (h : IRow w B v l) (hb : Below B w W) : IRow W B v l := by
  obtain ⟨a, c, rfl, h1, h2, h3⟩ := h
  refine ⟨a, c, rfl, h1, h2, ?_⟩
  rcases h3 with h3 | ⟨b, off, rfl, h4, h5⟩
  · exact .inl h3
  · exact .inr ⟨b, off, rfl, h4, fun j hj => (hb.cell (p := ⟨b, off + j, none⟩) h4).trans (h5 j hj)⟩
theorem IRow.mono {w : World} {B C : Nat} {v : Value} {l : List Int} (h : IRow w B v l) (hb : B ≤ C) : IRow w C v l := by
  obtain ⟨a, c, rfl, h1, h2, h3⟩ := h
  refine ⟨a, c, rfl, h1, h2, ?_⟩
  rcases h3 with h3 | ⟨b, off, rfl, h4, h5⟩
  · exact .inl h3
  · exact .inr ⟨b, off, rfl, by omega, h5⟩
theorem IRow.next {w W : World} {v : Value} {l : List Int} (h : IRow w w.heap.size v l) (hb : Below w.heap.size w W) : IRow W W.heap.size v l := (h.below hb).mono hb.size
theorem IRow.nil (w : World) (B : Nat) : IRow w B (.slice none 0 0) [] := ⟨none, 0, rfl, Nat.le_refl _, by unfold maxLen; omega, .inl rfl⟩
theorem IRow.len {w : World} {B : Nat} {v : Value} {l : List Int} (h : IRow w B v l) : l.length ≤ maxLen := by
  obtain ⟨a, c, rfl, h1, h2, h3⟩ := h
  omega
/-- The cells of numbers. -/
def icells (l : List Int) : List Value := l.map (Value.int .i64)
theorem icells_len (l : List Int) : (icells l).length = l.length := by simp [icells]
theorem icells_one (l : List Int) : ∀ v ∈ icells l, v.oneCell' = true := by intro v hv; obtain ⟨x, _, rfl⟩ := List.mem_map.1 hv; rfl
theorem icells_app (l m : List Int) : icells (l ++ m) = icells l ++ icells m := by simp [icells]
theorem IRow.of_own {w : World} {B : Nat} {v : Value} {l : List Int} (h : w.ownsRow B 3 1 v l.length (icells l)) : IRow w w.heap.size v l := by
  have hcl := @World.ownsRow.cells _ _ _ _ _ _ _ h
  have hlt := h.lt
  rcases h.2 with ⟨rfl, h0⟩ | ⟨g, cap, cur, rfl, hb, hg, h1, h2, _⟩
  · have : l = [] := List.eq_nil_of_length_eq_zero h0
    subst this
    exact IRow.nil w _
  · refine ⟨_, cap, rfl, h1, h2, .inr ⟨g, 0, rfl, (Array.getElem?_eq_some_iff.1 hg).1, fun j hj => ?_⟩⟩
    have := hcl (g := g) rfl j (.int .i64 l[j]) (by simp [icells, hj])
    rw [Addr.add_mid] at this
    exact this

theorem any_take {p : Int → Bool} {l : List Int} {k : Nat} (_hk : k ≤ l.length) : (∀ j (h : j < l.length), j < k → p l[j] = false) → (k = l.length → l.any p = false) := by
  intro h e
  rw [List.any_eq_false]
  intro x hx
  obtain ⟨j, hj, rfl⟩ := List.mem_iff_getElem.1 hx
  rw [h j hj (by omega)]; simp
theorem any_at {p : Int → Bool} {l : List Int} {k : Nat} (hk : k < l.length) (h : p l[k] = true) : l.any p = true := List.any_eq_true.2 ⟨l[k], List.getElem_mem hk, h⟩

/-- slices.IndexFunc with the function 44: a place, or one below 0. -/
def Found44 (l : List Int) (w : World) (e : Ending) (w' : World) : Prop := ∃ z : Int, e = .returned (.int .i64 z) ∧ decide (0 ≤ z) = l.any (fun r => !okPt r) ∧ Below w.heap.size w w'
set_option maxRecDepth 100000 in
set_option maxHeartbeats 1000000 in
theorem index_44 (w : World) (v : Value) (l : List Int) (hv : IRow w w.heap.size v l) : Calls Tryd.prog 66 #[v, .func (.func 44) #[] #[]] w (Found44 l w) := by
  obtain ⟨a, c, rfl, hc, hm, h⟩ := hv
  unfold maxLen at hm
  obtain ⟨N, hN⟩ : ∃ N, l.length = N := ⟨_, rfl⟩
  have HN := Lib.hid hN
  have hA : ∀ p q : Int → Bool, True := fun _ _ => trivial
  have HC : Hid (∀ W, Below w.heap.size w W → ∀ k (hk : k < l.length), ∃ b off, a = some ⟨b, off, none⟩ ∧ W.cell? ⟨b, off + k, none⟩ = some (.int .i64 l[k])) := Lib.hid fun W hW k hk => by
    rcases h with rfl | ⟨b, off, rfl, hb, h⟩
    · simp at hk
    · exact ⟨b, off, rfl, (hW.cell (p := ⟨b, off + k, none⟩) hb).trans (h k hk)⟩
  rw [hN] at hc ⊢
  clear hN h hA
  go_enter Tryd.func66, Tryd.ntmps66
  go_wp2
  go_loopw [5, 8] (fun s5 s8 wr => ∃ k : Nat, k ≤ N ∧ s8 = .int .i64 k ∧ Below w.heap.size w wr ∧ Hid (∀ j (h : j < l.length), j < k → (fun r => !okPt r) l[j] = false)) (fun _ s8 _ => N - (intOf s8).toNat)
  case atStart => exact ⟨0, Nat.zero_le _, rfl, Below.refl _ _, Lib.hid fun j _ h => absurd h (by omega)⟩
  case round =>
    obtain ⟨k, hk, rfl, hbw, HJ⟩ := hrel
    have HB := Lib.hid hbw
    clear hbw
    by_cases hlt : k < N
    · obtain ⟨b, off, rfl, hcell⟩ := HC.out wr HB.out k (by rw [HN.out]; exact hlt)
      obtain ⟨x, hx⟩ : ∃ x, l[k]'(by rw [HN.out]; exact hlt) = x := ⟨_, rfl⟩
      rw [hx] at hcell
      have HX := Lib.hid hx
      clear hx
      go_wp2_with fail
      refine (noRune_any _ _).mono ?_
      rintro e w' ⟨rfl, rfl⟩
      cases hp : (!okPt x) with
      | true =>
        go_wp2
        go_ret
        exact ⟨(k : Int), rfl, by rw [any_at (p := fun r => !okPt r) (k := k) (by rw [HN.out]; exact hlt) (by rw [HX.out]; exact hp)]; simp, HB.out⟩
      | false =>
        have HP := Lib.hid hp
        clear hp
        go_wp2
        go_roundw
        case rel =>
          refine ⟨k + 1, by omega, by go_num, HB.out, Lib.hid fun j h hj => ?_⟩
          by_cases e : j < k
          · exact HJ.out j h e
          · obtain rfl : j = k := by omega
            rw [HX.out]; exact HP.out
        case measure => simp [intOf]; omega
    · go_wp2
      go_ret
      exact ⟨-1, rfl, by rw [any_take (by rw [HN.out]; exact hk) HJ.out (by rw [HN.out]; omega)]; rfl, HB.out⟩
theorem contains_44 (w : World) (v : Value) (l : List Int) (hv : IRow w w.heap.size v l) : Calls Tryd.prog 43 #[v, .func (.func 44) #[] #[]] w fun e w' => e = .returned (.bool (l.any (fun r => !okPt r))) ∧ Below w.heap.size w w' := by
  have HI := Lib.hid (index_44 w v l hv)
  obtain ⟨a, c, rfl, -⟩ := hv
  go_enter Tryd.func43, Tryd.ntmps43
  go_wp2_with fail
  refine HI.out.mono ?_
  rintro e w' ⟨z, rfl, hz, hb⟩
  have HZ := Lib.hid hz
  clear hz HI
  go_wp2
  go_ret
  exact ⟨by rw [← HZ.out]; simp, hb⟩

/-- slices.IndexFunc with the function 51: a place, or one below 0. -/
def Found51 (l : List Int) (w : World) (e : Ending) (w' : World) : Prop := ∃ z : Int, e = .returned (.int .i64 z) ∧ decide (0 ≤ z) = l.any (isSp) ∧ Below w.heap.size w w'
set_option maxRecDepth 100000 in
set_option maxHeartbeats 1000000 in
theorem index_51 (w : World) (v : Value) (l : List Int) (hv : IRow w w.heap.size v l) : Calls Tryd.prog 66 #[v, .func (.func 51) #[] #[]] w (Found51 l w) := by
  obtain ⟨a, c, rfl, hc, hm, h⟩ := hv
  unfold maxLen at hm
  obtain ⟨N, hN⟩ : ∃ N, l.length = N := ⟨_, rfl⟩
  have HN := Lib.hid hN
  have hA : ∀ p q : Int → Bool, True := fun _ _ => trivial
  have HC : Hid (∀ W, Below w.heap.size w W → ∀ k (hk : k < l.length), ∃ b off, a = some ⟨b, off, none⟩ ∧ W.cell? ⟨b, off + k, none⟩ = some (.int .i64 l[k])) := Lib.hid fun W hW k hk => by
    rcases h with rfl | ⟨b, off, rfl, hb, h⟩
    · simp at hk
    · exact ⟨b, off, rfl, (hW.cell (p := ⟨b, off + k, none⟩) hb).trans (h k hk)⟩
  rw [hN] at hc ⊢
  clear hN h hA
  go_enter Tryd.func66, Tryd.ntmps66
  go_wp2
  go_loopw [5, 8] (fun s5 s8 wr => ∃ k : Nat, k ≤ N ∧ s8 = .int .i64 k ∧ Below w.heap.size w wr ∧ Hid (∀ j (h : j < l.length), j < k → (isSp) l[j] = false)) (fun _ s8 _ => N - (intOf s8).toNat)
  case atStart => exact ⟨0, Nat.zero_le _, rfl, Below.refl _ _, Lib.hid fun j _ h => absurd h (by omega)⟩
  case round =>
    obtain ⟨k, hk, rfl, hbw, HJ⟩ := hrel
    have HB := Lib.hid hbw
    clear hbw
    by_cases hlt : k < N
    · obtain ⟨b, off, rfl, hcell⟩ := HC.out wr HB.out k (by rw [HN.out]; exact hlt)
      obtain ⟨x, hx⟩ : ∃ x, l[k]'(by rw [HN.out]; exact hlt) = x := ⟨_, rfl⟩
      rw [hx] at hcell
      have HX := Lib.hid hx
      clear hx
      go_wp2_with fail
      refine (isSpace_any _ _).mono ?_
      rintro e w' ⟨rfl, rfl⟩
      cases hp : (isSp x) with
      | true =>
        go_wp2
        go_ret
        exact ⟨(k : Int), rfl, by rw [any_at (p := isSp) (k := k) (by rw [HN.out]; exact hlt) (by rw [HX.out]; exact hp)]; simp, HB.out⟩
      | false =>
        have HP := Lib.hid hp
        clear hp
        go_wp2
        go_roundw
        case rel =>
          refine ⟨k + 1, by omega, by go_num, HB.out, Lib.hid fun j h hj => ?_⟩
          by_cases e : j < k
          · exact HJ.out j h e
          · obtain rfl : j = k := by omega
            rw [HX.out]; exact HP.out
        case measure => simp [intOf]; omega
    · go_wp2
      go_ret
      exact ⟨-1, rfl, by rw [any_take (by rw [HN.out]; exact hk) HJ.out (by rw [HN.out]; omega)]; rfl, HB.out⟩
theorem contains_51 (w : World) (v : Value) (l : List Int) (hv : IRow w w.heap.size v l) : Calls Tryd.prog 43 #[v, .func (.func 51) #[] #[]] w fun e w' => e = .returned (.bool (l.any (isSp))) ∧ Below w.heap.size w w' := by
  have HI := Lib.hid (index_51 w v l hv)
  obtain ⟨a, c, rfl, -⟩ := hv
  go_enter Tryd.func43, Tryd.ntmps43
  go_wp2_with fail
  refine HI.out.mono ?_
  rintro e w' ⟨z, rfl, hz, hb⟩
  have HZ := Lib.hid hz
  clear hz HI
  go_wp2
  go_ret
  exact ⟨by rw [← HZ.out]; simp, hb⟩

set_option maxRecDepth 100000 in
set_option maxHeartbeats 1000000 in
theorem same_21 (w : World) (v u : Value) (l m : List Int) (hv : IRow w w.heap.size v l) (hu : IRow w w.heap.size u m) : Calls Tryd.prog 21 #[v, u] w fun e w' => e = .returned (.bool (decide (l = m))) ∧ Below w.heap.size w w' := by
  obtain ⟨a, c, rfl, hc, hm, h⟩ := hv
  obtain ⟨a2, c2, rfl, hc2, hm2, h2⟩ := hu
  unfold maxLen at hm hm2
  by_cases hl : l.length = m.length
  · obtain ⟨N, hN⟩ : ∃ N, l.length = N := ⟨_, rfl⟩
    have hN2 : m.length = N := by omega
    have HN := Lib.hid hN
    have HN2 := Lib.hid hN2
    have HC : Hid (∀ W, Below w.heap.size w W → ∀ k, k < N → ∃ b off b2 off2, ∃ x y : Int, a = some ⟨b, off, none⟩ ∧ a2 = some ⟨b2, off2, none⟩ ∧ l[k]? = some x ∧ m[k]? = some y ∧ W.cell? ⟨b, off + k, none⟩ = some (.int .i64 x) ∧ W.cell? ⟨b2, off2 + k, none⟩ = some (.int .i64 y)) := Lib.hid fun W hW k hk => by
      rcases h with rfl | ⟨b, off, rfl, hb, h⟩
      · simp at hN; omega
      · rcases h2 with rfl | ⟨b2, off2, rfl, hb2, h2⟩
        · simp at hN2; omega
        · exact ⟨b, off, b2, off2, l[k]'(by omega), m[k]'(by omega), rfl, rfl, List.getElem?_eq_getElem _, List.getElem?_eq_getElem _, (hW.cell (p := ⟨b, off + k, none⟩) hb).trans (h k (by omega)), (hW.cell (p := ⟨b2, off2 + k, none⟩) hb2).trans (h2 k (by omega))⟩
    rw [hN] at hc ⊢
    rw [hN2] at hc2 ⊢
    clear h h2 hN hN2 hl
    go_enter Tryd.func21, Tryd.ntmps21
    go_wp2
    go_loopw [5] (fun s5 wr => ∃ k : Nat, k ≤ N ∧ s5 = .int .i64 k ∧ Below w.heap.size w wr ∧ Hid (l.take k = m.take k)) (fun s5 _ => N - (intOf s5).toNat)
    case atStart => exact ⟨0, Nat.zero_le _, rfl, Below.refl _ _, Lib.hid rfl⟩
    case round =>
      obtain ⟨k, hk, rfl, hbw, HJ⟩ := hrel
      have HB := Lib.hid hbw
      clear hbw
      by_cases hlt : k < N
      · obtain ⟨b, off, b2, off2, x, y, rfl, rfl, hx, hy, hcx, hcy⟩ := HC.out wr HB.out k hlt
        have HX := Lib.hid hx
        have HY := Lib.hid hy
        have i0 : (0 : Int) ≤ (k : Int) := by omega
        have i1 : (k : Int) < (N : Int) := by omega
        clear hx hy
        by_cases hxy : x = y
        · have hd : (x != y) = false := by simpa using hxy
          have HXY := Lib.hid hxy
          clear hxy
          go_wp2_with fail
          go_quiet (fail)
          go_wp2
          go_roundw
          case rel =>
            refine ⟨k + 1, by omega, by go_num, below_drewN HB.out _, Lib.hid ?_⟩
            rw [List.take_add_one, List.take_add_one, HJ.out, HX.out, HY.out, HXY.out]
          case measure => simp [intOf]; omega
        · have hd : (x != y) = true := by simpa using hxy
          have HXY := Lib.hid hxy
          clear hxy
          go_wp2_with fail
          go_quiet (fail)
          go_wp2
          go_ret
          have hne : l ≠ m := fun e => by
            have h3 := HX.out
            have h4 := HY.out
            rw [e, h4] at h3
            injection h3 with h3
            exact HXY.out h3.symm
          rw [decide_eq_false hne]
          exact ⟨rfl, below_drewN HB.out _⟩
      · go_wp2
        go_ret
        refine ⟨?_, HB.out⟩
        have hkk : k = N := by omega
        have hj := HJ.out
        rw [hkk, List.take_of_length_le (by rw [HN.out]; exact Nat.le_refl _), List.take_of_length_le (by rw [HN2.out]; exact Nat.le_refl _)] at hj
        rw [decide_eq_true hj]; rfl
  · have hd : decide (l = m) = false := decide_eq_false fun e => hl (by rw [e])
    rw [hd]
    obtain ⟨N, hN⟩ : ∃ N, l.length = N := ⟨_, rfl⟩
    obtain ⟨M, hM⟩ : ∃ N, m.length = N := ⟨_, rfl⟩
    rw [hN] at hc hl ⊢
    rw [hM] at hc2 hl ⊢
    have d : ((N : Int) != (M : Int)) = true := by simp; omega
    clear h h2 hN hM hl hd
    go_enter Tryd.func21, Tryd.ntmps21
    go_wp2
    go_ret
    exact ⟨rfl, Below.refl _ _⟩

set_option maxRecDepth 100000 in
set_option maxHeartbeats 1000000 in
theorem same_36 (w : World) (v u : Value) (l m : List Int) (hv : IRow w w.heap.size v l) (hu : IRow w w.heap.size u m) : Calls Tryd.prog 36 #[v, u] w fun e w' => e = .returned (.bool (decide (l = m))) ∧ Below w.heap.size w w' := by
  obtain ⟨a, c, rfl, hc, hm, h⟩ := hv
  obtain ⟨a2, c2, rfl, hc2, hm2, h2⟩ := hu
  unfold maxLen at hm hm2
  by_cases hl : l.length = m.length
  · obtain ⟨N, hN⟩ : ∃ N, l.length = N := ⟨_, rfl⟩
    have hN2 : m.length = N := by omega
    have HN := Lib.hid hN
    have HN2 := Lib.hid hN2
    have HC : Hid (∀ W, Below w.heap.size w W → ∀ k, k < N → ∃ b off b2 off2, ∃ x y : Int, a = some ⟨b, off, none⟩ ∧ a2 = some ⟨b2, off2, none⟩ ∧ l[k]? = some x ∧ m[k]? = some y ∧ W.cell? ⟨b, off + k, none⟩ = some (.int .i64 x) ∧ W.cell? ⟨b2, off2 + k, none⟩ = some (.int .i64 y)) := Lib.hid fun W hW k hk => by
      rcases h with rfl | ⟨b, off, rfl, hb, h⟩
      · simp at hN; omega
      · rcases h2 with rfl | ⟨b2, off2, rfl, hb2, h2⟩
        · simp at hN2; omega
        · exact ⟨b, off, b2, off2, l[k]'(by omega), m[k]'(by omega), rfl, rfl, List.getElem?_eq_getElem _, List.getElem?_eq_getElem _, (hW.cell (p := ⟨b, off + k, none⟩) hb).trans (h k (by omega)), (hW.cell (p := ⟨b2, off2 + k, none⟩) hb2).trans (h2 k (by omega))⟩
    rw [hN] at hc ⊢
    rw [hN2] at hc2 ⊢
    clear h h2 hN hN2 hl
    go_enter Tryd.func36, Tryd.ntmps36
    go_wp2
    go_loopw [5] (fun s5 wr => ∃ k : Nat, k ≤ N ∧ s5 = .int .i64 k ∧ Below w.heap.size w wr ∧ Hid (l.take k = m.take k)) (fun s5 _ => N - (intOf s5).toNat)
    case atStart => exact ⟨0, Nat.zero_le _, rfl, Below.refl _ _, Lib.hid rfl⟩
    case round =>
      obtain ⟨k, hk, rfl, hbw, HJ⟩ := hrel
      have HB := Lib.hid hbw
      clear hbw
      by_cases hlt : k < N
      · obtain ⟨b, off, b2, off2, x, y, rfl, rfl, hx, hy, hcx, hcy⟩ := HC.out wr HB.out k hlt
        have HX := Lib.hid hx
        have HY := Lib.hid hy
        have i0 : (0 : Int) ≤ (k : Int) := by omega
        have i1 : (k : Int) < (N : Int) := by omega
        clear hx hy
        by_cases hxy : x = y
        · have hd : (x != y) = false := by simpa using hxy
          have HXY := Lib.hid hxy
          clear hxy
          go_wp2_with fail
          go_quiet (fail)
          go_wp2
          go_roundw
          case rel =>
            refine ⟨k + 1, by omega, by go_num, below_drewN HB.out _, Lib.hid ?_⟩
            rw [List.take_add_one, List.take_add_one, HJ.out, HX.out, HY.out, HXY.out]
          case measure => simp [intOf]; omega
        · have hd : (x != y) = true := by simpa using hxy
          have HXY := Lib.hid hxy
          clear hxy
          go_wp2_with fail
          go_quiet (fail)
          go_wp2
          go_ret
          have hne : l ≠ m := fun e => by
            have h3 := HX.out
            have h4 := HY.out
            rw [e, h4] at h3
            injection h3 with h3
            exact HXY.out h3.symm
          rw [decide_eq_false hne]
          exact ⟨rfl, below_drewN HB.out _⟩
      · go_wp2
        go_ret
        refine ⟨?_, HB.out⟩
        have hkk : k = N := by omega
        have hj := HJ.out
        rw [hkk, List.take_of_length_le (by rw [HN.out]; exact Nat.le_refl _), List.take_of_length_le (by rw [HN2.out]; exact Nat.le_refl _)] at hj
        rw [decide_eq_true hj]; rfl
  · have hd : decide (l = m) = false := decide_eq_false fun e => hl (by rw [e])
    rw [hd]
    obtain ⟨N, hN⟩ : ∃ N, l.length = N := ⟨_, rfl⟩
    obtain ⟨M, hM⟩ : ∃ N, m.length = N := ⟨_, rfl⟩
    rw [hN] at hc hl ⊢
    rw [hM] at hc2 hl ⊢
    have d : ((N : Int) != (M : Int)) = true := by simp; omega
    clear h h2 hN hM hl hd
    go_enter Tryd.func36, Tryd.ntmps36
    go_wp2
    go_ret
    exact ⟨rfl, Below.refl _ _⟩
end Go.Proofs.YtilkhamlhbbmgaaDoor
