/- Rows of numbers: looking for one, comparing two. -/
import Derived.Test.YtljgcpfibamdpaaDoorBas
namespace Go.Proofs.YtljgcpfibamdpaaDoor
open Go.RowKit

/-- The row v reads as the numbers l in w; it lies below block B. -/
def IRow (w : World) (B : Nat) (v : Value) (l : List Int) : Prop :=
  ∃ a c, v = .slice a l.length c ∧ l.length ≤ c ∧ c ≤ maxLen ∧ (l = [] ∨ ∃ b off, a = some ⟨b, off, none⟩ ∧ b < B ∧ ∀ j (h : j < l.length), w.cell? ⟨b, off + j, none⟩ = some (.int .i64 l[j]))
theorem IRow.below {w W : World} {B : Nat} {v : Value} {l : List Int} (h : IRow w B v l) (hb : Below B w W) : IRow W B v l := by
  obtain ⟨a, c, rfl, h1, h2, h3⟩ := h
  refine ⟨a, c, rfl, h1, h2, ?_⟩
  rcases h3 with h3 | ⟨b, off, rfl, h4, h5⟩
  · exact .inl h3
  · exact .inr ⟨b, off, rfl, h4, fun j hj => (hb.cell (p := ⟨b, off + j, none⟩) h4).trans (h5 j hj)⟩
theorem IRow.mono {w : World} {B C : Nat} {v : Value} {l : List Int} (h : IRow w B v l) (hb : B ≤ C) : IRow w C v l := by
  obtain ⟨a, c, rfl, h1, h2, h3⟩ := h
  refine ⟨a, c, rfl, h1, h2, ?_⟩
  rcases h3 with h3 | ⟨b, off, rfl, h4, h5⟩
  · exact .inl h3
  · exact .inr ⟨b, off, rfl, by omega, h5⟩
theorem IRow.next {w W : World} {v : Value} {l : List Int} (h : IRow w w.heap.size v l) (hb : Below w.heap.size w W) : IRow W W.heap.size v l := (h.below hb).mono hb.size
theorem IRow.nil (w : World) (B : Nat) : IRow w B (.slice none 0 0) [] := ⟨none, 0, rfl, Nat.le_refl _, by unfold maxLen; omega, .inl rfl⟩
theorem IRow.len {w : World} {B : Nat} {v : Value} {l : List Int} (h : IRow w B v l) : l.length ≤ maxLen := by
  obtain ⟨a, c, rfl, h1, h2, h3⟩ := h
  omega
/-- The cells of numbers. -/
def icells (l : List Int) : List Value := l.map (Value.int .i64)
theorem icells_len (l : List Int) : (icells l).length = l.length := by simp [icells]
theorem icells_one (l : List Int) : ∀ v ∈ icells l, v.oneCell' = true := by intro v hv; obtain ⟨x, _, rfl⟩ := List.mem_map.1 hv; rfl
theorem icells_app (l m : List Int) : icells (l ++ m) = icells l ++ icells m := by simp [icells]
theorem IRow.of_own {w : World} {B : Nat} {v : Value} {l : List Int} (h : w.ownsRow B 3 1 v l.length (icells l)) : IRow w w.heap.size v l := by
  have hcl := @World.ownsRow.cells _ _ _ _ _ _ _ h
  have hlt := h.lt
  rcases h.2 with ⟨rfl, h0⟩ | ⟨g, cap, cur, rfl, hb, hg, h1, h2, _⟩
  · have : l = [] := List.eq_nil_of_length_eq_zero h0
    subst this
    exact IRow.nil w _
  · refine ⟨_, cap, rfl, h1, h2, .inr ⟨g, 0, rfl, (Array.getElem?_eq_some_iff.1 hg).1, fun j hj => ?_⟩⟩
    have := hcl (g := g) rfl j (.int .i64 l[j]) (by simp [icells, hj])
    rw [Addr.add_mid] at this
    exact this

theorem any_take {p : Int → Bool} {l : List Int} {k : Nat} (_hk : k ≤ l.length) : (∀ j (h : j < l.length), j < k → p l[j] = false) → (k = l.length → l.any p = false) := by
  intro h e
  rw [List.any_eq_false]
  intro x hx
  obtain ⟨j, hj, rfl⟩ := List.mem_iff_getElem.1 hx
  rw [h j hj (by omega)]; simp
theorem any_at {p : Int → Bool} {l : List Int} {k : Nat} (hk : k < l.length) (h : p l[k] = true) : l.any p = true := List.any_eq_true.2 ⟨l[k], List.getElem_mem hk, h⟩

/-- slices.IndexFunc with the function 44: a place, or one below 0. -/
def Found44 (l : List Int) (w : World) (e : Ending) (w' : World) : Prop := ∃ z : Int, e = .returned (.int .i64 z) ∧ decide (0 ≤ z) = l.any (fun r => !okPt r) ∧ Below w.heap.size w w'
set_option maxRecDepth 100000 in
set_option maxHeartbeats 1000000 in
theorem index_44 (w : World) (v : Value) (l : List Int) (hv : IRow w w.heap.size v l) : Calls Tryd.prog 67 #[v, .func (.func 53) #[] #[]] w (Found44 l w) := by
  obtain ⟨a, c, rfl, hc, hm, h⟩ := hv
  unfold maxLen at hm
  obtain ⟨N, hN⟩ : ∃ N, l.length = N := ⟨_, rfl⟩
  have HN := Lib.hid hN
  have hA : ∀ p q : Int → Bool, True := fun _ _ => trivial
  have HC : Hid (∀ W, Below w.heap.size w W → ∀ k (hk : k < l.length), ∃ b off, a = some ⟨b, off, none⟩ ∧ W.cell? ⟨b, off + k, none⟩ = some (.int .i64 l[k])) := Lib.hid fun W hW k hk => by
    rcases h with rfl | ⟨b, off, rfl, hb, h⟩
    · simp at hk
    · exact ⟨b, off, rfl, (hW.cell (p := ⟨b, off + k, none⟩) hb).trans (h k hk)⟩
  rw [hN] at hc ⊢
  clear hN h hA
  go_enter Tryd.func67, Tryd.ntmps67
  go_wp2
  go_loopw [5, 8] (fun s5 s8 wr => ∃ k : Nat, k ≤ N ∧ s8 = .int .i64 k ∧ Below w.heap.size w wr ∧ Hid (∀ j (h : j < l.length), j < k → (fun r => !okPt r) l[j] = false)) (fun _ s8 _ => N - (intOf s8).toNat)
  case atStart => exact ⟨0, Nat.zero_le _, rfl, Below.refl _ _, Lib.hid fun j _ h => absurd h (by omega)⟩
  case round =>
    obtain ⟨k, hk, rfl, hbw, HJ⟩ := hrel
    have HB := Lib.hid hbw
    clear hbw
    by_cases hlt : k < N
    · obtain ⟨b, off, rfl, hcell⟩ := HC.out wr HB.out k (by rw [HN.out]; exact hlt)
      obtain ⟨x, hx⟩ : ∃ x, l[k]'(by rw [HN.out]; exact hlt) = x := ⟨_, rfl⟩
      rw [hx] at hcell
      have HX := Lib.hid hx
      clear hx
      go_wp2_with fail
      refine (noRune_any _ _).mono ?_
      rintro e w' ⟨rfl, rfl⟩
      cases hp : (!okPt x) with
      | true =>
        go_wp2
        go_ret
        exact ⟨(k : Int), rfl, by rw [any_at (p := fun r => !okPt r) (k := k) (by rw [HN.out]; exact hlt) (by rw [HX.out]; exact hp)]; simp, HB.out⟩
      | false =>
        have HP := Lib.hid hp
        clear hp
        go_wp2
        go_roundw
        case rel =>
          refine ⟨k + 1, by omega, by go_num, HB.out, Lib.hid fun j h hj => ?_⟩
          by_cases e : j < k
          · exact HJ.out j h e
          · obtain rfl : j = k := by omega
            rw [HX.out]; exact HP.out
        case measure => simp [intOf]; omega
    · go_wp2
      go_ret
      exact ⟨-1, rfl, by rw [any_take (by rw [HN.out]; exact hk) HJ.out (by rw [HN.out]; omega)]; rfl, HB.out⟩
theorem contains_44 (w : World) (v : Value) (l : List Int) (hv : IRow w w.heap.size v l) : Calls Tryd.prog 44 #[v, .func (.func 53) #[] #[]] w fun e w' => e = .returned (.bool (l.any (fun r => !okPt r))) ∧ Below w.heap.size w w' := by
  have HI := Lib.hid (index_44 w v l hv)
  obtain ⟨a, c, rfl, -⟩ := hv
  go_enter Tryd.func44, Tryd.ntmps44
  go_wp2_with fail
  refine HI.out.mono ?_
  rintro e w' ⟨z, rfl, hz, hb⟩
  have HZ := Lib.hid hz
  clear hz HI
  go_wp2
  go_ret
  exact ⟨by rw [← HZ.out]; simp, hb⟩

end Go.Proofs.YtljgcpfibamdpaaDoor
