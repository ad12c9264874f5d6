/- Direction: the small functions. -/
import Derived.Test.YtilkhamlhbbmgaaDoorLvl
namespace Go.Proofs.YtilkhamlhbbmgaaDoor
open Go.RowKit

theorem dnoRune_any (w : World) (r : Int) : Calls Tryd.prog 55 #[.int .i64 r] w fun e w' => e = .returned (.bool (!okPt r)) ∧ Below w.heap.size w w' := by
  have HK := Lib.hid (kind_any w r)
  have he : kindE r = if okPt r then 0 else 90 := rfl
  rw [he] at HK
  obtain ⟨kv, hkv⟩ : ∃ z, kindV r = z := ⟨_, rfl⟩
  rw [hkv] at HK
  clear he hkv
  cases hp : okPt r with
  | true =>
    rw [hp, if_pos rfl] at HK
    clear hp
    go_enter Tryd.func55, Tryd.ntmps55
    go_wp2_with fail
    refine HK.out.mono ?_
    rintro e w1 ⟨rfl, hb⟩
    have HB := Lib.hid hb
    clear hb
    go_wp2
    go_ret
    exact ⟨rfl, HB.out⟩
  | false =>
    rw [hp, if_neg (by simp)] at HK
    clear hp
    go_enter Tryd.func55, Tryd.ntmps55
    go_wp2_with fail
    refine HK.out.mono ?_
    rintro e w1 ⟨rfl, hb⟩
    have HB := Lib.hid hb
    clear hb
    go_wp2
    go_ret
    exact ⟨rfl, HB.out⟩
/-- Is a number no level? -/
def noLv (r : Int) : Bool := decide (r < 0) || decide (2 < r)
theorem noLevel_any (w : World) (r : Int) : Calls Tryd.prog 60 #[.int .i64 r] w fun e w' => e = .returned (.bool (noLv r)) ∧ w' = w := by
  unfold noLv
  by_cases h : r < 0
  · have d : decide (r < 0) = true := decide_eq_true h
    rw [d]
    clear h
    go_enter Tryd.func60, Tryd.ntmps60
    go_wp2
    go_ret
    exact ⟨rfl, rfl⟩
  · have d : decide (r < 0) = false := decide_eq_false h
    rw [d]
    clear h
    go_enter Tryd.func60, Tryd.ntmps60
    go_wp2
    go_ret
    exact ⟨rfl, rfl⟩
def bsOf (x : Bool) : Int := if x then 1 else 0
theorem baseOf_any (w : World) (x : Bool) : Calls Tryd.prog 57 #[.bool x] w fun e w' => e = .returned (.int .i64 (bsOf x)) ∧ w' = w := by
  cases x
  all_goals
    go_enter Tryd.func57, Tryd.ntmps57
    go_wp2
    go_ret
    exact ⟨rfl, rfl⟩
theorem rbase_any (w : World) (x : Bool) : Calls Tryd.prog 59 #[.bool x] w fun e w' => e = .returned (.int .i64 (bsOf x)) ∧ w' = w := by
  cases x
  all_goals
    go_enter Tryd.func59, Tryd.ntmps59
    go_wp2
    go_ret
    exact ⟨rfl, rfl⟩
theorem bsOf_in (x : Bool) : bsOf x = 0 ∨ bsOf x = 1 := by cases x <;> simp [bsOf]
theorem strong_any (w : World) (k : Int) (x : Bool) : Calls Tryd.prog 58 #[.int .i64 k, .bool x] w fun e w' => e = .returned (.int .i64 (if k = 4 then 1 else if k = 3 ∨ k = 2 then 2 * bsOf x else -1)) ∧ w' = w := by
  have HB := Lib.hid (fun W => rbase_any W x)
  by_cases h4 : k = 4
  · subst h4
    rw [if_pos rfl]
    go_enter Tryd.func58, Tryd.ntmps58
    go_wp2
    go_ret
    exact ⟨rfl, rfl⟩
  · rw [if_neg h4]
    have d4 : (k == 4) = false := by simpa using h4
    clear h4
    by_cases h3 : k = 3
    · subst h3
      rw [if_pos (.inl rfl)]
      have hw : IntKind.i64.wrap (2 * bsOf x) = 2 * bsOf x := by cases x <;> rfl
      obtain ⟨z, hz⟩ : ∃ z, bsOf x = z := ⟨_, rfl⟩
      rw [hz] at HB hw ⊢
      clear hz
      go_enter Tryd.func58, Tryd.ntmps58
      go_wp2_with fail
      refine (HB.out _).mono ?_
      rintro e w_ ⟨rfl, hw_⟩
      have hw2_ := hw_.symm
      subst hw2_
      clear hw_
      go_wp2
      go_ret
      exact ⟨rfl, rfl⟩
    · have d3 : (k == 3) = false := by simpa using h3
      by_cases h2 : k = 2
      · subst h2
        rw [if_pos (.inr rfl)]
        have hw : IntKind.i64.wrap (2 * bsOf x) = 2 * bsOf x := by cases x <;> rfl
        obtain ⟨z, hz⟩ : ∃ z, bsOf x = z := ⟨_, rfl⟩
        rw [hz] at HB hw ⊢
        clear hz h3
        go_enter Tryd.func58, Tryd.ntmps58
        go_wp2_with fail
        refine (HB.out _).mono ?_
        rintro e w_ ⟨rfl, hw_⟩
        have hw2_ := hw_.symm
        subst hw2_
        clear hw_
        go_wp2
        go_ret
        exact ⟨rfl, rfl⟩
      · have d2 : (k == 2) = false := by simpa using h2
        rw [if_neg (by omega)]
        clear h2 h3
        go_enter Tryd.func58, Tryd.ntmps58
        go_wp2
        go_ret
        exact ⟨rfl, rfl⟩
theorem isGap_any (w : World) (r : Int) : Calls Tryd.prog 71 #[.int .i64 r] w fun e w' => e = .returned (.bool (decide (r = -1))) ∧ w' = w := by
  have d : decide (r = -1) = (r == -1) := rfl
  rw [d]
  go_enter Tryd.func71, Tryd.ntmps71
  go_wp2
  go_ret
  exact ⟨rfl, rfl⟩
theorem atLeast_any (w : World) (r m : Int) (Q : Nat) (hQ : w.cell? ⟨Q, 0, none⟩ = some (.int .i64 m)) : Calls Tryd.prog 81 #[.int .i64 r, .pointer (some ⟨Q, 0, none⟩)] w fun e w' => e = .returned (.bool (decide (m ≤ r))) ∧ w' = w := by
  go_enter Tryd.func81, Tryd.ntmps81
  go_wp2
  go_ret
  exact ⟨rfl, rfl⟩

/-- slices.IndexFunc with the function 55: a place, or one below 0. -/
def Found55 (l : List Int) (w : World) (e : Ending) (w' : World) : Prop := ∃ z : Int, e = .returned (.int .i64 z) ∧ decide (0 ≤ z) = l.any (fun r => !okPt r) ∧ Below w.heap.size w w'
set_option maxRecDepth 100000 in
set_option maxHeartbeats 1000000 in
theorem index_55 (w : World) (v : Value) (l : List Int) (hv : IRow w w.heap.size v l) : Calls Tryd.prog 66 #[v, .func (.func 55) #[] #[]] w (Found55 l w) := by
  obtain ⟨a, c, rfl, hc, hm, h⟩ := hv
  unfold maxLen at hm
  obtain ⟨N, hN⟩ : ∃ N, l.length = N := ⟨_, rfl⟩
  have HN := Lib.hid hN
  have hA : ∀ p q : Int → Bool, True := fun _ _ => trivial
  have HC : Hid (∀ W, Below w.heap.size w W → ∀ k (hk : k < l.length), ∃ b off, a = some ⟨b, off, none⟩ ∧ W.cell? ⟨b, off + k, none⟩ = some (.int .i64 l[k])) := Lib.hid fun W hW k hk => by
    rcases h with rfl | ⟨b, off, rfl, hb, h⟩
    · simp at hk
    · exact ⟨b, off, rfl, (hW.cell (p := ⟨b, off + k, none⟩) hb).trans (h k hk)⟩
  rw [hN] at hc ⊢
  clear hN h hA
  go_enter Tryd.func66, Tryd.ntmps66
  go_wp2
  go_loopw [5, 8] (fun s5 s8 wr => ∃ k : Nat, k ≤ N ∧ s8 = .int .i64 k ∧ Below w.heap.size w wr ∧ Hid (∀ j (h : j < l.length), j < k → (fun r => !okPt r) l[j] = false)) (fun _ s8 _ => N - (intOf s8).toNat)
  case atStart => exact ⟨0, Nat.zero_le _, rfl, Below.refl _ _, Lib.hid fun j _ h => absurd h (by omega)⟩
  case round =>
    obtain ⟨k, hk, rfl, hbw, HJ⟩ := hrel
    have HB := Lib.hid hbw
    clear hbw
    by_cases hlt : k < N
    · obtain ⟨b, off, rfl, hcell⟩ := HC.out wr HB.out k (by rw [HN.out]; exact hlt)
      obtain ⟨x, hx⟩ : ∃ x, l[k]'(by rw [HN.out]; exact hlt) = x := ⟨_, rfl⟩
      rw [hx] at hcell
      have HX := Lib.hid hx
      clear hx
      go_wp2_with fail
      refine (dnoRune_any _ _).mono ?_
      rintro e w' ⟨rfl, hb⟩
      cases hp : (!okPt x) with
      | true =>
        go_wp2
        go_ret
        exact ⟨(k : Int), rfl, by rw [any_at (p := fun r => !okPt r) (k := k) (by rw [HN.out]; exact hlt) (by rw [HX.out]; exact hp)]; simp, (HB.out.trans (hb.mono HB.out.size))⟩
      | false =>
        have HP := Lib.hid hp
        clear hp
        go_wp2
        go_roundw
        case rel =>
          refine ⟨k + 1, by omega, by go_num, (HB.out.trans (hb.mono HB.out.size)), Lib.hid fun j h hj => ?_⟩
          by_cases e : j < k
          · exact HJ.out j h e
          · obtain rfl : j = k := by omega
            rw [HX.out]; exact HP.out
        case measure => simp [intOf]; omega
    · go_wp2
      go_ret
      exact ⟨-1, rfl, by rw [any_take (by rw [HN.out]; exact hk) HJ.out (by rw [HN.out]; omega)]; rfl, HB.out⟩
theorem contains_55 (w : World) (v : Value) (l : List Int) (hv : IRow w w.heap.size v l) : Calls Tryd.prog 43 #[v, .func (.func 55) #[] #[]] w fun e w' => e = .returned (.bool (l.any (fun r => !okPt r))) ∧ Below w.heap.size w w' := by
  have HI := Lib.hid (index_55 w v l hv)
  obtain ⟨a, c, rfl, -⟩ := hv
  go_enter Tryd.func43, Tryd.ntmps43
  go_wp2_with fail
  refine HI.out.mono ?_
  rintro e w' ⟨z, rfl, hz, hb⟩
  have HZ := Lib.hid hz
  clear hz HI
  go_wp2
  go_ret
  exact ⟨by rw [← HZ.out]; simp, hb⟩

/-- slices.IndexFunc with the function 60: a place, or one below 0. -/
def Found60 (l : List Int) (w : World) (e : Ending) (w' : World) : Prop := ∃ z : Int, e = .returned (.int .i64 z) ∧ decide (0 ≤ z) = l.any (noLv) ∧ Below w.heap.size w w'
set_option maxRecDepth 100000 in
set_option maxHeartbeats 1000000 in
theorem index_60 (w : World) (v : Value) (l : List Int) (hv : IRow w w.heap.size v l) : Calls Tryd.prog 66 #[v, .func (.func 60) #[] #[]] w (Found60 l w) := by
  obtain ⟨a, c, rfl, hc, hm, h⟩ := hv
  unfold maxLen at hm
  obtain ⟨N, hN⟩ : ∃ N, l.length = N := ⟨_, rfl⟩
  have HN := Lib.hid hN
  have hA : ∀ p q : Int → Bool, True := fun _ _ => trivial
  have HC : Hid (∀ W, Below w.heap.size w W → ∀ k (hk : k < l.length), ∃ b off, a = some ⟨b, off, none⟩ ∧ W.cell? ⟨b, off + k, none⟩ = some (.int .i64 l[k])) := Lib.hid fun W hW k hk => by
    rcases h with rfl | ⟨b, off, rfl, hb, h⟩
    · simp at hk
    · exact ⟨b, off, rfl, (hW.cell (p := ⟨b, off + k, none⟩) hb).trans (h k hk)⟩
  rw [hN] at hc ⊢
  clear hN h hA
  go_enter Tryd.func66, Tryd.ntmps66
  go_wp2
  go_loopw [5, 8] (fun s5 s8 wr => ∃ k : Nat, k ≤ N ∧ s8 = .int .i64 k ∧ Below w.heap.size w wr ∧ Hid (∀ j (h : j < l.length), j < k → (noLv) l[j] = false)) (fun _ s8 _ => N - (intOf s8).toNat)
  case atStart => exact ⟨0, Nat.zero_le _, rfl, Below.refl _ _, Lib.hid fun j _ h => absurd h (by omega)⟩
  case round =>
    obtain ⟨k, hk, rfl, hbw, HJ⟩ := hrel
    have HB := Lib.hid hbw
    clear hbw
    by_cases hlt : k < N
    · obtain ⟨b, off, rfl, hcell⟩ := HC.out wr HB.out k (by rw [HN.out]; exact hlt)
      obtain ⟨x, hx⟩ : ∃ x, l[k]'(by rw [HN.out]; exact hlt) = x := ⟨_, rfl⟩
      rw [hx] at hcell
      have HX := Lib.hid hx
      clear hx
      go_wp2_with fail
      refine (noLevel_any _ _).mono ?_
      rintro e w' ⟨rfl, rfl⟩
      cases hp : (noLv x) with
      | true =>
        go_wp2
        go_ret
        exact ⟨(k : Int), rfl, by rw [any_at (p := noLv) (k := k) (by rw [HN.out]; exact hlt) (by rw [HX.out]; exact hp)]; simp, HB.out⟩
      | false =>
        have HP := Lib.hid hp
        clear hp
        go_wp2
        go_roundw
        case rel =>
          refine ⟨k + 1, by omega, by go_num, HB.out, Lib.hid fun j h hj => ?_⟩
          by_cases e : j < k
          · exact HJ.out j h e
          · obtain rfl : j = k := by omega
            rw [HX.out]; exact HP.out
        case measure => simp [intOf]; omega
    · go_wp2
      go_ret
      exact ⟨-1, rfl, by rw [any_take (by rw [HN.out]; exact hk) HJ.out (by rw [HN.out]; omega)]; rfl, HB.out⟩
theorem contains_60 (w : World) (v : Value) (l : List Int) (hv : IRow w w.heap.size v l) : Calls Tryd.prog 43 #[v, .func (.func 60) #[] #[]] w fun e w' => e = .returned (.bool (l.any (noLv))) ∧ Below w.heap.size w w' := by
  have HI := Lib.hid (index_60 w v l hv)
  obtain ⟨a, c, rfl, -⟩ := hv
  go_enter Tryd.func43, Tryd.ntmps43
  go_wp2_with fail
  refine HI.out.mono ?_
  rintro e w' ⟨z, rfl, hz, hb⟩
  have HZ := Lib.hid hz
  clear hz HI
  go_wp2
  go_ret
  exact ⟨by rw [← HZ.out]; simp, hb⟩

/-- Few numbers, or too many. -/
def fewD (n : Nat) : Bool := decide (n ≤ 120) || (decide (4096 < n) && decide (n ≤ 5000))
theorem fewD_any (w : World) (v : Value) (l : List Int) (hv : IRow w w.heap.size v l) : Calls Tryd.prog 31 #[v] w fun e w' => e = .returned (.bool (fewD l.length)) ∧ w' = w := by
  obtain ⟨a, c, rfl, -⟩ := hv
  obtain ⟨n, hn⟩ : ∃ n, l.length = n := ⟨_, rfl⟩
  rw [hn]
  unfold fewD
  clear hn
  by_cases h1 : n ≤ 120
  · have d1 : decide ((n : Int) ≤ 120) = true := by simp; omega
    rw [decide_eq_true h1]
    clear h1
    go_enter Tryd.func31, Tryd.ntmps31
    go_wp2
    go_ret
    exact ⟨rfl, rfl⟩
  · have d1 : decide ((n : Int) ≤ 120) = false := by simp; omega
    rw [decide_eq_false h1]
    by_cases h2 : 4096 < n
    · have d2 : decide (4096 < (n : Int)) = true := by simp; omega
      have d3 : decide ((n : Int) ≤ 5000) = decide (n ≤ 5000) := by rw [decide_eq_decide]; omega
      rw [decide_eq_true h2, ← d3]
      clear h1 h2 d3
      go_enter Tryd.func31, Tryd.ntmps31
      go_wp2
      go_ret
      exact ⟨by simp, rfl⟩
    · have d2 : decide (4096 < (n : Int)) = false := by simp; omega
      rw [decide_eq_false h2]
      clear h1 h2
      go_enter Tryd.func31, Tryd.ntmps31
      go_wp2
      go_ret
      exact ⟨rfl, rfl⟩
end Go.Proofs.YtilkhamlhbbmgaaDoor
