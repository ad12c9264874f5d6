/- Direction: fill, around. -/
import Derived.Test.YtilkhamlhbbmgaaDoorOro
namespace Go.Proofs.YtilkhamlhbbmgaaDoor
open Go.RowKit

def fillS (F : Nat → Int) (a b : Nat) (x : Int) (j : Nat) : Int := if a ≤ j ∧ j < b then x else F j
theorem fill_zero (F : Nat → Int) (n a : Nat) (x : Int) : (List.range n).map (fillS F a (a + 0) x) = (List.range n).map F := by
  refine List.map_congr_left fun j _ => ?_
  unfold fillS
  rw [if_neg (by omega)]
theorem fill_set (F : Nat → Int) (n a k : Nat) (x : Int) (_hk : a + k < n) : (icells ((List.range n).map (fillS F a (a + k) x))).set (a + k) (.int .i64 x) = icells ((List.range n).map (fillS F a (a + (k + 1)) x)) := by
  simp only [icells, List.map_map]
  apply List.ext_getElem (by simp)
  intro j h1 h2
  rw [List.getElem_set]
  simp only [List.getElem_map, List.getElem_range, Function.comp_apply, fillS]
  by_cases h : a + k = j
  · rw [if_pos h, if_pos (by omega)]
  · rw [if_neg h]
    by_cases h3 : a ≤ j ∧ j < a + k
    · rw [if_pos h3, if_pos (by omega)]
    · rw [if_neg h3, if_neg (by omega)]
set_option maxRecDepth 100000 in
set_option maxHeartbeats 4000000 in
theorem fill_any (w : World) (g n a m cap : Nat) (F : Nat → Int) (x : Int) (hA : Arr w g (icells ((List.range n).map F))) (hm : a + m ≤ n) (hn : n ≤ 1000000) (_hc : m ≤ cap) : Calls Tryd.prog 72 #[.slice (some ⟨g, a, none⟩) m cap, .int .i64 x] w fun e w' => e = .returned (.tuple #[]) ∧ Arr w' g (icells ((List.range n).map (fillS F a (a + m) x))) ∧ Obk [g] w w' := by
  have HA0 := Lib.hid hA
  rw [← fill_zero F n a x] at HA0
  have HSET := Lib.hid (fill_set F n a)
  clear hA
  go_enter Tryd.func72, Tryd.ntmps72
  go_wp2
  go_loopw [4, 7] (fun s4 s7 wr => ∃ k : Nat, k ≤ m ∧ s7 = .int .i64 k ∧ Hid (Obk [g] w wr) ∧ Hid (Arr wr g (icells ((List.range n).map (fillS F a (a + k) x))))) (fun _ s7 _ => m - (intOf s7).toNat)
  case atStart => exact ⟨0, Nat.zero_le _, rfl, Lib.hid (Obk.refl _ _), HA0⟩
  case round =>
    obtain ⟨k, hk, rfl, HB, HA⟩ := hrel
    by_cases hlt : k < m
    · have hcl : a + k < (icells ((List.range n).map (fillS F a (a + k) x))).length := by simp [icells]; omega
      have hc1 := HA.out.cell (i := a + k) (v := (icells ((List.range n).map (fillS F a (a + k) x)))[a + k]) (List.getElem?_eq_getElem hcl)
      have hf1 := HA.out.frozen hcl
      obtain ⟨y, hy⟩ : ∃ y, fillS F a (a + k) x (a + k) = y := ⟨_, rfl⟩
      have hxx : (icells ((List.range n).map (fillS F a (a + k) x)))[a + k] = .int .i64 y := by rw [← hy]; simp [icells]
      rw [hxx] at hc1
      have HA2 := Lib.hid (HA.out.set (a + k) (.int .i64 x))
      have HB2 := Lib.hid (HB.out.set (b := g) (by simp) (a + k) (.int .i64 x))
      clear hy hxx hcl
      go_wp2
      go_roundw
      case rel => exact ⟨k + 1, by omega, by go_num, HB2, Lib.hid (by rw [← HSET.out k x (by omega)]; exact HA2.out)⟩
      case measure => simp [intOf]; omega
    · have hkm : k = m := by omega
      subst hkm
      go_wp2
      go_end0
      exact ⟨rfl, HA.out, HB.out⟩
/-- The level of a gap from a on, below b. -/
def arS (F : Nat → Int) (n a b : Nat) (bs : Int) : Int := if 0 < a ∧ b < n ∧ F (a - 1) = F b then F b else bs
theorem arr_at {W : World} {g n : Nat} {F : Nat → Int} (h : Arr W g (icells ((List.range n).map F))) {j : Nat} (hj : j < n) : W.cell? ⟨g, j, none⟩ = some (.int .i64 (F j)) := h.cell (by simp only [icells, List.getElem?_map, List.getElem?_range hj]; rfl)
set_option maxRecDepth 100000 in
set_option maxHeartbeats 4000000 in
theorem around_any (w : World) (g n a b : Nat) (F : Nat → Int) (bs : Int) (hA : Arr w g (icells ((List.range n).map F))) (hab : a < b) (hb : b ≤ n) (hn : n ≤ 1000000) : Calls Tryd.prog 73 #[.slice (some ⟨g, 0, none⟩) n n, .int .i64 a, .int .i64 b, .int .i64 bs] w fun e w' => e = .returned (.int .i64 (arS F n a b bs)) ∧ ∃ q, w' = w.drewN q := by
  unfold arS
  by_cases h0 : 0 < a
  · obtain ⟨p, rfl⟩ : ∃ p, a = p + 1 := ⟨a - 1, by omega⟩
    rw [Nat.add_sub_cancel]
    have d0 : decide ((0 : Int) < ((p + 1 : Nat) : Int)) = true := by simp
    have hw : IntKind.i64.wrap (((p + 1 : Nat) : Int) - 1) = (p : Int) := by rw [IntKind.wrap_i64]; omega
    by_cases hbn : b < n
    · have d1 : decide ((b : Int) < (n : Int)) = true := by simp; omega
      have c1 := arr_at hA (show p < n by omega)
      have c2 := arr_at hA hbn
      have c2' : ∀ q, (w.drewN q).cell? ⟨g, b, none⟩ = some (.int .i64 (F b)) := fun q => c2
      by_cases he : F p = F b
      · rw [if_pos ⟨h0, hbn, he⟩]
        rw [he] at c1
        obtain ⟨y, hy⟩ : ∃ y, F b = y := ⟨_, rfl⟩
        rw [hy] at c1 c2 c2' ⊢
        have dy : (y == y) = true := by simp
        clear hA he hy h0
        go_enter Tryd.func73, Tryd.ntmps73
        go_wp2
        go_quiet (fail)
        have c3 := c2' nq
        clear c2'
        go_wp2
        go_ret
        exact ⟨rfl, _, rfl⟩
      · rw [if_neg (fun h => he h.2.2)]
        obtain ⟨y, hy⟩ : ∃ y, F b = y := ⟨_, rfl⟩
        obtain ⟨z, hz⟩ : ∃ y, F p = y := ⟨_, rfl⟩
        rw [hz, hy] at he
        rw [hz] at c1
        rw [hy] at c2
        have dz : (z == y) = false := by simpa using he
        clear hA he hy hz h0 c2'
        go_enter Tryd.func73, Tryd.ntmps73
        go_wp2
        go_quiet (fail)
        go_wp2
        go_ret
        exact ⟨rfl, _, rfl⟩
    · have d1 : decide ((b : Int) < (n : Int)) = false := by simp; omega
      rw [if_neg (fun h => hbn h.2.1)]
      clear hA h0
      go_enter Tryd.func73, Tryd.ntmps73
      go_wp2
      go_quiet (fail)
      go_wp2
      go_ret
      exact ⟨rfl, _, rfl⟩
  · have ha : a = 0 := by omega
    subst ha
    rw [if_neg (by omega)]
    have d0 : decide ((0 : Int) < ((0 : Nat) : Int)) = false := by simp
    clear hA h0
    go_enter Tryd.func73, Tryd.ntmps73
    go_wp2
    go_quiet (fail)
    go_wp2
    go_ret
    exact ⟨rfl, _, rfl⟩
end Go.Proofs.YtilkhamlhbbmgaaDoor
