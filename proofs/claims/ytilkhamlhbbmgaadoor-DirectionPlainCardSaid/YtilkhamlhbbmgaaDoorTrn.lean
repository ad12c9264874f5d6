/- Direction: a piece of a row turned around; the iterator made. -/
import Derived.Test.YtilkhamlhbbmgaaDoorDrn
import Derived.Test.YtilkhamlhbbmgaaDoorRun
namespace Go.Proofs.YtilkhamlhbbmgaaDoor
open Go.RowKit

theorem Arr.mid {W : World} {g a : Nat} {cs vs : List Value} (h : Arr W g cs) (hl : a + vs.length ≤ cs.length) : Arr (W.setCells g a vs) g (cs.take a ++ vs ++ cs.drop (a + vs.length)) := by
  have hlen : (cs.take a ++ vs ++ cs.drop (a + vs.length)).length = cs.length := by simp; omega
  have hin : ∀ j (hj : j < vs.length), (W.setCells g a vs).cell? ⟨g, a + j, none⟩ = some vs[j] := fun j hj => World.cell?_setCells_in g vs a W (fun i hi => by have := (h.there (a + i) (by omega)).1; simpa using this) j hj
  have hout : ∀ j, j < a ∨ a + vs.length ≤ j → (W.setCells g a vs).cell? ⟨g, j, none⟩ = W.cell? ⟨g, j, none⟩ := fun j hj => World.cell?_setCells_out g vs a W ⟨g, j, none⟩ (fun _ _ => hj)
  refine ⟨fun j v hv => ?_, fun j hj => ⟨?_, ?_⟩⟩
  · rw [Nat.zero_add]
    by_cases h1 : j < a
    · rw [hout j (.inl h1)]
      rw [List.append_assoc, List.getElem?_append_left (by simp; omega), List.getElem?_take_of_lt h1] at hv
      simpa using h.at_ j v hv
    · by_cases h2 : j < a + vs.length
      · obtain ⟨i, rfl⟩ : ∃ i, j = a + i := ⟨j - a, by omega⟩
        rw [hin i (by omega)]
        rw [List.append_assoc, List.getElem?_append_right (by simp; omega), List.getElem?_append_left (by simp; omega)] at hv
        rw [show a + i - (cs.take a).length = i by simp; omega, List.getElem?_eq_getElem (by omega)] at hv
        exact hv
      · rw [hout j (.inr (by omega))]
        rw [List.getElem?_append_right (by simp; omega), List.getElem?_drop] at hv
        rw [show a + vs.length + (j - (cs.take a ++ vs).length) = j by simp; omega] at hv
        simpa using h.at_ j v hv
  · rw [Nat.zero_add]
    rw [hlen] at hj
    by_cases h2 : a ≤ j ∧ j < a + vs.length
    · obtain ⟨i, rfl⟩ : ∃ i, j = a + i := ⟨j - a, by omega⟩
      rw [hin i (by omega)]; rfl
    · rw [hout j (by omega)]
      have := (h.there j hj).1; simpa using this
  · rw [hlen] at hj
    rw [World.frozen?_setCells]
    exact (h.there j hj).2
/-- A piece turned around. -/
def revS (F : Nat → Int) (a b j : Nat) : Int := if a ≤ j ∧ j < b then F (a + b - 1 - j) else F j
theorem rev_list (F : Nat → Int) (n a b : Nat) (hab : a ≤ b) (hb : b ≤ n) : ((List.range n).map F).take a ++ ((((List.range n).map F).drop a).take (b - a)).reverse ++ ((List.range n).map F).drop b = (List.range n).map (revS F a b) := by
  apply List.ext_getElem?
  intro j
  by_cases h1 : j < a
  · rw [List.append_assoc, List.getElem?_append_left (by simp; omega), List.getElem?_take_of_lt h1]
    simp only [List.getElem?_map, List.getElem?_range (show j < n by omega), Option.map_some, revS]
    rw [if_neg (by omega)]
  · by_cases h2 : j < b
    · rw [List.append_assoc, List.getElem?_append_right (by simp; omega), List.getElem?_append_left (by simp; omega), List.getElem?_reverse (by simp; omega)]
      simp only [List.length_take, List.length_drop, List.length_map, List.length_range]
      rw [List.getElem?_take_of_lt (by omega), List.getElem?_drop]
      simp only [List.getElem?_map, List.getElem?_range (show j < n by omega), Option.map_some, revS]
      rw [if_pos (by omega), List.getElem?_range (by omega)]
      simp only [Option.map_some]
      congr 2
      omega
    · by_cases h3 : j < n
      · rw [List.getElem?_append_right (by simp; omega), List.getElem?_drop]
        simp only [List.length_append, List.length_take, List.length_reverse, List.length_drop, List.length_map, List.length_range]
        rw [show b + (j - (min a n + min (b - a) (n - a))) = j by omega]
        simp only [List.getElem?_map, List.getElem?_range h3, Option.map_some, revS]
        rw [if_neg (by omega)]
      · rw [List.getElem?_eq_none (by simp; omega), List.getElem?_eq_none (by simp; omega)]
theorem rev_arr (W : World) (g n a b : Nat) (F : Nat → Int) (h : Arr W g (icells ((List.range n).map F))) (hab : a < b) (hb : b ≤ n) (hn : n ≤ 1000000000) : Calls Tryd.prog 82 #[.slice (some ⟨g, a, none⟩) (b - a) (b - a)] W fun e w' => e = .returned (.tuple #[]) ∧ Arr w' g (icells ((List.range n).map (revS F a b))) ∧ Obk [g] W w' := by
  obtain ⟨zs, hzs⟩ : ∃ zs, (((List.range n).map F).drop a).take (b - a) = zs := ⟨_, rfl⟩
  have hzl : zs.length = b - a := by rw [← hzs]; simp; omega
  have hget : ∀ j, j < zs.length → zs.getD j 0 = F (a + j) := fun j hj => by
    rw [← hzs]
    simp only [List.getD]
    rw [List.getElem?_take_of_lt (by omega), List.getElem?_drop, List.getElem?_map, List.getElem?_range (by omega)]
    rfl
  have hcl : (icells ((List.range n).map F)).length = n := by simp [icells]
  have hc := Tryd.slices_Reverse_int_cells g a (b - a) (b - a) zs W (by omega) (by omega) (fun j hj => by
    rw [hget j hj]
    have := h.at_ (a + j) (.int .i64 (F (a + j))) (by simp only [icells, List.getElem?_map, List.getElem?_range (show a + j < n by omega)]; rfl)
    simpa using this) (fun j hj => by have := (h.there (a + j) (by omega)).2; simpa using this)
  refine hc.mono ?_
  rintro e w' ⟨rfl, q, rfl⟩
  rw [← hzl, List.take_length]
  have hA : Arr (W.drewN q) g (icells ((List.range n).map F)) := h.drewN q
  have hm := hA.mid (a := a) (vs := zs.reverse.map (Value.int .i64)) (by rw [hcl]; simp; omega)
  refine ⟨rfl, ?_, ?_⟩
  · have e1 : icells ((List.range n).map (revS F a b)) = (icells ((List.range n).map F)).take a ++ zs.reverse.map (Value.int .i64) ++ (icells ((List.range n).map F)).drop (a + (zs.reverse.map (Value.int .i64)).length) := by
      rw [← rev_list F n a b (by omega) hb, hzs]
      simp only [icells, List.map_append, List.map_take, List.map_drop, List.length_map, List.length_reverse]
      rw [show a + zs.length = b by omega]
    rw [e1]
    exact hm
  · exact ((Obk.refl [g] W).drewN q).moved (grown_setCells _ _ _) (fun k e => by cases e; exact .inl (by simp))
/-- The iterator is made. -/
theorem runsD_any (w : World) (a : Option Addr) (m c : Nat) (f : Fn) (x y : Array Value) : Calls Tryd.prog 70 #[.slice a m c, .func f x y] w fun e w' => e = .returned (.func (.func 80) #[] #[.pointer (some ⟨w.heap.size, 0, none⟩), .pointer (some ⟨w.heap.size + 1, 0, none⟩)]) ∧
    w'.cell? ⟨w.heap.size, 0, none⟩ = some (.slice a m c) ∧ w'.cell? ⟨w.heap.size + 1, 0, none⟩ = some (.func f x y) ∧ Below w.heap.size w w' ∧ w'.heap.size = w.heap.size + 2 := by
  go_enter Tryd.func70, Tryd.ntmps70
  go_wp2
  go_returns
  exact ⟨by simp, by go_cell, by go_cell, by go_grown, by simp⟩
theorem runs71_turn (n : Nat) (hn : 1 ≤ n) (Qs Qf : Nat) (va : Option Addr) (c : Nat) (lev : List Int) (q : Int → Bool) (R : List (Nat × Nat)) (hM9 : lev.length ≤ 1000000000) (hCh : Chain (fun j => q (lev.getD j 0)) lev.length 0 R) (Kp : Nat → World → Prop)
    (hKp : ∀ k W, Kp k W → RunsK va c (.func (.func 71) #[] #[]) Qs Qf lev R k W ∧ ∀ x, Calls Tryd.prog 71 #[.int .i64 x] W fun e w' => e = .returned (.bool (q x)) ∧ w' = W) (w : World) :
    InTurnK n Tryd.prog 80 #[.pointer (some ⟨Qs, 0, none⟩), .pointer (some ⟨Qf, 0, none⟩)] (runV R) R.length none Kp w :=
  fun lb J Jx W _ hJ _ hK hY h0 =>
    (runs71_in n hn lb Qs Qf lev.length R.length va c lev q R rfl hM9 rfl hCh J Jx (fun k W h => (hKp k W (hK k W h)).1) (fun k W h => (hKp k W (hK k W h)).2) (fun k A A' h hb => hJ k A A' none h (gbelow hb) (fun r e => by cases e)) hY W h0).mono fun e W' ⟨h1, h2⟩ => .inl ⟨h1, h2.imp (fun h => ⟨rfl, h⟩) id⟩
theorem runs81_turn (n : Nat) (hn : 1 ≤ n) (Qs Qf Qm : Nat) (va : Option Addr) (c : Nat) (lev : List Int) (q : Int → Bool) (R : List (Nat × Nat)) (hM9 : lev.length ≤ 1000000000) (hCh : Chain (fun j => q (lev.getD j 0)) lev.length 0 R) (Kp : Nat → World → Prop)
    (hKp : ∀ k W, Kp k W → RunsK va c (.func (.func 81) #[] #[.pointer (some ⟨Qm, 0, none⟩)]) Qs Qf lev R k W ∧ ∀ x, Calls Tryd.prog 81 #[.int .i64 x, .pointer (some ⟨Qm, 0, none⟩)] W fun e w' => e = .returned (.bool (q x)) ∧ w' = W) (w : World) :
    InTurnK n Tryd.prog 80 #[.pointer (some ⟨Qs, 0, none⟩), .pointer (some ⟨Qf, 0, none⟩)] (runV R) R.length none Kp w :=
  fun lb J Jx W _ hJ _ hK hY h0 =>
    (runs81_in n hn lb Qs Qf Qm lev.length R.length va c lev q R rfl hM9 rfl hCh J Jx (fun k W h => (hKp k W (hK k W h)).1) (fun k W h => (hKp k W (hK k W h)).2) (fun k A A' h hb => hJ k A A' none h (gbelow hb) (fun r e => by cases e)) hY W h0).mono fun e W' ⟨h1, h2⟩ => .inl ⟨h1, h2.imp (fun h => ⟨rfl, h⟩) id⟩
end Go.Proofs.YtilkhamlhbbmgaaDoor
