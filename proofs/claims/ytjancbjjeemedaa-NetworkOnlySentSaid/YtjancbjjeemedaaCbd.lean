/- Cut of two that are no parties. -/
import Derived.Test.YtjancbjjeemedaaOth
import Derived.Test.YtjancbjjeemedaaNil
import Derived.Test.YtjancbjjeemedaaSend
namespace Go.Proofs.Ytjancbjjeemedaa
open Go.RowKit Go.Shelf
attribute [local go_sem] Oper.semAt_some

set_option maxRecDepth 100000 in
set_option maxHeartbeats 8000000 in
theorem cut_bad (w : World) (v : Value) (n : Nt) (h : NtAt w w.heap.size v n) (hok : n.ok = true) (a b : Int) (hab : okPair a b = false) (c : Bool) :
    Calls Try.prog 18 #[v, .int .i64 a, .int .i64 b, .bool c] w fun e w' => e = .returned (.tuple #[.agg #[.slice none 0 0, .slice none 0 0], .int .i64 1]) ∧ Below w.heap.size w w' := by
  have H := Lib.hid h
  obtain ⟨qa, qc, aa, ac, rfl, l1, l2, l3, l4, hq, ha⟩ := h.open
  obtain ⟨M, hM⟩ : ∃ x, n.ap.length = x := ⟨_, rfl⟩
  rw [hM] at H ⊢
  have HQ := Lib.hid hq
  obtain ⟨N, hN⟩ : ∃ x, n.q.length = x := ⟨_, rfl⟩
  have HN := Lib.hid hN
  rw [hN] at H HQ ⊢
  have hck := fun W (hW : Below w.heap.size w W) => chk_any W _ n (H.out.next hW)
  rw [hok, if_pos rfl] at hck
  have hpa := fun W => par_any W a b
  rw [hab] at hpa
  have HCK := Lib.hid hck
  have HPA := Lib.hid hpa
  clear h hok hab hM hq ha hN hck hpa
  refine (callsIn_wide (n := 9)).1 ?_
  refine callsIn_of_wp_marks Try.func18 rfl trivial ?_ rfl
  simp only [Try.ntmps18, List.size_toArray, List.length_cons, List.length_nil, Nat.reduceAdd, Nat.reduceSub, Array.replicate_succ, Array.replicate_zero, List.push_toArray, List.append_toArray, List.nil_append, List.cons_append]
  obtain ⟨X0, hX0⟩ : ∃ X, X = w.alloc (Obj.cells #[.slice qa N qc, .slice aa M ac] 25) := ⟨_, rfl⟩
  obtain ⟨w3, hw3⟩ : ∃ X, X = X0.alloc (Obj.cells #[.slice none 0 0, .slice none 0 0] 25) := ⟨_, rfl⟩
  have hz0 : X0.heap.size = w.heap.size + 1 := by rw [hX0, World.size_alloc]
  have hz3 : w3.heap.size = w.heap.size + 1 + 1 := by rw [hw3, World.size_alloc, hz0]
  have hb3 : Below w.heap.size w w3 := by rw [hw3, hX0]; go_grown
  have A0 : Arr w3 w.heap.size [.slice qa N qc, .slice aa M ac] := by
    have h1 : Arr X0 w.heap.size [.slice qa N qc, .slice aa M ac] := by rw [hX0]; exact Arr.new w #[.slice qa N qc, .slice aa M ac] 25
    rw [hw3]
    exact h1.alloc (by omega) _
  have A1 : Arr w3 (w.heap.size + 1) [.slice none 0 0, .slice none 0 0] := by
    rw [hw3, ← hz0]; exact Arr.new X0 #[.slice none 0 0, .slice none 0 0] 25
  have HW3 : Hid ((w.alloc (Obj.cells #[.slice qa N qc, .slice aa M ac] 25)).alloc (Obj.cells #[.slice none 0 0, .slice none 0 0] 25) = w3) := Lib.hid (by rw [hw3, hX0])
  have HA0 := Lib.hid A0
  have HA1 := Lib.hid A1
  have HB3 := Lib.hid hb3
  clear hX0 hw3 hz0 hb3 A0 A1
  gi_wp2_with fail
  rw [HW3.out]
  refine ⟨trivial, ?_⟩
  refine (callsIn_wide.2 (HCK.out w3 HB3.out)).mono ?_
  rintro e w4 ⟨rfl, hb4⟩
  have HB4 := Lib.hid hb4
  clear hb4
  gi_wp2_with fail
  refine ⟨trivial, ?_⟩
  refine (callsIn_wide.2 (HPA.out w4)).mono ?_
  rintro e w4 ⟨rfl, rfl⟩
  have hw4 : Below w.heap.size w w4 := HB3.out.trans (HB4.out.mono HB3.out.size)
  have D1 : Arr w4 (w.heap.size + 1) [.slice none 0 0, .slice none 0 0] := HA1.out.below HB4.out (by omega)
  have c10 : w4.cell? ⟨w.heap.size + 1, 0, none⟩ = some (.slice none 0 0) := D1.cell rfl
  have c11 : w4.cell? ⟨w.heap.size + 1, 1, none⟩ = some (.slice none 0 0) := D1.cell rfl
  have f10 : w4.frozen? ⟨w.heap.size + 1, 0, none⟩ = false := D1.frozen (by simp)
  have f11 : w4.frozen? ⟨w.heap.size + 1, 1, none⟩ = false := D1.frozen (by simp)
  have G1 : Arr ((w4.setCell ⟨w.heap.size + 1, 0, none⟩ (.slice none 0 0)).setCell ⟨w.heap.size + 1, 1, none⟩ (.slice none 0 0)) (w.heap.size + 1) [.slice none 0 0, .slice none 0 0] := (D1.set 0 _).set 1 _
  have f21 : (w4.setCell ⟨w.heap.size + 1, 0, none⟩ (.slice none 0 0)).frozen? ⟨w.heap.size + 1, 1, none⟩ = false := (D1.set 0 _).frozen (by simp)
  have r0 : ((w4.setCell ⟨w.heap.size + 1, 0, none⟩ (.slice none 0 0)).setCell ⟨w.heap.size + 1, 1, none⟩ (.slice none 0 0)).cell? ⟨w.heap.size + 1, 0, none⟩ = some (.slice none 0 0) := G1.cell rfl
  have r1 : ((w4.setCell ⟨w.heap.size + 1, 0, none⟩ (.slice none 0 0)).setCell ⟨w.heap.size + 1, 1, none⟩ (.slice none 0 0)).cell? ⟨w.heap.size + 1, 1, none⟩ = some (.slice none 0 0) := G1.cell rfl
  have HBF : Hid (Below w.heap.size w ((w4.setCell ⟨w.heap.size + 1, 0, none⟩ (.slice none 0 0)).setCell ⟨w.heap.size + 1, 1, none⟩ (.slice none 0 0))) := Lib.hid ((hw4.setCell (p := ⟨w.heap.size + 1, 0, none⟩) (by show w.heap.size ≤ w.heap.size + 1; omega) _).setCell (p := ⟨w.heap.size + 1, 1, none⟩) (by show w.heap.size ≤ w.heap.size + 1; omega) _)
  clear hw4 D1 G1
  gi_wp2_with fail
  exact ⟨.tuple #[.agg #[.slice none 0 0, .slice none 0 0], .int .i64 1], by simp [results, Try.results18, go_sem, r0, r1], rfl, HBF.out⟩
end Go.Proofs.Ytjancbjjeemedaa
