/- Lose. -/
import Derived.Test.YtjancbjjeemedaaEnq
namespace Go.Proofs.Ytjancbjjeemedaa
open Go.RowKit

def Nt.lose (n : Nt) (at_ : Int) : Nt := if n.err at_ = 0 then ⟨n.q.eraseIdx at_.toNat, n.ap⟩ else Nt.zero
theorem err_zero {n : Nt} {at_ : Int} (h : n.err at_ = 0) : ∃ i : Nat, at_ = (i : Int) ∧ i < n.q.length ∧ n.ok = true := by
  unfold Nt.err at h
  by_cases h1 : n.ok = true
  · rw [if_pos h1] at h
    by_cases h2 : at_ < 0 ∨ (n.q.length : Int) ≤ at_
    · rw [if_pos h2] at h; omega
    · exact ⟨at_.toNat, by omega, by omega, h1⟩
  · rw [if_neg h1] at h; omega
theorem ok_len {n : Nt} (h : n.ok = true) : n.q.length ≤ 4096 := by
  unfold Nt.ok okQ at h
  simp only [Bool.and_eq_true, decide_eq_true_eq] at h
  exact h.1.1
/-- A part of memory between two places may be written without a queue being touched. -/
theorem cell_out {w : World} {B H : Nat} (b o : Nat) (p : Addr) (v : Value) (hp : B ≤ p.block ∧ p.block < H) (hb : H ≤ b) : (w.setCell p v).cell? ⟨b, o, none⟩ = w.cell? ⟨b, o, none⟩ :=
  World.cell?_setCell_other _ _ _ _ (fun e => by have := congrArg Addr.block e; dsimp only at this; omega)

set_option maxRecDepth 100000 in
set_option maxHeartbeats 4000000 in
theorem lose_any (w : World) (v : Value) (n : Nt) (h : NtAt w w.heap.size v n) (at_ : Int) : Calls Try.prog 23 #[v, .int .i64 at_] w fun e w' => ∃ v', e = .returned (.tuple #[v', .int .i64 (n.err at_)]) ∧ NtAt w' w'.heap.size v' (n.lose at_) ∧ Below w.heap.size w w' := by
  have H := Lib.hid h
  obtain ⟨qa, qc, aa, ac, rfl, l1, l2, l3, l4, hq, ha⟩ := h.open
  have HQ := Lib.hid hq
  have HA := Lib.hid ha
  have hez := @err_zero n at_
  unfold Nt.lose
  obtain ⟨E, hE⟩ : ∃ E, n.err at_ = E := ⟨_, rfl⟩
  have HE := Lib.hid hE
  rw [hE] at hez ⊢
  obtain ⟨N, hN⟩ : ∃ x, n.q.length = x := ⟨_, rfl⟩
  obtain ⟨M, hM⟩ : ∃ x, n.ap.length = x := ⟨_, rfl⟩
  have HN := Lib.hid hN
  have HM := Lib.hid hM
  rw [hN] at l1 hez HQ H ⊢
  rw [hM] at l3 HA H ⊢
  obtain ⟨X0, hX0⟩ : ∃ X, X = w.alloc (Obj.cells #[.slice qa N qc, .slice aa M ac] 25) := ⟨_, rfl⟩
  obtain ⟨w3, hw3⟩ : ∃ X, X = X0.alloc (Obj.cells #[.slice none 0 0, .slice none 0 0] 25) := ⟨_, rfl⟩
  have hz0 : X0.heap.size = w.heap.size + 1 := by rw [hX0, World.size_alloc]
  have hz3 : w3.heap.size = w.heap.size + 1 + 1 := by rw [hw3, World.size_alloc, hz0]
  have hb3 : Below w.heap.size w w3 := by rw [hw3, hX0]; go_grown
  have A0 : Arr w3 w.heap.size [.slice qa N qc, .slice aa M ac] := by
    have h1 : Arr X0 w.heap.size [.slice qa N qc, .slice aa M ac] := by rw [hX0]; exact Arr.new w #[.slice qa N qc, .slice aa M ac] 25
    rw [hw3]
    exact h1.alloc (by omega) _
  have A1 : Arr w3 (w.heap.size + 1) [.slice none 0 0, .slice none 0 0] := by
    rw [hw3, ← hz0]; exact Arr.new X0 #[.slice none 0 0, .slice none 0 0] 25
  have HCK : Hid (Calls Try.prog 42 #[.agg #[.slice qa N qc, .slice aa M ac], .int .i64 at_] w3 fun e w' => e = .returned (.int .i64 E) ∧ Below w3.heap.size w3 w') := Lib.hid (HE.out ▸ chkAt_any w3 _ n (H.out.next hb3) at_)
  have HW3 : Hid ((w.alloc (Obj.cells #[.slice qa N qc, .slice aa M ac] 25)).alloc (Obj.cells #[.slice none 0 0, .slice none 0 0] 25) = w3) := Lib.hid (by rw [hw3, hX0])
  have HA0 := Lib.hid A0
  have HA1 := Lib.hid A1
  have HB3 := Lib.hid hb3
  have c00 : w3.cell? ⟨w.heap.size, 0, none⟩ = some (.slice qa N qc) := A0.cell rfl
  have c01 : w3.cell? ⟨w.heap.size, 1, none⟩ = some (.slice aa M ac) := A0.cell rfl
  clear h hq ha hE hN hM hX0 hw3 hb3 A0 A1
  by_cases hE0 : E = 0
  · rw [if_pos hE0]
    subst hE0
    obtain ⟨i, rfl, hi, hok⟩ := hez rfl
    rw [Int.toNat_natCast]
    have h4096 := ok_len hok
    rw [HN.out] at h4096
    have HREM : Hid (∀ W, Below w3.heap.size w3 W → Calls Try.prog 44 #[.slice qa N qc, .int .i64 (i : Nat)] W fun e w' => ∃ v', e = .returned v' ∧ QSep w' w.heap.size W.heap.size v' (n.q.eraseIdx i) ∧ Below W.heap.size W w') := Lib.hid fun W hW => rem_sep W w.heap.size ((HB3.out.trans (hW.mono HB3.out.size)).size) _ n.q (HQ.out.below (HB3.out.trans (hW.mono HB3.out.size))) i (by rw [HN.out]; exact hi) (by rw [HN.out]; omega)
    clear hez hok
    go_enter Try.func23, Try.ntmps23
    go_wp2_with fail
    rw [HW3.out]
    refine HCK.out.mono ?_
    rintro e w4 ⟨rfl, hb4⟩
    have hs4 := hb4.size
    have d00 : w4.cell? ⟨w.heap.size, 0, none⟩ = some (.slice qa N qc) := (hb4.cell (p := ⟨w.heap.size, 0, none⟩) (by show w.heap.size < _; omega)).trans c00
    have HB4 := Lib.hid hb4
    clear hb4 c00 c01
    go_wp2_with fail
    refine (HREM.out w4 HB4.out).mono ?_
    rintro e w5 ⟨v', rfl, hsep, hb5⟩
    obtain ⟨a', c', rfl, f1, f2, _⟩ := id hsep
    have hlen : (n.q.eraseIdx i).length = N - 1 := by rw [List.length_eraseIdx, if_pos (by rw [HN.out]; exact hi), HN.out]
    rw [hlen] at hsep ⊢
    have hw5 : Below w.heap.size w w5 := HB3.out.trans ((HB4.out.trans (hb5.mono HB4.out.size)).mono HB3.out.size)
    have h35 : Below w3.heap.size w3 w5 := HB4.out.trans (hb5.mono HB4.out.size)
    have B0 : Arr w5 w.heap.size [.slice qa N qc, .slice aa M ac] := HA0.out.below h35 (by omega)
    have B1 : Arr w5 (w.heap.size + 1) [.slice none 0 0, .slice none 0 0] := HA1.out.below h35 (by omega)
    have e00 : w5.cell? ⟨w.heap.size, 0, none⟩ = some (.slice qa N qc) := B0.cell rfl
    have e01 : w5.cell? ⟨w.heap.size, 1, none⟩ = some (.slice aa M ac) := B0.cell rfl
    have f00 : w5.frozen? ⟨w.heap.size, 0, none⟩ = false := B0.frozen (by simp)
    have e10 : w5.cell? ⟨w.heap.size + 1, 0, none⟩ = some (.slice none 0 0) := B1.cell rfl
    have e11 : w5.cell? ⟨w.heap.size + 1, 1, none⟩ = some (.slice none 0 0) := B1.cell rfl
    have f10 : w5.frozen? ⟨w.heap.size + 1, 0, none⟩ = false := B1.frozen (by simp)
    have f11 : w5.frozen? ⟨w.heap.size + 1, 1, none⟩ = false := B1.frozen (by simp)
    obtain ⟨WF, hWF⟩ : ∃ WF, ((w5.setCell ⟨w.heap.size, 0, none⟩ (.slice a' (N - 1) c')).setCell ⟨w.heap.size + 1, 0, none⟩ (.slice a' (N - 1) c')).setCell ⟨w.heap.size + 1, 1, none⟩ (.slice aa M ac) = WF := ⟨_, rfl⟩
    have C1 : Arr WF (w.heap.size + 1) [.slice a' (N - 1) c', .slice aa M ac] := by
      rw [← hWF]; exact ((B1.other (b' := w.heap.size) (by omega) 0 _).set 0 _).set 1 _
    have r0 : WF.cell? ⟨w.heap.size + 1, 0, none⟩ = some (.slice a' (N - 1) c') := C1.cell rfl
    have r1 : WF.cell? ⟨w.heap.size + 1, 1, none⟩ = some (.slice aa M ac) := C1.cell rfl
    have hBF5 : Below w.heap.size w5 WF := by
      rw [← hWF]; exact (((Below.refl _ _).setCell (p := ⟨w.heap.size, 0, none⟩) (Nat.le_refl _) _).setCell (p := ⟨w.heap.size + 1, 0, none⟩) (by show w.heap.size ≤ w.heap.size + 1; omega) _).setCell (p := ⟨w.heap.size + 1, 1, none⟩) (by show w.heap.size ≤ w.heap.size + 1; omega) _
    have HBF : Hid (Below w.heap.size w WF) := Lib.hid (hw5.trans hBF5)
    have hwz := hw5.size
    have HFF : Hid (NtAt WF WF.heap.size (.agg #[.slice a' (N - 1) c', .slice aa M ac]) ⟨n.q.eraseIdx i, n.ap⟩) := Lib.hid ⟨_, _, rfl, hsep.at hBF5 (by rw [← hWF]; simp) (by rw [← hWF]; simp; omega) (fun b o hb _ => by
      rw [← hWF]
      refine (cell_out (B := w.heap.size) (H := w4.heap.size) _ _ _ _ ⟨?_, ?_⟩ hb).trans ((cell_out (B := w.heap.size) (H := w4.heap.size) _ _ _ _ ⟨?_, ?_⟩ hb).trans (cell_out (B := w.heap.size) (H := w4.heap.size) _ _ _ _ ⟨?_, ?_⟩ hb)) <;> dsimp only <;> omega), HA.out.next HBF.out⟩
    have HWF := Lib.hid hWF
    clear hsep hb5 hlen hw5 h35 B0 B1 C1 hBF5 hWF d00
    go_wp2
    rw [HWF.out]
    refine bodyPost_ret (v := .tuple #[.agg #[.slice a' (N - 1) c', .slice aa M ac], .int .i64 0]) (by simp [results, Try.results23, go_sem, r0, r1]) rfl ⟨_, rfl, HFF.out, HBF.out⟩
  · rw [if_neg hE0]
    have dE : (E != 0) = true := by simpa using hE0
    clear hez hE0
    go_enter Try.func23, Try.ntmps23
    go_wp2_with fail
    rw [HW3.out]
    refine HCK.out.mono ?_
    rintro e w4 ⟨rfl, hb4⟩
    have hs4 := hb4.size
    have B1 : Arr w4 (w.heap.size + 1) [.slice none 0 0, .slice none 0 0] := HA1.out.below hb4 (by omega)
    have e10 : w4.cell? ⟨w.heap.size + 1, 0, none⟩ = some (.slice none 0 0) := B1.cell rfl
    have e11 : w4.cell? ⟨w.heap.size + 1, 1, none⟩ = some (.slice none 0 0) := B1.cell rfl
    have f10 : w4.frozen? ⟨w.heap.size + 1, 0, none⟩ = false := B1.frozen (by simp)
    have f11 : w4.frozen? ⟨w.heap.size + 1, 1, none⟩ = false := B1.frozen (by simp)
    have hw4 : Below w.heap.size w w4 := HB3.out.trans (hb4.mono HB3.out.size)
    have HBF : Hid (Below w.heap.size w ((w4.setCell ⟨w.heap.size + 1, 0, none⟩ (.slice none 0 0)).setCell ⟨w.heap.size + 1, 1, none⟩ (.slice none 0 0))) := Lib.hid ((hw4.setCell (p := ⟨w.heap.size + 1, 0, none⟩) (by show w.heap.size ≤ w.heap.size + 1; omega) _).setCell (p := ⟨w.heap.size + 1, 1, none⟩) (by show w.heap.size ≤ w.heap.size + 1; omega) _)
    have C1 := (B1.set 0 (.slice none 0 0)).set 1 (.slice none 0 0)
    have r0 : ((w4.setCell ⟨w.heap.size + 1, 0, none⟩ (.slice none 0 0)).setCell ⟨w.heap.size + 1, 1, none⟩ (.slice none 0 0)).cell? ⟨w.heap.size + 1, 0, none⟩ = some (.slice none 0 0) := C1.cell rfl
    have r1 : ((w4.setCell ⟨w.heap.size + 1, 0, none⟩ (.slice none 0 0)).setCell ⟨w.heap.size + 1, 1, none⟩ (.slice none 0 0)).cell? ⟨w.heap.size + 1, 1, none⟩ = some (.slice none 0 0) := C1.cell rfl
    clear hb4 B1 C1 hw4 c00 c01
    go_wp2
    refine bodyPost_ret (v := .tuple #[.agg #[.slice none 0 0, .slice none 0 0], .int .i64 E]) (by simp [results, Try.results23, go_sem, r0, r1]) rfl ⟨_, rfl, zero_at _ _, HBF.out⟩
end Go.Proofs.Ytjancbjjeemedaa
