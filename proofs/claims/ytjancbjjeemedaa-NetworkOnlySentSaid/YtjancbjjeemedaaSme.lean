/- The reference's Same, of links that are equal. -/
import Derived.Test.YtjancbjjeemedaaSam
namespace Go.Proofs.Ytjancbjjeemedaa
open Go.RowKit

set_option maxRecDepth 100000 in
set_option maxHeartbeats 8000000 in
theorem same_any (w : World) (v v' : Value) (n : Nt) (h : NtAt w w.heap.size v n) (h' : NtAt w w.heap.size v' n) : Calls Try.prog 15 #[v, v'] w fun e w' => e = .returned (.bool true) ∧ Below w.heap.size w w' := by
  obtain ⟨qa, qc, aa, ac, rfl, l1, l2, l3, l4, hq, ha⟩ := h.open
  obtain ⟨qa', qc', aa', ac', rfl, l1', l2', l3', l4', hq', ha'⟩ := h'.open
  unfold maxLen at l2 l4 l2' l4'
  have HQ := Lib.hid hq
  have HA := Lib.hid ha
  have HQ' := Lib.hid hq'
  have HA' := Lib.hid ha'
  obtain ⟨N, hN⟩ : ∃ x, n.q.length = x := ⟨_, rfl⟩
  obtain ⟨M, hM⟩ : ∃ x, n.ap.length = x := ⟨_, rfl⟩
  have HN := Lib.hid hN
  have HM := Lib.hid hM
  rw [hN] at l1 l1' HQ HQ' ⊢
  rw [hM] at l3 l3' HA HA' ⊢
  obtain ⟨X0, hX0⟩ : ∃ X, X = w.alloc (Obj.cells #[.slice qa N qc, .slice aa M ac] 25) := ⟨_, rfl⟩
  obtain ⟨w3, hw3⟩ : ∃ X, X = X0.alloc (Obj.cells #[.slice qa' N qc', .slice aa' M ac'] 25) := ⟨_, rfl⟩
  have hz0 : X0.heap.size = w.heap.size + 1 := by rw [hX0, World.size_alloc]
  have hz3 : w3.heap.size = w.heap.size + 1 + 1 := by rw [hw3, World.size_alloc, hz0]
  have hb3 : Below w.heap.size w w3 := by rw [hw3, hX0]; go_grown
  have A0 : Arr w3 w.heap.size [.slice qa N qc, .slice aa M ac] := by
    have h1 : Arr X0 w.heap.size [.slice qa N qc, .slice aa M ac] := by rw [hX0]; exact Arr.new w #[.slice qa N qc, .slice aa M ac] 25
    rw [hw3]
    exact h1.alloc (by omega) _
  have A1 : Arr w3 (w.heap.size + 1) [.slice qa' N qc', .slice aa' M ac'] := by
    rw [hw3, ← hz0]; exact Arr.new X0 #[.slice qa' N qc', .slice aa' M ac'] 25
  have HW3 : Hid ((w.alloc (Obj.cells #[.slice qa N qc, .slice aa M ac] 25)).alloc (Obj.cells #[.slice qa' N qc', .slice aa' M ac'] 25) = w3) := Lib.hid (by rw [hw3, hX0])
  have HA0 := Lib.hid A0
  have HA1 := Lib.hid A1
  have HB3 := Lib.hid hb3
  obtain ⟨g, hg⟩ : ∃ g, w.heap.size = g := ⟨_, rfl⟩
  have HG := Lib.hid hg
  rw [hg] at HA0 HA1 hz3
  have dN : ((N : Int) != (N : Int)) = false := by simp
  have dM : ((M : Int) != (M : Int)) = false := by simp
  clear h h' hq ha hq' ha' hN hM hX0 hw3 hz0 hb3 A0 A1 hg
  go_enter Try.func15, Try.ntmps15
  go_wp2_with fail
  rw [HW3.out, HG.out]
  go_loopw [5] (fun i wr => ∃ j : Nat, i = .int .i64 j ∧ j ≤ N ∧ Below w3.heap.size w3 wr) (fun i _ => N - (intOf i).toNat)
  case atStart => exact ⟨0, rfl, by omega, Below.refl _ _⟩
  case round =>
    obtain ⟨j, rfl, hj, hb⟩ := hrel
    have hbs := hb.size
    have hbw : Below w.heap.size w wr := HB3.out.trans (hb.mono HB3.out.size)
    have D0 : Arr wr g [.slice qa N qc, .slice aa M ac] := HA0.out.below hb (by omega)
    have D1 : Arr wr (g + 1) [.slice qa' N qc', .slice aa' M ac'] := HA1.out.below hb (by omega)
    by_cases hlt : j < N
    · have d : decide ((j : Int) < (N : Int)) = true := by simp; omega
      have ji : (j : Int) < (N : Int) := by omega
      have hjl : j < n.q.length := by rw [HN.out]; exact hlt
      obtain ⟨b, off, rfl, hbl, hin, p0, p1, da, dc, p2, _, _, hd⟩ := (HQ.out.below hbw).got j hjl
      obtain ⟨b', off', rfl, hbl', hin', p0', p1', da', dc', p2', _, _, hd'⟩ := (HQ'.out.below hbw).got j hjl
      have hws := hbw.size
      obtain ⟨p, hp⟩ : ∃ p, n.q[j]'hjl = p := ⟨_, rfl⟩
      rw [hp] at p0 p1 p2 hd p0' p1' p2' hd' hin
      have hcall : ∀ W, Kept wr W → Calls Try.prog 22 #[.agg #[.int .i64 p.frm, .int .i64 p.to, .slice da p.data.length dc], .agg #[.int .i64 p.frm, .int .i64 p.to, .slice da' p.data.length dc']] W fun e w' => e = .returned (.bool true) ∧ Kept wr w' := fun W hW => by
        have h1 : PkAt W W.heap.size (.agg #[.int .i64 p.frm, .int .i64 p.to, .slice da p.data.length dc]) p := ⟨hin, _, rfl, (hd.below (hW.below.mono hws)).mono (by have := hW.below.size; omega)⟩
        have h2 : PkAt W W.heap.size (.agg #[.int .i64 p.frm, .int .i64 p.to, .slice da' p.data.length dc']) p := ⟨hin, _, rfl, (hd'.below (hW.below.mono hws)).mono (by have := hW.below.size; omega)⟩
        exact (samePk_any W _ _ p p h1 h2).mono fun e w' h => ⟨by rw [h.1, Pk.same_refl], hW.next h.2⟩
      obtain ⟨D, hD⟩ : ∃ x, p.data.length = x := ⟨_, rfl⟩
      rw [hD] at p2 p2'
      simp only [hD] at hcall
      have HCALL := Lib.hid hcall
      have c0 : wr.cell? ⟨g, 0, none⟩ = some (.slice (some ⟨b, off, none⟩) N qc) := D0.cell rfl
      have k0 : ∀ W, Kept wr W → W.cell? ⟨g, 0, none⟩ = some (.slice (some ⟨b, off, none⟩) N qc) := fun W hW => (hW.cell (by omega)).trans (D0.cell rfl)
      have k1 : ∀ W, Kept wr W → W.cell? ⟨g + 1, 0, none⟩ = some (.slice (some ⟨b', off', none⟩) N qc') := fun W hW => (hW.cell (by omega)).trans (D1.cell rfl)
      have m0 : ∀ W, Kept wr W → W.cell? ⟨b, off + j * 3, none⟩ = some (.int .i64 p.frm) := fun W hW => (hW.cell (by omega)).trans p0
      have m1 : ∀ W, Kept wr W → W.cell? ⟨b, off + j * 3 + 1, none⟩ = some (.int .i64 p.to) := fun W hW => (hW.cell (by omega)).trans p1
      have m2 : ∀ W, Kept wr W → W.cell? ⟨b, off + j * 3 + 2, none⟩ = some (.slice da D dc) := fun W hW => (hW.cell (by omega)).trans p2
      have m0' : ∀ W, Kept wr W → W.cell? ⟨b', off' + j * 3, none⟩ = some (.int .i64 p.frm) := fun W hW => (hW.cell (by omega)).trans p0'
      have m1' : ∀ W, Kept wr W → W.cell? ⟨b', off' + j * 3 + 1, none⟩ = some (.int .i64 p.to) := fun W hW => (hW.cell (by omega)).trans p1'
      have m2' : ∀ W, Kept wr W → W.cell? ⟨b', off' + j * 3 + 2, none⟩ = some (.slice da' D dc') := fun W hW => (hW.cell (by omega)).trans p2'
      have HB := Lib.hid hb
      clear hb hbw D0 D1 p0 p1 p2 p0' p1' p2' hd hd' hin hin' hp hD hcall
      go_wp2
      go_region_held3 (fun W => Kept wr W) (first | assumption | exact Kept.drew (Kept.refl _) | exact Kept.drew (by assumption))
        (first | (go_at_call 22; refine (HCALL.out _ (by assumption)).mono ?_; rintro e w6 ⟨rfl, hK6⟩))
      have HF := Lib.hid (HB.out.trans (hK6.below.mono HB.out.size))
      clear hK6 k0 k1 m0 m1 m2 m0' m1' m2' c0
      go_wp2_with fail
      refine ⟨⟨j + 1, by go_num, by omega, HF.out⟩, ?_⟩
      simp [intOf]; omega
    · obtain rfl : j = N := by omega
      have d : decide ((j : Int) < (j : Int)) = false := by simp
      have c0 : wr.cell? ⟨g, 0, none⟩ = some (.slice qa j qc) := D0.cell rfl
      have HB := Lib.hid hb
      clear hb hbw D0 D1
      go_wp2_with fail
      go_loopw [6] (fun i wx => ∃ j : Nat, i = .int .i64 j ∧ j ≤ M ∧ Below w3.heap.size w3 wx) (fun i _ => M - (intOf i).toNat)
      case atStart => exact ⟨0, rfl, by omega, HB.out⟩
      case round =>
        obtain ⟨k, rfl, hk, hb⟩ := hrel
        have hbs := hb.size
        have hbw : Below w.heap.size w wr := HB3.out.trans (hb.mono HB3.out.size)
        have D0 : Arr wr g [.slice qa j qc, .slice aa M ac] := HA0.out.below hb (by omega)
        have D1 : Arr wr (g + 1) [.slice qa' j qc', .slice aa' M ac'] := HA1.out.below hb (by omega)
        have c1 : wr.cell? ⟨g, 1, none⟩ = some (.slice aa M ac) := D0.cell rfl
        have c2 : wr.cell? ⟨g + 1, 1, none⟩ = some (.slice aa' M ac') := D1.cell rfl
        have HBW := Lib.hid hbw
        have HBX := Lib.hid hb
        clear HB
        by_cases hlt : k < M
        · have d3 : decide ((k : Int) < (M : Int)) = true := by simp; omega
          have ki : (k : Int) < (M : Int) := by omega
          have hkl : k < n.ap.length := by rw [HM.out]; exact hlt
          obtain ⟨b, off, rfl, hbl, _, p0, p1⟩ := (HA.out.below hbw).got k hkl
          obtain ⟨b', off', rfl, hbl', _, p0', p1'⟩ := (HA'.out.below hbw).got k hkl
          obtain ⟨p, hp⟩ : ∃ p, n.ap[k]'hkl = p := ⟨_, rfl⟩
          rw [hp] at p0 p1 p0' p1'
          obtain ⟨x, y⟩ := p
          dsimp only at p0 p1 p0' p1'
          have heq : ∀ W, (Op.equalIn 10000 55 (.agg #[.int .i64 x, .int .i64 y]) (.agg #[.int .i64 x, .int .i64 y])).run Try.prog W = .ok true W := fun W => by rw [pair_eq]; simp
          clear hb hbw D0 D1 hp c0
          go_wp2_with fail
          go_quiet (fail)
          go_wp2
          refine ⟨⟨k + 1, by go_num, by omega, below_drewN HBX.out _⟩, ?_⟩
          simp [intOf]; omega
        · obtain rfl : k = M := by omega
          have d3 : decide ((k : Int) < (k : Int)) = false := by simp
          clear hb hbw D0 D1 c0
          go_wp2
          go_ret
          exact ⟨by simp, HBW.out⟩
end Go.Proofs.Ytjancbjjeemedaa
