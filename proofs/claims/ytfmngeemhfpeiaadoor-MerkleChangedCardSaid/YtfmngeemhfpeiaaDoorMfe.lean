/- merkle's reference: Few. -/
import Derived.Test.YtfmngeemhfpeiaaDoorMpp
namespace Go.Proofs.YtfmngeemhfpeiaaDoor
open Go.RowKit

/-- At most 40 leaves, none of which has more than 200 bytes. -/
def fewB (l : List (List UInt8)) : Prop := l.length ≤ 40 ∧ ∀ b ∈ l, b.length ≤ 200
theorem rows_cells {w : World} {a : Option Addr} {N cap : Nat} {l : List (List UInt8)} (h : BRows w w.heap.size (.slice a N cap) l) :
    ∀ W, Below w.heap.size w W → ∀ t (ht : t < l.length), ∃ b0 off0 da dc, a = some ⟨b0, off0, none⟩ ∧ b0 < w.heap.size ∧ W.cell? ⟨b0, off0 + t, none⟩ = some (.slice da l[t].length dc) ∧ BytesAt W W.heap.size (.slice da l[t].length dc) l[t] := by
  obtain ⟨a', cap', e, h1, h2, h3⟩ := h
  injection e with e1 e2 e3
  intro W hW t ht
  obtain ⟨b0, off0, h4, h5, h6⟩ := h3.resolve_left (fun e => by subst e; exact absurd ht (by simp))
  obtain ⟨d, h7, h8⟩ := h6 t ht
  obtain ⟨da, dc, rfl, _, _, _⟩ := id h8
  exact ⟨b0, off0, da, dc, e1.trans h4, h5, (hW.cell (p := ⟨b0, off0 + t, none⟩) h5).trans h7, (h8.below hW).mono hW.size⟩

set_option maxRecDepth 100000 in
set_option maxHeartbeats 4000000 in
theorem mfew_any (w : World) (v : Value) (l : List (List UInt8)) (hv : BRows w w.heap.size v l) :
    Calls Tryd.prog 17 #[v] w fun e w' => ∃ B, e = .returned (.bool B) ∧ (B = true → fewB l) ∧ w' = w := by
  obtain ⟨a, cap, rfl, hNc, hcm, _⟩ := id hv
  have HRO := Lib.hid (rows_cells hv)
  obtain ⟨N, hN⟩ : ∃ N, l.length = N := ⟨_, rfl⟩
  rw [hN] at hNc ⊢
  have HN := Lib.hid hN
  unfold maxLen at hcm
  clear hv hN
  go_enter Tryd.func17, Tryd.ntmps17
  go_wp2
  go_loopw [3] (fun s3 wr => ∃ t : Nat, s3 = .int .i64 t ∧ t ≤ 40 ∧ t ≤ N ∧ wr = w ∧ Hid (∀ j (hj : j < l.length), j < t → l[j].length ≤ 200)) (fun s3 _ => 40 - (intOf s3).toNat)
  case atStart => exact ⟨0, rfl, by omega, by omega, rfl, Lib.hid (fun j hj h => by omega)⟩
  case round =>
    obtain ⟨t, rfl, ht, htN, rfl, HA⟩ := hrel
    by_cases h1 : t < N
    · have f1 : decide ((t : Int) < (N : Int)) = true := by simp; omega
      have f2 : decide (t < N) = true := by simp; omega
      have f3 : (t : Int) < (N : Int) := by omega
      by_cases h2 : t < 40
      · have g1 : decide ((t : Int) < 40) = true := by simp; omega
        have g2 : decide (t < 40) = true := by simp; omega
        have iw : IntKind.i64.wrap ((t : Int) + 1) = (t : Int) + 1 := by rw [IntKind.wrap_i64]; omega
        have htl : t < l.length := by rw [HN.out]; exact h1
        obtain ⟨b0, off0, da, dc, rfl, hb0, hcell, hbytes⟩ := HRO.out _ (Below.refl _ _) t htl
        obtain ⟨L, hL⟩ : ∃ L, l[t].length = L := ⟨_, rfl⟩
        rw [hL] at hcell
        have HL := Lib.hid hL
        clear hbytes hL
        by_cases h3 : 200 < L
        · have k1 : decide ((L : Int) > 200) = true := by simp; omega
          have k2 : decide ((200 : Int) < (L : Int)) = true := by simp; omega
          have k3 : decide (200 < L) = true := by simp; omega
          go_wp2
          go_returns
          exact ⟨false, rfl, fun h => (by cases h), rfl⟩
        · have k1 : decide ((L : Int) > 200) = false := by simp; omega
          have k2 : decide ((200 : Int) < (L : Int)) = false := by simp; omega
          have k3 : decide (200 < L) = false := by simp; omega
          go_wp2
          go_roundw
          case rel =>
            refine ⟨t + 1, by simp, by omega, by omega, trivial, Lib.hid fun j hj h => ?_⟩
            by_cases e : j = t
            · subst e; have := HL.out; omega
            · exact HA.out j hj (by omega)
          case measure => simp [intOf]; omega
      · have g1 : decide ((t : Int) < 40) = false := by simp; omega
        have g2 : decide (t < 40) = false := by simp; omega
        have k1 : decide ((N : Int) ≤ 40) = false := by simp; omega
        have k2 : decide (N ≤ 40) = false := by simp; omega
        go_wp2
        go_returns
        exact ⟨false, rfl, fun h => (by cases h), rfl⟩
    · have f1 : decide ((t : Int) < (N : Int)) = false := by simp; omega
      have f2 : decide (t < N) = false := by simp; omega
      have k1 : decide ((N : Int) ≤ 40) = true := by simp; omega
      have k2 : decide (N ≤ 40) = true := by simp; omega
      go_wp2
      go_returns
      refine ⟨true, rfl, fun _ => ⟨by rw [HN.out]; omega, fun b hb => ?_⟩, rfl⟩
      obtain ⟨j, hj, rfl⟩ := List.getElem_of_mem hb
      exact HA.out j hj (by have := HN.out; omega)
end Go.Proofs.YtfmngeemhfpeiaaDoor
