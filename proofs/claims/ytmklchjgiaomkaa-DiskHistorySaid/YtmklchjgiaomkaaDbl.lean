/- double of the law. -/
import Derived.Test.YtmklchjgiaomkaaBox
namespace Go.Proofs.Ytmklchjgiaomkaa
open Go.RowKit
def dbl (c : UInt8) : By := ((List.replicate 128 0).set 0 c).set 64 c
theorem dbl_len (c : UInt8) : (dbl c).length = 128 := by simp [dbl]
set_option maxHeartbeats 400000 in
theorem double_any (w : World) (c : UInt8) : Calls Try.prog 27 #[.int .u8 c.toNat] w fun e w' => e = .returned (.slice (some ⟨w.heap.size, 0, none⟩) 128 128) ∧ Arr w' w.heap.size (cells8 (dbl c)) ∧ Below w.heap.size w w' := by
  obtain ⟨W0, hm, hA0, hb0⟩ := make_bytes w 128 128 rfl (by omega)
  obtain ⟨x, hx⟩ : ∃ x : Int, x = (c.toNat : Int) := ⟨_, rfl⟩
  have hfin : Arr ((W0.setCell ⟨w.heap.size, 0, none⟩ (.int .u8 c.toNat)).setCell ⟨w.heap.size, 64, none⟩ (.int .u8 c.toNat)) w.heap.size (cells8 (dbl c)) := by
    unfold dbl
    rw [cells8_set, cells8_set]
    exact (hA0.set 0 _).set 64 _
  have hbw : Below w.heap.size w ((W0.setCell ⟨w.heap.size, 0, none⟩ (.int .u8 c.toNat)).setCell ⟨w.heap.size, 64, none⟩ (.int .u8 c.toNat)) :=
    Below.setCell (p := ⟨w.heap.size, 64, none⟩) (Below.setCell (p := ⟨w.heap.size, 0, none⟩) hb0 (Nat.le_refl _) _) (Nat.le_refl _) _
  have hlen : (cells8 (List.replicate 128 0)).length = 128 := by rw [cells8_len, List.length_replicate]
  have k0 : W0.cell? ⟨w.heap.size, 0, none⟩ = some (.int .u8 0) := hA0.cell (i := 0) (by rw [cells8_rep]; rfl)
  have k1 : W0.cell? ⟨w.heap.size, 64, none⟩ = some (.int .u8 0) := hA0.cell (i := 64) (by rw [cells8_rep]; rfl)
  have f0 : W0.frozen? ⟨w.heap.size, 0, none⟩ = false := hA0.frozen (by rw [hlen]; omega)
  have f1 : W0.frozen? ⟨w.heap.size, 64, none⟩ = false := hA0.frozen (by rw [hlen]; omega)
  rw [← hx] at hfin hbw ⊢
  have HM := Lib.hid hm
  have HF := Lib.hid hfin
  have HB := Lib.hid hbw
  clear hx hm hA0 hb0 hfin hbw hlen
  go_enter Try.func27, Try.ntmps27
  go_wp2_with (first | refine wpList_make_run rfl 35 _ _ rfl _ _ _ _ (by rfl) (by rfl) HM.out ?_)
  go_ret
  exact ⟨rfl, HF.out, HB.out⟩
end Go.Proofs.Ytmklchjgiaomkaa
