/- The bytes of the state. -/
import Derived.Test.YtnddejhbncgchaaDoorAbs
namespace Go.Proofs.YtnddejhbncgchaaDoor
open Go.RowKit

theorem outb_is (s : St) (i : Nat) : ((outb s i).toNat : Int) = (((s.list.getD (i / 4) 0).toNat / 2 ^ (24 - 8 * (i % 4)) : Nat) : Int) % 256 := by
  simp [outb, BitVec.toNat_ushiftRight, Nat.shiftRight_eq_div_pow]
/-- The digest while i bytes of it are laid. -/
def dpart (s : St) (i : Nat) : List UInt8 := (List.range i).map (outb s) ++ List.replicate (32 - i) 0
theorem dpart_len (s : St) {i : Nat} (h : i ≤ 32) : (dpart s i).length = 32 := by simp [dpart]; omega
theorem dpart_next (s : St) {i : Nat} (h : i < 32) : (cells8 (dpart s i)).set i (.int .u8 (outb s i).toNat) = cells8 (dpart s (i + 1)) := by
  have e : cells8 (dpart s (i + 1)) = cells8 ((List.range i).map (outb s)) ++ .int .u8 (outb s i).toNat :: cells8 (List.replicate (32 - (i + 1)) 0) := by
    simp [cells8, dpart, List.range_succ]
  have e2 : cells8 (dpart s i) = cells8 ((List.range i).map (outb s)) ++ .int .u8 (0 : UInt8).toNat :: cells8 (List.replicate (32 - (i + 1)) 0) := by
    have : 32 - i = (32 - (i + 1)) + 1 := by omega
    simp [cells8, dpart, this, List.replicate_succ]
  rw [e, e2, List.set_append_right _ _ (by simp [cells8])]
  simp [cells8]
/-- The digest that a state gives. -/
def outs (s : St) : List UInt8 := (List.range 32).map (outb s)
theorem dpart_is (s : St) : dpart s 32 = outs s := by simp [dpart, outs]
theorem outs_len (s : St) : (outs s).length = 32 := by simp [outs]
/-- A digest as a value. -/
def dv (l : List UInt8) : Value := .agg (cells8 l).toArray

theorem list_getD (s : St) (i : Nat) (h : i < 8) : (ws s.list)[i]? = some (.int .u32 (s.list.getD i 0).toNat) := by
  have : i < s.list.length := h
  simp [ws, List.getD, List.getElem?_eq_getElem this]

set_option maxRecDepth 100000 in
set_option maxHeartbeats 4000000 in
theorem digest_any (w : World) (sb : Nat) (s : St) (hs : Arr w sb (ws s.list)) (hsb : sb < w.heap.size) :
    Calls Tryd.prog 31 #[.pointer (some ⟨sb, 0, none⟩)] w fun e w' => e = .returned (dv (outs s)) ∧ Below w.heap.size w w' := by
  have HS := Lib.hid hs
  clear hs
  go_enter Tryd.func31, Tryd.ntmps31
  go_wp2
  go_loopw [4] (fun i wr => ∃ t : Nat, i = .int .i64 t ∧ t ≤ 32 ∧ Below w.heap.size w wr ∧ Arr wr w.heap.size (cells8 (dpart s t)))
    (fun i _ => 32 - (intOf i).toNat)
  case atStart => exact ⟨0, rfl, by omega, by go_grown, Arr.new w _ 26⟩
  case round =>
    obtain ⟨t, rfl, ht, hB, hA⟩ := hrel
    by_cases hlt : t < 32
    · have hd : decide ((t : Int) < 32) = true := by simp; omega
      have hlen : t < (cells8 (dpart s t)).length := by rw [cells8_len, dpart_len s (by omega)]; omega
      obtain ⟨u, hu⟩ : ∃ u, (cells8 (dpart s t))[t]'hlen = u := ⟨_, rfl⟩
      have hc : wr.cell? ⟨w.heap.size, t, none⟩ = some u := hu ▸ hA.cell (List.getElem?_eq_getElem hlen)
      have hf : wr.frozen? ⟨w.heap.size, t, none⟩ = false := hA.frozen hlen
      obtain ⟨q, hq⟩ : ∃ q, t / 4 = q := ⟨_, rfl⟩
      obtain ⟨r, hr⟩ : ∃ r, t % 4 = r := ⟨_, rfl⟩
      have hqd : (t : Int).tdiv 4 = (q : Int) := by rw [← hq]; rfl
      have hrd : (t : Int).tmod 4 = (r : Int) := by rw [← hr]; rfl
      have hw := list_getD s q (by omega)
      obtain ⟨x, hx⟩ : ∃ x, s.list.getD q 0 = x := ⟨_, rfl⟩
      rw [hx] at hw
      have hcs := (HS.out.below hB hsb).cell hw
      have key : ∀ v : Int, v = ((outb s t).toNat : Int) → Below w.heap.size w (wr.setCell ⟨w.heap.size, t, none⟩ (.int .u8 v)) ∧ Arr (wr.setCell ⟨w.heap.size, t, none⟩ (.int .u8 v)) w.heap.size (cells8 (dpart s (t + 1))) := by
        rintro _ rfl
        refine ⟨hB.setCell (p := ⟨w.heap.size, t, none⟩) (Nat.le_refl _) _, ?_⟩
        rw [← dpart_next s hlt]
        exact hA.set t _
      have hval : (x.toNat : Int) / 2 ^ (24 - r * 8) % 256 = ((outb s t).toNat : Int) := by
        rw [outb_is, hq, hr, hx, Nat.mul_comm 8 r]; push_cast; rfl
      have KEY := Lib.hid key
      have HVAL := Lib.hid hval
      have hr4 : r < 4 := by omega
      have hq8 : q < 8 := by omega
      clear key hval hA hB hu hw hx hlen
      go_wp2
      go_roundw
      case rel => exact ⟨t + 1, by simp, by omega, (KEY.out _ HVAL.out).1, (KEY.out _ HVAL.out).2⟩
      case measure => simp [intOf]; omega
    · obtain rfl : t = 32 := by omega
      rw [dpart_is] at hA
      have hcl : (cells8 (outs s)).length = 32 := by rw [cells8_len, outs_len]
      have ho1 := one_cells8 (outs s)
      obtain ⟨cs, hcs⟩ : ∃ cs, cells8 (outs s) = cs := ⟨_, rfl⟩
      rw [hcs] at hA hcl ho1
      have HZ1 : Hid ((Tryd.prog.info? 26).map (·.size) = some cs.length) := by show _ = _; rw [hcl]; exact Tryd.info26
      have HA := Lib.hid hA
      have HBB := Lib.hid hB
      have HO1 := Lib.hid ho1
      have HCS := Lib.hid hcs
      clear hA hB ho1 hcs hcl
      go_wp2_with (refine wpList_load_mid rfl 26 _ (by rfl) w.heap.size 0 (by rfl) _ _ HA.out.at_ Tryd.underlying26 rfl HZ1.out ?_; refine store_new rfl 26 _ _ (by rfl) w.heap.size w.heap.size cs cs (by rfl) (by rfl) HBB.out (Nat.le_refl _) HA.out rfl HZ1.out HO1.out ?_; intro W3 hB3 hA3 hz3)
      refine bodyPost_ret (results_cell_mid rfl _ _ _ _ _ rfl hA3.at_ Tryd.underlying26 rfl HZ1.out) rfl ?_
      exact ⟨by rw [dv, HCS.out], hB3⟩
end Go.Proofs.YtnddejhbncgchaaDoor
