/- Leaves, pairs under a tag, chains. -/
import Derived.Test.YtnddejhbncgchaaDoorTgd
namespace Go.Proofs.YtnddejhbncgchaaDoor
open Go.RowKit

def tLeaf : List UInt8 := [108, 101, 97, 102]
def tNode : List UInt8 := [110, 111, 100, 101]
def tChain : List UInt8 := [99, 104, 97, 105, 110]
def tEmpty : List UInt8 := [101, 109, 112, 116, 121]
theorem tagged_len (t b : List UInt8) : (tagged t b).length = 32 := sha_len _
theorem arr_bytes {W : World} {b : Nat} {l : List UInt8} (h : Arr W b (cells8 l)) : BytesIn W b 0 l := fun i hi => by
  rw [Nat.zero_add]; exact h.cell (by simp [cells8, List.getElem?_eq_getElem hi])

theorem calls_world {P : Program} {f : FuncId} {args : Array Value} {w : World} {R : Ending → World → Prop} (X : World → Prop) (hX : X w) (h : ∀ W, X W → Calls P f args W R) : Calls P f args w R := h w hX

set_option maxRecDepth 100000 in
set_option maxHeartbeats 2000000 in
theorem leaf_any (w : World) (l : List UInt8) (hl : l.length = 32) (hT : Tab w) (h0 : 0 < w.heap.size) :
    Calls Tryd.prog 35 #[dv l] w fun e w' => e = .returned (dv (tagged tLeaf l)) ∧ Below w.heap.size w w' := by
  rw [dv_eq]
  have HT := Lib.hid hT
  obtain ⟨cs, hcs⟩ : ∃ cs, cells8 l = cs := ⟨_, rfl⟩
  have hcl : cs.length = 32 := by rw [← hcs, cells8_len, hl]
  rw [hcs]
  have HCS := Lib.hid hcs
  have HL := Lib.hid hl
  clear hcs hT hl
  obtain ⟨cs2, hcs2⟩ : ∃ cs2, cells8 (tagged tLeaf l) = cs2 := ⟨_, rfl⟩
  have hcl2 : cs2.length = 32 := by rw [← hcs2, cells8_len, tagged_len]
  have ho2 : ∀ v ∈ cs2, v.oneCell' = true := by rw [← hcs2]; exact one_cells8 _
  have hz2 : (Tryd.prog.info? 26).map (·.size) = some cs2.length := by rw [hcl2]; exact Tryd.info26
  have htg : ∀ W : World, Below w.heap.size w W → Arr W w.heap.size cs → w.heap.size < W.heap.size → Calls Tryd.prog 14 #[.string ⟨#[108, 101, 97, 102]⟩, .slice (some ⟨w.heap.size, 0, none⟩) 32 32] W fun e w' => e = .returned (.agg cs2.toArray) ∧ Below W.heap.size W w' := fun W hB hA hz => by
    have h := tagged_any W ⟨#[108, 101, 97, 102]⟩ (.slice (some ⟨w.heap.size, 0, none⟩) 32 32) l
      ⟨some ⟨w.heap.size, 0, none⟩, 32, by rw [HL.out], by rw [HL.out]; omega, by unfold maxLen; omega, .inr ⟨w.heap.size, 0, rfl, hz, arr_bytes (by rw [HCS.out]; exact hA)⟩⟩ (by decide) (by rw [HL.out]; omega) (HT.out.below hB h0) (by omega)
    have e : cells8 (tagged (⟨#[108, 101, 97, 102]⟩ : ByteArray).data.toList l) = cs2 := hcs2
    rwa [dv_eq, e] at h
  rw [show dv (tagged tLeaf l) = .agg cs2.toArray by rw [dv_eq, hcs2]]
  have HO2 := Lib.hid ho2
  have HCL2 := Lib.hid hcl2
  have HZ2 := Lib.hid hz2
  clear ho2 hcl2 hz2 hcs2
  have HTG := Lib.hid htg
  have HCL := Lib.hid hcl
  clear htg hcl
  go_enter Tryd.func35, Tryd.ntmps35
  go_wp2_with fail
  refine calls_world (fun W => Below w.heap.size w W ∧ Arr W w.heap.size cs ∧ Arr W (w.heap.size + 1) (cells8 (List.replicate 32 0)) ∧ w.heap.size + 1 < W.heap.size) ⟨by go_grown, ?_, ?_, by simp⟩ ?_
  · have h := (Arr.new w cs.toArray 26).alloc (by simp) (.cells (cells8 (List.replicate 32 0)).toArray 26)
    rw [List.toList_toArray] at h; exact h
  · have h := Arr.new (w.alloc (.cells cs.toArray 26)) (cells8 (List.replicate 32 0)).toArray 26
    rw [World.size_alloc, List.toList_toArray] at h; exact h
  rintro W0 ⟨hB0, hA0, hD0, hz0⟩
  refine (HTG.out W0 hB0 hA0 (by omega)).mono ?_
  rintro e w2 ⟨rfl, hB2⟩
  have hD2 := hD0.below hB2 hz0
  have hB := hB0.trans (hB2.mono hB0.size)
  have HB := Lib.hid hB
  have HD2 := Lib.hid hD2
  clear hB0 hA0 hD0 hB2 hB hD2
  go_wp2_with (refine store_new rfl 26 _ _ (by rfl) (w.heap.size + 1) (w.heap.size + 1) cs2 _ (by rfl) (by rfl) (Below.refl _ w2) (Nat.le_refl _) HD2.out (by rw [HCL2.out]; rfl) HZ2.out HO2.out ?_; intro W7 hB7 hA7 hz7)
  refine bodyPost_ret (results_cell_mid rfl _ _ _ _ _ rfl hA7.at_ Tryd.underlying26 rfl HZ2.out) rfl ?_
  exact ⟨rfl, HB.out.trans (hB7.mono (by omega))⟩
end Go.Proofs.YtnddejhbncgchaaDoor
