/- digest.Tree: the walks. -/
import Derived.Test.YtnddejhbncgchaaDoorTree
namespace Go.Proofs.YtnddejhbncgchaaDoor
open Go.RowKit

theorem bytes_nil (w : World) (B : Nat) : BytesAt w B (.slice none 0 0) [] := ⟨none, 0, rfl, by simp, by unfold maxLen; omega, .inl rfl⟩

set_option maxRecDepth 100000 in
set_option maxHeartbeats 2000000 in
theorem tree_w0 (w : World) (a : Option Addr) (cap : Nat) (hT : Tab w) (h0 : 0 < w.heap.size) :
    Calls Tryd.prog 17 #[.slice a 0 cap] w fun e w' => e = .returned (dv (tree [])) ∧ Below w.heap.size w w' := by
  obtain ⟨cs2, hcs2⟩ : ∃ cs2, cells8 (tree []) = cs2 := ⟨_, rfl⟩
  have hcl2 : cs2.length = 32 := by rw [← hcs2, cells8_len, tree_len]
  have ho2 : ∀ v ∈ cs2, v.oneCell' = true := by rw [← hcs2]; exact one_cells8 _
  have hz2 : (Tryd.prog.info? 26).map (·.size) = some cs2.length := by rw [hcl2]; exact Tryd.info26
  have htg : ∀ W : World, Below w.heap.size w W → Calls Tryd.prog 14 #[.string ⟨#[101, 109, 112, 116, 121]⟩, .slice none 0 0] W fun e w' => e = .returned (.agg cs2.toArray) ∧ Below W.heap.size W w' := fun W hB => by
    have h := tagged_any W ⟨#[101, 109, 112, 116, 121]⟩ (.slice none 0 0) [] (bytes_nil _ _) (by decide) (by simp) (hT.below hB h0) (by have := hB.size; omega)
    have e : cells8 (tagged (⟨#[101, 109, 112, 116, 121]⟩ : ByteArray).data.toList []) = cs2 := hcs2
    rwa [dv_eq, e] at h
  rw [show dv (tree []) = .agg cs2.toArray by rw [dv_eq, hcs2]]
  have HTG := Lib.hid htg
  have HO2 := Lib.hid ho2
  have HCL2 := Lib.hid hcl2
  have HZ2 := Lib.hid hz2
  clear htg ho2 hcl2 hz2 hcs2 hT
  go_enter Tryd.func17, Tryd.ntmps17
  go_wp2_with (
    refine wpList_world (fun W => Below w.heap.size w W ∧ Arr W w.heap.size (cells8 (List.replicate 32 0)) ∧ w.heap.size < W.heap.size) ⟨by go_grown, Arr.new w _ 26, by simp⟩ ?_
    rintro W0 ⟨hB0, hD0, hz0⟩
    have HB0 := Lib.hid hB0
    have HD0 := Lib.hid hD0
    clear hB0 hD0)
  refine (HTG.out W0 HB0.out).mono ?_
  rintro e w6 ⟨rfl, hB6⟩
  have hk6 : Below w.heap.size w w6 := HB0.out.trans (hB6.mono HB0.out.size)
  have hD6 := HD0.out.below hB6 hz0
  have HK6 := Lib.hid hk6
  have HD6 := Lib.hid hD6
  clear hB6 hk6 hD6
  go_wp2_with (refine store_new rfl 26 _ _ (by rfl) w.heap.size w.heap.size cs2 _ (by rfl) (by rfl) HK6.out (by omega) HD6.out (by rw [HCL2.out]; rfl) HZ2.out HO2.out ?_; intro W7 hB7 hA7 hz7)
  refine bodyPost_ret (results_cell_mid rfl _ _ _ _ _ rfl hA7.at_ Tryd.underlying26 rfl HZ2.out) rfl ?_
  exact ⟨rfl, hB7⟩

set_option maxRecDepth 100000 in
set_option maxHeartbeats 2000000 in
theorem tree_w1 (w : World) (db off cap : Nat) (d : List UInt8) (hd : d.length = 32) (hr : w.rangeAt db off (cells8 d)) (hdb : db < w.heap.size) (hT : Tab w) (h0 : 0 < w.heap.size) :
    Calls Tryd.prog 17 #[.slice (some ⟨db, off, none⟩) 1 cap] w fun e w' => e = .returned (dv (tree [d])) ∧ Below w.heap.size w w' := by
  obtain ⟨cs2, hcs2⟩ : ∃ cs2, cells8 (tree [d]) = cs2 := ⟨_, rfl⟩
  have hcl2 : cs2.length = 32 := by rw [← hcs2, cells8_len, tree_len]
  have ho2 : ∀ v ∈ cs2, v.oneCell' = true := by rw [← hcs2]; exact one_cells8 _
  have hz2 : (Tryd.prog.info? 26).map (·.size) = some cs2.length := by rw [hcl2]; exact Tryd.info26
  obtain ⟨cx, hcx⟩ : ∃ cx, cells8 d = cx := ⟨_, rfl⟩
  have hlf : ∀ W : World, Below w.heap.size w W → Calls Tryd.prog 35 #[.agg cx.toArray] W fun e w' => e = .returned (.agg cs2.toArray) ∧ Below W.heap.size W w' := fun W hB => by
    have h := leaf_any W d hd (hT.below hB h0) (by have := hB.size; omega)
    have e : cells8 (tagged tLeaf d) = cs2 := hcs2
    rwa [dv_eq, dv_eq, e, hcx] at h
  have hlx : cx.length = 32 := by rw [← hcx, cells8_len, hd]
  have hrw : ∀ W : World, Below w.heap.size w W → W.rangeAt db off cx := fun W hB j v hv => (hB.cell (p := ⟨db, off + j, none⟩) hdb).trans (hr j v (by rw [hcx]; exact hv))
  rw [show dv (tree [d]) = .agg cs2.toArray by rw [dv_eq, hcs2]]
  have HLF := Lib.hid hlf
  have HRW := Lib.hid hrw
  have HO2 := Lib.hid ho2
  have HCL2 := Lib.hid hcl2
  have HZ2 := Lib.hid hz2
  have HZX : Hid ((Tryd.prog.info? 26).map (·.size) = some cx.length) := by show _ = _; rw [hlx]; exact Tryd.info26
  clear hlf hrw ho2 hcl2 hz2 hcs2 hT hlx hr
  go_enter Tryd.func17, Tryd.ntmps17
  go_wp2_with (first
    | (refine wpList_world (fun W => Below w.heap.size w W ∧ Arr W w.heap.size (cells8 (List.replicate 32 0)) ∧ w.heap.size < W.heap.size) ⟨by go_grown, Arr.new w _ 26, by simp⟩ ?_
       rintro W0 ⟨hB0, hD0, hz0⟩
       have HB0 := Lib.hid hB0
       have HD0 := Lib.hid hD0
       clear hB0 hD0)
    | (refine wpList_load_mid rfl 26 _ (by rfl) db off (by rfl) _ _ (HRW.out W0 HB0.out) Tryd.underlying26 rfl HZX.out ?_))
  trace_state
  refine (HLF.out W0 HB0.out).mono ?_
  rintro e w6 ⟨rfl, hB6⟩
  have hk6 : Below w.heap.size w w6 := HB0.out.trans (hB6.mono HB0.out.size)
  have hD6 := HD0.out.below hB6 hz0
  have HK6 := Lib.hid hk6
  have HD6 := Lib.hid hD6
  clear hB6 hk6 hD6
  go_wp2_with (refine store_new rfl 26 _ _ (by rfl) w.heap.size w.heap.size cs2 _ (by rfl) (by rfl) HK6.out (by omega) HD6.out (by rw [HCL2.out]; rfl) HZ2.out HO2.out ?_; intro W7 hB7 hA7 hz7)
  refine bodyPost_ret (results_cell_mid rfl _ _ _ _ _ rfl hA7.at_ Tryd.underlying26 rfl HZ2.out) rfl ?_
  exact ⟨rfl, hB7⟩
end Go.Proofs.YtnddejhbncgchaaDoor
