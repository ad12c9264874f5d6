/- digest.node, digest.Chain. -/
import Derived.Test.YtnddejhbncgchaaDoorPair
namespace Go.Proofs.YtnddejhbncgchaaDoor
open Go.RowKit

theorem arr3a (w : World) (cx cy : List Value) : Arr (((w.alloc (.cells cx.toArray 26)).alloc (.cells cy.toArray 26)).alloc (.cells (cells8 (List.replicate 32 0)).toArray 26)) w.heap.size cx := by
  have h := ((Arr.new w cx.toArray 26).alloc (by simp) (.cells cy.toArray 26)).alloc (by simp; omega) (.cells (cells8 (List.replicate 32 0)).toArray 26)
  rw [List.toList_toArray] at h; exact h
theorem arr3b (w : World) (cx cy : List Value) : Arr (((w.alloc (.cells cx.toArray 26)).alloc (.cells cy.toArray 26)).alloc (.cells (cells8 (List.replicate 32 0)).toArray 26)) (w.heap.size + 1) cy := by
  have h := (Arr.new (w.alloc (.cells cx.toArray 26)) cy.toArray 26).alloc (by simp) (.cells (cells8 (List.replicate 32 0)).toArray 26)
  rw [World.size_alloc, List.toList_toArray] at h; exact h
theorem arr3c (w : World) (cx cy : List Value) : Arr (((w.alloc (.cells cx.toArray 26)).alloc (.cells cy.toArray 26)).alloc (.cells (cells8 (List.replicate 32 0)).toArray 26)) (w.heap.size + 2) (cells8 (List.replicate 32 0)) := by
  have h := Arr.new ((w.alloc (.cells cx.toArray 26)).alloc (.cells cy.toArray 26)) (cells8 (List.replicate 32 0)).toArray 26
  rw [World.size_alloc, World.size_alloc, List.toList_toArray] at h; exact h

set_option maxRecDepth 100000 in
set_option maxHeartbeats 2000000 in
theorem chain_any (w : World) (x y : List UInt8) (hx : x.length = 32) (hy : y.length = 32) (hT : Tab w) (h0 : 0 < w.heap.size) :
    Calls Tryd.prog 25 #[dv x, dv y] w fun e w' => e = .returned (dv (tagged tChain (x ++ y))) ∧ Below w.heap.size w w' := by
  obtain ⟨cs2, hcs2⟩ : ∃ cs2, cells8 (tagged tChain (x ++ y)) = cs2 := ⟨_, rfl⟩
  have hcl2 : cs2.length = 32 := by rw [← hcs2, cells8_len, tagged_len]
  have ho2 : ∀ v ∈ cs2, v.oneCell' = true := by rw [← hcs2]; exact one_cells8 _
  have hz2 : (Tryd.prog.info? 26).map (·.size) = some cs2.length := by rw [hcl2]; exact Tryd.info26
  obtain ⟨cx, hcx⟩ : ∃ cx, cells8 x = cx := ⟨_, rfl⟩
  obtain ⟨cy, hcy⟩ : ∃ cy, cells8 y = cy := ⟨_, rfl⟩
  have hpair : ∀ W : World, Below w.heap.size w W → Calls Tryd.prog 46 #[.string ⟨#[99, 104, 97, 105, 110]⟩, .agg cx.toArray, .agg cy.toArray] W fun e w' => e = .returned (.agg cs2.toArray) ∧ Below W.heap.size W w' := fun W hB => by
    have h := pair_any W ⟨#[99, 104, 97, 105, 110]⟩ x y hx hy (by decide) (hT.below hB h0) (by have := hB.size; omega)
    have e : cells8 (tagged (⟨#[99, 104, 97, 105, 110]⟩ : ByteArray).data.toList (x ++ y)) = cs2 := hcs2
    rwa [dv_eq, dv_eq, dv_eq, e, hcx, hcy] at h
  have hlx : cx.length = 32 := by rw [← hcx, cells8_len, hx]
  have hly : cy.length = 32 := by rw [← hcy, cells8_len, hy]
  rw [dv_eq x, dv_eq y, hcx, hcy, show dv (tagged tChain (x ++ y)) = .agg cs2.toArray by rw [dv_eq, hcs2]]
  have HP := Lib.hid hpair
  have HO2 := Lib.hid ho2
  have HCL2 := Lib.hid hcl2
  have HZ2 := Lib.hid hz2
  have HZX : Hid ((Tryd.prog.info? 26).map (·.size) = some cx.length) := by show _ = _; rw [hlx]; exact Tryd.info26
  have HZY : Hid ((Tryd.prog.info? 26).map (·.size) = some cy.length) := by show _ = _; rw [hly]; exact Tryd.info26
  clear hpair ho2 hcl2 hz2 hcs2 hlx hly hcx hcy hT hx hy
  go_enter Tryd.func25, Tryd.ntmps25
  go_wp2_with (
    refine wpList_world (fun W => Below w.heap.size w W ∧ Arr W w.heap.size cx ∧ Arr W (w.heap.size + 1) cy ∧ Arr W (w.heap.size + 2) (cells8 (List.replicate 32 0)) ∧ w.heap.size + 2 < W.heap.size)
      ⟨by go_grown, arr3a w cx cy, arr3b w cx cy, arr3c w cx cy, by simp⟩ ?_
    rintro W0 ⟨hB0, hX0, hY0, hD0, hz0⟩
    refine wpList_load_mid rfl 26 _ (by rfl) w.heap.size 0 (by rfl) _ _ hX0.at_ Tryd.underlying26 rfl HZX.out ?_
    refine wpList_load_mid rfl 26 _ (by rfl) (w.heap.size + 1) 0 (by rfl) _ _ hY0.at_ Tryd.underlying26 rfl HZY.out ?_
    have HB0 := Lib.hid hB0
    have HD0 := Lib.hid hD0
    clear hB0 hX0 hY0 hD0)
  refine (HP.out W0 HB0.out).mono ?_
  rintro e w6 ⟨rfl, hB6⟩
  have hk6 : Below w.heap.size w w6 := HB0.out.trans (hB6.mono HB0.out.size)
  have hD6 := HD0.out.below hB6 hz0
  have HK6 := Lib.hid hk6
  have HD6 := Lib.hid hD6
  clear hB6 hk6 hD6
  go_wp2_with (refine store_new rfl 26 _ _ (by rfl) w.heap.size (w.heap.size + 2) cs2 _ (by rfl) (by rfl) HK6.out (by omega) HD6.out (by rw [HCL2.out]; rfl) HZ2.out HO2.out ?_; intro W7 hB7 hA7 hz7)
  refine bodyPost_ret (results_cell_mid rfl _ _ _ _ _ rfl hA7.at_ Tryd.underlying26 rfl HZ2.out) rfl ?_
  exact ⟨rfl, hB7⟩

set_option maxRecDepth 100000 in
set_option maxHeartbeats 2000000 in
theorem node_any (w : World) (x y : List UInt8) (hx : x.length = 32) (hy : y.length = 32) (hT : Tab w) (h0 : 0 < w.heap.size) :
    Calls Tryd.prog 37 #[dv x, dv y] w fun e w' => e = .returned (dv (tagged tNode (x ++ y))) ∧ Below w.heap.size w w' := by
  obtain ⟨cs2, hcs2⟩ : ∃ cs2, cells8 (tagged tNode (x ++ y)) = cs2 := ⟨_, rfl⟩
  have hcl2 : cs2.length = 32 := by rw [← hcs2, cells8_len, tagged_len]
  have ho2 : ∀ v ∈ cs2, v.oneCell' = true := by rw [← hcs2]; exact one_cells8 _
  have hz2 : (Tryd.prog.info? 26).map (·.size) = some cs2.length := by rw [hcl2]; exact Tryd.info26
  obtain ⟨cx, hcx⟩ : ∃ cx, cells8 x = cx := ⟨_, rfl⟩
  obtain ⟨cy, hcy⟩ : ∃ cy, cells8 y = cy := ⟨_, rfl⟩
  have hpair : ∀ W : World, Below w.heap.size w W → Calls Tryd.prog 46 #[.string ⟨#[110, 111, 100, 101]⟩, .agg cx.toArray, .agg cy.toArray] W fun e w' => e = .returned (.agg cs2.toArray) ∧ Below W.heap.size W w' := fun W hB => by
    have h := pair_any W ⟨#[110, 111, 100, 101]⟩ x y hx hy (by decide) (hT.below hB h0) (by have := hB.size; omega)
    have e : cells8 (tagged (⟨#[110, 111, 100, 101]⟩ : ByteArray).data.toList (x ++ y)) = cs2 := hcs2
    rwa [dv_eq, dv_eq, dv_eq, e, hcx, hcy] at h
  have hlx : cx.length = 32 := by rw [← hcx, cells8_len, hx]
  have hly : cy.length = 32 := by rw [← hcy, cells8_len, hy]
  rw [dv_eq x, dv_eq y, hcx, hcy, show dv (tagged tNode (x ++ y)) = .agg cs2.toArray by rw [dv_eq, hcs2]]
  have HP := Lib.hid hpair
  have HO2 := Lib.hid ho2
  have HCL2 := Lib.hid hcl2
  have HZ2 := Lib.hid hz2
  have HZX : Hid ((Tryd.prog.info? 26).map (·.size) = some cx.length) := by show _ = _; rw [hlx]; exact Tryd.info26
  have HZY : Hid ((Tryd.prog.info? 26).map (·.size) = some cy.length) := by show _ = _; rw [hly]; exact Tryd.info26
  clear hpair ho2 hcl2 hz2 hcs2 hlx hly hcx hcy hT hx hy
  go_enter Tryd.func37, Tryd.ntmps37
  go_wp2_with (
    refine wpList_world (fun W => Below w.heap.size w W ∧ Arr W w.heap.size cx ∧ Arr W (w.heap.size + 1) cy ∧ Arr W (w.heap.size + 2) (cells8 (List.replicate 32 0)) ∧ w.heap.size + 2 < W.heap.size)
      ⟨by go_grown, arr3a w cx cy, arr3b w cx cy, arr3c w cx cy, by simp⟩ ?_
    rintro W0 ⟨hB0, hX0, hY0, hD0, hz0⟩
    refine wpList_load_mid rfl 26 _ (by rfl) w.heap.size 0 (by rfl) _ _ hX0.at_ Tryd.underlying26 rfl HZX.out ?_
    refine wpList_load_mid rfl 26 _ (by rfl) (w.heap.size + 1) 0 (by rfl) _ _ hY0.at_ Tryd.underlying26 rfl HZY.out ?_
    have HB0 := Lib.hid hB0
    have HD0 := Lib.hid hD0
    clear hB0 hX0 hY0 hD0)
  refine (HP.out W0 HB0.out).mono ?_
  rintro e w6 ⟨rfl, hB6⟩
  have hk6 : Below w.heap.size w w6 := HB0.out.trans (hB6.mono HB0.out.size)
  have hD6 := HD0.out.below hB6 hz0
  have HK6 := Lib.hid hk6
  have HD6 := Lib.hid hD6
  clear hB6 hk6 hD6
  go_wp2_with (refine store_new rfl 26 _ _ (by rfl) w.heap.size (w.heap.size + 2) cs2 _ (by rfl) (by rfl) HK6.out (by omega) HD6.out (by rw [HCL2.out]; rfl) HZ2.out HO2.out ?_; intro W7 hB7 hA7 hz7)
  refine bodyPost_ret (results_cell_mid rfl _ _ _ _ _ rfl hA7.at_ Tryd.underlying26 rfl HZ2.out) rfl ?_
  exact ⟨rfl, hB7⟩
end Go.Proofs.YtnddejhbncgchaaDoor
