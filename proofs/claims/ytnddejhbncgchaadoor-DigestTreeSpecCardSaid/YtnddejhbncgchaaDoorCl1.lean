/- digest.climb at one element; digest.Climb and digest.Path where they refuse, and at one element. -/
import Derived.Test.YtnddejhbncgchaaDoorTrN
namespace Go.Proofs.YtnddejhbncgchaaDoor
open Go.RowKit

theorem box_a (w : World) (cx : List Value) : ((w.alloc (.cells cx.toArray 26)).alloc (.cells (cells8 (List.replicate 32 0)).toArray 26)).rangeAt w.heap.size 0 cx := by
  have h := ((Arr.new w cx.toArray 26).alloc (by simp) (.cells (cells8 (List.replicate 32 0)).toArray 26)).at_
  rw [List.toList_toArray] at h; exact h
theorem box_b (w : World) (cx : List Value) : Arr ((w.alloc (.cells cx.toArray 26)).alloc (.cells (cells8 (List.replicate 32 0)).toArray 26)) (w.heap.size + 1) (cells8 (List.replicate 32 0)) := by
  have h := Arr.new (w.alloc (.cells cx.toArray 26)) (cells8 (List.replicate 32 0)).toArray 26
  rw [World.size_alloc, List.toList_toArray] at h; exact h

set_option maxRecDepth 100000 in
set_option maxHeartbeats 2000000 in
theorem climb_one (w : World) (d : List UInt8) (hd : d.length = 32) (i : Int) (a : Option Addr) (n cap : Nat) (hT : Tab w) (h0 : 0 < w.heap.size) :
    Calls Tryd.prog 43 #[dv d, .int .i64 i, .int .i64 1, .slice a n cap] w fun e w' => e = .returned (dv (tree [d])) ∧ Below w.heap.size w w' := by
  obtain ⟨cs2, hcs2⟩ : ∃ cs2, cells8 (tree [d]) = cs2 := ⟨_, rfl⟩
  have hcl2 : cs2.length = 32 := by rw [← hcs2, cells8_len, tree_len]
  have ho2 : ∀ v ∈ cs2, v.oneCell' = true := by rw [← hcs2]; exact one_cells8 _
  have hz2 : (Tryd.prog.info? 26).map (·.size) = some cs2.length := by rw [hcl2]; exact Tryd.info26
  obtain ⟨cx, hcx⟩ : ∃ cx, cells8 d = cx := ⟨_, rfl⟩
  have hlf : ∀ W : World, Below w.heap.size w W → Calls Tryd.prog 35 #[.agg cx.toArray] W fun e w' => e = .returned (.agg cs2.toArray) ∧ Below W.heap.size W w' := fun W hB => by
    have h := leaf_any W d hd (hT.below hB h0) (by have := hB.size; omega)
    have e : cells8 (tagged tLeaf d) = cs2 := hcs2
    rwa [dv_eq, dv_eq, e, hcx] at h
  have hlx : cx.length = 32 := by rw [← hcx, cells8_len, hd]
  rw [show dv (tree [d]) = .agg cs2.toArray by rw [dv_eq, hcs2], show dv d = .agg cx.toArray by rw [dv_eq, hcx]]
  have HLF := Lib.hid hlf
  have HO2 := Lib.hid ho2
  have HCL2 := Lib.hid hcl2
  have HZ2 := Lib.hid hz2
  have HZX : Hid ((Tryd.prog.info? 26).map (·.size) = some cx.length) := by show _ = _; rw [hlx]; exact Tryd.info26
  clear hlf ho2 hcl2 hz2 hcs2 hT hlx hcx hd
  go_enter Tryd.func43, Tryd.ntmps43
  go_wp2_with (first
    | (refine wpList_world (fun W => Below w.heap.size w W ∧ W.rangeAt w.heap.size 0 cx ∧ Arr W (w.heap.size + 1) (cells8 (List.replicate 32 0)) ∧ w.heap.size + 1 < W.heap.size) ⟨by go_grown, box_a w cx, box_b w cx, by simp⟩ ?_
       rintro W0 ⟨hB0, hX0, hD0, hz0⟩
       have HB0 := Lib.hid hB0
       have HX0 := Lib.hid hX0
       have HD0 := Lib.hid hD0
       clear hB0 hX0 hD0)
    | (refine wpList_load_mid rfl 26 _ (by rfl) w.heap.size 0 (by rfl) _ _ HX0.out Tryd.underlying26 rfl HZX.out ?_))
  refine (HLF.out W0 HB0.out).mono ?_
  rintro e w6 ⟨rfl, hB6⟩
  have hk6 : Below w.heap.size w w6 := HB0.out.trans (hB6.mono HB0.out.size)
  have hD6 := HD0.out.below hB6 hz0
  have HK6 := Lib.hid hk6
  have HD6 := Lib.hid hD6
  clear hB6 hk6 hD6
  go_wp2_with (refine store_new rfl 26 _ _ (by rfl) w.heap.size (w.heap.size + 1) cs2 _ (by rfl) (by rfl) HK6.out (by omega) HD6.out (by rw [HCL2.out]; rfl) HZ2.out HO2.out ?_; intro W7 hB7 hA7 hz7)
  refine bodyPost_ret (results_cell_mid rfl _ _ _ _ _ rfl hA7.at_ Tryd.underlying26 rfl HZ2.out) rfl ?_
  exact ⟨rfl, hB7⟩

set_option maxRecDepth 100000 in
set_option maxHeartbeats 2000000 in
theorem path_nil (w : World) : Calls Tryd.prog 19 #[.slice none 0 0, .int .i64 0] w fun e w' => e = .returned (.tuple #[.slice none 0 0, .int .i64 1]) ∧ Below w.heap.size w w' := by
  go_enter Tryd.func19, Tryd.ntmps19
  go_wp2
  go_returns
  exact ⟨rfl, by go_grown⟩
end Go.Proofs.YtnddejhbncgchaaDoor
