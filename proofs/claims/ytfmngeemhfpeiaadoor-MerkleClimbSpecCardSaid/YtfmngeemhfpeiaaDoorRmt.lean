/- merkle's reference: text, first. -/
import Derived.Test.YtfmngeemhfpeiaaDoorMjo
namespace Go.Proofs.YtfmngeemhfpeiaaDoor
open Go.RowKit

set_option maxRecDepth 100000 in
set_option maxHeartbeats 4000000 in
theorem rmtext_new (w : World) (s : ByteArray) (v : Value) (b : List UInt8) (hv : BytesAt w w.heap.size v b) (hs : s.size ≤ 900000) (hb : b.length ≤ 80000000) :
    Calls Tryd.prog 78 #[.string s, v] w fun e w' => ∃ v', e = .returned v' ∧ NewB w.heap.size w' v' (sha s.data.toList ++ b) ∧ Below w.heap.size w w' := by
  have hcv := fun (W : World) => Lib.run_convert_string_bytes (P := Tryd.prog) W 9 34 5 s Tryd.underlying9 Tryd.underlying34 Tryd.underlying5
  have HV := Lib.hid hv
  obtain ⟨n, hn⟩ : ∃ n, b.length = n := ⟨_, rfl⟩
  have HN := Lib.hid hn
  have hls : s.data.toList.length = s.size := by rw [Array.length_toList]; rfl
  have HLS := Lib.hid hls
  obtain ⟨S, hS⟩ : ∃ S, sha s.data.toList = S := ⟨_, rfl⟩
  have hSl : S.length = 32 := by rw [← hS, sha_len]
  obtain ⟨cs, hcs⟩ : ∃ cs, cells8 S = cs := ⟨_, rfl⟩
  have hcl : cs.length = 32 := by rw [← hcs, cells8_len, hSl]
  have HZ1 : Hid ((Tryd.prog.info? 30).map (·.size) = some cs.length) := by show _ = _; rw [hcl]; exact Tryd.info30
  have HO1 : Hid (∀ v ∈ cs, v.oneCell' = true) := Lib.hid (by rw [← hcs]; exact one_cells8 _)
  have HCL := Lib.hid hcl
  have HCS := Lib.hid hcs
  have HSL := Lib.hid hSl
  have HSS := Lib.hid hS
  have HBB := Lib.hid hb
  clear hls hS hSl hcs hcl hv hn hb
  rw [HSS.out]
  go_enter Tryd.func78, Tryd.ntmps78
  go_wp2_with fail
  refine (rsum_any _ _ s.data.toList (row_at (bytesWorld_row w s _ (grownCap_ge _ _ _ _) (grownCap_le_maxLen _ _ _ _ (by unfold maxLen; omega)))) (by rw [HLS.out]; omega)).mono ?_
  rintro e w2 ⟨rfl, hB2⟩
  have hBw2 : Below w.heap.size w w2 := (bytesWorld_below w s).trans (hB2.mono (by rw [Lib.bytesWorld_size]; omega))
  rw [dv_eq, HSS.out, HCS.out]
  have HBW2 := Lib.hid hBw2
  clear hB2 hBw2 hcv
  go_upto_region 2 with (refine store_new rfl 30 _ _ (by rfl) w2.heap.size w2.heap.size cs _ (by rfl) (by rfl) ((Below.refl w2.heap.size w2).alloc (Nat.le_refl _) _) (Nat.le_refl _) (Arr.new w2 _ 30) (by rw [HCL.out]; rfl) HZ1.out HO1.out ?_
                         intro W3 hB3 hA3 hz3)
  have hz3' : w2.heap.size < W3.heap.size := by simp at hz3; omega
  have hB3w := HBW2.out.trans (hB3.mono HBW2.out.size)
  have hs3 := hB3w.size
  have hal : Below W3.heap.size W3 (W3.alloc (.cells #[] 5)) := (Below.refl _ _).alloc (Nat.le_refl _) _
  have hBA := hB3w.trans (hal.mono hs3)
  have hszA : (W3.alloc (.cells #[] 5)).heap.size = W3.heap.size + 1 := World.size_alloc _ _
  have hG0 : Gro (W3.alloc (.cells #[] 5)) w.heap.size (.slice (some ⟨W3.heap.size, 0, none⟩) 0 0) [] := ⟨_, 0, rfl, .inr (World.ownsRow_made W3 #[] 0 hs3 (by unfold maxLen; omega) rfl)⟩
  have hu0 : BytesAt (W3.alloc (.cells #[] 5)) (W3.alloc (.cells #[] 5)).heap.size (.slice (some ⟨w2.heap.size, 0, none⟩) 32 32) S := by
    refine ⟨_, 32, by rw [HSL.out], by rw [HSL.out]; exact Nat.le_refl _, by unfold maxLen; omega, .inr ⟨w2.heap.size, 0, rfl, by omega, fun j hj => ?_⟩⟩
    rw [Nat.zero_add]
    exact (hA3.below hal hz3').cell (by rw [← HCS.out]; simp [cells8, List.getElem?_eq_getElem hj])
  obtain ⟨v4, W4, hrun4, hG4, hB4⟩ := gro_app hG0 hBA.size hu0 (by rw [HSL.out]; simp)
  rw [List.nil_append] at hG4
  have hBw4 := hBA.trans hB4
  have hu4 := (HV.out.below hBw4).mono hBw4.size
  obtain ⟨v5, W5, hrun5, hG5, hB5⟩ := gro_app hG4 hBw4.size hu4 (by rw [HSL.out]; have := HBB.out; omega)
  have HR4 := Lib.hid hrun4
  have HR5 := Lib.hid hrun5
  have hnb : NewB w.heap.size W5 v5 (S ++ b) := ⟨hG5.fresh, hG5.bytes⟩
  have HV5 := Lib.hid hnb
  have HB5 := Lib.hid (hBw4.trans hB5)
  clear hnb hrun4 hG4 hB4 hrun5 hG5 hB5 hu4 hBw4 hu0 hG0 hszA hBA hal hs3 hB3w hz3' hz3 hA3 hB3
  go_wp2_with (first
    | (refine wpList_buildSlice_run rfl 34 0 [] (by rfl) [] _ (by rfl) (bs0_22 _) ?_; simp only [Act.put, List.setIfInBounds_toArray, List.set_cons_zero, List.set_cons_succ])
    | (refine wpList_plain rfl fun K hK => wp_app_run (.tmp 9) (.tmp 10) 34 34 (by rfl) _ _ _ _ (by rfl) (by rfl) HR4.out (hK _ _ ?_))
    | (refine wpList_plain rfl fun K hK => wp_app_run (.tmp 11) (.tmp 12) 34 34 (by rfl) _ _ _ _ (by rfl) (by rfl) HR5.out (hK _ _ ?_)))
  go_returns
  exact ⟨_, rfl, HV5.out, HB5.out⟩
theorem rmtext_any (w : World) (s : ByteArray) (v : Value) (b : List UInt8) (hv : BytesAt w w.heap.size v b) (hs : s.size ≤ 900000) (hb : b.length ≤ 80000000) :
    Calls Tryd.prog 78 #[.string s, v] w fun e w' => ∃ v', e = .returned v' ∧ BytesAt w' w'.heap.size v' (sha s.data.toList ++ b) ∧ Below w.heap.size w w' := by
  refine (rmtext_new w s v b hv hs hb).mono ?_
  rintro e w' ⟨v', rfl, h1, h2⟩
  exact ⟨v', rfl, h1.2, h2⟩
end Go.Proofs.YtfmngeemhfpeiaaDoor
