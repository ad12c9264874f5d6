/- The reference's Tagged, and its Chain. -/
import Derived.Test.YtnddejhbncgchaaDoorRsm
namespace Go.Proofs.YtnddejhbncgchaaDoor
open Go.RowKit

theorem row_at {w : World} {B : Nat} {v : Value} {b : List UInt8} (h : Row w B v b) : BytesAt w B v b := by
  rcases h with ⟨rfl, rfl⟩ | ⟨db, off, cap, rfl, h1, h2, h3, h4⟩
  · exact ⟨none, 0, rfl, by simp, by unfold maxLen; omega, .inl rfl⟩
  · exact ⟨some ⟨db, off, none⟩, cap, rfl, h1, h2, .inr ⟨db, off, rfl, h3, h4⟩⟩
theorem own_at {W : World} {B g n c : Nat} {l : List UInt8} (h : W.ownsRow B 5 1 (.slice (some ⟨g, 0, none⟩) n c) n (cells8 l)) : BytesAt W W.heap.size (.slice (some ⟨g, 0, none⟩) n c) l := by
  have hs : Spare W B g n c l := h
  obtain ⟨_, s1, s2, s3, s4, s5⟩ := hs.bytes
  exact ⟨some ⟨g, 0, none⟩, c, by rw [s4], by rw [s4]; exact s2, s3, .inr ⟨g, 0, rfl, s1, s5⟩⟩

set_option maxRecDepth 100000 in
set_option maxHeartbeats 4000000 in
theorem rtagged_any (w : World) (s : ByteArray) (v : Value) (b : List UInt8) (hv : BytesAt w w.heap.size v b) (hs : s.size ≤ 900000) (hb : b.length ≤ 900000) :
    Calls Tryd.prog 15 #[.string s, v] w fun e w' => e = .returned (dv (tagged s.data.toList b)) ∧ Below w.heap.size w w' := by
  obtain ⟨j0, hj0, hy0, hy1, hy2⟩ := info_parts Tryd.infoU8
  have HJ := Lib.hid hj0
  have HY0 := Lib.hid hy0
  have HY1 := Lib.hid hy1
  have HY2 := Lib.hid hy2
  have hcv := fun (W : World) => Lib.run_convert_string_bytes (P := Tryd.prog) W 9 22 5 s Tryd.underlying9 Tryd.underlying22 Tryd.underlying5
  have HV := Lib.hid hv
  obtain ⟨n, hn⟩ : ∃ n, b.length = n := ⟨_, rfl⟩
  have HN := Lib.hid hn
  rw [hn] at hb
  have hls : s.data.toList.length = s.size := by rw [Array.length_toList]; rfl
  have HLS := Lib.hid hls
  obtain ⟨cs, hcs⟩ : ∃ cs, cells8 (sha s.data.toList) = cs := ⟨_, rfl⟩
  have hcl : cs.length = 32 := by rw [← hcs, cells8_len, sha_len]
  have HZ1 : Hid ((Tryd.prog.info? 26).map (·.size) = some cs.length) := by show _ = _; rw [hcl]; exact Tryd.info26
  have HO1 : Hid (∀ v ∈ cs, v.oneCell' = true) := Lib.hid (by rw [← hcs]; exact one_cells8 _)
  have HCL := Lib.hid hcl
  have HCS := Lib.hid hcs
  obtain ⟨cr, hcr⟩ : ∃ cr, cells8 (tagged s.data.toList b) = cr := ⟨_, rfl⟩
  have hrl : cr.length = 32 := by rw [← hcr, cells8_len, tagged_len]
  have HZR : Hid ((Tryd.prog.info? 26).map (·.size) = some cr.length) := by show _ = _; rw [hrl]; exact Tryd.info26
  have HOR : Hid (∀ v ∈ cr, v.oneCell' = true) := Lib.hid (by rw [← hcr]; exact one_cells8 _)
  have HRL := Lib.hid hrl
  have HCR := Lib.hid hcr
  have HSUM : Hid (∀ W (g c : Nat), W.ownsRow w.heap.size 5 1 (.slice (some ⟨g, 0, none⟩) (32 + n) c) (32 + n) (cs ++ cells8 b) → Calls Tryd.prog 13 #[.slice (some ⟨g, 0, none⟩) (32 + n) c] W fun e w' => e = .returned (.agg cr.toArray) ∧ Below W.heap.size W w') := Lib.hid fun W g c hO => by
    have h := rsum_any W _ (sha s.data.toList ++ b) (own_at (B := w.heap.size) (by rw [← cells8_append, hcs]; exact hO)) (by rw [List.length_append, sha_len, HN.out]; omega)
    rw [dv_eq, show cells8 (sha (sha s.data.toList ++ b)) = cr from hcr] at h
    exact h
  clear hv hn hj0 hy0 hy1 hy2 hls hcs hcl hcr hrl
  go_enter Tryd.func15, Tryd.ntmps15
  go_wp2_with (refine wpList_world (fun W => Below w.heap.size w W ∧ Arr W w.heap.size (cells8 (List.replicate 32 0)) ∧ w.heap.size < W.heap.size) ⟨by go_grown, Arr.new w _ 26, by simp⟩ ?_; rintro W0 ⟨hB0, hD0, hz0⟩)
  refine (rsum_any _ _ s.data.toList (row_at (bytesWorld_row W0 s _ (grownCap_ge _ _ _ _) (grownCap_le_maxLen _ _ _ _ (by unfold maxLen; omega)))) (by rw [HLS.out]; omega)).mono ?_
  rintro e w2 ⟨rfl, hB2⟩
  have hBw2 : Below w.heap.size w w2 := (hB0.trans ((bytesWorld_below W0 s).mono (by omega))).trans (hB2.mono (by rw [Lib.bytesWorld_size]; omega))
  have hD2 := (hD0.below (bytesWorld_below W0 s) hz0).below hB2 (by rw [Lib.bytesWorld_size]; omega)
  have hw2 : w.heap.size < w2.heap.size := by have := hB2.size; rw [Lib.bytesWorld_size] at this; omega
  rw [dv_eq, HCS.out]
  have HBW2 := Lib.hid hBw2
  have HD2 := Lib.hid hD2
  clear hB0 hD0 hB2 hBw2 hD2 hcv
  go_wp2_with (first
    | (refine store_new rfl 26 _ _ (by rfl) w2.heap.size w2.heap.size cs _ (by rfl) (by rfl) ((Below.refl w2.heap.size w2).alloc (Nat.le_refl _) _) (Nat.le_refl _) (Arr.new w2 _ 26) (by rw [HCL.out]; rfl) HZ1.out HO1.out ?_
       intro W3 hB3 hA3 hz3
       have hlt3 : w2.heap.size < W3.heap.size := by simp at hz3; omega
       have hk3 : Below w.heap.size w W3 := HBW2.out.trans (hB3.mono HBW2.out.size)
       have hD3 := HD2.out.below hB3 hw2
       have HA3 := Lib.hid hA3
       have HK3 := Lib.hid hk3
       have HD3 := Lib.hid hD3
       have hs3 := hk3.size
       clear hB3 hA3 hz3 hk3 hD3)
    | (refine wpList_buildSlice_run rfl 22 0 [] (by rfl) [] _ (by rfl) (bs0_22 _) ?_; simp only [Act.put, List.setIfInBounds_toArray, List.set_cons_zero, List.set_cons_succ])
    | (refine wpList_piece 22 5 j0 _ 1 1 Tryd.underlying22 HJ.out HY0.out HY1.out HY2.out rfl (by omega) (by rfl) (.tmp 9) (.tmp 10) (by rfl) (base := w.heap.size) (by rfl) (World.ownsRow_made W3 #[] 0 hs3 (by unfold maxLen; omega) rfl) (by rfl) (piece_row (n := 32) (c := 32) ((HA3.out.alloc hlt3 _).at_)) (by rw [HCL.out]) HO1.out (by unfold maxLen; omega) (by omega) (by have := hs3; simp; omega) 32 rfl cs (by simp) ?_
       intro hg0 g1 c1 W4 hO4 hG4 hat4
       have hB4 : Below w.heap.size w W4 := below_grow (HK3.out.alloc hs3 _) hG4 (fun k e => by cases e; exact hg0) (by have := hs3; simp; omega)
       have hD4 := (HD3.out.alloc (by omega) (.cells #[] 5)).moved hG4 (by simp; omega) (by intro e; injection e with e; have := hs3; omega)
       have hn4 : g1 ≠ w.heap.size := by rcases hat4 with h | h <;> (try simp at h) <;> omega
       have HB4 := Lib.hid hB4
       have HO4 := Lib.hid hO4
       have HD4 := Lib.hid hD4
       have hs4 := hB4.size
       have hz4 : w.heap.size < W4.heap.size := by have := hG4.size; simp at this; omega
       clear hG4 hat4 hB4 hD4 hO4
       simp only [Act.put, List.setIfInBounds_toArray, List.set_cons_zero, List.set_cons_succ])
    | (refine wpList_piece 22 5 j0 _ 1 1 Tryd.underlying22 HJ.out HY0.out HY1.out HY2.out rfl (by omega) (by rfl) (.tmp 11) (.tmp 12) (by rfl) (base := w.heap.size) (by rfl) HO4.out (by rfl) (by have := piece_bytes (HV.out.below HB4.out); rw [HN.out] at this; exact this) (by rw [cells8_len, HN.out]; omega) (one_cells8 _) (by unfold maxLen; omega) (by omega) hs4 (32 + n) rfl (cs ++ cells8 b) rfl ?_
       intro hg1 g2 c2 W5 hO5 hG5 hat5
       have hB5 : Below w.heap.size w W5 := below_grow HB4.out hG5 (fun k e => by cases e; exact hg1) hs4
       have hD5 := HD4.out.moved hG5 hz4 (by intro e; injection e with e; exact hn4 e.symm)
       have HB5 := Lib.hid hB5
       have HO5 := Lib.hid hO5
       have HD5 := Lib.hid hD5
       have hz5 : w.heap.size < W5.heap.size := by have := hG5.size; omega
       clear hG5 hat5 hB5 hD5 hO5
       simp only [Act.put, List.setIfInBounds_toArray, List.set_cons_zero, List.set_cons_succ])
    | (go_at_call 13
       refine (HSUM.out W5 g2 c2 HO5.out).mono ?_
       rintro e w6 ⟨rfl, hB6⟩
       have HB6 := Lib.hid (HB5.out.trans (hB6.mono HB5.out.size))
       have HD6 := Lib.hid (HD5.out.below hB6 hz5)
       clear hB6)
    | (refine store_new rfl 26 _ _ (by rfl) w.heap.size w.heap.size cr _ (by rfl) (by rfl) HB6.out (Nat.le_refl _) HD6.out (by rw [HRL.out]; rfl) HZR.out HOR.out ?_; intro W9 hB9 hA9 hz9))
  refine bodyPost_ret (results_cell_mid rfl _ _ _ _ _ rfl hA9.at_ Tryd.underlying26 rfl HZR.out) rfl ?_
  exact ⟨by rw [dv_eq, HCR.out], hB9⟩
end Go.Proofs.YtnddejhbncgchaaDoor
