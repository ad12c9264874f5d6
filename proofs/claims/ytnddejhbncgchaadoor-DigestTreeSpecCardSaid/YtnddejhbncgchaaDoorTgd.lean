/- digest.Tagged: the hash of the hash of the tag and the bytes. -/
import Derived.Test.YtnddejhbncgchaaDoorTag
namespace Go.Proofs.YtnddejhbncgchaaDoor
open Go.RowKit

def tagged (t b : List UInt8) : List UInt8 := sha (sha t ++ b)
theorem dv_eq (l : List UInt8) : dv l = .agg (cells8 l).toArray := rfl
theorem bytesWorld_row (w : World) (s : ByteArray) (cap : Nat) (hc : s.size ≤ cap) (hm : cap ≤ maxLen) : Row (Lib.bytesWorld w 5 s) (Lib.bytesWorld w 5 s).heap.size (.slice (some ⟨w.heap.size, 0, none⟩) s.size cap) s.data.toList := by
  have hl : s.data.toList.length = s.size := by rw [Array.length_toList]; rfl
  refine .inr ⟨w.heap.size, 0, cap, by rw [hl], by omega, hm, by rw [Lib.bytesWorld_size]; omega, fun i hi => ?_⟩
  rw [Nat.zero_add, Lib.bytesWorld_cell w 5 s i (by omega)]
  simp [List.getD, List.getElem?_eq_getElem hi]
theorem bytesWorld_below (w : World) (s : ByteArray) : Below w.heap.size w (Lib.bytesWorld w 5 s) :=
  ⟨rfl, rfl, rfl, by rw [Lib.bytesWorld_size]; omega, fun k hk => Lib.bytesWorld_at_old w 5 s k hk⟩

set_option maxRecDepth 100000 in
set_option maxHeartbeats 2000000 in
theorem tagged_any (w : World) (s : ByteArray) (v : Value) (b : List UInt8) (hv : BytesAt w w.heap.size v b) (hs : s.size ≤ 100000000) (hb : b.length ≤ 100000000) (hT : Tab w) (h0 : 0 < w.heap.size) :
    Calls Tryd.prog 14 #[.string s, v] w fun e w' => e = .returned (dv (tagged s.data.toList b)) ∧ Below w.heap.size w w' := by
  have hcv := fun (W : World) => Lib.run_convert_string_bytes (P := Tryd.prog) W 9 22 5 s Tryd.underlying9 Tryd.underlying22 Tryd.underlying5
  obtain ⟨a2, c2, rfl, _, _, h2⟩ := hv
  obtain ⟨n2, hn2⟩ : ∃ n2, b.length = n2 := ⟨_, rfl⟩
  rw [hn2]
  have hls : s.data.toList.length = s.size := by rw [Array.length_toList]; rfl
  have HT := Lib.hid hT
  have H2 := Lib.hid h2
  have HLS := Lib.hid hls
  have HN2 := Lib.hid hn2
  have HBL := Lib.hid hb
  clear hT h2 hls hn2 hb
  go_enter Tryd.func14, Tryd.ntmps14
  go_wp2_with (refine wpList_world (fun W => Below w.heap.size w W ∧ Arr W w.heap.size (cells8 (List.replicate 32 0)) ∧ w.heap.size < W.heap.size) ⟨by go_grown, Arr.new w _ 26, by simp⟩ ?_; rintro W0 ⟨hB0, hD0, hz0⟩)
  refine (sum_any _ _ s.data.toList (bytesWorld_row W0 s _ (grownCap_ge _ _ _ _) (grownCap_le_maxLen _ _ _ _ (by unfold maxLen; omega))) (by rw [HLS.out]; omega)
    (HT.out.below (hB0.trans ((bytesWorld_below W0 s).mono (by omega))) h0) (by rw [Lib.bytesWorld_size]; omega)).mono ?_
  rintro e w2 ⟨rfl, hB2⟩
  have hBw2 : Below w.heap.size w w2 := (hB0.trans ((bytesWorld_below W0 s).mono (by omega))).trans (hB2.mono (by rw [Lib.bytesWorld_size]; omega))
  have hD2 := (hD0.below (bytesWorld_below W0 s) hz0).below hB2 (by rw [Lib.bytesWorld_size]; omega)
  have hw2 : w.heap.size < w2.heap.size := by have := hB2.size; rw [Lib.bytesWorld_size] at this; omega
  clear hB0 hD0
  have hcl := sha_len s.data.toList
  have ho1 := one_cells8 (sha s.data.toList)
  rw [dv_eq]
  obtain ⟨cs, hcs⟩ : ∃ cs, cells8 (sha s.data.toList) = cs := ⟨_, rfl⟩
  rw [← cells8_len, hcs] at hcl
  rw [hcs] at ho1
  rw [hcs]
  have HZ1 : Hid ((Tryd.prog.info? 26).map (·.size) = some cs.length) := by show _ = _; rw [hcl]; exact Tryd.info26
  have HO1 := Lib.hid ho1
  have HCL := Lib.hid hcl
  have HCS := Lib.hid hcs
  have HBW2 := Lib.hid hBw2
  have HD2 := Lib.hid hD2
  clear hB2 hBw2 hD2 hcl ho1 hcs hcv
  go_wp2_with (refine store_new rfl 26 _ _ (by rfl) w2.heap.size w2.heap.size cs _ (by rfl) (by rfl) ((Below.refl w2.heap.size w2).alloc (Nat.le_refl _) _) (Nat.le_refl _) (Arr.new w2 _ 26) (by rw [HCL.out]; rfl) HZ1.out HO1.out ?_; intro W3 hB3 hA3 hz3)
  have hw3 : w2.heap.size < W3.heap.size := by simp at hz3; omega
  have hk3 : Below w.heap.size w W3 := HBW2.out.trans (hB3.mono (by omega))
  obtain ⟨W4, hW4⟩ : ∃ W4, W3.alloc (Obj.cells #[.slice (some ⟨w2.heap.size, 0, none⟩) 32 32, .slice a2 n2 c2] 22) = W4 := ⟨_, rfl⟩
  rw [hW4]
  have hB4 : Below W3.heap.size W3 W4 := by rw [← hW4]; exact (Below.refl _ _).alloc (Nat.le_refl _) _
  have hz4 : W4.heap.size = W3.heap.size + 1 := by rw [← hW4]; simp
  have hk4 : Below w.heap.size w W4 := hk3.trans (hB4.mono hk3.size)
  have hby : BytesIn W4 w2.heap.size 0 (sha s.data.toList) := fun i hi => by
    rw [Nat.zero_add, hB4.cell (p := ⟨w2.heap.size, i, none⟩) hw3]
    exact hA3.cell (by rw [← HCS.out]; simp [cells8, List.getElem?_eq_getElem hi])
  have hcA : W4.cell? ⟨W3.heap.size, 0, none⟩ = some (.slice (some ⟨w2.heap.size, 0, none⟩) 32 32) := by rw [← hW4, World.cell?_alloc_new]; rfl
  have hcB : W4.cell? ⟨W3.heap.size, 1, none⟩ = some (.slice a2 n2 c2) := by rw [← hW4, World.cell?_alloc_new]; rfl
  have hcat := concat_any W4 W3.heap.size w2.heap.size 0 32 c2 a2 (sha s.data.toList) b hby (by omega) (by
      rcases H2.out with h | ⟨db2, off2, h1, h2, h3⟩
      · exact .inl h
      · exact .inr ⟨db2, off2, h1, by have := hk4.size; omega, h3.below hk4 h2⟩)
    (by rw [sha_len]; omega) (by rw [sha_len]; have := HBL.out; omega) (by omega) (by rw [sha_len]; exact hcA) (by rw [HN2.out]; exact hcB)
  rw [sha_len, HN2.out] at hcat
  refine hcat.mono ?_
  rintro e w5 ⟨g, cap5, rfl, hsp, hB5⟩
  have hw5 : w.heap.size < w5.heap.size := by have := hB5.size; omega
  have hk5 : Below w.heap.size w w5 := hk4.trans (hB5.mono hk4.size)
  have hsum := sum_any w5 _ (sha s.data.toList ++ b) hsp.row (by rw [List.length_append, sha_len]; have := HBL.out; have := HN2.out; omega) (HT.out.below hk5 h0) (by have := hk5.size; omega)
  have hD5 := ((HD2.out.below (hB3.mono (Nat.le_refl _)) hw2).below hB4 (by omega)).below hB5 (by omega)
  have hcl2 := sha_len (sha s.data.toList ++ b)
  have ho2 := one_cells8 (sha (sha s.data.toList ++ b))
  rw [dv_eq] at hsum
  obtain ⟨cs2, hcs2⟩ : ∃ cs2, cells8 (sha (sha s.data.toList ++ b)) = cs2 := ⟨_, rfl⟩
  rw [← cells8_len, hcs2] at hcl2
  rw [hcs2] at ho2 hsum
  have HZ2 : Hid ((Tryd.prog.info? 26).map (·.size) = some cs2.length) := by show _ = _; rw [hcl2]; exact Tryd.info26
  have HO2 := Lib.hid ho2
  have HCL2 := Lib.hid hcl2
  have HCS2 := Lib.hid hcs2
  have HSUM := Lib.hid hsum
  have HK5 := Lib.hid hk5
  have HD5 := Lib.hid hD5
  clear hsum hcs2 ho2 hcl2 hk5 hD5 hsp hB5 hcat hby hcA hcB hk4 hk3 hB4 hW4 hA3 hB3 hz3
  go_wp2_with fail
  refine HSUM.out.mono ?_
  rintro e w6 ⟨rfl, hB6⟩
  have hk6 : Below w.heap.size w w6 := HK5.out.trans (hB6.mono HK5.out.size)
  have hD6 := HD5.out.below hB6 hw5
  have HK6 := Lib.hid hk6
  have HD6 := Lib.hid hD6
  clear hB6 hk6 hD6
  go_wp2_with (refine store_new rfl 26 _ _ (by rfl) w.heap.size w.heap.size cs2 _ (by rfl) (by rfl) HK6.out (Nat.le_refl _) HD6.out (by rw [HCL2.out]; rfl) HZ2.out HO2.out ?_; intro W7 hB7 hA7 hz7)
  refine bodyPost_ret (results_cell_mid rfl _ _ _ _ _ rfl hA7.at_ Tryd.underlying26 rfl HZ2.out) rfl ?_
  exact ⟨by rw [tagged, dv_eq, HCS2.out], hB7⟩
end Go.Proofs.YtnddejhbncgchaaDoor
