/- Pairs under a tag. -/
import Derived.Test.YtnddejhbncgchaaDoorLeaf
namespace Go.Proofs.YtnddejhbncgchaaDoor
open Go.RowKit

theorem code_world {P : Program} {c : Code} {Q : Exit → Act → World → Prop} {a : Act} {w : World} (X : World → Prop) (hX : X w) (h : ∀ W, X W → c.wp P Q a W) : c.wp P Q a w := h w hX

set_option maxRecDepth 100000 in
set_option maxHeartbeats 2000000 in
theorem pair_any (w : World) (s : ByteArray) (x y : List UInt8) (hx : x.length = 32) (hy : y.length = 32) (hs : s.size ≤ 1000) (hT : Tab w) (h0 : 0 < w.heap.size) :
    Calls Tryd.prog 46 #[.string s, dv x, dv y] w fun e w' => e = .returned (dv (tagged s.data.toList (x ++ y))) ∧ Below w.heap.size w w' := by
  rw [dv_eq x, dv_eq y]
  have HT := Lib.hid hT
  obtain ⟨cx, hcx⟩ : ∃ cx, cells8 x = cx := ⟨_, rfl⟩
  obtain ⟨cy, hcy⟩ : ∃ cy, cells8 y = cy := ⟨_, rfl⟩
  have hlx : cx.length = 32 := by rw [← hcx, cells8_len, hx]
  have hly : cy.length = 32 := by rw [← hcy, cells8_len, hy]
  rw [hcx, hcy]
  have HCX := Lib.hid hcx
  have HCY := Lib.hid hcy
  have HX := Lib.hid hx
  have HY := Lib.hid hy
  have HLX := Lib.hid hlx
  have HLY := Lib.hid hly
  clear hcx hcy hT hx hy hlx hly
  go_enter Tryd.func46, Tryd.ntmps46
  go_wp2
  refine code_world (fun W => Below w.heap.size w W ∧ Arr W w.heap.size cx ∧ Arr W (w.heap.size + 1) cy ∧ Arr W (w.heap.size + 2) (cells8 (List.replicate 32 0)) ∧ w.heap.size + 2 < W.heap.size) ⟨by go_grown, ?_, ?_, ?_, by simp⟩ ?_
  · have h := ((Arr.new w cx.toArray 26).alloc (by simp) (.cells cy.toArray 26)).alloc (by simp; omega) (.cells (cells8 (List.replicate 32 0)).toArray 26)
    rw [List.toList_toArray] at h; exact h
  · have h := (Arr.new (w.alloc (.cells cx.toArray 26)) cy.toArray 26).alloc (by simp) (.cells (cells8 (List.replicate 32 0)).toArray 26)
    rw [World.size_alloc, List.toList_toArray] at h; exact h
  · have h := Arr.new ((w.alloc (.cells cx.toArray 26)).alloc (.cells cy.toArray 26)) (cells8 (List.replicate 32 0)).toArray 26
    rw [World.size_alloc, World.size_alloc, List.toList_toArray] at h; exact h
  rintro W0 ⟨hB0, hX0, hY0, hD0, hz0⟩
  have HB0 := Lib.hid hB0
  have HX0 := Lib.hid hX0
  have HY0 := Lib.hid hY0
  have HD0 := Lib.hid hD0
  clear hB0 hX0 hY0 hD0
  obtain ⟨cs2, hcs2⟩ : ∃ cs2, cells8 (tagged s.data.toList (x ++ y)) = cs2 := ⟨_, rfl⟩
  have hcl2 : cs2.length = 32 := by rw [← hcs2, cells8_len, tagged_len]
  have ho2 : ∀ v ∈ cs2, v.oneCell' = true := by rw [← hcs2]; exact one_cells8 _
  have hz2 : (Tryd.prog.info? 26).map (·.size) = some cs2.length := by rw [hcl2]; exact Tryd.info26
  have HO2 := Lib.hid ho2
  have HCL2 := Lib.hid hcl2
  have HZ2 := Lib.hid hz2
  have HCS2 := Lib.hid hcs2
  clear ho2 hcl2 hz2 hcs2
  have hS0 : Below w.heap.size w W0.drew := HB0.out.drew
  go_region_held3 (fun W => Below w.heap.size w W) (first | assumption | exact Below.drew (Below.alloc HB0.out (by omega) _) | exact Below.alloc (by assumption) (by simp; omega) _ | exact below_setCells (by omega) _ _ _ (by assumption))
    (first
      | (go_at_call 34
         refine calls_world (fun W => Below W0.heap.size W0 W ∧ W.cell? ⟨W0.heap.size, 0, none⟩ = some (.slice (some ⟨w.heap.size, 0, none⟩) 32 32) ∧ W.cell? ⟨W0.heap.size, 1, none⟩ = some (.slice (some ⟨w.heap.size + 1, 0, none⟩) 32 32) ∧ W.heap.size = W0.heap.size + 1)
           ⟨((Below.refl _ W0).alloc (Nat.le_refl _) _).drew, (show (W0.alloc (.cells #[.slice (some ⟨w.heap.size, 0, none⟩) 32 32, .slice (some ⟨w.heap.size + 1, 0, none⟩) 32 32] 22)).cell? ⟨W0.heap.size, 0, none⟩ = some (.slice (some ⟨w.heap.size, 0, none⟩) 32 32) by rw [World.cell?_alloc_new]; rfl), (show (W0.alloc (.cells #[.slice (some ⟨w.heap.size, 0, none⟩) 32 32, .slice (some ⟨w.heap.size + 1, 0, none⟩) 32 32] 22)).cell? ⟨W0.heap.size, 1, none⟩ = some (.slice (some ⟨w.heap.size + 1, 0, none⟩) 32 32) by rw [World.cell?_alloc_new]; rfl), by simp⟩ ?_
         rintro W4 ⟨hB4, hcA, hcB, hz4⟩
         have hk4 : Below w.heap.size w W4 := HB0.out.trans (hB4.mono HB0.out.size)
         have hbx : BytesIn W4 w.heap.size 0 x := arr_bytes (by rw [HCX.out]; exact HX0.out.below hB4 (by omega))
         have hby : BytesIn W4 (w.heap.size + 1) 0 y := arr_bytes (by rw [HCY.out]; exact HY0.out.below hB4 (by omega))
         have hcat := concat_any W4 W0.heap.size w.heap.size 0 32 32 (some ⟨w.heap.size + 1, 0, none⟩) x y hbx (by omega) (.inr ⟨w.heap.size + 1, 0, rfl, by omega, hby⟩)
           (by rw [HX.out]; omega) (by rw [HX.out, HY.out]; omega) (by omega) (by rw [HX.out]; exact hcA) (by rw [HY.out]; exact hcB)
         rw [HX.out, HY.out] at hcat
         refine hcat.mono ?_
         rintro e w5 ⟨g, cap5, rfl, hsp, hB5⟩
         have hw5 : w.heap.size + 2 < w5.heap.size := by have := hB5.size; omega
         have hk5 : Below w.heap.size w w5 := hk4.trans (hB5.mono hk4.size)
         have hD5 := (HD0.out.below hB4 hz0).below hB5 (by omega)
         have HSP := Lib.hid hsp
         have HD5 := Lib.hid hD5
         clear hB4 hcA hcB hz4 hk4 hbx hby hcat hsp hB5 hD5 hS0)
      | (go_at_call 14
         have hlxy : (x ++ y).length = 64 := by rw [List.length_append, HX.out, HY.out]
         obtain ⟨_, hs1, hs2, hs3, _, hs5⟩ := HSP.out.bytes
         have htg := tagged_any w5 s (.slice (some ⟨g, 0, none⟩) 64 cap5) (x ++ y) ⟨some ⟨g, 0, none⟩, cap5, by rw [hlxy], by rw [hlxy]; exact hs2, hs3, .inr ⟨g, 0, rfl, hs1, hs5⟩⟩ (by omega) (by rw [hlxy]; omega) (HT.out.below hk5 h0) (by omega)
         rw [dv_eq, HCS2.out] at htg
         refine htg.mono ?_
         rintro e w6 ⟨rfl, hB6⟩
         have hk6 : Below w.heap.size w w6 := hk5.trans (hB6.mono hk5.size)
         have hD6 := HD5.out.below hB6 hw5
         have ht6 : w6.there (w.heap.size + 2) 0 cs2.length := by rw [HCL2.out]; exact hD6.there
         have hz6 := HZ2.out
         have ho6 := HO2.out
         have HD6 := Lib.hid hD6
         clear hlxy hs1 hs2 hs3 hs5 htg hB6 hD6))
  have hst := HD6.out.stored (cs' := cs2) (by rw [HCL2.out]; rfl)
  have hBf := below_setCells (B := w.heap.size) (b := w.heap.size + 2) (by omega) cs2 0 w6 hk6
  have HST := Lib.hid hst
  have HBF := Lib.hid hBf
  clear hst hBf ht6 hk6
  go_wp2
  refine bodyPost_ret (results_cell_mid rfl _ _ _ _ _ rfl HST.out.at_ Tryd.underlying26 rfl HZ2.out) rfl ?_
  exact ⟨by rw [dv_eq, HCS2.out], HBF.out⟩
end Go.Proofs.YtnddejhbncgchaaDoor
