/- The examples that every law of stage 9 runs first. -/
import Derived.Test.YtilkhamlhbbmgaaDoorSme
namespace Go.Proofs.YtilkhamlhbbmgaaDoor
open Go.RowKit

theorem irow_made (W : World) (l : List Int) (n : Nat) (hn : n = l.length) (hl : n ≤ maxLen) : IRow (W.alloc (.cells (icells l).toArray 3)) (W.heap.size + 1) (.slice (some ⟨W.heap.size, 0, none⟩) n n) l := by
  subst hn
  refine ⟨_, _, rfl, Nat.le_refl _, hl, .inr ⟨W.heap.size, 0, rfl, by omega, fun j hj => ?_⟩⟩
  rw [Nat.zero_add, World.cell?_alloc_new]
  simp [icells, hj]
theorem srow_made (W : World) (l : List (List UInt8)) (n : Nat) (hn : n = l.length) (hl : n ≤ maxLen) : SRow (W.alloc (.cells (scells l).toArray 9)) (W.heap.size + 1) (.slice (some ⟨W.heap.size, 0, none⟩) n n) l := by
  subst hn
  refine ⟨_, _, rfl, Nat.le_refl _, hl, .inr ⟨W.heap.size, 0, rfl, by omega, fun j hj => ?_⟩⟩
  rw [Nat.zero_add, World.cell?_alloc_new]
  simp [scells, hj]
theorem below_alloc (W : World) (o : Obj) : Below W.heap.size W (W.alloc o) := (Below.refl _ W).alloc (Nat.le_refl _) o
theorem IRow.here {w : World} {B : Nat} {v : Value} {l : List Int} (h : IRow w B v l) (hb : B = w.heap.size) : IRow w w.heap.size v l := by rw [← hb]; exact h
set_option maxRecDepth 100000 in
set_option maxHeartbeats 16000000 in
theorem sane_any (w : World) (hT : UTab w) : Calls Tryd.prog 16 #[] w fun e w' => e = .returned (.bool true) ∧ Below w.heap.size w w' := by
  have HJ1 := Lib.hid (fun (W : World) => (show Calls Tryd.prog 19 #[.slice (some ⟨W.heap.size, 0, none⟩) 5 5] (W.alloc (.cells #[.int .i64 233, .int .i64 120, .int .i64 1488, .int .i64 8364, .int .i64 128512] 3)) (fun e w' => e = .returned (.tuple #[.string ⟨#[195, 169, 120, 215, 144, 226, 130, 172, 240, 159, 152, 128]⟩, .int .i64 0]) ∧ Below W.heap.size W w') by
    have h := join_any (W.alloc (.cells #[.int .i64 233, .int .i64 120, .int .i64 1488, .int .i64 8364, .int .i64 128512] 3)) (.slice (some ⟨W.heap.size, 0, none⟩) 5 5) [233, 120, 1488, 8364, 128512] ((irow_made W [233, 120, 1488, 8364, 128512] 5 rfl (by unfold maxLen; omega)).here (by simp)) (by decide)
    rw [show jnE [233, 120, 1488, 8364, 128512] = 0 by decide +kernel, show jnS [233, 120, 1488, 8364, 128512] = [195, 169, 120, 215, 144, 226, 130, 172, 240, 159, 152, 128] by decide +kernel] at h
    exact h.mono fun e w' ⟨he, hb⟩ => ⟨he, (below_alloc W _).trans (hb.mono (below_alloc W _).size)⟩))
  have HR2 := Lib.hid (fun (W : World) (hW : Below w.heap.size w W) => (show Calls Tryd.prog 17 #[.string ⟨#[195, 169, 120, 215, 144, 226, 130, 172, 240, 159, 152, 128]⟩] W (RunesPost W 0 [233, 120, 1488, 8364, 128512]) by have h := runes_any W [195, 169, 120, 215, 144, 226, 130, 172, 240, 159, 152, 128] (hT.below hW); rw [show rnsE [195, 169, 120, 215, 144, 226, 130, 172, 240, 159, 152, 128] = 0 by decide +kernel, show rnsV [195, 169, 120, 215, 144, 226, 130, 172, 240, 159, 152, 128] = [233, 120, 1488, 8364, 128512] by decide +kernel] at h; exact h))
  have HR3 := Lib.hid (fun (W : World) (hW : Below w.heap.size w W) => (show Calls Tryd.prog 17 #[.string ⟨#[]⟩] W (RunesPost W 0 []) by have h := runes_any W [] (hT.below hW); rw [show rnsE [] = 0 by decide +kernel, show rnsV [] = [] by decide +kernel] at h; exact h))
  have HR4 := Lib.hid (fun (W : World) (hW : Below w.heap.size w W) => (show Calls Tryd.prog 17 #[.string ⟨#[255]⟩] W (RunesPost W 90 []) by have h := runes_any W [255] (hT.below hW); rw [show rnsE [255] = 90 by decide +kernel, show rnsV [255] = [] by decide +kernel] at h; exact h))
  have HR5 := Lib.hid (fun (W : World) (hW : Below w.heap.size w W) => (show Calls Tryd.prog 17 #[.string ⟨#[192, 128]⟩] W (RunesPost W 90 []) by have h := runes_any W [192, 128] (hT.below hW); rw [show rnsE [192, 128] = 90 by decide +kernel, show rnsV [192, 128] = [] by decide +kernel] at h; exact h))
  have HR6 := Lib.hid (fun (W : World) (hW : Below w.heap.size w W) => (show Calls Tryd.prog 17 #[.string ⟨#[97, 237, 160, 128]⟩] W (RunesPost W 90 []) by have h := runes_any W [97, 237, 160, 128] (hT.below hW); rw [show rnsE [97, 237, 160, 128] = 90 by decide +kernel, show rnsV [97, 237, 160, 128] = [] by decide +kernel] at h; exact h))
  have HJ7 := Lib.hid (fun (W : World) => (show Calls Tryd.prog 19 #[.slice (some ⟨W.heap.size, 0, none⟩) 1 1] (W.alloc (.cells #[.int .i64 55296] 3)) (fun e w' => e = .returned (.tuple #[.string ⟨#[]⟩, .int .i64 90]) ∧ Below W.heap.size W w') by
    have h := join_any (W.alloc (.cells #[.int .i64 55296] 3)) (.slice (some ⟨W.heap.size, 0, none⟩) 1 1) [55296] ((irow_made W [55296] 1 rfl (by unfold maxLen; omega)).here (by simp)) (by decide)
    rw [show jnE [55296] = 90 by decide +kernel, show jnS [55296] = [] by decide +kernel] at h
    exact h.mono fun e w' ⟨he, hb⟩ => ⟨he, (below_alloc W _).trans (hb.mono (below_alloc W _).size)⟩))
  have HK8 := Lib.hid (fun (W : World) => (show Calls Tryd.prog 22 #[.int .i64 1488] W (fun e w' => e = .returned (.tuple #[.int .i64 4, .int .i64 0]) ∧ Below W.heap.size W w') by have h := kind_any W 1488; rw [show kindE 1488 = 0 by decide +kernel, show kindV 1488 = 4 by decide +kernel] at h; exact h))
  have HK9 := Lib.hid (fun (W : World) => (show Calls Tryd.prog 22 #[.int .i64 215] W (fun e w' => e = .returned (.tuple #[.int .i64 0, .int .i64 0]) ∧ Below W.heap.size W w') by have h := kind_any W 215; rw [show kindE 215 = 0 by decide +kernel, show kindV 215 = 0 by decide +kernel] at h; exact h))
  have HK10 := Lib.hid (fun (W : World) => (show Calls Tryd.prog 22 #[.int .i64 (-1)] W (fun e w' => e = .returned (.tuple #[.int .i64 0, .int .i64 90]) ∧ Below W.heap.size W w') by have h := kind_any W (-1); rw [show kindE (-1) = 90 by decide +kernel, show kindV (-1) = 0 by decide +kernel] at h; exact h))
  have HS11 := Lib.hid (fun (W : World) (hW : Below w.heap.size w W) => (show Calls Tryd.prog 24 #[.string ⟨#[97, 32, 32, 98]⟩] W (SplitPost W 0 [[97], [98]]) by have h := split_any W [97, 32, 32, 98] (hT.below hW); rw [show rnsE [97, 32, 32, 98] = 0 by decide +kernel, show spV [97, 32, 32, 98] = [[97], [98]] by decide +kernel] at h; exact h))
  have HS12 := Lib.hid (fun (W : World) (hW : Below w.heap.size w W) => (show Calls Tryd.prog 24 #[.string ⟨#[32]⟩] W (SplitPost W 0 []) by have h := split_any W [32] (hT.below hW); rw [show rnsE [32] = 0 by decide +kernel, show spV [32] = [] by decide +kernel] at h; exact h))
  have HW1 := Lib.hid (fun (W : World) (hW : Below w.heap.size w W) => (show Calls Tryd.prog 27 #[.string ⟨#[97, 45, 98]⟩] W (fun e w' => e = .returned (.bool true) ∧ Below W.heap.size W w') by have h := word_any W [97, 45, 98] (hT.below hW); rw [show wordB [97, 45, 98] = true by decide +kernel] at h; exact h))
  have HW2 := Lib.hid (fun (W : World) (hW : Below w.heap.size w W) => (show Calls Tryd.prog 27 #[.string ⟨#[97, 32, 98]⟩] W (fun e w' => e = .returned (.bool false) ∧ Below W.heap.size W w') by have h := word_any W [97, 32, 98] (hT.below hW); rw [show wordB [97, 32, 98] = false by decide +kernel] at h; exact h))
  have HW3 := Lib.hid (fun (W : World) (hW : Below w.heap.size w W) => (show Calls Tryd.prog 27 #[.string ⟨#[]⟩] W (fun e w' => e = .returned (.bool false) ∧ Below W.heap.size W w') by have h := word_any W [] (hT.below hW); rw [show wordB [] = false by decide +kernel] at h; exact h))
  have HW4 := Lib.hid (fun (W : World) (hW : Below w.heap.size w W) => (show Calls Tryd.prog 27 #[.string ⟨#[255]⟩] W (fun e w' => e = .returned (.bool false) ∧ Below W.heap.size W w') by have h := word_any W [255] (hT.below hW); rw [show wordB [255] = false by decide +kernel] at h; exact h))
  have HSI := Lib.hid (fun (W : World) (v : Value) (hv : IRow W W.heap.size v [233, 120, 1488, 8364, 128512]) => (show Calls Tryd.prog 21 #[v, .slice (some ⟨W.heap.size, 0, none⟩) 5 5] (W.alloc (.cells #[.int .i64 233, .int .i64 120, .int .i64 1488, .int .i64 8364, .int .i64 128512] 3)) (fun e w' => e = .returned (.bool true) ∧ Below W.heap.size W w') by
    have h := same_21 (W.alloc (.cells #[.int .i64 233, .int .i64 120, .int .i64 1488, .int .i64 8364, .int .i64 128512] 3)) v (.slice (some ⟨W.heap.size, 0, none⟩) 5 5) [233, 120, 1488, 8364, 128512] [233, 120, 1488, 8364, 128512] (hv.next (below_alloc W _)) ((irow_made W [233, 120, 1488, 8364, 128512] 5 rfl (by unfold maxLen; omega)).here (by simp))
    rw [decide_eq_true rfl] at h
    exact h.mono fun e w' ⟨he, hb⟩ => ⟨he, (below_alloc W _).trans (hb.mono (below_alloc W _).size)⟩))
  have HSS := Lib.hid (fun (W : World) (v : Value) (hv : SRow W W.heap.size v [[97], [98]]) => (show Calls Tryd.prog 26 #[v, .slice (some ⟨W.heap.size, 0, none⟩) 2 2] (W.alloc (.cells #[.string ⟨#[97]⟩, .string ⟨#[98]⟩] 9)) (fun e w' => e = .returned (.bool true) ∧ Below W.heap.size W w') by
    have h := same_26 (W.alloc (.cells #[.string ⟨#[97]⟩, .string ⟨#[98]⟩] 9)) v (.slice (some ⟨W.heap.size, 0, none⟩) 2 2) [[97], [98]] [[97], [98]] (hv.next (below_alloc W _)) (by have := srow_made W [[97], [98]] 2 rfl (by unfold maxLen; omega); rw [show W.heap.size + 1 = (W.alloc (.cells (scells [[97], [98]]).toArray 9)).heap.size by simp] at this; exact this)
    rw [decide_eq_true rfl] at h
    exact h.mono fun e w' ⟨he, hb⟩ => ⟨he, (below_alloc W _).trans (hb.mono (below_alloc W _).size)⟩))
  clear hT
  go_enter Tryd.func16, Tryd.ntmps16
  go_wp2_with fail
  ((with_reducible refine (HJ1.out w).mono ?_); rintro e w1 ⟨rfl, hb⟩)
  have HB1 := Lib.hid (hb)
  clear hb
  go_wp2_with fail
  ((with_reducible refine (HR2.out w1 HB1.out).mono ?_); rintro e w2 ⟨v2, rfl, ho2, hb⟩)
  have HI2 := Lib.hid (IRow.of_own ho2)
  clear ho2
  have HB2 := Lib.hid (HB1.out.trans (hb.mono HB1.out.size))
  clear hb
  go_wp2_with fail
  ((with_reducible refine (HR3.out w2 HB2.out).mono ?_); rintro e w3 ⟨v3, rfl, ho, hb⟩)
  obtain ⟨a3, c3, rfl⟩ := own_slice ho
  clear ho
  have HC3 := Lib.hid hb
  have HB3 := Lib.hid (HB2.out.trans (hb.mono HB2.out.size))
  clear hb
  go_wp2_with fail
  ((with_reducible refine (HR4.out w3 HB3.out).mono ?_); rintro e w4 ⟨v4, rfl, ho, hb⟩)
  obtain ⟨a4, c4, rfl⟩ := own_slice ho
  clear ho
  have HC4 := Lib.hid (HC3.out.trans (hb.mono HC3.out.size))
  have HB4 := Lib.hid (HB3.out.trans (hb.mono HB3.out.size))
  clear hb
  go_wp2_with fail
  ((with_reducible refine (HR5.out w4 HB4.out).mono ?_); rintro e w5 ⟨v5, rfl, ho, hb⟩)
  obtain ⟨a5, c5, rfl⟩ := own_slice ho
  clear ho
  have HC5 := Lib.hid (HC4.out.trans (hb.mono HC4.out.size))
  have HB5 := Lib.hid (HB4.out.trans (hb.mono HB4.out.size))
  clear hb
  go_wp2_with fail
  ((with_reducible refine (HR6.out w5 HB5.out).mono ?_); rintro e w6 ⟨v6, rfl, ho, hb⟩)
  obtain ⟨a6, c6, rfl⟩ := own_slice ho
  clear ho
  have HC6 := Lib.hid (HC5.out.trans (hb.mono HC5.out.size))
  have HB6 := Lib.hid (HB5.out.trans (hb.mono HB5.out.size))
  clear hb
  go_wp2_with fail
  ((with_reducible refine (HJ7.out w6).mono ?_); rintro e w7 ⟨rfl, hb⟩)
  have HC7 := Lib.hid (HC6.out.trans (hb.mono HC6.out.size))
  have HB7 := Lib.hid (HB6.out.trans (hb.mono HB6.out.size))
  clear hb
  go_wp2_with fail
  ((with_reducible refine (HK8.out w7).mono ?_); rintro e w8 ⟨rfl, hb⟩)
  have HC8 := Lib.hid (HC7.out.trans (hb.mono HC7.out.size))
  have HB8 := Lib.hid (HB7.out.trans (hb.mono HB7.out.size))
  clear hb
  go_wp2_with fail
  ((with_reducible refine (HK9.out w8).mono ?_); rintro e w9 ⟨rfl, hb⟩)
  have HC9 := Lib.hid (HC8.out.trans (hb.mono HC8.out.size))
  have HB9 := Lib.hid (HB8.out.trans (hb.mono HB8.out.size))
  clear hb
  go_wp2_with fail
  ((with_reducible refine (HK10.out w9).mono ?_); rintro e w10 ⟨rfl, hb⟩)
  have HC10 := Lib.hid (HC9.out.trans (hb.mono HC9.out.size))
  have HB10 := Lib.hid (HB9.out.trans (hb.mono HB9.out.size))
  clear hb
  go_wp2_with fail
  ((with_reducible refine (HS11.out w10 HB10.out).mono ?_); rintro e w11 ⟨v11, rfl, ho, hb⟩)
  have HI11 := Lib.hid (SRow.of_own ho)
  clear ho
  have HC11 := Lib.hid (HC10.out.trans (hb.mono HC10.out.size))
  have HB11 := Lib.hid (HB10.out.trans (hb.mono HB10.out.size))
  clear hb
  go_wp2_with fail
  ((with_reducible refine (HS12.out w11 HB11.out).mono ?_); rintro e w12 ⟨v12, rfl, ho, hb⟩)
  obtain ⟨a12, c12, rfl⟩ := own_slice ho
  clear ho
  have HS12b : Hid (Below w11.heap.size w11 w12) := Lib.hid hb
  have HC12 := Lib.hid (HC11.out.trans (hb.mono HC11.out.size))
  have HB12 := Lib.hid (HB11.out.trans (hb.mono HB11.out.size))
  clear hb
  have HI12 : Hid (IRow w12 w12.heap.size v2 [233, 120, 1488, 8364, 128512]) := Lib.hid (HI2.out.next HC12.out)
  go_wp2_with fail
  ((with_reducible refine (HSI.out w12 v2 HI12.out).mono ?_); rintro e w13 ⟨rfl, hb⟩)
  have HS13b : Hid (Below w12.heap.size w12 w13) := Lib.hid hb
  have HB13 := Lib.hid (HB12.out.trans (hb.mono HB12.out.size))
  clear hb
  have HI13 : Hid (SRow w13 w13.heap.size v11 [[97], [98]]) := Lib.hid ((HI11.out.next HS12b.out).next HS13b.out)
  go_wp2_with fail
  ((with_reducible refine (HSS.out w13 v11 HI13.out).mono ?_); rintro e w14 ⟨rfl, hb⟩)
  have HB14 := Lib.hid (HB13.out.trans (hb.mono HB13.out.size))
  clear hb
  go_wp2_with fail
  ((with_reducible refine (HW1.out w14 HB14.out).mono ?_); rintro e w15 ⟨rfl, hb⟩)
  have HB15 := Lib.hid (HB14.out.trans (hb.mono HB14.out.size))
  clear hb
  go_wp2_with fail
  ((with_reducible refine (HW2.out w15 HB15.out).mono ?_); rintro e w16 ⟨rfl, hb⟩)
  have HB16 := Lib.hid (HB15.out.trans (hb.mono HB15.out.size))
  clear hb
  go_wp2_with fail
  ((with_reducible refine (HW3.out w16 HB16.out).mono ?_); rintro e w17 ⟨rfl, hb⟩)
  have HB17 := Lib.hid (HB16.out.trans (hb.mono HB16.out.size))
  clear hb
  go_wp2_with fail
  ((with_reducible refine (HW4.out w17 HB17.out).mono ?_); rintro e w18 ⟨rfl, hb⟩)
  have HB18 := Lib.hid (HB17.out.trans (hb.mono HB17.out.size))
  clear hb
  go_wp2
  go_ret
  exact ⟨rfl, HB18.out⟩
end Go.Proofs.YtilkhamlhbbmgaaDoor
