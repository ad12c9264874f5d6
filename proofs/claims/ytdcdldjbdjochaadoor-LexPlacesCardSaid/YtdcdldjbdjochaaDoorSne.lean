/- sane is true. -/
import Derived.Test.YtdcdldjbdjochaaDoorTxt
namespace Go.Proofs.YtdcdldjbdjochaaDoor
open Go.RowKit

theorem TRow.next {w w' : World} {v : Value} {l : List Tok} (h : TRow w w.heap.size v l) (hb : Below w.heap.size w w') : TRow w' w'.heap.size v l := (h.below hb).mono hb.size
theorem TRow.made (w : World) (L : List Tok) (n : Nat) (hn : L.length = n) (hm : n ≤ maxLen) : TRow (w.alloc (Obj.cells (tcells L).toArray 35)) (w.heap.size + 1) (.slice (some ⟨w.heap.size, 0, none⟩) n n) L := by
  subst hn
  refine ⟨_, L.length, rfl, Nat.le_refl _, hm, .inr ⟨w.heap.size, 0, rfl, by omega, fun i u hu => ?_⟩⟩
  rw [Nat.zero_add, World.cell?_alloc_new]
  simpa using hu
theorem lex_good (w : World) (bs : List UInt8) (L : List Tok) (n : Nat) (hT : Tab w) (hlen : bs.length ≤ 65536) (h : lexAll bs = .ok L) (hn : L.length = n) :
    Calls Tryd.prog 11 #[.string (str bs)] w fun e w' => Below w.heap.size w w' ∧ ∃ a cap, e = .returned (.tuple #[.slice a n cap, .int .i64 0, .int .i64 0]) ∧ TRow w' w'.heap.size (.slice a n cap) L := by
  have := lex_any w bs hT hlen
  rw [h] at this
  refine this.mono fun e w' hp => ?_
  obtain ⟨hb, v, B, he, hB, hown⟩ := hp
  obtain ⟨a, cap, rfl⟩ := own_slice hown
  subst hn
  exact ⟨hb, a, cap, he, TRow.of_own hown⟩
theorem lex_wrong (w : World) (bs : List UInt8) (p : Nat) (hT : Tab w) (hlen : bs.length ≤ 65536) (h : lexAll bs = .bad p) :
    Calls Tryd.prog 11 #[.string (str bs)] w fun e w' => Below w.heap.size w w' ∧ e = .returned (.tuple #[.slice none 0 0, .int .i64 p, .int .i64 30]) := by
  have := lex_any w bs hT hlen
  rw [h] at this
  exact this.mono fun e w' hp => hp

def sL1 : List Tok := [⟨1, [115, 117, 109], 0, 0⟩, ⟨2, [], 30, 4⟩, ⟨3, [59], 0, 6⟩]
def sL4 : List Tok := [⟨2, [], 1099511627776, 0⟩]
def sL5 : List Tok := [⟨1, [97], 0, 0⟩]
def sL7 : List Tok := [⟨1, [97], 0, 0⟩, ⟨3, [61], 0, 1⟩, ⟨2, [], 1, 2⟩]
def sLz : List Tok := [⟨0, [], 0, 0⟩]
def sLn : List Tok := [⟨1, [97], 0, 9⟩]
theorem lx1 : lexAll [115, 117, 109, 32, 51, 48, 59] = .ok sL1 := by kernel_rfl
theorem lx3 : lexAll [48, 48, 55] = .bad 0 := by kernel_rfl
theorem lx4 : lexAll [49, 48, 57, 57, 53, 49, 49, 54, 50, 55, 55, 55, 54] = .ok sL4 := by kernel_rfl
theorem lx5 : lexAll [97, 32, 47, 47, 32, 98] = .ok sL5 := by kernel_rfl
theorem lx6 : lexAll [97, 32, 36] = .bad 2 := by kernel_rfl
theorem lx7 : lexAll [97, 61, 49] = .ok sL7 := by kernel_rfl
theorem lx9 : lexAll [] = .ok [] := by kernel_rfl
theorem tx8 : textAll sL7 = some [97, 32, 61, 32, 49] := by kernel_rfl
theorem txz : textAll sLz = none := by kernel_rfl
theorem eq1 : tequal sL1 sL1 = true := by decide +kernel
theorem sm1 : tsames sL5 sL7 = false := by decide +kernel
theorem sm2 : tsames sL5 sLn = true := by decide +kernel
theorem nm1 : nameOk [66, 95, 49, 50] = true := by decide +kernel
theorem nm2 : nameOk [95, 49, 50] = false := by decide +kernel
theorem jl7 : (Lib.join (sL7.map textT) [32]).length ≤ 140737488355328 := by decide +kernel
theorem jlz : (Lib.join (sLz.map textT) [32]).length ≤ 140737488355328 := by decide +kernel
set_option maxRecDepth 100000 in
set_option maxHeartbeats 8000000 in
theorem sane_any (w : World) (hT : Tab w) : Calls Tryd.prog 10 #[] w fun e w' => e = .returned (.bool true) ∧ Below w.heap.size w w' := by
  have HT := Lib.hid hT
  have HC1 := Lib.hid (lex_good w _ sL1 3 hT (by decide) lx1 rfl)
  clear hT
  go_enter Tryd.func10, Tryd.ntmps10
  go_wp2_with fail
  refine HC1.out.mono ?_
  rintro e w1 ⟨hb1, a1, c1, rfl, t1⟩
  have hmw : TRow (w1.alloc (Obj.cells (tcells sL1).toArray 35)) (w1.heap.size + 1) (.slice (some ⟨w1.heap.size, 0, none⟩) 3 3) sL1 := TRow.made w1 sL1 3 rfl (by unfold maxLen; omega)
  obtain ⟨w2, hw2⟩ : ∃ w2, w2 = w1.alloc (Obj.cells (tcells sL1).toArray 35) := ⟨_, rfl⟩
  have hz2 : w2.heap.size = w1.heap.size + 1 := by rw [hw2, World.size_alloc]
  have hb12 : Below w1.heap.size w1 w2 := by rw [hw2]; go_grown
  rw [← hw2, ← hz2] at hmw
  have hb2 : Below w.heap.size w w2 := hb1.trans (hb12.mono hb1.size)
  have W2 : Hid (w2 = w1.alloc (Obj.cells #[.int .i64 1, .string { data := #[115, 117, 109] }, .int .i64 0, .int .i64 0, .int .i64 2, .string { data := #[] }, .int .i64 30, .int .i64 4, .int .i64 3, .string { data := #[59] }, .int .i64 0, .int .i64 6] 35)) := Lib.hid hw2
  have T1 := Lib.hid (t1.next hb12)
  have TW := Lib.hid hmw
  have B2 := Lib.hid hb2
  have HC3 := Lib.hid (lex_wrong w2 _ 0 (HT.out.below hb2) (by decide) lx3)
  clear hb1 t1 hmw hw2 hb12 hb2 hz2 HC1
  go_wp2_with fail
  rw [← W2.out]
  refine HC3.out.mono ?_
  rintro e w3 ⟨hb3, rfl⟩
  have T1' := Lib.hid (T1.out.next hb3)
  have TW' := Lib.hid (TW.out.next hb3)
  have B3 := Lib.hid (B2.out.trans (hb3.mono B2.out.size))
  have HC4 := Lib.hid (lex_good w3 _ sL4 1 (HT.out.below B3.out) (by decide) lx4 rfl)
  clear hb3 T1 TW B2 HC3
  go_wp2_with fail
  refine HC4.out.mono ?_
  rintro e w4 ⟨hb4, a4, c4, rfl, t4⟩
  have T1 := Lib.hid (T1'.out.next hb4)
  have TW := Lib.hid (TW'.out.next hb4)
  have T4 := Lib.hid t4
  have B4 := Lib.hid (B3.out.trans (hb4.mono B3.out.size))
  have HC5 := Lib.hid (lex_good w4 _ sL5 1 (HT.out.below B4.out) (by decide) lx5 rfl)
  clear hb4 t4 T1' TW' B3 HC4
  go_wp2_with fail
  refine HC5.out.mono ?_
  rintro e w5 ⟨hb5, a5, c5, rfl, t5⟩
  have T1' := Lib.hid (T1.out.next hb5)
  have TW' := Lib.hid (TW.out.next hb5)
  have T4' := Lib.hid (T4.out.next hb5)
  have T5 := Lib.hid t5
  have B5 := Lib.hid (B4.out.trans (hb5.mono B4.out.size))
  have HC6 := Lib.hid (lex_wrong w5 _ 2 (HT.out.below B5.out) (by decide) lx6)
  clear hb5 t5 T1 TW T4 B4 HC5
  go_wp2_with fail
  refine HC6.out.mono ?_
  rintro e w6 ⟨hb6, rfl⟩
  have T1 := Lib.hid (T1'.out.next hb6)
  have TW := Lib.hid (TW'.out.next hb6)
  have T4 := Lib.hid (T4'.out.next hb6)
  have T5' := Lib.hid (T5.out.next hb6)
  have B6 := Lib.hid (B5.out.trans (hb6.mono B5.out.size))
  have HC7 := Lib.hid (lex_good w6 _ sL7 3 (HT.out.below B6.out) (by decide) lx7 rfl)
  clear hb6 T1' TW' T4' T5 B5 HC6
  go_wp2_with fail
  refine HC7.out.mono ?_
  rintro e w7 ⟨hb7, a7, c7, rfl, t7⟩
  have T1' := Lib.hid (T1.out.next hb7)
  have TW' := Lib.hid (TW.out.next hb7)
  have T4' := Lib.hid (T4.out.next hb7)
  have T5 := Lib.hid (T5'.out.next hb7)
  have T7 := Lib.hid t7
  have B7 := Lib.hid (B6.out.trans (hb7.mono B6.out.size))
  have hx8 := text_any w7 _ sL7 t7 (HT.out.below B7.out) (by decide) (by decide) (by decide) jl7
  rw [tx8] at hx8
  have HC8 := Lib.hid hx8
  clear hb7 t7 T1 TW T4 T5' B6 HC7 hx8
  go_wp2_with fail
  refine HC8.out.mono ?_
  rintro e w8 ⟨hb8, he⟩
  have he : e = .returned (.tuple #[.string { data := #[97, 32, 61, 32, 49] }, .int .i64 0]) := he
  subst he
  have T1 := Lib.hid (T1'.out.next hb8)
  have TW := Lib.hid (TW'.out.next hb8)
  have T4 := Lib.hid (T4'.out.next hb8)
  have T5' := Lib.hid (T5.out.next hb8)
  have T7' := Lib.hid (T7.out.next hb8)
  have B8 := Lib.hid (B7.out.trans (hb8.mono B7.out.size))
  have HC9 := Lib.hid (lex_good w8 _ [] 0 (HT.out.below B8.out) (by decide) lx9 rfl)
  clear hb8 T1' TW' T4' T5 T7 B7 HC8
  go_wp2_with fail
  refine HC9.out.mono ?_
  rintro e w9 ⟨hb9, a9, c9, rfl, _⟩
  have hmz : TRow (w9.alloc (Obj.cells (tcells sLz).toArray 35)) (w9.heap.size + 1) (.slice (some ⟨w9.heap.size, 0, none⟩) 1 1) sLz := TRow.made w9 sLz 1 rfl (by unfold maxLen; omega)
  obtain ⟨wz, hwz⟩ : ∃ wz, wz = w9.alloc (Obj.cells (tcells sLz).toArray 35) := ⟨_, rfl⟩
  have hzz : wz.heap.size = w9.heap.size + 1 := by rw [hwz, World.size_alloc]
  have hb9z : Below w9.heap.size w9 wz := by rw [hwz]; go_grown
  rw [← hwz, ← hzz] at hmz
  have hb8z := hb9.trans (hb9z.mono hb9.size)
  have WZ : Hid (wz = w9.alloc (Obj.cells #[.int .i64 0, .string { data := #[] }, .int .i64 0, .int .i64 0] 35)) := Lib.hid hwz
  have T1' := Lib.hid (T1.out.next hb8z)
  have TW' := Lib.hid (TW.out.next hb8z)
  have T4' := Lib.hid (T4.out.next hb8z)
  have T5 := Lib.hid (T5'.out.next hb8z)
  have T7 := Lib.hid (T7'.out.next hb8z)
  have BZ := Lib.hid (B8.out.trans (hb8z.mono B8.out.size))
  have hxz := text_any wz _ sLz hmz (HT.out.below BZ.out) (by decide) (by decide) (by decide) jlz
  rw [txz] at hxz
  have HCZ := Lib.hid hxz
  clear hb9 hmz hwz hzz hb9z hb8z T1 TW T4 T5' T7' B8 HC9 hxz
  go_wp2_with fail
  rw [← WZ.out]
  refine HCZ.out.mono ?_
  rintro e w10 ⟨hb10, he⟩
  have he : e = .returned (.tuple #[.string { data := #[] }, .int .i64 30]) := he
  subst he
  have t1 := T1'.out.next hb10
  have tw := TW'.out.next hb10
  have T4 := Lib.hid (T4'.out.next hb10)
  have T5' := Lib.hid (T5.out.next hb10)
  have T7' := Lib.hid (T7.out.next hb10)
  have B10 := Lib.hid (BZ.out.trans (hb10.mono BZ.out.size))
  have heq := requal_any w10 _ _ sL1 sL1 t1 tw
  rw [eq1] at heq
  have HCE := Lib.hid heq
  clear hb10 t1 tw T1' TW' T4' T5 T7 BZ HCZ heq
  go_wp2_with fail
  refine HCE.out.mono ?_
  rintro e w11 ⟨rfl, hb11⟩
  have t4 := T4.out.next hb11
  have t5 := T5'.out.next hb11
  have t7 := T7'.out.next hb11
  have B11 := Lib.hid (B10.out.trans (hb11.mono B10.out.size))
  obtain ⟨b4, o4, rfl, hl4, _, _, p4, _⟩ := t4.got 0 (by decide)
  obtain ⟨b5, o5, rfl, hl5, _, p5, _, _⟩ := t5.got 0 (by decide)
  have p4' : w11.cell? ⟨b4, o4 + 2, none⟩ = some (.int .i64 1099511627776) := by simpa [sL4] using p4
  have p5' : w11.cell? ⟨b5, o5 + 1, none⟩ = some (.string { data := #[97] }) := by simpa [sL5, str] using p5
  have HN1 := Lib.hid (name_any w11 [66, 95, 49, 50] (HT.out.below B11.out) (by decide))
  have HN2 := Lib.hid (name_any w11 [95, 49, 50] (HT.out.below B11.out) (by decide))
  have hs1 := same_any w11 _ _ sL5 sL7 t5 t7
  rw [sm1] at hs1
  have HS1 := Lib.hid hs1
  have T5 := Lib.hid t5
  rw [nm1] at HN1
  rw [nm2] at HN2
  clear hb11 t4 t5 t7 p4 p5 hl4 hl5 HCE T4 T5' T7' B10 hs1
  go_wp2_with fail
  refine HN1.out.mono ?_
  rintro e wx ⟨rfl, rfl⟩
  clear HN1
  go_wp2_with fail
  refine HN2.out.mono ?_
  rintro e wy ⟨rfl, rfl⟩
  clear HN2
  go_wp2_with fail
  refine HS1.out.mono ?_
  rintro e w12 ⟨rfl, hb12⟩
  have hmn : TRow (w12.alloc (Obj.cells (tcells sLn).toArray 35)) (w12.heap.size + 1) (.slice (some ⟨w12.heap.size, 0, none⟩) 1 1) sLn := TRow.made w12 sLn 1 rfl (by unfold maxLen; omega)
  obtain ⟨wn, hwn⟩ : ∃ wn, wn = w12.alloc (Obj.cells (tcells sLn).toArray 35) := ⟨_, rfl⟩
  have hzn : wn.heap.size = w12.heap.size + 1 := by rw [hwn, World.size_alloc]
  have hbn : Below w12.heap.size w12 wn := by rw [hwn]; go_grown
  rw [← hwn, ← hzn] at hmn
  have WN : Hid (wn = w12.alloc (Obj.cells #[.int .i64 1, .string { data := #[97] }, .int .i64 0, .int .i64 9] 35)) := Lib.hid hwn
  have BN := Lib.hid (B11.out.trans ((hb12.trans (hbn.mono hb12.size)).mono B11.out.size))
  have hs2 := same_any wn _ _ sL5 sLn ((T5.out.next hb12).next hbn) hmn
  rw [sm2] at hs2
  have HS2 := Lib.hid hs2
  clear hb12 hmn hwn hzn hbn hs2 p4' p5' HS1 T5 B11
  go_wp2_with fail
  rw [← WN.out]
  refine HS2.out.mono ?_
  rintro e w13 ⟨rfl, hb13⟩
  have HF := Lib.hid (BN.out.trans (hb13.mono BN.out.size))
  clear hb13 HS2 BN
  go_wp2
  go_ret
  exact ⟨rfl, HF.out⟩

end Go.Proofs.YtdcdldjbdjochaaDoor
