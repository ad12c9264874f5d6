/- The law's own test of the examples: it is true. -/
import Derived.Test.YtjancbjjeemedaaBox
import Derived.Test.YtjancbjjeemedaaCut
import Derived.Test.YtjancbjjeemedaaCbd
import Derived.Test.YtjancbjjeemedaaSme
import Derived.Test.YtjancbjjeemedaaRpt
import Derived.Test.YtjancbjjeemedaaSend
namespace Go.Proofs.Ytjancbjjeemedaa
open Go.RowKit

def pk13 : Pk := ⟨1, 3, [7]⟩
def nS1 : Nt := ⟨[pk13], []⟩
def nS2 : Nt := ⟨[pk13, pk13], []⟩
def nS3 : Nt := ⟨[pk13, pk13], [(1, 3)]⟩
def nS4 : Nt := ⟨[pk13], [(1, 3)]⟩
theorem In64.small {k : Int} (h : -100 ≤ k ∧ k ≤ 100) : In64 k := ⟨by omega, by omega⟩

set_option maxRecDepth 100000 in
set_option maxHeartbeats 16000000 in
theorem sane_walk (w : World)
    (hNew : ∀ w, Calls Try.prog 16 #[] w fun e w' => ∃ u, e = .returned u ∧ NtAt w' w'.heap.size u Nt.zero ∧ Below w.heap.size w w')
    (hDz : ∀ w v, NtAt w w.heap.size v Nt.zero → Calls Try.prog 20 #[v, .int .i64 0] w fun e w' => ∃ vp v', e = .returned (.tuple #[vp, v', .int .i64 1]) ∧ PkAt w' w'.heap.size vp Pk.zero ∧ NtAt w' w'.heap.size v' Nt.zero ∧ Below w.heap.size w w')
    (hSz : ∀ w v, NtAt w w.heap.size v Nt.zero → Calls Try.prog 11 #[v, .agg #[.int .i64 3, .int .i64 3, .slice none 0 0]] w fun e w' => ∃ v', e = .returned (.tuple #[v', .int .i64 60]) ∧ NtAt w' w'.heap.size v' Nt.zero ∧ Below w.heap.size w w')
    (hCz : ∀ w v, NtAt w w.heap.size v Nt.zero → Calls Try.prog 18 #[v, .int .i64 2, .int .i64 2, .bool true] w fun e w' => ∃ v', e = .returned (.tuple #[v', .int .i64 1]) ∧ NtAt w' w'.heap.size v' Nt.zero ∧ Below w.heap.size w w')
    (hS1 : ∀ w v vp, NtAt w w.heap.size v Nt.zero → PkAt w w.heap.size vp pk13 → Calls Try.prog 11 #[v, vp] w fun e w' => ∃ v', e = .returned (.tuple #[v', .int .i64 0]) ∧ NtAt w' w'.heap.size v' nS1 ∧ Below w.heap.size w w')
    (hR : ∀ w v, NtAt w w.heap.size v nS1 → Calls Try.prog 25 #[v, .int .i64 0] w fun e w' => ∃ v', e = .returned (.tuple #[v', .int .i64 0]) ∧ NtAt w' w'.heap.size v' nS2 ∧ Below w.heap.size w w')
    (hC : ∀ w v, NtAt w w.heap.size v nS2 → Calls Try.prog 18 #[v, .int .i64 3, .int .i64 1, .bool true] w fun e w' => ∃ v', e = .returned (.tuple #[v', .int .i64 0]) ∧ NtAt w' w'.heap.size v' nS3 ∧ Below w.heap.size w w')
    (hD2 : ∀ w v, NtAt w w.heap.size v nS2 → Calls Try.prog 20 #[v, .int .i64 0] w fun e w' => ∃ vp v', e = .returned (.tuple #[vp, v', .int .i64 0]) ∧ PkAt w' w'.heap.size vp pk13 ∧ NtAt w' w'.heap.size v' nS1 ∧ Below w.heap.size w w')
    (hD3 : ∀ w v, NtAt w w.heap.size v nS3 → Calls Try.prog 20 #[v, .int .i64 1] w fun e w' => ∃ vp v', e = .returned (.tuple #[vp, v', .int .i64 0]) ∧ PkAt w' w'.heap.size vp Pk.zero ∧ NtAt w' w'.heap.size v' nS4 ∧ Below w.heap.size w w')
    (hK : ∀ w v, NtAt w w.heap.size v Nt.zero → Calls Try.prog 13 #[v] w fun e w' => e = .returned (.int .i64 0) ∧ Below w.heap.size w w')
    (hP : ∀ w v v' p, PkAt w w.heap.size v p → PkAt w w.heap.size v' p → Calls Try.prog 22 #[v, v'] w fun e w' => e = .returned (.bool true) ∧ Below w.heap.size w w')
    (hE : ∀ w v v' n, NtAt w w.heap.size v n → NtAt w w.heap.size v' n → Calls Try.prog 15 #[v, v'] w fun e w' => e = .returned (.bool true) ∧ Below w.heap.size w w') :
    Calls Try.prog 9 #[] w fun e w' => e = .returned (.bool true) ∧ Below w.heap.size w w' := by
  have HNEW := Lib.hid hNew
  have HDZ := Lib.hid hDz
  have HSZ := Lib.hid hSz
  have HCZ := Lib.hid hCz
  have HS1 := Lib.hid hS1
  have HR := Lib.hid hR
  have HC := Lib.hid hC
  have HD2 := Lib.hid hD2
  have HD3 := Lib.hid hD3
  have HK := Lib.hid hK
  have HP := Lib.hid hP
  have HE := Lib.hid hE
  clear hNew hDz hSz hCz hS1 hR hC hD2 hD3 hK hP hE
  have HB := Lib.hid (Below.refl w.heap.size w)
  go_enter Try.func9, Try.ntmps9
  go_wp2_with fail
  refine (HNEW.out _).mono ?_
  rintro e w1 ⟨v, rfl, hu, hb⟩
  obtain ⟨qa1, qc1, aa1, ac1, X1, rfl, hX, hN, hbX, hzX⟩ := hu.box (N := 0) (M := 0) (by first | rfl | assumption) (by first | rfl | assumption)
  have hbb := hb.trans (hbX.mono hb.size)
  have HB := Lib.hid (bthen HB.out hbb)
  have Bn := Lib.hid hN
  have HX1 := Lib.hid hX
  clear hu hb hX hN hbX hzX hbb
  have c0_Bn := Bn.out.c0
  have c1_Bn := Bn.out.c1
  rw [HX1.out] at c0_Bn c1_Bn
  go_wp2_with fail
  rw [← HX1.out]
  refine (HDZ.out X1 _ Bn.out.nt).mono ?_
  rintro e w2 ⟨vp, v, rfl, hp, hu, hb⟩
  obtain ⟨pa2, pc2, Y2, rfl, hY, hP, hbY, hzY⟩ := hp.box (x := 0) (y := 0) (L := 0) (by first | rfl | assumption) (by first | rfl | assumption) (by first | rfl | assumption)
  obtain ⟨qa2, qc2, aa2, ac2, X2, rfl, hX, hN, hbX, hzX⟩ := (hu.next hbY).box (N := 0) (M := 0) (by first | rfl | assumption) (by first | rfl | assumption)
  rw [hzY] at hN
  have hbb := hb.trans ((bthen hbY hbX).mono hb.size)
  have Bn := Lib.hid (Bn.out.next hbb)
  have HB := Lib.hid (bthen HB.out hbb)
  have Bz := Lib.hid (hP.next hbX)
  have Bzn := Lib.hid hN
  have HY2 := Lib.hid hY
  have HX2 := Lib.hid hX
  clear hu hb hp hY hP hbY hzY hX hN hbX hzX hbb
  clear c0_Bn c1_Bn
  have c0_Bn := Bn.out.c0
  have c1_Bn := Bn.out.c1
  rw [HX2.out, HY2.out] at c0_Bn c1_Bn
  go_wp2_with fail
  rw [← HY2.out, ← HX2.out]
  refine (HSZ.out X2 _ Bn.out.nt).mono ?_
  rintro e w3 ⟨v, rfl, hu, hb⟩
  obtain ⟨qa3, qc3, aa3, ac3, X3, rfl, hX, hN, hbX, hzX⟩ := hu.box (N := 0) (M := 0) (by first | rfl | assumption) (by first | rfl | assumption)
  have hbb := hb.trans (hbX.mono hb.size)
  have Bn := Lib.hid (Bn.out.next hbb)
  have Bz := Lib.hid (Bz.out.next hbb)
  have Bzn := Lib.hid (Bzn.out.next hbb)
  have HB := Lib.hid (bthen HB.out hbb)
  have Bs := Lib.hid hN
  have HX3 := Lib.hid hX
  clear hu hb hX hN hbX hzX hbb
  clear c0_Bn c1_Bn
  have c0_Bn := Bn.out.c0
  have c1_Bn := Bn.out.c1
  rw [HX3.out] at c0_Bn c1_Bn
  go_wp2_with fail
  rw [← HX3.out]
  refine (HCZ.out X3 _ Bn.out.nt).mono ?_
  rintro e w4 ⟨v, rfl, hu, hb⟩
  obtain ⟨qa4, qc4, aa4, ac4, X4, rfl, hX, hN, hbX, hzX⟩ := hu.box (N := 0) (M := 0) (by first | rfl | assumption) (by first | rfl | assumption)
  have hbb := hb.trans (hbX.mono hb.size)
  have Bn := Lib.hid (Bn.out.next hbb)
  have Bz := Lib.hid (Bz.out.next hbb)
  have Bzn := Lib.hid (Bzn.out.next hbb)
  have Bs := Lib.hid (Bs.out.next hbb)
  have HB := Lib.hid (bthen HB.out hbb)
  have Bc := Lib.hid hN
  have HX4 := Lib.hid hX
  clear hu hb hX hN hbX hzX hbb
  obtain ⟨Z, hZ⟩ : ∃ Z, Z = X4.alloc (.cells #[.int .u8 7] 5) := ⟨_, rfl⟩
  have hzX : X4.heap.size = w4.heap.size + 1 := by rw [HX4.out, World.size_alloc]
  have hbZ : Below X4.heap.size X4 Z := by rw [hZ]; go_grown
  have hby : BytesAt Z Z.heap.size (.slice (some ⟨w4.heap.size + 1, 0, none⟩) 1 1) [7] := by
    rw [← hzX, hZ]
    exact (Arr.new X4 #[.int .u8 7] 5).bytesAt (l := [7]) rfl (by simp) (Nat.le_refl _) (by unfold maxLen; omega)
  have hpk : PkAt Z Z.heap.size (.agg #[.int .i64 1, .int .i64 3, .slice (some ⟨w4.heap.size + 1, 0, none⟩) 1 1]) pk13 := ⟨⟨In64.small (by decide), In64.small (by decide)⟩, _, rfl, hby⟩
  obtain ⟨pa, pc, XP, e1, hXP, hP, hbP, hzP⟩ := hpk.box (x := 1) (y := 3) (L := 1) rfl rfl rfl
  injection e1 with e1
  simp only [Array.mk.injEq, List.cons.injEq, Value.slice.injEq, true_and, and_true] at e1
  obtain ⟨rfl, rfl⟩ := e1
  have hzZ : Z.heap.size = w4.heap.size + 1 + 1 := by rw [hZ, World.size_alloc, hzX]
  rw [hzZ] at hP
  have hbb := hbZ.trans (hbP.mono hbZ.size)
  have HZ := Lib.hid hZ
  have HXP := Lib.hid hXP
  have Bn := Lib.hid (Bn.out.next hbb)
  have Bz := Lib.hid (Bz.out.next hbb)
  have Bzn := Lib.hid (Bzn.out.next hbb)
  have Bs := Lib.hid (Bs.out.next hbb)
  have Bc := Lib.hid (Bc.out.next hbb)
  have HB := Lib.hid (bthen HB.out hbb)
  have Bp := Lib.hid hP
  clear hZ hzX hbZ hby hpk hXP hP hbP hzP hzZ hbb
  clear c0_Bn c1_Bn
  have c0_Bn := Bn.out.c0
  have c1_Bn := Bn.out.c1
  have c0_Bp := Bp.out.c0
  have c1_Bp := Bp.out.c1
  have c2_Bp := Bp.out.c2
  rw [HXP.out, HZ.out, HX4.out] at c0_Bn c1_Bn c0_Bp c1_Bp c2_Bp
  go_wp2_with fail
  rw [← HX4.out, ← HZ.out, ← HXP.out]
  refine (HS1.out XP _ _ Bn.out.nt Bp.out.pk).mono ?_
  rintro e w5 ⟨v, rfl, hu, hb⟩
  obtain ⟨qa5, qc5, aa5, ac5, X5, rfl, hX, hN, hbX, hzX⟩ := hu.box (N := 1) (M := 0) (by first | rfl | assumption) (by first | rfl | assumption)
  have hbb := hb.trans (hbX.mono hb.size)
  have Bn := Lib.hid (Bn.out.next hbb)
  have Bz := Lib.hid (Bz.out.next hbb)
  have Bzn := Lib.hid (Bzn.out.next hbb)
  have Bs := Lib.hid (Bs.out.next hbb)
  have Bc := Lib.hid (Bc.out.next hbb)
  have Bp := Lib.hid (Bp.out.next hbb)
  have HB := Lib.hid (bthen HB.out hbb)
  have Ba := Lib.hid hN
  have HX5 := Lib.hid hX
  clear hu hb hX hN hbX hzX hbb
  clear c0_Bn c1_Bn c0_Bp c1_Bp c2_Bp
  have c0_Ba := Ba.out.c0
  have c1_Ba := Ba.out.c1
  rw [HX5.out] at c0_Ba c1_Ba
  go_wp2_with fail
  rw [← HX5.out]
  refine (HR.out X5 _ Ba.out.nt).mono ?_
  rintro e w6 ⟨v, rfl, hu, hb⟩
  obtain ⟨qa6, qc6, aa6, ac6, X6, rfl, hX, hN, hbX, hzX⟩ := hu.box (N := 2) (M := 0) (by first | rfl | assumption) (by first | rfl | assumption)
  have hbb := hb.trans (hbX.mono hb.size)
  have Bn := Lib.hid (Bn.out.next hbb)
  have Bz := Lib.hid (Bz.out.next hbb)
  have Bzn := Lib.hid (Bzn.out.next hbb)
  have Bs := Lib.hid (Bs.out.next hbb)
  have Bc := Lib.hid (Bc.out.next hbb)
  have Bp := Lib.hid (Bp.out.next hbb)
  have Ba := Lib.hid (Ba.out.next hbb)
  have HB := Lib.hid (bthen HB.out hbb)
  have Bb := Lib.hid hN
  have HX6 := Lib.hid hX
  clear hu hb hX hN hbX hzX hbb
  clear c0_Ba c1_Ba
  have c0_Bb := Bb.out.c0
  have c1_Bb := Bb.out.c1
  rw [HX6.out] at c0_Bb c1_Bb
  go_wp2_with fail
  rw [← HX6.out]
  refine (HC.out X6 _ Bb.out.nt).mono ?_
  rintro e w7 ⟨v, rfl, hu, hb⟩
  obtain ⟨qa7, qc7, aa7, ac7, X7, rfl, hX, hN, hbX, hzX⟩ := hu.box (N := 2) (M := 1) (by first | rfl | assumption) (by first | rfl | assumption)
  have hbb := hb.trans (hbX.mono hb.size)
  have Bn := Lib.hid (Bn.out.next hbb)
  have Bz := Lib.hid (Bz.out.next hbb)
  have Bzn := Lib.hid (Bzn.out.next hbb)
  have Bs := Lib.hid (Bs.out.next hbb)
  have Bc := Lib.hid (Bc.out.next hbb)
  have Bp := Lib.hid (Bp.out.next hbb)
  have Ba := Lib.hid (Ba.out.next hbb)
  have Bb := Lib.hid (Bb.out.next hbb)
  have HB := Lib.hid (bthen HB.out hbb)
  have Bm := Lib.hid hN
  have HX7 := Lib.hid hX
  clear hu hb hX hN hbX hzX hbb
  clear c0_Bb c1_Bb
  have c0_Bb := Bb.out.c0
  have c1_Bb := Bb.out.c1
  rw [HX7.out] at c0_Bb c1_Bb
  go_wp2_with fail
  rw [← HX7.out]
  refine (HD2.out X7 _ Bb.out.nt).mono ?_
  rintro e w8 ⟨vp, v, rfl, hp, hu, hb⟩
  obtain ⟨pa8, pc8, Y8, rfl, hY, hP, hbY, hzY⟩ := hp.box (x := 1) (y := 3) (L := 1) (by first | rfl | assumption) (by first | rfl | assumption) (by first | rfl | assumption)
  obtain ⟨qa8, qc8, aa8, ac8, X8, rfl, hX, hN, hbX, hzX⟩ := (hu.next hbY).box (N := 1) (M := 0) (by first | rfl | assumption) (by first | rfl | assumption)
  rw [hzY] at hN
  have hbb := hb.trans ((bthen hbY hbX).mono hb.size)
  have Bn := Lib.hid (Bn.out.next hbb)
  have Bz := Lib.hid (Bz.out.next hbb)
  have Bzn := Lib.hid (Bzn.out.next hbb)
  have Bs := Lib.hid (Bs.out.next hbb)
  have Bc := Lib.hid (Bc.out.next hbb)
  have Bp := Lib.hid (Bp.out.next hbb)
  have Ba := Lib.hid (Ba.out.next hbb)
  have Bb := Lib.hid (Bb.out.next hbb)
  have Bm := Lib.hid (Bm.out.next hbb)
  have HB := Lib.hid (bthen HB.out hbb)
  have Bq := Lib.hid (hP.next hbX)
  have Bd := Lib.hid hN
  have HY8 := Lib.hid hY
  have HX8 := Lib.hid hX
  clear hu hb hp hY hP hbY hzY hX hN hbX hzX hbb
  clear c0_Bb c1_Bb
  have c0_Bm := Bm.out.c0
  have c1_Bm := Bm.out.c1
  rw [HX8.out, HY8.out] at c0_Bm c1_Bm
  go_wp2_with fail
  rw [← HY8.out, ← HX8.out]
  refine (HD3.out X8 _ Bm.out.nt).mono ?_
  rintro e w9 ⟨vp, v, rfl, hp, hu, hb⟩
  obtain ⟨pa9, pc9, Y9, rfl, hY, hP, hbY, hzY⟩ := hp.box (x := 0) (y := 0) (L := 0) (by first | rfl | assumption) (by first | rfl | assumption) (by first | rfl | assumption)
  obtain ⟨qa9, qc9, aa9, ac9, X9, rfl, hX, hN, hbX, hzX⟩ := (hu.next hbY).box (N := 1) (M := 1) (by first | rfl | assumption) (by first | rfl | assumption)
  rw [hzY] at hN
  have hbb := hb.trans ((bthen hbY hbX).mono hb.size)
  have Bn := Lib.hid (Bn.out.next hbb)
  have Bz := Lib.hid (Bz.out.next hbb)
  have Bzn := Lib.hid (Bzn.out.next hbb)
  have Bs := Lib.hid (Bs.out.next hbb)
  have Bc := Lib.hid (Bc.out.next hbb)
  have Bp := Lib.hid (Bp.out.next hbb)
  have Ba := Lib.hid (Ba.out.next hbb)
  have Bb := Lib.hid (Bb.out.next hbb)
  have Bm := Lib.hid (Bm.out.next hbb)
  have Bq := Lib.hid (Bq.out.next hbb)
  have Bd := Lib.hid (Bd.out.next hbb)
  have HB := Lib.hid (bthen HB.out hbb)
  have Br := Lib.hid (hP.next hbX)
  have Bl := Lib.hid hN
  have HY9 := Lib.hid hY
  have HX9 := Lib.hid hX
  clear hu hb hp hY hP hbY hzY hX hN hbX hzX hbb
  clear c0_Bm c1_Bm
  have c0_Bn := Bn.out.c0
  have c1_Bn := Bn.out.c1
  rw [HX9.out, HY9.out] at c0_Bn c1_Bn
  go_wp2_with fail
  rw [← HY9.out, ← HX9.out]
  refine (HK.out X9 _ Bn.out.nt).mono ?_
  rintro e w10 ⟨rfl, hb⟩
  have Bn := Lib.hid (Bn.out.next hb)
  have Bz := Lib.hid (Bz.out.next hb)
  have Bzn := Lib.hid (Bzn.out.next hb)
  have Bs := Lib.hid (Bs.out.next hb)
  have Bc := Lib.hid (Bc.out.next hb)
  have Bp := Lib.hid (Bp.out.next hb)
  have Ba := Lib.hid (Ba.out.next hb)
  have Bb := Lib.hid (Bb.out.next hb)
  have Bm := Lib.hid (Bm.out.next hb)
  have Bq := Lib.hid (Bq.out.next hb)
  have Bd := Lib.hid (Bd.out.next hb)
  have Br := Lib.hid (Br.out.next hb)
  have Bl := Lib.hid (Bl.out.next hb)
  have HB := Lib.hid (bthen HB.out hb)
  clear hb
  clear c0_Bn c1_Bn
  have c0_Bp := Bp.out.c0
  have c1_Bp := Bp.out.c1
  have c2_Bp := Bp.out.c2
  have c0_Bq := Bq.out.c0
  have c1_Bq := Bq.out.c1
  have c2_Bq := Bq.out.c2
  go_wp2_with fail
  refine (HP.out w10 _ _ _ Bp.out.pk Bq.out.pk).mono ?_
  rintro e w11 ⟨rfl, hb⟩
  have Bn := Lib.hid (Bn.out.next hb)
  have Bz := Lib.hid (Bz.out.next hb)
  have Bzn := Lib.hid (Bzn.out.next hb)
  have Bs := Lib.hid (Bs.out.next hb)
  have Bc := Lib.hid (Bc.out.next hb)
  have Bp := Lib.hid (Bp.out.next hb)
  have Ba := Lib.hid (Ba.out.next hb)
  have Bb := Lib.hid (Bb.out.next hb)
  have Bm := Lib.hid (Bm.out.next hb)
  have Bq := Lib.hid (Bq.out.next hb)
  have Bd := Lib.hid (Bd.out.next hb)
  have Br := Lib.hid (Br.out.next hb)
  have Bl := Lib.hid (Bl.out.next hb)
  have HB := Lib.hid (bthen HB.out hb)
  clear hb
  clear c0_Bp c1_Bp c2_Bp c0_Bq c1_Bq c2_Bq
  have c0_Br := Br.out.c0
  have c1_Br := Br.out.c1
  have c2_Br := Br.out.c2
  go_wp2_with fail
  refine (HP.out w11 _ _ Pk.zero Br.out.pk (pk_zero _ _)).mono ?_
  rintro e w12 ⟨rfl, hb⟩
  have Bn := Lib.hid (Bn.out.next hb)
  have Bz := Lib.hid (Bz.out.next hb)
  have Bzn := Lib.hid (Bzn.out.next hb)
  have Bs := Lib.hid (Bs.out.next hb)
  have Bc := Lib.hid (Bc.out.next hb)
  have Bp := Lib.hid (Bp.out.next hb)
  have Ba := Lib.hid (Ba.out.next hb)
  have Bb := Lib.hid (Bb.out.next hb)
  have Bm := Lib.hid (Bm.out.next hb)
  have Bq := Lib.hid (Bq.out.next hb)
  have Bd := Lib.hid (Bd.out.next hb)
  have Br := Lib.hid (Br.out.next hb)
  have Bl := Lib.hid (Bl.out.next hb)
  have HB := Lib.hid (bthen HB.out hb)
  clear hb
  clear c0_Br c1_Br c2_Br
  have c0_Bd := Bd.out.c0
  have c1_Bd := Bd.out.c1
  have c0_Ba := Ba.out.c0
  have c1_Ba := Ba.out.c1
  go_wp2_with fail
  refine (HE.out w12 _ _ _ Bd.out.nt Ba.out.nt).mono ?_
  rintro e w13 ⟨rfl, hb⟩
  have Bn := Lib.hid (Bn.out.next hb)
  have Bz := Lib.hid (Bz.out.next hb)
  have Bzn := Lib.hid (Bzn.out.next hb)
  have Bs := Lib.hid (Bs.out.next hb)
  have Bc := Lib.hid (Bc.out.next hb)
  have Bp := Lib.hid (Bp.out.next hb)
  have Ba := Lib.hid (Ba.out.next hb)
  have Bb := Lib.hid (Bb.out.next hb)
  have Bm := Lib.hid (Bm.out.next hb)
  have Bq := Lib.hid (Bq.out.next hb)
  have Bd := Lib.hid (Bd.out.next hb)
  have Br := Lib.hid (Br.out.next hb)
  have Bl := Lib.hid (Bl.out.next hb)
  have HB := Lib.hid (bthen HB.out hb)
  clear hb
  clear c0_Bd c1_Bd c0_Ba c1_Ba
  have c0_Bm := Bm.out.c0
  have c1_Bm := Bm.out.c1
  obtain ⟨qa, qc, aa, ac, e1, l1, l2, l3, l4, _, hA⟩ := Bm.out.nt.parts (N := 2) (M := 1) rfl rfl
  injection e1 with e1
  simp only [Array.mk.injEq, List.cons.injEq, Value.slice.injEq, true_and, and_true] at e1
  obtain ⟨⟨rfl, rfl⟩, rfl, rfl⟩ := e1
  obtain ⟨bA, oA, rfl, _, _, g0, g1⟩ := hA.got 0 (by simp [nS3])
  replace g0 : _ = some (Value.int .i64 1) := g0
  replace g1 : _ = some (Value.int .i64 3) := g1
  have hpe : ∀ W, (Op.equalIn 10000 55 (.agg #[.int .i64 1, .int .i64 3]) (.agg #[.int .i64 1, .int .i64 3])).run Try.prog W = .ok true W := fun W => by rw [pair_eq]; rfl
  rw [Nat.zero_mul, Nat.add_zero] at g0 g1
  go_wp2
  go_ret
  exact ⟨rfl, HB.out⟩
end Go.Proofs.Ytjancbjjeemedaa
