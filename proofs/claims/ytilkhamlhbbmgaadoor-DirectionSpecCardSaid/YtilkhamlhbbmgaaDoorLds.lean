/- The law DirectionSpec, walked. -/
import Derived.Test.YtilkhamlhbbmgaaDoorSnd
namespace Go.Proofs.YtilkhamlhbbmgaaDoor
open Go.RowKit

set_option maxRecDepth 100000 in
set_option maxHeartbeats 8000000 in
theorem lawDirection (w : World) (v0 : Value) (l : List Int) (hv : IRow w w.heap.size v0 l) (v1 : Value) (s : List Int) (hs : IRow w w.heap.size v1 s) (x : Bool) (hT : DTab w) : Calls Tryd.prog 10 #[v0, v1, .bool x] w fun e w' => e = .returned (.bool true) ∧ Below w.heap.size w w' := by
  have HSN := Lib.hid (sane10_any w hT)
  have HF0 := Lib.hid (fun (W : World) (hW : Below w.heap.size w W) => fewD_any W v0 l ((hv.below hW).mono hW.size))
  have HF1 := Lib.hid (fun (W : World) (hW : Below w.heap.size w W) => fewD_any W v1 s ((hs.below hW).mono hW.size))
  have HL := Lib.hid (fun (W : World) (hW : Below w.heap.size w W) => levels_any W v0 l ((hv.below hW).mono hW.size) x (hT.below hW))
  have HLR := Lib.hid (fun (W : World) (hW : Below w.heap.size w W) => rlevels_any W v0 l ((hv.below hW).mono hW.size) x)
  have HO := Lib.hid (fun (W : World) (hW : Below w.heap.size w W) => order_any W v1 s ((hs.below hW).mono hW.size))
  have HOR := Lib.hid (fun (W : World) (hW : Below w.heap.size w W) => rorder_any W v1 s ((hs.below hW).mono hW.size))
  obtain ⟨a0, c0, rfl, -⟩ := hv
  obtain ⟨a1, c1, rfl, -⟩ := hs
  obtain ⟨n, hn⟩ : ∃ n, l.length = n := ⟨_, rfl⟩
  obtain ⟨m, hm⟩ : ∃ n, s.length = n := ⟨_, rfl⟩
  obtain ⟨zL, hzL⟩ : ∃ z, lvE l = z := ⟨_, rfl⟩
  obtain ⟨qL, hqL⟩ : ∃ z, lvV (bsOf x) l = z := ⟨_, rfl⟩
  obtain ⟨zO, hzO⟩ : ∃ z, odE s = z := ⟨_, rfl⟩
  obtain ⟨qO, hqO⟩ : ∃ z, odV s = z := ⟨_, rfl⟩
  obtain ⟨f0, hf0⟩ : ∃ z, fewD n = z := ⟨_, rfl⟩
  obtain ⟨f1, hf1⟩ : ∃ z, fewD m = z := ⟨_, rfl⟩
  rw [hn, hf0] at HF0
  rw [hm, hf1] at HF1
  rw [hn, hzL, hqL] at HL HLR
  rw [hm, hzO, hqO] at HO HOR
  rw [hn, hm]
  clear hn hm hzL hqL hzO hqO hf0 hf1 hT
  cases f0
  · skip
    go_enter Tryd.func10, Tryd.ntmps10
    go_wp2_with fail
    (with_reducible refine (HSN.out).mono ?_)
    rintro e w1 ⟨rfl, hb⟩
    have HB1 := Lib.hid hb
    clear hb
    go_wp2_with fail
    (with_reducible refine (HF0.out w1 HB1.out).mono ?_)
    rintro e w_ ⟨rfl, hw_⟩
    have hw2_ := hw_.symm
    subst hw2_
    clear hw_
    go_wp2
    go_ret
    exact ⟨rfl, HB1.out⟩
  · cases f1
    · skip
      go_enter Tryd.func10, Tryd.ntmps10
      go_wp2_with fail
      (with_reducible refine (HSN.out).mono ?_)
      rintro e w1 ⟨rfl, hb⟩
      have HB1 := Lib.hid hb
      clear hb
      go_wp2_with fail
      (with_reducible refine (HF0.out w1 HB1.out).mono ?_)
      rintro e w_ ⟨rfl, hw_⟩
      have hw2_ := hw_.symm
      subst hw2_
      clear hw_
      go_wp2_with fail
      (with_reducible refine (HF1.out w1 HB1.out).mono ?_)
      rintro e w_ ⟨rfl, hw_⟩
      have hw2_ := hw_.symm
      subst hw2_
      clear hw_
      go_wp2
      go_ret
      exact ⟨rfl, HB1.out⟩
    · skip
      go_enter Tryd.func10, Tryd.ntmps10
      go_wp2_with fail
      (with_reducible refine (HSN.out).mono ?_)
      rintro e w1 ⟨rfl, hb⟩
      have HB1 := Lib.hid hb
      clear hb
      go_wp2_with fail
      (with_reducible refine (HF0.out w1 HB1.out).mono ?_)
      rintro e w_ ⟨rfl, hw_⟩
      have hw2_ := hw_.symm
      subst hw2_
      clear hw_
      go_wp2_with fail
      (with_reducible refine (HF1.out w1 HB1.out).mono ?_)
      rintro e w_ ⟨rfl, hw_⟩
      have hw2_ := hw_.symm
      subst hw2_
      clear hw_
      go_wp2_with fail
      (with_reducible refine (HL.out w1 HB1.out).mono ?_)
      rintro e w2 ⟨va, rfl, hi, hb⟩
      have Ha_2 := Lib.hid hi
      have HB2 := Lib.hid (HB1.out.trans (hb.mono HB1.out.size))
      clear hb hi
      go_wp2_with fail
      (with_reducible refine (HLR.out w2 HB2.out).mono ?_)
      rintro e w3 ⟨vb, rfl, hi, hb⟩
      have Ha_3 := Lib.hid (Ha_2.out.next hb)
      have Hb_3 := Lib.hid hi
      have HB3 := Lib.hid (HB2.out.trans (hb.mono HB2.out.size))
      clear hb hi
      go_wp2_with fail
      (with_reducible refine (HO.out w3 HB3.out).mono ?_)
      rintro e w4 ⟨vc, rfl, hi, hb⟩
      have Ha_4 := Lib.hid (Ha_3.out.next hb)
      have Hb_4 := Lib.hid (Hb_3.out.next hb)
      have Hc_4 := Lib.hid hi
      have HB4 := Lib.hid (HB3.out.trans (hb.mono HB3.out.size))
      clear hb hi
      go_wp2_with fail
      (with_reducible refine (HOR.out w4 HB4.out).mono ?_)
      rintro e w5 ⟨vd, rfl, hi, hb⟩
      have Ha_5 := Lib.hid (Ha_4.out.next hb)
      have Hb_5 := Lib.hid (Hb_4.out.next hb)
      have Hc_5 := Lib.hid (Hc_4.out.next hb)
      have Hd_5 := Lib.hid hi
      have HB5 := Lib.hid (HB4.out.trans (hb.mono HB4.out.size))
      clear hb hi
      have ea := Ha_5.out
      have eb := Hb_5.out
      have ec := Hc_5.out
      have ed := Hd_5.out
      have HS1 := Lib.hid (same_36 w5 va vb qL qL Ha_5.out Hb_5.out)
      rw [decide_eq_true rfl] at HS1
      have HS2 := Lib.hid (fun W (hb : Below w5.heap.size w5 W) => same_36 W vc vd qO qO (Hc_5.out.next hb) (Hd_5.out.next hb))
      rw [decide_eq_true rfl] at HS2
      obtain ⟨pa, ra, rfl, -⟩ := ea
      obtain ⟨pb, rb, rfl, -⟩ := eb
      obtain ⟨pc, rc, rfl, -⟩ := ec
      obtain ⟨pd, rd, rfl, -⟩ := ed
      go_wp2_with fail
      (with_reducible refine HS1.out.mono ?_)
      rintro e wx ⟨rfl, hb⟩
      have HS3 := Lib.hid (HS2.out wx hb)
      have HBX := Lib.hid (HB5.out.trans (hb.mono HB5.out.size))
      clear hb
      go_wp2_with fail
      (with_reducible refine HS3.out.mono ?_)
      rintro e wy ⟨rfl, hb⟩
      have HBY := Lib.hid (HBX.out.trans (hb.mono HBX.out.size))
      clear hb
      go_wp2
      go_ret
      exact ⟨by simp, HBY.out⟩
end Go.Proofs.YtilkhamlhbbmgaaDoor
