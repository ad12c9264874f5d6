/- For every disk, two numbers and two rows of bytes DiskReads answers true and leaves its arguments as they were. No condition but the row's own. -/
import Derived.Test.YtmklchjgiaomkaaSnw
import Derived.Test.YtmklchjgiaomkaaRdp
import Derived.Test.YtmklchjgiaomkaaArg
namespace Go.Proofs.Ytmklchjgiaomkaa
open Go.RowKit Go.ChangeShapes Go.WideShapes Go.ChangeAt

set_option maxRecDepth 100000 in
set_option maxHeartbeats 8000000 in
theorem lawReads (w : World) (d : Dk) (v vb vc : Value) (n m : Int) (b c : By) (h : DkAt w w.heap.size v d) (hb : BytesAt w w.heap.size vb b) (hc : BytesAt w w.heap.size vc c) (hn : In64 n) (hm : In64 m) :
    Calls Try.prog 7 #[v, .int .i64 n, .int .i64 m, vb, vc] w fun e w' => e = .returned (.bool true) ∧ Below w.heap.size w w' := by
  obtain ⟨k, hk⟩ : ∃ k, d.sec.length = k := ⟨_, rfl⟩
  obtain ⟨p, hp⟩ : ∃ k, d.pen.length = k := ⟨_, rfl⟩
  obtain ⟨left, hle⟩ : ∃ x, d.left = x := ⟨_, rfl⟩
  obtain ⟨st, hst⟩ : ∃ x, d.stop = x := ⟨_, rfl⟩
  obtain ⟨q, hq⟩ : ∃ x, b.length = x := ⟨_, rfl⟩
  obtain ⟨r, hr⟩ : ∃ x, c.length = x := ⟨_, rfl⟩
  obtain ⟨sa, cs, ap, cp, w1, rfl, hw1, hX, hB, hc1, hc2, -⟩ := h.box hk hp hle hst
  obtain ⟨ba, bc, rfl, hb1, hb2⟩ := bytes_shape hb
  obtain ⟨ca, cc, rfl, hr1, hr2⟩ := bytes_shape hc
  rw [hq] at hb hb1 ⊢
  rw [hr] at hc hr1 ⊢
  have HW := Lib.hid hw1
  have HX := Lib.hid hX
  have HYB := Lib.hid (hb.nxt hB)
  have HYC := Lib.hid (hc.nxt hB)
  have HBASE := Lib.hid hB
  have HQ := Lib.hid hq
  have HR := Lib.hid hr
  have HK := Lib.hid hk
  unfold maxLen at hb2 hr2 hc2
  clear h hb hc hw1 hX hB hk hp hle hst hq hr
  go_enter Try.func7, Try.ntmps7
  go_wp2_with fail
  rw [← HW.out]
  refine (sane_any _).mono ?_
  rintro e w2 ⟨rfl, hB⟩
  have HX := Lib.hid (HX.out.next hB)
  have HYB := Lib.hid (HYB.out.nxt hB)
  have HYC := Lib.hid (HYC.out.nxt hB)
  have HBASE := Lib.hid (Below.andthen HBASE.out hB)
  clear hB
  obtain ⟨e0, e1, e2, e3⟩ := HX.out.four
  go_wp2_with fail
  refine (few_any _ d _ HX.out.dk).mono ?_
  rintro e w3 ⟨f, rfl, hB⟩
  clear e0 e1 e2 e3
  have HX := Lib.hid (HX.out.next hB)
  have HYB := Lib.hid (HYB.out.nxt hB)
  have HYC := Lib.hid (HYC.out.nxt hB)
  have HBASE := Lib.hid (Below.andthen HBASE.out hB)
  clear hB
  by_cases hsk : f = false ∨ 128 < q ∨ 128 < r
  · have dq : f = false ∨ (f = true ∧ decide (128 < (q : Int)) = true) ∨ (f = true ∧ decide (128 < (q : Int)) = false ∧ decide (128 < (r : Int)) = true) := by
      cases f
      · exact .inl rfl
      · by_cases h1 : 128 < q
        · exact .inr (.inl ⟨rfl, by simp; omega⟩)
        · exact .inr (.inr ⟨rfl, by simp; omega, by simp at hsk ⊢; omega⟩)
    clear hsk
    rcases dq with rfl | ⟨rfl, dq⟩ | ⟨rfl, dq, dr⟩
    all_goals
      go_wp2
      go_ret
      exact ⟨rfl, HBASE.out⟩
  obtain ⟨rfl, hq1, hr1'⟩ : f = true ∧ q ≤ 128 ∧ r ≤ 128 := by
    cases f
    · simp at hsk
    · exact ⟨rfl, by simp at hsk; omega, by simp at hsk; omega⟩
  have dq : decide (128 < (q : Int)) = false := by simp; omega
  have dr : decide (128 < (r : Int)) = false := by simp; omega
  have hpure := @reads_pure d n m b c (by rw [HQ.out]; exact hq1) (by rw [HR.out]; exact hr1')
  have hpadl : (pad b).length = 128 := pad_len (by rw [HQ.out]; exact hq1)
  have hpadt : (pad b).take q = b := by unfold pad; rw [List.take_append_of_le_length (by rw [HQ.out]; omega), List.take_of_length_le (by rw [HQ.out]; omega)]
  have HPT := Lib.hid hpadt
  have HPL := Lib.hid hpadl
  have hlenE := @read_has_len d m
  obtain ⟨R1, hR1⟩ : ∃ x, d.read m = x := ⟨_, rfl⟩
  obtain ⟨X, hXe⟩ : ∃ x, d.write n b = x := ⟨_, rfl⟩
  have hcr := fun W h => read_any W d (.agg #[.slice sa k cs, .slice ap p cp, .int .i64 left, .bool st]) m h
  have hcw := fun W h h' => write_any W d (.agg #[.slice sa k cs, .slice ap p cp, .int .i64 left, .bool st]) (.slice ba q bc) n b h h' hn
  rw [hR1] at hpure hcr hlenE
  rw [hXe] at hpure hcw
  obtain ⟨R1, E⟩ := R1
  obtain ⟨X, F⟩ := X
  simp only at hpure hcr hcw hlenE
  have HPU := Lib.hid hpure
  have HCR := Lib.hid hcr
  have HCW := Lib.hid hcw
  have HLE := Lib.hid hlenE
  clear hpure hcr hcw hsk hR1 hXe hlenE hpadl hpadt
  obtain ⟨e0, e1, e2, e3⟩ := HX.out.four
  go_wp2_with fail
  refine (HCR.out _ HX.out.dk).mono ?_
  rintro e w4 ⟨u4, rfl, hu4, hB⟩
  have HU4 := Lib.hid hu4
  clear e0 e1 e2 e3 hu4
  have HX := Lib.hid (HX.out.next hB)
  have HYB := Lib.hid (HYB.out.nxt hB)
  have HYC := Lib.hid (HYC.out.nxt hB)
  have HBASE := Lib.hid (Below.andthen HBASE.out hB)
  clear hB
  obtain ⟨e0, e1, e2, e3⟩ := HX.out.four
  go_wp2_with fail
  refine (HCW.out _ HX.out.dk HYB.out).mono ?_
  rintro e w5 ⟨u5, rfl, hu5, hB⟩
  clear e0 e1 e2 e3
  have HX := Lib.hid (HX.out.next hB)
  have HYB := Lib.hid (HYB.out.nxt hB)
  have HYC := Lib.hid (HYC.out.nxt hB)
  have HU4 := Lib.hid (HU4.out.nxt hB)
  have HBASE := Lib.hid (Below.andthen HBASE.out hB)
  clear hB
  obtain ⟨k5, hk5⟩ : ∃ x, X.sec.length = x := ⟨_, rfl⟩
  obtain ⟨p5, hp5⟩ : ∃ x, X.pen.length = x := ⟨_, rfl⟩
  obtain ⟨l5, hl5⟩ : ∃ x, X.left = x := ⟨_, rfl⟩
  obtain ⟨t5, ht5⟩ : ∃ x, X.stop = x := ⟨_, rfl⟩
  obtain ⟨s5, c5, a5, q5, W5, rfl, hw5, hX5, hB, -⟩ := hu5.box hk5 hp5 hl5 ht5
  have HW := Lib.hid hw5
  have HX5 := Lib.hid hX5
  clear hu5 hw5 hX5 hk5 hp5 hl5 ht5
  have HX := Lib.hid (HX.out.next hB)
  have HYB := Lib.hid (HYB.out.nxt hB)
  have HYC := Lib.hid (HYC.out.nxt hB)
  have HU4 := Lib.hid (HU4.out.nxt hB)
  have HBASE := Lib.hid (Below.andthen HBASE.out hB)
  clear hB
  by_cases hEF : ¬ E = 0 ∨ ¬ F = 0
  · have dE : (E != 0) = true ∨ ((E != 0) = false ∧ (F != 0) = true) := by
      by_cases h1 : E = 0
      · exact .inr ⟨by simpa using h1, by simp; omega⟩
      · exact .inl (by simpa using h1)
    clear hEF
    rcases dE with dE | ⟨dE, dF⟩
    all_goals
      go_wp2
      rw [← HW.out]
      go_ret
      exact ⟨rfl, HBASE.out⟩
  obtain ⟨rfl, rfl⟩ : E = 0 ∧ F = 0 := by omega
  clear hEF
  obtain ⟨hp1, hp2, hp3, hp4⟩ := HPU.out rfl rfl
  have hl1 := HLE.out rfl
  have HP3 := Lib.hid hp3
  have HP4 := Lib.hid hp4
  have HL1 := Lib.hid hl1
  have hcr1 := fun W h => read_any W X (.agg #[.slice s5 k5 c5, .slice a5 p5 q5, .int .i64 l5, .bool t5]) m h
  have hcr2 := fun W h => read_any W X (.agg #[.slice s5 k5 c5, .slice a5 p5 q5, .int .i64 l5, .bool t5]) n h
  rw [hp1] at hcr1
  rw [hp2] at hcr2
  have hl2 : (X.read m).1.length = 128 := read_has_len hp1
  obtain ⟨R2, hR2⟩ : ∃ x, (X.read m).1 = x := ⟨_, rfl⟩
  rw [hR2] at hcr1 hl2
  have hp3 := HP3.out
  rw [hR2] at hp3
  have HP3 := Lib.hid hp3
  have HCR1 := Lib.hid hcr1
  have HCR2 := Lib.hid hcr2
  have HL2 := Lib.hid hl2
  clear hp1 hp2 hp3 hp4 hl1 hcr1 hcr2 hR2 hl2 HPU HLE HCR HCW
  obtain ⟨e0, e1, e2, e3⟩ := HX5.out.four
  rw [HW.out] at e0 e1 e2 e3
  go_wp2_with fail
  rw [← HW.out]
  refine (HCR1.out _ HX5.out.dk).mono ?_
  rintro e w6 ⟨u6, rfl, hu6, hB⟩
  have HU6 := Lib.hid hu6
  clear e0 e1 e2 e3 hu6
  have HX := Lib.hid (HX.out.next hB)
  have HX5 := Lib.hid (HX5.out.next hB)
  have HYB := Lib.hid (HYB.out.nxt hB)
  have HYC := Lib.hid (HYC.out.nxt hB)
  have HU4 := Lib.hid (HU4.out.nxt hB)
  have HBASE := Lib.hid (Below.andthen HBASE.out hB)
  clear hB
  obtain ⟨e0, e1, e2, e3⟩ := HX5.out.four
  go_wp2_with fail
  refine (HCR2.out _ HX5.out.dk).mono ?_
  rintro e w7 ⟨u7, rfl, hu7, hB⟩
  have HU7 := Lib.hid hu7
  clear e0 e1 e2 e3 hu7
  have HX := Lib.hid (HX.out.next hB)
  have HX5 := Lib.hid (HX5.out.next hB)
  have HYB := Lib.hid (HYB.out.nxt hB)
  have HYC := Lib.hid (HYC.out.nxt hB)
  have HU4 := Lib.hid (HU4.out.nxt hB)
  have HU6 := Lib.hid (HU6.out.nxt hB)
  have HBASE := Lib.hid (Below.andthen HBASE.out hB)
  clear hB
  -- region 11: only reads
  obtain ⟨mb, mo, mc, rfl, hm0, hm1, hm2, -⟩ := HU7.out.cell HPL.out (by omega)
  obtain ⟨ab, ao, ac, rfl, -, -, ham, -⟩ := HU6.out.cell HL2.out (by omega)
  obtain ⟨fb, fo, fc, rfl, -, -, hfm, -⟩ := HU4.out.cell HL1.out (by omega)
  have HCM := Lib.hid (fun qq => ((take_at HU7.out (m := q) (by rw [HPL.out]; exact hq1)).drewN qq).conv)
  have HCB := Lib.hid (fun qq => (HYB.out.drewN qq).conv)
  have HCA := Lib.hid (fun qq => (HU6.out.drewN qq).conv)
  have HCF := Lib.hid (fun qq => (HU4.out.drewN qq).conv)
  have cv1 := HCM.out
  have cv2 := HCB.out
  have cv3 := HCA.out
  have cv4 := HCF.out
  rw [HPT.out] at cv1
  obtain ⟨S, hS⟩ : ∃ S : ByteArray, (⟨b.toArray⟩ : ByteArray) = S := ⟨_, rfl⟩
  rw [hS] at cv1 cv2
  have hss : (S.toList == S.toList) = true := by simp
  have g1 : (0 : Int) ≤ (q : Int) := by omega
  have g2 : (q : Int) ≤ 128 := by omega
  have g3 : (q : Int) ≤ (mc : Int) := by omega
  have g4 : q ≤ mc := by omega
  unfold maxLen at hm2 ham hfm
  clear HCM HCB HCA HCF hS

  go_wp2_with fail
  go_cut [106] from 74 to 105 (fun s106 wx => s106 = .bool false ∧ Below w7.heap.size w7 wx)
  case first =>
    -- <11
    rename_i J1 K1 hJ1 hM1
    by_cases hnm : n = m
    · subst hnm
      have dnm : (n != n) = false := by simp
      go_quiet (fail)
      refine hM1 _ _ ?_
      go_meet
      exact ⟨rfl, below_drewN (Below.refl _ _) _⟩
    · have dnm : (n != m) = true := by simpa using hnm
      have he := HP3.out hnm
      rw [he] at cv3
      obtain ⟨S2, hS2⟩ : ∃ S : ByteArray, (⟨R1.toArray⟩ : ByteArray) = S := ⟨_, rfl⟩
      rw [hS2] at cv3 cv4
      have hss2 : (S2.toList == S2.toList) = true := by simp
      clear hS2 he
      go_quiet (fail)
      refine hM1 _ _ ?_
      go_meet
      exact ⟨rfl, below_drewN (Below.refl _ _) _⟩
    -- 11>
  case rest =>
    obtain ⟨rfl, hB⟩ := hcut
    clear cv1 cv2 cv3 cv4 hss
    have HX := Lib.hid (HX.out.next hB)
    have HX5 := Lib.hid (HX5.out.next hB)
    have HYC := Lib.hid (HYC.out.nxt hB)
    have HBASE := Lib.hid (Below.andthen HBASE.out hB)
    clear hB
    clear HU4 HU6 HU7 HYB HP3 HL1 HL2 HCR1 HCR2 HPT HPL g1 g2 g3 g4 ham hfm hm0 hm1 hm2
    have hcw := fun W h h' => write_any W X (.agg #[.slice s5 k5 c5, .slice a5 p5 q5, .int .i64 l5, .bool t5]) (.slice ca r cc) m c h h' hm
    have hp4 := HP4.out
    obtain ⟨Y, hY⟩ : ∃ x, X.write m c = x := ⟨_, rfl⟩
    rw [hY] at hcw hp4
    obtain ⟨Y, I⟩ := Y
    simp only at hcw hp4
    have HCW := Lib.hid hcw
    have HP4 := Lib.hid hp4
    clear hcw hp4 hY
    obtain ⟨e0, e1, e2, e3⟩ := HX5.out.four
    go_wp2_with fail
    refine (HCW.out _ HX5.out.dk HYC.out).mono ?_
    rintro e w8 ⟨u8, rfl, hu8, hB⟩
    clear e0 e1 e2 e3
    have HX := Lib.hid (HX.out.next hB)
    have HBASE := Lib.hid (Below.andthen HBASE.out hB)
    clear hB
    clear HX5 HYC
    obtain ⟨k8, hk8⟩ : ∃ x, Y.sec.length = x := ⟨_, rfl⟩
    obtain ⟨p8, hp8⟩ : ∃ x, Y.pen.length = x := ⟨_, rfl⟩
    obtain ⟨l8, hl8⟩ : ∃ x, Y.left = x := ⟨_, rfl⟩
    obtain ⟨t8, ht8⟩ : ∃ x, Y.stop = x := ⟨_, rfl⟩
    obtain ⟨s8, c8, a8, q8, W8, rfl, hw8, hX8, hB, -⟩ := hu8.box hk8 hp8 hl8 ht8
    have HW := Lib.hid hw8
    have HX8 := Lib.hid hX8
    clear hu8 hw8 hX8 hk8 hp8 hl8 ht8
    have HX := Lib.hid (HX.out.next hB)
    have HBASE := Lib.hid (Below.andthen HBASE.out hB)
    clear hB
    rcases HP4.out with hI | ⟨hI, hrest⟩
    · subst hI
      go_wp2
      rw [← HW.out]
      go_ret
      exact ⟨rfl, HBASE.out⟩
    subst hI
    have HREST := Lib.hid hrest
    clear hrest HP4 HCW
    have hcs := fun W h => sync_any W Y (.agg #[.slice s8 k8 c8, .slice a8 p8 q8, .int .i64 l8, .bool t8]) h
    have hrest := HREST.out
    obtain ⟨Z, hZ⟩ : ∃ x, Y.sync = x := ⟨_, rfl⟩
    rw [hZ] at hcs hrest
    obtain ⟨Z, J⟩ := Z
    simp only at hcs hrest
    have HCS := Lib.hid hcs
    have HREST := Lib.hid hrest
    clear hcs hrest hZ
    obtain ⟨e0, e1, e2, e3⟩ := HX8.out.four
    rw [HW.out] at e0 e1 e2 e3
    go_wp2_with fail
    rw [← HW.out]
    refine (HCS.out _ HX8.out.dk).mono ?_
    rintro e w9 ⟨u9, rfl, hu9, hB⟩
    clear e0 e1 e2 e3
    have HX := Lib.hid (HX.out.next hB)
    have HX8 := Lib.hid (HX8.out.next hB)
    have HBASE := Lib.hid (Below.andthen HBASE.out hB)
    clear hB
    obtain ⟨k9, hk9⟩ : ∃ x, Z.sec.length = x := ⟨_, rfl⟩
    obtain ⟨p9, hp9⟩ : ∃ x, Z.pen.length = x := ⟨_, rfl⟩
    obtain ⟨l9, hl9⟩ : ∃ x, Z.left = x := ⟨_, rfl⟩
    obtain ⟨t9, ht9⟩ : ∃ x, Z.stop = x := ⟨_, rfl⟩
    obtain ⟨s9, c9, a9, q9, W9, rfl, hw9, hX9, hB, -⟩ := hu9.box hk9 hp9 hl9 ht9
    have HW := Lib.hid hw9
    have HX9 := Lib.hid hX9
    have hrest := HREST.out
    rw [ht9, hp9] at hrest
    have HREST := Lib.hid hrest
    clear hu9 hw9 hX9 hk9 hp9 hl9 ht9 hrest HCS
    have HX := Lib.hid (HX.out.next hB)
    have HX8 := Lib.hid (HX8.out.next hB)
    have HBASE := Lib.hid (Below.andthen HBASE.out hB)
    clear hB
    rcases HREST.out with ⟨hJ, hst⟩ | ⟨hJ, hpz, hok, hall⟩
    · subst hJ; subst hst
      obtain ⟨e0, e1, e2, e3⟩ := HX9.out.four
      rw [HW.out] at e0 e1 e2 e3
      go_wp2
      rw [← HW.out]
      go_ret
      exact ⟨rfl, HBASE.out⟩
    subst hJ
    subst hpz
    have HOK := Lib.hid hok
    have HALL := Lib.hid hall
    clear hok hall HREST
    obtain ⟨e0, e1, e2, e3⟩ := HX.out.four
    rw [HW.out] at e0 e1 e2 e3
    go_wp2
    rw [← HW.out]
    clear e0 e1 e2 e3 HW
    obtain ⟨w0, hw0⟩ : ∃ w0, w0 = W9 := ⟨_, rfl⟩
    go_loopw [23] (fun i wr => ∃ t : Nat, i = .int .i64 t ∧ t ≤ k ∧ Below W9.heap.size W9 wr) (fun i _ => k - (intOf i).toNat)
    case atStart => exact ⟨0, rfl, Nat.zero_le _, Below.refl _ _⟩
    case round =>
      obtain ⟨t, rfl, htk, hBr⟩ := hrel
      have HBR := Lib.hid hBr
      have HX := Lib.hid (HX.out.next hBr)
      have HX8 := Lib.hid (HX8.out.next hBr)
      have HX9 := Lib.hid (HX9.out.next hBr)
      have HBASE := Lib.hid (Below.andthen HBASE.out hBr)
      clear hBr hw0
      obtain ⟨e0, e1, e2, e3⟩ := HX.out.four
      by_cases hlt : t < k
      · have dm : decide ((t : Int) < (k : Int)) = true := by simpa using hlt
        obtain ⟨hr1, hr2⟩ := HALL.out t (by rw [HK.out]; exact hlt)
        have hl := read_has_len hr1
        have hcY := fun W h => read_any W Y (.agg #[.slice s8 k8 c8, .slice a8 p8 q8, .int .i64 l8, .bool t8]) t h
        have hcZ := fun W h => read_any W Z (.agg #[.slice s9 k9 c9, .slice a9 0 q9, .int .i64 l9, .bool t9]) t h
        rw [hr2] at hcZ
        rw [hr1] at hcY
        obtain ⟨R, hR⟩ : ∃ x, (Y.read t).1 = x := ⟨_, rfl⟩
        simp only [hR] at hcZ hcY hl
        have HCY := Lib.hid hcY
        have HCZ := Lib.hid hcZ
        have HL := Lib.hid hl
        clear hr1 hr2 hcY hcZ hR hl e0 e1 e2 e3
        obtain ⟨e0, e1, e2, e3⟩ := HX.out.four
        obtain ⟨x0, x1, x2, x3⟩ := HX8.out.four
        go_wp2_with fail
        refine (HCY.out _ HX8.out.dk).mono ?_
        rintro e wA ⟨uA, rfl, huA, hB⟩
        have HUA := Lib.hid huA
        have HX9 := Lib.hid (HX9.out.next hB)
        have HBR := Lib.hid (Below.andthen HBR.out hB)
        clear huA hB e0 e1 e2 e3 x0 x1 x2 x3
        obtain ⟨x0, x1, x2, x3⟩ := HX9.out.four
        go_wp2_with fail
        refine (HCZ.out _ HX9.out.dk).mono ?_
        rintro e wB ⟨uB, rfl, huB, hB⟩
        have HUB := Lib.hid huB
        have HUA := Lib.hid (HUA.out.nxt hB)
        have HBR := Lib.hid (Below.andthen HBR.out hB)
        clear huB hB x0 x1 x2 x3
        obtain ⟨ab, ao, ac, rfl, -⟩ := HUA.out.cell HL.out (by omega)
        obtain ⟨bb, bo, bc', rfl, -⟩ := HUB.out.cell HL.out (by omega)
        have cv1 := HUA.out.conv
        have cv2 := HUB.out.conv
        obtain ⟨S, hS⟩ : ∃ S : ByteArray, (⟨R.toArray⟩ : ByteArray) = S := ⟨_, rfl⟩
        rw [hS] at cv1 cv2
        have hss : (S.toList == S.toList) = true := by simp
        clear hS
        go_wp2
        go_roundw
        case rel => exact ⟨t + 1, by go_num, by omega, HBR.out⟩
        case measure => simp [intOf]; omega
      · have dm : decide ((t : Int) < (k : Int)) = false := by simpa using hlt
        obtain ⟨x0, x1, x2, x3⟩ := HX9.out.four
        go_wp2_with fail
        have hchk := check_any wr Z _ HX9.out.dk
        rw [HOK.out, if_pos rfl] at hchk
        refine hchk.mono ?_
        rintro e wE ⟨rfl, hBE⟩
        go_wp2
        go_ret
        exact ⟨rfl, Below.andthen HBASE.out hBE⟩

section
variable {H : Type} {enc : TypeId × Value → H} {P : Program} {w : World} {base : Nat} {spare : Nat → Bool} {held : Bool}
theorem trodAll_five {t0 t1 t2 t3 t4 : TypeId} {args : Array Value} {ds : List (DataW H)} {ps : List MemPlace} (h : DataW.TrodAll enc P w base spare held [t0, t1, t2, t3, t4] args.toList ds ps) :
    ∃ v0 v1 v2 v3 v4 d0 d1 d2 d3 d4 p0 p1 p2 p3 p4, args = #[v0, v1, v2, v3, v4] ∧ ds = [d0, d1, d2, d3, d4] ∧ ps = p0 ++ p1 ++ p2 ++ p3 ++ p4 ∧ DataW.Trod enc P w base spare held t0 v0 d0 p0 ∧ DataW.Trod enc P w base spare held t1 v1 d1 p1 ∧ DataW.Trod enc P w base spare held t2 v2 d2 p2 ∧ DataW.Trod enc P w base spare held t3 v3 d3 p3 ∧ DataW.Trod enc P w base spare held t4 v4 d4 p4 := by
  obtain ⟨v, vs, d, ds', p, q, hargs, rfl, rfl, hd, hrest⟩ := trodAll_cons h
  obtain ⟨v', vs', d', ds'', p', q', rfl, rfl, rfl, hd', hrest'⟩ := trodAll_cons hrest
  obtain ⟨v'', vs'', d'', ds''', p'', q'', rfl, rfl, rfl, hd'', hrest''⟩ := trodAll_cons hrest'
  obtain ⟨v3, vs3, d3, ds3, p3, q3, rfl, rfl, rfl, hd3, hrest3⟩ := trodAll_cons hrest''
  obtain ⟨v4, vs4, d4, ds4, p4, q4, rfl, rfl, rfl, hd4, hrest4⟩ := trodAll_cons hrest3
  obtain ⟨rfl, rfl, rfl⟩ := trodAll_nil hrest4
  exact ⟨v, v', v'', v3, v4, d, d', d'', d3, d4, p, p', p'', p3, p4, by cases args; simp_all, rfl, by simp, hd, hd', hd'', hd3, hd4⟩
theorem trodAll_mk5 {t0 t1 t2 t3 t4 : TypeId} {v0 v1 v2 v3 v4 : Value} {d0 d1 d2 d3 d4 : DataW H} {p0 p1 p2 p3 p4 : List MemPlace} (h0 : DataW.Trod enc P w base spare held t0 v0 d0 p0) (h1 : DataW.Trod enc P w base spare held t1 v1 d1 p1) (h2 : DataW.Trod enc P w base spare held t2 v2 d2 p2)
    (h3 : DataW.Trod enc P w base spare held t3 v3 d3 p3) (h4 : DataW.Trod enc P w base spare held t4 v4 d4 p4) : DataW.TrodAll enc P w base spare held [t0, t1, t2, t3, t4] [v0, v1, v2, v3, v4] [d0, d1, d2, d3, d4] (p0 ++ (p1 ++ (p2 ++ (p3 ++ p4)))) := trodAll_cons_mk h0 (trodAll_mk4 h1 h2 h3 h4)
end

set_option maxRecDepth 100000 in
theorem diskReads_lifted (os : Os) (started : os.Started) (H : Type) (enc : TypeId × Value → H) :
    ReturnsInHanded {} Try.checked os 7 .any (Rows.diskReadsSpec.pre6 enc Try.prog Try.f7 Rows.diskReadsRow.domain false) (Rows.diskReadsSpec.post enc Try.prog Try.f7 false true false false) := by
  refine returnsInHanded_of_change (C := Try.checked) Try.own started (by kernel_rfl) Try.func7
    (ChangeSpec.witness6 (enc := enc) (C := Try.checked) false ⟨#[], #[.agg #[.slice none 0 0, .slice none 0 0, .int .i64 0, .bool false], .int .i64 0, .int .i64 0, .slice none 0 0, .slice none 0 0], []⟩ 8 (by kernel_rfl) (by kernel_rfl) (by kernel_rfl) (by kernel_rfl)) ?_
  intro W base args ds gs before hval0 hW _ _
  have hval : ∀ (j : Nat) t v, Try.f7.params[j]? = some t → args[j]? = some v → Value.okWide Try.prog W .any base t v := hval0
  have hW' := hW
  obtain ⟨p, q, hA0, hV, rfl, _, _⟩ := hW
  have hA : DataW.TrodAll enc Try.prog W 0 (fun _ => true) true Try.f7.params.toList args.toList ds p := hA0
  rw [Try.params7] at hA hval
  obtain ⟨v0, v1, v2, v3, v4, d0, d1, d2, d3, d4, p0, p1, p2, p3, p4, rfl, rfl, rfl, h0, h1, h2, h3, h4⟩ := trodAll_five hA
  obtain ⟨rfl, rfl⟩ := trodVars_none hV
  obtain ⟨x0, hx0⟩ := open_disk (hval 0 25 v0 rfl rfl) h0
  obtain ⟨x1, rfl, rfl, rfl, hx1⟩ := open_int Try.underlying3 (hval 1 3 v1 rfl rfl) h1
  obtain ⟨x2, rfl, rfl, rfl, hx2⟩ := open_int Try.underlying3 (hval 2 3 v2 rfl rfl) h2
  obtain ⟨x3, hx3⟩ := open_bytes (hval 3 35 v3 rfl rfl) h3
  obtain ⟨x4, hx4⟩ := open_bytes (hval 4 35 v4 rfl rfl) h4
  clear hA0 hval0
  simp only [List.append_nil] at hW'
  have hlt : ∀ x ∈ p0 ++ p3 ++ p4, x.block < W.heap.size := fun x hx => by simpa using hW'.lt x hx
  refine (lawReads W x0 v0 v3 v4 x1 x2 x3 x4 hx0 hx3 hx4 (wf64 hx1) (wf64 hx2)).mono fun e W' ⟨he, hnx⟩ => ?_
  subst he
  exact ⟨_, rfl, _, _, _, [], _, [], hW', trodAll_mk1 (shut_bool Try.underlying4 _), trodAll_mk5 (Below.trod Try.laidOut (by kernel_rfl) (of_decide_eq_true (by kernel_rfl)) h0 hnx fun x hx => hlt x (by simp only [List.mem_append]; simp only [hx, true_or])) (shut_int Try.underlying3 hx1) (shut_int Try.underlying3 hx2) (Below.trod Try.laidOut (by kernel_rfl) (of_decide_eq_true (by kernel_rfl)) h3 hnx fun x hx => hlt x (by simp only [List.mem_append]; simp only [hx, true_or, or_true])) (Below.trod Try.laidOut (by kernel_rfl) (of_decide_eq_true (by kernel_rfl)) h4 hnx fun x hx => hlt x (by simp only [List.mem_append]; simp only [hx, or_true])), rfl, hnx.frame _, fun h => by cases h⟩

/-- DiskReads holds. -/
theorem diskReads_holds : Rows.DiskReadsSaid :=
  OpenClaim.holds_of_wide 7 Try.f7 rfl rfl rfl rfl rfl rfl rfl ⟨rfl, rfl, rfl, rfl, rfl⟩ rfl rfl rfl rfl rfl (by kernel_rfl) Try.func7 (by kernel_rfl)
    (of_decide_eq_true (by kernel_rfl)) (by unfold Func.isWrapper; first | (rw [if_pos (by decide +kernel)]; kernel_rfl) | (rw [if_neg (by decide +kernel)]; exact ⟨rfl, rfl⟩))
    (fun os started H enc _ => diskReads_lifted os started H enc)

end Go.Proofs.Ytmklchjgiaomkaa
