/- For every disk, two numbers and bytes DiskStopped answers true and leaves its arguments as they were. No condition but the row's own. -/
import Derived.Test.YtmklchjgiaomkaaSnw
import Derived.Test.YtmklchjgiaomkaaArg
namespace Go.Proofs.Ytmklchjgiaomkaa
open Go.RowKit Go.ChangeShapes Go.WideShapes Go.ChangeAt

set_option maxHeartbeats 4000000 in
theorem lawStopped (w : World) (d : Dk) (v vb : Value) (n l : Int) (b : By) (h : DkAt w w.heap.size v d) (hb : BytesAt w w.heap.size vb b) (hn : In64 n) (hl : In64 l) :
    Calls Try.prog 9 #[v, .int .i64 n, .int .i64 l, vb] w fun e w' => e = .returned (.bool true) ∧ Below w.heap.size w w' := by
  have H := Lib.hid h
  obtain ⟨sa, cs, ap, cp, rfl, hleft, hc1, hc2, hp1, hp2, hS, hP⟩ := h.open
  obtain ⟨ba, bc, rfl, hb1, hb2⟩ := bytes_shape hb
  have HB := Lib.hid hb
  obtain ⟨w1, hw1⟩ : ∃ w1, w1 = (w.alloc (Obj.cells #[Value.slice sa d.sec.length cs, Value.slice ap d.pen.length cp, Value.int IntKind.i64 d.left, Value.bool d.stop] 25)) := ⟨_, rfl⟩
  have hz1 : w1.heap.size = w.heap.size + 1 := by rw [hw1]; simp
  have hB1 : Below w.heap.size w w1 := by rw [hw1]; go_grown
  have hA1 : Arr w1 w.heap.size [Value.slice sa d.sec.length cs, Value.slice ap d.pen.length cp, Value.int IntKind.i64 d.left, Value.bool d.stop] := by rw [hw1]; exact Arr.new _ _ _
  have hkw : ∀ W, Kept w1 W → Below w.heap.size w W := fun W hW => hB1.trans (hW.below.mono (by omega))
  have hsane : ∀ W, Kept w1 W → Calls Try.prog 10 #[] W fun e w' => e = .returned (.bool true) ∧ Kept w1 w' := fun W hW => (sane_any W).mono fun e w' h => ⟨h.1, hW.next h.2⟩
  have hfew : ∀ W, Kept w1 W → Calls Try.prog 11 #[.agg #[Value.slice sa d.sec.length cs, Value.slice ap d.pen.length cp, Value.int IntKind.i64 d.left, Value.bool d.stop]] W fun e w' => ∃ r, e = .returned (.bool r) ∧ Kept w1 w' :=
    fun W hW => (few_any W d _ (H.out.next (hkw W hW))).mono fun e w' ⟨r, h1, h2⟩ => ⟨r, h1, hW.next h2⟩
  have hres : ∀ W, Kept w1 W → Calls Try.prog 17 #[.agg #[Value.slice sa d.sec.length cs, Value.slice ap d.pen.length cp, Value.int IntKind.i64 d.left, Value.bool d.stop]] W fun e w' => ∃ u, e = .returned u ∧ DkAt w' w'.heap.size u d.restart ∧ Kept w1 w' :=
    fun W hW => (restart_any W d _ (H.out.next (hkw W hW)) 17 (.inl rfl)).mono fun e w' ⟨r, h1, h2, h3⟩ => ⟨r, h1, h2, hW.next h3⟩
  obtain ⟨k, hk⟩ : ∃ k, d.sec.length = k := ⟨_, rfl⟩
  obtain ⟨p, hp⟩ : ∃ k, d.pen.length = k := ⟨_, rfl⟩
  obtain ⟨left, hle⟩ : ∃ x, d.left = x := ⟨_, rfl⟩
  obtain ⟨st, hst⟩ : ∃ x, d.stop = x := ⟨_, rfl⟩
  obtain ⟨q, hq⟩ : ∃ x, b.length = x := ⟨_, rfl⟩
  rw [hk, hp, hle, hst] at hw1 hA1 hfew hres
  rw [hk, hp, hle, hst, hq]
  rw [hq] at hb1
  rw [hk] at hS
  rw [hp] at hP
  rw [hle] at hleft
  have HS := Lib.hid hS
  have HP := Lib.hid hP
  have HK := Lib.hid hk
  have HL := Lib.hid hleft
  have HLe := Lib.hid hle
  have HQ := Lib.hid hq
  have HW1 := Lib.hid hw1
  have HA1 := Lib.hid hA1
  have HKW := Lib.hid hkw
  have HSN := Lib.hid hsane
  have HFW := Lib.hid hfew
  have HRS := Lib.hid hres
  have HZ1 := Lib.hid hz1
  have HB1 := Lib.hid hB1
  clear h hb hw1 hA1 hkw hsane hfew hres hz1 hB1 hS hP hleft hc1 hc2 hp1 hp2
  unfold maxLen at hb2
  go_enter Try.func9, Try.ntmps9
  go_wp2_with fail
  rw [← HW1.out]
  refine (HSN.out _ (Kept.refl _)).mono ?_
  rintro e w2 ⟨rfl, hK2⟩
  have HA2 := Lib.hid (HA1.out.below hK2.below (by rw [HZ1.out]; omega))
  obtain ⟨e0, e1, e2, e3⟩ := HA2.out.four
  have HK2 := Lib.hid hK2
  clear hK2
  go_wp2_with fail
  refine (HFW.out _ HK2.out).mono ?_
  rintro e w3 ⟨r, rfl, hK3⟩
  have HA3 := Lib.hid (HA1.out.below hK3.below (by rw [HZ1.out]; omega))
  have HK3 := Lib.hid hK3
  clear hK3 e0 e1 e2 e3
  obtain ⟨e0, e1, e2, e3⟩ := HA3.out.four
  by_cases hsk : r = false ∨ 1000 < q
  · have dq : r = false ∨ (r = true ∧ decide (1000 < (q : Int)) = true) := by
      cases r
      · exact .inl rfl
      · exact .inr ⟨rfl, by simp at hsk ⊢; omega⟩
    clear hsk
    rcases dq with rfl | ⟨rfl, dq⟩
    all_goals
      go_wp2
      go_ret
      exact ⟨rfl, HKW.out _ HK3.out⟩
  obtain ⟨rfl, hq1⟩ : r = true ∧ q ≤ 1000 := by
    cases r
    · simp at hsk
    · exact ⟨rfl, by simp at hsk; omega⟩
  have dq : decide (1000 < (q : Int)) = false := by simp; omega
  clear hsk
  go_wp2_with fail
  refine (HRS.out _ HK3.out).mono ?_
  rintro e w4 ⟨u4, rfl, hu4, hK4⟩
  have HU4 := Lib.hid hu4
  obtain ⟨sa4, cs4, ap4, cp4, rfl, _, hc41, hc42, _, _, hS4, _⟩ := hu4.parts (d := d.restart) (p := 0) (left := -1) (st := false) hk rfl rfl rfl
  obtain ⟨w5, hw5, hA5, hB5, hz5, -⟩ := boxed w4 (.slice sa4 k cs4) (.slice ap4 0 cp4) (.int .i64 (-1)) (.bool false)
  have HK5 := Lib.hid (hK4.next hB5)
  have HU5 := Lib.hid (HU4.out.next hB5)
  have HA5 := Lib.hid hA5
  have HW5 := Lib.hid hw5
  have HZ5 := Lib.hid hz5
  obtain ⟨x0, x1, x2, x3⟩ := hA5.four
  have HS5 := Lib.hid (hS4.next hB5)
  clear hu4 hK4 hS4 hA5 hw5 hz5 e0 e1 e2 e3
  go_wp2_with fail
  rw [← HW5.out]
  refine ((restart_any w5 _ _ HU5.out 17 (.inl rfl))).mono ?_
  rintro e w6 ⟨u6, rfl, hu6, hB6⟩
  have HU6 := Lib.hid hu6
  obtain ⟨sa6, cs6, ap6, cp6, rfl, _, _, _, _, _, _, _⟩ := hu6.parts (d := d.restart.restart) (p := 0) (left := -1) (st := false) hk rfl rfl rfl
  obtain ⟨w7, hw7, hA7, hB7, hz7, -⟩ := boxed w6 (.slice sa6 k cs6) (.slice ap6 0 cp6) (.int .i64 (-1)) (.bool false)
  have HK7 := Lib.hid ((HK5.out.next hB6).next hB7)
  have HU7 := Lib.hid (HU6.out.next hB7)
  have hb57 := hB6.trans (hB7.mono hB6.size)
  have HX7 := Lib.hid (HU5.out.next hb57)
  have HA57 := Lib.hid (HA5.out.below hb57 HZ5.out)
  have HA7 := Lib.hid hA7
  have HW7 := Lib.hid hw7
  have HZ7 := Lib.hid hz7
  have HS7 := Lib.hid (HS5.out.next hb57)
  have HZ57 := Lib.hid (Nat.lt_of_lt_of_le HZ5.out hb57.size)
  obtain ⟨y0, y1, y2, y3⟩ := hA7.four
  clear hu6 hB6 hA7 hB7 hz7 hw7 hb57 x0 x1 x2 x3
  obtain ⟨x0, x1, x2, x3⟩ := HA57.out.four
  rw [HW7.out] at x0 x1 x2 x3 y0 y1 y2 y3
  go_wp2_with fail
  rw [← HW7.out]
  refine (same_any w7 _ _ _ _ HX7.out HU7.out).mono ?_
  rw [show d.restart.same d.restart.restart = true from Dk.same_refl _]
  rintro e w8 ⟨rfl, hB8⟩
  have HK8 := Lib.hid (HK7.out.next hB8)
  have HX8 := Lib.hid (HX7.out.next hB8)
  have HS8 := Lib.hid (HS7.out.next hB8)
  have HT8 := Lib.hid (HS.out.next (HKW.out _ HK8.out))
  have HZ8 := Lib.hid (Nat.lt_of_lt_of_le HZ57.out hB8.size)
  have HZ81 := Lib.hid (show w.heap.size < w8.heap.size by have := HK8.out.below.size; rw [HZ1.out] at this; omega)
  have HA58 := Lib.hid (HA57.out.below hB8 HZ57.out)
  have HA8 := Lib.hid (HA1.out.below HK8.out.below (by rw [HZ1.out]; omega))
  clear hB8 x0 x1 x2 x3 y0 y1 y2 y3
  obtain ⟨x0, x1, x2, x3⟩ := HA58.out.four
  obtain ⟨e0, e1, e2, e3⟩ := HA8.out.four
  clear HW7 HU7 HX7 HA57 HA7 HU6 HK5 HU5 HA5 HW5 HK3 HK2 HA2 HA3
  go_wp2
  go_loopw [11] (fun i wr => ∃ m : Nat, i = .int .i64 m ∧ m ≤ k ∧ Below w8.heap.size w8 wr) (fun i _ => k - (intOf i).toNat)
  case atStart => exact ⟨0, rfl, Nat.zero_le _, Below.refl _ _⟩
  case round =>
    obtain ⟨m, rfl, hmk, hBr⟩ := hrel
    have HBR := Lib.hid hBr
    have HXr := Lib.hid (HA58.out.below hBr HZ8.out)
    have HYr := Lib.hid (HA8.out.below hBr HZ81.out)
    clear x0 x1 x2 x3 e0 e1 e2 e3 hBr
    obtain ⟨x0, x1, x2, x3⟩ := HXr.out.four
    obtain ⟨e0, e1, e2, e3⟩ := HYr.out.four
    by_cases hlt : m < k
    · obtain ⟨b1, off1, rfl, hb1, hin⟩ := sec_get HT8.out (by rw [HK.out]; omega)
      obtain ⟨b4, off4, rfl, hb4, hin'⟩ := sec_get HS8.out (by show 0 < d.sec.length; rw [HK.out]; omega)
      obtain ⟨a, c, g1, g2, g3, g4⟩ := (hin.below HBR.out hb1).got m (by rw [HK.out]; exact hlt)
      obtain ⟨a', c', g1', g2', g3', g4'⟩ := (hin'.below HBR.out hb4).got m (by show m < d.sec.length; rw [HK.out]; exact hlt)
      have cv := fun q => (g4.drewN q).conv
      have cv' := fun q => (g4'.drewN q).conv
      have hx' : d.restart.sec[m]'(by show m < d.sec.length; rw [HK.out]; exact hlt) = d.sec[m]'(by rw [HK.out]; exact hlt) := rfl
      rw [hx'] at g1' g2' cv'
      obtain ⟨x, hx⟩ : ∃ x, (d.sec[m]'(by rw [HK.out]; exact hlt)) = x := ⟨_, rfl⟩
      rw [hx] at g1 g2 cv g1' g2' cv'
      obtain ⟨n, hn⟩ : ∃ n, x.length = n := ⟨_, rfl⟩
      rw [hn] at g1 g2 cv g1' g2' cv'
      obtain ⟨s, hss⟩ : ∃ s, (⟨x.toArray⟩ : ByteArray) = s := ⟨_, rfl⟩
      rw [hss] at cv cv'
      have hs : (s.toList == s.toList) = true := by simp
      unfold maxLen at g3 g3' hc42
      clear hss hx hx' hn hin hin' g4 g4'
      go_wp2
      go_quiet (fail)
      go_wp2
      go_roundw
      case rel => exact ⟨m + 1, by go_num, by omega, below_drewN HBR.out _⟩
      case measure => simp [intOf]; omega
    · have dl : decide ((m : Int) < (k : Int)) = false := by simpa using hlt
      have hBW : Below w.heap.size w (wr.setCell ⟨w.heap.size, 3, none⟩ (.bool true)) := Below.setCell (p := ⟨w.heap.size, 3, none⟩) ((HKW.out _ HK8.out).trans (HBR.out.mono (by have := HZ81.out; omega))) (Nat.le_refl _) _
      obtain ⟨r0, r1, r2, r3⟩ := HYr.out.free
      obtain ⟨wS, hwS⟩ : ∃ wS, wS = wr.setCell ⟨w.heap.size, 3, none⟩ (.bool true) := ⟨_, rfl⟩
      have hAS : Arr wS w.heap.size [.slice sa k cs, .slice ap p cp, .int .i64 left, .bool true] := by rw [hwS]; exact HYr.out.set 3 (.bool true)
      rw [← hwS] at hBW
      have HBS := Lib.hid hBW
      have HAS := Lib.hid hAS
      have HWS := Lib.hid hwS
      have hzs : w.heap.size < wS.heap.size := hAS.lt (by simp)
      have HZS := Lib.hid hzs
      obtain ⟨D, hD⟩ : ∃ D : Dk, D = { d with stop := true } := ⟨_, rfl⟩
      have hrun : D.runs = false := by rw [hD]; unfold Dk.runs; simp
      have hDat : ∀ W, Below w.heap.size w W → DkAt W W.heap.size (.agg #[.slice sa k cs, .slice ap p cp, .int .i64 left, .bool true]) D := fun W hW => by
        rw [hD]; exact ⟨by show In64 d.left; rw [HLe.out]; exact HL.out, _, _, by show _ = Value.agg #[_, _, .int .i64 d.left, .bool true]; rw [HLe.out], HS.out.next hW, HP.out.next hW⟩
      have HR := Lib.hid (show ∀ W, Below w.heap.size w W → Calls Try.prog 21 #[.agg #[.slice sa k cs, .slice ap p cp, .int .i64 left, .bool true], .int .i64 n] W fun e w' => ∃ u, e = .returned (.tuple #[u, .int .i64 40]) ∧ Below W.heap.size W w' from fun W hW => by
        refine (read_any W D _ n (hDat W hW)).mono fun e w' ⟨u, h1, _, h3⟩ => ⟨u, ?_, h3⟩
        rw [h1]; unfold Dk.read; rw [hrun]; rfl)
      have HWr := Lib.hid (show ∀ W, Below w.heap.size w W → Calls Try.prog 19 #[.agg #[.slice sa k cs, .slice ap p cp, .int .i64 left, .bool true], .int .i64 n, .slice ba q bc] W fun e w' => ∃ (sa' : Option Addr) (cs' : Nat) (ap' : Option Addr) (cp' : Nat), e = .returned (.tuple #[.agg #[.slice sa' 0 cs', .slice ap' 0 cp', .int .i64 0, .bool false], .int .i64 40]) ∧ Below W.heap.size W w' from fun W hW => by
        have hb' := HB.out.nxt hW
        rw [HQ.out] at hb'
        refine (write_any W D _ _ n b (hDat W hW) hb' hn).mono fun e w' ⟨u, h1, h2, h3⟩ => ?_
        have hz : D.write n b = (Dk.zero, 40) := by unfold Dk.write; rw [hrun]; rfl
        rw [hz] at h1 h2
        obtain ⟨sa', cs', ap', cp', rfl, _⟩ := h2.parts (d := Dk.zero) (k := 0) (p := 0) (left := 0) (st := false) rfl rfl rfl rfl
        exact ⟨sa', cs', ap', cp', h1, h3⟩)
      have HSy := Lib.hid (show ∀ W, Below w.heap.size w W → Calls Try.prog 23 #[.agg #[.slice sa k cs, .slice ap p cp, .int .i64 left, .bool true]] W fun e w' => ∃ (sa' : Option Addr) (cs' : Nat) (ap' : Option Addr) (cp' : Nat), e = .returned (.tuple #[.agg #[.slice sa' 0 cs', .slice ap' 0 cp', .int .i64 0, .bool false], .int .i64 40]) ∧ Below W.heap.size W w' from fun W hW => by
        refine (sync_any W D _ (hDat W hW)).mono fun e w' ⟨u, h1, h2, h3⟩ => ?_
        have hz : D.sync = (Dk.zero, 40) := by unfold Dk.sync; rw [hrun]; rfl
        rw [hz] at h1 h2
        obtain ⟨sa', cs', ap', cp', rfl, _⟩ := h2.parts (d := Dk.zero) (k := 0) (p := 0) (left := 0) (st := false) rfl rfl rfl rfl
        exact ⟨sa', cs', ap', cp', h1, h3⟩)
      have HSt := Lib.hid (show ∀ W, Below w.heap.size w W → Calls Try.prog 25 #[.agg #[.slice sa k cs, .slice ap p cp, .int .i64 left, .bool true], .int .i64 l] W fun e w' => ∃ (sa' : Option Addr) (cs' : Nat) (ap' : Option Addr) (cp' : Nat), e = .returned (.tuple #[.agg #[.slice sa' 0 cs', .slice ap' 0 cp', .int .i64 0, .bool false], .int .i64 40]) ∧ Below W.heap.size W w' from fun W hW => by
        refine (stop_any W D _ l (hDat W hW) hl).mono fun e w' ⟨u, h1, h2, h3⟩ => ?_
        have hz : D.halt l = (Dk.zero, 40) := by unfold Dk.halt; rw [hrun]; rfl
        rw [hz] at h1 h2
        obtain ⟨sa', cs', ap', cp', rfl, _⟩ := h2.parts (d := Dk.zero) (k := 0) (p := 0) (left := 0) (st := false) rfl rfl rfl rfl
        exact ⟨sa', cs', ap', cp', h1, h3⟩)
      clear hwS hBW hAS hzs hD hrun hDat HBR HXr HA58 HA8 HS8 HT8 HZ8 HZ81 HX8 HK8 HK7 HZ57 HS7 HS5 HU4 HZ5 HZ7
      go_wp2_with fail
      rw [← HWS.out]
      refine (HR.out _ HBS.out).mono ?_
      rintro e wA ⟨uA, rfl, hBA⟩
      have HBA := Lib.hid (HBS.out.trans (hBA.mono HBS.out.size))
      have HAA := Lib.hid (HAS.out.below hBA HZS.out)
      have HZA := Lib.hid (Nat.lt_of_lt_of_le HZS.out hBA.size)
      clear hBA r0 r1 r2 r3 x0 x1 x2 x3 e0 e1 e2 e3
      obtain ⟨e0, e1, e2, e3⟩ := HAA.out.four
      go_wp2_with fail
      refine (HWr.out _ HBA.out).mono ?_
      rintro e wE ⟨sE, cE, pE, qE, rfl, hBE⟩
      obtain ⟨wEx, hwE, hAE, hBEx, hzE, -⟩ := boxed wE (.slice sE 0 cE) (.slice pE 0 qE) (.int .i64 0) (.bool false)
      have HWE := Lib.hid hwE
      have hbE := hBE.trans (hBEx.mono hBE.size)
      have HBE := Lib.hid (HBA.out.trans (hbE.mono HBA.out.size))
      have HAE := Lib.hid (HAA.out.below hbE HZA.out)
      have HZE := Lib.hid (Nat.lt_of_lt_of_le HZA.out hbE.size)
      clear hBE hwE hAE hBEx hzE hbE e0 e1 e2 e3
      obtain ⟨e0, e1, e2, e3⟩ := HAE.out.four
      rw [HWE.out] at e0 e1 e2 e3
      go_wp2_with fail
      rw [← HWE.out]
      refine (HSy.out _ HBE.out).mono ?_
      rintro e wF ⟨sF, cF, pF, qF, rfl, hBF⟩
      obtain ⟨wFx, hwF, hAF, hBFx, hzF, -⟩ := boxed wF (.slice sF 0 cF) (.slice pF 0 qF) (.int .i64 0) (.bool false)
      have HWF := Lib.hid hwF
      have hbF := hBF.trans (hBFx.mono hBF.size)
      have HBF := Lib.hid (HBE.out.trans (hbF.mono HBE.out.size))
      have HAF := Lib.hid (HAE.out.below hbF HZE.out)
      have HZF := Lib.hid (Nat.lt_of_lt_of_le HZE.out hbF.size)
      clear hBF hwF hAF hBFx hzF hbF e0 e1 e2 e3
      obtain ⟨e0, e1, e2, e3⟩ := HAF.out.four
      rw [HWF.out] at e0 e1 e2 e3
      go_wp2_with fail
      rw [← HWF.out]
      refine (HSt.out _ HBF.out).mono ?_
      rintro e wG ⟨sG, cG, pG, qG, rfl, hBG⟩
      obtain ⟨wGx, hwG, hAG, hBGx, hzG, -⟩ := boxed wG (.slice sG 0 cG) (.slice pG 0 qG) (.int .i64 0) (.bool false)
      have HWG := Lib.hid hwG
      have hbG := hBG.trans (hBGx.mono hBG.size)
      have HBG := Lib.hid (HBF.out.trans (hbG.mono HBF.out.size))
      have HAG := Lib.hid (HAF.out.below hbG HZF.out)
      have HZG := Lib.hid (Nat.lt_of_lt_of_le HZF.out hbG.size)
      clear hBG hwG hAG hBGx hzG hbG e0 e1 e2 e3
      obtain ⟨e0, e1, e2, e3⟩ := HAG.out.four
      rw [HWG.out] at e0 e1 e2 e3
      go_wp2
      rw [← HWG.out]
      go_ret
      exact ⟨rfl, HBG.out⟩

set_option maxRecDepth 100000 in
theorem stopped_lifted (os : Os) (started : os.Started) (H : Type) (enc : TypeId × Value → H) :
    ReturnsInHanded {} Try.checked os 9 .any (Rows.diskStoppedSpec.pre6 enc Try.prog Try.f9 Rows.diskStoppedRow.domain false) (Rows.diskStoppedSpec.post enc Try.prog Try.f9 false true false false) := by
  refine returnsInHanded_of_change (C := Try.checked) Try.own started (by kernel_rfl) Try.func9
    (ChangeSpec.witness6 (enc := enc) (C := Try.checked) false ⟨#[], #[.agg #[.slice none 0 0, .slice none 0 0, .int .i64 0, .bool false], .int .i64 0, .int .i64 0, .slice none 0 0], []⟩ 8 (by kernel_rfl) (by kernel_rfl) (by kernel_rfl) (by kernel_rfl)) ?_
  intro W base args ds gs before hval0 hW _ _
  have hval : ∀ (j : Nat) t v, Try.f9.params[j]? = some t → args[j]? = some v → Value.okWide Try.prog W .any base t v := hval0
  have hW' := hW
  obtain ⟨p, q, hA0, hV, rfl, _, _⟩ := hW
  have hA : DataW.TrodAll enc Try.prog W 0 (fun _ => true) true Try.f9.params.toList args.toList ds p := hA0
  rw [Try.params9] at hA hval
  obtain ⟨v0, v1, v2, v3, d0, d1, d2, d3, p0, p1, p2, p3, rfl, rfl, rfl, h0, h1, h2, h3⟩ := trodAll_four hA
  obtain ⟨rfl, rfl⟩ := trodVars_none hV
  obtain ⟨x, hx⟩ := open_disk (hval 0 25 v0 rfl rfl) h0
  obtain ⟨n, rfl, rfl, rfl, wn⟩ := open_int Try.underlying3 (hval 1 3 v1 rfl rfl) h1
  obtain ⟨l, rfl, rfl, rfl, wl⟩ := open_int Try.underlying3 (hval 2 3 v2 rfl rfl) h2
  obtain ⟨bs, hb⟩ := open_bytes (hval 3 35 v3 rfl rfl) h3
  clear hA0 hval0
  simp only [List.append_nil] at hW'
  have hlt : ∀ x ∈ p0 ++ p3, x.block < W.heap.size := fun x hx => by simpa using hW'.lt x hx
  refine (lawStopped W x v0 v3 n l bs hx hb (wf64 wn) (wf64 wl)).mono fun e W' ⟨he, hnx⟩ => ?_
  subst he
  exact ⟨_, rfl, _, _, _, [], _, [], hW', trodAll_mk1 (shut_bool Try.underlying4 _), trodAll_mk4 (Below.trod Try.laidOut (by kernel_rfl) (of_decide_eq_true (by kernel_rfl)) h0 hnx fun x hx => hlt x (List.mem_append.2 (.inl hx)))
    (shut_int Try.underlying3 wn) (shut_int Try.underlying3 wl)
    (Below.trod Try.laidOut (by kernel_rfl) (of_decide_eq_true (by kernel_rfl)) h3 hnx fun x hx => hlt x (List.mem_append.2 (.inr hx))), rfl, hnx.frame _, fun h => by cases h⟩

/-- DiskStopped holds. -/
theorem diskStopped_holds : Rows.DiskStoppedSaid :=
  OpenClaim.holds_of_wide 9 Try.f9 rfl rfl rfl rfl rfl rfl rfl ⟨rfl, rfl, rfl, rfl, rfl⟩ rfl rfl rfl rfl rfl (by kernel_rfl) Try.func9 (by kernel_rfl)
    (of_decide_eq_true (by kernel_rfl)) (by unfold Func.isWrapper; first | (rw [if_pos (by decide +kernel)]; kernel_rfl) | (rw [if_neg (by decide +kernel)]; exact ⟨rfl, rfl⟩))
    (fun os started H enc _ => stopped_lifted os started H enc)

end Go.Proofs.Ytmklchjgiaomkaa
