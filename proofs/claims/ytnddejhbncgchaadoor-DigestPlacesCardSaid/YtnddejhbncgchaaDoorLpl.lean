/- The law DigestPlaces, walked. -/
import Derived.Test.YtnddejhbncgchaaDoorStp
namespace Go.Proofs.YtnddejhbncgchaaDoor
open Go.RowKit


set_option maxRecDepth 100000 in
set_option maxHeartbeats 2000000 in
theorem lawPlaces_no (w : World) (v : Value) (b : List UInt8) (i n : Int) (hv : BytesAt w w.heap.size v b) (hi : i < 0 ∨ ((dsOf b).length : Int) ≤ i) (hT : Tab w) (h0 : 0 < w.heap.size) :
    Calls Tryd.prog 9 #[v, .int .i64 i, .int .i64 n] w fun e w' => e = .returned (.bool true) ∧ Below w.heap.size w w' := by
  have hv' := hv
  obtain ⟨a, cap, rfl, hnc, hcm, _⟩ := hv'
  have HV := Lib.hid hv
  have HT := Lib.hid hT
  have HSN := Lib.hid (sane_any w hT h0)
  have hlen := dsOf_len b
  obtain ⟨q, hq⟩ : ∃ q, (dsOf b).length = q := ⟨_, rfl⟩
  rw [hq] at hi hlen
  have HQ := Lib.hid hq
  have HI := Lib.hid hi
  have hq24 : q ≤ 24 := by omega
  clear hv hT hq hi hlen
  go_enter Tryd.func9, Tryd.ntmps9
  go_wp2_with fail
  refine HSN.out.mono ?_
  rintro e w0 ⟨rfl, hB0⟩
  have HB0 := Lib.hid hB0
  clear hB0
  go_wp2_with fail
  refine (digestsOf_any w0 _ b (bytesAt_any HV.out HB0.out)).mono ?_
  rintro e w1 ⟨u, rfl, hD1, hB1⟩
  obtain ⟨_, a1, cap1, rfl, _, _, _⟩ := hD1
  rw [HQ.out]
  have HB1 := Lib.hid (HB0.out.trans (hB1.mono HB0.out.size))
  clear hB1
  go_wp2_with fail
  refine (path_bad w1 a1 q cap1 i HI.out (by omega)).mono ?_
  rintro e w2 ⟨rfl, hB2⟩
  have HB2 := Lib.hid (HB1.out.trans (hB2.mono HB1.out.size))
  clear hB2
  rcases HI.out with h | h
  · have d1 : decide (i < 0) = true := by simpa using h
    go_wp2
    go_ret
    exact ⟨rfl, HB2.out⟩
  · have d1 : decide (i < 0) = false := by simp; omega
    have d2 : decide ((q : Int) ≤ i) = true := by simpa using h
    go_wp2
    go_ret
    exact ⟨rfl, HB2.out⟩

set_option maxRecDepth 100000 in
set_option maxHeartbeats 4000000 in
theorem lawPlaces_yes (w : World) (v : Value) (b : List UInt8) (i : Nat) (n : Int) (hv : BytesAt w w.heap.size v b) (hi : i < (dsOf b).length) (hT : Tab w) (h0 : 0 < w.heap.size) :
    Calls Tryd.prog 9 #[v, .int .i64 i, .int .i64 n] w fun e w' => e = .returned (.bool true) ∧ Below w.heap.size w w' := by
  have hv' := hv
  obtain ⟨a, cap, rfl, hnc, hcm, _⟩ := hv'
  have HV := Lib.hid hv
  have HT := Lib.hid hT
  have HSN := Lib.hid (sane_any w hT h0)
  have hlen := dsOf_len b
  obtain ⟨q, hq⟩ : ∃ q, (dsOf b).length = q := ⟨_, rfl⟩
  rw [hq] at hi hlen
  have HQ := Lib.hid hq
  have hq24 : q ≤ 24 := by omega
  clear hv hT hq hlen
  go_enter Tryd.func9, Tryd.ntmps9
  go_wp2_with fail
  refine HSN.out.mono ?_
  rintro e w0 ⟨rfl, hB0⟩
  have HB0 := Lib.hid hB0
  clear hB0
  go_wp2_with fail
  refine (digestsOf_any w0 _ b (bytesAt_any HV.out HB0.out)).mono ?_
  rintro e w1 ⟨u, rfl, hD1, hB1⟩
  have HD1 := Lib.hid hD1
  obtain ⟨h32, a1, cap1, rfl, hcap1, hcm1, h4⟩ := hD1
  rw [HQ.out] at hcap1
  have HH32 := Lib.hid h32
  have HH4 := Lib.hid h4
  have HB1 := Lib.hid (HB0.out.trans (hB1.mono HB0.out.size))
  have hT1 := HT.out.below HB1.out h0
  have hp := path_any w1 (dsOf b) _ i (by rw [HQ.out]; exact hi) (by rw [HQ.out]; omega) HD1.out hT1 (by have := HB1.out.size; omega)
  have hpl := pth_len _ (dsOf b) i rfl (by rw [HQ.out]; omega)
  have hp32 := pth_32 _ (dsOf b) i rfl (by rw [HQ.out]; omega)
  obtain ⟨p, hpe⟩ : ∃ p, pth (dsOf b) i = p := ⟨_, rfl⟩
  rw [hpe] at hp hpl hp32
  rw [HQ.out] at hp hpl
  obtain ⟨m, hm⟩ : ∃ m, p.length = m := ⟨_, rfl⟩
  rw [hm] at hp hpl
  have hm5 : m ≤ 24 := by have := psteps_le i q (by omega); omega
  have HP := Lib.hid hp
  have HPL := Lib.hid hpl
  have HP32 := Lib.hid hp32
  have HM := Lib.hid hm
  rw [HQ.out]
  have hst := steps_any i q (by omega) (by omega) hi
  rw [← hpl] at hst
  have HST := Lib.hid hst
  clear hB1 h32 h4 hp hpl hp32 hm hpe hT1 hst
  go_wp2_with fail
  refine HP.out.mono ?_
  rintro e w2 ⟨pv, rfl, hO2, hB2⟩
  have HO2 := Lib.hid hO2
  have HB12 := Lib.hid hB2
  have HB2 := Lib.hid (HB1.out.trans (hB2.mono HB1.out.size))
  clear hO2 hB2
  obtain ⟨ap, cp, rfl⟩ : ∃ ap cp, pv = .slice ap m cp := by
    rcases HO2.out.2 with ⟨h, h'⟩ | ⟨g, c, _, h, _⟩
    · exact ⟨none, 0, by rw [h, h']⟩
    · exact ⟨_, c, h⟩
  have d1 : decide ((i : Int) < 0) = false := by simp
  have d2 : decide (q ≤ i) = false := by simpa using hi
  have d3 : ¬ q ≤ i := by omega
  go_wp2_with (first | (go_at_call 24; refine (HST.out _).mono ?_; rintro e w' ⟨rfl, hw'⟩; rw [hw']; clear hw' w'))
  refine code_world (fun W => Below w2.heap.size w2 W ∧ w2.heap.size < W.heap.size ∧ ∀ j, j < 4 → ∃ c : Int, W.cell? ⟨w2.heap.size, j, none⟩ = some (.int .i64 c)) ⟨by go_grown, by simp, ?_⟩ ?_
  · intro j hj
    match j, hj with
    | 0, _ => exact ⟨_, by rw [World.cell?_alloc_new]; rfl⟩
    | 1, _ => exact ⟨_, by rw [World.cell?_alloc_new]; rfl⟩
    | 2, _ => exact ⟨_, by rw [World.cell?_alloc_new]; rfl⟩
    | 3, _ => exact ⟨_, by rw [World.cell?_alloc_new]; rfl⟩
  rintro W3 ⟨hB3, hz3, hc3⟩
  have HC3 := Lib.hid hc3
  have HB3 := Lib.hid hB3
  clear hB3 hc3
  go_loopw [62] (fun j W => ∃ t : Nat, j = .int .i64 t ∧ t ≤ 4 ∧ Below W3.heap.size W3 W) (fun j _ => 4 - (intOf j).toNat)
  case atStart => exact ⟨0, rfl, by omega, Below.refl _ _⟩
  case round =>
    obtain ⟨t, rfl, ht, hB⟩ := hrel
    have hb2 : Below w2.heap.size w2 wr := HB3.out.trans (hB.mono HB3.out.size)
    have hbw : Below w.heap.size w wr := HB2.out.trans (hb2.mono HB2.out.size)
    by_cases hlt : t < 4
    · obtain ⟨c, hc⟩ := HC3.out t hlt
      have hcc : wr.cell? ⟨w2.heap.size, t, none⟩ = some (.int .i64 c) := (hB.cell (p := ⟨w2.heap.size, t, none⟩) hz3).trans hc
      have dt : decide ((t : Int) < 4) = true := by simp; omega
      have hne : dsOf b ≠ [] := fun e => by have := HQ.out; rw [e] at this; simp at this; omega
      rcases HH4.out with h4 | ⟨db, off, rfl, hdb, hr⟩
      · exact absurd h4 hne
      have hd : ((dsOf b)[i]'(by rw [HQ.out]; exact hi)).length = 32 := HH32.out _ (List.getElem_mem _)
      have hri := hr i (by rw [HQ.out]; exact hi)
      obtain ⟨d, hde⟩ : ∃ d, (dsOf b)[i]'(by rw [HQ.out]; exact hi) = d := ⟨_, rfl⟩
      rw [hde] at hd hri
      have hb1 : Below w1.heap.size w1 wr := HB12.out.trans (hb2.mono HB12.out.size)
      have hrw : wr.rangeAt db (off + i * 32) (cells8 d) := fun j v hv => (hb1.cell (p := ⟨db, off + i * 32 + j, none⟩) hdb).trans (hri j v hv)
      have hDp : Digs wr wr.heap.size (.slice ap m cp) p := (own_digs' HO2.out HM.out HP32.out).below hb2 |>.mono hb2.size
      have hTw := HT.out.below hbw h0
      have h0w : 0 < wr.heap.size := by have := hbw.size; omega
      obtain ⟨cd, hcd⟩ : ∃ cd, cells8 d = cd := ⟨_, rfl⟩
      have hzd : (Tryd.prog.info? 26).map (·.size) = some cd.length := by rw [← hcd, cells8_len, hd]; exact Tryd.info26
      have f1 : (i : Int) < (q : Int) := by omega
      have f2 : (0 : Int) ≤ (i : Int) := by omega
      by_cases hfit : ((i : Int) < c ∧ c ≤ 1099511627776)
      · obtain ⟨hx1, hx2⟩ := hfit
        obtain ⟨N, rfl⟩ : ∃ N : Nat, c = (N : Int) := ⟨c.toNat, by omega⟩
        have hsN := steps_any i N (by omega) (by omega) (by omega)
        by_cases hpm : psteps i N = m
        · have hcl := Climb_any wr d hd i N (by omega) (by omega) (by omega) p (by rw [HM.out]; exact hpm.symm) (by rw [HM.out]; omega) _ hDp hTw h0w
          rw [dv_eq d, hcd, dv_eq] at hcl
          have hl2 : (cells8 (clm d i N p)).length = 32 := by rw [cells8_len, clm_len]
          have ho2 := one_cells8 (clm d i N p)
          obtain ⟨cs, hcs⟩ : ∃ cs, cells8 (clm d i N p) = cs := ⟨_, rfl⟩
          rw [hcs] at hcl hl2 ho2
          rw [hpm] at hsN
          have HSN2 := Lib.hid hsN
          have HCL := Lib.hid hcl
          have HZD := Lib.hid hzd
          have HRW := Lib.hid hrw
          rw [hcd] at HRW
          have HZ2 : Hid ((Tryd.prog.info? 26).map (·.size) = some cs.length) := by show _ = _; rw [hl2]; exact Tryd.info26
          have HL2 := Lib.hid hl2
          have HO3 := Lib.hid ho2
          have HBW := Lib.hid hB
          have g1 : decide (i < N) = true := by simp; omega
          have g2 : decide ((N : Int) ≤ 1099511627776) = true := by simp; omega
          clear hsN hcl hzd hrw hl2 ho2 hB hb2 hbw hc hne hr hri hde hb1 hDp hTw hcd hcs hpm
          go_wp2_with (first
            | (go_at_call 24; refine (HSN2.out _).mono ?_; rintro e w' ⟨rfl, hw'⟩; rw [hw']; clear hw' w')
            | (refine wpList_load_mid rfl 26 (.tmp 84) (by rfl) db (off + i * 32) (by rfl) _ _ HRW.out Tryd.underlying26 rfl HZD.out ?_)
            | (go_at_call 22; refine HCL.out.mono ?_; rintro e w5 ⟨rfl, hB5⟩; have HB5 := Lib.hid hB5; clear hB5)
            | (refine store_new rfl 26 _ _ (by rfl) w5.heap.size w5.heap.size cs _ (by rfl) (by rfl) ((Below.refl w5.heap.size w5).alloc (Nat.le_refl _) _) (Nat.le_refl _) (Arr.new w5 _ 26) (by rw [HL2.out]; rfl) HZ2.out HO3.out ?_; intro W6 hB6 hA6 hz6; have HB6 := Lib.hid hB6; clear hB6 hA6 hz6))
          go_roundw
          case rel => exact ⟨t + 1, by simp, by omega, HBW.out.trans ((HB5.out.trans (HB6.out.mono HB5.out.size)).mono HBW.out.size)⟩
          case measure => simp [intOf]; omega
        · have hcl := climb_bad wr d hd i N m cp ap (by omega) (by omega) (by omega) (fun e => hpm e.symm) (by omega)
          rw [dv_eq d, hcd, dv_eq] at hcl
          have hl2 : (cells8 z32).length = 32 := by rw [cells8_len, z32_len]
          have ho2 := one_cells8 z32
          obtain ⟨cs, hcs⟩ : ∃ cs, cells8 z32 = cs := ⟨_, rfl⟩
          rw [hcs] at hcl hl2 ho2
          obtain ⟨r, hr'⟩ : ∃ r, psteps i N = r := ⟨_, rfl⟩
          rw [hr'] at hsN hpm
          have g3 : ((r : Int) == (m : Int)) = false := by simp; omega
          have g4 : decide ((r : Int) = (m : Int)) = false := by simp; omega
          have HSN2 := Lib.hid hsN
          have HCL := Lib.hid hcl
          have HZD := Lib.hid hzd
          have HRW := Lib.hid hrw
          rw [hcd] at HRW
          have HZ2 : Hid ((Tryd.prog.info? 26).map (·.size) = some cs.length) := by show _ = _; rw [hl2]; exact Tryd.info26
          have HL2 := Lib.hid hl2
          have HO3 := Lib.hid ho2
          have HBW := Lib.hid hB
          have g1 : decide (i < N) = true := by simp; omega
          have g2 : decide ((N : Int) ≤ 1099511627776) = true := by simp; omega
          clear hsN hcl hzd hrw hl2 ho2 hB hb2 hbw hc hne hr hri hde hb1 hDp hTw hcd hcs hpm hr'
          go_wp2_with (first
            | (go_at_call 24; refine (HSN2.out _).mono ?_; rintro e w' ⟨rfl, hw'⟩; rw [hw']; clear hw' w')
            | (refine wpList_load_mid rfl 26 (.tmp 84) (by rfl) db (off + i * 32) (by rfl) _ _ HRW.out Tryd.underlying26 rfl HZD.out ?_)
            | (go_at_call 22; refine HCL.out.mono ?_; rintro e w5 ⟨rfl, hB5⟩; have HB5 := Lib.hid hB5; clear hB5)
            | (refine store_new rfl 26 _ _ (by rfl) w5.heap.size w5.heap.size cs _ (by rfl) (by rfl) ((Below.refl w5.heap.size w5).alloc (Nat.le_refl _) _) (Nat.le_refl _) (Arr.new w5 _ 26) (by rw [HL2.out]; rfl) HZ2.out HO3.out ?_; intro W6 hB6 hA6 hz6; have HB6 := Lib.hid hB6; clear hB6 hA6 hz6))
          go_roundw
          case rel => exact ⟨t + 1, by simp, by omega, HBW.out.trans ((HB5.out.trans (HB6.out.mono HB5.out.size)).mono HBW.out.size)⟩
          case measure => simp [intOf]; omega
      · have hcl := climb_no wr d hd i c m cp ap (by omega) (by omega)
        rw [dv_eq d, hcd, dv_eq] at hcl
        have hl2 : (cells8 z32).length = 32 := by rw [cells8_len, z32_len]
        have ho2 := one_cells8 z32
        obtain ⟨cs, hcs⟩ : ∃ cs, cells8 z32 = cs := ⟨_, rfl⟩
        rw [hcs] at hcl hl2 ho2
        have HCL := Lib.hid hcl
        have HZD := Lib.hid hzd
        have HRW := Lib.hid hrw
        rw [hcd] at HRW
        have HZ2 : Hid ((Tryd.prog.info? 26).map (·.size) = some cs.length) := by show _ = _; rw [hl2]; exact Tryd.info26
        have HL2 := Lib.hid hl2
        have HO3 := Lib.hid ho2
        have HBW := Lib.hid hB
        have HFIT := Lib.hid hfit
        clear hcl hzd hrw hl2 ho2 hB hb2 hbw hc hne hr hri hde hb1 hDp hTw hcd hcs hfit
        by_cases hx1 : (i : Int) < c
        · have hx2 : ¬ c ≤ 1099511627776 := fun h => HFIT.out ⟨hx1, h⟩
          have g1 : decide ((i : Int) < c) = true := by simpa using hx1
          have g2 : decide (c ≤ 1099511627776) = false := by simp; omega
          go_wp2_with (first
            | (go_at_call 24; refine (HSN2.out _).mono ?_; rintro e w' ⟨rfl, hw'⟩; rw [hw']; clear hw' w')
            | (refine wpList_load_mid rfl 26 (.tmp 84) (by rfl) db (off + i * 32) (by rfl) _ _ HRW.out Tryd.underlying26 rfl HZD.out ?_)
            | (go_at_call 22; refine HCL.out.mono ?_; rintro e w5 ⟨rfl, hB5⟩; have HB5 := Lib.hid hB5; clear hB5)
            | (refine store_new rfl 26 _ _ (by rfl) w5.heap.size w5.heap.size cs _ (by rfl) (by rfl) ((Below.refl w5.heap.size w5).alloc (Nat.le_refl _) _) (Nat.le_refl _) (Arr.new w5 _ 26) (by rw [HL2.out]; rfl) HZ2.out HO3.out ?_; intro W6 hB6 hA6 hz6; have HB6 := Lib.hid hB6; clear hB6 hA6 hz6))
          go_roundw
          case rel => exact ⟨t + 1, by simp, by omega, HBW.out.trans ((HB5.out.trans (HB6.out.mono HB5.out.size)).mono HBW.out.size)⟩
          case measure => simp [intOf]; omega
        · have g1 : decide ((i : Int) < c) = false := by simp; omega
          go_wp2_with (first
            | (go_at_call 24; refine (HSN2.out _).mono ?_; rintro e w' ⟨rfl, hw'⟩; rw [hw']; clear hw' w')
            | (refine wpList_load_mid rfl 26 (.tmp 84) (by rfl) db (off + i * 32) (by rfl) _ _ HRW.out Tryd.underlying26 rfl HZD.out ?_)
            | (go_at_call 22; refine HCL.out.mono ?_; rintro e w5 ⟨rfl, hB5⟩; have HB5 := Lib.hid hB5; clear hB5)
            | (refine store_new rfl 26 _ _ (by rfl) w5.heap.size w5.heap.size cs _ (by rfl) (by rfl) ((Below.refl w5.heap.size w5).alloc (Nat.le_refl _) _) (Nat.le_refl _) (Arr.new w5 _ 26) (by rw [HL2.out]; rfl) HZ2.out HO3.out ?_; intro W6 hB6 hA6 hz6; have HB6 := Lib.hid hB6; clear hB6 hA6 hz6))
          go_roundw
          case rel => exact ⟨t + 1, by simp, by omega, HBW.out.trans ((HB5.out.trans (HB6.out.mono HB5.out.size)).mono HBW.out.size)⟩
          case measure => simp [intOf]; omega
    · obtain rfl : t = 4 := by omega
      have HBW := Lib.hid hbw
      clear hB hb2 hbw
      go_wp2
      go_ret
      exact ⟨rfl, HBW.out⟩

theorem lawPlaces (w : World) (v : Value) (b : List UInt8) (hv : BytesAt w w.heap.size v b) (i n : Int) (_hi : (Lit.int IntKind.i64 i).wf = true) (_hn : (Lit.int IntKind.i64 n).wf = true) (hT : Tab w) (h0 : 0 < w.heap.size) :
    Calls Tryd.prog 9 #[v, .int .i64 i, .int .i64 n] w fun e w' => e = .returned (.bool true) ∧ Below w.heap.size w w' := by
  by_cases h : i < 0 ∨ ((dsOf b).length : Int) ≤ i
  · exact lawPlaces_no w v b i n hv h hT h0
  · obtain ⟨j, rfl⟩ : ∃ j : Nat, i = (j : Int) := ⟨i.toNat, by omega⟩
    exact lawPlaces_yes w v b j n hv (by omega) hT h0
end Go.Proofs.YtnddejhbncgchaaDoor
