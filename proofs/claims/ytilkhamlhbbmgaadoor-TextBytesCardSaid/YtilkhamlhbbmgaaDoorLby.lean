/- The law TextBytes, walked. -/
import Derived.Test.YtilkhamlhbbmgaaDoorByt
namespace Go.Proofs.YtilkhamlhbbmgaaDoor
open Go.RowKit

set_option maxRecDepth 100000 in
set_option maxHeartbeats 8000000 in
theorem bytes_no (w : World) (r : Int) (i b : Int) (hT : UTab w) (hok : okPt r = false) : Calls Tryd.prog 6 #[.int .i64 r, .int .u8 i, .int .u8 b] w fun e w' => e = .returned (.bool true) ∧ Below w.heap.size w w' := by
  have HSN := Lib.hid (sane_any w hT)
  obtain ⟨hj1, hj2⟩ := (jn_one r).2 hok
  have HJ := Lib.hid (fun (W : World) => (show Calls Tryd.prog 19 #[.slice (some ⟨W.heap.size, 0, none⟩) 1 1] (W.alloc (.cells #[.int .i64 r] 3)) (fun e w' => e = .returned (.tuple #[.string ⟨#[]⟩, .int .i64 90]) ∧ Below W.heap.size W w') by
    have h := join_any (W.alloc (.cells #[.int .i64 r] 3)) (.slice (some ⟨W.heap.size, 0, none⟩) 1 1) [r] ((irow_made W [r] 1 rfl (by unfold maxLen; omega)).here (by simp)) (by simp)
    rw [hj1, hj2] at h
    exact h.mono fun e w' ⟨he, hb⟩ => ⟨he, (below_alloc W _).trans (hb.mono (below_alloc W _).size)⟩))
  have HK := Lib.hid (fun W => kind_any W r)
  rw [show kindE r = 90 by unfold kindE; rw [hok]; rfl] at HK
  obtain ⟨kv, hkv⟩ : ∃ z, kindV r = z := ⟨_, rfl⟩
  rw [hkv] at HK
  clear hj1 hj2 hok hkv hT
  go_enter Tryd.func6, Tryd.ntmps6
  go_wp2_with fail
  (with_reducible refine (HSN.out).mono ?_)
  rintro e w1 ⟨rfl, hb⟩
  have HB1 := Lib.hid hb
  clear hb
  go_wp2_with fail
  (with_reducible refine (HJ.out w1).mono ?_)
  rintro e w2 ⟨rfl, hb⟩
  have HB2 := Lib.hid (HB1.out.trans (hb.mono HB1.out.size))
  clear hb
  go_wp2_with fail
  (with_reducible refine (HK.out w2).mono ?_)
  rintro e w3 ⟨rfl, hb⟩
  have HB3 := Lib.hid (HB2.out.trans (hb.mono HB2.out.size))
  clear hb
  go_wp2
  go_ret
  exact ⟨rfl, HB3.out⟩

set_option maxRecDepth 100000 in
set_option maxHeartbeats 8000000 in
theorem bytes_yes (w : World) (r : Int) (i b : UInt8) (hT : UTab w) (hok : okPt r = true) : Calls Tryd.prog 6 #[.int .i64 r, .int .u8 (i.toNat : Int), .int .u8 (b.toNat : Int)] w fun e w' => e = .returned (.bool true) ∧ Below w.heap.size w w' := by
  have HSN := Lib.hid (sane_any w hT)
  obtain ⟨hj1, hj2⟩ := (jn_one r).1 hok
  obtain ⟨s, hs⟩ : ∃ s, str (enc r) = s := ⟨_, rfl⟩
  rw [show jnS [r] = enc r from hj2] at hj2
  have hj2 : str (jnS [r]) = s := by rw [(jn_one r).1 hok |>.2]; exact hs
  have HJ := Lib.hid (fun (W : World) => (show Calls Tryd.prog 19 #[.slice (some ⟨W.heap.size, 0, none⟩) 1 1] (W.alloc (.cells #[.int .i64 r] 3)) (fun e w' => e = .returned (.tuple #[.string s, .int .i64 0]) ∧ Below W.heap.size W w') by
    have h := join_any (W.alloc (.cells #[.int .i64 r] 3)) (.slice (some ⟨W.heap.size, 0, none⟩) 1 1) [r] ((irow_made W [r] 1 rfl (by unfold maxLen; omega)).here (by simp)) (by simp)
    rw [hj1, hj2] at h
    exact h.mono fun e w' ⟨he, hb⟩ => ⟨he, (below_alloc W _).trans (hb.mono (below_alloc W _).size)⟩))
  have HK := Lib.hid (fun W => kind_any W r)
  rw [show kindE r = 0 by unfold kindE; rw [hok]; rfl] at HK
  obtain ⟨kv, hkv⟩ : ∃ z, kindV r = z := ⟨_, rfl⟩
  rw [hkv] at HK
  have hsz := str_size (enc r)
  rw [hs] at hsz
  obtain ⟨n, hn⟩ : ∃ n, (enc r).length = n := ⟨_, rfl⟩
  have hn14 : 1 ≤ n ∧ n ≤ 4 := by rw [← hn]; exact enc_len r
  obtain ⟨hn1, hn4⟩ := hn14
  have hcn : cnt r 3 = n := by rw [cnt_enc hok, hn]
  rw [hn] at hsz
  have hi8 := i.toNat_lt
  obtain ⟨j, hj⟩ : ∃ j, i.toNat % n = j := ⟨_, rfl⟩
  have hjn : j < n := by rw [← hj]; exact Nat.mod_lt _ (by omega)
  have hrem : ((i.toNat : Int)).tmod (n : Int) = (j : Int) := by rw [← hj]; rfl
  have hjl : j < (enc r).length := by omega
  obtain ⟨x, hx1, hx2⟩ := xor_u8 ((enc r)[j]) b
  obtain ⟨a, ha⟩ : ∃ a, (enc r)[j] = a := ⟨_, rfl⟩
  obtain ⟨ys, hys⟩ : ∃ ys, (enc r).set j x = ys := ⟨_, rfl⟩
  have hyl : ys.length = n := by rw [← hys, List.length_set]; exact hn
  have HCV := Lib.hid (fun W => conv_row W s (enc r) hs)
  have HC2 := Lib.hid (fun (W : World) (g cap : Nat) (h : Arr W g ((cells8 (enc r)).set j (.int .u8 (x.toNat : Int)))) => (by
    rw [cells8_set, hys] at h
    exact conv_arr h n cap hyl : (convert 39 9 (.slice (some ⟨g, 0, none⟩) n cap)).run Tryd.prog W = .ok (.string (str ys)) W))
  have hca : (cells8 (enc r))[j]? = some (.int .u8 (a.toNat : Int)) := by simp [cells8, hjl, ha]
  have hcl : j < (cells8 (enc r)).length := by rw [cells8_len]; exact hjl
  have HRU := Lib.hid (fun W (hW : Below w.heap.size w W) => runes_any W ys (hT.below hW))
  obtain ⟨hc1, hc2⟩ := changed hok j hjl x
  rw [ha, hys] at hc1 hc2
  rw [ha] at hx1 hx2
  rw [hn] at HCV
  obtain ⟨C, hC⟩ : ∃ C, cells8 (enc r) = C := ⟨_, rfl⟩
  rw [hC] at HCV HC2 hca hcl
  have HB0 : b = 0 → rnsE ys = 0 ∧ rnsV ys = [r] := fun h => hc1 (hx2.2 h)
  have HNE : b ≠ 0 → rnsE ys = 0 → rnsV ys ≠ [r] := fun h => hc2 (fun e => h (hx2.1 e))
  have HLZ := Lib.hid (fun (h : rnsE ys = 0) => (by have h1 := rns_ok h; have := (encs_len (rnsV ys)).1; have h4 := congrArg List.length h1.2.2.2; omega : (rnsV ys).length ≤ 4096))
  have HNZ := Lib.hid (fun (hz : rnsE ys ≠ 0) => rns_no hz)
  have hbb : (b = 0) ↔ ((b.toNat : Int) = 0) := ⟨fun h => by rw [h]; rfl, fun h => UInt8.toNat_inj.1 (by simpa using h)⟩
  rw [hbb] at HB0
  have HNE : (b.toNat : Int) ≠ 0 → rnsE ys = 0 → rnsV ys ≠ [r] := fun h => HNE (fun e => h (hbb.1 e))
  have hi1 : (0 : Int) ≤ (i.toNat : Int) := by omega
  have hi2 : (i.toNat : Int) < 256 := by omega
  obtain ⟨iz, hiz⟩ : ∃ z, (i.toNat : Int) = z := ⟨_, rfl⟩
  obtain ⟨bz, hbz⟩ : ∃ z, (b.toNat : Int) = z := ⟨_, rfl⟩
  obtain ⟨xz, hxz⟩ : ∃ z, (x.toNat : Int) = z := ⟨_, rfl⟩
  obtain ⟨az, haz⟩ : ∃ z, (a.toNat : Int) = z := ⟨_, rfl⟩
  obtain ⟨zE, hzE⟩ : ∃ z, rnsE ys = z := ⟨_, rfl⟩
  obtain ⟨l, hl⟩ : ∃ z, rnsV ys = z := ⟨_, rfl⟩
  obtain ⟨sy, hsy⟩ : ∃ z, str ys = z := ⟨_, rfl⟩
  rw [hiz] at hi1 hi2 hrem
  rw [hbz] at hx1 HB0 HNE
  rw [hxz] at hx1
  rw [hxz, hsy] at HC2
  rw [haz] at hx1 hca
  rw [hzE, hl] at HB0 HNE HLZ HNZ
  rw [hsy, hzE, hl] at HRU
  rw [hiz, hbz]
  have hw64 : IntKind.i64.wrap iz = iz := by rw [IntKind.wrap_i64]; omega
  have hn0 : ¬ (n : Int) = 0 := by omega
  clear hj1 hj2 hok hkv hs hn hiz hbz hxz haz hzE hl hsy hC hc1 hc2 hx2 hys hyl ha hjl hj hbb hi8 hT
  go_enter Tryd.func6, Tryd.ntmps6
  go_wp2_with fail
  (with_reducible refine (HSN.out).mono ?_)
  rintro e w1 ⟨rfl, hb⟩
  have HB1 := Lib.hid hb
  clear hb
  go_wp2_with fail
  (with_reducible refine (HJ.out w1).mono ?_)
  rintro e w2 ⟨rfl, hb⟩
  have HB2 := Lib.hid (HB1.out.trans (hb.mono HB1.out.size))
  clear hb
  go_wp2_with fail
  (with_reducible refine (HK.out w2).mono ?_)
  rintro e w3 ⟨rfl, hb⟩
  have HB3 := Lib.hid (HB2.out.trans (hb.mono HB2.out.size))
  clear hb
  have HT := Lib.hid (thr_cell w3)
  have HBA := Lib.hid (below_alloc w3 (.cells #[.int .i64 128, .int .i64 2048, .int .i64 65536] 3))
  go_wp2_with fail
  go_loopw [11, 13, 43] (fun s11 s13 s43 wr => ∃ k : Nat, k ≤ 3 ∧ s43 = .int .i64 k ∧ s11 = .int .i64 (cnt r k : Int) ∧ Hid (Below w3.heap.size w3 wr) ∧ Hid (∀ k, k < 3 → wr.cell? ⟨w3.heap.size, k, none⟩ = some (.int .i64 (thr k)))) (fun _ _ s43 _ => 3 - (intOf s43).toNat)
  case atStart => exact ⟨0, Nat.zero_le _, rfl, rfl, HBA, HT⟩
  case round =>
    obtain ⟨k, hk, rfl, rfl, HBR, HCR⟩ := hrel
    by_cases hlt : k < 3
    · have hc := HCR.out k hlt
      have hcl := cnt_le r k
      have HS : Hid (cnt r (k + 1) = cnt r k + (if thr k ≤ r then 1 else 0)) := Lib.hid rfl
      obtain ⟨q, hq⟩ : ∃ q, cnt r k = q := ⟨_, rfl⟩
      obtain ⟨u, hu⟩ : ∃ u, thr k = u := ⟨_, rfl⟩
      rw [hq] at hcl HS ⊢
      rw [hu] at hc HS
      clear hq hu
      by_cases hd : u ≤ r
      · rw [if_pos hd] at HS
        have d : decide (u ≤ r) = true := decide_eq_true hd
        clear hd
        go_wp2
        go_roundw
        case rel => exact ⟨k + 1, by omega, by go_num, by rw [HS.out]; go_num, HBR, HCR⟩
        case measure => simp [intOf]; omega
      · rw [if_neg hd] at HS
        have d : decide (u ≤ r) = false := decide_eq_false hd
        clear hd
        go_wp2
        go_roundw
        case rel => exact ⟨k + 1, by omega, by go_num, by rw [HS.out]; rfl, HBR, HCR⟩
        case measure => simp [intOf]; omega
    · have hk3 : k = 3 := by omega
      subst hk3
      rw [hcn]
      obtain ⟨cap, w4, hcv, HA4, hsz4, hb4⟩ := HCV.out wr
      have HB4 := Lib.hid (HBR.out.trans (hb4.mono HBR.out.size))
      obtain ⟨g, hg⟩ : ∃ g, wr.heap.size = g := ⟨_, rfl⟩
      have hgs : w3.heap.size ≤ g := by rw [← hg]; exact HBR.out.size
      rw [hg] at hcv HA4
      have hcell := HA4.cell hca
      have hfr := HA4.frozen hcl
      have HA5 := Lib.hid (HA4.set j (.int .u8 xz))
      have hc5 := HC2.out _ g cap HA5.out
      have HB5 : Hid (Below w3.heap.size w3 (w4.setCell ⟨g, j, none⟩ (.int .u8 xz))) := Lib.hid (HB4.out.setCell hgs _)
      have HB6 := Lib.hid (HB3.out.trans (HB5.out.mono HB3.out.size))
      clear HA4 hb4 hg hgs

      go_wp2_with fail
      (with_reducible refine (HRU.out (w4.setCell ⟨g, j, none⟩ (.int .u8 xz)) HB6.out).mono ?_)
      rintro e w7 ⟨v7, rfl, ho, hb⟩
      have Hz_7 := Lib.hid (IRow.of_own ho)
      have HB7 := Lib.hid (HB6.out.trans (hb.mono HB6.out.size))
      clear hb ho
      by_cases hb0 : bz = 0
      · obtain ⟨hz, hv⟩ := HB0 hb0
        subst hb0; subst hz; subst hv
        obtain ⟨a7, c7, e7, hc7, _, h7⟩ := Hz_7.out
        subst e7
        rcases h7 with h7 | ⟨g7, o7, e7, _, h7⟩
        · cases h7
        · subst e7
          have hc8 : w7.cell? ⟨g7, o7, none⟩ = some (.int .i64 r) := h7 0 (by simp)
          go_wp2
          go_ret
          exact ⟨rfl, HB7.out⟩
      · have d0 : (bz == 0) = false := by simpa using hb0
        have HNE := HNE hb0
        clear hb0 HB0
        by_cases hz : zE = 0
        · subst hz
          have hll := HLZ.out rfl
          have HV := Lib.hid (HNE rfl)
          obtain ⟨a7, c7, e7, hc7, _, h7⟩ := Hz_7.out
          subst e7
          by_cases hl1 : l.length = 1
          · obtain ⟨y, rfl⟩ := List.length_eq_one_iff.1 hl1
            have hne : y ≠ r := fun h => HV.out (by rw [h])
            have d1 : (y == r) = false := by simpa using hne
            have d2 : (y != r) = true := by simpa using hne
            rcases h7 with h7 | ⟨g7, o7, e7, _, h7⟩
            · cases h7
            · subst e7
              have hc8 : w7.cell? ⟨g7, o7, none⟩ = some (.int .i64 y) := h7 0 (by simp)
              clear hne hl1
              go_wp2
              go_ret
              exact ⟨by simp, HB7.out⟩
          · obtain ⟨m, hm⟩ : ∃ m, l.length = m := ⟨_, rfl⟩
            rw [hm] at hl1 hll hc7 ⊢
            have d1 : ((m : Int) == 1) = false := by simp; omega
            have d2 : ((m : Int) != 1) = true := by simp; omega
            clear hl1 hm h7
            go_wp2
            go_ret
            exact ⟨by simp, HB7.out⟩
        · have d1 : (zE == 0) = false := by simpa using hz
          have d2 : (zE != 0) = true := by simpa using hz
          have hnil := HNZ.out hz
          obtain ⟨a7, c7, e7, hc7, _, h7⟩ := Hz_7.out
          subst e7
          clear hz h7
          go_wp2
          go_ret
          exact ⟨by simp, HB7.out⟩

theorem lawBytes (w : World) (r : Int) (_hr : (Lit.int .i64 r).wf = true) (i : Int) (hi : (Lit.int .u8 i).wf = true) (b : Int) (hb : (Lit.int .u8 b).wf = true) (hT : UTab w) : Calls Tryd.prog 6 #[.int .i64 r, .int .u8 i, .int .u8 b] w fun e w' => e = .returned (.bool true) ∧ Below w.heap.size w w' := by
  have hu : ∀ z : Int, (Lit.int .u8 z).wf = true → ∃ x : UInt8, z = (x.toNat : Int) := fun z hz => by
    simp [Lit.wf, IntKind.min, IntKind.max, IntKind.signed, IntKind.bits] at hz
    exact ⟨z.toNat.toUInt8, by rw [toNat_u8 hz.1 (by omega)]⟩
  obtain ⟨i, rfl⟩ := hu i hi
  obtain ⟨b, rfl⟩ := hu b hb
  cases hok : okPt r with
  | true => exact bytes_yes w r i b hT hok
  | false => exact bytes_no w r _ _ hT hok
end Go.Proofs.YtilkhamlhbbmgaaDoor
