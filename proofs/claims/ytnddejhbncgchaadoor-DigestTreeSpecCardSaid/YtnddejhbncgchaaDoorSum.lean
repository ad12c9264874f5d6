/- digest.Sum is SHA-256. -/
import Derived.Test.YtnddejhbncgchaaDoorSumA
import Derived.Laws.EntriesVeiled
namespace Go.Proofs.YtnddejhbncgchaaDoor
open Go.RowKit Go.Shelf
attribute [local go_sem] Oper.semAt_some

set_option maxRecDepth 100000 in
set_option maxHeartbeats 4000000 in
theorem sum_some (w : World) (db off cap m r : Nat) (b : List UInt8) (hbl : b.length = 64 * m + r) (hr : r < 64) (hb : BytesIn w db off b) (hdb : db < w.heap.size) (hcap : 64 * m + r ≤ cap) (hlt : 64 * m < cap) (hm : cap ≤ maxLen) (hl : 64 * m + r < 1000000000) (hT : Tab w) (h0 : 0 < w.heap.size) :
    Calls Tryd.prog 12 #[.slice (some ⟨db, off, none⟩) (64 * m + r) cap] w fun e w' => e = .returned (dv (sha b)) ∧ Below w.heap.size w w' := by
  unfold maxLen at hm
  have hmod : (64 * (m : Int) + (r : Int)) % 64 = (r : Int) := by omega
  have HB := Lib.hid hb
  have HT := Lib.hid hT
  clear hb hT
  refine (callsIn_wide (n := 9)).1 ?_
  refine callsIn_of_wp_marks Tryd.func12 rfl trivial ?_ rfl
  simp only [Tryd.ntmps12, List.size_toArray, List.length_cons, List.length_nil, Nat.reduceAdd, Nat.reduceSub, Array.replicate_succ, Array.replicate_zero, List.push_toArray, List.append_toArray, List.nil_append, List.cons_append]
  have i1 : ((64 * m : Nat) : Int) ≤ (cap : Int) := by omega
  have i2 : (0 : Int) ≤ ((64 * m : Nat) : Int) := by omega
  have i3 : 64 * m ≤ cap := by omega
  gi_wp2_with fail
  refine ⟨trivial, ?_⟩
  refine (callsIn_wide.2 (first_any _)).mono ?_
  rintro e w1 ⟨rfl, hB1⟩
  have hA0 := Arr.new (w1.alloc (.cells #[.int .u32 1779033703, .int .u32 3144134277, .int .u32 1013904242, .int .u32 2773480762, .int .u32 1359893119, .int .u32 2600822924, .int .u32 528734635, .int .u32 1541459225] 51)) #[.nilFunc] 53
  rw [World.size_alloc] at hA0
  have hc1 := hA0.cell (i := 0) (v := .nilFunc) rfl
  have hc2 := hA0.frozen (i := 0) (by simp)
  clear hA0
  have hBw1 : Below w.heap.size w w1 := ((Below.refl w.heap.size w).alloc (Nat.le_refl _) _).trans (hB1.mono (by simp))
  have hD1 := (Arr.new w _ 26).below hB1 (by simp)
  have HB1 := Lib.hid hBw1
  have HD1 := Lib.hid hD1
  have hw1 : w.heap.size < w1.heap.size := by have := hB1.size; simp at this; omega
  clear hB1 hBw1 hD1
  gi_wp2_with fail
  refine ⟨trivial, ?_⟩
  refine (callsIn_wide.2 (chunk_any _ _ _ _)).mono ?_
  rintro e w2 ⟨rfl, hcs, hcn, hB2, hz2⟩
  have hS2 : Arr w2 w1.heap.size (ws s0.list) := by
    have h1 := Arr.new w1 #[.int .u32 1779033703, .int .u32 3144134277, .int .u32 1013904242, .int .u32 2773480762, .int .u32 1359893119, .int .u32 2600822924, .int .u32 528734635, .int .u32 1541459225] 51
    rw [s0_lit] at h1
    exact ((h1.alloc (by simp) _)).below hB2 (by simp; omega)
  have hF2 : w2.cell? ⟨w1.heap.size + 1, 0, none⟩ = some (.func (.func 28) #[.pointer (some ⟨w1.heap.size, 0, none⟩)] #[]) := by
    refine (hB2.cell (p := ⟨w1.heap.size + 1, 0, none⟩) (by simp)).trans ?_
    go_cell
  have hBw2 : Below w.heap.size w w2 :=
    HB1.out.trans ((((Below.refl w.heap.size w1).alloc (by omega) _).alloc (by simp; omega) _).trans (hB2.mono (by simp; omega)))
  have hD2 : Arr w2 w.heap.size _ := ((HD1.out.alloc hw1 _).alloc (by simp; omega) _).below hB2 (by simp; omega)
  simp only [World.size_alloc] at hcs hcn hz2
  obtain ⟨sb, hsb⟩ : ∃ sb, w1.heap.size = sb := ⟨_, rfl⟩
  rw [hsb] at hcs hcn hz2 hS2 hF2 hw1
  have HD2 := Lib.hid hD2
  clear hB2 HD1 HB1 hc1 hc2 hD2
  gi_wp2_with fail
  have hl1 : Loop w w2 sb (sb + 4) b s0 (([] : List (Fin m)).map (·.1)) w2 := ⟨⟨hS2, LowBut.refl _ _ _⟩, hBw2⟩
  refine wpIn_rangeFunc_ownF rfl (by omega) (gf := 49) (lb := #[.pointer (some ⟨sb + 1 + 1, 0, none⟩), .pointer (some ⟨sb + 1 + 1 + 1, 0, none⟩)]) rfl trivial (enters_of Tryd.func49 (by kernel_rfl) rfl)
    (chunk_stops 8 (by omega) (sb + 1 + 1) (sb + 1 + 1 + 1) (sb + 4) sb db off m cap (some ⟨db, off, none⟩) (.inr rfl) i3 (by omega) (by omega) (by omega) (by omega) (by omega) w2 (by omega) hcs hcn)
    LowBut.trans (lowBut_b (by omega)) (Below.refl _ _) (fun _ => rfl)
    (fun pre W => Loop w w2 sb (sb + 4) b s0 (pre.map (·.1)) W) (fun _ _ _ => False)
    (loop_own (by omega) (by omega) (by omega)) (fun _ _ _ _ _ hs _ _ => hs) hl1
    (fun x => { tmps := #[.slice (some ⟨db, off, none⟩) (64 * m + r) cap, undef, .pointer (some ⟨w.heap.size, 0, none⟩), .int .i64 (64 * (m : Int)), .pointer (some ⟨sb, 0, none⟩), .pointer (some ⟨sb + 1, 0, none⟩), (.slice (some ⟨db, off + 64 * x.1, none⟩) 64 64), undef, .slice (some ⟨db, off, none⟩) (64 * m + r) cap, .int .i64 (64 * (m : Int) + (r : Int)), .slice (some ⟨db, off, none⟩) (64 * m + r) cap, .int .i64 (64 * (m : Int) + (r : Int)), .int .i64 (r : Int), .int .i64 (64 * (m : Int)), .agg #[.int .u32 1779033703, .int .u32 3144134277, .int .u32 1013904242, .int .u32 2773480762, .int .u32 1359893119, .int .u32 2600822924, .int .u32 528734635, .int .u32 1541459225], .func (.func 28) #[.pointer (some ⟨sb, 0, none⟩)] #[], .slice (some ⟨db, off, none⟩) (64 * m + r) cap, .int .i64 (64 * (m : Int)), .slice (some ⟨db, off, none⟩) (64 * m) cap, .func (.func 49) #[] #[.pointer (some ⟨sb + 1 + 1, 0, none⟩), .pointer (some ⟨sb + 1 + 1 + 1, 0, none⟩)], (.slice (some ⟨db, off + 64 * x.1, none⟩) 64 64), undef, undef, undef, undef, undef, undef, undef, undef, undef, undef, undef, undef, undef, undef, undef], defers := [] }) ?assign ?body ?done ?stop
  case assign =>
    intro l x W K hK
    gi_wp2
    exact hK
  case body =>
    rintro l pre x W hL _
    have hLL := hL
    obtain ⟨⟨hA, hLo⟩, hBW⟩ := hL
    have hx := x.2
    have hab := absorb_any W sb db (off + 64 * x.1) _ (chunkAt b x.1) (HT.out.below hBW h0) (by have := hBW.size; omega) hA (by have := hLo.1; omega) (chunk_len b (by omega)) ((HB.out.below hBW hdb).chunk (by omega)) (by have := hBW.size; omega)
    have hfc : W.cell? ⟨sb + 1, 0, none⟩ = some (.func (.func 28) #[.pointer (some ⟨sb, 0, none⟩)] #[]) := (hLo.cell (by omega) (by omega)).trans hF2
    have HAB := Lib.hid hab
    have HLL := Lib.hid hLL
    clear hab hLL hA hLo hBW
    gi_wp2_with fail
    refine ⟨trivial, ?_⟩
    refine (CallsIn.inRound l (callsIn_wide.2 HAB.out)).mono ?_
    rintro e W' ⟨⟨v, rfl⟩, hA', hG'⟩
    have HST := Lib.hid (loop_step (by omega) (by omega) (by omega) HLL.out hA' hG')
    clear hA' hG'
    gi_wp2_with fail
    exact ⟨HST.out.2.2, HST.out.2.1, by show Loop w w2 sb (sb + 4) b s0 (List.map _ (pre ++ [x])) W'; rw [List.map_append]; exact HST.out.1⟩
  case done =>
    rintro D ys W hD rfl hL hK
    obtain ⟨⟨hA, hLo⟩, hBW⟩ := hL
    have hst : ((List.finRange m).map (·.1)).foldl (fun t k => press t (chunkAt b k)) s0 = runs s0 b m := by rw [List.foldl_map]; exact fold_fin s0 b m
    rw [hst] at hA
    obtain ⟨m2, hm2, hm22⟩ : ∃ m2, endOf r = 64 * m2 ∧ m2 ≤ 2 := by
      by_cases h : 55 < r
      · exact ⟨2, if_pos h, by omega⟩
      · exact ⟨1, if_neg h, by omega⟩
    have hdl : (b.drop (64 * m)).length = r := by simp; omega
    have hWs := hBW.size
    have hra := rest_at (HB.out.below hBW hdb) hbl (by omega : db < W.heap.size) hcap (by unfold maxLen; omega)
    rw [if_neg (by omega : ¬ cap = 64 * m)] at hra
    have hend := ending_cast W _ (b.drop (64 * m)) (64 * m + r) r m2 (64 * (m : Int) + (r : Int)) (by omega) hdl hm2 hra hr (by omega)
    have hFW : W.cell? ⟨sb + 1, 0, none⟩ = some (.func (.func 28) #[.pointer (some ⟨sb, 0, none⟩)] #[]) := (hLo.cell (by omega) (by omega)).trans hF2
    have hDW := HD2.out.same (W' := W) (hLo.2 w.heap.size (by omega) (by omega))
    have hLsz := hLo.1
    have HEND := Lib.hid hend
    have HAW := Lib.hid hA
    have HBW := Lib.hid hBW
    have HFW := Lib.hid hFW
    have HDW := Lib.hid hDW
    have HK := Lib.hid hK
    clear hend hA hBW hFW hDW hLo hst hdl hK hra
    gi_wp2_with fail
    refine ⟨trivial, ?_⟩
    refine (callsIn_wide.2 HEND.out).mono ?_
    rintro e w3 ⟨g, rfl, hg1, hg2, hgb, hB3⟩
    gi_wp2_with fail
    refine ⟨trivial, ?_⟩
    refine (callsIn_wide.2 (chunk_any _ _ _ _)).mono ?_
    rintro e w5 ⟨rfl, hcs5, hcn5, hB5, hz5⟩
    have hB35 : Below W.heap.size W w5 := hB3.trans (hB5.mono hB3.size)
    have hz3 := hB3.size
    have hA5 := HAW.out.below hB35 (by omega)
    have hF5 : w5.cell? ⟨sb + 1, 0, none⟩ = some (.func (.func 28) #[.pointer (some ⟨sb, 0, none⟩)] #[]) := (hB35.cell (p := ⟨sb + 1, 0, none⟩) (by show sb + 1 < _; omega)).trans HFW.out
    have hDl : D < W.heap.size := (Array.getElem?_eq_some_iff.1 HK.out).1
    have hK5 : w5.heap[D]? = some (.deferred (some [])) := (hB35.block D hDl).trans HK.out
    have hD5 := HDW.out.below hB35 (by omega)
    have hBw5 : Below w.heap.size w w5 := HBW.out.trans (hB35.mono (by omega))
    have hgb5 := hgb.below hB5 hg2
    obtain ⟨T, hT2⟩ : ∃ T, tailOf (b.drop (64 * m)) (64 * m + r) = T := ⟨_, rfl⟩
    have hTl : T.length = 64 * m2 := by rw [← hT2, tail_len _ _ (by simp; omega), ← hm2]; congr 1; simp; omega
    rw [hT2] at hgb5
    obtain ⟨S1, hS1⟩ : ∃ S1, runs s0 b m = S1 := ⟨_, rfl⟩
    rw [hS1] at hA5
    have HT2 := Lib.hid hT2
    have HS1 := Lib.hid hS1
    have HA5 := Lib.hid hA5
    have HD5 := Lib.hid hD5
    have HK5 := Lib.hid hK5
    have HGB := Lib.hid hgb5
    have HBW5 := Lib.hid hBw5
    have HM2 := Lib.hid hm2
    have HM22 := Lib.hid hm22
    have HG1 := Lib.hid hg1
    have HG2 := Lib.hid hg2
    have HZ5 := Lib.hid hz5
    have HCS5 := Lib.hid hcs5
    have HCN5 := Lib.hid hcn5
    have HF5 := Lib.hid hF5
    have HTL := Lib.hid hTl
    have HDL := Lib.hid hDl
    have HZ3 := Lib.hid hz3
    clear hB35 hA5 hK5 hD5 hgb5 hgb hB3 HEND HAW HFW HDW HK HBW hB5 hT2 hS1 hBw5 hm2 hm22 hg1 hg2 hz5 hcs5 hcn5 hF5 hTl hDl hz3
    gi_wp2_with fail
    have hm2 := HM2.out
    have hm22 := HM22.out
    have hg1 := HG1.out
    have hg2 := HG2.out
    have hz5 := HZ5.out
    have hcs5 := HCS5.out
    have hcn5 := HCN5.out
    have hTl := HTL.out
    have hDl := HDL.out
    have hz3 := HZ3.out
    have hstops := chunk_stops 8 (by omega) w3.heap.size (w3.heap.size + 1) (w3.heap.size + 2) sb g 0 m2 128 (some ⟨g, 0, none⟩) (.inr rfl) (by omega) (by omega) (by omega) (by omega) (by omega) (by omega) w5 (by omega) hcs5 hcn5
    simp only [Nat.zero_add] at hstops
    have hl2 : Loop w w5 sb (w3.heap.size + 2) T S1 (([] : List (Fin m2)).map (·.1)) w5 := ⟨⟨HA5.out, LowBut.refl _ _ _⟩, HBW5.out⟩
    refine wpIn_rangeFunc_ownF rfl (by omega) (gf := 49) (lb := #[.pointer (some ⟨w3.heap.size, 0, none⟩), .pointer (some ⟨w3.heap.size + 1, 0, none⟩)]) rfl trivial (enters_of Tryd.func49 (by kernel_rfl) rfl)
      hstops
      LowBut.trans (lowBut_b (by omega)) (Below.refl _ _) (fun _ => rfl)
      (fun pre W => Loop w w5 sb (w3.heap.size + 2) T S1 (pre.map (·.1)) W) (fun _ _ _ => False)
      (loop_own (by omega) (by omega) (by omega)) (fun _ _ _ _ _ hs _ _ => hs) hl2
      (fun x => { tmps := #[.slice (some ⟨db, off, none⟩) (64 * m + r) cap, undef, .pointer (some ⟨w.heap.size, 0, none⟩), .int .i64 (64 * (m : Int)), .pointer (some ⟨sb, 0, none⟩), .pointer (some ⟨sb + 1, 0, none⟩), undef, (.slice (some ⟨g, 64 * x.1, none⟩) 64 64), .slice (some ⟨db, off, none⟩) (64 * m + r) cap, .int .i64 (64 * (m : Int) + (r : Int)), .slice (some ⟨db, off, none⟩) (64 * m + r) cap, .int .i64 (64 * (m : Int) + (r : Int)), .int .i64 (r : Int), .int .i64 (64 * (m : Int)), .agg #[.int .u32 1779033703, .int .u32 3144134277, .int .u32 1013904242, .int .u32 2773480762, .int .u32 1359893119, .int .u32 2600822924, .int .u32 528734635, .int .u32 1541459225], .func (.func 28) #[.pointer (some ⟨sb, 0, none⟩)] #[], .slice (some ⟨db, off, none⟩) (64 * m + r) cap, .int .i64 (64 * (m : Int)), .slice (some ⟨db, off, none⟩) (64 * m) cap, .func (.func 49) #[] #[.pointer (some ⟨sb + 1 + 1, 0, none⟩), .pointer (some ⟨sb + 1 + 1 + 1, 0, none⟩)], undef, undef, undef, undef, .slice (some ⟨db, off, none⟩) (64 * m + r) cap, .int .i64 (64 * (m : Int)), .slice (some ⟨db, off + 64 * m, none⟩) r (cap - 64 * m), .slice (some ⟨db, off, none⟩) (64 * m + r) cap, .int .i64 (64 * (m : Int) + (r : Int)), .slice (some ⟨g, 0, none⟩) (64 * m2) 128, .func (.func 49) #[] #[.pointer (some ⟨w3.heap.size, 0, none⟩), .pointer (some ⟨w3.heap.size + 1, 0, none⟩)], (.slice (some ⟨g, 64 * x.1, none⟩) 64 64), undef, undef, undef, undef], defers := [] }) ?assign2 ?body2 ?done2 ?stop2
    case assign2 =>
      clear hstops hm2 hm22 hg1 hg2 hz5 hcs5 hcn5 hTl hDl hz3
      intro l x W K hK
      gi_wp2
      exact hK
    case body2 =>
      rintro l pre x W' hL _
      have hLL := hL
      obtain ⟨⟨hA, hLo⟩, hBW⟩ := hL
      have hx := x.2
      have hg' : BytesIn W' g 0 T := fun i hi => (hLo.cell (by omega) (by omega)).trans (HGB.out i hi)
      have hch := hg'.chunk (k := x.1) (by omega)
      rw [Nat.zero_add] at hch
      have hab := absorb_any W' sb g (64 * x.1) _ (chunkAt T x.1) (HT.out.below hBW h0) (by have := hBW.size; omega) hA (by have := hLo.1; omega) (chunk_len T (by omega)) hch (by have := hLo.1; omega)
      have hfc : W'.cell? ⟨sb + 1, 0, none⟩ = some (.func (.func 28) #[.pointer (some ⟨sb, 0, none⟩)] #[]) := (hLo.cell (by omega) (by omega)).trans HF5.out
      have HAB := Lib.hid hab
      have HLL := Lib.hid hLL
      clear hab hLL hA hLo hBW hg' hch hstops hm2 hm22 hg1 hg2 hz5 hcs5 hcn5 hTl hDl hz3
      gi_wp2_with fail
      refine ⟨trivial, ?_⟩
      refine (CallsIn.inRound l (callsIn_wide.2 HAB.out)).mono ?_
      rintro e W'' ⟨⟨v, rfl⟩, hA', hG'⟩
      have HST := Lib.hid (loop_step (by have := HZ3.out; have := HDL.out; omega) (by omega) (by have := HZ5.out; omega) HLL.out hA' hG')
      clear hA' hG'
      gi_wp2_with fail
      exact ⟨HST.out.2.2, HST.out.2.1, by show Loop w w5 sb (w3.heap.size + 2) T S1 (List.map _ (pre ++ [x])) W''; rw [List.map_append]; exact HST.out.1⟩
    case done2 =>
      rintro D2 ys W' hDD rfl hL hK2
      obtain ⟨⟨hA, hLo⟩, hBW⟩ := hL
      have hst : ((List.finRange m2).map (·.1)).foldl (fun t k => press t (chunkAt T k)) S1 = runs S1 T m2 := by rw [List.foldl_map]; exact fold_fin S1 T m2
      rw [hst] at hA
      have hKD : W'.heap[D]? = some (.deferred (some [])) := (hLo.2 D (by omega) (by omega)).trans HK5.out
      have hDW := HD5.out.same (W' := W') (hLo.2 w.heap.size (by omega) (by omega))
      have hLsz := hLo.1
      have HA := Lib.hid hA
      have HKD := Lib.hid hKD
      have HDW := Lib.hid hDW
      have HKK2 := Lib.hid hK2
      have HBW := Lib.hid hBW
      have HLSZ := Lib.hid hLsz
      clear hA hKD hDW hK2 hBW hLo hLsz hm2 hm22 hg1 hg2 hz5 hcs5 hcn5 hTl hDl hz3 hst hstops
      gi_wp2_with fail
      have hdg := digest_any W' sb (runs S1 T m2) HA.out (by have := HLSZ.out; have := HZ5.out; have := HDL.out; have := HZ3.out; omega)
      have hcl : (cells8 (outs (runs S1 T m2))).length = 32 := by rw [cells8_len, outs_len]
      have ho1 := one_cells8 (outs (runs S1 T m2))
      unfold dv at hdg
      obtain ⟨cs, hcs7⟩ : ∃ cs, cells8 (outs (runs S1 T m2)) = cs := ⟨_, rfl⟩
      rw [hcs7] at hdg hcl ho1
      have HZ1 : Hid ((Tryd.prog.info? 26).map (·.size) = some cs.length) := by show _ = _; rw [hcl]; exact Tryd.info26
      have HDG := Lib.hid hdg
      have HO1 := Lib.hid ho1
      have HCL := Lib.hid hcl
      have HCS7 := Lib.hid hcs7
      clear hdg ho1 hcl hcs7
      refine ⟨trivial, ?_⟩
      refine (callsIn_wide.2 HDG.out).mono ?_
      rintro e w7 ⟨rfl, hB7⟩
      have HB7 := Lib.hid hB7
      clear hB7
      have hw7 : w.heap.size < W'.heap.size := by have := HLSZ.out; have := HZ5.out; have := HDL.out; have := HZ3.out; omega
      gi_wp2_with (refine store_newIn rfl 26 _ _ (by rfl) w.heap.size w.heap.size cs _ (by rfl) (by rfl) (HBW.out.trans (HB7.out.mono (by omega))) (Nat.le_refl _) (HDW.out.below HB7.out hw7) (by rw [HCL.out]; rfl) HZ1.out HO1.out ?_; intro W8 hB8 hA8 ho8)
      have hDlt : D < W'.heap.size := (Array.getElem?_eq_some_iff.1 HKD.out).1
      have hD2lt : D2 < W'.heap.size := (Array.getElem?_eq_some_iff.1 HKK2.out).1
      have hwD : w.heap.size < D := by have := HZ5.out; have := HDL.out; have := HZ3.out; omega
      have hD12 : D < D2 := by have := HZ5.out; have := HDL.out; have := HZ3.out; omega
      have hK28 : W8.heap[D2]? = some (.deferred (some [])) := (ho8 D2 (by omega)).trans ((HB7.out.block D2 hD2lt).trans HKK2.out)
      have hK18 : W8.heap[D]? = some (.deferred (some [])) := (ho8 D (by omega)).trans ((HB7.out.block D hDlt).trans HKD.out)
      have hW9 := belowK_b (n₀ := w5.heap.size) (w := w5) (Nat.le_refl _) W8 D2 _ (.deferred none) hDD hK28 rfl rfl
      obtain ⟨W9, hW9e⟩ : ∃ W9, W8.putObj D2 (.deferred none) = W9 := ⟨_, rfl⟩
      rw [hW9e] at hW9
      have hz5 := HZ5.out
      have hz3 := HZ3.out
      have hDl := HDL.out
      have hK19 : W9.heap[D]? = some (.deferred (some [])) := (hW9.block D (by omega)).trans hK18
      have hW10 := belowK_b (n₀ := w2.heap.size) (w := w2) (Nat.le_refl _) W9 D _ (.deferred none) hD hK19 rfl rfl
      have hA10 := (hA8.below hW9 (by omega)).below hW10 (by omega)
      have hB10 : Below w.heap.size w _ := (hB8.trans (hW9.mono (by omega))).trans (hW10.mono (by omega))
      have hsha := sha_split b m r m2 hbl hr HM2.out
      rw [HS1.out, HT2.out] at hsha
      refine ⟨by simp, .inl ⟨_, _, rfl, run_takeDeferred hK28, ?_⟩⟩
      rw [hW9e]
      refine ⟨by simp, .inl ⟨_, _, rfl, run_takeDeferred hK19, ?_⟩⟩
      exact ⟨_, results_cell_mid rfl _ _ _ _ _ rfl hA10.at_ Tryd.underlying26 rfl HZ1.out, by rw [hsha, dv, HCS7.out], hB10⟩
    case stop2 =>
      rintro D c pre W _ _ h _
      exact h.elim
  case stop =>
    rintro D c pre W _ _ h _
    exact h.elim
end Go.Proofs.YtnddejhbncgchaaDoor
