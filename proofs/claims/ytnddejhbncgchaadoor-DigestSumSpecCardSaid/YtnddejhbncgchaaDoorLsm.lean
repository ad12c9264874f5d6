/- The law DigestSumSpec, walked. -/
import Derived.Test.YtnddejhbncgchaaDoorRtg
import Derived.Test.YtnddejhbncgchaaDoorSumE
import Derived.OwnWalk
namespace Go.Proofs.YtnddejhbncgchaaDoor
open Go.RowKit

/-- Bytes in a slice: an empty one without room, or in memory below B. -/
def Row2 (w : World) (B : Nat) (v : Value) (b : List UInt8) : Prop :=
  (∃ a, v = .slice a 0 0 ∧ b = []) ∨ ∃ db off cap, v = .slice (some ⟨db, off, none⟩) b.length cap ∧ b.length ≤ cap ∧ cap ≤ maxLen ∧ db < B ∧ BytesIn w db off b
theorem Row2.below {w w' : World} {B : Nat} {v : Value} {b : List UInt8} (h : Row2 w B v b) (hb : Below B w w') : Row2 w' B v b := by
  rcases h with h | ⟨db, off, cap, h1, h2, h3, h4, h5⟩
  · exact .inl h
  · exact .inr ⟨db, off, cap, h1, h2, h3, h4, h5.below hb h4⟩
theorem Row2.mono {w : World} {B B' : Nat} {v : Value} {b : List UInt8} (h : Row2 w B v b) (hb : B ≤ B') : Row2 w B' v b := by
  rcases h with h | ⟨db, off, cap, h1, h2, h3, h4, h5⟩
  · exact .inl h
  · exact .inr ⟨db, off, cap, h1, h2, h3, by omega, h5⟩
theorem Row2.any {w W : World} {v : Value} {b : List UInt8} (h : Row2 w w.heap.size v b) (hb : Below w.heap.size w W) : Row2 W W.heap.size v b := (h.below hb).mono hb.size
theorem Row2.at {w : World} {B : Nat} {v : Value} {b : List UInt8} (h : Row2 w B v b) : BytesAt w B v b := by
  rcases h with ⟨a, rfl, rfl⟩ | ⟨db, off, cap, rfl, h1, h2, h3, h4⟩
  · exact ⟨a, 0, rfl, by simp, by unfold maxLen; omega, .inl rfl⟩
  · exact ⟨some ⟨db, off, none⟩, cap, rfl, h1, h2, .inr ⟨db, off, rfl, h3, h4⟩⟩
theorem sum_row2 (w : World) (v : Value) (b : List UInt8) (h : Row2 w w.heap.size v b) (hl : b.length < 1000000000) (hT : Tab w) (h0 : 0 < w.heap.size) :
    Calls Tryd.prog 12 #[v] w fun e w' => e = .returned (dv (sha b)) ∧ Below w.heap.size w w' := by
  rcases h with ⟨a, rfl, rfl⟩ | h
  · exact sum_e w a hT h0
  · exact sum_any w v b (.inr h) hl hT h0
theorem own_arr {W : World} {B g n c : Nat} {xs : List Value} (h : W.ownsRow B 5 1 (.slice (some ⟨g, 0, none⟩) n c) n xs) : Arr W g xs := by
  have hl : xs.length = n := by have := h.1; omega
  refine ⟨fun j v hv => ?_, fun j hj => ⟨?_, ?_⟩⟩
  · have hj : j < xs.length := by
      rcases Nat.lt_or_ge j xs.length with h | h
      · exact h
      · rw [List.getElem?_eq_none h] at hv; cases hv
    rw [Nat.zero_add, h.cellAt j (by omega)]; exact hv
  · rw [Nat.zero_add, h.cellAt j (by omega), List.getElem?_eq_getElem hj]; rfl
  · rw [Nat.zero_add]; exact h.frozenAt j
theorem made_bytes (n : Nat) : (madeCells (Value.int IntKind.u8 0).cells (n * 1)).toList = cells8 (List.replicate n 0) := by
  apply List.ext_getElem
  · simp [madeCells, cells8]
  · intro i h1 h2
    simp [madeCells, cells8, Value.cells]
    rw [Nat.mod_one]; rfl
theorem pack (W3 : World) (hT : Tab W3) (h0 : 0 < W3.heap.size) (s : ByteArray) (hs : s.size ≤ 300) (v : Value) (c : List UInt8) (h : Row2 W3 W3.heap.size v c) (hc : c.length ≤ 300) : ∃ ca ct : List Value,
    (∀ W, Kept W3 W → Calls Tryd.prog 12 #[v] W fun e w' => e = .returned (.agg ca.toArray) ∧ Kept W3 w') ∧ (∀ W, Kept W3 W → Calls Tryd.prog 13 #[v] W fun e w' => e = .returned (.agg ca.toArray) ∧ Kept W3 w') ∧
    (∀ W, Kept W3 W → Calls Tryd.prog 14 #[.string s, v] W fun e w' => e = .returned (.agg ct.toArray) ∧ Kept W3 w') ∧ (∀ W, Kept W3 W → Calls Tryd.prog 15 #[.string s, v] W fun e w' => e = .returned (.agg ct.toArray) ∧ Kept W3 w') ∧
    (∀ W : World, (Op.equalIn 10000 26 (.agg ca.toArray) (.agg ca.toArray)).run Tryd.prog W = .ok true W) ∧ (∀ W : World, (Op.equalIn 10000 26 (.agg ct.toArray) (.agg ct.toArray)).run Tryd.prog W = .ok true W) := by
  refine ⟨cells8 (sha c), cells8 (tagged s.data.toList c), fun W hW => ?_, fun W hW => ?_, fun W hW => ?_, fun W hW => ?_, fun W => eq_any _ (sha_len _) W, fun W => eq_any _ (tagged_len _ _) W⟩
  · exact (sum_row2 W v c (h.any hW.below) (by omega) (hT.below hW.below h0) (by have := hW.below.size; omega)).mono fun e w' h => ⟨h.1, hW.next h.2⟩
  · exact (rsum_any W v c (h.any hW.below).at (by omega)).mono fun e w' h => ⟨h.1, hW.next h.2⟩
  · exact (tagged_any W s v c (h.any hW.below).at (by omega) (by omega) (hT.below hW.below h0) (by have := hW.below.size; omega)).mono fun e w' h => ⟨h.1, hW.next h.2⟩
  · exact (rtagged_any W s v c (h.any hW.below).at (by omega) (by omega)).mono fun e w' h => ⟨h.1, hW.next h.2⟩
theorem arr_row2 {W : World} {g N : Nat} {l : List UInt8} (h : Arr W g (cells8 l)) (hl : l.length = N) (h1 : 1 ≤ N) (h2 : N ≤ 256) : Row2 W W.heap.size (.slice (some ⟨g, 0, none⟩) N N) l := by
  refine .inr ⟨g, 0, N, by rw [hl], by omega, by unfold maxLen; omega, h.lt (by rw [cells8_len]; omega), fun i hi => ?_⟩
  rw [Nat.zero_add]
  exact h.cell (by rw [List.getElem?_eq_getElem (by rw [cells8_len]; exact hi)]; simp [cells8])

set_option maxRecDepth 100000 in
set_option maxHeartbeats 8000000 in
theorem lawSum (w : World) (v : Value) (b : List UInt8) (s : ByteArray) (m : Nat) (hm : m ≤ 255) (hv : Row2 w w.heap.size v b) (hs : s.size ≤ maxLen) (hT : Tab w) (h0 : 0 < w.heap.size) :
    Calls Tryd.prog 3 #[v, .string s, .int .u8 m] w fun e w' => e = .returned (.bool true) ∧ Below w.heap.size w w' := by
  obtain ⟨j0, hj0, hy0, hy1, hy2⟩ := info_parts Tryd.infoU8
  have HY0 := Lib.hid hy0
  have HJ := Lib.hid hj0
  have HY1 := Lib.hid hy1
  have HY2 := Lib.hid hy2
  have HV := Lib.hid hv
  have HT := Lib.hid hT
  have HSN := Lib.hid (sane_any w hT h0)
  have hva := hv.at
  obtain ⟨a, cap, rfl, hnc, hcm, _⟩ := hva
  obtain ⟨n, hn⟩ : ∃ n, b.length = n := ⟨_, rfl⟩
  have HN := Lib.hid hn
  rw [hn] at HV hnc ⊢
  unfold maxLen at hcm hs
  clear hv hT hn hj0 hy0 hy1 hy2
  by_cases hn3 : n ≤ 300
  · have d1 : decide (300 < (n : Int)) = false := by simp; omega
    by_cases hs3 : s.size ≤ 300
    · have d2 : decide (300 < (s.size : Int)) = false := by simp; omega
      go_enter Tryd.func3, Tryd.ntmps3
      go_wp2_with fail
      refine HSN.out.mono ?_
      rintro e w0 ⟨rfl, hB0⟩
      have HB0 := Lib.hid hB0
      have HM1 : Hid ((m : Int) + 1 = ((m + 1 : Nat) : Int)) := Lib.hid (by omega)
      have q1 : IntKind.i64.wrap ((m : Int) + 1) = (m : Int) + 1 := by rw [IntKind.wrap_i64]; omega
      clear hB0
      go_wp2_with (refine wpList_make_full _ rfl (.tmp 23) (.tmp 23) 22 rfl w0.heap.size 5 j0 (.int .u8 0) 1 Tryd.underlying22 HJ.out HY0.out HY1.out .i64 .i64 _ _ (m + 1) (by rfl) (by rfl) HM1.out HM1.out (by rw [HY2.out]; omega) (by unfold maxLen; omega) (Nat.le_refl _) ?_; intro w1 hO1 hG1)
      have hA1 : Arr w1 w0.heap.size (cells8 (List.replicate (m + 1) 0)) := by rw [← made_bytes]; exact own_arr hO1
      have hz1 : w0.heap.size < w1.heap.size := (hO1.lt _ rfl).2
      have HA1 := Lib.hid hA1
      have HB1 := Lib.hid (below_grow (Below.refl w0.heap.size w0) hG1 (fun k e => by cases e) (Nat.le_refl _))
      obtain ⟨g, hg⟩ : ∃ g, w0.heap.size = g := ⟨_, rfl⟩
      rw [hg] at HA1 hz1 ⊢
      have HGG := Lib.hid hg
      obtain ⟨N, hNN⟩ : ∃ N, m + 1 = N := ⟨_, rfl⟩
      rw [hNN] at HA1 ⊢
      have hN256 : N ≤ 256 := by omega
      have hN1 : 1 ≤ N := by omega
      have HMN := Lib.hid hNN
      clear hA1 hO1 hG1 hg HM1 hNN q1
      have HN1 := Lib.hid hN1
      have HN256 := Lib.hid hN256
      clear hN1
      go_wp2
      go_loopw [27] (fun j W => ∃ (t : Nat) (l : List UInt8), j = .int .i64 t ∧ t ≤ N ∧ l.length = N ∧ But w1 g W ∧ Arr W g (cells8 l)) (fun j _ => N - (intOf j).toNat)
      case atStart => exact ⟨0, List.replicate N 0, rfl, by omega, by simp, ⟨rfl, rfl, rfl, Nat.le_refl _, fun _ _ _ => rfl⟩, HA1.out⟩
      case round =>
        obtain ⟨t, l, rfl, ht, hl, hB, hA⟩ := hrel
        have hmn := HMN.out
        by_cases hlt : t < N
        · have hd : decide ((t : Int) < (m : Int) + 1) = true := by simp; omega
          have qc : IntKind.u8.wrap (t : Int) = (t : Int) := by rw [IntKind.wrap_u8]; omega
          have hlen : t < (cells8 l).length := by rw [cells8_len]; omega
          have hc : wr.cell? ⟨g, t, none⟩ = some ((cells8 l)[t]'hlen) := hA.cell (List.getElem?_eq_getElem hlen)
          have hf : wr.frozen? ⟨g, t, none⟩ = false := hA.frozen hlen
          have hx : (cells8 l)[t]'hlen = .int .u8 l[t].toNat := by simp [cells8]
          rw [hx] at hc
          obtain ⟨u, hu⟩ : ∃ u, l[t].toNat = u := ⟨_, rfl⟩
          rw [hu] at hc
          have hB2 := hB.set t (.int .u8 t)
          have hA2 : Arr (wr.setCell ⟨g, t, none⟩ (.int .u8 t)) g (cells8 (l.set t (UInt8.ofNat t))) := by
            rw [cells8_set]; have := hA.set t (.int .u8 t)
            rwa [show ((UInt8.ofNat t).toNat : Int) = (t : Int) by simp; omega]
          have HB2 := Lib.hid hB2
          have HA2 := Lib.hid hA2
          clear hmn
          by_cases hnz : n = 0
          · have dn : decide ((0 : Int) < (n : Int)) = false := by simp; omega
            clear hA hB hx hu hB2 hA2 hlen
            go_wp2
            go_roundw
            case rel => exact ⟨t + 1, _, by simp, by omega, by simp [hl], HB2.out, HA2.out⟩
            case measure => simp [intOf]; omega
          · have dn : decide ((0 : Int) < (n : Int)) = true := by simp; omega
            obtain ⟨db, off, ha, hdb, hbi⟩ : ∃ db off, a = some ⟨db, off, none⟩ ∧ db < w.heap.size ∧ BytesIn w db off b := by
              rcases HV.out with ⟨a', h1, h2⟩ | ⟨db, off, cap', h1, _, _, h4, h5⟩
              · exact absurd (by rw [← HN.out, h2]; rfl) hnz
              · injection h1 with h1 _ _; exact ⟨db, off, h1, h4, h5⟩
            obtain ⟨r, hr⟩ : ∃ r, t % n = r := ⟨_, rfl⟩
            have hrn : r < n := by rw [← hr]; exact Nat.mod_lt _ (by omega)
            have hri : (t : Int) % (n : Int) = (r : Int) := by rw [← hr]; simp
            have hrt : Int.tmod (t : Int) (n : Int) = (r : Int) := by rw [Int.tmod_eq_emod_of_nonneg (by omega), hri]
            have hgw : db < g := by have := HB0.out.size; have := HGG.out; omega
            have hcr : (wr.setCell ⟨g, t, none⟩ (.int .u8 t)).cell? ⟨db, off + r, none⟩ = some (.int .u8 (b[r]'(by rw [HN.out]; exact hrn)).toNat) := by
              have h1 := HB0.out.cell (p := ⟨db, off + r, none⟩) hdb
              have h2 := HB1.out.cell (p := ⟨db, off + r, none⟩) (by have := HB0.out.size; simp; omega)
              have h3 := World.grownBy.cell_far hB2 ⟨db, off + r, none⟩ (by show db < w1.heap.size; omega) (fun e => by injection e with e; have e : db = g := e; omega)
              rw [h3, h2, h1]; exact hbi r _
            have hc2 : (wr.setCell ⟨g, t, none⟩ (.int .u8 t)).cell? ⟨g, t, none⟩ = some (.int .u8 t) := hA2.cell (by rw [cells8_set, List.getElem?_set]; simp [hlen]; omega)
            have hf2 : (wr.setCell ⟨g, t, none⟩ (.int .u8 t)).frozen? ⟨g, t, none⟩ = false := hA2.frozen (by rw [cells8_len]; simp; omega)
            obtain ⟨x, hxx⟩ : ∃ x, b[r]'(by rw [HN.out]; exact hrn) = x := ⟨_, rfl⟩
            rw [hxx] at hcr
            have hB3 := hB2.set t (.int .u8 x.toNat)
            have hA3 : Arr ((wr.setCell ⟨g, t, none⟩ (.int .u8 t)).setCell ⟨g, t, none⟩ (.int .u8 x.toNat)) g (cells8 ((l.set t (UInt8.ofNat t)).set t x)) := by
              rw [cells8_set]; exact hA2.set t _
            have HB3 := Lib.hid hB3
            have HA3 := Lib.hid hA3
            subst ha
            clear hA hB hx hu hB2 hA2 hlen hB3 hA3 hr hbi hxx hdb hgw
            go_wp2
            go_roundw
            case rel => exact ⟨t + 1, _, by simp, by omega, by simp [hl], HB3.out, HA3.out⟩
            case measure => simp [intOf]; omega
        · have hd : decide ((t : Int) < (m : Int) + 1) = false := by simp; omega
          clear hmn
          have hR1 : Row2 wr wr.heap.size (.slice (some ⟨g, 0, none⟩) N N) l := arr_row2 hA hl HN1.out HN256.out
          have hkw : Below w.heap.size w wr := ((HB0.out.trans (HB1.out.mono HB0.out.size))).grown hB (by have := HB0.out.size; have := HGG.out; have := HB1.out.size; omega) (fun k hk => by cases hk; have := HB0.out.size; have := HGG.out; omega)
          have HKW := Lib.hid hkw
          have HR1 := Lib.hid hR1
          have HL := Lib.hid hl
          clear hA hB
          have hta : Below w.heap.size w (wr.alloc (.cells #[.slice a n cap, .slice (some ⟨g, 0, none⟩) N N] 22)) := hkw.alloc hkw.size _
          have hra : Row2 (wr.alloc (.cells #[.slice a n cap, .slice (some ⟨g, 0, none⟩) N N] 22)) (wr.alloc (.cells #[.slice a n cap, .slice (some ⟨g, 0, none⟩) N N] 22)).heap.size (.slice (some ⟨g, 0, none⟩) N N) l := hR1.any (Below.alloc (Below.refl _ _) (Nat.le_refl _) _)
          have har : Arr (wr.alloc (.cells #[.slice a n cap, .slice (some ⟨g, 0, none⟩) N N] 22)) wr.heap.size [.slice a n cap, .slice (some ⟨g, 0, none⟩) N N] := Arr.new wr _ 22
          have hag : wr.heap.size < (wr.alloc (.cells #[.slice a n cap, .slice (some ⟨g, 0, none⟩) N N] 22)).heap.size := by simp
          have HTA := Lib.hid hta
          have HRA := Lib.hid hra
          have HAR := Lib.hid har
          have HAG := Lib.hid hag
          clear hta hra har hag hR1 hkw
          go_wp2
          obtain ⟨W3, hW3⟩ : ∃ W3, wr.alloc (.cells #[.slice a n cap, .slice (some ⟨g, 0, none⟩) N N] 22) = W3 := ⟨_, rfl⟩
          obtain ⟨G, hG⟩ : ∃ G, wr.heap.size = G := ⟨_, rfl⟩
          rw [hW3] at HTA HRA HAR HAG ⊢
          rw [hG] at HAR HAG ⊢
          have hsz3 : 0 < W3.heap.size := by have := HTA.out.size; omega
          obtain ⟨ca0, ct0, h120, h130, h140, h150, he0, hf0⟩ := pack W3 (HT.out.below HTA.out h0) hsz3 s hs3 _ b ((HV.out.any HTA.out)) (by rw [HN.out]; exact hn3)
          obtain ⟨ca1, ct1, h121, h131, h141, h151, he1, hf1⟩ := pack W3 (HT.out.below HTA.out h0) hsz3 s hs3 _ l HRA.out (by have := HN256.out; omega)
          have hc0 : ∀ W, Kept W3 W → W.cell? ⟨G, 0, none⟩ = some (.slice a n cap) := fun W hW => (HAR.out.below hW.below HAG.out).cell rfl
          have hc1 : ∀ W, Kept W3 W → W.cell? ⟨G, 1, none⟩ = some (.slice (some ⟨g, 0, none⟩) N N) := fun W hW => (HAR.out.below hW.below HAG.out).cell rfl
          have HC0 := Lib.hid hc0
          have HC1 := Lib.hid hc1
          have K120 := Lib.hid h120
          have K130 := Lib.hid h130
          have K140 := Lib.hid h140
          have K150 := Lib.hid h150
          have K121 := Lib.hid h121
          have K131 := Lib.hid h131
          have K141 := Lib.hid h141
          have K151 := Lib.hid h151
          have hg26 : Tryd.prog.eqGuardType Tryd.prog.depth 26 = false := by kernel_rfl
          clear hc0 hc1 h120 h130 h140 h150 h121 h131 h141 h151 hW3 hG hd hlt ht
          go_loopw [53] (fun j W => ∃ q : Nat, j = .int .i64 q ∧ q ≤ 2 ∧ Kept W3 W) (fun j _ => 2 - (intOf j).toNat)
          case atStart => exact ⟨0, rfl, by omega, Kept.refl _⟩
          case round =>
            obtain ⟨q, rfl, hq, hK⟩ := hrel
            have hqq : q = 0 ∨ q = 1 ∨ q = 2 := by omega
            clear hq
            rcases hqq with rfl | rfl | rfl
            · have hcc := HC0.out wr hK
              go_wp2_with (first
                | (refine (K120.out _ hK).mono ?_; rintro e w2 ⟨rfl, hK2⟩)
                | (refine (K130.out _ hK2).mono ?_; rintro e w3 ⟨rfl, hK3⟩)
                | (refine (K140.out _ hK3).mono ?_; rintro e w4 ⟨rfl, hK4⟩)
                | (refine (K150.out _ hK4).mono ?_; rintro e w5 ⟨rfl, hK5⟩))
              go_roundw
              case rel => exact ⟨1, rfl, by omega, hK5⟩
              case measure => simp [intOf]
            · have hcc := HC1.out wr hK
              go_wp2_with (first
                | (refine (K121.out _ hK).mono ?_; rintro e w2 ⟨rfl, hK2⟩)
                | (refine (K131.out _ hK2).mono ?_; rintro e w3 ⟨rfl, hK3⟩)
                | (refine (K141.out _ hK3).mono ?_; rintro e w4 ⟨rfl, hK4⟩)
                | (refine (K151.out _ hK4).mono ?_; rintro e w5 ⟨rfl, hK5⟩))
              go_roundw
              case rel => exact ⟨2, rfl, by omega, hK5⟩
              case measure => simp [intOf]
            · go_wp2
              go_ret
              exact ⟨rfl, HTA.out.trans (hK.below.mono HTA.out.size)⟩
    · have d2 : decide (300 < (s.size : Int)) = true := by simp; omega
      go_enter Tryd.func3, Tryd.ntmps3
      go_wp2_with fail
      refine HSN.out.mono ?_
      rintro e w0 ⟨rfl, hB0⟩
      have HB0 := Lib.hid hB0
      clear hB0
      go_wp2
      go_ret
      exact ⟨rfl, HB0.out⟩
  · have d1 : decide (300 < (n : Int)) = true := by simp; omega
    go_enter Tryd.func3, Tryd.ntmps3
    go_wp2_with fail
    refine HSN.out.mono ?_
    rintro e w0 ⟨rfl, hB0⟩
    have HB0 := Lib.hid hB0
    clear hB0
    go_wp2
    go_ret
    exact ⟨rfl, HB0.out⟩
end Go.Proofs.YtnddejhbncgchaaDoor
