/- Write of the reference. -/
import Derived.Test.YtmklchjgiaomkaaRrd
namespace Go.Proofs.Ytmklchjgiaomkaa
open Go.RowKit

theorem own_bytes {w : World} {B n cap g : Nat} {l : By} (h : w.ownsRow B 5 1 (.slice (some ⟨g, 0, none⟩) n cap) n (cells8 l)) : B ≤ g ∧ g < w.heap.size ∧ n ≤ cap ∧ cap ≤ maxLen ∧ Arr w g (cells8 l) := own_arr h
theorem rep_snoc (m : Nat) : List.replicate m (0 : UInt8) ++ [0] = List.replicate (m + 1) 0 := by rw [List.replicate_succ']

/-- A run of append of bytes to a row of the call's own. -/
theorem app_bytes {W : World} {base g n cap : Nat} {l : By} (hown : W.ownsRow base 5 1 (.slice (some ⟨g, 0, none⟩) n cap) n (cells8 l)) {v : Value} {m : Nat} {y : By} (hv : Piece W v m (cells8 y)) (hy : y.length = m) (hb : base ≤ W.heap.size) (hm : n + m ≤ 100000) :
    ∃ g' cap' W', (∀ ty, ty = 35 → (Builtin.append_ #[35, 35] ty #[.slice (some ⟨g, 0, none⟩) n cap, v]).run Try.prog W = .ok (.slice (some ⟨g', 0, none⟩) (n + m) cap') W') ∧ W'.ownsRow base 5 1 (.slice (some ⟨g', 0, none⟩) (n + m) cap') (n + m) (cells8 (l ++ y)) ∧ Below base W W' ∧ base ≤ g' ∧ g' < W'.heap.size := by
  obtain ⟨i0, hi, hz0, hz1, hz2⟩ := info_parts Try.info5
  obtain ⟨g', cap', W', h1, h2, h3, h4⟩ := piece_run 35 5 i0 _ 1 1 Try.underlying35 hi hz0 hz1 hz2 rfl (by decide) hown hv (by rw [cells8_len, hy]; omega) (one_cells8 y) (by unfold maxLen; omega) (by omega) hb 35
  rw [← cells8_app] at h2
  have hg := (own_arr hown).1
  have hB : Below base W W' := below_grow (Below.refl _ _) h3 (fun j hj => by cases hj; exact hg) hb
  exact ⟨g', cap', W', fun ty hty => by subst hty; exact h1, h2, hB, (own_arr h2).1, (own_arr h2).2.1⟩

/-- The length of a slice. -/
def lenOfV : Value → Nat
  | .slice _ n _ => n
  | _ => 0

set_option maxHeartbeats 4000000 in
theorem rwrite_any (w : World) (d : Dk) (v vb : Value) (n : Int) (b : By) (h : DkAt w w.heap.size v d) (hb : BytesAt w w.heap.size vb b) (hn : In64 n) :
    Calls Try.prog 20 #[v, .int .i64 n, vb] w fun e w' => ∃ u, e = .returned (.tuple #[u, .int .i64 (d.write n b).2]) ∧ DkAt w' w'.heap.size u (d.write n b).1 ∧ Below w.heap.size w w' := by
  have H := Lib.hid h
  have HBY := Lib.hid hb
  obtain ⟨sa, cs, ap, cp, rfl, _, hc1, hc2, hp1, hp2, hS, hP⟩ := h.open
  obtain ⟨ba, bc, rfl, hb1, hb2⟩ := bytes_shape hb
  have hchk : ∀ W, Below w.heap.size w W → Calls Try.prog 16 #[.agg #[.slice sa d.sec.length cs, .slice ap d.pen.length cp, .int .i64 d.left, .bool d.stop]] W fun e w' => e = .returned (.int .i64 (if d.ok then 0 else 40)) ∧ Below W.heap.size W w' := fun W hW => rcheck_any W d _ (H.out.next hW)
  have hbad : (d.ok = false ∨ d.stop = true ∨ n < 0 ∨ (d.sec.length : Int) ≤ n) → d.write n b = (Dk.zero, 40) := fun hc => by
    unfold Dk.write; rw [if_neg]
    intro hh
    obtain ⟨h1, h2⟩ := Bool.and_eq_true_iff.1 hh
    obtain ⟨h3, h4⟩ := runs_ok h1
    have h5 := has_iff.1 h2
    rcases hc with hc | hc | hc | hc
    · rw [h3] at hc; cases hc
    · rw [h4] at hc; cases hc
    · omega
    · omega
  have hrun : d.ok = true → d.stop = false → 0 ≤ n → n < d.sec.length → (d.runs && d.has n) = true := fun h1 h2 h3 h4 => by
    rw [runs_of h1 h2, has_iff.2 ⟨h3, h4⟩]; rfl
  have harg : d.ok = true → d.stop = false → 0 ≤ n → n < d.sec.length → 128 < b.length → d.write n b = (Dk.zero, 1) := fun h1 h2 h3 h4 h5 => by
    unfold Dk.write; rw [if_pos (hrun h1 h2 h3 h4), if_pos h5]
  have hlim : d.ok = true → d.stop = false → 0 ≤ n → n < d.sec.length → ¬ 128 < b.length → d.pen.length = 4096 → d.write n b = (Dk.zero, 2) := fun h1 h2 h3 h4 h5 h6 => by
    unfold Dk.write; rw [if_pos (hrun h1 h2 h3 h4), if_neg h5, if_pos h6]
  have hgood : d.ok = true → d.stop = false → 0 ≤ n → n < d.sec.length → ¬ 128 < b.length → ¬ d.pen.length = 4096 → d.write n b = ({ d with pen := d.pen ++ [(n, pad b)] }, 0) ∧ d.pen.length ≤ 4096 := fun h1 h2 h3 h4 h5 h6 => by
    refine ⟨?_, (ok_lens h1).2.2.1⟩
    unfold Dk.write; rw [if_pos (hrun h1 h2 h3 h4), if_neg h5, if_neg h6]
  have hfin : ∀ W g cap cs' P, Below w.heap.size w W → Arr W g cs' → g < W.heap.size → d.pen.length + 1 ≤ cap → cap ≤ maxLen → penCells W P (d.pen ++ [(n, pad b)]) cs' → DkAt W W.heap.size (.agg #[.slice sa d.sec.length cs, .slice (some ⟨g, 0, none⟩) (d.pen.length + 1) cap, .int .i64 d.left, .bool d.stop]) { d with pen := d.pen ++ [(n, pad b)] } := fun W g cap cs' P hW hA hg hc hm hp => ⟨H.out.1, _, _, rfl, hS.next hW, hp.at hA hg (by simp) hc hm⟩
  obtain ⟨A, hA⟩ : ∃ A, d.write n b = A := ⟨_, rfl⟩
  obtain ⟨D, hD⟩ : ∃ D, ({ d with pen := d.pen ++ [(n, pad b)] } : Dk) = D := ⟨_, rfl⟩
  obtain ⟨r, hr⟩ : ∃ r, d.ok = r := ⟨_, rfl⟩
  obtain ⟨k, hk⟩ : ∃ k, d.sec.length = k := ⟨_, rfl⟩
  obtain ⟨p, hp⟩ : ∃ k, d.pen.length = k := ⟨_, rfl⟩
  obtain ⟨left, hle⟩ : ∃ x, d.left = x := ⟨_, rfl⟩
  obtain ⟨st, hst⟩ : ∃ x, d.stop = x := ⟨_, rfl⟩
  obtain ⟨q, hq⟩ : ∃ q, b.length = q := ⟨_, rfl⟩
  rw [hA] at hbad harg hlim hgood ⊢
  rw [hD] at hgood hfin
  rw [hr] at hchk hbad harg hlim hgood
  rw [hst] at hbad harg hlim hgood hchk hfin
  rw [hk] at hbad harg hlim hgood hchk hfin hc1
  rw [hp] at hlim hgood hchk hfin hp1 hP
  rw [hle] at hchk hfin
  rw [hq] at harg hlim hgood hb1 HBY
  rw [hk, hp, hle, hst, hq]
  have HC := Lib.hid hchk
  have HF := Lib.hid hfin
  have HBAD := Lib.hid hbad
  have HARG := Lib.hid harg
  have HLIM := Lib.hid hlim
  have HGOOD := Lib.hid hgood
  have HPE := Lib.hid hP
  have HPL := Lib.hid hp
  have HQL := Lib.hid hq
  have HP0 := Lib.hid (fun W => zero_at W W.heap.size)
  unfold maxLen at hc2 hp2 hb2
  clear h H hb hchk hfin hbad harg hlim hgood hrun hA hD hr hk hp hle hst hS hP hq
  obtain ⟨w0, hw0⟩ : ∃ w0, w0 = ((w.alloc (.cells #[.slice sa k cs, .slice ap p cp, .int .i64 left, .bool st] 25)).alloc (.cells #[.slice none 0 0, .slice none 0 0, .int .i64 0, .bool false] 25)) := ⟨_, rfl⟩
  have hz : w0.heap.size = w.heap.size + 1 + 1 := by rw [hw0]; simp
  have hX : Arr w0 w.heap.size [.slice sa k cs, .slice ap p cp, .int .i64 left, .bool st] := by
    rw [hw0]; exact (Arr.new w #[.slice sa k cs, .slice ap p cp, .int .i64 left, .bool st] 25).alloc (by simp) _
  have hY : Arr w0 (w.heap.size + 1) [.slice none 0 0, .slice none 0 0, .int .i64 0, .bool false] := by
    rw [hw0]
    have := Arr.new (w.alloc (.cells #[.slice sa k cs, .slice ap p cp, .int .i64 left, .bool st] 25)) #[.slice none 0 0, .slice none 0 0, .int .i64 0, .bool false] 25
    simpa using this
  have hB0 : Below w.heap.size w w0 := by rw [hw0]; go_grown
  have HW0 := Lib.hid hw0
  have HX := Lib.hid hX
  have HY := Lib.hid hY
  have HB0 := Lib.hid hB0
  have HZ := Lib.hid hz
  clear hX hY hB0 hz hw0
  go_enter Try.func20, Try.ntmps20
  go_wp2_with fail
  rw [← HW0.out]
  refine (HC.out _ HB0.out).mono ?_
  rintro e w1 ⟨rfl, hB1⟩
  have hb1' : Below w.heap.size w w1 := HB0.out.trans (hB1.mono (by rw [HZ.out]; omega))
  have HX1 := Lib.hid (HX.out.below hB1 (by rw [HZ.out]; omega))
  have HY1 := Lib.hid (HY.out.below hB1 (by rw [HZ.out]; omega))
  obtain ⟨e0, e1, e2, e3⟩ := HX1.out.four
  have HB1 := Lib.hid hb1'
  have hlt1 : w.heap.size + 1 < w1.heap.size := by have := hB1.size; rw [HZ.out] at this; omega
  clear hB1 hb1' HC
  by_cases hc : r = false ∨ st = true ∨ n < 0 ∨ (k : Int) ≤ n
  · obtain rfl := (HBAD.out hc).symm
    have hc' : r = false ∨ (r = true ∧ st = true) ∨ (r = true ∧ st = false ∧ decide (n < 0) = true) ∨ (r = true ∧ st = false ∧ decide (n < 0) = false ∧ decide ((k : Int) ≤ n) = true) := by
      cases r
      · exact .inl rfl
      · cases st
        · by_cases h : n < 0
          · exact .inr (.inr (.inl ⟨rfl, rfl, by simpa using h⟩))
          · exact .inr (.inr (.inr ⟨rfl, rfl, by simpa using h, by simp at hc ⊢; omega⟩))
        · exact .inr (.inl ⟨rfl, rfl⟩)
    clear hc
    rcases hc' with rfl | ⟨rfl, rfl⟩ | ⟨rfl, rfl, d1⟩ | ⟨rfl, rfl, d1, d2⟩
    all_goals
      go_wp2_with (refine store_disk rfl (.tmp 6) (.tmp 27) rfl (w.heap.size + 1) _ _ _ _ _ _ _ _ (by rfl) (by rfl) HY1.out rfl ?_; intro W3 hG3 hA3; obtain ⟨y0, y1, y2, y3⟩ := hA3.four)
      have hB3 := below_grow HB1.out hG3 (fun j hj => by cases hj; omega) (by omega)
      refine bodyPost_ret (v := .tuple #[.agg #[.slice none 0 0, .slice none 0 0, .int .i64 0, .bool false], .int .i64 40]) (by simp [results, Try.results20, go_sem, y0, y1, y2, y3]) rfl ⟨_, rfl, HP0.out _, hB3⟩
  obtain ⟨rfl, rfl, hn0, hnk⟩ : r = true ∧ st = false ∧ 0 ≤ n ∧ n < k := by
    cases r <;> cases st <;> simp at hc <;> exact ⟨rfl, rfl, by omega, by omega⟩
  have d1 : decide (n < 0) = false := by simp; omega
  have d2 : decide ((k : Int) ≤ n) = false := by simp; omega
  clear hc
  by_cases hq : 128 < q
  · obtain rfl := (HARG.out rfl rfl hn0 hnk hq).symm
    have d3 : decide (128 < (q : Int)) = true := by simp; omega
    go_wp2_with (refine store_disk rfl (.tmp 6) (.tmp 31) rfl (w.heap.size + 1) _ _ _ _ _ _ _ _ (by rfl) (by rfl) HY1.out rfl ?_; intro W3 hG3 hA3; obtain ⟨y0, y1, y2, y3⟩ := hA3.four)
    have hB3 := below_grow HB1.out hG3 (fun j hj => by cases hj; omega) (by omega)
    refine bodyPost_ret (v := .tuple #[.agg #[.slice none 0 0, .slice none 0 0, .int .i64 0, .bool false], .int .i64 1]) (by simp [results, Try.results20, go_sem, y0, y1, y2, y3]) rfl ⟨_, rfl, HP0.out _, hB3⟩
  have d3 : decide (128 < (q : Int)) = false := by simp; omega
  by_cases hp4 : p = 4096
  · obtain rfl := (HLIM.out rfl rfl hn0 hnk hq hp4).symm
    have d4 : ((p : Int) == 4096) = true := by simp; omega
    go_wp2_with (refine store_disk rfl (.tmp 6) (.tmp 36) rfl (w.heap.size + 1) _ _ _ _ _ _ _ _ (by rfl) (by rfl) HY1.out rfl ?_; intro W3 hG3 hA3; obtain ⟨y0, y1, y2, y3⟩ := hA3.four)
    have hB3 := below_grow HB1.out hG3 (fun j hj => by cases hj; omega) (by omega)
    refine bodyPost_ret (v := .tuple #[.agg #[.slice none 0 0, .slice none 0 0, .int .i64 0, .bool false], .int .i64 2]) (by simp [results, Try.results20, go_sem, y0, y1, y2, y3]) rfl ⟨_, rfl, HP0.out _, hB3⟩
  have d4 : ((p : Int) == 4096) = false := by simp; omega
  have d4' : (p == 4096) = false := by simpa using hp4
  obtain ⟨hA, hp5⟩ := HGOOD.out rfl rfl hn0 hnk hq hp4
  obtain rfl := hA.symm
  clear hA HBAD HARG HLIM HGOOD
  -- the copy of the bytes
  obtain ⟨w2, hw2⟩ : ∃ w2, w2 = w1.alloc (.cells #[] 5) := ⟨_, rfl⟩
  have hB2 : Below w1.heap.size w1 w2 := by rw [hw2]; go_grown
  have hown2 : w2.ownsRow w1.heap.size 5 1 (.slice (some ⟨w1.heap.size, 0, none⟩) 0 0) 0 (cells8 []) := by rw [hw2]; exact World.ownsRow_made (base := w1.heap.size) w1 #[] 0 (Nat.le_refl _) (by unfold maxLen; omega) rfl
  have hpc := piece_bytes ((HBY.out.below HB1.out).below (hB2.mono HB1.out.size))
  rw [HQL.out] at hpc
  obtain ⟨g2, c2, W3, hrun, hown3, hB3, hg2, hg3⟩ := app_bytes hown2 hpc HQL.out hB2.size (by omega)
  have hrun := hrun 35 rfl
  rw [Nat.zero_add] at hrun hown3
  rw [List.nil_append] at hown3
  rw [hw2] at hrun
  have HR := Lib.hid hrun
  have HB3 := Lib.hid (hB2.trans hB3)
  have HOWN := Lib.hid hown3
  clear hrun hB2 hB3 hown2 hown3 hpc hw2 hg2 hg3
  go_wp2_with (at_builtin; refine wpList_append_run rfl (.tmp 37) (.tmp 38) 35 35 rfl _ _ _ _ (by rfl) (by rfl) HR.out ?_)
  go_loopw [8] (fun u wr => ∃ g c m, u = .slice (some ⟨g, 0, none⟩) m c ∧ q ≤ m ∧ m ≤ 128 ∧ wr.ownsRow w1.heap.size 5 1 (.slice (some ⟨g, 0, none⟩) m c) m (cells8 (b ++ List.replicate (m - q) 0)) ∧ Below w1.heap.size w1 wr) (fun u _ => 128 - lenOfV u)
  case atStart => exact ⟨g2, c2, q, rfl, Nat.le_refl _, by omega, by rw [Nat.sub_self, List.replicate_zero, List.append_nil]; exact HOWN.out, HB3.out⟩
  case round =>
    obtain ⟨g, c, m, rfl, hqm, hm8, hown, hBr⟩ := hrel
    obtain ⟨og, olt, onc, ocm, oA⟩ := own_bytes hown
    have hBw : Below w.heap.size w wr := HB1.out.trans (hBr.mono (by omega))
    by_cases hlt : m < 128
    · have dm : decide ((m : Int) < 128) = true := by simp; omega
      have dm' : decide (m < 128) = true := by simpa using hlt
      obtain ⟨wa, hwa⟩ : ∃ wa, wa = wr.alloc (.cells #[.int .u8 0] 5) := ⟨_, rfl⟩
      have hBa : Below wr.heap.size wr wa := by rw [hwa]; go_grown
      have hpa : Piece wa (.slice (some ⟨wr.heap.size, 0, none⟩) 1 1) 1 (cells8 [0]) := by
        refine ⟨_, 1, rfl, .inr ⟨_, rfl, fun j u hu => ?_⟩⟩
        rw [Addr.add_mid, Nat.zero_add, hwa]
        have := (Arr.new wr #[.int .u8 0] 5).cell (i := j) (v := u) hu
        exact this
      obtain ⟨g', c', wb, hrun, hown', hBb, hg', hg''⟩ := app_bytes (own_keep hown hBa) hpa rfl (Nat.le_trans hBr.size hBa.size) (by omega)
      have hrun := hrun 35 rfl
      rw [hwa] at hrun
      have hnx : wb.ownsRow w1.heap.size 5 1 (.slice (some ⟨g', 0, none⟩) (m + 1) c') (m + 1) (cells8 (b ++ List.replicate (m + 1 - q) 0)) := by
        have : b ++ List.replicate (m - q) 0 ++ [0] = b ++ List.replicate (m + 1 - q) (0 : UInt8) := by
          rw [List.append_assoc, rep_snoc, show m - q + 1 = m + 1 - q by omega]
        rw [← this]; exact hown'
      have HR := Lib.hid hrun
      have HN := Lib.hid hnx
      have HBB := Lib.hid (hBr.trans ((hBa.mono hBr.size).trans hBb))
      clear hrun hnx hown hown' hBa hBb hBr hBw hwa hpa oA hg' hg''
      unfold maxLen at ocm
      go_wp2_with (at_builtin; refine wpList_append_run rfl (.tmp 43) (.tmp 44) 35 35 rfl _ _ _ _ (by rfl) (by rfl) HR.out ?_)
      go_roundw
      case rel => exact ⟨g', c', m + 1, rfl, by omega, by omega, HN.out, HBB.out⟩
      case measure => simp [lenOfV]; omega
    · obtain rfl : m = 128 := by omega
      have hBwz := hBw.size
      have hBrz := hBr.size
      have hXr := HX1.out.below hBr (by omega)
      have hYr := HY1.out.below hBr (by omega)
      obtain ⟨w3, hw3⟩ : ∃ w3, w3 = wr.alloc (.cells #[] 54) := ⟨_, rfl⟩
      have hz3 : w3.heap.size = wr.heap.size + 1 := by rw [hw3]; simp
      have hB3 : Below wr.heap.size wr w3 := by rw [hw3]; go_grown
      have hown3 : w3.ownsRow wr.heap.size 54 2 (.slice (some ⟨wr.heap.size, 0, none⟩) 0 0) 0 [] := by rw [hw3]; exact World.ownsRow_made (base := wr.heap.size) wr #[] 0 (Nat.le_refl _) (by unfold maxLen; omega) rfl
      obtain ⟨cs3, hcs3, hpc3⟩ := piece_pen (w := w3) (B := w.heap.size) (by omega) ((HPE.out.below hBw).below (hB3.mono hBw.size))
      rw [HPL.out] at hpc3
      obtain ⟨i0, hi, hz0, hz1, hz2⟩ := info_parts Try.info54
      obtain ⟨g4, c4, w4, hrun4, hown4, hG4, hg4⟩ := piece_run 23 54 i0 _ 2 32 Try.underlying23 hi hz0 hz1 hz2 rfl (by decide) hown3 hpc3 (by rw [hcs3.1, HPL.out]) (one_pen hcs3) (by unfold maxLen; omega) (by omega) (by omega) 23
      rw [Nat.zero_add, List.nil_append] at hown4
      rw [Nat.zero_add] at hrun4
      obtain ⟨og4, ol4, _, _, _⟩ := own_arr hown4
      have hG4z := hG4.size
      have hB4 : Below wr.heap.size wr w4 := below_grow hB3 hG4 (fun j hj => by cases hj; exact Nat.le_refl _) (by omega)
      obtain ⟨w5, hw5⟩ : ∃ w5, w5 = w4.alloc (.cells #[.int .i64 n, .slice (some ⟨g, 0, none⟩) 128 c] 54) := ⟨_, rfl⟩
      have hz5 : w5.heap.size = w4.heap.size + 1 := by rw [hw5]; simp
      have hB5 : Below w4.heap.size w4 w5 := by rw [hw5]; go_grown
      have hown5 := own_keep hown4 hB5
      have hpc5 : Piece w5 (.slice (some ⟨w4.heap.size, 0, none⟩) 1 1) 1 [.int .i64 n, .slice (some ⟨g, 0, none⟩) 128 c] := by
        refine ⟨_, 1, rfl, .inr ⟨_, rfl, fun j u hu => ?_⟩⟩
        rw [Addr.add_mid, Nat.zero_add, hw5]
        exact (Arr.new w4 #[.int .i64 n, .slice (some ⟨g, 0, none⟩) 128 c] 54).cell (i := j) (v := u) hu
      obtain ⟨g6, c6, w6, hrun6, hown6, hG6, hg6⟩ := piece_run 23 54 i0 _ 2 32 Try.underlying23 hi hz0 hz1 hz2 rfl (by decide) hown5 hpc5 rfl (by intro u hu; simp at hu; rcases hu with rfl | rfl <;> rfl) (by unfold maxLen; omega) (by omega) (by omega) 23
      obtain ⟨og6, ol6, onc6, ocm6, oA6⟩ := own_arr hown6
      have hG6z := hG6.size
      have hB6 : Below wr.heap.size wr w6 := below_grow (hB4.trans (hB5.mono hB4.size)) hG6 (fun j hj => by cases hj; exact og4) (by omega)
      have hX6 := hXr.below hB6 (by omega)
      have hY6 := hYr.below hB6 (by omega)
      have hpen6 : penCells w6 (fun x => x < w.heap.size ∨ w1.heap.size ≤ x) (d.pen ++ [(n, pad b)]) (cs3 ++ [.int .i64 n, .slice (some ⟨g, 0, none⟩) 128 c]) := by
        refine penCells.snoc ?_ hn ?_
        · refine hcs3.keep (fun x hx _ => ?_) (fun x hx _ => .inl hx) (by omega)
          have hx' : x < w.heap.size := hx
          exact (hB6.block x (by omega)).trans (hB3.block x (by omega)).symm
        · have hpad : pad b = b ++ List.replicate (128 - q) 0 := by unfold pad; rw [HQL.out]
          rw [hpad]
          have oA' := oA.below hB6 (by omega)
          exact oA'.bytesOn (by simp [HQL.out]; omega) (by omega) (.inr og) onc ocm
      have hfinal : ∀ W, w6.grownBy W (some w.heap.size) → W.grownBy W none → ∀ W', W.grownBy W' (some (w.heap.size + 1)) → DkAt W' W'.heap.size (.agg #[.slice sa k cs, .slice (some ⟨g6, 0, none⟩) (p + 1) c6, .int .i64 left, .bool false]) D := fun W hG _ W' hG' => by
        have hGz := hG.size
        have hGz' := hG'.size
        have hBf : Below w.heap.size w W' := below_grow (below_grow (hBw.trans (hB6.mono (by omega))) hG (fun j hj => by cases hj; exact Nat.le_refl _) (by omega)) hG' (fun j hj => by cases hj; omega) (by omega)
        refine HF.out W' g6 c6 _ (fun _ => True) hBf ((oA6.moved hG ol6 (by simp; omega)).moved hG' (by omega) (by simp; omega)) (by omega) onc6 ocm6 (hpen6.keep (fun x hx hl => ?_) (fun _ _ _ => trivial) (by omega))
        have hx' : x < w.heap.size ∨ w1.heap.size ≤ x := hx
        exact (hG'.block x (by omega) (by simp; omega)).trans (hG.block x hl (by simp; omega))
      have HRA := Lib.hid hrun4
      have HRB := Lib.hid hrun6
      rw [hw3] at hrun4
      rw [hw5] at hrun6
      have HR4 := Lib.hid hrun4
      have HR6 := Lib.hid hrun6
      have HFI := Lib.hid hfinal
      have HX6 := Lib.hid hX6
      have HY6 := Lib.hid hY6
      have HB6 := Lib.hid (hBw.trans (hB6.mono (by omega)))
      have hlt6 : w.heap.size + 1 < w6.heap.size := by omega
      have hX3 := hXr.below hB3 (by omega)
      obtain ⟨e0', e1', e2', e3'⟩ := hXr.four
      obtain ⟨x0, x1, x2, x3⟩ := hX3.four
      rw [hw3] at x0 x1 x2 x3
      obtain ⟨y0, y1, y2, y3⟩ := hX6.four
      obtain ⟨f0, f1, f2, f3⟩ := hX6.free
      obtain ⟨u0, u1, u2, u3⟩ := (hX6.set 1 (.slice (some ⟨g6, 0, none⟩) (p + 1) c6)).four
      have hYW := hY6.other (b' := w.heap.size) (by omega) 1 (.slice (some ⟨g6, 0, none⟩) (p + 1) c6)
      have HYW := Lib.hid hYW
      clear hrun4 hrun6 hfinal hX6 hY6 hB6 hX3 hXr hYr hw3 hw5 hB3 hB4 hB5 hown3 hown4 hown5 hown6 hcs3 hpc3 hpc5 hi hz0 hz1 hz2 hpen6 oA oA6 hG4 hG6 hown hBr hBw hYW e0 e1 e2 e3 hz3 hz5 HRA HRB
      go_wp2_with (first
        | (at_builtin; refine wpList_append_run rfl (.tmp 46) (.tmp 48) 23 23 rfl _ _ _ _ (by rfl) (by rfl) HR4.out ?_)
        | (at_builtin; refine wpList_append_run rfl (.tmp 49) (.tmp 53) 23 23 rfl _ _ _ _ (by rfl) (by rfl) HR6.out ?_)
        | (refine store_disk rfl (.tmp 6) (.tmp 56) rfl (w.heap.size + 1) _ _ _ _ _ _ _ _ (by rfl) (by rfl) HYW.out rfl ?_; intro W3 hG3 hA3; obtain ⟨v0, v1, v2, v3⟩ := hA3.four))
      have hGs := grown_setCell (W := w6) (b := w.heap.size) 1 (.slice (some ⟨g6, 0, none⟩) (p + 1) c6)
      have hBf := below_grow (below_grow HB6.out hGs (fun j hj => by cases hj; exact Nat.le_refl _) (by omega)) hG3 (fun j hj => by cases hj; omega) (by simp; omega)
      refine bodyPost_ret (v := .tuple #[.agg #[.slice sa k cs, .slice (some ⟨g6, 0, none⟩) (p + 1) c6, .int .i64 left, .bool false], .int .i64 0]) (by simp [results, Try.results20, go_sem, v0, v1, v2, v3]) rfl ⟨_, rfl, HFI.out _ hGs ⟨rfl, rfl, rfl, Nat.le_refl _, fun _ _ _ => rfl⟩ _ hG3, hBf⟩
end Go.Proofs.Ytmklchjgiaomkaa
