/- The reference's Check. -/
import Derived.Test.YtjancbjjeemedaaNil
namespace Go.Proofs.Ytjancbjjeemedaa
open Go.RowKit

theorem okOne_iff (p : Int × Int) : okOne p = true ↔ (0 ≤ p.1 ∧ p.1 < 24) ∧ (0 ≤ p.2 ∧ p.2 < 24) ∧ p.1 < p.2 := by
  unfold okOne okPair
  simp only [Bool.and_eq_true, decide_eq_true_eq]
  omega
theorem okOne_no {p : Int × Int} (h : ¬ ((0 ≤ p.1 ∧ p.1 < 24) ∧ (0 ≤ p.2 ∧ p.2 < 24) ∧ p.1 < p.2)) : okOne p = false := by
  cases e : okOne p with
  | false => rfl
  | true => exact absurd ((okOne_iff p).1 e) h

set_option maxRecDepth 100000 in
set_option maxHeartbeats 8000000 in
theorem rchk_any (w : World) (v : Value) (n : Nt) (h : NtAt w w.heap.size v n) : Calls Try.prog 14 #[v] w fun e w' => e = .returned (.int .i64 (if n.ok then 0 else 60)) ∧ Below w.heap.size w w' := by
  obtain ⟨qa, qc, aa, ac, rfl, l1, l2, l3, l4, hq, ha⟩ := h.open
  unfold Nt.ok
  obtain ⟨q, ap⟩ := n
  dsimp only at hq ha l1 l3 ⊢
  obtain ⟨N, hN⟩ : ∃ x, q.length = x := ⟨_, rfl⟩
  obtain ⟨M, hM⟩ : ∃ x, ap.length = x := ⟨_, rfl⟩
  rw [hN] at l1 hq ⊢
  rw [hM] at l3 ha ⊢
  have HQ := Lib.hid hq
  have HA := Lib.hid ha
  have HN := Lib.hid hN
  have HM := Lib.hid hM
  unfold maxLen at l2 l4
  have hr : okQ q = (decide (N ≤ 4096) && q.all okPk) := by rw [← hN]; rfl
  rw [hr]
  obtain ⟨X, hX⟩ : ∃ X, w.alloc (Obj.cells #[.slice qa N qc, .slice aa M ac] 25) = X := ⟨_, rfl⟩
  have hb : Below w.heap.size w X := by rw [← hX]; go_grown
  have hA : Arr X w.heap.size [.slice qa N qc, .slice aa M ac] := by rw [← hX]; exact Arr.new w #[.slice qa N qc, .slice aa M ac] 25
  have HX := Lib.hid hX
  have HB := Lib.hid hb
  have HA0 := Lib.hid hA
  have hzX : X.heap.size = w.heap.size + 1 := by rw [← hX, World.size_alloc]
  have HS := Lib.hid (fun W a => rsite_any W a)
  clear h hq ha hN hM hX hb hA hr
  have cz : ∀ W, Below X.heap.size X W → W.cell? ⟨w.heap.size, 0, none⟩ = some (.slice qa N qc) ∧ W.cell? ⟨w.heap.size, 1, none⟩ = some (.slice aa M ac) := fun W hW => by
    have := HA0.out.below hW (by omega)
    exact ⟨this.cell rfl, this.cell rfl⟩
  have HCZ := Lib.hid cz
  clear cz
  by_cases hlong : N ≤ 4096
  · have d0 : decide (4096 < (N : Int)) = false := by simp; omega
    have d1 : decide (N ≤ 4096) = true := by simpa using hlong
    rw [d1, Bool.true_and]
    obtain ⟨rq, hrq⟩ : ∃ r, q.all okPk = r := ⟨_, rfl⟩
    have HRQ := Lib.hid hrq
    rw [hrq]
    obtain ⟨res, hres⟩ : ∃ r, okA ap = r := ⟨_, rfl⟩
    have HRES := Lib.hid hres
    rw [hres]
    clear hrq hres
    obtain ⟨c0, c1⟩ := HCZ.out X (Below.refl _ _)
    rw [← HX.out] at c0 c1
    go_enter Try.func14, Try.ntmps14
    go_wp2_with fail
    rw [HX.out]
    clear c0 c1
    go_loopw [3] (fun i wr => ∃ j : Nat, i = .int .i64 j ∧ j ≤ N ∧ Below X.heap.size X wr ∧ Hid (∀ i (h : i < q.length), i < j → okPk q[i] = true)) (fun i _ => N - (intOf i).toNat)
    case atStart => exact ⟨0, rfl, by omega, Below.refl _ _, Lib.hid fun i _ h => by omega⟩
    case round =>
      obtain ⟨j, rfl, hj, hb, hall⟩ := hrel
      obtain ⟨c0, c1⟩ := HCZ.out wr hb
      by_cases hlt : j < N
      · have d : decide ((j : Int) < (N : Int)) = true := by simp; omega
        have ji : (j : Int) < (N : Int) := by omega
        have hjl : j < q.length := by rw [HN.out]; exact hlt
        obtain ⟨b, off, rfl, hbl, _, p0, p1, da, dc, p2, _, _, _⟩ := (HQ.out.below (HB.out.trans (hb.mono HB.out.size))).got j hjl
        have hv := fun W => rpk_any W (q[j]'hjl) da dc
        have hmem : q[j]'hjl ∈ q := List.getElem_mem _
        obtain ⟨p, hp⟩ : ∃ p, q[j]'hjl = p := ⟨_, rfl⟩
        rw [hp] at p0 p1 p2
        simp only [hp] at hv
        have HALL : Hid (okPk p = true → ∀ i (h : i < q.length), i < j + 1 → okPk q[i] = true) := Lib.hid fun hv i h hi => by
          by_cases h2 : i < j
          · exact hall.out i h h2
          · obtain rfl : i = j := by omega
            rw [hp]; exact hv
        have HNO : Hid (okPk p = false → rq = false) := Lib.hid fun hv => by
          rw [← HRQ.out]
          cases he : q.all okPk
          · rfl
          · have := List.all_eq_true.1 he _ hmem
            rw [hp, hv] at this; cases this
        obtain ⟨fr, to, dt⟩ := p
        dsimp only at p0 p1 p2 hv
        obtain ⟨t, ht⟩ : ∃ t, okPk ⟨fr, to, dt⟩ = t := ⟨_, rfl⟩
        rw [ht] at HALL HNO
        simp only [ht] at hv
        obtain ⟨n, hn⟩ : ∃ n, dt.length = n := ⟨_, rfl⟩
        rw [hn] at p2
        simp only [hn] at hv
        have HV := Lib.hid hv
        have HBW := Lib.hid hb
        clear hv hmem hp hb hall ht hn
        go_wp2_with fail
        refine (HV.out _).mono ?_
        rintro e w4 ⟨rfl, hb4⟩
        have HF : Hid (Below X.heap.size X w4) := Lib.hid (HBW.out.trans (hb4.mono HBW.out.size))
        clear hb4 p0 p1 p2 c0 c1
        cases t with
        | false =>
          obtain rfl := HNO.out rfl
          go_wp2
          go_ret
          exact ⟨by simp, HB.out.trans (HF.out.mono HB.out.size)⟩
        | true =>
          have HAL := Lib.hid (HALL.out rfl)
          clear HALL HNO
          go_wp2_with fail
          go_roundw
          case rel => exact ⟨j + 1, by go_num, by omega, HF.out, HAL⟩
          case measure => simp [intOf]; omega
      · obtain rfl : j = N := by omega
        have d : decide ((j : Int) < (j : Int)) = false := by simp
        obtain rfl : true = rq := by rw [← HRQ.out]; exact (okQ_all HN.out fun i hi hij => hall.out i hi hij).symm
        have HBW := Lib.hid hb
        clear hb hall HRQ
        go_wp2
        go_loopw [4] (fun i wr => ∃ m : Nat, i = .int .i64 m ∧ m ≤ M ∧ Below X.heap.size X wr ∧ Hid (okRest ap m = res)) (fun i _ => M - (intOf i).toNat)
        case atStart => exact ⟨0, rfl, by omega, HBW.out, Lib.hid HRES.out⟩
        case round =>
          clear HBW HRES c0 c1
          obtain ⟨m, rfl, hm, hb, hst⟩ := hrel
          obtain ⟨c0, c1⟩ := HCZ.out wr hb
          have HBW := Lib.hid hb
          by_cases hlt : m < M
          · have dm : decide ((m : Int) < (M : Int)) = true := by simp; omega
            have mi : (m : Int) < (M : Int) := by omega
            have hml : m < ap.length := by rw [HM.out]; exact hlt
            have haw := HA.out.below (HB.out.trans (hb.mono HB.out.size))
            obtain ⟨b, off, rfl, hbl, _, p0, p1⟩ := haw.got m hml
            have hstep := okRest_step ap m hml
            rw [hst.out] at hstep
            have hpv : 0 < m → wr.cell? ⟨b, off + (m - 1) * 2, none⟩ = some (.int .i64 (ap.getD (m - 1) (0, 0)).1) ∧ wr.cell? ⟨b, off + (m - 1) * 2 + 1, none⟩ = some (.int .i64 (ap.getD (m - 1) (0, 0)).2) := fun h0 => by
              have hml' : m - 1 < ap.length := by omega
              obtain ⟨b', off', e, _, _, k0, k1⟩ := haw.got (m - 1) hml'
              cases e
              rw [getD_eq _ _ _ hml']
              exact ⟨k0, k1⟩
            obtain ⟨p, hp⟩ : ∃ p, ap[m]'hml = p := ⟨_, rfl⟩
            rw [hp] at p0 p1 hstep
            obtain ⟨pp, hpp⟩ : ∃ p, ap.getD (m - 1) (0, 0) = p := ⟨_, rfl⟩
            rw [hpp] at hpv hstep
            obtain ⟨x, y⟩ := p
            obtain ⟨px, py⟩ := pp
            dsimp only at p0 p1 hpv
            obtain ⟨W, hW⟩ : ∃ W, wr.alloc (.cells #[.int .i64 x, .int .i64 y] 55) = W := ⟨_, rfl⟩
            have hbW : Below wr.heap.size wr W := by rw [← hW]; go_grown
            have hAW : Arr W wr.heap.size [.int .i64 x, .int .i64 y] := by rw [← hW]; exact Arr.new wr #[.int .i64 x, .int .i64 y] 55
            have a0 : W.cell? ⟨wr.heap.size, 0, none⟩ = some (.int .i64 x) := hAW.cell rfl
            have a1 : W.cell? ⟨wr.heap.size, 1, none⟩ = some (.int .i64 y) := hAW.cell rfl
            obtain ⟨c0', c1'⟩ := HCZ.out W (hb.trans (hbW.mono hb.size))
            have hbl2 : b < wr.heap.size := Nat.lt_of_lt_of_le hbl (HB.out.trans (hb.mono HB.out.size)).size
            have k0 := fun h0 => (hbW.cell (p := ⟨b, off + (m - 1) * 2, none⟩) hbl2).trans (hpv h0).1
            have k1 := fun h0 => (hbW.cell (p := ⟨b, off + (m - 1) * 2 + 1, none⟩) hbl2).trans (hpv h0).2
            have HBF : Hid (Below X.heap.size X W) := Lib.hid (hb.trans (hbW.mono hb.size))
            have HWE := Lib.hid hW
            obtain ⟨sx, hsx⟩ : ∃ s, (decide (0 ≤ x) && decide (x < 24)) = s := ⟨_, rfl⟩
            obtain ⟨sy, hsy⟩ : ∃ s, (decide (0 ≤ y) && decide (y < 24)) = s := ⟨_, rfl⟩
            have hvx := fun W => HS.out W x
            have hvy := fun W => HS.out W y
            rw [hsx] at hvx
            rw [hsy] at hvy
            have HVX := Lib.hid hvx
            have HVY := Lib.hid hvy
            have hbad : ¬ (sx = true ∧ sy = true ∧ x < y) → res = false := fun h => by
              rw [hstep, okOne_no (fun h' => h ⟨by rw [← hsx]; simp [h'.1], by rw [← hsy]; simp [h'.2.1], h'.2.2⟩), Bool.false_and]
            have hgood : sx = true ∧ sy = true ∧ x < y → res = ((decide (m = 0) || pairLt (px, py) (x, y)) && okRest ap (m + 1)) := fun ⟨h1, h2, h3⟩ => by
              rw [← hsx] at h1
              rw [← hsy] at h2
              simp only [Bool.and_eq_true, decide_eq_true_eq] at h1 h2
              rw [hstep, (okOne_iff (x, y)).2 ⟨h1, h2, h3⟩, Bool.true_and]
            have HGOOD := Lib.hid hgood
            have HBAD := Lib.hid hbad
            rw [← HWE.out] at a0 a1
            clear hb hst haw hstep hpv hp hpp hW hbW hAW hsx hsy hvx hvy hbad hgood hbl2
            rw [← HWE.out] at c0' c1'
            cases sx with
            | false =>
              obtain rfl := HBAD.out (fun h => by cases h.1)
              clear HGOOD HBAD k0 k1
              go_wp2_with fail
              refine (HVX.out _).mono ?_
              rintro e w4 ⟨rfl, rfl⟩
              go_wp2
              rw [HWE.out]
              go_ret
              exact ⟨by simp, HB.out.trans (HBF.out.mono HB.out.size)⟩
            | true =>
            cases sy with
            | false =>
              obtain rfl := HBAD.out (fun h => by cases h.2.1)
              clear HGOOD HBAD k0 k1
              go_wp2_with fail
              refine (HVX.out _).mono ?_
              rintro e w4 ⟨rfl, rfl⟩
              go_wp2_with fail
              refine (HVY.out _).mono ?_
              rintro e w4 ⟨rfl, rfl⟩
              go_wp2
              rw [HWE.out]
              go_ret
              exact ⟨by simp, HB.out.trans (HBF.out.mono HB.out.size)⟩
            | true =>
            by_cases hxy : x < y
            · have hg := HGOOD.out ⟨rfl, rfl, hxy⟩
              have dxy : decide (y ≤ x) = false := by simp; omega
              clear HGOOD HBAD
              go_wp2_with fail
              refine (HVX.out _).mono ?_
              rintro e w4 ⟨rfl, rfl⟩
              go_wp2_with fail
              refine (HVY.out _).mono ?_
              rintro e w4 ⟨rfl, rfl⟩
              by_cases hj0 : m = 0
              · subst hj0
                have hst2 : okRest ap (0 + 1) = res := by rw [hg]; simp
                have HST := Lib.hid hst2
                clear hg k0 k1 hst2
                go_wp2
                go_quiet (fail)
                go_wp2
                rw [HWE.out]
                go_roundw
                case rel => exact ⟨0 + 1, by go_num, by omega, below_drewN HBF.out _, HST⟩
                case measure => simp [intOf]; omega
              · have k0 := k0 (by omega)
                have k1 := k1 (by omega)
                rw [← HWE.out] at k0 k1
                obtain ⟨t, ht⟩ : ∃ t, m - 1 = t := ⟨_, rfl⟩
                have hjm : (m : Int) - 1 = (t : Int) := by omega
                have hwj : IntKind.i64.wrap ((m : Int) - 1) = (t : Int) := by rw [IntKind.wrap_i64]; omega
                have htM : t < M := by omega
                have ti : (t : Int) < (M : Int) := by omega
                have dm0 : decide ((0 : Int) < (m : Int)) = true := by simp; omega
                have dm1 : decide (0 < m) = true := by simp; omega
                have em0 : decide (m = 0) = false := by simpa using hj0
                rw [em0, Bool.false_or] at hg
                rw [ht] at k0 k1
                clear hj0 em0 ht
                by_cases hx1 : x < px
                · have dx1 : decide (x < px) = true := by simpa using hx1
                  have hpl : pairLt (px, py) (x, y) = false := by unfold pairLt; simp; omega
                  obtain rfl : res = false := by rw [hg, hpl, Bool.false_and]
                  clear hg hx1
                  go_wp2
                  go_quiet (fail)
                  go_wp2
                  rw [HWE.out]
                  go_ret
                  exact ⟨by simp, HB.out.trans ((below_drewN HBF.out _).mono HB.out.size)⟩
                · have dx1 : decide (x < px) = false := by simpa using hx1
                  by_cases hx2 : x = px
                  · have dx2 : (x == px) = true := by simpa using hx2
                    by_cases hy : y ≤ py
                    · have dy : decide (y ≤ py) = true := by simpa using hy
                      have hpl : pairLt (px, py) (x, y) = false := by unfold pairLt; simp; omega
                      obtain rfl : res = false := by rw [hg, hpl, Bool.false_and]
                      clear hg hx1 hx2 hy
                      go_wp2
                      go_quiet (fail)
                      go_wp2
                      rw [HWE.out]
                      go_ret
                      exact ⟨by simp, HB.out.trans ((below_drewN HBF.out _).mono HB.out.size)⟩
                    · have dy : decide (y ≤ py) = false := by simpa using hy
                      have hpl : pairLt (px, py) (x, y) = true := by unfold pairLt; simp; omega
                      have hst2 : okRest ap (m + 1) = res := by rw [hg, hpl, Bool.true_and]
                      have HST := Lib.hid hst2
                      clear hg hx1 hx2 hy hst2 hpl
                      go_wp2
                      go_quiet (fail)
                      go_wp2
                      rw [HWE.out]
                      go_roundw
                      case rel => exact ⟨m + 1, by go_num, by omega, below_drewN HBF.out _, HST⟩
                      case measure => simp [intOf]; omega
                  · have dx2 : (x == px) = false := by simpa using hx2
                    have hpl : pairLt (px, py) (x, y) = true := by unfold pairLt; simp; omega
                    have hst2 : okRest ap (m + 1) = res := by rw [hg, hpl, Bool.true_and]
                    have HST := Lib.hid hst2
                    clear hg hx1 hx2 hst2 hpl
                    go_wp2
                    go_quiet (fail)
                    go_wp2
                    rw [HWE.out]
                    go_roundw
                    case rel => exact ⟨m + 1, by go_num, by omega, below_drewN HBF.out _, HST⟩
                    case measure => simp [intOf]; omega
            · obtain rfl := HBAD.out (fun h => hxy h.2.2)
              have dxy : decide (y ≤ x) = true := by simp; omega
              clear HGOOD HBAD k0 k1
              go_wp2_with fail
              refine (HVX.out _).mono ?_
              rintro e w4 ⟨rfl, rfl⟩
              go_wp2_with fail
              refine (HVY.out _).mono ?_
              rintro e w4 ⟨rfl, rfl⟩
              go_wp2
              rw [HWE.out]
              go_ret
              exact ⟨by simp, HB.out.trans (HBF.out.mono HB.out.size)⟩
          · obtain rfl : m = M := by omega
            have dm : decide ((m : Int) < (m : Int)) = false := by simp
            obtain rfl : true = res := by rw [← hst.out]; exact (okRest_end ap m HM.out).symm
            clear hb hst
            go_wp2
            go_ret
            exact ⟨rfl, HB.out.trans (HBW.out.mono HB.out.size)⟩
  · have d0 : decide (4096 < (N : Int)) = true := by simp; omega
    have d1 : decide (N ≤ 4096) = false := by simpa using hlong
    rw [d1, Bool.false_and, Bool.false_and]
    obtain ⟨c0, c1⟩ := HCZ.out X (Below.refl _ _)
    rw [← HX.out] at c0 c1
    go_enter Try.func14, Try.ntmps14
    go_wp2
    rw [HX.out]
    go_ret
    exact ⟨rfl, HB.out⟩
end Go.Proofs.Ytjancbjjeemedaa
