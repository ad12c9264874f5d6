/- Fonts, the reference: Check. -/
import Derived.Test.YtljgcpfibamdpaaDoorRfs
import Derived.Laws.EntriesVeiled
import Derived.Deep.QuietTactic
import Derived.BigQuiet
namespace Go.Proofs.YtljgcpfibamdpaaDoor
open Go.RowKit

theorem endB_low {l : List Tri} : ∀ {j : Nat}, (∀ i, i < j → okG l i = true) → -1 ≤ endB l j
  | 0, _ => by show -1 ≤ (if (0 : Nat) = 0 then (-1 : Int) else _); simp
  | j + 1, h => by
    have h1 := endB_low (j := j) (fun i hi => h i (by omega))
    obtain ⟨h2, h3, _⟩ := okG_iff.1 (h j (by omega))
    have : endB l (j + 1) = (l.getD j tri0).b := rfl
    omega
theorem inW_iff {n a b : Int} : inW n a b = true ↔ a ≤ n ∧ n ≤ b := by simp [inW]
theorem okG_ref {l : List Tri} {j : Nat} (h : ∀ i, i < j → okG l i = true) : okG l j = true ↔ inW (l.getD j tri0).a 0 1114111 = true ∧ inW (l.getD j tri0).b 0 1114111 = true ∧ (l.getD j tri0).a ≤ (l.getD j tri0).b ∧ isW (l.getD j tri0).c = true ∧ (j = 0 ∨ (l.getD (j - 1) tri0).b < (l.getD j tri0).a) := by
  have hlow := endB_low h
  rw [okG_iff, inW_iff, inW_iff]
  have he : endB l j = if j = 0 then -1 else (l.getD (j - 1) tri0).b := rfl
  constructor
  · rintro ⟨h1, h2, h3, h4⟩
    refine ⟨by omega, by omega, h2, h4, ?_⟩
    by_cases e : j = 0
    · exact .inl e
    · rw [if_neg e] at he; exact .inr (by omega)
  · rintro ⟨h1, h2, h3, h4, h5⟩
    refine ⟨?_, h3, h2.2, h4⟩
    by_cases e : j = 0
    · rw [if_pos e] at he; omega
    · rw [if_neg e] at he
      rcases h5 with h5 | h5
      · exact absurd h5 e
      · omega
theorem not_true {b : Bool} {p : Prop} (h : b = true ↔ p) (hp : ¬ p) : b = false := by
  cases b
  · rfl
  · exact absurd (h.1 rfl) hp

set_option maxRecDepth 100000 in
set_option maxHeartbeats 8000000 in
theorem rcheck_any (w : World) (v : Value) (f : Fo) (h : FAt w w.heap.size v f) : Calls Tryd.prog 19 #[v] w fun e w' => e = .returned (.int .i64 f.err) ∧ Below w.heap.size w w' := by
  obtain ⟨ga, gc, ka, kc, rfl, hg1, hg2, hk1, hk2, _, hg, hk⟩ := h.open
  unfold maxLen at hg2 hk2
  have HTG := Lib.hid hg
  have HTK := Lib.hid hk
  have HO := Lib.hid (fun W => rwid_any W f.o)
  have HR : Hid (f.right = (okGs f.gs && isW f.o && okKs f.ks)) := Lib.hid rfl
  unfold Fo.err
  obtain ⟨l, hl⟩ : ∃ l, f.gs = l := ⟨_, rfl⟩
  obtain ⟨m, hm⟩ : ∃ l, f.ks = l := ⟨_, rfl⟩
  obtain ⟨o, ho⟩ : ∃ l, f.o = l := ⟨_, rfl⟩
  obtain ⟨res, hres⟩ : ∃ l, f.right = l := ⟨_, rfl⟩
  obtain ⟨so, hso⟩ : ∃ l, isW o = l := ⟨_, rfl⟩
  rw [hl] at HTG hg1
  rw [hm] at HTK hk1
  rw [ho] at HO
  simp only [hso] at HO
  rw [hres, hl, ho, hm, hso] at HR
  rw [hl, hm, ho, hres]
  obtain ⟨G, hGe⟩ : ∃ G, l.length = G := ⟨_, rfl⟩
  obtain ⟨K, hKe⟩ : ∃ G, m.length = G := ⟨_, rfl⟩
  have HGE := Lib.hid hGe
  have HKE := Lib.hid hKe
  rw [hGe] at HTG hg1 ⊢
  rw [hKe] at HTK hk1 ⊢
  clear h hg hk hl hm ho hres hso hGe hKe
  by_cases h1 : 1024 < G
  · have d1 : decide (1024 < (G : Int)) = true := by simp; omega
    rw [if_pos (.inl h1)]
    clear h1
    go_enter Tryd.func19, Tryd.ntmps19
    go_wp2
    go_ret
    exact ⟨rfl, (Below.refl _ _).alloc (Nat.le_refl _) _⟩
  have d1 : decide (1024 < (G : Int)) = false := by simp; omega
  by_cases h2 : 1024 < K
  · have d2 : decide (1024 < (K : Int)) = true := by simp; omega
    rw [if_pos (.inr h2)]
    clear h1 h2
    go_enter Tryd.func19, Tryd.ntmps19
    go_wp2
    go_ret
    exact ⟨rfl, (Below.refl _ _).alloc (Nat.le_refl _) _⟩
  have d2 : decide (1024 < (K : Int)) = false := by simp; omega
  rw [if_neg (by omega)]
  clear h1 h2
  cases so with
  | false =>
    obtain rfl : res = false := by rw [HR.out]; simp
    go_enter Tryd.func19, Tryd.ntmps19
    go_wp2_with fail
    refine (HO.out _).mono ?_
    rintro e w1 ⟨rfl, rfl⟩
    go_wp2
    go_ret
    exact ⟨rfl, (Below.refl _ _).alloc (Nat.le_refl _) _⟩
  | true =>
    obtain ⟨z, hz⟩ : ∃ z : Int, (if res = true then 0 else 110) = z := ⟨_, rfl⟩
    have HBAD : Hid (res = false → z = 110) := Lib.hid (fun e => by rw [← hz, e]; rfl)
    have HGOOD : Hid (res = true → z = 0) := Lib.hid (fun e => by rw [← hz, e]; rfl)
    rw [hz]
    clear hz
    go_enter Tryd.func19, Tryd.ntmps19
    go_wp2_with fail
    have hA := Arr.new w #[.slice ga G gc, .int .i64 o, .slice ka K kc] 36
    have hB1 : Below w.heap.size w (w.alloc (.cells #[.slice ga G gc, .int .i64 o, .slice ka K kc] 36)) := (Below.refl _ _).alloc (Nat.le_refl _) _
    have hl1 : w.heap.size < (w.alloc (.cells #[.slice ga G gc, .int .i64 o, .slice ka K kc] 36)).heap.size := by simp
    obtain ⟨W1, hW1⟩ : ∃ W, w.alloc (.cells #[.slice ga G gc, .int .i64 o, .slice ka K kc] 36) = W := ⟨_, rfl⟩
    rw [hW1] at hA hB1 hl1 ⊢
    obtain ⟨g, hgg⟩ : ∃ g, w.heap.size = g := ⟨_, rfl⟩
    have HGG := Lib.hid hgg
    rw [hgg] at hA hl1 ⊢
    have HA := Lib.hid hA
    have HB1 := Lib.hid hB1
    have HL1 := Lib.hid hl1
    clear hW1 hA hB1 hl1 hgg
    refine (HO.out _).mono ?_
    rintro e w1 ⟨rfl, rfl⟩
    have HTG1 := Lib.hid (HTG.out.from HB1.out HB1.out.size)
    have HTK1 := Lib.hid (HTK.out.from HB1.out HB1.out.size)
    go_wp2
    go_loopw [3] (fun s3 wr => ∃ j : Nat, s3 = .int .i64 j ∧ j ≤ G ∧ Hid (Below w1.heap.size w1 wr) ∧ Hid (∀ i, i < j → okG l i = true)) (fun s3 _ => G - (intOf s3).toNat)
    case atStart => exact ⟨0, rfl, by omega, Lib.hid (Below.refl _ _), Lib.hid fun i h => by omega⟩
    case round =>
      obtain ⟨j, rfl, hj, HB, hall⟩ := hrel
      have hAr := HA.out.below HB.out HL1.out
      have c0 := hAr.cell (i := 0) rfl
      by_cases hlt : j < G
      · have d : decide ((j : Int) < (G : Int)) = true := by simp; omega
        have ij : (j : Int) < (G : Int) := by omega
        have hjl : j < l.length := by rw [HGE.out]; exact hlt
        have HOK := Lib.hid (okG_ref hall.out)
        have HNO : Hid (okG l j = false → z = 110) := Lib.hid fun hv => HBAD.out (by rw [HR.out]; unfold okGs; rw [all_no hjl hv]; rfl)
        have HALL : Hid (okG l j = true → ∀ i, i < j + 1 → okG l i = true) := Lib.hid fun hv i hi => by
          by_cases h2 : i < j
          · exact hall.out i h2
          · obtain rfl : i = j := by omega
            exact hv
        obtain ⟨b, off, rfl, hbl, _, p0, p1, p2⟩ := (HTG1.out.below HB.out).got j hjl
        have HPREV : Hid (0 < j → wr.cell? ⟨b, off + (j - 1) * 3 + 1, none⟩ = some (.int .i64 (l.getD (j - 1) tri0).b)) := Lib.hid (fun h0 => by
          obtain ⟨_, _, e0, _, _, _, s1, _⟩ := (HTG1.out.below HB.out).got (j - 1) (by omega)
          injection e0 with e0
          injection e0 with e1 e2
          rw [e1, e2]; exact s1)
        obtain ⟨t, ht⟩ : ∃ t, l.getD j tri0 = t := ⟨_, rfl⟩
        obtain ⟨pb, hpb⟩ : ∃ t, (l.getD (j - 1) tri0).b = t := ⟨_, rfl⟩
        rw [ht] at p0 p1 p2
        rw [ht, hpb] at HOK
        rw [hpb] at HPREV
        obtain ⟨x, y, zc⟩ := t
        dsimp only at p0 p1 p2 HOK
        have HP1 := Lib.hid (fun W => rpt_any W x)
        have HP2 := Lib.hid (fun W => rpt_any W y)
        have HP3 := Lib.hid (fun W => rwid_any W zc)
        obtain ⟨tx, htx⟩ : ∃ t, inW x 0 1114111 = t := ⟨_, rfl⟩
        obtain ⟨ty, hty⟩ : ∃ t, inW y 0 1114111 = t := ⟨_, rfl⟩
        obtain ⟨tz, htz⟩ : ∃ t, isW zc = t := ⟨_, rfl⟩
        simp only [htx] at HP1
        simp only [hty] at HP2
        simp only [htz] at HP3
        rw [htx, hty, htz] at HOK
        have hbr : b < wr.heap.size := Nat.lt_of_lt_of_le hbl HB.out.size
        have hgr : g < wr.heap.size := World.block_lt_of_cell? _ _ c0
        have hN := Arr.new wr #[.int .i64 x, .int .i64 y, .int .i64 zc] 47
        have hNB : Below wr.heap.size wr (wr.alloc (.cells #[.int .i64 x, .int .i64 y, .int .i64 zc] 47)) := (Below.refl _ _).alloc (Nat.le_refl _) _
        obtain ⟨WA, hWA⟩ : ∃ W, wr.alloc (.cells #[.int .i64 x, .int .i64 y, .int .i64 zc] 47) = W := ⟨_, rfl⟩
        have HWA := Lib.hid hWA
        rw [hWA] at hN hNB
        have HNA := Lib.hid hN
        have HNB := Lib.hid hNB
        have HXA : Hid (Below w1.heap.size w1 WA) := Lib.hid (HB.out.trans (hNB.mono HB.out.size))
        have HFA : Hid (Below w.heap.size w WA) := Lib.hid (HB1.out.trans (HXA.out.mono HB1.out.size))
        clear ht hpb htx hty htz hWA hN hNB hall hAr
        go_wp2
        rw [HWA.out]
        obtain ⟨q, hq⟩ : ∃ q, wr.heap.size = q := ⟨_, rfl⟩
        have HQ := Lib.hid hq
        rw [hq]
        have n0 := HNA.out.cell (i := 0) rfl
        have n1 := HNA.out.cell (i := 1) rfl
        have n2 := HNA.out.cell (i := 2) rfl
        rw [hq] at n0 n1 n2
        have c0A := (HNB.out.cell (p := ⟨g, 0, none⟩) hgr).trans c0
        clear hq c0 p0 p1 p2
        cases tx with
        | false =>
          have HBAD2 := Lib.hid (HNO.out (not_true HOK.out (fun h => by cases h.1)))
          clear HNO HALL HOK
          go_wp2_with fail
          go_quiet ((first | (go_at_call 41; with_reducible exact Calls.quiet_of_same (HP1.out _)) | (go_at_call 41; with_reducible exact Calls.quiet_of_same (HP2.out _)) | (go_at_call 40; with_reducible exact Calls.quiet_of_same (HP3.out _))))
          have HF : Hid (Below w.heap.size w (WA.drewN nq)) := Lib.hid (below_drewN HFA.out nq)
          have HX : Hid (Below w1.heap.size w1 (WA.drewN nq)) := Lib.hid (below_drewN HXA.out nq)
          obtain ⟨wd, hwd⟩ : ∃ wd, WA.drewN nq = wd := ⟨_, rfl⟩
          rw [hwd] at HF HX ⊢
          clear hwd
          go_wp2
          go_ret
          exact ⟨by rw [HBAD2.out]; rfl, HF.out⟩
        | true =>
          cases ty with
          | false =>
            have HBAD2 := Lib.hid (HNO.out (not_true HOK.out (fun h => by cases h.2.1)))
            clear HNO HALL HOK
            go_wp2_with fail
            go_quiet ((first | (go_at_call 41; with_reducible exact Calls.quiet_of_same (HP1.out _)) | (go_at_call 41; with_reducible exact Calls.quiet_of_same (HP2.out _)) | (go_at_call 40; with_reducible exact Calls.quiet_of_same (HP3.out _))))
            have HF : Hid (Below w.heap.size w (WA.drewN nq)) := Lib.hid (below_drewN HFA.out nq)
            have HX : Hid (Below w1.heap.size w1 (WA.drewN nq)) := Lib.hid (below_drewN HXA.out nq)
            obtain ⟨wd, hwd⟩ : ∃ wd, WA.drewN nq = wd := ⟨_, rfl⟩
            rw [hwd] at HF HX ⊢
            clear hwd
            go_wp2
            go_ret
            exact ⟨by rw [HBAD2.out]; rfl, HF.out⟩
          | true =>
            by_cases hxy : x ≤ y
            · have e1 : decide (y < x) = false := by simp; omega
              cases tz with
              | false =>
                have HBAD2 := Lib.hid (HNO.out (not_true HOK.out (fun h => by cases h.2.2.2.1)))
                clear HNO HALL HOK
                clear hxy
                go_wp2_with fail
                go_quiet ((first | (go_at_call 41; with_reducible exact Calls.quiet_of_same (HP1.out _)) | (go_at_call 41; with_reducible exact Calls.quiet_of_same (HP2.out _)) | (go_at_call 40; with_reducible exact Calls.quiet_of_same (HP3.out _))))
                have HF : Hid (Below w.heap.size w (WA.drewN nq)) := Lib.hid (below_drewN HFA.out nq)
                have HX : Hid (Below w1.heap.size w1 (WA.drewN nq)) := Lib.hid (below_drewN HXA.out nq)
                obtain ⟨wd, hwd⟩ : ∃ wd, WA.drewN nq = wd := ⟨_, rfl⟩
                rw [hwd] at HF HX ⊢
                clear hwd
                go_wp2
                go_ret
                exact ⟨by rw [HBAD2.out]; rfl, HF.out⟩
              | true =>
                by_cases hj0 : j = 0
                · have e2 : decide (0 < (j : Int)) = false := by simp; omega
                  have e2b : decide (0 < j) = false := by simp; omega
                  have HA2 := Lib.hid (HALL.out (HOK.out.2 ⟨rfl, rfl, hxy, rfl, .inl hj0⟩))
                  clear HNO HALL HOK hxy hj0
                  go_wp2_with fail
                  go_quiet ((first | (go_at_call 41; with_reducible exact Calls.quiet_of_same (HP1.out _)) | (go_at_call 41; with_reducible exact Calls.quiet_of_same (HP2.out _)) | (go_at_call 40; with_reducible exact Calls.quiet_of_same (HP3.out _))))
                  have HF : Hid (Below w.heap.size w (WA.drewN nq)) := Lib.hid (below_drewN HFA.out nq)
                  have HX : Hid (Below w1.heap.size w1 (WA.drewN nq)) := Lib.hid (below_drewN HXA.out nq)
                  obtain ⟨wd, hwd⟩ : ∃ wd, WA.drewN nq = wd := ⟨_, rfl⟩
                  rw [hwd] at HF HX ⊢
                  clear hwd
                  go_wp2
                  go_roundw
                  case rel => exact ⟨j + 1, by go_num, by omega, HX, HA2⟩
                  case measure => simp [intOf]; omega
                · have e2 : decide (0 < (j : Int)) = true := by simp; omega
                  have e2b : decide (0 < j) = true := by simp; omega
                  have cpA := (HNB.out.cell (p := ⟨b, off + (j - 1) * 3 + 1, none⟩) hbr).trans (HPREV.out (by omega))
                  have sub1 : (j : Int) - 1 = ((j - 1 : Nat) : Int) := by omega
                  have sub2 : IntKind.i64.wrap ((j - 1 : Nat) : Int) = ((j - 1 : Nat) : Int) := by rw [IntKind.wrap_i64]; omega
                  have sub3 : ((j - 1 : Nat) : Int) < (G : Int) := by omega
                  by_cases hpx : pb < x
                  · have e3 : decide (x ≤ pb) = false := by simp; omega
                    have HA2 := Lib.hid (HALL.out (HOK.out.2 ⟨rfl, rfl, hxy, rfl, .inr hpx⟩))
                    clear HNO HALL HOK hxy hj0 hpx
                    go_wp2_with fail
                    go_quiet ((first | (go_at_call 41; with_reducible exact Calls.quiet_of_same (HP1.out _)) | (go_at_call 41; with_reducible exact Calls.quiet_of_same (HP2.out _)) | (go_at_call 40; with_reducible exact Calls.quiet_of_same (HP3.out _))))
                    have HF : Hid (Below w.heap.size w (WA.drewN nq)) := Lib.hid (below_drewN HFA.out nq)
                    have HX : Hid (Below w1.heap.size w1 (WA.drewN nq)) := Lib.hid (below_drewN HXA.out nq)
                    obtain ⟨wd, hwd⟩ : ∃ wd, WA.drewN nq = wd := ⟨_, rfl⟩
                    rw [hwd] at HF HX ⊢
                    clear hwd
                    go_wp2
                    go_roundw
                    case rel => exact ⟨j + 1, by go_num, by omega, HX, HA2⟩
                    case measure => simp [intOf]; omega
                  · have e3 : decide (x ≤ pb) = true := by simp; omega
                    have HBAD2 := Lib.hid (HNO.out (not_true HOK.out (fun h => h.2.2.2.2.elim hj0 hpx)))
                    clear HNO HALL HOK
                    clear hxy hj0 hpx
                    go_wp2_with fail
                    go_quiet ((first | (go_at_call 41; with_reducible exact Calls.quiet_of_same (HP1.out _)) | (go_at_call 41; with_reducible exact Calls.quiet_of_same (HP2.out _)) | (go_at_call 40; with_reducible exact Calls.quiet_of_same (HP3.out _))))
                    have HF : Hid (Below w.heap.size w (WA.drewN nq)) := Lib.hid (below_drewN HFA.out nq)
                    have HX : Hid (Below w1.heap.size w1 (WA.drewN nq)) := Lib.hid (below_drewN HXA.out nq)
                    obtain ⟨wd, hwd⟩ : ∃ wd, WA.drewN nq = wd := ⟨_, rfl⟩
                    rw [hwd] at HF HX ⊢
                    clear hwd
                    go_wp2
                    go_ret
                    exact ⟨by rw [HBAD2.out]; rfl, HF.out⟩
            · have e1 : decide (y < x) = true := by simp; omega
              have HBAD2 := Lib.hid (HNO.out (not_true HOK.out (fun h => hxy h.2.2.1)))
              clear HNO HALL HOK
              clear hxy
              go_wp2_with fail
              go_quiet ((first | (go_at_call 41; with_reducible exact Calls.quiet_of_same (HP1.out _)) | (go_at_call 41; with_reducible exact Calls.quiet_of_same (HP2.out _)) | (go_at_call 40; with_reducible exact Calls.quiet_of_same (HP3.out _))))
              have HF : Hid (Below w.heap.size w (WA.drewN nq)) := Lib.hid (below_drewN HFA.out nq)
              have HX : Hid (Below w1.heap.size w1 (WA.drewN nq)) := Lib.hid (below_drewN HXA.out nq)
              obtain ⟨wd, hwd⟩ : ∃ wd, WA.drewN nq = wd := ⟨_, rfl⟩
              rw [hwd] at HF HX ⊢
              clear hwd
              go_wp2
              go_ret
              exact ⟨by rw [HBAD2.out]; rfl, HF.out⟩
      · have d : decide ((j : Int) < (G : Int)) = false := by simp; omega
        have hoks : okGs l = true := all_upto.2 fun i hi => hall.out i (by rw [HGE.out] at hi; omega)
        have HRK : Hid (res = okKs m) := Lib.hid (by rw [HR.out, hoks]; rfl)
        have c2 := hAr.cell (i := 2) rfl
        clear hoks hAr
        go_wp2
        go_loopw [5] (fun s5 wr => ∃ j : Nat, s5 = .int .i64 j ∧ j ≤ K ∧ Hid (Below w1.heap.size w1 wr) ∧ Hid (∀ i, i < j → okK m i = true)) (fun s5 _ => K - (intOf s5).toNat)
        case atStart => exact ⟨0, rfl, by omega, HB, Lib.hid fun i h => by omega⟩
        case round =>
          obtain ⟨i, rfl, hi, HB2, hall2⟩ := hrel
          have hAr2 := HA.out.below HB2.out HL1.out
          have k2 := hAr2.cell (i := 2) rfl
          clear c0 c2
          by_cases hlt2 : i < K
          · have dd : decide ((i : Int) < (K : Int)) = true := by simp; omega
            have ii : (i : Int) < (K : Int) := by omega
            have hil : i < m.length := by rw [HKE.out]; exact hlt2
            have HOK : Hid (okK m i = true ↔ okK1 (m.getD i tri0) = true ∧ (i = 0 ∨ ltK (m.getD (i - 1) tri0) (m.getD i tri0) = true)) := Lib.hid okK_iff
            have HNO : Hid (okK m i = false → z = 110) := Lib.hid fun hv => HBAD.out (by rw [HRK.out]; unfold okKs; exact all_no hil hv)
            have HALL : Hid (okK m i = true → ∀ i_1, i_1 < i + 1 → okK m i_1 = true) := Lib.hid fun hv q hq => by
              by_cases h2 : q < i
              · exact hall2.out q h2
              · obtain rfl : q = i := by omega
                exact hv
            obtain ⟨b, off, rfl, hbl, _, p0, p1, p2⟩ := (HTK1.out.below HB2.out).got i hil
            obtain ⟨pt, hpt⟩ : ∃ t, m.getD (i - 1) tri0 = t := ⟨_, rfl⟩
            have HPREV : Hid (0 < i → wr.cell? ⟨b, off + (i - 1) * 3, none⟩ = some (.int .i64 pt.a) ∧ wr.cell? ⟨b, off + (i - 1) * 3 + 1, none⟩ = some (.int .i64 pt.b)) := Lib.hid (fun h0 => by
              obtain ⟨_, _, e0, _, _, s0, s1, _⟩ := (HTK1.out.below HB2.out).got (i - 1) (by omega)
              injection e0 with e0
              injection e0 with e1 e2
              rw [e1, e2, ← hpt]; exact ⟨s0, s1⟩)
            obtain ⟨t, ht⟩ : ∃ t, m.getD i tri0 = t := ⟨_, rfl⟩
            rw [ht] at p0 p1 p2
            rw [ht, hpt, okK1_iff, ltK_iff] at HOK
            obtain ⟨x, y, zc⟩ := t
            obtain ⟨px, py, pz⟩ := pt
            dsimp only at p0 p1 p2 HOK HPREV
            have HP1 := Lib.hid (fun W => rpt_any W x)
            have HP2 := Lib.hid (fun W => rpt_any W y)
            obtain ⟨tx, htx⟩ : ∃ t, inW x 0 1114111 = t := ⟨_, rfl⟩
            obtain ⟨ty, hty⟩ : ∃ t, inW y 0 1114111 = t := ⟨_, rfl⟩
            have HTX := Lib.hid htx
            have HTY := Lib.hid hty
            simp only [htx] at HP1
            simp only [hty] at HP2
            have hbr : b < wr.heap.size := Nat.lt_of_lt_of_le hbl HB2.out.size
            have hgr : g < wr.heap.size := World.block_lt_of_cell? _ _ k2
            have hN := Arr.new wr #[.int .i64 x, .int .i64 y, .int .i64 zc] 49
            have hNB : Below wr.heap.size wr (wr.alloc (.cells #[.int .i64 x, .int .i64 y, .int .i64 zc] 49)) := (Below.refl _ _).alloc (Nat.le_refl _) _
            obtain ⟨WA, hWA⟩ : ∃ W, wr.alloc (.cells #[.int .i64 x, .int .i64 y, .int .i64 zc] 49) = W := ⟨_, rfl⟩
            have HWA := Lib.hid hWA
            rw [hWA] at hN hNB
            have HNA := Lib.hid hN
            have HNB := Lib.hid hNB
            have HXA : Hid (Below w1.heap.size w1 WA) := Lib.hid (HB2.out.trans (hNB.mono HB2.out.size))
            have HFA : Hid (Below w.heap.size w WA) := Lib.hid (HB1.out.trans (HXA.out.mono HB1.out.size))
            clear ht hpt htx hty hWA hN hNB hall2 hAr2
            go_wp2_with fail
            rw [HWA.out]
            obtain ⟨q, hq⟩ : ∃ q, wr.heap.size = q := ⟨_, rfl⟩
            rw [hq]
            have n0 := HNA.out.cell (i := 0) rfl
            have n1 := HNA.out.cell (i := 1) rfl
            have n2 := HNA.out.cell (i := 2) rfl
            rw [hq] at n0 n1 n2
            have k2A := (HNB.out.cell (p := ⟨g, 2, none⟩) hgr).trans k2
            have HPA : Hid (0 < i → WA.cell? ⟨b, off + (i - 1) * 3, none⟩ = some (.int .i64 px) ∧ WA.cell? ⟨b, off + (i - 1) * 3 + 1, none⟩ = some (.int .i64 py)) := Lib.hid (fun h0 => ⟨(HNB.out.cell (p := ⟨b, off + (i - 1) * 3, none⟩) hbr).trans (HPREV.out h0).1, (HNB.out.cell (p := ⟨b, off + (i - 1) * 3 + 1, none⟩) hbr).trans (HPREV.out h0).2⟩)
            clear hq k2 p0 p1 p2
            cases tx with
            | false =>
              have HBAD2 := Lib.hid (HNO.out (not_true HOK.out (fun h => by have := inW_iff.2 h.1.1; rw [HTX.out] at this; cases this)))
              clear HNO HALL HOK
              refine (HP1.out _).mono ?_
              rintro e wz ⟨rfl, hwz⟩
              have hwz2 := hwz.symm
              subst hwz2
              clear hwz
              go_wp2
              go_ret
              exact ⟨by rw [HBAD2.out]; rfl, HFA.out⟩
            | true =>
              cases ty with
              | false =>
                have HBAD2 := Lib.hid (HNO.out (not_true HOK.out (fun h => by have := inW_iff.2 h.1.2.1; rw [HTY.out] at this; cases this)))
                clear HNO HALL HOK
                refine (HP1.out _).mono ?_
                rintro e wz ⟨rfl, hwz⟩
                have hwz2 := hwz.symm
                subst hwz2
                clear hwz
                go_wp2_with fail
                refine (HP2.out _).mono ?_
                rintro e wz ⟨rfl, hwz⟩
                have hwz2 := hwz.symm
                subst hwz2
                clear hwz
                go_wp2
                go_ret
                exact ⟨by rw [HBAD2.out]; rfl, HFA.out⟩
              | true =>
                have hx9 := inW_iff.1 HTX.out
                have hy9 := inW_iff.1 HTY.out
                by_cases hz1 : zc < -4096
                · have e1 : decide (zc < -4096) = true := by simpa using hz1
                  have HBAD2 := Lib.hid (HNO.out (not_true HOK.out (fun h => by have := h.1.2.2; omega)))
                  clear HNO HALL HOK
                  clear hz1 hx9 hy9
                  refine (HP1.out _).mono ?_
                  rintro e wz ⟨rfl, hwz⟩
                  have hwz2 := hwz.symm
                  subst hwz2
                  clear hwz
                  go_wp2_with fail
                  refine (HP2.out _).mono ?_
                  rintro e wz ⟨rfl, hwz⟩
                  have hwz2 := hwz.symm
                  subst hwz2
                  clear hwz
                  go_wp2
                  go_ret
                  exact ⟨by rw [HBAD2.out]; rfl, HFA.out⟩
                have e1 : decide (zc < -4096) = false := by simpa using hz1
                by_cases hz2 : 4096 < zc
                · have e2 : decide (4096 < zc) = true := by simpa using hz2
                  have HBAD2 := Lib.hid (HNO.out (not_true HOK.out (fun h => by have := h.1.2.2; omega)))
                  clear HNO HALL HOK
                  clear hz1 hz2 hx9 hy9
                  refine (HP1.out _).mono ?_
                  rintro e wz ⟨rfl, hwz⟩
                  have hwz2 := hwz.symm
                  subst hwz2
                  clear hwz
                  go_wp2_with fail
                  refine (HP2.out _).mono ?_
                  rintro e wz ⟨rfl, hwz⟩
                  have hwz2 := hwz.symm
                  subst hwz2
                  clear hwz
                  go_wp2
                  go_ret
                  exact ⟨by rw [HBAD2.out]; rfl, HFA.out⟩
                have e2 : decide (4096 < zc) = false := by simpa using hz2
                by_cases hj0 : i = 0
                · have e3 : decide (0 < (i : Int)) = false := by simp; omega
                  have e3b : decide (0 < i) = false := by simp; omega
                  have HA2 := Lib.hid (HALL.out (HOK.out.2 ⟨⟨hx9, hy9, by omega, by omega⟩, .inl hj0⟩))
                  clear HNO HALL HOK hj0 hz1 hz2 hx9 hy9
                  refine (HP1.out _).mono ?_
                  rintro e wz ⟨rfl, hwz⟩
                  have hwz2 := hwz.symm
                  subst hwz2
                  clear hwz
                  go_wp2_with fail
                  refine (HP2.out _).mono ?_
                  rintro e wz ⟨rfl, hwz⟩
                  have hwz2 := hwz.symm
                  subst hwz2
                  clear hwz
                  go_wp2_with fail
                  go_quiet (fail)
                  have HF : Hid (Below w.heap.size w (WA.drewN nq)) := Lib.hid (below_drewN HFA.out nq)
                  have HX : Hid (Below w1.heap.size w1 (WA.drewN nq)) := Lib.hid (below_drewN HXA.out nq)
                  obtain ⟨wd, hwd⟩ : ∃ wd, WA.drewN nq = wd := ⟨_, rfl⟩
                  rw [hwd] at HF HX ⊢
                  clear hwd
                  go_wp2
                  go_roundw
                  case rel => exact ⟨i + 1, by go_num, by omega, HX, HA2⟩
                  case measure => simp [intOf]; omega
                have e3 : decide (0 < (i : Int)) = true := by simp; omega
                have e3b : decide (0 < i) = true := by simp; omega
                obtain ⟨ca, cb⟩ := HPA.out (by omega)
                have sub1 : (i : Int) - 1 = ((i - 1 : Nat) : Int) := by omega
                have sub2 : IntKind.i64.wrap ((i - 1 : Nat) : Int) = ((i - 1 : Nat) : Int) := by rw [IntKind.wrap_i64]; omega
                have sub3 : ((i - 1 : Nat) : Int) < (K : Int) := by omega
                by_cases hg1 : x < px
                · have e4 : decide (x < px) = true := by simpa using hg1
                  have HBAD2 := Lib.hid (HNO.out (not_true HOK.out (fun h => h.2.elim hj0 (fun h => by omega))))
                  clear HNO HALL HOK
                  clear hj0 hz1 hz2 hx9 hy9 hg1
                  refine (HP1.out _).mono ?_
                  rintro e wz ⟨rfl, hwz⟩
                  have hwz2 := hwz.symm
                  subst hwz2
                  clear hwz
                  go_wp2_with fail
                  refine (HP2.out _).mono ?_
                  rintro e wz ⟨rfl, hwz⟩
                  have hwz2 := hwz.symm
                  subst hwz2
                  clear hwz
                  go_wp2_with fail
                  go_quiet (fail)
                  have HF : Hid (Below w.heap.size w (WA.drewN nq)) := Lib.hid (below_drewN HFA.out nq)
                  have HX : Hid (Below w1.heap.size w1 (WA.drewN nq)) := Lib.hid (below_drewN HXA.out nq)
                  obtain ⟨wd, hwd⟩ : ∃ wd, WA.drewN nq = wd := ⟨_, rfl⟩
                  rw [hwd] at HF HX ⊢
                  clear hwd
                  go_wp2
                  go_ret
                  exact ⟨by rw [HBAD2.out]; rfl, HF.out⟩
                have e4 : decide (x < px) = false := by simpa using hg1
                by_cases hg2 : px = x
                · have e5 : (px == x) = true := by simpa using hg2
                  by_cases hg3 : y ≤ py
                  · have e6 : decide (y ≤ py) = true := by simpa using hg3
                    have HBAD2 := Lib.hid (HNO.out (not_true HOK.out (fun h => h.2.elim hj0 (fun h => by omega))))
                    clear HNO HALL HOK
                    clear hj0 hz1 hz2 hx9 hy9 hg1 hg2 hg3
                    refine (HP1.out _).mono ?_
                    rintro e wz ⟨rfl, hwz⟩
                    have hwz2 := hwz.symm
                    subst hwz2
                    clear hwz
                    go_wp2_with fail
                    refine (HP2.out _).mono ?_
                    rintro e wz ⟨rfl, hwz⟩
                    have hwz2 := hwz.symm
                    subst hwz2
                    clear hwz
                    go_wp2_with fail
                    go_quiet (fail)
                    have HF : Hid (Below w.heap.size w (WA.drewN nq)) := Lib.hid (below_drewN HFA.out nq)
                    have HX : Hid (Below w1.heap.size w1 (WA.drewN nq)) := Lib.hid (below_drewN HXA.out nq)
                    obtain ⟨wd, hwd⟩ : ∃ wd, WA.drewN nq = wd := ⟨_, rfl⟩
                    rw [hwd] at HF HX ⊢
                    clear hwd
                    go_wp2
                    go_ret
                    exact ⟨by rw [HBAD2.out]; rfl, HF.out⟩
                  · have e6 : decide (y ≤ py) = false := by simpa using hg3
                    have HA2 := Lib.hid (HALL.out (HOK.out.2 ⟨⟨hx9, hy9, by omega, by omega⟩, .inr (.inr ⟨hg2, by omega⟩)⟩))
                    clear HNO HALL HOK hj0 hz1 hz2 hx9 hy9 hg1 hg2 hg3
                    refine (HP1.out _).mono ?_
                    rintro e wz ⟨rfl, hwz⟩
                    have hwz2 := hwz.symm
                    subst hwz2
                    clear hwz
                    go_wp2_with fail
                    refine (HP2.out _).mono ?_
                    rintro e wz ⟨rfl, hwz⟩
                    have hwz2 := hwz.symm
                    subst hwz2
                    clear hwz
                    go_wp2_with fail
                    go_quiet (fail)
                    have HF : Hid (Below w.heap.size w (WA.drewN nq)) := Lib.hid (below_drewN HFA.out nq)
                    have HX : Hid (Below w1.heap.size w1 (WA.drewN nq)) := Lib.hid (below_drewN HXA.out nq)
                    obtain ⟨wd, hwd⟩ : ∃ wd, WA.drewN nq = wd := ⟨_, rfl⟩
                    rw [hwd] at HF HX ⊢
                    clear hwd
                    go_wp2
                    go_roundw
                    case rel => exact ⟨i + 1, by go_num, by omega, HX, HA2⟩
                    case measure => simp [intOf]; omega
                · have e5 : (px == x) = false := by simpa using hg2
                  have HA2 := Lib.hid (HALL.out (HOK.out.2 ⟨⟨hx9, hy9, by omega, by omega⟩, .inr (.inl (by omega))⟩))
                  clear HNO HALL HOK hj0 hz1 hz2 hx9 hy9 hg1 hg2
                  refine (HP1.out _).mono ?_
                  rintro e wz ⟨rfl, hwz⟩
                  have hwz2 := hwz.symm
                  subst hwz2
                  clear hwz
                  go_wp2_with fail
                  refine (HP2.out _).mono ?_
                  rintro e wz ⟨rfl, hwz⟩
                  have hwz2 := hwz.symm
                  subst hwz2
                  clear hwz
                  go_wp2_with fail
                  go_quiet (fail)
                  have HF : Hid (Below w.heap.size w (WA.drewN nq)) := Lib.hid (below_drewN HFA.out nq)
                  have HX : Hid (Below w1.heap.size w1 (WA.drewN nq)) := Lib.hid (below_drewN HXA.out nq)
                  obtain ⟨wd, hwd⟩ : ∃ wd, WA.drewN nq = wd := ⟨_, rfl⟩
                  rw [hwd] at HF HX ⊢
                  clear hwd
                  go_wp2
                  go_roundw
                  case rel => exact ⟨i + 1, by go_num, by omega, HX, HA2⟩
                  case measure => simp [intOf]; omega
          · have dd : decide ((i : Int) < (K : Int)) = false := by simp; omega
            have hz : z = 0 := HGOOD.out (by rw [HRK.out]; exact all_upto.2 fun q hq => hall2.out q (by rw [HKE.out] at hq; omega))
            have HZ := Lib.hid hz
            clear hz
            go_wp2
            go_ret
            exact ⟨by rw [HZ.out]; rfl, HB1.out.trans (HB2.out.mono HB1.out.size)⟩
end Go.Proofs.YtljgcpfibamdpaaDoor
