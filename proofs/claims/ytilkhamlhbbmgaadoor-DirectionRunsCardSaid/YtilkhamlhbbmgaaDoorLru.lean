/- The law DirectionRuns, walked. -/
import Derived.Test.YtilkhamlhbbmgaaDoorPlc
namespace Go.Proofs.YtilkhamlhbbmgaaDoor
open Go.RowKit

theorem sg2_run {s : List Int} {c d i : Nat} (hi1 : i < s.length) (k1 : c ≤ i) (k2 : i < d) (k4 : ∀ j, c ≤ j → j < d → geB 1 s j = true ∧ lo (geB 1 s) j = c ∧ hi (geB 1 s) s.length j = d) : c ≤ sg 2 s i ∧ sg 2 s i < d := by
  by_cases hp : geB 2 s i = true
  · obtain ⟨a, b, _, _, h1, h2, h3, h4⟩ := run_in (p := geB 2 s) (n := s.length) hi1 hp
    have hup : ∀ j, a ≤ j → j < b → geB 1 s j = true := fun j x y => by
      have := (h4 j x y).1
      unfold geB at this ⊢
      have := of_decide_eq_true this
      exact decide_eq_true (by omega)
    have hca : c ≤ a := by
      have hl := (lo_spec (geB 1 s) i).2.2
      rw [(k4 i k1 k2).2.1] at hl
      rcases Nat.lt_or_ge a c with h | h
      · rcases hl with hl | hl
        · omega
        · rw [hup (c - 1) (by omega) (by omega)] at hl; cases hl
      · exact h
    have hdb : b ≤ d := by
      have hq := (up_spec (geB 1 s) s.length (s.length - i) i rfl (by omega)).2.2.2
      have hh2 : up (geB 1 s) (s.length - i) i = d := (k4 i k1 k2).2.2
      rw [hh2] at hq
      rcases Nat.lt_or_ge d b with h | h
      · rcases hq with hq | hq
        · omega
        · rw [hup d (by omega) h] at hq; cases hq
      · exact h
    rw [sg_run h4 h1 h2]
    omega
  · have hp : geB 2 s i = false := by simpa using hp
    rw [sg_off hp]
    exact ⟨k1, k2⟩
theorem atF_run (s : List Int) (i : Nat) (hi1 : i < s.length) (hp : geB 1 s i = true) : lo (geB 1 s) i ≤ atF s i ∧ atF s i < hi (geB 1 s) s.length i := by
  obtain ⟨c, d, e1, e2, k1, k2, k3, k4⟩ := run_in (p := geB 1 s) (n := s.length) hi1 hp
  obtain ⟨h1, h2⟩ := sg2_run hi1 k1 k2 k4
  rw [e1, e2]
  unfold atF
  rw [sg_run k4 h1 h2]
  omega
theorem atF_zero (s : List Int) (i : Nat) (h : s.getD i 0 = 0) : atF s i = i := by
  unfold atF
  rw [sg_off (m := 2) (by unfold geB; rw [h]; rfl), sg_off (m := 1) (by unfold geB; rw [h]; rfl)]
theorem atF_back (s : List Int) (h : ∀ j, j < s.length → s.getD j 0 < 2) (i : Nat) (hi1 : i < s.length) : atF s (atF s i) = i := by
  have e : ∀ j, j < s.length → sg 2 s j = j := fun j hj => sg_off (by unfold geB; exact decide_eq_false (by have := h j hj; omega))
  have h1 := (sg_in 1 s i hi1)
  unfold atF
  rw [e i hi1, e _ h1.1, h1.2]
set_option maxRecDepth 100000 in
set_option maxHeartbeats 8000000 in
theorem lawRuns (w : World) (v : Value) (s : List Int) (hv : IRow w w.heap.size v s) (hT : DTab w) : Calls Tryd.prog 13 #[v] w fun e w' => e = .returned (.bool true) ∧ Below w.heap.size w w' := by
  have HSN := Lib.hid (sane10_any w hT)
  by_cases hno : 120 < s.length ∨ s.any noLv = true
  · have HP := Lib.hid (fun (W : World) (hW : Below w.heap.size w W) => places_no W v s ((hv.below hW).mono hW.size) hno)
    obtain ⟨a, c, rfl, -⟩ := hv
    obtain ⟨n, hN⟩ : ∃ n, s.length = n := ⟨_, rfl⟩
    rw [hN] at HP ⊢
    clear hN hno hT
    go_enter Tryd.func13, Tryd.ntmps13
    go_wp2_with fail
    (with_reducible refine (HSN.out).mono ?_)
    rintro e w1 ⟨rfl, hb⟩
    have HB1 := Lib.hid hb
    clear hb
    go_wp2_with fail
    (with_reducible refine (HP.out w1 HB1.out).mono ?_)
    rintro e w2 ⟨rfl, hb⟩
    have HB2 := Lib.hid (HB1.out.trans (hb.mono HB1.out.size))
    clear hb
    go_wp2
    go_ret
    exact ⟨rfl, HB2.out⟩
  · have hn120 : s.length ≤ 120 := by omega
    have hany : s.any noLv = false := by
      cases h : s.any noLv with
      | false => rfl
      | true => exact absurd (.inr h) hno
    have HP := Lib.hid (fun (W : World) (hW : Below w.heap.size w W) => places_yes W v s ((hv.below hW).mono hW.size) hn120 hany)
    have HFI : Hid (∀ j, j < s.length → 0 ≤ s.getD j 0 ∧ s.getD j 0 ≤ 2) := Lib.hid (fun j hj => by
      have e : s.getD j 0 = s[j] := by simp [List.getD, hj]
      have := List.any_eq_false.1 hany s[j] (List.getElem_mem hj)
      rw [e]
      unfold noLv at this
      simp at this
      omega)
    have HRN := Lib.hid (fun i hi1 hp => atF_run s i hi1 hp)
    have HZR := Lib.hid (fun i h => atF_zero s i h)
    have HBK : Hid (s.any (fun r => r == 2) = false → ∀ i, i < s.length → atF s (atF s i) = i) := Lib.hid (fun h => atF_back s (fun j hj => by
      have e : s.getD j 0 = s[j] := by simp [List.getD, hj]
      have h1 := List.any_eq_false.1 h s[j] (List.getElem_mem hj)
      have h2 := HFI.out j hj
      rw [e] at h2 ⊢
      simp at h1
      omega))
    have HAI := Lib.hid (fun j hj => atF_in s j hj)
    have HGA : Hid (∀ j, j < s.length → (atL s).getD j 0 = (atF s j : Int)) := Lib.hid (fun j hj => by simp [atL, List.getD, hj])
    have HAL := Lib.hid (atL_len s)
    have HTK : Hid (∀ k, (hk : k < s.length) → (s.take (k + 1)).any (fun r => r == 2) = ((s.take k).any (fun r => r == 2) || (s.getD k 0 == 2))) := Lib.hid (fun k hk => by
      have e : s.getD k 0 = s[k] := by simp [List.getD, hk]
      rw [any_next (p := fun r => r == 2) hk, e])
    have HTE : Hid (s.take s.length = s) := Lib.hid (List.take_length)
    obtain ⟨a, c, rfl, hc, hm, HC⟩ := hv.laterD
    have HC := Lib.hid HC
    obtain ⟨n, hN⟩ : ∃ n, s.length = n := ⟨_, rfl⟩
    rw [hN] at HP HC hc HFI HRN HBK HAI HGA HAL HTK HTE hn120 ⊢
    clear hN hno hT hany hv
    unfold maxLen at hm
    go_enter Tryd.func13, Tryd.ntmps13
    go_wp2_with fail
    (with_reducible refine (HSN.out).mono ?_)
    rintro e w1 ⟨rfl, hb⟩
    have HB1 := Lib.hid hb
    clear hb
    go_wp2_with fail
    (with_reducible refine (HP.out w1 HB1.out).mono ?_)
    rintro e wP ⟨u, rfl, hu, hb⟩
    have HBP := Lib.hid (HB1.out.trans (hb.mono HB1.out.size))
    obtain ⟨a3, c3, e3, hc3, hm3, HCA⟩ := hu.laterD
    subst e3
    rw [HAL.out] at hc3 HCA ⊢
    have HCA := Lib.hid HCA
    unfold maxLen at hm3
    clear hb hu
    go_wp2
    go_loopw [6, 8, 31] (fun s6 s8 s31 wr => ∃ (k : Nat) (g : Bool), k ≤ n ∧ s31 = .int .i64 (k : Int) ∧ s6 = .bool g ∧ Hid (g = (s.take k).any (fun r => r == 2)) ∧ Hid (Below wP.heap.size wP wr)) (fun _ _ s31 _ => n - (intOf s31).toNat)
    case atStart => exact ⟨0, false, Nat.zero_le _, rfl, rfl, Lib.hid (by simp), Lib.hid (Below.refl _ _)⟩
    case round =>
      obtain ⟨k, g, hk, rfl, rfl, HG, HB⟩ := hrel
      by_cases hlt : k < n
      · obtain ⟨b, off, rfl, hcp⟩ := HC.out wr (HBP.out.trans (HB.out.mono HBP.out.size)) k hlt
        have HT1 := Lib.hid (HTK.out k hlt)
        obtain ⟨x, hx⟩ : ∃ x, s.getD k 0 = x := ⟨_, rfl⟩
        rw [hx] at hcp HT1
        have HG2 : Hid ((g || (x == 2)) = (s.take (k + 1)).any (fun r => r == 2)) := Lib.hid (by rw [HT1.out, HG.out])
        clear hx
        cases g
        all_goals
          go_wp2
          go_roundw
          case rel => exact ⟨k + 1, _, by omega, by go_num, rfl, HG2, HB⟩
          case measure => simp [intOf]; omega
      · have hkn : n = k := by omega
        subst hkn
        rw [HTE.out] at HG
        have HGN := Lib.hid HG.out
        clear HG
        go_wp2
        go_loopw [9, 10, 11, 12, 43] (fun s9 s10 s11 s12 s43 wr => ∃ k f : Nat, k ≤ n ∧ s43 = .int .i64 (k : Int) ∧ s9 = .int .i64 (f : Int) ∧ Hid (lo (geB 1 s) k = f) ∧ Hid (Below wP.heap.size wP wr)) (fun _ _ _ _ s43 _ => n - (intOf s43).toNat)
        case atStart => exact ⟨0, 0, Nat.zero_le _, rfl, rfl, Lib.hid rfl, HB⟩
        case round =>
          obtain ⟨k, f, hk, rfl, rfl, HF, HB⟩ := hrel
          by_cases hlt : k < n
          · skip
            obtain ⟨b, off, rfl, hcp⟩ := HC.out wr (HBP.out.trans (HB.out.mono HBP.out.size)) k hlt
            obtain ⟨ba, oa, rfl, -⟩ := HCA.out wr HB.out k hlt
            have HC2 : Hid (∀ W, Below w.heap.size w W → ∀ j, j < n → W.cell? ⟨b, off + j, none⟩ = some (.int .i64 (s.getD j 0))) := Lib.hid (fun W hW j hj => by
              obtain ⟨b', o', e, h⟩ := HC.out W hW j hj
              injection e with e
              injection e with e1 e2
              rw [e1, e2]; exact h)
            have HCA : Hid (∀ W, Below wP.heap.size wP W → ∀ j, j < n → W.cell? ⟨ba, oa + j, none⟩ = some (.int .i64 ((atL s).getD j 0))) := Lib.hid (fun W hW j hj => by
              obtain ⟨b', o', e, h⟩ := HCA.out W hW j hj
              injection e with e
              injection e with e1 e2
              rw [e1, e2]; exact h)
            obtain ⟨hx0, hx2⟩ := HFI.out k hlt
            obtain ⟨x, hx⟩ : ∃ x, s.getD k 0 = x := ⟨_, rfl⟩
            rw [hx] at hcp hx0 hx2
            by_cases hz : x = 0
            · subst hz
              have hca := HCA.out wr HB.out k hlt
              rw [HGA.out k hlt, HZR.out k hx] at hca
              have HPK : Hid (geB 1 s k = false) := Lib.hid (by unfold geB; rw [hx]; rfl)
              clear hx
              go_wp2
              go_roundw
              case rel => exact ⟨k + 1, k + 1, by omega, by go_num, by go_num, Lib.hid (by show (if geB 1 s k = true then lo (geB 1 s) k else k + 1) = k + 1; rw [HPK.out, if_neg (by simp)]), HB⟩
              case measure => simp [intOf]; omega
            · have HPK : Hid (geB 1 s k = true) := Lib.hid (by unfold geB; rw [hx]; exact decide_eq_true (by omega))
              have dz : (x == 0) = false := by simpa using hz
              clear hz hx
              go_wp2
              go_loopw [12] (fun s12 wr => ∃ u : Nat, k ≤ u ∧ u ≤ n ∧ s12 = .int .i64 (u : Int) ∧ Hid (∀ j, k ≤ j → j < u → geB 1 s j = true) ∧ Hid (Below wP.heap.size wP wr)) (fun s12 _ => n - (intOf s12).toNat)
              case atStart => exact ⟨k, Nat.le_refl _, by omega, rfl, Lib.hid (fun j a b => by omega), HB⟩
              case round =>
                obtain ⟨u, huk, hun, rfl, HUP, HB⟩ := hrel
                by_cases hul : u < n
                · have hcu := HC2.out wr (HBP.out.trans (HB.out.mono HBP.out.size)) u hul
                  obtain ⟨q, hq⟩ : ∃ q, s.getD u 0 = q := ⟨_, rfl⟩
                  rw [hq] at hcu
                  by_cases hq0 : 0 < q
                  · have HQ : Hid (geB 1 s u = true) := Lib.hid (by unfold geB; rw [hq]; exact decide_eq_true (by omega))
                    have dq : decide (0 < q) = true := decide_eq_true hq0
                    clear hq hq0
                    go_wp2
                    go_roundw
                    case rel => exact ⟨u + 1, by omega, by omega, by go_num, Lib.hid (fun j a b => by
                      by_cases hju : j = u
                      · rw [hju]; exact HQ.out
                      · exact HUP.out j a (by omega)), HB⟩
                    case measure => simp [intOf]; omega
                  · have HEU : Hid (u = n ∨ geB 1 s u = false) := Lib.hid (.inr (by unfold geB; rw [hq]; exact decide_eq_false (by omega)))
                    have dq : decide (0 < q) = false := decide_eq_false hq0
                    clear hq hq0
                    have HHI : Hid (hi (geB 1 s) n k = u) := Lib.hid (hi_eq huk hun HUP.out HEU.out)
                    have hrun := HRN.out k hlt HPK.out
                    rw [HF.out, HHI.out] at hrun
                    have hca := HCA.out wr HB.out k hlt
                    rw [HGA.out k hlt] at hca
                    obtain ⟨y, hy⟩ : ∃ y, atF s k = y := ⟨_, rfl⟩
                    rw [hy] at hca hrun
                    obtain ⟨hr1, hr2⟩ := hrun
                    have dl : decide ((y : Int) < (f : Int)) = false := by simp; omega
                    have dg : decide ((u : Int) ≤ (y : Int)) = false := by simp; omega
                    clear hy
                    go_wp2
                    go_roundw
                    case rel => exact ⟨k + 1, f, by omega, by go_num, rfl, Lib.hid (by show (if geB 1 s k = true then lo (geB 1 s) k else k + 1) = f; rw [HPK.out, if_pos rfl]; exact HF.out), HB⟩
                    case measure => simp [intOf]; omega
                · have HEU : Hid (u = n ∨ geB 1 s u = false) := Lib.hid (.inl (by omega))
                  have HHI : Hid (hi (geB 1 s) n k = u) := Lib.hid (hi_eq huk hun HUP.out HEU.out)
                  have hrun := HRN.out k hlt HPK.out
                  rw [HF.out, HHI.out] at hrun
                  have hca := HCA.out wr HB.out k hlt
                  rw [HGA.out k hlt] at hca
                  obtain ⟨y, hy⟩ : ∃ y, atF s k = y := ⟨_, rfl⟩
                  rw [hy] at hca hrun
                  obtain ⟨hr1, hr2⟩ := hrun
                  have dl : decide ((y : Int) < (f : Int)) = false := by simp; omega
                  have dg : decide ((u : Int) ≤ (y : Int)) = false := by simp; omega
                  clear hy
                  go_wp2
                  go_roundw
                  case rel => exact ⟨k + 1, f, by omega, by go_num, rfl, Lib.hid (by show (if geB 1 s k = true then lo (geB 1 s) k else k + 1) = f; rw [HPK.out, if_pos rfl]; exact HF.out), HB⟩
                  case measure => simp [intOf]; omega
          · have hkn : n = k := by omega
            subst hkn
            clear HF
            go_wp2
            go_loopw [13, 89] (fun s13 s89 wr => ∃ k : Nat, k ≤ n ∧ s89 = .int .i64 (k : Int) ∧ Hid (Below wP.heap.size wP wr)) (fun _ s89 _ => n - (intOf s89).toNat)
            case atStart => exact ⟨0, Nat.zero_le _, rfl, HB⟩
            case round =>
              obtain ⟨k, hk, rfl, HB⟩ := hrel
              by_cases hlt : k < n
              · cases g
                · obtain ⟨ba, oa, rfl, hca⟩ := HCA.out wr HB.out k hlt
                  have HCA2 : Hid (∀ W, Below wP.heap.size wP W → ∀ j, j < n → W.cell? ⟨ba, oa + j, none⟩ = some (.int .i64 ((atL s).getD j 0))) := Lib.hid (fun W hW j hj => by
                    obtain ⟨b', o', e, h⟩ := HCA.out W hW j hj
                    injection e with e
                    injection e with e1 e2
                    rw [e1, e2]; exact h)
                  have hyn := HAI.out k hlt
                  have hback := HBK.out HGN.out.symm k hlt
                  have hcy := HCA2.out wr HB.out (atF s k) hyn
                  rw [HGA.out _ hyn, hback] at hcy
                  rw [HGA.out k hlt] at hca
                  obtain ⟨y, hy⟩ : ∃ y, atF s k = y := ⟨_, rfl⟩
                  rw [hy] at hca hcy hyn
                  have dne : ((k : Int) != (k : Int)) = false := by simp
                  clear hy hback
                  go_wp2
                  go_roundw
                  case rel => exact ⟨k + 1, by omega, by go_num, HB⟩
                  case measure => simp [intOf]; omega
                · go_wp2
                  go_roundw
                  case rel => exact ⟨k + 1, by omega, by go_num, HB⟩
                  case measure => simp [intOf]; omega
              · have HBF := Lib.hid (HBP.out.trans (HB.out.mono HBP.out.size))
                go_wp2
                go_ret
                exact ⟨rfl, HBF.out⟩
end Go.Proofs.YtilkhamlhbbmgaaDoor
