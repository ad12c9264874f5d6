/- Direction: places. -/
import Derived.Test.YtilkhamlhbbmgaaDoorPrm
namespace Go.Proofs.YtilkhamlhbbmgaaDoor
open Go.RowKit

theorem Tryd.info4r : (Tryd.prog.info? 4).map (fun i => (i.zero, i.size, i.bytes)) = some (some (.bool false), 1, 1) := by kernel_rfl
def atK (s : List Int) (k j : Nat) : Int := if atF s j < k then (atF s j : Int) else 0
def metK (s : List Int) (k j : Nat) : Value := .bool (decide (atF s j < k))
def atL (s : List Int) : List Int := (List.range s.length).map fun j => (atF s j : Int)
theorem atL_len (s : List Int) : (atL s).length = s.length := by simp [atL]
theorem made_bool (n : Nat) (F : Nat → Value) (hF : ∀ j, F j = .bool false) : (madeCells (Value.bool false).cells (n * 1)).toList = (List.range n).map F := by
  have : (Value.bool false).cells = #[.bool false] := rfl
  rw [this, toList_madeCells_one, Nat.mul_one]
  apply List.ext_getElem (by simp)
  intro j h1 h2
  simp [hF]
theorem atK_set (s : List Int) (k : Nat) (hk : k < s.length) : (icells ((List.range s.length).map (atK s k))).set (sg 2 s (sg 1 s k)) (.int .i64 (k : Int)) = icells ((List.range s.length).map (atK s (k + 1))) := by
  simp only [icells, List.map_map]
  apply List.ext_getElem (by simp)
  intro j h1 h2
  have hj : j < s.length := by simpa using h2
  rw [List.getElem_set]
  simp only [List.getElem_map, List.getElem_range, Function.comp_apply, atK]
  by_cases h : sg 2 s (sg 1 s k) = j
  · rw [if_pos h, (atF_iff s k j hk hj).2 h.symm, if_pos (by omega)]
  · have hne : atF s j ≠ k := fun e => h ((atF_iff s k j hk hj).1 e).symm
    rw [if_neg h]
    by_cases h3 : atF s j < k
    · rw [if_pos h3, if_pos (by omega)]
    · rw [if_neg h3, if_neg (by omega)]
theorem metK_set (s : List Int) (k : Nat) (hk : k < s.length) : ((List.range s.length).map (metK s k)).set (sg 2 s (sg 1 s k)) (.bool true) = (List.range s.length).map (metK s (k + 1)) := by
  apply List.ext_getElem (by simp)
  intro j h1 h2
  have hj : j < s.length := by simpa using h2
  rw [List.getElem_set]
  simp only [List.getElem_map, List.getElem_range, metK]
  by_cases h : sg 2 s (sg 1 s k) = j
  · rw [if_pos h, (atF_iff s k j hk hj).2 h.symm, decide_eq_true (by omega)]
  · have hne : atF s j ≠ k := fun e => h ((atF_iff s k j hk hj).1 e).symm
    rw [if_neg h]
    congr 1
    rw [decide_eq_decide]
    omega
theorem atK_end (s : List Int) : (List.range s.length).map (atK s s.length) = atL s := by
  refine List.map_congr_left fun j hj => ?_
  rw [List.mem_range] at hj
  unfold atK
  rw [if_pos (atF_in s j hj)]
set_option maxRecDepth 100000 in
set_option maxHeartbeats 8000000 in
theorem places_no (w : World) (v : Value) (s : List Int) (hv : IRow w w.heap.size v s) (h : 120 < s.length ∨ s.any noLv = true) : Calls Tryd.prog 39 #[v] w fun e w' => e = .returned (.tuple #[.slice none 0 0, .bool false, .bool true]) ∧ Below w.heap.size w w' := by
  obtain ⟨a, c, rfl, hc, hm, HC⟩ := hv.laterD
  have HC := Lib.hid HC
  have HH := Lib.hid h
  obtain ⟨n, hN⟩ : ∃ n, s.length = n := ⟨_, rfl⟩
  rw [hN] at HC hc HH ⊢
  have HN := Lib.hid hN
  unfold maxLen at hm
  clear hN hv h
  by_cases h1 : 120 < n
  · have d : decide (120 < (n : Int)) = true := by simp; omega
    clear h1
    go_enter Tryd.func39, Tryd.ntmps39
    go_wp2
    go_returns
    exact ⟨rfl, Below.refl _ _⟩
  · have d : decide (120 < (n : Int)) = false := by simp; omega
    go_enter Tryd.func39, Tryd.ntmps39
    go_wp2
    go_loopw [6, 17] (fun s6 s17 wr => ∃ k : Nat, k ≤ n ∧ s17 = .int .i64 (k : Int) ∧ Hid (Below w.heap.size w wr) ∧ Hid (∀ j (h : j < s.length), j < k → noLv s[j] = false)) (fun _ s17 _ => n - (intOf s17).toNat)
    case atStart => exact ⟨0, Nat.zero_le _, rfl, Lib.hid (Below.refl _ _), Lib.hid (fun j _ h => absurd h (by omega))⟩
    case round =>
      obtain ⟨k, hk, rfl, HB, HJ⟩ := hrel
      by_cases hlt : k < n
      · obtain ⟨b, off, rfl, hcell⟩ := HC.out wr HB.out k hlt
        have hks : k < s.length := by rw [HN.out]; exact hlt
        have hsg : s.getD k 0 = s[k] := by simp [List.getD, hks]
        obtain ⟨x, hx⟩ : ∃ x, s[k] = x := ⟨_, rfl⟩
        rw [hsg, hx] at hcell
        by_cases hq : noLv x = true
        · have HA : Hid (s.any noLv = true) := Lib.hid (any_at hks (by rw [hx]; exact hq))
          have hcase : x < 0 ∨ (¬ x < 0 ∧ 2 < x) := by unfold noLv at hq; simp at hq; omega
          clear hq hx hsg
          rcases hcase with h | ⟨h, h'⟩
          · have d1 : decide (x < 0) = true := decide_eq_true h
            go_wp2
            go_returns
            exact ⟨rfl, HB.out⟩
          · have d1 : decide (x < 0) = false := decide_eq_false h
            have d2 : decide (2 < x) = true := decide_eq_true h'
            go_wp2
            go_returns
            exact ⟨rfl, HB.out⟩
        · have HX : Hid (noLv s[k] = false) := Lib.hid (by rw [hx]; simpa using hq)
          have hcase : ¬ x < 0 ∧ ¬ 2 < x := by unfold noLv at hq; simp at hq; omega
          have d1 : decide (x < 0) = false := decide_eq_false hcase.1
          have d2 : decide (2 < x) = false := decide_eq_false hcase.2
          clear hq hx hsg hcase
          go_wp2
          go_roundw
          case rel => exact ⟨k + 1, by omega, by go_num, HB, Lib.hid (fun j h hj => by
            by_cases e : j < k
            · exact HJ.out j h e
            · obtain rfl : j = k := by omega
              exact HX.out)⟩
          case measure => simp [intOf]; omega
      · have hkn : n = k := by omega
        subst hkn
        have HA : Hid (s.any noLv = false) := Lib.hid (any_take (k := n) (by rw [HN.out]; exact Nat.le_refl _) HJ.out HN.out.symm)
        exfalso
        rcases HH.out with h | h
        · exact h1 h
        · rw [HA.out] at h; cases h
set_option maxRecDepth 100000 in
set_option maxHeartbeats 8000000 in
theorem places_yes (w : World) (v : Value) (s : List Int) (hv : IRow w w.heap.size v s) (h0 : s.length ≤ 120) (h : s.any noLv = false) : Calls Tryd.prog 39 #[v] w fun e w' => ∃ u, e = .returned (.tuple #[u, .bool true, .bool true]) ∧ IRow w' w'.heap.size u (atL s) ∧ Below w.heap.size w w' := by
  obtain ⟨i0, hif, hz0, hz1, hz2⟩ := info_parts Tryd.info3r
  obtain ⟨j0, hjf, hy0, hy1, hy2⟩ := info_parts Tryd.info4r
  have hoe : odE s = 0 := by unfold odE; rw [if_neg (by omega), h]; rfl
  have HO := Lib.hid (fun (W : World) (hW : Below w.heap.size w W) => order_any W v s ((hv.below hW).mono hW.size))
  rw [hoe, show odV s = orL s by unfold odV; rw [if_pos hoe]] at HO
  have HOL := Lib.hid (orL_len s)
  have HOG := Lib.hid (fun k hk => orL_get s k hk)
  have HYN := Lib.hid (fun k hk => (sg_in 2 s _ (sg_in 1 s k hk).1).1)
  have HIF := Lib.hid (fun k j hk hj => atF_iff s k j hk hj)
  have HATS := Lib.hid (fun k hk => atK_set s k hk)
  have HMTS := Lib.hid (fun k hk => metK_set s k hk)
  have HATE := Lib.hid (atK_end s)
  have HATL := Lib.hid (atL_len s)
  have HMADE := Lib.hid (made_int s.length (atK s 0) (fun j => by unfold atK; rw [if_neg (by omega)]))
  have HMADEB := Lib.hid (made_bool s.length (metK s 0) (fun j => by unfold metK; rw [decide_eq_false (by omega)]))
  obtain ⟨a, c, rfl, hc, hm, HC⟩ := hv.laterD
  have HC := Lib.hid HC
  have HH := Lib.hid h
  obtain ⟨n, hN⟩ : ∃ n, s.length = n := ⟨_, rfl⟩
  rw [hN] at HC hc HO HOL HOG HYN HIF HATS HMTS HATE HATL HMADE HMADEB h0 ⊢
  have HN := Lib.hid hN
  have hmx : n ≤ maxLen := by unfold maxLen; omega
  unfold maxLen at hm
  clear hN hv h hoe
  have d : decide (120 < (n : Int)) = false := by simp; omega
  go_enter Tryd.func39, Tryd.ntmps39
  go_wp2
  go_loopw [6, 17] (fun s6 s17 wr => ∃ k : Nat, k ≤ n ∧ s17 = .int .i64 (k : Int) ∧ Hid (Below w.heap.size w wr) ∧ Hid (∀ j (h : j < s.length), j < k → noLv s[j] = false)) (fun _ s17 _ => n - (intOf s17).toNat)
  case atStart => exact ⟨0, Nat.zero_le _, rfl, Lib.hid (Below.refl _ _), Lib.hid (fun j _ h => absurd h (by omega))⟩
  case round =>
    obtain ⟨k, hk, rfl, HB, HJ⟩ := hrel
    by_cases hlt : k < n
    · obtain ⟨b, off, rfl, hcell⟩ := HC.out wr HB.out k hlt
      have hks : k < s.length := by rw [HN.out]; exact hlt
      have hsg : s.getD k 0 = s[k] := by simp [List.getD, hks]
      obtain ⟨x, hx⟩ : ∃ x, s[k] = x := ⟨_, rfl⟩
      rw [hsg, hx] at hcell
      by_cases hq : noLv x = true
      · have HA : Hid (s.any noLv = true) := Lib.hid (any_at hks (by rw [hx]; exact hq))
        exfalso
        have := HH.out
        rw [HA.out] at this; cases this
      · have HX : Hid (noLv s[k] = false) := Lib.hid (by rw [hx]; simpa using hq)
        have hcase : ¬ x < 0 ∧ ¬ 2 < x := by unfold noLv at hq; simp at hq; omega
        have d1 : decide (x < 0) = false := decide_eq_false hcase.1
        have d2 : decide (2 < x) = false := decide_eq_false hcase.2
        clear hq hx hsg hcase
        go_wp2
        go_roundw
        case rel => exact ⟨k + 1, by omega, by go_num, HB, Lib.hid (fun j h hj => by
          by_cases e : j < k
          · exact HJ.out j h e
          · obtain rfl : j = k := by omega
            exact HX.out)⟩
        case measure => simp [intOf]; omega
    · have hkn : n = k := by omega
      subst hkn
      have HA : Hid (s.any noLv = false) := Lib.hid (any_take (k := n) (by rw [HN.out]; exact Nat.le_refl _) HJ.out HN.out.symm)
      have HO1 := Lib.hid (HO.out wr HB.out)
      go_wp2_with fail
      (with_reducible refine HO1.out.mono ?_)
      rintro e wO ⟨u, rfl, hu, hb⟩
      have HBO := Lib.hid (HB.out.trans (hb.mono HB.out.size))
      obtain ⟨a3, c3, e3, hc3, hm3, HC3⟩ := hu.laterD
      subst e3
      rw [HOL.out] at hc3 HC3 ⊢
      have HC3 := Lib.hid HC3
      unfold maxLen at hm3
      clear hb hu HO1
      go_wp2_with (first
        | (refine wpList_make_full _ rfl (.tmp 43) (.tmp 43) 22 rfl wO.heap.size 3 i0 (.int .i64 0) 1 Tryd.underlying22 hif hz0 hz1 .i64 .i64 _ _ n (by rfl) (by rfl) rfl rfl (by rw [hz2]; omega) hmx (Nat.le_refl _) ?_; intro w4 hO1 hG1; rw [HMADE.out] at hO1; have HA4 := Lib.hid (Arr.of_own hO1); have HB4 := Lib.hid (below_none hG1); have hs4 := (hO1.lt wO.heap.size rfl).2; clear hO1 hG1)
        | (refine wpList_make_full _ rfl (.tmp 46) (.tmp 46) 74 rfl w4.heap.size 4 j0 (.bool false) 1 Tryd.underlying74 hjf hy0 hy1 .i64 .i64 _ _ n (by rfl) (by rfl) rfl rfl (by rw [hy2]; omega) hmx (Nat.le_refl _) ?_; intro w5 hO1 hG1; rw [HMADEB.out] at hO1; have HM5 := Lib.hid (Arr.of_own hO1); have hb5 := below_none hG1; have HB5 := Lib.hid (HB4.out.trans (hb5.mono HB4.out.size)); have HA5 := Lib.hid (HA4.out.below hb5 hs4); have hs5 := (hO1.lt w4.heap.size rfl).2; clear hO1 hG1 hb5))
      go_loopw [2, 10, 11, 50] (fun s2 s10 s11 s50 wr => ∃ k : Nat, k ≤ n ∧ s50 = .int .i64 (k : Int) ∧ s2 = .slice (some ⟨wO.heap.size, 0, none⟩) n n ∧ Hid (Below wO.heap.size wO wr) ∧ Hid (Arr wr wO.heap.size (icells ((List.range n).map (atK s k)))) ∧ Hid (Arr wr w4.heap.size ((List.range n).map (metK s k))) ∧ w4.heap.size < wr.heap.size) (fun _ _ _ s50 _ => n - (intOf s50).toNat)
      case atStart => exact ⟨0, Nat.zero_le _, rfl, rfl, HB5, HA5, HM5, hs5⟩
      case round =>
        obtain ⟨k, hk, rfl, rfl, HB', HAK, HMK, hsz⟩ := hrel
        by_cases hlt : k < n
        · obtain ⟨b3, o3, rfl, hcell3⟩ := HC3.out wr HB'.out k hlt
          rw [HOG.out k hlt] at hcell3
          have hyn := HYN.out k hlt
          have HS1 := HATS.out k hlt
          have HS2 := HMTS.out k hlt
          have hmc := HMK.out.cell (i := sg 2 s (sg 1 s k)) (v := .bool false) (by
            simp only [List.getElem?_map, List.getElem?_range hyn, Option.map_some, metK]
            rw [(HIF.out k _ hlt hyn).2 rfl]; simp)
          obtain ⟨y, hy⟩ : ∃ y, sg 2 s (sg 1 s k) = y := ⟨_, rfl⟩
          rw [hy] at hcell3 hyn HS1 HS2 hmc
          have hcl : y < (icells ((List.range n).map (atK s k))).length := by simp [icells]; omega
          have hcm : y < ((List.range n).map (metK s k)).length := by simp; omega
          have hcc := HAK.out.cell (i := y) (v := (icells ((List.range n).map (atK s k)))[y]) (List.getElem?_eq_getElem hcl)
          have hff := HAK.out.frozen hcl
          have hfm := HMK.out.frozen hcm
          obtain ⟨z, hz⟩ : ∃ z, atK s k y = z := ⟨_, rfl⟩
          have hxx : (icells ((List.range n).map (atK s k)))[y] = .int .i64 z := by rw [← hz]; simp [icells]
          rw [hxx] at hcc
          have hne : w4.heap.size ≠ wO.heap.size := by omega
          have hne2 : wO.heap.size ≠ w4.heap.size := by omega
          have hA1 := HAK.out.other (b' := w4.heap.size) hne2 y (.bool true)
          have hM1 := HMK.out.set y (.bool true)
          have hcc1 := hA1.cell (i := y) (v := (icells ((List.range n).map (atK s k)))[y]) (List.getElem?_eq_getElem hcl)
          rw [hxx] at hcc1
          have hff1 := hA1.frozen hcl
          have HA2 := Lib.hid (hA1.set y (.int .i64 (k : Int)))
          have HM2 := Lib.hid (hM1.other (b' := wO.heap.size) hne y (.int .i64 (k : Int)))
          have HBB := Lib.hid ((HB'.out.setCell (p := ⟨w4.heap.size, y, none⟩) (Nat.le_of_lt hs4) (.bool true)).setCell (p := ⟨wO.heap.size, y, none⟩) (Nat.le_refl _) (.int .i64 (k : Int)))
          have hs2 : w4.heap.size < ((wr.setCell ⟨w4.heap.size, y, none⟩ (.bool true)).setCell ⟨wO.heap.size, y, none⟩ (.int .i64 (k : Int))).heap.size := by simpa [World.setCell] using hsz
          have HS1 := Lib.hid HS1
          have HS2 := Lib.hid HS2
          clear hz hxx hcl hcm hy hA1 hM1
          go_wp2
          go_roundw
          case rel => exact ⟨k + 1, by omega, by go_num, rfl, HBB, Lib.hid (by rw [← HS1.out]; exact HA2.out), Lib.hid (by rw [← HS2.out]; exact HM2.out), hs2⟩
          case measure => simp [intOf]; omega
        · have hkn : n = k := by omega
          subst hkn
          rw [HATE.out] at HAK
          have HIR := Lib.hid (IRow.of_arr HAK.out (by omega) HATL.out hmx)
          have HBF := Lib.hid (HBO.out.trans (HB'.out.mono HBO.out.size))
          go_wp2
          go_returns
          exact ⟨_, rfl, HIR.out, HBF.out⟩
end Go.Proofs.YtilkhamlhbbmgaaDoor
