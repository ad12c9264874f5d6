/- Direction: the reference's Order. -/
import Derived.Test.YtilkhamlhbbmgaaDoorRtu
import Derived.Test.YtilkhamlhbbmgaaDoorRrn
namespace Go.Proofs.YtilkhamlhbbmgaaDoor
open Go.RowKit

theorem idL_next (k : Nat) : icells (idL k) ++ [.int .i64 (k : Int)] = icells (idL (k + 1)) := by simp [icells, idL, List.range_succ]
set_option maxRecDepth 100000 in
set_option maxHeartbeats 8000000 in
theorem rorder_any (w : World) (v : Value) (s : List Int) (hv : IRow w w.heap.size v s) : Calls Tryd.prog 35 #[v] w fun e w' => ∃ u, e = .returned (.tuple #[u, .int .i64 (odE s)]) ∧ IRow w' w'.heap.size u (odV s) ∧ Below w.heap.size w w' := by
  obtain ⟨i0, hif, hz0, hz1, hz2⟩ := info_parts Tryd.info3r
  have hbs := bs0_22
  have HTU := Lib.hid (fun (W : World) (hW : Below w.heap.size w W) (v0 : Value) (o : List Int) (ho : IRow W W.heap.size v0 o) (hl : o.length = s.length) (hn : s.length ≤ 4096) (m : Int) => rturned_any W v0 v m s o ho ((hv.below hW).mono hW.size) hl (by omega))
  obtain ⟨a, c, rfl, hc, hm, HC⟩ := hv.laterD
  have HC := Lib.hid HC
  have HOE : Hid (odE s = if 4096 < s.length then 2 else if s.any noLv then 100 else 0) := Lib.hid rfl
  have HOV : Hid (odV s = if odE s = 0 then orL s else []) := Lib.hid rfl
  have HOR : Hid (tuL 1 s (tuL 2 s (idL s.length)) = orL s) := Lib.hid rfl
  have HTL := Lib.hid (fun m o => tuL_len m s o)
  have HIL := Lib.hid (idL_len s.length)
  obtain ⟨n, hN⟩ : ∃ n, s.length = n := ⟨_, rfl⟩
  rw [hN] at HC HTU HOE HOR HTL HIL hc ⊢
  have HN := Lib.hid hN
  have hmx : n ≤ c := hc
  clear hN hv
  unfold maxLen at hm
  by_cases h1 : 4096 < n
  · have d : decide (4096 < (n : Int)) = true := by simp; omega
    rw [HOV.out, HOE.out, if_pos h1]
    clear h1 HTU
    go_enter Tryd.func35, Tryd.ntmps35
    go_wp2
    go_ret2
    exact ⟨_, rfl, IRow.nil _ _, Below.refl _ _⟩
  · have d : decide (4096 < (n : Int)) = false := by simp; omega
    have hn4 : n ≤ 4096 := by omega
    have HTU2 := Lib.hid (fun W hW v0 o ho hl m => HTU.out W hW v0 o ho hl hn4 m)
    rw [if_neg h1] at HOE
    clear h1 HTU
    obtain ⟨zE, hzE⟩ : ∃ z, odE s = z := ⟨_, rfl⟩
    obtain ⟨zV, hzV⟩ : ∃ z, odV s = z := ⟨_, rfl⟩
    rw [hzE] at HOE HOV ⊢
    rw [hzV] at HOV ⊢
    clear hzE hzV
    go_enter Tryd.func35, Tryd.ntmps35
    go_wp2
    go_loopw [4, 5] (fun s4 s5 wr => ∃ (k : Nat) (oa : Option Addr) (oc : Nat), k ≤ n ∧ s5 = .int .i64 (k : Int) ∧ s4 = .slice oa k oc ∧ Hid (Below w.heap.size w wr) ∧ Hid (wr.ownsRow w.heap.size 3 1 (.slice oa k oc) k (icells (idL k))) ∧ Hid (∀ j (h : j < s.length), j < k → noLv s[j] = false)) (fun _ s5 _ => n - (intOf s5).toNat)
    case atStart => exact ⟨0, _, _, Nat.zero_le _, rfl, rfl, Lib.hid (below_alloc w _), Lib.hid (own_empty w _ 3 (Nat.le_refl _)), Lib.hid (fun j _ h => absurd h (by omega))⟩
    case round =>
      obtain ⟨k, oa, oc, hk, rfl, rfl, HB, HO, HJ⟩ := hrel
      by_cases hlt : k < n
      · obtain ⟨b, off, rfl, hcell⟩ := HC.out wr HB.out k hlt
        have hks : k < s.length := by rw [HN.out]; exact hlt
        have hsg : s.getD k 0 = s[k] := by simp [List.getD, hks]
        obtain ⟨x, hx⟩ : ∃ x, s[k] = x := ⟨_, rfl⟩
        rw [hsg, hx] at hcell
        by_cases hq : noLv x = true
        · have HA : Hid (s.any noLv = true) := Lib.hid (any_at hks (by rw [hx]; exact hq))
          have hcase : x < 0 ∨ (¬ x < 0 ∧ 2 < x) := by unfold noLv at hq; simp at hq; omega
          clear hq hx hsg hks
          rcases hcase with h | ⟨h, h'⟩
          · have d1 : decide (x < 0) = true := decide_eq_true h
            go_wp2
            go_ret2
            rw [HOV.out, HOE.out, HA.out]
            exact ⟨_, rfl, IRow.nil _ _, HB.out⟩
          · have d1 : decide (x < 0) = false := decide_eq_false h
            have d2 : decide (2 < x) = true := decide_eq_true h'
            go_wp2
            go_ret2
            rw [HOV.out, HOE.out, HA.out]
            exact ⟨_, rfl, IRow.nil _ _, HB.out⟩
        · have HX : Hid (noLv s[k] = false) := Lib.hid (by rw [hx]; simpa using hq)
          have hcase : ¬ x < 0 ∧ ¬ 2 < x := by unfold noLv at hq; simp at hq; omega
          have d1 : decide (x < 0) = false := decide_eq_false hcase.1
          have d2 : decide (2 < x) = false := decide_eq_false hcase.2
          have HNX := Lib.hid (idL_next k)
          have hbz := HB.out.size
          clear hq hx hsg hcase
          go_wp2_with (at_builtin; refine wpList_append_own _ rfl _ _ 22 rfl w.heap.size 3 i0 (.int .i64 0) 1 8 Tryd.underlying22 hif hz0 hz1 hz2 rfl (by decide) (.slice oa k oc) k (icells (idL k)) rfl (HO.out.alloc _) ⟨wr.heap.size, 0, none⟩ 1 1 [.int .i64 k] rfl rfl (cell_one_new _ _ _) (by simp [Value.oneCell']) (by unfold maxLen; omega) (by omega) (by simp; omega) ?_; intro v' w3 hown' hgrow _; have HO3 := Lib.hid hown'; have HB3 := Lib.hid ((HB.out.alloc HB.out.size _).grown hgrow (by simp; omega) (fun r e => (HO.out.lt r e).1)); obtain ⟨oa', oc', rfl⟩ := own_slice hown'; clear hown' hgrow)
          go_roundw
          case rel => exact ⟨k + 1, _, _, by omega, by go_num, rfl, HB3, Lib.hid (by rw [← HNX.out]; exact HO3.out), Lib.hid (fun j h hj => by
            by_cases e : j < k
            · exact HJ.out j h e
            · obtain rfl : j = k := by omega
              exact HX.out)⟩
          case measure => simp [intOf]; omega
      · have hkn : n = k := by omega
        subst hkn
        have HA : Hid (s.any noLv = false) := Lib.hid (any_take (k := n) (by rw [HN.out]; exact Nat.le_refl _) HJ.out HN.out.symm)
        have HIR := Lib.hid (IRow.of_own (l := idL n) (by rw [HIL.out]; exact HO.out))
        have HC1 := Lib.hid (HTU2.out wr HB.out _ (idL n) HIR.out HIL.out 2)
        go_wp2_with fail
        (with_reducible refine HC1.out.mono ?_)
        rintro e w2 ⟨u2, rfl, h2, hb2⟩
        have HB2 := Lib.hid (HB.out.trans (hb2.mono HB.out.size))
        have HC2 := Lib.hid (HTU2.out w2 HB2.out u2 _ h2 (HTL.out 2 _) 1)
        rw [HOR.out] at HC2
        clear h2 hb2
        go_wp2_with fail
        (with_reducible refine HC2.out.mono ?_)
        rintro e w3 ⟨u3, rfl, h3, hb3⟩
        have HI3 := Lib.hid h3
        have HB3 := Lib.hid (HB2.out.trans (hb3.mono HB2.out.size))
        clear h3 hb3
        go_wp2
        go_ret2
        rw [HOV.out, HOE.out, HA.out]
        exact ⟨_, rfl, HI3.out, HB3.out⟩
end Go.Proofs.YtilkhamlhbbmgaaDoor
