/- Direction: the reference's turned. -/
import Derived.Test.YtilkhamlhbbmgaaDoorLsh
import Derived.Test.YtilkhamlhbbmgaaDoorPie
namespace Go.Proofs.YtilkhamlhbbmgaaDoor
open Go.RowKit

theorem IRow.laterD {w : World} {v : Value} {l : List Int} (h : IRow w w.heap.size v l) : ∃ a c, v = .slice a l.length c ∧ l.length ≤ c ∧ c ≤ maxLen ∧ ∀ W, Below w.heap.size w W → ∀ k, k < l.length → ∃ b off, a = some ⟨b, off, none⟩ ∧ W.cell? ⟨b, off + k, none⟩ = some (.int .i64 (l.getD k 0)) := by
  obtain ⟨a, c, e, h1, h2, h3⟩ := h.later
  refine ⟨a, c, e, h1, h2, fun W hW k hk => ?_⟩
  obtain ⟨b, off, e2, h4⟩ := h3 W hW k hk
  exact ⟨b, off, e2, by rw [h4]; simp [List.getD, hk]⟩
theorem own_cap {W : World} {B e size g n c : Nat} {xs : List Value} (h : W.ownsRow B e size (.slice (some ⟨g, 0, none⟩) n c) n xs) : n ≤ c ∧ c ≤ maxLen := by
  rcases h.2 with ⟨h0, _⟩ | ⟨g1, cap1, cur, h0, _, _, h1, h2, _⟩
  · cases h0
  · injection h0 with _ _ e
    subst e
    exact ⟨h1, h2⟩
theorem IRow.of_arr2 {W : World} {g n c : Nat} {l : List Int} (h : Arr W g (icells l)) (hg : g < W.heap.size) (hl : l.length = n) (hn : n ≤ c) (hc : c ≤ maxLen) : IRow W W.heap.size (.slice (some ⟨g, 0, none⟩) n c) l := by
  subst hl
  refine ⟨_, _, rfl, hn, hc, .inr ⟨g, 0, rfl, hg, fun j hj => ?_⟩⟩
  rw [Nat.zero_add]
  exact h.cell (by simp [icells, hj])
def tuF (m : Int) (s o : List Int) (k j : Nat) : Int := if j < k then finT m s o j else o.getD j 0
theorem tuF_zero (m : Int) (s o : List Int) (n : Nat) (h : o.length = n) : (List.range n).map (tuF m s o 0) = o := by
  apply List.ext_getElem (by simp [h])
  intro j h1 h2
  simp only [List.getElem_map, List.getElem_range, tuF]
  rw [if_neg (by omega)]
  simp [List.getD, h2]
theorem tuF_set (m : Int) (s o : List Int) (n k : Nat) : (icells ((List.range n).map (tuF m s o k))).set k (.int .i64 (finT m s o k)) = icells ((List.range n).map (tuF m s o (k + 1))) := by
  simp only [icells, List.map_map]
  apply List.ext_getElem (by simp)
  intro j h1 h2
  rw [List.getElem_set]
  simp only [List.getElem_map, List.getElem_range, Function.comp_apply, tuF]
  by_cases h : k = j
  · subst h; rw [if_pos rfl, if_pos (by omega)]
  · rw [if_neg h]
    by_cases h3 : j < k
    · rw [if_pos h3, if_pos (by omega)]
    · rw [if_neg h3, if_neg (by omega)]
theorem tuF_skip (m : Int) (s o : List Int) (n k : Nat) (h : geB m s k = false) : (List.range n).map (tuF m s o k) = (List.range n).map (tuF m s o (k + 1)) := by
  refine List.map_congr_left fun j _ => ?_
  unfold tuF
  by_cases h1 : j < k
  · rw [if_pos h1, if_pos (by omega)]
  · rw [if_neg h1]
    by_cases h2 : j < k + 1
    · rw [if_pos h2]
      unfold finT
      rw [show j = k by omega, h, if_neg (by simp)]
    · rw [if_neg h2]
theorem tuF_end (m : Int) (s o : List Int) : (List.range s.length).map (tuF m s o s.length) = tuL m s o := by
  unfold tuL
  refine List.map_congr_left fun j hj => ?_
  rw [List.mem_range] at hj
  unfold tuF
  rw [if_pos hj]
set_option maxRecDepth 100000 in
set_option maxHeartbeats 8000000 in
theorem rturned_any (w : World) (v0 v1 : Value) (m : Int) (lev o : List Int) (ho : IRow w w.heap.size v0 o) (hv : IRow w w.heap.size v1 lev) (hl : o.length = lev.length) (hn : lev.length ≤ 1000000) : Calls Tryd.prog 62 #[v0, v1, .int .i64 m] w fun e w' => ∃ u, e = .returned u ∧ IRow w' w'.heap.size u (tuL m lev o) ∧ Below w.heap.size w w' := by
  obtain ⟨i0, hif, hz0, hz1, hz2⟩ := info_parts Tryd.info3r
  have HPX := Lib.hid ho.piece
  obtain ⟨a0, c0, rfl, hc0, hm0, HCO⟩ := ho.laterD
  obtain ⟨a1, c1, rfl, hc1, hm1, HCL⟩ := hv.laterD
  have HCO := Lib.hid HCO
  have HCL := Lib.hid HCL
  have HSET := Lib.hid (fun k => tuF_set m lev o lev.length k)
  have HSKIP := Lib.hid (fun k => tuF_skip m lev o lev.length k)
  have HZ := Lib.hid (tuF_zero m lev o lev.length hl)
  have HE := Lib.hid (tuF_end m lev o)
  have HTL := Lib.hid (tuL_len m lev o)
  have hbs := bs0_22
  obtain ⟨n, hN⟩ : ∃ n, lev.length = n := ⟨_, rfl⟩
  rw [hN] at hl HCL hc1 hn HSET HSKIP HZ HE HTL ⊢
  rw [hl] at HCO hc0 HPX ⊢
  have HLN := Lib.hid hN
  have HOL := Lib.hid hl
  have hmx : n ≤ maxLen := by unfold maxLen; omega
  clear hN hl ho hv
  unfold maxLen at hm0 hm1
  go_enter Tryd.func62, Tryd.ntmps62
  go_wp2_with (refine wpList_wanted (by rfl) ?_; refine wp_piece 22 3 i0 (.int .i64 0) 1 8 Tryd.underlying22 hif hz0 hz1 hz2 rfl (by decide) (.tmp 11) (.tmp 12) rfl (base := w.heap.size) (g := w.heap.size) (n := 0) (cap := 0) (xs := []) (by rfl) (own_empty w _ 3 (Nat.le_refl _)) (v := .slice a0 n c0) (m := n) (news := icells o) (by rfl) (HPX.out.kept (below_alloc w _)) (by rw [icells_len, HOL.out, Nat.mul_one]) (icells_one _) (by unfold maxLen; omega) (by omega) (by simp) n (by omega) (icells o) rfl ?_; intro hg5 g5 c5 w5 ho5 hgr5 _; have hg5b := ho5.lt g5 rfl; have hcap := own_cap ho5; have HO5 := Lib.hid (Arr.of_own ho5); have HB5 : Hid (Below w.heap.size w w5) := Lib.hid ((below_alloc w _).grown hgr5 (by simp) (fun r e => by cases e; exact hg5)); clear ho5 hgr5 hg5; simp only [Act.put, List.setIfInBounds_toArray, List.set_cons_zero, List.set_cons_succ])
  have hg5 : w.heap.size ≤ g5 := hg5b.1
  obtain ⟨hc5, hc5m⟩ := hcap
  have hgz := hg5b.2
  go_loopw [8, 9, 10] (fun s8 s9 s10 wr => ∃ k : Nat, k ≤ n ∧ s8 = .int .i64 k ∧ Hid (Below w.heap.size w wr) ∧ Hid (Arr wr g5 (icells ((List.range n).map (tuF m lev o k)))) ∧ g5 < wr.heap.size) (fun s8 _ _ _ => n - (intOf s8).toNat)
  case atStart => exact ⟨0, Nat.zero_le _, rfl, HB5, by rw [HZ.out]; exact HO5, hgz⟩
  case round =>
    obtain ⟨k, hk, rfl, HB, HA, hgr⟩ := hrel
    by_cases hlt : k < n
    · obtain ⟨bl, ol, rfl, hcl⟩ := HCL.out wr HB.out k hlt
      obtain ⟨bo, oo, rfl, -⟩ := HCO.out wr HB.out k hlt
      have HCL2 : Hid (∀ W, Below w.heap.size w W → ∀ j, j < n → W.cell? ⟨bl, ol + j, none⟩ = some (.int .i64 (lev.getD j 0))) := Lib.hid (fun W hW j hj => by
        obtain ⟨b', o', e, h⟩ := HCL.out W hW j hj
        injection e with e
        injection e with e1 e2
        rw [e1, e2]; exact h)
      have HCO2 : Hid (∀ W, Below w.heap.size w W → ∀ j, j < n → W.cell? ⟨bo, oo + j, none⟩ = some (.int .i64 (o.getD j 0))) := Lib.hid (fun W hW j hj => by
        obtain ⟨b', o', e, h⟩ := HCO.out W hW j hj
        injection e with e
        injection e with e1 e2
        rw [e1, e2]; exact h)
      have HXQ : Hid (∃ x, lev.getD k 0 = x) := Lib.hid ⟨_, rfl⟩
      obtain ⟨x, hx⟩ := HXQ.out
      rw [hx] at hcl
      by_cases hq : x < m
      · have HPK : Hid (geB m lev k = false) := Lib.hid (by unfold geB; rw [hx]; exact decide_eq_false (by omega))
        have dq : decide (x < m) = true := decide_eq_true hq
        clear hq hx HXQ
        go_wp2
        go_roundw
        case rel => exact ⟨k + 1, by omega, by go_num, HB, by rw [← HSKIP.out k HPK.out]; exact HA, hgr⟩
        case measure => simp [intOf]; omega
      · have HPK : Hid (geB m lev k = true) := Lib.hid (by unfold geB; rw [hx]; exact decide_eq_true (by omega))
        have dq : decide (x < m) = false := decide_eq_false hq
        clear hq hx HXQ
        go_wp2
        go_loopw [9] (fun s9 wr => ∃ f : Nat, f ≤ k ∧ s9 = .int .i64 (f : Int) ∧ Hid (∀ j, f ≤ j → j < k → geB m lev j = true) ∧ Hid (Below w.heap.size w wr) ∧ Hid (Arr wr g5 (icells ((List.range n).map (tuF m lev o k)))) ∧ g5 < wr.heap.size) (fun s9 _ => (intOf s9).toNat)
        case atStart => exact ⟨k, Nat.le_refl _, rfl, Lib.hid (fun j a b => by omega), HB, HA, hgr⟩
        case round =>
          obtain ⟨f, hfk, rfl, HDN, HB, HA, hgr⟩ := hrel
          by_cases hf0 : 0 < f
          · obtain ⟨f', hff⟩ : ∃ f', f = f' + 1 := ⟨f - 1, by omega⟩
            have hcl := HCL2.out wr HB.out f' (by omega)
            have hw1 : IntKind.i64.wrap ((f : Int) - 1) = (f' : Int) := by rw [IntKind.wrap_i64]; omega
            have hfn : f' < n := by omega
            have HFF := Lib.hid hff
            clear hff
            have HXQ : Hid (∃ x, lev.getD f' 0 = x) := Lib.hid ⟨_, rfl⟩
            obtain ⟨x, hx⟩ := HXQ.out
            rw [hx] at hcl
            by_cases hq : m ≤ x
            · have HQ : Hid (geB m lev f' = true) := Lib.hid (by unfold geB; rw [hx]; exact decide_eq_true hq)
              have dq : decide (m ≤ x) = true := decide_eq_true hq
              clear hq hx HXQ
              go_wp2
              go_roundw
              case rel => exact ⟨f', by have := HFF.out; omega, by go_num, Lib.hid (fun j a b => by
                by_cases hju : j = f'
                · rw [hju]; exact HQ.out
                · exact HDN.out j (by have := HFF.out; omega) b), HB, HA, hgr⟩
              case measure => have := HFF.out; simp [intOf]; omega
            · have HFL : Hid (lo (geB m lev) k = f) := Lib.hid (lo_eq hfk HDN.out (.inr (by rw [HFF.out, Nat.add_sub_cancel]; unfold geB; rw [hx]; exact decide_eq_false hq)))
              have dq : decide (m ≤ x) = false := decide_eq_false hq
              clear hq hx HXQ
              go_wp2
              go_loopw [10] (fun s10 wr => ∃ u : Nat, k < u ∧ u ≤ n ∧ s10 = .int .i64 (u : Int) ∧ Hid (∀ j, k ≤ j → j < u → geB m lev j = true) ∧ Hid (Below w.heap.size w wr) ∧ Hid (Arr wr g5 (icells ((List.range n).map (tuF m lev o k)))) ∧ g5 < wr.heap.size) (fun s10 _ => n - (intOf s10).toNat)
              case atStart => exact ⟨k + 1, by omega, by omega, by go_num, Lib.hid (fun j a b => by rw [show j = k by omega]; exact HPK.out), HB, HA, hgr⟩
              case round =>
                obtain ⟨u, hku, hun, rfl, HUP, HB, HA, hgr⟩ := hrel
                by_cases hul : u < n
                · have hcl := HCL2.out wr HB.out u hul
                  have HXQ : Hid (∃ x, lev.getD u 0 = x) := Lib.hid ⟨_, rfl⟩
                  obtain ⟨x, hx⟩ := HXQ.out
                  rw [hx] at hcl
                  by_cases hq : m ≤ x
                  · have HQ : Hid (geB m lev u = true) := Lib.hid (by unfold geB; rw [hx]; exact decide_eq_true hq)
                    have dq : decide (m ≤ x) = true := decide_eq_true hq
                    clear hq hx HXQ
                    go_wp2
                    go_roundw
                    case rel => exact ⟨u + 1, by omega, by omega, by go_num, Lib.hid (fun j a b => by
                      by_cases hju : j = u
                      · rw [hju]; exact HQ.out
                      · exact HUP.out j a (by omega)), HB, HA, hgr⟩
                    case measure => simp [intOf]; omega
                  · have HEU : Hid (u = n ∨ geB m lev u = false) := Lib.hid (.inr (by unfold geB; rw [hx]; exact decide_eq_false hq))
                    have dq : decide (m ≤ x) = false := decide_eq_false hq
                    clear hq hx HXQ
                    have hhi : hi (geB m lev) n k = u := hi_eq (by omega) (by omega) (fun j a b => HUP.out j a b) HEU.out
                    have hfin : finT m lev o k = o.getD (f + u - 1 - k) 0 := by
                      unfold finT
                      rw [HPK.out, if_pos rfl, HFL.out, HLN.out, hhi]
                    have hco := HCO2.out wr HB.out (f + u - 1 - k) (by omega)
                    have hyw1 : IntKind.i64.wrap ((f : Int) + (u : Int)) = ((f + u : Nat) : Int) := by rw [IntKind.wrap_i64]; omega
                    have hyw2 : IntKind.i64.wrap (((f + u : Nat) : Int) - 1) = ((f + u - 1 : Nat) : Int) := by rw [IntKind.wrap_i64]; omega
                    have hyw3 : IntKind.i64.wrap (((f + u - 1 : Nat) : Int) - (k : Int)) = ((f + u - 1 - k : Nat) : Int) := by rw [IntKind.wrap_i64]; omega
                    have HS1 := Lib.hid (HSET.out k)
                    rw [hfin] at HS1
                    obtain ⟨z, hz⟩ : ∃ z, o.getD (f + u - 1 - k) 0 = z := ⟨_, rfl⟩
                    rw [hz] at hco HS1
                    obtain ⟨y, hy⟩ : ∃ y, f + u - 1 - k = y := ⟨_, rfl⟩
                    rw [hy] at hco hyw3
                    have hyn : y < n := by omega
                    have hcl : k < (icells ((List.range n).map (tuF m lev o k))).length := by simp [icells]; omega
                    have hcc := HA.out.cell (i := k) (v := (icells ((List.range n).map (tuF m lev o k)))[k]) (List.getElem?_eq_getElem hcl)
                    have hff := HA.out.frozen hcl
                    obtain ⟨x, hx⟩ : ∃ x, tuF m lev o k k = x := ⟨_, rfl⟩
                    have hxx : (icells ((List.range n).map (tuF m lev o k)))[k] = .int .i64 x := by rw [← hx]; simp [icells]
                    rw [hxx] at hcc
                    have HA2 := Lib.hid (HA.out.set k (.int .i64 z))
                    have HB2 := Lib.hid (HB.out.setCell (p := ⟨g5, k, none⟩) hg5 (.int .i64 z))
                    have hs2 : g5 < (wr.setCell ⟨g5, k, none⟩ (.int .i64 z)).heap.size := by simpa [World.setCell] using hgr
                    clear hhi hfin hx hxx hcl hz
                    go_wp2
                    go_roundw
                    case rel => exact ⟨k + 1, by omega, by go_num, HB2, Lib.hid (by rw [← HS1.out]; exact HA2.out), hs2⟩
                    case measure => simp [intOf]; omega
                · have HEU : Hid (u = n ∨ geB m lev u = false) := Lib.hid (.inl (by omega))
                  have hhi : hi (geB m lev) n k = u := hi_eq (by omega) (by omega) (fun j a b => HUP.out j a b) HEU.out
                  have hfin : finT m lev o k = o.getD (f + u - 1 - k) 0 := by
                    unfold finT
                    rw [HPK.out, if_pos rfl, HFL.out, HLN.out, hhi]
                  have hco := HCO2.out wr HB.out (f + u - 1 - k) (by omega)
                  have hyw1 : IntKind.i64.wrap ((f : Int) + (u : Int)) = ((f + u : Nat) : Int) := by rw [IntKind.wrap_i64]; omega
                  have hyw2 : IntKind.i64.wrap (((f + u : Nat) : Int) - 1) = ((f + u - 1 : Nat) : Int) := by rw [IntKind.wrap_i64]; omega
                  have hyw3 : IntKind.i64.wrap (((f + u - 1 : Nat) : Int) - (k : Int)) = ((f + u - 1 - k : Nat) : Int) := by rw [IntKind.wrap_i64]; omega
                  have HS1 := Lib.hid (HSET.out k)
                  rw [hfin] at HS1
                  obtain ⟨z, hz⟩ : ∃ z, o.getD (f + u - 1 - k) 0 = z := ⟨_, rfl⟩
                  rw [hz] at hco HS1
                  obtain ⟨y, hy⟩ : ∃ y, f + u - 1 - k = y := ⟨_, rfl⟩
                  rw [hy] at hco hyw3
                  have hyn : y < n := by omega
                  have hcl : k < (icells ((List.range n).map (tuF m lev o k))).length := by simp [icells]; omega
                  have hcc := HA.out.cell (i := k) (v := (icells ((List.range n).map (tuF m lev o k)))[k]) (List.getElem?_eq_getElem hcl)
                  have hff := HA.out.frozen hcl
                  obtain ⟨x, hx⟩ : ∃ x, tuF m lev o k k = x := ⟨_, rfl⟩
                  have hxx : (icells ((List.range n).map (tuF m lev o k)))[k] = .int .i64 x := by rw [← hx]; simp [icells]
                  rw [hxx] at hcc
                  have HA2 := Lib.hid (HA.out.set k (.int .i64 z))
                  have HB2 := Lib.hid (HB.out.setCell (p := ⟨g5, k, none⟩) hg5 (.int .i64 z))
                  have hs2 : g5 < (wr.setCell ⟨g5, k, none⟩ (.int .i64 z)).heap.size := by simpa [World.setCell] using hgr
                  clear hhi hfin hx hxx hcl hz
                  go_wp2
                  go_roundw
                  case rel => exact ⟨k + 1, by omega, by go_num, HB2, Lib.hid (by rw [← HS1.out]; exact HA2.out), hs2⟩
                  case measure => simp [intOf]; omega
          · have HFL : Hid (lo (geB m lev) k = f) := Lib.hid (lo_eq hfk HDN.out (.inl (by omega)))
            go_wp2
            go_loopw [10] (fun s10 wr => ∃ u : Nat, k < u ∧ u ≤ n ∧ s10 = .int .i64 (u : Int) ∧ Hid (∀ j, k ≤ j → j < u → geB m lev j = true) ∧ Hid (Below w.heap.size w wr) ∧ Hid (Arr wr g5 (icells ((List.range n).map (tuF m lev o k)))) ∧ g5 < wr.heap.size) (fun s10 _ => n - (intOf s10).toNat)
            case atStart => exact ⟨k + 1, by omega, by omega, by go_num, Lib.hid (fun j a b => by rw [show j = k by omega]; exact HPK.out), HB, HA, hgr⟩
            case round =>
              obtain ⟨u, hku, hun, rfl, HUP, HB, HA, hgr⟩ := hrel
              by_cases hul : u < n
              · have hcl := HCL2.out wr HB.out u hul
                have HXQ : Hid (∃ x, lev.getD u 0 = x) := Lib.hid ⟨_, rfl⟩
                obtain ⟨x, hx⟩ := HXQ.out
                rw [hx] at hcl
                by_cases hq : m ≤ x
                · have HQ : Hid (geB m lev u = true) := Lib.hid (by unfold geB; rw [hx]; exact decide_eq_true hq)
                  have dq : decide (m ≤ x) = true := decide_eq_true hq
                  clear hq hx HXQ
                  go_wp2
                  go_roundw
                  case rel => exact ⟨u + 1, by omega, by omega, by go_num, Lib.hid (fun j a b => by
                    by_cases hju : j = u
                    · rw [hju]; exact HQ.out
                    · exact HUP.out j a (by omega)), HB, HA, hgr⟩
                  case measure => simp [intOf]; omega
                · have HEU : Hid (u = n ∨ geB m lev u = false) := Lib.hid (.inr (by unfold geB; rw [hx]; exact decide_eq_false hq))
                  have dq : decide (m ≤ x) = false := decide_eq_false hq
                  clear hq hx HXQ
                  have hhi : hi (geB m lev) n k = u := hi_eq (by omega) (by omega) (fun j a b => HUP.out j a b) HEU.out
                  have hfin : finT m lev o k = o.getD (f + u - 1 - k) 0 := by
                    unfold finT
                    rw [HPK.out, if_pos rfl, HFL.out, HLN.out, hhi]
                  have hco := HCO2.out wr HB.out (f + u - 1 - k) (by omega)
                  have hyw1 : IntKind.i64.wrap ((f : Int) + (u : Int)) = ((f + u : Nat) : Int) := by rw [IntKind.wrap_i64]; omega
                  have hyw2 : IntKind.i64.wrap (((f + u : Nat) : Int) - 1) = ((f + u - 1 : Nat) : Int) := by rw [IntKind.wrap_i64]; omega
                  have hyw3 : IntKind.i64.wrap (((f + u - 1 : Nat) : Int) - (k : Int)) = ((f + u - 1 - k : Nat) : Int) := by rw [IntKind.wrap_i64]; omega
                  have HS1 := Lib.hid (HSET.out k)
                  rw [hfin] at HS1
                  obtain ⟨z, hz⟩ : ∃ z, o.getD (f + u - 1 - k) 0 = z := ⟨_, rfl⟩
                  rw [hz] at hco HS1
                  obtain ⟨y, hy⟩ : ∃ y, f + u - 1 - k = y := ⟨_, rfl⟩
                  rw [hy] at hco hyw3
                  have hyn : y < n := by omega
                  have hcl : k < (icells ((List.range n).map (tuF m lev o k))).length := by simp [icells]; omega
                  have hcc := HA.out.cell (i := k) (v := (icells ((List.range n).map (tuF m lev o k)))[k]) (List.getElem?_eq_getElem hcl)
                  have hff := HA.out.frozen hcl
                  obtain ⟨x, hx⟩ : ∃ x, tuF m lev o k k = x := ⟨_, rfl⟩
                  have hxx : (icells ((List.range n).map (tuF m lev o k)))[k] = .int .i64 x := by rw [← hx]; simp [icells]
                  rw [hxx] at hcc
                  have HA2 := Lib.hid (HA.out.set k (.int .i64 z))
                  have HB2 := Lib.hid (HB.out.setCell (p := ⟨g5, k, none⟩) hg5 (.int .i64 z))
                  have hs2 : g5 < (wr.setCell ⟨g5, k, none⟩ (.int .i64 z)).heap.size := by simpa [World.setCell] using hgr
                  clear hhi hfin hx hxx hcl hz
                  go_wp2
                  go_roundw
                  case rel => exact ⟨k + 1, by omega, by go_num, HB2, Lib.hid (by rw [← HS1.out]; exact HA2.out), hs2⟩
                  case measure => simp [intOf]; omega
              · have HEU : Hid (u = n ∨ geB m lev u = false) := Lib.hid (.inl (by omega))
                have hhi : hi (geB m lev) n k = u := hi_eq (by omega) (by omega) (fun j a b => HUP.out j a b) HEU.out
                have hfin : finT m lev o k = o.getD (f + u - 1 - k) 0 := by
                  unfold finT
                  rw [HPK.out, if_pos rfl, HFL.out, HLN.out, hhi]
                have hco := HCO2.out wr HB.out (f + u - 1 - k) (by omega)
                have hyw1 : IntKind.i64.wrap ((f : Int) + (u : Int)) = ((f + u : Nat) : Int) := by rw [IntKind.wrap_i64]; omega
                have hyw2 : IntKind.i64.wrap (((f + u : Nat) : Int) - 1) = ((f + u - 1 : Nat) : Int) := by rw [IntKind.wrap_i64]; omega
                have hyw3 : IntKind.i64.wrap (((f + u - 1 : Nat) : Int) - (k : Int)) = ((f + u - 1 - k : Nat) : Int) := by rw [IntKind.wrap_i64]; omega
                have HS1 := Lib.hid (HSET.out k)
                rw [hfin] at HS1
                obtain ⟨z, hz⟩ : ∃ z, o.getD (f + u - 1 - k) 0 = z := ⟨_, rfl⟩
                rw [hz] at hco HS1
                obtain ⟨y, hy⟩ : ∃ y, f + u - 1 - k = y := ⟨_, rfl⟩
                rw [hy] at hco hyw3
                have hyn : y < n := by omega
                have hcl : k < (icells ((List.range n).map (tuF m lev o k))).length := by simp [icells]; omega
                have hcc := HA.out.cell (i := k) (v := (icells ((List.range n).map (tuF m lev o k)))[k]) (List.getElem?_eq_getElem hcl)
                have hff := HA.out.frozen hcl
                obtain ⟨x, hx⟩ : ∃ x, tuF m lev o k k = x := ⟨_, rfl⟩
                have hxx : (icells ((List.range n).map (tuF m lev o k)))[k] = .int .i64 x := by rw [← hx]; simp [icells]
                rw [hxx] at hcc
                have HA2 := Lib.hid (HA.out.set k (.int .i64 z))
                have HB2 := Lib.hid (HB.out.setCell (p := ⟨g5, k, none⟩) hg5 (.int .i64 z))
                have hs2 : g5 < (wr.setCell ⟨g5, k, none⟩ (.int .i64 z)).heap.size := by simpa [World.setCell] using hgr
                clear hhi hfin hx hxx hcl hz
                go_wp2
                go_roundw
                case rel => exact ⟨k + 1, by omega, by go_num, HB2, Lib.hid (by rw [← HS1.out]; exact HA2.out), hs2⟩
                case measure => simp [intOf]; omega
    · have hkn : n = k := by omega
      subst hkn
      rw [HE.out] at HA
      have HIR := Lib.hid (IRow.of_arr2 HA.out hgr HTL.out hc5 hc5m)
      go_wp2
      go_ret
      exact ⟨_, rfl, HIR.out, HB.out⟩
end Go.Proofs.YtilkhamlhbbmgaaDoor
