/- Direction: the iterator over the greatest runs. -/
import Derived.Test.YtilkhamlhbbmgaaDoorDsm
import Derived.Test.YtilkhamlhbbmgaaDoorRit
import Derived.Deep.QuietTactic
import Derived.BigQuiet
namespace Go.Proofs.YtilkhamlhbbmgaaDoor
open Go.RowKit

/-- What the iterator reads before its round k. -/
structure RunsK (va : Option Addr) (c : Nat) (fv : Value) (Qs Qf : Nat) (lev : List Int) (R : List (Nat × Nat)) (k : Nat) (W : World) : Prop where
  s : W.cell? ⟨Qs, 0, none⟩ = some (.slice va lev.length c)
  f : W.cell? ⟨Qf, 0, none⟩ = some fv
  l : ∀ j, bnd R k ≤ j → j < lev.length → ∃ b off, va = some ⟨b, off, none⟩ ∧ W.cell? ⟨b, off + j, none⟩ = some (.int .i64 (lev.getD j 0))
def runV (R : List (Nat × Nat)) (k : Nat) : Array Value := #[.int .i64 ((R.getD k (0, 0)).1 : Int), .int .i64 ((R.getD k (0, 0)).2 : Int)]

set_option maxRecDepth 100000 in
set_option maxHeartbeats 8000000 in
theorem runs71_in (n : Nat) (hn : 1 ≤ n) (lb Qs Qf M N : Nat) (va : Option Addr) (c : Nat) (lev : List Int) (q : Int → Bool) (R : List (Nat × Nat)) (hM : lev.length = M) (hM9 : M ≤ 1000000000) (hN : R.length = N) (hCh : Chain (fun j => q (lev.getD j 0)) M 0 R)
    (J : Nat → World → Prop) (Jx : Unit → World → Prop) (hKp : ∀ k W, J k W → RunsK va c (.func (.func 71) #[] #[]) Qs Qf lev R k W) (hQ : ∀ k W, J k W → ∀ x, Calls Tryd.prog 71 #[.int .i64 x] W fun e w' => e = .returned (.bool (q x)) ∧ w' = W)
    (hJB : ∀ k W W', J k W → Below W.heap.size W W' → J k W')
    (hY : ∀ k W, k < N → J k W → YieldAt Fence.wide (n - 1) Tryd.prog lb (runV R k) W fun e W' => (e = .returned (.bool true) ∧ J (k + 1) W') ∨ (e = .returned (.bool false) ∧ Jx () W'))
    (W : World) (hj : J 0 W) :
    CallsIn Fence.wide n Tryd.prog 80 #[.func (.yield lb) #[] #[], .pointer (some ⟨Qs, 0, none⟩), .pointer (some ⟨Qf, 0, none⟩)] W fun e W' => (∃ v, e = .returned v) ∧ (J N W' ∨ Jx () W') := by
  have HY := Lib.hid hY
  have HKP := Lib.hid hKp
  have HQ := Lib.hid hQ
  have HJB := Lib.hid hJB
  have HJ0 := Lib.hid hj
  have HCH0 := Lib.hid hCh
  have HN := Lib.hid hN
  have HM := Lib.hid hM
  clear hY hj hKp hJB hCh hN hM hQ
  refine callsIn_of_wp Tryd.func80 rfl trivial ?_ rfl
  simp only [Tryd.ntmps80, List.size_toArray, List.length_cons, List.length_nil, Nat.reduceAdd, Nat.reduceSub, Array.replicate_succ, Array.replicate_zero, List.push_toArray, List.append_toArray, List.nil_append, List.cons_append]
  gi_wp2
  gi_loopw [4, 5] (fun s4 s5 wr => ∃ (k t : Nat), k ≤ N ∧ s4 = .int .i64 (t : Int) ∧ t ≤ M + 1 ∧ Hid (Chain (fun j => q (lev.getD j 0)) M t (R.drop k)) ∧ bnd R k ≤ t ∧ Hid (J k wr)) (fun s4 _ _ => M + 1 - (intOf s4).toNat)
  case atStart => exact ⟨0, 0, Nat.zero_le _, rfl, Nat.zero_le _, HCH0, Nat.le_refl _, HJ0⟩
  case round =>
    obtain ⟨k, t, hk, rfl, ht, HCH, hbt, HJ⟩ := hrel
    have hcs := (HKP.out _ _ HJ.out).s
    rw [HM.out] at hcs
    by_cases hlt : t < M
    · gi_wp2
      gi_loopw [4] (fun s4 wi => ∃ u : Nat, t ≤ u ∧ u ≤ M ∧ s4 = .int .i64 (u : Int) ∧ Hid (∀ j, t ≤ j → j < u → q (lev.getD j 0) = true) ∧ Hid (J k wi)) (fun s4 _ => M - (intOf s4).toNat)
      case atStart => exact ⟨t, Nat.le_refl _, by omega, rfl, Lib.hid (fun j a b => by omega), HJ⟩
      case round =>
        obtain ⟨u, htu0, huM, rfl, HPT, HJI⟩ := hrel
        clear hcs
        have hcs := (HKP.out _ _ HJI.out).s
        have hcf := (HKP.out _ _ HJI.out).f
        rw [HM.out] at hcs
        by_cases hul : u < M
        · obtain ⟨b, off, rfl, hcl⟩ := (HKP.out _ _ HJI.out).l u (by omega) (by rw [HM.out]; exact hul)
          have HQ1 := Lib.hid (fun m => HQ.out k (wr.drewN m) (HJB.out _ _ _ HJI.out (below_drewN (Below.refl _ _) m)) (lev.getD u 0))
          have hul2 : decide ((u : Int) < (M : Int)) = true := by simp; omega
          have HXQ : Hid (∃ x bq, lev.getD u 0 = x ∧ q (lev.getD u 0) = bq) := Lib.hid ⟨_, _, rfl, rfl⟩
          obtain ⟨x, bq, hx, hbq⟩ := HXQ.out
          rw [hbq, hx] at HQ1
          rw [hx] at hcl
          have HBQ := Lib.hid hbq
          clear HXQ hx hbq
          gi_wp2
          refine wpIn_wide.2 ?_
          go_quiet ((go_at_call 71; exact Calls.quiet_of_same (HQ1.out _)))
          have HJD := Lib.hid (HJB.out _ _ (wr.drewN nq) HJI.out (below_drewN (Below.refl _ _) nq))
          obtain ⟨wd, hwd⟩ : ∃ wd, wr.drewN nq = wd := ⟨_, rfl⟩
          rw [hwd] at HJD ⊢
          clear hwd
          cases bq
          · skip
            have HEX : Hid (u = M ∨ q (lev.getD u 0) = false) := Lib.hid (.inr HBQ.out)
            by_cases htu : t < u
            · obtain ⟨R', hR', hC', hpe⟩ := Chain.take HCH.out htu (by omega) HPT.out HEX.out
              have hkN : k < N := by
                rcases Nat.lt_or_ge k N with h | h
                · exact h
                · rw [List.drop_eq_nil_of_le (by rw [HN.out]; exact h)] at hR'; cases hR'
              have hget : R.getD k (0, 0) = (t, u) := by
                have := congrArg (fun l => l[0]?) hR'
                rw [List.getElem?_drop, Nat.add_zero] at this
                simp [List.getD, this]
              have hdr : R.drop (k + 1) = R' := by
                have := congrArg List.tail hR'
                rwa [List.tail_drop] at this
              have HC2 : Hid (Chain (fun j => q (lev.getD j 0)) M (u + 1) (R.drop (k + 1))) := Lib.hid (by rw [hdr]; exact hC'.skip hpe)
              have hbn : bnd R (k + 1) = u := by show (R.getD k (0, 0)).2 = u; rw [hget]
              have HBN := Lib.hid hbn
              have HYY : Hid (∀ W2, J k W2 → YieldAt Fence.wide (n - 1) Tryd.prog lb #[.int .i64 (t : Int), .int .i64 (u : Int)] W2 fun e W' => ∃ bb, e = .returned (.bool bb) ∧ ((bb = true ∧ J (k + 1) W') ∨ (bb = false ∧ Jx () W'))) := Lib.hid (fun W2 hj => by
                obtain ⟨fn, tmps, assign, body, hy, hR⟩ := HY.out k W2 hkN hj
                have hv : runV R k = #[.int .i64 ((R.getD k (0, 0)).1 : Int), .int .i64 ((R.getD k (0, 0)).2 : Int)] := rfl
                rw [hv, hget] at hy
                refine ⟨fn, tmps, assign, body, hy, hR.mono ?_⟩
                rintro e W' (⟨rfl, h1⟩ | ⟨rfl, h1⟩)
                · exact ⟨true, rfl, .inl ⟨rfl, h1⟩⟩
                · exact ⟨false, rfl, .inr ⟨rfl, h1⟩⟩)
              clear hR' hC' hpe hget hdr hbn
              obtain ⟨fn, tmps, assign, body, hy, hR⟩ := HYY.out _ HJD.out
              gi_wp2_with fail
              refine hR.mono ?_
              rintro e W3 ⟨bb, rfl, h3⟩
              clear hy hR
              rcases h3 with ⟨rfl, hJ3⟩ | ⟨rfl, hJ3⟩
              · have HJ3 := Lib.hid hJ3
                clear hJ3
                gi_wp2
                go_roundw
                case rel => exact ⟨k + 1, u + 1, by omega, by go_num, by omega, HC2, by rw [HBN.out]; omega, HJ3⟩
                case measure => simp [intOf]; omega
              · gi_wp2
                refine bodyPost_ret (results_none rfl _ _ _) rfl ?_
                exact ⟨⟨_, rfl⟩, .inr hJ3⟩
            · have hut : u = t := by omega
              have HC2 : Hid (Chain (fun j => q (lev.getD j 0)) M (u + 1) (R.drop k)) := Lib.hid (by
                rw [hut]
                exact HCH.out.skip (fun h => by
                  rcases HEX.out with e | e
                  · omega
                  · rw [← hut]; exact e))
              clear hut
              gi_wp2
              refine ⟨fun f hf => (by cases hf), ?_⟩
              gi_wp2
              go_roundw
              case rel => exact ⟨k, u + 1, hk, by go_num, by omega, HC2, by omega, Lib.hid HJD.out⟩
              case measure => simp [intOf]; omega
          · gi_wp2
            go_roundw
            case rel => exact ⟨u + 1, by omega, by omega, by go_num, Lib.hid (fun j a b => by
              by_cases hju : j = u
              · rw [hju]; exact HBQ.out
              · exact HPT.out j a (by omega)), HJD⟩
            case measure => simp [intOf]; omega
        · have HUM : Hid (u = M) := Lib.hid (by omega)
          have hul2 : decide ((u : Int) < (M : Int)) = false := by simp; omega
          gi_wp2
          refine wpIn_wide.2 ?_
          go_quiet (fail)
          have HJD := Lib.hid (HJB.out _ _ (wr.drewN nq) HJI.out (below_drewN (Below.refl _ _) nq))
          obtain ⟨wd, hwd⟩ : ∃ wd, wr.drewN nq = wd := ⟨_, rfl⟩
          rw [hwd] at HJD ⊢
          clear hwd
          have HEX : Hid (u = M ∨ q (lev.getD u 0) = false) := Lib.hid (.inl HUM.out)
          by_cases htu : t < u
          · obtain ⟨R', hR', hC', hpe⟩ := Chain.take HCH.out htu (by omega) HPT.out HEX.out
            have hkN : k < N := by
              rcases Nat.lt_or_ge k N with h | h
              · exact h
              · rw [List.drop_eq_nil_of_le (by rw [HN.out]; exact h)] at hR'; cases hR'
            have hget : R.getD k (0, 0) = (t, u) := by
              have := congrArg (fun l => l[0]?) hR'
              rw [List.getElem?_drop, Nat.add_zero] at this
              simp [List.getD, this]
            have hdr : R.drop (k + 1) = R' := by
              have := congrArg List.tail hR'
              rwa [List.tail_drop] at this
            have HC2 : Hid (Chain (fun j => q (lev.getD j 0)) M (u + 1) (R.drop (k + 1))) := Lib.hid (by rw [hdr]; exact hC'.skip hpe)
            have hbn : bnd R (k + 1) = u := by show (R.getD k (0, 0)).2 = u; rw [hget]
            have HBN := Lib.hid hbn
            have HYY : Hid (∀ W2, J k W2 → YieldAt Fence.wide (n - 1) Tryd.prog lb #[.int .i64 (t : Int), .int .i64 (u : Int)] W2 fun e W' => ∃ bb, e = .returned (.bool bb) ∧ ((bb = true ∧ J (k + 1) W') ∨ (bb = false ∧ Jx () W'))) := Lib.hid (fun W2 hj => by
              obtain ⟨fn, tmps, assign, body, hy, hR⟩ := HY.out k W2 hkN hj
              have hv : runV R k = #[.int .i64 ((R.getD k (0, 0)).1 : Int), .int .i64 ((R.getD k (0, 0)).2 : Int)] := rfl
              rw [hv, hget] at hy
              refine ⟨fn, tmps, assign, body, hy, hR.mono ?_⟩
              rintro e W' (⟨rfl, h1⟩ | ⟨rfl, h1⟩)
              · exact ⟨true, rfl, .inl ⟨rfl, h1⟩⟩
              · exact ⟨false, rfl, .inr ⟨rfl, h1⟩⟩)
            clear hR' hC' hpe hget hdr hbn
            obtain ⟨fn, tmps, assign, body, hy, hR⟩ := HYY.out _ HJD.out
            gi_wp2_with fail
            refine hR.mono ?_
            rintro e W3 ⟨bb, rfl, h3⟩
            clear hy hR
            rcases h3 with ⟨rfl, hJ3⟩ | ⟨rfl, hJ3⟩
            · have HJ3 := Lib.hid hJ3
              clear hJ3
              gi_wp2
              go_roundw
              case rel => exact ⟨k + 1, u + 1, by omega, by go_num, by omega, HC2, by rw [HBN.out]; omega, HJ3⟩
              case measure => simp [intOf]; omega
            · gi_wp2
              refine bodyPost_ret (results_none rfl _ _ _) rfl ?_
              exact ⟨⟨_, rfl⟩, .inr hJ3⟩
          · exact absurd (by omega) htu

    · gi_wp2
      go_end0
      have hkN : k = N := by
        rcases Nat.lt_or_ge k N with h | h
        · have := HCH.out
          rw [List.drop_eq_getElem_cons (by rw [HN.out]; exact h)] at this
          obtain ⟨g1, g2, g3, _⟩ := this
          omega
        · omega
      subst hkN
      exact ⟨⟨_, rfl⟩, .inl HJ.out⟩

set_option maxRecDepth 100000 in
set_option maxHeartbeats 8000000 in
theorem runs81_in (n : Nat) (hn : 1 ≤ n) (lb Qs Qf Qm M N : Nat) (va : Option Addr) (c : Nat) (lev : List Int) (q : Int → Bool) (R : List (Nat × Nat)) (hM : lev.length = M) (hM9 : M ≤ 1000000000) (hN : R.length = N) (hCh : Chain (fun j => q (lev.getD j 0)) M 0 R)
    (J : Nat → World → Prop) (Jx : Unit → World → Prop) (hKp : ∀ k W, J k W → RunsK va c (.func (.func 81) #[] #[.pointer (some ⟨Qm, 0, none⟩)]) Qs Qf lev R k W) (hQ : ∀ k W, J k W → ∀ x, Calls Tryd.prog 81 #[.int .i64 x, .pointer (some ⟨Qm, 0, none⟩)] W fun e w' => e = .returned (.bool (q x)) ∧ w' = W)
    (hJB : ∀ k W W', J k W → Below W.heap.size W W' → J k W')
    (hY : ∀ k W, k < N → J k W → YieldAt Fence.wide (n - 1) Tryd.prog lb (runV R k) W fun e W' => (e = .returned (.bool true) ∧ J (k + 1) W') ∨ (e = .returned (.bool false) ∧ Jx () W'))
    (W : World) (hj : J 0 W) :
    CallsIn Fence.wide n Tryd.prog 80 #[.func (.yield lb) #[] #[], .pointer (some ⟨Qs, 0, none⟩), .pointer (some ⟨Qf, 0, none⟩)] W fun e W' => (∃ v, e = .returned v) ∧ (J N W' ∨ Jx () W') := by
  have HY := Lib.hid hY
  have HKP := Lib.hid hKp
  have HQ := Lib.hid hQ
  have HJB := Lib.hid hJB
  have HJ0 := Lib.hid hj
  have HCH0 := Lib.hid hCh
  have HN := Lib.hid hN
  have HM := Lib.hid hM
  clear hY hj hKp hJB hCh hN hM hQ
  refine callsIn_of_wp Tryd.func80 rfl trivial ?_ rfl
  simp only [Tryd.ntmps80, List.size_toArray, List.length_cons, List.length_nil, Nat.reduceAdd, Nat.reduceSub, Array.replicate_succ, Array.replicate_zero, List.push_toArray, List.append_toArray, List.nil_append, List.cons_append]
  gi_wp2
  gi_loopw [4, 5] (fun s4 s5 wr => ∃ (k t : Nat), k ≤ N ∧ s4 = .int .i64 (t : Int) ∧ t ≤ M + 1 ∧ Hid (Chain (fun j => q (lev.getD j 0)) M t (R.drop k)) ∧ bnd R k ≤ t ∧ Hid (J k wr)) (fun s4 _ _ => M + 1 - (intOf s4).toNat)
  case atStart => exact ⟨0, 0, Nat.zero_le _, rfl, Nat.zero_le _, HCH0, Nat.le_refl _, HJ0⟩
  case round =>
    obtain ⟨k, t, hk, rfl, ht, HCH, hbt, HJ⟩ := hrel
    have hcs := (HKP.out _ _ HJ.out).s
    rw [HM.out] at hcs
    by_cases hlt : t < M
    · gi_wp2
      gi_loopw [4] (fun s4 wi => ∃ u : Nat, t ≤ u ∧ u ≤ M ∧ s4 = .int .i64 (u : Int) ∧ Hid (∀ j, t ≤ j → j < u → q (lev.getD j 0) = true) ∧ Hid (J k wi)) (fun s4 _ => M - (intOf s4).toNat)
      case atStart => exact ⟨t, Nat.le_refl _, by omega, rfl, Lib.hid (fun j a b => by omega), HJ⟩
      case round =>
        obtain ⟨u, htu0, huM, rfl, HPT, HJI⟩ := hrel
        clear hcs
        have hcs := (HKP.out _ _ HJI.out).s
        have hcf := (HKP.out _ _ HJI.out).f
        rw [HM.out] at hcs
        by_cases hul : u < M
        · obtain ⟨b, off, rfl, hcl⟩ := (HKP.out _ _ HJI.out).l u (by omega) (by rw [HM.out]; exact hul)
          have HQ1 := Lib.hid (fun m => HQ.out k (wr.drewN m) (HJB.out _ _ _ HJI.out (below_drewN (Below.refl _ _) m)) (lev.getD u 0))
          have hul2 : decide ((u : Int) < (M : Int)) = true := by simp; omega
          have HXQ : Hid (∃ x bq, lev.getD u 0 = x ∧ q (lev.getD u 0) = bq) := Lib.hid ⟨_, _, rfl, rfl⟩
          obtain ⟨x, bq, hx, hbq⟩ := HXQ.out
          rw [hbq, hx] at HQ1
          rw [hx] at hcl
          have HBQ := Lib.hid hbq
          clear HXQ hx hbq
          gi_wp2
          refine wpIn_wide.2 ?_
          go_quiet ((go_at_call 81; exact Calls.quiet_of_same (HQ1.out _)))
          have HJD := Lib.hid (HJB.out _ _ (wr.drewN nq) HJI.out (below_drewN (Below.refl _ _) nq))
          obtain ⟨wd, hwd⟩ : ∃ wd, wr.drewN nq = wd := ⟨_, rfl⟩
          rw [hwd] at HJD ⊢
          clear hwd
          cases bq
          · skip
            have HEX : Hid (u = M ∨ q (lev.getD u 0) = false) := Lib.hid (.inr HBQ.out)
            by_cases htu : t < u
            · obtain ⟨R', hR', hC', hpe⟩ := Chain.take HCH.out htu (by omega) HPT.out HEX.out
              have hkN : k < N := by
                rcases Nat.lt_or_ge k N with h | h
                · exact h
                · rw [List.drop_eq_nil_of_le (by rw [HN.out]; exact h)] at hR'; cases hR'
              have hget : R.getD k (0, 0) = (t, u) := by
                have := congrArg (fun l => l[0]?) hR'
                rw [List.getElem?_drop, Nat.add_zero] at this
                simp [List.getD, this]
              have hdr : R.drop (k + 1) = R' := by
                have := congrArg List.tail hR'
                rwa [List.tail_drop] at this
              have HC2 : Hid (Chain (fun j => q (lev.getD j 0)) M (u + 1) (R.drop (k + 1))) := Lib.hid (by rw [hdr]; exact hC'.skip hpe)
              have hbn : bnd R (k + 1) = u := by show (R.getD k (0, 0)).2 = u; rw [hget]
              have HBN := Lib.hid hbn
              have HYY : Hid (∀ W2, J k W2 → YieldAt Fence.wide (n - 1) Tryd.prog lb #[.int .i64 (t : Int), .int .i64 (u : Int)] W2 fun e W' => ∃ bb, e = .returned (.bool bb) ∧ ((bb = true ∧ J (k + 1) W') ∨ (bb = false ∧ Jx () W'))) := Lib.hid (fun W2 hj => by
                obtain ⟨fn, tmps, assign, body, hy, hR⟩ := HY.out k W2 hkN hj
                have hv : runV R k = #[.int .i64 ((R.getD k (0, 0)).1 : Int), .int .i64 ((R.getD k (0, 0)).2 : Int)] := rfl
                rw [hv, hget] at hy
                refine ⟨fn, tmps, assign, body, hy, hR.mono ?_⟩
                rintro e W' (⟨rfl, h1⟩ | ⟨rfl, h1⟩)
                · exact ⟨true, rfl, .inl ⟨rfl, h1⟩⟩
                · exact ⟨false, rfl, .inr ⟨rfl, h1⟩⟩)
              clear hR' hC' hpe hget hdr hbn
              obtain ⟨fn, tmps, assign, body, hy, hR⟩ := HYY.out _ HJD.out
              gi_wp2_with fail
              refine hR.mono ?_
              rintro e W3 ⟨bb, rfl, h3⟩
              clear hy hR
              rcases h3 with ⟨rfl, hJ3⟩ | ⟨rfl, hJ3⟩
              · have HJ3 := Lib.hid hJ3
                clear hJ3
                gi_wp2
                go_roundw
                case rel => exact ⟨k + 1, u + 1, by omega, by go_num, by omega, HC2, by rw [HBN.out]; omega, HJ3⟩
                case measure => simp [intOf]; omega
              · gi_wp2
                refine bodyPost_ret (results_none rfl _ _ _) rfl ?_
                exact ⟨⟨_, rfl⟩, .inr hJ3⟩
            · have hut : u = t := by omega
              have HC2 : Hid (Chain (fun j => q (lev.getD j 0)) M (u + 1) (R.drop k)) := Lib.hid (by
                rw [hut]
                exact HCH.out.skip (fun h => by
                  rcases HEX.out with e | e
                  · omega
                  · rw [← hut]; exact e))
              clear hut
              gi_wp2
              refine ⟨fun f hf => (by cases hf), ?_⟩
              gi_wp2
              go_roundw
              case rel => exact ⟨k, u + 1, hk, by go_num, by omega, HC2, by omega, Lib.hid HJD.out⟩
              case measure => simp [intOf]; omega
          · gi_wp2
            go_roundw
            case rel => exact ⟨u + 1, by omega, by omega, by go_num, Lib.hid (fun j a b => by
              by_cases hju : j = u
              · rw [hju]; exact HBQ.out
              · exact HPT.out j a (by omega)), HJD⟩
            case measure => simp [intOf]; omega
        · have HUM : Hid (u = M) := Lib.hid (by omega)
          have hul2 : decide ((u : Int) < (M : Int)) = false := by simp; omega
          gi_wp2
          refine wpIn_wide.2 ?_
          go_quiet (fail)
          have HJD := Lib.hid (HJB.out _ _ (wr.drewN nq) HJI.out (below_drewN (Below.refl _ _) nq))
          obtain ⟨wd, hwd⟩ : ∃ wd, wr.drewN nq = wd := ⟨_, rfl⟩
          rw [hwd] at HJD ⊢
          clear hwd
          have HEX : Hid (u = M ∨ q (lev.getD u 0) = false) := Lib.hid (.inl HUM.out)
          by_cases htu : t < u
          · obtain ⟨R', hR', hC', hpe⟩ := Chain.take HCH.out htu (by omega) HPT.out HEX.out
            have hkN : k < N := by
              rcases Nat.lt_or_ge k N with h | h
              · exact h
              · rw [List.drop_eq_nil_of_le (by rw [HN.out]; exact h)] at hR'; cases hR'
            have hget : R.getD k (0, 0) = (t, u) := by
              have := congrArg (fun l => l[0]?) hR'
              rw [List.getElem?_drop, Nat.add_zero] at this
              simp [List.getD, this]
            have hdr : R.drop (k + 1) = R' := by
              have := congrArg List.tail hR'
              rwa [List.tail_drop] at this
            have HC2 : Hid (Chain (fun j => q (lev.getD j 0)) M (u + 1) (R.drop (k + 1))) := Lib.hid (by rw [hdr]; exact hC'.skip hpe)
            have hbn : bnd R (k + 1) = u := by show (R.getD k (0, 0)).2 = u; rw [hget]
            have HBN := Lib.hid hbn
            have HYY : Hid (∀ W2, J k W2 → YieldAt Fence.wide (n - 1) Tryd.prog lb #[.int .i64 (t : Int), .int .i64 (u : Int)] W2 fun e W' => ∃ bb, e = .returned (.bool bb) ∧ ((bb = true ∧ J (k + 1) W') ∨ (bb = false ∧ Jx () W'))) := Lib.hid (fun W2 hj => by
              obtain ⟨fn, tmps, assign, body, hy, hR⟩ := HY.out k W2 hkN hj
              have hv : runV R k = #[.int .i64 ((R.getD k (0, 0)).1 : Int), .int .i64 ((R.getD k (0, 0)).2 : Int)] := rfl
              rw [hv, hget] at hy
              refine ⟨fn, tmps, assign, body, hy, hR.mono ?_⟩
              rintro e W' (⟨rfl, h1⟩ | ⟨rfl, h1⟩)
              · exact ⟨true, rfl, .inl ⟨rfl, h1⟩⟩
              · exact ⟨false, rfl, .inr ⟨rfl, h1⟩⟩)
            clear hR' hC' hpe hget hdr hbn
            obtain ⟨fn, tmps, assign, body, hy, hR⟩ := HYY.out _ HJD.out
            gi_wp2_with fail
            refine hR.mono ?_
            rintro e W3 ⟨bb, rfl, h3⟩
            clear hy hR
            rcases h3 with ⟨rfl, hJ3⟩ | ⟨rfl, hJ3⟩
            · have HJ3 := Lib.hid hJ3
              clear hJ3
              gi_wp2
              go_roundw
              case rel => exact ⟨k + 1, u + 1, by omega, by go_num, by omega, HC2, by rw [HBN.out]; omega, HJ3⟩
              case measure => simp [intOf]; omega
            · gi_wp2
              refine bodyPost_ret (results_none rfl _ _ _) rfl ?_
              exact ⟨⟨_, rfl⟩, .inr hJ3⟩
          · exact absurd (by omega) htu

    · gi_wp2
      go_end0
      have hkN : k = N := by
        rcases Nat.lt_or_ge k N with h | h
        · have := HCH.out
          rw [List.drop_eq_getElem_cons (by rw [HN.out]; exact h)] at this
          obtain ⟨g1, g2, g3, _⟩ := this
          omega
        · omega
      subst hkN
      exact ⟨⟨_, rfl⟩, .inl HJ.out⟩
end Go.Proofs.YtilkhamlhbbmgaaDoor
