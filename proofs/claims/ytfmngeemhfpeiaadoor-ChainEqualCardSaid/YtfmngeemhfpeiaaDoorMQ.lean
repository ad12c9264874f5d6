/- ChainEqual: the law's walk. -/
import Derived.Test.YtfmngeemhfpeiaaDoorMT
namespace Go.Proofs.YtfmngeemhfpeiaaDoor
open Go.RowKit

def l13a0 : Oper := { dst := some 49, op := Go.Op.move (Go.Operand.tmp 0), type := 44, pos := "law.go:105", after := #[], guard := none }
def l13a1 : Oper := { dst := some 50, op := Go.Op.move (Go.Operand.tmp 5), type := 3, pos := "law.go:105", after := #[], guard := none }
def l13a2 : Oper := { dst := some 51, op := Go.Op.slice 44 (Go.Operand.tmp 49) none (some (Go.Operand.tmp 50)) none, type := 44, pos := "law.go:105", after := #[{ on := 0, ground := Go.Ground.data }, { on := 1, ground := Go.Ground.data }], guard := none }
def l13a3 : Oper := { dst := some 52, op := Go.Op.move (Go.Operand.tmp 1), type := 44, pos := "law.go:105", after := #[], guard := none }
def l13a4 : Oper := { dst := some 53, op := Go.Op.move (Go.Operand.tmp 5), type := 3, pos := "law.go:105", after := #[], guard := none }
def l13a5 : Oper := { dst := some 54, op := Go.Op.slice 44 (Go.Operand.tmp 52) none (some (Go.Operand.tmp 53)) none, type := 44, pos := "law.go:105", after := #[{ on := 3, ground := Go.Ground.data }, { on := 4, ground := Go.Ground.data }], guard := none }
def l13a6 : Oper := { dst := some 55, op := Go.Op.call { callee := Go.Callee.value (Go.Operand.func 40), args := #[Go.Operand.tmp 51, Go.Operand.tmp 54], argTypes := #[44, 44] }, type := 4, pos := "law.go:105", after := #[{ on := 2, ground := Go.Ground.data }, { on := 5, ground := Go.Ground.data }], guard := none }

set_option maxRecDepth 100000 in
set_option maxHeartbeats 8000000 in
theorem lawEqual (w : World) (v : Value) (l : List Lk) (hv : LRow0 w w.heap.size v l) (u : Value) (m : List Lk) (hu : LRow0 w w.heap.size u m) (hT : Tab w) (h0 : 0 < w.heap.size) :
    Calls Tryd.prog 13 #[v, u] w fun e w' => e = .returned (.bool true) ∧ Below w.heap.size w w' := by
  have HFA := Lib.hid (fun W (hW : Below w.heap.size w W) => few_any W v l (hv.at hW))
  have HFB := Lib.hid (fun W (hW : Below w.heap.size w W) => few_any W u m (hu.at hW))
  have HSA := Lib.hid (sane_any w hT h0)
  have hv0 := hv
  have hu0 := hu
  obtain ⟨a, cap, rfl, h1, h2⟩ : ∃ a cap, v = .slice a l.length cap ∧ l.length ≤ cap ∧ cap ≤ maxLen := by obtain ⟨_, a, cap, h, h1, h2, _⟩ := hv; exact ⟨a, cap, h, h1, h2⟩
  obtain ⟨a', cap', rfl, h1', h2'⟩ : ∃ a cap, u = .slice a m.length cap ∧ m.length ≤ cap ∧ cap ≤ maxLen := by obtain ⟨_, a, cap, h, h1, h2, _⟩ := hu; exact ⟨a, cap, h, h1, h2⟩
  unfold maxLen at h2 h2'
  cases hla : fewL l with
  | false =>
    rw [hla] at HFA
    obtain ⟨N, hN⟩ : ∃ N, l.length = N := ⟨_, rfl⟩
    obtain ⟨M, hM⟩ : ∃ M, m.length = M := ⟨_, rfl⟩
    rw [hN] at HFA ⊢
    rw [hM]
    clear hv hu hv0 hu0 hla hN hM HFB h1 h1'
    go_enter Tryd.func13, Tryd.ntmps13
    go_wp2_with fail
    refine HSA.out.mono ?_
    rintro e w1 ⟨rfl, hb1⟩
    have HB1 := Lib.hid hb1
    clear hb1
    go_wp2_with (go_at_call 30; with_reducible refine (HFA.out _ HB1.out).mono ?_; rintro e w2 ⟨rfl, rfl⟩)
    go_returns
    exact ⟨rfl, HB1.out⟩
  | true =>
    obtain ⟨hl, hl16⟩ := fewL_row hv0 hla
    cases hlb : fewL m with
    | false =>
      rw [hla] at HFA
      rw [hlb] at HFB
      obtain ⟨N, hN⟩ : ∃ N, l.length = N := ⟨_, rfl⟩
      obtain ⟨M, hM⟩ : ∃ M, m.length = M := ⟨_, rfl⟩
      rw [hN] at HFA ⊢
      rw [hM] at HFB ⊢
      clear hv hu hv0 hu0 hla hlb hN hM h1 h1' hl hl16
      go_enter Tryd.func13, Tryd.ntmps13
      go_wp2_with fail
      refine HSA.out.mono ?_
      rintro e w1 ⟨rfl, hb1⟩
      have HB1 := Lib.hid hb1
      clear hb1
      go_wp2_with (first
        | (go_at_call 30; with_reducible refine (HFA.out _ HB1.out).mono ?_; rintro e w2 ⟨rfl, rfl⟩)
        | (go_at_call 30; with_reducible refine (HFB.out _ HB1.out).mono ?_; rintro e w2 ⟨rfl, rfl⟩))
      go_returns
      exact ⟨rfl, HB1.out⟩
    | true =>
      obtain ⟨hm, hm16⟩ := fewL_row hu0 hlb
      rw [hla] at HFA
      rw [hlb] at HFB
      have hca : ∀ W, Below w.heap.size w W → Calls Tryd.prog 31 #[.slice a l.length cap] W fun e w' => e = .returned (.int .i64 (chk l)) ∧ Below W.heap.size W w' := fun W hW => check_any W _ l (hl.at hW) (by omega) (hT.below hW h0) (by have := hW.size; omega)
      have hcb : ∀ W, Below w.heap.size w W → Calls Tryd.prog 31 #[.slice a' m.length cap'] W fun e w' => e = .returned (.int .i64 (chk m)) ∧ Below W.heap.size W w' := fun W hW => check_any W _ m (hm.at hW) (by omega) (hT.below hW h0) (by have := hW.size; omega)
      have hha : ∀ W, Below w.heap.size w W → Calls Tryd.prog 33 #[.slice a l.length cap] W fun e w' => e = .returned (.agg (cells8 (hd l)).toArray) ∧ Below W.heap.size W w' := fun W hW => head_any W _ l (hl.at hW) (hT.below hW h0) (by have := hW.size; omega)
      have hhb : ∀ W, Below w.heap.size w W → Calls Tryd.prog 33 #[.slice a' m.length cap'] W fun e w' => e = .returned (.agg (cells8 (hd m)).toArray) ∧ Below W.heap.size W w' := fun W hW => head_any W _ m (hm.at hW) (hT.below hW h0) (by have := hW.size; omega)
      have hsm : ∀ W, Below w.heap.size w W → Calls Tryd.prog 39 #[.slice a l.length cap, .slice a' m.length cap'] W fun e w' => e = .returned (.bool (decide (l = m))) ∧ Below W.heap.size W w' := fun W hW => rsame_any W _ _ _ _ (hl.at hW) (hm.at hW) (by omega) (by omega)
      have hcl : ∀ W t, Below w.heap.size w W → t ≤ l.length → t ≤ m.length → Calls Tryd.prog 40 #[.slice a t cap, .slice a' t cap'] W fun e w' => e = .returned (.bool (clashL (l.take t) (m.take t))) ∧ Below W.heap.size W w' := fun W t hW h3 h4 =>
        clash_any W _ _ _ _ ((hl.at hW).take h3 rfl) ((hm.at hW).take h4 rfl) (hT.below hW h0) (by have := hW.size; omega)
      have hq := dig_eq (hd l) (hd m) (hd_len _) (hd_len _)
      rw [dv_eq, dv_eq] at hq
      have hfound : chk l = 0 → chk m = 0 → l.length = m.length → decide (hd l = hd m) = true → decide (l = m) = false → ∃ i, 1 ≤ i ∧ i ≤ l.length ∧ clashL (l.take i) (m.take i) = true := fun e1 e2 e3 e4 e5 =>
        clash_found ((chk_iff l).1 e1) ((chk_iff m).1 e2) hl.1 hm.1 e3 l.length (Nat.le_refl _) (by rw [List.take_of_length_le (Nat.le_refl _), List.take_of_length_le (by omega)]; exact of_decide_eq_true e4) (by rw [List.take_of_length_le (Nat.le_refl _), List.take_of_length_le (by omega)]; exact of_decide_eq_false e5)
      obtain ⟨cl, hcl0⟩ : ∃ cl : Nat → Bool, cl = fun t => clashL (l.take t) (m.take t) := ⟨_, rfl⟩
      have hcle : ∀ t, clashL (l.take t) (m.take t) = cl t := fun t => by rw [hcl0]
      simp only [hcle] at hcl hfound
      obtain ⟨N, hN⟩ : ∃ N, l.length = N := ⟨_, rfl⟩
      obtain ⟨M, hM⟩ : ∃ M, m.length = M := ⟨_, rfl⟩
      rw [hN] at HFA hca hha hsm hcl hfound h1 hl16 ⊢
      rw [hM] at HFB hcb hhb hsm hcl hfound h1' hm16 ⊢
      generalize chk l = ea at *
      generalize chk m = eb at *
      generalize decide (hd l = hd m) = bh at *
      generalize decide (l = m) = bs at *
      obtain ⟨c1, hc1⟩ : ∃ c, cells8 (hd l) = c := ⟨_, rfl⟩
      obtain ⟨c2, hc2⟩ : ∃ c, cells8 (hd m) = c := ⟨_, rfl⟩
      rw [hc1] at hha hq
      rw [hc2] at hhb hq
      have HCA := Lib.hid hca
      have HCB := Lib.hid hcb
      have HHA := Lib.hid hha
      have HHB := Lib.hid hhb
      have HSM := Lib.hid hsm
      have HCL := Lib.hid hcl
      have HFO := Lib.hid hfound
      have HQ := Lib.hid hq
      clear hv hu hv0 hu0 hla hlb hl hm hca hcb hha hhb hsm hcl hfound hq hc1 hc2 hN hM hcle hcl0 hT
      by_cases hea : ea = 0
      · subst hea
        by_cases heb : eb = 0
        · subst heb
          by_cases hNM : N = M
          · subst hNM
            have dn : ((N : Int) != (N : Int)) = false := by simp
            cases bh with
            | false =>
              have hq := HQ.out
              go_enter Tryd.func13, Tryd.ntmps13
              go_wp2_with fail
              refine HSA.out.mono ?_
              rintro e w1 ⟨rfl, hb1⟩
              have HB1 := Lib.hid hb1
              clear hb1
              go_wp2_with (first
                | (go_at_call 30; with_reducible refine (HFA.out _ HB1.out).mono ?_; rintro e w2 ⟨rfl, rfl⟩)
                | (go_at_call 30; with_reducible refine (HFB.out _ HB1.out).mono ?_; rintro e w2 ⟨rfl, rfl⟩)
                | (go_at_call 31; with_reducible refine (HCA.out _ HB1.out).mono ?_; rintro e w2 ⟨rfl, hb2⟩; have HB2 := Lib.hid (HB1.out.trans (hb2.mono HB1.out.size)); clear hb2)
                | (go_at_call 31; with_reducible refine (HCB.out _ HB2.out).mono ?_; rintro e w3 ⟨rfl, hb3⟩; have HB3 := Lib.hid (HB2.out.trans (hb3.mono HB2.out.size)); clear hb3)
                | (go_at_call 33; with_reducible refine (HHA.out _ HB3.out).mono ?_; rintro e w4 ⟨rfl, hb4⟩; have HB4 := Lib.hid (HB3.out.trans (hb4.mono HB3.out.size)); clear hb4)
                | (go_at_call 33; with_reducible refine (HHB.out _ HB4.out).mono ?_; rintro e w5 ⟨rfl, hb5⟩; have HB5 := Lib.hid (HB4.out.trans (hb5.mono HB4.out.size)); clear hb5))
              go_returns
              exact ⟨by simp, HB5.out⟩
            | true =>
              have hq := HQ.out
              cases bs with
              | true =>
                go_enter Tryd.func13, Tryd.ntmps13
                go_wp2_with fail
                refine HSA.out.mono ?_
                rintro e w1 ⟨rfl, hb1⟩
                have HB1 := Lib.hid hb1
                clear hb1
                go_wp2_with (first
                  | (go_at_call 30; with_reducible refine (HFA.out _ HB1.out).mono ?_; rintro e w2 ⟨rfl, rfl⟩)
                  | (go_at_call 30; with_reducible refine (HFB.out _ HB1.out).mono ?_; rintro e w2 ⟨rfl, rfl⟩)
                  | (go_at_call 31; with_reducible refine (HCA.out _ HB1.out).mono ?_; rintro e w2 ⟨rfl, hb2⟩; have HB2 := Lib.hid (HB1.out.trans (hb2.mono HB1.out.size)); clear hb2)
                  | (go_at_call 31; with_reducible refine (HCB.out _ HB2.out).mono ?_; rintro e w3 ⟨rfl, hb3⟩; have HB3 := Lib.hid (HB2.out.trans (hb3.mono HB2.out.size)); clear hb3)
                  | (go_at_call 33; with_reducible refine (HHA.out _ HB3.out).mono ?_; rintro e w4 ⟨rfl, hb4⟩; have HB4 := Lib.hid (HB3.out.trans (hb4.mono HB3.out.size)); clear hb4)
                  | (go_at_call 33; with_reducible refine (HHB.out _ HB4.out).mono ?_; rintro e w5 ⟨rfl, hb5⟩; have HB5 := Lib.hid (HB4.out.trans (hb5.mono HB4.out.size)); clear hb5)
                  | (go_at_call 39; with_reducible refine (HSM.out _ HB5.out).mono ?_; rintro e w6 ⟨rfl, hb6⟩; have HB6 := Lib.hid (HB5.out.trans (hb6.mono HB5.out.size)); clear hb6 hq))
                go_returns
                exact ⟨by simp, HB6.out⟩
              | false =>
                go_enter Tryd.func13, Tryd.ntmps13
                go_wp2_with fail
                refine HSA.out.mono ?_
                rintro e w1 ⟨rfl, hb1⟩
                have HB1 := Lib.hid hb1
                clear hb1
                go_wp2_with (first
                  | (go_at_call 30; with_reducible refine (HFA.out _ HB1.out).mono ?_; rintro e w2 ⟨rfl, rfl⟩)
                  | (go_at_call 30; with_reducible refine (HFB.out _ HB1.out).mono ?_; rintro e w2 ⟨rfl, rfl⟩)
                  | (go_at_call 31; with_reducible refine (HCA.out _ HB1.out).mono ?_; rintro e w2 ⟨rfl, hb2⟩; have HB2 := Lib.hid (HB1.out.trans (hb2.mono HB1.out.size)); clear hb2)
                  | (go_at_call 31; with_reducible refine (HCB.out _ HB2.out).mono ?_; rintro e w3 ⟨rfl, hb3⟩; have HB3 := Lib.hid (HB2.out.trans (hb3.mono HB2.out.size)); clear hb3)
                  | (go_at_call 33; with_reducible refine (HHA.out _ HB3.out).mono ?_; rintro e w4 ⟨rfl, hb4⟩; have HB4 := Lib.hid (HB3.out.trans (hb4.mono HB3.out.size)); clear hb4)
                  | (go_at_call 33; with_reducible refine (HHB.out _ HB4.out).mono ?_; rintro e w5 ⟨rfl, hb5⟩; have HB5 := Lib.hid (HB4.out.trans (hb5.mono HB4.out.size)); clear hb5)
                  | (go_at_call 39; with_reducible refine (HSM.out _ HB5.out).mono ?_; rintro e w6 ⟨rfl, hb6⟩; have HB6 := Lib.hid (HB5.out.trans (hb6.mono HB5.out.size)); clear hb6 hq)
                  )
                have hfo := HFO.out (by simp) (by simp) (by simp) (by simp) (by simp)
                have HFO2 := Lib.hid hfo
                clear hfo HFO HQ HHA HHB HSM HCA HCB HFA HFB HSA
                go_loopw [5] (fun i wr => ∃ t : Nat, i = .int .i64 t ∧ 1 ≤ t ∧ t ≤ N + 1 ∧ Below w.heap.size w wr ∧ Hid (∀ j, 1 ≤ j → j < t → cl j = false)) (fun i _ => N + 1 - (intOf i).toNat)
                case atStart => exact ⟨1, rfl, by omega, by omega, HB6.out, Lib.hid (fun j h3 h4 => by omega)⟩
                case round =>
                  obtain ⟨t, rfl, ht1, htn, hB, HJ⟩ := hrel
                  have HB := Lib.hid hB
                  clear hB
                  by_cases hlt : t ≤ N
                  · obtain ⟨E, hE⟩ : ∃ E, cl t = E := ⟨_, rfl⟩
                    have HE := Lib.hid hE
                    have HCLS : Hid (∀ W, Kept wr W → Calls Tryd.prog 40 #[.slice a t cap, .slice a' t cap'] W fun e w' => e = .returned (.bool E) ∧ Below W.heap.size W w') := Lib.hid fun W hW => by
                      rw [← hE]; exact HCL.out W t (HB.out.trans (hW.below.mono HB.out.size)) hlt hlt
                    have e1 : decide ((t : Int) ≤ (N : Int)) = true := by simp; omega
                    have e2 : decide (t ≤ N) = true := by simp; omega
                    have e3 : (t : Int) ≤ (cap : Int) := by omega
                    have e4 : (t : Int) ≤ (cap' : Int) := by omega
                    have iw : IntKind.i64.wrap ((t : Int) + 1) = (t : Int) + 1 := by rw [IntKind.wrap_i64]; omega
                    clear hE
                    go_wp2
                    refine wp_region_held_drew (S := fun W => Kept wr W) (by kernel_rfl) (Kept.drew (Kept.refl wr)) (fun hHeld => ?_)
                    refine wpAnyH_take (i := 0) (oi := l13a0) (v := ?_) rfl (by kernel_rfl) (by kernel_rfl) (by kernel_rfl) (fun _ _ _ h => h) (Or.inl ⟨by rfl, ?_⟩) hHeld ?_
                    rotate_left
                    · (intro w hSw; (try dsimp only at hSw); unfold l13a0; go_simp <;> with_reducible rfl)
                    try simp only [l13a0, Act.put, List.setIfInBounds_toArray, List.set_cons_zero, List.set_cons_succ]
                    refine wpAnyH_take (i := 1) (oi := l13a1) (v := ?_) rfl (by kernel_rfl) (by kernel_rfl) (by kernel_rfl) (fun _ _ _ h => h) (Or.inl ⟨by rfl, ?_⟩) hHeld ?_
                    rotate_left
                    · (intro w hSw; (try dsimp only at hSw); unfold l13a1; go_simp <;> with_reducible rfl)
                    try simp only [l13a1, Act.put, List.setIfInBounds_toArray, List.set_cons_zero, List.set_cons_succ]
                    refine wpAnyH_take (i := 2) (oi := l13a2) (v := ?_) rfl (by kernel_rfl) (by kernel_rfl) (by kernel_rfl) (fun _ _ _ h => h) (Or.inl ⟨by rfl, ?_⟩) hHeld ?_
                    rotate_left
                    · (intro w hSw; (try dsimp only at hSw); unfold l13a2; go_simp <;> with_reducible rfl)
                    try simp only [l13a2, Act.put, List.setIfInBounds_toArray, List.set_cons_zero, List.set_cons_succ]
                    refine wpAnyH_take (i := 3) (oi := l13a3) (v := ?_) rfl (by kernel_rfl) (by kernel_rfl) (by kernel_rfl) (fun _ _ _ h => h) (Or.inl ⟨by rfl, ?_⟩) hHeld ?_
                    rotate_left
                    · (intro w hSw; (try dsimp only at hSw); unfold l13a3; go_simp <;> with_reducible rfl)
                    try simp only [l13a3, Act.put, List.setIfInBounds_toArray, List.set_cons_zero, List.set_cons_succ]
                    refine wpAnyH_take (i := 4) (oi := l13a4) (v := ?_) rfl (by kernel_rfl) (by kernel_rfl) (by kernel_rfl) (fun _ _ _ h => h) (Or.inl ⟨by rfl, ?_⟩) hHeld ?_
                    rotate_left
                    · (intro w hSw; (try dsimp only at hSw); unfold l13a4; go_simp <;> with_reducible rfl)
                    try simp only [l13a4, Act.put, List.setIfInBounds_toArray, List.set_cons_zero, List.set_cons_succ]
                    refine wpAnyH_take (i := 5) (oi := l13a5) (v := ?_) rfl (by kernel_rfl) (by kernel_rfl) (by kernel_rfl) (fun _ _ _ h => h) (Or.inl ⟨by rfl, ?_⟩) hHeld ?_
                    rotate_left
                    · (intro w hSw; (try dsimp only at hSw); unfold l13a5; go_simp <;> with_reducible rfl)
                    try simp only [l13a5, Act.put, List.setIfInBounds_toArray, List.set_cons_zero, List.set_cons_succ]
                    refine wpAnyH_ready (rs := [6]) (by kernel_rfl) (by simp) ?_
                    refine AllReadyH.cons (o := l13a6) rfl (fun K hK => ?_) AllReadyH.nil
                    rw [if_pos (by rfl)]
                    unfold l13a6
                    go_simp
                    (with_reducible refine (HCLS.out _ hHeld).mono ?_)
                    rintro e W6 ⟨rfl, hB6⟩
                    have hS6 := hHeld.next hB6
                    go_wp2_with fail
                    refine hK.out _ _ hS6 (fun hHeld => ?_)
                    clear hK K
                    try simp only [l13a6, Act.put, List.setIfInBounds_toArray, List.set_cons_zero, List.set_cons_succ]
                    refine wpAnyH_done (by kernel_rfl) ?_ _
                    have HST := Lib.hid hHeld
                    clear hHeld
                    cases E with
                    | true =>
                      go_wp2
                      go_returns
                      exact ⟨rfl, HB.out.trans (HST.out.mono HB.out.size)⟩
                    | false =>
                      go_wp2
                      go_roundw
                      case rel => exact ⟨t + 1, by simp, by omega, by omega, HB.out.trans (HST.out.mono HB.out.size), Lib.hid (fun j hj1 hj => by
                        rcases Nat.lt_succ_iff_lt_or_eq.1 hj with h | rfl
                        · exact HJ.out j hj1 h
                        · exact HE.out)⟩
                      case measure => simp [intOf]; omega
                  · exfalso
                    obtain ⟨i, i1, i2, i3⟩ := HFO2.out
                    rw [HJ.out i i1 (by omega)] at i3
                    cases i3
          · have dn : ((N : Int) != (M : Int)) = true := by simp; omega
            have dn2 : ((N : Int) == (M : Int)) = false := by simp; omega
            go_enter Tryd.func13, Tryd.ntmps13
            go_wp2_with fail
            refine HSA.out.mono ?_
            rintro e w1 ⟨rfl, hb1⟩
            have HB1 := Lib.hid hb1
            clear hb1
            go_wp2_with (first
              | (go_at_call 30; with_reducible refine (HFA.out _ HB1.out).mono ?_; rintro e w2 ⟨rfl, rfl⟩)
              | (go_at_call 30; with_reducible refine (HFB.out _ HB1.out).mono ?_; rintro e w2 ⟨rfl, rfl⟩)
              | (go_at_call 31; with_reducible refine (HCA.out _ HB1.out).mono ?_; rintro e w2 ⟨rfl, hb2⟩; have HB2 := Lib.hid (HB1.out.trans (hb2.mono HB1.out.size)); clear hb2)
              | (go_at_call 31; with_reducible refine (HCB.out _ HB2.out).mono ?_; rintro e w3 ⟨rfl, hb3⟩; have HB3 := Lib.hid (HB2.out.trans (hb3.mono HB2.out.size)); clear hb3))
            go_returns
            exact ⟨by simp, HB3.out⟩
        · have d1 : (eb != 0) = true := by simp [heb]
          have d2 : (eb == 0) = false := by simp [heb]
          clear heb
          go_enter Tryd.func13, Tryd.ntmps13
          go_wp2_with fail
          refine HSA.out.mono ?_
          rintro e w1 ⟨rfl, hb1⟩
          have HB1 := Lib.hid hb1
          clear hb1
          go_wp2_with (first
            | (go_at_call 30; with_reducible refine (HFA.out _ HB1.out).mono ?_; rintro e w2 ⟨rfl, rfl⟩)
            | (go_at_call 30; with_reducible refine (HFB.out _ HB1.out).mono ?_; rintro e w2 ⟨rfl, rfl⟩)
            | (go_at_call 31; with_reducible refine (HCA.out _ HB1.out).mono ?_; rintro e w2 ⟨rfl, hb2⟩; have HB2 := Lib.hid (HB1.out.trans (hb2.mono HB1.out.size)); clear hb2)
            | (go_at_call 31; with_reducible refine (HCB.out _ HB2.out).mono ?_; rintro e w3 ⟨rfl, hb3⟩; have HB3 := Lib.hid (HB2.out.trans (hb3.mono HB2.out.size)); clear hb3))
          go_returns
          exact ⟨by simp, HB3.out⟩
      · have d1 : (ea != 0) = true := by simp [hea]
        have d2 : (ea == 0) = false := by simp [hea]
        clear hea
        go_enter Tryd.func13, Tryd.ntmps13
        go_wp2_with fail
        refine HSA.out.mono ?_
        rintro e w1 ⟨rfl, hb1⟩
        have HB1 := Lib.hid hb1
        clear hb1
        go_wp2_with (first
          | (go_at_call 30; with_reducible refine (HFA.out _ HB1.out).mono ?_; rintro e w2 ⟨rfl, rfl⟩)
          | (go_at_call 30; with_reducible refine (HFB.out _ HB1.out).mono ?_; rintro e w2 ⟨rfl, rfl⟩)
          | (go_at_call 31; with_reducible refine (HCA.out _ HB1.out).mono ?_; rintro e w2 ⟨rfl, hb2⟩; have HB2 := Lib.hid (HB1.out.trans (hb2.mono HB1.out.size)); clear hb2))
        go_returns
        exact ⟨by simp, HB2.out⟩
end Go.Proofs.YtfmngeemhfpeiaaDoor
