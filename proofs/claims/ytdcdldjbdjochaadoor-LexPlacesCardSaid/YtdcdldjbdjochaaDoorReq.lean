/- The reference's Equal. -/
import Derived.Test.YtdcdldjbdjochaaDoorRsm
namespace Go.Proofs.YtdcdldjbdjochaaDoor
open Go.RowKit

/-- The places, too. -/
def pls : List Tok → List Tok → Bool
  | a :: l, b :: m => a.at_ == b.at_ && pls l m
  | _, _ => true
theorem pls_drop (l m : List Tok) (i : Nat) (h1 : i < l.length) (h2 : i < m.length) : pls (l.drop i) (m.drop i) = (l[i].at_ == m[i].at_ && pls (l.drop (i + 1)) (m.drop (i + 1))) := by
  rw [List.drop_eq_getElem_cons h1, List.drop_eq_getElem_cons h2, pls]
def tequal (l m : List Tok) : Bool := tsames l m && pls l m

set_option maxRecDepth 100000 in
set_option maxHeartbeats 4000000 in
theorem requal_any (w : World) (v1 v2 : Value) (l m : List Tok) (h1 : TRow w w.heap.size v1 l) (h2 : TRow w w.heap.size v2 m) : Calls Tryd.prog 13 #[v1, v2] w fun e w' => e = .returned (.bool (tequal l m)) ∧ Below w.heap.size w w' := by
  have H1 := Lib.hid h1
  have H2 := Lib.hid h2
  have HC := Lib.hid (rsame_any w v1 v2 l m h1 h2)
  obtain ⟨a1, c1, rfl, hl1, hm1, _⟩ := h1
  obtain ⟨a2, c2, rfl, hl2, hm2, _⟩ := h2
  unfold maxLen at hm1 hm2
  unfold tequal
  cases hts : tsames l m with
  | false =>
    rw [hts] at HC
    rw [Bool.false_and]
    clear H1 H2 hts
    go_enter Tryd.func13, Tryd.ntmps13
    go_wp2_with fail
    refine HC.out.mono ?_
    rintro e w1 ⟨rfl, hb⟩
    have HB := Lib.hid hb
    clear hb
    go_wp2
    go_ret
    exact ⟨rfl, HB.out⟩
  | true =>
    rw [hts] at HC
    have hne : l.length = m.length := by
      by_cases h : l.length = m.length
      · exact h
      · rw [tsames_len l m h] at hts; cases hts
    rw [Bool.true_and]
    obtain ⟨res, hres⟩ : ∃ res, pls l m = res := ⟨_, rfl⟩
    rw [hres]
    have HR := Lib.hid hres
    obtain ⟨N, hN⟩ : ∃ N, l.length = N := ⟨_, rfl⟩
    have hN2 : m.length = N := by rw [← hne]; exact hN
    have HN := Lib.hid hN
    have HN2 := Lib.hid hN2
    rw [hN] at hl1 H1 HC ⊢
    rw [hN2] at hl2 H2 HC ⊢
    clear hres hN hN2 hne hts
    go_enter Tryd.func13, Tryd.ntmps13
    go_wp2_with fail
    refine HC.out.mono ?_
    rintro e w1 ⟨rfl, hb1⟩
    have HB1 := Lib.hid hb1
    clear hb1 HC
    go_wp2_with fail
    go_loopw [5] (fun i wr => ∃ j : Nat, i = .int .i64 j ∧ j ≤ N ∧ Below w.heap.size w wr ∧ pls (l.drop j) (m.drop j) = res) (fun i _ => N - (intOf i).toNat)
    case atStart => exact ⟨0, rfl, by omega, HB1.out, by simpa using HR.out⟩
    case round =>
      obtain ⟨j, rfl, hj, hb, hrs⟩ := hrel
      clear HB1
      by_cases hlt : j < N
      · have d : decide ((j : Int) < (N : Int)) = true := by simp; omega
        have ji : (j : Int) < (N : Int) := by omega
        have hb1 := H1.out.below hb
        have hb2 := H2.out.below hb
        obtain ⟨b1, o1, rfl, hbl1, p0, p1, p2, p3⟩ := hb1.got j (by rw [HN.out]; exact hlt)
        obtain ⟨b2, o2, rfl, hbl2, q0, q1, q2, q3⟩ := hb2.got j (by rw [HN2.out]; exact hlt)
        have hsd := pls_drop l m j (by rw [HN.out]; exact hlt) (by rw [HN2.out]; exact hlt)
        rw [hrs] at hsd
        obtain ⟨t1, e4⟩ : ∃ k, (l[j]'(by rw [HN.out]; exact hlt)).at_ = k := ⟨_, rfl⟩
        obtain ⟨t2, g4⟩ : ∃ k, (m[j]'(by rw [HN2.out]; exact hlt)).at_ = k := ⟨_, rfl⟩
        rw [e4] at p3; rw [g4] at q3
        rw [e4, g4] at hsd
        have HSD := Lib.hid hsd
        have HB := Lib.hid hb
        clear hb1 hb2 hsd e4 g4 hrs hb p0 p1 p2 q0 q1 q2 hbl1 hbl2
        by_cases ek : t1 = t2
        · subst ek
          have dk : ((t1 : Int) != t1) = false := by simp
          have hr : pls (l.drop (j + 1)) (m.drop (j + 1)) = res := by have := HSD.out; simpa using this.symm
          have HR2 := Lib.hid hr
          clear hr
          go_wp2_with fail
          go_quiet (fail)
          go_wp2
          go_roundw
          case rel => exact ⟨j + 1, by go_num, by omega, below_drewN HB.out _, HR2.out⟩
          case measure => simp [intOf]; omega
        · have dk := ne_bool t1 t2 ek
          have ek2 : (t1 == t2) = false := by simpa using ek
          have hr : false = res := by have := HSD.out; rw [ek2] at this; simpa using this.symm
          subst hr
          clear ek
          go_wp2_with fail
          go_quiet (fail)
          go_wp2
          go_ret
          exact ⟨rfl, below_drewN HB.out _⟩
      · obtain rfl : j = N := by omega
        have d : decide ((j : Int) < (j : Int)) = false := by simp
        have hr : true = res := by rw [← hrs, ← HN.out, List.drop_length, HN.out, ← HN2.out, List.drop_length]; rfl
        subst hr
        have HB := Lib.hid hb
        clear hrs hb
        go_wp2
        go_ret
        exact ⟨rfl, HB.out⟩
end Go.Proofs.YtdcdldjbdjochaaDoor
