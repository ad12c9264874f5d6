/- Same and the reference's Same and Equal. -/
import Derived.Test.YtdcdldjbdjochaaDoorSme
namespace Go.Proofs.YtdcdldjbdjochaaDoor
open Go.RowKit

theorem below_drewN {B : Nat} {a w : World} (h : Below B a w) (q : Nat) : Below B a (w.drewN q) := ⟨h.os, h.tape, h.output, h.size, h.block⟩

theorem same_any (w : World) (v1 v2 : Value) (l m : List Tok) (h1 : TRow w w.heap.size v1 l) (h2 : TRow w w.heap.size v2 m) : Calls Tryd.prog 17 #[v1, v2] w fun e w' => e = .returned (.bool (tsames l m)) ∧ Below w.heap.size w w' := by
  have HC := Lib.hid (equalFunc_any w v1 v2 l m h1 h2)
  obtain ⟨a1, c1, rfl, _⟩ := h1
  obtain ⟨a2, c2, rfl, _⟩ := h2
  obtain ⟨t, ht⟩ : ∃ t, tsames l m = t := ⟨_, rfl⟩
  rw [ht] at HC ⊢
  clear ht
  go_enter Tryd.func17, Tryd.ntmps17
  go_wp2_with fail
  refine HC.out.mono ?_
  rintro e w1 ⟨rfl, hb⟩
  have HB := Lib.hid hb
  clear hb
  go_wp2
  go_ret
  exact ⟨rfl, HB.out⟩

theorem ne_bool (a b : Int) (h : a ≠ b) : (a != b) = true := by simpa using h

set_option maxRecDepth 100000 in
set_option maxHeartbeats 4000000 in
theorem rsame_any (w : World) (v1 v2 : Value) (l m : List Tok) (h1 : TRow w w.heap.size v1 l) (h2 : TRow w w.heap.size v2 m) : Calls Tryd.prog 18 #[v1, v2] w fun e w' => e = .returned (.bool (tsames l m)) ∧ Below w.heap.size w w' := by
  have H1 := Lib.hid h1
  have H2 := Lib.hid h2
  obtain ⟨a1, c1, rfl, hl1, hm1, _⟩ := h1
  obtain ⟨a2, c2, rfl, hl2, hm2, _⟩ := h2
  unfold maxLen at hm1 hm2
  by_cases hne : l.length = m.length
  · obtain ⟨res, hres⟩ : ∃ res, tsames l m = res := ⟨_, rfl⟩
    rw [hres]
    have HR := Lib.hid hres
    obtain ⟨N, hN⟩ : ∃ N, l.length = N := ⟨_, rfl⟩
    have hN2 : m.length = N := by rw [← hne]; exact hN
    have HN := Lib.hid hN
    have HN2 := Lib.hid hN2
    rw [hN] at hl1 H1 ⊢
    rw [hN2] at hl2 H2 ⊢
    have dne : ((N : Int) != (N : Int)) = false := by simp
    clear hres hN hN2 hne
    go_enter Tryd.func18, Tryd.ntmps18
    go_wp2_with fail
    go_loopw [5] (fun i wr => ∃ j : Nat, i = .int .i64 j ∧ j ≤ N ∧ Below w.heap.size w wr ∧ tsames (l.drop j) (m.drop j) = res) (fun i _ => N - (intOf i).toNat)
    case atStart => exact ⟨0, rfl, by omega, Below.refl _ _, by simpa using HR.out⟩
    case round =>
      obtain ⟨j, rfl, hj, hb, hrs⟩ := hrel
      by_cases hlt : j < N
      · have d : decide ((j : Int) < (N : Int)) = true := by simp; omega
        have ji : (j : Int) < (N : Int) := by omega
        have hb1 := H1.out.below hb
        have hb2 := H2.out.below hb
        obtain ⟨b1, o1, rfl, hbl1, p0, p1, p2, p3⟩ := hb1.got j (by rw [HN.out]; exact hlt)
        obtain ⟨b2, o2, rfl, hbl2, q0, q1, q2, q3⟩ := hb2.got j (by rw [HN2.out]; exact hlt)
        have hsd := tsames_drop l m j (by rw [HN.out]; exact hlt) (by rw [HN2.out]; exact hlt)
        rw [hrs] at hsd
        have hx1 := str_list (l[j]'(by rw [HN.out]; exact hlt)).text
        have hx2 := str_list (m[j]'(by rw [HN2.out]; exact hlt)).text
        unfold tsame at hsd
        obtain ⟨k1, e1⟩ : ∃ k, (l[j]'(by rw [HN.out]; exact hlt)).kind = k := ⟨_, rfl⟩
        obtain ⟨x1, e2⟩ : ∃ k, str (l[j]'(by rw [HN.out]; exact hlt)).text = k := ⟨_, rfl⟩
        obtain ⟨n1, e3⟩ : ∃ k, (l[j]'(by rw [HN.out]; exact hlt)).n = k := ⟨_, rfl⟩
        obtain ⟨k2, g1⟩ : ∃ k, (m[j]'(by rw [HN2.out]; exact hlt)).kind = k := ⟨_, rfl⟩
        obtain ⟨x2, g2⟩ : ∃ k, str (m[j]'(by rw [HN2.out]; exact hlt)).text = k := ⟨_, rfl⟩
        obtain ⟨n2, g3⟩ : ∃ k, (m[j]'(by rw [HN2.out]; exact hlt)).n = k := ⟨_, rfl⟩
        rw [e1] at p0; rw [e2] at p1; rw [e3] at p2
        rw [g1] at q0; rw [g2] at q1; rw [g3] at q2
        rw [e2] at hx1; rw [g2] at hx2
        rw [e1, e3, g1, g3, ← hx1, ← hx2] at hsd
        have HSD := Lib.hid hsd
        have HB := Lib.hid hb
        clear hb1 hb2 hsd e1 e2 e3 g1 g2 g3 hrs hb hx1 hx2 p3 q3 hbl1 hbl2
        by_cases ek : k1 = k2
        · subst ek
          have dk : ((k1 : Int) != k1) = false := by simp
          by_cases ex : x1.toList = x2.toList
          · have dx : (x1.toList != x2.toList) = false := by simpa using ex
            by_cases en : n1 = n2
            · subst en
              have dn : ((n1 : Int) != n1) = false := by simp
              have hr : tsames (l.drop (j + 1)) (m.drop (j + 1)) = res := by have := HSD.out; rw [ex] at this; simpa using this.symm
              have HR2 := Lib.hid hr
              clear hr
              go_wp2_with fail
              go_quiet (fail)
              go_wp2
              go_roundw
              case rel => exact ⟨j + 1, by go_num, by omega, below_drewN HB.out _, HR2.out⟩
              case measure => simp [intOf]; omega
            · have dn := ne_bool n1 n2 en
              have en2 : (n1 == n2) = false := by simpa using en
              have hr : false = res := by have := HSD.out; rw [ex, en2] at this; simpa using this.symm
              subst hr
              clear en
              go_wp2_with fail
              go_quiet (fail)
              go_wp2
              go_ret
              exact ⟨rfl, below_drewN HB.out _⟩
          · have dx : (x1.toList != x2.toList) = true := by simpa using ex
            have ex2 : (x1.toList == x2.toList) = false := by simpa using ex
            have hr : false = res := by have := HSD.out; rw [ex2] at this; simpa using this.symm
            subst hr
            go_wp2_with fail
            go_quiet (fail)
            go_wp2
            go_ret
            exact ⟨rfl, below_drewN HB.out _⟩
        · have dk := ne_bool k1 k2 ek
          have ek2 : (k1 == k2) = false := by simpa using ek
          have hr : false = res := by have := HSD.out; rw [ek2] at this; simpa using this.symm
          subst hr
          clear ek
          go_wp2_with fail
          go_quiet (fail)
          go_wp2
          go_ret
          exact ⟨rfl, below_drewN HB.out _⟩
      · obtain rfl : j = N := by omega
        have d : decide ((j : Int) < (j : Int)) = false := by simp
        have hr : true = res := by rw [← hrs, ← HN.out, List.drop_length, HN.out, ← HN2.out, List.drop_length]; rfl
        subst hr
        have HB := Lib.hid hb
        clear hrs hb
        go_wp2
        go_ret
        exact ⟨rfl, HB.out⟩
  · rw [tsames_len l m hne]
    have d : ((l.length : Int) != (m.length : Int)) = true := by simp; omega
    clear hne H1 H2
    go_enter Tryd.func18, Tryd.ntmps18
    go_wp2
    go_ret
    exact ⟨rfl, by go_grown⟩
end Go.Proofs.YtdcdldjbdjochaaDoor
