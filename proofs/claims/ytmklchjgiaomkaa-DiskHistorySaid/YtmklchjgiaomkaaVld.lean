/- valid, runs, Check of disk answer what Dk.ok and Dk.runs answer. -/
import Derived.Test.YtmklchjgiaomkaaSec
namespace Go.Proofs.Ytmklchjgiaomkaa
open Go.RowKit

theorem sec_get {w : World} {B : Nat} {a : Option Addr} {n cap : Nat} {l : List By} (h : SecAt w B (.slice a n cap) l) (h0 : 0 < l.length) : ∃ b off, a = some ⟨b, off, none⟩ ∧ b < B ∧ SecIn w B b off l := by
  obtain ⟨a', cap', e, _, _, h4⟩ := h
  cases e
  rcases h4 with h4 | ⟨b, off, h4, h5, h6⟩
  · subst h4; simp at h0
  · exact ⟨b, off, h4, h5, h6⟩
theorem pen_get {w : World} {B : Nat} {a : Option Addr} {n cap : Nat} {l : List (Int × By)} (h : PenAt w B (.slice a n cap) l) (h0 : 0 < l.length) : ∃ b off, a = some ⟨b, off, none⟩ ∧ b < B ∧ PenIn w B b off l := by
  obtain ⟨a', cap', e, _, _, h4⟩ := h
  cases e
  rcases h4 with h4 | ⟨b, off, h4, h5, h6⟩
  · subst h4; simp at h0
  · exact ⟨b, off, h4, h5, h6⟩
theorem bytes_shape {w : World} {B : Nat} {v : Value} {l : By} (h : BytesAt w B v l) : ∃ a c, v = .slice a l.length c ∧ l.length ≤ c ∧ c ≤ maxLen := by
  obtain ⟨a, c, rfl, h1, h2, _⟩ := h; exact ⟨a, c, rfl, h1, h2⟩
/-- The i-th sector, with its parts. -/
theorem SecIn.got {w : World} {B b off : Nat} {l : List By} (h : SecIn w B b off l) (i : Nat) (hi : i < l.length) : ∃ a c, w.cell? ⟨b, off + i, none⟩ = some (.slice a l[i].length c) ∧ l[i].length ≤ c ∧ c ≤ maxLen ∧ BytesAt w B (.slice a l[i].length c) l[i] := by
  obtain ⟨u, h1, h2⟩ := h i hi
  obtain ⟨a, c, rfl, h3, h4⟩ := bytes_shape h2
  exact ⟨a, c, h1, h3, h4, h2⟩
theorem PenIn.got {w : World} {B b off : Nat} {l : List (Int × By)} (h : PenIn w B b off l) (i : Nat) (hi : i < l.length) : In64 l[i].1 ∧ w.cell? ⟨b, off + i * 2, none⟩ = some (.int .i64 l[i].1) ∧
    ∃ a c, w.cell? ⟨b, off + i * 2 + 1, none⟩ = some (.slice a l[i].2.length c) ∧ l[i].2.length ≤ c ∧ c ≤ maxLen ∧ BytesAt w B (.slice a l[i].2.length c) l[i].2 := by
  obtain ⟨h0, h1, u, h2, h3⟩ := h i hi
  obtain ⟨a, c, rfl, h4, h5⟩ := bytes_shape h3
  exact ⟨h0, h1, a, c, h2, h4, h5, h3⟩

theorem ok_false_of {d : Dk} (h : ¬ ((1 ≤ d.sec.length ∧ d.sec.length ≤ 4096 ∧ d.pen.length ≤ 4096) ∧ okSec d.sec = true ∧ okPen d.sec.length d.pen = true ∧ -1 ≤ d.left ∧ d.left ≤ 65536)) : d.ok = false := by
  cases he : d.ok
  · rfl
  · exact absurd ((ok_iff d).1 he) h

set_option maxHeartbeats 2000000 in
theorem valid_any (w : World) (d : Dk) (v : Value) (h : DkAt w w.heap.size v d) :
    Calls Try.prog 30 #[v] w fun e w' => e = .returned (.bool d.ok) ∧ Below w.heap.size w w' := by
  obtain ⟨sa, cs, ap, cp, rfl, hleft, hc1, hc2, hp1, hp2, hS, hP⟩ := h.open
  have HD := Lib.hid h
  have HL := Lib.hid hleft
  obtain ⟨left, hle⟩ : ∃ x, d.left = x := ⟨_, rfl⟩
  obtain ⟨st, hst⟩ : ∃ x, d.stop = x := ⟨_, rfl⟩
  obtain ⟨k, hk⟩ : ∃ k, d.sec.length = k := ⟨_, rfl⟩
  obtain ⟨p, hp⟩ : ∃ k, d.pen.length = k := ⟨_, rfl⟩
  have hbad := @ok_false_of d
  have hgood := ok_iff d
  obtain ⟨r, hr⟩ : ∃ r, d.ok = r := ⟨_, rfl⟩
  rw [hr] at hbad hgood
  rw [hr, hle, hst, hk, hp]
  rw [hle, hk, hp] at hbad hgood
  rw [hk] at hc1 hS
  rw [hp] at hp1 hP
  rw [hle] at hleft
  rw [hle, hst, hk, hp] at HD
  have HK := Lib.hid hk
  have HP := Lib.hid hp
  have HS := Lib.hid hS
  have HPe := Lib.hid hP
  have HBAD := Lib.hid hbad
  have HGOOD := Lib.hid hgood
  unfold maxLen at hc2 hp2
  unfold In64 at hleft
  clear h hS hP hr hle hst hk hp HL hbad hgood
  by_cases c1 : k < 1
  · have d1 : decide ((k : Int) < 1) = true := by simp; omega
    have hrf := HBAD.out (by omega)
    subst hrf
    go_enter Try.func30, Try.ntmps30
    go_wp2
    go_ret
    exact ⟨rfl, by go_grown⟩
  have d1 : decide ((k : Int) < 1) = false := by simp; omega
  by_cases c2 : 4096 < k
  · have d2 : decide (4096 < (k : Int)) = true := by simp; omega
    have hrf := HBAD.out (by omega)
    subst hrf
    go_enter Try.func30, Try.ntmps30
    go_wp2
    go_ret
    exact ⟨rfl, by go_grown⟩
  have d2 : decide (4096 < (k : Int)) = false := by simp; omega
  by_cases c3 : 4096 < p
  · have d3 : decide (4096 < (p : Int)) = true := by simp; omega
    have hrf := HBAD.out (by omega)
    subst hrf
    go_enter Try.func30, Try.ntmps30
    go_wp2
    go_ret
    exact ⟨rfl, by go_grown⟩
  have d3 : decide (4096 < (p : Int)) = false := by simp; omega
  obtain ⟨b, off, rfl, hb, hin⟩ := sec_get HS.out (by rw [HK.out]; omega)
  have HIN := Lib.hid hin
  clear hin
  go_enter Try.func30, Try.ntmps30
  go_wp2
  obtain ⟨w0, hw0⟩ : ∃ w0, w0 = (w.alloc (Obj.cells #[Value.slice (some ⟨b, off, none⟩) k cs, Value.slice ap p cp, Value.int IntKind.i64 left, Value.bool st] 25)) := ⟨_, rfl⟩
  rw [← hw0]
  have hB0 : Below w.heap.size w w0 := by rw [hw0]; go_grown
  have hz0 : w0.heap.size = w.heap.size + 1 := by rw [hw0]; simp
  have hX0 : Cells4 w0 w.heap.size (.slice (some ⟨b, off, none⟩) k cs) (.slice ap p cp) (.int .i64 left) (.bool st) := by rw [hw0]; exact Cells4.new _ _ _ _ _ _
  have HX0 := Lib.hid hX0
  obtain ⟨e0, e1, e2, e3⟩ := hX0
  have HIN0 := Lib.hid (HIN.out.below hB0 hb)
  clear hw0 HIN
  go_loop [26] (fun i => ∃ m : Nat, i = .int .i64 m ∧ m ≤ k ∧ okSec d.sec = okSec (d.sec.drop m)) (fun i => k - (intOf i).toNat)
  case atStart => exact ⟨0, rfl, Nat.zero_le _, by simp⟩
  case round =>
    obtain ⟨m, rfl, hmk, hok⟩ := hrel
    have HOK := Lib.hid hok
    clear hok
    by_cases hlt : m < k
    · obtain ⟨a, c, g1, g2, g3, _⟩ := HIN0.out.got m (by rw [HK.out]; exact hlt)
      have hq : okSec (d.sec.drop m) = (decide ((d.sec[m]'(by rw [HK.out]; exact hlt)).length = 128) && okSec (d.sec.drop (m + 1))) := by
        rw [List.drop_eq_getElem_cons (by rw [HK.out]; exact hlt), okSec_cons]
      obtain ⟨n, hn⟩ : ∃ n, (d.sec[m]'(by rw [HK.out]; exact hlt)).length = n := ⟨_, rfl⟩
      rw [hn] at g1 g2 hq
      have HQ := Lib.hid hq
      clear hn hq
      unfold maxLen at g3
      by_cases h8 : n = 128
      · subst h8
        go_wp2
        go_round
        case rel => exact ⟨m + 1, by go_num, by omega, by rw [HOK.out, HQ.out]; simp⟩
        case measure => simp [intOf]; omega
      · have d8 : ((n : Int) != 128) = true := by simp; omega
        have hrf := HBAD.out (by rw [HOK.out, HQ.out]; simp [h8])
        subst hrf
        go_wp2
        go_ret
        exact ⟨rfl, hB0⟩
    · have hmk' : m = k := by omega
      have hs1 : okSec d.sec = true := by rw [HOK.out, List.drop_of_length_le (by rw [HK.out]; omega)]; rfl
      have HS1 := Lib.hid hs1
      clear hs1 hmk'
      go_wp2
      go_loopw [37] (fun i wr => ∃ m : Nat, i = .int .i64 m ∧ m ≤ p ∧ okPen k d.pen = okPen k (d.pen.drop m) ∧ Below w0.heap.size w0 wr) (fun i _ => p - (intOf i).toNat)
      case atStart => exact ⟨0, rfl, Nat.zero_le _, by simp, Below.refl _ _⟩
      case round =>
        obtain ⟨m, rfl, hmp, hok, hBr⟩ := hrel
        have hzr := hBr.size
        have HXr := Lib.hid (HX0.out.next hBr)
        have hBr' : Below w.heap.size w0 wr := hBr.mono (by omega)
        have hBw : Below w.heap.size w wr := hB0.trans hBr'
        obtain ⟨f0, f1, f2, f3⟩ := HXr.out
        obtain ⟨a0, a1, a2, a3⟩ := HXr.out.alloc
        have HOKP := Lib.hid hok
        clear hok e0 e1 e2 e3
        by_cases hlt : m < p
        · obtain ⟨b', off', rfl, hb', hin⟩ := pen_get HPe.out (by rw [HP.out]; omega)
          obtain ⟨x64, g1, a, c, g2, g3, g4, _⟩ := (hin.below hBw hb').got m (by rw [HP.out]; exact hlt)
          clear hin
          have hq : okPen k (d.pen.drop m) = (decide (0 ≤ (d.pen[m]'(by rw [HP.out]; exact hlt)).1 ∧ (d.pen[m]'(by rw [HP.out]; exact hlt)).1 < k ∧ (d.pen[m]'(by rw [HP.out]; exact hlt)).2.length = 128) && okPen k (d.pen.drop (m + 1))) := by
            rw [List.drop_eq_getElem_cons (by rw [HP.out]; exact hlt), okPen_cons]
          obtain ⟨⟨n, y⟩, hx⟩ : ∃ x, (d.pen[m]'(by rw [HP.out]; exact hlt)) = x := ⟨_, rfl⟩
          rw [hx] at g1 g2 g3 hq x64
          obtain ⟨q, hyq⟩ : ∃ q, y.length = q := ⟨_, rfl⟩
          simp only at g1 g2 g3 hq x64
          rw [hyq] at g2 g3 hq
          have hhas : d.has n = decide (0 ≤ n ∧ n < k) := by unfold Dk.has; rw [HK.out]
          have hcall : ∀ W, Below w.heap.size w W → Calls Try.prog 32 #[.agg #[.slice (some ⟨b, off, none⟩) k cs, .slice (some ⟨b', off', none⟩) p cp, .int .i64 left, .bool st], .int .i64 n] W fun e w' => e = .returned (.bool (decide (0 ≤ n ∧ n < k))) ∧ Below W.heap.size W w' := fun W hW => by
            rw [← hhas]; exact has_any W d _ _ n (HD.out.next hW)
          obtain ⟨t, ht⟩ : ∃ t, decide (0 ≤ n ∧ n < (k : Int)) = t := ⟨_, rfl⟩
          rw [ht] at hcall
          have HQ := Lib.hid hq
          have HC := Lib.hid hcall
          have HT := Lib.hid ht
          have HX := Lib.hid x64
          have HBR := Lib.hid hBr
          have HBW := Lib.hid hBw
          unfold maxLen at g4
          clear hx hq hyq hhas hcall ht x64 hBr hBr' hBw
          go_wp2_with fail
          refine (HC.out _ (HBW.out.alloc (by have := HBW.out.size; omega) _)).mono ?_
          rintro e w3 ⟨rfl, hB3⟩
          have i1 : w3.cell? ⟨wr.heap.size, 1, none⟩ = some (.slice a q c) := (hB3.cell (p := ⟨wr.heap.size, 1, none⟩) (by simp)).trans (by go_cell)
          have hB4 : Below wr.heap.size wr w3 := ((Below.refl wr.heap.size wr).alloc (Nat.le_refl _) _).trans (hB3.mono (by simp))
          have HB5 := Lib.hid (HBR.out.trans (hB4.mono hzr))
          clear hB3 hB4
          cases t
          · have hrf := HBAD.out (by rw [HOKP.out, HQ.out]; have := HT.out; simp only [decide_eq_false_iff_not] at this; simp only [Bool.and_eq_true, decide_eq_true_eq]; omega)
            subst hrf
            go_wp2
            go_ret
            exact ⟨rfl, hB0.trans (HB5.out.mono (by omega))⟩
          · by_cases h8 : q = 128
            · subst h8
              go_wp2
              go_roundw
              case rel => exact ⟨m + 1, by go_num, by omega, by
                rw [HOKP.out, HQ.out]; have := HT.out; simp only [decide_eq_true_eq] at this; simp [this], HB5.out⟩
              case measure => simp [intOf]; omega
            · have d8 : ((q : Int) != 128) = true := by simp; omega
              have hrf := HBAD.out (by rw [HOKP.out, HQ.out]; simp [h8])
              subst hrf
              go_wp2
              go_ret
              exact ⟨rfl, hB0.trans (HB5.out.mono (by omega))⟩
        · have hs2 : okPen k d.pen = true := by rw [HOKP.out, List.drop_of_length_le (by rw [HP.out]; omega)]; rfl
          have HS2 := Lib.hid hs2
          have HBW := Lib.hid hBw
          clear hs2 hBr hBr' hBw
          by_cases l1 : -1 ≤ left
          · have d4 : decide (-1 ≤ left) = true := by simpa using l1
            by_cases l2 : left ≤ 65536
            · have d5 : decide (left ≤ 65536) = true := by simpa using l2
              have hrf := HGOOD.out.2 ⟨⟨by omega, by omega, by omega⟩, HS1.out, HS2.out, l1, l2⟩
              subst hrf
              go_wp2
              go_ret
              exact ⟨rfl, HBW.out⟩
            · have d5 : decide (left ≤ 65536) = false := by simpa using l2
              have hrf := HBAD.out (by omega)
              subst hrf
              go_wp2
              go_ret
              exact ⟨rfl, HBW.out⟩
          · have d4 : decide (-1 ≤ left) = false := by simpa using l1
            have hrf := HBAD.out (by omega)
            subst hrf
            go_wp2
            go_ret
            exact ⟨rfl, HBW.out⟩

set_option maxHeartbeats 400000 in
theorem runs_any (w : World) (d : Dk) (v : Value) (h : DkAt w w.heap.size v d) :
    Calls Try.prog 31 #[v] w fun e w' => e = .returned (.bool d.runs) ∧ Below w.heap.size w w' := by
  have H := Lib.hid h
  obtain ⟨sa, cs, ap, cp, rfl, _⟩ := h.open
  have hcall : ∀ W, Below w.heap.size w W → Calls Try.prog 30 #[.agg #[.slice sa d.sec.length cs, .slice ap d.pen.length cp, .int .i64 d.left, .bool d.stop]] W fun e w' => e = .returned (.bool d.ok) ∧ Below W.heap.size W w' :=
    fun W hW => valid_any W d _ (H.out.next hW)
  unfold Dk.runs
  obtain ⟨r, hr⟩ : ∃ r, d.ok = r := ⟨_, rfl⟩
  obtain ⟨st, hst⟩ : ∃ r, d.stop = r := ⟨_, rfl⟩
  rw [hr, hst] at hcall ⊢
  have HC := Lib.hid hcall
  clear h hcall hr hst H
  go_enter Try.func31, Try.ntmps31
  go_wp2_with fail
  refine (HC.out _ (by go_grown)).mono ?_
  rintro e w3 ⟨rfl, hB3⟩
  obtain ⟨_, _, _, i3⟩ := (Cells4.new w (Value.slice sa d.sec.length cs) (Value.slice ap d.pen.length cp) (Value.int .i64 d.left) (Value.bool st) 25).next hB3
  have HB := Lib.hid (show Below w.heap.size w w3 from ((Below.refl w.heap.size w).alloc (Nat.le_refl _) _).trans (hB3.mono (by simp)))
  clear hB3
  cases r <;> cases st
  all_goals
    go_wp2
    go_ret
    exact ⟨rfl, HB.out⟩

set_option maxHeartbeats 400000 in
theorem check_any (w : World) (d : Dk) (v : Value) (h : DkAt w w.heap.size v d) :
    Calls Try.prog 15 #[v] w fun e w' => e = .returned (.int .i64 (if d.ok then 0 else 40)) ∧ Below w.heap.size w w' := by
  have H := Lib.hid h
  obtain ⟨sa, cs, ap, cp, rfl, _⟩ := h.open
  have hcall : ∀ W, Below w.heap.size w W → Calls Try.prog 30 #[.agg #[.slice sa d.sec.length cs, .slice ap d.pen.length cp, .int .i64 d.left, .bool d.stop]] W fun e w' => e = .returned (.bool d.ok) ∧ Below W.heap.size W w' :=
    fun W hW => valid_any W d _ (H.out.next hW)
  obtain ⟨r, hr⟩ : ∃ r, d.ok = r := ⟨_, rfl⟩
  rw [hr] at hcall ⊢
  have HC := Lib.hid hcall
  clear h hcall hr H
  go_enter Try.func15, Try.ntmps15
  go_wp2_with fail
  refine (HC.out _ (by go_grown)).mono ?_
  rintro e w3 ⟨rfl, hB3⟩
  have HB := Lib.hid (show Below w.heap.size w w3 from ((Below.refl w.heap.size w).alloc (Nat.le_refl _) _).trans (hB3.mono (by simp)))
  clear hB3
  cases r
  all_goals
    go_wp2
    go_ret
    exact ⟨rfl, HB.out⟩
end Go.Proofs.Ytmklchjgiaomkaa
