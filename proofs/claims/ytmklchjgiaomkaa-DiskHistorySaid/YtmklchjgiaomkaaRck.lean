/- Check of the reference answers what Dk.ok answers. -/
import Derived.Test.YtmklchjgiaomkaaVld
namespace Go.Proofs.Ytmklchjgiaomkaa
open Go.RowKit

set_option maxHeartbeats 2000000 in
theorem rcheck_raw (w : World) (d : Dk) (v : Value) (r : Bool) (hr : d.ok = r) (h : DkAt w w.heap.size v d) :
    Calls Try.prog 16 #[v] w fun e w' => e = .returned (.int .i64 (if r then 0 else 40)) ∧ Below w.heap.size w w' := by
  obtain ⟨sa, cs, ap, cp, rfl, hleft, hc1, hc2, hp1, hp2, hS, hP⟩ := h.open
  obtain ⟨left, hle⟩ : ∃ x, d.left = x := ⟨_, rfl⟩
  obtain ⟨st, hst⟩ : ∃ x, d.stop = x := ⟨_, rfl⟩
  obtain ⟨k, hk⟩ : ∃ k, d.sec.length = k := ⟨_, rfl⟩
  obtain ⟨p, hp⟩ : ∃ k, d.pen.length = k := ⟨_, rfl⟩
  have hbad := @ok_false_of d
  have hgood := ok_iff d
  rw [hr] at hbad hgood
  rw [hle, hst, hk, hp]
  rw [hle, hk, hp] at hbad hgood
  rw [hk] at hc1 hS
  rw [hp] at hp1 hP
  rw [hle] at hleft
  have HK := Lib.hid hk
  have HP := Lib.hid hp
  have HS := Lib.hid hS
  have HPe := Lib.hid hP
  have HBAD := Lib.hid hbad
  have HGOOD := Lib.hid hgood
  unfold maxLen at hc2 hp2
  unfold In64 at hleft
  clear h hS hP hr hle hst hk hp hbad hgood
  by_cases c1 : k < 1
  · have d1 : decide ((k : Int) < 1) = true := by simp; omega
    have hrf := HBAD.out (by omega)
    subst hrf
    go_enter Try.func16, Try.ntmps16
    go_wp2
    go_ret
    exact ⟨rfl, by go_grown⟩
  have d1 : decide ((k : Int) < 1) = false := by simp; omega
  by_cases c2 : 4096 < k
  · have d2 : decide (4096 < (k : Int)) = true := by simp; omega
    have hrf := HBAD.out (by omega)
    subst hrf
    go_enter Try.func16, Try.ntmps16
    go_wp2
    go_ret
    exact ⟨rfl, by go_grown⟩
  have d2 : decide (4096 < (k : Int)) = false := by simp; omega
  by_cases c3 : 4096 < p
  · have d3 : decide (4096 < (p : Int)) = true := by simp; omega
    have hrf := HBAD.out (by omega)
    subst hrf
    go_enter Try.func16, Try.ntmps16
    go_wp2
    go_ret
    exact ⟨rfl, by go_grown⟩
  have d3 : decide (4096 < (p : Int)) = false := by simp; omega
  by_cases c4 : left < -1
  · have d4 : decide (left < -1) = true := by simpa using c4
    have hrf := HBAD.out (by omega)
    subst hrf
    go_enter Try.func16, Try.ntmps16
    go_wp2
    go_ret
    exact ⟨rfl, by go_grown⟩
  have d4 : decide (left < -1) = false := by simpa using c4
  by_cases c5 : 65536 < left
  · have d5 : decide (65536 < left) = true := by simpa using c5
    have hrf := HBAD.out (by omega)
    subst hrf
    go_enter Try.func16, Try.ntmps16
    go_wp2
    go_ret
    exact ⟨rfl, by go_grown⟩
  have d5 : decide (65536 < left) = false := by simpa using c5
  obtain ⟨b, off, rfl, hb, hin⟩ := sec_get HS.out (by rw [HK.out]; omega)
  have HIN := Lib.hid hin
  clear hin
  go_enter Try.func16, Try.ntmps16
  go_wp2
  obtain ⟨w0, hw0⟩ : ∃ w0, w0 = (w.alloc (Obj.cells #[Value.slice (some ⟨b, off, none⟩) k cs, Value.slice ap p cp, Value.int IntKind.i64 left, Value.bool st] 25)) := ⟨_, rfl⟩
  rw [← hw0]
  have hB0 : Below w.heap.size w w0 := by rw [hw0]; go_grown
  have hz0 : w0.heap.size = w.heap.size + 1 := by rw [hw0]; simp
  have hX0 : Cells4 w0 w.heap.size (.slice (some ⟨b, off, none⟩) k cs) (.slice ap p cp) (.int .i64 left) (.bool st) := by rw [hw0]; exact Cells4.new _ _ _ _ _ _
  have HX0 := Lib.hid hX0
  obtain ⟨e0, e1, e2, e3⟩ := hX0
  have HIN0 := Lib.hid (HIN.out.below hB0 hb)
  clear hw0 HIN
  go_loop [4] (fun i => ∃ m : Nat, i = .int .i64 m ∧ m ≤ k ∧ okSec d.sec = okSec (d.sec.drop m)) (fun i => k - (intOf i).toNat)
  case atStart => exact ⟨0, rfl, Nat.zero_le _, by simp⟩
  case round =>
    obtain ⟨m, rfl, hmk, hok⟩ := hrel
    have HOK := Lib.hid hok
    clear hok
    by_cases hlt : m < k
    · obtain ⟨a, c, g1, g2, g3, _⟩ := HIN0.out.got m (by rw [HK.out]; exact hlt)
      have hq : okSec (d.sec.drop m) = (decide ((d.sec[m]'(by rw [HK.out]; exact hlt)).length = 128) && okSec (d.sec.drop (m + 1))) := by
        rw [List.drop_eq_getElem_cons (by rw [HK.out]; exact hlt), okSec_cons]
      obtain ⟨n, hn⟩ : ∃ n, (d.sec[m]'(by rw [HK.out]; exact hlt)).length = n := ⟨_, rfl⟩
      rw [hn] at g1 g2 hq
      have HQ := Lib.hid hq
      clear hn hq
      unfold maxLen at g3
      by_cases h8 : n = 128
      · subst h8
        go_wp2
        go_round
        case rel => exact ⟨m + 1, by go_num, by omega, by rw [HOK.out, HQ.out]; simp⟩
        case measure => simp [intOf]; omega
      · have d8 : ((n : Int) != 128) = true := by simp; omega
        have hrf := HBAD.out (by rw [HOK.out, HQ.out]; simp [h8])
        subst hrf
        go_wp2
        go_ret
        exact ⟨rfl, hB0⟩
    · have hmk' : m = k := by omega
      have hs1 : okSec d.sec = true := by rw [HOK.out, List.drop_of_length_le (by rw [HK.out]; omega)]; rfl
      have HS1 := Lib.hid hs1
      clear hs1 hmk'
      go_wp2
      go_loopw [5] (fun i wr => ∃ m : Nat, i = .int .i64 m ∧ m ≤ p ∧ okPen k d.pen = okPen k (d.pen.drop m) ∧ Below w0.heap.size w0 wr) (fun i _ => p - (intOf i).toNat)
      case atStart => exact ⟨0, rfl, Nat.zero_le _, by simp, Below.refl _ _⟩
      case round =>
        obtain ⟨m, rfl, hmp, hok, hBr⟩ := hrel
        have hzr := hBr.size
        have HXr := Lib.hid (HX0.out.next hBr)
        have hBr' : Below w.heap.size w0 wr := hBr.mono (by omega)
        have hBw : Below w.heap.size w wr := hB0.trans hBr'
        obtain ⟨f0, f1, f2, f3⟩ := HXr.out
        have HOKP := Lib.hid hok
        clear hok e0 e1 e2 e3
        by_cases hlt : m < p
        · obtain ⟨b', off', rfl, hb', hin⟩ := pen_get HPe.out (by rw [HP.out]; omega)
          obtain ⟨x64, g1, a, c, g2, g3, g4, _⟩ := (hin.below hBw hb').got m (by rw [HP.out]; exact hlt)
          clear hin
          have hq : okPen k (d.pen.drop m) = (decide (0 ≤ (d.pen[m]'(by rw [HP.out]; exact hlt)).1 ∧ (d.pen[m]'(by rw [HP.out]; exact hlt)).1 < k ∧ (d.pen[m]'(by rw [HP.out]; exact hlt)).2.length = 128) && okPen k (d.pen.drop (m + 1))) := by
            rw [List.drop_eq_getElem_cons (by rw [HP.out]; exact hlt), okPen_cons]
          obtain ⟨⟨n, y⟩, hx⟩ : ∃ x, (d.pen[m]'(by rw [HP.out]; exact hlt)) = x := ⟨_, rfl⟩
          rw [hx] at g1 g2 g3 hq x64
          obtain ⟨q, hyq⟩ : ∃ q, y.length = q := ⟨_, rfl⟩
          simp only at g1 g2 g3 hq x64
          rw [hyq] at g2 g3 hq
          have HQ := Lib.hid hq
          have HX := Lib.hid x64
          have HB5 := Lib.hid (show ∀ o, Below w0.heap.size w0 (wr.alloc o) from fun o => hBr.alloc hzr o)
          unfold maxLen at g4
          clear hx hq hyq x64 hBr hBr' hBw
          by_cases n0 : n < 0
          · have d6 : decide (n < 0) = true := by simpa using n0
            have hrf := HBAD.out (by rw [HOKP.out, HQ.out]; simp only [Bool.and_eq_true, decide_eq_true_eq]; omega)
            subst hrf
            go_wp2
            go_ret
            exact ⟨rfl, hB0.trans ((HB5.out _).mono (by omega))⟩
          have d6 : decide (n < 0) = false := by simpa using n0
          by_cases n1 : (k : Int) ≤ n
          · have d7 : decide ((k : Int) ≤ n) = true := by simpa using n1
            have hrf := HBAD.out (by rw [HOKP.out, HQ.out]; simp only [Bool.and_eq_true, decide_eq_true_eq]; omega)
            subst hrf
            go_wp2
            go_ret
            exact ⟨rfl, hB0.trans ((HB5.out _).mono (by omega))⟩
          have d7 : decide ((k : Int) ≤ n) = false := by simpa using n1
          by_cases h8 : q = 128
          · subst h8
            go_wp2
            go_roundw
            case rel => exact ⟨m + 1, by go_num, by omega, by
              rw [HOKP.out, HQ.out]; simp; intro; omega, HB5.out _⟩
            case measure => simp [intOf]; omega
          · have d8 : ((q : Int) != 128) = true := by simp; omega
            have hrf := HBAD.out (by rw [HOKP.out, HQ.out]; simp [h8])
            subst hrf
            go_wp2
            go_ret
            exact ⟨rfl, hB0.trans ((HB5.out _).mono (by omega))⟩
        · have hs2 : okPen k d.pen = true := by rw [HOKP.out, List.drop_of_length_le (by rw [HP.out]; omega)]; rfl
          have HS2 := Lib.hid hs2
          have HBW := Lib.hid hBw
          clear hs2 hBr hBr' hBw
          have hrf := HGOOD.out.2 ⟨⟨by omega, by omega, by omega⟩, HS1.out, HS2.out, by omega, by omega⟩
          subst hrf
          go_wp2
          go_ret
          exact ⟨rfl, HBW.out⟩
theorem rcheck_any (w : World) (d : Dk) (v : Value) (h : DkAt w w.heap.size v d) :
    Calls Try.prog 16 #[v] w fun e w' => e = .returned (.int .i64 (if d.ok then 0 else 40)) ∧ Below w.heap.size w w' := rcheck_raw w d v _ rfl h

set_option maxHeartbeats 400000 in
theorem restart_any (w : World) (d : Dk) (v : Value) (h : DkAt w w.heap.size v d) (f : Nat) (hf : f = 17 ∨ f = 18) :
    Calls Try.prog f #[v] w fun e w' => ∃ u, e = .returned u ∧ DkAt w' w'.heap.size u d.restart ∧ Below w.heap.size w w' := by
  have H := Lib.hid h
  obtain ⟨sa, cs, ap, cp, rfl, _, _, _, _, _, hS, _⟩ := h.open
  have HS := Lib.hid hS
  obtain ⟨k, hk⟩ : ∃ k, d.sec.length = k := ⟨_, rfl⟩
  obtain ⟨p, hp⟩ : ∃ k, d.pen.length = k := ⟨_, rfl⟩
  rw [hk] at HS
  rw [hk, hp]
  clear h hS H hk hp
  have hpost : ∀ W, Below w.heap.size w W → DkAt W W.heap.size (.agg #[.slice sa k cs, .slice none 0 0, .int .i64 (-1), .bool false]) d.restart := fun W hW =>
    ⟨⟨by show (-9223372036854775808 : Int) ≤ -1; decide, by show (-1 : Int) ≤ _; decide⟩, _, _, rfl, HS.out.next hW, pen_nil _ _ _⟩
  have HPO := Lib.hid hpost
  clear hpost HS
  rcases hf with rfl | rfl
  · go_enter Try.func17, Try.ntmps17
    go_wp2
    refine bodyPost_ret (v := .agg #[.slice sa k cs, .slice none 0 0, .int .i64 (-1), .bool false]) (by simp [results, Try.results17, go_sem]) rfl ⟨_, rfl, HPO.out _ (by go_grown), by go_grown⟩
  · go_enter Try.func18, Try.ntmps18
    go_wp2
    refine bodyPost_ret (v := .agg #[.slice sa k cs, .slice none 0 0, .int .i64 (-1), .bool false]) (by simp [results, Try.results18, go_sem]) rfl ⟨_, rfl, HPO.out _ (by go_grown), by go_grown⟩

set_option maxHeartbeats 400000 in
theorem performable_any (w : World) (d : Dk) (v : Value) (h : DkAt w w.heap.size v d) (hok : -1 ≤ d.left) :
    Calls Try.prog 35 #[v] w fun e w' => e = .returned (.int .i64 (if d.stops then d.left.toNat else d.pen.length : Nat)) ∧ Below w.heap.size w w' := by
  obtain ⟨sa, cs, ap, cp, rfl, hl, _, _, hp1, hp2, hS, _⟩ := h.open
  unfold Dk.stops
  obtain ⟨left, hle⟩ : ∃ x, d.left = x := ⟨_, rfl⟩
  obtain ⟨p, hp⟩ : ∃ k, d.pen.length = k := ⟨_, rfl⟩
  obtain ⟨k, hk⟩ : ∃ k, d.sec.length = k := ⟨_, rfl⟩
  obtain ⟨st, hst⟩ : ∃ x, d.stop = x := ⟨_, rfl⟩
  rw [hle] at hok
  rw [hle] at hl
  rw [hp] at hp1
  rw [hle, hp, hk, hst]
  clear h hS hle hp hk hst
  unfold In64 at hl
  unfold maxLen at hp2
  by_cases c1 : left = -1
  · subst c1
    simp only [show decide ((0 : Int) ≤ -1 ∧ (-1 : Int) < (p : Int)) = false by simp]
    go_enter Try.func35, Try.ntmps35
    go_wp2
    go_ret
    exact ⟨rfl, by go_grown⟩
  · have d1 : (left == -1) = false := by simpa using c1
    by_cases c2 : left < p
    · obtain ⟨l, rfl⟩ : ∃ l : Nat, left = l := ⟨left.toNat, by omega⟩
      rw [show decide ((0 : Int) ≤ (l : Int) ∧ (l : Int) < (p : Int)) = true by simp; omega]
      have hmin : min (l : Int) (p : Int) = (l : Int) := by omega
      go_enter Try.func35, Try.ntmps35
      go_wp2
      go_ret
      exact ⟨by simp [], by go_grown⟩
    · rw [show decide ((0 : Int) ≤ left ∧ left < (p : Int)) = false by simp; omega]
      clear hl
      go_enter Try.func35, Try.ntmps35
      go_wp2
      all_goals
        go_ret
        exact ⟨ret_int (by first | omega | (simp; omega) | simp), by go_grown⟩
end Go.Proofs.Ytmklchjgiaomkaa
