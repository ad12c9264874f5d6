/- Few of the reference answers a truth value, and changes nothing. -/
import Derived.Test.YtmklchjgiaomkaaVld
namespace Go.Proofs.Ytmklchjgiaomkaa
open Go.RowKit

set_option maxHeartbeats 2000000 in
theorem few_any (w : World) (d : Dk) (v : Value) (h : DkAt w w.heap.size v d) :
    Calls Try.prog 11 #[v] w fun e w' => ∃ r, e = .returned (.bool r) ∧ Below w.heap.size w w' := by
  obtain ⟨sa, cs, ap, cp, rfl, hleft, hc1, hc2, hp1, hp2, hS, hP⟩ := h.open
  obtain ⟨left, hle⟩ : ∃ x, d.left = x := ⟨_, rfl⟩
  obtain ⟨st, hst⟩ : ∃ x, d.stop = x := ⟨_, rfl⟩
  obtain ⟨k, hk⟩ : ∃ k, d.sec.length = k := ⟨_, rfl⟩
  obtain ⟨p, hp⟩ : ∃ k, d.pen.length = k := ⟨_, rfl⟩
  rw [hle, hst, hk, hp]
  rw [hk] at hc1 hS
  rw [hp] at hp1 hP
  have HK := Lib.hid hk
  have HP := Lib.hid hp
  have HS := Lib.hid hS
  have HPe := Lib.hid hP
  unfold maxLen at hc2 hp2
  clear h hS hP hle hst hk hp hleft
  go_enter Try.func11, Try.ntmps11
  go_wp2
  obtain ⟨w0, hw0⟩ : ∃ w0, w0 = (w.alloc (Obj.cells #[Value.slice sa k cs, Value.slice ap p cp, Value.int IntKind.i64 left, Value.bool st] 25)) := ⟨_, rfl⟩
  rw [← hw0]
  have hB0 : Below w.heap.size w w0 := by rw [hw0]; go_grown
  have hz0 : w0.heap.size = w.heap.size + 1 := by rw [hw0]; simp
  have hX0 : Cells4 w0 w.heap.size (.slice sa k cs) (.slice ap p cp) (.int .i64 left) (.bool st) := by rw [hw0]; exact Cells4.new _ _ _ _ _ _
  obtain ⟨e0, e1, e2, e3⟩ := hX0
  have HB0 := Lib.hid hB0
  clear hw0
  go_loop [3, 4] (fun n i => ∃ m : Nat, ∃ t : Int, n = .int .i64 t ∧ -9223372036854775808 ≤ t ∧ t ≤ 9223372036854775807 ∧ i = .int .i64 m ∧ m ≤ k) (fun _ i => k - (intOf i).toNat)
  case atStart => exact ⟨0, 0, rfl, by omega, by omega, rfl, Nat.zero_le _⟩
  case round =>
    obtain ⟨m, t, rfl, ht1, ht2, rfl, hmk⟩ := hrel
    by_cases hgo : m < k ∧ t ≤ 9000
    · obtain ⟨hlt, hle⟩ := hgo
      have dm : decide ((m : Int) < (k : Int)) = true := by simpa using hlt
      have dt : decide (t ≤ 9000) = true := by simpa using hle
      obtain ⟨b, off, rfl, hb, hin⟩ := sec_get HS.out (by rw [HK.out]; omega)
      obtain ⟨a, c, g1, g2, g3, _⟩ := (hin.below HB0.out hb).got m (by rw [HK.out]; exact hlt)
      obtain ⟨n, hn⟩ : ∃ n, (d.sec[m]'(by rw [HK.out]; exact hlt)).length = n := ⟨_, rfl⟩
      rw [hn] at g1 g2
      unfold maxLen at g3
      clear hin hn
      go_wp2
      go_round
      case rel => exact ⟨m + 1, _, rfl, by unfold wrap64; omega, by unfold wrap64; omega, by go_num, by omega⟩
      case measure => simp [intOf]; omega
    · have hx : (m < k ∧ decide ((m : Int) < (k : Int)) = true ∧ decide (t ≤ 9000) = false) ∨ ¬ m < k ∧ decide ((m : Int) < (k : Int)) = false := by
        by_cases hlt : m < k
        · exact .inl ⟨hlt, by simpa using hlt, by simp; omega⟩
        · exact .inr ⟨hlt, by simpa using hlt⟩
      clear hgo
      rcases hx with ⟨hlt, dm, dt⟩ | ⟨hlt, dm⟩
      · go_wp2
        go_loopw [3, 5] (fun n i wr => wr = w0 ∧ ∃ m : Nat, ∃ t : Int, n = .int .i64 t ∧ -9223372036854775808 ≤ t ∧ t ≤ 9223372036854775807 ∧ i = .int .i64 m ∧ m ≤ p) (fun _ i _ => p - (intOf i).toNat)
        case atStart => exact ⟨rfl, 0, _, rfl, by omega, by omega, rfl, Nat.zero_le _⟩
        case round =>
          obtain ⟨rfl, m', t', rfl, hu1, hu2, rfl, hmk'⟩ := hrel
          by_cases hgo : m' < p ∧ t' ≤ 9000
          · obtain ⟨hlt, hle⟩ := hgo
            have dm : decide ((m' : Int) < (p : Int)) = true := by simpa using hlt
            have dt : decide (t' ≤ 9000) = true := by simpa using hle
            obtain ⟨b, off, rfl, hb, hin⟩ := pen_get HPe.out (by rw [HP.out]; omega)
            obtain ⟨_, _, a, c, g1, g2, g3, _⟩ := (hin.below HB0.out hb).got m' (by rw [HP.out]; exact hlt)
            obtain ⟨n, hn⟩ : ∃ n, (d.pen[m']'(by rw [HP.out]; exact hlt)).2.length = n := ⟨_, rfl⟩
            rw [hn] at g1 g2
            unfold maxLen at g3
            clear hin hn
            go_wp2
            go_roundw
            case rel => exact ⟨trivial, m' + 1, _, rfl, by unfold wrap64; omega, by unfold wrap64; omega, by go_num, by omega⟩
            case measure => simp [intOf]; omega
          · have hx : (m' < p ∧ decide ((m' : Int) < (p : Int)) = true ∧ decide (t' ≤ 9000) = false) ∨ ¬ m' < p ∧ decide ((m' : Int) < (p : Int)) = false := by
              by_cases hlt : m' < p
              · exact .inl ⟨hlt, by simpa using hlt, by simp; omega⟩
              · exact .inr ⟨hlt, by simpa using hlt⟩
            clear hgo
            rcases hx with ⟨hlt, dm, dt⟩ | ⟨hlt, dm⟩
            all_goals
              go_wp2
              go_ret
              exact ⟨_, rfl, HB0.out⟩
      · go_wp2
        go_loopw [3, 5] (fun n i wr => wr = w0 ∧ ∃ m : Nat, ∃ t : Int, n = .int .i64 t ∧ -9223372036854775808 ≤ t ∧ t ≤ 9223372036854775807 ∧ i = .int .i64 m ∧ m ≤ p) (fun _ i _ => p - (intOf i).toNat)
        case atStart => exact ⟨rfl, 0, _, rfl, by omega, by omega, rfl, Nat.zero_le _⟩
        case round =>
          obtain ⟨rfl, m', t', rfl, hu1, hu2, rfl, hmk'⟩ := hrel
          by_cases hgo : m' < p ∧ t' ≤ 9000
          · obtain ⟨hlt, hle⟩ := hgo
            have dm : decide ((m' : Int) < (p : Int)) = true := by simpa using hlt
            have dt : decide (t' ≤ 9000) = true := by simpa using hle
            obtain ⟨b, off, rfl, hb, hin⟩ := pen_get HPe.out (by rw [HP.out]; omega)
            obtain ⟨_, _, a, c, g1, g2, g3, _⟩ := (hin.below HB0.out hb).got m' (by rw [HP.out]; exact hlt)
            obtain ⟨n, hn⟩ : ∃ n, (d.pen[m']'(by rw [HP.out]; exact hlt)).2.length = n := ⟨_, rfl⟩
            rw [hn] at g1 g2
            unfold maxLen at g3
            clear hin hn
            go_wp2
            go_roundw
            case rel => exact ⟨trivial, m' + 1, _, rfl, by unfold wrap64; omega, by unfold wrap64; omega, by go_num, by omega⟩
            case measure => simp [intOf]; omega
          · have hx : (m' < p ∧ decide ((m' : Int) < (p : Int)) = true ∧ decide (t' ≤ 9000) = false) ∨ ¬ m' < p ∧ decide ((m' : Int) < (p : Int)) = false := by
              by_cases hlt : m' < p
              · exact .inl ⟨hlt, by simpa using hlt, by simp; omega⟩
              · exact .inr ⟨hlt, by simpa using hlt⟩
            clear hgo
            rcases hx with ⟨hlt, dm, dt⟩ | ⟨hlt, dm⟩
            all_goals
              go_wp2
              go_ret
              exact ⟨_, rfl, HB0.out⟩
end Go.Proofs.Ytmklchjgiaomkaa
