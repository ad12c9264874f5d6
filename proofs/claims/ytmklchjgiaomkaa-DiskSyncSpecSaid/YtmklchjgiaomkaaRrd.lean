/- Read and Stop of the reference. -/
import Derived.Test.YtmklchjgiaomkaaBox
import Derived.Test.YtmklchjgiaomkaaRdp
namespace Go.Proofs.Ytmklchjgiaomkaa
open Go.RowKit

theorem curOf_take (n : Int) (l : List (Int × By)) (z : By) (m : Nat) (h : m < l.length) : curOf n (l.take (m + 1)) z = if l[m].1 = n then l[m].2 else curOf n (l.take m) z := by
  rw [List.take_succ_eq_append_getElem h]
  unfold curOf; rw [List.foldl_append]; rfl

set_option maxHeartbeats 2000000 in
theorem rread_any (w : World) (d : Dk) (v : Value) (n : Int) (h : DkAt w w.heap.size v d) :
    Calls Try.prog 22 #[v, .int .i64 n] w fun e w' => ∃ u, e = .returned (.tuple #[u, .int .i64 (d.read n).2]) ∧ BytesAt w' w'.heap.size u (d.read n).1 ∧ Below w.heap.size w w' := by
  obtain ⟨k, hk⟩ : ∃ k, d.sec.length = k := ⟨_, rfl⟩
  obtain ⟨p, hp⟩ : ∃ k, d.pen.length = k := ⟨_, rfl⟩
  obtain ⟨left, hle⟩ : ∃ x, d.left = x := ⟨_, rfl⟩
  obtain ⟨st, hst⟩ : ∃ x, d.stop = x := ⟨_, rfl⟩
  have hbad : (d.ok = false ∨ st = true ∨ n < 0 ∨ (k : Int) ≤ n) → d.read n = ([], 40) := fun hc => by
    unfold Dk.read
    rw [if_neg]
    intro hh
    obtain ⟨h1, h2⟩ := Bool.and_eq_true_iff.1 hh
    obtain ⟨h3, h4⟩ := runs_ok h1
    have h5 := has_iff.1 h2
    rcases hc with hc | hc | hc | hc
    · rw [h3] at hc; cases hc
    · rw [hst] at h4; rw [h4] at hc; cases hc
    · omega
    · omega
  have hgood : d.ok = true → st = false → 0 ≤ n → n < k → d.read n = (d.cur n, 0) := fun h1 h2 h3 h4 => read_ok (runs_of h1 (by rw [hst]; exact h2)) (has_iff.2 ⟨h3, by omega⟩)
  have hcur : d.cur n = curOf n d.pen (d.sec.getD n.toNat []) := rfl
  have hchk : ∀ W, Below w.heap.size w W → ∀ v', DkAt W W.heap.size v' d → Calls Try.prog 16 #[v'] W fun e w' => e = .returned (.int .i64 (if d.ok then 0 else 40)) ∧ Below W.heap.size W w' := fun W _ v' h' => rcheck_any W d v' h'
  obtain ⟨sa, cs, ap, cp, w1, rfl, hw1, hX, hB, hc1, hc2, hc3, hc4, -⟩ := h.box hk hp hle hst
  obtain ⟨r, hr⟩ : ∃ x, d.ok = x := ⟨_, rfl⟩
  obtain ⟨A, hA⟩ : ∃ x, d.read n = x := ⟨_, rfl⟩
  rw [hr] at hbad hgood hchk
  rw [hA] at hbad hgood ⊢
  have HW := Lib.hid hw1
  have HX := Lib.hid hX
  have HBASE := Lib.hid hB
  have HBAD := Lib.hid hbad
  have HGOOD := Lib.hid hgood
  have HCUR := Lib.hid hcur
  have HCHK := Lib.hid hchk
  have HK := Lib.hid hk
  have HP := Lib.hid hp
  unfold maxLen at hc2 hc4
  clear h hw1 hX hB hbad hgood hcur hchk hr hA hk hp hle hst
  go_enter Try.func22, Try.ntmps22
  go_wp2_with fail
  rw [← HW.out]
  refine (HCHK.out _ HBASE.out _ HX.out.dk).mono ?_
  rintro e w2 ⟨rfl, hB⟩
  have HX := Lib.hid (HX.out.next hB)
  have HBASE := Lib.hid (HBASE.out.trans (hB.mono HBASE.out.size))
  clear hB HW HCHK
  obtain ⟨e0, e1, e2, e3⟩ := HX.out.four
  cases r with
  | false =>
    obtain rfl := HBAD.out (.inl rfl)
    go_wp2
    go_ret2
    exact ⟨_, rfl, bytes_nil _ _ _, HBASE.out⟩
  | true =>
  cases st with
  | true =>
    obtain rfl := HBAD.out (.inr (.inl rfl))
    go_wp2
    go_ret2
    exact ⟨_, rfl, bytes_nil _ _ _, HBASE.out⟩
  | false =>
  by_cases h1 : n < 0
  · obtain rfl := HBAD.out (.inr (.inr (.inl h1)))
    have d1 : decide (n < 0) = true := by simpa using h1
    go_wp2
    go_ret2
    exact ⟨_, rfl, bytes_nil _ _ _, HBASE.out⟩
  have d1 : decide (n < 0) = false := by simpa using h1
  by_cases h2 : (k : Int) ≤ n
  · obtain rfl := HBAD.out (.inr (.inr (.inr h2)))
    have d2 : decide ((k : Int) ≤ n) = true := by simpa using h2
    go_wp2
    go_ret2
    exact ⟨_, rfl, bytes_nil _ _ _, HBASE.out⟩
  have d2 : decide ((k : Int) ≤ n) = false := by simpa using h2
  obtain rfl := HGOOD.out rfl rfl (by omega) (by omega)
  obtain ⟨j, rfl⟩ : ∃ j : Nat, n = j := ⟨n.toNat, by omega⟩
  have hj : j < k := by omega
  obtain ⟨_, _, _, e, hS, hP⟩ := HX.out.dk
  obtain ⟨rfl, rfl⟩ : _ = Value.slice sa k cs ∧ _ = Value.slice ap p cp := by
    injection e with e; simp at e; exact ⟨e.1.symm, e.2.1.symm⟩
  obtain ⟨b, off, rfl, hb, hin⟩ := sec_get hS (by rw [HK.out]; omega)
  obtain ⟨a, c, g1, g2, g3, g4⟩ := hin.got j (by rw [HK.out]; exact hj)
  have hz : d.sec.getD ((j : Int)).toNat [] = d.sec[j]'(by rw [HK.out]; exact hj) := by
    rw [Int.toNat_natCast, List.getD_eq_getElem?_getD, List.getElem?_eq_getElem (by rw [HK.out]; exact hj)]; rfl
  obtain ⟨z, hzz⟩ : ∃ z, d.sec[j]'(by rw [HK.out]; exact hj) = z := ⟨_, rfl⟩
  rw [hzz] at g1 g2 g4 hz
  have hcur := HCUR.out
  rw [hz] at hcur
  obtain ⟨nz, hnz⟩ : ∃ nz, z.length = nz := ⟨_, rfl⟩
  rw [hnz] at g1 g2 g4
  have HZ := Lib.hid g4
  have HCUR := Lib.hid hcur
  have HPE := Lib.hid hP
  unfold maxLen at g3
  clear e hS hP hin hz hzz hcur g4 hnz
  go_wp2
  go_loop [6, 7] (fun u i => ∃ m : Nat, i = .int .i64 m ∧ m ≤ p ∧ BytesAt w2 w2.heap.size u (curOf j (d.pen.take m) z)) (fun _ i => p - (intOf i).toNat)
  case atStart => exact ⟨0, rfl, Nat.zero_le _, by rw [List.take_zero]; exact HZ.out⟩
  case round =>
    obtain ⟨m, rfl, hmp, hu⟩ := hrel
    have HU := Lib.hid hu
    clear hu
    by_cases hlt : m < p
    · have dm : decide ((m : Int) < (p : Int)) = true := by simpa using hlt
      obtain ⟨b', off', rfl, hb', hin⟩ := pen_get HPE.out (by rw [HP.out]; omega)
      obtain ⟨x64, i1, a', c', i2, i3, i4, i5⟩ := hin.got m (by rw [HP.out]; exact hlt)
      have hq := curOf_take j d.pen z m (by rw [HP.out]; exact hlt)
      obtain ⟨⟨x, y⟩, hx⟩ : ∃ x, (d.pen[m]'(by rw [HP.out]; exact hlt)) = x := ⟨_, rfl⟩
      rw [hx] at i1 i2 i3 i5 hq x64
      simp only at i1 i2 i3 i5 hq x64
      obtain ⟨ny, hny⟩ : ∃ ny, y.length = ny := ⟨_, rfl⟩
      rw [hny] at i2 i3 i5
      have HQ := Lib.hid hq
      have HY := Lib.hid i5
      unfold maxLen at i4
      unfold In64 at x64
      clear hin hq hx i5 hny
      by_cases hxj : x = (j : Int)
      · have dx : (x == (j : Int)) = true := by simpa using hxj
        go_wp2
        go_round
        case rel => exact ⟨m + 1, by go_num, by omega, by rw [HQ.out, if_pos hxj]; exact HY.out⟩
        case measure => simp [intOf]; omega
      · have dx : (x == (j : Int)) = false := by simpa using hxj
        go_wp2
        go_round
        case rel => exact ⟨m + 1, by go_num, by omega, by rw [HQ.out, if_neg hxj]; exact HU.out⟩
        case measure => simp [intOf]; omega
    · have dm : decide ((m : Int) < (p : Int)) = false := by simpa using hlt
      have hu := HU.out
      rw [List.take_of_length_le (by rw [HP.out]; omega), ← HCUR.out] at hu
      have HU := Lib.hid hu
      clear hu
      go_wp2
      go_ret2
      exact ⟨_, rfl, HU.out, HBASE.out⟩
end Go.Proofs.Ytmklchjgiaomkaa
