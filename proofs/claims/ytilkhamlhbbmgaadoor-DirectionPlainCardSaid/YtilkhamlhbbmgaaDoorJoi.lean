/- text.Join and the reference's bytes of a code point. -/
import Derived.Test.YtilkhamlhbbmgaaDoorJn
namespace Go.Proofs.YtilkhamlhbbmgaaDoor
open Go.RowKit

/-- The error of Join, and its text. -/
def jnE (l : List Int) : Int := if l.all okPt then (if 4096 < (encs l).length then 2 else 0) else 90
def jnS (l : List Int) : List UInt8 := if l.all okPt && decide ((encs l).length ≤ 4096) then encs l else []
theorem any_not_ok (l : List Int) : (l.any fun r => !okPt r) = !l.all okPt := by
  induction l with
  | nil => rfl
  | cons r l ih => rw [List.any_cons, List.all_cons, ih]; cases okPt r <;> simp
theorem all_ok {l : List Int} (h : l.all okPt = true) : ∀ r ∈ l, okPt r = true := List.all_eq_true.1 h

set_option maxRecDepth 100000 in
set_option maxHeartbeats 1000000 in
theorem join_any (w : World) (v : Value) (l : List Int) (hv : IRow w w.heap.size v l) (hl : l.length ≤ 1000000) : Calls Tryd.prog 19 #[v] w fun e w' => e = .returned (.tuple #[.string (str (jnS l)), .int .i64 (jnE l)]) ∧ Below w.heap.size w w' := by
  have HC := Lib.hid (contains_44 w v l hv)
  rw [any_not_ok] at HC
  have hwr := fun (W : World) (hW : Below w.heap.size w W) (h : l.all okPt = true) => written_any W v l ((hv.below hW).mono hW.size) hl (all_ok h)
  have HW := Lib.hid hwr
  obtain ⟨a, c, rfl, -⟩ := hv
  clear hwr
  unfold jnS jnE
  cases hok : l.all okPt with
  | false =>
    rw [hok] at HC
    clear HW hok
    go_enter Tryd.func19, Tryd.ntmps19
    go_wp2_with fail
    refine HC.out.mono ?_
    rintro e w1 ⟨rfl, hb1⟩
    go_wp2
    go_ret2
    exact ⟨rfl, hb1⟩
  | true =>
    rw [hok] at HC
    have HW2 := Lib.hid (fun W hW => HW.out W hW hok)
    obtain ⟨bs, hbs⟩ : ∃ bs, encs l = bs := ⟨_, rfl⟩
    have hsz := str_size bs
    rw [hbs] at HW2 ⊢
    obtain ⟨N, hN⟩ : ∃ N, bs.length = N := ⟨_, rfl⟩
    rw [hN] at hsz ⊢
    by_cases h4 : 4096 < N
    · have d1 : decide (4096 < (N : Int)) = true := by simp; omega
      rw [decide_eq_false (by omega : ¬ N ≤ 4096), if_pos rfl, if_pos h4]
      obtain ⟨s, hs⟩ : ∃ s, str bs = s := ⟨_, rfl⟩
      rw [hs] at hsz HW2
      clear HW hok hs hN hbs h4
      go_enter Tryd.func19, Tryd.ntmps19
      go_wp2_with fail
      refine HC.out.mono ?_
      rintro e w1 ⟨rfl, hb1⟩
      have HB1 := Lib.hid hb1
      clear hb1
      go_wp2_with fail
      refine (HW2.out w1 HB1.out).mono ?_
      rintro e w2 ⟨rfl, hb2⟩
      have HB2 := Lib.hid hb2
      clear hb2
      go_wp2
      go_ret2
      exact ⟨rfl, HB1.out.trans (HB2.out.mono HB1.out.size)⟩
    · have d1 : decide (4096 < (N : Int)) = false := by simp; omega
      rw [decide_eq_true (by omega : N ≤ 4096), if_neg h4]
      show Calls Tryd.prog 19 #[.slice a l.length c] w fun e w' => e = .returned (.tuple #[.string (str bs), .int .i64 0]) ∧ Below w.heap.size w w'
      obtain ⟨s, hs⟩ : ∃ s, str bs = s := ⟨_, rfl⟩
      rw [hs] at hsz HW2 ⊢
      clear HW hok hs hN hbs h4
      go_enter Tryd.func19, Tryd.ntmps19
      go_wp2_with fail
      refine HC.out.mono ?_
      rintro e w1 ⟨rfl, hb1⟩
      have HB1 := Lib.hid hb1
      clear hb1
      go_wp2_with fail
      refine (HW2.out w1 HB1.out).mono ?_
      rintro e w2 ⟨rfl, hb2⟩
      have HB2 := Lib.hid hb2
      clear hb2
      go_wp2
      go_ret2
      exact ⟨rfl, HB1.out.trans (HB2.out.mono HB1.out.size)⟩

/-- Bytes that the call has made in a block of their own. -/
theorem made_own {w W : World} {n : Nat} {bs : List UInt8} (g : Nat) (cs : List Value) (hc : cs = cells8 bs) (hn : bs.length = n) (hg : W = w.alloc (.cells cs.toArray 5)) (hgs : g = w.heap.size) (hl : n ≤ 1000) : W.ownsRow w.heap.size 5 1 (.slice (some ⟨g, 0, none⟩) n n) n (cells8 bs) := by
  subst hg; subst hc; subst hgs; subst hn
  exact ⟨by simp [cells8], .inr ⟨w.heap.size, bs.length, (cells8 bs).toArray, rfl, Nat.le_refl _, heap_alloc_new w _, Nat.le_refl _, by unfold maxLen; omega, by simp [cells8], by rw [Nat.mul_one, List.toList_toArray]; exact List.take_of_length_le (by rw [cells8_len]; exact Nat.le_refl _)⟩⟩

/-- The bytes of any number, as the reference lays them. -/
def rbs (r : Int) : List UInt8 :=
  if r < 128 then [r.toNat.toUInt8] else if r < 2048 then [(192 + r / 64).toNat.toUInt8, (128 + r % 64).toNat.toUInt8]
  else if r < 65536 then [(224 + r / 4096).toNat.toUInt8, (128 + r / 64 % 64).toNat.toUInt8, (128 + r % 64).toNat.toUInt8]
  else [(240 + r / 262144).toNat.toUInt8, (128 + r / 4096 % 64).toNat.toUInt8, (128 + r / 64 % 64).toNat.toUInt8, (128 + r % 64).toNat.toUInt8]
theorem rbs_enc {r : Int} (h : okPt r = true) : rbs r = enc r := by
  have h0 := okPt_iff.1 h
  unfold rbs enc Lib.encodeRune
  by_cases c1 : r < 128
  · rw [if_pos c1, Lib.encodeRuneZ_one (by omega) (by omega)]; rfl
  · by_cases c2 : r < 2048
    · rw [if_neg c1, if_pos c2, Lib.encodeRuneZ_two (by omega) (by omega)]; rfl
    · by_cases c3 : r < 65536
      · rw [if_neg c1, if_neg c2, if_pos c3, Lib.encodeRuneZ_three (by omega)]; rfl
      · rw [if_neg c1, if_neg c2, if_neg c3, Lib.encodeRuneZ_four (by omega) (by omega)]; rfl
theorem u8_back {z : Int} (h0 : 0 ≤ z) (h1 : z < 256) : IntKind.u8.wrap z = z := by rw [IntKind.wrap_u8]; omega
set_option maxRecDepth 100000 in
set_option maxHeartbeats 1000000 in
theorem bytes_any (w : World) (r : Int) (h : okPt r = true) : Calls Tryd.prog 47 #[.int .i64 r] w fun e w' => ∃ v, e = .returned v ∧ w'.ownsRow w.heap.size 5 1 v (enc r).length (cells8 (enc r)) ∧ Below w.heap.size w w' := by
  rw [← rbs_enc h]
  have h0 := okPt_iff.1 h
  obtain ⟨h1, h2, h3⟩ := h0
  clear h h3
  unfold rbs
  by_cases c1 : r < 128
  · rw [if_pos c1]
    have e1 := u8_back h1 (by omega)
    go_enter Tryd.func47, Tryd.ntmps47
    go_wp2
    go_ret
    exact ⟨_, rfl, made_own w.heap.size [.int .u8 r] (by simp only [cells8, List.map_cons, List.map_nil]; rw [toNat_u8 h1 (by omega)]) rfl rfl rfl (by omega), by go_grown⟩
  · have d1 : decide (r < 128) = false := by simpa using c1
    rw [if_neg c1]
    by_cases c2 : r < 2048
    · rw [if_pos c2]
      have b1 : 0 ≤ r / 64 := by omega
      have b2 : r / 64 ≤ 31 := by omega
      have m1 : 0 ≤ r % 64 := by omega
      have m2 : r % 64 ≤ 63 := by omega
      have e1 := u8_back (z := 192 + r / 64) (by omega) (by omega)
      have e2 := u8_back (z := 128 + r % 64) (by omega) (by omega)
      go_enter Tryd.func47, Tryd.ntmps47
      go_wp2
      go_ret
      exact ⟨_, rfl, made_own w.heap.size [.int .u8 (192 + r / 64), .int .u8 (128 + r % 64)] (by simp only [cells8, List.map_cons, List.map_nil]; rw [toNat_u8 (by omega) (by omega), toNat_u8 (by omega) (by omega)]) rfl rfl rfl (by decide), by go_grown⟩
    · have d2 : decide (r < 2048) = false := by simpa using c2
      rw [if_neg c2]
      by_cases c3 : r < 65536
      · rw [if_pos c3]
        have b1 : 0 ≤ r / 4096 := by omega
        have b2 : r / 4096 ≤ 15 := by omega
        have b3 : 0 ≤ r / 64 := by omega
        have b4 : r / 64 ≤ 1023 := by omega
        have b5 : 0 ≤ r / 64 % 64 := by omega
        have b6 : r / 64 % 64 ≤ 63 := by omega
        have m1 : 0 ≤ r % 64 := by omega
        have m2 : r % 64 ≤ 63 := by omega
        have e1 := u8_back (z := 224 + r / 4096) (by omega) (by omega)
        have e2 := u8_back (z := 128 + r / 64 % 64) (by omega) (by omega)
        have e3 := u8_back (z := 128 + r % 64) (by omega) (by omega)
        go_enter Tryd.func47, Tryd.ntmps47
        go_wp2
        go_ret
        exact ⟨_, rfl, made_own w.heap.size [.int .u8 (224 + r / 4096), .int .u8 (128 + r / 64 % 64), .int .u8 (128 + r % 64)] (by simp only [cells8, List.map_cons, List.map_nil]; rw [toNat_u8 (by omega) (by omega), toNat_u8 (by omega) (by omega), toNat_u8 (by omega) (by omega)]) rfl rfl rfl (by decide), by go_grown⟩
      · have d3 : decide (r < 65536) = false := by simpa using c3
        rw [if_neg c3]
        have b1 : 0 ≤ r / 262144 := by omega
        have b2 : r / 262144 ≤ 4 := by omega
        have a1 : 0 ≤ r / 4096 := by omega
        have a2 : r / 4096 ≤ 300 := by omega
        have a3 : 0 ≤ r / 4096 % 64 := by omega
        have a4 : r / 4096 % 64 ≤ 63 := by omega
        have b3 : 0 ≤ r / 64 := by omega
        have b4 : r / 64 ≤ 20000 := by omega
        have b5 : 0 ≤ r / 64 % 64 := by omega
        have b6 : r / 64 % 64 ≤ 63 := by omega
        have m1 : 0 ≤ r % 64 := by omega
        have m2 : r % 64 ≤ 63 := by omega
        have e1 := u8_back (z := 240 + r / 262144) (by omega) (by omega)
        have e0 := u8_back (z := 128 + r / 4096 % 64) (by omega) (by omega)
        have e2 := u8_back (z := 128 + r / 64 % 64) (by omega) (by omega)
        have e3 := u8_back (z := 128 + r % 64) (by omega) (by omega)
        go_enter Tryd.func47, Tryd.ntmps47
        go_wp2
        go_ret
        exact ⟨_, rfl, made_own w.heap.size [.int .u8 (240 + r / 262144), .int .u8 (128 + r / 4096 % 64), .int .u8 (128 + r / 64 % 64), .int .u8 (128 + r % 64)] (by simp only [cells8, List.map_cons, List.map_nil]; rw [toNat_u8 (by omega) (by omega), toNat_u8 (by omega) (by omega), toNat_u8 (by omega) (by omega), toNat_u8 (by omega) (by omega)]) rfl rfl rfl (by decide), by go_grown⟩
end Go.Proofs.YtilkhamlhbbmgaaDoor
