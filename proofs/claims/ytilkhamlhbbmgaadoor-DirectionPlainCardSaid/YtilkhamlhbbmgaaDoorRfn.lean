/- The reference's first code point. -/
import Derived.Test.YtilkhamlhbbmgaaDoorJoi
import Derived.Deep.RegionWith
namespace Go.Proofs.YtilkhamlhbbmgaaDoor
open Go.RowKit

/-- What a first byte says: how many bytes, and its bits. -/
def lng (b : Nat) : Nat × Nat := if b < 128 then (1, b) else if 192 ≤ b ∧ b < 224 then (2, b - 192) else if 224 ≤ b ∧ b < 240 then (3, b - 224) else if 240 ≤ b ∧ b < 248 then (4, b - 240) else (0, 0)
theorem long_any (w : World) (b : Nat) : Calls Tryd.prog 65 #[.int .i64 b] w fun e w' => e = .returned (.tuple #[.int .i64 ((lng b).1 : Nat), .int .i64 ((lng b).2 : Nat)]) ∧ w' = w := by
  unfold lng
  by_cases c1 : b < 128
  · rw [if_pos c1]
    have h : (b : Int) < 128 := by omega
    go_enter Tryd.func65, Tryd.ntmps65
    go_wp2
    go_ret2
    exact ⟨rfl, rfl⟩
  have d1 : decide ((b : Int) < 128) = false := by simp; omega
  by_cases c2 : b < 192
  · rw [if_neg c1, if_neg (by omega), if_neg (by omega), if_neg (by omega)]
    have d2 : decide (192 ≤ (b : Int)) = false := by simp; omega
    have d3 : decide (224 ≤ (b : Int)) = false := by simp; omega
    have d4 : decide (240 ≤ (b : Int)) = false := by simp; omega
    go_enter Tryd.func65, Tryd.ntmps65
    go_wp2
    go_ret2
    exact ⟨rfl, rfl⟩
  have d2 : decide (192 ≤ (b : Int)) = true := by simp; omega
  by_cases c3 : b < 224
  · rw [if_neg c1, if_pos (by omega)]
    have d3 : decide ((b : Int) < 224) = true := by simp; omega
    have h0 : 192 ≤ (b : Int) := by omega
    have h1 : (b : Int) < 224 := by omega
    have HE : Hid ((b : Int) - 192 = ((b - 192 : Nat) : Int)) := Lib.hid (by omega)
    go_enter Tryd.func65, Tryd.ntmps65
    go_wp2
    go_ret2
    exact ⟨by rw [← HE.out]; rfl, rfl⟩
  have d3 : decide ((b : Int) < 224) = false := by simp; omega
  have d3' : decide (224 ≤ (b : Int)) = true := by simp; omega
  by_cases c4 : b < 240
  · rw [if_neg c1, if_neg (by omega), if_pos (by omega)]
    have d4 : decide ((b : Int) < 240) = true := by simp; omega
    have h0 : 224 ≤ (b : Int) := by omega
    have h1 : (b : Int) < 240 := by omega
    have HE : Hid ((b : Int) - 224 = ((b - 224 : Nat) : Int)) := Lib.hid (by omega)
    go_enter Tryd.func65, Tryd.ntmps65
    go_wp2
    go_ret2
    exact ⟨by rw [← HE.out]; rfl, rfl⟩
  have d4 : decide ((b : Int) < 240) = false := by simp; omega
  have d4' : decide (240 ≤ (b : Int)) = true := by simp; omega
  by_cases c5 : b < 248
  · rw [if_neg c1, if_neg (by omega), if_neg (by omega), if_pos (by omega)]
    have d5 : decide ((b : Int) < 248) = true := by simp; omega
    have h0 : 240 ≤ (b : Int) := by omega
    have h1 : (b : Int) < 248 := by omega
    have HE : Hid ((b : Int) - 240 = ((b - 240 : Nat) : Int)) := Lib.hid (by omega)
    go_enter Tryd.func65, Tryd.ntmps65
    go_wp2
    go_ret2
    exact ⟨by rw [← HE.out]; rfl, rfl⟩
  · rw [if_neg c1, if_neg (by omega), if_neg (by omega), if_neg (by omega)]
    have d5 : decide ((b : Int) < 248) = false := by simp; omega
    go_enter Tryd.func65, Tryd.ntmps65
    go_wp2
    go_ret2
    exact ⟨rfl, rfl⟩

/-- The code point's bits after so many bytes. -/
def rr (r0 : Nat) (bs : List UInt8) : Nat → Int
  | 0 => r0
  | 1 => r0
  | i + 2 => rr r0 bs (i + 1) * 64 + (bs.getD (i + 1) 0).toNat - 128
theorem rr_le {r0 : Nat} {bs : List UInt8} (h0 : r0 < 128) : ∀ i, (∀ j, 1 ≤ j → j < i → isCont (bs.getD j 0) = true) → 0 ≤ rr r0 bs i ∧ (i ≤ 1 → rr r0 bs i ≤ 127) ∧ (i ≤ 2 → rr r0 bs i ≤ 8191) ∧ (i ≤ 3 → rr r0 bs i ≤ 524287) ∧ (i ≤ 4 → rr r0 bs i ≤ 33554431)
  | 0, _ => by unfold rr; omega
  | 1, _ => by unfold rr; omega
  | i + 2, h => by
    have ih := rr_le h0 (i + 1) (fun j h1 h2 => h j h1 (by omega))
    have hc := h (i + 1) (by omega) (by omega)
    unfold isCont at hc
    simp only [beq_iff_eq] at hc
    unfold rr
    omega
theorem lng_lt (b : Nat) (h : b < 256) : (lng b).2 < 128 ∧ (lng b).1 ≤ 4 := by
  unfold lng
  repeat' split
  all_goals (constructor <;> dsimp only <;> omega)
/-- A code point that stands there is read so. -/
theorem lng_ok {bs : List UInt8} (h0 : bs ≠ []) (h : isBad bs = false) : (lng (bs.getD 0 0).toNat).1 = (dcd bs).2 ∧ (∀ j, 1 ≤ j → j < (dcd bs).2 → isCont (bs.getD j 0) = true) ∧ rr (lng (bs.getD 0 0).toNat).2 bs (dcd bs).2 = (dcd bs).1 := by
  have hl : 1 ≤ bs.length := by cases bs with | nil => exact absurd rfl h0 | cons _ _ => simp
  obtain ⟨r, k, hd⟩ : ∃ r k, dcd bs = (r, k) := ⟨_, _, rfl⟩
  simp only [isBad, hd, decide_eq_false_iff_not] at h
  rw [hd]
  obtain ⟨h1, h2, h3, h4⟩ := decN_ok hd hl (u8_lt _) (u8_lt _) (u8_lt _) (u8_lt _) h
  have ho := okPt_iff.1 h1
  have q0 := u8_lt (bs.getD 0 0)
  have q1 := u8_lt (bs.getD 1 0)
  have q2 := u8_lt (bs.getD 2 0)
  have q3 := u8_lt (bs.getD 3 0)
  dsimp only
  unfold isCont
  rcases h4 with ⟨rfl, a1, a2, a3⟩ | ⟨rfl, a1, a2, a3, a4⟩ | ⟨rfl, a1, a2, a3, a4, a5⟩ | ⟨rfl, a1, a3, a4, a5, a6⟩
  · have e : lng (bs.getD 0 0).toNat = (1, (bs.getD 0 0).toNat) := by unfold lng; rw [if_pos (by omega)]
    rw [e]
    exact ⟨rfl, fun j _ _ => by omega, by unfold rr; omega⟩
  · have e : lng (bs.getD 0 0).toNat = (2, (bs.getD 0 0).toNat - 192) := by unfold lng; rw [if_neg (by omega), if_pos (by omega)]
    rw [e]
    refine ⟨rfl, fun j _ _ => ?_, ?_⟩
    · obtain rfl : j = 1 := by omega
      simp only [beq_iff_eq]; omega
    · simp only [rr, Nat.zero_add]; omega
  · have e : lng (bs.getD 0 0).toNat = (3, (bs.getD 0 0).toNat - 224) := by unfold lng; rw [if_neg (by omega), if_neg (by omega), if_pos (by omega)]
    rw [e]
    refine ⟨rfl, fun j _ _ => ?_, ?_⟩
    · have : j = 1 ∨ j = 2 := by omega
      rcases this with rfl | rfl <;> simp only [beq_iff_eq] <;> omega
    · simp only [rr, Nat.zero_add, Nat.reduceAdd]; omega
  · have e : lng (bs.getD 0 0).toNat = (4, (bs.getD 0 0).toNat - 240) := by unfold lng; rw [if_neg (by omega), if_neg (by omega), if_neg (by omega), if_pos (by omega)]
    rw [e]
    refine ⟨rfl, fun j _ _ => ?_, ?_⟩
    · have : j = 1 ∨ j = 2 ∨ j = 3 := by omega
      rcases this with rfl | rfl | rfl <;> simp only [beq_iff_eq] <;> omega
    · simp only [rr, Nat.zero_add, Nat.reduceAdd]; omega
/-- Bytes that begin with those of a code point. -/
theorem enc_take {bs : List UInt8} {r : Int} {n : Nat} (h : okPt r = true) (he : enc r = bs.take n) (hn : n ≤ bs.length) : isBad bs = false ∧ dcd bs = (r.toNat, n) := by
  have hb : bs = enc r ++ bs.drop n := by rw [he, List.take_append_drop]
  have hl : (enc r).length = n := by rw [he, List.length_take]; omega
  have h1 := enc_not_bad h (bs.drop n)
  have h2 := dcd_enc h (bs.drop n)
  rw [← hb] at h1 h2
  rw [hl] at h2
  exact ⟨h1, h2⟩
/-- What the reference finds. -/
def fst1 (bs : List UInt8) : Int := if isBad bs then 0 else (dcd bs).1
def fst2 (bs : List UInt8) : Int := if isBad bs then 0 else (dcd bs).2
theorem run_str (bs : List UInt8) (j : Nat) (h : j < bs.length) (W : World) : (Instr.index 9 (.string (str bs)) (.int .i64 (j : Int))).run Tryd.prog W = .ok (.int .u8 (bs.getD j 0).toNat) W := by
  rw [run_index_string (P := Tryd.prog) (w := W) 9 (str bs) .i64 (j : Int) Tryd.underlying9, dif_pos (by rw [str_size]; omega)]
  simp [List.getD, h]
  rfl
end Go.Proofs.YtilkhamlhbbmgaaDoor
