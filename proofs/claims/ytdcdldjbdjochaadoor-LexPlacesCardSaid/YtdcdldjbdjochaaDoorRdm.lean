/- The reference's Decimal. -/
import Derived.Test.YtdcdldjbdjochaaDoorRcl
import Derived.Lib.ItoaLen
import Derived.Lib.ConvBytes
import Derived.Lib.SlBytesRow
namespace Go.Proofs.YtdcdldjbdjochaaDoor
open Go.RowKit

theorem conv_row (W : World) (a : Option Addr) (bs : List UInt8) (cap : Nat) (h : bs = [] ∨ ∃ b off, a = some ⟨b, off, none⟩ ∧ ∀ i (h : i < bs.length), W.cell? ⟨b, off + i, none⟩ = some (.int .u8 (bs[i]).toNat)) :
    (convert 38 9 (.slice a bs.length cap)).run Tryd.prog W = .ok (.string (str bs)) W := by
  rcases h with h | ⟨b, off, rfl, h⟩
  · subst h
    rw [run_convert_bytes_string W 38 9 5 a _ _ Tryd.underlying38 Tryd.underlying5 Tryd.underlying9]
    cases a <;> simp [Conv.bytesToString, loadCells, loadCellsFrom] <;> rfl
  · have := Lib.run_convert_whole (P := Tryd.prog) W 38 5 9 Tryd.underlying38 Tryd.underlying5 Tryd.underlying9 b off ⟨bs.toArray⟩ (fun i hi => by have : i < (str bs).size := hi; rw [str_size] at this; exact h i this) cap
    have e : (⟨bs.toArray⟩ : ByteArray).size = bs.length := str_size bs
    rw [e] at this
    exact this
/-- A string of one byte that is made in a new row. -/
theorem conv_one (W : World) (d : Nat) (hd : d < 256) : (convert 38 9 (.slice (some ⟨W.heap.size, 0, none⟩) 1 1)).run Tryd.prog (W.alloc (.cells #[.int .u8 d] 5)) = .ok (.string (str [UInt8.ofNat d])) (W.alloc (.cells #[.int .u8 d] 5)) := by
  have e : (UInt8.ofNat d).toNat = d := by rw [UInt8.toNat_ofNat']; omega
  refine conv_row _ _ [UInt8.ofNat d] 1 (.inr ⟨_, 0, rfl, fun i hi => ?_⟩)
  obtain rfl : i = 0 := by simp at hi; exact hi
  rw [World.cell?_alloc_new]
  simp [e]
theorem str_add (a b : List UInt8) : str a ++ str b = str (a ++ b) := by
  apply ByteArray.ext
  simp [str]

/-- What is still to be written ahead of a number's last digit. -/
def hi10 (u : Nat) : List UInt8 := if u < 10 then [] else Lib.decDigits (u / 10)
theorem dec_hi (u : Nat) : Lib.decDigits u = hi10 u ++ [UInt8.ofNat (48 + u % 10)] := by
  unfold hi10
  rw [Lib.decDigits]
  by_cases h : u < 10
  · rw [dif_pos h, if_pos h, Nat.mod_eq_of_lt h]; rfl
  · rw [dif_neg h, if_neg h]

/-- One digit of a number: the facts that a walk wants. -/
structure Digit (n : Int) (d : Nat) : Prop where
  rem : n.tmod 10 = (d : Int)
  lt : d < 10
  conv : ∀ W : World, (convert 38 9 (.slice (some ⟨W.heap.size, 0, none⟩) 1 1)).run Tryd.prog (W.alloc (.cells #[.int .u8 (48 + (d : Int))] 5)) = .ok (.string (str [UInt8.ofNat (48 + d)])) (W.alloc (.cells #[.int .u8 (48 + (d : Int))] 5))
theorem digit_of (u : Nat) : Digit (u : Int) (u % 10) := by
  refine ⟨by rw [Int.tmod_eq_emod_of_nonneg (by omega)]; omega, by omega, fun W => ?_⟩
  have := conv_one W (48 + u % 10) (by omega)
  have e : ((48 + u % 10 : Nat) : Int) = 48 + ((u % 10 : Nat) : Int) := by omega
  rw [e] at this
  exact this

set_option maxRecDepth 100000 in
set_option maxHeartbeats 1000000 in
theorem rdec_any (w : World) (u : Nat) (hu : u < 9223372036854775808) : Calls Tryd.prog 34 #[.int .i64 (u : Nat)] w fun e w' => e = .returned (.string (str (Lib.decDigits u))) ∧ Below w.heap.size w w' := by
  obtain ⟨r1, hd10, hcv⟩ := digit_of u
  have hst : hi10 u ++ [UInt8.ofNat (48 + u % 10)] = Lib.decDigits u := (dec_hi u).symm
  have hlen : (Lib.decDigits u).length ≤ 21 := by
    have := Lib.itoa_length_le (u : Int) (by omega) (by omega)
    rw [Lib.itoa_nonneg] at this
    omega
  obtain ⟨res, hres⟩ : ∃ res, Lib.decDigits u = res := ⟨_, rfl⟩
  rw [hres] at hst hlen ⊢
  obtain ⟨d, hd⟩ : ∃ d, u % 10 = d := ⟨_, rfl⟩
  rw [hd] at r1 hd10 hcv hst
  obtain ⟨D, hD⟩ : ∃ D, str [UInt8.ofNat (48 + d)] = D := ⟨_, rfl⟩
  rw [hD] at hcv
  obtain ⟨N, hN⟩ : ∃ N : Int, (u : Int) = N := ⟨_, rfl⟩
  rw [hN] at r1 ⊢
  have HST : Hid (∃ (x : Nat) (q : List UInt8), N = (x : Int) ∧ x ≤ u ∧ D = str q ∧ hi10 x ++ q = res) := Lib.hid ⟨u, _, hN.symm, by omega, hD.symm, hst⟩
  clear hd hN hres hD hst
  go_enter Tryd.func34, Tryd.ntmps34
  go_wp2_with fail
  go_loopw [0, 3] (fun n s wr => ∃ (x : Nat) (q : List UInt8), n = .int .i64 x ∧ x ≤ u ∧ s = .string (str q) ∧ hi10 x ++ q = res ∧ Below w.heap.size w wr) (fun n _ _ => (intOf n).toNat)
  case atStart =>
    obtain ⟨x, q, rfl, hx, rfl, he⟩ := HST.out
    exact ⟨x, q, rfl, hx, rfl, he, (Below.refl _ _).alloc (Nat.le_refl _) _⟩
  case round =>
    clear r1 hcv hd10 HST
    obtain ⟨x, q, rfl, hx, rfl, he, hb⟩ := hrel
    by_cases hlt : 10 ≤ x
    · have d1 : decide ((10 : Int) ≤ (x : Int)) = true := by simp; omega
      obtain ⟨y, hy⟩ : ∃ y, x / 10 = y := ⟨_, rfl⟩
      have qy : (x : Int).tdiv 10 = (y : Int) := by rw [Int.tdiv_eq_ediv_of_nonneg (by omega)]; omega
      obtain ⟨r1, hd10, hcv⟩ := digit_of y
      have he2 : hi10 y ++ ([UInt8.ofNat (48 + y % 10)] ++ q) = res := by
        rw [← he, ← List.append_assoc, ← dec_hi y]
        unfold hi10
        rw [if_neg (by omega : ¬ x < 10), hy]
      have hss : (str [UInt8.ofNat (48 + y % 10)]).size + (str q).size ≤ 9223372036854775807 := by
        rw [str_size, str_size]
        have := congrArg List.length he
        rw [List.length_append] at this
        simp
        omega
      have hsa := str_add [UInt8.ofNat (48 + y % 10)] q
      obtain ⟨d, hd⟩ : ∃ d, y % 10 = d := ⟨_, rfl⟩
      rw [hd] at r1 hd10 hcv he2 hsa hss
      obtain ⟨D, hD⟩ : ∃ D, str [UInt8.ofNat (48 + d)] = D := ⟨_, rfl⟩
      rw [hD] at hcv hsa hss
      have hyx : y < x := by omega
      have HE := Lib.hid he2
      have HB := Lib.hid hb
      have HSA := Lib.hid hsa
      clear hd hD he he2 hb hsa hy
      go_wp2_with fail
      refine ⟨⟨y, _, rfl, by omega, by rw [HSA.out], HE.out, HB.out.alloc (HB.out.size) _⟩, ?_⟩
      simp [intOf]; omega
    · have d1 : decide ((10 : Int) ≤ (x : Int)) = false := by simp; omega
      have he2 : q = res := by
        rw [← he]; unfold hi10; rw [if_pos (by omega)]; rfl
      subst he2
      have HB := Lib.hid hb
      clear hb he
      go_wp2
      go_ret
      exact ⟨rfl, HB.out⟩
end Go.Proofs.YtdcdldjbdjochaaDoor
