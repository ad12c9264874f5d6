/- Words: they are turned, and read out of bytes. -/
import Derived.Test.YtnddejhbncgchaaDoorSha
import Derived.WalkKit
import Derived.ProofKit
import Derived.Deep.Slices
import Derived.Lib.SmallJoins
import Derived.WalkSpells
import Derived.WalkLawsBesides
import Derived.Handy
import Derived.Lib.Hide
import Derived.BigQuiet
namespace Go.Proofs.YtnddejhbncgchaaDoor
open Go.RowKit

theorem ret_int {k : IntKind} {a b : Int} (h : a = b) : Ending.returned (.int k a) = .returned (.int k b) := by rw [h]

theorem ror_l (x : (BitVec 32)) (n : Nat) : bits .or .u32 ((x.toNat : Int) * ((2 ^ (32 - n) : Nat) : Int) % 4294967296) ((x.toNat : Int) / ((2 ^ n : Nat) : Int)) = ((ror x n).toNat : Int) := by
  rw [← IntKind.wrap_u32', w_shl, w_shr, w_or, BitVec.or_comm]; rfl
theorem ror_r (x : (BitVec 32)) (n : Nat) : bits .or .u32 ((x.toNat : Int) / ((2 ^ n : Nat) : Int)) ((x.toNat : Int) * ((2 ^ (32 - n) : Nat) : Int) % 4294967296) = ((ror x n).toNat : Int) := by
  rw [← IntKind.wrap_u32', w_shl, w_shr, w_or]; rfl

theorem b32_shl (c : UInt8) (n : Nat) (h : n ≤ 24) : ((b32 c <<< n).toNat : Int) = (c.toNat : Int) * ((2 ^ n : Nat) : Int) := by
  have h1 := c.toNat_lt
  have h2 : 2 ^ n ≤ 2 ^ 24 := Nat.pow_le_pow_right (by omega) h
  have h3 : c.toNat * 2 ^ n ≤ 255 * 2 ^ 24 := Nat.mul_le_mul (by omega) h2
  rw [← w_shl, b32_toNat, IntKind.wrap_u32', ← Int.natCast_mul]
  omega
theorem or4 (A B C D : Int) (a b c d : (BitVec 32)) (h1 : A = (a.toNat : Int)) (h2 : B = (b.toNat : Int)) (h3 : C = (c.toNat : Int)) (h4 : D = (d.toNat : Int)) :
    bits .or .u32 (bits .or .u32 (bits .or .u32 A B) C) D = ((a ||| b ||| c ||| d).toNat : Int) := by
  rw [h1, h2, h3, h4, w_or, w_or, w_or]
theorem word_form (c0 c1 c2 c3 : UInt8) : bits .or .u32 (bits .or .u32 (bits .or .u32 ((c0.toNat : Int) * 16777216) ((c1.toNat : Int) * 65536)) ((c2.toNat : Int) * 256)) (c3.toNat : Int)
    = ((b32 c0 <<< 24 ||| b32 c1 <<< 16 ||| b32 c2 <<< 8 ||| b32 c3).toNat : Int) := by
  exact or4 _ _ _ _ _ _ _ _ (b32_shl c0 24 (by omega)).symm (b32_shl c1 16 (by omega)).symm (b32_shl c2 8 (by omega)).symm (b32_toNat c3).symm

set_option maxHeartbeats 400000 in
theorem rotl2 (x : (BitVec 32)) (w : World) : Calls Tryd.prog 56 #[.int .u32 x.toNat, .int .i64 (-2)] w fun e w' => e = .returned (.int .u32 (ror x 2).toNat) ∧ w' = w := by
  have hx := w_lt x
  have hs : bits .and .u64 (IntKind.u64.wrap (-2)) 31 = 30 := by decide
  go_enter Tryd.func56, Tryd.ntmps56
  go_wp2
  go_ret
  exact ⟨ret_int (ror_l x 2), rfl⟩
set_option maxHeartbeats 400000 in
theorem pror2 (x : (BitVec 32)) (w : World) : Calls Tryd.prog 48 #[.int .u32 x.toNat, .int .i64 2] w fun e w' => e = .returned (.int .u32 (ror x 2).toNat) ∧ w' = w := by
  have hc := Lib.hid (rotl2 x w)
  go_enter Tryd.func48, Tryd.ntmps48
  go_wp2_with fail
  refine hc.out.mono ?_
  rintro e w' ⟨rfl, rfl⟩
  go_wp2
  go_ret
  exact ⟨rfl, rfl⟩
set_option maxHeartbeats 400000 in
theorem rror2 (x : (BitVec 32)) (w : World) : Calls Tryd.prog 51 #[.int .u32 x.toNat, .int .i64 2] w fun e w' => e = .returned (.int .u32 (ror x 2).toNat) ∧ ∃ q, w' = w.drewN q := by
  have hx := w_lt x
  go_enter Tryd.func51, Tryd.ntmps51
  go_wp2
  go_quiet (fail)
  go_wp2
  go_ret
  exact ⟨ret_int (ror_r x 2), _, rfl⟩
set_option maxHeartbeats 400000 in
theorem rotl6 (x : (BitVec 32)) (w : World) : Calls Tryd.prog 56 #[.int .u32 x.toNat, .int .i64 (-6)] w fun e w' => e = .returned (.int .u32 (ror x 6).toNat) ∧ w' = w := by
  have hx := w_lt x
  have hs : bits .and .u64 (IntKind.u64.wrap (-6)) 31 = 26 := by decide
  go_enter Tryd.func56, Tryd.ntmps56
  go_wp2
  go_ret
  exact ⟨ret_int (ror_l x 6), rfl⟩
set_option maxHeartbeats 400000 in
theorem pror6 (x : (BitVec 32)) (w : World) : Calls Tryd.prog 48 #[.int .u32 x.toNat, .int .i64 6] w fun e w' => e = .returned (.int .u32 (ror x 6).toNat) ∧ w' = w := by
  have hc := Lib.hid (rotl6 x w)
  go_enter Tryd.func48, Tryd.ntmps48
  go_wp2_with fail
  refine hc.out.mono ?_
  rintro e w' ⟨rfl, rfl⟩
  go_wp2
  go_ret
  exact ⟨rfl, rfl⟩
set_option maxHeartbeats 400000 in
theorem rror6 (x : (BitVec 32)) (w : World) : Calls Tryd.prog 51 #[.int .u32 x.toNat, .int .i64 6] w fun e w' => e = .returned (.int .u32 (ror x 6).toNat) ∧ ∃ q, w' = w.drewN q := by
  have hx := w_lt x
  go_enter Tryd.func51, Tryd.ntmps51
  go_wp2
  go_quiet (fail)
  go_wp2
  go_ret
  exact ⟨ret_int (ror_r x 6), _, rfl⟩
set_option maxHeartbeats 400000 in
theorem rotl7 (x : (BitVec 32)) (w : World) : Calls Tryd.prog 56 #[.int .u32 x.toNat, .int .i64 (-7)] w fun e w' => e = .returned (.int .u32 (ror x 7).toNat) ∧ w' = w := by
  have hx := w_lt x
  have hs : bits .and .u64 (IntKind.u64.wrap (-7)) 31 = 25 := by decide
  go_enter Tryd.func56, Tryd.ntmps56
  go_wp2
  go_ret
  exact ⟨ret_int (ror_l x 7), rfl⟩
set_option maxHeartbeats 400000 in
theorem pror7 (x : (BitVec 32)) (w : World) : Calls Tryd.prog 48 #[.int .u32 x.toNat, .int .i64 7] w fun e w' => e = .returned (.int .u32 (ror x 7).toNat) ∧ w' = w := by
  have hc := Lib.hid (rotl7 x w)
  go_enter Tryd.func48, Tryd.ntmps48
  go_wp2_with fail
  refine hc.out.mono ?_
  rintro e w' ⟨rfl, rfl⟩
  go_wp2
  go_ret
  exact ⟨rfl, rfl⟩
set_option maxHeartbeats 400000 in
theorem rror7 (x : (BitVec 32)) (w : World) : Calls Tryd.prog 51 #[.int .u32 x.toNat, .int .i64 7] w fun e w' => e = .returned (.int .u32 (ror x 7).toNat) ∧ ∃ q, w' = w.drewN q := by
  have hx := w_lt x
  go_enter Tryd.func51, Tryd.ntmps51
  go_wp2
  go_quiet (fail)
  go_wp2
  go_ret
  exact ⟨ret_int (ror_r x 7), _, rfl⟩
set_option maxHeartbeats 400000 in
theorem rotl11 (x : (BitVec 32)) (w : World) : Calls Tryd.prog 56 #[.int .u32 x.toNat, .int .i64 (-11)] w fun e w' => e = .returned (.int .u32 (ror x 11).toNat) ∧ w' = w := by
  have hx := w_lt x
  have hs : bits .and .u64 (IntKind.u64.wrap (-11)) 31 = 21 := by decide
  go_enter Tryd.func56, Tryd.ntmps56
  go_wp2
  go_ret
  exact ⟨ret_int (ror_l x 11), rfl⟩
set_option maxHeartbeats 400000 in
theorem pror11 (x : (BitVec 32)) (w : World) : Calls Tryd.prog 48 #[.int .u32 x.toNat, .int .i64 11] w fun e w' => e = .returned (.int .u32 (ror x 11).toNat) ∧ w' = w := by
  have hc := Lib.hid (rotl11 x w)
  go_enter Tryd.func48, Tryd.ntmps48
  go_wp2_with fail
  refine hc.out.mono ?_
  rintro e w' ⟨rfl, rfl⟩
  go_wp2
  go_ret
  exact ⟨rfl, rfl⟩
set_option maxHeartbeats 400000 in
theorem rror11 (x : (BitVec 32)) (w : World) : Calls Tryd.prog 51 #[.int .u32 x.toNat, .int .i64 11] w fun e w' => e = .returned (.int .u32 (ror x 11).toNat) ∧ ∃ q, w' = w.drewN q := by
  have hx := w_lt x
  go_enter Tryd.func51, Tryd.ntmps51
  go_wp2
  go_quiet (fail)
  go_wp2
  go_ret
  exact ⟨ret_int (ror_r x 11), _, rfl⟩
set_option maxHeartbeats 400000 in
theorem rotl13 (x : (BitVec 32)) (w : World) : Calls Tryd.prog 56 #[.int .u32 x.toNat, .int .i64 (-13)] w fun e w' => e = .returned (.int .u32 (ror x 13).toNat) ∧ w' = w := by
  have hx := w_lt x
  have hs : bits .and .u64 (IntKind.u64.wrap (-13)) 31 = 19 := by decide
  go_enter Tryd.func56, Tryd.ntmps56
  go_wp2
  go_ret
  exact ⟨ret_int (ror_l x 13), rfl⟩
set_option maxHeartbeats 400000 in
theorem pror13 (x : (BitVec 32)) (w : World) : Calls Tryd.prog 48 #[.int .u32 x.toNat, .int .i64 13] w fun e w' => e = .returned (.int .u32 (ror x 13).toNat) ∧ w' = w := by
  have hc := Lib.hid (rotl13 x w)
  go_enter Tryd.func48, Tryd.ntmps48
  go_wp2_with fail
  refine hc.out.mono ?_
  rintro e w' ⟨rfl, rfl⟩
  go_wp2
  go_ret
  exact ⟨rfl, rfl⟩
set_option maxHeartbeats 400000 in
theorem rror13 (x : (BitVec 32)) (w : World) : Calls Tryd.prog 51 #[.int .u32 x.toNat, .int .i64 13] w fun e w' => e = .returned (.int .u32 (ror x 13).toNat) ∧ ∃ q, w' = w.drewN q := by
  have hx := w_lt x
  go_enter Tryd.func51, Tryd.ntmps51
  go_wp2
  go_quiet (fail)
  go_wp2
  go_ret
  exact ⟨ret_int (ror_r x 13), _, rfl⟩
set_option maxHeartbeats 400000 in
theorem rotl17 (x : (BitVec 32)) (w : World) : Calls Tryd.prog 56 #[.int .u32 x.toNat, .int .i64 (-17)] w fun e w' => e = .returned (.int .u32 (ror x 17).toNat) ∧ w' = w := by
  have hx := w_lt x
  have hs : bits .and .u64 (IntKind.u64.wrap (-17)) 31 = 15 := by decide
  go_enter Tryd.func56, Tryd.ntmps56
  go_wp2
  go_ret
  exact ⟨ret_int (ror_l x 17), rfl⟩
set_option maxHeartbeats 400000 in
theorem pror17 (x : (BitVec 32)) (w : World) : Calls Tryd.prog 48 #[.int .u32 x.toNat, .int .i64 17] w fun e w' => e = .returned (.int .u32 (ror x 17).toNat) ∧ w' = w := by
  have hc := Lib.hid (rotl17 x w)
  go_enter Tryd.func48, Tryd.ntmps48
  go_wp2_with fail
  refine hc.out.mono ?_
  rintro e w' ⟨rfl, rfl⟩
  go_wp2
  go_ret
  exact ⟨rfl, rfl⟩
set_option maxHeartbeats 400000 in
theorem rror17 (x : (BitVec 32)) (w : World) : Calls Tryd.prog 51 #[.int .u32 x.toNat, .int .i64 17] w fun e w' => e = .returned (.int .u32 (ror x 17).toNat) ∧ ∃ q, w' = w.drewN q := by
  have hx := w_lt x
  go_enter Tryd.func51, Tryd.ntmps51
  go_wp2
  go_quiet (fail)
  go_wp2
  go_ret
  exact ⟨ret_int (ror_r x 17), _, rfl⟩
set_option maxHeartbeats 400000 in
theorem rotl18 (x : (BitVec 32)) (w : World) : Calls Tryd.prog 56 #[.int .u32 x.toNat, .int .i64 (-18)] w fun e w' => e = .returned (.int .u32 (ror x 18).toNat) ∧ w' = w := by
  have hx := w_lt x
  have hs : bits .and .u64 (IntKind.u64.wrap (-18)) 31 = 14 := by decide
  go_enter Tryd.func56, Tryd.ntmps56
  go_wp2
  go_ret
  exact ⟨ret_int (ror_l x 18), rfl⟩
set_option maxHeartbeats 400000 in
theorem pror18 (x : (BitVec 32)) (w : World) : Calls Tryd.prog 48 #[.int .u32 x.toNat, .int .i64 18] w fun e w' => e = .returned (.int .u32 (ror x 18).toNat) ∧ w' = w := by
  have hc := Lib.hid (rotl18 x w)
  go_enter Tryd.func48, Tryd.ntmps48
  go_wp2_with fail
  refine hc.out.mono ?_
  rintro e w' ⟨rfl, rfl⟩
  go_wp2
  go_ret
  exact ⟨rfl, rfl⟩
set_option maxHeartbeats 400000 in
theorem rror18 (x : (BitVec 32)) (w : World) : Calls Tryd.prog 51 #[.int .u32 x.toNat, .int .i64 18] w fun e w' => e = .returned (.int .u32 (ror x 18).toNat) ∧ ∃ q, w' = w.drewN q := by
  have hx := w_lt x
  go_enter Tryd.func51, Tryd.ntmps51
  go_wp2
  go_quiet (fail)
  go_wp2
  go_ret
  exact ⟨ret_int (ror_r x 18), _, rfl⟩
set_option maxHeartbeats 400000 in
theorem rotl19 (x : (BitVec 32)) (w : World) : Calls Tryd.prog 56 #[.int .u32 x.toNat, .int .i64 (-19)] w fun e w' => e = .returned (.int .u32 (ror x 19).toNat) ∧ w' = w := by
  have hx := w_lt x
  have hs : bits .and .u64 (IntKind.u64.wrap (-19)) 31 = 13 := by decide
  go_enter Tryd.func56, Tryd.ntmps56
  go_wp2
  go_ret
  exact ⟨ret_int (ror_l x 19), rfl⟩
set_option maxHeartbeats 400000 in
theorem pror19 (x : (BitVec 32)) (w : World) : Calls Tryd.prog 48 #[.int .u32 x.toNat, .int .i64 19] w fun e w' => e = .returned (.int .u32 (ror x 19).toNat) ∧ w' = w := by
  have hc := Lib.hid (rotl19 x w)
  go_enter Tryd.func48, Tryd.ntmps48
  go_wp2_with fail
  refine hc.out.mono ?_
  rintro e w' ⟨rfl, rfl⟩
  go_wp2
  go_ret
  exact ⟨rfl, rfl⟩
set_option maxHeartbeats 400000 in
theorem rror19 (x : (BitVec 32)) (w : World) : Calls Tryd.prog 51 #[.int .u32 x.toNat, .int .i64 19] w fun e w' => e = .returned (.int .u32 (ror x 19).toNat) ∧ ∃ q, w' = w.drewN q := by
  have hx := w_lt x
  go_enter Tryd.func51, Tryd.ntmps51
  go_wp2
  go_quiet (fail)
  go_wp2
  go_ret
  exact ⟨ret_int (ror_r x 19), _, rfl⟩
set_option maxHeartbeats 400000 in
theorem rotl22 (x : (BitVec 32)) (w : World) : Calls Tryd.prog 56 #[.int .u32 x.toNat, .int .i64 (-22)] w fun e w' => e = .returned (.int .u32 (ror x 22).toNat) ∧ w' = w := by
  have hx := w_lt x
  have hs : bits .and .u64 (IntKind.u64.wrap (-22)) 31 = 10 := by decide
  go_enter Tryd.func56, Tryd.ntmps56
  go_wp2
  go_ret
  exact ⟨ret_int (ror_l x 22), rfl⟩
set_option maxHeartbeats 400000 in
theorem pror22 (x : (BitVec 32)) (w : World) : Calls Tryd.prog 48 #[.int .u32 x.toNat, .int .i64 22] w fun e w' => e = .returned (.int .u32 (ror x 22).toNat) ∧ w' = w := by
  have hc := Lib.hid (rotl22 x w)
  go_enter Tryd.func48, Tryd.ntmps48
  go_wp2_with fail
  refine hc.out.mono ?_
  rintro e w' ⟨rfl, rfl⟩
  go_wp2
  go_ret
  exact ⟨rfl, rfl⟩
set_option maxHeartbeats 400000 in
theorem rror22 (x : (BitVec 32)) (w : World) : Calls Tryd.prog 51 #[.int .u32 x.toNat, .int .i64 22] w fun e w' => e = .returned (.int .u32 (ror x 22).toNat) ∧ ∃ q, w' = w.drewN q := by
  have hx := w_lt x
  go_enter Tryd.func51, Tryd.ntmps51
  go_wp2
  go_quiet (fail)
  go_wp2
  go_ret
  exact ⟨ret_int (ror_r x 22), _, rfl⟩
set_option maxHeartbeats 400000 in
theorem rotl25 (x : (BitVec 32)) (w : World) : Calls Tryd.prog 56 #[.int .u32 x.toNat, .int .i64 (-25)] w fun e w' => e = .returned (.int .u32 (ror x 25).toNat) ∧ w' = w := by
  have hx := w_lt x
  have hs : bits .and .u64 (IntKind.u64.wrap (-25)) 31 = 7 := by decide
  go_enter Tryd.func56, Tryd.ntmps56
  go_wp2
  go_ret
  exact ⟨ret_int (ror_l x 25), rfl⟩
set_option maxHeartbeats 400000 in
theorem pror25 (x : (BitVec 32)) (w : World) : Calls Tryd.prog 48 #[.int .u32 x.toNat, .int .i64 25] w fun e w' => e = .returned (.int .u32 (ror x 25).toNat) ∧ w' = w := by
  have hc := Lib.hid (rotl25 x w)
  go_enter Tryd.func48, Tryd.ntmps48
  go_wp2_with fail
  refine hc.out.mono ?_
  rintro e w' ⟨rfl, rfl⟩
  go_wp2
  go_ret
  exact ⟨rfl, rfl⟩
set_option maxHeartbeats 400000 in
theorem rror25 (x : (BitVec 32)) (w : World) : Calls Tryd.prog 51 #[.int .u32 x.toNat, .int .i64 25] w fun e w' => e = .returned (.int .u32 (ror x 25).toNat) ∧ ∃ q, w' = w.drewN q := by
  have hx := w_lt x
  go_enter Tryd.func51, Tryd.ntmps51
  go_wp2
  go_quiet (fail)
  go_wp2
  go_ret
  exact ⟨ret_int (ror_r x 25), _, rfl⟩

set_option maxHeartbeats 1000000 in
theorem word50 (db o len cap : Nat) (c0 c1 c2 c3 : UInt8) (w : World) (hl : 4 ≤ len) (h0 : w.cell? ⟨db, o, none⟩ = some (.int .u8 c0.toNat)) (h1 : w.cell? ⟨db, o + 1, none⟩ = some (.int .u8 c1.toNat))
    (h2 : w.cell? ⟨db, o + 2, none⟩ = some (.int .u8 c2.toNat)) (h3 : w.cell? ⟨db, o + 3, none⟩ = some (.int .u8 c3.toNat)) :
    Calls Tryd.prog 50 #[.slice (some ⟨db, o, none⟩) len cap] w fun e w' => e = .returned (.int .u32 (b32 c0 <<< 24 ||| b32 c1 <<< 16 ||| b32 c2 <<< 8 ||| b32 c3).toNat) ∧ ∃ q, w' = w.drewN q := by
  have i0 : decide ((0 : Int) < (len : Int)) = true := by simp; omega
  have i1 : decide ((1 : Int) < (len : Int)) = true := by simp; omega
  have i2 : decide ((2 : Int) < (len : Int)) = true := by simp; omega
  have i3 : decide ((3 : Int) < (len : Int)) = true := by simp; omega
  have j0 : (0 : Int) < (len : Int) := by omega
  have j1 : (1 : Int) < (len : Int) := by omega
  have j2 : (2 : Int) < (len : Int) := by omega
  have j3 : (3 : Int) < (len : Int) := by omega
  have t0 := c0.toNat_lt
  have t1 := c1.toNat_lt
  have t2 := c2.toNat_lt
  have t3 := c3.toNat_lt
  go_enter Tryd.func50, Tryd.ntmps50
  go_wp2
  go_quiet (fail)
  go_wp2
  go_ret
  exact ⟨ret_int (word_form c0 c1 c2 c3), _, rfl⟩

set_option maxHeartbeats 1000000 in
theorem word55 (db o len cap : Nat) (c0 c1 c2 c3 : UInt8) (w : World) (hl : 4 ≤ len) (h0 : w.cell? ⟨db, o, none⟩ = some (.int .u8 c0.toNat)) (h1 : w.cell? ⟨db, o + 1, none⟩ = some (.int .u8 c1.toNat))
    (h2 : w.cell? ⟨db, o + 2, none⟩ = some (.int .u8 c2.toNat)) (h3 : w.cell? ⟨db, o + 3, none⟩ = some (.int .u8 c3.toNat)) :
    Calls Tryd.prog 55 #[.slice (some ⟨db, o, none⟩) len cap] w fun e w' => e = .returned (.int .u32 (b32 c0 <<< 24 ||| b32 c1 <<< 16 ||| b32 c2 <<< 8 ||| b32 c3).toNat) ∧ ∃ q, w' = w.drewN q := by
  have i0 : decide ((0 : Int) < (len : Int)) = true := by simp; omega
  have i1 : decide ((1 : Int) < (len : Int)) = true := by simp; omega
  have i2 : decide ((2 : Int) < (len : Int)) = true := by simp; omega
  have i3 : decide ((3 : Int) < (len : Int)) = true := by simp; omega
  have j0 : (0 : Int) < (len : Int) := by omega
  have j1 : (1 : Int) < (len : Int) := by omega
  have j2 : (2 : Int) < (len : Int) := by omega
  have j3 : (3 : Int) < (len : Int) := by omega
  have t0 := c0.toNat_lt
  have t1 := c1.toNat_lt
  have t2 := c2.toNat_lt
  have t3 := c3.toNat_lt
  go_enter Tryd.func55, Tryd.ntmps55
  go_wp2
  go_quiet (fail)
  go_wp2
  go_ret
  exact ⟨ret_int (word_form c0 c1 c2 c3), _, rfl⟩
end Go.Proofs.YtnddejhbncgchaaDoor
