/- The reference's kinds; what divides words. -/
import Derived.Test.YtilkhamlhbbmgaaDoorKnk
namespace Go.Proofs.YtilkhamlhbbmgaaDoor
open Go.RowKit

set_option maxHeartbeats 1000000 in
theorem rkind_0 (w : World) (r : Int) (hp : okPt r = true) (h2 : r ≤ 47) (hs : isSp r = false) : Calls Tryd.prog 23 #[.int .i64 r] w fun e w' => e = .returned (.tuple #[.int .i64 0, .int .i64 0]) ∧ w' = w := by
  have hs2 : ¬ (r = 9 ∨ r = 10 ∨ r = 13 ∨ r = 32) := by unfold isSp at hs; simpa using hs
  have e9 : (r == 9) = false := by simp; omega
  have e10 : (r == 10) = false := by simp; omega
  have e13 : (r == 13) = false := by simp; omega
  have e32 : (r == 32) = false := by simp; omega
  have g48 : decide (48 ≤ r) = false := by simp; omega
  have g65 : decide (65 ≤ r) = false := by simp; omega
  have g97 : decide (97 ≤ r) = false := by simp; omega
  have g192 : decide (192 ≤ r) = false := by simp; omega
  have g880 : decide (880 ≤ r) = false := by simp; omega
  have g1424 : decide (1424 ≤ r) = false := by simp; omega
  have l57 : decide (r ≤ 57) = true := by simp; omega
  have l90 : decide (r ≤ 90) = true := by simp; omega
  have l122 : decide (r ≤ 122) = true := by simp; omega
  have l591 : decide (r ≤ 591) = true := by simp; omega
  have l1279 : decide (r ≤ 1279) = true := by simp; omega
  have l1983 : decide (r ≤ 1983) = true := by simp; omega
  have n215 : (r != 215) = true := by simp; omega
  have n247 : (r != 247) = true := by simp; omega
  have HP := Lib.hid hp
  clear hp h2 hs hs2
  go_enter Tryd.func23, Tryd.ntmps23
  go_wp2_with (go_at_call 46; refine (point_any _ _).mono ?_; rintro e w' ⟨rfl, rfl⟩; rw [HP.out])
  go_ret2
  exact ⟨rfl, rfl⟩
set_option maxHeartbeats 1000000 in
theorem rkind_1 (w : World) (r : Int) (hp : okPt r = true) (h1 : 48 ≤ r) (h2 : r ≤ 57) : Calls Tryd.prog 23 #[.int .i64 r] w fun e w' => e = .returned (.tuple #[.int .i64 2, .int .i64 0]) ∧ w' = w := by
  have e9 : (r == 9) = false := by simp; omega
  have e10 : (r == 10) = false := by simp; omega
  have e13 : (r == 13) = false := by simp; omega
  have e32 : (r == 32) = false := by simp; omega
  have g48 : decide (48 ≤ r) = true := by simp; omega
  have g65 : decide (65 ≤ r) = false := by simp; omega
  have g97 : decide (97 ≤ r) = false := by simp; omega
  have g192 : decide (192 ≤ r) = false := by simp; omega
  have g880 : decide (880 ≤ r) = false := by simp; omega
  have g1424 : decide (1424 ≤ r) = false := by simp; omega
  have l57 : decide (r ≤ 57) = true := by simp; omega
  have l90 : decide (r ≤ 90) = true := by simp; omega
  have l122 : decide (r ≤ 122) = true := by simp; omega
  have l591 : decide (r ≤ 591) = true := by simp; omega
  have l1279 : decide (r ≤ 1279) = true := by simp; omega
  have l1983 : decide (r ≤ 1983) = true := by simp; omega
  have n215 : (r != 215) = true := by simp; omega
  have n247 : (r != 247) = true := by simp; omega
  have HP := Lib.hid hp
  clear hp h1 h2
  go_enter Tryd.func23, Tryd.ntmps23
  go_wp2_with (go_at_call 46; refine (point_any _ _).mono ?_; rintro e w' ⟨rfl, rfl⟩; rw [HP.out])
  go_ret2
  exact ⟨rfl, rfl⟩
set_option maxHeartbeats 1000000 in
theorem rkind_2 (w : World) (r : Int) (hp : okPt r = true) (h1 : 58 ≤ r) (h2 : r ≤ 64) : Calls Tryd.prog 23 #[.int .i64 r] w fun e w' => e = .returned (.tuple #[.int .i64 0, .int .i64 0]) ∧ w' = w := by
  have e9 : (r == 9) = false := by simp; omega
  have e10 : (r == 10) = false := by simp; omega
  have e13 : (r == 13) = false := by simp; omega
  have e32 : (r == 32) = false := by simp; omega
  have g48 : decide (48 ≤ r) = true := by simp; omega
  have g65 : decide (65 ≤ r) = false := by simp; omega
  have g97 : decide (97 ≤ r) = false := by simp; omega
  have g192 : decide (192 ≤ r) = false := by simp; omega
  have g880 : decide (880 ≤ r) = false := by simp; omega
  have g1424 : decide (1424 ≤ r) = false := by simp; omega
  have l57 : decide (r ≤ 57) = false := by simp; omega
  have l90 : decide (r ≤ 90) = true := by simp; omega
  have l122 : decide (r ≤ 122) = true := by simp; omega
  have l591 : decide (r ≤ 591) = true := by simp; omega
  have l1279 : decide (r ≤ 1279) = true := by simp; omega
  have l1983 : decide (r ≤ 1983) = true := by simp; omega
  have n215 : (r != 215) = true := by simp; omega
  have n247 : (r != 247) = true := by simp; omega
  have HP := Lib.hid hp
  clear hp h1 h2
  go_enter Tryd.func23, Tryd.ntmps23
  go_wp2_with (go_at_call 46; refine (point_any _ _).mono ?_; rintro e w' ⟨rfl, rfl⟩; rw [HP.out])
  go_ret2
  exact ⟨rfl, rfl⟩
set_option maxHeartbeats 1000000 in
theorem rkind_3 (w : World) (r : Int) (hp : okPt r = true) (h1 : 65 ≤ r) (h2 : r ≤ 90) : Calls Tryd.prog 23 #[.int .i64 r] w fun e w' => e = .returned (.tuple #[.int .i64 3, .int .i64 0]) ∧ w' = w := by
  have e9 : (r == 9) = false := by simp; omega
  have e10 : (r == 10) = false := by simp; omega
  have e13 : (r == 13) = false := by simp; omega
  have e32 : (r == 32) = false := by simp; omega
  have g48 : decide (48 ≤ r) = true := by simp; omega
  have g65 : decide (65 ≤ r) = true := by simp; omega
  have g97 : decide (97 ≤ r) = false := by simp; omega
  have g192 : decide (192 ≤ r) = false := by simp; omega
  have g880 : decide (880 ≤ r) = false := by simp; omega
  have g1424 : decide (1424 ≤ r) = false := by simp; omega
  have l57 : decide (r ≤ 57) = false := by simp; omega
  have l90 : decide (r ≤ 90) = true := by simp; omega
  have l122 : decide (r ≤ 122) = true := by simp; omega
  have l591 : decide (r ≤ 591) = true := by simp; omega
  have l1279 : decide (r ≤ 1279) = true := by simp; omega
  have l1983 : decide (r ≤ 1983) = true := by simp; omega
  have n215 : (r != 215) = true := by simp; omega
  have n247 : (r != 247) = true := by simp; omega
  have HP := Lib.hid hp
  clear hp h1 h2
  go_enter Tryd.func23, Tryd.ntmps23
  go_wp2_with (go_at_call 46; refine (point_any _ _).mono ?_; rintro e w' ⟨rfl, rfl⟩; rw [HP.out])
  go_ret2
  exact ⟨rfl, rfl⟩
set_option maxHeartbeats 1000000 in
theorem rkind_4 (w : World) (r : Int) (hp : okPt r = true) (h1 : 91 ≤ r) (h2 : r ≤ 96) : Calls Tryd.prog 23 #[.int .i64 r] w fun e w' => e = .returned (.tuple #[.int .i64 0, .int .i64 0]) ∧ w' = w := by
  have e9 : (r == 9) = false := by simp; omega
  have e10 : (r == 10) = false := by simp; omega
  have e13 : (r == 13) = false := by simp; omega
  have e32 : (r == 32) = false := by simp; omega
  have g48 : decide (48 ≤ r) = true := by simp; omega
  have g65 : decide (65 ≤ r) = true := by simp; omega
  have g97 : decide (97 ≤ r) = false := by simp; omega
  have g192 : decide (192 ≤ r) = false := by simp; omega
  have g880 : decide (880 ≤ r) = false := by simp; omega
  have g1424 : decide (1424 ≤ r) = false := by simp; omega
  have l57 : decide (r ≤ 57) = false := by simp; omega
  have l90 : decide (r ≤ 90) = false := by simp; omega
  have l122 : decide (r ≤ 122) = true := by simp; omega
  have l591 : decide (r ≤ 591) = true := by simp; omega
  have l1279 : decide (r ≤ 1279) = true := by simp; omega
  have l1983 : decide (r ≤ 1983) = true := by simp; omega
  have n215 : (r != 215) = true := by simp; omega
  have n247 : (r != 247) = true := by simp; omega
  have HP := Lib.hid hp
  clear hp h1 h2
  go_enter Tryd.func23, Tryd.ntmps23
  go_wp2_with (go_at_call 46; refine (point_any _ _).mono ?_; rintro e w' ⟨rfl, rfl⟩; rw [HP.out])
  go_ret2
  exact ⟨rfl, rfl⟩
set_option maxHeartbeats 1000000 in
theorem rkind_5 (w : World) (r : Int) (hp : okPt r = true) (h1 : 97 ≤ r) (h2 : r ≤ 122) : Calls Tryd.prog 23 #[.int .i64 r] w fun e w' => e = .returned (.tuple #[.int .i64 3, .int .i64 0]) ∧ w' = w := by
  have e9 : (r == 9) = false := by simp; omega
  have e10 : (r == 10) = false := by simp; omega
  have e13 : (r == 13) = false := by simp; omega
  have e32 : (r == 32) = false := by simp; omega
  have g48 : decide (48 ≤ r) = true := by simp; omega
  have g65 : decide (65 ≤ r) = true := by simp; omega
  have g97 : decide (97 ≤ r) = true := by simp; omega
  have g192 : decide (192 ≤ r) = false := by simp; omega
  have g880 : decide (880 ≤ r) = false := by simp; omega
  have g1424 : decide (1424 ≤ r) = false := by simp; omega
  have l57 : decide (r ≤ 57) = false := by simp; omega
  have l90 : decide (r ≤ 90) = false := by simp; omega
  have l122 : decide (r ≤ 122) = true := by simp; omega
  have l591 : decide (r ≤ 591) = true := by simp; omega
  have l1279 : decide (r ≤ 1279) = true := by simp; omega
  have l1983 : decide (r ≤ 1983) = true := by simp; omega
  have n215 : (r != 215) = true := by simp; omega
  have n247 : (r != 247) = true := by simp; omega
  have HP := Lib.hid hp
  clear hp h1 h2
  go_enter Tryd.func23, Tryd.ntmps23
  go_wp2_with (go_at_call 46; refine (point_any _ _).mono ?_; rintro e w' ⟨rfl, rfl⟩; rw [HP.out])
  go_ret2
  exact ⟨rfl, rfl⟩
set_option maxHeartbeats 1000000 in
theorem rkind_6 (w : World) (r : Int) (hp : okPt r = true) (h1 : 123 ≤ r) (h2 : r ≤ 191) : Calls Tryd.prog 23 #[.int .i64 r] w fun e w' => e = .returned (.tuple #[.int .i64 0, .int .i64 0]) ∧ w' = w := by
  have e9 : (r == 9) = false := by simp; omega
  have e10 : (r == 10) = false := by simp; omega
  have e13 : (r == 13) = false := by simp; omega
  have e32 : (r == 32) = false := by simp; omega
  have g48 : decide (48 ≤ r) = true := by simp; omega
  have g65 : decide (65 ≤ r) = true := by simp; omega
  have g97 : decide (97 ≤ r) = true := by simp; omega
  have g192 : decide (192 ≤ r) = false := by simp; omega
  have g880 : decide (880 ≤ r) = false := by simp; omega
  have g1424 : decide (1424 ≤ r) = false := by simp; omega
  have l57 : decide (r ≤ 57) = false := by simp; omega
  have l90 : decide (r ≤ 90) = false := by simp; omega
  have l122 : decide (r ≤ 122) = false := by simp; omega
  have l591 : decide (r ≤ 591) = true := by simp; omega
  have l1279 : decide (r ≤ 1279) = true := by simp; omega
  have l1983 : decide (r ≤ 1983) = true := by simp; omega
  have n215 : (r != 215) = true := by simp; omega
  have n247 : (r != 247) = true := by simp; omega
  have HP := Lib.hid hp
  clear hp h1 h2
  go_enter Tryd.func23, Tryd.ntmps23
  go_wp2_with (go_at_call 46; refine (point_any _ _).mono ?_; rintro e w' ⟨rfl, rfl⟩; rw [HP.out])
  go_ret2
  exact ⟨rfl, rfl⟩
set_option maxHeartbeats 1000000 in
theorem rkind_7 (w : World) (r : Int) (hp : okPt r = true) (h1 : 192 ≤ r) (h2 : r ≤ 214) : Calls Tryd.prog 23 #[.int .i64 r] w fun e w' => e = .returned (.tuple #[.int .i64 3, .int .i64 0]) ∧ w' = w := by
  have e9 : (r == 9) = false := by simp; omega
  have e10 : (r == 10) = false := by simp; omega
  have e13 : (r == 13) = false := by simp; omega
  have e32 : (r == 32) = false := by simp; omega
  have g48 : decide (48 ≤ r) = true := by simp; omega
  have g65 : decide (65 ≤ r) = true := by simp; omega
  have g97 : decide (97 ≤ r) = true := by simp; omega
  have g192 : decide (192 ≤ r) = true := by simp; omega
  have g880 : decide (880 ≤ r) = false := by simp; omega
  have g1424 : decide (1424 ≤ r) = false := by simp; omega
  have l57 : decide (r ≤ 57) = false := by simp; omega
  have l90 : decide (r ≤ 90) = false := by simp; omega
  have l122 : decide (r ≤ 122) = false := by simp; omega
  have l591 : decide (r ≤ 591) = true := by simp; omega
  have l1279 : decide (r ≤ 1279) = true := by simp; omega
  have l1983 : decide (r ≤ 1983) = true := by simp; omega
  have n215 : (r != 215) = true := by simp; omega
  have n247 : (r != 247) = true := by simp; omega
  have HP := Lib.hid hp
  clear hp h1 h2
  go_enter Tryd.func23, Tryd.ntmps23
  go_wp2_with (go_at_call 46; refine (point_any _ _).mono ?_; rintro e w' ⟨rfl, rfl⟩; rw [HP.out])
  go_ret2
  exact ⟨rfl, rfl⟩
set_option maxHeartbeats 1000000 in
theorem rkind_8 (w : World) (r : Int) (hp : okPt r = true) (h1 : 215 ≤ r) (h2 : r ≤ 215) : Calls Tryd.prog 23 #[.int .i64 r] w fun e w' => e = .returned (.tuple #[.int .i64 0, .int .i64 0]) ∧ w' = w := by
  have e9 : (r == 9) = false := by simp; omega
  have e10 : (r == 10) = false := by simp; omega
  have e13 : (r == 13) = false := by simp; omega
  have e32 : (r == 32) = false := by simp; omega
  have g48 : decide (48 ≤ r) = true := by simp; omega
  have g65 : decide (65 ≤ r) = true := by simp; omega
  have g97 : decide (97 ≤ r) = true := by simp; omega
  have g192 : decide (192 ≤ r) = true := by simp; omega
  have g880 : decide (880 ≤ r) = false := by simp; omega
  have g1424 : decide (1424 ≤ r) = false := by simp; omega
  have l57 : decide (r ≤ 57) = false := by simp; omega
  have l90 : decide (r ≤ 90) = false := by simp; omega
  have l122 : decide (r ≤ 122) = false := by simp; omega
  have l591 : decide (r ≤ 591) = true := by simp; omega
  have l1279 : decide (r ≤ 1279) = true := by simp; omega
  have l1983 : decide (r ≤ 1983) = true := by simp; omega
  have n215 : (r != 215) = false := by simp; omega
  have n247 : (r != 247) = true := by simp; omega
  have HP := Lib.hid hp
  clear hp h1 h2
  go_enter Tryd.func23, Tryd.ntmps23
  go_wp2_with (go_at_call 46; refine (point_any _ _).mono ?_; rintro e w' ⟨rfl, rfl⟩; rw [HP.out])
  go_ret2
  exact ⟨rfl, rfl⟩
set_option maxHeartbeats 1000000 in
theorem rkind_9 (w : World) (r : Int) (hp : okPt r = true) (h1 : 216 ≤ r) (h2 : r ≤ 246) : Calls Tryd.prog 23 #[.int .i64 r] w fun e w' => e = .returned (.tuple #[.int .i64 3, .int .i64 0]) ∧ w' = w := by
  have e9 : (r == 9) = false := by simp; omega
  have e10 : (r == 10) = false := by simp; omega
  have e13 : (r == 13) = false := by simp; omega
  have e32 : (r == 32) = false := by simp; omega
  have g48 : decide (48 ≤ r) = true := by simp; omega
  have g65 : decide (65 ≤ r) = true := by simp; omega
  have g97 : decide (97 ≤ r) = true := by simp; omega
  have g192 : decide (192 ≤ r) = true := by simp; omega
  have g880 : decide (880 ≤ r) = false := by simp; omega
  have g1424 : decide (1424 ≤ r) = false := by simp; omega
  have l57 : decide (r ≤ 57) = false := by simp; omega
  have l90 : decide (r ≤ 90) = false := by simp; omega
  have l122 : decide (r ≤ 122) = false := by simp; omega
  have l591 : decide (r ≤ 591) = true := by simp; omega
  have l1279 : decide (r ≤ 1279) = true := by simp; omega
  have l1983 : decide (r ≤ 1983) = true := by simp; omega
  have n215 : (r != 215) = true := by simp; omega
  have n247 : (r != 247) = true := by simp; omega
  have HP := Lib.hid hp
  clear hp h1 h2
  go_enter Tryd.func23, Tryd.ntmps23
  go_wp2_with (go_at_call 46; refine (point_any _ _).mono ?_; rintro e w' ⟨rfl, rfl⟩; rw [HP.out])
  go_ret2
  exact ⟨rfl, rfl⟩
set_option maxHeartbeats 1000000 in
theorem rkind_10 (w : World) (r : Int) (hp : okPt r = true) (h1 : 247 ≤ r) (h2 : r ≤ 247) : Calls Tryd.prog 23 #[.int .i64 r] w fun e w' => e = .returned (.tuple #[.int .i64 0, .int .i64 0]) ∧ w' = w := by
  have e9 : (r == 9) = false := by simp; omega
  have e10 : (r == 10) = false := by simp; omega
  have e13 : (r == 13) = false := by simp; omega
  have e32 : (r == 32) = false := by simp; omega
  have g48 : decide (48 ≤ r) = true := by simp; omega
  have g65 : decide (65 ≤ r) = true := by simp; omega
  have g97 : decide (97 ≤ r) = true := by simp; omega
  have g192 : decide (192 ≤ r) = true := by simp; omega
  have g880 : decide (880 ≤ r) = false := by simp; omega
  have g1424 : decide (1424 ≤ r) = false := by simp; omega
  have l57 : decide (r ≤ 57) = false := by simp; omega
  have l90 : decide (r ≤ 90) = false := by simp; omega
  have l122 : decide (r ≤ 122) = false := by simp; omega
  have l591 : decide (r ≤ 591) = true := by simp; omega
  have l1279 : decide (r ≤ 1279) = true := by simp; omega
  have l1983 : decide (r ≤ 1983) = true := by simp; omega
  have n215 : (r != 215) = true := by simp; omega
  have n247 : (r != 247) = false := by simp; omega
  have HP := Lib.hid hp
  clear hp h1 h2
  go_enter Tryd.func23, Tryd.ntmps23
  go_wp2_with (go_at_call 46; refine (point_any _ _).mono ?_; rintro e w' ⟨rfl, rfl⟩; rw [HP.out])
  go_ret2
  exact ⟨rfl, rfl⟩
set_option maxHeartbeats 1000000 in
theorem rkind_11 (w : World) (r : Int) (hp : okPt r = true) (h1 : 248 ≤ r) (h2 : r ≤ 591) : Calls Tryd.prog 23 #[.int .i64 r] w fun e w' => e = .returned (.tuple #[.int .i64 3, .int .i64 0]) ∧ w' = w := by
  have e9 : (r == 9) = false := by simp; omega
  have e10 : (r == 10) = false := by simp; omega
  have e13 : (r == 13) = false := by simp; omega
  have e32 : (r == 32) = false := by simp; omega
  have g48 : decide (48 ≤ r) = true := by simp; omega
  have g65 : decide (65 ≤ r) = true := by simp; omega
  have g97 : decide (97 ≤ r) = true := by simp; omega
  have g192 : decide (192 ≤ r) = true := by simp; omega
  have g880 : decide (880 ≤ r) = false := by simp; omega
  have g1424 : decide (1424 ≤ r) = false := by simp; omega
  have l57 : decide (r ≤ 57) = false := by simp; omega
  have l90 : decide (r ≤ 90) = false := by simp; omega
  have l122 : decide (r ≤ 122) = false := by simp; omega
  have l591 : decide (r ≤ 591) = true := by simp; omega
  have l1279 : decide (r ≤ 1279) = true := by simp; omega
  have l1983 : decide (r ≤ 1983) = true := by simp; omega
  have n215 : (r != 215) = true := by simp; omega
  have n247 : (r != 247) = true := by simp; omega
  have HP := Lib.hid hp
  clear hp h1 h2
  go_enter Tryd.func23, Tryd.ntmps23
  go_wp2_with (go_at_call 46; refine (point_any _ _).mono ?_; rintro e w' ⟨rfl, rfl⟩; rw [HP.out])
  go_ret2
  exact ⟨rfl, rfl⟩
set_option maxHeartbeats 1000000 in
theorem rkind_12 (w : World) (r : Int) (hp : okPt r = true) (h1 : 592 ≤ r) (h2 : r ≤ 879) : Calls Tryd.prog 23 #[.int .i64 r] w fun e w' => e = .returned (.tuple #[.int .i64 0, .int .i64 0]) ∧ w' = w := by
  have e9 : (r == 9) = false := by simp; omega
  have e10 : (r == 10) = false := by simp; omega
  have e13 : (r == 13) = false := by simp; omega
  have e32 : (r == 32) = false := by simp; omega
  have g48 : decide (48 ≤ r) = true := by simp; omega
  have g65 : decide (65 ≤ r) = true := by simp; omega
  have g97 : decide (97 ≤ r) = true := by simp; omega
  have g192 : decide (192 ≤ r) = true := by simp; omega
  have g880 : decide (880 ≤ r) = false := by simp; omega
  have g1424 : decide (1424 ≤ r) = false := by simp; omega
  have l57 : decide (r ≤ 57) = false := by simp; omega
  have l90 : decide (r ≤ 90) = false := by simp; omega
  have l122 : decide (r ≤ 122) = false := by simp; omega
  have l591 : decide (r ≤ 591) = false := by simp; omega
  have l1279 : decide (r ≤ 1279) = true := by simp; omega
  have l1983 : decide (r ≤ 1983) = true := by simp; omega
  have n215 : (r != 215) = true := by simp; omega
  have n247 : (r != 247) = true := by simp; omega
  have HP := Lib.hid hp
  clear hp h1 h2
  go_enter Tryd.func23, Tryd.ntmps23
  go_wp2_with (go_at_call 46; refine (point_any _ _).mono ?_; rintro e w' ⟨rfl, rfl⟩; rw [HP.out])
  go_ret2
  exact ⟨rfl, rfl⟩
set_option maxHeartbeats 1000000 in
theorem rkind_13 (w : World) (r : Int) (hp : okPt r = true) (h1 : 880 ≤ r) (h2 : r ≤ 1279) : Calls Tryd.prog 23 #[.int .i64 r] w fun e w' => e = .returned (.tuple #[.int .i64 3, .int .i64 0]) ∧ w' = w := by
  have e9 : (r == 9) = false := by simp; omega
  have e10 : (r == 10) = false := by simp; omega
  have e13 : (r == 13) = false := by simp; omega
  have e32 : (r == 32) = false := by simp; omega
  have g48 : decide (48 ≤ r) = true := by simp; omega
  have g65 : decide (65 ≤ r) = true := by simp; omega
  have g97 : decide (97 ≤ r) = true := by simp; omega
  have g192 : decide (192 ≤ r) = true := by simp; omega
  have g880 : decide (880 ≤ r) = true := by simp; omega
  have g1424 : decide (1424 ≤ r) = false := by simp; omega
  have l57 : decide (r ≤ 57) = false := by simp; omega
  have l90 : decide (r ≤ 90) = false := by simp; omega
  have l122 : decide (r ≤ 122) = false := by simp; omega
  have l591 : decide (r ≤ 591) = false := by simp; omega
  have l1279 : decide (r ≤ 1279) = true := by simp; omega
  have l1983 : decide (r ≤ 1983) = true := by simp; omega
  have n215 : (r != 215) = true := by simp; omega
  have n247 : (r != 247) = true := by simp; omega
  have HP := Lib.hid hp
  clear hp h1 h2
  go_enter Tryd.func23, Tryd.ntmps23
  go_wp2_with (go_at_call 46; refine (point_any _ _).mono ?_; rintro e w' ⟨rfl, rfl⟩; rw [HP.out])
  go_ret2
  exact ⟨rfl, rfl⟩
set_option maxHeartbeats 1000000 in
theorem rkind_14 (w : World) (r : Int) (hp : okPt r = true) (h1 : 1280 ≤ r) (h2 : r ≤ 1423) : Calls Tryd.prog 23 #[.int .i64 r] w fun e w' => e = .returned (.tuple #[.int .i64 0, .int .i64 0]) ∧ w' = w := by
  have e9 : (r == 9) = false := by simp; omega
  have e10 : (r == 10) = false := by simp; omega
  have e13 : (r == 13) = false := by simp; omega
  have e32 : (r == 32) = false := by simp; omega
  have g48 : decide (48 ≤ r) = true := by simp; omega
  have g65 : decide (65 ≤ r) = true := by simp; omega
  have g97 : decide (97 ≤ r) = true := by simp; omega
  have g192 : decide (192 ≤ r) = true := by simp; omega
  have g880 : decide (880 ≤ r) = true := by simp; omega
  have g1424 : decide (1424 ≤ r) = false := by simp; omega
  have l57 : decide (r ≤ 57) = false := by simp; omega
  have l90 : decide (r ≤ 90) = false := by simp; omega
  have l122 : decide (r ≤ 122) = false := by simp; omega
  have l591 : decide (r ≤ 591) = false := by simp; omega
  have l1279 : decide (r ≤ 1279) = false := by simp; omega
  have l1983 : decide (r ≤ 1983) = true := by simp; omega
  have n215 : (r != 215) = true := by simp; omega
  have n247 : (r != 247) = true := by simp; omega
  have HP := Lib.hid hp
  clear hp h1 h2
  go_enter Tryd.func23, Tryd.ntmps23
  go_wp2_with (go_at_call 46; refine (point_any _ _).mono ?_; rintro e w' ⟨rfl, rfl⟩; rw [HP.out])
  go_ret2
  exact ⟨rfl, rfl⟩
set_option maxHeartbeats 1000000 in
theorem rkind_15 (w : World) (r : Int) (hp : okPt r = true) (h1 : 1424 ≤ r) (h2 : r ≤ 1983) : Calls Tryd.prog 23 #[.int .i64 r] w fun e w' => e = .returned (.tuple #[.int .i64 4, .int .i64 0]) ∧ w' = w := by
  have e9 : (r == 9) = false := by simp; omega
  have e10 : (r == 10) = false := by simp; omega
  have e13 : (r == 13) = false := by simp; omega
  have e32 : (r == 32) = false := by simp; omega
  have g48 : decide (48 ≤ r) = true := by simp; omega
  have g65 : decide (65 ≤ r) = true := by simp; omega
  have g97 : decide (97 ≤ r) = true := by simp; omega
  have g192 : decide (192 ≤ r) = true := by simp; omega
  have g880 : decide (880 ≤ r) = true := by simp; omega
  have g1424 : decide (1424 ≤ r) = true := by simp; omega
  have l57 : decide (r ≤ 57) = false := by simp; omega
  have l90 : decide (r ≤ 90) = false := by simp; omega
  have l122 : decide (r ≤ 122) = false := by simp; omega
  have l591 : decide (r ≤ 591) = false := by simp; omega
  have l1279 : decide (r ≤ 1279) = false := by simp; omega
  have l1983 : decide (r ≤ 1983) = true := by simp; omega
  have n215 : (r != 215) = true := by simp; omega
  have n247 : (r != 247) = true := by simp; omega
  have HP := Lib.hid hp
  clear hp h1 h2
  go_enter Tryd.func23, Tryd.ntmps23
  go_wp2_with (go_at_call 46; refine (point_any _ _).mono ?_; rintro e w' ⟨rfl, rfl⟩; rw [HP.out])
  go_ret2
  exact ⟨rfl, rfl⟩
set_option maxHeartbeats 1000000 in
theorem rkind_16 (w : World) (r : Int) (hp : okPt r = true) (h1 : 1984 ≤ r) : Calls Tryd.prog 23 #[.int .i64 r] w fun e w' => e = .returned (.tuple #[.int .i64 0, .int .i64 0]) ∧ w' = w := by
  have e9 : (r == 9) = false := by simp; omega
  have e10 : (r == 10) = false := by simp; omega
  have e13 : (r == 13) = false := by simp; omega
  have e32 : (r == 32) = false := by simp; omega
  have g48 : decide (48 ≤ r) = true := by simp; omega
  have g65 : decide (65 ≤ r) = true := by simp; omega
  have g97 : decide (97 ≤ r) = true := by simp; omega
  have g192 : decide (192 ≤ r) = true := by simp; omega
  have g880 : decide (880 ≤ r) = true := by simp; omega
  have g1424 : decide (1424 ≤ r) = true := by simp; omega
  have l57 : decide (r ≤ 57) = false := by simp; omega
  have l90 : decide (r ≤ 90) = false := by simp; omega
  have l122 : decide (r ≤ 122) = false := by simp; omega
  have l591 : decide (r ≤ 591) = false := by simp; omega
  have l1279 : decide (r ≤ 1279) = false := by simp; omega
  have l1983 : decide (r ≤ 1983) = false := by simp; omega
  have n215 : (r != 215) = true := by simp; omega
  have n247 : (r != 247) = true := by simp; omega
  have HP := Lib.hid hp
  clear hp h1
  go_enter Tryd.func23, Tryd.ntmps23
  go_wp2_with (go_at_call 46; refine (point_any _ _).mono ?_; rintro e w' ⟨rfl, rfl⟩; rw [HP.out])
  go_ret2
  exact ⟨rfl, rfl⟩
theorem rkind_no (w : World) (r : Int) (hp : okPt r = false) : Calls Tryd.prog 23 #[.int .i64 r] w fun e w' => e = .returned (.tuple #[.int .i64 0, .int .i64 90]) ∧ w' = w := by
  go_enter Tryd.func23, Tryd.ntmps23
  go_wp2_with (go_at_call 46; refine (point_any _ _).mono ?_; rintro e w' ⟨rfl, rfl⟩; rw [hp])
  go_ret2
  exact ⟨rfl, rfl⟩
theorem isSp_ok {r : Int} (h : isSp r = true) : okPt r = true := by
  unfold isSp at h
  rw [decide_eq_true_iff] at h
  rw [okPt_iff]
  omega
theorem rkind_any (w : World) (r : Int) : Calls Tryd.prog 23 #[.int .i64 r] w fun e w' => e = .returned (.tuple #[.int .i64 (kindV r), .int .i64 (kindE r)]) ∧ w' = w := by
  unfold kindV kindE
  cases hp : okPt r with
  | false => exact rkind_no w r hp
  | true =>
    rw [if_pos rfl, if_pos rfl]
    cases hs : isSp r with
    | true => rw [knd_1 hs]; exact rkind_sp w r hs
    | false =>
      have hs2 : ¬ (r = 9 ∨ r = 10 ∨ r = 13 ∨ r = 32) := by unfold isSp at hs; simpa using hs
      by_cases c : r ≤ 47
      · rw [knd_0 hs (by unfold isDg; rw [decide_eq_false_iff_not]; omega) (by unfold isLf; rw [decide_eq_false_iff_not]; omega) (by unfold isRt; rw [decide_eq_false_iff_not]; omega)]; exact rkind_0 w r hp c hs
      by_cases c : r ≤ 57
      · rw [knd_2 hs (by unfold isDg; rw [decide_eq_true_iff]; omega)]; exact rkind_1 w r hp (by omega) c
      by_cases c : r ≤ 64
      · rw [knd_0 hs (by unfold isDg; rw [decide_eq_false_iff_not]; omega) (by unfold isLf; rw [decide_eq_false_iff_not]; omega) (by unfold isRt; rw [decide_eq_false_iff_not]; omega)]; exact rkind_2 w r hp (by omega) c
      by_cases c : r ≤ 90
      · rw [knd_3 hs (by unfold isDg; rw [decide_eq_false_iff_not]; omega) (by unfold isLf; rw [decide_eq_true_iff]; omega)]; exact rkind_3 w r hp (by omega) c
      by_cases c : r ≤ 96
      · rw [knd_0 hs (by unfold isDg; rw [decide_eq_false_iff_not]; omega) (by unfold isLf; rw [decide_eq_false_iff_not]; omega) (by unfold isRt; rw [decide_eq_false_iff_not]; omega)]; exact rkind_4 w r hp (by omega) c
      by_cases c : r ≤ 122
      · rw [knd_3 hs (by unfold isDg; rw [decide_eq_false_iff_not]; omega) (by unfold isLf; rw [decide_eq_true_iff]; omega)]; exact rkind_5 w r hp (by omega) c
      by_cases c : r ≤ 191
      · rw [knd_0 hs (by unfold isDg; rw [decide_eq_false_iff_not]; omega) (by unfold isLf; rw [decide_eq_false_iff_not]; omega) (by unfold isRt; rw [decide_eq_false_iff_not]; omega)]; exact rkind_6 w r hp (by omega) c
      by_cases c : r ≤ 214
      · rw [knd_3 hs (by unfold isDg; rw [decide_eq_false_iff_not]; omega) (by unfold isLf; rw [decide_eq_true_iff]; omega)]; exact rkind_7 w r hp (by omega) c
      by_cases c : r ≤ 215
      · rw [knd_0 hs (by unfold isDg; rw [decide_eq_false_iff_not]; omega) (by unfold isLf; rw [decide_eq_false_iff_not]; omega) (by unfold isRt; rw [decide_eq_false_iff_not]; omega)]; exact rkind_8 w r hp (by omega) c
      by_cases c : r ≤ 246
      · rw [knd_3 hs (by unfold isDg; rw [decide_eq_false_iff_not]; omega) (by unfold isLf; rw [decide_eq_true_iff]; omega)]; exact rkind_9 w r hp (by omega) c
      by_cases c : r ≤ 247
      · rw [knd_0 hs (by unfold isDg; rw [decide_eq_false_iff_not]; omega) (by unfold isLf; rw [decide_eq_false_iff_not]; omega) (by unfold isRt; rw [decide_eq_false_iff_not]; omega)]; exact rkind_10 w r hp (by omega) c
      by_cases c : r ≤ 591
      · rw [knd_3 hs (by unfold isDg; rw [decide_eq_false_iff_not]; omega) (by unfold isLf; rw [decide_eq_true_iff]; omega)]; exact rkind_11 w r hp (by omega) c
      by_cases c : r ≤ 879
      · rw [knd_0 hs (by unfold isDg; rw [decide_eq_false_iff_not]; omega) (by unfold isLf; rw [decide_eq_false_iff_not]; omega) (by unfold isRt; rw [decide_eq_false_iff_not]; omega)]; exact rkind_12 w r hp (by omega) c
      by_cases c : r ≤ 1279
      · rw [knd_3 hs (by unfold isDg; rw [decide_eq_false_iff_not]; omega) (by unfold isLf; rw [decide_eq_true_iff]; omega)]; exact rkind_13 w r hp (by omega) c
      by_cases c : r ≤ 1423
      · rw [knd_0 hs (by unfold isDg; rw [decide_eq_false_iff_not]; omega) (by unfold isLf; rw [decide_eq_false_iff_not]; omega) (by unfold isRt; rw [decide_eq_false_iff_not]; omega)]; exact rkind_14 w r hp (by omega) c
      by_cases c : r ≤ 1983
      · rw [knd_4 hs (by unfold isDg; rw [decide_eq_false_iff_not]; omega) (by unfold isLf; rw [decide_eq_false_iff_not]; omega) (by unfold isRt; rw [decide_eq_true_iff]; omega)]; exact rkind_15 w r hp (by omega) c
      rw [knd_0 hs (by unfold isDg; rw [decide_eq_false_iff_not]; omega) (by unfold isLf; rw [decide_eq_false_iff_not]; omega) (by unfold isRt; rw [decide_eq_false_iff_not]; omega)]; exact rkind_16 w r hp (by omega)
theorem kindV_sp (r : Int) : (kindV r == 1) = isSp r := by
  unfold kindV
  cases hs : isSp r with
  | true => rw [isSp_ok hs, if_pos rfl, knd_1 hs]; rfl
  | false =>
    have h : knd r ≠ 1 := by
      unfold knd
      rw [hs, if_neg (by simp)]
      split
      · decide
      · split
        · decide
        · split <;> decide
    split
    · simpa using h
    · rfl
theorem space_any (w : World) (r : Int) : Calls Tryd.prog 52 #[.int .i64 r] w fun e w' => e = .returned (.bool (isSp r)) ∧ w' = w := by
  rw [← kindV_sp]
  obtain ⟨z, hz⟩ : ∃ z, kindV r = z := ⟨_, rfl⟩
  have HK := Lib.hid (rkind_any w r)
  rw [hz] at HK ⊢
  clear hz
  go_enter Tryd.func52, Tryd.ntmps52
  go_wp2_with fail
  refine (HK.out).mono ?_
  rintro e w' ⟨rfl, rfl⟩
  go_wp2
  go_ret
  exact ⟨rfl, rfl⟩
theorem spaceR_any (w : World) (r : Nat) (hr : r ≤ 1114111) : Calls Tryd.prog 50 #[.int .i32 r] w fun e w' => e = .returned (.bool (isSp r)) ∧ w' = w := by
  have h0 : (0 : Int) ≤ (r : Int) := by omega
  have h1 : (r : Int) ≤ 1114111 := by omega
  go_enter Tryd.func50, Tryd.ntmps50
  go_wp2_with (go_at_call 51; refine (isSpace_any _ _).mono ?_; rintro e w' ⟨rfl, rfl⟩)
  go_ret
  exact ⟨rfl, rfl⟩
end Go.Proofs.YtilkhamlhbbmgaaDoor
