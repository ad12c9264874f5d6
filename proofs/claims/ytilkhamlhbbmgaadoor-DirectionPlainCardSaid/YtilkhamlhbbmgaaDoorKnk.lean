/- The kind of a code point, by the program and by the reference. -/
import Derived.Test.YtilkhamlhbbmgaaDoorRow
import Derived.Laws.EntriesVeiled
namespace Go.Proofs.YtilkhamlhbbmgaaDoor
open Go.RowKit

abbrev kd (n : Int) (f : Nat) : Value := .agg #[.int .i64 n, .func (.func f) #[] #[]]
def kds : List Value := [.int .i64 1, .func (.func 51) #[] #[], .int .i64 2, .func (.func 77) #[] #[], .int .i64 3, .func (.func 78) #[] #[], .int .i64 4, .func (.func 79) #[] #[]]
def kdArr : Value := .agg kds.toArray
theorem kdi_0 (w : World) : (Instr.index 83 kdArr (.int .i64 0)).run Tryd.prog w = .ok (kd 1 51) w := by kernel_rfl
theorem kdi_1 (w : World) : (Instr.index 83 kdArr (.int .i64 1)).run Tryd.prog w = .ok (kd 2 77) w := by kernel_rfl
theorem kdi_2 (w : World) : (Instr.index 83 kdArr (.int .i64 2)).run Tryd.prog w = .ok (kd 3 78) w := by kernel_rfl
theorem kdi_3 (w : World) : (Instr.index 83 kdArr (.int .i64 3)).run Tryd.prog w = .ok (kd 4 79) w := by kernel_rfl
theorem Tryd.info83 : (Tryd.prog.info? 83).map (·.size) = some 8 := by kernel_rfl
set_option maxRecDepth 100000 in
set_option maxHeartbeats 1000000 in
theorem kinds_any (w : World) : Calls Tryd.prog 69 #[] w fun e w' => e = .returned kdArr ∧ Below w.heap.size w w' := by
  go_enter Tryd.func69, Tryd.ntmps69
  go_wp2
  exact bodyPost_ret (results_cell_mid rfl _ _ w.heap.size kds _ (by rfl) (Arr.new w kds.toArray 83).at_ Tryd.underlying83 rfl Tryd.info83) rfl ⟨rfl, by go_grown⟩
theorem knd_1 {r : Int} (h : isSp r = true) : knd r = 1 := by unfold knd; rw [h]; rfl
theorem knd_2 {r : Int} (h0 : isSp r = false) (h : isDg r = true) : knd r = 2 := by unfold knd; rw [h0, h]; rfl
theorem knd_3 {r : Int} (h0 : isSp r = false) (h1 : isDg r = false) (h : isLf r = true) : knd r = 3 := by unfold knd; rw [h0, h1, h]; rfl
theorem knd_4 {r : Int} (h0 : isSp r = false) (h1 : isDg r = false) (h2 : isLf r = false) (h : isRt r = true) : knd r = 4 := by unfold knd; rw [h0, h1, h2, h]; rfl
theorem knd_0 {r : Int} (h0 : isSp r = false) (h1 : isDg r = false) (h2 : isLf r = false) (h : isRt r = false) : knd r = 0 := by unfold knd; rw [h0, h1, h2, h]; rfl
def kq (r : Int) (k : Nat) : Prop := (1 ≤ k → isSp r = false) ∧ (2 ≤ k → isDg r = false) ∧ (3 ≤ k → isLf r = false) ∧ (4 ≤ k → isRt r = false)
set_option maxRecDepth 100000 in
set_option maxHeartbeats 4000000 in
theorem kindOf_any (w : World) (r : Int) : Calls Tryd.prog 48 #[.int .i64 r] w fun e w' => e = .returned (.int .i64 (knd r)) ∧ Below w.heap.size w w' := by
  obtain ⟨z, hz⟩ : ∃ z, knd r = z := ⟨_, rfl⟩
  have HZ := Lib.hid hz
  rw [hz]
  clear hz
  have k0 := kdi_0
  have k1 := kdi_1
  have k2 := kdi_2
  have k3 := kdi_3
  obtain ⟨A, hA⟩ : ∃ A, kdArr = A := ⟨_, rfl⟩
  have HK := Lib.hid kinds_any
  rw [hA] at k0 k1 k2 k3 HK
  clear hA
  go_enter Tryd.func48, Tryd.ntmps48
  go_wp2_with fail
  refine (HK.out w).mono ?_
  rintro e w1 ⟨rfl, hb1⟩
  have HB1 := Lib.hid hb1
  clear hb1
  go_wp2
  go_loopw [4, 6] (fun s4 s6 wr => ∃ k : Nat, k ≤ 4 ∧ s6 = .int .i64 k ∧ Below w.heap.size w wr ∧ Hid (kq r k)) (fun _ s6 _ => 4 - (intOf s6).toNat)
  case atStart => exact ⟨0, by omega, rfl, HB1.out, Lib.hid ⟨fun h => by omega, fun h => by omega, fun h => by omega, fun h => by omega⟩⟩
  case round =>
    obtain ⟨k, hk, rfl, hbw, HQ⟩ := hrel
    have HB := Lib.hid hbw
    clear hbw
    have hcs : k = 0 ∨ k = 1 ∨ k = 2 ∨ k = 3 ∨ k = 4 := by omega
    rcases hcs with rfl | rfl | rfl | rfl | rfl
    · cases hp : isSp r with
      | true =>
        have HP := Lib.hid hp
        clear hp
        go_wp2_with (go_at_call 51; refine (isSpace_any _ _).mono ?_; rintro e w' ⟨rfl, rfl⟩; rw [HP.out])
        go_ret
        exact ⟨by rw [← HZ.out, knd_1 HP.out]; rfl, HB.out.alloc HB.out.size _⟩
      | false =>
        have HP := Lib.hid hp
        clear hp
        go_wp2_with (go_at_call 51; refine (isSpace_any _ _).mono ?_; rintro e w' ⟨rfl, rfl⟩; rw [HP.out])
        go_roundw
        case rel => exact ⟨1, by omega, by go_num, HB.out.alloc HB.out.size _, Lib.hid ⟨fun _ => HP.out, fun h => by omega, fun h => by omega, fun h => by omega⟩⟩
        case measure => simp [intOf]
    · cases hp : isDg r with
      | true =>
        have HP := Lib.hid hp
        clear hp
        go_wp2_with (go_at_call 77; refine (isDigit_any _ _).mono ?_; rintro e w' ⟨rfl, rfl⟩; rw [HP.out])
        go_ret
        exact ⟨by rw [← HZ.out, knd_2 (HQ.out.1 (by omega)) HP.out]; rfl, HB.out.alloc HB.out.size _⟩
      | false =>
        have HP := Lib.hid hp
        clear hp
        go_wp2_with (go_at_call 77; refine (isDigit_any _ _).mono ?_; rintro e w' ⟨rfl, rfl⟩; rw [HP.out])
        go_roundw
        case rel => exact ⟨2, by omega, by go_num, HB.out.alloc HB.out.size _, Lib.hid ⟨fun _ => HQ.out.1 (by omega), fun _ => HP.out, fun h => by omega, fun h => by omega⟩⟩
        case measure => simp [intOf]
    · cases hp : isLf r with
      | true =>
        have HP := Lib.hid hp
        clear hp
        go_wp2_with (go_at_call 78; refine (isLeft_any _ _).mono ?_; rintro e w' ⟨rfl, rfl⟩; rw [HP.out])
        go_ret
        exact ⟨by rw [← HZ.out, knd_3 (HQ.out.1 (by omega)) (HQ.out.2.1 (by omega)) HP.out]; rfl, HB.out.alloc HB.out.size _⟩
      | false =>
        have HP := Lib.hid hp
        clear hp
        go_wp2_with (go_at_call 78; refine (isLeft_any _ _).mono ?_; rintro e w' ⟨rfl, rfl⟩; rw [HP.out])
        go_roundw
        case rel => exact ⟨3, by omega, by go_num, HB.out.alloc HB.out.size _, Lib.hid ⟨fun _ => HQ.out.1 (by omega), fun _ => HQ.out.2.1 (by omega), fun _ => HP.out, fun h => by omega⟩⟩
        case measure => simp [intOf]
    · cases hp : isRt r with
      | true =>
        have HP := Lib.hid hp
        clear hp
        go_wp2_with (go_at_call 79; refine (isRight_any _ _).mono ?_; rintro e w' ⟨rfl, rfl⟩; rw [HP.out])
        go_ret
        exact ⟨by rw [← HZ.out, knd_4 (HQ.out.1 (by omega)) (HQ.out.2.1 (by omega)) (HQ.out.2.2.1 (by omega)) HP.out]; rfl, HB.out.alloc HB.out.size _⟩
      | false =>
        have HP := Lib.hid hp
        clear hp
        go_wp2_with (go_at_call 79; refine (isRight_any _ _).mono ?_; rintro e w' ⟨rfl, rfl⟩; rw [HP.out])
        go_roundw
        case rel => exact ⟨4, by omega, by go_num, HB.out.alloc HB.out.size _, Lib.hid ⟨fun _ => HQ.out.1 (by omega), fun _ => HQ.out.2.1 (by omega), fun _ => HQ.out.2.2.1 (by omega), fun _ => HP.out⟩⟩
        case measure => simp [intOf]
    · go_wp2
      go_ret
      exact ⟨by rw [← HZ.out, knd_0 (HQ.out.1 (by omega)) (HQ.out.2.1 (by omega)) (HQ.out.2.2.1 (by omega)) (HQ.out.2.2.2 (by omega))]; rfl, HB.out⟩

def kindE (r : Int) : Int := if okPt r then 0 else 90
def kindV (r : Int) : Int := if okPt r then knd r else 0
theorem kind_any (w : World) (r : Int) : Calls Tryd.prog 22 #[.int .i64 r] w fun e w' => e = .returned (.tuple #[.int .i64 (kindV r), .int .i64 (kindE r)]) ∧ Below w.heap.size w w' := by
  have HN := Lib.hid (fun W => noRune_any W r)
  have HK := Lib.hid (fun W => kindOf_any W r)
  unfold kindV kindE
  cases hp : okPt r with
  | true =>
    rw [hp] at HN
    obtain ⟨z, hz⟩ : ∃ z, knd r = z := ⟨_, rfl⟩
    rw [hz] at HK ⊢
    clear hp hz
    go_enter Tryd.func22, Tryd.ntmps22
    go_wp2_with fail
    refine (HN.out _).mono ?_
    rintro e w' ⟨rfl, rfl⟩
    go_wp2_with fail
    refine (HK.out _).mono ?_
    rintro e w2 ⟨rfl, hb⟩
    go_wp2
    go_ret2
    exact ⟨rfl, hb⟩
  | false =>
    rw [hp] at HN
    clear hp
    go_enter Tryd.func22, Tryd.ntmps22
    go_wp2_with fail
    refine (HN.out _).mono ?_
    rintro e w' ⟨rfl, rfl⟩
    go_wp2
    go_ret2
    exact ⟨rfl, Below.refl _ _⟩

theorem point_any (w : World) (r : Int) : Calls Tryd.prog 46 #[.int .i64 r] w fun e w' => e = .returned (.bool (okPt r)) ∧ w' = w := by
  by_cases h1 : 0 ≤ r
  · by_cases h2 : r ≤ 1114111
    · by_cases h3 : r < 55296
      · rw [okPt_iff.2 ⟨h1, h2, fun h => by omega⟩]
        go_enter Tryd.func46, Tryd.ntmps46
        go_wp2
        go_ret
        exact ⟨rfl, rfl⟩
      · have d3 : decide (r < 55296) = false := by simpa using h3
        by_cases h4 : 57343 < r
        · rw [okPt_iff.2 ⟨h1, h2, fun h => by omega⟩]
          go_enter Tryd.func46, Tryd.ntmps46
          go_wp2
          go_ret
          exact ⟨rfl, rfl⟩
        · have d4 : decide (57343 < r) = false := by simpa using h4
          rw [okPt_no.2 fun h => h.2.2 ⟨by omega, by omega⟩]
          go_enter Tryd.func46, Tryd.ntmps46
          go_wp2
          go_ret
          exact ⟨rfl, rfl⟩
    · have d2 : decide (r ≤ 1114111) = false := by simpa using h2
      rw [okPt_no.2 fun h => h2 h.2.1]
      go_enter Tryd.func46, Tryd.ntmps46
      go_wp2
      go_ret
      exact ⟨rfl, rfl⟩
  · have d1 : decide (0 ≤ r) = false := by simpa using h1
    rw [okPt_no.2 fun h => h1 h.1]
    go_enter Tryd.func46, Tryd.ntmps46
    go_wp2
    go_ret
    exact ⟨rfl, rfl⟩

/-- The tests of a kind, each decided. -/
theorem dle (a b : Int) : decide (a ≤ b) = true ∨ decide (a ≤ b) = false := by cases decide (a ≤ b) <;> simp
theorem rkind_sp (w : World) (r : Int) (h : isSp r = true) : Calls Tryd.prog 23 #[.int .i64 r] w fun e w' => e = .returned (.tuple #[.int .i64 1, .int .i64 0]) ∧ w' = w := by
  unfold isSp at h
  rw [decide_eq_true_iff] at h
  rcases h with rfl | rfl | rfl | rfl
  all_goals
    go_enter Tryd.func23, Tryd.ntmps23
    go_wp2_with (go_at_call 46; refine (point_any _ _).mono ?_; rintro e w' ⟨rfl, rfl⟩)
    go_ret2
    exact ⟨rfl, rfl⟩
end Go.Proofs.YtilkhamlhbbmgaaDoor
