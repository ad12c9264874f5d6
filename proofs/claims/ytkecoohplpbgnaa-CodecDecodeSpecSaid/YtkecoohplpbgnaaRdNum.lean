/- The reader reads a numeral. -/
import Derived.Test.YtkecoohplpbgnaaReader
import Derived.Test.YtkecoohplpbgnaaMath
namespace Go.Proofs.Ytkecoohplpbgnaa
open Go.RowKit

/-- What is read as a numeral from a digit on. -/
def rdNum : Nat → Nat → List UInt8 → Option (Nat × List UInt8)
  | _, _, [] => none
  | sh, u, b :: r =>
    let d := b.toNat % 128
    let x := d * 2 ^ min sh 64 % 18446744073709551616
    if x / 2 ^ min sh 64 = d then
      if b.toNat < 128 then (if 0 < d ∨ sh = 0 then some (u ||| x, r) else none) else rdNum (sh + 7) (u ||| x) r
    else none

theorem rdNum_cons (sh u : Nat) (b : UInt8) (r : List UInt8) : rdNum sh u (b :: r) =
    if b.toNat % 128 * 2 ^ min sh 64 % 18446744073709551616 / 2 ^ min sh 64 = b.toNat % 128 then
      if b.toNat < 128 then (if 0 < b.toNat % 128 ∨ sh = 0 then some (u ||| b.toNat % 128 * 2 ^ min sh 64 % 18446744073709551616, r) else none) else rdNum (sh + 7) (u ||| b.toNat % 128 * 2 ^ min sh 64 % 18446744073709551616) r
    else none := by rw [rdNum]

theorem wrap_shl (B k : Nat) : IntKind.u64.wrap ((B : Int) % 128 * 2 ^ k) = ((B % 128 * 2 ^ k % 18446744073709551616 : Nat) : Int) := by
  have e : ((B : Int) % 128 * 2 ^ k) = ((B % 128 * 2 ^ k : Nat) : Int) := by simp
  rw [IntKind.wrap_u64, e]
  generalize B % 128 * 2 ^ k = N
  omega

/-- What the numeral's reader ends in. -/
def NumPost (w : World) (rb db : Nat) (dep : Int) (o : Option (Nat × List UInt8)) (e : Ending) (w' : World) : Prop :=
  match o with
  | none => Pan e ∧ w.grownBy w' (some rb)
  | some (u, r) => e = .returned (.int .u64 (u : Nat)) ∧ u < 18446744073709551616 ∧ Rdr w' rb db r dep ∧ w.grownBy w' (some rb)

set_option maxRecDepth 100000 in
set_option maxHeartbeats 1000000 in
theorem rdNum_any (w : World) (rb db : Nat) (dep : Int) (bs : List UInt8) (hbl : bs.length ≤ 1000000000) (h : Rdr w rb db bs dep) :
    Calls Try.prog 62 #[.pointer (some ⟨rb, 0, none⟩)] w (NumPost w rb db dep (rdNum 0 0 bs)) := by
  have HR := Lib.hid h
  clear h
  go_enter Try.func62, Try.ntmps62
  go_wp2_with fail
  go_loopw [3, 4] (fun t i wr => ∃ (u sh : Nat) (cs : List UInt8), t = .int .u64 u ∧ i = .int .i64 sh ∧ u < 18446744073709551616 ∧ sh + 7 * cs.length ≤ 7 * bs.length ∧ rdNum 0 0 bs = rdNum sh u cs ∧ Rdr wr rb db cs dep ∧ w.grownBy wr (some rb)) (fun _ i _ => 7 * bs.length + 7 - (intOf i).toNat)
  case atStart => exact ⟨0, 0, bs, rfl, rfl, by omega, by omega, rfl, HR.out, World.grownBy.refl _ _⟩
  case round =>
    obtain ⟨u, sh, cs, rfl, rfl, hu, hsh, hrd, hr, hg⟩ := hrel
    have HRD := Lib.hid hrd; clear hrd
    cases cs with
    | nil =>
      have hp : rdNum 0 0 bs = none := by rw [HRD.out]; rfl
      have HP := Lib.hid hp
      clear hp
      go_wp2_with fail
      refine (take_no wr rb db [] dep 1 (by omega) hr (by simp)).mono ?_
      rintro e w' ⟨he, hg2⟩
      obtain rfl : e = _ := he
      have hgg := gtrans hg hg2
      go_wp2
      rw [HP.out]
      simp [bodyPost, NumPost, Pan]
      exact hgg
    | cons b r =>
      have hr2 := hr
      go_wp2_with fail
      refine (take_yes wr rb db (b :: r) dep 1 hr (by simp)).mono ?_
      rintro e w' ⟨a, rfl, ha, hr3, hg2⟩
      obtain ⟨off, rfl, hc⟩ : ∃ off, a = some ⟨db, off, none⟩ ∧ w'.cell? ⟨db, off, none⟩ = some (.int .u8 b.toNat) := by
        rcases ha with ha | ⟨off, h1, h2⟩
        · omega
        · exact ⟨off, h1, h2 0 (by simp) (by omega)⟩
      have HR3 := Lib.hid hr3
      have hb8 : b.toNat < 256 := b.toNat_lt
      have hgg := gtrans hg hg2
      clear ha hr3 hr2 hr hg hg2
      obtain ⟨B, hB⟩ : ∃ B, b.toNat = B := ⟨_, rfl⟩
      obtain ⟨x, hx⟩ : ∃ x, B % 128 * 2 ^ min sh 64 % 18446744073709551616 = x := ⟨_, rfl⟩
      have hrb : rdNum 0 0 bs = if x / 2 ^ min sh 64 = B % 128 then if B < 128 then (if 0 < B % 128 ∨ sh = 0 then some (u ||| x, r) else none) else rdNum (sh + 7) (u ||| x) r else none := by
        rw [HRD.out, rdNum_cons, hB, hx]
      rw [hB] at hc hb8
      have hx64 : x < 18446744073709551616 := by rw [← hx]; exact Nat.mod_lt _ (by omega)
      have hux : u ||| x < 18446744073709551616 := Nat.or_lt_two_pow (n := 64) hu hx64
      have e1 : IntKind.u64.wrap ((B : Int) % 128 * 2 ^ min sh 64) = ((x : Nat) : Int) := by
        rw [← hx]; exact wrap_shl B (min sh 64)
      have e2 : bits .or .u64 (u : Int) (x : Int) = ((u ||| x : Nat) : Int) := u64_or_nat u x hu hx64
      have hlen : sh + 7 + 7 * r.length ≤ 7 * bs.length := by rw [List.length_cons] at hsh; omega
      have HRB := Lib.hid hrb
      have HX := Lib.hid hx
      obtain ⟨y, hy⟩ : ∃ y, u ||| x = y := ⟨_, rfl⟩
      rw [hy] at hux e2 HRB
      have HUX := Lib.hid hux
      clear hB hx hrb hsh HRD hy hu hx64 hux
      by_cases ht : x / 2 ^ min sh 64 = B % 128
      · have ht' : ((x : Int) / 2 ^ min sh 64 == (B : Int) % 128) = true := by
          rw [beq_iff_eq]; have := congrArg (fun n : Nat => (n : Int)) ht; simpa using this
        by_cases hlt : B < 128
        · have hmod : B % 128 = B := Nat.mod_eq_of_lt hlt
          by_cases hok : 0 < B % 128 ∨ sh = 0
          · have hp : rdNum 0 0 bs = some (y, r) := by rw [HRB.out, if_pos ht, if_pos hlt, if_pos hok]
            have HP := Lib.hid hp
            have HOK := Lib.hid hok
            clear hp ht hok hmod
            go_wp2_with fail
            refine (need_yes rb w').mono ?_
            rintro e w'' ⟨rfl, rfl⟩
            rcases HOK.out with h0 | h0
            · have h0' : decide (0 < (B : Int) % 128) = true := by simp; omega
              clear h0
              go_wp2_with fail
              refine (need_yes rb w'').mono ?_
              rintro e w4 ⟨rfl, rfl⟩
              go_wp2
              go_ret
              rw [HP.out]
              exact ⟨rfl, HUX.out, HR3.out, hgg⟩
            · have h1' : ((sh : Int) == 0) = true := by simp [h0]
              have e5 : IntKind.u64.wrap ((B : Int) % 128 * 2 ^ sh) = ((x : Nat) : Int) := by
                rw [← e1, show min sh 64 = sh by omega]
              clear h0
              by_cases h0 : 0 < B % 128
              · have h0' : decide (0 < (B : Int) % 128) = true := by simp; omega
                clear h0
                go_wp2_with fail
                refine (need_yes rb w'').mono ?_
                rintro e w4 ⟨rfl, rfl⟩
                go_wp2
                go_ret
                rw [HP.out]
                exact ⟨rfl, HUX.out, HR3.out, hgg⟩
              · have h0' : decide (0 < (B : Int) % 128) = false := by simp; omega
                clear h0
                go_wp2_with fail
                refine (need_yes rb w'').mono ?_
                rintro e w4 ⟨rfl, rfl⟩
                go_wp2
                go_ret
                rw [HP.out]
                exact ⟨rfl, HUX.out, HR3.out, hgg⟩
          · have hp : rdNum 0 0 bs = none := by rw [HRB.out, if_pos ht, if_pos hlt, if_neg hok]
            have h0' : decide (0 < (B : Int) % 128) = false := by simp; omega
            have h1' : ((sh : Int) == 0) = false := by simp; omega
            have HP := Lib.hid hp
            clear hp ht hok hmod
            go_wp2_with fail
            refine (need_yes rb w').mono ?_
            rintro e w'' ⟨rfl, rfl⟩
            go_wp2_with fail
            refine (need_no rb w'').mono ?_
            rintro e w4 ⟨he, rfl⟩
            obtain rfl : e = _ := he
            go_wp2
            rw [HP.out]
            simp [bodyPost, NumPost, Pan]
            exact hgg
        · have hp : rdNum 0 0 bs = rdNum (sh + 7) y r := by rw [HRB.out, if_pos ht, if_neg hlt]
          have HP := Lib.hid hp
          clear hp ht
          go_wp2_with fail
          refine (need_yes rb w').mono ?_
          rintro e w'' ⟨rfl, rfl⟩
          go_wp2
          refine ⟨⟨y, sh + 7, r, rfl, by congr 1, HUX.out, hlen, HP.out, HR3.out, hgg⟩, by simp [intOf]; omega⟩
      · have ht' : ((x : Int) / 2 ^ min sh 64 == (B : Int) % 128) = false := by
          rw [beq_eq_false_iff_ne]; intro hh; apply ht; have := congrArg Int.toNat hh
          have e3 : ((x : Int) / 2 ^ min sh 64) = ((x / 2 ^ min sh 64 : Nat) : Int) := by push_cast; rfl
          have e4 : ((B : Int) % 128) = ((B % 128 : Nat) : Int) := by push_cast; rfl
          rw [e3, e4, Int.toNat_natCast, Int.toNat_natCast] at this
          exact this
        have hp : rdNum 0 0 bs = none := by rw [HRB.out, if_neg ht]
        have HP := Lib.hid hp
        clear hp ht
        go_wp2_with fail
        refine (need_no rb w').mono ?_
        rintro e w4 ⟨he, rfl⟩
        obtain rfl : e = _ := he
        go_wp2
        rw [HP.out]
        simp [bodyPost, NumPost, Pan]
        exact hgg

end Go.Proofs.Ytkecoohplpbgnaa
