/- The text of a token, digit by digit. -/
import Derived.Test.YtdcdldjbdjochaaDoorRdm
import Derived.Test.YtdcdldjbdjochaaDoorTok
namespace Go.Proofs.YtdcdldjbdjochaaDoor
open Go.RowKit

theorem dec_next {x y : Nat} (h : 10 ≤ x) (hy : x / 10 = y) : Lib.decDigits x = Lib.decDigits y ++ [UInt8.ofNat (48 + x % 10)] := by
  rw [dec_hi x]; unfold hi10; rw [if_neg (by omega), hy]
theorem dec_last {x : Nat} (h : x < 10) : Lib.decDigits x = [UInt8.ofNat (48 + x % 10)] := by
  rw [dec_hi x]; unfold hi10; rw [if_pos h]; rfl

set_option maxRecDepth 100000 in
set_option maxHeartbeats 2000000 in
theorem spelled_any (w : World) (t : Tok) (hn : t.kind = 2 → 0 ≤ t.n ∧ t.n ≤ 9223372036854775807) : Calls Tryd.prog 22 #[t.val] w fun e w' => e = .returned (.string (str (textT t))) ∧ Below w.heap.size w w' := by
  obtain ⟨kd, tx, n, at_⟩ := t
  unfold Tok.val textT
  dsimp only at hn ⊢
  obtain ⟨x1, hx1⟩ : ∃ k, str tx = k := ⟨_, rfl⟩
  by_cases k2 : kd = 2
  · subst k2
    obtain ⟨hn0, hn1⟩ := hn rfl
    obtain ⟨u, rfl⟩ : ∃ u : Nat, n = (u : Int) := ⟨n.toNat, by omega⟩
    rw [if_pos rfl, Lib.itoa_nonneg]
    have hlen : (Lib.decDigits u).length ≤ 21 := by
      have := Lib.itoa_length_le (u : Int) (by omega) (by omega)
      rw [Lib.itoa_nonneg] at this
      omega
    obtain ⟨res, hres⟩ : ∃ res, Lib.decDigits u = res := ⟨_, rfl⟩
    have HR := Lib.hid hres
    rw [hres] at hlen ⊢
    rw [hx1]
    clear hx1 hres hn hn0
    go_enter Tryd.func22, Tryd.ntmps22
    go_wp2_with fail
    go_loopw [3, 4] (fun s i wr => ∃ (x : Nat) (q : List UInt8), i = .int .i64 x ∧ x ≤ u ∧ s = .string (str q) ∧ Lib.decDigits x ++ q = res ∧ Below w.heap.size w wr) (fun _ i _ => (intOf i).toNat)
    case atStart => exact ⟨u, [], rfl, Nat.le_refl _, rfl, by rw [HR.out]; simp, (Below.refl _ _).alloc (Nat.le_refl _) _⟩
    case round =>
      clear HR
      obtain ⟨x, q, rfl, hx, rfl, he, hb⟩ := hrel
      obtain ⟨r1, hd10, hcv⟩ := digit_of x
      have hsa := str_add [UInt8.ofNat (48 + x % 10)] q
      have hss : (str [UInt8.ofNat (48 + x % 10)]).size + (str q).size ≤ 9223372036854775807 := by
        rw [str_size, str_size]
        have := congrArg List.length he
        rw [List.length_append] at this
        simp
        omega
      have hnx := fun h => dec_next (x := x) (y := x / 10) h rfl
      have hls := fun h => dec_last (x := x) h
      obtain ⟨d, hd⟩ : ∃ d, x % 10 = d := ⟨_, rfl⟩
      rw [hd] at r1 hd10 hcv hsa hss hnx hls
      have HB : Hid (Below w.heap.size w (wr.alloc (Obj.cells #[Value.int IntKind.u8 (48 + (d : Int))] 5))) := Lib.hid (hb.alloc hb.size _)
      obtain ⟨D, hD⟩ : ∃ D, str [UInt8.ofNat (48 + d)] = D := ⟨_, rfl⟩
      obtain ⟨Q, hQ⟩ : ∃ Q, str q = Q := ⟨_, rfl⟩
      rw [hD, hQ] at hsa hss
      rw [hD] at hcv
      rw [hQ]
      have HSA := Lib.hid hsa
      by_cases hlt : x < 10
      · have d1 : decide ((x : Int) < 10) = true := by simp; omega
        have he2 : [UInt8.ofNat (48 + d)] ++ q = res := by rw [← hls hlt]; exact he
        subst he2
        clear he hsa hnx hls hd hD hQ hb
        go_wp2
        go_ret
        exact ⟨by rw [HSA.out]; rfl, HB.out⟩
      · have d1 : decide ((x : Int) < 10) = false := by simp; omega
        obtain ⟨y, hy⟩ : ∃ y, x / 10 = y := ⟨_, rfl⟩
        have qy : (x : Int).tdiv 10 = (y : Int) := by rw [Int.tdiv_eq_ediv_of_nonneg (by omega)]; omega
        have he2 : Lib.decDigits y ++ ([UInt8.ofNat (48 + d)] ++ q) = res := by rw [← hy, ← List.append_assoc, ← hnx (by omega)]; exact he
        have hyx : y < x := by omega
        have HE := Lib.hid he2
        clear he hsa hnx hls hd hD hQ hb he2 hy
        go_wp2_with fail
        refine ⟨⟨y, _, rfl, by omega, by rw [HSA.out], HE.out, HB.out⟩, ?_⟩
        simp [intOf]; omega
  · rw [if_neg k2, hx1]
    have d2 : ((kd : Int) == 2) = false := by simpa using k2
    have dk : ((kd : Int) != 2) = true := by simpa using k2
    clear hx1 hn k2
    go_enter Tryd.func22, Tryd.ntmps22
    go_wp2
    go_ret
    exact ⟨rfl, (Below.refl _ _).alloc (Nat.le_refl _) _⟩
end Go.Proofs.YtdcdldjbdjochaaDoor
