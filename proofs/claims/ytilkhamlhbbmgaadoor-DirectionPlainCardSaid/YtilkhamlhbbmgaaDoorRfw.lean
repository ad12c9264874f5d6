/- The reference's first code point, walked. -/
import Derived.Test.YtilkhamlhbbmgaaDoorRfn
namespace Go.Proofs.YtilkhamlhbbmgaaDoor
open Go.RowKit

def c42_0 : Oper := { dst := some 43, op := Go.Op.move (Go.Operand.tmp 5), type := 3, pos := "ref.go:52", after := #[], guard := none }
def c42_1 : Oper := { dst := some 44, op := Go.Op.call { callee := Go.Callee.value (Go.Operand.func 46), args := #[Go.Operand.tmp 43], argTypes := #[3] }, type := 4, pos := "ref.go:52", after := #[{ on := 0, ground := Go.Ground.data }], guard := none }
def c42_2 : Oper := { dst := some 45, op := Go.Op.unOp Go.UnOp.not 4 (Go.Operand.tmp 44), type := 4, pos := "ref.go:52", after := #[{ on := 1, ground := Go.Ground.data }], guard := none }
def c42_3 : Oper := { dst := some 46, op := Go.Op.move (Go.Operand.tmp 45), type := 4, pos := "ref.go:52", after := #[{ on := 2, ground := Go.Ground.data }, { on := 1, ground := Go.Ground.chain }], guard := none }
def c42_4 : Oper := { dst := some 47, op := Go.Op.move (Go.Operand.tmp 5), type := 3, pos := "ref.go:52", after := #[{ on := 3, ground := Go.Ground.guard }], guard := some (3, false) }
def c42_5 : Oper := { dst := some 48, op := Go.Op.call { callee := Go.Callee.value (Go.Operand.func 47), args := #[Go.Operand.tmp 47], argTypes := #[3] }, type := 39, pos := "ref.go:52", after := #[{ on := 4, ground := Go.Ground.data }, { on := 3, ground := Go.Ground.chain }, { on := 3, ground := Go.Ground.guard }], guard := some (3, false) }
def c42_6 : Oper := { dst := some 49, op := Go.Op.convert 39 9 (Go.Operand.tmp 48), type := 9, pos := "ref.go:52", after := #[{ on := 5, ground := Go.Ground.data }, { on := 3, ground := Go.Ground.guard }], guard := some (3, false) }
def c42_7 : Oper := { dst := some 50, op := Go.Op.move (Go.Operand.tmp 0), type := 9, pos := "ref.go:52", after := #[{ on := 3, ground := Go.Ground.guard }], guard := some (3, false) }
def c42_8 : Oper := { dst := some 51, op := Go.Op.move (Go.Operand.tmp 4), type := 3, pos := "ref.go:52", after := #[{ on := 3, ground := Go.Ground.guard }], guard := some (3, false) }
def c42_9 : Oper := { dst := some 52, op := Go.Op.slice 9 (Go.Operand.tmp 50) none (some (Go.Operand.tmp 51)) none, type := 9, pos := "ref.go:52", after := #[{ on := 7, ground := Go.Ground.data }, { on := 8, ground := Go.Ground.data }, { on := 3, ground := Go.Ground.guard }], guard := some (3, false) }
def c42_10 : Oper := { dst := some 53, op := Go.Op.binOp Go.BinOp.neq 9 (Go.Operand.tmp 49) (Go.Operand.tmp 52) 9, type := 4, pos := "ref.go:52", after := #[{ on := 6, ground := Go.Ground.data }, { on := 9, ground := Go.Ground.data }, { on := 3, ground := Go.Ground.guard }], guard := some (3, false) }
def c42_11 : Oper := { dst := some 54, op := Go.Op.pick (Go.Operand.tmp 46) (Go.Operand.const (Go.Value.bool true)) (Go.Operand.tmp 53), type := 4, pos := "ref.go:52", after := #[{ on := 3, ground := Go.Ground.data }, { on := 10, ground := Go.Ground.data }], guard := none }

set_option maxRecDepth 100000 in
set_option maxHeartbeats 4000000 in
theorem first_any (w : World) (bs : List UInt8) (h0 : bs ≠ []) (hl : bs.length ≤ 1000000) : Calls Tryd.prog 42 #[.string (str bs)] w fun e w' => e = .returned (.tuple #[.int .i64 (fst1 bs), .int .i64 (fst2 bs)]) ∧ Below w.heap.size w w' := by
  have hl1 : 1 ≤ bs.length := by cases bs with | nil => exact absurd rfl h0 | cons _ _ => simp
  have hsz := str_size bs
  have HIX := Lib.hid (fun j (h : j < bs.length) W => run_str bs j h W)
  obtain ⟨hb2, hn4⟩ := lng_lt (bs.getD 0 0).toNat (u8_lt _)
  have HLG := Lib.hid (fun W => long_any W (bs.getD 0 0).toNat)
  have HOK : Hid (isBad bs = false → (lng (bs.getD 0 0).toNat).1 = (dcd bs).2 ∧ (∀ j, 1 ≤ j → j < (dcd bs).2 → isCont (bs.getD j 0) = true) ∧ rr (lng (bs.getD 0 0).toNat).2 bs (dcd bs).2 = (dcd bs).1) := Lib.hid (lng_ok h0)
  have HSZ : Hid (isBad bs = false → 1 ≤ (dcd bs).2 ∧ (dcd bs).2 ≤ bs.length) := Lib.hid (dcd_size h0)
  have HGD : Hid (isBad bs = false → okPt (dcd bs).1 = true ∧ enc (dcd bs).1 = bs.take (dcd bs).2) := Lib.hid (fun h => by
    obtain ⟨h1, h2, h3⟩ := dcd_ok h0 h
    refine ⟨h1, ?_⟩
    have := congrArg (List.take (dcd bs).2) h2
    rw [this, List.take_left' h3])
  obtain ⟨n, hn⟩ : ∃ n, (lng (bs.getD 0 0).toNat).1 = n := ⟨_, rfl⟩
  obtain ⟨r0, hr0⟩ : ∃ n, (lng (bs.getD 0 0).toNat).2 = n := ⟨_, rfl⟩
  rw [hn] at HLG HOK hn4
  rw [hr0] at HLG HOK hb2
  have HRL := Lib.hid (fun i h => rr_le (r0 := r0) (bs := bs) hb2 i h)
  have HEX : Hid (n ≤ bs.length → (str bs).extract 0 n = str (bs.take n)) := Lib.hid (fun h => by rw [str_extract]; simp)
  have h0i : ∀ W, (Instr.index 9 (.string (str bs)) (.int .i64 0)).run Tryd.prog W = .ok (.int .u8 (bs.getD 0 0).toNat) W := fun W => HIX.out 0 (by omega) W
  obtain ⟨b0, hb0⟩ : ∃ b, (bs.getD 0 0).toNat = b := ⟨_, rfl⟩
  have hb256 : b0 < 256 := by rw [← hb0]; exact u8_lt _
  rw [hb0] at HLG h0i
  have hw0 : IntKind.i64.wrap (b0 : Int) = b0 := by rw [IntKind.wrap_i64]; omega
  have hp0 : (0 : Int) ≤ (b0 : Int) := by omega
  have hp1 : (b0 : Int) < 256 := by omega
  have HZ1 : Hid (isBad bs = true → fst1 bs = 0 ∧ fst2 bs = 0) := Lib.hid (fun h => by unfold fst1 fst2; rw [if_pos h, if_pos h]; exact ⟨rfl, rfl⟩)
  have HZ2 : Hid (isBad bs = false → fst1 bs = (dcd bs).1 ∧ fst2 bs = (dcd bs).2) := Lib.hid (fun h => by unfold fst1 fst2; rw [if_neg (by rw [h]; simp), if_neg (by rw [h]; simp)]; exact ⟨rfl, rfl⟩)
  have HTK := Lib.hid (fun (r : Int) (h : okPt r = true) (he : enc r = bs.take n) (hn : n ≤ bs.length) => enc_take h he hn)
  obtain ⟨f1, hf1⟩ : ∃ z, fst1 bs = z := ⟨_, rfl⟩
  obtain ⟨f2, hf2⟩ : ∃ z, fst2 bs = z := ⟨_, rfl⟩
  rw [hf1, hf2] at HZ1 HZ2 ⊢
  obtain ⟨N, hN⟩ : ∃ N, bs.length = N := ⟨_, rfl⟩
  obtain ⟨s, hs⟩ : ∃ s, str bs = s := ⟨_, rfl⟩
  rw [hN] at hsz HIX HSZ HEX HTK hl hl1
  rw [hs] at HIX h0i HEX hsz ⊢
  have HN := Lib.hid hN
  clear h0 hn hr0 hb0 hf1 hf2 hN hs
  by_cases hbad : n = 0 ∨ N < n
  · -- no first byte, or too short
    have hz : f1 = 0 ∧ f2 = 0 := HZ1.out (by
      cases h : isBad bs with
      | true => rfl
      | false => have h1 := (HOK.out h).1; have h2 := HSZ.out h; omega)
    obtain ⟨rfl, rfl⟩ := hz
    have hcs : n = 0 ∨ (((n : Int) == 0) = false ∧ decide ((N : Int) < (n : Int)) = true ∧ decide (N < n) = true) := by
      rcases hbad with h | h
      · exact .inl h
      · by_cases h' : n = 0
        · exact .inl h'
        · exact .inr ⟨by simp; omega, by simp; omega, by simp; omega⟩
    clear hbad
    rcases hcs with rfl | ⟨g1, g2, g3⟩
    all_goals
      go_enter Tryd.func42, Tryd.ntmps42
      go_wp2_with fail
      ((with_reducible refine (HLG.out _).mono ?_); rintro e w' ⟨rfl, rfl⟩)
      go_wp2
      go_ret2
      exact ⟨rfl, Below.refl _ _⟩
  · have hn1 : 1 ≤ n := by omega
    have hnN : n ≤ N := by omega
    have g1 : ((n : Int) == 0) = false := by simp; omega
    have g2 : decide ((N : Int) < (n : Int)) = false := by simp; omega
    have g3 : decide (N < n) = false := by simp; omega
    clear hbad
    go_enter Tryd.func42, Tryd.ntmps42
    go_wp2_with fail
    ((with_reducible refine (HLG.out _).mono ?_); rintro e w' ⟨rfl, rfl⟩)
    go_wp2
    go_loop [5, 6, 7] (fun s5 s6 s7 => ∃ i : Nat, 1 ≤ i ∧ i ≤ n ∧ s6 = .int .i64 i ∧ s5 = .int .i64 (rr r0 bs i) ∧ Hid (∀ j, 1 ≤ j → j < i → isCont (bs.getD j 0) = true)) (fun _ s6 _ => n - (intOf s6).toNat)
    case atStart => exact ⟨1, Nat.le_refl _, hn1, rfl, rfl, Lib.hid fun j h1 h2 => by omega⟩
    case round =>
      obtain ⟨i, hi1, hin, rfl, rfl, HJ⟩ := hrel
      have hrl := HRL.out i HJ.out
      by_cases hlt : i < n
      · have hix := fun W => HIX.out i (by omega) W
        have hr1 := hrl.1
        have hr2 := hrl.2.2.2.1 (by omega)
        have HRS : Hid (rr r0 bs (i + 1) = rr r0 bs i * 64 + (bs.getD i 0).toNat - 128) := Lib.hid (by
          obtain ⟨j, rfl⟩ : ∃ j, i = j + 1 := ⟨i - 1, by omega⟩
          rfl)
        have HCT : Hid (isCont (bs.getD i 0) = ((bs.getD i 0).toNat / 64 == 2)) := Lib.hid rfl
        obtain ⟨b, hb⟩ : ∃ b, (bs.getD i 0).toNat = b := ⟨_, rfl⟩
        have hb2 : b < 256 := by rw [← hb]; exact u8_lt _
        have hwb : IntKind.i64.wrap (b : Int) = b := by rw [IntKind.wrap_i64]; omega
        have hq0 : (0 : Int) ≤ (b : Int) := by omega
        have hq1 : (b : Int) < 256 := by omega
        obtain ⟨R, hR⟩ : ∃ R, rr r0 bs i = R := ⟨_, rfl⟩
        rw [hb] at hix HRS HCT
        rw [hR] at hr1 hr2 HRS ⊢
        clear hb hR hrl
        by_cases hc : 128 ≤ b ∧ b < 192
        · obtain ⟨hc1, hc2⟩ := hc
          have t1 : decide ((b : Int) < 128) = false := by simp; omega
          have t2 : decide (192 ≤ (b : Int)) = false := by simp; omega
          have w1 : IntKind.i64.wrap (R * 64) = R * 64 := by rw [IntKind.wrap_i64]; omega
          have w2 : IntKind.i64.wrap (R * 64 + (b : Int)) = R * 64 + b := by rw [IntKind.wrap_i64]; omega
          have w3 : IntKind.i64.wrap (R * 64 + (b : Int) - 128) = R * 64 + b - 128 := by rw [IntKind.wrap_i64]; omega
          have HC1 := Lib.hid hc1
          have HC2 := Lib.hid hc2
          clear hc1 hc2
          go_wp2
          go_round
          case rel =>
            refine ⟨i + 1, by omega, by omega, by go_num, by rw [HRS.out], Lib.hid fun j h1 h2 => ?_⟩
            by_cases e : j < i
            · exact HJ.out j h1 e
            · obtain rfl : j = i := by omega
              rw [HCT.out, beq_iff_eq]
              have := HC1.out
              have := HC2.out
              omega
          case measure => simp [intOf]; omega
        · have hz : f1 = 0 ∧ f2 = 0 := HZ1.out (by
            cases h : isBad bs with
            | true => rfl
            | false =>
              obtain ⟨h1, h2, _⟩ := HOK.out h
              have := h2 i hi1 (by omega)
              rw [HCT.out, beq_iff_eq] at this
              omega)
          obtain ⟨rfl, rfl⟩ := hz
          have t1 : decide ((b : Int) < 128) = true ∨ (decide ((b : Int) < 128) = false ∧ decide (192 ≤ (b : Int)) = true) := by
            by_cases h : b < 128
            · exact .inl (by simp; omega)
            · exact .inr ⟨by simp; omega, by simp; omega⟩
          clear hc
          rcases t1 with t1 | ⟨t1, t2⟩
          all_goals
            go_wp2
            go_ret2
            exact ⟨rfl, Below.refl _ _⟩
      · have hin2 : i = n := by omega
        subst hin2
        have hex := HEX.out hnN
        obtain ⟨R, hR⟩ : ∃ R, rr r0 bs i = R := ⟨_, rfl⟩
        have HRR := Lib.hid hR
        rw [hR] at hrl ⊢
        clear hR hlt
        cases hok : okPt R with
        | false =>
          have hz : f1 = 0 ∧ f2 = 0 := HZ1.out (by
            cases h : isBad bs with
            | true => rfl
            | false =>
              obtain ⟨h1, h2, h3⟩ := HOK.out h
              have h4 := (HGD.out h).1
              rw [← h3, ← h1, HRR.out, hok] at h4
              cases h4)
          obtain ⟨rfl, rfl⟩ := hz
          have HP := Lib.hid (fun W => point_any W R)
          rw [hok] at HP
          clear hok hex hrl
          go_wp2_with fail
          go_quiet ((go_at_call 46; exact Calls.quiet_of_same (HP.out _)))
          go_wp2
          go_ret2
          exact ⟨rfl, below_drewN (Below.refl _ _) _⟩
        | true =>
          have HP := Lib.hid (fun W => point_any W R)
          rw [hok] at HP
          have HBY := Lib.hid (fun W => bytes_any W R hok)
          have HTK2 := Lib.hid (fun he => HTK.out R hok he hnN)
          obtain ⟨eb, heb⟩ : ∃ z, enc R = z := ⟨_, rfl⟩
          obtain ⟨tb, htb⟩ : ∃ z, bs.take i = z := ⟨_, rfl⟩
          have HEB := Lib.hid heb
          have HTB := Lib.hid htb
          rw [heb] at HBY
          rw [htb] at hex
          clear heb htb hok hrl
          have hxy : eb = tb ∨ (!((str eb).toList == (str tb).toList)) = true := by
            by_cases h : eb = tb
            · exact .inl h
            · refine .inr ?_
              rw [Lib.toList_data, Lib.toList_data, str_toList, str_toList]
              simpa using h
          have HXY := Lib.hid hxy
          clear hxy
          obtain ⟨sx, hsx⟩ : ∃ z, str eb = z := ⟨_, rfl⟩
          obtain ⟨sy, hsy⟩ : ∃ z, str tb = z := ⟨_, rfl⟩
          rw [hsy] at hex
          have HSX := Lib.hid hsx
          have HSY := Lib.hid hsy
          clear hsx hsy
          have hb : ∃ bb, (!(sx.toList == sy.toList)) = bb := ⟨_, rfl⟩
          obtain ⟨bb, hbb⟩ := hb
          have HBB := Lib.hid hbb
          have hi0 : (0 : Int) ≤ (i : Int) := by omega
          have hiN : (i : Int) ≤ (N : Int) := by omega
          go_wp2_with fail
          refine wp_region_ends (fun W => Kept w' W) (by kernel_rfl) (Kept.drew (Kept.refl w')) (fun KR hKR hHeld => ?_)
          refine wpAnyH_take (i := 0) (oi := c42_0) (v := ?_) rfl (by kernel_rfl) (by kernel_rfl) (by kernel_rfl) (fun _ _ _ h => h) (Or.inl ⟨by rfl, ?_⟩) hHeld ?_
          rotate_left
          · (intro w hSw; (try dsimp only at hSw); unfold c42_0; go_simp <;> with_reducible rfl)
          try simp only [c42_0, Act.put, List.setIfInBounds_toArray, List.set_cons_zero, List.set_cons_succ]
          refine wpAnyH_ready (rs := [1]) (by kernel_rfl) (by simp) ?_
          refine AllReadyH.cons (o := c42_1) rfl (fun K hK => ?_) AllReadyH.nil
          rw [if_pos (by rfl)]
          unfold c42_1
          go_simp
          (with_reducible refine (HP.out _).mono ?_)
          rintro e W1 ⟨rfl, rfl⟩
          have hS := hHeld
          go_wp2_with fail
          refine hK.out _ _ hS (fun hHeld => ?_)
          clear hK K
          try simp only [c42_1, Act.put, List.setIfInBounds_toArray, List.set_cons_zero, List.set_cons_succ]
          refine wpAnyH_take (i := 2) (oi := c42_2) (v := ?_) rfl (by kernel_rfl) (by kernel_rfl) (by kernel_rfl) (fun _ _ _ h => h) (Or.inl ⟨by rfl, ?_⟩) hHeld ?_
          rotate_left
          · (intro w hSw; (try dsimp only at hSw); unfold c42_2; go_simp <;> with_reducible rfl)
          try simp only [c42_2, Act.put, List.setIfInBounds_toArray, List.set_cons_zero, List.set_cons_succ]
          refine wpAnyH_take (i := 3) (oi := c42_3) (v := ?_) rfl (by kernel_rfl) (by kernel_rfl) (by kernel_rfl) (fun _ _ _ h => h) (Or.inl ⟨by rfl, ?_⟩) hHeld ?_
          rotate_left
          · (intro w hSw; (try dsimp only at hSw); unfold c42_3; go_simp <;> with_reducible rfl)
          try simp only [c42_3, Act.put, List.setIfInBounds_toArray, List.set_cons_zero, List.set_cons_succ]
          refine wpAnyH_take (i := 4) (oi := c42_4) (v := ?_) rfl (by kernel_rfl) (by kernel_rfl) (by kernel_rfl) (fun _ _ _ h => h) (Or.inl ⟨by rfl, ?_⟩) hHeld ?_
          rotate_left
          · (intro w hSw; (try dsimp only at hSw); unfold c42_4; go_simp <;> with_reducible rfl)
          try simp only [c42_4, Act.put, List.setIfInBounds_toArray, List.set_cons_zero, List.set_cons_succ]
          refine wpAnyH_take (i := 7) (oi := c42_7) (v := ?_) rfl (by kernel_rfl) (by kernel_rfl) (by kernel_rfl) (fun _ _ _ h => h) (Or.inl ⟨by rfl, ?_⟩) hHeld ?_
          rotate_left
          · (intro w hSw; (try dsimp only at hSw); unfold c42_7; go_simp <;> with_reducible rfl)
          try simp only [c42_7, Act.put, List.setIfInBounds_toArray, List.set_cons_zero, List.set_cons_succ]
          refine wpAnyH_take (i := 8) (oi := c42_8) (v := ?_) rfl (by kernel_rfl) (by kernel_rfl) (by kernel_rfl) (fun _ _ _ h => h) (Or.inl ⟨by rfl, ?_⟩) hHeld ?_
          rotate_left
          · (intro w hSw; (try dsimp only at hSw); unfold c42_8; go_simp <;> with_reducible rfl)
          try simp only [c42_8, Act.put, List.setIfInBounds_toArray, List.set_cons_zero, List.set_cons_succ]
          refine wpAnyH_take (i := 9) (oi := c42_9) (v := ?_) rfl (by kernel_rfl) (by kernel_rfl) (by kernel_rfl) (fun _ _ _ h => h) (Or.inl ⟨by rfl, ?_⟩) hHeld ?_
          rotate_left
          · (intro w hSw; (try dsimp only at hSw); unfold c42_9; go_simp <;> with_reducible rfl)
          try simp only [c42_9, Act.put, List.setIfInBounds_toArray, List.set_cons_zero, List.set_cons_succ]
          refine wpAnyH_ready (rs := [5]) (by kernel_rfl) (by simp) ?_
          refine AllReadyH.cons (o := c42_5) rfl (fun K hK => ?_) AllReadyH.nil
          rw [if_pos (by rfl)]
          unfold c42_5
          go_simp
          (with_reducible refine (HBY.out _).mono ?_)
          rintro e W1 ⟨v1, rfl, hO1, hB1⟩
          have hS := hHeld.next hB1; obtain ⟨va, vc, rfl⟩ := own_slice hO1; have hcv := conv_own hO1; rw [HSX.out] at hcv
          go_wp2_with fail
          refine hK.out _ _ hS (fun hHeld => ?_)
          clear hK K
          try simp only [c42_5, Act.put, List.setIfInBounds_toArray, List.set_cons_zero, List.set_cons_succ]
          refine wpAnyH_ready (rs := [6]) (by kernel_rfl) (by simp) ?_
          refine AllReadyH.cons (o := c42_6) rfl (fun K hK => ?_) AllReadyH.nil
          rw [if_pos (by rfl)]
          unfold c42_6
          go_simp
          refine hK.out _ _ hHeld (fun hHeld => ?_)
          clear hK K
          try simp only [c42_6, Act.put, List.setIfInBounds_toArray, List.set_cons_zero, List.set_cons_succ]
          refine wpAnyH_take (i := 10) (oi := c42_10) (v := ?_) rfl (by kernel_rfl) (by kernel_rfl) (by kernel_rfl) (fun _ _ _ h => h) (Or.inl ⟨by rfl, ?_⟩) hHeld ?_
          rotate_left
          · (intro w hSw; (try dsimp only at hSw); unfold c42_10; go_simp <;> with_reducible rfl)
          try simp only [c42_10, Act.put, List.setIfInBounds_toArray, List.set_cons_zero, List.set_cons_succ]
          refine wpAnyH_take (i := 11) (oi := c42_11) (v := ?_) rfl (by kernel_rfl) (by kernel_rfl) (by kernel_rfl) (fun _ _ _ h => h) (Or.inl ⟨by rfl, ?_⟩) hHeld ?_
          rotate_left
          · (intro w hSw; (try dsimp only at hSw); unfold c42_11; go_simp <;> with_reducible rfl)
          try simp only [c42_11, Act.put, List.setIfInBounds_toArray, List.set_cons_zero, List.set_cons_succ]
          refine wpAnyH_done (by kernel_rfl) ?_ _
          refine hKR _ _ ?_
          have HH := Lib.hid hHeld
          clear hHeld hS hB1 hcv hO1
          cases bb with
          | true =>
            have hz : f1 = 0 ∧ f2 = 0 := HZ1.out (by
              cases h : isBad bs with
              | true => rfl
              | false =>
                obtain ⟨h1, h2, h3⟩ := HOK.out h
                have h4 := (HGD.out h).2
                rw [← h3, ← h1, HRR.out, HEB.out, HTB.out] at h4
                have h5 := HBB.out
                rw [← HSX.out, ← HSY.out, h4] at h5
                simp at h5)
            obtain ⟨rfl, rfl⟩ := hz
            go_wp2
            go_ret2
            exact ⟨rfl, HH.out⟩
          | false =>
            have he : eb = tb := by
              rcases HXY.out with h | h
              · exact h
              · rw [HSX.out, HSY.out, HBB.out] at h; cases h
            have h6 := HTK2.out (by rw [HEB.out, HTB.out]; exact he)
            have hz : f1 = R ∧ f2 = (i : Int) := by
              obtain ⟨h7, h8⟩ := HZ2.out h6.1
              have h9 := HRL.out i HJ.out
              rw [HRR.out] at h9
              rw [h7, h8, h6.2]
              exact ⟨by dsimp only; omega, rfl⟩
            obtain ⟨rfl, rfl⟩ := hz
            go_wp2
            go_ret2
            exact ⟨rfl, HH.out⟩
end Go.Proofs.YtilkhamlhbbmgaaDoor
