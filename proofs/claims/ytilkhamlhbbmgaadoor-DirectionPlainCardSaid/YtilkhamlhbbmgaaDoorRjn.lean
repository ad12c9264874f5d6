/- The reference's Join. -/
import Derived.Test.YtilkhamlhbbmgaaDoorRrn
namespace Go.Proofs.YtilkhamlhbbmgaaDoor
open Go.RowKit

theorem take_all_ok {l : List Int} {k : Nat} (h : ∀ j (_ : j < l.length), j < k → okPt l[j] = true) (hk : k = l.length) : l.all okPt = true := by
  rw [List.all_eq_true]
  intro x hx
  obtain ⟨j, hj, rfl⟩ := List.mem_iff_getElem.1 hx
  exact h j hj (by omega)
theorem not_all_ok {l : List Int} {k : Nat} (hk : k < l.length) (h : okPt l[k] = false) : l.all okPt = false := by
  rw [List.all_eq_false]
  exact ⟨l[k], List.getElem_mem hk, by rw [h]; simp⟩
theorem encs_take_le (l : List Int) (k : Nat) : (encs (l.take k)).length ≤ (encs l).length := by
  have : encs l = encs (l.take k) ++ encs (l.drop k) := by rw [← encs_app, List.take_append_drop]
  rw [this, List.length_append]; omega
set_option maxRecDepth 100000 in
set_option maxHeartbeats 4000000 in
theorem rjoin_any (w : World) (v : Value) (l : List Int) (hv : IRow w w.heap.size v l) (hl : l.length ≤ 1000000) : Calls Tryd.prog 20 #[v] w fun e w' => e = .returned (.tuple #[.string (str (jnS l)), .int .i64 (jnE l)]) ∧ Below w.heap.size w w' := by
  obtain ⟨i0, hi, hz0, hz1, hz2⟩ := info_parts Tryd.info5r
  obtain ⟨a, c, rfl, hc, hm, h⟩ := hv
  unfold maxLen at hm
  have HC : Hid (∀ W, Below w.heap.size w W → ∀ k (hk : k < l.length), ∃ b off, a = some ⟨b, off, none⟩ ∧ W.cell? ⟨b, off + k, none⟩ = some (.int .i64 l[k])) := Lib.hid fun W hW k hk => by
    rcases h with rfl | ⟨b, off, rfl, hb, h⟩
    · simp at hk
    · exact ⟨b, off, rfl, (hW.cell (p := ⟨b, off + k, none⟩) hb).trans (h k hk)⟩
  have HE90 : Hid (l.all okPt = false → jnE l = 90 ∧ jnS l = []) := Lib.hid fun h => by unfold jnE jnS; rw [h]; exact ⟨rfl, rfl⟩
  have HE2 : Hid (l.all okPt = true → 4096 < (encs l).length → jnE l = 2 ∧ jnS l = []) := Lib.hid fun h h2 => by unfold jnE jnS; rw [h, if_pos rfl, if_pos h2, decide_eq_false (by omega)]; exact ⟨rfl, rfl⟩
  have HE0 : Hid (l.all okPt = true → (encs l).length ≤ 4096 → jnE l = 0 ∧ jnS l = encs l) := Lib.hid fun h h2 => by unfold jnE jnS; rw [h, if_pos rfl, if_neg (by omega), decide_eq_true h2]; exact ⟨rfl, rfl⟩
  obtain ⟨zE, hzE⟩ : ∃ z, jnE l = z := ⟨_, rfl⟩
  obtain ⟨zS, hzS⟩ : ∃ z, jnS l = z := ⟨_, rfl⟩
  rw [hzE, hzS] at HE90 HE2 HE0 ⊢
  have hbs := bs0_39
  obtain ⟨N, hN⟩ : ∃ N, l.length = N := ⟨_, rfl⟩
  have HN := Lib.hid hN
  rw [hN] at hc hl ⊢
  clear h hN hzE hzS
  go_enter Tryd.func20, Tryd.ntmps20
  go_wp2
  go_loop [4] (fun s4 => ∃ k : Nat, k ≤ N ∧ s4 = .int .i64 k ∧ Hid (∀ j (_ : j < l.length), j < k → okPt l[j] = true)) (fun s4 => N - (intOf s4).toNat)
  case atStart => exact ⟨0, Nat.zero_le _, rfl, Lib.hid fun j _ h => by omega⟩
  case round =>
    obtain ⟨k, hk, rfl, HJ⟩ := hrel
    by_cases hlt : k < N
    · have hkl : k < l.length := by rw [HN.out]; exact hlt
      obtain ⟨b, off, rfl, hcell⟩ := HC.out w (Below.refl _ _) k hkl
      obtain ⟨x, hx⟩ : ∃ x, l[k] = x := ⟨_, rfl⟩
      rw [hx] at hcell
      have HX := Lib.hid hx
      have HP := Lib.hid (fun W => point_any W x)
      clear hx
      cases hok : okPt x with
      | true =>
        have HOK := Lib.hid hok
        rw [hok] at HP
        clear hok
        go_wp2_with (go_at_call 46; refine (HP.out _).mono ?_; rintro e w' ⟨rfl, rfl⟩)
        go_round
        case rel =>
          refine ⟨k + 1, by omega, by go_num, Lib.hid fun j h hj => ?_⟩
          by_cases e : j < k
          · exact HJ.out j h e
          · obtain rfl : j = k := by omega
            rw [HX.out]; exact HOK.out
        case measure => simp [intOf]; omega
      | false =>
        rw [hok] at HP
        obtain ⟨rfl, rfl⟩ := HE90.out (not_all_ok hkl (by rw [HX.out]; exact hok))
        clear hok
        go_wp2_with (go_at_call 46; refine (HP.out _).mono ?_; rintro e w' ⟨rfl, rfl⟩)
        go_ret2
        exact ⟨rfl, Below.refl _ _⟩
    · have hkn : k = N := by omega
      subst hkn
      have hall := take_all_ok HJ.out HN.out.symm
      have HA := Lib.hid hall
      have HTA : Hid (l.take k = l) := Lib.hid (List.take_of_length_le (by rw [HN.out]; exact Nat.le_refl _))
      clear hall hlt
      go_wp2
      go_loopw [5, 6] (fun s5 s6 wr => ∃ j : Nat, j ≤ k ∧ s6 = .int .i64 j ∧ Hid ((encs (l.take j)).length ≤ 4100) ∧ Hid (Below w.heap.size w wr) ∧ Hid (wr.ownsRow w.heap.size 5 1 s5 (encs (l.take j)).length (cells8 (encs (l.take j))))) (fun _ s6 _ => k - (intOf s6).toNat)
      case atStart => exact ⟨0, Nat.zero_le _, rfl, Lib.hid (by simp [encs]), Lib.hid ((Below.refl _ _).alloc (Nat.le_refl _) _), Lib.hid (own_empty w _ 5 (Nat.le_refl _))⟩
      case round =>
        obtain ⟨j, hj, rfl, HL, HB, HO⟩ := hrel
        obtain ⟨oa, oc, rfl⟩ := own_slice HO.out
        have hcv := conv_own HO.out
        have HLE := Lib.hid (encs_take_le l j)
        have HTJ : Hid (j = k → l.take j = l) := Lib.hid (fun h => by rw [h]; exact HTA.out)
        by_cases hjk : j < k ∧ (encs (l.take j)).length ≤ 4096
        · obtain ⟨hjk, hle⟩ := hjk
          have hjl : j < l.length := by rw [HN.out]; exact hjk
          obtain ⟨b, off, rfl, hcell⟩ := HC.out wr HB.out j hjl
          have hok : okPt l[j] = true := all_ok HA.out _ (List.getElem_mem hjl)
          have HBY := Lib.hid (fun W => bytes_any W l[j] hok)
          have HT : Hid (encs (l.take (j + 1)) = encs (l.take j) ++ enc l[j]) := Lib.hid (encs_take hjl)
          obtain ⟨x, hx⟩ : ∃ x, l[j] = x := ⟨_, rfl⟩
          rw [hx] at hcell HBY HT
          obtain ⟨hx1, hx4⟩ := enc_len x
          obtain ⟨p, hp⟩ : ∃ p, encs (l.take j) = p := ⟨_, rfl⟩
          obtain ⟨eb, heb⟩ : ∃ p, enc x = p := ⟨_, rfl⟩
          rw [hp] at hle HO HT HL ⊢
          rw [heb] at HBY HT hx1 hx4
          obtain ⟨n, hn⟩ : ∃ n, p.length = n := ⟨_, rfl⟩
          obtain ⟨m, hm2⟩ : ∃ n, eb.length = n := ⟨_, rfl⟩
          have HNN := Lib.hid hn
          have HMM := Lib.hid hm2
          rw [hn] at hle HO ⊢
          rw [hm2] at hx1 hx4 HBY
          have d1 : decide ((n : Int) ≤ 4096) = true := by simp; omega
          clear hx hjl hok hp heb hn hm2 hcv
          go_wp2_with fail
          ((with_reducible refine (HBY.out _).mono ?_); rintro e w2 ⟨v2, rfl, hO2, hb2⟩)
          obtain ⟨g2, p2, rfl⟩ := own_head hO2 (by omega)
          have hcl2 := fun jj u hu => hO2.cells (g := g2) rfl jj u hu
          have HB2 := Lib.hid (HB.out.trans (hb2.mono HB.out.size))
          have HO3 := Lib.hid (own_after hb2 HO.out)
          have HO2 := Lib.hid hO2
          have hs2 := HB2.out.size
          clear hb2 hO2 HBY
          go_wp2_with (at_builtin; refine wpList_append_own _ rfl _ _ 39 rfl w.heap.size 5 i0 (.int .u8 0) 1 1 Tryd.underlying39 hi hz0 hz1 hz2 rfl (by decide) (.slice oa n oc) n (cells8 p) rfl HO3.out ⟨g2, 0, none⟩ m p2 (cells8 eb) rfl (by rw [cells8_len, HMM.out, Nat.mul_one]) hcl2 (one_cells8 _) (by unfold maxLen; omega) (by omega) (by omega) ?_; intro v' w3 hown' hgrow _; have HO4 := Lib.hid hown'; have HB4 := Lib.hid (HB2.out.grown hgrow (by omega) (fun r e => (HO3.out.lt r e).1)); clear hown' hgrow hcl2)
          go_roundw
          case rel => exact ⟨j + 1, by omega, by go_num, Lib.hid (by rw [HT.out, List.length_append, HNN.out, HMM.out]; omega), HB4, Lib.hid (by rw [HT.out, cells8_app, List.length_append, HNN.out, HMM.out]; exact HO4.out)⟩
          case measure => simp [intOf]; omega
        · have hcs : (j = k ∧ (encs (l.take j)).length ≤ 4096) ∨ 4096 < (encs (l.take j)).length := by
            by_cases h : (encs (l.take j)).length ≤ 4096
            · exact .inl ⟨by have : ¬ j < k := fun h2 => hjk ⟨h2, h⟩; omega, h⟩
            · exact .inr (by omega)
          clear hjk
          rcases hcs with ⟨rfl, hle⟩ | hgt
          · have htj := HTA.out
            rw [htj] at hle HO hcv ⊢
            obtain ⟨rfl, rfl⟩ := HE0.out HA.out hle
            obtain ⟨n, hn⟩ : ∃ n, (encs l).length = n := ⟨_, rfl⟩
            rw [hn] at hle HO hcv ⊢
            have d1 : decide ((n : Int) ≤ 4096) = true := by simp; omega
            have d2 : decide (4096 < (n : Int)) = false := by simp; omega
            clear htj hn
            go_wp2
            go_ret2
            exact ⟨rfl, HB.out⟩
          · obtain ⟨rfl, rfl⟩ := HE2.out HA.out (by have := HLE.out; omega)
            obtain ⟨n, hn⟩ : ∃ n, (encs (l.take j)).length = n := ⟨_, rfl⟩
            rw [hn] at hgt HO hcv ⊢
            have d1 : decide ((n : Int) ≤ 4096) = false := by simp; omega
            have d2 : decide (4096 < (n : Int)) = true := by simp; omega
            have hd : decide ((j : Int) < (k : Int)) = true ∨ decide ((j : Int) < (k : Int)) = false := by cases decide ((j : Int) < (k : Int)) <;> simp
            clear hn hcv
            by_cases hjk : j < k
            · go_wp2
              go_ret2
              exact ⟨rfl, HB.out⟩
            · go_wp2
              go_ret2
              exact ⟨rfl, HB.out⟩
end Go.Proofs.YtilkhamlhbbmgaaDoor
