/- The law LexNames, walked. -/
import Derived.Test.YtdcdldjbdjochaaDoorSne
namespace Go.Proofs.YtdcdldjbdjochaaDoor
open Go.RowKit

theorem nameOk_lex {bs : List UInt8} (h : nameOk bs = true) : lexAll bs = .ok [⟨1, bs, 0, 0⟩] := by
  cases bs with
  | nil => cases h
  | cons b r =>
    have h0 := h
    simp only [nameOk, Bool.and_eq_true, beq_iff_eq] at h
    obtain ⟨⟨h1, h2⟩, h3⟩ := h
    have eL : stepL b r = (b :: r).length := by unfold stepL; rw [if_pos h2]; exact h3
    have eA : stepA b r = .tok 1 (b :: r) 0 := by
      unfold stepA
      rw [if_neg (by omega), if_pos h2, eL, List.take_length, if_pos h0]
    unfold lexAll
    rw [lexGo_cons _ _ _ _ (Nat.le_refl _), eA, eL, List.drop_length]
    simp only [lexGo_nil]
    rfl
theorem lexGo_at : ∀ (f k : Nat) (bs : List UInt8) (l : List Tok), lexGo f k bs = .ok l → ∀ t ∈ l, (k : Int) ≤ t.at_
  | 0, k, bs, l, h, t, ht => by rw [lexGo] at h; injection h with h; subst h; cases ht
  | f + 1, k, [], l, h, t, ht => by rw [lexGo] at h; injection h with h; subst h; cases ht
  | f + 1, k, b :: r, l, h, t, ht => by
    rw [lexGo] at h
    cases hA : stepA b r with
    | no => rw [hA] at h; cases h
    | pass =>
      rw [hA] at h
      have := lexGo_at f _ _ l h t ht
      omega
    | tok c tx n =>
      rw [hA] at h
      cases hr : lexGo f (k + stepL b r) ((b :: r).drop (stepL b r)) with
      | bad p => rw [hr] at h; cases h
      | ok m =>
        rw [hr] at h
        injection h with h
        subst h
        rcases List.mem_cons.1 ht with rfl | ht
        · exact Int.le_refl _
        · have := lexGo_at f _ _ m hr t ht
          omega
theorem lex_nameOk {bs : List UInt8} (h : lexAll bs = .ok [⟨1, bs, 0, 0⟩]) : nameOk bs = true := by
  cases bs with
  | nil => cases h
  | cons b r =>
    unfold lexAll at h
    rw [lexGo_cons _ _ _ _ (Nat.le_refl _)] at h
    have hp := stepL_pos b r
    cases hA : stepA b r with
    | no => rw [hA] at h; cases h
    | pass =>
      rw [hA] at h
      have := lexGo_at _ _ _ _ h _ (List.mem_singleton.2 rfl)
      simp at this
      omega
    | tok c tx n =>
      rw [hA] at h
      have hc : c = 1 ∧ tx = b :: r := by
        cases hr : lexGo (b :: r).length (0 + stepL b r) ((b :: r).drop (stepL b r)) with
        | bad p => rw [hr] at h; cases h
        | ok m => rw [hr] at h; injection h with h; injection h with h _; injection h with h1 h2; exact ⟨h1, h2⟩
      obtain ⟨rfl, rfl⟩ := hc
      unfold stepA at hA
      split at hA
      · cases hA
      · split at hA
        · split at hA
          · rename_i hok
            injection hA with _ e _
            rw [e] at hok
            exact hok
          · cases hA
        · split at hA
          · split at hA
            · injection hA with e; cases e
            · cases hA
          · split at hA
            · injection hA with e; cases e
            · split at hA
              · split at hA
                · cases hA
                · injection hA with e; cases e
              · cases hA

set_option maxRecDepth 100000 in
set_option maxHeartbeats 8000000 in
theorem lawNames (w : World) (s0 : ByteArray) (hT : Tab w) : Calls Tryd.prog 9 #[.string s0] w fun e w' => e = .returned (.bool true) ∧ Below w.heap.size w w' := by
  obtain ⟨bs, rfl⟩ : ∃ bs, s0 = str bs := ⟨s0.data.toList, (str_of s0).symm⟩
  have HT := Lib.hid hT
  have hsz := str_size bs
  have HSN := Lib.hid (sane_any w hT)
  by_cases hlong : 1000 < bs.length
  · obtain ⟨N, hN⟩ : ∃ N, bs.length = N := ⟨_, rfl⟩
    rw [hN] at hsz hlong
    obtain ⟨s, hs⟩ : ∃ s, str bs = s := ⟨_, rfl⟩
    rw [hs] at hsz ⊢
    have d : decide (1000 < (N : Int)) = true := by simp; omega
    clear hN hs hlong hT
    go_enter Tryd.func9, Tryd.ntmps9
    go_wp2_with fail
    refine HSN.out.mono ?_
    rintro e w1 ⟨rfl, hb1⟩
    have HB1 := Lib.hid hb1
    clear hb1
    go_wp2
    go_ret
    exact ⟨rfl, HB1.out⟩
  have hlx : ∀ W, Below w.heap.size w W → Calls Tryd.prog 11 #[.string (str bs)] W (LexPost W (lexAll bs)) := fun W hW => lex_any W bs (HT.out.below hW) (by omega)
  have hnm : ∀ W, Below w.heap.size w W → Calls Tryd.prog 19 #[.string (str bs)] W fun e w' => e = .returned (.bool (nameOk bs)) ∧ w' = W := fun W hW => name_any W bs (HT.out.below hW) (by omega)
  have htx : ∀ W, Below w.heap.size w W → Calls Tryd.prog 15 #[.slice (some ⟨W.heap.size, 0, none⟩) 1 1] (W.alloc (Obj.cells #[.int .i64 1, .string (str bs), .int .i64 0, .int .i64 0] 35)) fun e w' => Below W.heap.size W w' ∧ ∃ X, e = .returned (.tuple #[.string X, .int .i64 (if nameOk bs then 0 else 30)]) := fun W hW => by
    have hmz : TRow (W.alloc (Obj.cells (tcells [⟨1, bs, 0, 0⟩]).toArray 35)) (W.heap.size + 1) (.slice (some ⟨W.heap.size, 0, none⟩) 1 1) [⟨1, bs, 0, 0⟩] := TRow.made W _ 1 rfl (by unfold maxLen; omega)
    have hbw : Below W.heap.size W (W.alloc (Obj.cells (tcells [⟨1, bs, 0, 0⟩]).toArray 35)) := (Below.refl W.heap.size W).alloc (Nat.le_refl _) _
    have hj : (Lib.join (([⟨1, bs, 0, 0⟩] : List Tok).map textT) [32]).length ≤ 140737488355328 := by
      show (Lib.join [textT ⟨1, bs, 0, 0⟩] [32]).length ≤ _
      rw [Lib.join_one]
      show bs.length ≤ _
      omega
    have := text_any (W.alloc (Obj.cells (tcells [⟨1, bs, 0, 0⟩]).toArray 35)) _ [⟨1, bs, 0, 0⟩] (by rw [World.size_alloc]; exact hmz) ((HT.out.below hW).below hbw) (by simp) (fun t ht => by rw [List.mem_singleton.1 ht]; show bs.length ≤ _; omega) (fun t ht => by rw [List.mem_singleton.1 ht]; show (-9223372036854775808 : Int) ≤ 0 ∧ (0 : Int) ≤ 9223372036854775807; omega) hj
    refine this.mono fun e w' hp => ⟨hbw.trans (hp.1.mono hbw.size), ?_⟩
    have h2 := hp.2
    have hv : validT ⟨1, bs, 0, 0⟩ = nameOk bs := by unfold validT; simp
    unfold textAll at h2
    simp only [List.all_cons, List.all_nil, Bool.and_true, hv] at h2
    cases hn : nameOk bs with
    | true => rw [hn] at h2; exact ⟨_, h2⟩
    | false => rw [hn] at h2; exact ⟨_, h2⟩
  have hone : nameOk bs = true → lexAll bs = .ok [⟨1, bs, 0, 0⟩] := nameOk_lex
  have hnone : nameOk bs = false → lexAll bs ≠ .ok [⟨1, bs, 0, 0⟩] := fun h e => by rw [lex_nameOk e] at h; cases h
  have hstr := str_list bs
  have hinj : ∀ x : List UInt8, (str x).toList = (str bs).toList → x = bs := fun x h => by rw [str_list, str_list] at h; exact h
  have HINJ := Lib.hid hinj
  obtain ⟨res, hres⟩ : ∃ res, lexAll bs = res := ⟨_, rfl⟩
  rw [hres] at hlx hone hnone
  obtain ⟨nk, hnk⟩ : ∃ nk, nameOk bs = nk := ⟨_, rfl⟩
  simp only [hnk] at hnm htx hone hnone
  obtain ⟨N, hN⟩ : ∃ N, bs.length = N := ⟨_, rfl⟩
  rw [hN] at hsz hlong
  have HONE := Lib.hid hone
  have HNONE := Lib.hid hnone
  obtain ⟨s, hs⟩ : ∃ s, str bs = s := ⟨_, rfl⟩
  have HS := Lib.hid hs
  rw [hs] at hsz HINJ ⊢
  simp only [hs] at hlx hnm htx
  have d : decide (1000 < (N : Int)) = false := by simp; omega
  have HLX := Lib.hid hlx
  have HNM := Lib.hid hnm
  have HTX := Lib.hid htx
  clear hlx hnm htx hone hnone hres hnk hN hs hlong hT hstr hinj
  go_enter Tryd.func9, Tryd.ntmps9
  go_wp2_with fail
  refine HSN.out.mono ?_
  rintro e w1 ⟨rfl, hb1⟩
  have HB1 := Lib.hid hb1
  clear hb1 HSN
  go_wp2_with fail
  refine (HLX.out w1 HB1.out).mono ?_
  cases nk with
  | true =>
    have hr := HONE.out rfl
    subst hr
    rintro e w2 ⟨hb2, v, B, rfl, hB, hown⟩
    obtain ⟨a, cap, rfl⟩ := own_slice hown
    have ht := TRow.of_own hown
    obtain ⟨b1, o1, rfl, hl1, p0, p1, p2, p3⟩ := ht.got 0 (by simp)
    have HB2 := Lib.hid (HB1.out.trans (hb2.mono HB1.out.size))
    have q0 : w2.cell? ⟨b1, o1, none⟩ = some (.int .i64 1) := by simpa using p0
    have q1 : w2.cell? ⟨b1, o1 + 1, none⟩ = some (.string s) := by rw [← HS.out]; simpa using p1
    have q2 : w2.cell? ⟨b1, o1 + 2, none⟩ = some (.int .i64 0) := by simpa using p2
    have q3 : w2.cell? ⟨b1, o1 + 3, none⟩ = some (.int .i64 0) := by simpa using p3
    clear hb2 hown ht p0 p1 p2 p3 HLX
    go_wp2_with fail
    refine (HTX.out w2 HB2.out).mono ?_
    rintro e w3 ⟨hb3, X, rfl⟩
    have HB3 := Lib.hid (HB2.out.trans (hb3.mono HB2.out.size))
    clear hb3 HTX q0 q1 q2 q3
    go_wp2_with fail
    refine (HNM.out w3 HB3.out).mono ?_
    rintro e w4 ⟨rfl, rfl⟩
    go_wp2
    go_ret
    exact ⟨by simp, HB3.out⟩
  | false =>
    have hr := HNONE.out rfl
    have HRN := Lib.hid hr
    clear hr
    cases res with
    | bad p =>
      rintro e w2 ⟨hb2, he⟩
      have he : e = .returned (.tuple #[.slice none 0 0, .int .i64 p, .int .i64 30]) := he
      subst he
      have HB2 := Lib.hid (HB1.out.trans (hb2.mono HB1.out.size))
      clear hb2 HLX
      go_wp2_with fail
      refine (HTX.out w2 HB2.out).mono ?_
      rintro e w3 ⟨hb3, X, rfl⟩
      have HB3 := Lib.hid (HB2.out.trans (hb3.mono HB2.out.size))
      clear hb3 HTX
      go_wp2_with fail
      refine (HNM.out w3 HB3.out).mono ?_
      rintro e w4 ⟨rfl, rfl⟩
      go_wp2
      go_ret
      exact ⟨by simp, HB3.out⟩
    | ok L =>
      rintro e w2 ⟨hb2, v, B, rfl, hB, hown⟩
      obtain ⟨a, cap, rfl⟩ := own_slice hown
      have ht := TRow.of_own hown
      have HB2 := Lib.hid (HB1.out.trans (hb2.mono HB1.out.size))
      by_cases hL1 : L.length = 1
      · obtain ⟨t, rfl⟩ : ∃ t, L = [t] := by
          match L, hL1 with
          | [t], _ => exact ⟨t, rfl⟩
        obtain ⟨b1, o1, rfl, hl1, p0, p1, p2, p3⟩ := ht.got 0 (by simp)
        obtain ⟨kd, tx, tn, ta⟩ := t
        have q0 : w2.cell? ⟨b1, o1, none⟩ = some (.int .i64 kd) := by simpa using p0
        have q1 : w2.cell? ⟨b1, o1 + 1, none⟩ = some (.string (str tx)) := by simpa using p1
        have q2 : w2.cell? ⟨b1, o1 + 2, none⟩ = some (.int .i64 tn) := by simpa using p2
        have q3 : w2.cell? ⟨b1, o1 + 3, none⟩ = some (.int .i64 ta) := by simpa using p3
        have hnot : ¬ (kd = 1 ∧ (str tx).toList = s.toList ∧ ta = 0 ∧ tn = 0) := fun ⟨h1, h2, h3, h4⟩ => by
          have h5 := HINJ.out tx h2
          subst h1; subst h3; subst h4; subst h5
          exact HRN.out rfl
        obtain ⟨y, hy⟩ : ∃ y, str tx = y := ⟨_, rfl⟩
        rw [hy] at q1 hnot
        clear hb2 hown ht p0 p1 p2 p3 HLX HRN hy hL1
        have hcase : (((kd : Int) == 1) = false) ∨ (kd = 1 ∧ ¬ y.toList = s.toList) ∨ (kd = 1 ∧ y.toList = s.toList ∧ ((ta : Int) == 0) = false) ∨ (kd = 1 ∧ y.toList = s.toList ∧ ta = 0 ∧ ((tn : Int) == 0) = false) := by
          by_cases h1 : kd = 1
          · by_cases h2 : y.toList = s.toList
            · by_cases h3 : ta = 0
              · by_cases h4 : tn = 0
                · exact absurd ⟨h1, h2, h3, h4⟩ hnot
                · exact .inr (.inr (.inr ⟨h1, h2, h3, by simpa using h4⟩))
              · exact .inr (.inr (.inl ⟨h1, h2, by simpa using h3⟩))
            · exact .inr (.inl ⟨h1, h2⟩)
          · exact .inl (by simpa using h1)
        clear hnot
        rcases hcase with h1 | ⟨rfl, h2⟩ | ⟨rfl, h2, h3⟩ | ⟨rfl, h2, rfl, h4⟩
        all_goals
          go_wp2_with fail
          refine (HTX.out w2 HB2.out).mono ?_
          rintro e w3 ⟨hb3, X, rfl⟩
          have HB3 := Lib.hid (HB2.out.trans (hb3.mono HB2.out.size))
          clear hb3 HTX q0 q1 q2 q3
          go_wp2_with fail
          refine (HNM.out w3 HB3.out).mono ?_
          rintro e w4 ⟨rfl, rfl⟩
          go_wp2
          go_ret
          exact ⟨by simp, HB3.out⟩
      · have dL : ((L.length : Int) == 1) = false := by simp; omega
        clear hb2 hown ht HLX HRN hL1
        go_wp2_with fail
        refine (HTX.out w2 HB2.out).mono ?_
        rintro e w3 ⟨hb3, X, rfl⟩
        have HB3 := Lib.hid (HB2.out.trans (hb3.mono HB2.out.size))
        clear hb3 HTX
        go_wp2_with fail
        refine (HNM.out w3 HB3.out).mono ?_
        rintro e w4 ⟨rfl, rfl⟩
        go_wp2
        go_ret
        exact ⟨by simp, HB3.out⟩
end Go.Proofs.YtdcdldjbdjochaaDoor
