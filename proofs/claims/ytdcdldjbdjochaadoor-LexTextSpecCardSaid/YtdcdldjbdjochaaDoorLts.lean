/- The law LexTextSpec, walked. -/
import Derived.Test.YtdcdldjbdjochaaDoorLbw
import Derived.Test.YtdcdldjbdjochaaDoorRtx
import Derived.Test.YtdcdldjbdjochaaDoorRsm
namespace Go.Proofs.YtdcdldjbdjochaaDoor
open Go.RowKit

theorem tsames_refl : ∀ l : List Tok, tsames l l = true
  | [] => rfl
  | t :: l => by rw [tsames, tsames_refl l]; unfold tsame; simp
/-- Text of few tokens, by the reference. -/
theorem rtext_few (W : World) (v : Value) (l : List Tok) (h : TRow W W.heap.size v l) (h0 : few l = true) (hf : Fit l) : Calls Tryd.prog 16 #[v] W (TextPost W (textAll l)) := by
  obtain ⟨h1, h2, h3⟩ := few_text h0 hf
  exact rtext_any W v l h (by omega) (fun t ht => by have := tot_mem l t ht; omega) (by omega)

set_option maxRecDepth 100000 in
set_option maxHeartbeats 8000000 in
theorem lawTextSpec (w : World) (v1 : Value) (l1 : List Tok) (h1 : TRow w w.heap.size v1 l1) (f1 : Fit l1) (v2 : Value) (l2 : List Tok) (h2 : TRow w w.heap.size v2 l2) (f2 : Fit l2) (s0 : ByteArray) (hT : Tab w) : Calls Tryd.prog 4 #[v1, v2, .string s0] w fun e w' => e = .returned (.bool true) ∧ Below w.heap.size w w' := by
  obtain ⟨bs, rfl⟩ : ∃ bs, s0 = str bs := ⟨s0.data.toList, (str_of s0).symm⟩
  have HT := Lib.hid hT
  have HSN := Lib.hid (sane_any w hT)
  have hsz := str_size bs
  have hr1 : ∀ W, Below w.heap.size w W → TRow W W.heap.size v1 l1 := fun W hW => h1.next hW
  have hr2 : ∀ W, Below w.heap.size w W → TRow W W.heap.size v2 l2 := fun W hW => h2.next hW
  have hfe1 : ∀ W, Below w.heap.size w W → Calls Tryd.prog 14 #[v1] W fun e w' => e = .returned (.bool (few l1)) ∧ Below W.heap.size W w' := fun W hW => rfew_any W v1 l1 (hr1 W hW) f1
  have hfe2 : ∀ W, Below w.heap.size w W → Calls Tryd.prog 14 #[v2] W fun e w' => e = .returned (.bool (few l2)) ∧ Below W.heap.size W w' := fun W hW => rfew_any W v2 l2 (hr2 W hW) f2
  have hsm : ∀ W, Below w.heap.size w W → Calls Tryd.prog 17 #[v1, v2] W fun e w' => e = .returned (.bool (tsames l1 l2)) ∧ Below W.heap.size W w' := fun W hW => same_any W _ _ _ _ (hr1 W hW) (hr2 W hW)
  have hrs : ∀ W, Below w.heap.size w W → Calls Tryd.prog 18 #[v1, v2] W fun e w' => e = .returned (.bool (tsames l1 l2)) ∧ Below W.heap.size W w' := fun W hW => rsame_any W _ _ _ _ (hr1 W hW) (hr2 W hW)
  have hss : ∀ W, Below w.heap.size w W → Calls Tryd.prog 17 #[v1, v1] W fun e w' => e = .returned (.bool true) ∧ Below W.heap.size W w' := fun W hW => tsames_refl l1 ▸ same_any W _ _ _ _ (hr1 W hW) (hr1 W hW)
  have htx : few l1 = true → ∀ W, Below w.heap.size w W → Calls Tryd.prog 15 #[v1] W (TextPost W (textAll l1)) := fun hf W hW => text_few W _ l1 (hr1 W hW) (HT.out.below hW) hf f1
  have hrt : few l1 = true → ∀ W, Below w.heap.size w W → Calls Tryd.prog 16 #[v1] W (TextPost W (textAll l1)) := fun hf W hW => rtext_few W _ l1 (hr1 W hW) hf f1
  have hnm : bs.length ≤ 1000 → ∀ W, Below w.heap.size w W → Calls Tryd.prog 19 #[.string (str bs)] W fun e w' => e = .returned (.bool (nameOk bs)) ∧ w' = W := fun hl W hW => name_any W bs (HT.out.below hW) (by omega)
  have hrn : bs.length ≤ 1000 → ∀ W, Calls Tryd.prog 20 #[.string (str bs)] W fun e w' => e = .returned (.bool (nameOk bs)) ∧ w' = W := fun hl W => rname_any W bs (by omega)
  obtain ⟨N, hN⟩ : ∃ N, bs.length = N := ⟨_, rfl⟩
  rw [hN] at hsz hnm hrn
  obtain ⟨s, hs⟩ : ∃ s, str bs = s := ⟨_, rfl⟩
  rw [hs] at hsz hnm hrn ⊢
  obtain ⟨t, ht⟩ : ∃ t, tsames l1 l2 = t := ⟨_, rfl⟩
  obtain ⟨o, ho⟩ : ∃ o, textAll l1 = o := ⟨_, rfl⟩
  obtain ⟨k, hk⟩ : ∃ k, nameOk bs = k := ⟨_, rfl⟩
  obtain ⟨q1, hq1⟩ : ∃ q, few l1 = q := ⟨_, rfl⟩
  obtain ⟨q2, hq2⟩ : ∃ q, few l2 = q := ⟨_, rfl⟩
  simp only [ht] at hsm hrs
  simp only [ho, hq1] at htx hrt
  simp only [hk] at hnm hrn
  simp only [hq1] at hfe1
  simp only [hq2] at hfe2
  have HFA := Lib.hid hfe1
  have HFB := Lib.hid hfe2
  have HSM := Lib.hid hsm
  have HRS := Lib.hid hrs
  have HSS := Lib.hid hss
  have HTX := Lib.hid htx
  have HRT := Lib.hid hrt
  have HNM := Lib.hid hnm
  have HRN := Lib.hid hrn
  obtain ⟨a1, c1, rfl, hl1, hm1, _⟩ := h1
  obtain ⟨a2, c2, rfl, hl2, hm2, _⟩ := h2
  clear hfe1 hfe2 hsm hrs hss htx hrt hnm hrn hr1 hr2 hT f1 f2 hN hs ht ho hk hq1 hq2
  cases q1 with
  | false =>
    go_enter Tryd.func4, Tryd.ntmps4
    go_wp2_with fail
    refine HSN.out.mono ?_
    rintro e w1 ⟨rfl, hb1⟩
    have HB1 := Lib.hid hb1
    clear hb1
    go_wp2_with fail
    refine (HFA.out w1 HB1.out).mono ?_
    rintro e w2 ⟨rfl, hb2⟩
    have HB2 := Lib.hid (HB1.out.trans (hb2.mono HB1.out.size))
    clear hb2
    go_wp2
    go_ret
    exact ⟨by simp, HB2.out⟩
  | true =>
    cases q2 with
    | false =>
      go_enter Tryd.func4, Tryd.ntmps4
      go_wp2_with fail
      refine HSN.out.mono ?_
      rintro e w1 ⟨rfl, hb1⟩
      have HB1 := Lib.hid hb1
      clear hb1
      go_wp2_with fail
      refine (HFA.out w1 HB1.out).mono ?_
      rintro e w2 ⟨rfl, hb2⟩
      have HB2 := Lib.hid (HB1.out.trans (hb2.mono HB1.out.size))
      clear hb2
      go_wp2_with fail
      refine (HFB.out w2 HB2.out).mono ?_
      rintro e w3 ⟨rfl, hb3⟩
      have HB3 := Lib.hid (HB2.out.trans (hb3.mono HB2.out.size))
      clear hb3
      go_wp2
      go_ret
      exact ⟨by simp, HB3.out⟩
    | true =>
      by_cases hlong : 1000 < N
      · have d : decide (1000 < (N : Int)) = true := by simp; omega
        go_enter Tryd.func4, Tryd.ntmps4
        go_wp2_with fail
        refine HSN.out.mono ?_
        rintro e w1 ⟨rfl, hb1⟩
        have HB1 := Lib.hid hb1
        clear hb1
        go_wp2_with fail
        refine (HFA.out w1 HB1.out).mono ?_
        rintro e w2 ⟨rfl, hb2⟩
        have HB2 := Lib.hid (HB1.out.trans (hb2.mono HB1.out.size))
        clear hb2
        go_wp2_with fail
        refine (HFB.out w2 HB2.out).mono ?_
        rintro e w3 ⟨rfl, hb3⟩
        have HB3 := Lib.hid (HB2.out.trans (hb3.mono HB2.out.size))
        clear hb3
        go_wp2
        go_ret
        exact ⟨by simp, HB3.out⟩
      · have d : decide (1000 < (N : Int)) = false := by simp; omega
        have htx := HTX.out rfl
        have hrt := HRT.out rfl
        have hnm := HNM.out (by omega)
        have hrn := HRN.out (by omega)
        have HX : Hid (∃ x e, ∀ W, Below w.heap.size w W → Calls Tryd.prog 15 #[.slice a1 l1.length c1] W (fun r w' => r = .returned (.tuple #[.string x, .int .i64 e]) ∧ Below W.heap.size W w') ∧ Calls Tryd.prog 16 #[.slice a1 l1.length c1] W (fun r w' => r = .returned (.tuple #[.string x, .int .i64 e]) ∧ Below W.heap.size W w')) := by
          cases o with
          | none => exact Lib.hid ⟨{ data := #[] }, 30, fun W hW => ⟨(htx W hW).mono fun _ _ h => ⟨h.2, h.1⟩, (hrt W hW).mono fun _ _ h => ⟨h.2, h.1⟩⟩⟩
          | some q => exact Lib.hid ⟨str q, 0, fun W hW => ⟨(htx W hW).mono fun _ _ h => ⟨h.2, h.1⟩, (hrt W hW).mono fun _ _ h => ⟨h.2, h.1⟩⟩⟩
        obtain ⟨x, z, hxz⟩ := HX.out
        have HXZ := Lib.hid hxz
        have HN1 := Lib.hid hnm
        have HN2 := Lib.hid hrn
        clear htx hrt hnm hrn HX HTX HRT HNM HRN hxz hlong
        go_enter Tryd.func4, Tryd.ntmps4
        go_wp2_with fail
        refine HSN.out.mono ?_
        rintro e w1 ⟨rfl, hb1⟩
        have HB1 := Lib.hid hb1
        clear hb1
        go_wp2_with fail
        refine (HFA.out w1 HB1.out).mono ?_
        rintro e w2 ⟨rfl, hb2⟩
        have HB2 := Lib.hid (HB1.out.trans (hb2.mono HB1.out.size))
        clear hb2
        go_wp2_with fail
        refine (HFB.out w2 HB2.out).mono ?_
        rintro e w3 ⟨rfl, hb3⟩
        have HB3 := Lib.hid (HB2.out.trans (hb3.mono HB2.out.size))
        clear hb3
        go_wp2_with fail
        refine (HXZ.out w3 HB3.out).1.mono ?_
        rintro e w4 ⟨rfl, hb4⟩
        have HB4 := Lib.hid (HB3.out.trans (hb4.mono HB3.out.size))
        clear hb4
        go_wp2_with fail
        refine (HXZ.out w4 HB4.out).2.mono ?_
        rintro e w5 ⟨rfl, hb5⟩
        have HB5 := Lib.hid (HB4.out.trans (hb5.mono HB4.out.size))
        clear hb5
        go_wp2_with fail
        refine (HSM.out w5 HB5.out).mono ?_
        rintro e w6 ⟨rfl, hb6⟩
        have HB6 := Lib.hid (HB5.out.trans (hb6.mono HB5.out.size))
        clear hb6
        go_wp2_with fail
        refine (HRS.out w6 HB6.out).mono ?_
        rintro e w7 ⟨rfl, hb7⟩
        have HB7 := Lib.hid (HB6.out.trans (hb7.mono HB6.out.size))
        clear hb7
        go_wp2_with fail
        refine (HSS.out w7 HB7.out).mono ?_
        rintro e w8 ⟨rfl, hb8⟩
        have HB8 := Lib.hid (HB7.out.trans (hb8.mono HB7.out.size))
        clear hb8
        go_wp2_with fail
        refine (HN1.out w8 HB8.out).mono ?_
        rintro e w9 ⟨rfl, rfl⟩
        go_wp2_with fail
        refine (HN2.out w9).mono ?_
        rintro e w10 ⟨rfl, rfl⟩
        go_wp2
        go_ret
        exact ⟨by simp, HB8.out⟩
end Go.Proofs.YtdcdldjbdjochaaDoor
