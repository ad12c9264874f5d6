/- The law LexWrong, walked. -/
import Derived.Test.YtdcdldjbdjochaaDoorSne
import Derived.Test.YtdcdldjbdjochaaDoorLwp
namespace Go.Proofs.YtdcdldjbdjochaaDoor
open Go.RowKit

set_option maxRecDepth 100000 in
set_option maxHeartbeats 8000000 in
theorem lawWrong (w : World) (s0 s1 : ByteArray) (hT : Tab w) (h0 : s0.size ≤ 140737488355328) (h1 : s1.size ≤ 140737488355328) : Calls Tryd.prog 8 #[.string s0, .string s1] w fun e w' => e = .returned (.bool true) ∧ Below w.heap.size w w' := by
  obtain ⟨bs, rfl⟩ : ∃ bs, s0 = str bs := ⟨s0.data.toList, (str_of s0).symm⟩
  obtain ⟨ms, rfl⟩ : ∃ bs, s1 = str bs := ⟨s1.data.toList, (str_of s1).symm⟩
  have HT := Lib.hid hT
  have hsz := str_size bs
  have hsz1 := str_size ms
  have HSN := Lib.hid (sane_any w hT)
  have hN0 : bs.length ≤ 140737488355328 := by omega
  have hN1 : ms.length ≤ 140737488355328 := by omega
  clear h0 h1
  by_cases hlong : 3000 < bs.length + ms.length
  · obtain ⟨N, hN⟩ : ∃ N, bs.length = N := ⟨_, rfl⟩
    obtain ⟨M, hM⟩ : ∃ N, ms.length = N := ⟨_, rfl⟩
    rw [hN] at hsz hlong hN0
    rw [hM] at hsz1 hlong hN1
    obtain ⟨s, hs⟩ : ∃ s, str bs = s := ⟨_, rfl⟩
    obtain ⟨t, ht⟩ : ∃ s, str ms = s := ⟨_, rfl⟩
    rw [hs] at hsz ⊢
    rw [ht] at hsz1 ⊢
    have d : decide (3000 < (N : Int) + (M : Int)) = true := by simp; omega
    clear hN hs hM ht hlong hT
    go_enter Tryd.func8, Tryd.ntmps8
    go_wp2_with fail
    refine HSN.out.mono ?_
    rintro e w1 ⟨rfl, hb1⟩
    have HB1 := Lib.hid hb1
    clear hb1
    go_wp2
    go_ret
    exact ⟨rfl, HB1.out⟩
  have hlx : ∀ W (l : List UInt8), Below w.heap.size w W → l.length ≤ 65536 → Calls Tryd.prog 11 #[.string (str l)] W (LexPost W (lexAll l)) := fun W l hW hl => lex_any W l (HT.out.below hW) hl
  have HLX := Lib.hid hlx
  obtain ⟨res, hres⟩ : ∃ res, lexAll bs = res := ⟨_, rfl⟩
  have hl0 := HLX.out
  cases res with
  | ok L =>
    have hl1 : ∀ W, Below w.heap.size w W → Calls Tryd.prog 11 #[.string (str bs)] W (LexPost W (.ok L)) := fun W hW => hres ▸ hlx W bs hW (by omega)
    obtain ⟨N, hN⟩ : ∃ N, bs.length = N := ⟨_, rfl⟩
    obtain ⟨M, hM⟩ : ∃ N, ms.length = N := ⟨_, rfl⟩
    rw [hN] at hsz hlong hN0
    rw [hM] at hsz1 hlong hN1
    obtain ⟨s, hs⟩ : ∃ s, str bs = s := ⟨_, rfl⟩
    obtain ⟨t, ht⟩ : ∃ s, str ms = s := ⟨_, rfl⟩
    rw [hs] at hsz hl1 ⊢
    rw [ht] at hsz1 ⊢
    have HL1 := Lib.hid hl1
    have d : decide (3000 < (N : Int) + (M : Int)) = false := by simp; omega
    clear hN hs hM ht hlong hT hl1 hlx HLX hres hl0
    go_enter Tryd.func8, Tryd.ntmps8
    go_wp2_with fail
    refine HSN.out.mono ?_
    rintro e w1 ⟨rfl, hb1⟩
    have HB1 := Lib.hid hb1
    clear hb1
    go_wp2_with fail
    refine (HL1.out w1 HB1.out).mono ?_
    rintro e w2 ⟨hb2, v, B, rfl, hB, hown⟩
    have HB2 := Lib.hid (HB1.out.trans (hb2.mono HB1.out.size))
    clear hb2 hown
    go_wp2
    go_ret
    exact ⟨rfl, HB2.out⟩
  | bad p =>
    obtain ⟨hp, ⟨L, e1⟩, e2, e3⟩ := lexAll_bad bs ms p hres
    have hl1 : ∀ W, Below w.heap.size w W → Calls Tryd.prog 11 #[.string (str bs)] W (LexPost W (.bad p)) := fun W hW => hres ▸ hlx W bs hW (by omega)
    have hl2 : ∀ W, Below w.heap.size w W → Calls Tryd.prog 11 #[.string ((str bs).extract 0 p)] W (LexPost W (.ok L)) := fun W hW => by
      rw [str_extract, List.drop_zero, Nat.sub_zero, ← e1]
      exact hlx W _ hW (by rw [List.length_take]; omega)
    have hl4 : ∀ W, Below w.heap.size w W → Calls Tryd.prog 11 #[.string ((str bs).extract p (str bs).size)] W (LexPost W (.bad 0)) := fun W hW => by
      rw [str_extract, str_size, List.take_of_length_le (by rw [List.length_drop]; omega), ← e3]
      exact hlx W _ hW (by rw [List.length_drop]; omega)
    have hl3 : ∀ W, Below w.heap.size w W → Calls Tryd.prog 11 #[.string (str bs ++ { data := #[32] } ++ str ms)] W (LexPost W (.bad p)) := fun W hW => by
      rw [show str bs ++ { data := #[32] } ++ str ms = str (bs ++ 32 :: ms) by apply ByteArray.ext; apply Array.toList_inj.1; simp [str], ← e2]
      exact hlx W _ hW (by simp; omega)
    obtain ⟨N, hN⟩ : ∃ N, bs.length = N := ⟨_, rfl⟩
    obtain ⟨M, hM⟩ : ∃ N, ms.length = N := ⟨_, rfl⟩
    rw [hN] at hsz hlong hN0 hp
    rw [hM] at hsz1 hlong hN1
    rw [hsz] at hl4
    obtain ⟨s, hs⟩ : ∃ s, str bs = s := ⟨_, rfl⟩
    obtain ⟨t, ht⟩ : ∃ s, str ms = s := ⟨_, rfl⟩
    rw [hs] at hsz hl1 ⊢
    rw [ht] at hsz1 ⊢
    simp only [hs, ht] at hl2 hl3 hl4
    have HL1 := Lib.hid hl1
    have HL2 := Lib.hid hl2
    have HL3 := Lib.hid hl3
    have HL4 := Lib.hid hl4
    have d : decide (3000 < (N : Int) + (M : Int)) = false := by simp; omega
    have d1 : decide ((p : Int) < 0) = false := by simp
    have d2 : decide ((N : Int) ≤ (p : Int)) = false := by simp; omega
    clear hN hs hM ht hlong hT hl1 hl2 hl3 hl4 hlx HLX hres hl0 e1 e2 e3
    go_enter Tryd.func8, Tryd.ntmps8
    go_wp2_with fail
    refine HSN.out.mono ?_
    rintro e w1 ⟨rfl, hb1⟩
    have HB1 := Lib.hid hb1
    clear hb1
    go_wp2_with fail
    refine (HL1.out w1 HB1.out).mono ?_
    rintro e w2 ⟨hb2, he⟩
    have he : e = .returned (.tuple #[.slice none 0 0, .int .i64 p, .int .i64 30]) := he
    subst he
    have HB2 := Lib.hid (HB1.out.trans (hb2.mono HB1.out.size))
    clear hb2 HL1
    go_wp2_with fail
    refine (HL2.out w2 HB2.out).mono ?_
    rintro e w3 ⟨hb3, v, B, rfl, hB, hown⟩
    have HB3 := Lib.hid (HB2.out.trans (hb3.mono HB2.out.size))
    clear hb3 hown hB HL2
    go_wp2_with fail
    refine (HL3.out w3 HB3.out).mono ?_
    rintro e w4 ⟨hb4, he⟩
    have he : e = .returned (.tuple #[.slice none 0 0, .int .i64 p, .int .i64 30]) := he
    subst he
    have HB4 := Lib.hid (HB3.out.trans (hb4.mono HB3.out.size))
    clear hb4 HL3
    go_wp2_with fail
    refine (HL4.out w4 HB4.out).mono ?_
    rintro e w5 ⟨hb5, he⟩
    have he : e = .returned (.tuple #[.slice none 0 0, .int .i64 ((0 : Nat) : Int), .int .i64 30]) := he
    subst he
    have HB5 := Lib.hid (HB4.out.trans (hb5.mono HB4.out.size))
    clear hb5 HL4
    go_wp2
    go_ret
    exact ⟨by simp, HB5.out⟩
end Go.Proofs.YtdcdldjbdjochaaDoor
