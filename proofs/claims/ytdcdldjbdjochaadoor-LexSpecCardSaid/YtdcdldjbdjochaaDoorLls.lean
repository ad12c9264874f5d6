/- The law LexSpec, walked. -/
import Derived.Test.YtdcdldjbdjochaaDoorRlx
import Derived.Test.YtdcdldjbdjochaaDoorReq
import Derived.Test.YtdcdldjbdjochaaDoorSne
namespace Go.Proofs.YtdcdldjbdjochaaDoor
open Go.RowKit

theorem tequal_refl (l : List Tok) : tequal l l = true := by
  have h1 : ∀ l : List Tok, tsames l l = true := fun l => by
    induction l with
    | nil => rfl
    | cons t l ih => rw [tsames, ih]; unfold tsame; simp
  have h2 : ∀ l : List Tok, pls l l = true := fun l => by
    induction l with
    | nil => rfl
    | cons t l ih => rw [pls, ih]; simp
  unfold tequal; rw [h1, h2]; rfl
/-- Both functions' answers: rows that read as the same tokens, and the same numbers. -/
def Both (w : World) (x : List Tok) (p e : Int) (r : Ending) (w' : World) : Prop := Below w.heap.size w w' ∧ ∃ v, r = .returned (.tuple #[v, .int .i64 p, .int .i64 e]) ∧ TRow w' w'.heap.size v x
theorem row_nil (w : World) : TRow w w.heap.size (.slice none 0 0) [] := ⟨none, 0, rfl, by simp, by unfold maxLen; omega, .inl rfl⟩
theorem both_of {w : World} {o : Res} {r : Ending} {w' : World} (h : LexPost w o r w') : (∃ p : Nat, o = .bad p ∧ Both w [] p 30 r w') ∨ ∃ x, o = .ok x ∧ Both w x 0 0 r w' := by
  obtain ⟨h1, h2⟩ := h
  cases o with
  | bad p => exact .inl ⟨p, rfl, h1, _, h2, row_nil _⟩
  | ok x =>
    obtain ⟨v, B, rfl, _, h3⟩ := h2
    exact .inr ⟨x, rfl, h1, v, rfl, TRow.of_own h3⟩

set_option maxRecDepth 100000 in
set_option maxHeartbeats 8000000 in
theorem lawSpec (w : World) (s0 : ByteArray) (hT : Tab w) : Calls Tryd.prog 3 #[.string s0] w fun e w' => e = .returned (.bool true) ∧ Below w.heap.size w w' := by
  obtain ⟨bs, rfl⟩ : ∃ bs, s0 = str bs := ⟨s0.data.toList, (str_of s0).symm⟩
  have HT := Lib.hid hT
  have hsz := str_size bs
  have HSN := Lib.hid (sane_any w hT)
  have hlx : ∃ (x : List Tok) (p e : Int), ∀ W, Below w.heap.size w W → Calls Tryd.prog 11 #[.string (str bs)] W (Both W x p e) ∧ Calls Tryd.prog 12 #[.string (str bs)] W (Both W x p e) := by
    by_cases hl : bs.length ≤ 65536
    · cases hr : lexAll bs with
      | bad p =>
        refine ⟨[], p, 30, fun W hW => ⟨?_, ?_⟩⟩
        · refine (hr ▸ lex_any W bs (HT.out.below hW) hl).mono fun e w' h => ?_
          rcases both_of h with ⟨q, h1, h2⟩ | ⟨x, h1, h2⟩
          · injection h1 with h1; subst h1; exact h2
          · cases h1
        · refine (hr ▸ rlex_any W bs hl).mono fun e w' h => ?_
          rcases both_of h with ⟨q, h1, h2⟩ | ⟨x, h1, h2⟩
          · injection h1 with h1; subst h1; exact h2
          · cases h1
      | ok x =>
        refine ⟨x, 0, 0, fun W hW => ⟨?_, ?_⟩⟩
        · refine (hr ▸ lex_any W bs (HT.out.below hW) hl).mono fun e w' h => ?_
          rcases both_of h with ⟨q, h1, h2⟩ | ⟨x, h1, h2⟩
          · cases h1
          · injection h1 with h1; subst h1; exact h2
        · refine (hr ▸ rlex_any W bs hl).mono fun e w' h => ?_
          rcases both_of h with ⟨q, h1, h2⟩ | ⟨x, h1, h2⟩
          · cases h1
          · injection h1 with h1; subst h1; exact h2
    · refine ⟨[], 0, 2, fun W _ => ⟨?_, ?_⟩⟩
      · exact (lex_long W bs (by omega)).mono fun e w' h => ⟨h.2, _, h.1, row_nil _⟩
      · exact (rlex_long W bs (by omega)).mono fun e w' h => ⟨h.2, _, h.1, row_nil _⟩
  obtain ⟨x, p, z, hxy⟩ := hlx
  have HXY := Lib.hid hxy
  obtain ⟨N, hN⟩ : ∃ N, bs.length = N := ⟨_, rfl⟩
  rw [hN] at hsz
  obtain ⟨s, hs⟩ : ∃ s, str bs = s := ⟨_, rfl⟩
  rw [hs] at hsz HXY ⊢
  have HEQ : Hid (∀ W v1 v2, TRow W W.heap.size v1 x → TRow W W.heap.size v2 x → Calls Tryd.prog 13 #[v1, v2] W fun e w' => e = .returned (.bool true) ∧ Below W.heap.size W w') := Lib.hid fun W v1 v2 h1 h2 => tequal_refl x ▸ requal_any W v1 v2 x x h1 h2
  clear hxy hN hs hT
  by_cases hlong : 70000 < N
  · have d : decide (70000 < (N : Int)) = true := by simp; omega
    go_enter Tryd.func3, Tryd.ntmps3
    go_wp2_with fail
    refine HSN.out.mono ?_
    rintro e w1 ⟨rfl, hb1⟩
    have HB1 := Lib.hid hb1
    clear hb1
    go_wp2
    go_ret
    exact ⟨by simp, HB1.out⟩
  · have d : decide (70000 < (N : Int)) = false := by simp; omega
    go_enter Tryd.func3, Tryd.ntmps3
    go_wp2_with fail
    refine HSN.out.mono ?_
    rintro e w1 ⟨rfl, hb1⟩
    have HB1 := Lib.hid hb1
    clear hb1
    go_wp2_with fail
    refine (HXY.out w1 HB1.out).1.mono ?_
    rintro e w2 ⟨hb2, v2, rfl, hr2⟩
    have HR2 := Lib.hid hr2
    have HB2 := Lib.hid (HB1.out.trans (hb2.mono HB1.out.size))
    clear hb2 hr2
    go_wp2_with fail
    refine (HXY.out w2 HB2.out).2.mono ?_
    rintro e w3 ⟨hb3, v3, rfl, hr3⟩
    have HR3 := Lib.hid hr3
    have HR23 := Lib.hid (HR2.out.next hb3)
    have HB3 := Lib.hid (HB2.out.trans (hb3.mono HB2.out.size))
    clear hb3 hr3
    go_wp2_with fail
    refine (HEQ.out w3 _ _ HR23.out HR3.out).mono ?_
    rintro e w4 ⟨rfl, hb4⟩
    have HB4 := Lib.hid (HB3.out.trans (hb4.mono HB3.out.size))
    clear hb4
    go_wp2
    go_ret
    exact ⟨by simp, HB4.out⟩
end Go.Proofs.YtdcdldjbdjochaaDoor
