/- text.Split, text.Word, the reference's Word; rows of texts. -/
import Derived.Test.YtilkhamlhbbmgaaDoorRjn
import Derived.Test.YtilkhamlhbbmgaaDoorFld
namespace Go.Proofs.YtilkhamlhbbmgaaDoor
open Go.RowKit

def scells (l : List (List UInt8)) : List Value := l.map fun b => .string (str b)
theorem scells_len (l : List (List UInt8)) : (scells l).length = l.length := by simp [scells]
theorem scells_app (l m : List (List UInt8)) : scells (l ++ m) = scells l ++ scells m := by simp [scells]
/-- What Split returns. -/
def spV (bs : List UInt8) : List (List UInt8) := if rnsE bs = 0 then (flds isSp [] (rnsV bs)).map encs else []
theorem rns_ok {bs : List UInt8} (h : rnsE bs = 0) : bs.length ≤ 4096 ∧ rsL bs = some (rnsV bs) ∧ (∀ r ∈ rnsV bs, okPt r = true) ∧ bs = encs (rnsV bs) := by
  unfold rnsE at h
  by_cases hl : 4096 < bs.length
  · rw [if_pos hl] at h; cases h
  · rw [if_neg hl] at h
    cases hr : rsL bs with
    | none => rw [hr] at h; cases h
    | some l =>
      have e : rnsV bs = l := by unfold rnsV; rw [if_neg hl, hr]; rfl
      rw [e]
      obtain ⟨h1, h2⟩ := rsL_iff.1 hr
      exact ⟨by omega, rfl, h1, h2⟩
theorem rns_no {bs : List UInt8} (h : rnsE bs ≠ 0) : rnsV bs = [] := by
  unfold rnsE at h
  unfold rnsV
  by_cases hl : 4096 < bs.length
  · rw [if_pos hl]
  · rw [if_neg hl] at h ⊢
    cases hr : rsL bs with
    | none => rfl
    | some l => rw [hr] at h; exact absurd rfl h
/-- What Split ends in. -/
def SplitPost (w : World) (z : Int) (l : List (List UInt8)) (e : Ending) (w' : World) : Prop :=
  ∃ v, e = .returned (.tuple #[v, .int .i64 z]) ∧ w'.ownsRow w.heap.size 9 1 v l.length (scells l) ∧ Below w.heap.size w w'
set_option maxRecDepth 100000 in
set_option maxHeartbeats 1000000 in
theorem split_any (w : World) (bs : List UInt8) (hT : UTab w) : Calls Tryd.prog 24 #[.string (str bs)] w (SplitPost w (rnsE bs) (spV bs)) := by
  have HRU := Lib.hid (runes_any w bs hT)
  by_cases hz : rnsE bs = 0
  · obtain ⟨h1, h2, h3, h4⟩ := rns_ok hz
    have HFF : Hid (∀ W, Calls Tryd.prog 49 #[.string (str bs), .func (.func 50) #[] #[]] W fun e w' => ∃ v, e = .returned v ∧ w'.ownsRow W.heap.size 9 1 v (spV bs).length (scells (spV bs)) ∧ Below W.heap.size W w') := Lib.hid fun W => by
      have h := Tryd.strings_FieldsFunc_runes 50 #[] (enters_of Tryd.func50 (by kernel_rfl) rfl) (fun x => isSp (x : Int)) (str bs) W (by rw [str_size]; omega) (fun W' x hx _ => (spaceR_any W' x hx).mono fun e w' ⟨he, hw⟩ => ⟨he, 0, hw⟩)
      have hg := goFields_flds isSp (rnsV bs) h3
      rw [← h4] at hg
      rw [hg] at h
      unfold spV
      rw [if_pos hz]
      refine h.mono ?_
      rintro e w' ⟨A, rfl, _, h5, h6⟩
      refine ⟨_, rfl, ?_, h6⟩
      simpa [scells, List.map_map, Function.comp_def] using h5
    obtain ⟨l, hl⟩ : ∃ l, rnsV bs = l := ⟨_, rfl⟩
    obtain ⟨ss, hss⟩ : ∃ l, spV bs = l := ⟨_, rfl⟩
    obtain ⟨s, hs⟩ : ∃ s, str bs = s := ⟨_, rfl⟩
    rw [hz, hl, hs] at HRU
    rw [hss, hs] at HFF
    rw [hss, hz, hs]
    clear hl hss hs hz h1 h2 h3 h4
    go_enter Tryd.func24, Tryd.ntmps24
    go_wp2_with fail
    refine HRU.out.mono ?_
    rintro e w1 ⟨v, rfl, ho, hb⟩
    have HB := Lib.hid hb
    clear ho hb
    go_wp2_with fail
    refine (HFF.out w1).mono ?_
    rintro e w2 ⟨v2, rfl, ho2, hb2⟩
    have HO2 := Lib.hid ho2
    have HB2 := Lib.hid hb2
    clear ho2 hb2
    go_wp2
    go_ret2
    exact ⟨_, rfl, own_base HO2.out HB.out.size, HB.out.trans (HB2.out.mono HB.out.size)⟩
  · have e1 : spV bs = [] := by unfold spV; rw [if_neg hz]
    rw [e1]
    obtain ⟨l, hl⟩ : ∃ l, rnsV bs = l := ⟨_, rfl⟩
    obtain ⟨z, hz2⟩ : ∃ l, rnsE bs = l := ⟨_, rfl⟩
    obtain ⟨s, hs⟩ : ∃ s, str bs = s := ⟨_, rfl⟩
    rw [hz2] at hz
    rw [hz2, hl, hs] at HRU
    rw [hz2, hs]
    have d : (z == 0) = false := by simpa using hz
    have d2 : (z != 0) = true := by simpa using hz
    clear hl hs hz2 hz e1
    go_enter Tryd.func24, Tryd.ntmps24
    go_wp2_with fail
    refine HRU.out.mono ?_
    rintro e w1 ⟨v, rfl, ho, hb⟩
    have HB := Lib.hid hb
    clear ho hb
    go_wp2
    go_ret2
    exact ⟨_, rfl, World.ownsRow_nil _ _ _ _, HB.out⟩

/-- Is a text a word? -/
def wordB (bs : List UInt8) : Bool := decide (bs ≠ []) && decide (bs.length ≤ 64) && decide (rnsE bs = 0) && !(rnsV bs).any isSp
set_option maxRecDepth 100000 in
set_option maxHeartbeats 1000000 in
theorem word_any (w : World) (bs : List UInt8) (hT : UTab w) : Calls Tryd.prog 27 #[.string (str bs)] w fun e w' => e = .returned (.bool (wordB bs)) ∧ Below w.heap.size w w' := by
  have HRU := Lib.hid (runes_any w bs hT)
  have hsz := str_size bs
  have hst : (str bs).toList = bs := by rw [Lib.toList_data, str_toList]
  unfold wordB
  by_cases h0 : bs = []
  · subst h0
    rw [decide_eq_false (by simp)]
    obtain ⟨s, hs⟩ : ∃ s, str [] = s := ⟨_, rfl⟩
    rw [hs] at hst ⊢
    have hne : s.toList.isEmpty = true := by rw [hst]; rfl
    clear hs hsz HRU
    go_enter Tryd.func27, Tryd.ntmps27
    go_wp2
    go_ret
    exact ⟨rfl, Below.refl _ _⟩
  · rw [decide_eq_true h0]
    have hnl : ¬ (str bs).toList = [] := by rw [hst]; exact h0
    have hne : (str bs).toList.isEmpty = false := by rw [hst]; cases bs with | nil => exact absurd rfl h0 | cons _ _ => rfl
    obtain ⟨s, hs⟩ : ∃ s, str bs = s := ⟨_, rfl⟩
    obtain ⟨N, hN⟩ : ∃ s, bs.length = s := ⟨_, rfl⟩
    obtain ⟨z, hz⟩ : ∃ s, rnsE bs = s := ⟨_, rfl⟩
    obtain ⟨l, hl⟩ : ∃ s, rnsV bs = s := ⟨_, rfl⟩
    rw [hs, hN] at hsz
    rw [hs] at hnl hne
    rw [hs, hz, hl] at HRU
    rw [hs, hN, hz, hl]
    clear hst hs hN hz hl h0 hT
    by_cases h64 : N ≤ 64
    · have d : decide (64 < (N : Int)) = false := by simp; omega
      rw [decide_eq_true h64]
      by_cases h0 : z = 0
      · subst h0
        rw [decide_eq_true rfl]
        simp only [Bool.true_and]
        have HC := Lib.hid (fun W v (h : IRow W W.heap.size v l) => contains_51 W v l h)
        cases ha : l.any isSp <;> rw [ha] at HC
        all_goals
          go_enter Tryd.func27, Tryd.ntmps27
          go_wp2_with fail
          refine HRU.out.mono ?_
          rintro e w1 ⟨v, rfl, ho, hb⟩
          have HB := Lib.hid hb
          have HC1 := Lib.hid (HC.out w1 v (IRow.of_own ho))
          clear ho hb
          go_wp2_with fail
          refine HC1.out.mono ?_
          rintro e w2 ⟨rfl, hb2⟩
          have HB2 := Lib.hid hb2
          clear hb2
          go_wp2
          go_ret
          exact ⟨rfl, HB.out.trans (HB2.out.mono HB.out.size)⟩
      · have d0 : (z == 0) = false := by simpa using h0
        rw [decide_eq_false h0]
        simp only [Bool.true_and, Bool.false_and]
        clear h0
        go_enter Tryd.func27, Tryd.ntmps27
        go_wp2_with fail
        refine HRU.out.mono ?_
        rintro e w1 ⟨v, rfl, ho, hb⟩
        have HB := Lib.hid hb
        clear ho hb
        go_wp2
        go_ret
        exact ⟨rfl, HB.out⟩
    · have d : decide (64 < (N : Int)) = true := by simp; omega
      rw [decide_eq_false h64]
      simp only [Bool.and_false, Bool.false_and]
      clear h64
      go_enter Tryd.func27, Tryd.ntmps27
      go_wp2
      go_ret
      exact ⟨rfl, Below.refl _ _⟩
end Go.Proofs.YtilkhamlhbbmgaaDoor
