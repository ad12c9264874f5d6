/- The code points of a text, one by one: decoding the first one, and the iterator over all. -/
import Derived.Test.YtilkhamlhbbmgaaDoorOrd
import Derived.Test.YtilkhamlhbbmgaaDoorShelf
import Derived.Shelf.Abstract
import Derived.LoopNIn
import Derived.WalkLawsBesides
import Derived.LoopIn
namespace Go.Proofs.YtilkhamlhbbmgaaDoor
open Go.RowKit Go.Shelf
attribute [local go_sem] Oper.semAt_some

/-- What the library's own variables hold. -/
structure UTab (w : World) : Prop where
  u : Lib.Utf8Tabs 1 2 w
  lt : 2 < w.heap.size
theorem UTab.below {w w' : World} (h : UTab w) (hb : Below w.heap.size w w') : UTab w' := by
  have hl := h.lt
  refine ⟨⟨fun c hc => (hb.cell (p := ⟨1, c, none⟩) (by show 1 < _; omega)).trans (h.u.1 c hc), fun i hi => ⟨?_, ?_⟩⟩, Nat.lt_of_lt_of_le hl hb.size⟩
  · exact (hb.cell (p := ⟨2, 2 * i, none⟩) (by show 2 < _; omega)).trans (h.u.2 i hi).1
  · exact (hb.cell (p := ⟨2, 2 * i + 1, none⟩) (by show 2 < _; omega)).trans (h.u.2 i hi).2

theorem decode_any (w : World) (bs : List UInt8) (hT : UTab w) (h0 : bs ≠ []) : Calls Tryd.prog 64 #[.string (str bs)] w fun e w' => e = .returned (.tuple #[.int .i32 (dcd bs).1, .int .i64 (dcd bs).2]) ∧ Below w.heap.size w w' := by
  have h := Tryd.utf8_DecodeRuneInString (str bs) w hT.u
  have hl : (str bs).size ≠ 0 := by rw [str_size]; cases bs with | nil => exact absurd rfl h0 | cons _ _ => simp
  rw [show Lib.decodeGo (str bs) = dcd bs by unfold Lib.decodeGo; rw [if_neg hl, dcd_go]] at h
  exact h

/-- What is read of bytes, and what is left. -/
inductive Rn : List UInt8 → List Int → List UInt8 → Prop
  | nil (bs : List UInt8) : Rn bs [] bs
  | cons {bs rest : List UInt8} {l : List Int} (h0 : bs ≠ []) (h1 : isBad bs = false) (h : Rn (bs.drop (dcd bs).2) l rest) : Rn bs (((dcd bs).1 : Int) :: l) rest
theorem rn_all : ∀ (n : Nat) (bs : List UInt8), bs.length ≤ n → ∃ l rest, Rn bs l rest ∧ l.length ≤ bs.length ∧ ((rest = [] ∧ rsL bs = some l) ∨ (rest ≠ [] ∧ isBad rest = true ∧ rsL bs = none))
  | 0, bs, h => by
    have : bs = [] := List.eq_nil_of_length_eq_zero (by omega)
    subst this
    exact ⟨[], [], .nil _, Nat.le_refl _, .inl ⟨rfl, rsL_nil⟩⟩
  | n + 1, bs, h => by
    by_cases h0 : bs = []
    · subst h0; exact ⟨[], [], .nil _, Nat.le_refl _, .inl ⟨rfl, rsL_nil⟩⟩
    · cases hb : isBad bs with
      | true => exact ⟨[], bs, .nil _, by simp, .inr ⟨h0, hb, by rw [rsL_step h0, hb]; rfl⟩⟩
      | false =>
        have hs := dcd_size h0 hb
        obtain ⟨l, rest, h1, hl, h2⟩ := rn_all n (bs.drop (dcd bs).2) (by simp; omega)
        refine ⟨_, rest, .cons h0 hb h1, by simp at hl ⊢; omega, ?_⟩
        rcases h2 with ⟨h2, h3⟩ | ⟨h2, h3, h4⟩
        · exact .inl ⟨h2, by rw [rsL_step h0, hb, if_neg (by simp), h3]; rfl⟩
        · exact .inr ⟨h2, h3, by rw [rsL_step h0, hb, if_neg (by simp), h4]; rfl⟩
theorem Rn.step {bs rest : List UInt8} {x : Int} {l : List Int} (h : Rn bs (x :: l) rest) : bs ≠ [] ∧ isBad bs = false ∧ x = (dcd bs).1 ∧ Rn (bs.drop (dcd bs).2) l rest := by
  generalize hm : x :: l = m at h
  cases h with
  | nil => cases hm
  | cons h0 h1 h2 => injection hm with e1 e2; subst e2; exact ⟨h0, h1, e1, h2⟩
theorem Rn.stop {bs rest : List UInt8} (h : Rn bs [] rest) : bs = rest := by
  generalize hm : ([] : List Int) = m at h
  cases h with
  | nil => rfl
  | cons => cases hm

theorem runesIt_any (w : World) (s : ByteArray) : Calls Tryd.prog 41 #[.string s] w fun e w' => e = .returned (.func (.func 63) #[] #[.pointer (some ⟨w.heap.size, 0, none⟩)]) ∧
    w'.cell? ⟨w.heap.size, 0, none⟩ = some (.string s) ∧ Below w.heap.size w w' ∧ w'.heap.size = w.heap.size + 1 := by
  go_enter Tryd.func41, Tryd.ntmps41
  go_wp2
  go_returns
  exact ⟨by simp, by go_cell, by go_grown, by simp⟩

def badRune : Value := .iface 24 (.int .i64 90)
def okEnd (rest : List UInt8) : Option Value := if rest = [] then none else some badRune
def runeV (l : List Int) (k : Nat) : Array Value := #[.int .i64 (l.getD k 0)]

set_option maxRecDepth 100000 in
set_option maxHeartbeats 4000000 in
theorem runes1_in (n : Nat) (hn : 1 ≤ n) (lb Q N : Nat) (bs rest : List UInt8) (l : List Int) (hN : l.length = N) (hlen : bs.length ≤ 1000000000) (hrn : Rn bs l rest) (hend : rest = [] ∨ (rest ≠ [] ∧ isBad rest = true)) (J : Nat → World → Prop) (Jx : Unit → World → Prop) (hKp : ∀ k W, J k W → UTab W)
    (hJB : ∀ k W W', J k W → Below W.heap.size W W' → J k W')
    (hY : ∀ k W, k < N → J k W → YieldAt Fence.wide (n - 1) Tryd.prog lb (runeV l k) W fun e W' => (e = .returned (.bool true) ∧ J (k + 1) W') ∨ (e = .returned (.bool false) ∧ Jx () W'))
    (W : World) (hsi : W.cell? ⟨Q, 0, none⟩ = some (.string (str bs))) (hj : J 0 W) :
    CallsIn Fence.wide n Tryd.prog 63 #[.func (.yield lb) #[] #[], .pointer (some ⟨Q, 0, none⟩)] W fun e W' => ((∃ v, e = .returned v) ∧ ((okEnd rest = none ∧ J N W') ∨ Jx () W')) ∨ (∃ pv, okEnd rest = some pv ∧ e = .panicked [{ v := pv, recovered := false }] ∧ J N W') := by
  have HY := Lib.hid hY
  have HKP := Lib.hid hKp
  have HJB := Lib.hid hJB
  have HJ0 := Lib.hid hj
  have HRN := Lib.hid hrn
  have HN := Lib.hid hN
  have HE := Lib.hid hend
  obtain ⟨oe, hoe⟩ : ∃ oe, okEnd rest = oe := ⟨_, rfl⟩
  have HOE := Lib.hid hoe
  rw [hoe]
  clear hoe hY hj hKp hJB hrn hN hend
  obtain ⟨s, hs⟩ : ∃ s, str bs = s := ⟨_, rfl⟩
  have HS := Lib.hid hs
  rw [hs] at hsi
  clear hs
  refine callsIn_of_wp Tryd.func63 rfl trivial ?_ rfl
  simp only [Tryd.ntmps63, List.size_toArray, List.length_cons, List.length_nil, Nat.reduceAdd, Nat.reduceSub, Array.replicate_succ, Array.replicate_zero, List.push_toArray, List.append_toArray, List.nil_append, List.cons_append]
  gi_wp2
  gi_loopw [3, 4, 5] (fun s3 s4 s5 wr => ∃ (k : Nat) (rk : List UInt8), k ≤ N ∧ s3 = .string (str rk) ∧ rk.length ≤ 1000000000 ∧ Hid (Rn rk (l.drop k) rest) ∧ Hid (J k wr)) (fun s3 _ _ _ => match s3 with | .string s => s.size | _ => 0)
  case atStart => exact ⟨0, bs, Nat.zero_le _, by rw [HS.out], hlen, Lib.hid HRN.out, HJ0⟩
  case round =>
    obtain ⟨k, rk, hk, rfl, hrl, HR, HJ⟩ := hrel
    by_cases hlt : k < N
    · have hkl : k < l.length := by rw [HN.out]; exact hlt
      have e : l.drop k = l.getD k 0 :: l.drop (k + 1) := by rw [List.drop_eq_getElem_cons hkl]; simp [List.getD, hkl]
      have hR := HR.out
      rw [e] at hR
      obtain ⟨h0, h1, h2, h3⟩ := hR.step
      have hsz := dcd_size h0 h1
      have HD := Lib.hid (fun W (hW : UTab W) => decode_any W rk hW h0)
      have hst := str_size rk
      have hne : (str rk).toList.isEmpty = false := by
        rw [Lib.toList_data, str_toList]
        cases rk with | nil => exact absurd rfl h0 | cons _ _ => rfl
      have hnl : ¬ (str rk).toList = [] := fun h => by rw [h] at hne; cases hne
      have hbad : ¬ (((dcd rk).1 = 65533 ∧ (dcd rk).2 = 1)) := by simpa [isBad] using h1
      have hex : (str rk).extract (dcd rk).2 rk.length = str (rk.drop (dcd rk).2) := by rw [str_extract, List.take_of_length_le (by simp)]
      have hr4 : (dcd rk).1 ≤ 1114111 := by have := (okPt_iff.1 (dcd_ok h0 h1).1).2.1; omega
      obtain ⟨R, hR⟩ : ∃ R, (dcd rk).1 = R := ⟨_, rfl⟩
      obtain ⟨q, hq⟩ : ∃ q, (dcd rk).2 = q := ⟨_, rfl⟩
      rw [hR] at h2 hr4
      rw [hq] at h3 hsz hex
      rw [hR, hq] at HD hbad
      have HX := Lib.hid h2
      have H3 := Lib.hid h3
      obtain ⟨M, hM⟩ : ∃ M, rk.length = M := ⟨_, rfl⟩
      rw [hM] at hst hsz hex hrl
      obtain ⟨s1, hs1⟩ : ∃ s1, str rk = s1 := ⟨_, rfl⟩
      rw [hs1] at HD hst hne hnl hex ⊢
      have HEX := Lib.hid hex
      have HM := Lib.hid hM
      have HHL : Hid ((rk.drop q).length ≤ 1000000000 ∧ (rk.drop q).length < M) := Lib.hid (by simp; omega)
      have HST := Lib.hid hst
      clear h0 h1 h2 h3 hR hq hs1 e hkl hex hM
      have hguard : ((R : Int) == 65533) = false ∨ (((R : Int) == 65533) = true ∧ ((q : Int) == 1) = false) := by
        by_cases h : R = 65533
        · exact .inr ⟨by simp; omega, by have : q ≠ 1 := fun h2 => hbad ⟨h, h2⟩; simp; omega⟩
        · exact .inl (by simp; omega)
      have hq0 : (0 : Int) ≤ (q : Int) := by omega
      have hqM : (q : Int) ≤ (M : Int) := by omega
      have HQ := Lib.hid hsz
      have HYY : Hid (∀ W2, J k W2 → YieldAt Fence.wide (n - 1) Tryd.prog lb #[.int .i64 (R : Int)] W2 fun e W' => ∃ bb, e = .returned (.bool bb) ∧ ((bb = true ∧ J (k + 1) W') ∨ (bb = false ∧ Jx () W'))) := Lib.hid (fun W2 hj => by
        obtain ⟨fn, tmps, assign, body, hy, hR⟩ := HY.out k W2 hlt hj
        have hv : runeV l k = #[.int .i64 (l.getD k 0)] := rfl
        rw [hv, HX.out] at hy
        refine ⟨fn, tmps, assign, body, hy, hR.mono ?_⟩
        rintro e W' (⟨rfl, h1⟩ | ⟨rfl, h1⟩)
        · exact ⟨true, rfl, .inl ⟨rfl, h1⟩⟩
        · exact ⟨false, rfl, .inr ⟨rfl, h1⟩⟩)
      clear hbad hsz
      rcases hguard with hg1 | ⟨hg1, hg2⟩
      all_goals
        gi_wp2_with fail
        refine ⟨trivial, ((callsIn_wide (n := n - 1)).2 (HD.out _ (HKP.out _ _ HJ.out))).mono ?_⟩
        rintro e W2 ⟨rfl, hb2⟩
        have HJ2 := Lib.hid (HJB.out _ _ _ HJ.out hb2)
        clear hb2 HD
        obtain ⟨fn, tmps, assign, body, hy, hR⟩ := HYY.out W2 HJ2.out
        gi_wp2_with (refine hR.mono ?_; rintro e W3 ⟨bb, rfl, h3⟩)
        · rename_i hb
          rcases h3 with ⟨rfl, hJ3⟩ | ⟨rfl, hJ3⟩
          · simp at hb
          · refine bodyPost_ret (results_none rfl _ _ _) rfl ?_
            exact .inl ⟨⟨_, rfl⟩, .inr hJ3⟩
        · rename_i hb
          rcases h3 with ⟨rfl, hJ3⟩ | ⟨rfl, hJ3⟩
          · have HJ3 := Lib.hid hJ3
            clear hJ3 hb
            gi_wp2
            go_roundw
            case rel => exact ⟨k + 1, by omega, rk.drop q, HEX.out, HHL.out.1, H3, HJ3⟩
            case measure => have := HQ.out; simp; omega
          · simp at hb
    · have hkn : k = N := by omega
      have hR := HR.out
      rw [List.drop_eq_nil_of_le (by rw [HN.out, hkn]; exact Nat.le_refl _)] at hR
      have hrk := hR.stop
      subst hkn
      have hend := HE.out
      rw [← hrk] at hend
      have hoe := HOE.out
      rw [← hrk] at hoe
      rcases hend with rfl | ⟨h0, hb⟩
      · have e0 : okEnd [] = none := rfl
        have hnl : (str []).toList = [] := by rw [Lib.toList_data, str_toList]
        obtain ⟨s1, hs1⟩ : ∃ s1, str [] = s1 := ⟨_, rfl⟩
        rw [hs1] at hnl
        rw [e0] at hoe
        have HO := Lib.hid hoe
        rw [hs1]
        have hne : (s1.toList != []) = false := by rw [hnl]; rfl
        have HNN : Hid (s1.toList.isEmpty = true) := Lib.hid (by rw [hnl]; rfl)
        have hh := HNN.out
        clear hs1 e0 hR hrk hoe
        gi_wp2
        go_end0
        exact .inl ⟨⟨_, rfl⟩, .inl ⟨HO.out.symm, HJ.out⟩⟩
      · have e0 : okEnd rk = some badRune := by unfold okEnd; rw [if_neg h0]
        rw [e0] at hoe
        have HO := Lib.hid hoe
        have HD := Lib.hid (fun W (hW : UTab W) => decode_any W rk hW h0)
        have hb2 : (dcd rk).1 = 65533 ∧ (dcd rk).2 = 1 := by simpa [isBad] using hb
        rw [hb2.1, hb2.2] at HD
        have hne : (str rk).toList.isEmpty = false := by
          rw [Lib.toList_data, str_toList]
          cases rk with | nil => exact absurd rfl h0 | cons _ _ => rfl
        have hnl : ¬ (str rk).toList = [] := fun h => by rw [h] at hne; cases hne
        obtain ⟨s1, hs1⟩ : ∃ s1, str rk = s1 := ⟨_, rfl⟩
        rw [hs1] at HD hne hnl ⊢
        clear hs1 e0 hR hrk h0 hb hb2 hoe
        gi_wp2_with fail
        refine ⟨trivial, ((callsIn_wide (n := n - 1)).2 (HD.out _ (HKP.out _ _ HJ.out))).mono ?_⟩
        rintro e W2 ⟨rfl, hb2⟩
        have HJ2 := Lib.hid (HJB.out _ _ _ HJ.out hb2)
        clear hb2 HD
        gi_wp2
        exact ⟨rfl, .inr ⟨badRune, HO.out.symm, rfl, HJ2.out⟩⟩

theorem runes_turn (n : Nat) (hn : 1 ≤ n) (Q : Nat) (bs rest : List UInt8) (l : List Int) (hlen : bs.length ≤ 1000000000) (hrn : Rn bs l rest) (hend : rest = [] ∨ (rest ≠ [] ∧ isBad rest = true)) (w : World) (hQ : Q < w.heap.size) (hs : w.cell? ⟨Q, 0, none⟩ = some (.string (str bs))) :
    InTurnK n Tryd.prog 63 #[.pointer (some ⟨Q, 0, none⟩)] (runeV l) l.length (okEnd rest) (fun _ => UTab) w :=
  fun lb J Jx W hW hJ _ hK hY h0 =>
    runes1_in n hn lb Q l.length bs rest l rfl hlen hrn hend J Jx hK (fun k A A' h hb => hJ k A A' none h (gbelow hb) (fun r e => by cases e)) hY W ((hW.cell (p := ⟨Q, 0, none⟩) hQ).trans hs) h0
end Go.Proofs.YtilkhamlhbbmgaaDoor
