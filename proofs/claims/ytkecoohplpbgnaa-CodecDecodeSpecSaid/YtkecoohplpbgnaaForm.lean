/- codec.wellFormed answers what V.formed answers. -/
import Derived.Test.YtkecoohplpbgnaaVal
import Derived.WalkSpells
import Derived.WalkLawsBesides
import Derived.Handy
import Derived.Lib.Hide
import Derived.StillTailTactics
namespace Go.Proofs.Ytkecoohplpbgnaa
open Go.RowKit

mutual
def V.formed : V → Bool
  | ⟨k, n, s, l⟩ => if k = 1 then (decide (s.toList = []) && decide (l.length = 0)) else if k = 2 then (decide (n = 0) && decide (l.length = 0)) else
      if k = 3 then (decide (n = 0) && (decide (s.toList = []) && V.formeds l)) else false
def V.formeds : List V → Bool
  | [] => true
  | x :: xs => V.formed x && V.formeds xs
end

/-- The index of the first tree that is not well-formed. -/
def V.illAt : List V → Int → Int
  | [], _ => -1
  | x :: xs, i => if V.formed x = true then V.illAt xs (i + 1) else i

theorem V.illAt_yes : ∀ (l : List V) (i : Int), V.formeds l = true → V.illAt l i = -1
  | [], i, _ => rfl
  | x :: xs, i, h => by
    unfold V.formeds at h
    simp at h
    unfold V.illAt
    rw [if_pos h.1]; exact V.illAt_yes xs _ h.2
theorem V.illAt_no : ∀ (l : List V) (i : Int), 0 ≤ i → V.formeds l = false → 0 ≤ V.illAt l i
  | [], i, _, h => by unfold V.formeds at h; simp at h
  | x :: xs, i, hi, h => by
    unfold V.illAt
    split
    · rename_i hx
      unfold V.formeds at h
      rw [hx] at h
      exact V.illAt_no xs _ (by omega) (by simpa using h)
    · exact hi

def CForm (x : V) : Prop := ∀ (w : World) (B : Nat) (v : Value), B ≤ w.heap.size → V.At w B x v →
  Calls Try.prog 29 #[v] w fun e w' => e = .returned (.bool x.formed) ∧ Below w.heap.size w w'

set_option maxHeartbeats 400000 in
theorem ill_any (x : V) (hx : CForm x) (w : World) (B : Nat) (v : Value) (hB : B ≤ w.heap.size) (h : V.At w B x v) :
    Calls Try.prog 44 #[v] w fun e w' => e = .returned (.bool !x.formed) ∧ Below w.heap.size w w' := by
  have hc : ∀ W, Below w.heap.size w W → Calls Try.prog 29 #[v] W fun e w' => e = .returned (.bool x.formed) ∧ Below W.heap.size W w' :=
    fun W hW => hx W B v (by have := hW.size; omega) (V.At.below (hW.mono hB) _ _ h)
  obtain ⟨q, hq⟩ : ∃ q, x.formed = q := ⟨_, rfl⟩
  rw [hq] at hc ⊢
  obtain ⟨k, n, s, l⟩ := x
  unfold V.At at h
  obtain ⟨h1, h2, h3, a, cap, rfl, _⟩ := h
  have HC := Lib.hid hc
  clear hc hx h1 h2 hq
  go_enter Try.func44, Try.ntmps44
  go_wp2_with fail
  refine (HC.out _ (by go_grown)).mono ?_
  rintro e w3 ⟨rfl, hb3⟩
  go_wp2
  go_ret
  exact ⟨rfl, Below.trans (by go_grown) (hb3.mono (by simp))⟩

set_option maxHeartbeats 400000 in
theorem idxFunc_0 (a : Option Addr) (cap : Nat) (w : World) :
    Calls Try.prog 56 #[.slice a 0 cap, .func (.func 44) #[] #[]] w fun e w' => e = .returned (.int .i64 (-1)) ∧ Below w.heap.size w w' := by
  go_enter Try.func56, Try.ntmps56
  go_wp2
  go_rounds 1
  go_ret
  exact ⟨rfl, by go_grown⟩

set_option maxHeartbeats 400000 in
theorem idxFunc_5 (l : List V) (ih : ∀ x ∈ l, CForm x) (b off cap : Nat) (w : World) (hb : b < w.heap.size) (hcap : l.length ≤ cap) (hm : cap ≤ maxLen) (h : AtL w w.heap.size l b off) :
    Calls Try.prog 56 #[.slice (some ⟨b, off, none⟩) l.length cap, .func (.func 44) #[] #[]] w fun e w' => e = .returned (.int .i64 (V.illAt l 0)) ∧ Below w.heap.size w w' := by
  unfold maxLen at hm
  obtain ⟨len, hlen⟩ : ∃ len, l.length = len := ⟨_, rfl⟩
  rw [hlen] at hcap ⊢
  have HLEN := Lib.hid hlen; clear hlen
  go_enter Try.func56, Try.ntmps56
  go_wp2
  go_loopw [8] (fun i wr => ∃ m : Nat, i = .int .i64 m ∧ m ≤ len ∧ V.illAt l 0 = V.illAt (l.drop m) m ∧ Below w.heap.size w wr) (fun i _ => len - (intOf i).toNat)
  case atStart => exact ⟨0, rfl, Nat.zero_le _, by simp, Below.refl _ _⟩
  case round =>
    obtain ⟨m, rfl, hmle, hsm, hBr⟩ := hrel
    have HSM := Lib.hid hsm; clear hsm
    have hzr := hBr.size
    by_cases hlt : m < len
    · obtain ⟨k, n, s, a, ln, cp, g0, g1, g2, g3, ga⟩ := AtL.got l b off m (by rw [HLEN.out]; exact hlt) (AtL.below hBr l b off hb h)
      have GA := Lib.hid ga; clear ga
      have hq : V.illAt l 0 = if (l[m]'(by rw [HLEN.out]; exact hlt)).formed = true then V.illAt (l.drop (m + 1)) ((m + 1 : Nat) : Int) else (m : Int) := by
        rw [HSM.out, List.drop_eq_getElem_cons (by rw [HLEN.out]; exact hlt)]; simp only [V.illAt]; rfl
      have hc : ∀ W, Below w.heap.size wr W → Calls Try.prog 44 #[.agg #[.int .i64 k, .int .i64 n, .string s, .slice a ln cp]] W fun e w' => e = .returned (.bool !(l[m]'(by rw [HLEN.out]; exact hlt)).formed) ∧ Below W.heap.size W w' := by
        intro W hW
        exact ill_any _ (ih _ (List.getElem_mem (by rw [HLEN.out]; exact hlt))) W w.heap.size _ (by have := hW.size; omega) (V.At.below hW _ _ GA.out)
      obtain ⟨r, hr⟩ : ∃ r, (l[m]'(by rw [HLEN.out]; exact hlt)).formed = r := ⟨_, rfl⟩
      rw [hr] at hq hc
      have HQ := Lib.hid hq
      have HC := Lib.hid hc
      clear hq hc hr h
      go_wp2_with fail
      refine (HC.out _ (by go_grown)).mono ?_
      rintro e w3 ⟨rfl, hb3⟩
      have hB3 : Below w.heap.size w w3 := hBr.trans (hb3.mono hzr)
      clear hb3
      cases r
      · go_wp2
        go_ret
        exact ⟨by rw [HQ.out]; rfl, hB3⟩
      · go_wp2
        go_roundw
        case rel => exact ⟨m + 1, by go_num, by omega, by rw [HQ.out]; rfl, hB3⟩
        case measure => simp [intOf]; omega
    · have hme : m = len := by omega
      have hq : V.illAt l 0 = -1 := by
        rw [HSM.out, hme, List.drop_of_length_le (by rw [HLEN.out]; exact Nat.le_refl _)]; rfl
      have HQ := Lib.hid hq
      clear hq hme h
      go_wp2
      go_ret
      exact ⟨by rw [HQ.out]; rfl, hBr⟩

set_option maxHeartbeats 400000 in
theorem contFunc_any (l : List V) (ih : ∀ x ∈ l, CForm x) (a : Option Addr) (cap : Nat) (w : World) (hcap : l.length ≤ cap) (hm : cap ≤ maxLen) (h : l = [] ∨ ∃ b off, a = some ⟨b, off, none⟩ ∧ b < w.heap.size ∧ AtL w w.heap.size l b off) :
    Calls Try.prog 43 #[.slice a l.length cap, .func (.func 44) #[] #[]] w fun e w' => e = .returned (.bool !V.formeds l) ∧ Below w.heap.size w w' := by
  have hc : Calls Try.prog 56 #[.slice a l.length cap, .func (.func 44) #[] #[]] w fun e w' => e = .returned (.int .i64 (V.illAt l 0)) ∧ Below w.heap.size w w' := by
    rcases h with rfl | ⟨b, off, rfl, hb, h⟩
    · exact idxFunc_0 a cap w
    · exact idxFunc_5 l ih b off cap w hb hcap hm h
  have hq : (V.formeds l = true ∧ V.illAt l 0 = -1) ∨ (V.formeds l = false ∧ 0 ≤ V.illAt l 0) := by
    cases e : V.formeds l
    · exact .inr ⟨rfl, V.illAt_no l 0 (by omega) e⟩
    · exact .inl ⟨rfl, V.illAt_yes l 0 e⟩
  have HC := Lib.hid hc
  obtain ⟨q, hqq⟩ : ∃ q, V.illAt l 0 = q := ⟨_, rfl⟩
  rw [hqq] at hq HC
  clear hc hqq h ih
  rcases hq with ⟨h1, rfl⟩ | ⟨h1, h2⟩
  · rw [h1]
    clear h1
    go_enter Try.func43, Try.ntmps43
    go_wp2_with fail
    refine HC.out.mono ?_
    rintro e w3 ⟨rfl, hb3⟩
    go_wp2
    go_ret
    exact ⟨rfl, hb3⟩
  · rw [h1]
    clear h1
    have h3 : decide (0 ≤ q) = true := by simpa using h2
    go_enter Try.func43, Try.ntmps43
    go_wp2_with fail
    refine HC.out.mono ?_
    rintro e w3 ⟨rfl, hb3⟩
    go_wp2
    go_ret
    exact ⟨by simp, hb3⟩

set_option maxHeartbeats 400000 in
theorem cform_1 (n : Int) (s : ByteArray) (a : Option Addr) (len cap : Nat) (w : World) :
    Calls Try.prog 29 #[.agg #[.int .i64 1, .int .i64 n, .string s, .slice a len cap]] w
      fun e w' => e = .returned (.bool (decide (s.toList = []) && decide (len = 0))) ∧ Below w.heap.size w w' := by
  by_cases hs : s.toList = []
  · by_cases hl : len = 0
    · subst hl
      go_enter Try.func29, Try.ntmps29
      go_wp2
      go_ret
      exact ⟨by simp [hs], by go_grown⟩
    · have hl' : ((len : Int) == 0) = false := by simpa using hl
      go_enter Try.func29, Try.ntmps29
      go_wp2
      go_ret
      exact ⟨by simp [hl], by go_grown⟩
  · go_enter Try.func29, Try.ntmps29
    go_wp2
    go_ret
    exact ⟨by simp [hs], by go_grown⟩

set_option maxHeartbeats 400000 in
theorem cform_2 (n : Int) (s : ByteArray) (a : Option Addr) (len cap : Nat) (w : World) :
    Calls Try.prog 29 #[.agg #[.int .i64 2, .int .i64 n, .string s, .slice a len cap]] w
      fun e w' => e = .returned (.bool (decide (n = 0) && decide (len = 0))) ∧ Below w.heap.size w w' := by
  by_cases hs : n = 0
  · subst hs
    by_cases hl : len = 0
    · subst hl
      go_enter Try.func29, Try.ntmps29
      go_wp2
      go_ret
      exact ⟨by simp, by go_grown⟩
    · have hl' : ((len : Int) == 0) = false := by simpa using hl
      go_enter Try.func29, Try.ntmps29
      go_wp2
      go_ret
      exact ⟨by simp [hl], by go_grown⟩
  · have hl' : (n == 0) = false := by simpa using hs
    go_enter Try.func29, Try.ntmps29
    go_wp2
    go_ret
    exact ⟨by simp [hs], by go_grown⟩

set_option maxHeartbeats 400000 in
theorem cform_3n (n : Int) (hn : n ≠ 0) (s : ByteArray) (a : Option Addr) (len cap : Nat) (w : World) :
    Calls Try.prog 29 #[.agg #[.int .i64 3, .int .i64 n, .string s, .slice a len cap]] w
      fun e w' => e = .returned (.bool false) ∧ Below w.heap.size w w' := by
  have hl' : (n == 0) = false := by simpa using hn
  go_enter Try.func29, Try.ntmps29
  go_wp2
  go_ret
  exact ⟨by simp, by go_grown⟩

set_option maxHeartbeats 400000 in
theorem cform_3s (s : ByteArray) (hs : ¬ s.toList = []) (a : Option Addr) (len cap : Nat) (w : World) :
    Calls Try.prog 29 #[.agg #[.int .i64 3, .int .i64 0, .string s, .slice a len cap]] w
      fun e w' => e = .returned (.bool false) ∧ Below w.heap.size w w' := by
  go_enter Try.func29, Try.ntmps29
  go_wp2
  go_ret
  exact ⟨by simp, by go_grown⟩

set_option maxHeartbeats 400000 in
theorem cform_3 (s : ByteArray) (hs : s.toList = []) (l : List V) (ih : ∀ x ∈ l, CForm x) (a : Option Addr) (cap : Nat) (w : World) (hcap : l.length ≤ cap) (hm : cap ≤ maxLen)
    (h : l = [] ∨ ∃ b off, a = some ⟨b, off, none⟩ ∧ b < w.heap.size ∧ AtL w w.heap.size l b off) :
    Calls Try.prog 29 #[.agg #[.int .i64 3, .int .i64 0, .string s, .slice a l.length cap]] w
      fun e w' => e = .returned (.bool (V.formeds l)) ∧ Below w.heap.size w w' := by
  have H := Lib.hid h; clear h
  have IH := Lib.hid ih; clear ih
  have hc : ∀ W, Below w.heap.size w W → Calls Try.prog 43 #[.slice a l.length cap, .func (.func 44) #[] #[]] W fun e w' => e = .returned (.bool !V.formeds l) ∧ Below W.heap.size W w' := by
    intro W hW
    refine contFunc_any l IH.out a cap W hcap hm ?_
    rcases H.out with h | ⟨b, off, h1, h2, h3⟩
    · exact .inl h
    · exact .inr ⟨b, off, h1, by have := hW.size; omega, AtL.mono hW.size _ _ _ (AtL.below hW _ _ _ h2 h3)⟩
  have HC := Lib.hid hc
  clear hc
  go_enter Try.func29, Try.ntmps29
  go_wp2_with fail
  refine (HC.out _ (by go_grown)).mono ?_
  rintro e w3 ⟨rfl, hb3⟩
  go_wp2
  go_ret
  exact ⟨by simp, Below.trans (by go_grown) (hb3.mono (by simp))⟩

set_option maxHeartbeats 400000 in
theorem cform_no (k n : Int) (h1 : k ≠ 1) (h2 : k ≠ 2) (h3 : k ≠ 3) (s : ByteArray) (a : Option Addr) (len cap : Nat) (w : World) :
    Calls Try.prog 29 #[.agg #[.int .i64 k, .int .i64 n, .string s, .slice a len cap]] w
      fun e w' => e = .returned (.bool false) ∧ Below w.heap.size w w' := by
  have h1' : (k == 1) = false := by simpa using h1
  have h2' : (k == 2) = false := by simpa using h2
  have h3' : (k == 3) = false := by simpa using h3
  go_enter Try.func29, Try.ntmps29
  go_wp2
  go_ret
  exact ⟨by simp, by go_grown⟩

theorem cForm : ∀ (N : Nat) (x : V), SizeOf.sizeOf x ≤ N → CForm x
  | 0, ⟨k, n, s, l⟩, h => by simp at h
  | N + 1, ⟨k, n, s, l⟩, h => by
    intro w B v hB hx
    have hx := V.At.mono hB _ _ hx
    unfold V.At at hx
    obtain ⟨h1, h2, h3, a, cap, rfl, h5, h6, h7⟩ := hx
    unfold V.formed
    by_cases e1 : k = 1
    · subst e1
      simp only [if_true]
      exact cform_1 n s a _ cap w
    by_cases e2 : k = 2
    · subst e2
      simp only [show ¬ ((2 : Int) = 1) by omega, if_true, if_false]
      exact cform_2 n s a _ cap w
    by_cases e3 : k = 3
    · subst e3
      simp only [show ¬ ((3 : Int) = 1) by omega, show ¬ ((3 : Int) = 2) by omega, if_true, if_false]
      by_cases hn : n = 0
      · subst hn
        by_cases hs : s.toList = []
        · have e : (decide ((0 : Int) = 0) && (decide (s.toList = []) && V.formeds l)) = V.formeds l := by simp [hs]
          rw [e]
          exact cform_3 s hs l (fun x hx => cForm N x (by have := List.sizeOf_lt_of_mem hx; simp at h; omega)) a cap w h5 h6 h7
        · have e : (decide ((0 : Int) = 0) && (decide (s.toList = []) && V.formeds l)) = false := by simp [hs]
          rw [e]; exact cform_3s s hs a _ cap w
      · have e : (decide (n = 0) && (decide (s.toList = []) && V.formeds l)) = false := by simp [hn]
        rw [e]; exact cform_3n n hn s a _ cap w
    · simp only [e1, e2, e3, if_false]
      exact cform_no k n e1 e2 e3 s a _ cap w

/-! ### Depth -/
mutual
def V.dep : V → Nat
  | ⟨k, _, _, l⟩ => if k = 3 then V.deps l + 1 else 0
def V.deps : List V → Nat
  | [] => 0
  | x :: xs => max (V.dep x) (V.deps xs)
end

def CDep (x : V) : Prop := ∀ (w : World) (B : Nat) (v : Value), V.dep x ≤ 1000000 → B ≤ w.heap.size → V.At w B x v →
  Calls Try.prog 30 #[v] w fun e w' => e = .returned (.int .i64 (x.dep : Nat)) ∧ Below w.heap.size w w'

set_option maxHeartbeats 400000 in
theorem dep_no (k n : Int) (h1 : k ≠ 3) (s : ByteArray) (a : Option Addr) (len cap : Nat) (w : World) :
    Calls Try.prog 30 #[.agg #[.int .i64 k, .int .i64 n, .string s, .slice a len cap]] w
      fun e w' => e = .returned (.int .i64 0) ∧ Below w.heap.size w w' := by
  have h1' : (k != 3) = true := by simpa using h1
  go_enter Try.func30, Try.ntmps30
  go_wp2
  go_ret
  exact ⟨rfl, by go_grown⟩

set_option maxHeartbeats 400000 in
theorem dep_0 (n : Int) (s : ByteArray) (a : Option Addr) (cap : Nat) (w : World) :
    Calls Try.prog 30 #[.agg #[.int .i64 3, .int .i64 n, .string s, .slice a 0 cap]] w
      fun e w' => e = .returned (.int .i64 1) ∧ Below w.heap.size w w' := by
  go_enter Try.func30, Try.ntmps30
  go_wp2
  go_rounds 1
  go_ret
  exact ⟨rfl, by go_grown⟩

set_option maxHeartbeats 400000 in
theorem dep_5 (n : Int) (s : ByteArray) (l : List V) (hd : V.deps l ≤ 999999) (ih : ∀ x ∈ l, CDep x) (b off cap : Nat) (w : World) (hb : b < w.heap.size) (hcap : l.length ≤ cap) (hm : cap ≤ maxLen) (h : AtL w w.heap.size l b off) :
    Calls Try.prog 30 #[.agg #[.int .i64 3, .int .i64 n, .string s, .slice (some ⟨b, off, none⟩) l.length cap]] w
      fun e w' => e = .returned (.int .i64 ((V.deps l + 1 : Nat) : Int)) ∧ Below w.heap.size w w' := by
  unfold maxLen at hm
  obtain ⟨len, hlen⟩ : ∃ len, l.length = len := ⟨_, rfl⟩
  rw [hlen] at hcap ⊢
  have HLEN := Lib.hid hlen; clear hlen
  have HD := Lib.hid hd; clear hd
  go_enter Try.func30, Try.ntmps30
  go_wp2
  obtain ⟨w0, hw0⟩ : ∃ w0, w0 = (w.alloc (Obj.cells #[Value.int IntKind.i64 3, Value.int IntKind.i64 n, Value.string s, Value.slice (some ⟨b, off, none⟩) len cap] 24)) := ⟨_, rfl⟩
  rw [← hw0]
  have hz : w0.heap.size = w.heap.size + 1 := by rw [hw0]; simp
  have hB : Below w.heap.size w w0 := by rw [hw0]; go_grown
  clear hw0
  go_loopw [3, 12] (fun t i wr => ∃ m q : Nat, i = .int .i64 m ∧ t = .int .i64 q ∧ m ≤ len ∧ q ≤ 999999 ∧ V.deps l = max q (V.deps (l.drop m)) ∧ Below w.heap.size w wr) (fun _ i _ => len - (intOf i).toNat)
  case atStart => exact ⟨0, 0, rfl, rfl, Nat.zero_le _, by omega, by simp, hB⟩
  case round =>
    obtain ⟨m, q, rfl, rfl, hmle, hq1, hsm, hBr⟩ := hrel
    have HSM := Lib.hid hsm; clear hsm
    have hzr := hBr.size
    by_cases hlt : m < len
    · obtain ⟨k2, n2, s2, a2, ln, cp, g0, g1, g2, g3, ga⟩ := AtL.got l b off m (by rw [HLEN.out]; exact hlt) (AtL.below hBr l b off hb h)
      have GA := Lib.hid ga; clear ga
      have hdl : V.deps (l.drop m) = max (V.dep (l[m]'(by rw [HLEN.out]; exact hlt))) (V.deps (l.drop (m + 1))) := by
        rw [List.drop_eq_getElem_cons (by rw [HLEN.out]; exact hlt)]; simp only [V.deps]
      have hr0 : V.dep (l[m]'(by rw [HLEN.out]; exact hlt)) ≤ 999999 := by
        have h1 := HSM.out; have h2 := HD.out; rw [hdl] at h1; omega
      have hc : ∀ W, Below w.heap.size wr W → Calls Try.prog 30 #[.agg #[.int .i64 k2, .int .i64 n2, .string s2, .slice a2 ln cp]] W fun e w' => e = .returned (.int .i64 ((V.dep (l[m]'(by rw [HLEN.out]; exact hlt)) : Nat) : Int)) ∧ Below W.heap.size W w' := by
        intro W hW
        exact ih _ (List.getElem_mem (by rw [HLEN.out]; exact hlt)) W w.heap.size _ (by omega) (by have := hW.size; omega) (V.At.below hW _ _ GA.out)
      obtain ⟨r, hr⟩ : ∃ r, V.dep (l[m]'(by rw [HLEN.out]; exact hlt)) = r := ⟨_, rfl⟩
      rw [hr] at hdl hc hr0
      have hq2 : V.deps l = max (max q r) (V.deps (l.drop (m + 1))) := by rw [HSM.out, hdl]; omega
      have HQ := Lib.hid hq2
      have HC := Lib.hid hc
      clear hq2 hc hr h hdl
      go_wp2_with fail
      refine (HC.out _ (by go_grown)).mono ?_
      rintro e w3 ⟨rfl, hb3⟩
      have hB3 : Below w.heap.size w w3 := hBr.trans (Below.trans (by go_grown) (hb3.mono (by simp; omega)))
      clear hb3
      go_wp2
      refine ⟨⟨m + 1, max q r, by go_num, ?_, by omega, by omega, HQ.out, hB3⟩, by simp [intOf]; omega⟩
      congr 1; split <;> omega
    · have hme : m = len := by omega
      have hq : V.deps l = q := by
        rw [HSM.out, hme, List.drop_of_length_le (by rw [HLEN.out]; exact Nat.le_refl _)]; unfold V.deps; omega
      have HQ := Lib.hid hq
      clear hq hme h
      go_wp2
      go_ret
      exact ⟨ret_int (by rw [HQ.out]; push_cast; omega), hBr⟩

theorem cDep : ∀ (N : Nat) (x : V), SizeOf.sizeOf x ≤ N → CDep x
  | 0, ⟨k, n, s, l⟩, h => by simp at h
  | N + 1, ⟨k, n, s, l⟩, h => by
    intro w B v hd hB hx
    have hx := V.At.mono hB _ _ hx
    unfold V.At at hx
    obtain ⟨h1, h2, h3, a, cap, rfl, h5, h6, h7⟩ := hx
    unfold V.dep at hd ⊢
    by_cases e3 : k = 3
    · subst e3
      simp only [if_true] at hd ⊢
      rcases h7 with h7 | ⟨b, off, rfl, hb, h10⟩
      · subst h7
        unfold V.deps
        exact dep_0 n s a cap w
      · exact dep_5 n s l (by omega) (fun x hx => cDep N x (by have := List.sizeOf_lt_of_mem hx; simp at h; omega)) b off cap w hb h5 h6 h10
    · simp only [e3, if_false]
      exact dep_no k n e3 s a _ cap w

/-- The answer of Check. -/
def V.chk (x : V) : Int := if x.formed = false then 1 else if 16 < x.dep then 2 else 0

set_option maxHeartbeats 400000 in
theorem check_any (x : V) (w : World) (B : Nat) (v : Value) (hd : V.dep x ≤ 1000000) (hB : B ≤ w.heap.size) (h : V.At w B x v) :
    Calls Try.prog 16 #[v] w fun e w' => e = .returned (.int .i64 x.chk) ∧ Below w.heap.size w w' := by
  have hc : ∀ W, Below w.heap.size w W → Calls Try.prog 29 #[v] W fun e w' => e = .returned (.bool x.formed) ∧ Below W.heap.size W w' :=
    fun W hW => cForm _ x (Nat.le_refl _) W B v (by have := hW.size; omega) (V.At.below (hW.mono hB) _ _ h)
  have hc2 : ∀ W, Below w.heap.size w W → Calls Try.prog 30 #[v] W fun e w' => e = .returned (.int .i64 (x.dep : Nat)) ∧ Below W.heap.size W w' :=
    fun W hW => cDep _ x (Nat.le_refl _) W B v hd (by have := hW.size; omega) (V.At.below (hW.mono hB) _ _ h)
  unfold V.chk
  obtain ⟨q, hq⟩ : ∃ q, x.formed = q := ⟨_, rfl⟩
  obtain ⟨d, hdd⟩ : ∃ d, x.dep = d := ⟨_, rfl⟩
  rw [hq] at hc ⊢
  rw [hdd] at hc2 hd ⊢
  obtain ⟨k, n, s, l⟩ := x
  unfold V.At at h
  obtain ⟨h1, h2, h3, a, cap, rfl, _⟩ := h
  have HC := Lib.hid hc
  have HC2 := Lib.hid hc2
  clear hc hc2 h1 h2 hq hdd
  cases q
  · go_enter Try.func16, Try.ntmps16
    go_wp2_with fail
    refine (HC.out _ (by go_grown)).mono ?_
    rintro e w3 ⟨rfl, hb3⟩
    go_wp2
    go_ret
    exact ⟨rfl, Below.trans (by go_grown) (hb3.mono (by simp))⟩
  · go_enter Try.func16, Try.ntmps16
    go_wp2_with fail
    refine (HC.out _ (by go_grown)).mono ?_
    rintro e w3 ⟨rfl, hb3⟩
    have hs3 := hb3.size
    have hc0 : ∀ i v, (w.alloc (Obj.cells #[Value.int IntKind.i64 k, Value.int IntKind.i64 n, Value.string s, Value.slice a l.length cap] 24)).cell? ⟨w.heap.size, i, none⟩ = some v → w3.cell? ⟨w.heap.size, i, none⟩ = some v :=
      fun i v hv => (hb3.cell (p := ⟨w.heap.size, i, none⟩) (by simp)).trans hv
    have k0 := hc0 0 (.int .i64 k) (by go_cell)
    have k1 := hc0 1 (.int .i64 n) (by go_cell)
    have k2 := hc0 2 (.string s) (by go_cell)
    have k3 := hc0 3 (.slice a l.length cap) (by go_cell)
    have hb4 : Below w.heap.size w w3 := Below.trans (by go_grown) (hb3.mono (by simp))
    clear hc0 hb3
    by_cases h16 : 16 < d
    · have h16' : decide (16 < (d : Int)) = true := by simp; omega
      go_wp2_with fail
      refine (HC2.out _ hb4).mono ?_
      rintro e w5 ⟨rfl, hb5⟩
      go_wp2
      go_ret
      exact ⟨rfl, hb4.trans (hb5.mono hb4.size)⟩
    · have h16' : decide (16 < (d : Int)) = false := by simp; omega
      go_wp2_with fail
      refine (HC2.out _ hb4).mono ?_
      rintro e w5 ⟨rfl, hb5⟩
      go_wp2
      go_ret
      exact ⟨rfl, hb4.trans (hb5.mono hb4.size)⟩

end Go.Proofs.Ytkecoohplpbgnaa
