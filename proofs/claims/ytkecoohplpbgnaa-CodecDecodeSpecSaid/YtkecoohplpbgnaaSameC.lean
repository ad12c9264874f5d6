/- codec.Same answers what V.same answers. -/
import Derived.Test.YtkecoohplpbgnaaVal
import Derived.WalkSpells
import Derived.WalkLawsBesides
import Derived.Handy
import Derived.Lib.Hide
namespace Go.Proofs.Ytkecoohplpbgnaa
open Go.RowKit

/-- What codec.Same is to answer at a tree. -/
def CSame (x : V) : Prop := ∀ (y : V) (w : World) (B : Nat) (v v' : Value), B ≤ w.heap.size → V.At w B x v → V.At w B y v' →
  Calls Try.prog 21 #[v, v'] w fun e w' => e = .returned (.bool (x.same y)) ∧ Below w.heap.size w w'

set_option maxHeartbeats 400000 in
theorem eqFunc_len (len len' cap cap' : Nat) (a a' : Option Addr) (w : World) (hk : len ≠ len') :
    Calls Try.prog 36 #[.slice a len cap, .slice a' len' cap', .func (.func 21) #[] #[]] w
      fun e w' => e = .returned (.bool false) ∧ Below w.heap.size w w' := by
  have hk' : ((len : Int) != (len' : Int)) = true := by simp [bne]; omega
  go_enter Try.func36, Try.ntmps36
  go_wp2
  go_ret
  exact ⟨rfl, by go_grown⟩

set_option maxHeartbeats 400000 in
theorem eqFunc_0 (cap cap' : Nat) (a a' : Option Addr) (w : World) :
    Calls Try.prog 36 #[.slice a 0 cap, .slice a' 0 cap', .func (.func 21) #[] #[]] w
      fun e w' => e = .returned (.bool true) ∧ Below w.heap.size w w' := by
  go_enter Try.func36, Try.ntmps36
  go_wp2
  go_rounds 1
  go_ret
  exact ⟨rfl, by go_grown⟩

set_option maxHeartbeats 400000 in
theorem eqFunc_5 (l l' : List V) (hl : l'.length = l.length) (ih : ∀ x ∈ l, CSame x) (b off cap b' off' cap' : Nat) (w : World) (hb : b < w.heap.size) (hb' : b' < w.heap.size)
    (hcap : l.length ≤ cap) (hm : cap ≤ maxLen) (_hcap' : l.length ≤ cap') (_hm' : cap' ≤ maxLen)
    (h : AtL w w.heap.size l b off) (h' : AtL w w.heap.size l' b' off') :
    Calls Try.prog 36 #[.slice (some ⟨b, off, none⟩) l.length cap, .slice (some ⟨b', off', none⟩) l'.length cap', .func (.func 21) #[] #[]] w
      fun e w' => e = .returned (.bool (V.sames l l')) ∧ Below w.heap.size w w' := by
  unfold maxLen at hm _hm'
  rw [hl]
  have HL := Lib.hid hl; clear hl
  obtain ⟨len, hlen⟩ : ∃ len, l.length = len := ⟨_, rfl⟩
  rw [hlen] at hcap _hcap' ⊢
  have HLEN := Lib.hid hlen; clear hlen
  go_enter Try.func36, Try.ntmps36
  go_wp2
  go_loopw [17] (fun i wr => ∃ m : Nat, i = .int .i64 m ∧ m ≤ len ∧ V.sames l l' = V.sames (l.drop m) (l'.drop m) ∧ Below w.heap.size w wr) (fun i _ => len - (intOf i).toNat)
  case atStart => exact ⟨0, rfl, Nat.zero_le _, by simp, Below.refl _ _⟩
  case round =>
    obtain ⟨m, rfl, hmle, hsm, hBr⟩ := hrel
    have HSM := Lib.hid hsm; clear hsm
    have hzr := hBr.size
    by_cases hlt : m < len
    · obtain ⟨k, n, s, a, ln, cp, g0, g1, g2, g3, ga⟩ := AtL.got l b off m (by rw [HLEN.out]; exact hlt) (AtL.below hBr l b off hb h)
      obtain ⟨k', n', s', a', ln', cp', g0', g1', g2', g3', ga'⟩ := AtL.got l' b' off' m (by rw [HL.out, HLEN.out]; exact hlt) (AtL.below hBr l' b' off' hb' h')
      have GA := Lib.hid ga; clear ga
      have GA' := Lib.hid ga'; clear ga'
      have hq : V.sames l l' = ((l[m]'(by rw [HLEN.out]; exact hlt)).same (l'[m]'(by rw [HL.out, HLEN.out]; exact hlt)) && V.sames (l.drop (m + 1)) (l'.drop (m + 1))) := by
        rw [HSM.out, List.drop_eq_getElem_cons (by rw [HLEN.out]; exact hlt), List.drop_eq_getElem_cons (l := l') (by rw [HL.out, HLEN.out]; exact hlt)]; simp only [V.sames]
      have HQ := Lib.hid hq; clear hq
      have hlt' : b' < wr.heap.size := by omega
      have f0 : ∀ o, (wr.alloc o).cell? ⟨b', off' + m * 4, none⟩ = some (.int .i64 k') := fun o => (World.cell?_alloc_lt wr o ⟨b', off' + m * 4, none⟩ hlt').trans g0'
      have f1 : ∀ o, (wr.alloc o).cell? ⟨b', off' + m * 4 + 1, none⟩ = some (.int .i64 n') := fun o => (World.cell?_alloc_lt wr o ⟨b', off' + m * 4 + 1, none⟩ hlt').trans g1'
      have f2 : ∀ o, (wr.alloc o).cell? ⟨b', off' + m * 4 + 2, none⟩ = some (.string s') := fun o => (World.cell?_alloc_lt wr o ⟨b', off' + m * 4 + 2, none⟩ hlt').trans g2'
      have f3 : ∀ o, (wr.alloc o).cell? ⟨b', off' + m * 4 + 3, none⟩ = some (.slice a' ln' cp') := fun o => (World.cell?_alloc_lt wr o ⟨b', off' + m * 4 + 3, none⟩ hlt').trans g3'
      clear h h' g0' g1' g2' g3'
      go_wp2_with fail
      obtain ⟨w2, hw2⟩ : ∃ w2, w2 = ((wr.alloc (Obj.cells #[Value.int IntKind.i64 k, Value.int IntKind.i64 n, Value.string s, Value.slice a ln cp] 24)).alloc
        (Obj.cells #[Value.int IntKind.i64 k', Value.int IntKind.i64 n', Value.string s', Value.slice a' ln' cp'] 24)) := ⟨_, rfl⟩
      rw [← hw2]
      have hrw : Below w.heap.size wr w2 := by rw [hw2]; go_grown
      have hB2 : Below w.heap.size w w2 := hBr.trans hrw
      clear hw2
      have hz2 := hB2.size
      refine (ih _ (List.getElem_mem (by rw [HLEN.out]; exact hlt)) _ w2 w.heap.size _ _ hz2 (V.At.below hrw _ _ GA.out) (V.At.below hrw _ _ GA'.out)).mono ?_
      rintro e w3 ⟨rfl, hb3⟩
      have hB3 := hB2.trans (hb3.mono hz2)
      obtain ⟨r, hr⟩ : ∃ r, (l[m]'(by rw [HLEN.out]; exact hlt)).same (l'[m]'(by rw [HL.out, HLEN.out]; exact hlt)) = r := ⟨_, rfl⟩
      rw [hr]
      have hq := HQ.out
      rw [hr] at hq
      have HQ' := Lib.hid hq
      clear hr hq f0 f1 f2 f3 g0 g1 g2 g3
      cases r
      · go_wp2
        go_ret
        exact ⟨by rw [HQ'.out]; rfl, hB3⟩
      · go_wp2
        go_roundw
        case rel => exact ⟨m + 1, by go_num, by omega, by rw [HQ'.out]; rfl, hB3⟩
        case measure => simp [intOf]; omega
    · have hme : m = len := by omega
      have hq : V.sames l l' = true := by
        rw [HSM.out, hme, List.drop_of_length_le (by rw [HLEN.out]; exact Nat.le_refl _), List.drop_of_length_le (l := l') (by rw [HL.out, HLEN.out]; exact Nat.le_refl _)]; unfold V.sames; rfl
      have HQ := Lib.hid hq
      clear hq hme h h'
      go_wp2
      go_ret
      exact ⟨by rw [HQ.out]; rfl, hBr⟩

/-- The answer about two lists. -/
theorem eqFunc_any (l l' : List V) (ih : ∀ x ∈ l, CSame x) (a a' : Option Addr) (cap cap' : Nat) (w : World) (hcap : l.length ≤ cap) (hm : cap ≤ maxLen) (hcap' : l'.length ≤ cap') (hm' : cap' ≤ maxLen)
    (h : l = [] ∨ ∃ b off, a = some ⟨b, off, none⟩ ∧ b < w.heap.size ∧ AtL w w.heap.size l b off) (h' : l' = [] ∨ ∃ b off, a' = some ⟨b, off, none⟩ ∧ b < w.heap.size ∧ AtL w w.heap.size l' b off) :
    Calls Try.prog 36 #[.slice a l.length cap, .slice a' l'.length cap', .func (.func 21) #[] #[]] w
      fun e w' => e = .returned (.bool (V.sames l l')) ∧ Below w.heap.size w w' := by
  by_cases el : l'.length = l.length
  · have z : V.sames [] [] = true := by unfold V.sames; rfl
    rcases h with h | ⟨b, off, rfl, hb, h10⟩
    · subst h
      have : l' = [] := by simpa using el
      subst this
      rw [z]; exact eqFunc_0 cap cap' a a' w
    · rcases h' with h' | ⟨b', off', rfl, hb', h10'⟩
      · subst h'
        have : l = [] := by simpa using el.symm
        subst this
        rw [z]; exact eqFunc_0 cap cap' _ a' w
      · exact eqFunc_5 l l' el ih b off cap b' off' cap' w hb hb' hcap hm (by omega) hm' h10 h10'
  · rw [V.sames_len l l' el]
    exact eqFunc_len _ _ cap cap' a a' w (fun h => el h.symm)

set_option maxHeartbeats 400000 in
theorem cSame_1 (k n k' n' : Int) (s s' : ByteArray) (a a' : Option Addr) (len cap len' cap' : Nat) (w : World) (hk : (k == k') = false) :
    Calls Try.prog 21 #[.agg #[.int .i64 k, .int .i64 n, .string s, .slice a len cap], .agg #[.int .i64 k', .int .i64 n', .string s', .slice a' len' cap']] w
      fun e w' => e = .returned (.bool false) ∧ Below w.heap.size w w' := by
  go_enter Try.func21, Try.ntmps21
  go_wp2
  go_ret
  exact ⟨rfl, by go_grown⟩

set_option maxHeartbeats 400000 in
theorem cSame_2 (k n  n' : Int) (s s' : ByteArray) (a a' : Option Addr) (len cap len' cap' : Nat) (w : World) (hk : (n == n') = false) :
    Calls Try.prog 21 #[.agg #[.int .i64 k, .int .i64 n, .string s, .slice a len cap], .agg #[.int .i64 k, .int .i64 n', .string s', .slice a' len' cap']] w
      fun e w' => e = .returned (.bool false) ∧ Below w.heap.size w w' := by
  go_enter Try.func21, Try.ntmps21
  go_wp2
  go_ret
  exact ⟨rfl, by go_grown⟩

set_option maxHeartbeats 400000 in
theorem cSame_3 (k n : Int) (s s' : ByteArray) (a a' : Option Addr) (len cap len' cap' : Nat) (w : World) (hk : ¬ s.toList = s'.toList) :
    Calls Try.prog 21 #[.agg #[.int .i64 k, .int .i64 n, .string s, .slice a len cap], .agg #[.int .i64 k, .int .i64 n, .string s', .slice a' len' cap']] w
      fun e w' => e = .returned (.bool false) ∧ Below w.heap.size w w' := by
  go_enter Try.func21, Try.ntmps21
  go_wp2
  go_ret
  exact ⟨rfl, by go_grown⟩

set_option maxHeartbeats 400000 in
theorem cSame_4 (k n : Int) (s s' : ByteArray) (hs : s.toList = s'.toList) (l l' : List V) (ih : ∀ x ∈ l, CSame x) (a a' : Option Addr) (cap cap' : Nat) (w : World) (hcap : l.length ≤ cap) (hm : cap ≤ maxLen) (hcap' : l'.length ≤ cap') (hm' : cap' ≤ maxLen)
    (h : l = [] ∨ ∃ b off, a = some ⟨b, off, none⟩ ∧ b < w.heap.size ∧ AtL w w.heap.size l b off) (h' : l' = [] ∨ ∃ b off, a' = some ⟨b, off, none⟩ ∧ b < w.heap.size ∧ AtL w w.heap.size l' b off) :
    Calls Try.prog 21 #[.agg #[.int .i64 k, .int .i64 n, .string s, .slice a l.length cap], .agg #[.int .i64 k, .int .i64 n, .string s', .slice a' l'.length cap']] w
      fun e w' => e = .returned (.bool (V.sames l l')) ∧ Below w.heap.size w w' := by
  have H := Lib.hid h; clear h
  have H' := Lib.hid h'; clear h'
  have IH := Lib.hid ih; clear ih
  go_enter Try.func21, Try.ntmps21
  go_wp2_with fail
  obtain ⟨w2, hw2⟩ : ∃ w2, w2 = ((w.alloc (Obj.cells #[Value.int IntKind.i64 k, Value.int IntKind.i64 n, Value.string s, Value.slice a l.length cap] 24)).alloc
        (Obj.cells #[Value.int IntKind.i64 k, Value.int IntKind.i64 n, Value.string s', Value.slice a' l'.length cap'] 24)) := ⟨_, rfl⟩
  rw [← hw2]
  have hB2 : Below w.heap.size w w2 := by rw [hw2]; go_grown
  clear hw2
  have hz2 := hB2.size
  refine (eqFunc_any l l' IH.out a a' cap cap' w2 hcap hm hcap' hm' ?_ ?_).mono ?_
  · rcases H.out with h | ⟨b, off, h1, h2, h3⟩
    · exact .inl h
    · exact .inr ⟨b, off, h1, by omega, AtL.mono hz2 _ _ _ (AtL.below hB2 _ _ _ h2 h3)⟩
  · rcases H'.out with h | ⟨b, off, h1, h2, h3⟩
    · exact .inl h
    · exact .inr ⟨b, off, h1, by omega, AtL.mono hz2 _ _ _ (AtL.below hB2 _ _ _ h2 h3)⟩
  rintro e w3 ⟨rfl, hb3⟩
  go_wp2
  go_ret
  exact ⟨rfl, hB2.trans (hb3.mono hz2)⟩

theorem cSame : ∀ (N : Nat) (x : V), SizeOf.sizeOf x ≤ N → CSame x
  | 0, ⟨k, n, s, l⟩, h => by simp at h
  | N + 1, ⟨k, n, s, l⟩, h => by
    intro ⟨k', n', s', l'⟩ w B v v' hB hx hy
    have hx := V.At.mono hB _ _ hx
    have hy := V.At.mono hB _ _ hy
    unfold V.At at hx hy
    obtain ⟨h1, h2, h3, a, cap, rfl, h5, h6, h7⟩ := hx
    obtain ⟨h1', h2', h3', a', cap', rfl, h5', h6', h7'⟩ := hy
    by_cases ek : k = k'
    · subst ek
      by_cases en : n = n'
      · subst en
        by_cases es : s.toList = s'.toList
        · have e : V.same ⟨k, n, s, l⟩ ⟨k, n, s', l'⟩ = V.sames l l' := by unfold V.same; simp [es]
          rw [e]
          exact cSame_4 k n s s' es l l' (fun x hx => cSame N x (by have := List.sizeOf_lt_of_mem hx; simp at h; omega)) a a' cap cap' w h5 h6 h5' h6' h7 h7'
        · have e : V.same ⟨k, n, s, l⟩ ⟨k, n, s', l'⟩ = false := by unfold V.same; simp [es]
          rw [e]; exact cSame_3 k n s s' a a' _ cap _ cap' w es
      · have e : V.same ⟨k, n, s, l⟩ ⟨k, n', s', l'⟩ = false := by unfold V.same; simp [en]
        rw [e]; exact cSame_2 k n n' s s' a a' _ cap _ cap' w (by simpa using en)
    · have e : V.same ⟨k, n, s, l⟩ ⟨k', n', s', l'⟩ = false := by unfold V.same; simp [ek]
      rw [e]; exact cSame_1 k n k' n' s s' a a' _ cap _ cap' w (by simpa using ek)

end Go.Proofs.Ytkecoohplpbgnaa
