/- ref.Same answers what V.same answers. -/
import Derived.Test.YtkecoohplpbgnaaVal
import Derived.WalkSpells
import Derived.WalkLawsBesides
import Derived.StillTailTactics
import Derived.Handy
import Derived.Lib.Hide
namespace Go.Proofs.Ytkecoohplpbgnaa
open Go.RowKit

set_option maxHeartbeats 400000 in
theorem refSame_1 (k n k' n' : Int) (s s' : ByteArray) (a a' : Option Addr) (len cap len' cap' : Nat) (w : World) (hk : (k == k') = false) :
    Calls Try.prog 20 #[.agg #[.int .i64 k, .int .i64 n, .string s, .slice a len cap], .agg #[.int .i64 k', .int .i64 n', .string s', .slice a' len' cap']] w
      fun e w' => e = .returned (.bool false) ∧ Below w.heap.size w w' := by
  have hk' : (k != k') = true := by simp [bne, hk]
  go_enter Try.func20, Try.ntmps20
  go_wp2
  go_ret
  exact ⟨rfl, by go_grown⟩

set_option maxHeartbeats 400000 in
theorem refSame_2 (k n  n' : Int) (s s' : ByteArray) (a a' : Option Addr) (len cap len' cap' : Nat) (w : World) (hk : (n == n') = false) :
    Calls Try.prog 20 #[.agg #[.int .i64 k, .int .i64 n, .string s, .slice a len cap], .agg #[.int .i64 k, .int .i64 n', .string s', .slice a' len' cap']] w
      fun e w' => e = .returned (.bool false) ∧ Below w.heap.size w w' := by
  have hk' : (n != n') = true := by simp [bne, hk]
  go_enter Try.func20, Try.ntmps20
  go_wp2
  go_ret
  exact ⟨rfl, by go_grown⟩

set_option maxHeartbeats 400000 in
theorem refSame_3 (k n : Int) (s s' : ByteArray) (a a' : Option Addr) (len cap len' cap' : Nat) (w : World) (hk : ¬ s.toList = s'.toList) :
    Calls Try.prog 20 #[.agg #[.int .i64 k, .int .i64 n, .string s, .slice a len cap], .agg #[.int .i64 k, .int .i64 n, .string s', .slice a' len' cap']] w
      fun e w' => e = .returned (.bool false) ∧ Below w.heap.size w w' := by
  go_enter Try.func20, Try.ntmps20
  go_wp2
  go_ret
  exact ⟨rfl, by go_grown⟩

set_option maxHeartbeats 400000 in
theorem refSame_4 (k n : Int) (s s' : ByteArray) (hs : s.toList = s'.toList) (a a' : Option Addr) (len cap len' cap' : Nat) (w : World) (hk : len ≠ len') :
    Calls Try.prog 20 #[.agg #[.int .i64 k, .int .i64 n, .string s, .slice a len cap], .agg #[.int .i64 k, .int .i64 n, .string s', .slice a' len' cap']] w
      fun e w' => e = .returned (.bool false) ∧ Below w.heap.size w w' := by
  have hk' : ((len : Int) != (len' : Int)) = true := by simp [bne]; omega
  go_enter Try.func20, Try.ntmps20
  go_wp2
  go_ret
  exact ⟨rfl, by go_grown⟩

/-- What ref.Same is to answer at a tree. -/
def RefSame (x : V) : Prop := ∀ (y : V) (w : World) (B : Nat) (v v' : Value), B ≤ w.heap.size → V.At w B x v → V.At w B y v' →
  Calls Try.prog 20 #[v, v'] w fun e w' => e = .returned (.bool (x.same y)) ∧ Below w.heap.size w w'

set_option maxHeartbeats 400000 in
theorem refSame_5 (k n : Int) (s s' : ByteArray) (l l' : List V) (hs : s.toList = s'.toList) (hl : l'.length = l.length) (ih : ∀ x ∈ l, RefSame x) (b off cap b' off' cap' : Nat) (w : World) (hb : b < w.heap.size) (hb' : b' < w.heap.size)
    (hcap : l.length ≤ cap) (hm : cap ≤ maxLen) (_hcap' : l.length ≤ cap') (_hm' : cap' ≤ maxLen)
    (h : AtL w w.heap.size l b off) (h' : AtL w w.heap.size l' b' off') :
    Calls Try.prog 20 #[.agg #[.int .i64 k, .int .i64 n, .string s, .slice (some ⟨b, off, none⟩) l.length cap], .agg #[.int .i64 k, .int .i64 n, .string s', .slice (some ⟨b', off', none⟩) l'.length cap']] w
      fun e w' => e = .returned (.bool (V.sames l l')) ∧ Below w.heap.size w w' := by
  unfold maxLen at hm _hm'
  rw [hl]
  have HL := Lib.hid hl; clear hl
  obtain ⟨len, hlen⟩ : ∃ len, l.length = len := ⟨_, rfl⟩
  rw [hlen] at hcap _hcap' ⊢
  have HLEN := Lib.hid hlen; clear hlen
  go_enter Try.func20, Try.ntmps20
  go_wp2
  obtain ⟨w0, hw0⟩ : ∃ w0, w0 = ((w.alloc (Obj.cells #[Value.int IntKind.i64 k, Value.int IntKind.i64 n, Value.string s, Value.slice (some ⟨b, off, none⟩) len cap] 24)).alloc
        (Obj.cells #[Value.int IntKind.i64 k, Value.int IntKind.i64 n, Value.string s', Value.slice (some ⟨b', off', none⟩) len cap'] 24)) := ⟨_, rfl⟩
  rw [← hw0]
  have hz : w0.heap.size = w.heap.size + 2 := by rw [hw0]; simp
  have hB : Below w.heap.size w w0 := by rw [hw0]; go_grown
  have c1 : w0.cell? ⟨w.heap.size, 3, none⟩ = some (Value.slice (some ⟨b, off, none⟩) len cap) := by rw [hw0]; go_cell
  have c2 : w0.cell? ⟨w.heap.size + 1, 3, none⟩ = some (Value.slice (some ⟨b', off', none⟩) len cap') := by rw [hw0]; go_cell
  clear hw0
  go_loopw [5] (fun i wr => ∃ m : Nat, i = .int .i64 m ∧ m ≤ len ∧ V.sames l l' = V.sames (l.drop m) (l'.drop m) ∧ Below w0.heap.size w0 wr) (fun i _ => len - (intOf i).toNat)
  case atStart => exact ⟨0, rfl, Nat.zero_le _, by simp, Below.refl _ _⟩
  case round =>
    obtain ⟨m, rfl, hmle, hsm, hBr⟩ := hrel
    have HSM := Lib.hid hsm; clear hsm
    have d1 : wr.cell? ⟨w.heap.size, 3, none⟩ = some (Value.slice (some ⟨b, off, none⟩) len cap) := (hBr.cell (by simp; omega)).trans c1
    have d2 : wr.cell? ⟨w.heap.size + 1, 3, none⟩ = some (Value.slice (some ⟨b', off', none⟩) len cap') := (hBr.cell (by simp; omega)).trans c2
    have hBw := hB.trans (hBr.mono (by omega))
    by_cases hlt : m < len
    · obtain ⟨e0, e1, e2, e3, g0, g1, g2, g3, ga⟩ := AtL.get l b off m (by rw [HLEN.out]; exact hlt) (AtL.below hBw l b off hb h)
      obtain ⟨e0', e1', e2', e3', g0', g1', g2', g3', ga'⟩ := AtL.get l' b' off' m (by rw [HL.out, HLEN.out]; exact hlt) (AtL.below hBw l' b' off' hb' h')
      have GA := Lib.hid ga; clear ga
      have GA' := Lib.hid ga'; clear ga'
      clear h h' c1 c2
      go_wp2
      go_still_tail 10, (by kernel_rfl)
      change wpList _ _ _ _ _ wr.drew
      obtain ⟨w2, hw2⟩ : ∃ w2, w2 = wr.drew := ⟨_, rfl⟩
      have hB2 : Below w0.heap.size w0 w2 := by rw [hw2]; exact hBr.drew
      have hx : V.At w2 w.heap.size (l[m]'(by rw [HLEN.out]; exact hlt)) (.agg #[e0, e1, e2, e3]) := by rw [hw2]; exact V.At.below ((Below.refl _ _).drew) _ _ GA.out
      have hy : V.At w2 w.heap.size (l'[m]'(by rw [HL.out, HLEN.out]; exact hlt)) (.agg #[e0', e1', e2', e3']) := by rw [hw2]; exact V.At.below ((Below.refl _ _).drew) _ _ GA'.out
      rw [← hw2]
      have HX := Lib.hid hx
      have HY := Lib.hid hy
      have hz2 : w.heap.size ≤ w2.heap.size := by have := hB2.size; omega
      have hq : V.sames l l' = ((l[m]'(by rw [HLEN.out]; exact hlt)).same (l'[m]'(by rw [HL.out, HLEN.out]; exact hlt)) && V.sames (l.drop (m + 1)) (l'.drop (m + 1))) := by
        rw [HSM.out, List.drop_eq_getElem_cons (by rw [HLEN.out]; exact hlt), List.drop_eq_getElem_cons (l := l') (by rw [HL.out, HLEN.out]; exact hlt)]; simp only [V.sames]
      have hc := ih _ (List.getElem_mem (by rw [HLEN.out]; exact hlt)) _ w2 w.heap.size _ _ hz2 hx hy
      obtain ⟨r, hr⟩ : ∃ r, (l[m]'(by rw [HLEN.out]; exact hlt)).same (l'[m]'(by rw [HL.out, HLEN.out]; exact hlt)) = r := ⟨_, rfl⟩
      rw [hr] at hc hq
      have HC := Lib.hid hc
      have HQ := Lib.hid hq
      clear hx hy hw2 hc hq hr d1 d2 g0 g1 g2 g3 g0' g1' g2' g3'
      go_wp2_with fail
      refine HC.out.mono ?_
      rintro e w3 ⟨rfl, hb3⟩
      have hB3 := hB2.trans (hb3.mono hB2.size)
      cases r
      · go_wp2
        go_ret
        exact ⟨by rw [HQ.out]; rfl, hB.trans (hB3.mono (by omega))⟩
      · go_wp2
        go_roundw
        case rel => exact ⟨m + 1, by go_num, by omega, by rw [HQ.out]; rfl, hB3⟩
        case measure => simp [intOf]; omega
    · have hme : m = len := by omega
      have hq : V.sames l l' = true := by
        rw [HSM.out, hme, List.drop_of_length_le (by rw [HLEN.out]; exact Nat.le_refl _), List.drop_of_length_le (l := l') (by rw [HL.out, HLEN.out]; exact Nat.le_refl _)]; unfold V.sames; rfl
      have HQ := Lib.hid hq
      clear hq hme h h' c1 c2
      go_wp2
      go_ret
      exact ⟨by rw [HQ.out]; rfl, hBw⟩

set_option maxHeartbeats 400000 in
theorem refSame_0 (k n : Int) (s s' : ByteArray) (hs : s.toList = s'.toList) (a a' : Option Addr) (cap cap' : Nat) (w : World) :
    Calls Try.prog 20 #[.agg #[.int .i64 k, .int .i64 n, .string s, .slice a 0 cap], .agg #[.int .i64 k, .int .i64 n, .string s', .slice a' 0 cap']] w
      fun e w' => e = .returned (.bool true) ∧ Below w.heap.size w w' := by
  go_enter Try.func20, Try.ntmps20
  go_wp2
  go_rounds 1
  go_ret
  exact ⟨rfl, by go_grown⟩

theorem refSame : ∀ (N : Nat) (x : V), SizeOf.sizeOf x ≤ N → RefSame x
  | 0, ⟨k, n, s, l⟩, h => by simp at h
  | N + 1, ⟨k, n, s, l⟩, h => by
    intro ⟨k', n', s', l'⟩ w B v v' hB hx hy
    have hx := V.At.mono hB _ _ hx
    have hy := V.At.mono hB _ _ hy
    unfold V.At at hx hy
    obtain ⟨h1, h2, h3, a, cap, rfl, h5, h6, h7⟩ := hx
    obtain ⟨h1', h2', h3', a', cap', rfl, h5', h6', h7'⟩ := hy
    by_cases ek : k = k'
    · subst ek
      by_cases en : n = n'
      · subst en
        by_cases es : s.toList = s'.toList
        · by_cases el : l'.length = l.length
          · have e : V.same ⟨k, n, s, l⟩ ⟨k, n, s', l'⟩ = V.sames l l' := by unfold V.same; simp [es]
            rw [e]
            rcases h7 with h7 | ⟨b, off, rfl, hb, h10⟩
            · subst h7
              have : l' = [] := by simpa using el
              subst this
              have e : V.sames [] [] = true := by unfold V.sames; rfl
              rw [e]
              exact refSame_0 k n s s' es a a' cap cap' w
            · rcases h7' with h7' | ⟨b', off', rfl, hb', h10'⟩
              · subst h7'
                have : l = [] := by simpa using el.symm
                subst this
                have e : V.sames [] [] = true := by unfold V.sames; rfl
                rw [e]
                exact refSame_0 k n s s' es _ a' cap cap' w
              · exact refSame_5 k n s s' l l' es el (fun x hx => refSame N x (by have := List.sizeOf_lt_of_mem hx; simp at h; omega)) b off cap b' off' cap' w hb hb' h5 h6 (by omega) h6' h10 h10'
          · have e : V.same ⟨k, n, s, l⟩ ⟨k, n, s', l'⟩ = false := by unfold V.same; simp [es]; exact V.sames_len _ _ el
            rw [e]
            exact refSame_4 k n s s' es a a' _ cap _ cap' w (fun h => el h.symm)
        · have e : V.same ⟨k, n, s, l⟩ ⟨k, n, s', l'⟩ = false := by unfold V.same; simp [es]
          rw [e]; exact refSame_3 k n s s' a a' _ cap _ cap' w es
      · have e : V.same ⟨k, n, s, l⟩ ⟨k, n', s', l'⟩ = false := by unfold V.same; simp [en]
        rw [e]; exact refSame_2 k n n' s s' a a' _ cap _ cap' w (by simpa using en)
    · have e : V.same ⟨k, n, s, l⟩ ⟨k', n', s', l'⟩ = false := by unfold V.same; simp [ek]
      rw [e]; exact refSame_1 k n k' n' s s' a a' _ cap _ cap' w (by simpa using ek)

end Go.Proofs.Ytkecoohplpbgnaa
