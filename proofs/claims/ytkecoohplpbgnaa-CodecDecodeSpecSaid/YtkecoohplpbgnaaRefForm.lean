/- ref.Formed, ref.Depth and ref.Check answer what V.formed, V.dep and V.chk answer. -/
import Derived.Test.YtkecoohplpbgnaaForm
namespace Go.Proofs.Ytkecoohplpbgnaa
open Go.RowKit

def RForm (x : V) : Prop := ∀ (w : World) (B : Nat) (v : Value), B ≤ w.heap.size → V.At w B x v →
  Calls Try.prog 31 #[v] w fun e w' => e = .returned (.bool x.formed) ∧ Below w.heap.size w w'

set_option maxHeartbeats 400000 in
theorem rform_1 (n : Int) (s : ByteArray) (a : Option Addr) (len cap : Nat) (w : World) :
    Calls Try.prog 31 #[.agg #[.int .i64 1, .int .i64 n, .string s, .slice a len cap]] w
      fun e w' => e = .returned (.bool (decide (s.toList = []) && decide (len = 0))) ∧ Below w.heap.size w w' := by
  by_cases hs : s.toList = []
  · by_cases hl : len = 0
    · subst hl
      go_enter Try.func31, Try.ntmps31
      go_wp2
      go_ret
      exact ⟨by simp [hs], by go_grown⟩
    · have hl' : ((len : Int) == 0) = false := by simpa using hl
      go_enter Try.func31, Try.ntmps31
      go_wp2
      go_ret
      exact ⟨by simp [hl], by go_grown⟩
  · go_enter Try.func31, Try.ntmps31
    go_wp2
    go_ret
    exact ⟨by simp [hs], by go_grown⟩

set_option maxHeartbeats 400000 in
theorem rform_2 (n : Int) (s : ByteArray) (a : Option Addr) (len cap : Nat) (w : World) :
    Calls Try.prog 31 #[.agg #[.int .i64 2, .int .i64 n, .string s, .slice a len cap]] w
      fun e w' => e = .returned (.bool (decide (n = 0) && decide (len = 0))) ∧ Below w.heap.size w w' := by
  by_cases hs : n = 0
  · subst hs
    by_cases hl : len = 0
    · subst hl
      go_enter Try.func31, Try.ntmps31
      go_wp2
      go_ret
      exact ⟨by simp, by go_grown⟩
    · have hl' : ((len : Int) == 0) = false := by simpa using hl
      go_enter Try.func31, Try.ntmps31
      go_wp2
      go_ret
      exact ⟨by simp [hl], by go_grown⟩
  · have hl' : (n == 0) = false := by simpa using hs
    go_enter Try.func31, Try.ntmps31
    go_wp2
    go_ret
    exact ⟨by simp [hs], by go_grown⟩

set_option maxHeartbeats 400000 in
theorem rform_no (k n : Int) (h1 : k ≠ 1) (h2 : k ≠ 2) (h3 : k ≠ 3) (s : ByteArray) (a : Option Addr) (len cap : Nat) (w : World) :
    Calls Try.prog 31 #[.agg #[.int .i64 k, .int .i64 n, .string s, .slice a len cap]] w
      fun e w' => e = .returned (.bool false) ∧ Below w.heap.size w w' := by
  have h1' : (k == 1) = false := by simpa using h1
  have h2' : (k == 2) = false := by simpa using h2
  have h3' : (k == 3) = false := by simpa using h3
  go_enter Try.func31, Try.ntmps31
  go_wp2
  go_ret
  exact ⟨by simp, by go_grown⟩

set_option maxHeartbeats 400000 in
theorem rform_30 (n : Int) (s : ByteArray) (a : Option Addr) (cap : Nat) (w : World) :
    Calls Try.prog 31 #[.agg #[.int .i64 3, .int .i64 n, .string s, .slice a 0 cap]] w
      fun e w' => e = .returned (.bool (decide (n = 0) && decide (s.toList = []))) ∧ Below w.heap.size w w' := by
  by_cases hn : n = 0
  · subst hn
    by_cases hs : s.toList = []
    · go_enter Try.func31, Try.ntmps31
      go_wp2
      go_rounds 1
      go_ret
      exact ⟨by simp [hs], by go_grown⟩
    · go_enter Try.func31, Try.ntmps31
      go_wp2
      go_rounds 1
      go_ret
      exact ⟨by simp [hs], by go_grown⟩
  · have hl' : (n == 0) = false := by simpa using hn
    go_enter Try.func31, Try.ntmps31
    go_wp2
    go_rounds 1
    go_ret
    exact ⟨by simp [hn], by go_grown⟩

set_option maxHeartbeats 1000000 in
theorem rform_35 (n : Int) (s : ByteArray) (l : List V) (ih : ∀ x ∈ l, RForm x) (b off cap : Nat) (w : World) (hb : b < w.heap.size) (_hcap : l.length ≤ cap) (hm : cap ≤ maxLen) (h : AtL w w.heap.size l b off) :
    Calls Try.prog 31 #[.agg #[.int .i64 3, .int .i64 n, .string s, .slice (some ⟨b, off, none⟩) l.length cap]] w
      fun e w' => e = .returned (.bool (V.formeds l && (decide (n = 0) && decide (s.toList = [])))) ∧ Below w.heap.size w w' := by
  unfold maxLen at hm
  obtain ⟨len, hlen⟩ : ∃ len, l.length = len := ⟨_, rfl⟩
  rw [hlen] at _hcap ⊢
  have HLEN := Lib.hid hlen; clear hlen
  go_enter Try.func31, Try.ntmps31
  go_wp2
  obtain ⟨w0, hw0⟩ : ∃ w0, w0 = (w.alloc (Obj.cells #[Value.int IntKind.i64 3, Value.int IntKind.i64 n, Value.string s, Value.slice (some ⟨b, off, none⟩) len cap] 24)) := ⟨_, rfl⟩
  rw [← hw0]
  have hz : w0.heap.size = w.heap.size + 1 := by rw [hw0]; simp
  have hB : Below w.heap.size w w0 := by rw [hw0]; go_grown
  have c1 : w0.cell? ⟨w.heap.size, 3, none⟩ = some (Value.slice (some ⟨b, off, none⟩) len cap) := by rw [hw0]; go_cell
  have c2 : w0.cell? ⟨w.heap.size, 1, none⟩ = some (Value.int .i64 n) := by rw [hw0]; go_cell
  have c3 : w0.cell? ⟨w.heap.size, 2, none⟩ = some (Value.string s) := by rw [hw0]; go_cell
  clear hw0
  go_loopw [3] (fun i wr => ∃ m : Nat, i = .int .i64 m ∧ m ≤ len ∧ V.formeds l = V.formeds (l.drop m) ∧ Below w0.heap.size w0 wr) (fun i _ => len - (intOf i).toNat)
  case atStart => exact ⟨0, rfl, Nat.zero_le _, by simp, Below.refl _ _⟩
  case round =>
    obtain ⟨m, rfl, hmle, hsm, hBr⟩ := hrel
    have HSM := Lib.hid hsm; clear hsm
    have d1 : wr.cell? ⟨w.heap.size, 3, none⟩ = some (Value.slice (some ⟨b, off, none⟩) len cap) := (hBr.cell (by simp; omega)).trans c1
    have d2 : wr.cell? ⟨w.heap.size, 1, none⟩ = some (Value.int .i64 n) := (hBr.cell (by simp; omega)).trans c2
    have d3 : wr.cell? ⟨w.heap.size, 2, none⟩ = some (Value.string s) := (hBr.cell (by simp; omega)).trans c3
    have hBw := hB.trans (hBr.mono (by omega))
    clear c1 c2 c3
    by_cases hlt : m < len
    · obtain ⟨k2, n2, s2, a2, ln, cp, g0, g1, g2, g3, ga⟩ := AtL.got l b off m (by rw [HLEN.out]; exact hlt) (AtL.below hBw l b off hb h)
      have GA := Lib.hid ga; clear ga
      have hq2 : V.formeds l = ((l[m]'(by rw [HLEN.out]; exact hlt)).formed && V.formeds (l.drop (m + 1))) := by
        rw [HSM.out, List.drop_eq_getElem_cons (by rw [HLEN.out]; exact hlt)]; simp only [V.formeds]
      have hc := ih _ (List.getElem_mem (by rw [HLEN.out]; exact hlt)) wr w.heap.size _ (by have := hBw.size; omega) GA.out
      obtain ⟨r, hr⟩ : ∃ r, (l[m]'(by rw [HLEN.out]; exact hlt)).formed = r := ⟨_, rfl⟩
      rw [hr] at hc hq2
      have HC := Lib.hid hc
      have HQ := Lib.hid hq2
      clear hc hr hq2 h d2 d3
      go_wp2_with fail
      refine HC.out.mono ?_
      rintro e w3 ⟨rfl, hb3⟩
      have hB3 := hBr.trans (hb3.mono hBr.size)
      have hB4 := hBw.trans (hb3.mono hBw.size)
      clear hb3
      cases r
      · go_wp2
        go_ret
        exact ⟨by rw [HQ.out]; rfl, hB4⟩
      · go_wp2
        go_roundw
        case rel => exact ⟨m + 1, by go_num, by omega, by rw [HQ.out]; rfl, hB3⟩
        case measure => simp [intOf]; omega
    · have hme : m = len := by omega
      have hq : V.formeds l = true := by
        rw [HSM.out, hme, List.drop_of_length_le (by rw [HLEN.out]; exact Nat.le_refl _)]; rfl
      have HQ := Lib.hid hq
      clear hq hme h
      by_cases hn : n = 0
      · subst hn
        by_cases hs : s.toList = []
        · go_wp2
          go_ret
          exact ⟨by simp [HQ.out], hBw⟩
        · go_wp2
          go_ret
          exact ⟨by simp [hs], hBw⟩
      · have hl' : (n == 0) = false := by simpa using hn
        go_wp2
        go_ret
        exact ⟨by rw [HQ.out]; simp [hn], hBw⟩

theorem refForm : ∀ (N : Nat) (x : V), SizeOf.sizeOf x ≤ N → RForm x
  | 0, ⟨k, n, s, l⟩, h => by simp at h
  | N + 1, ⟨k, n, s, l⟩, h => by
    intro w B v hB hx
    have hx := V.At.mono hB _ _ hx
    unfold V.At at hx
    obtain ⟨h1, h2, h3, a, cap, rfl, h5, h6, h7⟩ := hx
    unfold V.formed
    by_cases e1 : k = 1
    · subst e1
      simp only [if_true]
      exact rform_1 n s a _ cap w
    by_cases e2 : k = 2
    · subst e2
      simp only [show ¬ ((2 : Int) = 1) by omega, if_true, if_false]
      exact rform_2 n s a _ cap w
    by_cases e3 : k = 3
    · subst e3
      simp only [show ¬ ((3 : Int) = 1) by omega, show ¬ ((3 : Int) = 2) by omega, if_true, if_false]
      have e : (decide (n = 0) && (decide (s.toList = []) && V.formeds l)) = (V.formeds l && (decide (n = 0) && decide (s.toList = []))) := by
        cases decide (n = 0) <;> cases decide (s.toList = []) <;> cases V.formeds l <;> rfl
      rw [e]
      rcases h7 with h7 | ⟨b, off, rfl, hb, h10⟩
      · subst h7
        exact rform_30 n s a cap w
      · exact rform_35 n s l (fun x hx => refForm N x (by have := List.sizeOf_lt_of_mem hx; simp at h; omega)) b off cap w hb h5 h6 h10
    · simp only [e1, e2, e3, if_false]
      exact rform_no k n e1 e2 e3 s a _ cap w

def RDep (x : V) : Prop := ∀ (w : World) (B : Nat) (v : Value), V.dep x ≤ 1000000 → B ≤ w.heap.size → V.At w B x v →
  Calls Try.prog 32 #[v] w fun e w' => e = .returned (.int .i64 (x.dep : Nat)) ∧ Below w.heap.size w w'

set_option maxHeartbeats 400000 in
theorem rdep_no (k n : Int) (h1 : k ≠ 3) (s : ByteArray) (a : Option Addr) (len cap : Nat) (w : World) :
    Calls Try.prog 32 #[.agg #[.int .i64 k, .int .i64 n, .string s, .slice a len cap]] w
      fun e w' => e = .returned (.int .i64 0) ∧ Below w.heap.size w w' := by
  have h1' : (k != 3) = true := by simpa using h1
  go_enter Try.func32, Try.ntmps32
  go_wp2
  go_ret
  exact ⟨rfl, by go_grown⟩

set_option maxHeartbeats 400000 in
theorem rdep_0 (n : Int) (s : ByteArray) (a : Option Addr) (cap : Nat) (w : World) :
    Calls Try.prog 32 #[.agg #[.int .i64 3, .int .i64 n, .string s, .slice a 0 cap]] w
      fun e w' => e = .returned (.int .i64 1) ∧ Below w.heap.size w w' := by
  go_enter Try.func32, Try.ntmps32
  go_wp2
  go_rounds 1
  go_ret
  exact ⟨rfl, by go_grown⟩

set_option maxHeartbeats 1000000 in
theorem rdep_5 (n : Int) (s : ByteArray) (l : List V) (hd : V.deps l ≤ 999999) (ih : ∀ x ∈ l, RDep x) (b off cap : Nat) (w : World) (hb : b < w.heap.size) (_hcap : l.length ≤ cap) (hm : cap ≤ maxLen) (h : AtL w w.heap.size l b off) :
    Calls Try.prog 32 #[.agg #[.int .i64 3, .int .i64 n, .string s, .slice (some ⟨b, off, none⟩) l.length cap]] w
      fun e w' => e = .returned (.int .i64 ((V.deps l + 1 : Nat) : Int)) ∧ Below w.heap.size w w' := by
  unfold maxLen at hm
  obtain ⟨len, hlen⟩ : ∃ len, l.length = len := ⟨_, rfl⟩
  rw [hlen] at _hcap ⊢
  have HLEN := Lib.hid hlen; clear hlen
  have HD := Lib.hid hd; clear hd
  go_enter Try.func32, Try.ntmps32
  go_wp2
  obtain ⟨w0, hw0⟩ : ∃ w0, w0 = (w.alloc (Obj.cells #[Value.int IntKind.i64 3, Value.int IntKind.i64 n, Value.string s, Value.slice (some ⟨b, off, none⟩) len cap] 24)) := ⟨_, rfl⟩
  rw [← hw0]
  have hz : w0.heap.size = w.heap.size + 1 := by rw [hw0]; simp
  have hB : Below w.heap.size w w0 := by rw [hw0]; go_grown
  have c1 : w0.cell? ⟨w.heap.size, 3, none⟩ = some (Value.slice (some ⟨b, off, none⟩) len cap) := by rw [hw0]; go_cell
  clear hw0
  go_loopw [3, 4] (fun t i wr => ∃ m q : Nat, i = .int .i64 m ∧ t = .int .i64 q ∧ m ≤ len ∧ q ≤ 999999 ∧ V.deps l = max q (V.deps (l.drop m)) ∧ Below w0.heap.size w0 wr) (fun _ i _ => len - (intOf i).toNat)
  case atStart => exact ⟨0, 0, rfl, rfl, Nat.zero_le _, by omega, by simp, Below.refl _ _⟩
  case round =>
    obtain ⟨m, q, rfl, rfl, hmle, hq1, hsm, hBr⟩ := hrel
    have HSM := Lib.hid hsm; clear hsm
    have d1 : wr.cell? ⟨w.heap.size, 3, none⟩ = some (Value.slice (some ⟨b, off, none⟩) len cap) := (hBr.cell (by simp; omega)).trans c1
    have hBw := hB.trans (hBr.mono (by omega))
    clear c1
    by_cases hlt : m < len
    · obtain ⟨k2, n2, s2, a2, ln, cp, g0, g1, g2, g3, ga⟩ := AtL.got l b off m (by rw [HLEN.out]; exact hlt) (AtL.below hBw l b off hb h)
      have GA := Lib.hid ga; clear ga
      have hdl : V.deps (l.drop m) = max (V.dep (l[m]'(by rw [HLEN.out]; exact hlt))) (V.deps (l.drop (m + 1))) := by
        rw [List.drop_eq_getElem_cons (by rw [HLEN.out]; exact hlt)]; simp only [V.deps]
      have hr0 : V.dep (l[m]'(by rw [HLEN.out]; exact hlt)) ≤ 999999 := by
        have h1 := HSM.out; have h2 := HD.out; rw [hdl] at h1; omega
      have hc := ih _ (List.getElem_mem (by rw [HLEN.out]; exact hlt)) wr w.heap.size _ (by omega) (by have := hBw.size; omega) GA.out
      obtain ⟨r, hr⟩ : ∃ r, V.dep (l[m]'(by rw [HLEN.out]; exact hlt)) = r := ⟨_, rfl⟩
      rw [hr] at hdl hc hr0
      have hq2 : V.deps l = max (max q r) (V.deps (l.drop (m + 1))) := by rw [HSM.out, hdl]; omega
      have HQ := Lib.hid hq2
      have HC := Lib.hid hc
      clear hq2 hc hr h hdl
      go_wp2_with fail
      refine HC.out.mono ?_
      rintro e w3 ⟨rfl, hb3⟩
      have hB3 := hBr.trans (hb3.mono hBr.size)
      clear hb3
      go_wp2
      refine ⟨⟨m + 1, max q r, by go_num, ?_, by omega, by omega, HQ.out, hB3⟩, by simp [intOf]; omega⟩
      congr 1; split <;> omega
    · have hme : m = len := by omega
      have hq : V.deps l = q := by
        rw [HSM.out, hme, List.drop_of_length_le (by rw [HLEN.out]; exact Nat.le_refl _)]; unfold V.deps; omega
      have HQ := Lib.hid hq
      clear hq hme h
      go_wp2
      go_ret
      exact ⟨ret_int (by rw [HQ.out]; push_cast; omega), hBw⟩

theorem refDep : ∀ (N : Nat) (x : V), SizeOf.sizeOf x ≤ N → RDep x
  | 0, ⟨k, n, s, l⟩, h => by simp at h
  | N + 1, ⟨k, n, s, l⟩, h => by
    intro w B v hd hB hx
    have hx := V.At.mono hB _ _ hx
    unfold V.At at hx
    obtain ⟨h1, h2, h3, a, cap, rfl, h5, h6, h7⟩ := hx
    unfold V.dep at hd ⊢
    by_cases e3 : k = 3
    · subst e3
      simp only [if_true] at hd ⊢
      rcases h7 with h7 | ⟨b, off, rfl, hb, h10⟩
      · subst h7
        unfold V.deps
        exact rdep_0 n s a cap w
      · exact rdep_5 n s l (by omega) (fun x hx => refDep N x (by have := List.sizeOf_lt_of_mem hx; simp at h; omega)) b off cap w hb h5 h6 h10
    · simp only [e3, if_false]
      exact rdep_no k n e3 s a _ cap w

set_option maxHeartbeats 400000 in
theorem rcheck_any (x : V) (w : World) (B : Nat) (v : Value) (hd : V.dep x ≤ 1000000) (hB : B ≤ w.heap.size) (h : V.At w B x v) :
    Calls Try.prog 17 #[v] w fun e w' => e = .returned (.int .i64 x.chk) ∧ Below w.heap.size w w' := by
  have hc : ∀ W, Below w.heap.size w W → Calls Try.prog 31 #[v] W fun e w' => e = .returned (.bool x.formed) ∧ Below W.heap.size W w' :=
    fun W hW => refForm _ x (Nat.le_refl _) W B v (by have := hW.size; omega) (V.At.below (hW.mono hB) _ _ h)
  have hc2 : ∀ W, Below w.heap.size w W → Calls Try.prog 32 #[v] W fun e w' => e = .returned (.int .i64 (x.dep : Nat)) ∧ Below W.heap.size W w' :=
    fun W hW => refDep _ x (Nat.le_refl _) W B v hd (by have := hW.size; omega) (V.At.below (hW.mono hB) _ _ h)
  unfold V.chk
  obtain ⟨q, hq⟩ : ∃ q, x.formed = q := ⟨_, rfl⟩
  obtain ⟨d, hdd⟩ : ∃ d, x.dep = d := ⟨_, rfl⟩
  rw [hq] at hc ⊢
  rw [hdd] at hc2 hd ⊢
  obtain ⟨k, n, s, l⟩ := x
  unfold V.At at h
  obtain ⟨h1, h2, h3, a, cap, rfl, _⟩ := h
  have HC := Lib.hid hc
  have HC2 := Lib.hid hc2
  clear hc hc2 h1 h2 hq hdd
  cases q
  · go_enter Try.func17, Try.ntmps17
    go_wp2_with fail
    refine (HC.out _ (by go_grown)).mono ?_
    rintro e w3 ⟨rfl, hb3⟩
    go_wp2
    go_ret
    exact ⟨rfl, Below.trans (by go_grown) (hb3.mono (by simp))⟩
  · go_enter Try.func17, Try.ntmps17
    go_wp2_with fail
    refine (HC.out _ (by go_grown)).mono ?_
    rintro e w3 ⟨rfl, hb3⟩
    have hs3 := hb3.size
    have hc0 : ∀ i v, (w.alloc (Obj.cells #[Value.int IntKind.i64 k, Value.int IntKind.i64 n, Value.string s, Value.slice a l.length cap] 24)).cell? ⟨w.heap.size, i, none⟩ = some v → w3.cell? ⟨w.heap.size, i, none⟩ = some v :=
      fun i v hv => (hb3.cell (p := ⟨w.heap.size, i, none⟩) (by simp)).trans hv
    have k0 := hc0 0 (.int .i64 k) (by go_cell)
    have k1 := hc0 1 (.int .i64 n) (by go_cell)
    have k2 := hc0 2 (.string s) (by go_cell)
    have k3 := hc0 3 (.slice a l.length cap) (by go_cell)
    have hb4 : Below w.heap.size w w3 := Below.trans (by go_grown) (hb3.mono (by simp))
    clear hc0 hb3
    by_cases h16 : 16 < d
    · have h16' : decide (16 < (d : Int)) = true := by simp; omega
      go_wp2_with fail
      refine (HC2.out _ hb4).mono ?_
      rintro e w5 ⟨rfl, hb5⟩
      go_wp2
      go_ret
      exact ⟨rfl, hb4.trans (hb5.mono hb4.size)⟩
    · have h16' : decide (16 < (d : Int)) = false := by simp; omega
      go_wp2_with fail
      refine (HC2.out _ hb4).mono ?_
      rintro e w5 ⟨rfl, hb5⟩
      go_wp2
      go_ret
      exact ⟨rfl, hb4.trans (hb5.mono hb4.size)⟩

end Go.Proofs.Ytkecoohplpbgnaa
