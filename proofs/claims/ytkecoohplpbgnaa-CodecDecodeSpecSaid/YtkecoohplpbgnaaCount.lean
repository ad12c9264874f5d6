/- ref.count answers what V.cnt answers. -/
import Derived.Test.YtkecoohplpbgnaaVal
import Derived.WalkSpells
import Derived.WalkLawsBesides
import Derived.Handy
import Derived.Lib.Hide
import Derived.StillTailTactics
namespace Go.Proofs.Ytkecoohplpbgnaa
open Go.RowKit

mutual
def V.cnt : V → Int → Int
  | ⟨_, _, s, l⟩, d => if d < 0 ∨ 150 < l.length then 1000 else V.cntL l (d - 1) (1 + (s.size : Int) / 200)
def V.cntL : List V → Int → Int → Int
  | [], _, n => n
  | x :: xs, d, n => if n ≤ 1000 then V.cntL xs d (n + V.cnt x d) else n
end

def cntMax (d : Int) : Int := 50000000000000000 + 1000 * (d + 2)

mutual
theorem V.cnt_bd {w : World} {B : Nat} : ∀ (x : V) (v : Value) (d : Int), -1 ≤ d → V.At w B x v → 0 ≤ V.cnt x d ∧ V.cnt x d ≤ cntMax d
  | ⟨k, n, s, l⟩, v, d, hd, h => by
    unfold V.At at h
    obtain ⟨_, _, h3, a, cap, _, _, _, h7⟩ := h
    unfold maxLen at h3
    unfold V.cnt
    split
    · unfold cntMax; omega
    · rcases h7 with rfl | ⟨b, off, _, _, h8⟩
      · unfold V.cntL cntMax; omega
      · have := V.cntL_bd l b off (d - 1) (1 + (s.size : Int) / 200) (by omega) h8 (by omega) (by unfold cntMax; omega)
        rw [show d - 1 + 1 = d by omega] at this
        exact this
theorem V.cntL_bd {w : World} {B : Nat} : ∀ (l : List V) (b off : Nat) (d m : Int), -1 ≤ d → AtL w B l b off → 0 ≤ m → m ≤ cntMax (d + 1) → 0 ≤ V.cntL l d m ∧ V.cntL l d m ≤ cntMax (d + 1)
  | [], b, off, d, m, hd, h, h0, h1 => by unfold V.cntL; exact ⟨h0, h1⟩
  | x :: xs, b, off, d, m, hd, h, h0, h1 => by
    unfold AtL at h
    obtain ⟨⟨c0, c1, c2, c3, _, _, _, _, hx⟩, hr⟩ := h
    have hb := V.cnt_bd x _ d hd hx
    unfold V.cntL
    split
    · exact V.cntL_bd xs b _ d _ hd hr (by omega) (by unfold cntMax at *; omega)
    · exact ⟨h0, h1⟩
end

/-- What ref.count is to answer at a tree. -/
def RCount (x : V) : Prop := ∀ (d : Int) (w : World) (B : Nat) (v : Value), -1 ≤ d → d ≤ 20 → B ≤ w.heap.size → V.At w B x v →
  Calls Try.prog 37 #[v, .int .i64 d] w fun e w' => e = .returned (.int .i64 (x.cnt d)) ∧ Below w.heap.size w w'

set_option maxHeartbeats 400000 in
theorem count_neg (k n d : Int) (s : ByteArray) (hs : s.size ≤ maxLen) (hd : d < 0) (a : Option Addr) (len cap : Nat) (w : World) :
    Calls Try.prog 37 #[.agg #[.int .i64 k, .int .i64 n, .string s, .slice a len cap], .int .i64 d] w
      fun e w' => e = .returned (.int .i64 1000) ∧ Below w.heap.size w w' := by
  unfold maxLen at hs
  have hd' : decide (d < 0) = true := by simpa using hd
  go_enter Try.func37, Try.ntmps37
  go_wp2
  go_ret
  exact ⟨rfl, by go_grown⟩

set_option maxHeartbeats 400000 in
theorem count_many (k n d : Int) (s : ByteArray) (hs : s.size ≤ maxLen) (hd : ¬ d < 0) (a : Option Addr) (len cap : Nat) (hl : 150 < len) (w : World) :
    Calls Try.prog 37 #[.agg #[.int .i64 k, .int .i64 n, .string s, .slice a len cap], .int .i64 d] w
      fun e w' => e = .returned (.int .i64 1000) ∧ Below w.heap.size w w' := by
  unfold maxLen at hs
  have hd' : decide (d < 0) = false := by simpa using hd
  go_enter Try.func37, Try.ntmps37
  go_wp2
  go_ret
  exact ⟨rfl, by go_grown⟩

set_option maxHeartbeats 400000 in
theorem count_0 (k n d : Int) (s : ByteArray) (hs : s.size ≤ maxLen) (hd : ¬ d < 0) (a : Option Addr) (cap : Nat) (w : World) :
    Calls Try.prog 37 #[.agg #[.int .i64 k, .int .i64 n, .string s, .slice a 0 cap], .int .i64 d] w
      fun e w' => e = .returned (.int .i64 (1 + (s.size : Int) / 200)) ∧ Below w.heap.size w w' := by
  unfold maxLen at hs
  have hd' : decide (d < 0) = false := by simpa using hd
  go_enter Try.func37, Try.ntmps37
  go_wp2
  go_rounds 1
  go_ret
  exact ⟨rfl, by go_grown⟩

set_option maxHeartbeats 400000 in
theorem count_5 (k n d : Int) (s : ByteArray) (hs : s.size ≤ maxLen) (hd : ¬ d < 0) (hd2 : d ≤ 20) (l : List V) (hl : ¬ 150 < l.length) (ih : ∀ x ∈ l, RCount x) (b off cap : Nat) (w : World) (hb : b < w.heap.size)
    (_hcap : l.length ≤ cap) (h : AtL w w.heap.size l b off) :
    Calls Try.prog 37 #[.agg #[.int .i64 k, .int .i64 n, .string s, .slice (some ⟨b, off, none⟩) l.length cap], .int .i64 d] w
      fun e w' => e = .returned (.int .i64 (V.cntL l (d - 1) (1 + (s.size : Int) / 200))) ∧ Below w.heap.size w w' := by
  unfold maxLen at hs
  have hd' : decide (d < 0) = false := by simpa using hd
  obtain ⟨len, hlen⟩ : ∃ len, l.length = len := ⟨_, rfl⟩
  rw [hlen] at _hcap hl ⊢
  have HLEN := Lib.hid hlen; clear hlen
  go_enter Try.func37, Try.ntmps37
  go_wp2
  obtain ⟨w0, hw0⟩ : ∃ w0, w0 = (w.alloc (Obj.cells #[Value.int IntKind.i64 k, Value.int IntKind.i64 n, Value.string s, Value.slice (some ⟨b, off, none⟩) len cap] 24)) := ⟨_, rfl⟩
  rw [← hw0]
  have hz : w0.heap.size = w.heap.size + 1 := by rw [hw0]; simp
  have hB : Below w.heap.size w w0 := by rw [hw0]; go_grown
  have c1 : w0.cell? ⟨w.heap.size, 3, none⟩ = some (Value.slice (some ⟨b, off, none⟩) len cap) := by rw [hw0]; go_cell
  clear hw0
  go_loopw [5, 6] (fun t i wr => ∃ (m : Nat) (q : Int), i = .int .i64 m ∧ t = .int .i64 q ∧ m ≤ len ∧ 0 ≤ q ∧ q ≤ cntMax 20 ∧ V.cntL l (d - 1) (1 + (s.size : Int) / 200) = V.cntL (l.drop m) (d - 1) q ∧ Below w0.heap.size w0 wr) (fun _ i _ => len - (intOf i).toNat)
  case atStart => exact ⟨0, _, rfl, rfl, Nat.zero_le _, by omega, by unfold cntMax; omega, by simp, Below.refl _ _⟩
  case round =>
    obtain ⟨m, q, rfl, rfl, hmle, hq0, hq1, hsm, hBr⟩ := hrel
    have HSM := Lib.hid hsm; clear hsm
    unfold cntMax at hq1
    have d1 : wr.cell? ⟨w.heap.size, 3, none⟩ = some (Value.slice (some ⟨b, off, none⟩) len cap) := (hBr.cell (by simp; omega)).trans c1
    have hBw := hB.trans (hBr.mono (by omega))
    by_cases hlt : m < len
    · obtain ⟨k2, n2, s2, a2, ln, cp, g0, g1, g2, g3, ga⟩ := AtL.got l b off m (by rw [HLEN.out]; exact hlt) (AtL.below hBw l b off hb h)
      have GA := Lib.hid ga; clear ga
      clear h c1
      by_cases hq : q ≤ 1000
      · have hcd := V.cnt_bd _ _ (d - 1) (by omega) GA.out
        unfold cntMax at hcd
        have hq2 : V.cntL l (d - 1) (1 + (s.size : Int) / 200) = V.cntL (l.drop (m + 1)) (d - 1) (q + V.cnt (l[m]'(by rw [HLEN.out]; exact hlt)) (d - 1)) := by
          rw [HSM.out, List.drop_eq_getElem_cons (by rw [HLEN.out]; exact hlt)]; simp only [V.cntL]; rw [if_pos hq]
        have hc := ih _ (List.getElem_mem (by rw [HLEN.out]; exact hlt)) (d - 1) wr w.heap.size _ (by omega) (by omega) (by have := hBw.size; omega) GA.out
        obtain ⟨r, hr⟩ : ∃ r, V.cnt (l[m]'(by rw [HLEN.out]; exact hlt)) (d - 1) = r := ⟨_, rfl⟩
        rw [hr] at hc hq2 hcd
        have HC := Lib.hid hc
        have HQ := Lib.hid hq2
        clear hc hr hq2
        go_wp2_with fail
        refine HC.out.mono ?_
        rintro e w3 ⟨rfl, hb3⟩
        have hB3 := hBr.trans (hb3.mono hBr.size)
        go_wp2
        go_roundw
        case rel => exact ⟨m + 1, _, by go_num, rfl, by omega, by omega, by unfold cntMax; omega, HQ.out, hB3⟩
        case measure => simp [intOf]; omega
      · have hq2 : V.cntL l (d - 1) (1 + (s.size : Int) / 200) = q := by
          rw [HSM.out, List.drop_eq_getElem_cons (by rw [HLEN.out]; exact hlt)]; simp only [V.cntL]; rw [if_neg hq]
        have HQ := Lib.hid hq2
        clear hq2
        go_wp2
        go_ret
        exact ⟨by rw [HQ.out]; rfl, hBw⟩
    · have hme : m = len := by omega
      have hq : V.cntL l (d - 1) (1 + (s.size : Int) / 200) = q := by
        rw [HSM.out, hme, List.drop_of_length_le (by rw [HLEN.out]; exact Nat.le_refl _)]; unfold V.cntL; rfl
      have HQ := Lib.hid hq
      clear hq hme h c1
      go_wp2
      go_ret
      exact ⟨by rw [HQ.out]; rfl, hBw⟩

theorem refCount : ∀ (N : Nat) (x : V), SizeOf.sizeOf x ≤ N → RCount x
  | 0, ⟨k, n, s, l⟩, h => by simp at h
  | N + 1, ⟨k, n, s, l⟩, h => by
    intro d w B v hd hd2 hB hx
    have hx := V.At.mono hB _ _ hx
    unfold V.At at hx
    obtain ⟨h1, h2, h3, a, cap, rfl, h5, h6, h7⟩ := hx
    unfold V.cnt
    by_cases ed : d < 0
    · rw [if_pos (.inl ed)]; exact count_neg k n d s h3 ed a _ cap w
    · by_cases el : 150 < l.length
      · rw [if_pos (.inr el)]; exact count_many k n d s h3 ed a _ cap el w
      · rw [if_neg (by omega)]
        rcases h7 with h7 | ⟨b, off, rfl, hb, h10⟩
        · subst h7
          unfold V.cntL
          exact count_0 k n d s h3 ed a cap w
        · exact count_5 k n d s h3 ed hd2 l el (fun x hx => refCount N x (by have := List.sizeOf_lt_of_mem hx; simp at h; omega)) b off cap w hb h5 h10

/-- Has a tree few parts? -/
def V.few (x : V) : Bool := decide (V.cnt x 20 ≤ 200)

set_option maxHeartbeats 400000 in
theorem few_any (x : V) (w : World) (B : Nat) (v : Value) (hB : B ≤ w.heap.size) (h : V.At w B x v) :
    Calls Try.prog 25 #[v, .int .i64 20] w fun e w' => e = .returned (.bool x.few) ∧ Below w.heap.size w w' := by
  have H := Lib.hid h
  obtain ⟨k, n, s, l⟩ := x
  unfold V.At at h
  obtain ⟨h1, h2, h3, a, cap, rfl, _⟩ := h
  have hr : ∀ W, Below w.heap.size w W → Calls Try.prog 37 #[.agg #[.int .i64 k, .int .i64 n, .string s, .slice a l.length cap], .int .i64 20] W fun e w' => e = .returned (.int .i64 (V.cnt ⟨k, n, s, l⟩ 20)) ∧ Below W.heap.size W w' :=
    fun W hW => refCount _ _ (Nat.le_refl _) 20 W B _ (by omega) (by omega) (by have := hW.size; omega) (V.At.below (hW.mono hB) _ _ H.out)
  have HR := Lib.hid hr
  clear hr h1 h2
  unfold V.few
  obtain ⟨q, hq⟩ : ∃ q, V.cnt ⟨k, n, s, l⟩ 20 = q := ⟨_, rfl⟩
  rw [hq] at HR ⊢
  clear hq
  go_enter Try.func25, Try.ntmps25
  go_wp2_with fail
  refine (HR.out _ (by go_grown)).mono ?_
  rintro e w3 ⟨rfl, hb3⟩
  go_wp2
  go_ret
  exact ⟨rfl, Below.trans (by go_grown) (hb3.mono (by simp))⟩

set_option maxHeartbeats 400000 in
theorem fews_0 (a : Option Addr) (cap : Nat) (w : World) :
    Calls Try.prog 11 #[.slice a 0 cap] w fun e w' => e = .returned (.bool true) ∧ Below w.heap.size w w' := by
  go_enter Try.func11, Try.ntmps11
  go_wp2
  go_rounds 1
  go_ret
  exact ⟨rfl, by go_grown⟩

set_option maxHeartbeats 400000 in
theorem fews_5 (l : List V) (b off cap : Nat) (w : World) (hb : b < w.heap.size) (hcap : l.length ≤ cap) (hm : cap ≤ maxLen) (h : AtL w w.heap.size l b off) :
    Calls Try.prog 11 #[.slice (some ⟨b, off, none⟩) l.length cap] w fun e w' => e = .returned (.bool (l.all V.few)) ∧ Below w.heap.size w w' := by
  unfold maxLen at hm
  obtain ⟨len, hlen⟩ : ∃ len, l.length = len := ⟨_, rfl⟩
  rw [hlen] at hcap ⊢
  have HLEN := Lib.hid hlen; clear hlen
  go_enter Try.func11, Try.ntmps11
  go_wp2
  go_loopw [7] (fun i wr => ∃ m : Nat, i = .int .i64 m ∧ m ≤ len ∧ l.all V.few = (l.drop m).all V.few ∧ Below w.heap.size w wr) (fun i _ => len - (intOf i).toNat)
  case atStart => exact ⟨0, rfl, Nat.zero_le _, by simp, Below.refl _ _⟩
  case round =>
    obtain ⟨m, rfl, hmle, hsm, hBr⟩ := hrel
    have HSM := Lib.hid hsm; clear hsm
    have hzr := hBr.size
    by_cases hlt : m < len
    · obtain ⟨k, n, s, a, ln, cp, g0, g1, g2, g3, ga⟩ := AtL.got l b off m (by rw [HLEN.out]; exact hlt) (AtL.below hBr l b off hb h)
      have GA := Lib.hid ga; clear ga
      have hq : l.all V.few = ((l[m]'(by rw [HLEN.out]; exact hlt)).few && (l.drop (m + 1)).all V.few) := by
        rw [HSM.out, List.drop_eq_getElem_cons (by rw [HLEN.out]; exact hlt)]; rfl
      obtain ⟨r, hr⟩ : ∃ r, (l[m]'(by rw [HLEN.out]; exact hlt)).few = r := ⟨_, rfl⟩
      have hc : ∀ W, Below w.heap.size wr W → Calls Try.prog 25 #[.agg #[.int .i64 k, .int .i64 n, .string s, .slice a ln cp], .int .i64 20] W fun e w' => e = .returned (.bool r) ∧ Below W.heap.size W w' := by
        intro W hW
        rw [← hr]
        exact few_any _ W w.heap.size _ (by have := hW.size; omega) (V.At.below hW _ _ GA.out)
      rw [hr] at hq
      have HQ := Lib.hid hq
      have HC := Lib.hid hc
      clear hq hc hr h
      go_wp2_with fail
      refine (HC.out _ (by go_grown)).mono ?_
      rintro e w3 ⟨rfl, hb3⟩
      have hB3 : Below w.heap.size w w3 := hBr.trans (Below.trans (by go_grown) (hb3.mono (by simp; omega)))
      clear hb3
      cases r
      · go_wp2
        go_ret
        exact ⟨by rw [HQ.out]; rfl, hB3⟩
      · go_wp2
        go_roundw
        case rel => exact ⟨m + 1, by go_num, by omega, by rw [HQ.out]; rfl, hB3⟩
        case measure => simp [intOf]; omega
    · have hme : m = len := by omega
      have hq : l.all V.few = true := by
        rw [HSM.out, hme, List.drop_of_length_le (by rw [HLEN.out]; exact Nat.le_refl _)]; rfl
      have HQ := Lib.hid hq
      clear hq hme h
      go_wp2
      go_ret
      exact ⟨by rw [HQ.out]; rfl, hBr⟩

theorem fews_any (l : List V) (a : Option Addr) (cap : Nat) (w : World) (hcap : l.length ≤ cap) (hm : cap ≤ maxLen) (h : l = [] ∨ ∃ b off, a = some ⟨b, off, none⟩ ∧ b < w.heap.size ∧ AtL w w.heap.size l b off) :
    Calls Try.prog 11 #[.slice a l.length cap] w fun e w' => e = .returned (.bool (l.all V.few)) ∧ Below w.heap.size w w' := by
  rcases h with rfl | ⟨b, off, rfl, hb, h⟩
  · exact fews_0 a cap w
  · exact fews_5 l b off cap w hb hcap hm h

end Go.Proofs.Ytkecoohplpbgnaa
