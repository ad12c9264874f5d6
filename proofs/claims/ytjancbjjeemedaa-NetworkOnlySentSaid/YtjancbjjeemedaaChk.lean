/- Links that are valid, indices of their packets, links that are cut. -/
import Derived.Test.YtjancbjjeemedaaVa
namespace Go.Proofs.Ytjancbjjeemedaa
open Go.RowKit

set_option maxRecDepth 100000 in
set_option maxHeartbeats 1000000 in
theorem chk_any (w : World) (v : Value) (n : Nt) (h : NtAt w w.heap.size v n) : Calls Try.prog 13 #[v] w fun e w' => e = .returned (.int .i64 (if n.ok then 0 else 60)) ∧ Below w.heap.size w w' := by
  obtain ⟨qa, qc, aa, ac, rfl, l1, l2, l3, l4, hq, ha⟩ := h.open
  have hal : ∀ o, Below w.heap.size w (w.alloc o) := fun o => (Below.refl _ _).alloc (Nat.le_refl _) o
  have hvq := fun o => vq_any (w.alloc o) _ n.q (hq.next (hal o))
  have hva := fun o W (hW : Below (w.alloc o).heap.size (w.alloc o) W) => va_any W _ n.ap (ha.next ((hal o).trans (hW.mono (hal o).size)))
  have hok : n.ok = (okQ n.q && okA n.ap) := rfl
  rw [hok]
  obtain ⟨x, hx⟩ : ∃ x, okQ n.q = x := ⟨_, rfl⟩
  obtain ⟨y, hy⟩ : ∃ x, okA n.ap = x := ⟨_, rfl⟩
  simp only [hx] at hvq ⊢
  simp only [hy] at hva ⊢
  obtain ⟨N, hN⟩ : ∃ x, n.q.length = x := ⟨_, rfl⟩
  obtain ⟨M, hM⟩ : ∃ x, n.ap.length = x := ⟨_, rfl⟩
  rw [hN] at l1 ⊢
  rw [hM] at l3 ⊢
  simp only [hN] at hvq
  simp only [hM] at hva
  have HQ := Lib.hid hvq
  have HA := Lib.hid hva
  clear hvq hva hal hok hx hy hN hM hq ha h
  cases x with
  | false =>
    go_enter Try.func13, Try.ntmps13
    go_wp2_with fail
    refine (HQ.out _).mono ?_
    rintro e w1 ⟨rfl, hb1⟩
    have HB : Hid (Below w.heap.size w w1) := Lib.hid (((Below.refl w.heap.size w).alloc (Nat.le_refl _) _).trans (hb1.mono (by simp)))
    clear hb1
    go_wp2
    go_ret
    exact ⟨by simp, HB.out⟩
  | true =>
    go_enter Try.func13, Try.ntmps13
    go_wp2_with fail
    refine (HQ.out _).mono ?_
    rintro e w1 ⟨rfl, hb1⟩
    have HB : Hid (Below w.heap.size w w1) := Lib.hid (((Below.refl w.heap.size w).alloc (Nat.le_refl _) _).trans (hb1.mono (by simp)))
    have c1 : w1.cell? ⟨w.heap.size, 1, none⟩ = some (.slice aa M ac) := (hb1.cell (p := ⟨w.heap.size, 1, none⟩) (by simp)).trans (by go_cell)
    have hcall := HA.out _ w1 hb1
    have HC := Lib.hid hcall
    clear hb1 hcall HA
    go_wp2_with fail
    refine HC.out.mono ?_
    rintro e w2 ⟨rfl, hb2⟩
    have HB2 : Hid (Below w.heap.size w w2) := Lib.hid (HB.out.trans (hb2.mono HB.out.size))
    clear hb2
    cases y with
    | false =>
      go_wp2
      go_ret
      exact ⟨by simp, HB2.out⟩
    | true =>
      go_wp2
      go_ret
      exact ⟨by simp, HB2.out⟩

/-- What an index of a packet is answered. -/
def Nt.err (n : Nt) (at_ : Int) : Int := if n.ok then (if at_ < 0 ∨ (n.q.length : Int) ≤ at_ then 1 else 0) else 60
set_option maxRecDepth 100000 in
set_option maxHeartbeats 1000000 in
theorem chkAt_any (w : World) (v : Value) (n : Nt) (h : NtAt w w.heap.size v n) (at_ : Int) : Calls Try.prog 42 #[v, .int .i64 at_] w fun e w' => e = .returned (.int .i64 (n.err at_)) ∧ Below w.heap.size w w' := by
  have hal : ∀ o, Below w.heap.size w (w.alloc o) := fun o => (Below.refl _ _).alloc (Nat.le_refl _) o
  have hck := fun o => chk_any (w.alloc o) v n (h.next (hal o))
  obtain ⟨qa, qc, aa, ac, rfl, l1, l2, l3, l4, hq, ha⟩ := h.open
  unfold Nt.err
  obtain ⟨x, hx⟩ : ∃ x, n.ok = x := ⟨_, rfl⟩
  simp only [hx] at hck ⊢
  obtain ⟨N, hN⟩ : ∃ x, n.q.length = x := ⟨_, rfl⟩
  obtain ⟨M, hM⟩ : ∃ x, n.ap.length = x := ⟨_, rfl⟩
  rw [hN] at l1 ⊢
  rw [hM] at l3 ⊢
  simp only [hN, hM] at hck
  have HC := Lib.hid hck
  clear hck hal hx hN hM hq ha h
  cases x with
  | false =>
    go_enter Try.func42, Try.ntmps42
    go_wp2_with fail
    refine (HC.out _).mono ?_
    rintro e w1 ⟨rfl, hb1⟩
    have HB : Hid (Below w.heap.size w w1) := Lib.hid (((Below.refl w.heap.size w).alloc (Nat.le_refl _) _).trans (hb1.mono (by simp)))
    clear hb1
    go_wp2
    go_ret
    exact ⟨by simp, HB.out⟩
  | true =>
    by_cases h0 : at_ < 0
    · have d0 : decide (at_ < 0) = true := by simpa using h0
      have hr : (if at_ < 0 ∨ (N : Int) ≤ at_ then (1 : Int) else 0) = 1 := if_pos (.inl h0)
      rw [if_pos rfl, hr]
      clear hr
      go_enter Try.func42, Try.ntmps42
      go_wp2_with fail
      refine (HC.out _).mono ?_
      rintro e w1 ⟨rfl, hb1⟩
      have HB : Hid (Below w.heap.size w w1) := Lib.hid (((Below.refl w.heap.size w).alloc (Nat.le_refl _) _).trans (hb1.mono (by simp)))
      clear hb1
      go_wp2
      go_ret
      exact ⟨by simp, HB.out⟩
    · have d0 : decide (at_ < 0) = false := by simpa using h0
      by_cases h1 : (N : Int) ≤ at_
      · have d1 : decide ((N : Int) ≤ at_) = true := by simpa using h1
        rw [if_pos rfl, if_pos (.inr h1)]
        go_enter Try.func42, Try.ntmps42
        go_wp2_with fail
        refine (HC.out _).mono ?_
        rintro e w1 ⟨rfl, hb1⟩
        have HB : Hid (Below w.heap.size w w1) := Lib.hid (((Below.refl w.heap.size w).alloc (Nat.le_refl _) _).trans (hb1.mono (by simp)))
        have c0 : w1.cell? ⟨w.heap.size, 0, none⟩ = some (.slice qa N qc) := (hb1.cell (p := ⟨w.heap.size, 0, none⟩) (by simp)).trans (by go_cell)
        clear hb1
        go_wp2
        go_ret
        exact ⟨by simp, HB.out⟩
      · have d1 : decide ((N : Int) ≤ at_) = false := by simpa using h1
        rw [if_pos rfl, if_neg (by omega)]
        go_enter Try.func42, Try.ntmps42
        go_wp2_with fail
        refine (HC.out _).mono ?_
        rintro e w1 ⟨rfl, hb1⟩
        have HB : Hid (Below w.heap.size w w1) := Lib.hid (((Below.refl w.heap.size w).alloc (Nat.le_refl _) _).trans (hb1.mono (by simp)))
        have c0 : w1.cell? ⟨w.heap.size, 0, none⟩ = some (.slice qa N qc) := (hb1.cell (p := ⟨w.heap.size, 0, none⟩) (by simp)).trans (by go_cell)
        clear hb1
        go_wp2
        go_ret
        exact ⟨by simp, HB.out⟩

/-- Is a pair among others? -/
def cutIn (l : List (Int × Int)) (p : Int × Int) : Bool := l.any fun q => decide (q.1 = p.1) && decide (q.2 = p.2)
theorem cutIn_drop (l : List (Int × Int)) (p : Int × Int) (j : Nat) (h : j < l.length) : cutIn (l.drop j) p = ((decide (l[j].1 = p.1) && decide (l[j].2 = p.2)) || cutIn (l.drop (j + 1)) p) := by
  unfold cutIn; rw [List.drop_eq_getElem_cons h, List.any_cons]
set_option maxRecDepth 100000 in
set_option maxHeartbeats 2000000 in
theorem apart_any (w : World) (v : Value) (l : List (Int × Int)) (h : AAt w w.heap.size v l) (p : Int × Int) : Calls Try.prog 43 #[v, .agg #[.int .i64 p.1, .int .i64 p.2]] w fun e w' => e = .returned (.bool (cutIn l p)) ∧ Below w.heap.size w w' := by
  have H := Lib.hid h
  obtain ⟨a, cap, rfl, hc, hm, _⟩ := h
  unfold maxLen at hm
  have hdr := cutIn_drop l p
  obtain ⟨s, t⟩ := p
  dsimp only at hdr ⊢
  have h0 : cutIn (l.drop 0) (s, t) = cutIn l (s, t) := rfl
  obtain ⟨res, hres⟩ : ∃ r, cutIn l (s, t) = r := ⟨_, rfl⟩
  rw [hres] at h0 ⊢
  have H0 := Lib.hid h0
  have HDR := Lib.hid hdr
  obtain ⟨N, hN⟩ : ∃ N, l.length = N := ⟨_, rfl⟩
  have HN := Lib.hid hN
  rw [hN] at H hc ⊢
  obtain ⟨w1, hw1⟩ : ∃ w1, w1 = w.alloc (Obj.cells #[.int .i64 s, .int .i64 t] 55) := ⟨_, rfl⟩
  have hz1 : w1.heap.size = w.heap.size + 1 := by rw [hw1, World.size_alloc]
  have hb1 : Below w.heap.size w w1 := by rw [hw1]; exact (Below.refl _ _).alloc (Nat.le_refl _) _
  have c0 : w1.cell? ⟨w.heap.size, 0, none⟩ = some (.int .i64 s) := by rw [hw1]; go_cell
  have c1 : w1.cell? ⟨w.heap.size, 1, none⟩ = some (.int .i64 t) := by rw [hw1]; go_cell
  obtain ⟨g, hg⟩ : ∃ g, w.heap.size = g := ⟨_, rfl⟩
  have HC : Hid (∀ W, Below w1.heap.size w1 W → W.cell? ⟨g, 0, none⟩ = some (.int .i64 s) ∧ W.cell? ⟨g, 1, none⟩ = some (.int .i64 t)) := Lib.hid fun W hW => by
    rw [← hg]
    exact ⟨(hW.cell (p := ⟨w.heap.size, 0, none⟩) (by show w.heap.size < _; omega)).trans c0, (hW.cell (p := ⟨w.heap.size, 1, none⟩) (by show w.heap.size < _; omega)).trans c1⟩
  have HW1 := Lib.hid hw1
  have HB1 := Lib.hid hb1
  have HG := Lib.hid hg
  clear hw1 hb1 c0 c1 hN hres h0 hdr hg
  go_enter Try.func43, Try.ntmps43
  go_wp2_with fail
  rw [← HW1.out, HG.out]
  go_loopw [9] (fun i wr => ∃ j : Nat, i = .int .i64 j ∧ j ≤ N ∧ Below w1.heap.size w1 wr ∧ Hid (cutIn (l.drop j) (s, t) = res)) (fun i _ => N - (intOf i).toNat)
  case atStart => exact ⟨0, rfl, by omega, Below.refl _ _, H0⟩
  case round =>
    obtain ⟨j, rfl, hj, hb, hst⟩ := hrel
    obtain ⟨k0, k1⟩ := HC.out wr hb
    have hbw := HB1.out.trans (hb.mono HB1.out.size)
    have hbs := hb.size
    by_cases hlt : j < N
    · have d : decide ((j : Int) < (N : Int)) = true := by simp; omega
      have ji : (j : Int) < (N : Int) := by omega
      have hjl : j < l.length := by rw [HN.out]; exact hlt
      obtain ⟨b, off, rfl, hbl, _, p0, p1⟩ := (H.out.below hbw).got j hjl
      have hdr := HDR.out j hjl
      rw [hst.out] at hdr
      obtain ⟨q, hq⟩ : ∃ q, l[j]'hjl = q := ⟨_, rfl⟩
      rw [hq] at p0 p1 hdr
      obtain ⟨x, y⟩ := q
      dsimp only at p0 p1 hdr
      have heq := fun W => pair_eq x y s t W
      obtain ⟨e, he⟩ : ∃ e, (decide (x = s) && decide (y = t)) = e := ⟨_, rfl⟩
      rw [he] at hdr
      simp only [he] at heq
      have hgl : g < wr.heap.size := by have := HG.out; omega
      obtain ⟨m0, m1⟩ := HC.out (wr.alloc (Obj.cells #[.int .i64 x, .int .i64 y] 55)) (hb.alloc hbs _)
      have HB := Lib.hid hb
      have HBW := Lib.hid (hbw.alloc (by omega) (Obj.cells #[.int .i64 x, .int .i64 y] 55))
      have HBA := Lib.hid (hb.alloc hbs (Obj.cells #[.int .i64 x, .int .i64 y] 55))
      clear hb hbw hq he hst
      cases e with
      | true =>
        obtain rfl : res = true := by rw [hdr]; rfl
        clear hdr
        go_wp2
        go_ret
        exact ⟨rfl, HBW.out⟩
      | false =>
        have HST : Hid (cutIn (l.drop (j + 1)) (s, t) = res) := Lib.hid (by rw [hdr]; rfl)
        clear hdr
        go_wp2_with fail
        refine ⟨⟨j + 1, by go_num, by omega, HBA.out, HST⟩, ?_⟩
        simp [intOf]; omega
    · obtain rfl : j = N := by omega
      have d : decide ((j : Int) < (j : Int)) = false := by simp
      obtain rfl : false = res := by rw [← hst.out, List.drop_eq_nil_of_le (by rw [HN.out]; omega)]; rfl
      have HBW := Lib.hid hbw
      clear hb hst hbw
      go_wp2
      go_ret
      exact ⟨rfl, HBW.out⟩
end Go.Proofs.Ytjancbjjeemedaa
