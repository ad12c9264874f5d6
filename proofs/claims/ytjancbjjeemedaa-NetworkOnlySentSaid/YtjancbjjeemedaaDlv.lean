/- Deliver. -/
import Derived.Test.YtjancbjjeemedaaLose
import Derived.BigQuiet
namespace Go.Proofs.Ytjancbjjeemedaa
open Go.RowKit

def q20p0 : Oper := { dst := some 36, op := Go.Op.load 28 (Go.Operand.tmp 4), type := 28, pos := "network.go:44", after := #[], guard := none }
def q20p1 : Oper := { dst := some 37, op := Go.Op.load 25 (Go.Operand.tmp 2), type := 25, pos := "network.go:44", after := #[{ on := 2, ground := Go.Ground.gcOnly Go.Departure.lateStores }], guard := none }
def q20p2 : Oper := { dst := none, op := Go.Op.store 28 (Go.Operand.tmp 4) (Go.Operand.tmp 36), type := 0, pos := "network.go:44", after := #[{ on := 0, ground := Go.Ground.data }, { on := 0, ground := Go.Ground.phase }, { on := 1, ground := Go.Ground.textOnly Go.Departure.lateStores }], guard := none }
def q20p3 : Oper := { dst := none, op := Go.Op.store 25 (Go.Operand.tmp 5) (Go.Operand.tmp 37), type := 0, pos := "network.go:44", after := #[{ on := 1, ground := Go.Ground.data }, { on := 2, ground := Go.Ground.chain }, { on := 0, ground := Go.Ground.phase }, { on := 1, ground := Go.Ground.phase }, { on := 2, ground := Go.Ground.phase }], guard := none }
def q20p4 : Oper := { dst := some 6, op := Go.Op.assign (Go.Operand.const (Go.Value.int Go.IntKind.i64 0)), type := 31, pos := "network.go:44", after := #[{ on := 3, ground := Go.Ground.chain }, { on := 0, ground := Go.Ground.phase }, { on := 1, ground := Go.Ground.phase }, { on := 2, ground := Go.Ground.phase }, { on := 3, ground := Go.Ground.phase }], guard := none }

def Pk.zero : Pk := ⟨0, 0, []⟩
theorem pk_zero (w : World) (B : Nat) : PkAt w B (.agg #[.int .i64 0, .int .i64 0, .slice none 0 0]) Pk.zero :=
  have h0 : In64 0 := by show (-9223372036854775808 : Int) ≤ 0 ∧ (0 : Int) ≤ 9223372036854775807; omega
  ⟨⟨h0, h0⟩, _, rfl, bytes_nil _ _ none⟩
/-- The packet that is delivered. -/
def Nt.pick (n : Nt) (at_ : Int) : Pk := if n.err at_ = 0 then (match n.q[at_.toNat]? with
  | some p => if cutIn n.ap (lo2 p.frm p.to, hi2 p.frm p.to) then Pk.zero else p
  | none => Pk.zero) else Pk.zero
theorem Arr.keep {W W' : World} {b : Nat} {cs : List Value} (h : Arr W b cs) (hk : Kept W W') (hb : b < W.heap.size) : Arr W' b cs := h.below hk.below hb

set_option maxRecDepth 100000 in
set_option maxHeartbeats 8000000 in
theorem dlv_any (w : World) (v : Value) (n : Nt) (h : NtAt w w.heap.size v n) (at_ : Int) : Calls Try.prog 20 #[v, .int .i64 at_] w fun e w' => ∃ vp v', e = .returned (.tuple #[vp, v', .int .i64 (n.err at_)]) ∧ PkAt w' w'.heap.size vp (n.pick at_) ∧ NtAt w' w'.heap.size v' (n.lose at_) ∧ Below w.heap.size w w' := by
  have H := Lib.hid h
  obtain ⟨qa, qc, aa, ac, rfl, l1, l2, l3, l4, hq, ha⟩ := h.open
  have HQ := Lib.hid hq
  have HA := Lib.hid ha
  have hez := @err_zero n at_
  unfold Nt.lose Nt.pick
  obtain ⟨E, hE⟩ : ∃ E, n.err at_ = E := ⟨_, rfl⟩
  have HE := Lib.hid hE
  rw [hE] at hez ⊢
  obtain ⟨N, hN⟩ : ∃ x, n.q.length = x := ⟨_, rfl⟩
  obtain ⟨M, hM⟩ : ∃ x, n.ap.length = x := ⟨_, rfl⟩
  have HN := Lib.hid hN
  have HM := Lib.hid hM
  rw [hN] at l1 hez HQ H ⊢
  rw [hM] at l3 HA H ⊢
  obtain ⟨X0, hX0⟩ : ∃ X, X = w.alloc (Obj.cells #[.slice qa N qc, .slice aa M ac] 25) := ⟨_, rfl⟩
  obtain ⟨X1, hX1⟩ : ∃ X, X = X0.alloc (Obj.cells #[.int .i64 0, .int .i64 0, .slice none 0 0] 28) := ⟨_, rfl⟩
  obtain ⟨w3, hw3⟩ : ∃ X, X = X1.alloc (Obj.cells #[.slice none 0 0, .slice none 0 0] 25) := ⟨_, rfl⟩
  have hz0 : X0.heap.size = w.heap.size + 1 := by rw [hX0, World.size_alloc]
  have hz1 : X1.heap.size = w.heap.size + 1 + 1 := by rw [hX1, World.size_alloc, hz0]
  have hz3 : w3.heap.size = w.heap.size + 1 + 1 + 1 := by rw [hw3, World.size_alloc, hz1]
  have hb3 : Below w.heap.size w w3 := by rw [hw3, hX1, hX0]; go_grown
  have A0 : Arr w3 w.heap.size [.slice qa N qc, .slice aa M ac] := by
    have h1 : Arr X0 w.heap.size [.slice qa N qc, .slice aa M ac] := by rw [hX0]; exact Arr.new w #[.slice qa N qc, .slice aa M ac] 25
    rw [hw3, hX1]
    exact (h1.alloc (by omega) _).alloc (by rw [World.size_alloc]; omega) _
  have A1 : Arr w3 (w.heap.size + 1) [.int .i64 0, .int .i64 0, .slice none 0 0] := by
    have h1 : Arr X1 (w.heap.size + 1) [.int .i64 0, .int .i64 0, .slice none 0 0] := by rw [hX1, ← hz0]; exact Arr.new X0 #[.int .i64 0, .int .i64 0, .slice none 0 0] 28
    rw [hw3]
    exact h1.alloc (by omega) _
  have A2 : Arr w3 (w.heap.size + 1 + 1) [.slice none 0 0, .slice none 0 0] := by
    rw [hw3, ← hz1]; exact Arr.new X1 #[.slice none 0 0, .slice none 0 0] 25
  have HCK : Hid (Calls Try.prog 42 #[.agg #[.slice qa N qc, .slice aa M ac], .int .i64 at_] w3 fun e w' => e = .returned (.int .i64 E) ∧ Below w3.heap.size w3 w') := Lib.hid (HE.out ▸ chkAt_any w3 _ n (H.out.next hb3) at_)
  have HW3 : Hid (((w.alloc (Obj.cells #[.slice qa N qc, .slice aa M ac] 25)).alloc (Obj.cells #[.int .i64 0, .int .i64 0, .slice none 0 0] 28)).alloc (Obj.cells #[.slice none 0 0, .slice none 0 0] 25) = w3) := Lib.hid (by rw [hw3, hX1, hX0])
  have HA0 := Lib.hid A0
  have HA1 := Lib.hid A1
  have HA2 := Lib.hid A2
  have HB3 := Lib.hid hb3
  have c00 : w3.cell? ⟨w.heap.size, 0, none⟩ = some (.slice qa N qc) := A0.cell rfl
  have c01 : w3.cell? ⟨w.heap.size, 1, none⟩ = some (.slice aa M ac) := A0.cell rfl
  clear h hq ha hE hN hM hX0 hX1 hw3 hb3 A0 A1 A2
  by_cases hE0 : E = 0
  · rw [if_pos hE0, if_pos hE0]
    subst hE0
    obtain ⟨i, rfl, hi, hok⟩ := hez rfl
    rw [Int.toNat_natCast]
    have h4096 := ok_len hok
    rw [HN.out] at h4096
    have hil : i < n.q.length := by rw [HN.out]; exact hi
    rw [List.getElem?_eq_getElem hil]
    have ii : (i : Int) < (N : Int) := by omega
    have HREM : Hid (∀ W, Below w.heap.size w W → Calls Try.prog 44 #[.slice qa N qc, .int .i64 (i : Nat)] W fun e w' => ∃ v', e = .returned v' ∧ QSep w' w.heap.size W.heap.size v' (n.q.eraseIdx i) ∧ Below W.heap.size W w') := Lib.hid fun W hW => rem_sep W w.heap.size hW.size _ n.q (HQ.out.below hW) i hil (by rw [HN.out]; omega)
    obtain ⟨b, off, rfl, hbl, hin, p0, p1, da, dc, p2, _, _, hpd⟩ := HQ.out.got i hil
    obtain ⟨p, hp⟩ : ∃ p, n.q[i]'hil = p := ⟨_, rfl⟩
    rw [hp] at p0 p1 p2 hpd hin ⊢
    dsimp only
    have HPD := Lib.hid hpd
    have HIN := Lib.hid hin
    have HLK := Lib.hid fun W => link_any W p.frm p.to
    have hcut := fun W (hW : Below w.heap.size w W) => apart_any W _ n.ap (HA.out.next hW) (lo2 p.frm p.to, hi2 p.frm p.to)
    obtain ⟨lo, hlo⟩ : ∃ x, lo2 p.frm p.to = x := ⟨_, rfl⟩
    obtain ⟨hh, hhi⟩ : ∃ x, hi2 p.frm p.to = x := ⟨_, rfl⟩
    rw [hlo, hhi] at HLK ⊢
    simp only [hlo, hhi] at hcut
    obtain ⟨cc, hcc⟩ : ∃ x, cutIn n.ap (lo, hh) = x := ⟨_, rfl⟩
    rw [hcc]
    simp only [hcc] at hcut
    have HCUT := Lib.hid hcut
    obtain ⟨RP, hRP⟩ : ∃ x, (if cc = true then Pk.zero else p) = x := ⟨_, rfl⟩
    rw [hRP]
    have HRP := Lib.hid hRP
    obtain ⟨D, hD⟩ : ∃ x, p.data.length = x := ⟨_, rfl⟩
    rw [hD] at p2 HPD
    have P0 := Lib.hid p0
    have P1 := Lib.hid p1
    have P2 := Lib.hid p2
    clear hez hok hp hcut hlo hhi hcc hRP hD hpd hin p0 p1 p2
    go_enter Try.func20, Try.ntmps20
    go_wp2_with fail
    rw [HW3.out]
    refine HCK.out.mono ?_
    rintro e w4 ⟨rfl, hb4⟩
    have hs4 := hb4.size
    have hw4 : Below w.heap.size w w4 := HB3.out.trans (hb4.mono HB3.out.size)
    have d00 : w4.cell? ⟨w.heap.size, 0, none⟩ = some (.slice (some ⟨b, off, none⟩) N qc) := (hb4.cell (p := ⟨w.heap.size, 0, none⟩) (by show w.heap.size < _; omega)).trans c00
    have q0 := (hw4.cell (p := ⟨b, off + i * 3, none⟩) hbl).trans P0.out
    have q1 := (hw4.cell (p := ⟨b, off + i * 3 + 1, none⟩) hbl).trans P1.out
    have q2 := (hw4.cell (p := ⟨b, off + i * 3 + 2, none⟩) hbl).trans P2.out
    obtain ⟨w5, hw5⟩ : ∃ w5, w5 = w4.alloc (Obj.cells #[.int .i64 p.frm, .int .i64 p.to, .slice da D dc] 28) := ⟨_, rfl⟩
    have hz5 : w5.heap.size = w4.heap.size + 1 := by rw [hw5, World.size_alloc]
    have A3 : Arr w5 w4.heap.size [.int .i64 p.frm, .int .i64 p.to, .slice da D dc] := by rw [hw5]; exact Arr.new w4 #[.int .i64 p.frm, .int .i64 p.to, .slice da D dc] 28
    have h45 : Below w4.heap.size w4 w5 := by rw [hw5]; exact (Below.refl _ _).alloc (Nat.le_refl _) _
    have h35 : Below w3.heap.size w3 w5 := hb4.trans (h45.mono hs4)
    have B0 : Arr w5 w.heap.size [.slice (some ⟨b, off, none⟩) N qc, .slice aa M ac] := HA0.out.below h35 (by omega)
    have HW5 := Lib.hid hw5
    have HB5 : Hid (Below w.heap.size w w5) := Lib.hid (hw4.trans (h45.mono hw4.size))
    have H35 := Lib.hid h35
    have HA3 := Lib.hid A3
    obtain ⟨g3, hg3⟩ : ∃ g, w4.heap.size = g := ⟨_, rfl⟩
    have hg35 : g3 < w5.heap.size := by omega
    have hg33 : w.heap.size + 1 + 1 + 1 ≤ g3 := by omega
    rw [hg3] at HA3
    have k0 : ∀ W, Kept w5 W → W.cell? ⟨w.heap.size, 1, none⟩ = some (.slice aa M ac) := fun W hW => (hW.cell (by omega)).trans (B0.cell rfl)
    have k1 : ∀ W, Kept w5 W → W.cell? ⟨g3, 0, none⟩ = some (.int .i64 p.frm) := fun W hW => (hW.cell hg35).trans (HA3.out.cell rfl)
    have k2 : ∀ W, Kept w5 W → W.cell? ⟨g3, 1, none⟩ = some (.int .i64 p.to) := fun W hW => (hW.cell hg35).trans (HA3.out.cell rfl)
    have hwz5 := HB5.out.size
    have HL5 : Hid (∀ W, Kept w5 W → Calls Try.prog 36 #[.int .i64 p.frm, .int .i64 p.to] W fun e w' => e = .returned (.agg #[.int .i64 lo, .int .i64 hh]) ∧ Kept w5 w') := Lib.hid fun W hW => (HLK.out W).mono fun e w' h => ⟨h.1, hW.next h.2⟩
    have HC5 : Hid (∀ W, Kept w5 W → Calls Try.prog 43 #[.slice aa M ac, .agg #[.int .i64 lo, .int .i64 hh]] W fun e w' => e = .returned (.bool cc) ∧ Kept w5 w') := Lib.hid fun W hW => (HCUT.out W (HB5.out.trans (hW.below.mono HB5.out.size))).mono fun e w' h => ⟨h.1, hW.next h.2⟩
    clear hb4 hw4 c00 c01 A3 h45 h35 B0 hw5
    go_wp2
    rw [← HW5.out]
    go_region_held3 (fun W => Kept w5 W) (first | assumption | exact Kept.drew (Kept.refl _) | exact Kept.drew (by assumption))
      (first | (go_at_call 36; refine (HL5.out _ (by assumption)).mono ?_; rintro e w8 ⟨rfl, hK8⟩) | (go_at_call 43; refine (HC5.out _ (by assumption)).mono ?_; rintro e w6 ⟨rfl, hK6⟩))
    -- <T
    have hs6 := hK6.below.size
    have hg6 : g3 < w6.heap.size := by omega
    have C0 : Arr w6 w.heap.size [.slice (some ⟨b, off, none⟩) N qc, .slice aa M ac] := (HA0.out.below H35.out (by omega)).keep hK6 (by omega)
    have C1 : Arr w6 (w.heap.size + 1) [.int .i64 0, .int .i64 0, .slice none 0 0] := (HA1.out.below H35.out (by omega)).keep hK6 (by omega)
    have C2 : Arr w6 (w.heap.size + 1 + 1) [.slice none 0 0, .slice none 0 0] := (HA2.out.below H35.out (by omega)).keep hK6 (by omega)
    have C3 : Arr w6 g3 [.int .i64 p.frm, .int .i64 p.to, .slice da D dc] := HA3.out.keep hK6 hg35
    have HB6 : Hid (Below w.heap.size w w6) := Lib.hid (HB5.out.trans (hK6.below.mono HB5.out.size))
    clear hK6 k0 k1 k2 HL5 HC5 HLK HCUT hg3
    cases cc with
    | true =>
      obtain rfl : Pk.zero = RP := by rw [← HRP.out, if_pos rfl]
      have HI6 : w.heap.size + 1 + 1 + 1 ≤ w6.heap.size := by omega
      have D0 := C0
      have D1 := C1
      have D2 := C2
      have hb7 : Below w.heap.size w6 w6 := Below.refl _ _
      have m00 : (w6).cell? ⟨w.heap.size, 0, none⟩ = some (.slice (some ⟨b, off, none⟩) N qc) := D0.cell rfl
      have hz7 : (w6).heap.size = w6.heap.size := by simp
      have HB7 : Hid (Below w.heap.size w w6) := Lib.hid (HB6.out.trans hb7)
      have HD0 := Lib.hid D0
      have HD1 := Lib.hid D1
      have HD2 := Lib.hid D2
      clear C0 C1 C2 C3 D0 D1 D2 hb7
      go_wp2_with fail
      refine (HREM.out w6 HB7.out).mono ?_
      rintro e w8 ⟨v', rfl, hsep, hb8⟩
      obtain ⟨a', c', rfl, f1, f2, _⟩ := id hsep
      have hlen : (n.q.eraseIdx i).length = N - 1 := by rw [List.length_eraseIdx, if_pos (by rw [HN.out]; exact hi), HN.out]
      rw [hlen] at hsep ⊢
      have hs8 := hb8.size
      have E0 : Arr w8 w.heap.size [.slice (some ⟨b, off, none⟩) N qc, .slice aa M ac] := HD0.out.below hb8 (by omega)
      have E1 : Arr w8 (w.heap.size + 1) [.int .i64 0, .int .i64 0, .slice none 0 0] := HD1.out.below hb8 (by omega)
      have E2 : Arr w8 (w.heap.size + 1 + 1) [.slice none 0 0, .slice none 0 0] := HD2.out.below hb8 (by omega)
      have o00 : w8.cell? ⟨w.heap.size, 0, none⟩ = some (.slice (some ⟨b, off, none⟩) N qc) := E0.cell rfl
      have o0f : w8.frozen? ⟨w.heap.size, 0, none⟩ = false := E0.frozen (by simp)
      obtain ⟨w9, hw9⟩ : ∃ w9, w8.setCell ⟨w.heap.size, 0, none⟩ (.slice a' (N - 1) c') = w9 := ⟨_, rfl⟩
      have F0 : Arr w9 w.heap.size [(.slice a' (N - 1) c'), .slice aa M ac] := by rw [← hw9]; exact E0.set 0 (.slice a' (N - 1) c')
      have F1 : Arr w9 (w.heap.size + 1) [.int .i64 0, .int .i64 0, .slice none 0 0] := by rw [← hw9]; exact E1.other (by omega) 0 _
      have F2 : Arr w9 (w.heap.size + 1 + 1) [.slice none 0 0, .slice none 0 0] := by rw [← hw9]; exact E2.other (by omega) 0 _
      have hb89 : Below w.heap.size w8 w9 := by rw [← hw9]; exact (Below.refl _ _).setCell (p := ⟨w.heap.size, 0, none⟩) (Nat.le_refl _) _
      obtain ⟨X2, hX2⟩ : ∃ X, (((w9.setCell ⟨w.heap.size + 1, 0, none⟩ (.int .i64 0)).setCell ⟨w.heap.size + 1, 1, none⟩ (.int .i64 0)).setCell ⟨w.heap.size + 1, 2, none⟩ (.slice none 0 0)).drew = X := ⟨_, rfl⟩
      have G0 : Arr X2 w.heap.size [(.slice a' (N - 1) c'), .slice aa M ac] := by rw [← hX2]; exact (((F0.other (b' := w.heap.size + 1) (by omega) 0 _).other (b' := w.heap.size + 1) (by omega) 1 _).other (b' := w.heap.size + 1) (by omega) 2 _).drew
      have G1 : Arr X2 (w.heap.size + 1) [.int .i64 0, .int .i64 0, .slice none 0 0] := by rw [← hX2]; exact (((F1.set 0 (.int .i64 0)).set 1 (.int .i64 0)).set 2 (.slice none 0 0)).drew
      have G2 : Arr X2 (w.heap.size + 1 + 1) [.slice none 0 0, .slice none 0 0] := by rw [← hX2]; exact (((F2.other (b' := w.heap.size + 1) (by omega) 0 _).other (b' := w.heap.size + 1) (by omega) 1 _).other (b' := w.heap.size + 1) (by omega) 2 _).drew
      have hb9X : Below w.heap.size w9 X2 := by rw [← hX2]; exact ((((Below.refl _ _).setCell (p := ⟨w.heap.size + 1, 0, none⟩) (by show w.heap.size ≤ w.heap.size + 1; omega) _).setCell (p := ⟨w.heap.size + 1, 1, none⟩) (by show w.heap.size ≤ w.heap.size + 1; omega) _).setCell (p := ⟨w.heap.size + 1, 2, none⟩) (by show w.heap.size ≤ w.heap.size + 1; omega) _).drew
      obtain ⟨X3, hX3⟩ : ∃ X, (X2.setCell ⟨w.heap.size + 1 + 1, 0, none⟩ (.slice a' (N - 1) c')).setCell ⟨w.heap.size + 1 + 1, 1, none⟩ (.slice aa M ac) = X := ⟨_, rfl⟩
      have I1 : Arr X3 (w.heap.size + 1) [.int .i64 0, .int .i64 0, .slice none 0 0] := by rw [← hX3]; exact (G1.other (b' := w.heap.size + 1 + 1) (by omega) 0 _).other (b' := w.heap.size + 1 + 1) (by omega) 1 _
      have I2 : Arr X3 (w.heap.size + 1 + 1) [(.slice a' (N - 1) c'), .slice aa M ac] := by rw [← hX3]; exact (G2.set 0 (.slice a' (N - 1) c')).set 1 (.slice aa M ac)
      have hbX3 : Below w.heap.size X2 X3 := by rw [← hX3]; exact ((Below.refl _ _).setCell (p := ⟨w.heap.size + 1 + 1, 0, none⟩) (by show w.heap.size ≤ w.heap.size + 1 + 1; omega) _).setCell (p := ⟨w.heap.size + 1 + 1, 1, none⟩) (by show w.heap.size ≤ w.heap.size + 1 + 1; omega) _
      have hb83 : Below w.heap.size w8 X3 := hb89.trans (hb9X.trans hbX3)
      have hw8 : Below w.heap.size w w8 := HB7.out.trans (hb8.mono HB7.out.size)
      have HS9 : Hid (Below w.heap.size w w9.drew) := Lib.hid (hw8.trans hb89).drew
      have HSX2 : Hid (Below w.heap.size w X2) := Lib.hid (hw8.trans (hb89.trans hb9X))
      have HBF : Hid (Below w.heap.size w X3) := Lib.hid (hw8.trans hb83)
      have hX3z : X3.heap.size = w8.heap.size := by rw [← hX3, ← hX2, ← hw9]; simp
      have HFF : Hid (NtAt X3 X3.heap.size (.agg #[(.slice a' (N - 1) c'), .slice aa M ac]) ⟨n.q.eraseIdx i, n.ap⟩) := Lib.hid ⟨_, _, rfl, hsep.at hb83 (by omega) (by have := hw8.size; omega) (fun b o hb hb2 => by
        have c : ∀ (W : World) (p : Addr) (v : Value), w.heap.size ≤ p.block ∧ p.block < w6.heap.size → (W.setCell p v).cell? ⟨b, o, none⟩ = W.cell? ⟨b, o, none⟩ := fun W p v hp => cell_out b o p v hp hb
        rw [← hX3, c _ _ _ (by dsimp only; omega), c _ _ _ (by dsimp only; omega), ← hX2]
        refine Eq.trans (b := (((w9.setCell ⟨w.heap.size + 1, 0, none⟩ (.int .i64 0)).setCell ⟨w.heap.size + 1, 1, none⟩ (.int .i64 0)).setCell ⟨w.heap.size + 1, 2, none⟩ (.slice none 0 0)).cell? ⟨b, o, none⟩) rfl ?_
        rw [c _ _ _ (by dsimp only; omega), c _ _ _ (by dsimp only; omega), c _ _ _ (by dsimp only; omega), ← hw9, c _ _ _ (by dsimp only; omega)]), HA.out.next HBF.out⟩
      have HPF : Hid (PkAt X3 X3.heap.size (.agg #[.int .i64 0, .int .i64 0, .slice none 0 0]) Pk.zero) := Lib.hid (pk_zero _ _)
      have tF00 : w9.cell? ⟨w.heap.size, 0, none⟩ = some ((.slice a' (N - 1) c')) := F0.cell rfl
      have tF01 : w9.cell? ⟨w.heap.size, 1, none⟩ = some (.slice aa M ac) := F0.cell rfl
      have tF10 : w9.cell? ⟨w.heap.size + 1, 0, none⟩ = some (.int .i64 0) := F1.cell rfl
      have uF10 : w9.frozen? ⟨w.heap.size + 1, 0, none⟩ = false := F1.frozen (by simp)
      have tF11 : w9.cell? ⟨w.heap.size + 1, 1, none⟩ = some (.int .i64 0) := F1.cell rfl
      have uF11 : w9.frozen? ⟨w.heap.size + 1, 1, none⟩ = false := F1.frozen (by simp)
      have tF12 : w9.cell? ⟨w.heap.size + 1, 2, none⟩ = some (.slice none 0 0) := F1.cell rfl
      have uF12 : w9.frozen? ⟨w.heap.size + 1, 2, none⟩ = false := F1.frozen (by simp)
      have tF20 : w9.cell? ⟨w.heap.size + 1 + 1, 0, none⟩ = some (.slice none 0 0) := F2.cell rfl
      have tF21 : w9.cell? ⟨w.heap.size + 1 + 1, 1, none⟩ = some (.slice none 0 0) := F2.cell rfl
      have tG00 : X2.cell? ⟨w.heap.size, 0, none⟩ = some ((.slice a' (N - 1) c')) := G0.cell rfl
      have tG01 : X2.cell? ⟨w.heap.size, 1, none⟩ = some (.slice aa M ac) := G0.cell rfl
      have tG20 : X2.cell? ⟨w.heap.size + 1 + 1, 0, none⟩ = some (.slice none 0 0) := G2.cell rfl
      have uG20 : X2.frozen? ⟨w.heap.size + 1 + 1, 0, none⟩ = false := G2.frozen (by simp)
      have tG21 : X2.cell? ⟨w.heap.size + 1 + 1, 1, none⟩ = some (.slice none 0 0) := G2.cell rfl
      have uG21 : X2.frozen? ⟨w.heap.size + 1 + 1, 1, none⟩ = false := G2.frozen (by simp)
      have tI10 : X3.cell? ⟨w.heap.size + 1, 0, none⟩ = some (.int .i64 0) := I1.cell rfl
      have tI11 : X3.cell? ⟨w.heap.size + 1, 1, none⟩ = some (.int .i64 0) := I1.cell rfl
      have tI12 : X3.cell? ⟨w.heap.size + 1, 2, none⟩ = some (.slice none 0 0) := I1.cell rfl
      have tI20 : X3.cell? ⟨w.heap.size + 1 + 1, 0, none⟩ = some ((.slice a' (N - 1) c')) := I2.cell rfl
      have tI21 : X3.cell? ⟨w.heap.size + 1 + 1, 1, none⟩ = some (.slice aa M ac) := I2.cell rfl
      have HW9 := Lib.hid hw9
      have HX2 := Lib.hid hX2
      have HX3 := Lib.hid hX3
      clear hsep hb8 hlen E0 E1 E2 hw9 F0 F1 F2 hb89 hX2 G0 G1 G2 hb9X hX3 I1 I2 hbX3 hb83 hw8
      go_wp2
      rw [HW9.out]
      refine wp_region_held_drew (S := fun W => Below w.heap.size w W) (by kernel_rfl) HS9.out (fun hHeld => ?_)
      refine wpAnyH_ready (rs := [0, 1]) (by kernel_rfl) (by simp) ?_
      refine AllReadyH.cons (o := q20p0) rfl (fun K hK => ?_) (AllReadyH.cons (o := q20p1) rfl (fun K hK => ?_) AllReadyH.nil)
      · skip
        rw [if_pos (by rfl)]
        unfold q20p0
        go_simp
        refine hK.out _ _ hHeld (fun hHeld => ?_)
        clear hK K
        try simp only [q20p0, Act.put, List.setIfInBounds_toArray, List.set_cons_zero, List.set_cons_succ]
        refine wpAnyH_ready (rs := [1, 2]) (by kernel_rfl) (by simp) ?_
        refine AllReadyH.cons (o := q20p1) rfl (fun K hK => ?_) (AllReadyH.cons (o := q20p2) rfl (fun K hK => ?_) AllReadyH.nil)
        · skip
          rw [if_pos (by rfl)]
          unfold q20p1
          go_simp
          refine hK.out _ _ hHeld (fun hHeld => ?_)
          clear hK K
          try simp only [q20p1, Act.put, List.setIfInBounds_toArray, List.set_cons_zero, List.set_cons_succ]
          refine wpAnyH_ready (rs := [2]) (by kernel_rfl) (by simp) ?_
          refine AllReadyH.cons (o := q20p2) rfl (fun K hK => ?_) AllReadyH.nil
          rw [if_pos (by rfl)]
          unfold q20p2
          go_simp
          rw [HX2.out]
          refine hK.out _ _ HSX2.out (fun hHeld => ?_)
          clear hK K
          try simp only [q20p2, Act.put]
          refine wpAnyH_ready (rs := [3]) (by kernel_rfl) (by simp) ?_
          refine AllReadyH.cons (o := q20p3) rfl (fun K hK => ?_) AllReadyH.nil
          rw [if_pos (by rfl)]
          unfold q20p3
          go_simp
          rw [HX3.out]
          refine hK.out _ _ HBF.out (fun hHeld => ?_)
          clear hK K
          try simp only [q20p3, Act.put]
          refine wpAnyH_take (i := 4) (oi := q20p4) (v := ?_) rfl (by kernel_rfl) (by kernel_rfl) (by kernel_rfl) (fun _ _ _ h => h) (Or.inl ⟨by rfl, ?_⟩) hHeld ?_
          rotate_left
          · (intro w hSw; (try dsimp only at hSw); unfold q20p4; go_simp <;> with_reducible rfl)
          try simp only [q20p4, Act.put, List.setIfInBounds_toArray, List.set_cons_zero, List.set_cons_succ]
          refine wpAnyH_done (by kernel_rfl) ?_ _
          clear hHeld
          go_wp2
          refine bodyPost_ret (v := .tuple #[.agg #[.int .i64 0, .int .i64 0, .slice none 0 0], .agg #[(.slice a' (N - 1) c'), .slice aa M ac], .int .i64 0]) (by simp [results, Try.results20, go_sem, tI10, tI11, tI12, tI20, tI21]) rfl ⟨_, _, rfl, HPF.out, HFF.out, HBF.out⟩
        · skip
          rw [if_pos (by rfl)]
          unfold q20p2
          go_simp
          rw [HX2.out]
          refine hK.out _ _ HSX2.out (fun hHeld => ?_)
          clear hK K
          try simp only [q20p2, Act.put]
          refine wpAnyH_ready (rs := [1]) (by kernel_rfl) (by simp) ?_
          refine AllReadyH.cons (o := q20p1) rfl (fun K hK => ?_) AllReadyH.nil
          rw [if_pos (by rfl)]
          unfold q20p1
          go_simp
          refine hK.out _ _ hHeld (fun hHeld => ?_)
          clear hK K
          try simp only [q20p1, Act.put, List.setIfInBounds_toArray, List.set_cons_zero, List.set_cons_succ]
          refine wpAnyH_ready (rs := [3]) (by kernel_rfl) (by simp) ?_
          refine AllReadyH.cons (o := q20p3) rfl (fun K hK => ?_) AllReadyH.nil
          rw [if_pos (by rfl)]
          unfold q20p3
          go_simp
          rw [HX3.out]
          refine hK.out _ _ HBF.out (fun hHeld => ?_)
          clear hK K
          try simp only [q20p3, Act.put]
          refine wpAnyH_take (i := 4) (oi := q20p4) (v := ?_) rfl (by kernel_rfl) (by kernel_rfl) (by kernel_rfl) (fun _ _ _ h => h) (Or.inl ⟨by rfl, ?_⟩) hHeld ?_
          rotate_left
          · (intro w hSw; (try dsimp only at hSw); unfold q20p4; go_simp <;> with_reducible rfl)
          try simp only [q20p4, Act.put, List.setIfInBounds_toArray, List.set_cons_zero, List.set_cons_succ]
          refine wpAnyH_done (by kernel_rfl) ?_ _
          clear hHeld
          go_wp2
          refine bodyPost_ret (v := .tuple #[.agg #[.int .i64 0, .int .i64 0, .slice none 0 0], .agg #[(.slice a' (N - 1) c'), .slice aa M ac], .int .i64 0]) (by simp [results, Try.results20, go_sem, tI10, tI11, tI12, tI20, tI21]) rfl ⟨_, _, rfl, HPF.out, HFF.out, HBF.out⟩
      · skip
        rw [if_pos (by rfl)]
        unfold q20p1
        go_simp
        refine hK.out _ _ hHeld (fun hHeld => ?_)
        clear hK K
        try simp only [q20p1, Act.put, List.setIfInBounds_toArray, List.set_cons_zero, List.set_cons_succ]
        refine wpAnyH_ready (rs := [0]) (by kernel_rfl) (by simp) ?_
        refine AllReadyH.cons (o := q20p0) rfl (fun K hK => ?_) AllReadyH.nil
        rw [if_pos (by rfl)]
        unfold q20p0
        go_simp
        refine hK.out _ _ hHeld (fun hHeld => ?_)
        clear hK K
        try simp only [q20p0, Act.put, List.setIfInBounds_toArray, List.set_cons_zero, List.set_cons_succ]
        refine wpAnyH_ready (rs := [2]) (by kernel_rfl) (by simp) ?_
        refine AllReadyH.cons (o := q20p2) rfl (fun K hK => ?_) AllReadyH.nil
        rw [if_pos (by rfl)]
        unfold q20p2
        go_simp
        rw [HX2.out]
        refine hK.out _ _ HSX2.out (fun hHeld => ?_)
        clear hK K
        try simp only [q20p2, Act.put]
        refine wpAnyH_ready (rs := [3]) (by kernel_rfl) (by simp) ?_
        refine AllReadyH.cons (o := q20p3) rfl (fun K hK => ?_) AllReadyH.nil
        rw [if_pos (by rfl)]
        unfold q20p3
        go_simp
        rw [HX3.out]
        refine hK.out _ _ HBF.out (fun hHeld => ?_)
        clear hK K
        try simp only [q20p3, Act.put]
        refine wpAnyH_take (i := 4) (oi := q20p4) (v := ?_) rfl (by kernel_rfl) (by kernel_rfl) (by kernel_rfl) (fun _ _ _ h => h) (Or.inl ⟨by rfl, ?_⟩) hHeld ?_
        rotate_left
        · (intro w hSw; (try dsimp only at hSw); unfold q20p4; go_simp <;> with_reducible rfl)
        try simp only [q20p4, Act.put, List.setIfInBounds_toArray, List.set_cons_zero, List.set_cons_succ]
        refine wpAnyH_done (by kernel_rfl) ?_ _
        clear hHeld
        go_wp2
        refine bodyPost_ret (v := .tuple #[.agg #[.int .i64 0, .int .i64 0, .slice none 0 0], .agg #[(.slice a' (N - 1) c'), .slice aa M ac], .int .i64 0]) (by simp [results, Try.results20, go_sem, tI10, tI11, tI12, tI20, tI21]) rfl ⟨_, _, rfl, HPF.out, HFF.out, HBF.out⟩
    | false =>
      obtain rfl : p = RP := by rw [← HRP.out]; rfl
      have HI6 : w.heap.size + 1 + 1 + 1 ≤ w6.heap.size := by omega
      obtain ⟨w7, hw7⟩ : ∃ w7, ((w6.setCell ⟨w.heap.size + 1, 0, none⟩ (.int .i64 p.frm)).setCell ⟨w.heap.size + 1, 1, none⟩ (.int .i64 p.to)).setCell ⟨w.heap.size + 1, 2, none⟩ (.slice da D dc) = w7 := ⟨_, rfl⟩
      have D0 : Arr (((w6.setCell ⟨w.heap.size + 1, 0, none⟩ (.int .i64 p.frm)).setCell ⟨w.heap.size + 1, 1, none⟩ (.int .i64 p.to)).setCell ⟨w.heap.size + 1, 2, none⟩ (.slice da D dc)) w.heap.size [.slice (some ⟨b, off, none⟩) N qc, .slice aa M ac] := ((C0.other (b' := w.heap.size + 1) (by omega) 0 _).other (b' := w.heap.size + 1) (by omega) 1 _).other (b' := w.heap.size + 1) (by omega) 2 _
      have D1 : Arr (((w6.setCell ⟨w.heap.size + 1, 0, none⟩ (.int .i64 p.frm)).setCell ⟨w.heap.size + 1, 1, none⟩ (.int .i64 p.to)).setCell ⟨w.heap.size + 1, 2, none⟩ (.slice da D dc)) (w.heap.size + 1) [.int .i64 p.frm, .int .i64 p.to, .slice da D dc] := ((C1.set 0 (.int .i64 p.frm)).set 1 (.int .i64 p.to)).set 2 (.slice da D dc)
      have D2 : Arr (((w6.setCell ⟨w.heap.size + 1, 0, none⟩ (.int .i64 p.frm)).setCell ⟨w.heap.size + 1, 1, none⟩ (.int .i64 p.to)).setCell ⟨w.heap.size + 1, 2, none⟩ (.slice da D dc)) (w.heap.size + 1 + 1) [.slice none 0 0, .slice none 0 0] := ((C2.other (b' := w.heap.size + 1) (by omega) 0 _).other (b' := w.heap.size + 1) (by omega) 1 _).other (b' := w.heap.size + 1) (by omega) 2 _
      have hb7 : Below w.heap.size w6 (((w6.setCell ⟨w.heap.size + 1, 0, none⟩ (.int .i64 p.frm)).setCell ⟨w.heap.size + 1, 1, none⟩ (.int .i64 p.to)).setCell ⟨w.heap.size + 1, 2, none⟩ (.slice da D dc)) := (((Below.refl _ _).setCell (p := ⟨w.heap.size + 1, 0, none⟩) (by show w.heap.size ≤ w.heap.size + 1; omega) _).setCell (p := ⟨w.heap.size + 1, 1, none⟩) (by show w.heap.size ≤ w.heap.size + 1; omega) _).setCell (p := ⟨w.heap.size + 1, 2, none⟩) (by show w.heap.size ≤ w.heap.size + 1; omega) _
      have m30 : w6.cell? ⟨g3, 0, none⟩ = some (.int .i64 p.frm) := C3.cell rfl
      have m31 : w6.cell? ⟨g3, 1, none⟩ = some (.int .i64 p.to) := C3.cell rfl
      have m32 : w6.cell? ⟨g3, 2, none⟩ = some (.slice da D dc) := C3.cell rfl
      have m10 : w6.cell? ⟨w.heap.size + 1, 0, none⟩ = some (.int .i64 0) := C1.cell rfl
      have m11 : w6.cell? ⟨w.heap.size + 1, 1, none⟩ = some (.int .i64 0) := C1.cell rfl
      have m12 : w6.cell? ⟨w.heap.size + 1, 2, none⟩ = some (.slice none 0 0) := C1.cell rfl
      have n10 : w6.frozen? ⟨w.heap.size + 1, 0, none⟩ = false := C1.frozen (by simp)
      have n11 : w6.frozen? ⟨w.heap.size + 1, 1, none⟩ = false := C1.frozen (by simp)
      have n12 : w6.frozen? ⟨w.heap.size + 1, 2, none⟩ = false := C1.frozen (by simp)
      have m00 : (((w6.setCell ⟨w.heap.size + 1, 0, none⟩ (.int .i64 p.frm)).setCell ⟨w.heap.size + 1, 1, none⟩ (.int .i64 p.to)).setCell ⟨w.heap.size + 1, 2, none⟩ (.slice da D dc)).cell? ⟨w.heap.size, 0, none⟩ = some (.slice (some ⟨b, off, none⟩) N qc) := D0.cell rfl
      have hz7 : (((w6.setCell ⟨w.heap.size + 1, 0, none⟩ (.int .i64 p.frm)).setCell ⟨w.heap.size + 1, 1, none⟩ (.int .i64 p.to)).setCell ⟨w.heap.size + 1, 2, none⟩ (.slice da D dc)).heap.size = w6.heap.size := by simp
      rw [hw7] at D0 D1 D2 hb7 hz7
      have HB7 : Hid (Below w.heap.size w w7) := Lib.hid (HB6.out.trans hb7)
      have HW7 := Lib.hid hw7
      have HD0 := Lib.hid D0
      have HD1 := Lib.hid D1
      have HD2 := Lib.hid D2
      clear hw7 C0 C1 C2 C3 D0 D1 D2 hb7
      go_wp2_with fail
      rw [HW7.out]
      refine (HREM.out w7 HB7.out).mono ?_
      rintro e w8 ⟨v', rfl, hsep, hb8⟩
      obtain ⟨a', c', rfl, f1, f2, _⟩ := id hsep
      have hlen : (n.q.eraseIdx i).length = N - 1 := by rw [List.length_eraseIdx, if_pos (by rw [HN.out]; exact hi), HN.out]
      rw [hlen] at hsep ⊢
      have hs8 := hb8.size
      have E0 : Arr w8 w.heap.size [.slice (some ⟨b, off, none⟩) N qc, .slice aa M ac] := HD0.out.below hb8 (by omega)
      have E1 : Arr w8 (w.heap.size + 1) [.int .i64 p.frm, .int .i64 p.to, .slice da D dc] := HD1.out.below hb8 (by omega)
      have E2 : Arr w8 (w.heap.size + 1 + 1) [.slice none 0 0, .slice none 0 0] := HD2.out.below hb8 (by omega)
      have o00 : w8.cell? ⟨w.heap.size, 0, none⟩ = some (.slice (some ⟨b, off, none⟩) N qc) := E0.cell rfl
      have o0f : w8.frozen? ⟨w.heap.size, 0, none⟩ = false := E0.frozen (by simp)
      obtain ⟨w9, hw9⟩ : ∃ w9, w8.setCell ⟨w.heap.size, 0, none⟩ (.slice a' (N - 1) c') = w9 := ⟨_, rfl⟩
      have F0 : Arr w9 w.heap.size [(.slice a' (N - 1) c'), .slice aa M ac] := by rw [← hw9]; exact E0.set 0 (.slice a' (N - 1) c')
      have F1 : Arr w9 (w.heap.size + 1) [.int .i64 p.frm, .int .i64 p.to, .slice da D dc] := by rw [← hw9]; exact E1.other (by omega) 0 _
      have F2 : Arr w9 (w.heap.size + 1 + 1) [.slice none 0 0, .slice none 0 0] := by rw [← hw9]; exact E2.other (by omega) 0 _
      have hb89 : Below w.heap.size w8 w9 := by rw [← hw9]; exact (Below.refl _ _).setCell (p := ⟨w.heap.size, 0, none⟩) (Nat.le_refl _) _
      obtain ⟨X2, hX2⟩ : ∃ X, (((w9.setCell ⟨w.heap.size + 1, 0, none⟩ (.int .i64 p.frm)).setCell ⟨w.heap.size + 1, 1, none⟩ (.int .i64 p.to)).setCell ⟨w.heap.size + 1, 2, none⟩ (.slice da D dc)).drew = X := ⟨_, rfl⟩
      have G0 : Arr X2 w.heap.size [(.slice a' (N - 1) c'), .slice aa M ac] := by rw [← hX2]; exact (((F0.other (b' := w.heap.size + 1) (by omega) 0 _).other (b' := w.heap.size + 1) (by omega) 1 _).other (b' := w.heap.size + 1) (by omega) 2 _).drew
      have G1 : Arr X2 (w.heap.size + 1) [.int .i64 p.frm, .int .i64 p.to, .slice da D dc] := by rw [← hX2]; exact (((F1.set 0 (.int .i64 p.frm)).set 1 (.int .i64 p.to)).set 2 (.slice da D dc)).drew
      have G2 : Arr X2 (w.heap.size + 1 + 1) [.slice none 0 0, .slice none 0 0] := by rw [← hX2]; exact (((F2.other (b' := w.heap.size + 1) (by omega) 0 _).other (b' := w.heap.size + 1) (by omega) 1 _).other (b' := w.heap.size + 1) (by omega) 2 _).drew
      have hb9X : Below w.heap.size w9 X2 := by rw [← hX2]; exact ((((Below.refl _ _).setCell (p := ⟨w.heap.size + 1, 0, none⟩) (by show w.heap.size ≤ w.heap.size + 1; omega) _).setCell (p := ⟨w.heap.size + 1, 1, none⟩) (by show w.heap.size ≤ w.heap.size + 1; omega) _).setCell (p := ⟨w.heap.size + 1, 2, none⟩) (by show w.heap.size ≤ w.heap.size + 1; omega) _).drew
      obtain ⟨X3, hX3⟩ : ∃ X, (X2.setCell ⟨w.heap.size + 1 + 1, 0, none⟩ (.slice a' (N - 1) c')).setCell ⟨w.heap.size + 1 + 1, 1, none⟩ (.slice aa M ac) = X := ⟨_, rfl⟩
      have I1 : Arr X3 (w.heap.size + 1) [.int .i64 p.frm, .int .i64 p.to, .slice da D dc] := by rw [← hX3]; exact (G1.other (b' := w.heap.size + 1 + 1) (by omega) 0 _).other (b' := w.heap.size + 1 + 1) (by omega) 1 _
      have I2 : Arr X3 (w.heap.size + 1 + 1) [(.slice a' (N - 1) c'), .slice aa M ac] := by rw [← hX3]; exact (G2.set 0 (.slice a' (N - 1) c')).set 1 (.slice aa M ac)
      have hbX3 : Below w.heap.size X2 X3 := by rw [← hX3]; exact ((Below.refl _ _).setCell (p := ⟨w.heap.size + 1 + 1, 0, none⟩) (by show w.heap.size ≤ w.heap.size + 1 + 1; omega) _).setCell (p := ⟨w.heap.size + 1 + 1, 1, none⟩) (by show w.heap.size ≤ w.heap.size + 1 + 1; omega) _
      have hb83 : Below w.heap.size w8 X3 := hb89.trans (hb9X.trans hbX3)
      have hw8 : Below w.heap.size w w8 := HB7.out.trans (hb8.mono HB7.out.size)
      have HS9 : Hid (Below w.heap.size w w9.drew) := Lib.hid (hw8.trans hb89).drew
      have HSX2 : Hid (Below w.heap.size w X2) := Lib.hid (hw8.trans (hb89.trans hb9X))
      have HBF : Hid (Below w.heap.size w X3) := Lib.hid (hw8.trans hb83)
      have hX3z : X3.heap.size = w8.heap.size := by rw [← hX3, ← hX2, ← hw9]; simp
      have HFF : Hid (NtAt X3 X3.heap.size (.agg #[(.slice a' (N - 1) c'), .slice aa M ac]) ⟨n.q.eraseIdx i, n.ap⟩) := Lib.hid ⟨_, _, rfl, hsep.at hb83 (by omega) (by have := hw8.size; omega) (fun b o hb hb2 => by
        have c : ∀ (W : World) (p : Addr) (v : Value), w.heap.size ≤ p.block ∧ p.block < w7.heap.size → (W.setCell p v).cell? ⟨b, o, none⟩ = W.cell? ⟨b, o, none⟩ := fun W p v hp => cell_out b o p v hp hb
        rw [← hX3, c _ _ _ (by dsimp only; omega), c _ _ _ (by dsimp only; omega), ← hX2]
        refine Eq.trans (b := (((w9.setCell ⟨w.heap.size + 1, 0, none⟩ (.int .i64 p.frm)).setCell ⟨w.heap.size + 1, 1, none⟩ (.int .i64 p.to)).setCell ⟨w.heap.size + 1, 2, none⟩ (.slice da D dc)).cell? ⟨b, o, none⟩) rfl ?_
        rw [c _ _ _ (by dsimp only; omega), c _ _ _ (by dsimp only; omega), c _ _ _ (by dsimp only; omega), ← hw9, c _ _ _ (by dsimp only; omega)]), HA.out.next HBF.out⟩
      have HPF : Hid (PkAt X3 X3.heap.size (.agg #[.int .i64 p.frm, .int .i64 p.to, .slice da D dc]) p) := Lib.hid ⟨HIN.out, _, rfl, HPD.out.next HBF.out HBF.out.size⟩
      have tF00 : w9.cell? ⟨w.heap.size, 0, none⟩ = some ((.slice a' (N - 1) c')) := F0.cell rfl
      have tF01 : w9.cell? ⟨w.heap.size, 1, none⟩ = some (.slice aa M ac) := F0.cell rfl
      have tF10 : w9.cell? ⟨w.heap.size + 1, 0, none⟩ = some (.int .i64 p.frm) := F1.cell rfl
      have uF10 : w9.frozen? ⟨w.heap.size + 1, 0, none⟩ = false := F1.frozen (by simp)
      have tF11 : w9.cell? ⟨w.heap.size + 1, 1, none⟩ = some (.int .i64 p.to) := F1.cell rfl
      have uF11 : w9.frozen? ⟨w.heap.size + 1, 1, none⟩ = false := F1.frozen (by simp)
      have tF12 : w9.cell? ⟨w.heap.size + 1, 2, none⟩ = some (.slice da D dc) := F1.cell rfl
      have uF12 : w9.frozen? ⟨w.heap.size + 1, 2, none⟩ = false := F1.frozen (by simp)
      have tF20 : w9.cell? ⟨w.heap.size + 1 + 1, 0, none⟩ = some (.slice none 0 0) := F2.cell rfl
      have tF21 : w9.cell? ⟨w.heap.size + 1 + 1, 1, none⟩ = some (.slice none 0 0) := F2.cell rfl
      have tG00 : X2.cell? ⟨w.heap.size, 0, none⟩ = some ((.slice a' (N - 1) c')) := G0.cell rfl
      have tG01 : X2.cell? ⟨w.heap.size, 1, none⟩ = some (.slice aa M ac) := G0.cell rfl
      have tG20 : X2.cell? ⟨w.heap.size + 1 + 1, 0, none⟩ = some (.slice none 0 0) := G2.cell rfl
      have uG20 : X2.frozen? ⟨w.heap.size + 1 + 1, 0, none⟩ = false := G2.frozen (by simp)
      have tG21 : X2.cell? ⟨w.heap.size + 1 + 1, 1, none⟩ = some (.slice none 0 0) := G2.cell rfl
      have uG21 : X2.frozen? ⟨w.heap.size + 1 + 1, 1, none⟩ = false := G2.frozen (by simp)
      have tI10 : X3.cell? ⟨w.heap.size + 1, 0, none⟩ = some (.int .i64 p.frm) := I1.cell rfl
      have tI11 : X3.cell? ⟨w.heap.size + 1, 1, none⟩ = some (.int .i64 p.to) := I1.cell rfl
      have tI12 : X3.cell? ⟨w.heap.size + 1, 2, none⟩ = some (.slice da D dc) := I1.cell rfl
      have tI20 : X3.cell? ⟨w.heap.size + 1 + 1, 0, none⟩ = some ((.slice a' (N - 1) c')) := I2.cell rfl
      have tI21 : X3.cell? ⟨w.heap.size + 1 + 1, 1, none⟩ = some (.slice aa M ac) := I2.cell rfl
      have HW9 := Lib.hid hw9
      have HX2 := Lib.hid hX2
      have HX3 := Lib.hid hX3
      clear hsep hb8 hlen E0 E1 E2 hw9 F0 F1 F2 hb89 hX2 G0 G1 G2 hb9X hX3 I1 I2 hbX3 hb83 hw8
      go_wp2
      rw [HW9.out]
      refine wp_region_held_drew (S := fun W => Below w.heap.size w W) (by kernel_rfl) HS9.out (fun hHeld => ?_)
      refine wpAnyH_ready (rs := [0, 1]) (by kernel_rfl) (by simp) ?_
      refine AllReadyH.cons (o := q20p0) rfl (fun K hK => ?_) (AllReadyH.cons (o := q20p1) rfl (fun K hK => ?_) AllReadyH.nil)
      · skip
        rw [if_pos (by rfl)]
        unfold q20p0
        go_simp
        refine hK.out _ _ hHeld (fun hHeld => ?_)
        clear hK K
        try simp only [q20p0, Act.put, List.setIfInBounds_toArray, List.set_cons_zero, List.set_cons_succ]
        refine wpAnyH_ready (rs := [1, 2]) (by kernel_rfl) (by simp) ?_
        refine AllReadyH.cons (o := q20p1) rfl (fun K hK => ?_) (AllReadyH.cons (o := q20p2) rfl (fun K hK => ?_) AllReadyH.nil)
        · skip
          rw [if_pos (by rfl)]
          unfold q20p1
          go_simp
          refine hK.out _ _ hHeld (fun hHeld => ?_)
          clear hK K
          try simp only [q20p1, Act.put, List.setIfInBounds_toArray, List.set_cons_zero, List.set_cons_succ]
          refine wpAnyH_ready (rs := [2]) (by kernel_rfl) (by simp) ?_
          refine AllReadyH.cons (o := q20p2) rfl (fun K hK => ?_) AllReadyH.nil
          rw [if_pos (by rfl)]
          unfold q20p2
          go_simp
          rw [HX2.out]
          refine hK.out _ _ HSX2.out (fun hHeld => ?_)
          clear hK K
          try simp only [q20p2, Act.put]
          refine wpAnyH_ready (rs := [3]) (by kernel_rfl) (by simp) ?_
          refine AllReadyH.cons (o := q20p3) rfl (fun K hK => ?_) AllReadyH.nil
          rw [if_pos (by rfl)]
          unfold q20p3
          go_simp
          rw [HX3.out]
          refine hK.out _ _ HBF.out (fun hHeld => ?_)
          clear hK K
          try simp only [q20p3, Act.put]
          refine wpAnyH_take (i := 4) (oi := q20p4) (v := ?_) rfl (by kernel_rfl) (by kernel_rfl) (by kernel_rfl) (fun _ _ _ h => h) (Or.inl ⟨by rfl, ?_⟩) hHeld ?_
          rotate_left
          · (intro w hSw; (try dsimp only at hSw); unfold q20p4; go_simp <;> with_reducible rfl)
          try simp only [q20p4, Act.put, List.setIfInBounds_toArray, List.set_cons_zero, List.set_cons_succ]
          refine wpAnyH_done (by kernel_rfl) ?_ _
          clear hHeld
          go_wp2
          refine bodyPost_ret (v := .tuple #[.agg #[.int .i64 p.frm, .int .i64 p.to, .slice da D dc], .agg #[(.slice a' (N - 1) c'), .slice aa M ac], .int .i64 0]) (by simp [results, Try.results20, go_sem, tI10, tI11, tI12, tI20, tI21]) rfl ⟨_, _, rfl, HPF.out, HFF.out, HBF.out⟩
        · skip
          rw [if_pos (by rfl)]
          unfold q20p2
          go_simp
          rw [HX2.out]
          refine hK.out _ _ HSX2.out (fun hHeld => ?_)
          clear hK K
          try simp only [q20p2, Act.put]
          refine wpAnyH_ready (rs := [1]) (by kernel_rfl) (by simp) ?_
          refine AllReadyH.cons (o := q20p1) rfl (fun K hK => ?_) AllReadyH.nil
          rw [if_pos (by rfl)]
          unfold q20p1
          go_simp
          refine hK.out _ _ hHeld (fun hHeld => ?_)
          clear hK K
          try simp only [q20p1, Act.put, List.setIfInBounds_toArray, List.set_cons_zero, List.set_cons_succ]
          refine wpAnyH_ready (rs := [3]) (by kernel_rfl) (by simp) ?_
          refine AllReadyH.cons (o := q20p3) rfl (fun K hK => ?_) AllReadyH.nil
          rw [if_pos (by rfl)]
          unfold q20p3
          go_simp
          rw [HX3.out]
          refine hK.out _ _ HBF.out (fun hHeld => ?_)
          clear hK K
          try simp only [q20p3, Act.put]
          refine wpAnyH_take (i := 4) (oi := q20p4) (v := ?_) rfl (by kernel_rfl) (by kernel_rfl) (by kernel_rfl) (fun _ _ _ h => h) (Or.inl ⟨by rfl, ?_⟩) hHeld ?_
          rotate_left
          · (intro w hSw; (try dsimp only at hSw); unfold q20p4; go_simp <;> with_reducible rfl)
          try simp only [q20p4, Act.put, List.setIfInBounds_toArray, List.set_cons_zero, List.set_cons_succ]
          refine wpAnyH_done (by kernel_rfl) ?_ _
          clear hHeld
          go_wp2
          refine bodyPost_ret (v := .tuple #[.agg #[.int .i64 p.frm, .int .i64 p.to, .slice da D dc], .agg #[(.slice a' (N - 1) c'), .slice aa M ac], .int .i64 0]) (by simp [results, Try.results20, go_sem, tI10, tI11, tI12, tI20, tI21]) rfl ⟨_, _, rfl, HPF.out, HFF.out, HBF.out⟩
      · skip
        rw [if_pos (by rfl)]
        unfold q20p1
        go_simp
        refine hK.out _ _ hHeld (fun hHeld => ?_)
        clear hK K
        try simp only [q20p1, Act.put, List.setIfInBounds_toArray, List.set_cons_zero, List.set_cons_succ]
        refine wpAnyH_ready (rs := [0]) (by kernel_rfl) (by simp) ?_
        refine AllReadyH.cons (o := q20p0) rfl (fun K hK => ?_) AllReadyH.nil
        rw [if_pos (by rfl)]
        unfold q20p0
        go_simp
        refine hK.out _ _ hHeld (fun hHeld => ?_)
        clear hK K
        try simp only [q20p0, Act.put, List.setIfInBounds_toArray, List.set_cons_zero, List.set_cons_succ]
        refine wpAnyH_ready (rs := [2]) (by kernel_rfl) (by simp) ?_
        refine AllReadyH.cons (o := q20p2) rfl (fun K hK => ?_) AllReadyH.nil
        rw [if_pos (by rfl)]
        unfold q20p2
        go_simp
        rw [HX2.out]
        refine hK.out _ _ HSX2.out (fun hHeld => ?_)
        clear hK K
        try simp only [q20p2, Act.put]
        refine wpAnyH_ready (rs := [3]) (by kernel_rfl) (by simp) ?_
        refine AllReadyH.cons (o := q20p3) rfl (fun K hK => ?_) AllReadyH.nil
        rw [if_pos (by rfl)]
        unfold q20p3
        go_simp
        rw [HX3.out]
        refine hK.out _ _ HBF.out (fun hHeld => ?_)
        clear hK K
        try simp only [q20p3, Act.put]
        refine wpAnyH_take (i := 4) (oi := q20p4) (v := ?_) rfl (by kernel_rfl) (by kernel_rfl) (by kernel_rfl) (fun _ _ _ h => h) (Or.inl ⟨by rfl, ?_⟩) hHeld ?_
        rotate_left
        · (intro w hSw; (try dsimp only at hSw); unfold q20p4; go_simp <;> with_reducible rfl)
        try simp only [q20p4, Act.put, List.setIfInBounds_toArray, List.set_cons_zero, List.set_cons_succ]
        refine wpAnyH_done (by kernel_rfl) ?_ _
        clear hHeld
        go_wp2
        refine bodyPost_ret (v := .tuple #[.agg #[.int .i64 p.frm, .int .i64 p.to, .slice da D dc], .agg #[(.slice a' (N - 1) c'), .slice aa M ac], .int .i64 0]) (by simp [results, Try.results20, go_sem, tI10, tI11, tI12, tI20, tI21]) rfl ⟨_, _, rfl, HPF.out, HFF.out, HBF.out⟩
    -- T>
  · rw [if_neg hE0, if_neg hE0]
    have dE : (E != 0) = true := by simpa using hE0
    clear hez hE0
    go_enter Try.func20, Try.ntmps20
    go_wp2_with fail
    rw [HW3.out]
    refine HCK.out.mono ?_
    rintro e w4 ⟨rfl, hb4⟩
    have hs4 := hb4.size
    have B1 : Arr w4 (w.heap.size + 1) [.int .i64 0, .int .i64 0, .slice none 0 0] := HA1.out.below hb4 (by omega)
    have B2 : Arr w4 (w.heap.size + 1 + 1) [.slice none 0 0, .slice none 0 0] := HA2.out.below hb4 (by omega)
    have e10 : w4.cell? ⟨w.heap.size + 1, 0, none⟩ = some (.int .i64 0) := B1.cell rfl
    have e11 : w4.cell? ⟨w.heap.size + 1, 1, none⟩ = some (.int .i64 0) := B1.cell rfl
    have e12 : w4.cell? ⟨w.heap.size + 1, 2, none⟩ = some (.slice none 0 0) := B1.cell rfl
    have e20 : w4.cell? ⟨w.heap.size + 1 + 1, 0, none⟩ = some (.slice none 0 0) := B2.cell rfl
    have e21 : w4.cell? ⟨w.heap.size + 1 + 1, 1, none⟩ = some (.slice none 0 0) := B2.cell rfl
    have f10 : w4.frozen? ⟨w.heap.size + 1, 0, none⟩ = false := B1.frozen (by simp)
    have f11 : w4.frozen? ⟨w.heap.size + 1, 1, none⟩ = false := B1.frozen (by simp)
    have f12 : w4.frozen? ⟨w.heap.size + 1, 2, none⟩ = false := B1.frozen (by simp)
    have f20 : w4.frozen? ⟨w.heap.size + 1 + 1, 0, none⟩ = false := B2.frozen (by simp)
    have f21 : w4.frozen? ⟨w.heap.size + 1 + 1, 1, none⟩ = false := B2.frozen (by simp)
    have hw4 : Below w.heap.size w w4 := HB3.out.trans (hb4.mono HB3.out.size)
    obtain ⟨WF, hWF⟩ : ∃ WF, ((((w4.setCell ⟨w.heap.size + 1, 0, none⟩ (.int .i64 0)).setCell ⟨w.heap.size + 1, 1, none⟩ (.int .i64 0)).setCell ⟨w.heap.size + 1, 2, none⟩ (.slice none 0 0)).setCell ⟨w.heap.size + 1 + 1, 0, none⟩ (.slice none 0 0)).setCell ⟨w.heap.size + 1 + 1, 1, none⟩ (.slice none 0 0) = WF := ⟨_, rfl⟩
    have HBF : Hid (Below w.heap.size w WF) := Lib.hid (by
      rw [← hWF]
      exact ((((hw4.setCell (p := ⟨w.heap.size + 1, 0, none⟩) (by show w.heap.size ≤ w.heap.size + 1; omega) _).setCell (p := ⟨w.heap.size + 1, 1, none⟩) (by show w.heap.size ≤ w.heap.size + 1; omega) _).setCell (p := ⟨w.heap.size + 1, 2, none⟩) (by show w.heap.size ≤ w.heap.size + 1; omega) _).setCell (p := ⟨w.heap.size + 1 + 1, 0, none⟩) (by show w.heap.size ≤ w.heap.size + 1 + 1; omega) _).setCell (p := ⟨w.heap.size + 1 + 1, 1, none⟩) (by show w.heap.size ≤ w.heap.size + 1 + 1; omega) _)
    have C1 : Arr WF (w.heap.size + 1) [.int .i64 0, .int .i64 0, .slice none 0 0] := by
      rw [← hWF]
      exact (((((B1.set 0 (.int .i64 0)).set 1 (.int .i64 0)).set 2 (.slice none 0 0)).other (b' := w.heap.size + 1 + 1) (by omega) 0 _).other (b' := w.heap.size + 1 + 1) (by omega) 1 _)
    have C2 : Arr WF (w.heap.size + 1 + 1) [.slice none 0 0, .slice none 0 0] := by
      rw [← hWF]
      exact (((((B2.other (b' := w.heap.size + 1) (by omega) 0 _).other (b' := w.heap.size + 1) (by omega) 1 _).other (b' := w.heap.size + 1) (by omega) 2 _).set 0 (.slice none 0 0)).set 1 (.slice none 0 0))
    have r0 : WF.cell? ⟨w.heap.size + 1, 0, none⟩ = some (.int .i64 0) := C1.cell rfl
    have r1 : WF.cell? ⟨w.heap.size + 1, 1, none⟩ = some (.int .i64 0) := C1.cell rfl
    have r2 : WF.cell? ⟨w.heap.size + 1, 2, none⟩ = some (.slice none 0 0) := C1.cell rfl
    have r3 : WF.cell? ⟨w.heap.size + 1 + 1, 0, none⟩ = some (.slice none 0 0) := C2.cell rfl
    have r4 : WF.cell? ⟨w.heap.size + 1 + 1, 1, none⟩ = some (.slice none 0 0) := C2.cell rfl
    have HWF := Lib.hid hWF
    clear hb4 B1 B2 C1 C2 hw4 c00 c01 hWF
    go_wp2
    rw [HWF.out]
    refine bodyPost_ret (v := .tuple #[.agg #[.int .i64 0, .int .i64 0, .slice none 0 0], .agg #[.slice none 0 0, .slice none 0 0], .int .i64 E]) (by simp [results, Try.results20, go_sem, r0, r1, r2, r3, r4]) rfl ⟨_, _, rfl, pk_zero _ _, zero_at _ _, HBF.out⟩
end Go.Proofs.Ytjancbjjeemedaa
