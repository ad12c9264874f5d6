/- Send. -/
import Derived.Test.YtjancbjjeemedaaCln
namespace Go.Proofs.Ytjancbjjeemedaa
open Go.RowKit

/-- No byte lies in a block. -/
def NoU8 (W : World) (g : Nat) : Prop := ∀ (o : Nat) (k : Int), W.cell? ⟨g, o, none⟩ ≠ some (.int .u8 k)
/-- Nothing but slices lies in a block. -/
def SlB (W : World) (g : Nat) : Prop := ∀ (o : Nat) (v : Value), W.cell? ⟨g, o, none⟩ = some v → ∃ a n c, v = .slice a n c
theorem SlB.noU8 {W : World} {g : Nat} (h : SlB W g) : NoU8 W g := fun o k e => by
  obtain ⟨a, n, c, h1⟩ := h o _ e
  cases h1
theorem SlB.below {W W' : World} {B g : Nat} (h : SlB W g) (hb : Below B W W') (hg : g < B) : SlB W' g := fun o v hv => h o v ((hb.cell (p := ⟨g, o, none⟩) hg).symm.trans hv)
theorem NoU8.below {W W' : World} {B g : Nat} (h : NoU8 W g) (hb : Below B W W') (hg : g < B) : NoU8 W' g := fun o k hv => h o k ((hb.cell (p := ⟨g, o, none⟩) hg).symm.trans hv)
theorem SlB.new (W : World) (a a' : Option Addr) (n c n' c' : Nat) (t : TypeId) : SlB (W.alloc (.cells #[.slice a n c, .slice a' n' c'] t)) W.heap.size := fun o v hv => by
  rw [World.cell?_alloc_new] at hv
  have hm := Array.mem_of_getElem? hv
  simp at hm
  rcases hm with rfl | rfl
  · exact ⟨_, _, _, rfl⟩
  · exact ⟨_, _, _, rfl⟩
theorem SlB.set {W : World} {g i : Nat} (h : SlB W g) {u0 : Value} (hu : W.cell? ⟨g, i, none⟩ = some u0) (a : Option Addr) (n c : Nat) : SlB (W.setCell ⟨g, i, none⟩ (.slice a n c)) g := fun o v hv => by
  by_cases e : o = i
  · subst e
    rw [World.cell?_setCell_same _ _ _ hu] at hv
    injection hv with hv
    exact ⟨_, _, _, hv.symm⟩
  · rw [World.cell?_setCell_other _ _ _ _ (by intro h; injection h with _ h; exact e h.symm)] at hv
    exact h o v hv
theorem cell_apart {W : World} {b g o i : Nat} (hne : b ≠ g) (u : Value) : (W.setCell ⟨g, i, none⟩ u).cell? ⟨b, o, none⟩ = W.cell? ⟨b, o, none⟩ := World.cell?_setCell_other _ _ _ _ (by intro h; injection h with h; exact hne h.symm)
theorem BytesAt.apart {W : World} {B g i : Nat} {v : Value} {l : By} (h : BytesAt W B v l) (hg : NoU8 W g) (u : Value) : BytesAt (W.setCell ⟨g, i, none⟩ u) B v l := by
  obtain ⟨a, c, h1, h2, h3, h4⟩ := h
  refine ⟨a, c, h1, h2, h3, ?_⟩
  by_cases h0 : l = []
  · exact .inl h0
  · rcases h4 with h4 | ⟨b, off, h4, h5, h6⟩
    · exact .inl h4
    · have hb : b ≠ g := fun e => by
        have := h6 0 (List.length_pos_iff.2 h0)
        rw [e] at this
        exact hg _ _ this
      exact .inr ⟨b, off, h4, h5, fun j hj => (cell_apart hb u).trans (h6 j hj)⟩
theorem QAt.apart {W : World} {B g i : Nat} {v : Value} {l : List Pk} (h : QAt W B v l) (hg : SlB W g) (u : Value) : QAt (W.setCell ⟨g, i, none⟩ u) B v l := by
  obtain ⟨a, c, h1, h2, h3, h4⟩ := h
  refine ⟨a, c, h1, h2, h3, ?_⟩
  by_cases h0 : l = []
  · exact .inl h0
  · rcases h4 with h4 | ⟨b, off, h4, h5, h6⟩
    · exact .inl h4
    · have hb : b ≠ g := fun e => by
        obtain ⟨_, h7, _⟩ := h6 0 (List.length_pos_iff.2 h0)
        rw [e] at h7
        obtain ⟨_, _, _, h8⟩ := hg _ _ h7
        cases h8
      refine .inr ⟨b, off, h4, h5, fun j hj => ?_⟩
      obtain ⟨a0, a1, a2, x, a3, a4⟩ := h6 j hj
      exact ⟨a0, (cell_apart hb u).trans a1, (cell_apart hb u).trans a2, x, (cell_apart hb u).trans a3, a4.apart hg.noU8 u⟩
theorem AAt.apart {W : World} {B g i : Nat} {v : Value} {l : List (Int × Int)} (h : AAt W B v l) (hg : SlB W g) (u : Value) : AAt (W.setCell ⟨g, i, none⟩ u) B v l := by
  obtain ⟨a, c, h1, h2, h3, h4⟩ := h
  refine ⟨a, c, h1, h2, h3, ?_⟩
  by_cases h0 : l = []
  · exact .inl h0
  · rcases h4 with h4 | ⟨b, off, h4, h5, h6⟩
    · exact .inl h4
    · have hb : b ≠ g := fun e => by
        obtain ⟨_, h7, _⟩ := h6 0 (List.length_pos_iff.2 h0)
        rw [e] at h7
        obtain ⟨_, _, _, h8⟩ := hg _ _ h7
        cases h8
      refine .inr ⟨b, off, h4, h5, fun j hj => ?_⟩
      obtain ⟨a0, a1, a2⟩ := h6 j hj
      exact ⟨a0, (cell_apart hb u).trans a1, (cell_apart hb u).trans a2⟩
theorem NtAt.apart {W : World} {B g i : Nat} {v : Value} {n : Nt} (h : NtAt W B v n) (hg : SlB W g) (u : Value) : NtAt (W.setCell ⟨g, i, none⟩ u) B v n := by
  obtain ⟨vq, va, h1, h2, h3⟩ := h
  exact ⟨vq, va, h1, h2.apart hg u, h3.apart hg u⟩
theorem NSep.nt {w : World} {B H : Nat} {v : Value} {n : Nt} (h : NSep w B H v n) (hB : B ≤ w.heap.size) : NtAt w w.heap.size v n := h.at (Below.refl _ _) (Nat.le_refl _) hB fun _ _ _ _ => rfl

def Nt.send (n : Nt) (p : Pk) : Nt × Int := if n.ok then (if okPk p then n.push p else (Nt.zero, 60)) else (Nt.zero, 60)
set_option maxRecDepth 100000 in
set_option maxHeartbeats 8000000 in
theorem send_any (w : World) (v : Value) (n : Nt) (h : NtAt w w.heap.size v n) (vp : Value) (p : Pk) (hp : PkAt w w.heap.size vp p) : Calls Try.prog 11 #[v, vp] w fun e w' => ∃ v', e = .returned (.tuple #[v', .int .i64 (n.send p).2]) ∧ NtAt w' w'.heap.size v' (n.send p).1 ∧ Below w.heap.size w w' := by
  have H := Lib.hid h
  obtain ⟨qa, qc, aa, ac, rfl, l1, l2, l3, l4, hq, ha⟩ := h.open
  obtain ⟨da, dc, rfl, hin, l5, l6, hd⟩ := hp.shape
  unfold Nt.send
  have hok := @ok_len n
  have hvp := fun W => vpk_any W p da dc
  have hck := fun W (hW : Below w.heap.size w W) => chk_any W _ n (H.out.next hW)
  have hlen : okPk p = true → p.data.length ≤ 1048576 := fun h => by unfold okPk at h; simp at h; exact h.2
  have HIN := Lib.hid hin
  have hcl := fun W (hW : Below w.heap.size w W) (hl : p.data.length ≤ 1048576) => clone_any W da dc p.data (hd.next hW hW.size) hl
  have henq := fun W (hW : Below w.heap.size w W) (hl : n.q.length ≤ 5000) vp' hp' => enq_sep W W.heap.size (Nat.le_refl _) _ n (H.out.next hW) hl vp' p hp'
  obtain ⟨O, hO⟩ : ∃ x, n.ok = x := ⟨_, rfl⟩
  obtain ⟨K, hK⟩ : ∃ x, okPk p = x := ⟨_, rfl⟩
  rw [hO] at hok ⊢
  rw [hK] at hlen ⊢
  simp only [hO] at hck
  simp only [hK] at hvp
  obtain ⟨N, hN⟩ : ∃ x, n.q.length = x := ⟨_, rfl⟩
  obtain ⟨M, hM⟩ : ∃ x, n.ap.length = x := ⟨_, rfl⟩
  obtain ⟨D, hD⟩ : ∃ x, p.data.length = x := ⟨_, rfl⟩
  rw [hN] at l1 hok ⊢
  rw [hM] at l3 ⊢
  rw [hD] at l5 hlen ⊢
  simp only [hN, hM] at hck
  simp only [hD] at hvp hcl
  simp only [hN, hM] at henq
  have HDQ := Lib.hid hD
  have HNQ := Lib.hid hN
  have HMQ := Lib.hid hM
  obtain ⟨X0, hX0⟩ : ∃ X, X = w.alloc (Obj.cells #[.slice qa N qc, .slice aa M ac] 25) := ⟨_, rfl⟩
  obtain ⟨X1, hX1⟩ : ∃ X, X = X0.alloc (Obj.cells #[.int .i64 p.frm, .int .i64 p.to, .slice da D dc] 28) := ⟨_, rfl⟩
  obtain ⟨w3, hw3⟩ : ∃ X, X = X1.alloc (Obj.cells #[.slice none 0 0, .slice none 0 0] 25) := ⟨_, rfl⟩
  have hz0 : X0.heap.size = w.heap.size + 1 := by rw [hX0, World.size_alloc]
  have hz1 : X1.heap.size = w.heap.size + 1 + 1 := by rw [hX1, World.size_alloc, hz0]
  have hz3 : w3.heap.size = w.heap.size + 1 + 1 + 1 := by rw [hw3, World.size_alloc, hz1]
  have hb3 : Below w.heap.size w w3 := by rw [hw3, hX1, hX0]; go_grown
  have A0 : Arr w3 w.heap.size [.slice qa N qc, .slice aa M ac] := by
    have h1 : Arr X0 w.heap.size [.slice qa N qc, .slice aa M ac] := by rw [hX0]; exact Arr.new w #[.slice qa N qc, .slice aa M ac] 25
    rw [hw3, hX1]
    exact (h1.alloc (by omega) _).alloc (by rw [World.size_alloc]; omega) _
  have A1 : Arr w3 (w.heap.size + 1) [.int .i64 p.frm, .int .i64 p.to, .slice da D dc] := by
    have h1 : Arr X1 (w.heap.size + 1) [.int .i64 p.frm, .int .i64 p.to, .slice da D dc] := by rw [hX1, ← hz0]; exact Arr.new X0 #[.int .i64 p.frm, .int .i64 p.to, .slice da D dc] 28
    rw [hw3]
    exact h1.alloc (by omega) _
  have A2 : Arr w3 (w.heap.size + 1 + 1) [.slice none 0 0, .slice none 0 0] := by
    rw [hw3, ← hz1]; exact Arr.new X1 #[.slice none 0 0, .slice none 0 0] 25
  have S2 : SlB w3 (w.heap.size + 1 + 1) := by
    rw [hw3, ← hz1]; exact SlB.new X1 none none 0 0 0 0 25
  have U1 : NoU8 w3 (w.heap.size + 1) := by
    have h1 : NoU8 X1 (w.heap.size + 1) := by
      intro o k hv
      rw [hX1, ← hz0, World.cell?_alloc_new] at hv
      have hm := Array.mem_of_getElem? hv
      simp at hm
    rw [hw3]
    exact h1.below ((Below.refl X1.heap.size X1).alloc (Nat.le_refl _) _) (by omega)
  have HW3 : Hid (((w.alloc (Obj.cells #[.slice qa N qc, .slice aa M ac] 25)).alloc (Obj.cells #[.int .i64 p.frm, .int .i64 p.to, .slice da D dc] 28)).alloc (Obj.cells #[.slice none 0 0, .slice none 0 0] 25) = w3) := Lib.hid (by rw [hw3, hX1, hX0])
  have HCK := Lib.hid (hck w3 hb3)
  have HVP := Lib.hid hvp
  have HCL := Lib.hid hcl
  have HENQ := Lib.hid henq
  have HA0 := Lib.hid A0
  have HA1 := Lib.hid A1
  have HA2 := Lib.hid A2
  have HS2 := Lib.hid S2
  have HU1 := Lib.hid U1
  have HB3 := Lib.hid hb3
  have c00 : w3.cell? ⟨w.heap.size, 0, none⟩ = some (.slice qa N qc) := A0.cell rfl
  have c01 : w3.cell? ⟨w.heap.size, 1, none⟩ = some (.slice aa M ac) := A0.cell rfl
  clear h hp hq ha hd hin hvp hck hcl henq hO hK hN hM hD hX0 hX1 hw3 hb3 A0 A1 A2 S2 U1
  cases O with
  | false =>
    rw [if_neg (by simp)]
    go_enter Try.func11, Try.ntmps11
    go_wp2_with fail
    rw [HW3.out]
    refine HCK.out.mono ?_
    rintro e w4 ⟨rfl, hb4⟩
    have hs4 := hb4.size
    have hwX : Below w.heap.size w w4 := HB3.out.trans (hb4.mono HB3.out.size)
    have B2 : Arr w4 (w.heap.size + 1 + 1) [.slice none 0 0, .slice none 0 0] := HA2.out.below hb4 (by omega)
    have C2 := (B2.set 0 (.slice none 0 0)).set 1 (.slice none 0 0)
    have r0 : ((w4.setCell ⟨w.heap.size + 1 + 1, 0, none⟩ (.slice none 0 0)).setCell ⟨w.heap.size + 1 + 1, 1, none⟩ (.slice none 0 0)).cell? ⟨w.heap.size + 1 + 1, 0, none⟩ = some (.slice none 0 0) := C2.cell rfl
    have r1 : ((w4.setCell ⟨w.heap.size + 1 + 1, 0, none⟩ (.slice none 0 0)).setCell ⟨w.heap.size + 1 + 1, 1, none⟩ (.slice none 0 0)).cell? ⟨w.heap.size + 1 + 1, 1, none⟩ = some (.slice none 0 0) := C2.cell rfl
    have e20 : w4.cell? ⟨w.heap.size + 1 + 1, 0, none⟩ = some (.slice none 0 0) := B2.cell rfl
    have e21 : w4.cell? ⟨w.heap.size + 1 + 1, 1, none⟩ = some (.slice none 0 0) := B2.cell rfl
    have f20 : w4.frozen? ⟨w.heap.size + 1 + 1, 0, none⟩ = false := B2.frozen (by simp)
    have f21 : w4.frozen? ⟨w.heap.size + 1 + 1, 1, none⟩ = false := B2.frozen (by simp)
    have HBF : Hid (Below w.heap.size w ((w4.setCell ⟨w.heap.size + 1 + 1, 0, none⟩ (.slice none 0 0)).setCell ⟨w.heap.size + 1 + 1, 1, none⟩ (.slice none 0 0))) := Lib.hid ((hwX.setCell (p := ⟨w.heap.size + 1 + 1, 0, none⟩) (by show w.heap.size ≤ w.heap.size + 1 + 1; omega) _).setCell (p := ⟨w.heap.size + 1 + 1, 1, none⟩) (by show w.heap.size ≤ w.heap.size + 1 + 1; omega) _)
    clear B2 C2 hwX hb4
    go_wp2
    refine bodyPost_ret (v := .tuple #[.agg #[.slice none 0 0, .slice none 0 0], .int .i64 60]) (by simp [results, Try.results11, go_sem, r0, r1]) rfl ⟨_, rfl, zero_at _ _, HBF.out⟩
  | true =>
    rw [if_pos rfl]
    have h4096 := hok rfl
    cases K with
    | false =>
      rw [if_neg (by simp)]
      go_enter Try.func11, Try.ntmps11
      go_wp2_with fail
      rw [HW3.out]
      refine HCK.out.mono ?_
      rintro e w4 ⟨rfl, hb4⟩
      have hs4 := hb4.size
      have D1 : Arr w4 (w.heap.size + 1) [.int .i64 p.frm, .int .i64 p.to, .slice da D dc] := HA1.out.below hb4 (by omega)
      have c10 : w4.cell? ⟨w.heap.size + 1, 0, none⟩ = some (.int .i64 p.frm) := D1.cell rfl
      have c11 : w4.cell? ⟨w.heap.size + 1, 1, none⟩ = some (.int .i64 p.to) := D1.cell rfl
      have c12 : w4.cell? ⟨w.heap.size + 1, 2, none⟩ = some (.slice da D dc) := D1.cell rfl
      have HB4 := Lib.hid hb4
      clear hb4 D1
      go_wp2_with fail
      refine (HVP.out w4).mono ?_
      rintro e w5 ⟨rfl, hb5⟩
      have hs5 := hb5.size
      have hb35 : Below w3.heap.size w3 w5 := HB4.out.trans (hb5.mono HB4.out.size)
      have hw5 : Below w.heap.size w w5 := HB3.out.trans (hb35.mono HB3.out.size)
      have B2 : Arr w5 (w.heap.size + 1 + 1) [.slice none 0 0, .slice none 0 0] := HA2.out.below hb35 (by omega)
      have C2 := (B2.set 0 (.slice none 0 0)).set 1 (.slice none 0 0)
      have r0 : ((w5.setCell ⟨w.heap.size + 1 + 1, 0, none⟩ (.slice none 0 0)).setCell ⟨w.heap.size + 1 + 1, 1, none⟩ (.slice none 0 0)).cell? ⟨w.heap.size + 1 + 1, 0, none⟩ = some (.slice none 0 0) := C2.cell rfl
      have r1 : ((w5.setCell ⟨w.heap.size + 1 + 1, 0, none⟩ (.slice none 0 0)).setCell ⟨w.heap.size + 1 + 1, 1, none⟩ (.slice none 0 0)).cell? ⟨w.heap.size + 1 + 1, 1, none⟩ = some (.slice none 0 0) := C2.cell rfl
      have e20 : w5.cell? ⟨w.heap.size + 1 + 1, 0, none⟩ = some (.slice none 0 0) := B2.cell rfl
      have e21 : w5.cell? ⟨w.heap.size + 1 + 1, 1, none⟩ = some (.slice none 0 0) := B2.cell rfl
      have f20 : w5.frozen? ⟨w.heap.size + 1 + 1, 0, none⟩ = false := B2.frozen (by simp)
      have f21 : w5.frozen? ⟨w.heap.size + 1 + 1, 1, none⟩ = false := B2.frozen (by simp)
      have HBF : Hid (Below w.heap.size w ((w5.setCell ⟨w.heap.size + 1 + 1, 0, none⟩ (.slice none 0 0)).setCell ⟨w.heap.size + 1 + 1, 1, none⟩ (.slice none 0 0))) := Lib.hid ((hw5.setCell (p := ⟨w.heap.size + 1 + 1, 0, none⟩) (by show w.heap.size ≤ w.heap.size + 1 + 1; omega) _).setCell (p := ⟨w.heap.size + 1 + 1, 1, none⟩) (by show w.heap.size ≤ w.heap.size + 1 + 1; omega) _)
      clear B2 C2 hw5 hb5 hb35
      go_wp2
      refine bodyPost_ret (v := .tuple #[.agg #[.slice none 0 0, .slice none 0 0], .int .i64 60]) (by simp [results, Try.results11, go_sem, r0, r1]) rfl ⟨_, rfl, zero_at _ _, HBF.out⟩
    | true =>
      rw [if_pos rfl]
      have hDl := hlen rfl
      obtain ⟨m, hm⟩ : ∃ m, n.push p = m := ⟨_, rfl⟩
      have HENQ2 : Hid (∀ W, Below w.heap.size w W → ∀ vp', PkAt W W.heap.size vp' p → Calls Try.prog 30 #[.agg #[.slice qa N qc, .slice aa M ac], vp'] W fun e w' => ∃ v', e = .returned (.tuple #[v', .int .i64 m.2]) ∧ NSep w' W.heap.size W.heap.size v' m.1 ∧ Below W.heap.size W w') := Lib.hid fun W hW vp' hp' => hm ▸ HENQ.out W hW (by omega) vp' hp'
      rw [hm]
      obtain ⟨nn, ec⟩ := m
      dsimp only at HENQ2 ⊢
      clear hm HENQ
      go_enter Try.func11, Try.ntmps11
      go_wp2_with fail
      rw [HW3.out]
      refine HCK.out.mono ?_
      rintro e w4 ⟨rfl, hb4⟩
      have hs4 := hb4.size
      have D1 : Arr w4 (w.heap.size + 1) [.int .i64 p.frm, .int .i64 p.to, .slice da D dc] := HA1.out.below hb4 (by omega)
      have c10 : w4.cell? ⟨w.heap.size + 1, 0, none⟩ = some (.int .i64 p.frm) := D1.cell rfl
      have c11 : w4.cell? ⟨w.heap.size + 1, 1, none⟩ = some (.int .i64 p.to) := D1.cell rfl
      have c12 : w4.cell? ⟨w.heap.size + 1, 2, none⟩ = some (.slice da D dc) := D1.cell rfl
      have HB4 := Lib.hid hb4
      clear hb4 D1
      go_wp2_with fail
      refine (HVP.out w4).mono ?_
      rintro e w5 ⟨rfl, hb5⟩
      have hs5 := hb5.size
      have hb35 : Below w3.heap.size w3 w5 := HB4.out.trans (hb5.mono HB4.out.size)
      have hw5 : Below w.heap.size w w5 := HB3.out.trans (hb35.mono HB3.out.size)
      have D1 : Arr w5 (w.heap.size + 1) [.int .i64 p.frm, .int .i64 p.to, .slice da D dc] := HA1.out.below hb35 (by omega)
      have e12 : w5.cell? ⟨w.heap.size + 1, 2, none⟩ = some (.slice da D dc) := D1.cell rfl
      have HB35 := Lib.hid hb35
      have HW5 := Lib.hid hw5
      clear hb5 hb35 hw5 D1 c10 c11 c12 c00 c01
      go_wp2_with fail
      refine (HCL.out w5 HW5.out hDl).mono ?_
      rintro e w6 ⟨vd, rfl, hvd, hb6⟩
      obtain ⟨da', dc', rfl, _, _⟩ := bytes_shape hvd
      rw [HDQ.out] at hvd ⊢
      have hs6 := hb6.size
      have hb36 : Below w3.heap.size w3 w6 := HB35.out.trans (hb6.mono HB35.out.size)
      have hw6 : Below w.heap.size w w6 := HW5.out.trans (hb6.mono HW5.out.size)
      have hs36 := hb36.size
      have E0 : Arr w6 w.heap.size [.slice qa N qc, .slice aa M ac] := HA0.out.below hb36 (by omega)
      have E1 : Arr w6 (w.heap.size + 1) [.int .i64 p.frm, .int .i64 p.to, .slice da D dc] := HA1.out.below hb36 (by omega)
      have E2 : Arr w6 (w.heap.size + 1 + 1) [.slice none 0 0, .slice none 0 0] := HA2.out.below hb36 (by omega)
      have u12 : w6.cell? ⟨w.heap.size + 1, 2, none⟩ = some (.slice da D dc) := E1.cell rfl
      have g12 : w6.frozen? ⟨w.heap.size + 1, 2, none⟩ = false := E1.frozen (by simp)
      have F0 : Arr (w6.setCell ⟨w.heap.size + 1, 2, none⟩ (.slice da' D dc')) w.heap.size [.slice qa N qc, .slice aa M ac] := E0.other (by omega) 2 _
      have F1 : Arr (w6.setCell ⟨w.heap.size + 1, 2, none⟩ (.slice da' D dc')) (w.heap.size + 1) [.int .i64 p.frm, .int .i64 p.to, .slice da' D dc'] := E1.set 2 (.slice da' D dc')
      have F2 : Arr (w6.setCell ⟨w.heap.size + 1, 2, none⟩ (.slice da' D dc')) (w.heap.size + 1 + 1) [.slice none 0 0, .slice none 0 0] := E2.other (by omega) 2 _
      have x00 : (w6.setCell ⟨w.heap.size + 1, 2, none⟩ (.slice da' D dc')).cell? ⟨w.heap.size, 0, none⟩ = some (.slice qa N qc) := F0.cell rfl
      have x01 : (w6.setCell ⟨w.heap.size + 1, 2, none⟩ (.slice da' D dc')).cell? ⟨w.heap.size, 1, none⟩ = some (.slice aa M ac) := F0.cell rfl
      have x10 : (w6.setCell ⟨w.heap.size + 1, 2, none⟩ (.slice da' D dc')).cell? ⟨w.heap.size + 1, 0, none⟩ = some (.int .i64 p.frm) := F1.cell rfl
      have x11 : (w6.setCell ⟨w.heap.size + 1, 2, none⟩ (.slice da' D dc')).cell? ⟨w.heap.size + 1, 1, none⟩ = some (.int .i64 p.to) := F1.cell rfl
      have x12 : (w6.setCell ⟨w.heap.size + 1, 2, none⟩ (.slice da' D dc')).cell? ⟨w.heap.size + 1, 2, none⟩ = some (.slice da' D dc') := F1.cell rfl
      have hvd7 : BytesAt (w6.setCell ⟨w.heap.size + 1, 2, none⟩ (.slice da' D dc')) w6.heap.size (.slice da' D dc') p.data := hvd.apart (HU1.out.below hb36 (by omega)) _
      have hS7 : SlB (w6.setCell ⟨w.heap.size + 1, 2, none⟩ (.slice da' D dc')) (w.heap.size + 1 + 1) := fun o v hv => (HS2.out.below hb36 (by omega)) o v ((cell_apart (by omega) _).symm.trans hv)
      have hw7 : Below w.heap.size w (w6.setCell ⟨w.heap.size + 1, 2, none⟩ (.slice da' D dc')) := hw6.setCell (p := ⟨w.heap.size + 1, 2, none⟩) (by show w.heap.size ≤ w.heap.size + 1; omega) _
      obtain ⟨w7, hW7⟩ : ∃ w7, w6.setCell ⟨w.heap.size + 1, 2, none⟩ (.slice da' D dc') = w7 := ⟨_, rfl⟩
      have hz7 : w7.heap.size = w6.heap.size := by rw [← hW7]; simp
      rw [hW7] at F2 hvd7 hS7 hw7
      have HW7 := Lib.hid hW7
      have HWB7 := Lib.hid hw7
      have HF2 := Lib.hid F2
      have HS7 := Lib.hid hS7
      have HVD : Hid (PkAt w7 w7.heap.size (.agg #[.int .i64 p.frm, .int .i64 p.to, .slice da' D dc']) p) := Lib.hid ⟨HIN.out, _, rfl, by rw [hz7]; exact hvd7⟩
      clear hvd hb6 hb36 hw6 E0 E1 E2 F0 F1 F2 hvd7 hS7 hw7 hW7 e12
      go_wp2_with fail
      rw [HW7.out]
      refine (HENQ2.out w7 HWB7.out _ HVD.out).mono ?_
      rintro e w8 ⟨v', rfl, hsep, hb8⟩
      have hs8 := hb8.size
      obtain ⟨qa', qc', aa', ac', rfl⟩ := hsep.shape
      have hnt := hsep.nt hb8.size
      obtain ⟨L1, hL1⟩ : ∃ x, nn.q.length = x := ⟨_, rfl⟩
      obtain ⟨L2, hL2⟩ : ∃ x, nn.ap.length = x := ⟨_, rfl⟩
      rw [hL1, hL2] at hnt ⊢
      have hw8 : Below w.heap.size w w8 := HWB7.out.trans (hb8.mono HWB7.out.size)
      have B2 : Arr w8 (w.heap.size + 1 + 1) [.slice none 0 0, .slice none 0 0] := HF2.out.below hb8 (by omega)
      have S8 : SlB w8 (w.heap.size + 1 + 1) := HS7.out.below hb8 (by omega)
      have e20 : w8.cell? ⟨w.heap.size + 1 + 1, 0, none⟩ = some (.slice none 0 0) := B2.cell rfl
      have e21 : w8.cell? ⟨w.heap.size + 1 + 1, 1, none⟩ = some (.slice none 0 0) := B2.cell rfl
      have f20 : w8.frozen? ⟨w.heap.size + 1 + 1, 0, none⟩ = false := B2.frozen (by simp)
      have f21 : w8.frozen? ⟨w.heap.size + 1 + 1, 1, none⟩ = false := B2.frozen (by simp)
      obtain ⟨WF, hWF⟩ : ∃ WF, (w8.setCell ⟨w.heap.size + 1 + 1, 0, none⟩ (.slice qa' L1 qc')).setCell ⟨w.heap.size + 1 + 1, 1, none⟩ (.slice aa' L2 ac') = WF := ⟨_, rfl⟩
      have C2 : Arr WF (w.heap.size + 1 + 1) [.slice qa' L1 qc', .slice aa' L2 ac'] := by rw [← hWF]; exact (B2.set 0 _).set 1 _
      have r0 : WF.cell? ⟨w.heap.size + 1 + 1, 0, none⟩ = some (.slice qa' L1 qc') := C2.cell rfl
      have r1 : WF.cell? ⟨w.heap.size + 1 + 1, 1, none⟩ = some (.slice aa' L2 ac') := C2.cell rfl
      have HFF : Hid (NtAt WF WF.heap.size (.agg #[.slice qa' L1 qc', .slice aa' L2 ac']) nn) := Lib.hid (by
        have hz : WF.heap.size = w8.heap.size := by rw [← hWF]; simp
        rw [hz, ← hWF]
        exact (hnt.apart S8 _).apart (S8.set e20 _ _ _) _)
      have HBF : Hid (Below w.heap.size w WF) := Lib.hid (by rw [← hWF]; exact (hw8.setCell (p := ⟨w.heap.size + 1 + 1, 0, none⟩) (by show w.heap.size ≤ w.heap.size + 1 + 1; omega) _).setCell (p := ⟨w.heap.size + 1 + 1, 1, none⟩) (by show w.heap.size ≤ w.heap.size + 1 + 1; omega) _)
      have HWF := Lib.hid hWF
      clear hsep hnt hb8 hw8 B2 S8 C2 hWF hL1 hL2 x00 x01 x10 x11 x12
      go_wp2
      rw [HWF.out]
      refine bodyPost_ret (v := .tuple #[.agg #[.slice qa' L1 qc', .slice aa' L2 ac'], .int .i64 ec]) (by simp [results, Try.results11, go_sem, r0, r1]) rfl ⟨_, rfl, HFF.out, HBF.out⟩
end Go.Proofs.Ytjancbjjeemedaa
