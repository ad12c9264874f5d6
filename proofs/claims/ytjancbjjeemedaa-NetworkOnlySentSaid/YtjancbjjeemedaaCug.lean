/- Cut of two parties. -/
import Derived.Test.YtjancbjjeemedaaSrt
import Derived.Test.YtjancbjjeemedaaBsf
import Derived.Test.YtjancbjjeemedaaInt
import Derived.Test.YtjancbjjeemedaaSend
namespace Go.Proofs.Ytjancbjjeemedaa
open Go.RowKit Go.Shelf
attribute [local go_sem] Oper.semAt_some

/-- What the loop over the other links keeps: the row of pairs in block g. -/
def CInv (g : Nat) (w8 : World) (pre : List (Int × Int)) (W : World) : Prop :=
  Bt g w8.heap.size w8 W ∧ ∃ (a : Option Addr) (c : Nat), Arr W g [.slice a pre.length c] ∧ RA w8.heap.size W a pre.length c pre
theorem RA.moved {B0 : Nat} {W W' : World} {ra : Option Addr} {n rc : Nat} {l : List (Int × Int)} (h : RA B0 W ra n rc l) {row : Option Nat} (hg : W.grownBy W' row) (hr : ∀ r, row = some r → ∃ o : Obj, W.heap[r]? = some o ∧ o.isCells = false) : RA B0 W' ra n rc l := by
  rcases h.2 with e | ⟨g, e1, e2, e3⟩
  · exact ⟨h.1, .inl e⟩
  · refine ⟨h.1, .inr ⟨g, e1, e2, e3.kept hg fun e => ?_⟩⟩
    obtain ⟨o, ho, hc⟩ := hr g e.symm
    obtain ⟨C, hC, _⟩ := e3.obj
    rw [hC] at ho; cases ho; cases hc
theorem Arr.moved {W W' : World} {g : Nat} {cs : List Value} (h : Arr W g cs) (hl : 0 < cs.length) {row : Option Nat} (hg : W.grownBy W' row) (hr : ∀ r, row = some r → ∃ o : Obj, W.heap[r]? = some o ∧ o.isCells = false) : Arr W' g cs := by
  have hne : some g ≠ row := fun e => by
    obtain ⟨o, ho, hc⟩ := hr g e.symm
    have := h.there 0 hl
    have h1 := this.1
    unfold World.cell? at h1
    rw [ho] at h1
    cases o <;> simp_all [Obj.isCells]
  have hb := hg.block g (h.lt hl) hne
  exact ⟨fun j v hv => (World.cell?_of_block (a := ⟨g, 0 + j, none⟩) hb).trans (h.at_ j v hv), fun j hj => ⟨by rw [World.cell?_of_block (a := ⟨g, 0 + j, none⟩) hb]; exact (h.there j hj).1, by have := (h.there j hj).2; unfold World.frozen? at this ⊢; rw [hb]; exact this⟩⟩
theorem cinv_own {g : Nat} {w8 : World} : OwnFrom w8.heap.size (CInv g w8) := by
  rintro pre W W' row ⟨h1, a, c, h2, h3⟩ hg hr
  refine ⟨⟨hg.os.trans h1.os, hg.tape.trans h1.tape, hg.output.trans h1.output, Nat.le_trans h1.size hg.size, fun i hi hne => (hg.block i (Nat.lt_of_lt_of_le hi h1.size) (fun e => by have := (hr i e.symm).1; omega)).trans (h1.block i hi hne)⟩, a, c, h2.moved (by simp) hg fun r e => (hr r e).2, h3.moved hg fun r e => (hr r e).2⟩
theorem CInv.next {g : Nat} {w8 W W' : World} {pre : List (Int × Int)} (h : CInv g w8 pre W) (hg8 : g < w8.heap.size) (hb : Below W.heap.size W W') : CInv g w8 pre W' := by
  obtain ⟨h1, a, c, h2, h3⟩ := h
  exact ⟨h1.trans (Bt.of (hb.mono h1.size)), a, c, h2.below hb (Nat.lt_of_lt_of_le hg8 h1.size), h3.next hb⟩
theorem AAt.put {W : World} {B D : Nat} {x : List Deferred} {v : Value} {l : List (Int × Int)} (h : AAt W B v l) (hK : W.heap[D]? = some (.deferred (some x))) : AAt (W.putObj D (.deferred none)) B v l := by
  obtain ⟨a, c, rfl, h1, h2, h3⟩ := h
  refine ⟨a, c, rfl, h1, h2, h3.imp id ?_⟩
  rintro ⟨b, off, rfl, hb, hi⟩
  exact ⟨b, off, rfl, hb, fun i h => ⟨(hi i h).1, cell_kept (hi i h).2.1 (grownBy_putObj' _ _ _) (fun r e => by cases e; exact ⟨_, hK, rfl⟩), cell_kept (hi i h).2.2 (grownBy_putObj' _ _ _) (fun r e => by cases e; exact ⟨_, hK, rfl⟩)⟩⟩
theorem AAt.far {W : World} {B g i b0 o0 n c : Nat} {l : List (Int × Int)} (h : AAt W B (.slice (some ⟨b0, o0, none⟩) n c) l) (hg : b0 ≠ g) (u : Value) : AAt (W.setCell ⟨g, i, none⟩ u) B (.slice (some ⟨b0, o0, none⟩) n c) l := by
  obtain ⟨a, c', h0, h1, h2, h3⟩ := h
  injection h0 with ha hn hc
  refine ⟨a, c', by rw [ha, hn, hc], h1, h2, h3.imp id ?_⟩
  rintro ⟨b, off, rfl, hb, hi⟩
  injection ha with ha
  injection ha with ha
  subst ha
  exact ⟨b0, off, rfl, hb, fun i h => ⟨(hi i h).1, (cell_apart hg u).trans (hi i h).2.1, (cell_apart hg u).trans (hi i h).2.2⟩⟩


theorem gset {W : World} {b : Nat} (i : Nat) (v : Value) : W.grownBy (W.setCell ⟨b, i, none⟩ v) (some b) :=
  ⟨rfl, rfl, rfl, by simp [World.setCell], fun k _ hne => Below.heap_setCell _ _ _ _ (by first | exact fun e => hne (congrArg some e) | exact fun e => hne (congrArg some e.symm))⟩
theorem cut_fin {w W : World} {B0 D N qc K rc M ac : Nat} {qa ra aa : Option Addr} {q : List Pk} {os : List (Int × Int)} (hq : QAt w w.heap.size (.slice qa N qc) q) (hwW : Below w.heap.size w W) (_hA0 : Arr W w.heap.size [.slice qa N qc, .slice aa M ac]) (hA1 : Arr W (w.heap.size + 1) [.slice none 0 0, .slice none 0 0])
    (hR : RA B0 W ra K rc os) (h64 : ∀ p ∈ os, In64 p.1 ∧ In64 p.2) (hB0 : w.heap.size + 1 < B0) (hD : B0 ≤ D) (hK : W.heap[D]? = some (.deferred (some []))) :
    ∃ WF, ((W.setCell ⟨w.heap.size, 1, none⟩ (.slice ra K rc)).setCell ⟨w.heap.size + 1, 0, none⟩ (.slice qa N qc)).setCell ⟨w.heap.size + 1, 1, none⟩ (.slice ra K rc) = WF ∧ WF.heap[D]? = some (.deferred (some [])) ∧
      (WF.putObj D (.deferred none)).cell? ⟨w.heap.size + 1, 0, none⟩ = some (.slice qa N qc) ∧ (WF.putObj D (.deferred none)).cell? ⟨w.heap.size + 1, 1, none⟩ = some (.slice ra K rc) ∧
      NtAt (WF.putObj D (.deferred none)) (WF.putObj D (.deferred none)).heap.size (.agg #[.slice qa N qc, .slice ra K rc]) ⟨q, os⟩ ∧ Below w.heap.size w (WF.putObj D (.deferred none)) := by
  refine ⟨_, rfl, ?_⟩
  obtain ⟨WF, hWF⟩ : ∃ WF, ((W.setCell ⟨w.heap.size, 1, none⟩ (.slice ra K rc)).setCell ⟨w.heap.size + 1, 0, none⟩ (.slice qa N qc)).setCell ⟨w.heap.size + 1, 1, none⟩ (.slice ra K rc) = WF := ⟨_, rfl⟩
  have hKF : WF.heap[D]? = some (.deferred (some [])) := by
    rw [← hWF]
    exact (KeepsOthers.setCell _ _ _).same D _ ((KeepsOthers.setCell _ _ _).same D _ ((KeepsOthers.setCell _ _ _).same D _ hK rfl) rfl) rfl
  have hRF : RA B0 WF ra K rc os := by
    rw [← hWF]
    exact ((hR.kept (gset 1 _) (by omega)).kept (gset 0 _) (by omega)).kept (gset 1 _) (by omega)
  have hAF : Arr WF (w.heap.size + 1) [.slice qa N qc, .slice ra K rc] := by
    rw [← hWF]
    exact (((hA1.other (b' := w.heap.size) (by omega) 1 _).set 0 _).set 1 _)
  have hBF : Below w.heap.size w WF := by
    rw [← hWF]
    exact ((hwW.setCell (p := ⟨w.heap.size, 1, none⟩) (Nat.le_refl _) _).setCell (p := ⟨w.heap.size + 1, 0, none⟩) (by show w.heap.size ≤ w.heap.size + 1; omega) _).setCell (p := ⟨w.heap.size + 1, 1, none⟩) (by show w.heap.size ≤ w.heap.size + 1; omega) _
  rw [hWF]
  have hlt : D < WF.heap.size := (Array.getElem?_eq_some_iff.1 hKF).1
  have hP : Below B0 WF (WF.putObj D (.deferred none)) := (Below.refl B0 WF).grown (grownBy_putObj' WF D _) (by omega) (fun k e => by cases e; omega)
  have hBP := hBF.trans (hP.mono (by omega))
  have hRP := (hRF.moved (grownBy_putObj' WF D (.deferred none)) (fun r e => by cases e; exact ⟨_, hKF, rfl⟩)).row h64
  refine ⟨hKF, ?_, ?_, ⟨_, _, rfl, (hq.below hBP).mono hBP.size, hRP⟩, hBP⟩
  · exact (hP.cell (p := ⟨w.heap.size + 1, 0, none⟩) (by show w.heap.size + 1 < _; omega)).trans (hAF.cell rfl)
  · exact (hP.cell (p := ⟨w.heap.size + 1, 1, none⟩) (by show w.heap.size + 1 < _; omega)).trans (hAF.cell rfl)
theorem wpListIn_append_run2 {F : Fence} {n : Nat} {P : Program} {w : World} {ops : Array Oper} {rest : List Oper} {o : Oper} {a : Act} {Q : Exit → Act → World → Prop} (hg : o.guard = none) (s x : Operand) (t tx : TypeId)
    (hop : o.op = Op.call { callee := Callee.builtin Builtin.append, args := #[s, x], argTypes := #[t, tx] }) (va vb v : Value) (w' : World) (hs : a.eval s = va) (hx : a.eval x = vb)
    (hrun : (Builtin.append_ #[t, tx] o.type #[va, vb]).run P w = .ok v w') (h : wpListIn F n P ops Q rest (a.put o.dst v) w') : wpListIn F n P ops Q (o :: rest) a w := by
  refine wpListIn_plain hg fun K hK' => ?_
  unfold Oper.wpIn
  refine ⟨?_, ?_⟩
  · simp [Oper.about, hop, resolve, Target.leads, Sem.run_pure]
  · rw [Oper.semAt_plain F _ _ (by rw [hop]; intro c hc'; cases hc')]
    simp [execOp, hop, resolve, invoke, builtin, hs, hx, hrun, Result.andThen]
    exact hK' _ _ h
theorem Bt.arr {g n₀ : Nat} {W W' : World} (h : Bt g n₀ W W') {b : Nat} {cs : List Value} (ha : Arr W b cs) (hb : b < n₀) (hne : b ≠ g) : Arr W' b cs := by
  have hbl := h.block b hb hne
  exact ⟨fun j v hv => (World.cell?_of_block (a := ⟨b, 0 + j, none⟩) hbl).trans (ha.at_ j v hv), fun j hj => ⟨by rw [World.cell?_of_block (a := ⟨b, 0 + j, none⟩) hbl]; exact (ha.there j hj).1, by have := (ha.there j hj).2; unfold World.frozen? at this ⊢; rw [hbl]; exact this⟩⟩

theorem others_any2 (w : World) (a : Option Addr) (len cap : Nat) (x y : Int) : Calls Try.prog 37 #[.slice a len cap, .agg #[.int .i64 x, .int .i64 y]] w fun e w' =>
    e = .returned (.func (.func 48) #[] #[.pointer (some ⟨w.heap.size, 0, none⟩), .pointer (some ⟨w.heap.size + 1, 0, none⟩)]) ∧ w'.cell? ⟨w.heap.size, 0, none⟩ = some (.slice a len cap) ∧ w'.cell? ⟨w.heap.size + 1, 0, none⟩ = some (.int .i64 x) ∧ w'.cell? ⟨w.heap.size + 1, 1, none⟩ = some (.int .i64 y) ∧ Below w.heap.size w w' ∧ w'.heap.size = w.heap.size + 2 := by
  go_enter Try.func37, Try.ntmps37
  go_wp2
  go_ret
  exact ⟨rfl, by go_cell, by go_cell, by go_cell, by go_grown, by simp⟩

set_option maxRecDepth 100000 in
set_option maxHeartbeats 16000000 in
theorem cut_any (w : World) (v : Value) (n : Nt) (h : NtAt w w.heap.size v n) (hok : n.ok = true) (a b : Int) (hab : okPair a b = true) (hl : n.ap.length ≤ 900) (on : Bool) :
    Calls Try.prog 18 #[v, .int .i64 a, .int .i64 b, .bool on] w fun e w' => ∃ v', e = .returned (.tuple #[v', .int .i64 0]) ∧ NtAt w' w'.heap.size v' (n.cut (lo2 a b, hi2 a b) on) ∧ Below w.heap.size w w' := by
  have H := Lib.hid h
  have hpw := oth_pw (p := (lo2 a b, hi2 a b)) (okA_pw (by unfold Nt.ok at hok; rw [Bool.and_eq_true] at hok; exact hok.2)).1
  have hin : In64 (lo2 a b) ∧ In64 (hi2 a b) := by
    rw [okPair_iff] at hab
    unfold lo2 hi2 In64
    split <;> omega
  unfold Nt.cut
  obtain ⟨qa, qc, aa, ac, rfl, l1, l2, l3, l4, hq, ha⟩ := h.open
  have HQ := Lib.hid hq
  have HAP := Lib.hid ha
  obtain ⟨N, hN⟩ : ∃ x, n.q.length = x := ⟨_, rfl⟩
  have HN := Lib.hid hN
  rw [hN] at H HQ ⊢
  obtain ⟨M, hM⟩ : ∃ x, n.ap.length = x := ⟨_, rfl⟩
  have HM := Lib.hid hM
  rw [hM] at H HAP hl ⊢
  have hck := fun W (hW : Below w.heap.size w W) => chk_any W _ n (H.out.next hW)
  rw [hok, if_pos rfl] at hck
  have hpa := fun W => par_any W a b
  rw [hab] at hpa
  have hlk := fun W => link_any W a b
  obtain ⟨lo, hlo⟩ : ∃ x, lo2 a b = x := ⟨_, rfl⟩
  obtain ⟨hh, hhi⟩ : ∃ x, hi2 a b = x := ⟨_, rfl⟩
  rw [hlo, hhi] at hlk hin hpw ⊢
  have hol : (oth (lo, hh) n.ap).length ≤ 900 := by have := oth_le (lo, hh) n.ap; omega
  obtain ⟨os, hos⟩ : ∃ x, oth (lo, hh) n.ap = x := ⟨_, rfl⟩
  rw [hos] at hpw hol ⊢
  have HOS := Lib.hid hos
  have HPW := Lib.hid hpw
  have HOL := Lib.hid hol
  have HCK := Lib.hid hck
  have HPA := Lib.hid hpa
  have HLK := Lib.hid hlk
  have HIN := Lib.hid hin
  clear h hok hab hq ha hN hM hck hpa hlk hlo hhi hin hpw hol hos
  refine (callsIn_wide (n := 9)).1 ?_
  refine callsIn_of_wp_marks Try.func18 rfl trivial ?_ rfl
  simp only [Try.ntmps18, List.size_toArray, List.length_cons, List.length_nil, Nat.reduceAdd, Nat.reduceSub, Array.replicate_succ, Array.replicate_zero, List.push_toArray, List.append_toArray, List.nil_append, List.cons_append]
  obtain ⟨X0, hX0⟩ : ∃ X, X = w.alloc (Obj.cells #[.slice qa N qc, .slice aa M ac] 25) := ⟨_, rfl⟩
  obtain ⟨w3, hw3⟩ : ∃ X, X = X0.alloc (Obj.cells #[.slice none 0 0, .slice none 0 0] 25) := ⟨_, rfl⟩
  have hz0 : X0.heap.size = w.heap.size + 1 := by rw [hX0, World.size_alloc]
  have hz3 : w3.heap.size = w.heap.size + 1 + 1 := by rw [hw3, World.size_alloc, hz0]
  have hb3 : Below w.heap.size w w3 := by rw [hw3, hX0]; go_grown
  have A0 : Arr w3 w.heap.size [.slice qa N qc, .slice aa M ac] := by
    have h1 : Arr X0 w.heap.size [.slice qa N qc, .slice aa M ac] := by rw [hX0]; exact Arr.new w #[.slice qa N qc, .slice aa M ac] 25
    rw [hw3]
    exact h1.alloc (by omega) _
  have A1 : Arr w3 (w.heap.size + 1) [.slice none 0 0, .slice none 0 0] := by
    rw [hw3, ← hz0]; exact Arr.new X0 #[.slice none 0 0, .slice none 0 0] 25
  have HW3 : Hid ((w.alloc (Obj.cells #[.slice qa N qc, .slice aa M ac] 25)).alloc (Obj.cells #[.slice none 0 0, .slice none 0 0] 25) = w3) := Lib.hid (by rw [hw3, hX0])
  have HA0 := Lib.hid A0
  have HA1 := Lib.hid A1
  have HB3 := Lib.hid hb3
  clear hX0 hw3 hz0 hb3 A0 A1
  gi_wp2_with fail
  rw [HW3.out]
  refine ⟨trivial, ?_⟩
  refine (callsIn_wide.2 (HCK.out w3 HB3.out)).mono ?_
  rintro e w4 ⟨rfl, hb4⟩
  have HB4 := Lib.hid hb4
  clear hb4
  gi_wp2_with fail
  refine ⟨trivial, ?_⟩
  refine (callsIn_wide.2 (HPA.out w4)).mono ?_
  rintro e w4 ⟨rfl, rfl⟩
  gi_wp2_with fail
  refine ⟨trivial, ?_⟩
  refine (callsIn_wide.2 (HLK.out w4)).mono ?_
  rintro e w5 ⟨rfl, hb5⟩
  have h35 : Below w3.heap.size w3 w5 := HB4.out.trans (hb5.mono HB4.out.size)
  have hs35 := h35.size
  obtain ⟨w6, hw6⟩ : ∃ X, X = w5.alloc (Obj.cells #[.int .i64 lo, .int .i64 hh] 55) := ⟨_, rfl⟩
  obtain ⟨w7, hw7⟩ : ∃ X, X = w6.alloc (Obj.cells #[.slice none 0 0] 23) := ⟨_, rfl⟩
  have hz6 : w6.heap.size = w5.heap.size + 1 := by rw [hw6, World.size_alloc]
  have hz7 : w7.heap.size = w5.heap.size + 1 + 1 := by rw [hw7, World.size_alloc, hz6]
  have h57 : Below w5.heap.size w5 w7 := by rw [hw7, hw6]; go_grown
  have A2 : Arr w7 w5.heap.size [.int .i64 lo, .int .i64 hh] := by
    have h1 : Arr w6 w5.heap.size [.int .i64 lo, .int .i64 hh] := by rw [hw6]; exact Arr.new w5 #[.int .i64 lo, .int .i64 hh] 55
    rw [hw7]
    exact h1.alloc (by omega) _
  have A3 : Arr w7 (w5.heap.size + 1) [.slice none 0 0] := by
    rw [hw7, ← hz6]; exact Arr.new w6 #[.slice none 0 0] 23
  have h37 : Below w3.heap.size w3 w7 := h35.trans (h57.mono hs35)
  have B0 : Arr w7 w.heap.size [.slice qa N qc, .slice aa M ac] := HA0.out.below h37 (by omega)
  have B1 : Arr w7 (w.heap.size + 1) [.slice none 0 0, .slice none 0 0] := HA1.out.below h37 (by omega)
  have HW7 : Hid ((w5.alloc (Obj.cells #[.int .i64 lo, .int .i64 hh] 55)).alloc (Obj.cells #[.slice none 0 0] 23) = w7) := Lib.hid (by rw [hw7, hw6])
  have c01 : w7.cell? ⟨w.heap.size, 1, none⟩ = some (.slice aa M ac) := B0.cell rfl
  have c20 : w7.cell? ⟨w5.heap.size, 0, none⟩ = some (.int .i64 lo) := A2.cell rfl
  have c21 : w7.cell? ⟨w5.heap.size, 1, none⟩ = some (.int .i64 hh) := A2.cell rfl
  have d01 : ((w5.alloc (Obj.cells #[.int .i64 lo, .int .i64 hh] 55)).alloc (Obj.cells #[.slice none 0 0] 23)).cell? ⟨w.heap.size, 1, none⟩ = some (.slice aa M ac) := by rw [HW7.out]; exact c01
  have HB0 := Lib.hid B0
  have HB1 := Lib.hid B1
  have HA2 := Lib.hid A2
  have HA3 := Lib.hid A3
  have H37 := Lib.hid h37
  have HB7 : Hid (Below w.heap.size w w7) := Lib.hid (HB3.out.trans (h37.mono HB3.out.size))
  clear hb5 h35 hw6 hw7 h57 A2 A3 h37 B0 B1 hz6
  gi_wp2_with fail
  rw [HW7.out]
  refine ⟨trivial, ?_⟩
  refine (callsIn_wide.2 (others_any2 w7 aa M ac lo hh)).mono ?_
  rintro e w8 ⟨rfl, hs8, hc8, hc8', hb8, hz8⟩
  have HB8 := Lib.hid hb8
  have HS8 := Lib.hid hs8
  have HC8 := Lib.hid (And.intro hc8 hc8')
  obtain ⟨g2, hg2⟩ : ∃ g, w5.heap.size = g := ⟨_, rfl⟩
  obtain ⟨g4, hg4⟩ : ∃ g, w7.heap.size = g := ⟨_, rfl⟩
  have HG2 := Lib.hid hg2
  have HG4 := Lib.hid hg4
  rw [hg2] at HA2 HA3 hz7 hs35
  rw [hg4] at HS8 HC8 hz8 hz7
  have hw7s := HB7.out.size
  clear hb8 hs8 hc8 hc8' c01 c20 c21 d01 hg2 hg4
  gi_wp2_with fail
  rw [HG2.out, HG4.out]
  have h78 : Below w7.heap.size w7 w8 := HB8.out
  have hg47 := HG4.out
  have C30 : Arr w8 (g2 + 1) [.slice none 0 0] := HA3.out.below h78 (by omega)
  have hI0 : CInv (g2 + 1) w8 [] w8 := ⟨Bt.refl _ _ _, none, 0, C30, RA.nil _ _⟩
  have HI0 := Lib.hid hI0
  have hap8 : AAt w8 w.heap.size (.slice aa M ac) n.ap := HAP.out.below (HB7.out.trans (HB8.out.mono HB7.out.size))
  have HAP8 := Lib.hid hap8
  clear C30 hI0 hap8 h78
  refine wpIn_rangeFunc_ownH rfl (by omega) (gf := 48) (lb := #[.pointer (some ⟨g4, 0, none⟩), .pointer (some ⟨g4 + 1, 0, none⟩)]) rfl trivial (enters_of Try.func48 (by kernel_rfl) rfl)
    (oth_seq 8 (by omega) g4 (g4 + 1) (g2 + 1) w8.heap.size w.heap.size M ac aa n.ap (lo, hh) HM.out (by omega) l4 ⟨by omega, by omega⟩ ⟨by omega, by omega⟩ ⟨by omega, by omega⟩ w8 (Nat.le_refl _) HS8.out HC8.out.1 HC8.out.2 HAP8.out)
    Bt.trans (bt_b (Nat.le_refl _)) (Below.refl _ _) (fun _ => rfl)
    (CInv (g2 + 1) w8) (fun _ _ _ => False) cinv_own (fun _ => by rintro _ _ _ _ h; exact absurd h id) HI0.out
    (fun x a' W => ∃ g', a' = { tmps := #[.agg #[.slice qa N qc, .slice aa M ac], .int .i64 a, .int .i64 b, .bool on, .pointer (some ⟨w.heap.size, 0, none⟩), undef, undef, undef, .pointer (some ⟨w.heap.size + 1, 0, none⟩), .int .i64 0, .pointer (some ⟨g2, 0, none⟩), .pointer (some ⟨g2 + 1, 0, none⟩), .pointer (some ⟨g', 0, none⟩), undef, undef, .agg #[.slice qa N qc, .slice aa M ac], .int .i64 0, .int .i64 0, .bool false, undef, undef, .int .i64 a, .int .i64 b, .bool true, .bool false, undef, .int .i64 a, .int .i64 b, .agg #[.int .i64 lo, .int .i64 hh], .pointer (some ⟨w.heap.size, 1, none⟩), .slice aa M ac, .agg #[.int .i64 lo, .int .i64 hh], .func (.func 48) #[] #[.pointer (some ⟨g2 + 1 + 1, 0, none⟩), .pointer (some ⟨g2 + 1 + 1 + 1, 0, none⟩)], .agg #[.int .i64 x.1, .int .i64 x.2], undef, undef, undef, undef, undef, undef, undef, undef, undef, undef, undef, undef, undef, undef, undef, undef, undef, undef, undef], defers := [] } ∧ W.cell? ⟨g', 0, none⟩ = some (.int .i64 x.1) ∧ W.cell? ⟨g', 1, none⟩ = some (.int .i64 x.2)) ?hax ?assign ?body ?done ?stop
  case hax =>
    rintro x a' u W W' row ⟨g', h1, h2, h3⟩ hg hr
    exact ⟨g', h1, cell_kept h2 hg (fun r e => (hr r e).2), cell_kept h3 hg (fun r e => (hr r e).2)⟩
  case assign =>
    intro l pre x W K hI hK
    have HI := Lib.hid hI
    have HKK := Lib.hid hK
    clear hI hK
    unfold pairV
    gi_wp2
    have hsz := HI.out.1.size
    exact HKK.out _ _ ((KeepsOthers.alloc W _).from _) (Bt.of ((Below.refl _ _).alloc hsz _)) (HI.out.next (by omega) ((Below.refl _ _).alloc (Nat.le_refl _) _)) ⟨W.heap.size, rfl, by go_cell, by go_cell⟩
  case body =>
    rintro l pre x a' W _ _ hI ⟨g', rfl, e0, e1⟩ hlen
    obtain ⟨h1, ra, rc, h2, h3⟩ := hI
    have hsW := h1.size
    obtain ⟨K, hK⟩ : ∃ K, pre.length = K := ⟨_, rfl⟩
    rw [hK] at h2 h3 hlen
    have c11 : W.cell? ⟨g2 + 1, 0, none⟩ = some (.slice ra K rc) := h2.cell rfl
    obtain ⟨W1, hW1⟩ : ∃ W1, W.alloc (.cells #[.int .i64 x.1, .int .i64 x.2] 55) = W1 := ⟨_, rfl⟩
    have hb1 : Below W.heap.size W W1 := by rw [← hW1]; go_grown
    have hA5 : Arr W1 W.heap.size [.int .i64 x.1, .int .i64 x.2] := by rw [← hW1]; exact Arr.new W #[.int .i64 x.1, .int .i64 x.2] 55
    obtain ⟨ra2, rc2, W2, hrun, hR2, hb2, hk2⟩ := (h3.next hb1).push (Nat.le_trans hsW hb1.size) W.heap.size 1 x (hA5.cell rfl) (hA5.cell rfl) (by omega)
    have hA6 : Arr W2 (g2 + 1) [.slice ra K rc] := (h2.below hb1 (by omega)).below hb2 (by omega)
    have c12 : W2.cell? ⟨g2 + 1, 0, none⟩ = some (.slice ra K rc) := hA6.cell rfl
    have f12 : W2.frozen? ⟨g2 + 1, 0, none⟩ = false := hA6.frozen (by simp)
    have hs2 := hb2.size
    have hs1 := hb1.size
    have HFIN : Hid (KeepsFrom w8.heap.size W (W2.setCell ⟨g2 + 1, 0, none⟩ (.slice ra2 (K + 1) rc2)) ∧ Bt (g2 + 1) w8.heap.size W (W2.setCell ⟨g2 + 1, 0, none⟩ (.slice ra2 (K + 1) rc2)) ∧ CInv (g2 + 1) w8 (pre ++ [x]) (W2.setCell ⟨g2 + 1, 0, none⟩ (.slice ra2 (K + 1) rc2))) := Lib.hid (by
      have hbt : Bt (g2 + 1) w8.heap.size W (W2.setCell ⟨g2 + 1, 0, none⟩ (.slice ra2 (K + 1) rc2)) := ((Bt.of (hb1.mono hsW)).trans (Bt.of hb2)).set 0 _
      refine ⟨⟨by simp; omega, fun k o hk h hc => (KeepsOthers.setCell _ _ _).same k o (hk2 k o ((KK.of hb1) k o h hc) hc) hc⟩, hbt, h1.trans hbt, ra2, rc2, ?_, ?_⟩
      · have := hA6.set 0 (.slice ra2 (K + 1) rc2)
        rw [List.length_append, hK]; exact this
      · have := hR2.kept (gset (W := W2) (b := g2 + 1) 0 (.slice ra2 (K + 1) rc2)) (by omega)
        rw [List.length_append, hK]; exact this)
    have HRUN := Lib.hid hrun
    have HW1 := Lib.hid hW1
    clear h1 h2 h3 hK hW1 hb1 hA5 hrun hR2 hb2 hk2 hA6
    gi_wp2_with (gi_at_builtin; rw [HW1.out]; refine wpListIn_append_run2 rfl (.tmp 34) (.tmp 36) 23 23 rfl _ _ _ _ (by rfl) (by rfl) HRUN.out ?_)
    exact HFIN.out
  case stop =>
    intro D c pre W _ _ hf
    exact absurd hf id
  case done =>
    rintro D ys W hD hys hI hK
    rw [HOS.out] at hys
    have hys2 := hys.symm
    clear hys
    subst hys2
    have hD : w8.heap.size ≤ D := hD
    obtain ⟨hbt, ra, rc, hA3, hRA⟩ := hI
    have hg4 := HG4.out
    have hsW := hbt.size
    have hol := HOL.out
    have hos64 : ∀ p ∈ os, In64 p.1 ∧ In64 p.2 := fun p hp => by
      have := (oth_mem (p := (lo, hh)) (l := n.ap)).1 (by rw [HOS.out]; exact hp)
      obtain ⟨i, hi, rfl⟩ := List.getElem_of_mem this.1
      obtain ⟨_, _, _, _, h64, _⟩ := HAP.out.got i hi
      exact h64
    have hpw := HPW.out
    obtain ⟨K, hKl⟩ : ∃ K, os.length = K := ⟨_, rfl⟩
    rw [hKl] at hA3 hRA hol
    have hDW : D < W.heap.size := (Array.getElem?_eq_some_iff.1 hK).1
    have h8W : Below w.heap.size w8 W := hbt.below (by omega) (by omega)
    have hwW : Below w.heap.size w W := (HB7.out.trans (HB8.out.mono HB7.out.size)).trans h8W
    have b0 : Arr w8 w.heap.size [.slice qa N qc, .slice aa M ac] := HB0.out.below HB8.out (by omega)
    have b1 : Arr w8 (w.heap.size + 1) [.slice none 0 0, .slice none 0 0] := HB1.out.below HB8.out (by omega)
    have b2 : Arr w8 g2 [.int .i64 lo, .int .i64 hh] := HA2.out.below HB8.out (by omega)
    have B0 := hbt.arr b0 (by omega) (by omega)
    have B1 := hbt.arr b1 (by omega) (by omega)
    have B2 := hbt.arr b2 (by omega) (by omega)
    have c30 : W.cell? ⟨g2 + 1, 0, none⟩ = some (.slice ra K rc) := hA3.cell rfl
    have c20 : W.cell? ⟨g2, 0, none⟩ = some (.int .i64 lo) := B2.cell rfl
    have c21 : W.cell? ⟨g2, 1, none⟩ = some (.int .i64 hh) := B2.cell rfl
    have HB0W := Lib.hid B0
    have HB1W := Lib.hid B1
    have HB2W := Lib.hid B2
    have HA3W := Lib.hid hA3
    have HRA := Lib.hid hRA
    have HK := Lib.hid hK
    have HWW := Lib.hid hwW
    have HO64 := Lib.hid hos64
    have HPWO := Lib.hid hpw
    have HKL := Lib.hid hKl
    clear hbt hA3 hRA hos64 hKl hpw b0 b1 b2 B0 B1 B2 h8W hwW hK
    cases on with
    | false =>
      have g01 : W.frozen? ⟨w.heap.size, 1, none⟩ = false := HB0W.out.frozen (by simp)
      have g10 : W.frozen? ⟨w.heap.size + 1, 0, none⟩ = false := HB1W.out.frozen (by simp)
      have g11 : W.frozen? ⟨w.heap.size + 1, 1, none⟩ = false := HB1W.out.frozen (by simp)
      have d00 : W.cell? ⟨w.heap.size, 0, none⟩ = some (.slice qa N qc) := HB0W.out.cell rfl
      have d01 : W.cell? ⟨w.heap.size, 1, none⟩ = some (.slice aa M ac) := HB0W.out.cell rfl
      have d10 : W.cell? ⟨w.heap.size + 1, 0, none⟩ = some (.slice none 0 0) := HB1W.out.cell rfl
      have d11 : W.cell? ⟨w.heap.size + 1, 1, none⟩ = some (.slice none 0 0) := HB1W.out.cell rfl
      obtain ⟨WF, hWF, hKF, q10, q11, hNt, hBP⟩ := cut_fin HQ.out HWW.out HB0W.out HB1W.out HRA.out HO64.out (by omega) hD HK.out
      have HWF := Lib.hid hWF
      have HKF := Lib.hid hKF
      have HNT := Lib.hid hNt
      have HBP := Lib.hid hBP
      have Q10 := Lib.hid q10
      have Q11 := Lib.hid q11
      clear hWF hKF q10 q11 hNt hBP
      gi_wp2_with fail
      rw [HWF.out]
      have q10 := Q10.out
      have q11 := Q11.out
      refine ⟨by simp, .inl ⟨_, _, rfl, run_takeDeferred HKF.out, ?_⟩⟩
      exact ⟨.tuple #[.agg #[.slice qa N qc, .slice ra K rc], .int .i64 0], by simp [results, Try.results18, go_sem, q10, q11], _, rfl, HNT.out, HBP.out⟩
    | true =>
      gi_wp2_with fail
      refine ⟨trivial, ?_⟩
      refine (callsIn_wide.2 (bsf_any W ra K rc os (HRA.out.row HO64.out) (by omega) HKL.out (lo, hh) (mono_pw HPWO.out _))).mono ?_
      rintro e W1 ⟨i, f, rfl, hiK, hi1, hi2, hb1⟩
      have hs1 := hb1.size
      obtain ⟨W2, hW2⟩ : ∃ X, X = W1.alloc (Obj.cells #[.int .i64 lo, .int .i64 hh] 55) := ⟨_, rfl⟩
      have h12 : Below W1.heap.size W1 W2 := by rw [hW2]; exact (Below.refl _ _).alloc (Nat.le_refl _) _
      have hR1 := HRA.out.next hb1
      have hR2 := hR1.next h12
      have hv2 : W2.heap[W1.heap.size]? = some (.cells #[.int .i64 lo, .int .i64 hh] 55 (0, 0)) := by rw [hW2]; exact heap_alloc_new _ _
      have hne : ∀ g, ra = some ⟨g, 0, none⟩ → W1.heap.size ≠ g := fun g e => by
        rcases hR1.2 with ⟨_, _, e'⟩ | ⟨g', e', _, e3⟩
        · rw [e] at e'; cases e'
        · rw [e] at e'; injection e' with e'; injection e' with e'; have := e3.lt; omega
      have hINS := insert_any W2 w8.heap.size (by have := h12.size; omega) ra K rc os hR2 i hiK (by omega) W1.heap.size (lo, hh) hv2 hne
      rw [ins_at (lo, hh) os i (by rw [HKL.out]; exact hiK) hi1 hi2] at hINS
      have e20 : W1.cell? ⟨g2, 0, none⟩ = some (.int .i64 lo) := (hb1.cell (p := ⟨g2, 0, none⟩) (by show g2 < _; omega)).trans c20
      have e21 : W1.cell? ⟨g2, 1, none⟩ = some (.int .i64 hh) := (hb1.cell (p := ⟨g2, 1, none⟩) (by show g2 < _; omega)).trans c21
      have e30 : W1.cell? ⟨g2 + 1, 0, none⟩ = some (.slice ra K rc) := (hb1.cell (p := ⟨g2 + 1, 0, none⟩) (by show g2 + 1 < _; omega)).trans c30
      have HW2 := Lib.hid hW2
      have HINS := Lib.hid hINS
      have HB1' := Lib.hid hb1
      have H12 := Lib.hid h12
      clear hb1 hW2 h12 hR1 hR2 hv2 hne hINS hi1 hi2 c20 c21 c30
      gi_wp2_with fail
      rw [← HW2.out]
      refine ⟨trivial, ?_⟩
      refine (callsIn_wide.2 HINS.out).mono ?_
      rintro e W3 ⟨ra2, rc2, rfl, hR3, hb3, hk3⟩
      have h2s := H12.out.size
      have h13 : Below w8.heap.size W W3 := ((HB1'.out.mono hsW).trans (H12.out.mono (by omega))).trans hb3
      have hK3 : W3.heap[D]? = some (.deferred (some [])) := hk3 D _ ((H12.out.block D (by omega)).trans ((HB1'.out.block D hDW).trans HK.out)) rfl
      have C0 : Arr W3 w.heap.size [.slice qa N qc, .slice aa M ac] := HB0W.out.below h13 (by omega)
      have C1 : Arr W3 (w.heap.size + 1) [.slice none 0 0, .slice none 0 0] := HB1W.out.below h13 (by omega)
      have C3 : Arr W3 (g2 + 1) [.slice ra K rc] := HA3W.out.below h13 (by omega)
      have k30 : W3.cell? ⟨g2 + 1, 0, none⟩ = some (.slice ra K rc) := C3.cell rfl
      have f30 : W3.frozen? ⟨g2 + 1, 0, none⟩ = false := C3.frozen (by simp)
      obtain ⟨W4, hW4⟩ : ∃ X, W3.setCell ⟨g2 + 1, 0, none⟩ (.slice ra2 (K + 1) rc2) = X := ⟨_, rfl⟩
      have D0 : Arr W4 w.heap.size [.slice qa N qc, .slice aa M ac] := by rw [← hW4]; exact C0.other (by omega) 0 _
      have D1 : Arr W4 (w.heap.size + 1) [.slice none 0 0, .slice none 0 0] := by rw [← hW4]; exact C1.other (by omega) 0 _
      have D3 : Arr W4 (g2 + 1) [.slice ra2 (K + 1) rc2] := by rw [← hW4]; exact C3.set 0 _
      have hR4 : RA w8.heap.size W4 ra2 (K + 1) rc2 (ins (lo, hh) os) := by rw [← hW4]; exact hR3.kept (gset 0 _) (by omega)
      have hK4 : W4.heap[D]? = some (.deferred (some [])) := by rw [← hW4]; exact (KeepsOthers.setCell _ _ _).same D _ hK3 rfl
      have hw4 : Below w.heap.size w W4 := by
        rw [← hW4]
        exact (HWW.out.trans (h13.mono (by omega))).setCell (p := ⟨g2 + 1, 0, none⟩) (by show w.heap.size ≤ g2 + 1; omega) _
      have h64 : ∀ p ∈ ins (lo, hh) os, In64 p.1 ∧ In64 p.2 := fun p hp => by
        rcases ins_mem.1 hp with rfl | hp
        · exact HIN.out
        · exact HO64.out p hp
      have x30 : W4.cell? ⟨g2 + 1, 0, none⟩ = some (.slice ra2 (K + 1) rc2) := D3.cell rfl
      have g01 : W4.frozen? ⟨w.heap.size, 1, none⟩ = false := D0.frozen (by simp)
      have g10 : W4.frozen? ⟨w.heap.size + 1, 0, none⟩ = false := D1.frozen (by simp)
      have g11 : W4.frozen? ⟨w.heap.size + 1, 1, none⟩ = false := D1.frozen (by simp)
      have d00 : W4.cell? ⟨w.heap.size, 0, none⟩ = some (.slice qa N qc) := D0.cell rfl
      have d01 : W4.cell? ⟨w.heap.size, 1, none⟩ = some (.slice aa M ac) := D0.cell rfl
      have d10 : W4.cell? ⟨w.heap.size + 1, 0, none⟩ = some (.slice none 0 0) := D1.cell rfl
      have d11 : W4.cell? ⟨w.heap.size + 1, 1, none⟩ = some (.slice none 0 0) := D1.cell rfl
      obtain ⟨WF, hWF, hKF, q10, q11, hNt, hBP⟩ := cut_fin HQ.out hw4 D0 D1 hR4 h64 (by omega) hD hK4
      have HWF := Lib.hid hWF
      have HKF := Lib.hid hKF
      have HNT := Lib.hid hNt
      have HBP := Lib.hid hBP
      have Q10 := Lib.hid q10
      have Q11 := Lib.hid q11
      clear hWF hKF q10 q11 hNt hBP hR3 hb3 hk3 h13 hK3 C0 C1 C3 D0 D1 D3 hR4 hK4 hw4 h64 e20 e21 e30
      gi_wp2_with fail
      rw [HWF.out]
      have q10 := Q10.out
      have q11 := Q11.out
      refine ⟨by simp, .inl ⟨_, _, rfl, run_takeDeferred HKF.out, ?_⟩⟩
      exact ⟨.tuple #[.agg #[.slice qa N qc, .slice ra2 (K + 1) rc2], .int .i64 0], by simp [results, Try.results18, go_sem, q10, q11], _, rfl, HNT.out, HBP.out⟩
end Go.Proofs.Ytjancbjjeemedaa
