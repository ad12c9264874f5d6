/- text.Runes. -/
import Derived.Test.YtilkhamlhbbmgaaDoorRit
import Derived.Defers
import Derived.RecoverIn
import Derived.Lib.AppendIntMem
import Derived.Laws.MakeOwn
namespace Go.Proofs.YtilkhamlhbbmgaaDoor
open Go.RowKit
attribute [local go_sem] Oper.semAt_some

set_option maxRecDepth 100000 in
set_option maxHeartbeats 1000000 in
theorem catch_panic (n : Nat) (p q : Nat) (k : Int) (c0 c1 : Value) (older : List PanicEntry) (w : World)
    (h0 : w.cell? ⟨p, 0, none⟩ = some c0) (h1 : w.cell? ⟨q, 0, none⟩ = some c1) (_hpq : p ≠ q)
    (f0 : w.frozen? ⟨p, 0, none⟩ = false) (f1 : w.frozen? ⟨q, 0, none⟩ = false) :
    CallsDIn Fence.wide n Tryd.prog 40 #[.pointer (some ⟨p, 0, none⟩), .pointer (some ⟨q, 0, none⟩)] (.panicking ({ v := .iface 24 (.int .i64 k), recovered := false } :: older)) w fun e u' w' =>
      e = .returned (.tuple #[]) ∧ u' = .panicking ({ v := .iface 24 (.int .i64 k), recovered := true } :: older) ∧
        w' = (w.setCell ⟨p, 0, none⟩ (.slice none 0 0)).setCell ⟨q, 0, none⟩ (.int .i64 90) := by
  refine callsDIn_of_wpSIn Tryd.func40 rfl trivial (fun c₀ cs hu => ?_)
  apply wpSIn_seq
  apply wpSIn_region
  simp [wpOpsSIn, go_sem, recoverD, hu, Tryd.ntmps40, Exit.thenS]
  refine wpSIn_cond (t := true) (by simp [Act.eval, Array.replicate]) ?_
  simp only [if_true]
  apply wpSIn_region
  simp [wpOpsSIn, go_sem, h0, h1, f0, f1, bodyPostS, results, Tryd.results40]

set_option maxRecDepth 100000 in
set_option maxHeartbeats 1000000 in
theorem catch_idle (n : Nat) (p q : Nat) (w : World) :
    CallsDIn Fence.wide n Tryd.prog 40 #[.pointer (some ⟨p, 0, none⟩), .pointer (some ⟨q, 0, none⟩)] .returning w fun e u' w' => e = .returned (.tuple #[]) ∧ u' = .returning ∧ w' = w := by
  refine callsDIn_of_wpSIn Tryd.func40 rfl trivial (fun c₀ cs hu => ?_)
  apply wpSIn_seq
  apply wpSIn_region
  simp [wpOpsSIn, go_sem, recoverD, hu, Tryd.ntmps40, Exit.thenS]
  refine wpSIn_cond (t := false) (by simp [Act.eval, Array.replicate]) ?_
  simp only [Bool.false_eq_true, if_false]
  refine wpSIn_of_wpIn rfl (wpIn_skip ?_)
  cases c₀
  simp_all [bodyPostS, results, Tryd.results40]

/-- The error of Runes, and its code points. -/
def rnsE (bs : List UInt8) : Int := if 4096 < bs.length then 2 else match rsL bs with | some _ => 0 | none => 90
def rnsV (bs : List UInt8) : List Int := if 4096 < bs.length then [] else (rsL bs).getD []
/-- What Runes ends in. -/
def RunesPost (w : World) (z : Int) (l : List Int) (e : Ending) (w' : World) : Prop :=
  ∃ v, e = .returned (.tuple #[v, .int .i64 z]) ∧ w'.ownsRow w.heap.size 3 1 v l.length (icells l) ∧ Below w.heap.size w w'
theorem runes_long (w : World) (bs : List UInt8) (hl : 4096 < bs.length) : Calls Tryd.prog 17 #[.string (str bs)] w (RunesPost w 2 []) := by
  have hsz := str_size bs
  obtain ⟨s, hs⟩ : ∃ s, str bs = s := ⟨_, rfl⟩
  obtain ⟨N, hN⟩ : ∃ N, bs.length = N := ⟨_, rfl⟩
  rw [hs, hN] at hsz
  rw [hs]
  rw [hN] at hl
  have d : decide (4096 < (N : Int)) = true := by simp; omega
  clear hs hN hl
  go_enter_defers Tryd.func17, Tryd.ntmps17
  go_wp2
  show Leaves _ _ _ _ [] _ _
  simp [Leaves, results, Tryd.results17, go_sem]
  exact ⟨_, rfl, World.ownsRow_nil _ _ _ _, by go_grown⟩

theorem below_none {w w' : World} (h : w.grownBy w' none) : Below w.heap.size w w' := ⟨h.os, h.tape, h.output, h.size, fun i hi => h.block i hi (by simp)⟩
theorem two_new {w w3 : World} {x y : Value} {t1 t2 : TypeId} (hg : ((w.alloc (.cells #[x] t1)).alloc (.cells #[y] t2)).grownBy w3 none) :
    Arr w3 w.heap.size [x] ∧ Arr w3 (w.heap.size + 1) [y] ∧ Below w.heap.size w w3 ∧ w.heap.size + 2 ≤ w3.heap.size := by
  have hb3 := below_none hg
  have hz : ((w.alloc (.cells #[x] t1)).alloc (.cells #[y] t2)).heap.size = w.heap.size + 2 := by simp
  have h1 := Arr.new (w.alloc (.cells #[x] t1)) #[y] t2
  rw [World.size_alloc] at h1
  have hs := hb3.size
  rw [hz] at hb3 hs
  exact ⟨((Arr.new w #[x] t1).alloc (by simp) _).below hb3 (by omega), h1.below hb3 (by omega), (((Below.refl w.heap.size w).alloc (Nat.le_refl _) _).alloc (by simp) _).trans (hb3.mono (by omega)), hs⟩
theorem Tryd.info3r : (Tryd.prog.info? 3).map (fun i => (i.zero, i.size, i.bytes)) = some (some (.int .i64 0), 1, 8) := by kernel_rfl
theorem own_slice {w : World} {B e size n : Nat} {v : Value} {xs : List Value} (h : w.ownsRow B e size v n xs) : ∃ a cap, v = .slice a n cap := by
  rcases h.2 with ⟨rfl, h0⟩ | ⟨g, cap, cur, rfl, _⟩
  · exact ⟨none, 0, by rw [h0]⟩
  · exact ⟨_, cap, rfl⟩
/-- What holds between two rounds: what has been read, in the call's own row. -/
structure RnI (w w5 : World) (l : List Int) (k : Nat) (W : World) (v : Value) : Prop where
  below : Below w.heap.size w W
  size : w5.heap.size ≤ W.heap.size
  b0 : Arr W w.heap.size [v]
  b1 : Arr W (w.heap.size + 1) [.int .i64 0]
  row : W.ownsRow (w.heap.size + 2) 3 1 v k (icells (l.take k))
theorem own_cells {W : World} {B e size n : Nat} {v : Value} {xs : List Value} (h : W.ownsRow B e size v n xs) : ∀ (j : Nat) (o : Obj), v.ownBlock = some j → W.heap[j]? = some o → o.isCells = true := by
  intro j o hj ho
  rcases h.2 with ⟨rfl, _⟩ | ⟨g, cap, cur, rfl, _, h5, _⟩
  · simp [Value.ownBlock] at hj
  · simp [Value.ownBlock] at hj
    subst hj
    rw [h5] at ho
    injection ho with ho
    subst ho
    rfl
set_option maxRecDepth 100000 in
set_option maxHeartbeats 4000000 in
theorem runes_short (w : World) (bs : List UInt8) (hT : UTab w) (hl : bs.length ≤ 4096) : Calls Tryd.prog 17 #[.string (str bs)] w (RunesPost w (rnsE bs) (rnsV bs)) := by
  obtain ⟨i0, hi, hz0, hz1, hz2⟩ := info_parts Tryd.info3r
  obtain ⟨l, rest, hrn, hll, hend⟩ := rn_all bs.length bs (Nat.le_refl _)
  have hr2 : rest = [] ∨ (rest ≠ [] ∧ isBad rest = true) := hend.imp (fun h => h.1) (fun h => ⟨h.1, h.2.1⟩)
  have HR : Hid ((okEnd rest = none ∧ rnsE bs = 0 ∧ rnsV bs = l) ∨ (okEnd rest = some badRune ∧ rnsE bs = 90 ∧ rnsV bs = [])) := Lib.hid (by
    have hnl : ¬ 4096 < bs.length := by omega
    unfold rnsE rnsV okEnd
    rw [if_neg hnl, if_neg hnl]
    rcases hend with ⟨h1, h2⟩ | ⟨h1, h2, h3⟩
    · rw [h2, if_pos h1]; exact .inl ⟨rfl, rfl, rfl⟩
    · rw [h3, if_neg h1]; exact .inr ⟨rfl, rfl, rfl⟩)
  obtain ⟨zE, hzE⟩ : ∃ z, rnsE bs = z := ⟨_, rfl⟩
  obtain ⟨lV, hlV⟩ : ∃ z, rnsV bs = z := ⟨_, rfl⟩
  rw [hzE, hlV] at HR ⊢
  clear hzE hlV hend
  have hsz := str_size bs
  have HIT := Lib.hid (fun W : World => runesIt_any W (str bs))
  have HTU := Lib.hid (fun (W : World) (hW : W.heap.size ≥ 1) (h : W.cell? ⟨W.heap.size - 1, 0, none⟩ = some (.string (str bs))) => runes_turn 8 (by omega) (W.heap.size - 1) bs rest l (by omega) hrn hr2 W (by omega) h)
  obtain ⟨s, hs⟩ : ∃ s, str bs = s := ⟨_, rfl⟩
  obtain ⟨N, hN⟩ : ∃ N, bs.length = N := ⟨_, rfl⟩
  obtain ⟨oe, hoe⟩ : ∃ oe, okEnd rest = oe := ⟨_, rfl⟩
  rw [hs, hN] at hsz
  rw [hs] at HIT HTU ⊢
  rw [hN] at hl hll
  rw [hoe] at HR HTU
  obtain ⟨M, hM⟩ : ∃ M, l.length = M := ⟨_, rfl⟩
  rw [hM] at HTU hll
  have HM := Lib.hid hM
  have HT := Lib.hid hT
  have d : decide (4096 < (N : Int)) = false := by simp; omega
  clear hs hN hrn hr2 hoe hM hT
  refine (callsIn_wide (n := 9)).1 ?_
  refine callsIn_of_wp_marks Tryd.func17 rfl trivial ?_ rfl
  simp only [Tryd.ntmps17, List.size_toArray, List.length_cons, List.length_nil, Nat.reduceAdd, Nat.reduceSub, Array.replicate_succ, Array.replicate_zero, List.push_toArray, List.append_toArray, List.nil_append, List.cons_append]
  refine wpIn_wide.2 ?_
  have hz2w : ((w.alloc (Obj.cells #[Value.slice none 0 0] 22)).alloc (Obj.cells #[Value.int IntKind.i64 0] 24)).heap.size = w.heap.size + 2 := by simp
  go_wp2_with (at_make; refine wpList_make_own _ rfl _ _ 22 rfl (w.heap.size + 2) 3 i0 _ 1 Tryd.underlying22 hi hz0 hz1 .i64 .i64 (N : Int) N rfl rfl rfl (by rw [hz2]; omega) (by unfold maxLen; omega) (by simp) ?_; intro w3 hown3 hg3; rw [hz2w] at hown3; obtain ⟨hA0, hA1, hB3, hs3⟩ := two_new hg3; have HO3 := Lib.hid hown3; have HA0 := Lib.hid hA0; have HA1 := Lib.hid hA1; have HB3 := Lib.hid hB3; have c0 := HA0.out.cell (i := 0) rfl; have f0 := HA0.out.frozen (i := 0) (by simp); clear hown3 hg3 hA0 hA1 hB3)
  obtain ⟨w4, hw4⟩ : ∃ w4, w3.setCell ⟨w.heap.size, 0, none⟩ (.slice (some ⟨w.heap.size + 2, 0, none⟩) 0 N) = w4 := ⟨_, rfl⟩
  have hG4 := grown_setCell (W := w3) (b := w.heap.size) 0 (.slice (some ⟨w.heap.size + 2, 0, none⟩) 0 N)
  have hA4 := HA0.out.set 0 (.slice (some ⟨w.heap.size + 2, 0, none⟩) 0 N)
  rw [hw4] at hG4 hA4
  have hs4 := hG4.size
  have h14 := HA1.out.moved hG4 (by omega) (by simp)
  have hO4 := own_grown HO3.out hG4 (fun k e => by cases e; omega)
  have hB4 : Below w.heap.size w w4 := HB3.out.grown hG4 (by omega) (fun k e => by cases e; omega)
  rw [hw4]
  clear hw4 hG4 c0 f0 HA0 HA1 HO3 HB3
  refine (HIT.out w4).mono ?_
  rintro e w5 ⟨rfl, hc5, hb5, hz5⟩
  have HTU5 := Lib.hid (HTU.out w5 (by omega) (by rw [hz5]; exact hc5))
  have HI0 : Hid (RnI w w5 l 0 w5 (.slice (some ⟨w.heap.size + 2, 0, none⟩) 0 N)) := Lib.hid ⟨hB4.trans (hb5.mono hB4.size), Nat.le_refl _, hA4.below hb5 (by omega), h14.below hb5 (by omega), by have := own_after hb5 hO4; simpa [icells] using this⟩
  have hq5 : w4.heap.size = w5.heap.size - 1 := by omega
  have hs5 : w.heap.size + 3 ≤ w5.heap.size := by omega
  rw [hq5]
  clear hc5 hb5 hz5 hq5 hA4 h14 hO4 hB4 hs4 HIT HTU hz2w
  go_wp2_with fail
  refine (wpIn_wide (n := 9)).1 ?_
  refine range_in_turn_k (n := 9) rfl (enters_of Tryd.func63 (by kernel_rfl) rfl) HTU5.out (Below.refl _ _) (fun _ => rfl)
    (fun k W => ∃ v, RnI w w5 l k W v) (fun _ _ => False)
    (by
      rintro k W W' row ⟨v, k1, k2, k3, k4, k5⟩ hg hr
      exact ⟨v, k1.grown hg k1.size (fun k e => by have := (hr k e).1; omega), Nat.le_trans k2 hg.size, k3.own hg (fun r e => (hr r e).2), k4.own hg (fun r e => (hr r e).2), own_own k5 hg (fun r e => (hr r e).2)⟩)
    (by rintro _ _ _ _ h; exact absurd h id)
    (by rintro k W ⟨v, h⟩; exact HT.out.below h.below)
    ⟨_, HI0.out⟩
    (fun k a' W => a' = { tmps := (.string s :: undef :: .pointer (some ⟨w.heap.size, 0, none⟩) :: .pointer (some ⟨w.heap.size + 1, 0, none⟩) :: .int .i64 (l.getD k 0) :: [.string s, .int .i64 N, .bool false, .func (.func 40) #[] #[.pointer (some ⟨w.heap.size, 0, none⟩), .pointer (some ⟨w.heap.size + 1, 0, none⟩)], .string s, .int .i64 N, .slice (some ⟨w.heap.size + 2, 0, none⟩) 0 N, .string s, .func (.func 63) #[] #[.pointer (some ⟨w5.heap.size - 1, 0, none⟩)], .int .i64 (l.getD k 0), undef, undef, undef, undef, undef]).toArray, defers := [] })
    ?hax ?assign ?body ?done ?stop ?panic
  case hax =>
    rintro k a' u W W' row h hg hr
    exact h
  case assign =>
    intro lp k W K hk hI hK
    have HKK := Lib.hid hK
    have HI := Lib.hid hI
    clear hI hK
    unfold runeV
    gi_wp2
    exact HKK.out _ _ (KeepsFrom.refl _ _) HI.out rfl
  case stop => intro D c W _ hf; exact absurd hf id
  case body =>
    rintro lp k a' W hk ⟨v, h1, h2, h3, h4, h5⟩ rfl hsW
    obtain ⟨a0, p0, rfl⟩ := own_slice h5
    have c0 := h3.cell (i := 0) rfl
    have f0 := h3.frozen (i := 0) (by simp)
    have hlt := h5.lt
    have hcl := own_cells h5
    have hkl : k < l.length := by rw [HM.out]; exact hk
    have HTK : Hid (icells (l.take k) ++ [.int .i64 (l.getD k 0)] = icells (l.take (k + 1))) := Lib.hid (by
      rw [List.take_add_one, icells_app]; simp [List.getElem?_eq_getElem hkl, icells, List.getD])
    obtain ⟨x, hx⟩ : ∃ x, l.getD k 0 = x := ⟨_, rfl⟩
    rw [hx] at HTK ⊢
    have H1 := Lib.hid h1
    have H2 := Lib.hid h2
    have H3 := Lib.hid h3
    have H4 := Lib.hid h4
    have H5 := Lib.hid h5
    have HLT := Lib.hid hlt
    have HCL := Lib.hid hcl
    have hzW : w.heap.size + 3 ≤ W.heap.size := by have := H2.out; omega
    clear hx h1 h2 h3 h4 h5 hlt hcl hkl
    gi_wp2_with (gi_at_builtin; refine wpListIn_append_own _ rfl _ _ 22 rfl (w.heap.size + 2) 3 i0 (.int .i64 0) 1 8 Tryd.underlying22 hi hz0 hz1 hz2 rfl (by decide) (.slice a0 k p0) k (icells (l.take k)) rfl (H5.out.alloc _) ⟨W.heap.size, 0, none⟩ 1 1 [.int .i64 x] rfl rfl (cell_one_new _ _ _) (by simp [Value.oneCell']) (by unfold maxLen; omega) (by omega) (by simp; omega) ?_; intro v' w1 hown' hgrow _; obtain ⟨a1, p1, rfl⟩ := own_slice hown'; have hBA : Below W.heap.size W (W.alloc (.cells #[.int .i64 x] 3)) := (Below.refl _ W).alloc (Nat.le_refl _) _; have hN : ∀ r, (Value.slice a0 k p0).ownBlock = some r → r < W.heap.size ∧ w.heap.size + 2 ≤ r := (fun r e => by have := HLT.out r e; omega); have hA0 : Arr w1 w.heap.size [.slice a0 k p0] := (H3.out.below hBA (by omega)).moved hgrow (by simp; omega) (fun e => by have := hN _ e.symm; omega); have hA1 : Arr w1 (w.heap.size + 1) [.int .i64 0] := (H4.out.below hBA (by omega)).moved hgrow (by simp; omega) (fun e => by have := hN _ e.symm; omega); have HA0 := Lib.hid hA0; have HA1 := Lib.hid hA1; have HO1 := Lib.hid hown'; have HG1 := Lib.hid hgrow; have c1 := HA0.out.cell (i := 0) rfl; have f1 := HA0.out.frozen (i := 0) (by simp); clear hown' hgrow hA0 hA1 hBA hN c0 f0)
    have hcA : ∀ (j : Nat) (o : Obj), (Value.slice a0 k p0).ownBlock = some j → (W.alloc (.cells #[.int .i64 x] 3)).heap[j]? = some o → o.isCells = true := own_cells (H5.out.alloc _)
    have hBA : Below w.heap.size w (W.alloc (.cells #[.int .i64 x] 3)) := H1.out.alloc H1.out.size _
    have hB1 : Below w.heap.size w w1 := hBA.grown HG1.out hBA.size (fun r e => by have := HLT.out r e; omega)
    have hs1 : W.heap.size ≤ w1.heap.size := by have := HG1.out.size; simp at this; omega
    refine ⟨(((KeepsOthers.alloc W _).trans (KeepsOthers.of_grownBy HG1.out hcA)).trans (KeepsOthers.setCell _ _ _)).from _, trivial, _, hB1.setCell (Nat.le_refl _) _, by have := H2.out; simp; omega, HA0.out.set 0 _, HA1.out.other (by omega) 0 _, ?_⟩
    rw [← HTK.out]
    exact own_grown HO1.out (grown_setCell 0 _) (fun r e => by cases e; omega)
  case done =>
    rintro D W hok hD ⟨v, h1, h2, h3, h4, h5⟩ hK
    obtain ⟨a0, p0, rfl⟩ := own_slice h5
    have hr : zE = 0 ∧ lV = l := by
      rcases HR.out with ⟨_, h⟩ | ⟨h, _⟩
      · exact h
      · rw [hok] at h; cases h
    obtain ⟨rfl, rfl⟩ := hr
    have hDW : D < W.heap.size := (Array.getElem?_eq_some_iff.1 hK).1
    have e0 := h3.cell (i := 0) rfl
    have f0 := h3.frozen (i := 0) (by simp)
    have e1 := h4.cell (i := 0) rfl
    have f1 := h4.frozen (i := 0) (by simp)
    have H1 := Lib.hid h1
    have H2 := Lib.hid h2
    have H3 := Lib.hid h3
    have H4 := Lib.hid h4
    have H5 := Lib.hid h5
    have HKK := Lib.hid hK
    clear h1 h2 h3 h4 h5 hK hok
    go_wp2
    obtain ⟨WF, hWF⟩ : ∃ WF, (W.setCell ⟨w.heap.size, 0, none⟩ (.slice a0 M p0)).setCell ⟨w.heap.size + 1, 0, none⟩ (.int .i64 0) = WF := ⟨_, rfl⟩
    have hG1 := grown_setCell (W := W) (b := w.heap.size) 0 (.slice a0 M p0)
    have hG2 := grown_setCell (W := W.setCell ⟨w.heap.size, 0, none⟩ (.slice a0 M p0)) (b := w.heap.size + 1) 0 (.int .i64 0)
    have hA0 := (H3.out.set 0 (.slice a0 M p0)).other (b' := w.heap.size + 1) (by omega) 0 (.int .i64 0)
    have hA1 := (H4.out.other (b' := w.heap.size) (by omega) 0 (.slice a0 M p0)).set 0 (.int .i64 0)
    have hKF := heap_grown_other hG2 (by have := H2.out; omega) (heap_grown_other hG1 (by omega) HKK.out)
    have hO := own_grown (own_grown H5.out hG1 (fun r e => by cases e; omega)) hG2 (fun r e => by cases e; omega)
    have hB := (H1.out.setCell (p := ⟨w.heap.size, 0, none⟩) (Nat.le_refl _) (.slice a0 M p0)).setCell (p := ⟨w.heap.size + 1, 0, none⟩) (by simp) (.int .i64 0)
    rw [hWF] at hG2 hA0 hA1 hKF hO hB ⊢
    have hzF : WF.heap.size = W.heap.size := by rw [← hWF]; simp [World.setCell]
    have hPF : Below w5.heap.size WF (WF.putObj D (.deferred none)) := (Below.refl _ WF).grown (grownBy_putObj' WF D _) (by have := H2.out; omega) (fun k e => by cases e; omega)
    have hA0' := hA0.below hPF (by omega)
    have hA1' := hA1.below hPF (by omega)
    have hO' := own_own hO (grownBy_putObj' WF D (.deferred none)) (fun r e => by cases e; exact ⟨_, hKF, rfl⟩)
    have q0 := hA0'.cell (i := 0) rfl
    have q1 := hA1'.cell (i := 0) rfl
    refine ⟨by simp, .inl ⟨_, _, rfl, run_takeDeferred hKF, ?_⟩⟩
    refine ⟨by simp, .inr ⟨fun hd => by simp [Fence.wide] at hd, .func 40, #[.pointer (some ⟨w.heap.size, 0, none⟩), .pointer (some ⟨w.heap.size + 1, 0, none⟩)], 40, #[.pointer (some ⟨w.heap.size, 0, none⟩), .pointer (some ⟨w.heap.size + 1, 0, none⟩)], rfl, by simp [go_sem], fun _ _ => trivial, ?_⟩⟩
    refine (catch_idle 8 w.heap.size (w.heap.size + 1) _).mono ?_
    rintro e u' w'' ⟨rfl, rfl, rfl⟩
    refine ⟨.tuple #[.slice a0 M p0, .int .i64 0], by simp [results, Tryd.results17, go_sem, q0, q1], _, rfl, ?_, hB.trans (hPF.mono (by omega))⟩
    rw [List.take_of_length_le (by rw [HM.out]; exact Nat.le_refl _)] at hO'
    rw [HM.out]
    exact own_base hO' (by omega)
  case panic =>
    rintro D pv W hok hD ⟨v, h1, h2, h3, h4, h5⟩ hK
    obtain ⟨a0, p0, rfl⟩ := own_slice h5
    have hr : pv = badRune ∧ zE = 90 ∧ lV = [] := by
      rcases HR.out with ⟨h, _⟩ | ⟨h, h'⟩
      · rw [hok] at h; cases h
      · rw [hok] at h; injection h with h; exact ⟨h, h'⟩
    obtain ⟨rfl, rfl, rfl⟩ := hr
    have hDW : D < W.heap.size := (Array.getElem?_eq_some_iff.1 hK).1
    have hPF : Below w5.heap.size W (W.putObj D (.deferred none)) := (Below.refl _ W).grown (grownBy_putObj' W D _) (by omega) (fun k e => by cases e; omega)
    have hzF : (W.putObj D (.deferred none)).heap.size = W.heap.size := by simp [World.putObj]
    have hA0 := h3.below hPF (by omega)
    have hA1 := h4.below hPF (by omega)
    have hB := h1.trans (hPF.mono (by omega))
    obtain ⟨WF, hWF⟩ : ∃ WF, W.putObj D (.deferred none) = WF := ⟨_, rfl⟩
    have hT := run_takeDeferred (P := Tryd.prog) hK
    rw [hWF] at hA0 hA1 hB hT hzF
    refine ⟨by simp, .inl ⟨_, _, rfl, hT, ?_⟩⟩
    refine ⟨by simp, .inr ⟨fun hd => by simp [Fence.wide] at hd, .func 40, #[.pointer (some ⟨w.heap.size, 0, none⟩), .pointer (some ⟨w.heap.size + 1, 0, none⟩)], 40, #[.pointer (some ⟨w.heap.size, 0, none⟩), .pointer (some ⟨w.heap.size + 1, 0, none⟩)], rfl, by simp [go_sem], fun _ _ => trivial, ?_⟩⟩
    refine (catch_panic 8 w.heap.size (w.heap.size + 1) 90 _ _ [] WF (hA0.cell (i := 0) rfl) (hA1.cell (i := 0) rfl) (by omega) (hA0.frozen (i := 0) (by simp)) (hA1.frozen (i := 0) (by simp))).mono ?_
    rintro e u' w'' ⟨rfl, rfl, rfl⟩
    have q0 := ((hA0.set 0 (.slice none 0 0)).other (b' := w.heap.size + 1) (by omega) 0 (.int .i64 90)).cell (i := 0) rfl
    have q1 := ((hA1.other (b' := w.heap.size) (by omega) 0 (.slice none 0 0)).set 0 (.int .i64 90)).cell (i := 0) rfl
    refine ⟨.tuple #[.slice none 0 0, .int .i64 90], by simp [results, Tryd.results17, go_sem, q0, q1], _, rfl, World.ownsRow_nil _ _ _ _, (hB.setCell (p := ⟨w.heap.size, 0, none⟩) (Nat.le_refl _) _).setCell (p := ⟨w.heap.size + 1, 0, none⟩) (by simp) _⟩
theorem runes_any (w : World) (bs : List UInt8) (hT : UTab w) : Calls Tryd.prog 17 #[.string (str bs)] w (RunesPost w (rnsE bs) (rnsV bs)) := by
  by_cases h : 4096 < bs.length
  · have := runes_long w bs h
    unfold rnsE rnsV
    rw [if_pos h, if_pos h]
    exact this
  · exact runes_short w bs hT (by omega)
end Go.Proofs.YtilkhamlhbbmgaaDoor
