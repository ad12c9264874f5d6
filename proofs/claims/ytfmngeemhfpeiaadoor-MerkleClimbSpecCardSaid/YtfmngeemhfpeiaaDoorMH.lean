/- The reference's SameLink. The reference's Few. The reference's Same. -/
import Derived.Test.YtfmngeemhfpeiaaDoorMG
namespace Go.Proofs.YtfmngeemhfpeiaaDoor
open Go.RowKit

set_option maxRecDepth 100000 in
set_option maxHeartbeats 4000000 in
theorem samelink_any (w : World) (v u : Value) (x y : Lk) (hx : x.ok) (hy : y.ok) (hv : LinkAt w w.heap.size v x) (hu : LinkAt w w.heap.size u y) :
    Calls Tryd.prog 41 #[v, u] w fun e w' => e = .returned (.bool (decide (x = y))) ∧ Below w.heap.size w w' := by
  obtain ⟨d, rfl, hd⟩ := hv
  obtain ⟨f, rfl, hf⟩ := hu
  have lx := lcells_len x d hx.1
  have ly := lcells_len y f hy.1
  have ex := (And.intro (lcells_0 x d) (And.intro (lcells_1 x d) (And.intro (lcells_34 x d hx.1) (lcells_prev x d hx.1))))
  have ey := (And.intro (lcells_0 y f) (And.intro (lcells_1 y f) (And.intro (lcells_34 y f hy.1) (lcells_prev y f hy.1))))
  have hq := dig_eq x.prev y.prev hx.1 hy.1
  rw [dv_eq, dv_eq] at hq
  have hpx : (cells8 x.prev).length = 32 := by rw [cells8_len, hx.1]
  have hpy : (cells8 y.prev).length = 32 := by rw [cells8_len, hy.1]
  obtain ⟨cx, hcx⟩ : ∃ cs, lcells x d = cs := ⟨_, rfl⟩
  obtain ⟨cy, hcy⟩ : ∃ cs, lcells y f = cs := ⟨_, rfl⟩
  obtain ⟨px, hpx2⟩ : ∃ cs, cells8 x.prev = cs := ⟨_, rfl⟩
  obtain ⟨py, hpy2⟩ : ∃ cs, cells8 y.prev = cs := ⟨_, rfl⟩
  rw [hcx] at lx ex ⊢
  rw [hcy] at ly ey ⊢
  rw [hpx2] at hq hpx ex
  rw [hpy2] at hq hpy ey
  have hzx : Hid ((Tryd.prog.info? 30).map (·.size) = some px.length) := by show _ = _; rw [hpx]; exact Tryd.info30
  have hzy : Hid ((Tryd.prog.info? 30).map (·.size) = some py.length) := by show _ = _; rw [hpy]; exact Tryd.info30
  obtain ⟨s1, hs1⟩ : ∃ s : ByteArray, (⟨x.data.toArray⟩ : ByteArray) = s := ⟨_, rfl⟩
  obtain ⟨s2, hs2⟩ : ∃ s : ByteArray, (⟨y.data.toArray⟩ : ByteArray) = s := ⟨_, rfl⟩
  have hcv1 : ∀ W, Below w.heap.size w W → (convert 34 9 d).run Tryd.prog W = .ok (.string s1) W := fun W hW => by
    obtain ⟨p, c, rfl, _, _, h3⟩ := hd.below hW
    rw [← hs1]
    exact conv_bytes W p _ c (by
      rcases h3 with h | ⟨db, off, rfl, _, h5⟩
      · exact .inl h
      · exact .inr ⟨db, off, rfl, fun i hi => h5 i hi⟩)
  have hcv2 : ∀ W, Below w.heap.size w W → (convert 34 9 f).run Tryd.prog W = .ok (.string s2) W := fun W hW => by
    obtain ⟨p, c, rfl, _, _, h3⟩ := hf.below hW
    rw [← hs2]
    exact conv_bytes W p _ c (by
      rcases h3 with h | ⟨db, off, rfl, _, h5⟩
      · exact .inl h
      · exact .inr ⟨db, off, rfl, fun i hi => h5 i hi⟩)
  have hse : (s1.toList == s2.toList) = decide (x.data = y.data) := by
    rw [← hs1, ← hs2, toList_mk, toList_mk]
    by_cases h : x.data = y.data <;> simp [h]
  have hxy : decide (x = y) = (decide (x.node = y.node) && (decide (x.no = y.no) && (decide (x.prev = y.prev) && decide (x.data = y.data)))) := by
    obtain ⟨a, b, c, e⟩ := x
    obtain ⟨a', b', c', e'⟩ := y
    simp only [Lk.mk.injEq]
    by_cases h1 : a = a' <;> by_cases h2 : b = b' <;> by_cases h3 : c = c' <;> by_cases h4 : e = e' <;> simp [h1, h2, h3, h4]
  rw [hxy]
  obtain ⟨ex0, ex1, ex34, exp⟩ := ex
  obtain ⟨ey0, ey1, ey34, eyp⟩ := ey
  generalize x.node = n at *
  generalize y.node = n' at *
  generalize x.no = o at *
  generalize y.no = o' at *
  generalize hB3 : decide (x.prev = y.prev) = p3 at *
  generalize hB4 : decide (x.data = y.data) = p4 at *
  have HC := Lib.hid (And.intro hcx (And.intro hcy (And.intro hpx2 hpy2)))
  have HEX := Lib.hid (And.intro ex0 (And.intro ex1 (And.intro ex34 exp)))
  have HEY := Lib.hid (And.intro ey0 (And.intro ey1 (And.intro ey34 eyp)))
  have HC1 := Lib.hid hcv1
  have HC2 := Lib.hid hcv2
  have HSE := Lib.hid hse
  have HQ := Lib.hid hq
  clear hcx hcy hpx2 hpy2 ex0 ex1 ex34 exp ey0 ey1 ey34 eyp hcv1 hcv2 hse hs1 hs2 hq hxy hB3 hB4 hd hf hpx hpy hx hy
  go_enter Tryd.func41, Tryd.ntmps41
  go_upto_region 1 with fail
  refine code_world (fun W => Below w.heap.size w W ∧ Arr W w.heap.size cx ∧ Arr W (w.heap.size + 1) cy) ⟨by go_grown, ?_, ?_⟩ ?_
  · have h := (Arr.new w cx.toArray 55).alloc (by simp) (.cells cy.toArray 55)
    rw [List.toList_toArray] at h; exact h
  · have h := Arr.new (w.alloc (.cells cx.toArray 55)) cy.toArray 55
    rw [List.toList_toArray, World.size_alloc] at h; exact h
  rintro W0 ⟨hB0, hX0, hY0⟩
  have a0 := hX0.cell HEX.out.1
  have a1 := hX0.cell HEX.out.2.1
  have a3 := hX0.cell HEX.out.2.2.1
  have b0 := hY0.cell HEY.out.1
  have b1 := hY0.cell HEY.out.2.1
  have b3 := hY0.cell HEY.out.2.2.1
  have ap : Hid (W0.rangeAt w.heap.size 2 px) := Lib.hid fun j v hv => by
    have := hX0.cell (HEX.out.2.2.2 j v hv)
    exact this
  have bp : Hid (W0.rangeAt (w.heap.size + 1) 2 py) := Lib.hid fun j v hv => by
    have := hY0.cell (HEY.out.2.2.2 j v hv)
    exact this
  have HB0 := Lib.hid hB0
  clear hX0 hY0 hB0
  have hB0d : Below w.heap.size w W0 := HB0.out
  have hq := HQ.out
  by_cases hn : n = n'
  · subst hn
    by_cases ho : o = o'
    · subst ho
      cases p3 with
      | false =>
        go_wp2_with (first
          | (refine wpList_load_wanted (by rfl) 30 _ (by rfl) w.heap.size 2 (by rfl) px _ ap.out Tryd.underlying30 rfl hzx.out ?_)
          | (refine wpList_load_wanted (by rfl) 30 _ (by rfl) (w.heap.size + 1) 2 (by rfl) py _ bp.out Tryd.underlying30 rfl hzy.out ?_))
        go_returns
        exact ⟨by simp, HB0.out⟩
      | true =>
        have v1 := HC1.out _ hB0d
        have v2 := HC2.out _ hB0d
        go_wp2_with (first
          | (refine wpList_load_wanted (by rfl) 30 _ (by rfl) w.heap.size 2 (by rfl) px _ ap.out Tryd.underlying30 rfl hzx.out ?_)
          | (refine wpList_load_wanted (by rfl) 30 _ (by rfl) (w.heap.size + 1) 2 (by rfl) py _ bp.out Tryd.underlying30 rfl hzy.out ?_))
        go_returns
        exact ⟨by simp [HSE.out], HB0.out⟩
    · have d1 : (o == o') = false := by simp [ho]
      have d2 : decide (o = o') = false := by simp [ho]
      clear hq
      go_wp2
      go_returns
      exact ⟨by simp, HB0.out⟩
  · have d1 : (n == n') = false := by simp [hn]
    have d2 : decide (n = n') = false := by simp [hn]
    clear hq
    go_wp2
    go_returns
    exact ⟨by simp [hn], HB0.out⟩
end Go.Proofs.YtfmngeemhfpeiaaDoor

namespace Go.Proofs.YtfmngeemhfpeiaaDoor
open Go.RowKit

/-- A link as memory holds it, its data as long as they are. -/
def Lk.ok0 (x : Lk) : Prop := x.prev.length = 32 ∧ K.In64 x.node ∧ K.In64 x.no
/-- Links in a slice. -/
def LRow0 (w : World) (B : Nat) (v : Value) (l : List Lk) : Prop :=
  (∀ x ∈ l, x.ok0) ∧ ∃ a cap, v = .slice a l.length cap ∧ l.length ≤ cap ∧ cap ≤ maxLen ∧
    (l = [] ∨ ∃ b off, a = some ⟨b, off, none⟩ ∧ b < B ∧ ∀ i (h : i < l.length), ∃ d, w.rangeAt b (off + i * 35) (lcells l[i] d) ∧ BytesAt w B d l[i].data)
theorem LRow0.row {w : World} {B : Nat} {v : Value} {l : List Lk} (h : LRow0 w B v l) (hd : ∀ x ∈ l, x.data.length ≤ 70000) : LRow w B v l :=
  ⟨fun x hx => ⟨(h.1 x hx).1, (h.1 x hx).2.1, (h.1 x hx).2.2, hd x hx⟩, h.2⟩
theorem LRow0.below {w w' : World} {B : Nat} {v : Value} {l : List Lk} (h : LRow0 w B v l) (hb : Below B w w') : LRow0 w' B v l := by
  obtain ⟨h0, a, cap, h1, h2, h3, h4⟩ := h
  refine ⟨h0, a, cap, h1, h2, h3, ?_⟩
  rcases h4 with h4 | ⟨b, off, h4, h5, h6⟩
  · exact .inl h4
  · refine .inr ⟨b, off, h4, h5, fun i hi => ?_⟩
    obtain ⟨d, h7, h8⟩ := h6 i hi
    exact ⟨d, fun j v hv => (hb.cell (p := ⟨b, off + i * 35 + j, none⟩) h5).trans (h7 j v hv), h8.below hb⟩
theorem LRow0.mono {w : World} {B B' : Nat} {v : Value} {l : List Lk} (h : LRow0 w B v l) (hb : B ≤ B') : LRow0 w B' v l := by
  obtain ⟨h0, a, cap, h1, h2, h3, h4⟩ := h
  refine ⟨h0, a, cap, h1, h2, h3, ?_⟩
  rcases h4 with h4 | ⟨b, off, h4, h5, h6⟩
  · exact .inl h4
  · refine .inr ⟨b, off, h4, by omega, fun i hi => ?_⟩
    obtain ⟨d, h7, h8⟩ := h6 i hi
    exact ⟨d, h7, h8.mono hb⟩
theorem LRow0.at {w W : World} {v : Value} {l : List Lk} (h : LRow0 w w.heap.size v l) (hb : Below w.heap.size w W) : LRow0 W W.heap.size v l := (h.below hb).mono hb.size

/-- Few links with few bytes. -/
def fewL (l : List Lk) : Bool := decide (l.length ≤ 16) && l.all fun x => decide (x.data.length ≤ 300)
theorem fewL_row {w : World} {B : Nat} {v : Value} {l : List Lk} (h : LRow0 w B v l) (hf : fewL l = true) : LRow w B v l ∧ l.length ≤ 16 := by
  unfold fewL at hf
  rw [Bool.and_eq_true] at hf
  exact ⟨h.row fun x hx => by have := List.all_eq_true.1 hf.2 x hx; have := of_decide_eq_true this; omega, of_decide_eq_true hf.1⟩

set_option maxRecDepth 100000 in
set_option maxHeartbeats 2000000 in
theorem few_any (w : World) (v : Value) (l : List Lk) (hv : LRow0 w w.heap.size v l) : Calls Tryd.prog 30 #[v] w fun e w' => e = .returned (.bool (fewL l)) ∧ w' = w := by
  obtain ⟨hok, a, cap, rfl, h1, h2, h3⟩ := hv
  obtain ⟨R, hR⟩ : ∃ R, fewL l = R := ⟨_, rfl⟩
  rw [hR]
  have hcell : ∀ t (ht : t < l.length), ∃ b off da dc m, a = some ⟨b, off, none⟩ ∧ w.cell? ⟨b, off + t * 35 + 34, none⟩ = some (.slice da m dc) ∧ m = l[t].data.length ∧ m ≤ maxLen := fun t ht => by
    rcases h3 with rfl | ⟨b, off, rfl, h5, h6⟩
    · exact absurd ht (by simp)
    · obtain ⟨d, h7, h8⟩ := h6 t ht
      obtain ⟨da, dc, rfl, h9, h10, _⟩ := h8
      exact ⟨b, off, da, dc, _, rfl, h7 34 _ (lcells_34 _ _ (hok _ (List.getElem_mem ht)).1), rfl, by omega⟩
  obtain ⟨N, hN⟩ : ∃ N, l.length = N := ⟨_, rfl⟩
  have hfin1 : 16 < N → R = false := fun h => by rw [← hR]; unfold fewL; rw [hN, decide_eq_false (by omega)]; rfl
  have hfin2 : N ≤ 16 → (∀ t (ht : t < l.length), l[t].data.length ≤ 300) → R = true := fun h h' => by
    rw [← hR]; unfold fewL; rw [hN, decide_eq_true h, Bool.true_and, List.all_eq_true]
    intro x hx
    obtain ⟨i, hi, rfl⟩ := List.getElem_of_mem hx
    exact decide_eq_true (h' i hi)
  have hfin3 : ∀ t (ht : t < l.length), 300 < l[t].data.length → R = false := fun t ht h => by
    rw [← hR]; unfold fewL
    refine Bool.eq_false_iff.2 fun e => ?_
    rw [Bool.and_eq_true] at e
    have := of_decide_eq_true (List.all_eq_true.1 e.2 l[t] (List.getElem_mem ht))
    omega
  rw [hN] at h1 ⊢
  have HC := Lib.hid hcell
  have HN := Lib.hid hN
  have HF1 := Lib.hid hfin1
  have HF2 := Lib.hid hfin2
  have HF3 := Lib.hid hfin3
  unfold maxLen at h2
  clear hcell hN hfin1 hfin2 hfin3 h3 hok hR
  by_cases hm : 16 < N
  · have hr := HF1.out hm
    subst hr
    have d1 : decide ((N : Int) > 16) = true := by simp; omega
    have d2 : decide ((16 : Int) < (N : Int)) = true := by simp; omega
    have d3 : decide (16 < N) = true := by simp; omega
    clear hm
    go_enter Tryd.func30, Tryd.ntmps30
    go_wp2
    go_returns
    exact ⟨rfl, rfl⟩
  · have d1 : decide ((N : Int) > 16) = false := by simp; omega
    have d2 : decide ((16 : Int) < (N : Int)) = false := by simp; omega
    have d3 : decide (16 < N) = false := by simp; omega
    have hN16 : N ≤ 16 := by omega
    clear hm
    go_enter Tryd.func30, Tryd.ntmps30
    go_wp2
    go_loopw [3] (fun i wr => ∃ t : Nat, i = .int .i64 t ∧ t ≤ N ∧ wr = w ∧ Hid (∀ j (hj : j < l.length), j < t → l[j].data.length ≤ 300)) (fun i _ => N - (intOf i).toNat)
    case atStart => exact ⟨0, rfl, by omega, rfl, Lib.hid (fun j _ hj => by omega)⟩
    case round =>
      obtain ⟨t, rfl, htn, rfl, HJ⟩ := hrel
      by_cases hlt : t < N
      · have htl : t < l.length := by rw [HN.out]; exact hlt
        obtain ⟨b, off, da, dc, m, rfl, c1, hm, hmm⟩ := HC.out t htl
        have HM := Lib.hid hm
        unfold maxLen at hmm
        clear hm
        have e1 : decide ((t : Int) < (N : Int)) = true := by simp; omega
        have e2 : decide (t < N) = true := by simp; omega
        have e3 : (t : Int) < (N : Int) := by omega
        have iw : IntKind.i64.wrap ((t : Int) + 1) = (t : Int) + 1 := by rw [IntKind.wrap_i64]; omega
        by_cases h3 : 300 < m
        · have hr := HF3.out t htl (by rw [← HM.out]; exact h3)
          subst hr
          have f1 : decide ((m : Int) > 300) = true := by simp; omega
          have f2 : decide ((300 : Int) < (m : Int)) = true := by simp; omega
          have f3 : decide (300 < m) = true := by simp; omega
          clear h3
          go_wp2
          go_returns
          exact ⟨rfl, rfl⟩
        · have f1 : decide ((m : Int) > 300) = false := by simp; omega
          have f2 : decide ((300 : Int) < (m : Int)) = false := by simp; omega
          have f3 : decide (300 < m) = false := by simp; omega
          have HM3 := Lib.hid (show m ≤ 300 by omega)
          clear h3
          go_wp2
          go_roundw
          case rel => exact ⟨t + 1, by simp, by omega, by first | rfl | trivial, Lib.hid (fun j hj1 hj => by
            rcases Nat.lt_succ_iff_lt_or_eq.1 hj with h | rfl
            · exact HJ.out j hj1 h
            · rw [← HM.out]; exact HM3.out)⟩
          case measure => simp [intOf]; omega
      · obtain rfl : t = N := by omega
        have hr := HF2.out hN16 (fun j hj => HJ.out j hj (by rw [← HN.out]; exact hj))
        subst hr
        have e1 : decide ((t : Int) < (t : Int)) = false := by simp
        have e2 : decide (t < t) = false := by simp
        go_wp2
        go_returns
        exact ⟨rfl, rfl⟩
end Go.Proofs.YtfmngeemhfpeiaaDoor

namespace Go.Proofs.YtfmngeemhfpeiaaDoor
open Go.RowKit

def c39a0 : Oper := { dst := some 17, op := Go.Op.move (Go.Operand.tmp 0), type := 44, pos := "ref.go:77", after := #[], guard := none }
def c39a1 : Oper := { dst := some 18, op := Go.Op.move (Go.Operand.tmp 5), type := 3, pos := "ref.go:77", after := #[], guard := none }
def c39a2 : Oper := { dst := some 19, op := Go.Op.indexAddr 44 (Go.Operand.tmp 17) (Go.Operand.tmp 18), type := 0, pos := "ref.go:77", after := #[{ on := 0, ground := Go.Ground.data }, { on := 1, ground := Go.Ground.data }], guard := none }
def c39a3 : Oper := { dst := some 20, op := Go.Op.load 55 (Go.Operand.tmp 19), type := 55, pos := "ref.go:77", after := #[{ on := 2, ground := Go.Ground.data }], guard := none }
def c39a4 : Oper := { dst := some 21, op := Go.Op.move (Go.Operand.tmp 1), type := 44, pos := "ref.go:77", after := #[], guard := none }
def c39a5 : Oper := { dst := some 22, op := Go.Op.move (Go.Operand.tmp 5), type := 3, pos := "ref.go:77", after := #[], guard := none }
def c39a6 : Oper := { dst := some 23, op := Go.Op.indexAddr 44 (Go.Operand.tmp 21) (Go.Operand.tmp 22), type := 0, pos := "ref.go:77", after := #[{ on := 4, ground := Go.Ground.data }, { on := 5, ground := Go.Ground.data }], guard := none }
def c39a7 : Oper := { dst := some 24, op := Go.Op.load 55 (Go.Operand.tmp 23), type := 55, pos := "ref.go:77", after := #[{ on := 6, ground := Go.Ground.data }], guard := none }
def c39a8 : Oper := { dst := some 25, op := Go.Op.call { callee := Go.Callee.value (Go.Operand.func 41), args := #[Go.Operand.tmp 20, Go.Operand.tmp 24], argTypes := #[55, 55] }, type := 4, pos := "ref.go:77", after := #[{ on := 3, ground := Go.Ground.data }, { on := 7, ground := Go.Ground.data }], guard := none }
def c39a9 : Oper := { dst := some 26, op := Go.Op.unOp Go.UnOp.not 4 (Go.Operand.tmp 25), type := 4, pos := "ref.go:77", after := #[{ on := 8, ground := Go.Ground.data }], guard := none }

set_option maxRecDepth 100000 in
set_option maxHeartbeats 4000000 in
theorem rsame_any (w : World) (v u : Value) (l m : List Lk) (hv : LRow w w.heap.size v l) (hu : LRow w w.heap.size u m) (hq : l.length ≤ 100000) (hq2 : m.length ≤ 100000) : Calls Tryd.prog 39 #[v, u] w fun e w' => e = .returned (.bool (decide (l = m))) ∧ Below w.heap.size w w' := by
  obtain ⟨hok, a, cap, rfl, h1, h2, h3⟩ := hv
  obtain ⟨hok', a', cap', rfl, h1', h2', h3'⟩ := hu
  obtain ⟨R, hR⟩ : ∃ R, decide (l = m) = R := ⟨_, rfl⟩
  rw [hR]
  have hcell : ∀ W, Below w.heap.size w W → ∀ t (ht : t < l.length) (ht2 : t < m.length), ∃ b off b2 off2 cx cy, a = some ⟨b, off, none⟩ ∧ a' = some ⟨b2, off2, none⟩ ∧ b < w.heap.size ∧ b2 < w.heap.size ∧ cx.length = 35 ∧ cy.length = 35 ∧ W.rangeAt b (off + t * 35) cx ∧ W.rangeAt b2 (off2 + t * 35) cy ∧
      ∀ W', Below w.heap.size w W' → Calls Tryd.prog 41 #[.agg cx.toArray, .agg cy.toArray] W' fun e w' => e = .returned (.bool (decide (l[t] = m[t]))) ∧ Below W'.heap.size W' w' := by
    intro W hW t ht ht2
    obtain ⟨b, off, rfl, h4, h5⟩ := h3.resolve_left (fun e => by subst e; exact absurd ht (by simp))
    obtain ⟨b2, off2, rfl, h4', h5'⟩ := h3'.resolve_left (fun e => by subst e; exact absurd ht2 (by simp))
    obtain ⟨d, h6, h7⟩ := h5 t ht
    obtain ⟨f, h6', h7'⟩ := h5' t ht2
    have hx := hok _ (List.getElem_mem ht)
    have hy := hok' _ (List.getElem_mem ht2)
    exact ⟨b, off, b2, off2, _, _, rfl, rfl, h4, h4', lcells_len _ d hx.1, lcells_len _ f hy.1, fun j v hv => (hW.cell (p := ⟨b, off + t * 35 + j, none⟩) h4).trans (h6 j v hv), fun j v hv => (hW.cell (p := ⟨b2, off2 + t * 35 + j, none⟩) h4').trans (h6' j v hv),
      fun W' hW' => samelink_any W' _ _ _ _ hx hy ⟨d, rfl, (h7.below hW').mono hW'.size⟩ ⟨f, rfl, (h7'.below hW').mono hW'.size⟩⟩
  obtain ⟨N, hN⟩ : ∃ N, l.length = N := ⟨_, rfl⟩
  obtain ⟨M, hM⟩ : ∃ M, m.length = M := ⟨_, rfl⟩
  have hfin1 : N ≠ M → R = false := fun h => by rw [← hR]; exact decide_eq_false (fun e => h (by rw [← hN, ← hM, e]))
  have hfin2 : N = M → (∀ t (ht : t < l.length) (_ : t < N) (ht2 : t < m.length), l[t] = m[t]) → R = true := fun h h' => by
    rw [← hR]
    exact decide_eq_true (List.ext_getElem (by omega) fun i h1 h2 => h' i h1 (by omega) h2)
  have hfin3 : ∀ t (ht : t < l.length) (ht2 : t < m.length), l[t] ≠ m[t] → R = false := fun t ht ht2 h => by
    rw [← hR]; exact decide_eq_false (fun e => h (by subst e; rfl))
  rw [hN] at h1 hq ⊢
  rw [hM] at h1' hq2 ⊢
  have HC := Lib.hid hcell
  have HN := Lib.hid hN
  have HM := Lib.hid hM
  have HF1 := Lib.hid hfin1
  have HF2 := Lib.hid hfin2
  have HF3 := Lib.hid hfin3
  unfold maxLen at h2 h2'
  clear hcell hN hM hfin1 hfin2 hfin3 h3 h3' hok hok' hR
  by_cases hNM : N = M
  · subst hNM
    have dd : ((N : Int) != (N : Int)) = false := by simp
    go_enter Tryd.func39, Tryd.ntmps39
    go_wp2
    go_loopw [5] (fun i wr => ∃ t : Nat, i = .int .i64 t ∧ t ≤ N ∧ Below w.heap.size w wr ∧ Hid (∀ j (hj : j < l.length), j < t → ∀ (hj2 : j < m.length), l[j] = m[j])) (fun i _ => N - (intOf i).toNat)
    case atStart => exact ⟨0, rfl, by omega, Below.refl _ _, Lib.hid (fun j _ hj => by omega)⟩
    case round =>
      obtain ⟨t, rfl, htn, hB, HJ⟩ := hrel
      have HB := Lib.hid hB
      clear hB
      by_cases hlt : t < N
      · have htl : t < l.length := by rw [HN.out]; exact hlt
        have htm : t < m.length := by rw [HM.out]; exact hlt
        obtain ⟨b, off, b2, off2, cx, cy, rfl, rfl, hb, hb2, lx, ly, hr1, hr2, hsm⟩ := HC.out _ HB.out t htl htm
        have HZX : Hid ((Tryd.prog.info? 55).map (·.size) = some cx.length) := by show _ = _; rw [lx]; exact Tryd.info55
        have HZY : Hid ((Tryd.prog.info? 55).map (·.size) = some cy.length) := by show _ = _; rw [ly]; exact Tryd.info55
        have hwr := HB.out.size
        have AX : Hid (∀ W, Kept wr W → W.rangeAt b (off + t * 35) cx) := Lib.hid fun W hW j v hv => (hW.below.cell (p := ⟨b, off + t * 35 + j, none⟩) (by show b < _; omega)).trans (hr1 j v hv)
        have AY : Hid (∀ W, Kept wr W → W.rangeAt b2 (off2 + t * 35) cy) := Lib.hid fun W hW j v hv => (hW.below.cell (p := ⟨b2, off2 + t * 35 + j, none⟩) (by show b2 < _; omega)).trans (hr2 j v hv)
        obtain ⟨E, hE⟩ : ∃ E, decide (l[t] = m[t]) = E := ⟨_, rfl⟩
        rw [hE] at hsm
        have HSM : Hid (∀ W, Kept wr W → Calls Tryd.prog 41 #[.agg cx.toArray, .agg cy.toArray] W fun e w' => e = .returned (.bool E) ∧ Below W.heap.size W w') := Lib.hid fun W hW => hsm W (HB.out.trans (hW.below.mono hwr))
        have HE1 : Hid (E = true → l[t] = m[t]) := Lib.hid fun h => by rw [h] at hE; exact of_decide_eq_true hE
        have HE2 : Hid (E = false → R = false) := Lib.hid fun h => by rw [h] at hE; exact HF3.out t htl htm (of_decide_eq_false hE)
        have e1 : decide ((t : Int) < (N : Int)) = true := by simp; omega
        have e2 : decide (t < N) = true := by simp; omega
        have e3 : (t : Int) < (N : Int) := by omega
        have iw : IntKind.i64.wrap ((t : Int) + 1) = (t : Int) + 1 := by rw [IntKind.wrap_i64]; omega
        clear hb hb2 lx ly hr1 hr2 hsm hE hwr
        go_wp2
        refine wp_region_held_drew (S := fun W => Kept wr W) (by kernel_rfl) (Kept.drew (Kept.refl wr)) (fun hHeld => ?_)
        refine wpAnyH_take (i := 0) (oi := c39a0) (v := ?_) rfl (by kernel_rfl) (by kernel_rfl) (by kernel_rfl) (fun _ _ _ h => h) (Or.inl ⟨by rfl, ?_⟩) hHeld ?_
        rotate_left
        · (intro w hSw; (try dsimp only at hSw); unfold c39a0; go_simp <;> with_reducible rfl)
        try simp only [c39a0, Act.put, List.setIfInBounds_toArray, List.set_cons_zero, List.set_cons_succ]
        refine wpAnyH_take (i := 1) (oi := c39a1) (v := ?_) rfl (by kernel_rfl) (by kernel_rfl) (by kernel_rfl) (fun _ _ _ h => h) (Or.inl ⟨by rfl, ?_⟩) hHeld ?_
        rotate_left
        · (intro w hSw; (try dsimp only at hSw); unfold c39a1; go_simp <;> with_reducible rfl)
        try simp only [c39a1, Act.put, List.setIfInBounds_toArray, List.set_cons_zero, List.set_cons_succ]
        refine wpAnyH_take (i := 2) (oi := c39a2) (v := ?_) rfl (by kernel_rfl) (by kernel_rfl) (by kernel_rfl) (fun _ _ _ h => h) (Or.inl ⟨by rfl, ?_⟩) hHeld ?_
        rotate_left
        · (intro w hSw; (try dsimp only at hSw); unfold c39a2; go_simp <;> with_reducible rfl)
        try simp only [c39a2, Act.put, List.setIfInBounds_toArray, List.set_cons_zero, List.set_cons_succ]
        refine wpAnyH_take (i := 3) (oi := c39a3) rfl (by kernel_rfl) (by kernel_rfl) (by kernel_rfl) (fun _ _ _ h => h) (yieldsIf_load_mid (by rfl) 55 (.tmp 19) (by rfl) b (off + t * 35) (by rfl) cx _ (fun w hSw => AX.out w hSw) Tryd.underlying55 rfl HZX.out) hHeld ?_
        try simp only [c39a3, Act.put, List.setIfInBounds_toArray, List.set_cons_zero, List.set_cons_succ]
        refine wpAnyH_take (i := 4) (oi := c39a4) (v := ?_) rfl (by kernel_rfl) (by kernel_rfl) (by kernel_rfl) (fun _ _ _ h => h) (Or.inl ⟨by rfl, ?_⟩) hHeld ?_
        rotate_left
        · (intro w hSw; (try dsimp only at hSw); unfold c39a4; go_simp <;> with_reducible rfl)
        try simp only [c39a4, Act.put, List.setIfInBounds_toArray, List.set_cons_zero, List.set_cons_succ]
        refine wpAnyH_take (i := 5) (oi := c39a5) (v := ?_) rfl (by kernel_rfl) (by kernel_rfl) (by kernel_rfl) (fun _ _ _ h => h) (Or.inl ⟨by rfl, ?_⟩) hHeld ?_
        rotate_left
        · (intro w hSw; (try dsimp only at hSw); unfold c39a5; go_simp <;> with_reducible rfl)
        try simp only [c39a5, Act.put, List.setIfInBounds_toArray, List.set_cons_zero, List.set_cons_succ]
        refine wpAnyH_take (i := 6) (oi := c39a6) (v := ?_) rfl (by kernel_rfl) (by kernel_rfl) (by kernel_rfl) (fun _ _ _ h => h) (Or.inl ⟨by rfl, ?_⟩) hHeld ?_
        rotate_left
        · (intro w hSw; (try dsimp only at hSw); unfold c39a6; go_simp <;> with_reducible rfl)
        try simp only [c39a6, Act.put, List.setIfInBounds_toArray, List.set_cons_zero, List.set_cons_succ]
        refine wpAnyH_take (i := 7) (oi := c39a7) rfl (by kernel_rfl) (by kernel_rfl) (by kernel_rfl) (fun _ _ _ h => h) (yieldsIf_load_mid (by rfl) 55 (.tmp 23) (by rfl) b2 (off2 + t * 35) (by rfl) cy _ (fun w hSw => AY.out w hSw) Tryd.underlying55 rfl HZY.out) hHeld ?_
        try simp only [c39a7, Act.put, List.setIfInBounds_toArray, List.set_cons_zero, List.set_cons_succ]
        refine wpAnyH_ready (rs := [8]) (by kernel_rfl) (by simp) ?_
        refine AllReadyH.cons (o := c39a8) rfl (fun K hK => ?_) AllReadyH.nil
        rw [if_pos (by rfl)]
        unfold c39a8
        go_simp
        (with_reducible refine (HSM.out _ hHeld).mono ?_)
        rintro e W8 ⟨rfl, hB8⟩
        have hS8 := hHeld.next hB8
        go_wp2_with fail
        refine hK.out _ _ hS8 (fun hHeld => ?_)
        clear hK K
        try simp only [c39a8, Act.put, List.setIfInBounds_toArray, List.set_cons_zero, List.set_cons_succ]
        refine wpAnyH_take (i := 9) (oi := c39a9) (v := ?_) rfl (by kernel_rfl) (by kernel_rfl) (by kernel_rfl) (fun _ _ _ h => h) (Or.inl ⟨by rfl, ?_⟩) hHeld ?_
        rotate_left
        · (intro w hSw; (try dsimp only at hSw); unfold c39a9; go_simp <;> with_reducible rfl)
        try simp only [c39a9, Act.put, List.setIfInBounds_toArray, List.set_cons_zero, List.set_cons_succ]
        refine wpAnyH_done (by kernel_rfl) ?_ _
        have HST := Lib.hid hHeld
        clear hHeld hS8 hB8
        cases E with
        | true =>
          go_wp2
          go_roundw
          case rel => exact ⟨t + 1, by simp, by omega, HB.out.trans (HST.out.mono HB.out.size), Lib.hid (fun j hj1 hj => by
            rcases Nat.lt_succ_iff_lt_or_eq.1 hj with h | rfl
            · exact HJ.out j hj1 h
            · exact fun _ => HE1.out rfl)⟩
          case measure => simp [intOf]; omega
        | false =>
          have hr := HE2.out rfl
          subst hr
          go_wp2
          go_returns
          exact ⟨rfl, HB.out.trans (HST.out.mono HB.out.size)⟩
      · obtain rfl : t = N := by omega
        have hr := HF2.out (by simp) (fun j hj hjt hj2 => HJ.out j hj hjt hj2)
        subst hr
        have e1 : decide ((t : Int) < (t : Int)) = false := by simp
        have e2 : decide (t < t) = false := by simp
        go_wp2
        go_returns
        exact ⟨rfl, HB.out⟩
  · have hr := HF1.out hNM
    subst hr
    have dd : ((N : Int) != (M : Int)) = true := by simp; omega
    have dd2 : ((N : Int) == (M : Int)) = false := by simp; omega
    clear hNM
    go_enter Tryd.func39, Tryd.ntmps39
    go_wp2
    go_returns
    exact ⟨rfl, Below.refl _ _⟩
end Go.Proofs.YtfmngeemhfpeiaaDoor
