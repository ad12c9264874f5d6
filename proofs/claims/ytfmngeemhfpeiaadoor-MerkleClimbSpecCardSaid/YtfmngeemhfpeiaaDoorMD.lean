/- chain.same. chain.isNumbered$1. chain.first, with the closure of isNumbered. chain.beginnings: the iterator. A region that only reads, inside a round of a loop over a function: one walk serves all orders there too. chain.isLinked. chain.isNumbered, chain.Check. -/
import Derived.Test.YtfmngeemhfpeiaaDoorMC
import Derived.RangeFuncNested
import Derived.RangeFuncBound
import Derived.RangeFuncCalls
import Derived.RangeFuncOwn
import Derived.Shelf.Abstract
import Derived.WalkKit
import Derived.OwnWalkIn
import Derived.TacticsInMore
import Derived.LoopNIn
import Derived.LoopIn
import Derived.Stop.RegionWithIn
namespace Go.Proofs.YtfmngeemhfpeiaaDoor
open Go.RowKit

set_option maxRecDepth 100000 in
set_option maxHeartbeats 4000000 in
theorem same_any (w : World) (v u : Value) (x y : Lk) (hx : x.ok) (hy : y.ok) (hv : LinkAt w w.heap.size v x) (hu : LinkAt w w.heap.size u y) :
    Calls Tryd.prog 73 #[v, u] w fun e w' => e = .returned (.bool (decide (x = y))) ∧ Below w.heap.size w w' := by
  obtain ⟨d, rfl, hd⟩ := hv
  obtain ⟨f, rfl, hf⟩ := hu
  have lx := lcells_len x d hx.1
  have ly := lcells_len y f hy.1
  have ex := (And.intro (lcells_0 x d) (And.intro (lcells_1 x d) (And.intro (lcells_34 x d hx.1) (lcells_prev x d hx.1))))
  have ey := (And.intro (lcells_0 y f) (And.intro (lcells_1 y f) (And.intro (lcells_34 y f hy.1) (lcells_prev y f hy.1))))
  have hq := dig_eq x.prev y.prev hx.1 hy.1
  rw [dv_eq, dv_eq] at hq
  have hpx : (cells8 x.prev).length = 32 := by rw [cells8_len, hx.1]
  have hpy : (cells8 y.prev).length = 32 := by rw [cells8_len, hy.1]
  obtain ⟨cx, hcx⟩ : ∃ cs, lcells x d = cs := ⟨_, rfl⟩
  obtain ⟨cy, hcy⟩ : ∃ cs, lcells y f = cs := ⟨_, rfl⟩
  obtain ⟨px, hpx2⟩ : ∃ cs, cells8 x.prev = cs := ⟨_, rfl⟩
  obtain ⟨py, hpy2⟩ : ∃ cs, cells8 y.prev = cs := ⟨_, rfl⟩
  rw [hcx] at lx ex ⊢
  rw [hcy] at ly ey ⊢
  rw [hpx2] at hq hpx ex
  rw [hpy2] at hq hpy ey
  have hzx : Hid ((Tryd.prog.info? 30).map (·.size) = some px.length) := by show _ = _; rw [hpx]; exact Tryd.info30
  have hzy : Hid ((Tryd.prog.info? 30).map (·.size) = some py.length) := by show _ = _; rw [hpy]; exact Tryd.info30
  have hbe : ∀ W, Below w.heap.size w W → Calls Tryd.prog 56 #[d, f] W fun e w' => e = .returned (.bool (decide (x.data = y.data))) ∧ w' = W := fun W hW => bytesEq_any W d f _ _ ((hd.below hW).mono hW.size) ((hf.below hW).mono hW.size)
  have hxy : decide (x = y) = (decide (x.node = y.node) && (decide (x.no = y.no) && (decide (x.prev = y.prev) && decide (x.data = y.data)))) := by
    obtain ⟨a, b, c, e⟩ := x
    obtain ⟨a', b', c', e'⟩ := y
    simp only [Lk.mk.injEq]
    by_cases h1 : a = a' <;> by_cases h2 : b = b' <;> by_cases h3 : c = c' <;> by_cases h4 : e = e' <;> simp [h1, h2, h3, h4]
  rw [hxy]
  obtain ⟨ex0, ex1, ex34, exp⟩ := ex
  obtain ⟨ey0, ey1, ey34, eyp⟩ := ey
  generalize x.node = n at *
  generalize y.node = n' at *
  generalize x.no = o at *
  generalize y.no = o' at *
  generalize hB3 : decide (x.prev = y.prev) = p3 at *
  generalize hB4 : decide (x.data = y.data) = p4 at *
  have HC := Lib.hid (And.intro hcx (And.intro hcy (And.intro hpx2 hpy2)))
  have HEX := Lib.hid (And.intro ex0 (And.intro ex1 (And.intro ex34 exp)))
  have HEY := Lib.hid (And.intro ey0 (And.intro ey1 (And.intro ey34 eyp)))
  have HBE := Lib.hid hbe
  have HQ := Lib.hid hq
  clear hcx hcy hpx2 hpy2 ex0 ex1 ex34 exp ey0 ey1 ey34 eyp hbe hq hxy hB3 hB4 hd hf hpx hpy hx hy
  go_enter Tryd.func73, Tryd.ntmps73
  go_upto_region 1 with fail
  refine code_world (fun W => Below w.heap.size w W ∧ Arr W w.heap.size cx ∧ Arr W (w.heap.size + 1) cy) ⟨by go_grown, ?_, ?_⟩ ?_
  · have h := (Arr.new w cx.toArray 55).alloc (by simp) (.cells cy.toArray 55)
    rw [List.toList_toArray] at h; exact h
  · have h := Arr.new (w.alloc (.cells cx.toArray 55)) cy.toArray 55
    rw [List.toList_toArray, World.size_alloc] at h; exact h
  rintro W0 ⟨hB0, hX0, hY0⟩
  have a0 := hX0.cell HEX.out.1
  have a1 := hX0.cell HEX.out.2.1
  have a3 := hX0.cell HEX.out.2.2.1
  have b0 := hY0.cell HEY.out.1
  have b1 := hY0.cell HEY.out.2.1
  have b3 := hY0.cell HEY.out.2.2.1
  have ap : Hid (W0.rangeAt w.heap.size 2 px) := Lib.hid fun j v hv => by
    have := hX0.cell (HEX.out.2.2.2 j v hv)
    exact this
  have bp : Hid (W0.rangeAt (w.heap.size + 1) 2 py) := Lib.hid fun j v hv => by
    have := hY0.cell (HEY.out.2.2.2 j v hv)
    exact this
  have HB0 := Lib.hid hB0
  clear hX0 hY0 hB0
  have hB0d : Below w.heap.size w W0 := HB0.out
  have hq := HQ.out
  by_cases hn : n = n'
  · subst hn
    by_cases ho : o = o'
    · subst ho
      cases p3 with
      | false =>
        go_wp2_with (first
          | (refine wpList_load_wanted (by rfl) 30 _ (by rfl) w.heap.size 2 (by rfl) px _ ap.out Tryd.underlying30 rfl hzx.out ?_)
          | (refine wpList_load_wanted (by rfl) 30 _ (by rfl) (w.heap.size + 1) 2 (by rfl) py _ bp.out Tryd.underlying30 rfl hzy.out ?_))
        go_returns
        exact ⟨by simp, HB0.out⟩
      | true =>
        go_wp2_with (first
          | (refine wpList_load_wanted (by rfl) 30 _ (by rfl) w.heap.size 2 (by rfl) px _ ap.out Tryd.underlying30 rfl hzx.out ?_)
          | (refine wpList_load_wanted (by rfl) 30 _ (by rfl) (w.heap.size + 1) 2 (by rfl) py _ bp.out Tryd.underlying30 rfl hzy.out ?_))
        refine (HBE.out _ hB0d).mono ?_
        rintro e w' ⟨rfl, rfl⟩
        clear hq
        go_wp2
        go_returns
        exact ⟨by simp, HB0.out⟩
    · have d1 : (o == o') = false := by simp [ho]
      have d2 : decide (o = o') = false := by simp [ho]
      clear hq
      go_wp2
      go_returns
      exact ⟨by simp, HB0.out⟩
  · have d1 : (n == n') = false := by simp [hn]
    have d2 : decide (n = n') = false := by simp [hn]
    clear hq
    go_wp2
    go_returns
    exact ⟨by simp [hn], HB0.out⟩
end Go.Proofs.YtfmngeemhfpeiaaDoor

namespace Go.Proofs.YtfmngeemhfpeiaaDoor
open Go.RowKit

/-- What is wrong with a link at a place, digests aside. -/
def bad1 (l : List Lk) (i : Int) (x : Lk) : Bool := !(decide (0 ≤ x.node ∧ x.node < 24)) || (!(bel l x.node) || (decide (x.no ≠ i) || decide (65536 < x.data.length)))

set_option maxRecDepth 100000 in
set_option maxHeartbeats 4000000 in
theorem num1_any (w : World) (q : Nat) (rv : Value) (l : List Lk) (i : Int) (v : Value) (x : Lk) (hq : w.cell? ⟨q, 0, none⟩ = some rv) (hqb : q < w.heap.size) (hl : LRow w w.heap.size rv l) (hx : x.ok) (hv : LinkAt w w.heap.size v x) :
    Calls Tryd.prog 86 #[.int .i64 i, v, .pointer (some ⟨q, 0, none⟩)] w fun e w' => e = .returned (.bool (bad1 l i x)) ∧ Below w.heap.size w w' := by
  obtain ⟨d, rfl, hd⟩ := hv
  have lx := lcells_len x d hx.1
  have e0 := lcells_0 x d
  have e1 := lcells_1 x d
  have e34 := lcells_34 x d hx.1
  obtain ⟨a, len, cap, hrv⟩ : ∃ a len cap, rv = .slice a len cap := by obtain ⟨_, a, cap, h, _⟩ := hl; exact ⟨a, _, cap, h⟩
  subst hrv
  obtain ⟨da, dcap, rfl, _, _, _⟩ := hd
  have hnd : ∀ W, Below w.heap.size w W → Calls Tryd.prog 67 #[.int .i64 x.node] W fun e w' => e = .returned (.bool (decide (0 ≤ x.node ∧ x.node < 24))) ∧ w' = W := fun W _ => isNode_any _ _
  have hbl : ∀ W, Below w.heap.size w W → Calls Tryd.prog 68 #[.slice a len cap, .int .i64 x.node] W fun e w' => e = .returned (.bool (bel l x.node)) ∧ w' = W := fun W hW => belongs_any W _ l _ ((hl.below hW).mono hW.size)
  have hb1 : bad1 l i x = (!(decide (0 ≤ x.node ∧ x.node < 24)) || (!(bel l x.node) || (decide (x.no ≠ i) || decide (65536 < x.data.length)))) := rfl
  have hdl : x.data.length ≤ 70000 := hx.2.2.2
  rw [hb1]
  obtain ⟨cx, hcx⟩ : ∃ cs, lcells x (.slice da x.data.length dcap) = cs := ⟨_, rfl⟩
  rw [hcx] at lx e0 e1 e34 ⊢
  generalize hn : decide (0 ≤ x.node ∧ x.node < 24) = b1 at *
  generalize hbn : bel l x.node = b2 at *
  generalize x.node = n at *
  generalize x.no = o at *
  generalize x.data.length = m at *
  have HE := Lib.hid (And.intro e0 (And.intro e1 e34))
  have HND := Lib.hid hnd
  have HBL := Lib.hid hbl
  clear e0 e1 e34 hnd hbl hcx hn hbn hb1 hx hl
  go_enter Tryd.func86, Tryd.ntmps86
  go_upto_region 1 with fail
  refine code_world (fun W => Below w.heap.size w W ∧ Arr W w.heap.size cx) ⟨by go_grown, by have h := Arr.new w cx.toArray 55; rw [List.toList_toArray] at h; exact h⟩ ?_
  rintro W0 ⟨hB0, hX0⟩
  have a0 := hX0.cell HE.out.1
  have a1 := hX0.cell HE.out.2.1
  have a3 := hX0.cell HE.out.2.2
  have aq := (hB0.cell (p := ⟨q, 0, none⟩) hqb).trans hq
  have HB0 := Lib.hid hB0
  clear hX0 hB0 hq
  cases b1 with
  | false =>
    go_wp2_with (first
      | (refine (HND.out _ HB0.out).mono ?_; rintro e w' ⟨rfl, rfl⟩))
    all_goals go_returns
    all_goals exact ⟨by simp, HB0.out⟩
  | true =>
    cases b2 with
    | false =>
      go_wp2_with (first
        | (go_at_call 67; refine (HND.out _ HB0.out).mono ?_; rintro e w' ⟨rfl, rfl⟩)
        | (go_at_call 68; refine (HBL.out _ HB0.out).mono ?_; rintro e w' ⟨rfl, rfl⟩))
      all_goals go_returns
      all_goals exact ⟨by simp, HB0.out⟩
    | true =>
      by_cases ho : o = i
      · subst ho
        by_cases hm : 65536 < m
        · have d2 : decide ((m : Int) > 65536) = true := by simp; omega
          have d3 : decide ((65536 : Int) < (m : Int)) = true := by simp; omega
          have d4 : decide (65536 < m) = true := by simp; omega
          go_wp2_with (first
            | (go_at_call 67; refine (HND.out _ HB0.out).mono ?_; rintro e w' ⟨rfl, rfl⟩)
            | (go_at_call 68; refine (HBL.out _ HB0.out).mono ?_; rintro e w' ⟨rfl, rfl⟩))
          all_goals go_returns
          all_goals exact ⟨by simp [hm], HB0.out⟩
        · have d2 : decide ((m : Int) > 65536) = false := by simp; omega
          have d3 : decide ((65536 : Int) < (m : Int)) = false := by simp; omega
          have d4 : decide (65536 < m) = false := by simp; omega
          go_wp2_with (first
            | (go_at_call 67; refine (HND.out _ HB0.out).mono ?_; rintro e w' ⟨rfl, rfl⟩)
            | (go_at_call 68; refine (HBL.out _ HB0.out).mono ?_; rintro e w' ⟨rfl, rfl⟩))
          all_goals go_returns
          all_goals exact ⟨by simp [hm], HB0.out⟩
      · have d2 : (o != i) = true := by simp [ho]
        have d3 : (o == i) = false := by simp [ho]
        go_wp2_with (first
          | (go_at_call 67; refine (HND.out _ HB0.out).mono ?_; rintro e w' ⟨rfl, rfl⟩)
          | (go_at_call 68; refine (HBL.out _ HB0.out).mono ?_; rintro e w' ⟨rfl, rfl⟩))
        all_goals go_returns
        all_goals exact ⟨by simp [ho], HB0.out⟩
end Go.Proofs.YtfmngeemhfpeiaaDoor

namespace Go.Proofs.YtfmngeemhfpeiaaDoor
open Go.RowKit

/-- The first index below n of which p holds. -/
def fstOf (p : Nat → Bool) (n : Nat) : Option Nat := (List.range n).find? p
theorem fstOf_none {p : Nat → Bool} {n : Nat} (h : ∀ j, j < n → p j = false) : fstOf p n = none := by
  unfold fstOf; rw [List.find?_eq_none]; intro j hj; rw [h j (List.mem_range.1 hj)]; simp
theorem fstOf_some {p : Nat → Bool} {n i : Nat} (hi : i < n) (h : ∀ j, j < i → p j = false) (hp : p i = true) : fstOf p n = some i := by
  unfold fstOf
  rw [List.find?_range_eq_some]
  exact ⟨hp, by simpa using hi, fun j hj => by rw [h j hj]; rfl⟩
def fstV (o : Option Nat) : Value := match o with
  | none => .tuple #[.int .i64 0, .bool false]
  | some i => .tuple #[.int .i64 i, .bool true]

set_option maxRecDepth 100000 in
set_option maxHeartbeats 4000000 in
theorem first86_any (w : World) (v : Value) (l : List Lk) (q : Nat) (p : Nat → Bool) (hv : LRow w w.heap.size v l) (hln : l.length ≤ 100000)
    (hP : ∀ W, Below w.heap.size w W → ∀ j (hj : j < l.length) u, LinkAt W W.heap.size u l[j] → Calls Tryd.prog 86 #[.int .i64 j, u, .pointer (some ⟨q, 0, none⟩)] W fun e w' => e = .returned (.bool (p j)) ∧ Below W.heap.size W w') :
    Calls Tryd.prog 71 #[v, .func (.func 86) #[] #[.pointer (some ⟨q, 0, none⟩)]] w fun e w' => e = .returned (fstV (fstOf p l.length)) ∧ Below w.heap.size w w' := by
  obtain ⟨hok, a, cap, rfl, h1, h2, h3⟩ := hv
  obtain ⟨n, hn⟩ : ∃ n, l.length = n := ⟨_, rfl⟩
  have hcell : ∀ W, Below w.heap.size w W → ∀ t, t < n → ∃ b off cs, a = some ⟨b, off, none⟩ ∧ cs.length = 35 ∧ (∀ v ∈ cs, v.oneCell' = true) ∧ W.rangeAt b (off + t * 35) cs ∧ (∀ W', Below w.heap.size w W' → Calls Tryd.prog 86 #[.int .i64 t, .agg cs.toArray, .pointer (some ⟨q, 0, none⟩)] W' fun e w' => e = .returned (.bool (p t)) ∧ Below W'.heap.size W' w') := by
    intro W hW t ht
    rw [← hn] at ht
    rcases h3 with h3 | ⟨b, off, h4, h5, h6⟩
    · subst h3; exact absurd ht (by simp)
    · obtain ⟨d, h7, h8⟩ := h6 t ht
      have hd1 : d.oneCell' = true := by obtain ⟨_, _, rfl, _⟩ := h8; rfl
      exact ⟨b, off, lcells l[t] d, h4, lcells_len _ _ (hok _ (List.getElem_mem _)).1, lcells_one _ _ hd1, fun j v hv => (hW.cell (p := ⟨b, off + t * 35 + j, none⟩) h5).trans (h7 j v hv),
        fun W' hW' => hP W' hW' t ht _ ⟨d, rfl, (h8.below hW').mono hW'.size⟩⟩
  rw [hn] at h1 hln ⊢
  have HC := Lib.hid hcell
  have HN := Lib.hid hn
  clear hcell hP h3 hn hok
  unfold maxLen at h2
  go_enter Tryd.func71, Tryd.ntmps71
  go_wp2
  go_loopw [6, 7, 10] (fun s6 s7 i wr => ∃ t : Nat, i = .int .i64 t ∧ t ≤ n ∧ Below w.heap.size w wr ∧ ∀ j, j < t → p j = false)
    (fun _ _ i _ => n - (intOf i).toNat)
  case atStart => exact ⟨0, rfl, by omega, by go_grown, fun j hj => by omega⟩
  case round =>
    obtain ⟨t, rfl, htn, hB, hpj⟩ := hrel
    have HB := Lib.hid hB
    have HPJ := Lib.hid hpj
    clear hB hpj
    by_cases hlt : t < n
    · obtain ⟨b, off, cs, rfl, hl35, ho, hr, hcall⟩ := HC.out _ HB.out t hlt
      have HL := Lib.hid hl35
      have HO := Lib.hid ho
      have HR := Lib.hid hr
      have HCALL := Lib.hid hcall
      have HZ5 : Hid ((Tryd.prog.info? 55).map (·.size) = some cs.length) := by show _ = _; rw [hl35]; exact Tryd.info55
      clear hl35 ho hr hcall
      have d1 : decide ((t : Int) < (n : Int)) = true := by simp; omega
      have d2 : decide (t < n) = true := by simp; omega
      have iw : IntKind.i64.wrap ((t : Int) + 1) = ((t + 1 : Nat) : Int) := by rw [IntKind.wrap_i64]; omega
      go_wp2_with (first
        | (refine wpList_load_mid rfl 55 _ (by rfl) wr.heap.size 0 (by rfl) cs _ hA2.at_ Tryd.underlying55 rfl HZ5.out ?_)
        | (refine wpList_load_mid rfl 55 _ (by rfl) b (off + t * 35) (by rfl) cs _ HR.out Tryd.underlying55 rfl HZ5.out ?_)
        | (refine wpList_world (fun W => Below w.heap.size w W ∧ (∃ z : List Value, z.length = 35 ∧ Arr W wr.heap.size z) ∧ wr.heap.size < W.heap.size) ⟨by exact HB.out.alloc HB.out.size _, ⟨_, by rfl, Arr.new wr _ 55⟩, by simp⟩ ?_
           rintro W1 ⟨hB1, ⟨z, hz35, hA1⟩, hz1⟩
           refine store_new rfl 55 _ _ (by rfl) w.heap.size wr.heap.size cs _ (by rfl) (by rfl) hB1 HB.out.size hA1 (by rw [HL.out, hz35]) HZ5.out HO.out ?_
           intro W2 hB2 hA2 hz2))
      refine (HCALL.out _ hB2).mono ?_
      rintro e w3 ⟨rfl, hB3⟩
      have hBn : Below w.heap.size w w3 := hB2.trans (hB3.mono hB2.size)
      have HBN := Lib.hid hBn
      clear hB1 hA1 hz1 hz35 hB2 hA2 hz2 hB3 hBn
      cases hp : p t with
      | true =>
        have HP := Lib.hid hp
        clear hp
        go_wp2
        go_returns
        exact ⟨by rw [fstOf_some hlt HPJ.out HP.out]; rfl, HBN.out⟩
      | false =>
        have HP := Lib.hid hp
        clear hp
        go_wp2
        go_roundw
        · refine ⟨t + 1, by simp, by omega, HBN.out, fun j hj => ?_⟩
          rcases Nat.lt_succ_iff_lt_or_eq.1 hj with h | rfl
          · exact HPJ.out j h
          · exact HP.out
        · simp [intOf]; omega
    · have htn2 : t = n := by omega
      subst htn2
      have d1 : decide ((t : Int) < (t : Int)) = false := by simp
      have d2 : decide (t < t) = false := by simp
      go_wp2
      go_returns
      exact ⟨by rw [fstOf_none HPJ.out]; rfl, HB.out⟩
end Go.Proofs.YtfmngeemhfpeiaaDoor

namespace Go.Proofs.YtfmngeemhfpeiaaDoor
open Go.RowKit Go.Shelf
attribute [local go_sem] Oper.semAt_some

/-- What is yielded before the link i. -/
def begV (a : Option Addr) (cap : Nat) (l : List Lk) {N : Nat} (x : Fin N) : Array Value := #[.slice a x.val cap, dv (hd (l.take x.val))]

set_option maxRecDepth 100000 in
set_option maxHeartbeats 4000000 in
theorem beg1_in (n : Nat) (hn : 1 ≤ n) (lb Q n₀ N cap : Nat) (a : Option Addr) (l : List Lk) (hN : l.length = N) (hq : N ≤ 100000) (_hcm : cap ≤ maxLen) (hQ : Q < n₀) (h00 : 0 < n₀) (J Jx : List (Fin N) → World → Prop)
    (hY : ∀ pre (x : Fin N) W, J pre W → pre.length < N → YieldAt Fence.wide (n - 1) Tryd.prog lb (begV a cap l x) W fun e W' =>
      (e = .returned (.bool true) ∧ J (pre ++ [x]) W' ∧ Below n₀ W W') ∨ (e = .returned (.bool false) ∧ Jx (pre ++ [x]) W'))
    (hal : ∀ pre W W', J pre W → Below W.heap.size W W' → J pre W')
    (W : World) (hW : n₀ ≤ W.heap.size) (hs : W.cell? ⟨Q, 0, none⟩ = some (.slice a N cap)) (hL : LRow W n₀ (.slice a N cap) l) (hT : Tab W) (h0 : J [] W) :
    CallsIn Fence.wide n Tryd.prog 99 #[.func (.yield lb) #[] #[], .pointer (some ⟨Q, 0, none⟩)] W fun e W' => (∃ v, e = .returned v) ∧
      ((∃ ys : List (Fin N), ys.map (·.val) = List.range N ∧ J ys W') ∨ (∃ pre, True ∧ Jx pre W')) := by
  refine callsIn_of_wp Tryd.func99 rfl trivial ?_ rfl
  simp only [Tryd.ntmps99, List.size_toArray, List.length_cons, List.length_nil, Nat.reduceAdd, Nat.reduceSub, Array.replicate_succ, Array.replicate_zero, List.push_toArray, List.append_toArray, List.nil_append, List.cons_append]
  have hNc : N ≤ cap := by obtain ⟨_, a', c', h1, h2, _⟩ := hL; injection h1 with _ e2 e3; omega
  have HHD : Hid (∀ (W' : World) (k : Nat), Below n₀ W W' → k ≤ N → Calls Tryd.prog 33 #[.slice a k cap] W' fun e w' => e = .returned (dv (hd (l.take k))) ∧ Below W'.heap.size W' w') := Lib.hid fun W' k hB hk =>
    head_any W' _ _ (((hL.below hB).mono (by have := hB.size; omega)).take hk rfl) (hT.below hB h00) (by have := hB.size; omega)
  have HAL := Lib.hid hal
  have HY := Lib.hid hY
  have HL := Lib.hid hL
  unfold maxLen at _hcm
  clear hal hY hL hN hT
  gi_wp2
  gi_loopw [6] (fun i wr => ∃ k : Nat, k ≤ N ∧ i = .int .i64 k ∧ Hid (∃ pre : List (Fin N), pre.map (·.val) = List.range k ∧ J pre wr) ∧ Below n₀ W wr) (fun i _ => N - (intOf i).toNat)
  case atStart => exact ⟨0, Nat.zero_le _, rfl, Lib.hid ⟨[], rfl, h0⟩, Below.refl _ _⟩
  case round =>
    clear h0
    obtain ⟨k, hkN, rfl, HJ, hB⟩ := hrel
    have hnw : n₀ ≤ wr.heap.size := Nat.le_trans hW hB.size
    have ds : wr.cell? ⟨Q, 0, none⟩ = some (.slice a N cap) := (hB.cell (p := ⟨Q, 0, none⟩) hQ).trans hs
    by_cases hk : k < N
    · obtain ⟨pre, hpre, hJ⟩ := HJ.out
      have hpl : pre.length = k := by have := congrArg List.length hpre; simpa using this
      have dk : decide ((k : Int) < (N : Int)) = true := by simp; omega
      have ki : (k : Int) < (N : Int) := by omega
      have kc : k ≤ cap := by omega
      have kc2 : (k : Int) ≤ (cap : Int) := by omega
      have HPRE := Lib.hid hpre
      have HPL := Lib.hid hpl
      have HJ2 := Lib.hid hJ
      have HBB := Lib.hid hB
      clear hpre hpl hJ hB
      have HYY : Hid (∀ W1, Below wr.heap.size wr W1 → YieldAt Fence.wide (n - 1) Tryd.prog lb #[.slice a k cap, dv (hd (l.take k))] W1 fun e W' => ∃ bb, e = .returned (.bool bb) ∧ ((bb = true ∧ J (pre ++ [⟨k, hk⟩]) W' ∧ Below n₀ W1 W') ∨ (bb = false ∧ Jx (pre ++ [⟨k, hk⟩]) W'))) := Lib.hid fun W1 hb => by
        obtain ⟨fn, tmps, assign, body, hy, hR⟩ := HY.out pre ⟨k, hk⟩ W1 (HAL.out _ _ _ HJ2.out hb) (by rw [HPL.out]; exact hk)
        refine ⟨fn, tmps, assign, body, hy, hR.mono ?_⟩
        rintro e W' (⟨rfl, h1, h2⟩ | ⟨rfl, h1⟩)
        · exact ⟨true, rfl, .inl ⟨rfl, h1, h2⟩⟩
        · exact ⟨false, rfl, .inr ⟨rfl, h1⟩⟩
      gi_wp2
      gi_region_with (first
        | (refine ⟨trivial, ?_⟩; refine (callsIn_wide.2 (HHD.out _ k (show Below n₀ W wr from HBB.out).drew hkN)).mono ?_; rintro e W1 ⟨rfl, hb1⟩
           have hb1' : Below wr.heap.size wr W1 := (Below.refl _ wr).drew.trans hb1
           have ds1 : W1.cell? ⟨Q, 0, none⟩ = some (.slice a N cap) := (hb1'.cell (p := ⟨Q, 0, none⟩) (by show Q < _; omega)).trans ds
           obtain ⟨fn, tmps, assign, body, hy, hR⟩ := HYY.out W1 hb1')
        | (refine hR.mono ?_; rintro e W3 ⟨bb, rfl, h3⟩))
      all_goals
        have HB1 := Lib.hid hb1'
        clear hy hR hb1 hb1' ds1
        rcases h3 with ⟨rfl, hJ3, hb3⟩ | ⟨rfl, hJx3⟩
        · have HJ3 := Lib.hid hJ3
          have HB3 := Lib.hid hb3
          clear hJ3 hb3
          gi_wp2
          go_roundw
          case rel =>
            refine ⟨k + 1, by omega, by go_num, Lib.hid ⟨pre ++ [⟨k, hk⟩], ?_, HJ3.out⟩, (HBB.out.trans (HB1.out.mono hnw)).trans HB3.out⟩
            rw [List.map_append, HPRE.out, List.range_succ]; rfl
          case measure => simp [intOf]; omega
        · have HJ3 := Lib.hid hJx3
          clear hJx3
          gi_wp2
          refine bodyPost_ret (results_none rfl _ _ _) rfl ?_
          exact ⟨⟨_, rfl⟩, .inr ⟨_, trivial, HJ3.out⟩⟩
    · obtain rfl : k = N := by omega
      have dk : decide ((k : Int) < (k : Int)) = false := by simp
      gi_wp2
      go_end0
      obtain ⟨pre, hp, hJ⟩ := HJ.out
      exact ⟨⟨_, rfl⟩, .inl ⟨pre, hp, hJ⟩⟩

theorem beg_seq (n : Nat) (hn : 1 ≤ n) (Q n₀ N cap : Nat) (a : Option Addr) (l : List Lk) (hN : l.length = N) (hq : N ≤ 100000) (hcm : cap ≤ maxLen) (hQ : Q < n₀) (h00 : 0 < n₀) (w : World) (hn₀ : n₀ ≤ w.heap.size) (hs : w.cell? ⟨Q, 0, none⟩ = some (.slice a N cap)) (hL : LRow w n₀ (.slice a N cap) l) (hT : Tab w) :
    SeqStopsK Fence.wide n Tryd.prog 99 #[.pointer (some ⟨Q, 0, none⟩)] (begV a cap l) (Below n₀) (fun ys : List (Fin N) => ys.map (·.val) = List.range N) (fun _ => True) N w :=
  fun lb J Jx W hW hJ _ hY h0 =>
    beg1_in n hn lb Q n₀ N cap a l hN hq hcm hQ h00 J Jx hY (fun pre W1 W' h hb => hJ pre W1 W' none h (gbelow hb) (fun r e => by cases e)) W (Nat.le_trans hn₀ hW.size)
      ((hW.cell (p := ⟨Q, 0, none⟩) (by show Q < _; omega)).trans hs) (hL.below (hW.mono (by omega))) (hT.below (hW.mono (by omega)) h00) h0
end Go.Proofs.YtfmngeemhfpeiaaDoor

namespace Go.Proofs.YtfmngeemhfpeiaaDoor
open Go.RowKit Go.Shelf

theorem Oper.wpIn_round {F : Fence} {n : Nat} {P : Program} {o : Oper} {a : Act} {w : World} {next : Act → World → Prop} {Q : Exit → Act → World → Prop} (l : Nat) (_hro : F.round = none) (hnd : ∀ c, o.op ≠ .defer c) (h : o.wpIn F n P a w next Q) : o.wpIn (F.inRound l) n P a w next Q := by
  obtain ⟨h1, h2⟩ := h
  rw [Oper.semAt_plain _ _ _ hnd] at h2
  refine ⟨h1, ?_⟩
  rw [Oper.semAt_plain _ _ _ hnd]
  exact h2
theorem wpAnyIn_round {F : Fence} {n : Nat} {P : Program} {md : Region.Mode} {ops : Array Oper} {Q : Exit → Act → World → Prop} (l : Nat) (hro : F.round = none) (hnd : ∀ (i : Nat) (o : Oper), ops[i]? = some o → ∀ c, o.op ≠ .defer c) : ∀ (fuel : Nat) (listed : Array Bool) (a : Act) (w : World),
    wpAnyIn F n P md ops Q fuel listed a w → wpAnyIn (F.inRound l) n P md ops Q fuel listed a w
  | 0, _, _, _, h => h
  | fuel + 1, listed, a, w, h => by
    refine ⟨h.1, fun i hi => ?_⟩
    have h2 := h.2 i hi
    unfold wpOpIn at h2 ⊢
    cases ho : ops[i]? with
    | none => rw [ho] at h2; exact wpAnyIn_round l hro hnd fuel _ _ _ h2
    | some o =>
      rw [ho] at h2
      dsimp only at h2 ⊢
      split
      · rename_i hw
        rw [if_pos hw] at h2
        exact Oper.wpIn_round l hro (hnd i o ho) (Oper.wpIn_mono (fun a w h => wpAnyIn_round l hro hnd fuel _ _ _ h) h2)
      · rename_i hw
        rw [if_neg hw] at h2
        exact ⟨h2.1, wpAnyIn_round l hro hnd fuel _ _ _ h2.2⟩

def noDefer (ops : List Oper) : Bool := ops.all fun o => match o.op with
  | .defer _ => false
  | _ => true
theorem noDefer_spec {ops : List Oper} (h : noDefer ops = true) (i : Nat) (o : Oper) (hi : ops.toArray[i]? = some o) (c) : o.op ≠ .defer c := by
  intro e
  have hm : o ∈ ops := by
    have : o ∈ ops.toArray := Array.mem_of_getElem? hi
    simpa using this
  have := List.all_eq_true.1 h o hm
  rw [e] at this
  cases this
theorem wpIn_region_quiet_round {F : Fence} {n : Nat} {P : Program} {id lp : Nat} {Q : Exit → Act → World → Prop} {a : Act} {w : World} {l : List Oper} (hro : F.round = none) (hd : noDefer l = true) (hm : P.follows .mixedOrders = true) (hB : Region.lexB .any l.toArray = true)
    (h : wpQuietIn F n P l.toArray (fun w' => ∃ n, w' = w.drewN n) (fun a' => ∀ w', (∃ n, w' = w.drewN n) → Q .normal a' w') l a) : (Code.region id l.toArray true).wpIn (F.inRound lp) n P Q a w := by
  simp only [Region.lexB, Bool.and_eq_true] at hB
  refine wpIn_region_any hm (wpAnyIn_round lp hro (noDefer_spec hd) _ _ _ _ ?_)
  refine wpAnyIn_of_quiet (C := fun w' => ∃ n, w' = w.drewN n) (Q := fun a' => ∀ w', (∃ n, w' = w.drewN n) → Q .normal a' w') hro (fun _ w' hw' h => h w' hw') _ _ _ _ ⟨1, rfl⟩ ?_
  have := wpAnyQIn_lex (F := F) (n := n) (C := fun w' => ∃ n, w' = w.drewN n) (md := .any) hB.1 l 0 (Array.replicate l.toArray.size false) a (by simp) (by simpa using hB.2) h
  simpa using this
end Go.Proofs.YtfmngeemhfpeiaaDoor

namespace Go.Proofs.YtfmngeemhfpeiaaDoor
open Go.RowKit Go.Shelf
attribute [local go_sem] Oper.semAt_some

/-- Has the link i the head of those before it? -/
def okAt (l : List Lk) (i : Nat) : Bool := match l[i]? with
  | some x => decide (x.prev = hd (l.take i))
  | none => true
def lnk (l : List Lk) : Bool := (List.range l.length).all (okAt l)

theorem beginnings_any (w : World) (v : Value) (hv : ∃ a n c, v = .slice a n c) : Calls Tryd.prog 87 #[v] w fun e w' => e = .returned (.func (.func 99) #[] #[.pointer (some ⟨w.heap.size, 0, none⟩)]) ∧ w'.cell? ⟨w.heap.size, 0, none⟩ = some v ∧ Below w.heap.size w w' ∧ w'.heap.size = w.heap.size + 1 := by
  obtain ⟨a, n, c, rfl⟩ := hv
  go_enter Tryd.func87, Tryd.ntmps87
  go_wp2
  go_returns
  exact ⟨rfl, by go_cell, by go_grown, by simp⟩

theorem quietIn_load_mid {F : Fence} {n : Nat} {P : Program} {o : Oper} {a : Act} {C : World → Prop} {K : Act → Prop} (ty : TypeId) (x : Operand) (ho : o.op = .load ty x)
    (b off : Nat) (hx : a.eval x = .pointer (some ⟨b, off, none⟩)) (cs : List Value) (d : TypeDesc) (hc : ∀ w, C w → w.rangeAt b off cs)
    (hu : P.underlying ty = some d) (hd : d.isRow = true) (hi : (P.info? ty).map (·.size) = some cs.length)
    (h : K (a.put o.dst (.agg cs.toArray))) : o.quietIn F n P a C K :=
  ⟨.agg cs.toArray, fun w hw => by
    unfold Oper.quietAtIn execOp
    simp only [ho, hx, Instr.loadAt, Instr.sureAddr, Sem.run_bind, Sem.run_pure, Result.andThen_ok, run_loadVar_mid w b off ty cs d (hc w hw) hu hd hi]
    exact ⟨rfl, rfl⟩, h⟩

theorem KK.of {B : Nat} {W W' : World} (h : Below W.heap.size W W') : KeepsFrom B W W' := ⟨h.size, fun k _ _ hk _ => (h.block k (Array.getElem?_eq_some_iff.1 hk).1).trans hk⟩

set_option maxRecDepth 100000 in
set_option maxHeartbeats 4000000 in
theorem isLinked_any (w : World) (v : Value) (l : List Lk) (hv : LRow w w.heap.size v l) (hq : l.length ≤ 100000) (hT : Tab w) (h0 : 0 < w.heap.size) :
    Calls Tryd.prog 64 #[v] w fun e w' => e = .returned (.bool (lnk l)) ∧ Below w.heap.size w w' := by
  have hv0 := hv
  obtain ⟨hok, a, cap, rfl, h1, h2, h3⟩ := hv
  obtain ⟨N, hN⟩ : ∃ N, l.length = N := ⟨_, rfl⟩
  rw [hN] at h1 hq hv0 ⊢
  have hmem : ∀ W, Below w.heap.size w W → ∀ t (ht : t < N), ∃ b off x ps, l[t]? = some x ∧ x.prev.length = 32 ∧ a = some ⟨b, off, none⟩ ∧ b < w.heap.size ∧ cells8 x.prev = ps ∧ ps.length = 32 ∧ W.rangeAt b (off + t * 35 + 2) ps := by
    intro W hW t ht
    rw [← hN] at ht
    rcases h3 with rfl | ⟨b, off, h4, h5, h6⟩
    · exact absurd ht (by simp)
    · obtain ⟨d, h7, _⟩ := h6 t ht
      have hx := hok _ (List.getElem_mem ht)
      refine ⟨b, off, l[t], _, List.getElem?_eq_getElem ht, hx.1, h4, h5, rfl, by rw [cells8_len, hx.1], fun j v hj => ?_⟩
      have := h7 (2 + j) v (lcells_prev _ d hx.1 j v hj)
      rw [← Nat.add_assoc] at this
      exact (hW.cell (p := ⟨b, off + t * 35 + 2 + j, none⟩) h5).trans this
  have HM := Lib.hid hmem
  have HT := Lib.hid hT
  have HV := Lib.hid hv0
  have HN := Lib.hid hN
  have HCM := Lib.hid h2
  clear hmem hT hv0 hN h2 h3 hok
  refine (callsIn_wide (n := 9)).1 ?_
  refine callsIn_of_wp_marks Tryd.func64 rfl trivial ?_ rfl
  simp only [Tryd.ntmps64, List.size_toArray, List.length_cons, List.length_nil, Nat.reduceAdd, Nat.reduceSub, Array.replicate_succ, Array.replicate_zero, List.push_toArray, List.append_toArray, List.nil_append, List.cons_append]
  gi_wp2_with fail
  refine ⟨trivial, ?_⟩
  refine (callsIn_wide.2 (beginnings_any _ _ ⟨_, _, _, rfl⟩)).mono ?_
  rintro e w2 ⟨rfl, hc2, hb2, hz2⟩
  have hz1 : ((w.alloc (Obj.cells #[.slice a N cap] 44)).alloc (Obj.cells #[.bool false] 4)).heap.size = w.heap.size + 2 := by simp
  rw [hz1] at hc2 hz2 hb2
  have hA0 : Arr w2 w.heap.size [.slice a N cap] := ((Arr.new w #[.slice a N cap] 44).alloc (by simp) _).below hb2 (by omega)
  have hA1 : Arr w2 (w.heap.size + 1) [.bool false] := by
    have h := Arr.new (w.alloc (Obj.cells #[.slice a N cap] 44)) #[.bool false] 4
    rw [World.size_alloc] at h
    exact h.below hb2 (by omega)
  have hBw : Below w.heap.size w w2 := (((Below.refl w.heap.size w).alloc (Nat.le_refl _) _).alloc (by simp) _).trans (hb2.mono (by omega))
  have HA0 := Lib.hid hA0
  have HA1 := Lib.hid hA1
  have HBW := Lib.hid hBw
  have HC2 := Lib.hid hc2
  clear hA0 hA1 hBw hc2 hb2 hz1
  gi_wp2_with fail
  have hI0 : Below w2.heap.size w2 w2 ∧ ∀ x ∈ ([] : List (Fin N)), okAt l x.val = true := ⟨Below.refl _ _, fun x hx => by cases hx⟩
  have HI0 := Lib.hid hI0
  have hw2 : w.heap.size < w2.heap.size := by omega
  have hLw : LRow w2 w2.heap.size (.slice a N cap) l := (HV.out.below HBW.out).mono (by omega)
  have HLW := Lib.hid hLw
  have hTw : Tab w2 := HT.out.below HBW.out h0
  have HTW := Lib.hid hTw
  clear hI0 hLw hTw
  refine wpIn_rangeFunc_ownH rfl (by omega) (gf := 99) (lb := #[.pointer (some ⟨w.heap.size + 2, 0, none⟩)]) rfl trivial (enters_of Tryd.func99 (by kernel_rfl) rfl)
    (beg_seq 8 (by omega) (w.heap.size + 2) w2.heap.size N cap a l HN.out (by omega) HCM.out (by omega) (by omega) w2 (Nat.le_refl _) HC2.out HLW.out HTW.out)
    Below.trans (belowK_b (Nat.le_refl _)) (Below.refl _ _) (fun _ => rfl)
    (fun pre W => Below w2.heap.size w2 W ∧ ∀ x ∈ pre, okAt l x.val = true)
    (fun c _ W => c = Code.ret ∧ Below w.heap.size w W ∧ W.cell? ⟨w.heap.size + 1, 0, none⟩ = some (.bool false) ∧ lnk l = false)
    (by
      rintro pre W W' row ⟨k1, k2⟩ hg hr
      exact ⟨k1.grown hg k1.size (fun k e => (hr k e).1), k2⟩)
    (fun c => by
      rintro pre W W' row ⟨k1, k2, k3, k4⟩ hg hr
      exact ⟨k1, k2.grown hg k2.size (fun k e => by have := (hr k e).1; omega), cell_kept k3 hg (fun r e => (hr r e).2), k4⟩)
    HI0.out
    (fun x a' W => ∃ g', w2.heap.size ≤ g' ∧ a' = { tmps := #[.slice a N cap, .pointer (some ⟨w.heap.size, 0, none⟩), .pointer (some ⟨w.heap.size + 1, 0, none⟩), .slice a x.val cap, .pointer (some ⟨g', 0, none⟩), .slice a N cap, .func (.func 99) #[] #[.pointer (some ⟨w.heap.size + 1 + 1, 0, none⟩)], .slice a x.val cap, dv (hd (l.take x.val)), undef, undef, undef, undef, undef, undef, undef, undef], defers := [] } ∧ W.rangeAt g' 0 (cells8 (hd (l.take x.val)))) ?hax ?assign ?body ?done ?stop
  case hax =>
    rintro x a' u W W' row ⟨g', h1, h2, h3⟩ hg hr
    exact ⟨g', h1, h2, fun j v hv => cell_kept (h3 j v hv) hg (fun r e => (hr r e).2)⟩
  case assign =>
    intro lp pre x W K hI hK
    have HI := Lib.hid hI
    have HKK := Lib.hid hK
    clear hI hK
    have hcl : (cells8 (hd (l.take x.val))).length = 32 := by rw [cells8_len, hd_len]
    have HZ : Hid ((Tryd.prog.info? 30).map (·.size) = some (cells8 (hd (l.take x.val))).length) := by show _ = _; rw [hcl]; exact Tryd.info30
    have HO : Hid (∀ v ∈ cells8 (hd (l.take x.val)), v.oneCell' = true) := Lib.hid (one_cells8 _)
    have HCL := Lib.hid hcl
    clear hcl
    unfold begV
    rw [dv_eq]
    obtain ⟨cs, hcs⟩ : ∃ cs, cells8 (hd (l.take x.val)) = cs := ⟨_, rfl⟩
    rw [hcs] at HZ HO HCL ⊢
    have HCS := Lib.hid hcs
    clear hcs
    have hD0 := Arr.new W (Array.replicate 32 (.int .u8 0)) 30
    have HD0 := Lib.hid hD0
    clear hD0
    gi_wp2_with (refine store_newIn rfl 30 _ _ (by rfl) W.heap.size W.heap.size cs _ (by rfl) (by rfl) ((Below.refl W.heap.size W).alloc (Nat.le_refl _) _) (Nat.le_refl _) HD0.out (by rw [HCL.out]; simp) HZ.out HO.out ?_; intro W8 hB8 hA8 ho8)
    exact HKK.out _ _ (KK.of hB8) (hB8.mono HI.out.1.size) ⟨HI.out.1.trans (hB8.mono HI.out.1.size), HI.out.2⟩ ⟨W.heap.size, HI.out.1.size, by rw [dv_eq, HCS.out]; rfl, by rw [HCS.out]; exact hA8.at_⟩
  case body =>
    rintro lp pre x a' W _ _ hI ⟨g', hg', rfl, hr⟩ hlen
    have hxN : x.val < N := x.isLt
    have hwW : Below w.heap.size w W := HBW.out.trans (hI.1.mono (by omega))
    obtain ⟨b, off, y, ps, hy, hp32, rfl, hbl, hps, hpl, hpr⟩ := HM.out W hwW x.val hxN
    have hok : okAt l x.val = decide (y.prev = hd (l.take x.val)) := by unfold okAt; rw [hy]
    have hq2 := dig_eq y.prev (hd (l.take x.val)) hp32 (hd_len _)
    rw [dv_eq, dv_eq, hps] at hq2
    have hcl : (cells8 (hd (l.take x.val))).length = 32 := by rw [cells8_len, hd_len]
    rw [dv_eq]
    obtain ⟨cs, hcs⟩ : ∃ cs, cells8 (hd (l.take x.val)) = cs := ⟨_, rfl⟩
    rw [hcs] at hq2 hcl hr ⊢
    obtain ⟨B, hB⟩ : ∃ B, okAt l x.val = B := ⟨_, rfl⟩
    rw [← hok, hB] at hq2
    have HOK := Lib.hid hB
    have HPL := Lib.hid (show (Tryd.prog.info? 30).map (·.size) = some ps.length by rw [hpl]; exact Tryd.info30)
    have HCL := Lib.hid (show (Tryd.prog.info? 30).map (·.size) = some cs.length by rw [hcl]; exact Tryd.info30)
    have c0 : W.cell? ⟨w.heap.size, 0, none⟩ = some (.slice (some ⟨b, off, none⟩) N cap) := (hI.1.cell (p := ⟨w.heap.size, 0, none⟩) hw2).trans (HA0.out.cell rfl)
    have A1 : Arr W (w.heap.size + 1) [.bool false] := HA1.out.below hI.1 (by omega)
    have c1 : W.cell? ⟨w.heap.size + 1, 0, none⟩ = some (.bool false) := A1.cell rfl
    have f1 : W.frozen? ⟨w.heap.size + 1, 0, none⟩ = false := A1.frozen (by simp)
    have HI := Lib.hid hI
    have HWW := Lib.hid hwW
    have HPR : Hid (∀ W', (∃ q, W' = W.drewN q) → W'.rangeAt b (off + x.val * 35 + 2) ps) := Lib.hid (by rintro _ ⟨q, rfl⟩; exact fun j v hv => (World.cell?_drewN _ _ _).trans (hpr j v hv))
    have HHR : Hid (∀ W', (∃ q, W' = W.drewN q) → W'.rangeAt g' 0 cs) := Lib.hid (by rintro _ ⟨q, rfl⟩; exact fun j v hv => (World.cell?_drewN _ _ _).trans (hr j v hv))
    have kc : (x.val : Int) < (N : Int) := by omega
    have HAR := Lib.hid A1
    clear hB hok hy hps hpl hpr hcs hcl hr hI hwW hp32 A1
    gi_wp2_with fail
    refine wpIn_region_quiet_round (F := Fence.wide) rfl (by rfl) (by kernel_rfl) (by kernel_rfl) ?_
    repeat (gi_big_quiet_want; first
      | (refine quietIn_load_mid 30 _ (by rfl) b (off + x.val * 35 + 2) (by rfl) ps _ HPR.out Tryd.underlying30 rfl HPL.out ?_; simp only [Act.put, List.setIfInBounds_toArray, List.set_cons_zero, List.set_cons_succ]; go_big_quiet_on)
      | (refine quietIn_load_mid 30 _ (by rfl) g' 0 (by rfl) cs _ HHR.out Tryd.underlying30 rfl HCL.out ?_; simp only [Act.put, List.setIfInBounds_toArray, List.set_cons_zero, List.set_cons_succ]; go_big_quiet_on)
      | (gi_big_quiet_op; go_big_quiet_on))
    refine wpQuietIn_nil ?_
    rintro _ ⟨nq, rfl⟩
    have hbq : Below W.heap.size W (W.drewN nq) := below_drewN (Below.refl _ _) _
    have e1 := hbq.size
    have HBQ := Lib.hid hbq
    clear hbq
    cases B with
    | true =>
      gi_wp2_with fail
      exact ⟨KK.of HBQ.out, HBQ.out.mono HI.out.1.size, HI.out.1.trans (HBQ.out.mono HI.out.1.size), fun z hz => by
        rcases List.mem_append.1 hz with h | h
        · exact HI.out.2 z h
        · simp only [List.mem_singleton] at h; rw [h]; exact HOK.out⟩
    | false =>
      have c1q : (W.drewN nq).cell? ⟨w.heap.size + 1, 0, none⟩ = some (.bool false) := (World.cell?_drewN _ _ _).trans c1
      have f1q : (W.drewN nq).frozen? ⟨w.heap.size + 1, 0, none⟩ = false := (World.frozen?_drewN _ _ _).trans f1
      gi_wp2_with fail
      refine ⟨(KK.of HBQ.out).trans ((KeepsOthers.setCell _ _ _).from _), rfl, (HWW.out.trans (HBQ.out.mono HWW.out.size)).setCell (by show w.heap.size ≤ w.heap.size + 1; omega) _, ?_, ?_⟩
      · exact ((HAR.out.below HBQ.out (by have := HI.out.1.size; omega)).set 0 (.bool false)).cell rfl
      · refine Bool.eq_false_iff.2 fun h => ?_
        have := List.all_eq_true.1 h x.val (List.mem_range.2 (by rw [HN.out]; exact x.isLt))
        rw [HOK.out] at this; cases this
  case done =>
    rintro D xs W hD hxs ⟨hI1, hI2⟩ hK
    have hall : lnk l = true := List.all_eq_true.2 fun i hi => by
      rw [HN.out, ← hxs] at hi
      obtain ⟨z, hz, rfl⟩ := List.mem_map.1 hi
      exact hI2 z hz
    have hDW : D < W.heap.size := (Array.getElem?_eq_some_iff.1 hK).1
    have A1 : Arr W (w.heap.size + 1) [.bool false] := HA1.out.below hI1 (by omega)
    have c1 : W.cell? ⟨w.heap.size + 1, 0, none⟩ = some (.bool false) := A1.cell rfl
    have f1 : W.frozen? ⟨w.heap.size + 1, 0, none⟩ = false := A1.frozen (by simp)
    obtain ⟨WF, hWF⟩ : ∃ WF, W.setCell ⟨w.heap.size + 1, 0, none⟩ (.bool true) = WF := ⟨_, rfl⟩
    have hKF : WF.heap[D]? = some (.deferred (some [])) := by rw [← hWF]; exact (KeepsOthers.setCell _ _ _).same D _ hK rfl
    have hAF : Arr WF (w.heap.size + 1) [.bool true] := by rw [← hWF]; exact A1.set 0 _
    have hBF : Below w.heap.size w WF := by rw [← hWF]; exact (HBW.out.trans (hI1.mono (by omega))).setCell (by show w.heap.size ≤ w.heap.size + 1; omega) _
    have hPF : Below w2.heap.size WF (WF.putObj D (.deferred none)) := (Below.refl _ WF).grown (grownBy_putObj' WF D _) (by rw [← hWF]; simp; exact hI1.size) (fun k e => by cases e; omega)
    have q : (WF.putObj D (.deferred none)).cell? ⟨w.heap.size + 1, 0, none⟩ = some (.bool true) := (hPF.cell (p := ⟨w.heap.size + 1, 0, none⟩) (by show w.heap.size + 1 < _; omega)).trans (hAF.cell rfl)
    have HWF := Lib.hid hWF
    have HKF := Lib.hid hKF
    have HQ := Lib.hid q
    have HBP := Lib.hid (hBF.trans (hPF.mono (by omega)))
    clear hWF hKF hAF hBF hPF q hK hI1 hI2 hxs A1
    gi_wp2_with fail
    rw [HWF.out]
    have q := HQ.out
    refine ⟨by simp, .inl ⟨_, _, rfl, run_takeDeferred HKF.out, ?_⟩⟩
    exact ⟨.bool true, by simp [results, Tryd.results64, go_sem, q], by rw [hall], HBP.out⟩
  case stop =>
    rintro D c pre W hD _ ⟨rfl, hwW, hc, hl⟩ hK
    have hDW : D < W.heap.size := (Array.getElem?_eq_some_iff.1 hK).1
    have hPF : Below (w.heap.size + 2) W (W.putObj D (.deferred none)) := (Below.refl _ W).grown (grownBy_putObj' W D _) (by omega) (fun k e => by cases e; omega)
    have q : (W.putObj D (.deferred none)).cell? ⟨w.heap.size + 1, 0, none⟩ = some (.bool false) := (hPF.cell (p := ⟨w.heap.size + 1, 0, none⟩) (by show w.heap.size + 1 < _; omega)).trans hc
    have HBP := Lib.hid (hwW.trans (hPF.mono (by omega)))
    have HK := Lib.hid hK
    have HQ := Lib.hid q
    clear hPF q hK hwW hc
    gi_wp2_with fail
    have q := HQ.out
    refine ⟨by simp, .inl ⟨_, _, rfl, run_takeDeferred HK.out, ?_⟩⟩
    exact ⟨.bool false, by simp [results, Tryd.results64, go_sem, q], by rw [hl], HBP.out⟩
end Go.Proofs.YtfmngeemhfpeiaaDoor

namespace Go.Proofs.YtfmngeemhfpeiaaDoor
open Go.RowKit

/-- Is the link j wrong, digests aside? -/
def badAt (l : List Lk) (j : Nat) : Bool := match l[j]? with
  | some x => bad1 l j x
  | none => false
def numbered (l : List Lk) : Bool := (fstOf (badAt l) l.length).isNone

set_option maxRecDepth 100000 in
theorem isNumbered_any (w : World) (v : Value) (l : List Lk) (hv : LRow w w.heap.size v l) (hq : l.length ≤ 100000) :
    Calls Tryd.prog 63 #[v] w fun e w' => e = .returned (.bool (numbered l)) ∧ Below w.heap.size w w' := by
  have hv0 := hv
  obtain ⟨hok, a, cap, rfl, h1, h2, h3⟩ := hv
  have hf : ∀ W, Below w.heap.size w W → w.heap.size < W.heap.size → W.cell? ⟨w.heap.size, 0, none⟩ = some (.slice a l.length cap) →
      Calls Tryd.prog 71 #[.slice a l.length cap, .func (.func 86) #[] #[.pointer (some ⟨w.heap.size, 0, none⟩)]] W fun e w' => e = .returned (fstV (fstOf (badAt l) l.length)) ∧ Below W.heap.size W w' := fun W hW hlt hc =>
    first86_any W _ l w.heap.size (badAt l) ((hv0.below hW).mono hW.size) hq fun W' hW' j hj u hu => by
      have e : badAt l j = bad1 l j l[j] := by unfold badAt; rw [List.getElem?_eq_getElem hj]
      rw [e]
      exact num1_any W' w.heap.size _ l j u l[j] ((hW'.cell (p := ⟨w.heap.size, 0, none⟩) hlt).trans hc) (by have := hW'.size; omega) (((hv0.below hW).below (hW'.mono hW.size)).mono (by have := hW.size; have := hW'.size; omega)) (hok _ (List.getElem_mem hj)) hu
  obtain ⟨N, hN⟩ : ∃ N, l.length = N := ⟨_, rfl⟩
  have hnm : numbered l = (fstOf (badAt l) N).isNone := by unfold numbered; rw [hN]
  rw [hN] at hf ⊢
  rw [hnm]
  have HF := Lib.hid hf
  clear hf hv0 hok h1 h2 h3 hN hnm
  cases ho : fstOf (badAt l) N with
  | none =>
    rw [ho] at HF
    have HF2 : Hid (∀ W, Below w.heap.size w W → w.heap.size < W.heap.size → W.cell? ⟨w.heap.size, 0, none⟩ = some (.slice a N cap) → Calls Tryd.prog 71 #[.slice a N cap, .func (.func 86) #[] #[.pointer (some ⟨w.heap.size, 0, none⟩)]] W fun e w' => e = .returned (.tuple #[.int .i64 0, .bool false]) ∧ Below W.heap.size W w') := HF
    go_enter Tryd.func63, Tryd.ntmps63
    go_wp2_with fail
    refine (HF2.out _ (by go_grown) (by simp) (by go_cell)).mono ?_
    rintro e w1 ⟨rfl, hb⟩
    have hB : Below w.heap.size w w1 := ((Below.refl w.heap.size w).alloc (Nat.le_refl _) _).trans (hb.mono (by simp))
    have HB := Lib.hid hB
    clear hb hB ho
    go_wp2
    go_returns
    exact ⟨rfl, HB.out⟩
  | some i =>
    rw [ho] at HF
    have HF2 : Hid (∀ W, Below w.heap.size w W → w.heap.size < W.heap.size → W.cell? ⟨w.heap.size, 0, none⟩ = some (.slice a N cap) → Calls Tryd.prog 71 #[.slice a N cap, .func (.func 86) #[] #[.pointer (some ⟨w.heap.size, 0, none⟩)]] W fun e w' => e = .returned (.tuple #[.int .i64 i, .bool true]) ∧ Below W.heap.size W w') := HF
    go_enter Tryd.func63, Tryd.ntmps63
    go_wp2_with fail
    refine (HF2.out _ (by go_grown) (by simp) (by go_cell)).mono ?_
    rintro e w1 ⟨rfl, hb⟩
    have hB : Below w.heap.size w w1 := ((Below.refl w.heap.size w).alloc (Nat.le_refl _) _).trans (hb.mono (by simp))
    have HB := Lib.hid hB
    clear hb hB ho
    go_wp2
    go_returns
    exact ⟨rfl, HB.out⟩

/-- The error of Check. -/
def chk (l : List Lk) : Int := if 1024 < l.length then 2 else if numbered l && lnk l then 0 else 80

set_option maxRecDepth 100000 in
theorem check_any (w : World) (v : Value) (l : List Lk) (hv : LRow w w.heap.size v l) (hq : l.length ≤ 100000) (hT : Tab w) (h0 : 0 < w.heap.size) :
    Calls Tryd.prog 31 #[v] w fun e w' => e = .returned (.int .i64 (chk l)) ∧ Below w.heap.size w w' := by
  have hn : ∀ W, Below w.heap.size w W → Calls Tryd.prog 63 #[v] W fun e w' => e = .returned (.bool (numbered l)) ∧ Below W.heap.size W w' := fun W hW => isNumbered_any W v l ((hv.below hW).mono hW.size) hq
  have hl : ∀ W, Below w.heap.size w W → Calls Tryd.prog 64 #[v] W fun e w' => e = .returned (.bool (lnk l)) ∧ Below W.heap.size W w' := fun W hW => isLinked_any W v l ((hv.below hW).mono hW.size) hq (hT.below hW h0) (by have := hW.size; omega)
  obtain ⟨hok, a, cap, rfl, h1, h2, h3⟩ := hv
  obtain ⟨N, hN⟩ : ∃ N, l.length = N := ⟨_, rfl⟩
  have hc : chk l = if 1024 < N then 2 else if numbered l && lnk l then 0 else 80 := by unfold chk; rw [hN]
  rw [hN] at hn hl ⊢
  rw [hc]
  generalize numbered l = b1 at *
  generalize lnk l = b2 at *
  have HN := Lib.hid hn
  have HL := Lib.hid hl
  clear hn hl hok h1 h2 h3 hN hc hT hq
  by_cases hm : 1024 < N
  · have d1 : decide ((N : Int) > 1024) = true := by simp; omega
    have d2 : decide ((1024 : Int) < (N : Int)) = true := by simp; omega
    have d3 : decide (1024 < N) = true := by simp; omega
    have HM := Lib.hid hm
    clear hm
    go_enter Tryd.func31, Tryd.ntmps31
    go_wp2
    go_returns
    exact ⟨rfl, Below.refl _ _⟩
  · have d1 : decide ((N : Int) > 1024) = false := by simp; omega
    have d2 : decide ((1024 : Int) < (N : Int)) = false := by simp; omega
    have d3 : decide (1024 < N) = false := by simp; omega
    have HM := Lib.hid hm
    clear hm
    rw [if_neg HM.out]
    cases b1 with
    | false =>
      go_enter Tryd.func31, Tryd.ntmps31
      go_wp2_with fail
      refine (HN.out _ (Below.refl _ _)).mono ?_
      rintro e w1 ⟨rfl, hb⟩
      have HB := Lib.hid hb
      clear hb
      go_wp2
      go_returns
      exact ⟨rfl, HB.out⟩
    | true =>
      go_enter Tryd.func31, Tryd.ntmps31
      go_wp2_with fail
      refine (HN.out _ (Below.refl _ _)).mono ?_
      rintro e w1 ⟨rfl, hb⟩
      have HB := Lib.hid hb
      clear hb
      go_wp2_with fail
      refine (HL.out _ HB.out).mono ?_
      rintro e w2 ⟨rfl, hb2⟩
      have HB2 := Lib.hid (HB.out.trans (hb2.mono HB.out.size))
      clear hb2
      cases b2 with
      | false =>
        go_wp2
        go_returns
        exact ⟨rfl, HB2.out⟩
      | true =>
        go_wp2
        go_returns
        exact ⟨rfl, HB2.out⟩
end Go.Proofs.YtfmngeemhfpeiaaDoor
