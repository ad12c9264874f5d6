/- codec.write appends the encoding. -/
import Derived.Test.YtkecoohplpbgnaaSize
import Derived.Deep.DeepCutAuto
import Derived.Room.AppendFits
namespace Go.Proofs.Ytkecoohplpbgnaa
open Go.RowKit

theorem bcell {W w1 : World} (hb : Below W.heap.size W w1) : (∀ b o, b < W.heap.size → w1.cell? ⟨b, o, none⟩ = W.cell? ⟨b, o, none⟩) ∧ (∀ b o, b < W.heap.size → w1.frozen? ⟨b, o, none⟩ = W.frozen? ⟨b, o, none⟩) :=
  ⟨fun b o h => hb.cell (p := ⟨b, o, none⟩) h, fun b o h => hb.frozen (p := ⟨b, o, none⟩) h⟩
theorem Kept.alloc {w1 W : World} (h : Kept w1 W) (o : Obj) : Kept w1 (W.alloc o) := Below.alloc h h.size o
theorem Kept.set {w1 W : World} (h : Kept w1 W) {p : Addr} (hp : w1.heap.size ≤ p.block) (u : Value) : Kept w1 (W.setCell p u) := Below.setCell h hp u

/-- A slot points to a new writer. -/
def NewWriter (w1 : World) (F G : FuncId) (s5 : Value) (wx : World) : Prop :=
  ∃ p : Nat, s5 = .pointer (some ⟨p, 0, none⟩) ∧ w1.heap.size ≤ p ∧ p < wx.heap.size ∧ wx.cell? ⟨p, 0, none⟩ = some (.func (.func F) #[] #[]) ∧ wx.cell? ⟨p, 1, none⟩ = some (.func (.func G) #[] #[]) ∧ Kept w1 wx
theorem NewWriter.new {w1 W : World} {F G : FuncId} (h : Kept w1 W) : NewWriter w1 F G (.pointer (some ⟨W.heap.size, 0, none⟩)) (W.alloc (.cells #[.func (.func F) #[] #[], .func (.func G) #[] #[]] 58)) :=
  ⟨_, rfl, h.size, by simp, by rw [World.cell?_alloc_new]; rfl, by rw [World.cell?_alloc_new]; rfl, h.alloc _⟩
theorem NewWriter.old {w1 W : World} {F G : FuncId} {b : Nat} (h : Kept w1 W) (hb : w1.heap.size ≤ b) (hz : b < W.heap.size) (h0 : W.cell? ⟨b, 0, none⟩ = some .nilFunc) (h1 : W.cell? ⟨b, 1, none⟩ = some .nilFunc) :
    NewWriter w1 F G (.pointer (some ⟨b, 0, none⟩)) ((W.setCell ⟨b, 0, none⟩ (.func (.func F) #[] #[])).setCell ⟨b, 1, none⟩ (.func (.func G) #[] #[])) := by
  have e0 : (W.setCell ⟨b, 0, none⟩ (.func (.func F) #[] #[])).cell? ⟨b, 0, none⟩ = some (.func (.func F) #[] #[]) := World.cell?_setCell_same _ _ _ h0
  have e1 : (W.setCell ⟨b, 0, none⟩ (.func (.func F) #[] #[])).cell? ⟨b, 1, none⟩ = some .nilFunc := (World.cell?_setCell_other _ _ _ _ (by simp)).trans h1
  exact ⟨b, rfl, hb, by simpa using hz, (World.cell?_setCell_other _ _ _ _ (by simp)).trans e0, World.cell?_setCell_same _ _ _ e1, (h.set hb _).set hb _⟩

/-- What codec.write is to do with a tree. -/
def CWrite (x : V) : Prop := ∀ (w : World) (B : Nat) (v : Value) (g n cap : Nat) (l : List UInt8), x.formed = true → B ≤ g → B ≤ w.heap.size → V.At w B x v → Spare w g n cap l → n + x.enc.length ≤ cap →
  Calls Try.prog 26 #[.slice (some ⟨g, 0, none⟩) n cap, v] w fun e w' => e = .returned (.slice (some ⟨g, 0, none⟩) (n + x.enc.length) cap) ∧ Spare w' g (n + x.enc.length) cap (l ++ x.enc) ∧ w.grownBy w' (some g)

/-- A world that has grown, but for what is appended to one row. -/
def GKept (w1 : World) (g m cap : Nat) (l : List UInt8) (W : World) : Prop := w1.grownBy W (some g) ∧ Spare W g m cap l
theorem GKept.refl {w1 : World} {g m cap : Nat} {l : List UInt8} (h : Spare w1 g m cap l) : GKept w1 g m cap l w1 := ⟨World.grownBy.refl _ _, h⟩
theorem Spare.drew {w : World} {g m cap : Nat} {l : List UInt8} (h : Spare w g m cap l) : Spare w.drew g m cap l := h
theorem GKept.drew {w1 W : World} {g m cap : Nat} {l : List UInt8} (h : GKept w1 g m cap l W) : GKept w1 g m cap l W.drew := ⟨⟨h.1.os, h.1.tape, h.1.output, h.1.size, h.1.block⟩, h.2⟩
theorem GKept.alloc {w1 W : World} {g m cap : Nat} {l : List UInt8} (h : GKept w1 g m cap l W) (o : Obj) : GKept w1 g m cap l (W.alloc o) := ⟨gtrans h.1 (World.grownBy_alloc _ _ _), World.ownsRow.alloc h.2 o⟩
theorem Spare.below {w w' : World} {g m cap : Nat} {l : List UInt8} (h : Spare w g m cap l) (hb : Below w.heap.size w w') : Spare w' g m cap l := World.ownsRow.kept h (gbelow (row := none) hb) (.inr (by simp [Value.ownBlock]))
theorem GKept.below {w1 W W' : World} {g m cap : Nat} {l : List UInt8} (h : GKept w1 g m cap l W) (hb : Below W.heap.size W W') : GKept w1 g m cap l W' := ⟨gtrans h.1 (gbelow hb), h.2.below hb⟩
theorem Spare.lt {w : World} {g m cap : Nat} {l : List UInt8} (h : Spare w g m cap l) : g < w.heap.size := (World.ownsRow.lt h g rfl).2
theorem Spare.len {w : World} {g m cap : Nat} {l : List UInt8} (h : Spare w g m cap l) : l.length = m := by have := h.1; simpa [cells8] using this
theorem Spare.pre {w : World} {g m k cap : Nat} {l l2 : List UInt8} (h : Spare w g (m + k) cap (l ++ l2)) (hl : l.length = m) : Spare w g m cap l := by
  obtain ⟨h1, h2⟩ := h
  refine ⟨by simp [cells8, hl], ?_⟩
  rcases h2 with ⟨h3, _⟩ | ⟨g', cap', cur, hv, hbg, hg, hnc, hcm, hcs, htake⟩
  · cases h3
  · cases hv
    refine .inr ⟨g, cap, cur, rfl, hbg, hg, by omega, hcm, hcs, ?_⟩
    have e : cur.toList.take (m * 1) = (cur.toList.take ((m + k) * 1)).take (m * 1) := by rw [List.take_take]; congr 1; omega
    rw [e, htake]
    unfold cells8
    rw [List.map_append, List.take_left' (by simp [hl])]
theorem GKept.app {w1 W W' : World} {g m k cap : Nat} {l l2 : List UInt8} (h : GKept w1 g m cap l W) (hs : Spare W' g (m + k) cap (l ++ l2)) (hg : W.grownBy W' (some g)) : GKept w1 g m cap l W' :=
  ⟨gtrans h.1 hg, hs.pre h.2.len⟩
theorem GKept.cell {w1 W : World} {g m cap : Nat} {l : List UInt8} (h : GKept w1 g m cap l W) {b o : Nat} {v : Value} (hv : w1.cell? ⟨b, o, none⟩ = some v) (hb : b ≠ g) : W.cell? ⟨b, o, none⟩ = some v :=
  h.1.cell hv (by simpa using hb)

/-- A byte is appended, as a step of a region that draws its order. -/
theorem step_byte {ops : Array Oper} {o : Oper} {a : Act} {w : World} {K : Act → World → Prop} {Q : Exit → Act → World → Prop} {E : Prop} (hgd : o.guard = none) (s x : Operand)
    (ho : o.op = .call { callee := .builtin .append, args := #[s, x], argTypes := #[27, 27] }) (g n cap : Nat) (l : List UInt8) (hs : a.eval s = .slice (some ⟨g, 0, none⟩) n cap) (hsp : Spare w g n cap l)
    (B : Nat) (c : UInt8) (c' : Int) (hcc : c' = c.toNat) (hx : a.eval x = .slice (some ⟨B, 0, none⟩) 1 1) (hc : w.cell? ⟨B, 0, none⟩ = some (.int .u8 c')) (hroom : n + 1 ≤ cap)
    (h : ∀ w', Spare w' g (n + 1) cap (l ++ [c]) → w.grownBy w' (some g) → K (a.put o.dst (.slice (some ⟨g, 0, none⟩) (n + 1) cap)) w') :
    if Region.wanted o (yielded ops a.tmps) = true then Oper.wp Try.prog o a w K Q else E := by
  subst hcc
  have hw : Region.wanted o (yielded ops a.tmps) = true := by simp [Region.wanted, hgd]
  rw [if_pos hw]
  obtain ⟨i0, hi, hz0, hz1, hz2⟩ := info_parts Try.info5
  refine wp_append_own_spare w s x 27 ho 0 5 i0 1 Try.underlying27 hi hz1 g n cap _ hs hsp ⟨B, 0, none⟩ 1 1 [.int .u8 c.toNat] hx rfl ?_ (by intro u hu; simp at hu; subst hu; rfl) hroom ?_
  · intro j u hj
    cases j with
    | zero => simp at hj; subst hj; exact hc
    | succ j => simp at hj
  · intro w' h1 h2
    refine h w' ?_ h2
    unfold Spare cells8 at *
    rw [List.map_append]
    exact h1

set_option maxHeartbeats 1000000 in
theorem write_1 (n : Int) (s : ByteArray) (a : Option Addr) (len cp : Nat) (w : World) (g m cap : Nat) (l l2 : List UInt8) (hsp : Spare w g m cap l) (u : Nat) (hu : u < 18446744073709551616) (hr : m + 1 + (num u).length + l2.length ≤ cap)
    (hN : ∀ W, Calls Try.prog 49 #[.agg #[.int .i64 1, .int .i64 n, .string s, .slice a len cp]] W fun e w' => e = .returned (.int .u64 (u : Nat)) ∧ Below W.heap.size W w')
    (hR : ∀ W, w.grownBy W (some g) → Spare W g (m + 1 + (num u).length) cap (l ++ [1] ++ num u) → Calls Try.prog 50 #[.slice (some ⟨g, 0, none⟩) (m + 1 + (num u).length) cap, .agg #[.int .i64 1, .int .i64 n, .string s, .slice a len cp]] W
      fun e w' => e = .returned (.slice (some ⟨g, 0, none⟩) (m + 1 + (num u).length + l2.length) cap) ∧ Spare w' g (m + 1 + (num u).length + l2.length) cap (l ++ [1] ++ num u ++ l2) ∧ W.grownBy w' (some g)) :
    Calls Try.prog 26 #[.slice (some ⟨g, 0, none⟩) m cap, .agg #[.int .i64 1, .int .i64 n, .string s, .slice a len cp]] w
      fun e w' => e = .returned (.slice (some ⟨g, 0, none⟩) (m + 1 + (num u).length + l2.length) cap) ∧ Spare w' g (m + 1 + (num u).length + l2.length) cap (l ++ [1] ++ num u ++ l2) ∧ w.grownBy w' (some g) := by
  have hg : g < w.heap.size := hsp.lt
  obtain ⟨w1, hw1⟩ : ∃ w1, w1 = w.alloc (Obj.cells #[Value.int IntKind.i64 1, Value.int IntKind.i64 n, Value.string s, Value.slice a len cp] 24) := ⟨_, rfl⟩
  have hz1 : w1.heap.size = w.heap.size + 1 := by rw [hw1]; simp
  have hB1 : Below w.heap.size w w1 := by rw [hw1]; go_grown
  have hsp1 := hsp.below hB1
  have c0 : ∀ W, Kept w1 W → W.cell? ⟨w.heap.size, 0, none⟩ = some (.int .i64 1) := fun W hW => (hW.below.cell (by simp; omega)).trans (by rw [hw1]; go_cell)
  have c1 : ∀ W, Kept w1 W → W.cell? ⟨w.heap.size, 1, none⟩ = some (.int .i64 n) := fun W hW => (hW.below.cell (by simp; omega)).trans (by rw [hw1]; go_cell)
  have c2 : ∀ W, Kept w1 W → W.cell? ⟨w.heap.size, 2, none⟩ = some (.string s) := fun W hW => (hW.below.cell (by simp; omega)).trans (by rw [hw1]; go_cell)
  have c3 : ∀ W, Kept w1 W → W.cell? ⟨w.heap.size, 3, none⟩ = some (.slice a len cp) := fun W hW => (hW.below.cell (by simp; omega)).trans (by rw [hw1]; go_cell)
  have hA : ∀ W, Kept w1 W → Calls Try.prog 38 #[] W fun e w' => e = .returned (.agg #[.nilFunc, .nilFunc, .func (.func 49) #[] #[], .func (.func 50) #[] #[], .func (.func 51) #[] #[], .func (.func 52) #[] #[], .func (.func 53) #[] #[], .func (.func 54) #[] #[]]) ∧ Kept w1 w' ∧ Below W.heap.size W w' :=
    fun W hW => (writers_any W).mono fun e w' h => ⟨h.1, hW.next h.2, h.2⟩
  have i1 := idx_1
  unfold wrArr at i1
  have HA := Lib.hid hA
  have HN := Lib.hid hN
  have HR := Lib.hid hR
  have HW := Lib.hid hw1
  have HSP := Lib.hid hsp
  have HSP1 := Lib.hid hsp1
  have HC := Lib.hid (And.intro c1 (And.intro c2 c3))
  clear hA hN hR hw1 hsp hsp1 c1 c2 c3
  go_enter Try.func26, Try.ntmps26
  go_upto_region 1 with fail
  rw [← HW.out]
  go_cut [5] (fun s5 wx => NewWriter w1 49 50 s5 wx)
  case first =>
    go_region_held3 (fun W => Kept w1 W) (first | assumption | exact Kept.drew (Kept.refl _) | exact Kept.alloc (by assumption) _ | exact Kept.set (Kept.set (by assumption) (by show w1.heap.size ≤ _; simp; omega) _) (by show w1.heap.size ≤ _; simp; omega) _)
      (first | (go_at_call 38; refine (HA.out _ (by assumption)).mono ?_; rintro e w' ⟨rfl, hK, hb⟩; obtain ⟨hc, hf⟩ := bcell hb))
    all_goals go_wp2_with fail
    all_goals go_meet
    all_goals first
      | exact NewWriter.new (by assumption)
      | exact NewWriter.old (by assumption) (by omega) (by have := hb.size; simp at this; omega) ((hc _ _ (by simp; omega)).trans (by rw [← hz1]; simp)) ((hc _ _ (by simp; omega)).trans (by rw [← hz1]; simp))
  case rest =>
    obtain ⟨p, rfl, hp1, hp2, d0, d1, hK0⟩ := hcut
    have b0 := c0 _ hK0
    have b1 := HC.out.1 _ hK0
    have b2 := HC.out.2.1 _ hK0
    have b3 := HC.out.2.2 _ hK0
    have hspc := HSP1.out.below hK0.below
    have hwg : w.grownBy wc (some g) := gtrans (gbelow hB1) (gbelow hK0.below)
    have hng : w.heap.size ≠ g := by omega
    have hnp : p ≠ g := by omega
    have k0 : ∀ W, GKept wc g m cap l W → W.cell? ⟨w.heap.size, 0, none⟩ = some (.int .i64 1) := fun W hW => hW.cell b0 hng
    have k1 : ∀ W, GKept wc g m cap l W → W.cell? ⟨w.heap.size, 1, none⟩ = some (.int .i64 n) := fun W hW => hW.cell b1 hng
    have k2 : ∀ W, GKept wc g m cap l W → W.cell? ⟨w.heap.size, 2, none⟩ = some (.string s) := fun W hW => hW.cell b2 hng
    have k3 : ∀ W, GKept wc g m cap l W → W.cell? ⟨w.heap.size, 3, none⟩ = some (.slice a len cp) := fun W hW => hW.cell b3 hng
    have k4 : ∀ W, GKept wc g m cap l W → W.cell? ⟨p, 0, none⟩ = some (.func (.func 49) #[] #[]) := fun W hW => hW.cell d0 hnp
    have k5 : ∀ W, GKept wc g m cap l W → W.cell? ⟨p, 1, none⟩ = some (.func (.func 50) #[] #[]) := fun W hW => hW.cell d1 hnp
    have hN2 : ∀ W, GKept wc g m cap l W → Calls Try.prog 49 #[.agg #[.int .i64 1, .int .i64 n, .string s, .slice a len cp]] W fun e w' => e = .returned (.int .u64 (u : Nat)) ∧ GKept wc g m cap l w' ∧ Below W.heap.size W w' :=
      fun W hW => (HN.out W).mono fun e w' h => ⟨h.1, hW.below h.2, h.2⟩
    have hD : GKept wc g m cap l wc.drew := (GKept.refl hspc).drew
    have hAl : ∀ W o, GKept wc g m cap l W → GKept wc g m cap l (W.alloc o) := fun W o hW => hW.alloc o
    have hAp : ∀ W W' k l2, GKept wc g m cap l W → Spare W' g (m + k) cap (l ++ l2) → W.grownBy W' (some g) → GKept wc g m cap l W' := fun W W' k l2 hW h1 h2 => hW.app h1 h2
    have hGs : ∀ W, GKept wc g m cap l W → Spare W g m cap l := fun W hW => hW.2
    have hGg : ∀ W, GKept wc g m cap l W → w.grownBy W (some g) := fun W hW => gtrans hwg hW.1
    have hr1 : m + 1 ≤ cap := by omega
    have hr2 : m + 1 + (num u).length ≤ cap := by omega
    have HN2 := Lib.hid hN2
    have HD := Lib.hid hD
    have HAL := Lib.hid hAl
    have HAP := Lib.hid hAp
    have HGS := Lib.hid hGs
    have HGG := Lib.hid hGg
    clear hN2 hD hAl hAp hGs hGg hwg hspc b0 b1 b2 b3 d0 d1 hK0 c0 HC i1
    go_upto_region 2 with fail
    go_cut [0] (fun s0 wx => s0 = .slice (some ⟨g, 0, none⟩) (m + 1 + (num u).length) cap ∧ Spare wx g (m + 1 + (num u).length) cap (l ++ [1] ++ num u) ∧ GKept wc g m cap l wx)
    case first =>
      go_region_held3 (fun W => GKept wc g m cap l W) (first | assumption | exact HD.out | exact HAL.out _ _ (by assumption) | exact HAP.out _ _ 1 [1] (by assumption) hown1 hgrow1 | exact HAP.out _ _ (1 + (num u).length) ([1] ++ num u) (by assumption) (by rw [← Nat.add_assoc, ← List.append_assoc]; assumption) hgrow2)
        (first
          | (refine step_byte (by rfl) _ _ (by rfl) g m cap l (by rfl) (HGS.out _ (by assumption)) _ 1 (IntKind.u8.wrap 1) (by decide) (by rfl) (by simp) hr1 ?_; intro w1 hown1 hgrow1)
          | (go_at_call 49; refine (HN2.out _ (by assumption)).mono ?_; rintro e w' ⟨rfl, hK, hbN⟩)
          | (go_at_call 39; refine (wrNum g cap u hu (m + 1) (l ++ [1]) _ (by first | exact hown1 | exact hown1.below hbN) hr2).mono ?_; rintro e w'' ⟨rfl, hs2, hgrow2⟩))
      all_goals go_wp2_with fail
      all_goals go_meet
      all_goals exact ⟨rfl, hs2, by assumption⟩
    case rest =>
      obtain ⟨rfl, hs3, hK3⟩ := hcut
      have hgg := HGG.out _ hK3
      clear hp1 hp2 hng hnp
      go_wp2_with fail
      refine (HR.out _ hgg hs3).mono ?_
      rintro e w4 ⟨rfl, hs4, hg4⟩
      go_wp2
      go_ret
      exact ⟨rfl, hs4, gtrans hgg hg4⟩

set_option maxHeartbeats 1000000 in
theorem write_2 (n : Int) (s : ByteArray) (a : Option Addr) (len cp : Nat) (w : World) (g m cap : Nat) (l l2 : List UInt8) (hsp : Spare w g m cap l) (u : Nat) (hu : u < 18446744073709551616) (hr : m + 1 + (num u).length + l2.length ≤ cap)
    (hN : ∀ W, Calls Try.prog 51 #[.agg #[.int .i64 2, .int .i64 n, .string s, .slice a len cp]] W fun e w' => e = .returned (.int .u64 (u : Nat)) ∧ Below W.heap.size W w')
    (hR : ∀ W, w.grownBy W (some g) → Spare W g (m + 1 + (num u).length) cap (l ++ [2] ++ num u) → Calls Try.prog 52 #[.slice (some ⟨g, 0, none⟩) (m + 1 + (num u).length) cap, .agg #[.int .i64 2, .int .i64 n, .string s, .slice a len cp]] W
      fun e w' => e = .returned (.slice (some ⟨g, 0, none⟩) (m + 1 + (num u).length + l2.length) cap) ∧ Spare w' g (m + 1 + (num u).length + l2.length) cap (l ++ [2] ++ num u ++ l2) ∧ W.grownBy w' (some g)) :
    Calls Try.prog 26 #[.slice (some ⟨g, 0, none⟩) m cap, .agg #[.int .i64 2, .int .i64 n, .string s, .slice a len cp]] w
      fun e w' => e = .returned (.slice (some ⟨g, 0, none⟩) (m + 1 + (num u).length + l2.length) cap) ∧ Spare w' g (m + 1 + (num u).length + l2.length) cap (l ++ [2] ++ num u ++ l2) ∧ w.grownBy w' (some g) := by
  have hg : g < w.heap.size := hsp.lt
  obtain ⟨w1, hw1⟩ : ∃ w1, w1 = w.alloc (Obj.cells #[Value.int IntKind.i64 2, Value.int IntKind.i64 n, Value.string s, Value.slice a len cp] 24) := ⟨_, rfl⟩
  have hz1 : w1.heap.size = w.heap.size + 1 := by rw [hw1]; simp
  have hB1 : Below w.heap.size w w1 := by rw [hw1]; go_grown
  have hsp1 := hsp.below hB1
  have c0 : ∀ W, Kept w1 W → W.cell? ⟨w.heap.size, 0, none⟩ = some (.int .i64 2) := fun W hW => (hW.below.cell (by simp; omega)).trans (by rw [hw1]; go_cell)
  have c1 : ∀ W, Kept w1 W → W.cell? ⟨w.heap.size, 1, none⟩ = some (.int .i64 n) := fun W hW => (hW.below.cell (by simp; omega)).trans (by rw [hw1]; go_cell)
  have c2 : ∀ W, Kept w1 W → W.cell? ⟨w.heap.size, 2, none⟩ = some (.string s) := fun W hW => (hW.below.cell (by simp; omega)).trans (by rw [hw1]; go_cell)
  have c3 : ∀ W, Kept w1 W → W.cell? ⟨w.heap.size, 3, none⟩ = some (.slice a len cp) := fun W hW => (hW.below.cell (by simp; omega)).trans (by rw [hw1]; go_cell)
  have hA : ∀ W, Kept w1 W → Calls Try.prog 38 #[] W fun e w' => e = .returned (.agg #[.nilFunc, .nilFunc, .func (.func 49) #[] #[], .func (.func 50) #[] #[], .func (.func 51) #[] #[], .func (.func 52) #[] #[], .func (.func 53) #[] #[], .func (.func 54) #[] #[]]) ∧ Kept w1 w' ∧ Below W.heap.size W w' :=
    fun W hW => (writers_any W).mono fun e w' h => ⟨h.1, hW.next h.2, h.2⟩
  have i1 := idx_2
  unfold wrArr at i1
  have HA := Lib.hid hA
  have HN := Lib.hid hN
  have HR := Lib.hid hR
  have HW := Lib.hid hw1
  have HSP := Lib.hid hsp
  have HSP1 := Lib.hid hsp1
  have HC := Lib.hid (And.intro c1 (And.intro c2 c3))
  clear hA hN hR hw1 hsp hsp1 c1 c2 c3
  go_enter Try.func26, Try.ntmps26
  go_upto_region 1 with fail
  rw [← HW.out]
  go_cut [5] (fun s5 wx => NewWriter w1 51 52 s5 wx)
  case first =>
    go_region_held3 (fun W => Kept w1 W) (first | assumption | exact Kept.drew (Kept.refl _) | exact Kept.alloc (by assumption) _ | exact Kept.set (Kept.set (by assumption) (by show w1.heap.size ≤ _; simp; omega) _) (by show w1.heap.size ≤ _; simp; omega) _)
      (first | (go_at_call 38; refine (HA.out _ (by assumption)).mono ?_; rintro e w' ⟨rfl, hK, hb⟩; obtain ⟨hc, hf⟩ := bcell hb))
    all_goals go_wp2_with fail
    all_goals go_meet
    all_goals first
      | exact NewWriter.new (by assumption)
      | exact NewWriter.old (by assumption) (by omega) (by have := hb.size; simp at this; omega) ((hc _ _ (by simp; omega)).trans (by rw [← hz1]; simp)) ((hc _ _ (by simp; omega)).trans (by rw [← hz1]; simp))
  case rest =>
    obtain ⟨p, rfl, hp1, hp2, d0, d1, hK0⟩ := hcut
    have b0 := c0 _ hK0
    have b1 := HC.out.1 _ hK0
    have b2 := HC.out.2.1 _ hK0
    have b3 := HC.out.2.2 _ hK0
    have hspc := HSP1.out.below hK0.below
    have hwg : w.grownBy wc (some g) := gtrans (gbelow hB1) (gbelow hK0.below)
    have hng : w.heap.size ≠ g := by omega
    have hnp : p ≠ g := by omega
    have k0 : ∀ W, GKept wc g m cap l W → W.cell? ⟨w.heap.size, 0, none⟩ = some (.int .i64 2) := fun W hW => hW.cell b0 hng
    have k1 : ∀ W, GKept wc g m cap l W → W.cell? ⟨w.heap.size, 1, none⟩ = some (.int .i64 n) := fun W hW => hW.cell b1 hng
    have k2 : ∀ W, GKept wc g m cap l W → W.cell? ⟨w.heap.size, 2, none⟩ = some (.string s) := fun W hW => hW.cell b2 hng
    have k3 : ∀ W, GKept wc g m cap l W → W.cell? ⟨w.heap.size, 3, none⟩ = some (.slice a len cp) := fun W hW => hW.cell b3 hng
    have k4 : ∀ W, GKept wc g m cap l W → W.cell? ⟨p, 0, none⟩ = some (.func (.func 51) #[] #[]) := fun W hW => hW.cell d0 hnp
    have k5 : ∀ W, GKept wc g m cap l W → W.cell? ⟨p, 1, none⟩ = some (.func (.func 52) #[] #[]) := fun W hW => hW.cell d1 hnp
    have hN2 : ∀ W, GKept wc g m cap l W → Calls Try.prog 51 #[.agg #[.int .i64 2, .int .i64 n, .string s, .slice a len cp]] W fun e w' => e = .returned (.int .u64 (u : Nat)) ∧ GKept wc g m cap l w' ∧ Below W.heap.size W w' :=
      fun W hW => (HN.out W).mono fun e w' h => ⟨h.1, hW.below h.2, h.2⟩
    have hD : GKept wc g m cap l wc.drew := (GKept.refl hspc).drew
    have hAl : ∀ W o, GKept wc g m cap l W → GKept wc g m cap l (W.alloc o) := fun W o hW => hW.alloc o
    have hAp : ∀ W W' k l2, GKept wc g m cap l W → Spare W' g (m + k) cap (l ++ l2) → W.grownBy W' (some g) → GKept wc g m cap l W' := fun W W' k l2 hW h1 h2 => hW.app h1 h2
    have hGs : ∀ W, GKept wc g m cap l W → Spare W g m cap l := fun W hW => hW.2
    have hGg : ∀ W, GKept wc g m cap l W → w.grownBy W (some g) := fun W hW => gtrans hwg hW.1
    have hr1 : m + 1 ≤ cap := by omega
    have hr2 : m + 1 + (num u).length ≤ cap := by omega
    have HN2 := Lib.hid hN2
    have HD := Lib.hid hD
    have HAL := Lib.hid hAl
    have HAP := Lib.hid hAp
    have HGS := Lib.hid hGs
    have HGG := Lib.hid hGg
    clear hN2 hD hAl hAp hGs hGg hwg hspc b0 b1 b2 b3 d0 d1 hK0 c0 HC i1
    go_upto_region 2 with fail
    go_cut [0] (fun s0 wx => s0 = .slice (some ⟨g, 0, none⟩) (m + 1 + (num u).length) cap ∧ Spare wx g (m + 1 + (num u).length) cap (l ++ [2] ++ num u) ∧ GKept wc g m cap l wx)
    case first =>
      go_region_held3 (fun W => GKept wc g m cap l W) (first | assumption | exact HD.out | exact HAL.out _ _ (by assumption) | exact HAP.out _ _ 1 [2] (by assumption) hown1 hgrow1 | exact HAP.out _ _ (1 + (num u).length) ([2] ++ num u) (by assumption) (by rw [← Nat.add_assoc, ← List.append_assoc]; assumption) hgrow2)
        (first
          | (refine step_byte (by rfl) _ _ (by rfl) g m cap l (by rfl) (HGS.out _ (by assumption)) _ 2 (IntKind.u8.wrap 2) (by decide) (by rfl) (by simp) hr1 ?_; intro w1 hown1 hgrow1)
          | (go_at_call 51; refine (HN2.out _ (by assumption)).mono ?_; rintro e w' ⟨rfl, hK, hbN⟩)
          | (go_at_call 39; refine (wrNum g cap u hu (m + 1) (l ++ [2]) _ (by first | exact hown1 | exact hown1.below hbN) hr2).mono ?_; rintro e w'' ⟨rfl, hs2, hgrow2⟩))
      all_goals go_wp2_with fail
      all_goals go_meet
      all_goals exact ⟨rfl, hs2, by assumption⟩
    case rest =>
      obtain ⟨rfl, hs3, hK3⟩ := hcut
      have hgg := HGG.out _ hK3
      clear hp1 hp2 hng hnp
      go_wp2_with fail
      refine (HR.out _ hgg hs3).mono ?_
      rintro e w4 ⟨rfl, hs4, hg4⟩
      go_wp2
      go_ret
      exact ⟨rfl, hs4, gtrans hgg hg4⟩

set_option maxHeartbeats 1000000 in
theorem write_3 (n : Int) (s : ByteArray) (a : Option Addr) (len cp : Nat) (w : World) (g m cap : Nat) (l l2 : List UInt8) (hsp : Spare w g m cap l) (u : Nat) (hu : u < 18446744073709551616) (hr : m + 1 + (num u).length + l2.length ≤ cap)
    (hN : ∀ W, Calls Try.prog 53 #[.agg #[.int .i64 3, .int .i64 n, .string s, .slice a len cp]] W fun e w' => e = .returned (.int .u64 (u : Nat)) ∧ Below W.heap.size W w')
    (hR : ∀ W, w.grownBy W (some g) → Spare W g (m + 1 + (num u).length) cap (l ++ [3] ++ num u) → Calls Try.prog 54 #[.slice (some ⟨g, 0, none⟩) (m + 1 + (num u).length) cap, .agg #[.int .i64 3, .int .i64 n, .string s, .slice a len cp]] W
      fun e w' => e = .returned (.slice (some ⟨g, 0, none⟩) (m + 1 + (num u).length + l2.length) cap) ∧ Spare w' g (m + 1 + (num u).length + l2.length) cap (l ++ [3] ++ num u ++ l2) ∧ W.grownBy w' (some g)) :
    Calls Try.prog 26 #[.slice (some ⟨g, 0, none⟩) m cap, .agg #[.int .i64 3, .int .i64 n, .string s, .slice a len cp]] w
      fun e w' => e = .returned (.slice (some ⟨g, 0, none⟩) (m + 1 + (num u).length + l2.length) cap) ∧ Spare w' g (m + 1 + (num u).length + l2.length) cap (l ++ [3] ++ num u ++ l2) ∧ w.grownBy w' (some g) := by
  have hg : g < w.heap.size := hsp.lt
  obtain ⟨w1, hw1⟩ : ∃ w1, w1 = w.alloc (Obj.cells #[Value.int IntKind.i64 3, Value.int IntKind.i64 n, Value.string s, Value.slice a len cp] 24) := ⟨_, rfl⟩
  have hz1 : w1.heap.size = w.heap.size + 1 := by rw [hw1]; simp
  have hB1 : Below w.heap.size w w1 := by rw [hw1]; go_grown
  have hsp1 := hsp.below hB1
  have c0 : ∀ W, Kept w1 W → W.cell? ⟨w.heap.size, 0, none⟩ = some (.int .i64 3) := fun W hW => (hW.below.cell (by simp; omega)).trans (by rw [hw1]; go_cell)
  have c1 : ∀ W, Kept w1 W → W.cell? ⟨w.heap.size, 1, none⟩ = some (.int .i64 n) := fun W hW => (hW.below.cell (by simp; omega)).trans (by rw [hw1]; go_cell)
  have c2 : ∀ W, Kept w1 W → W.cell? ⟨w.heap.size, 2, none⟩ = some (.string s) := fun W hW => (hW.below.cell (by simp; omega)).trans (by rw [hw1]; go_cell)
  have c3 : ∀ W, Kept w1 W → W.cell? ⟨w.heap.size, 3, none⟩ = some (.slice a len cp) := fun W hW => (hW.below.cell (by simp; omega)).trans (by rw [hw1]; go_cell)
  have hA : ∀ W, Kept w1 W → Calls Try.prog 38 #[] W fun e w' => e = .returned (.agg #[.nilFunc, .nilFunc, .func (.func 49) #[] #[], .func (.func 50) #[] #[], .func (.func 51) #[] #[], .func (.func 52) #[] #[], .func (.func 53) #[] #[], .func (.func 54) #[] #[]]) ∧ Kept w1 w' ∧ Below W.heap.size W w' :=
    fun W hW => (writers_any W).mono fun e w' h => ⟨h.1, hW.next h.2, h.2⟩
  have i1 := idx_3
  unfold wrArr at i1
  have HA := Lib.hid hA
  have HN := Lib.hid hN
  have HR := Lib.hid hR
  have HW := Lib.hid hw1
  have HSP := Lib.hid hsp
  have HSP1 := Lib.hid hsp1
  have HC := Lib.hid (And.intro c1 (And.intro c2 c3))
  clear hA hN hR hw1 hsp hsp1 c1 c2 c3
  go_enter Try.func26, Try.ntmps26
  go_upto_region 1 with fail
  rw [← HW.out]
  go_cut [5] (fun s5 wx => NewWriter w1 53 54 s5 wx)
  case first =>
    go_region_held3 (fun W => Kept w1 W) (first | assumption | exact Kept.drew (Kept.refl _) | exact Kept.alloc (by assumption) _ | exact Kept.set (Kept.set (by assumption) (by show w1.heap.size ≤ _; simp; omega) _) (by show w1.heap.size ≤ _; simp; omega) _)
      (first | (go_at_call 38; refine (HA.out _ (by assumption)).mono ?_; rintro e w' ⟨rfl, hK, hb⟩; obtain ⟨hc, hf⟩ := bcell hb))
    all_goals go_wp2_with fail
    all_goals go_meet
    all_goals first
      | exact NewWriter.new (by assumption)
      | exact NewWriter.old (by assumption) (by omega) (by have := hb.size; simp at this; omega) ((hc _ _ (by simp; omega)).trans (by rw [← hz1]; simp)) ((hc _ _ (by simp; omega)).trans (by rw [← hz1]; simp))
  case rest =>
    obtain ⟨p, rfl, hp1, hp2, d0, d1, hK0⟩ := hcut
    have b0 := c0 _ hK0
    have b1 := HC.out.1 _ hK0
    have b2 := HC.out.2.1 _ hK0
    have b3 := HC.out.2.2 _ hK0
    have hspc := HSP1.out.below hK0.below
    have hwg : w.grownBy wc (some g) := gtrans (gbelow hB1) (gbelow hK0.below)
    have hng : w.heap.size ≠ g := by omega
    have hnp : p ≠ g := by omega
    have k0 : ∀ W, GKept wc g m cap l W → W.cell? ⟨w.heap.size, 0, none⟩ = some (.int .i64 3) := fun W hW => hW.cell b0 hng
    have k1 : ∀ W, GKept wc g m cap l W → W.cell? ⟨w.heap.size, 1, none⟩ = some (.int .i64 n) := fun W hW => hW.cell b1 hng
    have k2 : ∀ W, GKept wc g m cap l W → W.cell? ⟨w.heap.size, 2, none⟩ = some (.string s) := fun W hW => hW.cell b2 hng
    have k3 : ∀ W, GKept wc g m cap l W → W.cell? ⟨w.heap.size, 3, none⟩ = some (.slice a len cp) := fun W hW => hW.cell b3 hng
    have k4 : ∀ W, GKept wc g m cap l W → W.cell? ⟨p, 0, none⟩ = some (.func (.func 53) #[] #[]) := fun W hW => hW.cell d0 hnp
    have k5 : ∀ W, GKept wc g m cap l W → W.cell? ⟨p, 1, none⟩ = some (.func (.func 54) #[] #[]) := fun W hW => hW.cell d1 hnp
    have hN2 : ∀ W, GKept wc g m cap l W → Calls Try.prog 53 #[.agg #[.int .i64 3, .int .i64 n, .string s, .slice a len cp]] W fun e w' => e = .returned (.int .u64 (u : Nat)) ∧ GKept wc g m cap l w' ∧ Below W.heap.size W w' :=
      fun W hW => (HN.out W).mono fun e w' h => ⟨h.1, hW.below h.2, h.2⟩
    have hD : GKept wc g m cap l wc.drew := (GKept.refl hspc).drew
    have hAl : ∀ W o, GKept wc g m cap l W → GKept wc g m cap l (W.alloc o) := fun W o hW => hW.alloc o
    have hAp : ∀ W W' k l2, GKept wc g m cap l W → Spare W' g (m + k) cap (l ++ l2) → W.grownBy W' (some g) → GKept wc g m cap l W' := fun W W' k l2 hW h1 h2 => hW.app h1 h2
    have hGs : ∀ W, GKept wc g m cap l W → Spare W g m cap l := fun W hW => hW.2
    have hGg : ∀ W, GKept wc g m cap l W → w.grownBy W (some g) := fun W hW => gtrans hwg hW.1
    have hr1 : m + 1 ≤ cap := by omega
    have hr2 : m + 1 + (num u).length ≤ cap := by omega
    have HN2 := Lib.hid hN2
    have HD := Lib.hid hD
    have HAL := Lib.hid hAl
    have HAP := Lib.hid hAp
    have HGS := Lib.hid hGs
    have HGG := Lib.hid hGg
    clear hN2 hD hAl hAp hGs hGg hwg hspc b0 b1 b2 b3 d0 d1 hK0 c0 HC i1
    go_upto_region 2 with fail
    go_cut [0] (fun s0 wx => s0 = .slice (some ⟨g, 0, none⟩) (m + 1 + (num u).length) cap ∧ Spare wx g (m + 1 + (num u).length) cap (l ++ [3] ++ num u) ∧ GKept wc g m cap l wx)
    case first =>
      go_region_held3 (fun W => GKept wc g m cap l W) (first | assumption | exact HD.out | exact HAL.out _ _ (by assumption) | exact HAP.out _ _ 1 [3] (by assumption) hown1 hgrow1 | exact HAP.out _ _ (1 + (num u).length) ([3] ++ num u) (by assumption) (by rw [← Nat.add_assoc, ← List.append_assoc]; assumption) hgrow2)
        (first
          | (refine step_byte (by rfl) _ _ (by rfl) g m cap l (by rfl) (HGS.out _ (by assumption)) _ 3 (IntKind.u8.wrap 3) (by decide) (by rfl) (by simp) hr1 ?_; intro w1 hown1 hgrow1)
          | (go_at_call 53; refine (HN2.out _ (by assumption)).mono ?_; rintro e w' ⟨rfl, hK, hbN⟩)
          | (go_at_call 39; refine (wrNum g cap u hu (m + 1) (l ++ [3]) _ (by first | exact hown1 | exact hown1.below hbN) hr2).mono ?_; rintro e w'' ⟨rfl, hs2, hgrow2⟩))
      all_goals go_wp2_with fail
      all_goals go_meet
      all_goals exact ⟨rfl, hs2, by assumption⟩
    case rest =>
      obtain ⟨rfl, hs3, hK3⟩ := hcut
      have hgg := HGG.out _ hK3
      clear hp1 hp2 hng hnp
      go_wp2_with fail
      refine (HR.out _ hgg hs3).mono ?_
      rintro e w4 ⟨rfl, hs4, hg4⟩
      go_wp2
      go_ret
      exact ⟨rfl, hs4, gtrans hgg hg4⟩

end Go.Proofs.Ytkecoohplpbgnaa
