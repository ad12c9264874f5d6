/- Direction: levelsOf. -/
import Derived.Test.YtilkhamlhbbmgaaDoorLfa
namespace Go.Proofs.YtilkhamlhbbmgaaDoor
open Go.RowKit
attribute [local go_sem] Oper.semAt_some

def tabD : List Int := [-1, -1, 0, 0, 1, -1, -1, 2, 2, 1]
/-- The library's tables and the program's own. -/
structure DTab (W : World) : Prop where
  u : UTab W
  k : ∀ j, j < 10 → W.cell? ⟨0, j, none⟩ = some (.int .i64 (tabD.getD j 0))
theorem DTab.below {w w' : World} (h : DTab w) (hb : Below w.heap.size w w') : DTab w' :=
  ⟨h.u.below hb, fun j hj => (hb.cell (p := ⟨0, j, none⟩) (show 0 < w.heap.size by have := h.u.lt; omega)).trans (h.k j hj)⟩
def bN (x : Bool) : Nat := if x then 1 else 0
theorem own_tab (x : Bool) (r : Int) : ∃ kn : Nat, knd r = (kn : Int) ∧ kn ≤ 4 ∧ tabD.getD (5 * bN x + kn) 0 = own (bsOf x) r := by
  have h : knd r = 0 ∨ knd r = 1 ∨ knd r = 2 ∨ knd r = 3 ∨ knd r = 4 := by have := knd_in r; omega
  rcases h with h | h | h | h | h
  · exact ⟨0, h, by omega, by unfold own; rw [h]; cases x <;> decide⟩
  · exact ⟨1, h, by omega, by unfold own; rw [h]; cases x <;> decide⟩
  · exact ⟨2, h, by omega, by unfold own; rw [h]; cases x <;> decide⟩
  · exact ⟨3, h, by omega, by unfold own; rw [h]; cases x <;> decide⟩
  · exact ⟨4, h, by omega, by unfold own; rw [h]; cases x <;> decide⟩
theorem ix89 (W : World) (x : Bool) : (Instr.indexAt 89 (.pointer (some ⟨0, 0, none⟩)) (.int .i64 (bsOf x))).run Tryd.prog W = .ok (.pointer (some ⟨0, 5 * bN x, none⟩)) W := by
  cases x <;> simp [Instr.indexAt, asIntOf, go_sem, bsOf, bN, run_underlying (show Tryd.prog.underlying 89 = some (.array 2 88) by kernel_rfl), Addr.add_mid, Instr.sureAddr]
/-- The levels of their own, the first k laid. -/
def sgF (s : List Int) (k j : Nat) : Int := if j < k then s.getD j 0 else 0
theorem sgF_set (s : List Int) (n k : Nat) (_hk : k < n) : (icells ((List.range n).map (sgF s k))).set k (.int .i64 (s.getD k 0)) = icells ((List.range n).map (sgF s (k + 1))) := by
  simp only [icells, List.map_map]
  apply List.ext_getElem (by simp)
  intro j h1 h2
  rw [List.getElem_set]
  simp only [List.getElem_map, List.getElem_range, Function.comp_apply, sgF]
  by_cases h : k = j
  · subst h; rw [if_pos rfl, if_pos (by omega)]
  · rw [if_neg h]
    by_cases h3 : j < k
    · rw [if_pos h3, if_pos (by omega)]
    · rw [if_neg h3, if_neg (by omega)]
def upG (b : Int) (s : List Int) (R : List (Nat × Nat)) (k j : Nat) : Int := if j < bnd R k then finL b s j else s.getD j 0
theorem upG_zero (b : Int) (s : List Int) (R : List (Nat × Nat)) (n : Nat) : (List.range n).map (sgF s n) = (List.range n).map (upG b s R 0) := by
  refine List.map_congr_left fun j hj => ?_
  rw [List.mem_range] at hj
  unfold sgF upG
  rw [if_pos hj, if_neg (by simp [bnd])]
theorem upG_step {b : Int} {s : List Int} {R : List (Nat × Nat)} (h : Chain (isGapB s) s.length 0 R) {k : Nat} (hk : k < R.length) {a c : Nat} (he : R.getD k (0, 0) = (a, c)) : a < c ∧ c ≤ s.length ∧ (List.range s.length).map (fillS (upG b s R k) a (a + (c - a)) (arS (upG b s R k) s.length a c b)) = (List.range s.length).map (upG b s R (k + 1)) := by
  obtain ⟨a', c', h0, h1, h2, h3, h4, h5, h6, h7, h8⟩ := chain_at h hk
  rw [he] at h0
  injection h0 with e1 e2
  subst e1; subst e2
  rw [show a + (c - a) = c by omega]
  have hc : upG b s R k c = s.getD c 0 := by unfold upG; rw [if_neg (by omega)]
  have ha : 0 < a → upG b s R k (a - 1) = s.getD (a - 1) 0 := fun h0 => by
    unfold upG
    by_cases hh : a - 1 < bnd R k
    · rw [if_pos hh]; unfold finL; rw [h7 h0, if_neg (by simp)]
    · rw [if_neg hh]
  refine ⟨h2, h3, List.map_congr_left fun j hj => ?_⟩
  rw [List.mem_range] at hj
  unfold fillS
  by_cases c1 : a ≤ j ∧ j < c
  · rw [if_pos c1]
    obtain ⟨p1, p2, p3⟩ := h6 j c1.1 c1.2
    have e3 : upG b s R (k + 1) j = finL b s j := by unfold upG; rw [h4, if_pos c1.2]
    rw [e3]
    unfold arS finL
    rw [p1, if_pos rfl, p2, p3, hc]
    by_cases h0 : 0 < a
    · rw [ha h0]
    · rw [if_neg (fun h => h0 h.1), if_neg (fun h => h0 h.1)]
  · rw [if_neg c1]
    unfold upG
    rw [h4]
    by_cases c2 : j < bnd R k
    · rw [if_pos c2, if_pos (by omega)]
    · rw [if_neg c2]
      by_cases c3 : j < c
      · rw [if_pos c3]
        unfold finL
        rw [h5 j (by omega) (by omega), if_neg (by simp)]
      · rw [if_neg c3]
theorem upG_end {b : Int} {l : List Int} {R : List (Nat × Nat)} (h : Chain (isGapB (l.map (own b))) (l.map (own b)).length 0 R) : (List.range l.length).map (upG b (l.map (own b)) R R.length) = lvL b l := by
  unfold lvL
  refine List.map_congr_left fun j hj => ?_
  rw [List.mem_range] at hj
  unfold upG
  by_cases c : j < bnd R R.length
  · rw [if_pos c]
  · rw [if_neg c]
    unfold finL
    rw [chain_end h j (by omega) (by simpa using hj), if_neg (by simp)]
def c56a0 : Oper := { dst := some 27, op := Go.Op.load 22 (Go.Operand.tmp 5), type := 22, pos := "levels.go:29", after := #[], guard := none }
def c56a1 : Oper := { dst := some 28, op := Go.Op.move (Go.Operand.tmp 6), type := 3, pos := "levels.go:29", after := #[], guard := none }
def c56a2 : Oper := { dst := some 29, op := Go.Op.load 3 (Go.Operand.tmp 3), type := 3, pos := "levels.go:29", after := #[], guard := none }
def c56a3 : Oper := { dst := some 30, op := Go.Op.move (Go.Operand.tmp 8), type := 3, pos := "levels.go:29", after := #[], guard := none }
def c56a4 : Oper := { dst := some 31, op := Go.Op.indexAddr 89 (Go.Operand.global 0) (Go.Operand.tmp 29), type := 0, pos := "levels.go:29", after := #[{ on := 2, ground := Go.Ground.data }], guard := none }
def c56a5 : Oper := { dst := some 32, op := Go.Op.indexAddr 88 (Go.Operand.tmp 31) (Go.Operand.tmp 30), type := 0, pos := "levels.go:29", after := #[{ on := 4, ground := Go.Ground.data }, { on := 3, ground := Go.Ground.data }], guard := none }
def c56a6 : Oper := { dst := some 33, op := Go.Op.load 3 (Go.Operand.tmp 32), type := 3, pos := "levels.go:29", after := #[{ on := 5, ground := Go.Ground.data }], guard := none }
def c56a7 : Oper := { dst := some 34, op := Go.Op.indexAddr 22 (Go.Operand.tmp 27) (Go.Operand.tmp 28), type := 0, pos := "levels.go:29", after := #[{ on := 0, ground := Go.Ground.data }, { on := 1, ground := Go.Ground.data }, { on := 0, ground := Go.Ground.phase }, { on := 1, ground := Go.Ground.phase }, { on := 2, ground := Go.Ground.phase }, { on := 3, ground := Go.Ground.phase }, { on := 4, ground := Go.Ground.phase }, { on := 5, ground := Go.Ground.phase }, { on := 6, ground := Go.Ground.phase }], guard := none }
def c56a8 : Oper := { dst := none, op := Go.Op.store 3 (Go.Operand.tmp 34) (Go.Operand.tmp 33), type := 0, pos := "levels.go:29", after := #[{ on := 7, ground := Go.Ground.data }, { on := 6, ground := Go.Ground.data }, { on := 0, ground := Go.Ground.phase }, { on := 1, ground := Go.Ground.phase }, { on := 2, ground := Go.Ground.phase }, { on := 3, ground := Go.Ground.phase }, { on := 4, ground := Go.Ground.phase }, { on := 5, ground := Go.Ground.phase }, { on := 6, ground := Go.Ground.phase }], guard := none }
def c56b0 : Oper := { dst := some 40, op := Go.Op.load 22 (Go.Operand.tmp 5), type := 22, pos := "levels.go:32", after := #[], guard := none }
def c56b1 : Oper := { dst := some 41, op := Go.Op.move (Go.Operand.tmp 10), type := 3, pos := "levels.go:32", after := #[], guard := none }
def c56b2 : Oper := { dst := some 42, op := Go.Op.move (Go.Operand.tmp 11), type := 3, pos := "levels.go:32", after := #[], guard := none }
def c56b3 : Oper := { dst := some 43, op := Go.Op.move (Go.Operand.tmp 11), type := 3, pos := "levels.go:32", after := #[], guard := none }
def c56b4 : Oper := { dst := some 44, op := Go.Op.slice 22 (Go.Operand.tmp 40) (some (Go.Operand.tmp 41)) (some (Go.Operand.tmp 42)) (some (Go.Operand.tmp 43)), type := 22, pos := "levels.go:32", after := #[{ on := 0, ground := Go.Ground.data }, { on := 1, ground := Go.Ground.data }, { on := 2, ground := Go.Ground.data }, { on := 3, ground := Go.Ground.data }], guard := none }
def c56b5 : Oper := { dst := some 45, op := Go.Op.load 22 (Go.Operand.tmp 5), type := 22, pos := "levels.go:32", after := #[], guard := none }
def c56b6 : Oper := { dst := some 46, op := Go.Op.move (Go.Operand.tmp 10), type := 3, pos := "levels.go:32", after := #[], guard := none }
def c56b7 : Oper := { dst := some 47, op := Go.Op.move (Go.Operand.tmp 11), type := 3, pos := "levels.go:32", after := #[], guard := none }
def c56b8 : Oper := { dst := some 48, op := Go.Op.load 3 (Go.Operand.tmp 3), type := 3, pos := "levels.go:32", after := #[], guard := none }
def c56b9 : Oper := { dst := some 49, op := Go.Op.call { callee := Go.Callee.value (Go.Operand.func 73), args := #[Go.Operand.tmp 45, Go.Operand.tmp 46, Go.Operand.tmp 47, Go.Operand.tmp 48], argTypes := #[22, 3, 3, 3] }, type := 3, pos := "levels.go:32", after := #[{ on := 5, ground := Go.Ground.data }, { on := 6, ground := Go.Ground.data }, { on := 7, ground := Go.Ground.data }, { on := 8, ground := Go.Ground.data }], guard := none }
def c56b10 : Oper := { dst := some 50, op := Go.Op.call { callee := Go.Callee.value (Go.Operand.func 72), args := #[Go.Operand.tmp 44, Go.Operand.tmp 49], argTypes := #[22, 3] }, type := 0, pos := "levels.go:32", after := #[{ on := 4, ground := Go.Ground.data }, { on := 9, ground := Go.Ground.data }, { on := 9, ground := Go.Ground.chain }], guard := none }

set_option maxRecDepth 100000 in
set_option maxHeartbeats 8000000 in
theorem levelsOf_false (w : World) (v : Value) (l : List Int) (hv : IRow w w.heap.size v l) (hn : l.length ≤ 1000000) (hok : ∀ r ∈ l, okPt r = true) (hT : DTab w) : Calls Tryd.prog 56 #[v, .int .i64 0] w fun e w' => ∃ u, e = .returned u ∧ IRow w' w'.heap.size u (lvL 0 l) ∧ Below w.heap.size w w' := by
  obtain ⟨i0, hi, hz0, hz1, hz2⟩ := info_parts Tryd.info3r
  obtain ⟨R, hR⟩ := chain_ex (isGapB (l.map (own 0))) (l.map (own 0)).length (l.map (own 0)).length 0 (by omega)
  have HR := Lib.hid hR
  have HST : Hid (∀ k a c, k < R.length → R.getD k (0, 0) = (a, c) → a < c ∧ c ≤ l.length ∧ (List.range l.length).map (fillS (upG 0 (l.map (own 0)) R k) a (a + (c - a)) (arS (upG 0 (l.map (own 0)) R k) l.length a c 0)) = (List.range l.length).map (upG 0 (l.map (own 0)) R (k + 1))) := Lib.hid (fun k a c hk he => by
    have := upG_step (b := 0) hR hk he
    rwa [show (l.map (own 0)).length = l.length by simp] at this)
  have HZ := Lib.hid (upG_zero 0 (l.map (own 0)) R l.length)
  have HE := Lib.hid (upG_end hR)
  have HK := Lib.hid (fun W r (h : okPt r = true) => (by have := kind_any W r; rw [(kind_ok h).1, (kind_ok h).2] at this; exact this : Calls Tryd.prog 22 #[.int .i64 r] W fun e w' => e = .returned (.tuple #[.int .i64 (knd r), .int .i64 0]) ∧ Below W.heap.size W w'))
  have HOT := Lib.hid (own_tab false)
  have HTB := Lib.hid hT
  have HOK := Lib.hid hok
  have HTU := Lib.hid (fun (Qs Qf g : Nat) (c : Nat) (Kp : Nat → World → Prop) => runs71_turn 8 (by omega) Qs Qf (some ⟨g, 0, none⟩) c (l.map (own 0)) (fun x => decide (x = -1)) R (by simp; omega) hR Kp)
  have HLL := Lib.hid (lvL_len 0 l)
  have h2 : 2 < w.heap.size := hT.u.lt
  obtain ⟨a, c, rfl, hc, hm9, HC⟩ := hv.later
  have HC := Lib.hid HC
  have HSL : Hid (∀ k (hk : k < l.length), (l.map (own 0)).getD k 0 = own 0 l[k]) := Lib.hid (fun k hk => by simp [List.getD, hk])
  obtain ⟨s, hs⟩ : ∃ s, l.map (own 0) = s := ⟨_, rfl⟩
  obtain ⟨n, hN⟩ : ∃ n, l.length = n := ⟨_, rfl⟩
  have HSS : Hid (s.length = n) := Lib.hid (by rw [← hs]; simpa using hN)
  rw [hs] at HST HZ HE HTU HSL HR
  rw [hN] at hc hn HST HZ HE HLL ⊢
  have HN := Lib.hid hN
  have hmx : n ≤ maxLen := by unfold maxLen; omega
  have HMADE := Lib.hid (made_int n (sgF s 0) (fun j => by unfold sgF; rw [if_neg (by omega)]))
  have HSET := Lib.hid (sgF_set s n)
  clear hs hN hok hT hR
  refine (callsIn_wide (n := 9)).1 ?_
  refine callsIn_of_wp_marks Tryd.func56 rfl trivial ?_ rfl
  simp only [Tryd.ntmps56, List.size_toArray, List.length_cons, List.length_nil, Nat.reduceAdd, Nat.reduceSub, Array.replicate_succ, Array.replicate_zero, List.push_toArray, List.append_toArray, List.nil_append, List.cons_append]
  refine wpIn_wide.2 ?_
  have hzw : (w.alloc (.cells #[.int .i64 0] 3)).heap.size = w.heap.size + 1 := by simp
  have hcw : (w.alloc (.cells #[.int .i64 0] 3)).cell? ⟨w.heap.size, 0, none⟩ = some (.int .i64 0) := by rw [World.cell?_alloc_new]; rfl
  have HBW := Lib.hid (below_alloc w (.cells #[.int .i64 0] 3))
  go_wp2_with (refine wpList_make_full _ rfl (.tmp 13) (.tmp 13) 22 rfl (w.heap.size + 1) 3 i0 (.int .i64 0) 1 Tryd.underlying22 hi hz0 hz1 .i64 .i64 _ _ n (by rfl) (by rfl) rfl rfl (by rw [hz2]; omega) hmx (by simp) ?_; intro w1 hO1 hG1; rw [hzw] at hO1; rw [HMADE.out] at hO1; have HA1 := Lib.hid (Arr.of_own hO1); have HB1 := Lib.hid (below_none hG1); have hs1 := (hO1.lt (w.heap.size + 1) rfl).2; clear hO1 hG1)
  obtain ⟨w2, hw2⟩ : ∃ W, w1.alloc (.cells #[.slice (some ⟨w.heap.size + 1, 0, none⟩) n n] 22) = W := ⟨_, rfl⟩
  have hb12 : Below w1.heap.size w1 w2 := by rw [← hw2]; exact below_alloc w1 _
  have hs2 : w2.heap.size = w1.heap.size + 1 := by rw [← hw2]; simp
  have hbw1 : Below w.heap.size w w1 := HBW.out.trans (HB1.out.mono (by simp))
  have hcB : w2.cell? ⟨w.heap.size, 0, none⟩ = some (.int .i64 0) := (hb12.cell (p := ⟨w.heap.size, 0, none⟩) (show w.heap.size < _ by omega)).trans ((HB1.out.cell (p := ⟨w.heap.size, 0, none⟩) (show w.heap.size < _ by rw [hzw]; omega)).trans hcw)
  have hcL : w2.cell? ⟨w1.heap.size, 0, none⟩ = some (.slice (some ⟨w.heap.size + 1, 0, none⟩) n n) := by rw [← hw2, World.cell?_alloc_new]; rfl
  have HA2 := Lib.hid (HA1.out.below hb12 hs1)
  have HW2 := Lib.hid (hbw1.trans (hb12.mono hbw1.size))
  have HT2 := Lib.hid (HTB.out.below HW2.out)
  have HCB := Lib.hid hcB
  have HCL := Lib.hid hcL
  have hgL : w1.heap.size ∉ [w.heap.size + 1] := by simp; omega
  have hgB : w.heap.size ∉ [w.heap.size + 1] := by simp
  have hg0 : 0 ∉ [w.heap.size + 1] := by simp
  rw [hw2]
  clear hw2 hb12 hbw1 hcB hcL hzw hcw HA1 HB1 HBW HTB HMADE
  go_loopw [6, 7, 8, 9, 17] (fun s6 s7 s8 s9 s17 wr => ∃ k : Nat, k ≤ n ∧ s17 = .int .i64 k ∧ Hid (Obk [w.heap.size + 1] w2 wr) ∧ Hid (Arr wr (w.heap.size + 1) (icells ((List.range n).map (sgF s k))))) (fun _ _ _ _ s17 _ => n - (intOf s17).toNat)
  case atStart => exact ⟨0, Nat.zero_le _, rfl, Lib.hid (Obk.refl _ _), HA2⟩
  case round =>
    obtain ⟨k, hk, rfl, HO, HA⟩ := hrel
    by_cases hlt : k < n
    · have hkl : k < l.length := by rw [HN.out]; exact hlt
      have hbr : Below w.heap.size w wr := HW2.out.trans (HO.out.below (by omega) (by simp))
      obtain ⟨b, off, rfl, hcell⟩ := HC.out wr hbr k hkl
      have HK1 := Lib.hid (HK.out wr l[k] (HOK.out _ (List.getElem_mem hkl)))
      obtain ⟨kn, hk1, hk2, hk3⟩ := HOT.out l[k]
      have hsk := HSL.out k hkl
      have hsk2 : s.getD k 0 = tabD.getD (0 + kn) 0 := hsk.trans hk3.symm
      rw [hk1] at HK1
      obtain ⟨x, hx⟩ : ∃ x, l[k] = x := ⟨_, rfl⟩
      rw [hx] at hcell HK1
      have HSET1 := Lib.hid (HSET.out k hlt)
      obtain ⟨z, hz⟩ : ∃ z, s.getD k 0 = z := ⟨_, rfl⟩
      rw [hz] at HSET1 hsk2
      have HZK := Lib.hid hsk2
      clear hsk hsk2 hk1 hk3 hx hkl hz hbr
      go_wp2_with fail
      (with_reducible refine HK1.out.mono ?_)
      rintro e wk ⟨rfl, hb⟩
      have HOK2 := Lib.hid (HO.out.trans (Obk.of hb))
      have hszk : w2.heap.size ≤ wk.heap.size := HOK2.out.size
      have hAk := HA.out.below hb (by have := HO.out.size; omega)
      have hcl : k < (icells ((List.range n).map (sgF s k))).length := by simp [icells]; omega
      have hc1 := hAk.cell (i := k) (v := (icells ((List.range n).map (sgF s k)))[k]) (List.getElem?_eq_getElem hcl)
      have hf1 := hAk.frozen hcl
      obtain ⟨y, hy⟩ : ∃ y, sgF s k k = y := ⟨_, rfl⟩
      have hxx : (icells ((List.range n).map (sgF s k)))[k] = .int .i64 y := by rw [← hy]; simp [icells]
      rw [hxx] at hc1
      have HAN := Lib.hid (hAk.drew.set k (.int .i64 z))
      have hL0 : w1.heap.size < wk.heap.size := by omega
      have hB0 : w.heap.size < wk.heap.size := by omega
      have h00 : 0 < wk.heap.size := by omega
      have hcL : wk.cell? ⟨w1.heap.size, 0, none⟩ = some (.slice (some ⟨w.heap.size + 1, 0, none⟩) n n) := (HOK2.out.cell (p := ⟨w1.heap.size, 0, none⟩) (show w1.heap.size < _ by omega) hgL).trans HCL.out
      have hcB : wk.cell? ⟨w.heap.size, 0, none⟩ = some (.int .i64 0) := (HOK2.out.cell (p := ⟨w.heap.size, 0, none⟩) (show w.heap.size < _ by omega) hgB).trans HCB.out
      have hct : wk.cell? ⟨0, kn, none⟩ = some (.int .i64 z) := by
        have := (HOK2.out.cell (p := ⟨0, 0 + kn, none⟩) (show 0 < _ by omega) hg0).trans (HT2.out.k (0 + kn) (by omega))
        rw [← HZK.out] at this
        simpa using this
      have hf0 : ∀ W, Obk [w.heap.size + 1] wk W → W.cell? ⟨w1.heap.size, 0, none⟩ = some (.slice (some ⟨w.heap.size + 1, 0, none⟩) n n) := fun W h => (h.cell (p := ⟨w1.heap.size, 0, none⟩) hL0 hgL).trans hcL
      have hfB : ∀ W, Obk [w.heap.size + 1] wk W → W.cell? ⟨w.heap.size, 0, none⟩ = some (.int .i64 0) := fun W h => (h.cell (p := ⟨w.heap.size, 0, none⟩) hB0 hgB).trans hcB
      have hfT : ∀ W, Obk [w.heap.size + 1] wk W → W.cell? ⟨0, kn, none⟩ = some (.int .i64 z) := fun W h => (h.cell (p := ⟨0, kn, none⟩) h00 hg0).trans hct
      have hix1 := fun W => ix89 W false
      have hkn5 : (kn : Int) < 5 := by omega
      dsimp only [bN, bsOf, Nat.mul_zero, Nat.mul_one, Nat.zero_add, if_true, Bool.false_eq_true, if_false] at hix1
      have HB := Lib.hid hb
      clear hb hy hxx hcl hAk
      go_wp2_with fail
      refine wp_region_ends (fun W => Obk [w.heap.size + 1] wk W) (by kernel_rfl) (Obk.drew (Obk.refl _ _)) (fun KR hKR hHeld => ?_)
      refine wpAnyH_take (i := 0) (oi := c56a0) (v := ?_) rfl (by kernel_rfl) (by kernel_rfl) (by kernel_rfl) (fun _ _ _ h => h) (Or.inl ⟨by rfl, ?_⟩) hHeld ?_
      rotate_left
      · (intro w hSw; (try dsimp only at hSw); have c0 := hf0 _ hSw; unfold c56a0; go_simp <;> with_reducible rfl)
      try simp only [c56a0, Act.put, List.setIfInBounds_toArray, List.set_cons_zero, List.set_cons_succ]
      refine wpAnyH_take (i := 1) (oi := c56a1) (v := ?_) rfl (by kernel_rfl) (by kernel_rfl) (by kernel_rfl) (fun _ _ _ h => h) (Or.inl ⟨by rfl, ?_⟩) hHeld ?_
      rotate_left
      · (intro w hSw; (try dsimp only at hSw); unfold c56a1; go_simp <;> with_reducible rfl)
      try simp only [c56a1, Act.put, List.setIfInBounds_toArray, List.set_cons_zero, List.set_cons_succ]
      refine wpAnyH_take (i := 2) (oi := c56a2) (v := ?_) rfl (by kernel_rfl) (by kernel_rfl) (by kernel_rfl) (fun _ _ _ h => h) (Or.inl ⟨by rfl, ?_⟩) hHeld ?_
      rotate_left
      · (intro w hSw; (try dsimp only at hSw); have cb := hfB _ hSw; unfold c56a2; go_simp <;> with_reducible rfl)
      try simp only [c56a2, Act.put, List.setIfInBounds_toArray, List.set_cons_zero, List.set_cons_succ]
      refine wpAnyH_take (i := 3) (oi := c56a3) (v := ?_) rfl (by kernel_rfl) (by kernel_rfl) (by kernel_rfl) (fun _ _ _ h => h) (Or.inl ⟨by rfl, ?_⟩) hHeld ?_
      rotate_left
      · (intro w hSw; (try dsimp only at hSw); unfold c56a3; go_simp <;> with_reducible rfl)
      try simp only [c56a3, Act.put, List.setIfInBounds_toArray, List.set_cons_zero, List.set_cons_succ]
      refine wpAnyH_take (i := 4) (oi := c56a4) (v := ?_) rfl (by kernel_rfl) (by kernel_rfl) (by kernel_rfl) (fun _ _ _ h => h) (Or.inl ⟨by rfl, ?_⟩) hHeld ?_
      rotate_left
      · (intro w hSw; (try dsimp only at hSw); have ix := hix1 w; unfold c56a4; go_simp <;> with_reducible rfl)
      try simp only [c56a4, Act.put, List.setIfInBounds_toArray, List.set_cons_zero, List.set_cons_succ]
      refine wpAnyH_take (i := 5) (oi := c56a5) (v := ?_) rfl (by kernel_rfl) (by kernel_rfl) (by kernel_rfl) (fun _ _ _ h => h) (Or.inl ⟨by rfl, ?_⟩) hHeld ?_
      rotate_left
      · (intro w hSw; (try dsimp only at hSw); unfold c56a5; go_simp <;> with_reducible rfl)
      try simp only [c56a5, Act.put, List.setIfInBounds_toArray, List.set_cons_zero, List.set_cons_succ]
      refine wpAnyH_take (i := 6) (oi := c56a6) (v := ?_) rfl (by kernel_rfl) (by kernel_rfl) (by kernel_rfl) (fun _ _ _ h => h) (Or.inl ⟨by rfl, ?_⟩) hHeld ?_
      rotate_left
      · (intro w hSw; (try dsimp only at hSw); have ct := hfT _ hSw; unfold c56a6; go_simp <;> with_reducible rfl)
      try simp only [c56a6, Act.put, List.setIfInBounds_toArray, List.set_cons_zero, List.set_cons_succ]
      refine wpAnyH_take (i := 7) (oi := c56a7) (v := ?_) rfl (by kernel_rfl) (by kernel_rfl) (by kernel_rfl) (fun _ _ _ h => h) (Or.inl ⟨by rfl, ?_⟩) hHeld ?_
      rotate_left
      · (intro w hSw; (try dsimp only at hSw); unfold c56a7; go_simp <;> with_reducible rfl)
      try simp only [c56a7, Act.put, List.setIfInBounds_toArray, List.set_cons_zero, List.set_cons_succ]
      refine wpAnyH_ready (rs := [8]) (by kernel_rfl) (by simp) ?_
      refine AllReadyH.cons (o := c56a8) rfl (fun K hK => ?_) AllReadyH.nil
      rw [if_pos (by rfl)]
      unfold c56a8
      go_simp
      refine hK.out _ _ (hHeld.set (by simp) k (.int .i64 z)) (fun hHeld => ?_)
      clear hK K
      try simp only [c56a8, Act.put, List.setIfInBounds_toArray, List.set_cons_zero, List.set_cons_succ]
      refine wpAnyH_done (by kernel_rfl) ?_ _
      refine hKR _ _ ?_
      go_wp2
      go_roundw
      case rel => exact ⟨k + 1, by omega, by go_num, Lib.hid (HOK2.out.trans hHeld), Lib.hid (by rw [← HSET1.out]; exact HAN.out)⟩
      case measure => simp [intOf]; omega
    · have hkn : n = k := by omega
      subst hkn
      have hs5 : w2.heap.size ≤ wr.heap.size := HO.out.size
      have hcL : wr.cell? ⟨w1.heap.size, 0, none⟩ = some (.slice (some ⟨w.heap.size + 1, 0, none⟩) n n) := (HO.out.cell (p := ⟨w1.heap.size, 0, none⟩) (show w1.heap.size < _ by omega) hgL).trans HCL.out
      have HIT := Lib.hid (runsD_any wr (some ⟨w.heap.size + 1, 0, none⟩) n n (.func 71) #[] #[])
      go_wp2_with fail
      (with_reducible refine HIT.out.mono ?_)
      rintro e w5 ⟨rfl, hq0, hq1, hb5, hz5⟩
      have HW5 := Lib.hid (HO.out.trans (Obk.of hb5))
      have HQ0 := Lib.hid hq0
      have HQ1 := Lib.hid hq1
      have HA5 := Lib.hid (HA.out.below hb5 (by omega))
      clear hq0 hq1 hb5 HIT hcL
      go_wp2_with fail
      refine (wpIn_wide (n := 9)).1 ?_
      refine range_in_turn_k (n := 9) rfl (enters_of Tryd.func80 (by kernel_rfl) rfl) (HTU.out wr.heap.size (wr.heap.size + 1) (w.heap.size + 1) n (fun k W => Obk [w.heap.size + 1] w5 W ∧ Arr W (w.heap.size + 1) (icells ((List.range n).map (upG 0 s R k)))) ?kp w5) (Below.refl _ _) (fun _ => rfl)
        (fun k W => Obk [w.heap.size + 1] w5 W ∧ Arr W (w.heap.size + 1) (icells ((List.range n).map (upG 0 s R k)))) (fun _ _ => False)
        (by
          rintro k W W' row ⟨h1, h2⟩ hg' hr
          exact ⟨h1.moved hg' (fun r e => .inr (hr r e).1), h2.own hg' (fun r e => (hr r e).2)⟩)
        (by rintro _ _ _ _ h; exact absurd h id)
        (fun k W h => h)
        ⟨Obk.refl _ _, by rw [← HZ.out]; exact HA5.out⟩
        (fun k a' W => a' = { tmps := (.slice a n c :: .int .i64 0 :: undef :: .pointer (some ⟨w.heap.size, 0, none⟩) :: .slice none 0 0 :: .pointer (some ⟨w1.heap.size, 0, none⟩) :: u6 :: u7 :: u8 :: u9 :: .int .i64 ((R.getD k (0, 0)).1 : Int) :: .int .i64 ((R.getD k (0, 0)).2 : Int) :: [.slice a n c, .int .i64 (n : Int), .slice (some ⟨w.heap.size + 1, 0, none⟩) n n, .slice a n c, .int .i64 (n : Int), .int .i64 (n : Int), .bool false, u19, u20, u21, u22, u23, u24, u25, u26, u27, u28, u29, u30, u31, u32, u33, u34, u35, .slice (some ⟨w.heap.size + 1, 0, none⟩) n n, .func (.func 80) #[] #[.pointer (some ⟨wr.heap.size, 0, none⟩), .pointer (some ⟨wr.heap.size + 1, 0, none⟩)], .int .i64 ((R.getD k (0, 0)).1 : Int), .int .i64 ((R.getD k (0, 0)).2 : Int), undef, undef, undef, undef, undef, undef, undef, undef, undef, undef, undef, undef]).toArray, defers := [] })
        ?hax ?assign ?body ?done ?stop ?panic
      case kp =>
        rintro k W ⟨hO, hA⟩
        refine ⟨⟨?_, ?_, ?_⟩, fun x => isGap_any W x⟩
        · rw [HSS.out]; exact (hO.cell (p := ⟨wr.heap.size, 0, none⟩) (show wr.heap.size < _ by omega) (by simp; omega)).trans HQ0.out
        · exact (hO.cell (p := ⟨wr.heap.size + 1, 0, none⟩) (show wr.heap.size + 1 < _ by omega) (by simp; omega)).trans HQ1.out
        · intro j hb hj
          rw [HSS.out] at hj
          refine ⟨_, _, rfl, ?_⟩
          rw [Nat.zero_add]
          have := arr_at hA hj
          rwa [show upG 0 s R k j = s.getD j 0 by unfold upG; rw [if_neg (by omega)]] at this
      case hax =>
        rintro k a' u W W' row h hg hr
        exact h
      case assign =>
        intro lp k W K hk hI hK
        obtain ⟨ra, rc, hab⟩ : ∃ a b, R.getD k (0, 0) = (a, b) := ⟨_, _, rfl⟩
        rw [hab] at hK
        have HKK := Lib.hid hK
        have HI := Lib.hid hI
        clear hI hK
        unfold runV
        rw [hab]
        clear hab
        gi_wp2
        exact HKK.out _ _ (KeepsFrom.refl _ _) HI.out rfl
      case stop => intro D c W _ hf; exact absurd hf id
      case panic => intro D pv W hok; cases hok
      case body =>
        rintro lp k a' W hk ⟨h1, h2⟩ rfl hsW
        obtain ⟨ra, rc, hab⟩ : ∃ a b, R.getD k (0, 0) = (a, b) := ⟨_, _, rfl⟩
        obtain ⟨g1, g2, g3⟩ := HST.out k ra rc hk hab
        have hW5 : w5.heap.size ≤ W.heap.size := h1.size
        have hf0 : ∀ W', Obk [w.heap.size + 1] W W' → W'.cell? ⟨w1.heap.size, 0, none⟩ = some (.slice (some ⟨w.heap.size + 1, 0, none⟩) n n) := fun W' h => ((HW5.out.trans (h1.trans h)).cell (p := ⟨w1.heap.size, 0, none⟩) (show w1.heap.size < _ by omega) hgL).trans HCL.out
        have hfB : ∀ W', Obk [w.heap.size + 1] W W' → W'.cell? ⟨w.heap.size, 0, none⟩ = some (.int .i64 0) := fun W' h => ((HW5.out.trans (h1.trans h)).cell (p := ⟨w.heap.size, 0, none⟩) (show w.heap.size < _ by omega) hgB).trans HCB.out
        have HAR := Lib.hid (around_any W.drew (w.heap.size + 1) n ra rc (upG 0 s R k) 0 h2.drew g1 g2 hn)
        have HFI := Lib.hid (fun (W' : World) (h : Arr W' (w.heap.size + 1) (icells ((List.range n).map (upG 0 s R k)))) => fill_any W' (w.heap.size + 1) n ra (rc - ra) (rc - ra) (upG 0 s R k) (arS (upG 0 s R k) n ra rc 0) h (by omega) hn (Nat.le_refl _))
        rw [g3] at HFI
        obtain ⟨y, hy⟩ : ∃ y, arS (upG 0 s R k) n ra rc 0 = y := ⟨_, rfl⟩
        rw [hy] at HAR HFI
        have H1 := Lib.hid h1
        have H2 := Lib.hid h2
        rw [hab]
        dsimp only
        clear g3 hab h1 h2 hy
        have i1 : (ra : Int) ≤ (rc : Int) := by omega
        have i2 : (rc : Int) ≤ (n : Int) := by omega
        gi_wp2_with fail
        refine wpIn_region_round (fun W' => Obk [w.heap.size + 1] W W') (by kernel_rfl) (by kernel_rfl) (Obk.drew (Obk.refl _ _)) (fun KR hKR hHeld => ?_)
        refine wpAnyH_take (i := 0) (oi := c56b0) (v := ?_) rfl (by kernel_rfl) (by kernel_rfl) (by kernel_rfl) (fun _ _ _ h => h) (Or.inl ⟨by rfl, ?_⟩) hHeld ?_
        rotate_left
        · (intro w hSw; (try dsimp only at hSw); have c0 := hf0 _ hSw; unfold c56b0; go_simp <;> with_reducible rfl)
        try simp only [c56b0, Act.put, List.setIfInBounds_toArray, List.set_cons_zero, List.set_cons_succ]
        refine wpAnyH_take (i := 1) (oi := c56b1) (v := ?_) rfl (by kernel_rfl) (by kernel_rfl) (by kernel_rfl) (fun _ _ _ h => h) (Or.inl ⟨by rfl, ?_⟩) hHeld ?_
        rotate_left
        · (intro w hSw; (try dsimp only at hSw); unfold c56b1; go_simp <;> with_reducible rfl)
        try simp only [c56b1, Act.put, List.setIfInBounds_toArray, List.set_cons_zero, List.set_cons_succ]
        refine wpAnyH_take (i := 2) (oi := c56b2) (v := ?_) rfl (by kernel_rfl) (by kernel_rfl) (by kernel_rfl) (fun _ _ _ h => h) (Or.inl ⟨by rfl, ?_⟩) hHeld ?_
        rotate_left
        · (intro w hSw; (try dsimp only at hSw); unfold c56b2; go_simp <;> with_reducible rfl)
        try simp only [c56b2, Act.put, List.setIfInBounds_toArray, List.set_cons_zero, List.set_cons_succ]
        refine wpAnyH_take (i := 3) (oi := c56b3) (v := ?_) rfl (by kernel_rfl) (by kernel_rfl) (by kernel_rfl) (fun _ _ _ h => h) (Or.inl ⟨by rfl, ?_⟩) hHeld ?_
        rotate_left
        · (intro w hSw; (try dsimp only at hSw); unfold c56b3; go_simp <;> with_reducible rfl)
        try simp only [c56b3, Act.put, List.setIfInBounds_toArray, List.set_cons_zero, List.set_cons_succ]
        refine wpAnyH_take (i := 4) (oi := c56b4) (v := ?_) rfl (by kernel_rfl) (by kernel_rfl) (by kernel_rfl) (fun _ _ _ h => h) (Or.inl ⟨by rfl, ?_⟩) hHeld ?_
        rotate_left
        · (intro w hSw; (try dsimp only at hSw); unfold c56b4; go_simp <;> with_reducible rfl)
        try simp only [c56b4, Act.put, List.setIfInBounds_toArray, List.set_cons_zero, List.set_cons_succ]
        refine wpAnyH_take (i := 5) (oi := c56b5) (v := ?_) rfl (by kernel_rfl) (by kernel_rfl) (by kernel_rfl) (fun _ _ _ h => h) (Or.inl ⟨by rfl, ?_⟩) hHeld ?_
        rotate_left
        · (intro w hSw; (try dsimp only at hSw); have c0 := hf0 _ hSw; unfold c56b5; go_simp <;> with_reducible rfl)
        try simp only [c56b5, Act.put, List.setIfInBounds_toArray, List.set_cons_zero, List.set_cons_succ]
        refine wpAnyH_take (i := 6) (oi := c56b6) (v := ?_) rfl (by kernel_rfl) (by kernel_rfl) (by kernel_rfl) (fun _ _ _ h => h) (Or.inl ⟨by rfl, ?_⟩) hHeld ?_
        rotate_left
        · (intro w hSw; (try dsimp only at hSw); unfold c56b6; go_simp <;> with_reducible rfl)
        try simp only [c56b6, Act.put, List.setIfInBounds_toArray, List.set_cons_zero, List.set_cons_succ]
        refine wpAnyH_take (i := 7) (oi := c56b7) (v := ?_) rfl (by kernel_rfl) (by kernel_rfl) (by kernel_rfl) (fun _ _ _ h => h) (Or.inl ⟨by rfl, ?_⟩) hHeld ?_
        rotate_left
        · (intro w hSw; (try dsimp only at hSw); unfold c56b7; go_simp <;> with_reducible rfl)
        try simp only [c56b7, Act.put, List.setIfInBounds_toArray, List.set_cons_zero, List.set_cons_succ]
        refine wpAnyH_take (i := 8) (oi := c56b8) (v := ?_) rfl (by kernel_rfl) (by kernel_rfl) (by kernel_rfl) (fun _ _ _ h => h) (Or.inl ⟨by rfl, ?_⟩) hHeld ?_
        rotate_left
        · (intro w hSw; (try dsimp only at hSw); have cb := hfB _ hSw; unfold c56b8; go_simp <;> with_reducible rfl)
        try simp only [c56b8, Act.put, List.setIfInBounds_toArray, List.set_cons_zero, List.set_cons_succ]
        refine wpAnyH_ready (rs := [9]) (by kernel_rfl) (by simp) ?_
        refine AllReadyH.cons (o := c56b9) rfl (fun K hK => ?_) AllReadyH.nil
        rw [if_pos (by rfl)]
        unfold c56b9
        go_simp
        (with_reducible refine (HAR.out).mono ?_)
        rintro e W1 ⟨rfl, q, hq⟩
        have hS : Obk [w.heap.size + 1] W W1 := (by rw [hq]; exact hHeld.drewN q); have hA1 : Arr W1 (w.heap.size + 1) (icells ((List.range n).map (upG 0 s R k))) := (by rw [hq]; exact H2.out.drew.drewN q); have HFI1 := Lib.hid (HFI.out W1 hA1); clear hq hA1
        go_wp2_with fail
        refine hK.out _ _ hS (fun hHeld => ?_)
        clear hK K
        try simp only [c56b9, Act.put, List.setIfInBounds_toArray, List.set_cons_zero, List.set_cons_succ]
        refine wpAnyH_ready (rs := [10]) (by kernel_rfl) (by simp) ?_
        refine AllReadyH.cons (o := c56b10) rfl (fun K hK => ?_) AllReadyH.nil
        rw [if_pos (by rfl)]
        unfold c56b10
        go_simp
        (with_reducible refine (HFI1.out).mono ?_)
        rintro e W2 ⟨rfl, h3, h4⟩
        have hS := hHeld.trans h4
        go_wp2_with fail
        refine hK.out _ _ hS (fun hHeld => ?_)
        clear hK K
        try simp only [c56b10, Act.put, List.setIfInBounds_toArray, List.set_cons_zero, List.set_cons_succ]
        refine wpAnyH_done (by kernel_rfl) ?_ _
        refine hKR _ _ ?_
        gi_wp2
        exact ⟨hHeld.keeps (by simp; omega), trivial, H1.out.trans hHeld, h3⟩
      case done =>
        rintro D W _ hD ⟨h1, h2⟩ hK
        rw [HE.out] at h2
        have hDW : D < W.heap.size := (Array.getElem?_eq_some_iff.1 hK).1
        have hcW : W.cell? ⟨w1.heap.size, 0, none⟩ = some (.slice (some ⟨w.heap.size + 1, 0, none⟩) n n) := ((HW5.out.trans h1).cell (p := ⟨w1.heap.size, 0, none⟩) (show w1.heap.size < _ by omega) hgL).trans HCL.out
        have ho := h1.moved (grownBy_putObj' W D (.deferred none)) (fun k e => .inr (by cases e; omega))
        have h2b := h2.own (grownBy_putObj' W D (.deferred none)) (fun r e => by cases e; exact ⟨_, hK, rfl⟩)
        have hsF : w5.heap.size ≤ (W.putObj D (.deferred none)).heap.size := ho.size
        have HR := Lib.hid (IRow.of_arr h2b (by omega) HLL.out hmx)
        have HB := Lib.hid (HW2.out.trans ((HW5.out.trans ho).below (by omega) (by simp)))
        have HKK := Lib.hid hK
        clear h1 h2 ho h2b hK
        go_wp2
        refine ⟨by simp, .inl ⟨_, _, rfl, run_takeDeferred HKK.out, ?_⟩⟩
        exact ⟨.slice (some ⟨w.heap.size + 1, 0, none⟩) n n, by simp [results, Tryd.results56, go_sem], _, rfl, HR.out, HB.out⟩

set_option maxRecDepth 100000 in
set_option maxHeartbeats 8000000 in
theorem levelsOf_true (w : World) (v : Value) (l : List Int) (hv : IRow w w.heap.size v l) (hn : l.length ≤ 1000000) (hok : ∀ r ∈ l, okPt r = true) (hT : DTab w) : Calls Tryd.prog 56 #[v, .int .i64 1] w fun e w' => ∃ u, e = .returned u ∧ IRow w' w'.heap.size u (lvL 1 l) ∧ Below w.heap.size w w' := by
  obtain ⟨i0, hi, hz0, hz1, hz2⟩ := info_parts Tryd.info3r
  obtain ⟨R, hR⟩ := chain_ex (isGapB (l.map (own 1))) (l.map (own 1)).length (l.map (own 1)).length 0 (by omega)
  have HR := Lib.hid hR
  have HST : Hid (∀ k a c, k < R.length → R.getD k (0, 0) = (a, c) → a < c ∧ c ≤ l.length ∧ (List.range l.length).map (fillS (upG 1 (l.map (own 1)) R k) a (a + (c - a)) (arS (upG 1 (l.map (own 1)) R k) l.length a c 1)) = (List.range l.length).map (upG 1 (l.map (own 1)) R (k + 1))) := Lib.hid (fun k a c hk he => by
    have := upG_step (b := 1) hR hk he
    rwa [show (l.map (own 1)).length = l.length by simp] at this)
  have HZ := Lib.hid (upG_zero 1 (l.map (own 1)) R l.length)
  have HE := Lib.hid (upG_end hR)
  have HK := Lib.hid (fun W r (h : okPt r = true) => (by have := kind_any W r; rw [(kind_ok h).1, (kind_ok h).2] at this; exact this : Calls Tryd.prog 22 #[.int .i64 r] W fun e w' => e = .returned (.tuple #[.int .i64 (knd r), .int .i64 0]) ∧ Below W.heap.size W w'))
  have HOT := Lib.hid (own_tab true)
  have HTB := Lib.hid hT
  have HOK := Lib.hid hok
  have HTU := Lib.hid (fun (Qs Qf g : Nat) (c : Nat) (Kp : Nat → World → Prop) => runs71_turn 8 (by omega) Qs Qf (some ⟨g, 0, none⟩) c (l.map (own 1)) (fun x => decide (x = -1)) R (by simp; omega) hR Kp)
  have HLL := Lib.hid (lvL_len 1 l)
  have h2 : 2 < w.heap.size := hT.u.lt
  obtain ⟨a, c, rfl, hc, hm9, HC⟩ := hv.later
  have HC := Lib.hid HC
  have HSL : Hid (∀ k (hk : k < l.length), (l.map (own 1)).getD k 0 = own 1 l[k]) := Lib.hid (fun k hk => by simp [List.getD, hk])
  obtain ⟨s, hs⟩ : ∃ s, l.map (own 1) = s := ⟨_, rfl⟩
  obtain ⟨n, hN⟩ : ∃ n, l.length = n := ⟨_, rfl⟩
  have HSS : Hid (s.length = n) := Lib.hid (by rw [← hs]; simpa using hN)
  rw [hs] at HST HZ HE HTU HSL HR
  rw [hN] at hc hn HST HZ HE HLL ⊢
  have HN := Lib.hid hN
  have hmx : n ≤ maxLen := by unfold maxLen; omega
  have HMADE := Lib.hid (made_int n (sgF s 0) (fun j => by unfold sgF; rw [if_neg (by omega)]))
  have HSET := Lib.hid (sgF_set s n)
  clear hs hN hok hT hR
  refine (callsIn_wide (n := 9)).1 ?_
  refine callsIn_of_wp_marks Tryd.func56 rfl trivial ?_ rfl
  simp only [Tryd.ntmps56, List.size_toArray, List.length_cons, List.length_nil, Nat.reduceAdd, Nat.reduceSub, Array.replicate_succ, Array.replicate_zero, List.push_toArray, List.append_toArray, List.nil_append, List.cons_append]
  refine wpIn_wide.2 ?_
  have hzw : (w.alloc (.cells #[.int .i64 1] 3)).heap.size = w.heap.size + 1 := by simp
  have hcw : (w.alloc (.cells #[.int .i64 1] 3)).cell? ⟨w.heap.size, 0, none⟩ = some (.int .i64 1) := by rw [World.cell?_alloc_new]; rfl
  have HBW := Lib.hid (below_alloc w (.cells #[.int .i64 1] 3))
  go_wp2_with (refine wpList_make_full _ rfl (.tmp 13) (.tmp 13) 22 rfl (w.heap.size + 1) 3 i0 (.int .i64 0) 1 Tryd.underlying22 hi hz0 hz1 .i64 .i64 _ _ n (by rfl) (by rfl) rfl rfl (by rw [hz2]; omega) hmx (by simp) ?_; intro w1 hO1 hG1; rw [hzw] at hO1; rw [HMADE.out] at hO1; have HA1 := Lib.hid (Arr.of_own hO1); have HB1 := Lib.hid (below_none hG1); have hs1 := (hO1.lt (w.heap.size + 1) rfl).2; clear hO1 hG1)
  obtain ⟨w2, hw2⟩ : ∃ W, w1.alloc (.cells #[.slice (some ⟨w.heap.size + 1, 0, none⟩) n n] 22) = W := ⟨_, rfl⟩
  have hb12 : Below w1.heap.size w1 w2 := by rw [← hw2]; exact below_alloc w1 _
  have hs2 : w2.heap.size = w1.heap.size + 1 := by rw [← hw2]; simp
  have hbw1 : Below w.heap.size w w1 := HBW.out.trans (HB1.out.mono (by simp))
  have hcB : w2.cell? ⟨w.heap.size, 0, none⟩ = some (.int .i64 1) := (hb12.cell (p := ⟨w.heap.size, 0, none⟩) (show w.heap.size < _ by omega)).trans ((HB1.out.cell (p := ⟨w.heap.size, 0, none⟩) (show w.heap.size < _ by rw [hzw]; omega)).trans hcw)
  have hcL : w2.cell? ⟨w1.heap.size, 0, none⟩ = some (.slice (some ⟨w.heap.size + 1, 0, none⟩) n n) := by rw [← hw2, World.cell?_alloc_new]; rfl
  have HA2 := Lib.hid (HA1.out.below hb12 hs1)
  have HW2 := Lib.hid (hbw1.trans (hb12.mono hbw1.size))
  have HT2 := Lib.hid (HTB.out.below HW2.out)
  have HCB := Lib.hid hcB
  have HCL := Lib.hid hcL
  have hgL : w1.heap.size ∉ [w.heap.size + 1] := by simp; omega
  have hgB : w.heap.size ∉ [w.heap.size + 1] := by simp
  have hg0 : 0 ∉ [w.heap.size + 1] := by simp
  rw [hw2]
  clear hw2 hb12 hbw1 hcB hcL hzw hcw HA1 HB1 HBW HTB HMADE
  go_loopw [6, 7, 8, 9, 17] (fun s6 s7 s8 s9 s17 wr => ∃ k : Nat, k ≤ n ∧ s17 = .int .i64 k ∧ Hid (Obk [w.heap.size + 1] w2 wr) ∧ Hid (Arr wr (w.heap.size + 1) (icells ((List.range n).map (sgF s k))))) (fun _ _ _ _ s17 _ => n - (intOf s17).toNat)
  case atStart => exact ⟨0, Nat.zero_le _, rfl, Lib.hid (Obk.refl _ _), HA2⟩
  case round =>
    obtain ⟨k, hk, rfl, HO, HA⟩ := hrel
    by_cases hlt : k < n
    · have hkl : k < l.length := by rw [HN.out]; exact hlt
      have hbr : Below w.heap.size w wr := HW2.out.trans (HO.out.below (by omega) (by simp))
      obtain ⟨b, off, rfl, hcell⟩ := HC.out wr hbr k hkl
      have HK1 := Lib.hid (HK.out wr l[k] (HOK.out _ (List.getElem_mem hkl)))
      obtain ⟨kn, hk1, hk2, hk3⟩ := HOT.out l[k]
      have hsk := HSL.out k hkl
      have hsk2 : s.getD k 0 = tabD.getD (5 + kn) 0 := hsk.trans hk3.symm
      rw [hk1] at HK1
      obtain ⟨x, hx⟩ : ∃ x, l[k] = x := ⟨_, rfl⟩
      rw [hx] at hcell HK1
      have HSET1 := Lib.hid (HSET.out k hlt)
      obtain ⟨z, hz⟩ : ∃ z, s.getD k 0 = z := ⟨_, rfl⟩
      rw [hz] at HSET1 hsk2
      have HZK := Lib.hid hsk2
      clear hsk hsk2 hk1 hk3 hx hkl hz hbr
      go_wp2_with fail
      (with_reducible refine HK1.out.mono ?_)
      rintro e wk ⟨rfl, hb⟩
      have HOK2 := Lib.hid (HO.out.trans (Obk.of hb))
      have hszk : w2.heap.size ≤ wk.heap.size := HOK2.out.size
      have hAk := HA.out.below hb (by have := HO.out.size; omega)
      have hcl : k < (icells ((List.range n).map (sgF s k))).length := by simp [icells]; omega
      have hc1 := hAk.cell (i := k) (v := (icells ((List.range n).map (sgF s k)))[k]) (List.getElem?_eq_getElem hcl)
      have hf1 := hAk.frozen hcl
      obtain ⟨y, hy⟩ : ∃ y, sgF s k k = y := ⟨_, rfl⟩
      have hxx : (icells ((List.range n).map (sgF s k)))[k] = .int .i64 y := by rw [← hy]; simp [icells]
      rw [hxx] at hc1
      have HAN := Lib.hid (hAk.drew.set k (.int .i64 z))
      have hL0 : w1.heap.size < wk.heap.size := by omega
      have hB0 : w.heap.size < wk.heap.size := by omega
      have h00 : 0 < wk.heap.size := by omega
      have hcL : wk.cell? ⟨w1.heap.size, 0, none⟩ = some (.slice (some ⟨w.heap.size + 1, 0, none⟩) n n) := (HOK2.out.cell (p := ⟨w1.heap.size, 0, none⟩) (show w1.heap.size < _ by omega) hgL).trans HCL.out
      have hcB : wk.cell? ⟨w.heap.size, 0, none⟩ = some (.int .i64 1) := (HOK2.out.cell (p := ⟨w.heap.size, 0, none⟩) (show w.heap.size < _ by omega) hgB).trans HCB.out
      have hct : wk.cell? ⟨0, 5 + kn, none⟩ = some (.int .i64 z) := by
        have := (HOK2.out.cell (p := ⟨0, 5 + kn, none⟩) (show 0 < _ by omega) hg0).trans (HT2.out.k (5 + kn) (by omega))
        rw [← HZK.out] at this
        simpa using this
      have hf0 : ∀ W, Obk [w.heap.size + 1] wk W → W.cell? ⟨w1.heap.size, 0, none⟩ = some (.slice (some ⟨w.heap.size + 1, 0, none⟩) n n) := fun W h => (h.cell (p := ⟨w1.heap.size, 0, none⟩) hL0 hgL).trans hcL
      have hfB : ∀ W, Obk [w.heap.size + 1] wk W → W.cell? ⟨w.heap.size, 0, none⟩ = some (.int .i64 1) := fun W h => (h.cell (p := ⟨w.heap.size, 0, none⟩) hB0 hgB).trans hcB
      have hfT : ∀ W, Obk [w.heap.size + 1] wk W → W.cell? ⟨0, 5 + kn, none⟩ = some (.int .i64 z) := fun W h => (h.cell (p := ⟨0, 5 + kn, none⟩) h00 hg0).trans hct
      have hix1 := fun W => ix89 W true
      have hkn5 : (kn : Int) < 5 := by omega
      dsimp only [bN, bsOf, Nat.mul_zero, Nat.mul_one, Nat.zero_add, if_true, Bool.false_eq_true, if_false] at hix1
      have HB := Lib.hid hb
      clear hb hy hxx hcl hAk
      go_wp2_with fail
      refine wp_region_ends (fun W => Obk [w.heap.size + 1] wk W) (by kernel_rfl) (Obk.drew (Obk.refl _ _)) (fun KR hKR hHeld => ?_)
      refine wpAnyH_take (i := 0) (oi := c56a0) (v := ?_) rfl (by kernel_rfl) (by kernel_rfl) (by kernel_rfl) (fun _ _ _ h => h) (Or.inl ⟨by rfl, ?_⟩) hHeld ?_
      rotate_left
      · (intro w hSw; (try dsimp only at hSw); have c0 := hf0 _ hSw; unfold c56a0; go_simp <;> with_reducible rfl)
      try simp only [c56a0, Act.put, List.setIfInBounds_toArray, List.set_cons_zero, List.set_cons_succ]
      refine wpAnyH_take (i := 1) (oi := c56a1) (v := ?_) rfl (by kernel_rfl) (by kernel_rfl) (by kernel_rfl) (fun _ _ _ h => h) (Or.inl ⟨by rfl, ?_⟩) hHeld ?_
      rotate_left
      · (intro w hSw; (try dsimp only at hSw); unfold c56a1; go_simp <;> with_reducible rfl)
      try simp only [c56a1, Act.put, List.setIfInBounds_toArray, List.set_cons_zero, List.set_cons_succ]
      refine wpAnyH_take (i := 2) (oi := c56a2) (v := ?_) rfl (by kernel_rfl) (by kernel_rfl) (by kernel_rfl) (fun _ _ _ h => h) (Or.inl ⟨by rfl, ?_⟩) hHeld ?_
      rotate_left
      · (intro w hSw; (try dsimp only at hSw); have cb := hfB _ hSw; unfold c56a2; go_simp <;> with_reducible rfl)
      try simp only [c56a2, Act.put, List.setIfInBounds_toArray, List.set_cons_zero, List.set_cons_succ]
      refine wpAnyH_take (i := 3) (oi := c56a3) (v := ?_) rfl (by kernel_rfl) (by kernel_rfl) (by kernel_rfl) (fun _ _ _ h => h) (Or.inl ⟨by rfl, ?_⟩) hHeld ?_
      rotate_left
      · (intro w hSw; (try dsimp only at hSw); unfold c56a3; go_simp <;> with_reducible rfl)
      try simp only [c56a3, Act.put, List.setIfInBounds_toArray, List.set_cons_zero, List.set_cons_succ]
      refine wpAnyH_take (i := 4) (oi := c56a4) (v := ?_) rfl (by kernel_rfl) (by kernel_rfl) (by kernel_rfl) (fun _ _ _ h => h) (Or.inl ⟨by rfl, ?_⟩) hHeld ?_
      rotate_left
      · (intro w hSw; (try dsimp only at hSw); have ix := hix1 w; unfold c56a4; go_simp <;> with_reducible rfl)
      try simp only [c56a4, Act.put, List.setIfInBounds_toArray, List.set_cons_zero, List.set_cons_succ]
      refine wpAnyH_take (i := 5) (oi := c56a5) (v := ?_) rfl (by kernel_rfl) (by kernel_rfl) (by kernel_rfl) (fun _ _ _ h => h) (Or.inl ⟨by rfl, ?_⟩) hHeld ?_
      rotate_left
      · (intro w hSw; (try dsimp only at hSw); unfold c56a5; go_simp <;> with_reducible rfl)
      try simp only [c56a5, Act.put, List.setIfInBounds_toArray, List.set_cons_zero, List.set_cons_succ]
      refine wpAnyH_take (i := 6) (oi := c56a6) (v := ?_) rfl (by kernel_rfl) (by kernel_rfl) (by kernel_rfl) (fun _ _ _ h => h) (Or.inl ⟨by rfl, ?_⟩) hHeld ?_
      rotate_left
      · (intro w hSw; (try dsimp only at hSw); have ct := hfT _ hSw; unfold c56a6; go_simp <;> with_reducible rfl)
      try simp only [c56a6, Act.put, List.setIfInBounds_toArray, List.set_cons_zero, List.set_cons_succ]
      refine wpAnyH_take (i := 7) (oi := c56a7) (v := ?_) rfl (by kernel_rfl) (by kernel_rfl) (by kernel_rfl) (fun _ _ _ h => h) (Or.inl ⟨by rfl, ?_⟩) hHeld ?_
      rotate_left
      · (intro w hSw; (try dsimp only at hSw); unfold c56a7; go_simp <;> with_reducible rfl)
      try simp only [c56a7, Act.put, List.setIfInBounds_toArray, List.set_cons_zero, List.set_cons_succ]
      refine wpAnyH_ready (rs := [8]) (by kernel_rfl) (by simp) ?_
      refine AllReadyH.cons (o := c56a8) rfl (fun K hK => ?_) AllReadyH.nil
      rw [if_pos (by rfl)]
      unfold c56a8
      go_simp
      refine hK.out _ _ (hHeld.set (by simp) k (.int .i64 z)) (fun hHeld => ?_)
      clear hK K
      try simp only [c56a8, Act.put, List.setIfInBounds_toArray, List.set_cons_zero, List.set_cons_succ]
      refine wpAnyH_done (by kernel_rfl) ?_ _
      refine hKR _ _ ?_
      go_wp2
      go_roundw
      case rel => exact ⟨k + 1, by omega, by go_num, Lib.hid (HOK2.out.trans hHeld), Lib.hid (by rw [← HSET1.out]; exact HAN.out)⟩
      case measure => simp [intOf]; omega
    · have hkn : n = k := by omega
      subst hkn
      have hs5 : w2.heap.size ≤ wr.heap.size := HO.out.size
      have hcL : wr.cell? ⟨w1.heap.size, 0, none⟩ = some (.slice (some ⟨w.heap.size + 1, 0, none⟩) n n) := (HO.out.cell (p := ⟨w1.heap.size, 0, none⟩) (show w1.heap.size < _ by omega) hgL).trans HCL.out
      have HIT := Lib.hid (runsD_any wr (some ⟨w.heap.size + 1, 0, none⟩) n n (.func 71) #[] #[])
      go_wp2_with fail
      (with_reducible refine HIT.out.mono ?_)
      rintro e w5 ⟨rfl, hq0, hq1, hb5, hz5⟩
      have HW5 := Lib.hid (HO.out.trans (Obk.of hb5))
      have HQ0 := Lib.hid hq0
      have HQ1 := Lib.hid hq1
      have HA5 := Lib.hid (HA.out.below hb5 (by omega))
      clear hq0 hq1 hb5 HIT hcL
      go_wp2_with fail
      refine (wpIn_wide (n := 9)).1 ?_
      refine range_in_turn_k (n := 9) rfl (enters_of Tryd.func80 (by kernel_rfl) rfl) (HTU.out wr.heap.size (wr.heap.size + 1) (w.heap.size + 1) n (fun k W => Obk [w.heap.size + 1] w5 W ∧ Arr W (w.heap.size + 1) (icells ((List.range n).map (upG 1 s R k)))) ?kp w5) (Below.refl _ _) (fun _ => rfl)
        (fun k W => Obk [w.heap.size + 1] w5 W ∧ Arr W (w.heap.size + 1) (icells ((List.range n).map (upG 1 s R k)))) (fun _ _ => False)
        (by
          rintro k W W' row ⟨h1, h2⟩ hg' hr
          exact ⟨h1.moved hg' (fun r e => .inr (hr r e).1), h2.own hg' (fun r e => (hr r e).2)⟩)
        (by rintro _ _ _ _ h; exact absurd h id)
        (fun k W h => h)
        ⟨Obk.refl _ _, by rw [← HZ.out]; exact HA5.out⟩
        (fun k a' W => a' = { tmps := (.slice a n c :: .int .i64 1 :: undef :: .pointer (some ⟨w.heap.size, 0, none⟩) :: .slice none 0 0 :: .pointer (some ⟨w1.heap.size, 0, none⟩) :: u6 :: u7 :: u8 :: u9 :: .int .i64 ((R.getD k (0, 0)).1 : Int) :: .int .i64 ((R.getD k (0, 0)).2 : Int) :: [.slice a n c, .int .i64 (n : Int), .slice (some ⟨w.heap.size + 1, 0, none⟩) n n, .slice a n c, .int .i64 (n : Int), .int .i64 (n : Int), .bool false, u19, u20, u21, u22, u23, u24, u25, u26, u27, u28, u29, u30, u31, u32, u33, u34, u35, .slice (some ⟨w.heap.size + 1, 0, none⟩) n n, .func (.func 80) #[] #[.pointer (some ⟨wr.heap.size, 0, none⟩), .pointer (some ⟨wr.heap.size + 1, 0, none⟩)], .int .i64 ((R.getD k (0, 0)).1 : Int), .int .i64 ((R.getD k (0, 0)).2 : Int), undef, undef, undef, undef, undef, undef, undef, undef, undef, undef, undef, undef]).toArray, defers := [] })
        ?hax ?assign ?body ?done ?stop ?panic
      case kp =>
        rintro k W ⟨hO, hA⟩
        refine ⟨⟨?_, ?_, ?_⟩, fun x => isGap_any W x⟩
        · rw [HSS.out]; exact (hO.cell (p := ⟨wr.heap.size, 0, none⟩) (show wr.heap.size < _ by omega) (by simp; omega)).trans HQ0.out
        · exact (hO.cell (p := ⟨wr.heap.size + 1, 0, none⟩) (show wr.heap.size + 1 < _ by omega) (by simp; omega)).trans HQ1.out
        · intro j hb hj
          rw [HSS.out] at hj
          refine ⟨_, _, rfl, ?_⟩
          rw [Nat.zero_add]
          have := arr_at hA hj
          rwa [show upG 1 s R k j = s.getD j 0 by unfold upG; rw [if_neg (by omega)]] at this
      case hax =>
        rintro k a' u W W' row h hg hr
        exact h
      case assign =>
        intro lp k W K hk hI hK
        obtain ⟨ra, rc, hab⟩ : ∃ a b, R.getD k (0, 0) = (a, b) := ⟨_, _, rfl⟩
        rw [hab] at hK
        have HKK := Lib.hid hK
        have HI := Lib.hid hI
        clear hI hK
        unfold runV
        rw [hab]
        clear hab
        gi_wp2
        exact HKK.out _ _ (KeepsFrom.refl _ _) HI.out rfl
      case stop => intro D c W _ hf; exact absurd hf id
      case panic => intro D pv W hok; cases hok
      case body =>
        rintro lp k a' W hk ⟨h1, h2⟩ rfl hsW
        obtain ⟨ra, rc, hab⟩ : ∃ a b, R.getD k (0, 0) = (a, b) := ⟨_, _, rfl⟩
        obtain ⟨g1, g2, g3⟩ := HST.out k ra rc hk hab
        have hW5 : w5.heap.size ≤ W.heap.size := h1.size
        have hf0 : ∀ W', Obk [w.heap.size + 1] W W' → W'.cell? ⟨w1.heap.size, 0, none⟩ = some (.slice (some ⟨w.heap.size + 1, 0, none⟩) n n) := fun W' h => ((HW5.out.trans (h1.trans h)).cell (p := ⟨w1.heap.size, 0, none⟩) (show w1.heap.size < _ by omega) hgL).trans HCL.out
        have hfB : ∀ W', Obk [w.heap.size + 1] W W' → W'.cell? ⟨w.heap.size, 0, none⟩ = some (.int .i64 1) := fun W' h => ((HW5.out.trans (h1.trans h)).cell (p := ⟨w.heap.size, 0, none⟩) (show w.heap.size < _ by omega) hgB).trans HCB.out
        have HAR := Lib.hid (around_any W.drew (w.heap.size + 1) n ra rc (upG 1 s R k) 1 h2.drew g1 g2 hn)
        have HFI := Lib.hid (fun (W' : World) (h : Arr W' (w.heap.size + 1) (icells ((List.range n).map (upG 1 s R k)))) => fill_any W' (w.heap.size + 1) n ra (rc - ra) (rc - ra) (upG 1 s R k) (arS (upG 1 s R k) n ra rc 1) h (by omega) hn (Nat.le_refl _))
        rw [g3] at HFI
        obtain ⟨y, hy⟩ : ∃ y, arS (upG 1 s R k) n ra rc 1 = y := ⟨_, rfl⟩
        rw [hy] at HAR HFI
        have H1 := Lib.hid h1
        have H2 := Lib.hid h2
        rw [hab]
        dsimp only
        clear g3 hab h1 h2 hy
        have i1 : (ra : Int) ≤ (rc : Int) := by omega
        have i2 : (rc : Int) ≤ (n : Int) := by omega
        gi_wp2_with fail
        refine wpIn_region_round (fun W' => Obk [w.heap.size + 1] W W') (by kernel_rfl) (by kernel_rfl) (Obk.drew (Obk.refl _ _)) (fun KR hKR hHeld => ?_)
        refine wpAnyH_take (i := 0) (oi := c56b0) (v := ?_) rfl (by kernel_rfl) (by kernel_rfl) (by kernel_rfl) (fun _ _ _ h => h) (Or.inl ⟨by rfl, ?_⟩) hHeld ?_
        rotate_left
        · (intro w hSw; (try dsimp only at hSw); have c0 := hf0 _ hSw; unfold c56b0; go_simp <;> with_reducible rfl)
        try simp only [c56b0, Act.put, List.setIfInBounds_toArray, List.set_cons_zero, List.set_cons_succ]
        refine wpAnyH_take (i := 1) (oi := c56b1) (v := ?_) rfl (by kernel_rfl) (by kernel_rfl) (by kernel_rfl) (fun _ _ _ h => h) (Or.inl ⟨by rfl, ?_⟩) hHeld ?_
        rotate_left
        · (intro w hSw; (try dsimp only at hSw); unfold c56b1; go_simp <;> with_reducible rfl)
        try simp only [c56b1, Act.put, List.setIfInBounds_toArray, List.set_cons_zero, List.set_cons_succ]
        refine wpAnyH_take (i := 2) (oi := c56b2) (v := ?_) rfl (by kernel_rfl) (by kernel_rfl) (by kernel_rfl) (fun _ _ _ h => h) (Or.inl ⟨by rfl, ?_⟩) hHeld ?_
        rotate_left
        · (intro w hSw; (try dsimp only at hSw); unfold c56b2; go_simp <;> with_reducible rfl)
        try simp only [c56b2, Act.put, List.setIfInBounds_toArray, List.set_cons_zero, List.set_cons_succ]
        refine wpAnyH_take (i := 3) (oi := c56b3) (v := ?_) rfl (by kernel_rfl) (by kernel_rfl) (by kernel_rfl) (fun _ _ _ h => h) (Or.inl ⟨by rfl, ?_⟩) hHeld ?_
        rotate_left
        · (intro w hSw; (try dsimp only at hSw); unfold c56b3; go_simp <;> with_reducible rfl)
        try simp only [c56b3, Act.put, List.setIfInBounds_toArray, List.set_cons_zero, List.set_cons_succ]
        refine wpAnyH_take (i := 4) (oi := c56b4) (v := ?_) rfl (by kernel_rfl) (by kernel_rfl) (by kernel_rfl) (fun _ _ _ h => h) (Or.inl ⟨by rfl, ?_⟩) hHeld ?_
        rotate_left
        · (intro w hSw; (try dsimp only at hSw); unfold c56b4; go_simp <;> with_reducible rfl)
        try simp only [c56b4, Act.put, List.setIfInBounds_toArray, List.set_cons_zero, List.set_cons_succ]
        refine wpAnyH_take (i := 5) (oi := c56b5) (v := ?_) rfl (by kernel_rfl) (by kernel_rfl) (by kernel_rfl) (fun _ _ _ h => h) (Or.inl ⟨by rfl, ?_⟩) hHeld ?_
        rotate_left
        · (intro w hSw; (try dsimp only at hSw); have c0 := hf0 _ hSw; unfold c56b5; go_simp <;> with_reducible rfl)
        try simp only [c56b5, Act.put, List.setIfInBounds_toArray, List.set_cons_zero, List.set_cons_succ]
        refine wpAnyH_take (i := 6) (oi := c56b6) (v := ?_) rfl (by kernel_rfl) (by kernel_rfl) (by kernel_rfl) (fun _ _ _ h => h) (Or.inl ⟨by rfl, ?_⟩) hHeld ?_
        rotate_left
        · (intro w hSw; (try dsimp only at hSw); unfold c56b6; go_simp <;> with_reducible rfl)
        try simp only [c56b6, Act.put, List.setIfInBounds_toArray, List.set_cons_zero, List.set_cons_succ]
        refine wpAnyH_take (i := 7) (oi := c56b7) (v := ?_) rfl (by kernel_rfl) (by kernel_rfl) (by kernel_rfl) (fun _ _ _ h => h) (Or.inl ⟨by rfl, ?_⟩) hHeld ?_
        rotate_left
        · (intro w hSw; (try dsimp only at hSw); unfold c56b7; go_simp <;> with_reducible rfl)
        try simp only [c56b7, Act.put, List.setIfInBounds_toArray, List.set_cons_zero, List.set_cons_succ]
        refine wpAnyH_take (i := 8) (oi := c56b8) (v := ?_) rfl (by kernel_rfl) (by kernel_rfl) (by kernel_rfl) (fun _ _ _ h => h) (Or.inl ⟨by rfl, ?_⟩) hHeld ?_
        rotate_left
        · (intro w hSw; (try dsimp only at hSw); have cb := hfB _ hSw; unfold c56b8; go_simp <;> with_reducible rfl)
        try simp only [c56b8, Act.put, List.setIfInBounds_toArray, List.set_cons_zero, List.set_cons_succ]
        refine wpAnyH_ready (rs := [9]) (by kernel_rfl) (by simp) ?_
        refine AllReadyH.cons (o := c56b9) rfl (fun K hK => ?_) AllReadyH.nil
        rw [if_pos (by rfl)]
        unfold c56b9
        go_simp
        (with_reducible refine (HAR.out).mono ?_)
        rintro e W1 ⟨rfl, q, hq⟩
        have hS : Obk [w.heap.size + 1] W W1 := (by rw [hq]; exact hHeld.drewN q); have hA1 : Arr W1 (w.heap.size + 1) (icells ((List.range n).map (upG 1 s R k))) := (by rw [hq]; exact H2.out.drew.drewN q); have HFI1 := Lib.hid (HFI.out W1 hA1); clear hq hA1
        go_wp2_with fail
        refine hK.out _ _ hS (fun hHeld => ?_)
        clear hK K
        try simp only [c56b9, Act.put, List.setIfInBounds_toArray, List.set_cons_zero, List.set_cons_succ]
        refine wpAnyH_ready (rs := [10]) (by kernel_rfl) (by simp) ?_
        refine AllReadyH.cons (o := c56b10) rfl (fun K hK => ?_) AllReadyH.nil
        rw [if_pos (by rfl)]
        unfold c56b10
        go_simp
        (with_reducible refine (HFI1.out).mono ?_)
        rintro e W2 ⟨rfl, h3, h4⟩
        have hS := hHeld.trans h4
        go_wp2_with fail
        refine hK.out _ _ hS (fun hHeld => ?_)
        clear hK K
        try simp only [c56b10, Act.put, List.setIfInBounds_toArray, List.set_cons_zero, List.set_cons_succ]
        refine wpAnyH_done (by kernel_rfl) ?_ _
        refine hKR _ _ ?_
        gi_wp2
        exact ⟨hHeld.keeps (by simp; omega), trivial, H1.out.trans hHeld, h3⟩
      case done =>
        rintro D W _ hD ⟨h1, h2⟩ hK
        rw [HE.out] at h2
        have hDW : D < W.heap.size := (Array.getElem?_eq_some_iff.1 hK).1
        have hcW : W.cell? ⟨w1.heap.size, 0, none⟩ = some (.slice (some ⟨w.heap.size + 1, 0, none⟩) n n) := ((HW5.out.trans h1).cell (p := ⟨w1.heap.size, 0, none⟩) (show w1.heap.size < _ by omega) hgL).trans HCL.out
        have ho := h1.moved (grownBy_putObj' W D (.deferred none)) (fun k e => .inr (by cases e; omega))
        have h2b := h2.own (grownBy_putObj' W D (.deferred none)) (fun r e => by cases e; exact ⟨_, hK, rfl⟩)
        have hsF : w5.heap.size ≤ (W.putObj D (.deferred none)).heap.size := ho.size
        have HR := Lib.hid (IRow.of_arr h2b (by omega) HLL.out hmx)
        have HB := Lib.hid (HW2.out.trans ((HW5.out.trans ho).below (by omega) (by simp)))
        have HKK := Lib.hid hK
        clear h1 h2 ho h2b hK
        go_wp2
        refine ⟨by simp, .inl ⟨_, _, rfl, run_takeDeferred HKK.out, ?_⟩⟩
        exact ⟨.slice (some ⟨w.heap.size + 1, 0, none⟩) n n, by simp [results, Tryd.results56, go_sem], _, rfl, HR.out, HB.out⟩
theorem levelsOf_any (w : World) (v : Value) (l : List Int) (hv : IRow w w.heap.size v l) (hn : l.length ≤ 1000000) (hok : ∀ r ∈ l, okPt r = true) (hT : DTab w) (x : Bool) : Calls Tryd.prog 56 #[v, .int .i64 (bsOf x)] w fun e w' => ∃ u, e = .returned u ∧ IRow w' w'.heap.size u (lvL (bsOf x) l) ∧ Below w.heap.size w w' := by
  cases x with
  | false => exact levelsOf_false w v l hv hn hok hT
  | true => exact levelsOf_true w v l hv hn hok hT
end Go.Proofs.YtilkhamlhbbmgaaDoor
