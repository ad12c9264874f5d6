/- The reference's Sum. -/
import Derived.Test.YtnddejhbncgchaaDoorRbk
import Derived.Test.YtnddejhbncgchaaDoorRpa
namespace Go.Proofs.YtnddejhbncgchaaDoor
open Go.RowKit

theorem wp_st50 {o : Oper} {a : Act} {W : World} {K : Act → World → Prop} {Q : Exit → Act → World → Prop} (x y : Operand) (ho : o.op = .store 50 x y) (b : Nat) (cs old : List Value) (hx : a.eval x = .pointer (some ⟨b, 0, none⟩)) (hy : a.eval y = .agg cs.toArray) (hA : Arr W b old) (hl : cs.length = old.length)
    (hi : (Tryd.prog.info? 50).map (·.size) = some cs.length) (h1 : ∀ v ∈ cs, v.oneCell' = true) (h : ∀ W', W.grownBy W' (some b) → Arr W' b cs → K (a.put o.dst undef) W') : o.wp Tryd.prog a W K Q := by
  refine wp_store_mid 50 x y ho b 0 cs.toArray hx hy (by rw [List.size_toArray, hl]; exact hA.there) (by simpa using hi) (all_oneCell_toArray h1) ?_
  rw [List.toList_toArray]
  exact h _ (grown_setCells _ _ _) (hA.stored hl)
theorem runs_next (s : St) (l : List UInt8) (k : Nat) : runs s l (k + 1) = press (runs s l k) ((l.drop (64 * k)).take 64) := by
  induction k generalizing s l with
  | zero => simp [runs]
  | succ k ih =>
    rw [runs, ih, runs, List.drop_drop]
    congr 3; omega
theorem built26 : Tryd.prog.built 26 [] = some (cells8 (List.replicate 32 0)).toArray := by kernel_rfl
theorem Tryd.info50 : (Tryd.prog.info? 50).map (·.size) = some 8 := by kernel_rfl

def c13a0 : Oper := { dst := some 17, op := Go.Op.load 50 (Go.Operand.tmp 3), type := 50, pos := "ref.go:66", after := #[], guard := none }
def c13a1 : Oper := { dst := some 18, op := Go.Op.move (Go.Operand.tmp 4), type := 22, pos := "ref.go:66", after := #[], guard := none }
def c13a2 : Oper := { dst := some 19, op := Go.Op.move (Go.Operand.tmp 5), type := 3, pos := "ref.go:66", after := #[], guard := none }
def c13a3 : Oper := { dst := some 20, op := Go.Op.move (Go.Operand.tmp 5), type := 3, pos := "ref.go:66", after := #[], guard := none }
def c13a4 : Oper := { dst := some 21, op := Go.Op.binOp Go.BinOp.add 3 (Go.Operand.tmp 20) (Go.Operand.const (Go.Value.int Go.IntKind.i64 64)) 3, type := 3, pos := "ref.go:66", after := #[{ on := 3, ground := Go.Ground.data }], guard := none }
def c13a5 : Oper := { dst := some 22, op := Go.Op.slice 22 (Go.Operand.tmp 18) (some (Go.Operand.tmp 19)) (some (Go.Operand.tmp 21)) none, type := 22, pos := "ref.go:66", after := #[{ on := 1, ground := Go.Ground.data }, { on := 2, ground := Go.Ground.data }, { on := 4, ground := Go.Ground.data }], guard := none }
def c13a6 : Oper := { dst := some 23, op := Go.Op.call { callee := Go.Callee.value (Go.Operand.func 33), args := #[Go.Operand.tmp 17, Go.Operand.tmp 22], argTypes := #[50, 22] }, type := 50, pos := "ref.go:66", after := #[{ on := 0, ground := Go.Ground.data }, { on := 5, ground := Go.Ground.data }], guard := none }
def c13a7 : Oper := { dst := none, op := Go.Op.store 50 (Go.Operand.tmp 3) (Go.Operand.tmp 23), type := 0, pos := "ref.go:66", after := #[{ on := 6, ground := Go.Ground.data }, { on := 6, ground := Go.Ground.chain }, { on := 0, ground := Go.Ground.phase }, { on := 1, ground := Go.Ground.phase }, { on := 2, ground := Go.Ground.phase }, { on := 3, ground := Go.Ground.phase }, { on := 4, ground := Go.Ground.phase }, { on := 5, ground := Go.Ground.phase }, { on := 6, ground := Go.Ground.phase }], guard := none }
set_option maxRecDepth 100000 in
set_option maxHeartbeats 8000000 in
theorem rsum_any (w : World) (v : Value) (b : List UInt8) (hv : BytesAt w w.heap.size v b) (hb : b.length ≤ 1000000) :
    Calls Tryd.prog 13 #[v] w fun e w' => e = .returned (dv (sha b)) ∧ Below w.heap.size w w' := by
  have hpd : ∀ W, Below w.heap.size w W → Calls Tryd.prog 32 #[v] W fun e w' => ∃ g c, e = .returned (.slice (some ⟨g, 0, none⟩) (pad b).length c) ∧ w'.ownsRow W.heap.size 5 1 (.slice (some ⟨g, 0, none⟩) (pad b).length c) (pad b).length (cells8 (pad b)) ∧ Below W.heap.size W w' := fun W hW => padded_any W v b (bytesAt_any hv hW) hb
  have hpl : ∃ m, (pad b).length = 64 * m ∧ m ≤ 20000 := by
    refine ⟨((pad b).length) / 64, ?_, ?_⟩ <;> rw [pad_eq, List.length_append, be64_len, List.length_append, List.length_cons, List.length_replicate] <;> unfold zs <;> omega
  obtain ⟨m, hpm, hm⟩ := hpl
  have hsha : sha b = outs (runs s0 (pad b) m) := by unfold sha outs; rw [hpm, Nat.mul_div_cancel_left _ (by omega)]
  obtain ⟨P, hP⟩ : ∃ P, pad b = P := ⟨_, rfl⟩
  rw [hP] at hpd hpm hsha
  rw [hsha]
  rw [hpm] at hpd
  have HPD := Lib.hid hpd
  have HPM := Lib.hid hpm
  have HNUM := Lib.hid numbers_any
  clear hpd hpm hP hsha hv hb
  have hv0 : v = v := rfl
  clear hv0
  go_enter Tryd.func13, Tryd.ntmps13
  go_wp2_with fail
  refine calls_world (fun W => Below w.heap.size w W ∧ Arr W w.heap.size (cells8 (List.replicate 32 0)) ∧ Arr W (w.heap.size + 1) (ws s0.list) ∧ w.heap.size + 1 < W.heap.size) ⟨by go_grown, ?_, ?_, by simp⟩ ?_
  · have h := (Arr.new w (cells8 (List.replicate 32 0)).toArray 26).alloc (by simp) (.cells (ws s0.list).toArray 50)
    rw [List.toList_toArray] at h; exact h
  · have h := Arr.new (w.alloc (.cells (cells8 (List.replicate 32 0)).toArray 26)) (ws s0.list).toArray 50
    rw [World.size_alloc, List.toList_toArray] at h; exact h
  rintro W1 ⟨hB1, hD1, hS1, hz1⟩
  refine (HPD.out W1 hB1).mono ?_
  rintro e W2 ⟨gP, cP, rfl, hO2, hB2⟩
  have hs12 := hB2.size
  have hsp : Spare W2 W1.heap.size gP (64 * m) cP P := hO2
  obtain ⟨hg1, hg2, hcm1, hcm2, hPl, hby⟩ := hsp.bytes
  have HBY := Lib.hid hby
  have HD2 := Lib.hid (hD1.below hB2 (by omega))
  have HS2 := Lib.hid (hS1.below hB2 hz1)
  have HB2 := Lib.hid (hB1.trans (hB2.mono hB1.size))
  have hz2 : w.heap.size + 1 < W2.heap.size := by omega
  unfold maxLen at hcm2
  clear hB1 hD1 hS1 hB2 hO2 hsp hby
  go_wp2_with fail
  go_loopw [5] (fun i wr => ∃ k N : Nat, N = 64 * k ∧ i = .int .i64 (N : Int) ∧ k ≤ m ∧ But W2 (w.heap.size + 1) wr ∧ Arr wr (w.heap.size + 1) (ws (runs s0 P k).list)) (fun i _ => 64 * m - (intOf i).toNat)
  case atStart => exact ⟨0, 0, rfl, rfl, by omega, gbelow (Below.refl _ _), HS2.out⟩
  case round =>
    obtain ⟨k, N, hN, rfl, hk, hG, hA⟩ := hrel
    have hbt : w.heap.size + 1 < wr.heap.size := by have := hG.size; omega
    by_cases hlt : k < m
    · have d1 : decide (N < 64 * m) = true := by simp; omega
      have d2 : decide ((N : Int) < 64 * (m : Int)) = true := by simp; omega
      have d3 : (N : Int) < 64 * (m : Int) := by omega
      have f1 : (N : Int) + 64 ≤ 64 * (m : Int) := by omega
      have f2 : (N : Int) + 64 ≤ (cP : Int) := by omega
      have f0 : (0 : Int) ≤ (N : Int) + 64 := by omega
      have f4 : ¬ cP = N := by omega
      have f5 : (N : Int) ≤ max ((N : Int) + 64) 0 := by omega
      have t2 : ((N : Int) + 64).toNat = N + 64 := by omega
      have q1 : IntKind.i64.wrap ((N : Int) + 64) = (N : Int) + 64 := by rw [IntKind.wrap_i64]; omega
      have hbk : ((P.drop (64 * k)).take 64).length = 64 := by rw [List.length_take, List.length_drop, hPl]; omega
      have hgb : gP < wr.heap.size := by have := hG.size; omega
      have hbin : BytesIn wr gP (64 * k) ((P.drop (64 * k)).take 64) := fun i hi => by
        have h1 := HBY.out (64 * k + i) (by rw [hPl]; omega)
        rw [Nat.zero_add] at h1
        rw [World.cell?_of_block (a := ⟨gP, 64 * k + i, none⟩) (hG.block gP hg2 (by intro e; injection e with e; omega)), h1, List.getElem_take, List.getElem_drop]
      have hblk := rblk_any wr.drew gP (64 * k) (cP - N) (runs s0 P k) _ hbk hbin hgb (by omega) (by unfold maxLen; omega) HNUM.out
      have hrn := runs_next s0 P k
      obtain ⟨cS, hcS⟩ : ∃ cS, ws (runs s0 P k).list = cS := ⟨_, rfl⟩
      have hlS : cS.length = 8 := by rw [← hcS]; rfl
      obtain ⟨cT, hcT⟩ : ∃ cT, ws (press (runs s0 P k) ((P.drop (64 * k)).take 64)).list = cT := ⟨_, rfl⟩
      have hlT : cT.length = 8 := by rw [← hcT]; rfl
      rw [hcS, hcT, ← hN] at hblk
      rw [hcS] at hA
      have HBLK := Lib.hid hblk
      have HRN := Lib.hid hrn
      have HCT := Lib.hid hcT
      have HLS := Lib.hid hlS
      have HLT := Lib.hid hlT
      have HZS : Hid ((Tryd.prog.info? 50).map (·.size) = some cS.length) := by show _ = _; rw [hlS]; exact Tryd.info50
      have HZT : Hid ((Tryd.prog.info? 50).map (·.size) = some cT.length) := by show _ = _; rw [hlT]; exact Tryd.info50
      have HOT : Hid (∀ v ∈ cT, v.oneCell' = true) := Lib.hid (by rw [← hcT]; exact one_ws _)
      have HAS := Lib.hid hA
      have HG := Lib.hid hG
      have HNN := Lib.hid hN
      clear hN hblk hrn hcT hlS hlT hA hG hbk hbin hcS
      go_wp2
      refine wp_region_held_drew (S := fun W => But wr (w.heap.size + 1) W) (by kernel_rfl) (But.drew (gbelow (Below.refl _ _))) (fun hHeld => ?_)
      refine wpAnyH_take (i := 1) (oi := c13a1) (v := ?_) rfl (by kernel_rfl) (by kernel_rfl) (by kernel_rfl) (fun _ _ _ h => h) (Or.inl ⟨by rfl, ?_⟩) hHeld ?_
      rotate_left
      · (intro w hSw; (try dsimp only at hSw); unfold c13a1; go_simp <;> with_reducible rfl)
      try simp only [c13a1, Act.put, List.setIfInBounds_toArray, List.set_cons_zero, List.set_cons_succ]
      refine wpAnyH_take (i := 2) (oi := c13a2) (v := ?_) rfl (by kernel_rfl) (by kernel_rfl) (by kernel_rfl) (fun _ _ _ h => h) (Or.inl ⟨by rfl, ?_⟩) hHeld ?_
      rotate_left
      · (intro w hSw; (try dsimp only at hSw); unfold c13a2; go_simp <;> with_reducible rfl)
      try simp only [c13a2, Act.put, List.setIfInBounds_toArray, List.set_cons_zero, List.set_cons_succ]
      refine wpAnyH_take (i := 3) (oi := c13a3) (v := ?_) rfl (by kernel_rfl) (by kernel_rfl) (by kernel_rfl) (fun _ _ _ h => h) (Or.inl ⟨by rfl, ?_⟩) hHeld ?_
      rotate_left
      · (intro w hSw; (try dsimp only at hSw); unfold c13a3; go_simp <;> with_reducible rfl)
      try simp only [c13a3, Act.put, List.setIfInBounds_toArray, List.set_cons_zero, List.set_cons_succ]
      refine wpAnyH_take (i := 4) (oi := c13a4) (v := ?_) rfl (by kernel_rfl) (by kernel_rfl) (by kernel_rfl) (fun _ _ _ h => h) (Or.inl ⟨by rfl, ?_⟩) hHeld ?_
      rotate_left
      · (intro w hSw; (try dsimp only at hSw); unfold c13a4; go_simp <;> with_reducible rfl)
      try simp only [c13a4, Act.put, List.setIfInBounds_toArray, List.set_cons_zero, List.set_cons_succ]
      refine wpAnyH_take (i := 5) (oi := c13a5) (v := ?_) rfl (by kernel_rfl) (by kernel_rfl) (by kernel_rfl) (fun _ _ _ h => h) (Or.inl ⟨by rfl, ?_⟩) hHeld ?_
      rotate_left
      · (intro w hSw; (try dsimp only at hSw); unfold c13a5; go_simp <;> with_reducible rfl)
      try simp only [c13a5, Act.put, List.setIfInBounds_toArray, List.set_cons_zero, List.set_cons_succ]
      refine wpAnyH_ready (rs := [0]) (by kernel_rfl) (by simp) ?_
      refine AllReadyH.cons (o := c13a0) rfl (fun K hK => ?_) AllReadyH.nil
      rw [if_pos (by rfl)]
      refine wp_load_mid 50 (.tmp 3) (by rfl) (w.heap.size + 1) 0 (by rfl) cS _ HAS.out.drew.at_ Tryd.underlying50 rfl HZS.out ?_
      refine hK.out _ _ hHeld (fun hHeld => ?_)
      clear hK K
      try simp only [c13a0, Act.put, List.setIfInBounds_toArray, List.set_cons_zero, List.set_cons_succ]
      refine wpAnyH_ready (rs := [6]) (by kernel_rfl) (by simp) ?_
      refine AllReadyH.cons (o := c13a6) rfl (fun K hK => ?_) AllReadyH.nil
      rw [if_pos (by rfl)]
      unfold c13a6
      go_simp
      (with_reducible refine HBLK.out.mono ?_)
      rintro e W6 ⟨rfl, hB6⟩
      have hS6 : But wr (w.heap.size + 1) W6 := hHeld.next hB6
      have hA6 := HAS.out.drew.below hB6 hbt
      go_wp2_with fail
      refine hK.out _ _ hS6 (fun hHeld => ?_)
      clear hK K
      try simp only [c13a6, Act.put, List.setIfInBounds_toArray, List.set_cons_zero, List.set_cons_succ]
      refine wpAnyH_ready (rs := [7]) (by kernel_rfl) (by simp) ?_
      refine AllReadyH.cons (o := c13a7) rfl (fun K hK => ?_) AllReadyH.nil
      rw [if_pos (by rfl)]
      refine wp_st50 _ _ (by rfl) (w.heap.size + 1) cT _ (by rfl) (by rfl) hA6 (by rw [HLT.out, HLS.out]) HZT.out HOT.out ?_
      intro W7 hG7 hA7
      have hS7 : But wr (w.heap.size + 1) W7 := gtrans hHeld hG7
      refine hK.out _ _ hS7 (fun hHeld => ?_)
      clear hK K
      try simp only [c13a7, Act.put]
      refine wpAnyH_done (by kernel_rfl) ?_ _
      have HA7 := Lib.hid hA7
      have HS7 := Lib.hid (gtrans HG.out hS7)
      clear hA7 hS7 hS6 hA6 hHeld hG7 hB6
      go_wp2
      go_roundw
      case rel => exact ⟨k + 1, N + 64, by have := HNN.out; omega, by simp, by omega, HS7.out, by rw [HRN.out, HCT.out]; exact HA7.out⟩
      case measure => simp [intOf]; omega
    · obtain rfl : k = m := by omega
      have d1 : decide (N < 64 * k) = false := by simp; omega
      have d2 : decide ((N : Int) < 64 * (k : Int)) = false := by simp; omega
      have d3 : ¬ (N : Int) < 64 * (k : Int) := by omega
      obtain ⟨s, hs⟩ : ∃ s, runs s0 P k = s := ⟨_, rfl⟩
      rw [hs] at hA
      have HSR := Lib.hid hs
      have HD3 := Lib.hid (HD2.out.moved hG (by omega) (by intro e; injection e with e; omega))
      have HBW := Lib.hid (below_grow HB2.out hG (fun q e => by cases e; omega) (by omega))
      have HS := Lib.hid hA
      have hbw := hbt
      have HB26 : Hid (∀ W : World, (Instr.build 26 (List.toArray ([] : List (Nat × Value)))).run Tryd.prog W = .ok (.agg (cells8 (List.replicate 32 0)).toArray) W) := Lib.hid fun W => run_build W 26 #[] _ built26
      obtain ⟨z32', hz32⟩ : ∃ z, cells8 (List.replicate 32 0) = z := ⟨_, rfl⟩
      rw [hz32] at HB26
      have hlz : z32'.length = 32 := by rw [← hz32]; rfl
      have HLZ := Lib.hid hlz
      have HZZ : Hid ((Tryd.prog.info? 26).map (·.size) = some z32'.length) := by show _ = _; rw [hlz]; exact Tryd.info26
      have HOZ : Hid (∀ v ∈ z32', v.oneCell' = true) := Lib.hid (by rw [← hz32]; exact one_cells8 _)
      have HZ32 := Lib.hid hz32
      clear hs hA hG hz32 hlz hN
      go_wp2_with (first
        | (refine wpList_build_run rfl 26 [] (by rfl) [] _ (by rfl) (HB26.out _) ?_; simp only [Act.put, List.setIfInBounds_toArray, List.set_cons_zero, List.set_cons_succ])
        | (refine store_new rfl 26 _ _ (by rfl) wr.heap.size wr.heap.size z32' _ (by rfl) (by rfl) ((Below.refl wr.heap.size wr).alloc (Nat.le_refl _) _) (Nat.le_refl _) (Arr.new wr _ 26) (by rw [HLZ.out]; rfl) HZZ.out HOZ.out ?_; intro W3 hB3 hA3 hz3))
      have hlt3 : wr.heap.size < W3.heap.size := by simp at hz3; omega
      have hA3' : Arr W3 wr.heap.size (cells8 (dpart s 0)) := by rw [show dpart s 0 = List.replicate 32 0 from rfl, HZ32.out]; exact hA3
      have HB3 := Lib.hid hB3
      have HA3 := Lib.hid hA3'
      clear hB3 hA3 hA3' hz3 d1 d2 d3
      obtain ⟨wo, hwo⟩ : ∃ wo : World, wo = wr := ⟨_, rfl⟩
      rw [← hwo] at HD3 HBW HS hbw hlt3 HB3 HA3 ⊢
      clear hwo hbt
      go_loopw [7] (fun i W => ∃ t : Nat, i = .int .i64 t ∧ t ≤ 32 ∧ Below wo.heap.size wo W ∧ Arr W wo.heap.size (cells8 (dpart s t)))
        (fun i _ => 32 - (intOf i).toNat)
      case atStart => exact ⟨0, rfl, by omega, HB3.out, HA3.out⟩
      case round =>
        obtain ⟨t, rfl, ht, hB, hA⟩ := hrel
        by_cases hlt : t < 32
        · have hd : decide ((t : Int) < 32) = true := by simp; omega
          have hlen : t < (cells8 (dpart s t)).length := by rw [cells8_len, dpart_len s (by omega)]; omega
          obtain ⟨u, hu⟩ : ∃ u, (cells8 (dpart s t))[t]'hlen = u := ⟨_, rfl⟩
          have hc : wr.cell? ⟨wo.heap.size, t, none⟩ = some u := hu ▸ hA.cell (List.getElem?_eq_getElem hlen)
          have hf : wr.frozen? ⟨wo.heap.size, t, none⟩ = false := hA.frozen hlen
          obtain ⟨q, hq⟩ : ∃ q, t / 4 = q := ⟨_, rfl⟩
          obtain ⟨r, hr⟩ : ∃ r, t % 4 = r := ⟨_, rfl⟩
          have hqd : (t : Int).tdiv 4 = (q : Int) := by rw [← hq]; rfl
          have hrd : (t : Int).tmod 4 = (r : Int) := by rw [← hr]; rfl
          have hqd2 : (t : Int) / 4 = (q : Int) := by omega
          have hrd2 : (t : Int) % 4 = (r : Int) := by omega
          have hw := list_getD s q (by omega)
          obtain ⟨x, hx⟩ : ∃ x, s.list.getD q 0 = x := ⟨_, rfl⟩
          rw [hx] at hw
          have hcs := (HS.out.below hB hbw).cell hw
          have key : ∀ v : Int, v = ((outb s t).toNat : Int) → Below wo.heap.size wo (wr.setCell ⟨wo.heap.size, t, none⟩ (.int .u8 v)) ∧ Arr (wr.setCell ⟨wo.heap.size, t, none⟩ (.int .u8 v)) wo.heap.size (cells8 (dpart s (t + 1))) := by
            rintro _ rfl
            refine ⟨hB.setCell (p := ⟨wo.heap.size, t, none⟩) (Nat.le_refl _) _, ?_⟩
            rw [← dpart_next s hlt]
            exact hA.set t _
          have hval : (x.toNat : Int) / 2 ^ (24 - 8 * r) % 256 = ((outb s t).toNat : Int) := by
            rw [outb_is, hq, hr, hx]; push_cast; rfl
          have KEY := Lib.hid key
          have HVAL := Lib.hid hval
          have hr4 : r < 4 := by omega
          have hq8 : q < 8 := by omega
          clear key hval hA hB hu hw hx hlen
          go_wp2
          go_roundw
          case rel => exact ⟨t + 1, by simp, by omega, (KEY.out _ HVAL.out).1, (KEY.out _ HVAL.out).2⟩
          case measure => simp [intOf]; omega
        · obtain rfl : t = 32 := by omega
          rw [dpart_is] at hA
          have hcl : (cells8 (outs s)).length = 32 := by rw [cells8_len, outs_len]
          have ho1 := one_cells8 (outs s)
          obtain ⟨cs, hcs⟩ : ∃ cs, cells8 (outs s) = cs := ⟨_, rfl⟩
          rw [hcs] at hA hcl ho1
          have HZ1 : Hid ((Tryd.prog.info? 26).map (·.size) = some cs.length) := by show _ = _; rw [hcl]; exact Tryd.info26
          have HA := Lib.hid hA
          have HDD := Lib.hid (HD3.out.below hB (by omega))
          have HBB := Lib.hid (HBW.out.trans (hB.mono HBW.out.size))
          have HO1 := Lib.hid ho1
          have HCS := Lib.hid hcs
          have HCL := Lib.hid hcl
          have d32 : decide (((32 : Nat) : Int) < 32) = false := by decide
          clear hA hB ho1 hcs hcl
          go_wp2_with (first
            | (refine wpList_load_mid rfl 26 (.tmp 6) (by rfl) wo.heap.size 0 (by rfl) _ _ HA.out.at_ Tryd.underlying26 rfl HZ1.out ?_)
            | (refine store_new rfl 26 _ _ (by rfl) w.heap.size w.heap.size cs _ (by rfl) (by rfl) HBB.out (Nat.le_refl _) HDD.out (by rw [HCL.out]; rfl) HZ1.out HO1.out ?_; intro W9 hB9 hA9 hz9))
          refine bodyPost_ret (results_cell_mid rfl _ _ _ _ _ rfl hA9.at_ Tryd.underlying26 rfl HZ1.out) rfl ?_
          exact ⟨by rw [HSR.out, dv, HCS.out], hB9⟩
end Go.Proofs.YtnddejhbncgchaaDoor
