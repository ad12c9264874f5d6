/- Fonts: what is right, and Check. -/
import Derived.Test.YtljgcpfibamdpaaDoorFsm
import Derived.Laws.EntriesVeiled
import Derived.Deep.RegionWith
namespace Go.Proofs.YtljgcpfibamdpaaDoor
open Go.RowKit

set_option maxRecDepth 100000 in
set_option maxHeartbeats 2000000 in
theorem glyphs_any (w : World) (v : Value) (l : List Tri) (h : TAt w w.heap.size v l) : Calls Tryd.prog 62 #[v] w fun e w' => e = .returned (.bool (okGs l)) ∧ Below w.heap.size w w' := by
  have H := Lib.hid h
  obtain ⟨a, cap, rfl, hc, hm, _⟩ := h
  unfold maxLen at hm
  obtain ⟨N, hN⟩ : ∃ N, l.length = N := ⟨_, rfl⟩
  have HN := Lib.hid hN
  obtain ⟨res, hres⟩ : ∃ r, okGs l = r := ⟨_, rfl⟩
  have HRES := Lib.hid hres
  rw [hres]
  rw [hN] at H hc ⊢
  clear hN hres
  go_enter Tryd.func62, Tryd.ntmps62
  go_wp2
  go_loopw [3, 8] (fun s3 s8 wr => ∃ j : Nat, s3 = .int .i64 (endB l j) ∧ s8 = .int .i64 j ∧ j ≤ N ∧ Below w.heap.size w wr ∧ Hid (∀ i, i < j → okG l i = true)) (fun _ s8 _ => N - (intOf s8).toNat)
  case atStart => exact ⟨0, rfl, rfl, by omega, Below.refl _ _, Lib.hid fun i h => by omega⟩
  case round =>
    obtain ⟨j, rfl, rfl, hj, hb, hall⟩ := hrel
    have hbs := hb.size
    by_cases hlt : j < N
    · have d : decide ((j : Int) < (N : Int)) = true := by simp; omega
      have hjl : j < l.length := by rw [HN.out]; exact hlt
      obtain ⟨b, off, rfl, hbl, _, p0, p1, p2⟩ := (H.out.below hb).got j hjl
      obtain ⟨t, ht⟩ : ∃ t, l.getD j tri0 = t := ⟨_, rfl⟩
      obtain ⟨p, hp⟩ : ∃ p, endB l j = p := ⟨_, rfl⟩
      have HNX : Hid (endB l (j + 1) = t.b) := Lib.hid (by rw [← ht]; rfl)
      have HG : Hid (okG l j = (decide (p < t.a) && decide (t.a ≤ t.b) && decide (t.b ≤ 1114111) && isW t.c)) := Lib.hid (by rw [← ht, ← hp]; rfl)
      have HNO : Hid (okG l j = false → res = false) := Lib.hid fun hv => by rw [← HRES.out]; exact all_no hjl hv
      have HALL : Hid (okG l j = true → ∀ i, i < j + 1 → okG l i = true) := Lib.hid fun hv i hi => by
        by_cases h2 : i < j
        · exact hall.out i h2
        · obtain rfl : i = j := by omega
          exact hv
      rw [ht] at p0 p1 p2
      rw [hp]
      obtain ⟨x, y, z⟩ := t
      dsimp only at p0 p1 p2 HNX HG
      have HW := Lib.hid (fun W => fwidth_any W z)
      obtain ⟨q, hq⟩ : ∃ q, isW z = q := ⟨_, rfl⟩
      simp only [hq] at HW
      rw [hq] at HG
      have HB := Lib.hid hb
      clear hb hall ht hp hq
      by_cases h1 : p < x
      · have d1 : decide (x ≤ p) = false := by simp; omega
        by_cases h2 : x ≤ y
        · have d2 : decide (y < x) = false := by simp; omega
          by_cases h3 : y ≤ 1114111
          · have d3 : decide (1114111 < y) = false := by simp; omega
            have hg : okG l j = q := by rw [HG.out]; simp [h1, h2, h3]
            rw [hg] at HNO HALL
            clear hg HG h1 h2 h3
            go_wp2_with fail
            refine (HW.out _).mono ?_
            rintro e w4 ⟨rfl, rfl⟩
            have HF : Hid (Below w.heap.size w ((wr.alloc (.cells #[.int .i64 x, .int .i64 y, .int .i64 z] 47)))) := Lib.hid (HB.out.alloc hbs _)
            cases q with
            | false =>
              obtain rfl := HNO.out rfl
              go_wp2
              go_ret
              exact ⟨rfl, HF.out⟩
            | true =>
              have HA := Lib.hid (HALL.out rfl)
              clear HALL HNO
              go_wp2_with fail
              refine ⟨⟨j + 1, by rw [HNX.out], by go_num, by omega, HF.out, HA⟩, ?_⟩
              simp [intOf]; omega
          · have d3 : decide (1114111 < y) = true := by simp; omega
            obtain rfl := HNO.out (by rw [HG.out]; simp [h3])
            clear h1 h2 h3 HG HNO HALL
            go_wp2
            go_ret
            exact ⟨rfl, HB.out.alloc hbs _⟩
        · have d2 : decide (y < x) = true := by simp; omega
          obtain rfl := HNO.out (by rw [HG.out]; simp [h2])
          clear h1 h2 HG HNO HALL
          go_wp2
          go_ret
          exact ⟨rfl, HB.out.alloc hbs _⟩
      · have d1 : decide (x ≤ p) = true := by simp; omega
        obtain rfl := HNO.out (by rw [HG.out]; simp [h1])
        clear h1 HG HNO HALL
        go_wp2
        go_ret
        exact ⟨rfl, HB.out.alloc hbs _⟩
    · obtain rfl : j = N := by omega
      have d : decide ((j : Int) < (j : Int)) = false := by simp
      obtain rfl : true = res := by rw [← HRES.out]; exact (all_upto.2 fun i hi => hall.out i (by rw [HN.out] at hi; exact hi)).symm
      have HB := Lib.hid hb
      clear hb hall HRES
      go_wp2
      go_ret
      exact ⟨rfl, HB.out⟩

def c64_0 : Oper := { dst := some 12, op := Go.Op.load 49 (Go.Operand.tmp 4), type := 49, pos := "right.go:27", after := #[], guard := none }
def c64_1 : Oper := { dst := some 13, op := Go.Op.call { callee := Go.Callee.value (Go.Operand.func 78), args := #[Go.Operand.tmp 12], argTypes := #[49] }, type := 4, pos := "right.go:27", after := #[{ on := 0, ground := Go.Ground.data }], guard := none }
def c64_2 : Oper := { dst := some 14, op := Go.Op.unOp Go.UnOp.not 4 (Go.Operand.tmp 13), type := 4, pos := "right.go:27", after := #[{ on := 1, ground := Go.Ground.data }], guard := none }
def c64_3 : Oper := { dst := some 15, op := Go.Op.move (Go.Operand.tmp 14), type := 4, pos := "right.go:27", after := #[{ on := 2, ground := Go.Ground.data }, { on := 1, ground := Go.Ground.chain }], guard := none }
def c64_4 : Oper := { dst := some 16, op := Go.Op.move (Go.Operand.tmp 3), type := 3, pos := "right.go:27", after := #[{ on := 3, ground := Go.Ground.guard }], guard := some (3, false) }
def c64_5 : Oper := { dst := some 17, op := Go.Op.binOp Go.BinOp.gtr 3 (Go.Operand.tmp 16) (Go.Operand.const (Go.Value.int Go.IntKind.i64 0)) 3, type := 4, pos := "right.go:27", after := #[{ on := 4, ground := Go.Ground.data }, { on := 3, ground := Go.Ground.guard }], guard := some (3, false) }
def c64_6 : Oper := { dst := some 18, op := Go.Op.move (Go.Operand.tmp 17), type := 4, pos := "right.go:27", after := #[{ on := 5, ground := Go.Ground.data }, { on := 3, ground := Go.Ground.chain }, { on := 3, ground := Go.Ground.guard }], guard := some (3, false) }
def c64_7 : Oper := { dst := some 19, op := Go.Op.move (Go.Operand.tmp 0), type := 34, pos := "right.go:27", after := #[{ on := 6, ground := Go.Ground.guard }], guard := some (6, true) }
def c64_8 : Oper := { dst := some 20, op := Go.Op.move (Go.Operand.tmp 3), type := 3, pos := "right.go:27", after := #[{ on := 6, ground := Go.Ground.guard }], guard := some (6, true) }
def c64_9 : Oper := { dst := some 21, op := Go.Op.binOp Go.BinOp.sub 3 (Go.Operand.tmp 20) (Go.Operand.const (Go.Value.int Go.IntKind.i64 1)) 3, type := 3, pos := "right.go:27", after := #[{ on := 8, ground := Go.Ground.data }, { on := 6, ground := Go.Ground.guard }], guard := some (6, true) }
def c64_10 : Oper := { dst := some 22, op := Go.Op.indexAddr 34 (Go.Operand.tmp 19) (Go.Operand.tmp 21), type := 0, pos := "right.go:27", after := #[{ on := 7, ground := Go.Ground.data }, { on := 9, ground := Go.Ground.data }, { on := 6, ground := Go.Ground.guard }], guard := some (6, true) }
def c64_11 : Oper := { dst := some 23, op := Go.Op.load 49 (Go.Operand.tmp 22), type := 49, pos := "right.go:27", after := #[{ on := 10, ground := Go.Ground.data }, { on := 6, ground := Go.Ground.guard }], guard := some (6, true) }
def c64_12 : Oper := { dst := some 24, op := Go.Op.load 49 (Go.Operand.tmp 4), type := 49, pos := "right.go:27", after := #[{ on := 6, ground := Go.Ground.guard }], guard := some (6, true) }
def c64_13 : Oper := { dst := some 25, op := Go.Op.call { callee := Go.Callee.value (Go.Operand.func 79), args := #[Go.Operand.tmp 23, Go.Operand.tmp 24], argTypes := #[49, 49] }, type := 4, pos := "right.go:27", after := #[{ on := 11, ground := Go.Ground.data }, { on := 12, ground := Go.Ground.data }, { on := 6, ground := Go.Ground.chain }, { on := 6, ground := Go.Ground.guard }], guard := some (6, true) }
def c64_14 : Oper := { dst := some 26, op := Go.Op.unOp Go.UnOp.not 4 (Go.Operand.tmp 25), type := 4, pos := "right.go:27", after := #[{ on := 13, ground := Go.Ground.data }, { on := 6, ground := Go.Ground.guard }], guard := some (6, true) }
def c64_15 : Oper := { dst := some 27, op := Go.Op.pick (Go.Operand.tmp 18) (Go.Operand.tmp 26) (Go.Operand.const (Go.Value.bool false)), type := 4, pos := "right.go:27", after := #[{ on := 6, ground := Go.Ground.data }, { on := 14, ground := Go.Ground.data }, { on := 3, ground := Go.Ground.guard }], guard := some (3, false) }
def c64_16 : Oper := { dst := some 28, op := Go.Op.pick (Go.Operand.tmp 15) (Go.Operand.const (Go.Value.bool true)) (Go.Operand.tmp 27), type := 4, pos := "right.go:27", after := #[{ on := 3, ground := Go.Ground.data }, { on := 15, ground := Go.Ground.data }], guard := none }
set_option maxRecDepth 100000 in
set_option maxHeartbeats 4000000 in
theorem kerns_any (w : World) (v : Value) (l : List Tri) (h : TAt w w.heap.size v l) : Calls Tryd.prog 64 #[v] w fun e w' => e = .returned (.bool (okKs l)) ∧ Below w.heap.size w w' := by
  have H := Lib.hid h
  obtain ⟨a, cap, rfl, hc, hm, _⟩ := h
  unfold maxLen at hm
  obtain ⟨N, hN⟩ : ∃ N, l.length = N := ⟨_, rfl⟩
  have HN := Lib.hid hN
  obtain ⟨res, hres⟩ : ∃ r, okKs l = r := ⟨_, rfl⟩
  have HRES := Lib.hid hres
  rw [hres]
  rw [hN] at H hc ⊢
  clear hN hres
  go_enter Tryd.func64, Tryd.ntmps64
  go_wp2
  go_loopw [7] (fun s7 wr => ∃ j : Nat, s7 = .int .i64 j ∧ j ≤ N ∧ Below w.heap.size w wr ∧ Hid (∀ i, i < j → okK l i = true)) (fun s7 _ => N - (intOf s7).toNat)
  case atStart => exact ⟨0, rfl, by omega, Below.refl _ _, Lib.hid fun i h => by omega⟩
  case round =>
    obtain ⟨j, rfl, hj, hb, hall⟩ := hrel
    have hbs := hb.size
    by_cases hlt : j < N
    · have d : decide ((j : Int) < (N : Int)) = true := by simp; omega
      have hjl : j < l.length := by rw [HN.out]; exact hlt
      have HNO : Hid (okK l j = false → res = false) := Lib.hid fun hv => by rw [← HRES.out]; exact all_no hjl hv
      have HALL : Hid (okK l j = true → ∀ i, i < j + 1 → okK l i = true) := Lib.hid fun hv i hi => by
        by_cases h2 : i < j
        · exact hall.out i h2
        · obtain rfl : i = j := by omega
          exact hv
      obtain ⟨b, off, rfl, hbl, _, p0, p1, p2⟩ := (H.out.below hb).got j hjl
      obtain ⟨t, ht⟩ : ∃ t, l.getD j tri0 = t := ⟨_, rfl⟩
      rw [ht] at p0 p1 p2
      have HT := Lib.hid ht
      have HB := Lib.hid hb
      by_cases hj0 : j = 0
      · have dj : decide (0 < (j : Int)) = false := by simp; omega
        have dj2 : decide (0 < j) = false := by simp; omega
        obtain ⟨q, hq⟩ : ∃ q, okK1 t = q := ⟨_, rfl⟩
        have HG : Hid (okK l j = q) := Lib.hid (by unfold okK; rw [ht, hq, hj0]; simp)
        rw [HG.out] at HNO HALL
        obtain ⟨x, y, z⟩ := t
        have HW := Lib.hid (fun W => rightKern_any W x y z)
        simp only [hq] at HW
        dsimp only at p0 p1 p2
        clear hb hall ht hq HG hj0
        cases q with
        | false =>
          obtain rfl := HNO.out rfl
          clear HALL HNO
          go_wp2_with fail
          have hA1 := Arr.new wr #[.int .i64 x, .int .i64 y, .int .i64 z] 49
          have hB1 : Below w.heap.size w (wr.alloc (.cells #[.int .i64 x, .int .i64 y, .int .i64 z] 49)) := HB.out.alloc hbs _
          have hl1 : wr.heap.size < (wr.alloc (.cells #[.int .i64 x, .int .i64 y, .int .i64 z] 49)).heap.size := by simp
          obtain ⟨W1, hW1⟩ : ∃ W1, wr.alloc (.cells #[.int .i64 x, .int .i64 y, .int .i64 z] 49) = W1 := ⟨_, rfl⟩
          rw [hW1] at hA1 hB1 hl1 ⊢
          clear hW1
          obtain ⟨g, hg⟩ : ∃ g, wr.heap.size = g := ⟨_, rfl⟩
          rw [hg] at hA1 hl1 ⊢
          have HLT := Lib.hid hl1
          have a0 := hA1.cell (i := 0) rfl
          have a1 := hA1.cell (i := 1) rfl
          have a2 := hA1.cell (i := 2) rfl
          have HB1 := Lib.hid hB1
          clear hB1 hA1 hl1 hg
          refine wp_region_ends (fun W => Kept W1 W) (by kernel_rfl) (Kept.drew (Kept.refl W1)) (fun KR hKR hHeld => ?_)
          refine wpAnyH_take (i := 0) (oi := c64_0) (v := ?_) rfl (by kernel_rfl) (by kernel_rfl) (by kernel_rfl) (fun _ _ _ h => h) (Or.inl ⟨by rfl, ?_⟩) hHeld ?_
          rotate_left
          · (intro w hSw; (try dsimp only at hSw); have q0 := (hSw.cell HLT.out).trans a0; have q1 := (hSw.cell HLT.out).trans a1; have q2 := (hSw.cell HLT.out).trans a2; unfold c64_0; go_simp <;> with_reducible rfl)
          try simp only [c64_0, Act.put, List.setIfInBounds_toArray, List.set_cons_zero, List.set_cons_succ]
          refine wpAnyH_ready (rs := [1]) (by kernel_rfl) (by simp) ?_
          refine AllReadyH.cons (o := c64_1) rfl (fun K hK => ?_) AllReadyH.nil
          rw [if_pos (by rfl)]
          unfold c64_1
          go_simp
          (with_reducible refine (HW.out _).mono ?_)
          rintro e w4 ⟨rfl, hb4⟩
          have hS := hHeld.next hb4
          go_wp2_with fail
          refine hK.out _ _ hS (fun hHeld => ?_)
          clear hK K
          try simp only [c64_1, Act.put, List.setIfInBounds_toArray, List.set_cons_zero, List.set_cons_succ]
          refine wpAnyH_take (i := 2) (oi := c64_2) (v := ?_) rfl (by kernel_rfl) (by kernel_rfl) (by kernel_rfl) (fun _ _ _ h => h) (Or.inl ⟨by rfl, ?_⟩) hHeld ?_
          rotate_left
          · (intro w hSw; (try dsimp only at hSw); unfold c64_2; go_simp <;> with_reducible rfl)
          try simp only [c64_2, Act.put, List.setIfInBounds_toArray, List.set_cons_zero, List.set_cons_succ]
          refine wpAnyH_take (i := 3) (oi := c64_3) (v := ?_) rfl (by kernel_rfl) (by kernel_rfl) (by kernel_rfl) (fun _ _ _ h => h) (Or.inl ⟨by rfl, ?_⟩) hHeld ?_
          rotate_left
          · (intro w hSw; (try dsimp only at hSw); unfold c64_3; go_simp <;> with_reducible rfl)
          try simp only [c64_3, Act.put, List.setIfInBounds_toArray, List.set_cons_zero, List.set_cons_succ]
          refine wpAnyH_take (i := 4) (oi := c64_4) (v := undef) rfl (by kernel_rfl) (by kernel_rfl) (by kernel_rfl) (fun _ _ _ h => h) (Or.inr ⟨by rfl, rfl⟩) hHeld ?_
          try simp only [c64_4, Act.put, List.setIfInBounds_toArray, List.set_cons_zero, List.set_cons_succ]
          refine wpAnyH_take (i := 5) (oi := c64_5) (v := undef) rfl (by kernel_rfl) (by kernel_rfl) (by kernel_rfl) (fun _ _ _ h => h) (Or.inr ⟨by rfl, rfl⟩) hHeld ?_
          try simp only [c64_5, Act.put, List.setIfInBounds_toArray, List.set_cons_zero, List.set_cons_succ]
          refine wpAnyH_take (i := 6) (oi := c64_6) (v := undef) rfl (by kernel_rfl) (by kernel_rfl) (by kernel_rfl) (fun _ _ _ h => h) (Or.inr ⟨by rfl, rfl⟩) hHeld ?_
          try simp only [c64_6, Act.put, List.setIfInBounds_toArray, List.set_cons_zero, List.set_cons_succ]
          refine wpAnyH_take (i := 7) (oi := c64_7) (v := undef) rfl (by kernel_rfl) (by kernel_rfl) (by kernel_rfl) (fun _ _ _ h => h) (Or.inr ⟨by rfl, rfl⟩) hHeld ?_
          try simp only [c64_7, Act.put, List.setIfInBounds_toArray, List.set_cons_zero, List.set_cons_succ]
          refine wpAnyH_take (i := 8) (oi := c64_8) (v := undef) rfl (by kernel_rfl) (by kernel_rfl) (by kernel_rfl) (fun _ _ _ h => h) (Or.inr ⟨by rfl, rfl⟩) hHeld ?_
          try simp only [c64_8, Act.put, List.setIfInBounds_toArray, List.set_cons_zero, List.set_cons_succ]
          refine wpAnyH_take (i := 9) (oi := c64_9) (v := undef) rfl (by kernel_rfl) (by kernel_rfl) (by kernel_rfl) (fun _ _ _ h => h) (Or.inr ⟨by rfl, rfl⟩) hHeld ?_
          try simp only [c64_9, Act.put, List.setIfInBounds_toArray, List.set_cons_zero, List.set_cons_succ]
          refine wpAnyH_take (i := 10) (oi := c64_10) (v := undef) rfl (by kernel_rfl) (by kernel_rfl) (by kernel_rfl) (fun _ _ _ h => h) (Or.inr ⟨by rfl, rfl⟩) hHeld ?_
          try simp only [c64_10, Act.put, List.setIfInBounds_toArray, List.set_cons_zero, List.set_cons_succ]
          refine wpAnyH_take (i := 11) (oi := c64_11) (v := undef) rfl (by kernel_rfl) (by kernel_rfl) (by kernel_rfl) (fun _ _ _ h => h) (Or.inr ⟨by rfl, rfl⟩) hHeld ?_
          try simp only [c64_11, Act.put, List.setIfInBounds_toArray, List.set_cons_zero, List.set_cons_succ]
          refine wpAnyH_take (i := 12) (oi := c64_12) (v := undef) rfl (by kernel_rfl) (by kernel_rfl) (by kernel_rfl) (fun _ _ _ h => h) (Or.inr ⟨by rfl, rfl⟩) hHeld ?_
          try simp only [c64_12, Act.put, List.setIfInBounds_toArray, List.set_cons_zero, List.set_cons_succ]
          refine wpAnyH_take (i := 13) (oi := c64_13) (v := undef) rfl (by kernel_rfl) (by kernel_rfl) (by kernel_rfl) (fun _ _ _ h => h) (Or.inr ⟨by rfl, rfl⟩) hHeld ?_
          try simp only [c64_13, Act.put, List.setIfInBounds_toArray, List.set_cons_zero, List.set_cons_succ]
          refine wpAnyH_take (i := 14) (oi := c64_14) (v := undef) rfl (by kernel_rfl) (by kernel_rfl) (by kernel_rfl) (fun _ _ _ h => h) (Or.inr ⟨by rfl, rfl⟩) hHeld ?_
          try simp only [c64_14, Act.put, List.setIfInBounds_toArray, List.set_cons_zero, List.set_cons_succ]
          refine wpAnyH_take (i := 15) (oi := c64_15) (v := undef) rfl (by kernel_rfl) (by kernel_rfl) (by kernel_rfl) (fun _ _ _ h => h) (Or.inr ⟨by rfl, rfl⟩) hHeld ?_
          try simp only [c64_15, Act.put, List.setIfInBounds_toArray, List.set_cons_zero, List.set_cons_succ]
          refine wpAnyH_take (i := 16) (oi := c64_16) (v := ?_) rfl (by kernel_rfl) (by kernel_rfl) (by kernel_rfl) (fun _ _ _ h => h) (Or.inl ⟨by rfl, ?_⟩) hHeld ?_
          rotate_left
          · (intro w hSw; (try dsimp only at hSw); unfold c64_16; go_simp <;> with_reducible rfl)
          try simp only [c64_16, Act.put, List.setIfInBounds_toArray, List.set_cons_zero, List.set_cons_succ]
          refine wpAnyH_done (by kernel_rfl) ?_ _
          refine hKR _ _ ?_
          have HF := Lib.hid (HB1.out.trans (hHeld.below.mono HB1.out.size))
          clear hHeld
          go_wp2
          go_ret
          exact ⟨rfl, HF.out⟩
        | true =>
          have HA := Lib.hid (HALL.out rfl)
          clear HALL HNO
          go_wp2_with fail
          have hA1 := Arr.new wr #[.int .i64 x, .int .i64 y, .int .i64 z] 49
          have hB1 : Below w.heap.size w (wr.alloc (.cells #[.int .i64 x, .int .i64 y, .int .i64 z] 49)) := HB.out.alloc hbs _
          have hl1 : wr.heap.size < (wr.alloc (.cells #[.int .i64 x, .int .i64 y, .int .i64 z] 49)).heap.size := by simp
          obtain ⟨W1, hW1⟩ : ∃ W1, wr.alloc (.cells #[.int .i64 x, .int .i64 y, .int .i64 z] 49) = W1 := ⟨_, rfl⟩
          rw [hW1] at hA1 hB1 hl1 ⊢
          clear hW1
          obtain ⟨g, hg⟩ : ∃ g, wr.heap.size = g := ⟨_, rfl⟩
          rw [hg] at hA1 hl1 ⊢
          have HLT := Lib.hid hl1
          have a0 := hA1.cell (i := 0) rfl
          have a1 := hA1.cell (i := 1) rfl
          have a2 := hA1.cell (i := 2) rfl
          have HB1 := Lib.hid hB1
          clear hB1 hA1 hl1 hg
          refine wp_region_ends (fun W => Kept W1 W) (by kernel_rfl) (Kept.drew (Kept.refl W1)) (fun KR hKR hHeld => ?_)
          refine wpAnyH_take (i := 0) (oi := c64_0) (v := ?_) rfl (by kernel_rfl) (by kernel_rfl) (by kernel_rfl) (fun _ _ _ h => h) (Or.inl ⟨by rfl, ?_⟩) hHeld ?_
          rotate_left
          · (intro w hSw; (try dsimp only at hSw); have q0 := (hSw.cell HLT.out).trans a0; have q1 := (hSw.cell HLT.out).trans a1; have q2 := (hSw.cell HLT.out).trans a2; unfold c64_0; go_simp <;> with_reducible rfl)
          try simp only [c64_0, Act.put, List.setIfInBounds_toArray, List.set_cons_zero, List.set_cons_succ]
          refine wpAnyH_ready (rs := [1]) (by kernel_rfl) (by simp) ?_
          refine AllReadyH.cons (o := c64_1) rfl (fun K hK => ?_) AllReadyH.nil
          rw [if_pos (by rfl)]
          unfold c64_1
          go_simp
          (with_reducible refine (HW.out _).mono ?_)
          rintro e w4 ⟨rfl, hb4⟩
          have hS := hHeld.next hb4
          go_wp2_with fail
          refine hK.out _ _ hS (fun hHeld => ?_)
          clear hK K
          try simp only [c64_1, Act.put, List.setIfInBounds_toArray, List.set_cons_zero, List.set_cons_succ]
          refine wpAnyH_take (i := 2) (oi := c64_2) (v := ?_) rfl (by kernel_rfl) (by kernel_rfl) (by kernel_rfl) (fun _ _ _ h => h) (Or.inl ⟨by rfl, ?_⟩) hHeld ?_
          rotate_left
          · (intro w hSw; (try dsimp only at hSw); unfold c64_2; go_simp <;> with_reducible rfl)
          try simp only [c64_2, Act.put, List.setIfInBounds_toArray, List.set_cons_zero, List.set_cons_succ]
          refine wpAnyH_take (i := 3) (oi := c64_3) (v := ?_) rfl (by kernel_rfl) (by kernel_rfl) (by kernel_rfl) (fun _ _ _ h => h) (Or.inl ⟨by rfl, ?_⟩) hHeld ?_
          rotate_left
          · (intro w hSw; (try dsimp only at hSw); unfold c64_3; go_simp <;> with_reducible rfl)
          try simp only [c64_3, Act.put, List.setIfInBounds_toArray, List.set_cons_zero, List.set_cons_succ]
          refine wpAnyH_take (i := 4) (oi := c64_4) (v := ?_) rfl (by kernel_rfl) (by kernel_rfl) (by kernel_rfl) (fun _ _ _ h => h) (Or.inl ⟨by rfl, ?_⟩) hHeld ?_
          rotate_left
          · (intro w hSw; (try dsimp only at hSw); unfold c64_4; go_simp <;> with_reducible rfl)
          try simp only [c64_4, Act.put, List.setIfInBounds_toArray, List.set_cons_zero, List.set_cons_succ]
          refine wpAnyH_take (i := 5) (oi := c64_5) (v := ?_) rfl (by kernel_rfl) (by kernel_rfl) (by kernel_rfl) (fun _ _ _ h => h) (Or.inl ⟨by rfl, ?_⟩) hHeld ?_
          rotate_left
          · (intro w hSw; (try dsimp only at hSw); unfold c64_5; go_simp <;> with_reducible rfl)
          try simp only [c64_5, Act.put, List.setIfInBounds_toArray, List.set_cons_zero, List.set_cons_succ]
          refine wpAnyH_take (i := 6) (oi := c64_6) (v := ?_) rfl (by kernel_rfl) (by kernel_rfl) (by kernel_rfl) (fun _ _ _ h => h) (Or.inl ⟨by rfl, ?_⟩) hHeld ?_
          rotate_left
          · (intro w hSw; (try dsimp only at hSw); unfold c64_6; go_simp <;> with_reducible rfl)
          try simp only [c64_6, Act.put, List.setIfInBounds_toArray, List.set_cons_zero, List.set_cons_succ]
          refine wpAnyH_take (i := 7) (oi := c64_7) (v := undef) rfl (by kernel_rfl) (by kernel_rfl) (by kernel_rfl) (fun _ _ _ h => h) (Or.inr ⟨by rfl, rfl⟩) hHeld ?_
          try simp only [c64_7, Act.put, List.setIfInBounds_toArray, List.set_cons_zero, List.set_cons_succ]
          refine wpAnyH_take (i := 8) (oi := c64_8) (v := undef) rfl (by kernel_rfl) (by kernel_rfl) (by kernel_rfl) (fun _ _ _ h => h) (Or.inr ⟨by rfl, rfl⟩) hHeld ?_
          try simp only [c64_8, Act.put, List.setIfInBounds_toArray, List.set_cons_zero, List.set_cons_succ]
          refine wpAnyH_take (i := 9) (oi := c64_9) (v := undef) rfl (by kernel_rfl) (by kernel_rfl) (by kernel_rfl) (fun _ _ _ h => h) (Or.inr ⟨by rfl, rfl⟩) hHeld ?_
          try simp only [c64_9, Act.put, List.setIfInBounds_toArray, List.set_cons_zero, List.set_cons_succ]
          refine wpAnyH_take (i := 10) (oi := c64_10) (v := undef) rfl (by kernel_rfl) (by kernel_rfl) (by kernel_rfl) (fun _ _ _ h => h) (Or.inr ⟨by rfl, rfl⟩) hHeld ?_
          try simp only [c64_10, Act.put, List.setIfInBounds_toArray, List.set_cons_zero, List.set_cons_succ]
          refine wpAnyH_take (i := 11) (oi := c64_11) (v := undef) rfl (by kernel_rfl) (by kernel_rfl) (by kernel_rfl) (fun _ _ _ h => h) (Or.inr ⟨by rfl, rfl⟩) hHeld ?_
          try simp only [c64_11, Act.put, List.setIfInBounds_toArray, List.set_cons_zero, List.set_cons_succ]
          refine wpAnyH_take (i := 12) (oi := c64_12) (v := undef) rfl (by kernel_rfl) (by kernel_rfl) (by kernel_rfl) (fun _ _ _ h => h) (Or.inr ⟨by rfl, rfl⟩) hHeld ?_
          try simp only [c64_12, Act.put, List.setIfInBounds_toArray, List.set_cons_zero, List.set_cons_succ]
          refine wpAnyH_take (i := 13) (oi := c64_13) (v := undef) rfl (by kernel_rfl) (by kernel_rfl) (by kernel_rfl) (fun _ _ _ h => h) (Or.inr ⟨by rfl, rfl⟩) hHeld ?_
          try simp only [c64_13, Act.put, List.setIfInBounds_toArray, List.set_cons_zero, List.set_cons_succ]
          refine wpAnyH_take (i := 14) (oi := c64_14) (v := undef) rfl (by kernel_rfl) (by kernel_rfl) (by kernel_rfl) (fun _ _ _ h => h) (Or.inr ⟨by rfl, rfl⟩) hHeld ?_
          try simp only [c64_14, Act.put, List.setIfInBounds_toArray, List.set_cons_zero, List.set_cons_succ]
          refine wpAnyH_take (i := 15) (oi := c64_15) (v := ?_) rfl (by kernel_rfl) (by kernel_rfl) (by kernel_rfl) (fun _ _ _ h => h) (Or.inl ⟨by rfl, ?_⟩) hHeld ?_
          rotate_left
          · (intro w hSw; (try dsimp only at hSw); unfold c64_15; go_simp <;> with_reducible rfl)
          try simp only [c64_15, Act.put, List.setIfInBounds_toArray, List.set_cons_zero, List.set_cons_succ]
          refine wpAnyH_take (i := 16) (oi := c64_16) (v := ?_) rfl (by kernel_rfl) (by kernel_rfl) (by kernel_rfl) (fun _ _ _ h => h) (Or.inl ⟨by rfl, ?_⟩) hHeld ?_
          rotate_left
          · (intro w hSw; (try dsimp only at hSw); unfold c64_16; go_simp <;> with_reducible rfl)
          try simp only [c64_16, Act.put, List.setIfInBounds_toArray, List.set_cons_zero, List.set_cons_succ]
          refine wpAnyH_done (by kernel_rfl) ?_ _
          refine hKR _ _ ?_
          have HF := Lib.hid (HB1.out.trans (hHeld.below.mono HB1.out.size))
          clear hHeld
          go_wp2
          go_roundw
          case rel => exact ⟨j + 1, by go_num, by omega, HF.out, HA⟩
          case measure => simp [intOf]; omega
      · have dj : decide (0 < (j : Int)) = true := by simp; omega
        have dj2 : decide (0 < j) = true := by simp; omega
        have HKT : Hid (okK l j = (okK1 t && ltK (l.getD (j - 1) tri0) t)) := Lib.hid (by unfold okK; rw [ht]; simp [hj0])
        obtain ⟨_, _, e0, _, _, s0, s1, s2⟩ := H.out.got (j - 1) (by omega)
        injection e0 with e0
        injection e0 with e1 e2
        subst e1; subst e2
        obtain ⟨u, hu⟩ : ∃ u, l.getD (j - 1) tri0 = u := ⟨_, rfl⟩
        rw [hu] at s0 s1 s2 HKT
        have sub1 : (j : Int) - 1 = ((j - 1 : Nat) : Int) := by omega
        have sub2 : IntKind.i64.wrap ((j - 1 : Nat) : Int) = ((j - 1 : Nat) : Int) := by rw [IntKind.wrap_i64]; omega
        have sub3 : ((j - 1 : Nat) : Int) < (N : Int) := by omega
        obtain ⟨x, y, z⟩ := t
        obtain ⟨x', y', z'⟩ := u
        have HW := Lib.hid (fun W => rightKern_any W x y z)
        have HX := Lib.hid (fun W => before_any W x' y' z' x y z)
        obtain ⟨q, hq⟩ : ∃ q, okK1 ⟨x, y, z⟩ = q := ⟨_, rfl⟩
        obtain ⟨q2, hq2⟩ : ∃ q, ltK ⟨x', y', z'⟩ ⟨x, y, z⟩ = q := ⟨_, rfl⟩
        simp only [hq] at HW HKT
        simp only [hq2] at HX HKT
        rw [HKT.out] at HNO HALL
        dsimp only at p0 p1 p2 s0 s1 s2
        clear hb hall ht hq HKT hu hq2 hj0
        cases q with
        | false =>
          obtain rfl := HNO.out rfl
          clear HALL HNO s0 s1 s2 sub1 sub2 sub3
          go_wp2_with fail
          have hA1 := Arr.new wr #[.int .i64 x, .int .i64 y, .int .i64 z] 49
          have hB1 : Below w.heap.size w (wr.alloc (.cells #[.int .i64 x, .int .i64 y, .int .i64 z] 49)) := HB.out.alloc hbs _
          have hl1 : wr.heap.size < (wr.alloc (.cells #[.int .i64 x, .int .i64 y, .int .i64 z] 49)).heap.size := by simp
          obtain ⟨W1, hW1⟩ : ∃ W1, wr.alloc (.cells #[.int .i64 x, .int .i64 y, .int .i64 z] 49) = W1 := ⟨_, rfl⟩
          rw [hW1] at hA1 hB1 hl1 ⊢
          clear hW1
          obtain ⟨g, hg⟩ : ∃ g, wr.heap.size = g := ⟨_, rfl⟩
          rw [hg] at hA1 hl1 ⊢
          have HLT := Lib.hid hl1
          have a0 := hA1.cell (i := 0) rfl
          have a1 := hA1.cell (i := 1) rfl
          have a2 := hA1.cell (i := 2) rfl
          have HB1 := Lib.hid hB1
          clear hB1 hA1 hl1 hg
          refine wp_region_ends (fun W => Kept W1 W) (by kernel_rfl) (Kept.drew (Kept.refl W1)) (fun KR hKR hHeld => ?_)
          refine wpAnyH_take (i := 0) (oi := c64_0) (v := ?_) rfl (by kernel_rfl) (by kernel_rfl) (by kernel_rfl) (fun _ _ _ h => h) (Or.inl ⟨by rfl, ?_⟩) hHeld ?_
          rotate_left
          · (intro w hSw; (try dsimp only at hSw); have q0 := (hSw.cell HLT.out).trans a0; have q1 := (hSw.cell HLT.out).trans a1; have q2 := (hSw.cell HLT.out).trans a2; unfold c64_0; go_simp <;> with_reducible rfl)
          try simp only [c64_0, Act.put, List.setIfInBounds_toArray, List.set_cons_zero, List.set_cons_succ]
          refine wpAnyH_ready (rs := [1]) (by kernel_rfl) (by simp) ?_
          refine AllReadyH.cons (o := c64_1) rfl (fun K hK => ?_) AllReadyH.nil
          rw [if_pos (by rfl)]
          unfold c64_1
          go_simp
          (with_reducible refine (HW.out _).mono ?_)
          rintro e w4 ⟨rfl, hb4⟩
          have hS := hHeld.next hb4
          go_wp2_with fail
          refine hK.out _ _ hS (fun hHeld => ?_)
          clear hK K
          try simp only [c64_1, Act.put, List.setIfInBounds_toArray, List.set_cons_zero, List.set_cons_succ]
          refine wpAnyH_take (i := 2) (oi := c64_2) (v := ?_) rfl (by kernel_rfl) (by kernel_rfl) (by kernel_rfl) (fun _ _ _ h => h) (Or.inl ⟨by rfl, ?_⟩) hHeld ?_
          rotate_left
          · (intro w hSw; (try dsimp only at hSw); unfold c64_2; go_simp <;> with_reducible rfl)
          try simp only [c64_2, Act.put, List.setIfInBounds_toArray, List.set_cons_zero, List.set_cons_succ]
          refine wpAnyH_take (i := 3) (oi := c64_3) (v := ?_) rfl (by kernel_rfl) (by kernel_rfl) (by kernel_rfl) (fun _ _ _ h => h) (Or.inl ⟨by rfl, ?_⟩) hHeld ?_
          rotate_left
          · (intro w hSw; (try dsimp only at hSw); unfold c64_3; go_simp <;> with_reducible rfl)
          try simp only [c64_3, Act.put, List.setIfInBounds_toArray, List.set_cons_zero, List.set_cons_succ]
          refine wpAnyH_take (i := 4) (oi := c64_4) (v := undef) rfl (by kernel_rfl) (by kernel_rfl) (by kernel_rfl) (fun _ _ _ h => h) (Or.inr ⟨by rfl, rfl⟩) hHeld ?_
          try simp only [c64_4, Act.put, List.setIfInBounds_toArray, List.set_cons_zero, List.set_cons_succ]
          refine wpAnyH_take (i := 5) (oi := c64_5) (v := undef) rfl (by kernel_rfl) (by kernel_rfl) (by kernel_rfl) (fun _ _ _ h => h) (Or.inr ⟨by rfl, rfl⟩) hHeld ?_
          try simp only [c64_5, Act.put, List.setIfInBounds_toArray, List.set_cons_zero, List.set_cons_succ]
          refine wpAnyH_take (i := 6) (oi := c64_6) (v := undef) rfl (by kernel_rfl) (by kernel_rfl) (by kernel_rfl) (fun _ _ _ h => h) (Or.inr ⟨by rfl, rfl⟩) hHeld ?_
          try simp only [c64_6, Act.put, List.setIfInBounds_toArray, List.set_cons_zero, List.set_cons_succ]
          refine wpAnyH_take (i := 7) (oi := c64_7) (v := undef) rfl (by kernel_rfl) (by kernel_rfl) (by kernel_rfl) (fun _ _ _ h => h) (Or.inr ⟨by rfl, rfl⟩) hHeld ?_
          try simp only [c64_7, Act.put, List.setIfInBounds_toArray, List.set_cons_zero, List.set_cons_succ]
          refine wpAnyH_take (i := 8) (oi := c64_8) (v := undef) rfl (by kernel_rfl) (by kernel_rfl) (by kernel_rfl) (fun _ _ _ h => h) (Or.inr ⟨by rfl, rfl⟩) hHeld ?_
          try simp only [c64_8, Act.put, List.setIfInBounds_toArray, List.set_cons_zero, List.set_cons_succ]
          refine wpAnyH_take (i := 9) (oi := c64_9) (v := undef) rfl (by kernel_rfl) (by kernel_rfl) (by kernel_rfl) (fun _ _ _ h => h) (Or.inr ⟨by rfl, rfl⟩) hHeld ?_
          try simp only [c64_9, Act.put, List.setIfInBounds_toArray, List.set_cons_zero, List.set_cons_succ]
          refine wpAnyH_take (i := 10) (oi := c64_10) (v := undef) rfl (by kernel_rfl) (by kernel_rfl) (by kernel_rfl) (fun _ _ _ h => h) (Or.inr ⟨by rfl, rfl⟩) hHeld ?_
          try simp only [c64_10, Act.put, List.setIfInBounds_toArray, List.set_cons_zero, List.set_cons_succ]
          refine wpAnyH_take (i := 11) (oi := c64_11) (v := undef) rfl (by kernel_rfl) (by kernel_rfl) (by kernel_rfl) (fun _ _ _ h => h) (Or.inr ⟨by rfl, rfl⟩) hHeld ?_
          try simp only [c64_11, Act.put, List.setIfInBounds_toArray, List.set_cons_zero, List.set_cons_succ]
          refine wpAnyH_take (i := 12) (oi := c64_12) (v := undef) rfl (by kernel_rfl) (by kernel_rfl) (by kernel_rfl) (fun _ _ _ h => h) (Or.inr ⟨by rfl, rfl⟩) hHeld ?_
          try simp only [c64_12, Act.put, List.setIfInBounds_toArray, List.set_cons_zero, List.set_cons_succ]
          refine wpAnyH_take (i := 13) (oi := c64_13) (v := undef) rfl (by kernel_rfl) (by kernel_rfl) (by kernel_rfl) (fun _ _ _ h => h) (Or.inr ⟨by rfl, rfl⟩) hHeld ?_
          try simp only [c64_13, Act.put, List.setIfInBounds_toArray, List.set_cons_zero, List.set_cons_succ]
          refine wpAnyH_take (i := 14) (oi := c64_14) (v := undef) rfl (by kernel_rfl) (by kernel_rfl) (by kernel_rfl) (fun _ _ _ h => h) (Or.inr ⟨by rfl, rfl⟩) hHeld ?_
          try simp only [c64_14, Act.put, List.setIfInBounds_toArray, List.set_cons_zero, List.set_cons_succ]
          refine wpAnyH_take (i := 15) (oi := c64_15) (v := undef) rfl (by kernel_rfl) (by kernel_rfl) (by kernel_rfl) (fun _ _ _ h => h) (Or.inr ⟨by rfl, rfl⟩) hHeld ?_
          try simp only [c64_15, Act.put, List.setIfInBounds_toArray, List.set_cons_zero, List.set_cons_succ]
          refine wpAnyH_take (i := 16) (oi := c64_16) (v := ?_) rfl (by kernel_rfl) (by kernel_rfl) (by kernel_rfl) (fun _ _ _ h => h) (Or.inl ⟨by rfl, ?_⟩) hHeld ?_
          rotate_left
          · (intro w hSw; (try dsimp only at hSw); unfold c64_16; go_simp <;> with_reducible rfl)
          try simp only [c64_16, Act.put, List.setIfInBounds_toArray, List.set_cons_zero, List.set_cons_succ]
          refine wpAnyH_done (by kernel_rfl) ?_ _
          refine hKR _ _ ?_
          have HF := Lib.hid (HB1.out.trans (hHeld.below.mono HB1.out.size))
          clear hHeld
          go_wp2
          go_ret
          exact ⟨rfl, HF.out⟩
        | true =>
          cases q2 with
          | false =>
            obtain rfl := HNO.out rfl
            clear HALL HNO
            go_wp2_with fail
            have hA1 := Arr.new wr #[.int .i64 x, .int .i64 y, .int .i64 z] 49
            have hB1 : Below w.heap.size w (wr.alloc (.cells #[.int .i64 x, .int .i64 y, .int .i64 z] 49)) := HB.out.alloc hbs _
            have hl1 : wr.heap.size < (wr.alloc (.cells #[.int .i64 x, .int .i64 y, .int .i64 z] 49)).heap.size := by simp
            obtain ⟨W1, hW1⟩ : ∃ W1, wr.alloc (.cells #[.int .i64 x, .int .i64 y, .int .i64 z] 49) = W1 := ⟨_, rfl⟩
            rw [hW1] at hA1 hB1 hl1 ⊢
            clear hW1
            obtain ⟨g, hg⟩ : ∃ g, wr.heap.size = g := ⟨_, rfl⟩
            rw [hg] at hA1 hl1 ⊢
            have HLT := Lib.hid hl1
            have a0 := hA1.cell (i := 0) rfl
            have a1 := hA1.cell (i := 1) rfl
            have a2 := hA1.cell (i := 2) rfl
            have HB1 := Lib.hid hB1
            clear hB1 hA1 hl1 hg
            have r0 := (HB1.out.cell (p := ⟨b, off + (j - 1) * 3, none⟩) hbl).trans s0
            have r1 := (HB1.out.cell (p := ⟨b, off + (j - 1) * 3 + 1, none⟩) hbl).trans s1
            have r2 := (HB1.out.cell (p := ⟨b, off + (j - 1) * 3 + 2, none⟩) hbl).trans s2
            have HLP : Hid (b < W1.heap.size) := Lib.hid (Nat.lt_of_lt_of_le hbl HB1.out.size)
            clear s0 s1 s2
            refine wp_region_ends (fun W => Kept W1 W) (by kernel_rfl) (Kept.drew (Kept.refl W1)) (fun KR hKR hHeld => ?_)
            refine wpAnyH_take (i := 0) (oi := c64_0) (v := ?_) rfl (by kernel_rfl) (by kernel_rfl) (by kernel_rfl) (fun _ _ _ h => h) (Or.inl ⟨by rfl, ?_⟩) hHeld ?_
            rotate_left
            · (intro w hSw; (try dsimp only at hSw); have q0 := (hSw.cell HLT.out).trans a0; have q1 := (hSw.cell HLT.out).trans a1; have q2 := (hSw.cell HLT.out).trans a2; unfold c64_0; go_simp <;> with_reducible rfl)
            try simp only [c64_0, Act.put, List.setIfInBounds_toArray, List.set_cons_zero, List.set_cons_succ]
            refine wpAnyH_ready (rs := [1]) (by kernel_rfl) (by simp) ?_
            refine AllReadyH.cons (o := c64_1) rfl (fun K hK => ?_) AllReadyH.nil
            rw [if_pos (by rfl)]
            unfold c64_1
            go_simp
            (with_reducible refine (HW.out _).mono ?_)
            rintro e w4 ⟨rfl, hb4⟩
            have hS := hHeld.next hb4
            go_wp2_with fail
            refine hK.out _ _ hS (fun hHeld => ?_)
            clear hK K
            try simp only [c64_1, Act.put, List.setIfInBounds_toArray, List.set_cons_zero, List.set_cons_succ]
            refine wpAnyH_take (i := 2) (oi := c64_2) (v := ?_) rfl (by kernel_rfl) (by kernel_rfl) (by kernel_rfl) (fun _ _ _ h => h) (Or.inl ⟨by rfl, ?_⟩) hHeld ?_
            rotate_left
            · (intro w hSw; (try dsimp only at hSw); unfold c64_2; go_simp <;> with_reducible rfl)
            try simp only [c64_2, Act.put, List.setIfInBounds_toArray, List.set_cons_zero, List.set_cons_succ]
            refine wpAnyH_take (i := 3) (oi := c64_3) (v := ?_) rfl (by kernel_rfl) (by kernel_rfl) (by kernel_rfl) (fun _ _ _ h => h) (Or.inl ⟨by rfl, ?_⟩) hHeld ?_
            rotate_left
            · (intro w hSw; (try dsimp only at hSw); unfold c64_3; go_simp <;> with_reducible rfl)
            try simp only [c64_3, Act.put, List.setIfInBounds_toArray, List.set_cons_zero, List.set_cons_succ]
            refine wpAnyH_take (i := 4) (oi := c64_4) (v := ?_) rfl (by kernel_rfl) (by kernel_rfl) (by kernel_rfl) (fun _ _ _ h => h) (Or.inl ⟨by rfl, ?_⟩) hHeld ?_
            rotate_left
            · (intro w hSw; (try dsimp only at hSw); unfold c64_4; go_simp <;> with_reducible rfl)
            try simp only [c64_4, Act.put, List.setIfInBounds_toArray, List.set_cons_zero, List.set_cons_succ]
            refine wpAnyH_take (i := 5) (oi := c64_5) (v := ?_) rfl (by kernel_rfl) (by kernel_rfl) (by kernel_rfl) (fun _ _ _ h => h) (Or.inl ⟨by rfl, ?_⟩) hHeld ?_
            rotate_left
            · (intro w hSw; (try dsimp only at hSw); unfold c64_5; go_simp <;> with_reducible rfl)
            try simp only [c64_5, Act.put, List.setIfInBounds_toArray, List.set_cons_zero, List.set_cons_succ]
            refine wpAnyH_take (i := 6) (oi := c64_6) (v := ?_) rfl (by kernel_rfl) (by kernel_rfl) (by kernel_rfl) (fun _ _ _ h => h) (Or.inl ⟨by rfl, ?_⟩) hHeld ?_
            rotate_left
            · (intro w hSw; (try dsimp only at hSw); unfold c64_6; go_simp <;> with_reducible rfl)
            try simp only [c64_6, Act.put, List.setIfInBounds_toArray, List.set_cons_zero, List.set_cons_succ]
            refine wpAnyH_take (i := 7) (oi := c64_7) (v := ?_) rfl (by kernel_rfl) (by kernel_rfl) (by kernel_rfl) (fun _ _ _ h => h) (Or.inl ⟨by rfl, ?_⟩) hHeld ?_
            rotate_left
            · (intro w hSw; (try dsimp only at hSw); unfold c64_7; go_simp <;> with_reducible rfl)
            try simp only [c64_7, Act.put, List.setIfInBounds_toArray, List.set_cons_zero, List.set_cons_succ]
            refine wpAnyH_take (i := 8) (oi := c64_8) (v := ?_) rfl (by kernel_rfl) (by kernel_rfl) (by kernel_rfl) (fun _ _ _ h => h) (Or.inl ⟨by rfl, ?_⟩) hHeld ?_
            rotate_left
            · (intro w hSw; (try dsimp only at hSw); unfold c64_8; go_simp <;> with_reducible rfl)
            try simp only [c64_8, Act.put, List.setIfInBounds_toArray, List.set_cons_zero, List.set_cons_succ]
            refine wpAnyH_take (i := 9) (oi := c64_9) (v := ?_) rfl (by kernel_rfl) (by kernel_rfl) (by kernel_rfl) (fun _ _ _ h => h) (Or.inl ⟨by rfl, ?_⟩) hHeld ?_
            rotate_left
            · (intro w hSw; (try dsimp only at hSw); unfold c64_9; go_simp <;> with_reducible rfl)
            try simp only [c64_9, Act.put, List.setIfInBounds_toArray, List.set_cons_zero, List.set_cons_succ]
            refine wpAnyH_take (i := 10) (oi := c64_10) (v := ?_) rfl (by kernel_rfl) (by kernel_rfl) (by kernel_rfl) (fun _ _ _ h => h) (Or.inl ⟨by rfl, ?_⟩) hHeld ?_
            rotate_left
            · (intro w hSw; (try dsimp only at hSw); unfold c64_10; go_simp <;> with_reducible rfl)
            try simp only [c64_10, Act.put, List.setIfInBounds_toArray, List.set_cons_zero, List.set_cons_succ]
            refine wpAnyH_take (i := 11) (oi := c64_11) (v := ?_) rfl (by kernel_rfl) (by kernel_rfl) (by kernel_rfl) (fun _ _ _ h => h) (Or.inl ⟨by rfl, ?_⟩) hHeld ?_
            rotate_left
            · (intro w hSw; (try dsimp only at hSw); have q0 := (hSw.cell HLP.out).trans r0; have q1 := (hSw.cell HLP.out).trans r1; have q2 := (hSw.cell HLP.out).trans r2; unfold c64_11; go_simp <;> with_reducible rfl)
            try simp only [c64_11, Act.put, List.setIfInBounds_toArray, List.set_cons_zero, List.set_cons_succ]
            refine wpAnyH_take (i := 12) (oi := c64_12) (v := ?_) rfl (by kernel_rfl) (by kernel_rfl) (by kernel_rfl) (fun _ _ _ h => h) (Or.inl ⟨by rfl, ?_⟩) hHeld ?_
            rotate_left
            · (intro w hSw; (try dsimp only at hSw); have q0 := (hSw.cell HLT.out).trans a0; have q1 := (hSw.cell HLT.out).trans a1; have q2 := (hSw.cell HLT.out).trans a2; unfold c64_12; go_simp <;> with_reducible rfl)
            try simp only [c64_12, Act.put, List.setIfInBounds_toArray, List.set_cons_zero, List.set_cons_succ]
            refine wpAnyH_ready (rs := [13]) (by kernel_rfl) (by simp) ?_
            refine AllReadyH.cons (o := c64_13) rfl (fun K hK => ?_) AllReadyH.nil
            rw [if_pos (by rfl)]
            unfold c64_13
            go_simp
            (with_reducible refine (HX.out _).mono ?_)
            rintro e w5 ⟨rfl, hb5⟩
            have hS := hHeld.next hb5
            go_wp2_with fail
            refine hK.out _ _ hS (fun hHeld => ?_)
            clear hK K
            try simp only [c64_13, Act.put, List.setIfInBounds_toArray, List.set_cons_zero, List.set_cons_succ]
            refine wpAnyH_take (i := 14) (oi := c64_14) (v := ?_) rfl (by kernel_rfl) (by kernel_rfl) (by kernel_rfl) (fun _ _ _ h => h) (Or.inl ⟨by rfl, ?_⟩) hHeld ?_
            rotate_left
            · (intro w hSw; (try dsimp only at hSw); unfold c64_14; go_simp <;> with_reducible rfl)
            try simp only [c64_14, Act.put, List.setIfInBounds_toArray, List.set_cons_zero, List.set_cons_succ]
            refine wpAnyH_take (i := 15) (oi := c64_15) (v := ?_) rfl (by kernel_rfl) (by kernel_rfl) (by kernel_rfl) (fun _ _ _ h => h) (Or.inl ⟨by rfl, ?_⟩) hHeld ?_
            rotate_left
            · (intro w hSw; (try dsimp only at hSw); unfold c64_15; go_simp <;> with_reducible rfl)
            try simp only [c64_15, Act.put, List.setIfInBounds_toArray, List.set_cons_zero, List.set_cons_succ]
            refine wpAnyH_take (i := 16) (oi := c64_16) (v := ?_) rfl (by kernel_rfl) (by kernel_rfl) (by kernel_rfl) (fun _ _ _ h => h) (Or.inl ⟨by rfl, ?_⟩) hHeld ?_
            rotate_left
            · (intro w hSw; (try dsimp only at hSw); unfold c64_16; go_simp <;> with_reducible rfl)
            try simp only [c64_16, Act.put, List.setIfInBounds_toArray, List.set_cons_zero, List.set_cons_succ]
            refine wpAnyH_done (by kernel_rfl) ?_ _
            refine hKR _ _ ?_
            have HF := Lib.hid (HB1.out.trans (hHeld.below.mono HB1.out.size))
            clear hHeld
            go_wp2
            go_ret
            exact ⟨rfl, HF.out⟩
          | true =>
            have HA := Lib.hid (HALL.out rfl)
            clear HALL HNO
            go_wp2_with fail
            have hA1 := Arr.new wr #[.int .i64 x, .int .i64 y, .int .i64 z] 49
            have hB1 : Below w.heap.size w (wr.alloc (.cells #[.int .i64 x, .int .i64 y, .int .i64 z] 49)) := HB.out.alloc hbs _
            have hl1 : wr.heap.size < (wr.alloc (.cells #[.int .i64 x, .int .i64 y, .int .i64 z] 49)).heap.size := by simp
            obtain ⟨W1, hW1⟩ : ∃ W1, wr.alloc (.cells #[.int .i64 x, .int .i64 y, .int .i64 z] 49) = W1 := ⟨_, rfl⟩
            rw [hW1] at hA1 hB1 hl1 ⊢
            clear hW1
            obtain ⟨g, hg⟩ : ∃ g, wr.heap.size = g := ⟨_, rfl⟩
            rw [hg] at hA1 hl1 ⊢
            have HLT := Lib.hid hl1
            have a0 := hA1.cell (i := 0) rfl
            have a1 := hA1.cell (i := 1) rfl
            have a2 := hA1.cell (i := 2) rfl
            have HB1 := Lib.hid hB1
            clear hB1 hA1 hl1 hg
            have r0 := (HB1.out.cell (p := ⟨b, off + (j - 1) * 3, none⟩) hbl).trans s0
            have r1 := (HB1.out.cell (p := ⟨b, off + (j - 1) * 3 + 1, none⟩) hbl).trans s1
            have r2 := (HB1.out.cell (p := ⟨b, off + (j - 1) * 3 + 2, none⟩) hbl).trans s2
            have HLP : Hid (b < W1.heap.size) := Lib.hid (Nat.lt_of_lt_of_le hbl HB1.out.size)
            clear s0 s1 s2
            refine wp_region_ends (fun W => Kept W1 W) (by kernel_rfl) (Kept.drew (Kept.refl W1)) (fun KR hKR hHeld => ?_)
            refine wpAnyH_take (i := 0) (oi := c64_0) (v := ?_) rfl (by kernel_rfl) (by kernel_rfl) (by kernel_rfl) (fun _ _ _ h => h) (Or.inl ⟨by rfl, ?_⟩) hHeld ?_
            rotate_left
            · (intro w hSw; (try dsimp only at hSw); have q0 := (hSw.cell HLT.out).trans a0; have q1 := (hSw.cell HLT.out).trans a1; have q2 := (hSw.cell HLT.out).trans a2; unfold c64_0; go_simp <;> with_reducible rfl)
            try simp only [c64_0, Act.put, List.setIfInBounds_toArray, List.set_cons_zero, List.set_cons_succ]
            refine wpAnyH_ready (rs := [1]) (by kernel_rfl) (by simp) ?_
            refine AllReadyH.cons (o := c64_1) rfl (fun K hK => ?_) AllReadyH.nil
            rw [if_pos (by rfl)]
            unfold c64_1
            go_simp
            (with_reducible refine (HW.out _).mono ?_)
            rintro e w4 ⟨rfl, hb4⟩
            have hS := hHeld.next hb4
            go_wp2_with fail
            refine hK.out _ _ hS (fun hHeld => ?_)
            clear hK K
            try simp only [c64_1, Act.put, List.setIfInBounds_toArray, List.set_cons_zero, List.set_cons_succ]
            refine wpAnyH_take (i := 2) (oi := c64_2) (v := ?_) rfl (by kernel_rfl) (by kernel_rfl) (by kernel_rfl) (fun _ _ _ h => h) (Or.inl ⟨by rfl, ?_⟩) hHeld ?_
            rotate_left
            · (intro w hSw; (try dsimp only at hSw); unfold c64_2; go_simp <;> with_reducible rfl)
            try simp only [c64_2, Act.put, List.setIfInBounds_toArray, List.set_cons_zero, List.set_cons_succ]
            refine wpAnyH_take (i := 3) (oi := c64_3) (v := ?_) rfl (by kernel_rfl) (by kernel_rfl) (by kernel_rfl) (fun _ _ _ h => h) (Or.inl ⟨by rfl, ?_⟩) hHeld ?_
            rotate_left
            · (intro w hSw; (try dsimp only at hSw); unfold c64_3; go_simp <;> with_reducible rfl)
            try simp only [c64_3, Act.put, List.setIfInBounds_toArray, List.set_cons_zero, List.set_cons_succ]
            refine wpAnyH_take (i := 4) (oi := c64_4) (v := ?_) rfl (by kernel_rfl) (by kernel_rfl) (by kernel_rfl) (fun _ _ _ h => h) (Or.inl ⟨by rfl, ?_⟩) hHeld ?_
            rotate_left
            · (intro w hSw; (try dsimp only at hSw); unfold c64_4; go_simp <;> with_reducible rfl)
            try simp only [c64_4, Act.put, List.setIfInBounds_toArray, List.set_cons_zero, List.set_cons_succ]
            refine wpAnyH_take (i := 5) (oi := c64_5) (v := ?_) rfl (by kernel_rfl) (by kernel_rfl) (by kernel_rfl) (fun _ _ _ h => h) (Or.inl ⟨by rfl, ?_⟩) hHeld ?_
            rotate_left
            · (intro w hSw; (try dsimp only at hSw); unfold c64_5; go_simp <;> with_reducible rfl)
            try simp only [c64_5, Act.put, List.setIfInBounds_toArray, List.set_cons_zero, List.set_cons_succ]
            refine wpAnyH_take (i := 6) (oi := c64_6) (v := ?_) rfl (by kernel_rfl) (by kernel_rfl) (by kernel_rfl) (fun _ _ _ h => h) (Or.inl ⟨by rfl, ?_⟩) hHeld ?_
            rotate_left
            · (intro w hSw; (try dsimp only at hSw); unfold c64_6; go_simp <;> with_reducible rfl)
            try simp only [c64_6, Act.put, List.setIfInBounds_toArray, List.set_cons_zero, List.set_cons_succ]
            refine wpAnyH_take (i := 7) (oi := c64_7) (v := ?_) rfl (by kernel_rfl) (by kernel_rfl) (by kernel_rfl) (fun _ _ _ h => h) (Or.inl ⟨by rfl, ?_⟩) hHeld ?_
            rotate_left
            · (intro w hSw; (try dsimp only at hSw); unfold c64_7; go_simp <;> with_reducible rfl)
            try simp only [c64_7, Act.put, List.setIfInBounds_toArray, List.set_cons_zero, List.set_cons_succ]
            refine wpAnyH_take (i := 8) (oi := c64_8) (v := ?_) rfl (by kernel_rfl) (by kernel_rfl) (by kernel_rfl) (fun _ _ _ h => h) (Or.inl ⟨by rfl, ?_⟩) hHeld ?_
            rotate_left
            · (intro w hSw; (try dsimp only at hSw); unfold c64_8; go_simp <;> with_reducible rfl)
            try simp only [c64_8, Act.put, List.setIfInBounds_toArray, List.set_cons_zero, List.set_cons_succ]
            refine wpAnyH_take (i := 9) (oi := c64_9) (v := ?_) rfl (by kernel_rfl) (by kernel_rfl) (by kernel_rfl) (fun _ _ _ h => h) (Or.inl ⟨by rfl, ?_⟩) hHeld ?_
            rotate_left
            · (intro w hSw; (try dsimp only at hSw); unfold c64_9; go_simp <;> with_reducible rfl)
            try simp only [c64_9, Act.put, List.setIfInBounds_toArray, List.set_cons_zero, List.set_cons_succ]
            refine wpAnyH_take (i := 10) (oi := c64_10) (v := ?_) rfl (by kernel_rfl) (by kernel_rfl) (by kernel_rfl) (fun _ _ _ h => h) (Or.inl ⟨by rfl, ?_⟩) hHeld ?_
            rotate_left
            · (intro w hSw; (try dsimp only at hSw); unfold c64_10; go_simp <;> with_reducible rfl)
            try simp only [c64_10, Act.put, List.setIfInBounds_toArray, List.set_cons_zero, List.set_cons_succ]
            refine wpAnyH_take (i := 11) (oi := c64_11) (v := ?_) rfl (by kernel_rfl) (by kernel_rfl) (by kernel_rfl) (fun _ _ _ h => h) (Or.inl ⟨by rfl, ?_⟩) hHeld ?_
            rotate_left
            · (intro w hSw; (try dsimp only at hSw); have q0 := (hSw.cell HLP.out).trans r0; have q1 := (hSw.cell HLP.out).trans r1; have q2 := (hSw.cell HLP.out).trans r2; unfold c64_11; go_simp <;> with_reducible rfl)
            try simp only [c64_11, Act.put, List.setIfInBounds_toArray, List.set_cons_zero, List.set_cons_succ]
            refine wpAnyH_take (i := 12) (oi := c64_12) (v := ?_) rfl (by kernel_rfl) (by kernel_rfl) (by kernel_rfl) (fun _ _ _ h => h) (Or.inl ⟨by rfl, ?_⟩) hHeld ?_
            rotate_left
            · (intro w hSw; (try dsimp only at hSw); have q0 := (hSw.cell HLT.out).trans a0; have q1 := (hSw.cell HLT.out).trans a1; have q2 := (hSw.cell HLT.out).trans a2; unfold c64_12; go_simp <;> with_reducible rfl)
            try simp only [c64_12, Act.put, List.setIfInBounds_toArray, List.set_cons_zero, List.set_cons_succ]
            refine wpAnyH_ready (rs := [13]) (by kernel_rfl) (by simp) ?_
            refine AllReadyH.cons (o := c64_13) rfl (fun K hK => ?_) AllReadyH.nil
            rw [if_pos (by rfl)]
            unfold c64_13
            go_simp
            (with_reducible refine (HX.out _).mono ?_)
            rintro e w5 ⟨rfl, hb5⟩
            have hS := hHeld.next hb5
            go_wp2_with fail
            refine hK.out _ _ hS (fun hHeld => ?_)
            clear hK K
            try simp only [c64_13, Act.put, List.setIfInBounds_toArray, List.set_cons_zero, List.set_cons_succ]
            refine wpAnyH_take (i := 14) (oi := c64_14) (v := ?_) rfl (by kernel_rfl) (by kernel_rfl) (by kernel_rfl) (fun _ _ _ h => h) (Or.inl ⟨by rfl, ?_⟩) hHeld ?_
            rotate_left
            · (intro w hSw; (try dsimp only at hSw); unfold c64_14; go_simp <;> with_reducible rfl)
            try simp only [c64_14, Act.put, List.setIfInBounds_toArray, List.set_cons_zero, List.set_cons_succ]
            refine wpAnyH_take (i := 15) (oi := c64_15) (v := ?_) rfl (by kernel_rfl) (by kernel_rfl) (by kernel_rfl) (fun _ _ _ h => h) (Or.inl ⟨by rfl, ?_⟩) hHeld ?_
            rotate_left
            · (intro w hSw; (try dsimp only at hSw); unfold c64_15; go_simp <;> with_reducible rfl)
            try simp only [c64_15, Act.put, List.setIfInBounds_toArray, List.set_cons_zero, List.set_cons_succ]
            refine wpAnyH_take (i := 16) (oi := c64_16) (v := ?_) rfl (by kernel_rfl) (by kernel_rfl) (by kernel_rfl) (fun _ _ _ h => h) (Or.inl ⟨by rfl, ?_⟩) hHeld ?_
            rotate_left
            · (intro w hSw; (try dsimp only at hSw); unfold c64_16; go_simp <;> with_reducible rfl)
            try simp only [c64_16, Act.put, List.setIfInBounds_toArray, List.set_cons_zero, List.set_cons_succ]
            refine wpAnyH_done (by kernel_rfl) ?_ _
            refine hKR _ _ ?_
            have HF := Lib.hid (HB1.out.trans (hHeld.below.mono HB1.out.size))
            clear hHeld
            go_wp2
            go_roundw
            case rel => exact ⟨j + 1, by go_num, by omega, HF.out, HA⟩
            case measure => simp [intOf]; omega
    · obtain rfl : j = N := by omega
      have d : decide ((j : Int) < (j : Int)) = false := by simp
      obtain rfl : true = res := by rw [← HRES.out]; exact (all_upto.2 fun i hi => hall.out i (by rw [HN.out] at hi; exact hi)).symm
      have HB := Lib.hid hb
      clear hb hall HRES
      go_wp2
      go_ret
      exact ⟨rfl, HB.out⟩
end Go.Proofs.YtljgcpfibamdpaaDoor
