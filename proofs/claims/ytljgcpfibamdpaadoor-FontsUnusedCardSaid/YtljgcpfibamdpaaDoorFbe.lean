/- Fonts: the iterator over the widths of the beginnings. -/
import Derived.Test.YtljgcpfibamdpaaDoorOrm
import Derived.Test.YtljgcpfibamdpaaDoorFmp
import Derived.Test.YtljgcpfibamdpaaDoorRit
import Derived.Deep.QuietTactic
import Derived.BigQuiet
namespace Go.Proofs.YtljgcpfibamdpaaDoor
open Go.RowKit
attribute [local go_sem] Oper.semAt_some

/-- What the iterator reads. -/
structure Bg (W : World) (C L : Nat) (vg vk : Value) (f : Fo) (vl : Value) (l : List Int) : Prop where
  c0 : W.cell? ⟨C, 0, none⟩ = some vg
  c1 : W.cell? ⟨C, 1, none⟩ = some (.int .i64 f.o)
  c2 : W.cell? ⟨C, 2, none⟩ = some vk
  fa : FAt W W.heap.size (.agg #[vg, .int .i64 f.o, vk]) f
  cl : W.cell? ⟨L, 0, none⟩ = some vl
  il : IRow W W.heap.size vl l
theorem Bg.below {W W' : World} {C L : Nat} {vg vk : Value} {f : Fo} {vl : Value} {l : List Int} (h : Bg W C L vg vk f vl l) (hb : Below W.heap.size W W') : Bg W' C L vg vk f vl l := by
  have hC := World.block_lt_of_cell? W _ h.c0
  have hL := World.block_lt_of_cell? W _ h.cl
  exact ⟨(hb.cell (p := ⟨C, 0, none⟩) hC).trans h.c0, (hb.cell (p := ⟨C, 1, none⟩) hC).trans h.c1, (hb.cell (p := ⟨C, 2, none⟩) hC).trans h.c2, h.fa.next hb, (hb.cell (p := ⟨L, 0, none⟩) hL).trans h.cl, h.il.next hb⟩
theorem MapK.look {w : World} {b k : Nat} {l : List Tri} (h : MapK w b l k) {x y : Int} (hx : In64 x) (hy : In64 y) : (Instr.lookup 84 (.map (some b)) (.agg #[.int .i64 x, .int .i64 y]) false).run Tryd.prog w = .ok (.int .i64 (lastN l x y k)) w := by
  obtain ⟨D, h1, _, h3⟩ := h
  obtain ⟨c, hr, hat, _⟩ := h1.lookup_int Tryd.klaw Tryd.underlying84 Tryd.underlying3 (Tryd.kzero w) (hkey hx hy)
  rw [h3 x y hx hy] at hat
  have : lastN l x y k = c := by simpa using hat
  rw [this]; exact hr
def begV (f : Fo) (l : List Int) (k : Nat) : Array Value := #[.int .i64 (k : Int), .int .i64 (wdt f l k)]
theorem ok_in64 {x : Int} (h : okPt x = true) : In64 x := by
  have := okPt_iff.1 h
  unfold In64; omega
def c57_0 : Oper := { dst := some 21, op := Go.Op.move (Go.Operand.tmp 5), type := 3, pos := "widths.go:16", after := #[], guard := none }
def c57_1 : Oper := { dst := some 22, op := Go.Op.load 36 (Go.Operand.tmp 1), type := 36, pos := "widths.go:16", after := #[], guard := none }
def c57_2 : Oper := { dst := some 23, op := Go.Op.load 26 (Go.Operand.tmp 2), type := 26, pos := "widths.go:16", after := #[], guard := none }
def c57_3 : Oper := { dst := some 24, op := Go.Op.move (Go.Operand.tmp 6), type := 3, pos := "widths.go:16", after := #[], guard := none }
def c57_4 : Oper := { dst := some 25, op := Go.Op.indexAddr 26 (Go.Operand.tmp 23) (Go.Operand.tmp 24), type := 0, pos := "widths.go:16", after := #[{ on := 2, ground := Go.Ground.data }, { on := 3, ground := Go.Ground.data }], guard := none }
def c57_5 : Oper := { dst := some 26, op := Go.Op.load 3 (Go.Operand.tmp 25), type := 3, pos := "widths.go:16", after := #[{ on := 4, ground := Go.Ground.data }], guard := none }
def c57_6 : Oper := { dst := some 27, op := Go.Op.call { callee := Go.Callee.value (Go.Operand.func 59), args := #[Go.Operand.tmp 22, Go.Operand.tmp 26], argTypes := #[36, 3] }, type := 3, pos := "widths.go:16", after := #[{ on := 1, ground := Go.Ground.data }, { on := 5, ground := Go.Ground.data }], guard := none }
def c57_7 : Oper := { dst := some 28, op := Go.Op.binOp Go.BinOp.add 3 (Go.Operand.tmp 21) (Go.Operand.tmp 27) 3, type := 3, pos := "widths.go:16", after := #[{ on := 0, ground := Go.Ground.data }, { on := 6, ground := Go.Ground.data }], guard := none }
def c57_8 : Oper := { dst := some 5, op := Go.Op.assign (Go.Operand.tmp 28), type := 3, pos := "widths.go:16", after := #[{ on := 7, ground := Go.Ground.data }, { on := 6, ground := Go.Ground.chain }, { on := 0, ground := Go.Ground.phase }, { on := 1, ground := Go.Ground.phase }, { on := 2, ground := Go.Ground.phase }, { on := 3, ground := Go.Ground.phase }, { on := 4, ground := Go.Ground.phase }, { on := 5, ground := Go.Ground.phase }, { on := 6, ground := Go.Ground.phase }, { on := 7, ground := Go.Ground.phase }], guard := none }
def e57_0 : Oper := { dst := some 31, op := Go.Op.move (Go.Operand.tmp 5), type := 3, pos := "widths.go:18", after := #[], guard := none }
def e57_1 : Oper := { dst := some 32, op := Go.Op.move (Go.Operand.tmp 4), type := 84, pos := "widths.go:18", after := #[], guard := none }
def e57_2 : Oper := { dst := some 33, op := Go.Op.load 26 (Go.Operand.tmp 2), type := 26, pos := "widths.go:18", after := #[], guard := none }
def e57_3 : Oper := { dst := some 34, op := Go.Op.move (Go.Operand.tmp 6), type := 3, pos := "widths.go:18", after := #[], guard := none }
def e57_4 : Oper := { dst := some 35, op := Go.Op.binOp Go.BinOp.sub 3 (Go.Operand.tmp 34) (Go.Operand.const (Go.Value.int Go.IntKind.i64 1)) 3, type := 3, pos := "widths.go:18", after := #[{ on := 3, ground := Go.Ground.data }], guard := none }
def e57_5 : Oper := { dst := some 36, op := Go.Op.indexAddr 26 (Go.Operand.tmp 33) (Go.Operand.tmp 35), type := 0, pos := "widths.go:18", after := #[{ on := 2, ground := Go.Ground.data }, { on := 4, ground := Go.Ground.data }], guard := none }
def e57_6 : Oper := { dst := some 37, op := Go.Op.load 3 (Go.Operand.tmp 36), type := 3, pos := "widths.go:18", after := #[{ on := 5, ground := Go.Ground.data }], guard := none }
def e57_7 : Oper := { dst := some 38, op := Go.Op.load 26 (Go.Operand.tmp 2), type := 26, pos := "widths.go:18", after := #[], guard := none }
def e57_8 : Oper := { dst := some 39, op := Go.Op.move (Go.Operand.tmp 6), type := 3, pos := "widths.go:18", after := #[], guard := none }
def e57_9 : Oper := { dst := some 40, op := Go.Op.indexAddr 26 (Go.Operand.tmp 38) (Go.Operand.tmp 39), type := 0, pos := "widths.go:18", after := #[{ on := 7, ground := Go.Ground.data }, { on := 8, ground := Go.Ground.data }], guard := none }
def e57_10 : Oper := { dst := some 41, op := Go.Op.load 3 (Go.Operand.tmp 40), type := 3, pos := "widths.go:18", after := #[{ on := 9, ground := Go.Ground.data }], guard := none }
def e57_11 : Oper := { dst := some 42, op := Go.Op.build 87 #[(0, Go.Operand.tmp 37), (1, Go.Operand.tmp 41)], type := 87, pos := "widths.go:18", after := #[{ on := 6, ground := Go.Ground.data }, { on := 10, ground := Go.Ground.data }], guard := none }
def e57_12 : Oper := { dst := some 43, op := Go.Op.lookup 84 (Go.Operand.tmp 32) (Go.Operand.tmp 42) false, type := 3, pos := "widths.go:18", after := #[{ on := 1, ground := Go.Ground.data }, { on := 11, ground := Go.Ground.data }], guard := none }
def e57_13 : Oper := { dst := some 44, op := Go.Op.binOp Go.BinOp.sub 3 (Go.Operand.tmp 31) (Go.Operand.tmp 43) 3, type := 3, pos := "widths.go:18", after := #[{ on := 0, ground := Go.Ground.data }, { on := 12, ground := Go.Ground.data }], guard := none }
def e57_14 : Oper := { dst := some 5, op := Go.Op.assign (Go.Operand.tmp 44), type := 3, pos := "widths.go:18", after := #[{ on := 13, ground := Go.Ground.data }, { on := 0, ground := Go.Ground.phase }, { on := 1, ground := Go.Ground.phase }, { on := 2, ground := Go.Ground.phase }, { on := 3, ground := Go.Ground.phase }, { on := 4, ground := Go.Ground.phase }, { on := 5, ground := Go.Ground.phase }, { on := 6, ground := Go.Ground.phase }, { on := 7, ground := Go.Ground.phase }, { on := 8, ground := Go.Ground.phase }, { on := 9, ground := Go.Ground.phase }, { on := 10, ground := Go.Ground.phase }, { on := 11, ground := Go.Ground.phase }, { on := 12, ground := Go.Ground.phase }, { on := 13, ground := Go.Ground.phase }], guard := none }

set_option maxRecDepth 100000 in
set_option maxHeartbeats 8000000 in
theorem beg_in (n : Nat) (hn : 1 ≤ n) (lb C L : Nat) (vg vk : Value) (f : Fo) (vl : Value) (l : List Int) (hright : f.right = true) (hG : f.gs.length ≤ 1024) (hok : ∀ x ∈ l, okPt x = true) (hl : l.length ≤ 4096)
    (J : Nat → World → Prop) (hKp : ∀ k W, J k W → Bg W C L vg vk f vl l) (hJB : ∀ k W W', J k W → Below W.heap.size W W' → J k W')
    (W : World) (hY : ∀ k W1, k < l.length + 1 → J k W1 → YieldAt Fence.wide (n - 1) Tryd.prog lb (begV f l k) W1 fun e W' => e = .returned (.bool true) ∧ J (k + 1) W' ∧ KMaps W.heap.size W1 W')
    (hj : J 0 W) :
    CallsIn Fence.wide n Tryd.prog 57 #[.func (.yield lb) #[] #[], .pointer (some ⟨C, 0, none⟩), .pointer (some ⟨L, 0, none⟩)] W fun e W' => (∃ v, e = .returned v) ∧ J (l.length + 1) W' := by
  have hr := hright
  simp only [Fo.right, Bool.and_eq_true] at hr
  have HKS := Lib.hid (fun x y => lastN_near hr.2 x y)
  have HWB := Lib.hid (fun k => wdt_bound hright l k)
  have HOB := Lib.hid (fun r => oneW_bound hright r)
  have HNB := Lib.hid (fun x y => nearW_bound hright x y)
  have HW0 := Lib.hid (fun (A : World) (r : Int) (v : Value) (h : FAt A A.heap.size v f) => widthOf_any A v f h hr.1.1 hG r)
  have HKN := Lib.hid (fun (A : World) (v : Value) (h : FAt A A.heap.size v f) => kernsOf_any A v f h)
  have HOKL : Hid (∀ i, i < l.length → In64 (l.getD i 0)) := Lib.hid (fun i hi => by
    have e : l.getD i 0 = l[i] := by simp [List.getD, List.getElem?_eq_getElem hi]
    rw [e]; exact ok_in64 (hok _ (List.getElem_mem _)))
  have HY := Lib.hid hY
  have HKP := Lib.hid hKp
  have HJB := Lib.hid hJB
  have HJ0 := Lib.hid hj
  obtain ⟨ga, gc, ka, kc, hvv, -, -, -, -, -, -, -⟩ := (hKp 0 W hj).fa.open
  obtain ⟨hv0, hv2⟩ : vg = .slice ga f.gs.length gc ∧ vk = .slice ka f.ks.length kc := by simpa using hvv
  obtain ⟨la, lc, hv3, -, -, -⟩ := (hKp 0 W hj).il
  subst hv0; subst hv2; subst hv3
  obtain ⟨G, hGe⟩ : ∃ G, f.gs.length = G := ⟨_, rfl⟩
  obtain ⟨K, hKe⟩ : ∃ G, f.ks.length = G := ⟨_, rfl⟩
  obtain ⟨o, hoe⟩ : ∃ G, f.o = G := ⟨_, rfl⟩
  obtain ⟨M, hM⟩ : ∃ G, l.length = G := ⟨_, rfl⟩
  have HGe := Lib.hid hGe
  have HKe := Lib.hid hKe
  have HOe := Lib.hid hoe
  have HM := Lib.hid hM
  rw [hGe, hKe, hM] at HKP
  rw [hKe] at HKS HKN
  rw [hM] at HY HOKL hl
  rw [hM]
  clear hY hj hKp hJB hGe hKe hoe hM hvv hright hr hok hG
  refine callsIn_of_wp Tryd.func57 rfl trivial ?_ rfl
  simp only [Tryd.ntmps57, List.size_toArray, List.length_cons, List.length_nil, Nat.reduceAdd, Nat.reduceSub, Array.replicate_succ, Array.replicate_zero, List.push_toArray, List.append_toArray, List.nil_append, List.cons_append]
  have c0 := (HKP.out 0 W HJ0.out).c0
  have c1 := (HKP.out 0 W HJ0.out).c1
  have c2 := (HKP.out 0 W HJ0.out).c2
  have HKN0 := Lib.hid (HKN.out W _ (HKP.out 0 W HJ0.out).fa)
  rw [HOe.out] at c1 HKN0
  gi_wp2_with fail
  refine ⟨trivial, ((callsIn_wide (n := n - 1)).2 HKN0.out).mono ?_⟩
  rintro e W2 ⟨b, rfl, hbB, hm, hb2⟩
  have HJ2 := Lib.hid (HJB.out _ _ _ HJ0.out hb2)
  have HMK := Lib.hid hm
  clear c0 c1 c2 hm hb2 HKN0 HJ0
  gi_wp2
  gi_loopw [5, 6] (fun s5 s6 wr => ∃ k : Nat, k ≤ M ∧ s6 = .int .i64 (k : Int) ∧ s5 = .int .i64 (wdt f l k) ∧ Hid (J k wr) ∧ Hid (MapK wr b f.ks K)) (fun _ s6 _ => M + 1 - (intOf s6).toNat)
  case atStart => exact ⟨0, Nat.zero_le _, rfl, rfl, HJ2, HMK⟩
  case round =>
    obtain ⟨k, hk, rfl, rfl, HJ, HMJ⟩ := hrel
    obtain ⟨wk, hwk⟩ : ∃ x, wdt f l k = x := ⟨_, rfl⟩
    have HWK := Lib.hid hwk
    have HYY : Hid (YieldAt Fence.wide (n - 1) Tryd.prog lb #[.int .i64 (k : Int), .int .i64 wk] wr fun e W' => e = .returned (.bool true) ∧ J (k + 1) W' ∧ KMaps W.heap.size wr W') := Lib.hid (by
      have := HY.out k wr (by omega) HJ.out
      unfold begV at this
      rw [hwk] at this
      exact this)
    rw [hwk]
    clear hwk
    obtain ⟨fn, tmps, assign, body, hy, hR⟩ := HYY.out
    gi_wp2_with fail
    refine hR.mono ?_
    rintro e W3 ⟨rfl, hJ3, hK3⟩
    have HJ3 := Lib.hid hJ3
    have HM3 : Hid (MapK W3 b f.ks K) := Lib.hid (by
      obtain ⟨D, ⟨es, clock, hb, hrest⟩, hD⟩ := HMJ.out
      exact ⟨D, ⟨es, clock, hK3 b es clock hbB hb, hrest⟩, hD⟩)
    clear hy hR hJ3 hK3 HYY
    have cl := (HKP.out _ _ HJ3.out).cl
    by_cases hlt : k < M
    · have d : decide ((k : Int) < (M : Int)) = true := by simp; omega
      have ik : (k : Int) < (M : Int) := by omega
      have c0 := (HKP.out _ _ HJ3.out).c0
      have c1 := (HKP.out _ _ HJ3.out).c1
      have c2 := (HKP.out _ _ HJ3.out).c2
      rw [HOe.out] at c1
      obtain ⟨_, _, e0, hlc, _, h3⟩ := (HKP.out _ _ HJ3.out).il
      rw [HM.out] at e0
      injection e0 with e1 e2 e3
      subst e1; subst e3
      have hkl : k < l.length := by rw [HM.out]; exact hlt
      obtain ⟨eb, eo, rfl, hel, hec⟩ := h3.resolve_left (fun e => by rw [e] at hkl; simp at hkl)
      have ce := hec k hkl
      have egx : l[k] = l.getD k 0 := by simp [List.getD, List.getElem?_eq_getElem hkl]
      rw [egx] at ce
      obtain ⟨r, hr⟩ : ∃ r, l.getD k 0 = r := ⟨_, rfl⟩
      have HR := Lib.hid hr
      rw [hr] at ce
      have HLC : Hid (C < W3.heap.size) := Lib.hid (World.block_lt_of_cell? _ _ c0)
      have HLL : Hid (L < W3.heap.size) := Lib.hid (World.block_lt_of_cell? _ _ cl)
      have HLE : Hid (eb < W3.heap.size) := Lib.hid hel
      have HPV : Hid (0 < k → W3.cell? ⟨eb, eo + (k - 1), none⟩ = some (.int .i64 (l.getD (k - 1) 0))) := Lib.hid (fun h0 => by
        have hkl2 : k - 1 < l.length := by omega
        have := hec (k - 1) hkl2
        rw [this]; simp [List.getD, List.getElem?_eq_getElem hkl2])
      have HW := Lib.hid (fun A (hA : Below W3.heap.size W3 A) => HW0.out A r _ ((HKP.out _ _ HJ3.out).fa.next hA))
      rw [HOe.out] at HW
      obtain ⟨q, hq⟩ : ∃ q, oneW f r = q := ⟨_, rfl⟩
      rw [hq] at HW
      have HQ := Lib.hid hq
      have hqb : 0 ≤ q ∧ q ≤ 4096 := by rw [← hq]; exact HOB.out r
      have hwb := HWB.out k
      rw [HWK.out] at hwb
      have hadd : IntKind.i64.wrap (wk + q) = wk + q := by rw [IntKind.wrap_i64]; omega
      clear hec egx hr h3 hlc hel hkl hq
      gi_wp2_with fail
      refine wpIn_wide.2 ?_
      refine wp_region_ends (fun W => Kept W3 W) (by kernel_rfl) (Kept.drew (Kept.refl W3)) (fun KR hKR hHeld => ?_)
      refine wpAnyH_take (i := 0) (oi := c57_0) (v := ?_) rfl (by kernel_rfl) (by kernel_rfl) (by kernel_rfl) (fun _ _ _ h => h) (Or.inl ⟨by rfl, ?_⟩) hHeld ?_
      rotate_left
      · (intro w hSw; (try dsimp only at hSw); unfold c57_0; go_simp <;> with_reducible rfl)
      try simp only [c57_0, Act.put, List.setIfInBounds_toArray, List.set_cons_zero, List.set_cons_succ]
      refine wpAnyH_take (i := 1) (oi := c57_1) (v := ?_) rfl (by kernel_rfl) (by kernel_rfl) (by kernel_rfl) (fun _ _ _ h => h) (Or.inl ⟨by rfl, ?_⟩) hHeld ?_
      rotate_left
      · (intro w hSw; (try dsimp only at hSw); have q0 := (hSw.cell HLC.out).trans c0; have q1 := (hSw.cell HLC.out).trans c1; have q2 := (hSw.cell HLC.out).trans c2; unfold c57_1; go_simp <;> with_reducible rfl)
      try simp only [c57_1, Act.put, List.setIfInBounds_toArray, List.set_cons_zero, List.set_cons_succ]
      refine wpAnyH_take (i := 2) (oi := c57_2) (v := ?_) rfl (by kernel_rfl) (by kernel_rfl) (by kernel_rfl) (fun _ _ _ h => h) (Or.inl ⟨by rfl, ?_⟩) hHeld ?_
      rotate_left
      · (intro w hSw; (try dsimp only at hSw); have q3 := (hSw.cell HLL.out).trans cl; unfold c57_2; go_simp <;> with_reducible rfl)
      try simp only [c57_2, Act.put, List.setIfInBounds_toArray, List.set_cons_zero, List.set_cons_succ]
      refine wpAnyH_take (i := 3) (oi := c57_3) (v := ?_) rfl (by kernel_rfl) (by kernel_rfl) (by kernel_rfl) (fun _ _ _ h => h) (Or.inl ⟨by rfl, ?_⟩) hHeld ?_
      rotate_left
      · (intro w hSw; (try dsimp only at hSw); unfold c57_3; go_simp <;> with_reducible rfl)
      try simp only [c57_3, Act.put, List.setIfInBounds_toArray, List.set_cons_zero, List.set_cons_succ]
      refine wpAnyH_take (i := 4) (oi := c57_4) (v := ?_) rfl (by kernel_rfl) (by kernel_rfl) (by kernel_rfl) (fun _ _ _ h => h) (Or.inl ⟨by rfl, ?_⟩) hHeld ?_
      rotate_left
      · (intro w hSw; (try dsimp only at hSw); unfold c57_4; go_simp <;> with_reducible rfl)
      try simp only [c57_4, Act.put, List.setIfInBounds_toArray, List.set_cons_zero, List.set_cons_succ]
      refine wpAnyH_take (i := 5) (oi := c57_5) (v := ?_) rfl (by kernel_rfl) (by kernel_rfl) (by kernel_rfl) (fun _ _ _ h => h) (Or.inl ⟨by rfl, ?_⟩) hHeld ?_
      rotate_left
      · (intro w hSw; (try dsimp only at hSw); have q4 := (hSw.cell HLE.out).trans ce; unfold c57_5; go_simp <;> with_reducible rfl)
      try simp only [c57_5, Act.put, List.setIfInBounds_toArray, List.set_cons_zero, List.set_cons_succ]
      refine wpAnyH_ready (rs := [6]) (by kernel_rfl) (by simp) ?_
      refine AllReadyH.cons (o := c57_6) rfl (fun K hK => ?_) AllReadyH.nil
      rw [if_pos (by rfl)]
      unfold c57_6
      go_simp
      (with_reducible refine (HW.out _ hHeld.below).mono ?_)
      rintro e w4 ⟨rfl, hb4⟩
      have hS := hHeld.next hb4
      go_wp2_with fail
      refine hK.out _ _ hS (fun hHeld => ?_)
      clear hK K
      try simp only [c57_6, Act.put, List.setIfInBounds_toArray, List.set_cons_zero, List.set_cons_succ]
      refine wpAnyH_take (i := 7) (oi := c57_7) (v := ?_) rfl (by kernel_rfl) (by kernel_rfl) (by kernel_rfl) (fun _ _ _ h => h) (Or.inl ⟨by rfl, ?_⟩) hHeld ?_
      rotate_left
      · (intro w hSw; (try dsimp only at hSw); unfold c57_7; go_simp <;> with_reducible rfl)
      try simp only [c57_7, Act.put, List.setIfInBounds_toArray, List.set_cons_zero, List.set_cons_succ]
      refine wpAnyH_take (i := 8) (oi := c57_8) (v := ?_) rfl (by kernel_rfl) (by kernel_rfl) (by kernel_rfl) (fun _ _ _ h => h) (Or.inl ⟨by rfl, ?_⟩) hHeld ?_
      rotate_left
      · (intro w hSw; (try dsimp only at hSw); unfold c57_8; go_simp <;> with_reducible rfl)
      try simp only [c57_8, Act.put, List.setIfInBounds_toArray, List.set_cons_zero, List.set_cons_succ]
      refine wpAnyH_done (by kernel_rfl) ?_ _
      refine hKR _ _ ?_
      have HB4 := Lib.hid hHeld
      clear hHeld
      have HJ4 := Lib.hid (HJB.out _ _ _ HJ3.out HB4.out.below)
      have HM4 := Lib.hid (HM3.out.next HB4.out.below)
      have HWN : Hid (wdt f l (k + 1) = wk + q - (if 0 < k then nearW f (l.getD (k - 1) 0) r else 0)) := Lib.hid (by
        have : wdt f l (k + 1) = wdt f l k + oneW f (l.getD k 0) - (if 0 < k then nearW f (l.getD (k - 1) 0) (l.getD k 0) else 0) := rfl
        rw [this, HWK.out, HR.out, HQ.out])
      clear c0 c1 c2 hadd hb4 hS
      by_cases hk0 : 0 < k
      · have d0 : decide (0 < (k : Int)) = true := by simp; omega
        have d0b : decide (0 < k) = true := by simp; omega
        have cl4 := (HB4.out.cell HLL.out).trans cl
        have ce4 := (HB4.out.cell HLE.out).trans ce
        have cp4 := (HB4.out.cell HLE.out).trans (HPV.out hk0)
        obtain ⟨p, hp⟩ : ∃ p, l.getD (k - 1) 0 = p := ⟨_, rfl⟩
        have hwn := HWN.out
        rw [if_pos hk0, hp] at hwn
        rw [hp] at cp4
        have hip : In64 p := by rw [← hp]; exact HOKL.out (k - 1) (by omega)
        have hir : In64 r := by rw [← HR.out]; exact HOKL.out k hlt
        obtain ⟨c, hc⟩ : ∃ c, nearW f p r = c := ⟨_, rfl⟩
        have hcb : -4096 ≤ c ∧ c ≤ 4096 := by rw [← hc]; exact HNB.out p r
        have hlk : ∀ m, (Instr.lookup 84 (.map (some b)) (.agg #[.int .i64 p, .int .i64 r]) false).run Tryd.prog (w4.drewN m) = .ok (.int .i64 c) (w4.drewN m) := fun m => by
          have := (HM4.out.next (below_drewN (Below.refl _ _) m)).look hip hir
          rw [this, HKS.out, hc]
        rw [hc] at hwn
        have HWN2 := Lib.hid hwn
        have sub1 : (k : Int) - 1 = ((k - 1 : Nat) : Int) := by omega
        have sub2 : IntKind.i64.wrap ((k - 1 : Nat) : Int) = ((k - 1 : Nat) : Int) := by rw [IntKind.wrap_i64]; omega
        have sub3 : ((k - 1 : Nat) : Int) < (M : Int) := by omega
        have hsub : IntKind.i64.wrap (wk + q - c) = wk + q - c := by rw [IntKind.wrap_i64]; omega
        clear hp hc hwn hip hir hcb cl ce hwb hqb HPV
        gi_wp2
        refine wpIn_wide.2 ?_
        go_quiet (fail)
        have HJ5 := Lib.hid (HJB.out _ _ _ HJ4.out (below_drewN (Below.refl _ _) nq))
        have HM5 := Lib.hid (HM4.out.next (below_drewN (Below.refl _ _) nq))
        obtain ⟨wd, hwd⟩ : ∃ wd, w4.drewN nq = wd := ⟨_, rfl⟩
        rw [hwd] at HJ5 HM5 ⊢
        clear hwd
        gi_wp2
        go_roundw
        case rel => exact ⟨k + 1, by omega, by go_num, by rw [HWN2.out], HJ5, HM5⟩
        case measure => simp [intOf]; omega
      · have d0 : decide (0 < (k : Int)) = false := by simp; omega
        have d0b : decide (0 < k) = false := by simp; omega
        have hwn := HWN.out
        rw [if_neg hk0] at hwn
        have HWN2 := Lib.hid hwn
        clear hwn
        gi_wp2
        go_roundw
        case rel => exact ⟨k + 1, by omega, by go_num, by rw [HWN2.out, Int.sub_zero], HJ4, HM4⟩
        case measure => simp [intOf]; omega
    · have d : decide ((k : Int) < (M : Int)) = false := by simp; omega
      obtain ⟨_, _, e0, hlc, _, h3⟩ := (HKP.out _ _ HJ3.out).il
      have hkM : k = M := by omega
      have HKM := Lib.hid hkM
      clear hkM e0 h3 hlc
      gi_wp2
      go_end0
      exact ⟨⟨_, rfl⟩, by rw [← HKM.out]; exact HJ3.out⟩
theorem beg_turn (n : Nat) (hn : 1 ≤ n) (C L : Nat) (vg vk : Value) (f : Fo) (vl : Value) (l : List Int) (hright : f.right = true) (hG : f.gs.length ≤ 1024) (hok : ∀ x ∈ l, okPt x = true) (hl : l.length ≤ 4096) (w : World) :
    InTurnM n Tryd.prog 57 #[.pointer (some ⟨C, 0, none⟩), .pointer (some ⟨L, 0, none⟩)] (begV f l) (l.length + 1) (fun _ A => Bg A C L vg vk f vl l) w :=
  fun lb J W _ hJ hK hY h0 =>
    beg_in n hn lb C L vg vk f vl l hright hG hok hl J hK (fun k A A' h hb => hJ k A A' none h (gbelow hb) (fun r e => by cases e)) W hY h0
end Go.Proofs.YtljgcpfibamdpaaDoor
