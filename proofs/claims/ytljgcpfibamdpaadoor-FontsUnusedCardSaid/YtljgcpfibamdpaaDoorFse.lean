/- Fonts: the search for the first range that ends at a code point or behind it. -/
import Derived.Test.YtljgcpfibamdpaaDoorFck
import Derived.StillTailTactics
namespace Go.Proofs.YtljgcpfibamdpaaDoor
open Go.RowKit

/-- What the search reads: the ranges, the number, the closures' variables. -/
structure Sr (w : World) (C S R : Nat) (r : Int) (va : Option Addr) (cap : Nat) (l : List Tri) : Prop where
  c : w.cell? ⟨C, 0, none⟩ = some (.func (.func 76) #[] #[.pointer (some ⟨R, 0, none⟩)])
  s : w.cell? ⟨S, 0, none⟩ = some (.slice va l.length cap)
  r : w.cell? ⟨R, 0, none⟩ = some (.int .i64 r)
  t : TAt w w.heap.size (.slice va l.length cap) l
theorem Sr.below {w W : World} {C S R : Nat} {r : Int} {va : Option Addr} {cap : Nat} {l : List Tri} (h : Sr w C S R r va cap l) (hb : Below w.heap.size w W) : Sr W C S R r va cap l :=
  ⟨(hb.cell (p := ⟨C, 0, none⟩) (World.block_lt_of_cell? w _ h.c)).trans h.c, (hb.cell (p := ⟨S, 0, none⟩) (World.block_lt_of_cell? w _ h.s)).trans h.s, (hb.cell (p := ⟨R, 0, none⟩) (World.block_lt_of_cell? w _ h.r)).trans h.r, h.t.next hb⟩
theorem holds_any (w : World) (a b c r : Int) (R : Nat) (hr : w.cell? ⟨R, 0, none⟩ = some (.int .i64 r)) : Calls Tryd.prog 76 #[.agg #[.int .i64 a, .int .i64 b, .int .i64 c], .pointer (some ⟨R, 0, none⟩)] w fun e w' => e = .returned (.bool (decide (r ≤ b))) ∧ Below w.heap.size w w' := by
  have hR := World.block_lt_of_cell? w _ hr
  have hr2 : (w.alloc (.cells #[.int .i64 a, .int .i64 b, .int .i64 c] 47)).cell? ⟨R, 0, none⟩ = some (.int .i64 r) := (((Below.refl w.heap.size w).alloc (Nat.le_refl _) _).cell (p := ⟨R, 0, none⟩) hR).trans hr
  obtain ⟨t, ht⟩ : ∃ t, decide (r ≤ b) = t := ⟨_, rfl⟩
  rw [ht]
  go_enter Tryd.func76, Tryd.ntmps76
  go_wp2
  go_ret
  exact ⟨by simp, by go_grown⟩
set_option maxRecDepth 100000 in
set_option maxHeartbeats 1000000 in
theorem firstAt_any (w : World) (C S R : Nat) (r : Int) (va : Option Addr) (cap : Nat) (l : List Tri) (h : Sr w C S R r va cap l) (i : Nat) (hi : i < l.length) :
    Calls Tryd.prog 83 #[.int .i64 i, .pointer (some ⟨C, 0, none⟩), .pointer (some ⟨S, 0, none⟩)] w fun e w' => e = .returned (.bool (decide (r ≤ (l.getD i tri0).b))) ∧ Below w.heap.size w w' := by
  have hc := h.c
  have hs := h.s
  obtain ⟨b, off, rfl, hbl, _, p0, p1, p2⟩ := h.t.got i hi
  have H76 := Lib.hid (fun W (hW : Below w.heap.size w W) => holds_any W (l.getD i tri0).a (l.getD i tri0).b (l.getD i tri0).c r R (h.below hW).r)
  obtain ⟨x, hx⟩ : ∃ x, (l.getD i tri0).a = x := ⟨_, rfl⟩
  obtain ⟨y, hy⟩ : ∃ x, (l.getD i tri0).b = x := ⟨_, rfl⟩
  obtain ⟨z, hz⟩ : ∃ x, (l.getD i tri0).c = x := ⟨_, rfl⟩
  obtain ⟨N, hN⟩ : ∃ N, l.length = N := ⟨_, rfl⟩
  have ii : (i : Int) < (N : Int) := by omega
  have hlt := hi
  rw [hN] at hs hlt
  rw [hx] at p0 H76
  rw [hy] at p1 H76 ⊢
  rw [hz] at p2 H76
  clear hx hy hz hN h hi
  go_enter Tryd.func83, Tryd.ntmps83
  go_wp2
  go_still_tail 5, (by kernel_rfl)
  change wpList _ _ _ _ _ w.drew
  obtain ⟨w1, hw1⟩ : ∃ w1, w.drew = w1 := ⟨_, rfl⟩
  have hB1 : Below w.heap.size w w1 := by rw [← hw1]; exact (Below.refl _ _).drew
  rw [hw1]
  clear hw1
  go_wp2_with fail
  refine (H76.out w1 hB1).mono ?_
  rintro e w2 ⟨rfl, hb⟩
  have HB := Lib.hid (hB1.trans (hb.mono hB1.size))
  clear hb hB1
  go_wp2
  go_ret
  exact ⟨rfl, HB.out⟩
set_option maxRecDepth 100000 in
set_option maxHeartbeats 2000000 in
theorem search_any (w : World) (C S R : Nat) (r : Int) (va : Option Addr) (cap : Nat) (l : List Tri) (h : Sr w C S R r va cap l) (hL : l.length ≤ 1024) :
    Calls Tryd.prog 82 #[.int .i64 l.length, .func (.func 83) #[] #[.pointer (some ⟨C, 0, none⟩), .pointer (some ⟨S, 0, none⟩)]] w fun e w' => ∃ k : Nat, e = .returned (.int .i64 k) ∧ k ≤ l.length ∧ (0 < k → (l.getD (k - 1) tri0).b < r) ∧ (k < l.length → r ≤ (l.getD k tri0).b) ∧ Below w.heap.size w w' := by
  have H83 := Lib.hid (fun W (hW : Below w.heap.size w W) i hi => firstAt_any W C S R r va cap l (h.below hW) i hi)
  obtain ⟨N, hN⟩ : ∃ N, l.length = N := ⟨_, rfl⟩
  rw [hN] at hL H83 ⊢
  clear h hN
  go_enter Tryd.func82, Tryd.ntmps82
  go_wp2
  go_loopw [5, 6] (fun s5 s6 wr => ∃ i j : Nat, s5 = .int .i64 i ∧ s6 = .int .i64 j ∧ i ≤ j ∧ j ≤ N ∧ Below w.heap.size w wr ∧ Hid (0 < i → (l.getD (i - 1) tri0).b < r) ∧ Hid (j < N → r ≤ (l.getD j tri0).b)) (fun s5 s6 _ => (intOf s6).toNat - (intOf s5).toNat)
  case atStart => exact ⟨0, N, rfl, rfl, by omega, by omega, Below.refl _ _, Lib.hid (fun h => by omega), Lib.hid (fun h => by omega)⟩
  case round =>
    obtain ⟨i, j, rfl, rfl, hij, hjN, hb, hlo, hhi⟩ := hrel
    have HB := Lib.hid hb
    clear hb
    by_cases hlt : i < j
    · have d : decide ((i : Int) < (j : Int)) = true := by simp; omega
      obtain ⟨k, hk⟩ : ∃ k, (i + j) / 2 = k := ⟨_, rfl⟩
      have e1 : IntKind.i64.wrap ((i : Int) + (j : Int)) = (i : Int) + (j : Int) := by rw [IntKind.wrap_i64]; omega
      have e2 : ((i : Int) + (j : Int)) / 2 = (k : Int) := by omega
      have hk3 : (k : Int) + 1 = ((k + 1 : Nat) : Int) := by omega
      have H83k := Lib.hid (H83.out wr HB.out k (by omega))
      obtain ⟨q, hq⟩ : ∃ q, decide (r ≤ (l.getD k tri0).b) = q := ⟨_, rfl⟩
      rw [hq] at H83k
      have HQ := Lib.hid hq
      clear hq hk3
      go_wp2_with fail
      refine H83k.out.mono ?_
      rintro e w4 ⟨rfl, hb4⟩
      have HB4 := Lib.hid (HB.out.trans (hb4.mono HB.out.size))
      clear hb4 e2 e1
      cases q with
      | true =>
        go_wp2
        go_roundw
        case rel => exact ⟨i, k, rfl, rfl, by omega, by omega, HB4.out, hlo, Lib.hid (fun _ => of_decide_eq_true HQ.out)⟩
        case measure => simp [intOf]; omega
      | false =>
        have hw : IntKind.i64.wrap ((k : Int) + 1) = (k : Int) + 1 := by rw [IntKind.wrap_i64]; omega
        go_wp2
        go_roundw
        case rel => exact ⟨k + 1, j, by go_num, rfl, by omega, by omega, HB4.out, Lib.hid (fun _ => by have := of_decide_eq_false HQ.out; rw [Nat.add_sub_cancel]; omega), hhi⟩
        case measure => simp [intOf]; omega
    · obtain rfl : i = j := by omega
      have d : decide ((i : Int) < (i : Int)) = false := by simp
      go_wp2
      go_ret
      exact ⟨i, rfl, hjN, hlo.out, hhi.out, HB.out⟩
theorem info47s : (Tryd.prog.info? 47).map (·.size) = some 3 := by kernel_rfl
/-- The first range, or none. -/
def fstT (l : List Tri) (k : Nat) : Tri := if k < l.length then l.getD k tri0 else tri0
set_option maxRecDepth 100000 in
set_option maxHeartbeats 2000000 in
theorem first_gl (w : World) (R : Nat) (r : Int) (v : Value) (l : List Tri) (h : TAt w w.heap.size v l) (hr : w.cell? ⟨R, 0, none⟩ = some (.int .i64 r)) (hL : l.length ≤ 1024) :
    Calls Tryd.prog 75 #[v, .func (.func 76) #[] #[.pointer (some ⟨R, 0, none⟩)]] w fun e w' => ∃ k : Nat, e = .returned (.tuple #[(fstT l k).val, .bool (decide (k < l.length))]) ∧ k ≤ l.length ∧ (0 < k → (l.getD (k - 1) tri0).b < r) ∧ (k < l.length → r ≤ (l.getD k tri0).b) ∧ Below w.heap.size w w' := by
  obtain ⟨va, cap, rfl, hc, hm⟩ := h.shape
  have HS := Lib.hid (fun (W : World) (C S : Nat) (hs : Sr W C S R r va cap l) => search_any W C S R r va cap l hs hL)
  have HT := Lib.hid h
  have HR := Lib.hid hr
  obtain ⟨N, hN⟩ : ∃ N, l.length = N := ⟨_, rfl⟩
  have HN := Lib.hid hN
  rw [hN] at HS HT hc ⊢
  clear h hr hN
  go_enter Tryd.func75, Tryd.ntmps75
  go_wp2_with fail
  have hA0 := ((Arr.new w #[.slice va N cap] 33).alloc (by simp) (.cells #[.func (.func 76) #[] #[.pointer (some ⟨R, 0, none⟩)]] 101)).alloc (by simp; omega) (.cells #[.int .i64 0, .int .i64 0, .int .i64 0] 47)
  have hA1 := (Arr.new (w.alloc (.cells #[.slice va N cap] 33)) #[.func (.func 76) #[] #[.pointer (some ⟨R, 0, none⟩)]] 101).alloc (by simp) (.cells #[.int .i64 0, .int .i64 0, .int .i64 0] 47)
  have hA2 := Arr.new ((w.alloc (.cells #[.slice va N cap] 33)).alloc (.cells #[.func (.func 76) #[] #[.pointer (some ⟨R, 0, none⟩)]] 101)) #[.int .i64 0, .int .i64 0, .int .i64 0] 47
  have hB3 : Below w.heap.size w (((w.alloc (.cells #[.slice va N cap] 33)).alloc (.cells #[.func (.func 76) #[] #[.pointer (some ⟨R, 0, none⟩)]] 101)).alloc (.cells #[.int .i64 0, .int .i64 0, .int .i64 0] 47)) := (((Below.refl _ _).alloc (Nat.le_refl _) _).alloc (by simp) _).alloc (by simp; omega) _
  have hz : (((w.alloc (.cells #[.slice va N cap] 33)).alloc (.cells #[.func (.func 76) #[] #[.pointer (some ⟨R, 0, none⟩)]] 101)).alloc (.cells #[.int .i64 0, .int .i64 0, .int .i64 0] 47)).heap.size = w.heap.size + 3 := by simp
  simp only [World.size_alloc] at hA1 hA2
  obtain ⟨W3, hW3⟩ : ∃ W, ((w.alloc (.cells #[.slice va N cap] 33)).alloc (.cells #[.func (.func 76) #[] #[.pointer (some ⟨R, 0, none⟩)]] 101)).alloc (.cells #[.int .i64 0, .int .i64 0, .int .i64 0] 47) = W := ⟨_, rfl⟩
  rw [hW3] at hA0 hA1 hA2 hB3 hz ⊢
  clear hW3
  have hSr : Sr W3 (w.heap.size + 1) w.heap.size R r va cap l := ⟨hA1.cell (i := 0) rfl, by rw [HN.out]; exact hA0.cell (i := 0) rfl, (hB3.cell (p := ⟨R, 0, none⟩) (World.block_lt_of_cell? w _ HR.out)).trans HR.out, by rw [HN.out]; exact HT.out.next hB3⟩
  refine (HS.out W3 (w.heap.size + 1) w.heap.size hSr).mono ?_
  rintro e w4 ⟨k, rfl, hk, hlo, hhi, hb⟩
  have HLO := Lib.hid hlo
  have HHI := Lib.hid hhi
  have hB4 : Below w.heap.size w w4 := hB3.trans (hb.mono hB3.size)
  have HB4 := Lib.hid hB4
  have hT4 := HT.out.next hB4
  have hA0' := hA0.below hb (by omega)
  have hA2' := hA2.below hb (by omega)
  have c0 := hA0'.cell (i := 0) rfl
  have z0 := hA2'.cell (i := 0) rfl
  have z1 := hA2'.cell (i := 1) rfl
  have z2 := hA2'.cell (i := 2) rfl
  have f0 := hA2'.frozen (i := 0) (by simp)
  have f1 := hA2'.frozen (i := 1) (by simp)
  have f2 := hA2'.frozen (i := 2) (by simp)
  have HA2 := Lib.hid hA2'
  have HT4 := Lib.hid hT4
  clear hlo hhi hB4 hT4 hA0' hA2' hA0 hA1 hA2 hB3 hb hSr hz HS
  by_cases hkN : k = N
  · have d : ((k : Int) == (N : Int)) = true := by simp; omega
    have HF : Hid (fstT l k = tri0) := Lib.hid (by unfold fstT; rw [if_neg (by rw [HN.out]; omega)])
    have dk : decide (k < N) = false := by simp; omega
    have HK := Lib.hid hkN
    clear hkN
    go_wp2_with (refine store_grown rfl 47 _ _ (by rfl) (w.heap.size + 2) [.int .i64 0, .int .i64 0, .int .i64 0] [.int .i64 0, .int .i64 0, .int .i64 0] (by rfl) (by rfl) HA2.out rfl info47s (by simp [Value.oneCell']) ?_; intro W5 hG hA5; have HG := Lib.hid hG; have HA5 := Lib.hid hA5; clear hG hA5)
    refine bodyPost_ret (results_cell_tmp rfl _ _ (w.heap.size + 2) [.int .i64 0, .int .i64 0, .int .i64 0] _ _ (by rfl) (by rfl) HA5.out.at_ Tryd.underlying47 rfl info47s) rfl ?_
    exact ⟨k, by rw [HF.out, dk]; rfl, hk, HLO.out, HHI.out, HB4.out.grown HG.out HB4.out.size (fun k e => by cases e; omega)⟩
  · have d : ((k : Int) == (N : Int)) = false := by simp; omega
    have hkl : k < N := by omega
    have HF : Hid (fstT l k = l.getD k tri0) := Lib.hid (by unfold fstT; rw [if_pos (by rw [HN.out]; omega)])
    have dk : decide (k < N) = true := by simp; omega
    have HDK := Lib.hid dk
    have ik : (k : Int) < (N : Int) := by omega
    obtain ⟨b, off, rfl, hbl, _, p0, p1, p2⟩ := HT4.out.got k (by rw [HN.out]; exact hkl)
    obtain ⟨t, ht⟩ : ∃ t, l.getD k tri0 = t := ⟨_, rfl⟩
    rw [ht] at p0 p1 p2 HF
    obtain ⟨x, y, z⟩ := t
    dsimp only at p0 p1 p2
    clear hkN dk ht
    go_wp2_with (refine store_grown rfl 47 _ _ (by rfl) (w.heap.size + 2) [.int .i64 x, .int .i64 y, .int .i64 z] [.int .i64 0, .int .i64 0, .int .i64 0] (by rfl) (by rfl) HA2.out rfl info47s (by simp [Value.oneCell']) ?_; intro W5 hG hA5; have HG := Lib.hid hG; have HA5 := Lib.hid hA5; clear hG hA5)
    refine bodyPost_ret (results_cell_tmp rfl _ _ (w.heap.size + 2) [.int .i64 x, .int .i64 y, .int .i64 z] _ _ (by rfl) (by rfl) HA5.out.at_ Tryd.underlying47 rfl info47s) rfl ?_
    exact ⟨k, by rw [HF.out, HDK.out]; rfl, hk, HLO.out, HHI.out, HB4.out.grown HG.out HB4.out.size (fun k e => by cases e; omega)⟩
end Go.Proofs.YtljgcpfibamdpaaDoor
