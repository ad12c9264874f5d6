/- slices.BinarySearchFunc on pairs in order. -/
import Derived.Test.YtjancbjjeemedaaRwa
namespace Go.Proofs.Ytjancbjjeemedaa
open Go.RowKit
def q38p0 : Oper := { dst := some 24, op := Go.Op.move (Go.Operand.tmp 2), type := 68, pos := "sort.go:160", after := #[], guard := none }
def q38p1 : Oper := { dst := some 25, op := Go.Op.move (Go.Operand.tmp 0), type := 23, pos := "sort.go:160", after := #[], guard := none }
def q38p2 : Oper := { dst := some 26, op := Go.Op.move (Go.Operand.tmp 11), type := 3, pos := "sort.go:160", after := #[], guard := none }
def q38p3 : Oper := { dst := some 27, op := Go.Op.indexAddr 23 (Go.Operand.tmp 25) (Go.Operand.tmp 26), type := 0, pos := "sort.go:160", after := #[{ on := 1, ground := Go.Ground.data }, { on := 2, ground := Go.Ground.data }], guard := none }
def q38p4 : Oper := { dst := some 28, op := Go.Op.load 55 (Go.Operand.tmp 27), type := 55, pos := "sort.go:160", after := #[{ on := 3, ground := Go.Ground.data }], guard := none }
def q38p5 : Oper := { dst := some 29, op := Go.Op.load 55 (Go.Operand.tmp 4), type := 55, pos := "sort.go:160", after := #[], guard := none }
def q38p6 : Oper := { dst := some 30, op := Go.Op.call { callee := Go.Callee.value (Go.Operand.tmp 24), args := #[Go.Operand.tmp 28, Go.Operand.tmp 29], argTypes := #[55, 55] }, type := 3, pos := "sort.go:160", after := #[{ on := 0, ground := Go.Ground.data }, { on := 4, ground := Go.Ground.data }, { on := 5, ground := Go.Ground.data }], guard := none }
def q38p7 : Oper := { dst := some 31, op := Go.Op.binOp Go.BinOp.lss 3 (Go.Operand.tmp 30) (Go.Operand.const (Go.Value.int Go.IntKind.i64 0)) 3, type := 4, pos := "sort.go:160", after := #[{ on := 6, ground := Go.Ground.data }], guard := none }
def q38q0 : Oper := { dst := some 35, op := Go.Op.move (Go.Operand.tmp 9), type := 3, pos := "sort.go:167", after := #[], guard := none }
def q38q1 : Oper := { dst := some 36, op := Go.Op.move (Go.Operand.tmp 9), type := 3, pos := "sort.go:167", after := #[], guard := none }
def q38q2 : Oper := { dst := some 37, op := Go.Op.move (Go.Operand.tmp 8), type := 3, pos := "sort.go:167", after := #[], guard := none }
def q38q3 : Oper := { dst := some 38, op := Go.Op.binOp Go.BinOp.lss 3 (Go.Operand.tmp 36) (Go.Operand.tmp 37) 3, type := 4, pos := "sort.go:167", after := #[{ on := 1, ground := Go.Ground.data }, { on := 2, ground := Go.Ground.data }], guard := none }
def q38q4 : Oper := { dst := some 39, op := Go.Op.move (Go.Operand.tmp 38), type := 4, pos := "sort.go:167", after := #[{ on := 3, ground := Go.Ground.data }], guard := none }
def q38q5 : Oper := { dst := some 40, op := Go.Op.move (Go.Operand.tmp 2), type := 68, pos := "sort.go:167", after := #[{ on := 4, ground := Go.Ground.guard }], guard := some (4, true) }
def q38q6 : Oper := { dst := some 41, op := Go.Op.move (Go.Operand.tmp 0), type := 23, pos := "sort.go:167", after := #[{ on := 4, ground := Go.Ground.guard }], guard := some (4, true) }
def q38q7 : Oper := { dst := some 42, op := Go.Op.move (Go.Operand.tmp 9), type := 3, pos := "sort.go:167", after := #[{ on := 4, ground := Go.Ground.guard }], guard := some (4, true) }
def q38q8 : Oper := { dst := some 43, op := Go.Op.indexAddr 23 (Go.Operand.tmp 41) (Go.Operand.tmp 42), type := 0, pos := "sort.go:167", after := #[{ on := 6, ground := Go.Ground.data }, { on := 7, ground := Go.Ground.data }, { on := 4, ground := Go.Ground.guard }], guard := some (4, true) }
def q38q9 : Oper := { dst := some 44, op := Go.Op.load 55 (Go.Operand.tmp 43), type := 55, pos := "sort.go:167", after := #[{ on := 8, ground := Go.Ground.data }, { on := 4, ground := Go.Ground.guard }], guard := some (4, true) }
def q38q10 : Oper := { dst := some 45, op := Go.Op.load 55 (Go.Operand.tmp 4), type := 55, pos := "sort.go:167", after := #[{ on := 4, ground := Go.Ground.guard }], guard := some (4, true) }
def q38q11 : Oper := { dst := some 46, op := Go.Op.call { callee := Go.Callee.value (Go.Operand.tmp 40), args := #[Go.Operand.tmp 44, Go.Operand.tmp 45], argTypes := #[55, 55] }, type := 3, pos := "sort.go:167", after := #[{ on := 5, ground := Go.Ground.data }, { on := 9, ground := Go.Ground.data }, { on := 10, ground := Go.Ground.data }, { on := 4, ground := Go.Ground.chain }, { on := 4, ground := Go.Ground.guard }], guard := some (4, true) }
def q38q12 : Oper := { dst := some 47, op := Go.Op.binOp Go.BinOp.eql 3 (Go.Operand.tmp 46) (Go.Operand.const (Go.Value.int Go.IntKind.i64 0)) 3, type := 4, pos := "sort.go:167", after := #[{ on := 11, ground := Go.Ground.data }, { on := 4, ground := Go.Ground.guard }, { on := 14, ground := Go.Ground.gcOnly Go.Departure.lateStores }], guard := some (4, true) }
def q38q13 : Oper := { dst := some 48, op := Go.Op.pick (Go.Operand.tmp 39) (Go.Operand.tmp 47) (Go.Operand.const (Go.Value.bool false)), type := 4, pos := "sort.go:167", after := #[{ on := 4, ground := Go.Ground.data }, { on := 12, ground := Go.Ground.data }, { on := 14, ground := Go.Ground.gcOnly Go.Departure.lateStores }], guard := none }
def q38q14 : Oper := { dst := some 6, op := Go.Op.assign (Go.Operand.tmp 35), type := 3, pos := "sort.go:167", after := #[{ on := 0, ground := Go.Ground.data }, { on := 11, ground := Go.Ground.chain }, { on := 0, ground := Go.Ground.phase }, { on := 1, ground := Go.Ground.textOnly Go.Departure.lateStores }, { on := 2, ground := Go.Ground.textOnly Go.Departure.lateStores }, { on := 3, ground := Go.Ground.textOnly Go.Departure.lateStores }, { on := 4, ground := Go.Ground.textOnly Go.Departure.lateStores }, { on := 5, ground := Go.Ground.textOnly Go.Departure.lateStores }, { on := 6, ground := Go.Ground.textOnly Go.Departure.lateStores }, { on := 7, ground := Go.Ground.textOnly Go.Departure.lateStores }, { on := 8, ground := Go.Ground.textOnly Go.Departure.lateStores }, { on := 9, ground := Go.Ground.textOnly Go.Departure.lateStores }, { on := 10, ground := Go.Ground.textOnly Go.Departure.lateStores }, { on := 11, ground := Go.Ground.textOnly Go.Departure.lateStoresUnsure }, { on := 12, ground := Go.Ground.textOnly Go.Departure.lateStores }, { on := 13, ground := Go.Ground.textOnly Go.Departure.lateStores }], guard := none }
def q38q15 : Oper := { dst := some 7, op := Go.Op.assign (Go.Operand.tmp 48), type := 4, pos := "sort.go:167", after := #[{ on := 13, ground := Go.Ground.data }, { on := 14, ground := Go.Ground.chain }, { on := 0, ground := Go.Ground.phase }, { on := 1, ground := Go.Ground.phase }, { on := 2, ground := Go.Ground.phase }, { on := 3, ground := Go.Ground.phase }, { on := 4, ground := Go.Ground.phase }, { on := 5, ground := Go.Ground.phase }, { on := 6, ground := Go.Ground.phase }, { on := 7, ground := Go.Ground.phase }, { on := 8, ground := Go.Ground.phase }, { on := 9, ground := Go.Ground.phase }, { on := 10, ground := Go.Ground.phase }, { on := 11, ground := Go.Ground.phase }, { on := 12, ground := Go.Ground.phase }, { on := 13, ground := Go.Ground.phase }, { on := 14, ground := Go.Ground.phase }], guard := none }

set_option maxRecDepth 100000 in
set_option maxHeartbeats 16000000 in
theorem bsf_any (w : World) (ra : Option Addr) (n rc : Nat) (l : List (Int × Int)) (h : AAt w w.heap.size (.slice ra n rc) l) (hn : n ≤ 1000) (hl : l.length = n) (p : Int × Int)
    (hmono : ∀ a b (ha : a < l.length) (hb : b < l.length), a ≤ b → cmp2 l[b] p < 0 → cmp2 l[a] p < 0) :
    Calls Try.prog 38 #[.slice ra n rc, .agg #[.int .i64 p.1, .int .i64 p.2], .func (.func 39) #[] #[]] w fun e w' => ∃ (i : Nat) (f : Bool), e = .returned (.tuple #[.int .i64 (i : Int), .bool f]) ∧ i ≤ n ∧ (∀ t (h : t < l.length), t < i → cmp2 l[t] p < 0) ∧ (∀ t (h : t < l.length), i ≤ t → 0 ≤ cmp2 l[t] p) ∧ Below w.heap.size w w' := by
  have H := Lib.hid h
  have HN := Lib.hid hl
  have HM := Lib.hid hmono
  obtain ⟨X, hX⟩ : ∃ X, w.alloc (Obj.cells #[.int .i64 p.1, .int .i64 p.2] 55) = X := ⟨_, rfl⟩
  have hb : Below w.heap.size w X := by rw [← hX]; go_grown
  have hA : Arr X w.heap.size [.int .i64 p.1, .int .i64 p.2] := by rw [← hX]; exact Arr.new w #[.int .i64 p.1, .int .i64 p.2] 55
  have HX := Lib.hid hX
  have HA := Lib.hid hA
  have HB0 := Lib.hid hb
  have hzX : X.heap.size = w.heap.size + 1 := by rw [← hX, World.size_alloc]
  clear h hl hmono hX hA hb
  go_enter Try.func38, Try.ntmps38
  go_wp2
  rw [HX.out]
  go_loopw [9, 10] (fun v9 v10 wr => ∃ lo hi : Nat, v9 = .int .i64 lo ∧ v10 = .int .i64 hi ∧ lo ≤ hi ∧ hi ≤ n ∧ Below X.heap.size X wr ∧ Hid ((∀ t (h : t < l.length), t < lo → cmp2 l[t] p < 0) ∧ (∀ t (h : t < l.length), hi ≤ t → 0 ≤ cmp2 l[t] p))) (fun v9 v10 _ => (intOf v10).toNat - (intOf v9).toNat)
  case atStart => exact ⟨0, n, rfl, rfl, by omega, Nat.le_refl _, Below.refl _ _, Lib.hid ⟨fun t _ h => absurd h (Nat.not_lt_zero _), fun t h h' => by rw [HN.out] at h; omega⟩⟩
  case round =>
    obtain ⟨lo, hi, rfl, rfl, hlh, hin, hB, HI⟩ := hrel
    have HB := Lib.hid hB
    have hx0 : Kept wr wr.drew := (Kept.refl _).drew
    have hwB := HB0.out.trans (hB.mono HB0.out.size)
    have hAr := HA.out.below hB (by omega)
    by_cases hlt : lo < hi
    · have hml : (lo + hi) / 2 < l.length := by rw [HN.out]; omega
      obtain ⟨b, off, rfl, hbl, hin64, p0, p1⟩ := (H.out.below hwB).got ((lo + hi) / 2) hml
      have HLOW : Hid (cmp2 (l[(lo + hi) / 2]'hml) p < 0 → Hid ((∀ t (h : t < l.length), t < (lo + hi) / 2 + 1 → cmp2 l[t] p < 0) ∧ (∀ t (h : t < l.length), hi ≤ t → 0 ≤ cmp2 l[t] p))) := Lib.hid fun hc => Lib.hid ⟨fun t ht h => HM.out t ((lo + hi) / 2) ht hml (by omega) hc, HI.out.2⟩
      have HHIGH : Hid (0 ≤ cmp2 (l[(lo + hi) / 2]'hml) p → Hid ((∀ t (h : t < l.length), t < lo → cmp2 l[t] p < 0) ∧ (∀ t (h : t < l.length), (lo + hi) / 2 ≤ t → 0 ≤ cmp2 l[t] p))) := Lib.hid fun hc => Lib.hid ⟨HI.out.1, fun t ht h => Int.not_lt.1 fun h' => by have := HM.out ((lo + hi) / 2) t hml ht h h'; omega⟩
      obtain ⟨y, hy⟩ : ∃ y, l[(lo + hi) / 2]'hml = y := ⟨_, rfl⟩
      rw [hy] at p0 p1 HLOW HHIGH hin64
      have HCM := Lib.hid (fun W => comp_any W y p)
      obtain ⟨m, hm⟩ : ∃ m, (lo + hi) / 2 = m := ⟨_, rfl⟩
      rw [hm] at p0 p1
      have hmi : ((lo : Int) + (hi : Int)) / 2 = (m : Int) := by omega
      have hmn : (m : Int) < (n : Int) := by omega
      have dlt : decide ((lo : Int) < (hi : Int)) = true := by simp; omega
      have hbr : b < wr.heap.size := Nat.lt_of_lt_of_le hbl hwB.size
      have HSC := Lib.hid (show ∀ W, Kept wr W → (W.cell? ⟨w.heap.size, 0, none⟩ = some (.int .i64 p.1) ∧ W.cell? ⟨w.heap.size, 1, none⟩ = some (.int .i64 p.2)) ∧ W.cell? ⟨b, off + m * 2, none⟩ = some (.int .i64 y.1) ∧ W.cell? ⟨b, off + m * 2 + 1, none⟩ = some (.int .i64 y.2) from fun W hW =>
        ⟨⟨(hW.cell (hAr.lt (by simp))).trans (hAr.cell rfl), (hW.cell (hAr.lt (by simp))).trans (hAr.cell rfl)⟩, (hW.cell hbr).trans p0, (hW.cell hbr).trans p1⟩)
      have HMM := Lib.hid hm
      clear hB hwB hAr hml hy p0 p1 hbr hbl hin64 hm
      go_wp2
      refine wp_region_held_drew (S := fun W => Kept wr W) (by kernel_rfl) hx0 (fun hHeld => ?_)
      refine wpAnyH_take (i := 0) (oi := q38p0) (v := ?_) rfl (by kernel_rfl) (by kernel_rfl) (by kernel_rfl) (fun _ _ _ h => h) (Or.inl ⟨by rfl, ?_⟩) hHeld ?_
      rotate_left
      · (intro w hSw; (try dsimp only at hSw); unfold q38p0; go_simp <;> with_reducible rfl)
      try simp only [q38p0, Act.put, List.setIfInBounds_toArray, List.set_cons_zero, List.set_cons_succ]
      refine wpAnyH_take (i := 1) (oi := q38p1) (v := ?_) rfl (by kernel_rfl) (by kernel_rfl) (by kernel_rfl) (fun _ _ _ h => h) (Or.inl ⟨by rfl, ?_⟩) hHeld ?_
      rotate_left
      · (intro w hSw; (try dsimp only at hSw); unfold q38p1; go_simp <;> with_reducible rfl)
      try simp only [q38p1, Act.put, List.setIfInBounds_toArray, List.set_cons_zero, List.set_cons_succ]
      refine wpAnyH_take (i := 2) (oi := q38p2) (v := ?_) rfl (by kernel_rfl) (by kernel_rfl) (by kernel_rfl) (fun _ _ _ h => h) (Or.inl ⟨by rfl, ?_⟩) hHeld ?_
      rotate_left
      · (intro w hSw; (try dsimp only at hSw); unfold q38p2; go_simp <;> with_reducible rfl)
      try simp only [q38p2, Act.put, List.setIfInBounds_toArray, List.set_cons_zero, List.set_cons_succ]
      refine wpAnyH_take (i := 3) (oi := q38p3) (v := ?_) rfl (by kernel_rfl) (by kernel_rfl) (by kernel_rfl) (fun _ _ _ h => h) (Or.inl ⟨by rfl, ?_⟩) hHeld ?_
      rotate_left
      · (intro w hSw; (try dsimp only at hSw); unfold q38p3; go_simp <;> with_reducible rfl)
      try simp only [q38p3, Act.put, List.setIfInBounds_toArray, List.set_cons_zero, List.set_cons_succ]
      refine wpAnyH_take (i := 4) (oi := q38p4) (v := ?_) rfl (by kernel_rfl) (by kernel_rfl) (by kernel_rfl) (fun _ _ _ h => h) (Or.inl ⟨by rfl, ?_⟩) hHeld ?_
      rotate_left
      · (intro w hSw; obtain ⟨⟨b0, b1⟩, p0, p1⟩ := HSC.out _ hSw; unfold q38p4; go_simp <;> with_reducible rfl)
      try simp only [q38p4, Act.put, List.setIfInBounds_toArray, List.set_cons_zero, List.set_cons_succ]
      refine wpAnyH_take (i := 5) (oi := q38p5) (v := ?_) rfl (by kernel_rfl) (by kernel_rfl) (by kernel_rfl) (fun _ _ _ h => h) (Or.inl ⟨by rfl, ?_⟩) hHeld ?_
      rotate_left
      · (intro w hSw; obtain ⟨⟨b0, b1⟩, p0, p1⟩ := HSC.out _ hSw; unfold q38p5; go_simp <;> with_reducible rfl)
      try simp only [q38p5, Act.put, List.setIfInBounds_toArray, List.set_cons_zero, List.set_cons_succ]
      refine wpAnyH_ready (rs := [6]) (by kernel_rfl) (by simp) ?_
      refine AllReadyH.cons (o := q38p6) rfl (fun K hK => ?_) AllReadyH.nil
      rw [if_pos (by rfl)]
      unfold q38p6
      go_simp
      go_at_call 39
      refine (HCM.out wr.drew).mono ?_
      rintro e w9 ⟨rfl, hb9⟩
      have hk9 : Kept wr w9 := hHeld.next hb9
      refine hK.out _ _ hk9 (fun hHeld => ?_)
      clear hK K
      try simp only [q38p6, Act.put, List.setIfInBounds_toArray, List.set_cons_zero, List.set_cons_succ]
      refine wpAnyH_take (i := 7) (oi := q38p7) (v := ?_) rfl (by kernel_rfl) (by kernel_rfl) (by kernel_rfl) (fun _ _ _ h => h) (Or.inl ⟨by rfl, ?_⟩) hHeld ?_
      rotate_left
      · (intro w hSw; (try dsimp only at hSw); unfold q38p7; go_simp <;> with_reducible rfl)
      try simp only [q38p7, Act.put, List.setIfInBounds_toArray, List.set_cons_zero, List.set_cons_succ]
      refine wpAnyH_done (by kernel_rfl) ?_ _
      have HB := Lib.hid (HB.out.trans (hk9.below.mono HB.out.size))
      clear hHeld hx0 HSC hb9 hk9
      by_cases hc : cmp2 y p < 0
      · have dc : decide (cmp2 y p < 0) = true := by simpa using hc
        go_wp2
        go_roundw
        case rel => exact ⟨(lo + hi) / 2 + 1, hi, by rw [HMM.out]; go_num, rfl, by omega, hin, HB.out, HLOW.out hc⟩
        case measure => simp [intOf]; omega
      · have dc : decide (cmp2 y p < 0) = false := by simpa using hc
        have hc0 : 0 ≤ cmp2 y p := by omega
        go_wp2
        go_roundw
        case rel => exact ⟨lo, (lo + hi) / 2, rfl, by rw [HMM.out], by omega, by omega, HB.out, HHIGH.out hc0⟩
        case measure => simp [intOf]; omega
    · obtain rfl : hi = lo := by omega
      have dlt : decide ((hi : Int) < (hi : Int)) = false := by simp
      by_cases hln : hi < n
      · have hml : hi < l.length := by rw [HN.out]; omega
        obtain ⟨b, off, rfl, hbl, hin64, p0, p1⟩ := (H.out.below hwB).got hi hml
        obtain ⟨y, hy⟩ : ∃ y, l[hi]'hml = y := ⟨_, rfl⟩
        rw [hy] at p0 p1 hin64
        have HCM := Lib.hid (fun W => comp_any W y p)
        have hmn : (hi : Int) < (n : Int) := by omega
        have dln : decide ((hi : Int) < (n : Int)) = true := by simp; omega
        have hbr : b < wr.heap.size := Nat.lt_of_lt_of_le hbl hwB.size
        have HSC := Lib.hid (show ∀ W, Kept wr W → (W.cell? ⟨w.heap.size, 0, none⟩ = some (.int .i64 p.1) ∧ W.cell? ⟨w.heap.size, 1, none⟩ = some (.int .i64 p.2)) ∧ W.cell? ⟨b, off + hi * 2, none⟩ = some (.int .i64 y.1) ∧ W.cell? ⟨b, off + hi * 2 + 1, none⟩ = some (.int .i64 y.2) from fun W hW =>
          ⟨⟨(hW.cell (hAr.lt (by simp))).trans (hAr.cell rfl), (hW.cell (hAr.lt (by simp))).trans (hAr.cell rfl)⟩, (hW.cell hbr).trans p0, (hW.cell hbr).trans p1⟩)
        have HB := Lib.hid hwB
        have hsz := hwB.size
        clear hB hwB hAr hml hy p0 p1 hbr hbl hin64
        go_wp2
        refine wp_region_held_drew (S := fun W => Kept wr W) (by kernel_rfl) hx0 (fun hHeld => ?_)
        refine wpAnyH_take (i := 0) (oi := q38q0) (v := ?_) rfl (by kernel_rfl) (by kernel_rfl) (by kernel_rfl) (fun _ _ _ h => h) (Or.inl ⟨by rfl, ?_⟩) hHeld ?_
        rotate_left
        · (intro w hSw; (try dsimp only at hSw); unfold q38q0; go_simp <;> with_reducible rfl)
        try simp only [q38q0, Act.put, List.setIfInBounds_toArray, List.set_cons_zero, List.set_cons_succ]
        refine wpAnyH_take (i := 1) (oi := q38q1) (v := ?_) rfl (by kernel_rfl) (by kernel_rfl) (by kernel_rfl) (fun _ _ _ h => h) (Or.inl ⟨by rfl, ?_⟩) hHeld ?_
        rotate_left
        · (intro w hSw; (try dsimp only at hSw); unfold q38q1; go_simp <;> with_reducible rfl)
        try simp only [q38q1, Act.put, List.setIfInBounds_toArray, List.set_cons_zero, List.set_cons_succ]
        refine wpAnyH_take (i := 2) (oi := q38q2) (v := ?_) rfl (by kernel_rfl) (by kernel_rfl) (by kernel_rfl) (fun _ _ _ h => h) (Or.inl ⟨by rfl, ?_⟩) hHeld ?_
        rotate_left
        · (intro w hSw; (try dsimp only at hSw); unfold q38q2; go_simp <;> with_reducible rfl)
        try simp only [q38q2, Act.put, List.setIfInBounds_toArray, List.set_cons_zero, List.set_cons_succ]
        refine wpAnyH_take (i := 3) (oi := q38q3) (v := ?_) rfl (by kernel_rfl) (by kernel_rfl) (by kernel_rfl) (fun _ _ _ h => h) (Or.inl ⟨by rfl, ?_⟩) hHeld ?_
        rotate_left
        · (intro w hSw; (try dsimp only at hSw); unfold q38q3; go_simp <;> with_reducible rfl)
        try simp only [q38q3, Act.put, List.setIfInBounds_toArray, List.set_cons_zero, List.set_cons_succ]
        refine wpAnyH_take (i := 4) (oi := q38q4) (v := ?_) rfl (by kernel_rfl) (by kernel_rfl) (by kernel_rfl) (fun _ _ _ h => h) (Or.inl ⟨by rfl, ?_⟩) hHeld ?_
        rotate_left
        · (intro w hSw; (try dsimp only at hSw); unfold q38q4; go_simp <;> with_reducible rfl)
        try simp only [q38q4, Act.put, List.setIfInBounds_toArray, List.set_cons_zero, List.set_cons_succ]
        refine wpAnyH_take (i := 5) (oi := q38q5) (v := ?_) rfl (by kernel_rfl) (by kernel_rfl) (by kernel_rfl) (fun _ _ _ h => h) (Or.inl ⟨by rfl, ?_⟩) hHeld ?_
        rotate_left
        · (intro w hSw; (try dsimp only at hSw); unfold q38q5; go_simp <;> with_reducible rfl)
        try simp only [q38q5, Act.put, List.setIfInBounds_toArray, List.set_cons_zero, List.set_cons_succ]
        refine wpAnyH_take (i := 6) (oi := q38q6) (v := ?_) rfl (by kernel_rfl) (by kernel_rfl) (by kernel_rfl) (fun _ _ _ h => h) (Or.inl ⟨by rfl, ?_⟩) hHeld ?_
        rotate_left
        · (intro w hSw; (try dsimp only at hSw); unfold q38q6; go_simp <;> with_reducible rfl)
        try simp only [q38q6, Act.put, List.setIfInBounds_toArray, List.set_cons_zero, List.set_cons_succ]
        refine wpAnyH_take (i := 7) (oi := q38q7) (v := ?_) rfl (by kernel_rfl) (by kernel_rfl) (by kernel_rfl) (fun _ _ _ h => h) (Or.inl ⟨by rfl, ?_⟩) hHeld ?_
        rotate_left
        · (intro w hSw; (try dsimp only at hSw); unfold q38q7; go_simp <;> with_reducible rfl)
        try simp only [q38q7, Act.put, List.setIfInBounds_toArray, List.set_cons_zero, List.set_cons_succ]
        refine wpAnyH_take (i := 8) (oi := q38q8) (v := ?_) rfl (by kernel_rfl) (by kernel_rfl) (by kernel_rfl) (fun _ _ _ h => h) (Or.inl ⟨by rfl, ?_⟩) hHeld ?_
        rotate_left
        · (intro w hSw; (try dsimp only at hSw); unfold q38q8; go_simp <;> with_reducible rfl)
        try simp only [q38q8, Act.put, List.setIfInBounds_toArray, List.set_cons_zero, List.set_cons_succ]
        refine wpAnyH_take (i := 9) (oi := q38q9) (v := ?_) rfl (by kernel_rfl) (by kernel_rfl) (by kernel_rfl) (fun _ _ _ h => h) (Or.inl ⟨by rfl, ?_⟩) hHeld ?_
        rotate_left
        · (intro w hSw; obtain ⟨⟨b0, b1⟩, p0, p1⟩ := HSC.out _ hSw; unfold q38q9; go_simp <;> with_reducible rfl)
        try simp only [q38q9, Act.put, List.setIfInBounds_toArray, List.set_cons_zero, List.set_cons_succ]
        refine wpAnyH_take (i := 10) (oi := q38q10) (v := ?_) rfl (by kernel_rfl) (by kernel_rfl) (by kernel_rfl) (fun _ _ _ h => h) (Or.inl ⟨by rfl, ?_⟩) hHeld ?_
        rotate_left
        · (intro w hSw; obtain ⟨⟨b0, b1⟩, p0, p1⟩ := HSC.out _ hSw; unfold q38q10; go_simp <;> with_reducible rfl)
        try simp only [q38q10, Act.put, List.setIfInBounds_toArray, List.set_cons_zero, List.set_cons_succ]
        refine wpAnyH_ready (rs := [11]) (by kernel_rfl) (by simp) ?_
        refine AllReadyH.cons (o := q38q11) rfl (fun K hK => ?_) AllReadyH.nil
        rw [if_pos (by rfl)]
        unfold q38q11
        go_simp
        go_at_call 39
        refine (HCM.out wr.drew).mono ?_
        rintro e w9 ⟨rfl, hb9⟩
        have hk9 : Kept wr w9 := hHeld.next hb9
        refine hK.out _ _ hk9 (fun hHeld => ?_)
        clear hK K
        try simp only [q38q11, Act.put, List.setIfInBounds_toArray, List.set_cons_zero, List.set_cons_succ]
        refine wpAnyH_take (i := 12) (oi := q38q12) (v := ?_) rfl (by kernel_rfl) (by kernel_rfl) (by kernel_rfl) (fun _ _ _ h => h) (Or.inl ⟨by rfl, ?_⟩) hHeld ?_
        rotate_left
        · (intro w hSw; (try dsimp only at hSw); unfold q38q12; go_simp <;> with_reducible rfl)
        try simp only [q38q12, Act.put, List.setIfInBounds_toArray, List.set_cons_zero, List.set_cons_succ]
        refine wpAnyH_take (i := 13) (oi := q38q13) (v := ?_) rfl (by kernel_rfl) (by kernel_rfl) (by kernel_rfl) (fun _ _ _ h => h) (Or.inl ⟨by rfl, ?_⟩) hHeld ?_
        rotate_left
        · (intro w hSw; (try dsimp only at hSw); unfold q38q13; go_simp <;> with_reducible rfl)
        try simp only [q38q13, Act.put, List.setIfInBounds_toArray, List.set_cons_zero, List.set_cons_succ]
        refine wpAnyH_take (i := 14) (oi := q38q14) (v := ?_) rfl (by kernel_rfl) (by kernel_rfl) (by kernel_rfl) (fun _ _ _ h => h) (Or.inl ⟨by rfl, ?_⟩) hHeld ?_
        rotate_left
        · (intro w hSw; (try dsimp only at hSw); unfold q38q14; go_simp <;> with_reducible rfl)
        try simp only [q38q14, Act.put, List.setIfInBounds_toArray, List.set_cons_zero, List.set_cons_succ]
        refine wpAnyH_take (i := 15) (oi := q38q15) (v := ?_) rfl (by kernel_rfl) (by kernel_rfl) (by kernel_rfl) (fun _ _ _ h => h) (Or.inl ⟨by rfl, ?_⟩) hHeld ?_
        rotate_left
        · (intro w hSw; (try dsimp only at hSw); unfold q38q15; go_simp <;> with_reducible rfl)
        try simp only [q38q15, Act.put, List.setIfInBounds_toArray, List.set_cons_zero, List.set_cons_succ]
        refine wpAnyH_done (by kernel_rfl) ?_ _
        have HB := Lib.hid (HB.out.trans (hk9.below.mono HB.out.size))
        clear hHeld hx0 HSC hb9 hk9
        go_wp2
        go_ret2
        first | exact ⟨hi, _, rfl, hin, HI.out.1, HI.out.2, HB.out⟩ | exact ⟨hin, HI.out.1, HI.out.2, HB.out⟩
      · have dln : decide ((hi : Int) < (n : Int)) = false := by simp; omega
        have HB := Lib.hid hwB
        clear hB hwB hAr hx0
        go_wp2
        go_quiet (fail)
        go_wp2
        go_ret2
        first | exact ⟨hi, _, rfl, hin, HI.out.1, HI.out.2, below_drewN HB.out _⟩ | exact ⟨hin, HI.out.1, HI.out.2, below_drewN HB.out _⟩
end Go.Proofs.Ytjancbjjeemedaa
