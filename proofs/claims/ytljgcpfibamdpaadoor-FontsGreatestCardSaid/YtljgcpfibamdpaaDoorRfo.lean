/- Fonts, the reference: One, Nearer, Of. -/
import Derived.Test.YtljgcpfibamdpaaDoorRfs
import Derived.Laws.EntriesVeiled
namespace Go.Proofs.YtljgcpfibamdpaaDoor
open Go.RowKit

theorem find_first {α : Type} {d : α} {p : α → Bool} {l : List α} {k : Nat} (hk : k < l.length) (h : p (l.getD k d) = true) (hn : ∀ i, i < k → p (l.getD i d) = false) : l.find? p = some (l.getD k d) := find_at hk h hn
set_option maxRecDepth 100000 in
set_option maxHeartbeats 4000000 in
theorem rone_any (w : World) (v : Value) (f : Fo) (h : FAt w w.heap.size v f) (r : Int) : Calls Tryd.prog 60 #[v, .int .i64 r] w fun e w' => e = .returned (.int .i64 (oneW f r)) ∧ Below w.heap.size w w' := by
  obtain ⟨ga, gc, ka, kc, rfl, hg1, hg2, -, -, -, hg, -⟩ := h.open
  unfold maxLen at hg2
  have HT := Lib.hid hg
  have HON : Hid ((∀ i, i < f.gs.length → inG r (f.gs.getD i tri0) = false) → oneW f r = f.o) := Lib.hid (fun hh => by unfold oneW; rw [find_no hh])
  have HOY : Hid (∀ k, k < f.gs.length → inG r (f.gs.getD k tri0) = true → (∀ i, i < k → inG r (f.gs.getD i tri0) = false) → oneW f r = (f.gs.getD k tri0).c) := Lib.hid (fun k hk h1 h2 => by unfold oneW; rw [find_at hk h1 h2])
  obtain ⟨l, hl⟩ : ∃ l, f.gs = l := ⟨_, rfl⟩
  obtain ⟨K, hKe⟩ : ∃ G, f.ks.length = G := ⟨_, rfl⟩
  obtain ⟨o, hoe⟩ : ∃ G, f.o = G := ⟨_, rfl⟩
  obtain ⟨res, hres⟩ : ∃ G, oneW f r = G := ⟨_, rfl⟩
  rw [hres, hoe, hl] at HON
  simp only [hres, hl] at HOY
  rw [hl] at HT hg1
  rw [hl, hKe, hoe, hres]
  obtain ⟨N, hN⟩ : ∃ G, l.length = G := ⟨_, rfl⟩
  have HN := Lib.hid hN
  rw [hN] at HON HOY HT hg1 ⊢
  clear h hg hl hKe hoe hres hN
  go_enter Tryd.func60, Tryd.ntmps60
  go_wp2
  have hA := Arr.new w #[.slice ga N gc, .int .i64 o, .slice ka K kc] 36
  have hB1 : Below w.heap.size w (w.alloc (.cells #[.slice ga N gc, .int .i64 o, .slice ka K kc] 36)) := (Below.refl _ _).alloc (Nat.le_refl _) _
  have hl1 : w.heap.size < (w.alloc (.cells #[.slice ga N gc, .int .i64 o, .slice ka K kc] 36)).heap.size := by simp
  obtain ⟨W1, hW1⟩ : ∃ W, w.alloc (.cells #[.slice ga N gc, .int .i64 o, .slice ka K kc] 36) = W := ⟨_, rfl⟩
  rw [hW1] at hA hB1 hl1 ⊢
  have c0 := hA.cell (i := 0) rfl
  have c1 := hA.cell (i := 1) rfl
  have HT1 := Lib.hid (HT.out.from hB1 hB1.size)
  have HB1 := Lib.hid hB1
  clear hW1 hA hB1 hl1
  go_loopw [5] (fun s5 wr => ∃ j : Nat, s5 = .int .i64 j ∧ j ≤ N ∧ Hid (wr = W1) ∧ Hid (∀ i, i < j → inG r (l.getD i tri0) = false)) (fun s5 _ => N - (intOf s5).toNat)
  case atStart => exact ⟨0, rfl, by omega, Lib.hid (by simp), Lib.hid fun i h => by omega⟩
  case round =>
    obtain ⟨j, rfl, hj, HWR, hall⟩ := hrel
    obtain rfl := HWR.out
    by_cases hlt : j < N
    · have d : decide ((j : Int) < (N : Int)) = true := by simp; omega
      have ij : (j : Int) < (N : Int) := by omega
      obtain ⟨b, off, rfl, hbl, _, p0, p1, p2⟩ := HT1.out.got j (by rw [HN.out]; exact hlt)
      have HYJ := Lib.hid (fun h => HOY.out j hlt h hall.out)
      have HNJ : Hid (inG r (l.getD j tri0) = false → ∀ i, i < j + 1 → inG r (l.getD i tri0) = false) := Lib.hid (fun h i hi => by
        by_cases e : i < j
        · exact hall.out i e
        · obtain rfl : i = j := by omega
          exact h)
      obtain ⟨t, ht⟩ : ∃ t, l.getD j tri0 = t := ⟨_, rfl⟩
      rw [ht] at p0 p1 p2 HYJ HNJ
      obtain ⟨x, y, z⟩ := t
      dsimp only at p0 p1 p2 HYJ
      clear ht hbl
      by_cases h1 : x ≤ r
      · have d1 : decide (x ≤ r) = true := by simpa using h1
        by_cases h2 : r ≤ y
        · have d2 : decide (r ≤ y) = true := by simpa using h2
          have hz := HYJ.out (inG_iff.2 ⟨h1, h2⟩)
          have HZ := Lib.hid hz
          clear hz h1 h2 HYJ HNJ
          go_wp2
          go_ret
          exact ⟨by rw [HZ.out]; rfl, HB1.out⟩
        · have d2 : decide (r ≤ y) = false := by simpa using h2
          have HA := Lib.hid (HNJ.out (inG_no (.inr (by dsimp only; omega))))
          clear h1 h2 HYJ HNJ
          go_wp2
          go_roundw
          case rel => exact ⟨j + 1, by go_num, by omega, Lib.hid (by simp), HA⟩
          case measure => simp [intOf]; omega
      · have d1 : decide (x ≤ r) = false := by simpa using h1
        have HA := Lib.hid (HNJ.out (inG_no (.inl (by dsimp only; omega))))
        clear h1 HYJ HNJ
        go_wp2
        go_roundw
        case rel => exact ⟨j + 1, by go_num, by omega, Lib.hid (by simp), HA⟩
        case measure => simp [intOf]; omega
    · have d : decide ((j : Int) < (N : Int)) = false := by simp; omega
      have HZ : Hid (res = o) := Lib.hid (HON.out (fun i hi => hall.out i (by omega)))
      go_wp2
      go_ret
      exact ⟨by rw [HZ.out]; rfl, HB1.out⟩
set_option maxRecDepth 100000 in
set_option maxHeartbeats 4000000 in
theorem rnear_any (w : World) (v : Value) (f : Fo) (h : FAt w w.heap.size v f) (x0 y0 : Int) : Calls Tryd.prog 61 #[v, .int .i64 x0, .int .i64 y0] w fun e w' => e = .returned (.int .i64 (nearW f x0 y0)) ∧ Below w.heap.size w w' := by
  obtain ⟨ga, gc, ka, kc, rfl, -, -, hg1, hg2, -, -, hg⟩ := h.open
  unfold maxLen at hg2
  have HT := Lib.hid hg
  have HON : Hid ((∀ i, i < f.ks.length → atK x0 y0 (f.ks.getD i tri0) = false) → nearW f x0 y0 = 0) := Lib.hid (fun hh => by unfold nearW; rw [find_no hh])
  have HOY : Hid (∀ k, k < f.ks.length → atK x0 y0 (f.ks.getD k tri0) = true → (∀ i, i < k → atK x0 y0 (f.ks.getD i tri0) = false) → nearW f x0 y0 = (f.ks.getD k tri0).c) := Lib.hid (fun k hk h1 h2 => by unfold nearW; rw [find_at hk h1 h2])
  obtain ⟨l, hl⟩ : ∃ l, f.ks = l := ⟨_, rfl⟩
  obtain ⟨G, hGe⟩ : ∃ G, f.gs.length = G := ⟨_, rfl⟩
  obtain ⟨o, hoe⟩ : ∃ G, f.o = G := ⟨_, rfl⟩
  obtain ⟨res, hres⟩ : ∃ G, nearW f x0 y0 = G := ⟨_, rfl⟩
  rw [hres, hl] at HON
  simp only [hres, hl] at HOY
  rw [hl] at HT hg1
  rw [hl, hGe, hoe, hres]
  obtain ⟨N, hN⟩ : ∃ G, l.length = G := ⟨_, rfl⟩
  have HN := Lib.hid hN
  rw [hN] at HON HOY HT hg1 ⊢
  clear h hg hl hGe hoe hres hN
  go_enter Tryd.func61, Tryd.ntmps61
  go_wp2
  have hA := Arr.new w #[.slice ga G gc, .int .i64 o, .slice ka N kc] 36
  have hB1 : Below w.heap.size w (w.alloc (.cells #[.slice ga G gc, .int .i64 o, .slice ka N kc] 36)) := (Below.refl _ _).alloc (Nat.le_refl _) _
  obtain ⟨W1, hW1⟩ : ∃ W, w.alloc (.cells #[.slice ga G gc, .int .i64 o, .slice ka N kc] 36) = W := ⟨_, rfl⟩
  rw [hW1] at hA hB1 ⊢
  have c2 := hA.cell (i := 2) rfl
  have HT1 := Lib.hid (HT.out.from hB1 hB1.size)
  have HB1 := Lib.hid hB1
  clear hW1 hA hB1
  go_loopw [7] (fun s7 wr => ∃ j : Nat, s7 = .int .i64 j ∧ j ≤ N ∧ Hid (wr = W1) ∧ Hid (∀ i, i < j → atK x0 y0 (l.getD i tri0) = false)) (fun s7 _ => N - (intOf s7).toNat)
  case atStart => exact ⟨0, rfl, by omega, Lib.hid (by simp), Lib.hid fun i h => by omega⟩
  case round =>
    obtain ⟨j, rfl, hj, HWR, hall⟩ := hrel
    obtain rfl := HWR.out
    by_cases hlt : j < N
    · have d : decide ((j : Int) < (N : Int)) = true := by simp; omega
      have ij : (j : Int) < (N : Int) := by omega
      obtain ⟨b, off, rfl, hbl, _, p0, p1, p2⟩ := HT1.out.got j (by rw [HN.out]; exact hlt)
      have HYJ := Lib.hid (fun h => HOY.out j hlt h hall.out)
      have HNJ : Hid (atK x0 y0 (l.getD j tri0) = false → ∀ i, i < j + 1 → atK x0 y0 (l.getD i tri0) = false) := Lib.hid (fun h i hi => by
        by_cases e : i < j
        · exact hall.out i e
        · obtain rfl : i = j := by omega
          exact h)
      obtain ⟨t, ht⟩ : ∃ t, l.getD j tri0 = t := ⟨_, rfl⟩
      rw [ht] at p0 p1 p2 HYJ HNJ
      obtain ⟨x, y, z⟩ := t
      dsimp only at p0 p1 p2 HYJ
      clear ht hbl
      by_cases h1 : x = x0
      · have d1 : (x == x0) = true := by simpa using h1
        by_cases h2 : y = y0
        · have d2 : (y == y0) = true := by simpa using h2
          have hz := HYJ.out (atK_iff.2 ⟨h1, h2⟩)
          have HZ := Lib.hid hz
          clear hz h1 h2 HYJ HNJ
          go_wp2
          go_ret
          exact ⟨by rw [HZ.out]; rfl, HB1.out⟩
        · have d2 : (y == y0) = false := by simpa using h2
          have HA := Lib.hid (HNJ.out (atK_no (fun e => h2 e.2)))
          clear h1 h2 HYJ HNJ
          go_wp2
          go_roundw
          case rel => exact ⟨j + 1, by go_num, by omega, Lib.hid (by simp), HA⟩
          case measure => simp [intOf]; omega
      · have d1 : (x == x0) = false := by simpa using h1
        have HA := Lib.hid (HNJ.out (atK_no (fun e => h1 e.1)))
        clear h1 HYJ HNJ
        go_wp2
        go_roundw
        case rel => exact ⟨j + 1, by go_num, by omega, Lib.hid (by simp), HA⟩
        case measure => simp [intOf]; omega
    · have d : decide ((j : Int) < (N : Int)) = false := by simp; omega
      have HZ : Hid (res = 0) := Lib.hid (HON.out (fun i hi => hall.out i (by omega)))
      go_wp2
      go_ret
      exact ⟨by rw [HZ.out]; rfl, HB1.out⟩
def o5_0 : Oper := { dst := some 13, op := Go.Op.move (Go.Operand.tmp 5), type := 3, pos := "ref.go:68", after := #[], guard := none }
def o5_1 : Oper := { dst := some 14, op := Go.Op.load 36 (Go.Operand.tmp 2), type := 36, pos := "ref.go:68", after := #[], guard := none }
def o5_2 : Oper := { dst := some 15, op := Go.Op.move (Go.Operand.tmp 1), type := 26, pos := "ref.go:68", after := #[], guard := none }
def o5_3 : Oper := { dst := some 16, op := Go.Op.move (Go.Operand.tmp 6), type := 3, pos := "ref.go:68", after := #[], guard := none }
def o5_4 : Oper := { dst := some 17, op := Go.Op.indexAddr 26 (Go.Operand.tmp 15) (Go.Operand.tmp 16), type := 0, pos := "ref.go:68", after := #[{ on := 2, ground := Go.Ground.data }, { on := 3, ground := Go.Ground.data }], guard := none }
def o5_5 : Oper := { dst := some 18, op := Go.Op.load 3 (Go.Operand.tmp 17), type := 3, pos := "ref.go:68", after := #[{ on := 4, ground := Go.Ground.data }], guard := none }
def o5_6 : Oper := { dst := some 19, op := Go.Op.call { callee := Go.Callee.value (Go.Operand.func 60), args := #[Go.Operand.tmp 14, Go.Operand.tmp 18], argTypes := #[36, 3] }, type := 3, pos := "ref.go:68", after := #[{ on := 1, ground := Go.Ground.data }, { on := 5, ground := Go.Ground.data }], guard := none }
def o5_7 : Oper := { dst := some 20, op := Go.Op.binOp Go.BinOp.add 3 (Go.Operand.tmp 13) (Go.Operand.tmp 19) 3, type := 3, pos := "ref.go:68", after := #[{ on := 0, ground := Go.Ground.data }, { on := 6, ground := Go.Ground.data }], guard := none }
def o5_8 : Oper := { dst := some 5, op := Go.Op.assign (Go.Operand.tmp 20), type := 3, pos := "ref.go:68", after := #[{ on := 7, ground := Go.Ground.data }, { on := 6, ground := Go.Ground.chain }, { on := 0, ground := Go.Ground.phase }, { on := 1, ground := Go.Ground.phase }, { on := 2, ground := Go.Ground.phase }, { on := 3, ground := Go.Ground.phase }, { on := 4, ground := Go.Ground.phase }, { on := 5, ground := Go.Ground.phase }, { on := 6, ground := Go.Ground.phase }, { on := 7, ground := Go.Ground.phase }], guard := none }
def o7_0 : Oper := { dst := some 23, op := Go.Op.move (Go.Operand.tmp 5), type := 3, pos := "ref.go:70", after := #[], guard := none }
def o7_1 : Oper := { dst := some 24, op := Go.Op.load 36 (Go.Operand.tmp 2), type := 36, pos := "ref.go:70", after := #[], guard := none }
def o7_2 : Oper := { dst := some 25, op := Go.Op.move (Go.Operand.tmp 1), type := 26, pos := "ref.go:70", after := #[], guard := none }
def o7_3 : Oper := { dst := some 26, op := Go.Op.move (Go.Operand.tmp 6), type := 3, pos := "ref.go:70", after := #[], guard := none }
def o7_4 : Oper := { dst := some 27, op := Go.Op.binOp Go.BinOp.sub 3 (Go.Operand.tmp 26) (Go.Operand.const (Go.Value.int Go.IntKind.i64 1)) 3, type := 3, pos := "ref.go:70", after := #[{ on := 3, ground := Go.Ground.data }], guard := none }
def o7_5 : Oper := { dst := some 28, op := Go.Op.indexAddr 26 (Go.Operand.tmp 25) (Go.Operand.tmp 27), type := 0, pos := "ref.go:70", after := #[{ on := 2, ground := Go.Ground.data }, { on := 4, ground := Go.Ground.data }], guard := none }
def o7_6 : Oper := { dst := some 29, op := Go.Op.load 3 (Go.Operand.tmp 28), type := 3, pos := "ref.go:70", after := #[{ on := 5, ground := Go.Ground.data }], guard := none }
def o7_7 : Oper := { dst := some 30, op := Go.Op.move (Go.Operand.tmp 1), type := 26, pos := "ref.go:70", after := #[], guard := none }
def o7_8 : Oper := { dst := some 31, op := Go.Op.move (Go.Operand.tmp 6), type := 3, pos := "ref.go:70", after := #[], guard := none }
def o7_9 : Oper := { dst := some 32, op := Go.Op.indexAddr 26 (Go.Operand.tmp 30) (Go.Operand.tmp 31), type := 0, pos := "ref.go:70", after := #[{ on := 7, ground := Go.Ground.data }, { on := 8, ground := Go.Ground.data }], guard := none }
def o7_10 : Oper := { dst := some 33, op := Go.Op.load 3 (Go.Operand.tmp 32), type := 3, pos := "ref.go:70", after := #[{ on := 9, ground := Go.Ground.data }], guard := none }
def o7_11 : Oper := { dst := some 34, op := Go.Op.call { callee := Go.Callee.value (Go.Operand.func 61), args := #[Go.Operand.tmp 24, Go.Operand.tmp 29, Go.Operand.tmp 33], argTypes := #[36, 3, 3] }, type := 3, pos := "ref.go:70", after := #[{ on := 1, ground := Go.Ground.data }, { on := 6, ground := Go.Ground.data }, { on := 10, ground := Go.Ground.data }], guard := none }
def o7_12 : Oper := { dst := some 35, op := Go.Op.binOp Go.BinOp.sub 3 (Go.Operand.tmp 23) (Go.Operand.tmp 34) 3, type := 3, pos := "ref.go:70", after := #[{ on := 0, ground := Go.Ground.data }, { on := 11, ground := Go.Ground.data }], guard := none }
def o7_13 : Oper := { dst := some 5, op := Go.Op.assign (Go.Operand.tmp 35), type := 3, pos := "ref.go:70", after := #[{ on := 12, ground := Go.Ground.data }, { on := 11, ground := Go.Ground.chain }, { on := 0, ground := Go.Ground.phase }, { on := 1, ground := Go.Ground.phase }, { on := 2, ground := Go.Ground.phase }, { on := 3, ground := Go.Ground.phase }, { on := 4, ground := Go.Ground.phase }, { on := 5, ground := Go.Ground.phase }, { on := 6, ground := Go.Ground.phase }, { on := 7, ground := Go.Ground.phase }, { on := 8, ground := Go.Ground.phase }, { on := 9, ground := Go.Ground.phase }, { on := 10, ground := Go.Ground.phase }, { on := 11, ground := Go.Ground.phase }, { on := 12, ground := Go.Ground.phase }], guard := none }

set_option maxRecDepth 100000 in
set_option maxHeartbeats 8000000 in
theorem rof_any (w : World) (v u : Value) (f : Fo) (l : List Int) (h : FAt w w.heap.size v f) (hu : IRow w w.heap.size u l) (hright : f.right = true) (hl : l.length ≤ 4096) : Calls Tryd.prog 38 #[v, u] w fun e w' => e = .returned (.int .i64 (wdt f l l.length)) ∧ Below w.heap.size w w' := by
  have HWB := Lib.hid (fun k => wdt_bound hright l k)
  have HOB := Lib.hid (fun r => oneW_bound hright r)
  have HNB := Lib.hid (fun x y => nearW_bound hright x y)
  have HW := Lib.hid (fun W (hW : Below w.heap.size w W) r => rone_any W _ f (h.from hW hW.size) r)
  have HN := Lib.hid (fun W (hW : Below w.heap.size w W) x y => rnear_any W _ f (h.from hW hW.size) x y)
  obtain ⟨ga, gc, ka, kc, rfl, -, -, -, -, -, -, -⟩ := h.open
  have HU := Lib.hid hu
  obtain ⟨a, c, rfl, hc, hm, -⟩ := hu
  unfold maxLen at hm
  obtain ⟨G, hGe⟩ : ∃ G, f.gs.length = G := ⟨_, rfl⟩
  obtain ⟨K, hKe⟩ : ∃ G, f.ks.length = G := ⟨_, rfl⟩
  obtain ⟨o, hoe⟩ : ∃ G, f.o = G := ⟨_, rfl⟩
  obtain ⟨M, hM⟩ : ∃ G, l.length = G := ⟨_, rfl⟩
  have HM := Lib.hid hM
  rw [hGe, hKe, hoe] at HW HN
  rw [hM] at HU hl hc
  rw [hGe, hKe, hoe, hM]
  clear h hGe hKe hoe hM hright
  go_enter Tryd.func38, Tryd.ntmps38
  go_wp2
  have hA := Arr.new w #[.slice ga G gc, .int .i64 o, .slice ka K kc] 36
  have hB1 : Below w.heap.size w (w.alloc (.cells #[.slice ga G gc, .int .i64 o, .slice ka K kc] 36)) := (Below.refl _ _).alloc (Nat.le_refl _) _
  have hl1 : w.heap.size < (w.alloc (.cells #[.slice ga G gc, .int .i64 o, .slice ka K kc] 36)).heap.size := by simp
  obtain ⟨W1, hW1⟩ : ∃ W, w.alloc (.cells #[.slice ga G gc, .int .i64 o, .slice ka K kc] 36) = W := ⟨_, rfl⟩
  rw [hW1] at hA hB1 hl1 ⊢
  obtain ⟨g, hg⟩ : ∃ g, w.heap.size = g := ⟨_, rfl⟩
  have HG := Lib.hid hg
  rw [hg] at hA hl1 ⊢
  have HA := Lib.hid hA
  have HB1 := Lib.hid hB1
  have HL1 := Lib.hid hl1
  clear hW1 hA hB1 hl1 hg
  go_loopw [5, 6] (fun s5 s6 wr => ∃ k : Nat, k ≤ M ∧ s6 = .int .i64 (k : Int) ∧ s5 = .int .i64 (wdt f l k) ∧ Hid (Below W1.heap.size W1 wr)) (fun _ s6 _ => M - (intOf s6).toNat)
  case atStart => exact ⟨0, Nat.zero_le _, rfl, rfl, Lib.hid (Below.refl _ _)⟩
  case round =>
    obtain ⟨k, hk, rfl, rfl, HB⟩ := hrel
    obtain ⟨wk, hwk⟩ : ∃ x, wdt f l k = x := ⟨_, rfl⟩
    have HWK := Lib.hid hwk
    rw [hwk]
    clear hwk
    by_cases hlt : k < M
    · have d : decide ((k : Int) < (M : Int)) = true := by simp; omega
      have ik : (k : Int) < (M : Int) := by omega
      have hAr := HA.out.below HB.out HL1.out
      have c0 := hAr.cell (i := 0) rfl
      have c1 := hAr.cell (i := 1) rfl
      have c2 := hAr.cell (i := 2) rfl
      have HLC : Hid (g < wr.heap.size) := Lib.hid (World.block_lt_of_cell? _ _ c0)
      have HBW : Hid (Below w.heap.size w wr) := Lib.hid (HB1.out.trans (HB.out.mono HB1.out.size))
      obtain ⟨_, _, e0, _, _, h3⟩ := HU.out.below HBW.out
      rw [HM.out] at e0
      injection e0 with e1 e2 e3
      subst e1; subst e3
      have hkl : k < l.length := by rw [HM.out]; exact hlt
      obtain ⟨eb, eo, rfl, hel, hec⟩ := h3.resolve_left (fun e => by rw [e] at hkl; simp at hkl)
      have ce := hec k hkl
      have egx : l[k] = l.getD k 0 := by simp [List.getD, List.getElem?_eq_getElem hkl]
      rw [egx] at ce
      obtain ⟨r, hr⟩ : ∃ r, l.getD k 0 = r := ⟨_, rfl⟩
      have HR := Lib.hid hr
      rw [hr] at ce
      have HLE : Hid (eb < wr.heap.size) := Lib.hid (Nat.lt_of_lt_of_le hel HBW.out.size)
      have HPV : Hid (0 < k → wr.cell? ⟨eb, eo + (k - 1), none⟩ = some (.int .i64 (l.getD (k - 1) 0))) := Lib.hid (fun h0 => by
        have hkl2 : k - 1 < l.length := by omega
        have := hec (k - 1) hkl2
        rw [this]; simp [List.getD, List.getElem?_eq_getElem hkl2])
      have HW1 := Lib.hid (fun A (hA : Below wr.heap.size wr A) => HW.out A (HBW.out.trans (hA.mono HBW.out.size)) r)
      obtain ⟨q, hq⟩ : ∃ q, oneW f r = q := ⟨_, rfl⟩
      rw [hq] at HW1
      have HQ := Lib.hid hq
      have hqb : 0 ≤ q ∧ q ≤ 4096 := by rw [← hq]; exact HOB.out r
      have hwb := HWB.out k
      rw [HWK.out] at hwb
      have hadd : IntKind.i64.wrap (wk + q) = wk + q := by rw [IntKind.wrap_i64]; omega
      clear hec egx hr h3 hel hkl hq hAr
      go_wp2_with fail
      refine wp_region_ends (fun W => Kept wr W) (by kernel_rfl) (Kept.drew (Kept.refl wr)) (fun KR hKR hHeld => ?_)
      refine wpAnyH_take (i := 0) (oi := o5_0) (v := ?_) rfl (by kernel_rfl) (by kernel_rfl) (by kernel_rfl) (fun _ _ _ h => h) (Or.inl ⟨by rfl, ?_⟩) hHeld ?_
      rotate_left
      · (intro w hSw; (try dsimp only at hSw); unfold o5_0; go_simp <;> with_reducible rfl)
      try simp only [o5_0, Act.put, List.setIfInBounds_toArray, List.set_cons_zero, List.set_cons_succ]
      refine wpAnyH_take (i := 1) (oi := o5_1) (v := ?_) rfl (by kernel_rfl) (by kernel_rfl) (by kernel_rfl) (fun _ _ _ h => h) (Or.inl ⟨by rfl, ?_⟩) hHeld ?_
      rotate_left
      · (intro w hSw; (try dsimp only at hSw); have q0 := (hSw.cell HLC.out).trans c0; have q1 := (hSw.cell HLC.out).trans c1; have q2 := (hSw.cell HLC.out).trans c2; unfold o5_1; go_simp <;> with_reducible rfl)
      try simp only [o5_1, Act.put, List.setIfInBounds_toArray, List.set_cons_zero, List.set_cons_succ]
      refine wpAnyH_take (i := 2) (oi := o5_2) (v := ?_) rfl (by kernel_rfl) (by kernel_rfl) (by kernel_rfl) (fun _ _ _ h => h) (Or.inl ⟨by rfl, ?_⟩) hHeld ?_
      rotate_left
      · (intro w hSw; (try dsimp only at hSw); unfold o5_2; go_simp <;> with_reducible rfl)
      try simp only [o5_2, Act.put, List.setIfInBounds_toArray, List.set_cons_zero, List.set_cons_succ]
      refine wpAnyH_take (i := 3) (oi := o5_3) (v := ?_) rfl (by kernel_rfl) (by kernel_rfl) (by kernel_rfl) (fun _ _ _ h => h) (Or.inl ⟨by rfl, ?_⟩) hHeld ?_
      rotate_left
      · (intro w hSw; (try dsimp only at hSw); unfold o5_3; go_simp <;> with_reducible rfl)
      try simp only [o5_3, Act.put, List.setIfInBounds_toArray, List.set_cons_zero, List.set_cons_succ]
      refine wpAnyH_take (i := 4) (oi := o5_4) (v := ?_) rfl (by kernel_rfl) (by kernel_rfl) (by kernel_rfl) (fun _ _ _ h => h) (Or.inl ⟨by rfl, ?_⟩) hHeld ?_
      rotate_left
      · (intro w hSw; (try dsimp only at hSw); unfold o5_4; go_simp <;> with_reducible rfl)
      try simp only [o5_4, Act.put, List.setIfInBounds_toArray, List.set_cons_zero, List.set_cons_succ]
      refine wpAnyH_take (i := 5) (oi := o5_5) (v := ?_) rfl (by kernel_rfl) (by kernel_rfl) (by kernel_rfl) (fun _ _ _ h => h) (Or.inl ⟨by rfl, ?_⟩) hHeld ?_
      rotate_left
      · (intro w hSw; (try dsimp only at hSw); have q4 := (hSw.cell HLE.out).trans ce; unfold o5_5; go_simp <;> with_reducible rfl)
      try simp only [o5_5, Act.put, List.setIfInBounds_toArray, List.set_cons_zero, List.set_cons_succ]
      refine wpAnyH_ready (rs := [6]) (by kernel_rfl) (by simp) ?_
      refine AllReadyH.cons (o := o5_6) rfl (fun K hK => ?_) AllReadyH.nil
      rw [if_pos (by rfl)]
      unfold o5_6
      go_simp
      (with_reducible refine (HW1.out _ hHeld.below).mono ?_)
      rintro e w4 ⟨rfl, hb4⟩
      have hS := hHeld.next hb4
      go_wp2_with fail
      refine hK.out _ _ hS (fun hHeld => ?_)
      clear hK K
      try simp only [o5_6, Act.put, List.setIfInBounds_toArray, List.set_cons_zero, List.set_cons_succ]
      refine wpAnyH_take (i := 7) (oi := o5_7) (v := ?_) rfl (by kernel_rfl) (by kernel_rfl) (by kernel_rfl) (fun _ _ _ h => h) (Or.inl ⟨by rfl, ?_⟩) hHeld ?_
      rotate_left
      · (intro w hSw; (try dsimp only at hSw); unfold o5_7; go_simp <;> with_reducible rfl)
      try simp only [o5_7, Act.put, List.setIfInBounds_toArray, List.set_cons_zero, List.set_cons_succ]
      refine wpAnyH_take (i := 8) (oi := o5_8) (v := ?_) rfl (by kernel_rfl) (by kernel_rfl) (by kernel_rfl) (fun _ _ _ h => h) (Or.inl ⟨by rfl, ?_⟩) hHeld ?_
      rotate_left
      · (intro w hSw; (try dsimp only at hSw); unfold o5_8; go_simp <;> with_reducible rfl)
      try simp only [o5_8, Act.put, List.setIfInBounds_toArray, List.set_cons_zero, List.set_cons_succ]
      refine wpAnyH_done (by kernel_rfl) ?_ _
      refine hKR _ _ ?_
      have HB4 := Lib.hid hHeld
      have HWN : Hid (wdt f l (k + 1) = wk + q - (if 0 < k then nearW f (l.getD (k - 1) 0) r else 0)) := Lib.hid (by
        have : wdt f l (k + 1) = wdt f l k + oneW f (l.getD k 0) - (if 0 < k then nearW f (l.getD (k - 1) 0) (l.getD k 0) else 0) := rfl
        rw [this, HWK.out, HR.out, HQ.out])
      have HBX : Hid (Below W1.heap.size W1 w4) := Lib.hid (HB.out.trans (hHeld.below.mono HB.out.size))
      have HBW4 : Hid (Below w.heap.size w w4) := Lib.hid (HB1.out.trans (HBX.out.mono HB1.out.size))
      have d0 := (HB4.out.cell HLC.out).trans c0
      have d1 := (HB4.out.cell HLC.out).trans c1
      have d2 := (HB4.out.cell HLC.out).trans c2
      have de := (HB4.out.cell HLE.out).trans ce
      have HLD : Hid (g < w4.heap.size) := Lib.hid (World.block_lt_of_cell? _ _ d0)
      have HLF : Hid (eb < w4.heap.size) := Lib.hid (World.block_lt_of_cell? _ _ de)
      clear c0 c1 c2 ce hadd hb4 hS hHeld
      by_cases hk0 : 0 < k
      · have dk0 : decide (0 < (k : Int)) = true := by simp; omega
        have dk0b : decide (0 < k) = true := by simp; omega
        have dp := (HB4.out.cell HLE.out).trans (HPV.out hk0)
        obtain ⟨p, hp⟩ : ∃ p, l.getD (k - 1) 0 = p := ⟨_, rfl⟩
        have hwn := HWN.out
        rw [if_pos hk0, hp] at hwn
        rw [hp] at dp
        have HN1 := Lib.hid (fun A (hA : Below w4.heap.size w4 A) => HN.out A (HBW4.out.trans (hA.mono HBW4.out.size)) p r)
        obtain ⟨c9, hc⟩ : ∃ c, nearW f p r = c := ⟨_, rfl⟩
        have hcb : -4096 ≤ c9 ∧ c9 ≤ 4096 := by rw [← hc]; exact HNB.out p r
        rw [hc] at HN1
        rw [hc] at hwn
        have HWN2 := Lib.hid hwn
        have sub1 : (k : Int) - 1 = ((k - 1 : Nat) : Int) := by omega
        have sub2 : IntKind.i64.wrap ((k - 1 : Nat) : Int) = ((k - 1 : Nat) : Int) := by rw [IntKind.wrap_i64]; omega
        have sub3 : ((k - 1 : Nat) : Int) < (M : Int) := by omega
        have hsub : IntKind.i64.wrap (wk + q - c9) = wk + q - c9 := by rw [IntKind.wrap_i64]; omega
        clear hp hc hwn hcb hwb hqb HPV
        go_wp2_with fail
        refine wp_region_ends (fun W => Kept w4 W) (by kernel_rfl) (Kept.drew (Kept.refl w4)) (fun KR hKR hHeld => ?_)
        refine wpAnyH_take (i := 0) (oi := o7_0) (v := ?_) rfl (by kernel_rfl) (by kernel_rfl) (by kernel_rfl) (fun _ _ _ h => h) (Or.inl ⟨by rfl, ?_⟩) hHeld ?_
        rotate_left
        · (intro w hSw; (try dsimp only at hSw); unfold o7_0; go_simp <;> with_reducible rfl)
        try simp only [o7_0, Act.put, List.setIfInBounds_toArray, List.set_cons_zero, List.set_cons_succ]
        refine wpAnyH_take (i := 1) (oi := o7_1) (v := ?_) rfl (by kernel_rfl) (by kernel_rfl) (by kernel_rfl) (fun _ _ _ h => h) (Or.inl ⟨by rfl, ?_⟩) hHeld ?_
        rotate_left
        · (intro w hSw; (try dsimp only at hSw); have q0 := (hSw.cell HLD.out).trans d0; have q1 := (hSw.cell HLD.out).trans d1; have q2 := (hSw.cell HLD.out).trans d2; unfold o7_1; go_simp <;> with_reducible rfl)
        try simp only [o7_1, Act.put, List.setIfInBounds_toArray, List.set_cons_zero, List.set_cons_succ]
        refine wpAnyH_take (i := 2) (oi := o7_2) (v := ?_) rfl (by kernel_rfl) (by kernel_rfl) (by kernel_rfl) (fun _ _ _ h => h) (Or.inl ⟨by rfl, ?_⟩) hHeld ?_
        rotate_left
        · (intro w hSw; (try dsimp only at hSw); unfold o7_2; go_simp <;> with_reducible rfl)
        try simp only [o7_2, Act.put, List.setIfInBounds_toArray, List.set_cons_zero, List.set_cons_succ]
        refine wpAnyH_take (i := 3) (oi := o7_3) (v := ?_) rfl (by kernel_rfl) (by kernel_rfl) (by kernel_rfl) (fun _ _ _ h => h) (Or.inl ⟨by rfl, ?_⟩) hHeld ?_
        rotate_left
        · (intro w hSw; (try dsimp only at hSw); unfold o7_3; go_simp <;> with_reducible rfl)
        try simp only [o7_3, Act.put, List.setIfInBounds_toArray, List.set_cons_zero, List.set_cons_succ]
        refine wpAnyH_take (i := 4) (oi := o7_4) (v := ?_) rfl (by kernel_rfl) (by kernel_rfl) (by kernel_rfl) (fun _ _ _ h => h) (Or.inl ⟨by rfl, ?_⟩) hHeld ?_
        rotate_left
        · (intro w hSw; (try dsimp only at hSw); unfold o7_4; go_simp <;> with_reducible rfl)
        try simp only [o7_4, Act.put, List.setIfInBounds_toArray, List.set_cons_zero, List.set_cons_succ]
        refine wpAnyH_take (i := 5) (oi := o7_5) (v := ?_) rfl (by kernel_rfl) (by kernel_rfl) (by kernel_rfl) (fun _ _ _ h => h) (Or.inl ⟨by rfl, ?_⟩) hHeld ?_
        rotate_left
        · (intro w hSw; (try dsimp only at hSw); unfold o7_5; go_simp <;> with_reducible rfl)
        try simp only [o7_5, Act.put, List.setIfInBounds_toArray, List.set_cons_zero, List.set_cons_succ]
        refine wpAnyH_take (i := 6) (oi := o7_6) (v := ?_) rfl (by kernel_rfl) (by kernel_rfl) (by kernel_rfl) (fun _ _ _ h => h) (Or.inl ⟨by rfl, ?_⟩) hHeld ?_
        rotate_left
        · (intro w hSw; (try dsimp only at hSw); have q5 := (hSw.cell HLF.out).trans dp; unfold o7_6; go_simp <;> with_reducible rfl)
        try simp only [o7_6, Act.put, List.setIfInBounds_toArray, List.set_cons_zero, List.set_cons_succ]
        refine wpAnyH_take (i := 7) (oi := o7_7) (v := ?_) rfl (by kernel_rfl) (by kernel_rfl) (by kernel_rfl) (fun _ _ _ h => h) (Or.inl ⟨by rfl, ?_⟩) hHeld ?_
        rotate_left
        · (intro w hSw; (try dsimp only at hSw); unfold o7_7; go_simp <;> with_reducible rfl)
        try simp only [o7_7, Act.put, List.setIfInBounds_toArray, List.set_cons_zero, List.set_cons_succ]
        refine wpAnyH_take (i := 8) (oi := o7_8) (v := ?_) rfl (by kernel_rfl) (by kernel_rfl) (by kernel_rfl) (fun _ _ _ h => h) (Or.inl ⟨by rfl, ?_⟩) hHeld ?_
        rotate_left
        · (intro w hSw; (try dsimp only at hSw); unfold o7_8; go_simp <;> with_reducible rfl)
        try simp only [o7_8, Act.put, List.setIfInBounds_toArray, List.set_cons_zero, List.set_cons_succ]
        refine wpAnyH_take (i := 9) (oi := o7_9) (v := ?_) rfl (by kernel_rfl) (by kernel_rfl) (by kernel_rfl) (fun _ _ _ h => h) (Or.inl ⟨by rfl, ?_⟩) hHeld ?_
        rotate_left
        · (intro w hSw; (try dsimp only at hSw); unfold o7_9; go_simp <;> with_reducible rfl)
        try simp only [o7_9, Act.put, List.setIfInBounds_toArray, List.set_cons_zero, List.set_cons_succ]
        refine wpAnyH_take (i := 10) (oi := o7_10) (v := ?_) rfl (by kernel_rfl) (by kernel_rfl) (by kernel_rfl) (fun _ _ _ h => h) (Or.inl ⟨by rfl, ?_⟩) hHeld ?_
        rotate_left
        · (intro w hSw; (try dsimp only at hSw); have q4 := (hSw.cell HLF.out).trans de; unfold o7_10; go_simp <;> with_reducible rfl)
        try simp only [o7_10, Act.put, List.setIfInBounds_toArray, List.set_cons_zero, List.set_cons_succ]
        refine wpAnyH_ready (rs := [11]) (by kernel_rfl) (by simp) ?_
        refine AllReadyH.cons (o := o7_11) rfl (fun K hK => ?_) AllReadyH.nil
        rw [if_pos (by rfl)]
        unfold o7_11
        go_simp
        (with_reducible refine (HN1.out _ hHeld.below).mono ?_)
        rintro e w5 ⟨rfl, hb5⟩
        have hS := hHeld.next hb5
        go_wp2_with fail
        refine hK.out _ _ hS (fun hHeld => ?_)
        clear hK K
        try simp only [o7_11, Act.put, List.setIfInBounds_toArray, List.set_cons_zero, List.set_cons_succ]
        refine wpAnyH_take (i := 12) (oi := o7_12) (v := ?_) rfl (by kernel_rfl) (by kernel_rfl) (by kernel_rfl) (fun _ _ _ h => h) (Or.inl ⟨by rfl, ?_⟩) hHeld ?_
        rotate_left
        · (intro w hSw; (try dsimp only at hSw); unfold o7_12; go_simp <;> with_reducible rfl)
        try simp only [o7_12, Act.put, List.setIfInBounds_toArray, List.set_cons_zero, List.set_cons_succ]
        refine wpAnyH_take (i := 13) (oi := o7_13) (v := ?_) rfl (by kernel_rfl) (by kernel_rfl) (by kernel_rfl) (fun _ _ _ h => h) (Or.inl ⟨by rfl, ?_⟩) hHeld ?_
        rotate_left
        · (intro w hSw; (try dsimp only at hSw); unfold o7_13; go_simp <;> with_reducible rfl)
        try simp only [o7_13, Act.put, List.setIfInBounds_toArray, List.set_cons_zero, List.set_cons_succ]
        refine wpAnyH_done (by kernel_rfl) ?_ _
        refine hKR _ _ ?_
        have HB5 : Hid (Below W1.heap.size W1 w5) := Lib.hid (HBX.out.trans (hHeld.below.mono HBX.out.size))
        clear hHeld hb5 hS
        go_wp2
        go_roundw
        case rel => exact ⟨k + 1, by omega, by go_num, by rw [HWN2.out], HB5⟩
        case measure => simp [intOf]; omega
      · have dk0 : decide (0 < (k : Int)) = false := by simp; omega
        have dk0b : decide (0 < k) = false := by simp; omega
        have hwn := HWN.out
        rw [if_neg hk0] at hwn
        have HWN2 := Lib.hid hwn
        clear hwn
        go_wp2
        go_roundw
        case rel => exact ⟨k + 1, by omega, by go_num, by rw [HWN2.out, Int.sub_zero], HBX⟩
        case measure => simp [intOf]; omega
    · have d : decide ((k : Int) < (M : Int)) = false := by simp; omega
      have hkM : k = M := by omega
      have HKM := Lib.hid hkM
      clear hkM
      go_wp2
      go_ret
      exact ⟨by rw [← HWK.out, HKM.out]; rfl, HB1.out.trans (HB.out.mono HB1.out.size)⟩
end Go.Proofs.YtljgcpfibamdpaaDoor
