/- The law FontsPairs, walked. -/
import Derived.Test.YtljgcpfibamdpaaDoorLjo
namespace Go.Proofs.YtljgcpfibamdpaaDoor
open Go.RowKit

/-- The sum, before pair i. -/
def sumP (f : Fo) (l : List Int) (M i : Nat) : Int := if i = M then wdt f l M else wdt f l i - oneW f (l.getD (i - 1) 0)
theorem sumP_one (f : Fo) (l : List Int) (M : Nat) (h : 2 ≤ M) : sumP f l M 1 = 0 := by
  unfold sumP
  rw [if_neg (by omega)]
  have : wdt f l 1 = 0 + oneW f (l.getD 0 0) - 0 := rfl
  rw [this, show 1 - 1 = 0 from rfl]; omega
theorem sumP_step (f : Fo) (l : List Int) (M i : Nat) (h1 : 1 ≤ i) (h2 : i < M) : sumP f l M i + pairW f (l.getD (i - 1) 0) (l.getD i 0) = wdt f l (i + 1) := by
  unfold sumP pairW
  rw [if_neg (by omega)]
  have : wdt f l (i + 1) = wdt f l i + oneW f (l.getD i 0) - (if 0 < i then nearW f (l.getD (i - 1) 0) (l.getD i 0) else 0) := rfl
  rw [this, if_pos (by omega)]; omega
theorem sumP_next (f : Fo) (l : List Int) (M i : Nat) : sumP f l M (i + 1) = if i + 1 = M then wdt f l (i + 1) else wdt f l (i + 1) - oneW f (l.getD i 0) := by
  unfold sumP
  by_cases h : i + 1 = M
  · rw [if_pos h, if_pos h, h]
  · rw [if_neg h, if_neg h, Nat.add_sub_cancel]
def p18_0 : Oper := { dst := some 81, op := Go.Op.load 36 (Go.Operand.tmp 2), type := 36, pos := "law.go:91", after := #[], guard := none }
def p18_1 : Oper := { dst := some 82, op := Go.Op.move (Go.Operand.tmp 5), type := 26, pos := "law.go:91", after := #[], guard := none }
def p18_2 : Oper := { dst := some 83, op := Go.Op.move (Go.Operand.tmp 12), type := 3, pos := "law.go:91", after := #[], guard := none }
def p18_3 : Oper := { dst := some 84, op := Go.Op.binOp Go.BinOp.sub 3 (Go.Operand.tmp 83) (Go.Operand.const (Go.Value.int Go.IntKind.i64 1)) 3, type := 3, pos := "law.go:91", after := #[{ on := 2, ground := Go.Ground.data }], guard := none }
def p18_4 : Oper := { dst := some 85, op := Go.Op.indexAddr 26 (Go.Operand.tmp 82) (Go.Operand.tmp 84), type := 0, pos := "law.go:91", after := #[{ on := 1, ground := Go.Ground.data }, { on := 3, ground := Go.Ground.data }], guard := none }
def p18_5 : Oper := { dst := some 86, op := Go.Op.load 3 (Go.Operand.tmp 85), type := 3, pos := "law.go:91", after := #[{ on := 4, ground := Go.Ground.data }], guard := none }
def p18_6 : Oper := { dst := some 87, op := Go.Op.move (Go.Operand.tmp 5), type := 26, pos := "law.go:91", after := #[], guard := none }
def p18_7 : Oper := { dst := some 88, op := Go.Op.move (Go.Operand.tmp 12), type := 3, pos := "law.go:91", after := #[], guard := none }
def p18_8 : Oper := { dst := some 89, op := Go.Op.indexAddr 26 (Go.Operand.tmp 87) (Go.Operand.tmp 88), type := 0, pos := "law.go:91", after := #[{ on := 6, ground := Go.Ground.data }, { on := 7, ground := Go.Ground.data }], guard := none }
def p18_9 : Oper := { dst := some 90, op := Go.Op.load 3 (Go.Operand.tmp 89), type := 3, pos := "law.go:91", after := #[{ on := 8, ground := Go.Ground.data }], guard := none }
def p18_10 : Oper := { dst := some 91, op := Go.Op.buildSlice 26 2 #[(0, Go.Operand.tmp 86), (1, Go.Operand.tmp 90)], type := 26, pos := "law.go:91", after := #[{ on := 5, ground := Go.Ground.data }, { on := 9, ground := Go.Ground.data }], guard := none }
def p18_11 : Oper := { dst := some 92, op := Go.Op.call { callee := Go.Callee.value (Go.Operand.func 22), args := #[Go.Operand.tmp 81, Go.Operand.tmp 91], argTypes := #[36, 26] }, type := 43, pos := "law.go:91", after := #[{ on := 0, ground := Go.Ground.data }, { on := 10, ground := Go.Ground.data }], guard := none }
def p18_12 : Oper := { dst := some 80, op := Go.Op.move (Go.Operand.tmp 92), type := 43, pos := "law.go:91", after := #[{ on := 11, ground := Go.Ground.data }], guard := none }
def p18_13 : Oper := { dst := some 93, op := Go.Op.extract (Go.Operand.tmp 80) 0, type := 3, pos := "law.go:91", after := #[{ on := 12, ground := Go.Ground.data }], guard := none }
def p18_14 : Oper := { dst := some 94, op := Go.Op.extract (Go.Operand.tmp 80) 1, type := 4, pos := "law.go:91", after := #[{ on := 12, ground := Go.Ground.data }, { on := 15, ground := Go.Ground.gcOnly Go.Departure.lateStores }], guard := none }
def p18_15 : Oper := { dst := some 13, op := Go.Op.assign (Go.Operand.tmp 93), type := 3, pos := "law.go:91", after := #[{ on := 13, ground := Go.Ground.data }, { on := 11, ground := Go.Ground.chain }, { on := 0, ground := Go.Ground.phase }, { on := 1, ground := Go.Ground.phase }, { on := 2, ground := Go.Ground.phase }, { on := 3, ground := Go.Ground.phase }, { on := 4, ground := Go.Ground.phase }, { on := 5, ground := Go.Ground.phase }, { on := 6, ground := Go.Ground.phase }, { on := 7, ground := Go.Ground.phase }, { on := 8, ground := Go.Ground.phase }, { on := 9, ground := Go.Ground.phase }, { on := 10, ground := Go.Ground.phase }, { on := 11, ground := Go.Ground.phase }, { on := 12, ground := Go.Ground.phase }, { on := 13, ground := Go.Ground.phase }, { on := 14, ground := Go.Ground.textOnly Go.Departure.lateStores }], guard := none }
def p18_16 : Oper := { dst := some 14, op := Go.Op.assign (Go.Operand.tmp 94), type := 4, pos := "law.go:91", after := #[{ on := 14, ground := Go.Ground.data }, { on := 15, ground := Go.Ground.chain }, { on := 0, ground := Go.Ground.phase }, { on := 1, ground := Go.Ground.phase }, { on := 2, ground := Go.Ground.phase }, { on := 3, ground := Go.Ground.phase }, { on := 4, ground := Go.Ground.phase }, { on := 5, ground := Go.Ground.phase }, { on := 6, ground := Go.Ground.phase }, { on := 7, ground := Go.Ground.phase }, { on := 8, ground := Go.Ground.phase }, { on := 9, ground := Go.Ground.phase }, { on := 10, ground := Go.Ground.phase }, { on := 11, ground := Go.Ground.phase }, { on := 12, ground := Go.Ground.phase }, { on := 13, ground := Go.Ground.phase }, { on := 14, ground := Go.Ground.phase }, { on := 15, ground := Go.Ground.phase }], guard := none }
def p23_0 : Oper := { dst := some 106, op := Go.Op.load 36 (Go.Operand.tmp 2), type := 36, pos := "law.go:97", after := #[], guard := none }
def p23_1 : Oper := { dst := some 107, op := Go.Op.move (Go.Operand.tmp 5), type := 26, pos := "law.go:97", after := #[], guard := none }
def p23_2 : Oper := { dst := some 108, op := Go.Op.move (Go.Operand.tmp 12), type := 3, pos := "law.go:97", after := #[], guard := none }
def p23_3 : Oper := { dst := some 109, op := Go.Op.indexAddr 26 (Go.Operand.tmp 107) (Go.Operand.tmp 108), type := 0, pos := "law.go:97", after := #[{ on := 1, ground := Go.Ground.data }, { on := 2, ground := Go.Ground.data }], guard := none }
def p23_4 : Oper := { dst := some 110, op := Go.Op.load 3 (Go.Operand.tmp 109), type := 3, pos := "law.go:97", after := #[{ on := 3, ground := Go.Ground.data }], guard := none }
def p23_5 : Oper := { dst := some 111, op := Go.Op.buildSlice 26 1 #[(0, Go.Operand.tmp 110)], type := 26, pos := "law.go:97", after := #[{ on := 4, ground := Go.Ground.data }], guard := none }
def p23_6 : Oper := { dst := some 112, op := Go.Op.call { callee := Go.Callee.value (Go.Operand.func 22), args := #[Go.Operand.tmp 106, Go.Operand.tmp 111], argTypes := #[36, 26] }, type := 43, pos := "law.go:97", after := #[{ on := 0, ground := Go.Ground.data }, { on := 5, ground := Go.Ground.data }], guard := none }
def p23_7 : Oper := { dst := some 105, op := Go.Op.move (Go.Operand.tmp 112), type := 43, pos := "law.go:97", after := #[{ on := 6, ground := Go.Ground.data }], guard := none }
def p23_8 : Oper := { dst := some 113, op := Go.Op.extract (Go.Operand.tmp 105) 0, type := 3, pos := "law.go:97", after := #[{ on := 7, ground := Go.Ground.data }], guard := none }
def p23_9 : Oper := { dst := some 114, op := Go.Op.extract (Go.Operand.tmp 105) 1, type := 4, pos := "law.go:97", after := #[{ on := 7, ground := Go.Ground.data }, { on := 10, ground := Go.Ground.gcOnly Go.Departure.lateStores }], guard := none }
def p23_10 : Oper := { dst := some 15, op := Go.Op.assign (Go.Operand.tmp 113), type := 3, pos := "law.go:97", after := #[{ on := 8, ground := Go.Ground.data }, { on := 6, ground := Go.Ground.chain }, { on := 0, ground := Go.Ground.phase }, { on := 1, ground := Go.Ground.phase }, { on := 2, ground := Go.Ground.phase }, { on := 3, ground := Go.Ground.phase }, { on := 4, ground := Go.Ground.phase }, { on := 5, ground := Go.Ground.phase }, { on := 6, ground := Go.Ground.phase }, { on := 7, ground := Go.Ground.phase }, { on := 8, ground := Go.Ground.phase }, { on := 9, ground := Go.Ground.textOnly Go.Departure.lateStores }], guard := none }
def p23_11 : Oper := { dst := some 16, op := Go.Op.assign (Go.Operand.tmp 114), type := 4, pos := "law.go:97", after := #[{ on := 9, ground := Go.Ground.data }, { on := 10, ground := Go.Ground.chain }, { on := 0, ground := Go.Ground.phase }, { on := 1, ground := Go.Ground.phase }, { on := 2, ground := Go.Ground.phase }, { on := 3, ground := Go.Ground.phase }, { on := 4, ground := Go.Ground.phase }, { on := 5, ground := Go.Ground.phase }, { on := 6, ground := Go.Ground.phase }, { on := 7, ground := Go.Ground.phase }, { on := 8, ground := Go.Ground.phase }, { on := 9, ground := Go.Ground.phase }, { on := 10, ground := Go.Ground.phase }], guard := none }

set_option maxRecDepth 100000 in
set_option maxHeartbeats 8000000 in
theorem lawPairs (w : World) (v : Value) (f : Fo) (h : FAt w w.heap.size v f) (s : ByteArray) (hT : UTab w) : Calls Tryd.prog 6 #[v, .string s] w fun e w' => e = .returned (.bool true) ∧ Below w.heap.size w w' := by
  obtain ⟨xs, rfl⟩ : ∃ bs, s = str bs := ⟨s.data.toList, (str_of s).symm⟩
  have HSN := Lib.hid (fun W (hW : Below w.heap.size w W) => sane_any W (hT.below hW))
  have HFX := Lib.hid (fun W (hW : Below w.heap.size w W) => rfew_any W v f (h.from hW hW.size) xs)
  have HRC := Lib.hid (fun W (hW : Below w.heap.size w W) => rcheck_any W v f (h.from hW hW.size))
  have HRX := Lib.hid (fun W (hW : Below w.heap.size w W) => runes_any W xs (hT.below hW))
  have HWX := Lib.hid (fun W (hW : Below w.heap.size w W) => fwidth_text W v f (h.from hW hW.size) xs (hT.below hW))
  have HNUM : Hid (f.err = 0 → rnsE xs = 0 → frE f xs = 0 ∧ fwW f xs = wdt f (rnsV xs) (rnsV xs).length ∧ (rnsV xs).length ≤ 4096 ∧ (∀ n : Nat, -(8192 * (n : Int)) ≤ wdt f (rnsV xs) n ∧ wdt f (rnsV xs) n ≤ 8192 * n)) := Lib.hid (fun h0 hx => by
    obtain ⟨hr, -, -⟩ := err_ok h0
    obtain ⟨a1, a2, a3, a4⟩ := rns_ok hx
    have hl1 := (encs_len (rnsV xs)).1
    have g1 := congrArg List.length a4
    have fx : frE f xs = 0 := by unfold frE; rw [if_pos h0, hx]
    have vx : frV f xs = rnsV xs := by unfold frV; rw [if_pos h0]
    exact ⟨fx, by unfold fwW; rw [if_pos fx, vx], by omega, fun n => wdt_bound hr _ n⟩)
  have HNO : Hid (f.err = 0 → rnsE xs ≠ 0 → frE f xs = rnsE xs ∧ fwW f xs = 0) := Lib.hid (fun h0 hx => by
    have fx : frE f xs = rnsE xs := by unfold frE; rw [if_pos h0]
    exact ⟨fx, by unfold fwW; rw [if_neg (by rw [fx]; exact hx)]⟩)
  have HOK : Hid (rnsE xs = 0 → ∀ x ∈ rnsV xs, okPt x = true) := Lib.hid (fun h => (rns_ok h).2.2.1)
  have HOB : Hid (f.err = 0 → ∀ x y, (0 ≤ oneW f x ∧ oneW f x ≤ 4096) ∧ (-4096 ≤ nearW f x y ∧ nearW f x y ≤ 4096)) := Lib.hid (fun h0 x y => ⟨oneW_bound (err_ok h0).1 x, nearW_bound (err_ok h0).1 x y⟩)
  have HO2 := Lib.hid (fun (h0 : f.err = 0) x y (hx : okPt x = true) (hy : okPt y = true) W (hW : Below w.heap.size w W) => of2_drew w v f h h0 x y hx hy hT W hW)
  have HO1 := Lib.hid (fun (h0 : f.err = 0) x (hx : okPt x = true) W (hW : Below w.heap.size w W) => of1_drew w v f h h0 x hx hT W hW)
  have HOA : Hid (f.err = 0 → rnsE xs = 0 → ∀ W, Below w.heap.size w W → ∀ u, IRow W W.heap.size u (rnsV xs) → Calls Tryd.prog 22 #[v, u] W fun e w' => e = .returned (.tuple #[.int .i64 (wdt f (rnsV xs) (rnsV xs).length), .bool true]) ∧ Below W.heap.size W w') := Lib.hid (fun h0 h1 W hW u hu => by
    obtain ⟨q1, q2, q3, q4⟩ := rns_ok h1
    exact of_any W v u f (rnsV xs) (h.from hW hW.size) hu h0 (List.all_eq_true.2 q3) (by rw [← q4]; exact q1) (hT.below hW))
  obtain ⟨ga, gc, ka, kc, rfl, -, -, -, -, -, -, -⟩ := h.open
  obtain ⟨qx, hqx⟩ : ∃ b, fewB f.gs.length f.ks.length xs.length = b := ⟨_, rfl⟩
  obtain ⟨z, hz⟩ : ∃ b, f.err = b := ⟨_, rfl⟩
  obtain ⟨eX, heX⟩ : ∃ b, rnsE xs = b := ⟨_, rfl⟩
  obtain ⟨l, hl⟩ : ∃ b, rnsV xs = b := ⟨_, rfl⟩
  obtain ⟨fX, hfX⟩ : ∃ b, frE f xs = b := ⟨_, rfl⟩
  obtain ⟨wX, hwX⟩ : ∃ b, fwW f xs = b := ⟨_, rfl⟩
  simp only [hqx] at HFX
  simp only [hz] at HRC
  simp only [heX, hl] at HRX
  simp only [hwX, hfX] at HWX
  simp only [hz, heX, hl, hfX, hwX] at HNUM
  simp only [hz, heX, hfX, hwX] at HNO
  simp only [heX, hl] at HOK
  simp only [hz] at HO1 HO2 HOB
  simp only [hz, heX, hl] at HOA
  obtain ⟨G, hGe⟩ : ∃ G, f.gs.length = G := ⟨_, rfl⟩
  obtain ⟨K, hKe⟩ : ∃ G, f.ks.length = G := ⟨_, rfl⟩
  obtain ⟨o, hoe⟩ : ∃ G, f.o = G := ⟨_, rfl⟩
  obtain ⟨sx, hsx⟩ : ∃ s, str xs = s := ⟨_, rfl⟩
  obtain ⟨M, hM⟩ : ∃ G, l.length = G := ⟨_, rfl⟩
  have HM := Lib.hid hM
  rw [hM] at HNUM HOA
  rw [hGe, hKe, hoe] at HFX HRC HWX HO1 HO2 HOA
  simp only [hsx] at HFX HRX HWX ⊢
  rw [hGe, hKe, hoe]
  clear h hT hqx hz heX hl hfX hwX hGe hKe hoe hsx hM
  go_enter Tryd.func6, Tryd.ntmps6
  go_wp2_with fail
  have hA := Arr.new w #[.slice ga G gc, .int .i64 o, .slice ka K kc] 36
  have hB1 : Below w.heap.size w (w.alloc (.cells #[.slice ga G gc, .int .i64 o, .slice ka K kc] 36)) := (Below.refl _ _).alloc (Nat.le_refl _) _
  obtain ⟨w1, hw1⟩ : ∃ W, w.alloc (.cells #[.slice ga G gc, .int .i64 o, .slice ka K kc] 36) = W := ⟨_, rfl⟩
  rw [hw1] at hA hB1 ⊢
  obtain ⟨g, hg⟩ : ∃ g, w.heap.size = g := ⟨_, rfl⟩
  have HGW := Lib.hid hg
  rw [hg] at hA ⊢
  have HA1 := Lib.hid hA
  have HB1 := Lib.hid hB1
  clear hw1 hA hB1 hg
  refine (HSN.out w1 HB1.out).mono ?_
  rintro e w2 ⟨rfl, hb⟩
  have HA2 := Lib.hid (HA1.out.below hb (HA1.out.lt (by simp)))
  have HB2 := Lib.hid (HB1.out.trans (hb.mono HB1.out.size))
  clear hb
  have c0 := HA2.out.cell (i := 0) rfl
  have c1 := HA2.out.cell (i := 1) rfl
  have c2 := HA2.out.cell (i := 2) rfl
  go_wp2_with fail
  refine (HFX.out w2 HB2.out).mono ?_
  rintro e w3 ⟨rfl, hb⟩
  have HA3 := Lib.hid (HA2.out.below hb (HA2.out.lt (by simp)))
  have HB3 := Lib.hid (HB2.out.trans (hb.mono HB2.out.size))
  clear hb c0 c1 c2
  cases qx with
  | false =>
    go_wp2
    go_ret
    exact ⟨rfl, HB3.out⟩
  | true =>
    clear HSN HFX
    have c0 := HA3.out.cell (i := 0) rfl
    have c1 := HA3.out.cell (i := 1) rfl
    have c2 := HA3.out.cell (i := 2) rfl
    go_wp2_with fail
    refine (HRC.out w3 HB3.out).mono ?_
    rintro e w4 ⟨rfl, hb⟩
    have HA4 := Lib.hid (HA3.out.below hb (HA3.out.lt (by simp)))
    have HB4 := Lib.hid (HB3.out.trans (hb.mono HB3.out.size))
    clear hb c0 c1 c2
    by_cases hz : z = 0
    · subst hz
      have HNUM2 := Lib.hid (HNUM.out rfl)
      have HNO2 := Lib.hid (HNO.out rfl)
      have HO12 := Lib.hid (HO1.out rfl)
      have HO22 := Lib.hid (HO2.out rfl)
      have HOB2 := Lib.hid (HOB.out rfl)
      have HOA2 := Lib.hid (HOA.out rfl)
      clear HNUM HNO HO1 HO2 HOB HOA
      go_wp2_with fail
      refine (HRX.out w4 HB4.out).mono ?_
      rintro e w5 ⟨vx, rfl, ho, hb⟩
      have HA5 := Lib.hid (HA4.out.below hb (HA4.out.lt (by simp)))
      have HB5 := Lib.hid (HB4.out.trans (hb.mono HB4.out.size))
      have HIX5 := Lib.hid (IRow.of_own ho)
      rw [HM.out] at ho
      obtain ⟨la, lc, rfl⟩ := own_slice ho
      clear ho hb
      have c0 := HA5.out.cell (i := 0) rfl
      have c1 := HA5.out.cell (i := 1) rfl
      have c2 := HA5.out.cell (i := 2) rfl
      go_wp2_with fail
      refine (HWX.out w5 HB5.out).mono ?_
      rintro e w6 ⟨rfl, hb⟩
      have HA6 := Lib.hid (HA5.out.below hb (HA5.out.lt (by simp)))
      have HB6 := Lib.hid (HB5.out.trans (hb.mono HB5.out.size))
      have HIX6 := Lib.hid (HIX5.out.next hb)
      clear hb c0 c1 c2 HIX5
      by_cases hx : eX = 0
      · subst hx
        obtain ⟨rfl, hwx, hM4, hbx⟩ := HNUM2.out rfl
        have HOA3 := Lib.hid (HOA2.out rfl)
        have HOKK := Lib.hid (HOK.out rfl)
        have HBX := Lib.hid hbx
        have HWX2 := Lib.hid hwx
        clear hbx HOA2 HOK HNUM2
        by_cases hM2 : M < 2
        · have d : decide ((M : Int) < 2) = true := by simp; omega
          have c0 := HA6.out.cell (i := 0) rfl
          have c1 := HA6.out.cell (i := 1) rfl
          have c2 := HA6.out.cell (i := 2) rfl
          have HOA4 := Lib.hid (HOA3.out w6 HB6.out _ HIX6.out)
          rw [← HWX2.out] at HOA4
          have hcs : (((M : Int) == 1) = true ∧ (M == 1) = true) ∨ ((((M : Int) == 1) = false ∧ (M == 1) = false) ∧ (wX == 0) = true) := by
            by_cases h : M = 1
            · exact .inl ⟨by simp; omega, by simp; omega⟩
            · refine .inr ⟨⟨by simp; omega, by simp; omega⟩, ?_⟩
              have h0 : M = 0 := by omega
              rw [HWX2.out, h0]; rfl
          clear hM2 hwx
          rcases hcs with ⟨e1, e2⟩ | ⟨⟨e1, e2⟩, e3⟩
          all_goals
            go_wp2_with fail
            refine HOA4.out.mono ?_
            rintro e w7 ⟨rfl, hb⟩
            have HB7 := Lib.hid (HB6.out.trans (hb.mono HB6.out.size))
            clear hb
            go_wp2
            go_ret
            exact ⟨by simp, HB7.out⟩
        · have d : decide ((M : Int) < 2) = false := by simp; omega
          have hs0 : sumP f l M 1 = 0 := sumP_one f l M (by omega)
          have HS0 := Lib.hid hs0
          clear hs0 hwx
          go_wp2
          go_loopw [11, 12] (fun s11 s12 wr => ∃ i : Nat, s12 = .int .i64 (i : Int) ∧ s11 = .int .i64 (sumP f l M i) ∧ 1 ≤ i ∧ i ≤ M ∧ Hid (Below w6.heap.size w6 wr)) (fun _ s12 _ => M - (intOf s12).toNat)
          case atStart => exact ⟨1, rfl, by rw [HS0.out], by omega, by omega, Lib.hid (Below.refl _ _)⟩
          case round =>
            obtain ⟨i, rfl, rfl, hi1, hiM, HB⟩ := hrel
            obtain ⟨sm, hsm⟩ : ∃ z, sumP f l M i = z := ⟨_, rfl⟩
            have HSM := Lib.hid hsm
            rw [hsm]
            by_cases hlt : i < M
            · skip
              have dk : decide ((i : Int) < (M : Int)) = true := by simp; omega
              have dkn : decide (i < M) = true := by simp; omega
              have hAr := HA6.out.below HB.out (HA6.out.lt (by simp))
              have c0 := hAr.cell (i := 0) rfl
              have c1 := hAr.cell (i := 1) rfl
              have c2 := hAr.cell (i := 2) rfl
              have HLC : Hid (g < wr.heap.size) := Lib.hid (World.block_lt_of_cell? _ _ c0)
              have HBW : Hid (Below w.heap.size w wr) := Lib.hid (HB6.out.trans (HB.out.mono HB6.out.size))
              obtain ⟨xb, xo, rfl, cp⟩ := irow_cell (HIX6.out.next HB.out) HM.out (j := i - 1) (by omega)
              obtain ⟨xb', xo', exx, ci⟩ := irow_cell (HIX6.out.next HB.out) HM.out (j := i) (by omega)
              injection exx with exx
              injection exx with ex1 ex2
              subst ex1; subst ex2
              have hmp : l.getD (i - 1) 0 ∈ l := by
                have e : l.getD (i - 1) 0 = l[i - 1]'(by rw [HM.out]; omega) := by simp [List.getD, List.getElem?_eq_getElem (show i - 1 < l.length by rw [HM.out]; omega)]
                rw [e]; exact List.getElem_mem _
              have hmr : l.getD i 0 ∈ l := by
                have e : l.getD i 0 = l[i]'(by rw [HM.out]; omega) := by simp [List.getD, List.getElem?_eq_getElem (show i < l.length by rw [HM.out]; omega)]
                rw [e]; exact List.getElem_mem _
              have hst := sumP_step f l M i hi1 hlt
              have hnx := sumP_next f l M i
              rw [hsm] at hst
              have hokp := HOKK.out _ hmp
              have hokr := HOKK.out _ hmr
              obtain ⟨p, hp⟩ : ∃ z, l.getD (i - 1) 0 = z := ⟨_, rfl⟩
              obtain ⟨r, hr⟩ : ∃ z, l.getD i 0 = z := ⟨_, rfl⟩
              rw [hp] at cp hokp
              rw [hr] at ci hokr
              rw [hp, hr] at hst
              rw [hr] at hnx
              have H2 := Lib.hid (HO22.out p r hokp hokr)
              have H1 := Lib.hid (HO12.out r hokr)
              have o1 := (HOB2.out p r).1
              have o2 := (HOB2.out r r).1
              have o3 := (HOB2.out p r).2
              have b1 := HBX.out (i + 1)
              have b2 := HBX.out i
              have hpw : pairW f p r = oneW f p + oneW f r - nearW f p r := rfl
              obtain ⟨two, h2⟩ : ∃ z, pairW f p r = z := ⟨_, rfl⟩
              obtain ⟨one, h3⟩ : ∃ z, oneW f r = z := ⟨_, rfl⟩
              obtain ⟨wn, h4⟩ : ∃ z, wdt f l (i + 1) = z := ⟨_, rfl⟩
              rw [h2] at hst hpw
              rw [h3] at hnx o2 hpw
              rw [h4] at hst hnx b1
              simp only [h2] at H2
              simp only [h3] at H1
              have hsmb : sm = wn - two := by omega
              have wr1 : IntKind.i64.wrap (sm + two) = sm + two := by rw [IntKind.wrap_i64]; omega
              have wr2 : IntKind.i64.wrap (sm + two - one) = sm + two - one := by rw [IntKind.wrap_i64]; omega
              have wr3 : IntKind.i64.wrap ((i : Int) + 1) = (i : Int) + 1 := by rw [IntKind.wrap_i64]; omega
              have sub1 : (i : Int) - 1 = ((i - 1 : Nat) : Int) := by omega
              have sub2 : IntKind.i64.wrap ((i - 1 : Nat) : Int) = ((i - 1 : Nat) : Int) := by rw [IntKind.wrap_i64]; omega
              have sub3 : ((i - 1 : Nat) : Int) < (M : Int) := by omega
              have HLX : Hid (xb < wr.heap.size) := Lib.hid (World.block_lt_of_cell? _ _ cp)
              have HST := Lib.hid hst
              have HNX := Lib.hid hnx
              clear hAr hmp hmr hst hnx hokp hokr hp hr o1 o2 o3 b1 b2 hpw h2 h3 h4 hsmb hsm
              go_wp2_with fail
              refine wp_region_ends (fun W => Kept wr W) (by kernel_rfl) (Kept.drew (Kept.refl wr)) (fun KR hKR hHeld => ?_)
              refine wpAnyH_take (i := 0) (oi := p18_0) (v := ?_) rfl (by kernel_rfl) (by kernel_rfl) (by kernel_rfl) (fun _ _ _ h => h) (Or.inl ⟨by rfl, ?_⟩) hHeld ?_
              rotate_left
              · (intro w hSw; (try dsimp only at hSw); have q0 := (hSw.cell HLC.out).trans c0; have q1 := (hSw.cell HLC.out).trans c1; have q2 := (hSw.cell HLC.out).trans c2; unfold p18_0; go_simp <;> with_reducible rfl)
              try simp only [p18_0, Act.put, List.setIfInBounds_toArray, List.set_cons_zero, List.set_cons_succ]
              refine wpAnyH_take (i := 1) (oi := p18_1) (v := ?_) rfl (by kernel_rfl) (by kernel_rfl) (by kernel_rfl) (fun _ _ _ h => h) (Or.inl ⟨by rfl, ?_⟩) hHeld ?_
              rotate_left
              · (intro w hSw; (try dsimp only at hSw); unfold p18_1; go_simp <;> with_reducible rfl)
              try simp only [p18_1, Act.put, List.setIfInBounds_toArray, List.set_cons_zero, List.set_cons_succ]
              refine wpAnyH_take (i := 2) (oi := p18_2) (v := ?_) rfl (by kernel_rfl) (by kernel_rfl) (by kernel_rfl) (fun _ _ _ h => h) (Or.inl ⟨by rfl, ?_⟩) hHeld ?_
              rotate_left
              · (intro w hSw; (try dsimp only at hSw); unfold p18_2; go_simp <;> with_reducible rfl)
              try simp only [p18_2, Act.put, List.setIfInBounds_toArray, List.set_cons_zero, List.set_cons_succ]
              refine wpAnyH_take (i := 3) (oi := p18_3) (v := ?_) rfl (by kernel_rfl) (by kernel_rfl) (by kernel_rfl) (fun _ _ _ h => h) (Or.inl ⟨by rfl, ?_⟩) hHeld ?_
              rotate_left
              · (intro w hSw; (try dsimp only at hSw); unfold p18_3; go_simp <;> with_reducible rfl)
              try simp only [p18_3, Act.put, List.setIfInBounds_toArray, List.set_cons_zero, List.set_cons_succ]
              refine wpAnyH_take (i := 4) (oi := p18_4) (v := ?_) rfl (by kernel_rfl) (by kernel_rfl) (by kernel_rfl) (fun _ _ _ h => h) (Or.inl ⟨by rfl, ?_⟩) hHeld ?_
              rotate_left
              · (intro w hSw; (try dsimp only at hSw); unfold p18_4; go_simp <;> with_reducible rfl)
              try simp only [p18_4, Act.put, List.setIfInBounds_toArray, List.set_cons_zero, List.set_cons_succ]
              refine wpAnyH_take (i := 5) (oi := p18_5) (v := ?_) rfl (by kernel_rfl) (by kernel_rfl) (by kernel_rfl) (fun _ _ _ h => h) (Or.inl ⟨by rfl, ?_⟩) hHeld ?_
              rotate_left
              · (intro w hSw; (try dsimp only at hSw); have q3 := (hSw.cell HLX.out).trans cp; unfold p18_5; go_simp <;> with_reducible rfl)
              try simp only [p18_5, Act.put, List.setIfInBounds_toArray, List.set_cons_zero, List.set_cons_succ]
              refine wpAnyH_take (i := 6) (oi := p18_6) (v := ?_) rfl (by kernel_rfl) (by kernel_rfl) (by kernel_rfl) (fun _ _ _ h => h) (Or.inl ⟨by rfl, ?_⟩) hHeld ?_
              rotate_left
              · (intro w hSw; (try dsimp only at hSw); unfold p18_6; go_simp <;> with_reducible rfl)
              try simp only [p18_6, Act.put, List.setIfInBounds_toArray, List.set_cons_zero, List.set_cons_succ]
              refine wpAnyH_take (i := 7) (oi := p18_7) (v := ?_) rfl (by kernel_rfl) (by kernel_rfl) (by kernel_rfl) (fun _ _ _ h => h) (Or.inl ⟨by rfl, ?_⟩) hHeld ?_
              rotate_left
              · (intro w hSw; (try dsimp only at hSw); unfold p18_7; go_simp <;> with_reducible rfl)
              try simp only [p18_7, Act.put, List.setIfInBounds_toArray, List.set_cons_zero, List.set_cons_succ]
              refine wpAnyH_take (i := 8) (oi := p18_8) (v := ?_) rfl (by kernel_rfl) (by kernel_rfl) (by kernel_rfl) (fun _ _ _ h => h) (Or.inl ⟨by rfl, ?_⟩) hHeld ?_
              rotate_left
              · (intro w hSw; (try dsimp only at hSw); unfold p18_8; go_simp <;> with_reducible rfl)
              try simp only [p18_8, Act.put, List.setIfInBounds_toArray, List.set_cons_zero, List.set_cons_succ]
              refine wpAnyH_take (i := 9) (oi := p18_9) (v := ?_) rfl (by kernel_rfl) (by kernel_rfl) (by kernel_rfl) (fun _ _ _ h => h) (Or.inl ⟨by rfl, ?_⟩) hHeld ?_
              rotate_left
              · (intro w hSw; (try dsimp only at hSw); have q4 := (hSw.cell HLX.out).trans ci; unfold p18_9; go_simp <;> with_reducible rfl)
              try simp only [p18_9, Act.put, List.setIfInBounds_toArray, List.set_cons_zero, List.set_cons_succ]
              refine wpAnyH_ready (rs := [10]) (by kernel_rfl) (by simp) ?_
              refine AllReadyH.cons (o := p18_10) rfl (fun K hK => ?_) AllReadyH.nil
              rw [if_pos (by rfl)]
              unfold p18_10
              refine wp_buildSlice_run 26 2 [(0, .tmp 86), (1, .tmp 90)] rfl [(0, .int .i64 p), (1, .int .i64 r)] _ (by rfl) (bs2_26 _ _ _) ?_
              refine hK.out _ _ (hHeld.alloc _) (fun hHeld => ?_)
              clear hK K
              try simp only [Act.put, List.setIfInBounds_toArray, List.set_cons_zero, List.set_cons_succ]
              refine wpAnyH_ready (rs := [11]) (by kernel_rfl) (by simp) ?_
              refine AllReadyH.cons (o := p18_11) rfl (fun K hK => ?_) AllReadyH.nil
              rw [if_pos (by rfl)]
              unfold p18_11
              go_simp
              (with_reducible refine (H2.out wr HBW.out).mono ?_)
              rintro e w8 ⟨rfl, hbz⟩
              have hS := hHeld.next hbz
              go_wp2_with fail
              refine hK.out _ _ hS (fun hHeld => ?_)
              clear hK K
              try simp only [p18_11, Act.put, List.setIfInBounds_toArray, List.set_cons_zero, List.set_cons_succ]
              refine wpAnyH_take (i := 12) (oi := p18_12) (v := ?_) rfl (by kernel_rfl) (by kernel_rfl) (by kernel_rfl) (fun _ _ _ h => h) (Or.inl ⟨by rfl, ?_⟩) hHeld ?_
              rotate_left
              · (intro w hSw; (try dsimp only at hSw); unfold p18_12; go_simp <;> with_reducible rfl)
              try simp only [p18_12, Act.put, List.setIfInBounds_toArray, List.set_cons_zero, List.set_cons_succ]
              refine wpAnyH_take (i := 13) (oi := p18_13) (v := ?_) rfl (by kernel_rfl) (by kernel_rfl) (by kernel_rfl) (fun _ _ _ h => h) (Or.inl ⟨by rfl, ?_⟩) hHeld ?_
              rotate_left
              · (intro w hSw; (try dsimp only at hSw); unfold p18_13; go_simp <;> with_reducible rfl)
              try simp only [p18_13, Act.put, List.setIfInBounds_toArray, List.set_cons_zero, List.set_cons_succ]
              refine wpAnyH_take (i := 14) (oi := p18_14) (v := ?_) rfl (by kernel_rfl) (by kernel_rfl) (by kernel_rfl) (fun _ _ _ h => h) (Or.inl ⟨by rfl, ?_⟩) hHeld ?_
              rotate_left
              · (intro w hSw; (try dsimp only at hSw); unfold p18_14; go_simp <;> with_reducible rfl)
              try simp only [p18_14, Act.put, List.setIfInBounds_toArray, List.set_cons_zero, List.set_cons_succ]
              refine wpAnyH_take (i := 15) (oi := p18_15) (v := ?_) rfl (by kernel_rfl) (by kernel_rfl) (by kernel_rfl) (fun _ _ _ h => h) (Or.inl ⟨by rfl, ?_⟩) hHeld ?_
              rotate_left
              · (intro w hSw; (try dsimp only at hSw); unfold p18_15; go_simp <;> with_reducible rfl)
              try simp only [p18_15, Act.put, List.setIfInBounds_toArray, List.set_cons_zero, List.set_cons_succ]
              refine wpAnyH_take (i := 16) (oi := p18_16) (v := ?_) rfl (by kernel_rfl) (by kernel_rfl) (by kernel_rfl) (fun _ _ _ h => h) (Or.inl ⟨by rfl, ?_⟩) hHeld ?_
              rotate_left
              · (intro w hSw; (try dsimp only at hSw); unfold p18_16; go_simp <;> with_reducible rfl)
              try simp only [p18_16, Act.put, List.setIfInBounds_toArray, List.set_cons_zero, List.set_cons_succ]
              refine wpAnyH_done (by kernel_rfl) ?_ _
              refine hKR _ _ ?_
              have HX8 : Hid (Below wr.heap.size wr w8) := Lib.hid hHeld.below
              have HB8 : Hid (Below w6.heap.size w6 w8) := Lib.hid (HB.out.trans (hHeld.below.mono HB.out.size))
              have HBW8 : Hid (Below w.heap.size w w8) := Lib.hid (HB6.out.trans (HB8.out.mono HB6.out.size))
              have c0 := (hHeld.cell HLC.out).trans c0
              have c1 := (hHeld.cell HLC.out).trans c1
              have c2 := (hHeld.cell HLC.out).trans c2
              have ci := (hHeld.cell HLX.out).trans ci
              have HLC8 : Hid (g < w8.heap.size) := Lib.hid (World.block_lt_of_cell? _ _ c0)
              have HLX8 : Hid (xb < w8.heap.size) := Lib.hid (World.block_lt_of_cell? _ _ ci)
              clear hHeld hS hbz cp
              by_cases hlast : i + 1 = M
              · have dl : decide ((i : Int) + 1 < (M : Int)) = false := by simp; omega
                have hfin : sumP f l M (i + 1) = sm + two := by rw [HNX.out, if_pos hlast, ← HST.out]
                have HFIN := Lib.hid hfin
                clear hfin hlast
                go_wp2
                go_roundw
                case rel => exact ⟨i + 1, by go_num, by rw [HFIN.out], by omega, by omega, HB8⟩
                case measure => simp [intOf]; omega
              · have dl : decide ((i : Int) + 1 < (M : Int)) = true := by simp; omega
                have hfin : sumP f l M (i + 1) = sm + two - one := by rw [HNX.out, if_neg hlast, ← HST.out]
                have HFIN := Lib.hid hfin
                clear hfin
                go_wp2_with fail
                refine wp_region_ends (fun W => Kept w8 W) (by kernel_rfl) (Kept.drew (Kept.refl w8)) (fun KR hKR hHeld => ?_)
                refine wpAnyH_take (i := 0) (oi := p23_0) (v := ?_) rfl (by kernel_rfl) (by kernel_rfl) (by kernel_rfl) (fun _ _ _ h => h) (Or.inl ⟨by rfl, ?_⟩) hHeld ?_
                rotate_left
                · (intro w hSw; (try dsimp only at hSw); have q0 := (hSw.cell HLC8.out).trans c0; have q1 := (hSw.cell HLC8.out).trans c1; have q2 := (hSw.cell HLC8.out).trans c2; unfold p23_0; go_simp <;> with_reducible rfl)
                try simp only [p23_0, Act.put, List.setIfInBounds_toArray, List.set_cons_zero, List.set_cons_succ]
                refine wpAnyH_take (i := 1) (oi := p23_1) (v := ?_) rfl (by kernel_rfl) (by kernel_rfl) (by kernel_rfl) (fun _ _ _ h => h) (Or.inl ⟨by rfl, ?_⟩) hHeld ?_
                rotate_left
                · (intro w hSw; (try dsimp only at hSw); unfold p23_1; go_simp <;> with_reducible rfl)
                try simp only [p23_1, Act.put, List.setIfInBounds_toArray, List.set_cons_zero, List.set_cons_succ]
                refine wpAnyH_take (i := 2) (oi := p23_2) (v := ?_) rfl (by kernel_rfl) (by kernel_rfl) (by kernel_rfl) (fun _ _ _ h => h) (Or.inl ⟨by rfl, ?_⟩) hHeld ?_
                rotate_left
                · (intro w hSw; (try dsimp only at hSw); unfold p23_2; go_simp <;> with_reducible rfl)
                try simp only [p23_2, Act.put, List.setIfInBounds_toArray, List.set_cons_zero, List.set_cons_succ]
                refine wpAnyH_take (i := 3) (oi := p23_3) (v := ?_) rfl (by kernel_rfl) (by kernel_rfl) (by kernel_rfl) (fun _ _ _ h => h) (Or.inl ⟨by rfl, ?_⟩) hHeld ?_
                rotate_left
                · (intro w hSw; (try dsimp only at hSw); unfold p23_3; go_simp <;> with_reducible rfl)
                try simp only [p23_3, Act.put, List.setIfInBounds_toArray, List.set_cons_zero, List.set_cons_succ]
                refine wpAnyH_take (i := 4) (oi := p23_4) (v := ?_) rfl (by kernel_rfl) (by kernel_rfl) (by kernel_rfl) (fun _ _ _ h => h) (Or.inl ⟨by rfl, ?_⟩) hHeld ?_
                rotate_left
                · (intro w hSw; (try dsimp only at hSw); have q4 := (hSw.cell HLX8.out).trans ci; unfold p23_4; go_simp <;> with_reducible rfl)
                try simp only [p23_4, Act.put, List.setIfInBounds_toArray, List.set_cons_zero, List.set_cons_succ]
                refine wpAnyH_ready (rs := [5]) (by kernel_rfl) (by simp) ?_
                refine AllReadyH.cons (o := p23_5) rfl (fun K hK => ?_) AllReadyH.nil
                rw [if_pos (by rfl)]
                unfold p23_5
                refine wp_buildSlice_run 26 1 [(0, .tmp 110)] rfl [(0, .int .i64 r)] _ (by rfl) (bs1_26 _ _) ?_
                refine hK.out _ _ (hHeld.alloc _) (fun hHeld => ?_)
                clear hK K
                try simp only [Act.put, List.setIfInBounds_toArray, List.set_cons_zero, List.set_cons_succ]
                refine wpAnyH_ready (rs := [6]) (by kernel_rfl) (by simp) ?_
                refine AllReadyH.cons (o := p23_6) rfl (fun K hK => ?_) AllReadyH.nil
                rw [if_pos (by rfl)]
                unfold p23_6
                go_simp
                (with_reducible refine (H1.out w8 HBW8.out).mono ?_)
                rintro e w9 ⟨rfl, hbz⟩
                have hS := hHeld.next hbz
                go_wp2_with fail
                refine hK.out _ _ hS (fun hHeld => ?_)
                clear hK K
                try simp only [p23_6, Act.put, List.setIfInBounds_toArray, List.set_cons_zero, List.set_cons_succ]
                refine wpAnyH_take (i := 7) (oi := p23_7) (v := ?_) rfl (by kernel_rfl) (by kernel_rfl) (by kernel_rfl) (fun _ _ _ h => h) (Or.inl ⟨by rfl, ?_⟩) hHeld ?_
                rotate_left
                · (intro w hSw; (try dsimp only at hSw); unfold p23_7; go_simp <;> with_reducible rfl)
                try simp only [p23_7, Act.put, List.setIfInBounds_toArray, List.set_cons_zero, List.set_cons_succ]
                refine wpAnyH_take (i := 8) (oi := p23_8) (v := ?_) rfl (by kernel_rfl) (by kernel_rfl) (by kernel_rfl) (fun _ _ _ h => h) (Or.inl ⟨by rfl, ?_⟩) hHeld ?_
                rotate_left
                · (intro w hSw; (try dsimp only at hSw); unfold p23_8; go_simp <;> with_reducible rfl)
                try simp only [p23_8, Act.put, List.setIfInBounds_toArray, List.set_cons_zero, List.set_cons_succ]
                refine wpAnyH_take (i := 9) (oi := p23_9) (v := ?_) rfl (by kernel_rfl) (by kernel_rfl) (by kernel_rfl) (fun _ _ _ h => h) (Or.inl ⟨by rfl, ?_⟩) hHeld ?_
                rotate_left
                · (intro w hSw; (try dsimp only at hSw); unfold p23_9; go_simp <;> with_reducible rfl)
                try simp only [p23_9, Act.put, List.setIfInBounds_toArray, List.set_cons_zero, List.set_cons_succ]
                refine wpAnyH_take (i := 10) (oi := p23_10) (v := ?_) rfl (by kernel_rfl) (by kernel_rfl) (by kernel_rfl) (fun _ _ _ h => h) (Or.inl ⟨by rfl, ?_⟩) hHeld ?_
                rotate_left
                · (intro w hSw; (try dsimp only at hSw); unfold p23_10; go_simp <;> with_reducible rfl)
                try simp only [p23_10, Act.put, List.setIfInBounds_toArray, List.set_cons_zero, List.set_cons_succ]
                refine wpAnyH_take (i := 11) (oi := p23_11) (v := ?_) rfl (by kernel_rfl) (by kernel_rfl) (by kernel_rfl) (fun _ _ _ h => h) (Or.inl ⟨by rfl, ?_⟩) hHeld ?_
                rotate_left
                · (intro w hSw; (try dsimp only at hSw); unfold p23_11; go_simp <;> with_reducible rfl)
                try simp only [p23_11, Act.put, List.setIfInBounds_toArray, List.set_cons_zero, List.set_cons_succ]
                refine wpAnyH_done (by kernel_rfl) ?_ _
                refine hKR _ _ ?_
                have HB9 : Hid (Below w6.heap.size w6 w9) := Lib.hid (HB8.out.trans (hHeld.below.mono HB8.out.size))
                clear hHeld hS hbz c0 c1 c2 ci
                go_wp2
                go_roundw
                case rel => exact ⟨i + 1, by go_num, by rw [HFIN.out], by omega, by omega, HB9⟩
                case measure => simp [intOf]; omega
            · have hiM2 : i = M := by omega
              have dk : decide ((i : Int) < (M : Int)) = false := by simp; omega
              have dkn : decide (i < M) = false := by simp; omega
              have hfin : sm = wX := by rw [← hsm, hiM2, HWX2.out]; unfold sumP; rw [if_pos rfl]
              have e9 : (sm == wX) = true := by rw [hfin]; simp
              clear hfin hsm hiM2
              go_wp2
              go_ret
              exact ⟨by simp, HB6.out.trans (HB.out.mono HB6.out.size)⟩
      · obtain ⟨hfx, hwx⟩ := HNO2.out hx
        subst hfx; subst hwx
        have d : (fX != 0) = true := by simpa using hx
        clear hx
        go_wp2
        go_ret
        exact ⟨by simp, HB6.out⟩
    · have d : (z != 0) = true := by simpa using hz
      clear hz
      go_wp2
      go_ret
      exact ⟨rfl, HB4.out⟩
end Go.Proofs.YtljgcpfibamdpaaDoor
