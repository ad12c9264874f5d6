/- The law FontsGreatest, walked. -/
import Derived.Test.YtljgcpfibamdpaaDoorRft
import Derived.Test.YtljgcpfibamdpaaDoorFsn
import Derived.Test.YtljgcpfibamdpaaDoorFof
namespace Go.Proofs.YtljgcpfibamdpaaDoor
open Go.RowKit

/-- What fits is the greatest one that does, or nothing. -/
theorem fitS_spec (f : Fo) (l : List Int) (room : Int) : ∀ m : Nat, ∃ n : Nat, (fitS f l room (m + 1)).1 = n ∧ n ≤ m ∧ (fitS f l room (m + 1)).2 = wdt f l n ∧ (∀ j, n < j → j ≤ m → room < wdt f l j) ∧ (room < wdt f l n → n = 0)
  | 0 => by
    show ∃ n : Nat, (if wdt f l 0 ≤ room then (((0 : Nat) : Int), wdt f l 0) else ((0 : Int), (0 : Int))).1 = n ∧ n ≤ 0 ∧ (if wdt f l 0 ≤ room then (((0 : Nat) : Int), wdt f l 0) else ((0 : Int), (0 : Int))).2 = wdt f l n ∧ _
    refine ⟨0, by split <;> rfl, Nat.le_refl _, by split <;> rfl, fun j h1 h2 => by omega, fun _ => rfl⟩
  | m + 1 => by
    have e : fitS f l room (m + 1 + 1) = if wdt f l (m + 1) ≤ room then (((m + 1 : Nat) : Int), wdt f l (m + 1)) else fitS f l room (m + 1) := rfl
    rw [e]
    by_cases h : wdt f l (m + 1) ≤ room
    · rw [if_pos h]
      exact ⟨m + 1, rfl, Nat.le_refl _, rfl, fun j h1 h2 => by omega, fun h2 => by omega⟩
    · rw [if_neg h]
      obtain ⟨n, h1, h2, h3, h4, h5⟩ := fitS_spec f l room m
      refine ⟨n, h1, by omega, h3, fun j h6 h7 => ?_, h5⟩
      by_cases e2 : j = m + 1
      · subst e2; omega
      · exact h4 j h6 (by omega)
theorem encs_take_len (l : List Int) (n : Nat) : (encs (l.take n)).length ≤ (encs l).length := by
  have : encs l = encs (l.take n) ++ encs (l.drop n) := by rw [← encs_app, List.take_append_drop]
  rw [this, List.length_append]; omega
theorem of_take (w : World) (v u : Value) (f : Fo) (l : List Int) (n : Nat) (hn : n ≤ l.length) (h : FAt w w.heap.size v f) (hu : IRow w w.heap.size u (l.take n)) (h0 : f.err = 0) (hok : ∀ x ∈ l, okPt x = true) (hl : (encs l).length ≤ 4096) (hT : UTab w) :
    Calls Tryd.prog 22 #[v, u] w fun e w' => e = .returned (.tuple #[.int .i64 (wdt f l n), .bool true]) ∧ Below w.heap.size w w' := by
  have hl2 : (l.take n).length = n := by rw [List.length_take]; omega
  have := of_any w v u f (l.take n) h hu h0 (List.all_eq_true.2 fun x hx => hok x (List.mem_of_mem_take hx)) (Nat.le_trans (encs_take_len l n) hl) hT
  rw [hl2, wdt_take] at this
  exact this
def g14_0 : Oper := { dst := some 71, op := Go.Op.load 36 (Go.Operand.tmp 3), type := 36, pos := "law.go:152", after := #[], guard := none }
def g14_1 : Oper := { dst := some 72, op := Go.Op.move (Go.Operand.tmp 7), type := 26, pos := "law.go:152", after := #[], guard := none }
def g14_2 : Oper := { dst := some 73, op := Go.Op.move (Go.Operand.tmp 12), type := 3, pos := "law.go:152", after := #[], guard := none }
def g14_3 : Oper := { dst := some 74, op := Go.Op.slice 26 (Go.Operand.tmp 72) none (some (Go.Operand.tmp 73)) none, type := 26, pos := "law.go:152", after := #[{ on := 1, ground := Go.Ground.data }, { on := 2, ground := Go.Ground.data }], guard := none }
def g14_4 : Oper := { dst := some 75, op := Go.Op.call { callee := Go.Callee.value (Go.Operand.func 22), args := #[Go.Operand.tmp 71, Go.Operand.tmp 74], argTypes := #[36, 26] }, type := 43, pos := "law.go:152", after := #[{ on := 0, ground := Go.Ground.data }, { on := 3, ground := Go.Ground.data }], guard := none }
def g14_5 : Oper := { dst := some 70, op := Go.Op.move (Go.Operand.tmp 75), type := 43, pos := "law.go:152", after := #[{ on := 4, ground := Go.Ground.data }], guard := none }
def g14_6 : Oper := { dst := some 76, op := Go.Op.extract (Go.Operand.tmp 70) 0, type := 3, pos := "law.go:152", after := #[{ on := 5, ground := Go.Ground.data }], guard := none }
def g14_7 : Oper := { dst := some 77, op := Go.Op.extract (Go.Operand.tmp 70) 1, type := 4, pos := "law.go:152", after := #[{ on := 5, ground := Go.Ground.data }, { on := 8, ground := Go.Ground.gcOnly Go.Departure.lateStores }], guard := none }
def g14_8 : Oper := { dst := some 13, op := Go.Op.assign (Go.Operand.tmp 76), type := 3, pos := "law.go:152", after := #[{ on := 6, ground := Go.Ground.data }, { on := 4, ground := Go.Ground.chain }, { on := 0, ground := Go.Ground.phase }, { on := 1, ground := Go.Ground.phase }, { on := 2, ground := Go.Ground.phase }, { on := 3, ground := Go.Ground.phase }, { on := 4, ground := Go.Ground.phase }, { on := 5, ground := Go.Ground.phase }, { on := 6, ground := Go.Ground.phase }, { on := 7, ground := Go.Ground.textOnly Go.Departure.lateStores }], guard := none }
def g14_9 : Oper := { dst := some 14, op := Go.Op.assign (Go.Operand.tmp 77), type := 4, pos := "law.go:152", after := #[{ on := 7, ground := Go.Ground.data }, { on := 8, ground := Go.Ground.chain }, { on := 0, ground := Go.Ground.phase }, { on := 1, ground := Go.Ground.phase }, { on := 2, ground := Go.Ground.phase }, { on := 3, ground := Go.Ground.phase }, { on := 4, ground := Go.Ground.phase }, { on := 5, ground := Go.Ground.phase }, { on := 6, ground := Go.Ground.phase }, { on := 7, ground := Go.Ground.phase }, { on := 8, ground := Go.Ground.phase }], guard := none }

set_option maxRecDepth 100000 in
set_option maxHeartbeats 8000000 in
theorem lawGreatest (w : World) (v : Value) (f : Fo) (h : FAt w w.heap.size v f) (s : ByteArray) (room : Int) (_hw : (Lit.int .i64 room).wf = true) (hT : UTab w) : Calls Tryd.prog 8 #[v, .string s, .int .i64 room] w fun e w' => e = .returned (.bool true) ∧ Below w.heap.size w w' := by
  obtain ⟨bs, rfl⟩ : ∃ bs, s = str bs := ⟨s.data.toList, (str_of s).symm⟩
  have HSN := Lib.hid (fun W (hW : Below w.heap.size w W) => sane_any W (hT.below hW))
  have HFE := Lib.hid (fun W (hW : Below w.heap.size w W) => rfew_any W v f (h.from hW hW.size) bs)
  have HRC := Lib.hid (fun W (hW : Below w.heap.size w W) => rcheck_any W v f (h.from hW hW.size))
  have HRN := Lib.hid (fun W (hW : Below w.heap.size w W) => runes_any W bs (hT.below hW))
  have HFT := Lib.hid (fun W (hW : Below w.heap.size w W) => fit_text W v f (h.from hW hW.size) bs room (hT.below hW))
  have HFF : Hid (f.err = 0 → rnsE bs ≠ 0 → fitR f bs room = (0, 0) ∧ frE f bs = rnsE bs) := Lib.hid (fun h0 h1 => by
    have e : frE f bs = rnsE bs := by unfold frE; rw [if_pos h0]
    exact ⟨by unfold fitR; rw [e, if_neg h1], e⟩)
  have HFG : Hid (f.err = 0 → rnsE bs = 0 → ∃ n : Nat, fitR f bs room = ((n : Int), wdt f (rnsV bs) n) ∧ frE f bs = 0 ∧ n ≤ (rnsV bs).length ∧ (∀ j, n < j → j ≤ (rnsV bs).length → room < wdt f (rnsV bs) j) ∧ (room < wdt f (rnsV bs) n → n = 0)) := Lib.hid (fun h0 h1 => by
    have e : frE f bs = 0 := by unfold frE; rw [if_pos h0, h1]
    have e2 : frV f bs = rnsV bs := by unfold frV; rw [if_pos h0]
    obtain ⟨n, h2, h3, h4, h5, h6⟩ := fitS_spec f (rnsV bs) room (rnsV bs).length
    exact ⟨n, by unfold fitR; rw [if_pos e, e2]; exact Prod.ext h2 h4, e, h3, h5, h6⟩)
  have HOF : Hid (f.err = 0 → rnsE bs = 0 → ∀ W, Below w.heap.size w W → ∀ u n, n ≤ (rnsV bs).length → IRow W W.heap.size u ((rnsV bs).take n) → Calls Tryd.prog 22 #[v, u] W fun e w' => e = .returned (.tuple #[.int .i64 (wdt f (rnsV bs) n), .bool true]) ∧ Below W.heap.size W w') := Lib.hid (fun h0 h1 W hW u n hn hu => by
    obtain ⟨q1, q2, q3, q4⟩ := rns_ok h1
    exact of_take W v u f (rnsV bs) n hn (h.from hW hW.size) hu h0 q3 (by rw [← q4]; exact q1) (hT.below hW))
  have HLN : Hid (rnsE bs = 0 → (rnsV bs).length ≤ 4096) := Lib.hid (fun h1 => by
    obtain ⟨q1, q2, q3, q4⟩ := rns_ok h1
    have := (encs_len (rnsV bs)).1
    have h2 := congrArg List.length q4
    omega)
  obtain ⟨ga, gc, ka, kc, rfl, -, -, -, -, -, -, -⟩ := h.open
  obtain ⟨q, hq⟩ : ∃ b, fewB f.gs.length f.ks.length bs.length = b := ⟨_, rfl⟩
  obtain ⟨x, hx⟩ : ∃ b, fitR f bs room = b := ⟨_, rfl⟩
  obtain ⟨y, hy⟩ : ∃ b, frE f bs = b := ⟨_, rfl⟩
  obtain ⟨z, hz⟩ : ∃ b, f.err = b := ⟨_, rfl⟩
  obtain ⟨e9, he9⟩ : ∃ b, rnsE bs = b := ⟨_, rfl⟩
  obtain ⟨l, hl⟩ : ∃ b, rnsV bs = b := ⟨_, rfl⟩
  simp only [hq] at HFE
  simp only [hx, hy] at HFT
  simp only [hz] at HRC
  simp only [he9, hl] at HRN
  simp only [hx, hy, hz, he9] at HFF
  simp only [hx, hy, hz, he9, hl] at HFG
  simp only [hz, he9, hl] at HOF
  simp only [he9, hl] at HLN
  obtain ⟨x1, x2⟩ := x
  obtain ⟨G, hGe⟩ : ∃ G, f.gs.length = G := ⟨_, rfl⟩
  obtain ⟨K, hKe⟩ : ∃ G, f.ks.length = G := ⟨_, rfl⟩
  obtain ⟨o, hoe⟩ : ∃ G, f.o = G := ⟨_, rfl⟩
  obtain ⟨M, hM⟩ : ∃ G, l.length = G := ⟨_, rfl⟩
  have HM := Lib.hid hM
  obtain ⟨s, hs⟩ : ∃ s, str bs = s := ⟨_, rfl⟩
  rw [hGe, hKe, hoe] at HFE HFT HRC HOF
  rw [hM] at HFG HOF HLN
  simp only [hs] at HFE HFT HRN ⊢
  rw [hGe, hKe, hoe]
  clear h hT hq hx hy hz he9 hl hGe hKe hoe hs hM
  go_enter Tryd.func8, Tryd.ntmps8
  go_wp2_with fail
  have hA := Arr.new w #[.slice ga G gc, .int .i64 o, .slice ka K kc] 36
  have hB1 : Below w.heap.size w (w.alloc (.cells #[.slice ga G gc, .int .i64 o, .slice ka K kc] 36)) := (Below.refl _ _).alloc (Nat.le_refl _) _
  obtain ⟨w1, hw1⟩ : ∃ W, w.alloc (.cells #[.slice ga G gc, .int .i64 o, .slice ka K kc] 36) = W := ⟨_, rfl⟩
  rw [hw1] at hA hB1 ⊢
  obtain ⟨g, hg⟩ : ∃ g, w.heap.size = g := ⟨_, rfl⟩
  have HGW := Lib.hid hg
  rw [hg] at hA ⊢
  have HA1 := Lib.hid hA
  have HB1 := Lib.hid hB1
  clear hw1 hA hB1 hg
  refine (HSN.out w1 HB1.out).mono ?_
  rintro e w2 ⟨rfl, hb⟩
  have HA2 := Lib.hid (HA1.out.below hb (HA1.out.lt (by simp)))
  have HB2 := Lib.hid (HB1.out.trans (hb.mono HB1.out.size))
  clear hb
  have c0 := HA2.out.cell (i := 0) rfl
  have c1 := HA2.out.cell (i := 1) rfl
  have c2 := HA2.out.cell (i := 2) rfl
  go_wp2_with fail
  refine (HFE.out w2 HB2.out).mono ?_
  rintro e w3 ⟨rfl, hb⟩
  have HA3 := Lib.hid (HA2.out.below hb (HA2.out.lt (by simp)))
  have HB3 := Lib.hid (HB2.out.trans (hb.mono HB2.out.size))
  clear hb c0 c1 c2
  cases q with
  | false =>
    go_wp2
    go_ret
    exact ⟨rfl, HB3.out⟩
  | true =>
    clear HSN HFE
    have c0 := HA3.out.cell (i := 0) rfl
    have c1 := HA3.out.cell (i := 1) rfl
    have c2 := HA3.out.cell (i := 2) rfl
    go_wp2_with fail
    refine (HRC.out w3 HB3.out).mono ?_
    rintro e w4 ⟨rfl, hb⟩
    have HA4 := Lib.hid (HA3.out.below hb (HA3.out.lt (by simp)))
    have HB4 := Lib.hid (HB3.out.trans (hb.mono HB3.out.size))
    clear hb c0 c1 c2
    by_cases hz : z = 0
    · subst hz
      have HFF2 := Lib.hid (HFF.out rfl)
      have HFG2 := Lib.hid (HFG.out rfl)
      have HOF2 := Lib.hid (HOF.out rfl)
      clear HFF HFG HOF
      go_wp2_with fail
      refine (HRN.out w4 HB4.out).mono ?_
      rintro e w5 ⟨vl, rfl, ho, hb⟩
      have HA5 := Lib.hid (HA4.out.below hb (HA4.out.lt (by simp)))
      have HB5 := Lib.hid (HB4.out.trans (hb.mono HB4.out.size))
      have HO5 := Lib.hid (own_base ho HB4.out.size)
      clear hb
      have c0 := HA5.out.cell (i := 0) rfl
      have c1 := HA5.out.cell (i := 1) rfl
      have c2 := HA5.out.cell (i := 2) rfl
      go_wp2_with fail
      refine (HFT.out w5 HB5.out).mono ?_
      rintro e w6 ⟨rfl, hb⟩
      have HA6 := Lib.hid (HA5.out.below hb (HA5.out.lt (by simp)))
      have HB6 := Lib.hid (HB5.out.trans (hb.mono HB5.out.size))
      have HO6 := Lib.hid (own_after hb HO5.out)
      clear hb c0 c1 c2
      by_cases he : e9 = 0
      · subst he
        obtain ⟨n, hxx, hy, hn, hj, h0⟩ := HFG2.out rfl
        have HOF := Lib.hid (HOF2.out rfl)
        clear HOF2
        injection hxx with e1 e2
        subst e1; subst e2; subst hy
        have hO := HO6.out
        rw [HM.out] at hO
        have HI6 := Lib.hid (IRow.of_own HO6.out)
        obtain ⟨la, lc, rfl⟩ := own_slice hO
        have hcap : M ≤ lc := by obtain ⟨_, _, e, h1, _⟩ := HI6.out; rw [HM.out] at e h1; injection e with e1 e2 e3; omega
        have hM9 : lc ≤ maxLen := by obtain ⟨_, _, e, h1, h2, _⟩ := HI6.out; rw [HM.out] at e; injection e with e1 e2 e3; omega
        unfold maxLen at hM9
        have hM4 := HLN.out rfl
        have d1 : decide ((n : Int) < 0) = false := by simp
        have d2 : decide ((M : Int) < (n : Int)) = false := by simp; omega
        have HJ := Lib.hid hj
        have H0 := Lib.hid h0
        clear hj h0 hO HFF2 HFG2
        go_wp2
        go_loopw [12] (fun s12 wr => ∃ k : Nat, s12 = .int .i64 (k : Int) ∧ k ≤ M + 1 ∧ Hid (Below w6.heap.size w6 wr)) (fun s12 _ => M + 1 - (intOf s12).toNat)
        case atStart => exact ⟨0, rfl, by omega, Lib.hid (Below.refl _ _)⟩
        case round =>
          obtain ⟨k, rfl, hk, HB⟩ := hrel
          by_cases hkM : k ≤ M
          · have dk : decide ((k : Int) ≤ (M : Int)) = true := by simp; omega
            have hAr := HA6.out.below HB.out (HA6.out.lt (by simp))
            have c0 := hAr.cell (i := 0) rfl
            have c1 := hAr.cell (i := 1) rfl
            have c2 := hAr.cell (i := 2) rfl
            have HLC : Hid (g < wr.heap.size) := Lib.hid (World.block_lt_of_cell? _ _ c0)
            have HBW : Hid (Below w.heap.size w wr) := Lib.hid (HB6.out.trans (HB.out.mono HB6.out.size))
            have HIT := Lib.hid (fun A (hA : Below wr.heap.size wr A) => irow_take k hkM (by have := HI6.out.next (HB.out.trans (hA.mono HB.out.size)); exact this) HM.out)
            have HOFk := Lib.hid (fun A (hA : Below wr.heap.size wr A) => HOF.out A (HBW.out.trans (hA.mono HBW.out.size)) _ k hkM (HIT.out A hA))
            have hn0 : (0 : Int) ≤ (k : Int) := by omega
            have hnc : (k : Int) ≤ (lc : Int) := by omega
            have HJk : Hid (n < k → room < wdt f l k) := Lib.hid (fun h => HJ.out k h hkM)
            have HEQ : Hid (k = n → wdt f l k = wdt f l n) := Lib.hid (fun h => by rw [h])
            obtain ⟨x, hx⟩ : ∃ x, wdt f l k = x := ⟨_, rfl⟩
            obtain ⟨y, hy⟩ : ∃ x, wdt f l n = x := ⟨_, rfl⟩
            have HYY := Lib.hid hy
            rw [hx] at HJk
            rw [hx, hy] at HEQ
            simp only [hx] at HOFk
            rw [hy]
            clear hx hy hAr
            go_wp2_with fail
            refine wp_region_ends (fun W => Kept wr W) (by kernel_rfl) (Kept.drew (Kept.refl wr)) (fun KR hKR hHeld => ?_)
            refine wpAnyH_take (i := 0) (oi := g14_0) (v := ?_) rfl (by kernel_rfl) (by kernel_rfl) (by kernel_rfl) (fun _ _ _ h => h) (Or.inl ⟨by rfl, ?_⟩) hHeld ?_
            rotate_left
            · (intro w hSw; (try dsimp only at hSw); have q0 := (hSw.cell HLC.out).trans c0; have q1 := (hSw.cell HLC.out).trans c1; have q2 := (hSw.cell HLC.out).trans c2; unfold g14_0; go_simp <;> with_reducible rfl)
            try simp only [g14_0, Act.put, List.setIfInBounds_toArray, List.set_cons_zero, List.set_cons_succ]
            refine wpAnyH_take (i := 1) (oi := g14_1) (v := ?_) rfl (by kernel_rfl) (by kernel_rfl) (by kernel_rfl) (fun _ _ _ h => h) (Or.inl ⟨by rfl, ?_⟩) hHeld ?_
            rotate_left
            · (intro w hSw; (try dsimp only at hSw); unfold g14_1; go_simp <;> with_reducible rfl)
            try simp only [g14_1, Act.put, List.setIfInBounds_toArray, List.set_cons_zero, List.set_cons_succ]
            refine wpAnyH_take (i := 2) (oi := g14_2) (v := ?_) rfl (by kernel_rfl) (by kernel_rfl) (by kernel_rfl) (fun _ _ _ h => h) (Or.inl ⟨by rfl, ?_⟩) hHeld ?_
            rotate_left
            · (intro w hSw; (try dsimp only at hSw); unfold g14_2; go_simp <;> with_reducible rfl)
            try simp only [g14_2, Act.put, List.setIfInBounds_toArray, List.set_cons_zero, List.set_cons_succ]
            refine wpAnyH_take (i := 3) (oi := g14_3) (v := ?_) rfl (by kernel_rfl) (by kernel_rfl) (by kernel_rfl) (fun _ _ _ h => h) (Or.inl ⟨by rfl, ?_⟩) hHeld ?_
            rotate_left
            · (intro w hSw; (try dsimp only at hSw); unfold g14_3; go_simp <;> with_reducible rfl)
            try simp only [g14_3, Act.put, List.setIfInBounds_toArray, List.set_cons_zero, List.set_cons_succ]
            refine wpAnyH_ready (rs := [4]) (by kernel_rfl) (by simp) ?_
            refine AllReadyH.cons (o := g14_4) rfl (fun K hK => ?_) AllReadyH.nil
            rw [if_pos (by rfl)]
            unfold g14_4
            go_simp
            (with_reducible refine (HOFk.out _ hHeld.below).mono ?_)
            rintro e wz ⟨rfl, hbz⟩
            have hS := hHeld.next hbz
            go_wp2_with fail
            refine hK.out _ _ hS (fun hHeld => ?_)
            clear hK K
            try simp only [g14_4, Act.put, List.setIfInBounds_toArray, List.set_cons_zero, List.set_cons_succ]
            refine wpAnyH_take (i := 5) (oi := g14_5) (v := ?_) rfl (by kernel_rfl) (by kernel_rfl) (by kernel_rfl) (fun _ _ _ h => h) (Or.inl ⟨by rfl, ?_⟩) hHeld ?_
            rotate_left
            · (intro w hSw; (try dsimp only at hSw); unfold g14_5; go_simp <;> with_reducible rfl)
            try simp only [g14_5, Act.put, List.setIfInBounds_toArray, List.set_cons_zero, List.set_cons_succ]
            refine wpAnyH_take (i := 6) (oi := g14_6) (v := ?_) rfl (by kernel_rfl) (by kernel_rfl) (by kernel_rfl) (fun _ _ _ h => h) (Or.inl ⟨by rfl, ?_⟩) hHeld ?_
            rotate_left
            · (intro w hSw; (try dsimp only at hSw); unfold g14_6; go_simp <;> with_reducible rfl)
            try simp only [g14_6, Act.put, List.setIfInBounds_toArray, List.set_cons_zero, List.set_cons_succ]
            refine wpAnyH_take (i := 7) (oi := g14_7) (v := ?_) rfl (by kernel_rfl) (by kernel_rfl) (by kernel_rfl) (fun _ _ _ h => h) (Or.inl ⟨by rfl, ?_⟩) hHeld ?_
            rotate_left
            · (intro w hSw; (try dsimp only at hSw); unfold g14_7; go_simp <;> with_reducible rfl)
            try simp only [g14_7, Act.put, List.setIfInBounds_toArray, List.set_cons_zero, List.set_cons_succ]
            refine wpAnyH_take (i := 8) (oi := g14_8) (v := ?_) rfl (by kernel_rfl) (by kernel_rfl) (by kernel_rfl) (fun _ _ _ h => h) (Or.inl ⟨by rfl, ?_⟩) hHeld ?_
            rotate_left
            · (intro w hSw; (try dsimp only at hSw); unfold g14_8; go_simp <;> with_reducible rfl)
            try simp only [g14_8, Act.put, List.setIfInBounds_toArray, List.set_cons_zero, List.set_cons_succ]
            refine wpAnyH_take (i := 9) (oi := g14_9) (v := ?_) rfl (by kernel_rfl) (by kernel_rfl) (by kernel_rfl) (fun _ _ _ h => h) (Or.inl ⟨by rfl, ?_⟩) hHeld ?_
            rotate_left
            · (intro w hSw; (try dsimp only at hSw); unfold g14_9; go_simp <;> with_reducible rfl)
            try simp only [g14_9, Act.put, List.setIfInBounds_toArray, List.set_cons_zero, List.set_cons_succ]
            refine wpAnyH_done (by kernel_rfl) ?_ _
            refine hKR _ _ ?_
            have HB5 : Hid (Below w6.heap.size w6 wz) := Lib.hid (HB.out.trans (hHeld.below.mono HB.out.size))
            clear hHeld hS hbz c0 c1 c2
            by_cases hnk : n < k
            · have e1 : decide ((n : Int) < (k : Int)) = true := by simp; omega
              have e1n : decide (n < k) = true := by simpa using hnk
              have e2 : decide (x ≤ room) = false := by have := HJk.out hnk; simp; omega
              have e3 : ((k : Int) == (n : Int)) = false := by simp; omega
              have e3n : (k == n) = false := by simp; omega
              have e3d : decide (k = n) = false := by simp; omega
              clear hnk
              go_wp2
              first
                | (refine ⟨⟨k + 1, by go_num, by omega⟩, ?_⟩; simp [intOf]; omega)
                | (refine ⟨⟨k + 1, by go_num, by omega, HB5⟩, ?_⟩; simp [intOf]; omega)
                | (refine ⟨?_, by simp [intOf]; omega⟩; simp; exact ⟨_, _, ⟨k + 1, by go_num, by omega, HB5⟩, rfl, rfl, hn⟩)
                | (go_roundw; (case rel => exact ⟨k + 1, by go_num, by omega, HB5⟩); (case measure => simp [intOf]; omega))
            · have e1 : decide ((n : Int) < (k : Int)) = false := by simp; omega
              have e1n : decide (n < k) = false := by simpa using hnk
              by_cases hkn : k = n
              · have e3 : ((k : Int) == (n : Int)) = true := by simp; omega
                have e3n : (k == n) = true := by simpa using hkn
                have e3d : decide (k = n) = true := by simpa using hkn
                obtain rfl : x = y := HEQ.out hkn
                have e4 : (x != x) = false := by simp
                by_cases hrx : room < x
                · have e5 : decide (room < x) = true := by simpa using hrx
                  have hn9 : n = 0 := H0.out (by rw [HYY.out]; exact hrx)
                  have hx9 : x = 0 := by rw [← HYY.out, hn9]; rfl
                  have e6 : ((n : Int) != 0) = false := by rw [hn9]; rfl
                  have e6n : (n != 0) = false := by rw [hn9]; rfl
                  have e6e : (n == 0) = true := by rw [hn9]; rfl
                  have e6d : decide (n = 0) = true := by rw [hn9]; rfl
                  have e7 : (x != 0) = false := by rw [hx9]; rfl
                  clear hn9 hx9
                  clear hnk hkn hrx
                  go_wp2
                  first
                    | (refine ⟨⟨k + 1, by go_num, by omega⟩, ?_⟩; simp [intOf]; omega)
                    | (refine ⟨⟨k + 1, by go_num, by omega, HB5⟩, ?_⟩; simp [intOf]; omega)
                    | (refine ⟨?_, by simp [intOf]; omega⟩; simp; exact ⟨_, _, ⟨k + 1, by go_num, by omega, HB5⟩, rfl, rfl, hn⟩)
                    | (go_roundw; (case rel => exact ⟨k + 1, by go_num, by omega, HB5⟩); (case measure => simp [intOf]; omega))
                · have e5 : decide (room < x) = false := by simpa using hrx
                  clear hnk hkn hrx
                  go_wp2
                  first
                    | (refine ⟨⟨k + 1, by go_num, by omega⟩, ?_⟩; simp [intOf]; omega)
                    | (refine ⟨⟨k + 1, by go_num, by omega, HB5⟩, ?_⟩; simp [intOf]; omega)
                    | (refine ⟨?_, by simp [intOf]; omega⟩; simp; exact ⟨_, _, ⟨k + 1, by go_num, by omega, HB5⟩, rfl, rfl, hn⟩)
                    | (go_roundw; (case rel => exact ⟨k + 1, by go_num, by omega, HB5⟩); (case measure => simp [intOf]; omega))
              · have e3 : ((k : Int) == (n : Int)) = false := by simp; omega
                have e3n : (k == n) = false := by simpa using hkn
                have e3d : decide (k = n) = false := by simpa using hkn
                clear hnk hkn
                go_wp2
                first
                  | (refine ⟨⟨k + 1, by go_num, by omega⟩, ?_⟩; simp [intOf]; omega)
                  | (refine ⟨⟨k + 1, by go_num, by omega, HB5⟩, ?_⟩; simp [intOf]; omega)
                  | (refine ⟨?_, by simp [intOf]; omega⟩; simp; exact ⟨_, _, ⟨k + 1, by go_num, by omega, HB5⟩, rfl, rfl, hn⟩)
                  | (go_roundw; (case rel => exact ⟨k + 1, by go_num, by omega, HB5⟩); (case measure => simp [intOf]; omega))
          · have dk : decide ((k : Int) ≤ (M : Int)) = false := by simp; omega
            go_wp2
            go_ret
            exact ⟨rfl, HB6.out.trans (HB.out.mono HB6.out.size)⟩
      · obtain ⟨hxx, hyy⟩ := HFF2.out he
        injection hxx with e1 e2
        subst e1; subst e2; subst hyy
        have d : (y != 0) = true := by simpa using he
        clear he
        go_wp2
        go_ret
        exact ⟨by simp, HB6.out⟩
    · have d : (z != 0) = true := by simpa using hz
      clear hz
      go_wp2
      go_ret
      exact ⟨rfl, HB4.out⟩
end Go.Proofs.YtljgcpfibamdpaaDoor
