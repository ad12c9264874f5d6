/- Fonts, the reference: Fit. -/
import Derived.Test.YtljgcpfibamdpaaDoorRwf
import Derived.Test.YtljgcpfibamdpaaDoorFit
namespace Go.Proofs.YtljgcpfibamdpaaDoor
open Go.RowKit

theorem irow_take {w : World} {B : Nat} {a : Option Addr} {M c : Nat} {l : List Int} (n : Nat) (hn : n ≤ M) (h : IRow w B (.slice a M c) l) (hM : l.length = M) : IRow w B (.slice a n c) (l.take n) := by
  obtain ⟨a', c', e, h1, h2, h3⟩ := h
  injection e with e1 e2 e3
  subst e1; subst e3
  have hl : (l.take n).length = n := by rw [List.length_take]; omega
  refine ⟨a, c, by rw [hl], by omega, h2, ?_⟩
  rcases h3 with h3 | ⟨b, off, h4, h5, h6⟩
  · exact .inl (by rw [h3]; simp)
  · refine .inr ⟨b, off, h4, h5, fun j hj => ?_⟩
    rw [List.getElem_take]
    exact h6 j (by rw [hl] at hj; omega)
theorem wdt_take {f : Fo} {l : List Int} {n : Nat} : wdt f (l.take n) n = wdt f l n :=
  wdt_ext (fun i hi => by simp [List.getD, hi])
theorem rof_take (w : World) (v u : Value) (f : Fo) (l : List Int) (n : Nat) (hn : n ≤ l.length) (h : FAt w w.heap.size v f) (hu : IRow w w.heap.size u (l.take n)) (hright : f.right = true) (hl : l.length ≤ 4096) : Calls Tryd.prog 38 #[v, u] w fun e w' => e = .returned (.int .i64 (wdt f l n)) ∧ Below w.heap.size w w' := by
  have hl2 : (l.take n).length = n := by rw [List.length_take]; omega
  have := rof_any w v u f (l.take n) h hu hright (by omega)
  rw [hl2, wdt_take] at this
  exact this
def f10_0 : Oper := { dst := some 33, op := Go.Op.load 36 (Go.Operand.tmp 3), type := 36, pos := "ref.go:100", after := #[], guard := none }
def f10_1 : Oper := { dst := some 34, op := Go.Op.move (Go.Operand.tmp 10), type := 26, pos := "ref.go:100", after := #[], guard := none }
def f10_2 : Oper := { dst := some 35, op := Go.Op.move (Go.Operand.tmp 12), type := 3, pos := "ref.go:100", after := #[], guard := none }
def f10_3 : Oper := { dst := some 36, op := Go.Op.slice 26 (Go.Operand.tmp 34) none (some (Go.Operand.tmp 35)) none, type := 26, pos := "ref.go:100", after := #[{ on := 1, ground := Go.Ground.data }, { on := 2, ground := Go.Ground.data }], guard := none }
def f10_4 : Oper := { dst := some 37, op := Go.Op.call { callee := Go.Callee.value (Go.Operand.func 38), args := #[Go.Operand.tmp 33, Go.Operand.tmp 36], argTypes := #[36, 26] }, type := 3, pos := "ref.go:100", after := #[{ on := 0, ground := Go.Ground.data }, { on := 3, ground := Go.Ground.data }], guard := none }
def f10_5 : Oper := { dst := some 13, op := Go.Op.assign (Go.Operand.tmp 37), type := 3, pos := "ref.go:100", after := #[{ on := 4, ground := Go.Ground.data }, { on := 4, ground := Go.Ground.chain }, { on := 0, ground := Go.Ground.phase }, { on := 1, ground := Go.Ground.phase }, { on := 2, ground := Go.Ground.phase }, { on := 3, ground := Go.Ground.phase }, { on := 4, ground := Go.Ground.phase }], guard := none }

set_option maxRecDepth 100000 in
set_option maxHeartbeats 8000000 in
theorem rfit_any (w : World) (v : Value) (f : Fo) (h : FAt w w.heap.size v f) (bs : List UInt8) (room : Int) :
    Calls Tryd.prog 21 #[v, .string (str bs), .int .i64 room] w fun e w' => e = .returned (.tuple #[.int .i64 (fitR f bs room).1, .int .i64 (fitR f bs room).2, .int .i64 (frE f bs)]) ∧ Below w.heap.size w w' := by
  have HC := Lib.hid (fun W (hW : Below w.heap.size w W) => rcheck_any W _ f (h.from hW hW.size))
  have HR := Lib.hid (fun W (_ : Below w.heap.size w W) => rrunes_any W bs)
  have HF := Lib.hid h
  obtain ⟨ga, gc, ka, kc, rfl, -, -, -, -, -, -, -⟩ := h.open
  obtain ⟨G, hGe⟩ : ∃ G, f.gs.length = G := ⟨_, rfl⟩
  obtain ⟨K, hKe⟩ : ∃ G, f.ks.length = G := ⟨_, rfl⟩
  obtain ⟨o, hoe⟩ : ∃ G, f.o = G := ⟨_, rfl⟩
  have hec := err_cases f
  unfold fitR frE frV
  by_cases h0 : f.err = 0
  · rw [if_pos h0, if_pos h0]
    obtain ⟨hright, hg1, hk1⟩ := err_ok h0
    simp only [h0] at HC
    by_cases hz : rnsE bs = 0
    · rw [if_pos hz, hz]
      simp only [hz] at HR
      obtain ⟨q1, q2, q3, q4⟩ := rns_ok hz
      have hln : (rnsV bs).length ≤ 4096 := by have := (encs_len (rnsV bs)).1; have h2 := congrArg List.length q4; omega
      obtain ⟨l, hl⟩ : ∃ l, rnsV bs = l := ⟨_, rfl⟩
      simp only [hl] at HR
      rw [hl] at hln ⊢
      have HFS : Hid (∀ n, fitS f l room (n + 1) = if wdt f l n ≤ room then ((n : Int), wdt f l n) else fitS f l room n) := Lib.hid (fun n => rfl)
      have HF0 : Hid (fitS f l room 0 = (0, 0)) := Lib.hid rfl
      have HOF := Lib.hid (fun W (hW : Below w.heap.size w W) (u : Value) (n : Nat) (hn : n ≤ l.length) (hu : IRow W W.heap.size u (l.take n)) => rof_take W _ u f l n hn (HF.out.from hW hW.size) hu hright hln)
      obtain ⟨M, hM⟩ : ∃ z, l.length = z := ⟨_, rfl⟩
      have HM := Lib.hid hM
      rw [hM] at HOF hln
      obtain ⟨res, hres⟩ : ∃ z, fitS f l room (M + 1) = z := ⟨_, rfl⟩
      have HRES := Lib.hid hres
      rw [hM, hres]
      obtain ⟨s, hs⟩ : ∃ s, str bs = s := ⟨_, rfl⟩
      simp only [hs] at HR ⊢
      rw [hGe, hKe, hoe] at HC HOF
      rw [hGe, hKe, hoe]
      clear h h0 hz hl hs hGe hKe hoe HF hright hg1 hk1 hec hres q1 q2 q3 q4 hM
      go_enter Tryd.func21, Tryd.ntmps21
      go_wp2_with fail
      have hA := Arr.new w #[.slice ga G gc, .int .i64 o, .slice ka K kc] 36
      have hB1 : Below w.heap.size w (w.alloc (.cells #[.slice ga G gc, .int .i64 o, .slice ka K kc] 36)) := (Below.refl _ _).alloc (Nat.le_refl _) _
      have hl1 : w.heap.size < (w.alloc (.cells #[.slice ga G gc, .int .i64 o, .slice ka K kc] 36)).heap.size := by simp
      obtain ⟨W1, hW1⟩ : ∃ W, w.alloc (.cells #[.slice ga G gc, .int .i64 o, .slice ka K kc] 36) = W := ⟨_, rfl⟩
      rw [hW1] at hA hB1 hl1 ⊢
      refine (HC.out _ hB1).mono ?_
      rintro e w1 ⟨rfl, hb⟩
      have hA1 := hA.below hb hl1
      have HB1 := Lib.hid (hB1.trans (hb.mono hB1.size))
      have hl2 : w.heap.size < w1.heap.size := Nat.lt_of_lt_of_le hl1 hb.size
      clear hW1 hA hB1 hl1 hb
      go_wp2_with fail
      refine (HR.out _ HB1.out).mono ?_
      rintro e w2 ⟨u, rfl, ho, hb2⟩
      rw [HM.out] at ho
      have HA2 := Lib.hid (hA1.below hb2 hl2)
      have HI := Lib.hid (IRow.of_own (by rw [HM.out]; exact ho))
      have HB2 := Lib.hid (HB1.out.trans (hb2.mono HB1.out.size))
      obtain ⟨la, lc, rfl⟩ := own_slice ho
      have hcap : M ≤ lc := by obtain ⟨_, _, e, h1, _⟩ := HI.out; injection e with e1 e2 e3; omega
      have hl3 : w.heap.size < w2.heap.size := Nat.lt_of_lt_of_le hl2 hb2.size
      obtain ⟨g, hg⟩ : ∃ g, w.heap.size = g := ⟨_, rfl⟩
      have HGW := Lib.hid hg
      have hHL : g < w2.heap.size := by rw [← hg]; exact hl3
      rw [hg] at HA2
      have HL3 := Lib.hid hHL
      rw [hg]
      clear ho hb2 hA1 hl2 hl3 hg hHL
      go_wp2
      go_loopw [12] (fun s12 wr => ∃ (m : Nat) (z : Int), s12 = .int .i64 z ∧ m ≤ M + 1 ∧ z = (m : Int) - 1 ∧ Hid (Below w2.heap.size w2 wr) ∧ Hid (fitS f l room m = res)) (fun s12 _ => (intOf s12 + 1).toNat)
      case atStart => exact ⟨M + 1, (M : Int), rfl, by omega, by omega, Lib.hid (Below.refl _ _), HRES⟩
      case round =>
        obtain ⟨m, z, rfl, hm, hzm, HB, HS⟩ := hrel
        by_cases hm0 : m = 0
        · have dz : decide (0 ≤ z) = false := by simp; omega
          have hr : res = (0, 0) := by rw [← HS.out, hm0, HF0.out]
          have HRR := Lib.hid hr
          clear hr
          go_wp2
          go_ret3
          exact ⟨by rw [HRR.out]; rfl, (HB2.out.trans (HB.out.mono HB2.out.size))⟩
        · obtain ⟨n, rfl⟩ : ∃ n, m = n + 1 := ⟨m - 1, by omega⟩
          obtain rfl : z = (n : Int) := by omega
          have dz : decide (0 ≤ (n : Int)) = true := by simp
          have hAr := HA2.out.below HB.out HL3.out
          have c0 := hAr.cell (i := 0) rfl
          have c1 := hAr.cell (i := 1) rfl
          have c2 := hAr.cell (i := 2) rfl
          have HLC : Hid (g < wr.heap.size) := Lib.hid (World.block_lt_of_cell? _ _ c0)
          have HBW : Hid (Below w.heap.size w wr) := Lib.hid (HB2.out.trans (HB.out.mono HB2.out.size))
          have hnM : n ≤ M := by omega
          have HIT := Lib.hid (fun A (hA : Below wr.heap.size wr A) => irow_take n hnM (HI.out.next (HB.out.trans (hA.mono HB.out.size))) HM.out)
          have HOFn := Lib.hid (fun A (hA : Below wr.heap.size wr A) => HOF.out A (HBW.out.trans (hA.mono HBW.out.size)) _ n hnM (HIT.out A hA))
          have hn0 : (0 : Int) ≤ (n : Int) := by omega
          have hnc : (n : Int) ≤ (lc : Int) := by omega
          have hwrap : IntKind.i64.wrap ((n : Int) - 1) = (n : Int) - 1 := by rw [IntKind.wrap_i64]; omega
          obtain ⟨x, hx⟩ : ∃ x, wdt f l n = x := ⟨_, rfl⟩
          have hfs := HFS.out n
          rw [hx] at hfs
          simp only [hx] at HOFn
          have HFSn := Lib.hid hfs
          clear hx hfs hAr hzm hm0
          go_wp2_with fail
          refine wp_region_ends (fun W => Kept wr W) (by kernel_rfl) (Kept.drew (Kept.refl wr)) (fun KR hKR hHeld => ?_)
          refine wpAnyH_take (i := 0) (oi := f10_0) (v := ?_) rfl (by kernel_rfl) (by kernel_rfl) (by kernel_rfl) (fun _ _ _ h => h) (Or.inl ⟨by rfl, ?_⟩) hHeld ?_
          rotate_left
          · (intro w hSw; (try dsimp only at hSw); have q0 := (hSw.cell HLC.out).trans c0; have q1 := (hSw.cell HLC.out).trans c1; have q2 := (hSw.cell HLC.out).trans c2; unfold f10_0; go_simp <;> with_reducible rfl)
          try simp only [f10_0, Act.put, List.setIfInBounds_toArray, List.set_cons_zero, List.set_cons_succ]
          refine wpAnyH_take (i := 1) (oi := f10_1) (v := ?_) rfl (by kernel_rfl) (by kernel_rfl) (by kernel_rfl) (fun _ _ _ h => h) (Or.inl ⟨by rfl, ?_⟩) hHeld ?_
          rotate_left
          · (intro w hSw; (try dsimp only at hSw); unfold f10_1; go_simp <;> with_reducible rfl)
          try simp only [f10_1, Act.put, List.setIfInBounds_toArray, List.set_cons_zero, List.set_cons_succ]
          refine wpAnyH_take (i := 2) (oi := f10_2) (v := ?_) rfl (by kernel_rfl) (by kernel_rfl) (by kernel_rfl) (fun _ _ _ h => h) (Or.inl ⟨by rfl, ?_⟩) hHeld ?_
          rotate_left
          · (intro w hSw; (try dsimp only at hSw); unfold f10_2; go_simp <;> with_reducible rfl)
          try simp only [f10_2, Act.put, List.setIfInBounds_toArray, List.set_cons_zero, List.set_cons_succ]
          refine wpAnyH_take (i := 3) (oi := f10_3) (v := ?_) rfl (by kernel_rfl) (by kernel_rfl) (by kernel_rfl) (fun _ _ _ h => h) (Or.inl ⟨by rfl, ?_⟩) hHeld ?_
          rotate_left
          · (intro w hSw; (try dsimp only at hSw); unfold f10_3; go_simp <;> with_reducible rfl)
          try simp only [f10_3, Act.put, List.setIfInBounds_toArray, List.set_cons_zero, List.set_cons_succ]
          refine wpAnyH_ready (rs := [4]) (by kernel_rfl) (by simp) ?_
          refine AllReadyH.cons (o := f10_4) rfl (fun K hK => ?_) AllReadyH.nil
          rw [if_pos (by rfl)]
          unfold f10_4
          go_simp
          (with_reducible refine (HOFn.out _ hHeld.below).mono ?_)
          rintro e w4 ⟨rfl, hb4⟩
          have hS := hHeld.next hb4
          go_wp2_with fail
          refine hK.out _ _ hS (fun hHeld => ?_)
          clear hK K
          try simp only [f10_4, Act.put, List.setIfInBounds_toArray, List.set_cons_zero, List.set_cons_succ]
          refine wpAnyH_take (i := 5) (oi := f10_5) (v := ?_) rfl (by kernel_rfl) (by kernel_rfl) (by kernel_rfl) (fun _ _ _ h => h) (Or.inl ⟨by rfl, ?_⟩) hHeld ?_
          rotate_left
          · (intro w hSw; (try dsimp only at hSw); unfold f10_5; go_simp <;> with_reducible rfl)
          try simp only [f10_5, Act.put, List.setIfInBounds_toArray, List.set_cons_zero, List.set_cons_succ]
          refine wpAnyH_done (by kernel_rfl) ?_ _
          refine hKR _ _ ?_
          have HB5 : Hid (Below w2.heap.size w2 w4) := Lib.hid (HB.out.trans (hHeld.below.mono HB.out.size))
          clear hHeld hS hb4 c0 c1 c2
          by_cases hxr : x ≤ room
          · have dx : decide (x ≤ room) = true := by simpa using hxr
            have hr : res = ((n : Int), x) := by rw [← HS.out, HFSn.out, if_pos hxr]
            have HRR := Lib.hid hr
            clear hr hxr
            go_wp2
            go_ret3
            exact ⟨by rw [HRR.out]; rfl, HB2.out.trans (HB5.out.mono HB2.out.size)⟩
          · have dx : decide (x ≤ room) = false := by simpa using hxr
            have HS2 : Hid (fitS f l room n = res) := Lib.hid (by rw [← HS.out, HFSn.out, if_neg hxr])
            clear hxr
            go_wp2
            go_roundw
            case rel => exact ⟨n, (n : Int) - 1, by go_num, by omega, rfl, HB5, HS2⟩
            case measure => simp [intOf]
    · rw [if_neg hz]
      obtain ⟨z, hze⟩ : ∃ z, rnsE bs = z := ⟨_, rfl⟩
      obtain ⟨lv, hlv⟩ : ∃ z, rnsV bs = z := ⟨_, rfl⟩
      simp only [hze, hlv] at HR
      rw [hze] at hz ⊢
      have d : (z != 0) = true := by simpa using hz
      obtain ⟨s, hs⟩ : ∃ s, str bs = s := ⟨_, rfl⟩
      simp only [hs] at HR ⊢
      rw [hGe, hKe, hoe] at HC
      rw [hGe, hKe, hoe]
      clear h h0 hz hze hlv hs hGe hKe hoe HF hright hg1 hk1 hec
      go_enter Tryd.func21, Tryd.ntmps21
      go_wp2_with fail
      have hA := Arr.new w #[.slice ga G gc, .int .i64 o, .slice ka K kc] 36
      have hB1 : Below w.heap.size w (w.alloc (.cells #[.slice ga G gc, .int .i64 o, .slice ka K kc] 36)) := (Below.refl _ _).alloc (Nat.le_refl _) _
      have hl1 : w.heap.size < (w.alloc (.cells #[.slice ga G gc, .int .i64 o, .slice ka K kc] 36)).heap.size := by simp
      obtain ⟨W1, hW1⟩ : ∃ W, w.alloc (.cells #[.slice ga G gc, .int .i64 o, .slice ka K kc] 36) = W := ⟨_, rfl⟩
      rw [hW1] at hA hB1 hl1 ⊢
      refine (HC.out _ hB1).mono ?_
      rintro e w1 ⟨rfl, hb⟩
      have hA1 := hA.below hb hl1
      have HB1 := Lib.hid (hB1.trans (hb.mono hB1.size))
      have hl2 : w.heap.size < w1.heap.size := Nat.lt_of_lt_of_le hl1 hb.size
      clear hW1 hA hB1 hl1 hb
      go_wp2_with fail
      refine (HR.out _ HB1.out).mono ?_
      rintro e w2 ⟨u, rfl, ho, hb2⟩
      have HB2 := Lib.hid (HB1.out.trans (hb2.mono HB1.out.size))
      clear ho hb2 hA1
      go_wp2
      go_ret3
      exact ⟨rfl, HB2.out⟩
  · rw [if_neg h0, if_neg h0]
    obtain ⟨z, hze⟩ : ∃ z, f.err = z := ⟨_, rfl⟩
    simp only [hze] at HC
    rw [hze] at h0 ⊢
    have d : (z != 0) = true := by simpa using h0
    obtain ⟨s, hs⟩ : ∃ s, str bs = s := ⟨_, rfl⟩
    simp only [hs] at HR ⊢
    rw [hGe, hKe, hoe] at HC
    rw [hGe, hKe, hoe]
    clear h h0 hze hs hGe hKe hoe HF hec
    go_enter Tryd.func21, Tryd.ntmps21
    go_wp2_with fail
    have hA := Arr.new w #[.slice ga G gc, .int .i64 o, .slice ka K kc] 36
    have hB1 : Below w.heap.size w (w.alloc (.cells #[.slice ga G gc, .int .i64 o, .slice ka K kc] 36)) := (Below.refl _ _).alloc (Nat.le_refl _) _
    have hl1 : w.heap.size < (w.alloc (.cells #[.slice ga G gc, .int .i64 o, .slice ka K kc] 36)).heap.size := by simp
    obtain ⟨W1, hW1⟩ : ∃ W, w.alloc (.cells #[.slice ga G gc, .int .i64 o, .slice ka K kc] 36) = W := ⟨_, rfl⟩
    rw [hW1] at hA hB1 hl1 ⊢
    refine (HC.out _ hB1).mono ?_
    rintro e w1 ⟨rfl, hb⟩
    have hA1 := hA.below hb hl1
    have HB1 := Lib.hid (hB1.trans (hb.mono hB1.size))
    have hl2 : w.heap.size < w1.heap.size := Nat.lt_of_lt_of_le hl1 hb.size
    clear hW1 hA hB1 hl1 hb
    clear hA1
    go_wp2
    go_ret3
    exact ⟨rfl, HB1.out⟩
end Go.Proofs.YtljgcpfibamdpaaDoor
