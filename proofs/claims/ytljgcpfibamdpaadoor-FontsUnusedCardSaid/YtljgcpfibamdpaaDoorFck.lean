/- Fonts: isRight and Check. -/
import Derived.Test.YtljgcpfibamdpaaDoorFri
namespace Go.Proofs.YtljgcpfibamdpaaDoor
open Go.RowKit

set_option maxRecDepth 100000 in
set_option maxHeartbeats 2000000 in
theorem fright_any (w : World) (v : Value) (f : Fo) (h : FAt w w.heap.size v f) : Calls Tryd.prog 39 #[v] w fun e w' => e = .returned (.bool f.right) ∧ Below w.heap.size w w' := by
  obtain ⟨ga, gc, ka, kc, rfl, hg1, hg2, hk1, hk2, _, hg, hk⟩ := h.open
  have HG := Lib.hid (fun W (hW : Below w.heap.size w W) => glyphs_any W _ f.gs (hg.from hW hW.size))
  have HK := Lib.hid (fun W (hW : Below w.heap.size w W) => kerns_any W _ f.ks (hk.from hW hW.size))
  have HO := Lib.hid (fun W => fwidth_any W f.o)
  rw [show f.right = (okGs f.gs && isW f.o && okKs f.ks) from rfl]
  obtain ⟨x, hx⟩ : ∃ x, okGs f.gs = x := ⟨_, rfl⟩
  obtain ⟨y, hy⟩ : ∃ x, isW f.o = x := ⟨_, rfl⟩
  obtain ⟨z, hz⟩ : ∃ x, okKs f.ks = x := ⟨_, rfl⟩
  obtain ⟨N, hN⟩ : ∃ N, f.gs.length = N := ⟨_, rfl⟩
  obtain ⟨M, hM⟩ : ∃ N, f.ks.length = N := ⟨_, rfl⟩
  obtain ⟨o, ho⟩ : ∃ o, f.o = o := ⟨_, rfl⟩
  simp only [hx, hN] at HG ⊢
  simp only [hy] at HO ⊢
  simp only [ho] at HO ⊢
  simp only [hz, hM] at HK ⊢
  clear hx hy hz hN hM ho hg hk h hg1 hg2 hk1 hk2
  cases x with
  | false =>
    go_enter Tryd.func39, Tryd.ntmps39
    go_wp2_with fail
    refine (HG.out _ ((Below.refl _ _).alloc (Nat.le_refl _) _)).mono ?_
    rintro e w1 ⟨rfl, hb⟩
    have HB := Lib.hid (((Below.refl w.heap.size w).alloc (Nat.le_refl _) _).trans (hb.mono (by simp)))
    clear hb
    go_wp2
    go_ret
    exact ⟨by simp, HB.out⟩
  | true =>
    cases y with
    | false =>
      go_enter Tryd.func39, Tryd.ntmps39
      go_wp2_with fail
      refine (HG.out _ ((Below.refl _ _).alloc (Nat.le_refl _) _)).mono ?_
      rintro e w1 ⟨rfl, hb⟩
      have HB := Lib.hid (((Below.refl w.heap.size w).alloc (Nat.le_refl _) _).trans (hb.mono (by simp)))
      have hA := (Arr.new w #[.slice ga N gc, .int .i64 o, .slice ka M kc] 36).below hb (by simp)
      have c1 := hA.cell (i := 1) rfl
      clear hb hA
      go_wp2_with fail
      refine (HO.out _).mono ?_
      rintro e w2 ⟨rfl, hw⟩
      subst hw
      go_wp2
      go_ret
      exact ⟨by simp, HB.out⟩
    | true =>
      go_enter Tryd.func39, Tryd.ntmps39
      go_wp2_with fail
      refine (HG.out _ ((Below.refl _ _).alloc (Nat.le_refl _) _)).mono ?_
      rintro e w1 ⟨rfl, hb⟩
      have HB := Lib.hid (((Below.refl w.heap.size w).alloc (Nat.le_refl _) _).trans (hb.mono (by simp)))
      have hA := (Arr.new w #[.slice ga N gc, .int .i64 o, .slice ka M kc] 36).below hb (by simp)
      have c1 := hA.cell (i := 1) rfl
      have c2 := hA.cell (i := 2) rfl
      clear hb hA
      go_wp2_with fail
      refine (HO.out _).mono ?_
      rintro e w2 ⟨rfl, hw⟩
      subst hw
      go_wp2_with fail
      refine (HK.out _ HB.out).mono ?_
      rintro e w3 ⟨rfl, hb⟩
      have HB3 := Lib.hid (HB.out.trans (hb.mono HB.out.size))
      clear hb
      go_wp2
      go_ret
      exact ⟨by simp, HB3.out⟩
set_option maxRecDepth 100000 in
set_option maxHeartbeats 2000000 in
theorem fcheck_any (w : World) (v : Value) (f : Fo) (h : FAt w w.heap.size v f) : Calls Tryd.prog 18 #[v] w fun e w' => e = .returned (.int .i64 f.err) ∧ Below w.heap.size w w' := by
  have HR0 := Lib.hid (fun W (hW : Below w.heap.size w W) => fright_any W _ f (h.from hW hW.size))
  obtain ⟨ga, gc, ka, kc, rfl, hg1, hg2, hk1, hk2, _, hg, hk⟩ := h.open
  unfold Fo.err
  obtain ⟨N, hN⟩ : ∃ N, f.gs.length = N := ⟨_, rfl⟩
  obtain ⟨M, hM⟩ : ∃ N, f.ks.length = N := ⟨_, rfl⟩
  obtain ⟨o, ho⟩ : ∃ o, f.o = o := ⟨_, rfl⟩
  obtain ⟨r, hr⟩ : ∃ o, f.right = o := ⟨_, rfl⟩
  rw [hN, hM, ho, hr] at HR0
  rw [hN, hM, ho, hr]
  clear hN hM ho hr hg hk h hg1 hg2 hk1 hk2
  by_cases h1 : 1024 < N
  · have d1 : decide (1024 < (N : Int)) = true := by simp; omega
    rw [if_pos (.inl h1)]
    clear h1 HR0
    go_enter Tryd.func18, Tryd.ntmps18
    go_wp2
    go_ret
    exact ⟨rfl, (Below.refl _ _).alloc (Nat.le_refl _) _⟩
  · have d1 : decide (1024 < (N : Int)) = false := by simp; omega
    by_cases h2 : 1024 < M
    · have d2 : decide (1024 < (M : Int)) = true := by simp; omega
      rw [if_pos (.inr h2)]
      clear h1 h2 HR0
      go_enter Tryd.func18, Tryd.ntmps18
      go_wp2
      go_ret
      exact ⟨rfl, (Below.refl _ _).alloc (Nat.le_refl _) _⟩
    · have d2 : decide (1024 < (M : Int)) = false := by simp; omega
      rw [if_neg (by omega)]
      clear h1 h2
      cases r
      all_goals
        go_enter Tryd.func18, Tryd.ntmps18
        go_wp2_with fail
        refine (HR0.out _ ((Below.refl _ _).alloc (Nat.le_refl _) _)).mono ?_
        rintro e w1 ⟨rfl, hb⟩
        have HB := Lib.hid (((Below.refl w.heap.size w).alloc (Nat.le_refl _) _).trans (hb.mono (by simp)))
        clear hb
        go_wp2
        go_ret
        exact ⟨rfl, HB.out⟩
end Go.Proofs.YtljgcpfibamdpaaDoor
