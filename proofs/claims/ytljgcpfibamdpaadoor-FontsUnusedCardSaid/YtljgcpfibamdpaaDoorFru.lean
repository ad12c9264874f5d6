/- Fonts: the code points that are measured, the iterator made. -/
import Derived.Test.YtljgcpfibamdpaaDoorFbe
import Derived.Test.YtljgcpfibamdpaaDoorRun
namespace Go.Proofs.YtljgcpfibamdpaaDoor
open Go.RowKit

/-- The error of measuring a text, and its code points. -/
def frE (f : Fo) (bs : List UInt8) : Int := if f.err = 0 then rnsE bs else f.err
def frV (f : Fo) (bs : List UInt8) : List Int := if f.err = 0 then rnsV bs else []
theorem err_cases (f : Fo) : f.err = 0 ∨ f.err = 2 ∨ f.err = 110 := by
  unfold Fo.err
  split
  · exact .inr (.inl rfl)
  · split
    · exact .inl rfl
    · exact .inr (.inr rfl)
theorem err_ok {f : Fo} (h : f.err = 0) : f.right = true ∧ f.gs.length ≤ 1024 ∧ f.ks.length ≤ 1024 := by
  unfold Fo.err at h
  split at h
  · cases h
  · split at h
    · rename_i h1 h2
      exact ⟨h2, by omega, by omega⟩
    · cases h
set_option maxRecDepth 100000 in
set_option maxHeartbeats 2000000 in
theorem fruns_any (w : World) (v : Value) (f : Fo) (h : FAt w w.heap.size v f) (bs : List UInt8) (hT : UTab w) :
    Calls Tryd.prog 36 #[v, .string (str bs)] w (RunesPost w (frE f bs) (frV f bs)) := by
  have HC := Lib.hid (fun W (hW : Below w.heap.size w W) => fcheck_any W _ f (h.from hW hW.size))
  have HR := Lib.hid (fun W (hW : Below w.heap.size w W) => runes_any W bs (hT.below hW))
  obtain ⟨ga, gc, ka, kc, rfl, -, -, -, -, -, -, -⟩ := h.open
  unfold frE frV
  have hec := err_cases f
  obtain ⟨z, hz⟩ : ∃ z, f.err = z := ⟨_, rfl⟩
  obtain ⟨zb, hzb⟩ : ∃ z, rnsE bs = z := ⟨_, rfl⟩
  obtain ⟨lb, hlb⟩ : ∃ z, rnsV bs = z := ⟨_, rfl⟩
  obtain ⟨s, hs⟩ : ∃ s, str bs = s := ⟨_, rfl⟩
  rw [hz] at hec
  simp only [hz] at HC ⊢
  simp only [hzb, hlb, hs] at HR ⊢
  obtain ⟨G, hGe⟩ : ∃ G, f.gs.length = G := ⟨_, rfl⟩
  obtain ⟨K, hKe⟩ : ∃ G, f.ks.length = G := ⟨_, rfl⟩
  obtain ⟨o, hoe⟩ : ∃ G, f.o = G := ⟨_, rfl⟩
  rw [hGe, hKe, hoe] at HC
  rw [hGe, hKe, hoe]
  clear h hT hz hzb hlb hs hGe hKe hoe
  by_cases h0 : z = 0
  · subst h0
    rw [if_pos rfl, if_pos rfl]
    go_enter Tryd.func36, Tryd.ntmps36
    go_wp2_with fail
    refine (HC.out _ ((Below.refl _ _).alloc (Nat.le_refl _) _)).mono ?_
    rintro e w1 ⟨rfl, hb⟩
    have HB := Lib.hid (((Below.refl w.heap.size w).alloc (Nat.le_refl _) _).trans (hb.mono (by simp)))
    clear hb hec
    go_wp2_with fail
    refine (HR.out _ HB.out).mono ?_
    rintro e w2 ⟨u, rfl, ho, hb2⟩
    have HO := Lib.hid (own_base ho HB.out.size)
    have HB2 := Lib.hid (HB.out.trans (hb2.mono HB.out.size))
    clear ho hb2
    go_wp2
    go_ret2
    exact ⟨u, rfl, HO.out, HB2.out⟩
  · have d : (z != 0) = true := by simpa using h0
    rw [if_neg h0, if_neg h0]
    clear h0 hec
    go_enter Tryd.func36, Tryd.ntmps36
    go_wp2_with fail
    refine (HC.out _ ((Below.refl _ _).alloc (Nat.le_refl _) _)).mono ?_
    rintro e w1 ⟨rfl, hb⟩
    have HB := Lib.hid (((Below.refl w.heap.size w).alloc (Nat.le_refl _) _).trans (hb.mono (by simp)))
    clear hb
    go_wp2
    go_ret2
    exact ⟨_, rfl, World.ownsRow_nil _ _ _ _, HB.out⟩
theorem beginnings_any (w : World) (a b c : Value) (la : Option Addr) (M lc : Nat) : Calls Tryd.prog 37 #[.agg #[a, b, c], .slice la M lc] w fun e w' =>
    e = .returned (.func (.func 57) #[] #[.pointer (some ⟨w.heap.size, 0, none⟩), .pointer (some ⟨w.heap.size + 1, 0, none⟩)]) ∧ Arr w' w.heap.size [a, b, c] ∧ Arr w' (w.heap.size + 1) [.slice la M lc] ∧ Below w.heap.size w w' ∧ w'.heap.size = w.heap.size + 2 := by
  go_enter Tryd.func37, Tryd.ntmps37
  go_wp2
  go_ret
  have h1 := Arr.new (w.alloc (.cells #[a, b, c] 36)) #[.slice la M lc] 26
  rw [World.size_alloc] at h1
  exact ⟨rfl, (Arr.new w #[a, b, c] 36).alloc (by simp) _, h1, ((Below.refl _ _).alloc (Nat.le_refl _) _).alloc (by simp) _, by simp⟩
end Go.Proofs.YtljgcpfibamdpaaDoor
