/- Fonts: the laws' own of: the width of code points. -/
import Derived.Test.YtljgcpfibamdpaaDoorFwd
import Derived.Test.YtljgcpfibamdpaaDoorRns
namespace Go.Proofs.YtljgcpfibamdpaaDoor
open Go.RowKit

theorem fw_encs {f : Fo} {l : List Int} (h0 : f.err = 0) (hok : l.all okPt = true) (hl : (encs l).length ≤ 4096) : frE f (encs l) = 0 ∧ frV f (encs l) = l ∧ fwW f (encs l) = wdt f l l.length := by
  obtain ⟨h1, h2⟩ := rns_encs hok hl
  have e1 : frE f (encs l) = 0 := by unfold frE; rw [if_pos h0, h1]
  have e2 : frV f (encs l) = l := by unfold frV; rw [if_pos h0, h2]
  exact ⟨e1, e2, by unfold fwW; rw [if_pos e1, e2]⟩
set_option maxRecDepth 100000 in
set_option maxHeartbeats 4000000 in
theorem of_any (w : World) (v u : Value) (f : Fo) (l : List Int) (h : FAt w w.heap.size v f) (hu : IRow w w.heap.size u l) (h0 : f.err = 0) (hok : l.all okPt = true) (hl : (encs l).length ≤ 4096) (hT : UTab w) :
    Calls Tryd.prog 22 #[v, u] w fun e w' => e = .returned (.tuple #[.int .i64 (wdt f l l.length), .bool true]) ∧ Below w.heap.size w w' := by
  have hlen := (encs_len l).1
  have HJ := Lib.hid (fun W (hW : Below w.heap.size w W) => join_any W u l (hu.next hW) (by omega))
  have HW := Lib.hid (fun W (hW : Below w.heap.size w W) => fwidth_text W v f (h.from hW hW.size) (encs l) (hT.below hW))
  obtain ⟨e1, e2, e3⟩ := fw_encs h0 hok hl
  have j1 : jnE l = 0 := by unfold jnE; rw [hok, if_pos rfl, if_neg (by omega)]
  have j2 := (jn_ok j1).2.2
  simp only [j1, j2] at HJ
  simp only [e1, e3] at HW
  obtain ⟨z, hz⟩ : ∃ z, wdt f l l.length = z := ⟨_, rfl⟩
  obtain ⟨s, hs⟩ : ∃ s, str (encs l) = s := ⟨_, rfl⟩
  simp only [hz, hs] at HW ⊢
  simp only [hs] at HJ
  obtain ⟨la, lc, rfl, -, -, -⟩ := hu
  obtain ⟨ga, gc, ka, kc, rfl, -, -, -, -, -, -, -⟩ := h.open
  obtain ⟨G, hGe⟩ : ∃ G, f.gs.length = G := ⟨_, rfl⟩
  obtain ⟨K, hKe⟩ : ∃ G, f.ks.length = G := ⟨_, rfl⟩
  obtain ⟨o, hoe⟩ : ∃ G, f.o = G := ⟨_, rfl⟩
  obtain ⟨M, hM⟩ : ∃ G, l.length = G := ⟨_, rfl⟩
  rw [hGe, hKe, hoe] at HW
  rw [hM] at HJ
  rw [hGe, hKe, hoe, hM]
  clear h hT h0 hok hl hlen e1 e2 e3 j1 j2 hz hs hGe hKe hoe hM
  go_enter Tryd.func22, Tryd.ntmps22
  go_wp2_with fail
  have hA := Arr.new w #[.slice ga G gc, .int .i64 o, .slice ka K kc] 36
  have hB1 : Below w.heap.size w (w.alloc (.cells #[.slice ga G gc, .int .i64 o, .slice ka K kc] 36)) := (Below.refl _ _).alloc (Nat.le_refl _) _
  obtain ⟨w1, hw1⟩ : ∃ W, w.alloc (.cells #[.slice ga G gc, .int .i64 o, .slice ka K kc] 36) = W := ⟨_, rfl⟩
  rw [hw1] at hA hB1 ⊢
  refine (HJ.out w1 hB1).mono ?_
  rintro e w2 ⟨rfl, hb⟩
  have hA2 := hA.below hb (hA.lt (by simp))
  have HB2 := Lib.hid (hB1.trans (hb.mono hB1.size))
  have c0 := hA2.cell (i := 0) rfl
  have c1 := hA2.cell (i := 1) rfl
  have c2 := hA2.cell (i := 2) rfl
  clear hb hA2 hA hB1 hw1
  go_wp2_with fail
  refine (HW.out w2 HB2.out).mono ?_
  rintro e w3 ⟨rfl, hb⟩
  have HB3 := Lib.hid (HB2.out.trans (hb.mono HB2.out.size))
  clear hb c0 c1 c2
  go_wp2
  go_ret2
  exact ⟨rfl, HB3.out⟩
end Go.Proofs.YtljgcpfibamdpaaDoor
