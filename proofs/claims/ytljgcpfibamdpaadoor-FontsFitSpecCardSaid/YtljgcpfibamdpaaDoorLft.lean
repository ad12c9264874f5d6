/- The law FontsFitSpec, walked. -/
import Derived.Test.YtljgcpfibamdpaaDoorRft
import Derived.Test.YtljgcpfibamdpaaDoorFsn
namespace Go.Proofs.YtljgcpfibamdpaaDoor
open Go.RowKit

set_option maxRecDepth 100000 in
set_option maxHeartbeats 8000000 in
theorem lawFitSpec (w : World) (v : Value) (f : Fo) (h : FAt w w.heap.size v f) (s : ByteArray) (room : Int) (_hw : (Lit.int .i64 room).wf = true) (hT : UTab w) : Calls Tryd.prog 5 #[v, .string s, .int .i64 room] w fun e w' => e = .returned (.bool true) ∧ Below w.heap.size w w' := by
  obtain ⟨bs, rfl⟩ : ∃ bs, s = str bs := ⟨s.data.toList, (str_of s).symm⟩
  have HSN := Lib.hid (fun W (hW : Below w.heap.size w W) => sane_any W (hT.below hW))
  have HFE := Lib.hid (fun W (hW : Below w.heap.size w W) => rfew_any W v f (h.from hW hW.size) bs)
  have HFT := Lib.hid (fun W (hW : Below w.heap.size w W) => fit_text W v f (h.from hW hW.size) bs room (hT.below hW))
  have HRF := Lib.hid (fun W (hW : Below w.heap.size w W) => rfit_any W v f (h.from hW hW.size) bs room)
  obtain ⟨ga, gc, ka, kc, rfl, -, -, -, -, -, -, -⟩ := h.open
  obtain ⟨q, hq⟩ : ∃ b, fewB f.gs.length f.ks.length bs.length = b := ⟨_, rfl⟩
  obtain ⟨x, hx⟩ : ∃ b, fitR f bs room = b := ⟨_, rfl⟩
  obtain ⟨y, hy⟩ : ∃ b, frE f bs = b := ⟨_, rfl⟩
  simp only [hq] at HFE
  simp only [hx, hy] at HFT HRF
  obtain ⟨x1, x2⟩ := x
  obtain ⟨G, hGe⟩ : ∃ G, f.gs.length = G := ⟨_, rfl⟩
  obtain ⟨K, hKe⟩ : ∃ G, f.ks.length = G := ⟨_, rfl⟩
  obtain ⟨o, hoe⟩ : ∃ G, f.o = G := ⟨_, rfl⟩
  obtain ⟨s, hs⟩ : ∃ s, str bs = s := ⟨_, rfl⟩
  rw [hGe, hKe, hoe] at HFE HFT HRF
  simp only [hs] at HFE HFT HRF ⊢
  rw [hGe, hKe, hoe]
  clear h hT hq hx hy hGe hKe hoe hs
  go_enter Tryd.func5, Tryd.ntmps5
  go_wp2_with fail
  have hA := Arr.new w #[.slice ga G gc, .int .i64 o, .slice ka K kc] 36
  have hB1 : Below w.heap.size w (w.alloc (.cells #[.slice ga G gc, .int .i64 o, .slice ka K kc] 36)) := (Below.refl _ _).alloc (Nat.le_refl _) _
  obtain ⟨w1, hw1⟩ : ∃ W, w.alloc (.cells #[.slice ga G gc, .int .i64 o, .slice ka K kc] 36) = W := ⟨_, rfl⟩
  rw [hw1] at hA hB1 ⊢
  obtain ⟨g, hg⟩ : ∃ g, w.heap.size = g := ⟨_, rfl⟩
  have HGW := Lib.hid hg
  rw [hg] at hA ⊢
  have HA1 := Lib.hid hA
  have HB1 := Lib.hid hB1
  clear hw1 hA hB1 hg
  refine (HSN.out w1 HB1.out).mono ?_
  rintro e w2 ⟨rfl, hb⟩
  have HA2 := Lib.hid (HA1.out.below hb (HA1.out.lt (by simp)))
  have HB2 := Lib.hid (HB1.out.trans (hb.mono HB1.out.size))
  clear hb
  have c0 := HA2.out.cell (i := 0) rfl
  have c1 := HA2.out.cell (i := 1) rfl
  have c2 := HA2.out.cell (i := 2) rfl
  go_wp2_with fail
  refine (HFE.out w2 HB2.out).mono ?_
  rintro e w3 ⟨rfl, hb⟩
  have HA3 := Lib.hid (HA2.out.below hb (HA2.out.lt (by simp)))
  have HB3 := Lib.hid (HB2.out.trans (hb.mono HB2.out.size))
  clear hb c0 c1 c2
  cases q with
  | false =>
    go_wp2
    go_ret
    exact ⟨rfl, HB3.out⟩
  | true =>
    clear HSN
    have c0 := HA3.out.cell (i := 0) rfl
    have c1 := HA3.out.cell (i := 1) rfl
    have c2 := HA3.out.cell (i := 2) rfl
    go_wp2_with fail
    refine (HFT.out w3 HB3.out).mono ?_
    rintro e w4 ⟨rfl, hb⟩
    have HA4 := Lib.hid (HA3.out.below hb (HA3.out.lt (by simp)))
    have HB4 := Lib.hid (HB3.out.trans (hb.mono HB3.out.size))
    clear hb c0 c1 c2
    have c0 := HA4.out.cell (i := 0) rfl
    have c1 := HA4.out.cell (i := 1) rfl
    have c2 := HA4.out.cell (i := 2) rfl
    go_wp2_with fail
    refine (HRF.out w4 HB4.out).mono ?_
    rintro e w5 ⟨rfl, hb⟩
    have HA5 := Lib.hid (HA4.out.below hb (HA4.out.lt (by simp)))
    have HB5 := Lib.hid (HB4.out.trans (hb.mono HB4.out.size))
    clear hb c0 c1 c2
    go_wp2
    go_ret
    exact ⟨by simp, HB5.out⟩
end Go.Proofs.YtljgcpfibamdpaaDoor
