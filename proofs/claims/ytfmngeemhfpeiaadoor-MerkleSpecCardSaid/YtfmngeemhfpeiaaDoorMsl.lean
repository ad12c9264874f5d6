/- MerkleSpec, walked. -/
import Derived.Test.YtfmngeemhfpeiaaDoorRsq
namespace Go.Proofs.YtfmngeemhfpeiaaDoor
open Go.RowKit

theorem mroot_len2 (l : List (List UInt8)) : (mroot l).length = 32 := by
  by_cases h : l = []
  · subst h; unfold mroot; rw [if_pos rfl]; exact tagged_len _ _
  · exact mroot_len l h

set_option maxRecDepth 100000 in
set_option maxHeartbeats 4000000 in
theorem lawMSpec (w : World) (v : Value) (l : List (List UInt8)) (hv : BRows w w.heap.size v l) (i : Int) (_hi : (Lit.int .i64 i).wf = true) (hT : Tab w) (h0 : 0 < w.heap.size) :
    Calls Tryd.prog 3 #[v, .int .i64 i] w fun e w' => e = .returned (.bool true) ∧ Below w.heap.size w w' := by
  have HS := Lib.hid (msane_any w hT h0)
  have HFE := Lib.hid (fun (W : World) (hW : Below w.heap.size w W) => mfew_any W v l (hv.at hW))
  have HPR := Lib.hid (fun (W : World) (hW : Below w.heap.size w W) (hf : fewB l) => prove_any W v l i (hv.at hW) (fun b hb => by have := hf.2 b hb; omega) (hT.below hW h0) (by have := hW.size; omega))
  have HRP := Lib.hid (fun (W : World) (hW : Below w.heap.size w W) (hf : fewB l) => rprove_any W v l i (hv.at hW) (fun b hb => by have := hf.2 b hb; omega))
  have HRO := Lib.hid (fun (W : World) (hW : Below w.heap.size w W) (hf : fewB l) => root_any W v l (hv.at hW) (fun b hb => by have := hf.2 b hb; omega) (by have := hf.1; omega) (hT.below hW h0) (by have := hW.size; omega))
  have HRR := Lib.hid (fun (W : World) (hW : Below w.heap.size w W) (hf : fewB l) => rroot_any W v l (hv.at hW) (fun b hb => by have := hf.2 b hb; omega) (by have := hf.1; omega))
  have hq := fun W : World => dig_eq (mroot l) (mroot l) (mroot_len2 l) (mroot_len2 l) W
  simp only [decide_true, dv_eq] at hq
  obtain ⟨cc, hcc⟩ : ∃ x, cells8 (mroot l) = x := ⟨_, rfl⟩
  rw [hcc] at hq
  simp only [hcc] at HRO HRR
  obtain ⟨a, cap, rfl, hNc, hcm, _⟩ := id hv
  obtain ⟨N, hN⟩ : ∃ N, l.length = N := ⟨_, rfl⟩
  rw [hN] at HFE HPR HRP HRO HRR hNc ⊢
  obtain ⟨E, hE⟩ : ∃ E : Int, (if leafOk (N : Int) i then 0 else 1) = E := ⟨_, rfl⟩
  obtain ⟨P, hP⟩ : ∃ P : List (List UInt8), (if leafOk (N : Int) i then mpath (firsts l) i.toNat else []) = P := ⟨_, rfl⟩
  rw [hE, hP] at HPR HRP
  unfold maxLen at hcm
  clear hv hT hN hE hP hcc
  go_enter Tryd.func3, Tryd.ntmps3
  go_wp2_with fail
  refine HS.out.mono ?_
  rintro e w1 ⟨rfl, hb1⟩
  have HB1 := Lib.hid hb1
  clear hb1
  go_wp2_with fail
  refine (HFE.out w1 HB1.out).mono ?_
  rintro e w1 ⟨B, rfl, hB, rfl⟩
  cases B with
  | false =>
    go_wp2
    go_returns
    exact ⟨rfl, HB1.out⟩
  | true =>
  have HFW := Lib.hid (hB rfl)
  clear hB
  go_wp2_with fail
  refine (HPR.out w1 HB1.out HFW.out).mono ?_
  rintro e w2 ⟨v2, hd2, rfl, hb2⟩
  have HB2 := Lib.hid (HB1.out.trans (hb2.mono HB1.out.size))
  have HD2 := Lib.hid hd2
  clear hb2 hd2
  go_wp2_with fail
  refine (HRP.out w2 HB2.out HFW.out).mono ?_
  rintro e w3 ⟨v3, hd3, rfl, hb3⟩
  have HB3 := Lib.hid (HB2.out.trans (hb3.mono HB2.out.size))
  have HD3 := Lib.hid hd3
  have HD23 := Lib.hid (digs_at HD2.out hb3)
  clear hb3 hd3
  go_wp2_with fail
  refine (HRO.out w3 HB3.out HFW.out).mono ?_
  rintro e w4 ⟨rfl, hb4⟩
  have HB4 := Lib.hid (HB3.out.trans (hb4.mono HB3.out.size))
  have HD24 := Lib.hid (digs_at HD23.out hb4)
  have HD34 := Lib.hid (digs_at HD3.out hb4)
  clear hb4
  go_wp2_with fail
  refine (HRR.out w4 HB4.out HFW.out).mono ?_
  rintro e w5 ⟨rfl, hb5⟩
  have HB5 := Lib.hid (HB4.out.trans (hb5.mono HB4.out.size))
  have HD25 := Lib.hid (digs_at HD24.out hb5)
  have HD35 := Lib.hid (digs_at HD34.out hb5)
  clear hb5
  go_wp2_with fail
  refine (rsame_one w5 v2 v3 P HD25.out HD35.out).mono ?_
  rintro e w6 ⟨rfl, hb6⟩
  have HB6 := Lib.hid (HB5.out.trans (hb6.mono HB5.out.size))
  clear hb6
  go_wp2
  go_returns
  exact ⟨rfl, HB6.out⟩
end Go.Proofs.YtfmngeemhfpeiaaDoor
