/- lex.Text. -/
import Derived.Test.YtdcdldjbdjochaaDoorReq
import Derived.Laws.MakeOwn
namespace Go.Proofs.YtdcdldjbdjochaaDoor
open Go.RowKit

theorem Arr.set {W : World} {b : Nat} {cs : List Value} (h : Arr W b cs) (i : Nat) (v : Value) : Arr (W.setCell ⟨b, i, none⟩ v) b (cs.set i v) := by
  refine ⟨fun j u hu => ?_, fun j hj => ?_⟩
  · rw [Nat.zero_add]
    by_cases e : j = i
    · subst e
      rw [List.getElem?_set] at hu
      simp at hu
      obtain ⟨hj, rfl⟩ := hu
      exact World.cell?_setCell_same _ _ _ (h.cell (List.getElem?_eq_getElem hj))
    · rw [World.cell?_setCell_other _ _ _ _ (fun h => by injection h; first | exact e (by assumption) | exact e (by symm; assumption))]
      rw [List.getElem?_set_ne (fun h => e h.symm)] at hu
      exact h.cell hu
  · rw [List.length_set] at hj
    refine ⟨?_, by rw [World.frozen?_setCell]; exact (h.there j hj).2⟩
    obtain ⟨u, hu⟩ := Option.isSome_iff_exists.1 (h.there j hj).1
    obtain ⟨u', hu'⟩ := cell?_setCell_some (p := ⟨b, i, none⟩) (x := v) hu
    rw [hu']; rfl

def textAll (l : List Tok) : Option (List UInt8) := if l.all validT = true then some (Lib.join (l.map textT) [32]) else none
def mkRow (q : Nat) : Array Value := madeCells (Value.string { data := #[] }).cells (q * 1)
theorem Tryd.info9 : (Tryd.prog.info? 9).map (fun i => (i.zero, i.size, i.bytes)) = some (some (.string { data := #[] }), 1, 16) := by kernel_rfl
theorem run_mk (q : Nat) (hq : q ≤ 1000000000) (W : World) : (Instr.makeSlice 39 (.int .i64 q) (.int .i64 q)).run Tryd.prog W = .ok (.slice (some ⟨W.heap.size, 0, none⟩) q q) (W.alloc (.cells (mkRow q) 9)) := by
  obtain ⟨i0, hi, hz0, hz1, hz2⟩ := info_parts Tryd.info9
  have := run_make (P := Tryd.prog) W 39 9 i0 _ Tryd.underlying39 hi hz0 .i64 .i64 (q : Int) (q : Int) (by omega) (by omega) (by rw [hz2]; omega) (by omega)
  rw [hz1] at this
  simpa [mkRow] using this
theorem mkRow_len (q : Nat) : (mkRow q).toList.length = q := by
  have : (mkRow q).size = q := by unfold mkRow; rw [size_madeCells]; simp
  simpa using this

def TextPost (w : World) (o : Option (List UInt8)) (e : Ending) (w' : World) : Prop := Below w.heap.size w w' ∧ match o with
  | none => e = .returned (.tuple #[.string { data := #[] }, .int .i64 30])
  | some s => e = .returned (.tuple #[.string (str s), .int .i64 0])

theorem all_take {l : List Tok} {N : Nat} (hN : l.length = N) (h : ∀ i (h : i < l.length), i < N → validT l[i] = true) : l.all validT = true := by
  rw [List.all_eq_true]
  intro t ht
  obtain ⟨i, hi, rfl⟩ := List.getElem_of_mem ht
  exact h i hi (by omega)

set_option maxRecDepth 100000 in
set_option maxHeartbeats 4000000 in
theorem text_any (w : World) (v1 : Value) (l : List Tok) (h1 : TRow w w.heap.size v1 l) (hT : Tab w) (hll : l.length ≤ 1000000) (htl : ∀ t ∈ l, t.text.length ≤ 1000000) (hn : ∀ t ∈ l, -9223372036854775808 ≤ t.n ∧ t.n ≤ 9223372036854775807)
    (hjl : (Lib.join (l.map textT) [32]).length ≤ 140737488355328) :
    Calls Tryd.prog 15 #[v1] w (TextPost w (textAll l)) := by
  have H1 := Lib.hid h1
  have HT := Lib.hid hT
  have HTL := Lib.hid htl
  have HNN := Lib.hid hn
  have HJL := Lib.hid hjl
  obtain ⟨a1, c1, rfl, hl1, hm1, _⟩ := h1
  unfold maxLen at hm1
  have hw5 := hT.lt
  obtain ⟨res, hres⟩ : ∃ res, textAll l = res := ⟨_, rfl⟩
  rw [hres]
  have HRES := Lib.hid hres
  obtain ⟨N, hN⟩ : ∃ N, l.length = N := ⟨_, rfl⟩
  have HN := Lib.hid hN
  rw [hN] at hl1 H1 hll ⊢
  have hmk := run_mk N (by omega)
  obtain ⟨w1, hw1⟩ : ∃ w1, w1 = w.alloc (Obj.cells (mkRow N) 9) := ⟨_, rfl⟩
  have hz1 : w1.heap.size = w.heap.size + 1 := by rw [hw1, World.size_alloc]
  have hB1 : Below w.heap.size w w1 := by rw [hw1]; go_grown
  have hA1 : Arr w1 w.heap.size (mkRow N).toList := by rw [hw1]; exact Arr.new _ _ _
  obtain ⟨tb, htb⟩ : ∃ tb, w.heap.size = tb := ⟨_, rfl⟩
  have HW1 := Lib.hid hw1
  have HA1 := Lib.hid (htb ▸ hA1)
  have HB1 := Lib.hid hB1
  clear hT htl hn hjl hres hN hw1 hA1 hB1
  go_enter Tryd.func15, Tryd.ntmps15
  go_wp2_with fail
  rw [← HW1.out]
  go_loopw [5, 6, 12] (fun _ _ i wr => ∃ (j : Nat) (cs : List Value), i = .int .i64 j ∧ j ≤ N ∧ Below w.heap.size w wr ∧ tb < wr.heap.size ∧ Arr wr tb cs ∧ cs.length = N ∧ Hid (∀ i (h : i < l.length), i < j → validT l[i] = true ∧ cs[i]? = some (.string (str (textT l[i]))))) (fun _ _ i _ => N - (intOf i).toNat)
  case atStart => exact ⟨0, _, rfl, by omega, HB1.out, by omega, HA1.out, mkRow_len N, Lib.hid fun i _ h => by omega⟩
  case round =>
    clear HA1 HB1 HW1 hmk
    obtain ⟨j, cs, rfl, hj, hb, htw, harr, hcl, hall⟩ := hrel
    by_cases hlt : j < N
    · have d : decide ((j : Int) < (N : Int)) = true := by simp; omega
      have ji : (j : Int) < (N : Int) := by omega
      have hjl : j < l.length := by rw [HN.out]; exact hlt
      have hb1 := H1.out.below hb
      obtain ⟨b1, o1, rfl, hbl1, p0, p1, p2, p3⟩ := hb1.got j hjl
      have hmem : l[j]'hjl ∈ l := List.getElem_mem _
      have hvc := fun W hW => valid_any W (l[j]'hjl) hW (by have := HTL.out _ hmem; omega)
      have htc := fun W hW => textOf_any W (l[j]'hjl) hW (HNN.out _ hmem)
      unfold Tok.val at hvc htc
      obtain ⟨t, ht⟩ : ∃ t, validT (l[j]'hjl) = t := ⟨_, rfl⟩
      obtain ⟨X, hX⟩ : ∃ X, str (textT (l[j]'hjl)) = X := ⟨_, rfl⟩
      simp only [ht] at hvc
      simp only [hX] at htc
      obtain ⟨k1, e1⟩ : ∃ k, (l[j]'hjl).kind = k := ⟨_, rfl⟩
      obtain ⟨x1, e2⟩ : ∃ k, str (l[j]'hjl).text = k := ⟨_, rfl⟩
      obtain ⟨n1, e3⟩ : ∃ k, (l[j]'hjl).n = k := ⟨_, rfl⟩
      obtain ⟨t1, e4⟩ : ∃ k, (l[j]'hjl).at_ = k := ⟨_, rfl⟩
      rw [e1] at p0; rw [e2] at p1; rw [e3] at p2; rw [e4] at p3
      simp only [e1, e2, e3, e4] at hvc htc
      have HVC := Lib.hid hvc
      have HTC := Lib.hid htc
      have HVT : Hid (validT (l[j]'hjl) = t) := Lib.hid ht
      have HXX : Hid (str (textT (l[j]'hjl)) = X) := Lib.hid hX
      have HARR := Lib.hid harr
      have HB := Lib.hid hb
      have HTw : Hid (Tab wr) := Lib.hid (HT.out.below hb)
      have hbs := hb.size
      obtain ⟨wa, hwa⟩ : ∃ wa, wa = wr.alloc (Obj.cells #[.int .i64 k1, .string x1, .int .i64 n1, .int .i64 t1] 35) := ⟨_, rfl⟩
      have hza : wa.heap.size = wr.heap.size + 1 := by rw [hwa, World.size_alloc]
      have hBa : Below wr.heap.size wr wa := by rw [hwa]; go_grown
      have HWa := Lib.hid hwa
      have hca : ∀ W, Below wa.heap.size wa W → W.cell? ⟨wr.heap.size, 0, none⟩ = some (.int .i64 k1) ∧ W.cell? ⟨wr.heap.size, 1, none⟩ = some (.string x1) ∧ W.cell? ⟨wr.heap.size, 2, none⟩ = some (.int .i64 n1) ∧ W.cell? ⟨wr.heap.size, 3, none⟩ = some (.int .i64 t1) := fun W hW =>
        ⟨(hW.cell (p := ⟨wr.heap.size, 0, none⟩) (by show wr.heap.size < _; omega)).trans (by rw [hwa]; go_cell), (hW.cell (p := ⟨wr.heap.size, 1, none⟩) (by show wr.heap.size < _; omega)).trans (by rw [hwa]; go_cell), (hW.cell (p := ⟨wr.heap.size, 2, none⟩) (by show wr.heap.size < _; omega)).trans (by rw [hwa]; go_cell), (hW.cell (p := ⟨wr.heap.size, 3, none⟩) (by show wr.heap.size < _; omega)).trans (by rw [hwa]; go_cell)⟩
      have HCA := Lib.hid hca
      have HBa := Lib.hid hBa
      clear hb1 hvc htc ht hX e1 e2 e3 e4 harr hb hwa hBa hca hbl1
      go_wp2_with fail
      rw [← HWa.out]
      refine (HVC.out wa (HTw.out.below HBa.out)).mono ?_
      rintro e w4 ⟨rfl, hb4⟩
      obtain ⟨s0, s1, s2, s3⟩ := HCA.out w4 hb4
      have hbr4 : Below wr.heap.size wr w4 := HBa.out.trans (hb4.mono (by omega))
      have HB4 := Lib.hid hbr4
      clear hb4 hbr4 p0 p1 p2 p3
      cases t with
      | false =>
        have hr : res = none := by
          rw [← HRES.out]; unfold textAll; rw [if_neg]
          intro ha
          rw [List.all_eq_true] at ha
          have := ha _ hmem
          rw [HVT.out] at this; cases this
        subst hr
        have HF : Hid (Below w.heap.size w w4) := Lib.hid (HB.out.trans (HB4.out.mono (by omega)))
        go_wp2
        go_ret2
        exact ⟨HF.out, rfl⟩
      | true =>
        go_wp2_with fail
        refine (HTC.out w4 (HTw.out.below HB4.out)).mono ?_
        rintro e w5 ⟨rfl, hb5⟩
        have hbr5 : Below wr.heap.size wr w5 := HB4.out.trans (hb5.mono HB4.out.size)
        have har5 : Arr w5 tb cs := HARR.out.below hbr5 htw
        have hjc : j < cs.length := by rw [hcl]; exact hlt
        have g0 : w5.cell? ⟨tb, j, none⟩ = some (cs[j]'hjc) := har5.cell (List.getElem?_eq_getElem hjc)
        have g1 : w5.frozen? ⟨tb, j, none⟩ = false := har5.frozen hjc
        obtain ⟨old, hold⟩ : ∃ o, cs[j]'hjc = o := ⟨_, rfl⟩
        rw [hold] at g0
        have HAR5 := Lib.hid har5
        have HF : Hid (Below w.heap.size w w5) := Lib.hid (HB.out.trans (hbr5.mono (by omega)))
        have hs5 : tb < w5.heap.size := Nat.lt_of_lt_of_le htw hbr5.size
        clear hb5 hbr5 har5 hold s0 s1 s2 s3
        go_wp2
        go_roundw
        case rel =>
          refine ⟨j + 1, cs.set j (.string X), by go_num, by omega, HF.out.setCell (by show w.heap.size ≤ tb; omega) _, by simpa using hs5, HAR5.out.set j _, by simpa using hcl, Lib.hid fun i hi hij => ?_⟩
          by_cases h2 : i < j
          · obtain ⟨u1, u2⟩ := hall.out i hi h2
            exact ⟨u1, by rw [List.getElem?_set_ne (by omega)]; exact u2⟩
          · obtain rfl : i = j := by omega
            exact ⟨HVT.out, by rw [List.getElem?_set_self hjc, HXX.out]⟩
        case measure => simp [intOf]; omega
    · obtain rfl : j = N := by omega
      have d : decide ((j : Int) < (j : Int)) = false := by simp
      have hva : l.all validT = true := all_take HN.out fun i hi hij => (hall.out i hi hij).1
      have hr : res = some (Lib.join (l.map textT) [32]) := by rw [← HRES.out]; unfold textAll; rw [if_pos hva]
      subst hr
      have hxs : (l.map fun t => str (textT t)).length = j := by rw [List.length_map, HN.out]
      have hmm : ((l.map fun t => str (textT t)).map (·.data.toList)) = l.map textT := by
        rw [List.map_map]; exact List.map_congr_left fun t _ => str_toList _
      have hjn := Tryd.strings_Join tb 0 j (l.map fun t => str (textT t)) { data := #[32] } wr (fun i x hx => by
        rw [List.getElem?_map] at hx
        obtain ⟨t, ht, rfl⟩ := Option.map_eq_some_iff.1 hx
        obtain ⟨hi, rfl⟩ := List.getElem?_eq_some_iff.1 ht
        have := (hall.out i hi (by rw [← HN.out]; exact hi)).2
        rw [Nat.zero_add]
        exact harr.cell this) htw (by rw [hxs]; omega) (by rw [hxs]; omega) (by rw [hmm]; exact HJL.out)
      rw [hmm, hxs] at hjn
      have HJN := Lib.hid hjn
      have HB := Lib.hid hb
      have hbs := hb.size
      clear hall harr hxs hmm hjn hb hva
      go_wp2_with fail
      refine HJN.out.mono ?_
      rintro e w5 ⟨rfl, hb5⟩
      have HF : Hid (Below w.heap.size w w5) := Lib.hid (HB.out.trans (hb5.mono (by omega)))
      obtain ⟨S, hS⟩ : ∃ S : ByteArray, (⟨(Lib.join (l.map textT) [32]).toArray⟩ : ByteArray) = S := ⟨_, rfl⟩
      have HS := Lib.hid hS
      clear hb5 HJN
      rw [hS]
      clear hS
      go_wp2
      go_ret2
      exact ⟨HF.out, by rw [← HS.out]; rfl⟩
end Go.Proofs.YtdcdldjbdjochaaDoor
