/- The reference's Lex. -/
import Derived.Test.YtdcdldjbdjochaaDoorRnb
import Derived.Test.YtdcdldjbdjochaaDoorOtk
import Derived.Test.YtdcdldjbdjochaaDoorLx
namespace Go.Proofs.YtdcdldjbdjochaaDoor
open Go.RowKit

theorem wp_build0 {o : Oper} {a : Act} {W : World} {K : Act → World → Prop} {Q : Exit → Act → World → Prop} (t e : TypeId) (ho : o.op = .buildSlice t 0 (List.toArray [])) (ht : Tryd.prog.underlying t = some (.slice e)) {sz by_ : Nat} {z : Value} (hi : (Tryd.prog.info? e).map (fun i => (i.zero, i.size, i.bytes)) = some (some z, sz, by_))
    (h : ∀ g W', Below W.heap.size W W' → (∀ base, base ≤ W.heap.size → W'.ownsRow base e sz (.slice (some ⟨g, 0, none⟩) 0 0) 0 []) → K (a.put o.dst (.slice (some ⟨g, 0, none⟩) 0 0)) W') : o.wp Tryd.prog a W K Q := by
  obtain ⟨i, hi1, hz0, hz1, hz2⟩ := info_parts hi
  have hn : (newRow e #[]).run Tryd.prog W = .ok ⟨W.heap.size, 0, none⟩ (W.alloc (.cells #[] e)) := rfl
  have hrun : (Instr.buildSlice t 0 #[]).run Tryd.prog W = .ok (.slice (some ⟨W.heap.size, 0, none⟩) 0 0) (W.alloc (.cells #[] e)) := by
    simp [Instr.buildSlice, run_underlying ht, sizeOf, typeInfo, hi1, Instr.fill]
    rw [show (Array.map (fun _ => (default : Value)) (Array.range 0)) = #[] by simp, hn]
    rfl
  have hk := h _ _ ((Below.refl _ _).alloc (Nat.le_refl _) _) fun base hb => World.ownsRow_made (base := base) W #[] 0 hb (by unfold maxLen; omega) (by simp)
  unfold Oper.wp execOp
  simp [ho, hrun]
  exact hk
theorem wpList_build0 {ops : Array Oper} {rest : List Oper} {o : Oper} {a : Act} {W : World} {Q : Exit → Act → World → Prop} (hgd : o.guard = none) (t e : TypeId) (ho : o.op = .buildSlice t 0 (List.toArray [])) (ht : Tryd.prog.underlying t = some (.slice e)) {sz by_ : Nat} {z : Value} (hi : (Tryd.prog.info? e).map (fun i => (i.zero, i.size, i.bytes)) = some (some z, sz, by_))
    (h : ∀ g W', Below W.heap.size W W' → (∀ base, base ≤ W.heap.size → W'.ownsRow base e sz (.slice (some ⟨g, 0, none⟩) 0 0) 0 []) → wpList Tryd.prog ops Q rest (a.put o.dst (.slice (some ⟨g, 0, none⟩) 0 0)) W') : wpList Tryd.prog ops Q (o :: rest) a W :=
  wpList_plain hgd fun _ hK => wp_build0 t e ho ht hi fun g W' h1 h2 => hK _ _ (h g W' h1 h2)
theorem below_grown {B : Nat} {w W W' : World} {row : Option Nat} (hb : Below B w W) (hs : B ≤ W.heap.size) (hg : W.grownBy W' row) (ho : ∀ b, row = some b → B ≤ b) : Below B w W' :=
  ⟨hg.os.trans hb.os, hg.tape.trans hb.tape, hg.output.trans hb.output, Nat.le_trans hb.size hg.size, fun i hi => (hg.block i (by omega) (fun e => by have := ho i e.symm; omega)).trans (hb.block i hi)⟩
theorem cells_new4 (W : World) (a b c d : Value) (t : TypeId) : ∀ j u, [a, b, c, d][j]? = some u → (W.alloc (.cells #[a, b, c, d] t)).cell? ((⟨W.heap.size, 0, none⟩ : Addr).add j) = some u := fun j u h => by
  rw [add_mid, World.cell?_alloc_new]
  simpa using h
/-- A run of bytes with a property, from a place on: one byte further. -/
theorem nlen_run (p : Nat → Bool) (bs : List UInt8) (k q : Nat) (h : k + q < bs.length) : nlen p (bs.drop (k + q)) = if p (bs[k + q]).toNat then nlen p (bs.drop (k + (q + 1))) + 1 else 0 := by
  rw [List.drop_eq_getElem_cons h, nlen, Nat.add_assoc]
theorem nlen_nil (p : Nat → Bool) : nlen p [] = 0 := rfl
theorem str_sub (bs : List UInt8) (s : ByteArray) (hs : str bs = s) (k L : Nat) (h : k + L ≤ bs.length) : ∀ W, (Instr.slice 9 (.string s) (some (.int .i64 (k : Int))) (some (.int .i64 ((k + L : Nat) : Int))) none).run Tryd.prog W = .ok (.string (str ((bs.drop k).take L))) W := fun W => by
  have hz : s.size = bs.length := by rw [← hs]; exact str_size bs
  have := run_slice_string (P := Tryd.prog) W 9 s .i64 .i64 (k : Int) ((k + L : Nat) : Int) Tryd.underlying9 (by omega) (by omega) (by omega)
  rw [Int.toNat_natCast, Int.toNat_natCast, ← hs, str_extract, Nat.add_sub_cancel_left] at this
  rw [← hs]
  exact this

set_option maxRecDepth 100000 in
set_option maxHeartbeats 1000000 in
theorem rlex_long (w : World) (bs : List UInt8) (hl : 65536 < bs.length) : Calls Tryd.prog 12 #[.string (str bs)] w fun e w' => e = .returned (.tuple #[.slice none 0 0, .int .i64 0, .int .i64 2]) ∧ Below w.heap.size w w' := by
  have hsz := str_size bs
  obtain ⟨N, hN⟩ : ∃ N, bs.length = N := ⟨_, rfl⟩
  rw [hN] at hl hsz
  obtain ⟨s, hs⟩ : ∃ s, str bs = s := ⟨_, rfl⟩
  rw [hs] at hsz ⊢
  have d : decide (65536 < (N : Int)) = true := by simp; omega
  clear hN hs hl
  go_enter Tryd.func12, Tryd.ntmps12
  go_wp2
  go_ret3
  exact ⟨rfl, Below.refl _ _⟩

set_option maxRecDepth 100000 in
set_option maxHeartbeats 8000000 in
theorem rlex_any (w : World) (bs : List UInt8) (hl : bs.length ≤ 65536) : Calls Tryd.prog 12 #[.string (str bs)] w (LexPost w (lexAll bs)) := by
  have hsz := str_size bs
  obtain ⟨i0, hi, hz0, hz2, hz3⟩ := info_parts Tryd.info35
  obtain ⟨res, hres⟩ : ∃ res, lexAll bs = res := ⟨_, rfl⟩
  have hix := fun j (hj : j < bs.length) W => run_str bs j hj W
  have hsub := fun s (hs : str bs = s) k L h => str_sub bs s hs k L h
  obtain ⟨N, hN⟩ : ∃ N, bs.length = N := ⟨_, rfl⟩
  have HN := Lib.hid hN
  rw [hN] at hl hsz
  obtain ⟨s, hs⟩ : ∃ s, str bs = s := ⟨_, rfl⟩
  have hsub2 := hsub s hs
  simp only [hs] at hsz hix ⊢
  rw [hres]
  have HRES := Lib.hid hres
  have HIX := Lib.hid hix
  have HSUB := Lib.hid hsub2
  have hB0 : w.heap.size ≤ w.heap.size := Nat.le_refl _
  have d0 : decide (65536 < (N : Int)) = false := by simp; omega
  clear hix hsub hsub2 hs hN hres
  go_enter Tryd.func12, Tryd.ntmps12
  go_wp2_with (refine wpList_build0 rfl 23 35 (by rfl) Tryd.underlying23 Tryd.info35 ?_; intro g w1 hb1 hown1)
  have HB1 := Lib.hid hb1
  have HO1 := Lib.hid (hown1 _ (Nat.le_refl _))
  clear hb1 hown1 d0
  go_wp2_with fail
  go_loopw [5, 6] (fun v i wr => ∃ (k : Nat) (l : List Tok), i = .int .i64 k ∧ k ≤ N ∧ wr.ownsRow w.heap.size 35 4 v l.length (tcells l) ∧ Below w.heap.size w wr ∧ l.length ≤ k ∧ res = Res.app l (lexGo bs.length k (bs.drop k))) (fun _ i _ => N - (intOf i).toNat)
  case atStart => exact ⟨0, [], rfl, by omega, HO1.out, HB1.out, by simp, by rw [← HRES.out, Res.app_nil]; rfl⟩
  case round =>
    obtain ⟨k, l, rfl, hk, hown, hb, hlk, hlx⟩ := hrel
    have hbs := hb.size
    have HB := Lib.hid hb
    have HOWN := Lib.hid hown
    clear hb hown HB1 HO1 HRES
    by_cases hkN : k < N
    · obtain ⟨b, r, hbr⟩ : ∃ b r, bs.drop k = b :: r := ⟨_, _, List.drop_eq_getElem_cons (by rw [HN.out]; exact hkN)⟩
      have hlen : (b :: r).length = N - k := by rw [← hbr, List.length_drop, HN.out]
      have d : decide ((k : Int) < (N : Int)) = true := by simp; omega
      have hx := HIX.out k (by rw [HN.out]; exact hkN)
      have hbk : bs[k]'(by rw [HN.out]; exact hkN) = b := by
        have := List.drop_eq_getElem_cons (l := bs) (i := k) (by rw [HN.out]; exact hkN)
        rw [hbr] at this; injection this with h _; exact h.symm
      rw [hbk] at hx
      have hlp := stepL_pos b r
      have hll := stepL_le b r
      rw [hlen] at hll
      have hlxn : res = Res.app l (match stepA b r with
          | .no => .bad k
          | .pass => lexGo bs.length (k + stepL b r) (bs.drop (k + stepL b r))
          | .tok c t n => (lexGo bs.length (k + stepL b r) (bs.drop (k + stepL b r))).cons ⟨c, t, n, k⟩) := by
        rw [hlx, hbr, lexGo_cons _ _ _ _ (by rw [hlen, HN.out]; omega), ← List.drop_drop, hbr]
        cases stepA b r <;> rfl
      have hct := b.toNat_lt
      obtain ⟨m, hm⟩ : ∃ m, l.length = m := ⟨_, rfl⟩
      obtain ⟨xs, hxs⟩ : ∃ xs, tcells l = xs := ⟨_, rfl⟩
      have HPUSH : Hid (∀ v5 (W : World) (kd n : Int) (t : List UInt8) (T : ByteArray), str t = T → W.ownsRow w.heap.size 35 4 v5 (m + 1) (xs ++ [.int .i64 kd, .string T, .int .i64 n, .int .i64 (k : Int)]) → W.ownsRow w.heap.size 35 4 v5 (l ++ [Tok.mk kd t n k]).length (tcells (l ++ [Tok.mk kd t n k]))) := Lib.hid fun v5 W kd n t T hT h => by
        rw [List.length_append, hm, tcells_snoc, hxs]
        subst hT
        exact h
      rw [hm, hxs] at HOWN
      have HOB : Hid (∀ q, u5.ownBlock = some q → w.heap.size ≤ q) := Lib.hid fun q e => (HOWN.out.lt q e).1
      have HM := Lib.hid hm
      have HXS := Lib.hid hxs
      rw [hm] at hlk
      obtain ⟨c, hc⟩ : ∃ c, b.toNat = c := ⟨_, rfl⟩
      rw [hc] at hx hct
      have hx' : ∀ W, (Instr.index 9 (.string s) (.int .i64 (k : Int))).run Tryd.prog W = .ok (.int .u8 c) W := hx
      have hsp := fun W => rspace_any W c
      have hlt := fun W => rletter_any W c
      have hfg := fun W => rfigure_any W c
      have hsg := fun W => rsign_any W c hct
      have hK6 := cls_le c
      have HX := Lib.hid hx
      clear hm hxs hbk hx hlx
      by_cases hK1 : cls c = 1
      · -- <a
        have h1 : (cls c == 1) = true := by simpa using hK1
        simp only [h1] at hsp
        have HSP := Lib.hid hsp
        have hb1 : cls b.toNat = 1 := by rw [hc]; exact hK1
        have eA : stepA b r = .pass := by unfold stepA; rw [if_pos hb1]
        have eL : stepL b r = 1 := by unfold stepL; rw [if_neg (by omega), if_neg (by omega), if_neg (by omega)]
        rw [eA, eL] at hlxn
        have HLX : Hid (res = Res.app l (lexGo bs.length (k + 1) (bs.drop (k + 1)))) := Lib.hid hlxn
        clear hsp hlt hfg hsg h1 hb1 eA eL hlxn hK1 hbr hc hlp hll
        go_wp2_with fail
        refine (HSP.out _).mono ?_
        rintro e wr ⟨rfl, rfl⟩
        go_wp2_with fail
        refine ⟨⟨k + 1, l, by go_num, by omega, by rw [HM.out, HXS.out]; exact HOWN.out, HB.out, by rw [HM.out]; omega, HLX.out⟩, ?_⟩
        simp [intOf]; omega
        -- a>
      · have h1 : (cls c == 1) = false := by simpa using hK1
        simp only [h1] at hsp
        have HSP := Lib.hid hsp
        clear hsp h1
        by_cases hK6' : cls c = 6
        · obtain rfl : c = 47 := cls_slash hK6'
          have hlt' : ∀ W, Calls Tryd.prog 25 #[.int .u8 (47 : Nat)] W fun e w' => e = .returned (.bool false) ∧ w' = W := hlt
          have hfg' : ∀ W, Calls Tryd.prog 27 #[.int .u8 (47 : Nat)] W fun e w' => e = .returned (.bool false) ∧ w' = W := hfg
          have hsg' : ∀ W, Calls Tryd.prog 29 #[.int .u8 (47 : Nat)] W fun e w' => e = .returned (.bool true) ∧ w' = W := hsg
          have HLT := Lib.hid hlt'
          have HFG := Lib.hid hfg'
          have HSG := Lib.hid hsg'
          have hb47 : cls b.toNat = 6 := by rw [hc]; exact hK6'
          clear hlt hfg hsg hlt' hfg' hsg'
          by_cases hn1 : k + 1 < N
          · obtain ⟨b2, r2, hr2⟩ : ∃ b2 r2, r = b2 :: r2 := by
              cases r with
              | nil => simp at hlen; omega
              | cons x y => exact ⟨x, y, rfl⟩
            have hx2 := HIX.out (k + 1) (by rw [HN.out]; exact hn1)
            have hb2 : bs[k + 1]'(by rw [HN.out]; exact hn1) = b2 := by
              have h1 := List.drop_eq_getElem_cons (l := bs) (i := k) (by rw [HN.out]; exact hkN)
              have h2 := List.drop_eq_getElem_cons (l := bs) (i := k + 1) (by rw [HN.out]; exact hn1)
              rw [hbr] at h1; injection h1 with _ h1; rw [← h1, hr2] at h2; injection h2 with h2 _; exact h2.symm
            rw [hb2] at hx2
            have dn : decide ((k : Int) + 1 < (N : Int)) = true := by simp; omega
            obtain ⟨c2, hc2⟩ : ∃ c, b2.toNat = c := ⟨_, rfl⟩
            rw [hc2] at hx2
            have hx2' : ∀ W, (Instr.index 9 (.string s) (.int .i64 ((k : Int) + 1))).run Tryd.prog W = .ok (.int .u8 c2) W := hx2
            by_cases hs2 : c2 = 47
            · subst hs2
              have hh : r.head? = some 47 := by
                rw [hr2]; have : b2 = 47 := UInt8.toNat_inj.1 hc2
                rw [this]; rfl
              -- <b
              have eA : stepA b r = .pass := by unfold stepA; rw [if_neg (by omega), if_neg (by omega), if_neg (by omega), if_neg (by omega), if_pos hb47, if_pos hh]
              have eL : stepL b r = nlen notLF (bs.drop k) := by unfold stepL; rw [if_neg (by omega), if_neg (by omega), if_pos ⟨hb47, hh⟩, hbr]
              rw [eA] at hlxn
              obtain ⟨L, hL⟩ : ∃ L, stepL b r = L := ⟨_, rfl⟩
              rw [hL] at hlxn hlp hll eL
              have HLX : Hid (res = Res.app l (lexGo bs.length (k + L) (bs.drop (k + L)))) := Lib.hid hlxn
              have HL0 : Hid (0 + nlen notLF (bs.drop (k + 0)) = L) := Lib.hid (by rw [Nat.zero_add, Nat.add_zero]; exact eL.symm)
              clear eA eL hL hlxn hb47 hh hr2 hbr hb2 hc hc2 hlen
              go_wp2_with fail
              refine (HSP.out _).mono ?_
              rintro e wr ⟨rfl, rfl⟩
              go_wp2_with fail
              go_loopw [6] (fun i wx => ∃ q : Nat, i = .int .i64 ((k + q : Nat) : Int) ∧ q ≤ L ∧ q + nlen notLF (bs.drop (k + q)) = L ∧ wx = wr) (fun i _ => N - (intOf i).toNat)
              case atStart => exact ⟨0, rfl, by omega, HL0.out, rfl⟩
              case round =>
                obtain ⟨q, rfl, hqL, hql, rfl⟩ := hrel
                by_cases hq : k + q < N
                · have dq : decide (((k + q : Nat) : Int) < (N : Int)) = true := by simp; omega
                  have hxq := HIX.out (k + q) (by rw [HN.out]; exact hq)
                  have hnq := nlen_run notLF bs k q (by rw [HN.out]; exact hq)
                  obtain ⟨cq, hcq⟩ : ∃ c, (bs[k + q]'(by rw [HN.out]; exact hq)).toNat = c := ⟨_, rfl⟩
                  rw [hcq] at hxq hnq
                  by_cases hpq : cq = 10
                  · subst hpq
                    have hL : q = L := by
                      rw [if_neg (by decide)] at hnq; omega
                    subst hL
                    clear hnq hcq hql
                    obtain ⟨E, hE⟩ : ∃ E, k + q = E := ⟨_, rfl⟩
                    have hxE : ∀ W, (Instr.index 9 (.string s) (.int .i64 (E : Int))).run Tryd.prog W = .ok (.int .u8 (10 : Nat)) W := by rw [← hE]; exact hxq
                    rw [hE] at hq dq HLX ⊢
                    clear hxq
                    go_wp2_with fail
                    refine ⟨⟨E, l, rfl, by omega, by rw [HM.out, HXS.out]; exact HOWN.out, HB.out, by rw [HM.out]; omega, HLX.out⟩, ?_⟩
                    simp [intOf]; omega
                  · have hp1 : notLF cq = true := by simpa [notLF] using hpq
                    have ep : ((cq : Int) != 10) = true := by simp; omega
                    rw [if_pos hp1] at hnq
                    have HQ : Hid (q + 1 + nlen notLF (bs.drop (k + (q + 1))) = L) := Lib.hid (by omega)
                    have hqL1 : q + 1 ≤ L := by omega
                    clear hnq hcq hql hp1 hpq
                    obtain ⟨E, hE⟩ : ∃ E, k + q = E := ⟨_, rfl⟩
                    have hxE : ∀ W, (Instr.index 9 (.string s) (.int .i64 (E : Int))).run Tryd.prog W = .ok (.int .u8 cq) W := by rw [← hE]; exact hxq
                    rw [hE] at hq dq ⊢
                    clear hxq
                    go_wp2_with fail
                    refine ⟨⟨q + 1, by rw [← hE]; go_num, hqL1, HQ.out, trivial⟩, ?_⟩
                    simp [intOf]; omega
                · have dq : decide (((k + q : Nat) : Int) < (N : Int)) = false := by simp; omega
                  have hL : q = L := by
                    rw [List.drop_eq_nil_of_le (by rw [HN.out]; omega), nlen_nil] at hql; omega
                  subst hL
                  clear hql
                  obtain ⟨E, hE⟩ : ∃ E, k + q = E := ⟨_, rfl⟩
                  rw [hE] at hq dq HLX ⊢
                  go_wp2_with fail
                  refine ⟨⟨E, l, rfl, by omega, by rw [HM.out, HXS.out]; exact HOWN.out, HB.out, by rw [HM.out]; omega, HLX.out⟩, ?_⟩
                  simp [intOf]; omega
              -- b>
            · have e2 : ((c2 : Int) == 47) = false := by simp; omega
              have hh : r.head? ≠ some 47 := by
                rw [hr2]; intro h; simp at h; exact hs2 (by rw [← hc2, h]; rfl)
              -- <c
              have eA : stepA b r = .tok 3 [b] 0 := by unfold stepA; rw [if_neg (by omega), if_neg (by omega), if_neg (by omega), if_neg (by omega), if_pos hb47, if_neg hh]
              have eL : stepL b r = 1 := by unfold stepL; rw [if_neg (by omega), if_neg (by omega), if_neg fun h => hh h.2]
              rw [eA, eL] at hlxn
              obtain ⟨T, hT⟩ : ∃ T, str [b] = T := ⟨_, rfl⟩
              have HLX : Hid (res = Res.app (l ++ [⟨3, [b], 0, k⟩]) (lexGo bs.length (k + 1) (bs.drop (k + 1)))) := Lib.hid (by rw [hlxn, ← Res.app_cons])
              have hsl := HSUB.out k 1 (by rw [HN.out]; omega)
              rw [hbr] at hsl
              have hsl' : ∀ W, (Instr.slice 9 (.string s) (some (.int .i64 (k : Int))) (some (.int .i64 ((k : Int) + 1))) none).run Tryd.prog W = .ok (.string T) W := by rw [← hT]; exact hsl
              have HT := Lib.hid hT
              clear eA eL hlxn hsl hT hb47 hh hr2 hbr hb2 hc hc2 hlen hs2
              go_wp2_with fail
              refine (HSP.out _).mono ?_
              rintro e wr ⟨rfl, rfl⟩
              go_wp2_with fail
              refine (HLT.out _).mono ?_
              rintro e wr ⟨rfl, rfl⟩
              go_wp2_with fail
              refine (HFG.out _).mono ?_
              rintro e wr ⟨rfl, rfl⟩
              go_wp2_with fail
              refine (HSG.out _).mono ?_
              rintro e wr ⟨rfl, rfl⟩
              go_wp2_with (at_builtin; refine wpList_append_own _ rfl (.tmp 128) (.tmp 135) 23 rfl w.heap.size 35 i0 _ 4 40 Tryd.underlying23 hi hz0 hz2 hz3 rfl (by omega) u5 m xs rfl (HOWN.out.alloc _) ⟨wr.heap.size, 0, none⟩ 1 1 [.int .i64 3, .string T, .int .i64 0, .int .i64 (k : Int)] rfl rfl (cells_new4 _ _ _ _ _ _) (by intro u hu; simp at hu; rcases hu with rfl | rfl | rfl | rfl <;> rfl) (by unfold maxLen; omega) (by omega) (by rw [World.size_alloc]; omega) ?_; intro v5 w5 hown5 hgr5 _; have HO5 := Lib.hid hown5; have HB5 := Lib.hid (below_grown (HB.out.alloc hbs _) (by rw [World.size_alloc]; omega) hgr5 (fun q e => HOB.out q e)); clear hown5 hgr5)
              go_wp2_with fail
              refine ⟨⟨k + 1, l ++ [⟨3, [b], 0, k⟩], by go_num, by omega, HPUSH.out _ _ _ _ [b] _ HT.out HO5.out, HB5.out, by rw [List.length_append, HM.out]; simp; omega, HLX.out⟩, ?_⟩
              simp [intOf]; omega
              -- c>
          · have dn : decide ((k : Int) + 1 < (N : Int)) = false := by simp; omega
            have hh : r.head? ≠ some 47 := by
              cases r with
              | nil => simp
              | cons x y => simp at hlen; omega
            -- <d
            have eA : stepA b r = .tok 3 [b] 0 := by unfold stepA; rw [if_neg (by omega), if_neg (by omega), if_neg (by omega), if_neg (by omega), if_pos hb47, if_neg hh]
            have eL : stepL b r = 1 := by unfold stepL; rw [if_neg (by omega), if_neg (by omega), if_neg fun h => hh h.2]
            rw [eA, eL] at hlxn
            obtain ⟨T, hT⟩ : ∃ T, str [b] = T := ⟨_, rfl⟩
            have HLX : Hid (res = Res.app (l ++ [⟨3, [b], 0, k⟩]) (lexGo bs.length (k + 1) (bs.drop (k + 1)))) := Lib.hid (by rw [hlxn, ← Res.app_cons])
            have hsl := HSUB.out k 1 (by rw [HN.out]; omega)
            rw [hbr] at hsl
            have hsl' : ∀ W, (Instr.slice 9 (.string s) (some (.int .i64 (k : Int))) (some (.int .i64 ((k : Int) + 1))) none).run Tryd.prog W = .ok (.string T) W := by rw [← hT]; exact hsl
            have HT := Lib.hid hT
            clear eA eL hlxn hsl hT hb47 hh hbr hc hlen hn1
            go_wp2_with fail
            refine (HSP.out _).mono ?_
            rintro e wr ⟨rfl, rfl⟩
            go_wp2_with fail
            refine (HLT.out _).mono ?_
            rintro e wr ⟨rfl, rfl⟩
            go_wp2_with fail
            refine (HFG.out _).mono ?_
            rintro e wr ⟨rfl, rfl⟩
            go_wp2_with fail
            refine (HSG.out _).mono ?_
            rintro e wr ⟨rfl, rfl⟩
            go_wp2_with (at_builtin; refine wpList_append_own _ rfl (.tmp 128) (.tmp 135) 23 rfl w.heap.size 35 i0 _ 4 40 Tryd.underlying23 hi hz0 hz2 hz3 rfl (by omega) u5 m xs rfl (HOWN.out.alloc _) ⟨wr.heap.size, 0, none⟩ 1 1 [.int .i64 3, .string T, .int .i64 0, .int .i64 (k : Int)] rfl rfl (cells_new4 _ _ _ _ _ _) (by intro u hu; simp at hu; rcases hu with rfl | rfl | rfl | rfl <;> rfl) (by unfold maxLen; omega) (by omega) (by rw [World.size_alloc]; omega) ?_; intro v5 w5 hown5 hgr5 _; have HO5 := Lib.hid hown5; have HB5 := Lib.hid (below_grown (HB.out.alloc hbs _) (by rw [World.size_alloc]; omega) hgr5 (fun q e => HOB.out q e)); clear hown5 hgr5)
            go_wp2_with fail
            refine ⟨⟨k + 1, l ++ [⟨3, [b], 0, k⟩], by go_num, by omega, HPUSH.out _ _ _ _ [b] _ HT.out HO5.out, HB5.out, by rw [List.length_append, HM.out]; simp; omega, HLX.out⟩, ?_⟩
            simp [intOf]; omega
            -- d>
        · have h47 : c ≠ 47 := fun e => by rw [e] at hK6'; exact hK6' (by decide)
          have e47 : ((c : Int) == 47) = false := by simp; omega
          by_cases hK2 : cls c = 2
          · -- <e
            have h2 : (cls c == 2) = true := by simpa using hK2
            simp only [h2] at hlt
            have HLT := Lib.hid hlt
            have hb2 : cls b.toNat = 2 := by rw [hc]; exact hK2
            have eL : stepL b r = nlen isPart (bs.drop k) := by unfold stepL; rw [if_pos hb2, hbr]
            have eA : stepA b r = if nameOk ((bs.drop k).take (stepL b r)) then .tok 1 ((bs.drop k).take (stepL b r)) 0 else .no := by unfold stepA; rw [if_neg (by omega), if_pos hb2, hbr]
            rw [eA] at hlxn
            obtain ⟨L, hL⟩ : ∃ L, stepL b r = L := ⟨_, rfl⟩
            simp only [hL] at hlxn
            rw [hL] at hlp hll eL
            obtain ⟨X, hX⟩ : ∃ X, (bs.drop k).take L = X := ⟨_, rfl⟩
            have hXl : X.length ≤ 65536 := by rw [← hX, List.length_take, List.length_drop, HN.out]; omega
            have hsl := HSUB.out k L (by rw [HN.out]; omega)
            rw [hX] at hlxn hsl
            have HNM := Lib.hid fun W => rname_any W X (by omega)
            have HAFT : Hid ((∀ W, (Instr.slice 9 (.string s) (some (.int .i64 (k : Int))) (some (.int .i64 ((k + L : Nat) : Int))) none).run Tryd.prog W = .ok (.string (str X)) W) ∧ res = Res.app l (match (if nameOk X then Deed.tok 1 X 0 else Deed.no) with
                | .no => .bad k
                | .pass => lexGo bs.length (k + L) (bs.drop (k + L))
                | .tok c t n => (lexGo bs.length (k + L) (bs.drop (k + L))).cons ⟨c, t, n, k⟩)) := Lib.hid ⟨hsl, hlxn⟩
            have HL0 : Hid (0 + nlen isPart (bs.drop (k + 0)) = L) := Lib.hid (by rw [Nat.zero_add, Nat.add_zero]; exact eL.symm)
            clear eA eL hL hlxn hb2 h2 hlt hfg hsg hbr hc hlen hX hsl hK1 hK6' hK2 h47
            go_wp2_with fail
            refine (HSP.out _).mono ?_
            rintro e wr ⟨rfl, rfl⟩
            go_wp2_with fail
            refine (HLT.out _).mono ?_
            rintro e wr ⟨rfl, rfl⟩
            go_wp2_with fail
            go_loopw [6] (fun i wx => ∃ q : Nat, i = .int .i64 ((k + q : Nat) : Int) ∧ q ≤ L ∧ q + nlen isPart (bs.drop (k + q)) = L ∧ wx = wr) (fun i _ => N - (intOf i).toNat)
            case atStart => exact ⟨0, rfl, by omega, HL0.out, rfl⟩
            case round =>
              obtain ⟨q, rfl, hqL, hql, rfl⟩ := hrel
              by_cases hq : k + q < N
              · have dq : decide (((k + q : Nat) : Int) < (N : Int)) = true := by simp; omega
                have hxq := HIX.out (k + q) (by rw [HN.out]; exact hq)
                have hnq := nlen_run isPart bs k q (by rw [HN.out]; exact hq)
                obtain ⟨cq, hcq⟩ : ∃ c, (bs[k + q]'(by rw [HN.out]; exact hq)).toNat = c := ⟨_, rfl⟩
                rw [hcq] at hxq hnq
                obtain ⟨E, hE⟩ : ∃ E, k + q = E := ⟨_, rfl⟩
                have hxE : ∀ W, (Instr.index 9 (.string s) (.int .i64 (E : Int))).run Tryd.prog W = .ok (.int .u8 cq) W := by rw [← hE]; exact hxq
                have hpc := fun W => rpart_any W cq
                cases hpq : isPart cq with
                | false =>
                  have hL : q = L := by
                    rw [hpq, if_neg (by simp)] at hnq; omega
                  subst hL
                  rw [hpq] at hpc
                  have HPC := Lib.hid hpc
                  rw [hE] at hq dq HAFT ⊢
                  clear hpc hxq hnq hcq hql hpq
                  go_wp2_with fail
                  refine (HPC.out _).mono ?_
                  rintro e wr ⟨rfl, rfl⟩
                  obtain ⟨hsl, hlxn⟩ := HAFT.out
                  obtain ⟨T, hT⟩ : ∃ T, str X = T := ⟨_, rfl⟩
                  rw [hT] at hsl HNM
                  have HT := Lib.hid hT
                  cases hnx : nameOk X with
                  | false =>
                    rw [hnx] at hlxn HNM
                    have hr : res = .bad k := hlxn
                    subst hr
                    clear hlxn hT hnx
                    go_wp2_with fail
                    refine (HNM.out _).mono ?_
                    rintro e wr ⟨rfl, rfl⟩
                    go_wp2
                    go_ret3
                    exact ⟨HB.out, rfl⟩
                  | true =>
                    rw [hnx] at hlxn HNM
                    have HLX : Hid (res = Res.app (l ++ [⟨1, X, 0, k⟩]) (lexGo bs.length E (bs.drop E))) := Lib.hid (by rw [hlxn, ← Res.app_cons]; rfl)
                    clear hlxn hT hnx
                    go_wp2_with fail
                    refine (HNM.out _).mono ?_
                    rintro e wr ⟨rfl, rfl⟩
                    go_wp2_with (at_builtin; refine wpList_append_own _ rfl (.tmp 78) (.tmp 85) 23 rfl w.heap.size 35 i0 _ 4 40 Tryd.underlying23 hi hz0 hz2 hz3 rfl (by omega) u5 m xs rfl (HOWN.out.alloc _) ⟨wr.heap.size, 0, none⟩ 1 1 [.int .i64 1, .string T, .int .i64 0, .int .i64 (k : Int)] rfl rfl (cells_new4 _ _ _ _ _ _) (by intro u hu; simp at hu; rcases hu with rfl | rfl | rfl | rfl <;> rfl) (by unfold maxLen; omega) (by omega) (by rw [World.size_alloc]; omega) ?_; intro v5 w5 hown5 hgr5 _; have HO5 := Lib.hid hown5; have HB5 := Lib.hid (below_grown (HB.out.alloc hbs _) (by rw [World.size_alloc]; omega) hgr5 (fun q e => HOB.out q e)); clear hown5 hgr5)
                    go_wp2_with fail
                    refine ⟨⟨E, l ++ [⟨1, X, 0, k⟩], by go_num, by omega, HPUSH.out _ _ _ _ X _ HT.out HO5.out, HB5.out, by rw [List.length_append, HM.out]; simp; omega, HLX.out⟩, ?_⟩
                    simp [intOf]; omega
                | true =>
                  rw [hpq, if_pos rfl] at hnq
                  rw [hpq] at hpc
                  have HPC := Lib.hid hpc
                  have HQ : Hid (q + 1 + nlen isPart (bs.drop (k + (q + 1))) = L) := Lib.hid (by omega)
                  have hqL1 : q + 1 ≤ L := by omega
                  rw [hE] at hq dq ⊢
                  clear hpc hxq hnq hcq hql hpq
                  go_wp2_with fail
                  refine (HPC.out _).mono ?_
                  rintro e wr ⟨rfl, rfl⟩
                  go_wp2_with fail
                  refine ⟨⟨q + 1, by rw [← hE]; go_num, hqL1, HQ.out, by simp⟩, ?_⟩
                  simp [intOf]; omega
              · have dq : decide (((k + q : Nat) : Int) < (N : Int)) = false := by simp; omega
                have hL : q = L := by
                  rw [List.drop_eq_nil_of_le (by rw [HN.out]; omega), nlen_nil] at hql; omega
                subst hL
                clear hql
                obtain ⟨E, hE⟩ : ∃ E, k + q = E := ⟨_, rfl⟩
                rw [hE] at hq dq HAFT ⊢
                obtain ⟨hsl, hlxn⟩ := HAFT.out
                obtain ⟨T, hT⟩ : ∃ T, str X = T := ⟨_, rfl⟩
                rw [hT] at hsl HNM
                have HT := Lib.hid hT
                cases hnx : nameOk X with
                | false =>
                  rw [hnx] at hlxn HNM
                  have hr : res = .bad k := hlxn
                  subst hr
                  clear hlxn hT hnx
                  go_wp2_with fail
                  refine (HNM.out _).mono ?_
                  rintro e wr ⟨rfl, rfl⟩
                  go_wp2
                  go_ret3
                  exact ⟨HB.out, rfl⟩
                | true =>
                  rw [hnx] at hlxn HNM
                  have HLX : Hid (res = Res.app (l ++ [⟨1, X, 0, k⟩]) (lexGo bs.length E (bs.drop E))) := Lib.hid (by rw [hlxn, ← Res.app_cons]; rfl)
                  clear hlxn hT hnx
                  go_wp2_with fail
                  refine (HNM.out _).mono ?_
                  rintro e wr ⟨rfl, rfl⟩
                  go_wp2_with (at_builtin; refine wpList_append_own _ rfl (.tmp 78) (.tmp 85) 23 rfl w.heap.size 35 i0 _ 4 40 Tryd.underlying23 hi hz0 hz2 hz3 rfl (by omega) u5 m xs rfl (HOWN.out.alloc _) ⟨wr.heap.size, 0, none⟩ 1 1 [.int .i64 1, .string T, .int .i64 0, .int .i64 (k : Int)] rfl rfl (cells_new4 _ _ _ _ _ _) (by intro u hu; simp at hu; rcases hu with rfl | rfl | rfl | rfl <;> rfl) (by unfold maxLen; omega) (by omega) (by rw [World.size_alloc]; omega) ?_; intro v5 w5 hown5 hgr5 _; have HO5 := Lib.hid hown5; have HB5 := Lib.hid (below_grown (HB.out.alloc hbs _) (by rw [World.size_alloc]; omega) hgr5 (fun q e => HOB.out q e)); clear hown5 hgr5)
                  go_wp2_with fail
                  refine ⟨⟨E, l ++ [⟨1, X, 0, k⟩], by go_num, by omega, HPUSH.out _ _ _ _ X _ HT.out HO5.out, HB5.out, by rw [List.length_append, HM.out]; simp; omega, HLX.out⟩, ?_⟩
                  simp [intOf]; omega
            -- e>
          · have h2 : (cls c == 2) = false := by simpa using hK2
            simp only [h2] at hlt
            have HLT := Lib.hid hlt
            clear hlt h2
            by_cases hK3 : cls c = 3
            · -- <f
              have h3 : (cls c == 3) = true := by simpa using hK3
              simp only [h3] at hfg
              have HFG := Lib.hid hfg
              have hb3 : cls b.toNat = 3 := by rw [hc]; exact hK3
              have eL : stepL b r = nlen isFig (bs.drop k) := by unfold stepL; rw [if_neg (by omega), if_pos hb3, hbr]
              have eA : stepA b r = if numOk ((bs.drop k).take (stepL b r)) then .tok 2 [] (val10 0 ((bs.drop k).take (stepL b r))) else .no := by unfold stepA; rw [if_neg (by omega), if_neg (by omega), if_pos hb3, hbr]
              have hdg : Digits ((bs.drop k).take (stepL b r)) := by rw [eL]; exact digits_take _
              rw [eA] at hlxn
              obtain ⟨L, hL⟩ : ∃ L, stepL b r = L := ⟨_, rfl⟩
              simp only [hL] at hlxn
              rw [hL] at hlp hll eL hdg
              obtain ⟨X, hX⟩ : ∃ X, (bs.drop k).take L = X := ⟨_, rfl⟩
              have hXl : X.length ≤ 65536 := by rw [← hX, List.length_take, List.length_drop, HN.out]; omega
              have hXb : ∃ y z, X = y :: z := by
                obtain ⟨L', rfl⟩ : ∃ n, L = n + 1 := ⟨L - 1, by omega⟩
                rw [← hX, hbr, List.take_succ_cons]; exact ⟨_, _, rfl⟩
              have hsl := HSUB.out k L (by rw [HN.out]; omega)
              rw [hX] at hlxn hsl hdg
              have HNM : Hid (∀ W, Calls Tryd.prog 28 #[.string (str X)] W fun e w' => NumPost X e ∧ Below W.heap.size W w') := Lib.hid fun W => by
                obtain ⟨y, z, rfl⟩ := hXb
                exact rnumber_any W y z hdg (by omega)
              have HAFT : Hid ((∀ W, (Instr.slice 9 (.string s) (some (.int .i64 (k : Int))) (some (.int .i64 ((k + L : Nat) : Int))) none).run Tryd.prog W = .ok (.string (str X)) W) ∧ res = Res.app l (match (if numOk X then Deed.tok 2 [] (val10 0 X) else Deed.no) with
                  | .no => .bad k
                  | .pass => lexGo bs.length (k + L) (bs.drop (k + L))
                  | .tok c t n => (lexGo bs.length (k + L) (bs.drop (k + L))).cons ⟨c, t, n, k⟩)) := Lib.hid ⟨hsl, hlxn⟩
              have HL0 : Hid (0 + nlen isFig (bs.drop (k + 0)) = L) := Lib.hid (by rw [Nat.zero_add, Nat.add_zero]; exact eL.symm)
              have HSP0 := HSP
              clear eA eL hL hlxn hb3 h3 hfg hsg hbr hc hlen hX hsl hdg hXb hK1 hK6' hK2 hK3 h47
              go_wp2_with fail
              refine (HSP.out _).mono ?_
              rintro e wr ⟨rfl, rfl⟩
              go_wp2_with fail
              refine (HLT.out _).mono ?_
              rintro e wr ⟨rfl, rfl⟩
              go_wp2_with fail
              refine (HFG.out _).mono ?_
              rintro e wr ⟨rfl, rfl⟩
              go_wp2_with fail
              go_loopw [6] (fun i wx => ∃ q : Nat, i = .int .i64 ((k + q : Nat) : Int) ∧ q ≤ L ∧ q + nlen isFig (bs.drop (k + q)) = L ∧ wx = wr) (fun i _ => N - (intOf i).toNat)
              case atStart => exact ⟨0, rfl, by omega, HL0.out, rfl⟩
              case round =>
                obtain ⟨q, rfl, hqL, hql, rfl⟩ := hrel
                by_cases hq : k + q < N
                · have dq : decide (((k + q : Nat) : Int) < (N : Int)) = true := by simp; omega
                  have hxq := HIX.out (k + q) (by rw [HN.out]; exact hq)
                  have hnq := nlen_run isFig bs k q (by rw [HN.out]; exact hq)
                  obtain ⟨cq, hcq⟩ : ∃ c, (bs[k + q]'(by rw [HN.out]; exact hq)).toNat = c := ⟨_, rfl⟩
                  rw [hcq] at hxq hnq
                  obtain ⟨E, hE⟩ : ∃ E, k + q = E := ⟨_, rfl⟩
                  have hxE : ∀ W, (Instr.index 9 (.string s) (.int .i64 (E : Int))).run Tryd.prog W = .ok (.int .u8 cq) W := by rw [← hE]; exact hxq
                  have hpc := show ∀ W, Calls Tryd.prog 27 #[.int .u8 cq] W (fun e w' => e = .returned (.bool (isFig cq)) ∧ w' = W) from fun W => rfigure_any W cq
                  cases hpq : isFig cq with
                  | false =>
                    have hL : q = L := by
                      rw [hpq, if_neg (by simp)] at hnq; omega
                    subst hL
                    rw [hpq] at hpc
                    have HPC := Lib.hid hpc
                    rw [hE] at hq dq HAFT ⊢
                    clear hpc hxq hnq hcq hql hpq
                    go_wp2_with fail
                    refine (HPC.out _).mono ?_
                    rintro e wr ⟨rfl, rfl⟩
                    obtain ⟨hsl, hlxn⟩ := HAFT.out
                    obtain ⟨T, hT⟩ : ∃ T, str X = T := ⟨_, rfl⟩
                    rw [hT] at hsl HNM
                    clear hT
                    go_wp2_with fail
                    refine (HNM.out _).mono ?_
                    rintro e w4 ⟨⟨n, rfl, hn⟩, hb4⟩
                    have hbs4 := hb4.size
                    have hbb4 := HB.out.trans (hb4.mono hbs)
                    have HOWN4 := Lib.hid (HOWN.out.kept (row := none) ⟨hb4.os, hb4.tape, hb4.output, hb4.size, fun i hi _ => hb4.block i hi⟩ (by
                      by_cases he : u5.ownBlock = none
                      · exact .inl he
                      · exact .inr (by simpa using fun e => he e)))
                    have HB4 := Lib.hid hbb4
                    have hbs4' := hbb4.size
                    cases hnx : numOk X with
                    | false =>
                      rw [hnx] at hlxn
                      have hr : res = .bad k := hlxn
                      subst hr
                      clear hlxn hnx hn hb4 hbb4 hsl
                      go_wp2
                      go_ret3
                      exact ⟨HB4.out, rfl⟩
                    | true =>
                      rw [hnx] at hlxn
                      have hn' := hn hnx
                      subst hn'
                      have HLX : Hid (res = Res.app (l ++ [⟨2, [], (val10 0 X : Nat), k⟩]) (lexGo bs.length E (bs.drop E))) := Lib.hid (by rw [hlxn, ← Res.app_cons]; rfl)
                      obtain ⟨V, hV⟩ : ∃ V : Int, ((val10 0 X : Nat) : Int) = V := ⟨_, rfl⟩
                      rw [hV] at HLX ⊢
                      have HT : Hid (str [] = { data := #[] }) := Lib.hid rfl
                      clear hlxn hnx hn hb4 hbb4 hsl hV
                      go_wp2_with (at_builtin; refine wpList_append_own _ rfl (.tmp 114) (.tmp 118) 23 rfl w.heap.size 35 i0 _ 4 40 Tryd.underlying23 hi hz0 hz2 hz3 rfl (by omega) u5 m xs rfl (HOWN4.out.alloc _) ⟨w4.heap.size, 0, none⟩ 1 1 [.int .i64 2, .string { data := #[] }, .int .i64 V, .int .i64 (k : Int)] rfl rfl (cells_new4 _ _ _ _ _ _) (by intro u hu; simp at hu; rcases hu with rfl | rfl | rfl | rfl <;> rfl) (by unfold maxLen; omega) (by omega) (by rw [World.size_alloc]; omega) ?_; intro v5 w5 hown5 hgr5 _; have HO5 := Lib.hid hown5; have HB5 := Lib.hid (below_grown (HB4.out.alloc hbs4' _) (by rw [World.size_alloc]; omega) hgr5 (fun q e => HOB.out q e)); clear hown5 hgr5)
                      go_wp2_with fail
                      refine ⟨⟨E, l ++ [⟨2, [], V, k⟩], by go_num, by omega, HPUSH.out _ _ _ _ [] _ HT.out HO5.out, HB5.out, by rw [List.length_append, HM.out]; simp; omega, HLX.out⟩, ?_⟩
                      simp [intOf]; omega
                  | true =>
                    rw [hpq, if_pos rfl] at hnq
                    rw [hpq] at hpc
                    have HPC := Lib.hid hpc
                    have HQ : Hid (q + 1 + nlen isFig (bs.drop (k + (q + 1))) = L) := Lib.hid (by omega)
                    have hqL1 : q + 1 ≤ L := by omega
                    rw [hE] at hq dq ⊢
                    clear hpc hxq hnq hcq hql hpq
                    go_wp2_with fail
                    refine (HPC.out _).mono ?_
                    rintro e wr ⟨rfl, rfl⟩
                    go_wp2_with fail
                    refine ⟨⟨q + 1, by rw [← hE]; go_num, hqL1, HQ.out, by simp⟩, ?_⟩
                    simp [intOf]; omega
                · have dq : decide (((k + q : Nat) : Int) < (N : Int)) = false := by simp; omega
                  have hL : q = L := by
                    rw [List.drop_eq_nil_of_le (by rw [HN.out]; omega), nlen_nil] at hql; omega
                  subst hL
                  clear hql
                  obtain ⟨E, hE⟩ : ∃ E, k + q = E := ⟨_, rfl⟩
                  rw [hE] at hq dq HAFT ⊢
                  obtain ⟨hsl, hlxn⟩ := HAFT.out
                  obtain ⟨T, hT⟩ : ∃ T, str X = T := ⟨_, rfl⟩
                  rw [hT] at hsl HNM
                  clear hT
                  go_wp2_with fail
                  refine (HNM.out _).mono ?_
                  rintro e w4 ⟨⟨n, rfl, hn⟩, hb4⟩
                  have hbs4 := hb4.size
                  have hbb4 := HB.out.trans (hb4.mono hbs)
                  have HOWN4 := Lib.hid (HOWN.out.kept (row := none) ⟨hb4.os, hb4.tape, hb4.output, hb4.size, fun i hi _ => hb4.block i hi⟩ (by
                    by_cases he : u5.ownBlock = none
                    · exact .inl he
                    · exact .inr (by simpa using fun e => he e)))
                  have HB4 := Lib.hid hbb4
                  have hbs4' := hbb4.size
                  cases hnx : numOk X with
                  | false =>
                    rw [hnx] at hlxn
                    have hr : res = .bad k := hlxn
                    subst hr
                    clear hlxn hnx hn hb4 hbb4 hsl
                    go_wp2
                    go_ret3
                    exact ⟨HB4.out, rfl⟩
                  | true =>
                    rw [hnx] at hlxn
                    have hn' := hn hnx
                    subst hn'
                    have HLX : Hid (res = Res.app (l ++ [⟨2, [], (val10 0 X : Nat), k⟩]) (lexGo bs.length E (bs.drop E))) := Lib.hid (by rw [hlxn, ← Res.app_cons]; rfl)
                    obtain ⟨V, hV⟩ : ∃ V : Int, ((val10 0 X : Nat) : Int) = V := ⟨_, rfl⟩
                    rw [hV] at HLX ⊢
                    have HT : Hid (str [] = { data := #[] }) := Lib.hid rfl
                    clear hlxn hnx hn hb4 hbb4 hsl hV
                    go_wp2_with (at_builtin; refine wpList_append_own _ rfl (.tmp 114) (.tmp 118) 23 rfl w.heap.size 35 i0 _ 4 40 Tryd.underlying23 hi hz0 hz2 hz3 rfl (by omega) u5 m xs rfl (HOWN4.out.alloc _) ⟨w4.heap.size, 0, none⟩ 1 1 [.int .i64 2, .string { data := #[] }, .int .i64 V, .int .i64 (k : Int)] rfl rfl (cells_new4 _ _ _ _ _ _) (by intro u hu; simp at hu; rcases hu with rfl | rfl | rfl | rfl <;> rfl) (by unfold maxLen; omega) (by omega) (by rw [World.size_alloc]; omega) ?_; intro v5 w5 hown5 hgr5 _; have HO5 := Lib.hid hown5; have HB5 := Lib.hid (below_grown (HB4.out.alloc hbs4' _) (by rw [World.size_alloc]; omega) hgr5 (fun q e => HOB.out q e)); clear hown5 hgr5)
                    go_wp2_with fail
                    refine ⟨⟨E, l ++ [⟨2, [], V, k⟩], by go_num, by omega, HPUSH.out _ _ _ _ [] _ HT.out HO5.out, HB5.out, by rw [List.length_append, HM.out]; simp; omega, HLX.out⟩, ?_⟩
                    simp [intOf]; omega
              -- f>
            · have h3 : (cls c == 3) = false := by simpa using hK3
              simp only [h3] at hfg
              have HFG := Lib.hid hfg
              clear hfg h3
              by_cases hK5 : cls c = 5
              · -- <g
                have h5 : (cls c == 5 || cls c == 6) = true := by rw [hK5]; rfl
                simp only [h5] at hsg
                have HSG := Lib.hid hsg
                have hb5 : cls b.toNat = 5 := by rw [hc]; exact hK5
                have eA : stepA b r = .tok 3 [b] 0 := by unfold stepA; rw [if_neg (by omega), if_neg (by omega), if_neg (by omega), if_pos hb5]
                have eL : stepL b r = 1 := by unfold stepL; rw [if_neg (by omega), if_neg (by omega), if_neg (by omega)]
                rw [eA, eL] at hlxn
                obtain ⟨T, hT⟩ : ∃ T, str [b] = T := ⟨_, rfl⟩
                have HLX : Hid (res = Res.app (l ++ [⟨3, [b], 0, k⟩]) (lexGo bs.length (k + 1) (bs.drop (k + 1)))) := Lib.hid (by rw [hlxn, ← Res.app_cons])
                have hsl := HSUB.out k 1 (by rw [HN.out]; omega)
                rw [hbr] at hsl
                have hsl' : ∀ W, (Instr.slice 9 (.string s) (some (.int .i64 (k : Int))) (some (.int .i64 ((k : Int) + 1))) none).run Tryd.prog W = .ok (.string T) W := by rw [← hT]; exact hsl
                have HT := Lib.hid hT
                clear eA eL hlxn hsl hT hsg h5 hb5 hbr hc hlen hK1 hK2 hK3 hK5 hK6' h47
                go_wp2_with fail
                refine (HSP.out _).mono ?_
                rintro e wr ⟨rfl, rfl⟩
                go_wp2_with fail
                refine (HLT.out _).mono ?_
                rintro e wr ⟨rfl, rfl⟩
                go_wp2_with fail
                refine (HFG.out _).mono ?_
                rintro e wr ⟨rfl, rfl⟩
                go_wp2_with fail
                refine (HSG.out _).mono ?_
                rintro e wr ⟨rfl, rfl⟩
                go_wp2_with (at_builtin; refine wpList_append_own _ rfl (.tmp 128) (.tmp 135) 23 rfl w.heap.size 35 i0 _ 4 40 Tryd.underlying23 hi hz0 hz2 hz3 rfl (by omega) u5 m xs rfl (HOWN.out.alloc _) ⟨wr.heap.size, 0, none⟩ 1 1 [.int .i64 3, .string T, .int .i64 0, .int .i64 (k : Int)] rfl rfl (cells_new4 _ _ _ _ _ _) (by intro u hu; simp at hu; rcases hu with rfl | rfl | rfl | rfl <;> rfl) (by unfold maxLen; omega) (by omega) (by rw [World.size_alloc]; omega) ?_; intro v5 w5 hown5 hgr5 _; have HO5 := Lib.hid hown5; have HB5 := Lib.hid (below_grown (HB.out.alloc hbs _) (by rw [World.size_alloc]; omega) hgr5 (fun q e => HOB.out q e)); clear hown5 hgr5)
                go_wp2_with fail
                refine ⟨⟨k + 1, l ++ [⟨3, [b], 0, k⟩], by go_num, by omega, HPUSH.out _ _ _ _ [b] _ HT.out HO5.out, HB5.out, by rw [List.length_append, HM.out]; simp; omega, HLX.out⟩, ?_⟩
                simp [intOf]; omega
                -- g>
              · -- <h
                have h5 : (cls c == 5 || cls c == 6) = false := by simp [hK5, hK6']
                simp only [h5] at hsg
                have HSG := Lib.hid hsg
                have eA : stepA b r = .no := by rw [← hc] at hK1 hK2 hK3 hK5 hK6'; unfold stepA; rw [if_neg hK1, if_neg hK2, if_neg hK3, if_neg hK5, if_neg hK6']
                rw [eA] at hlxn
                have hr : res = .bad k := hlxn
                subst hr
                clear hlxn eA hsg h5 hbr hc hlen hK1 hK2 hK3 hK5 hK6' h47
                go_wp2_with fail
                refine (HSP.out _).mono ?_
                rintro e wr ⟨rfl, rfl⟩
                go_wp2_with fail
                refine (HLT.out _).mono ?_
                rintro e wr ⟨rfl, rfl⟩
                go_wp2_with fail
                refine (HFG.out _).mono ?_
                rintro e wr ⟨rfl, rfl⟩
                go_wp2_with fail
                refine (HSG.out _).mono ?_
                rintro e wr ⟨rfl, rfl⟩
                go_wp2
                go_ret3
                exact ⟨HB.out, rfl⟩
                -- h>
    · obtain rfl : k = N := by omega
      have d : decide ((k : Int) < (k : Int)) = false := by simp
      have hr : res = .ok l := by
        rw [hlx, List.drop_eq_nil_of_le (by rw [HN.out]; omega), lexGo_nil]; unfold Res.app; simp
      subst hr
      clear hlx hkN HIX HSUB
      go_wp2
      go_ret3
      exact ⟨HB.out, _, _, rfl, Nat.le_refl _, HOWN.out⟩
end Go.Proofs.YtdcdldjbdjochaaDoor
