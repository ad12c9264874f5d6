/- The law LexPlaces, walked. -/
import Derived.Test.YtdcdldjbdjochaaDoorLpp
import Derived.Test.YtdcdldjbdjochaaDoorSpl
import Derived.Test.YtdcdldjbdjochaaDoorRcl
import Derived.Test.YtdcdldjbdjochaaDoorRlx
import Derived.Test.YtdcdldjbdjochaaDoorSne
namespace Go.Proofs.YtdcdldjbdjochaaDoor
open Go.RowKit

theorem gap_step {cm : Bool} {b : UInt8} {r : List UInt8} {f : Bool} (h : gapGo cm (b :: r) = some f) (nb : Bool) (hn : noteB cm b r = nb) : gapGo nb r = some f ∧ (nb = false → cls b.toNat = 1) := by
  rw [gapGo, hn] at h
  cases nb with
  | true => exact ⟨h, fun h => by cases h⟩
  | false =>
    by_cases hc : cls b.toNat = 1
    · have e : (cls b.toNat == 1) = true := by simpa using hc
      rw [e] at h
      exact ⟨h, fun _ => hc⟩
    · have e : (cls b.toNat == 1) = false := by simpa using hc
      rw [e] at h
      cases h
theorem gap_end {cm f : Bool} (h : gapGo cm [] = some f) : cm = f := by rw [gapGo] at h; injection h
/-- A byte of a gap, and what is behind it. -/
theorem seg_at (bs : List UInt8) (p G j : Nat) (hG : p + G ≤ bs.length) (hj : j < G) : ((bs.drop p).take G).drop j = (bs[p + j]'(by omega)) :: ((bs.drop p).take G).drop (j + 1) := by
  have hl : j < ((bs.drop p).take G).length := by rw [List.length_take, List.length_drop]; omega
  rw [List.drop_eq_getElem_cons hl, List.getElem_take, List.getElem_drop]
theorem seg_next (bs : List UInt8) (p G j : Nat) (hG : p + G ≤ bs.length) (hj : j < G) : (((bs.drop p).take G).drop j).head? = some (bs[p + j]'(by omega)) := by
  rw [seg_at bs p G j hG hj]; rfl

set_option maxRecDepth 100000 in
set_option maxHeartbeats 8000000 in
theorem lawPlaces (w : World) (s0 : ByteArray) (hT : Tab w) : Calls Tryd.prog 6 #[.string s0] w fun e w' => e = .returned (.bool true) ∧ Below w.heap.size w w' := by
  obtain ⟨bs, rfl⟩ : ∃ bs, s0 = str bs := ⟨s0.data.toList, (str_of s0).symm⟩
  have HT := Lib.hid hT
  have hsz := str_size bs
  have HSN := Lib.hid (sane_any w hT)
  have hix := fun j (hj : j < bs.length) W => run_str bs j hj W
  have hsub := fun s (hs : str bs = s) k L h => str_sub bs s hs k L h
  obtain ⟨N, hN⟩ : ∃ N, bs.length = N := ⟨_, rfl⟩
  have HN := Lib.hid hN
  obtain ⟨res, hres⟩ : ∃ res, lexAll bs = res := ⟨_, rfl⟩
  have hlx : N ≤ 3000 → ∀ W, Below w.heap.size w W → Calls Tryd.prog 11 #[.string (str bs)] W (LexPost W res) := fun h W hW => hres ▸ lex_any W bs (HT.out.below hW) (by omega)
  rw [hN] at hsz
  obtain ⟨s, hs⟩ : ∃ s, str bs = s := ⟨_, rfl⟩
  have hsub2 := hsub s hs
  simp only [hs] at hsz hlx hix ⊢
  have HIX := Lib.hid hix
  have HSUB := Lib.hid hsub2
  have HRES := Lib.hid hres
  clear hN hs hT hix hsub hsub2 hres
  by_cases hlong : 3000 < N
  · have d : decide (3000 < (N : Int)) = true := by simp; omega
    go_enter Tryd.func6, Tryd.ntmps6
    go_wp2_with fail
    refine HSN.out.mono ?_
    rintro e w1 ⟨rfl, hb1⟩
    have HB1 := Lib.hid hb1
    clear hb1
    go_wp2
    go_ret
    exact ⟨by simp, HB1.out⟩
  · have d : decide (3000 < (N : Int)) = false := by simp; omega
    have HLX := Lib.hid (hlx (by omega))
    clear hlx
    go_enter Tryd.func6, Tryd.ntmps6
    go_wp2_with fail
    refine HSN.out.mono ?_
    rintro e w1 ⟨rfl, hb1⟩
    have HB1 := Lib.hid hb1
    clear hb1 HSN
    go_wp2_with fail
    refine (HLX.out w1 HB1.out).mono ?_
    cases res with
    | bad p =>
      rintro e w2 ⟨hb2, he⟩
      have he : e = .returned (.tuple #[.slice none 0 0, .int .i64 p, .int .i64 30]) := he
      subst he
      have HB2 := Lib.hid (HB1.out.trans (hb2.mono HB1.out.size))
      clear hb2
      go_wp2
      go_ret
      exact ⟨by simp, HB2.out⟩
    | ok x =>
      rintro e w2 ⟨hb2, v2, B, rfl, hB, hown⟩
      obtain ⟨a2, c2, rfl⟩ := own_slice hown
      have ht2 := TRow.of_own hown
      have HB2 := Lib.hid (HB1.out.trans (hb2.mono HB1.out.size))
      have HT2 := Lib.hid ht2
      have HST := Lib.hid (lexAll_stand HRES.out)
      have HVA := Lib.hid (lexAll_toks HRES.out).1
      obtain ⟨_, _, he2, hl2, hm2, _⟩ := ht2
      injection he2 with hea _ hec
      subst hea; subst hec
      unfold maxLen at hm2
      obtain ⟨M, hM⟩ : ∃ M, x.length = M := ⟨_, rfl⟩
      have HM := Lib.hid hM
      rw [hM] at HT2 hl2 ⊢
      clear hb2 hown hB hM HRES HLX
      go_wp2_with fail
      go_loopw [6, 7] (fun i k wr => ∃ p q : Nat, i = .int .i64 p ∧ k = .int .i64 q ∧ q ≤ M ∧ p ≤ N ∧ Below w2.heap.size w2 wr ∧ Hid (Stand p (bs.drop p) (x.drop q))) (fun _ k _ => M + 1 - (intOf k).toNat)
      case atStart => exact ⟨0, 0, rfl, rfl, by omega, by omega, Below.refl _ _, HST⟩
      case round =>
        obtain ⟨p, q, rfl, rfl, hq, hp, hb, hst⟩ := hrel
        have hbs := hb.size
        have HB := Lib.hid (HB2.out.trans (hb.mono HB2.out.size))
        have dq : decide ((q : Int) ≤ (M : Int)) = true := by simp; omega
        clear HST
        by_cases hqM : q < M
        · -- <a
          have dM : decide ((q : Int) < (M : Int)) = true := by simp; omega
          have qi : (q : Int) < (M : Int) := by omega
          have hqx : q < x.length := by rw [HM.out]; exact hqM
          have hxq := List.drop_eq_getElem_cons hqx
          have hs0 := hst.out
          rw [hxq] at hs0
          have hb1 := HT2.out.below hb
          obtain ⟨b1, o1, rfl, hbl1, p0, p1, p2, p3⟩ := hb1.got q hqx
          have hvt : validT (x[q]'hqx) = true := List.all_eq_true.1 HVA.out _ (List.getElem_mem _)
          have hnt : (x[q]'hqx).kind = 2 → 0 ≤ (x[q]'hqx).n ∧ (x[q]'hqx).n ≤ 9223372036854775807 := fun hk => by
            unfold validT at hvt
            rw [if_neg (by omega), if_pos hk] at hvt
            simp at hvt
            omega
          have hspl := fun W => spelled_any W (x[q]'hqx) hnt
          unfold Tok.val at hspl
          obtain ⟨t, ht⟩ : ∃ t, x[q]'hqx = t := ⟨_, rfl⟩
          rw [ht] at hs0 p0 p1 p2 p3
          simp only [ht] at hspl
          obtain ⟨G, hat, htl, hGl, hg1, hg2, _, hs1⟩ := hs0
          rw [List.drop_drop] at hg2 hs1
          rw [List.length_drop, HN.out] at hGl
          obtain ⟨kd, tx, n, at_⟩ := t
          dsimp only at hspl p0 p1 p2 p3 hat
          obtain ⟨E, hE⟩ : ∃ E, p + G = E := ⟨_, rfl⟩
          rw [hE] at hat hg2 hs1
          subst hat
          obtain ⟨TX, hTX⟩ : ∃ X, textT ⟨kd, tx, n, (E : Nat)⟩ = X := ⟨_, rfl⟩
          rw [hTX] at htl hGl hg2 hs1
          simp only [hTX] at hspl
          have hsz2 := str_size TX
          obtain ⟨L, hL⟩ : ∃ L, TX.length = L := ⟨_, rfl⟩
          rw [hL] at htl hGl hg2 hs1 hsz2
          have hsl := HSUB.out E L (by rw [HN.out]; omega)
          rw [hg2] at hsl
          obtain ⟨S, hS⟩ : ∃ S, str TX = S := ⟨_, rfl⟩
          obtain ⟨x1, hx1⟩ : ∃ k, str tx = k := ⟨_, rfl⟩
          rw [hx1] at p1
          simp only [hS, hx1] at hspl
          rw [hS] at hsl hsz2
          have hsl' : ∀ W, (Instr.slice 9 (.string s) (some (.int .i64 (E : Int))) (some (.int .i64 ((E : Int) + (L : Int)))) none).run Tryd.prog W = .ok (.string S) W := hsl
          have HSPL := Lib.hid hspl
          have HS1 : Hid (Stand (E + L) (bs.drop (E + L)) (x.drop (q + 1))) := Lib.hid (by rw [show p + (G + L) = E + L by omega] at hs1; exact hs1)
          have HG0 : Hid (gapGo false (((bs.drop p).take G).drop 0) = some false) := Lib.hid hg1
          have HBR := Lib.hid hb
          have dS2 : (S.toList != S.toList) = false := by simp
          have e1 : decide ((E : Int) < (p : Int)) = false := by simp; omega
          have e2 : decide ((N : Int) < (E : Int)) = false := by simp; omega
          have e3 : ((q : Int) == (M : Int)) = false := by simp; omega
          have e4 : ((L : Int) == 0) = false := by simp; omega
          have e5 : decide ((N : Int) < (E : Int) + (L : Int)) = false := by simp; omega
          have f1 : ¬ (E < p) := by omega
          have f2 : ¬ (N < E) := by omega
          have f5 : ¬ (N < E + L) := by omega
          have hEN : E + L ≤ N := by omega
          clear hxq hst hb1 hvt hnt ht hspl hg1 hg2 hs1 hTX hL hsl hS hx1 hb
          go_wp2_with fail
          go_loopw [6, 9] (fun i c9 wx => ∃ (j : Nat) (cm : Bool), i = .int .i64 ((p + j : Nat) : Int) ∧ c9 = .bool cm ∧ j ≤ G ∧ gapGo cm (((bs.drop p).take G).drop j) = some false ∧ wx = wr) (fun i _ _ => E - (intOf i).toNat)
          case atStart => exact ⟨0, false, rfl, rfl, by omega, HG0.out, rfl⟩
          case round =>
            obtain ⟨j, cm, rfl, rfl, hj, hgap, rfl⟩ := hrel
            by_cases hjG : j < G
            · have hsa := seg_at bs p G j (by rw [HN.out]; omega) hjG
              rw [hsa] at hgap
              have hxj := HIX.out (p + j) (by rw [HN.out]; omega)
              have hnext : (((bs.drop p).take G).drop (j + 1)).head? = if h : j + 1 < G then some (bs[p + (j + 1)]'(by rw [HN.out]; omega)) else none := by
                by_cases h : j + 1 < G
                · rw [dif_pos h]; exact seg_next bs p G (j + 1) (by rw [HN.out]; omega) h
                · rw [dif_neg h, List.drop_eq_nil_of_le (by rw [List.length_take]; omega)]; rfl
              obtain ⟨b, hbj⟩ : ∃ b, bs[p + j]'(by rw [HN.out]; omega) = b := ⟨_, rfl⟩
              rw [hbj] at hgap hxj
              obtain ⟨r, hr⟩ : ∃ r, ((bs.drop p).take G).drop (j + 1) = r := ⟨_, rfl⟩
              rw [hr] at hgap hnext
              have HR := Lib.hid hr
              obtain ⟨c, hc⟩ : ∃ c, b.toNat = c := ⟨_, rfl⟩
              rw [hc] at hxj
              have hc256 : c < 256 := by rw [← hc]; exact UInt8.toNat_lt _
              obtain ⟨I, hI⟩ : ∃ I, p + j = I := ⟨_, rfl⟩
              have hxI : ∀ W, (Instr.index 9 (.string s) (.int .i64 (I : Int))).run Tryd.prog W = .ok (.int .u8 c) W := by rw [← hI]; exact hxj
              have hIE : I < E := by omega
              have dI : decide ((I : Int) < (E : Int)) = true := by simp; omega
              rw [hI] at ⊢
              clear hxj hsa hbj hr
              by_cases c10 : c = 10
              · subst c10
                clear hnext
                have hst2 := gap_step hgap false (by unfold noteB; rw [hc]; rfl)
                have HGP := Lib.hid hst2.1
                have hsp : ∀ W, Calls Tryd.prog 21 #[.int .u8 10] W fun e w' => e = .returned (.bool true) ∧ w' = W := fun W => rspace_any W 10
                have HSP := Lib.hid hsp
                clear hsp
                clear hst2 hgap hc 
                go_wp2_with fail
                refine (HSP.out _).mono ?_
                rintro e wr ⟨rfl, rfl⟩
                go_wp2_with fail
                refine ⟨⟨j + 1, false, by rw [← hI]; go_num, rfl, by omega, by rw [HR.out]; exact HGP.out, trivial⟩, ?_⟩
                simp [intOf]; omega
              · have n10 : ((c : Int) != 10) = true := by simp; omega
                have b10 : (c == 10) = false := by simpa using c10
                cases cm with
                | true =>
                  clear hnext
                  have hst2 := gap_step hgap true (by unfold noteB; rw [hc, b10]; rfl)
                  have HGP := Lib.hid hst2.1
                  clear hst2 hgap hc c10 b10
                  go_wp2_with fail
                  refine ⟨⟨j + 1, true, by rw [← hI]; go_num, rfl, by omega, by rw [HR.out]; exact HGP.out, trivial⟩, ?_⟩
                  simp [intOf]; omega
                | false =>
                  by_cases c47 : c = 47
                  · subst c47
                    by_cases hj1 : j + 1 < G
                    · have dj : decide ((I : Int) + 1 < (E : Int)) = true := by simp; omega
                      have ij : I + 1 < E := by omega
                      rw [dif_pos hj1] at hnext
                      have hx2 := HIX.out (p + (j + 1)) (by rw [HN.out]; omega)
                      obtain ⟨b2, hb2⟩ : ∃ b, bs[p + (j + 1)]'(by rw [HN.out]; omega) = b := ⟨_, rfl⟩
                      rw [hb2] at hnext hx2
                      obtain ⟨c2, hc2⟩ : ∃ c, b2.toNat = c := ⟨_, rfl⟩
                      rw [hc2] at hx2
                      have hxJ : ∀ W, (Instr.index 9 (.string s) (.int .i64 ((I : Int) + 1))).run Tryd.prog W = .ok (.int .u8 c2) W := by
                        rw [show (I : Int) + 1 = ((p + (j + 1) : Nat) : Int) by omega]; exact hx2
                      clear hx2 hb2
                      by_cases c247 : c2 = 47
                      · subst c247
                        have hst2 := gap_step hgap true (by unfold noteB; rw [hc, hnext, UInt8.toNat_inj.1 (show b2.toNat = (47 : UInt8).toNat from hc2)]; rfl)
                        have HGP := Lib.hid hst2.1
                        clear hst2 hgap hc hnext hc2 c10 b10
                        go_wp2_with fail
                        refine ⟨⟨j + 1, true, by rw [← hI]; go_num, rfl, by omega, by rw [HR.out]; exact HGP.out, trivial⟩, ?_⟩
                        simp [intOf]; omega
                      · have n47 : ((c2 : Int) == 47) = false := by simp; omega
                        have hst2 := gap_step hgap false (by have e : (some b2 == some (47 : UInt8)) = false := beq_eq_false_iff_ne.2 (fun h => c247 (by rw [← hc2, Option.some.inj h]; rfl)); unfold noteB; rw [hc, hnext, e]; rfl)
                        exact absurd (hst2.2 rfl) (by rw [hc]; decide)
                    · have dj : decide ((I : Int) + 1 < (E : Int)) = false := by simp; omega
                      have ij : ¬ (I + 1 < E) := by omega
                      rw [dif_neg hj1] at hnext
                      have hst2 := gap_step hgap false (by unfold noteB; rw [hc, hnext]; rfl)
                      exact absurd (hst2.2 rfl) (by rw [hc]; decide)
                  · have n47 : ((c : Int) == 47) = false := by simp; omega
                    clear hnext
                    have hst2 := gap_step hgap false (by have e : (c == 47) = false := beq_eq_false_iff_ne.2 c47; unfold noteB; rw [hc, e]; simp)
                    have HGP := Lib.hid hst2.1
                    have hsp := fun W => rspace_any W c
                    have h1 : (cls c == 1) = true := by have := hst2.2 rfl; rw [hc] at this; simpa using this
                    simp only [h1] at hsp
                    have HSP := Lib.hid hsp
                    clear hsp h1
                    clear hst2 hgap hc c10 b10 c47
                    go_wp2_with fail
                    refine (HSP.out _).mono ?_
                    rintro e wr ⟨rfl, rfl⟩
                    go_wp2_with fail
                    refine ⟨⟨j + 1, false, by rw [← hI]; go_num, rfl, by omega, by rw [HR.out]; exact HGP.out, trivial⟩, ?_⟩
                    simp [intOf]; omega
            · obtain rfl : j = G := by omega
              rw [List.drop_eq_nil_of_le (by rw [List.length_take]; omega)] at hgap
              have hcm := gap_end hgap
              subst hcm
              have hI : p + j = E := hE
              rw [hI] at ⊢
              have dI : decide ((E : Int) < (E : Int)) = false := by simp
              clear hgap
              go_wp2_with fail
              refine (HSPL.out _).mono ?_
              rintro e w5 ⟨rfl, hb5⟩
              have HB5 := Lib.hid (HBR.out.trans (hb5.mono hbs))
              clear hb5 HSPL
              go_wp2_with fail
              refine ⟨⟨E + L, q + 1, by go_num, by go_num, by omega, hEN, HB5.out, HS1⟩, ?_⟩
              simp [intOf]; omega
          -- a>
        · -- <b
          obtain rfl : q = M := by omega
          have dM : decide ((q : Int) < (q : Int)) = false := by simp
          have hs0 := hst.out
          rw [show x.drop q = [] from List.drop_eq_nil_of_le (by rw [HM.out]; omega)] at hs0
          obtain ⟨fin, hg1⟩ := hs0
          obtain ⟨G, hG⟩ : ∃ G, N - p = G := ⟨_, rfl⟩
          have hE : p + G = N := by omega
          have HG0 : Hid (gapGo false (((bs.drop p).take G).drop 0) = some fin) := Lib.hid (by rw [List.take_of_length_le (by rw [List.length_drop, HN.out]; omega)]; exact hg1)
          have e1 : decide ((N : Int) < (p : Int)) = false := by simp; omega
          have e2 : decide ((N : Int) < (N : Int)) = false := by simp
          have f1 : ¬ (N < p) := by omega
          clear hst hg1 hb
          go_wp2_with fail
          go_loopw [6, 9] (fun i c9 wx => ∃ (j : Nat) (cm : Bool), i = .int .i64 ((p + j : Nat) : Int) ∧ c9 = .bool cm ∧ j ≤ G ∧ gapGo cm (((bs.drop p).take G).drop j) = some fin ∧ wx = wr) (fun i _ _ => N - (intOf i).toNat)
          case atStart => exact ⟨0, false, rfl, rfl, by omega, HG0.out, rfl⟩
          case round =>
            obtain ⟨j, cm, rfl, rfl, hj, hgap, rfl⟩ := hrel
            by_cases hjG : j < G
            · have hsa := seg_at bs p G j (by rw [HN.out]; omega) hjG
              rw [hsa] at hgap
              have hxj := HIX.out (p + j) (by rw [HN.out]; omega)
              have hnext : (((bs.drop p).take G).drop (j + 1)).head? = if h : j + 1 < G then some (bs[p + (j + 1)]'(by rw [HN.out]; omega)) else none := by
                by_cases h : j + 1 < G
                · rw [dif_pos h]; exact seg_next bs p G (j + 1) (by rw [HN.out]; omega) h
                · rw [dif_neg h, List.drop_eq_nil_of_le (by rw [List.length_take]; omega)]; rfl
              obtain ⟨b, hbj⟩ : ∃ b, bs[p + j]'(by rw [HN.out]; omega) = b := ⟨_, rfl⟩
              rw [hbj] at hgap hxj
              obtain ⟨r, hr⟩ : ∃ r, ((bs.drop p).take G).drop (j + 1) = r := ⟨_, rfl⟩
              rw [hr] at hgap hnext
              have HR := Lib.hid hr
              obtain ⟨c, hc⟩ : ∃ c, b.toNat = c := ⟨_, rfl⟩
              rw [hc] at hxj
              have hc256 : c < 256 := by rw [← hc]; exact UInt8.toNat_lt _
              obtain ⟨I, hI⟩ : ∃ I, p + j = I := ⟨_, rfl⟩
              have hxI : ∀ W, (Instr.index 9 (.string s) (.int .i64 (I : Int))).run Tryd.prog W = .ok (.int .u8 c) W := by rw [← hI]; exact hxj
              have hIE : I < N := by omega
              have dI : decide ((I : Int) < (N : Int)) = true := by simp; omega
              rw [hI] at ⊢
              clear hxj hsa hbj hr
              by_cases c10 : c = 10
              · subst c10
                clear hnext
                have hst2 := gap_step hgap false (by unfold noteB; rw [hc]; rfl)
                have HGP := Lib.hid hst2.1
                have hsp : ∀ W, Calls Tryd.prog 21 #[.int .u8 10] W fun e w' => e = .returned (.bool true) ∧ w' = W := fun W => rspace_any W 10
                have HSP := Lib.hid hsp
                clear hsp
                clear hst2 hgap hc 
                go_wp2_with fail
                refine (HSP.out _).mono ?_
                rintro e wr ⟨rfl, rfl⟩
                go_wp2_with fail
                refine ⟨⟨j + 1, false, by rw [← hI]; go_num, rfl, by omega, by rw [HR.out]; exact HGP.out, trivial⟩, ?_⟩
                simp [intOf]; omega
              · have n10 : ((c : Int) != 10) = true := by simp; omega
                have b10 : (c == 10) = false := by simpa using c10
                cases cm with
                | true =>
                  clear hnext
                  have hst2 := gap_step hgap true (by unfold noteB; rw [hc, b10]; rfl)
                  have HGP := Lib.hid hst2.1
                  clear hst2 hgap hc c10 b10
                  go_wp2_with fail
                  refine ⟨⟨j + 1, true, by rw [← hI]; go_num, rfl, by omega, by rw [HR.out]; exact HGP.out, trivial⟩, ?_⟩
                  simp [intOf]; omega
                | false =>
                  by_cases c47 : c = 47
                  · subst c47
                    by_cases hj1 : j + 1 < G
                    · have dj : decide ((I : Int) + 1 < (N : Int)) = true := by simp; omega
                      have ij : I + 1 < N := by omega
                      rw [dif_pos hj1] at hnext
                      have hx2 := HIX.out (p + (j + 1)) (by rw [HN.out]; omega)
                      obtain ⟨b2, hb2⟩ : ∃ b, bs[p + (j + 1)]'(by rw [HN.out]; omega) = b := ⟨_, rfl⟩
                      rw [hb2] at hnext hx2
                      obtain ⟨c2, hc2⟩ : ∃ c, b2.toNat = c := ⟨_, rfl⟩
                      rw [hc2] at hx2
                      have hxJ : ∀ W, (Instr.index 9 (.string s) (.int .i64 ((I : Int) + 1))).run Tryd.prog W = .ok (.int .u8 c2) W := by
                        rw [show (I : Int) + 1 = ((p + (j + 1) : Nat) : Int) by omega]; exact hx2
                      clear hx2 hb2
                      by_cases c247 : c2 = 47
                      · subst c247
                        have hst2 := gap_step hgap true (by unfold noteB; rw [hc, hnext, UInt8.toNat_inj.1 (show b2.toNat = (47 : UInt8).toNat from hc2)]; rfl)
                        have HGP := Lib.hid hst2.1
                        clear hst2 hgap hc hnext hc2 c10 b10
                        go_wp2_with fail
                        refine ⟨⟨j + 1, true, by rw [← hI]; go_num, rfl, by omega, by rw [HR.out]; exact HGP.out, trivial⟩, ?_⟩
                        simp [intOf]; omega
                      · have n47 : ((c2 : Int) == 47) = false := by simp; omega
                        have hst2 := gap_step hgap false (by have e : (some b2 == some (47 : UInt8)) = false := beq_eq_false_iff_ne.2 (fun h => c247 (by rw [← hc2, Option.some.inj h]; rfl)); unfold noteB; rw [hc, hnext, e]; rfl)
                        exact absurd (hst2.2 rfl) (by rw [hc]; decide)
                    · have dj : decide ((I : Int) + 1 < (N : Int)) = false := by simp; omega
                      have ij : ¬ (I + 1 < N) := by omega
                      rw [dif_neg hj1] at hnext
                      have hst2 := gap_step hgap false (by unfold noteB; rw [hc, hnext]; rfl)
                      exact absurd (hst2.2 rfl) (by rw [hc]; decide)
                  · have n47 : ((c : Int) == 47) = false := by simp; omega
                    clear hnext
                    have hst2 := gap_step hgap false (by have e : (c == 47) = false := beq_eq_false_iff_ne.2 c47; unfold noteB; rw [hc, e]; simp)
                    have HGP := Lib.hid hst2.1
                    have hsp := fun W => rspace_any W c
                    have h1 : (cls c == 1) = true := by have := hst2.2 rfl; rw [hc] at this; simpa using this
                    simp only [h1] at hsp
                    have HSP := Lib.hid hsp
                    clear hsp h1
                    clear hst2 hgap hc c10 b10 c47
                    go_wp2_with fail
                    refine (HSP.out _).mono ?_
                    rintro e wr ⟨rfl, rfl⟩
                    go_wp2_with fail
                    refine ⟨⟨j + 1, false, by rw [← hI]; go_num, rfl, by omega, by rw [HR.out]; exact HGP.out, trivial⟩, ?_⟩
                    simp [intOf]; omega
            · obtain rfl : j = G := by omega
              rw [List.drop_eq_nil_of_le (by rw [List.length_take]; omega)] at hgap
              have hcm := gap_end hgap
              subst hcm
              have hI : p + j = N := hE
              rw [hI] at ⊢
              have dI : decide ((N : Int) < (N : Int)) = false := by simp
              clear hgap
              go_wp2
              go_ret
              exact ⟨by simp, HB.out⟩
          -- b>
end Go.Proofs.YtdcdldjbdjochaaDoor
