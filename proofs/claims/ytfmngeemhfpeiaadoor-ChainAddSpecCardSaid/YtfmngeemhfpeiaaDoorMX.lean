/- The reference's Add. The reference's Part. ChainAddSpec: the law's walk. -/
import Derived.Test.YtfmngeemhfpeiaaDoorMW
import Derived.Test.YtfmngeemhfpeiaaDoorMF
namespace Go.Proofs.YtfmngeemhfpeiaaDoor
open Go.RowKit

theorem LCells.one1 {w : World} {B : Nat} {l : List Lk} {cs : List Value} (h : LCells w B l cs) (hok : ∀ x ∈ l, x.ok) : ∀ u ∈ cs, u.oneCell' = true := by
  intro u hu
  obtain ⟨p, hp, rfl⟩ := List.getElem_of_mem hu
  have hcl := h.len
  have hi : p / 35 < l.length := by omega
  obtain ⟨d, a1, a2⟩ := h.at_ (p / 35) hi
  have hl35 := lcells_len l[p / 35] d (hok _ (List.getElem_mem hi)).1
  have hj : p % 35 < (lcells l[p / 35] d).length := by rw [hl35]; omega
  have h3 := a1 (p % 35) _ (List.getElem?_eq_getElem hj)
  rw [show p / 35 * 35 + p % 35 = p by omega, List.getElem?_eq_getElem hp] at h3
  injection h3 with h3
  rw [h3]
  obtain ⟨da, dc, rfl, _⟩ := a2
  exact lcells_one _ _ rfl _ (List.getElem_mem hj)
theorem l_copy2 (W : World) (a : Option Addr) (l : List Lk) (cap : Nat) (h : LRow W W.heap.size (.slice a l.length cap) l) (hs : l.length ≤ 100000) :
    ∃ g1 c1 W1 cs, (Builtin.append_ #[44, 44] 44 #[.slice (some ⟨W.heap.size, 0, none⟩) 0 0, .slice a l.length cap]).run Tryd.prog (W.alloc (.cells #[] 55)) = .ok (.slice (some ⟨g1, 0, none⟩) l.length c1) W1 ∧
      W1.ownsRow W.heap.size 55 35 (.slice (some ⟨g1, 0, none⟩) l.length c1) l.length cs ∧ LCells W W.heap.size l cs ∧ Below W.heap.size W W1 := by
  obtain ⟨i, hi, hz0, hz1, hz2⟩ := info_parts Tryd.info55y
  obtain ⟨cs, h3, h4, h5⟩ := h.cells
  have hb0 : Below W.heap.size W (W.alloc (.cells #[] 55)) := (Below.refl _ _).alloc (Nat.le_refl _) _
  have hO0 : (W.alloc (.cells #[] 55)).ownsRow W.heap.size 55 35 (.slice (some ⟨W.heap.size, 0, none⟩) 0 0) 0 [] :=
    World.ownsRow_lit (base := W.heap.size) W #[] 0 (Nat.le_refl _) (by unfold maxLen; omega) rfl
  have hP : Piece (W.alloc (.cells #[] 55)) (.slice a l.length cap) l.length cs := by
    by_cases hl : l = []
    · subst hl
      exact ⟨_, _, rfl, .inl ⟨rfl, h5 rfl⟩⟩
    · obtain ⟨b, off, rfl, hb, h9⟩ := h4 hl
      exact piece_row (fun j v hv => (hb0.cell (p := ⟨b, off + j, none⟩) hb).trans (h9 j v hv))
  obtain ⟨g1, c1, W1, hrun, hO, hG, _⟩ := piece_run 44 55 i _ 35 72 Tryd.underlying44 hi hz0 hz1 hz2 rfl (by omega) hO0 hP h3.len (h3.one1 h.1) (by unfold maxLen; omega) (by omega) hb0.size 44
  rw [Nat.zero_add] at hrun hO
  exact ⟨g1, c1, W1, cs, hrun, hO, h3, hb0.grown hG hb0.size (fun k e => by cases e; exact Nat.le_refl _)⟩
theorem l_more (W : World) (B g c : Nat) (l : List Lk) (cs : List Value) (hO : W.ownsRow B 55 35 (.slice (some ⟨g, 0, none⟩) l.length c) l.length cs) (hC : LCells W B l cs) (hok : ∀ y ∈ l, y.ok) (hB : B ≤ W.heap.size) (g3 : Nat) (x : Lk) (hx : x.ok) (d : Value) (hd : BytesAt W B d x.data) (hg : W.rangeAt g3 0 (lcells x d)) (hs : l.length ≤ 100000) :
    ∃ v' W', (Builtin.append_ #[44, 44] 44 #[.slice (some ⟨g, 0, none⟩) l.length c, .slice (some ⟨g3, 0, none⟩) 1 1]).run Tryd.prog W = .ok v' W' ∧ LRow W' W'.heap.size v' (l ++ [x]) ∧ Below B W W' := by
  obtain ⟨i, hi, hz0, hz1, hz2⟩ := info_parts Tryd.info55y
  have hC1 := LCells.one hx.1 hd
  have hxs : ∀ y ∈ [x], y.ok := fun y hy => by simp only [List.mem_singleton] at hy; rw [hy]; exact hx
  obtain ⟨g1, c1, W1, hrun, hO1, hG, _⟩ := piece_run 44 55 i _ 35 72 Tryd.underlying44 hi hz0 hz1 hz2 rfl (by omega) hO (piece_row (n := 1) (c := 1) hg) (by rw [lcells_len x d hx.1]) (hC1.one1 hxs) (by unfold maxLen; omega) (by omega) hB 44
  have hgB : B ≤ g := by
    rcases hO.2 with ⟨h, _⟩ | ⟨g', cap', cur, h, hbg, _⟩
    · cases h
    · injection h with h _ _
      injection h with h
      injection h with h _
      omega
  have hb : Below B W W1 := (Below.refl B W).grown hG hB (fun k e => by cases e; exact hgB)
  have hsz : W.heap.size ≤ W1.heap.size := hG.size
  have hcells := @World.ownsRow.cells _ _ _ _ _ _ _ hO1 g1 rfl
  have hparts : g1 < W1.heap.size ∧ l.length + 1 ≤ c1 ∧ c1 ≤ maxLen := by
    rcases hO1.2 with ⟨h, _⟩ | ⟨g', cap', cur, h, _, hgg, h1, h2, _⟩
    · cases h
    · injection h with h h3 h4
      injection h with h
      injection h with h _
      subst h
      subst h4
      have hlt : g1 < W1.heap.size := by
        by_cases hlt : g1 < W1.heap.size
        · exact hlt
        · rw [Array.getElem?_eq_none (by omega)] at hgg
          cases hgg
      exact ⟨hlt, h1, h2⟩
  refine ⟨_, W1, hrun, ?_, hb⟩
  have hr := LCells.row (B := W1.heap.size) (g := g1) (cap := c1) (((hC.app hC1).below hb).mono (by omega)) (fun y hy => by
    rcases List.mem_append.1 hy with h | h
    · exact hok y h
    · exact hxs y h) (fun j u hu => by have := hcells j u hu; rwa [Addr.add_mid, Nat.zero_add] at this) hparts.1 (by rw [List.length_append]; exact hparts.2.1) hparts.2.2
  rw [List.length_append] at hr
  exact hr

set_option maxRecDepth 100000 in
set_option maxHeartbeats 8000000 in
theorem radd_any (w : World) (v u : Value) (l : List Lk) (n : Int) (d : List UInt8) (hn : K.In64 n) (hv : LRow w w.heap.size v l) (hq : l.length ≤ 100000) (hu : BytesAt w w.heap.size u d) :
    Calls Tryd.prog 36 #[v, .int .i64 n, u] w fun e w' => ∃ v', e = .returned (.tuple #[v', .int .i64 (addErr l n d)]) ∧ LRow w' w'.heap.size v' (added l n d) ∧ Below w.heap.size w w' := by
  have hck : ∀ W, Below w.heap.size w W → Calls Tryd.prog 32 #[v] W fun e w' => e = .returned (.int .i64 (chk l)) ∧ Below W.heap.size W w' := fun W hW => rcheck_any W v l (hv.at hW) hq
  have hhr : ∀ W, Below w.heap.size w W → Calls Tryd.prog 34 #[v] W fun e w' => e = .returned (.agg (cells8 (hd l)).toArray) ∧ Below W.heap.size W w' := fun W hW => rhead_any W v l (hv.at hW)
  have HV := Lib.hid hv
  obtain ⟨a, cap, rfl, h1, h2⟩ := hv.shape
  obtain ⟨da, dcap, rfl, k1, k2, _⟩ := id hu
  have HD := Lib.hid hu
  obtain ⟨R, hR⟩ : ∃ R, addErr l n d = R := ⟨_, rfl⟩
  have hR2 := hR
  unfold addErr at hR2
  have hadd : added l n d = if R = 0 then l ++ [⟨n, l.length, hd l, d⟩] else [] := by unfold added; rw [hR]
  obtain ⟨LL, hLL⟩ : ∃ LL, added l n d = LL := ⟨_, rfl⟩
  rw [hR, hLL]
  rw [hLL] at hadd
  have hnil : ∀ W : World, LRow W W.heap.size (.slice none 0 0) [] := fun W => LRow.nil W _
  obtain ⟨N, hN⟩ : ∃ N, l.length = N := ⟨_, rfl⟩
  obtain ⟨M, hM⟩ : ∃ M, d.length = M := ⟨_, rfl⟩
  have hB0 : l.length = 0 → bel l n = true := fun h => by rw [List.eq_nil_of_length_eq_zero h]; rfl
  have hB1 : ∀ h : 0 < l.length, (bel l n = true ↔ n = l[0].node) := fun h => bel_iff h n
  rw [hN] at hck hhr h1 hq hR2 hadd hB0 ⊢
  rw [hM] at HD k1 hR2 ⊢
  have hxok : M ≤ 65536 → Lk.ok ⟨n, N, hd l, d⟩ := fun h => ⟨hd_len l, hn, by unfold K.In64; simp only; omega, by simp only; omega⟩
  have hR1 : chk l = 0 → ¬ ((0 ≤ n ∧ n < 24) ∧ bel l n = true ∧ M ≤ 65536) → 1 = R := fun hc h => by
    rw [← hR2, if_neg (by simpa using hc), if_pos]
    by_cases x1 : 0 ≤ n ∧ n < 24 <;> by_cases x2 : bel l n = true <;> by_cases x3 : M ≤ 65536 <;> simp_all
  have hR20 : chk l = 0 → ((0 ≤ n ∧ n < 24) ∧ bel l n = true ∧ M ≤ 65536) → N = 1024 → 2 = R := fun hc h hk => by
    rw [← hR2, if_neg (by simpa using hc), if_neg (by simp [h.1, h.2.1, h.2.2]), if_pos hk]
  have hR00 : chk l = 0 → ((0 ≤ n ∧ n < 24) ∧ bel l n = true ∧ M ≤ 65536) → ¬ N = 1024 → 0 = R := fun hc h hk => by
    rw [← hR2, if_neg (by simpa using hc), if_neg (by simp [h.1, h.2.1, h.2.2]), if_neg hk]
  have hRE : chk l ≠ 0 → chk l = R := fun hc => by rw [← hR2, if_pos hc]
  have HCK := Lib.hid hck
  have HHR := Lib.hid hhr
  have HN := Lib.hid hN
  have HXO := Lib.hid hxok
  have HNIL := Lib.hid (fun (h : R ≠ 0) (W : World) => (show LRow W W.heap.size (.slice none 0 0) LL by rw [hadd, if_neg h]; exact hnil W))
  have HSOME := Lib.hid (fun (h : R = 0) => (show LL = l ++ [⟨n, N, hd l, d⟩] by rw [hadd, if_pos h]))
  have HBL0 := Lib.hid hB0
  have HBL1 := Lib.hid hB1
  unfold maxLen at h2 k2
  obtain ⟨E, hE⟩ : ∃ E, chk l = E := ⟨_, rfl⟩
  rw [hE] at HCK hR1 hR20 hR00 hRE
  clear hck hhr hN hxok hnil hu hR hLL hadd hM hn hR2 hB0 hB1 hv hE
  by_cases hE0 : E = 0
  case neg =>
    have hr := hRE hE0
    subst hr
    have g1 : (E == 0) = false := by simp [hE0]
    have g2 : (E != 0) = true := by simp [hE0]
    clear hR1 hR20 hR00 hRE
    go_enter Tryd.func36, Tryd.ntmps36
    go_wp2_with fail
    refine (HCK.out _ (Below.refl _ _)).mono ?_
    rintro e w1 ⟨rfl, hb1⟩
    go_wp2
    go_returns
    exact ⟨_, rfl, HNIL.out hE0 _, hb1⟩
  subst hE0
  have HR1 := Lib.hid (hR1 rfl)
  have HR2 := Lib.hid (hR20 rfl)
  have HR0 := Lib.hid (hR00 rfl)
  clear hR1 hR20 hR00 hRE
  go_enter Tryd.func36, Tryd.ntmps36
  go_wp2_with fail
  refine (HCK.out _ (Below.refl _ _)).mono ?_
  rintro e w1 ⟨rfl, hb1⟩
  have HB1 := Lib.hid hb1
  clear hb1
  by_cases k1' : n < 0
  · have g1 : decide (n < 0) = true := by simp; omega
    have hr : 1 = R := HR1.out (fun h => absurd h.1.1 (by omega))
    subst hr
    go_wp2
    go_returns
    exact ⟨_, rfl, HNIL.out (by decide) _, HB1.out⟩
  have g1 : decide (n < 0) = false := by simp; omega
  by_cases k2' : 24 ≤ n
  · have g2 : decide (n ≥ 24) = true := by simp; omega
    have g2' : decide (24 ≤ n) = true := by simp; omega
    have hr : 1 = R := HR1.out (fun h => absurd h.1.2 (by omega))
    subst hr
    go_wp2
    go_returns
    exact ⟨_, rfl, HNIL.out (by decide) _, HB1.out⟩
  have g2 : decide (n ≥ 24) = false := by simp; omega
  have g2' : decide (24 ≤ n) = false := by simp; omega
  by_cases kN : N = 0
  · have HBEL := HBL0.out kN
    have g3 : decide ((N : Int) > 0) = false := by simp; omega
    have g3' : decide ((0 : Int) < (N : Int)) = false := by simp; omega
    have g3'' : decide (0 < N) = false := by simp; omega
    have HKN := Lib.hid kN
    clear kN
    by_cases k5 : 65536 < M
    · have g5 : decide ((65536 : Int) < (M : Int)) = true := by simp; omega
      have g5' : decide ((M : Int) > 65536) = true := by simp; omega
      have g5'' : decide (65536 < M) = true := by simp; omega
      have hr : 1 = R := HR1.out (fun h => absurd h.2.2 (by omega))
      subst hr
      go_wp2
      go_returns
      exact ⟨_, rfl, HNIL.out (by decide) _, HB1.out⟩
    have g5 : decide ((65536 : Int) < (M : Int)) = false := by simp; omega
    have g5' : decide ((M : Int) > 65536) = false := by simp; omega
    have g5'' : decide (65536 < M) = false := by simp; omega
    by_cases k6 : N = 1024
    · exact absurd k6 (by have := HKN.out; omega)
    have g6 : ((N : Int) == 1024) = false := by simp; omega
    have g6' : ¬ (N : Int) = 1024 := by omega
    have hr : 0 = R := HR0.out ⟨⟨by omega, by omega⟩, HBEL, by omega⟩ k6
    subst hr
    have hxo : Lk.ok ⟨n, N, hd l, d⟩ := HXO.out (by omega)
    have hLA := HV.out.at HB1.out
    rw [HN.out] at hLA
    obtain ⟨g1, c1, W1, cs1, hrun1, hO1, hC1, hb1⟩ := l_copy2 w1 _ l cap (by rw [HN.out]; exact hLA) (by rw [HN.out]; omega)
    rw [HN.out] at hrun1 hO1
    have hz1 := hb1.size
    have HBW := Lib.hid (HB1.out.trans (hb1.mono HB1.out.size))
    have HR1x := Lib.hid hrun1
    have HO1 := Lib.hid hO1
    have HC1 := Lib.hid (hC1.below hb1)
    have HZ1 := Lib.hid hz1
    clear hrun1 hO1 hC1 hLA hb1 hz1
    go_wp2_with (refine wpList_plain rfl fun K hK => wp_app_run (.tmp 42) (.tmp 43) 44 44 (by rfl) _ _ _ _ (by rfl) (by rfl) HR1x.out (hK _ _ ?_))
    refine (HHR.out _ HBW.out).mono ?_
    rintro e w2 ⟨rfl, hb2⟩
    have HB2 := Lib.hid (HBW.out.trans (hb2.mono HBW.out.size))
    have HO2 := Lib.hid (own_after hb2 HO1.out)
    have HC2 := Lib.hid (HC1.out.below (hb2.mono HZ1.out))
    have HZ2 := Lib.hid (Nat.le_trans HZ1.out hb2.size)
    clear hb2
    obtain ⟨c8, hc8⟩ : ∃ c8, cells8 (hd l) = c8 := ⟨_, rfl⟩
    have hl8 : c8.length = 32 := by rw [← hc8, cells8_len, hd_len]
    simp only [hc8]
    have hcx : lcells ⟨n, N, hd l, d⟩ (.slice da M dcap) = ((Value.int .i64 n :: Value.int .i64 N :: (c8 ++ [Value.slice da M dcap])) : List Value) := by rw [← hc8]; rfl
    have HBU : Hid (∀ W : World, (Instr.build 55 #[(0, .int .i64 n), (1, .int .i64 N), (2, .agg c8.toArray), (3, .slice da M dcap)]).run Tryd.prog W = .ok (.agg ((Value.int .i64 n :: Value.int .i64 N :: (c8 ++ [Value.slice da M dcap])) : List Value).toArray) W) := Lib.hid fun W => run_built55 W n N da M dcap c8 hl8
    obtain ⟨cx, hcx2⟩ : ∃ cx, ((Value.int .i64 n :: Value.int .i64 N :: (c8 ++ [Value.slice da M dcap])) : List Value) = cx := ⟨_, rfl⟩
    rw [hcx2] at HBU hcx
    have HL5 : Hid (cx.length = 35) := Lib.hid (by rw [← hcx]; exact lcells_len _ _ hxo.1)
    have HAP : Hid (∀ W g3, Below w2.heap.size w2 W → W.rangeAt g3 0 cx → ∃ v' W', (Builtin.append_ #[44, 44] 44 #[.slice (some ⟨g1, 0, none⟩) N c1, .slice (some ⟨g3, 0, none⟩) 1 1]).run Tryd.prog W = .ok v' W' ∧ LRow W' W'.heap.size v' LL ∧ Below w1.heap.size W W') := Lib.hid fun W g3 hW hg => by
      rw [HSOME.out (by simp)]
      rw [← hcx] at hg
      have hO := own_after hW HO2.out
      have hBw := HB2.out.trans (hW.mono HB2.out.size)
      have hz := hW.size
      have hzz := HZ2.out
      have hd4 : BytesAt W w1.heap.size (.slice da M dcap) d := (HD.out.below hBw).mono HB1.out.size
      have h := l_more W w1.heap.size g1 c1 l cs1 (by rw [HN.out]; exact hO) (HC2.out.below (hW.mono HZ2.out)) HV.out.1 (by omega) g3 ⟨n, N, hd l, d⟩ hxo _ hd4 hg (by rw [HN.out]; omega)
      rw [HN.out] at h
      exact h
    clear hc8 hcx hcx2 hl8 hxo
    go_wp2_with (first
      | (refine wpList_build_run rfl 55 [(0, Operand.tmp 46), (1, Operand.tmp 48), (2, Operand.tmp 50), (3, Operand.tmp 51)] (by rfl) _ _ (by rfl) (HBU.out _) ?_; simp only [Act.put, List.setIfInBounds_toArray, List.set_cons_zero, List.set_cons_succ])
      | (refine wpList_plain rfl fun K hK => wp_one_link (by rfl) cx (by rfl) HL5.out ?_
         intro g3 W3 hB3 hR3
         obtain ⟨v4, W4, hrun4, hL4, hB4⟩ := HAP.out W3 g3 hB3 hR3
         have HR4 := Lib.hid hrun4
         have HL4 := Lib.hid hL4
         have HB4 := Lib.hid ((HB2.out.trans (hB3.mono HB2.out.size)).trans (hB4.mono HB1.out.size))
         clear hrun4 hL4 hB4 hB3 hR3
         refine hK _ _ ?_)
      | (refine wpList_plain rfl fun K hK => wp_app_run (.tmp 45) (.tmp 53) 44 44 (by rfl) _ _ _ _ (by rfl) (by rfl) HR4.out (hK _ _ ?_)))
    go_returns
    exact ⟨_, rfl, HL4.out, HB4.out⟩
  · have hlp : 0 < l.length := by rw [HN.out]; omega
    obtain ⟨b, off, d0, rfl, hb0, _, hr0, _⟩ := HV.out.get 0 hlp
    have y0 := hr0 0 _ (lcells_0 _ _)
    simp only [Nat.zero_mul, Nat.add_zero] at y0
    have hbi := HBL1.out hlp
    obtain ⟨n0, hn0⟩ : ∃ n0, l[0].node = n0 := ⟨_, rfl⟩
    rw [hn0] at y0 hbi
    have c0 := (HB1.out.cell (p := ⟨b, off, none⟩) hb0).trans y0
    have g3 : decide ((N : Int) > 0) = true := by simp; omega
    have g3' : decide ((0 : Int) < (N : Int)) = true := by simp; omega
    have g3'' : decide (0 < N) = true := by simp; omega
    have g3i : (0 : Int) < (N : Int) := by omega
    have g3n : 0 < N := by omega
    by_cases k4 : n0 = n
    case neg =>
      have g4 : (n0 == n) = false := by simp [k4]
      have g4' : (n0 != n) = true := by simp [k4]
      have hbf : ¬ bel l n = true := fun h => k4 (hbi.1 h).symm
      clear hr0 hbi
      have hr : 1 = R := HR1.out (fun h => hbf h.2.1)
      subst hr
      go_wp2
      go_returns
      exact ⟨_, rfl, HNIL.out (by decide) _, HB1.out⟩
    have k4s := k4.symm
    subst k4s
    have HBEL := hbi.2 rfl
    have g4 : (n == n) = true := by simp
    have g4' : (n != n) = false := by simp
    clear hr0 hbi y0 hb0
    by_cases k5 : 65536 < M
    · have g5 : decide ((65536 : Int) < (M : Int)) = true := by simp; omega
      have g5' : decide ((M : Int) > 65536) = true := by simp; omega
      have g5'' : decide (65536 < M) = true := by simp; omega
      have hr : 1 = R := HR1.out (fun h => absurd h.2.2 (by omega))
      subst hr
      go_wp2
      go_returns
      exact ⟨_, rfl, HNIL.out (by decide) _, HB1.out⟩
    have g5 : decide ((65536 : Int) < (M : Int)) = false := by simp; omega
    have g5' : decide ((M : Int) > 65536) = false := by simp; omega
    have g5'' : decide (65536 < M) = false := by simp; omega
    by_cases k6 : N = 1024
    · have hr : 2 = R := HR2.out ⟨⟨by omega, by omega⟩, HBEL, by omega⟩ k6
      subst hr
      subst k6
      go_wp2
      go_returns
      exact ⟨_, rfl, HNIL.out (by decide) _, HB1.out⟩
    have g6 : ((N : Int) == 1024) = false := by simp; omega
    have g6' : ¬ (N : Int) = 1024 := by omega
    have hr : 0 = R := HR0.out ⟨⟨by omega, by omega⟩, HBEL, by omega⟩ k6
    subst hr
    have hxo : Lk.ok ⟨n, N, hd l, d⟩ := HXO.out (by omega)
    have hLA := HV.out.at HB1.out
    rw [HN.out] at hLA
    obtain ⟨g1, c1, W1, cs1, hrun1, hO1, hC1, hb1⟩ := l_copy2 w1 _ l cap (by rw [HN.out]; exact hLA) (by rw [HN.out]; omega)
    rw [HN.out] at hrun1 hO1
    have hz1 := hb1.size
    have HBW := Lib.hid (HB1.out.trans (hb1.mono HB1.out.size))
    have HR1x := Lib.hid hrun1
    have HO1 := Lib.hid hO1
    have HC1 := Lib.hid (hC1.below hb1)
    have HZ1 := Lib.hid hz1
    clear hrun1 hO1 hC1 hLA hb1 hz1
    go_wp2_with (refine wpList_plain rfl fun K hK => wp_app_run (.tmp 42) (.tmp 43) 44 44 (by rfl) _ _ _ _ (by rfl) (by rfl) HR1x.out (hK _ _ ?_))
    refine (HHR.out _ HBW.out).mono ?_
    rintro e w2 ⟨rfl, hb2⟩
    have HB2 := Lib.hid (HBW.out.trans (hb2.mono HBW.out.size))
    have HO2 := Lib.hid (own_after hb2 HO1.out)
    have HC2 := Lib.hid (HC1.out.below (hb2.mono HZ1.out))
    have HZ2 := Lib.hid (Nat.le_trans HZ1.out hb2.size)
    clear hb2
    obtain ⟨c8, hc8⟩ : ∃ c8, cells8 (hd l) = c8 := ⟨_, rfl⟩
    have hl8 : c8.length = 32 := by rw [← hc8, cells8_len, hd_len]
    simp only [hc8]
    have hcx : lcells ⟨n, N, hd l, d⟩ (.slice da M dcap) = ((Value.int .i64 n :: Value.int .i64 N :: (c8 ++ [Value.slice da M dcap])) : List Value) := by rw [← hc8]; rfl
    have HBU : Hid (∀ W : World, (Instr.build 55 #[(0, .int .i64 n), (1, .int .i64 N), (2, .agg c8.toArray), (3, .slice da M dcap)]).run Tryd.prog W = .ok (.agg ((Value.int .i64 n :: Value.int .i64 N :: (c8 ++ [Value.slice da M dcap])) : List Value).toArray) W) := Lib.hid fun W => run_built55 W n N da M dcap c8 hl8
    obtain ⟨cx, hcx2⟩ : ∃ cx, ((Value.int .i64 n :: Value.int .i64 N :: (c8 ++ [Value.slice da M dcap])) : List Value) = cx := ⟨_, rfl⟩
    rw [hcx2] at HBU hcx
    have HL5 : Hid (cx.length = 35) := Lib.hid (by rw [← hcx]; exact lcells_len _ _ hxo.1)
    have HAP : Hid (∀ W g3, Below w2.heap.size w2 W → W.rangeAt g3 0 cx → ∃ v' W', (Builtin.append_ #[44, 44] 44 #[.slice (some ⟨g1, 0, none⟩) N c1, .slice (some ⟨g3, 0, none⟩) 1 1]).run Tryd.prog W = .ok v' W' ∧ LRow W' W'.heap.size v' LL ∧ Below w1.heap.size W W') := Lib.hid fun W g3 hW hg => by
      rw [HSOME.out (by simp)]
      rw [← hcx] at hg
      have hO := own_after hW HO2.out
      have hBw := HB2.out.trans (hW.mono HB2.out.size)
      have hz := hW.size
      have hzz := HZ2.out
      have hd4 : BytesAt W w1.heap.size (.slice da M dcap) d := (HD.out.below hBw).mono HB1.out.size
      have h := l_more W w1.heap.size g1 c1 l cs1 (by rw [HN.out]; exact hO) (HC2.out.below (hW.mono HZ2.out)) HV.out.1 (by omega) g3 ⟨n, N, hd l, d⟩ hxo _ hd4 hg (by rw [HN.out]; omega)
      rw [HN.out] at h
      exact h
    clear hc8 hcx hcx2 hl8 hxo
    go_wp2_with (first
      | (refine wpList_build_run rfl 55 [(0, Operand.tmp 46), (1, Operand.tmp 48), (2, Operand.tmp 50), (3, Operand.tmp 51)] (by rfl) _ _ (by rfl) (HBU.out _) ?_; simp only [Act.put, List.setIfInBounds_toArray, List.set_cons_zero, List.set_cons_succ])
      | (refine wpList_plain rfl fun K hK => wp_one_link (by rfl) cx (by rfl) HL5.out ?_
         intro g3 W3 hB3 hR3
         obtain ⟨v4, W4, hrun4, hL4, hB4⟩ := HAP.out W3 g3 hB3 hR3
         have HR4 := Lib.hid hrun4
         have HL4 := Lib.hid hL4
         have HB4 := Lib.hid ((HB2.out.trans (hB3.mono HB2.out.size)).trans (hB4.mono HB1.out.size))
         clear hrun4 hL4 hB4 hB3 hR3
         refine hK _ _ ?_)
      | (refine wpList_plain rfl fun K hK => wp_app_run (.tmp 45) (.tmp 53) 44 44 (by rfl) _ _ _ _ (by rfl) (by rfl) HR4.out (hK _ _ ?_)))
    go_returns
    exact ⟨_, rfl, HL4.out, HB4.out⟩
end Go.Proofs.YtfmngeemhfpeiaaDoor

namespace Go.Proofs.YtfmngeemhfpeiaaDoor
open Go.RowKit

def c38a0 : Oper := { dst := some 51, op := Go.Op.move (Go.Operand.tmp 0), type := 44, pos := "ref.go:98", after := #[], guard := none }
def c38a1 : Oper := { dst := some 52, op := Go.Op.move (Go.Operand.tmp 9), type := 3, pos := "ref.go:98", after := #[], guard := none }
def c38a2 : Oper := { dst := some 53, op := Go.Op.indexAddr 44 (Go.Operand.tmp 51) (Go.Operand.tmp 52), type := 0, pos := "ref.go:98", after := #[{ on := 0, ground := Go.Ground.data }, { on := 1, ground := Go.Ground.data }], guard := none }
def c38a3 : Oper := { dst := some 54, op := Go.Op.load 55 (Go.Operand.tmp 53), type := 55, pos := "ref.go:98", after := #[{ on := 2, ground := Go.Ground.data }], guard := none }
def c38a4 : Oper := { dst := some 55, op := Go.Op.move (Go.Operand.tmp 1), type := 44, pos := "ref.go:98", after := #[], guard := none }
def c38a5 : Oper := { dst := some 56, op := Go.Op.move (Go.Operand.tmp 9), type := 3, pos := "ref.go:98", after := #[], guard := none }
def c38a6 : Oper := { dst := some 57, op := Go.Op.indexAddr 44 (Go.Operand.tmp 55) (Go.Operand.tmp 56), type := 0, pos := "ref.go:98", after := #[{ on := 4, ground := Go.Ground.data }, { on := 5, ground := Go.Ground.data }], guard := none }
def c38a7 : Oper := { dst := some 58, op := Go.Op.load 55 (Go.Operand.tmp 57), type := 55, pos := "ref.go:98", after := #[{ on := 6, ground := Go.Ground.data }], guard := none }
def c38a8 : Oper := { dst := some 59, op := Go.Op.call { callee := Go.Callee.value (Go.Operand.func 41), args := #[Go.Operand.tmp 54, Go.Operand.tmp 58], argTypes := #[55, 55] }, type := 4, pos := "ref.go:98", after := #[{ on := 3, ground := Go.Ground.data }, { on := 7, ground := Go.Ground.data }], guard := none }
def c38a9 : Oper := { dst := some 60, op := Go.Op.unOp Go.UnOp.not 4 (Go.Operand.tmp 59), type := 4, pos := "ref.go:98", after := #[{ on := 8, ground := Go.Ground.data }], guard := none }

set_option maxRecDepth 100000 in
set_option maxHeartbeats 8000000 in
theorem rpart_any (w : World) (v u : Value) (l m : List Lk) (hv : LRow w w.heap.size v l) (hu : LRow w w.heap.size u m) (hq : l.length ≤ 100000) (hq2 : m.length ≤ 100000) :
    Calls Tryd.prog 38 #[v, u] w fun e w' => e = .returned (partV l m) ∧ Below w.heap.size w w' := by
  have hc1 : ∀ W, Below w.heap.size w W → Calls Tryd.prog 32 #[v] W fun e w' => e = .returned (.int .i64 (chk l)) ∧ Below W.heap.size W w' := fun W hW => rcheck_any W v l (hv.at hW) hq
  have hc2 : ∀ W, Below w.heap.size w W → Calls Tryd.prog 32 #[u] W fun e w' => e = .returned (.int .i64 (chk m)) ∧ Below W.heap.size W w' := fun W hW => rcheck_any W u m (hu.at hW) hq2
  have HV := Lib.hid hv
  have HU := Lib.hid hu
  obtain ⟨hok, a, cap, rfl, h1, h2, h3⟩ := hv
  obtain ⟨hok', a', cap', rfl, h1', h2', h3'⟩ := hu
  obtain ⟨RV, hRV⟩ : ∃ RV, partV l m = RV := ⟨_, rfl⟩
  rw [hRV]
  have hcell : ∀ W, Below w.heap.size w W → ∀ t (ht : t < l.length) (ht2 : t < m.length), ∃ b off b2 off2 cx cy, a = some ⟨b, off, none⟩ ∧ a' = some ⟨b2, off2, none⟩ ∧ b < w.heap.size ∧ b2 < w.heap.size ∧ cx.length = 35 ∧ cy.length = 35 ∧ W.rangeAt b (off + t * 35) cx ∧ W.rangeAt b2 (off2 + t * 35) cy ∧
      ∀ W', Below w.heap.size w W' → Calls Tryd.prog 41 #[.agg cx.toArray, .agg cy.toArray] W' fun e w' => e = .returned (.bool (decide (l[t] = m[t]))) ∧ Below W'.heap.size W' w' := by
    intro W hW t ht ht2
    obtain ⟨b, off, rfl, h4, h5⟩ := h3.resolve_left (fun e => by subst e; exact absurd ht (by simp))
    obtain ⟨b2, off2, rfl, h4', h5'⟩ := h3'.resolve_left (fun e => by subst e; exact absurd ht2 (by simp))
    obtain ⟨d, h6, h7⟩ := h5 t ht
    obtain ⟨f, h6', h7'⟩ := h5' t ht2
    have hx := hok _ (List.getElem_mem ht)
    have hy := hok' _ (List.getElem_mem ht2)
    exact ⟨b, off, b2, off2, _, _, rfl, rfl, h4, h4', lcells_len _ d hx.1, lcells_len _ f hy.1, fun j v hv => (hW.cell (p := ⟨b, off + t * 35 + j, none⟩) h4).trans (h6 j v hv), fun j v hv => (hW.cell (p := ⟨b2, off2 + t * 35 + j, none⟩) h4').trans (h6' j v hv),
      fun W' hW' => samelink_any W' _ _ _ _ hx hy ⟨d, rfl, (h7.below hW').mono hW'.size⟩ ⟨f, rfl, (h7'.below hW').mono hW'.size⟩⟩
  obtain ⟨N, hN⟩ : ∃ N, l.length = N := ⟨_, rfl⟩
  obtain ⟨M, hM⟩ : ∃ M, m.length = M := ⟨_, rfl⟩
  have hE1 : chk l ≠ 0 → RV = .tuple #[.int .i64 0, .bool false, .int .i64 (chk l)] := fun h => by rw [← hRV]; unfold partV; rw [if_pos h]
  have hE2 : chk l = 0 → chk m ≠ 0 → RV = .tuple #[.int .i64 0, .bool false, .int .i64 (chk m)] := fun h h' => by rw [← hRV]; unfold partV; rw [if_neg (by simpa using h), if_pos h']
  have hE3 : chk l = 0 → chk m = 0 → oneNode l m = false → RV = .tuple #[.int .i64 0, .bool false, .int .i64 80] := fun h h' ho => by rw [← hRV]; unfold partV; rw [if_neg (by simpa using h), if_neg (by simpa using h'), if_pos ho]
  have hE4 : chk l = 0 → chk m = 0 → oneNode l m = true → (∀ t : Nat, t < N → t < M → (∀ j, j < t → diffAt l m j = false) → diffAt l m t = true → RV = .tuple #[.int .i64 t, .bool true, .int .i64 0]) := fun h h' ho t ht ht2 hj hd => by
    rw [← hRV]; unfold partV; rw [if_neg (by simpa using h), if_neg (by simpa using h'), if_neg (by simp [ho]), fstOf_some (i := t) (by rw [hN, hM]; omega) hj hd]
  have hE5 : chk l = 0 → chk m = 0 → oneNode l m = true → (∀ t : Nat, t ≤ N → t ≤ M → ¬ (t < N ∧ t < M) → (∀ j, j < t → diffAt l m j = false) → RV = .tuple #[.int .i64 0, .bool false, .int .i64 0]) := fun h h' ho t ht ht2 hnn hj => by
    rw [← hRV]; unfold partV; rw [if_neg (by simpa using h), if_neg (by simpa using h'), if_neg (by simp [ho]), fstOf_none (fun j hj2 => hj j (by rw [hN, hM] at hj2; omega))]
  have hO0 : N = 0 ∨ M = 0 → oneNode l m = true := fun h => by
    rcases h with h | h
    · rw [List.eq_nil_of_length_eq_zero (hN.trans h)]; rfl
    · rw [List.eq_nil_of_length_eq_zero (hM.trans h)]; cases l <;> rfl
  have hO1 : ∀ (h : 0 < l.length) (h' : 0 < m.length), (oneNode l m = true ↔ l[0].node = m[0].node) := fun h h' => by
    have hb := bel_iff h' l[0].node
    rw [← hb]
    cases l with
    | nil => simp at h
    | cons x k => unfold oneNode; simp
  have hcm : ∀ (h : 0 < l.length) (h' : 0 < m.length), ∃ b off b2 off2, a = some ⟨b, off, none⟩ ∧ a' = some ⟨b2, off2, none⟩ ∧ b < w.heap.size ∧ b2 < w.heap.size ∧ w.cell? ⟨b, off, none⟩ = some (.int .i64 l[0].node) ∧ w.cell? ⟨b2, off2, none⟩ = some (.int .i64 m[0].node) := fun h h' => by
    obtain ⟨b, off, d, e, hb, _, hr, _⟩ := HV.out.get 0 h
    obtain ⟨b2, off2, d2, e2, hb2, _, hr2, _⟩ := HU.out.get 0 h'
    have y0 := hr 0 _ (lcells_0 _ _)
    have y1 := hr2 0 _ (lcells_0 _ _)
    simp only [Nat.zero_mul, Nat.add_zero] at y0 y1
    exact ⟨b, off, b2, off2, e, e2, hb, hb2, y0, y1⟩
  rw [hN] at h1 hq hc1 ⊢
  rw [hM] at h1' hq2 hc2 ⊢
  have HC := Lib.hid hcell
  have HN := Lib.hid hN
  have HM := Lib.hid hM
  have HO0 := Lib.hid hO0
  have HO1 := Lib.hid hO1
  have HCM := Lib.hid hcm
  unfold maxLen at h2 h2'
  generalize chk l = x at *
  generalize chk m = y at *
  have H1 := Lib.hid hc1
  have H2 := Lib.hid hc2
  clear hcell hN hM h3 h3' hok hok' hRV hO0 hO1 hcm hc1 hc2 HV HU
  by_cases hx : x = 0
  case neg =>
    have g1 : (x == 0) = false := by simp [hx]
    have g2 : (x != 0) = true := by simp [hx]
    have hr := hE1 hx
    clear hE1 hE2 hE3 hE4 hE5
    go_enter Tryd.func38, Tryd.ntmps38
    go_wp2_with fail
    refine (H1.out _ (Below.refl _ _)).mono ?_
    rintro e w1 ⟨rfl, hb1⟩
    go_wp2
    go_returns
    exact ⟨by rw [hr]; rfl, hb1⟩
  subst hx
  by_cases hy : y = 0
  case neg =>
    have g1 : (y == 0) = false := by simp [hy]
    have g2 : (y != 0) = true := by simp [hy]
    have hr := hE2 rfl hy
    clear hE1 hE2 hE3 hE4 hE5
    go_enter Tryd.func38, Tryd.ntmps38
    go_wp2_with fail
    refine (H1.out _ (Below.refl _ _)).mono ?_
    rintro e w1 ⟨rfl, hb1⟩
    have HB1 := Lib.hid hb1
    clear hb1
    go_wp2_with fail
    refine (H2.out _ HB1.out).mono ?_
    rintro e w2 ⟨rfl, hb2⟩
    have HB2 := Lib.hid (HB1.out.trans (hb2.mono HB1.out.size))
    clear hb2
    go_wp2
    go_returns
    exact ⟨by rw [hr]; rfl, HB2.out⟩
  subst hy
  have HE3 := Lib.hid (hE3 rfl rfl)
  have HE4 := Lib.hid (hE4 rfl rfl)
  have HE5 := Lib.hid (hE5 rfl rfl)
  clear hE1 hE2 hE3 hE4 hE5
  go_enter Tryd.func38, Tryd.ntmps38
  go_wp2_with fail
  refine (H1.out _ (Below.refl _ _)).mono ?_
  rintro e w1 ⟨rfl, hb1⟩
  have HB1 := Lib.hid hb1
  clear hb1
  go_wp2_with fail
  refine (H2.out _ HB1.out).mono ?_
  rintro e w2 ⟨rfl, hb2⟩
  have HB2 := Lib.hid (HB1.out.trans (hb2.mono HB1.out.size))
  clear hb2
  go_upto_region 7 with fail
  by_cases hNM : 0 < N ∧ 0 < M
  · obtain ⟨hn, hm⟩ := hNM
    have hnl : 0 < l.length := by rw [HN.out]; exact hn
    have hml : 0 < m.length := by rw [HM.out]; exact hm
    obtain ⟨b0, o0, b1, o1, rfl, rfl, hb0, hb1, c0, c1⟩ := HCM.out hnl hml
    have ho := HO1.out hnl hml
    obtain ⟨n0, hn0⟩ : ∃ n0, l[0].node = n0 := ⟨_, rfl⟩
    obtain ⟨m0, hm0⟩ : ∃ m0, m[0].node = m0 := ⟨_, rfl⟩
    rw [hn0] at c0 ho
    rw [hm0] at c1 ho
    have c0' := (HB2.out.cell (p := ⟨b0, o0, none⟩) hb0).trans c0
    have c1' := (HB2.out.cell (p := ⟨b1, o1, none⟩) hb1).trans c1
    have g1 : decide ((N : Int) > 0) = true := by simp; omega
    have g1' : decide ((0 : Int) < (N : Int)) = true := by simp; omega
    have g1n : decide (0 < N) = true := by simp; omega
    have g2 : decide ((M : Int) > 0) = true := by simp; omega
    have g2' : decide ((0 : Int) < (M : Int)) = true := by simp; omega
    have g2n : decide (0 < M) = true := by simp; omega
    have i1 : (0 : Int) < (N : Int) := by omega
    have i2 : (0 : Int) < (M : Int) := by omega
    by_cases k : n0 = m0
    case neg =>
      have g3 : (n0 == m0) = false := by simp [k]
      have g3' : (n0 != m0) = true := by simp [k]
      have hr := HE3.out (by
        cases h : oneNode l m with
        | false => rfl
        | true => exact absurd (ho.1 h) k)
      clear ho c0 c1 hb0 hb1 hn0 hm0
      go_quiet (fail)
      go_wp2
      go_returns
      exact ⟨by rw [hr]; rfl, below_drewN HB2.out _⟩
    have HSOMEI := Lib.hid (HE4.out (ho.2 k))
    have HNONE := Lib.hid (HE5.out (ho.2 k))
    subst k
    have g3 : (n0 == n0) = true := by simp
    have g3' : (n0 != n0) = false := by simp
    clear ho c0 c1 hb0 hb1 hn0 hm0
    go_quiet (fail)
    have HBS := Lib.hid (below_drewN HB2.out nq)
    clear c0' c1'
    go_wp2
    go_loopw [9] (fun i wr => ∃ t : Nat, i = .int .i64 t ∧ t ≤ N ∧ t ≤ M ∧ Below w.heap.size w wr ∧ Hid (∀ j, j < t → diffAt l m j = false)) (fun i _ => N - (intOf i).toNat)
    case atStart => exact ⟨0, rfl, by omega, by omega, HBS.out, Lib.hid (fun j hj => by omega)⟩
    case round =>
      obtain ⟨t, rfl, htn, htm2, hB, HJ⟩ := hrel
      have HB := Lib.hid hB
      clear hB
      by_cases hlt : t < N ∧ t < M
      · obtain ⟨hlt, hlt2⟩ := hlt
        have htl : t < l.length := by rw [HN.out]; exact hlt
        have htm : t < m.length := by rw [HM.out]; exact hlt2
        obtain ⟨b, off, b2, off2, cx, cy, e1, e2, hb, hb2, lx, ly, hr1, hr2, hsm⟩ := HC.out _ HB.out t htl htm
        have e1 := e1.symm
        have e2 := e2.symm
        injection e1 with e1
        injection e1 with e1 e1'
        subst e1
        subst e1'
        injection e2 with e2
        injection e2 with e2 e2'
        subst e2
        subst e2'
        have HZX : Hid ((Tryd.prog.info? 55).map (·.size) = some cx.length) := by show _ = _; rw [lx]; exact Tryd.info55
        have HZY : Hid ((Tryd.prog.info? 55).map (·.size) = some cy.length) := by show _ = _; rw [ly]; exact Tryd.info55
        have hwr := HB.out.size
        have AX : Hid (∀ W, Kept wr W → W.rangeAt b (off + t * 35) cx) := Lib.hid fun W hW j v hv => (hW.below.cell (p := ⟨b, off + t * 35 + j, none⟩) (by show b < _; omega)).trans (hr1 j v hv)
        have AY : Hid (∀ W, Kept wr W → W.rangeAt b2 (off2 + t * 35) cy) := Lib.hid fun W hW j v hv => (hW.below.cell (p := ⟨b2, off2 + t * 35 + j, none⟩) (by show b2 < _; omega)).trans (hr2 j v hv)
        obtain ⟨E, hE⟩ : ∃ E, decide (l[t] = m[t]) = E := ⟨_, rfl⟩
        rw [hE] at hsm
        have HSM : Hid (∀ W, Kept wr W → Calls Tryd.prog 41 #[.agg cx.toArray, .agg cy.toArray] W fun e w' => e = .returned (.bool E) ∧ Below W.heap.size W w') := Lib.hid fun W hW => hsm W (HB.out.trans (hW.below.mono hwr))
        have hdf : diffAt l m t = !E := by unfold diffAt; rw [List.getElem?_eq_getElem htl, List.getElem?_eq_getElem htm]; simp only [hE]
        have HE1 : Hid (E = true → diffAt l m t = false) := Lib.hid fun h => by rw [hdf, h]; rfl
        have HE2 : Hid (E = false → Ending.returned (.tuple #[.int .i64 t, .bool true, .int .i64 0]) = Ending.returned RV) := Lib.hid fun h => by rw [HSOMEI.out t hlt hlt2 HJ.out (by rw [hdf, h]; rfl)]
        have f1 : decide ((t : Int) < (N : Int)) = true := by simp; omega
        have f2 : decide (t < N) = true := by simp; omega
        have f3 : (t : Int) < (N : Int) := by omega
        have f4 : decide ((t : Int) < (M : Int)) = true := by simp; omega
        have f5 : decide (t < M) = true := by simp; omega
        have f6 : (t : Int) < (M : Int) := by omega
        have iw : IntKind.i64.wrap ((t : Int) + 1) = (t : Int) + 1 := by rw [IntKind.wrap_i64]; omega
        clear hb hb2 lx ly hr1 hr2 hsm hE hwr hdf
        go_wp2
        refine wp_region_held_drew (S := fun W => Kept wr W) (by kernel_rfl) (Kept.drew (Kept.refl wr)) (fun hHeld => ?_)
        refine wpAnyH_take (i := 0) (oi := c38a0) (v := ?_) rfl (by kernel_rfl) (by kernel_rfl) (by kernel_rfl) (fun _ _ _ h => h) (Or.inl ⟨by rfl, ?_⟩) hHeld ?_
        rotate_left
        · (intro w hSw; (try dsimp only at hSw); unfold c38a0; go_simp <;> with_reducible rfl)
        try simp only [c38a0, Act.put, List.setIfInBounds_toArray, List.set_cons_zero, List.set_cons_succ]
        refine wpAnyH_take (i := 1) (oi := c38a1) (v := ?_) rfl (by kernel_rfl) (by kernel_rfl) (by kernel_rfl) (fun _ _ _ h => h) (Or.inl ⟨by rfl, ?_⟩) hHeld ?_
        rotate_left
        · (intro w hSw; (try dsimp only at hSw); unfold c38a1; go_simp <;> with_reducible rfl)
        try simp only [c38a1, Act.put, List.setIfInBounds_toArray, List.set_cons_zero, List.set_cons_succ]
        refine wpAnyH_take (i := 2) (oi := c38a2) (v := ?_) rfl (by kernel_rfl) (by kernel_rfl) (by kernel_rfl) (fun _ _ _ h => h) (Or.inl ⟨by rfl, ?_⟩) hHeld ?_
        rotate_left
        · (intro w hSw; (try dsimp only at hSw); unfold c38a2; go_simp <;> with_reducible rfl)
        try simp only [c38a2, Act.put, List.setIfInBounds_toArray, List.set_cons_zero, List.set_cons_succ]
        refine wpAnyH_take (i := 3) (oi := c38a3) rfl (by kernel_rfl) (by kernel_rfl) (by kernel_rfl) (fun _ _ _ h => h) (yieldsIf_load_mid (by rfl) 55 (.tmp 53) (by rfl) b (off + t * 35) (by rfl) cx _ (fun w hSw => AX.out w hSw) Tryd.underlying55 rfl HZX.out) hHeld ?_
        try simp only [c38a3, Act.put, List.setIfInBounds_toArray, List.set_cons_zero, List.set_cons_succ]
        refine wpAnyH_take (i := 4) (oi := c38a4) (v := ?_) rfl (by kernel_rfl) (by kernel_rfl) (by kernel_rfl) (fun _ _ _ h => h) (Or.inl ⟨by rfl, ?_⟩) hHeld ?_
        rotate_left
        · (intro w hSw; (try dsimp only at hSw); unfold c38a4; go_simp <;> with_reducible rfl)
        try simp only [c38a4, Act.put, List.setIfInBounds_toArray, List.set_cons_zero, List.set_cons_succ]
        refine wpAnyH_take (i := 5) (oi := c38a5) (v := ?_) rfl (by kernel_rfl) (by kernel_rfl) (by kernel_rfl) (fun _ _ _ h => h) (Or.inl ⟨by rfl, ?_⟩) hHeld ?_
        rotate_left
        · (intro w hSw; (try dsimp only at hSw); unfold c38a5; go_simp <;> with_reducible rfl)
        try simp only [c38a5, Act.put, List.setIfInBounds_toArray, List.set_cons_zero, List.set_cons_succ]
        refine wpAnyH_take (i := 6) (oi := c38a6) (v := ?_) rfl (by kernel_rfl) (by kernel_rfl) (by kernel_rfl) (fun _ _ _ h => h) (Or.inl ⟨by rfl, ?_⟩) hHeld ?_
        rotate_left
        · (intro w hSw; (try dsimp only at hSw); unfold c38a6; go_simp <;> with_reducible rfl)
        try simp only [c38a6, Act.put, List.setIfInBounds_toArray, List.set_cons_zero, List.set_cons_succ]
        refine wpAnyH_take (i := 7) (oi := c38a7) rfl (by kernel_rfl) (by kernel_rfl) (by kernel_rfl) (fun _ _ _ h => h) (yieldsIf_load_mid (by rfl) 55 (.tmp 57) (by rfl) b2 (off2 + t * 35) (by rfl) cy _ (fun w hSw => AY.out w hSw) Tryd.underlying55 rfl HZY.out) hHeld ?_
        try simp only [c38a7, Act.put, List.setIfInBounds_toArray, List.set_cons_zero, List.set_cons_succ]
        refine wpAnyH_ready (rs := [8]) (by kernel_rfl) (by simp) ?_
        refine AllReadyH.cons (o := c38a8) rfl (fun K hK => ?_) AllReadyH.nil
        rw [if_pos (by rfl)]
        unfold c38a8
        go_simp
        (with_reducible refine (HSM.out _ hHeld).mono ?_)
        rintro e W8 ⟨rfl, hB8⟩
        have hS8 := hHeld.next hB8
        go_wp2_with fail
        refine hK.out _ _ hS8 (fun hHeld => ?_)
        clear hK K
        try simp only [c38a8, Act.put, List.setIfInBounds_toArray, List.set_cons_zero, List.set_cons_succ]
        refine wpAnyH_take (i := 9) (oi := c38a9) (v := ?_) rfl (by kernel_rfl) (by kernel_rfl) (by kernel_rfl) (fun _ _ _ h => h) (Or.inl ⟨by rfl, ?_⟩) hHeld ?_
        rotate_left
        · (intro w hSw; (try dsimp only at hSw); unfold c38a9; go_simp <;> with_reducible rfl)
        try simp only [c38a9, Act.put, List.setIfInBounds_toArray, List.set_cons_zero, List.set_cons_succ]
        refine wpAnyH_done (by kernel_rfl) ?_ _
        have HST := Lib.hid hHeld
        clear hHeld hS8 hB8
        cases E with
        | true =>
          go_wp2
          go_roundw
          case rel => exact ⟨t + 1, by simp, by omega, by omega, HB.out.trans (HST.out.mono HB.out.size), Lib.hid (fun j hj => by
            rcases Nat.lt_succ_iff_lt_or_eq.1 hj with h | rfl
            · exact HJ.out j h
            · exact HE1.out rfl)⟩
          case measure => simp [intOf]; omega
        | false =>
          have hr := HE2.out rfl
          go_wp2
          go_returns
          exact ⟨hr, HB.out.trans (HST.out.mono HB.out.size)⟩
      · have hrv := HNONE.out t (by omega) (by omega) (by omega) HJ.out
        by_cases hl1 : t < N
        · have f1 : decide ((t : Int) < (N : Int)) = true := by simp; omega
          have f2 : decide (t < N) = true := by simp; omega
          have f3 : (t : Int) < (N : Int) := by omega
          have f4 : decide ((t : Int) < (M : Int)) = false := by simp; omega
          have f5 : decide (t < M) = false := by simp; omega
          clear hlt
          go_wp2
          go_returns
          exact ⟨by rw [hrv]; rfl, HB.out⟩
        · have f1 : decide ((t : Int) < (N : Int)) = false := by simp; omega
          have f2 : decide (t < N) = false := by simp; omega
          clear hlt
          go_wp2
          go_returns
          exact ⟨by rw [hrv]; rfl, HB.out⟩
  · have ho := HO0.out (by omega)
    have HSOMEI := Lib.hid (HE4.out ho)
    have HNONE := Lib.hid (HE5.out ho)
    clear ho
    by_cases hn : 0 < N
    · have hm : M = 0 := by omega
      have g1 : decide ((N : Int) > 0) = true := by simp; omega
      have g1' : decide ((0 : Int) < (N : Int)) = true := by simp; omega
      have g1n : decide (0 < N) = true := by simp; omega
      have g2 : decide ((M : Int) > 0) = false := by simp; omega
      have g2' : decide ((0 : Int) < (M : Int)) = false := by simp; omega
      have g2n : decide (0 < M) = false := by simp; omega
      have HMM := Lib.hid hm
      clear hm hNM
      go_quiet (fail)
      have HBS := Lib.hid (below_drewN HB2.out nq)
      go_wp2
      go_loopw [9] (fun i wr => ∃ t : Nat, i = .int .i64 t ∧ t = 0 ∧ Below w.heap.size w wr) (fun i _ => N - (intOf i).toNat)
      case atStart => exact ⟨0, rfl, rfl, HBS.out⟩
      case round =>
        obtain ⟨t, rfl, ht0, hB⟩ := hrel
        have HB := Lib.hid hB
        clear hB
        have hrv := HNONE.out t (by omega) (by omega) (by have := HMM.out; omega) (fun j hj => by omega)
        have f1 : decide ((t : Int) < (N : Int)) = true := by have := HMM.out; simp; omega
        have f2 : decide (t < N) = true := by have := HMM.out; simp; omega
        have f4 : decide ((t : Int) < (M : Int)) = false := by have := HMM.out; simp; omega
        have f5 : decide (t < M) = false := by have := HMM.out; simp; omega
        clear ht0
        go_wp2
        go_returns
        exact ⟨by rw [hrv]; rfl, HB.out⟩
    · have hn0 : N = 0 := by omega
      have g1 : decide ((N : Int) > 0) = false := by simp; omega
      have g1' : decide ((0 : Int) < (N : Int)) = false := by simp; omega
      have g1n : decide (0 < N) = false := by simp; omega
      have HNN := Lib.hid hn0
      clear hn hn0 hNM
      go_quiet (fail)
      have HBS := Lib.hid (below_drewN HB2.out nq)
      go_wp2
      go_loopw [9] (fun i wr => ∃ t : Nat, i = .int .i64 t ∧ t = 0 ∧ Below w.heap.size w wr) (fun i _ => N - (intOf i).toNat)
      case atStart => exact ⟨0, rfl, rfl, HBS.out⟩
      case round =>
        obtain ⟨t, rfl, ht0, hB⟩ := hrel
        have HB := Lib.hid hB
        clear hB
        have hrv := HNONE.out t (by omega) (by omega) (by have := HNN.out; omega) (fun j hj => by omega)
        have f1 : decide ((t : Int) < (N : Int)) = false := by have := HNN.out; simp; omega
        have f2 : decide (t < N) = false := by have := HNN.out; simp; omega
        clear ht0
        go_wp2
        go_returns
        exact ⟨by rw [hrv]; rfl, HB.out⟩
end Go.Proofs.YtfmngeemhfpeiaaDoor

namespace Go.Proofs.YtfmngeemhfpeiaaDoor
open Go.RowKit

theorem part_parts (l m : List Lk) : ∃ (i : Int) (ok : Bool) (e : Int), partV l m = .tuple #[.int .i64 i, .bool ok, .int .i64 e] := by
  unfold partV
  split
  · exact ⟨_, _, _, rfl⟩
  · split
    · exact ⟨_, _, _, rfl⟩
    · split
      · exact ⟨_, _, _, rfl⟩
      · split
        · exact ⟨_, _, _, rfl⟩
        · exact ⟨_, _, _, rfl⟩

set_option maxRecDepth 100000 in
set_option maxHeartbeats 8000000 in
theorem lawAddSpec (w : World) (v : Value) (l : List Lk) (hv : LRow0 w w.heap.size v l) (u : Value) (m : List Lk) (hu : LRow0 w w.heap.size u m) (n : Int) (z : Value) (d : List UInt8) (hz : BytesAt w w.heap.size z d) (hn0 : (Lit.int .i64 n).wf = true) (hT : Tab w) (h0 : 0 < w.heap.size) :
    Calls Tryd.prog 11 #[v, u, .int .i64 n, z] w fun e w' => e = .returned (.bool true) ∧ Below w.heap.size w w' := by
  have hn := i64_of hn0
  have HFA := Lib.hid (fun W (hW : Below w.heap.size w W) => few_any W v l (hv.at hW))
  have HFB := Lib.hid (fun W (hW : Below w.heap.size w W) => few_any W u m (hu.at hW))
  have HSA := Lib.hid (sane_any w hT h0)
  have hv0 := hv
  have hu0 := hu
  have HD := Lib.hid hz
  obtain ⟨a, cap, rfl, h1, h2⟩ : ∃ a cap, v = .slice a l.length cap ∧ l.length ≤ cap ∧ cap ≤ maxLen := by obtain ⟨_, a, cap, h, h1, h2, _⟩ := hv; exact ⟨a, cap, h, h1, h2⟩
  obtain ⟨a', cap', rfl, h1', h2'⟩ : ∃ a cap, u = .slice a m.length cap ∧ m.length ≤ cap ∧ cap ≤ maxLen := by obtain ⟨_, a, cap, h, h1, h2, _⟩ := hu; exact ⟨a, cap, h, h1, h2⟩
  obtain ⟨da, dcap, rfl, k1, k2, _⟩ := id hz
  unfold maxLen at h2 h2' k2
  clear hz hn0
  cases hla : fewL l with
  | false =>
    rw [hla] at HFA
    generalize l.length = N at *
    generalize m.length = M at *
    generalize d.length = L at *
    clear hv hu hv0 hu0 hla h1 h1' HFB HD
    go_enter Tryd.func11, Tryd.ntmps11
    go_wp2_with fail
    refine HSA.out.mono ?_
    rintro e w1 ⟨rfl, hb1⟩
    have HB1 := Lib.hid hb1
    clear hb1
    go_wp2_with (first
      | (go_at_call 30; with_reducible refine (HFA.out _ HB1.out).mono ?_; rintro e w2 ⟨rfl, rfl⟩))
    go_returns
    exact ⟨rfl, HB1.out⟩
  | true =>
    obtain ⟨hl, hl16⟩ := fewL_row hv0 hla
    cases hlb : fewL m with
    | false =>
      rw [hla] at HFA
      rw [hlb] at HFB
      generalize l.length = N at *
      generalize m.length = M at *
      generalize d.length = L at *
      clear hv hu hv0 hu0 hla hlb hl h1 h1' HD
      go_enter Tryd.func11, Tryd.ntmps11
      go_wp2_with fail
      refine HSA.out.mono ?_
      rintro e w1 ⟨rfl, hb1⟩
      have HB1 := Lib.hid hb1
      clear hb1
      go_wp2_with (first
        | (go_at_call 30; with_reducible refine (HFA.out _ HB1.out).mono ?_; rintro e w2 ⟨rfl, rfl⟩)
        | (go_at_call 30; with_reducible refine (HFB.out _ HB1.out).mono ?_; rintro e w2 ⟨rfl, rfl⟩))
      go_returns
      exact ⟨rfl, HB1.out⟩
    | true =>
      obtain ⟨hm, hm16⟩ := fewL_row hu0 hlb
      rw [hla] at HFA
      rw [hlb] at HFB
      have had : ∀ W, Below w.heap.size w W → Calls Tryd.prog 35 #[.slice a l.length cap, .int .i64 n, .slice da d.length dcap] W fun e w' => ∃ v', e = .returned (.tuple #[v', .int .i64 (addErr l n d)]) ∧ LRow w' w'.heap.size v' (added l n d) ∧ Below W.heap.size W w' := fun W hW => add_any W _ _ l n d hn (hl.at hW) (by omega) ((HD.out.below hW).mono hW.size) (hT.below hW h0) (by have := hW.size; omega)
      have har : ∀ W, Below w.heap.size w W → Calls Tryd.prog 36 #[.slice a l.length cap, .int .i64 n, .slice da d.length dcap] W fun e w' => ∃ v', e = .returned (.tuple #[v', .int .i64 (addErr l n d)]) ∧ LRow w' w'.heap.size v' (added l n d) ∧ Below W.heap.size W w' := fun W hW => radd_any W _ _ l n d hn (hl.at hW) (by omega) ((HD.out.below hW).mono hW.size)
      have hpa : ∀ W, Below w.heap.size w W → Calls Tryd.prog 37 #[.slice a l.length cap, .slice a' m.length cap'] W fun e w' => e = .returned (partV l m) ∧ Below W.heap.size W w' := fun W hW => part_any W _ _ l m (hl.at hW) (hm.at hW) (by omega) (by omega) (hT.below hW h0) (by have := hW.size; omega)
      have hpr : ∀ W, Below w.heap.size w W → Calls Tryd.prog 38 #[.slice a l.length cap, .slice a' m.length cap'] W fun e w' => e = .returned (partV l m) ∧ Below W.heap.size W w' := fun W hW => rpart_any W _ _ l m (hl.at hW) (hm.at hW) (by omega) (by omega)
      have hls : (added l n d).length ≤ 100000 := by
        unfold added
        split
        · rw [List.length_append]; simp only [List.length_cons, List.length_nil]; omega
        · simp
      obtain ⟨pi, po, pe, hpv⟩ := part_parts l m
      rw [hpv] at hpa hpr
      generalize addErr l n d = AE at *
      generalize added l n d = LL at *
      generalize l.length = N at *
      generalize m.length = M at *
      obtain ⟨L, hL⟩ : ∃ L, d.length = L := ⟨_, rfl⟩
      rw [hL] at had har k1 ⊢
      have HAD := Lib.hid had
      have HAR := Lib.hid har
      have HPA := Lib.hid hpa
      have HPR := Lib.hid hpr
      have HLS := Lib.hid hls
      clear had har hpa hpr hls hpv hL hv hu hv0 hu0 hla hlb hl hm hT hn HD h1 h1'
      by_cases k300 : L ≤ 300
      · have g1 : decide ((L : Int) > 300) = false := by simp; omega
        have g2 : decide ((300 : Int) < (L : Int)) = false := by simp; omega
        have g3 : decide (300 < L) = false := by simp; omega
        clear k300
        go_enter Tryd.func11, Tryd.ntmps11
        go_wp2_with fail
        refine HSA.out.mono ?_
        rintro e w1 ⟨rfl, hb1⟩
        have HB1 := Lib.hid hb1
        clear hb1
        go_wp2_with (first
          | (go_at_call 30; with_reducible refine (HFA.out _ HB1.out).mono ?_; rintro e w2 ⟨rfl, rfl⟩)
          | (go_at_call 30; with_reducible refine (HFB.out _ HB1.out).mono ?_; rintro e w2 ⟨rfl, rfl⟩))
        refine (HAD.out _ HB1.out).mono ?_
        rintro e w3 ⟨v3, rfl, hl3, hb3⟩
        have HB3 := Lib.hid (HB1.out.trans (hb3.mono HB1.out.size))
        have HL3 := Lib.hid hl3
        clear hl3 hb3
        go_wp2_with fail
        refine (HAR.out _ HB3.out).mono ?_
        rintro e w4 ⟨v4, rfl, hl4, hb4⟩
        have HB4 := Lib.hid (HB3.out.trans (hb4.mono HB3.out.size))
        have HL4 := Lib.hid hl4
        have HL3 := Lib.hid (HL3.out.at hb4)
        clear hl4 hb4
        go_wp2_with fail
        refine (HPA.out _ HB4.out).mono ?_
        rintro e w5 ⟨rfl, hb5⟩
        have HB5 := Lib.hid (HB4.out.trans (hb5.mono HB4.out.size))
        have HL3 := Lib.hid (HL3.out.at hb5)
        have HL4 := Lib.hid (HL4.out.at hb5)
        clear hb5
        go_wp2_with fail
        refine (HPR.out _ HB5.out).mono ?_
        rintro e w6 ⟨rfl, hb6⟩
        have HB6 := Lib.hid (HB5.out.trans (hb6.mono HB5.out.size))
        have HL3 := Lib.hid (HL3.out.at hb6)
        have HL4 := Lib.hid (HL4.out.at hb6)
        clear hb6
        obtain ⟨a3, p3, rfl, _, _⟩ := HL3.out.shape
        obtain ⟨a4, p4, rfl, _, _⟩ := HL4.out.shape
        have hsame := rsame_any w6 _ _ LL LL HL3.out HL4.out HLS.out HLS.out
        rw [decide_eq_true rfl] at hsame
        have HSAME := Lib.hid hsame
        clear hsame
        go_wp2_with fail
        refine HSAME.out.mono ?_
        rintro e w7 ⟨rfl, hb7⟩
        have HB7 := Lib.hid (HB6.out.trans (hb7.mono HB6.out.size))
        clear hb7
        go_wp2
        go_returns
        exact ⟨rfl, HB7.out⟩
      · have g1 : decide ((L : Int) > 300) = true := by simp; omega
        have g2 : decide ((300 : Int) < (L : Int)) = true := by simp; omega
        have g3 : decide (300 < L) = true := by simp; omega
        by_cases k65 : L ≤ 65536
        · have g4 : decide ((L : Int) ≤ 65536) = true := by simp; omega
          have g5 : decide (L ≤ 65536) = true := by simp; omega
          clear k300 k65
          go_enter Tryd.func11, Tryd.ntmps11
          go_wp2_with fail
          refine HSA.out.mono ?_
          rintro e w1 ⟨rfl, hb1⟩
          have HB1 := Lib.hid hb1
          clear hb1
          go_wp2_with (first
            | (go_at_call 30; with_reducible refine (HFA.out _ HB1.out).mono ?_; rintro e w2 ⟨rfl, rfl⟩)
            | (go_at_call 30; with_reducible refine (HFB.out _ HB1.out).mono ?_; rintro e w2 ⟨rfl, rfl⟩))
          go_returns
          exact ⟨rfl, HB1.out⟩
        · have g4 : decide ((L : Int) ≤ 65536) = false := by simp; omega
          have g5 : decide (L ≤ 65536) = false := by simp; omega
          clear k300 k65
          go_enter Tryd.func11, Tryd.ntmps11
          go_wp2_with fail
          refine HSA.out.mono ?_
          rintro e w1 ⟨rfl, hb1⟩
          have HB1 := Lib.hid hb1
          clear hb1
          go_wp2_with (first
            | (go_at_call 30; with_reducible refine (HFA.out _ HB1.out).mono ?_; rintro e w2 ⟨rfl, rfl⟩)
            | (go_at_call 30; with_reducible refine (HFB.out _ HB1.out).mono ?_; rintro e w2 ⟨rfl, rfl⟩))
          refine (HAD.out _ HB1.out).mono ?_
          rintro e w3 ⟨v3, rfl, hl3, hb3⟩
          have HB3 := Lib.hid (HB1.out.trans (hb3.mono HB1.out.size))
          have HL3 := Lib.hid hl3
          clear hl3 hb3
          go_wp2_with fail
          refine (HAR.out _ HB3.out).mono ?_
          rintro e w4 ⟨v4, rfl, hl4, hb4⟩
          have HB4 := Lib.hid (HB3.out.trans (hb4.mono HB3.out.size))
          have HL4 := Lib.hid hl4
          have HL3 := Lib.hid (HL3.out.at hb4)
          clear hl4 hb4
          go_wp2_with fail
          refine (HPA.out _ HB4.out).mono ?_
          rintro e w5 ⟨rfl, hb5⟩
          have HB5 := Lib.hid (HB4.out.trans (hb5.mono HB4.out.size))
          have HL3 := Lib.hid (HL3.out.at hb5)
          have HL4 := Lib.hid (HL4.out.at hb5)
          clear hb5
          go_wp2_with fail
          refine (HPR.out _ HB5.out).mono ?_
          rintro e w6 ⟨rfl, hb6⟩
          have HB6 := Lib.hid (HB5.out.trans (hb6.mono HB5.out.size))
          have HL3 := Lib.hid (HL3.out.at hb6)
          have HL4 := Lib.hid (HL4.out.at hb6)
          clear hb6
          obtain ⟨a3, p3, rfl, _, _⟩ := HL3.out.shape
          obtain ⟨a4, p4, rfl, _, _⟩ := HL4.out.shape
          have hsame := rsame_any w6 _ _ LL LL HL3.out HL4.out HLS.out HLS.out
          rw [decide_eq_true rfl] at hsame
          have HSAME := Lib.hid hsame
          clear hsame
          go_wp2_with fail
          refine HSAME.out.mono ?_
          rintro e w7 ⟨rfl, hb7⟩
          have HB7 := Lib.hid (HB6.out.trans (hb7.mono HB6.out.size))
          clear hb7
          go_wp2
          go_returns
          exact ⟨rfl, HB7.out⟩
end Go.Proofs.YtfmngeemhfpeiaaDoor
