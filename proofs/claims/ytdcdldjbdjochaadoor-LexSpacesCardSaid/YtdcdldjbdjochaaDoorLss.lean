/- The law LexSpaces, walked. -/
import Derived.Test.YtdcdldjbdjochaaDoorLsp
import Derived.Test.YtdcdldjbdjochaaDoorLbw
import Derived.Test.YtdcdldjbdjochaaDoorLnm
import Derived.Test.YtdcdldjbdjochaaDoorRdm
import Derived.Test.YtdcdldjbdjochaaDoorBrw
namespace Go.Proofs.YtdcdldjbdjochaaDoor
open Go.RowKit

/-- The note's bytes that are no line feeds. -/
def words (ns : List UInt8) (j : Nat) : List UInt8 := (ns.take j).filter fun b => !(b.toNat == 10)
theorem words_succ (ns : List UInt8) (j : Nat) (h : j < ns.length) : words ns (j + 1) = if ns[j].toNat = 10 then words ns j else words ns j ++ [ns[j]] := by
  unfold words
  rw [List.take_succ_eq_append_getElem h, List.filter_append]
  by_cases e : ns[j].toNat = 10
  · rw [if_pos e]; simp [e]
  · rw [if_neg e]; simp [e]
theorem words_len (ns : List UInt8) (j : Nat) : (words ns j).length ≤ ns.length := by
  unfold words
  have h1 := List.length_filter_le (fun b : UInt8 => !(b.toNat == 10)) (ns.take j)
  rw [List.length_take] at h1
  omega
theorem words_no (ns : List UInt8) (j : Nat) : ∀ b ∈ words ns j, b.toNat ≠ 10 := fun b hb => by
  have := (List.mem_filter.1 hb).2
  simpa using this
/-- The gap behind the token at a place. -/
def gapOf (ws tn : List UInt8) (i : Nat) : List UInt8 := match tn[i]? with
  | some c => ((gaps ws)[c.toNat % 8]?).getD [32]
  | none => [32]
theorem gapOf_skip (ws tn : List UInt8) (hw : ∀ b ∈ ws, b.toNat ≠ 10) (i : Nat) : Skips (gapOf ws tn i) := by
  have hs := skips_space 32 (by decide)
  unfold gapOf
  split
  · rename_i c _
    cases hg : (gaps ws)[c.toNat % 8]? with
    | none => exact hs
    | some g => exact gaps_skip ws hw g (List.mem_of_getElem? hg)
  · exact hs
theorem gapOf_len (ws tn : List UInt8) (hw : ws.length ≤ 100) (i : Nat) : (gapOf ws tn i).length ≤ 103 := by
  unfold gapOf
  split
  · rename_i c _
    cases hg : (gaps ws)[c.toNat % 8]? with
    | none => simp
    | some g => exact gaps_len ws hw g (List.mem_of_getElem? hg)
  · simp
/-- The eight strings in memory. -/
theorem gaps_cells (W : World) (ws : List UInt8) (r : Nat) (hr : r < 8) : (W.alloc (.cells ((gaps ws).map fun g => Value.string (str g)).toArray 9)).cell? ⟨W.heap.size, r, none⟩ = some (.string (str (((gaps ws)[r]?).getD [32]))) := by
  rw [World.cell?_alloc_new]
  have hl : r < (gaps ws).length := hr
  simp [hl]

theorem wrap_byte (c : Nat) (h : c < 256) : wrap64 (c : Int) = (c : Int) := by unfold wrap64; omega
theorem mod8 (c : Nat) : ∃ r, c % 8 = r ∧ r < 8 ∧ (r : Int) < 8 ∧ (c : Int).tmod 8 = (r : Int) := ⟨c % 8, rfl, by omega, by omega, by rw [Int.tmod_eq_emod_of_nonneg (by omega)]; omega⟩
theorem spc_mono (gp : Nat → List UInt8) (l : List Tok) : ∀ (d j : Nat), j + d ≤ l.length → (spc gp 0 (l.take j)).length ≤ (spc gp 0 (l.take (j + d))).length
  | 0, j, _ => by simp
  | d + 1, j, h => by
    have h1 := spc_mono gp l d j (by omega)
    have h2 := spc_take gp l (j + d) (by omega)
    rw [show j + (d + 1) = j + d + 1 by omega, h2, List.length_append]
    omega
/-- What is written is short. -/
theorem spc_short (ws tn : List UInt8) (hw : ws.length ≤ 100) (l : List Tok) (hl : l.length ≤ 200 ∧ tot l ≤ 2000) (hf : Fit l) (j : Nat) (hj : j ≤ l.length) : (spc (gapOf ws tn) 0 (l.take j)).length ≤ 60000 := by
  have h1 := spc_mono (gapOf ws tn) l (l.length - j) j (by omega)
  rw [show j + (l.length - j) = l.length by omega, List.take_length] at h1
  have h2 := spc_len (gapOf ws tn) 103 (gapOf_len ws tn hw) l 0 fun t ht => text_len t (hf t ht).2
  have h3 : (l.map fun t => t.text.length).sum = tot l := rfl
  omega
/-- Text of a single token. -/
theorem text_one (W : World) (t : Tok) (hT : Tab W) (htl : t.text.length ≤ 1000000) (hn : -9223372036854775808 ≤ t.n ∧ t.n ≤ 9223372036854775807) :
    Calls Tryd.prog 15 #[.slice (some ⟨W.heap.size, 0, none⟩) 1 1] (W.alloc (Obj.cells #[.int .i64 t.kind, .string (str t.text), .int .i64 t.n, .int .i64 t.at_] 35)) fun e w' => Below W.heap.size W w' ∧ e = .returned (if validT t then .tuple #[.string (str (textT t)), .int .i64 0] else .tuple #[.string { data := #[] }, .int .i64 30]) := by
  have hmz : TRow (W.alloc (Obj.cells (tcells [t]).toArray 35)) (W.heap.size + 1) (.slice (some ⟨W.heap.size, 0, none⟩) 1 1) [t] := TRow.made W _ 1 rfl (by unfold maxLen; omega)
  have hbw : Below W.heap.size W (W.alloc (Obj.cells (tcells [t]).toArray 35)) := (Below.refl W.heap.size W).alloc (Nat.le_refl _) _
  have hj : (Lib.join ([t].map textT) [32]).length ≤ 140737488355328 := by
    show (Lib.join [textT t] [32]).length ≤ _
    rw [Lib.join_one]
    have := text_len t hn
    omega
  have := text_any (W.alloc (Obj.cells (tcells [t]).toArray 35)) _ [t] (by rw [World.size_alloc]; exact hmz) (hT.below hbw) (by simp) (fun c hc => by rw [List.mem_singleton.1 hc]; exact htl) (fun c hc => by rw [List.mem_singleton.1 hc]; exact hn) hj
  refine this.mono fun e w' hp => ⟨hbw.trans (hp.1.mono hbw.size), ?_⟩
  have h2 := hp.2
  unfold textAll at h2
  simp only [List.all_cons, List.all_nil, Bool.and_true] at h2
  cases hv : validT t with
  | true => rw [hv] at h2; exact h2.trans (by show _ = Ending.returned (.tuple #[.string (str (textT t)), .int .i64 0]); rw [← Lib.join_one (textT t) [32]]; rfl)
  | false => rw [hv] at h2; exact h2

set_option maxRecDepth 100000 in
set_option maxHeartbeats 8000000 in
theorem lawSpaces (w : World) (v1 : Value) (l : List Tok) (h1 : TRow w w.heap.size v1 l) (hf : Fit l) (v2 : Value) (tn : List UInt8) (h2 : BRow w w.heap.size v2 tn) (s0 : ByteArray) (hT : Tab w) : Calls Tryd.prog 7 #[v1, v2, .string s0] w fun e w' => e = .returned (.bool true) ∧ Below w.heap.size w w' := by
  obtain ⟨ns, rfl⟩ : ∃ bs, s0 = str bs := ⟨s0.data.toList, (str_of s0).symm⟩
  have HT := Lib.hid hT
  have H1 := Lib.hid h1
  have H2 := Lib.hid h2
  have HFIT := Lib.hid hf
  have HSN := Lib.hid (sane_any w hT)
  have hsz := str_size ns
  have hr1 : ∀ W, Below w.heap.size w W → TRow W W.heap.size v1 l := fun W hW => h1.next hW
  have hfe1 : ∀ W, Below w.heap.size w W → Calls Tryd.prog 14 #[v1] W fun e w' => e = .returned (.bool (few l)) ∧ Below W.heap.size W w' := fun W hW => rfew_any W v1 l (hr1 W hW) hf
  have hix := fun j (hj : j < ns.length) W => run_str ns j hj W
  have hws := words_succ ns
  have hex := fun j => str_extract ns j (j + 1)
  obtain ⟨a1, c1, rfl, hl1, hm1, _⟩ := h1
  obtain ⟨a2, c2, rfl, hl2, hm2, hc2⟩ := h2
  unfold maxLen at hm1 hm2
  obtain ⟨N, hN⟩ : ∃ N, ns.length = N := ⟨_, rfl⟩
  have HN := Lib.hid hN
  rw [hN] at hsz
  obtain ⟨s, hs⟩ : ∃ s, str ns = s := ⟨_, rfl⟩
  rw [hs] at hsz ⊢
  simp only [hs] at hix hex
  have HIX := Lib.hid hix
  have HWS := Lib.hid hws
  have HEX := Lib.hid hex
  clear hix hws hex hT hs hN
  cases hfw : few l with
  | false =>
    rw [hfw] at hfe1
    have HFE := Lib.hid hfe1
    clear hfe1 hr1 hf hc2
    go_enter Tryd.func7, Tryd.ntmps7
    go_wp2_with fail
    refine HSN.out.mono ?_
    rintro e w1 ⟨rfl, hb1⟩
    have HB1 := Lib.hid hb1
    clear hb1
    go_wp2_with fail
    refine (HFE.out w1 HB1.out).mono ?_
    rintro e w2 ⟨rfl, hb2⟩
    have HB2 := Lib.hid (HB1.out.trans (hb2.mono HB1.out.size))
    clear hb2
    go_wp2
    go_ret
    exact ⟨by simp, HB2.out⟩
  | true =>
    rw [hfw] at hfe1
    have HFE := Lib.hid hfe1
    have HFEW := Lib.hid (few_text hfw hf)
    have HTL : Hid (∀ W, Below w.heap.size w W → Calls Tryd.prog 15 #[.slice a1 l.length c1] W (TextPost W (textAll l))) := Lib.hid fun W hW => text_few W _ l (hr1 W hW) (HT.out.below hW) hfw hf
    have HR1 := Lib.hid hr1
    by_cases hlong : 100 < N
    · have d : decide (100 < (N : Int)) = true := by simp; omega
      clear hfe1 hr1 hf hc2
      go_enter Tryd.func7, Tryd.ntmps7
      go_wp2_with fail
      refine HSN.out.mono ?_
      rintro e w1 ⟨rfl, hb1⟩
      have HB1 := Lib.hid hb1
      clear hb1
      go_wp2_with fail
      refine (HFE.out w1 HB1.out).mono ?_
      rintro e w2 ⟨rfl, hb2⟩
      have HB2 := Lib.hid (HB1.out.trans (hb2.mono HB1.out.size))
      clear hb2
      go_wp2
      go_ret
      exact ⟨by simp, HB2.out⟩
    · have d : decide (100 < (N : Int)) = false := by simp; omega
      have HC2 := Lib.hid hc2
      clear hfe1 hr1 hf hc2
      go_enter Tryd.func7, Tryd.ntmps7
      go_wp2_with fail
      refine HSN.out.mono ?_
      rintro e w1 ⟨rfl, hb1⟩
      have HB1 := Lib.hid hb1
      clear hb1
      go_wp2_with fail
      refine (HFE.out w1 HB1.out).mono ?_
      rintro e w2 ⟨rfl, hb2⟩
      have HB2 := Lib.hid (HB1.out.trans (hb2.mono HB1.out.size))
      clear hb2
      go_wp2_with fail
      go_loopw [7, 8] (fun s8 i wr => ∃ j : Nat, i = .int .i64 j ∧ j ≤ N ∧ s8 = .string (str (words ns j)) ∧ wr = w2) (fun _ i _ => N - (intOf i).toNat)
      case atStart => exact ⟨0, rfl, by omega, rfl, rfl⟩
      case round =>
        obtain ⟨j, rfl, hj, rfl, rfl⟩ := hrel
        by_cases hlt : j < N
        · -- <1
          have d1 : decide ((j : Int) < (N : Int)) = true := by simp; omega
          have hx := HIX.out j (by rw [HN.out]; exact hlt)
          have hw := HWS.out j (by rw [HN.out]; exact hlt)
          have hwl := words_len ns j
          have he : s.extract j (j + 1) = str [ns[j]'(by rw [HN.out]; exact hlt)] := by
            rw [HEX.out j, show j + 1 - j = 1 by omega, List.drop_eq_getElem_cons (by rw [HN.out]; exact hlt)]
            rfl
          have hsl : ∀ W, (Instr.slice 9 (.string s) (some (.int .i64 (j : Int))) (some (.int .i64 ((j : Int) + 1))) none).run Tryd.prog W = .ok (.string (s.extract j (j + 1))) W := fun W => by
            have := run_slice_string (P := Tryd.prog) W 9 s .i64 .i64 (j : Int) ((j : Int) + 1) Tryd.underlying9 (by omega) (by omega) (by omega)
            simpa using this
          rw [he] at hsl
          have hsa := str_add (words ns j) [ns[j]'(by rw [HN.out]; exact hlt)]
          have hss : (str (words ns j)).size + (str [ns[j]'(by rw [HN.out]; exact hlt)]).size ≤ 9223372036854775807 := by
            rw [str_size, str_size]; rw [HN.out] at hwl; simp; omega
          obtain ⟨b, hb⟩ : ∃ b, ns[j]'(by rw [HN.out]; exact hlt) = b := ⟨_, rfl⟩
          rw [hb] at hx hw hsl hsa hss
          obtain ⟨c, hc⟩ : ∃ c, b.toNat = c := ⟨_, rfl⟩
          rw [hc] at hx hw
          by_cases e10 : c = 10
          · subst e10
            rw [if_pos rfl] at hw
            have HW := Lib.hid hw
            obtain ⟨Y, hY⟩ : ∃ Y, str (words ns j) = Y := ⟨_, rfl⟩
            have HY := Lib.hid hY
            rw [hY]
            clear hw hwl he hsl hsa hss hb hc hY
            go_wp2_with fail
            refine ⟨⟨j + 1, by go_num, by omega, by rw [HW.out, HY.out], trivial⟩, ?_⟩
            simp [intOf]; omega
          · rw [if_neg e10] at hw
            have e1 : ((c : Int) == 10) = false := by simp; omega
            have HW := Lib.hid hw
            obtain ⟨Y, hY⟩ : ∃ Y, str (words ns j) = Y := ⟨_, rfl⟩
            obtain ⟨Z, hZ⟩ : ∃ Z, str [b] = Z := ⟨_, rfl⟩
            rw [hY] at hsa hss ⊢
            rw [hZ] at hsl hsa hss
            have HSA := Lib.hid hsa
            clear he hw hwl hsa hb hc hY hZ e10
            go_wp2_with fail
            refine ⟨⟨j + 1, by go_num, by omega, by rw [HW.out, HSA.out], trivial⟩, ?_⟩
            simp [intOf]; omega
          -- 1>
        · obtain rfl : j = N := by omega
          have d1 : decide ((j : Int) < (j : Int)) = false := by simp
          clear HIX HWS HEX
          -- the eight strings
          have hWL := words_len ns j
          have hWN := words_no ns j
          rw [HN.out] at hWL
          obtain ⟨ws, hws⟩ : ∃ ws, words ns j = ws := ⟨_, rfl⟩
          rw [hws] at hWL hWN ⊢
          clear hws
          have hG0 : ({ data := #[47, 47] } : ByteArray) ++ str ws = str ([47, 47] ++ ws) := str_add [47, 47] ws
          have hG5 : str ([47, 47] ++ ws) ++ ({ data := #[10] } : ByteArray) = str ([47, 47] ++ ws ++ [10]) := str_add ([47, 47] ++ ws) [10]
          have hz0 : 2 + (str ws).size ≤ 9223372036854775807 := by rw [str_size]; omega
          have hz1 : (str ([47, 47] ++ ws)).size + 1 ≤ 9223372036854775807 := by rw [str_size]; simp; omega
          have hcells := gaps_cells wr ws
          have hobj : Obj.cells (((gaps ws).map fun g => Value.string (str g)).toArray) 9 = Obj.cells #[.string { data := #[32] }, .string { data := #[9] }, .string { data := #[10] }, .string { data := #[13, 10] }, .string { data := #[32, 32] }, .string (str ([47, 47] ++ ws ++ [10])), .string { data := #[32, 47, 47, 32, 10] }, .string { data := #[10, 47, 47, 10] }] 9 := rfl
          rw [hobj] at hcells
          obtain ⟨G0, hg0⟩ : ∃ G, str ([47, 47] ++ ws) = G := ⟨_, rfl⟩
          obtain ⟨G5, hg5⟩ : ∃ G, str ([47, 47] ++ ws ++ [10]) = G := ⟨_, rfl⟩
          obtain ⟨WS, hws⟩ : ∃ G, str ws = G := ⟨_, rfl⟩
          rw [hg0] at hG0 hG5 hz1
          rw [hg5] at hG5
          rw [hws] at hG0 hz0 ⊢
          simp only [hg5] at hcells
          clear hg0 hg5 hws hobj
          obtain ⟨w3, hw3⟩ : ∃ w3, w3 = wr.alloc (Obj.cells #[.string { data := #[32] }, .string { data := #[9] }, .string { data := #[10] }, .string { data := #[13, 10] }, .string { data := #[32, 32] }, .string G5, .string { data := #[32, 47, 47, 32, 10] }, .string { data := #[10, 47, 47, 10] }] 9) := ⟨_, rfl⟩
          rw [← hw3] at hcells
          have hb3 : Below wr.heap.size wr w3 := by rw [hw3]; exact (Below.refl _ _).alloc (Nat.le_refl _) _
          have hz3 : w3.heap.size = wr.heap.size + 1 := by rw [hw3, World.size_alloc]
          obtain ⟨gb, hgb⟩ : ∃ gb, wr.heap.size = gb := ⟨_, rfl⟩
          rw [hgb] at hcells hz3
          have HC3 := Lib.hid hcells
          have HB3 : Hid (Below w.heap.size w w3) := Lib.hid (HB2.out.trans (hb3.mono HB2.out.size))
          have HW3 := Lib.hid hw3
          have HGB := Lib.hid hgb
          clear hcells hb3 hw3 hgb
          go_wp2_with fail
          rw [← HW3.out, HGB.out]
          have HSH : Hid (∀ i, i ≤ l.length → (spc (gapOf ws tn) 0 (l.take i)).length ≤ 60000) := Lib.hid fun i hi => spc_short ws tn (by omega) l ⟨HFEW.out.1, HFEW.out.2.1⟩ HFIT.out i hi
          have HGS : Hid (∀ i, Skips (gapOf ws tn i)) := Lib.hid fun i => gapOf_skip ws tn hWN i
          have HST := Lib.hid (spc_take (gapOf ws tn) l)
          clear hWL hWN hG0 hG5 hz0 hz1 HN d1 d HSN HFE HW3 HGB
          obtain ⟨gp, hgp⟩ : ∃ gp, gapOf ws tn = gp := ⟨_, rfl⟩
          rw [hgp] at HSH HGS HST
          have HGP := Lib.hid hgp
          obtain ⟨M, hM⟩ : ∃ M, l.length = M := ⟨_, rfl⟩
          have HM := Lib.hid hM
          rw [hM] at hl1 H1 HTL HR1 ⊢
          obtain ⟨L, hL⟩ : ∃ L, tn.length = L := ⟨_, rfl⟩
          have HL := Lib.hid hL
          rw [hL] at hl2 ⊢
          clear hgp hM hL
          go_loopw [10, 54] (fun s10 i wx => ∃ j : Nat, i = .int .i64 j ∧ j ≤ M ∧ s10 = .string (str (10 :: spc gp 0 (l.take j))) ∧ Below w3.heap.size w3 wx ∧ Hid (∀ i (h : i < l.length), i < j → validT l[i] = true)) (fun _ i _ => M - (intOf i).toNat)
          case atStart => exact ⟨0, rfl, by omega, rfl, Below.refl _ _, Lib.hid fun i _ h => by omega⟩
          case round =>
            obtain ⟨i, rfl, hi, rfl, hb, hall⟩ := hrel
            have hbs := hb.size
            have hBW : Below w.heap.size w wr := HB3.out.trans (hb.mono HB3.out.size)
            by_cases hlt : i < M
            · -- <2
              have d1 : decide ((i : Int) < (M : Int)) = true := by simp; omega
              have ji : (i : Int) < (M : Int) := by omega
              have hil : i < l.length := by rw [HM.out]; exact hlt
              have hb1 := H1.out.below hBW
              obtain ⟨b1, o1, rfl, hbl1, p0, p1, p2, p3⟩ := hb1.got i hil
              have hmem : l[i]'hil ∈ l := List.getElem_mem _
              have hfit := (HFIT.out _ hmem).2
              have htm : (l[i]'hil).text.length ≤ 1000000 := by
                have h1 := tot_mem l _ hmem
                have h2 := HFEW.out.2.1
                omega
              have hst := HST.out i hil
              have hs1 := HSH.out (i + 1) (by rw [HM.out]; omega)
              have hone := fun W hW => text_one W (l[i]'hil) hW htm hfit
              obtain ⟨t, ht⟩ : ∃ t, l[i]'hil = t := ⟨_, rfl⟩
              rw [ht] at hst p0 p1 p2 p3
              simp only [ht] at hone
              have HVT : Hid (validT t = true → ∀ q (h : q < l.length), q < i + 1 → validT l[q] = true) := Lib.hid fun hv q h hq => by
                by_cases h2 : q < i
                · exact hall.out q h h2
                · obtain rfl : q = i := by omega
                  rw [ht]; exact hv
              have HNO : Hid (validT t = false → textAll l = none) := Lib.hid fun hv => by
                unfold textAll; rw [if_neg]
                intro ha
                rw [List.all_eq_true] at ha
                have := ha _ hmem
                rw [ht, hv] at this; cases this
              obtain ⟨kd, tx, n, at_⟩ := t
              dsimp only at hone p0 p1 p2 p3
              obtain ⟨V, hV⟩ : ∃ V, validT ⟨kd, tx, n, at_⟩ = V := ⟨_, rfl⟩
              obtain ⟨TT, hTT⟩ : ∃ V, textT ⟨kd, tx, n, at_⟩ = V := ⟨_, rfl⟩
              rw [hV] at HVT HNO
              rw [hTT] at hst
              simp only [hV, hTT] at hone
              obtain ⟨x1, hx1⟩ : ∃ k, str tx = k := ⟨_, rfl⟩
              rw [hx1] at p1
              simp only [hx1] at hone
              have HONE := Lib.hid hone
              have HSS := Lib.hid hst
              have HB := Lib.hid hb
              have HBW := Lib.hid hBW
              obtain ⟨SI, hSI⟩ : ∃ S, str (10 :: spc gp 0 (l.take i)) = S := ⟨_, rfl⟩
              have HSI := Lib.hid hSI
              rw [hSI]
              clear hb1 hmem hfit htm hst hone ht hV hTT hx1 hb hBW hall hSI
              have hal : Below wr.heap.size wr (wr.alloc (Obj.cells #[.int .i64 kd, .string x1, .int .i64 n, .int .i64 at_] 35)) := (Below.refl _ _).alloc (Nat.le_refl _) _
              have hcall := HONE.out (wr.alloc (Obj.cells #[.int .i64 kd, .string x1, .int .i64 n, .int .i64 at_] 35)) (HT.out.below (HBW.out.trans (hal.mono HBW.out.size)))
              rw [World.size_alloc] at hcall
              have HCALL := Lib.hid hcall
              clear hcall hal HONE
              go_wp2_with fail
              refine HCALL.out.mono ?_
              rintro e w4 ⟨hb4, rfl⟩
              have hb4' : Below wr.heap.size wr w4 := ((Below.refl wr.heap.size wr).alloc (Nat.le_refl _) _).trans (hb4.mono (by omega))
              have HB4 := Lib.hid (HBW.out.trans (hb4'.mono HBW.out.size))
              have HB34 := Lib.hid (HB.out.trans (hb4'.mono HB.out.size))
              clear hb4 hb4' HCALL p0 p1 p2 p3
              cases V with
              | false =>
                have hta := HNO.out rfl
                have htl := HTL.out w4 HB4.out
                rw [hta] at htl
                have HTN := Lib.hid htl
                clear hta htl HTL
                rw [if_neg (by simp)]
                go_wp2_with fail
                refine HTN.out.mono ?_
                rintro e w5 ⟨hb5, he⟩
                have he : e = .returned (.tuple #[.string { data := #[] }, .int .i64 30]) := he
                subst he
                have HB5 := Lib.hid (HB4.out.trans (hb5.mono HB4.out.size))
                clear hb5
                go_wp2
                go_ret
                exact ⟨by simp, HB5.out⟩
              | true =>
                have HVAL := Lib.hid (HVT.out rfl)
                clear HVT HNO
                have hsl := hs1
                rw [HSS.out] at hsl
                have e1 := str_add TT [32]
                have e2 := str_add (TT ++ [32]) (gp i)
                have e3 := str_add (10 :: spc gp 0 (l.take i)) (TT ++ [32] ++ gp i)
                have e4 : (10 :: spc gp 0 (l.take i)) ++ (TT ++ [32] ++ gp i) = 10 :: spc gp 0 (l.take (i + 1)) := by rw [HSS.out]; simp
                rw [e4] at e3
                have z1 : (str TT).size + 1 ≤ 9223372036854775807 := by rw [str_size]; simp at hsl; omega
                have z2 : (str (TT ++ [32])).size + (str (gp i)).size ≤ 9223372036854775807 := by rw [str_size, str_size]; simp at hsl ⊢; omega
                have z3 : (str (10 :: spc gp 0 (l.take i))).size + (str (TT ++ [32] ++ gp i)).size ≤ 9223372036854775807 := by rw [str_size, str_size]; simp at hsl ⊢; omega
                rw [if_pos rfl]
                have e1' : str TT ++ { data := #[32] } = str (TT ++ [32]) := e1
                obtain ⟨T0, ht0⟩ : ∃ T, str TT = T := ⟨_, rfl⟩
                obtain ⟨T1, ht1⟩ : ∃ T, str (TT ++ [32]) = T := ⟨_, rfl⟩
                obtain ⟨T2, ht2⟩ : ∃ T, str (TT ++ [32] ++ gp i) = T := ⟨_, rfl⟩
                obtain ⟨SN, hsn⟩ : ∃ T, str (10 :: spc gp 0 (l.take (i + 1))) = T := ⟨_, rfl⟩
                rw [ht0, ht1] at e1'
                rw [ht1, ht2] at e2
                rw [HSI.out, ht2, hsn] at e3
                rw [ht0] at z1 ⊢
                rw [ht1] at z2
                rw [HSI.out, ht2] at z3
                have HSN := Lib.hid hsn
                have hgpi : gp i = gapOf ws tn i := by rw [HGP.out]
                clear e1 e4 ht0 ht1 ht2 hsn hsl hs1 HSS HSI
                by_cases hti : i < L
                · -- <4
                  have htl : i < tn.length := by rw [HL.out]; exact hti
                  obtain ⟨tb, to, rfl, htb, htc⟩ : ∃ b off, a2 = some ⟨b, off, none⟩ ∧ b < w.heap.size ∧ ∀ i (h : i < tn.length), w.cell? ⟨b, off + i, none⟩ = some (.int .u8 (tn[i]).toNat) := by
                    rcases HC2.out with h0 | h0
                    · rw [h0] at htl; simp at htl
                    · exact h0
                  have qt := (HB4.out.cell (p := ⟨tb, to + i, none⟩) htb).trans (htc i htl)
                  have hg2 : gapOf ws tn i = ((gaps ws)[(tn[i]).toNat % 8]?).getD [32] := by unfold gapOf; rw [List.getElem?_eq_getElem htl]
                  obtain ⟨c, hc⟩ : ∃ c, (tn[i]).toNat = c := ⟨_, rfl⟩
                  rw [hc] at hg2 qt
                  have hc256 : c < 256 := by rw [← hc]; exact UInt8.toNat_lt _
                  have wc : wrap64 (c : Int) = (c : Int) := wrap_byte c hc256
                  obtain ⟨r, hr, hr8, r8i, rr⟩ := mod8 c
                  have qg := (HB34.out.cell (p := ⟨gb, r, none⟩) (by show gb < _; omega)).trans (HC3.out r hr8)
                  rw [hr] at hg2
                  rw [← hg2, ← hgpi] at qg
                  obtain ⟨G, hG⟩ : ∃ T, str (gp i) = T := ⟨_, rfl⟩
                  rw [hG] at e2 z2 qg
                  have d2 : decide ((i : Int) < (L : Int)) = true := by simp; omega
                  have ti : (i : Int) < (L : Int) := by omega
                  clear hgpi hg2 hc hr hG hti htc htl
                  go_wp2_with fail
                  refine ⟨⟨i + 1, by go_num, by omega, by rw [HSN.out], HB34.out, HVAL⟩, ?_⟩
                  simp [intOf]; omega
                  -- 4>
                · -- <5
                  have hg2 : gapOf ws tn i = [32] := by unfold gapOf; rw [List.getElem?_eq_none (by rw [HL.out]; omega)]
                  rw [hgpi, hg2] at e2 z2
                  have e2' : T1 ++ ({ data := #[32] } : ByteArray) = T2 := e2
                  have z2' : T1.size + 1 ≤ 9223372036854775807 := z2
                  have d2 : decide (i < L) = false := by simpa using hti
                  clear hgpi hg2 e2 z2
                  go_wp2_with fail
                  refine ⟨⟨i + 1, by go_num, by omega, by rw [HSN.out], HB34.out, HVAL⟩, ?_⟩
                  simp [intOf]; omega
                  -- 5>
              -- 2>
            · -- <3
              obtain rfl : i = M := by omega
              have d1 : decide ((i : Int) < (i : Int)) = false := by simp
              have hva : l.all validT = true := all_take HM.out fun i hi hij => hall.out i hi hij
              obtain ⟨m, hm, hsame⟩ := lexAll_spc gp HGS.out l hva
              have hlen := HSH.out i (by rw [HM.out]; omega)
              rw [show l.take i = l from by rw [← HM.out, List.take_length]] at hlen ⊢
              have HLX : Hid (Calls Tryd.prog 11 #[.string (str (10 :: spc gp 0 l))] wr (LexPost wr (.ok m))) := Lib.hid (hm ▸ lex_any wr _ (HT.out.below hBW) (by simp; omega))
              have HSA : Hid (∀ W v3, Below w.heap.size w W → TRow W W.heap.size v3 m → Calls Tryd.prog 17 #[.slice a1 i c1, v3] W fun e w' => e = .returned (.bool true) ∧ Below W.heap.size W w') := Lib.hid fun W v3 hW h3 => by
                have := same_any W _ v3 l m (HR1.out W hW) h3
                rw [hsame] at this
                exact this
              obtain ⟨q, hq⟩ : ∃ q, str (10 :: spc gp 0 l) = q := ⟨_, rfl⟩
              rw [hq] at HLX ⊢
              have HBW := Lib.hid hBW
              clear hb hall hva hm hsame hlen hq hBW hlt
              go_wp2_with fail
              refine HLX.out.mono ?_
              rintro e w4 ⟨hb4, v4, B, rfl, hB, hown⟩
              obtain ⟨a4, cap4, rfl⟩ := own_slice hown
              have ht4 := TRow.of_own hown
              have HT4 := Lib.hid ht4
              have HB4 := Lib.hid (HBW.out.trans (hb4.mono HBW.out.size))
              clear hb4 hown ht4 hB HLX
              go_wp2_with fail
              refine (HSA.out w4 _ HB4.out HT4.out).mono ?_
              rintro e w5 ⟨rfl, hb5⟩
              have HB5 := Lib.hid (HB4.out.trans (hb5.mono HB4.out.size))
              clear hb5 HSA HT4
              go_wp2
              go_ret
              exact ⟨by simp, HB5.out⟩
              -- 3>
end Go.Proofs.YtdcdldjbdjochaaDoor
