/- The law LexBack, walked. -/
import Derived.Test.YtdcdldjbdjochaaDoorLbk
import Derived.Test.YtdcdldjbdjochaaDoorFew
import Derived.Test.YtdcdldjbdjochaaDoorSne
import Derived.Lib.ItoaLen
namespace Go.Proofs.YtdcdldjbdjochaaDoor
open Go.RowKit

theorem text_len (t : Tok) (hn : -9223372036854775808 ≤ t.n ∧ t.n ≤ 9223372036854775807) : (textT t).length ≤ t.text.length + 21 := by
  unfold textT
  split
  · have := Lib.itoa_length_le t.n hn.1 hn.2; omega
  · omega
theorem tail_few : ∀ (l : List Tok), Fit l → (Lib.joinTail [32] (l.map textT)).length ≤ tot l + 22 * l.length
  | [], _ => by simp [Lib.joinTail]
  | t :: l, hf => by
    have h1 := tail_few l fun x hx => hf x (List.mem_cons_of_mem _ hx)
    have h2 := text_len t (hf t (by simp)).2
    have e : (Lib.joinTail [32] ((t :: l).map textT)).length = 1 + (textT t).length + (Lib.joinTail [32] (l.map textT)).length := by
      unfold Lib.joinTail; simp; omega
    have e2 : tot (t :: l) = t.text.length + tot l := by simp [tot]
    rw [e, e2, List.length_cons]
    omega
theorem tot_mem : ∀ (l : List Tok) (t : Tok), t ∈ l → t.text.length ≤ tot l
  | c :: l, t, h => by
    have e2 : tot (c :: l) = c.text.length + tot l := by simp [tot]
    rcases List.mem_cons.1 h with rfl | h
    · omega
    · have := tot_mem l t h; omega
theorem few_text {l : List Tok} (h : few l = true) (hf : Fit l) : l.length ≤ 200 ∧ tot l ≤ 2000 ∧ (Lib.join (l.map textT) [32]).length ≤ 65536 := by
  unfold few at h
  simp only [Bool.and_eq_true, decide_eq_true_eq] at h
  have h1 := tail_few l hf
  have h2 := join_len (l.map textT)
  exact ⟨h.1, h.2, by omega⟩
/-- Text of few tokens. -/
theorem text_few (W : World) (v : Value) (l : List Tok) (h : TRow W W.heap.size v l) (hT : Tab W) (h0 : few l = true) (hf : Fit l) : Calls Tryd.prog 15 #[v] W (TextPost W (textAll l)) := by
  obtain ⟨h1, h2, h3⟩ := few_text h0 hf
  exact text_any W v l h hT (by omega) (fun t ht => by have := tot_mem l t ht; omega) (fun t ht => (hf t ht).2) (by omega)
theorem textAll_ok {l : List Tok} {s : List UInt8} (h : textAll l = some s) : l.all validT = true ∧ s = Lib.join (l.map textT) [32] := by
  unfold textAll at h
  split at h
  · rename_i hv; injection h with h; exact ⟨hv, h.symm⟩
  · cases h

/-- What the law's second half asks of a source with tokens. -/
theorem back_src (bs : List UInt8) (x : List Tok) (hl : bs.length ≤ 3000) (h : lexAll bs = .ok x) : ∃ t y, textAll x = some t ∧ lexAll t = .ok y ∧ tsames x y = true ∧ t.length ≤ 65536 ∧ x.length ≤ 1000000 ∧ (∀ k ∈ x, k.text.length ≤ 1000000) ∧ (∀ k ∈ x, -9223372036854775808 ≤ k.n ∧ k.n ≤ 9223372036854775807) := by
  obtain ⟨h1, h2, h3, h4⟩ := lexAll_toks h
  obtain ⟨y, h5, h6⟩ := lexAll_text x h1
  refine ⟨_, y, by unfold textAll; rw [if_pos h1], h5, h6, by omega, by omega, fun k hk => by have := (h4 k hk).1; omega, fun k hk => (h4 k hk).2⟩

set_option maxRecDepth 100000 in
set_option maxHeartbeats 8000000 in
theorem lawBack (w : World) (v : Value) (l : List Tok) (hv : TRow w w.heap.size v l) (hf : Fit l) (s0 : ByteArray) (hT : Tab w) : Calls Tryd.prog 5 #[v, .string s0] w fun e w' => e = .returned (.bool true) ∧ Below w.heap.size w w' := by
  obtain ⟨bs, rfl⟩ : ∃ bs, s0 = str bs := ⟨s0.data.toList, (str_of s0).symm⟩
  have HT := Lib.hid hT
  have HV := Lib.hid hv
  have HF := Lib.hid hf
  have HSN := Lib.hid (sane_any w hT)
  have hsz := str_size bs
  have hrow : ∀ W, Below w.heap.size w W → TRow W W.heap.size v l := fun W hW => hv.next hW
  have HROW := Lib.hid hrow
  have hfe : ∀ W, Below w.heap.size w W → Calls Tryd.prog 14 #[v] W fun e w' => e = .returned (.bool (few l)) ∧ Below W.heap.size W w' := fun W hW => rfew_any W v l (hrow W hW) hf
  have hlx : ∀ W (q : List UInt8), Below w.heap.size w W → q.length ≤ 65536 → Calls Tryd.prog 11 #[.string (str q)] W (LexPost W (lexAll q)) := fun W q hW hl => lex_any W q (HT.out.below hW) hl
  obtain ⟨a1, c1, rfl, hl1, hm1, _⟩ := hv
  obtain ⟨N, hN⟩ : ∃ N, bs.length = N := ⟨_, rfl⟩
  cases hfw : few l with
  | false =>
    rw [hfw] at hfe
    have HFE := Lib.hid hfe
    obtain ⟨s, hs⟩ : ∃ s, str bs = s := ⟨_, rfl⟩
    rw [hs]
    clear hfe hlx hfw hrow hT hf hs hN hsz
    go_enter Tryd.func5, Tryd.ntmps5
    go_wp2_with fail
    refine HSN.out.mono ?_
    rintro e w1 ⟨rfl, hb1⟩
    have HB1 := Lib.hid hb1
    clear hb1
    go_wp2_with fail
    refine (HFE.out w1 HB1.out).mono ?_
    rintro e w2 ⟨rfl, hb2⟩
    have HB2 := Lib.hid (HB1.out.trans (hb2.mono HB1.out.size))
    clear hb2
    go_wp2
    go_ret
    exact ⟨by simp, HB2.out⟩
  | true =>
    rw [hfw] at hfe
    have HFE := Lib.hid hfe
    by_cases hlong : 3000 < N
    · rw [hN] at hsz
      obtain ⟨s, hs⟩ : ∃ s, str bs = s := ⟨_, rfl⟩
      rw [hs] at hsz ⊢
      have d : decide (3000 < (N : Int)) = true := by simp; omega
      clear hfe hlx hfw hrow hT hf hs hN hlong
      go_enter Tryd.func5, Tryd.ntmps5
      go_wp2_with fail
      refine HSN.out.mono ?_
      rintro e w1 ⟨rfl, hb1⟩
      have HB1 := Lib.hid hb1
      clear hb1
      go_wp2_with fail
      refine (HFE.out w1 HB1.out).mono ?_
      rintro e w2 ⟨rfl, hb2⟩
      have HB2 := Lib.hid (HB1.out.trans (hb2.mono HB1.out.size))
      clear hb2
      go_wp2
      go_ret
      exact ⟨by simp, HB2.out⟩
    · have d : decide (3000 < (N : Int)) = false := by simp; omega
      obtain ⟨res, hres⟩ : ∃ res, lexAll bs = res := ⟨_, rfl⟩
      have hl0 : ∀ W, Below w.heap.size w W → Calls Tryd.prog 11 #[.string (str bs)] W (LexPost W res) := fun W hW => hres ▸ hlx W bs hW (by omega)
      have hbk : ∀ x, res = .ok x → ∃ t y, (∀ W v2, Below w.heap.size w W → TRow W W.heap.size v2 x → Calls Tryd.prog 15 #[v2] W fun e w' => e = .returned (.tuple #[.string (str t), .int .i64 0]) ∧ Below W.heap.size W w') ∧
          (∀ W, Below w.heap.size w W → Calls Tryd.prog 11 #[.string (str t)] W (LexPost W (.ok y))) ∧
          (∀ W v2 v3, Below w.heap.size w W → TRow W W.heap.size v2 x → TRow W W.heap.size v3 y → Calls Tryd.prog 17 #[v2, v3] W fun e w' => e = .returned (.bool true) ∧ Below W.heap.size W w') := fun x hx => by
        obtain ⟨t, y, e1, e2, e3, e4, e5, e6, e7⟩ := back_src bs x (by omega) (hres.trans hx)
        have hj : (Lib.join (x.map textT) [32]).length ≤ 140737488355328 := by rw [← (textAll_ok e1).2]; omega
        refine ⟨t, y, fun W v2 hW h2 => ?_, fun W hW => e2 ▸ hlx W t hW e4, fun W v2 v3 hW h2 h3 => e3 ▸ same_any W v2 v3 x y h2 h3⟩
        have := text_any W v2 x h2 (HT.out.below hW) e5 e6 e7 hj
        rw [e1] at this
        exact this.mono fun e w' h => ⟨h.2, h.1⟩
      have HBK := Lib.hid hbk
      have HLX := Lib.hid hl0
      have htx : ∀ W, Below w.heap.size w W → Calls Tryd.prog 15 #[.slice a1 l.length c1] W (TextPost W (textAll l)) := fun W hW => text_few W _ l (hrow W hW) (HT.out.below hW) hfw hf
      have hfit := few_text hfw hf
      cases hta : textAll l with
      | none =>
        rw [hta] at htx
        have HTX := Lib.hid htx
        rw [hN] at hsz
        obtain ⟨s, hs⟩ : ∃ s, str bs = s := ⟨_, rfl⟩
        rw [hs] at hsz HLX ⊢
        clear htx hta hl0 hbk hfit hfe hlx hfw hrow hT hf hs hN hlong hres
        go_enter Tryd.func5, Tryd.ntmps5
        go_wp2_with fail
        refine HSN.out.mono ?_
        rintro e w1 ⟨rfl, hb1⟩
        have HB1 := Lib.hid hb1
        clear hb1
        go_wp2_with fail
        refine (HFE.out w1 HB1.out).mono ?_
        rintro e w2 ⟨rfl, hb2⟩
        have HB2 := Lib.hid (HB1.out.trans (hb2.mono HB1.out.size))
        clear hb2
        go_wp2_with fail
        refine (HTX.out w2 HB2.out).mono ?_
        rintro e w3 ⟨hb3, he⟩
        have he : e = .returned (.tuple #[.string { data := #[] }, .int .i64 30]) := he
        subst he
        have HB3 := Lib.hid (HB2.out.trans (hb3.mono HB2.out.size))
        clear hb3
        cases res with
        | bad p =>
          go_wp2_with fail
          refine (HLX.out w3 HB3.out).mono ?_
          rintro e wa ⟨hba, he⟩
          have he : e = .returned (.tuple #[.slice none 0 0, .int .i64 p, .int .i64 30]) := he
          subst he
          have HBA := Lib.hid (HB3.out.trans (hba.mono HB3.out.size))
          clear hba
          go_wp2
          go_ret
          exact ⟨by simp, HBA.out⟩
        | ok x =>
          obtain ⟨t, y, k1, k2, k3⟩ := HBK.out x rfl
          have HK1 := Lib.hid k1
          have HK2 := Lib.hid k2
          have HK3 := Lib.hid k3
          clear k1 k2 k3 HBK
          obtain ⟨st, hst⟩ : ∃ st, str t = st := ⟨_, rfl⟩
          rw [hst] at HK1 HK2
          clear hst
          go_wp2_with fail
          refine (HLX.out w3 HB3.out).mono ?_
          rintro e wa ⟨hba, va, B, rfl, hB, hown⟩
          obtain ⟨aa, capa, rfl⟩ := own_slice hown
          have hta := TRow.of_own hown
          have HTA := Lib.hid hta
          have HBA := Lib.hid (HB3.out.trans (hba.mono HB3.out.size))
          clear hba hown hta hB
          go_wp2_with fail
          refine (HK1.out wa _ HBA.out HTA.out).mono ?_
          rintro e wb ⟨rfl, hbb⟩
          have HTB := Lib.hid (HTA.out.next hbb)
          have HBB := Lib.hid (HBA.out.trans (hbb.mono HBA.out.size))
          clear hbb HTA
          go_wp2_with fail
          refine (HK2.out wb HBB.out).mono ?_
          rintro e wc ⟨hbc, vc, B, rfl, hB, hown⟩
          obtain ⟨ac, capc, rfl⟩ := own_slice hown
          have htc := TRow.of_own hown
          have HTC := Lib.hid htc
          have HTD := Lib.hid (HTB.out.next hbc)
          have HBC := Lib.hid (HBB.out.trans (hbc.mono HBB.out.size))
          clear hbc hown htc hB HTB
          go_wp2_with fail
          refine (HK3.out wc _ _ HBC.out HTD.out HTC.out).mono ?_
          rintro e wd ⟨rfl, hbd⟩
          have HBD := Lib.hid (HBC.out.trans (hbd.mono HBC.out.size))
          clear hbd
          go_wp2
          go_ret
          exact ⟨by simp, HBD.out⟩
      | some s1 =>
        rw [hta] at htx
        have HTX := Lib.hid htx
        obtain ⟨hva, he1⟩ := textAll_ok hta
        obtain ⟨m, hm, hsame⟩ := lexAll_text l hva
        rw [← he1] at hm
        have hl2 : ∀ W, Below w.heap.size w W → Calls Tryd.prog 11 #[.string (str s1)] W (LexPost W (.ok m)) := fun W hW => hm ▸ hlx W s1 hW (by rw [he1]; exact hfit.2.2)
        have hsa : ∀ W v3, Below w.heap.size w W → TRow W W.heap.size v3 m → Calls Tryd.prog 17 #[.slice a1 l.length c1, v3] W fun e w' => e = .returned (.bool true) ∧ Below W.heap.size W w' := fun W v3 hW h3 => hsame ▸ same_any W _ v3 l m (hrow W hW) h3
        have HL2 := Lib.hid hl2
        have HSA := Lib.hid hsa
        rw [hN] at hsz
        obtain ⟨s, hs⟩ : ∃ s, str bs = s := ⟨_, rfl⟩
        rw [hs] at hsz HLX ⊢
        have htx2 : ∀ W, Below w.heap.size w W → Calls Tryd.prog 15 #[.slice a1 l.length c1] W fun e w' => e = .returned (.tuple #[.string (str s1), .int .i64 0]) ∧ Below W.heap.size W w' := fun W hW => (htx W hW).mono fun e w' h => ⟨h.2, h.1⟩
        have HTX2 := Lib.hid htx2
        obtain ⟨q, hq⟩ : ∃ s, str s1 = s := ⟨_, rfl⟩
        rw [hq] at HL2 HTX2
        clear htx hta hl0 hbk hfit hfe hlx hfw hrow hT hf hs hN hlong hres hl2 hsa htx2 HTX hq hm hsame he1 hva
        go_enter Tryd.func5, Tryd.ntmps5
        go_wp2_with fail
        refine HSN.out.mono ?_
        rintro e w1 ⟨rfl, hb1⟩
        have HB1 := Lib.hid hb1
        clear hb1
        go_wp2_with fail
        refine (HFE.out w1 HB1.out).mono ?_
        rintro e w2 ⟨rfl, hb2⟩
        have HB2 := Lib.hid (HB1.out.trans (hb2.mono HB1.out.size))
        clear hb2
        go_wp2_with fail
        refine (HTX2.out w2 HB2.out).mono ?_
        rintro e w3 ⟨rfl, hb3⟩
        have HB3 := Lib.hid (HB2.out.trans (hb3.mono HB2.out.size))
        clear hb3 HTX2
        go_wp2_with fail
        refine (HL2.out w3 HB3.out).mono ?_
        rintro e w4 ⟨hb4, v4, B, rfl, hB, hown⟩
        obtain ⟨a4, cap4, rfl⟩ := own_slice hown
        have ht4 := TRow.of_own hown
        have HT4 := Lib.hid ht4
        have HB4 := Lib.hid (HB3.out.trans (hb4.mono HB3.out.size))
        clear hb4 hown ht4 hB HL2
        go_wp2_with fail
        refine (HSA.out w4 _ HB4.out HT4.out).mono ?_
        rintro e w5 ⟨rfl, hb5⟩
        have HB5 := Lib.hid (HB4.out.trans (hb5.mono HB4.out.size))
        clear hb5 HSA HT4
        cases res with
        | bad p =>
          go_wp2_with fail
          refine (HLX.out w5 HB5.out).mono ?_
          rintro e wa ⟨hba, he⟩
          have he : e = .returned (.tuple #[.slice none 0 0, .int .i64 p, .int .i64 30]) := he
          subst he
          have HBA := Lib.hid (HB5.out.trans (hba.mono HB5.out.size))
          clear hba
          go_wp2
          go_ret
          exact ⟨by simp, HBA.out⟩
        | ok x =>
          obtain ⟨t, y, k1, k2, k3⟩ := HBK.out x rfl
          have HK1 := Lib.hid k1
          have HK2 := Lib.hid k2
          have HK3 := Lib.hid k3
          clear k1 k2 k3 HBK
          obtain ⟨st, hst⟩ : ∃ st, str t = st := ⟨_, rfl⟩
          rw [hst] at HK1 HK2
          clear hst
          go_wp2_with fail
          refine (HLX.out w5 HB5.out).mono ?_
          rintro e wa ⟨hba, va, B, rfl, hB, hown⟩
          obtain ⟨aa, capa, rfl⟩ := own_slice hown
          have hta := TRow.of_own hown
          have HTA := Lib.hid hta
          have HBA := Lib.hid (HB5.out.trans (hba.mono HB5.out.size))
          clear hba hown hta hB
          go_wp2_with fail
          refine (HK1.out wa _ HBA.out HTA.out).mono ?_
          rintro e wb ⟨rfl, hbb⟩
          have HTB := Lib.hid (HTA.out.next hbb)
          have HBB := Lib.hid (HBA.out.trans (hbb.mono HBA.out.size))
          clear hbb HTA
          go_wp2_with fail
          refine (HK2.out wb HBB.out).mono ?_
          rintro e wc ⟨hbc, vc, B, rfl, hB, hown⟩
          obtain ⟨ac, capc, rfl⟩ := own_slice hown
          have htc := TRow.of_own hown
          have HTC := Lib.hid htc
          have HTD := Lib.hid (HTB.out.next hbc)
          have HBC := Lib.hid (HBB.out.trans (hbc.mono HBB.out.size))
          clear hbc hown htc hB HTB
          go_wp2_with fail
          refine (HK3.out wc _ _ HBC.out HTD.out HTC.out).mono ?_
          rintro e wd ⟨rfl, hbd⟩
          have HBD := Lib.hid (HBC.out.trans (hbd.mono HBC.out.size))
          clear hbd
          go_wp2
          go_ret
          exact ⟨by simp, HBD.out⟩
end Go.Proofs.YtdcdldjbdjochaaDoor
