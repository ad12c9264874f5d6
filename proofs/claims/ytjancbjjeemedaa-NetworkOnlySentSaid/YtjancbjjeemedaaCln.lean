/- bytes.Clone. -/
import Derived.Test.YtjancbjjeemedaaLose
namespace Go.Proofs.Ytjancbjjeemedaa
open Go.RowKit

theorem wp_build0 {o : Oper} {a : Act} {W : World} {K : Act → World → Prop} {Q : Exit → Act → World → Prop} (t e : TypeId) (ho : o.op = .buildSlice t 0 (List.toArray [])) (ht : Try.prog.underlying t = some (.slice e)) {sz by_ : Nat} {z : Value} (hi : (Try.prog.info? e).map (fun i => (i.zero, i.size, i.bytes)) = some (some z, sz, by_))
    (h : ∀ g W', Below W.heap.size W W' → (∀ base, base ≤ W.heap.size → W'.ownsRow base e sz (.slice (some ⟨g, 0, none⟩) 0 0) 0 []) → K (a.put o.dst (.slice (some ⟨g, 0, none⟩) 0 0)) W') : o.wp Try.prog a W K Q := by
  obtain ⟨i, hi1, hz0, hz1, hz2⟩ := info_parts hi
  have hn : (newRow e #[]).run Try.prog W = .ok ⟨W.heap.size, 0, none⟩ (W.alloc (.cells #[] e)) := rfl
  have hrun : (Instr.buildSlice t 0 #[]).run Try.prog W = .ok (.slice (some ⟨W.heap.size, 0, none⟩) 0 0) (W.alloc (.cells #[] e)) := by
    simp [Instr.buildSlice, run_underlying ht, sizeOf, typeInfo, hi1, Instr.fill]
    rw [show (Array.map (fun _ => (default : Value)) (Array.range 0)) = #[] by simp, hn]
    rfl
  have hk := h _ _ ((Below.refl _ _).alloc (Nat.le_refl _) _) fun base hb => World.ownsRow_made (base := base) W #[] 0 hb (by unfold maxLen; omega) (by simp)
  unfold Oper.wp execOp
  simp [ho, hrun]
  exact hk
theorem wpList_build0 {ops : Array Oper} {rest : List Oper} {o : Oper} {a : Act} {W : World} {Q : Exit → Act → World → Prop} (hgd : o.guard = none) (t e : TypeId) (ho : o.op = .buildSlice t 0 (List.toArray [])) (ht : Try.prog.underlying t = some (.slice e)) {sz by_ : Nat} {z : Value} (hi : (Try.prog.info? e).map (fun i => (i.zero, i.size, i.bytes)) = some (some z, sz, by_))
    (h : ∀ g W', Below W.heap.size W W' → (∀ base, base ≤ W.heap.size → W'.ownsRow base e sz (.slice (some ⟨g, 0, none⟩) 0 0) 0 []) → wpList Try.prog ops Q rest (a.put o.dst (.slice (some ⟨g, 0, none⟩) 0 0)) W') : wpList Try.prog ops Q (o :: rest) a W :=
  wpList_plain hgd fun _ hK => wp_build0 t e ho ht hi fun g W' h1 h2 => hK _ _ (h g W' h1 h2)
/-- Bytes against nil. -/
theorem bytes_nil_in (W : World) (d : Nat) (a : Option Addr) (n c : Nat) : (Op.equalIn (d + 1) 26 (.slice a n c) (.slice none 0 0)).run Try.prog W = .ok a.isNone W := by
  cases a <;> simp [Op.equalIn, run_underlying Try.underlying26]
theorem bytes_nil_eq (W : World) (a : Option Addr) (n c : Nat) : (binOp .eql 26 (.slice a n c) (.slice none 0 0)).run Try.prog W = .ok (.bool a.isNone) W := by
  simp only [binOp]
  simp [Op.equal, Op.maxDepth, bytes_nil_in W 9999 a n c]
theorem Try.info5 : (Try.prog.info? 5).map (fun i => (i.zero, i.size, i.bytes)) = some (some (.int .u8 0), 1, 1) := by kernel_rfl
theorem b_append_none (W : World) (a : Option Addr) (n c : Nat) (hc : n ≤ c) (a2 : Option Addr) (c2 : Nat) : (Builtin.append_ #[26, 26] 26 #[.slice a n c, .slice a2 0 c2]).run Try.prog W = .ok (.slice a n c) W := by
  obtain ⟨i, hi, _, _, _⟩ := info_parts Try.info5
  cases a <;> cases a2 <;> simp [Builtin.append_, run_underlying Try.underlying26, sizeOf, typeInfo, hi, Builtin.lenOf, hc, storeCells, Builtin.firstCells, loadCells, loadCellsFrom]

set_option maxRecDepth 100000 in
set_option maxHeartbeats 2000000 in
theorem clone_any (w : World) (a : Option Addr) (c : Nat) (bs : By) (h : BytesAt w w.heap.size (.slice a bs.length c) bs) (hl : bs.length ≤ 1048576) : Calls Try.prog 29 #[.slice a bs.length c] w fun e w' => ∃ v', e = .returned v' ∧ BytesAt w' w'.heap.size v' bs ∧ Below w.heap.size w w' := by
  obtain ⟨a', c', e1, hc, hm, h4⟩ := id h
  cases e1
  cases a with
  | none =>
    obtain rfl : bs = [] := by
      rcases h4 with h4 | ⟨_, _, h4, _⟩
      · exact h4
      · cases h4
    have hq : ∀ W, (binOp .eql 26 (.slice none (0 : Nat) c) (.slice none 0 0)).run Try.prog W = .ok (.bool true) W := fun W => bytes_nil_eq W none 0 c
    clear h h4
    go_enter Try.func29, Try.ntmps29
    go_wp2
    go_ret
    exact ⟨_, rfl, bytes_nil _ _ none, Below.refl _ _⟩
  | some ad =>
    by_cases h0 : bs = []
    · subst h0
      have hap := fun W g => b_append_none W (some ⟨g, 0, none⟩) 0 0 (Nat.le_refl _) (some ad) c
      have HAP := Lib.hid hap
      have hq : ∀ W, (binOp .eql 26 (.slice (some ad) (0 : Nat) c) (.slice none 0 0)).run Try.prog W = .ok (.bool false) W := fun W => bytes_nil_eq W (some ad) 0 c
      clear h h4 hap
      go_enter Try.func29, Try.ntmps29
      go_wp2_with (first | (refine wpList_build0 rfl 26 5 (by rfl) Try.underlying26 Try.info5 ?_; intro g w1 hb1 hown1; have HB1 := Lib.hid hb1; clear hb1 hown1) | (at_builtin; refine wpList_append_run rfl _ _ 26 26 rfl _ _ _ _ (by rfl) (by rfl) (HAP.out _ _) ?_))
      go_ret
      exact ⟨_, rfl, bytes_nil _ _ _, HB1.out⟩
    · obtain ⟨b, off, e2, hb, hin⟩ : ∃ b off, some ad = some (⟨b, off, none⟩ : Addr) ∧ b < w.heap.size ∧ BytesIn w b off bs := by
        rcases h4 with h4 | ⟨b, off, h4, h5, h6⟩
        · exact absurd h4 h0
        · exact ⟨b, off, h4, h5, h6⟩
      injection e2 with e2
      subst e2
      obtain ⟨i0, hi, hz0, hz1, hz2⟩ := info_parts Try.info5
      have HIN := Lib.hid hin
      have hcl := cells8_len bs
      obtain ⟨xs, hxs⟩ : ∃ xs, cells8 bs = xs := ⟨_, rfl⟩
      have HXS := Lib.hid hxs
      have h1c : ∀ u ∈ xs, u.oneCell' = true := by rw [← hxs]; exact one_cells8 bs
      rw [hxs] at hcl
      obtain ⟨n, hn⟩ : ∃ n, bs.length = n := ⟨_, rfl⟩
      have HN := Lib.hid hn
      rw [hn] at hcl hl hc ⊢
      have HNEW : Hid (∀ W, Below w.heap.size w W → ∀ (j : Nat) (u : Value), xs[j]? = some u → W.cell? ((⟨b, off, none⟩ : Addr).add j) = some u) := Lib.hid fun W hW j u hu => bytes_news (HIN.out.below hW hb) j u (by rw [HXS.out]; exact hu)
      have H1C := Lib.hid h1c
      have hq : ∀ W, (binOp .eql 26 (.slice (some ⟨b, off, none⟩) n c) (.slice none 0 0)).run Try.prog W = .ok (.bool false) W := fun W => bytes_nil_eq W (some ⟨b, off, none⟩) n c
      clear h h4 hin hxs h1c hn h0
      go_enter Try.func29, Try.ntmps29
      go_wp2_with (first | (refine wpList_build0 rfl 26 5 (by rfl) Try.underlying26 Try.info5 ?_; intro g w1 hb1 hown1; have HB1 := Lib.hid hb1; have HO1 := Lib.hid hown1; clear hb1 hown1) | (at_builtin; refine wpList_append_own _ rfl (.tmp 5) (.tmp 6) 26 rfl w.heap.size 5 i0 _ 1 1 Try.underlying26 hi hz0 hz1 hz2 rfl (by omega) _ 0 [] (by rfl) (HO1.out _ (Nat.le_refl _)) ⟨b, off, none⟩ n c xs (by rfl) (by rw [hcl]; omega) (HNEW.out _ HB1.out) H1C.out (by unfold maxLen; omega) (by omega) HB1.out.size ?_; intro v2 w2 hown2 hgr2 _))
      go_ret
      have hw2 : Below w.heap.size w w2 := ⟨hgr2.os.trans HB1.out.os, hgr2.tape.trans HB1.out.tape, hgr2.output.trans HB1.out.output, Nat.le_trans HB1.out.size hgr2.size, fun i hi => (hgr2.block i (Nat.lt_of_lt_of_le hi HB1.out.size) (fun e => by have := ((HO1.out _ (Nat.le_refl _)).lt i e.symm).1; omega)).trans (HB1.out.block i hi)⟩
      rw [Nat.zero_add, List.nil_append] at hown2
      have hlt := hown2.lt
      have hcc := fun g hg i u hu => World.ownsRow.cells hown2 (g := g) hg i u hu
      refine ⟨v2, rfl, ?_, hw2⟩
      have hlen : bs.length = n := HN.out
      rcases hown2.2 with ⟨rfl, h0⟩ | ⟨g2, cap, cur, rfl, _, _, hn1, hm1, _, _⟩
      · have : bs = [] := List.length_eq_zero_iff.1 (by rw [hlen]; exact h0)
        exact ⟨none, 0, by rw [hlen, h0], by rw [this]; simp, by unfold maxLen; omega, .inl this⟩
      · refine ⟨_, cap, by rw [hlen], by rw [hlen]; exact hn1, hm1, .inr ⟨g2, 0, rfl, (hlt g2 rfl).2, fun i hi => ?_⟩⟩
        have := hcc g2 rfl i (.int .u8 bs[i].toNat) (by rw [← HXS.out]; simp [cells8, List.getElem?_eq_getElem hi])
        rw [show (⟨g2, 0, none⟩ : Addr).add i = ⟨g2, 0 + i, none⟩ from Addr.add_mid g2 0 i] at this
        exact this
end Go.Proofs.Ytjancbjjeemedaa
