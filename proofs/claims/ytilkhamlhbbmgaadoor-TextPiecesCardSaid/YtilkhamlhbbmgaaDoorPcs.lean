/- Words with white space between them. -/
import Derived.Test.YtilkhamlhbbmgaaDoorBrw
import Derived.Test.YtilkhamlhbbmgaaDoorLbk
namespace Go.Proofs.YtilkhamlhbbmgaaDoor
open Go.RowKit

/-- The white space that a number asks for, as code points and as bytes. -/
def gL (m : Nat) : List Int := match m % 4 with | 0 => [32] | 1 => [9] | 2 => [10, 32] | _ => [13, 10]
def gB (m : Nat) : List UInt8 := match m % 4 with | 0 => [32] | 1 => [9] | 2 => [10, 32] | _ => [13, 10]
theorem g_case (m : Nat) : (m % 4 = 0 ∧ gL m = [32] ∧ gB m = [32]) ∨ (m % 4 = 1 ∧ gL m = [9] ∧ gB m = [9]) ∨ (m % 4 = 2 ∧ gL m = [10, 32] ∧ gB m = [10, 32]) ∨ (m % 4 = 3 ∧ gL m = [13, 10] ∧ gB m = [13, 10]) := by
  unfold gL gB
  rcases (by omega : m % 4 = 0 ∨ m % 4 = 1 ∨ m % 4 = 2 ∨ m % 4 = 3) with h | h | h | h <;> rw [h] <;> simp
theorem g_encs (m : Nat) : encs (gL m) = gB m := by
  rcases g_case m with ⟨_, h1, h2⟩ | ⟨_, h1, h2⟩ | ⟨_, h1, h2⟩ | ⟨_, h1, h2⟩ <;> rw [h1, h2] <;> decide +kernel
theorem g_len (m : Nat) : (gB m).length ≤ 2 := by
  rcases g_case m with ⟨_, _, h2⟩ | ⟨_, _, h2⟩ | ⟨_, _, h2⟩ | ⟨_, _, h2⟩ <;> rw [h2] <;> decide
theorem g_sp (m : Nat) : (∃ a c, gL m = a ++ [c] ∧ isSp c = true) ∧ ∀ x ∈ gL m, isSp x = true ∧ okPt x = true := by
  rcases g_case m with ⟨_, h1, _⟩ | ⟨_, h1, _⟩ | ⟨_, h1, _⟩ | ⟨_, h1, _⟩ <;> rw [h1]
  · exact ⟨⟨[], 32, rfl, by decide⟩, by decide⟩
  · exact ⟨⟨[], 9, rfl, by decide⟩, by decide⟩
  · exact ⟨⟨[10], 32, rfl, by decide⟩, by decide⟩
  · exact ⟨⟨[13], 10, rfl, by decide⟩, by decide⟩
theorem flds_space (sp : Int → Bool) : ∀ (g : List Int), (∀ x ∈ g, sp x = true) → flds sp [] g = []
  | [], _ => by simp [flds]
  | c :: g, h => by
    unfold flds
    rw [if_pos (h c (by simp)), if_pos rfl]
    exact flds_space sp g fun x hx => h x (by simp [hx])
theorem flds_app (sp : Int → Bool) (c : Int) (b : List Int) (hc : sp c = true) : ∀ (a cur : List Int), flds sp cur (a ++ c :: b) = flds sp cur (a ++ [c]) ++ flds sp [] b
  | [], cur => by
    simp only [List.nil_append, flds, if_pos hc]
    by_cases h : cur = [] <;> simp [h]
  | r :: a, cur => by
    simp only [List.cons_append, flds]
    by_cases hs : sp r = true
    · rw [if_pos hs, if_pos hs]
      by_cases h : cur = []
      · rw [if_pos h, if_pos h]; exact flds_app sp c b hc a []
      · rw [if_neg h, if_neg h, flds_app sp c b hc a []]; rfl
    · rw [if_neg hs, if_neg hs]; exact flds_app sp c b hc a (cur ++ [r])
theorem flds_word (sp : Int → Bool) (g : List Int) (hg : g ≠ []) (hsp : ∀ x ∈ g, sp x = true) : ∀ (f cur : List Int), cur ++ f ≠ [] → (∀ x ∈ f, sp x = false) → flds sp cur (f ++ g) = [cur ++ f]
  | [], cur, h, _ => by
    cases g with
    | nil => exact absurd rfl hg
    | cons c g =>
      have hn : cur ≠ [] := by simpa using h
      simp only [List.nil_append, flds, if_pos (hsp c (by simp)), if_neg hn, List.append_nil]
      rw [flds_space sp g fun x hx => hsp x (by simp [hx])]
  | r :: f, cur, h, hf => by
    simp only [List.cons_append, flds]
    rw [if_neg (by rw [hf r (by simp)]; simp), flds_word sp g hg hsp f (cur ++ [r]) (by simp) fun x hx => hf x (by simp [hx])]
    simp
theorem flds_len (sp : Int → Bool) : ∀ (l cur : List Int), ((flds sp cur l).map fun f => (encs f).length).sum ≤ (encs cur).length + (encs l).length
  | [], cur => by unfold flds; by_cases h : cur = [] <;> simp [h]
  | r :: l, cur => by
    unfold flds
    rw [encs_cons, List.length_append]
    by_cases hs : sp r = true
    · rw [if_pos hs]
      have ih := flds_len sp l []
      rw [encs_nil] at ih
      simp only [List.length_nil, Nat.zero_add] at ih
      by_cases h : cur = []
      · rw [if_pos h]; omega
      · rw [if_neg h, List.map_cons, List.sum_cons]; omega
    · rw [if_neg hs]
      have ih := flds_len sp l (cur ++ [r])
      rw [encs_app, encs_one, List.length_append] at ih
      omega
theorem sum_len : ∀ (fs : List (List Int)), (∀ f ∈ fs, f ≠ []) → fs.length ≤ (fs.map fun f => (encs f).length).sum
  | [], _ => by simp
  | f :: fs, h => by
    have ih := sum_len fs fun x hx => h x (by simp [hx])
    have := (encs_len f).1
    have h0 : f.length ≠ 0 := fun e => h f (by simp) (List.eq_nil_of_length_eq_zero e)
    rw [List.map_cons, List.sum_cons, List.length_cons]
    omega
/-- White space in front, the first k words, white space behind each. -/
def pl (gs : Nat → Nat) (fs : List (List Int)) : Nat → List Int
  | 0 => gL (gs fs.length)
  | k + 1 => pl gs fs k ++ (fs.getD k [] ++ gL (gs k))
theorem pl_spec (gs : Nat → Nat) (fs : List (List Int)) (hf : ∀ f ∈ fs, f ≠ [] ∧ ∀ x ∈ f, isSp x = false ∧ okPt x = true) : ∀ k, k ≤ fs.length → (∃ a c, pl gs fs k = a ++ [c] ∧ isSp c = true) ∧ (∀ x ∈ pl gs fs k, okPt x = true) ∧ flds isSp [] (pl gs fs k) = fs.take k ∧ (encs (pl gs fs k)).length ≤ 2 + ((fs.take k).map fun f => (encs f).length).sum + 2 * k
  | 0, _ => by
    obtain ⟨h1, h2⟩ := g_sp (gs fs.length)
    refine ⟨h1, fun x hx => (h2 x hx).2, ?_, ?_⟩
    · rw [List.take_zero]; exact flds_space isSp _ fun x hx => (h2 x hx).1
    · show (encs (gL (gs fs.length))).length ≤ _
      rw [g_encs]; have := g_len (gs fs.length); simp; omega
  | k + 1, hk => by
    obtain ⟨⟨a, c, h1, h2⟩, h3, h4, h5⟩ := pl_spec gs fs hf k (by omega)
    have hg : fs.getD k [] = fs[k]'(by omega) := by simp [List.getD, List.getElem?_eq_getElem (show k < fs.length by omega)]
    obtain ⟨hn, hx⟩ := hf (fs[k]'(by omega)) (List.getElem_mem _)
    obtain ⟨⟨ga, gc, g1, g2⟩, g3⟩ := g_sp (gs k)
    have hgn : gL (gs k) ≠ [] := by rw [g1]; simp
    show (∃ a c, pl gs fs k ++ (fs.getD k [] ++ gL (gs k)) = a ++ [c] ∧ isSp c = true) ∧ (∀ x ∈ pl gs fs k ++ (fs.getD k [] ++ gL (gs k)), okPt x = true) ∧ flds isSp [] (pl gs fs k ++ (fs.getD k [] ++ gL (gs k))) = fs.take (k + 1) ∧ (encs (pl gs fs k ++ (fs.getD k [] ++ gL (gs k)))).length ≤ _
    rw [hg]
    refine ⟨⟨pl gs fs k ++ (fs[k]'(by omega) ++ ga), gc, by rw [g1]; simp, g2⟩, fun x hm => ?_, ?_, ?_⟩
    · rw [List.mem_append, List.mem_append] at hm
      rcases hm with hm | hm | hm
      · exact h3 x hm
      · exact (hx x hm).2
      · exact (g3 x hm).2
    · rw [List.take_succ_eq_append_getElem (by omega), ← h4, h1, List.append_assoc, List.singleton_append, flds_app isSp c _ h2, flds_word isSp _ hgn (fun x hx => (g3 x hx).1) _ [] (by simpa using hn) (fun y hy => (hx y hy).1), List.nil_append]
    · rw [encs_app, encs_app, List.length_append, List.length_append, g_encs, List.take_succ_eq_append_getElem (by omega), List.map_append, List.sum_append]
      have := g_len (gs k)
      simp only [List.map_cons, List.map_nil, List.sum_cons, List.sum_nil]
      omega
theorem sum_take (fs : List (List Int)) (k : Nat) : ((fs.take k).map fun f => (encs f).length).sum ≤ (fs.map fun f => (encs f).length).sum := by
  conv => rhs; rw [← List.take_append_drop k fs]
  rw [List.map_append, List.sum_append]
  omega
theorem sum_mem : ∀ (fs : List (List Int)) (f : List Int), f ∈ fs → (encs f).length ≤ (fs.map fun f => (encs f).length).sum
  | [], _, h => by cases h
  | g :: fs, f, h => by
    rw [List.map_cons, List.sum_cons]
    rcases List.mem_cons.1 h with rfl | h
    · omega
    · have := sum_mem fs f h; omega
/-- All that the law asks of a text's words. -/
theorem pieces {bs : List UInt8} (h : rnsE bs = 0) (hl : bs.length ≤ 1000) (gs : Nat → Nat) : ∃ T : Nat → List UInt8, T 0 = gB (gs (spV bs).length) ∧
    (∀ k (hk : k < (spV bs).length), T (k + 1) = T k ++ ((spV bs)[k] ++ gB (gs k)) ∧ (T k).length ≤ 3500 ∧ (spV bs)[k].length ≤ 1000 ∧ rnsE (spV bs)[k] = 0 ∧ spV (spV bs)[k] = [(spV bs)[k]] ∧ wordB (spV bs)[k] = decide ((spV bs)[k].length ≤ 64)) ∧
    rnsE (T (spV bs).length) = 0 ∧ spV (T (spV bs).length) = spV bs := by
  obtain ⟨_, _, h3, h4⟩ := rns_ok h
  obtain ⟨fs, hfs⟩ : ∃ fs, flds isSp [] (rnsV bs) = fs := ⟨_, rfl⟩
  have hsp : spV bs = fs.map encs := by unfold spV; rw [if_pos h, hfs]
  have hf : ∀ f ∈ fs, f ≠ [] ∧ ∀ x ∈ f, isSp x = false ∧ okPt x = true := by
    intro f hf
    rw [← hfs] at hf
    exact flds_mem isSp (rnsV bs) [] (fun x => isSp x = false ∧ okPt x = true) (fun _ h => by cases h) (fun x hx hs => ⟨hs, h3 x hx⟩) f hf
  have hsum : (fs.map fun f => (encs f).length).sum ≤ 1000 := by
    have := flds_len isSp (rnsV bs) []
    rw [hfs, encs_nil, ← h4] at this
    simp at this
    omega
  have hfl : fs.length ≤ 1000 := by have := sum_len fs (fun f h => (hf f h).1); omega
  have hlen : ∀ k, k ≤ fs.length → (encs (pl gs fs k)).length ≤ 3500 := fun k hk => by
    have h1 := (pl_spec gs fs hf k hk).2.2.2
    have h2 := sum_take fs k
    omega
  have hw : ∀ f ∈ fs, (encs f).length ≤ 1000 ∧ rnsE (encs f) = 0 ∧ spV (encs f) = [encs f] ∧ wordB (encs f) = decide ((encs f).length ≤ 64) := by
    intro f hm
    have h1 := sum_mem fs f hm
    obtain ⟨h5, h6⟩ := hf f hm
    obtain ⟨h7, h8⟩ := rns_encs (l := f) (List.all_eq_true.2 fun x hx => (h6 x hx).2) (by omega)
    have ha : f.any isSp = false := by rw [List.any_eq_false]; intro x hx; rw [(h6 x hx).1]; simp
    refine ⟨by omega, h7, ?_, ?_⟩
    · unfold spV; rw [if_pos h7, h8, flds_whole isSp f [] ha, List.nil_append, if_neg h5]; rfl
    · unfold wordB
      have hne : encs f ≠ [] := fun e => by have := (encs_len f).1; rw [e] at this; exact h5 (List.eq_nil_of_length_eq_zero (by simpa using this))
      rw [h7, h8, ha, decide_eq_true hne]
      simp
  rw [hsp]
  refine ⟨fun k => encs (pl gs fs k), ?_, fun k hk => ?_, ?_, ?_⟩
  · show encs (gL (gs fs.length)) = _
    rw [g_encs, List.length_map]
  · rw [List.length_map] at hk
    have hg : fs.getD k [] = fs[k]'(by omega) := by simp [List.getD, List.getElem?_eq_getElem (show k < fs.length by omega)]
    rw [List.getElem_map]
    refine ⟨?_, hlen k (by omega), hw _ (List.getElem_mem _)⟩
    show encs (pl gs fs k ++ (fs.getD k [] ++ gL (gs k))) = _
    rw [hg, encs_app, encs_app, g_encs]
  · rw [List.length_map]
    exact (rns_encs (List.all_eq_true.2 (pl_spec gs fs hf _ (Nat.le_refl _)).2.1) (by have := hlen fs.length (Nat.le_refl _); omega)).1
  · rw [List.length_map]
    obtain ⟨h7, h8⟩ := rns_encs (List.all_eq_true.2 (pl_spec gs fs hf _ (Nat.le_refl _)).2.1) (by have := hlen fs.length (Nat.le_refl _); omega)
    have h9 := (pl_spec gs fs hf _ (Nat.le_refl _)).2.2.1
    show spV (encs (pl gs fs fs.length)) = _
    unfold spV
    rw [if_pos h7, h8, h9, List.take_length]
end Go.Proofs.YtilkhamlhbbmgaaDoor
