/- Pairs in order, as plain lists. -/
import Derived.Test.YtjancbjjeemedaaOtn
import Derived.Test.YtjancbjjeemedaaRck
namespace Go.Proofs.Ytjancbjjeemedaa
open Go.RowKit

theorem lt_iff (a b : Int × Int) : pairLt a b = true ↔ a.1 < b.1 ∨ (a.1 = b.1 ∧ a.2 < b.2) := by unfold pairLt; simp
theorem lt_trans {a b c : Int × Int} (h : pairLt a b = true) (k : pairLt b c = true) : pairLt a c = true := by
  rw [lt_iff] at *; omega
theorem cmp_lt (a b : Int × Int) : cmp2 a b < 0 ↔ pairLt a b = true := by
  have := cmp2_lt a b
  constructor
  · intro h
    cases e : pairLt a b with
    | true => rfl
    | false => rw [e] at this; simp at this; omega
  · intro h
    rw [h] at this; simp at this; omega
theorem okFrom_pw (p : Int × Int) (l : List (Int × Int)) (h : okFrom p l = true) : (p :: l).Pairwise (fun x y => pairLt x y = true) ∧ ∀ x ∈ l, okOne x = true := by
  induction l generalizing p with
  | nil => exact ⟨by simp, by simp⟩
  | cons q l ih =>
    simp only [okFrom, Bool.and_eq_true] at h
    obtain ⟨⟨h1, h2⟩, h3⟩ := h
    obtain ⟨k1, k2⟩ := ih q h3
    refine ⟨List.pairwise_cons.2 ⟨fun x hx => ?_, k1⟩, fun x hx => ?_⟩
    · rcases List.mem_cons.1 hx with rfl | hx
      · exact h2
      · exact lt_trans h2 ((List.pairwise_cons.1 k1).1 x hx)
    · rcases List.mem_cons.1 hx with rfl | hx
      · exact h1
      · exact k2 x hx
theorem okA_pw {l : List (Int × Int)} (h : okA l = true) : l.Pairwise (fun x y => pairLt x y = true) ∧ ∀ x ∈ l, okOne x = true := by
  cases l with
  | nil => exact ⟨by simp, by simp⟩
  | cons p l =>
    simp only [okA, Bool.and_eq_true] at h
    obtain ⟨k1, k2⟩ := okFrom_pw p l h.2
    exact ⟨k1, fun x hx => by
      rcases List.mem_cons.1 hx with rfl | hx
      · exact h.1
      · exact k2 x hx⟩
theorem okFrom_mk (p : Int × Int) (l : List (Int × Int)) (h : (p :: l).Pairwise (fun x y => pairLt x y = true)) (k : ∀ x ∈ l, okOne x = true) : okFrom p l = true := by
  induction l generalizing p with
  | nil => rfl
  | cons q l ih =>
    obtain ⟨h1, h2⟩ := List.pairwise_cons.1 h
    simp only [okFrom, Bool.and_eq_true]
    exact ⟨⟨k q (by simp), h1 q (by simp)⟩, ih q h2 fun x hx => k x (by simp [hx])⟩
theorem okA_mk {l : List (Int × Int)} (h : l.Pairwise (fun x y => pairLt x y = true)) (k : ∀ x ∈ l, okOne x = true) : okA l = true := by
  cases l with
  | nil => rfl
  | cons p l =>
    simp only [okA, Bool.and_eq_true]
    exact ⟨k p (by simp), okFrom_mk p l h fun x hx => k x (by simp [hx])⟩
theorem oth_mem {p x : Int × Int} {l : List (Int × Int)} : x ∈ oth p l ↔ x ∈ l ∧ x ≠ p := by
  unfold oth
  rw [List.mem_filter]
  refine and_congr_right fun _ => ?_
  obtain ⟨a, b⟩ := x
  obtain ⟨c, d⟩ := p
  simp only [Bool.not_eq_true', Bool.and_eq_false_imp, decide_eq_true_eq, decide_eq_false_iff_not, ne_eq, Prod.mk.injEq, not_and]
theorem oth_pw {p : Int × Int} {l : List (Int × Int)} (h : l.Pairwise (fun x y => pairLt x y = true)) : (oth p l).Pairwise (fun x y => pairLt x y = true) := h.filter _
/-- A pair in its place. -/
def ins (p : Int × Int) (l : List (Int × Int)) : List (Int × Int) := l.filter (fun x => pairLt x p) ++ p :: l.filter (fun x => !(pairLt x p))
theorem ins_at (p : Int × Int) : ∀ (l : List (Int × Int)) (i : Nat), i ≤ l.length → (∀ t (h : t < l.length), t < i → cmp2 l[t] p < 0) → (∀ t (h : t < l.length), i ≤ t → 0 ≤ cmp2 l[t] p) → l.take i ++ p :: l.drop i = ins p l := by
  intro l i hi h1 h2
  have ht : (l.take i).filter (fun x => pairLt x p) = l.take i := List.filter_eq_self.2 fun x hx => by
    obtain ⟨t, ht, rfl⟩ := List.getElem_of_mem hx
    rw [List.length_take] at ht
    rw [List.getElem_take]
    exact (cmp_lt _ _).1 (h1 t (by omega) (by omega))
  have htn : (l.take i).filter (fun x => !(pairLt x p)) = [] := List.filter_eq_nil_iff.2 fun x hx => by
    obtain ⟨t, ht, rfl⟩ := List.getElem_of_mem hx
    rw [List.length_take] at ht
    rw [List.getElem_take]
    have := (cmp_lt _ _).1 (h1 t (by omega) (by omega))
    simp [this]
  have hno : ∀ x ∈ l.drop i, pairLt x p = false := fun x hx => by
    obtain ⟨t, ht, rfl⟩ := List.getElem_of_mem hx
    rw [List.length_drop] at ht
    rw [List.getElem_drop]
    have := h2 (i + t) (by omega) (by omega)
    cases e : pairLt l[i + t] p with
    | false => rfl
    | true => have := (cmp_lt _ _).2 e; omega
  have hd : (l.drop i).filter (fun x => pairLt x p) = [] := List.filter_eq_nil_iff.2 fun x hx => by simp [hno x hx]
  have hdn : (l.drop i).filter (fun x => !(pairLt x p)) = l.drop i := List.filter_eq_self.2 fun x hx => by simp [hno x hx]
  have e1 : l.filter (fun x => pairLt x p) = l.take i := by
    have := List.filter_append (p := fun x => pairLt x p) (l.take i) (l.drop i)
    rw [List.take_append_drop, ht, hd, List.append_nil] at this; exact this
  have e2 : l.filter (fun x => !(pairLt x p)) = l.drop i := by
    have := List.filter_append (p := fun x => !(pairLt x p)) (l.take i) (l.drop i)
    rw [List.take_append_drop, htn, hdn, List.nil_append] at this; exact this
  unfold ins
  rw [e1, e2]
theorem ins_mem {p x : Int × Int} {l : List (Int × Int)} : x ∈ ins p l ↔ x = p ∨ x ∈ l := by
  unfold ins
  rw [List.mem_append, List.mem_cons, List.mem_filter, List.mem_filter]
  cases pairLt x p <;> simp [or_comm]
theorem ins_len (p : Int × Int) (l : List (Int × Int)) : (ins p l).length = l.length + 1 := by
  unfold ins
  rw [List.length_append, List.length_cons]
  have : (l.filter (fun x => pairLt x p)).length + (l.filter (fun x => !(pairLt x p))).length = l.length := by
    induction l with
    | nil => rfl
    | cons a l ih =>
      rw [List.filter_cons, List.filter_cons]
      cases pairLt a p <;> simp <;> omega
  omega
theorem ins_pw {p : Int × Int} {l : List (Int × Int)} (h : l.Pairwise (fun x y => pairLt x y = true)) (hp : p ∉ l) : (ins p l).Pairwise (fun x y => pairLt x y = true) := by
  have hgt : ∀ x ∈ l, pairLt x p = false → pairLt p x = true := fun x hx hf => by
    have hne : x ≠ p := fun e => hp (e ▸ hx)
    obtain ⟨a, b⟩ := x
    obtain ⟨c, d⟩ := p
    have h1 : ¬ (a < c ∨ (a = c ∧ b < d)) := fun h => by rw [(lt_iff _ _).2 h] at hf; cases hf
    rw [lt_iff]
    have h2 : ¬ (a = c ∧ b = d) := fun h => hne (by rw [h.1, h.2])
    show c < a ∨ (c = a ∧ d < b)
    omega
  unfold ins
  refine List.pairwise_append.2 ⟨h.filter _, List.pairwise_cons.2 ⟨fun x hx => ?_, h.filter _⟩, fun x hx y hy => ?_⟩
  · obtain ⟨h1, h2⟩ := List.mem_filter.1 hx
    exact hgt x h1 (by simpa using h2)
  · have h1 := (List.mem_filter.1 hx).2
    rcases List.mem_cons.1 hy with rfl | hy
    · exact h1
    · obtain ⟨h2, h3⟩ := List.mem_filter.1 hy
      exact lt_trans h1 (hgt y h2 (by simpa using h3))
/-- Lists in order with the same members are the same. -/
theorem pw_ext : ∀ {l m : List (Int × Int)}, l.Pairwise (fun x y => pairLt x y = true) → m.Pairwise (fun x y => pairLt x y = true) → (∀ x, x ∈ l ↔ x ∈ m) → l = m := by
  have irr : ∀ x : Int × Int, pairLt x x ≠ true := fun x h => by rw [lt_iff] at h; omega
  intro l
  induction l with
  | nil =>
    intro m _ _ h
    cases m with
    | nil => rfl
    | cons a m => exact absurd ((h a).2 (by simp)) (by simp)
  | cons a l ih =>
    intro m hl hm h
    cases m with
    | nil => exact absurd ((h a).1 (by simp)) (by simp)
    | cons b m =>
      obtain ⟨l1, l2⟩ := List.pairwise_cons.1 hl
      obtain ⟨m1, m2⟩ := List.pairwise_cons.1 hm
      have hab : a = b := by
        rcases List.mem_cons.1 ((h a).1 (by simp)) with e | e
        · exact e
        · rcases List.mem_cons.1 ((h b).2 (by simp)) with e' | e'
          · exact e'.symm
          · exact absurd (lt_trans (m1 a e) (l1 b e')) (irr b)
      subst hab
      congr 1
      refine ih l2 m2 fun x => ⟨fun hx => ?_, fun hx => ?_⟩
      · rcases List.mem_cons.1 ((h x).1 (by simp [hx])) with e | e
        · exact absurd (e ▸ l1 x hx) (irr _)
        · exact e
      · rcases List.mem_cons.1 ((h x).2 (by simp [hx])) with e | e
        · exact absurd (e ▸ m1 x hx) (irr _)
        · exact e
/-- Cutting or mending, as plain data. -/
def Nt.cut (n : Nt) (p : Int × Int) (on : Bool) : Nt := ⟨n.q, if on then ins p (oth p n.ap) else oth p n.ap⟩
theorem not_oth (p : Int × Int) (l : List (Int × Int)) : p ∉ oth p l := fun h => (oth_mem.1 h).2 rfl
theorem cut_pw {n : Nt} (h : okA n.ap = true) (p : Int × Int) (on : Bool) : (n.cut p on).ap.Pairwise (fun x y => pairLt x y = true) := by
  obtain ⟨h1, _⟩ := okA_pw h
  cases on
  · exact oth_pw h1
  · exact ins_pw (oth_pw h1) (not_oth _ _)
theorem cut_mem {n : Nt} {p x : Int × Int} {on : Bool} : x ∈ (n.cut p on).ap ↔ (x = p ∧ on = true) ∨ (x ∈ n.ap ∧ x ≠ p) := by
  cases on
  · show x ∈ oth p n.ap ↔ _
    rw [oth_mem]; simp
  · show x ∈ ins p (oth p n.ap) ↔ _
    rw [ins_mem, oth_mem]; simp
theorem cut_okA {n : Nt} (h : okA n.ap = true) {p : Int × Int} (hp : okOne p = true) (on : Bool) : okA (n.cut p on).ap = true := by
  refine okA_mk (cut_pw h p on) fun x hx => ?_
  rcases cut_mem.1 hx with ⟨rfl, _⟩ | ⟨h1, _⟩
  · exact hp
  · exact (okA_pw h).2 x h1
theorem cut_ok {n : Nt} (h : n.ok = true) {p : Int × Int} (hp : okOne p = true) (on : Bool) : (n.cut p on).ok = true := by
  unfold Nt.ok at h ⊢
  rw [Bool.and_eq_true] at h
  rw [Bool.and_eq_true]
  exact ⟨h.1, cut_okA h.2 hp on⟩
theorem mono_pw {l : List (Int × Int)} (h : l.Pairwise (fun x y => pairLt x y = true)) (p : Int × Int) : ∀ a b (ha : a < l.length) (hb : b < l.length), a ≤ b → cmp2 l[b] p < 0 → cmp2 l[a] p < 0 := fun a b ha hb hab hc => by
  by_cases e : a = b
  · subst e; exact hc
  · exact (cmp_lt _ _).2 (lt_trans (List.pairwise_iff_getElem.1 h a b ha hb (by omega)) ((cmp_lt _ _).1 hc))
theorem okOne_link {a b : Int} (h : okPair a b = true) : okOne (lo2 a b, hi2 a b) = true := by
  rw [okPair_iff] at h
  rw [okOne_iff]
  unfold lo2 hi2
  dsimp only
  split <;> omega
end Go.Proofs.Ytjancbjjeemedaa
