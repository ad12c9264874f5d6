/- Fonts as plain data, and what it means that a value of the program reads as one in a world. -/
import Derived.Test.YtljgcpfibamdpaaDoorRow
namespace Go.Proofs.YtljgcpfibamdpaaDoor
open Go.RowKit

def In64 (k : Int) : Prop := -9223372036854775808 ≤ k ∧ k ≤ 9223372036854775807
/-- Three numbers: a range with its width, or a pair and by how much it stands nearer. -/
structure Tri where
  a : Int
  b : Int
  c : Int
instance : Inhabited Tri := ⟨⟨0, 0, 0⟩⟩
def tri0 : Tri := ⟨0, 0, 0⟩
def Tri.in64 (t : Tri) : Prop := In64 t.a ∧ In64 t.b ∧ In64 t.c
def TIn (w : World) (b off : Nat) (l : List Tri) : Prop := ∀ i (h : i < l.length), l[i].in64 ∧ w.cell? ⟨b, off + i * 3, none⟩ = some (.int .i64 l[i].a) ∧ w.cell? ⟨b, off + i * 3 + 1, none⟩ = some (.int .i64 l[i].b) ∧ w.cell? ⟨b, off + i * 3 + 2, none⟩ = some (.int .i64 l[i].c)
def TAt (w : World) (B : Nat) (v : Value) (l : List Tri) : Prop :=
  ∃ a cap, v = .slice a l.length cap ∧ l.length ≤ cap ∧ cap ≤ maxLen ∧ (l = [] ∨ ∃ b off, a = some ⟨b, off, none⟩ ∧ b < B ∧ TIn w b off l)
theorem TIn.below {w w' : World} {B b off : Nat} {l : List Tri} (h : TIn w b off l) (hb : Below B w w') (hlt : b < B) : TIn w' b off l := fun i hi => by
  obtain ⟨h0, h1, h2, h3⟩ := h i hi
  exact ⟨h0, (hb.cell (p := ⟨b, off + i * 3, none⟩) hlt).trans h1, (hb.cell (p := ⟨b, off + i * 3 + 1, none⟩) hlt).trans h2, (hb.cell (p := ⟨b, off + i * 3 + 2, none⟩) hlt).trans h3⟩
theorem TAt.below {w w' : World} {B : Nat} {v : Value} {l : List Tri} (h : TAt w B v l) (hb : Below B w w') : TAt w' B v l := by
  obtain ⟨a, cap, h1, h2, h3, h4⟩ := h
  refine ⟨a, cap, h1, h2, h3, ?_⟩
  rcases h4 with h4 | ⟨db, off, h4, h5, h6⟩
  · exact .inl h4
  · exact .inr ⟨db, off, h4, h5, h6.below hb h5⟩
theorem TAt.mono {w : World} {B B' : Nat} {v : Value} {l : List Tri} (h : TAt w B v l) (hb : B ≤ B') : TAt w B' v l := by
  obtain ⟨a, cap, h1, h2, h3, h4⟩ := h
  refine ⟨a, cap, h1, h2, h3, ?_⟩
  rcases h4 with h4 | ⟨db, off, h4, h5, h6⟩
  · exact .inl h4
  · exact .inr ⟨db, off, h4, by omega, h6⟩
theorem TAt.next {w w' : World} {v : Value} {l : List Tri} (h : TAt w w.heap.size v l) (hb : Below w.heap.size w w') : TAt w' w'.heap.size v l := (h.below hb).mono hb.size
theorem TAt.from {w w' : World} {B : Nat} {v : Value} {l : List Tri} (h : TAt w B v l) (hb : Below B w w') (hB : B ≤ w'.heap.size) : TAt w' w'.heap.size v l := (h.below hb).mono hB
theorem t_nil (w : World) (B : Nat) (a : Option Addr) : TAt w B (.slice a 0 0) [] := ⟨a, 0, rfl, by simp, by unfold maxLen; omega, .inl rfl⟩
theorem TAt.shape {w : World} {B : Nat} {v : Value} {l : List Tri} (h : TAt w B v l) : ∃ a c, v = .slice a l.length c ∧ l.length ≤ c ∧ c ≤ maxLen := by
  obtain ⟨a, c, h1, h2, h3, _⟩ := h; exact ⟨a, c, h1, h2, h3⟩
/-- What stands at a place. -/
theorem TAt.got {w : World} {B : Nat} {a : Option Addr} {n cap : Nat} {l : List Tri} (h : TAt w B (.slice a n cap) l) (i : Nat) (hi : i < l.length) : ∃ b off, a = some ⟨b, off, none⟩ ∧ b < B ∧ (l.getD i tri0).in64 ∧
    w.cell? ⟨b, off + i * 3, none⟩ = some (.int .i64 (l.getD i tri0).a) ∧ w.cell? ⟨b, off + i * 3 + 1, none⟩ = some (.int .i64 (l.getD i tri0).b) ∧ w.cell? ⟨b, off + i * 3 + 2, none⟩ = some (.int .i64 (l.getD i tri0).c) := by
  obtain ⟨a', cap', e, _, _, h4⟩ := h
  cases e
  rcases h4 with h4 | ⟨b, off, h4, h5, h6⟩
  · subst h4; simp at hi
  · have e : l.getD i tri0 = l[i] := by simp [List.getD, List.getElem?_eq_getElem hi]
    rw [e]
    exact ⟨b, off, h4, h5, h6 i hi⟩

/-- A font. -/
structure Fo where
  gs : List Tri
  o : Int
  ks : List Tri
def FAt (w : World) (B : Nat) (v : Value) (f : Fo) : Prop := ∃ vg vk, v = .agg #[vg, .int .i64 f.o, vk] ∧ In64 f.o ∧ TAt w B vg f.gs ∧ TAt w B vk f.ks
theorem FAt.below {w w' : World} {B : Nat} {v : Value} {f : Fo} (h : FAt w B v f) (hb : Below B w w') : FAt w' B v f := by
  obtain ⟨a, b, h1, h0, h2, h3⟩ := h; exact ⟨a, b, h1, h0, h2.below hb, h3.below hb⟩
theorem FAt.mono {w : World} {B B' : Nat} {v : Value} {f : Fo} (h : FAt w B v f) (hb : B ≤ B') : FAt w B' v f := by
  obtain ⟨a, b, h1, h0, h2, h3⟩ := h; exact ⟨a, b, h1, h0, h2.mono hb, h3.mono hb⟩
theorem FAt.next {w w' : World} {v : Value} {f : Fo} (h : FAt w w.heap.size v f) (hb : Below w.heap.size w w') : FAt w' w'.heap.size v f := (h.below hb).mono hb.size
theorem FAt.from {w w' : World} {B : Nat} {v : Value} {f : Fo} (h : FAt w B v f) (hb : Below B w w') (hB : B ≤ w'.heap.size) : FAt w' w'.heap.size v f := (h.below hb).mono hB
theorem FAt.open {w : World} {B : Nat} {v : Value} {f : Fo} (h : FAt w B v f) : ∃ (ga : Option Addr) (gc : Nat) (ka : Option Addr) (kc : Nat), v = .agg #[.slice ga f.gs.length gc, .int .i64 f.o, .slice ka f.ks.length kc] ∧
    f.gs.length ≤ gc ∧ gc ≤ maxLen ∧ f.ks.length ≤ kc ∧ kc ≤ maxLen ∧ In64 f.o ∧ TAt w B (.slice ga f.gs.length gc) f.gs ∧ TAt w B (.slice ka f.ks.length kc) f.ks := by
  obtain ⟨vq, va, rfl, h0, h2, h3⟩ := h
  obtain ⟨a, cap, e1, l1, l2, _⟩ := id h2
  obtain ⟨a', cap', e1', l1', l2', _⟩ := id h3
  subst e1; subst e1'
  exact ⟨a, cap, a', cap', rfl, l1, l2, l1', l2', h0, h2, h3⟩

/-! ### What is right -/
def inW (n a b : Int) : Bool := decide (a ≤ n) && decide (n ≤ b)
def isW (n : Int) : Bool := inW n 0 4096
/-- The end of the range before. -/
def endB (l : List Tri) (i : Nat) : Int := if i = 0 then -1 else (l.getD (i - 1) tri0).b
def okG (l : List Tri) (i : Nat) : Bool := decide (endB l i < (l.getD i tri0).a) && decide ((l.getD i tri0).a ≤ (l.getD i tri0).b) && decide ((l.getD i tri0).b ≤ 1114111) && isW (l.getD i tri0).c
def okGs (l : List Tri) : Bool := (List.range l.length).all (okG l)
def okK1 (t : Tri) : Bool := inW t.a 0 1114111 && inW t.b 0 1114111 && inW t.c (-4096) 4096
def ltK (s t : Tri) : Bool := decide (s.a < t.a) || (decide (s.a = t.a) && decide (s.b < t.b))
def okK (l : List Tri) (i : Nat) : Bool := okK1 (l.getD i tri0) && (decide (i = 0) || ltK (l.getD (i - 1) tri0) (l.getD i tri0))
def okKs (l : List Tri) : Bool := (List.range l.length).all (okK l)
def Fo.right (f : Fo) : Bool := okGs f.gs && isW f.o && okKs f.ks
def Fo.err (f : Fo) : Int := if 1024 < f.gs.length ∨ 1024 < f.ks.length then 2 else if f.right then 0 else 110
theorem all_upto {p : Nat → Bool} {n : Nat} : (List.range n).all p = true ↔ ∀ i, i < n → p i = true := by
  simp [List.all_eq_true]
theorem all_no {p : Nat → Bool} {n i : Nat} (hi : i < n) (h : p i = false) : (List.range n).all p = false := by
  cases he : (List.range n).all p
  · rfl
  · have := all_upto.1 he i hi
    rw [h] at this; cases this
theorem isW_iff {n : Int} : isW n = true ↔ 0 ≤ n ∧ n ≤ 4096 := by simp [isW, inW]
theorem okG_iff {l : List Tri} {i : Nat} : okG l i = true ↔ endB l i < (l.getD i tri0).a ∧ (l.getD i tri0).a ≤ (l.getD i tri0).b ∧ (l.getD i tri0).b ≤ 1114111 ∧ isW (l.getD i tri0).c = true := by
  simp [okG, and_assoc]
theorem okK_iff {l : List Tri} {i : Nat} : okK l i = true ↔ okK1 (l.getD i tri0) = true ∧ (i = 0 ∨ ltK (l.getD (i - 1) tri0) (l.getD i tri0) = true) := by
  simp [okK]
theorem ltK_iff {s t : Tri} : ltK s t = true ↔ s.a < t.a ∨ (s.a = t.a ∧ s.b < t.b) := by simp [ltK]
theorem okK1_iff {t : Tri} : okK1 t = true ↔ (0 ≤ t.a ∧ t.a ≤ 1114111) ∧ (0 ≤ t.b ∧ t.b ≤ 1114111) ∧ (-4096 ≤ t.c ∧ t.c ≤ 4096) := by simp [okK1, inW, and_assoc]

/-! ### Widths -/
def inG (r : Int) (g : Tri) : Bool := decide (g.a ≤ r) && decide (r ≤ g.b)
theorem inG_iff {r : Int} {g : Tri} : inG r g = true ↔ g.a ≤ r ∧ r ≤ g.b := by simp [inG]
theorem inG_no {r : Int} {g : Tri} (h : r < g.a ∨ g.b < r) : inG r g = false := by
  cases he : inG r g
  · rfl
  · have := inG_iff.1 he
    omega
def atK (x y : Int) (k : Tri) : Bool := decide (k.a = x) && decide (k.b = y)
theorem atK_iff {x y : Int} {k : Tri} : atK x y k = true ↔ k.a = x ∧ k.b = y := by simp [atK]
theorem atK_no {x y : Int} {k : Tri} (h : ¬ (k.a = x ∧ k.b = y)) : atK x y k = false := by
  cases he : atK x y k
  · rfl
  · exact absurd (atK_iff.1 he) h
/-- The width of a code point. -/
def oneW (f : Fo) (r : Int) : Int := match f.gs.find? (inG r) with | some g => g.c | none => f.o
/-- By how much a code point stands nearer to the one before. -/
def nearW (f : Fo) (x y : Int) : Int := match f.ks.find? (atK x y) with | some k => k.c | none => 0
/-- The width of the first n code points. -/
def wdt (f : Fo) (l : List Int) : Nat → Int
  | 0 => 0
  | n + 1 => wdt f l n + oneW f (l.getD n 0) - (if 0 < n then nearW f (l.getD (n - 1) 0) (l.getD n 0) else 0)
theorem endB_pos {l : List Tri} (h : okGs l = true) : ∀ i, i < l.length → 0 ≤ (l.getD i tri0).a ∧ endB l (i + 1) = (l.getD i tri0).b := by
  intro i
  induction i with
  | zero =>
    intro hi
    obtain ⟨h1, h2, _⟩ := okG_iff.1 (all_upto.1 h 0 hi)
    have : endB l 0 = -1 := rfl
    exact ⟨by omega, rfl⟩
  | succ i ih =>
    intro hi
    obtain ⟨h1, h2, _⟩ := okG_iff.1 (all_upto.1 h (i + 1) hi)
    obtain ⟨h3, h4⟩ := ih (by omega)
    obtain ⟨k1, k2, _⟩ := okG_iff.1 (all_upto.1 h i (by omega))
    exact ⟨by omega, rfl⟩
/-- Ranges in increasing order. -/
theorem gs_incr {l : List Tri} (h : okGs l = true) : ∀ i j, i < j → j < l.length → (l.getD i tri0).b < (l.getD j tri0).a := by
  intro i j hij
  induction j with
  | zero => omega
  | succ j ih =>
    intro hj
    obtain ⟨h1, h2, _⟩ := okG_iff.1 (all_upto.1 h (j + 1) hj)
    have h4 := (endB_pos h j (by omega)).2
    by_cases e : i = j
    · subst e; omega
    · have := ih (by omega) (by omega)
      obtain ⟨k1, k2, _⟩ := okG_iff.1 (all_upto.1 h j (by omega))
      omega
theorem find_at {α : Type} {d : α} {p : α → Bool} : ∀ {l : List α} {k : Nat}, k < l.length → p (l.getD k d) = true → (∀ i, i < k → p (l.getD i d) = false) → l.find? p = some (l.getD k d)
  | x :: l, 0, _, h, _ => by simp at h; simp [h]
  | x :: l, k + 1, hk, h, hn => by
    have h0 := hn 0 (by omega)
    simp at h0
    rw [List.find?_cons, h0]
    simp only [List.getD_cons_succ]
    exact find_at (by simpa using hk) (by simpa using h) (fun i hi => by have := hn (i + 1) (by omega); simpa using this)
theorem find_no {α : Type} {d : α} {p : α → Bool} {l : List α} (h : ∀ i, i < l.length → p (l.getD i d) = false) : l.find? p = none := by
  rw [List.find?_eq_none]
  intro x hx
  obtain ⟨i, hi, rfl⟩ := List.getElem_of_mem hx
  have := h i hi
  simp only [List.getD, List.getElem?_eq_getElem hi, Option.getD_some] at this
  simp [this]
/-- The width of a code point, by the first range that ends at it or behind it. -/
theorem oneW_of {f : Fo} (h : okGs f.gs = true) {r : Int} {k : Nat} (hk : k ≤ f.gs.length) (h1 : 0 < k → (f.gs.getD (k - 1) tri0).b < r) (h2 : k < f.gs.length → r ≤ (f.gs.getD k tri0).b) :
    oneW f r = if k < f.gs.length ∧ (f.gs.getD k tri0).a ≤ r then (f.gs.getD k tri0).c else f.o := by
  have hlow : ∀ i, i < k → inG r (f.gs.getD i tri0) = false := by
    intro i hi
    have hb : (f.gs.getD i tri0).b < r := by
      by_cases e : i = k - 1
      · rw [e]; exact h1 (by omega)
      · have a1 := gs_incr h i (k - 1) (by omega) (by omega)
        have a2 := (okG_iff.1 (all_upto.1 h (k - 1) (by omega))).2.1
        have := h1 (by omega)
        omega
    exact inG_no (.inr hb)
  unfold oneW
  by_cases hc : k < f.gs.length ∧ (f.gs.getD k tri0).a ≤ r
  · rw [if_pos hc, find_at (d := tri0) (k := k) hc.1 (inG_iff.2 ⟨hc.2, h2 hc.1⟩) hlow]
  · rw [if_neg hc, find_no (d := tri0) (fun i hi => by
      by_cases e : i < k
      · exact hlow i e
      · by_cases e2 : i = k
        · rw [e2] at hi ⊢
          exact inG_no (.inl (by
            rcases Int.lt_or_le r (f.gs.getD k tri0).a with h3 | h3
            · exact h3
            · exact absurd ⟨hi, h3⟩ hc))
        · have hkl : k < f.gs.length := by omega
          have a1 := gs_incr h k i (by omega) hi
          have := h2 hkl
          exact inG_no (.inl (by omega)))]
theorem oneW_bound {f : Fo} (h : f.right = true) (r : Int) : 0 ≤ oneW f r ∧ oneW f r ≤ 4096 := by
  simp only [Fo.right, Bool.and_eq_true] at h
  obtain ⟨⟨h1, h2⟩, _⟩ := h
  unfold oneW
  split
  · rename_i g hg
    have hm := List.mem_of_find?_eq_some hg
    obtain ⟨i, hi, rfl⟩ := List.getElem_of_mem hm
    have := (okG_iff.1 (all_upto.1 h1 i hi)).2.2.2
    simp only [List.getD, List.getElem?_eq_getElem hi, Option.getD_some] at this
    exact isW_iff.1 this
  · exact isW_iff.1 h2
theorem nearW_bound {f : Fo} (h : f.right = true) (x y : Int) : -4096 ≤ nearW f x y ∧ nearW f x y ≤ 4096 := by
  simp only [Fo.right, Bool.and_eq_true] at h
  obtain ⟨_, h1⟩ := h
  unfold nearW
  split
  · rename_i g hg
    have hm := List.mem_of_find?_eq_some hg
    obtain ⟨i, hi, rfl⟩ := List.getElem_of_mem hm
    have := (okK_iff.1 (all_upto.1 h1 i hi)).1
    simp only [List.getD, List.getElem?_eq_getElem hi, Option.getD_some] at this
    exact (okK1_iff.1 this).2.2
  · omega
theorem wdt_bound {f : Fo} (h : f.right = true) (l : List Int) : ∀ n : Nat, -(8192 * (n : Int)) ≤ wdt f l n ∧ wdt f l n ≤ 8192 * n
  | 0 => by simp [wdt]
  | n + 1 => by
    have ih := wdt_bound h l n
    have a := oneW_bound h (l.getD n 0)
    have b := nearW_bound h (l.getD (n - 1) 0) (l.getD n 0)
    unfold wdt
    split <;> omega
theorem wdt_ext {f : Fo} {l m : List Int} : ∀ {n : Nat}, (∀ i, i < n → l.getD i 0 = m.getD i 0) → wdt f l n = wdt f m n
  | 0, _ => rfl
  | n + 1, h => by
    unfold wdt
    rw [wdt_ext (fun i hi => h i (by omega)), h n (by omega)]
    split
    · rw [h (n - 1) (by omega)]
    · rfl
theorem ks_incr {l : List Tri} (h : okKs l = true) : ∀ i j, i < j → j < l.length → ltK (l.getD i tri0) (l.getD j tri0) = true := by
  intro i j hij
  induction j with
  | zero => omega
  | succ j ih =>
    intro hj
    have hs : ltK (l.getD j tri0) (l.getD (j + 1) tri0) = true := by
      rcases (okK_iff.1 (all_upto.1 h (j + 1) hj)).2 with e | e
      · omega
      · exact e
    by_cases e : i = j
    · subst e; exact hs
    · have := ltK_iff.1 (ih (by omega) (by omega))
      have hs := ltK_iff.1 hs
      rw [ltK_iff]; omega
/-- What the first k pairs say, the last one first. -/
def lastN (l : List Tri) (x y : Int) : Nat → Int
  | 0 => 0
  | k + 1 => if (l.getD k tri0).a = x ∧ (l.getD k tri0).b = y then (l.getD k tri0).c else lastN l x y k
theorem lastN_no {l : List Tri} {x y : Int} : ∀ {k : Nat}, (∀ i, i < k → ¬ ((l.getD i tri0).a = x ∧ (l.getD i tri0).b = y)) → lastN l x y k = 0
  | 0, _ => rfl
  | k + 1, h => by
    unfold lastN
    rw [if_neg (h k (by omega)), lastN_no (fun i hi => h i (by omega))]
theorem lastN_at {l : List Tri} {x y : Int} {j : Nat} (hj : (l.getD j tri0).a = x ∧ (l.getD j tri0).b = y) : ∀ {k : Nat}, j < k → (∀ i, j < i → i < k → ¬ ((l.getD i tri0).a = x ∧ (l.getD i tri0).b = y)) → lastN l x y k = (l.getD j tri0).c
  | k + 1, hk, h => by
    unfold lastN
    by_cases e : j = k
    · subst e; rw [if_pos hj]
    · rw [if_neg (h k (by omega) (by omega)), lastN_at hj (by omega) (fun i h1 h2 => h i h1 (by omega))]
theorem lastN_near {f : Fo} (h : okKs f.ks = true) (x y : Int) : lastN f.ks x y f.ks.length = nearW f x y := by
  by_cases hex : ∃ j, j < f.ks.length ∧ (f.ks.getD j tri0).a = x ∧ (f.ks.getD j tri0).b = y
  · obtain ⟨j, hj, h1, h2⟩ := hex
    rw [lastN_at ⟨h1, h2⟩ hj (fun i hi hl => by
      have := ltK_iff.1 (ks_incr h j i hi hl)
      omega)]
    unfold nearW
    rw [find_at (d := tri0) (k := j) hj (atK_iff.2 ⟨h1, h2⟩) (fun i hi => by
      have := ltK_iff.1 (ks_incr h i j hi hj)
      exact atK_no (by omega))]
  · have hno : ∀ i, i < f.ks.length → ¬ ((f.ks.getD i tri0).a = x ∧ (f.ks.getD i tri0).b = y) := fun i hi e => hex ⟨i, hi, e⟩
    rw [lastN_no hno]
    unfold nearW
    rw [find_no (d := tri0) (fun i hi => atK_no (hno i hi))]
end Go.Proofs.YtljgcpfibamdpaaDoor
