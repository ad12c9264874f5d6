/- A disk in a block of its own: it is kept, and another one may be stored over it. -/
import Derived.Test.YtmklchjgiaomkaaFew
import Derived.Test.YtmklchjgiaomkaaSam
import Derived.Test.YtmklchjgiaomkaaSyn
import Derived.Test.YtmklchjgiaomkaaWr
import Derived.Deep.Cut
namespace Go.Proofs.Ytmklchjgiaomkaa
open Go.RowKit

theorem DkAt.parts {w : World} {B : Nat} {v : Value} {d : Dk} (h : DkAt w B v d) {k p : Nat} {left : Int} {st : Bool} (hk : d.sec.length = k) (hp : d.pen.length = p) (hl : d.left = left) (hs : d.stop = st) :
    ∃ (sa : Option Addr) (cs : Nat) (ap : Option Addr) (cp : Nat), v = .agg #[.slice sa k cs, .slice ap p cp, .int .i64 left, .bool st] ∧ In64 left ∧ k ≤ cs ∧ cs ≤ maxLen ∧ p ≤ cp ∧ cp ≤ maxLen ∧ SecAt w B (.slice sa k cs) d.sec ∧ PenAt w B (.slice ap p cp) d.pen := by
  subst hk; subst hp; subst hl; subst hs
  exact h.open
/-- Four cells that are laid into a block of their own. -/
theorem boxed (w : World) (c0 c1 c2 c3 : Value) : ∃ W, W = w.alloc (.cells #[c0, c1, c2, c3] 25) ∧ Arr W w.heap.size [c0, c1, c2, c3] ∧ Below w.heap.size w W ∧ w.heap.size < W.heap.size ∧ ∀ i, 4 ≤ i → W.cell? ⟨w.heap.size, i, none⟩ = none := by
  refine ⟨_, rfl, Arr.new _ _ _, by go_grown, by simp, fun i hi => ?_⟩
  rw [World.cell?_alloc_new]
  simp; omega

/-- Block b holds a disk, and no cell beyond it. -/
structure Boxed (w : World) (b : Nat) (sa : Option Addr) (k cs : Nat) (ap : Option Addr) (p cp : Nat) (left : Int) (st : Bool) (d : Dk) : Prop where
  lt : b < w.heap.size
  arr : Arr w b [.slice sa k cs, .slice ap p cp, .int .i64 left, .bool st]
  dk : DkAt w w.heap.size (.agg #[.slice sa k cs, .slice ap p cp, .int .i64 left, .bool st]) d
  top : ∀ i, 4 ≤ i → w.cell? ⟨b, i, none⟩ = none
section
variable {w w' W : World} {b : Nat} {sa : Option Addr} {k cs : Nat} {ap : Option Addr} {p cp : Nat} {left : Int} {st : Bool} {d : Dk}
theorem Boxed.next (h : Boxed w b sa k cs ap p cp left st d) (hb : Below w.heap.size w w') : Boxed w' b sa k cs ap p cp left st d :=
  ⟨Nat.lt_of_lt_of_le h.lt hb.size, h.arr.below hb h.lt, h.dk.next hb, fun i hi => (hb.cell (p := ⟨b, i, none⟩) h.lt).trans (h.top i hi)⟩
theorem Boxed.four (h : Boxed w b sa k cs ap p cp left st d) : Cells4 w b (.slice sa k cs) (.slice ap p cp) (.int .i64 left) (.bool st) := h.arr.four
theorem DkAt.box {u : Value} (h : DkAt w w.heap.size u d) (hk : d.sec.length = k) (hp : d.pen.length = p) (hl : d.left = left) (hs : d.stop = st) :
    ∃ (sa : Option Addr) (cs : Nat) (ap : Option Addr) (cp : Nat) (W : World), u = .agg #[.slice sa k cs, .slice ap p cp, .int .i64 left, .bool st] ∧ W = w.alloc (.cells #[.slice sa k cs, .slice ap p cp, .int .i64 left, .bool st] 25) ∧
      Boxed W w.heap.size sa k cs ap p cp left st d ∧ Below w.heap.size w W ∧ k ≤ cs ∧ cs ≤ maxLen ∧ p ≤ cp ∧ cp ≤ maxLen ∧ W.heap.size = w.heap.size + 1 := by
  obtain ⟨sa, cs, ap, cp, rfl, _, h1, h2, h3, h4, _⟩ := h.parts hk hp hl hs
  obtain ⟨W, hw, hA, hB, hz, ht⟩ := boxed w (.slice sa k cs) (.slice ap p cp) (.int .i64 left) (.bool st)
  exact ⟨sa, cs, ap, cp, W, rfl, hw, ⟨hz, hA, h.next hB, ht⟩, hB, h1, h2, h3, h4, by rw [hw]; simp⟩

/-- What the cells of a block with a disk are. -/
theorem Boxed.cases (h : Boxed w b sa k cs ap p cp left st d) {i : Nat} {v : Value} (hv : w.cell? ⟨b, i, none⟩ = some v) : (i = 0 ∧ v = .slice sa k cs) ∨ (i = 1 ∧ v = .slice ap p cp) ∨ (i = 2 ∧ v = .int .i64 left) ∨ (i = 3 ∧ v = .bool st) := by
  obtain ⟨e0, e1, e2, e3⟩ := h.four
  by_cases hi : 4 ≤ i
  · rw [h.top i hi] at hv; cases hv
  · have : i = 0 ∨ i = 1 ∨ i = 2 ∨ i = 3 := by omega
    rcases this with rfl | rfl | rfl | rfl
    · exact .inl ⟨rfl, (Option.some.inj (e0.symm.trans hv)).symm⟩
    · exact .inr (.inl ⟨rfl, (Option.some.inj (e1.symm.trans hv)).symm⟩)
    · exact .inr (.inr (.inl ⟨rfl, (Option.some.inj (e2.symm.trans hv)).symm⟩))
    · exact .inr (.inr (.inr ⟨rfl, (Option.some.inj (e3.symm.trans hv)).symm⟩))
theorem Boxed.no_bytes (h : Boxed w b sa k cs ap p cp left st d) {off : Nat} {bs : By} (hb : BytesIn w b off bs) (h0 : 0 < bs.length) : False := by
  rcases h.cases (hb 0 h0) with ⟨_, e⟩ | ⟨_, e⟩ | ⟨_, e⟩ | ⟨_, e⟩ <;> cases e
theorem Boxed.no_pen (h : Boxed w b sa k cs ap p cp left st d) {B off : Nat} {l : List (Int × By)} (hb : PenIn w B b off l) (h0 : 0 < l.length) : False := by
  obtain ⟨_, e1, u, e2, a, c, e3, _⟩ := hb 0 h0
  subst e3
  rw [Nat.zero_mul, Nat.add_zero] at e1 e2
  have ho : off = 2 := by
    rcases h.cases e1 with ⟨_, e⟩ | ⟨_, e⟩ | ⟨e, _⟩ | ⟨_, e⟩
    · cases e
    · cases e
    · exact e
    · cases e
  subst ho
  rcases h.cases e2 with ⟨e', _⟩ | ⟨e', _⟩ | ⟨e', _⟩ | ⟨_, e'⟩
  · omega
  · omega
  · omega
  · cases e'
theorem Boxed.no_sec (h : Boxed w b sa k cs ap p cp left st d) {B off : Nat} {l : List By} (hb : SecIn w B b off l) (h0 : 0 < l.length) (hne : 0 < l[0].length) : False := by
  obtain ⟨u, e1, a, c, e2, _, _, e3⟩ := hb 0 h0
  have hin : ∃ db o, a = some ⟨db, o, none⟩ ∧ BytesIn w db o l[0] := by
    rcases e3 with e3 | ⟨db, o, h1, _, h2⟩
    · rw [e3] at hne; simp at hne
    · exact ⟨db, o, h1, h2⟩
  obtain ⟨db, o, rfl, hby⟩ := hin
  have hc := hby 0 hne
  subst e2
  obtain ⟨_, vs, vp, e, hS, hP⟩ := h.dk
  have he : vs = .slice sa k cs ∧ vp = .slice ap p cp := by
    injection e with e; simp at e; exact ⟨e.1.symm, e.2.1.symm⟩
  obtain ⟨rfl, rfl⟩ := he
  rcases h.cases e1 with ⟨_, e⟩ | ⟨_, e⟩ | ⟨_, e⟩ | ⟨_, e⟩
  · injection e with q1 q2 q3
    subst q1
    obtain ⟨a', c', e', _, _, h4⟩ := hS
    injection e' with q4 q5 q6
    rcases h4 with h4 | ⟨db', o', h5, _, h6⟩
    · rw [h4] at q5; simp at q5; omega
    · rw [← q4] at h5; cases h5
      obtain ⟨u', h7, h8⟩ := h6 0 (by omega)
      obtain ⟨_, _, rfl, _⟩ := bytes_shape h8
      rw [hc] at h7; cases h7
  · injection e with q1 q2 q3
    subst q1
    obtain ⟨a', c', e', _, _, h4⟩ := hP
    injection e' with q4 q5 q6
    rcases h4 with h4 | ⟨db', o', h5, _, h6⟩
    · rw [h4] at q5; simp at q5; omega
    · rw [← q4] at h5; cases h5
      obtain ⟨_, h7, _⟩ := h6 0 (by omega)
      rw [Nat.zero_mul] at h7
      rw [hc] at h7; cases h7
  · cases e
  · cases e

/-- No sector and no write is empty. -/
def Dk.full (d : Dk) : Prop := (∀ s ∈ d.sec, 0 < s.length) ∧ ∀ x ∈ d.pen, 0 < x.2.length
theorem bytes_kept (h : Boxed w b sa k cs ap p cp left st d) (hG : w.grownBy W (some b)) {v : Value} {bs : By} (hb : BytesAt w w.heap.size v bs) : BytesAt W W.heap.size v bs := by
  obtain ⟨a, c, h1, h2, h3, h4⟩ := hb
  refine ⟨a, c, h1, h2, h3, ?_⟩
  rcases h4 with h4 | ⟨db, o, h5, h6, h7⟩
  · exact .inl h4
  · by_cases h0 : 0 < bs.length
    · have hne : db ≠ b := fun e => by subst e; exact h.no_bytes h7 h0
      exact .inr ⟨db, o, h5, Nat.lt_of_lt_of_le h6 hG.size, fun i hi => (World.cell?_of_block (a := ⟨db, o + i, none⟩) (hG.block db h6 (by simpa using hne))).trans (h7 i hi)⟩
    · exact .inl (List.length_eq_zero_iff.1 (by omega))
theorem Boxed.store (h : Boxed w b sa k cs ap p cp left st d) (hG : w.grownBy W (some b)) {sa' : Option Addr} {k' cs' : Nat} {ap' : Option Addr} {p' cp' : Nat} {left' : Int} {st' : Bool} {D : Dk}
    (hA : Arr W b [.slice sa' k' cs', .slice ap' p' cp', .int .i64 left', .bool st']) (ht : ∀ i, 4 ≤ i → W.cell? ⟨b, i, none⟩ = none) (hD : DkAt w w.heap.size (.agg #[.slice sa' k' cs', .slice ap' p' cp', .int .i64 left', .bool st']) D) (hF : D.full) :
    Boxed W b sa' k' cs' ap' p' cp' left' st' D := by
  refine ⟨Nat.lt_of_lt_of_le h.lt hG.size, hA, ?_, ht⟩
  obtain ⟨h64, vs, vp, e, hS, hP⟩ := hD
  have he : vs = .slice sa' k' cs' ∧ vp = .slice ap' p' cp' := by
    injection e with e; simp at e; exact ⟨e.1.symm, e.2.1.symm⟩
  obtain ⟨rfl, rfl⟩ := he
  refine ⟨h64, _, _, e, ?_, ?_⟩
  · obtain ⟨a, c, h1, h2, h3, h4⟩ := hS
    refine ⟨a, c, h1, h2, h3, ?_⟩
    rcases h4 with h4 | ⟨db, o, h5, h6, h7⟩
    · exact .inl h4
    · by_cases h0 : 0 < D.sec.length
      · have hne : db ≠ b := fun e => by subst e; exact h.no_sec h7 h0 (hF.1 _ (List.getElem_mem h0))
        refine .inr ⟨db, o, h5, Nat.lt_of_lt_of_le h6 hG.size, fun i hi => ?_⟩
        obtain ⟨u, g1, g2⟩ := h7 i hi
        exact ⟨u, (World.cell?_of_block (a := ⟨db, o + i, none⟩) (hG.block db h6 (by simpa using hne))).trans g1, bytes_kept h hG g2⟩
      · exact .inl (List.length_eq_zero_iff.1 (by omega))
  · obtain ⟨a, c, h1, h2, h3, h4⟩ := hP
    refine ⟨a, c, h1, h2, h3, ?_⟩
    rcases h4 with h4 | ⟨db, o, h5, h6, h7⟩
    · exact .inl h4
    · by_cases h0 : 0 < D.pen.length
      · have hne : db ≠ b := fun e => by subst e; exact h.no_pen h7 h0
        refine .inr ⟨db, o, h5, Nat.lt_of_lt_of_le h6 hG.size, fun i hi => ?_⟩
        obtain ⟨g0, g1, u, g2, g3⟩ := h7 i hi
        exact ⟨g0, (World.cell?_of_block (a := ⟨db, o + i * 2, none⟩) (hG.block db h6 (by simpa using hne))).trans g1, u, (World.cell?_of_block (a := ⟨db, o + i * 2 + 1, none⟩) (hG.block db h6 (by simpa using hne))).trans g2, bytes_kept h hG g3⟩
      · exact .inl (List.length_eq_zero_iff.1 (by omega))
theorem four_top (h : Boxed w b sa k cs ap p cp left st d) (x y z u : Value) : ∀ i, 4 ≤ i → (Go.Proofs.Ytmklchjgiaomkaa.four w b x y z u).cell? ⟨b, i, none⟩ = none := fun i hi => by
  unfold Go.Proofs.Ytmklchjgiaomkaa.four
  repeat rw [World.cell?_setCell_other _ _ _ _ (fun h => by injection h; omega)]
  exact h.top i hi
/-- Another disk is stored over a disk. -/
theorem Boxed.over (h : Boxed w b sa k cs ap p cp left st d) {sa' : Option Addr} {k' cs' : Nat} {ap' : Option Addr} {p' cp' : Nat} {left' : Int} {st' : Bool} {D : Dk}
    (hD : DkAt w w.heap.size (.agg #[.slice sa' k' cs', .slice ap' p' cp', .int .i64 left', .bool st']) D) (hF : D.full) :
    Boxed (Go.Proofs.Ytmklchjgiaomkaa.four w b (.slice sa' k' cs') (.slice ap' p' cp') (.int .i64 left') (.bool st')) b sa' k' cs' ap' p' cp' left' st' D :=
  h.store (four_grown _ _ _ _ _ _) (four_arr h.arr) (four_top h _ _ _ _) hD hF
/-- The same, where the walk stores. -/
theorem store_box {ops : Array Oper} {rest : List Oper} {op : Oper} {a : Act} {Q : Exit → Act → World → Prop} (hgd : op.guard = none) (x y : Operand) (ho : op.op = .store 25 x y) (h : Boxed w b sa k cs ap p cp left st d)
    {sa' : Option Addr} {k' cs' : Nat} {ap' : Option Addr} {p' cp' : Nat} {left' : Int} {st' : Bool} {D : Dk}
    (hx : a.eval x = .pointer (some ⟨b, 0, none⟩)) (hy : a.eval y = .agg #[.slice sa' k' cs', .slice ap' p' cp', .int .i64 left', .bool st'])
    (hD : DkAt w w.heap.size (.agg #[.slice sa' k' cs', .slice ap' p' cp', .int .i64 left', .bool st']) D) (hF : D.full)
    (hk : ∀ W, w.grownBy W (some b) → Boxed W b sa' k' cs' ap' p' cp' left' st' D → wpList Try.prog ops Q rest (a.put op.dst undef) W) : wpList Try.prog ops Q (op :: rest) a w := by
  refine wpList_store_mid hgd 25 x y ho b 0 #[.slice sa' k' cs', .slice ap' p' cp', .int .i64 left', .bool st'] hx hy h.arr.there Try.size25 (by simp [Value.oneCell']) ?_
  have hG := grown_setCells (b := b) [Value.slice sa' k' cs', .slice ap' p' cp', .int .i64 left', .bool st'] 0 w
  refine hk _ hG (h.store hG (h.arr.stored (by simp)) (fun i hi => ?_) hD hF)
  rw [World.cell?_setCells_out _ _ _ _ _ (fun j hj => .inr (by simp at hj ⊢; omega))]
  exact h.top i hi
end
end Go.Proofs.Ytmklchjgiaomkaa
