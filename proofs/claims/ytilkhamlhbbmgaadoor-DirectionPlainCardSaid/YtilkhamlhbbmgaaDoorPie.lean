/- Appending a row that may be empty. -/
import Derived.Test.YtilkhamlhbbmgaaDoorSne
import Derived.Deep.Upon
import Derived.Deep.AppendLies
import Derived.Deep.AppendSrc
namespace Go.Proofs.YtilkhamlhbbmgaaDoor
open Go.RowKit

/-- What is appended: m elements whose cells are news. -/
def Piece (w : World) (v : Value) (m : Nat) (news : List Value) : Prop :=
  ∃ a c, v = .slice a m c ∧ ((m = 0 ∧ news = []) ∨ ∃ ad, a = some ad ∧ ∀ j u, news[j]? = some u → w.cell? (ad.add j) = some u)
theorem piece_run (t e : TypeId) (i : TypeInfo) (z : Value) (size bytes : Nat) (ht : Tryd.prog.underlying t = some (.slice e)) (hi : Tryd.prog.info? e = some i) (hz : i.zero = some z) (hsize : i.size = size) (hby : i.bytes = bytes) (hzs : z.cells.size = size) (hsz : 0 < size)
    {w : World} {base g n cap : Nat} {xs : List Value} (hown : w.ownsRow base e size (.slice (some ⟨g, 0, none⟩) n cap) n xs) {v : Value} {m : Nat} {news : List Value} (hv : Piece w v m news) (hl : news.length = m * size) (h1 : ∀ u ∈ news, u.oneCell' = true)
    (h63 : n + m ≤ maxLen) (hbytes : (n + m) * bytes ≤ 140737488355328) (hbase : base ≤ w.heap.size) (ty : TypeId) :
    ∃ g' cap' w', (Builtin.append_ #[t, t] ty #[.slice (some ⟨g, 0, none⟩) n cap, v]).run Tryd.prog w = .ok (.slice (some ⟨g', 0, none⟩) (n + m) cap') w' ∧ w'.ownsRow base e size (.slice (some ⟨g', 0, none⟩) (n + m) cap') (n + m) (xs ++ news) ∧ w.grownBy w' (some g) ∧ (g' = g ∨ g' = w.heap.size) := by
  obtain ⟨a, c, rfl, h⟩ := hv
  have none_ : news = [] → m = 0 → ∀ a c, ∃ g' cap' w', (Builtin.append_ #[t, t] ty #[.slice (some ⟨g, 0, none⟩) n cap, .slice a m c]).run Tryd.prog w = .ok (.slice (some ⟨g', 0, none⟩) (n + m) cap') w' ∧ w'.ownsRow base e size (.slice (some ⟨g', 0, none⟩) (n + m) cap') (n + m) (xs ++ news) ∧ w.grownBy w' (some g) ∧ (g' = g ∨ g' = w.heap.size) := by
    rintro rfl rfl a c
    have hle : n ≤ cap := by
      rcases hown.2 with ⟨h0, _⟩ | ⟨g1, cap1, cur, h0, _, _, hn, _⟩
      · cases h0
      · injection h0 with _ _ e; omega
    refine ⟨g, cap, w, run_append_nothing w t t ty e i ht hi (some ⟨g, 0, none⟩) n cap hle (.slice a 0 c) ?_, by simpa using hown, ⟨rfl, rfl, rfl, Nat.le_refl _, fun _ _ _ => rfl⟩, .inl rfl⟩
    rcases a with _ | p
    · exact Src.ofNil w ht c
    · exact Src.ofSlice w ht p 0 c [] (by simp) (by simp) (by simp)
  rcases h with ⟨rfl, rfl⟩ | ⟨ad, rfl, hc⟩
  · exact none_ rfl rfl a c
  · obtain ⟨v', w', hr, h2, h3, h4, h5⟩ := run_append_own_at (P := Tryd.prog) w base t ty e i z size bytes ht hi hz hsize hby hzs hsz _ n xs hown ad m c news hl hc h1 h63 hbytes hbase
    obtain ⟨g', cap', rfl⟩ : ∃ g' cap', v' = .slice (some ⟨g', 0, none⟩) (n + m) cap' := by
      rcases h2.2 with ⟨h0, _⟩ | ⟨g', cap', cur, hv, _⟩
      · have := (h4.1 h0).1; cases this
      · exact ⟨g', cap', hv⟩
    refine ⟨g', cap', w', hr, h2, h3, ?_⟩
    rcases h5 with h5 | h5 <;> simp [Value.ownBlock] at h5
    · exact .inl h5
    · exact .inr h5
/-- An append inside a drawn region. -/
theorem wp_piece (t e : TypeId) (i : TypeInfo) (z : Value) (size bytes : Nat) (ht : Tryd.prog.underlying t = some (.slice e)) (hi : Tryd.prog.info? e = some i) (hz : i.zero = some z) (hsize : i.size = size) (hby : i.bytes = bytes) (hzs : z.cells.size = size) (hsz : 0 < size)
    {o : Oper} {a : Act} {W : World} {K : Act → World → Prop} {Q : Exit → Act → World → Prop} (sl x : Operand) (ho : o.op = .call { callee := .builtin .append, args := #[sl, x], argTypes := #[t, t] })
    {base g n cap : Nat} {xs : List Value} (hs : a.eval sl = .slice (some ⟨g, 0, none⟩) n cap) (hown : W.ownsRow base e size (.slice (some ⟨g, 0, none⟩) n cap) n xs) {v : Value} {m : Nat} {news : List Value} (hx : a.eval x = v) (hv : Piece W v m news) (hl : news.length = m * size) (h1 : ∀ u ∈ news, u.oneCell' = true)
    (h63 : n + m ≤ maxLen) (hbytes : (n + m) * bytes ≤ 140737488355328) (hbase : base ≤ W.heap.size) (N : Nat) (hN : n + m = N) (ys : List Value) (hys : xs ++ news = ys)
    (h : base ≤ g → ∀ g' cap' W', W'.ownsRow base e size (.slice (some ⟨g', 0, none⟩) N cap') N ys → W.grownBy W' (some g) → (g' = g ∨ g' = W.heap.size) → K (a.put o.dst (.slice (some ⟨g', 0, none⟩) N cap')) W') : o.wp Tryd.prog a W K Q := by
  subst hN; subst hys
  obtain ⟨g', cap', w', hr, h2, h3, h4⟩ := piece_run t e i z size bytes ht hi hz hsize hby hzs hsz hown hv hl h1 h63 hbytes hbase o.type
  unfold Oper.wp execOp
  simp only [ho, resolve, invoke, builtin, Sem.run_bind, Sem.run_pure, Result.andThen_ok, List.map_toArray, List.map_cons, List.map_nil, hs, hx, hr]
  exact h (hown.lt g rfl).1 _ _ _ h2 h3 h4
theorem Piece.kept {W W' : World} {v : Value} {n : Nat} {xs : List Value} (h : Piece W v n xs) (hb : Below W.heap.size W W') : Piece W' v n xs := by
  obtain ⟨a, c, rfl, h | ⟨ad, rfl, h⟩⟩ := h
  · exact ⟨a, c, rfl, .inl h⟩
  · exact ⟨_, c, rfl, .inr ⟨_, rfl, fun j u hu => (hb.cell (World.block_lt_of_cell? W (ad.add j) (h j u hu) : (ad.add j).block < W.heap.size)).trans (h j u hu)⟩⟩
theorem wpList_wanted {P : Program} {ops : Array Oper} {rest : List Oper} {o : Oper} {a : Act} {w : World} {Q : Exit → Act → World → Prop} (hw : Region.wanted o (yielded ops a.tmps) = true) (h : o.wp P a w (wpList P ops Q rest) Q) : wpList P ops Q (o :: rest) a w := by
  unfold wpList
  rw [if_pos hw]
  exact .inl h
theorem IRow.piece {w : World} {B : Nat} {v : Value} {l : List Int} (h : IRow w B v l) : Piece w v l.length (icells l) := by
  obtain ⟨a, c, rfl, _, _, h⟩ := h
  refine ⟨a, c, rfl, ?_⟩
  rcases h with rfl | ⟨b, off, rfl, _, h⟩
  · exact .inl ⟨rfl, rfl⟩
  · refine .inr ⟨_, rfl, fun j u hu => ?_⟩
    rw [Addr.add_mid]
    have hj : j < l.length := by
      rcases Nat.lt_or_ge j l.length with hj | hj
      · exact hj
      · rw [List.getElem?_eq_none (by rw [icells_len]; exact hj)] at hu; cases hu
    rw [h j hj]
    simpa [icells, List.getElem?_eq_getElem hj] using hu
end Go.Proofs.YtilkhamlhbbmgaaDoor
