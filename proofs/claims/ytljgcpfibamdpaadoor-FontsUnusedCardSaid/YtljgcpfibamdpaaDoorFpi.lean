/- Fonts: rows of three numbers that grow; a font with one range and one pair more. -/
import Derived.Test.YtljgcpfibamdpaaDoorFcl
import Derived.Test.YtljgcpfibamdpaaDoorRrn
import Derived.Test.YtljgcpfibamdpaaDoorFit
import Derived.Deep.Upon
import Derived.Deep.AppendLies
import Derived.Deep.AppendSrc
namespace Go.Proofs.YtljgcpfibamdpaaDoor
open Go.RowKit

/-- What is appended: m elements whose cells are news. -/
def Piece (w : World) (v : Value) (m : Nat) (news : List Value) : Prop :=
  ∃ a c, v = .slice a m c ∧ ((m = 0 ∧ news = []) ∨ ∃ ad, a = some ad ∧ ∀ j u, news[j]? = some u → w.cell? (ad.add j) = some u)
theorem piece_run (t e : TypeId) (i : TypeInfo) (z : Value) (size bytes : Nat) (ht : Tryd.prog.underlying t = some (.slice e)) (hi : Tryd.prog.info? e = some i) (hz : i.zero = some z) (hsize : i.size = size) (hby : i.bytes = bytes) (hzs : z.cells.size = size) (hsz : 0 < size)
    {w : World} {base g n cap : Nat} {xs : List Value} (hown : w.ownsRow base e size (.slice (some ⟨g, 0, none⟩) n cap) n xs) {v : Value} {m : Nat} {news : List Value} (hv : Piece w v m news) (hl : news.length = m * size) (h1 : ∀ u ∈ news, u.oneCell' = true)
    (h63 : n + m ≤ maxLen) (hbytes : (n + m) * bytes ≤ 140737488355328) (hbase : base ≤ w.heap.size) (ty : TypeId) :
    ∃ g' cap' w', (Builtin.append_ #[t, t] ty #[.slice (some ⟨g, 0, none⟩) n cap, v]).run Tryd.prog w = .ok (.slice (some ⟨g', 0, none⟩) (n + m) cap') w' ∧ w'.ownsRow base e size (.slice (some ⟨g', 0, none⟩) (n + m) cap') (n + m) (xs ++ news) ∧ w.grownBy w' (some g) ∧ (g' = g ∨ g' = w.heap.size) := by
  obtain ⟨a, c, rfl, h⟩ := hv
  have none_ : news = [] → m = 0 → ∀ a c, ∃ g' cap' w', (Builtin.append_ #[t, t] ty #[.slice (some ⟨g, 0, none⟩) n cap, .slice a m c]).run Tryd.prog w = .ok (.slice (some ⟨g', 0, none⟩) (n + m) cap') w' ∧ w'.ownsRow base e size (.slice (some ⟨g', 0, none⟩) (n + m) cap') (n + m) (xs ++ news) ∧ w.grownBy w' (some g) ∧ (g' = g ∨ g' = w.heap.size) := by
    rintro rfl rfl a c
    have hle : n ≤ cap := by
      rcases hown.2 with ⟨h0, _⟩ | ⟨g1, cap1, cur, h0, _, _, hn, _⟩
      · cases h0
      · injection h0 with _ _ e; omega
    refine ⟨g, cap, w, run_append_nothing w t t ty e i ht hi (some ⟨g, 0, none⟩) n cap hle (.slice a 0 c) ?_, by simpa using hown, ⟨rfl, rfl, rfl, Nat.le_refl _, fun _ _ _ => rfl⟩, .inl rfl⟩
    rcases a with _ | p
    · exact Src.ofNil w ht c
    · exact Src.ofSlice w ht p 0 c [] (by simp) (by simp) (by simp)
  rcases h with ⟨rfl, rfl⟩ | ⟨ad, rfl, hc⟩
  · exact none_ rfl rfl a c
  · obtain ⟨v', w', hr, h2, h3, h4, h5⟩ := run_append_own_at (P := Tryd.prog) w base t ty e i z size bytes ht hi hz hsize hby hzs hsz _ n xs hown ad m c news hl hc h1 h63 hbytes hbase
    obtain ⟨g', cap', rfl⟩ : ∃ g' cap', v' = .slice (some ⟨g', 0, none⟩) (n + m) cap' := by
      rcases h2.2 with ⟨h0, _⟩ | ⟨g', cap', cur, hv, _⟩
      · have := (h4.1 h0).1; cases this
      · exact ⟨g', cap', hv⟩
    refine ⟨g', cap', w', hr, h2, h3, ?_⟩
    rcases h5 with h5 | h5 <;> simp [Value.ownBlock] at h5
    · exact .inl h5
    · exact .inr h5
/-- An append inside a drawn region. -/
theorem wp_piece (t e : TypeId) (i : TypeInfo) (z : Value) (size bytes : Nat) (ht : Tryd.prog.underlying t = some (.slice e)) (hi : Tryd.prog.info? e = some i) (hz : i.zero = some z) (hsize : i.size = size) (hby : i.bytes = bytes) (hzs : z.cells.size = size) (hsz : 0 < size)
    {o : Oper} {a : Act} {W : World} {K : Act → World → Prop} {Q : Exit → Act → World → Prop} (sl x : Operand) (ho : o.op = .call { callee := .builtin .append, args := #[sl, x], argTypes := #[t, t] })
    {base g n cap : Nat} {xs : List Value} (hs : a.eval sl = .slice (some ⟨g, 0, none⟩) n cap) (hown : W.ownsRow base e size (.slice (some ⟨g, 0, none⟩) n cap) n xs) {v : Value} {m : Nat} {news : List Value} (hx : a.eval x = v) (hv : Piece W v m news) (hl : news.length = m * size) (h1 : ∀ u ∈ news, u.oneCell' = true)
    (h63 : n + m ≤ maxLen) (hbytes : (n + m) * bytes ≤ 140737488355328) (hbase : base ≤ W.heap.size) (N : Nat) (hN : n + m = N) (ys : List Value) (hys : xs ++ news = ys)
    (h : base ≤ g → ∀ g' cap' W', W'.ownsRow base e size (.slice (some ⟨g', 0, none⟩) N cap') N ys → W.grownBy W' (some g) → (g' = g ∨ g' = W.heap.size) → K (a.put o.dst (.slice (some ⟨g', 0, none⟩) N cap')) W') : o.wp Tryd.prog a W K Q := by
  subst hN; subst hys
  obtain ⟨g', cap', w', hr, h2, h3, h4⟩ := piece_run t e i z size bytes ht hi hz hsize hby hzs hsz hown hv hl h1 h63 hbytes hbase o.type
  unfold Oper.wp execOp
  simp only [ho, resolve, invoke, builtin, Sem.run_bind, Sem.run_pure, Result.andThen_ok, List.map_toArray, List.map_cons, List.map_nil, hs, hx, hr]
  exact h (hown.lt g rfl).1 _ _ _ h2 h3 h4
theorem Piece.kept {W W' : World} {v : Value} {n : Nat} {xs : List Value} (h : Piece W v n xs) (hb : Below W.heap.size W W') : Piece W' v n xs := by
  obtain ⟨a, c, rfl, h | ⟨ad, rfl, h⟩⟩ := h
  · exact ⟨a, c, rfl, .inl h⟩
  · exact ⟨_, c, rfl, .inr ⟨_, rfl, fun j u hu => (hb.cell (World.block_lt_of_cell? W (ad.add j) (h j u hu) : (ad.add j).block < W.heap.size)).trans (h j u hu)⟩⟩
theorem wpList_wanted {P : Program} {ops : Array Oper} {rest : List Oper} {o : Oper} {a : Act} {w : World} {Q : Exit → Act → World → Prop} (hw : Region.wanted o (yielded ops a.tmps) = true) (h : o.wp P a w (wpList P ops Q rest) Q) : wpList P ops Q (o :: rest) a w := by
  unfold wpList
  rw [if_pos hw]
  exact .inl h
/-- The cells of rows of three numbers. -/
def tcells : List Tri → List Value
  | [] => []
  | t :: l => .int .i64 t.a :: .int .i64 t.b :: .int .i64 t.c :: tcells l
theorem tcells_len : ∀ l : List Tri, (tcells l).length = l.length * 3
  | [] => rfl
  | t :: l => by simp only [tcells, List.length_cons, tcells_len l]; omega
theorem tcells_one : ∀ l : List Tri, ∀ v ∈ tcells l, v.oneCell' = true
  | [], _, h => by simp [tcells] at h
  | t :: l, v, h => by
    simp only [tcells, List.mem_cons] at h
    rcases h with rfl | rfl | rfl | h
    · rfl
    · rfl
    · rfl
    · exact tcells_one l v h
theorem tcells_app : ∀ l m : List Tri, tcells (l ++ m) = tcells l ++ tcells m
  | [], m => rfl
  | t :: l, m => by simp only [tcells, List.cons_append, tcells_app l m]
theorem tcells_get : ∀ (l : List Tri) (i : Nat) (h : i < l.length), (tcells l)[i * 3]? = some (.int .i64 l[i].a) ∧ (tcells l)[i * 3 + 1]? = some (.int .i64 l[i].b) ∧ (tcells l)[i * 3 + 2]? = some (.int .i64 l[i].c)
  | t :: l, 0, _ => ⟨rfl, rfl, rfl⟩
  | t :: l, i + 1, h => by
    have ih := tcells_get l i (by simpa using h)
    rw [show (i + 1) * 3 = i * 3 + 1 + 1 + 1 by omega]
    simp only [tcells, List.getElem?_cons_succ, List.getElem_cons_succ]
    exact ih
theorem tcells_inv : ∀ (l : List Tri) (j : Nat) (u : Value), (tcells l)[j]? = some u → ∃ (i : Nat) (h : i < l.length), (j = i * 3 ∧ u = .int .i64 l[i].a) ∨ (j = i * 3 + 1 ∧ u = .int .i64 l[i].b) ∨ (j = i * 3 + 2 ∧ u = .int .i64 l[i].c)
  | [], j, u, h => by simp [tcells] at h
  | t :: l, 0, u, h => ⟨0, by simp, .inl ⟨rfl, by simp [tcells] at h; simp [h]⟩⟩
  | t :: l, 1, u, h => ⟨0, by simp, .inr (.inl ⟨rfl, by simp [tcells] at h; simp [h]⟩)⟩
  | t :: l, 2, u, h => ⟨0, by simp, .inr (.inr ⟨rfl, by simp [tcells] at h; simp [h]⟩)⟩
  | t :: l, j + 3, u, h => by
    have h2 : (tcells l)[j]? = some u := by simpa [tcells] using h
    obtain ⟨i, hi, hh⟩ := tcells_inv l j u h2
    refine ⟨i + 1, by simpa using hi, ?_⟩
    rcases hh with ⟨rfl, hu⟩ | ⟨rfl, hu⟩ | ⟨rfl, hu⟩
    · exact .inl ⟨by omega, by simpa using hu⟩
    · exact .inr (.inl ⟨by omega, by simpa using hu⟩)
    · exact .inr (.inr ⟨by omega, by simpa using hu⟩)
theorem TAt.piece {w : World} {B : Nat} {v : Value} {l : List Tri} (h : TAt w B v l) : Piece w v l.length (tcells l) := by
  obtain ⟨a, c, rfl, _, _, h⟩ := h
  refine ⟨a, c, rfl, ?_⟩
  rcases h with rfl | ⟨b, off, rfl, _, h⟩
  · exact .inl ⟨rfl, rfl⟩
  · refine .inr ⟨_, rfl, fun j u hu => ?_⟩
    rw [Addr.add_mid]
    obtain ⟨i, hi, hh⟩ := tcells_inv l j u hu
    obtain ⟨_, h1, h2, h3⟩ := h i hi
    rcases hh with ⟨rfl, rfl⟩ | ⟨rfl, rfl⟩ | ⟨rfl, rfl⟩
    · exact h1
    · rw [← Nat.add_assoc]; exact h2
    · rw [← Nat.add_assoc]; exact h3
theorem new_piece (W : World) (x y z : Int) (e : TypeId) : Piece (W.alloc (.cells #[.int .i64 x, .int .i64 y, .int .i64 z] e)) (.slice (some ⟨W.heap.size, 0, none⟩) 1 1) 1 (tcells [⟨x, y, z⟩]) := by
  have hA := Arr.new W #[.int .i64 x, .int .i64 y, .int .i64 z] e
  refine ⟨_, 1, rfl, .inr ⟨_, rfl, fun j u hu => ?_⟩⟩
  rw [Addr.add_mid]
  have hc := hA.at_ j u hu
  exact hc
theorem TAt.of_own {w : World} {B e : Nat} {v : Value} {l : List Tri} {n : Nat} (h : w.ownsRow B e 3 v n (tcells l)) (hn : n = l.length) (hin : ∀ t ∈ l, t.in64) : TAt w w.heap.size v l := by
  subst hn
  have hcl := @World.ownsRow.cells _ _ _ _ _ _ _ h
  rcases h.2 with ⟨rfl, h0⟩ | ⟨g, cap, cur, rfl, hb, hg, h1, h2, _⟩
  · have : l = [] := List.eq_nil_of_length_eq_zero h0
    subst this
    exact t_nil w _ _
  · refine ⟨_, cap, rfl, h1, h2, .inr ⟨g, 0, rfl, (Array.getElem?_eq_some_iff.1 hg).1, fun i hi => ?_⟩⟩
    obtain ⟨c1, c2, c3⟩ := tcells_get l i hi
    have k1 := hcl (g := g) rfl _ _ c1
    have k2 := hcl (g := g) rfl _ _ c2
    have k3 := hcl (g := g) rfl _ _ c3
    rw [Addr.add_mid] at k1 k2 k3
    exact ⟨hin _ (List.getElem_mem _), k1, by rw [Nat.add_assoc]; exact k2, by rw [Nat.add_assoc]; exact k3⟩
theorem Tryd.info47r : (Tryd.prog.info? 47).map (fun i => (i.zero, i.size, i.bytes)) = some (some (.agg #[.int .i64 0, .int .i64 0, .int .i64 0]), 3, 24) := by kernel_rfl
theorem Tryd.info49r : (Tryd.prog.info? 49).map (fun i => (i.zero, i.size, i.bytes)) = some (some (.agg #[.int .i64 0, .int .i64 0, .int .i64 0]), 3, 24) := by kernel_rfl
theorem bs0_33 (W : World) : (Instr.buildSlice 33 0 #[]).run Tryd.prog W = .ok (.slice (some ⟨W.heap.size, 0, none⟩) 0 0) (W.alloc (.cells #[] 47)) := by kernel_rfl
theorem bs0_34 (W : World) : (Instr.buildSlice 34 0 #[]).run Tryd.prog W = .ok (.slice (some ⟨W.heap.size, 0, none⟩) 0 0) (W.alloc (.cells #[] 49)) := by kernel_rfl
theorem own_empty3 (W : World) (B e : Nat) (h : B ≤ W.heap.size) : (W.alloc (.cells #[] e)).ownsRow B e 3 (.slice (some ⟨W.heap.size, 0, none⟩) 0 0) 0 [] :=
  World.ownsRow_made W #[] 0 h (by unfold maxLen; omega) rfl
/-- A font with one range and one pair more. -/
def moreF (f : Fo) (g k : Tri) : Fo := ⟨f.gs ++ [g], f.o, f.ks ++ [k]⟩
theorem one_more {f : Fo} {g k : Tri} {r : Int} (h : ¬ (g.a ≤ r ∧ r ≤ g.b)) : oneW (moreF f g k) r = oneW f r := by
  have h2 : inG r g = false := by
    cases he : inG r g
    · rfl
    · exact absurd (inG_iff.1 he) h
  unfold oneW moreF
  dsimp only
  rw [List.find?_append]
  cases hf : f.gs.find? (inG r) with
  | some y => rfl
  | none => simp [h2]
theorem near_more {f : Fo} {g k : Tri} {x y : Int} (h : ¬ (k.a = x ∧ k.b = y)) : nearW (moreF f g k) x y = nearW f x y := by
  have h2 := atK_no h
  unfold nearW moreF
  dsimp only
  rw [List.find?_append]
  cases hf : f.ks.find? (atK x y) with
  | some y => rfl
  | none => simp [h2]
theorem wdt_more {f : Fo} {g k : Tri} {l : List Int} {M : Nat} (h : ∀ i, i < M → ¬ (g.a ≤ l.getD i 0 ∧ l.getD i 0 ≤ g.b) ∧ (0 < i → ¬ (k.a = l.getD (i - 1) 0 ∧ k.b = l.getD i 0))) : ∀ n, n ≤ M → wdt (moreF f g k) l n = wdt f l n
  | 0, _ => rfl
  | n + 1, hn => by
    have ih := wdt_more (f := f) h n (by omega)
    obtain ⟨h1, h2⟩ := h n (by omega)
    unfold wdt
    rw [ih, one_more h1]
    by_cases h0 : 0 < n
    · rw [if_pos h0, if_pos h0, near_more (h2 h0)]
    · rw [if_neg h0, if_neg h0]
theorem fitS_more {f : Fo} {g k : Tri} {l : List Int} {M : Nat} {room : Int} (h : ∀ n, n ≤ M → wdt (moreF f g k) l n = wdt f l n) : ∀ n, n ≤ M + 1 → fitS (moreF f g k) l room n = fitS f l room n
  | 0, _ => rfl
  | n + 1, hn => by
    have ih := fitS_more (room := room) h n (by omega)
    show (if wdt (moreF f g k) l n ≤ room then ((n : Int), wdt (moreF f g k) l n) else fitS (moreF f g k) l room n) = (if wdt f l n ≤ room then ((n : Int), wdt f l n) else fitS f l room n)
    rw [ih, h n (by omega)]
end Go.Proofs.YtljgcpfibamdpaaDoor
