/- Steps of regions whose order is drawn: what each makes, as a letter; what stands behind each. -/
import Derived.Test.YtnddejhbncgchaaDoorStp
namespace Go.Proofs.YtnddejhbncgchaaDoor
open Go.RowKit

theorem Arr.moved {W W' : World} {r : Option Nat} {b : Nat} {cs : List Value} (h : Arr W b cs) (hG : W.grownBy W' r) (hlt : b < W.heap.size) (hne : some b ≠ r) : Arr W' b cs :=
  ⟨fun j v hv => (World.cell?_of_block (a := ⟨b, 0 + j, none⟩) (hG.block b hlt hne)).trans (h.at_ j v hv),
    fun j hj => ⟨by rw [World.cell?_of_block (a := ⟨b, 0 + j, none⟩) (hG.block b hlt hne)]; exact (h.there j hj).1, by rw [World.frozen?_of_block (a := ⟨b, 0 + j, none⟩) (hG.block b hlt hne)]; exact (h.there j hj).2⟩⟩
theorem rng_moved {W W' : World} {r : Option Nat} {b o : Nat} {cs : List Value} (h : W.rangeAt b o cs) (hG : W.grownBy W' r) (hlt : b < W.heap.size) (hne : some b ≠ r) : W'.rangeAt b o cs :=
  fun j v hv => (World.cell?_of_block (a := ⟨b, o + j, none⟩) (hG.block b hlt hne)).trans (h j v hv)
theorem own_moved {W W' : World} {r : Option Nat} {B e size n m c g : Nat} {xs : List Value} (h : W.ownsRow B e size (.slice (some ⟨g, 0, none⟩) m c) n xs) (hG : W.grownBy W' r) (hne : some g ≠ r) : W'.ownsRow B e size (.slice (some ⟨g, 0, none⟩) m c) n xs :=
  World.ownsRow.kept h hG (.inr (by simpa [Value.ownBlock] using hne))
theorem Kept.moved {W0 W W' : World} {r : Option Nat} (h : Kept W0 W) (hG : W.grownBy W' r) (hr : ∀ k, r = some k → W0.heap.size ≤ k) : Kept W0 W' := below_grow h hG hr h.size
theorem piece_own {W : World} {B e size n : Nat} {v : Value} {xs : List Value} (h : W.ownsRow B e size v n xs) : Piece W v n xs := by
  have hcl := @World.ownsRow.cells _ _ _ _ _ _ _ h
  rcases h.2 with ⟨rfl, h0⟩ | ⟨g, cap, cur, rfl, _⟩
  · exact ⟨none, 0, by rw [h0], .inl ⟨h0, List.eq_nil_of_length_eq_zero (by rw [h.1, h0, Nat.zero_mul])⟩⟩
  · exact ⟨_, cap, rfl, .inr ⟨_, rfl, fun j u hu => hcl (g := g) rfl j u hu⟩⟩
theorem Piece.kept {W W' : World} {v : Value} {n : Nat} {xs : List Value} (h : Piece W v n xs) (hb : Below W.heap.size W W') : Piece W' v n xs := by
  obtain ⟨a, c, rfl, h | ⟨ad, rfl, h⟩⟩ := h
  · exact ⟨a, c, rfl, .inl h⟩
  · exact ⟨_, c, rfl, .inr ⟨_, rfl, fun j u hu => (hb.cell (World.block_lt_of_cell? W (ad.add j) (h j u hu) : (ad.add j).block < W.heap.size)).trans (h j u hu)⟩⟩

theorem bs0_30 (W : World) : (Instr.buildSlice 30 0 #[]).run Tryd.prog W = .ok (.slice (some ⟨W.heap.size, 0, none⟩) 0 0) (W.alloc (.cells #[] 26)) := by
  obtain ⟨i, hi, h⟩ := Option.map_eq_some_iff.1 Tryd.info26z
  have hn : (newRow 26 #[]).run Tryd.prog W = .ok ⟨W.heap.size, 0, none⟩ (W.alloc (.cells #[] 26)) := rfl
  simp [Instr.buildSlice, run_underlying Tryd.underlying30, sizeOf, typeInfo, hi, Instr.fill]
  rw [show (Array.map (fun _ => (default : Value)) (Array.range 0)) = #[] by simp, hn]
  rfl
theorem bs0_22 (W : World) : (Instr.buildSlice 22 0 #[]).run Tryd.prog W = .ok (.slice (some ⟨W.heap.size, 0, none⟩) 0 0) (W.alloc (.cells #[] 5)) := by
  obtain ⟨i, hi, h⟩ := Option.map_eq_some_iff.1 Tryd.infoU8
  have hn : (newRow 5 #[]).run Tryd.prog W = .ok ⟨W.heap.size, 0, none⟩ (W.alloc (.cells #[] 5)) := rfl
  simp [Instr.buildSlice, run_underlying Tryd.underlying22, sizeOf, typeInfo, hi, Instr.fill]
  rw [show (Array.map (fun _ => (default : Value)) (Array.range 0)) = #[] by simp, hn]
  rfl

section
variable {o : Oper} {a : Act} {W : World} {K : Act → World → Prop} {Q : Exit → Act → World → Prop}
theorem wp_new30 (ho : o.op = .buildSlice 30 0 #[]) (h : ∀ g W', W.heap.size ≤ g → g < W'.heap.size → W.grownBy W' none → (∀ B, B ≤ W.heap.size → W'.ownsRow B 26 32 (.slice (some ⟨g, 0, none⟩) 0 0) 0 []) → K (a.put o.dst (.slice (some ⟨g, 0, none⟩) 0 0)) W') : o.wp Tryd.prog a W K Q :=
  wp_buildSlice_run 30 0 [] ho [] _ rfl (bs0_30 W) (h _ _ (Nat.le_refl _) (by simp) (World.grownBy_alloc W _ none) fun B hB => World.ownsRow_made (base := B) W #[] 0 hB (by unfold maxLen; omega) rfl)
theorem wp_new22 (ho : o.op = .buildSlice 22 0 #[]) (h : ∀ g W', W.heap.size ≤ g → g < W'.heap.size → W.grownBy W' none → (∀ B, B ≤ W.heap.size → W'.ownsRow B 5 1 (.slice (some ⟨g, 0, none⟩) 0 0) 0 []) → K (a.put o.dst (.slice (some ⟨g, 0, none⟩) 0 0)) W') : o.wp Tryd.prog a W K Q :=
  wp_buildSlice_run 22 0 [] ho [] _ rfl (bs0_22 W) (h _ _ (Nat.le_refl _) (by simp) (World.grownBy_alloc W _ none) fun B hB => World.ownsRow_made (base := B) W #[] 0 hB (by unfold maxLen; omega) rfl)
theorem wp_one30 (x : Operand) (ho : o.op = .buildSlice 30 1 #[(0, x)]) (D : List Value) (hx : a.eval x = .agg D.toArray) (hD : D.length = 32) (h : ∀ g W', W.heap.size ≤ g → g < W'.heap.size → W.grownBy W' none → W'.rangeAt g 0 D → K (a.put o.dst (.slice (some ⟨g, 0, none⟩) 1 1)) W') : o.wp Tryd.prog a W K Q := by
  refine wp_buildSlice_run 30 1 [(0, x)] ho [(0, .agg D.toArray)] _ (by simp [hx]) (run_buildSlice1 W _ (by simpa using hD)) (h _ _ (Nat.le_refl _) (by simp) (World.grownBy_alloc W _ none) ?_)
  have := (Arr.new W D.toArray 26).at_
  rwa [List.toList_toArray] at this
theorem wp_alloc26 (ho : o.op = .alloc 26) (h : ∀ g W', W.heap.size ≤ g → g < W'.heap.size → W.grownBy W' none → Arr W' g (cells8 (List.replicate 32 0)) → K (a.put o.dst (.pointer (some ⟨g, 0, none⟩))) W') : o.wp Tryd.prog a W K Q := by
  obtain ⟨i, hi, hz⟩ := Option.map_eq_some_iff.1 Tryd.info26z
  simp only [Prod.mk.injEq] at hz
  have hrun : (Instr.alloc 26 true (.tuple #[])).run Tryd.prog W = .ok (.pointer (some ⟨W.heap.size, 0, none⟩)) (W.alloc (.cells (Array.replicate 32 (.int .u8 0)) 26)) := by
    have hn : ∀ C, (newRow 26 C).run Tryd.prog W = .ok ⟨W.heap.size, 0, none⟩ (W.alloc (.cells C 26)) := fun _ => rfl
    simp [Instr.alloc, zeroValue, typeInfo, newVar, hi, hz.1, hn, Value.cells]
  have hA := Arr.new W (Array.replicate 32 (.int .u8 0)) 26
  have hk := h _ _ (Nat.le_refl _) (by simp) (World.grownBy_alloc W (.cells (Array.replicate 32 (.int .u8 0)) 26) none) (by rw [Array.toList_replicate] at hA; exact hA)
  unfold Oper.wp execOp
  simp only [ho, Sem.run_bind, hrun, Result.andThen_ok]
  exact hk
theorem grown_setCell {W : World} {b : Nat} (i : Nat) (v : Value) : W.grownBy (W.setCell ⟨b, i, none⟩ v) (some b) :=
  ⟨rfl, rfl, rfl, by simp [World.setCell], fun k _ hne => Below.heap_setCell _ _ _ _ (by first | exact fun e => hne (congrArg some e) | exact fun e => hne (congrArg some e.symm))⟩
theorem grown_setCells {b : Nat} : ∀ (vs : List Value) (o : Nat) (W : World), W.grownBy (W.setCells b o vs) (some b)
  | [], _, _ => ⟨rfl, rfl, rfl, Nat.le_refl _, fun _ _ _ => rfl⟩
  | v :: r, o, W => by
    rw [World.setCells]
    exact gtrans (grown_setCell o v) (grown_setCells r (o + 1) _)
theorem wp_st26 (x y : Operand) (ho : o.op = .store 26 x y) (b : Nat) (cs old : List Value) (hx : a.eval x = .pointer (some ⟨b, 0, none⟩)) (hy : a.eval y = .agg cs.toArray) (hA : Arr W b old) (hl : cs.length = old.length)
    (hi : (Tryd.prog.info? 26).map (·.size) = some cs.length) (h1 : ∀ v ∈ cs, v.oneCell' = true) (h : ∀ W', W.grownBy W' (some b) → Arr W' b cs → K (a.put o.dst undef) W') : o.wp Tryd.prog a W K Q := by
  refine wp_store_mid 26 x y ho b 0 cs.toArray hx hy (by rw [List.size_toArray, hl]; exact hA.there) (by simpa using hi) (all_oneCell_toArray h1) ?_
  rw [List.toList_toArray]
  exact h _ (grown_setCells _ _ _) (hA.stored hl)
end
/-- An append inside a drawn region. -/
theorem wp_piece (t e : TypeId) (i : TypeInfo) (z : Value) (size bytes : Nat) (ht : Tryd.prog.underlying t = some (.slice e)) (hi : Tryd.prog.info? e = some i) (hz : i.zero = some z) (hsize : i.size = size) (hby : i.bytes = bytes) (hzs : z.cells.size = size) (hsz : 0 < size)
    {o : Oper} {a : Act} {W : World} {K : Act → World → Prop} {Q : Exit → Act → World → Prop} (sl x : Operand) (ho : o.op = .call { callee := .builtin .append, args := #[sl, x], argTypes := #[t, t] })
    {base g n cap : Nat} {xs : List Value} (hs : a.eval sl = .slice (some ⟨g, 0, none⟩) n cap) (hown : W.ownsRow base e size (.slice (some ⟨g, 0, none⟩) n cap) n xs) {v : Value} {m : Nat} {news : List Value} (hx : a.eval x = v) (hv : Piece W v m news) (hl : news.length = m * size) (h1 : ∀ u ∈ news, u.oneCell' = true)
    (h63 : n + m ≤ maxLen) (hbytes : (n + m) * bytes ≤ 140737488355328) (hbase : base ≤ W.heap.size) (N : Nat) (hN : n + m = N) (ys : List Value) (hys : xs ++ news = ys)
    (h : base ≤ g → ∀ g' cap' W', W'.ownsRow base e size (.slice (some ⟨g', 0, none⟩) N cap') N ys → W.grownBy W' (some g) → (g' = g ∨ g' = W.heap.size) → K (a.put o.dst (.slice (some ⟨g', 0, none⟩) N cap')) W') : o.wp Tryd.prog a W K Q := by
  subst hN; subst hys
  obtain ⟨g', cap', w', hr, h2, h3, h4⟩ := piece_run t e i z size bytes ht hi hz hsize hby hzs hsz hown hv hl h1 h63 hbytes hbase o.type
  unfold Oper.wp execOp
  simp only [ho, resolve, invoke, builtin, Sem.run_bind, Sem.run_pure, Result.andThen_ok, List.map_toArray, List.map_cons, List.map_nil, hs, hx, hr]
  exact h (hown.lt g rfl).1 _ _ _ h2 h3 h4
/-- A load of a long array under a guard that holds. -/
theorem wpList_load_wanted {P : Program} {ops : Array Oper} {rest : List Oper} {op : Oper} {a : Act} {w : World} {Q : Exit → Act → World → Prop} (hw : Region.wanted op (yielded ops a.tmps) = true) (ty : TypeId) (x : Operand) (ho : op.op = .load ty x)
    (b o : Nat) (hx : a.eval x = .pointer (some ⟨b, o, none⟩)) (cs : List Value) (d : TypeDesc) (hc : w.rangeAt b o cs) (hu : P.underlying ty = some d) (hd : d.isRow = true) (hi : (P.info? ty).map (·.size) = some cs.length)
    (h : wpList P ops Q rest (a.put op.dst (.agg cs.toArray)) w) : wpList P ops Q (op :: rest) a w := by
  unfold wpList
  rw [if_pos hw]
  exact .inl (wp_load_mid ty x ho b o hx cs d hc hu hd hi h)
end Go.Proofs.YtnddejhbncgchaaDoor
