/- Two arrays of 32 bytes that are the same compare as equal; rows that are appended, whatever they are. -/
import Derived.Test.YtnddejhbncgchaaDoorDof
import Derived.Test.YtnddejhbncgchaaDoorSane
namespace Go.Proofs.YtnddejhbncgchaaDoor
open Go.RowKit

theorem mapM_some {α β : Type} (f : α → Option β) : ∀ l : List α, (∀ x ∈ l, (f x).isSome = true) → (l.mapM f).isSome = true
  | [], _ => rfl
  | x :: l, h => by
    obtain ⟨y, hy⟩ := Option.isSome_iff_exists.1 (h x (by simp))
    obtain ⟨r, hr⟩ := Option.isSome_iff_exists.1 (mapM_some f l fun z hz => h z (List.mem_cons_of_mem _ hz))
    simp [List.mapM_cons, hy, hr]
theorem Tryd.keyType26 : Tryd.prog.keyType 26 = true := by decide +kernel
theorem Tryd.cellsOf26 : Tryd.prog.cellsOf 26 = 32 := by kernel_rfl
theorem Tryd.cellsOf5 : Tryd.prog.cellsOf 5 = 1 := by kernel_rfl
theorem Tryd.tsize : Tryd.prog.types.size = (Tryd.prog.types.size - 1) + 1 := by kernel_rfl
theorem one_chunk (l : List UInt8) (i : Nat) (h : i < l.length) : ((cells8 l).drop i).take 1 = [.int .u8 l[i].toNat] := by
  have : i < (cells8 l).length := by rw [cells8_len]; exact h
  rw [List.drop_eq_getElem_cons this]
  simp [cells8]
theorem key_any (l : List UInt8) (h : l.length = 32) : (keyOf Tryd.prog 26 (dv l)).isSome = true := by
  have hf : (dv l).formed Tryd.prog 26 = true := by
    simp [dv, Value.formed, Tryd.underlying26, Tryd.cellsOf26, cells8_len, h]
  unfold keyOf
  rw [Tryd.underlying26]
  simp only [Tryd.keyType26, hf, Bool.and_self, if_true]
  rw [Option.isSome_map, show (dv l).cells.toList = cells8 l by simp [dv, Value.cells], Tryd.tsize]
  unfold Program.keyLits
  simp only [Tryd.underlying26]
  rw [if_pos (by rw [cells8_len, h, Tryd.cellsOf26]), Option.isSome_map]
  refine mapM_some _ _ fun i hi => ?_
  have hi' : i < l.length := by rw [h]; simpa using hi
  rw [Tryd.cellsOf5, Nat.mul_one, one_chunk l i hi']
  unfold Program.keyLits
  simp only [Tryd.underlying5]
  have hx := l[i].toNat_lt
  have e1 : IntKind.u8.min = 0 := rfl
  have e2 : IntKind.u8.max = 255 := rfl
  rw [if_pos (by simp [Lit.wf, e1, e2]; omega)]
  rfl
theorem eq_any (l : List UInt8) (h : l.length = 32) (W : World) : (Op.equalIn 10000 26 (dv l) (dv l)).run Tryd.prog W = .ok true W := same_key (key_any l h) W

/-- What is appended: m elements whose cells are news. -/
def Piece (w : World) (v : Value) (m : Nat) (news : List Value) : Prop :=
  ∃ a c, v = .slice a m c ∧ ((m = 0 ∧ news = []) ∨ ∃ ad, a = some ad ∧ ∀ j u, news[j]? = some u → w.cell? (ad.add j) = some u)
theorem piece_run (t e : TypeId) (i : TypeInfo) (z : Value) (size bytes : Nat) (ht : Tryd.prog.underlying t = some (.slice e)) (hi : Tryd.prog.info? e = some i) (hz : i.zero = some z) (hsize : i.size = size) (hby : i.bytes = bytes) (hzs : z.cells.size = size) (hsz : 0 < size)
    {w : World} {base g n cap : Nat} {xs : List Value} (hown : w.ownsRow base e size (.slice (some ⟨g, 0, none⟩) n cap) n xs) {v : Value} {m : Nat} {news : List Value} (hv : Piece w v m news) (hl : news.length = m * size) (h1 : ∀ u ∈ news, u.oneCell' = true)
    (h63 : n + m ≤ maxLen) (hbytes : (n + m) * bytes ≤ 140737488355328) (hbase : base ≤ w.heap.size) (ty : TypeId) :
    ∃ g' cap' w', (Builtin.append_ #[t, t] ty #[.slice (some ⟨g, 0, none⟩) n cap, v]).run Tryd.prog w = .ok (.slice (some ⟨g', 0, none⟩) (n + m) cap') w' ∧ w'.ownsRow base e size (.slice (some ⟨g', 0, none⟩) (n + m) cap') (n + m) (xs ++ news) ∧ w.grownBy w' (some g) ∧ (g' = g ∨ g' = w.heap.size) := by
  obtain ⟨a, c, rfl, h⟩ := hv
  have none_ : news = [] → m = 0 → ∀ a c, ∃ g' cap' w', (Builtin.append_ #[t, t] ty #[.slice (some ⟨g, 0, none⟩) n cap, .slice a m c]).run Tryd.prog w = .ok (.slice (some ⟨g', 0, none⟩) (n + m) cap') w' ∧ w'.ownsRow base e size (.slice (some ⟨g', 0, none⟩) (n + m) cap') (n + m) (xs ++ news) ∧ w.grownBy w' (some g) ∧ (g' = g ∨ g' = w.heap.size) := by
    rintro rfl rfl a c
    have hle : n ≤ cap := by
      rcases hown.2 with ⟨h0, _⟩ | ⟨g1, cap1, cur, h0, _, _, hn, _⟩
      · cases h0
      · injection h0 with _ _ e; omega
    refine ⟨g, cap, w, run_append_nothing w t t ty e i ht hi (some ⟨g, 0, none⟩) n cap hle (.slice a 0 c) ?_, by simpa using hown, ⟨rfl, rfl, rfl, Nat.le_refl _, fun _ _ _ => rfl⟩, .inl rfl⟩
    rcases a with _ | p
    · exact Src.ofNil w ht c
    · exact Src.ofSlice w ht p 0 c [] (by simp) (by simp) (by simp)
  rcases h with ⟨rfl, rfl⟩ | ⟨ad, rfl, hc⟩
  · exact none_ rfl rfl a c
  · obtain ⟨v', w', hr, h2, h3, h4, h5⟩ := run_append_own_at (P := Tryd.prog) w base t ty e i z size bytes ht hi hz hsize hby hzs hsz _ n xs hown ad m c news hl hc h1 h63 hbytes hbase
    obtain ⟨g', cap', rfl⟩ : ∃ g' cap', v' = .slice (some ⟨g', 0, none⟩) (n + m) cap' := by
      rcases h2.2 with ⟨h0, _⟩ | ⟨g', cap', cur, hv, _⟩
      · have := (h4.1 h0).1; cases this
      · exact ⟨g', cap', hv⟩
    refine ⟨g', cap', w', hr, h2, h3, ?_⟩
    rcases h5 with h5 | h5 <;> simp [Value.ownBlock] at h5
    · exact .inl h5
    · exact .inr h5
theorem step_piece (t e : TypeId) (i : TypeInfo) (z : Value) (size bytes : Nat) (ht : Tryd.prog.underlying t = some (.slice e)) (hi : Tryd.prog.info? e = some i) (hz : i.zero = some z) (hsize : i.size = size) (hby : i.bytes = bytes) (hzs : z.cells.size = size) (hsz : 0 < size)
    {ops : Array Oper} {o : Oper} {a : Act} {w : World} {K : Act → World → Prop} {Q : Exit → Act → World → Prop} {E : Prop} (hgd : o.guard = none) (sl x : Operand) (ho : o.op = .call { callee := .builtin .append, args := #[sl, x], argTypes := #[t, t] })
    {base g n cap : Nat} {xs : List Value} (hs : a.eval sl = .slice (some ⟨g, 0, none⟩) n cap) (hown : w.ownsRow base e size (.slice (some ⟨g, 0, none⟩) n cap) n xs) {v : Value} {m : Nat} {news : List Value} (hx : a.eval x = v) (hv : Piece w v m news) (hl : news.length = m * size) (h1 : ∀ u ∈ news, u.oneCell' = true)
    (h63 : n + m ≤ maxLen) (hbytes : (n + m) * bytes ≤ 140737488355328) (hbase : base ≤ w.heap.size)
    (h : base ≤ g → ∀ g' cap' w', w'.ownsRow base e size (.slice (some ⟨g', 0, none⟩) (n + m) cap') (n + m) (xs ++ news) → w.grownBy w' (some g) → K (a.put o.dst (.slice (some ⟨g', 0, none⟩) (n + m) cap')) w') :
    if Region.wanted o (yielded ops a.tmps) = true then Oper.wp Tryd.prog o a w K Q else E := by
  have hw : Region.wanted o (yielded ops a.tmps) = true := by simp [Region.wanted, hgd]
  rw [if_pos hw]
  obtain ⟨g', cap', w', hr, h2, h3, _⟩ := piece_run t e i z size bytes ht hi hz hsize hby hzs hsz hown hv hl h1 h63 hbytes hbase o.type
  unfold Oper.wp execOp
  simp only [ho, resolve, invoke, builtin, Sem.run_bind, Sem.run_pure, Result.andThen_ok, List.map_toArray, List.map_cons, List.map_nil, hs, hx, hr]
  exact h (hown.lt g rfl).1 _ _ _ h2 h3
theorem piece_bytes {w : World} {B : Nat} {v : Value} {b : List UInt8} (h : BytesAt w B v b) : Piece w v b.length (cells8 b) := by
  obtain ⟨a, c, rfl, _, _, h | ⟨db, off, rfl, _, h⟩⟩ := h
  · subst h; exact ⟨a, c, rfl, .inl ⟨rfl, rfl⟩⟩
  · refine ⟨_, c, rfl, .inr ⟨_, rfl, fun j u hu => ?_⟩⟩
    rw [Addr.add_mid]
    have hj : j < b.length := by
      rcases Nat.lt_or_ge j b.length with hj | hj
      · exact hj
      · rw [List.getElem?_eq_none (by rw [cells8_len]; exact hj)] at hu; cases hu
    rw [h j hj]
    simpa [cells8, List.getElem?_eq_getElem hj] using hu
theorem piece_row {w : World} {b o n c : Nat} {cs : List Value} (h : w.rangeAt b o cs) : Piece w (.slice (some ⟨b, o, none⟩) n c) n cs :=
  ⟨_, c, rfl, .inr ⟨_, rfl, fun j u hu => by rw [Addr.add_mid]; exact h j u hu⟩⟩
theorem own_after {W W' : World} {B e size n : Nat} {v : Value} {xs : List Value} (hb : Below W.heap.size W W') (h : W.ownsRow B e size v n xs) : W'.ownsRow B e size v n xs := own_keep h hb
theorem bytesAt_any {w W : World} {v : Value} {b : List UInt8} (h : BytesAt w w.heap.size v b) (hb : Below w.heap.size w W) : BytesAt W W.heap.size v b := (h.below hb).mono hb.size
theorem own_digs' {W : World} {B n : Nat} {v : Value} {ds : List (List UInt8)} (h : W.ownsRow B 26 32 v n (flat ds)) (hn : ds.length = n) (h32 : ∀ d ∈ ds, d.length = 32) : Digs W W.heap.size v ds := by
  subst hn; exact own_digs h h32
end Go.Proofs.YtnddejhbncgchaaDoor
