/- The table of scanners. -/
import Derived.Test.YtdcdldjbdjochaaDoorNum
import Derived.Deep.MidRow
namespace Go.Proofs.YtdcdldjbdjochaaDoor
open Go.RowKit

theorem below_setCells {B b : Nat} {a : World} (hb : B ≤ b) : ∀ (vs : List Value) (o : Nat) (w : World), Below B a w → Below B a (w.setCells b o vs)
  | [], _, _, h => h
  | v :: r, o, w, h => by
    rw [World.setCells]
    exact below_setCells hb r (o + 1) _ (h.setCell (p := ⟨b, o, none⟩) hb v)

/-- Block b of W holds the cells cs, and they may be written. -/
structure Arr (W : World) (b : Nat) (cs : List Value) : Prop where
  at_ : W.rangeAt b 0 cs
  there : W.there b 0 cs.length
theorem Arr.cell {W : World} {b : Nat} {cs : List Value} (h : Arr W b cs) {i : Nat} {v : Value} (hv : cs[i]? = some v) : W.cell? ⟨b, i, none⟩ = some v := by simpa using h.at_ i v hv
theorem Arr.frozen {W : World} {b : Nat} {cs : List Value} (h : Arr W b cs) {i : Nat} (hi : i < cs.length) : W.frozen? ⟨b, i, none⟩ = false := by simpa using (h.there i hi).2
theorem Arr.below {W W' : World} {B b : Nat} {cs : List Value} (h : Arr W b cs) (hb : Below B W W') (hlt : b < B) : Arr W' b cs :=
  ⟨fun j v hv => (hb.cell (p := ⟨b, 0 + j, none⟩) hlt).trans (h.at_ j v hv), fun j hj => ⟨by rw [hb.cell (p := ⟨b, 0 + j, none⟩) hlt]; exact (h.there j hj).1, by rw [hb.frozen (p := ⟨b, 0 + j, none⟩) hlt]; exact (h.there j hj).2⟩⟩
theorem Arr.drewN {W : World} {b : Nat} {cs : List Value} (h : Arr W b cs) (q : Nat) : Arr (W.drewN q) b cs := ⟨h.at_, h.there⟩
theorem Arr.drew {W : World} {b : Nat} {cs : List Value} (h : Arr W b cs) : Arr W.drew b cs := ⟨h.at_, h.there⟩
theorem Arr.new (W : World) (C : Array Value) (t : TypeId) : Arr (W.alloc (.cells C t)) W.heap.size C.toList := by
  have hc : ∀ i v, C.toList[i]? = some v → (W.alloc (.cells C t)).cell? ⟨W.heap.size, i, none⟩ = some v := fun i v hv => by
    rw [World.cell?_alloc_new]; simpa using hv
  refine ⟨fun j v hv => by simpa using hc j v hv, fun j hj => ⟨?_, ?_⟩⟩
  · rw [Nat.zero_add, hc j _ (List.getElem?_eq_getElem hj)]; rfl
  · rw [Nat.zero_add, World.frozen?_alloc_new]
theorem Arr.alloc {W : World} {b : Nat} {cs : List Value} (h : Arr W b cs) (hlt : b < W.heap.size) (o : Obj) : Arr (W.alloc o) b cs := h.below ((Below.refl W.heap.size W).alloc (Nat.le_refl _) o) hlt
theorem Arr.other {W : World} {b b' : Nat} {cs : List Value} (h : Arr W b cs) (hne : b ≠ b') (i : Nat) (v : Value) : Arr (W.setCell ⟨b', i, none⟩ v) b cs := by
  refine ⟨fun j u hu => ?_, fun j hj => ⟨?_, by rw [World.frozen?_setCell]; exact (h.there j hj).2⟩⟩
  · rw [World.cell?_setCell_other _ _ _ _ (fun h => by injection h; first | exact hne (by assumption) | exact hne (by symm; assumption))]; exact h.at_ j u hu
  · rw [World.cell?_setCell_other _ _ _ _ (fun h => by injection h; first | exact hne (by assumption) | exact hne (by symm; assumption))]; exact (h.there j hj).1
theorem Arr.lt {W : World} {b : Nat} {cs : List Value} (h : Arr W b cs) (hl : 0 < cs.length) : b < W.heap.size := by
  obtain ⟨u, hu⟩ := Option.isSome_iff_exists.1 (h.there 0 hl).1
  exact World.block_lt_of_cell? W _ hu
theorem Arr.stored {W : World} {b : Nat} {cs cs' : List Value} (h : Arr W b cs) (hl : cs'.length = cs.length) : Arr (W.setCells b 0 cs') b cs' :=
  ⟨World.rangeAt_setCells_same W b 0 cs' (by rw [hl]; exact h.there), World.there_setCells (by rw [hl]; exact h.there) b 0 cs'⟩
/-- A whole array goes into a block of the call's own: the world behind it is a letter. -/
theorem store_new {P : Program} {ops : Array Oper} {rest : List Oper} {op : Oper} {a : Act} {w w0 : World} {Q : Exit → Act → World → Prop} (hgd : op.guard = none) (ty : TypeId) (x y : Operand) (ho : op.op = .store ty x y)
    (B b : Nat) (cs old : List Value) (hx : a.eval x = .pointer (some ⟨b, 0, none⟩)) (hy : a.eval y = .agg cs.toArray) (hB : Below B w0 w) (hb : B ≤ b) (ht : Arr w b old) (hl : cs.length = old.length)
    (hi : (P.info? ty).map (·.size) = some cs.length) (h1 : ∀ v ∈ cs, v.oneCell' = true) (h : ∀ W, Below B w0 W → Arr W b cs → w.heap.size ≤ W.heap.size → wpList P ops Q rest (a.put op.dst undef) W) : wpList P ops Q (op :: rest) a w := by
  refine wpList_store_mid hgd ty x y ho b 0 cs.toArray hx hy (by rw [List.size_toArray, hl]; exact ht.there) (by simpa using hi) (all_oneCell_toArray h1) ?_
  exact h _ (below_setCells hb _ _ _ hB) (ht.stored hl) (below_setCells (B := 0) (Nat.zero_le _) cs.toArray.toList 0 w (Below.refl 0 w)).size

theorem results_cell_mid {P : Program} {fn : Func} {p : Tmp} {ty : TypeId} (h : fn.results = #[.cell p ty]) (tmps : Array Value) (w : World) (b : Nat) (cs : List Value) (d : TypeDesc)
    (hp : tmps.getD p undef = .pointer (some ⟨b, 0, none⟩)) (hc : w.rangeAt b 0 cs)
    (hu : P.underlying ty = some d) (hd : d.isRow = true) (hi : (P.info? ty).map (·.size) = some cs.length) :
    (results fn tmps).run P w = .ok (.agg cs.toArray) w := by
  have hp' : tmps[p]?.getD undef = .pointer (some ⟨b, 0, none⟩) := by simpa using hp
  simp [results, h, hp', asAddr, run_loadVar_mid w b 0 ty cs d hc hu hd hi]
abbrev fn (n : Nat) : Value := .func (.func n) #[] #[]
def scs : List Value := [fn 47, fn 48, fn 47, fn 49, fn 38, fn 50, fn 51, fn 52, fn 47, fn 48, fn 47, fn 53, fn 54, fn 55]
theorem scs_one : ∀ v ∈ scs, v.oneCell' = true := by decide
theorem Tryd.info60 : (Tryd.prog.info? 60).map (·.size) = some scs.length := by kernel_rfl
set_option maxHeartbeats 1000000 in
theorem scanners_any (w : World) : Calls Tryd.prog 39 #[] w fun e w' => e = .returned (.agg scs.toArray) ∧ Below w.heap.size w w' := by
  go_enter Tryd.func39, Tryd.ntmps39
  go_wp2_with (refine store_new rfl 60 _ _ (by rfl) w.heap.size w.heap.size scs _ (by rfl) (by rfl) ((Below.refl w.heap.size w).alloc (Nat.le_refl _) _) (Nat.le_refl _) (Arr.new w _ 60) (by rfl) Tryd.info60 scs_one ?_; intro W3 hB3 hA3 hz3)
  refine bodyPost_ret (results_cell_mid rfl _ _ _ _ _ rfl hA3.at_ Tryd.underlying60 rfl Tryd.info60) rfl ?_
  exact ⟨rfl, hB3⟩
end Go.Proofs.YtdcdldjbdjochaaDoor
