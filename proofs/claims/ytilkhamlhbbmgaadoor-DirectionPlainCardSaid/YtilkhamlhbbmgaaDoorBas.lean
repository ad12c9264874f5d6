/- What serves every walk: blocks that hold an array, worlds that keep what lay, regions inside rounds. -/
import Derived.Test.YtilkhamlhbbmgaaDoorKnd
import Derived.Deep.MidRow
import Derived.Deep.RegionHeld3
import Derived.Deep.RegionHeld
import Derived.Deep.Slices
import Derived.RangeFuncNested
import Derived.RangeFuncBound
import Derived.RangeFuncCalls
import Derived.RangeFuncOwn
import Derived.RangeFuncLeaves
import Derived.OwnWalkIn
import Derived.TacticsInMore
import Derived.Stop.RegionWithIn
import Derived.OwnWalk
import Derived.Deep.QuietTactic
import Derived.BigQuiet
import Derived.RegionTactic
import Derived.Handy
namespace Go.Proofs.YtilkhamlhbbmgaaDoor
open Go.RowKit


def cells8 (l : List UInt8) : List Value := l.map fun c => .int .u8 c.toNat
theorem cells8_len (l : List UInt8) : (cells8 l).length = l.length := by simp [cells8]

/-- Nothing that lay in w1 has turned in W. -/
def Kept (w1 W : World) : Prop := Below w1.heap.size w1 W
theorem Kept.below {w1 W : World} (h : Kept w1 W) : Below w1.heap.size w1 W := h
theorem Kept.next {w1 W W' : World} (h : Kept w1 W) (k : Below W.heap.size W W') : Kept w1 W' := Below.trans h (k.mono h.size)
theorem Kept.refl (w1 : World) : Kept w1 w1 := Below.refl _ _
theorem Kept.drew {w1 W : World} (h : Kept w1 W) : Kept w1 W.drew := Below.drew h
theorem Kept.alloc {w1 W : World} (h : Kept w1 W) (o : Obj) : Kept w1 (W.alloc o) := Below.alloc h h.size o
theorem Kept.set {w1 W : World} (h : Kept w1 W) {p : Addr} (hp : w1.heap.size ≤ p.block) (u : Value) : Kept w1 (W.setCell p u) := Below.setCell h hp u
theorem below_drewN {B : Nat} {a w : World} (h : Below B a w) (q : Nat) : Below B a (w.drewN q) := ⟨h.os, h.tape, h.output, h.size, h.block⟩
theorem Kept.drewN {w1 W : World} (h : Kept w1 W) (q : Nat) : Kept w1 (W.drewN q) := below_drewN h q
theorem below_setCells {B b : Nat} {a : World} (hb : B ≤ b) : ∀ (vs : List Value) (o : Nat) (w : World), Below B a w → Below B a (w.setCells b o vs)
  | [], _, _, h => h
  | v :: r, o, w, h => by
    rw [World.setCells]
    exact below_setCells hb r (o + 1) _ (h.setCell (p := ⟨b, o, none⟩) hb v)

/-- Block b of W holds the cells cs, and they may be written. -/
structure Arr (W : World) (b : Nat) (cs : List Value) : Prop where
  at_ : W.rangeAt b 0 cs
  there : W.there b 0 cs.length
theorem Arr.cell {W : World} {b : Nat} {cs : List Value} (h : Arr W b cs) {i : Nat} {v : Value} (hv : cs[i]? = some v) : W.cell? ⟨b, i, none⟩ = some v := by simpa using h.at_ i v hv
theorem Arr.frozen {W : World} {b : Nat} {cs : List Value} (h : Arr W b cs) {i : Nat} (hi : i < cs.length) : W.frozen? ⟨b, i, none⟩ = false := by simpa using (h.there i hi).2
theorem Arr.below {W W' : World} {B b : Nat} {cs : List Value} (h : Arr W b cs) (hb : Below B W W') (hlt : b < B) : Arr W' b cs :=
  ⟨fun j v hv => (hb.cell (p := ⟨b, 0 + j, none⟩) hlt).trans (h.at_ j v hv), fun j hj => ⟨by rw [hb.cell (p := ⟨b, 0 + j, none⟩) hlt]; exact (h.there j hj).1, by rw [hb.frozen (p := ⟨b, 0 + j, none⟩) hlt]; exact (h.there j hj).2⟩⟩
theorem Arr.drewN {W : World} {b : Nat} {cs : List Value} (h : Arr W b cs) (q : Nat) : Arr (W.drewN q) b cs := ⟨h.at_, h.there⟩
theorem Arr.drew {W : World} {b : Nat} {cs : List Value} (h : Arr W b cs) : Arr W.drew b cs := ⟨h.at_, h.there⟩
theorem Arr.new (W : World) (C : Array Value) (t : TypeId) : Arr (W.alloc (.cells C t)) W.heap.size C.toList := by
  have hc : ∀ i v, C.toList[i]? = some v → (W.alloc (.cells C t)).cell? ⟨W.heap.size, i, none⟩ = some v := fun i v hv => by
    rw [World.cell?_alloc_new]; simpa using hv
  refine ⟨fun j v hv => by simpa using hc j v hv, fun j hj => ⟨?_, ?_⟩⟩
  · rw [Nat.zero_add, hc j _ (List.getElem?_eq_getElem hj)]; rfl
  · rw [Nat.zero_add, World.frozen?_alloc_new]
theorem Arr.alloc {W : World} {b : Nat} {cs : List Value} (h : Arr W b cs) (hlt : b < W.heap.size) (o : Obj) : Arr (W.alloc o) b cs := h.below ((Below.refl W.heap.size W).alloc (Nat.le_refl _) o) hlt
theorem Arr.set {W : World} {b : Nat} {cs : List Value} (h : Arr W b cs) (i : Nat) (v : Value) : Arr (W.setCell ⟨b, i, none⟩ v) b (cs.set i v) := by
  refine ⟨fun j u hu => ?_, fun j hj => ?_⟩
  · rw [Nat.zero_add]
    by_cases e : j = i
    · subst e
      rw [List.getElem?_set] at hu
      simp at hu
      obtain ⟨hj, rfl⟩ := hu
      exact World.cell?_setCell_same _ _ _ (h.cell (List.getElem?_eq_getElem hj))
    · rw [World.cell?_setCell_other _ _ _ _ (fun h => by injection h; first | exact e (by assumption) | exact e (by symm; assumption))]
      rw [List.getElem?_set_ne (fun h => e h.symm)] at hu
      exact h.cell hu
  · rw [List.length_set] at hj
    refine ⟨?_, by rw [World.frozen?_setCell]; exact (h.there j hj).2⟩
    obtain ⟨u, hu⟩ := Option.isSome_iff_exists.1 (h.there j hj).1
    obtain ⟨u', hu'⟩ := cell?_setCell_some (p := ⟨b, i, none⟩) (x := v) hu
    rw [hu']; rfl
theorem Arr.other {W : World} {b b' : Nat} {cs : List Value} (h : Arr W b cs) (hne : b ≠ b') (i : Nat) (v : Value) : Arr (W.setCell ⟨b', i, none⟩ v) b cs := by
  refine ⟨fun j u hu => ?_, fun j hj => ⟨?_, by rw [World.frozen?_setCell]; exact (h.there j hj).2⟩⟩
  · rw [World.cell?_setCell_other _ _ _ _ (fun h => by injection h; first | exact hne (by assumption) | exact hne (by symm; assumption))]; exact h.at_ j u hu
  · rw [World.cell?_setCell_other _ _ _ _ (fun h => by injection h; first | exact hne (by assumption) | exact hne (by symm; assumption))]; exact (h.there j hj).1
theorem Arr.lt {W : World} {b : Nat} {cs : List Value} (h : Arr W b cs) (hl : 0 < cs.length) : b < W.heap.size := by
  obtain ⟨u, hu⟩ := Option.isSome_iff_exists.1 (h.there 0 hl).1
  exact World.block_lt_of_cell? W _ hu
theorem Arr.stored {W : World} {b : Nat} {cs cs' : List Value} (h : Arr W b cs) (hl : cs'.length = cs.length) : Arr (W.setCells b 0 cs') b cs' :=
  ⟨World.rangeAt_setCells_same W b 0 cs' (by rw [hl]; exact h.there), World.there_setCells (by rw [hl]; exact h.there) b 0 cs'⟩
theorem one_cells8 (l : List UInt8) : ∀ v ∈ cells8 l, v.oneCell' = true := by intro v hv; obtain ⟨x, _, rfl⟩ := List.mem_map.1 hv; rfl

theorem gbelow {a b : World} {row : Option Nat} (h : Below a.heap.size a b) : a.grownBy b row := ⟨h.os, h.tape, h.output, h.size, fun i hi _ => h.block i hi⟩
theorem gtrans {a b c : World} {row : Option Nat} (h : a.grownBy b row) (k : b.grownBy c row) : a.grownBy c row :=
  ⟨k.os.trans h.os, k.tape.trans h.tape, k.output.trans h.output, Nat.le_trans h.size k.size, fun i hi hne => (k.block i (Nat.lt_of_lt_of_le hi h.size) hne).trans (h.block i hi hne)⟩
theorem wpList_world {P : Program} {ops : Array Oper} {rest : List Oper} {a : Act} {w : World} {Q : Exit → Act → World → Prop} (X : World → Prop) (hX : X w) (h : ∀ W, X W → wpList P ops Q rest a W) : wpList P ops Q rest a w := h w hX
theorem below_grow {B : Nat} {w W W' : World} {row : Option Nat} (h : Below B w W) (hg : W.grownBy W' row) (hr : ∀ k, row = some k → B ≤ k) (hB : B ≤ W.heap.size) : Below B w W' :=
  ⟨hg.os.trans h.os, hg.tape.trans h.tape, hg.output.trans h.output, Nat.le_trans h.size hg.size, fun i hi => (hg.block i (by omega) (fun e => by have := hr i e.symm; omega)).trans (h.block i hi)⟩
theorem Arr.others {b b' : Nat} {cs : List Value} (hne : b ≠ b') : ∀ (vs : List Value) (o : Nat) (W : World), Arr W b cs → Arr (W.setCells b' o vs) b cs
  | [], _, _, h => h
  | v :: r, o, W, h => by
    rw [World.setCells]
    exact Arr.others hne r (o + 1) _ (h.other hne o v)
theorem store_new2 {P : Program} {ops : Array Oper} {rest : List Oper} {op : Oper} {a : Act} {w w0 : World} {Q : Exit → Act → World → Prop} (hgd : op.guard = none) (ty : TypeId) (x y : Operand) (ho : op.op = .store ty x y)
    (B b : Nat) (cs old : List Value) (hx : a.eval x = .pointer (some ⟨b, 0, none⟩)) (hy : a.eval y = .agg cs.toArray) (hB : Below B w0 w) (hb : B ≤ b) (ht : Arr w b old) (hl : cs.length = old.length)
    (hi : (P.info? ty).map (·.size) = some cs.length) (h1 : ∀ v ∈ cs, v.oneCell' = true)
    (h : ∀ W, Below B w0 W → Arr W b cs → (∀ b' cs', b' ≠ b → Arr w b' cs' → Arr W b' cs') → w.heap.size ≤ W.heap.size → wpList P ops Q rest (a.put op.dst undef) W) : wpList P ops Q (op :: rest) a w := by
  refine wpList_store_mid hgd ty x y ho b 0 cs.toArray hx hy (by rw [List.size_toArray, hl]; exact ht.there) (by simpa using hi) (all_oneCell_toArray h1) ?_
  exact h _ (below_setCells hb _ _ _ hB) (ht.stored hl) (fun b' cs' hne h' => h'.others hne _ _ _) (below_setCells (B := 0) (Nat.zero_le _) cs.toArray.toList 0 w (Below.refl 0 w)).size
theorem calls_world {P : Program} {f : FuncId} {args : Array Value} {w : World} {R : Ending → World → Prop} (X : World → Prop) (hX : X w) (h : ∀ W, X W → Calls P f args W R) : Calls P f args w R := h w hX
theorem grown_setCell {W : World} {b : Nat} (i : Nat) (v : Value) : W.grownBy (W.setCell ⟨b, i, none⟩ v) (some b) :=
  ⟨rfl, rfl, rfl, by simp [World.setCell], fun k _ hne => Below.heap_setCell _ _ _ _ (by first | exact fun e => hne (congrArg some e) | exact fun e => hne (congrArg some e.symm))⟩
theorem grown_setCells {b : Nat} : ∀ (vs : List Value) (o : Nat) (W : World), W.grownBy (W.setCells b o vs) (some b)
  | [], _, _ => ⟨rfl, rfl, rfl, Nat.le_refl _, fun _ _ _ => rfl⟩
  | v :: r, o, W => by
    rw [World.setCells]
    exact gtrans (grown_setCell o v) (grown_setCells r (o + 1) _)
theorem Arr.moved {W W' : World} {r : Option Nat} {b : Nat} {cs : List Value} (h : Arr W b cs) (hG : W.grownBy W' r) (hlt : b < W.heap.size) (hne : some b ≠ r) : Arr W' b cs :=
  ⟨fun j v hv => (World.cell?_of_block (a := ⟨b, 0 + j, none⟩) (hG.block b hlt hne)).trans (h.at_ j v hv),
    fun j hj => ⟨by rw [World.cell?_of_block (a := ⟨b, 0 + j, none⟩) (hG.block b hlt hne)]; exact (h.there j hj).1, by rw [World.frozen?_of_block (a := ⟨b, 0 + j, none⟩) (hG.block b hlt hne)]; exact (h.there j hj).2⟩⟩
theorem rng_moved {W W' : World} {r : Option Nat} {b o : Nat} {cs : List Value} (h : W.rangeAt b o cs) (hG : W.grownBy W' r) (hlt : b < W.heap.size) (hne : some b ≠ r) : W'.rangeAt b o cs :=
  fun j v hv => (World.cell?_of_block (a := ⟨b, o + j, none⟩) (hG.block b hlt hne)).trans (h j v hv)
theorem own_moved {W W' : World} {r : Option Nat} {B e size n m c g : Nat} {xs : List Value} (h : W.ownsRow B e size (.slice (some ⟨g, 0, none⟩) m c) n xs) (hG : W.grownBy W' r) (hne : some g ≠ r) : W'.ownsRow B e size (.slice (some ⟨g, 0, none⟩) m c) n xs :=
  World.ownsRow.kept h hG (.inr (by simpa [Value.ownBlock] using hne))
theorem Kept.moved {W0 W W' : World} {r : Option Nat} (h : Kept W0 W) (hG : W.grownBy W' r) (hr : ∀ k, r = some k → W0.heap.size ≤ k) : Kept W0 W' := below_grow h hG hr h.size
/-- A whole array goes into a block of the call's own: the world behind it is a letter. -/
theorem store_new {P : Program} {ops : Array Oper} {rest : List Oper} {op : Oper} {a : Act} {w w0 : World} {Q : Exit → Act → World → Prop} (hgd : op.guard = none) (ty : TypeId) (x y : Operand) (ho : op.op = .store ty x y)
    (B b : Nat) (cs old : List Value) (hx : a.eval x = .pointer (some ⟨b, 0, none⟩)) (hy : a.eval y = .agg cs.toArray) (hB : Below B w0 w) (hb : B ≤ b) (ht : Arr w b old) (hl : cs.length = old.length)
    (hi : (P.info? ty).map (·.size) = some cs.length) (h1 : ∀ v ∈ cs, v.oneCell' = true) (h : ∀ W, Below B w0 W → Arr W b cs → w.heap.size ≤ W.heap.size → wpList P ops Q rest (a.put op.dst undef) W) : wpList P ops Q (op :: rest) a w := by
  refine wpList_store_mid hgd ty x y ho b 0 cs.toArray hx hy (by rw [List.size_toArray, hl]; exact ht.there) (by simpa using hi) (all_oneCell_toArray h1) ?_
  exact h _ (below_setCells hb _ _ _ hB) (ht.stored hl) (below_setCells (B := 0) (Nat.zero_le _) cs.toArray.toList 0 w (Below.refl 0 w)).size
theorem results_cell_mid {P : Program} {fn : Func} {p : Tmp} {ty : TypeId} (h : fn.results = #[.cell p ty]) (tmps : Array Value) (w : World) (b : Nat) (cs : List Value) (d : TypeDesc)
    (hp : tmps.getD p undef = .pointer (some ⟨b, 0, none⟩)) (hc : w.rangeAt b 0 cs)
    (hu : P.underlying ty = some d) (hd : d.isRow = true) (hi : (P.info? ty).map (·.size) = some cs.length) :
    (results fn tmps).run P w = .ok (.agg cs.toArray) w := by
  have hp' : tmps[p]?.getD undef = .pointer (some ⟨b, 0, none⟩) := by simpa using hp
  simp [results, h, hp', asAddr, run_loadVar_mid w b 0 ty cs d hc hu hd hi]
theorem Arr.own {W W' : World} {b : Nat} {cs : List Value} {row : Option Nat} (h : Arr W b cs) (hg : W.grownBy W' row) (hr : ∀ r, row = some r → ∃ o : Obj, W.heap[r]? = some o ∧ o.isCells = false) : Arr W' b cs :=
  ⟨fun j v hv => cell_kept (h.at_ j v hv) hg hr, fun i hi => ⟨by
    rw [cell_kept (h.at_ i cs[i] (List.getElem?_eq_getElem hi)) hg hr]; exact rfl, (frozen_kept (h.at_ i cs[i] (List.getElem?_eq_getElem hi)) hg hr).trans (h.there i hi).2⟩⟩
theorem own_keep {W W' : World} {B e size n : Nat} {v : Value} {xs : List Value} (h : W.ownsRow B e size v n xs) (hb : Below W.heap.size W W') : W'.ownsRow B e size v n xs := by
  refine World.ownsRow.kept h (gbelow (row := none) hb) ?_
  cases hv : v.ownBlock with
  | none => exact .inl rfl
  | some k => exact .inr (by simp)
theorem own_after {W W' : World} {B e size n : Nat} {v : Value} {xs : List Value} (hb : Below W.heap.size W W') (h : W.ownsRow B e size v n xs) : W'.ownsRow B e size v n xs := own_keep h hb
theorem own_base {W : World} {B B' e size n : Nat} {v : Value} {xs : List Value} (h : W.ownsRow B e size v n xs) (hb : B' ≤ B) : W.ownsRow B' e size v n xs := by
  refine ⟨h.1, ?_⟩
  rcases h.2 with h1 | ⟨g, cap, cur, h1, h2, h3⟩
  · exact .inl h1
  · exact .inr ⟨g, cap, cur, h1, Nat.le_trans hb h2, h3⟩
/-- A row of one's own, behind a change of another block. -/
theorem own_grown {W W' : World} {B e size n : Nat} {v : Value} {xs : List Value} {r : Option Nat} (h : W.ownsRow B e size v n xs) (hG : W.grownBy W' r) (hr : ∀ k, r = some k → k < B) : W'.ownsRow B e size v n xs :=
  h.kept hG (by
    cases hv : v.ownBlock with
    | none => exact .inl rfl
    | some g =>
      refine .inr fun e => ?_
      have h1 := (h.lt g hv).1
      have h2 := hr g e.symm
      omega)
theorem own_own {W W' : World} {B e size n : Nat} {v : Value} {xs : List Value} {row : Option Nat} (h : W.ownsRow B e size v n xs) (hg : W.grownBy W' row) (hr : ∀ r, row = some r → ∃ o : Obj, W.heap[r]? = some o ∧ o.isCells = false) : W'.ownsRow B e size v n xs :=
  h.kept hg (by
    rcases h.2 with ⟨rfl, _⟩ | ⟨g, cap, cur, rfl, _, h5, _⟩
    · exact .inl rfl
    · refine .inr fun e => ?_
      obtain ⟨o, h1, h2⟩ := hr g e.symm
      rw [h5] at h1
      cases h1
      cases h2)
theorem own_head {W : World} {B e size n : Nat} {v : Value} {xs : List Value} (h : W.ownsRow B e size v n xs) (hn : 0 < n) : ∃ g p, v = .slice (some ⟨g, 0, none⟩) n p := by
  rcases h.2 with ⟨_, h1⟩ | ⟨g, cap, cur, h1, _⟩
  · omega
  · exact ⟨g, cap, h1⟩

theorem wpIn_round_of_wp {n lp : Nat} {P : Program} {o : Oper} {a : Act} {w : World} {next : Act → World → Prop} {Q : Exit → Act → World → Prop} (hnd : ∀ c, o.op ≠ .defer c) (h : o.wp P a w next Q) : o.wpIn (Fence.wide.inRound lp) n P a w next Q := by
  unfold Oper.wp at h
  refine ⟨fun _ _ => trivial, ?_⟩
  rw [Oper.semAt_plain _ _ _ hnd]
  generalize (execOp a.eval o).run P w = r at h ⊢
  cases r with
  | ok x w' =>
    cases x with
    | value v => exact h
    | skip => exact h
    | defer d => exact h
    | enter f args => exact ⟨fun hd => by simp [Fence.wide, Fence.inRound] at hd, (callsIn_wide (n := n - 1)).2 h⟩
    | row row args => exact ⟨fun hd => by simp [Fence.wide, Fence.inRound] at hd, fun c cs _ => by
        obtain ⟨v, w'', h1, h2⟩ := h c cs
        exact ⟨v, w'', h1, stepsIn_wide.2 h2⟩⟩
    | round => exact h.elim
    | _ => exact h
  | halt x w' => cases x <;> exact h
theorem wpAnyIn_of_held {n lp : Nat} {P : Program} {md : Region.Mode} {ops : Array Oper} {Q : Exit → Act → World → Prop} {S : World → Prop} (hlo : ¬ LetsOut Q) (hnd : ∀ (i : Nat) (o : Oper), ops[i]? = some o → ∀ c, o.op ≠ .defer c) : ∀ (fuel : Nat) (listed : Array Bool) (a : Act) (w : World),
    wpAnyH P md ops Q S fuel listed a w → wpAnyIn (Fence.wide.inRound lp) n P md ops Q fuel listed a w
  | 0, _, _, _, h => h
  | fuel + 1, listed, a, w, h => by
    refine ⟨h.1, fun i hi => ?_⟩
    have h2 := h.2 i hi
    unfold wpOpIn
    unfold wpOp at h2
    cases ho : ops[i]? with
    | none => rw [ho] at h2; exact wpAnyIn_of_held hlo hnd fuel _ _ _ h2.2
    | some o =>
      rw [ho] at h2
      dsimp only at h2 ⊢
      split
      · rename_i hw
        rw [if_pos hw] at h2
        exact wpIn_round_of_wp (hnd i o ho) (Oper.wp_mono (fun a w h => wpAnyIn_of_held hlo hnd fuel _ _ _ h.2) (h2.resolve_right fun h3 => hlo h3.2))
      · rename_i hw
        rw [if_neg hw] at h2
        exact ⟨fun _ _ => trivial, wpAnyIn_of_held hlo hnd fuel _ _ _ h2.2⟩
/-- What a region leaves, where nothing else comes of it. -/
def Ends (K : Act → World → Prop) : Exit → Act → World → Prop
  | .normal, a, w => K a w
  | _, _, _ => False
theorem ends_out {K : Act → World → Prop} : ¬ LetsOut (Ends K) := fun ⟨_, _, h⟩ => h
def noDefers (ops : List Oper) : Bool := ops.all fun o => match o.op with
  | .defer _ => false
  | _ => true
theorem noDefers_spec {ops : List Oper} (h : noDefers ops = true) (i : Nat) (o : Oper) (hi : ops.toArray[i]? = some o) (c) : o.op ≠ .defer c := by
  intro e
  have hm : o ∈ ops := by
    have : o ∈ ops.toArray := Array.mem_of_getElem? hi
    simpa using this
  have := List.all_eq_true.1 h o hm
  rw [e] at this
  cases this
/-- A region that draws, in a round: what the walk outside of rounds shows of it. -/
theorem wpIn_region_round {n id lp : Nat} {P : Program} {a : Act} {w : World} {l : List Oper} {Q : Exit → Act → World → Prop} (S : World → Prop) (hm : P.follows .mixedOrders = true) (hd : noDefers l = true) (hS : S w.drew)
    (h : ∀ K : Act → World → Prop, (∀ a' w', Q .normal a' w' → K a' w') → S w.drew → wpAnyH P .any l.toArray (Ends K) S l.toArray.size (Array.replicate l.toArray.size false) a w.drew) : (Code.region id l.toArray true).wpIn (Fence.wide.inRound lp) n P Q a w := by
  refine wpIn_mono (Q := Ends fun a' w' => Q .normal a' w') (wpIn_region_any hm (wpAnyIn_of_held ends_out (noDefers_spec hd) _ _ _ _ (h _ (fun _ _ h => h) hS))) ?_
  intro e a' w' h
  cases e <;> first | exact h | exact h.elim

/-- Nothing that lay in W has changed in W' but the blocks of ls. -/
structure Obk (ls : List Nat) (W W' : World) : Prop where
  os : W'.os = W.os
  tape : W'.tape = W.tape
  output : W'.output = W.output
  size : W.heap.size ≤ W'.heap.size
  block : ∀ i, i < W.heap.size → i ∉ ls → W'.heap[i]? = W.heap[i]?
section
variable {ls : List Nat} {W W' W'' : World}
theorem Obk.refl (ls : List Nat) (W : World) : Obk ls W W := ⟨rfl, rfl, rfl, Nat.le_refl _, fun _ _ _ => rfl⟩
theorem Obk.trans (h : Obk ls W W') (k : Obk ls W' W'') : Obk ls W W'' :=
  ⟨k.os.trans h.os, k.tape.trans h.tape, k.output.trans h.output, Nat.le_trans h.size k.size, fun i hi hn => (k.block i (Nat.lt_of_lt_of_le hi h.size) hn).trans (h.block i hi hn)⟩
theorem Obk.of (h : Below W.heap.size W W') : Obk ls W W' := ⟨h.os, h.tape, h.output, h.size, fun i hi _ => h.block i hi⟩
theorem Obk.next (h : Obk ls W W') (k : Below W'.heap.size W' W'') : Obk ls W W'' := h.trans (.of k)
theorem Obk.drew (h : Obk ls W W') : Obk ls W W'.drew := ⟨h.os, h.tape, h.output, h.size, h.block⟩
theorem Obk.drewN (h : Obk ls W W') (q : Nat) : Obk ls W (W'.drewN q) := ⟨h.os, h.tape, h.output, h.size, h.block⟩
theorem Obk.moved (h : Obk ls W W') {r : Option Nat} (hG : W'.grownBy W'' r) (hr : ∀ k, r = some k → k ∈ ls ∨ W.heap.size ≤ k) : Obk ls W W'' :=
  ⟨hG.os.trans h.os, hG.tape.trans h.tape, hG.output.trans h.output, Nat.le_trans h.size hG.size, fun i hi hn => (hG.block i (Nat.lt_of_lt_of_le hi h.size) fun e => by
    rcases hr i e.symm with h1 | h1
    · exact hn h1
    · omega).trans (h.block i hi hn)⟩
theorem Obk.set (h : Obk ls W W') {b : Nat} (hb : b ∈ ls) (i : Nat) (v : Value) : Obk ls W (W'.setCell ⟨b, i, none⟩ v) :=
  h.moved (grown_setCell i v) fun k e => by cases e; exact .inl hb
theorem Obk.arr (h : Obk ls W W') {b : Nat} {cs : List Value} (hA : Arr W b cs) (hlt : b < W.heap.size) (hn : b ∉ ls) : Arr W' b cs :=
  ⟨fun j v hv => (World.cell?_of_block (a := ⟨b, 0 + j, none⟩) (h.block b hlt hn)).trans (hA.at_ j v hv),
    fun j hj => ⟨by rw [World.cell?_of_block (a := ⟨b, 0 + j, none⟩) (h.block b hlt hn)]; exact (hA.there j hj).1, by rw [World.frozen?_of_block (a := ⟨b, 0 + j, none⟩) (h.block b hlt hn)]; exact (hA.there j hj).2⟩⟩
theorem Obk.rng (h : Obk ls W W') {b o : Nat} {cs : List Value} (hr : W.rangeAt b o cs) (hlt : b < W.heap.size) (hn : b ∉ ls) : W'.rangeAt b o cs :=
  fun j v hv => (World.cell?_of_block (a := ⟨b, o + j, none⟩) (h.block b hlt hn)).trans (hr j v hv)
theorem Obk.cell (h : Obk ls W W') {p : Addr} (hlt : p.block < W.heap.size) (hn : p.block ∉ ls) : W'.cell? p = W.cell? p := World.cell?_of_block (h.block p.block hlt hn)
theorem Obk.below (h : Obk ls W W') {B : Nat} (hB : B ≤ W.heap.size) (hl : ∀ x ∈ ls, B ≤ x) : Below B W W' :=
  ⟨h.os, h.tape, h.output, h.size, fun i hi => h.block i (by omega) fun hm => by have := hl i hm; omega⟩
theorem Obk.keeps (h : Obk ls W W') {B : Nat} (hl : ∀ x ∈ ls, x < B) : KeepsFrom B W W' :=
  ⟨h.size, fun k _ hk ho _ => (h.block k (Array.getElem?_eq_some_iff.1 ho).1 fun hm => by have := hl k hm; omega).trans ho⟩
end
/-- A region that draws and does not panic, outside of rounds. -/
theorem wp_region_ends {id : Nat} {P : Program} {a : Act} {w : World} {l : List Oper} {Q : Exit → Act → World → Prop} (S : World → Prop) (hm : P.follows .mixedOrders = true) (hS : S w.drew)
    (h : ∀ K : Act → World → Prop, (∀ a' w', Q .normal a' w' → K a' w') → S w.drew → wpAnyH P .any l.toArray (Ends K) S l.toArray.size (Array.replicate l.toArray.size false) a w.drew) : (Code.region id l.toArray true).wp P Q a w := by
  refine Code.wp_mono (Q := Ends fun a' w' => Q .normal a' w') ?_ (wp_region_held_drew (S := S) hm hS (h _ fun _ _ h => h))
  intro e a' w' h
  cases e <;> first | exact h | exact h.elim
/-- Results: an array in a block, and a variable. -/
theorem results_cell_tmp {P : Program} {fn : Func} {p t : Tmp} {ty : TypeId} (h : fn.results = #[.cell p ty, .tmp t]) (tmps : Array Value) (w : World) (b : Nat) (cs : List Value) (d : TypeDesc) (v : Value)
    (hp : tmps.getD p undef = .pointer (some ⟨b, 0, none⟩)) (hv : tmps.getD t undef = v) (hc : w.rangeAt b 0 cs)
    (hu : P.underlying ty = some d) (hd : d.isRow = true) (hi : (P.info? ty).map (·.size) = some cs.length) :
    (results fn tmps).run P w = .ok (.tuple #[.agg cs.toArray, v]) w := by
  have hp' : tmps[p]?.getD undef = .pointer (some ⟨b, 0, none⟩) := by simpa using hp
  have hv' : tmps[t]?.getD undef = v := by simpa using hv
  simp [results, h, hp', hv', asAddr, run_loadVar_mid w b 0 ty cs d hc hu hd hi]
/-- An array stored over another one. -/
theorem store_grown {P : Program} {ops : Array Oper} {rest : List Oper} {op : Oper} {a : Act} {w : World} {Q : Exit → Act → World → Prop} (hgd : op.guard = none) (ty : TypeId) (x y : Operand) (ho : op.op = .store ty x y)
    (b : Nat) (cs old : List Value) (hx : a.eval x = .pointer (some ⟨b, 0, none⟩)) (hy : a.eval y = .agg cs.toArray) (ht : Arr w b old) (hl : cs.length = old.length)
    (hi : (P.info? ty).map (·.size) = some cs.length) (h1 : ∀ v ∈ cs, v.oneCell' = true) (h : ∀ W, w.grownBy W (some b) → Arr W b cs → wpList P ops Q rest (a.put op.dst undef) W) : wpList P ops Q (op :: rest) a w := by
  refine wpList_store_mid hgd ty x y ho b 0 cs.toArray hx hy (by rw [List.size_toArray, hl]; exact ht.there) (by simpa using hi) (all_oneCell_toArray h1) ?_
  exact h _ (grown_setCells _ _ _) (ht.stored hl)
/-- What a row shows behind a call that has put its deferred calls away. -/
theorem heap_grown_other {W W' : World} {b D : Nat} {o : Obj} (hG : W.grownBy W' (some b)) (hne : D ≠ b) (h : W.heap[D]? = some o) : W'.heap[D]? = some o :=
  (hG.block D (Array.getElem?_eq_some_iff.1 h).1 (by simpa using hne)).trans h
end Go.Proofs.YtilkhamlhbbmgaaDoor
