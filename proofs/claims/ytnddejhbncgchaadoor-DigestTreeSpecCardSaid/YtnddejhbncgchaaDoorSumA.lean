/- The first state; slices.Chunk's function; what it gives a loop. -/
import Derived.Test.YtnddejhbncgchaaDoorChk
import Derived.Test.YtnddejhbncgchaaDoorDig
namespace Go.Proofs.YtnddejhbncgchaaDoor
open Go.RowKit Go.Shelf

set_option maxRecDepth 100000 in
set_option maxHeartbeats 2000000 in
theorem first_any (w : World) : Calls Tryd.prog 27 #[] w fun e w' => e = .returned (.agg #[.int .u32 1779033703, .int .u32 3144134277, .int .u32 1013904242, .int .u32 2773480762, .int .u32 1359893119, .int .u32 2600822924, .int .u32 528734635, .int .u32 1541459225]) ∧ Below w.heap.size w w' := by
  go_enter Tryd.func27, Tryd.ntmps27
  go_wp2
  go_returns
  exact ⟨rfl, by go_grown⟩

set_option maxRecDepth 100000 in
set_option maxHeartbeats 2000000 in
theorem chunk_any (w : World) (a : Option Addr) (len cap : Nat) : Calls Tryd.prog 29 #[.slice a len cap, .int .i64 64] w fun e w' =>
    e = .returned (.func (.func 49) #[] #[.pointer (some ⟨w.heap.size, 0, none⟩), .pointer (some ⟨w.heap.size + 1, 0, none⟩)])
    ∧ w'.cell? ⟨w.heap.size, 0, none⟩ = some (.slice a len cap) ∧ w'.cell? ⟨w.heap.size + 1, 0, none⟩ = some (.int .i64 64) ∧ Below w.heap.size w w' ∧ w'.heap.size = w.heap.size + 2 := by
  go_enter Tryd.func29, Tryd.ntmps29
  go_wp2
  go_ret
  exact ⟨rfl, by go_cell, by go_cell, by go_grown, by simp⟩

theorem s0_lit : (#[.int .u32 1779033703, .int .u32 3144134277, .int .u32 1013904242, .int .u32 2773480762, .int .u32 1359893119, .int .u32 2600822924, .int .u32 528734635, .int .u32 1541459225] : Array Value).toList = ws s0.list := rfl
/-- Chunk number k of the bytes L. -/
def chunkAt (L : List UInt8) (k : Nat) : List UInt8 := (L.drop (64 * k)).take 64

theorem chunk_stops (n : Nat) (hn : 1 ≤ n) (Bs Bn n₀ sb db off m cap : Nat) (a : Option Addr) (ha : m = 0 ∨ a = some ⟨db, off, none⟩) (hm : 64 * m ≤ cap) (hc : cap ≤ 9223372036854775807)
    (hBs : Bs < n₀) (hBs' : Bs ≠ sb) (hBn : Bn < n₀) (hBn' : Bn ≠ sb) (w : World) (hn₀ : n₀ ≤ w.heap.size) (hs : w.cell? ⟨Bs, 0, none⟩ = some (.slice a (64 * m) cap)) (hk : w.cell? ⟨Bn, 0, none⟩ = some (.int .i64 64)) :
    SeqStopsK Fence.wide n Tryd.prog 49 #[.pointer (some ⟨Bs, 0, none⟩), .pointer (some ⟨Bn, 0, none⟩)] (fun x : Fin m => #[Value.slice (some ⟨db, off + 64 * x.1, none⟩) 64 64]) (LowBut n₀ sb) (fun ys => ys = List.finRange m) (fun _ => True) m w :=
  fun l J Jx W hW hJ _ hY h0 => by
    have hs' := (hW.cell (p := ⟨Bs, 0, none⟩) (by show Bs < _; omega)).trans hs
    have hk' := (hW.cell (p := ⟨Bn, 0, none⟩) (by show Bn < _; omega)).trans hk
    exact chunk1_in n hn l Bs Bn n₀ sb db off m cap a ha hm hc hBs hBs' hBn hBn' J Jx hY (fun pre V q h => hJ pre V (V.drewN q) none h ⟨rfl, rfl, rfl, Nat.le_refl _, fun _ _ _ => rfl⟩ (fun _ e => by cases e)) W hs' hk' h0

theorem runs_fold (s : St) (L : List UInt8) : ∀ m, runs s L m = (List.range m).foldl (fun t k => press t (chunkAt L k)) s := by
  intro m
  suffices h : ∀ m s j, runs s (L.drop (64 * j)) m = (List.range' j m).foldl (fun t k => press t (chunkAt L k)) s by
    have := h m s 0
    simpa [List.range_eq_range'] using this
  intro m
  induction m with
  | zero => intro s j; rfl
  | succ m ih =>
    intro s j
    rw [runs, List.range'_succ, List.foldl_cons, List.drop_drop, show 64 * j + 64 = 64 * (j + 1) by omega, ih]
    rfl
theorem fold_fin (s : St) (L : List UInt8) (m : Nat) : (List.finRange m).foldl (fun t (k : Fin m) => press t (chunkAt L k.1)) s = runs s L m := by
  rw [runs_fold]
  have : (List.range m) = (List.finRange m).map (·.1) := List.ext_getElem (by simp) (by intro i h1 h2; simp [List.finRange])
  rw [this, List.foldl_map]

theorem chunk_len (L : List UInt8) {k : Nat} (h : 64 * (k + 1) ≤ L.length) : (chunkAt L k).length = 64 := by simp [chunkAt]; omega
theorem BytesIn.chunk {W : World} {db off k : Nat} {L : List UInt8} (hb : BytesIn W db off L) (h : 64 * (k + 1) ≤ L.length) : BytesIn W db (off + 64 * k) (chunkAt L k) := fun i hi => by
  have hi' : i < 64 := by rw [chunk_len L h] at hi; exact hi
  rw [Nat.add_assoc, hb (64 * k + i) (by omega)]
  simp [chunkAt]
theorem Arr.same {W W' : World} {b : Nat} {cs : List Value} (h : Arr W b cs) (e : W'.heap[b]? = W.heap[b]?) : Arr W' b cs := by
  have hc : ∀ j, W'.cell? ⟨b, j, none⟩ = W.cell? ⟨b, j, none⟩ := fun j => by simp [World.cell?, e]
  have hf : ∀ j, W'.frozen? ⟨b, j, none⟩ = W.frozen? ⟨b, j, none⟩ := fun j => by simp [World.frozen?, e]
  exact ⟨fun j v hv => (hc _).trans (h.at_ j v hv), fun j hj => ⟨by rw [hc]; exact (h.there j hj).1, by rw [hf]; exact (h.there j hj).2⟩⟩

/-- What holds while chunks come: the state; what lay. -/
def Loop (w w2 : World) (sb n₀ : Nat) (L : List UInt8) (s : St) (ks : List Nat) (W : World) : Prop :=
  (Arr W sb (ws (ks.foldl (fun t k => press t (chunkAt L k)) s).list) ∧ LowBut n₀ sb w2 W) ∧ Below w.heap.size w W
theorem loop_own {w w2 : World} {sb n₀ m : Nat} {L : List UInt8} {s : St} (hsb : sb < n₀) (hn : n₀ ≤ w2.heap.size) (hw : w.heap.size ≤ w2.heap.size) : OwnFrom w2.heap.size (fun (pre : List (Fin m)) W => Loop w w2 sb n₀ L s (pre.map (·.1)) W) := by
  intro pre W W' row ⟨⟨hA, hL⟩, hB⟩ hg hr
  have hsz := hL.1
  have hne : ∀ b, b < n₀ → W'.heap[b]? = W.heap[b]? := fun b hb => hg.block b (by omega) (fun e => by have := (hr b e.symm).1; omega)
  exact ⟨⟨hA.same (hne sb hsb), Nat.le_trans hL.1 hg.size, fun b h1 h2 => (hne b h1).trans (hL.2 b h1 h2)⟩, hB.grown hg (by omega) (fun k e => by have := (hr k e).1; omega)⟩
theorem loop_step {w w2 W W' : World} {sb n₀ : Nat} {L : List UInt8} {s : St} {ks : List Nat} {k : Nat} (hsb : sb < n₀) (hws : w.heap.size ≤ sb) (hn : n₀ ≤ w2.heap.size) (h : Loop w w2 sb n₀ L s ks W)
    (hA : Arr W' sb (ws (press (ks.foldl (fun t k => press t (chunkAt L k)) s) (chunkAt L k)).list)) (hg : W.grownBy W' (some sb)) : Loop w w2 sb n₀ L s (ks ++ [k]) W' ∧ LowBut n₀ sb W W' ∧ KeepsOthers W W' := by
  obtain ⟨⟨hA0, hL⟩, hB⟩ := h
  have hsz := hL.1
  have hlow : LowBut n₀ sb W W' := ⟨hg.size, fun b h1 h2 => hg.block b (by omega) (fun e => h2 (Option.some.inj e))⟩
  refine ⟨⟨⟨?_, hL.trans hlow⟩, hB.grown hg (by omega) (fun k e => by cases e; exact hws)⟩, hlow, ?_⟩
  · rw [List.foldl_append]; exact hA
  · refine KeepsOthers.of_grownBy hg (fun j o e ho => ?_)
    cases e
    obtain ⟨v, hv⟩ := Option.isSome_iff_exists.1 (hA0.there 0 (by simp [ws, St.list])).1
    cases o with
    | cells C t fr => rfl
    | _ => simp [World.cell?, ho] at hv

theorem rest_at {W : World} {B db off cap m r : Nat} {b : List UInt8} (hb : BytesIn W db off b) (hbl : b.length = 64 * m + r) (hdb : db < B) (hcap : 64 * m + r ≤ cap) (hm : cap ≤ maxLen) :
    BytesAt W B (.slice (if cap = 64 * m then some ⟨db, off, none⟩ else some ⟨db, off + 64 * m, none⟩) r (cap - 64 * m)) (b.drop (64 * m)) := by
  have hl : (b.drop (64 * m)).length = r := by simp; omega
  refine ⟨_, _, by rw [hl], by rw [hl]; omega, by omega, ?_⟩
  by_cases h0 : r = 0
  · exact .inl (List.length_eq_zero_iff.1 (by omega))
  · refine .inr ⟨db, off + 64 * m, if_neg (by omega), hdb, fun i hi => ?_⟩
    rw [hl] at hi
    rw [Nat.add_assoc, hb (64 * m + i) (by omega)]
    simp
theorem ending_cast (w : World) (v : Value) (l : List UInt8) (size r m2 : Nat) (z : Int) (hz : z = (size : Int)) (hr : l.length = r) (hm2 : endOf r = 64 * m2) (hv : BytesAt w w.heap.size v l) (hn : r < 64) (hsz : size < 1000000000000) :
    Calls Tryd.prog 30 #[v, .int .i64 z] w fun e w' => ∃ g, e = .returned (.slice (some ⟨g, 0, none⟩) (64 * m2) 128) ∧ w.heap.size ≤ g ∧ g < w'.heap.size ∧ BytesIn w' g 0 (tailOf l size) ∧ Below w.heap.size w w' := by
  subst hz; subst hr
  rw [← hm2]
  exact ending_any w v l size hv hn hsz
/-- The padded bytes: the whole blocks, and their end. -/
theorem pad_split (b : List UInt8) (m r : Nat) (hbl : b.length = 64 * m + r) (hr : r < 64) : pad b = b.take (64 * m) ++ tailOf (b.drop (64 * m)) b.length := by
  have h1 : (b.drop (64 * m)).length % 64 = b.length % 64 := by simp; omega
  unfold pad tailOf
  rw [h1, ← List.append_assoc, List.take_append_drop]
theorem runs_add (s : St) (L : List UInt8) (a : Nat) : ∀ c, runs s L (a + c) = runs (runs s L a) (L.drop (64 * a)) c := by
  induction a generalizing s L with
  | zero => intro c; simp [runs]
  | succ a ih =>
    intro c
    rw [show a + 1 + c = (a + c) + 1 by omega, runs, runs, ih, List.drop_drop, show 64 + 64 * a = 64 * (a + 1) by omega]
theorem runs_app (L R : List UInt8) : ∀ (m : Nat) (s : St), 64 * m ≤ L.length → runs s (L ++ R) m = runs s L m
  | 0, _, _ => rfl
  | m + 1, s, h => by
    rw [runs, runs, List.take_append_of_le_length (by omega), List.drop_append_of_le_length (by omega), runs_app (L.drop 64) R m _ (by simp; omega)]
theorem sha_split (b : List UInt8) (m r m2 : Nat) (hbl : b.length = 64 * m + r) (hr : r < 64) (hm2 : endOf r = 64 * m2) :
    sha b = outs (runs (runs s0 b m) (tailOf (b.drop (64 * m)) (64 * m + r)) m2) := by
  have hd : (b.drop (64 * m)).length = r := by simp; omega
  have hp := pad_split b m r hbl hr
  have hl : (pad b).length = 64 * (m + m2) := by
    rw [hp, List.length_append, tail_len _ _ (by omega), hd, hm2, List.length_take]; omega
  have e1 : (pad b).drop (64 * m) = tailOf (b.drop (64 * m)) b.length := by rw [hp, List.drop_left' (by simp; omega)]
  have e2 : runs s0 (pad b) m = runs s0 b m := by
    have h3 : pad b = b ++ (0x80 :: (List.replicate ((119 - b.length % 64) % 64) 0 ++ be64 (8 * b.length))) := rfl
    rw [h3, runs_app b _ m s0 (by omega)]
  unfold sha outs
  rw [hl, Nat.mul_div_cancel_left _ (by omega : 0 < 64), runs_add, e1, e2, hbl]

theorem heap_setCells_other (b : Nat) {k : Nat} (hk : k ≠ b) : ∀ (vs : List Value) (o : Nat) (w : World), (w.setCells b o vs).heap[k]? = w.heap[k]?
  | [], _, _ => rfl
  | v :: r, o, w => by
    rw [World.setCells, heap_setCells_other b hk r (o + 1) _]
    exact Below.heap_setCell _ _ _ _ (by first | exact hk | exact hk.symm)
theorem store_newIn {F : Fence} {n : Nat} {P : Program} {ops : Array Oper} {rest : List Oper} {op : Oper} {a : Act} {w w0 : World} {Q : Exit → Act → World → Prop} (hgd : op.guard = none) (ty : TypeId) (x y : Operand) (ho : op.op = .store ty x y)
    (B b : Nat) (cs old : List Value) (hx : a.eval x = .pointer (some ⟨b, 0, none⟩)) (hy : a.eval y = .agg cs.toArray) (hB : Below B w0 w) (hb : B ≤ b) (ht : Arr w b old) (hl : cs.length = old.length)
    (hi : (P.info? ty).map (·.size) = some cs.length) (h1 : ∀ v ∈ cs, v.oneCell' = true) (h : ∀ W, Below B w0 W → Arr W b cs → (∀ k, k ≠ b → W.heap[k]? = w.heap[k]?) → wpListIn F n P ops Q rest (a.put op.dst undef) W) : wpListIn F n P ops Q (op :: rest) a w := by
  refine wpListIn_plain hgd fun K hK' => ?_
  have hrun := run_storeAt_mid (P := P) w b 0 ty cs.toArray (by rw [List.size_toArray, hl]; exact ht.there) (by simpa using hi) (all_oneCell_toArray h1)
  unfold Oper.wpIn
  refine ⟨?_, ?_⟩
  · simp [Oper.about, ho]
  · rw [Oper.semAt_plain F _ _ (by rw [ho]; intro c hc'; cases hc')]
    simp only [execOp, ho, hx, hy, Sem.run_bind, hrun, Result.andThen_ok, Sem.run_pure]
    exact hK' _ _ (h _ (below_setCells hb _ _ _ hB) (ht.stored hl) (fun k hk => heap_setCells_other b hk _ _ _))
end Go.Proofs.YtnddejhbncgchaaDoor
