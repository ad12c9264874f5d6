/- Loops over a function whose values come in their turn. -/
import Derived.Test.YtilkhamlhbbmgaaDoorRkd
namespace Go.Proofs.YtilkhamlhbbmgaaDoor
open Go.RowKit

/-- The function yields the values 'vals 0' to 'vals (N - 1)' in their turn, and then ends, or panics with the value that 'ok' names. It leans on what 'Kp k' says of the world before its round k. -/
def InTurnK (n : Nat) (P : Program) (g : Nat) (lb : Array Value) (vals : Nat → Array Value) (N : Nat) (ok : Option Value) (Kp : Nat → World → Prop) (w : World) : Prop :=
  ∀ (l : Nat) (J : Nat → World → Prop) (Jx : Unit → World → Prop) (W : World), Below w.heap.size w W → AbidesFrom W.heap.size J → AbidesFrom W.heap.size Jx → (∀ k W1, J k W1 → Kp k W1) →
    (∀ k W1, k < N → J k W1 → YieldAt Fence.wide (n - 1) P l (vals k) W1 fun e W' => (e = .returned (.bool true) ∧ J (k + 1) W') ∨ (e = .returned (.bool false) ∧ Jx () W')) →
    J 0 W → CallsIn Fence.wide n P g (#[.func (.yield l) #[] #[]] ++ lb) W fun e W' => ((∃ v, e = .returned v) ∧ ((ok = none ∧ J N W') ∨ Jx () W')) ∨ (∃ pv, ok = some pv ∧ e = .panicked [{ v := pv, recovered := false }] ∧ J N W')

section
variable {n : Nat} {P : Program}

/-- How a round may end. -/
abbrev turnPost (B : Nat) (I : World → Prop) (Ix : Code → World → Prop) (W : World) : Exit → Act → World → Prop :=
  ownPostG (α := Unit) B (fun _ _ => True) (fun _ => I) (fun c _ => Ix c) [] W

/-- The record of a loop, as this file writes it. -/
def loopRec (fn : FuncId) (a : Act) (ps : Array Tmp) (assign body : Code) (D : Nat) (s : LoopState) (j : Option Code) : Go.Loop :=
  { state := s, pending := j, fn, tmps := a.tmps, params := ps, assign, body, defers := D }
/-- What lies in a loop's two blocks. -/
structure LoopAt (W : World) (B : Nat) (r : Go.Loop) : Prop where
  row : W.heap[B + 1]? = some (.loop r)
  calls : W.heap[B]? = some (.deferred (some []))
theorem LoopAt.lt {W : World} {B : Nat} {r : Go.Loop} (h : LoopAt W B r) : B + 1 < W.heap.size := (Array.getElem?_eq_some_iff.1 h.row).1
theorem LoopAt.grown {W W' : World} {B : Nat} {r : Go.Loop} {row : Option Nat} (h : LoopAt W B r) (hg : W.grownBy W' row) (hr : ∀ r, row = some r → ∃ o : Obj, W.heap[r]? = some o ∧ o.isWalk = true) : LoopAt W' B r :=
  ⟨(grownBy_keeps hg hr h.row rfl).trans h.row, (grownBy_keeps hg hr h.calls rfl).trans h.calls⟩
theorem LoopAt.keeps {W W' : World} {B : Nat} {r : Go.Loop} (h : LoopAt W B r) (hk : KeepsFrom B W W') : LoopAt W' B r :=
  ⟨hk.same _ _ (by omega) h.row rfl, hk.same _ _ (Nat.le_refl _) h.calls rfl⟩
theorem LoopAt.put {W : World} {B : Nat} {r : Go.Loop} (h : LoopAt W B r) (r' : Go.Loop) : LoopAt (W.putObj (B + 1) (.loop r')) B r' :=
  ⟨World.putObj_heap_same h.lt, (World.putObj_heap_other (by omega)).trans h.calls⟩

theorem range_in_turn_k {g : Operand} {ps : Array Tmp} {assign body : Code} {Q : Exit → Act → World → Prop} {a : Act} {w : World} {gf : Nat} {lb : Array Value} (hg : a.eval g = .func (.func gf) #[] lb)
    (eg : ∀ args w, (callFunc gf args).run P w = .ok (.enter gf args) w) {vals : Nat → Array Value} {N : Nat} {ok : Option Value} {w0 : World} {Kp : Nat → World → Prop} (hseq : InTurnK (n - 1) P gf lb vals N ok Kp w0) (hb0 : Below w0.heap.size w0 w) (hps : ∀ k, (vals k).size = ps.size)
    (I : Nat → World → Prop) (Ix : Code → World → Prop) (hI : OwnFrom w.heap.size I) (hIx : OwnFrom w.heap.size Ix) (hKp : ∀ k W, I k W → Kp k W) (h0 : I 0 w) (Ax : Nat → Act → World → Prop) (hAx : ∀ k a', OwnFrom w.heap.size (fun (_ : Unit) W => Ax k a' W))
    (hassign : ∀ (lp k : Nat) (W : World) (K : Act → World → Prop), k < N → I k W → (∀ a' W', KeepsFrom w.heap.size W W' → I k W' → Ax k a' W' → K a' W') →
      assign.wpIn (Fence.wide.inRound lp) (n - 1 - 1) P (Exit.then K (fun _ _ _ => False)) { tmps := (ps.zip (vals k)).foldl (fun t (p, v) => t.setIfInBounds p v) a.tmps, defers := [] } W)
    (hbody : ∀ (lp k : Nat) (a' : Act) (W : World), k < N → I k W → Ax k a' W → w.heap.size < W.heap.size → body.wpIn (Fence.wide.inRound lp) (n - 1 - 1) P (turnPost w.heap.size (I (k + 1)) Ix W) a' W)
    (hdone : ∀ (D : Nat) (W : World), ok = none → w.heap.size ≤ D → I N W → W.heap[D]? = some (.deferred (some [])) → Q .normal { a with defers := { target := .collected D, args := #[] } :: a.defers } W)
    (hstop : ∀ (D : Nat) (c : Code) (W : World), w.heap.size ≤ D → Ix c W → W.heap[D]? = some (.deferred (some [])) → c.wpIn Fence.wide n P Q { a with defers := { target := .collected D, args := #[] } :: a.defers } W)
    (hpanic : ∀ (D : Nat) (pv : Value) (W : World), ok = some pv → w.heap.size ≤ D → I N W → W.heap[D]? = some (.deferred (some [])) → Q (.panic [{ v := pv, recovered := false }]) { a with defers := { target := .collected D, args := #[] } :: a.defers } W) :
    (Code.rangeFunc g ps assign body).wpIn Fence.wide n P Q a w := by
  refine wpIn_rangeFunc fun fn hfn => ?_
  obtain ⟨rec, hrec⟩ : ∃ rec, loopRec fn a ps assign body w.heap.size = rec := ⟨_, rfl⟩
  obtain ⟨W1, hW1⟩ : ∃ W1, (w.alloc (.deferred (some []))).alloc (.loop (rec .ready none)) = W1 := ⟨_, rfl⟩
  have hbw : Below w.heap.size w W1 := by rw [← hW1]; exact ((Below.refl _ w).alloc (Nat.le_refl _) _).alloc (by simp) _
  have hL1 : LoopAt W1 w.heap.size (rec .ready none) := by
    rw [← hW1]
    have h := World.alloc_heap_new (w.alloc (.deferred (some []))) (.loop (rec .ready none))
    rw [World.size_alloc] at h
    exact ⟨h, (Below.heap_alloc _ _ _ (by simp)).trans (World.alloc_heap_new w _)⟩
  have hI1 : I 0 W1 := by rw [← hW1]; exact hI.alloc _ (hI.alloc _ h0)
  have hwk : ∀ {A : World} {row : Option Nat}, (∀ r, row = some r → W1.heap.size ≤ r ∧ ∃ o : Obj, A.heap[r]? = some o ∧ o.isWalk = true) → (∀ r, row = some r → w.heap.size ≤ r ∧ ∃ o : Obj, A.heap[r]? = some o ∧ o.isCells = false) :=
    fun hr r e => by obtain ⟨hB, o, ho, hw⟩ := hr r e; exact ⟨Nat.le_trans hbw.size hB, o, ho, Obj.not_cells_of_walk hw⟩
  refine ⟨w.heap.size + 1, [{ target := .collected w.heap.size, args := #[] }], W1, { target := .fn (.func gf) lb, args := #[.func (.yield (w.heap.size + 1)) #[] #[]] }, W1, gf, #[.func (.yield (w.heap.size + 1)) #[] #[]] ++ lb, W1, ?_, ?_, fun _ _ => trivial, ?_, fun hd => ?_, ?_⟩
  · rw [← hW1, ← hrec]; exact run_enterLoop_outer _ _ _ _ _
  · simp only [resolve, hg]
    simp [go_sem]
  · simp [invoke, go_sem, eg]
  · simp [Fence.wide] at hd
  refine (hseq (w.heap.size + 1) (fun k W => I k W ∧ LoopAt W w.heap.size (rec .ready none)) (fun _ W => ∃ c, Ix c W ∧ LoopAt W w.heap.size (rec .done (some c))) W1 (hb0.trans (hbw.mono hb0.size))
    (fun s A B row hs hg' hr => ⟨hI s A B row hs.1 hg' (hwk hr), hs.2.grown hg' fun r e => (hr r e).2⟩)
    (fun s A B row hs hg' hr => by obtain ⟨c, hc, hl⟩ := hs; exact ⟨c, hIx c A B row hc hg' (hwk hr), hl.grown hg' fun r e => (hr r e).2⟩) (fun k W h => hKp k W h.1) ?_ ⟨hI1, hL1⟩).mono ?_
  · rintro k W hk ⟨hi, hl⟩
    have hy := run_yield (P := P) (args := vals k) hl.row (by rw [← hrec]; exact hps k)
    rw [← hrec] at hy
    refine ⟨fn, _, assign, body, hy, roundIn_of_wpIn hfn (hassign _ k W _ hk hi ?_)⟩
    clear hy
    intro a' W2 hk2 hi2 ha2
    have hl2 := hl.keeps hk2
    refine ⟨_, run_beginRound hl2.row (by rw [← hrec]; rfl), ?_⟩
    have hl3 := hl2.put { rec .ready none with state := .busy }
    refine wpIn_mono (hbody _ k a' _ hk (hI.putObj _ hi2 (by omega) hl2.row rfl) ((hAx k a').putObj (s := ()) _ ha2 (by omega) hl2.row rfl) (Nat.lt_of_succ_lt hl3.lt)) ?_
    have fin : ∀ (j : Option Code) (W4 : World), KeepsFrom w.heap.size (W2.putObj (w.heap.size + 1) (.loop { rec .ready none with state := .busy })) W4 →
        (Instr.endRound (w.heap.size + 1) j).run P W4 = .ok (.bool j.isNone) (W4.putObj (w.heap.size + 1) (.loop (rec (if j.isNone then .ready else .done) j))) ∧ LoopAt W4 w.heap.size { rec .ready none with state := .busy } ∧
        LoopAt (W4.putObj (w.heap.size + 1) (.loop (rec (if j.isNone then .ready else .done) j))) w.heap.size (rec (if j.isNone then .ready else .done) j) := fun j W4 hk4 => by
      have hl4 := hl3.keeps hk4
      have he := run_endRound (P := P) j hl4.row
      rw [← hrec] at he hl4 ⊢
      exact ⟨he, hl4, hl4.put _⟩
    rintro e a4 W4 hp
    cases e with
    | normal =>
      obtain ⟨hk4, _, hi4⟩ := hp
      obtain ⟨hr, hl4, hl5⟩ := fin none W4 hk4
      exact ⟨_, _, hr, .inl ⟨rfl, hI.putObj _ hi4 (by omega) hl4.row rfl, hl5⟩⟩
    | ret =>
      obtain ⟨hk4, hi4⟩ := hp
      obtain ⟨hr, hl4, hl5⟩ := fin (some .ret) W4 hk4
      exact ⟨_, _, hr, .inr ⟨rfl, .ret, hIx.putObj _ hi4 (by omega) hl4.row rfl, hl5⟩⟩
    | exit id =>
      obtain ⟨hk4, hi4⟩ := hp
      obtain ⟨hr, hl4, hl5⟩ := fin (some (.exit id)) W4 hk4
      exact ⟨_, _, hr, .inr ⟨rfl, .exit id, hIx.putObj _ hi4 (by omega) hl4.row rfl, hl5⟩⟩
    | goto t =>
      obtain ⟨hk4, hi4⟩ := hp
      obtain ⟨hr, hl4, hl5⟩ := fin (some (.goto t)) W4 hk4
      exact ⟨_, _, hr, .inr ⟨rfl, .goto t, hIx.putObj _ hi4 (by omega) hl4.row rfl, hl5⟩⟩
    | panic ch => exact hp.elim
    | outgrown => exact hp.elim
  · rintro e W2 (⟨⟨v, rfl⟩, (⟨hok, hi, hl⟩ | ⟨c, hi, hl⟩)⟩ | ⟨pv, hok, rfl, hi, hl⟩)
    · have he := run_endLoop (P := P) hl.row (by rw [← hrec]; simp [loopRec])
      rw [← hrec] at he hl
      exact ⟨none, _, he, hdone _ _ hok (Nat.le_refl _) (hI.putObj _ hi (by omega) hl.row rfl) (hl.put _).calls⟩
    · have he := run_endLoop (P := P) hl.row (by rw [← hrec]; simp [loopRec])
      rw [← hrec] at he hl
      exact ⟨some c, _, he, hstop _ c _ (Nat.le_refl _) (hIx.putObj _ hi (by omega) hl.row rfl) (hl.put _).calls⟩
    · exact hpanic _ pv _ hok (Nat.le_refl _) hi hl.calls
end
end Go.Proofs.YtilkhamlhbbmgaaDoor
