/- A region inside a round of a loop over a function, walked as if it stood outside. -/
import Derived.Test.YtfmngeemhfpeiaaDoorRmr
import Derived.RangeFuncNested
import Derived.RangeFuncBound
import Derived.RangeFuncCalls
import Derived.RangeFuncOwn
import Derived.WalkKit
import Derived.OwnWalkIn
import Derived.TacticsInMore
import Derived.Stop.RegionWithIn
import Derived.Deep.RegionHeld
namespace Go.Proofs.YtfmngeemhfpeiaaDoor
open Go.RowKit

theorem wpIn_round_of_wp {n lp : Nat} {P : Program} {o : Oper} {a : Act} {w : World} {next : Act → World → Prop} {Q : Exit → Act → World → Prop} (hnd : ∀ c, o.op ≠ .defer c) (h : o.wp P a w next Q) : o.wpIn (Fence.wide.inRound lp) n P a w next Q := by
  unfold Oper.wp at h
  refine ⟨fun _ _ => trivial, ?_⟩
  rw [Oper.semAt_plain _ _ _ hnd]
  generalize (execOp a.eval o).run P w = r at h ⊢
  cases r with
  | ok x w' =>
    cases x with
    | value v => exact h
    | skip => exact h
    | defer d => exact h
    | enter f args => exact ⟨fun hd => by simp [Fence.wide, Fence.inRound] at hd, (callsIn_wide (n := n - 1)).2 h⟩
    | row row args => exact ⟨fun hd => by simp [Fence.wide, Fence.inRound] at hd, fun c cs _ => by
        obtain ⟨v, w'', h1, h2⟩ := h c cs
        exact ⟨v, w'', h1, stepsIn_wide.2 h2⟩⟩
    | round => exact h.elim
    | _ => exact h
  | halt x w' => cases x <;> exact h
theorem wpAnyIn_of_held {n lp : Nat} {P : Program} {md : Region.Mode} {ops : Array Oper} {Q : Exit → Act → World → Prop} {S : World → Prop} (hlo : ¬ LetsOut Q) (hnd : ∀ (i : Nat) (o : Oper), ops[i]? = some o → ∀ c, o.op ≠ .defer c) : ∀ (fuel : Nat) (listed : Array Bool) (a : Act) (w : World),
    wpAnyH P md ops Q S fuel listed a w → wpAnyIn (Fence.wide.inRound lp) n P md ops Q fuel listed a w
  | 0, _, _, _, h => h
  | fuel + 1, listed, a, w, h => by
    refine ⟨h.1, fun i hi => ?_⟩
    have h2 := h.2 i hi
    unfold wpOpIn
    unfold wpOp at h2
    cases ho : ops[i]? with
    | none => rw [ho] at h2; exact wpAnyIn_of_held hlo hnd fuel _ _ _ h2.2
    | some o =>
      rw [ho] at h2
      dsimp only at h2 ⊢
      split
      · rename_i hw
        rw [if_pos hw] at h2
        exact wpIn_round_of_wp (hnd i o ho) (Oper.wp_mono (fun a w h => wpAnyIn_of_held hlo hnd fuel _ _ _ h.2) (h2.resolve_right fun h3 => hlo h3.2))
      · rename_i hw
        rw [if_neg hw] at h2
        exact ⟨fun _ _ => trivial, wpAnyIn_of_held hlo hnd fuel _ _ _ h2.2⟩
/-- What a region leaves, where nothing else comes of it. -/
def Ends (K : Act → World → Prop) : Exit → Act → World → Prop
  | .normal, a, w => K a w
  | _, _, _ => False
theorem ends_out {K : Act → World → Prop} : ¬ LetsOut (Ends K) := fun ⟨_, _, h⟩ => h
def noDefers (ops : List Oper) : Bool := ops.all fun o => match o.op with
  | .defer _ => false
  | _ => true
theorem noDefers_spec {ops : List Oper} (h : noDefers ops = true) (i : Nat) (o : Oper) (hi : ops.toArray[i]? = some o) (c) : o.op ≠ .defer c := by
  intro e
  have hm : o ∈ ops := by
    have : o ∈ ops.toArray := Array.mem_of_getElem? hi
    simpa using this
  have := List.all_eq_true.1 h o hm
  rw [e] at this
  cases this
/-- A region that draws, in a round: what the walk outside of rounds shows of it. -/
theorem wpIn_region_round {n id lp : Nat} {P : Program} {a : Act} {w : World} {l : List Oper} {Q : Exit → Act → World → Prop} (S : World → Prop) (hm : P.follows .mixedOrders = true) (hd : noDefers l = true) (hS : S w.drew)
    (h : ∀ K : Act → World → Prop, (∀ a' w', Q .normal a' w' → K a' w') → S w.drew → wpAnyH P .any l.toArray (Ends K) S l.toArray.size (Array.replicate l.toArray.size false) a w.drew) : (Code.region id l.toArray true).wpIn (Fence.wide.inRound lp) n P Q a w := by
  refine wpIn_mono (Q := Ends fun a' w' => Q .normal a' w') (wpIn_region_any hm (wpAnyIn_of_held ends_out (noDefers_spec hd) _ _ _ _ (h _ (fun _ _ h => h) hS))) ?_
  intro e a' w' h
  cases e <;> first | exact h | exact h.elim
end Go.Proofs.YtfmngeemhfpeiaaDoor
