/- A row of packets that grows from nothing. -/
import Derived.Test.YtjancbjjeemedaaRwp
import Derived.Test.YtjancbjjeemedaaRck
namespace Go.Proofs.Ytjancbjjeemedaa
open Go.RowKit

/-- A row that the call has made since the heap had B0 blocks. -/
def RQ (B0 : Nat) (W : World) (ra : Option Addr) (n rc : Nat) (fr : List Pk) : Prop :=
  fr.length = n ∧ ((n = 0 ∧ rc = 0) ∨ ∃ g, ra = some ⟨g, 0, none⟩ ∧ B0 ≤ g ∧ RowP W W.heap.size g n rc fr)
section
variable {B0 : Nat} {W W' : World} {ra : Option Addr} {n rc : Nat} {fr : List Pk}
theorem RQ.nil (B0 : Nat) (W : World) (a : Option Addr) : RQ B0 W a 0 0 [] := ⟨rfl, .inl ⟨rfl, rfl⟩⟩
theorem RQ.next (h : RQ B0 W ra n rc fr) (hb : Below W.heap.size W W') : RQ B0 W' ra n rc fr := by
  rcases h.2 with e | ⟨g, e1, e2, e3⟩
  · exact ⟨h.1, .inl e⟩
  · exact ⟨h.1, .inr ⟨g, e1, e2, e3.next hb⟩⟩
theorem RQ.le (h : RQ B0 W ra n rc fr) : n ≤ rc := by
  rcases h.2 with ⟨e1, e2⟩ | ⟨g, _, _, e3⟩
  · omega
  · exact e3.le
theorem RQ.row (h : RQ B0 W ra n rc fr) : QAt W W.heap.size (.slice ra n rc) fr := by
  rcases h.2 with ⟨rfl, rfl⟩ | ⟨g, rfl, _, e3⟩
  · have : fr = [] := List.length_eq_zero_iff.1 h.1
    subst this
    exact q_nil _ _ _
  · exact e3.row e3.lt
theorem app0 (B0 : Nat) (hB : B0 ≤ W.heap.size) (a : Option Addr) (a2 : Option Addr) (c2 k : Nat) (l2 : List Pk) (h2 : QAt W W.heap.size (.slice a2 k c2) l2) (hk : l2.length = k) (hs : k ≤ 100000) :
    ∃ a' c' W', (Builtin.append_ #[22, 22] 22 #[.slice a 0 0, .slice a2 k c2]).run Try.prog W = .ok (.slice a' k c') W' ∧ RQ B0 W' a' k c' l2 ∧ Below W.heap.size W W' := by
  subst hk
  by_cases hm : l2 = []
  · subst hm
    exact ⟨a, 0, W, q_append_none W _ _ _ (Nat.le_refl _) _ _, RQ.nil _ _ _, Below.refl _ _⟩
  · obtain ⟨cap', W', h3, h4, h5⟩ := pks_first (a := a) a2 c2 l2 h2 hm (by omega)
    exact ⟨_, cap', W', h3, ⟨rfl, .inr ⟨_, rfl, hB, h4⟩⟩, h5⟩
theorem RQ.app (h : RQ B0 W ra n rc fr) (hB : B0 ≤ W.heap.size) (a2 : Option Addr) (c2 k : Nat) (l2 : List Pk) (h2 : QAt W W.heap.size (.slice a2 k c2) l2) (hk : l2.length = k) (hs : n + k ≤ 100000) :
    ∃ a' c' W', (Builtin.append_ #[22, 22] 22 #[.slice ra n rc, .slice a2 k c2]).run Try.prog W = .ok (.slice a' (n + k) c') W' ∧ RQ B0 W' a' (n + k) c' (fr ++ l2) ∧ Below B0 W W' := by
  subst hk
  by_cases hm : l2 = []
  · subst hm
    exact ⟨ra, rc, W, q_append_none W _ _ _ h.le _ _, by rw [List.append_nil]; exact h, Below.refl _ _⟩
  rcases h.2 with ⟨rfl, rfl⟩ | ⟨g, rfl, e2, e3⟩
  · obtain ⟨cap', W', h3, h4, h5⟩ := pks_first (a := ra) a2 c2 l2 h2 hm (by omega)
    have hf : fr = [] := List.length_eq_zero_iff.1 h.1
    subst hf
    exact ⟨_, cap', W', by rw [Nat.zero_add]; exact h3, ⟨by simp, .inr ⟨_, rfl, hB, by rw [Nat.zero_add]; exact h4⟩⟩, h5.mono hB⟩
  · obtain ⟨g', cap', W', h3, h4, h5, h6, _⟩ := pks_app e3 a2 c2 l2 h2 hm hs
    exact ⟨_, cap', W', h3, ⟨by rw [List.length_append, h.1], .inr ⟨g', rfl, by rcases h6 with e | e <;> omega, h4⟩⟩, belowg h5 hB e2⟩
end
theorem q_one {W : World} {b : Nat} {p : Pk} {da : Option Addr} {L dc : Nat} (hA : Arr W b [.int .i64 p.frm, .int .i64 p.to, .slice da L dc]) (hb : b < W.heap.size) (hin : In64 p.frm ∧ In64 p.to) (hd : BytesAt W W.heap.size (.slice da L dc) p.data) : QAt W W.heap.size (.slice (some ⟨b, 0, none⟩) 1 1) [p] := by
  refine ⟨_, 1, rfl, Nat.le_refl _, by unfold maxLen; omega, .inr ⟨b, 0, rfl, hb, fun i hi => ?_⟩⟩
  have : i = 0 := by simp at hi; exact hi
  subst this
  exact ⟨hin, hA.cell rfl, hA.cell rfl, _, hA.cell rfl, hd⟩
theorem slice_upto (a : Option Addr) (N cap i : Nat) (h : i ≤ cap) (W : World) : (Instr.slice 22 (.slice a N cap) none (some (.int .i64 (i : Int))) none).run Try.prog W = .ok (.slice a i cap) W := by
  rw [run_slice_h W 22 _ _ _ Try.slice22 .i64 _ (by omega) (by omega), Try.elem22, Try.sizeOf28]
  simp only [Result.andThen, sliced, Int.toNat_natCast, Nat.sub_zero]
  cases a <;> simp [Addr.add]
end Go.Proofs.Ytjancbjjeemedaa
