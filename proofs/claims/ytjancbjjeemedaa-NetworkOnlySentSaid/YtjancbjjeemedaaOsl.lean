/- What the loop of NetworkOnlySent keeps in memory. -/
import Derived.Test.YtjancbjjeemedaaLap
import Derived.Test.YtjancbjjeemedaaLcu
namespace Go.Proofs.Ytjancbjjeemedaa
open Go.RowKit

theorem ok_q {n : Nt} (h : n.ok = true) : ∀ p ∈ n.q, okPk p = true := (ok_parts h).2.1
theorem ok_a {n : Nt} (h : n.ok = true) : ∀ p ∈ n.ap, p.1 ≠ p.2 := fun p hp => by
  have := (okA_pw (ok_parts h).2.2).2 p hp
  rw [okOne_iff] at this; omega
/-- The row of what was sent. -/
def SentAt (W : World) (b : Nat) (ra : Option Addr) (k rc : Nat) (l : List Pk) : Prop :=
  l.length = k ∧ ((ra = none ∧ k = 0 ∧ rc = 0) ∨ ∃ g, ra = some ⟨g, 0, none⟩ ∧ b < g ∧ RowP W W.heap.size g k rc l)
/-- Block b holds the links n, and the row is l. -/
structure LN (w : World) (b : Nat) (n : Nt) (ra : Option Addr) (k rc : Nat) (l : List Pk) (W : World) : Prop where
  below : Below w.heap.size w W
  lo : w.heap.size ≤ b
  box : ∃ (qa : Option Addr) (qc : Nat) (aa : Option Addr) (ac : Nat), NBox W b qa n.q.length qc aa n.ap.length ac n
  sl : SlB W b
  row : SentAt W b ra k rc l
section
variable {w W W' : World} {b : Nat} {n : Nt} {ra : Option Addr} {k rc : Nat} {l : List Pk}
theorem LN.lt (h : LN w b n ra k rc l W) : b < W.heap.size := by obtain ⟨_, _, _, _, h⟩ := h.box; exact h.lt
theorem LN.next (h : LN w b n ra k rc l W) (hb : Below W.heap.size W W') : LN w b n ra k rc l W' := by
  obtain ⟨qa, qc, aa, ac, hx⟩ := h.box
  refine ⟨bthen h.below hb, h.lo, ⟨qa, qc, aa, ac, hx.next hb⟩, h.sl.below hb hx.lt, h.row.1, ?_⟩
  rcases h.row.2 with e | ⟨g, e1, e2, e3⟩
  · exact .inl e
  · exact .inr ⟨g, e1, e2, e3.next hb⟩
theorem LN.le (h : LN w b n ra k rc l W) : k ≤ rc := by
  rcases h.row.2 with ⟨_, e1, e2⟩ | ⟨g, _, _, e3⟩
  · omega
  · exact e3.le
/-- Other links are stored. -/
theorem LN.over (h : LN w b n ra k rc l W) {x : Nt} {qa' : Option Addr} {N' qc' : Nat} {aa' : Option Addr} {M' ac' : Nat} (hN : x.q.length = N') (hM : x.ap.length = M') (hn : NtAt W W.heap.size (.agg #[.slice qa' N' qc', .slice aa' M' ac']) x) :
    LN w b x ra k rc l ((W.setCell ⟨b, 0, none⟩ (.slice qa' N' qc')).setCell ⟨b, 1, none⟩ (.slice aa' M' ac')) := by
  obtain ⟨qa, qc, aa, ac, hx⟩ := h.box
  subst hN; subst hM
  have hz : ((W.setCell ⟨b, 0, none⟩ (.slice qa' x.q.length qc')).setCell ⟨b, 1, none⟩ (.slice aa' x.ap.length ac')).heap.size = W.heap.size := by simp
  have hs1 := h.sl.set hx.c0 qa' x.q.length qc'
  have hc1 : (W.setCell ⟨b, 0, none⟩ (.slice qa' x.q.length qc')).cell? ⟨b, 1, none⟩ = some (.slice aa n.ap.length ac) := (hx.arr.set 0 _).cell rfl
  refine ⟨(h.below.setCell (p := ⟨b, 0, none⟩) h.lo _).setCell (p := ⟨b, 1, none⟩) h.lo _, h.lo, ⟨qa', qc', aa', ac', by rw [hz]; exact hx.lt, (hx.arr.set 0 _).set 1 _, by rw [hz]; exact (hn.apart h.sl _).apart hs1 _⟩, hs1.set hc1 _ _ _, h.row.1, ?_⟩
  rcases h.row.2 with e | ⟨g, e1, e2, e3⟩
  · exact .inl e
  · refine .inr ⟨g, e1, e2, ?_⟩
    obtain ⟨C, cs, k1, k2, k3⟩ := e3.obj
    refine ⟨e3.len, e3.le, e3.max, C, cs, ?_, k2, ⟨k3.len, fun i hi => ?_⟩⟩
    · have hG := gtrans (grown_setCell (W := W) (b := b) 0 (.slice qa' x.q.length qc')) (grown_setCell (b := b) 1 (.slice aa' x.ap.length ac'))
      rw [hG.block g e3.lt (by simp; omega)]; exact k1
    · obtain ⟨a0, a1, a2, u, a3, a4⟩ := k3.at_ i hi
      exact ⟨a0, a1, a2, u, a3, by rw [hz]; exact (a4.apart h.sl.noU8 _).apart hs1.noU8 _⟩
/-- A packet comes behind the row; other valid links stay as they are. -/
theorem LN.push (h : LN w b n ra k rc l W) (hok : n.ok = true) (a2 : Option Addr) (c2 : Nat) (p : Pk) (h2 : QAt W W.heap.size (.slice a2 1 c2) [p]) (hs : k ≤ 60) :
    ∃ g' cap' W', (Builtin.append_ #[22, 22] 22 #[.slice ra k rc, .slice a2 1 c2]).run Try.prog W = .ok (.slice (some ⟨g', 0, none⟩) (k + 1) cap') W' ∧ LN w b n (some ⟨g', 0, none⟩) (k + 1) cap' (l ++ [p]) W' ∧ Below w.heap.size W W' ∧
      (∀ v x, x.ok = true → NtAt W W.heap.size v x → NtAt W' W'.heap.size v x) ∧ ∀ c, c < W.heap.size → (∀ g, ra = some ⟨g, 0, none⟩ → c ≠ g) → W'.heap[c]? = W.heap[c]? := by
  have hlt := h.lt
  rcases h.row.2 with ⟨rfl, rfl, rfl⟩ | ⟨g, rfl, e2, e3⟩
  · obtain ⟨cap', W', h3, h4, h5⟩ := pks_first (a := none) a2 c2 [p] h2 (by simp) (by simp)
    have hf : l = [] := List.length_eq_zero_iff.1 h.row.1
    subst hf
    have hh := h.next h5
    refine ⟨_, cap', W', by simpa using h3, ⟨hh.below, hh.lo, hh.box, hh.sl, by simp, ?_⟩, h5.mono h.below.size, fun v x _ hx => hx.next h5, fun c hc _ => h5.block c hc⟩
    exact .inr ⟨_, rfl, hlt, by simpa using h4⟩
  · obtain ⟨g', cap', W', h3, h4, h5, h6, h7⟩ := pks_app e3 a2 c2 [p] h2 (by simp) (by simp; omega)
    have hlo := h.lo
    obtain ⟨qa, qc, aa, ac, hx⟩ := h.box
    have hnt := nt_spare e3 h5 h7 hx.nt (ok_q hok) (ok_a hok)
    have hbw : Below w.heap.size W W' := belowg h5 h.below.size (by omega)
    refine ⟨g', cap', W', h3, ⟨h.below.trans hbw, h.lo, ⟨qa, qc, aa, ac, Nat.lt_of_lt_of_le hx.lt h5.size, hx.arr.below (B := b + 1) (belowg h5 (by omega) (by omega)) (by omega), hnt⟩, h.sl.below (B := b + 1) (belowg h5 (by omega) (by omega)) (by omega), ?_, ?_⟩, hbw,
      fun v x hx1 hx2 => nt_spare e3 h5 h7 hx2 (ok_q hx1) (ok_a hx1), fun c hc hne => ?_⟩
    · rw [List.length_append, h.row.1]; rfl
    · exact .inr ⟨g', rfl, by rcases h6 with e | e <;> omega, h4⟩
    · exact h5.block c hc (by simpa using hne g rfl)
end
end Go.Proofs.Ytjancbjjeemedaa
