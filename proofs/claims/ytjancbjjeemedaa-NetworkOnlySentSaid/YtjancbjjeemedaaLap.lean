/- What the loops of NetworkAll keep. -/
import Derived.Test.YtjancbjjeemedaaRwp
import Derived.Test.YtjancbjjeemedaaLlo
namespace Go.Proofs.Ytjancbjjeemedaa
open Go.RowKit

theorem grown_setCell {W : World} {b : Nat} (i : Nat) (v : Value) : W.grownBy (W.setCell ⟨b, i, none⟩ v) (some b) :=
  ⟨rfl, rfl, rfl, by simp [World.setCell], fun k _ hne => Below.heap_setCell _ _ _ _ (by first | exact fun e => hne (congrArg some e) | exact fun e => hne (congrArg some e.symm))⟩
theorem filter_take (l : List Pk) {m : Nat} (h : m < l.length) : (l.take (m + 1)).filter okPk = (l.take m).filter okPk ++ if okPk l[m] then [l[m]] else [] := by
  rw [List.take_succ_eq_append_getElem h, List.filter_append]
  congr 1
  by_cases e : okPk l[m] = true <;> simp [e]
theorem filter_ok {l : List Pk} {p : Pk} (h : p ∈ l.filter okPk) : okPk p = true := (List.mem_filter.1 h).2
theorem net_ok {l : List Pk} (h : ∀ p ∈ l, okPk p = true) (hl : l.length ≤ 12) : Nt.ok ⟨l, []⟩ = true := ok_mk (by omega) h rfl
theorem send_no {n : Nt} (h : n.ok = true) {p : Pk} (hp : okPk p = false) : n.send p = (Nt.zero, 60) := by
  unfold Nt.send
  rw [if_pos h, if_neg (by rw [hp]; simp)]
theorem pick_in {l : List Pk} (h : ∀ p ∈ l, okPk p = true) (hl : l.length ≤ 12) {i : Nat} (hi : i < l.length) : (⟨l, []⟩ : Nt).pick i = l[i] := by
  unfold Nt.pick
  rw [err_in (net_ok h hl) hi, if_pos rfl, Int.toNat_natCast]
  show (match l[i]? with | some p => _ | none => _) = _
  rw [List.getElem?_eq_getElem hi]
  rfl

/-- The row of what is to be delivered. -/
def RestAt (W : World) (b5 : Nat) (ra : Option Addr) (n rc : Nat) (fr : List Pk) : Prop :=
  fr.length = n ∧ ((n = 0 ∧ rc = 0) ∨ ∃ g, ra = some ⟨g, 0, none⟩ ∧ b5 < g ∧ RowP W W.heap.size g n rc fr)
/-- Block b5 holds links with the packets fn, and the row is fr. -/
structure LA (w : World) (b5 : Nat) (fn : List Pk) (ra : Option Addr) (n rc : Nat) (fr : List Pk) (W : World) : Prop where
  below : Below w.heap.size w W
  lo : w.heap.size ≤ b5
  box : ∃ (qa : Option Addr) (qc : Nat) (aa : Option Addr) (ac : Nat), NBox W b5 qa fn.length qc aa 0 ac ⟨fn, []⟩
  sl : SlB W b5
  row : RestAt W b5 ra n rc fr
section
variable {w W W' : World} {b5 : Nat} {fn : List Pk} {ra : Option Addr} {n rc : Nat} {fr : List Pk}
theorem LA.lt (h : LA w b5 fn ra n rc fr W) : b5 < W.heap.size := by obtain ⟨_, _, _, _, h⟩ := h.box; exact h.lt
theorem LA.next (h : LA w b5 fn ra n rc fr W) (hb : Below W.heap.size W W') : LA w b5 fn ra n rc fr W' := by
  obtain ⟨qa, qc, aa, ac, hx⟩ := h.box
  refine ⟨bthen h.below hb, h.lo, ⟨qa, qc, aa, ac, hx.next hb⟩, h.sl.below hb hx.lt, h.row.1, ?_⟩
  rcases h.row.2 with e | ⟨g, e1, e2, e3⟩
  · exact .inl e
  · exact .inr ⟨g, e1, e2, e3.next hb⟩
/-- Other links are stored. -/
theorem LA.over (h : LA w b5 fn ra n rc fr W) {f' : List Pk} {qa' : Option Addr} {N' qc' : Nat} {aa' : Option Addr} {ac' : Nat} (hl : f'.length = N') (hn : NtAt W W.heap.size (.agg #[.slice qa' N' qc', .slice aa' 0 ac']) ⟨f', []⟩) :
    LA w b5 f' ra n rc fr ((W.setCell ⟨b5, 0, none⟩ (.slice qa' N' qc')).setCell ⟨b5, 1, none⟩ (.slice aa' 0 ac')) := by
  obtain ⟨qa, qc, aa, ac, hx⟩ := h.box
  subst hl
  have hz : ((W.setCell ⟨b5, 0, none⟩ (.slice qa' f'.length qc')).setCell ⟨b5, 1, none⟩ (.slice aa' 0 ac')).heap.size = W.heap.size := by simp
  have hs1 := h.sl.set hx.c0 qa' f'.length qc'
  have hc1 : (W.setCell ⟨b5, 0, none⟩ (.slice qa' f'.length qc')).cell? ⟨b5, 1, none⟩ = some (.slice aa 0 ac) := (hx.arr.set 0 _).cell rfl
  refine ⟨(h.below.setCell (p := ⟨b5, 0, none⟩) h.lo _).setCell (p := ⟨b5, 1, none⟩) h.lo _, h.lo, ⟨qa', qc', aa', ac', by rw [hz]; exact hx.lt, (hx.arr.set 0 _).set 1 _, by rw [hz]; exact (hn.apart h.sl _).apart hs1 _⟩, hs1.set hc1 _ _ _, h.row.1, ?_⟩
  rcases h.row.2 with e | ⟨g, e1, e2, e3⟩
  · exact .inl e
  · refine .inr ⟨g, e1, e2, ?_⟩
    obtain ⟨C, cs, k1, k2, k3⟩ := e3.obj
    refine ⟨e3.len, e3.le, e3.max, C, cs, ?_, k2, ⟨k3.len, fun i hi => ?_⟩⟩
    · have hG := gtrans (grown_setCell (W := W) (b := b5) 0 (.slice qa' f'.length qc')) (grown_setCell (b := b5) 1 (.slice aa' 0 ac'))
      rw [hG.block g e3.lt (by simp; omega)]; exact k1
    · obtain ⟨a0, a1, a2, u, a3, a4⟩ := k3.at_ i hi
      exact ⟨a0, a1, a2, u, a3, by rw [hz]; exact (a4.apart h.sl.noU8 _).apart hs1.noU8 _⟩
/-- Packets come behind the row. -/
theorem LA.push (h : LA w b5 fn ra n rc fr W) (hok : ∀ p ∈ fn, okPk p = true) (a2 : Option Addr) (c2 k : Nat) (l2 : List Pk) (h2 : QAt W W.heap.size (.slice a2 k c2) l2) (hk : l2.length = k) (hm : l2 ≠ []) (hs : n + k ≤ 100000) :
    ∃ g' cap' W', (Builtin.append_ #[22, 22] 22 #[.slice ra n rc, .slice a2 k c2]).run Try.prog W = .ok (.slice (some ⟨g', 0, none⟩) (n + k) cap') W' ∧ LA w b5 fn (some ⟨g', 0, none⟩) (n + k) cap' (fr ++ l2) W' ∧ Below w.heap.size W W' := by
  subst hk
  have hlt := h.lt
  rcases h.row.2 with ⟨rfl, rfl⟩ | ⟨g, rfl, e2, e3⟩
  · obtain ⟨cap', W', h3, h4, h5⟩ := pks_first (a := ra) a2 c2 l2 h2 hm (by omega)
    have hf : fr = [] := List.length_eq_zero_iff.1 h.row.1
    subst hf
    have hh := h.next h5
    refine ⟨_, cap', W', by rw [Nat.zero_add]; exact h3, ⟨hh.below, hh.lo, hh.box, hh.sl, by simp, ?_⟩, h5.mono h.below.size⟩
    exact .inr ⟨_, rfl, hlt, by rw [Nat.zero_add]; exact h4⟩
  · obtain ⟨g', cap', W', h3, h4, h5, h6, h7⟩ := pks_app e3 a2 c2 l2 h2 hm hs
    have hlo := h.lo
    obtain ⟨qa, qc, aa, ac, hx⟩ := h.box
    have hnt := nt_spare e3 h5 h7 hx.nt hok (fun p hp => by simp at hp)
    have hcell : ∀ i, W'.cell? ⟨b5, i, none⟩ = W.cell? ⟨b5, i, none⟩ := fun i => World.cell?_of_block (a := ⟨b5, i, none⟩) (h5.block b5 hlt (by simp; omega))
    have hbw : Below w.heap.size W W' := belowg h5 h.below.size (by omega)
    refine ⟨g', cap', W', h3, ⟨h.below.trans hbw, h.lo, ⟨qa, qc, aa, ac, Nat.lt_of_lt_of_le hx.lt h5.size, hx.arr.below (B := b5 + 1) (belowg h5 (by omega) (by omega)) (by omega), hnt⟩, h.sl.below (B := b5 + 1) (belowg h5 (by omega) (by omega)) (by omega), ?_, ?_⟩, hbw⟩
    · rw [List.length_append, h.row.1]
    · exact .inr ⟨g', rfl, by rcases h6 with e | e <;> omega, h4⟩
theorem LA.le (h : LA w b5 fn ra n rc fr W) : n ≤ rc := by
  rcases h.row.2 with ⟨e1, e2⟩ | ⟨g, _, _, e3⟩
  · omega
  · exact e3.le
/-- The row is made anew, without one of its packets. -/
theorem LA.rebuild (h : LA w b5 fn ra n rc fr W) (q i : Nat) (hi : i < n) (hn : n ≤ 12) (hok : ∀ p ∈ fn, okPk p = true) :
    ∃ (a1 : Option Addr) (c1 : Nat) (W4 : World), (Builtin.append_ #[22, 22] 22 #[.slice (some ⟨q, 0, none⟩) 0 0, .slice ra i rc]).run Try.prog W = .ok (.slice a1 i c1) W4 ∧ Below w.heap.size W W4 ∧
    ∃ (a2 : Option Addr) (c2 : Nat) (W5 : World), (Builtin.append_ #[22, 22] 22 #[.slice a1 i c1, .slice (if rc = i + 1 then ra else ra.map (·.add ((i + 1) * 3))) (n - (i + 1)) (rc - (i + 1))]).run Try.prog W4 = .ok (.slice a2 (n - 1) c2) W5 ∧ Below w.heap.size W W5 ∧ LA w b5 fn a2 (n - 1) c2 (fr.eraseIdx i) W5 := by
  have hlt := h.lt
  have hfl := h.row.1
  rcases h.row.2 with ⟨e1, _⟩ | ⟨g, rfl, e2, e3⟩
  · omega
  have hcm := e3.max
  have hle := e3.le
  have hrow := e3.row e3.lt
  have hp1 := hrow.part 0 i rc (by omega) (by omega) hcm
  rw [Nat.zero_mul, Nat.add_zero, List.drop_zero] at hp1
  have hp2 := hrow.part (i + 1) (n - (i + 1)) (rc - (i + 1)) (by omega) (by omega) (by omega)
  rw [Nat.zero_add] at hp2
  have hl1 : (fr.take i).length = i := by rw [List.length_take]; omega
  have hl2 : ((fr.drop (i + 1)).take (n - (i + 1))).length = n - (i + 1) := by rw [List.length_take, List.length_drop]; omega
  have her : fr.eraseIdx i = fr.take i ++ (fr.drop (i + 1)).take (n - (i + 1)) := by
    have := erase_eq fr i (by omega)
    rw [this, List.drop_zero, hfl]
  have hfirst : ∃ (a1 : Option Addr) (c1 : Nat) (W4 : World), (Builtin.append_ #[22, 22] 22 #[.slice (some ⟨q, 0, none⟩) 0 0, .slice (some ⟨g, 0, none⟩) i rc]).run Try.prog W = .ok (.slice a1 i c1) W4 ∧ Below W.heap.size W W4 ∧ LA w b5 fn a1 i c1 (fr.take i) W4 := by
    by_cases h0 : i = 0
    · subst h0
      exact ⟨_, _, W, q_append_none W _ _ _ (Nat.le_refl _) _ _, Below.refl _ _, ⟨h.below, h.lo, h.box, h.sl, by simp, .inl ⟨rfl, rfl⟩⟩⟩
    · obtain ⟨cap', W4, h3, h4, h5⟩ := pks_first (a := some ⟨q, 0, none⟩) (some ⟨g, 0, none⟩) rc (fr.take i) (by rw [hl1]; exact hp1) (fun e => by rw [e] at hl1; simp at hl1; omega) (by omega)
      rw [hl1] at h3 h4
      have hh := h.next h5
      exact ⟨_, _, W4, h3, h5, ⟨hh.below, hh.lo, hh.box, hh.sl, hl1, .inr ⟨_, rfl, hlt, h4⟩⟩⟩
  obtain ⟨a1, c1, W4, hr1, hb1, hT4⟩ := hfirst
  refine ⟨a1, c1, W4, hr1, hb1.mono h.below.size, ?_⟩
  by_cases he : n - (i + 1) = 0
  · have e0 : i = n - 1 := by omega
    rw [he]
    refine ⟨a1, c1, W4, ?_, hb1.mono h.below.size, ?_⟩
    · have := q_append_none W4 a1 i c1 hT4.le (if rc = i + 1 then some ⟨g, 0, none⟩ else (some (⟨g, 0, none⟩ : Addr)).map (·.add ((i + 1) * 3))) (rc - (i + 1))
      rwa [← e0]
    · rw [her, he, List.take_zero, List.append_nil, ← e0]; exact hT4
  · rw [if_neg (by omega), Option.map_some, show (⟨g, 0, none⟩ : Addr).add ((i + 1) * 3) = ⟨g, (i + 1) * 3, none⟩ by rw [Addr.add_mid, Nat.zero_add]]
    obtain ⟨g', cap', W5, h6, h7, h8⟩ := hT4.push hok (some ⟨g, (i + 1) * 3, none⟩) (rc - (i + 1)) (n - (i + 1)) _ (hp2.next hb1) hl2 (fun e => by rw [e] at hl2; simp at hl2; omega) (by omega)
    rw [show i + (n - (i + 1)) = n - 1 by omega, ← her] at h7
    rw [show i + (n - (i + 1)) = n - 1 by omega] at h6
    exact ⟨_, cap', W5, h6, (hb1.mono h.below.size).trans h8, h7⟩
end
end Go.Proofs.Ytjancbjjeemedaa
