/- Disks in blocks of their own, side by side; steps of regions that draw. -/
import Derived.Test.YtmklchjgiaomkaaTgp
import Derived.Test.YtmklchjgiaomkaaAct
import Derived.Test.YtmklchjgiaomkaaBox
namespace Go.Proofs.Ytmklchjgiaomkaa
open Go.RowKit

section
variable {w w' W : World} {b : Nat} {sa : Option Addr} {k cs : Nat} {ap : Option Addr} {p cp : Nat} {left : Int} {st : Bool} {d : Dk}
theorem dk_kept (h : Boxed w b sa k cs ap p cp left st d) (hG : w.grownBy W (some b)) {v : Value} {D : Dk} (hD : DkAt w w.heap.size v D) (hF : D.full) : DkAt W W.heap.size v D := by
  obtain ⟨h64, vs, vp, rfl, hS, hP⟩ := hD
  refine ⟨h64, _, _, rfl, ?_, ?_⟩
  · obtain ⟨a, c, h1, h2, h3, h4⟩ := hS
    refine ⟨a, c, h1, h2, h3, ?_⟩
    rcases h4 with h4 | ⟨db, o, h5, h6, h7⟩
    · exact .inl h4
    · by_cases h0 : 0 < D.sec.length
      · have hne : db ≠ b := fun e => by subst e; exact h.no_sec h7 h0 (hF.1 _ (List.getElem_mem h0))
        refine .inr ⟨db, o, h5, Nat.lt_of_lt_of_le h6 hG.size, fun i hi => ?_⟩
        obtain ⟨u, g1, g2⟩ := h7 i hi
        exact ⟨u, (World.cell?_of_block (a := ⟨db, o + i, none⟩) (hG.block db h6 (by simpa using hne))).trans g1, bytes_kept h hG g2⟩
      · exact .inl (List.length_eq_zero_iff.1 (by omega))
  · obtain ⟨a, c, h1, h2, h3, h4⟩ := hP
    refine ⟨a, c, h1, h2, h3, ?_⟩
    rcases h4 with h4 | ⟨db, o, h5, h6, h7⟩
    · exact .inl h4
    · by_cases h0 : 0 < D.pen.length
      · have hne : db ≠ b := fun e => by subst e; exact h.no_pen h7 h0
        refine .inr ⟨db, o, h5, Nat.lt_of_lt_of_le h6 hG.size, fun i hi => ?_⟩
        obtain ⟨g0, g1, u, g2, g3⟩ := h7 i hi
        exact ⟨g0, (World.cell?_of_block (a := ⟨db, o + i * 2, none⟩) (hG.block db h6 (by simpa using hne))).trans g1, u, (World.cell?_of_block (a := ⟨db, o + i * 2 + 1, none⟩) (hG.block db h6 (by simpa using hne))).trans g2, bytes_kept h hG g3⟩
      · exact .inl (List.length_eq_zero_iff.1 (by omega))
theorem Boxed.beside {b' : Nat} {sa' : Option Addr} {k' cs' : Nat} {ap' : Option Addr} {p' cp' : Nat} {left' : Int} {st' : Bool} {D : Dk} (h : Boxed w b sa k cs ap p cp left st d) (h' : Boxed w b' sa' k' cs' ap' p' cp' left' st' D) (hne : b' ≠ b) (hG : w.grownBy W (some b)) (hF : D.full) : Boxed W b' sa' k' cs' ap' p' cp' left' st' D :=
  ⟨Nat.lt_of_lt_of_le h'.lt hG.size, h'.arr.moved hG h'.lt (by simpa using hne), dk_kept h hG h'.dk hF, fun i hi => (World.cell?_of_block (a := ⟨b', i, none⟩) (hG.block b' h'.lt (by simpa using hne))).trans (h'.top i hi)⟩
theorem acts_kept {l : List Ac} {b' off : Nat} (h : ActsIn w b' off l) (hG : w.grownBy W (some b)) (hlt : b' < w.heap.size) (hne : b' ≠ b) : ActsIn W b' off l := fun i hi => by
  obtain ⟨h1, h2, h3⟩ := h i hi
  have hc : ∀ j, W.cell? ⟨b', j, none⟩ = w.cell? ⟨b', j, none⟩ := fun j => World.cell?_of_block (a := ⟨b', j, none⟩) (hG.block b' hlt (by simpa using hne))
  exact ⟨(hc _).trans h1, (hc _).trans h2, (hc _).trans h3⟩
end
theorem ok_full {d : Dk} (h : d.ok = true) : d.full := by
  obtain ⟨l1, l2, l3, l4, l5, l6, l7⟩ := ok_lens h
  exact ⟨fun s hs => by rw [l4 s hs]; decide, fun x hx => by rw [(l5 x hx).2.2]; decide⟩
theorem sync_full {d : Dk} (h : d.runs = true) : d.sync.1.full := by
  obtain ⟨l1, l2, l3, l4, l5, l6, l7⟩ := ok_lens (runs_ok h).1
  rw [sync_of_runs h]
  by_cases hs : d.stops = true
  · rw [if_pos hs]
    have hst : 0 ≤ d.left ∧ d.left < d.pen.length := by unfold Dk.stops at hs; simpa using hs
    have hdone : ∀ y ∈ d.done, y.length = 128 := perf_128 _ (fun x hx => (l5 x (List.mem_of_mem_take hx)).2.2) _ l4
    refine ⟨fun s hm => ?_, fun x hx => absurd hx (by simp)⟩
    rcases List.mem_or_eq_of_mem_set hm with hm | rfl
    · rw [hdone s hm]; decide
    · have hat : d.at_ ∈ d.pen := by
        unfold Dk.at_
        rw [List.getD_eq_getElem?_getD, List.getElem?_eq_getElem (show d.left.toNat < d.pen.length by omega)]
        exact List.getElem_mem _
      have := (l5 _ hat).2.2
      unfold tear
      rw [List.length_append, List.length_take]; omega
  · rw [if_neg hs]
    refine ⟨fun s hm => ?_, fun x hx => absurd hx (by simp)⟩
    rw [perf_128 _ (fun x hx => (l5 x hx).2.2) _ l4 s hm]; decide

theorem wp_bs1 {o : Oper} {a : Act} {W : World} {K : Act → World → Prop} {Q : Exit → Act → World → Prop} (x : Operand) (c : UInt8) (ho : o.op = .buildSlice 35 1 #[(0, x)]) (hx : a.eval x = .int .u8 c.toNat)
    (h : ∀ g W', W.grownBy W' none → W.heap.size ≤ g → g < W'.heap.size → Arr W' g (cells8 [c]) → K (a.put o.dst (.slice (some ⟨g, 0, none⟩) 1 1)) W') : o.wp Try.prog a W K Q := by
  obtain ⟨i, hi1, hz0, hz1, hz2⟩ := info_parts Try.info5
  have hn : (newRow 5 #[.int .u8 c.toNat]).run Try.prog W = .ok ⟨W.heap.size, 0, none⟩ (W.alloc (.cells #[.int .u8 c.toNat] 5)) := rfl
  have hrun : (Instr.buildSlice 35 1 #[(0, .int .u8 c.toNat)]).run Try.prog W = .ok (.slice (some ⟨W.heap.size, 0, none⟩) 1 1) (W.alloc (.cells #[.int .u8 c.toNat] 5)) := by
    have hc : ∀ v, (Value.int .u8 v).cells = #[Value.int .u8 v] := fun _ => rfl
    have hm : Array.map (fun x => (#[Value.int IntKind.u8 0] : Array Value)[x % (#[Value.int IntKind.u8 0] : Array Value).size]!) (Array.range 1) = #[Value.int IntKind.u8 0] := by kernel_rfl
    simp [Instr.buildSlice, run_underlying Try.underlying35, sizeOf, typeInfo, zeroValue, hi1, hz0, hz1, Instr.fill]
    rw [hc, hc, hm, if_neg (by simp)]
    have hz : Array.foldl (fun (cs : Array Value) (x : Value × Nat) => cs.setIfInBounds x.snd x.fst) #[Value.int IntKind.u8 0] (#[Value.int IntKind.u8 ↑c.toNat] : Array Value).zipIdx 0 (#[Value.int IntKind.u8 ↑c.toNat] : Array Value).size = #[Value.int IntKind.u8 ↑c.toNat] := by rfl
    rw [hz]
    simp only [Sem.run_map, hn]
    rfl
  have hk := h _ _ (World.grownBy_alloc W _ none) (Nat.le_refl _) (by simp) (Arr.new W #[.int .u8 c.toNat] 5)
  unfold Oper.wp execOp
  simp [ho, hx, hrun]
  exact hk
theorem wp_alloc25t {o : Oper} {a : Act} {W : World} {K : Act → World → Prop} {Q : Exit → Act → World → Prop} (ho : o.op = .alloc 25)
    (h : ∀ x W', W.grownBy W' none → W.heap.size ≤ x → x < W'.heap.size → Arr W' x [.slice none 0 0, .slice none 0 0, .int .i64 0, .bool false] → (∀ i, 4 ≤ i → W'.cell? ⟨x, i, none⟩ = none) → K (a.put o.dst (.pointer (some ⟨x, 0, none⟩))) W') : o.wp Try.prog a W K Q := by
  obtain ⟨i, hi, hz⟩ := Option.map_eq_some_iff.1 (show (Try.prog.info? 25).map (fun i => (i.zero, i.size)) = some (some (.agg #[.slice none 0 0, .slice none 0 0, .int .i64 0, .bool false]), 4) by kernel_rfl)
  simp only [Prod.mk.injEq] at hz
  have hrun : (Instr.alloc 25 true (.tuple #[])).run Try.prog W = .ok (.pointer (some ⟨W.heap.size, 0, none⟩)) (W.alloc (.cells #[.slice none 0 0, .slice none 0 0, .int .i64 0, .bool false] 25)) := by
    have hn : ∀ C, (newRow 25 C).run Try.prog W = .ok ⟨W.heap.size, 0, none⟩ (W.alloc (.cells C 25)) := fun _ => rfl
    simp [Instr.alloc, zeroValue, typeInfo, newVar, hi, hz.1, hn, Value.cells]
  have hk := h _ _ (World.grownBy_alloc W (.cells #[.slice none 0 0, .slice none 0 0, .int .i64 0, .bool false] 25) none) (Nat.le_refl _) (by simp) (Arr.new W #[.slice none 0 0, .slice none 0 0, .int .i64 0, .bool false] 25)
    (fun i hi => by rw [World.cell?_alloc_new]; simp; omega)
  unfold Oper.wp execOp
  simp only [ho, Sem.run_bind, hrun, Result.andThen_ok]
  exact hk
theorem wp_st25t {o : Oper} {a : Act} {W : World} {K : Act → World → Prop} {Q : Exit → Act → World → Prop} (x y : Operand) (ho : o.op = .store 25 x y) (b : Nat) (c0 c1 c2 c3 : Value) (old : List Value) (hx : a.eval x = .pointer (some ⟨b, 0, none⟩)) (hy : a.eval y = .agg #[c0, c1, c2, c3]) (hA : Arr W b old) (hl : 4 = old.length)
    (ht : ∀ i, 4 ≤ i → W.cell? ⟨b, i, none⟩ = none) (h1 : [c0, c1, c2, c3].all (·.oneCell') = true) (h : ∀ W', W.grownBy W' (some b) → Arr W' b [c0, c1, c2, c3] → (∀ i, 4 ≤ i → W'.cell? ⟨b, i, none⟩ = none) → K (a.put o.dst undef) W') : o.wp Try.prog a W K Q := by
  refine wp_store_mid 25 x y ho b 0 #[c0, c1, c2, c3] hx hy (by show W.there b 0 4; rw [hl]; exact hA.there) Try.size25 (by simpa using h1) ?_
  refine h _ (grown_setCells _ _ _) (hA.stored hl) (fun i hi => ?_)
  rw [World.cell?_setCells_out _ _ _ _ _ (fun j hj => .inr (by simp at hj ⊢; omega))]
  exact ht i hi
theorem ActsAt.nxt {w w' : World} {v : Value} {l : List Ac} (h : ActsAt w w.heap.size v l) (hb : Below w.heap.size w w') : ActsAt w' w'.heap.size v l := by
  obtain ⟨a, cap, h1, h2, h3, h4⟩ := h.below hb
  refine ⟨a, cap, h1, h2, h3, ?_⟩
  rcases h4 with h4 | ⟨b, off, h4, h5, h6⟩
  · exact .inl h4
  · exact .inr ⟨b, off, h4, Nat.lt_of_lt_of_le h5 hb.size, h6⟩
/-- A block holds a disk, whatever its cells are. -/
def BoxAt (w : World) (b : Nat) (X : Dk) : Prop := ∃ (sx : Option Addr) (kx cx : Nat) (ax : Option Addr) (px qx : Nat) (lx : Int) (tx : Bool), Boxed w b sx kx cx ax px qx lx tx X
theorem BoxAt.next {w w' : World} {b : Nat} {X : Dk} (h : BoxAt w b X) (hb : Below w.heap.size w w') : BoxAt w' b X := by
  obtain ⟨_, _, _, _, _, _, _, _, h⟩ := h
  exact ⟨_, _, _, _, _, _, _, _, h.next hb⟩
/-- What the loops of DiskTogether keep. -/
structure LT (w : World) (b0 b5 b6 : Nat) (sa ap : Option Addr) (k cs p cp : Nat) (left : Int) (d : Dk) (ya : Option Addr) (n yc : Nat) (l : List Ac) (X Y : Dk) (wr : World) : Prop where
  bel : Below w.heap.size w wr
  bx : Boxed wr b0 sa k cs ap p cp left false d
  b5 : BoxAt wr b5 X
  b6 : BoxAt wr b6 Y
  acts : ActsAt wr w.heap.size (.slice ya n yc) l
theorem LT.next {w : World} {b0 b5 b6 : Nat} {sa ap : Option Addr} {k cs p cp : Nat} {left : Int} {d : Dk} {ya : Option Addr} {n yc : Nat} {l : List Ac} {X Y : Dk} {wr W : World} (h : LT w b0 b5 b6 sa ap k cs p cp left d ya n yc l X Y wr) (hb : Below wr.heap.size wr W) : LT w b0 b5 b6 sa ap k cs p cp left d ya n yc l X Y W :=
  ⟨h.bel.trans (hb.mono h.bel.size), h.bx.next hb, h.b5.next hb, h.b6.next hb, h.acts.below (hb.mono h.bel.size)⟩
end Go.Proofs.Ytmklchjgiaomkaa
