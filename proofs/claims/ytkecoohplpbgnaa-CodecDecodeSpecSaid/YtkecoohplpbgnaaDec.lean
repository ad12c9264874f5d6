/- codec.Decode. -/
import Derived.Test.YtkecoohplpbgnaaRdVal
import Derived.Defers
import Derived.Recover
namespace Go.Proofs.Ytkecoohplpbgnaa
open Go.RowKit

/-- Bytes in a slice. -/
def BytesAt (w : World) (B : Nat) (v : Value) (bs : List UInt8) : Prop :=
  ∃ a cap, v = .slice a bs.length cap ∧ bs.length ≤ cap ∧ cap ≤ maxLen ∧ (bs = [] ∨ ∃ db off, a = some ⟨db, off, none⟩ ∧ db < B ∧ ∀ i (h : i < bs.length), w.cell? ⟨db, off + i, none⟩ = some (.int .u8 (bs[i]).toNat))

theorem BytesAt.below {w w' : World} {B : Nat} {v : Value} {bs : List UInt8} (h : BytesAt w B v bs) (hb : Below B w w') : BytesAt w' B v bs := by
  obtain ⟨a, cap, h1, h2, h3, h4⟩ := h
  refine ⟨a, cap, h1, h2, h3, ?_⟩
  rcases h4 with h4 | ⟨db, off, h4, h5, h6⟩
  · exact .inl h4
  · exact .inr ⟨db, off, h4, h5, fun i hi => (hb.cell (p := ⟨db, off + i, none⟩) h5).trans (h6 i hi)⟩

/-- The value of an encoding. -/
def decode (bs : List UInt8) : Option V := match rdV 16 bs with
  | some (x, []) => some x
  | _ => none

def WholePost (w : World) (o : Option V) (e : Ending) (w' : World) : Prop :=
  match o with
  | none => Pan e ∧ Below w.heap.size w w'
  | some x => ∃ v, e = .returned v ∧ V.Own w' (fun b => w.heap.size ≤ b ∧ b < w'.heap.size) x v ∧ Below w.heap.size w w'

set_option maxHeartbeats 1000000 in
theorem whole_any (w : World) (v : Value) (bs : List UInt8) (hbl : bs.length ≤ 1000000000) (h : BytesAt w w.heap.size v bs) :
    Calls Try.prog 34 #[v] w (WholePost w (decode bs)) := by
  obtain ⟨a, cap, rfl, hcap, hm, h4⟩ := h
  obtain ⟨w1, hw1⟩ : ∃ w1, w1 = (w.alloc (Obj.cells #[.int .i64 0, .int .i64 0, .string { data := #[] }, .slice none 0 0] 24)).alloc (Obj.cells #[.slice a bs.length cap, .int .i64 0] 68) := ⟨_, rfl⟩
  have hz1 : w1.heap.size = w.heap.size + 2 := by rw [hw1]; simp
  have hB1 : Below w.heap.size w w1 := by rw [hw1]; go_grown
  have hrd : ∃ db, Rdr w1 (w.heap.size + 1) db bs 0 := by
    have r0 : w1.cell? ⟨w.heap.size + 1, 0, none⟩ = some (.slice a bs.length cap) := by rw [hw1]; go_cell
    have r1 : w1.cell? ⟨w.heap.size + 1, 1, none⟩ = some (.int .i64 0) := by rw [hw1]; go_cell
    have f0 : w1.frozen? ⟨w.heap.size + 1, 0, none⟩ = false := by rw [hw1]; go_cell
    have f1 : w1.frozen? ⟨w.heap.size + 1, 1, none⟩ = false := by rw [hw1]; go_cell
    rcases h4 with h4 | ⟨db, off, h4, h5, h6⟩
    · exact ⟨w.heap.size, ⟨a, cap, r0, hcap, hm, .inl h4⟩, r1, f0, f1, by omega, by omega⟩
    · exact ⟨db, ⟨a, cap, r0, hcap, hm, .inr ⟨off, h4, fun i hi => (hB1.cell (p := ⟨db, off + i, none⟩) h5).trans (h6 i hi)⟩⟩, r1, f0, f1, by omega, by omega⟩
  obtain ⟨db, hr⟩ := hrd
  have hc := cVal 16 w1 (w.heap.size + 1) db bs 0 (by omega) (by omega) hbl hr
  have hdl := hr.dl
  have hne := hr.ne
  unfold decode
  obtain ⟨o, ho⟩ : ∃ o, rdV 16 bs = o := ⟨_, rfl⟩
  rw [ho] at hc ⊢
  have HC := Lib.hid hc
  have HW := Lib.hid hw1
  clear hc hw1 hr h4 ho
  cases o with
  | none =>
    go_enter Try.func34, Try.ntmps34
    go_wp2_with fail
    rw [← HW.out]
    refine HC.out.mono ?_
    rintro e w' ⟨he, hg⟩
    obtain rfl : e = _ := he
    have hgg := hB1.trans (belowg (B := w.heap.size) hg (by omega) (by omega))
    go_wp2
    simp [bodyPost, WholePost, Pan]
    exact hgg
  | some y =>
    obtain ⟨x, r⟩ := y
    go_enter Try.func34, Try.ntmps34
    go_wp2_with fail
    rw [← HW.out]
    refine HC.out.mono ?_
    rintro e w2 ⟨v, rfl, hx, hr2, hg⟩
    obtain ⟨k, n, s, al, len, cp, rfl⟩ := own_shape hx
    obtain ⟨⟨a2, cap2, r0, hcap2, hm2, _⟩, _, _, _, _, _⟩ := hr2
    have hs2 := hg.size
    have hgB := hB1.trans (belowg (B := w.heap.size) hg (by omega) (by omega))
    have hrlt : w.heap.size + 1 < w2.heap.size := by omega
    have q0 : ∀ o, (w2.alloc o).cell? ⟨w.heap.size + 1, 0, none⟩ = some (.slice a2 r.length cap2) := fun o => (World.cell?_alloc_lt w2 o ⟨w.heap.size + 1, 0, none⟩ hrlt).trans r0
    have hcz : ∀ i v, w1.cell? ⟨w.heap.size, i, none⟩ = some v → ∀ o, (w2.alloc o).cell? ⟨w.heap.size, i, none⟩ = some v := fun i v hv o => (World.cell?_alloc_lt w2 o ⟨w.heap.size, i, none⟩ (by show w.heap.size < _; omega)).trans (hg.cell hv (by simp))
    have z0 := hcz 0 (.int .i64 0) (by rw [HW.out]; go_cell)
    have z1 := hcz 1 (.int .i64 0) (by rw [HW.out]; go_cell)
    have z2 := hcz 2 (.string { data := #[] }) (by rw [HW.out]; go_cell)
    have z3 := hcz 3 (.slice none 0 0) (by rw [HW.out]; go_cell)
    have hfz : ∀ i o, (w2.alloc o).frozen? ⟨w.heap.size, i, none⟩ = false := fun i o => by
      rw [World.frozen?_alloc_old w2 o ⟨w.heap.size, i, none⟩ (by show w.heap.size ≠ _; omega), World.frozen?_of_block (w := w1) (hg.block w.heap.size (by omega) (by simp)), HW.out]
      go_cell
    have y0 := hfz 0
    have y1 := hfz 1
    have y2 := hfz 2
    have y3 := hfz 3
    have hHX := Lib.hid hx
    clear hcz hfz hx hg r0 HC
    cases r with
    | cons b r =>
      have hl : (((b :: r).length : Int) == 0) = false := by simp; omega
      go_wp2_with fail
      refine (need_no _ _).mono ?_
      rintro e w5 ⟨he, rfl⟩
      obtain rfl : e = _ := he
      go_wp2
      simp [bodyPost, WholePost, Pan]
      exact hgB.alloc (by omega) _
    | nil =>
      go_wp2_with fail
      refine (need_yes _ _).mono ?_
      rintro e w5 ⟨rfl, rfl⟩
      go_wp2
      refine bodyPost_ret (v := .agg #[.int .i64 k, .int .i64 n, .string s, .slice al len cp]) (by simp [results, Try.results34, go_sem, z0, z1, z2, z3]) rfl ?_
      have hsz := set4_size (w := w2.alloc (Obj.cells #[.int .i64 k, .int .i64 n, .string s, .slice al len cp] 24)) (b := w.heap.size) (v0 := .int .i64 k) (v1 := .int .i64 n) (v2 := .string s) (v3 := .slice al len cp)
      rw [World.size_alloc] at hsz
      refine ⟨_, rfl, V.Own.keep (w' := set4 (w2.alloc (Obj.cells #[.int .i64 k, .int .i64 n, .string s, .slice al len cp] 24)) w.heap.size (.int .i64 k) (.int .i64 n) (.string s) (.slice al len cp)) (fun b hb => ?_) (fun b hb => ⟨by omega, ?_⟩) x _ hHX.out, ?_⟩
      · rw [set4_block b (by omega), Below.heap_alloc _ _ _ (by omega)]
      · exact ((((hgB.alloc (by omega) _).setCell (Nat.le_refl _) _).setCell (Nat.le_refl _) _).setCell (Nat.le_refl _) _).setCell (Nat.le_refl _) _
      · unfold set4 at hsz; rw [hsz]; omega

theorem catch_panic (p q : Nat) (_hpq : p ≠ q) (c0 c1 c2 c3 c4 : Value) (older : List PanicEntry) (w : World)
    (h0 : w.cell? ⟨p, 0, none⟩ = some c0) (h1 : w.cell? ⟨p, 1, none⟩ = some c1) (h2 : w.cell? ⟨p, 2, none⟩ = some c2) (h3 : w.cell? ⟨p, 3, none⟩ = some c3) (h4 : w.cell? ⟨q, 0, none⟩ = some c4)
    (f0 : ∀ i, w.frozen? ⟨p, i, none⟩ = false) (f4 : w.frozen? ⟨q, 0, none⟩ = false) :
    CallsD Try.prog 33 #[.pointer (some ⟨p, 0, none⟩), .pointer (some ⟨q, 0, none⟩)] (.panicking ({ v := .iface 28 (.int .i64 10), recovered := false } :: older)) w fun e u' w' =>
      e = .returned (.tuple #[]) ∧ u' = .panicking ({ v := .iface 28 (.int .i64 10), recovered := true } :: older) ∧
        w' = (set4 w p (.int .i64 0) (.int .i64 0) (.string { data := #[] }) (.slice none 0 0)).setCell ⟨q, 0, none⟩ (.int .i64 10) := by
  have g0 := f0 0
  have g1 := f0 1
  have g2 := f0 2
  have g3 := f0 3
  clear f0
  refine callsD_of_wpS Try.func33 rfl fun c₀ cs hu => ?_
  apply wpS_seq
  apply wpS_region
  simp [wpOpsS, go_sem, recoverD, hu, Try.ntmps33, Exit.thenS]
  refine wpS_cond (t := true) (by simp [Act.eval, Array.replicate]) ?_
  simp only [if_true]
  apply wpS_region
  simp [wpOpsS, go_sem, h0, h1, h2, h3, h4, g0, g1, g2, g3, f4, bodyPostS, results, Try.results33]
  rfl

theorem catch_idle (p q : Nat) (w : World) :
    CallsD Try.prog 33 #[.pointer (some ⟨p, 0, none⟩), .pointer (some ⟨q, 0, none⟩)] .returning w fun e u' w' => e = .returned (.tuple #[]) ∧ u' = .returning ∧ w' = w := by
  refine callsD_of_wpS Try.func33 rfl fun c₀ cs hu => ?_
  apply wpS_seq
  apply wpS_region
  simp [wpOpsS, go_sem, recoverD, hu, Try.ntmps33, Exit.thenS]
  refine wpS_cond (t := false) (by simp [Act.eval, Array.replicate]) ?_
  simp only [Bool.false_eq_true, if_false]
  refine wpS_of_wp (wp_skip ?_)
  cases c₀
  simp_all [bodyPostS, results, Try.results33]

theorem BytesAt.mono {w : World} {B B' : Nat} {v : Value} {bs : List UInt8} (h : BytesAt w B v bs) (hb : B ≤ B') : BytesAt w B' v bs := by
  obtain ⟨a, cap, h1, h2, h3, h4⟩ := h
  refine ⟨a, cap, h1, h2, h3, ?_⟩
  rcases h4 with h4 | ⟨db, off, h4, h5, h6⟩
  · exact .inl h4
  · exact .inr ⟨db, off, h4, by omega, h6⟩

theorem fin_cells {w : World} {p q : Nat} (hpq : p ≠ q) {c0 c1 c2 c3 c4 : Value} (h0 : w.cell? ⟨p, 0, none⟩ = some c0) (h1 : w.cell? ⟨p, 1, none⟩ = some c1) (h2 : w.cell? ⟨p, 2, none⟩ = some c2) (h3 : w.cell? ⟨p, 3, none⟩ = some c3) (h4 : w.cell? ⟨q, 0, none⟩ = some c4) (v0 v1 v2 v3 v4 : Value) :
    ((set4 w p v0 v1 v2 v3).setCell ⟨q, 0, none⟩ v4).cell? ⟨p, 0, none⟩ = some v0 ∧ ((set4 w p v0 v1 v2 v3).setCell ⟨q, 0, none⟩ v4).cell? ⟨p, 1, none⟩ = some v1 ∧ ((set4 w p v0 v1 v2 v3).setCell ⟨q, 0, none⟩ v4).cell? ⟨p, 2, none⟩ = some v2 ∧
    ((set4 w p v0 v1 v2 v3).setCell ⟨q, 0, none⟩ v4).cell? ⟨p, 3, none⟩ = some v3 ∧ ((set4 w p v0 v1 v2 v3).setCell ⟨q, 0, none⟩ v4).cell? ⟨q, 0, none⟩ = some v4 := by
  have hqp : q ≠ p := fun h => hpq h.symm
  have e4 : (set4 w p v0 v1 v2 v3).cell? ⟨q, 0, none⟩ = some c4 := by
    rw [World.cell?_of_block (w := w) (a := ⟨q, 0, none⟩) (set4_block q hqp)]; exact h4
  have ho : ∀ i, ((set4 w p v0 v1 v2 v3).setCell ⟨q, 0, none⟩ v4).cell? ⟨p, i, none⟩ = (set4 w p v0 v1 v2 v3).cell? ⟨p, i, none⟩ := fun i => World.cell?_setCell_other _ _ _ _ (by intro hh; injection hh with e1; exact hqp e1)
  refine ⟨?_, ?_, ?_, ?_, World.cell?_setCell_same _ _ _ e4⟩
  all_goals rw [ho]; unfold set4; simp [go_sem, h0, h1, h2, h3]

def DecPost (w : World) (o : Option V) (e : Ending) (w' : World) : Prop :=
  match o with
  | none => e = .returned (.tuple #[.agg #[.int .i64 0, .int .i64 0, .string { data := #[] }, .slice none 0 0], .int .i64 10]) ∧ Below w.heap.size w w'
  | some x => ∃ v, e = .returned (.tuple #[v, .int .i64 0]) ∧ V.Own w' (fun b => w.heap.size ≤ b ∧ b < w'.heap.size) x v ∧ Below w.heap.size w w'

set_option maxHeartbeats 1000000 in
theorem decode_any (w : World) (v : Value) (bs : List UInt8) (hbl : bs.length ≤ 1000000000) (h : BytesAt w w.heap.size v bs) :
    Calls Try.prog 18 #[v] w (DecPost w (decode bs)) := by
  have hmf : ∀ (fn : Fn) (first cap : Array Value) (w : World), (Instr.makeFunc fn first cap).run Try.prog w = .ok (.func fn first cap) w := fun _ _ _ _ => rfl
  obtain ⟨w1, hw1⟩ : ∃ w1, w1 = (w.alloc (Obj.cells #[.int .i64 0, .int .i64 0, .string { data := #[] }, .slice none 0 0] 24)).alloc (Obj.cells #[.int .i64 0] 28) := ⟨_, rfl⟩
  have hz1 : w1.heap.size = w.heap.size + 2 := by rw [hw1]; simp
  have hB1 : Below w.heap.size w w1 := by rw [hw1]; go_grown
  have hc := whole_any w1 v bs hbl ((h.below hB1).mono (by omega))
  obtain ⟨o, ho⟩ : ∃ o, decode bs = o := ⟨_, rfl⟩
  rw [ho] at hc ⊢
  obtain ⟨a, cap, rfl, hcap, hm, h4⟩ := h
  have HC := Lib.hid hc
  have HW := Lib.hid hw1
  have hcz : ∀ w2, Below w1.heap.size w1 w2 → (w2.cell? ⟨w.heap.size, 0, none⟩ = some (.int .i64 0) ∧ w2.cell? ⟨w.heap.size, 1, none⟩ = some (.int .i64 0) ∧ w2.cell? ⟨w.heap.size, 2, none⟩ = some (.string { data := #[] }) ∧ w2.cell? ⟨w.heap.size, 3, none⟩ = some (.slice none 0 0) ∧ w2.cell? ⟨w.heap.size + 1, 0, none⟩ = some (.int .i64 0)) ∧
      (∀ i, w2.frozen? ⟨w.heap.size, i, none⟩ = false) ∧ w2.frozen? ⟨w.heap.size + 1, 0, none⟩ = false := fun w2 hb => by
    have hcell : ∀ k i u, k < w1.heap.size → w1.cell? ⟨k, i, none⟩ = some u → w2.cell? ⟨k, i, none⟩ = some u := fun k i u hk hu => (hb.cell (p := ⟨k, i, none⟩) hk).trans hu
    refine ⟨⟨hcell _ _ _ (by omega) (by rw [hw1]; go_cell), hcell _ _ _ (by omega) (by rw [hw1]; go_cell), hcell _ _ _ (by omega) (by rw [hw1]; go_cell), hcell _ _ _ (by omega) (by rw [hw1]; go_cell), hcell _ _ _ (by omega) (by rw [hw1]; go_cell)⟩, fun i => ?_, ?_⟩
    · rw [hb.frozen (p := ⟨w.heap.size, i, none⟩) (by show w.heap.size < _; omega), hw1]; go_cell
    · rw [hb.frozen (p := ⟨w.heap.size + 1, 0, none⟩) (by show w.heap.size + 1 < _; omega), hw1]; go_cell
  have HCZ := Lib.hid hcz
  clear hc hw1 h4 ho hcz
  cases o with
  | none =>
    go_enter_defers Try.func18, Try.ntmps18
    go_wp2_with fail
    rw [← HW.out]
    refine HC.out.mono ?_
    rintro e w2 ⟨he, hb2⟩
    obtain rfl : e = _ := he
    obtain ⟨⟨z0, z1, z2, z3, z4⟩, fz, f4⟩ := HCZ.out w2 hb2
    go_wp2
    refine leaves_cons (f := 33) (args := #[.pointer (some ⟨w.heap.size, 0, none⟩), .pointer (some ⟨w.heap.size + 1, 0, none⟩)]) (by simp) (by simp [go_sem]) ?_
    refine (catch_panic w.heap.size (w.heap.size + 1) (by omega) _ _ _ _ _ [] _ z0 z1 z2 z3 z4 fz f4).mono ?_
    rintro e u' w'' ⟨rfl, rfl, rfl⟩
    obtain ⟨k0, k1, k2, k3, k4⟩ := fin_cells (w := w2) (p := w.heap.size) (q := w.heap.size + 1) (by omega) z0 z1 z2 z3 z4 (.int .i64 0) (.int .i64 0) (.string { data := #[] }) (.slice none 0 0) (.int .i64 10)
    have hbf : Below w.heap.size w ((set4 w2 w.heap.size (.int .i64 0) (.int .i64 0) (.string { data := #[] }) (.slice none 0 0)).setCell ⟨w.heap.size + 1, 0, none⟩ (.int .i64 10)) := by
      unfold set4
      exact ((((((hB1.trans (hb2.mono (by omega))).setCell (Nat.le_refl _) _).setCell (Nat.le_refl _) _).setCell (Nat.le_refl _) _).setCell (Nat.le_refl _) _)).setCell (by simp) _
    generalize (set4 w2 w.heap.size (.int .i64 0) (.int .i64 0) (.string { data := #[] }) (.slice none 0 0)).setCell ⟨w.heap.size + 1, 0, none⟩ (.int .i64 10) = W at *
    simp [Leaves, settle, results, Try.results18, go_sem, k0, k1, k2, k3, k4, DecPost]
    exact hbf
  | some x =>
    go_enter_defers Try.func18, Try.ntmps18
    go_wp2_with fail
    rw [← HW.out]
    refine HC.out.mono ?_
    rintro e w2 ⟨v, rfl, hx, hb2⟩
    obtain ⟨k, n, s, al, len, cp, rfl⟩ := own_shape hx
    obtain ⟨⟨z0, z1, z2, z3, z4⟩, fz, f4⟩ := HCZ.out w2 hb2
    have HX := Lib.hid hx
    have hs2 := hb2.size
    have y0 := fz 0
    have y1 := fz 1
    have y2 := fz 2
    have y3 := fz 3
    clear hx fz
    go_wp2
    refine leaves_cons (f := 33) (args := #[.pointer (some ⟨w.heap.size, 0, none⟩), .pointer (some ⟨w.heap.size + 1, 0, none⟩)]) (by simp) (by simp [go_sem]) ?_
    refine (catch_idle w.heap.size (w.heap.size + 1) _).mono ?_
    rintro e u' w'' ⟨rfl, rfl, rfl⟩
    obtain ⟨k0, k1, k2, k3, k4⟩ := fin_cells (w := w2) (p := w.heap.size) (q := w.heap.size + 1) (by omega) z0 z1 z2 z3 z4 (.int .i64 k) (.int .i64 n) (.string s) (.slice al len cp) (.int .i64 0)
    have hbf : Below w.heap.size w ((set4 w2 w.heap.size (.int .i64 k) (.int .i64 n) (.string s) (.slice al len cp)).setCell ⟨w.heap.size + 1, 0, none⟩ (.int .i64 0)) := by
      unfold set4
      exact ((((((hB1.trans (hb2.mono (by omega))).setCell (Nat.le_refl _) _).setCell (Nat.le_refl _) _).setCell (Nat.le_refl _) _).setCell (Nat.le_refl _) _)).setCell (by simp) _
    have hxf : V.Own ((set4 w2 w.heap.size (.int .i64 k) (.int .i64 n) (.string s) (.slice al len cp)).setCell ⟨w.heap.size + 1, 0, none⟩ (.int .i64 0)) (fun b => w.heap.size ≤ b ∧ b < ((set4 w2 w.heap.size (.int .i64 k) (.int .i64 n) (.string s) (.slice al len cp)).setCell ⟨w.heap.size + 1, 0, none⟩ (.int .i64 0)).heap.size) x (.agg #[.int .i64 k, .int .i64 n, .string s, .slice al len cp]) := by
      refine V.Own.keep (fun b hb => ?_) (fun b hb => ⟨by omega, ?_⟩) x _ HX.out
      · rw [Below.heap_setCell _ _ _ _ (by simp; omega), set4_block b (by omega)]
      · rw [World.size_setCell, set4_size]; exact hb.2
    unfold set4 at k0 k1 k2 k3 k4 hbf hxf
    generalize ((((w2.setCell ⟨w.heap.size, 0, none⟩ (.int .i64 k)).setCell ⟨w.heap.size, 1, none⟩ (.int .i64 n)).setCell ⟨w.heap.size, 2, none⟩ (.string s)).setCell ⟨w.heap.size, 3, none⟩ (.slice al len cp)).setCell ⟨w.heap.size + 1, 0, none⟩ (.int .i64 0) = W at *
    simp [Leaves, settle, results, Try.results18, go_sem, k0, k1, k2, k3, k4, DecPost]
    exact ⟨hxf, hbf⟩

end Go.Proofs.Ytkecoohplpbgnaa
