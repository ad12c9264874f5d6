/- current returns what was written last. -/
import Derived.Test.YtmklchjgiaomkaaBck
namespace Go.Proofs.Ytmklchjgiaomkaa
open Go.RowKit Go.Shelf
attribute [local go_sem] Oper.semAt_some

/-- The last write to a sector, from behind. -/
theorem curOf_none (n : Int) (l : List (Int × By)) (z : By) (h : ∀ x ∈ l, x.1 ≠ n) : curOf n l z = z := by
  unfold curOf
  induction l generalizing z with
  | nil => rfl
  | cons x l ih =>
    rw [List.foldl_cons, if_neg (h x (by simp))]
    exact ih _ fun y hy => h y (List.mem_cons_of_mem _ hy)
theorem curOf_at (n : Int) (l : List (Int × By)) (z : By) (k : Nat) (hk : k < l.length) (h : l[k].1 = n) (hr : ∀ j (hj : j < l.length), k < j → l[j].1 ≠ n) : curOf n l z = l[k].2 := by
  have e : l = l.take k ++ l[k] :: l.drop (k + 1) := by rw [← List.drop_eq_getElem_cons hk, List.take_append_drop]
  have : curOf n (l.drop (k + 1)) l[k].2 = l[k].2 := curOf_none n _ _ fun x hx => by
    obtain ⟨j, hj, rfl⟩ := List.getElem_of_mem hx
    rw [List.getElem_drop]
    exact hr _ _ (by omega)
  rw [← this]
  conv => lhs; rw [e]
  unfold curOf
  rw [List.foldl_append, List.foldl_cons, if_pos h]

/-- What holds while writes come. -/
def CInv (w w2 : World) (l : List (Int × By)) (n : Int) (pre : List Nat) (W : World) : Prop :=
  (∀ j ∈ pre, ∀ h : j < l.length, l[j].1 ≠ n) ∧ Below w.heap.size w W ∧ Below w2.heap.size w2 W
/-- What holds where one has been found. -/
def CRet (w w2 : World) (l : List (Int × By)) (n : Int) (rb : Nat) (s : Nat → Option Addr × Nat × Nat) (c : Code) (pre : List Nat) (W : World) : Prop :=
  c = .ret ∧ Below w.heap.size w W ∧ w2.heap.size ≤ W.heap.size ∧ ∃ k, (∃ pr, pre = pr ++ [k] ∧ ∀ j ∈ pr, ∀ h : j < l.length, l[j].1 ≠ n) ∧ (∀ h : k < l.length, l[k].1 = n) ∧ W.cell? ⟨rb, 0, none⟩ = some (.slice (s k).1 (s k).2.1 (s k).2.2)

theorem cinv_own {w w2 : World} {l : List (Int × By)} {n : Int} (hw : w.heap.size ≤ w2.heap.size) : OwnFrom w2.heap.size (CInv w w2 l n) := by
  rintro pre W W' row ⟨h1, h2, h3⟩ hg hr
  have := h3.size
  exact ⟨h1, h2.grown hg (by omega) (fun k e => by have := (hr k e).1; omega), h3.grown hg this (fun k e => (hr k e).1)⟩
theorem cret_own {w w2 : World} {l : List (Int × By)} {n : Int} {rb : Nat} {s : Nat → Option Addr × Nat × Nat} (hw : w.heap.size ≤ w2.heap.size) (hrb : rb < w2.heap.size) (c : Code) : OwnFrom w2.heap.size (CRet w w2 l n rb s c) := by
  rintro pre W W' row ⟨h0, h1, h2, k, h3, h4, h5⟩ hg hr
  refine ⟨h0, h1.grown hg (by omega) (fun k e => by have := (hr k e).1; omega), Nat.le_trans h2 hg.size, k, h3, h4, ?_⟩
  exact (World.cell?_of_block (a := ⟨rb, 0, none⟩) (hg.block rb (by omega) (fun e => by have := (hr rb e.symm).1; omega))).trans h5

set_option maxRecDepth 100000 in
set_option maxHeartbeats 4000000 in
theorem current_any (w : World) (d : Dk) (v : Value) (n : Nat) (h : DkAt w w.heap.size v d) (hn : n < d.sec.length) (hk4 : d.sec.length ≤ 100000) (hp4 : d.pen.length ≤ 100000) :
    Calls Try.prog 34 #[v, .int .i64 n] w fun e w' => ∃ u, e = .returned u ∧ BytesAt w' w'.heap.size u (d.cur n) ∧ Below w.heap.size w w' := by
  obtain ⟨sa, cs, ap, cp, rfl, _, hc1, hc2, hp1, hp2, hS, hP⟩ := h.open
  obtain ⟨b, off, rfl, hb, hin⟩ := sec_get hS (by omega)
  obtain ⟨k, hk⟩ : ∃ k, d.sec.length = k := ⟨_, rfl⟩
  obtain ⟨q, hq⟩ : ∃ k, d.pen.length = k := ⟨_, rfl⟩
  have hcur : d.cur n = curOf n d.pen (d.sec[n]'hn) := by unfold Dk.cur; rw [Int.toNat_natCast, List.getD_eq_getElem?_getD, List.getElem?_eq_getElem hn]; rfl
  obtain ⟨a0, c0, s1, s2, s3, s4⟩ := hin.got n hn
  obtain ⟨S0, hS0⟩ : ∃ S0, d.sec[n]'hn = S0 := ⟨_, rfl⟩
  rw [hS0] at s1 s2 s4 hcur
  -- the writes
  obtain ⟨db, poff, hap, hdb, hpin⟩ : ∃ db poff, (q = 0 ∨ ap = some ⟨db, poff, none⟩) ∧ db < w.heap.size ∧ (q ≠ 0 → PenIn w w.heap.size db poff d.pen) := by
    by_cases h0 : q = 0
    · exact ⟨b, 0, .inl h0, hb, fun h => absurd h0 h⟩
    · obtain ⟨db, poff, rfl, h1, h2⟩ := pen_get hP (by omega)
      exact ⟨db, poff, .inr rfl, h1, fun _ => h2⟩
  obtain ⟨s, hs⟩ : ∃ s : Nat → Option Addr × Nat × Nat, ∀ x (hx : x < d.pen.length), w.cell? ⟨db, poff + x * 2, none⟩ = some (.int .i64 (d.pen[x].1)) ∧ w.cell? ⟨db, poff + x * 2 + 1, none⟩ = some (.slice (s x).1 (s x).2.1 (s x).2.2) ∧ BytesAt w w.heap.size (.slice (s x).1 (s x).2.1 (s x).2.2) d.pen[x].2 := by
    have each : ∀ x, x < d.pen.length → ∃ t : Option Addr × Nat × Nat, ∀ hx : x < d.pen.length, w.cell? ⟨db, poff + x * 2, none⟩ = some (.int .i64 (d.pen[x].1)) ∧ w.cell? ⟨db, poff + x * 2 + 1, none⟩ = some (.slice t.1 t.2.1 t.2.2) ∧ BytesAt w w.heap.size (.slice t.1 t.2.1 t.2.2) d.pen[x].2 := by
      intro x hx
      obtain ⟨_, h1, a, c, h2, _, _, h3⟩ := (hpin (by omega)).got x (by omega)
      exact ⟨(a, _, c), fun _ => ⟨h1, h2, h3⟩⟩
    obtain ⟨s, hs⟩ := Deep.choose_lt each
    exact ⟨s, fun x hx => hs x hx hx⟩
  obtain ⟨f, hf⟩ : ∃ f : Nat → Int, f = fun x => if h : x < d.pen.length then d.pen[x].1 else 0 := ⟨_, rfl⟩
  have hcells : ∀ x, x < q → w.cell? ⟨db, poff + x * 2, none⟩ = some (.int .i64 (f x)) ∧ w.cell? ⟨db, poff + x * 2 + 1, none⟩ = some (.slice (s x).1 (s x).2.1 (s x).2.2) := fun x hx => by
    obtain ⟨h1, h2, _⟩ := hs x (by omega)
    rw [hf]
    simp only [show x < d.pen.length by omega, dif_pos]
    exact ⟨h1, h2⟩
  rw [hcur]
  have HS := Lib.hid hs
  have HCELLS := Lib.hid hcells
  have HF := Lib.hid hf
  have HQ := Lib.hid hq
  have HK := Lib.hid hk
  have HS4 := Lib.hid s4
  have HS1 := Lib.hid s1
  obtain ⟨left, hle⟩ : ∃ x, d.left = x := ⟨_, rfl⟩
  obtain ⟨st, hst⟩ : ∃ x, d.stop = x := ⟨_, rfl⟩
  obtain ⟨S0l, hS0l⟩ : ∃ x, S0.length = x := ⟨_, rfl⟩
  rw [hS0l] at s2 HS1 HS4
  rw [hq] at hp1 hp4
  rw [hk] at hc1 hk4 hn
  rw [hle, hst, hk, hq]
  unfold maxLen at hc2 hp2 s3
  clear h hS hP hin hpin hcur hs hcells hf s4 s1 hS0 hS0l hle hst hk hq
  refine (callsIn_wide (n := 9)).1 ?_
  refine callsIn_of_wp_marks Try.func34 rfl trivial ?_ rfl
  simp only [Try.ntmps34, List.size_toArray, List.length_cons, List.length_nil, Nat.reduceAdd, Nat.reduceSub, Array.replicate_succ, Array.replicate_zero, List.push_toArray, List.append_toArray, List.nil_append, List.cons_append]
  gi_wp2_with fail
  obtain ⟨w0, hw0⟩ : ∃ w0, w0 = ((w.alloc (Obj.cells #[Value.slice (some ⟨b, off, none⟩) k cs, Value.slice ap q cp, Value.int IntKind.i64 left, Value.bool st] 25)).alloc (Obj.cells #[Value.int IntKind.i64 n] 3)).alloc (Obj.cells #[Value.slice none 0 0] 35) := ⟨_, rfl⟩
  rw [← hw0]
  have hz0 : w0.heap.size = w.heap.size + 3 := by rw [hw0]; simp
  have hB0 : Below w.heap.size w w0 := by rw [hw0]; go_grown
  have x0 : Cells4 w0 w.heap.size (Value.slice (some ⟨b, off, none⟩) k cs) (Value.slice ap q cp) (Value.int IntKind.i64 left) (Value.bool st) := by
    rw [hw0]; exact ((Cells4.new _ _ _ _ _ _).next ((Below.refl _ _).alloc (Nat.le_refl _) _)).next ((Below.refl _ _).alloc (Nat.le_refl _) _)
  have x1 : w0.cell? ⟨w.heap.size + 1, 0, none⟩ = some (.int .i64 n) := by rw [hw0]; go_cell
  have x2 : w0.cell? ⟨w.heap.size + 1 + 1, 0, none⟩ = some (.slice none 0 0) := by rw [hw0]; go_cell
  have x3 : w0.frozen? ⟨w.heap.size + 1 + 1, 0, none⟩ = false := by rw [hw0]; go_cell
  refine ⟨trivial, ?_⟩
  refine (callsIn_wide.2 (back_any _ _ _ _)).mono ?_
  rintro e w2 ⟨rfl, hbs, hB2, hz2⟩
  have hB02 : Below w.heap.size w w2 := hB0.trans (hB2.mono (by omega))
  have y0 := x0.next hB2
  have y1 := (hB2.cell (p := ⟨w.heap.size + 1, 0, none⟩) (by show w.heap.size + 1 < _; omega)).trans x1
  have y2 := (hB2.cell (p := ⟨w.heap.size + 1 + 1, 0, none⟩) (by show w.heap.size + 1 + 1 < _; omega)).trans x2
  have y3 := (hB2.frozen (p := ⟨w.heap.size + 1 + 1, 0, none⟩) (by show w.heap.size + 1 + 1 < _; omega)).trans x3
  obtain ⟨g, hg⟩ : ∃ g, w.heap.size = g := ⟨_, rfl⟩
  obtain ⟨bs, hbsq⟩ : ∃ g, w0.heap.size = g := ⟨_, rfl⟩
  rw [hg] at y0 y1 y2 y3 ⊢
  rw [hbsq] at hbs ⊢
  have hgz : g + 4 = w2.heap.size := by omega
  have hbz : bs = g + 3 := by omega
  have HB02 := Lib.hid hB02
  have HC2 := Lib.hid (show ∀ x, x < q → w2.cell? ⟨db, poff + x * 2, none⟩ = some (.int .i64 (f x)) ∧ w2.cell? ⟨db, poff + x * 2 + 1, none⟩ = some (.slice (s x).1 (s x).2.1 (s x).2.2) from fun x hx =>
    ⟨(hB02.cell (p := ⟨db, poff + x * 2, none⟩) hdb).trans (HCELLS.out x hx).1, (hB02.cell (p := ⟨db, poff + x * 2 + 1, none⟩) hdb).trans (HCELLS.out x hx).2⟩)
  have HY := Lib.hid (And.intro y0 (And.intro y1 (And.intro y2 y3)))
  have HBS := Lib.hid hbs
  have HG := Lib.hid hg
  have HGZ := Lib.hid hgz
  have HBZ := Lib.hid hbz
  clear hw0 hz0 hB0 x0 x1 x2 x3 hB2 hz2 hB02 y0 y1 y2 y3 hbs hg hbsq hgz hbz HCELLS
  gi_wp2_with fail
  refine wpIn_rangeFunc_ownH rfl (by omega) (gf := 40) (lb := #[.pointer (some ⟨bs, 0, none⟩)]) rfl trivial (enters_of Try.func40 (by kernel_rfl) rfl)
    (back_stops 8 (by omega) bs w2.heap.size db poff q cp ap hap (by omega) (by have := HGZ.out; have := HBZ.out; omega) (by have := HGZ.out; have := HG.out; omega) f s w2 (Nat.le_refl _) HBS.out HC2.out)
    Below.trans (belowK_b (Nat.le_refl _)) (Below.refl _ _) (fun _ => rfl)
    (CInv w w2 d.pen n) (CRet w w2 d.pen n (g + 1 + 1) s) (cinv_own (by have := HGZ.out; have := HG.out; omega)) (cret_own (by have := HGZ.out; have := HG.out; omega) (by have := HGZ.out; omega)) ⟨fun j hj => absurd hj (by simp), HB02.out, Below.refl _ _⟩
    (fun x a' W => ∃ g', a' = { tmps := #[.agg #[.slice (some ⟨b, off, none⟩) k cs, .slice ap q cp, .int .i64 left, .bool st], .int .i64 n, .pointer (some ⟨g, 0, none⟩), .pointer (some ⟨g + 1, 0, none⟩), .pointer (some ⟨g + 1 + 1, 0, none⟩), undef, .pointer (some ⟨g', 0, none⟩), .pointer (some ⟨g, 1, none⟩), .slice ap q cp, .func (.func 40) #[] #[.pointer (some ⟨bs, 0, none⟩)], .int .i64 x, pv f s x, undef, undef, undef, undef, undef, undef, undef, undef, undef, undef, undef], defers := [] } ∧
      W.cell? ⟨g', 0, none⟩ = some (.int .i64 (f x)) ∧ W.cell? ⟨g', 1, none⟩ = some (.slice (s x).1 (s x).2.1 (s x).2.2)) ?hax ?assign ?body ?done ?stop
  case hax =>
    rintro x a' u W W' row ⟨g', h1, h2, h3⟩ hg hr
    exact ⟨g', h1, cell_kept h2 hg (fun r e => (hr r e).2), cell_kept h3 hg (fun r e => (hr r e).2)⟩
  case assign =>
    intro l pre x W K hI hK
    have HI := Lib.hid hI
    have HKK := Lib.hid hK
    clear hI hK
    unfold pv
    gi_wp2
    have hsz := HI.out.2.2.size
    exact HKK.out _ _ ((KeepsOthers.alloc W _).from _) ((Below.refl _ _).alloc hsz _) ⟨HI.out.1, HI.out.2.1.alloc (by have := HI.out.2.1.size; omega) _, HI.out.2.2.alloc hsz _⟩ ⟨W.heap.size, rfl, by go_cell, by go_cell⟩
  case body =>
    rintro l pre x a' W _ _ hI ⟨g', rfl, e0, e1⟩ hlen
    have HI := Lib.hid hI
    obtain ⟨y0, y1, y2, y3⟩ := HY.out
    have z1 : W.cell? ⟨g + 1, 0, none⟩ = some (.int .i64 n) := (hI.2.2.cell (p := ⟨g + 1, 0, none⟩) (by have := HGZ.out; show g + 1 < _; omega)).trans y1
    have z2 : W.cell? ⟨g + 1 + 1, 0, none⟩ = some (.slice none 0 0) := (hI.2.2.cell (p := ⟨g + 1 + 1, 0, none⟩) (by have := HGZ.out; show g + 1 + 1 < _; omega)).trans y2
    have z3 : W.frozen? ⟨g + 1 + 1, 0, none⟩ = false := (hI.2.2.frozen (p := ⟨g + 1 + 1, 0, none⟩) (by have := HGZ.out; show g + 1 + 1 < _; omega)).trans y3
    have hfx : ∀ h : x < d.pen.length, f x = d.pen[x].1 := fun h => by rw [HF.out]; simp only [h, dif_pos]
    have HFX := Lib.hid hfx
    clear hI y0 y1 y2 y3 hfx
    by_cases hx : f x = n
    · have hd : (f x == (n : Int)) = true := by simpa using hx
      have hw := HI.out.2.1
      have hfin : ∀ v, CRet w w2 d.pen n (g + 1 + 1) s .ret (pre ++ [x]) (W.setCell ⟨g + 1 + 1, 0, none⟩ (.slice (s x).1 (s x).2.1 (s x).2.2)) ∧ v = v := fun (v : Nat) =>
        ⟨⟨rfl, hw.setCell (p := ⟨g + 1 + 1, 0, none⟩) (by have := HG.out; show w.heap.size ≤ g + 1 + 1; omega) _, by simpa using HI.out.2.2.size, x, ⟨pre, rfl, HI.out.1⟩, fun h => by rw [← HFX.out h]; exact hx, World.cell?_setCell_same _ _ _ z2⟩, rfl⟩
      have HFIN := Lib.hid hfin
      have hks := Lib.hid (show KeepsFrom w2.heap.size W (W.setCell ⟨g + 1 + 1, 0, none⟩ (.slice (s x).1 (s x).2.1 (s x).2.2)) from (KeepsOthers.setCell W _ _).from _)
      have HX := Lib.hid hx
      clear hfin hw hx
      gi_wp2
      exact ⟨hks.out, (HFIN.out 0).1⟩
    · have hd : (f x == (n : Int)) = false := by simpa using hx
      have HX := Lib.hid hx
      clear hx
      gi_wp2
      refine ⟨KeepsFrom.refl _ _, Below.refl _ _, fun j hj h => ?_, HI.out.2.1, HI.out.2.2⟩
      rcases List.mem_append.1 hj with hj | hj
      · exact HI.out.1 j hj h
      · simp only [List.mem_singleton] at hj
        subst hj
        rw [← HFX.out h]; exact HX.out
  case done =>
    rintro D ys W hD rfl hI hK
    obtain ⟨y0, y1, y2, y3⟩ := HY.out
    obtain ⟨z00, z01, z02, z03⟩ := y0.next hI.2.2
    have z1 : W.cell? ⟨g + 1, 0, none⟩ = some (.int .i64 n) := (hI.2.2.cell (p := ⟨g + 1, 0, none⟩) (by have := HGZ.out; show g + 1 < _; omega)).trans y1
    have z2 : W.cell? ⟨g + 1 + 1, 0, none⟩ = some (.slice none 0 0) := (hI.2.2.cell (p := ⟨g + 1 + 1, 0, none⟩) (by have := HGZ.out; show g + 1 + 1 < _; omega)).trans y2
    have z3 : W.frozen? ⟨g + 1 + 1, 0, none⟩ = false := (hI.2.2.frozen (p := ⟨g + 1 + 1, 0, none⟩) (by have := HGZ.out; show g + 1 + 1 < _; omega)).trans y3
    have z4 : W.cell? ⟨b, off + n, none⟩ = some (.slice a0 S0l c0) := (hI.2.1.cell (p := ⟨b, off + n, none⟩) hb).trans HS1.out
    have hnone : curOf n d.pen S0 = S0 := curOf_none _ _ _ fun x hx => by
      obtain ⟨j, hj, rfl⟩ := List.getElem_of_mem hx
      exact hI.1 j (by rw [dn, List.drop_zero, List.mem_reverse, List.mem_range, ← HQ.out]; exact hj) hj
    have HN := Lib.hid hnone
    have HI := Lib.hid hI
    have HK := Lib.hid hK
    have HD := Lib.hid hD
    have z5 := World.cell?_setCell_same W ⟨g + 1 + 1, 0, none⟩ (.slice a0 S0l c0) z2
    have HZ5 := Lib.hid z5
    clear y0 y1 y2 y3 hnone hI hK hD z5
    gi_wp2_with fail
    have hlt : w2.heap.size ≤ W.heap.size := HI.out.2.2.size
    have hKD : (W.setCell ⟨g + 1 + 1, 0, none⟩ (.slice a0 S0l c0)).heap[D]? = some (.deferred (some [])) := (KeepsOthers.setCell W _ _).same D _ HK.out rfl
    have hB3 := belowK_b (n₀ := w2.heap.size) (w := w2) (Nat.le_refl _) _ D _ (.deferred none) HD.out hKD rfl rfl
    have hB4 : Below w.heap.size w (W.setCell ⟨g + 1 + 1, 0, none⟩ (.slice a0 S0l c0)) := HI.out.2.1.setCell (p := ⟨g + 1 + 1, 0, none⟩) (by have := HG.out; show w.heap.size ≤ g + 1 + 1; omega) _
    have hB5 := hB4.trans (hB3.mono (by have := HGZ.out; have := HG.out; omega))
    have hcell := (hB3.cell (p := ⟨g + 1 + 1, 0, none⟩) (by have := HGZ.out; show g + 1 + 1 < _; omega)).trans HZ5.out
    refine ⟨by simp, .inl ⟨_, _, rfl, run_takeDeferred hKD, ?_⟩⟩
    refine ⟨.slice a0 S0l c0, by simp [results, Try.results34, go_sem, hcell], _, rfl, ?_, hB5⟩
    rw [HN.out]
    exact (HS4.out.below hB5).mono hB5.size
  case stop =>
    rintro D c pre W hD ⟨k', hk', rfl⟩ ⟨rfl, hB, hsz, k1, ⟨pr, hpr, hj⟩, hk1, hcell⟩ hKD
    rw [← dn_step q k' hk'] at hpr
    obtain ⟨hpr1, hpr2⟩ := List.append_inj' hpr rfl
    obtain rfl : k' = k1 := by simpa using hpr2
    subst hpr1
    have hkl : k' < d.pen.length := by rw [HQ.out]; exact hk'
    have hcur : curOf n d.pen S0 = d.pen[k'].2 := curOf_at _ _ _ k' hkl (hk1 hkl) fun j hjl hlt => hj j (by
      rw [dn, List.mem_reverse, List.mem_drop_iff_getElem]
      refine ⟨j - (k' + 1), by rw [List.length_range]; have := HQ.out; omega, ?_⟩
      simp; omega) hjl
    have hby := (HS.out k' hkl).2.2
    have hB3 := belowK_b (n₀ := w2.heap.size) (w := w2) (Nat.le_refl _) W D _ (.deferred none) hD hKD rfl rfl
    have hB5 := hB.trans (hB3.mono (by have := HGZ.out; have := HG.out; omega))
    have hcell' := (hB3.cell (p := ⟨g + 1 + 1, 0, none⟩) (by have := HGZ.out; show g + 1 + 1 < _; omega)).trans hcell
    have H5 := Lib.hid hB5
    have HC5 := Lib.hid hcell'
    have HKD := Lib.hid hKD
    have HCU := Lib.hid hcur
    have HBY := Lib.hid hby
    clear hB3 hB5 hcell' hKD hcur hby hcell hpr hpr2 hj hk1 hB
    gi_wp2
    refine ⟨by simp, .inl ⟨_, _, rfl, run_takeDeferred HKD.out, ?_⟩⟩
    have hcl := HC5.out
    refine ⟨.slice (s k').1 (s k').2.1 (s k').2.2, by simp [results, Try.results34, go_sem, hcl], _, rfl, ?_, H5.out⟩
    rw [HCU.out]
    exact (HBY.out.below H5.out).mono H5.out.size
end Go.Proofs.Ytmklchjgiaomkaa
