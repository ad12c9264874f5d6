/- extended and slices.Clone: new rows. -/
import Derived.Test.YtmklchjgiaomkaaRow
namespace Go.Proofs.Ytmklchjgiaomkaa
open Go.RowKit

theorem copy_cells2 (w : World) (dT sT ty elem : TypeId) (b o dLen dCap : Nat) (a : Addr) (sLen sCap : Nat) (cs : List Value)
    (hu : Try.prog.underlying dT = some (.slice elem)) (hs : (Try.prog.info? elem).map (·.size) = some 2) (hn : cs.length = Nat.min sLen dLen * 2)
    (hsrc : ∀ j v, cs[j]? = some v → w.cell? (a.add j) = some v) (hc : ∀ j, j < cs.length → (w.cell? ⟨b, o + j, none⟩).isSome = true) (hf : ∀ j, j < cs.length → w.frozen? ⟨b, o + j, none⟩ = false) (h1 : ∀ v ∈ cs, v.oneCell' = true) :
    (Builtin.copy_ #[dT, sT] ty #[.slice (some ⟨b, o, none⟩) dLen dCap, .slice (some a) sLen sCap]).run Try.prog w = .ok (goInt (Nat.min sLen dLen)) (w.setCells b o cs) := by
  have hl := run_loadCells_list (P := Try.prog) w a cs hsrc
  have hst := run_storeCells_cells (P := Try.prog) b o cs 0 w (by simpa using hc) (by simpa using hf) h1
  cases hq : Try.prog.info? elem with
  | none => simp [hq] at hs
  | some i =>
    have hi : i.size = 2 := by simpa [hq] using hs
    simp [Builtin.copy_, run_underlying hu, Builtin.lenOf, Builtin.firstCells, sizeOf, typeInfo, hq, hi, ← hn, hl, hst]

theorem made_pen (n : Nat) : (madeCells #[Value.int .i64 0, Value.slice none 0 0] (n * 2)).toList = (List.replicate n [Value.int .i64 0, Value.slice none 0 0]).flatten := by
  refine List.ext_getElem? fun i => ?_
  have : ∀ n, (List.replicate n [Value.int .i64 0, Value.slice none 0 0]).flatten.length = n * 2 := fun n => by simp
  have key : ∀ n i, (List.replicate n [Value.int .i64 0, Value.slice none 0 0]).flatten[i]? = if i < n * 2 then some (if i % 2 = 0 then Value.int .i64 0 else Value.slice none 0 0) else none := by
    intro n
    induction n with
    | zero => intro i; simp
    | succ n ih =>
      intro i
      rw [List.replicate_succ, List.flatten_cons]
      match i with
      | 0 => simp
      | 1 => simp; omega
      | i + 2 =>
        rw [List.getElem?_append_right (by simp)]
        simp only [List.length_cons, List.length_nil, Nat.zero_add, Nat.reduceAdd, Nat.add_sub_cancel]
        rw [ih i]
        simp only [show (i + 2) % 2 = i % 2 by omega]
        by_cases h : i < n * 2
        · rw [if_pos h, if_pos (show i + 2 < (n + 1) * 2 by omega)]
        · rw [if_neg h, if_neg (show ¬ i + 2 < (n + 1) * 2 by omega)]
  rw [key]
  unfold madeCells
  by_cases h : i < n * 2
  · rw [if_pos h, Array.getElem?_toList, Array.getElem?_map, Array.getElem?_range, if_pos h]
    rcases Nat.mod_two_eq_zero_or_one i with e | e
    · simp [e]
    · simp [e]
  · rw [if_neg h, Array.getElem?_toList, Array.getElem?_map, Array.getElem?_range, if_neg h]; rfl
theorem made_sec (n : Nat) : (madeCells #[Value.slice none 0 0] (n * 1)).toList = List.replicate n (Value.slice none 0 0) := by
  refine List.ext_getElem (by simp [madeCells]) fun i h1 h2 => ?_
  simp [madeCells, Nat.mod_one]
theorem make_pen (w : World) (n : Nat) (z : Int) (hz : z = n) (hn : n ≤ 100000) : ∃ W, (Instr.makeSlice 23 (.int .i64 z) (.int .i64 z)).run Try.prog w = .ok (.slice (some ⟨w.heap.size, 0, none⟩) n n) W ∧ Arr W w.heap.size (List.replicate n [Value.int .i64 0, Value.slice none 0 0]).flatten ∧ Below w.heap.size w W ∧ w.heap.size < W.heap.size := by
  subst hz
  obtain ⟨i0, hi, hz0, hz1, hz2⟩ := info_parts Try.info54
  have := run_make (P := Try.prog) w 23 54 i0 _ Try.underlying23 hi hz0 .i64 .i64 n n (by omega) (by omega) (by rw [hz2]; omega) (by omega)
  rw [hz1, Int.toNat_natCast] at this
  have hA := Arr.new w (madeCells (Value.agg #[.int .i64 0, .slice none 0 0]).cells (n * 2)) 54
  rw [show (Value.agg #[.int .i64 0, .slice none 0 0]).cells = #[Value.int .i64 0, Value.slice none 0 0] from rfl, made_pen] at hA
  exact ⟨_, this, hA, (Below.refl _ _).alloc (Nat.le_refl _) _, by simp⟩
theorem make_sec (w : World) (n : Nat) (z : Int) (hz : z = n) (hn : n ≤ 100000) : ∃ W, (Instr.makeSlice 22 (.int .i64 z) (.int .i64 z)).run Try.prog w = .ok (.slice (some ⟨w.heap.size, 0, none⟩) n n) W ∧ Arr W w.heap.size (List.replicate n (Value.slice none 0 0)) ∧ Below w.heap.size w W ∧ w.heap.size < W.heap.size := by
  subst hz
  obtain ⟨i0, hi, hz0, hz1, hz2⟩ := info_parts Try.info35
  have := run_make (P := Try.prog) w 22 35 i0 _ Try.underlying22 hi hz0 .i64 .i64 n n (by omega) (by omega) (by rw [hz2]; omega) (by omega)
  rw [hz1, Int.toNat_natCast] at this
  have hA := Arr.new w (madeCells (Value.slice none 0 0).cells (n * 1)) 35
  rw [show (Value.slice none 0 0).cells = #[Value.slice none 0 0] from rfl, made_sec] at hA
  exact ⟨_, this, hA, (Below.refl _ _).alloc (Nat.le_refl _) _, by simp⟩

theorem pen_copy (W : World) (g n m : Nat) (v : Value) (l : List (Int × By)) (c : List Value) (hA : Arr W g c) (hc : c.length = n * 2) (hln : l.length = m) (B : Nat) (hB : B ≤ W.heap.size) (hv : PenAt W B v l) (hn : m ≤ n) :
    ∃ W1 cs, (Builtin.copy_ #[23, 23] 3 #[.slice (some ⟨g, 0, none⟩) n n, v]).run Try.prog W = .ok (goInt m) W1 ∧ penCells W (· < B) l cs ∧ Arr W1 g (cs ++ c.drop (m * 2)) ∧ Below g W W1 := by
  subst hln
  obtain ⟨a, cap', rfl, hc', hm, h⟩ := hv
  rcases h with rfl | ⟨db, off, rfl, hdb, hb⟩
  · refine ⟨W, [], ?_, ⟨rfl, fun i hi => absurd hi (by simp)⟩, by simpa using hA, Below.refl _ _⟩
    cases hq : Try.prog.info? 54 with
    | none => have := Try.size54; simp [hq] at this
    | some i =>
      have hl : ∀ (x : Addr), (loadCells x 0).run Try.prog W = .ok #[] W := fun x => by simpa using run_loadCells_list (P := Try.prog) W x [] (by simp)
      cases a <;> simp [Builtin.copy_, run_underlying Try.underlying23, Builtin.lenOf, Builtin.firstCells, sizeOf, typeInfo, hq, storeCells, hl]
  · obtain ⟨cs, h1, h2⟩ := hb.cells hB
    have hmn : Nat.min l.length n = l.length := Nat.min_eq_left hn
    refine ⟨W.setCells g 0 cs, cs, ?_, h1, ?_, below_setCells (Nat.le_refl _) _ _ _ (Below.refl _ _)⟩
    · have := copy_cells2 W 23 23 3 54 g 0 n n ⟨db, off, none⟩ l.length cap' cs Try.underlying23 Try.size54 (by rw [h1.1, hmn])
        (fun j v hv => by rw [Addr.add_mid]; exact h2 j v hv)
        (fun j hj => by simpa using (hA.there j (by rw [h1.1] at hj; omega)).1) (fun j hj => by simpa using (hA.there j (by rw [h1.1] at hj; omega)).2) (one_pen h1)
      rwa [hmn] at this
    · have := hA.over (l := cs) (by rw [h1.1]; omega)
      rwa [h1.1] at this

set_option maxHeartbeats 1000000 in
/-- extended lays a new row. -/
theorem extended_any (w : World) (v : Value) (l : List (Int × By)) (n : Int) (b : By) (u : Value) (B : Nat) (P : Nat → Prop) (hBw : B ≤ w.heap.size) (hv : PenAt w B v l) (hl : l.length ≤ 4096) (hn : In64 n) (hu : BytesOn w P u b) :
    Calls Try.prog 33 #[v, .agg #[.int .i64 n, u]] w fun e w' => ∃ g cap cs, e = .returned (.slice (some ⟨g, 0, none⟩) (l.length + 1) cap) ∧ l.length + 1 ≤ cap ∧ cap ≤ maxLen ∧ w.heap.size ≤ g ∧ g < w'.heap.size ∧ Arr w' g cs ∧ penCells w' (fun x => x < B ∨ P x) (l ++ [(n, b)]) cs ∧ Below w.heap.size w w' := by
  obtain ⟨ua, uc, rfl, _, _⟩ := on_shape hu
  obtain ⟨q, hq⟩ : ∃ q, b.length = q := ⟨_, rfl⟩
  rw [hq] at hu ⊢
  have HV := hv
  obtain ⟨a, cap, rfl, hc1, hc2, _⟩ := hv
  obtain ⟨p, hp⟩ : ∃ k, l.length = k := ⟨_, rfl⟩
  rw [hp] at hl HV hc1 ⊢
  obtain ⟨w0, hw0⟩ : ∃ w0, w0 = (w.alloc (Obj.cells #[Value.int IntKind.i64 n, Value.slice ua q uc] 54)) := ⟨_, rfl⟩
  have hB0 : Below w.heap.size w w0 := by rw [hw0]; go_grown
  have hz0 : w0.heap.size = w.heap.size + 1 := by rw [hw0]; simp
  have i0 : w0.cell? ⟨w.heap.size, 0, none⟩ = some (.int .i64 n) := by rw [hw0]; go_cell
  have i1 : w0.cell? ⟨w.heap.size, 1, none⟩ = some (.slice ua q uc) := by rw [hw0]; go_cell
  obtain ⟨W1, hmk, hA1, hB1, hz1⟩ := make_pen w0 (p + 1) ((p : Int) + 1) (by omega) (by omega)
  obtain ⟨W2, cs, hcp, hpc, hA2, hB2⟩ := pen_copy W1 w0.heap.size (p + 1) p _ l _ hA1 (by simp) hp B (by have := hB1.size; omega) ((HV.below (hB0.mono hBw)).below (hB1.mono (by omega))) (by omega)
  have hBB : Below w.heap.size w W2 := hB0.trans ((hB1.mono (by omega)).trans (hB2.mono (by omega)))
  have hB02 : Below w0.heap.size w0 W2 := hB1.trans hB2
  rw [show (List.replicate (p + 1) [Value.int .i64 0, Value.slice none 0 0]).flatten.drop (p * 2) = [Value.int .i64 0, Value.slice none 0 0] by
    rw [List.replicate_succ', List.flatten_append, List.drop_left' (by simp)]; rfl] at hA2
  have hcl : cs.length = p * 2 := by rw [hpc.1, hp]
  have j0 : W2.cell? ⟨w.heap.size, 0, none⟩ = some (.int .i64 n) := (hB02.cell (p := ⟨w.heap.size, 0, none⟩) (by show w.heap.size < _; omega)).trans i0
  have j1 : W2.cell? ⟨w.heap.size, 1, none⟩ = some (.slice ua q uc) := (hB02.cell (p := ⟨w.heap.size, 1, none⟩) (by show w.heap.size < _; omega)).trans i1
  have k0 : W2.cell? ⟨w0.heap.size, p * 2, none⟩ = some (.int .i64 0) := hA2.cell (by rw [List.getElem?_append_right (by omega), hcl, Nat.sub_self]; rfl)
  have k1 : W2.cell? ⟨w0.heap.size, p * 2 + 1, none⟩ = some (.slice none 0 0) := hA2.cell (by rw [List.getElem?_append_right (by omega), hcl, show p * 2 + 1 - p * 2 = 1 by omega]; rfl)
  have f0 : W2.frozen? ⟨w0.heap.size, p * 2, none⟩ = false := hA2.frozen (by simp; omega)
  have f1 : W2.frozen? ⟨w0.heap.size, p * 2 + 1, none⟩ = false := hA2.frozen (by simp; omega)
  obtain ⟨g, hg⟩ : ∃ g, w0.heap.size = g := ⟨_, rfl⟩
  rw [hg] at hmk hcp hA2 k0 k1 f0 f1 hB2
  have hfin : Arr ((W2.setCell ⟨g, p * 2, none⟩ (.int .i64 n)).setCell ⟨g, p * 2 + 1, none⟩ (.slice ua q uc)) g (cs ++ [.int .i64 n, .slice ua q uc]) ∧ penCells ((W2.setCell ⟨g, p * 2, none⟩ (.int .i64 n)).setCell ⟨g, p * 2 + 1, none⟩ (.slice ua q uc)) (fun x => x < B ∨ P x) (l ++ [(n, b)]) (cs ++ [.int .i64 n, .slice ua q uc]) ∧ g < ((W2.setCell ⟨g, p * 2, none⟩ (.int .i64 n)).setCell ⟨g, p * 2 + 1, none⟩ (.slice ua q uc)).heap.size := by
    have hA3 := (hA2.set (p * 2) (.int .i64 n)).set (p * 2 + 1) (.slice ua q uc)
    rw [List.set_append_right _ _ (by omega), hcl, Nat.sub_self, List.set_append_right _ _ (by omega), hcl, show p * 2 + 1 - p * 2 = 1 by omega] at hA3
    have hB3 : Below w.heap.size W2 ((W2.setCell ⟨g, p * 2, none⟩ (.int .i64 n)).setCell ⟨g, p * 2 + 1, none⟩ (.slice ua q uc)) := ((Below.refl w.heap.size W2).setCell (p := ⟨g, p * 2, none⟩) (by show _ ≤ g; omega) _).setCell (p := ⟨g, p * 2 + 1, none⟩) (by show _ ≤ g; omega) _
    have hgl := hA2.lt (by simp)
    have hBB3 := hBB.trans hB3
    have hz12 := hB2.size
    refine ⟨hA3, penCells.snoc ?_ hn ?_, by simpa using hgl⟩
    · exact hpc.keep (fun x hx _ => (hB3.block x (by have : x < B := hx; omega)).trans (hB2.block x (by have : x < B := hx; omega))) (fun x hx _ => .inl hx) (Nat.le_trans hB2.size hB3.size)
    · exact hu.keep (fun x _ hx => hBB3.block x hx) (fun x hx _ => .inr hx) hBB3.size
  have hBfin : Below w.heap.size w ((W2.setCell ⟨g, p * 2, none⟩ (.int .i64 n)).setCell ⟨g, p * 2 + 1, none⟩ (.slice ua q uc)) := (hBB.setCell (p := ⟨g, p * 2, none⟩) (by show _ ≤ g; omega) _).setCell (p := ⟨g, p * 2 + 1, none⟩) (by show _ ≤ g; omega) _
  have HM := Lib.hid hmk
  have HCP := Lib.hid hcp
  have HF := Lib.hid hfin
  have HBF := Lib.hid hBfin
  have HW0 := Lib.hid hw0
  have HG := Lib.hid hg
  have HZ0 := Lib.hid hz0
  clear hmk hcp hfin hBfin hA1 hA2 hB1 hB2 hB0 hBB hB02 hpc hcl i0 i1 hu HV hw0 hz0 hz1 hg hp hq
  go_enter Try.func33, Try.ntmps33
  rw [HW0.out] at HM
  go_wp2_with (first | refine wpList_make_run rfl 23 _ _ rfl _ _ _ _ (by rfl) (by rfl) HM.out ?_ | refine wpList_copy_run rfl (.tmp 10) (.tmp 11) 23 23 rfl _ _ _ _ (by rfl) (by rfl) HCP.out ?_)
  go_ret
  exact ⟨g, p + 1, _, rfl, Nat.le_refl _, by unfold maxLen; omega, by have := HG.out; have := HZ0.out; omega, HF.out.2.2, HF.out.1, HF.out.2.1, HBF.out⟩
end Go.Proofs.Ytmklchjgiaomkaa
