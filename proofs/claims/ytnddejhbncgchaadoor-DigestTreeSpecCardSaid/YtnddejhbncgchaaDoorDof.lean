/- The law's own reader: the digests that bytes determine. No conditions but that the bytes can be read. -/
import Derived.Test.YtnddejhbncgchaaDoorTree
import Derived.Deep.AppendLies
namespace Go.Proofs.YtnddejhbncgchaaDoor
open Go.RowKit

def d32 (x y : Nat) : List UInt8 := UInt8.ofNat x :: UInt8.ofNat y :: List.replicate 30 0
theorem d32_len (x y : Nat) : (d32 x y).length = 32 := by simp [d32]
/-- The first n digests that the bytes b determine. -/
def dsTo (b : List UInt8) (n : Nat) : List (List UInt8) := (List.range n).map fun i => d32 ((b.getD i 0).toNat % 4) (i / 8)
theorem dsTo_len (b : List UInt8) (n : Nat) : (dsTo b n).length = n := by simp [dsTo]
theorem dsTo_32 (b : List UInt8) (n : Nat) : ∀ d ∈ dsTo b n, d.length = 32 := fun d hd => by
  obtain ⟨i, _, rfl⟩ := List.mem_map.1 hd; exact d32_len _ _
def dsOf (b : List UInt8) : List (List UInt8) := dsTo b (min b.length 24)
theorem dsOf_len (b : List UInt8) : (dsOf b).length = min b.length 24 := dsTo_len _ _
theorem dsOf_32 (b : List UInt8) : ∀ d ∈ dsOf b, d.length = 32 := dsTo_32 _ _
def flat (ds : List (List UInt8)) : List Value := ds.flatMap cells8
theorem flat_snoc (ds : List (List UInt8)) (d : List UInt8) : flat (ds ++ [d]) = flat ds ++ cells8 d := by simp [flat]
theorem dsTo_succ (b : List UInt8) (n : Nat) : dsTo b (n + 1) = dsTo b n ++ [d32 ((b.getD n 0).toNat % 4) (n / 8)] := by simp [dsTo, List.range_succ]
theorem flat_at : ∀ (ds : List (List UInt8)), (∀ d ∈ ds, d.length = 32) → ∀ (i : Nat) (hi : i < ds.length) (j : Nat) (v : Value), (cells8 ds[i])[j]? = some v → (flat ds)[i * 32 + j]? = some v
  | [], _, i, hi, _, _, _ => absurd hi (by simp)
  | d :: ds, h, 0, _, j, v, hv => by
    have hj : j < (cells8 d).length := by
      rcases Nat.lt_or_ge j (cells8 d).length with h | h
      · exact h
      · rw [List.getElem_cons_zero, List.getElem?_eq_none h] at hv; cases hv
    show (cells8 d ++ flat ds)[0 * 32 + j]? = some v
    rw [Nat.zero_mul, Nat.zero_add, List.getElem?_append_left hj]; exact hv
  | d :: ds, h, i + 1, hi, j, v, hv => by
    have hl : (cells8 d).length = 32 := by rw [cells8_len]; exact h d (by simp)
    show (cells8 d ++ flat ds)[(i + 1) * 32 + j]? = some v
    rw [List.getElem?_append_right (by rw [hl]; omega), hl, show (i + 1) * 32 + j - 32 = i * 32 + j by omega]
    exact flat_at ds (fun x hx => h x (List.mem_cons_of_mem _ hx)) i (by simpa using hi) j v (by simpa using hv)
theorem own_digs {W : World} {B : Nat} {v : Value} {ds : List (List UInt8)} (h : W.ownsRow B 26 32 v ds.length (flat ds)) (h32 : ∀ d ∈ ds, d.length = 32) : Digs W W.heap.size v ds := by
  refine ⟨h32, ?_⟩
  have hlt := h.lt
  have hcl := @World.ownsRow.cells _ _ _ _ _ _ _ h
  rcases h.2 with ⟨rfl, h0⟩ | ⟨g, cap, cur, rfl, hb, hg, hn, hc, hcs, ht⟩
  · exact ⟨none, 0, by rw [h0], by omega, by unfold maxLen; omega, .inl (List.eq_nil_of_length_eq_zero h0)⟩
  · refine ⟨some ⟨g, 0, none⟩, cap, rfl, hn, hc, .inr ⟨g, 0, rfl, (hlt g rfl).2, fun i hi j u hu => ?_⟩⟩
    have := hcl (g := g) rfl (i * 32 + j) u (flat_at ds h32 i hi j u hu)
    rw [Addr.add_mid] at this
    rw [← this]; congr 2; omega

theorem Tryd.info26z : (Tryd.prog.info? 26).map (fun i => (i.zero, i.size, i.bytes)) = some (some (.agg (Array.replicate 32 (.int .u8 0))), 32, 32) := by kernel_rfl
theorem own_keep {W W' : World} {B e size n : Nat} {v : Value} {xs : List Value} (h : W.ownsRow B e size v n xs) (hb : Below W.heap.size W W') : W'.ownsRow B e size v n xs := by
  refine World.ownsRow.kept h (gbelow (row := none) hb) ?_
  cases hv : v.ownBlock with
  | none => exact .inl rfl
  | some k => exact .inr (by simp)
theorem below_grow {B : Nat} {w W W' : World} {row : Option Nat} (h : Below B w W) (hg : W.grownBy W' row) (hr : ∀ k, row = some k → B ≤ k) (hB : B ≤ W.heap.size) : Below B w W' :=
  ⟨hg.os.trans h.os, hg.tape.trans h.tape, hg.output.trans h.output, Nat.le_trans h.size hg.size, fun i hi => (hg.block i (by omega) (fun e => by have := hr i e.symm; omega)).trans (h.block i hi)⟩

/-- A build, and a slice that is built, whose runs are known. -/
theorem wpList_build_run {P : Program} {ops : Array Oper} {rest : List Oper} {o : Oper} {a : Act} {w : World} {Q : Exit → Act → World → Prop} (hgd : o.guard = none) (t : TypeId) (parts : List (Nat × Operand))
    (ho : o.op = .build t parts.toArray) (vals : List (Nat × Value)) (v : Value) (hv : parts.map (fun p => (p.1, a.eval p.2)) = vals)
    (hrun : (Instr.build t vals.toArray).run P w = .ok v w) (h : wpList P ops Q rest (a.put o.dst v) w) : wpList P ops Q (o :: rest) a w :=
  wpList_plain hgd fun K hK => by
    subst hv
    rw [← List.map_toArray] at hrun
    unfold Oper.wp execOp
    simp only [ho, Sem.run_bind, hrun, Result.andThen_ok]
    exact hK _ _ h
theorem wpList_buildSlice_run {P : Program} {ops : Array Oper} {rest : List Oper} {o : Oper} {a : Act} {w w' : World} {Q : Exit → Act → World → Prop} (hgd : o.guard = none) (t : TypeId) (len : Nat) (parts : List (Nat × Operand))
    (ho : o.op = .buildSlice t len parts.toArray) (vals : List (Nat × Value)) (v : Value) (hv : parts.map (fun p => (p.1, a.eval p.2)) = vals)
    (hrun : (Instr.buildSlice t len vals.toArray).run P w = .ok v w') (h : wpList P ops Q rest (a.put o.dst v) w') : wpList P ops Q (o :: rest) a w :=
  wpList_plain hgd fun K hK => by
    subst hv
    rw [← List.map_toArray] at hrun
    unfold Oper.wp execOp
    simp only [ho, Sem.run_bind, hrun, Result.andThen_ok]
    exact hK _ _ h
theorem d32_built (x y : Int) : Tryd.prog.built 26 [(0, .int .u8 x), (1, .int .u8 y)] = some (.int .u8 x :: .int .u8 y :: List.replicate 30 (.int .u8 0)).toArray := by kernel_rfl
theorem d32_cells (x y : Nat) (hx : x < 256) (hy : y < 256) : cells8 (d32 x y) = .int .u8 x :: .int .u8 y :: List.replicate 30 (.int .u8 0) := by
  simp [cells8, d32]; omega
theorem fill32 (a0 a1 a2 a3 a4 a5 a6 a7 a8 a9 a10 a11 a12 a13 a14 a15 a16 a17 a18 a19 a20 a21 a22 a23 a24 a25 a26 a27 a28 a29 a30 a31 : Value) : Instr.fill (fun i => some (i * 32, 32)) (Array.replicate 32 (.int .u8 0)) [(0, .agg #[a0, a1, a2, a3, a4, a5, a6, a7, a8, a9, a10, a11, a12, a13, a14, a15, a16, a17, a18, a19, a20, a21, a22, a23, a24, a25, a26, a27, a28, a29, a30, a31])] = some #[a0, a1, a2, a3, a4, a5, a6, a7, a8, a9, a10, a11, a12, a13, a14, a15, a16, a17, a18, a19, a20, a21, a22, a23, a24, a25, a26, a27, a28, a29, a30, a31] := by kernel_rfl
theorem fill_row : ∀ l : List Value, l.length = 32 → Instr.fill (fun i => some (i * 32, 32)) (Array.replicate 32 (.int .u8 0)) [(0, .agg l.toArray)] = some l.toArray
  | [a0, a1, a2, a3, a4, a5, a6, a7, a8, a9, a10, a11, a12, a13, a14, a15, a16, a17, a18, a19, a20, a21, a22, a23, a24, a25, a26, a27, a28, a29, a30, a31], _ => fill32 a0 a1 a2 a3 a4 a5 a6 a7 a8 a9 a10 a11 a12 a13 a14 a15 a16 a17 a18 a19 a20 a21 a22 a23 a24 a25 a26 a27 a28 a29 a30 a31
theorem zero32 : (Array.range 32).map (fun k => (Array.replicate 32 (Value.int .u8 0))[k % (Array.replicate 32 (Value.int .u8 0)).size]!) = Array.replicate 32 (.int .u8 0) := by kernel_rfl
theorem run_buildSlice1 (W : World) (D : Array Value) (hD : D.size = 32) : (Instr.buildSlice 30 1 #[(0, .agg D)]).run Tryd.prog W = .ok (.slice (some ⟨W.heap.size, 0, none⟩) 1 1) (W.alloc (.cells D 26)) := by
  obtain ⟨i, hi, h⟩ := Option.map_eq_some_iff.1 Tryd.info26z
  simp only [Prod.mk.injEq] at h
  have hf := fill_row D.toList (by simpa using hD)
  rw [Array.toArray_toList] at hf
  have hz := zero32
  simp [Instr.buildSlice, run_underlying Tryd.underlying30, sizeOf, typeInfo, zeroValue, hi, h.1, h.2.1, Value.cells] at hz ⊢
  rw [hz, hf]
  have hn : (newRow 26 D).run Tryd.prog W = .ok ⟨W.heap.size, 0, none⟩ (W.alloc (.cells D 26)) := rfl
  simp only [Sem.run_map, hn]
  rfl

set_option maxRecDepth 100000 in
set_option maxHeartbeats 4000000 in
theorem digestsOf_any (w : World) (v : Value) (b : List UInt8) (hv : BytesAt w w.heap.size v b) :
    Calls Tryd.prog 16 #[v] w fun e w' => ∃ u, e = .returned u ∧ Digs w' w'.heap.size u (dsOf b) ∧ Below w.heap.size w w' := by
  obtain ⟨i0, hi, hz0, hz1, hz2⟩ := info_parts Tryd.info26z
  obtain ⟨a, cap, rfl, hc, hm, h4⟩ := hv
  obtain ⟨n, hn⟩ : ∃ n, b.length = n := ⟨_, rfl⟩
  rw [hn] at hc ⊢
  unfold maxLen at hm
  have hnm : n ≤ 9223372036854775807 := by omega
  have H4 := Lib.hid h4
  have HN := Lib.hid hn
  have HI := Lib.hid hi
  have HZ0 := Lib.hid hz0
  have HZ1 := Lib.hid hz1
  have HZ2 := Lib.hid hz2
  clear h4 hn hc hm hi hz0 hz1 hz2
  go_enter Tryd.func16, Tryd.ntmps16
  go_wp2
  go_loopw [3, 4] (fun l i wr => ∃ t : Nat, i = .int .i64 t ∧ t ≤ n ∧ t ≤ 24 ∧ Below w.heap.size w wr ∧ wr.ownsRow w.heap.size 26 32 l t (flat (dsTo b t)))
    (fun _ i _ => 24 - (intOf i).toNat)
  case atStart => exact ⟨0, rfl, by omega, by omega, by go_grown, World.ownsRow_made w #[] 0 (Nat.le_refl _) (by unfold maxLen; omega) rfl⟩
  case round =>
    obtain ⟨t, rfl, htn, ht, hB, hO⟩ := hrel
    have HB := Lib.hid hB
    have HO := Lib.hid hO
    clear hB hO
    by_cases hlt : t < n ∧ t < 24
    · obtain ⟨h1, h2⟩ := hlt
      have d1 : decide (t < n) = true := by simpa using h1
      have d2 : decide ((t : Int) < 24) = true := by simp; omega
      have hne : b ≠ [] := fun e => by have := HN.out; rw [e] at this; simp at this; omega
      rcases H4.out with h4 | ⟨db, off, rfl, hdb, hby⟩
      · exact absurd h4 hne
      have hc1 := (hby.below HB.out hdb).getD (i := t) (by rw [HN.out]; exact h1)
      have hsn : flat (dsTo b (t + 1)) = flat (dsTo b t) ++ cells8 (d32 ((b.getD t 0).toNat % 4) (t / 8)) := by rw [dsTo_succ, flat_snoc]
      obtain ⟨x, hx⟩ : ∃ x, b.getD t 0 = x := ⟨_, rfl⟩
      rw [hx] at hc1 hsn
      have hx8 := x.toNat_lt
      have q1 : (x.toNat : Int) % 4 = ((x.toNat % 4 : Nat) : Int) := by omega
      have hcs : ∀ W : World, ∀ j u, (cells8 (d32 (x.toNat % 4) (t / 8)))[j]? = some u → (W.alloc (.cells (cells8 (d32 (x.toNat % 4) (t / 8))).toArray 26)).cell? ((⟨W.heap.size, 0, none⟩ : Addr).add j) = some u := fun W j u hu =>
        World.news_of_block (heap_alloc_new W _) j u (by simpa using hu)
      have HX := Lib.hid hx
      have HS := Lib.hid hsn
      have HCS := Lib.hid hcs
      clear hx hsn hcs hby hne
      obtain ⟨D, hD⟩ : ∃ D, cells8 (d32 (x.toNat % 4) (t / 8)) = D := ⟨_, rfl⟩
      have hDl : D.length = 32 := by rw [← hD, cells8_len, d32_len]
      have hD1 : ∀ v ∈ D, v.oneCell' = true := by rw [← hD]; exact one_cells8 _
      have hbd : ∀ W : World, (Instr.build 26 #[(0, .int .u8 ((x.toNat : Int) % 4)), (1, .int .u8 ((t : Int) / 8))]).run Tryd.prog W = .ok (.agg D.toArray) W := fun W => by
        have h := run_build W 26 #[(0, .int .u8 ((x.toNat : Int) % 4)), (1, .int .u8 ((t : Int) / 8))] _ (d32_built _ _)
        rw [h, ← hD, d32_cells _ _ (by omega) (by omega)]
        rfl
      have hbs : ∀ W : World, (Instr.buildSlice 30 1 #[(0, .agg D.toArray)]).run Tryd.prog W = .ok (.slice (some ⟨W.heap.size, 0, none⟩) 1 1) (W.alloc (.cells D.toArray 26)) := fun W => run_buildSlice1 W _ (by simpa using hDl)
      have HD := Lib.hid hD
      have HDL := Lib.hid hDl
      have HBD := Lib.hid hbd
      have HBS := Lib.hid hbs
      have HD1 := Lib.hid hD1
      clear hD hDl hbd hbs hD1
      go_wp2_with (first
        | (refine wpList_build_run rfl 26 [(0, Operand.tmp 21), (1, Operand.tmp 24)] (by rfl) _ _ (by rfl) (HBD.out _) ?_; simp only [Act.put, List.setIfInBounds_toArray, List.set_cons_zero, List.set_cons_succ])
        | (refine wpList_buildSlice_run rfl 30 1 [(0, Operand.tmp 25)] (by rfl) _ _ (by rfl) (HBS.out _) ?_; simp only [Act.put, List.setIfInBounds_toArray, List.set_cons_zero, List.set_cons_succ])
        | (at_builtin; refine wpList_append_lies _ (by rfl) (.tmp 16) (.tmp 26) 30 (by rfl) w.heap.size 26 i0 _ 32 32 Tryd.underlying30 HI.out HZ0.out HZ1.out HZ2.out (by simp [Value.cells]) (by omega) _ t (flat (dsTo b t)) (by rfl) (HO.out.alloc _) ⟨wr.heap.size, 0, none⟩ 1 1 D (by rfl) (by rw [HDL.out]) (fun j u hu => World.news_of_block (heap_alloc_new wr _) j u (by simpa using hu)) HD1.out (by omega) (by unfold maxLen; omega) (by omega) (by have := HB.out.size; simp; omega) _ rfl ?_; intro g cap2 w1 hown1 hgrow1 hat1 hlt1; simp only [Act.put, List.setIfInBounds_toArray, List.set_cons_zero, List.set_cons_succ]))
      have hB1 : Below w.heap.size w w1 := below_grow (HB.out.alloc HB.out.size _) hgrow1 (fun k hk => (HO.out.lt k hk).1) (by have := HB.out.size; simp; omega)
      have hO1 : w1.ownsRow w.heap.size 26 32 (.slice (some ⟨g, 0, none⟩) (t + 1) cap2) (t + 1) (flat (dsTo b (t + 1))) := by rw [HS.out, HD.out]; exact hown1
      have HB1 := Lib.hid hB1
      have HO1 := Lib.hid hO1
      clear hB1 hO1 hown1 hgrow1 hat1
      go_wp2
      go_roundw
      case rel => exact ⟨t + 1, by simp, by omega, by omega, HB1.out, HO1.out⟩
      case measure => simp [intOf]; omega
    · have he : t = min n 24 := by omega
      have hf : dsOf b = dsTo b t := by unfold dsOf; rw [HN.out, ← he]
      have hD : Digs wr wr.heap.size u3 (dsOf b) := by
        rw [hf]
        exact own_digs (by rw [dsTo_len]; exact HO.out) (dsTo_32 _ _)
      have HDG := Lib.hid hD
      clear hf hD
      by_cases h1 : t < n
      · have d1 : decide (t < n) = true := by simpa using h1
        have d2 : decide ((t : Int) < 24) = false := by simp; omega
        clear he hlt
        go_wp2
        go_ret
        exact ⟨_, rfl, HDG.out, HB.out⟩
      · have d1 : decide (t < n) = false := by simpa using h1
        clear he hlt
        go_wp2
        go_ret
        exact ⟨_, rfl, HDG.out, HB.out⟩
end Go.Proofs.YtnddejhbncgchaaDoor
