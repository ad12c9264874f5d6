/- The last blocks of the padded bytes. -/
import Derived.Test.YtnddejhbncgchaaDoorAbs
namespace Go.Proofs.YtnddejhbncgchaaDoor
open Go.RowKit

theorem wpList_world {P : Program} {ops : Array Oper} {rest : List Oper} {a : Act} {w : World} {Q : Exit → Act → World → Prop} (X : World → Prop) (hX : X w) (h : ∀ W, X W → wpList P ops Q rest a W) : wpList P ops Q rest a w := h w hX

/-- Bytes in a slice, in memory below B. -/
def BytesAt (w : World) (B : Nat) (v : Value) (bs : List UInt8) : Prop :=
  ∃ a cap, v = .slice a bs.length cap ∧ bs.length ≤ cap ∧ cap ≤ maxLen ∧ (bs = [] ∨ ∃ db off, a = some ⟨db, off, none⟩ ∧ db < B ∧ BytesIn w db off bs)
theorem BytesAt.below {w w' : World} {B : Nat} {v : Value} {bs : List UInt8} (h : BytesAt w B v bs) (hb : Below B w w') : BytesAt w' B v bs := by
  obtain ⟨a, cap, h1, h2, h3, h4⟩ := h
  refine ⟨a, cap, h1, h2, h3, ?_⟩
  rcases h4 with h4 | ⟨db, off, h4, h5, h6⟩
  · exact .inl h4
  · exact .inr ⟨db, off, h4, h5, h6.below hb h5⟩
theorem BytesAt.mono {w : World} {B B' : Nat} {v : Value} {bs : List UInt8} (h : BytesAt w B v bs) (hb : B ≤ B') : BytesAt w B' v bs := by
  obtain ⟨a, cap, h1, h2, h3, h4⟩ := h
  refine ⟨a, cap, h1, h2, h3, ?_⟩
  rcases h4 with h4 | ⟨db, off, h4, h5, h6⟩
  · exact .inl h4
  · exact .inr ⟨db, off, h4, by omega, h6⟩

/-- The eight bytes of m are laid from the last one on: j of them. -/
def lay (q m : Nat) : Nat → List UInt8 → List UInt8
  | 0, c => c
  | j + 1, c => (lay q m j c).set (q + 7 - j) (UInt8.ofNat (m / 2 ^ (8 * j)))
theorem lay_len (q m : Nat) : ∀ j c, (lay q m j c).length = c.length
  | 0, _ => rfl
  | j + 1, c => by rw [lay, List.length_set, lay_len q m j c]
theorem set_at {α : Type} (P : List α) : ∀ (q : Nat) (L : List α) (k : Nat) (v : α), P.length = q → (P ++ L).set (q + k) v = P ++ L.set k v := by
  intro q L k v h
  rw [List.set_append_right _ _ (by omega)]
  congr 2
  omega
theorem lay_is (m : Nat) (P R : List UInt8) (q : Nat) (h : P.length = q) (x0 x1 x2 x3 x4 x5 x6 x7 : UInt8) : lay q m 8 (P ++ (x0 :: x1 :: x2 :: x3 :: x4 :: x5 :: x6 :: x7 :: R)) = P ++ (be64 m ++ R) := by
  have e : ∀ c, lay q m 8 c = (((((((c.set (q + 7) (UInt8.ofNat m)).set (q + 6) (UInt8.ofNat (m / 2 ^ 8))).set (q + 5) (UInt8.ofNat (m / 2 ^ 16))).set (q + 4) (UInt8.ofNat (m / 2 ^ 24))).set (q + 3) (UInt8.ofNat (m / 2 ^ 32))).set (q + 2) (UInt8.ofNat (m / 2 ^ 40))).set (q + 1) (UInt8.ofNat (m / 2 ^ 48))).set (q + 0) (UInt8.ofNat (m / 2 ^ 56)) := fun c => by
    show (((((((c.set (q + 7 - 0) (UInt8.ofNat (m / 1))).set (q + 7 - 1) _).set (q + 7 - 2) _).set (q + 7 - 3) _).set (q + 7 - 4) _).set (q + 7 - 5) _).set (q + 7 - 6) _).set (q + 7 - 7) _ = _
    rw [show q + 7 - 0 = q + 7 by omega, show q + 7 - 1 = q + 6 by omega, show q + 7 - 2 = q + 5 by omega, show q + 7 - 3 = q + 4 by omega, show q + 7 - 4 = q + 3 by omega, show q + 7 - 5 = q + 2 by omega, show q + 7 - 6 = q + 1 by omega, show q + 7 - 7 = q + 0 by omega, Nat.div_one]
  rw [e]
  rw [set_at P q _ 7 _ h, set_at P q _ 6 _ h, set_at P q _ 5 _ h, set_at P q _ 4 _ h, set_at P q _ 3 _ h, set_at P q _ 2 _ h, set_at P q _ 1 _ h, set_at P q _ 0 _ h]
  rfl
theorem cells8_set (l : List UInt8) (i : Nat) (c : UInt8) : cells8 (l.set i c) = (cells8 l).set i (.int .u8 c.toNat) := by
  simp [cells8, List.map_set]
theorem cells8_rep (m : Nat) : cells8 (List.replicate m 0) = List.replicate m (.int .u8 0) := by rw [cells8, List.map_replicate]; rfl
theorem cells8_app (a b : List UInt8) : cells8 (a ++ b) = cells8 a ++ cells8 b := by simp [cells8]
theorem byte_of (m j : Nat) (v : Int) (h : v = ((m / 2 ^ (8 * j) : Nat) : Int) % 256) : v = ((UInt8.ofNat (m / 2 ^ (8 * j))).toNat : Int) := by
  rw [h]; simp

/-- What follows the whole blocks. -/
def tailOf (l : List UInt8) (size : Nat) : List UInt8 := l ++ (0x80 :: (List.replicate ((119 - l.length % 64) % 64) 0 ++ be64 (8 * size)))
def endOf (n : Nat) : Nat := if 55 < n then 128 else 64
theorem tail_len (l : List UInt8) (size : Nat) (h : l.length < 64) : (tailOf l size).length = endOf l.length := by
  simp [tailOf, endOf, be64]; split <;> omega
theorem tail_lay (l : List UInt8) (size : Nat) (h : l.length < 64) : (lay (endOf l.length - 8) (8 * size) 8 (l ++ (0x80 :: List.replicate (127 - l.length) 0))).take (endOf l.length) = tailOf l size := by
  have e : l ++ (0x80 :: List.replicate (127 - l.length) 0) = (l ++ (0x80 :: List.replicate ((119 - l.length % 64) % 64) 0)) ++ (0 :: 0 :: 0 :: 0 :: 0 :: 0 :: 0 :: 0 :: List.replicate (128 - endOf l.length) 0) := by
    have : 127 - l.length = (119 - l.length % 64) % 64 + (8 + (128 - endOf l.length)) := by unfold endOf; split <;> omega
    rw [this, ← List.replicate_append_replicate, ← List.replicate_append_replicate]
    simp [List.replicate]
  rw [e, lay_is]
  · rw [← List.append_assoc, List.take_left' (by simp [be64, endOf]; split <;> omega)]
    simp [tailOf]
  · simp [endOf]; split <;> omega

theorem bytes_take {W : World} {g E : Nat} {L t : List UInt8} (h : Arr W g (cells8 L)) (ht : t = L.take E) : BytesIn W g 0 t := fun i hi => by
  subst ht
  have hl : i < L.length := by rw [List.length_take] at hi; omega
  rw [Nat.zero_add, h.cell (i := i) (v := .int .u8 L[i].toNat) (by simp [cells8, List.getElem?_eq_getElem hl]), List.getElem_take]
theorem copy_any (W : World) (g : Nat) (v : Value) (l : List UInt8) (hA : Arr W g (cells8 (List.replicate 128 0))) (hv : BytesAt W g v l) (hn : l.length < 64) :
    ∃ W1, (Builtin.copy_ #[22, 22] 3 #[.slice (some ⟨g, 0, none⟩) 128 128, v]).run Tryd.prog W = .ok (goInt l.length) W1 ∧ Arr W1 g (cells8 (l ++ List.replicate (128 - l.length) 0)) ∧ Below g W W1 := by
  obtain ⟨a, cap', rfl, hc, hm, h⟩ := hv
  have hs : (Tryd.prog.info? 5).map (·.size) = some 1 := by kernel_rfl
  rcases h with rfl | ⟨db, off, rfl, hdb, hb⟩
  · exact ⟨W, run_copy_none W 22 22 3 5 (some ⟨g, 0, none⟩) a 128 128 0 cap' Tryd.underlying22 hs (by simp), by simpa using hA, Below.refl _ _⟩
  · refine ⟨W.setCells g 0 (cells8 l), ?_, ?_, below_setCells (Nat.le_refl _) _ _ _ (Below.refl _ _)⟩
    · have := run_copy_cells W 22 22 3 5 g 0 128 128 ⟨db, off, none⟩ l.length cap' (cells8 l) Tryd.underlying22 hs (by rw [cells8_len]; exact (Nat.min_eq_left (by omega)).symm)
        (fun j v hv => by
          have hj : j < l.length := by have := (List.getElem?_eq_some_iff.1 hv).1; simpa [cells8] using this
          rw [show (⟨db, off, none⟩ : Addr).add j = ⟨db, off + j, none⟩ from Addr.add_mid db off j, hb j hj]
          rw [← hv]; simp [cells8, List.getElem?_eq_getElem hj])
        (fun j hj => by simpa using (hA.there j (by rw [cells8_len] at hj ⊢; simp; omega)).1) (fun j hj => by simpa using (hA.there j (by rw [cells8_len] at hj ⊢; simp; omega)).2) (one_cells8 l)
      rwa [cells8_len] at this
    · have hl : ∀ j, j < (cells8 l).length → (W.cell? ⟨g, 0 + j, none⟩).isSome = true := fun j hj => (hA.there j (by rw [cells8_len] at hj ⊢; simp; omega)).1
      refine ⟨fun j v hv => ?_, fun j hj => ⟨?_, ?_⟩⟩
      · by_cases hj : j < l.length
        · rw [World.cell?_setCells_in g (cells8 l) 0 W hl j (by rw [cells8_len]; exact hj)]
          rw [← hv]; simp [cells8, List.getElem?_append, hj]
        · rw [World.cell?_setCells_out g (cells8 l) 0 W _ (fun _ _ => .inr (by rw [cells8_len]; simp; omega))]
          have hj2 : j < 128 := by have := (List.getElem?_eq_some_iff.1 hv).1; simp [cells8] at this; omega
          refine hA.at_ j v ?_
          have e1 : (cells8 (List.replicate 128 0))[j]? = some (.int .u8 0) := by rw [cells8_rep, List.getElem?_replicate, if_pos hj2]
          have e2 : (cells8 (l ++ List.replicate (128 - l.length) 0))[j]? = some (.int .u8 0) := by
            rw [cells8_app, List.getElem?_append_right (by rw [cells8_len]; omega), cells8_rep, List.getElem?_replicate, if_pos (by rw [cells8_len]; omega)]
          rw [e1, ← hv, e2]
      · by_cases hjl : j < l.length
        · rw [World.cell?_setCells_in g (cells8 l) 0 W hl j (by rw [cells8_len]; exact hjl)]; rfl
        · rw [World.cell?_setCells_out g (cells8 l) 0 W _ (fun _ _ => .inr (by rw [cells8_len]; simp; omega))]
          exact (hA.there j (by rw [cells8_len] at hj ⊢; simp at hj ⊢; omega)).1
      · rw [World.frozen?_setCells]
        exact (hA.there j (by rw [cells8_len] at hj ⊢; simp at hj ⊢; omega)).2

set_option maxRecDepth 100000 in
set_option maxHeartbeats 4000000 in
theorem ending_any (w : World) (v : Value) (l : List UInt8) (size : Nat) (hv : BytesAt w w.heap.size v l) (hn : l.length < 64) (hsz : size < 1000000000000) :
    Calls Tryd.prog 30 #[v, .int .i64 size] w fun e w' => ∃ g, e = .returned (.slice (some ⟨g, 0, none⟩) (endOf l.length) 128) ∧ w.heap.size ≤ g ∧ g < w'.heap.size ∧ BytesIn w' g 0 (tailOf l size) ∧ Below w.heap.size w w' := by
  have HV := Lib.hid hv
  obtain ⟨a, cap, rfl, hc, hm, h⟩ := hv
  clear h
  have hcp := fun (W : World) (hB : Below w.heap.size w W) (hA : Arr W w.heap.size (cells8 (List.replicate 128 0))) => copy_any W w.heap.size _ l hA (HV.out.below hB) hn
  have HCP := Lib.hid hcp
  clear hcp
  unfold maxLen at hm
  have i1 : IntKind.i64.wrap ((l.length : Int) + 1) = (l.length : Int) + 1 := by rw [IntKind.wrap_i64]; omega
  have i2 : IntKind.i64.wrap ((l.length : Int) + 1 + 8) = (l.length : Int) + 1 + 8 := by rw [IntKind.wrap_i64]; omega
  have b0 : (l.length : Int) < 128 := by omega
  have s0 : IntKind.u64.wrap (size : Int) = (size : Int) := by rw [IntKind.wrap_u64]; omega
  have s1 : IntKind.u64.wrap (8 * (size : Int)) = ((8 * size : Nat) : Int) := by rw [IntKind.wrap_u64]; omega
  obtain ⟨Z, hZ⟩ : ∃ Z : Array Value, Array.replicate 128 (.int .u8 0) = Z := ⟨_, rfl⟩
  have hz : ∀ W : World, (zeroValue 72).run Tryd.prog W = .ok (.agg Z) W := by rw [← hZ]; exact fun W => by kernel_rfl
  have hA0 : Arr (w.alloc (.cells Z 72)) w.heap.size (cells8 (List.replicate 128 0)) := by
    have e : Z.toList = cells8 (List.replicate 128 0) := by rw [← hZ, cells8_rep]; exact Array.toList_replicate
    rw [← e]; exact Arr.new w Z 72
  obtain ⟨W1, hcopy, hA1, hB1⟩ := HCP.out _ ((Below.refl w.heap.size w).alloc (Nat.le_refl _) _) hA0
  have hB : Below w.heap.size w W1 := ((Below.refl w.heap.size w).alloc (Nat.le_refl _) _).trans hB1
  simp only [goInt] at hcopy
  clear hA0 hB1 hZ HCP
  have hl1 : (cells8 (l ++ List.replicate (128 - l.length) 0)).length = 128 := by rw [cells8_len]; simp; omega
  have cn : W1.cell? ⟨w.heap.size, l.length, none⟩ = some (.int .u8 0) := hA1.cell (by
    rw [cells8_app, List.getElem?_append_right (by rw [cells8_len]; omega), cells8_rep, List.getElem?_replicate, if_pos (by rw [cells8_len]; omega)])
  have fn : W1.frozen? ⟨w.heap.size, l.length, none⟩ = false := hA1.frozen (by omega)
  obtain ⟨m, hm8⟩ : ∃ m, 8 * size = m := ⟨_, rfl⟩
  have hmu : m < 18446744073709551616 := by omega
  obtain ⟨c, hcc⟩ : ∃ c, l ++ (0x80 :: List.replicate (127 - l.length) 0) = c := ⟨_, rfl⟩
  have hcl : c.length = 128 := by rw [← hcc]; simp; omega
  have KEY0 : Hid (Below w.heap.size w (W1.setCell ⟨w.heap.size, l.length, none⟩ (.int .u8 128)) ∧ Arr (W1.setCell ⟨w.heap.size, l.length, none⟩ (.int .u8 128)) w.heap.size (cells8 c)) := by
    refine ⟨hB.setCell (p := ⟨w.heap.size, l.length, none⟩) (Nat.le_refl _) _, ?_⟩
    have e : cells8 c = (cells8 (l ++ List.replicate (128 - l.length) 0)).set l.length (.int .u8 128) := by
      rw [← hcc, cells8_app, cells8_app, List.set_append_right _ _ (by rw [cells8_len]; omega), cells8_len, Nat.sub_self, show 128 - l.length = (127 - l.length) + 1 by omega, List.replicate_succ]
      rfl
    rw [e]; exact hA1.set l.length _
  rw [hm8] at s1
  have HCC := Lib.hid hcc
  have HM8 := Lib.hid hm8
  clear hA1 hB hcc hl1 hm8
  by_cases hE : 55 < l.length
  · have hd : decide ((64 : Int) < (l.length : Int) + 1 + 8) = true := by simp; omega
    go_enter Tryd.func30, Tryd.ntmps30
    go_wp2
    go_loopw [21] (fun i wr => ∃ j : Nat, i = .int .i64 j ∧ j ≤ 8 ∧ Below w.heap.size w wr ∧ Arr wr w.heap.size (cells8 (lay 120 m j c))) (fun i _ => 8 - (intOf i).toNat)
    case atStart => exact ⟨0, rfl, by omega, (KEY0.out).1, (KEY0.out).2⟩
    case round =>
      obtain ⟨j, rfl, hj, hB, hA⟩ := hrel
      have hlt : j = 0 ∨ j = 1 ∨ j = 2 ∨ j = 3 ∨ j = 4 ∨ j = 5 ∨ j = 6 ∨ j = 7 ∨ j = 8 := by omega
      clear hj
      rcases hlt with rfl | rfl | rfl | rfl | rfl | rfl | rfl | rfl | rfl
      · have cj : wr.cell? ⟨w.heap.size, 127, none⟩ = some (.int .u8 ((lay 120 m 0 c)[127]'(by rw [lay_len, hcl]; omega)).toNat) := by
          have := hA.cell (i := 127) (v := _) (List.getElem?_eq_getElem (by rw [cells8_len, lay_len, hcl]; omega))
          simpa [cells8] using this
        have fj : wr.frozen? ⟨w.heap.size, 127, none⟩ = false := hA.frozen (by rw [cells8_len, lay_len, hcl]; omega)
        have key : ∀ v : Int, v = ((UInt8.ofNat (m / 2 ^ (8 * 0))).toNat : Int) → Below w.heap.size w (wr.setCell ⟨w.heap.size, 127, none⟩ (.int .u8 v)) ∧ Arr (wr.setCell ⟨w.heap.size, 127, none⟩ (.int .u8 v)) w.heap.size (cells8 (lay 120 m 1 c)) := by
          rintro _ rfl
          refine ⟨hB.setCell (p := ⟨w.heap.size, 127, none⟩) (Nat.le_refl _) _, ?_⟩
          rw [lay, cells8_set]
          exact hA.set 127 _
        have KEY := Lib.hid key
        obtain ⟨u, hu⟩ : ∃ u, ((lay 120 m 0 c)[127]'(by rw [lay_len, hcl]; omega)).toNat = u := ⟨_, rfl⟩
        rw [hu] at cj
        clear key hA hB hu
        go_wp2
        go_roundw
        case rel => exact ⟨1, rfl, by omega, (KEY.out _ (byte_of m 0 _ (by omega))).1, (KEY.out _ (byte_of m 0 _ (by omega))).2⟩
        case measure => simp [intOf]
      · have cj : wr.cell? ⟨w.heap.size, 126, none⟩ = some (.int .u8 ((lay 120 m 1 c)[126]'(by rw [lay_len, hcl]; omega)).toNat) := by
          have := hA.cell (i := 126) (v := _) (List.getElem?_eq_getElem (by rw [cells8_len, lay_len, hcl]; omega))
          simpa [cells8] using this
        have fj : wr.frozen? ⟨w.heap.size, 126, none⟩ = false := hA.frozen (by rw [cells8_len, lay_len, hcl]; omega)
        have key : ∀ v : Int, v = ((UInt8.ofNat (m / 2 ^ (8 * 1))).toNat : Int) → Below w.heap.size w (wr.setCell ⟨w.heap.size, 126, none⟩ (.int .u8 v)) ∧ Arr (wr.setCell ⟨w.heap.size, 126, none⟩ (.int .u8 v)) w.heap.size (cells8 (lay 120 m 2 c)) := by
          rintro _ rfl
          refine ⟨hB.setCell (p := ⟨w.heap.size, 126, none⟩) (Nat.le_refl _) _, ?_⟩
          rw [lay, cells8_set]
          exact hA.set 126 _
        have KEY := Lib.hid key
        obtain ⟨u, hu⟩ : ∃ u, ((lay 120 m 1 c)[126]'(by rw [lay_len, hcl]; omega)).toNat = u := ⟨_, rfl⟩
        rw [hu] at cj
        clear key hA hB hu
        go_wp2
        go_roundw
        case rel => exact ⟨2, rfl, by omega, (KEY.out _ (byte_of m 1 _ (by omega))).1, (KEY.out _ (byte_of m 1 _ (by omega))).2⟩
        case measure => simp [intOf]
      · have cj : wr.cell? ⟨w.heap.size, 125, none⟩ = some (.int .u8 ((lay 120 m 2 c)[125]'(by rw [lay_len, hcl]; omega)).toNat) := by
          have := hA.cell (i := 125) (v := _) (List.getElem?_eq_getElem (by rw [cells8_len, lay_len, hcl]; omega))
          simpa [cells8] using this
        have fj : wr.frozen? ⟨w.heap.size, 125, none⟩ = false := hA.frozen (by rw [cells8_len, lay_len, hcl]; omega)
        have key : ∀ v : Int, v = ((UInt8.ofNat (m / 2 ^ (8 * 2))).toNat : Int) → Below w.heap.size w (wr.setCell ⟨w.heap.size, 125, none⟩ (.int .u8 v)) ∧ Arr (wr.setCell ⟨w.heap.size, 125, none⟩ (.int .u8 v)) w.heap.size (cells8 (lay 120 m 3 c)) := by
          rintro _ rfl
          refine ⟨hB.setCell (p := ⟨w.heap.size, 125, none⟩) (Nat.le_refl _) _, ?_⟩
          rw [lay, cells8_set]
          exact hA.set 125 _
        have KEY := Lib.hid key
        obtain ⟨u, hu⟩ : ∃ u, ((lay 120 m 2 c)[125]'(by rw [lay_len, hcl]; omega)).toNat = u := ⟨_, rfl⟩
        rw [hu] at cj
        clear key hA hB hu
        go_wp2
        go_roundw
        case rel => exact ⟨3, rfl, by omega, (KEY.out _ (byte_of m 2 _ (by omega))).1, (KEY.out _ (byte_of m 2 _ (by omega))).2⟩
        case measure => simp [intOf]
      · have cj : wr.cell? ⟨w.heap.size, 124, none⟩ = some (.int .u8 ((lay 120 m 3 c)[124]'(by rw [lay_len, hcl]; omega)).toNat) := by
          have := hA.cell (i := 124) (v := _) (List.getElem?_eq_getElem (by rw [cells8_len, lay_len, hcl]; omega))
          simpa [cells8] using this
        have fj : wr.frozen? ⟨w.heap.size, 124, none⟩ = false := hA.frozen (by rw [cells8_len, lay_len, hcl]; omega)
        have key : ∀ v : Int, v = ((UInt8.ofNat (m / 2 ^ (8 * 3))).toNat : Int) → Below w.heap.size w (wr.setCell ⟨w.heap.size, 124, none⟩ (.int .u8 v)) ∧ Arr (wr.setCell ⟨w.heap.size, 124, none⟩ (.int .u8 v)) w.heap.size (cells8 (lay 120 m 4 c)) := by
          rintro _ rfl
          refine ⟨hB.setCell (p := ⟨w.heap.size, 124, none⟩) (Nat.le_refl _) _, ?_⟩
          rw [lay, cells8_set]
          exact hA.set 124 _
        have KEY := Lib.hid key
        obtain ⟨u, hu⟩ : ∃ u, ((lay 120 m 3 c)[124]'(by rw [lay_len, hcl]; omega)).toNat = u := ⟨_, rfl⟩
        rw [hu] at cj
        clear key hA hB hu
        go_wp2
        go_roundw
        case rel => exact ⟨4, rfl, by omega, (KEY.out _ (byte_of m 3 _ (by omega))).1, (KEY.out _ (byte_of m 3 _ (by omega))).2⟩
        case measure => simp [intOf]
      · have cj : wr.cell? ⟨w.heap.size, 123, none⟩ = some (.int .u8 ((lay 120 m 4 c)[123]'(by rw [lay_len, hcl]; omega)).toNat) := by
          have := hA.cell (i := 123) (v := _) (List.getElem?_eq_getElem (by rw [cells8_len, lay_len, hcl]; omega))
          simpa [cells8] using this
        have fj : wr.frozen? ⟨w.heap.size, 123, none⟩ = false := hA.frozen (by rw [cells8_len, lay_len, hcl]; omega)
        have key : ∀ v : Int, v = ((UInt8.ofNat (m / 2 ^ (8 * 4))).toNat : Int) → Below w.heap.size w (wr.setCell ⟨w.heap.size, 123, none⟩ (.int .u8 v)) ∧ Arr (wr.setCell ⟨w.heap.size, 123, none⟩ (.int .u8 v)) w.heap.size (cells8 (lay 120 m 5 c)) := by
          rintro _ rfl
          refine ⟨hB.setCell (p := ⟨w.heap.size, 123, none⟩) (Nat.le_refl _) _, ?_⟩
          rw [lay, cells8_set]
          exact hA.set 123 _
        have KEY := Lib.hid key
        obtain ⟨u, hu⟩ : ∃ u, ((lay 120 m 4 c)[123]'(by rw [lay_len, hcl]; omega)).toNat = u := ⟨_, rfl⟩
        rw [hu] at cj
        clear key hA hB hu
        go_wp2
        go_roundw
        case rel => exact ⟨5, rfl, by omega, (KEY.out _ (byte_of m 4 _ (by omega))).1, (KEY.out _ (byte_of m 4 _ (by omega))).2⟩
        case measure => simp [intOf]
      · have cj : wr.cell? ⟨w.heap.size, 122, none⟩ = some (.int .u8 ((lay 120 m 5 c)[122]'(by rw [lay_len, hcl]; omega)).toNat) := by
          have := hA.cell (i := 122) (v := _) (List.getElem?_eq_getElem (by rw [cells8_len, lay_len, hcl]; omega))
          simpa [cells8] using this
        have fj : wr.frozen? ⟨w.heap.size, 122, none⟩ = false := hA.frozen (by rw [cells8_len, lay_len, hcl]; omega)
        have key : ∀ v : Int, v = ((UInt8.ofNat (m / 2 ^ (8 * 5))).toNat : Int) → Below w.heap.size w (wr.setCell ⟨w.heap.size, 122, none⟩ (.int .u8 v)) ∧ Arr (wr.setCell ⟨w.heap.size, 122, none⟩ (.int .u8 v)) w.heap.size (cells8 (lay 120 m 6 c)) := by
          rintro _ rfl
          refine ⟨hB.setCell (p := ⟨w.heap.size, 122, none⟩) (Nat.le_refl _) _, ?_⟩
          rw [lay, cells8_set]
          exact hA.set 122 _
        have KEY := Lib.hid key
        obtain ⟨u, hu⟩ : ∃ u, ((lay 120 m 5 c)[122]'(by rw [lay_len, hcl]; omega)).toNat = u := ⟨_, rfl⟩
        rw [hu] at cj
        clear key hA hB hu
        go_wp2
        go_roundw
        case rel => exact ⟨6, rfl, by omega, (KEY.out _ (byte_of m 5 _ (by omega))).1, (KEY.out _ (byte_of m 5 _ (by omega))).2⟩
        case measure => simp [intOf]
      · have cj : wr.cell? ⟨w.heap.size, 121, none⟩ = some (.int .u8 ((lay 120 m 6 c)[121]'(by rw [lay_len, hcl]; omega)).toNat) := by
          have := hA.cell (i := 121) (v := _) (List.getElem?_eq_getElem (by rw [cells8_len, lay_len, hcl]; omega))
          simpa [cells8] using this
        have fj : wr.frozen? ⟨w.heap.size, 121, none⟩ = false := hA.frozen (by rw [cells8_len, lay_len, hcl]; omega)
        have key : ∀ v : Int, v = ((UInt8.ofNat (m / 2 ^ (8 * 6))).toNat : Int) → Below w.heap.size w (wr.setCell ⟨w.heap.size, 121, none⟩ (.int .u8 v)) ∧ Arr (wr.setCell ⟨w.heap.size, 121, none⟩ (.int .u8 v)) w.heap.size (cells8 (lay 120 m 7 c)) := by
          rintro _ rfl
          refine ⟨hB.setCell (p := ⟨w.heap.size, 121, none⟩) (Nat.le_refl _) _, ?_⟩
          rw [lay, cells8_set]
          exact hA.set 121 _
        have KEY := Lib.hid key
        obtain ⟨u, hu⟩ : ∃ u, ((lay 120 m 6 c)[121]'(by rw [lay_len, hcl]; omega)).toNat = u := ⟨_, rfl⟩
        rw [hu] at cj
        clear key hA hB hu
        go_wp2
        go_roundw
        case rel => exact ⟨7, rfl, by omega, (KEY.out _ (byte_of m 6 _ (by omega))).1, (KEY.out _ (byte_of m 6 _ (by omega))).2⟩
        case measure => simp [intOf]
      · have cj : wr.cell? ⟨w.heap.size, 120, none⟩ = some (.int .u8 ((lay 120 m 7 c)[120]'(by rw [lay_len, hcl]; omega)).toNat) := by
          have := hA.cell (i := 120) (v := _) (List.getElem?_eq_getElem (by rw [cells8_len, lay_len, hcl]; omega))
          simpa [cells8] using this
        have fj : wr.frozen? ⟨w.heap.size, 120, none⟩ = false := hA.frozen (by rw [cells8_len, lay_len, hcl]; omega)
        have key : ∀ v : Int, v = ((UInt8.ofNat (m / 2 ^ (8 * 7))).toNat : Int) → Below w.heap.size w (wr.setCell ⟨w.heap.size, 120, none⟩ (.int .u8 v)) ∧ Arr (wr.setCell ⟨w.heap.size, 120, none⟩ (.int .u8 v)) w.heap.size (cells8 (lay 120 m 8 c)) := by
          rintro _ rfl
          refine ⟨hB.setCell (p := ⟨w.heap.size, 120, none⟩) (Nat.le_refl _) _, ?_⟩
          rw [lay, cells8_set]
          exact hA.set 120 _
        have KEY := Lib.hid key
        obtain ⟨u, hu⟩ : ∃ u, ((lay 120 m 7 c)[120]'(by rw [lay_len, hcl]; omega)).toNat = u := ⟨_, rfl⟩
        rw [hu] at cj
        clear key hA hB hu
        go_wp2
        go_roundw
        case rel => exact ⟨8, rfl, by omega, (KEY.out _ (byte_of m 7 _ (by omega))).1, (KEY.out _ (byte_of m 7 _ (by omega))).2⟩
        case measure => simp [intOf]
      · go_wp2
        go_ret
        have he : endOf l.length = 128 := if_pos hE
        refine ⟨w.heap.size, by rw [he]; rfl, Nat.le_refl _, hA.lt (by rw [cells8_len, lay_len, hcl]; omega), ?_, hB⟩
        have ht := tail_lay l size hn
        rw [HCC.out, HM8.out, he] at ht
        exact bytes_take hA ht.symm
  · have hd : decide ((64 : Int) < (l.length : Int) + 1 + 8) = false := by simp; omega
    go_enter Tryd.func30, Tryd.ntmps30
    go_wp2
    go_loopw [21] (fun i wr => ∃ j : Nat, i = .int .i64 j ∧ j ≤ 8 ∧ Below w.heap.size w wr ∧ Arr wr w.heap.size (cells8 (lay 56 m j c))) (fun i _ => 8 - (intOf i).toNat)
    case atStart => exact ⟨0, rfl, by omega, (KEY0.out).1, (KEY0.out).2⟩
    case round =>
      obtain ⟨j, rfl, hj, hB, hA⟩ := hrel
      have hlt : j = 0 ∨ j = 1 ∨ j = 2 ∨ j = 3 ∨ j = 4 ∨ j = 5 ∨ j = 6 ∨ j = 7 ∨ j = 8 := by omega
      clear hj
      rcases hlt with rfl | rfl | rfl | rfl | rfl | rfl | rfl | rfl | rfl
      · have cj : wr.cell? ⟨w.heap.size, 63, none⟩ = some (.int .u8 ((lay 56 m 0 c)[63]'(by rw [lay_len, hcl]; omega)).toNat) := by
          have := hA.cell (i := 63) (v := _) (List.getElem?_eq_getElem (by rw [cells8_len, lay_len, hcl]; omega))
          simpa [cells8] using this
        have fj : wr.frozen? ⟨w.heap.size, 63, none⟩ = false := hA.frozen (by rw [cells8_len, lay_len, hcl]; omega)
        have key : ∀ v : Int, v = ((UInt8.ofNat (m / 2 ^ (8 * 0))).toNat : Int) → Below w.heap.size w (wr.setCell ⟨w.heap.size, 63, none⟩ (.int .u8 v)) ∧ Arr (wr.setCell ⟨w.heap.size, 63, none⟩ (.int .u8 v)) w.heap.size (cells8 (lay 56 m 1 c)) := by
          rintro _ rfl
          refine ⟨hB.setCell (p := ⟨w.heap.size, 63, none⟩) (Nat.le_refl _) _, ?_⟩
          rw [lay, cells8_set]
          exact hA.set 63 _
        have KEY := Lib.hid key
        obtain ⟨u, hu⟩ : ∃ u, ((lay 56 m 0 c)[63]'(by rw [lay_len, hcl]; omega)).toNat = u := ⟨_, rfl⟩
        rw [hu] at cj
        clear key hA hB hu
        go_wp2
        go_roundw
        case rel => exact ⟨1, rfl, by omega, (KEY.out _ (byte_of m 0 _ (by omega))).1, (KEY.out _ (byte_of m 0 _ (by omega))).2⟩
        case measure => simp [intOf]
      · have cj : wr.cell? ⟨w.heap.size, 62, none⟩ = some (.int .u8 ((lay 56 m 1 c)[62]'(by rw [lay_len, hcl]; omega)).toNat) := by
          have := hA.cell (i := 62) (v := _) (List.getElem?_eq_getElem (by rw [cells8_len, lay_len, hcl]; omega))
          simpa [cells8] using this
        have fj : wr.frozen? ⟨w.heap.size, 62, none⟩ = false := hA.frozen (by rw [cells8_len, lay_len, hcl]; omega)
        have key : ∀ v : Int, v = ((UInt8.ofNat (m / 2 ^ (8 * 1))).toNat : Int) → Below w.heap.size w (wr.setCell ⟨w.heap.size, 62, none⟩ (.int .u8 v)) ∧ Arr (wr.setCell ⟨w.heap.size, 62, none⟩ (.int .u8 v)) w.heap.size (cells8 (lay 56 m 2 c)) := by
          rintro _ rfl
          refine ⟨hB.setCell (p := ⟨w.heap.size, 62, none⟩) (Nat.le_refl _) _, ?_⟩
          rw [lay, cells8_set]
          exact hA.set 62 _
        have KEY := Lib.hid key
        obtain ⟨u, hu⟩ : ∃ u, ((lay 56 m 1 c)[62]'(by rw [lay_len, hcl]; omega)).toNat = u := ⟨_, rfl⟩
        rw [hu] at cj
        clear key hA hB hu
        go_wp2
        go_roundw
        case rel => exact ⟨2, rfl, by omega, (KEY.out _ (byte_of m 1 _ (by omega))).1, (KEY.out _ (byte_of m 1 _ (by omega))).2⟩
        case measure => simp [intOf]
      · have cj : wr.cell? ⟨w.heap.size, 61, none⟩ = some (.int .u8 ((lay 56 m 2 c)[61]'(by rw [lay_len, hcl]; omega)).toNat) := by
          have := hA.cell (i := 61) (v := _) (List.getElem?_eq_getElem (by rw [cells8_len, lay_len, hcl]; omega))
          simpa [cells8] using this
        have fj : wr.frozen? ⟨w.heap.size, 61, none⟩ = false := hA.frozen (by rw [cells8_len, lay_len, hcl]; omega)
        have key : ∀ v : Int, v = ((UInt8.ofNat (m / 2 ^ (8 * 2))).toNat : Int) → Below w.heap.size w (wr.setCell ⟨w.heap.size, 61, none⟩ (.int .u8 v)) ∧ Arr (wr.setCell ⟨w.heap.size, 61, none⟩ (.int .u8 v)) w.heap.size (cells8 (lay 56 m 3 c)) := by
          rintro _ rfl
          refine ⟨hB.setCell (p := ⟨w.heap.size, 61, none⟩) (Nat.le_refl _) _, ?_⟩
          rw [lay, cells8_set]
          exact hA.set 61 _
        have KEY := Lib.hid key
        obtain ⟨u, hu⟩ : ∃ u, ((lay 56 m 2 c)[61]'(by rw [lay_len, hcl]; omega)).toNat = u := ⟨_, rfl⟩
        rw [hu] at cj
        clear key hA hB hu
        go_wp2
        go_roundw
        case rel => exact ⟨3, rfl, by omega, (KEY.out _ (byte_of m 2 _ (by omega))).1, (KEY.out _ (byte_of m 2 _ (by omega))).2⟩
        case measure => simp [intOf]
      · have cj : wr.cell? ⟨w.heap.size, 60, none⟩ = some (.int .u8 ((lay 56 m 3 c)[60]'(by rw [lay_len, hcl]; omega)).toNat) := by
          have := hA.cell (i := 60) (v := _) (List.getElem?_eq_getElem (by rw [cells8_len, lay_len, hcl]; omega))
          simpa [cells8] using this
        have fj : wr.frozen? ⟨w.heap.size, 60, none⟩ = false := hA.frozen (by rw [cells8_len, lay_len, hcl]; omega)
        have key : ∀ v : Int, v = ((UInt8.ofNat (m / 2 ^ (8 * 3))).toNat : Int) → Below w.heap.size w (wr.setCell ⟨w.heap.size, 60, none⟩ (.int .u8 v)) ∧ Arr (wr.setCell ⟨w.heap.size, 60, none⟩ (.int .u8 v)) w.heap.size (cells8 (lay 56 m 4 c)) := by
          rintro _ rfl
          refine ⟨hB.setCell (p := ⟨w.heap.size, 60, none⟩) (Nat.le_refl _) _, ?_⟩
          rw [lay, cells8_set]
          exact hA.set 60 _
        have KEY := Lib.hid key
        obtain ⟨u, hu⟩ : ∃ u, ((lay 56 m 3 c)[60]'(by rw [lay_len, hcl]; omega)).toNat = u := ⟨_, rfl⟩
        rw [hu] at cj
        clear key hA hB hu
        go_wp2
        go_roundw
        case rel => exact ⟨4, rfl, by omega, (KEY.out _ (byte_of m 3 _ (by omega))).1, (KEY.out _ (byte_of m 3 _ (by omega))).2⟩
        case measure => simp [intOf]
      · have cj : wr.cell? ⟨w.heap.size, 59, none⟩ = some (.int .u8 ((lay 56 m 4 c)[59]'(by rw [lay_len, hcl]; omega)).toNat) := by
          have := hA.cell (i := 59) (v := _) (List.getElem?_eq_getElem (by rw [cells8_len, lay_len, hcl]; omega))
          simpa [cells8] using this
        have fj : wr.frozen? ⟨w.heap.size, 59, none⟩ = false := hA.frozen (by rw [cells8_len, lay_len, hcl]; omega)
        have key : ∀ v : Int, v = ((UInt8.ofNat (m / 2 ^ (8 * 4))).toNat : Int) → Below w.heap.size w (wr.setCell ⟨w.heap.size, 59, none⟩ (.int .u8 v)) ∧ Arr (wr.setCell ⟨w.heap.size, 59, none⟩ (.int .u8 v)) w.heap.size (cells8 (lay 56 m 5 c)) := by
          rintro _ rfl
          refine ⟨hB.setCell (p := ⟨w.heap.size, 59, none⟩) (Nat.le_refl _) _, ?_⟩
          rw [lay, cells8_set]
          exact hA.set 59 _
        have KEY := Lib.hid key
        obtain ⟨u, hu⟩ : ∃ u, ((lay 56 m 4 c)[59]'(by rw [lay_len, hcl]; omega)).toNat = u := ⟨_, rfl⟩
        rw [hu] at cj
        clear key hA hB hu
        go_wp2
        go_roundw
        case rel => exact ⟨5, rfl, by omega, (KEY.out _ (byte_of m 4 _ (by omega))).1, (KEY.out _ (byte_of m 4 _ (by omega))).2⟩
        case measure => simp [intOf]
      · have cj : wr.cell? ⟨w.heap.size, 58, none⟩ = some (.int .u8 ((lay 56 m 5 c)[58]'(by rw [lay_len, hcl]; omega)).toNat) := by
          have := hA.cell (i := 58) (v := _) (List.getElem?_eq_getElem (by rw [cells8_len, lay_len, hcl]; omega))
          simpa [cells8] using this
        have fj : wr.frozen? ⟨w.heap.size, 58, none⟩ = false := hA.frozen (by rw [cells8_len, lay_len, hcl]; omega)
        have key : ∀ v : Int, v = ((UInt8.ofNat (m / 2 ^ (8 * 5))).toNat : Int) → Below w.heap.size w (wr.setCell ⟨w.heap.size, 58, none⟩ (.int .u8 v)) ∧ Arr (wr.setCell ⟨w.heap.size, 58, none⟩ (.int .u8 v)) w.heap.size (cells8 (lay 56 m 6 c)) := by
          rintro _ rfl
          refine ⟨hB.setCell (p := ⟨w.heap.size, 58, none⟩) (Nat.le_refl _) _, ?_⟩
          rw [lay, cells8_set]
          exact hA.set 58 _
        have KEY := Lib.hid key
        obtain ⟨u, hu⟩ : ∃ u, ((lay 56 m 5 c)[58]'(by rw [lay_len, hcl]; omega)).toNat = u := ⟨_, rfl⟩
        rw [hu] at cj
        clear key hA hB hu
        go_wp2
        go_roundw
        case rel => exact ⟨6, rfl, by omega, (KEY.out _ (byte_of m 5 _ (by omega))).1, (KEY.out _ (byte_of m 5 _ (by omega))).2⟩
        case measure => simp [intOf]
      · have cj : wr.cell? ⟨w.heap.size, 57, none⟩ = some (.int .u8 ((lay 56 m 6 c)[57]'(by rw [lay_len, hcl]; omega)).toNat) := by
          have := hA.cell (i := 57) (v := _) (List.getElem?_eq_getElem (by rw [cells8_len, lay_len, hcl]; omega))
          simpa [cells8] using this
        have fj : wr.frozen? ⟨w.heap.size, 57, none⟩ = false := hA.frozen (by rw [cells8_len, lay_len, hcl]; omega)
        have key : ∀ v : Int, v = ((UInt8.ofNat (m / 2 ^ (8 * 6))).toNat : Int) → Below w.heap.size w (wr.setCell ⟨w.heap.size, 57, none⟩ (.int .u8 v)) ∧ Arr (wr.setCell ⟨w.heap.size, 57, none⟩ (.int .u8 v)) w.heap.size (cells8 (lay 56 m 7 c)) := by
          rintro _ rfl
          refine ⟨hB.setCell (p := ⟨w.heap.size, 57, none⟩) (Nat.le_refl _) _, ?_⟩
          rw [lay, cells8_set]
          exact hA.set 57 _
        have KEY := Lib.hid key
        obtain ⟨u, hu⟩ : ∃ u, ((lay 56 m 6 c)[57]'(by rw [lay_len, hcl]; omega)).toNat = u := ⟨_, rfl⟩
        rw [hu] at cj
        clear key hA hB hu
        go_wp2
        go_roundw
        case rel => exact ⟨7, rfl, by omega, (KEY.out _ (byte_of m 6 _ (by omega))).1, (KEY.out _ (byte_of m 6 _ (by omega))).2⟩
        case measure => simp [intOf]
      · have cj : wr.cell? ⟨w.heap.size, 56, none⟩ = some (.int .u8 ((lay 56 m 7 c)[56]'(by rw [lay_len, hcl]; omega)).toNat) := by
          have := hA.cell (i := 56) (v := _) (List.getElem?_eq_getElem (by rw [cells8_len, lay_len, hcl]; omega))
          simpa [cells8] using this
        have fj : wr.frozen? ⟨w.heap.size, 56, none⟩ = false := hA.frozen (by rw [cells8_len, lay_len, hcl]; omega)
        have key : ∀ v : Int, v = ((UInt8.ofNat (m / 2 ^ (8 * 7))).toNat : Int) → Below w.heap.size w (wr.setCell ⟨w.heap.size, 56, none⟩ (.int .u8 v)) ∧ Arr (wr.setCell ⟨w.heap.size, 56, none⟩ (.int .u8 v)) w.heap.size (cells8 (lay 56 m 8 c)) := by
          rintro _ rfl
          refine ⟨hB.setCell (p := ⟨w.heap.size, 56, none⟩) (Nat.le_refl _) _, ?_⟩
          rw [lay, cells8_set]
          exact hA.set 56 _
        have KEY := Lib.hid key
        obtain ⟨u, hu⟩ : ∃ u, ((lay 56 m 7 c)[56]'(by rw [lay_len, hcl]; omega)).toNat = u := ⟨_, rfl⟩
        rw [hu] at cj
        clear key hA hB hu
        go_wp2
        go_roundw
        case rel => exact ⟨8, rfl, by omega, (KEY.out _ (byte_of m 7 _ (by omega))).1, (KEY.out _ (byte_of m 7 _ (by omega))).2⟩
        case measure => simp [intOf]
      · go_wp2
        go_ret
        have he : endOf l.length = 64 := if_neg hE
        refine ⟨w.heap.size, by rw [he]; rfl, Nat.le_refl _, hA.lt (by rw [cells8_len, lay_len, hcl]; omega), ?_, hB⟩
        have ht := tail_lay l size hn
        rw [HCC.out, HM8.out, he] at ht
        exact bytes_take hA ht.symm
end Go.Proofs.YtnddejhbncgchaaDoor
