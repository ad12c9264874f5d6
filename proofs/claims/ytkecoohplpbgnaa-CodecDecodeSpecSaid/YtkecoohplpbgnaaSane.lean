/- sane answers true. -/
import Derived.Test.YtkecoohplpbgnaaDec
import Derived.Test.YtkecoohplpbgnaaEnc
import Derived.Test.YtkecoohplpbgnaaSameC
import Derived.Lib.ConvBytes
namespace Go.Proofs.Ytkecoohplpbgnaa
open Go.RowKit

set_option maxHeartbeats 400000 in
theorem mkInt (n : Int) (w : World) : Calls Try.prog 23 #[.int .i64 n] w fun e w' => e = .returned (.agg #[.int .i64 1, .int .i64 n, .string { data := #[] }, .slice none 0 0]) ∧ Below w.heap.size w w' := by
  go_enter Try.func23, Try.ntmps23
  go_wp2
  go_returns
  exact ⟨rfl, by go_grown⟩

set_option maxHeartbeats 400000 in
theorem mkText (s : ByteArray) (w : World) : Calls Try.prog 24 #[.string s] w fun e w' => e = .returned (.agg #[.int .i64 2, .int .i64 0, .string s, .slice none 0 0]) ∧ Below w.heap.size w w' := by
  go_enter Try.func24, Try.ntmps24
  go_wp2
  go_returns
  exact ⟨rfl, by go_grown⟩

set_option maxHeartbeats 400000 in
theorem mkList (a : Option Addr) (len cap : Nat) (w : World) : Calls Try.prog 22 #[.slice a len cap] w fun e w' => e = .returned (.agg #[.int .i64 3, .int .i64 0, .string { data := #[] }, .slice a len cap]) ∧ Below w.heap.size w w' := by
  go_enter Try.func22, Try.ntmps22
  go_wp2
  go_returns
  exact ⟨rfl, by go_grown⟩

def sx1 : V := ⟨1, -3, ByteArray.empty, []⟩
def sx2 : V := ⟨1, 100, ByteArray.empty, []⟩
def sx3 : V := ⟨2, 0, { data := #[97, 98] }, []⟩
def sx4 : V := ⟨3, 0, ByteArray.empty, [sx2, sx3]⟩

theorem sx1_enc : sx1.enc = [1, 5] := by
  unfold sx1 V.enc zig
  rw [if_pos rfl, if_pos (by decide), num_lt _ (by decide)]
  decide
theorem sx2_enc : sx2.enc = [1, 200, 1] := by
  unfold sx2 V.enc zig
  rw [if_pos rfl, if_neg (by decide), num_ge _ (by decide), num_lt _ (by decide)]
  decide
theorem sx3_enc : sx3.enc = [2, 2, 97, 98] := by
  unfold sx3 V.enc
  rw [if_neg (by decide), if_pos rfl, num_lt _ (by decide)]
  decide
theorem sx4_enc : sx4.enc = [3, 2, 1, 200, 1, 2, 2, 97, 98] := by
  unfold sx4 V.enc
  rw [if_neg (by decide), if_neg (by decide), V.encs_cons, V.encs_cons, V.encs_nil, sx2_enc, sx3_enc, num_lt _ (by decide)]
  decide
theorem empty_toList : ByteArray.empty.toList = [] := by rw [ByteArray.toList_eq]; rfl
theorem sx1_chk : sx1.chk = 0 := by simp [sx1, V.chk, V.formed, V.dep]
theorem sx4_chk : sx4.chk = 0 := by simp [sx4, sx2, sx3, V.chk, V.formed, V.formeds, V.dep, V.deps]
theorem sx4_dec : decode [3, 2, 1, 200, 1, 2, 2, 97, 98] = some sx4 := by rfl
theorem bad1_dec : decode [] = none := by rfl
theorem bad2_dec : decode [1, 128, 0] = none := by rfl
theorem bad3_dec : decode [1, 5, 0] = none := by rfl
theorem bad4_dec : decode [2, 3, 97] = none := by rfl

theorem at_int {w : World} {B : Nat} (n : Int) (hn : In64 n) : V.At w B ⟨1, n, ByteArray.empty, []⟩ (.agg #[.int .i64 1, .int .i64 n, .string { data := #[] }, .slice none 0 0]) := by
  unfold V.At
  exact ⟨by unfold In64; omega, hn, by unfold maxLen; decide, none, 0, rfl, by simp, by unfold maxLen; omega, .inl rfl⟩

/-- sane's first value is encoded. -/
theorem s_enc1 (w : World) : Calls Try.prog 12 #[.agg #[.int .i64 1, .int .i64 (-3), .string { data := #[] }, .slice none 0 0]] w (EncPost w [1, 5]) := by
  have := encode_ok sx1 w 0 _ (by simp [sx1, V.dep]) (by omega) (at_int (-3) (by unfold In64; omega)) sx1_chk (by rw [sx1_enc]; decide)
  rw [sx1_enc] at this
  exact this

/-- The list of sane in memory. -/
def SList (w : World) (p : Nat) : Prop := w.cell? ⟨p, 0, none⟩ = some (.int .i64 1) ∧ w.cell? ⟨p, 1, none⟩ = some (.int .i64 100) ∧ w.cell? ⟨p, 2, none⟩ = some (.string { data := #[] }) ∧ w.cell? ⟨p, 3, none⟩ = some (.slice none 0 0) ∧
  w.cell? ⟨p, 4, none⟩ = some (.int .i64 2) ∧ w.cell? ⟨p, 5, none⟩ = some (.int .i64 0) ∧ w.cell? ⟨p, 6, none⟩ = some (.string { data := #[97, 98] }) ∧ w.cell? ⟨p, 7, none⟩ = some (.slice none 0 0)
theorem SList.keep {w w' : World} {p : Nat} (h : SList w p) (hb : Below w.heap.size w w') : SList w' p := by
  have hl : p < w.heap.size := World.block_lt_of_cell? w ⟨p, 0, none⟩ h.1
  have hc : ∀ i, w'.cell? ⟨p, i, none⟩ = w.cell? ⟨p, i, none⟩ := fun i => hb.cell (p := ⟨p, i, none⟩) hl
  obtain ⟨h0, h1, h2, h3, h4, h5, h6, h7⟩ := h
  exact ⟨(hc _).trans h0, (hc _).trans h1, (hc _).trans h2, (hc _).trans h3, (hc _).trans h4, (hc _).trans h5, (hc _).trans h6, (hc _).trans h7⟩
theorem SList.at {w : World} {p : Nat} (h : SList w p) : V.At w w.heap.size sx4 (.agg #[.int .i64 3, .int .i64 0, .string { data := #[] }, .slice (some ⟨p, 0, none⟩) 2 2]) := by
  have hl : p < w.heap.size := World.block_lt_of_cell? w ⟨p, 0, none⟩ h.1
  obtain ⟨h0, h1, h2, h3, h4, h5, h6, h7⟩ := h
  unfold sx4 V.At
  refine ⟨by unfold In64; omega, by unfold In64; omega, by unfold maxLen; decide, _, 2, rfl, by simp, by unfold maxLen; omega, .inr ⟨p, 0, rfl, hl, ?_⟩⟩
  unfold AtL AtL AtL
  refine ⟨⟨_, _, _, _, h0, h1, h2, h3, at_int 100 (by unfold In64; omega)⟩, ⟨_, _, _, _, h4, h5, h6, h7, ?_⟩, trivial⟩
  unfold sx3 V.At
  exact ⟨by unfold In64; omega, by unfold In64; omega, by unfold maxLen; decide, none, 0, rfl, by simp, by unfold maxLen; omega, .inl rfl⟩

abbrev sv4 (p : Nat) : Value := .agg #[.int .i64 3, .int .i64 0, .string { data := #[] }, .slice (some ⟨p, 0, none⟩) 2 2]

theorem s_enc4 (w : World) (p : Nat) (h : SList w p) : Calls Try.prog 12 #[.agg #[.int .i64 3, .int .i64 0, .string { data := #[] }, .slice (some ⟨p, 0, none⟩) 2 2]] w (EncPost w [3, 2, 1, 200, 1, 2, 2, 97, 98]) := by
  have := encode_ok sx4 w w.heap.size _ (by simp [sx4, sx2, sx3, V.dep, V.deps]) (Nat.le_refl _) h.at sx4_chk (by rw [sx4_enc]; decide)
  rw [sx4_enc] at this
  exact this

theorem s_size4 (w : World) (p : Nat) (h : SList w p) : Calls Try.prog 14 #[.agg #[.int .i64 3, .int .i64 0, .string { data := #[] }, .slice (some ⟨p, 0, none⟩) 2 2]] w fun e w' => e = .returned (.tuple #[.int .i64 9, .int .i64 0]) ∧ Below w.heap.size w w' := by
  have := size_ok sx4 w w.heap.size _ (by simp [sx4, sx2, sx3, V.dep, V.deps]) (Nat.le_refl _) h.at sx4_chk (by rw [sx4_enc]; decide)
  rw [sx4_enc] at this
  exact this

theorem Spare.bytes {w : World} {g n cap : Nat} {l : List UInt8} (h : Spare w g n cap l) : BytesAt w w.heap.size (.slice (some ⟨g, 0, none⟩) l.length cap) l := by
  have hlen := h.len
  have hlt := h.lt
  have hc := World.ownsRow.cells h (g := g) rfl
  rcases h.2 with ⟨h0, _⟩ | ⟨g', cap', cur, hv, _, _, hn, hm, _, _⟩
  · cases h0
  · cases hv
    refine ⟨_, cap, rfl, by omega, hm, .inr ⟨g, 0, rfl, hlt, fun i hi => ?_⟩⟩
    have := hc i (.int .u8 (l[i]).toNat) (by unfold cells8; simp [hi])
    rw [show (⟨g, 0, none⟩ : Addr).add i = ⟨g, 0 + i, none⟩ by unfold Addr.add; split <;> simp_all] at this
    exact this

theorem Spare.conv {w : World} {g n cap : Nat} {l : List UInt8} (h : Spare w g n cap l) (hn : l.length = n) : (convert 27 9 (.slice (some ⟨g, 0, none⟩) n cap)).run Try.prog w = .ok (.string ⟨l.toArray⟩) w := by
  obtain ⟨a, cap', hv, _, _, h4⟩ := h.bytes
  cases hv
  rw [← hn]
  refine conv_bytes w _ l cap ?_
  rcases h4 with h4 | ⟨db, off, h4, _, h6⟩
  · exact .inl h4
  · exact .inr ⟨db, off, h4, h6⟩

theorem s_dec4 (w : World) (g cap : Nat) (h : Spare w g 9 cap [3, 2, 1, 200, 1, 2, 2, 97, 98]) : Calls Try.prog 18 #[.slice (some ⟨g, 0, none⟩) 9 cap] w (DecPost w (some sx4)) := by
  have := decode_any w _ _ (by decide) h.bytes
  rw [sx4_dec] at this
  exact this

/-- The world behind a conversion of a string to bytes, and the capacity. -/
def strWorld (W : World) (s : ByteArray) : World := Lib.bytesWorld W 5 s
def strCap (W : World) (s : ByteArray) : Nat := grownCap W s.size 0 5
theorem conv_str (W : World) (s : ByteArray) : (convert 9 27 (.string s)).run Try.prog W = .ok (.slice (some ⟨W.heap.size, 0, none⟩) s.size (strCap W s)) (strWorld W s) :=
  Lib.run_convert_string_bytes W 9 27 5 s Try.underlying9 Try.underlying27 Try.underlying5
theorem strWorld_below (W : World) (s : ByteArray) : Below W.heap.size W (strWorld W s) := by
  refine ⟨?_, ?_, ?_, by unfold strWorld; rw [Lib.bytesWorld_size]; omega, fun k hk => Lib.bytesWorld_at_old W 5 s k hk⟩
  all_goals (unfold strWorld Lib.bytesWorld World.freeze; rw [if_neg (by decide)]; rfl)
theorem strWorld_bytes (W : World) (l : List UInt8) (hl : l.length ≤ 1000000000) : BytesAt (strWorld W ⟨l.toArray⟩) (strWorld W ⟨l.toArray⟩).heap.size (.slice (some ⟨W.heap.size, 0, none⟩) l.length (strCap W ⟨l.toArray⟩)) l := by
  refine ⟨_, _, rfl, ?_, ?_, .inr ⟨W.heap.size, 0, rfl, by unfold strWorld; rw [Lib.bytesWorld_size]; omega, fun i hi => ?_⟩⟩
  · unfold strCap; rw [size_mk]; exact grownCap_ge W _ _ _
  · unfold strCap; rw [size_mk]; exact grownCap_le_maxLen W _ _ _ (by unfold maxLen; omega)
  · have := Lib.bytesWorld_cell W 5 ⟨l.toArray⟩ i (by rw [size_mk]; exact hi)
    rw [Nat.zero_add]
    unfold strWorld
    rw [this]
    simp [List.getD, hi]

theorem s_bad (W : World) (l : List UInt8) (hl : l.length ≤ 1000000000) (hd : decode l = none) : Calls Try.prog 18 #[.slice (some ⟨W.heap.size, 0, none⟩) l.length (strCap W ⟨l.toArray⟩)] (strWorld W ⟨l.toArray⟩)
    fun e w' => e = .returned (.tuple #[.agg #[.int .i64 0, .int .i64 0, .string { data := #[] }, .slice none 0 0], .int .i64 10]) ∧ Below W.heap.size W w' := by
  have := decode_any (strWorld W ⟨l.toArray⟩) _ l hl (strWorld_bytes W l hl)
  rw [hd] at this
  exact this.mono fun e w' h => ⟨h.1, (strWorld_below W _).trans (h.2.mono (strWorld_below W _).size)⟩

set_option maxRecDepth 100000 in
set_option maxHeartbeats 1000000 in
theorem sane_any (w : World) : Calls Try.prog 10 #[] w fun e w' => e = .returned (.bool true) ∧ Below w.heap.size w w' := by
  go_enter Try.func10, Try.ntmps10
  go_wp2_with fail
  refine (mkInt (-3) _).mono ?_
  rintro e w1 ⟨rfl, hb1⟩
  go_wp2_with fail
  refine (s_enc1 _).mono ?_
  rintro e w2 ⟨v, rfl, g1, cap1, rfl, hg1, hs1, hb2⟩
  have hb02 := hb1.trans (hb2.mono hb1.size)
  have HS1 := Lib.hid hs1
  have hs2 := hb02.size
  have hg1' : w.heap.size ≤ g1 := by have := hb1.size; omega
  clear hb1 hb2 hs1 hg1
  go_wp2_with fail
  refine (mkInt 100 _).mono ?_
  rintro e w3 ⟨rfl, hb3⟩
  go_wp2_with fail
  refine (mkText _ _).mono ?_
  rintro e w4 ⟨rfl, hb4⟩
  go_wp2_with fail
  obtain ⟨w5, hw5⟩ : ∃ w5, w5 = (w4.alloc (Obj.cells #[Value.int IntKind.i64 1, Value.int IntKind.i64 100, Value.string { data := #[] }, Value.slice none 0 0, Value.int IntKind.i64 2, Value.int IntKind.i64 0, Value.string { data := #[97, 98] }, Value.slice none 0 0] 24)) := ⟨_, rfl⟩
  rw [← hw5]
  have hb45 : Below w4.heap.size w4 w5 := by rw [hw5]; go_grown
  have hsl5 : SList w5 w4.heap.size := by
    rw [hw5]
    refine ⟨?_, ?_, ?_, ?_, ?_, ?_, ?_, ?_⟩ <;> go_cell
  have hb24 := hb3.trans (hb4.mono hb3.size)
  have hb05 := hb02.trans ((hb24.trans (hb45.mono hb24.size)).mono hs2)
  have HS15 := Lib.hid ((HS1.out.below hb24).below hb45)
  obtain ⟨p, hp⟩ : ∃ p, w4.heap.size = p := ⟨_, rfl⟩
  rw [hp] at hsl5 ⊢
  have HSL5 := Lib.hid hsl5
  clear hw5 hsl5 hb45 hb24 hb3 hb4 hp HS1 hb02
  refine (mkList _ _ _ _).mono ?_
  rintro e w6 ⟨rfl, hb6⟩
  have HSL6 := Lib.hid (HSL5.out.keep hb6)
  have HS16 := Lib.hid (HS15.out.below hb6)
  have hb06 := hb05.trans (hb6.mono hb05.size)
  clear hb6 HSL5 HS15 hb05
  go_wp2_with fail
  obtain ⟨w7, hw7⟩ : ∃ w7, w7 = (w6.alloc (Obj.cells #[Value.int IntKind.i64 3, Value.int IntKind.i64 0, Value.string { data := #[] }, Value.slice (some ⟨p, 0, none⟩) 2 2] 24)) := ⟨_, rfl⟩
  rw [← hw7]
  obtain ⟨P, hP⟩ : ∃ P, w6.heap.size = P := ⟨_, rfl⟩
  rw [hP]
  have hb67 : Below w6.heap.size w6 w7 := by rw [hw7]; go_grown
  have c0 : w7.cell? ⟨P, 0, none⟩ = some (.int .i64 3) := by rw [hw7, ← hP]; go_cell
  have c1 : w7.cell? ⟨P, 1, none⟩ = some (.int .i64 0) := by rw [hw7, ← hP]; go_cell
  have c2 : w7.cell? ⟨P, 2, none⟩ = some (.string { data := #[] }) := by rw [hw7, ← hP]; go_cell
  have c3 : w7.cell? ⟨P, 3, none⟩ = some (.slice (some ⟨p, 0, none⟩) 2 2) := by rw [hw7, ← hP]; go_cell
  have hPl : P < w7.heap.size := World.block_lt_of_cell? w7 ⟨P, 0, none⟩ c0
  have hb07 := hb06.trans (hb67.mono hb06.size)
  have HSL7 := Lib.hid (HSL6.out.keep hb67)
  have HS17 := Lib.hid (HS16.out.below hb67)
  clear hw7 hb67 HSL6 HS16 hb06
  go_wp2_with fail
  refine (s_enc4 _ p HSL7.out).mono ?_
  rintro e w8 ⟨v, rfl, g2, cap2, rfl, hg2, hs28, hb8⟩
  have hc8 : ∀ i u, w7.cell? ⟨P, i, none⟩ = some u → w8.cell? ⟨P, i, none⟩ = some u := fun i u hu => (hb8.cell (p := ⟨P, i, none⟩) hPl).trans hu
  have d0 := hc8 _ _ c0
  have d1 := hc8 _ _ c1
  have d2 := hc8 _ _ c2
  have d3 := hc8 _ _ c3
  have hb08 := hb07.trans (hb8.mono hb07.size)
  have HSL8 := Lib.hid (HSL7.out.keep hb8)
  have HS18 := Lib.hid (HS17.out.below hb8)
  have HS28 := Lib.hid hs28
  have hP8 : P < w8.heap.size := by have := hb8.size; omega
  clear hc8 c0 c1 c2 c3 hPl hb07 HSL7 HS17 hs28 hb8 hg2
  go_wp2_with fail
  refine (s_dec4 _ g2 cap2 HS28.out).mono ?_
  rintro e w9 ⟨v, rfl, hx9, hb9⟩
  obtain ⟨k9, n9, s9, a9, l9, cp9, rfl⟩ := own_shape hx9
  have hx9' := V.Own.at (B := w9.heap.size) (fun b hb => hb.2) _ _ hx9
  have hc9 : ∀ i u, w8.cell? ⟨P, i, none⟩ = some u → ∀ o, (w9.alloc o).cell? ⟨P, i, none⟩ = some u := fun i u hu o => (World.cell?_alloc_lt w9 o ⟨P, i, none⟩ (by show P < _; have := hb9.size; omega)).trans ((hb9.cell (p := ⟨P, i, none⟩) hP8).trans hu)
  have e0 := hc9 _ _ d0
  have e1 := hc9 _ _ d1
  have e2 := hc9 _ _ d2
  have e3 := hc9 _ _ d3
  have hb09 := hb08.trans (hb9.mono hb08.size)
  have HSL9 := Lib.hid (HSL8.out.keep hb9)
  have HS19 := Lib.hid (HS18.out.below hb9)
  have HS29 := Lib.hid (HS28.out.below hb9)
  have HX9 := Lib.hid hx9'
  have hP9 : P < w9.heap.size := by have := hb9.size; omega
  clear hc9 d0 d1 d2 d3 hP8 hb08 HSL8 HS18 HS28 hb9 hx9 hx9'
  go_wp2_with fail
  obtain ⟨w10, hw10⟩ : ∃ w10, w10 = (w9.alloc (Obj.cells #[Value.int IntKind.i64 k9, Value.int IntKind.i64 n9, Value.string s9, Value.slice a9 l9 cp9] 24)) := ⟨_, rfl⟩
  rw [← hw10]
  have hb910 : Below w9.heap.size w9 w10 := by rw [hw10]; go_grown
  obtain ⟨R, hR⟩ : ∃ R, w9.heap.size = R := ⟨_, rfl⟩
  rw [hR]
  have f0 : w10.cell? ⟨R, 0, none⟩ = some (.int .i64 k9) := by rw [hw10, ← hR]; go_cell
  have f1 : w10.cell? ⟨R, 1, none⟩ = some (.int .i64 n9) := by rw [hw10, ← hR]; go_cell
  have f2 : w10.cell? ⟨R, 2, none⟩ = some (.string s9) := by rw [hw10, ← hR]; go_cell
  have f3 : w10.cell? ⟨R, 3, none⟩ = some (.slice a9 l9 cp9) := by rw [hw10, ← hR]; go_cell
  have hRl : R < w10.heap.size := World.block_lt_of_cell? w10 ⟨R, 0, none⟩ f0
  have g0 : w10.cell? ⟨P, 0, none⟩ = some (.int .i64 3) := by rw [hw10]; exact e0 _
  have g1' : w10.cell? ⟨P, 1, none⟩ = some (.int .i64 0) := by rw [hw10]; exact e1 _
  have g2' : w10.cell? ⟨P, 2, none⟩ = some (.string { data := #[] }) := by rw [hw10]; exact e2 _
  have g3' : w10.cell? ⟨P, 3, none⟩ = some (.slice (some ⟨p, 0, none⟩) 2 2) := by rw [hw10]; exact e3 _
  have HSL10 := Lib.hid (HSL9.out.keep hb910)
  have HS110 := Lib.hid (HS19.out.below hb910)
  have HS210 := Lib.hid (HS29.out.below hb910)
  have HX10 := Lib.hid (V.At.mono hb910.size _ _ (V.At.below hb910 _ _ HX9.out))
  have hb010 := hb09.trans (hb910.mono hb09.size)
  have hP10 : P < w10.heap.size := by have := hb910.size; omega
  clear hw10 hb910 e0 e1 e2 e3 HSL9 HS19 HS29 HX9 hb09 hP9
  refine (s_size4 _ p HSL10.out).mono ?_
  rintro e w11 ⟨rfl, hb11⟩
  have hc11 : ∀ k i u, k < w10.heap.size → w10.cell? ⟨k, i, none⟩ = some u → w11.cell? ⟨k, i, none⟩ = some u := fun k i u hk hu => (hb11.cell (p := ⟨k, i, none⟩) hk).trans hu
  have m0 := hc11 _ _ _ hRl f0
  have m1 := hc11 _ _ _ hRl f1
  have m2 := hc11 _ _ _ hRl f2
  have m3 := hc11 _ _ _ hRl f3
  have n0 := hc11 _ _ _ hP10 g0
  have n1 := hc11 _ _ _ hP10 g1'
  have n2 := hc11 _ _ _ hP10 g2'
  have n3 := hc11 _ _ _ hP10 g3'
  have HSL11 := Lib.hid (HSL10.out.keep hb11)
  have cv1 : (convert 27 9 (.slice (some ⟨g1, 0, none⟩) 2 cap1)).run Try.prog w11 = .ok (.string { data := #[1, 5] }) w11 := (HS110.out.below hb11).conv rfl
  have cv2 : (convert 27 9 (.slice (some ⟨g2, 0, none⟩) 9 cap2)).run Try.prog w11 = .ok (.string { data := #[3, 2, 1, 200, 1, 2, 2, 97, 98] }) w11 := (HS210.out.below hb11).conv rfl
  have HX11 := Lib.hid (V.At.mono hb11.size _ _ (V.At.below hb11 _ _ HX10.out))
  have hb011 := hb010.trans (hb11.mono hb010.size)
  clear hc11 f0 f1 f2 f3 g0 g1' g2' g3' hRl hP10 HSL10 HS110 HS210 HX10 hb010 hb11
  go_wp2_with fail
  refine (cSame _ sx4 (Nat.le_refl _) sx4 w11 w11.heap.size _ _ (Nat.le_refl _) HSL11.out.at HX11.out).mono ?_
  rw [V.same_refl sx4]
  rintro e w12 ⟨rfl, hb12⟩
  have hb012 := hb011.trans (hb12.mono hb011.size)
  clear m0 m1 m2 m3 n0 n1 n2 n3 cv1 cv2 HSL11 HX11 hb011 hb12
  go_wp2_with fail
  refine (mkText _ _).mono ?_
  rintro e w13 ⟨rfl, hb13⟩
  have hb013 := hb012.trans (hb13.mono hb012.size)
  clear hb012 hb13
  go_wp2_with fail
  refine (mkList _ _ _ _).mono ?_
  rintro e w14 ⟨rfl, hb14⟩
  have hb014 := hb013.trans (hb14.mono hb013.size)
  clear hb013 hb14
  go_wp2_with fail
  have hsf := cSame _ ⟨2, 0, ByteArray.empty, []⟩ (Nat.le_refl _) ⟨3, 0, ByteArray.empty, []⟩ w14 w14.heap.size (.agg #[.int .i64 2, .int .i64 0, .string { data := #[] }, .slice none 0 0]) (.agg #[.int .i64 3, .int .i64 0, .string { data := #[] }, .slice none 0 0]) (Nat.le_refl _)
    (by unfold V.At; exact ⟨by unfold In64; omega, by unfold In64; omega, by unfold maxLen; decide, none, 0, rfl, by simp, by unfold maxLen; omega, .inl rfl⟩)
    (by unfold V.At; exact ⟨by unfold In64; omega, by unfold In64; omega, by unfold maxLen; decide, none, 0, rfl, by simp, by unfold maxLen; omega, .inl rfl⟩)
  refine hsf.mono ?_
  rw [show V.same ⟨2, 0, ByteArray.empty, []⟩ ⟨3, 0, ByteArray.empty, []⟩ = false by unfold V.same; rfl]
  rintro e w15 ⟨rfl, hb15⟩
  have hb015 := hb014.trans (hb15.mono hb014.size)
  clear hb014 hb15 hsf
  go_wp2_with fail
  obtain ⟨w16, hw16⟩ : ∃ w16, w16 = (w15.alloc (Obj.cells #[Value.string { data := #[] }, Value.string { data := #[1, 128, 0] }, Value.string { data := #[1, 5, 0] }, Value.string { data := #[2, 3, 97] }] 9)) := ⟨_, rfl⟩
  rw [← hw16]
  obtain ⟨R2, hR2⟩ : ∃ R2, w15.heap.size = R2 := ⟨_, rfl⟩
  rw [hR2]
  have s0 : w16.cell? ⟨R2, 0, none⟩ = some (.string { data := #[] }) := by rw [hw16, ← hR2]; go_cell
  have s1 : w16.cell? ⟨R2, 1, none⟩ = some (.string { data := #[1, 128, 0] }) := by rw [hw16, ← hR2]; go_cell
  have s2 : w16.cell? ⟨R2, 2, none⟩ = some (.string { data := #[1, 5, 0] }) := by rw [hw16, ← hR2]; go_cell
  have s3 : w16.cell? ⟨R2, 3, none⟩ = some (.string { data := #[2, 3, 97] }) := by rw [hw16, ← hR2]; go_cell
  have hRl : R2 < w16.heap.size := World.block_lt_of_cell? w16 ⟨R2, 0, none⟩ s0
  have hb016 : Below w.heap.size w w16 := by rw [hw16]; exact hb015.alloc hb015.size _
  clear hw16 hR2 hb015
  go_loopw [79] (fun i wr => ∃ j : Nat, i = .int .i64 j ∧ j ≤ 4 ∧ Below w16.heap.size w16 wr) (fun i _ => 4 - (intOf i).toNat)
  case atStart => exact ⟨0, rfl, by omega, Below.refl _ _⟩
  case round =>
    obtain ⟨j, rfl, hj, hBr⟩ := hrel
    have hcr : ∀ i u, w16.cell? ⟨R2, i, none⟩ = some u → wr.cell? ⟨R2, i, none⟩ = some u := fun i u hu => (hBr.cell (p := ⟨R2, i, none⟩) hRl).trans hu
    have t0 := hcr _ _ s0
    have t1 := hcr _ _ s1
    have t2 := hcr _ _ s2
    have t3 := hcr _ _ s3
    clear hcr s0 s1 s2 s3
    rcases (by omega : j = 0 ∨ j = 1 ∨ j = 2 ∨ j = 3 ∨ j = 4) with rfl | rfl | rfl | rfl | rfl
    · have hcs : ∀ W, (convert 9 27 (.string { data := #[] })).run Try.prog W = .ok (.slice (some ⟨W.heap.size, 0, none⟩) 0 (strCap W { data := #[] })) (strWorld W { data := #[] }) := fun W => conv_str W _
      go_wp2_with fail
      refine (s_bad wr [] (by decide) bad1_dec).mono ?_
      rintro e w17 ⟨rfl, hb17⟩
      have hB17 := hBr.trans (hb17.mono hBr.size)
      clear hcs t0 t1 t2 t3 hb17
      go_wp2
      go_roundw
      case rel => exact ⟨1, rfl, by omega, hB17.alloc hB17.size _⟩
      case measure => simp [intOf]
    · have hcs : ∀ W, (convert 9 27 (.string { data := #[1, 128, 0] })).run Try.prog W = .ok (.slice (some ⟨W.heap.size, 0, none⟩) 3 (strCap W { data := #[1, 128, 0] })) (strWorld W { data := #[1, 128, 0] }) := fun W => conv_str W _
      go_wp2_with fail
      refine (s_bad wr [1, 128, 0] (by decide) bad2_dec).mono ?_
      rintro e w17 ⟨rfl, hb17⟩
      have hB17 := hBr.trans (hb17.mono hBr.size)
      clear hcs t0 t1 t2 t3 hb17
      go_wp2
      go_roundw
      case rel => exact ⟨2, rfl, by omega, hB17.alloc hB17.size _⟩
      case measure => simp [intOf]
    · have hcs : ∀ W, (convert 9 27 (.string { data := #[1, 5, 0] })).run Try.prog W = .ok (.slice (some ⟨W.heap.size, 0, none⟩) 3 (strCap W { data := #[1, 5, 0] })) (strWorld W { data := #[1, 5, 0] }) := fun W => conv_str W _
      go_wp2_with fail
      refine (s_bad wr [1, 5, 0] (by decide) bad3_dec).mono ?_
      rintro e w17 ⟨rfl, hb17⟩
      have hB17 := hBr.trans (hb17.mono hBr.size)
      clear hcs t0 t1 t2 t3 hb17
      go_wp2
      go_roundw
      case rel => exact ⟨3, rfl, by omega, hB17.alloc hB17.size _⟩
      case measure => simp [intOf]
    · have hcs : ∀ W, (convert 9 27 (.string { data := #[2, 3, 97] })).run Try.prog W = .ok (.slice (some ⟨W.heap.size, 0, none⟩) 3 (strCap W { data := #[2, 3, 97] })) (strWorld W { data := #[2, 3, 97] }) := fun W => conv_str W _
      go_wp2_with fail
      refine (s_bad wr [2, 3, 97] (by decide) bad4_dec).mono ?_
      rintro e w17 ⟨rfl, hb17⟩
      have hB17 := hBr.trans (hb17.mono hBr.size)
      clear hcs t0 t1 t2 t3 hb17
      go_wp2
      go_roundw
      case rel => exact ⟨4, rfl, by omega, hB17.alloc hB17.size _⟩
      case measure => simp [intOf]
    · go_wp2_with fail
      have hck := check_any ⟨0, 0, ByteArray.empty, []⟩ wr wr.heap.size (.agg #[.int .i64 0, .int .i64 0, .string { data := #[] }, .slice none 0 0]) (by simp [V.dep]) (Nat.le_refl _)
        (by unfold V.At; exact ⟨by unfold In64; omega, by unfold In64; omega, by unfold maxLen; decide, none, 0, rfl, by simp, by unfold maxLen; omega, .inl rfl⟩)
      rw [show V.chk ⟨0, 0, ByteArray.empty, []⟩ = 1 by simp [V.chk, V.formed]] at hck
      refine hck.mono ?_
      rintro e w17 ⟨rfl, hb17⟩
      have hB17 := hb016.trans ((hBr.trans (hb17.mono hBr.size)).mono hb016.size)
      clear t0 t1 t2 t3 hck
      go_wp2
      go_ret
      exact ⟨rfl, hB17⟩

end Go.Proofs.Ytkecoohplpbgnaa
