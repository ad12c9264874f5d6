/- For every value CodecEncodeSpec answers true and leaves its argument as it was. No condition but the row's own. -/
import Derived.Test.YtkecoohplpbgnaaRefEnc
import Derived.Test.YtkecoohplpbgnaaLawTrip
namespace Go.Proofs.Ytkecoohplpbgnaa
open Go.RowKit Go.ChangeShapes Go.WideShapes Go.ChangeAt

set_option maxHeartbeats 400000 in
theorem rencode_bad (x : V) (w : World) (B : Nat) (v : Value) (hd : V.dep x ≤ 1000000) (hB : B ≤ w.heap.size) (h : V.At w B x v) (hk : x.chk ≠ 0) :
    Calls Try.prog 13 #[v] w fun e w' => e = .returned (.tuple #[.slice none 0 0, .int .i64 x.chk]) ∧ Below w.heap.size w w' := by
  have hc : ∀ W, Below w.heap.size w W → Calls Try.prog 17 #[v] W fun e w' => e = .returned (.int .i64 x.chk) ∧ Below W.heap.size W w' :=
    fun W hW => rcheck_any x W B v hd (by have := hW.size; omega) (V.At.below (hW.mono hB) _ _ h)
  obtain ⟨q, hq⟩ : ∃ q, x.chk = q := ⟨_, rfl⟩
  rw [hq] at hc hk ⊢
  obtain ⟨k, n, s, l⟩ := x
  unfold V.At at h
  obtain ⟨h1, h2, h3, a, cap, rfl, _⟩ := h
  have HC := Lib.hid hc
  have hq1 : (q != 0) = true := by simpa using hk
  clear hc h1 h2 hq
  go_enter Try.func13, Try.ntmps13
  go_wp2_with fail
  refine (HC.out _ (by go_grown)).mono ?_
  rintro e w3 ⟨rfl, hb3⟩
  have hB3 : Below w.heap.size w w3 := Below.trans (B := w.heap.size) (by go_grown) (hb3.mono (by simp))
  clear hb3
  go_wp2
  go_ret2
  exact ⟨rfl, hB3⟩

set_option maxHeartbeats 400000 in
theorem rencode_ok (x : V) (w : World) (B : Nat) (v : Value) (hd : V.dep x ≤ 1000000) (hB : B ≤ w.heap.size) (h : V.At w B x v) (hk : x.chk = 0) (hbd : x.enc.length ≤ 1000000000) :
    Calls Try.prog 13 #[v] w (EncPost w x.enc) := by
  have hf : x.formed = true := x.chk_formed hk
  have hc : ∀ W, Below w.heap.size w W → Calls Try.prog 17 #[v] W fun e w' => e = .returned (.int .i64 0) ∧ Below W.heap.size W w' :=
    fun W hW => by rw [← hk]; exact rcheck_any x W B v hd (by have := hW.size; omega) (V.At.below (hW.mono hB) _ _ h)
  have he : ∀ W, Below w.heap.size w W → Calls Try.prog 28 #[v] W (NewPost W x.enc) :=
    fun W hW => refEnc _ x (Nat.le_refl _) W B v hf hbd (by have := hW.size; omega) (V.At.below (hW.mono hB) _ _ h)
  obtain ⟨E, hE⟩ : ∃ E, x.enc = E := ⟨_, rfl⟩
  rw [hE] at he ⊢
  obtain ⟨k, n, s, l⟩ := x
  unfold V.At at h
  obtain ⟨h1, h2, h3, a, cap, rfl, _⟩ := h
  obtain ⟨w1, hw1⟩ : ∃ w1, w1 = w.alloc (Obj.cells #[.int .i64 k, .int .i64 n, .string s, .slice a l.length cap] 24) := ⟨_, rfl⟩
  have hs1 : w1.heap.size = w.heap.size + 1 := by rw [hw1]; simp
  have hB1 : Below w.heap.size w w1 := by rw [hw1]; go_grown
  have p0 : ∀ W, Kept w1 W → W.cell? ⟨w.heap.size, 0, none⟩ = some (.int .i64 k) := fun W hW => (hW.below.cell (by show w.heap.size < _; omega)).trans (by rw [hw1]; go_cell)
  have p1 : ∀ W, Kept w1 W → W.cell? ⟨w.heap.size, 1, none⟩ = some (.int .i64 n) := fun W hW => (hW.below.cell (by show w.heap.size < _; omega)).trans (by rw [hw1]; go_cell)
  have p2 : ∀ W, Kept w1 W → W.cell? ⟨w.heap.size, 2, none⟩ = some (.string s) := fun W hW => (hW.below.cell (by show w.heap.size < _; omega)).trans (by rw [hw1]; go_cell)
  have p3 : ∀ W, Kept w1 W → W.cell? ⟨w.heap.size, 3, none⟩ = some (.slice a l.length cap) := fun W hW => (hW.below.cell (by show w.heap.size < _; omega)).trans (by rw [hw1]; go_cell)
  have HC := Lib.hid (hc w1 hB1)
  have HE := Lib.hid he
  have HW1 := Lib.hid hw1
  clear hc he h1 h2 hE hf hk hbd hd hw1
  go_enter Try.func13, Try.ntmps13
  go_wp2_with fail
  rw [← HW1.out]
  refine HC.out.mono ?_
  rintro e w3 ⟨rfl, hb3⟩
  have hK3 : Kept w1 w3 := hb3
  have s0 := p0 _ hK3
  have s1 := p1 _ hK3
  have s2 := p2 _ hK3
  have s3 := p3 _ hK3
  have hB3 : Below w.heap.size w w3 := hB1.trans (hb3.mono (by omega))
  clear hb3 hK3
  go_wp2_with fail
  refine (HE.out _ hB3).mono ?_
  rintro e w4 ⟨v, rfl, g, cp, rfl, hg, hs, hb4⟩
  have hm : Made w E (.slice (some ⟨g, 0, none⟩) E.length cp) w4 := ⟨g, cp, rfl, Nat.le_trans hB3.size hg, hs, hB3.trans (hb4.mono hB3.size)⟩
  have HM := Lib.hid hm
  clear hg hs hb4 hm s0 s1 s2 s3
  go_wp2
  go_ret2
  exact ⟨_, rfl, HM.out⟩

set_option maxHeartbeats 400000 in
theorem rsize_bad (x : V) (w : World) (B : Nat) (v : Value) (hd : V.dep x ≤ 1000000) (hB : B ≤ w.heap.size) (h : V.At w B x v) (hk : x.chk ≠ 0) :
    Calls Try.prog 15 #[v] w fun e w' => e = .returned (.tuple #[.int .i64 0, .int .i64 x.chk]) ∧ Below w.heap.size w w' := by
  have hc : ∀ W, Below w.heap.size w W → Calls Try.prog 13 #[v] W fun e w' => e = .returned (.tuple #[.slice none 0 0, .int .i64 x.chk]) ∧ Below W.heap.size W w' :=
    fun W hW => rencode_bad x W B v hd (by have := hW.size; omega) (V.At.below (hW.mono hB) _ _ h) hk
  obtain ⟨q, hq⟩ : ∃ q, x.chk = q := ⟨_, rfl⟩
  rw [hq] at hc ⊢
  obtain ⟨k, n, s, l⟩ := x
  unfold V.At at h
  obtain ⟨h1, h2, h3, a, cap, rfl, _⟩ := h
  have HC := Lib.hid hc
  clear hc h1 h2 hq hk
  go_enter Try.func15, Try.ntmps15
  go_wp2_with fail
  refine (HC.out _ (by go_grown)).mono ?_
  rintro e w3 ⟨rfl, hb3⟩
  have hB3 : Below w.heap.size w w3 := Below.trans (B := w.heap.size) (by go_grown) (hb3.mono (by simp))
  clear hb3
  go_wp2
  go_ret2
  exact ⟨rfl, hB3⟩

set_option maxHeartbeats 400000 in
theorem rsize_ok (x : V) (w : World) (B : Nat) (v : Value) (hd : V.dep x ≤ 1000000) (hB : B ≤ w.heap.size) (h : V.At w B x v) (hk : x.chk = 0) (hbd : x.enc.length ≤ 1000000000) :
    Calls Try.prog 15 #[v] w fun e w' => e = .returned (.tuple #[.int .i64 (x.enc.length : Nat), .int .i64 0]) ∧ Below w.heap.size w w' := by
  have hc : ∀ W, Below w.heap.size w W → Calls Try.prog 13 #[v] W (EncPost W x.enc) :=
    fun W hW => rencode_ok x W B v hd (by have := hW.size; omega) (V.At.below (hW.mono hB) _ _ h) hk hbd
  obtain ⟨E, hE⟩ : ∃ E, x.enc = E := ⟨_, rfl⟩
  rw [hE] at hc ⊢
  obtain ⟨k, n, s, l⟩ := x
  unfold V.At at h
  obtain ⟨h1, h2, h3, a, cap, rfl, _⟩ := h
  have HC := Lib.hid hc
  clear hc h1 h2 hE hk hbd
  go_enter Try.func15, Try.ntmps15
  go_wp2_with fail
  refine (HC.out _ (by go_grown)).mono ?_
  rintro e w3 ⟨v, rfl, g, cp, rfl, hg, hs, hb3⟩
  have hB3 : Below w.heap.size w w3 := Below.trans (B := w.heap.size) (by go_grown) (hb3.mono (by simp))
  clear hb3 hs hg
  go_wp2
  go_ret2
  exact ⟨rfl, hB3⟩

set_option maxRecDepth 100000 in
set_option maxHeartbeats 2000000 in
theorem lawEnc (x : V) (v : Value) (w : World) (hx : V.At w w.heap.size x v) :
    Calls Try.prog 3 #[v] w fun e w' => e = .returned (.bool true) ∧ Below w.heap.size w w' := by
  have HX := Lib.hid hx
  obtain ⟨k, n, s, a, len, cap, rfl⟩ := at_shape hx
  clear hx
  obtain ⟨w1, hw1⟩ : ∃ w1, w1 = w.alloc (Obj.cells #[.int .i64 k, .int .i64 n, .string s, .slice a len cap] 24) := ⟨_, rfl⟩
  have hz1 : w1.heap.size = w.heap.size + 1 := by rw [hw1]; simp
  have hB1 : Below w.heap.size w w1 := by rw [hw1]; go_grown
  have hcell : ∀ W, Kept w1 W → ∀ k i u, k < w1.heap.size → w1.cell? ⟨k, i, none⟩ = some u → W.cell? ⟨k, i, none⟩ = some u := fun W hW k i u hk hu => (hW.below.cell (p := ⟨k, i, none⟩) hk).trans hu
  have p0 : ∀ W, Kept w1 W → W.cell? ⟨w.heap.size, 0, none⟩ = some (.int .i64 k) := fun W hW => hcell W hW _ _ _ (by omega) (by rw [hw1]; go_cell)
  have p1 : ∀ W, Kept w1 W → W.cell? ⟨w.heap.size, 1, none⟩ = some (.int .i64 n) := fun W hW => hcell W hW _ _ _ (by omega) (by rw [hw1]; go_cell)
  have p2 : ∀ W, Kept w1 W → W.cell? ⟨w.heap.size, 2, none⟩ = some (.string s) := fun W hW => hcell W hW _ _ _ (by omega) (by rw [hw1]; go_cell)
  have p3 : ∀ W, Kept w1 W → W.cell? ⟨w.heap.size, 3, none⟩ = some (.slice a len cap) := fun W hW => hcell W hW _ _ _ (by omega) (by rw [hw1]; go_cell)
  have hkw : ∀ W, Kept w1 W → Below w.heap.size w W := fun W hW => hB1.trans (hW.below.mono (by omega))
  have hxW : ∀ W, Kept w1 W → V.At W W.heap.size x (.agg #[.int .i64 k, .int .i64 n, .string s, .slice a len cap]) := fun W hW => V.At.mono (hkw W hW).size _ _ (V.At.below (hkw W hW) _ _ HX.out)
  have hcs : ∀ W, Kept w1 W → Calls Try.prog 10 #[] W fun e w' => e = .returned (.bool true) ∧ Kept w1 w' := fun W hW => (sane_any W).mono fun e w' h => ⟨h.1, hW.next h.2⟩
  have hcf : ∀ W, Kept w1 W → Calls Try.prog 11 #[.slice (some ⟨W.heap.size, 0, none⟩) 1 1] (W.alloc (Obj.cells #[.int .i64 k, .int .i64 n, .string s, .slice a len cap] 24)) fun e w' => e = .returned (.bool ([x].all V.few)) ∧ Kept w1 w' := fun W hW => by
    have h2 := one_at (hxW W hW) (Nat.le_refl _)
    have := fews_any [x] (some ⟨W.heap.size, 0, none⟩) 1 (W.alloc (Obj.cells #[.int .i64 k, .int .i64 n, .string s, .slice a len cap] 24)) (by simp) (by unfold maxLen; omega) (.inr ⟨_, _, rfl, by simp, by rw [World.size_alloc]; exact h2⟩)
    exact this.mono fun e w' h => ⟨h.1, Kept.next (hW.alloc _) h.2⟩
  have hex : x.few = true → x.chk = 0 → ∀ W, Kept w1 W → Calls Try.prog 12 #[.agg #[.int .i64 k, .int .i64 n, .string s, .slice a len cap]] W (EncPost W x.enc) := fun hf hk W hW => by
    obtain ⟨b1, b2, _⟩ := few_bound HX.out hf
    exact encode_ok x W W.heap.size _ (by omega) (Nat.le_refl _) (hxW W hW) hk (by omega)
  have hrx : x.few = true → x.chk = 0 → ∀ W, Kept w1 W → Calls Try.prog 13 #[.agg #[.int .i64 k, .int .i64 n, .string s, .slice a len cap]] W (EncPost W x.enc) := fun hf hk W hW => by
    obtain ⟨b1, b2, _⟩ := few_bound HX.out hf
    exact rencode_ok x W W.heap.size _ (by omega) (Nat.le_refl _) (hxW W hW) hk (by omega)
  have hsx : x.few = true → x.chk = 0 → ∀ W, Kept w1 W → Calls Try.prog 14 #[.agg #[.int .i64 k, .int .i64 n, .string s, .slice a len cap]] W fun e w' => e = .returned (.tuple #[.int .i64 (x.enc.length : Nat), .int .i64 0]) ∧ Kept w1 w' ∧ Below W.heap.size W w' := fun hf hk W hW => by
    obtain ⟨b1, b2, _⟩ := few_bound HX.out hf
    exact (size_ok x W W.heap.size _ (by omega) (Nat.le_refl _) (hxW W hW) hk (by omega)).mono fun e w' h => ⟨h.1, hW.next h.2, h.2⟩
  have htx : x.few = true → x.chk = 0 → ∀ W, Kept w1 W → Calls Try.prog 15 #[.agg #[.int .i64 k, .int .i64 n, .string s, .slice a len cap]] W fun e w' => e = .returned (.tuple #[.int .i64 (x.enc.length : Nat), .int .i64 0]) ∧ Kept w1 w' ∧ Below W.heap.size W w' := fun hf hk W hW => by
    obtain ⟨b1, b2, _⟩ := few_bound HX.out hf
    exact (rsize_ok x W W.heap.size _ (by omega) (Nat.le_refl _) (hxW W hW) hk (by omega)).mono fun e w' h => ⟨h.1, hW.next h.2, h.2⟩
  have hbx : x.few = true → x.chk ≠ 0 → ∀ W, Kept w1 W → Calls Try.prog 12 #[.agg #[.int .i64 k, .int .i64 n, .string s, .slice a len cap]] W fun e w' => e = .returned (.tuple #[.slice none 0 0, .int .i64 x.chk]) ∧ Kept w1 w' := fun hf hk W hW => by
    obtain ⟨b1, b2, _⟩ := few_bound HX.out hf
    exact (encode_bad x W W.heap.size _ (by omega) (Nat.le_refl _) (hxW W hW) hk).mono fun e w' h => ⟨h.1, hW.next h.2⟩
  have hby : x.few = true → x.chk ≠ 0 → ∀ W, Kept w1 W → Calls Try.prog 13 #[.agg #[.int .i64 k, .int .i64 n, .string s, .slice a len cap]] W fun e w' => e = .returned (.tuple #[.slice none 0 0, .int .i64 x.chk]) ∧ Kept w1 w' := fun hf hk W hW => by
    obtain ⟨b1, b2, _⟩ := few_bound HX.out hf
    exact (rencode_bad x W W.heap.size _ (by omega) (Nat.le_refl _) (hxW W hW) hk).mono fun e w' h => ⟨h.1, hW.next h.2⟩
  have hbs : x.few = true → x.chk ≠ 0 → ∀ W, Kept w1 W → Calls Try.prog 14 #[.agg #[.int .i64 k, .int .i64 n, .string s, .slice a len cap]] W fun e w' => e = .returned (.tuple #[.int .i64 0, .int .i64 x.chk]) ∧ Kept w1 w' := fun hf hk W hW => by
    obtain ⟨b1, b2, _⟩ := few_bound HX.out hf
    exact (size_bad x W W.heap.size _ (by omega) (Nat.le_refl _) (hxW W hW) hk).mono fun e w' h => ⟨h.1, hW.next h.2⟩
  have hbt : x.few = true → x.chk ≠ 0 → ∀ W, Kept w1 W → Calls Try.prog 15 #[.agg #[.int .i64 k, .int .i64 n, .string s, .slice a len cap]] W fun e w' => e = .returned (.tuple #[.int .i64 0, .int .i64 x.chk]) ∧ Kept w1 w' := fun hf hk W hW => by
    obtain ⟨b1, b2, _⟩ := few_bound HX.out hf
    exact (rsize_bad x W W.heap.size _ (by omega) (Nat.le_refl _) (hxW W hW) hk).mono fun e w' h => ⟨h.1, hW.next h.2⟩
  have hck : x.few = true → ∀ W, Kept w1 W → Calls Try.prog 16 #[.agg #[.int .i64 k, .int .i64 n, .string s, .slice a len cap]] W fun e w' => e = .returned (.int .i64 x.chk) ∧ Below W.heap.size W w' := fun hf W hW => by
    obtain ⟨b1, b2, _⟩ := few_bound HX.out hf
    exact check_any x W W.heap.size _ (by omega) (Nat.le_refl _) (hxW W hW)
  have hrk : x.few = true → ∀ W, Kept w1 W → Calls Try.prog 17 #[.agg #[.int .i64 k, .int .i64 n, .string s, .slice a len cap]] W fun e w' => e = .returned (.int .i64 x.chk) ∧ Below W.heap.size W w' := fun hf W hW => by
    obtain ⟨b1, b2, _⟩ := few_bound HX.out hf
    exact rcheck_any x W W.heap.size _ (by omega) (Nat.le_refl _) (hxW W hW)
  obtain ⟨t, ht⟩ : ∃ t, [x].all V.few = t := ⟨_, rfl⟩
  rw [ht] at hcf
  have HT := Lib.hid ht
  have HW := Lib.hid hw1
  have HS := Lib.hid hcs
  have HF := Lib.hid hcf
  have HK := Lib.hid hkw
  have HEX := Lib.hid hex
  have HRX := Lib.hid hrx
  have HSX := Lib.hid hsx
  have HTX := Lib.hid htx
  have HBX := Lib.hid hbx
  have HBY := Lib.hid hby
  have HBS := Lib.hid hbs
  have HBT := Lib.hid hbt
  have HCK := Lib.hid hck
  have HRK := Lib.hid hrk
  have P0 := Lib.hid p0
  have P1 := Lib.hid p1
  have P2 := Lib.hid p2
  have P3 := Lib.hid p3
  clear hcs hcf hcell hkw hxW hw1 ht hex hrx hsx htx hbx hby hbs hbt hck hrk p0 p1 p2 p3
  go_enter Try.func3, Try.ntmps3
  go_wp2_with fail
  rw [← HW.out]
  refine (HS.out _ (Kept.refl _)).mono ?_
  rintro e w2 ⟨rfl, hK2⟩
  have s0 := P0.out _ hK2
  have s1 := P1.out _ hK2
  have s2 := P2.out _ hK2
  have s3 := P3.out _ hK2
  go_wp2_with fail
  refine (HF.out _ hK2).mono ?_
  rintro e w3 ⟨rfl, hK3⟩
  clear hK2 s0 s1 s2 s3
  cases t
  · go_wp2
    go_ret
    exact ⟨rfl, HK.out _ hK3⟩
  have hfx0 : x.few = true := by have := HT.out; simpa using this
  have hfx := Lib.hid hfx0
  clear hfx0
  have s0 := P0.out _ hK3
  have s1 := P1.out _ hK3
  have s2 := P2.out _ hK3
  have s3 := P3.out _ hK3
  by_cases cx : x.chk = 0
  · have hcx : Hid (x.chk = 0) := cx
    clear cx
    go_wp2_with fail
    refine (HEX.out hfx.out hcx.out _ hK3).mono ?_
    rintro e w4 ⟨v4, rfl, g1, cap1, rfl, hg1, hs1, hb4⟩
    have hK4 : Kept w1 w4 := hK3.next hb4
    have HS1 := Lib.hid hs1
    clear hs1 hg1 hb4 hK3 s0 s1 s2 s3
    have s0 := P0.out _ hK4
    have s1 := P1.out _ hK4
    have s2 := P2.out _ hK4
    have s3 := P3.out _ hK4
    go_wp2_with fail
    refine (HRX.out hfx.out hcx.out _ hK4).mono ?_
    rintro e w5 ⟨v5, rfl, g2, cap2, rfl, hg2, hs2, hb5⟩
    have hK5 : Kept w1 w5 := hK4.next hb5
    have HS15 := Lib.hid (HS1.out.below hb5)
    have HS2 := Lib.hid hs2
    clear hs2 hg2 hb5 hK4 s0 s1 s2 s3 HS1
    have s0 := P0.out _ hK5
    have s1 := P1.out _ hK5
    have s2 := P2.out _ hK5
    have s3 := P3.out _ hK5
    go_wp2_with fail
    refine (HSX.out hfx.out hcx.out _ hK5).mono ?_
    rintro e w6 ⟨rfl, hK6, hb6⟩
    have HS16 := Lib.hid (HS15.out.below hb6)
    have HS26 := Lib.hid (HS2.out.below hb6)
    clear hb6 hK5 s0 s1 s2 s3 HS15 HS2
    have s0 := P0.out _ hK6
    have s1 := P1.out _ hK6
    have s2 := P2.out _ hK6
    have s3 := P3.out _ hK6
    go_wp2_with fail
    refine (HTX.out hfx.out hcx.out _ hK6).mono ?_
    rintro e w7 ⟨rfl, hK7, hb7⟩
    have HS17 := Lib.hid (HS16.out.below hb7)
    have HS27 := Lib.hid (HS26.out.below hb7)
    clear hb7 hK6 s0 s1 s2 s3 HS16 HS26
    have q0 : ∀ W, Kept w7 W → W.cell? ⟨w.heap.size, 0, none⟩ = some (.int .i64 k) := fun W hW => P0.out W (hK7.next hW)
    have q1 : ∀ W, Kept w7 W → W.cell? ⟨w.heap.size, 1, none⟩ = some (.int .i64 n) := fun W hW => P1.out W (hK7.next hW)
    have q2 : ∀ W, Kept w7 W → W.cell? ⟨w.heap.size, 2, none⟩ = some (.string s) := fun W hW => P2.out W (hK7.next hW)
    have q3 : ∀ W, Kept w7 W → W.cell? ⟨w.heap.size, 3, none⟩ = some (.slice a len cap) := fun W hW => P3.out W (hK7.next hW)
    have d1 : ∀ W, Kept w7 W → (convert 27 9 (.slice (some ⟨g1, 0, none⟩) x.enc.length cap1)).run Try.prog W = .ok (.string ⟨x.enc.toArray⟩) W := fun W hW => (HS17.out.below hW).conv rfl
    have d2 : ∀ W, Kept w7 W → (convert 27 9 (.slice (some ⟨g2, 0, none⟩) x.enc.length cap2)).run Try.prog W = .ok (.string ⟨x.enc.toArray⟩) W := fun W hW => (HS27.out.below hW).conv rfl
    have hck7 : ∀ W, Kept w7 W → Calls Try.prog 16 #[.agg #[.int .i64 k, .int .i64 n, .string s, .slice a len cap]] W fun e w' => e = .returned (.int .i64 0) ∧ Kept w7 w' := fun W hW => by
      obtain ⟨b1, b2, _⟩ := few_bound HX.out hfx.out
      have hx1 := V.At.mono (HK.out W (hK7.next hW)).size _ _ (V.At.below (HK.out W (hK7.next hW)) _ _ HX.out)
      have := check_any x W W.heap.size _ (by omega) (Nat.le_refl _) hx1
      rw [hcx.out] at this
      exact this.mono fun e w' h => ⟨h.1, hW.next h.2⟩
    have hrk7 : ∀ W, Kept w7 W → Calls Try.prog 17 #[.agg #[.int .i64 k, .int .i64 n, .string s, .slice a len cap]] W fun e w' => e = .returned (.int .i64 0) ∧ Kept w7 w' := fun W hW => by
      obtain ⟨b1, b2, _⟩ := few_bound HX.out hfx.out
      have hx1 := V.At.mono (HK.out W (hK7.next hW)).size _ _ (V.At.below (HK.out W (hK7.next hW)) _ _ HX.out)
      have := rcheck_any x W W.heap.size _ (by omega) (Nat.le_refl _) hx1
      rw [hcx.out] at this
      exact this.mono fun e w' h => ⟨h.1, hW.next h.2⟩
    have HC7 := Lib.hid hck7
    have HR7 := Lib.hid hrk7
    have HK7 := Lib.hid (fun W (hW : Kept w7 W) => HK.out W (hK7.next hW))
    obtain ⟨S, hS⟩ : ∃ S : ByteArray, (⟨x.enc.toArray⟩ : ByteArray) = S := ⟨_, rfl⟩
    rw [hS] at d1 d2
    obtain ⟨m, hm⟩ : ∃ m, x.enc.length = m := ⟨_, rfl⟩
    rw [hm] at d1 d2 ⊢
    clear hS hm hck7 hrk7 hK7 HS17 HS27 HS HF HEX HRX HSX HTX HBX HBY HBS HBT HCK HRK P0 P1 P2 P3
    go_wp2_with fail
    go_region_held3 (fun W => Kept w7 W) (first | assumption | exact Kept.drew (Kept.refl _) | exact Kept.drew (by assumption))
      (first | (go_at_call 16; refine (HC7.out _ (by assumption)).mono ?_; rintro e w8 ⟨rfl, hK8⟩) | (go_at_call 17; refine (HR7.out _ (by assumption)).mono ?_; rintro e w9 ⟨rfl, hK9⟩))
    all_goals
      go_wp2
      go_ret
      exact ⟨by simp, HK7.out _ (by assumption)⟩
  · have CX := Lib.hid cx
    obtain ⟨q, hq⟩ : ∃ q, x.chk = q := ⟨_, rfl⟩
    have hbx1 := HBX.out hfx.out CX.out
    have hby1 := HBY.out hfx.out CX.out
    have hbs1 := HBS.out hfx.out CX.out
    have hbt1 := HBT.out hfx.out CX.out
    have hck1 := HCK.out hfx.out
    have hrk1 := HRK.out hfx.out
    simp only [hq] at hbx1 hby1 hbs1 hbt1 hck1 hrk1
    have B1 := Lib.hid hbx1
    have B2 := Lib.hid hby1
    have B3 := Lib.hid hbs1
    have B4 := Lib.hid hbt1
    have B5 := Lib.hid hck1
    have B6 := Lib.hid hrk1
    clear cx hq hbx1 hby1 hbs1 hbt1 hck1 hrk1 HS HF HEX HRX HSX HTX HBX HBY HBS HBT HCK HRK
    go_wp2_with fail
    refine (B1.out _ hK3).mono ?_
    rintro e w4 ⟨rfl, hK4⟩
    clear hK3 s0 s1 s2 s3
    have s0 := P0.out _ hK4
    have s1 := P1.out _ hK4
    have s2 := P2.out _ hK4
    have s3 := P3.out _ hK4
    go_wp2_with fail
    refine (B2.out _ hK4).mono ?_
    rintro e w5 ⟨rfl, hK5⟩
    clear hK4 s0 s1 s2 s3
    have s0 := P0.out _ hK5
    have s1 := P1.out _ hK5
    have s2 := P2.out _ hK5
    have s3 := P3.out _ hK5
    go_wp2_with fail
    refine (B3.out _ hK5).mono ?_
    rintro e w6 ⟨rfl, hK6⟩
    clear hK5 s0 s1 s2 s3
    have s0 := P0.out _ hK6
    have s1 := P1.out _ hK6
    have s2 := P2.out _ hK6
    have s3 := P3.out _ hK6
    go_wp2_with fail
    refine (B4.out _ hK6).mono ?_
    rintro e w7 ⟨rfl, hK7⟩
    clear hK6 s0 s1 s2 s3
    have q0 : ∀ W, Kept w7 W → W.cell? ⟨w.heap.size, 0, none⟩ = some (.int .i64 k) := fun W hW => P0.out W (hK7.next hW)
    have q1 : ∀ W, Kept w7 W → W.cell? ⟨w.heap.size, 1, none⟩ = some (.int .i64 n) := fun W hW => P1.out W (hK7.next hW)
    have q2 : ∀ W, Kept w7 W → W.cell? ⟨w.heap.size, 2, none⟩ = some (.string s) := fun W hW => P2.out W (hK7.next hW)
    have q3 : ∀ W, Kept w7 W → W.cell? ⟨w.heap.size, 3, none⟩ = some (.slice a len cap) := fun W hW => P3.out W (hK7.next hW)
    obtain ⟨S, hS⟩ : ∃ S : ByteArray, (⟨([] : List UInt8).toArray⟩ : ByteArray) = S := ⟨_, rfl⟩
    have d1 : ∀ W, Kept w7 W → (convert 27 9 (.slice none 0 0)).run Try.prog W = .ok (.string S) W := fun W _ => by rw [← hS]; exact conv_bytes W none [] 0 (.inl rfl)
    have HC7 : Hid (∀ W, Kept w7 W → Calls Try.prog 16 #[.agg #[.int .i64 k, .int .i64 n, .string s, .slice a len cap]] W fun e w' => e = .returned (.int .i64 q) ∧ Kept w7 w') := Lib.hid (fun W hW => (B5.out W (hK7.next hW)).mono fun e w' h => ⟨h.1, hW.next h.2⟩)
    have HR7 : Hid (∀ W, Kept w7 W → Calls Try.prog 17 #[.agg #[.int .i64 k, .int .i64 n, .string s, .slice a len cap]] W fun e w' => e = .returned (.int .i64 q) ∧ Kept w7 w') := Lib.hid (fun W hW => (B6.out W (hK7.next hW)).mono fun e w' h => ⟨h.1, hW.next h.2⟩)
    have HK7 := Lib.hid (fun W (hW : Kept w7 W) => HK.out W (hK7.next hW))
    clear hS hK7 P0 P1 P2 P3
    go_wp2_with fail
    go_region_held3 (fun W => Kept w7 W) (first | assumption | exact Kept.drew (Kept.refl _) | exact Kept.drew (by assumption))
      (first | (go_at_call 16; refine (HC7.out _ (by assumption)).mono ?_; rintro e w8 ⟨rfl, hK8⟩) | (go_at_call 17; refine (HR7.out _ (by assumption)).mono ?_; rintro e w9 ⟨rfl, hK9⟩))
    all_goals
      go_wp2
      go_ret
      exact ⟨by simp, HK7.out _ (by assumption)⟩

set_option maxRecDepth 100000 in
theorem enc_lifted (os : Os) (started : os.Started) (H : Type) (enc : TypeId × Value → H) :
    ReturnsInHanded {} Try.checked os 3 .any (Rows.codecEncodeSpecSpec.pre6 enc Try.prog Try.f3 Rows.codecEncodeSpecRow.domain false) (Rows.codecEncodeSpecSpec.post enc Try.prog Try.f3 false true false false) := by
  refine returnsInHanded_of_change (C := Try.checked) Try.own started (by kernel_rfl) Try.func3
    (ChangeSpec.witness6 (enc := enc) (C := Try.checked) false ⟨#[], #[.agg #[.int .i64 0, .int .i64 0, .string ByteArray.empty, .slice none 0 0]], []⟩ 8 (by kernel_rfl) (by kernel_rfl) (by kernel_rfl) (by kernel_rfl)) ?_
  intro W base args ds gs before hval0 hW _ _
  have hval : ∀ (j : Nat) t v, Try.f3.params[j]? = some t → args[j]? = some v → Value.okWide Try.prog W .any base t v := hval0
  have hW' := hW
  obtain ⟨p, q, hA0, hV, rfl, _, _⟩ := hW
  have hA : DataW.TrodAll enc Try.prog W 0 (fun _ => true) true Try.f3.params.toList args.toList ds p := hA0
  rw [Try.params3] at hA hval
  obtain ⟨v0, d0, rfl, rfl, h0⟩ := trodAll_one hA
  obtain ⟨rfl, rfl⟩ := trodVars_none hV
  obtain ⟨x, hx⟩ := open_arg (hval 0 24 v0 rfl rfl) h0
  clear hA0 hval0
  simp only [List.append_nil] at hW'
  have hlt : ∀ x ∈ p, x.block < W.heap.size := fun x hx => by simpa using hW'.lt x hx
  refine (lawEnc x v0 W hx).mono fun e W' ⟨he, hnx⟩ => ?_
  subst he
  exact ⟨_, rfl, _, _, _, [], _, [], hW', trodAll_mk1 (shut_bool Try.underlying4 _), trodAll_mk1 (Below.trod Try.laidOut (by kernel_rfl) (of_decide_eq_true (by kernel_rfl)) h0 hnx fun x hx => hlt x hx), rfl, hnx.frame _, fun h => by cases h⟩

/-- CodecEncodeSpec holds. -/
theorem codecEncodeSpec_holds : Rows.CodecEncodeSpecSaid :=
  OpenClaim.holds_of_wide 3 Try.f3 rfl rfl rfl rfl rfl rfl rfl ⟨rfl, rfl, rfl, rfl, rfl⟩ rfl rfl rfl rfl rfl (by kernel_rfl) Try.func3 (by kernel_rfl)
    (of_decide_eq_true (by kernel_rfl)) (by unfold Func.isWrapper; first | (rw [if_pos (by decide +kernel)]; kernel_rfl) | (rw [if_neg (by decide +kernel)]; exact ⟨rfl, rfl⟩))
    (fun os started H enc _ => enc_lifted os started H enc)

end Go.Proofs.Ytkecoohplpbgnaa
