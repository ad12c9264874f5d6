/- For every value and all bytes CodecRoundTrip answers true and leaves its arguments as they were. No condition but the row's own. -/
import Derived.Test.YtkecoohplpbgnaaLawDiff
namespace Go.Proofs.Ytkecoohplpbgnaa
open Go.RowKit Go.ChangeShapes Go.WideShapes Go.ChangeAt

theorem Try.cells5 : Try.prog.cellsOf 5 = 1 := by kernel_rfl

section
variable {H : Type} {enc : TypeId × Value → H} {w : World} {base : Nat} {spare : Nat → Bool} {held : Bool}
/-- An argument of bytes. -/
theorem open_bytes {v : Value} {d : DataW H} {ps : List MemPlace} {r : Reach} {b0 : Nat} (hv : Value.okWide Try.prog w r b0 27 v) (h : DataW.Trod enc Try.prog w base spare held 27 v d ps) : ∃ bs : List UInt8, BytesAt w w.heap.size v bs := by
  obtain ⟨a0, len, cap, rfl⟩ := okWide_slice Try.underlying27 hv
  obtain ⟨fuel, hf⟩ := h
  rcases open_ints Try.underlying27 Try.underlying5 Try.cells5 hf with ⟨hcs, _⟩ | ⟨a, len', cap', zs, hcs, _, hl, hm, hz, _, hcell, hwz⟩
  · simp [Value.cells] at hcs
    obtain ⟨rfl, rfl, rfl⟩ := hcs
    exact ⟨[], none, 0, rfl, by simp, by unfold maxLen; omega, .inl rfl⟩
  · simp [Value.cells] at hcs
    obtain ⟨rfl, rfl, rfl⟩ := hcs
    have hle : len ≤ zs.length := by rw [hz]; split <;> omega
    by_cases h0 : len = 0
    · subst h0
      exact ⟨[], some a, cap, rfl, by simp, hm, .inl rfl⟩
    · obtain ⟨b, off, spot⟩ := a
      have hspot : spot = none := by simpa [Addr.add] using World.cell?_spot (hcell 0 (by omega))
      subst hspot
      have hbl : b < w.heap.size := World.block_lt_of_cell? w _ (hcell 0 (by omega))
      have hlen : ((zs.take len).map fun z => UInt8.ofNat z.toNat).length = len := by rw [List.length_map, List.length_take]; omega
      refine ⟨(zs.take len).map fun z => UInt8.ofNat z.toNat, some ⟨b, off, none⟩, cap, by rw [hlen], by rw [hlen]; exact hl, hm, .inr ⟨b, off, rfl, hbl, fun i hi => ?_⟩⟩
      rw [hlen] at hi
      have hci := hcell i (by omega)
      have hadd : (⟨b, off, none⟩ : Addr).add i = ⟨b, off + i, none⟩ := by unfold Addr.add; split <;> simp_all
      rw [hadd] at hci
      rw [hci, List.getElem_map, List.getElem_take]
      have hmem : zs[i]'(by omega) ∈ zs := List.getElem_mem _
      have hwf := hwz _ hmem
      have e1 : IntKind.u8.min = 0 := rfl
      have e2 : IntKind.u8.max = 255 := rfl
      have hbd : 0 ≤ zs[i]'(by omega) ∧ zs[i]'(by omega) ≤ 255 := by simpa [Lit.wf, e1, e2] using hwf
      have e3 : zs.getD i 0 = zs[i]'(by omega) := by simp [List.getD, List.getElem?_eq_getElem (show i < zs.length by omega)]
      rw [e3, u8_nat _ (by omega)]
      congr 2
      omega
end

theorem one_at {w : World} {B : Nat} {x : V} {k n : Int} {s : ByteArray} {a : Option Addr} {len cap : Nat} (hx : V.At w B x (.agg #[.int .i64 k, .int .i64 n, .string s, .slice a len cap]))
    (hB : B ≤ w.heap.size) : AtL (w.alloc (Obj.cells #[.int .i64 k, .int .i64 n, .string s, .slice a len cap] 24)) (w.heap.size + 1) [x] w.heap.size 0 := by
  have hb : Below B w (w.alloc (Obj.cells #[.int .i64 k, .int .i64 n, .string s, .slice a len cap] 24)) := (Below.refl _ _).alloc hB _
  unfold AtL AtL
  refine ⟨⟨_, _, _, _, by go_cell, by go_cell, by go_cell, by go_cell, V.At.mono (by omega) _ _ (V.At.below hb _ _ hx)⟩, trivial⟩

theorem BytesAt.conv {w : World} {B : Nat} {a : Option Addr} {len cap : Nat} {bs : List UInt8} (h : BytesAt w B (.slice a len cap) bs) : (convert 27 9 (.slice a len cap)).run Try.prog w = .ok (.string ⟨bs.toArray⟩) w := by
  obtain ⟨a', cap', hv, _, _, h4⟩ := h
  injection hv with h1 h2 h3
  subst h1; subst h2; subst h3
  refine conv_bytes w a bs cap ?_
  rcases h4 with h4 | ⟨db, off, h4, _, h6⟩
  · exact .inl h4
  · exact .inr ⟨db, off, h4, h6⟩

theorem at_zero {w : World} {B : Nat} : V.At w B ⟨0, 0, ByteArray.empty, []⟩ (.agg #[.int .i64 0, .int .i64 0, .string { data := #[] }, .slice none 0 0]) := by
  unfold V.At
  exact ⟨by unfold In64; omega, by unfold In64; omega, by unfold maxLen; decide, none, 0, rfl, by simp, by unfold maxLen; omega, .inl rfl⟩

/-- What Decode ends in, with the world kept. -/
def DecKept (w1 _W : World) (o : Option V) (e : Ending) (w' : World) : Prop :=
  match o with
  | none => e = .returned (.tuple #[.agg #[.int .i64 0, .int .i64 0, .string { data := #[] }, .slice none 0 0], .int .i64 10]) ∧ Kept w1 w'
  | some x => ∃ v, e = .returned (.tuple #[v, .int .i64 0]) ∧ V.At w' w'.heap.size x v ∧ Kept w1 w'
theorem DecKept.of {w1 W w' : World} {o : Option V} {e : Ending} (hW : Kept w1 W) (h : DecPost W o e w') : DecKept w1 W o e w' := by
  cases o with
  | none => exact ⟨h.1, hW.next h.2⟩
  | some x =>
    obtain ⟨v, h1, h2, h3⟩ := h
    exact ⟨v, h1, V.Own.at (fun b hb => hb.2) x v h2, hW.next h3⟩

set_option maxRecDepth 100000 in
set_option maxHeartbeats 2000000 in
theorem lawTrip (x : V) (v raw : Value) (bs : List UInt8) (w : World) (hx : V.At w w.heap.size x v) (hraw : BytesAt w w.heap.size raw bs) :
    Calls Try.prog 6 #[v, raw] w fun e w' => e = .returned (.bool true) ∧ Below w.heap.size w w' := by
  have HX := Lib.hid hx
  have HB := Lib.hid hraw
  obtain ⟨k, n, s, a, len, cap, rfl⟩ := at_shape hx
  obtain ⟨ra, rcap, rfl, hrc, hrm, _⟩ := hraw
  clear hx
  obtain ⟨w1, hw1⟩ : ∃ w1, w1 = w.alloc (Obj.cells #[.int .i64 k, .int .i64 n, .string s, .slice a len cap] 24) := ⟨_, rfl⟩
  have hz1 : w1.heap.size = w.heap.size + 1 := by rw [hw1]; simp
  have hB1 : Below w.heap.size w w1 := by rw [hw1]; go_grown
  have hcell : ∀ W, Kept w1 W → ∀ k i u, k < w1.heap.size → w1.cell? ⟨k, i, none⟩ = some u → W.cell? ⟨k, i, none⟩ = some u := fun W hW k i u hk hu => (hW.below.cell (p := ⟨k, i, none⟩) hk).trans hu
  have p0 : ∀ W, Kept w1 W → W.cell? ⟨w.heap.size, 0, none⟩ = some (.int .i64 k) := fun W hW => hcell W hW _ _ _ (by omega) (by rw [hw1]; go_cell)
  have p1 : ∀ W, Kept w1 W → W.cell? ⟨w.heap.size, 1, none⟩ = some (.int .i64 n) := fun W hW => hcell W hW _ _ _ (by omega) (by rw [hw1]; go_cell)
  have p2 : ∀ W, Kept w1 W → W.cell? ⟨w.heap.size, 2, none⟩ = some (.string s) := fun W hW => hcell W hW _ _ _ (by omega) (by rw [hw1]; go_cell)
  have p3 : ∀ W, Kept w1 W → W.cell? ⟨w.heap.size, 3, none⟩ = some (.slice a len cap) := fun W hW => hcell W hW _ _ _ (by omega) (by rw [hw1]; go_cell)
  have hkw : ∀ W, Kept w1 W → Below w.heap.size w W := fun W hW => hB1.trans (hW.below.mono (by omega))
  have hxW : ∀ W, Kept w1 W → V.At W W.heap.size x (.agg #[.int .i64 k, .int .i64 n, .string s, .slice a len cap]) := fun W hW => V.At.mono (hkw W hW).size _ _ (V.At.below (hkw W hW) _ _ HX.out)
  have hrW : ∀ W, Kept w1 W → BytesAt W W.heap.size (.slice ra bs.length rcap) bs := fun W hW => (HB.out.below (hkw W hW)).mono (hkw W hW).size
  have hcs : ∀ W, Kept w1 W → Calls Try.prog 10 #[] W fun e w' => e = .returned (.bool true) ∧ Kept w1 w' := fun W hW => (sane_any W).mono fun e w' h => ⟨h.1, hW.next h.2⟩
  have hcf : ∀ W, Kept w1 W → Calls Try.prog 11 #[.slice (some ⟨W.heap.size, 0, none⟩) 1 1] (W.alloc (Obj.cells #[.int .i64 k, .int .i64 n, .string s, .slice a len cap] 24)) fun e w' => e = .returned (.bool ([x].all V.few)) ∧ Kept w1 w' := fun W hW => by
    have h2 := one_at (hxW W hW) (Nat.le_refl _)
    have := fews_any [x] (some ⟨W.heap.size, 0, none⟩) 1 (W.alloc (Obj.cells #[.int .i64 k, .int .i64 n, .string s, .slice a len cap] 24)) (by simp) (by unfold maxLen; omega) (.inr ⟨_, _, rfl, by simp, by rw [World.size_alloc]; exact h2⟩)
    exact this.mono fun e w' h => ⟨h.1, Kept.next (hW.alloc _) h.2⟩
  have hex : x.few = true → x.chk = 0 → ∀ W, Kept w1 W → Calls Try.prog 12 #[.agg #[.int .i64 k, .int .i64 n, .string s, .slice a len cap]] W (EncPost W x.enc) := fun hf hk W hW => by
    obtain ⟨b1, b2, _⟩ := few_bound HX.out hf
    exact encode_ok x W W.heap.size _ (by omega) (Nat.le_refl _) (hxW W hW) hk (by omega)
  have hbx : x.few = true → x.chk ≠ 0 → ∀ W, Kept w1 W → Calls Try.prog 12 #[.agg #[.int .i64 k, .int .i64 n, .string s, .slice a len cap]] W fun e w' => e = .returned (.tuple #[.slice none 0 0, .int .i64 x.chk]) ∧ Kept w1 w' := fun hf hk W hW => by
    obtain ⟨b1, b2, _⟩ := few_bound HX.out hf
    exact (encode_bad x W W.heap.size _ (by omega) (Nat.le_refl _) (hxW W hW) hk).mono fun e w' h => ⟨h.1, hW.next h.2⟩
  have hck : x.few = true → ∀ W, Kept w1 W → Calls Try.prog 16 #[.agg #[.int .i64 k, .int .i64 n, .string s, .slice a len cap]] W fun e w' => e = .returned (.int .i64 x.chk) ∧ Kept w1 w' ∧ Below W.heap.size W w' := fun hf W hW => by
    obtain ⟨b1, b2, _⟩ := few_bound HX.out hf
    exact (check_any x W W.heap.size _ (by omega) (Nat.le_refl _) (hxW W hW)).mono fun e w' h => ⟨h.1, hW.next h.2, h.2⟩
  have hde : x.few = true → x.chk = 0 → ∀ W g c, Kept w1 W → Spare W g x.enc.length c x.enc → Calls Try.prog 18 #[.slice (some ⟨g, 0, none⟩) x.enc.length c] W (DecKept w1 W (some x)) := fun hf hk W g c hW hS => by
    obtain ⟨b1, b2, b3⟩ := few_bound HX.out hf
    have := decode_any W _ _ (by omega) hS.bytes
    rw [decode_enc x b3 hk] at this
    exact this.mono fun e w' h => DecKept.of hW h
  have hsm : ∀ W v', Kept w1 W → V.At W W.heap.size x v' → Calls Try.prog 21 #[.agg #[.int .i64 k, .int .i64 n, .string s, .slice a len cap], v'] W fun e w' => e = .returned (.bool true) ∧ Kept w1 w' ∧ Below W.heap.size W w' := fun W v' hW hv =>
    (cSame _ x (Nat.le_refl _) x W W.heap.size _ _ (Nat.le_refl _) (hxW W hW) hv).mono fun e w' h => ⟨by rw [h.1, V.same_refl], hW.next h.2, h.2⟩
  have hrs : ∀ W v', Kept w1 W → V.At W W.heap.size x v' → Calls Try.prog 20 #[.agg #[.int .i64 k, .int .i64 n, .string s, .slice a len cap], v'] W fun e w' => e = .returned (.bool true) ∧ Kept w1 w' ∧ Below W.heap.size W w' := fun W v' hW hv =>
    (refSame _ x (Nat.le_refl _) x W W.heap.size _ _ (Nat.le_refl _) (hxW W hW) hv).mono fun e w' h => ⟨by rw [h.1, V.same_refl], hW.next h.2, h.2⟩
  have hdr : bs.length ≤ 2000 → ∀ W, Kept w1 W → Calls Try.prog 18 #[.slice ra bs.length rcap] W (DecKept w1 W (decode bs)) := fun hl W hW =>
    (decode_any W _ bs (by omega) (hrW W hW)).mono fun e w' h => DecKept.of hW h
  have hcr : ∀ W, Kept w1 W → (convert 27 9 (.slice ra bs.length rcap)).run Try.prog W = .ok (.string ⟨bs.toArray⟩) W := fun W hW => (hrW W hW).conv
  obtain ⟨o, ho⟩ : ∃ o, decode bs = o := ⟨_, rfl⟩
  have hback : ∀ z, o = some z → bs = z.enc ∧ z.chk = 0 := fun z hz => decode_back (ho.trans hz)
  rw [ho] at hdr
  have HBACK := Lib.hid hback
  clear hback ho
  obtain ⟨t, ht⟩ : ∃ t, [x].all V.few = t := ⟨_, rfl⟩
  rw [ht] at hcf
  have HT := Lib.hid ht
  have HW := Lib.hid hw1
  have HS := Lib.hid hcs
  have HF := Lib.hid hcf
  have HK := Lib.hid hkw
  have HEX := Lib.hid hex
  have HBX := Lib.hid hbx
  have HCK := Lib.hid hck
  have HDE := Lib.hid hde
  have HSM := Lib.hid hsm
  have HRS := Lib.hid hrs
  have HDR := Lib.hid hdr
  have HCR := Lib.hid hcr
  unfold maxLen at hrm
  clear hcs hcf hcell hkw hxW hrW hw1 ht hex hbx hck hde hsm hrs hdr hcr
  go_enter Try.func6, Try.ntmps6
  go_wp2_with fail
  rw [← HW.out]
  refine (HS.out _ (Kept.refl _)).mono ?_
  rintro e w2 ⟨rfl, hK2⟩
  go_wp2_with fail
  refine (HF.out _ hK2).mono ?_
  rintro e w3 ⟨rfl, hK3⟩
  clear hK2
  cases t
  · go_wp2
    go_ret
    exact ⟨rfl, HK.out _ hK3⟩
  have hfx0 : x.few = true := by have := HT.out; simpa using this
  have hfx := Lib.hid hfx0
  clear hfx0
  by_cases hl : 2000 < bs.length
  · have hl' : decide (2000 < (bs.length : Int)) = true := by simp; omega
    go_wp2
    go_ret
    exact ⟨rfl, HK.out _ hK3⟩
  have hl' : decide (2000 < (bs.length : Int)) = false := by simp; omega
  have hl2 : Hid (bs.length ≤ 2000) := by show bs.length ≤ 2000; omega
  clear hl
  by_cases cx : x.chk = 0
  · have hcx : Hid (x.chk = 0) := cx
    clear cx
    go_wp2_with fail
    refine (HEX.out hfx.out hcx.out _ hK3).mono ?_
    rintro e w4 ⟨v4, rfl, g1, cap1, rfl, hg1, hs1, hb4⟩
    have hK4 : Kept w1 w4 := hK3.next hb4
    have HS1 := Lib.hid hs1
    clear hs1 hg1 hb4 hK3
    go_wp2_with fail
    refine (HCK.out hfx.out _ hK4).mono ?_
    rw [hcx.out]
    rintro e w5 ⟨rfl, hK5, hb5⟩
    have HS15 := Lib.hid (HS1.out.below hb5)
    clear hb5 hK4 HS1
    go_wp2_with fail
    refine (HDE.out hfx.out hcx.out _ g1 cap1 hK5 HS15.out).mono ?_
    rintro e w6 ⟨v6, rfl, hx6, hK6⟩
    obtain ⟨k6, n6, s6, a6, len6, cap6, rfl⟩ := at_shape hx6
    obtain ⟨w7, hw7⟩ : ∃ w7, w7 = w6.alloc (Obj.cells #[.int .i64 k6, .int .i64 n6, .string s6, .slice a6 len6 cap6] 24) := ⟨_, rfl⟩
    have hb7 : Below w6.heap.size w6 w7 := by rw [hw7]; go_grown
    have hK7 : Kept w1 w7 := hK6.next hb7
    have hx7 : V.At w7 w7.heap.size x (.agg #[.int .i64 k6, .int .i64 n6, .string s6, .slice a6 len6 cap6]) := V.At.mono hb7.size _ _ (V.At.below hb7 _ _ hx6)
    have r0 : w7.cell? ⟨w6.heap.size, 0, none⟩ = some (.int .i64 k6) := by rw [hw7]; go_cell
    have r1 : w7.cell? ⟨w6.heap.size, 1, none⟩ = some (.int .i64 n6) := by rw [hw7]; go_cell
    have r2 : w7.cell? ⟨w6.heap.size, 2, none⟩ = some (.string s6) := by rw [hw7]; go_cell
    have r3 : w7.cell? ⟨w6.heap.size, 3, none⟩ = some (.slice a6 len6 cap6) := by rw [hw7]; go_cell
    have hl7 : w6.heap.size < w7.heap.size := World.block_lt_of_cell? w7 _ r0
    have HW7 := Lib.hid hw7
    have HX7 := Lib.hid hx7
    have s0 := p0 _ hK7
    have s1 := p1 _ hK7
    have s2 := p2 _ hK7
    have s3 := p3 _ hK7
    rw [HW7.out] at s0 s1 s2 s3
    clear hw7 hx6 hx7 hb7 hK6 HS15 hK5
    go_wp2_with fail
    rw [← HW7.out]
    refine (HSM.out _ _ hK7 HX7.out).mono ?_
    rintro e w8 ⟨rfl, hK8, hb8⟩
    have hc8 : ∀ i u, w7.cell? ⟨w6.heap.size, i, none⟩ = some u → w8.cell? ⟨w6.heap.size, i, none⟩ = some u := fun i u hu => (hb8.cell (p := ⟨w6.heap.size, i, none⟩) hl7).trans hu
    have m0 := hc8 _ _ r0
    have m1 := hc8 _ _ r1
    have m2 := hc8 _ _ r2
    have m3 := hc8 _ _ r3
    have HX8 := Lib.hid (V.At.mono hb8.size _ _ (V.At.below hb8 _ _ HX7.out))
    clear hc8 r0 r1 r2 r3 hl7 s0 s1 s2 s3 hb8 hK7
    go_wp2_with fail
    refine (HRS.out _ _ hK8 HX8.out).mono ?_
    rintro e w9' ⟨rfl, hK, _⟩
    clear m0 m1 m2 m3 hK8
    cases o with
    | none =>
      go_wp2_with fail
      refine (HDR.out hl2.out _ hK).mono ?_
      rintro e w9 ⟨rfl, hK9⟩
      clear hK
      go_wp2_with fail
      refine (cSame _ ⟨0, 0, ByteArray.empty, []⟩ (Nat.le_refl _) ⟨0, 0, ByteArray.empty, []⟩ _ 0 _ _ (Nat.zero_le _) at_zero at_zero).mono ?_
      rw [V.same_refl]
      rintro e w10 ⟨rfl, hb10⟩
      have HKF := Lib.hid (HK.out _ (Kept.next (hK9.alloc _) hb10))
      clear hb10 hK9
      go_wp2
      go_ret
      exact ⟨rfl, HKF.out⟩
    | some z =>
      obtain ⟨hz1, hz2⟩ := HBACK.out z rfl
      have HZ1 := Lib.hid hz1
      have HZ2 := Lib.hid hz2
      clear hz1 hz2
      go_wp2_with fail
      refine (HDR.out hl2.out _ hK).mono ?_
      rintro e w9 ⟨v9, rfl, hx9, hK9⟩
      obtain ⟨k9, n9, s9, a9, len9, cap9, rfl⟩ := at_shape hx9
      obtain ⟨w10, hw10⟩ : ∃ w10, w10 = w9.alloc (Obj.cells #[.int .i64 k9, .int .i64 n9, .string s9, .slice a9 len9 cap9] 24) := ⟨_, rfl⟩
      have hb10 : Below w9.heap.size w9 w10 := by rw [hw10]; go_grown
      have hK10 : Kept w1 w10 := hK9.next hb10
      have hx10 : V.At w10 w10.heap.size z (.agg #[.int .i64 k9, .int .i64 n9, .string s9, .slice a9 len9 cap9]) := V.At.mono hb10.size _ _ (V.At.below hb10 _ _ hx9)
      have r0 : w10.cell? ⟨w9.heap.size, 0, none⟩ = some (.int .i64 k9) := by rw [hw10]; go_cell
      have r1 : w10.cell? ⟨w9.heap.size, 1, none⟩ = some (.int .i64 n9) := by rw [hw10]; go_cell
      have r2 : w10.cell? ⟨w9.heap.size, 2, none⟩ = some (.string s9) := by rw [hw10]; go_cell
      have r3 : w10.cell? ⟨w9.heap.size, 3, none⟩ = some (.slice a9 len9 cap9) := by rw [hw10]; go_cell
      have hl10 : w9.heap.size < w10.heap.size := World.block_lt_of_cell? w10 _ r0
      have HW10 := Lib.hid hw10
      have HX10 := Lib.hid hx10
      clear hw10 hx9 hx10 hb10 hK9 hK
      go_wp2_with fail
      rw [← HW10.out]
      have hez := encode_ok z w10 w10.heap.size _ (by have := chk_dep HZ2.out; omega) (Nat.le_refl _) HX10.out HZ2.out (by rw [← HZ1.out]; have := hl2.out; omega)
      rw [← HZ1.out] at hez
      refine hez.mono ?_
      rintro e w11 ⟨v11, rfl, g3, cap3, rfl, hg3, hs3, hb11⟩
      have hK11 : Kept w1 w11 := hK10.next hb11
      have hcA : (convert 27 9 (.slice (some ⟨g3, 0, none⟩) bs.length cap3)).run Try.prog w11 = .ok (.string ⟨bs.toArray⟩) w11 := hs3.conv rfl
      have hcB := HCR.out w11 hK11
      obtain ⟨S, hS⟩ : ∃ S : ByteArray, (⟨bs.toArray⟩ : ByteArray) = S := ⟨_, rfl⟩
      rw [hS] at hcA hcB
      have hc11 : ∀ i u, w10.cell? ⟨w9.heap.size, i, none⟩ = some u → w11.cell? ⟨w9.heap.size, i, none⟩ = some u := fun i u hu => (hb11.cell (p := ⟨w9.heap.size, i, none⟩) hl10).trans hu
      have m0 := hc11 _ _ r0
      have m1 := hc11 _ _ r1
      have m2 := hc11 _ _ r2
      have m3 := hc11 _ _ r3
      have hckz := check_any z w11 w11.heap.size _ (by have := chk_dep HZ2.out; omega) (Nat.le_refl _) (V.At.mono hb11.size _ _ (V.At.below hb11 _ _ HX10.out))
      rw [HZ2.out] at hckz
      have HCZ := Lib.hid hckz
      clear hckz hc11 r0 r1 r2 r3 hl10 hs3 hg3 hb11 hK10 hez hS
      go_wp2_with fail
      refine HCZ.out.mono ?_
      rintro e w12 ⟨rfl, hb12⟩
      have HKF := Lib.hid (HK.out _ (hK11.next hb12))
      clear hb12 hK11 hcA hcB
      go_wp2
      go_ret
      exact ⟨by simp, HKF.out⟩
  · have hcx : (x.chk == 0) = false := by simpa using cx
    have hcx2 : (x.chk != 0) = true := by simpa using cx
    have CX := Lib.hid cx
    obtain ⟨q, hq⟩ : ∃ q, x.chk = q := ⟨_, rfl⟩
    have hb := HBX.out hfx.out CX.out _ hK3
    have hc := fun W hW => HCK.out hfx.out W hW
    rw [hq] at hcx hcx2 hb
    simp only [hq] at hc
    have HB1 := Lib.hid hb
    have HC1 := Lib.hid hc
    clear cx hb hc hq
    go_wp2_with fail
    refine HB1.out.mono ?_
    rintro e w4 ⟨rfl, hK4⟩
    clear hK3
    go_wp2_with fail
    refine (HC1.out _ hK4).mono ?_
    rintro e w5 ⟨rfl, hK, _⟩
    clear hK4
    cases o with
    | none =>
      go_wp2_with fail
      refine (HDR.out hl2.out _ hK).mono ?_
      rintro e w9 ⟨rfl, hK9⟩
      clear hK
      go_wp2_with fail
      refine (cSame _ ⟨0, 0, ByteArray.empty, []⟩ (Nat.le_refl _) ⟨0, 0, ByteArray.empty, []⟩ _ 0 _ _ (Nat.zero_le _) at_zero at_zero).mono ?_
      rw [V.same_refl]
      rintro e w10 ⟨rfl, hb10⟩
      have HKF := Lib.hid (HK.out _ (Kept.next (hK9.alloc _) hb10))
      clear hb10 hK9
      go_wp2
      go_ret
      exact ⟨rfl, HKF.out⟩
    | some z =>
      obtain ⟨hz1, hz2⟩ := HBACK.out z rfl
      have HZ1 := Lib.hid hz1
      have HZ2 := Lib.hid hz2
      clear hz1 hz2
      go_wp2_with fail
      refine (HDR.out hl2.out _ hK).mono ?_
      rintro e w9 ⟨v9, rfl, hx9, hK9⟩
      obtain ⟨k9, n9, s9, a9, len9, cap9, rfl⟩ := at_shape hx9
      obtain ⟨w10, hw10⟩ : ∃ w10, w10 = w9.alloc (Obj.cells #[.int .i64 k9, .int .i64 n9, .string s9, .slice a9 len9 cap9] 24) := ⟨_, rfl⟩
      have hb10 : Below w9.heap.size w9 w10 := by rw [hw10]; go_grown
      have hK10 : Kept w1 w10 := hK9.next hb10
      have hx10 : V.At w10 w10.heap.size z (.agg #[.int .i64 k9, .int .i64 n9, .string s9, .slice a9 len9 cap9]) := V.At.mono hb10.size _ _ (V.At.below hb10 _ _ hx9)
      have r0 : w10.cell? ⟨w9.heap.size, 0, none⟩ = some (.int .i64 k9) := by rw [hw10]; go_cell
      have r1 : w10.cell? ⟨w9.heap.size, 1, none⟩ = some (.int .i64 n9) := by rw [hw10]; go_cell
      have r2 : w10.cell? ⟨w9.heap.size, 2, none⟩ = some (.string s9) := by rw [hw10]; go_cell
      have r3 : w10.cell? ⟨w9.heap.size, 3, none⟩ = some (.slice a9 len9 cap9) := by rw [hw10]; go_cell
      have hl10 : w9.heap.size < w10.heap.size := World.block_lt_of_cell? w10 _ r0
      have HW10 := Lib.hid hw10
      have HX10 := Lib.hid hx10
      clear hw10 hx9 hx10 hb10 hK9 hK
      go_wp2_with fail
      rw [← HW10.out]
      have hez := encode_ok z w10 w10.heap.size _ (by have := chk_dep HZ2.out; omega) (Nat.le_refl _) HX10.out HZ2.out (by rw [← HZ1.out]; have := hl2.out; omega)
      rw [← HZ1.out] at hez
      refine hez.mono ?_
      rintro e w11 ⟨v11, rfl, g3, cap3, rfl, hg3, hs3, hb11⟩
      have hK11 : Kept w1 w11 := hK10.next hb11
      have hcA : (convert 27 9 (.slice (some ⟨g3, 0, none⟩) bs.length cap3)).run Try.prog w11 = .ok (.string ⟨bs.toArray⟩) w11 := hs3.conv rfl
      have hcB := HCR.out w11 hK11
      obtain ⟨S, hS⟩ : ∃ S : ByteArray, (⟨bs.toArray⟩ : ByteArray) = S := ⟨_, rfl⟩
      rw [hS] at hcA hcB
      have hc11 : ∀ i u, w10.cell? ⟨w9.heap.size, i, none⟩ = some u → w11.cell? ⟨w9.heap.size, i, none⟩ = some u := fun i u hu => (hb11.cell (p := ⟨w9.heap.size, i, none⟩) hl10).trans hu
      have m0 := hc11 _ _ r0
      have m1 := hc11 _ _ r1
      have m2 := hc11 _ _ r2
      have m3 := hc11 _ _ r3
      have hckz := check_any z w11 w11.heap.size _ (by have := chk_dep HZ2.out; omega) (Nat.le_refl _) (V.At.mono hb11.size _ _ (V.At.below hb11 _ _ HX10.out))
      rw [HZ2.out] at hckz
      have HCZ := Lib.hid hckz
      clear hckz hc11 r0 r1 r2 r3 hl10 hs3 hg3 hb11 hK10 hez hS
      go_wp2_with fail
      refine HCZ.out.mono ?_
      rintro e w12 ⟨rfl, hb12⟩
      have HKF := Lib.hid (HK.out _ (hK11.next hb12))
      clear hb12 hK11 hcA hcB
      go_wp2
      go_ret
      exact ⟨by simp, HKF.out⟩

set_option maxRecDepth 100000 in
theorem trip_lifted (os : Os) (started : os.Started) (H : Type) (enc : TypeId × Value → H) :
    ReturnsInHanded {} Try.checked os 6 .any (Rows.codecRoundTripSpec.pre6 enc Try.prog Try.f6 Rows.codecRoundTripRow.domain false) (Rows.codecRoundTripSpec.post enc Try.prog Try.f6 false true false false) := by
  refine returnsInHanded_of_change (C := Try.checked) Try.own started (by kernel_rfl) Try.func6
    (ChangeSpec.witness6 (enc := enc) (C := Try.checked) false ⟨#[], #[.agg #[.int .i64 0, .int .i64 0, .string ByteArray.empty, .slice none 0 0], .slice none 0 0], []⟩ 8 (by kernel_rfl) (by kernel_rfl) (by kernel_rfl) (by kernel_rfl)) ?_
  intro W base args ds gs before hval0 hW _ _
  have hval : ∀ (j : Nat) t v, Try.f6.params[j]? = some t → args[j]? = some v → Value.okWide Try.prog W .any base t v := hval0
  have hW' := hW
  obtain ⟨p, q, hA0, hV, rfl, _, _⟩ := hW
  have hA : DataW.TrodAll enc Try.prog W 0 (fun _ => true) true Try.f6.params.toList args.toList ds p := hA0
  rw [Try.params6] at hA hval
  obtain ⟨v0, v1, d0, d1, p0, p1, rfl, rfl, rfl, h0, h1⟩ := trodAll_two hA
  obtain ⟨rfl, rfl⟩ := trodVars_none hV
  obtain ⟨x, hx⟩ := open_arg (hval 0 24 v0 rfl rfl) h0
  obtain ⟨bs, hb⟩ := open_bytes (hval 1 27 v1 rfl rfl) h1
  clear hA0 hval0
  simp only [List.append_nil] at hW'
  have hlt : ∀ x ∈ p0 ++ p1, x.block < W.heap.size := fun x hx => by simpa using hW'.lt x hx
  refine (lawTrip x v0 v1 bs W hx hb).mono fun e W' ⟨he, hnx⟩ => ?_
  subst he
  exact ⟨_, rfl, _, _, _, [], _, [], hW', trodAll_mk1 (shut_bool Try.underlying4 _), trodAll_mk2 (Below.trod Try.laidOut (by kernel_rfl) (of_decide_eq_true (by kernel_rfl)) h0 hnx fun x hx => hlt x (List.mem_append.2 (.inl hx)))
    (Below.trod Try.laidOut (by kernel_rfl) (of_decide_eq_true (by kernel_rfl)) h1 hnx fun x hx => hlt x (List.mem_append.2 (.inr hx))), rfl, hnx.frame _, fun h => by cases h⟩

/-- CodecRoundTrip holds. -/
theorem codecRoundTrip_holds : Rows.CodecRoundTripSaid :=
  OpenClaim.holds_of_wide 6 Try.f6 rfl rfl rfl rfl rfl rfl rfl ⟨rfl, rfl, rfl, rfl, rfl⟩ rfl rfl rfl rfl rfl (by kernel_rfl) Try.func6 (by kernel_rfl)
    (of_decide_eq_true (by kernel_rfl)) (by unfold Func.isWrapper; first | (rw [if_pos (by decide +kernel)]; kernel_rfl) | (rw [if_neg (by decide +kernel)]; exact ⟨rfl, rfl⟩))
    (fun os started H enc _ => trip_lifted os started H enc)

end Go.Proofs.Ytkecoohplpbgnaa
