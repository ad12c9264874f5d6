/- For every list of values CodecLists answers true and leaves its argument as it was. No condition but the row's own. -/
import Derived.Test.YtkecoohplpbgnaaLawList
namespace Go.Proofs.Ytkecoohplpbgnaa
open Go.RowKit Go.ChangeShapes Go.WideShapes Go.ChangeAt

/-- Two rows of the call's own, apart. -/
def Two (w : World) (B : Nat) (vw vz : Value) (E : List UInt8) (j : Nat) (W : World) : Prop :=
  W.ownsRow B 5 1 vw E.length (cells8 E) ∧ W.ownsRow B 24 4 vz j (zc j) ∧ (∀ k, vw.ownBlock = some k → vz.ownBlock ≠ some k) ∧ Kept w W ∧ B ≤ W.heap.size ∧ w.heap.size ≤ B

theorem own_below {W W' : World} {B e size n : Nat} {v : Value} {xs : List Value} (h : W.ownsRow B e size v n xs) (hb : Below W.heap.size W W') : W'.ownsRow B e size v n xs := by
  refine World.ownsRow.kept h (gbelow (row := none) hb) ?_
  by_cases he : v.ownBlock = none
  · exact .inl he
  · exact .inr he

theorem Two.below {w W W' : World} {B j : Nat} {vw vz : Value} {E : List UInt8} (h : Two w B vw vz E j W) (hb : Below W.heap.size W W') : Two w B vw vz E j W' := by
  obtain ⟨h1, h2, h3, h4, h5, h6⟩ := h
  exact ⟨own_below h1 hb, own_below h2 hb, h3, h4.next hb, Nat.le_trans h5 hb.size, h6⟩

theorem Two.one {w W W' : World} {B j g cap : Nat} {vw vz : Value} {E e : List UInt8} (h : Two w B vw vz E j W) (hown : W'.ownsRow B 5 1 (.slice (some ⟨g, 0, none⟩) (E.length + e.length) cap) (E.length + e.length) (cells8 E ++ cells8 e))
    (hg : W.grownBy W' vw.ownBlock) (hat : vw.ownBlock = some g ∨ g = W.heap.size) : Two w B (.slice (some ⟨g, 0, none⟩) (E.length + e.length) cap) vz (E ++ e) j W' := by
  obtain ⟨h1, h2, h3, h4, h5, h6⟩ := h
  have hl1 := h1.lt
  have hl2 := h2.lt
  have hk : Kept w W' := Below.grown h4.below hg (by omega) fun k hk => by have := hl1 k hk; omega
  refine ⟨?_, h2.kept hg ?_, ?_, hk, Nat.le_trans h5 hg.size, h6⟩
  · have : cells8 (E ++ e) = cells8 E ++ cells8 e := by unfold cells8; exact List.map_append ..
    rw [List.length_append, this]; exact hown
  · by_cases he : vz.ownBlock = none
    · exact .inl he
    · refine .inr fun e2 => ?_
      cases hv : vw.ownBlock with
      | none => exact he (e2.trans hv)
      | some k => exact h3 k hv (e2.trans hv)
  · intro k hk
    have hk : g = k := by simpa [Value.ownBlock] using hk
    subst hk
    rcases hat with ha | ha
    · exact h3 _ ha
    · intro hc
      have := hl2 _ hc
      omega

theorem Two.two {w W W' : World} {B j g cap : Nat} {vw vz : Value} {E : List UInt8} (h : Two w B vw vz E j W) (hown : W'.ownsRow B 24 4 (.slice (some ⟨g, 0, none⟩) (j + 1) cap) (j + 1) (zc j ++ [.int .i64 1, .int .i64 0, .string { data := #[] }, .slice none 0 0]))
    (hg : W.grownBy W' vz.ownBlock) (hat : vz.ownBlock = some g ∨ g = W.heap.size) : Two w B vw (.slice (some ⟨g, 0, none⟩) (j + 1) cap) E (j + 1) W' := by
  obtain ⟨h1, h2, h3, h4, h5, h6⟩ := h
  have hl1 := h1.lt
  have hl2 := h2.lt
  have hk : Kept w W' := Below.grown h4.below hg (by omega) fun k hk => by have := hl2 k hk; omega
  refine ⟨h1.kept hg ?_, hown, ?_, hk, Nat.le_trans h5 hg.size, h6⟩
  · by_cases he : vw.ownBlock = none
    · exact .inl he
    · refine .inr fun e2 => ?_
      cases hv : vw.ownBlock with
      | none => exact he hv
      | some k => exact h3 k hv (e2.symm.trans hv)
  · intro k hk hc
    have hc : g = k := by simpa [Value.ownBlock] using hc
    subst hc
    rcases hat with ha | ha
    · exact h3 _ hk ha
    · have := hl1 _ hk
      omega

theorem enc_pos (x : V) : 0 < x.enc.length := by
  obtain ⟨k, n, s, l⟩ := x
  unfold V.enc
  split
  · simp
  · split <;> simp

theorem zeros_deps : ∀ j, V.deps (List.replicate j (intV 0)) = 0
  | 0 => by rw [List.replicate_zero]; unfold V.deps; rfl
  | j + 1 => by rw [List.replicate_succ]; unfold V.deps; rw [zeros_deps j, intV_dep]; rfl
theorem zeros_chk (j : Nat) : (LV (List.replicate j (intV 0))).chk = 0 ∧ (LV (List.replicate j (intV 0))).dep ≤ 16 := by
  have hd : (LV (List.replicate j (intV 0))).dep ≤ 16 := by
    unfold LV V.dep; rw [if_pos rfl, zeros_deps]; omega
  refine ⟨chk_ok ?_ hd, hd⟩
  have := formeds_all (List.replicate j (intV 0)) fun x hx => by rw [List.eq_of_mem_replicate hx]; exact intV_chk 0
  unfold LV V.formed; rw [if_neg (by decide), if_neg (by decide), if_pos rfl, this]; simp [ByteArray.toList_eq]

theorem own_bytes {W : World} {B : Nat} {v : Value} {E : List UInt8} (h : W.ownsRow B 5 1 v E.length (cells8 E)) : BytesAt W W.heap.size v E := by
  have h' := h
  rcases h.2 with ⟨rfl, h0⟩ | ⟨g, cap, cur, rfl, hb, hg, hn, hc, hcs, ht⟩
  · have : E = [] := List.eq_nil_of_length_eq_zero h0
    subst this
    exact ⟨none, 0, rfl, by simp, by unfold maxLen; omega, .inl rfl⟩
  · have hs : Spare W g E.length cap E := ⟨h'.1, .inr ⟨g, cap, cur, rfl, Nat.zero_le _, hg, hn, hc, hcs, ht⟩⟩
    exact hs.bytes

theorem conv_tail {W : World} {g cap : Nat} {a b : UInt8} {E : List UInt8} (h : Spare W g (a :: b :: E).length cap (a :: b :: E)) :
    (convert 27 9 (.slice (if cap = 2 then some ⟨g, 0, none⟩ else some ⟨g, 2, none⟩) E.length (cap - 2))).run Try.prog W = .ok (.string ⟨E.toArray⟩) W := by
  obtain ⟨hn, _⟩ := h.cap
  rw [List.length_cons, List.length_cons] at hn
  refine conv_bytes W _ E (cap - 2) ?_
  by_cases h0 : E = []
  · exact .inl h0
  · have hE : 0 < E.length := List.length_pos_iff.2 h0
    rw [if_neg (by omega)]
    refine .inr ⟨g, 2, rfl, fun i hi => ?_⟩
    obtain ⟨a', cap', hv, _, _, h4⟩ := h.bytes
    injection hv with e1 e2 e3
    subst e1
    rcases h4 with h4 | ⟨db, off, h4, _, h6⟩
    · cases h4
    · injection h4 with h4
      injection h4 with e1 e2
      subst e1; subst e2
      have := h6 (i + 2) (by simp; omega)
      simpa [Nat.add_comm] using this

theorem zc_len : ∀ j, (zc j).length = j * 4
  | 0 => rfl
  | j + 1 => by rw [zc, List.length_append, zc_len j]; simp; omega

/-- What holds at the head of a round. -/
def LsInv (w : World) (B : Nat) (l : List V) (v3 v4 v5 i : Value) (wr : World) : Prop :=
  ∃ j : Nat, i = .int .i64 j ∧ j ≤ l.length ∧ (∀ x ∈ l.take j, x.chk = 0) ∧ (V.encs (l.take j)).length ≤ 44000 * j ∧
    v5 = .int .i64 (V.encs (l.take j)).length ∧ Two w B v3 v4 (V.encs (l.take j)) j wr

set_option maxRecDepth 100000 in
set_option maxHeartbeats 2000000 in
theorem lawList (l : List V) (v : Value) (w : World) (hv : LstAt w w.heap.size v l) :
    Calls Try.prog 8 #[v] w fun e w' => e = .returned (.bool true) ∧ Below w.heap.size w w' := by
  have HX := Lib.hid hv
  obtain ⟨a, cap, rfl, hlc, hcm, hsh⟩ := hv
  have hcs : Calls Try.prog 10 #[] w fun e w' => e = .returned (.bool true) ∧ Kept w w' := (sane_any w).mono fun e w' h => ⟨h.1, h.2⟩
  have hlW : ∀ W, Kept w W → LstAt W W.heap.size (.slice a l.length cap) l := fun W hW => (HX.out.below hW.below).mono hW.below.size
  have hcf : ∀ W, Kept w W → Calls Try.prog 11 #[.slice a l.length cap] W fun e w' => e = .returned (.bool (l.all V.few)) ∧ Kept w w' := fun W hW => by
    obtain ⟨a', cap', h1, h2, h3, h4⟩ := hlW W hW
    injection h1 with e1 e2 e3
    subst e1; subst e3
    exact (fews_any l a cap W h2 h3 h4).mono fun e w' h => ⟨h.1, hW.next h.2⟩
  obtain ⟨t, ht⟩ : ∃ t, l.all V.few = t := ⟨_, rfl⟩
  rw [ht] at hcf
  have HT := Lib.hid ht
  have HF := Lib.hid hcf
  have HL := Lib.hid hlW
  have HSH := Lib.hid hsh
  unfold maxLen at hcm
  clear hcf hlW ht hsh
  go_enter Try.func8, Try.ntmps8
  go_wp2_with fail
  refine hcs.mono ?_
  rintro e w2 ⟨rfl, hK2⟩
  clear hcs
  go_wp2_with fail
  refine (HF.out _ hK2).mono ?_
  rintro e w3 ⟨rfl, hK3⟩
  clear hK2
  cases t
  · go_wp2
    go_ret
    exact ⟨rfl, hK3⟩
  by_cases hl : 20 < l.length
  · have hl' : decide (20 < (l.length : Int)) = true := by simp; omega
    go_wp2
    go_ret
    exact ⟨rfl, hK3⟩
  have hl' : decide (20 < (l.length : Int)) = false := by simp; omega
  go_wp2_with fail
  go_loopw [3, 4, 5, 31] (fun v3 v4 v5 i wr => LsInv w w3.heap.size l v3 v4 v5 i wr) (fun _ _ _ i _ => l.length - (intOf i).toNat)
  case atStart => exact ⟨0, rfl, Nat.zero_le _, by simp, by simp [V.encs_nil], by simp [V.encs_nil], by simp [V.encs_nil, cells8]; exact World.ownsRow_nil _ _ _ _, World.ownsRow_nil _ _ _ _, by simp [Value.ownBlock], hK3, Nat.le_refl _, hK3.below.size⟩
  case round =>
    obtain ⟨j, rfl, hjl, hck, hbd, rfl, htwo⟩ := hrel
    have hK : Kept w wr := htwo.2.2.2.1
    have hBr : w3.heap.size ≤ wr.heap.size := htwo.2.2.2.2.1
    by_cases hlt : j < l.length
    · rcases HSH.out with h0 | ⟨b, off, ha, hbl, hat⟩
      · rw [h0] at hlt; exact absurd hlt (by simp)
      subst ha
      obtain ⟨k, n, s, aa, ln, cp, g0, g1, g2, g3, ga⟩ := AtL.got l b off j hlt (AtL.below hK.below l b off hbl hat)
      obtain ⟨x, hx⟩ : ∃ x, l[j] = x := ⟨_, rfl⟩
      have htk : l.take (j + 1) = l.take j ++ [x] := by rw [← hx]; exact (List.take_append_getElem hlt).symm
      have hxm : x ∈ l := by rw [← hx]; exact List.getElem_mem _
      rw [hx] at ga
      have hfx : x.few = true := by
        have := HT.out
        rw [List.all_eq_true] at this
        exact this x hxm
      obtain ⟨b1, b2, _⟩ := few_bound ga hfx
      have HK := Lib.hid hK
      have HCK := Lib.hid hck
      have HTWO := Lib.hid htwo
      obtain ⟨E, hE⟩ : ∃ E, V.encs (l.take j) = E := ⟨_, rfl⟩
      have hE2 : V.encs (l.take (j + 1)) = E ++ x.enc := by rw [htk, encs_append, hE, V.encs_cons, V.encs_nil, List.append_nil]
      rw [hE] at hbd htwo ⊢
      have HTWO := Lib.hid htwo
      have HE2 := Lib.hid hE2
      have HTK := Lib.hid htk
      have hsub := hK.below.size
      by_cases cx : x.chk = 0
      · have hex : ∀ W, Kept wr W → Calls Try.prog 12 #[.agg #[.int .i64 k, .int .i64 n, .string s, .slice aa ln cp]] W (EncPost W x.enc) := fun W hW =>
          encode_ok x W w.heap.size _ (by omega) (by have := hW.below.size; omega) (V.At.below (hW.below.mono (by omega)) _ _ ga) cx (by omega)
        have hsz : ∀ W, Kept wr W → Calls Try.prog 14 #[.agg #[.int .i64 k, .int .i64 n, .string s, .slice aa ln cp]] W fun e w' => e = .returned (.tuple #[.int .i64 (x.enc.length : Nat), .int .i64 0]) ∧ Below W.heap.size W w' := fun W hW =>
          size_ok x W w.heap.size _ (by omega) (by have := hW.below.size; omega) (V.At.below (hW.below.mono (by omega)) _ _ ga) cx (by omega)
        have HEX := Lib.hid hex
        have HSZ := Lib.hid hsz
        have CX := Lib.hid cx
        clear hex hsz cx ga hK hck htwo htk hx hat hE hE2
        obtain ⟨w4, hw4⟩ : ∃ w4, w4 = wr.alloc (Obj.cells #[.int .i64 k, .int .i64 n, .string s, .slice aa ln cp] 24) := ⟨_, rfl⟩
        have hz4 : w4.heap.size = wr.heap.size + 1 := by rw [hw4]; simp
        have hB4 : Kept wr w4 := by rw [hw4]; exact (Kept.refl wr).alloc _
        have hcell : ∀ W, Kept w4 W → ∀ i u, w4.cell? ⟨wr.heap.size, i, none⟩ = some u → W.cell? ⟨wr.heap.size, i, none⟩ = some u := fun W hW i u hu => (hW.below.cell (p := ⟨wr.heap.size, i, none⟩) (by show wr.heap.size < _; omega)).trans hu
        have p0 : ∀ W, Kept w4 W → W.cell? ⟨wr.heap.size, 0, none⟩ = some (.int .i64 k) := fun W hW => hcell W hW _ _ (by rw [hw4]; go_cell)
        have p1 : ∀ W, Kept w4 W → W.cell? ⟨wr.heap.size, 1, none⟩ = some (.int .i64 n) := fun W hW => hcell W hW _ _ (by rw [hw4]; go_cell)
        have p2 : ∀ W, Kept w4 W → W.cell? ⟨wr.heap.size, 2, none⟩ = some (.string s) := fun W hW => hcell W hW _ _ (by rw [hw4]; go_cell)
        have p3 : ∀ W, Kept w4 W → W.cell? ⟨wr.heap.size, 3, none⟩ = some (.slice aa ln cp) := fun W hW => hcell W hW _ _ (by rw [hw4]; go_cell)
        have HW4 := Lib.hid hw4
        have HB4 := Lib.hid hB4
        clear hcell hw4 hB4
        go_wp2_with fail
        rw [← HW4.out]
        refine (HEX.out _ HB4.out).mono ?_
        rintro e w5 ⟨v5, rfl, g1, cap1, rfl, hg1, hs1, hb5⟩
        have hK5 : Kept w4 w5 := hb5
        have s0 := p0 _ hK5
        have s1 := p1 _ hK5
        have s2 := p2 _ hK5
        have s3 := p3 _ hK5
        have HS1 := Lib.hid hs1
        clear hs1 hb5
        go_wp2_with fail
        refine (HSZ.out _ (HB4.out.next hK5)).mono ?_
        rintro e w6 ⟨rfl, hb6⟩
        have hs6 : Spare w6 g1 x.enc.length cap1 x.enc := HS1.out.below hb6
        have hT6 := HTWO.out.below (HB4.out.below.trans ((hK5.below.mono (by omega)).trans (hb6.mono (by have := hK5.below.size; omega))))
        have HS6 := Lib.hid hs6
        have HT6 := Lib.hid hT6
        have hB6 := hT6.2.2.2.2.1
        obtain ⟨eb, heb⟩ : ∃ eb, x.enc = eb := ⟨_, rfl⟩
        rw [heb] at b1 HS6 HE2 ⊢
        have hep : 0 < eb.length := by rw [← heb]; exact enc_pos x
        clear s0 s1 s2 s3 hs6 hT6 HTWO hb6 HS1 hK5 p0 p1 p2 p3 HW4 HB4 HEX HSZ heb
        obtain ⟨i0, hi, hz0, hz2, hz3⟩ := info_parts Try.info5
        go_wp2_with ((at_builtin; refine wpList_append_lies _ rfl (.tmp 68) (.tmp 69) 27 rfl w3.heap.size 5 i0 _ 1 1 Try.underlying27 hi hz0 hz2 hz3 rfl (by omega) u3 E.length (cells8 E) rfl HT6.out.1 ⟨g1, 0, none⟩ eb.length cap1 (cells8 eb) rfl (by simp [cells8]) (World.ownsRow.cells HS6.out (g := g1) rfl) (by simp [cells8, Value.oneCell']) hep (by unfold maxLen; omega) (by omega) hB6 w6.heap.size rfl ?_; intro g cap2 w7 hown7 hgr7 hat7 hlt7))
        have hT7 := HT6.out.one hown7 hgr7 hat7
        have HT7 := Lib.hid hT7
        have hB7 := hT7.2.2.2.2.1
        clear hown7 hgr7 hat7 hlt7 hT7 HT6 HS6 hi hz0 hz2 hz3
        refine (mkInt 0 _).mono ?_
        rintro e w8 ⟨rfl, hb8⟩
        have HT8 := Lib.hid (HT7.out.below hb8)
        have hB8 := HT8.out.2.2.2.2.1
        clear hb8 HT7
        obtain ⟨i1, hi, hz0, hz2, hz3⟩ := info_parts Try.info24
        go_wp2_with ((at_builtin; refine wpList_append_lies _ rfl (.tmp 71) (.tmp 73) 22 rfl w3.heap.size 24 i1 _ 4 56 Try.underlying22 hi hz0 hz2 hz3 rfl (by omega) u4 j (zc j) rfl (HT8.out.2.1.alloc _) ⟨w8.heap.size, 0, none⟩ 1 1 [.int .i64 1, .int .i64 0, .string { data := #[] }, .slice none 0 0] rfl rfl (World.news_of_block (cs := #[.int .i64 1, .int .i64 0, .string { data := #[] }, .slice none 0 0]) (t := 24) (fr := (0, 0)) (heap_alloc_new w8 _)) (by simp [Value.oneCell']) (by omega) (by unfold maxLen; omega) (by omega) (by simp; omega) (w8.heap.size + 1) (by simp) ?_; intro g2 cap3 w9 hown9 hgr9 hat9 hlt9))
        have hT9 := Two.two (HT8.out.below ((Below.refl _ _).alloc (Nat.le_refl _) _)) hown9 hgr9 (by simpa using hat9)
        have HT9 := Lib.hid hT9
        clear hown9 hgr9 hat9 hlt9 hT9 HT8 hi hz0 hz2 hz3
        go_wp2
        refine ⟨⟨j + 1, rfl, by omega, ?_, ?_, ?_, ?_⟩, by simp [intOf]; omega⟩
        · rw [HTK.out]
          intro y hy
          rcases List.mem_append.1 hy with hy | hy
          · exact HCK.out y hy
          · rw [List.mem_singleton.1 hy]; exact CX.out
        · rw [HE2.out, List.length_append]; omega
        · rw [HE2.out, List.length_append]; rfl
        · rw [HE2.out]; exact HT9.out
      · obtain ⟨q, hq⟩ : ∃ q, x.chk = q := ⟨_, rfl⟩
        obtain ⟨m, hm⟩ : ∃ m, (LV l).chk = m := ⟨_, rfl⟩
        have hm0 : m ≠ 0 := by rw [← hm]; exact LV_bad hxm cx
        have hdl : (LV l).dep ≤ 1000000 := by
          have := (few_all l b off hat HT.out).2
          unfold LV V.dep; rw [if_pos rfl]; omega
        have hbx : ∀ W, Kept wr W → Calls Try.prog 12 #[.agg #[.int .i64 k, .int .i64 n, .string s, .slice aa ln cp]] W fun e w' => e = .returned (.tuple #[.slice none 0 0, .int .i64 q]) ∧ Below W.heap.size W w' := fun W hW => by
          rw [← hq]
          exact (encode_bad x W w.heap.size _ (by omega) (by have := hW.below.size; omega) (V.At.below (hW.below.mono (by omega)) _ _ ga) cx)
        have hsx : ∀ W, Kept wr W → Calls Try.prog 14 #[.agg #[.int .i64 k, .int .i64 n, .string s, .slice aa ln cp]] W fun e w' => e = .returned (.tuple #[.int .i64 0, .int .i64 q]) ∧ Below W.heap.size W w' := fun W hW => by
          rw [← hq]
          exact (size_bad x W w.heap.size _ (by omega) (by have := hW.below.size; omega) (V.At.below (hW.below.mono (by omega)) _ _ ga) cx)
        have hlx : ∀ W, Kept w W → Calls Try.prog 12 #[.agg #[.int .i64 3, .int .i64 0, .string { data := #[] }, .slice (some ⟨b, off, none⟩) l.length cap]] W fun e w' => e = .returned (.tuple #[.slice none 0 0, .int .i64 m]) ∧ Below W.heap.size W w' := fun W hW => by
          rw [← hm]
          exact encode_bad (LV l) W W.heap.size _ hdl (Nat.le_refl _) (LV_at (HL.out W hW)) (by rw [hm]; exact hm0)
        have hq0 : (q == 0) = false := by rw [hq] at cx; simpa using cx
        have hq1 : (q != 0) = true := by rw [hq] at cx; simpa using cx
        have hm1 : (m != 0) = true := by simpa using hm0
        have HBX := Lib.hid hbx
        have HSX := Lib.hid hsx
        have HLX := Lib.hid hlx
        clear hbx hsx hlx cx ga hck htwo htk hx hat hE hE2 hq hm hdl hm0
        obtain ⟨w4, hw4⟩ : ∃ w4, w4 = wr.alloc (Obj.cells #[.int .i64 k, .int .i64 n, .string s, .slice aa ln cp] 24) := ⟨_, rfl⟩
        have hz4 : w4.heap.size = wr.heap.size + 1 := by rw [hw4]; simp
        have hB4 : Kept wr w4 := by rw [hw4]; exact (Kept.refl wr).alloc _
        have hcell : ∀ W, Kept w4 W → ∀ i u, w4.cell? ⟨wr.heap.size, i, none⟩ = some u → W.cell? ⟨wr.heap.size, i, none⟩ = some u := fun W hW i u hu => (hW.below.cell (p := ⟨wr.heap.size, i, none⟩) (by show wr.heap.size < _; omega)).trans hu
        have p0 : ∀ W, Kept w4 W → W.cell? ⟨wr.heap.size, 0, none⟩ = some (.int .i64 k) := fun W hW => hcell W hW _ _ (by rw [hw4]; go_cell)
        have p1 : ∀ W, Kept w4 W → W.cell? ⟨wr.heap.size, 1, none⟩ = some (.int .i64 n) := fun W hW => hcell W hW _ _ (by rw [hw4]; go_cell)
        have p2 : ∀ W, Kept w4 W → W.cell? ⟨wr.heap.size, 2, none⟩ = some (.string s) := fun W hW => hcell W hW _ _ (by rw [hw4]; go_cell)
        have p3 : ∀ W, Kept w4 W → W.cell? ⟨wr.heap.size, 3, none⟩ = some (.slice aa ln cp) := fun W hW => hcell W hW _ _ (by rw [hw4]; go_cell)
        have HW4 := Lib.hid hw4
        have HB4 := Lib.hid hB4
        clear hcell hw4 hB4
        go_wp2_with fail
        rw [← HW4.out]
        refine (HBX.out _ HB4.out).mono ?_
        rintro e w5 ⟨rfl, hb5⟩
        have hK5 : Kept w4 w5 := hb5
        have s0 := p0 _ hK5
        have s1 := p1 _ hK5
        have s2 := p2 _ hK5
        have s3 := p3 _ hK5
        clear hb5
        go_wp2_with fail
        refine (HSX.out _ (HB4.out.next hK5)).mono ?_
        rintro e w6 ⟨rfl, hb6⟩
        have hK6 : Kept w w6 := HK.out.next (HB4.out.below.trans ((hK5.below.mono (by omega)).trans (hb6.mono (by have := hK5.below.size; omega))))
        clear s0 s1 s2 s3 hb6 hK5
        go_wp2_with fail
        refine (mkList _ _ _ _).mono ?_
        rintro e w7 ⟨rfl, hb7⟩
        have hK7 := hK6.next hb7
        clear hK6 hb7
        go_wp2_with fail
        refine (HLX.out _ hK7).mono ?_
        rintro e w8 ⟨rfl, hb8⟩
        have hK8 := hK7.next hb8
        clear hK7 hb8
        go_wp2
        go_ret
        exact ⟨rfl, hK8⟩
    · have hje : j = l.length := by omega
      have htk : l.take j = l := by rw [hje]; exact List.take_length ..
      rw [htk] at hck hbd htwo ⊢
      subst hje
      have hltd : decide ((l.length : Int) < l.length) = false := by simp
      have hdl : V.deps l ≤ 16 := deps_all l hck
      obtain ⟨m, hm⟩ : ∃ m, (LV l).chk = m := ⟨_, rfl⟩
      have hm2 : m = 0 ∨ m = 2 := by rw [← hm]; exact LV_good hck
      have hel := LV_enc l
      have hzl := LV_enc (List.replicate l.length (intV 0))
      have hzl2 : (LV (List.replicate l.length (intV 0))).enc.length = (LV l).enc.length + 2 * l.length - (V.encs l).length := by
        rw [hel, hzl, List.length_replicate, List.length_cons, List.length_cons, List.length_append, List.length_append, zeros_encs]; omega
      obtain ⟨hcz, hdz⟩ := zeros_chk l.length
      obtain ⟨az, capz, hz4, hz1, hz2, hz3⟩ := zeros_at htwo.2.1
      rw [List.length_replicate] at hz4
      subst hz4
      have hdl2 : (LV l).dep ≤ 1000000 := by unfold LV V.dep; rw [if_pos rfl]; omega
      have hlen : (LV l).enc.length = 1 + (num l.length).length + (V.encs l).length := by
        rw [hel, List.length_cons, List.length_append]; omega
      have hn1 : (num l.length).length = 1 := by rw [num_lt _ (by omega)]; rfl
      have hlz : (LV (List.replicate l.length (intV 0))).enc.length = 2 + 2 * l.length := by
        rw [hzl, List.length_cons, List.length_append, zeros_encs, List.length_replicate, hn1]; omega
      have hlx : ∀ W, Kept w W → Calls Try.prog 12 #[.agg #[.int .i64 3, .int .i64 0, .string { data := #[] }, .slice a l.length cap]] W fun e w' => (m = 0 → EncPost W (LV l).enc e w') ∧ (m ≠ 0 → e = .returned (.tuple #[.slice none 0 0, .int .i64 m]) ∧ Below W.heap.size W w') := fun W hW => by
        by_cases h0 : m = 0
        · exact (encode_ok (LV l) W W.heap.size _ hdl2 (Nat.le_refl _) (LV_at (HL.out W hW)) (hm.trans h0) (by omega)).mono fun e w' h => ⟨fun _ => h, fun hn => absurd h0 hn⟩
        · have := encode_bad (LV l) W W.heap.size _ hdl2 (Nat.le_refl _) (LV_at (HL.out W hW)) (by rw [hm]; exact h0)
          rw [hm] at this
          exact this.mono fun e w' h => ⟨fun h1 => absurd h1 h0, fun _ => h⟩
      have hzs : ∀ W, Two w w3.heap.size u3 (.slice az l.length capz) (V.encs l) l.length W → Calls Try.prog 14 #[.agg #[.int .i64 3, .int .i64 0, .string { data := #[] }, .slice az l.length capz]] W fun e w' => e = .returned (.tuple #[.int .i64 (2 + 2 * l.length : Nat), .int .i64 0]) ∧ Below W.heap.size W w' := fun W hT => by
        have h1 := zeros_at hT.2.1
        have := size_ok (LV (List.replicate l.length (intV 0))) W W.heap.size _ (by omega) (Nat.le_refl _) (LV_at h1) hcz (by omega)
        rw [hlz] at this
        exact this
      have HLX := Lib.hid hlx
      have HZS := Lib.hid hzs
      have HTWO := Lib.hid htwo
      have HEL := Lib.hid hel
      clear htk hlt hlx hzs htwo hck hzl hzl2 hdl hdl2 hm hcz hdz hlz hel hz3
      go_wp2_with fail
      refine (mkList _ _ _ _).mono ?_
      rintro e w7 ⟨rfl, hb7⟩
      have hT7 := HTWO.out.below hb7
      have HT7 := Lib.hid hT7
      have hK7 := hT7.2.2.2.1
      clear hT7 HTWO hb7
      go_wp2_with fail
      refine (HLX.out _ hK7).mono ?_
      rcases hm2 with rfl | rfl
      · rintro e w8 ⟨hp, _⟩
        obtain ⟨v8, rfl, g3, cap3, rfl, hg3, hs3, hb8⟩ := hp rfl
        clear hp
        have HT8 := Lib.hid (HT7.out.below hb8)
        have HS8 := Lib.hid hs3
        clear hb8 HT7 hK7 hg3 hs3
        go_wp2_with fail
        refine (mkList _ _ _ _).mono ?_
        rintro e w9 ⟨rfl, hb9⟩
        have HT9 := Lib.hid (HT8.out.below hb9)
        have HS9 := Lib.hid (HS8.out.below hb9)
        clear hb9 HT8 HS8
        go_wp2_with fail
        refine (HZS.out _ HT9.out).mono ?_
        rintro e w10 ⟨rfl, hb10⟩
        have HT10 := Lib.hid (HT9.out.below hb10)
        have HS10 := Lib.hid (HS9.out.below hb10)
        clear hb10 HT9 HS9
        have hbw := own_bytes HT10.out.1
        obtain ⟨aw, capw, hvw, hw1, hw2, hw3⟩ := hbw
        subst hvw
        have hcw : ∀ nq, (convert 27 9 (.slice aw (V.encs l).length capw)).run Try.prog (w10.drewN nq) = .ok (.string ⟨(V.encs l).toArray⟩) (w10.drewN nq) := fun nq => BytesAt.conv (B := w10.heap.size) (⟨aw, capw, rfl, hw1, hw2, hw3⟩ : BytesAt (w10.drewN nq) w10.heap.size (.slice aw (V.encs l).length capw) (V.encs l))
        have hKF := HT10.out.2.2.2.1
        have HKF := Lib.hid hKF
        go_wp2_with fail
        have f1 : IntKind.i64.wrap (2 * (l.length : Int)) = 2 * (l.length : Int) := IntWalk.i64_in _ (by omega)
        have f2 : IntKind.i64.wrap (2 + 2 * (l.length : Int) - 2 * (l.length : Int)) = 2 := by rw [IntWalk.i64_in (2 + 2 * (l.length : Int) - 2 * (l.length : Int)) (by omega)]; omega
        have f3 : IntKind.i64.wrap 2 = 2 := by decide +kernel
        have f4 : IntKind.i64.wrap (2 + ((V.encs l).length : Int)) = 2 + ((V.encs l).length : Int) := IntWalk.i64_in _ (by omega)
        obtain ⟨k1, k2⟩ := HS10.out.cap
        have hct : ∀ nq, (convert 27 9 (.slice (if cap3 = 2 then some ⟨g3, 0, none⟩ else some ⟨g3, 2, none⟩) (V.encs l).length (cap3 - 2))).run Try.prog (w10.drewN nq) = .ok (.string ⟨(V.encs l).toArray⟩) (w10.drewN nq) := fun nq => by
          have hsp := HS10.out
          rw [HEL.out, num_lt _ (by omega)] at hsp
          exact conv_tail (hsp.drewN nq)
        obtain ⟨S, hS⟩ : ∃ S : ByteArray, (⟨(V.encs l).toArray⟩ : ByteArray) = S := ⟨_, rfl⟩
        rw [hS] at hcw hct
        clear hS
        unfold maxLen at k2
        have b1 : (2 : Int) ≤ 2 + ((V.encs l).length : Int) := by omega
        have b2 : (2 : Int) + ((V.encs l).length : Int) ≤ (cap3 : Int) := by omega
        go_quiet (fail)
        go_wp2
        all_goals
          go_ret
          exact ⟨by simp, below_drewN HKF.out _⟩
      · rintro e w8 ⟨_, hp⟩
        obtain ⟨rfl, hb8⟩ := hp (by omega)
        clear hp
        have hK8 := hK7.next hb8
        clear hK7 hb8 HT7
        go_wp2
        go_ret
        exact ⟨rfl, hK8⟩

set_option maxRecDepth 100000 in
theorem list_lifted (os : Os) (started : os.Started) (H : Type) (enc : TypeId × Value → H) :
    ReturnsInHanded {} Try.checked os 8 .any (Rows.codecListsSpec.pre6 enc Try.prog Try.f8 Rows.codecListsRow.domain false) (Rows.codecListsSpec.post enc Try.prog Try.f8 false true false false) := by
  refine returnsInHanded_of_change (C := Try.checked) Try.own started (by kernel_rfl) Try.func8
    (ChangeSpec.witness6 (enc := enc) (C := Try.checked) false ⟨#[], #[.slice none 0 0], []⟩ 8 (by kernel_rfl) (by kernel_rfl) (by kernel_rfl) (by kernel_rfl)) ?_
  intro W base args ds gs before hval0 hW _ _
  have hval : ∀ (j : Nat) t v, Try.f8.params[j]? = some t → args[j]? = some v → Value.okWide Try.prog W .any base t v := hval0
  have hW' := hW
  obtain ⟨p, q, hA0, hV, rfl, _, _⟩ := hW
  have hA : DataW.TrodAll enc Try.prog W 0 (fun _ => true) true Try.f8.params.toList args.toList ds p := hA0
  rw [Try.params8] at hA hval
  obtain ⟨v0, d0, rfl, rfl, h0⟩ := trodAll_one hA
  obtain ⟨rfl, rfl⟩ := trodVars_none hV
  obtain ⟨l, hl⟩ := open_vals (hval 0 22 v0 rfl rfl) h0
  clear hA0 hval0
  simp only [List.append_nil] at hW'
  have hlt : ∀ x ∈ p, x.block < W.heap.size := fun x hx => by simpa using hW'.lt x hx
  refine (lawList l v0 W hl).mono fun e W' ⟨he, hnx⟩ => ?_
  subst he
  exact ⟨_, rfl, _, _, _, [], _, [], hW', trodAll_mk1 (shut_bool Try.underlying4 _), trodAll_mk1 (Below.trod Try.laidOut (by kernel_rfl) (of_decide_eq_true (by kernel_rfl)) h0 hnx fun x hx => hlt x hx), rfl, hnx.frame _, fun h => by cases h⟩

/-- CodecLists holds. -/
theorem codecLists_holds : Rows.CodecListsSaid :=
  OpenClaim.holds_of_wide 8 Try.f8 rfl rfl rfl rfl rfl rfl rfl ⟨rfl, rfl, rfl, rfl, rfl⟩ rfl rfl rfl rfl rfl (by kernel_rfl) Try.func8 (by kernel_rfl)
    (of_decide_eq_true (by kernel_rfl)) (by unfold Func.isWrapper; first | (rw [if_pos (by decide +kernel)]; kernel_rfl) | (rw [if_neg (by decide +kernel)]; exact ⟨rfl, rfl⟩))
    (fun os started H enc _ => list_lifted os started H enc)

end Go.Proofs.Ytkecoohplpbgnaa
