/- New of disk. -/
import Derived.Test.YtmklchjgiaomkaaCur
namespace Go.Proofs.Ytmklchjgiaomkaa
open Go.RowKit

theorem Arr.moved {W W' : World} {r : Option Nat} {b : Nat} {cs : List Value} (h : Arr W b cs) (hG : W.grownBy W' r) (hlt : b < W.heap.size) (hne : some b ≠ r) : Arr W' b cs :=
  ⟨fun j v hv => (World.cell?_of_block (a := ⟨b, 0 + j, none⟩) (hG.block b hlt hne)).trans (h.at_ j v hv),
    fun j hj => ⟨by rw [World.cell?_of_block (a := ⟨b, 0 + j, none⟩) (hG.block b hlt hne)]; exact (h.there j hj).1, by rw [World.frozen?_of_block (a := ⟨b, 0 + j, none⟩) (hG.block b hlt hne)]; exact (h.there j hj).2⟩⟩
theorem rng_moved {W W' : World} {r : Option Nat} {b o : Nat} {cs : List Value} (h : W.rangeAt b o cs) (hG : W.grownBy W' r) (hlt : b < W.heap.size) (hne : some b ≠ r) : W'.rangeAt b o cs :=
  fun j v hv => (World.cell?_of_block (a := ⟨b, o + j, none⟩) (hG.block b hlt hne)).trans (h j v hv)
theorem own_moved {W W' : World} {r : Option Nat} {B e size n m c g : Nat} {xs : List Value} (h : W.ownsRow B e size (.slice (some ⟨g, 0, none⟩) m c) n xs) (hG : W.grownBy W' r) (hne : some g ≠ r) : W'.ownsRow B e size (.slice (some ⟨g, 0, none⟩) m c) n xs :=
  World.ownsRow.kept h hG (.inr (by simpa [Value.ownBlock] using hne))
theorem Kept.moved {W0 W W' : World} {r : Option Nat} (h : Kept W0 W) (hG : W.grownBy W' r) (hr : ∀ k, r = some k → W0.heap.size ≤ k) : Kept W0 W' := below_grow h hG hr h.size
theorem own_keep {W W' : World} {B e size n : Nat} {v : Value} {xs : List Value} (h : W.ownsRow B e size v n xs) (hb : Below W.heap.size W W') : W'.ownsRow B e size v n xs := by
  refine World.ownsRow.kept h (gbelow (row := none) hb) ?_
  cases hv : v.ownBlock with
  | none => exact .inl rfl
  | some k => exact .inr (by simp)

theorem grown_setCell {W : World} {b : Nat} (i : Nat) (v : Value) : W.grownBy (W.setCell ⟨b, i, none⟩ v) (some b) :=
  ⟨rfl, rfl, rfl, by simp [World.setCell], fun k _ hne => Below.heap_setCell _ _ _ _ (by first | exact fun e => hne (congrArg some e) | exact fun e => hne (congrArg some e.symm))⟩
theorem grown_setCells {b : Nat} : ∀ (vs : List Value) (o : Nat) (W : World), W.grownBy (W.setCells b o vs) (some b)
  | [], _, _ => ⟨rfl, rfl, rfl, Nat.le_refl _, fun _ _ _ => rfl⟩
  | v :: r, o, W => by
    rw [World.setCells]
    exact gtrans (grown_setCell o v) (grown_setCells r (o + 1) _)
theorem Arr.stored {W : World} {b : Nat} {cs cs' : List Value} (h : Arr W b cs) (hl : cs'.length = cs.length) : Arr (W.setCells b 0 cs') b cs' :=
  ⟨World.rangeAt_setCells_same W b 0 cs' (by rw [hl]; exact h.there), World.there_setCells (by rw [hl]; exact h.there) b 0 cs'⟩
theorem Try.size25 : (Try.prog.info? 25).map (·.size) = some 4 := by kernel_rfl
/-- A disk is stored in a block of its own: the world behind it is a letter. -/
theorem store_disk {ops : Array Oper} {rest : List Oper} {op : Oper} {a : Act} {w : World} {Q : Exit → Act → World → Prop} (hgd : op.guard = none) (x y : Operand) (ho : op.op = .store 25 x y)
    (b : Nat) (c0 c1 c2 c3 o0 o1 o2 o3 : Value) (hx : a.eval x = .pointer (some ⟨b, 0, none⟩)) (hy : a.eval y = .agg #[c0, c1, c2, c3]) (ht : Arr w b [o0, o1, o2, o3])
    (h1 : [c0, c1, c2, c3].all (·.oneCell') = true) (h : ∀ W, w.grownBy W (some b) → Arr W b [c0, c1, c2, c3] → wpList Try.prog ops Q rest (a.put op.dst undef) W) : wpList Try.prog ops Q (op :: rest) a w := by
  refine wpList_store_mid hgd 25 x y ho b 0 #[c0, c1, c2, c3] hx hy ht.there Try.size25 (by simpa using h1) ?_
  exact h _ (grown_setCells _ _ _) (ht.stored rfl)
theorem Arr.four {W : World} {b : Nat} {c0 c1 c2 c3 : Value} (h : Arr W b [c0, c1, c2, c3]) : Cells4 W b c0 c1 c2 c3 := ⟨h.cell rfl, h.cell rfl, h.cell rfl, h.cell rfl⟩
theorem Arr.free {W : World} {b : Nat} {c0 c1 c2 c3 : Value} (h : Arr W b [c0, c1, c2, c3]) : W.frozen? ⟨b, 0, none⟩ = false ∧ W.frozen? ⟨b, 1, none⟩ = false ∧ W.frozen? ⟨b, 2, none⟩ = false ∧ W.frozen? ⟨b, 3, none⟩ = false :=
  ⟨h.frozen (by simp), h.frozen (by simp), h.frozen (by simp), h.frozen (by simp)⟩
theorem code_world {P : Program} {c : Code} {Q : Exit → Act → World → Prop} {a : Act} {w : World} (X : World → Prop) (hX : X w) (h : ∀ W, X W → c.wp P Q a W) : c.wp P Q a w := h w hX

def zb : By := List.replicate 128 0
theorem zb_len : zb.length = 128 := by simp [zb]
theorem pad_nil : pad [] = zb := by simp [pad, zb]
/-- A row of sectors of zero bytes, m of them laid. -/
def ZRow (wr : World) (g m k : Nat) (cs : List Value) : Prop :=
  cs.length = k ∧ ∀ i, i < k → (i < m → ∃ gi, cs[i]? = some (.slice (some ⟨gi, 0, none⟩) 128 128) ∧ g < gi ∧ gi < wr.heap.size ∧ Arr wr gi (cells8 zb)) ∧ (m ≤ i → cs[i]? = some (.slice none 0 0))
theorem ZRow.zero (wr : World) (g k : Nat) : ZRow wr g 0 k (List.replicate k (.slice none 0 0)) := ⟨by simp, fun i hi => ⟨fun h => absurd h (by omega), fun _ => by simp [hi]⟩⟩
theorem ZRow.step {wr W : World} {g m k gi : Nat} {cs : List Value} (h : ZRow wr g m k cs) (hm : m < k) (hg : wr.grownBy W (some g)) (h1 : g < gi) (h2 : gi < W.heap.size) (hA : Arr W gi (cells8 zb)) : ZRow W g (m + 1) k (cs.set m (.slice (some ⟨gi, 0, none⟩) 128 128)) := by
  refine ⟨by rw [List.length_set]; exact h.1, fun i hi => ⟨fun hlt => ?_, fun hle => ?_⟩⟩
  · by_cases e : i = m
    · subst e
      exact ⟨gi, by rw [List.getElem?_set_self (by rw [h.1]; exact hi)], h1, h2, hA⟩
    · obtain ⟨gj, e1, e2, e3, e4⟩ := (h.2 i hi).1 (by omega)
      exact ⟨gj, by rw [List.getElem?_set_ne (by omega)]; exact e1, e2, Nat.lt_of_lt_of_le e3 hg.size, e4.moved hg e3 (by simp; omega)⟩
  · rw [List.getElem?_set_ne (by omega)]
    exact (h.2 i hi).2 (by omega)
theorem ZRow.sec {wr : World} {g k : Nat} {cs : List Value} (h : ZRow wr g k k cs) (_hz : 0 < k) : secCells wr (fun _ => True) (List.replicate k zb) cs := by
  refine ⟨by rw [h.1, List.length_replicate], fun i hi => ?_⟩
  rw [List.length_replicate] at hi
  obtain ⟨gi, h1, h2, h3, h4⟩ := (h.2 i hi).1 hi
  exact ⟨_, h1, by rw [List.getElem_replicate]; exact h4.bytesOn zb_len h3 trivial (Nat.le_refl _) (by unfold maxLen; omega)⟩

set_option maxHeartbeats 1000000 in
theorem new_err (w : World) (n : Int) (h : n < 1 ∨ 4096 < n) :
    Calls Try.prog 12 #[.int .i64 n] w fun e w' => ∃ v, e = .returned (.tuple #[v, .int .i64 1]) ∧ DkAt w' w'.heap.size v Dk.zero ∧ Below w.heap.size w w' := by
  have hpo : ∀ W, DkAt W W.heap.size (.agg #[.slice none 0 0, .slice none 0 0, .int .i64 0, .bool false]) Dk.zero := fun W => zero_at W _
  have HPO := Lib.hid hpo
  clear hpo
  by_cases h1 : n < 1
  · have d1 : decide (n < 1) = true := by simpa using h1
    go_enter Try.func12, Try.ntmps12
    go_wp2
    refine bodyPost_ret (v := .tuple #[.agg #[.slice none 0 0, .slice none 0 0, .int .i64 0, .bool false], .int .i64 1]) (by simp [results, Try.results12, go_sem]) rfl ⟨_, rfl, HPO.out _, by go_grown⟩
  · have d1 : decide (n < 1) = false := by simpa using h1
    have d2 : decide (4096 < n) = true := by simp; omega
    clear h
    go_enter Try.func12, Try.ntmps12
    go_wp2
    refine bodyPost_ret (v := .tuple #[.agg #[.slice none 0 0, .slice none 0 0, .int .i64 0, .bool false], .int .i64 1]) (by simp [results, Try.results12, go_sem]) rfl ⟨_, rfl, HPO.out _, by go_grown⟩

set_option maxHeartbeats 1000000 in
theorem new_ok (w : World) (k : Nat) (h1 : 1 ≤ k) (h2 : k ≤ 60) :
    Calls Try.prog 12 #[.int .i64 k] w fun e w' => ∃ v, e = .returned (.tuple #[v, .int .i64 0]) ∧ DkAt w' w'.heap.size v ⟨List.replicate k zb, [], -1, false⟩ ∧ Below w.heap.size w w' := by
  obtain ⟨w0, hw0⟩ : ∃ w0, w0 = w.alloc (.cells #[.slice none 0 0, .slice none 0 0, .int .i64 0, .bool false] 25) := ⟨_, rfl⟩
  obtain ⟨W1, hmk, hA1, hB1, hz1⟩ := make_sec w0 k (k : Int) rfl (by omega)
  have hz0 : w0.heap.size = w.heap.size + 1 := by rw [hw0]; simp
  have hB0 : Below w.heap.size w w0 := by rw [hw0]; go_grown
  have hX := Arr.new w #[.slice none 0 0, .slice none 0 0, .int .i64 0, .bool false] 25
  rw [← hw0] at hX
  have hX1 := hX.below hB1 (by omega)
  have hBW1 : Below w.heap.size w W1 := hB0.trans (hB1.mono (by omega))
  rw [hw0] at hmk
  have HM := Lib.hid hmk
  have HX1 := Lib.hid hX1
  have HA1 := Lib.hid hA1
  have HB1 := Lib.hid hBW1
  have HZ1 := Lib.hid hz1
  have HZ0 := Lib.hid hz0
  have d1 : decide ((k : Int) < 1) = false := by simp; omega
  have d2 : decide (4096 < (k : Int)) = false := by simp; omega
  clear hmk hX hX1 hA1 hBW1 hz1 hz0 hB0 hB1 hw0
  go_enter Try.func12, Try.ntmps12
  go_wp2_with (first | refine wpList_make_run rfl 22 _ _ rfl _ _ _ _ (by rfl) (by rfl) HM.out ?_ | (refine store_disk rfl (.tmp 2) (.tmp 14) rfl w.heap.size _ _ _ _ _ _ _ _ (by rfl) (by rfl) HX1.out rfl ?_; intro W2 hG2 hA2; obtain ⟨g0, g1, g2, g3⟩ := hA2.four))
  have hW2 := hG2.size
  have hg2 : w.heap.size + 1 < W1.heap.size := by have := HZ1.out; have := HZ0.out; omega
  obtain ⟨p, hp⟩ : ∃ p, w.heap.size = p := ⟨_, rfl⟩
  obtain ⟨g, hg⟩ : ∃ g, p + 1 = g := ⟨_, rfl⟩
  have hA3 : Arr W2 g (List.replicate k (.slice none 0 0)) := by
    have := HA1.out; rw [HZ0.out, hp, hg] at this
    exact this.moved hG2 (by omega) (by simp; omega)
  have hB2 : Below w.heap.size w W2 := below_grow HB1.out hG2 (fun j hj => by cases hj; exact Nat.le_refl _) (by omega)
  have hpg : p < g := by omega
  have hpw : w.heap.size ≤ p := by omega
  have hgW : g < W2.heap.size := by omega
  have HR := Lib.hid (show ∃ cs, Arr W2 g cs ∧ ZRow W2 g 0 k cs from ⟨_, hA3, ZRow.zero _ _ _⟩)
  have HB2 := Lib.hid hB2
  have HA2 := Lib.hid hA2
  rw [hp] at HA2 g0 g1 g2 g3 ⊢
  rw [hg] at HA2 g0 ⊢
  clear HM HX1 HA1 HB1 HZ1 HZ0 hG2 hA3 hB2 hW2 hg2 hA2 hp hg
  go_loopw [18] (fun i wr => ∃ m : Nat, i = .int .i64 m ∧ m ≤ k ∧ Arr wr p [.slice (some ⟨g, 0, none⟩) k k, .slice none 0 0, .int .i64 (-1), .bool false] ∧ Below w.heap.size w wr ∧ W2.heap.size ≤ wr.heap.size ∧ ∃ cs, Arr wr g cs ∧ ZRow wr g m k cs) (fun i _ => k - (intOf i).toNat)
  case atStart => exact ⟨0, rfl, Nat.zero_le _, HA2.out, HB2.out, Nat.le_refl _, HR.out⟩
  case round =>
    obtain ⟨m, rfl, hmk, hAp, hBr, hzr, cs, hAg, hZ⟩ := hrel
    have HAP := Lib.hid hAp
    have HAG := Lib.hid hAg
    have HZ := Lib.hid hZ
    have HBR := Lib.hid hBr
    obtain ⟨g0, g1, g2, g3⟩ := hAp.four
    clear hAp hAg hZ hBr
    by_cases hlt : m < k
    · have hcm : cs[m]? = some (.slice none 0 0) := (HZ.out.2 m hlt).2 (Nat.le_refl _)
      have hcl : m < cs.length := by rw [HZ.out.1]; exact hlt
      have HCM := Lib.hid hcm
      have k0 : ∀ W, Kept wr W → W.cell? ⟨p, 0, none⟩ = some (.slice (some ⟨g, 0, none⟩) k k) := fun W hW => (hW.cell (by omega)).trans HAP.out.four.1
      have k1 : ∀ W, Kept wr W → W.cell? ⟨g, m, none⟩ = some (.slice none 0 0) := fun W hW => (hW.cell (by omega)).trans (HAG.out.cell HCM.out)
      have k2 : ∀ W, Kept wr W → W.frozen? ⟨g, m, none⟩ = false := fun W hW => (hW.frozen (by omega)).trans (HAG.out.frozen hcl)
      have hc : ∀ W, Kept wr W → Calls Try.prog 29 #[.slice none 0 0] W fun e w' => ∃ gi, e = .returned (.slice (some ⟨gi, 0, none⟩) 128 128) ∧ g < gi ∧ gi < w'.heap.size ∧ Arr w' gi (cells8 zb) ∧ Kept wr w' := fun W hW =>
        (sector_any W _ [] 0 (bytes_nil _ _ none) (by simp) (Nat.zero_le _)).mono fun e w' ⟨h1, h2, h3⟩ => ⟨W.heap.size, h1, by have := hW.below.size; omega, h2.lt (by rw [pad_nil, cells8_len, zb_len]; omega), by rw [← pad_nil]; exact h2, hW.next h3⟩
      have HC := Lib.hid hc
      have hs1 : ∀ W, Kept wr W → Below w.heap.size w W ∧ W.cell? ⟨p, 0, none⟩ = some (.slice (some ⟨g, 0, none⟩) k k) := fun W hW => ⟨HBR.out.trans (hW.below.mono HBR.out.size), k0 W hW⟩
      have hs2 : ∀ W u, Kept wr W → Below w.heap.size w (W.setCell ⟨g, m, none⟩ u) ∧ (W.setCell ⟨g, m, none⟩ u).cell? ⟨p, 0, none⟩ = some (.slice (some ⟨g, 0, none⟩) k k) := fun W u hW =>
        ⟨(HBR.out.trans (hW.below.mono HBR.out.size)).setCell (p := ⟨g, m, none⟩) (by show w.heap.size ≤ g; omega) _, by rw [World.cell?_setCell_other _ _ _ _ (by intro h; injection h; omega)]; exact k0 W hW⟩
      have HS1 := Lib.hid hs1
      have HS2 := Lib.hid hs2
      clear hcm hc hs1 hs2
      go_wp2
      go_region_held3 (fun W => Below w.heap.size w W ∧ W.cell? ⟨p, 0, none⟩ = some (.slice (some ⟨g, 0, none⟩) k k)) (first | assumption | exact HS1.out _ (Kept.refl _) | exact HS1.out _ (Kept.drew (Kept.refl _)) | exact HS1.out _ (by assumption) | exact HS2.out _ _ (by assumption))
        (first | ((with_reducible refine (HC.out _ (Kept.drew (Kept.refl _))).mono ?_); rintro e w' ⟨gi, rfl, hgi, hgw, hAi, hK⟩))
      have hgz := hK.below.size
      have hfin : ∀ u, u = Value.slice (some ⟨gi, 0, none⟩) 128 128 → Arr (w'.setCell ⟨g, m, none⟩ u) p [.slice (some ⟨g, 0, none⟩) k k, .slice none 0 0, .int .i64 (-1), .bool false] ∧ Below w.heap.size w (w'.setCell ⟨g, m, none⟩ u) ∧ W2.heap.size ≤ (w'.setCell ⟨g, m, none⟩ u).heap.size ∧ ∃ cs, Arr (w'.setCell ⟨g, m, none⟩ u) g cs ∧ ZRow (w'.setCell ⟨g, m, none⟩ u) g (m + 1) k cs := by
        rintro u rfl
        have hG := grown_setCell (W := w') (b := g) m (.slice (some ⟨gi, 0, none⟩) 128 128)
        have hG2 : wr.grownBy (w'.setCell ⟨g, m, none⟩ (.slice (some ⟨gi, 0, none⟩) 128 128)) (some g) := gtrans (gbelow hK.below) hG
        refine ⟨HAP.out.moved hG2 (by omega) (by simp; omega), (HS2.out _ _ hK).1, by simp; omega, _, (HAG.out.below hK.below (by omega)).set m _, HZ.out.step hlt hG2 hgi (by simpa using hgw) (hAi.moved hG hgw (by simp; omega))⟩
      have HFIN := Lib.hid (hfin _ rfl)
      clear hfin hAi hK
      go_wp2
      go_roundw
      case rel => exact ⟨m + 1, by go_num, by omega, HFIN.out⟩
      case measure => simp [intOf]; omega
    · have hmk' : m = k := by omega
      have hfin : ∀ W, wr.grownBy W (some p) → DkAt W W.heap.size (.agg #[.slice (some ⟨g, 0, none⟩) k k, .slice none 0 0, .int .i64 (-1), .bool false]) ⟨List.replicate k zb, [], -1, false⟩ ∧ Below w.heap.size w W := by
        intro W hG
        subst hmk'
        have hB := below_grow HBR.out hG (fun j hj => by cases hj; exact hpw) (by have := HBR.out.size; omega)
        have hZW : ZRow W g m m cs := by
          refine ⟨HZ.out.1, fun i hi => ⟨fun h => ?_, (HZ.out.2 i hi).2⟩⟩
          obtain ⟨gi, e1, e2, e3, e4⟩ := (HZ.out.2 i hi).1 h
          exact ⟨gi, e1, e2, Nat.lt_of_lt_of_le e3 hG.size, e4.moved hG e3 (by simp; omega)⟩
        refine ⟨⟨⟨by show (-9223372036854775808 : Int) ≤ -1; decide, by show (-1 : Int) ≤ _; decide⟩, _, _, rfl, (hZW.sec (by omega)).at (HAG.out.moved hG (by omega) (by simp; omega)) (by have := hG.size; omega) (by simp) (Nat.le_refl _) (by unfold maxLen; omega), pen_nil _ _ _⟩, hB⟩
      have HFIN := Lib.hid hfin
      clear hfin hmk'
      go_wp2_with (refine store_disk rfl (.tmp 2) (.tmp 27) rfl p _ _ _ _ _ _ _ _ (by rfl) (by rfl) HAP.out rfl ?_; intro W3 hG3 hA3; obtain ⟨y0, y1, y2, y3⟩ := hA3.four)
      obtain ⟨o1, o2⟩ := HFIN.out W3 hG3
      refine bodyPost_ret (v := .tuple #[.agg #[.slice (some ⟨g, 0, none⟩) k k, .slice none 0 0, .int .i64 (-1), .bool false], .int .i64 0]) (by simp [results, Try.results12, go_sem, y0, y1, y2, y3]) rfl ⟨_, rfl, o1, o2⟩

theorem new_any (w : World) (n : Int) (h : n ≤ 60 ∨ 4096 < n) :
    Calls Try.prog 12 #[.int .i64 n] w fun e w' => ∃ v, e = .returned (.tuple #[v, .int .i64 (Dk.new n).2]) ∧ DkAt w' w'.heap.size v (Dk.new n).1 ∧ Below w.heap.size w w' := by
  unfold Dk.new
  by_cases h1 : n < 1 ∨ 4096 < n
  · rw [if_pos h1]; exact new_err w n h1
  · rw [if_neg h1]
    obtain ⟨k, rfl⟩ : ∃ k : Nat, n = k := ⟨n.toNat, by omega⟩
    rw [Int.toNat_natCast]
    exact new_ok w k (by omega) (by omega)
end Go.Proofs.Ytmklchjgiaomkaa
