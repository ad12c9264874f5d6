/- Write of disk. -/
import Derived.Test.YtmklchjgiaomkaaRd
namespace Go.Proofs.Ytmklchjgiaomkaa
open Go.RowKit

/-! The operations of a region of the program that draws its order, as printed. -/
def q19c0 : Oper := { dst := some 30, op := Go.Op.fieldAddr 25 (Go.Operand.tmp 3) 1, type := 0, pos := "disk.go:44", after := #[], guard := none }
def q19c1 : Oper := { dst := some 31, op := Go.Op.load 23 (Go.Operand.tmp 30), type := 23, pos := "disk.go:44", after := #[{ on := 0, ground := Go.Ground.data }], guard := none }
def q19c2 : Oper := { dst := some 32, op := Go.Op.move (Go.Operand.tmp 1), type := 3, pos := "disk.go:44", after := #[], guard := none }
def q19c3 : Oper := { dst := some 33, op := Go.Op.move (Go.Operand.tmp 2), type := 35, pos := "disk.go:44", after := #[], guard := none }
def q19c4 : Oper := { dst := some 34, op := Go.Op.call { callee := Go.Callee.value (Go.Operand.func 29), args := #[Go.Operand.tmp 33], argTypes := #[35] }, type := 35, pos := "disk.go:44", after := #[{ on := 3, ground := Go.Ground.data }], guard := none }
def q19c5 : Oper := { dst := some 35, op := Go.Op.build 54 #[(0, Go.Operand.tmp 32), (1, Go.Operand.tmp 34)], type := 54, pos := "disk.go:44", after := #[{ on := 2, ground := Go.Ground.data }, { on := 4, ground := Go.Ground.data }], guard := none }
def q19c6 : Oper := { dst := some 36, op := Go.Op.call { callee := Go.Callee.value (Go.Operand.func 33), args := #[Go.Operand.tmp 31, Go.Operand.tmp 35], argTypes := #[23, 54] }, type := 23, pos := "disk.go:44", after := #[{ on := 1, ground := Go.Ground.data }, { on := 5, ground := Go.Ground.data }, { on := 4, ground := Go.Ground.chain }], guard := none }
def q19c7 : Oper := { dst := some 37, op := Go.Op.fieldAddr 25 (Go.Operand.tmp 3) 1, type := 0, pos := "disk.go:44", after := #[{ on := 0, ground := Go.Ground.phase }, { on := 1, ground := Go.Ground.phase }, { on := 2, ground := Go.Ground.phase }, { on := 3, ground := Go.Ground.phase }, { on := 4, ground := Go.Ground.phase }, { on := 5, ground := Go.Ground.phase }, { on := 6, ground := Go.Ground.phase }], guard := none }
def q19c8 : Oper := { dst := none, op := Go.Op.store 23 (Go.Operand.tmp 37) (Go.Operand.tmp 36), type := 0, pos := "disk.go:44", after := #[{ on := 7, ground := Go.Ground.data }, { on := 6, ground := Go.Ground.data }, { on := 6, ground := Go.Ground.chain }, { on := 0, ground := Go.Ground.phase }, { on := 1, ground := Go.Ground.phase }, { on := 2, ground := Go.Ground.phase }, { on := 3, ground := Go.Ground.phase }, { on := 4, ground := Go.Ground.phase }, { on := 5, ground := Go.Ground.phase }, { on := 6, ground := Go.Ground.phase }], guard := none }

set_option maxHeartbeats 2000000 in
theorem write_any (w : World) (d : Dk) (v vb : Value) (n : Int) (b : By) (h : DkAt w w.heap.size v d) (hb : BytesAt w w.heap.size vb b) (hn : In64 n) :
    Calls Try.prog 19 #[v, .int .i64 n, vb] w fun e w' => ∃ u, e = .returned (.tuple #[u, .int .i64 (d.write n b).2]) ∧ DkAt w' w'.heap.size u (d.write n b).1 ∧ Below w.heap.size w w' := by
  have H := Lib.hid h
  obtain ⟨sa, cs0, ap, cp, rfl, _, _, _, _, _, hS, hP⟩ := h.open
  obtain ⟨ab, cb, rfl, hb1, hb2⟩ := bytes_shape hb
  have hruns : ∀ W, Below w.heap.size w W → Calls Try.prog 31 #[.agg #[.slice sa d.sec.length cs0, .slice ap d.pen.length cp, .int .i64 d.left, .bool d.stop]] W fun e w' => e = .returned (.bool d.runs) ∧ Below W.heap.size W w' := fun W hW => runs_any W d _ (H.out.next hW)
  have hhas : ∀ W, Below w.heap.size w W → Calls Try.prog 32 #[.agg #[.slice sa d.sec.length cs0, .slice ap d.pen.length cp, .int .i64 d.left, .bool d.stop], .int .i64 n] W fun e w' => e = .returned (.bool (d.has n)) ∧ Below W.heap.size W w' := fun W hW => has_any W d _ _ n (H.out.next hW)
  have hsec : b.length ≤ 128 → ∀ W, Below w.heap.size w W → Calls Try.prog 29 #[.slice ab b.length cb] W fun e w' => ∃ gi, e = .returned (.slice (some ⟨gi, 0, none⟩) 128 128) ∧ BytesOn w' (fun x => W.heap.size ≤ x) (.slice (some ⟨gi, 0, none⟩) 128 128) (pad b) ∧ Below W.heap.size W w' := fun hl W hW =>
    (sector_any W _ b w.heap.size (hb.below hW) hl hW.size).mono fun e w' ⟨h1, h2, h3⟩ => ⟨_, h1, h2.bytesOn (pad_len hl) (h2.lt (by rw [cells8_len, pad_len hl]; omega)) (Nat.le_refl _) (Nat.le_refl _) (by unfold maxLen; omega), h3⟩
  have hext : d.pen.length ≤ 4096 → ∀ W u P, Below w.heap.size w W → BytesOn W P u (pad b) → Calls Try.prog 33 #[.slice ap d.pen.length cp, .agg #[.int .i64 n, u]] W fun e w' => ∃ g cap cs, e = .returned (.slice (some ⟨g, 0, none⟩) (d.pen.length + 1) cap) ∧ d.pen.length + 1 ≤ cap ∧ cap ≤ maxLen ∧ W.heap.size ≤ g ∧ g < w'.heap.size ∧ Arr w' g cs ∧ penCells w' (fun x => x < w.heap.size ∨ P x) (d.pen ++ [(n, pad b)]) cs ∧ Below W.heap.size W w' := fun hl W u P hW hu =>
    extended_any W _ d.pen n (pad b) u w.heap.size P hW.size (hP.below hW) hl hn hu
  have hfin : ∀ W g cap cs P, Below w.heap.size w W → Arr W g cs → g < W.heap.size → d.pen.length + 1 ≤ cap → cap ≤ maxLen → penCells W P (d.pen ++ [(n, pad b)]) cs → DkAt W W.heap.size (.agg #[.slice sa d.sec.length cs0, .slice (some ⟨g, 0, none⟩) (d.pen.length + 1) cap, .int .i64 d.left, .bool d.stop]) { d with pen := d.pen ++ [(n, pad b)] } := fun W g cap cs P hW hA hg hc hm hp => ⟨H.out.1, _, _, rfl, hS.next hW, hp.at hA hg (by simp) hc hm⟩
  have hlen : d.runs = true → d.pen.length ≤ 4096 := fun h1 => (ok_lens (runs_ok h1).1).2.2.1
  unfold Dk.write
  obtain ⟨r, hr⟩ : ∃ r, d.runs = r := ⟨_, rfl⟩
  obtain ⟨t, ht⟩ : ∃ r, d.has n = r := ⟨_, rfl⟩
  obtain ⟨D, hD⟩ : ∃ D, ({ d with pen := d.pen ++ [(n, pad b)] } : Dk) = D := ⟨_, rfl⟩
  obtain ⟨L, hL⟩ : ∃ L, d.pen ++ [(n, pad b)] = L := ⟨_, rfl⟩
  rw [hr] at hruns hlen
  rw [ht] at hhas
  rw [hD] at hfin
  rw [hL] at hext hfin
  rw [hr, ht, hD]
  obtain ⟨k, hk⟩ : ∃ k, d.sec.length = k := ⟨_, rfl⟩
  obtain ⟨p, hp⟩ : ∃ k, d.pen.length = k := ⟨_, rfl⟩
  obtain ⟨left, hle⟩ : ∃ x, d.left = x := ⟨_, rfl⟩
  obtain ⟨st, hst⟩ : ∃ x, d.stop = x := ⟨_, rfl⟩
  obtain ⟨q, hq⟩ : ∃ q, b.length = q := ⟨_, rfl⟩
  rw [hk, hp, hle, hst] at hruns hhas
  rw [hq] at hsec hb1
  rw [hp] at hext hlen
  rw [hk, hp, hle, hst] at hfin
  rw [hk, hp, hle, hst, hq]
  have HR := Lib.hid hruns
  have HH := Lib.hid hhas
  have HSE := Lib.hid hsec
  have HEX := Lib.hid hext
  have HF := Lib.hid hfin
  have HLEN := Lib.hid hlen
  have HP0 := Lib.hid (fun W => zero_at W W.heap.size)
  unfold maxLen at hb2
  clear h H hb hn hruns hhas hsec hext hfin hr hD hL ht hk hp hle hst hS hP hq hlen
  obtain ⟨w0, hw0⟩ : ∃ w0, w0 = ((w.alloc (.cells #[.slice sa k cs0, .slice ap p cp, .int .i64 left, .bool st] 25)).alloc (.cells #[.slice none 0 0, .slice none 0 0, .int .i64 0, .bool false] 25)) := ⟨_, rfl⟩
  have hz : w0.heap.size = w.heap.size + 1 + 1 := by rw [hw0]; simp
  have hX : Arr w0 w.heap.size [.slice sa k cs0, .slice ap p cp, .int .i64 left, .bool st] := by
    rw [hw0]; exact (Arr.new w #[.slice sa k cs0, .slice ap p cp, .int .i64 left, .bool st] 25).alloc (by simp) _
  have hY : Arr w0 (w.heap.size + 1) [.slice none 0 0, .slice none 0 0, .int .i64 0, .bool false] := by
    rw [hw0]
    have := Arr.new (w.alloc (.cells #[.slice sa k cs0, .slice ap p cp, .int .i64 left, .bool st] 25)) #[.slice none 0 0, .slice none 0 0, .int .i64 0, .bool false] 25
    simpa using this
  have hB0 : Below w.heap.size w w0 := by rw [hw0]; go_grown
  have HW0 := Lib.hid hw0
  have HX := Lib.hid hX
  have HY := Lib.hid hY
  have HB0 := Lib.hid hB0
  have HZ := Lib.hid hz
  clear hX hY hB0 hz hw0
  go_enter Try.func19, Try.ntmps19
  go_wp2_with fail
  rw [← HW0.out]
  refine (HR.out _ HB0.out).mono ?_
  rintro e w1 ⟨rfl, hB1⟩
  have hb1 : Below w.heap.size w w1 := HB0.out.trans (hB1.mono (by rw [HZ.out]; omega))
  have HX1 := Lib.hid (HX.out.below hB1 (by rw [HZ.out]; omega))
  have HY1 := Lib.hid (HY.out.below hB1 (by rw [HZ.out]; omega))
  obtain ⟨e0, e1, e2, e3⟩ := HX1.out.four
  obtain ⟨f0, f1, f2, f3⟩ := HX1.out.free
  have HB1 := Lib.hid hb1
  have hlt1 : w.heap.size + 1 < w1.heap.size := by have := hB1.size; rw [HZ.out] at this; omega
  clear hB1 hb1
  cases r with
  | false =>
    go_wp2_with (refine store_disk rfl (.tmp 6) (.tmp 18) rfl (w.heap.size + 1) _ _ _ _ _ _ _ _ (by rfl) (by rfl) HY1.out rfl ?_; intro W3 hG3 hA3; obtain ⟨y0, y1, y2, y3⟩ := hA3.four)
    have hB3 := below_grow HB1.out hG3 (fun j hj => by cases hj; omega) (by omega)
    refine bodyPost_ret (v := .tuple #[.agg #[.slice none 0 0, .slice none 0 0, .int .i64 0, .bool false], .int .i64 40]) (by simp [results, Try.results19, go_sem, y0, y1, y2, y3]) rfl ⟨_, rfl, HP0.out _, hB3⟩
  | true =>
    have hp4 : p ≤ 4096 := HLEN.out (by simp)
    go_wp2_with fail
    refine (HH.out _ HB1.out).mono ?_
    rintro e w2 ⟨rfl, hB2⟩
    have hb2' : Below w.heap.size w w2 := HB1.out.trans (hB2.mono (by omega))
    have HX2 := Lib.hid (HX1.out.below hB2 (by omega))
    have HY2 := Lib.hid (HY1.out.below hB2 (by omega))
    have HB2 := Lib.hid hb2'
    have hlt2 : w.heap.size + 1 < w2.heap.size := by have := hB2.size; omega
    clear hB2 hb2' e0 e1 e2 e3 f0 f1 f2 f3
    obtain ⟨e0, e1, e2, e3⟩ := HX2.out.four
    obtain ⟨f0, f1, f2, f3⟩ := HX2.out.free
    cases t with
    | false =>
      go_wp2_with (refine store_disk rfl (.tmp 6) (.tmp 18) rfl (w.heap.size + 1) _ _ _ _ _ _ _ _ (by rfl) (by rfl) HY2.out rfl ?_; intro W3 hG3 hA3; obtain ⟨y0, y1, y2, y3⟩ := hA3.four)
      have hB3 := below_grow HB2.out hG3 (fun j hj => by cases hj; omega) (by omega)
      refine bodyPost_ret (v := .tuple #[.agg #[.slice none 0 0, .slice none 0 0, .int .i64 0, .bool false], .int .i64 40]) (by simp [results, Try.results19, go_sem, y0, y1, y2, y3]) rfl ⟨_, rfl, HP0.out _, hB3⟩
    | true =>
      by_cases hq : 128 < q
      · have d1 : decide (128 < (q : Int)) = true := by simp; omega
        go_wp2_with (refine store_disk rfl (.tmp 6) (.tmp 23) rfl (w.heap.size + 1) _ _ _ _ _ _ _ _ (by rfl) (by rfl) HY2.out rfl ?_; intro W3 hG3 hA3; obtain ⟨y0, y1, y2, y3⟩ := hA3.four)
        have hB3 := below_grow HB2.out hG3 (fun j hj => by cases hj; omega) (by omega)
        (try simp only [hq, if_true, Bool.and_self])
        refine bodyPost_ret (v := .tuple #[.agg #[.slice none 0 0, .slice none 0 0, .int .i64 0, .bool false], .int .i64 1]) (by simp [results, Try.results19, go_sem, y0, y1, y2, y3]) rfl ⟨_, rfl, HP0.out _, hB3⟩
      have d1 : decide (128 < (q : Int)) = false := by simp; omega
      by_cases hpe : p = 4096
      · have hpe' : ((p : Int) == 4096) = true := by simp; omega
        simp only [hpe]
        have HPE := Lib.hid hpe
        clear hpe
        go_wp2_with (refine store_disk rfl (.tmp 6) (.tmp 29) rfl (w.heap.size + 1) _ _ _ _ _ _ _ _ (by rfl) (by rfl) HY2.out rfl ?_; intro W3 hG3 hA3; obtain ⟨y0, y1, y2, y3⟩ := hA3.four)
        have hB3 := below_grow HB2.out hG3 (fun j hj => by cases hj; omega) (by omega)
        refine bodyPost_ret (v := .tuple #[.agg #[.slice none 0 0, .slice none 0 0, .int .i64 0, .bool false], .int .i64 2]) (by simp [results, Try.results19, go_sem, y0, y1, y2, y3]) rfl ⟨_, rfl, HP0.out _, hB3⟩
      have hpe' : ((p : Int) == 4096) = false := by simp; omega
      simp only
      have hc1 : ∀ W, Kept w2 W → Calls Try.prog 29 #[.slice ab q cb] W fun e w' => ∃ gi, e = .returned (.slice (some ⟨gi, 0, none⟩) 128 128) ∧ BytesOn w' (fun x => w2.heap.size ≤ x) (.slice (some ⟨gi, 0, none⟩) 128 128) (pad b) ∧ Kept w2 w' := fun W hW =>
        (HSE.out (by omega) W (HB2.out.trans (hW.below.mono (by omega)))).mono fun e w' ⟨gi, h1, h2, h3⟩ => ⟨gi, h1, h2.keep (fun _ _ _ => rfl) (fun x hx _ => Nat.le_trans hW.below.size hx) (Nat.le_refl _), hW.next h3⟩
      have hc2 : ∀ W u, Kept w2 W → BytesOn W (fun x => w2.heap.size ≤ x) u (pad b) → Calls Try.prog 33 #[.slice ap p cp, .agg #[.int .i64 n, u]] W fun e w' => ∃ g cap cs, e = .returned (.slice (some ⟨g, 0, none⟩) (p + 1) cap) ∧ (p + 1 ≤ cap ∧ cap ≤ maxLen ∧ w2.heap.size ≤ g ∧ g < w'.heap.size ∧ Arr w' g cs ∧ penCells w' (fun x => x < w.heap.size ∨ w2.heap.size ≤ x) L cs) ∧ Kept w2 w' := fun W u hW hu =>
        (HEX.out hp4 W u _ (HB2.out.trans (hW.below.mono (by omega))) hu).mono fun e w' ⟨g, cap, cs, h1, h2, h3, h4, h5, h6, h7, h8⟩ => ⟨g, cap, cs, h1, ⟨h2, h3, Nat.le_trans hW.below.size h4, h5, h6, h7⟩, hW.next h8⟩
      have k1 : ∀ W, Kept w2 W → W.cell? ⟨w.heap.size, 1, none⟩ = some (.slice ap p cp) := fun W hW => (hW.cell (by omega)).trans HX2.out.four.2.1
      have k2 : ∀ W, Kept w2 W → W.frozen? ⟨w.heap.size, 1, none⟩ = false := fun W hW => (hW.frozen (by omega)).trans HX2.out.free.2.1
      have hs1 : ∀ W, Kept w2 W → Below w.heap.size w W := fun W hW => HB2.out.trans (hW.below.mono (by omega))
      have hs2 : ∀ W u, Kept w2 W → Below w.heap.size w (W.setCell ⟨w.heap.size, 1, none⟩ u) := fun W u hW => (hs1 W hW).setCell (p := ⟨w.heap.size, 1, none⟩) (Nat.le_refl _) _
      have HC1 := Lib.hid hc1
      have HC2 := Lib.hid hc2
      have HS1 := Lib.hid hs1
      have HS2 := Lib.hid hs2
      have hpn : (p == 4096) = false := by simpa using hpe
      clear hc1 hc2 hs1 hs2
      go_wp2
      refine wp_region_held_drew (S := fun W => Below w.heap.size w W) (by kernel_rfl) (HS1.out _ (Kept.drew (Kept.refl _))) (fun hHeld => ?_)
      refine wpAnyH_take (i := 0) (oi := q19c0) (v := ?_) rfl (by kernel_rfl) (by kernel_rfl) (by kernel_rfl) (fun _ _ _ h => h) (Or.inl ⟨by rfl, ?_⟩) hHeld ?_
      rotate_left
      · (intro w hSw; (try dsimp only at hSw); unfold q19c0; go_simp <;> with_reducible rfl)
      try simp only [q19c0, Act.put, List.setIfInBounds_toArray, List.set_cons_zero, List.set_cons_succ]
      refine wpAnyH_take (i := 2) (oi := q19c2) (v := ?_) rfl (by kernel_rfl) (by kernel_rfl) (by kernel_rfl) (fun _ _ _ h => h) (Or.inl ⟨by rfl, ?_⟩) hHeld ?_
      rotate_left
      · (intro w hSw; (try dsimp only at hSw); unfold q19c2; go_simp <;> with_reducible rfl)
      try simp only [q19c2, Act.put, List.setIfInBounds_toArray, List.set_cons_zero, List.set_cons_succ]
      refine wpAnyH_take (i := 3) (oi := q19c3) (v := ?_) rfl (by kernel_rfl) (by kernel_rfl) (by kernel_rfl) (fun _ _ _ h => h) (Or.inl ⟨by rfl, ?_⟩) hHeld ?_
      rotate_left
      · (intro w hSw; (try dsimp only at hSw); unfold q19c3; go_simp <;> with_reducible rfl)
      try simp only [q19c3, Act.put, List.setIfInBounds_toArray, List.set_cons_zero, List.set_cons_succ]
      refine wpAnyH_ready (rs := [1, 4]) (by kernel_rfl) (by simp) ?_
      refine AllReadyH.cons (o := q19c1) rfl (fun K hK => ?_) (AllReadyH.cons (o := q19c4) rfl (fun K hK => ?_) AllReadyH.nil)
      · skip
        rw [if_pos (by rfl)]
        unfold q19c1
        go_simp
        refine hK.out _ _ hHeld (fun hHeld => ?_)
        clear hK K
        try simp only [q19c1, Act.put, List.setIfInBounds_toArray, List.set_cons_zero, List.set_cons_succ]
        refine wpAnyH_ready (rs := [4]) (by kernel_rfl) (by simp) ?_
        refine AllReadyH.cons (o := q19c4) rfl (fun K hK => ?_) AllReadyH.nil
        rw [if_pos (by rfl)]
        unfold q19c4
        go_simp
        (with_reducible refine (HC1.out _ (Kept.drew (Kept.refl _))).mono ?_)
        rintro e w' ⟨gi, rfl, hbi, hKa⟩
        go_wp2_with fail
        refine hK.out _ _ (HS1.out _ hKa) (fun hHeld => ?_)
        clear hK K
        try simp only [q19c4, Act.put, List.setIfInBounds_toArray, List.set_cons_zero, List.set_cons_succ]
        refine wpAnyH_take (i := 5) (oi := q19c5) (v := ?_) rfl (by kernel_rfl) (by kernel_rfl) (by kernel_rfl) (fun _ _ _ h => h) (Or.inl ⟨by rfl, ?_⟩) hHeld ?_
        rotate_left
        · (intro w hSw; (try dsimp only at hSw); unfold q19c5; go_simp <;> with_reducible rfl)
        try simp only [q19c5, Act.put, List.setIfInBounds_toArray, List.set_cons_zero, List.set_cons_succ]
        refine wpAnyH_ready (rs := [6]) (by kernel_rfl) (by simp) ?_
        refine AllReadyH.cons (o := q19c6) rfl (fun K hK => ?_) AllReadyH.nil
        rw [if_pos (by rfl)]
        unfold q19c6
        go_simp
        (with_reducible refine (HC2.out _ _ (by assumption) (by assumption)).mono ?_)
        rintro e w'' ⟨g5, pc, cs5, rfl, hpi, hK2⟩
        go_wp2_with fail
        refine hK.out _ _ (HS1.out _ hK2) (fun hHeld => ?_)
        clear hK K
        try simp only [q19c6, Act.put, List.setIfInBounds_toArray, List.set_cons_zero, List.set_cons_succ]
        refine wpAnyH_take (i := 7) (oi := q19c7) (v := ?_) rfl (by kernel_rfl) (by kernel_rfl) (by kernel_rfl) (fun _ _ _ h => h) (Or.inl ⟨by rfl, ?_⟩) hHeld ?_
        rotate_left
        · (intro w hSw; (try dsimp only at hSw); unfold q19c7; go_simp <;> with_reducible rfl)
        try simp only [q19c7, Act.put, List.setIfInBounds_toArray, List.set_cons_zero, List.set_cons_succ]
        refine wpAnyH_ready (rs := [8]) (by kernel_rfl) (by simp) ?_
        refine AllReadyH.cons (o := q19c8) rfl (fun K hK => ?_) AllReadyH.nil
        rw [if_pos (by rfl)]
        unfold q19c8
        go_simp
        refine hK.out _ _ (HS2.out _ _ hK2) (fun hHeld => ?_)
        clear hK K
        try simp only [q19c8, Act.put]
        refine wpAnyH_done (by kernel_rfl) ?_ _
        clear hHeld
        have hX3 : Arr (w''.setCell ⟨w.heap.size, 1, none⟩ (.slice (some ⟨g5, 0, none⟩) (p + 1) pc)) w.heap.size [.slice sa k cs0, .slice (some ⟨g5, 0, none⟩) (p + 1) pc, .int .i64 left, .bool st] := (HX2.out.below hK2.below (by omega)).set 1 (.slice (some ⟨g5, 0, none⟩) (p + 1) pc)
        have hY3 := (HY2.out.below hK2.below (by omega)).other (b' := w.heap.size) (by omega) 1 (.slice (some ⟨g5, 0, none⟩) (p + 1) pc)
        have hB3 := HS2.out _ (.slice (some ⟨g5, 0, none⟩) (p + 1) pc) hK2
        have hz3 := hK2.below.size
        have hG3 := grown_setCell (W := w'') (b := w.heap.size) 1 (.slice (some ⟨g5, 0, none⟩) (p + 1) pc)
        have HY3 := Lib.hid hY3
        have HB3 := Lib.hid hB3
        have HPI := Lib.hid hpi
        have HG3 := Lib.hid hG3
        obtain ⟨e0, e1, e2, e3⟩ := hX3.four
        clear hX3 hY3 hB3 hpi hG3 hbi hKa hK2 k1 k2
        go_wp2_with (refine store_disk rfl (.tmp 6) (.tmp 38) rfl (w.heap.size + 1) _ _ _ _ _ _ _ _ (by rfl) (by rfl) HY3.out rfl ?_; intro W4 hG4 hA4; obtain ⟨y0, y1, y2, y3⟩ := hA4.four)
        obtain ⟨q1, q2, q3, q4, q5, q6⟩ := HPI.out
        have hB4 := below_grow HB3.out hG4 (fun j hj => by cases hj; omega) (by simp; omega)
        have hkeep : ∀ x, x < w.heap.size ∨ w2.heap.size ≤ x → x < w''.heap.size → W4.heap[x]? = w''.heap[x]? := fun x hx hl =>
          (hG4.block x (by simpa using hl) (by simp; omega)).trans (HG3.out.block x hl (by simp; omega))
        have hzz : w''.heap.size ≤ W4.heap.size := Nat.le_trans HG3.out.size hG4.size
        have hA5 : Arr W4 g5 cs5 := (q5.moved HG3.out q4 (by simp; omega)).moved hG4 (by simpa using q4) (by simp; omega)
        refine bodyPost_ret (v := .tuple #[.agg #[.slice sa k cs0, .slice (some ⟨g5, 0, none⟩) (p + 1) pc, .int .i64 left, .bool st], .int .i64 0]) (by simp [results, Try.results19, go_sem, y0, y1, y2, y3]) rfl ⟨_, rfl, HF.out W4 g5 pc cs5 _ hB4 hA5 (by omega) q1 q2 (q6.keep hkeep (fun x hx _ => hx) hzz), hB4⟩
      · skip
        rw [if_pos (by rfl)]
        unfold q19c4
        go_simp
        (with_reducible refine (HC1.out _ (Kept.drew (Kept.refl _))).mono ?_)
        rintro e w' ⟨gi, rfl, hbi, hKa⟩
        go_wp2_with fail
        refine hK.out _ _ (HS1.out _ hKa) (fun hHeld => ?_)
        clear hK K
        try simp only [q19c4, Act.put, List.setIfInBounds_toArray, List.set_cons_zero, List.set_cons_succ]
        refine wpAnyH_take (i := 5) (oi := q19c5) (v := ?_) rfl (by kernel_rfl) (by kernel_rfl) (by kernel_rfl) (fun _ _ _ h => h) (Or.inl ⟨by rfl, ?_⟩) hHeld ?_
        rotate_left
        · (intro w hSw; (try dsimp only at hSw); unfold q19c5; go_simp <;> with_reducible rfl)
        try simp only [q19c5, Act.put, List.setIfInBounds_toArray, List.set_cons_zero, List.set_cons_succ]
        refine wpAnyH_ready (rs := [1]) (by kernel_rfl) (by simp) ?_
        refine AllReadyH.cons (o := q19c1) rfl (fun K hK => ?_) AllReadyH.nil
        rw [if_pos (by rfl)]
        unfold q19c1
        go_simp
        refine hK.out _ _ hHeld (fun hHeld => ?_)
        clear hK K
        try simp only [q19c1, Act.put, List.setIfInBounds_toArray, List.set_cons_zero, List.set_cons_succ]
        refine wpAnyH_ready (rs := [6]) (by kernel_rfl) (by simp) ?_
        refine AllReadyH.cons (o := q19c6) rfl (fun K hK => ?_) AllReadyH.nil
        rw [if_pos (by rfl)]
        unfold q19c6
        go_simp
        (with_reducible refine (HC2.out _ _ (by assumption) (by assumption)).mono ?_)
        rintro e w'' ⟨g5, pc, cs5, rfl, hpi, hK2⟩
        go_wp2_with fail
        refine hK.out _ _ (HS1.out _ hK2) (fun hHeld => ?_)
        clear hK K
        try simp only [q19c6, Act.put, List.setIfInBounds_toArray, List.set_cons_zero, List.set_cons_succ]
        refine wpAnyH_take (i := 7) (oi := q19c7) (v := ?_) rfl (by kernel_rfl) (by kernel_rfl) (by kernel_rfl) (fun _ _ _ h => h) (Or.inl ⟨by rfl, ?_⟩) hHeld ?_
        rotate_left
        · (intro w hSw; (try dsimp only at hSw); unfold q19c7; go_simp <;> with_reducible rfl)
        try simp only [q19c7, Act.put, List.setIfInBounds_toArray, List.set_cons_zero, List.set_cons_succ]
        refine wpAnyH_ready (rs := [8]) (by kernel_rfl) (by simp) ?_
        refine AllReadyH.cons (o := q19c8) rfl (fun K hK => ?_) AllReadyH.nil
        rw [if_pos (by rfl)]
        unfold q19c8
        go_simp
        refine hK.out _ _ (HS2.out _ _ hK2) (fun hHeld => ?_)
        clear hK K
        try simp only [q19c8, Act.put]
        refine wpAnyH_done (by kernel_rfl) ?_ _
        clear hHeld
        have hX3 : Arr (w''.setCell ⟨w.heap.size, 1, none⟩ (.slice (some ⟨g5, 0, none⟩) (p + 1) pc)) w.heap.size [.slice sa k cs0, .slice (some ⟨g5, 0, none⟩) (p + 1) pc, .int .i64 left, .bool st] := (HX2.out.below hK2.below (by omega)).set 1 (.slice (some ⟨g5, 0, none⟩) (p + 1) pc)
        have hY3 := (HY2.out.below hK2.below (by omega)).other (b' := w.heap.size) (by omega) 1 (.slice (some ⟨g5, 0, none⟩) (p + 1) pc)
        have hB3 := HS2.out _ (.slice (some ⟨g5, 0, none⟩) (p + 1) pc) hK2
        have hz3 := hK2.below.size
        have hG3 := grown_setCell (W := w'') (b := w.heap.size) 1 (.slice (some ⟨g5, 0, none⟩) (p + 1) pc)
        have HY3 := Lib.hid hY3
        have HB3 := Lib.hid hB3
        have HPI := Lib.hid hpi
        have HG3 := Lib.hid hG3
        obtain ⟨e0, e1, e2, e3⟩ := hX3.four
        clear hX3 hY3 hB3 hpi hG3 hbi hKa hK2 k1 k2
        go_wp2_with (refine store_disk rfl (.tmp 6) (.tmp 38) rfl (w.heap.size + 1) _ _ _ _ _ _ _ _ (by rfl) (by rfl) HY3.out rfl ?_; intro W4 hG4 hA4; obtain ⟨y0, y1, y2, y3⟩ := hA4.four)
        obtain ⟨q1, q2, q3, q4, q5, q6⟩ := HPI.out
        have hB4 := below_grow HB3.out hG4 (fun j hj => by cases hj; omega) (by simp; omega)
        have hkeep : ∀ x, x < w.heap.size ∨ w2.heap.size ≤ x → x < w''.heap.size → W4.heap[x]? = w''.heap[x]? := fun x hx hl =>
          (hG4.block x (by simpa using hl) (by simp; omega)).trans (HG3.out.block x hl (by simp; omega))
        have hzz : w''.heap.size ≤ W4.heap.size := Nat.le_trans HG3.out.size hG4.size
        have hA5 : Arr W4 g5 cs5 := (q5.moved HG3.out q4 (by simp; omega)).moved hG4 (by simpa using q4) (by simp; omega)
        refine bodyPost_ret (v := .tuple #[.agg #[.slice sa k cs0, .slice (some ⟨g5, 0, none⟩) (p + 1) pc, .int .i64 left, .bool st], .int .i64 0]) (by simp [results, Try.results19, go_sem, y0, y1, y2, y3]) rfl ⟨_, rfl, HF.out W4 g5 pc cs5 _ hB4 hA5 (by omega) q1 q2 (q6.keep hkeep (fun x hx _ => hx) hzz), hB4⟩
end Go.Proofs.Ytmklchjgiaomkaa
