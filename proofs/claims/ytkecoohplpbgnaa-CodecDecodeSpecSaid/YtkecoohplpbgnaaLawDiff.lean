/- For every two values CodecDifferent answers true and leaves its arguments as they were. No condition but the row's own. -/
import Derived.Test.YtkecoohplpbgnaaLawSame
import Derived.Test.YtkecoohplpbgnaaPure
import Derived.Deep.QuietTactic
import Derived.BigQuiet
namespace Go.Proofs.Ytkecoohplpbgnaa
open Go.RowKit Go.ChangeShapes Go.WideShapes Go.ChangeAt

theorem Spare.conv_take {w : World} {g n cap : Nat} {l : List UInt8} (h : Spare w g n cap l) (m : Nat) (hm : m ≤ n) : (convert 27 9 (.slice (some ⟨g, 0, none⟩) m cap)).run Try.prog w = .ok (.string ⟨(l.take m).toArray⟩) w := by
  have hlen := h.len
  have hs : Spare w g m cap (l.take m) := Spare.pre (k := n - m) (l2 := l.drop m) (by rw [List.take_append_drop, show m + (n - m) = n by omega]; exact h) (by rw [List.length_take]; omega)
  exact hs.conv (by rw [List.length_take]; omega)

theorem below_drewN {B : Nat} {a w : World} (h : Below B a w) (q : Nat) : Below B a (w.drewN q) := ⟨h.os, h.tape, h.output, h.size, h.block⟩
theorem Spare.drewN {w : World} {g n cap : Nat} {l : List UInt8} (h : Spare w g n cap l) (q : Nat) : Spare (w.drewN q) g n cap l := h
theorem Spare.cap {w : World} {g n cap : Nat} {l : List UInt8} (h : Spare w g n cap l) : n ≤ cap ∧ cap ≤ maxLen := by
  rcases h.2 with ⟨h0, _⟩ | ⟨g', cap', cur, hv, _, _, hn, hm, _, _⟩
  · cases h0
  · cases hv; exact ⟨hn, hm⟩

/-- What few gives. -/
theorem few_bound {w : World} {B : Nat} {x : V} {v : Value} (h : V.At w B x v) (hf : x.few = true) : x.enc.length ≤ 44000 ∧ x.dep ≤ 21 ∧ x.fits := by
  have hfit := V.At.fits x v h
  unfold V.few at hf
  obtain ⟨h1, h2⟩ := V.few_enc x 20 hfit (of_decide_eq_true hf)
  have h3 := of_decide_eq_true hf
  exact ⟨by omega, by omega, hfit⟩

set_option maxRecDepth 100000 in
set_option maxHeartbeats 2000000 in
theorem lawDiff (x y : V) (v v' : Value) (w : World) (hx : V.At w w.heap.size x v) (hy : V.At w w.heap.size y v') :
    Calls Try.prog 7 #[v, v'] w fun e w' => e = .returned (.bool true) ∧ Below w.heap.size w w' := by
  have HX := Lib.hid hx
  have HY := Lib.hid hy
  obtain ⟨k, n, s, a, len, cap, rfl⟩ := at_shape hx
  obtain ⟨k', n', s', a', len', cap', rfl⟩ := at_shape hy
  clear hx hy
  obtain ⟨w1, hw1⟩ : ∃ w1, w1 = (w.alloc (Obj.cells #[.int .i64 k, .int .i64 n, .string s, .slice a len cap] 24)).alloc (Obj.cells #[.int .i64 k', .int .i64 n', .string s', .slice a' len' cap'] 24) := ⟨_, rfl⟩
  have hz1 : w1.heap.size = w.heap.size + 2 := by rw [hw1]; simp
  have hB1 : Below w.heap.size w w1 := by rw [hw1]; go_grown
  have hcell : ∀ W, Kept w1 W → ∀ k i u, k < w1.heap.size → w1.cell? ⟨k, i, none⟩ = some u → W.cell? ⟨k, i, none⟩ = some u := fun W hW k i u hk hu => (hW.below.cell (p := ⟨k, i, none⟩) hk).trans hu
  have p0 : ∀ W, Kept w1 W → W.cell? ⟨w.heap.size, 0, none⟩ = some (.int .i64 k) := fun W hW => hcell W hW _ _ _ (by omega) (by rw [hw1]; go_cell)
  have p1 : ∀ W, Kept w1 W → W.cell? ⟨w.heap.size, 1, none⟩ = some (.int .i64 n) := fun W hW => hcell W hW _ _ _ (by omega) (by rw [hw1]; go_cell)
  have p2 : ∀ W, Kept w1 W → W.cell? ⟨w.heap.size, 2, none⟩ = some (.string s) := fun W hW => hcell W hW _ _ _ (by omega) (by rw [hw1]; go_cell)
  have p3 : ∀ W, Kept w1 W → W.cell? ⟨w.heap.size, 3, none⟩ = some (.slice a len cap) := fun W hW => hcell W hW _ _ _ (by omega) (by rw [hw1]; go_cell)
  have q0 : ∀ W, Kept w1 W → W.cell? ⟨w.heap.size + 1, 0, none⟩ = some (.int .i64 k') := fun W hW => hcell W hW _ _ _ (by omega) (by rw [hw1]; go_cell)
  have q1 : ∀ W, Kept w1 W → W.cell? ⟨w.heap.size + 1, 1, none⟩ = some (.int .i64 n') := fun W hW => hcell W hW _ _ _ (by omega) (by rw [hw1]; go_cell)
  have q2 : ∀ W, Kept w1 W → W.cell? ⟨w.heap.size + 1, 2, none⟩ = some (.string s') := fun W hW => hcell W hW _ _ _ (by omega) (by rw [hw1]; go_cell)
  have q3 : ∀ W, Kept w1 W → W.cell? ⟨w.heap.size + 1, 3, none⟩ = some (.slice a' len' cap') := fun W hW => hcell W hW _ _ _ (by omega) (by rw [hw1]; go_cell)
  have hkw : ∀ W, Kept w1 W → Below w.heap.size w W := fun W hW => hB1.trans (hW.below.mono (by omega))
  have hxW : ∀ W, Kept w1 W → V.At W W.heap.size x (.agg #[.int .i64 k, .int .i64 n, .string s, .slice a len cap]) := fun W hW => V.At.mono (hkw W hW).size _ _ (V.At.below (hkw W hW) _ _ HX.out)
  have hyW : ∀ W, Kept w1 W → V.At W W.heap.size y (.agg #[.int .i64 k', .int .i64 n', .string s', .slice a' len' cap']) := fun W hW => V.At.mono (hkw W hW).size _ _ (V.At.below (hkw W hW) _ _ HY.out)
  have hc1 : ∀ W, Kept w1 W → Calls Try.prog 21 #[.agg #[.int .i64 k, .int .i64 n, .string s, .slice a len cap], .agg #[.int .i64 k', .int .i64 n', .string s', .slice a' len' cap']] W fun e w' => e = .returned (.bool (x.same y)) ∧ Kept w1 w' ∧ Below W.heap.size W w' :=
    fun W hW => (cSame _ x (Nat.le_refl _) y W W.heap.size _ _ (Nat.le_refl _) (hxW W hW) (hyW W hW)).mono fun e w' h => ⟨h.1, hW.next h.2, h.2⟩
  have hcs : ∀ W, Kept w1 W → Calls Try.prog 10 #[] W fun e w' => e = .returned (.bool true) ∧ Kept w1 w' := fun W hW => (sane_any W).mono fun e w' h => ⟨h.1, hW.next h.2⟩
  have hcf : ∀ W, Kept w1 W → Calls Try.prog 11 #[.slice (some ⟨W.heap.size, 0, none⟩) 2 2] (W.alloc (Obj.cells #[.int .i64 k, .int .i64 n, .string s, .slice a len cap, .int .i64 k', .int .i64 n', .string s', .slice a' len' cap'] 24)) fun e w' => e = .returned (.bool ([x, y].all V.few)) ∧ Kept w1 w' := fun W hW => by
    have h2 := two_at (hxW W hW) (hyW W hW) (Nat.le_refl _)
    have := fews_any [x, y] (some ⟨W.heap.size, 0, none⟩) 2 (W.alloc (Obj.cells #[.int .i64 k, .int .i64 n, .string s, .slice a len cap, .int .i64 k', .int .i64 n', .string s', .slice a' len' cap'] 24)) (by simp) (by unfold maxLen; omega) (.inr ⟨_, _, rfl, by simp, by rw [World.size_alloc]; exact h2⟩)
    exact this.mono fun e w' h => ⟨h.1, Kept.next (hW.alloc _) h.2⟩
  have hex : x.few = true → x.chk = 0 → ∀ W, Kept w1 W → Calls Try.prog 12 #[.agg #[.int .i64 k, .int .i64 n, .string s, .slice a len cap]] W (EncPost W x.enc) := fun hf hk W hW => by
    obtain ⟨b1, b2, _⟩ := few_bound HX.out hf
    exact encode_ok x W W.heap.size _ (by omega) (Nat.le_refl _) (hxW W hW) hk (by omega)
  have hey : y.few = true → y.chk = 0 → ∀ W, Kept w1 W → Calls Try.prog 12 #[.agg #[.int .i64 k', .int .i64 n', .string s', .slice a' len' cap']] W (EncPost W y.enc) := fun hf hk W hW => by
    obtain ⟨b1, b2, _⟩ := few_bound HY.out hf
    exact encode_ok y W W.heap.size _ (by omega) (Nat.le_refl _) (hyW W hW) hk (by omega)
  have hbx : x.few = true → x.chk ≠ 0 → ∀ W, Kept w1 W → Calls Try.prog 12 #[.agg #[.int .i64 k, .int .i64 n, .string s, .slice a len cap]] W fun e w' => e = .returned (.tuple #[.slice none 0 0, .int .i64 x.chk]) ∧ Kept w1 w' := fun hf hk W hW => by
    obtain ⟨b1, b2, _⟩ := few_bound HX.out hf
    exact (encode_bad x W W.heap.size _ (by omega) (Nat.le_refl _) (hxW W hW) hk).mono fun e w' h => ⟨h.1, hW.next h.2⟩
  have hby : y.few = true → y.chk ≠ 0 → ∀ W, Kept w1 W → Calls Try.prog 12 #[.agg #[.int .i64 k', .int .i64 n', .string s', .slice a' len' cap']] W fun e w' => e = .returned (.tuple #[.slice none 0 0, .int .i64 y.chk]) ∧ Kept w1 w' := fun hf hk W hW => by
    obtain ⟨b1, b2, _⟩ := few_bound HY.out hf
    exact (encode_bad y W W.heap.size _ (by omega) (Nat.le_refl _) (hyW W hW) hk).mono fun e w' h => ⟨h.1, hW.next h.2⟩
  obtain ⟨t, ht⟩ : ∃ t, [x, y].all V.few = t := ⟨_, rfl⟩
  rw [ht] at hcf
  have HT := Lib.hid ht
  have HW := Lib.hid hw1
  have H1 := Lib.hid hc1
  have HS := Lib.hid hcs
  have HF := Lib.hid hcf
  have HK := Lib.hid hkw
  have HEX := Lib.hid hex
  have HEY := Lib.hid hey
  have HBX := Lib.hid hbx
  have HBY := Lib.hid hby
  clear hc1 hcs hcf hcell hkw hxW hyW hw1 ht hex hey hbx hby
  go_enter Try.func7, Try.ntmps7
  go_wp2_with fail
  rw [← HW.out]
  refine (HS.out _ (Kept.refl _)).mono ?_
  rintro e w2 ⟨rfl, hK2⟩
  go_wp2_with fail
  refine (HF.out _ hK2).mono ?_
  rintro e w3 ⟨rfl, hK3⟩
  clear hK2
  cases t
  · go_wp2
    go_ret
    exact ⟨rfl, HK.out _ hK3⟩
  have hfew := HT.out
  simp only [List.all_cons, List.all_nil, Bool.and_true, Bool.and_eq_true] at hfew
  have hfx : Hid (x.few = true) := hfew.1
  have hfy : Hid (y.few = true) := hfew.2
  clear hfew
  by_cases cx : x.chk = 0
  · have hcx : Hid (x.chk = 0) := cx
    clear cx
    go_wp2_with fail
    refine (HEX.out hfx.out hcx.out _ hK3).mono ?_
    rintro e w4 ⟨v4, rfl, g1, cap1, rfl, hg1, hs1, hb4⟩
    have hK4 : Kept w1 w4 := hK3.next hb4
    by_cases cy : y.chk = 0
    · have hcy : Hid (y.chk = 0) := cy
      clear cy
      go_wp2_with fail
      refine (HEY.out hfy.out hcy.out _ hK4).mono ?_
      rintro e w5 ⟨v5, rfl, g2, cap2, rfl, hg2, hs2, hb5⟩
      have hK5 : Kept w1 w5 := hK4.next hb5
      have HS1 := Lib.hid (hs1.below hb5)
      have HS2 := Lib.hid hs2
      clear hs1 hs2 hg1 hg2 hb4 hb5 hK3 hK4
      go_wp2_with fail
      refine (H1.out _ hK5).mono ?_
      rintro e w6 ⟨rfl, hK6, hb6⟩
      have HS16 := Lib.hid (HS1.out.below hb6)
      have HS26 := Lib.hid (HS2.out.below hb6)
      clear hb6 HS1 HS2 hK5
      obtain ⟨r, hr⟩ : ∃ r, x.same y = r := ⟨_, rfl⟩
      rw [hr]
      have HRR := Lib.hid hr
      clear hr
      cases r
      · have hne : x ≠ y := fun e => by have := HRR.out; rw [e, V.same_refl] at this; cases this
        have hp1 : ∀ m, m ≤ x.enc.length → m ≤ y.enc.length → (m = x.enc.length ∨ m = y.enc.length) → ¬ x.enc.take m = y.enc.take m := by
          intro m h1 h2 h3 h4
          obtain ⟨_, _, f1⟩ := few_bound HX.out hfx.out
          obtain ⟨_, _, f2⟩ := few_bound HY.out hfy.out
          apply hne
          rcases h3 with h3 | h3
          · refine enc_prefix f1 f2 hcx.out hcy.out (y.enc.drop m) [] ?_
            rw [List.take_of_length_le (by omega)] at h4
            rw [h4, List.take_append_drop, List.append_nil]
          · refine enc_prefix f1 f2 hcx.out hcy.out [] (x.enc.drop m) ?_
            rw [List.take_of_length_le (l := y.enc) (by omega)] at h4
            rw [← h4, List.take_append_drop, List.append_nil]
        obtain ⟨k1, k2⟩ := HS16.out.cap
        obtain ⟨k3, k4⟩ := HS26.out.cap
        unfold maxLen at k2 k4
        have hcv1 : ∀ m, m ≤ x.enc.length → ∀ nq, (convert 27 9 (.slice (some ⟨g1, 0, none⟩) m cap1)).run Try.prog (w6.drewN nq) = .ok (.string ⟨(x.enc.take m).toArray⟩) (w6.drewN nq) := fun m hm nq => (HS16.out.drewN nq).conv_take m hm
        have hcv2 : ∀ m, m ≤ y.enc.length → ∀ nq, (convert 27 9 (.slice (some ⟨g2, 0, none⟩) m cap2)).run Try.prog (w6.drewN nq) = .ok (.string ⟨(y.enc.take m).toArray⟩) (w6.drewN nq) := fun m hm nq => (HS26.out.drewN nq).conv_take m hm
        obtain ⟨E1, hE1⟩ : ∃ E1, x.enc = E1 := ⟨_, rfl⟩
        obtain ⟨E2, hE2⟩ : ∃ E2, y.enc = E2 := ⟨_, rfl⟩
        rw [hE1] at hp1 hcv1 k1
        rw [hE2] at hp1 hcv2 k3
        rw [hE1, hE2]
        obtain ⟨l1, hl1⟩ : ∃ l1, E1.length = l1 := ⟨_, rfl⟩
        obtain ⟨l2, hl2⟩ : ∃ l2, E2.length = l2 := ⟨_, rfl⟩
        rw [hl1] at hp1 hcv1 k1 ⊢
        rw [hl2] at hp1 hcv2 k3 ⊢
        have HKF := Lib.hid (HK.out _ hK6)
        clear hE1 hE2 hl1 hl2 hne hK6 HS16 HS26
        obtain ⟨M, hM⟩ : ∃ M, min l1 l2 = M := ⟨_, rfl⟩
        have hM1 : M ≤ l1 := by omega
        have hM2 : M ≤ l2 := by omega
        have hmn : min (l1 : Int) (l2 : Int) = (M : Int) := by omega
        have hcvA := hcv1 M hM1
        have hcvB := hcv2 M hM2
        have hnn := hp1 M hM1 hM2 (by omega)
        obtain ⟨S1, hS1⟩ : ∃ S1 : ByteArray, (⟨(E1.take M).toArray⟩ : ByteArray) = S1 := ⟨_, rfl⟩
        obtain ⟨S2, hS2⟩ : ∃ S2 : ByteArray, (⟨(E2.take M).toArray⟩ : ByteArray) = S2 := ⟨_, rfl⟩
        have hss : ¬ S1.toList = S2.toList := by rw [← hS1, ← hS2, ByteArray.toList_mk, ByteArray.toList_mk]; exact hnn
        rw [hS1] at hcvA
        rw [hS2] at hcvB
        have b1 : (0 : Int) ≤ (M : Int) := by omega
        have b2 : (M : Int) ≤ (cap1 : Int) := by omega
        have b3 : (M : Int) ≤ (cap2 : Int) := by omega
        clear hcv1 hcv2 hp1 hnn hS1 hS2 hM
        go_wp2_with fail
        go_quiet (fail)
        go_wp2
        go_ret
        exact ⟨by simp [hss], below_drewN HKF.out _⟩
      · have he : x = y := V.same_eq x y HRR.out
        have hcv1 : (convert 27 9 (.slice (some ⟨g1, 0, none⟩) x.enc.length cap1)).run Try.prog w6 = .ok (.string ⟨x.enc.toArray⟩) w6 := HS16.out.conv rfl
        have hcv2 : (convert 27 9 (.slice (some ⟨g2, 0, none⟩) y.enc.length cap2)).run Try.prog w6 = .ok (.string ⟨x.enc.toArray⟩) w6 := by rw [he]; exact HS26.out.conv rfl
        have HKF := Lib.hid (HK.out _ hK6)
        obtain ⟨S, hS⟩ : ∃ S : ByteArray, (⟨x.enc.toArray⟩ : ByteArray) = S := ⟨_, rfl⟩
        rw [hS] at hcv1 hcv2
        clear he hK6 hS
        go_wp2
        go_ret
        exact ⟨by simp, HKF.out⟩
    · have hcy : (y.chk != 0) = true := by simpa using cy
      have CY := Lib.hid cy
      clear cy
      go_wp2_with fail
      refine (HBY.out hfy.out CY.out _ hK4).mono ?_
      rintro e w5 ⟨rfl, hK5⟩
      go_wp2
      go_ret
      exact ⟨rfl, HK.out _ hK5⟩
  · have hcx : (x.chk != 0) = true := by simpa using cx
    have CX := Lib.hid cx
    clear cx
    go_wp2_with fail
    refine (HBX.out hfx.out CX.out _ hK3).mono ?_
    rintro e w4 ⟨rfl, hK4⟩
    by_cases cy : y.chk = 0
    · go_wp2_with fail
      refine (HEY.out hfy.out cy _ hK4).mono ?_
      rintro e w5 ⟨v5, rfl, g2, cap2, rfl, hg2, hs2, hb5⟩
      have hK5 : Kept w1 w5 := hK4.next hb5
      clear hs2 cy
      go_wp2
      go_ret
      exact ⟨rfl, HK.out _ hK5⟩
    · go_wp2_with fail
      refine (HBY.out hfy.out cy _ hK4).mono ?_
      rintro e w5 ⟨rfl, hK5⟩
      clear cy
      go_wp2
      go_ret
      exact ⟨rfl, HK.out _ hK5⟩

set_option maxRecDepth 100000 in
theorem diff_lifted (os : Os) (started : os.Started) (H : Type) (enc : TypeId × Value → H) :
    ReturnsInHanded {} Try.checked os 7 .any (Rows.codecDifferentSpec.pre6 enc Try.prog Try.f7 Rows.codecDifferentRow.domain false) (Rows.codecDifferentSpec.post enc Try.prog Try.f7 false true false false) := by
  refine returnsInHanded_of_change (C := Try.checked) Try.own started (by kernel_rfl) Try.func7
    (ChangeSpec.witness6 (enc := enc) (C := Try.checked) false ⟨#[], #[.agg #[.int .i64 0, .int .i64 0, .string ByteArray.empty, .slice none 0 0], .agg #[.int .i64 0, .int .i64 0, .string ByteArray.empty, .slice none 0 0]], []⟩ 8 (by kernel_rfl) (by kernel_rfl) (by kernel_rfl) (by kernel_rfl)) ?_
  intro W base args ds gs before hval0 hW _ _
  have hval : ∀ (j : Nat) t v, Try.f7.params[j]? = some t → args[j]? = some v → Value.okWide Try.prog W .any base t v := hval0
  have hW' := hW
  obtain ⟨p, q, hA0, hV, rfl, _, _⟩ := hW
  have hA : DataW.TrodAll enc Try.prog W 0 (fun _ => true) true Try.f7.params.toList args.toList ds p := hA0
  rw [Try.params7] at hA hval
  obtain ⟨v0, v1, d0, d1, p0, p1, rfl, rfl, rfl, h0, h1⟩ := trodAll_two hA
  obtain ⟨rfl, rfl⟩ := trodVars_none hV
  obtain ⟨x, hx⟩ := open_arg (hval 0 24 v0 rfl rfl) h0
  obtain ⟨y, hy⟩ := open_arg (hval 1 24 v1 rfl rfl) h1
  clear hA0 hval0
  simp only [List.append_nil] at hW'
  have hlt : ∀ x ∈ p0 ++ p1, x.block < W.heap.size := fun x hx => by simpa using hW'.lt x hx
  refine (lawDiff x y v0 v1 W hx hy).mono fun e W' ⟨he, hnx⟩ => ?_
  subst he
  exact ⟨_, rfl, _, _, _, [], _, [], hW', trodAll_mk1 (shut_bool Try.underlying4 _), trodAll_mk2 (Below.trod Try.laidOut (by kernel_rfl) (of_decide_eq_true (by kernel_rfl)) h0 hnx fun x hx => hlt x (List.mem_append.2 (.inl hx)))
    (Below.trod Try.laidOut (by kernel_rfl) (of_decide_eq_true (by kernel_rfl)) h1 hnx fun x hx => hlt x (List.mem_append.2 (.inr hx))), rfl, hnx.frame _, fun h => by cases h⟩

/-- CodecDifferent holds. -/
theorem codecDifferent_holds : Rows.CodecDifferentSaid :=
  OpenClaim.holds_of_wide 7 Try.f7 rfl rfl rfl rfl rfl rfl rfl ⟨rfl, rfl, rfl, rfl, rfl⟩ rfl rfl rfl rfl rfl (by kernel_rfl) Try.func7 (by kernel_rfl)
    (of_decide_eq_true (by kernel_rfl)) (by unfold Func.isWrapper; first | (rw [if_pos (by decide +kernel)]; kernel_rfl) | (rw [if_neg (by decide +kernel)]; exact ⟨rfl, rfl⟩))
    (fun os started H enc _ => diff_lifted os started H enc)

end Go.Proofs.Ytkecoohplpbgnaa
