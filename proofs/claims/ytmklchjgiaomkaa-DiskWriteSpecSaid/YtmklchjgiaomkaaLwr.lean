/- For every disk, number and bytes DiskWriteSpec answers true and leaves its arguments as they were. No condition but the row's own. -/
import Derived.Test.YtmklchjgiaomkaaSnw
import Derived.Test.YtmklchjgiaomkaaRwr
import Derived.Test.YtmklchjgiaomkaaArg
namespace Go.Proofs.Ytmklchjgiaomkaa
open Go.RowKit Go.ChangeShapes Go.WideShapes Go.ChangeAt

set_option maxRecDepth 100000 in
set_option maxHeartbeats 8000000 in
theorem lawWrite (w : World) (d : Dk) (v vb : Value) (n : Int) (b : By) (h : DkAt w w.heap.size v d) (hb : BytesAt w w.heap.size vb b) (hn : In64 n) :
    Calls Try.prog 4 #[v, .int .i64 n, vb] w fun e w' => e = .returned (.bool true) ∧ Below w.heap.size w w' := by
  obtain ⟨k, hk⟩ : ∃ k, d.sec.length = k := ⟨_, rfl⟩
  obtain ⟨p, hp⟩ : ∃ k, d.pen.length = k := ⟨_, rfl⟩
  obtain ⟨left, hle⟩ : ∃ x, d.left = x := ⟨_, rfl⟩
  obtain ⟨st, hst⟩ : ∃ x, d.stop = x := ⟨_, rfl⟩
  obtain ⟨q, hq⟩ : ∃ x, b.length = x := ⟨_, rfl⟩
  obtain ⟨sa, cs, ap, cp, w1, rfl, hw1, hX, hB, -⟩ := h.box hk hp hle hst
  obtain ⟨ba, bc, rfl, hb1, hb2⟩ := bytes_shape hb
  rw [hq] at hb hb1 ⊢
  have HW := Lib.hid hw1
  have HX := Lib.hid hX
  have HYB := Lib.hid (hb.nxt hB)
  have HBASE := Lib.hid hB
  unfold maxLen at hb2
  clear h hb hw1 hX hB hk hp hle hst hq
  go_enter Try.func4, Try.ntmps4
  go_wp2_with fail
  rw [← HW.out]
  refine (sane_any _).mono ?_
  rintro e w2 ⟨rfl, hB⟩
  have HX := Lib.hid (HX.out.next hB)
  have HYB := Lib.hid (HYB.out.nxt hB)
  have HBASE := Lib.hid (Below.andthen HBASE.out hB)
  clear hB
  obtain ⟨e0, e1, e2, e3⟩ := HX.out.four
  go_wp2_with fail
  refine (few_any _ d _ HX.out.dk).mono ?_
  rintro e w3 ⟨f, rfl, hB⟩
  clear e0 e1 e2 e3
  have HX := Lib.hid (HX.out.next hB)
  have HYB := Lib.hid (HYB.out.nxt hB)
  have HBASE := Lib.hid (Below.andthen HBASE.out hB)
  clear hB
  by_cases hsk : f = false ∨ 1000 < q
  · have dq : f = false ∨ (f = true ∧ decide (1000 < (q : Int)) = true) := by
      cases f
      · exact .inl rfl
      · exact .inr ⟨rfl, by simp at hsk ⊢; omega⟩
    clear hsk
    rcases dq with rfl | ⟨rfl, dq⟩
    all_goals
      go_wp2
      go_ret
      exact ⟨rfl, HBASE.out⟩
  obtain ⟨rfl, hq1⟩ : f = true ∧ q ≤ 1000 := by
    cases f
    · simp at hsk
    · exact ⟨rfl, by simp at hsk; omega⟩
  have dq : decide (1000 < (q : Int)) = false := by simp; omega
  obtain ⟨X, hXe⟩ : ∃ x, d.write n b = x := ⟨_, rfl⟩
  obtain ⟨R, hRe⟩ : ∃ x, d.read n = x := ⟨_, rfl⟩
  have hcw := fun W h h' => write_any W d (.agg #[.slice sa k cs, .slice ap p cp, .int .i64 left, .bool st]) (.slice ba q bc) n b h h' hn
  have hcr := fun W h h' => rwrite_any W d (.agg #[.slice sa k cs, .slice ap p cp, .int .i64 left, .bool st]) (.slice ba q bc) n b h h' hn
  have hrw := fun W h => read_any W d (.agg #[.slice sa k cs, .slice ap p cp, .int .i64 left, .bool st]) n h
  have hrr := fun W h => rread_any W d (.agg #[.slice sa k cs, .slice ap p cp, .int .i64 left, .bool st]) n h
  rw [hXe] at hcw hcr
  rw [hRe] at hrw hrr
  obtain ⟨X, F⟩ := X
  obtain ⟨R, G⟩ := R
  simp only at hcw hcr hrw hrr
  have HCW := Lib.hid hcw
  have HCR := Lib.hid hcr
  have HRW := Lib.hid hrw
  have HRR := Lib.hid hrr
  have dF : (F == F) = true := by simp
  have dG : (G == G) = true := by simp
  obtain ⟨k5, hk5⟩ : ∃ x, X.sec.length = x := ⟨_, rfl⟩
  obtain ⟨p5, hp5⟩ : ∃ x, X.pen.length = x := ⟨_, rfl⟩
  obtain ⟨l5, hl5⟩ : ∃ x, X.left = x := ⟨_, rfl⟩
  obtain ⟨t5, ht5⟩ : ∃ x, X.stop = x := ⟨_, rfl⟩
  have HL5 := Lib.hid (And.intro hk5 (And.intro hp5 (And.intro hl5 ht5)))
  clear hsk hXe hRe hcw hcr hrw hrr hk5 hp5 hl5 ht5
  obtain ⟨e0, e1, e2, e3⟩ := HX.out.four
  go_wp2_with fail
  refine (HCW.out _ HX.out.dk HYB.out).mono ?_
  rintro e w5 ⟨u5, rfl, hu5, hB⟩
  clear e0 e1 e2 e3
  have HX := Lib.hid (HX.out.next hB)
  have HYB := Lib.hid (HYB.out.nxt hB)
  have HBASE := Lib.hid (Below.andthen HBASE.out hB)
  clear hB
  obtain ⟨s5, c5, a5, q5, W5, rfl, hw5, hX5, hB, -⟩ := hu5.box HL5.out.1 HL5.out.2.1 HL5.out.2.2.1 HL5.out.2.2.2
  have HW := Lib.hid hw5
  have HX5 := Lib.hid hX5
  clear hu5 hw5 hX5
  have HX := Lib.hid (HX.out.next hB)
  have HYB := Lib.hid (HYB.out.nxt hB)
  have HBASE := Lib.hid (Below.andthen HBASE.out hB)
  clear hB
  obtain ⟨e0, e1, e2, e3⟩ := HX.out.four
  rw [HW.out] at e0 e1 e2 e3
  go_wp2_with fail
  rw [← HW.out]
  refine (HCR.out _ HX.out.dk HYB.out).mono ?_
  rintro e w6 ⟨u6, rfl, hu6, hB⟩
  clear e0 e1 e2 e3
  have HX := Lib.hid (HX.out.next hB)
  have HX5 := Lib.hid (HX5.out.next hB)
  have HYB := Lib.hid (HYB.out.nxt hB)
  have HBASE := Lib.hid (Below.andthen HBASE.out hB)
  clear hB
  obtain ⟨s6, c6, a6, q6, W6, rfl, hw6, hX6, hB, -⟩ := hu6.box HL5.out.1 HL5.out.2.1 HL5.out.2.2.1 HL5.out.2.2.2
  have HW := Lib.hid hw6
  have HX6 := Lib.hid hX6
  clear hu6 hw6 hX6
  have HX := Lib.hid (HX.out.next hB)
  have HX5 := Lib.hid (HX5.out.next hB)
  have HYB := Lib.hid (HYB.out.nxt hB)
  have HBASE := Lib.hid (Below.andthen HBASE.out hB)
  clear hB
  obtain ⟨e0, e1, e2, e3⟩ := HX.out.four
  rw [HW.out] at e0 e1 e2 e3
  go_wp2_with fail
  rw [← HW.out]
  refine (HRW.out _ HX.out.dk).mono ?_
  rintro e w7 ⟨u7, rfl, hu7, hB⟩
  have HU7 := Lib.hid hu7
  clear e0 e1 e2 e3 hu7
  have HX := Lib.hid (HX.out.next hB)
  have HX5 := Lib.hid (HX5.out.next hB)
  have HX6 := Lib.hid (HX6.out.next hB)
  have HYB := Lib.hid (HYB.out.nxt hB)
  have HBASE := Lib.hid (Below.andthen HBASE.out hB)
  clear hB
  obtain ⟨e0, e1, e2, e3⟩ := HX.out.four
  go_wp2_with fail
  refine (HRR.out _ HX.out.dk).mono ?_
  rintro e w8 ⟨u8, rfl, hu8, hB⟩
  have HU8 := Lib.hid hu8
  clear e0 e1 e2 e3 hu8
  have HX := Lib.hid (HX.out.next hB)
  have HX5 := Lib.hid (HX5.out.next hB)
  have HX6 := Lib.hid (HX6.out.next hB)
  have HYB := Lib.hid (HYB.out.nxt hB)
  have HU7 := Lib.hid (HU7.out.nxt hB)
  have HBASE := Lib.hid (Below.andthen HBASE.out hB)
  clear hB
  obtain ⟨x0, x1, x2, x3⟩ := HX5.out.four
  obtain ⟨y0, y1, y2, y3⟩ := HX6.out.four
  go_wp2_with fail
  refine (same_any _ X X _ _ HX5.out.dk HX6.out.dk).mono ?_
  rw [Dk.same_refl]
  rintro e w9 ⟨rfl, hB⟩
  clear x0 x1 x2 x3 y0 y1 y2 y3
  have HU7 := Lib.hid (HU7.out.nxt hB)
  have HU8 := Lib.hid (HU8.out.nxt hB)
  have HBASE := Lib.hid (Below.andthen HBASE.out hB)
  clear hB
  obtain ⟨ua, uc, rfl, hu1, hu2⟩ := bytes_shape HU7.out
  obtain ⟨va, vc, rfl, hv1, hv2⟩ := bytes_shape HU8.out
  have cv1 := HU7.out.conv
  have cv2 := HU8.out.conv
  obtain ⟨S, hS⟩ : ∃ S : ByteArray, (⟨R.toArray⟩ : ByteArray) = S := ⟨_, rfl⟩
  rw [hS] at cv1 cv2
  have hss : (S.toList == S.toList) = true := by simp
  clear hS hu1 hu2 hv1 hv2 HX5 HX6 HX HYB HCW HCR HRW HRR
  go_wp2
  go_ret
  exact ⟨rfl, HBASE.out⟩

set_option maxRecDepth 100000 in
theorem diskWriteSpec_lifted (os : Os) (started : os.Started) (H : Type) (enc : TypeId × Value → H) :
    ReturnsInHanded {} Try.checked os 4 .any (Rows.diskWriteSpecSpec.pre6 enc Try.prog Try.f4 Rows.diskWriteSpecRow.domain false) (Rows.diskWriteSpecSpec.post enc Try.prog Try.f4 false true false false) := by
  refine returnsInHanded_of_change (C := Try.checked) Try.own started (by kernel_rfl) Try.func4
    (ChangeSpec.witness6 (enc := enc) (C := Try.checked) false ⟨#[], #[.agg #[.slice none 0 0, .slice none 0 0, .int .i64 0, .bool false], .int .i64 0, .slice none 0 0], []⟩ 8 (by kernel_rfl) (by kernel_rfl) (by kernel_rfl) (by kernel_rfl)) ?_
  intro W base args ds gs before hval0 hW _ _
  have hval : ∀ (j : Nat) t v, Try.f4.params[j]? = some t → args[j]? = some v → Value.okWide Try.prog W .any base t v := hval0
  have hW' := hW
  obtain ⟨p, q, hA0, hV, rfl, _, _⟩ := hW
  have hA : DataW.TrodAll enc Try.prog W 0 (fun _ => true) true Try.f4.params.toList args.toList ds p := hA0
  rw [Try.params4] at hA hval
  obtain ⟨v0, v1, v2, d0, d1, d2, p0, p1, p2, rfl, rfl, rfl, h0, h1, h2⟩ := trodAll_three hA
  obtain ⟨rfl, rfl⟩ := trodVars_none hV
  obtain ⟨x0, hx0⟩ := open_disk (hval 0 25 v0 rfl rfl) h0
  obtain ⟨x1, rfl, rfl, rfl, hx1⟩ := open_int Try.underlying3 (hval 1 3 v1 rfl rfl) h1
  obtain ⟨x2, hx2⟩ := open_bytes (hval 2 35 v2 rfl rfl) h2
  clear hA0 hval0
  simp only [List.append_nil] at hW'
  have hlt : ∀ x ∈ p0 ++ p2, x.block < W.heap.size := fun x hx => by simpa using hW'.lt x hx
  refine (lawWrite W x0 v0 v2 x1 x2 hx0 hx2 (wf64 hx1)).mono fun e W' ⟨he, hnx⟩ => ?_
  subst he
  exact ⟨_, rfl, _, _, _, [], _, [], hW', trodAll_mk1 (shut_bool Try.underlying4 _), trodAll_mk3 (Below.trod Try.laidOut (by kernel_rfl) (of_decide_eq_true (by kernel_rfl)) h0 hnx fun x hx => hlt x (by simp only [List.mem_append]; simp only [hx, true_or])) (shut_int Try.underlying3 hx1) (Below.trod Try.laidOut (by kernel_rfl) (of_decide_eq_true (by kernel_rfl)) h2 hnx fun x hx => hlt x (by simp only [List.mem_append]; simp only [hx, or_true])), rfl, hnx.frame _, fun h => by cases h⟩

/-- DiskWriteSpec holds. -/
theorem diskWriteSpec_holds : Rows.DiskWriteSpecSaid :=
  OpenClaim.holds_of_wide 4 Try.f4 rfl rfl rfl rfl rfl rfl rfl ⟨rfl, rfl, rfl, rfl, rfl⟩ rfl rfl rfl rfl rfl (by kernel_rfl) Try.func4 (by kernel_rfl)
    (of_decide_eq_true (by kernel_rfl)) (by unfold Func.isWrapper; first | (rw [if_pos (by decide +kernel)]; kernel_rfl) | (rw [if_neg (by decide +kernel)]; exact ⟨rfl, rfl⟩))
    (fun os started H enc _ => diskWriteSpec_lifted os started H enc)

end Go.Proofs.Ytmklchjgiaomkaa
