/- For every disk and number DiskSyncSpec answers true and leaves its arguments as they were. No condition but the row's own. -/
import Derived.Test.YtmklchjgiaomkaaSnw
import Derived.Test.YtmklchjgiaomkaaRsy
import Derived.Test.YtmklchjgiaomkaaRst
import Derived.Test.YtmklchjgiaomkaaArg
namespace Go.Proofs.Ytmklchjgiaomkaa
open Go.RowKit Go.ChangeShapes Go.WideShapes Go.ChangeAt

set_option maxRecDepth 100000 in
set_option maxHeartbeats 8000000 in
theorem lawSync (w : World) (d : Dk) (v : Value) (n : Int) (h : DkAt w w.heap.size v d) (hn : In64 n) :
    Calls Try.prog 5 #[v, .int .i64 n] w fun e w' => e = .returned (.bool true) ∧ Below w.heap.size w w' := by
  obtain ⟨k, hk⟩ : ∃ k, d.sec.length = k := ⟨_, rfl⟩
  obtain ⟨p, hp⟩ : ∃ k, d.pen.length = k := ⟨_, rfl⟩
  obtain ⟨left, hle⟩ : ∃ x, d.left = x := ⟨_, rfl⟩
  obtain ⟨st, hst⟩ : ∃ x, d.stop = x := ⟨_, rfl⟩
  obtain ⟨sa, cs, ap, cp, w1, rfl, hw1, hX, hB, -⟩ := h.box hk hp hle hst
  have HW := Lib.hid hw1
  have HX := Lib.hid hX
  have HBASE := Lib.hid hB
  clear h hw1 hX hB hk hp hle hst
  go_enter Try.func5, Try.ntmps5
  go_wp2_with fail
  rw [← HW.out]
  refine (sane_any _).mono ?_
  rintro e w2 ⟨rfl, hB⟩
  have HX := Lib.hid (HX.out.next hB)
  have HBASE := Lib.hid (Below.andthen HBASE.out hB)
  clear hB
  obtain ⟨e0, e1, e2, e3⟩ := HX.out.four
  go_wp2_with fail
  refine (few_any _ d _ HX.out.dk).mono ?_
  rintro e w3 ⟨f, rfl, hB⟩
  clear e0 e1 e2 e3
  have HX := Lib.hid (HX.out.next hB)
  have HBASE := Lib.hid (Below.andthen HBASE.out hB)
  clear hB
  cases f with
  | false =>
    go_wp2
    go_ret
    exact ⟨rfl, HBASE.out⟩
  | true =>
    obtain ⟨X, hXe⟩ : ∃ x, d.sync = x := ⟨_, rfl⟩
    obtain ⟨Y, hYe⟩ : ∃ x, d.halt n = x := ⟨_, rfl⟩
    have h23 := fun W h => sync_any W d (.agg #[.slice sa k cs, .slice ap p cp, .int .i64 left, .bool st]) h
    have h24 := fun W h => rsync_any W d (.agg #[.slice sa k cs, .slice ap p cp, .int .i64 left, .bool st]) h
    have h25 := fun W h => stop_any W d (.agg #[.slice sa k cs, .slice ap p cp, .int .i64 left, .bool st]) n h hn
    have h26 := fun W h => rstop_any W d (.agg #[.slice sa k cs, .slice ap p cp, .int .i64 left, .bool st]) n h hn
    rw [hXe] at h23 h24
    rw [hYe] at h25 h26
    obtain ⟨X, F⟩ := X
    obtain ⟨Y, G⟩ := Y
    simp only at h23 h24 h25 h26
    have H23 := Lib.hid h23
    have H24 := Lib.hid h24
    have H25 := Lib.hid h25
    have H26 := Lib.hid h26
    have dF : (F == F) = true := by simp
    have dG : (G == G) = true := by simp
    obtain ⟨k5, hk5⟩ : ∃ x, X.sec.length = x := ⟨_, rfl⟩
    obtain ⟨p5, hp5⟩ : ∃ x, X.pen.length = x := ⟨_, rfl⟩
    obtain ⟨l5, hl5⟩ : ∃ x, X.left = x := ⟨_, rfl⟩
    obtain ⟨t5, ht5⟩ : ∃ x, X.stop = x := ⟨_, rfl⟩
    have HL5 := Lib.hid (And.intro hk5 (And.intro hp5 (And.intro hl5 ht5)))
    obtain ⟨k6, hk6⟩ : ∃ x, Y.sec.length = x := ⟨_, rfl⟩
    obtain ⟨p6, hp6⟩ : ∃ x, Y.pen.length = x := ⟨_, rfl⟩
    obtain ⟨l6, hl6⟩ : ∃ x, Y.left = x := ⟨_, rfl⟩
    obtain ⟨t6, ht6⟩ : ∃ x, Y.stop = x := ⟨_, rfl⟩
    have HL6 := Lib.hid (And.intro hk6 (And.intro hp6 (And.intro hl6 ht6)))
    clear hXe hYe h23 h24 h25 h26 hk5 hp5 hl5 ht5 hk6 hp6 hl6 ht6
    obtain ⟨e0, e1, e2, e3⟩ := HX.out.four
    skip
    go_wp2_with fail
    skip
    refine (H23.out _ HX.out.dk).mono ?_
    rintro e w5 ⟨u5, rfl, hu5, hB⟩
    clear e0 e1 e2 e3
    have HX := Lib.hid (HX.out.next hB)
    have HBASE := Lib.hid (Below.andthen HBASE.out hB)
    clear hB
    obtain ⟨s5, c5, a5, q5, W5, rfl, hw5, hX5, hB, -⟩ := hu5.box HL5.out.1 HL5.out.2.1 HL5.out.2.2.1 HL5.out.2.2.2
    have HW := Lib.hid hw5
    have HX5 := Lib.hid hX5
    clear hu5 hw5 hX5
    have HX := Lib.hid (HX.out.next hB)
    have HBASE := Lib.hid (Below.andthen HBASE.out hB)
    clear hB
    obtain ⟨e0, e1, e2, e3⟩ := HX.out.four
    rw [HW.out] at e0 e1 e2 e3
    go_wp2_with fail
    rw [← HW.out]
    refine (H24.out _ HX.out.dk).mono ?_
    rintro e w6 ⟨u6, rfl, hu6, hB⟩
    clear e0 e1 e2 e3
    have HX := Lib.hid (HX.out.next hB)
    have HX5 := Lib.hid (HX5.out.next hB)
    have HBASE := Lib.hid (Below.andthen HBASE.out hB)
    clear hB
    obtain ⟨s6, c6, a6, q6, W6, rfl, hw6, hX6, hB, -⟩ := hu6.box HL5.out.1 HL5.out.2.1 HL5.out.2.2.1 HL5.out.2.2.2
    have HW := Lib.hid hw6
    have HX6 := Lib.hid hX6
    clear hu6 hw6 hX6
    have HX := Lib.hid (HX.out.next hB)
    have HX5 := Lib.hid (HX5.out.next hB)
    have HBASE := Lib.hid (Below.andthen HBASE.out hB)
    clear hB
    obtain ⟨e0, e1, e2, e3⟩ := HX.out.four
    rw [HW.out] at e0 e1 e2 e3
    go_wp2_with fail
    rw [← HW.out]
    refine (H25.out _ HX.out.dk).mono ?_
    rintro e w7 ⟨u7, rfl, hu7, hB⟩
    clear e0 e1 e2 e3
    have HX := Lib.hid (HX.out.next hB)
    have HX5 := Lib.hid (HX5.out.next hB)
    have HX6 := Lib.hid (HX6.out.next hB)
    have HBASE := Lib.hid (Below.andthen HBASE.out hB)
    clear hB
    obtain ⟨s7, c7, a7, q7, W7, rfl, hw7, hX7, hB, -⟩ := hu7.box HL6.out.1 HL6.out.2.1 HL6.out.2.2.1 HL6.out.2.2.2
    have HW := Lib.hid hw7
    have HX7 := Lib.hid hX7
    clear hu7 hw7 hX7
    have HX := Lib.hid (HX.out.next hB)
    have HX5 := Lib.hid (HX5.out.next hB)
    have HX6 := Lib.hid (HX6.out.next hB)
    have HBASE := Lib.hid (Below.andthen HBASE.out hB)
    clear hB
    obtain ⟨e0, e1, e2, e3⟩ := HX.out.four
    rw [HW.out] at e0 e1 e2 e3
    go_wp2_with fail
    rw [← HW.out]
    refine (H26.out _ HX.out.dk).mono ?_
    rintro e w8 ⟨u8, rfl, hu8, hB⟩
    clear e0 e1 e2 e3
    have HX := Lib.hid (HX.out.next hB)
    have HX5 := Lib.hid (HX5.out.next hB)
    have HX6 := Lib.hid (HX6.out.next hB)
    have HX7 := Lib.hid (HX7.out.next hB)
    have HBASE := Lib.hid (Below.andthen HBASE.out hB)
    clear hB
    obtain ⟨s8, c8, a8, q8, W8, rfl, hw8, hX8, hB, -⟩ := hu8.box HL6.out.1 HL6.out.2.1 HL6.out.2.2.1 HL6.out.2.2.2
    have HW := Lib.hid hw8
    have HX8 := Lib.hid hX8
    clear hu8 hw8 hX8
    have HX := Lib.hid (HX.out.next hB)
    have HX5 := Lib.hid (HX5.out.next hB)
    have HX6 := Lib.hid (HX6.out.next hB)
    have HX7 := Lib.hid (HX7.out.next hB)
    have HBASE := Lib.hid (Below.andthen HBASE.out hB)
    clear hB
    obtain ⟨x0, x1, x2, x3⟩ := HX5.out.four
    obtain ⟨y0, y1, y2, y3⟩ := HX6.out.four
    rw [HW.out] at x0 x1 x2 x3 y0 y1 y2 y3
    go_wp2_with fail
    rw [← HW.out]
    refine (same_any _ X X _ _ HX5.out.dk HX6.out.dk).mono ?_
    rw [Dk.same_refl]
    rintro e w9 ⟨rfl, hB⟩
    clear x0 x1 x2 x3 y0 y1 y2 y3
    have HX7 := Lib.hid (HX7.out.next hB)
    have HX8 := Lib.hid (HX8.out.next hB)
    have HBASE := Lib.hid (Below.andthen HBASE.out hB)
    clear hB
    obtain ⟨x0, x1, x2, x3⟩ := HX7.out.four
    obtain ⟨y0, y1, y2, y3⟩ := HX8.out.four
    clear H23 H24 H25 H26
    go_wp2_with fail
    refine (same_any _ Y Y _ _ HX7.out.dk HX8.out.dk).mono ?_
    rw [Dk.same_refl]
    rintro e w10 ⟨rfl, hB⟩
    clear x0 x1 x2 x3 y0 y1 y2 y3
    have HBASE := Lib.hid (Below.andthen HBASE.out hB)
    clear hB
    go_wp2
    go_ret
    exact ⟨rfl, HBASE.out⟩

set_option maxRecDepth 100000 in
theorem diskSyncSpec_lifted (os : Os) (started : os.Started) (H : Type) (enc : TypeId × Value → H) :
    ReturnsInHanded {} Try.checked os 5 .any (Rows.diskSyncSpecSpec.pre6 enc Try.prog Try.f5 Rows.diskSyncSpecRow.domain false) (Rows.diskSyncSpecSpec.post enc Try.prog Try.f5 false true false false) := by
  refine returnsInHanded_of_change (C := Try.checked) Try.own started (by kernel_rfl) Try.func5
    (ChangeSpec.witness6 (enc := enc) (C := Try.checked) false ⟨#[], #[.agg #[.slice none 0 0, .slice none 0 0, .int .i64 0, .bool false], .int .i64 0], []⟩ 8 (by kernel_rfl) (by kernel_rfl) (by kernel_rfl) (by kernel_rfl)) ?_
  intro W base args ds gs before hval0 hW _ _
  have hval : ∀ (j : Nat) t v, Try.f5.params[j]? = some t → args[j]? = some v → Value.okWide Try.prog W .any base t v := hval0
  have hW' := hW
  obtain ⟨p, q, hA0, hV, rfl, _, _⟩ := hW
  have hA : DataW.TrodAll enc Try.prog W 0 (fun _ => true) true Try.f5.params.toList args.toList ds p := hA0
  rw [Try.params5] at hA hval
  obtain ⟨v0, v1, d0, d1, p0, p1, rfl, rfl, rfl, h0, h1⟩ := trodAll_two hA
  obtain ⟨rfl, rfl⟩ := trodVars_none hV
  obtain ⟨x0, hx0⟩ := open_disk (hval 0 25 v0 rfl rfl) h0
  obtain ⟨x1, rfl, rfl, rfl, hx1⟩ := open_int Try.underlying3 (hval 1 3 v1 rfl rfl) h1
  clear hA0 hval0
  simp only [List.append_nil] at hW'
  have hlt : ∀ x ∈ p0, x.block < W.heap.size := fun x hx => by simpa using hW'.lt x hx
  refine (lawSync W x0 v0 x1 hx0 (wf64 hx1)).mono fun e W' ⟨he, hnx⟩ => ?_
  subst he
  exact ⟨_, rfl, _, _, _, [], _, [], hW', trodAll_mk1 (shut_bool Try.underlying4 _), trodAll_mk2 (Below.trod Try.laidOut (by kernel_rfl) (of_decide_eq_true (by kernel_rfl)) h0 hnx fun x hx => hlt x hx) (shut_int Try.underlying3 hx1), rfl, hnx.frame _, fun h => by cases h⟩

/-- DiskSyncSpec holds. -/
theorem diskSyncSpec_holds : Rows.DiskSyncSpecSaid :=
  OpenClaim.holds_of_wide 5 Try.f5 rfl rfl rfl rfl rfl rfl rfl ⟨rfl, rfl, rfl, rfl, rfl⟩ rfl rfl rfl rfl rfl (by kernel_rfl) Try.func5 (by kernel_rfl)
    (of_decide_eq_true (by kernel_rfl)) (by unfold Func.isWrapper; first | (rw [if_pos (by decide +kernel)]; kernel_rfl) | (rw [if_neg (by decide +kernel)]; exact ⟨rfl, rfl⟩))
    (fun os started H enc _ => diskSyncSpec_lifted os started H enc)

end Go.Proofs.Ytmklchjgiaomkaa
