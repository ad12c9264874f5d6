/- For every row of bytes CodecDecodeSpec answers true and leaves its argument as it was. No condition but the row's own. -/
import Derived.Test.YtkecoohplpbgnaaRrDec
namespace Go.Proofs.Ytkecoohplpbgnaa
open Go.RowKit Go.ChangeShapes Go.WideShapes Go.ChangeAt

set_option maxRecDepth 100000 in
set_option maxHeartbeats 2000000 in
theorem lawDec (v : Value) (bs : List UInt8) (w : World) (hb : BytesAt w w.heap.size v bs) :
    Calls Try.prog 4 #[v] w fun e w' => e = .returned (.bool true) ∧ Below w.heap.size w w' := by
  have HB := Lib.hid hb
  obtain ⟨ra, rcap, rfl, hrc, hrm, hr4⟩ := hb
  have hcs : ∀ W, Kept w W → Calls Try.prog 10 #[] W fun e w' => e = .returned (.bool true) ∧ Kept w w' := fun W hW => (sane_any W).mono fun e w' h => ⟨h.1, hW.next h.2⟩
  have hby : ∀ W, Kept w W → BytesAt W W.heap.size (.slice ra bs.length rcap) bs := fun W hW => (HB.out.below hW.below).mono hW.below.size
  have hdp : bs.length ≤ 2000 → ∀ W, Kept w W → Calls Try.prog 18 #[.slice ra bs.length rcap] W (DecPost W (decode bs)) := fun hl W hW => decode_any W _ bs (by omega) (hby W hW)
  have hdr : bs.length ≤ 2000 → ∀ W, Kept w W → Calls Try.prog 19 #[.slice ra bs.length rcap] W (DecPost W (decode bs)) := fun hl W hW => rdecode_any W _ bs (by omega) (hby W hW)
  have hsm : ∀ (x : V) (va vb : Value) W, V.At W W.heap.size x va → V.At W W.heap.size x vb → Calls Try.prog 20 #[va, vb] W fun e w' => e = .returned (.bool true) ∧ Below W.heap.size W w' := fun x va vb W h1 h2 => by
    have := refSame _ x (Nat.le_refl _) x W W.heap.size va vb (Nat.le_refl _) h1 h2
    rw [V.same_refl] at this
    exact this
  have HS := Lib.hid hcs
  have HP := Lib.hid hdp
  have HR := Lib.hid hdr
  have HM := Lib.hid hsm
  clear hcs hby hdp hdr hsm hr4 hrc hrm
  go_enter Try.func4, Try.ntmps4
  go_wp2_with fail
  refine (HS.out _ (Kept.refl _)).mono ?_
  rintro e w2 ⟨rfl, hK2⟩
  by_cases hl : 2000 < bs.length
  · have hl' : decide (2000 < (bs.length : Int)) = true := by simp; omega
    have HK := Lib.hid hK2.below
    clear hK2
    go_wp2
    go_ret
    exact ⟨rfl, HK.out⟩
  have hl' : decide (2000 < (bs.length : Int)) = false := by simp; omega
  have hl2 : Hid (bs.length ≤ 2000) := by show bs.length ≤ 2000; omega
  have hp := HP.out hl2.out _ hK2
  obtain ⟨o, ho⟩ : ∃ o, decode bs = o := ⟨_, rfl⟩
  have hr := HR.out hl2.out
  rw [ho] at hp hr
  have HP2 := Lib.hid hp
  have HR2 := Lib.hid hr
  clear hl ho hp hr HP HR
  cases o with
  | none =>
    go_wp2_with fail
    refine HP2.out.mono ?_
    rintro e w3 ⟨rfl, hb3⟩
    have hK3 : Kept w (w3.alloc (Obj.cells #[.int .i64 0, .int .i64 0, .string { data := #[] }, .slice none 0 0] 24)) := (hK2.next hb3).alloc _
    have HK3 := Lib.hid hK3
    clear hb3 hK2 hK3
    go_wp2_with fail
    refine (HR2.out _ HK3.out).mono ?_
    rintro e w4 ⟨rfl, hb4⟩
    have s0 : ∀ o, (w4.alloc o).cell? ⟨w3.heap.size, 0, none⟩ = some (.int .i64 0) := fun o => (World.cell?_alloc_lt w4 o ⟨w3.heap.size, 0, none⟩ (Nat.lt_of_lt_of_le (by simp) hb4.size)).trans ((hb4.cell (p := ⟨w3.heap.size, 0, none⟩) (by simp)).trans (by go_cell))
    have s1 : ∀ o, (w4.alloc o).cell? ⟨w3.heap.size, 1, none⟩ = some (.int .i64 0) := fun o => (World.cell?_alloc_lt w4 o ⟨w3.heap.size, 1, none⟩ (Nat.lt_of_lt_of_le (by simp) hb4.size)).trans ((hb4.cell (p := ⟨w3.heap.size, 1, none⟩) (by simp)).trans (by go_cell))
    have s2 : ∀ o, (w4.alloc o).cell? ⟨w3.heap.size, 2, none⟩ = some (.string { data := #[] }) := fun o => (World.cell?_alloc_lt w4 o ⟨w3.heap.size, 2, none⟩ (Nat.lt_of_lt_of_le (by simp) hb4.size)).trans ((hb4.cell (p := ⟨w3.heap.size, 2, none⟩) (by simp)).trans (by go_cell))
    have s3 : ∀ o, (w4.alloc o).cell? ⟨w3.heap.size, 3, none⟩ = some (.slice none 0 0) := fun o => (World.cell?_alloc_lt w4 o ⟨w3.heap.size, 3, none⟩ (Nat.lt_of_lt_of_le (by simp) hb4.size)).trans ((hb4.cell (p := ⟨w3.heap.size, 3, none⟩) (by simp)).trans (by go_cell))
    have hK4 : Kept w w4 := HK3.out.next hb4
    have HK4 := Lib.hid hK4
    clear hb4 hK4
    go_wp2_with fail
    refine (HM.out ⟨0, 0, ByteArray.empty, []⟩ _ _ _ at_zero at_zero).mono ?_
    rintro e w10 ⟨rfl, hb10⟩
    have HKF := Lib.hid (Kept.next (HK4.out.alloc _) hb10).below
    clear hb10 s0 s1 s2 s3
    go_wp2
    go_ret
    exact ⟨by simp, HKF.out⟩
  | some x =>
    go_wp2_with fail
    refine HP2.out.mono ?_
    rintro e w3 ⟨v3, rfl, hx3, hb3⟩
    obtain ⟨k3, n3, z3, a3, l3, c3, rfl⟩ := own_shape hx3
    obtain ⟨w5, hw5⟩ : ∃ w5, w5 = w3.alloc (Obj.cells #[.int .i64 k3, .int .i64 n3, .string z3, .slice a3 l3 c3] 24) := ⟨_, rfl⟩
    have hb5 : Below w3.heap.size w3 w5 := by rw [hw5]; go_grown
    have hK5 : Kept w w5 := (hK2.next hb3).next hb5
    have hx5 : V.At w5 w5.heap.size x (.agg #[.int .i64 k3, .int .i64 n3, .string z3, .slice a3 l3 c3]) := V.At.mono hb5.size _ _ (V.At.below hb5 _ _ (V.Own.at (fun b hb => hb.2) x _ hx3))
    have r0 : w5.cell? ⟨w3.heap.size, 0, none⟩ = some (.int .i64 k3) := by rw [hw5]; go_cell
    have r1 : w5.cell? ⟨w3.heap.size, 1, none⟩ = some (.int .i64 n3) := by rw [hw5]; go_cell
    have r2 : w5.cell? ⟨w3.heap.size, 2, none⟩ = some (.string z3) := by rw [hw5]; go_cell
    have r3 : w5.cell? ⟨w3.heap.size, 3, none⟩ = some (.slice a3 l3 c3) := by rw [hw5]; go_cell
    have hl5 : w3.heap.size < w5.heap.size := World.block_lt_of_cell? w5 _ r0
    have HW5 := Lib.hid hw5
    have HX5 := Lib.hid hx5
    have HK5 := Lib.hid hK5
    clear hw5 hx3 hx5 hb3 hb5 hK5 hK2
    go_wp2_with fail
    rw [← HW5.out]
    refine (HR2.out _ HK5.out).mono ?_
    rintro e w4 ⟨v4, rfl, hx4, hb4⟩
    obtain ⟨k4, n4, z4, a4, l4, c4, rfl⟩ := own_shape hx4
    obtain ⟨w6, hw6⟩ : ∃ w6, w6 = w4.alloc (Obj.cells #[.int .i64 k4, .int .i64 n4, .string z4, .slice a4 l4 c4] 24) := ⟨_, rfl⟩
    have hb6 : Below w4.heap.size w4 w6 := by rw [hw6]; go_grown
    have hx6 : V.At w6 w6.heap.size x (.agg #[.int .i64 k4, .int .i64 n4, .string z4, .slice a4 l4 c4]) := V.At.mono hb6.size _ _ (V.At.below hb6 _ _ (V.Own.at (fun b hb => hb.2) x _ hx4))
    have hb56 : Below w5.heap.size w5 w6 := hb4.trans (hb6.mono hb4.size)
    have hx56 := V.At.mono hb56.size _ _ (V.At.below hb56 _ _ HX5.out)
    have hc56 : ∀ i u, w5.cell? ⟨w3.heap.size, i, none⟩ = some u → w6.cell? ⟨w3.heap.size, i, none⟩ = some u := fun i u hu => (hb56.cell (p := ⟨w3.heap.size, i, none⟩) hl5).trans hu
    have m0 := hc56 _ _ r0
    have m1 := hc56 _ _ r1
    have m2 := hc56 _ _ r2
    have m3 := hc56 _ _ r3
    have t0 : w6.cell? ⟨w4.heap.size, 0, none⟩ = some (.int .i64 k4) := by rw [hw6]; go_cell
    have t1 : w6.cell? ⟨w4.heap.size, 1, none⟩ = some (.int .i64 n4) := by rw [hw6]; go_cell
    have t2 : w6.cell? ⟨w4.heap.size, 2, none⟩ = some (.string z4) := by rw [hw6]; go_cell
    have t3 : w6.cell? ⟨w4.heap.size, 3, none⟩ = some (.slice a4 l4 c4) := by rw [hw6]; go_cell
    have HW6 := Lib.hid hw6
    have hcall := HM.out x _ _ w6 hx56 hx6
    have HC := Lib.hid hcall
    have HK6 := Lib.hid (HK5.out.next hb56)
    rw [hw6] at m0 m1 m2 m3 t0 t1 t2 t3
    clear hw6 hx4 hb4 hb6 hx6 hb56 hx56 hc56 r0 r1 r2 r3 hl5 hcall
    go_wp2_with fail
    rw [← HW6.out]
    refine HC.out.mono ?_
    rintro e w10 ⟨rfl, hb10⟩
    have HKF := Lib.hid (HK6.out.next hb10).below
    clear hb10 m0 m1 m2 m3 t0 t1 t2 t3
    go_wp2
    go_ret
    exact ⟨by simp, HKF.out⟩

set_option maxRecDepth 100000 in
theorem dec_lifted (os : Os) (started : os.Started) (H : Type) (enc : TypeId × Value → H) :
    ReturnsInHanded {} Try.checked os 4 .any (Rows.codecDecodeSpecSpec.pre6 enc Try.prog Try.f4 Rows.codecDecodeSpecRow.domain false) (Rows.codecDecodeSpecSpec.post enc Try.prog Try.f4 false true false false) := by
  refine returnsInHanded_of_change (C := Try.checked) Try.own started (by kernel_rfl) Try.func4
    (ChangeSpec.witness6 (enc := enc) (C := Try.checked) false ⟨#[], #[.slice none 0 0], []⟩ 8 (by kernel_rfl) (by kernel_rfl) (by kernel_rfl) (by kernel_rfl)) ?_
  intro W base args ds gs before hval0 hW _ _
  have hval : ∀ (j : Nat) t v, Try.f4.params[j]? = some t → args[j]? = some v → Value.okWide Try.prog W .any base t v := hval0
  have hW' := hW
  obtain ⟨p, q, hA0, hV, rfl, _, _⟩ := hW
  have hA : DataW.TrodAll enc Try.prog W 0 (fun _ => true) true Try.f4.params.toList args.toList ds p := hA0
  rw [Try.params4] at hA hval
  obtain ⟨v0, d0, rfl, rfl, h0⟩ := trodAll_one hA
  obtain ⟨rfl, rfl⟩ := trodVars_none hV
  obtain ⟨bs, hb⟩ := open_bytes (hval 0 27 v0 rfl rfl) h0
  clear hA0 hval0
  simp only [List.append_nil] at hW'
  have hlt : ∀ x ∈ p, x.block < W.heap.size := fun x hx => by simpa using hW'.lt x hx
  refine (lawDec v0 bs W hb).mono fun e W' ⟨he, hnx⟩ => ?_
  subst he
  exact ⟨_, rfl, _, _, _, [], _, [], hW', trodAll_mk1 (shut_bool Try.underlying4 _), trodAll_mk1 (Below.trod Try.laidOut (by kernel_rfl) (of_decide_eq_true (by kernel_rfl)) h0 hnx fun x hx => hlt x hx), rfl, hnx.frame _, fun h => by cases h⟩

/-- CodecDecodeSpec holds. -/
theorem codecDecodeSpec_holds : Rows.CodecDecodeSpecSaid :=
  OpenClaim.holds_of_wide 4 Try.f4 rfl rfl rfl rfl rfl rfl rfl ⟨rfl, rfl, rfl, rfl, rfl⟩ rfl rfl rfl rfl rfl (by kernel_rfl) Try.func4 (by kernel_rfl)
    (of_decide_eq_true (by kernel_rfl)) (by unfold Func.isWrapper; first | (rw [if_pos (by decide +kernel)]; kernel_rfl) | (rw [if_neg (by decide +kernel)]; exact ⟨rfl, rfl⟩))
    (fun os started H enc _ => dec_lifted os started H enc)

end Go.Proofs.Ytkecoohplpbgnaa
