/- For every two ints CodecNumbers answers true. No condition but the row's own. -/
import Derived.Test.YtkecoohplpbgnaaSane
import Derived.Test.YtkecoohplpbgnaaPure
import Derived.Test.YtkecoohplpbgnaaArg
namespace Go.Proofs.Ytkecoohplpbgnaa
open Go.RowKit Go.ChangeShapes Go.WideShapes Go.ChangeAt

theorem num_mono : ∀ (v u : Nat), u ≤ v → (num u).length ≤ (num v).length := by
  intro v
  induction v using Nat.strongRecOn with
  | _ v ih =>
    intro u h
    by_cases hu : u < 128
    · rw [num_lt u hu]; have := num_pos v; simp; omega
    · rw [num_ge u hu, num_ge v (by omega), List.length_cons, List.length_cons]
      have := ih (v / 128) (by omega) (u / 128) (by omega)
      omega

def intV (a : Int) : V := ⟨1, a, ByteArray.empty, []⟩
def intLen (a : Int) : Nat := 1 + (num (zig a).toNat).length
theorem intV_enc (a : Int) : (intV a).enc.length = intLen a := by
  unfold intV intLen V.enc; rw [if_pos rfl, List.length_cons]; omega
theorem intV_chk (a : Int) : (intV a).chk = 0 := by simp [intV, V.chk, V.formed, V.dep]
theorem intV_dep (a : Int) : (intV a).dep = 0 := by simp [intV, V.dep]
theorem intLen_bd (a : Int) (h : In64 a) : 2 ≤ intLen a ∧ intLen a ≤ 11 := by
  have hz := zig_range a h
  have h1 := num_len64 (zig a).toNat (by omega)
  have h2 := num_pos (zig a).toNat
  unfold intLen; omega
theorem intLen_pos (a b : Int) (h : 0 ≤ a) (hb : a ≤ b) : intLen a ≤ intLen b := by
  unfold intLen
  have := num_mono (zig b).toNat (zig a).toNat (by unfold zig; split <;> split <;> omega)
  omega
theorem intLen_neg (a b : Int) (h : a < 0) (hb : b ≤ a) : intLen a ≤ intLen b := by
  unfold intLen
  have := num_mono (zig b).toNat (zig a).toNat (by unfold zig; split <;> split <;> omega)
  omega

theorem int_size (a : Int) (h : In64 a) (w : World) : Calls Try.prog 14 #[.agg #[.int .i64 1, .int .i64 a, .string { data := #[] }, .slice none 0 0]] w fun e w' => e = .returned (.tuple #[.int .i64 (intLen a : Nat), .int .i64 0]) ∧ Below w.heap.size w w' := by
  have := size_ok (intV a) w 0 _ (by rw [intV_dep]; omega) (by omega) (at_int a h) (intV_chk a) (by rw [intV_enc]; have := intLen_bd a h; omega)
  rw [intV_enc] at this
  exact this

theorem int_enc (a : Int) (h : In64 a) (w : World) : Calls Try.prog 12 #[.agg #[.int .i64 1, .int .i64 a, .string { data := #[] }, .slice none 0 0]] w (EncPost w (intV a).enc) :=
  encode_ok (intV a) w 0 _ (by rw [intV_dep]; omega) (by omega) (at_int a h) (intV_chk a) (by rw [intV_enc]; have := intLen_bd a h; omega)

theorem int_fits (a : Int) (h : In64 a) : (intV a).fits := by
  unfold intV V.fits V.fitss
  exact ⟨h, by decide, by simp, trivial⟩

theorem int_dec (a : Int) (h : In64 a) (w : World) (g cap : Nat) (hs : Spare w g (intV a).enc.length cap (intV a).enc) : Calls Try.prog 18 #[.slice (some ⟨g, 0, none⟩) (intV a).enc.length cap] w (DecPost w (some (intV a))) := by
  have := decode_any w _ _ (by rw [intV_enc]; have := intLen_bd a h; omega) hs.bytes
  rw [decode_enc (intV a) (int_fits a h) (intV_chk a)] at this
  exact this

set_option maxRecDepth 100000 in
set_option maxHeartbeats 1000000 in
theorem lawNum (a b : Int) (ha : In64 a) (hb : In64 b) (w : World) : Calls Try.prog 9 #[.int .i64 a, .int .i64 b] w fun e w' => e = .returned (.bool true) ∧ Below w.heap.size w w' := by
  have hca := int_size a ha
  have hcb := int_size b hb
  have hea := int_enc a ha
  have hda := int_dec a ha
  obtain ⟨m1, m2⟩ := intLen_bd a ha
  obtain ⟨n1, n2⟩ := intLen_bd b hb
  have hpos := intLen_pos a b
  have hneg := intLen_neg a b
  have hlen := intV_enc a
  obtain ⟨m, hm⟩ : ∃ m, intLen a = m := ⟨_, rfl⟩
  obtain ⟨n, hn⟩ : ∃ n, intLen b = n := ⟨_, rfl⟩
  obtain ⟨E, hE⟩ : ∃ E, (intV a).enc = E := ⟨_, rfl⟩
  rw [hm] at hca m1 m2 hpos hneg hlen
  rw [hn] at hcb n1 n2 hpos hneg
  rw [hE] at hea hda hlen
  have d1 : decide ((m : Int) < 2) = false := by simp; omega
  have d2 : decide (11 < (m : Int)) = false := by simp; omega
  have d3 : decide ((n : Int) < 2) = false := by simp; omega
  have d4 : decide (11 < (n : Int)) = false := by simp; omega
  have hcond : (0 ≤ a ∧ a ≤ b ∧ decide (n < m) = false) ∨ (0 ≤ a ∧ ¬ a ≤ b) ∨ (a < 0 ∧ b ≤ a ∧ decide (n < m) = false) ∨ (a < 0 ∧ ¬ b ≤ a) := by
    by_cases h1 : 0 ≤ a
    · by_cases h2 : a ≤ b
      · exact .inl ⟨h1, h2, by have := hpos h1 h2; simp; omega⟩
      · exact .inr (.inl ⟨h1, h2⟩)
    · by_cases h2 : b ≤ a
      · exact .inr (.inr (.inl ⟨by omega, h2, by have := hneg (by omega) h2; simp; omega⟩))
      · exact .inr (.inr (.inr ⟨by omega, h2⟩))
  have HCA := Lib.hid hca
  have HCB := Lib.hid hcb
  have HEA := Lib.hid hea
  have HDA := Lib.hid hda
  have HL := Lib.hid hlen
  have HCOND := Lib.hid hcond
  clear hca hcb hea hda hpos hneg hm hn hE hlen m1 m2 n1 n2 hcond ha hb
  go_enter Try.func9, Try.ntmps9
  go_wp2_with fail
  refine (sane_any _).mono ?_
  rintro e w1 ⟨rfl, hb1⟩
  go_wp2_with fail
  refine (mkInt a _).mono ?_
  rintro e w2 ⟨rfl, hb2⟩
  have hb02 := hb1.trans (hb2.mono hb1.size)
  clear hb1 hb2
  go_wp2_with fail
  refine (HCA.out _).mono ?_
  rintro e w3 ⟨rfl, hb3⟩
  have hb03 := hb02.trans (hb3.mono hb02.size)
  clear hb02 hb3
  go_wp2_with fail
  refine (mkInt b _).mono ?_
  rintro e w4 ⟨rfl, hb4⟩
  have hb04 := hb03.trans (hb4.mono hb03.size)
  clear hb03 hb4
  go_wp2_with fail
  refine (HCB.out _).mono ?_
  rintro e w5 ⟨rfl, hb5⟩
  have hb05 := hb04.trans (hb5.mono hb04.size)
  clear hb04 hb5
  have key : ∀ (K : Prop), (∀ (c1 c2 c3 c4 : Bool), decide (0 ≤ a) = c1 → decide (a ≤ b) = c2 → decide (a < 0) = c3 → decide (b ≤ a) = c4 → (c1 = true ∧ c2 = true ∧ c3 = false ∧ decide (n < m) = false) ∨ (c1 = true ∧ c2 = false ∧ c3 = false) ∨ (c1 = false ∧ c3 = true ∧ c4 = true ∧ decide (n < m) = false) ∨ (c1 = false ∧ c3 = true ∧ c4 = false) → K) → K := by
    intro K hK
    refine hK _ _ _ _ rfl rfl rfl rfl ?_
    rcases HCOND.out with ⟨h1, h2, h3⟩ | ⟨h1, h2⟩ | ⟨h1, h2, h3⟩ | ⟨h1, h2⟩
    · exact .inl ⟨by simpa using h1, by simpa using h2, by simp; omega, h3⟩
    · exact .inr (.inl ⟨by simpa using h1, by simpa using h2, by simp; omega⟩)
    · exact .inr (.inr (.inl ⟨by simp; omega, by simpa using h1, by simpa using h2, h3⟩))
    · exact .inr (.inr (.inr ⟨by simp; omega, by simpa using h1, by simpa using h2⟩))
  refine key _ fun c1 c2 c3 c4 k1 k2 k3 k4 hc => ?_
  clear key
  rcases hc with ⟨rfl, rfl, rfl, h4⟩ | ⟨rfl, rfl, rfl⟩ | ⟨rfl, rfl, rfl, h4⟩ | ⟨rfl, rfl, rfl⟩
  all_goals
    go_wp2_with fail
    refine (mkInt a _).mono ?_
    rintro e w6 ⟨rfl, hb6⟩
    have hb06 := hb05.trans (hb6.mono hb05.size)
    clear hb05 hb6
    go_wp2_with fail
    refine (HEA.out _).mono ?_
    rintro e w7 ⟨v, rfl, g, cap, rfl, hg, hs, hb7⟩
    have hb07 := hb06.trans (hb7.mono hb06.size)
    have HS := Lib.hid hs
    clear hb06 hb7 hs hg
    go_wp2_with fail
    refine (HDA.out _ g cap HS.out).mono ?_
    rintro e w8 ⟨v, rfl, hx, hb8⟩
    unfold intV V.Own at hx
    obtain ⟨_, _, _, al, cp, rfl, _, _, _⟩ := hx
    have hb08 := hb07.trans (hb8.mono hb07.size)
    clear hb07 hb8
    go_wp2
    go_ret
    exact ⟨rfl, hb08.alloc hb08.size _⟩

set_option maxRecDepth 100000 in
theorem num_lifted (os : Os) (started : os.Started) (H : Type) (enc : TypeId × Value → H) :
    ReturnsInHanded {} Try.checked os 9 .any (Rows.codecNumbersSpec.pre6 enc Try.prog Try.f9 Rows.codecNumbersRow.domain false) (Rows.codecNumbersSpec.post enc Try.prog Try.f9 false true false false) := by
  refine returnsInHanded_of_change (C := Try.checked) Try.own started (by kernel_rfl) Try.func9
    (ChangeSpec.witness6 (enc := enc) (C := Try.checked) false ⟨#[], #[.int .i64 0, .int .i64 0], []⟩ 8 (by kernel_rfl) (by kernel_rfl) (by kernel_rfl) (by kernel_rfl)) ?_
  intro W base args ds gs before hval0 hW _ _
  have hval : ∀ (j : Nat) t v, Try.f9.params[j]? = some t → args[j]? = some v → Value.okWide Try.prog W .any base t v := hval0
  have hW' := hW
  obtain ⟨p, q, hA0, hV, rfl, _, _⟩ := hW
  have hA : DataW.TrodAll enc Try.prog W 0 (fun _ => true) true Try.f9.params.toList args.toList ds p := hA0
  rw [Try.params9] at hA hval
  obtain ⟨v0, v1, d0, d1, p0, p1, rfl, rfl, rfl, h0, h1⟩ := trodAll_two hA
  obtain ⟨rfl, rfl⟩ := trodVars_none hV
  obtain ⟨a, rfl, rfl, rfl, wa⟩ := open_int Try.underlying3 (hval 0 3 v0 rfl rfl) h0
  obtain ⟨b, rfl, rfl, rfl, wb⟩ := open_int Try.underlying3 (hval 1 3 v1 rfl rfl) h1
  clear hA0 hval0
  simp only [List.append_nil] at hW'
  refine (lawNum a b (wf64 wa) (wf64 wb) W).mono fun e W' ⟨he, hnx⟩ => ?_
  subst he
  exact ⟨_, rfl, _, _, _, [], _, [], hW', trodAll_mk1 (shut_bool Try.underlying4 _), trodAll_mk2 (shut_int Try.underlying3 wa) (shut_int Try.underlying3 wb), rfl, hnx.frame _, fun h => by cases h⟩

/-- CodecNumbers holds. -/
theorem codecNumbers_holds : Rows.CodecNumbersSaid :=
  OpenClaim.holds_of_wide 9 Try.f9 rfl rfl rfl rfl rfl rfl rfl ⟨rfl, rfl, rfl, rfl, rfl⟩ rfl rfl rfl rfl rfl (by kernel_rfl) Try.func9 (by kernel_rfl)
    (of_decide_eq_true (by kernel_rfl)) (by unfold Func.isWrapper; first | (rw [if_pos (by decide +kernel)]; kernel_rfl) | (rw [if_neg (by decide +kernel)]; exact ⟨rfl, rfl⟩))
    (fun os started H enc _ => num_lifted os started H enc)

end Go.Proofs.Ytkecoohplpbgnaa
