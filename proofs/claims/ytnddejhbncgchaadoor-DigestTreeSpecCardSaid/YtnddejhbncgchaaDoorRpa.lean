/- The reference's padding. -/
import Derived.Test.YtnddejhbncgchaaDoorRpd
namespace Go.Proofs.YtnddejhbncgchaaDoor
open Go.RowKit

theorem be64_len (m : Nat) : (be64 m).length = 8 := rfl
/-- How many zeros there are. -/
def zs (n : Nat) : Nat := (119 - n % 64) % 64
theorem pad_eq (b : List UInt8) : pad b = (b ++ 0x80 :: List.replicate (zs b.length) 0) ++ be64 (8 * b.length) := by simp [pad, zs]
theorem cells8_append (a b : List UInt8) : cells8 a ++ cells8 b = cells8 (a ++ b) := by simp [cells8]
theorem buildOne (W : World) (x : Int) : (Instr.buildSlice 22 1 (List.toArray [(0, .int .u8 x)])).run Tryd.prog W = .ok (.slice (some ⟨W.heap.size, 0, none⟩) 1 1) (W.alloc (.cells #[.int .u8 x] 5)) := by
  obtain ⟨i, hi, h⟩ := Option.map_eq_some_iff.1 Tryd.infoU8
  simp only [Prod.mk.injEq] at h
  have hn : ∀ C, (newRow 5 C).run Tryd.prog W = .ok ⟨W.heap.size, 0, none⟩ (W.alloc (.cells C 5)) := fun _ => rfl
  simp [Instr.buildSlice, run_underlying Tryd.underlying22, sizeOf, typeInfo, zeroValue, hi, h.1, h.2.1, Value.cells]
  simp [Instr.fill, hn, Value.cells]
  have hz2 : (Array.map (fun x => [Value.int IntKind.u8 0][x % 1]?.getD default) (Array.range 1)) = #[Value.int IntKind.u8 0] := by kernel_rfl
  rw [hz2]
  rfl

set_option maxRecDepth 100000 in
set_option maxHeartbeats 4000000 in
theorem padded_any (w : World) (v : Value) (b : List UInt8) (hv : BytesAt w w.heap.size v b) (hb : b.length ≤ 1000000) :
    Calls Tryd.prog 32 #[v] w fun e w' => ∃ g c, e = .returned (.slice (some ⟨g, 0, none⟩) (pad b).length c) ∧ w'.ownsRow w.heap.size 5 1 (.slice (some ⟨g, 0, none⟩) (pad b).length c) (pad b).length (cells8 (pad b)) ∧ Below w.heap.size w w' := by
  obtain ⟨j0, hj0, hy0, hy1, hy2⟩ := info_parts Tryd.infoU8
  have HPV := Lib.hid (piece_bytes hv)
  have HPD := Lib.hid (pad_eq b)
  have hv' := hv
  obtain ⟨a, cap, rfl, hnc, hcm, _⟩ := hv'
  obtain ⟨n, hn⟩ : ∃ n, b.length = n := ⟨_, rfl⟩
  rw [hn] at hb HPV HPD ⊢
  have HN := Lib.hid hn
  have HJ := Lib.hid hj0
  have HY0 := Lib.hid hy0
  have HY1 := Lib.hid hy1
  have HY2 := Lib.hid hy2
  have hz64 : zs n < 64 := Nat.mod_lt _ (by omega)
  have hzm : (n + 1 + zs n) % 64 = 56 := by unfold zs; omega
  have hzn : ∀ z, z < zs n → (n + 1 + z) % 64 ≠ 56 := fun z hz => by unfold zs at hz; omega
  obtain ⟨Z, hZ⟩ : ∃ Z, zs n = Z := ⟨_, rfl⟩
  rw [hZ] at hz64 hzm hzn HPD
  have HZM := Lib.hid hzm
  have HZN := Lib.hid hzn
  clear hv hnc hcm hj0 hy0 hy1 hy2 hn hzm hzn hZ
  have hw0 : Below w.heap.size w w := Below.refl _ _
  go_enter Tryd.func32, Tryd.ntmps32
  go_wp2_with (first
    | (refine wpList_buildSlice_run rfl 22 0 [] (by rfl) [] _ (by rfl) (bs0_22 _) ?_; simp only [Act.put, List.setIfInBounds_toArray, List.set_cons_zero, List.set_cons_succ])
    | (refine wpList_buildSlice_run rfl 22 1 [(0, Operand.const (.int .u8 128))] (by rfl) [(0, .int .u8 128)] _ (by rfl) (buildOne _ _) ?_; simp only [Act.put, List.setIfInBounds_toArray, List.set_cons_zero, List.set_cons_succ])
    | (refine wpList_piece 22 5 j0 _ 1 1 Tryd.underlying22 HJ.out HY0.out HY1.out HY2.out rfl (by omega) (by rfl) (.tmp 6) (.tmp 7) (by rfl) (base := w.heap.size) (by rfl) (World.ownsRow_made w #[] 0 (Nat.le_refl _) (by unfold maxLen; omega) rfl) (by rfl) (HPV.out.kept ((Below.refl _ _).alloc (Nat.le_refl _) _)) (by rw [cells8_len, HN.out]; omega) (one_cells8 _) (by unfold maxLen; omega) (by omega) (by simp) n (by omega) (cells8 b) (by simp) ?_
       intro hg0 g1 c1 W1 hO1 hG1 hat1
       have hB1 : Below w.heap.size w W1 := below_grow (((Below.refl w.heap.size w)).alloc (Nat.le_refl _) _) hG1 (fun k e => by cases e; exact hg0) (by simp)
       simp only [Act.put, List.setIfInBounds_toArray, List.set_cons_zero, List.set_cons_succ])
    | (refine wpList_piece 22 5 j0 _ 1 1 Tryd.underlying22 HJ.out HY0.out HY1.out HY2.out rfl (by omega) (by rfl) (.tmp 8) (.tmp 9) (by rfl) (base := w.heap.size) (by rfl) (hO1.alloc _) (by rfl) (piece_row (n := 1) (c := 1) ((Arr.new W1 #[.int .u8 128] 5).at_)) rfl (by simp [Value.oneCell']) (by unfold maxLen; omega) (by omega) (by have := hB1.size; simp; omega) (n + 1) rfl (cells8 (b ++ [0x80])) (by rw [← cells8_append]; rfl) ?_
       intro hg1 g2 c2 W2 hO2 hG2 hat2
       have hB2 : Below w.heap.size w W2 := below_grow (hB1.alloc hB1.size _) hG2 (fun k e => by cases e; exact hg1) (by have := hB1.size; simp; omega)
       simp only [Act.put, List.setIfInBounds_toArray, List.set_cons_zero, List.set_cons_succ]))
  have HO2 := Lib.hid hO2
  have HB2 := Lib.hid hB2
  clear hO1 hG1 hat1 hB1 hO2 hG2 hat2 hB2
  have hone : ∀ (W : World) (x : Nat), x < 256 → Piece (W.alloc (.cells #[.int .u8 (x : Int)] 5)) (.slice (some ⟨W.heap.size, 0, none⟩) 1 1) 1 (cells8 [UInt8.ofNat x]) := fun W x hx => by
    have h := piece_row (n := 1) (c := 1) ((Arr.new W #[.int .u8 (x : Int)] 5).at_)
    have e : cells8 [UInt8.ofNat x] = [.int .u8 (x : Int)] := by simp [cells8]; omega
    rw [e]; exact h
  have HONE := Lib.hid hone
  clear hone
  go_loopw [3] (fun s W => ∃ z g c : Nat, s = .slice (some ⟨g, 0, none⟩) (n + 1 + z) c ∧ z ≤ Z ∧ Below w.heap.size w W ∧ W.ownsRow w.heap.size 5 1 (.slice (some ⟨g, 0, none⟩) (n + 1 + z) c) (n + 1 + z) (cells8 (b ++ 0x80 :: List.replicate z 0)))
    (fun s _ => match s with | .slice _ k _ => n + 1 + Z - k | _ => 0)
  case atStart => exact ⟨0, _, _, rfl, by omega, HB2.out, HO2.out⟩
  case round =>
    obtain ⟨z, g, c, rfl, hz, hB, hO⟩ := hrel
    have HB := Lib.hid hB
    have HO := Lib.hid hO
    clear hB hO
    by_cases hlt : z < Z
    · have hne := HZN.out z hlt
      have d1 : (((n + 1 + z : Nat) : Int) % 64 != 56) = true := by simp; omega
      have d1' : (((n : Int) + 1 + (z : Int)) % 64 != 56) = true := by simp; omega
      have d2 : ¬ ((n : Int) + 1 + (z : Int)) % 64 = 56 := by omega
      clear hne
      go_wp2_with (first
        | (refine wpList_buildSlice_run rfl 22 1 [(0, Operand.const (.int .u8 0))] (by rfl) [(0, .int .u8 0)] _ (by rfl) (buildOne _ _) ?_; simp only [Act.put, List.setIfInBounds_toArray, List.set_cons_zero, List.set_cons_succ])
        | (refine wpList_piece 22 5 j0 _ 1 1 Tryd.underlying22 HJ.out HY0.out HY1.out HY2.out rfl (by omega) (by rfl) (.tmp 15) (.tmp 16) (by rfl) (base := w.heap.size) (by rfl) (HO.out.alloc _) (by rfl) (HONE.out wr 0 (by omega)) rfl (one_cells8 _) (by unfold maxLen; omega) (by omega) (by have := HB.out.size; simp; omega) (n + 1 + (z + 1)) (by omega) (cells8 (b ++ 0x80 :: List.replicate (z + 1) 0)) (by rw [cells8_append, List.append_assoc, List.cons_append, List.replicate_succ']; rfl) ?_
           intro hg1 g2 c2 W2 hO2 hG2 hat2
           have hB2 : Below w.heap.size w W2 := below_grow (HB.out.alloc HB.out.size _) hG2 (fun k e => by cases e; exact hg1) (by have := HB.out.size; simp; omega)
           have HO3 := Lib.hid hO2
           have HB3 := Lib.hid hB2
           clear hO2 hB2 hG2 hat2
           simp only [Act.put, List.setIfInBounds_toArray, List.set_cons_zero, List.set_cons_succ]))
      go_roundw
      case rel => exact ⟨z + 1, _, _, rfl, by omega, HB3.out, HO3.out⟩
      case measure => simp; omega
    · obtain rfl : z = Z := by omega
      have hzm := HZM.out
      have d1 : (((n + 1 + z : Nat) : Int) % 64 != 56) = false := by simp; omega
      have d1' : (((n : Int) + 1 + (z : Int)) % 64 != 56) = false := by simp; omega
      have d2 : ((n : Int) + 1 + (z : Int)) % 64 = 56 := by omega
      have q1 : IntKind.u64.wrap (n : Int) = (n : Int) := by rw [IntKind.wrap_u64]; omega
      have q2 : IntKind.u64.wrap ((n : Int) * 8) = (n : Int) * 8 := by rw [IntKind.wrap_u64]; omega
      clear hzm
      obtain ⟨M, hM⟩ : ∃ M, 8 * n = M := ⟨_, rfl⟩
      have HM := Lib.hid hM
      have hMb : M ≤ 8000000 := by omega
      have m1 : (n : Int) * 8 = (M : Int) := by omega
      have HE : Hid (∀ (W : World) (e : Int) (c : UInt8), e = (c.toNat : Int) → Piece (W.alloc (.cells #[.int .u8 e] 5)) (.slice (some ⟨W.heap.size, 0, none⟩) 1 1) 1 (cells8 [c])) := Lib.hid fun W e c he => by
        subst he
        exact piece_row (n := 1) (c := 1) ((Arr.new W #[.int .u8 (c.toNat : Int)] 5).at_)
      rw [hM] at HPD
      clear hM
      go_wp2_with fail
      clear m1 q1 q2
      obtain ⟨N1, hN1⟩ : ∃ N1, n + 1 + z = N1 := ⟨_, rfl⟩
      have hNb : N1 ≤ 1000100 := by omega
      have HN1 := Lib.hid hN1
      obtain ⟨B1, hB1⟩ : ∃ B1, b ++ 0x80 :: List.replicate z 0 = B1 := ⟨_, rfl⟩
      have HBB := Lib.hid hB1
      have HO := HO
      rw [hN1, hB1] at HO
      rw [hB1] at HPD
      rw [hN1]
      clear hN1 hB1 d1 d1' d2
      go_loopw [3, 5] (fun s i W => ∃ j g c : Nat, j ≤ 8 ∧ i = .int .i64 (7 - (j : Int)) ∧ s = .slice (some ⟨g, 0, none⟩) (N1 + j) c ∧ Below w.heap.size w W ∧ W.ownsRow w.heap.size 5 1 (.slice (some ⟨g, 0, none⟩) (N1 + j) c) (N1 + j) (cells8 (B1 ++ (be64 M).take j)))
        (fun _ i _ => (intOf i + 1).toNat)
      case atStart => exact ⟨0, _, _, by omega, rfl, rfl, HB.out, by have h := HO.out; simpa using h⟩
      case round =>
        obtain ⟨j, g5, c5, hj, rfl, rfl, hB5, hO5⟩ := hrel
        have HB5 := Lib.hid hB5
        have HO5 := Lib.hid hO5
        clear hB5 hO5
        have hjj : j = 0 ∨ j = 1 ∨ j = 2 ∨ j = 3 ∨ j = 4 ∨ j = 5 ∨ j = 6 ∨ j = 7 ∨ j = 8 := by omega
        clear hj
        rcases hjj with rfl | rfl | rfl | rfl | rfl | rfl | rfl | rfl | rfl
        · go_wp2_with (first
            | (refine wpList_buildSlice_run rfl 22 1 [(0, Operand.tmp 31)] (by rfl) _ _ (by rfl) (buildOne _ _) ?_; simp only [Act.put, List.setIfInBounds_toArray, List.set_cons_zero, List.set_cons_succ])
            | (refine wpList_piece 22 5 j0 _ 1 1 Tryd.underlying22 HJ.out HY0.out HY1.out HY2.out rfl (by omega) (by rfl) (.tmp 26) (.tmp 32) (by rfl) (base := w.heap.size) (by rfl) (HO5.out.alloc _) (by rfl) (HE.out wr _ (UInt8.ofNat (M / 2^56)) (by first | (simp; done) | (simp; omega) | omega)) rfl (one_cells8 _) (by unfold maxLen; omega) (by omega) (by have := HB5.out.size; simp; omega) (N1 + 1) (by omega) (cells8 (B1 ++ (be64 M).take 1)) (by rw [cells8_append, List.append_assoc]; rfl) ?_
               intro hg1 g2 c2 W2 hO2 hG2 hat2
               have hB2 : Below w.heap.size w W2 := below_grow (HB5.out.alloc HB5.out.size _) hG2 (fun k e => by cases e; exact hg1) (by have := HB5.out.size; simp; omega)
               have HO3 := Lib.hid hO2
               have HB3 := Lib.hid hB2
               clear hO2 hB2 hG2 hat2
               simp only [Act.put, List.setIfInBounds_toArray, List.set_cons_zero, List.set_cons_succ]))
          go_roundw
          case rel => exact ⟨1, _, _, by omega, by simp, rfl, HB3.out, HO3.out⟩
          case measure => simp [intOf]
        · go_wp2_with (first
            | (refine wpList_buildSlice_run rfl 22 1 [(0, Operand.tmp 31)] (by rfl) _ _ (by rfl) (buildOne _ _) ?_; simp only [Act.put, List.setIfInBounds_toArray, List.set_cons_zero, List.set_cons_succ])
            | (refine wpList_piece 22 5 j0 _ 1 1 Tryd.underlying22 HJ.out HY0.out HY1.out HY2.out rfl (by omega) (by rfl) (.tmp 26) (.tmp 32) (by rfl) (base := w.heap.size) (by rfl) (HO5.out.alloc _) (by rfl) (HE.out wr _ (UInt8.ofNat (M / 2^48)) (by first | (simp; done) | (simp; omega) | omega)) rfl (one_cells8 _) (by unfold maxLen; omega) (by omega) (by have := HB5.out.size; simp; omega) (N1 + 2) (by omega) (cells8 (B1 ++ (be64 M).take 2)) (by rw [cells8_append, List.append_assoc]; rfl) ?_
               intro hg1 g2 c2 W2 hO2 hG2 hat2
               have hB2 : Below w.heap.size w W2 := below_grow (HB5.out.alloc HB5.out.size _) hG2 (fun k e => by cases e; exact hg1) (by have := HB5.out.size; simp; omega)
               have HO3 := Lib.hid hO2
               have HB3 := Lib.hid hB2
               clear hO2 hB2 hG2 hat2
               simp only [Act.put, List.setIfInBounds_toArray, List.set_cons_zero, List.set_cons_succ]))
          go_roundw
          case rel => exact ⟨2, _, _, by omega, by simp, rfl, HB3.out, HO3.out⟩
          case measure => simp [intOf]
        · go_wp2_with (first
            | (refine wpList_buildSlice_run rfl 22 1 [(0, Operand.tmp 31)] (by rfl) _ _ (by rfl) (buildOne _ _) ?_; simp only [Act.put, List.setIfInBounds_toArray, List.set_cons_zero, List.set_cons_succ])
            | (refine wpList_piece 22 5 j0 _ 1 1 Tryd.underlying22 HJ.out HY0.out HY1.out HY2.out rfl (by omega) (by rfl) (.tmp 26) (.tmp 32) (by rfl) (base := w.heap.size) (by rfl) (HO5.out.alloc _) (by rfl) (HE.out wr _ (UInt8.ofNat (M / 2^40)) (by first | (simp; done) | (simp; omega) | omega)) rfl (one_cells8 _) (by unfold maxLen; omega) (by omega) (by have := HB5.out.size; simp; omega) (N1 + 3) (by omega) (cells8 (B1 ++ (be64 M).take 3)) (by rw [cells8_append, List.append_assoc]; rfl) ?_
               intro hg1 g2 c2 W2 hO2 hG2 hat2
               have hB2 : Below w.heap.size w W2 := below_grow (HB5.out.alloc HB5.out.size _) hG2 (fun k e => by cases e; exact hg1) (by have := HB5.out.size; simp; omega)
               have HO3 := Lib.hid hO2
               have HB3 := Lib.hid hB2
               clear hO2 hB2 hG2 hat2
               simp only [Act.put, List.setIfInBounds_toArray, List.set_cons_zero, List.set_cons_succ]))
          go_roundw
          case rel => exact ⟨3, _, _, by omega, by simp, rfl, HB3.out, HO3.out⟩
          case measure => simp [intOf]
        · go_wp2_with (first
            | (refine wpList_buildSlice_run rfl 22 1 [(0, Operand.tmp 31)] (by rfl) _ _ (by rfl) (buildOne _ _) ?_; simp only [Act.put, List.setIfInBounds_toArray, List.set_cons_zero, List.set_cons_succ])
            | (refine wpList_piece 22 5 j0 _ 1 1 Tryd.underlying22 HJ.out HY0.out HY1.out HY2.out rfl (by omega) (by rfl) (.tmp 26) (.tmp 32) (by rfl) (base := w.heap.size) (by rfl) (HO5.out.alloc _) (by rfl) (HE.out wr _ (UInt8.ofNat (M / 2^32)) (by first | (simp; done) | (simp; omega) | omega)) rfl (one_cells8 _) (by unfold maxLen; omega) (by omega) (by have := HB5.out.size; simp; omega) (N1 + 4) (by omega) (cells8 (B1 ++ (be64 M).take 4)) (by rw [cells8_append, List.append_assoc]; rfl) ?_
               intro hg1 g2 c2 W2 hO2 hG2 hat2
               have hB2 : Below w.heap.size w W2 := below_grow (HB5.out.alloc HB5.out.size _) hG2 (fun k e => by cases e; exact hg1) (by have := HB5.out.size; simp; omega)
               have HO3 := Lib.hid hO2
               have HB3 := Lib.hid hB2
               clear hO2 hB2 hG2 hat2
               simp only [Act.put, List.setIfInBounds_toArray, List.set_cons_zero, List.set_cons_succ]))
          go_roundw
          case rel => exact ⟨4, _, _, by omega, by simp, rfl, HB3.out, HO3.out⟩
          case measure => simp [intOf]
        · go_wp2_with (first
            | (refine wpList_buildSlice_run rfl 22 1 [(0, Operand.tmp 31)] (by rfl) _ _ (by rfl) (buildOne _ _) ?_; simp only [Act.put, List.setIfInBounds_toArray, List.set_cons_zero, List.set_cons_succ])
            | (refine wpList_piece 22 5 j0 _ 1 1 Tryd.underlying22 HJ.out HY0.out HY1.out HY2.out rfl (by omega) (by rfl) (.tmp 26) (.tmp 32) (by rfl) (base := w.heap.size) (by rfl) (HO5.out.alloc _) (by rfl) (HE.out wr _ (UInt8.ofNat (M / 2^24)) (by first | (simp; done) | (simp; omega) | omega)) rfl (one_cells8 _) (by unfold maxLen; omega) (by omega) (by have := HB5.out.size; simp; omega) (N1 + 5) (by omega) (cells8 (B1 ++ (be64 M).take 5)) (by rw [cells8_append, List.append_assoc]; rfl) ?_
               intro hg1 g2 c2 W2 hO2 hG2 hat2
               have hB2 : Below w.heap.size w W2 := below_grow (HB5.out.alloc HB5.out.size _) hG2 (fun k e => by cases e; exact hg1) (by have := HB5.out.size; simp; omega)
               have HO3 := Lib.hid hO2
               have HB3 := Lib.hid hB2
               clear hO2 hB2 hG2 hat2
               simp only [Act.put, List.setIfInBounds_toArray, List.set_cons_zero, List.set_cons_succ]))
          go_roundw
          case rel => exact ⟨5, _, _, by omega, by simp, rfl, HB3.out, HO3.out⟩
          case measure => simp [intOf]
        · go_wp2_with (first
            | (refine wpList_buildSlice_run rfl 22 1 [(0, Operand.tmp 31)] (by rfl) _ _ (by rfl) (buildOne _ _) ?_; simp only [Act.put, List.setIfInBounds_toArray, List.set_cons_zero, List.set_cons_succ])
            | (refine wpList_piece 22 5 j0 _ 1 1 Tryd.underlying22 HJ.out HY0.out HY1.out HY2.out rfl (by omega) (by rfl) (.tmp 26) (.tmp 32) (by rfl) (base := w.heap.size) (by rfl) (HO5.out.alloc _) (by rfl) (HE.out wr _ (UInt8.ofNat (M / 2^16)) (by first | (simp; done) | (simp; omega) | omega)) rfl (one_cells8 _) (by unfold maxLen; omega) (by omega) (by have := HB5.out.size; simp; omega) (N1 + 6) (by omega) (cells8 (B1 ++ (be64 M).take 6)) (by rw [cells8_append, List.append_assoc]; rfl) ?_
               intro hg1 g2 c2 W2 hO2 hG2 hat2
               have hB2 : Below w.heap.size w W2 := below_grow (HB5.out.alloc HB5.out.size _) hG2 (fun k e => by cases e; exact hg1) (by have := HB5.out.size; simp; omega)
               have HO3 := Lib.hid hO2
               have HB3 := Lib.hid hB2
               clear hO2 hB2 hG2 hat2
               simp only [Act.put, List.setIfInBounds_toArray, List.set_cons_zero, List.set_cons_succ]))
          go_roundw
          case rel => exact ⟨6, _, _, by omega, by simp, rfl, HB3.out, HO3.out⟩
          case measure => simp [intOf]
        · go_wp2_with (first
            | (refine wpList_buildSlice_run rfl 22 1 [(0, Operand.tmp 31)] (by rfl) _ _ (by rfl) (buildOne _ _) ?_; simp only [Act.put, List.setIfInBounds_toArray, List.set_cons_zero, List.set_cons_succ])
            | (refine wpList_piece 22 5 j0 _ 1 1 Tryd.underlying22 HJ.out HY0.out HY1.out HY2.out rfl (by omega) (by rfl) (.tmp 26) (.tmp 32) (by rfl) (base := w.heap.size) (by rfl) (HO5.out.alloc _) (by rfl) (HE.out wr _ (UInt8.ofNat (M / 2^8)) (by first | (simp; done) | (simp; omega) | omega)) rfl (one_cells8 _) (by unfold maxLen; omega) (by omega) (by have := HB5.out.size; simp; omega) (N1 + 7) (by omega) (cells8 (B1 ++ (be64 M).take 7)) (by rw [cells8_append, List.append_assoc]; rfl) ?_
               intro hg1 g2 c2 W2 hO2 hG2 hat2
               have hB2 : Below w.heap.size w W2 := below_grow (HB5.out.alloc HB5.out.size _) hG2 (fun k e => by cases e; exact hg1) (by have := HB5.out.size; simp; omega)
               have HO3 := Lib.hid hO2
               have HB3 := Lib.hid hB2
               clear hO2 hB2 hG2 hat2
               simp only [Act.put, List.setIfInBounds_toArray, List.set_cons_zero, List.set_cons_succ]))
          go_roundw
          case rel => exact ⟨7, _, _, by omega, by simp, rfl, HB3.out, HO3.out⟩
          case measure => simp [intOf]
        · go_wp2_with (first
            | (refine wpList_buildSlice_run rfl 22 1 [(0, Operand.tmp 31)] (by rfl) _ _ (by rfl) (buildOne _ _) ?_; simp only [Act.put, List.setIfInBounds_toArray, List.set_cons_zero, List.set_cons_succ])
            | (refine wpList_piece 22 5 j0 _ 1 1 Tryd.underlying22 HJ.out HY0.out HY1.out HY2.out rfl (by omega) (by rfl) (.tmp 26) (.tmp 32) (by rfl) (base := w.heap.size) (by rfl) (HO5.out.alloc _) (by rfl) (HE.out wr _ (UInt8.ofNat M) (by first | (simp; done) | (simp; omega) | omega)) rfl (one_cells8 _) (by unfold maxLen; omega) (by omega) (by have := HB5.out.size; simp; omega) (N1 + 8) (by omega) (cells8 (B1 ++ (be64 M).take 8)) (by rw [cells8_append, List.append_assoc]; rfl) ?_
               intro hg1 g2 c2 W2 hO2 hG2 hat2
               have hB2 : Below w.heap.size w W2 := below_grow (HB5.out.alloc HB5.out.size _) hG2 (fun k e => by cases e; exact hg1) (by have := HB5.out.size; simp; omega)
               have HO3 := Lib.hid hO2
               have HB3 := Lib.hid hB2
               clear hO2 hB2 hG2 hat2
               simp only [Act.put, List.setIfInBounds_toArray, List.set_cons_zero, List.set_cons_succ]))
          go_roundw
          case rel => exact ⟨8, _, _, by omega, by simp, rfl, HB3.out, HO3.out⟩
          case measure => simp [intOf]
        · have hpl : (pad b).length = N1 + 8 := by rw [HPD.out, List.length_append, be64_len, ← HBB.out, ← HN1.out, List.length_append, HN.out]; simp; omega
          have hO9 := HO5.out
          rw [show (be64 M).take 8 = be64 M from rfl, ← HPD.out] at hO9
          have HO9 := Lib.hid hO9
          have HPL := Lib.hid hpl
          clear hO9 hpl
          go_wp2
          go_ret
          refine ⟨g5, c5, ?_, by rw [HPL.out]; exact HO9.out, HB5.out⟩
          show Ending.returned (.slice (some ⟨g5, 0, none⟩) (N1 + 8) c5) = _
          rw [HPL.out]
end Go.Proofs.YtnddejhbncgchaaDoor
