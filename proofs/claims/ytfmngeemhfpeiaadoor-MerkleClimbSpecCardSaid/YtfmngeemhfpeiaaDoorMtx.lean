/- merkle: what is hashed under a tag (text). -/
import Derived.Test.YtfmngeemhfpeiaaDoorMgr
namespace Go.Proofs.YtfmngeemhfpeiaaDoor
open Go.RowKit

theorem flat_take {l : List (List UInt8)} {t : Nat} (h : t < l.length) : (l.take (t + 1)).flatten = (l.take t).flatten ++ l[t] := by
  rw [List.take_succ_eq_append_getElem h, List.flatten_append]
  simp
theorem flat_take_len (l : List (List UInt8)) (t : Nat) : (l.take t).flatten.length ≤ l.flatten.length := by
  have : l.flatten = (l.take t).flatten ++ (l.drop t).flatten := by rw [← List.flatten_append, List.take_append_drop]
  rw [this, List.length_append]
  omega

set_option maxRecDepth 100000 in
set_option maxHeartbeats 4000000 in
theorem mtext_new (w : World) (s : ByteArray) (v : Value) (l : List (List UInt8)) (hv : BRows w w.heap.size v l) (hs : s.size ≤ 900000) (hf : l.flatten.length ≤ 90000000) (hq : l.length ≤ 100000) (hT : Tab w) (h0 : 0 < w.heap.size) :
    Calls Tryd.prog 80 #[.string s, v] w fun e w' => ∃ v', e = .returned v' ∧ NewB w.heap.size w' v' (sha s.data.toList ++ l.flatten) ∧ Below w.heap.size w w' := by
  have hcv := fun (W : World) => Lib.run_convert_string_bytes (P := Tryd.prog) W 9 34 5 s Tryd.underlying9 Tryd.underlying34 Tryd.underlying5
  obtain ⟨a0, cap0, rfl, h1, h2, h3⟩ := hv
  unfold maxLen at h2
  have hrow : ∀ W, Below w.heap.size w W → ∀ t (ht : t < l.length), ∃ b0 off0 da dc, a0 = some ⟨b0, off0, none⟩ ∧ b0 < w.heap.size ∧ W.cell? ⟨b0, off0 + t, none⟩ = some (.slice da l[t].length dc) ∧ BytesAt W W.heap.size (.slice da l[t].length dc) l[t] := fun W hW t ht => by
    obtain ⟨b0, off0, rfl, h4, h5⟩ := h3.resolve_left (fun e => by subst e; exact absurd ht (by simp))
    obtain ⟨d, h6, h7⟩ := h5 t ht
    obtain ⟨da, dc, rfl, _, _, _⟩ := id h7
    exact ⟨b0, off0, da, dc, rfl, h4, (hW.cell (p := ⟨b0, off0 + t, none⟩) h4).trans h6, (h7.below hW).mono hW.size⟩
  have hls : s.data.toList.length = s.size := by rw [Array.length_toList]; rfl
  have HLS := Lib.hid hls
  obtain ⟨S, hS⟩ : ∃ S, sha s.data.toList = S := ⟨_, rfl⟩
  have hSl : S.length = 32 := by rw [← hS, sha_len]
  obtain ⟨cs, hcs⟩ : ∃ cs, cells8 S = cs := ⟨_, rfl⟩
  have hcl : cs.length = 32 := by rw [← hcs, cells8_len, hSl]
  have HZ1 : Hid ((Tryd.prog.info? 30).map (·.size) = some cs.length) := by show _ = _; rw [hcl]; exact Tryd.info30
  have HO1 : Hid (∀ v ∈ cs, v.oneCell' = true) := Lib.hid (by rw [← hcs]; exact one_cells8 _)
  have HCL := Lib.hid hcl
  have HCS := Lib.hid hcs
  have HSL := Lib.hid hSl
  have HSS := Lib.hid hS
  have HFL := Lib.hid hf
  obtain ⟨N, hN⟩ : ∃ N, l.length = N := ⟨_, rfl⟩
  rw [hN] at h1 hq ⊢
  have HROW := Lib.hid hrow
  have HN := Lib.hid hN
  have HT := Lib.hid hT
  clear hls hS hSl hcs hcl hrow h3 hN hT hf
  rw [HSS.out]
  go_enter Tryd.func80, Tryd.ntmps80
  go_wp2_with fail
  refine (sum_any _ _ s.data.toList (bytesWorld_row w s _ (grownCap_ge _ _ _ _) (grownCap_le_maxLen _ _ _ _ (by unfold maxLen; omega))) (by rw [HLS.out]; omega) (HT.out.below (bytesWorld_below w s) h0) (by rw [Lib.bytesWorld_size]; omega)).mono ?_
  rintro e w2 ⟨rfl, hB2⟩
  have hBw2 : Below w.heap.size w w2 := (bytesWorld_below w s).trans (hB2.mono (by rw [Lib.bytesWorld_size]; omega))
  rw [dv_eq, HSS.out, HCS.out]
  have HBW2 := Lib.hid hBw2
  clear hB2 hBw2 hcv
  go_wp2_with (refine store_new rfl 30 _ _ (by rfl) w2.heap.size w2.heap.size cs _ (by rfl) (by rfl) ((Below.refl w2.heap.size w2).alloc (Nat.le_refl _) _) (Nat.le_refl _) (Arr.new w2 _ 30) (by rw [HCL.out]; rfl) HZ1.out HO1.out ?_
               intro W3 hB3 hA3 hz3)
  have HB3 := Lib.hid (HBW2.out.trans (hB3.mono HBW2.out.size))
  have HG3 : Hid (Gro W3 w.heap.size (.slice (some ⟨w2.heap.size, 0, none⟩) 32 32) (S ++ (l.take 0).flatten)) := Lib.hid (by
    rw [List.take_zero, List.flatten_nil, List.append_nil]
    refine ⟨w2.heap.size, 32, by rw [HSL.out], .inl ⟨HSL.out.symm, by rw [HCS.out]; exact hA3, HBW2.out.size, fun e => ?_, by unfold maxLen; omega⟩⟩
    have := HSL.out
    rw [e] at this
    cases this)
  clear hB3 hA3 hz3
  go_loopw [6, 15] (fun s6 i wr => ∃ t : Nat, i = .int .i64 t ∧ t ≤ N ∧ Below w.heap.size w wr ∧ Hid (Gro wr w.heap.size s6 (S ++ (l.take t).flatten))) (fun _ i _ => N - (intOf i).toNat)
  case atStart => exact ⟨0, rfl, by omega, HB3.out, HG3⟩
  case round =>
    obtain ⟨t, rfl, htn, hB, HG⟩ := hrel
    have HB := Lib.hid hB
    clear hB
    by_cases hlt : t < N
    · have htl : t < l.length := by rw [HN.out]; exact hlt
      have f1 : decide ((t : Int) < (N : Int)) = true := by simp; omega
      have f2 : decide (t < N) = true := by simp; omega
      have f3 : (t : Int) < (N : Int) := by omega
      have iw : IntKind.i64.wrap ((t : Int) + 1) = (t : Int) + 1 := by rw [IntKind.wrap_i64]; omega
      obtain ⟨b0, off0, da, dc, rfl, hb0, hcell, hbytes⟩ := HROW.out _ HB.out t htl
      have hbnd : (S ++ (l.take t).flatten).length + l[t].length ≤ 100000000 := by
        have h5 := flat_take_len l (t + 1)
        rw [flat_take htl, List.length_append] at h5
        have := HFL.out
        have := HSL.out
        rw [List.length_append]
        omega
      obtain ⟨v6, W6, hrun6, hG6, hB6⟩ := gro_app HG.out HB.out.size hbytes hbnd
      rw [List.append_assoc, ← flat_take htl] at hG6
      have HR6 := Lib.hid hrun6
      have HG6 := Lib.hid hG6
      have HB6 := Lib.hid (HB.out.trans hB6)
      obtain ⟨L, hL⟩ : ∃ L, l[t].length = L := ⟨_, rfl⟩
      rw [hL] at hcell HR6
      clear hbytes hbnd hrun6 hG6 hB6 hL hb0
      go_wp2_with (refine wpList_plain rfl fun K hK => wp_app_run (.tmp 19) (.tmp 20) 34 34 (by rfl) _ _ _ _ (by rfl) (by rfl) HR6.out (hK _ _ ?_))
      go_roundw
      case rel => exact ⟨t + 1, by simp, by omega, HB6.out, HG6⟩
      case measure => simp [intOf]; omega
    · obtain rfl : t = N := by omega
      have f1 : decide ((t : Int) < (t : Int)) = false := by simp
      have f2 : decide (t < t) = false := by simp
      have hfin : NewB w.heap.size _ _ _ := ⟨HG.out.fresh, HG.out.bytes⟩
      rw [List.take_of_length_le (by rw [HN.out]; exact Nat.le_refl _)] at hfin
      have HF := Lib.hid hfin
      clear hfin
      go_wp2
      go_returns
      exact ⟨_, rfl, HF.out, HB.out⟩
theorem mtext_any (w : World) (s : ByteArray) (v : Value) (l : List (List UInt8)) (hv : BRows w w.heap.size v l) (hs : s.size ≤ 900000) (hf : l.flatten.length ≤ 90000000) (hq : l.length ≤ 100000) (hT : Tab w) (h0 : 0 < w.heap.size) :
    Calls Tryd.prog 80 #[.string s, v] w fun e w' => ∃ v', e = .returned v' ∧ BytesAt w' w'.heap.size v' (sha s.data.toList ++ l.flatten) ∧ Below w.heap.size w w' := by
  refine (mtext_new w s v l hv hs hf hq hT h0).mono ?_
  rintro e w' ⟨v', rfl, h1, h2⟩
  exact ⟨v', rfl, h1.2, h2⟩
end Go.Proofs.YtfmngeemhfpeiaaDoor
