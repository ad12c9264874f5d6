/- merkle: the digests of the leaves (firstRow). -/
import Derived.Test.YtfmngeemhfpeiaaDoorMst
namespace Go.Proofs.YtfmngeemhfpeiaaDoor
open Go.RowKit

/-- One digest behind a row of one's own. -/
theorem digs_app {W : World} {B n : Nat} {v : Value} {xs D : List Value} (h : W.ownsRow B 30 32 v n xs) (hB : B ≤ W.heap.size) (g : Nat) (hD : D.length = 32) (h1 : ∀ u ∈ D, u.oneCell' = true) (hg : W.rangeAt g 0 D) (hn : n ≤ 1000000) :
    ∃ v' W', (Builtin.append_ #[25, 25] 25 #[v, .slice (some ⟨g, 0, none⟩) 1 1]).run Tryd.prog W = .ok v' W' ∧ W'.ownsRow B 30 32 v' (n + 1) (xs ++ D) ∧ Below B W W' := by
  obtain ⟨i, hi, hz0, hz1, hz2⟩ := info_parts Tryd.info26z
  obtain ⟨v', W', hr, h2, h3, _, _⟩ := run_append_own_at (P := Tryd.prog) W B 25 25 30 i _ 32 32 Tryd.underlying25 hi hz0 hz1 hz2 (by simp [Value.cells]) (by omega) v n xs h ⟨g, 0, none⟩ 1 1 D (by rw [hD]) (fun j u hu => by rw [Addr.add_mid]; exact hg j u hu) h1 (by unfold maxLen; omega) (by omega) hB
  exact ⟨v', W', hr, h2, (Below.refl B W).grown h3 hB (fun k e => (h.lt k e).1)⟩
theorem row_of {W : World} {B : Nat} {v : Value} {b : List UInt8} (h : BytesAt W B v b) (hb : b ≠ []) : Row W B v b := by
  obtain ⟨a, c, rfl, h1, h2, h3⟩ := h
  obtain ⟨db, off, rfl, h4, h5⟩ := h3.resolve_left hb
  exact .inr ⟨db, off, c, rfl, h1, h2, h4, h5⟩
theorem leafT_len (b : List UInt8) : (leafT b).length = 32 + b.length := by unfold leafT; rw [List.length_append, sha_len]
theorem leafT_ne (b : List UInt8) : leafT b ≠ [] := fun e => by have := leafT_len b; rw [e] at this; simp at this; omega
/-- The digests of leaves. -/
def firsts (l : List (List UInt8)) : List (List UInt8) := l.map fun b => sha (leafT b)
theorem firsts_len (l : List (List UInt8)) : (firsts l).length = l.length := by unfold firsts; rw [List.length_map]
theorem firsts_32 (l : List (List UInt8)) : ∀ d ∈ firsts l, d.length = 32 := fun d hd => by
  unfold firsts at hd
  obtain ⟨b, _, rfl⟩ := List.mem_map.1 hd
  exact sha_len _
theorem flat_first {l : List (List UInt8)} {t : Nat} (h : t < l.length) : flat (firsts (l.take (t + 1))) = flat (firsts (l.take t)) ++ cells8 (sha (leafT l[t])) := by
  rw [List.take_succ_eq_append_getElem h, ← flat_snoc]
  unfold firsts
  rw [List.map_append]
  rfl

set_option maxRecDepth 100000 in
set_option maxHeartbeats 4000000 in
theorem firstRow_own (w : World) (v : Value) (l : List (List UInt8)) (hv : BRows w w.heap.size v l) (hb : ∀ b ∈ l, b.length ≤ 80000000) (hq : l.length ≤ 100000) (hT : Tab w) (h0 : 0 < w.heap.size) :
    Calls Tryd.prog 43 #[v] w fun e w' => ∃ v', e = .returned v' ∧ w'.ownsRow w.heap.size 30 32 v' l.length (flat (firsts l)) ∧ Below w.heap.size w w' := by
  obtain ⟨a0, cap0, rfl, h1, h2, h3⟩ := hv
  unfold maxLen at h2
  have hrow : ∀ W, Below w.heap.size w W → ∀ t (ht : t < l.length), ∃ b0 off0 da dc, a0 = some ⟨b0, off0, none⟩ ∧ b0 < w.heap.size ∧ W.cell? ⟨b0, off0 + t, none⟩ = some (.slice da l[t].length dc) ∧ BytesAt W W.heap.size (.slice da l[t].length dc) l[t] := fun W hW t ht => by
    obtain ⟨b0, off0, rfl, h4, h5⟩ := h3.resolve_left (fun e => by subst e; exact absurd ht (by simp))
    obtain ⟨d, h6, h7⟩ := h5 t ht
    obtain ⟨da, dc, rfl, _, _, _⟩ := id h7
    exact ⟨b0, off0, da, dc, rfl, h4, (hW.cell (p := ⟨b0, off0 + t, none⟩) h4).trans h6, (h7.below hW).mono hW.size⟩
  obtain ⟨N, hN⟩ : ∃ N, l.length = N := ⟨_, rfl⟩
  rw [hN] at h1 hq ⊢
  have HROW := Lib.hid hrow
  have HN := Lib.hid hN
  have HT := Lib.hid hT
  have HBL := Lib.hid hb
  clear hrow h3 hN hT hb
  go_enter Tryd.func43, Tryd.ntmps43
  go_wp2
  go_loopw [2, 7] (fun s2 i wr => ∃ t : Nat, i = .int .i64 t ∧ t ≤ N ∧ Below w.heap.size w wr ∧ Hid (wr.ownsRow w.heap.size 30 32 s2 t (flat (firsts (l.take t))))) (fun _ i _ => N - (intOf i).toNat)
  case atStart => exact ⟨0, rfl, by omega, Below.refl _ _, Lib.hid (World.ownsRow_nil w w.heap.size 30 32)⟩
  case round =>
    obtain ⟨t, rfl, htn, hB, HO⟩ := hrel
    have HB := Lib.hid hB
    clear hB
    by_cases hlt : t < N
    · have htl : t < l.length := by rw [HN.out]; exact hlt
      have f1 : decide ((t : Int) < (N : Int)) = true := by simp; omega
      have f2 : decide (t < N) = true := by simp; omega
      have f3 : (t : Int) < (N : Int) := by omega
      have iw : IntKind.i64.wrap ((t : Int) + 1) = (t : Int) + 1 := by rw [IntKind.wrap_i64]; omega
      obtain ⟨b0, off0, da, dc, rfl, hb0, hcell, hbytes⟩ := HROW.out _ HB.out t htl
      have hfl := flat_first htl
      have hbl := HBL.out _ (List.getElem_mem htl)
      obtain ⟨lf, hlf⟩ : ∃ lf, l[t] = lf := ⟨_, rfl⟩
      rw [hlf] at hcell hbytes hfl hbl
      obtain ⟨L, hL⟩ : ∃ L, lf.length = L := ⟨_, rfl⟩
      rw [hL] at hcell hbytes
      have HBY := Lib.hid hbytes
      have HFL := Lib.hid hfl
      have HBN := Lib.hid hbl
      clear hbytes hfl hbl hlf hL hb0
      go_wp2_with fail
      refine (leafText_any wr _ lf HBY.out HBN.out (HT.out.below HB.out h0) (by have := HB.out.size; omega)).mono ?_
      rintro e w2 ⟨v2, rfl, hv2, hb2⟩
      have HB2 := Lib.hid (HB.out.trans (hb2.mono HB.out.size))
      have HO2 := Lib.hid (own_after hb2 HO.out)
      have HV2 := Lib.hid hv2
      clear hv2 hb2
      go_wp2_with fail
      refine (sum_any w2 v2 (leafT lf) (row_of HV2.out (leafT_ne lf)) (by rw [leafT_len]; have := HBN.out; omega) (HT.out.below HB2.out h0) (by have := HB2.out.size; omega)).mono ?_
      rintro e w3 ⟨rfl, hb3⟩
      have HB3 := Lib.hid (HB2.out.trans (hb3.mono HB2.out.size))
      have HO3 := Lib.hid (own_after hb3 HO2.out)
      clear hb3
      rw [dv_eq]
      have hdl : (cells8 (sha (leafT lf))).length = 32 := by rw [cells8_len, sha_len]
      have hd1 := one_cells8 (sha (leafT lf))
      obtain ⟨D, hD⟩ : ∃ D, cells8 (sha (leafT lf)) = D := ⟨_, rfl⟩
      rw [hD] at hdl hd1 ⊢
      have HFD : Hid (flat (firsts (l.take (t + 1))) = flat (firsts (l.take t)) ++ D) := Lib.hid (by rw [HFL.out, hD])
      have HDL := Lib.hid hdl
      have HD1 := Lib.hid hd1
      clear hdl hd1 hD
      go_wp2_with (first
        | (refine wpList_plain rfl fun K hK => wp_one30 (.tmp 14) (by rfl) D (by rfl) HDL.out ?_
           intro g4 W4 hg4 hlt4 hG4 hr4
           have hB4 : Below w3.heap.size w3 W4 := (Below.refl _ _).grown hG4 (Nat.le_refl _) (fun k e => by cases e)
           obtain ⟨v5, W5, hrun5, hO5, hB5⟩ := digs_app (own_after hB4 HO3.out) (by have := HB3.out.size; have := hB4.size; omega) g4 HDL.out HD1.out hr4 (by omega)
           have HR5 := Lib.hid hrun5
           have HO5 := Lib.hid hO5
           have HB5 := Lib.hid ((HB3.out.trans (hB4.mono HB3.out.size)).trans hB5)
           clear hrun5 hO5 hB5 hB4 hr4 hG4
           refine hK _ _ ?_)
        | (refine wpList_plain rfl fun K hK => wp_app_run (.tmp 11) (.tmp 15) 25 25 (by rfl) _ _ _ _ (by rfl) (by rfl) HR5.out (hK _ _ ?_)))
      go_roundw
      case rel => exact ⟨t + 1, by simp, by omega, HB5.out, Lib.hid (by rw [HFD.out]; exact HO5.out)⟩
      case measure => simp [intOf]; omega
    · obtain rfl : t = N := by omega
      have f1 : decide ((t : Int) < (t : Int)) = false := by simp
      have f2 : decide (t < t) = false := by simp
      have hfin := HO.out
      rw [List.take_of_length_le (by rw [HN.out]; exact Nat.le_refl _)] at hfin
      have HF := Lib.hid hfin
      clear hfin
      go_wp2
      go_returns
      exact ⟨_, rfl, HF.out, HB.out⟩
theorem firstRow_any (w : World) (v : Value) (l : List (List UInt8)) (hv : BRows w w.heap.size v l) (hb : ∀ b ∈ l, b.length ≤ 80000000) (hq : l.length ≤ 100000) (hT : Tab w) (h0 : 0 < w.heap.size) :
    Calls Tryd.prog 43 #[v] w fun e w' => ∃ v', e = .returned v' ∧ Digs w' w'.heap.size v' (firsts l) ∧ Below w.heap.size w w' := by
  refine (firstRow_own w v l hv hb hq hT h0).mono ?_
  rintro e w' ⟨v', rfl, h1, h2⟩
  exact ⟨v', rfl, own_digs' h1 (firsts_len l) (firsts_32 l), h2⟩
end Go.Proofs.YtfmngeemhfpeiaaDoor
