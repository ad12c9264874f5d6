/- text.Join: the bytes of code points, one after the other. -/
import Derived.Test.YtilkhamlhbbmgaaDoorRun
import Derived.Lib.ConvBytes
import Derived.Lib.SlBytesRow
namespace Go.Proofs.YtilkhamlhbbmgaaDoor
open Go.RowKit

theorem size_mk (bs : List UInt8) : (⟨bs.toArray⟩ : ByteArray).size = bs.length := by show bs.toArray.size = _; simp
theorem conv_bytes (W : World) (a : Option Addr) (bs : List UInt8) (cap : Nat) (h : bs = [] ∨ ∃ b off, a = some ⟨b, off, none⟩ ∧ ∀ i (h : i < bs.length), W.cell? ⟨b, off + i, none⟩ = some (.int .u8 (bs[i]).toNat)) :
    (convert 39 9 (.slice a bs.length cap)).run Tryd.prog W = .ok (.string (str bs)) W := by
  rcases h with h | ⟨b, off, rfl, h⟩
  · subst h
    rw [run_convert_bytes_string W 39 9 5 a _ _ Tryd.underlying39 Tryd.underlying5 Tryd.underlying9]
    cases a <;> simp [Conv.bytesToString, loadCells, loadCellsFrom] <;> rfl
  · have := Lib.run_convert_whole (P := Tryd.prog) W 39 5 9 Tryd.underlying39 Tryd.underlying5 Tryd.underlying9 b off ⟨bs.toArray⟩ (fun i hi => by rw [size_mk] at hi; exact h i hi) cap
    rw [size_mk] at this
    exact this
/-- The text of a row of one's own. -/
theorem conv_own {W : World} {B n : Nat} {a : Option Addr} {c : Nat} {bs : List UInt8} (h : W.ownsRow B 5 1 (.slice a n c) n (cells8 bs)) : (convert 39 9 (.slice a n c)).run Tryd.prog W = .ok (.string (str bs)) W := by
  have hn : bs.length = n := by have := h.1; rw [cells8_len] at this; omega
  have hcl := @World.ownsRow.cells _ _ _ _ _ _ _ h
  rw [← hn]
  refine conv_bytes W a bs c ?_
  rcases h.2 with ⟨e, h0⟩ | ⟨g, cap, cur, e, _⟩
  · exact .inl (List.eq_nil_of_length_eq_zero (by omega))
  · injection e with e1 e2 e3
    subst e1
    refine .inr ⟨g, 0, rfl, fun i hi => ?_⟩
    have := hcl (g := g) rfl i (.int .u8 (bs[i]).toNat) (by simp [cells8, hi])
    rw [Addr.add_mid] at this
    exact this
theorem Tryd.info5r : (Tryd.prog.info? 5).map (fun i => (i.zero, i.size, i.bytes)) = some (some (.int .u8 0), 1, 1) := by kernel_rfl
theorem cells8_app (a b : List UInt8) : cells8 (a ++ b) = cells8 a ++ cells8 b := by simp [cells8]
theorem runeCells_enc (r : Int) : Lib.runeCells r = cells8 (enc r) := by rw [← Lib.byteCells_encodeRune]; rfl
theorem encs_take {l : List Int} {k : Nat} (h : k < l.length) : encs (l.take (k + 1)) = encs (l.take k) ++ enc l[k] := by
  rw [List.take_succ_eq_append_getElem h, encs_app, encs_one]

set_option maxRecDepth 100000 in
set_option maxHeartbeats 2000000 in
theorem written_any (w : World) (v : Value) (l : List Int) (hv : IRow w w.heap.size v l) (hl : l.length ≤ 1000000) (hok : ∀ r ∈ l, okPt r = true) : Calls Tryd.prog 45 #[v] w fun e w' => e = .returned (.string (str (encs l))) ∧ Below w.heap.size w w' := by
  obtain ⟨i0, hi, hz0, hz1, hz2⟩ := info_parts Tryd.info5r
  obtain ⟨a, c, rfl, hc, hm, h⟩ := hv
  unfold maxLen at hm
  have HC : Hid (∀ W, Below w.heap.size w W → ∀ k (hk : k < l.length), ∃ b off, a = some ⟨b, off, none⟩ ∧ W.cell? ⟨b, off + k, none⟩ = some (.int .i64 l[k])) := Lib.hid fun W hW k hk => by
    rcases h with rfl | ⟨b, off, rfl, hb, h⟩
    · simp at hk
    · exact ⟨b, off, rfl, (hW.cell (p := ⟨b, off + k, none⟩) hb).trans (h k hk)⟩
  have HOK := Lib.hid hok
  obtain ⟨N, hN⟩ : ∃ N, l.length = N := ⟨_, rfl⟩
  have HN := Lib.hid hN
  have HS : Hid (l.take N = l) := Lib.hid (List.take_of_length_le (by omega))
  have HLN := Lib.hid (fun k => (by have := (encs_len (l.take k)).2; have : (l.take k).length ≤ k := List.length_take_le _ _; omega : (encs (l.take k)).length ≤ 4 * k))
  rw [hN] at hc hl ⊢
  clear h hok hN
  go_enter Tryd.func45, Tryd.ntmps45
  go_wp2_with (at_make; refine wpList_make_own _ rfl _ _ 39 rfl w.heap.size 5 i0 _ 1 Tryd.underlying39 hi hz0 hz1 .i64 .i64 (N : Int) N rfl rfl rfl (by rw [hz2]; omega) (by unfold maxLen; omega) (Nat.le_refl _) ?_; intro w3 hown3 hg3; have HO3 := Lib.hid hown3; have HB3 := Lib.hid (below_none hg3); clear hown3 hg3)
  go_loopw [3, 5, 11] (fun s3 s5 s11 wr => ∃ (k : Nat) (u : Value), k ≤ N ∧ s11 = .int .i64 k ∧ s3 = u ∧ Hid (Below w.heap.size w wr) ∧ Hid (wr.ownsRow w.heap.size 5 1 u (encs (l.take k)).length (cells8 (encs (l.take k))))) (fun _ _ s11 _ => N - (intOf s11).toNat)
  case atStart => exact ⟨0, _, Nat.zero_le _, rfl, rfl, HB3, Lib.hid (by simpa [encs, cells8] using HO3.out)⟩
  case round =>
    obtain ⟨k, u, hk, rfl, rfl, HB, HO⟩ := hrel
    by_cases hlt : k < N
    · have hkl : k < l.length := by rw [HN.out]; exact hlt
      obtain ⟨b, off, rfl, hcell⟩ := HC.out wr HB.out k hkl
      have hr := okPt_iff.1 (HOK.out _ (List.getElem_mem hkl))
      have hbs := HB.out.size
      have HAP := Lib.hid (Tryd.utf8_AppendRune_plain w.heap.size _ (encs (l.take k)).length (cells8 (encs (l.take k))) l[k] (by omega) (by omega) wr HO.out (by have := HLN.out k; omega) (by omega))
      have HT : Hid (encs (l.take (k + 1)) = encs (l.take k) ++ enc l[k]) := Lib.hid (encs_take hkl)
      obtain ⟨x, hx⟩ : ∃ x, l[k] = x := ⟨_, rfl⟩
      have hx32 : IntKind.i32.wrap x = x := by rw [IntKind.wrap_i32]; omega
      rw [hx] at hcell HAP HT hr
      obtain ⟨hr1, hr2, _⟩ := hr
      clear hx hkl
      go_wp2_with fail
      refine HAP.out.mono ?_
      rintro e w4 ⟨v4, rfl, ho4, o, hg4⟩
      have HO4 := Lib.hid ho4
      have HB4 : Hid (Below w.heap.size w w4) := Lib.hid ((HB.out.alloc HB.out.size o).grown hg4 (by simp; omega) (fun r e => (HO.out.lt r e).1))
      clear ho4 hg4 HAP
      go_wp2
      go_roundw
      case rel => exact ⟨k + 1, _, by omega, by go_num, rfl, HB4, Lib.hid (by rw [HT.out, cells8_app, List.length_append, ← runeCells_enc]; have := HO4.out; rw [show (Lib.runeCells x).length = (enc x).length by rw [runeCells_enc, cells8_len]] at this; exact this)⟩
      case measure => simp [intOf]; omega
    · have hkn : k = N := by omega
      subst hkn
      rw [HS.out] at HO
      obtain ⟨a3, c3, rfl⟩ := own_slice HO.out
      have hcv := conv_own HO.out
      go_wp2
      go_ret
      exact ⟨rfl, HB.out⟩
end Go.Proofs.YtilkhamlhbbmgaaDoor
