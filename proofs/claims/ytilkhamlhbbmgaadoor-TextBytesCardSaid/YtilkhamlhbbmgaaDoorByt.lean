/- The law TextBytes, walked. -/
import Derived.Test.YtilkhamlhbbmgaaDoorLbk
import Derived.Lib.ConvBytes
import Derived.Laws.BitsAllLaws
namespace Go.Proofs.YtilkhamlhbbmgaaDoor
open Go.RowKit

theorem jn_one (r : Int) : (okPt r = true → jnE [r] = 0 ∧ jnS [r] = enc r) ∧ (okPt r = false → jnE [r] = 90 ∧ jnS [r] = []) := by
  have hl := enc_len r
  have he : encs [r] = enc r := encs_one r
  unfold jnE jnS
  constructor
  · intro h
    rw [show [r].all okPt = true by simp [h], he, if_pos rfl, if_neg (by omega), decide_eq_true (by omega)]
    exact ⟨rfl, rfl⟩
  · intro h
    rw [show [r].all okPt = false by simp [h]]
    exact ⟨rfl, rfl⟩
/-- The three bounds of a code point's size. -/
def thr : Nat → Int
  | 0 => 128
  | 1 => 2048
  | _ => 65536
def cnt (r : Int) : Nat → Nat
  | 0 => 1
  | k + 1 => cnt r k + (if thr k ≤ r then 1 else 0)
theorem cnt_le (r : Int) (k : Nat) : 1 ≤ cnt r k ∧ cnt r k ≤ 1 + k := by
  induction k with
  | zero => simp [cnt]
  | succ k ih => simp only [cnt]; split <;> omega
theorem cnt_enc {r : Int} (h : okPt r = true) : cnt r 3 = (enc r).length := by
  obtain ⟨k, b0, b1, b2, b3, he, hk1, hk4, hs, _⟩ := enc_shape r h
  have hl : (enc r).length = k := by rw [he]; simp; omega
  rw [hl]
  show 1 + (if (128 : Int) ≤ r then 1 else 0) + (if (2048 : Int) ≤ r then 1 else 0) + (if (65536 : Int) ≤ r then 1 else 0) = k
  have h0 := okPt_iff.1 h
  rcases hs with ⟨rfl, h1, h2, _⟩ | ⟨rfl, h1, h2, _⟩ | ⟨rfl, h1, h2, _⟩ | ⟨rfl, h1, _⟩
  · rw [if_neg (by omega), if_neg (by omega), if_neg (by omega)]
  · rw [if_pos (by omega), if_neg (by omega), if_neg (by omega)]
  · rw [if_pos (by omega), if_pos (by omega), if_neg (by omega)]
  · rw [if_pos (by omega), if_pos (by omega), if_pos (by omega)]
theorem thr_cell (W : World) (k : Nat) (hk : k < 3) : (W.alloc (.cells #[.int .i64 128, .int .i64 2048, .int .i64 65536] 3)).cell? ⟨W.heap.size, k, none⟩ = some (.int .i64 (thr k)) := by
  rw [World.cell?_alloc_new]
  rcases (by omega : k = 0 ∨ k = 1 ∨ k = 2) with rfl | rfl | rfl <;> rfl
/-- A text's bytes as a row. -/
theorem conv_row (W : World) (s : ByteArray) (bs : List UInt8) (hs : str bs = s) : ∃ cap W', (convert 9 39 (.string s)).run Tryd.prog W = .ok (.slice (some ⟨W.heap.size, 0, none⟩) bs.length cap) W' ∧ Arr W' W.heap.size (cells8 bs) ∧ W'.heap.size = W.heap.size + 1 ∧ Below W.heap.size W W' := by
  subst hs
  have hz := str_size bs
  refine ⟨_, _, by rw [← hz]; exact Lib.run_convert_string_bytes W 9 39 5 (str bs) Tryd.underlying9 Tryd.underlying39 Tryd.underlying5, ?_, Lib.bytesWorld_size _ _ _, ⟨rfl, rfl, rfl, by rw [Lib.bytesWorld_size]; omega, fun k hk => Lib.bytesWorld_at_old W 5 (str bs) k hk⟩⟩
  have hcell : ∀ j, j < bs.length → (Lib.bytesWorld W 5 (str bs)).cell? ⟨W.heap.size, j, none⟩ = some (.int .u8 (bs.getD j 0).toNat) := fun j hj => by
    rw [Lib.bytesWorld_cell W 5 (str bs) j (by omega), str_toList]
  refine ⟨fun j v hv => ?_, fun j hj => ?_⟩
  · have hj : j < bs.length := by
      rcases Nat.lt_or_ge j bs.length with h | h
      · exact h
      · rw [List.getElem?_eq_none (by rw [cells8_len]; exact h)] at hv; cases hv
    rw [Nat.zero_add, hcell j hj]
    rw [← hv]
    simp [cells8, hj, List.getD]
  · rw [cells8_len] at hj
    rw [Nat.zero_add, hcell j hj]
    refine ⟨rfl, ?_⟩
    unfold World.frozen?
    rw [Lib.bytesWorld_at_new]
    have : bs.length ≤ (Lib.bytesCells W 5 (str bs)).size := by simp [Lib.bytesCells, str]
    simp
    omega
theorem cells8_set (bs : List UInt8) (j : Nat) (x : UInt8) : (cells8 bs).set j (.int .u8 (x.toNat : Int)) = cells8 (bs.set j x) := by simp [cells8, List.map_set]
theorem conv_arr {W : World} {g : Nat} {bs : List UInt8} (h : Arr W g (cells8 bs)) (n cap : Nat) (hn : bs.length = n) : (convert 39 9 (.slice (some ⟨g, 0, none⟩) n cap)).run Tryd.prog W = .ok (.string (str bs)) W := by
  subst hn
  exact conv_bytes W _ bs cap (.inr ⟨g, 0, rfl, fun i hi => by rw [Nat.zero_add]; exact h.cell (by simp [cells8, hi])⟩)
/-- What a text with one byte changed reads as. -/
theorem changed {r : Int} (h : okPt r = true) (j : Nat) (hj : j < (enc r).length) (x : UInt8) : (x = (enc r)[j] → rnsE ((enc r).set j x) = 0 ∧ rnsV ((enc r).set j x) = [r]) ∧ (x ≠ (enc r)[j] → rnsE ((enc r).set j x) = 0 → rnsV ((enc r).set j x) ≠ [r]) := by
  constructor
  · rintro rfl
    rw [List.set_getElem_self]
    have := rns_encs (l := [r]) (by simp [h]) (by rw [encs_one]; have := (enc_len r).2; omega)
    rw [encs_one] at this
    exact this
  · intro hx h0 hv
    obtain ⟨_, _, _, h4⟩ := rns_ok h0
    rw [hv, encs_one] at h4
    have := congrArg (fun l => l[j]?) h4
    simp [hj] at this
    exact hx this
theorem xor_u8 (a b : UInt8) : ∃ x : UInt8, bits .xor .u8 (a.toNat : Int) (b.toNat : Int) = (x.toNat : Int) ∧ (x = a ↔ b = 0) := by
  refine ⟨a ^^^ b, ?_, ?_⟩
  · rw [u8_xor_nat _ _ a.toNat_lt b.toNat_lt]; simp
  · constructor
    · intro h
      have : a ^^^ b ^^^ a = a ^^^ a := by rw [h]
      rw [UInt8.xor_self, UInt8.xor_comm, ← UInt8.xor_assoc, UInt8.xor_self, UInt8.zero_xor] at this
      exact this
    · rintro rfl; simp
end Go.Proofs.YtilkhamlhbbmgaaDoor
