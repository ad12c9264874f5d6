/- What both sides answer: paths and climbs, whatever is asked. -/
import Derived.Test.YtnddejhbncgchaaDoorRcm
import Derived.Test.YtnddejhbncgchaaDoorRse
import Derived.Test.YtnddejhbncgchaaDoorStp
namespace Go.Proofs.YtnddejhbncgchaaDoor
open Go.RowKit

/-- Both Paths, of any index. -/
theorem paths_same (W3 : World) (ds : List (List UInt8)) (v : Value) (i : Int) (hD : Digs W3 W3.heap.size v ds) (hn : ds.length ≤ 1000000) (hT : Tab W3) (h0 : 0 < W3.heap.size) : ∃ (p : List (List UInt8)) (e : Int), p.length ≤ 1000000 ∧
    (∀ W, Kept W3 W → Calls Tryd.prog 19 #[v, .int .i64 i] W fun x w' => ∃ u, x = .returned (.tuple #[u, .int .i64 e]) ∧ Digs w' w'.heap.size u p ∧ Kept W3 w' ∧ Below W.heap.size W w') ∧
    (∀ W, Kept W3 W → Calls Tryd.prog 20 #[v, .int .i64 i] W fun x w' => ∃ u, x = .returned (.tuple #[u, .int .i64 e]) ∧ Digs w' w'.heap.size u p ∧ Kept W3 w' ∧ Below W.heap.size W w') := by
  have hnil : ∀ W : World, Digs W W.heap.size (.slice none 0 0) [] := fun W => ⟨fun d hd => absurd hd (by simp), none, 0, rfl, by simp, by unfold maxLen; omega, .inl rfl⟩
  by_cases hi : 0 ≤ i ∧ i < (ds.length : Int)
  · obtain ⟨k, rfl⟩ : ∃ k : Nat, i = k := ⟨i.toNat, by omega⟩
    have hk : k < ds.length := by omega
    have hpl : (pth ds k).length ≤ 1000000 := by
      rw [pth_len _ ds k rfl (by omega)]
      have := psteps_le k ds.length (by omega)
      omega
    refine ⟨pth ds k, 0, hpl, fun W hW => ?_, fun W hW => ?_⟩
    · exact (path_any W ds v k hk hn ((hD.below hW.below).mono hW.below.size) (hT.below hW.below h0) (by have := hW.below.size; omega)).mono fun x w' ⟨u, a, b, c⟩ => ⟨u, a, own_digs b (pth_32 _ ds k rfl (by omega)), hW.next c, c⟩
    · exact (rPath_any W ds v k hk hn ((hD.below hW.below).mono hW.below.size)).mono fun x w' ⟨u, a, b, c⟩ => ⟨u, a, own_digs b (pth_32 _ ds k rfl (by omega)), hW.next c, c⟩
  · have hb : i < 0 ∨ (ds.length : Int) ≤ i := by omega
    obtain ⟨_, a, c, rfl, _, _, _⟩ := hD
    refine ⟨[], 1, by simp, fun W hW => ?_, fun W hW => ?_⟩
    · exact (path_bad W a ds.length c i hb hn).mono fun x w' ⟨a, b⟩ => ⟨_, a, hnil _, hW.next b, b⟩
    · exact (rPath_bad W a ds.length c i hb hn).mono fun x w' ⟨a, b⟩ => ⟨_, a, hnil _, hW.next b, b⟩
/-- Both Climbs, along any list. -/
theorem climbs_same (W3 : World) (d : List UInt8) (hd : d.length = 32) (p : List (List UInt8)) (v : Value) (i n : Int) (hD : Digs W3 W3.heap.size v p) (hn : p.length ≤ 1000000000) (hT : Tab W3) (h0 : 0 < W3.heap.size) : ∃ (c : List UInt8) (e : Int), c.length = 32 ∧
    (∀ W, Kept W3 W → Calls Tryd.prog 22 #[dv d, .int .i64 i, .int .i64 n, v] W fun x w' => x = .returned (.tuple #[dv c, .int .i64 e]) ∧ Kept W3 w' ∧ Below W.heap.size W w') ∧
    (∀ W, Kept W3 W → Calls Tryd.prog 23 #[dv d, .int .i64 i, .int .i64 n, v] W fun x w' => x = .returned (.tuple #[dv c, .int .i64 e]) ∧ Kept W3 w' ∧ Below W.heap.size W w') := by
  by_cases hr : n < 1 ∨ 1099511627776 < n ∨ i < 0 ∨ n ≤ i
  · obtain ⟨_, a, cp, rfl, _, _, _⟩ := hD
    refine ⟨z32, 1, rfl, fun W hW => ?_, fun W hW => ?_⟩
    · exact (climb_no W d hd i n p.length cp a hr hn).mono fun x w' h => ⟨h.1, hW.next h.2, h.2⟩
    · exact (rclimb_no W d hd i n p.length cp a hr hn).mono fun x w' h => ⟨h.1, hW.next h.2, h.2⟩
  · obtain ⟨k, rfl⟩ : ∃ k : Nat, i = k := ⟨i.toNat, by omega⟩
    obtain ⟨m, rfl⟩ : ∃ m : Nat, n = m := ⟨n.toNat, by omega⟩
    by_cases hp : p.length = psteps k m
    · refine ⟨clm d k m p, 0, clm_len _ _ _ _, fun W hW => ?_, fun W hW => ?_⟩
      · exact (Climb_any W d hd k m (by omega) (by omega) (by omega) p hp hn v ((hD.below hW.below).mono hW.below.size) (hT.below hW.below h0) (by have := hW.below.size; omega)).mono fun x w' h => ⟨h.1, hW.next h.2, h.2⟩
      · exact (rClimb_any W d hd k m (by omega) (by omega) (by omega) p hp hn v ((hD.below hW.below).mono hW.below.size)).mono fun x w' h => ⟨h.1, hW.next h.2, h.2⟩
    · obtain ⟨_, a, cp, rfl, _, _, _⟩ := hD
      refine ⟨z32, 1, rfl, fun W hW => ?_, fun W hW => ?_⟩
      · exact (climb_bad W d hd k m p.length cp a (by omega) (by omega) (by omega) hp hn).mono fun x w' h => ⟨h.1, hW.next h.2, h.2⟩
      · exact (rclimb_bad W d hd k m p.length cp a (by omega) (by omega) (by omega) hp hn).mono fun x w' h => ⟨h.1, hW.next h.2, h.2⟩
end Go.Proofs.YtnddejhbncgchaaDoor
