/- Fonts, the reference: point, width, Few. -/
import Derived.Test.YtljgcpfibamdpaaDoorFck
import Derived.Test.YtljgcpfibamdpaaDoorUtf
namespace Go.Proofs.YtljgcpfibamdpaaDoor
open Go.RowKit

theorem rpt_any (w : World) (r : Int) : Calls Tryd.prog 41 #[.int .i64 r] w fun e w' => e = .returned (.bool (inW r 0 1114111)) ∧ w' = w := by
  by_cases h1 : 0 ≤ r
  · by_cases h2 : r ≤ 1114111
    · rw [show inW r 0 1114111 = true by simp [inW, h1, h2]]
      go_enter Tryd.func41, Tryd.ntmps41
      go_wp2
      go_ret
      exact ⟨rfl, rfl⟩
    · rw [show inW r 0 1114111 = false by simp [inW, h2]]
      have d2 : decide (r ≤ 1114111) = false := by simpa using h2
      go_enter Tryd.func41, Tryd.ntmps41
      go_wp2
      go_ret
      exact ⟨rfl, rfl⟩
  · rw [show inW r 0 1114111 = false by simp [inW, h1]]
    have d1 : decide (0 ≤ r) = false := by simpa using h1
    go_enter Tryd.func41, Tryd.ntmps41
    go_wp2
    go_ret
    exact ⟨rfl, rfl⟩
theorem rwid_any (w : World) (r : Int) : Calls Tryd.prog 40 #[.int .i64 r] w fun e w' => e = .returned (.bool (isW r)) ∧ w' = w := by
  unfold isW
  by_cases h1 : 0 ≤ r
  · by_cases h2 : r ≤ 4096
    · rw [show inW r 0 4096 = true by simp [inW, h1, h2]]
      go_enter Tryd.func40, Tryd.ntmps40
      go_wp2
      go_ret
      exact ⟨rfl, rfl⟩
    · rw [show inW r 0 4096 = false by simp [inW, h2]]
      have d2 : decide (r ≤ 4096) = false := by simpa using h2
      go_enter Tryd.func40, Tryd.ntmps40
      go_wp2
      go_ret
      exact ⟨rfl, rfl⟩
  · rw [show inW r 0 4096 = false by simp [inW, h1]]
    have d1 : decide (0 ≤ r) = false := by simpa using h1
    go_enter Tryd.func40, Tryd.ntmps40
    go_wp2
    go_ret
    exact ⟨rfl, rfl⟩
/-- Few ranges, few pairs (or too many), a short text. -/
def fewR (n : Nat) : Bool := decide (n ≤ 30) || (decide (1024 < n) && decide (n ≤ 1100))
def fewB (g k n : Nat) : Bool := fewR g && fewR k && decide (n ≤ 200)
theorem fewR_cases (n : Nat) : (decide ((n : Int) ≤ 30) = true ∧ fewR n = true) ∨ (decide ((n : Int) ≤ 30) = false ∧ decide (1024 < (n : Int)) = false ∧ fewR n = false) ∨ (decide ((n : Int) ≤ 30) = false ∧ decide (1024 < (n : Int)) = true ∧ decide ((n : Int) ≤ 1100) = true ∧ fewR n = true) ∨ (decide ((n : Int) ≤ 30) = false ∧ decide (1024 < (n : Int)) = true ∧ decide ((n : Int) ≤ 1100) = false ∧ fewR n = false) := by
  unfold fewR
  by_cases h1 : n ≤ 30
  · exact .inl ⟨by simp; omega, by simp [h1]⟩
  · by_cases h2 : 1024 < n
    · by_cases h3 : n ≤ 1100
      · exact .inr (.inr (.inl ⟨by simp; omega, by simp; omega, by simp; omega, by simp [h2, h3]⟩))
      · exact .inr (.inr (.inr ⟨by simp; omega, by simp; omega, by simp; omega, by simp [h1, h3]⟩))
    · exact .inr (.inl ⟨by simp; omega, by simp; omega, by simp [h1, h2]⟩)
theorem fewB_ok {g k n : Nat} (h : fewB g k n = true) : fewR g = true ∧ fewR k = true ∧ n ≤ 200 := by
  simpa [fewB, and_assoc] using h
theorem fewR_small {n : Nat} (h : fewR n = true) (h2 : n ≤ 1024) : n ≤ 30 := by
  simp [fewR] at h; omega
set_option maxRecDepth 100000 in
set_option maxHeartbeats 8000000 in
theorem rfew_any (w : World) (v : Value) (f : Fo) (h : FAt w w.heap.size v f) (bs : List UInt8) : Calls Tryd.prog 15 #[v, .string (str bs)] w fun e w' => e = .returned (.bool (fewB f.gs.length f.ks.length bs.length)) ∧ Below w.heap.size w w' := by
  obtain ⟨ga, gc, ka, kc, rfl, -, -, -, -, -, -, -⟩ := h.open
  have hsz := str_size bs
  have hG := fewR_cases f.gs.length
  have hK := fewR_cases f.ks.length
  rw [show fewB f.gs.length f.ks.length bs.length = (fewR f.gs.length && fewR f.ks.length && decide (bs.length ≤ 200)) from rfl]
  obtain ⟨G, hGe⟩ : ∃ G, f.gs.length = G := ⟨_, rfl⟩
  obtain ⟨K, hKe⟩ : ∃ G, f.ks.length = G := ⟨_, rfl⟩
  obtain ⟨o, hoe⟩ : ∃ G, f.o = G := ⟨_, rfl⟩
  obtain ⟨n, hn⟩ : ∃ G, bs.length = G := ⟨_, rfl⟩
  obtain ⟨s, hs⟩ : ∃ s, str bs = s := ⟨_, rfl⟩
  rw [hn, hs] at hsz
  rw [hGe] at hG
  rw [hKe] at hK
  rw [hGe, hKe, hoe, hn, hs]
  obtain ⟨fg, hfg⟩ : ∃ b, fewR G = b := ⟨_, rfl⟩
  obtain ⟨fk, hfk⟩ : ∃ b, fewR K = b := ⟨_, rfl⟩
  rw [hfg] at hG
  rw [hfk] at hK
  rw [hfg, hfk]
  clear h hGe hKe hoe hn hs hfg hfk
  have hN : (decide ((n : Int) ≤ 200) = true ∧ decide (n ≤ 200) = true) ∨ (decide ((n : Int) ≤ 200) = false ∧ decide (n ≤ 200) = false) := by
    by_cases hn : n ≤ 200
    · exact .inl ⟨by simp; omega, by simpa using hn⟩
    · exact .inr ⟨by simp; omega, by simpa using hn⟩
  rcases hG with ⟨g1, rfl⟩ | ⟨g1, g2, rfl⟩ | ⟨g1, g2, g3, rfl⟩ | ⟨g1, g2, g3, rfl⟩
  all_goals rcases hK with ⟨k1, rfl⟩ | ⟨k1, k2, rfl⟩ | ⟨k1, k2, k3, rfl⟩ | ⟨k1, k2, k3, rfl⟩
  all_goals rcases hN with ⟨n1, n2⟩ | ⟨n1, n2⟩
  all_goals
    go_enter Tryd.func15, Tryd.ntmps15
    go_wp2
    go_ret
    exact ⟨by simp [n2], (Below.refl _ _).alloc (Nat.le_refl _) _⟩
end Go.Proofs.YtljgcpfibamdpaaDoor
