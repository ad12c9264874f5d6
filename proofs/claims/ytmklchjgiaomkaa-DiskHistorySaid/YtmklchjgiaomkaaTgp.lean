/- Syncing after each write and syncing after the last one: as data. -/
import Derived.Test.YtmklchjgiaomkaaRdp
namespace Go.Proofs.Ytmklchjgiaomkaa
open Go.RowKit

/-- A disk with the pending writes p. -/
def pd (s : List By) (p : List (Int × By)) (L : Int) : Dk := ⟨s, p, L, false⟩
theorem perf_app (s : List By) (p q : List (Int × By)) : perf s (p ++ q) = perf (perf s p) q := by unfold perf; rw [List.foldl_append]
theorem perf_one (s : List By) (a : Int × By) : perf s [a] = s.set a.1.toNat a.2 := rfl

theorem sync_of_runs {d : Dk} (h : d.runs = true) : d.sync = if d.stops then (⟨d.done.set d.at_.1.toNat (tear (d.done.getD d.at_.1.toNat []) d.at_.2), [], 0, true⟩, 40) else (⟨perf d.sec d.pen, [], if d.left < 0 then d.left else d.left - d.pen.length, false⟩, 0) := by
  unfold Dk.sync; rw [if_pos h]
theorem pd_ok {s : List By} {p : List (Int × By)} {L : Int} (h0 : 1 ≤ s.length ∧ s.length ≤ 4096) (hp : p.length ≤ 4096) (hs : okSec s = true) (hok : okPen s.length p = true) (hL : -1 ≤ L ∧ L ≤ 65536) : (pd s p L).ok = true :=
  (ok_iff _).2 ⟨⟨h0.1, h0.2, hp⟩, hs, hok, hL⟩
theorem okSec_iff {l : List By} : okSec l = true ↔ ∀ s ∈ l, s.length = 128 := ⟨okSec_get, fun h => by unfold okSec; rw [List.all_eq_true]; intro x hx; simpa using h x hx⟩
theorem okPen_iff {n : Nat} {l : List (Int × By)} : okPen n l = true ↔ ∀ x ∈ l, 0 ≤ x.1 ∧ x.1 < n ∧ x.2.length = 128 := ⟨okPen_get, fun h => by unfold okPen; rw [List.all_eq_true]; intro x hx; simpa using h x hx⟩

/-- What the first sync leaves when it does not stop; a further write and sync. -/
theorem sync_next {s : List By} {p : List (Int × By)} {L : Int} {a : Int × By} (h0 : 1 ≤ s.length ∧ s.length ≤ 4096) (hp : p.length < 4096) (hs : okSec s = true) (hok : okPen s.length p = true) (ha : 0 ≤ a.1 ∧ a.1 < s.length ∧ a.2.length = 128) (hL : -1 ≤ L ∧ L ≤ 65536)
    (he : (pd s p L).sync.2 = 0) :
    (pd s p L).sync.1.runs = true ∧ (pd s p L).sync.1.pen = [] ∧ (pd s p L).sync.1.sec.length = s.length ∧ ({ (pd s p L).sync.1 with pen := [a] } : Dk).sync = (pd s (p ++ [a]) L).sync := by
  have hok1 : (pd s p L).ok = true := pd_ok h0 (by omega) hs hok hL
  have hr : (pd s p L).runs = true := runs_of hok1 rfl
  obtain ⟨hst, hX⟩ := sync_zero hr he
  have hnot := stops_not hst
  have hX' : (pd s p L).sync.1 = ⟨perf s p, [], if L < 0 then L else L - p.length, false⟩ := hX
  have hXo := sync_ok hok1 hst
  rw [hX']
  have hXo' : (⟨perf s p, [], if L < 0 then L else L - p.length, false⟩ : Dk).ok = true := hXo
  have hnot' : L < 0 ∨ (p.length : Int) ≤ L := hnot
  obtain ⟨L', hL'⟩ : ∃ L', (if L < 0 then L else L - (p.length : Int)) = L' := ⟨_, rfl⟩
  rw [hL'] at hXo' ⊢
  have hoka : okPen s.length (p ++ [a]) = true := okPen_iff.2 fun x hx => by
    rcases List.mem_append.1 hx with h | h
    · exact okPen_get hok x h
    · simp at h; subst h; exact ha
  have hr1 : (pd s (p ++ [a]) L).runs = true := runs_of (pd_ok h0 (by simp; omega) hs hoka hL) rfl
  obtain ⟨⟨q1, q2, q3⟩, q4, q5, q6, q7⟩ := (ok_iff _).1 hXo'
  have hlen : (perf s p).length = s.length := perf_len _ _
  have hr2 : (⟨perf s p, [a], L', false⟩ : Dk).runs = true := runs_of ((ok_iff _).2 ⟨⟨q1, q2, by simp⟩, q4, okPen_iff.2 fun x hx => by simp at hx; subst hx; show 0 ≤ x.1 ∧ x.1 < ((perf s p).length : Int) ∧ _; rw [hlen]; exact ha, q6, q7⟩) rfl
  refine ⟨runs_of hXo' rfl, rfl, hlen, ?_⟩
  show (⟨perf s p, [a], L', false⟩ : Dk).sync = _
  rw [sync_of_runs hr2, sync_of_runs hr1]
  by_cases hz : L = p.length
  · have e1 : L' = 0 := by rw [← hL', if_neg (by omega)]; omega
    have s1 : (⟨perf s p, [a], L', false⟩ : Dk).stops = true := by unfold Dk.stops; simp [e1]
    have s2 : (pd s (p ++ [a]) L).stops = true := by unfold Dk.stops pd; simp [hz]; omega
    rw [s1, s2, if_pos rfl, if_pos rfl]
    have d1 : (⟨perf s p, [a], L', false⟩ : Dk).done = perf s p := by unfold Dk.done; simp [e1, perf]
    have d2 : (pd s (p ++ [a]) L).done = perf s p := by unfold Dk.done pd; simp [hz]
    have a1 : (⟨perf s p, [a], L', false⟩ : Dk).at_ = a := by unfold Dk.at_; simp [e1]
    have a2 : (pd s (p ++ [a]) L).at_ = a := by unfold Dk.at_ pd; simp [hz]
    rw [d1, d2, a1, a2]
  · have s1 : (⟨perf s p, [a], L', false⟩ : Dk).stops = false := by
      unfold Dk.stops
      rw [decide_eq_false_iff_not]
      rintro ⟨h1, h2⟩
      simp at h1 h2
      rw [← hL'] at h1 h2
      by_cases hneg : L < 0
      · rw [if_pos hneg] at h1; omega
      · rw [if_neg hneg] at h1 h2; omega
    have s2 : (pd s (p ++ [a]) L).stops = false := by
      unfold Dk.stops pd
      rw [decide_eq_false_iff_not]
      rintro ⟨h1, h2⟩
      simp at h1 h2
      omega
    rw [s1, s2, if_neg Bool.false_ne_true, if_neg Bool.false_ne_true]
    show ((⟨perf (perf s p) [a], [], if L' < 0 then L' else L' - (([a] : List (Int × By)).length : Int), false⟩ : Dk), (0 : Int)) = (⟨perf s (p ++ [a]), [], if L < 0 then L else L - ((p ++ [a]).length : Int), false⟩, 0)
    rw [perf_app]
    have hl : (if L' < 0 then L' else L' - (([a] : List (Int × By)).length : Int)) = if L < 0 then L else L - ((p ++ [a]).length : Int) := by
      rw [← hL']
      simp only [List.length_append, List.length_cons, List.length_nil, Nat.zero_add]
      by_cases hneg : L < 0
      · simp only [if_pos hneg]
      · simp only [if_neg hneg]; rw [if_neg (by omega)]; push_cast; omega
    rw [hl]

/-- Once a sync stops within a part of the writes, further ones change nothing. -/
theorem sync_stopped {s : List By} {p q : List (Int × By)} {L : Int} (h0 : 1 ≤ s.length ∧ s.length ≤ 4096) (hp : (p ++ q).length ≤ 4096) (hs : okSec s = true) (hok : okPen s.length (p ++ q) = true) (hL : -1 ≤ L ∧ L ≤ 65536)
    (he : (pd s p L).sync.2 ≠ 0) : (pd s p L).sync = (pd s (p ++ q) L).sync := by
  have hokp : okPen s.length p = true := okPen_iff.2 fun x hx => okPen_get hok x (List.mem_append_left _ hx)
  have hr : (pd s p L).runs = true := runs_of (pd_ok h0 (by simp at hp; omega) hs hokp hL) rfl
  have hr1 : (pd s (p ++ q) L).runs = true := runs_of (pd_ok h0 hp hs hok hL) rfl
  rw [sync_of_runs hr] at he
  have hst : (pd s p L).stops = true := by
    by_cases h : (pd s p L).stops = true
    · exact h
    · rw [if_neg h] at he; exact absurd rfl he
  have hh : 0 ≤ L ∧ L < p.length := by unfold Dk.stops pd at hst; simpa using hst
  have hst1 : (pd s (p ++ q) L).stops = true := by unfold Dk.stops pd; simp; omega
  rw [sync_of_runs hr, sync_of_runs hr1, hst, hst1, if_pos rfl, if_pos rfl]
  have d1 : (pd s (p ++ q) L).done = (pd s p L).done := by
    unfold Dk.done pd
    show perf s ((p ++ q).take L.toNat) = perf s (p.take L.toNat)
    rw [List.take_append_of_le_length (by omega)]
  have a1 : (pd s (p ++ q) L).at_ = (pd s p L).at_ := by
    unfold Dk.at_ pd
    show (p ++ q).getD L.toNat (0, []) = p.getD L.toNat (0, [])
    rw [List.getD_eq_getElem?_getD, List.getD_eq_getElem?_getD, List.getElem?_append_left (by omega)]
  rw [d1, a1]
theorem sync_empty {s : List By} {L : Int} (h0 : 1 ≤ s.length ∧ s.length ≤ 4096) (hs : okSec s = true) (hL : -1 ≤ L ∧ L ≤ 65536) : (pd s [] L).sync = (pd s [] L, 0) := by
  have hr : (pd s [] L).runs = true := runs_of (pd_ok h0 (by simp) hs rfl hL) rfl
  have hst : (pd s [] L).stops = false := by unfold Dk.stops pd; simp
  rw [sync_of_runs hr, hst, if_neg Bool.false_ne_true]
  unfold pd
  simp [perf]
end Go.Proofs.Ytmklchjgiaomkaa
