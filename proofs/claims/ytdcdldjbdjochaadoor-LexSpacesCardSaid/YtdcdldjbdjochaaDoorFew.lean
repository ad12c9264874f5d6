/- The reference's Few. -/
import Derived.Test.YtdcdldjbdjochaaDoorOtk
namespace Go.Proofs.YtdcdldjbdjochaaDoor
open Go.RowKit

def tot (l : List Tok) : Nat := (l.map fun t => t.text.length).sum
def few (l : List Tok) : Bool := decide (l.length ≤ 200) && decide (tot l ≤ 2000)
theorem tot_take (l : List Tok) (j : Nat) (h : j < l.length) : tot (l.take (j + 1)) = tot (l.take j) + l[j].text.length := by
  unfold tot
  rw [List.take_succ_eq_append_getElem h, List.map_append, List.sum_append]
  simp only [List.map_cons, List.map_nil, List.sum_cons, List.sum_nil]
  omega
theorem tot_le (l : List Tok) (hf : Fit l) : ∀ (j : Nat), j ≤ l.length → tot (l.take j) ≤ j * 140737488355328
  | 0, _ => by simp [tot]
  | j + 1, h => by
    rw [tot_take l j (by omega)]
    have h1 := tot_le l hf j (by omega)
    have h2 := (hf l[j] (List.getElem_mem _)).1
    omega

set_option maxRecDepth 100000 in
set_option maxHeartbeats 4000000 in
theorem rfew_any (w : World) (v : Value) (l : List Tok) (h : TRow w w.heap.size v l) (hf : Fit l) : Calls Tryd.prog 14 #[v] w fun e w' => e = .returned (.bool (few l)) ∧ Below w.heap.size w w' := by
  have H := Lib.hid h
  obtain ⟨a1, c1, rfl, hl1, hm1, _⟩ := h
  unfold maxLen at hm1
  have hN0 : (l.length : Int) ≤ 9223372036854775807 := by omega
  obtain ⟨N, hN⟩ : ∃ N, l.length = N := ⟨_, rfl⟩
  have HN := Lib.hid hN
  have HF := Lib.hid hf
  rw [hN] at hl1 H hN0 ⊢
  by_cases hsm : N ≤ 200
  · have htot : ∀ j, j ≤ N → tot (l.take j) ≤ 28147497671065600 := fun j hj => by
      have := tot_le l hf j (by omega)
      omega
    have HTT := Lib.hid htot
    have hfew : few l = decide ((tot (l.take N) : Int) ≤ 2000) := by
      unfold few
      have e : tot (l.take N) = tot l := by rw [← hN, List.take_length]
      rw [e, hN]
      have : decide (N ≤ 200) = true := by simpa using hsm
      rw [this, Bool.true_and]
      by_cases h : tot l ≤ 2000
      · rw [decide_eq_true h, decide_eq_true (by omega)]
      · rw [decide_eq_false h, decide_eq_false (by omega)]
    rw [hfew]
    have d200 : decide ((N : Int) ≤ 200) = true := by simp; omega
    clear htot hfew hN hf
    go_enter Tryd.func14, Tryd.ntmps14
    go_wp2_with fail
    go_loopw [3, 4] (fun s i wr => ∃ j : Nat, i = .int .i64 j ∧ j ≤ N ∧ s = .int .i64 (tot (l.take j) : Nat) ∧ Below w.heap.size w wr) (fun _ i _ => N - (intOf i).toNat)
    case atStart => exact ⟨0, rfl, by omega, by simp [tot], by go_grown⟩
    case round =>
      obtain ⟨j, rfl, hj, rfl, hb⟩ := hrel
      by_cases hlt : j < N
      · have d : decide ((j : Int) < (N : Int)) = true := by simp; omega
        have ji : (j : Int) < (N : Int) := by omega
        have hb1 := H.out.below hb
        obtain ⟨b1, o1, rfl, hbl1, p0, p1, p2, p3⟩ := hb1.got j (by rw [HN.out]; exact hlt)
        have ht := tot_take l j (by rw [HN.out]; exact hlt)
        have ht1 := HTT.out (j + 1) (by omega)
        obtain ⟨tx, htx⟩ : ∃ tx, (l[j]'(by rw [HN.out]; exact hlt)).text = tx := ⟨_, rfl⟩
        rw [htx] at p1 ht
        have hsz := str_size tx
        obtain ⟨M, hM⟩ : ∃ M, tx.length = M := ⟨_, rfl⟩
        obtain ⟨s, hs⟩ : ∃ s, str tx = s := ⟨_, rfl⟩
        rw [hs] at p1 hsz
        rw [hM] at hsz ht
        rw [ht] at ht1
        have HT1 := Lib.hid ht
        obtain ⟨S, hS⟩ : ∃ S, tot (l.take j) = S := ⟨_, rfl⟩
        rw [hS] at ht1 ⊢
        have HSS := Lib.hid hS
        have HB := Lib.hid hb
        clear hb1 htx hM hs ht hS hb p0 p2 p3 hbl1
        go_wp2_with fail
        refine ⟨⟨j + 1, by simp, by omega, by rw [HT1.out, HSS.out]; simp, HB.out⟩, ?_⟩
        simp [intOf]; omega
      · obtain rfl : j = N := by omega
        have d : decide ((j : Int) < (j : Int)) = false := by simp
        obtain ⟨S, hS⟩ : ∃ S, tot (l.take j) = S := ⟨_, rfl⟩
        rw [hS]
        have HB := Lib.hid hb
        have HSS := Lib.hid hS
        clear hb hS
        go_wp2
        go_ret
        exact ⟨by have := HSS.out; simp [this], HB.out⟩
  · have hfew : few l = false := by
      unfold few
      rw [hN, decide_eq_false hsm]; rfl
    rw [hfew]
    have d200 : decide ((N : Int) ≤ 200) = false := by simp; omega
    clear hfew hN hf
    go_enter Tryd.func14, Tryd.ntmps14
    go_wp2_with fail
    go_loopw [3, 4] (fun s i wr => ∃ (j : Nat) (S : Int), i = .int .i64 j ∧ j ≤ N ∧ s = .int .i64 S ∧ Below w.heap.size w wr) (fun _ i _ => N - (intOf i).toNat)
    case atStart => exact ⟨0, 0, rfl, by omega, rfl, by go_grown⟩
    case round =>
      obtain ⟨j, S, rfl, hj, rfl, hb⟩ := hrel
      by_cases hlt : j < N
      · have d : decide ((j : Int) < (N : Int)) = true := by simp; omega
        have ji : (j : Int) < (N : Int) := by omega
        have hb1 := H.out.below hb
        obtain ⟨b1, o1, rfl, hbl1, p0, p1, p2, p3⟩ := hb1.got j (by rw [HN.out]; exact hlt)
        obtain ⟨tx, htx⟩ : ∃ tx, (l[j]'(by rw [HN.out]; exact hlt)).text = tx := ⟨_, rfl⟩
        rw [htx] at p1
        obtain ⟨s, hs⟩ : ∃ s, str tx = s := ⟨_, rfl⟩
        rw [hs] at p1
        have HB := Lib.hid hb
        clear hb1 htx hs hb p0 p2 p3 hbl1
        go_wp2_with fail
        refine ⟨⟨j + 1, _, by simp, by omega, rfl, HB.out⟩, ?_⟩
        simp [intOf]; omega
      · obtain rfl : j = N := by omega
        have d : decide ((j : Int) < (j : Int)) = false := by simp
        have HB := Lib.hid hb
        clear hb
        go_wp2
        go_ret
        exact ⟨by simp, HB.out⟩
end Go.Proofs.YtdcdldjbdjochaaDoor
