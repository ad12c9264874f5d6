/- Packets that are valid, queues that are valid. -/
import Derived.Test.YtjancbjjeemedaaPar
namespace Go.Proofs.Ytjancbjjeemedaa
open Go.RowKit

set_option maxRecDepth 100000 in
set_option maxHeartbeats 1000000 in
theorem vpk_any (w : World) (p : Pk) (da : Option Addr) (dc : Nat) : Calls Try.prog 28 #[.agg #[.int .i64 p.frm, .int .i64 p.to, .slice da p.data.length dc]] w fun e w' => e = .returned (.bool (okPk p)) ∧ Below w.heap.size w w' := by
  obtain ⟨a, b, bs⟩ := p
  have hr : okPk ⟨a, b, bs⟩ = (okPair a b && decide (bs.length ≤ 1048576)) := rfl
  rw [hr]
  dsimp only
  have hp := fun o => par_any (w.alloc o) a b
  obtain ⟨q, hq⟩ : ∃ q, okPair a b = q := ⟨_, rfl⟩
  simp only [hq] at hp ⊢
  have HP := Lib.hid hp
  obtain ⟨n, hn⟩ : ∃ n, bs.length = n := ⟨_, rfl⟩
  rw [hn]
  clear hp hr hq hn
  have ed : decide ((n : Int) ≤ 1048576) = decide (n ≤ 1048576) := by
    by_cases h : n ≤ 1048576
    · have : (n : Int) ≤ 1048576 := by omega
      simp [h, this]
    · have : ¬ (n : Int) ≤ 1048576 := by omega
      simp [h, this]
  cases q with
  | false =>
    go_enter Try.func28, Try.ntmps28
    go_wp2_with fail
    refine (HP.out _).mono ?_
    rintro e w1 ⟨rfl, rfl⟩
    go_wp2
    go_ret
    exact ⟨by simp, (Below.refl _ _).alloc (Nat.le_refl _) _⟩
  | true =>
    go_enter Try.func28, Try.ntmps28
    go_wp2_with fail
    refine (HP.out _).mono ?_
    rintro e w1 ⟨rfl, rfl⟩
    go_wp2
    go_ret
    exact ⟨by simp, (Below.refl _ _).alloc (Nat.le_refl _) _⟩

theorem okQ_all {l : List Pk} {N : Nat} (hN : l.length = N) (h : ∀ i (h : i < l.length), i < N → okPk l[i] = true) : l.all okPk = true := by
  rw [List.all_eq_true]
  intro t ht
  obtain ⟨i, hi, rfl⟩ := List.getElem_of_mem ht
  exact h i hi (by omega)

set_option maxRecDepth 100000 in
set_option maxHeartbeats 2000000 in
theorem vq_any (w : World) (v : Value) (l : List Pk) (h : QAt w w.heap.size v l) : Calls Try.prog 32 #[v] w fun e w' => e = .returned (.bool (okQ l)) ∧ Below w.heap.size w w' := by
  have H := Lib.hid h
  obtain ⟨a, cap, rfl, hc, hm, _⟩ := h
  unfold maxLen at hm
  obtain ⟨N, hN⟩ : ∃ N, l.length = N := ⟨_, rfl⟩
  have HN := Lib.hid hN
  have hr : okQ l = (decide (N ≤ 4096) && l.all okPk) := by rw [← hN]; rfl
  rw [hr]
  rw [hN] at H hc ⊢
  clear hN hr
  by_cases hlong : N ≤ 4096
  · have d0 : decide (4096 < (N : Int)) = false := by simp; omega
    have d1 : decide (N ≤ 4096) = true := by simpa using hlong
    rw [d1, Bool.true_and]
    obtain ⟨res, hres⟩ : ∃ r, l.all okPk = r := ⟨_, rfl⟩
    have HRES := Lib.hid hres
    rw [hres]
    clear hres
    go_enter Try.func32, Try.ntmps32
    go_wp2_with fail
    go_loopw [10] (fun i wr => ∃ j : Nat, i = .int .i64 j ∧ j ≤ N ∧ Below w.heap.size w wr ∧ Hid (∀ i (h : i < l.length), i < j → okPk l[i] = true)) (fun i _ => N - (intOf i).toNat)
    case atStart => exact ⟨0, rfl, by omega, Below.refl _ _, Lib.hid fun i _ h => by omega⟩
    case round =>
      obtain ⟨j, rfl, hj, hb, hall⟩ := hrel
      have hbs := hb.size
      by_cases hlt : j < N
      · have d : decide ((j : Int) < (N : Int)) = true := by simp; omega
        have ji : (j : Int) < (N : Int) := by omega
        have hjl : j < l.length := by rw [HN.out]; exact hlt
        obtain ⟨b, off, rfl, hbl, _, p0, p1, da, dc, p2, _, _, _⟩ := (H.out.below hb).got j hjl
        have hv := fun W => vpk_any W (l[j]'hjl) da dc
        have hmem : l[j]'hjl ∈ l := List.getElem_mem _
        obtain ⟨p, hp⟩ : ∃ p, l[j]'hjl = p := ⟨_, rfl⟩
        rw [hp] at p0 p1 p2
        simp only [hp] at hv
        have HALL : Hid (okPk p = true → ∀ i (h : i < l.length), i < j + 1 → okPk l[i] = true) := Lib.hid fun hv i h hi => by
          by_cases h2 : i < j
          · exact hall.out i h h2
          · obtain rfl : i = j := by omega
            rw [hp]; exact hv
        have HNO : Hid (okPk p = false → res = false) := Lib.hid fun hv => by
          rw [← HRES.out]
          cases he : l.all okPk
          · rfl
          · have := List.all_eq_true.1 he _ hmem
            rw [hp, hv] at this; cases this
        obtain ⟨fr, to, dt⟩ := p
        dsimp only at p0 p1 p2 hv
        obtain ⟨t, ht⟩ : ∃ t, okPk ⟨fr, to, dt⟩ = t := ⟨_, rfl⟩
        rw [ht] at HALL HNO
        simp only [ht] at hv
        obtain ⟨n, hn⟩ : ∃ n, dt.length = n := ⟨_, rfl⟩
        rw [hn] at p2
        simp only [hn] at hv
        have HV := Lib.hid hv
        have HB := Lib.hid hb
        clear hv hmem hp hb hall ht hn
        go_wp2_with fail
        refine (HV.out _).mono ?_
        rintro e w4 ⟨rfl, hb4⟩
        have HF : Hid (Below w.heap.size w w4) := Lib.hid ((HB.out.alloc hbs _).trans (hb4.mono (by rw [World.size_alloc]; omega)))
        clear hb4 p0 p1 p2
        cases t with
        | false =>
          obtain rfl := HNO.out rfl
          go_wp2
          go_ret
          exact ⟨by simp, HF.out⟩
        | true =>
          have HA := Lib.hid (HALL.out rfl)
          clear HALL HNO
          go_wp2_with fail
          refine ⟨⟨j + 1, by go_num, by omega, HF.out, HA⟩, ?_⟩
          simp [intOf]; omega
      · obtain rfl : j = N := by omega
        have d : decide ((j : Int) < (j : Int)) = false := by simp
        obtain rfl : true = res := by rw [← HRES.out]; exact (okQ_all HN.out fun i hi hij => hall.out i hi hij).symm
        have HB := Lib.hid hb
        clear hb hall HRES
        go_wp2
        go_ret
        exact ⟨rfl, HB.out⟩
  · have d0 : decide (4096 < (N : Int)) = true := by simp; omega
    have d1 : decide (N ≤ 4096) = false := by simpa using hlong
    rw [d1, Bool.false_and]
    go_enter Try.func32, Try.ntmps32
    go_wp2
    go_ret
    exact ⟨rfl, Below.refl _ _⟩
end Go.Proofs.Ytjancbjjeemedaa
