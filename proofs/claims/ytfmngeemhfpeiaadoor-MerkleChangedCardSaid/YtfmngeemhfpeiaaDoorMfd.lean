/- merkle: Few, decided; a copy of a row of byte strings, and one put into it. -/
import Derived.Test.YtfmngeemhfpeiaaDoorMlv
namespace Go.Proofs.YtfmngeemhfpeiaaDoor
open Go.RowKit

set_option maxRecDepth 100000 in
set_option maxHeartbeats 4000000 in
theorem mfew_dec (w : World) (v : Value) (l : List (List UInt8)) (hv : BRows w w.heap.size v l) :
    Calls Tryd.prog 17 #[v] w fun e w' => ∃ B, e = .returned (.bool B) ∧ (B = true ↔ fewB l) ∧ w' = w := by
  obtain ⟨a, cap, rfl, hNc, hcm, _⟩ := id hv
  have HRO := Lib.hid (rows_cells hv)
  obtain ⟨N, hN⟩ : ∃ N, l.length = N := ⟨_, rfl⟩
  rw [hN] at hNc ⊢
  have HN := Lib.hid hN
  unfold maxLen at hcm
  clear hv hN
  go_enter Tryd.func17, Tryd.ntmps17
  go_wp2
  go_loopw [3] (fun s3 wr => ∃ t : Nat, s3 = .int .i64 t ∧ t ≤ 40 ∧ t ≤ N ∧ wr = w ∧ Hid (∀ j (hj : j < l.length), j < t → l[j].length ≤ 200)) (fun s3 _ => 40 - (intOf s3).toNat)
  case atStart => exact ⟨0, rfl, by omega, by omega, rfl, Lib.hid (fun j hj h => by omega)⟩
  case round =>
    obtain ⟨t, rfl, ht, htN, rfl, HA⟩ := hrel
    by_cases h1 : t < N
    · have f1 : decide ((t : Int) < (N : Int)) = true := by simp; omega
      have f2 : decide (t < N) = true := by simp; omega
      have f3 : (t : Int) < (N : Int) := by omega
      by_cases h2 : t < 40
      · have g1 : decide ((t : Int) < 40) = true := by simp; omega
        have g2 : decide (t < 40) = true := by simp; omega
        have iw : IntKind.i64.wrap ((t : Int) + 1) = (t : Int) + 1 := by rw [IntKind.wrap_i64]; omega
        have htl : t < l.length := by rw [HN.out]; exact h1
        obtain ⟨b0, off0, da, dc, rfl, hb0, hcell, hbytes⟩ := HRO.out _ (Below.refl _ _) t htl
        obtain ⟨L, hL⟩ : ∃ L, l[t].length = L := ⟨_, rfl⟩
        rw [hL] at hcell
        have HL := Lib.hid hL
        clear hbytes hL
        by_cases h3 : 200 < L
        · have k1 : decide ((L : Int) > 200) = true := by simp; omega
          have k2 : decide ((200 : Int) < (L : Int)) = true := by simp; omega
          have k3 : decide (200 < L) = true := by simp; omega
          go_wp2
          go_returns
          exact ⟨false, rfl, ⟨fun h => (by cases h), fun h => absurd (h.2 _ (List.getElem_mem htl)) (by rw [HL.out]; omega)⟩, rfl⟩
        · have k1 : decide ((L : Int) > 200) = false := by simp; omega
          have k2 : decide ((200 : Int) < (L : Int)) = false := by simp; omega
          have k3 : decide (200 < L) = false := by simp; omega
          go_wp2
          go_roundw
          case rel =>
            refine ⟨t + 1, by simp, by omega, by omega, trivial, Lib.hid fun j hj h => ?_⟩
            by_cases e : j = t
            · subst e; have := HL.out; omega
            · exact HA.out j hj (by omega)
          case measure => simp [intOf]; omega
      · have g1 : decide ((t : Int) < 40) = false := by simp; omega
        have g2 : decide (t < 40) = false := by simp; omega
        have k1 : decide ((N : Int) ≤ 40) = false := by simp; omega
        have k2 : decide (N ≤ 40) = false := by simp; omega
        go_wp2
        go_returns
        exact ⟨false, rfl, ⟨fun h => (by cases h), fun h => absurd h.1 (by rw [HN.out]; omega)⟩, rfl⟩
    · have f1 : decide ((t : Int) < (N : Int)) = false := by simp; omega
      have f2 : decide (t < N) = false := by simp; omega
      have k1 : decide ((N : Int) ≤ 40) = true := by simp; omega
      have k2 : decide (N ≤ 40) = true := by simp; omega
      go_wp2
      go_returns
      refine ⟨true, rfl, ⟨fun _ => ⟨by rw [HN.out]; omega, fun b hb => ?_⟩, fun _ => rfl⟩, rfl⟩
      obtain ⟨j, hj, rfl⟩ := List.getElem_of_mem hb
      exact HA.out j hj (by have := HN.out; omega)
theorem mfew_all (w : World) (v : Value) (l : List (List UInt8)) (hv : BRows w w.heap.size v l) :
    ∃ B : Bool, (B = true ↔ fewB l) ∧ ∀ W, Below w.heap.size w W → Calls Tryd.prog 17 #[v] W fun e w' => e = .returned (.bool B) ∧ w' = W := by
  by_cases h : fewB l
  · refine ⟨true, ⟨fun _ => h, fun _ => rfl⟩, fun W hW => (mfew_dec W v l (hv.at hW)).mono ?_⟩
    rintro e w' ⟨B, rfl, h2, rfl⟩
    exact ⟨by rw [h2.2 h], rfl⟩
  · refine ⟨false, ⟨fun h => (by cases h), fun h2 => absurd h2 h⟩, fun W hW => (mfew_dec W v l (hv.at hW)).mono ?_⟩
    rintro e w' ⟨B, rfl, h2, rfl⟩
    cases B with
    | false => exact ⟨rfl, rfl⟩
    | true => exact absurd (h2.1 rfl) h
theorem ex_list {P : Nat → Value → Prop} (n : Nat) (H : ∀ i, i < n → ∃ d, P i d) : ∃ cs : List Value, cs.length = n ∧ ∀ i (h : i < cs.length), P i cs[i] := by
  induction n with
  | zero => exact ⟨[], rfl, fun i h => absurd h (by simp)⟩
  | succ n ih =>
    obtain ⟨cs, h1, h2⟩ := ih fun i hi => H i (by omega)
    obtain ⟨d, hd⟩ := H n (by omega)
    refine ⟨cs ++ [d], by simp [h1], fun i hi => ?_⟩
    by_cases e : i < cs.length
    · rw [List.getElem_append_left e]; exact h2 i e
    · have hi2 : i = n := by simp at hi; omega
      subst hi2
      rw [List.getElem_append_right (by omega)]
      simpa using hd
theorem Tryd.info34z : (Tryd.prog.info? 34).map (fun i => (i.zero, i.size, i.bytes)) = some (some (.slice none 0 0), 1, 24) := by kernel_rfl
/-- Byte strings in a block. -/
def BBlk (W : World) (B g : Nat) (l : List (List UInt8)) : Prop := ∀ i (h : i < l.length), ∃ d, W.cell? ⟨g, i, none⟩ = some d ∧ W.frozen? ⟨g, i, none⟩ = false ∧ BytesAt W B d l[i]
theorem b_copy (W : World) (a : Option Addr) (l : List (List UInt8)) (cap : Nat) (h : BRows W W.heap.size (.slice a l.length cap) l) (hne : 0 < l.length) (g : Nat) (hs : l.length ≤ 100000) :
    ∃ c W', (Builtin.append_ #[22, 22] 22 #[.slice (some ⟨g, 0, none⟩) 0 0, .slice a l.length cap]).run Tryd.prog W = .ok (.slice (some ⟨W.heap.size, 0, none⟩) l.length c) W' ∧ l.length ≤ c ∧ c ≤ maxLen ∧ W.heap.size < W'.heap.size ∧ BBlk W' W.heap.size W.heap.size l ∧ Below W.heap.size W W' := by
  obtain ⟨i, hi, hz0, hz1, hz2⟩ := info_parts Tryd.info34z
  obtain ⟨a', cap', e, h1, h2, h3⟩ := h
  injection e with e1 e2 e3
  subst e1
  subst e3
  obtain ⟨b, off, rfl, hb, h6⟩ := h3.resolve_left (fun e => by rw [e] at hne; simp at hne)
  obtain ⟨cs, hcs, hP⟩ := ex_list (P := fun j d => W.cell? ⟨b, off + j, none⟩ = some d ∧ ∀ hj : j < l.length, BytesAt W W.heap.size d l[j]) l.length (fun j hj => by
    obtain ⟨d, q1, q2⟩ := h6 j hj
    exact ⟨d, q1, fun _ => q2⟩)
  have hrun := run_append_grow (P := Tryd.prog) W 22 22 34 i _ Tryd.underlying22 hi hz0 ⟨g, 0, none⟩ 0 0 [] (by simp) (fun j v hv => by simp at hv) ⟨b, off, none⟩ l.length cap cs (by rw [hz1]; omega) (fun j v hv => by
    obtain ⟨hj, rfl⟩ := List.getElem?_eq_some_iff.1 hv
    rw [Addr.add_mid]
    exact (hP j hj).1) (by omega) (by omega) (growslice_fits (by omega) (by rw [hz2]; omega))
  have hg := grownCap_ge W (0 + l.length) 0 34
  have hgm := grownCap_le_maxLen W (0 + l.length) 0 34 (by unfold maxLen; omega)
  have hb2 : ∀ (arr : Array Value), Below W.heap.size W (W.drew.alloc (.cells arr 34)) := fun arr => (Below.drew (Below.refl _ _)).alloc (Nat.le_refl _) _
  rw [Nat.zero_add] at hrun hg hgm
  refine ⟨_, _, hrun, hg, hgm, by rw [World.size_alloc]; exact Nat.lt_succ_self _, ?_, hb2 _⟩
  intro i hil
  have hic : i < cs.length := by rw [hcs]; exact hil
  obtain ⟨_, q2⟩ := hP i hic
  refine ⟨cs[i], ?_, World.frozen?_alloc_new .., (q2 hil).below (hb2 _)⟩
  have : ∀ arr : Array Value, (W.drew.alloc (.cells arr 34)).cell? ⟨W.drew.heap.size, i, none⟩ = arr[i]? := fun arr => by rw [World.cell?_alloc_new]
  refine (this _).trans ?_
  rw [Array.getElem?_append_left (by simpa using hic)]
  simp [List.getElem?_eq_getElem hic]
theorem b_put (W : World) (B g c : Nat) (l : List (List UInt8)) (hB : B ≤ g) (hg : g < W.heap.size) (H : BBlk W B g l) (k : Nat) (hk : k < l.length) (x : List UInt8) (d : Value) (hd : BytesAt W B d x) (h1 : l.length ≤ c) (h2 : c ≤ maxLen) :
    BRows (W.setCell ⟨g, k, none⟩ d) (W.setCell ⟨g, k, none⟩ d).heap.size (.slice (some ⟨g, 0, none⟩) l.length c) (l.set k x) := by
  have hbe : Below g W (W.setCell ⟨g, k, none⟩ d) := (Below.refl g W).setCell (Nat.le_refl g) _
  have hsz := hbe.size
  refine ⟨_, c, by rw [List.length_set], by rw [List.length_set]; exact h1, h2, .inr ⟨g, 0, rfl, by omega, fun i hi => ?_⟩⟩
  have hi' : i < l.length := by rw [List.length_set] at hi; exact hi
  rw [Nat.zero_add]
  by_cases e : i = k
  · subst e
    obtain ⟨d', q1, _, _⟩ := H i hi'
    refine ⟨d, ?_, ?_⟩
    · exact World.cell?_setCell_same _ _ _ q1
    · rw [List.getElem_set_self]
      exact ((hd.mono hB).below hbe).mono (by omega)
  · obtain ⟨d', q1, _, q3⟩ := H i hi'
    refine ⟨d', ?_, ?_⟩
    · rw [World.cell?_setCell_other]
      · exact q1
      · simp <;> omega
    · rw [List.getElem_set_ne (by omega)]
      exact ((q3.mono hB).below hbe).mono (by omega)
theorem mroot_l32 (l : List (List UInt8)) : (mroot l).length = 32 := by
  by_cases h : l = []
  · subst h; unfold mroot; rw [if_pos rfl]; exact tagged_len _ _
  · exact mroot_len l h
end Go.Proofs.YtfmngeemhfpeiaaDoor
