/- A queue without one of its packets. -/
import Derived.Test.YtjancbjjeemedaaApp
namespace Go.Proofs.Ytjancbjjeemedaa
open Go.RowKit

/-- A part of a queue, in place. -/
theorem QAt.part {w : World} {B : Nat} {b off n cap : Nat} {l : List Pk} (h : QAt w B (.slice (some ⟨b, off, none⟩) n cap) l) (i m c : Nat) (him : i + m ≤ l.length) (hmc : m ≤ c) (hcm : c ≤ maxLen) : QAt w B (.slice (some ⟨b, off + i * 3, none⟩) m c) ((l.drop i).take m) := by
  obtain ⟨a', cap', e, _, _, h4⟩ := h
  cases e
  have hlen : ((l.drop i).take m).length = m := by rw [List.length_take, List.length_drop]; omega
  refine ⟨_, c, by rw [hlen], by rw [hlen]; exact hmc, hcm, ?_⟩
  by_cases hl : (l.drop i).take m = []
  · exact .inl hl
  · rcases h4 with h4 | ⟨b', off', h4, h5, h6⟩
    · subst h4; simp at hl
    · cases h4
      refine .inr ⟨b, off + i * 3, rfl, h5, fun j hj => ?_⟩
      rw [hlen] at hj
      obtain ⟨a0, a1, a2, u, a3, a4⟩ := h6 (i + j) (by omega)
      have e : ((l.drop i).take m)[j]'(by rw [hlen]; exact hj) = l[i + j]'(by omega) := by rw [List.getElem_take, List.getElem_drop]
      rw [e, show off + i * 3 + j * 3 = off + (i + j) * 3 by omega]
      exact ⟨a0, a1, a2, u, a3, a4⟩

theorem Try.elem22 : Try.prog.elem 22 = 28 := by simp [Program.elem, Try.underlying22]
theorem Try.slice22 : Try.prog.underlying 22 = some (.slice (Try.prog.elem 22)) := by rw [Try.elem22]; exact Try.underlying22
theorem Try.sizeOf28 (W : World) : (sizeOf 28).run Try.prog W = .ok 3 W := by
  obtain ⟨i, hi, _, hz, _⟩ := info_parts Try.info28
  simp [sizeOf, typeInfo, hi, hz]
/-- The packets ahead of a place, without room. -/
theorem slice_head (a : Option Addr) (N cap i : Nat) (h : i ≤ cap) (W : World) : (Instr.slice 22 (.slice a N cap) none (some (.int .i64 (i : Int))) (some (.int .i64 (i : Int)))).run Try.prog W = .ok (.slice a i i) W := by
  rw [run_slice_hm W 22 _ _ _ Try.slice22 .i64 .i64 _ _ (by omega) (by omega) (by omega), Try.elem22, Try.sizeOf28]
  simp only [Result.andThen, sliced, Int.toNat_natCast, Nat.sub_zero]
  cases a <;> simp [Addr.add]
theorem slice_tail (a : Option Addr) (N cap i : Nat) (h : i < N) (W : World) : (Instr.slice 22 (.slice a N cap) (some (.int .i64 ((i : Int) + 1))) none none).run Try.prog W = .ok (.slice (if cap = i + 1 then a else a.map (·.add ((i + 1) * 3))) (N - (i + 1)) (cap - (i + 1))) W := by
  rw [run_slice_l W 22 _ _ _ Try.slice22 .i64 _ (by omega) (by omega), Try.elem22, Try.sizeOf28]
  have e1 : ((i : Int) + 1).toNat = i + 1 := by omega
  simp [Result.andThen, sliced, e1]
theorem erase_eq (l : List Pk) (i : Nat) (_h : i < l.length) : l.eraseIdx i = (l.drop 0).take i ++ (l.drop (i + 1)).take (l.length - (i + 1)) := by
  rw [List.eraseIdx_eq_take_drop_succ, List.drop_zero, List.take_of_length_le (l := l.drop (i + 1)) (by rw [List.length_drop]; omega)]

set_option maxRecDepth 100000 in
set_option maxHeartbeats 2000000 in
theorem rem_any (w : World) (v : Value) (l : List Pk) (h : QAt w w.heap.size v l) (i : Nat) (hi : i < l.length) (hl : l.length ≤ 5000) : Calls Try.prog 44 #[v, .int .i64 (i : Nat)] w fun e w' => ∃ v', e = .returned v' ∧ QAt w' w'.heap.size v' (l.eraseIdx i) ∧ Below w.heap.size w w' := by
  obtain ⟨a, cap, rfl, hc, hm, _⟩ := id h
  obtain ⟨b, off, rfl, _, _, _⟩ := h.got i hi
  have hp1 := h.part 0 i i (by omega) (Nat.le_refl _) (by unfold maxLen; omega)
  rw [Nat.zero_mul, Nat.add_zero] at hp1
  have hp2 := h.part (i + 1) (l.length - (i + 1)) (cap - (i + 1)) (by omega) (by omega) (by omega)
  have hb : Below w.heap.size w w.drew := Below.drew (Below.refl _ _)
  have hl1 : ((l.drop 0).take i).length = i := by rw [List.length_take, List.length_drop]; omega
  have hl2 : ((l.drop (i + 1)).take (l.length - (i + 1))).length = l.length - (i + 1) := by rw [List.length_take, List.length_drop]; omega
  obtain ⟨A, hA⟩ : ∃ A, (if cap = i + 1 then some (⟨b, off, none⟩ : Addr) else (some (⟨b, off, none⟩ : Addr)).map (·.add ((i + 1) * 3))) = A := ⟨_, rfl⟩
  have hrun : ∃ v' W', (Builtin.append_ #[22, 22] 22 #[.slice (some ⟨b, off, none⟩) i i, .slice A (l.length - (i + 1)) (cap - (i + 1))]).run Try.prog w.drew = .ok v' W' ∧ QAt W' W'.heap.size v' (l.eraseIdx i) ∧ Below w.heap.size w W' := by
    by_cases he : l.length - (i + 1) = 0
    · rw [he]
      refine ⟨_, _, q_append_none w.drew _ _ _ (Nat.le_refl _) _ _, ?_, hb⟩
      have e : l.eraseIdx i = (l.drop 0).take i := by rw [erase_eq l i hi, he]; simp
      rw [e]
      exact hp1.next hb
    · rw [if_neg (by omega)] at hA
      have hA2 : A = some ⟨b, off + (i + 1) * 3, none⟩ := by rw [← hA, Option.map_some, Addr.add_mid]
      rw [hA2]
      have := q_append w.drew w.heap.size (Nat.le_refl _) (some ⟨b, off, none⟩) ((l.drop 0).take i) (by rw [hl1]; exact hp1.below hb) (some ⟨b, off + (i + 1) * 3, none⟩) (cap - (i + 1)) ((l.drop (i + 1)).take (l.length - (i + 1))) (by rw [hl2]; exact hp2.below hb) (fun h0 => he (by rw [← hl2, h0]; rfl)) (by rw [hl1, hl2]; omega)
      rw [hl1, hl2, ← erase_eq l i hi] at this
      obtain ⟨v', W', h1, h2, h3⟩ := this
      exact ⟨v', W', h1, h2, hb.trans h3⟩
  obtain ⟨v', W', hr, hq, hbw⟩ := hrun
  have hs1 := slice_head (some ⟨b, off, none⟩) l.length cap i (by omega)
  have hs2 := slice_tail (some ⟨b, off, none⟩) l.length cap i hi
  rw [hA] at hs2
  obtain ⟨N, hN⟩ : ∃ N, l.length = N := ⟨_, rfl⟩
  rw [hN] at hr hs1 hs2 hi hl ⊢
  have HR := Lib.hid hr
  have HQ := Lib.hid hq
  have HB := Lib.hid hbw
  have wi : IntKind.i64.wrap ((i : Int) + 1) = (i : Int) + 1 := by rw [IntKind.wrap_i64]; omega
  clear h hp1 hp2 hb hl1 hl2 hA hr hq hbw hN
  go_enter Try.func44, Try.ntmps44
  go_wp2
  go_still_tail 8, (by kernel_rfl)
  refine wpList_append_run rfl (.tmp 8) (.tmp 12) 22 22 rfl _ _ v' W' (by rfl) (by rfl) HR.out ?_
  go_wp2
  go_ret
  exact ⟨_, rfl, HQ.out, HB.out⟩
/-- A queue whose row lies below B or from H on, its data below B. -/
def QSep (w : World) (B H : Nat) (v : Value) (l : List Pk) : Prop :=
  ∃ a cap, v = .slice a l.length cap ∧ l.length ≤ cap ∧ cap ≤ maxLen ∧ (l = [] ∨ ∃ b off, a = some ⟨b, off, none⟩ ∧ (b < B ∨ H ≤ b) ∧ b < w.heap.size ∧ QIn w B b off l)
theorem QSep.at {w w' : World} {B H : Nat} {v : Value} {l : List Pk} (h : QSep w B H v l) (hb : Below B w w') (hs : w.heap.size ≤ w'.heap.size) (hB : B ≤ w'.heap.size) (hc : ∀ b o, H ≤ b → b < w.heap.size → w'.cell? ⟨b, o, none⟩ = w.cell? ⟨b, o, none⟩) : QAt w' w'.heap.size v l := by
  obtain ⟨a, cap, h1, h2, h3, h4⟩ := h
  refine ⟨a, cap, h1, h2, h3, ?_⟩
  rcases h4 with h4 | ⟨b, off, h4, h5, h6, h7⟩
  · exact .inl h4
  · refine .inr ⟨b, off, h4, by omega, fun i hi => ?_⟩
    obtain ⟨a0, a1, a2, u, a3, a4⟩ := h7 i hi
    have hcc : ∀ o, w'.cell? ⟨b, o, none⟩ = w.cell? ⟨b, o, none⟩ := fun o => by
      rcases h5 with h5 | h5
      · exact hb.cell (p := ⟨b, o, none⟩) h5
      · exact hc b o h5 h6
    exact ⟨a0, (hcc _).trans a1, (hcc _).trans a2, u, (hcc _).trans a3, (a4.below hb).mono hB⟩

set_option maxRecDepth 100000 in
set_option maxHeartbeats 2000000 in
theorem rem_sep (w : World) (B : Nat) (hB : B ≤ w.heap.size) (v : Value) (l : List Pk) (h : QAt w B v l) (i : Nat) (hi : i < l.length) (hl : l.length ≤ 5000) : Calls Try.prog 44 #[v, .int .i64 (i : Nat)] w fun e w' => ∃ v', e = .returned v' ∧ QSep w' B w.heap.size v' (l.eraseIdx i) ∧ Below w.heap.size w w' := by
  obtain ⟨a, cap, rfl, hc, hm, _⟩ := id h
  obtain ⟨b, off, rfl, hbB, _, _⟩ := h.got i hi
  have hp1 := h.part 0 i i (by omega) (Nat.le_refl _) (by unfold maxLen; omega)
  rw [Nat.zero_mul, Nat.add_zero] at hp1
  have hp2 := h.part (i + 1) (l.length - (i + 1)) (cap - (i + 1)) (by omega) (by omega) (by omega)
  have hb : Below w.heap.size w w.drew := Below.drew (Below.refl _ _)
  have hl1 : ((l.drop 0).take i).length = i := by rw [List.length_take, List.length_drop]; omega
  have hl2 : ((l.drop (i + 1)).take (l.length - (i + 1))).length = l.length - (i + 1) := by rw [List.length_take, List.length_drop]; omega
  obtain ⟨A, hA⟩ : ∃ A, (if cap = i + 1 then some (⟨b, off, none⟩ : Addr) else (some (⟨b, off, none⟩ : Addr)).map (·.add ((i + 1) * 3))) = A := ⟨_, rfl⟩
  have hrun : ∃ v' W', (Builtin.append_ #[22, 22] 22 #[.slice (some ⟨b, off, none⟩) i i, .slice A (l.length - (i + 1)) (cap - (i + 1))]).run Try.prog w.drew = .ok v' W' ∧ QSep W' B w.heap.size v' (l.eraseIdx i) ∧ Below w.heap.size w W' := by
    by_cases he : l.length - (i + 1) = 0
    · rw [he]
      refine ⟨_, _, q_append_none w.drew _ _ _ (Nat.le_refl _) _ _, ?_, hb⟩
      have e : l.eraseIdx i = (l.drop 0).take i := by rw [erase_eq l i hi, he]; simp
      rw [e]
      obtain ⟨a', cap', e1, e2, e3, e4⟩ := hp1.below (hb.mono hB)
      refine ⟨a', cap', e1, e2, e3, ?_⟩
      rcases e4 with e4 | ⟨b', off', e4, e5, e6⟩
      · exact .inl e4
      · exact .inr ⟨b', off', e4, .inl e5, Nat.lt_of_lt_of_le e5 hB, e6⟩
    · rw [if_neg (by omega)] at hA
      have hA2 : A = some ⟨b, off + (i + 1) * 3, none⟩ := by rw [← hA, Option.map_some, Addr.add_mid]
      rw [hA2]
      obtain ⟨cs, h3, h4, h5⟩ := (hp1.below (hb.mono hB)).cells
      obtain ⟨ds, h6, h7, _⟩ := (hp2.below (hb.mono hB)).cells
      have hne : (l.drop (i + 1)).take (l.length - (i + 1)) ≠ [] := fun h0 => he (by rw [← hl2, h0]; rfl)
      obtain ⟨b2, o2, e2, _, h8⟩ := h7 hne
      injection e2 with e2
      obtain ⟨vc, arr, hr, harr, f1, f2⟩ := q_app2 w.drew B (some ⟨b, off, none⟩) ((l.drop 0).take i) cs h3 (by
        by_cases h0 : (l.drop 0).take i = []
        · exact .inl h0
        · obtain ⟨b', off', e', _, hc'⟩ := h4 h0
          exact .inr ⟨_, e', fun j u hu => by rw [Addr.add_mid]; exact hc' j u hu⟩) ⟨b, off + (i + 1) * 3, none⟩ (cap - (i + 1)) _ ds h6 (fun j u hu => by rw [e2, Addr.add_mid]; exact h8 j u hu) hne (by rw [hl1, hl2]; omega)
      rw [hl1, hl2] at hr f1
      have hbw : Below w.heap.size w (w.drew.drew.alloc (.cells arr 28)) := (Below.drew hb).alloc (Nat.le_refl _) _
      refine ⟨_, _, hr, ?_, hbw⟩
      have hq := ((h3.app h6).below (w' := w.drew.drew.alloc (.cells arr 28)) ((Below.drew (Below.refl B w.drew)).alloc hB _))
      rw [← erase_eq l i hi] at hq
      have hlen : (l.eraseIdx i).length = i + (l.length - (i + 1)) := by rw [erase_eq l i hi, List.length_append, hl1, hl2]
      have hcell : ∀ (j : Nat) (u : Value), (cs ++ ds)[j]? = some u → (w.drew.drew.alloc (.cells arr 28)).cell? ⟨w.heap.size, j, none⟩ = some u := fun j u hu => by
        have h1 : (w.drew.drew.alloc (.cells arr 28)).cell? ⟨w.drew.drew.heap.size, j, none⟩ = arr[j]? := by rw [World.cell?_alloc_new]
        exact h1.trans (harr j u hu)
      refine ⟨_, vc, by rw [hlen]; rfl, by rw [hlen]; exact f1, f2, .inr ⟨w.heap.size, 0, rfl, .inr (Nat.le_refl _), by rw [World.size_alloc]; exact Nat.lt_succ_self _, fun j hj => ?_⟩⟩
      obtain ⟨a0, a1, a2, u, a3, a4⟩ := hq.at_ j hj
      rw [Nat.zero_add]
      exact ⟨a0, hcell _ _ a1, hcell _ _ a2, u, hcell _ _ a3, a4⟩
  obtain ⟨v', W', hr, hq, hbw⟩ := hrun
  have hs1 := slice_head (some ⟨b, off, none⟩) l.length cap i (by omega)
  have hs2 := slice_tail (some ⟨b, off, none⟩) l.length cap i hi
  rw [hA] at hs2
  unfold maxLen at hm
  obtain ⟨N, hN⟩ : ∃ N, l.length = N := ⟨_, rfl⟩
  rw [hN] at hr hs1 hs2 hi hl ⊢
  have HR := Lib.hid hr
  have HQ := Lib.hid hq
  have HB := Lib.hid hbw
  have wi : IntKind.i64.wrap ((i : Int) + 1) = (i : Int) + 1 := by rw [IntKind.wrap_i64]; omega
  clear h hp1 hp2 hb hl1 hl2 hA hr hq hbw hN
  go_enter Try.func44, Try.ntmps44
  go_wp2
  go_still_tail 8, (by kernel_rfl)
  refine wpList_append_run rfl (.tmp 8) (.tmp 12) 22 22 rfl _ _ v' W' (by rfl) (by rfl) HR.out ?_
  go_wp2
  go_ret
  exact ⟨_, rfl, HQ.out, HB.out⟩
end Go.Proofs.Ytjancbjjeemedaa
