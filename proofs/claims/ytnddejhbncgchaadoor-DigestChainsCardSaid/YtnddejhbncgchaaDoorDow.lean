/- The digests that bytes determine: where they lie. -/
import Derived.Test.YtnddejhbncgchaaDoorDof
namespace Go.Proofs.YtnddejhbncgchaaDoor
open Go.RowKit

set_option maxRecDepth 100000 in
set_option maxHeartbeats 4000000 in
theorem digestsOwn_any (w : World) (v : Value) (b : List UInt8) (hv : BytesAt w w.heap.size v b) :
    Calls Tryd.prog 16 #[v] w fun e w' => ∃ u, e = .returned u ∧ w'.ownsRow w.heap.size 26 32 u (dsOf b).length (flat (dsOf b)) ∧ Below w.heap.size w w' := by
  obtain ⟨i0, hi, hz0, hz1, hz2⟩ := info_parts Tryd.info26z
  obtain ⟨a, cap, rfl, hc, hm, h4⟩ := hv
  obtain ⟨n, hn⟩ : ∃ n, b.length = n := ⟨_, rfl⟩
  rw [hn] at hc ⊢
  unfold maxLen at hm
  have hnm : n ≤ 9223372036854775807 := by omega
  have H4 := Lib.hid h4
  have HN := Lib.hid hn
  have HI := Lib.hid hi
  have HZ0 := Lib.hid hz0
  have HZ1 := Lib.hid hz1
  have HZ2 := Lib.hid hz2
  clear h4 hn hc hm hi hz0 hz1 hz2
  go_enter Tryd.func16, Tryd.ntmps16
  go_wp2
  go_loopw [3, 4] (fun l i wr => ∃ t : Nat, i = .int .i64 t ∧ t ≤ n ∧ t ≤ 24 ∧ Below w.heap.size w wr ∧ wr.ownsRow w.heap.size 26 32 l t (flat (dsTo b t)))
    (fun _ i _ => 24 - (intOf i).toNat)
  case atStart => exact ⟨0, rfl, by omega, by omega, by go_grown, World.ownsRow_made w #[] 0 (Nat.le_refl _) (by unfold maxLen; omega) rfl⟩
  case round =>
    obtain ⟨t, rfl, htn, ht, hB, hO⟩ := hrel
    have HB := Lib.hid hB
    have HO := Lib.hid hO
    clear hB hO
    by_cases hlt : t < n ∧ t < 24
    · obtain ⟨h1, h2⟩ := hlt
      have d1 : decide (t < n) = true := by simpa using h1
      have d2 : decide ((t : Int) < 24) = true := by simp; omega
      have hne : b ≠ [] := fun e => by have := HN.out; rw [e] at this; simp at this; omega
      rcases H4.out with h4 | ⟨db, off, rfl, hdb, hby⟩
      · exact absurd h4 hne
      have hc1 := (hby.below HB.out hdb).getD (i := t) (by rw [HN.out]; exact h1)
      have hsn : flat (dsTo b (t + 1)) = flat (dsTo b t) ++ cells8 (d32 ((b.getD t 0).toNat % 4) (t / 8)) := by rw [dsTo_succ, flat_snoc]
      obtain ⟨x, hx⟩ : ∃ x, b.getD t 0 = x := ⟨_, rfl⟩
      rw [hx] at hc1 hsn
      have hx8 := x.toNat_lt
      have q1 : (x.toNat : Int) % 4 = ((x.toNat % 4 : Nat) : Int) := by omega
      have hcs : ∀ W : World, ∀ j u, (cells8 (d32 (x.toNat % 4) (t / 8)))[j]? = some u → (W.alloc (.cells (cells8 (d32 (x.toNat % 4) (t / 8))).toArray 26)).cell? ((⟨W.heap.size, 0, none⟩ : Addr).add j) = some u := fun W j u hu =>
        World.news_of_block (heap_alloc_new W _) j u (by simpa using hu)
      have HX := Lib.hid hx
      have HS := Lib.hid hsn
      have HCS := Lib.hid hcs
      clear hx hsn hcs hby hne
      obtain ⟨D, hD⟩ : ∃ D, cells8 (d32 (x.toNat % 4) (t / 8)) = D := ⟨_, rfl⟩
      have hDl : D.length = 32 := by rw [← hD, cells8_len, d32_len]
      have hD1 : ∀ v ∈ D, v.oneCell' = true := by rw [← hD]; exact one_cells8 _
      have hbd : ∀ W : World, (Instr.build 26 #[(0, .int .u8 ((x.toNat : Int) % 4)), (1, .int .u8 ((t : Int) / 8))]).run Tryd.prog W = .ok (.agg D.toArray) W := fun W => by
        have h := run_build W 26 #[(0, .int .u8 ((x.toNat : Int) % 4)), (1, .int .u8 ((t : Int) / 8))] _ (d32_built _ _)
        rw [h, ← hD, d32_cells _ _ (by omega) (by omega)]
        rfl
      have hbs : ∀ W : World, (Instr.buildSlice 30 1 #[(0, .agg D.toArray)]).run Tryd.prog W = .ok (.slice (some ⟨W.heap.size, 0, none⟩) 1 1) (W.alloc (.cells D.toArray 26)) := fun W => run_buildSlice1 W _ (by simpa using hDl)
      have HD := Lib.hid hD
      have HDL := Lib.hid hDl
      have HBD := Lib.hid hbd
      have HBS := Lib.hid hbs
      have HD1 := Lib.hid hD1
      clear hD hDl hbd hbs hD1
      go_wp2_with (first
        | (refine wpList_build_run rfl 26 [(0, Operand.tmp 21), (1, Operand.tmp 24)] (by rfl) _ _ (by rfl) (HBD.out _) ?_; simp only [Act.put, List.setIfInBounds_toArray, List.set_cons_zero, List.set_cons_succ])
        | (refine wpList_buildSlice_run rfl 30 1 [(0, Operand.tmp 25)] (by rfl) _ _ (by rfl) (HBS.out _) ?_; simp only [Act.put, List.setIfInBounds_toArray, List.set_cons_zero, List.set_cons_succ])
        | (at_builtin; refine wpList_append_lies _ (by rfl) (.tmp 16) (.tmp 26) 30 (by rfl) w.heap.size 26 i0 _ 32 32 Tryd.underlying30 HI.out HZ0.out HZ1.out HZ2.out (by simp [Value.cells]) (by omega) _ t (flat (dsTo b t)) (by rfl) (HO.out.alloc _) ⟨wr.heap.size, 0, none⟩ 1 1 D (by rfl) (by rw [HDL.out]) (fun j u hu => World.news_of_block (heap_alloc_new wr _) j u (by simpa using hu)) HD1.out (by omega) (by unfold maxLen; omega) (by omega) (by have := HB.out.size; simp; omega) _ rfl ?_; intro g cap2 w1 hown1 hgrow1 hat1 hlt1; simp only [Act.put, List.setIfInBounds_toArray, List.set_cons_zero, List.set_cons_succ]))
      have hB1 : Below w.heap.size w w1 := below_grow (HB.out.alloc HB.out.size _) hgrow1 (fun k hk => (HO.out.lt k hk).1) (by have := HB.out.size; simp; omega)
      have hO1 : w1.ownsRow w.heap.size 26 32 (.slice (some ⟨g, 0, none⟩) (t + 1) cap2) (t + 1) (flat (dsTo b (t + 1))) := by rw [HS.out, HD.out]; exact hown1
      have HB1 := Lib.hid hB1
      have HO1 := Lib.hid hO1
      clear hB1 hO1 hown1 hgrow1 hat1
      go_wp2
      go_roundw
      case rel => exact ⟨t + 1, by simp, by omega, by omega, HB1.out, HO1.out⟩
      case measure => simp [intOf]; omega
    · have he : t = min n 24 := by omega
      have hf : dsOf b = dsTo b t := by unfold dsOf; rw [HN.out, ← he]
      have hD : wr.ownsRow w.heap.size 26 32 u3 (dsOf b).length (flat (dsOf b)) := by
        rw [hf, dsTo_len]
        exact HO.out
      have HDG := Lib.hid hD
      clear hf hD
      by_cases h1 : t < n
      · have d1 : decide (t < n) = true := by simpa using h1
        have d2 : decide ((t : Int) < 24) = false := by simp; omega
        clear he hlt
        go_wp2
        go_ret
        exact ⟨_, rfl, HDG.out, HB.out⟩
      · have d1 : decide (t < n) = false := by simpa using h1
        clear he hlt
        go_wp2
        go_ret
        exact ⟨_, rfl, HDG.out, HB.out⟩
end Go.Proofs.YtnddejhbncgchaaDoor
