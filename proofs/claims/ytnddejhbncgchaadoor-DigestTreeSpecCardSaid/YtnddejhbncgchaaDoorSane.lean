/- The chapter's examples hold. -/
import Derived.Test.YtnddejhbncgchaaDoorCl3
import Derived.Lib.SlBytesConst
import Derived.Deep.RegionHeld3
import Derived.DeepKeys
namespace Go.Proofs.YtnddejhbncgchaaDoor
open Go.RowKit

def o32 : List UInt8 := 1 :: List.replicate 31 0
theorem o32_len : o32.length = 32 := rfl

theorem cell_take {l t : List UInt8} {k : Nat} (h : l.take k = t) (i : Nat) (hi : i < k) {v : Value} (hv : (cells8 t)[i]? = some v) : (cells8 l)[i]? = some v := by
  rw [← hv, ← h]
  unfold cells8
  rw [List.getElem?_map, List.getElem?_map, List.getElem?_take_of_lt hi]
theorem Arr.others {b b' : Nat} {cs : List Value} (hne : b ≠ b') : ∀ (vs : List Value) (o : Nat) (W : World), Arr W b cs → Arr (W.setCells b' o vs) b cs
  | [], _, _, h => h
  | v :: r, o, W, h => by
    rw [World.setCells]
    exact Arr.others hne r (o + 1) _ (h.other hne o v)
theorem store_new2 {P : Program} {ops : Array Oper} {rest : List Oper} {op : Oper} {a : Act} {w w0 : World} {Q : Exit → Act → World → Prop} (hgd : op.guard = none) (ty : TypeId) (x y : Operand) (ho : op.op = .store ty x y)
    (B b : Nat) (cs old : List Value) (hx : a.eval x = .pointer (some ⟨b, 0, none⟩)) (hy : a.eval y = .agg cs.toArray) (hB : Below B w0 w) (hb : B ≤ b) (ht : Arr w b old) (hl : cs.length = old.length)
    (hi : (P.info? ty).map (·.size) = some cs.length) (h1 : ∀ v ∈ cs, v.oneCell' = true)
    (h : ∀ W, Below B w0 W → Arr W b cs → (∀ b' cs', b' ≠ b → Arr w b' cs' → Arr W b' cs') → w.heap.size ≤ W.heap.size → wpList P ops Q rest (a.put op.dst undef) W) : wpList P ops Q (op :: rest) a w := by
  refine wpList_store_mid hgd ty x y ho b 0 cs.toArray hx hy (by rw [List.size_toArray, hl]; exact ht.there) (by simpa using hi) (all_oneCell_toArray h1) ?_
  exact h _ (below_setCells hb _ _ _ hB) (ht.stored hl) (fun b' cs' hne h' => h'.others hne _ _ _) (below_setCells (B := 0) (Nat.zero_le _) cs.toArray.toList 0 w (Below.refl 0 w)).size

set_option maxRecDepth 100000 in
theorem key_leaf : (keyOf Tryd.prog 26 (dv (tree [o32]))).isSome = true := by decide +kernel
set_option maxRecDepth 100000 in
theorem key_none : (keyOf Tryd.prog 26 (dv (tree []))).isSome = true := by decide +kernel
set_option maxRecDepth 100000 in
theorem key_chain : (keyOf Tryd.prog 26 (dv (tagged tChain (z32 ++ z32)))).isSome = true := by decide +kernel
theorem same_key {x : Value} (h : (keyOf Tryd.prog 26 x).isSome = true) (W : World) : (Op.equalIn 10000 26 x x).run Tryd.prog W = .ok true W := by
  obtain ⟨l, hl⟩ := Option.isSome_iff_exists.1 h
  obtain ⟨r, hr, hi⟩ := run_equal_deep (P := Tryd.prog) W (m := 20) (by decide) (k := 26) (by kernel_rfl) (by kernel_rfl) hl hl
  rw [hi.2 rfl] at hr
  exact hr

set_option maxRecDepth 100000 in
set_option maxHeartbeats 4000000 in
theorem sane_any (w : World) (hT : Tab w) (h0 : 0 < w.heap.size) :
    Calls Tryd.prog 11 #[] w fun e w' => e = .returned (.bool true) ∧ Below w.heap.size w w' := by
  obtain ⟨cz, hcz⟩ : ∃ cz, cells8 z32 = cz := ⟨_, rfl⟩
  have hbad : ∀ W : World, Calls Tryd.prog 22 #[.agg #[.int .u8 0, .int .u8 0, .int .u8 0, .int .u8 0, .int .u8 0, .int .u8 0, .int .u8 0, .int .u8 0, .int .u8 0, .int .u8 0, .int .u8 0, .int .u8 0, .int .u8 0, .int .u8 0, .int .u8 0, .int .u8 0, .int .u8 0, .int .u8 0, .int .u8 0, .int .u8 0, .int .u8 0, .int .u8 0, .int .u8 0, .int .u8 0, .int .u8 0, .int .u8 0, .int .u8 0, .int .u8 0, .int .u8 0, .int .u8 0, .int .u8 0, .int .u8 0], .int .i64 0, .int .i64 2, .slice none 0 0] W fun e w' => e = .returned (.tuple #[.agg cz.toArray, .int .i64 1]) ∧ Below W.heap.size W w' := fun W =>
    (climb_bad W z32 z32_len 0 2 0 0 none (by omega) (by omega) (by omega) (by decide +kernel) (by omega)).mono fun e w' h => ⟨by rw [h.1, dv_eq, hcz], h.2⟩
  obtain ⟨cl, hcl⟩ : ∃ cl, cells8 (tree [o32]) = cl := ⟨_, rfl⟩
  have hgood : ∀ W : World, Below w.heap.size w W → Calls Tryd.prog 22 #[.agg #[.int .u8 1, .int .u8 0, .int .u8 0, .int .u8 0, .int .u8 0, .int .u8 0, .int .u8 0, .int .u8 0, .int .u8 0, .int .u8 0, .int .u8 0, .int .u8 0, .int .u8 0, .int .u8 0, .int .u8 0, .int .u8 0, .int .u8 0, .int .u8 0, .int .u8 0, .int .u8 0, .int .u8 0, .int .u8 0, .int .u8 0, .int .u8 0, .int .u8 0, .int .u8 0, .int .u8 0, .int .u8 0, .int .u8 0, .int .u8 0, .int .u8 0, .int .u8 0], .int .i64 0, .int .i64 1, .slice none 0 0] W fun e w' => e = .returned (.tuple #[.agg cl.toArray, .int .i64 0]) ∧ Below W.heap.size W w' := fun W hB => by
    have h := climb_good W o32 (tree [o32]) o32_len (tree_len _) 0 1 0 0 none (by omega) (by omega) (by omega) (by decide +kernel) (by omega) (fun V hV => climb_one V o32 o32_len 0 none 0 0 ((hT.below hB h0).below hV (by have := hB.size; omega)) (by have := hB.size; have := hV.size; omega))
    rw [dv_eq (tree [o32]), hcl] at h
    exact h
  obtain ⟨ca, hca⟩ : ∃ ca, cells8 (sha [97, 98, 99]) = ca := ⟨_, rfl⟩
  obtain ⟨cb, hcb⟩ : ∃ cb, cells8 (sha []) = cb := ⟨_, rfl⟩
  have hsa : ∀ W : World, Below w.heap.size w W → Calls Tryd.prog 12 #[.slice (some ⟨W.heap.size, 0, none⟩) 3 3] (W.alloc (.cells #[.int .u8 97, .int .u8 98, .int .u8 99] 5 (3, 4))) fun e w' => e = .returned (.agg ca.toArray) ∧ Below w.heap.size w w' := fun W hB => by
    have hb : BytesIn (W.alloc (.cells #[.int .u8 97, .int .u8 98, .int .u8 99] 5 (3, 4))) W.heap.size 0 [97, 98, 99] := fun i hi => by
      rw [Nat.zero_add]
      simp only [World.cell?, heap_alloc_new]
      match i, hi with
      | 0, _ => rfl
      | 1, _ => rfl
      | 2, _ => rfl
    have hB1 := hB.alloc hB.size (.cells #[.int .u8 97, .int .u8 98, .int .u8 99] 5 (3, 4))
    have h := sum_any _ _ [97, 98, 99] (.inr ⟨W.heap.size, 0, 3, rfl, by simp, by unfold maxLen; omega, by simp, hb⟩) (by simp) (hT.below hB1 h0) (by have := hB1.size; omega)
    rw [dv_eq, hca] at h
    exact h.mono fun e w' h => ⟨h.1, hB1.trans (h.2.mono hB1.size)⟩
  have hsb : ∀ W : World, Below w.heap.size w W → Calls Tryd.prog 12 #[.slice none 0 0] W fun e w' => e = .returned (.agg cb.toArray) ∧ Below W.heap.size W w' := fun W hB => by
    have h := sum_nil W (hT.below hB h0) (by have := hB.size; omega)
    rw [dv_eq, hcb] at h
    exact h
  have HBAD := Lib.hid hbad
  have HGOOD := Lib.hid hgood
  have HSA := Lib.hid hsa
  have HSB := Lib.hid hsb
  have HCL := Lib.hid hcl
  have HCA := Lib.hid hca
  have HCB := Lib.hid hcb
  have HCZ := Lib.hid hcz
  have HT := Lib.hid hT
  clear hbad hgood hsa hsb hcl hca hcb hcz hT
  have kc := fun (W : World) (C : Array Value) (n c : Nat) => Lib.run_convert_bytes_const (P := Tryd.prog) W 22 5 C n c Tryd.underlying22 Tryd.underlying5
  go_enter Tryd.func11, Tryd.ntmps11
  go_wp2_with fail
  refine (HSA.out w (Below.refl _ _)).mono ?_
  rintro e w1 ⟨rfl, hB1⟩
  go_wp2_with fail
  refine (HSB.out w1 hB1).mono ?_
  rintro e w2 ⟨rfl, hB2⟩
  have hk2 := hB1.trans (hB2.mono hB1.size)
  have hza : (Tryd.prog.info? 26).map (·.size) = some ca.length := by rw [← HCA.out, cells8_len, sha_len]; exact Tryd.info26
  have hzb : (Tryd.prog.info? 26).map (·.size) = some cb.length := by rw [← HCB.out, cells8_len, sha_len]; exact Tryd.info26
  have hoa : ∀ v ∈ ca, v.oneCell' = true := by rw [← HCA.out]; exact one_cells8 _
  have hob : ∀ v ∈ cb, v.oneCell' = true := by rw [← HCB.out]; exact one_cells8 _
  have hla : ca.length = 32 := by rw [← HCA.out, cells8_len, sha_len]
  have hlb : cb.length = 32 := by rw [← HCB.out, cells8_len, sha_len]
  have HK2 := Lib.hid hk2
  have HZA := Lib.hid hza
  have HZB := Lib.hid hzb
  have HOA := Lib.hid hoa
  have HOB := Lib.hid hob
  have HLA := Lib.hid hla
  have HLB := Lib.hid hlb
  clear hB1 hB2 hk2 hza hzb hoa hob hla hlb kc
  go_wp2_with (first
    | (refine store_new2 rfl 26 _ _ (by rfl) w2.heap.size w2.heap.size ca _ (by rfl) (by rfl) (Below.alloc (Below.alloc (Below.refl w2.heap.size w2) (Nat.le_refl _) _) (by simp) _) (Nat.le_refl _) ((Arr.new w2 _ 26).alloc (by simp) _) (by rw [HLA.out]; rfl) HZA.out HOA.out ?_
       intro W3 hB3 hA3 hO3 hz3
       have hN3 : Arr W3 (w2.heap.size + 1) (List.replicate 32 (.int .u8 0)) := hO3 (w2.heap.size + 1) (List.replicate 32 (.int .u8 0)) (by omega) (by
         have hz : ∀ V : World, V.heap.size = w2.heap.size + 1 → Arr (V.alloc (.cells (Array.replicate 32 (.int .u8 0)) 26)) (w2.heap.size + 1) (List.replicate 32 (.int .u8 0)) := fun V hV => by
           have h := Arr.new V (Array.replicate 32 (.int .u8 0)) 26
           rw [hV, Array.toList_replicate] at h
           exact h
         exact hz _ (by simp))
       refine store_new2 rfl 26 _ _ (by rfl) w2.heap.size (w2.heap.size + 1) cb _ (by rfl) (by rfl) hB3 (by omega) hN3 (by rw [HLB.out]; rfl) HZB.out HOB.out ?_
       intro W4 hB4 hA4 hO4 hz4
       have hA5 := hO4 w2.heap.size _ (by omega) hA3
       have HA4 := Lib.hid hA4
       have HA5 := Lib.hid hA5
       have HB4 := Lib.hid hB4
       clear hB3 hA3 hO3 hz3 hN3 hB4 hA4 hO4 hz4 hA5
       ))
  refine (path_nil _).mono ?_
  rintro e w5 ⟨rfl, hB5⟩
  have HB5 := Lib.hid hB5
  clear hB5
  go_wp2_with fail
  refine (HBAD.out w5).mono ?_
  rintro e w6 ⟨rfl, hB6⟩
  have HB6 := Lib.hid hB6
  have hzz : (Tryd.prog.info? 26).map (·.size) = some cz.length := by rw [← HCZ.out, cells8_len, z32_len]; exact Tryd.info26
  have hoz : ∀ v ∈ cz, v.oneCell' = true := by rw [← HCZ.out]; exact one_cells8 _
  have hlz : cz.length = 32 := by rw [← HCZ.out, cells8_len, z32_len]
  have HZZ := Lib.hid hzz
  have HOZ := Lib.hid hoz
  have HLZ := Lib.hid hlz
  clear hB6 hzz hoz hlz
  go_wp2_with (first
    | (refine store_new2 rfl 26 _ _ (by rfl) w6.heap.size w6.heap.size cz _ (by rfl) (by rfl) (Below.alloc (Below.refl w6.heap.size w6) (Nat.le_refl _) _) (Nat.le_refl _) (Arr.new w6 _ 26) (by rw [HLZ.out]; rfl) HZZ.out HOZ.out ?_
       intro W7 hB7 hA7 hO7 hz7
       have HB7 := Lib.hid hB7
       clear hB7 hA7 hO7 hz7
       ))
  have hk7 : Below w.heap.size w W7 := HK2.out.trans ((((HB4.out.trans (HB5.out.mono HB4.out.size)).trans (HB6.out.mono (Nat.le_trans HB4.out.size HB5.out.size))).trans (HB7.out.mono (Nat.le_trans HB4.out.size (Nat.le_trans HB5.out.size HB6.out.size)))).mono HK2.out.size)
  refine (HGOOD.out W7 hk7).mono ?_
  rintro e w8 ⟨rfl, hB8⟩
  have HB8 := Lib.hid hB8
  have hzl : (Tryd.prog.info? 26).map (·.size) = some cl.length := by rw [← HCL.out, cells8_len, tree_len]; exact Tryd.info26
  have hol : ∀ v ∈ cl, v.oneCell' = true := by rw [← HCL.out]; exact one_cells8 _
  have hll : cl.length = 32 := by rw [← HCL.out, cells8_len, tree_len]
  have HZL := Lib.hid hzl
  have HOL := Lib.hid hol
  have HLL := Lib.hid hll
  have HK7 := Lib.hid hk7
  clear hB8 hzl hol hll hk7
  have h45 := HB5.out.size
  have h56 := HB6.out.size
  have h67 := HB7.out.size
  have h78 := HB8.out.size
  have h4 := HB4.out.size
  have hA8 : Arr w8 w2.heap.size ca := ((((HA5.out.below HB5.out (HA5.out.lt (by rw [HLA.out]; decide))).below HB6.out (by have := HA5.out.lt (by rw [HLA.out]; decide); omega)).below HB7.out (by have := HA5.out.lt (by rw [HLA.out]; decide); omega)).below HB8.out (by have := HA5.out.lt (by rw [HLA.out]; decide); omega))
  have hC8 : Arr w8 (w2.heap.size + 1) cb := ((((HA4.out.below HB5.out (HA4.out.lt (by rw [HLB.out]; decide))).below HB6.out (by have := HA4.out.lt (by rw [HLB.out]; decide); omega)).below HB7.out (by have := HA4.out.lt (by rw [HLB.out]; decide); omega)).below HB8.out (by have := HA4.out.lt (by rw [HLB.out]; decide); omega))
  have HA8 := Lib.hid hA8
  have HC8 := Lib.hid hC8
  clear h45 h56 h67 h78 h4 hA8 hC8
  go_wp2_with (first
    | (refine store_new2 rfl 26 _ _ (by rfl) w8.heap.size w8.heap.size cl _ (by rfl) (by rfl) (Below.alloc (Below.refl w8.heap.size w8) (Nat.le_refl _) _) (Nat.le_refl _) (Arr.new w8 _ 26) (by rw [HLL.out]; rfl) HZL.out HOL.out ?_
       intro W9 hB9 hA9 hO9 hz9
       have HB9 := Lib.hid hB9
       have HA9 := Lib.hid hA9
       have hA := HA8.out.below hB9 (HA8.out.lt (by rw [HLA.out]; decide))
       have hC := HC8.out.below hB9 (HC8.out.lt (by rw [HLB.out]; decide))
       have ha0 : W9.cell? ⟨w2.heap.size, 0, none⟩ = some (.int .u8 186) := hA.cell (by rw [← HCA.out]; exact cell_take sha_abc 0 (by decide) rfl)
       have ha1 : W9.cell? ⟨w2.heap.size, 1, none⟩ = some (.int .u8 120) := hA.cell (by rw [← HCA.out]; exact cell_take sha_abc 1 (by decide) rfl)
       have ha2 : W9.cell? ⟨w2.heap.size, 2, none⟩ = some (.int .u8 22) := hA.cell (by rw [← HCA.out]; exact cell_take sha_abc 2 (by decide) rfl)
       have ha3 : W9.cell? ⟨w2.heap.size, 3, none⟩ = some (.int .u8 191) := hA.cell (by rw [← HCA.out]; exact cell_take sha_abc 3 (by decide) rfl)
       have hc0 : W9.cell? ⟨w2.heap.size + 1, 0, none⟩ = some (.int .u8 227) := hC.cell (by rw [← HCB.out]; exact cell_take sha_nil 0 (by decide) rfl)
       have hc1 : W9.cell? ⟨w2.heap.size + 1, 1, none⟩ = some (.int .u8 176) := hC.cell (by rw [← HCB.out]; exact cell_take sha_nil 1 (by decide) rfl)
       have hc2 : W9.cell? ⟨w2.heap.size + 1, 2, none⟩ = some (.int .u8 196) := hC.cell (by rw [← HCB.out]; exact cell_take sha_nil 2 (by decide) rfl)
       have hc3 : W9.cell? ⟨w2.heap.size + 1, 3, none⟩ = some (.int .u8 66) := hC.cell (by rw [← HCB.out]; exact cell_take sha_nil 3 (by decide) rfl)
       have hlt9 : w8.heap.size < W9.heap.size := hA9.lt (by rw [HLL.out]; decide)
       clear hB9 hA9 hO9 hz9 hA hC
       ))
  clear ha0 ha1 ha2 ha3 hc0 hc1 hc2 hc3
  have hS9 : Below W9.heap.size W9 W9 ∧ W9.rangeAt w8.heap.size 0 cl := ⟨Below.refl _ _, HA9.out.at_⟩
  have hu26 := Tryd.underlying26
  have hzl := HZL.out
  have hkp : ∀ W : World, Below W9.heap.size W9 W → Below W9.heap.size W9 W ∧ W.rangeAt w8.heap.size 0 cl := fun W h => ⟨h, (HA9.out.below h hlt9).at_⟩
  have hT9 : Tab W9 := (HT.out.below (HK7.out.trans ((HB8.out.trans (HB9.out.mono HB8.out.size)).mono HK7.out.size)) h0)
  have h09 : 0 < W9.heap.size := by omega
  have ht1 : ∀ W : World, Below W9.heap.size W9 W ∧ W.rangeAt w8.heap.size 0 cl → Calls Tryd.prog 17 #[.slice (some ⟨W.heap.size, 0, none⟩) 1 1] (W.alloc (.cells #[.int .u8 1, .int .u8 0, .int .u8 0, .int .u8 0, .int .u8 0, .int .u8 0, .int .u8 0, .int .u8 0, .int .u8 0, .int .u8 0, .int .u8 0, .int .u8 0, .int .u8 0, .int .u8 0, .int .u8 0, .int .u8 0, .int .u8 0, .int .u8 0, .int .u8 0, .int .u8 0, .int .u8 0, .int .u8 0, .int .u8 0, .int .u8 0, .int .u8 0, .int .u8 0, .int .u8 0, .int .u8 0, .int .u8 0, .int .u8 0, .int .u8 0, .int .u8 0] 26)).drew fun e w' => e = .returned (.agg cl.toArray) ∧ Below W9.heap.size W9 w' ∧ w'.rangeAt w8.heap.size 0 cl := fun W hS => by
    have hV : Below W9.heap.size W9 (W.alloc (.cells #[.int .u8 1, .int .u8 0, .int .u8 0, .int .u8 0, .int .u8 0, .int .u8 0, .int .u8 0, .int .u8 0, .int .u8 0, .int .u8 0, .int .u8 0, .int .u8 0, .int .u8 0, .int .u8 0, .int .u8 0, .int .u8 0, .int .u8 0, .int .u8 0, .int .u8 0, .int .u8 0, .int .u8 0, .int .u8 0, .int .u8 0, .int .u8 0, .int .u8 0, .int .u8 0, .int .u8 0, .int .u8 0, .int .u8 0, .int .u8 0, .int .u8 0, .int .u8 0] 26)).drew := (hS.1.alloc hS.1.size _).drew
    have h := tree_any 1 [o32] (W.alloc (.cells #[.int .u8 1, .int .u8 0, .int .u8 0, .int .u8 0, .int .u8 0, .int .u8 0, .int .u8 0, .int .u8 0, .int .u8 0, .int .u8 0, .int .u8 0, .int .u8 0, .int .u8 0, .int .u8 0, .int .u8 0, .int .u8 0, .int .u8 0, .int .u8 0, .int .u8 0, .int .u8 0, .int .u8 0, .int .u8 0, .int .u8 0, .int .u8 0, .int .u8 0, .int .u8 0, .int .u8 0, .int .u8 0, .int .u8 0, .int .u8 0, .int .u8 0, .int .u8 0] 26)).drew (.slice (some ⟨W.heap.size, 0, none⟩) 1 1) rfl (by omega)
      ⟨by simp [o32_len], some ⟨W.heap.size, 0, none⟩, 1, rfl, by simp, by unfold maxLen; omega, .inr ⟨W.heap.size, 0, rfl, by simp, fun i hi => by
        have : i = 0 := by simpa using hi
        subst this
        exact (Arr.new W #[.int .u8 1, .int .u8 0, .int .u8 0, .int .u8 0, .int .u8 0, .int .u8 0, .int .u8 0, .int .u8 0, .int .u8 0, .int .u8 0, .int .u8 0, .int .u8 0, .int .u8 0, .int .u8 0, .int .u8 0, .int .u8 0, .int .u8 0, .int .u8 0, .int .u8 0, .int .u8 0, .int .u8 0, .int .u8 0, .int .u8 0, .int .u8 0, .int .u8 0, .int .u8 0, .int .u8 0, .int .u8 0, .int .u8 0, .int .u8 0, .int .u8 0, .int .u8 0] 26).drew.at_⟩⟩ (hT9.below hV h09) (by simp)
    rw [dv_eq, HCL.out] at h
    exact h.mono fun e w' h => ⟨h.1, hkp _ (hV.trans (h.2.mono hV.size))⟩
  obtain ⟨ce, hce⟩ : ∃ ce, cells8 (tree []) = ce := ⟨_, rfl⟩
  obtain ⟨cc, hcc⟩ : ∃ cc, cells8 (tagged tChain (z32 ++ z32)) = cc := ⟨_, rfl⟩
  have ht2 : ∀ W : World, Below W9.heap.size W9 W ∧ W.rangeAt w8.heap.size 0 cl → Calls Tryd.prog 17 #[.slice none 0 0] W fun e w' => e = .returned (.agg ce.toArray) ∧ Below W9.heap.size W9 w' ∧ w'.rangeAt w8.heap.size 0 cl := fun W hS => by
    have h := tree_any 0 [] W (.slice none 0 0) rfl (by omega) ⟨by simp, none, 0, rfl, by simp, by unfold maxLen; omega, .inl rfl⟩ (hT9.below hS.1 h09) (by have := hS.1.size; omega)
    rw [dv_eq, hce] at h
    exact h.mono fun e w' h => ⟨h.1, hkp _ (hS.1.trans (h.2.mono hS.1.size))⟩
  have ht3 : ∀ W : World, Below W9.heap.size W9 W ∧ W.rangeAt w8.heap.size 0 cl → Calls Tryd.prog 14 #[.string { data := #[101, 109, 112, 116, 121] }, .slice none 0 0] W fun e w' => e = .returned (.agg ce.toArray) ∧ Below W9.heap.size W9 w' ∧ w'.rangeAt w8.heap.size 0 cl := fun W hS => by
    have h := tagged_any W { data := #[101, 109, 112, 116, 121] } (.slice none 0 0) [] ⟨none, 0, rfl, by simp, by unfold maxLen; omega, .inl rfl⟩ (by decide) (by simp) (hT9.below hS.1 h09) (by have := hS.1.size; omega)
    rw [dv_eq, show tagged (ByteArray.mk #[101, 109, 112, 116, 121]).data.toList [] = tree [] from rfl, hce] at h
    exact h.mono fun e w' h => ⟨h.1, hkp _ (hS.1.trans (h.2.mono hS.1.size))⟩
  have ht4 : ∀ W : World, Below W9.heap.size W9 W ∧ W.rangeAt w8.heap.size 0 cl → Calls Tryd.prog 25 #[.agg #[.int .u8 0, .int .u8 0, .int .u8 0, .int .u8 0, .int .u8 0, .int .u8 0, .int .u8 0, .int .u8 0, .int .u8 0, .int .u8 0, .int .u8 0, .int .u8 0, .int .u8 0, .int .u8 0, .int .u8 0, .int .u8 0, .int .u8 0, .int .u8 0, .int .u8 0, .int .u8 0, .int .u8 0, .int .u8 0, .int .u8 0, .int .u8 0, .int .u8 0, .int .u8 0, .int .u8 0, .int .u8 0, .int .u8 0, .int .u8 0, .int .u8 0, .int .u8 0], .agg #[.int .u8 0, .int .u8 0, .int .u8 0, .int .u8 0, .int .u8 0, .int .u8 0, .int .u8 0, .int .u8 0, .int .u8 0, .int .u8 0, .int .u8 0, .int .u8 0, .int .u8 0, .int .u8 0, .int .u8 0, .int .u8 0, .int .u8 0, .int .u8 0, .int .u8 0, .int .u8 0, .int .u8 0, .int .u8 0, .int .u8 0, .int .u8 0, .int .u8 0, .int .u8 0, .int .u8 0, .int .u8 0, .int .u8 0, .int .u8 0, .int .u8 0, .int .u8 0]] W fun e w' => e = .returned (.agg cc.toArray) ∧ Below W.heap.size W w' ∧ Below W9.heap.size W9 w' ∧ w'.rangeAt w8.heap.size 0 cl := fun W hS => by
    have h := chain_any W z32 z32 z32_len z32_len (hT9.below hS.1 h09) (by have := hS.1.size; omega)
    refine (show Calls Tryd.prog 25 #[dv z32, dv z32] W _ from h).mono fun e w' h => ⟨by rw [h.1, dv_eq, hcc], h.2, hkp _ (hS.1.trans (h.2.mono hS.1.size))⟩
  have ht5 : ∀ (W : World) (b : Nat), Below W9.heap.size W9 W ∧ W.rangeAt w8.heap.size 0 cl → b < W.heap.size → BytesIn W b 0 (z32 ++ z32) → Calls Tryd.prog 14 #[.string { data := #[99, 104, 97, 105, 110] }, .slice (some ⟨b, 0, none⟩) 64 64] W fun e w' => e = .returned (.agg cc.toArray) ∧ Below W9.heap.size W9 w' ∧ w'.rangeAt w8.heap.size 0 cl := fun W b hS hb hby => by
    have h := tagged_any W { data := #[99, 104, 97, 105, 110] } (.slice (some ⟨b, 0, none⟩) 64 64) (z32 ++ z32) ⟨some ⟨b, 0, none⟩, 64, rfl, by decide, by unfold maxLen; omega, .inr ⟨b, 0, rfl, hb, hby⟩⟩ (by decide) (by decide) (hT9.below hS.1 h09) (by have := hS.1.size; omega)
    rw [dv_eq, show (ByteArray.mk #[99, 104, 97, 105, 110]).data.toList = tChain from rfl, hcc] at h
    exact h.mono fun e w' h => ⟨h.1, hkp _ (hS.1.trans (h.2.mono hS.1.size))⟩
  have hdr : ∀ W : World, Below W9.heap.size W9 W ∧ W.rangeAt w8.heap.size 0 cl → Below W9.heap.size W9 W.drew ∧ W.drew.rangeAt w8.heap.size 0 cl := fun W hS => hkp _ hS.1.drew
  have hal : ∀ (W : World) (o : Obj), Below W9.heap.size W9 W ∧ W.rangeAt w8.heap.size 0 cl → Below W9.heap.size W9 (W.alloc o) ∧ (W.alloc o).rangeAt w8.heap.size 0 cl := fun W o hS => hkp _ (hS.1.alloc hS.1.size o)
  have hq1 : ∀ W : World, (Op.equalIn 10000 26 (.agg cl.toArray) (.agg cl.toArray)).run Tryd.prog W = .ok true W := fun W => by
    have h := same_key key_leaf W
    rw [dv_eq, HCL.out] at h; exact h
  have hq2 : ∀ W : World, (Op.equalIn 10000 26 (.agg ce.toArray) (.agg ce.toArray)).run Tryd.prog W = .ok true W := fun W => by
    have h := same_key key_none W
    rw [dv_eq, hce] at h; exact h
  have hq3 : ∀ W : World, (Op.equalIn 10000 26 (.agg cc.toArray) (.agg cc.toArray)).run Tryd.prog W = .ok true W := fun W => by
    have h := same_key key_chain W
    rw [dv_eq, hcc] at h; exact h
  obtain ⟨cw, hcw⟩ : ∃ cw, cells8 (z32 ++ z32) = cw := ⟨_, rfl⟩
  have hmk : ∀ W : World, (Instr.makeSlice 22 (.int .i64 64) (.int .i64 64)).run Tryd.prog W = .ok (.slice (some ⟨W.heap.size, 0, none⟩) 64 64) (W.alloc (.cells cw.toArray 5)) := fun W => by
    obtain ⟨i, hi, h⟩ := Option.map_eq_some_iff.1 Tryd.infoU8
    simp only [Prod.mk.injEq] at h
    have h' := run_makeSlice (P := Tryd.prog) W 22 5 i (.int .u8 0) Tryd.underlying22 hi h.1 .i64 .i64 64 64 (by decide) (by decide) (by rw [h.2.1]; decide) (by rw [h.2.2]; decide) (by decide)
    rw [h.2.1] at h'
    have hm : madeCells (Value.int IntKind.u8 0).cells ((64 : Int).toNat * 1) = (cells8 (z32 ++ z32)).toArray := by kernel_rfl
    rw [h', hm, hcw]
    rfl
  have ht6 : ∀ W V : World, Below W9.heap.size W9 W ∧ W.rangeAt w8.heap.size 0 cl → Below W9.heap.size W9 V ∧ V.rangeAt w8.heap.size 0 cl → Below (W.alloc (.cells cw.toArray 5)).heap.size (W.alloc (.cells cw.toArray 5)) V → Calls Tryd.prog 14 #[.string { data := #[99, 104, 97, 105, 110] }, .slice (some ⟨W.heap.size, 0, none⟩) 64 64] V fun e w' => e = .returned (.agg cc.toArray) ∧ Below W9.heap.size W9 w' ∧ w'.rangeAt w8.heap.size 0 cl := fun W V hS hV hB => by
    have hsz := hB.size
    rw [World.size_alloc] at hsz
    refine ht5 V W.heap.size hV (by omega) (arr_bytes ?_)
    have h := (Arr.new W cw.toArray 5).below hB (by rw [World.size_alloc]; omega)
    rw [List.toList_toArray] at h
    rw [hcw]; exact h
  have ht7 : ∀ W : World, Below W9.heap.size W9 W ∧ W.rangeAt w8.heap.size 0 cl → Calls Tryd.prog 14 #[.string { data := #[99, 104, 97, 105, 110] }, .slice (some ⟨W.heap.size, 0, none⟩) 64 64] (W.alloc (.cells cw.toArray 5)) fun e w' => e = .returned (.agg cc.toArray) ∧ Below W9.heap.size W9 w' ∧ w'.rangeAt w8.heap.size 0 cl := fun W hS =>
    ht6 W _ hS (hal W _ hS) (Below.refl _ _)
  have HK9 := Lib.hid (HK7.out.trans ((HB8.out.trans (HB9.out.mono HB8.out.size)).mono HK7.out.size))
  have HT6 := Lib.hid ht6
  have HT7 := Lib.hid ht7
  have HT1 := Lib.hid ht1
  have HT2 := Lib.hid ht2
  have HT3 := Lib.hid ht3
  have HT4 := Lib.hid ht4
  have HT5 := Lib.hid ht5
  have HDR := Lib.hid hdr
  have HAL := Lib.hid hal
  clear ht6 ht7 hcw ht1 ht2 ht3 ht4 ht5 hdr hal hkp hT9 h09 hce hcc
  have hg26 : Tryd.prog.eqGuardType Tryd.prog.depth 26 = false := by kernel_rfl
  go_region_held3 (fun W => Below W9.heap.size W9 W ∧ W.rangeAt w8.heap.size 0 cl) (first | assumption | exact HDR.out _ (by assumption) | exact HAL.out _ _ (by assumption) | exact HDR.out _ (HAL.out _ _ (by assumption)))
    (first
      | (go_at_call 17; with_reducible (refine (HT1.out _ (by assumption)).mono ?_); rintro e w' ⟨rfl, hS1⟩)
      | (go_at_call 17; with_reducible (refine (HT2.out _ (by assumption)).mono ?_); rintro e w' ⟨rfl, hS2⟩)
      | (go_at_call 14; with_reducible (refine (HT3.out _ (by assumption)).mono ?_); rintro e w' ⟨rfl, hS3⟩)
      | (go_at_call 25; with_reducible (refine (HT4.out _ (by assumption)).mono ?_); rintro e w' ⟨rfl, hB4, hS4⟩)
      | (go_at_call 14; with_reducible (refine (HT7.out _ (by assumption)).mono ?_); rintro e w' ⟨rfl, hS5⟩)
      | (go_at_call 14; with_reducible (refine (HT6.out _ _ (by assumption) (by assumption) (by assumption)).mono ?_); rintro e w' ⟨rfl, hS5⟩)
      | (go_at_call 14; exact (show Nat from 0)))
  all_goals
    go_wp2
    go_returns
    exact ⟨rfl, HK9.out.trans (hS5.1.mono HK9.out.size)⟩
end Go.Proofs.YtnddejhbncgchaaDoor
