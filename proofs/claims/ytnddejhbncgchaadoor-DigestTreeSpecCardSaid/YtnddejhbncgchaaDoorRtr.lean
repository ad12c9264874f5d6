/- The reference's Tree. -/
import Derived.Test.YtnddejhbncgchaaDoorRnd
import Derived.Test.YtnddejhbncgchaaDoorRhf
import Derived.Test.YtnddejhbncgchaaDoorTrN
namespace Go.Proofs.YtnddejhbncgchaaDoor
open Go.RowKit

set_option maxRecDepth 100000 in
set_option maxHeartbeats 2000000 in
theorem rtree_w0 (w : World) (a : Option Addr) (cap : Nat) :
    Calls Tryd.prog 18 #[.slice a 0 cap] w fun e w' => e = .returned (dv (tree [])) ∧ Below w.heap.size w w' := by
  obtain ⟨cs2, hcs2⟩ : ∃ cs2, cells8 (tree []) = cs2 := ⟨_, rfl⟩
  have hcl2 : cs2.length = 32 := by rw [← hcs2, cells8_len, tree_len]
  have ho2 : ∀ v ∈ cs2, v.oneCell' = true := by rw [← hcs2]; exact one_cells8 _
  have hz2 : (Tryd.prog.info? 26).map (·.size) = some cs2.length := by rw [hcl2]; exact Tryd.info26
  have htg : ∀ W : World, Below w.heap.size w W → Calls Tryd.prog 15 #[.string ⟨#[101, 109, 112, 116, 121]⟩, .slice none 0 0] W fun e w' => e = .returned (.agg cs2.toArray) ∧ Below W.heap.size W w' := fun W hB => by
    have h := rtagged_any W ⟨#[101, 109, 112, 116, 121]⟩ (.slice none 0 0) [] (bytes_nil _ _) (by decide) (by simp)
    have e : cells8 (tagged (⟨#[101, 109, 112, 116, 121]⟩ : ByteArray).data.toList []) = cs2 := hcs2
    rwa [dv_eq, e] at h
  rw [show dv (tree []) = .agg cs2.toArray by rw [dv_eq, hcs2]]
  have HTG := Lib.hid htg
  have HO2 := Lib.hid ho2
  have HCL2 := Lib.hid hcl2
  have HZ2 := Lib.hid hz2
  clear htg ho2 hcl2 hz2 hcs2
  go_enter Tryd.func18, Tryd.ntmps18
  go_wp2_with (
    refine wpList_world (fun W => Below w.heap.size w W ∧ Arr W w.heap.size (cells8 (List.replicate 32 0)) ∧ w.heap.size < W.heap.size) ⟨by go_grown, Arr.new w _ 26, by simp⟩ ?_
    rintro W0 ⟨hB0, hD0, hz0⟩
    have HB0 := Lib.hid hB0
    have HD0 := Lib.hid hD0
    clear hB0 hD0)
  refine (HTG.out W0 HB0.out).mono ?_
  rintro e w6 ⟨rfl, hB6⟩
  have hk6 : Below w.heap.size w w6 := HB0.out.trans (hB6.mono HB0.out.size)
  have hD6 := HD0.out.below hB6 hz0
  have HK6 := Lib.hid hk6
  have HD6 := Lib.hid hD6
  clear hB6 hk6 hD6
  go_wp2_with (refine store_new rfl 26 _ _ (by rfl) w.heap.size w.heap.size cs2 _ (by rfl) (by rfl) HK6.out (by omega) HD6.out (by rw [HCL2.out]; rfl) HZ2.out HO2.out ?_; intro W7 hB7 hA7 hz7)
  refine bodyPost_ret (results_cell_mid rfl _ _ _ _ _ rfl hA7.at_ Tryd.underlying26 rfl HZ2.out) rfl ?_
  exact ⟨rfl, hB7⟩

set_option maxRecDepth 100000 in
set_option maxHeartbeats 2000000 in
theorem rtree_w1 (w : World) (db off cap : Nat) (d : List UInt8) (hd : d.length = 32) (hr : w.rangeAt db off (cells8 d)) (hdb : db < w.heap.size) :
    Calls Tryd.prog 18 #[.slice (some ⟨db, off, none⟩) 1 cap] w fun e w' => e = .returned (dv (tree [d])) ∧ Below w.heap.size w w' := by
  obtain ⟨cs2, hcs2⟩ : ∃ cs2, cells8 (tree [d]) = cs2 := ⟨_, rfl⟩
  have hcl2 : cs2.length = 32 := by rw [← hcs2, cells8_len, tree_len]
  have ho2 : ∀ v ∈ cs2, v.oneCell' = true := by rw [← hcs2]; exact one_cells8 _
  have hz2 : (Tryd.prog.info? 26).map (·.size) = some cs2.length := by rw [hcl2]; exact Tryd.info26
  obtain ⟨cx, hcx⟩ : ∃ cx, cells8 d = cx := ⟨_, rfl⟩
  have hlf : ∀ W : World, Below w.heap.size w W → Calls Tryd.prog 15 #[.string ⟨#[108, 101, 97, 102]⟩, .slice (some ⟨db, off, none⟩) 32 32] W fun e w' => e = .returned (.agg cs2.toArray) ∧ Below W.heap.size W w' := fun W hB => by
    have hby : BytesIn W db off d := fun i hi => (hB.cell (p := ⟨db, off + i, none⟩) hdb).trans (hr i _ (by rw [List.getElem?_eq_getElem (by rw [cells8_len]; exact hi)]; simp [cells8]))
    have h := rtagged_any W ⟨#[108, 101, 97, 102]⟩ (.slice (some ⟨db, off, none⟩) 32 32) d ⟨some ⟨db, off, none⟩, 32, by rw [hd], by rw [hd]; omega, by unfold maxLen; omega, .inr ⟨db, off, rfl, by have := hB.size; omega, hby⟩⟩ (by decide) (by omega)
    have e : cells8 (tagged (⟨#[108, 101, 97, 102]⟩ : ByteArray).data.toList d) = cs2 := hcs2
    rwa [dv_eq, e] at h
  have hlx : cx.length = 32 := by rw [← hcx, cells8_len, hd]
  have hrw : ∀ W : World, Below w.heap.size w W → W.rangeAt db off cx := fun W hB j v hv => (hB.cell (p := ⟨db, off + j, none⟩) hdb).trans (hr j v (by rw [hcx]; exact hv))
  rw [show dv (tree [d]) = .agg cs2.toArray by rw [dv_eq, hcs2]]
  have HLF := Lib.hid hlf
  have HRW := Lib.hid hrw
  have HO2 := Lib.hid ho2
  have HCL2 := Lib.hid hcl2
  have HZ2 := Lib.hid hz2
  have HZX : Hid ((Tryd.prog.info? 26).map (·.size) = some cx.length) := by show _ = _; rw [hlx]; exact Tryd.info26
  clear hlf hrw ho2 hcl2 hz2 hcs2 hlx hr
  go_enter Tryd.func18, Tryd.ntmps18
  go_wp2_with (first
    | (refine wpList_world (fun W => Below w.heap.size w W ∧ Arr W w.heap.size (cells8 (List.replicate 32 0)) ∧ w.heap.size < W.heap.size) ⟨by go_grown, Arr.new w _ 26, by simp⟩ ?_
       rintro W0 ⟨hB0, hD0, hz0⟩
       have HB0 := Lib.hid hB0
       have HD0 := Lib.hid hD0
       clear hB0 hD0)
    | fail)
  refine (HLF.out W0 HB0.out).mono ?_
  rintro e w6 ⟨rfl, hB6⟩
  have hk6 : Below w.heap.size w w6 := HB0.out.trans (hB6.mono HB0.out.size)
  have hD6 := HD0.out.below hB6 hz0
  have HK6 := Lib.hid hk6
  have HD6 := Lib.hid hD6
  clear hB6 hk6 hD6
  go_wp2_with (refine store_new rfl 26 _ _ (by rfl) w.heap.size w.heap.size cs2 _ (by rfl) (by rfl) HK6.out (by omega) HD6.out (by rw [HCL2.out]; rfl) HZ2.out HO2.out ?_; intro W7 hB7 hA7 hz7)
  refine bodyPost_ret (results_cell_mid rfl _ _ _ _ _ rfl hA7.at_ Tryd.underlying26 rfl HZ2.out) rfl ?_
  exact ⟨rfl, hB7⟩
set_option maxRecDepth 100000 in
set_option maxHeartbeats 4000000 in
theorem rtree_wn (w : World) (db off cap n k : Nat) (x y z : List UInt8) (hx : x.length = 32) (hy : y.length = 32) (hz : z = tagged tNode (x ++ y)) (hn1 : 1 < n) (hn2 : n ≤ 1000000) (hk : spl n = k) (hnc : n ≤ cap) (_hcm : cap ≤ maxLen)
    (h1 : ∀ W, SD w W → Calls Tryd.prog 18 #[.slice (some ⟨db, off, none⟩) k cap] W fun e w' => e = .returned (dv x) ∧ Below W.heap.size W w')
    (h2 : ∀ W, SD w W → Calls Tryd.prog 18 #[.slice (some ⟨db, off + k * 32, none⟩) (n - k) (cap - k)] W fun e w' => e = .returned (dv y) ∧ Below W.heap.size W w') :
    Calls Tryd.prog 18 #[.slice (some ⟨db, off, none⟩) n cap] w fun e w' => e = .returned (dv z) ∧ Below w.heap.size w w' := by
  obtain ⟨hk0, hkn, _⟩ := spl_bound n hn1 (by omega)
  rw [hk] at hk0 hkn
  obtain ⟨cs2, hcs2⟩ : ∃ cs2, cells8 z = cs2 := ⟨_, rfl⟩
  have hcl2 : cs2.length = 32 := by rw [← hcs2, cells8_len, hz, tagged_len]
  have ho2 : ∀ v ∈ cs2, v.oneCell' = true := by rw [← hcs2]; exact one_cells8 _
  have hz2 : (Tryd.prog.info? 26).map (·.size) = some cs2.length := by rw [hcl2]; exact Tryd.info26
  obtain ⟨cx, hcx⟩ : ∃ cx, cells8 x = cx := ⟨_, rfl⟩
  obtain ⟨cy, hcy⟩ : ∃ cy, cells8 y = cy := ⟨_, rfl⟩
  have hnd : ∀ W : World, SD w W → Calls Tryd.prog 39 #[.agg cx.toArray, .agg cy.toArray] W fun e w' => e = .returned (.agg cs2.toArray) ∧ SD w w' := fun W hS => by
    have h := rnode_any W x y hx hy
    rw [dv_eq, dv_eq, ← hz, dv_eq, hcx, hcy, hcs2] at h
    exact h.mono fun e w' h => ⟨h.1, hS.next h.2⟩
  have ha : ∀ W, SD w W → Calls Tryd.prog 18 #[.slice (some ⟨db, off, none⟩) k cap] W fun e w' => e = .returned (.agg cx.toArray) ∧ SD w w' := fun W hS => by
    have h := h1 W hS
    rw [dv_eq, hcx] at h
    exact h.mono fun e w' h => ⟨h.1, hS.next h.2⟩
  have hb : ∀ W, SD w W → Calls Tryd.prog 18 #[.slice (some ⟨db, off + k * 32, none⟩) (n - k) (cap - k)] W fun e w' => e = .returned (.agg cy.toArray) ∧ SD w w' := fun W hS => by
    have h := h2 W hS
    rw [dv_eq, hcy] at h
    exact h.mono fun e w' h => ⟨h.1, hS.next h.2⟩
  have hsp := rhalf_any n hn1 (by omega)
  rw [hk] at hsp
  rw [show dv z = .agg cs2.toArray by rw [dv_eq, hcs2]]
  have HND := Lib.hid hnd
  have HA := Lib.hid ha
  have HB := Lib.hid hb
  have HSP := Lib.hid hsp
  have HO2 := Lib.hid ho2
  have HCL2 := Lib.hid hcl2
  have HZ2 := Lib.hid hz2
  unfold maxLen at _hcm
  have hkc : k < cap := by omega
  have d0 : ((n : Int) == 0) = false := by simp; omega
  have d1 : ((n : Int) == 1) = false := by simp; omega
  have e0 : decide ((n : Int) = 0) = false := by simp; omega
  have e1 : decide ((n : Int) = 1) = false := by simp; omega
  have f1 : ((k : Nat) : Int) ≤ (n : Int) := by omega
  have f2 : ((k : Nat) : Int) ≤ (cap : Int) := by omega
  have f3 : ((n : Nat) : Int) ≤ (cap : Int) := by omega
  clear hnd ha hb hsp ho2 hcl2 hz2 hcs2 h1 h2 hz hx hy hcx hcy hk
  go_enter Tryd.func18, Tryd.ntmps18
  go_wp2_with (first
    | (go_at_call 38; refine (HSP.out _).mono ?_; rintro e w' ⟨rfl, rfl⟩))
  refine code_world (fun W => SD w W) ⟨by go_grown, (Arr.new w (cells8 (List.replicate 32 0)).toArray 26).there, by simp⟩ ?_
  rintro W0 hS0
  go_region_held3 (fun W => SD w W) (first | assumption | exact SD.drew (by assumption) | exact SD.set (by assumption) _)
    (first
      | (go_at_call_of 18 (Value.slice (some ⟨db, off, none⟩) k cap); refine (HA.out _ (by assumption)).mono ?_; rintro e w' ⟨rfl, hS1⟩)
      | (go_at_call_of 18 (Value.slice (some ⟨db, off + k * 32, none⟩) (n - k) (cap - k)); refine (HB.out _ (by assumption)).mono ?_; rintro e w' ⟨rfl, hS2⟩)
      | (go_at_call 39
         refine (HND.out _ (by assumption)).mono ?_
         rintro e w6 ⟨rfl, hS6⟩
         have ht6 : w6.there w.heap.size 0 cs2.length := by rw [HCL2.out]; exact hS6.2.1
         have hz6 := HZ2.out
         have ho6 := HO2.out))
  have hst := World.rangeAt_setCells_same w6 w.heap.size 0 cs2 ht6
  have HST := Lib.hid hst
  have HSF := Lib.hid (hS6.set cs2).1
  clear hst ht6 hS6 hS0 hS1 hS2
  go_wp2
  refine bodyPost_ret (results_cell_mid rfl _ _ _ _ _ rfl HST.out Tryd.underlying26 rfl HZ2.out) rfl ?_
  exact ⟨rfl, HSF.out⟩

theorem rtree_any : ∀ (n : Nat) (ds : List (List UInt8)) (w : World) (v : Value), ds.length = n → n ≤ 1000000 → Digs w w.heap.size v ds →
    Calls Tryd.prog 18 #[v] w fun e w' => e = .returned (dv (tree ds)) ∧ Below w.heap.size w w' := by
  intro n
  induction n using Nat.strongRecOn with
  | ind n ih =>
    intro ds w v hl hn hD
    obtain ⟨h32, a, cap, rfl, hc, hm, h4⟩ := hD
    by_cases hz : n = 0
    · obtain rfl : ds = [] := List.length_eq_zero_iff.1 (by omega)
      exact rtree_w0 w a cap
    · rcases h4 with rfl | ⟨db, off, rfl, hdb, hr⟩
      · simp at hl; omega
      · by_cases h1 : n = 1
        · obtain ⟨d, rfl⟩ := List.length_eq_one_iff.1 (hl.trans h1)
          exact rtree_w1 w db off cap d (h32 d (by simp)) (by simpa using hr 0 (by simp)) hdb
        · obtain ⟨b1, b2, b3, _⟩ := spl_bound ds.length (by omega) (by omega)
          rw [hl] at b1 b2 b3 hc ⊢
          obtain ⟨k, hk⟩ : ∃ k, spl n = k := ⟨_, rfl⟩
          rw [hk] at b1 b2 b3
          have ht := tree_more ds (by omega) (by omega)
          rw [hl, hk] at ht
          have hlt : (ds.take k).length = k := by rw [List.length_take]; omega
          have hld : (ds.drop k).length = n - k := by rw [List.length_drop]; omega
          refine rtree_wn w db off cap n k (tree (ds.take k)) (tree (ds.drop k)) (tree ds) (tree_len _) (tree_len _) ht (by omega) hn hk hc hm (fun W hS => ?_) (fun W hS => ?_)
          · refine ih k (by omega) (ds.take k) W _ hlt (by omega) ⟨fun d hd => h32 d (List.mem_of_mem_take hd), some ⟨db, off, none⟩, cap, by rw [hlt], by omega, hm, .inr ⟨db, off, rfl, by have := hS.2.2; omega, fun i hi j v hv => ?_⟩⟩
            rw [List.getElem_take] at hv
            exact (hS.1.cell (p := ⟨db, off + i * 32 + j, none⟩) hdb).trans (hr i (by omega) j v hv)
          · refine ih (n - k) (by omega) (ds.drop k) W _ hld (by omega) ⟨fun d hd => h32 d (List.mem_of_mem_drop hd), some ⟨db, off + k * 32, none⟩, cap - k, by rw [hld], by omega, by omega, .inr ⟨db, off + k * 32, rfl, by have := hS.2.2; omega, fun i hi j v hv => ?_⟩⟩
            rw [List.getElem_drop] at hv
            have := (hS.1.cell (p := ⟨db, off + (k + i) * 32 + j, none⟩) hdb).trans (hr (k + i) (by omega) j v hv)
            rwa [show off + k * 32 + i * 32 = off + (k + i) * 32 by omega]
end Go.Proofs.YtnddejhbncgchaaDoor
