/- digest.Tree of any list. -/
import Derived.Test.YtnddejhbncgchaaDoorTrW
namespace Go.Proofs.YtnddejhbncgchaaDoor
open Go.RowKit

/-- What lay in w has not turned; the call's own digest is there. -/
def SD (w W : World) : Prop := Below w.heap.size w W ∧ W.there w.heap.size 0 32 ∧ w.heap.size < W.heap.size
theorem SD.next {w W W' : World} (h : SD w W) (k : Below W.heap.size W W') : SD w W' :=
  ⟨h.1.trans (k.mono h.1.size), fun j hj => ⟨by rw [k.cell (p := ⟨w.heap.size, 0 + j, none⟩) h.2.2]; exact (h.2.1 j hj).1, by rw [k.frozen (p := ⟨w.heap.size, 0 + j, none⟩) h.2.2]; exact (h.2.1 j hj).2⟩, Nat.lt_of_lt_of_le h.2.2 k.size⟩
theorem SD.drew {w W : World} (h : SD w W) : SD w W.drew := h.next ((Below.refl _ _).drew)
theorem SD.set {w W : World} (h : SD w W) (cs : List Value) : SD w (W.setCells w.heap.size 0 cs) :=
  ⟨below_setCells (Nat.le_refl _) cs 0 W h.1, World.there_setCells h.2.1 _ _ _, Nat.lt_of_lt_of_le h.2.2 (below_setCells (B := 0) (Nat.zero_le _) cs 0 W (Below.refl 0 W)).size⟩

set_option maxRecDepth 100000 in
set_option maxHeartbeats 4000000 in
theorem tree_wn (w : World) (db off cap n k : Nat) (x y z : List UInt8) (hx : x.length = 32) (hy : y.length = 32) (hz : z = tagged tNode (x ++ y)) (hn1 : 1 < n) (hn2 : n ≤ 1000000) (hk : spl n = k) (hnc : n ≤ cap) (_hcm : cap ≤ maxLen)
    (h1 : ∀ W, SD w W → Calls Tryd.prog 17 #[.slice (some ⟨db, off, none⟩) k cap] W fun e w' => e = .returned (dv x) ∧ Below W.heap.size W w')
    (h2 : ∀ W, SD w W → Calls Tryd.prog 17 #[.slice (some ⟨db, off + k * 32, none⟩) (n - k) (cap - k)] W fun e w' => e = .returned (dv y) ∧ Below W.heap.size W w') (hT : Tab w) (h0 : 0 < w.heap.size) :
    Calls Tryd.prog 17 #[.slice (some ⟨db, off, none⟩) n cap] w fun e w' => e = .returned (dv z) ∧ Below w.heap.size w w' := by
  obtain ⟨hk0, hkn, _⟩ := spl_bound n hn1 (by omega)
  rw [hk] at hk0 hkn
  obtain ⟨cs2, hcs2⟩ : ∃ cs2, cells8 z = cs2 := ⟨_, rfl⟩
  have hcl2 : cs2.length = 32 := by rw [← hcs2, cells8_len, hz, tagged_len]
  have ho2 : ∀ v ∈ cs2, v.oneCell' = true := by rw [← hcs2]; exact one_cells8 _
  have hz2 : (Tryd.prog.info? 26).map (·.size) = some cs2.length := by rw [hcl2]; exact Tryd.info26
  obtain ⟨cx, hcx⟩ : ∃ cx, cells8 x = cx := ⟨_, rfl⟩
  obtain ⟨cy, hcy⟩ : ∃ cy, cells8 y = cy := ⟨_, rfl⟩
  have hnd : ∀ W : World, SD w W → Calls Tryd.prog 37 #[.agg cx.toArray, .agg cy.toArray] W fun e w' => e = .returned (.agg cs2.toArray) ∧ SD w w' := fun W hS => by
    have h := node_any W x y hx hy (hT.below hS.1 h0) (by have := hS.1.size; omega)
    rw [dv_eq, dv_eq, ← hz, dv_eq, hcx, hcy, hcs2] at h
    exact h.mono fun e w' h => ⟨h.1, hS.next h.2⟩
  have ha : ∀ W, SD w W → Calls Tryd.prog 17 #[.slice (some ⟨db, off, none⟩) k cap] W fun e w' => e = .returned (.agg cx.toArray) ∧ SD w w' := fun W hS => by
    have h := h1 W hS
    rw [dv_eq, hcx] at h
    exact h.mono fun e w' h => ⟨h.1, hS.next h.2⟩
  have hb : ∀ W, SD w W → Calls Tryd.prog 17 #[.slice (some ⟨db, off + k * 32, none⟩) (n - k) (cap - k)] W fun e w' => e = .returned (.agg cy.toArray) ∧ SD w w' := fun W hS => by
    have h := h2 W hS
    rw [dv_eq, hcy] at h
    exact h.mono fun e w' h => ⟨h.1, hS.next h.2⟩
  have hsp := split_any n hn1 (by omega)
  rw [hk] at hsp
  rw [show dv z = .agg cs2.toArray by rw [dv_eq, hcs2]]
  have HND := Lib.hid hnd
  have HA := Lib.hid ha
  have HB := Lib.hid hb
  have HSP := Lib.hid hsp
  have HO2 := Lib.hid ho2
  have HCL2 := Lib.hid hcl2
  have HZ2 := Lib.hid hz2
  unfold maxLen at _hcm
  have hkc : k < cap := by omega
  have d0 : ((n : Int) == 0) = false := by simp; omega
  have d1 : ((n : Int) == 1) = false := by simp; omega
  have e0 : decide ((n : Int) = 0) = false := by simp; omega
  have e1 : decide ((n : Int) = 1) = false := by simp; omega
  have f1 : ((k : Nat) : Int) ≤ (n : Int) := by omega
  have f2 : ((k : Nat) : Int) ≤ (cap : Int) := by omega
  have f3 : ((n : Nat) : Int) ≤ (cap : Int) := by omega
  clear hnd ha hb hsp ho2 hcl2 hz2 hcs2 hT h1 h2 hz hx hy hcx hcy hk
  go_enter Tryd.func17, Tryd.ntmps17
  go_wp2_with (first
    | (go_at_call 36; refine (HSP.out _).mono ?_; rintro e w' ⟨rfl, rfl⟩))
  refine code_world (fun W => SD w W) ⟨by go_grown, (Arr.new w (cells8 (List.replicate 32 0)).toArray 26).there, by simp⟩ ?_
  rintro W0 hS0
  go_region_held3 (fun W => SD w W) (first | assumption | exact SD.drew (by assumption) | exact SD.set (by assumption) _)
    (first
      | (go_at_call_of 17 (Value.slice (some ⟨db, off, none⟩) k cap); refine (HA.out _ (by assumption)).mono ?_; rintro e w' ⟨rfl, hS1⟩)
      | (go_at_call_of 17 (Value.slice (some ⟨db, off + k * 32, none⟩) (n - k) (cap - k)); refine (HB.out _ (by assumption)).mono ?_; rintro e w' ⟨rfl, hS2⟩)
      | (go_at_call 37
         refine (HND.out _ (by assumption)).mono ?_
         rintro e w6 ⟨rfl, hS6⟩
         have ht6 : w6.there w.heap.size 0 cs2.length := by rw [HCL2.out]; exact hS6.2.1
         have hz6 := HZ2.out
         have ho6 := HO2.out))
  have hst := World.rangeAt_setCells_same w6 w.heap.size 0 cs2 ht6
  have HST := Lib.hid hst
  have HSF := Lib.hid (hS6.set cs2).1
  clear hst ht6 hS6 hS0 hS1 hS2
  go_wp2
  refine bodyPost_ret (results_cell_mid rfl _ _ _ _ _ rfl HST.out Tryd.underlying26 rfl HZ2.out) rfl ?_
  exact ⟨rfl, HSF.out⟩

theorem tree_any : ∀ (n : Nat) (ds : List (List UInt8)) (w : World) (v : Value), ds.length = n → n ≤ 1000000 → Digs w w.heap.size v ds → Tab w → 0 < w.heap.size →
    Calls Tryd.prog 17 #[v] w fun e w' => e = .returned (dv (tree ds)) ∧ Below w.heap.size w w' := by
  intro n
  induction n using Nat.strongRecOn with
  | ind n ih =>
    intro ds w v hl hn hD hT h0
    obtain ⟨h32, a, cap, rfl, hc, hm, h4⟩ := hD
    by_cases hz : n = 0
    · obtain rfl : ds = [] := List.length_eq_zero_iff.1 (by omega)
      exact tree_w0 w a cap hT h0
    · rcases h4 with rfl | ⟨db, off, rfl, hdb, hr⟩
      · simp at hl; omega
      · by_cases h1 : n = 1
        · obtain ⟨d, rfl⟩ := List.length_eq_one_iff.1 (hl.trans h1)
          exact tree_w1 w db off cap d (h32 d (by simp)) (by simpa using hr 0 (by simp)) hdb hT h0
        · obtain ⟨b1, b2, b3, _⟩ := spl_bound ds.length (by omega) (by omega)
          rw [hl] at b1 b2 b3 hc ⊢
          obtain ⟨k, hk⟩ : ∃ k, spl n = k := ⟨_, rfl⟩
          rw [hk] at b1 b2 b3
          have ht := tree_more ds (by omega) (by omega)
          rw [hl, hk] at ht
          have hlt : (ds.take k).length = k := by rw [List.length_take]; omega
          have hld : (ds.drop k).length = n - k := by rw [List.length_drop]; omega
          refine tree_wn w db off cap n k (tree (ds.take k)) (tree (ds.drop k)) (tree ds) (tree_len _) (tree_len _) ht (by omega) hn hk hc hm (fun W hS => ?_) (fun W hS => ?_) hT h0
          · refine ih k (by omega) (ds.take k) W _ hlt (by omega) ⟨fun d hd => h32 d (List.mem_of_mem_take hd), some ⟨db, off, none⟩, cap, by rw [hlt], by omega, hm, .inr ⟨db, off, rfl, by have := hS.2.2; omega, fun i hi j v hv => ?_⟩⟩ (hT.below hS.1 h0) (by have := hS.2.2; omega)
            rw [List.getElem_take] at hv
            exact (hS.1.cell (p := ⟨db, off + i * 32 + j, none⟩) hdb).trans (hr i (by omega) j v hv)
          · refine ih (n - k) (by omega) (ds.drop k) W _ hld (by omega) ⟨fun d hd => h32 d (List.mem_of_mem_drop hd), some ⟨db, off + k * 32, none⟩, cap - k, by rw [hld], by omega, by omega, .inr ⟨db, off + k * 32, rfl, by have := hS.2.2; omega, fun i hi j v hv => ?_⟩⟩ (hT.below hS.1 h0) (by have := hS.2.2; omega)
            rw [List.getElem_drop] at hv
            have := (hS.1.cell (p := ⟨db, off + (k + i) * 32 + j, none⟩) hdb).trans (hr (k + i) (by omega) j v hv)
            rwa [show off + k * 32 + i * 32 = off + (k + i) * 32 by omega]
end Go.Proofs.YtnddejhbncgchaaDoor
