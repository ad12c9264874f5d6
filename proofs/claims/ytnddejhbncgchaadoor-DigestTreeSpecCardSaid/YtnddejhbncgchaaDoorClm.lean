/- digest.climb, of however many elements; digest.Climb at a path of the right length. -/
import Derived.Test.YtnddejhbncgchaaDoorClb
namespace Go.Proofs.YtnddejhbncgchaaDoor
open Go.RowKit

set_option maxRecDepth 100000 in
set_option maxHeartbeats 1000000 in
theorem climb_ge (w : World) (d x y z : List UInt8) (hd : d.length = 32) (hx : x.length = 32) (hy : y.length = 32) (i n k m db off cap : Nat) (hin : i < n) (hn1 : 1 < n) (hn : n ≤ 1099511627776) (hk : spl n = k) (hi : k ≤ i) (hz : z = tagged tNode (y ++ x)) (hmc : m + 1 ≤ cap) (hcm : cap ≤ maxLen)
    (hr : w.rangeAt db (off + m * 32) (cells8 y)) (hdb : db < w.heap.size)
    (h1 : ∀ W, Below w.heap.size w W → Calls Tryd.prog 43 #[dv d, .int .i64 ((i : Int) - (k : Int)), .int .i64 ((n : Int) - (k : Int)), .slice (some ⟨db, off, none⟩) m cap] W fun e w' => e = .returned (dv x) ∧ Below W.heap.size W w') (hT : Tab w) (h0 : 0 < w.heap.size) :
    Calls Tryd.prog 43 #[dv d, .int .i64 i, .int .i64 n, .slice (some ⟨db, off, none⟩) (m + 1) cap] w fun e w' => e = .returned (dv z) ∧ Below w.heap.size w w' := by
  obtain ⟨hk0, hkn, _⟩ := spl_bound n hn1 hn
  rw [hk] at hk0 hkn
  obtain ⟨cs2, hcs2⟩ : ∃ cs2, cells8 z = cs2 := ⟨_, rfl⟩
  have hcl2 : cs2.length = 32 := by rw [← hcs2, cells8_len, hz, tagged_len]
  have ho2 : ∀ v ∈ cs2, v.oneCell' = true := by rw [← hcs2]; exact one_cells8 _
  have hz2 : (Tryd.prog.info? 26).map (·.size) = some cs2.length := by rw [hcl2]; exact Tryd.info26
  obtain ⟨cd, hcd⟩ : ∃ cd, cells8 d = cd := ⟨_, rfl⟩
  obtain ⟨cx, hcx⟩ : ∃ cx, cells8 x = cx := ⟨_, rfl⟩
  obtain ⟨cy, hcy⟩ : ∃ cy, cells8 y = cy := ⟨_, rfl⟩
  have hzd : (Tryd.prog.info? 26).map (·.size) = some cd.length := by rw [← hcd, cells8_len, hd]; exact Tryd.info26
  have hzy : (Tryd.prog.info? 26).map (·.size) = some cy.length := by rw [← hcy, cells8_len, hy]; exact Tryd.info26
  have hnd : ∀ W : World, SC w cd W → Calls Tryd.prog 37 #[.agg cy.toArray, .agg cx.toArray] W fun e w' => e = .returned (.agg cs2.toArray) ∧ SC w cd w' := fun W hS => by
    have h := node_any W y x hy hx (hT.below hS.1 h0) (by have := hS.1.size; omega)
    rw [dv_eq, dv_eq, ← hz, dv_eq, hcx, hcy, hcs2] at h
    exact h.mono fun e w' h => ⟨h.1, hS.next h.2⟩
  have hcl : ∀ W : World, SC w cd W → Calls Tryd.prog 43 #[.agg cd.toArray, .int .i64 ((i : Int) - (k : Int)), .int .i64 ((n : Int) - (k : Int)), .slice (some ⟨db, off, none⟩) m cap] W fun e w' => e = .returned (.agg cx.toArray) ∧ SC w cd w' := fun W hS => by
    have h := h1 W hS.1
    rw [dv_eq, dv_eq, hcx, hcd] at h
    exact h.mono fun e w' h => ⟨h.1, hS.next h.2⟩
  have hry : ∀ W : World, SC w cd W → W.rangeAt db (off + m * 32) cy := fun W hS j v hv => (hS.1.cell (p := ⟨db, off + m * 32 + j, none⟩) hdb).trans (hr j v (by rw [hcy]; exact hv))
  have hsp := split_any n hn1 hn
  rw [hk] at hsp
  rw [show dv z = .agg cs2.toArray by rw [dv_eq, hcs2], show dv d = .agg cd.toArray by rw [dv_eq, hcd]]
  have HND := Lib.hid hnd
  have HCLB := Lib.hid hcl
  have HRY := Lib.hid hry
  have HSP := Lib.hid hsp
  have HO2 := Lib.hid ho2
  have HCL2 := Lib.hid hcl2
  have HZ2 := Lib.hid hz2
  have HZD := Lib.hid hzd
  have HZY := Lib.hid hzy
  unfold maxLen at hcm
  have d1 : ((n : Int) == 1) = false := by simp; omega
  have e1 : decide ((n : Int) = 1) = false := by simp; omega
  have d2 : decide (i < k) = false := by simp; omega
  have f2 : ((m : Nat) : Int) ≤ (cap : Int) := by omega
  have f3 : ((m : Nat) : Int) < ((m + 1 : Nat) : Int) := by omega
  have f5 : (m : Int) < (m : Int) + 1 := by omega
  have f4 : (0 : Int) ≤ (m : Int) := by omega
  have q1 : ((m + 1 : Nat) : Int) - 1 = (m : Int) := by omega
  have q2 : IntKind.i64.wrap ((i : Int) - (k : Int)) = (i : Int) - (k : Int) := by rw [IntKind.wrap_i64]; omega
  have q3 : IntKind.i64.wrap ((n : Int) - (k : Int)) = (n : Int) - (k : Int) := by rw [IntKind.wrap_i64]; omega
  clear hnd hcl hry hsp ho2 hcl2 hz2 hzd hzy hcs2 hT h1 hz hx hy hd hcx hcy hk hr
  go_enter Tryd.func43, Tryd.ntmps43
  go_wp2_with (first
    | (go_at_call 36; refine (HSP.out _).mono ?_; rintro e w' ⟨rfl, rfl⟩))
  refine code_world (fun W => SC w cd W) ⟨by go_grown, box_a w cd, (box_b w cd).there, by simp⟩ ?_
  rintro W0 hS0
  refine wp_region_held_drew (S := fun W => SC w cd W) (by kernel_rfl) (SC.drew hS0) (fun hHeld => ?_)
  refine wpAnyH_take (i := 0) (oi := c43b0) (v := ?_) rfl (by kernel_rfl) (by kernel_rfl) (by kernel_rfl) (fun _ _ _ h => h) (Or.inl ⟨by rfl, ?_⟩) hHeld ?_
  rotate_left
  · (intro w hSw; (try dsimp only at hSw); unfold c43b0; go_simp <;> with_reducible rfl)
  try simp only [c43b0, Act.put, List.setIfInBounds_toArray, List.set_cons_zero, List.set_cons_succ]
  refine wpAnyH_take (i := 1) (oi := c43b1) (v := ?_) rfl (by kernel_rfl) (by kernel_rfl) (by kernel_rfl) (fun _ _ _ h => h) (Or.inl ⟨by rfl, ?_⟩) hHeld ?_
  rotate_left
  · (intro w hSw; (try dsimp only at hSw); unfold c43b1; go_simp <;> with_reducible rfl)
  try simp only [c43b1, Act.put, List.setIfInBounds_toArray, List.set_cons_zero, List.set_cons_succ]
  refine wpAnyH_take (i := 2) (oi := c43b2) (v := ?_) rfl (by kernel_rfl) (by kernel_rfl) (by kernel_rfl) (fun _ _ _ h => h) (Or.inl ⟨by rfl, ?_⟩) hHeld ?_
  rotate_left
  · (intro w hSw; (try dsimp only at hSw); unfold c43b2; go_simp <;> with_reducible rfl)
  try simp only [c43b2, Act.put, List.setIfInBounds_toArray, List.set_cons_zero, List.set_cons_succ]
  refine wpAnyH_take (i := 3) (oi := c43b3) rfl (by kernel_rfl) (by kernel_rfl) (by kernel_rfl) (fun _ _ _ h => h) (yieldsIf_load_mid (by rfl) 26 (.tmp 37) (by rfl) db (off + m * 32) (by rfl) cy _ (fun W h => HRY.out W h) Tryd.underlying26 rfl HZY.out) hHeld ?_
  try simp only [c43b3, Act.put, List.setIfInBounds_toArray, List.set_cons_zero, List.set_cons_succ]
  refine wpAnyH_take (i := 4) (oi := c43b4) rfl (by kernel_rfl) (by kernel_rfl) (by kernel_rfl) (fun _ _ _ h => h) (yieldsIf_load_mid (by rfl) 26 (.tmp 4) (by rfl) w.heap.size 0 (by rfl) cd _ (fun W h => h.2.1) Tryd.underlying26 rfl HZD.out) hHeld ?_
  try simp only [c43b4, Act.put, List.setIfInBounds_toArray, List.set_cons_zero, List.set_cons_succ]
  refine wpAnyH_take (i := 5) (oi := c43b5) (v := ?_) rfl (by kernel_rfl) (by kernel_rfl) (by kernel_rfl) (fun _ _ _ h => h) (Or.inl ⟨by rfl, ?_⟩) hHeld ?_
  rotate_left
  · (intro w hSw; (try dsimp only at hSw); unfold c43b5; go_simp <;> with_reducible rfl)
  try simp only [c43b5, Act.put, List.setIfInBounds_toArray, List.set_cons_zero, List.set_cons_succ]
  refine wpAnyH_take (i := 6) (oi := c43b6) (v := ?_) rfl (by kernel_rfl) (by kernel_rfl) (by kernel_rfl) (fun _ _ _ h => h) (Or.inl ⟨by rfl, ?_⟩) hHeld ?_
  rotate_left
  · (intro w hSw; (try dsimp only at hSw); unfold c43b6; go_simp <;> with_reducible rfl)
  try simp only [c43b6, Act.put, List.setIfInBounds_toArray, List.set_cons_zero, List.set_cons_succ]
  refine wpAnyH_take (i := 7) (oi := c43b7) (v := ?_) rfl (by kernel_rfl) (by kernel_rfl) (by kernel_rfl) (fun _ _ _ h => h) (Or.inl ⟨by rfl, ?_⟩) hHeld ?_
  rotate_left
  · (intro w hSw; (try dsimp only at hSw); unfold c43b7; go_simp <;> with_reducible rfl)
  try simp only [c43b7, Act.put, List.setIfInBounds_toArray, List.set_cons_zero, List.set_cons_succ]
  refine wpAnyH_take (i := 8) (oi := c43b8) (v := ?_) rfl (by kernel_rfl) (by kernel_rfl) (by kernel_rfl) (fun _ _ _ h => h) (Or.inl ⟨by rfl, ?_⟩) hHeld ?_
  rotate_left
  · (intro w hSw; (try dsimp only at hSw); unfold c43b8; go_simp <;> with_reducible rfl)
  try simp only [c43b8, Act.put, List.setIfInBounds_toArray, List.set_cons_zero, List.set_cons_succ]
  refine wpAnyH_take (i := 9) (oi := c43b9) (v := ?_) rfl (by kernel_rfl) (by kernel_rfl) (by kernel_rfl) (fun _ _ _ h => h) (Or.inl ⟨by rfl, ?_⟩) hHeld ?_
  rotate_left
  · (intro w hSw; (try dsimp only at hSw); unfold c43b9; go_simp <;> with_reducible rfl)
  try simp only [c43b9, Act.put, List.setIfInBounds_toArray, List.set_cons_zero, List.set_cons_succ]
  refine wpAnyH_take (i := 10) (oi := c43b10) (v := ?_) rfl (by kernel_rfl) (by kernel_rfl) (by kernel_rfl) (fun _ _ _ h => h) (Or.inl ⟨by rfl, ?_⟩) hHeld ?_
  rotate_left
  · (intro w hSw; (try dsimp only at hSw); unfold c43b10; go_simp <;> with_reducible rfl)
  try simp only [c43b10, Act.put, List.setIfInBounds_toArray, List.set_cons_zero, List.set_cons_succ]
  refine wpAnyH_take (i := 11) (oi := c43b11) (v := ?_) rfl (by kernel_rfl) (by kernel_rfl) (by kernel_rfl) (fun _ _ _ h => h) (Or.inl ⟨by rfl, ?_⟩) hHeld ?_
  rotate_left
  · (intro w hSw; (try dsimp only at hSw); unfold c43b11; go_simp <;> with_reducible rfl)
  try simp only [c43b11, Act.put, List.setIfInBounds_toArray, List.set_cons_zero, List.set_cons_succ]
  refine wpAnyH_take (i := 12) (oi := c43b12) (v := ?_) rfl (by kernel_rfl) (by kernel_rfl) (by kernel_rfl) (fun _ _ _ h => h) (Or.inl ⟨by rfl, ?_⟩) hHeld ?_
  rotate_left
  · (intro w hSw; (try dsimp only at hSw); unfold c43b12; go_simp <;> with_reducible rfl)
  try simp only [c43b12, Act.put, List.setIfInBounds_toArray, List.set_cons_zero, List.set_cons_succ]
  refine wpAnyH_take (i := 13) (oi := c43b13) (v := ?_) rfl (by kernel_rfl) (by kernel_rfl) (by kernel_rfl) (fun _ _ _ h => h) (Or.inl ⟨by rfl, ?_⟩) hHeld ?_
  rotate_left
  · (intro w hSw; (try dsimp only at hSw); unfold c43b13; go_simp <;> with_reducible rfl)
  try simp only [c43b13, Act.put, List.setIfInBounds_toArray, List.set_cons_zero, List.set_cons_succ]
  refine wpAnyH_ready (rs := [14]) (by kernel_rfl) (by simp) ?_
  refine AllReadyH.cons (o := c43b14) rfl (fun K hK => ?_) AllReadyH.nil
  rw [if_pos (by rfl)]
  unfold c43b14
  go_simp
  (with_reducible refine (HCLB.out _ hHeld).mono ?_)
  rintro e w1 ⟨rfl, hS_w1⟩
  go_wp2_with fail
  refine hK.out _ _ hS_w1 (fun hHeld => ?_)
  clear hK K
  try simp only [c43b14, Act.put, List.setIfInBounds_toArray, List.set_cons_zero, List.set_cons_succ]
  refine wpAnyH_ready (rs := [15]) (by kernel_rfl) (by simp) ?_
  refine AllReadyH.cons (o := c43b15) rfl (fun K hK => ?_) AllReadyH.nil
  rw [if_pos (by rfl)]
  unfold c43b15
  go_simp
  (with_reducible refine (HND.out _ hHeld).mono ?_)
  rintro e w2 ⟨rfl, hS_w2⟩
  go_wp2_with fail
  refine hK.out _ _ hS_w2 (fun hHeld => ?_)
  clear hK K
  try simp only [c43b15, Act.put, List.setIfInBounds_toArray, List.set_cons_zero, List.set_cons_succ]
  refine wpAnyH_ready (rs := [16]) (by kernel_rfl) (by simp) ?_
  refine AllReadyH.cons (o := c43b16) rfl (fun K hK => ?_) AllReadyH.nil
  rw [if_pos (by rfl)]
  refine wp_store_mid 26 _ _ (by rfl) (w.heap.size + 1) 0 (List.toArray cs2) (by rfl) (by rfl) (by have h := hHeld.2.2.1; rw [← HCL2.out] at h; exact h) (by simpa using HZ2.out) (all_oneCell_toArray HO2.out) ?_
  refine hK.out _ _ (by rw [List.toList_toArray]; exact hHeld.set cs2) (fun hHeld => ?_)
  clear hK K
  try simp only [c43b16, Act.put]
  refine wpAnyH_done (by kernel_rfl) ?_ _
  have hst := World.rangeAt_setCells_same w2 (w.heap.size + 1) 0 cs2 (by rw [HCL2.out]; exact hS_w2.2.2.1)
  have HST := Lib.hid hst
  have HSF := Lib.hid (hS_w2.set cs2).1
  clear hst hHeld hS_w2 hS_w1
  go_wp2
  refine bodyPost_ret (results_cell_mid rfl _ _ _ _ _ rfl HST.out Tryd.underlying26 rfl HZ2.out) rfl ?_
  exact ⟨rfl, HSF.out⟩

/-- Where a path leads, by the steps. -/
theorem climbF_fuel : ∀ (f g : Nat) (d : List UInt8) (i n : Nat) (p : List (List UInt8)), n ≤ f → n ≤ g → n ≤ 1099511627776 → climbF f d i n p = climbF g d i n p
  | 0, 0, _, _, _, _, _, _, _ => rfl
  | 0, g + 1, d, i, n, p, h, _, _ => by rw [climbF, climbF, if_pos (by omega)]
  | f + 1, 0, d, i, n, p, _, h, _ => by rw [climbF, climbF, if_pos (by omega)]
  | f + 1, g + 1, d, i, n, p, h1, h2, hn => by
    rw [climbF, climbF]
    by_cases h : n ≤ 1
    · rw [if_pos h, if_pos h]
    · obtain ⟨a, b, _⟩ := spl_bound n (by omega) hn
      rw [if_neg h, if_neg h, climbF_fuel f g d i (spl n) _ (by omega) (by omega) (by omega), climbF_fuel f g d (i - spl n) (n - spl n) _ (by omega) (by omega) (by omega)]
def clm (d : List UInt8) (i n : Nat) (p : List (List UInt8)) : List UInt8 := climbF n d i n p
theorem clm_len (d : List UInt8) (i n : Nat) (p : List (List UInt8)) : (clm d i n p).length = 32 := climbF_len _ _ _ _ _
theorem clm_one (d : List UInt8) (i : Nat) (p : List (List UInt8)) : clm d i 1 p = tagged tLeaf d := by unfold clm; rw [climbF, if_pos (by omega)]
theorem clm_lt (d : List UInt8) (i n : Nat) (p : List (List UInt8)) (x : List UInt8) (h1 : 1 < n) (hn : n ≤ 1099511627776) (h : i < spl n) : clm d i n (p ++ [x]) = tagged tNode (clm d i (spl n) p ++ x) := by
  obtain ⟨a, b, _⟩ := spl_bound n h1 hn
  obtain ⟨k, rfl⟩ : ∃ k, n = k + 1 := ⟨n - 1, by omega⟩
  unfold clm
  rw [climbF, if_neg (by omega), if_pos h, climbF_fuel k (spl (k + 1)) _ _ _ _ (by omega) (Nat.le_refl _) (by omega)]
  simp
theorem clm_ge (d : List UInt8) (i n : Nat) (p : List (List UInt8)) (x : List UInt8) (h1 : 1 < n) (hn : n ≤ 1099511627776) (h : ¬ i < spl n) : clm d i n (p ++ [x]) = tagged tNode (x ++ clm d (i - spl n) (n - spl n) p) := by
  obtain ⟨a, b, _⟩ := spl_bound n h1 hn
  obtain ⟨k, rfl⟩ : ∃ k, n = k + 1 := ⟨n - 1, by omega⟩
  unfold clm
  rw [climbF, if_neg (by omega), if_neg h, climbF_fuel k (k + 1 - spl (k + 1)) _ _ _ _ (by omega) (Nat.le_refl _) (by omega)]
  simp

theorem climb_any : ∀ (n : Nat) (p : List (List UInt8)) (w : World) (d : List UInt8) (i : Nat) (v : Value), d.length = 32 → 0 < n → n ≤ 1099511627776 → i < n → p.length = psteps i n → Digs w w.heap.size v p → Tab w → 0 < w.heap.size →
    Calls Tryd.prog 43 #[dv d, .int .i64 i, .int .i64 n, v] w fun e w' => e = .returned (dv (clm d i n p)) ∧ Below w.heap.size w w' := by
  intro n
  induction n using Nat.strongRecOn with
  | ind n ih =>
    intro p w d i v hd h0n hn hi hl hD hT h0
    obtain ⟨h32, a, cap, rfl, hc, hm, h4⟩ := hD
    by_cases h1 : n = 1
    · subst h1
      rw [clm_one, show tagged tLeaf d = tree [d] from rfl]
      exact climb_one w d hd i a p.length cap hT h0
    · obtain ⟨b1, b2, b3, _⟩ := spl_bound n (by omega) hn
      obtain ⟨k, hk⟩ : ∃ k, spl n = k := ⟨_, rfl⟩
      have hpos : 0 < p.length := by
        rw [hl]
        by_cases hik : i < spl n
        · rw [psteps_lt i n (by omega) hn hik]; omega
        · rw [psteps_ge i n (by omega) hn hik]; omega
      obtain ⟨q, x, rfl⟩ : ∃ q x, p = q ++ [x] := ⟨p.dropLast, p.getLast (by intro e; rw [e] at hpos; simp at hpos), (List.dropLast_concat_getLast _).symm⟩
      rw [List.length_append, List.length_singleton] at hl hc ⊢
      rcases h4 with h4 | ⟨db, off, rfl, hdb, hr⟩
      · simp at h4
      · have hx32 : x.length = 32 := h32 x (by simp)
        have hrx : w.rangeAt db (off + q.length * 32) (cells8 x) := by
          have := hr q.length (by simp)
          simpa using this
        have hDq : ∀ W, Below w.heap.size w W → Digs W W.heap.size (.slice (some ⟨db, off, none⟩) q.length cap) q := fun W hB =>
          ⟨fun y hy => h32 y (by simp [hy]), some ⟨db, off, none⟩, cap, rfl, by omega, hm, .inr ⟨db, off, rfl, by have := hB.size; omega, fun j hj u v hv => (hB.cell (p := ⟨db, off + j * 32 + u, none⟩) hdb).trans (hr j (by simp; omega) u v (by rw [List.getElem_append_left hj]; exact hv))⟩⟩
        by_cases hik : i < spl n
        · rw [clm_lt d i n q x (by omega) hn hik]
          rw [psteps_lt i n (by omega) hn hik] at hl
          rw [hk] at hik hl ⊢
          refine climb_lt w d (clm d i k q) x _ hd (clm_len _ _ _ _) hx32 i n k q.length db off cap (by omega) hn hk hik rfl (by omega) hm hrx hdb (fun W hB => ?_) hT h0
          exact ih k (by omega) q W d i _ hd (by omega) (by omega) hik (by omega) (hDq W hB) (hT.below hB h0) (by have := hB.size; omega)
        · rw [clm_ge d i n q x (by omega) hn hik]
          rw [psteps_ge i n (by omega) hn hik] at hl
          rw [hk] at hik hl b1 b2 ⊢
          refine climb_ge w d (clm d (i - k) (n - k) q) x _ hd (clm_len _ _ _ _) hx32 i n k q.length db off cap hi (by omega) hn hk (by omega) rfl (by omega) hm hrx hdb (fun W hB => ?_) hT h0
          have := ih (n - k) (by omega) q W d (i - k) _ hd (by omega) (by omega) (by omega) (by omega) (hDq W hB) (hT.below hB h0) (by have := hB.size; omega)
          rwa [show ((i - k : Nat) : Int) = (i : Int) - (k : Int) by omega, show ((n - k : Nat) : Int) = (n : Int) - (k : Int) by omega] at this
/-- Climb at a path of the right length. -/
theorem Climb_any (w : World) (d : List UInt8) (hd : d.length = 32) (i n : Nat) (h1 : 0 < n) (hn : n ≤ 1099511627776) (hi : i < n) (p : List (List UInt8)) (hp : p.length = psteps i n) (hpc : p.length ≤ 1000000000) (v : Value) (hD : Digs w w.heap.size v p) (hT : Tab w) (h0 : 0 < w.heap.size) :
    Calls Tryd.prog 22 #[dv d, .int .i64 i, .int .i64 n, v] w fun e w' => e = .returned (.tuple #[dv (clm d i n p), .int .i64 0]) ∧ Below w.heap.size w w' := by
  have hD' := hD
  obtain ⟨h32, a, cap, rfl, hc, hm, h4⟩ := hD'
  exact climb_good w d _ hd (clm_len _ _ _ _) i n p.length cap a h1 hn hi hp hpc fun W hB => climb_any n p W d i _ hd h1 hn hi hp ((hD.below hB).mono hB.size) (hT.below hB h0) (by have := hB.size; omega)
end Go.Proofs.YtnddejhbncgchaaDoor
