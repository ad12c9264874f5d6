/- Direction: orderOf, Order. -/
import Derived.Test.YtilkhamlhbbmgaaDoorTun
import Derived.Laws.MakeOwn
import Derived.Laws.OwnMore
namespace Go.Proofs.YtilkhamlhbbmgaaDoor
open Go.RowKit

theorem Arr.of_own {W : World} {B e g n c : Nat} {xs : List Value} (h : W.ownsRow B e 1 (.slice (some ⟨g, 0, none⟩) n c) n xs) : Arr W g xs := by
  have hl : xs.length = n := by have := h.1; omega
  refine ⟨fun j v hv => ?_, fun j hj => ⟨?_, ?_⟩⟩
  · have hj : j < n := by
      rcases Nat.lt_or_ge j xs.length with hj | hj
      · omega
      · rw [List.getElem?_eq_none hj] at hv; cases hv
    rw [Nat.zero_add, h.cellAt j (by omega), hv]
  · rw [Nat.zero_add, h.cellAt j (by omega), List.getElem?_eq_getElem hj]; rfl
  · rw [Nat.zero_add]; exact h.frozenAt j
theorem made_int (n : Nat) (F : Nat → Int) (hF : ∀ j, F j = 0) : (madeCells (Value.int .i64 0).cells (n * 1)).toList = icells ((List.range n).map F) := by
  have : (Value.int .i64 0).cells = #[.int .i64 0] := rfl
  rw [this, toList_madeCells_one, Nat.mul_one]
  apply List.ext_getElem (by simp [icells])
  intro j h1 h2
  simp [icells, hF]
theorem IRow.of_arr {W : World} {g n : Nat} {l : List Int} (h : Arr W g (icells l)) (hg : g < W.heap.size) (hl : l.length = n) (hn : n ≤ maxLen) : IRow W W.heap.size (.slice (some ⟨g, 0, none⟩) n n) l := by
  subst hl
  refine ⟨_, _, rfl, Nat.le_refl _, hn, .inr ⟨g, 0, rfl, hg, fun j hj => ?_⟩⟩
  rw [Nat.zero_add]
  exact h.cell (by simp [icells, hj])
def idF (k j : Nat) : Int := if j < k then (j : Int) else 0
theorem idF_set (n k : Nat) (_hk : k < n) : (icells ((List.range n).map (idF k))).set k (.int .i64 (k : Int)) = icells ((List.range n).map (idF (k + 1))) := by
  simp only [icells, List.map_map]
  apply List.ext_getElem (by simp)
  intro j h1 h2
  rw [List.getElem_set]
  simp only [List.getElem_map, List.getElem_range, Function.comp_apply, idF]
  by_cases h : k = j
  · subst h; rw [if_pos rfl, if_pos (by omega)]
  · rw [if_neg h]
    by_cases h3 : j < k
    · rw [if_pos h3, if_pos (by omega)]
    · rw [if_neg h3, if_neg (by omega)]
theorem idF_end (n : Nat) : (List.range n).map (idF n) = idL n := by
  unfold idL
  refine List.map_congr_left fun j hj => ?_
  rw [List.mem_range] at hj
  unfold idF
  rw [if_pos hj]; rfl
set_option maxRecDepth 100000 in
set_option maxHeartbeats 8000000 in
theorem orderOf_any (w : World) (v : Value) (lev : List Int) (hv : IRow w w.heap.size v lev) (hn : lev.length ≤ 1000000) : Calls Tryd.prog 61 #[v] w fun e w' => ∃ u, e = .returned u ∧ IRow w' w'.heap.size u (orL lev) ∧ Below w.heap.size w w' := by
  obtain ⟨i0, hi, hz0, hz1, hz2⟩ := info_parts Tryd.info3r
  have HV := Lib.hid hv
  have HT1 := Lib.hid (fun (W : World) (g : Nat) (o : List Int) (hb : Below w.heap.size w W) (hg : g < W.heap.size) (hg2 : w.heap.size ≤ g) (ho : o.length = lev.length) (hA : Arr W g (icells o)) (m : Int) => turn_any W g w.heap.size m v lev o ho hn hg hg2 hA (hv.below hb))
  obtain ⟨a, c, rfl, hc, hm, -⟩ := hv
  have HOL := Lib.hid (orL_len lev)
  have HTL := Lib.hid (tuL_len 2 lev (idL lev.length))
  have HID := Lib.hid (idL_len lev.length)
  have HOR : Hid (tuL 1 lev (tuL 2 lev (idL lev.length)) = orL lev) := Lib.hid rfl
  obtain ⟨n, hN⟩ : ∃ n, lev.length = n := ⟨_, rfl⟩
  rw [hN] at hc hn HT1 HOL HTL HID HOR ⊢
  clear hN
  have HMADE := Lib.hid (made_int n (idF 0) (fun j => by unfold idF; rw [if_neg (by omega)]))
  have HSET := Lib.hid (idF_set n)
  have HEND := Lib.hid (idF_end n)
  have hmx : n ≤ maxLen := by unfold maxLen; omega
  go_enter Tryd.func61, Tryd.ntmps61
  go_wp2_with (refine wpList_make_full _ rfl (.tmp 6) (.tmp 6) 22 rfl w.heap.size 3 i0 (.int .i64 0) 1 Tryd.underlying22 hi hz0 hz1 .i64 .i64 _ _ n (by rfl) (by rfl) rfl rfl (by rw [hz2]; omega) hmx (Nat.le_refl _) ?_; intro w1 hO1 hG1; rw [HMADE.out] at hO1; have HA1 := Lib.hid (Arr.of_own hO1); have HB1 := Lib.hid (below_none hG1); have hs1 := (hO1.lt w.heap.size rfl).2; clear hO1 hG1)
  go_loopw [4, 10] (fun s4 s10 wr => ∃ k : Nat, k ≤ n ∧ s10 = .int .i64 k ∧ Hid (Below w.heap.size w wr) ∧ Hid (Arr wr w.heap.size (icells ((List.range n).map (idF k)))) ∧ w.heap.size < wr.heap.size) (fun _ s10 _ => n - (intOf s10).toNat)
  case atStart => exact ⟨0, Nat.zero_le _, rfl, HB1, HA1, hs1⟩
  case round =>
    obtain ⟨k, hk, rfl, HB, HA, hsz⟩ := hrel
    by_cases hlt : k < n
    · have hcl : k < (icells ((List.range n).map (idF k))).length := by simp [icells]; omega
      have hc1 := HA.out.cell (i := k) (v := (icells ((List.range n).map (idF k)))[k]) (List.getElem?_eq_getElem hcl)
      have hf1 := HA.out.frozen hcl
      obtain ⟨x, hx⟩ : ∃ x, (icells ((List.range n).map (idF k)))[k] = x := ⟨_, rfl⟩
      have hxx : x = .int .i64 0 := by rw [← hx]; simp [icells, idF]
      rw [hx, hxx] at hc1
      have HA2 := Lib.hid (HA.out.set k (.int .i64 (k : Int)))
      have HB2 := Lib.hid (HB.out.setCell (p := ⟨w.heap.size, k, none⟩) (Nat.le_refl _) (.int .i64 (k : Int)))
      have hs2 : w.heap.size < (wr.setCell ⟨w.heap.size, k, none⟩ (.int .i64 (k : Int))).heap.size := by simpa [World.setCell] using hsz
      clear hx hxx hcl
      go_wp2
      go_roundw
      case rel => exact ⟨k + 1, by omega, by go_num, HB2, Lib.hid (by rw [← HSET.out k hlt]; exact HA2.out), hs2⟩
      case measure => simp [intOf]; omega
    · have hkn : k = n := by omega
      subst hkn
      rw [HEND.out] at HA
      have HC1 := Lib.hid (HT1.out wr w.heap.size (idL k) HB.out hsz (Nat.le_refl _) HID.out HA.out 2)
      go_wp2_with fail
      (with_reducible refine HC1.out.mono ?_)
      rintro e w2 ⟨rfl, h2, o2⟩
      have hb2 : Below w.heap.size w w2 := HB.out.trans (o2.below (Nat.le_of_lt hsz) (by simp))
      have hs2 : w.heap.size < w2.heap.size := Nat.lt_of_lt_of_le hsz o2.size
      have HB2 := Lib.hid hb2
      have HC2 := Lib.hid (HT1.out w2 w.heap.size _ hb2 hs2 (Nat.le_refl _) HTL.out h2 1)
      rw [HOR.out] at HC2
      clear h2 o2 hb2
      go_wp2_with fail
      (with_reducible refine HC2.out.mono ?_)
      rintro e w3 ⟨rfl, h3, o3⟩
      have hb3 : Below w.heap.size w w3 := HB2.out.trans (o3.below (Nat.le_of_lt hs2) (by simp))
      have hs3 : w.heap.size < w3.heap.size := Nat.lt_of_lt_of_le hs2 o3.size
      have HR := Lib.hid (IRow.of_arr h3 hs3 HOL.out hmx)
      have HB3 := Lib.hid hb3
      clear h3 o3 hb3
      go_wp2
      go_ret
      exact ⟨_, rfl, HR.out, HB3.out⟩
/-- What Order answers. -/
def odE (s : List Int) : Int := if 4096 < s.length then 2 else if s.any noLv then 100 else 0
def odV (s : List Int) : List Int := if odE s = 0 then orL s else []
theorem order_any (w : World) (v : Value) (s : List Int) (hv : IRow w w.heap.size v s) : Calls Tryd.prog 34 #[v] w fun e w' => ∃ u, e = .returned (.tuple #[u, .int .i64 (odE s)]) ∧ IRow w' w'.heap.size u (odV s) ∧ Below w.heap.size w w' := by
  have HC := Lib.hid (contains_60 w v s hv)
  have HO := Lib.hid (fun (W : World) (hW : Below w.heap.size w W) (hn : s.length ≤ 4096) => orderOf_any W v s ((hv.below hW).mono hW.size) (by omega))
  obtain ⟨a, c, rfl, -⟩ := hv
  unfold odV odE
  obtain ⟨n, hN⟩ : ∃ n, s.length = n := ⟨_, rfl⟩
  rw [hN] at HC HO ⊢
  clear hN
  by_cases h1 : 4096 < n
  · have d : decide (4096 < (n : Int)) = true := by simp; omega
    rw [if_pos h1]
    clear h1 HO
    go_enter Tryd.func34, Tryd.ntmps34
    go_wp2
    go_ret2
    exact ⟨_, rfl, IRow.nil _ _, Below.refl _ _⟩
  · have d : decide (4096 < (n : Int)) = false := by simp; omega
    rw [if_neg h1]
    have HO2 := Lib.hid (fun W hW => HO.out W hW (by omega))
    clear h1 HO
    cases ha : s.any noLv
    · rw [ha] at HC
      rw [if_neg (by simp), if_pos rfl]
      clear ha
      go_enter Tryd.func34, Tryd.ntmps34
      go_wp2_with fail
      refine HC.out.mono ?_
      rintro e w1 ⟨rfl, hb⟩
      have HB := Lib.hid hb
      clear hb
      go_wp2_with fail
      refine (HO2.out w1 HB.out).mono ?_
      rintro e w2 ⟨u, rfl, hu, hb⟩
      have HU := Lib.hid hu
      have HB2 := Lib.hid (HB.out.trans (hb.mono HB.out.size))
      clear hu hb
      go_wp2
      go_ret2
      exact ⟨_, rfl, HU.out, HB2.out⟩
    · rw [ha] at HC
      rw [if_pos rfl]
      clear ha
      go_enter Tryd.func34, Tryd.ntmps34
      go_wp2_with fail
      refine HC.out.mono ?_
      rintro e w1 ⟨rfl, hb⟩
      have HB := Lib.hid hb
      clear hb
      go_wp2
      go_ret2
      exact ⟨_, rfl, IRow.nil _ _, HB.out⟩
end Go.Proofs.YtilkhamlhbbmgaaDoor
