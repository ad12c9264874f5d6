/- digest.Climb with a path that is as long as it must be. -/
import Derived.Test.YtnddejhbncgchaaDoorCl2
namespace Go.Proofs.YtnddejhbncgchaaDoor
open Go.RowKit

set_option maxRecDepth 100000 in
set_option maxHeartbeats 2000000 in
theorem climb_good (w : World) (d z : List UInt8) (hd : d.length = 32) (hzl : z.length = 32) (at_ n m cap : Nat) (a : Option Addr) (h1 : 0 < n) (hn : n ≤ 1099511627776) (ha : at_ < n) (hm : m = psteps at_ n) (_hmc : m ≤ 1000000000)
    (hcl : ∀ W, Below w.heap.size w W → Calls Tryd.prog 43 #[dv d, .int .i64 at_, .int .i64 n, .slice a m cap] W fun e w' => e = .returned (dv z) ∧ Below W.heap.size W w') :
    Calls Tryd.prog 22 #[dv d, .int .i64 at_, .int .i64 n, .slice a m cap] w fun e w' => e = .returned (.tuple #[dv z, .int .i64 0]) ∧ Below w.heap.size w w' := by
  obtain ⟨cx, hcx⟩ : ∃ cx, cells8 d = cx := ⟨_, rfl⟩
  obtain ⟨cs2, hcs2⟩ : ∃ cs2, cells8 z = cs2 := ⟨_, rfl⟩
  have hcl2 : cs2.length = 32 := by rw [← hcs2, cells8_len, hzl]
  have ho2 : ∀ v ∈ cs2, v.oneCell' = true := by rw [← hcs2]; exact one_cells8 _
  have hz2 : (Tryd.prog.info? 26).map (·.size) = some cs2.length := by rw [hcl2]; exact Tryd.info26
  rw [dv_eq d, dv_eq z, hcx, hcs2] at hcl
  rw [dv_eq z, hcs2]
  have HCL := Lib.hid hcl
  have HO2 := Lib.hid ho2
  have HCL2 := Lib.hid hcl2
  have HZ2 := Lib.hid hz2
  have hpl := plen_any at_ n h1 hn ha
  obtain ⟨q, hq⟩ : ∃ q, psteps at_ n = q := ⟨_, rfl⟩
  have hqle := psteps_le at_ n hn
  rw [hq] at hpl hm hqle
  have hlx : cx.length = 32 := by rw [← hcx, cells8_len, hd]
  rw [show dv d = .agg cx.toArray by rw [dv_eq, hcx]]
  have HPL := Lib.hid hpl
  have HZX : Hid ((Tryd.prog.info? 26).map (·.size) = some cx.length) := by show _ = _; rw [hlx]; exact Tryd.info26
  have d1 : decide ((n : Int) < 1) = false := by simp; omega
  have d2 : decide ((1099511627776 : Int) < (n : Int)) = false := by simp; omega
  have d3 : decide ((at_ : Int) < 0) = false := by simp
  have d4 : decide (n ≤ at_) = false := by simp; omega
  have d7 : ¬ n ≤ at_ := by omega
  have d5 : ((m : Int) != (q : Int)) = false := by simp [hm]
  subst hm
  clear hpl hlx hcx hd hq hcl ho2 hcl2 hz2 hcs2 hzl
  go_enter Tryd.func22, Tryd.ntmps22
  go_wp2_with (first
    | (refine wpList_world (fun W => Below w.heap.size w W ∧ W.rangeAt w.heap.size 0 cx ∧ Arr W (w.heap.size + 1) (cells8 (List.replicate 32 0)) ∧ w.heap.size + 1 < W.heap.size) ⟨by go_grown, box_a w cx, box_b w cx, by simp⟩ ?_
       rintro W0 ⟨hB0, hX0, hD0, hz0⟩
       have HB0 := Lib.hid hB0
       have HD0 := Lib.hid hD0
       have HX0 := Lib.hid hX0
       clear hB0 hX0 hD0)
    | (go_at_call 42; refine (HPL.out _).mono ?_; rintro e w' ⟨rfl, rfl⟩)
    | (refine wpList_load_mid rfl 26 _ (by rfl) w.heap.size 0 (by rfl) _ _ HX0.out Tryd.underlying26 rfl HZX.out ?_)
    | (go_at_call 43
       refine (HCL.out _ HB0.out).mono ?_
       rintro e w6 ⟨rfl, hB6⟩
       have HK6 := Lib.hid (HB0.out.trans (hB6.mono HB0.out.size))
       have HD6 := Lib.hid (HD0.out.below hB6 hz0)
       clear hB6)
    | (refine store_new rfl 26 _ _ (by rfl) w.heap.size (w.heap.size + 1) cs2 _ (by rfl) (by rfl) HK6.out (by omega) HD6.out (by rw [HCL2.out]; rfl) HZ2.out HO2.out ?_; intro W7 hB7 hA7 hz7))
  refine bodyPost_ret (results_cell_tmp2 rfl _ _ _ _ _ rfl hA7.at_ Tryd.underlying26 rfl HZ2.out (.int .i64 0) rfl) rfl ?_
  exact ⟨rfl, hB7⟩
end Go.Proofs.YtnddejhbncgchaaDoor
