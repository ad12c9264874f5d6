/- digest.Climb. -/
import Derived.Test.YtnddejhbncgchaaDoorCl1
namespace Go.Proofs.YtnddejhbncgchaaDoor
open Go.RowKit

def z32 : List UInt8 := List.replicate 32 0
theorem z32_len : z32.length = 32 := rfl

/-- Two results: an array in a block, and a slot. -/
theorem results_cell_tmp2 {P : Program} {fn : Func} {p q : Tmp} {ty : TypeId} (h : fn.results = #[.cell p ty, .tmp q]) (tmps : Array Value) (w : World) (b : Nat) (cs : List Value) (d : TypeDesc)
    (hp : tmps.getD p undef = .pointer (some ⟨b, 0, none⟩)) (hc : w.rangeAt b 0 cs) (hu : P.underlying ty = some d) (hd : d.isRow = true) (hi : (P.info? ty).map (·.size) = some cs.length) (v : Value) (hv : tmps.getD q undef = v) :
    (results fn tmps).run P w = .ok (.tuple #[.agg cs.toArray, v]) w := by
  have hp' : tmps[p]?.getD undef = .pointer (some ⟨b, 0, none⟩) := by simpa using hp
  have hv' : tmps[q]?.getD undef = v := by simpa using hv
  simp [results, h, hp', hv', asAddr, run_loadVar_mid w b 0 ty cs d hc hu hd hi, Result.andThen]

set_option maxRecDepth 100000 in
set_option maxHeartbeats 2000000 in
theorem climb_bad (w : World) (d : List UInt8) (hd : d.length = 32) (at_ n m cap : Nat) (a : Option Addr) (h1 : 0 < n) (hn : n ≤ 1099511627776) (ha : at_ < n) (hm : m ≠ psteps at_ n) (_hmc : m ≤ 1000000000) :
    Calls Tryd.prog 22 #[dv d, .int .i64 at_, .int .i64 n, .slice a m cap] w fun e w' => e = .returned (.tuple #[dv z32, .int .i64 1]) ∧ Below w.heap.size w w' := by
  obtain ⟨cx, hcx⟩ : ∃ cx, cells8 d = cx := ⟨_, rfl⟩
  have hpl := plen_any at_ n h1 hn ha
  obtain ⟨q, hq⟩ : ∃ q, psteps at_ n = q := ⟨_, rfl⟩
  have hqle := psteps_le at_ n hn
  rw [hq] at hpl hm hqle
  have hlx : cx.length = 32 := by rw [← hcx, cells8_len, hd]
  rw [show dv d = .agg cx.toArray by rw [dv_eq, hcx]]
  have HPL := Lib.hid hpl
  have HZ1 : Hid ((Tryd.prog.info? 26).map (·.size) = some (cells8 z32).length) := Tryd.info26
  have d1 : decide ((n : Int) < 1) = false := by simp; omega
  have d2 : decide ((1099511627776 : Int) < (n : Int)) = false := by simp; omega
  have d3 : decide ((at_ : Int) < 0) = false := by simp
  have d4 : decide (n ≤ at_) = false := by simp; omega
  have d7 : ¬ n ≤ at_ := by omega
  have d5 : ((m : Int) != (q : Int)) = true := by simp; omega
  have d6 : decide ((m : Int) = (q : Int)) = false := by simp; omega
  clear hpl hlx hcx hd hq
  go_enter Tryd.func22, Tryd.ntmps22
  go_wp2_with (first
    | (refine wpList_world (fun W => Below w.heap.size w W ∧ W.rangeAt w.heap.size 0 cx ∧ Arr W (w.heap.size + 1) (cells8 (List.replicate 32 0)) ∧ w.heap.size + 1 < W.heap.size) ⟨by go_grown, box_a w cx, box_b w cx, by simp⟩ ?_
       rintro W0 ⟨hB0, hX0, hD0, hz0⟩
       have HB0 := Lib.hid hB0
       have HD0 := Lib.hid hD0
       clear hB0 hX0 hD0)
    | (go_at_call 42; refine (HPL.out _).mono ?_; rintro e w' ⟨rfl, rfl⟩)
    | (refine store_new rfl 26 _ _ (by rfl) w.heap.size (w.heap.size + 1) (cells8 z32) _ (by rfl) (by rfl) HB0.out (by omega) HD0.out rfl HZ1.out (one_cells8 _) ?_; intro W7 hB7 hA7 hz7))
  refine bodyPost_ret (results_cell_tmp2 rfl _ _ _ _ _ rfl hA7.at_ Tryd.underlying26 rfl HZ1.out (.int .i64 1) rfl) rfl ?_
  exact ⟨by rw [dv_eq], hB7⟩
end Go.Proofs.YtnddejhbncgchaaDoor
