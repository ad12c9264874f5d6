/- merkle: the root to which a path leads (Climb). -/
import Derived.Test.YtfmngeemhfpeiaaDoorObk
namespace Go.Proofs.YtfmngeemhfpeiaaDoor
open Go.RowKit Go.Shelf
attribute [local go_sem] Oper.semAt_some

/-- The digest of a way before the row k; the first one is d. -/
def mst (i m : Nat) (d : List UInt8) (p : List (List UInt8)) : Nat → List UInt8
  | 0 => d
  | k + 1 => if alone (mpos i k) (msz m k) then mst i m d p k else sha (stepT (mpos i k) (mst i m d p k) (p.getD (mcnt i m k) []))
/-- The root to which a leaf and a path lead. -/
def mclimb (i m : Nat) (b : List UInt8) (p : List (List UInt8)) : List UInt8 := mst i m (sha (leafT b)) p (mrows m)
theorem mst_len (i m : Nat) {d : List UInt8} (hd : d.length = 32) (p : List (List UInt8)) : ∀ k, (mst i m d p k).length = 32
  | 0 => hd
  | k + 1 => by
    unfold mst
    split
    · exact mst_len i m hd p k
    · exact sha_len _
theorem stepT_len (t : Nat) (a b : List UInt8) : (stepT t a b).length = 32 + (a.length + b.length) := by
  unfold stepT
  split
  · rw [nodeT_len]; omega
  · rw [nodeT_len]
theorem stepT_ne (t : Nat) (a b : List UInt8) : stepT t a b ≠ [] := fun e => by have := stepT_len t a b; rw [e] at this; simp at this; omega

def c23a0 : Oper := { dst := some 33, op := Go.Op.load 65 (Go.Operand.tmp 10), type := 65, pos := "merkle.go:49", after := #[], guard := none }
def c23a1 : Oper := { dst := some 34, op := Go.Op.load 30 (Go.Operand.tmp 8), type := 30, pos := "merkle.go:49", after := #[], guard := none }
def c23a2 : Oper := { dst := some 35, op := Go.Op.load 25 (Go.Operand.tmp 7), type := 25, pos := "merkle.go:49", after := #[], guard := none }
def c23a3 : Oper := { dst := some 36, op := Go.Op.indexAddr 25 (Go.Operand.tmp 35) (Go.Operand.const (Go.Value.int Go.IntKind.i64 0)), type := 0, pos := "merkle.go:49", after := #[{ on := 2, ground := Go.Ground.data }], guard := none }
def c23a4 : Oper := { dst := some 37, op := Go.Op.load 30 (Go.Operand.tmp 36), type := 30, pos := "merkle.go:49", after := #[{ on := 3, ground := Go.Ground.data }], guard := none }
def c23a5 : Oper := { dst := some 38, op := Go.Op.call { callee := Go.Callee.value (Go.Operand.func 53), args := #[Go.Operand.tmp 33, Go.Operand.tmp 34, Go.Operand.tmp 37], argTypes := #[65, 30, 30] }, type := 34, pos := "merkle.go:49", after := #[{ on := 0, ground := Go.Ground.data }, { on := 1, ground := Go.Ground.data }, { on := 4, ground := Go.Ground.data }], guard := none }
def c23a6 : Oper := { dst := some 39, op := Go.Op.call { callee := Go.Callee.value (Go.Operand.func 27), args := #[Go.Operand.tmp 38], argTypes := #[34] }, type := 30, pos := "merkle.go:49", after := #[{ on := 5, ground := Go.Ground.data }, { on := 5, ground := Go.Ground.chain }], guard := none }
def c23a7 : Oper := { dst := none, op := Go.Op.store 30 (Go.Operand.tmp 8) (Go.Operand.tmp 39), type := 0, pos := "merkle.go:49", after := #[{ on := 6, ground := Go.Ground.data }, { on := 6, ground := Go.Ground.chain }, { on := 0, ground := Go.Ground.phase }, { on := 1, ground := Go.Ground.phase }, { on := 2, ground := Go.Ground.phase }, { on := 3, ground := Go.Ground.phase }, { on := 4, ground := Go.Ground.phase }, { on := 5, ground := Go.Ground.phase }, { on := 6, ground := Go.Ground.phase }], guard := none }
def c23b0 : Oper := { dst := some 16, op := Go.Op.load 25 (Go.Operand.tmp 7), type := 25, pos := "merkle.go:43", after := #[], guard := none }
def c23b1 : Oper := { dst := some 17, op := Go.Op.call { callee := Go.Callee.builtin Go.Builtin.len, args := #[Go.Operand.tmp 16], argTypes := #[25] }, type := 3, pos := "merkle.go:43", after := #[{ on := 0, ground := Go.Ground.data }], guard := none }
def c23b2 : Oper := { dst := some 18, op := Go.Op.move (Go.Operand.tmp 0), type := 3, pos := "merkle.go:43", after := #[], guard := none }
def c23b3 : Oper := { dst := some 19, op := Go.Op.move (Go.Operand.tmp 1), type := 3, pos := "merkle.go:43", after := #[], guard := none }
def c23b4 : Oper := { dst := some 20, op := Go.Op.call { callee := Go.Callee.value (Go.Operand.func 51), args := #[Go.Operand.tmp 18, Go.Operand.tmp 19], argTypes := #[3, 3] }, type := 3, pos := "merkle.go:43", after := #[{ on := 2, ground := Go.Ground.data }, { on := 3, ground := Go.Ground.data }], guard := none }
def c23b5 : Oper := { dst := some 21, op := Go.Op.binOp Go.BinOp.neq 3 (Go.Operand.tmp 17) (Go.Operand.tmp 20) 3, type := 4, pos := "merkle.go:43", after := #[{ on := 1, ground := Go.Ground.data }, { on := 4, ground := Go.Ground.data }], guard := none }

set_option maxRecDepth 100000 in
set_option maxHeartbeats 8000000 in
theorem climb_ok (w : World) (i m : Nat) (v u : Value) (b : List UInt8) (p : List (List UInt8)) (hv : BytesAt w w.heap.size v b) (hb : b.length ≤ 80000000) (hu : Digs w w.heap.size u p) (him : i < m) (hm : m ≤ 65536) (hp : p.length = mlen i m) (hT : Tab w) (h0 : 0 < w.heap.size) :
    Calls Tryd.prog 23 #[.int .i64 m, .int .i64 i, v, u] w fun e w' => e = .returned (.tuple #[.agg (cells8 (mclimb i m b p)).toArray, .int .i64 0]) ∧ Below w.heap.size w w' := by
  obtain ⟨va, vc, rfl, hvl⟩ : ∃ a c, v = .slice a b.length c ∧ True := by obtain ⟨a, c, rfl, _⟩ := hv; exact ⟨a, c, rfl, trivial⟩
  have HLF : Hid (∀ W, Calls Tryd.prog 42 #[.int .i64 m, .int .i64 i] W fun e w' => e = .returned (.bool true) ∧ w' = W) := Lib.hid fun W => by
    have h := isLeaf_any W m i
    rw [show (decide ((m : Int) ≤ 65536) && (decide (0 ≤ (i : Int)) && decide ((i : Int) < (m : Int)))) = true by simp; omega] at h
    exact h
  have HPL := Lib.hid (fun W : World => pathLength_any W i m (by omega) (by omega) him)
  have HLT := Lib.hid (fun W (hW : Below w.heap.size w W) => leafText_any W (.slice va b.length vc) b ((hv.below hW).mono hW.size) hb (hT.below hW h0) (by have := hW.size; omega))
  have HS0 := Lib.hid (fun W v (hW : Below w.heap.size w W) (hv : BytesAt W W.heap.size v (leafT b)) => sum_any W v (leafT b) (row_of hv (leafT_ne b)) (by rw [leafT_len]; omega) (hT.below hW h0) (by have := hW.size; omega))
  simp only [dv_eq] at HS0
  obtain ⟨h32, pa, pc, rfl, hpc, hpm, hpr⟩ := hu
  obtain ⟨P, hP⟩ : ∃ P, p.length = P := ⟨_, rfl⟩
  obtain ⟨LB, hL⟩ : ∃ L, b.length = L := ⟨_, rfl⟩
  have HPB : Hid (∃ pb poff, pb < w.heap.size ∧ (0 < P → pa = some ⟨pb, poff, none⟩) ∧ ∀ c (hc : c < P), (p.getD c []).length = 32 ∧ w.rangeAt pb (poff + c * 32) (cells8 (p.getD c []))) := Lib.hid (by
    rcases hpr with rfl | ⟨pb, poff, h4, h5, h6⟩
    · have hP0 : P = 0 := by rw [← hP]; rfl
      exact ⟨0, 0, h0, fun h => by omega, fun c hc => by omega⟩
    · exact ⟨pb, poff, h5, fun _ => h4, fun c hc => by
        have hc' : c < p.length := by omega
        have e : p.getD c [] = p[c] := by simp [List.getD, List.getElem?_eq_getElem hc']
        rw [e]
        exact ⟨h32 _ (List.getElem_mem hc'), h6 c hc'⟩⟩)
  rw [hP] at hpc hp ⊢
  rw [hL] at HLT ⊢
  have HP := Lib.hid hp
  have HML := Lib.hid (show ∀ k, k < mrows m → mcnt i m (k + 1) ≤ P from fun k hk => by rw [hp]; exact mcnt_mono i m hk)
  have HT := Lib.hid hT
  have HDL0 : Hid ((cells8 (sha (leafT b))).length = 32) := Lib.hid (by rw [cells8_len, sha_len])
  have HDO0 : Hid (∀ v ∈ cells8 (sha (leafT b)), v.oneCell' = true) := Lib.hid (one_cells8 _)
  have HMCL : Hid (mst i m (sha (leafT b)) p (mrows m) = mclimb i m b p) := Lib.hid rfl
  have HMST : Hid (∀ k, (cells8 (mst i m (sha (leafT b)) p k)).length = 32) := Lib.hid fun k => by rw [cells8_len, mst_len i m (sha_len _)]
  obtain ⟨D0, hD0⟩ : ∃ D, sha (leafT b) = D := ⟨_, rfl⟩
  rw [hD0] at HS0 HDL0 HDO0 HMCL HMST
  have HD032 : Hid (D0.length = 32) := Lib.hid (by rw [← hD0, sha_len])
  have HZ0 : Hid ((Tryd.prog.info? 30).map (·.size) = some (cells8 D0).length) := Lib.hid (by rw [HDL0.out]; exact Tryd.info30)
  obtain ⟨cd0, hcd0⟩ : ∃ c, cells8 D0 = c := ⟨_, rfl⟩
  rw [hcd0] at HS0 HDL0 HDO0 HZ0
  have HCD0 := Lib.hid hcd0
  unfold maxLen at hpm
  clear hv hvl hT hpr h32 hp hL hP hD0 hcd0 hb
  refine (callsIn_wide (n := 9)).1 ?_
  refine callsIn_of_wp_marks Tryd.func23 rfl trivial ?_ rfl
  simp only [Tryd.ntmps23, List.size_toArray, List.length_cons, List.length_nil, Nat.reduceAdd, Nat.reduceSub, Array.replicate_succ, Array.replicate_zero, List.push_toArray, List.append_toArray, List.nil_append, List.cons_append]
  refine wpIn_wide.2 ?_
  have z1 : (w.alloc (.cells #[.slice pa P pc] 25)).heap.size = w.heap.size + 1 := World.size_alloc _ _
  go_wp2_with (refine wpList_world (fun W => Below w.heap.size w W ∧ Arr W w.heap.size [.slice pa P pc] ∧ Arr W (w.heap.size + 1) (cells8 (List.replicate 32 0)) ∧ w.heap.size + 2 ≤ W.heap.size) ⟨by go_grown, (Arr.new w #[.slice pa P pc] 25).alloc (by omega) _, by have h := Arr.new (w.alloc (.cells #[.slice pa P pc] 25)) (Array.replicate 32 (.int .u8 0)) 30; rw [z1] at h; exact h, by simp⟩ ?_; rintro W0 ⟨hB0, hA0, hD0, hz0⟩)
  refine (HLF.out _).mono ?_
  rintro e w1 ⟨rfl, rfl⟩
  have HB0 := Lib.hid hB0
  have HA0 := Lib.hid hA0
  have HD0 := Lib.hid hD0
  have P70 : Hid (∀ W, Kept w1 W → W.cell? ⟨w.heap.size, 0, none⟩ = some (.slice pa P pc)) := Lib.hid fun W hW => (hA0.below hW.below (by omega)).cell rfl
  have hPd : decide ((P : Int) = (mlen i m : Int)) = true := by have := HP.out; simp; omega
  have hPe : ((P : Int) == (mlen i m : Int)) = true := by have := HP.out; simp; omega
  have hPf : ((P : Int) != (mlen i m : Int)) = false := by have := HP.out; simp; omega
  have hPg : (mlen i m : Int) = (P : Int) := by have := HP.out; omega
  clear hB0 hA0 hD0
  go_upto_region 3 with fail
  refine wp_region_ends (fun W => Kept w1 W) (by kernel_rfl) (Kept.drew (Kept.refl w1)) (fun KR hKR hHeld => ?_)
  refine wpAnyH_take (i := 0) (oi := c23b0) (v := ?_) rfl (by kernel_rfl) (by kernel_rfl) (by kernel_rfl) (fun _ _ _ h => h) (Or.inl ⟨by rfl, ?_⟩) hHeld ?_
  rotate_left
  · (intro w hSw; have f1 := P70.out w hSw; unfold c23b0; go_simp <;> with_reducible rfl)
  try simp only [c23b0, Act.put, List.setIfInBounds_toArray, List.set_cons_zero, List.set_cons_succ]
  refine wpAnyH_take (i := 1) (oi := c23b1) (v := ?_) rfl (by kernel_rfl) (by kernel_rfl) (by kernel_rfl) (fun _ _ _ h => h) (Or.inl ⟨by rfl, ?_⟩) hHeld ?_
  rotate_left
  · (intro w hSw; (try dsimp only at hSw); unfold c23b1; go_simp <;> with_reducible rfl)
  try simp only [c23b1, Act.put, List.setIfInBounds_toArray, List.set_cons_zero, List.set_cons_succ]
  refine wpAnyH_take (i := 2) (oi := c23b2) (v := ?_) rfl (by kernel_rfl) (by kernel_rfl) (by kernel_rfl) (fun _ _ _ h => h) (Or.inl ⟨by rfl, ?_⟩) hHeld ?_
  rotate_left
  · (intro w hSw; (try dsimp only at hSw); unfold c23b2; go_simp <;> with_reducible rfl)
  try simp only [c23b2, Act.put, List.setIfInBounds_toArray, List.set_cons_zero, List.set_cons_succ]
  refine wpAnyH_take (i := 3) (oi := c23b3) (v := ?_) rfl (by kernel_rfl) (by kernel_rfl) (by kernel_rfl) (fun _ _ _ h => h) (Or.inl ⟨by rfl, ?_⟩) hHeld ?_
  rotate_left
  · (intro w hSw; (try dsimp only at hSw); unfold c23b3; go_simp <;> with_reducible rfl)
  try simp only [c23b3, Act.put, List.setIfInBounds_toArray, List.set_cons_zero, List.set_cons_succ]
  refine wpAnyH_ready (rs := [4]) (by kernel_rfl) (by simp) ?_
  refine AllReadyH.cons (o := c23b4) rfl (fun K hK => ?_) AllReadyH.nil
  rw [if_pos (by rfl)]
  unfold c23b4
  go_simp
  (with_reducible refine (HPL.out _).mono ?_)
  rintro e W1 ⟨rfl, hB1⟩
  have hS1 := hHeld.next hB1
  go_wp2_with fail
  refine hK.out _ _ hS1 (fun hHeld => ?_)
  clear hK K
  try simp only [c23b4, Act.put, List.setIfInBounds_toArray, List.set_cons_zero, List.set_cons_succ]
  refine wpAnyH_take (i := 5) (oi := c23b5) (v := ?_) rfl (by kernel_rfl) (by kernel_rfl) (by kernel_rfl) (fun _ _ _ h => h) (Or.inl ⟨by rfl, ?_⟩) hHeld ?_
  rotate_left
  · (intro w hSw; (try dsimp only at hSw); unfold c23b5; go_simp <;> with_reducible rfl)
  try simp only [c23b5, Act.put, List.setIfInBounds_toArray, List.set_cons_zero, List.set_cons_succ]
  refine wpAnyH_done (by kernel_rfl) ?_ _
  refine hKR _ _ ?_
  have HW1 := Lib.hid hHeld
  clear hHeld hS1 hB1
  have HB1 := Lib.hid (HB0.out.trans (HW1.out.below.mono (by omega)))
  have HA1 := Lib.hid (HA0.out.below HW1.out.below (by omega))
  have HD1 := Lib.hid (HD0.out.below HW1.out.below (by omega))
  have hz1 := Nat.le_trans hz0 HW1.out.below.size
  clear HA0 HD0 HB0 HW1 P70
  go_wp2_with fail
  refine (HLT.out _ HB1.out).mono ?_
  rintro e W2 ⟨v2, rfl, hv2, hb2⟩
  have hs2 := hb2.size
  have HB2 := Lib.hid (HB1.out.trans (hb2.mono HB1.out.size))
  have HA2 := Lib.hid (HA1.out.below hb2 (by omega))
  have HD2 := Lib.hid (HD1.out.below hb2 (by omega))
  have HV2 := Lib.hid hv2
  clear HA1 HD1 HB1 hb2 hv2
  go_wp2_with fail
  refine (HS0.out _ _ HB2.out HV2.out).mono ?_
  rintro e W3 ⟨rfl, hb3⟩
  have hs3 := hb3.size
  have HB3 := Lib.hid (HB2.out.trans (hb3.mono HB2.out.size))
  have HA3 := Lib.hid (HA2.out.below hb3 (by omega))
  have HD3 := Lib.hid (HD2.out.below hb3 (by omega))
  clear HA2 HD2 HB2 hb3 HV2
  go_wp2_with (refine store_new2 rfl 30 _ _ (by rfl) w.heap.size (w.heap.size + 1) cd0 _ (by rfl) (by rfl) HB3.out (by omega) HD3.out (by rw [HDL0.out]; rfl) HZ0.out HDO0.out ?_; intro W4 hB4 hA4 hO4 hz4; have HB4 := Lib.hid hB4; have HD4 := Lib.hid hA4; have HA4 := Lib.hid (hO4 w.heap.size _ (by omega) HA3.out); clear hB4 hA4 hO4)
  refine (steps_any W4 i m).mono ?_
  rintro e w5 ⟨rfl, hi5, hn5, hb5, hz5⟩
  have HB5 := Lib.hid (HB4.out.trans (hb5.mono HB4.out.size))
  have HD5 := Lib.hid (HD4.out.below hb5 (by omega))
  have HA5 := Lib.hid (HA4.out.below hb5 (by omega))
  have HI5 := Lib.hid hi5
  have HN5 := Lib.hid hn5
  clear HB4 HD4 HA4 HB3 HD3 HA3 hb5 hi5 hn5
  obtain ⟨pb, poff, hpb, hpa, hpr⟩ := HPB.out
  have HPA := Lib.hid hpa
  have HPR := Lib.hid hpr
  clear hpa hpr
  have hw5 : w.heap.size + 2 < w5.heap.size := by omega
  have hq5 : W4.heap.size < w5.heap.size := by omega
  have hq6 : W4.heap.size + 1 < w5.heap.size := by omega
  clear hz5
  go_wp2_with fail
  refine (wpIn_wide (n := 9)).1 ?_
  refine range_in_turn (n := 9) rfl (enters_of Tryd.func74 (by kernel_rfl) rfl) (steps_turn 8 (by omega) (W4.heap.size + 1) W4.heap.size i m (by omega) (by omega) him w5 (by omega) (by omega) HI5.out HN5.out) (Below.refl _ _) (fun _ => rfl)
    (fun k W => Below w.heap.size w W ∧ w5.heap.size ≤ W.heap.size ∧ Arr W (w.heap.size + 1) (cells8 (mst i m D0 p k)) ∧ ∃ a' L C, Arr W w.heap.size [.slice a' L C] ∧ L + mcnt i m k = P ∧ L ≤ C ∧ C ≤ 9223372036854775807 ∧ (0 < L → a' = some ⟨pb, poff + mcnt i m k * 32, none⟩)) (fun _ _ => False)
    (by
      rintro k W W' row ⟨k1, k2, k3, a', L, C, k4, k5⟩ hg hr
      exact ⟨k1.grown hg k1.size (fun k e => by have := (hr k e).1; omega), Nat.le_trans k2 hg.size, k3.own hg (fun r e => (hr r e).2), a', L, C, k4.own hg (fun r e => (hr r e).2), k5⟩)
    (by rintro _ _ _ _ h; exact absurd h id)
    ⟨HB5.out, Nat.le_refl _, by show Arr w5 _ (cells8 D0); rw [HCD0.out]; exact HD5.out, pa, P, pc, HA5.out, rfl, hpc, hpm, fun h => by show _ = some _; rw [show mcnt i m 0 = 0 from rfl, Nat.zero_mul]; exact HPA.out h⟩
    (fun k a' W => ∃ g', a' = { tmps := (.int .i64 m :: .int .i64 i :: .slice va LB vc :: .slice pa P pc :: undef :: undef :: undef :: .pointer (some ⟨w.heap.size, 0, none⟩) :: .pointer (some ⟨w.heap.size + 1, 0, none⟩) :: .int .i64 0 :: .pointer (some ⟨g', 0, none⟩) :: .int .i64 m :: .int .i64 i :: .bool true :: .bool false :: undef :: .slice pa P pc :: .int .i64 P :: .int .i64 m :: .int .i64 i :: .int .i64 P :: .bool false :: undef :: .slice va LB vc :: v2 :: .agg cd0.toArray :: .int .i64 m :: .int .i64 i :: .func (.func 74) #[] #[.pointer (some ⟨W4.heap.size + 1, 0, none⟩), .pointer (some ⟨W4.heap.size, 0, none⟩)] :: .agg #[.int .i64 (mpos i k), .int .i64 (msz m k)] :: undef :: undef :: undef :: undef :: undef :: undef :: undef :: undef :: undef :: undef :: undef :: undef :: undef :: []).toArray, defers := [] } ∧ w5.heap.size ≤ g' ∧ Arr W g' [.int .i64 (mpos i k), .int .i64 (msz m k)])
    ?hax ?assign ?body ?done ?stop
  case hax =>
    rintro k a' u W W' row ⟨g', h1, h2, h3⟩ hg hr
    exact ⟨g', h1, h2, h3.own hg (fun r e => (hr r e).2)⟩
  case assign =>
    intro lp k W K hk hI hK
    have HKK := Lib.hid hK
    have HI := Lib.hid hI
    clear hI hK
    unfold stpV
    gi_wp2
    obtain ⟨h1, h2, h3, a', L, C, h4, h5⟩ := HI.out
    have hsz := h1.size
    exact HKK.out _ _ ((KeepsOthers.alloc W _).from _) ⟨h1.alloc hsz _, by simp; omega, h3.alloc (by omega) _, a', L, C, h4.alloc (by omega) _, h5⟩ ⟨W.heap.size, rfl, h2, Arr.new W #[.int .i64 (mpos i k), .int .i64 (msz m k)] 65⟩
  case stop => intro D c W _ hf; exact absurd hf id
  case done =>
    rintro D W hD ⟨h1, h2, h3, _⟩ hK
    have hDW : D < W.heap.size := (Array.getElem?_eq_some_iff.1 hK).1
    rw [HMCL.out] at h3
    have hfl : (cells8 (mclimb i m b p)).length = 32 := by rw [← HMCL.out]; exact HMST.out _
    have hfo := one_cells8 (mclimb i m b p)
    obtain ⟨cf, hcf⟩ : ∃ c, cells8 (mclimb i m b p) = c := ⟨_, rfl⟩
    rw [hcf] at h3 hfl hfo
    have HCF := Lib.hid hcf
    have HZF : Hid ((Tryd.prog.info? 30).map (·.size) = some cf.length) := Lib.hid (by rw [hfl]; exact Tryd.info30)
    have HFL := Lib.hid hfl
    have HFO := Lib.hid hfo
    have H1 := Lib.hid h1
    have H3 := Lib.hid h3
    have HK := Lib.hid hK
    clear h1 h3 hfl hfo hcf hK
    go_wp2_with (first
      | (refine wpList_load_mid rfl 30 (.tmp 8) (by rfl) (w.heap.size + 1) 0 (by rfl) cf _ H3.out.at_ Tryd.underlying30 rfl HZF.out ?_)
      | (refine store_grown rfl 30 _ _ (by rfl) (w.heap.size + 1) cf _ (by rfl) (by rfl) H3.out rfl HZF.out HFO.out ?_
         intro WF hG hA
         have hsG := hG.size
         have hBF : Below w.heap.size w WF := H1.out.grown hG H1.out.size (fun k e => by cases e; omega)
         have hKF := heap_grown_other hG (by omega) HK.out
         have hPF : Below w5.heap.size WF (WF.putObj D (.deferred none)) := (Below.refl _ WF).grown (grownBy_putObj' WF D _) (by omega) (fun k e => by cases e; omega)
         have hAF : Arr (WF.putObj D (.deferred none)) (w.heap.size + 1) cf := hA.below hPF (by omega)
         have HBP := Lib.hid (hBF.trans (hPF.mono (by omega)))
         have HKF := Lib.hid hKF
         have HAF := Lib.hid hAF
         clear hG hA hBF hKF hPF hAF))
    refine ⟨by simp, .inl ⟨_, _, rfl, run_takeDeferred HKF.out, ?_⟩⟩
    exact ⟨_, results_cell_tmp rfl _ _ (w.heap.size + 1) cf _ (.int .i64 0) rfl rfl HAF.out.at_ Tryd.underlying30 rfl HZF.out, by rw [HCF.out], HBP.out⟩
  case body =>
    rintro lp k a' W hk ⟨h1, h2, h3, a', L, C, h4, h5, h6, h7, h8⟩ ⟨g', rfl, hg', h9⟩ hsW
    have g0 : W.cell? ⟨g', 0, none⟩ = some (.int .i64 (mpos i k)) := h9.cell rfl
    have g1 : W.cell? ⟨g', 1, none⟩ = some (.int .i64 (msz m k)) := h9.cell rfl
    have hgl := h9.lt (by simp)
    have hple := mpos_le i k
    have hcn : mcnt i m (k + 1) = mcnt i m k + (if alone (mpos i k) (msz m k) then 0 else 1) := rfl
    have hms : mst i m D0 p (k + 1) = if alone (mpos i k) (msz m k) then mst i m D0 p k else sha (stepT (mpos i k) (mst i m D0 p k) (p.getD (mcnt i m k) [])) := rfl
    have hml := HML.out k hk
    have HAL := Lib.hid (alone_any W (mpos i k) (msz m k) (by omega))
    have hl0 : (cells8 (mst i m D0 p k)).length = 32 := HMST.out k
    have hl1 : (cells8 (mst i m D0 p (k + 1))).length = 32 := HMST.out (k + 1)
    have hb1 := one_cells8 (mst i m D0 p (k + 1))
    have hd32 := mst_len i m HD032.out p k
    obtain ⟨B, hB⟩ : ∃ B, alone (mpos i k) (msz m k) = B := ⟨_, rfl⟩
    rw [hB] at hcn hms HAL
    obtain ⟨c1, hc1⟩ : ∃ c, mcnt i m (k + 1) = c := ⟨_, rfl⟩
    obtain ⟨c0, hc0⟩ : ∃ c, mcnt i m k = c := ⟨_, rfl⟩
    obtain ⟨d1, hd1⟩ : ∃ c, mst i m D0 p (k + 1) = c := ⟨_, rfl⟩
    obtain ⟨d0, hd0⟩ : ∃ c, mst i m D0 p k = c := ⟨_, rfl⟩
    rw [hc1, hc0] at hcn
    rw [hd1, hd0, hc0] at hms
    rw [hc0] at h5 h8
    rw [hc1] at hml
    rw [hd0] at h3 hl0 hd32
    rw [hd1] at hl1 hb1
    rw [hc1, hd1]
    have H1 := Lib.hid h1
    have H3 := Lib.hid h3
    have H4 := Lib.hid h4
    have H8 := Lib.hid h8
    have H9 := Lib.hid h9
    have HCN := Lib.hid hcn
    have HMS := Lib.hid hms
    have HDL := Lib.hid hl0
    have HRL := Lib.hid hl1
    have HOR := Lib.hid hb1
    have HD32 := Lib.hid hd32
    clear h1 h3 h4 h8 h9 hB hcn hms hc1 hc0 hd1 hd0 hl0 hl1 hb1 hd32
    gi_wp2_with fail
    refine ⟨trivial, ?_⟩
    refine ((callsIn_wide.2 HAL.out).inRound lp).mono ?_
    rintro e W1 ⟨rfl, hb1⟩
    have hs1 := hb1.size
    have H11 := Lib.hid (H1.out.trans (hb1.mono H1.out.size))
    have HA8 := Lib.hid (H3.out.below hb1 (by omega))
    have HA7 := Lib.hid (H4.out.below hb1 (by omega))
    have HA6 := Lib.hid (H9.out.below hb1 hgl)
    have HK1 := Lib.hid (KK.of (B := w5.heap.size) hb1)
    clear hb1 g0 g1 H1 H3 H4 H9
    cases B with
    | true =>
      have e1 : c1 = c0 := HCN.out
      have e2 : d1 = d0 := HMS.out
      gi_wp2_with fail
      exact ⟨HK1.out, trivial, H11.out, by omega, by rw [e2]; exact HA8.out, a', L, C, HA7.out, by omega, h6, h7, by rw [e1]; exact H8.out⟩
    | false =>
      have e1 : c1 = c0 + 1 := HCN.out
      have e2 : d1 = sha (stepT (mpos i k) d0 (p.getD c0 [])) := HMS.out
      have hL : 0 < L := by omega
      have ha' := H8.out hL
      subst ha'
      obtain ⟨hp32, hpr⟩ := HPR.out c0 (by omega)
      have hT1 := HT.out.below H11.out h0
      have HTX : Hid (∀ W', Obk [w.heap.size + 1] W1 W' → Calls Tryd.prog 53 #[.agg #[.int .i64 (mpos i k), .int .i64 (msz m k)], .agg (cells8 d0).toArray, .agg (cells8 (p.getD c0 [])).toArray] W' fun e w' => ∃ v', e = .returned v' ∧ BytesAt w' w'.heap.size v' (stepT (mpos i k) d0 (p.getD c0 [])) ∧ Below W'.heap.size W' w') :=
        Lib.hid fun W' hW => stepText_any W' (mpos i k) (msz m k) (by omega) d0 (p.getD c0 []) HD32.out hp32 (HT.out.below (H11.out.trans (hW.below (by omega) (by simp))) h0) (by have := hW.size; omega)
      have HSU : Hid (∀ W' v, Obk [w.heap.size + 1] W1 W' → BytesAt W' W'.heap.size v (stepT (mpos i k) d0 (p.getD c0 [])) → Calls Tryd.prog 27 #[v] W' fun e w' => e = .returned (.agg (cells8 d1).toArray) ∧ Below W'.heap.size W' w') :=
        Lib.hid fun W' v hW hv => by
          have h := sum_any W' v (stepT (mpos i k) d0 (p.getD c0 [])) (row_of hv (stepT_ne _ _ _)) (by rw [stepT_len, HD32.out, hp32]; omega) (HT.out.below (H11.out.trans (hW.below (by omega) (by simp))) h0) (by have := hW.size; omega)
          rw [e2, ← dv_eq]
          exact h
      have HZD : Hid ((Tryd.prog.info? 30).map (·.size) = some (cells8 d0).length) := Lib.hid (by rw [HDL.out]; exact Tryd.info30)
      have HZR : Hid ((Tryd.prog.info? 30).map (·.size) = some (cells8 d1).length) := Lib.hid (by rw [HRL.out]; exact Tryd.info30)
      have HZP : Hid ((Tryd.prog.info? 30).map (·.size) = some (cells8 (p.getD c0 [])).length) := Lib.hid (by rw [cells8_len, hp32]; exact Tryd.info30)
      obtain ⟨cd, hcd⟩ : ∃ c, cells8 d0 = c := ⟨_, rfl⟩
      obtain ⟨cr, hcr⟩ : ∃ c, cells8 d1 = c := ⟨_, rfl⟩
      obtain ⟨cp, hcp⟩ : ∃ c, cells8 (p.getD c0 []) = c := ⟨_, rfl⟩
      rw [hcd] at HTX HZD HA8 HDL
      rw [hcr] at HSU HZR HRL HOR
      have HCR := Lib.hid hcr
      rw [hcp] at HTX HZP hpr
      have AX : Hid (∀ W', Obk [w.heap.size + 1] W1 W' → W'.rangeAt g' 0 [.int .i64 (mpos i k), .int .i64 (msz m k)]) := Lib.hid fun W' hW => (hW.arr HA6.out (by omega) (by simp; omega)).at_
      have P7 : Hid (∀ W', Obk [w.heap.size + 1] W1 W' → W'.cell? ⟨w.heap.size, 0, none⟩ = some (.slice (some ⟨pb, poff + c0 * 32, none⟩) L C)) := Lib.hid fun W' hW => (hW.arr HA7.out (by omega) (by simp)).cell rfl
      have AP : Hid (∀ W', Obk [w.heap.size + 1] W1 W' → W'.rangeAt pb (poff + c0 * 32) cp) := Lib.hid fun W' hW j v hv => ((H11.out.trans (hW.below (B := w.heap.size) (by omega) (by simp))).cell (p := ⟨pb, poff + c0 * 32 + j, none⟩) hpb).trans (hpr j v hv)
      have hz8 : w.heap.size + 1 < W1.heap.size := by omega
      have q1 : (0 : Int) < (L : Int) := by omega
      have q2 : decide ((0 : Int) < (L : Int)) = true := by simp; omega
      clear hpr hp32 hcd hcr hcp hT1 H8
      have HE1 := Lib.hid e1
      clear e1 e2 HCN HMS
      gi_wp2_with fail
      refine wpIn_region_round (fun W => Obk [w.heap.size + 1] W1 W) (by kernel_rfl) (by kernel_rfl) (Obk.drew (Obk.refl _ _)) (fun KR hKR hHeld => ?_)
      refine wpAnyH_take (i := 0) (oi := c23a0) rfl (by kernel_rfl) (by kernel_rfl) (by kernel_rfl) (fun _ _ _ h => h) (yieldsIf_load_mid (by rfl) 65 (.tmp 10) (by rfl) g' 0 (by rfl) [.int .i64 (mpos i k), .int .i64 (msz m k)] _ (fun w hSw => AX.out w hSw) Tryd.underlying65 rfl Tryd.info65) hHeld ?_
      try simp only [c23a0, Act.put, List.setIfInBounds_toArray, List.set_cons_zero, List.set_cons_succ]
      refine wpAnyH_take (i := 2) (oi := c23a2) (v := ?_) rfl (by kernel_rfl) (by kernel_rfl) (by kernel_rfl) (fun _ _ _ h => h) (Or.inl ⟨by rfl, ?_⟩) hHeld ?_
      rotate_left
      · (intro w hSw; have f1 := P7.out w hSw; unfold c23a2; go_simp <;> with_reducible rfl)
      try simp only [c23a2, Act.put, List.setIfInBounds_toArray, List.set_cons_zero, List.set_cons_succ]
      refine wpAnyH_take (i := 3) (oi := c23a3) (v := ?_) rfl (by kernel_rfl) (by kernel_rfl) (by kernel_rfl) (fun _ _ _ h => h) (Or.inl ⟨by rfl, ?_⟩) hHeld ?_
      rotate_left
      · (intro w hSw; (try dsimp only at hSw); unfold c23a3; go_simp <;> with_reducible rfl)
      try simp only [c23a3, Act.put, List.setIfInBounds_toArray, List.set_cons_zero, List.set_cons_succ]
      refine wpAnyH_take (i := 4) (oi := c23a4) rfl (by kernel_rfl) (by kernel_rfl) (by kernel_rfl) (fun _ _ _ h => h) (yieldsIf_load_mid (by rfl) 30 (.tmp 36) (by rfl) pb (poff + c0 * 32) (by rfl) cp _ (fun w hSw => AP.out w hSw) Tryd.underlying30 rfl HZP.out) hHeld ?_
      try simp only [c23a4, Act.put, List.setIfInBounds_toArray, List.set_cons_zero, List.set_cons_succ]
      refine wpAnyH_ready (rs := [1]) (by kernel_rfl) (by simp) ?_
      refine AllReadyH.cons (o := c23a1) rfl (fun K hK => ?_) AllReadyH.nil
      rw [if_pos (by rfl)]
      refine wp_load_mid 30 (.tmp 8) (by rfl) (w.heap.size + 1) 0 (by rfl) cd _ HA8.out.drew.at_ Tryd.underlying30 rfl HZD.out ?_
      refine hK.out _ _ hHeld (fun hHeld => ?_)
      clear hK K
      try simp only [c23a1, Act.put, List.setIfInBounds_toArray, List.set_cons_zero, List.set_cons_succ]
      refine wpAnyH_ready (rs := [5]) (by kernel_rfl) (by simp) ?_
      refine AllReadyH.cons (o := c23a5) rfl (fun K hK => ?_) AllReadyH.nil
      rw [if_pos (by rfl)]
      unfold c23a5
      go_simp
      (with_reducible refine (HTX.out _ hHeld).mono ?_)
      rintro e W6 ⟨v6, rfl, hv6, hB6⟩
      have hS6 := hHeld.next hB6
      have hA6 := HA8.out.drew.below hB6 hz8
      have hz6 := Nat.lt_of_lt_of_le hz8 hB6.size
      go_wp2_with fail
      refine hK.out _ _ hS6 (fun hHeld => ?_)
      clear hK K
      try simp only [c23a5, Act.put, List.setIfInBounds_toArray, List.set_cons_zero, List.set_cons_succ]
      refine wpAnyH_ready (rs := [6]) (by kernel_rfl) (by simp) ?_
      refine AllReadyH.cons (o := c23a6) rfl (fun K hK => ?_) AllReadyH.nil
      rw [if_pos (by rfl)]
      unfold c23a6
      go_simp
      (with_reducible refine (HSU.out _ _ hHeld hv6).mono ?_)
      rintro e W7 ⟨rfl, hB7⟩
      have hS7 := hHeld.next hB7
      have hA7 := hA6.below hB7 hz6
      go_wp2_with fail
      refine hK.out _ _ hS7 (fun hHeld => ?_)
      clear hK K
      try simp only [c23a6, Act.put, List.setIfInBounds_toArray, List.set_cons_zero, List.set_cons_succ]
      refine wpAnyH_ready (rs := [7]) (by kernel_rfl) (by simp) ?_
      refine AllReadyH.cons (o := c23a7) rfl (fun K hK => ?_) AllReadyH.nil
      rw [if_pos (by rfl)]
      refine wp_st26 (.tmp 8) (.tmp 39) (by rfl) (w.heap.size + 1) cr _ (by rfl) (by rfl) hA7 (by rw [HRL.out, HDL.out]) HZR.out HOR.out ?_
      intro W8 hG8 hA8
      have hS8 := hHeld.moved hG8 (fun k e => by cases e; exact .inl (List.mem_singleton.2 rfl))
      refine hK.out _ _ hS8 (fun hHeld => ?_)
      clear hK K
      try simp only [c23a7, Act.put]
      refine wpAnyH_done (by kernel_rfl) ?_ _
      refine hKR _ _ ?_
      have HST := Lib.hid hHeld
      have HA8' := Lib.hid hA8
      clear hHeld hS6 hS7 hS8 hA6 hA7 hA8 hG8 hB6 hB7 hv6
      have hA9 := HST.out.arr HA7.out (by omega) (by simp)
      have c7 := hA9.cell (i := 0) rfl
      have f7 := hA9.frozen (i := 0) (by simp)
      have HA9 := Lib.hid hA9
      clear hA9
      have HH : Hid (KeepsFrom w5.heap.size W W8 ∧ Below w.heap.size w W8 ∧ w5.heap.size ≤ W8.heap.size) := Lib.hid (by
        have := HST.out.size
        exact ⟨HK1.out.trans (HST.out.keeps (by simp; omega)), H11.out.trans (HST.out.below (by omega) (by simp)), by omega⟩)
      gi_wp2_with fail
      all_goals
        refine ⟨HH.out.1.trans ((KeepsOthers.setCell _ _ _).from _), trivial, HH.out.2.1.setCell (Nat.le_refl _) _, by have := HH.out.2.2; simp; omega, ?_, _, _, _, HA9.out.set 0 _, ?_, ?_, ?_, fun h => ?_⟩
        · rw [HCR.out]; exact HA8'.out.other (by omega) 0 _
        · have := HE1.out; omega
        · omega
        · omega
      · omega
      · congr 2; have := HE1.out; omega
end Go.Proofs.YtfmngeemhfpeiaaDoor
