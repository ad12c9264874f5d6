/- The reference's climb. -/
import Derived.Test.YtnddejhbncgchaaDoorRpt
import Derived.Test.YtnddejhbncgchaaDoorClm
namespace Go.Proofs.YtnddejhbncgchaaDoor
open Go.RowKit

/-- What lay in w has not turned; the call's own three digests are there. -/
def SC2 (w : World) (cx : List Value) (bl : Nat) (cy : List Value) (W : World) : Prop := SC w cx W ∧ W.rangeAt bl 0 cy ∧ bl < W.heap.size ∧ w.heap.size + 1 < bl
theorem SC2.next {w W W' : World} {cx cy : List Value} {bl : Nat} (h : SC2 w cx bl cy W) (k : Below W.heap.size W W') : SC2 w cx bl cy W' :=
  ⟨h.1.next k, rng_moved h.2.1 (gbelow (row := none) k) h.2.2.1 (by simp), Nat.lt_of_lt_of_le h.2.2.1 k.size, h.2.2.2⟩
theorem SC2.drew {w W : World} {cx cy : List Value} {bl : Nat} (h : SC2 w cx bl cy W) : SC2 w cx bl cy W.drew := h.next ((Below.refl _ _).drew)
theorem SC2.set {w W : World} {cx cy : List Value} {bl : Nat} (h : SC2 w cx bl cy W) (cs : List Value) : SC2 w cx bl cy (W.setCells (w.heap.size + 1) 0 cs) :=
  ⟨h.1.set cs, rng_moved h.2.1 (grown_setCells cs 0 W) h.2.2.1 (by have := h.2.2.2; simp; omega), Nat.lt_of_lt_of_le h.2.2.1 (grown_setCells (b := w.heap.size + 1) cs 0 W).size, h.2.2.2⟩

def c45a0 : Oper := { dst := some 26, op := Go.Op.load 26 (Go.Operand.tmp 4), type := 26, pos := "ref.go:147", after := #[], guard := none }
def c45a1 : Oper := { dst := some 27, op := Go.Op.move (Go.Operand.tmp 1), type := 3, pos := "ref.go:147", after := #[], guard := none }
def c45a2 : Oper := { dst := some 28, op := Go.Op.move (Go.Operand.tmp 9), type := 3, pos := "ref.go:147", after := #[], guard := none }
def c45a3 : Oper := { dst := some 29, op := Go.Op.move (Go.Operand.tmp 3), type := 30, pos := "ref.go:147", after := #[], guard := none }
def c45a4 : Oper := { dst := some 30, op := Go.Op.move (Go.Operand.tmp 3), type := 30, pos := "ref.go:147", after := #[], guard := none }
def c45a5 : Oper := { dst := some 31, op := Go.Op.call { callee := Go.Callee.builtin Go.Builtin.len, args := #[Go.Operand.tmp 30], argTypes := #[30] }, type := 3, pos := "ref.go:147", after := #[{ on := 4, ground := Go.Ground.data }], guard := none }
def c45a6 : Oper := { dst := some 32, op := Go.Op.binOp Go.BinOp.sub 3 (Go.Operand.tmp 31) (Go.Operand.const (Go.Value.int Go.IntKind.i64 1)) 3, type := 3, pos := "ref.go:147", after := #[{ on := 5, ground := Go.Ground.data }], guard := none }
def c45a7 : Oper := { dst := some 33, op := Go.Op.slice 30 (Go.Operand.tmp 29) none (some (Go.Operand.tmp 32)) none, type := 30, pos := "ref.go:147", after := #[{ on := 3, ground := Go.Ground.data }, { on := 6, ground := Go.Ground.data }], guard := none }
def c45a8 : Oper := { dst := some 34, op := Go.Op.call { callee := Go.Callee.value (Go.Operand.func 45), args := #[Go.Operand.tmp 26, Go.Operand.tmp 27, Go.Operand.tmp 28, Go.Operand.tmp 33], argTypes := #[26, 3, 3, 30] }, type := 26, pos := "ref.go:147", after := #[{ on := 0, ground := Go.Ground.data }, { on := 1, ground := Go.Ground.data }, { on := 2, ground := Go.Ground.data }, { on := 7, ground := Go.Ground.data }], guard := none }
def c45a9 : Oper := { dst := some 35, op := Go.Op.load 26 (Go.Operand.tmp 10), type := 26, pos := "ref.go:147", after := #[], guard := none }
def c45a10 : Oper := { dst := some 36, op := Go.Op.call { callee := Go.Callee.value (Go.Operand.func 39), args := #[Go.Operand.tmp 34, Go.Operand.tmp 35], argTypes := #[26, 26] }, type := 26, pos := "ref.go:147", after := #[{ on := 8, ground := Go.Ground.data }, { on := 9, ground := Go.Ground.data }, { on := 8, ground := Go.Ground.chain }], guard := none }
def c45a11 : Oper := { dst := none, op := Go.Op.store 26 (Go.Operand.tmp 8) (Go.Operand.tmp 36), type := 0, pos := "ref.go:147", after := #[{ on := 10, ground := Go.Ground.data }, { on := 10, ground := Go.Ground.chain }, { on := 0, ground := Go.Ground.phase }, { on := 1, ground := Go.Ground.phase }, { on := 2, ground := Go.Ground.phase }, { on := 3, ground := Go.Ground.phase }, { on := 4, ground := Go.Ground.phase }, { on := 5, ground := Go.Ground.phase }, { on := 6, ground := Go.Ground.phase }, { on := 7, ground := Go.Ground.phase }, { on := 8, ground := Go.Ground.phase }, { on := 9, ground := Go.Ground.phase }, { on := 10, ground := Go.Ground.phase }], guard := none }
def c45b0 : Oper := { dst := some 37, op := Go.Op.load 26 (Go.Operand.tmp 10), type := 26, pos := "ref.go:149", after := #[], guard := none }
def c45b1 : Oper := { dst := some 38, op := Go.Op.load 26 (Go.Operand.tmp 4), type := 26, pos := "ref.go:149", after := #[], guard := none }
def c45b2 : Oper := { dst := some 39, op := Go.Op.move (Go.Operand.tmp 1), type := 3, pos := "ref.go:149", after := #[], guard := none }
def c45b3 : Oper := { dst := some 40, op := Go.Op.move (Go.Operand.tmp 9), type := 3, pos := "ref.go:149", after := #[], guard := none }
def c45b4 : Oper := { dst := some 41, op := Go.Op.binOp Go.BinOp.sub 3 (Go.Operand.tmp 39) (Go.Operand.tmp 40) 3, type := 3, pos := "ref.go:149", after := #[{ on := 2, ground := Go.Ground.data }, { on := 3, ground := Go.Ground.data }], guard := none }
def c45b5 : Oper := { dst := some 42, op := Go.Op.move (Go.Operand.tmp 2), type := 3, pos := "ref.go:149", after := #[], guard := none }
def c45b6 : Oper := { dst := some 43, op := Go.Op.move (Go.Operand.tmp 9), type := 3, pos := "ref.go:149", after := #[], guard := none }
def c45b7 : Oper := { dst := some 44, op := Go.Op.binOp Go.BinOp.sub 3 (Go.Operand.tmp 42) (Go.Operand.tmp 43) 3, type := 3, pos := "ref.go:149", after := #[{ on := 5, ground := Go.Ground.data }, { on := 6, ground := Go.Ground.data }], guard := none }
def c45b8 : Oper := { dst := some 45, op := Go.Op.move (Go.Operand.tmp 3), type := 30, pos := "ref.go:149", after := #[], guard := none }
def c45b9 : Oper := { dst := some 46, op := Go.Op.move (Go.Operand.tmp 3), type := 30, pos := "ref.go:149", after := #[], guard := none }
def c45b10 : Oper := { dst := some 47, op := Go.Op.call { callee := Go.Callee.builtin Go.Builtin.len, args := #[Go.Operand.tmp 46], argTypes := #[30] }, type := 3, pos := "ref.go:149", after := #[{ on := 9, ground := Go.Ground.data }], guard := none }
def c45b11 : Oper := { dst := some 48, op := Go.Op.binOp Go.BinOp.sub 3 (Go.Operand.tmp 47) (Go.Operand.const (Go.Value.int Go.IntKind.i64 1)) 3, type := 3, pos := "ref.go:149", after := #[{ on := 10, ground := Go.Ground.data }], guard := none }
def c45b12 : Oper := { dst := some 49, op := Go.Op.slice 30 (Go.Operand.tmp 45) none (some (Go.Operand.tmp 48)) none, type := 30, pos := "ref.go:149", after := #[{ on := 8, ground := Go.Ground.data }, { on := 11, ground := Go.Ground.data }], guard := none }
def c45b13 : Oper := { dst := some 50, op := Go.Op.call { callee := Go.Callee.value (Go.Operand.func 45), args := #[Go.Operand.tmp 38, Go.Operand.tmp 41, Go.Operand.tmp 44, Go.Operand.tmp 49], argTypes := #[26, 3, 3, 30] }, type := 26, pos := "ref.go:149", after := #[{ on := 1, ground := Go.Ground.data }, { on := 4, ground := Go.Ground.data }, { on := 7, ground := Go.Ground.data }, { on := 12, ground := Go.Ground.data }], guard := none }
def c45b14 : Oper := { dst := some 51, op := Go.Op.call { callee := Go.Callee.value (Go.Operand.func 39), args := #[Go.Operand.tmp 37, Go.Operand.tmp 50], argTypes := #[26, 26] }, type := 26, pos := "ref.go:149", after := #[{ on := 0, ground := Go.Ground.data }, { on := 13, ground := Go.Ground.data }, { on := 13, ground := Go.Ground.chain }], guard := none }
def c45b15 : Oper := { dst := none, op := Go.Op.store 26 (Go.Operand.tmp 8) (Go.Operand.tmp 51), type := 0, pos := "ref.go:149", after := #[{ on := 14, ground := Go.Ground.data }, { on := 14, ground := Go.Ground.chain }, { on := 0, ground := Go.Ground.phase }, { on := 1, ground := Go.Ground.phase }, { on := 2, ground := Go.Ground.phase }, { on := 3, ground := Go.Ground.phase }, { on := 4, ground := Go.Ground.phase }, { on := 5, ground := Go.Ground.phase }, { on := 6, ground := Go.Ground.phase }, { on := 7, ground := Go.Ground.phase }, { on := 8, ground := Go.Ground.phase }, { on := 9, ground := Go.Ground.phase }, { on := 10, ground := Go.Ground.phase }, { on := 11, ground := Go.Ground.phase }, { on := 12, ground := Go.Ground.phase }, { on := 13, ground := Go.Ground.phase }, { on := 14, ground := Go.Ground.phase }], guard := none }
set_option maxRecDepth 100000 in
set_option maxHeartbeats 2000000 in
theorem rclimb_one (w : World) (d : List UInt8) (hd : d.length = 32) (i : Int) (a : Option Addr) (n cap : Nat) :
    Calls Tryd.prog 45 #[dv d, .int .i64 i, .int .i64 1, .slice a n cap] w fun e w' => e = .returned (dv (tree [d])) ∧ Below w.heap.size w w' := by
  obtain ⟨cs2, hcs2⟩ : ∃ cs2, cells8 (tree [d]) = cs2 := ⟨_, rfl⟩
  have hcl2 : cs2.length = 32 := by rw [← hcs2, cells8_len, tree_len]
  have ho2 : ∀ v ∈ cs2, v.oneCell' = true := by rw [← hcs2]; exact one_cells8 _
  have hz2 : (Tryd.prog.info? 26).map (·.size) = some cs2.length := by rw [hcl2]; exact Tryd.info26
  obtain ⟨cx, hcx⟩ : ∃ cx, cells8 d = cx := ⟨_, rfl⟩
  have hlf : ∀ W : World, W.rangeAt w.heap.size 0 cx → w.heap.size < W.heap.size → Calls Tryd.prog 15 #[.string ⟨#[108, 101, 97, 102]⟩, .slice (some ⟨w.heap.size, 0, none⟩) 32 32] W fun e w' => e = .returned (.agg cs2.toArray) ∧ Below W.heap.size W w' := fun W hR hlt => by
    have hby : BytesIn W w.heap.size 0 d := fun i hi => hR i _ (by rw [← hcx, List.getElem?_eq_getElem (by rw [cells8_len]; exact hi)]; simp [cells8])
    have h := rtagged_any W ⟨#[108, 101, 97, 102]⟩ (.slice (some ⟨w.heap.size, 0, none⟩) 32 32) d ⟨some ⟨w.heap.size, 0, none⟩, 32, by rw [hd], by rw [hd]; omega, by unfold maxLen; omega, .inr ⟨w.heap.size, 0, rfl, hlt, hby⟩⟩ (by decide) (by omega)
    have e : cells8 (tagged (⟨#[108, 101, 97, 102]⟩ : ByteArray).data.toList d) = cs2 := hcs2
    rwa [dv_eq, e] at h
  have hlx : cx.length = 32 := by rw [← hcx, cells8_len, hd]
  rw [show dv (tree [d]) = .agg cs2.toArray by rw [dv_eq, hcs2], show dv d = .agg cx.toArray by rw [dv_eq, hcx]]
  have HLF := Lib.hid hlf
  have HO2 := Lib.hid ho2
  have HCL2 := Lib.hid hcl2
  have HZ2 := Lib.hid hz2
  have HZX : Hid ((Tryd.prog.info? 26).map (·.size) = some cx.length) := by show _ = _; rw [hlx]; exact Tryd.info26
  clear hlf ho2 hcl2 hz2 hcs2 hlx hcx hd
  go_enter Tryd.func45, Tryd.ntmps45
  go_wp2_with (first
    | (refine wpList_world (fun W => Below w.heap.size w W ∧ W.rangeAt w.heap.size 0 cx ∧ Arr W (w.heap.size + 1) (cells8 (List.replicate 32 0)) ∧ w.heap.size + 1 < W.heap.size) ⟨by go_grown, box_a w cx, box_b w cx, by simp⟩ ?_
       rintro W0 ⟨hB0, hX0, hD0, hz0⟩
       have HB0 := Lib.hid hB0
       have HX0 := Lib.hid hX0
       have HD0 := Lib.hid hD0
       clear hB0 hX0 hD0)
    | fail)
  refine (HLF.out W0 HX0.out (by omega)).mono ?_
  rintro e w6 ⟨rfl, hB6⟩
  have hk6 : Below w.heap.size w w6 := HB0.out.trans (hB6.mono HB0.out.size)
  have hD6 := HD0.out.below hB6 hz0
  have HK6 := Lib.hid hk6
  have HD6 := Lib.hid hD6
  clear hB6 hk6 hD6
  go_wp2_with (refine store_new rfl 26 _ _ (by rfl) w.heap.size (w.heap.size + 1) cs2 _ (by rfl) (by rfl) HK6.out (by omega) HD6.out (by rw [HCL2.out]; rfl) HZ2.out HO2.out ?_; intro W7 hB7 hA7 hz7)
  refine bodyPost_ret (results_cell_mid rfl _ _ _ _ _ rfl hA7.at_ Tryd.underlying26 rfl HZ2.out) rfl ?_
  exact ⟨rfl, hB7⟩


set_option maxRecDepth 100000 in
set_option maxHeartbeats 4000000 in
theorem rclimb_lt (w : World) (d x y z : List UInt8) (hd : d.length = 32) (hx : x.length = 32) (hy : y.length = 32) (i n k m db off cap : Nat) (hn1 : 1 < n) (hn : n ≤ 1099511627776) (hk : spl n = k) (hi : i < k) (hz : z = tagged tNode (x ++ y)) (hmc : m + 1 ≤ cap) (hcm : cap ≤ maxLen)
    (hr : w.rangeAt db (off + m * 32) (cells8 y)) (hdb : db < w.heap.size)
    (h1 : ∀ W, Below w.heap.size w W → Calls Tryd.prog 45 #[dv d, .int .i64 i, .int .i64 k, .slice (some ⟨db, off, none⟩) m cap] W fun e w' => e = .returned (dv x) ∧ Below W.heap.size W w') :
    Calls Tryd.prog 45 #[dv d, .int .i64 i, .int .i64 n, .slice (some ⟨db, off, none⟩) (m + 1) cap] w fun e w' => e = .returned (dv z) ∧ Below w.heap.size w w' := by
  obtain ⟨hk0, hkn, _⟩ := spl_bound n hn1 hn
  rw [hk] at hk0 hkn
  obtain ⟨cs2, hcs2⟩ : ∃ cs2, cells8 z = cs2 := ⟨_, rfl⟩
  have hcl2 : cs2.length = 32 := by rw [← hcs2, cells8_len, hz, tagged_len]
  have ho2 : ∀ v ∈ cs2, v.oneCell' = true := by rw [← hcs2]; exact one_cells8 _
  have hz2 : (Tryd.prog.info? 26).map (·.size) = some cs2.length := by rw [hcl2]; exact Tryd.info26
  obtain ⟨cd, hcd⟩ : ∃ cd, cells8 d = cd := ⟨_, rfl⟩
  obtain ⟨cx, hcx⟩ : ∃ cx, cells8 x = cx := ⟨_, rfl⟩
  obtain ⟨cy, hcy⟩ : ∃ cy, cells8 y = cy := ⟨_, rfl⟩
  have hzd : (Tryd.prog.info? 26).map (·.size) = some cd.length := by rw [← hcd, cells8_len, hd]; exact Tryd.info26
  have hzy : (Tryd.prog.info? 26).map (·.size) = some cy.length := by rw [← hcy, cells8_len, hy]; exact Tryd.info26
  have HLY : Hid (cy.length = 32) := Lib.hid (by rw [← hcy, cells8_len, hy])
  have HOY : Hid (∀ v ∈ cy, v.oneCell' = true) := Lib.hid (by rw [← hcy]; exact one_cells8 _)
  have hnd : ∀ W : World, Calls Tryd.prog 39 #[.agg cx.toArray, .agg cy.toArray] W fun e w' => e = .returned (.agg cs2.toArray) ∧ Below W.heap.size W w' := fun W => by
    have h := rnode_any W x y hx hy
    rw [dv_eq, dv_eq, ← hz, dv_eq, hcx, hcy, hcs2] at h
    exact h
  have hcl : ∀ W : World, Below w.heap.size w W → Calls Tryd.prog 45 #[.agg cd.toArray, .int .i64 i, .int .i64 k, .slice (some ⟨db, off, none⟩) m cap] W fun e w' => e = .returned (.agg cx.toArray) ∧ Below W.heap.size W w' := fun W hS => by
    have h := h1 W hS
    rw [dv_eq, dv_eq, hcx, hcd] at h
    exact h
  have hry : ∀ W : World, SC w cd W → W.rangeAt db (off + m * 32) cy := fun W hS j v hv => (hS.1.cell (p := ⟨db, off + m * 32 + j, none⟩) hdb).trans (hr j v (by rw [hcy]; exact hv))
  have hsp := rhalf_any n hn1 hn
  rw [hk] at hsp
  rw [show dv z = .agg cs2.toArray by rw [dv_eq, hcs2], show dv d = .agg cd.toArray by rw [dv_eq, hcd]]
  have HND := Lib.hid hnd
  have HCLB := Lib.hid hcl
  have HRY := Lib.hid hry
  have HSP := Lib.hid hsp
  have HO2 := Lib.hid ho2
  have HCL2 := Lib.hid hcl2
  have HZ2 := Lib.hid hz2
  have HZD := Lib.hid hzd
  have HZY := Lib.hid hzy
  unfold maxLen at hcm
  have d1 : ((n : Int) == 1) = false := by simp; omega
  have e1 : decide ((n : Int) = 1) = false := by simp; omega
  have d2 : decide (i < k) = true := by simp; omega
  have f2 : ((m : Nat) : Int) ≤ (cap : Int) := by omega
  have f3 : ((m : Nat) : Int) < ((m + 1 : Nat) : Int) := by omega
  have f5 : (m : Int) < (m : Int) + 1 := by omega
  have f4 : (0 : Int) ≤ (m : Int) := by omega
  have q1 : ((m + 1 : Nat) : Int) - 1 = (m : Int) := by omega
  have q4 : IntKind.i64.wrap (m : Int) = (m : Int) := by rw [IntKind.wrap_i64]; omega
  clear hnd hcl hry hsp ho2 hcl2 hz2 hzd hzy hcs2 h1 hz hx hy hd hcx hcy hk hr
  go_enter Tryd.func45, Tryd.ntmps45
  go_wp2_with (first
    | (refine wpList_world (fun W => SC w cd W) ⟨by go_grown, box_a w cd, (box_b w cd).there, by simp⟩ ?_
       rintro W0 hS0
       have HS0 := Lib.hid hS0
       clear hS0)
    | (go_at_call 38; refine (HSP.out _).mono ?_; rintro e w' ⟨rfl, hw'⟩; rw [hw']; clear hw' w')
    | (refine wpList_load_mid rfl 26 (.tmp 21) (by rfl) db (off + m * 32) (by rfl) cy _ (HRY.out W0 HS0.out) Tryd.underlying26 rfl HZY.out ?_; simp only [Act.put, List.setIfInBounds_toArray, List.set_cons_zero, List.set_cons_succ])
    | (refine store_new rfl 26 _ _ (by rfl) W0.heap.size W0.heap.size cy _ (by rfl) (by rfl) ((Below.refl W0.heap.size W0).alloc (Nat.le_refl _) _) (Nat.le_refl _) (Arr.new W0 _ 26) (by rw [HLY.out]; rfl) HZY.out HOY.out ?_; intro W3 hB3 hA3 hz3; simp only [Act.put]))
  have hz3' : W0.heap.size < W3.heap.size := by simp at hz3; omega
  have hS3 : SC2 w cd W0.heap.size cy W3 := ⟨HS0.out.next hB3, hA3.at_, hz3', HS0.out.2.2.2⟩
  obtain ⟨bl, hbl⟩ : ∃ bl, W0.heap.size = bl := ⟨_, rfl⟩
  rw [hbl] at hS3 ⊢
  clear hbl hz3' hz3 hA3 hB3 HS0
  refine wp_region_held_drew (S := fun W => SC2 w cd bl cy W) (by kernel_rfl) (SC2.drew hS3) (fun hHeld => ?_)
  refine wpAnyH_take (i := 0) (oi := c45a0) rfl (by kernel_rfl) (by kernel_rfl) (by kernel_rfl) (fun _ _ _ h => h) (yieldsIf_load_mid (by rfl) 26 (.tmp 4) (by rfl) w.heap.size 0 (by rfl) cd _ (fun W h => h.1.2.1) Tryd.underlying26 rfl HZD.out) hHeld ?_
  try simp only [c45a0, Act.put, List.setIfInBounds_toArray, List.set_cons_zero, List.set_cons_succ]
  refine wpAnyH_take (i := 1) (oi := c45a1) (v := ?_) rfl (by kernel_rfl) (by kernel_rfl) (by kernel_rfl) (fun _ _ _ h => h) (Or.inl ⟨by rfl, ?_⟩) hHeld ?_
  rotate_left
  · (intro w hSw; (try dsimp only at hSw); unfold c45a1; go_simp <;> with_reducible rfl)
  try simp only [c45a1, Act.put, List.setIfInBounds_toArray, List.set_cons_zero, List.set_cons_succ]
  refine wpAnyH_take (i := 2) (oi := c45a2) (v := ?_) rfl (by kernel_rfl) (by kernel_rfl) (by kernel_rfl) (fun _ _ _ h => h) (Or.inl ⟨by rfl, ?_⟩) hHeld ?_
  rotate_left
  · (intro w hSw; (try dsimp only at hSw); unfold c45a2; go_simp <;> with_reducible rfl)
  try simp only [c45a2, Act.put, List.setIfInBounds_toArray, List.set_cons_zero, List.set_cons_succ]
  refine wpAnyH_take (i := 3) (oi := c45a3) (v := ?_) rfl (by kernel_rfl) (by kernel_rfl) (by kernel_rfl) (fun _ _ _ h => h) (Or.inl ⟨by rfl, ?_⟩) hHeld ?_
  rotate_left
  · (intro w hSw; (try dsimp only at hSw); unfold c45a3; go_simp <;> with_reducible rfl)
  try simp only [c45a3, Act.put, List.setIfInBounds_toArray, List.set_cons_zero, List.set_cons_succ]
  refine wpAnyH_take (i := 4) (oi := c45a4) (v := ?_) rfl (by kernel_rfl) (by kernel_rfl) (by kernel_rfl) (fun _ _ _ h => h) (Or.inl ⟨by rfl, ?_⟩) hHeld ?_
  rotate_left
  · (intro w hSw; (try dsimp only at hSw); unfold c45a4; go_simp <;> with_reducible rfl)
  try simp only [c45a4, Act.put, List.setIfInBounds_toArray, List.set_cons_zero, List.set_cons_succ]
  refine wpAnyH_take (i := 5) (oi := c45a5) (v := ?_) rfl (by kernel_rfl) (by kernel_rfl) (by kernel_rfl) (fun _ _ _ h => h) (Or.inl ⟨by rfl, ?_⟩) hHeld ?_
  rotate_left
  · (intro w hSw; (try dsimp only at hSw); unfold c45a5; go_simp <;> with_reducible rfl)
  try simp only [c45a5, Act.put, List.setIfInBounds_toArray, List.set_cons_zero, List.set_cons_succ]
  refine wpAnyH_take (i := 6) (oi := c45a6) (v := ?_) rfl (by kernel_rfl) (by kernel_rfl) (by kernel_rfl) (fun _ _ _ h => h) (Or.inl ⟨by rfl, ?_⟩) hHeld ?_
  rotate_left
  · (intro w hSw; (try dsimp only at hSw); unfold c45a6; go_simp <;> with_reducible rfl)
  try simp only [c45a6, Act.put, List.setIfInBounds_toArray, List.set_cons_zero, List.set_cons_succ]
  refine wpAnyH_take (i := 7) (oi := c45a7) (v := ?_) rfl (by kernel_rfl) (by kernel_rfl) (by kernel_rfl) (fun _ _ _ h => h) (Or.inl ⟨by rfl, ?_⟩) hHeld ?_
  rotate_left
  · (intro w hSw; (try dsimp only at hSw); unfold c45a7; go_simp <;> with_reducible rfl)
  try simp only [c45a7, Act.put, List.setIfInBounds_toArray, List.set_cons_zero, List.set_cons_succ]
  refine wpAnyH_take (i := 9) (oi := c45a9) rfl (by kernel_rfl) (by kernel_rfl) (by kernel_rfl) (fun _ _ _ h => h) (yieldsIf_load_mid (by rfl) 26 (.tmp 10) (by rfl) bl 0 (by rfl) cy _ (fun W h => h.2.1) Tryd.underlying26 rfl HZY.out) hHeld ?_
  try simp only [c45a9, Act.put, List.setIfInBounds_toArray, List.set_cons_zero, List.set_cons_succ]
  refine wpAnyH_ready (rs := [8]) (by kernel_rfl) (by simp) ?_
  refine AllReadyH.cons (o := c45a8) rfl (fun K hK => ?_) AllReadyH.nil
  rw [if_pos (by rfl)]
  unfold c45a8
  go_simp
  refine (HCLB.out _ hHeld.1.1).mono ?_
  rintro e w1 ⟨rfl, hB_w1⟩
  have hS_w1 := hHeld.next hB_w1
  go_wp2_with fail
  refine hK.out _ _ hS_w1 (fun hHeld => ?_)
  clear hK K
  try simp only [c45a8, Act.put, List.setIfInBounds_toArray, List.set_cons_zero, List.set_cons_succ]
  refine wpAnyH_ready (rs := [10]) (by kernel_rfl) (by simp) ?_
  refine AllReadyH.cons (o := c45a10) rfl (fun K hK => ?_) AllReadyH.nil
  rw [if_pos (by rfl)]
  unfold c45a10
  go_simp
  refine (HND.out _).mono ?_
  rintro e w2 ⟨rfl, hB_w2⟩
  have hS_w2 := hHeld.next hB_w2
  go_wp2_with fail
  refine hK.out _ _ hS_w2 (fun hHeld => ?_)
  clear hK K
  try simp only [c45a10, Act.put, List.setIfInBounds_toArray, List.set_cons_zero, List.set_cons_succ]
  refine wpAnyH_ready (rs := [11]) (by kernel_rfl) (by simp) ?_
  refine AllReadyH.cons (o := c45a11) rfl (fun K hK => ?_) AllReadyH.nil
  rw [if_pos (by rfl)]
  refine wp_store_mid 26 _ _ (by rfl) (w.heap.size + 1) 0 (List.toArray cs2) (by rfl) (by rfl) (by have h := hHeld.1.2.2.1; rw [← HCL2.out] at h; exact h) (by simpa using HZ2.out) (all_oneCell_toArray HO2.out) ?_
  refine hK.out _ _ (by rw [List.toList_toArray]; exact hHeld.set cs2) (fun hHeld => ?_)
  clear hK K
  try simp only [c45a11, Act.put]
  refine wpAnyH_done (by kernel_rfl) ?_ _
  have hst := World.rangeAt_setCells_same w2 (w.heap.size + 1) 0 cs2 (by rw [HCL2.out]; exact hS_w2.1.2.2.1)
  have HST := Lib.hid hst
  have HSF := Lib.hid (hS_w2.1.set cs2).1
  clear hst hHeld hS_w2 hS_w1 hB_w1 hB_w2
  go_wp2
  refine bodyPost_ret (results_cell_mid rfl _ _ _ _ _ rfl HST.out Tryd.underlying26 rfl HZ2.out) rfl ?_
  exact ⟨rfl, HSF.out⟩

set_option maxRecDepth 100000 in
set_option maxHeartbeats 4000000 in
theorem rclimb_ge (w : World) (d x y z : List UInt8) (hd : d.length = 32) (hx : x.length = 32) (hy : y.length = 32) (i n k m db off cap : Nat) (hn1 : 1 < n) (hn : n ≤ 1099511627776) (hk : spl n = k) (hin : i < n) (hi : k ≤ i) (hz : z = tagged tNode (y ++ x)) (hmc : m + 1 ≤ cap) (hcm : cap ≤ maxLen)
    (hr : w.rangeAt db (off + m * 32) (cells8 y)) (hdb : db < w.heap.size)
    (h1 : ∀ W, Below w.heap.size w W → Calls Tryd.prog 45 #[dv d, .int .i64 ((i : Int) - (k : Int)), .int .i64 ((n : Int) - (k : Int)), .slice (some ⟨db, off, none⟩) m cap] W fun e w' => e = .returned (dv x) ∧ Below W.heap.size W w') :
    Calls Tryd.prog 45 #[dv d, .int .i64 i, .int .i64 n, .slice (some ⟨db, off, none⟩) (m + 1) cap] w fun e w' => e = .returned (dv z) ∧ Below w.heap.size w w' := by
  obtain ⟨hk0, hkn, _⟩ := spl_bound n hn1 hn
  rw [hk] at hk0 hkn
  obtain ⟨cs2, hcs2⟩ : ∃ cs2, cells8 z = cs2 := ⟨_, rfl⟩
  have hcl2 : cs2.length = 32 := by rw [← hcs2, cells8_len, hz, tagged_len]
  have ho2 : ∀ v ∈ cs2, v.oneCell' = true := by rw [← hcs2]; exact one_cells8 _
  have hz2 : (Tryd.prog.info? 26).map (·.size) = some cs2.length := by rw [hcl2]; exact Tryd.info26
  obtain ⟨cd, hcd⟩ : ∃ cd, cells8 d = cd := ⟨_, rfl⟩
  obtain ⟨cx, hcx⟩ : ∃ cx, cells8 x = cx := ⟨_, rfl⟩
  obtain ⟨cy, hcy⟩ : ∃ cy, cells8 y = cy := ⟨_, rfl⟩
  have hzd : (Tryd.prog.info? 26).map (·.size) = some cd.length := by rw [← hcd, cells8_len, hd]; exact Tryd.info26
  have hzy : (Tryd.prog.info? 26).map (·.size) = some cy.length := by rw [← hcy, cells8_len, hy]; exact Tryd.info26
  have HLY : Hid (cy.length = 32) := Lib.hid (by rw [← hcy, cells8_len, hy])
  have HOY : Hid (∀ v ∈ cy, v.oneCell' = true) := Lib.hid (by rw [← hcy]; exact one_cells8 _)
  have hnd : ∀ W : World, Calls Tryd.prog 39 #[.agg cy.toArray, .agg cx.toArray] W fun e w' => e = .returned (.agg cs2.toArray) ∧ Below W.heap.size W w' := fun W => by
    have h := rnode_any W y x hy hx
    rw [dv_eq, dv_eq, ← hz, dv_eq, hcx, hcy, hcs2] at h
    exact h
  have hcl : ∀ W : World, Below w.heap.size w W → Calls Tryd.prog 45 #[.agg cd.toArray, .int .i64 ((i : Int) - (k : Int)), .int .i64 ((n : Int) - (k : Int)), .slice (some ⟨db, off, none⟩) m cap] W fun e w' => e = .returned (.agg cx.toArray) ∧ Below W.heap.size W w' := fun W hS => by
    have h := h1 W hS
    rw [dv_eq, dv_eq, hcx, hcd] at h
    exact h
  have hry : ∀ W : World, SC w cd W → W.rangeAt db (off + m * 32) cy := fun W hS j v hv => (hS.1.cell (p := ⟨db, off + m * 32 + j, none⟩) hdb).trans (hr j v (by rw [hcy]; exact hv))
  have hsp := rhalf_any n hn1 hn
  rw [hk] at hsp
  rw [show dv z = .agg cs2.toArray by rw [dv_eq, hcs2], show dv d = .agg cd.toArray by rw [dv_eq, hcd]]
  have HND := Lib.hid hnd
  have HCLB := Lib.hid hcl
  have HRY := Lib.hid hry
  have HSP := Lib.hid hsp
  have HO2 := Lib.hid ho2
  have HCL2 := Lib.hid hcl2
  have HZ2 := Lib.hid hz2
  have HZD := Lib.hid hzd
  have HZY := Lib.hid hzy
  unfold maxLen at hcm
  have d1 : ((n : Int) == 1) = false := by simp; omega
  have e1 : decide ((n : Int) = 1) = false := by simp; omega
  have d2 : decide (i < k) = false := by simp; omega
  have f2 : ((m : Nat) : Int) ≤ (cap : Int) := by omega
  have f3 : ((m : Nat) : Int) < ((m + 1 : Nat) : Int) := by omega
  have f5 : (m : Int) < (m : Int) + 1 := by omega
  have f4 : (0 : Int) ≤ (m : Int) := by omega
  have q1 : ((m + 1 : Nat) : Int) - 1 = (m : Int) := by omega
  have q4 : IntKind.i64.wrap (m : Int) = (m : Int) := by rw [IntKind.wrap_i64]; omega
  have q2 : IntKind.i64.wrap ((i : Int) - (k : Int)) = (i : Int) - (k : Int) := by rw [IntKind.wrap_i64]; omega
  have q3 : IntKind.i64.wrap ((n : Int) - (k : Int)) = (n : Int) - (k : Int) := by rw [IntKind.wrap_i64]; omega
  clear hnd hcl hry hsp ho2 hcl2 hz2 hzd hzy hcs2 h1 hz hx hy hd hcx hcy hk hr
  go_enter Tryd.func45, Tryd.ntmps45
  go_wp2_with (first
    | (refine wpList_world (fun W => SC w cd W) ⟨by go_grown, box_a w cd, (box_b w cd).there, by simp⟩ ?_
       rintro W0 hS0
       have HS0 := Lib.hid hS0
       clear hS0)
    | (go_at_call 38; refine (HSP.out _).mono ?_; rintro e w' ⟨rfl, hw'⟩; rw [hw']; clear hw' w')
    | (refine wpList_load_mid rfl 26 (.tmp 21) (by rfl) db (off + m * 32) (by rfl) cy _ (HRY.out W0 HS0.out) Tryd.underlying26 rfl HZY.out ?_; simp only [Act.put, List.setIfInBounds_toArray, List.set_cons_zero, List.set_cons_succ])
    | (refine store_new rfl 26 _ _ (by rfl) W0.heap.size W0.heap.size cy _ (by rfl) (by rfl) ((Below.refl W0.heap.size W0).alloc (Nat.le_refl _) _) (Nat.le_refl _) (Arr.new W0 _ 26) (by rw [HLY.out]; rfl) HZY.out HOY.out ?_; intro W3 hB3 hA3 hz3; simp only [Act.put]))
  have hz3' : W0.heap.size < W3.heap.size := by simp at hz3; omega
  have hS3 : SC2 w cd W0.heap.size cy W3 := ⟨HS0.out.next hB3, hA3.at_, hz3', HS0.out.2.2.2⟩
  obtain ⟨bl, hbl⟩ : ∃ bl, W0.heap.size = bl := ⟨_, rfl⟩
  rw [hbl] at hS3 ⊢
  clear hbl hz3' hz3 hA3 hB3 HS0
  refine wp_region_held_drew (S := fun W => SC2 w cd bl cy W) (by kernel_rfl) (SC2.drew hS3) (fun hHeld => ?_)
  refine wpAnyH_take (i := 0) (oi := c45b0) rfl (by kernel_rfl) (by kernel_rfl) (by kernel_rfl) (fun _ _ _ h => h) (yieldsIf_load_mid (by rfl) 26 (.tmp 10) (by rfl) bl 0 (by rfl) cy _ (fun W h => h.2.1) Tryd.underlying26 rfl HZY.out) hHeld ?_
  try simp only [c45b0, Act.put, List.setIfInBounds_toArray, List.set_cons_zero, List.set_cons_succ]
  refine wpAnyH_take (i := 1) (oi := c45b1) rfl (by kernel_rfl) (by kernel_rfl) (by kernel_rfl) (fun _ _ _ h => h) (yieldsIf_load_mid (by rfl) 26 (.tmp 4) (by rfl) w.heap.size 0 (by rfl) cd _ (fun W h => h.1.2.1) Tryd.underlying26 rfl HZD.out) hHeld ?_
  try simp only [c45b1, Act.put, List.setIfInBounds_toArray, List.set_cons_zero, List.set_cons_succ]
  refine wpAnyH_take (i := 2) (oi := c45b2) (v := ?_) rfl (by kernel_rfl) (by kernel_rfl) (by kernel_rfl) (fun _ _ _ h => h) (Or.inl ⟨by rfl, ?_⟩) hHeld ?_
  rotate_left
  · (intro w hSw; (try dsimp only at hSw); unfold c45b2; go_simp <;> with_reducible rfl)
  try simp only [c45b2, Act.put, List.setIfInBounds_toArray, List.set_cons_zero, List.set_cons_succ]
  refine wpAnyH_take (i := 3) (oi := c45b3) (v := ?_) rfl (by kernel_rfl) (by kernel_rfl) (by kernel_rfl) (fun _ _ _ h => h) (Or.inl ⟨by rfl, ?_⟩) hHeld ?_
  rotate_left
  · (intro w hSw; (try dsimp only at hSw); unfold c45b3; go_simp <;> with_reducible rfl)
  try simp only [c45b3, Act.put, List.setIfInBounds_toArray, List.set_cons_zero, List.set_cons_succ]
  refine wpAnyH_take (i := 4) (oi := c45b4) (v := ?_) rfl (by kernel_rfl) (by kernel_rfl) (by kernel_rfl) (fun _ _ _ h => h) (Or.inl ⟨by rfl, ?_⟩) hHeld ?_
  rotate_left
  · (intro w hSw; (try dsimp only at hSw); unfold c45b4; go_simp <;> with_reducible rfl)
  try simp only [c45b4, Act.put, List.setIfInBounds_toArray, List.set_cons_zero, List.set_cons_succ]
  refine wpAnyH_take (i := 5) (oi := c45b5) (v := ?_) rfl (by kernel_rfl) (by kernel_rfl) (by kernel_rfl) (fun _ _ _ h => h) (Or.inl ⟨by rfl, ?_⟩) hHeld ?_
  rotate_left
  · (intro w hSw; (try dsimp only at hSw); unfold c45b5; go_simp <;> with_reducible rfl)
  try simp only [c45b5, Act.put, List.setIfInBounds_toArray, List.set_cons_zero, List.set_cons_succ]
  refine wpAnyH_take (i := 6) (oi := c45b6) (v := ?_) rfl (by kernel_rfl) (by kernel_rfl) (by kernel_rfl) (fun _ _ _ h => h) (Or.inl ⟨by rfl, ?_⟩) hHeld ?_
  rotate_left
  · (intro w hSw; (try dsimp only at hSw); unfold c45b6; go_simp <;> with_reducible rfl)
  try simp only [c45b6, Act.put, List.setIfInBounds_toArray, List.set_cons_zero, List.set_cons_succ]
  refine wpAnyH_take (i := 7) (oi := c45b7) (v := ?_) rfl (by kernel_rfl) (by kernel_rfl) (by kernel_rfl) (fun _ _ _ h => h) (Or.inl ⟨by rfl, ?_⟩) hHeld ?_
  rotate_left
  · (intro w hSw; (try dsimp only at hSw); unfold c45b7; go_simp <;> with_reducible rfl)
  try simp only [c45b7, Act.put, List.setIfInBounds_toArray, List.set_cons_zero, List.set_cons_succ]
  refine wpAnyH_take (i := 8) (oi := c45b8) (v := ?_) rfl (by kernel_rfl) (by kernel_rfl) (by kernel_rfl) (fun _ _ _ h => h) (Or.inl ⟨by rfl, ?_⟩) hHeld ?_
  rotate_left
  · (intro w hSw; (try dsimp only at hSw); unfold c45b8; go_simp <;> with_reducible rfl)
  try simp only [c45b8, Act.put, List.setIfInBounds_toArray, List.set_cons_zero, List.set_cons_succ]
  refine wpAnyH_take (i := 9) (oi := c45b9) (v := ?_) rfl (by kernel_rfl) (by kernel_rfl) (by kernel_rfl) (fun _ _ _ h => h) (Or.inl ⟨by rfl, ?_⟩) hHeld ?_
  rotate_left
  · (intro w hSw; (try dsimp only at hSw); unfold c45b9; go_simp <;> with_reducible rfl)
  try simp only [c45b9, Act.put, List.setIfInBounds_toArray, List.set_cons_zero, List.set_cons_succ]
  refine wpAnyH_take (i := 10) (oi := c45b10) (v := ?_) rfl (by kernel_rfl) (by kernel_rfl) (by kernel_rfl) (fun _ _ _ h => h) (Or.inl ⟨by rfl, ?_⟩) hHeld ?_
  rotate_left
  · (intro w hSw; (try dsimp only at hSw); unfold c45b10; go_simp <;> with_reducible rfl)
  try simp only [c45b10, Act.put, List.setIfInBounds_toArray, List.set_cons_zero, List.set_cons_succ]
  refine wpAnyH_take (i := 11) (oi := c45b11) (v := ?_) rfl (by kernel_rfl) (by kernel_rfl) (by kernel_rfl) (fun _ _ _ h => h) (Or.inl ⟨by rfl, ?_⟩) hHeld ?_
  rotate_left
  · (intro w hSw; (try dsimp only at hSw); unfold c45b11; go_simp <;> with_reducible rfl)
  try simp only [c45b11, Act.put, List.setIfInBounds_toArray, List.set_cons_zero, List.set_cons_succ]
  refine wpAnyH_take (i := 12) (oi := c45b12) (v := ?_) rfl (by kernel_rfl) (by kernel_rfl) (by kernel_rfl) (fun _ _ _ h => h) (Or.inl ⟨by rfl, ?_⟩) hHeld ?_
  rotate_left
  · (intro w hSw; (try dsimp only at hSw); unfold c45b12; go_simp <;> with_reducible rfl)
  try simp only [c45b12, Act.put, List.setIfInBounds_toArray, List.set_cons_zero, List.set_cons_succ]
  refine wpAnyH_ready (rs := [13]) (by kernel_rfl) (by simp) ?_
  refine AllReadyH.cons (o := c45b13) rfl (fun K hK => ?_) AllReadyH.nil
  rw [if_pos (by rfl)]
  unfold c45b13
  go_simp
  refine (HCLB.out _ hHeld.1.1).mono ?_
  rintro e w1 ⟨rfl, hB_w1⟩
  have hS_w1 := hHeld.next hB_w1
  go_wp2_with fail
  refine hK.out _ _ hS_w1 (fun hHeld => ?_)
  clear hK K
  try simp only [c45b13, Act.put, List.setIfInBounds_toArray, List.set_cons_zero, List.set_cons_succ]
  refine wpAnyH_ready (rs := [14]) (by kernel_rfl) (by simp) ?_
  refine AllReadyH.cons (o := c45b14) rfl (fun K hK => ?_) AllReadyH.nil
  rw [if_pos (by rfl)]
  unfold c45b14
  go_simp
  refine (HND.out _).mono ?_
  rintro e w2 ⟨rfl, hB_w2⟩
  have hS_w2 := hHeld.next hB_w2
  go_wp2_with fail
  refine hK.out _ _ hS_w2 (fun hHeld => ?_)
  clear hK K
  try simp only [c45b14, Act.put, List.setIfInBounds_toArray, List.set_cons_zero, List.set_cons_succ]
  refine wpAnyH_ready (rs := [15]) (by kernel_rfl) (by simp) ?_
  refine AllReadyH.cons (o := c45b15) rfl (fun K hK => ?_) AllReadyH.nil
  rw [if_pos (by rfl)]
  refine wp_store_mid 26 _ _ (by rfl) (w.heap.size + 1) 0 (List.toArray cs2) (by rfl) (by rfl) (by have h := hHeld.1.2.2.1; rw [← HCL2.out] at h; exact h) (by simpa using HZ2.out) (all_oneCell_toArray HO2.out) ?_
  refine hK.out _ _ (by rw [List.toList_toArray]; exact hHeld.set cs2) (fun hHeld => ?_)
  clear hK K
  try simp only [c45b15, Act.put]
  refine wpAnyH_done (by kernel_rfl) ?_ _
  have hst := World.rangeAt_setCells_same w2 (w.heap.size + 1) 0 cs2 (by rw [HCL2.out]; exact hS_w2.1.2.2.1)
  have HST := Lib.hid hst
  have HSF := Lib.hid (hS_w2.1.set cs2).1
  clear hst hHeld hS_w2 hS_w1 hB_w1 hB_w2
  go_wp2
  refine bodyPost_ret (results_cell_mid rfl _ _ _ _ _ rfl HST.out Tryd.underlying26 rfl HZ2.out) rfl ?_
  exact ⟨rfl, HSF.out⟩

theorem rclimb_any : ∀ (n : Nat) (p : List (List UInt8)) (w : World) (d : List UInt8) (i : Nat) (v : Value), d.length = 32 → 0 < n → n ≤ 1099511627776 → i < n → p.length = psteps i n → Digs w w.heap.size v p →
    Calls Tryd.prog 45 #[dv d, .int .i64 i, .int .i64 n, v] w fun e w' => e = .returned (dv (clm d i n p)) ∧ Below w.heap.size w w' := by
  intro n
  induction n using Nat.strongRecOn with
  | ind n ih =>
    intro p w d i v hd h0n hn hi hl hD
    obtain ⟨h32, a, cap, rfl, hc, hm, h4⟩ := hD
    by_cases h1 : n = 1
    · subst h1
      rw [clm_one, show tagged tLeaf d = tree [d] from rfl]
      exact rclimb_one w d hd i a p.length cap
    · obtain ⟨b1, b2, b3, _⟩ := spl_bound n (by omega) hn
      obtain ⟨k, hk⟩ : ∃ k, spl n = k := ⟨_, rfl⟩
      have hpos : 0 < p.length := by
        rw [hl]
        by_cases hik : i < spl n
        · rw [psteps_lt i n (by omega) hn hik]; omega
        · rw [psteps_ge i n (by omega) hn hik]; omega
      obtain ⟨q, x, rfl⟩ : ∃ q x, p = q ++ [x] := ⟨p.dropLast, p.getLast (by intro e; rw [e] at hpos; simp at hpos), (List.dropLast_concat_getLast _).symm⟩
      rw [List.length_append, List.length_singleton] at hl hc ⊢
      rcases h4 with h4 | ⟨db, off, rfl, hdb, hr⟩
      · simp at h4
      · have hx32 : x.length = 32 := h32 x (by simp)
        have hrx : w.rangeAt db (off + q.length * 32) (cells8 x) := by
          have := hr q.length (by simp)
          simpa using this
        have hDq : ∀ W, Below w.heap.size w W → Digs W W.heap.size (.slice (some ⟨db, off, none⟩) q.length cap) q := fun W hB =>
          ⟨fun y hy => h32 y (by simp [hy]), some ⟨db, off, none⟩, cap, rfl, by omega, hm, .inr ⟨db, off, rfl, by have := hB.size; omega, fun j hj u v hv => (hB.cell (p := ⟨db, off + j * 32 + u, none⟩) hdb).trans (hr j (by simp; omega) u v (by rw [List.getElem_append_left hj]; exact hv))⟩⟩
        by_cases hik : i < spl n
        · rw [clm_lt d i n q x (by omega) hn hik]
          rw [psteps_lt i n (by omega) hn hik] at hl
          rw [hk] at hik hl ⊢
          refine rclimb_lt w d (clm d i k q) x _ hd (clm_len _ _ _ _) hx32 i n k q.length db off cap (by omega) hn hk hik rfl (by omega) hm hrx hdb (fun W hB => ?_)
          exact ih k (by omega) q W d i _ hd (by omega) (by omega) hik (by omega) (hDq W hB)
        · rw [clm_ge d i n q x (by omega) hn hik]
          rw [psteps_ge i n (by omega) hn hik] at hl
          rw [hk] at hik hl b1 b2 ⊢
          refine rclimb_ge w d (clm d (i - k) (n - k) q) x _ hd (clm_len _ _ _ _) hx32 i n k q.length db off cap (by omega) hn hk hi (by omega) rfl (by omega) hm hrx hdb (fun W hB => ?_)
          have := ih (n - k) (by omega) q W d (i - k) _ hd (by omega) (by omega) (by omega) (by omega) (hDq W hB)
          rwa [show ((i - k : Nat) : Int) = (i : Int) - (k : Int) by omega, show ((n - k : Nat) : Int) = (n : Int) - (k : Int) by omega] at this
end Go.Proofs.YtnddejhbncgchaaDoor
