/- The reference's Head. The reference's Check. ChainSpec: the law's walk. -/
import Derived.Test.YtfmngeemhfpeiaaDoorMT
namespace Go.Proofs.YtfmngeemhfpeiaaDoor
open Go.RowKit

theorem hd_text {l : List Lk} : hd l = tagged (tagS l).data.toList (txtL l) := by
  unfold hd txtL tagS
  cases l with
  | nil => rfl
  | cons x m =>
    rw [List.getLast?_cons]
    rfl
theorem txtL_small {l : List Lk} (h : ∀ x ∈ l, x.ok) : (txtL l).length ≤ 900000 := by
  unfold txtL
  cases e : l.getLast? with
  | none => simp
  | some x =>
    have hx := h x (List.mem_of_getLast? e)
    have := txt_len x hx
    have := hx.2.2.2
    simp only
    omega
theorem tagS_small (l : List Lk) : (tagS l).size ≤ 900000 := by
  unfold tagS
  split <;> decide

set_option maxRecDepth 100000 in
set_option maxHeartbeats 2000000 in
theorem rhead_any (w : World) (v : Value) (l : List Lk) (hv : LRow w w.heap.size v l) :
    Calls Tryd.prog 34 #[v] w fun e w' => e = .returned (.agg (cells8 (hd l)).toArray) ∧ Below w.heap.size w w' := by
  have hrt : ∀ W, Below w.heap.size w W → Calls Tryd.prog 66 #[v] W fun e w' => ∃ u, e = .returned (.tuple #[.string (tagS l), u]) ∧ BytesAt w' w'.heap.size u (txtL l) ∧ Below W.heap.size W w' := fun W hW => rtext_any W v l (hv.at hW)
  have htg : ∀ W u, BytesAt W W.heap.size u (txtL l) → Calls Tryd.prog 50 #[.string (tagS l), u] W fun e w' => e = .returned (.agg (cells8 (hd l)).toArray) ∧ Below W.heap.size W w' := fun W u hu => by
    have h := rtagged_any W (tagS l) u (txtL l) hu (tagS_small l) (txtL_small hv.1)
    rw [← hd_text, dv_eq] at h
    exact h
  obtain ⟨a, cap, rfl, _, _⟩ := hv.shape
  have hcl := hd_len l
  obtain ⟨cs, hcs⟩ : ∃ cs, cells8 (hd l) = cs := ⟨_, rfl⟩
  have ho1 := one_cells8 (hd l)
  rw [← cells8_len, hcs] at hcl
  rw [hcs] at htg ho1 ⊢
  have HZ : Hid ((Tryd.prog.info? 30).map (·.size) = some cs.length) := by show _ = _; rw [hcl]; exact Tryd.info30
  have HCL := Lib.hid hcl
  have HO := Lib.hid ho1
  have HTG := Lib.hid htg
  have HRT := Lib.hid hrt
  generalize tagS l = s1 at *
  generalize txtL l = x1 at *
  generalize l.length = N at *
  clear hcs hcl ho1 htg hrt hv
  go_enter Tryd.func34, Tryd.ntmps34
  go_wp2_with (refine wpList_world (fun W => Below w.heap.size w W ∧ Arr W w.heap.size (cells8 (List.replicate 32 0)) ∧ w.heap.size < W.heap.size) ⟨by go_grown, Arr.new w _ 30, by simp⟩ ?_; rintro W0 ⟨hB0, hD0, hz0⟩)
  refine (HRT.out _ hB0).mono ?_
  rintro e w1 ⟨u, rfl, hu, hB1⟩
  have hBa := hB0.trans (hB1.mono (by omega))
  have hDa := hD0.below hB1 hz0
  have hza : w.heap.size < w1.heap.size := by have := hB1.size; omega
  have HBA := Lib.hid hBa
  have HDA := Lib.hid hDa
  have HU := Lib.hid hu
  clear hB0 hD0 hB1 hBa hDa hu hz0
  go_wp2_with fail
  refine (HTG.out _ _ HU.out).mono ?_
  rintro e w2 ⟨rfl, hB2⟩
  have HB := Lib.hid (HBA.out.trans (hB2.mono (by omega)))
  have HD := Lib.hid (HDA.out.below hB2 hza)
  clear hB2
  go_wp2_with (refine store_new rfl 30 _ _ (by rfl) w.heap.size w.heap.size cs _ (by rfl) (by rfl) HB.out (Nat.le_refl _) HD.out (by rw [HCL.out]; rfl) HZ.out HO.out ?_; intro W7 hB7 hA7 hz7)
  refine bodyPost_ret (results_cell_mid rfl _ _ _ _ _ rfl hA7.at_ Tryd.underlying30 rfl HZ.out) rfl ?_
  exact ⟨rfl, hB7⟩
end Go.Proofs.YtfmngeemhfpeiaaDoor

namespace Go.Proofs.YtfmngeemhfpeiaaDoor
open Go.RowKit

def c32a0 : Oper := { dst := some 18, op := Go.Op.fieldAddr 55 (Go.Operand.tmp 4) 0, type := 0, pos := "ref.go:43", after := #[], guard := none }
def c32a1 : Oper := { dst := some 19, op := Go.Op.load 3 (Go.Operand.tmp 18), type := 3, pos := "ref.go:43", after := #[{ on := 0, ground := Go.Ground.data }], guard := none }
def c32a2 : Oper := { dst := some 20, op := Go.Op.binOp Go.BinOp.lss 3 (Go.Operand.tmp 19) (Go.Operand.const (Go.Value.int Go.IntKind.i64 0)) 3, type := 4, pos := "ref.go:43", after := #[{ on := 1, ground := Go.Ground.data }], guard := none }
def c32a3 : Oper := { dst := some 21, op := Go.Op.move (Go.Operand.tmp 20), type := 4, pos := "ref.go:43", after := #[{ on := 2, ground := Go.Ground.data }], guard := none }
def c32a4 : Oper := { dst := some 22, op := Go.Op.fieldAddr 55 (Go.Operand.tmp 4) 0, type := 0, pos := "ref.go:43", after := #[{ on := 3, ground := Go.Ground.guard }], guard := some (3, false) }
def c32a5 : Oper := { dst := some 23, op := Go.Op.load 3 (Go.Operand.tmp 22), type := 3, pos := "ref.go:43", after := #[{ on := 4, ground := Go.Ground.data }, { on := 3, ground := Go.Ground.guard }], guard := some (3, false) }
def c32a6 : Oper := { dst := some 24, op := Go.Op.binOp Go.BinOp.geq 3 (Go.Operand.tmp 23) (Go.Operand.const (Go.Value.int Go.IntKind.i64 24)) 3, type := 4, pos := "ref.go:43", after := #[{ on := 5, ground := Go.Ground.data }, { on := 3, ground := Go.Ground.guard }], guard := some (3, false) }
def c32a7 : Oper := { dst := some 25, op := Go.Op.pick (Go.Operand.tmp 21) (Go.Operand.const (Go.Value.bool true)) (Go.Operand.tmp 24), type := 4, pos := "ref.go:43", after := #[{ on := 3, ground := Go.Ground.data }, { on := 6, ground := Go.Ground.data }], guard := none }
def c32a8 : Oper := { dst := some 26, op := Go.Op.move (Go.Operand.tmp 25), type := 4, pos := "ref.go:43", after := #[{ on := 7, ground := Go.Ground.data }, { on := 3, ground := Go.Ground.chain }], guard := none }
def c32a9 : Oper := { dst := some 27, op := Go.Op.fieldAddr 55 (Go.Operand.tmp 4) 0, type := 0, pos := "ref.go:43", after := #[{ on := 8, ground := Go.Ground.guard }], guard := some (8, false) }
def c32a10 : Oper := { dst := some 28, op := Go.Op.load 3 (Go.Operand.tmp 27), type := 3, pos := "ref.go:43", after := #[{ on := 9, ground := Go.Ground.data }, { on := 8, ground := Go.Ground.guard }], guard := some (8, false) }
def c32a11 : Oper := { dst := some 29, op := Go.Op.move (Go.Operand.tmp 0), type := 44, pos := "ref.go:43", after := #[{ on := 8, ground := Go.Ground.guard }], guard := some (8, false) }
def c32a12 : Oper := { dst := some 30, op := Go.Op.indexAddr 44 (Go.Operand.tmp 29) (Go.Operand.const (Go.Value.int Go.IntKind.i64 0)), type := 0, pos := "ref.go:43", after := #[{ on := 11, ground := Go.Ground.data }, { on := 8, ground := Go.Ground.guard }], guard := some (8, false) }
def c32a13 : Oper := { dst := some 31, op := Go.Op.fieldAddr 55 (Go.Operand.tmp 30) 0, type := 0, pos := "ref.go:43", after := #[{ on := 12, ground := Go.Ground.data }, { on := 8, ground := Go.Ground.guard }], guard := some (8, false) }
def c32a14 : Oper := { dst := some 32, op := Go.Op.load 3 (Go.Operand.tmp 31), type := 3, pos := "ref.go:43", after := #[{ on := 13, ground := Go.Ground.data }, { on := 8, ground := Go.Ground.guard }], guard := some (8, false) }
def c32a15 : Oper := { dst := some 33, op := Go.Op.binOp Go.BinOp.neq 3 (Go.Operand.tmp 28) (Go.Operand.tmp 32) 3, type := 4, pos := "ref.go:43", after := #[{ on := 10, ground := Go.Ground.data }, { on := 14, ground := Go.Ground.data }, { on := 8, ground := Go.Ground.guard }], guard := some (8, false) }
def c32a16 : Oper := { dst := some 34, op := Go.Op.pick (Go.Operand.tmp 26) (Go.Operand.const (Go.Value.bool true)) (Go.Operand.tmp 33), type := 4, pos := "ref.go:43", after := #[{ on := 8, ground := Go.Ground.data }, { on := 15, ground := Go.Ground.data }], guard := none }
def c32a17 : Oper := { dst := some 35, op := Go.Op.move (Go.Operand.tmp 34), type := 4, pos := "ref.go:43", after := #[{ on := 16, ground := Go.Ground.data }, { on := 8, ground := Go.Ground.chain }], guard := none }
def c32a18 : Oper := { dst := some 36, op := Go.Op.fieldAddr 55 (Go.Operand.tmp 4) 1, type := 0, pos := "ref.go:43", after := #[{ on := 17, ground := Go.Ground.guard }], guard := some (17, false) }
def c32a19 : Oper := { dst := some 37, op := Go.Op.load 3 (Go.Operand.tmp 36), type := 3, pos := "ref.go:43", after := #[{ on := 18, ground := Go.Ground.data }, { on := 17, ground := Go.Ground.guard }], guard := some (17, false) }
def c32a20 : Oper := { dst := some 38, op := Go.Op.move (Go.Operand.tmp 3), type := 3, pos := "ref.go:43", after := #[{ on := 17, ground := Go.Ground.guard }], guard := some (17, false) }
def c32a21 : Oper := { dst := some 39, op := Go.Op.binOp Go.BinOp.neq 3 (Go.Operand.tmp 37) (Go.Operand.tmp 38) 3, type := 4, pos := "ref.go:43", after := #[{ on := 19, ground := Go.Ground.data }, { on := 20, ground := Go.Ground.data }, { on := 17, ground := Go.Ground.guard }], guard := some (17, false) }
def c32a22 : Oper := { dst := some 40, op := Go.Op.pick (Go.Operand.tmp 35) (Go.Operand.const (Go.Value.bool true)) (Go.Operand.tmp 39), type := 4, pos := "ref.go:43", after := #[{ on := 17, ground := Go.Ground.data }, { on := 21, ground := Go.Ground.data }], guard := none }
def c32a23 : Oper := { dst := some 41, op := Go.Op.move (Go.Operand.tmp 40), type := 4, pos := "ref.go:43", after := #[{ on := 22, ground := Go.Ground.data }, { on := 17, ground := Go.Ground.chain }], guard := none }
def c32a24 : Oper := { dst := some 42, op := Go.Op.fieldAddr 55 (Go.Operand.tmp 4) 3, type := 0, pos := "ref.go:43", after := #[{ on := 23, ground := Go.Ground.guard }], guard := some (23, false) }
def c32a25 : Oper := { dst := some 43, op := Go.Op.load 34 (Go.Operand.tmp 42), type := 34, pos := "ref.go:43", after := #[{ on := 24, ground := Go.Ground.data }, { on := 23, ground := Go.Ground.guard }], guard := some (23, false) }
def c32a26 : Oper := { dst := some 44, op := Go.Op.call { callee := Go.Callee.builtin Go.Builtin.len, args := #[Go.Operand.tmp 43], argTypes := #[34] }, type := 3, pos := "ref.go:43", after := #[{ on := 25, ground := Go.Ground.data }, { on := 23, ground := Go.Ground.guard }], guard := some (23, false) }
def c32a27 : Oper := { dst := some 45, op := Go.Op.binOp Go.BinOp.gtr 3 (Go.Operand.tmp 44) (Go.Operand.const (Go.Value.int Go.IntKind.i64 65536)) 3, type := 4, pos := "ref.go:43", after := #[{ on := 26, ground := Go.Ground.data }, { on := 23, ground := Go.Ground.guard }], guard := some (23, false) }
def c32a28 : Oper := { dst := some 46, op := Go.Op.pick (Go.Operand.tmp 41) (Go.Operand.const (Go.Value.bool true)) (Go.Operand.tmp 45), type := 4, pos := "ref.go:43", after := #[{ on := 23, ground := Go.Ground.data }, { on := 27, ground := Go.Ground.data }], guard := none }
def c32a29 : Oper := { dst := some 47, op := Go.Op.move (Go.Operand.tmp 46), type := 4, pos := "ref.go:43", after := #[{ on := 28, ground := Go.Ground.data }, { on := 23, ground := Go.Ground.chain }], guard := none }
def c32a30 : Oper := { dst := some 48, op := Go.Op.fieldAddr 55 (Go.Operand.tmp 4) 2, type := 0, pos := "ref.go:43", after := #[{ on := 29, ground := Go.Ground.guard }], guard := some (29, false) }
def c32a31 : Oper := { dst := some 49, op := Go.Op.load 30 (Go.Operand.tmp 48), type := 30, pos := "ref.go:43", after := #[{ on := 30, ground := Go.Ground.data }, { on := 29, ground := Go.Ground.guard }], guard := some (29, false) }
def c32a32 : Oper := { dst := some 50, op := Go.Op.move (Go.Operand.tmp 0), type := 44, pos := "ref.go:43", after := #[{ on := 29, ground := Go.Ground.guard }], guard := some (29, false) }
def c32a33 : Oper := { dst := some 51, op := Go.Op.move (Go.Operand.tmp 3), type := 3, pos := "ref.go:43", after := #[{ on := 29, ground := Go.Ground.guard }], guard := some (29, false) }
def c32a34 : Oper := { dst := some 52, op := Go.Op.slice 44 (Go.Operand.tmp 50) none (some (Go.Operand.tmp 51)) none, type := 44, pos := "ref.go:43", after := #[{ on := 32, ground := Go.Ground.data }, { on := 33, ground := Go.Ground.data }, { on := 29, ground := Go.Ground.guard }], guard := some (29, false) }
def c32a35 : Oper := { dst := some 53, op := Go.Op.call { callee := Go.Callee.value (Go.Operand.func 34), args := #[Go.Operand.tmp 52], argTypes := #[44] }, type := 30, pos := "ref.go:43", after := #[{ on := 34, ground := Go.Ground.data }, { on := 29, ground := Go.Ground.chain }, { on := 29, ground := Go.Ground.guard }], guard := some (29, false) }
def c32a36 : Oper := { dst := some 54, op := Go.Op.binOp Go.BinOp.neq 30 (Go.Operand.tmp 49) (Go.Operand.tmp 53) 30, type := 4, pos := "ref.go:43", after := #[{ on := 31, ground := Go.Ground.data }, { on := 35, ground := Go.Ground.data }, { on := 29, ground := Go.Ground.guard }], guard := some (29, false) }
def c32a37 : Oper := { dst := some 55, op := Go.Op.pick (Go.Operand.tmp 47) (Go.Operand.const (Go.Value.bool true)) (Go.Operand.tmp 54), type := 4, pos := "ref.go:43", after := #[{ on := 29, ground := Go.Ground.data }, { on := 36, ground := Go.Ground.data }], guard := none }

/-- What Check asks of a link. -/
def good (l : List Lk) (i : Nat) (h : i < l.length) : Prop := (0 ≤ l[i].node ∧ l[i].node < 24) ∧ bel l l[i].node = true ∧ l[i].no = i ∧ l[i].data.length ≤ 65536 ∧ l[i].prev = hd (l.take i)
theorem bel_iff {l : List Lk} (h : 0 < l.length) (n : Int) : bel l n = true ↔ n = l[0].node := by
  cases l with
  | nil => simp at h
  | cons x m => unfold bel; simp [eq_comm]

set_option maxRecDepth 100000 in
set_option maxHeartbeats 8000000 in
theorem rcheck_any (w : World) (v : Value) (l : List Lk) (hv : LRow w w.heap.size v l) (hq : l.length ≤ 100000) : Calls Tryd.prog 32 #[v] w fun e w' => e = .returned (.int .i64 (chk l)) ∧ Below w.heap.size w w' := by
  have hv0 := hv
  obtain ⟨hok, a, cap, rfl, h1, h2, h3⟩ := hv
  unfold maxLen at h2
  obtain ⟨R, hR⟩ : ∃ R, chk l = R := ⟨_, rfl⟩
  have hlim : 1024 < l.length → R = 2 := fun h => by rw [← hR]; unfold chk; rw [if_pos h]
  have hall : l.length ≤ 1024 → (∀ j (hj : j < l.length), good l j hj) → R = 0 := fun h1 h2 => by rw [← hR]; exact (chk_iff l).2 ⟨h1, fun i hi => h2 i hi⟩
  have hbad : l.length ≤ 1024 → ∀ t (ht : t < l.length), ¬ good l t ht → R = 80 := fun h1 t ht h2 => by rw [← hR]; exact chk_bad (fun h => h2 (h.2 t ht)) h1
  obtain ⟨N, hN⟩ : ∃ N, l.length = N := ⟨_, rfl⟩
  rw [hR]
  rw [hN] at h1 hq hlim ⊢
  have HV := Lib.hid hv0
  have HN := Lib.hid hN
  have HALL := Lib.hid hall
  have HBADS := Lib.hid hbad
  clear hv0 hN hall hbad h3 hok hR
  by_cases hbig : 1024 < N
  · have d1 : decide ((1024 : Int) < (N : Int)) = true := by simp; omega
    have d2 : decide ((N : Int) > 1024) = true := by simp; omega
    have d3 : decide (1024 < N) = true := by simp; omega
    have hr := hlim hbig
    subst hr
    go_enter Tryd.func32, Tryd.ntmps32
    go_wp2
    go_returns
    exact ⟨rfl, Below.refl _ _⟩
  · have d1 : decide ((1024 : Int) < (N : Int)) = false := by simp; omega
    have d2 : decide ((N : Int) > 1024) = false := by simp; omega
    have d3 : decide (1024 < N) = false := by simp; omega
    have hN24 : N ≤ 1024 := by omega
    clear hlim hbig
    go_enter Tryd.func32, Tryd.ntmps32
    go_wp2
    go_loopw [3] (fun i wr => ∃ t : Nat, i = .int .i64 t ∧ t ≤ N ∧ Below w.heap.size w wr ∧ Hid (∀ j (hj : j < l.length), j < t → good l j hj)) (fun i _ => N - (intOf i).toNat)
    case atStart => exact ⟨0, rfl, by omega, Below.refl _ _, Lib.hid (fun j _ hj => by omega)⟩
    case round =>
      obtain ⟨t, rfl, htn, hB, HJ⟩ := hrel
      have HB := Lib.hid hB
      clear hB
      by_cases hlt : t < N
      · have htl : t < l.length := by rw [HN.out]; exact hlt
        obtain ⟨b, off, d, rfl, hb, hxok, hxr, hxd⟩ := HV.out.get t htl
        obtain ⟨b', off', d0, e0, _, hok0, hr0, _⟩ := HV.out.get 0 (by omega)
        injection e0 with e0
        injection e0 with e1 e2
        subst e1
        subst e2
        obtain ⟨da, dc, rfl, _, hdc, _⟩ := id hxd
        unfold maxLen at hdc
        have hcx5 := lcells_len l[t] (.slice da l[t].data.length dc) hxok.1
        have hone := lcells_one l[t] (.slice da l[t].data.length dc) rfl
        have x0 := lcells_0 l[t] (.slice da l[t].data.length dc)
        have x1 := lcells_1 l[t] (.slice da l[t].data.length dc)
        have x34 := lcells_34 l[t] (.slice da l[t].data.length dc) hxok.1
        have xpv := lcells_prev l[t] (.slice da l[t].data.length dc) hxok.1
        obtain ⟨cx, hcx⟩ : ∃ cs, lcells l[t] (.slice da l[t].data.length dc) = cs := ⟨_, rfl⟩
        rw [hcx] at hcx5 hone x0 x1 x34 xpv hxr
        have y0 := (hr0 0 _ (lcells_0 _ _))
        simp only [Nat.zero_mul, Nat.add_zero] at y0
        have hbel := bel_iff (l := l) (by omega) l[t].node
        have hpl : (cells8 l[t].prev).length = 32 := by rw [cells8_len, hxok.1]
        have hqq := fun (W : World) => dig_eq l[t].prev (hd (l.take t)) hxok.1 (hd_len _) W
        simp only [dv_eq] at hqq
        obtain ⟨bh, hbh⟩ : ∃ bh, decide (l[t].prev = hd (l.take t)) = bh := ⟨_, rfl⟩
        have HBH : Hid ((bh = true → l[t].prev = hd (l.take t)) ∧ (l[t].prev = hd (l.take t) → bh = true)) := Lib.hid ⟨fun h => by rw [h] at hbh; exact of_decide_eq_true hbh, fun h => by rw [← hbh]; exact decide_eq_true h⟩
        simp only [hbh] at hqq
        obtain ⟨pa, hpa⟩ : ∃ pa, cells8 l[t].prev = pa := ⟨_, rfl⟩
        obtain ⟨pb, hpb⟩ : ∃ pb, cells8 (hd (l.take t)) = pb := ⟨_, rfl⟩
        simp only [hpa, hpb] at hqq
        rw [hpa] at hpl xpv
        obtain ⟨nd, hnd⟩ : ∃ nd, l[t].node = nd := ⟨_, rfl⟩
        obtain ⟨no, hno⟩ : ∃ no, l[t].no = no := ⟨_, rfl⟩
        obtain ⟨n0, hn0⟩ : ∃ n0, l[0].node = n0 := ⟨_, rfl⟩
        obtain ⟨L, hL⟩ : ∃ L, l[t].data.length = L := ⟨_, rfl⟩
        rw [hnd] at x0
        rw [hno] at x1
        rw [hL] at x34
        rw [hn0] at y0 hbel
        have HBEL := Lib.hid hbel
        have HLD := Lib.hid hL
        have HBAD := Lib.hid (HBADS.out (by rw [HN.out]; omega) t htl)
        have HQ := Lib.hid hqq
        have HXR : Hid (wr.rangeAt b (off + t * 35) cx) := Lib.hid fun j v hv => (HB.out.cell (p := ⟨b, off + t * 35 + j, none⟩) hb).trans (hxr j v hv)
        have HZX : Hid ((Tryd.prog.info? 55).map (·.size) = some cx.length) := by show _ = _; rw [hcx5]; exact Tryd.info55
        have HZP : Hid ((Tryd.prog.info? 30).map (·.size) = some pa.length) := by show _ = _; rw [hpl]; exact Tryd.info30
        have HL5 := Lib.hid hcx5
        have HOX := Lib.hid hone
        have HYB := Lib.hid ((HB.out.cell (p := ⟨b, off, none⟩) hb).trans y0)
        have hbw : b < wr.heap.size := by have := HB.out.size; omega
        have HX := Lib.hid (And.intro x0 (And.intro x1 (And.intro x34 xpv)))
        have hhd : ∀ W, Below w.heap.size w W → Calls Tryd.prog 34 #[.slice (some ⟨b, off, none⟩) t cap] W fun e w' => e = .returned (.agg pb.toArray) ∧ Below W.heap.size W w' := fun W hW => by
          have hr := HV.out.at hW
          rw [HN.out] at hr
          have h := rhead_any W _ (l.take t) (hr.take (m := t) (by omega) rfl)
          rw [hpb] at h
          exact h
        have HHW := Lib.hid hhd
        have e1 : decide ((t : Int) < (N : Int)) = true := by simp; omega
        have e2 : decide (t < N) = true := by simp; omega
        have e3 : (t : Int) < (N : Int) := by omega
        have e4 : (0 : Int) < (N : Int) := by omega
        have e5 : 0 < N := by omega
        have e6 : t ≤ cap := by omega
        have iw : IntKind.i64.wrap ((t : Int) + 1) = (t : Int) + 1 := by rw [IntKind.wrap_i64]; omega
        clear hb hxok hxr hxd hok0 hr0 hcx5 hone x0 x1 x34 xpv y0 hbel hpl hqq hbh hpa hpb hL hn0 hhd hcx
        go_wp2_with (first
          | (refine wpList_load_mid rfl 55 (.tmp 16) (by rfl) b (off + t * 35) (by rfl) cx _ HXR.out Tryd.underlying55 rfl HZX.out ?_)
          | (refine wpList_world (fun W => Below w.heap.size w W ∧ Below wr.heap.size wr W ∧ (∃ z : List Value, z.length = 35 ∧ Arr W wr.heap.size z) ∧ wr.heap.size < W.heap.size) ⟨by exact HB.out.alloc HB.out.size _, by exact (Below.refl _ _).alloc (Nat.le_refl _) _, ⟨_, by rfl, Arr.new wr _ 55⟩, by simp⟩ ?_
             rintro W1 ⟨hBW, hB1, ⟨z, hz35, hA1⟩, hz1⟩
             refine store_new rfl 55 _ _ (by rfl) wr.heap.size wr.heap.size cx _ (by rfl) (by rfl) hB1 (Nat.le_refl _) hA1 (by rw [HL5.out, hz35]) HZX.out HOX.out ?_
             intro W0 hB0' hA0 hz0))
        have HB0 := Lib.hid (HB.out.trans (hB0'.mono HB.out.size))
        have c0 := hA0.cell HX.out.1
        have c1 := hA0.cell HX.out.2.1
        have c34 := hA0.cell HX.out.2.2.1
        have cb := (hB0'.cell (p := ⟨b, off, none⟩) hbw).trans HYB.out
        have hz00 : wr.heap.size < W0.heap.size := by omega
        have PA : Hid (∀ W, Kept W0 W → W.rangeAt wr.heap.size 2 pa) := Lib.hid fun W hW j v hj => (hA0.below hW.below hz00).cell (HX.out.2.2.2 j v hj)
        have P0 : Hid (∀ W, Kept W0 W → W.cell? ⟨wr.heap.size, 0, none⟩ = some (.int .i64 nd)) := Lib.hid fun W hW => (hA0.below hW.below hz00).cell HX.out.1
        have P1 : Hid (∀ W, Kept W0 W → W.cell? ⟨wr.heap.size, 1, none⟩ = some (.int .i64 no)) := Lib.hid fun W hW => (hA0.below hW.below hz00).cell HX.out.2.1
        have P34 : Hid (∀ W, Kept W0 W → W.cell? ⟨wr.heap.size, 34, none⟩ = some (.slice da L dc)) := Lib.hid fun W hW => (hA0.below hW.below hz00).cell HX.out.2.2.1
        have PB : Hid (∀ W, Kept W0 W → W.cell? ⟨b, off, none⟩ = some (.int .i64 n0)) := Lib.hid fun W hW => (hW.below.cell (p := ⟨b, off, none⟩) (by show b < _; omega)).trans cb
        have HHD : Hid (∀ W, Kept W0 W → Calls Tryd.prog 34 #[.slice (some ⟨b, off, none⟩) t cap] W fun e w' => e = .returned (.agg pb.toArray) ∧ Below W.heap.size W w') := Lib.hid fun W hW => HHW.out W (HB0.out.trans (hW.below.mono HB0.out.size))
        clear hB0' hA0 hz0 hBW hB1 hA1 hz35 hz1 hz00
        by_cases k1 : nd < 0
        · have g1 : decide (nd < 0) = true := by simp; omega
          have hr := HBAD.out (fun hg => absurd hg.1.1 (by rw [hnd]; omega))
          subst hr
          go_quiet (fail)
          go_wp2
          go_returns
          exact ⟨rfl, below_drewN HB0.out _⟩
        have g1 : decide (nd < 0) = false := by simp; omega
        by_cases k2 : 24 ≤ nd
        · have g2 : decide (nd ≥ 24) = true := by simp; omega
          have g2' : decide (24 ≤ nd) = true := by simp; omega
          have hr := HBAD.out (fun hg => absurd hg.1.2 (by rw [hnd]; omega))
          subst hr
          go_quiet (fail)
          go_wp2
          go_returns
          exact ⟨rfl, below_drewN HB0.out _⟩
        have g2 : decide (nd ≥ 24) = false := by simp; omega
        have g2' : decide (24 ≤ nd) = false := by simp; omega
        by_cases k3 : nd = n0
        case neg =>
          have g3 : (nd == n0) = false := by simp [k3]
          have g3' : (nd != n0) = true := by simp [k3]
          have hr := HBAD.out (fun hg => absurd (HBEL.out.1 hg.2.1) (by rw [hnd]; exact k3))
          subst hr
          go_quiet (fail)
          go_wp2
          go_returns
          exact ⟨rfl, below_drewN HB0.out _⟩
        subst k3
        have g3 : (nd == nd) = true := by simp
        have g3' : (nd != nd) = false := by simp
        by_cases k4 : no = (t : Int)
        case neg =>
          have g4 : (no == (t : Int)) = false := by simp [k4]
          have g4' : (no != (t : Int)) = true := by simp [k4]
          have hr := HBAD.out (fun hg => absurd hg.2.2.1 (by rw [hno]; exact k4))
          subst hr
          go_quiet (fail)
          go_wp2
          go_returns
          exact ⟨rfl, below_drewN HB0.out _⟩
        subst k4
        have g4 : ((t : Int) == (t : Int)) = true := by simp
        have g4' : ((t : Int) != (t : Int)) = false := by simp
        by_cases k5 : 65536 < L
        · have g5 : decide ((65536 : Int) < (L : Int)) = true := by simp; omega
          have g5' : decide ((L : Int) > 65536) = true := by simp; omega
          have g5'' : decide (65536 < L) = true := by simp; omega
          have hr := HBAD.out (fun hg => absurd hg.2.2.2.1 (by rw [HLD.out]; omega))
          subst hr
          go_quiet (fail)
          go_wp2
          go_returns
          exact ⟨rfl, below_drewN HB0.out _⟩
        have g5 : decide ((65536 : Int) < (L : Int)) = false := by simp; omega
        have g5' : decide ((L : Int) > 65536) = false := by simp; omega
        have g5'' : decide (65536 < L) = false := by simp; omega
        have HGD : Hid (bh = true → good l t htl) := Lib.hid (fun h => ⟨⟨by rw [hnd]; omega, by rw [hnd]; omega⟩, HBEL.out.2 (by rw [hnd]), by rw [hno], by rw [HLD.out]; omega, HBH.out.1 h⟩)
        have HBD : Hid (bh = false → R = 80) := Lib.hid (fun h => HBAD.out (fun hg => by rw [HBH.out.2 hg.2.2.2.2] at h; cases h))
        clear c0 c1 c34 cb k1 k2 k5 hnd hno HBAD HBEL HLD HBH
        refine wp_region_held_drew (S := fun W => Kept W0 W) (by kernel_rfl) (Kept.drew (Kept.refl W0)) (fun hHeld => ?_)
        refine wpAnyH_take (i := 0) (oi := c32a0) (v := ?_) rfl (by kernel_rfl) (by kernel_rfl) (by kernel_rfl) (fun _ _ _ h => h) (Or.inl ⟨by rfl, ?_⟩) hHeld ?_
        rotate_left
        · (intro w hSw; (try dsimp only at hSw); unfold c32a0; go_simp <;> with_reducible rfl)
        try simp only [c32a0, Act.put, List.setIfInBounds_toArray, List.set_cons_zero, List.set_cons_succ]
        refine wpAnyH_take (i := 1) (oi := c32a1) (v := ?_) rfl (by kernel_rfl) (by kernel_rfl) (by kernel_rfl) (fun _ _ _ h => h) (Or.inl ⟨by rfl, ?_⟩) hHeld ?_
        rotate_left
        · (intro w hSw; have q0 := HQ.out; have f0 := P0.out w hSw; have f1 := P1.out w hSw; have f34 := P34.out w hSw; have fb := PB.out w hSw; unfold c32a1; go_simp <;> with_reducible rfl)
        try simp only [c32a1, Act.put, List.setIfInBounds_toArray, List.set_cons_zero, List.set_cons_succ]
        refine wpAnyH_take (i := 2) (oi := c32a2) (v := ?_) rfl (by kernel_rfl) (by kernel_rfl) (by kernel_rfl) (fun _ _ _ h => h) (Or.inl ⟨by rfl, ?_⟩) hHeld ?_
        rotate_left
        · (intro w hSw; (try dsimp only at hSw); unfold c32a2; go_simp <;> with_reducible rfl)
        try simp only [c32a2, Act.put, List.setIfInBounds_toArray, List.set_cons_zero, List.set_cons_succ]
        refine wpAnyH_take (i := 3) (oi := c32a3) (v := ?_) rfl (by kernel_rfl) (by kernel_rfl) (by kernel_rfl) (fun _ _ _ h => h) (Or.inl ⟨by rfl, ?_⟩) hHeld ?_
        rotate_left
        · (intro w hSw; (try dsimp only at hSw); unfold c32a3; go_simp <;> with_reducible rfl)
        try simp only [c32a3, Act.put, List.setIfInBounds_toArray, List.set_cons_zero, List.set_cons_succ]
        refine wpAnyH_take (i := 4) (oi := c32a4) (v := ?_) rfl (by kernel_rfl) (by kernel_rfl) (by kernel_rfl) (fun _ _ _ h => h) (Or.inl ⟨by rfl, ?_⟩) hHeld ?_
        rotate_left
        · (intro w hSw; (try dsimp only at hSw); unfold c32a4; go_simp <;> with_reducible rfl)
        try simp only [c32a4, Act.put, List.setIfInBounds_toArray, List.set_cons_zero, List.set_cons_succ]
        refine wpAnyH_take (i := 5) (oi := c32a5) (v := ?_) rfl (by kernel_rfl) (by kernel_rfl) (by kernel_rfl) (fun _ _ _ h => h) (Or.inl ⟨by rfl, ?_⟩) hHeld ?_
        rotate_left
        · (intro w hSw; have q0 := HQ.out; have f0 := P0.out w hSw; have f1 := P1.out w hSw; have f34 := P34.out w hSw; have fb := PB.out w hSw; unfold c32a5; go_simp <;> with_reducible rfl)
        try simp only [c32a5, Act.put, List.setIfInBounds_toArray, List.set_cons_zero, List.set_cons_succ]
        refine wpAnyH_take (i := 6) (oi := c32a6) (v := ?_) rfl (by kernel_rfl) (by kernel_rfl) (by kernel_rfl) (fun _ _ _ h => h) (Or.inl ⟨by rfl, ?_⟩) hHeld ?_
        rotate_left
        · (intro w hSw; (try dsimp only at hSw); unfold c32a6; go_simp <;> with_reducible rfl)
        try simp only [c32a6, Act.put, List.setIfInBounds_toArray, List.set_cons_zero, List.set_cons_succ]
        refine wpAnyH_take (i := 7) (oi := c32a7) (v := ?_) rfl (by kernel_rfl) (by kernel_rfl) (by kernel_rfl) (fun _ _ _ h => h) (Or.inl ⟨by rfl, ?_⟩) hHeld ?_
        rotate_left
        · (intro w hSw; (try dsimp only at hSw); unfold c32a7; go_simp <;> with_reducible rfl)
        try simp only [c32a7, Act.put, List.setIfInBounds_toArray, List.set_cons_zero, List.set_cons_succ]
        refine wpAnyH_take (i := 8) (oi := c32a8) (v := ?_) rfl (by kernel_rfl) (by kernel_rfl) (by kernel_rfl) (fun _ _ _ h => h) (Or.inl ⟨by rfl, ?_⟩) hHeld ?_
        rotate_left
        · (intro w hSw; (try dsimp only at hSw); unfold c32a8; go_simp <;> with_reducible rfl)
        try simp only [c32a8, Act.put, List.setIfInBounds_toArray, List.set_cons_zero, List.set_cons_succ]
        refine wpAnyH_take (i := 9) (oi := c32a9) (v := ?_) rfl (by kernel_rfl) (by kernel_rfl) (by kernel_rfl) (fun _ _ _ h => h) (Or.inl ⟨by rfl, ?_⟩) hHeld ?_
        rotate_left
        · (intro w hSw; (try dsimp only at hSw); unfold c32a9; go_simp <;> with_reducible rfl)
        try simp only [c32a9, Act.put, List.setIfInBounds_toArray, List.set_cons_zero, List.set_cons_succ]
        refine wpAnyH_take (i := 10) (oi := c32a10) (v := ?_) rfl (by kernel_rfl) (by kernel_rfl) (by kernel_rfl) (fun _ _ _ h => h) (Or.inl ⟨by rfl, ?_⟩) hHeld ?_
        rotate_left
        · (intro w hSw; have q0 := HQ.out; have f0 := P0.out w hSw; have f1 := P1.out w hSw; have f34 := P34.out w hSw; have fb := PB.out w hSw; unfold c32a10; go_simp <;> with_reducible rfl)
        try simp only [c32a10, Act.put, List.setIfInBounds_toArray, List.set_cons_zero, List.set_cons_succ]
        refine wpAnyH_take (i := 11) (oi := c32a11) (v := ?_) rfl (by kernel_rfl) (by kernel_rfl) (by kernel_rfl) (fun _ _ _ h => h) (Or.inl ⟨by rfl, ?_⟩) hHeld ?_
        rotate_left
        · (intro w hSw; (try dsimp only at hSw); unfold c32a11; go_simp <;> with_reducible rfl)
        try simp only [c32a11, Act.put, List.setIfInBounds_toArray, List.set_cons_zero, List.set_cons_succ]
        refine wpAnyH_take (i := 12) (oi := c32a12) (v := ?_) rfl (by kernel_rfl) (by kernel_rfl) (by kernel_rfl) (fun _ _ _ h => h) (Or.inl ⟨by rfl, ?_⟩) hHeld ?_
        rotate_left
        · (intro w hSw; (try dsimp only at hSw); unfold c32a12; go_simp <;> with_reducible rfl)
        try simp only [c32a12, Act.put, List.setIfInBounds_toArray, List.set_cons_zero, List.set_cons_succ]
        refine wpAnyH_take (i := 13) (oi := c32a13) (v := ?_) rfl (by kernel_rfl) (by kernel_rfl) (by kernel_rfl) (fun _ _ _ h => h) (Or.inl ⟨by rfl, ?_⟩) hHeld ?_
        rotate_left
        · (intro w hSw; (try dsimp only at hSw); unfold c32a13; go_simp <;> with_reducible rfl)
        try simp only [c32a13, Act.put, List.setIfInBounds_toArray, List.set_cons_zero, List.set_cons_succ]
        refine wpAnyH_take (i := 14) (oi := c32a14) (v := ?_) rfl (by kernel_rfl) (by kernel_rfl) (by kernel_rfl) (fun _ _ _ h => h) (Or.inl ⟨by rfl, ?_⟩) hHeld ?_
        rotate_left
        · (intro w hSw; have q0 := HQ.out; have f0 := P0.out w hSw; have f1 := P1.out w hSw; have f34 := P34.out w hSw; have fb := PB.out w hSw; unfold c32a14; go_simp <;> with_reducible rfl)
        try simp only [c32a14, Act.put, List.setIfInBounds_toArray, List.set_cons_zero, List.set_cons_succ]
        refine wpAnyH_take (i := 15) (oi := c32a15) (v := ?_) rfl (by kernel_rfl) (by kernel_rfl) (by kernel_rfl) (fun _ _ _ h => h) (Or.inl ⟨by rfl, ?_⟩) hHeld ?_
        rotate_left
        · (intro w hSw; (try dsimp only at hSw); unfold c32a15; go_simp <;> with_reducible rfl)
        try simp only [c32a15, Act.put, List.setIfInBounds_toArray, List.set_cons_zero, List.set_cons_succ]
        refine wpAnyH_take (i := 16) (oi := c32a16) (v := ?_) rfl (by kernel_rfl) (by kernel_rfl) (by kernel_rfl) (fun _ _ _ h => h) (Or.inl ⟨by rfl, ?_⟩) hHeld ?_
        rotate_left
        · (intro w hSw; (try dsimp only at hSw); unfold c32a16; go_simp <;> with_reducible rfl)
        try simp only [c32a16, Act.put, List.setIfInBounds_toArray, List.set_cons_zero, List.set_cons_succ]
        refine wpAnyH_take (i := 17) (oi := c32a17) (v := ?_) rfl (by kernel_rfl) (by kernel_rfl) (by kernel_rfl) (fun _ _ _ h => h) (Or.inl ⟨by rfl, ?_⟩) hHeld ?_
        rotate_left
        · (intro w hSw; (try dsimp only at hSw); unfold c32a17; go_simp <;> with_reducible rfl)
        try simp only [c32a17, Act.put, List.setIfInBounds_toArray, List.set_cons_zero, List.set_cons_succ]
        refine wpAnyH_take (i := 18) (oi := c32a18) (v := ?_) rfl (by kernel_rfl) (by kernel_rfl) (by kernel_rfl) (fun _ _ _ h => h) (Or.inl ⟨by rfl, ?_⟩) hHeld ?_
        rotate_left
        · (intro w hSw; (try dsimp only at hSw); unfold c32a18; go_simp <;> with_reducible rfl)
        try simp only [c32a18, Act.put, List.setIfInBounds_toArray, List.set_cons_zero, List.set_cons_succ]
        refine wpAnyH_take (i := 19) (oi := c32a19) (v := ?_) rfl (by kernel_rfl) (by kernel_rfl) (by kernel_rfl) (fun _ _ _ h => h) (Or.inl ⟨by rfl, ?_⟩) hHeld ?_
        rotate_left
        · (intro w hSw; have q0 := HQ.out; have f0 := P0.out w hSw; have f1 := P1.out w hSw; have f34 := P34.out w hSw; have fb := PB.out w hSw; unfold c32a19; go_simp <;> with_reducible rfl)
        try simp only [c32a19, Act.put, List.setIfInBounds_toArray, List.set_cons_zero, List.set_cons_succ]
        refine wpAnyH_take (i := 20) (oi := c32a20) (v := ?_) rfl (by kernel_rfl) (by kernel_rfl) (by kernel_rfl) (fun _ _ _ h => h) (Or.inl ⟨by rfl, ?_⟩) hHeld ?_
        rotate_left
        · (intro w hSw; (try dsimp only at hSw); unfold c32a20; go_simp <;> with_reducible rfl)
        try simp only [c32a20, Act.put, List.setIfInBounds_toArray, List.set_cons_zero, List.set_cons_succ]
        refine wpAnyH_take (i := 21) (oi := c32a21) (v := ?_) rfl (by kernel_rfl) (by kernel_rfl) (by kernel_rfl) (fun _ _ _ h => h) (Or.inl ⟨by rfl, ?_⟩) hHeld ?_
        rotate_left
        · (intro w hSw; (try dsimp only at hSw); unfold c32a21; go_simp <;> with_reducible rfl)
        try simp only [c32a21, Act.put, List.setIfInBounds_toArray, List.set_cons_zero, List.set_cons_succ]
        refine wpAnyH_take (i := 22) (oi := c32a22) (v := ?_) rfl (by kernel_rfl) (by kernel_rfl) (by kernel_rfl) (fun _ _ _ h => h) (Or.inl ⟨by rfl, ?_⟩) hHeld ?_
        rotate_left
        · (intro w hSw; (try dsimp only at hSw); unfold c32a22; go_simp <;> with_reducible rfl)
        try simp only [c32a22, Act.put, List.setIfInBounds_toArray, List.set_cons_zero, List.set_cons_succ]
        refine wpAnyH_take (i := 23) (oi := c32a23) (v := ?_) rfl (by kernel_rfl) (by kernel_rfl) (by kernel_rfl) (fun _ _ _ h => h) (Or.inl ⟨by rfl, ?_⟩) hHeld ?_
        rotate_left
        · (intro w hSw; (try dsimp only at hSw); unfold c32a23; go_simp <;> with_reducible rfl)
        try simp only [c32a23, Act.put, List.setIfInBounds_toArray, List.set_cons_zero, List.set_cons_succ]
        refine wpAnyH_take (i := 24) (oi := c32a24) (v := ?_) rfl (by kernel_rfl) (by kernel_rfl) (by kernel_rfl) (fun _ _ _ h => h) (Or.inl ⟨by rfl, ?_⟩) hHeld ?_
        rotate_left
        · (intro w hSw; (try dsimp only at hSw); unfold c32a24; go_simp <;> with_reducible rfl)
        try simp only [c32a24, Act.put, List.setIfInBounds_toArray, List.set_cons_zero, List.set_cons_succ]
        refine wpAnyH_take (i := 25) (oi := c32a25) (v := ?_) rfl (by kernel_rfl) (by kernel_rfl) (by kernel_rfl) (fun _ _ _ h => h) (Or.inl ⟨by rfl, ?_⟩) hHeld ?_
        rotate_left
        · (intro w hSw; have q0 := HQ.out; have f0 := P0.out w hSw; have f1 := P1.out w hSw; have f34 := P34.out w hSw; have fb := PB.out w hSw; unfold c32a25; go_simp <;> with_reducible rfl)
        try simp only [c32a25, Act.put, List.setIfInBounds_toArray, List.set_cons_zero, List.set_cons_succ]
        refine wpAnyH_take (i := 26) (oi := c32a26) (v := ?_) rfl (by kernel_rfl) (by kernel_rfl) (by kernel_rfl) (fun _ _ _ h => h) (Or.inl ⟨by rfl, ?_⟩) hHeld ?_
        rotate_left
        · (intro w hSw; (try dsimp only at hSw); unfold c32a26; go_simp <;> with_reducible rfl)
        try simp only [c32a26, Act.put, List.setIfInBounds_toArray, List.set_cons_zero, List.set_cons_succ]
        refine wpAnyH_take (i := 27) (oi := c32a27) (v := ?_) rfl (by kernel_rfl) (by kernel_rfl) (by kernel_rfl) (fun _ _ _ h => h) (Or.inl ⟨by rfl, ?_⟩) hHeld ?_
        rotate_left
        · (intro w hSw; (try dsimp only at hSw); unfold c32a27; go_simp <;> with_reducible rfl)
        try simp only [c32a27, Act.put, List.setIfInBounds_toArray, List.set_cons_zero, List.set_cons_succ]
        refine wpAnyH_take (i := 28) (oi := c32a28) (v := ?_) rfl (by kernel_rfl) (by kernel_rfl) (by kernel_rfl) (fun _ _ _ h => h) (Or.inl ⟨by rfl, ?_⟩) hHeld ?_
        rotate_left
        · (intro w hSw; (try dsimp only at hSw); unfold c32a28; go_simp <;> with_reducible rfl)
        try simp only [c32a28, Act.put, List.setIfInBounds_toArray, List.set_cons_zero, List.set_cons_succ]
        refine wpAnyH_take (i := 29) (oi := c32a29) (v := ?_) rfl (by kernel_rfl) (by kernel_rfl) (by kernel_rfl) (fun _ _ _ h => h) (Or.inl ⟨by rfl, ?_⟩) hHeld ?_
        rotate_left
        · (intro w hSw; (try dsimp only at hSw); unfold c32a29; go_simp <;> with_reducible rfl)
        try simp only [c32a29, Act.put, List.setIfInBounds_toArray, List.set_cons_zero, List.set_cons_succ]
        refine wpAnyH_take (i := 30) (oi := c32a30) (v := ?_) rfl (by kernel_rfl) (by kernel_rfl) (by kernel_rfl) (fun _ _ _ h => h) (Or.inl ⟨by rfl, ?_⟩) hHeld ?_
        rotate_left
        · (intro w hSw; (try dsimp only at hSw); unfold c32a30; go_simp <;> with_reducible rfl)
        try simp only [c32a30, Act.put, List.setIfInBounds_toArray, List.set_cons_zero, List.set_cons_succ]
        refine wpAnyH_take (i := 31) (oi := c32a31) rfl (by kernel_rfl) (by kernel_rfl) (by kernel_rfl) (fun _ _ _ h => h) (yieldsIf_load_mid (by rfl) 30 (.tmp 48) (by rfl) wr.heap.size 2 (by rfl) pa _ (fun w hSw => PA.out w hSw) Tryd.underlying30 rfl HZP.out) hHeld ?_
        try simp only [c32a31, Act.put, List.setIfInBounds_toArray, List.set_cons_zero, List.set_cons_succ]
        refine wpAnyH_take (i := 32) (oi := c32a32) (v := ?_) rfl (by kernel_rfl) (by kernel_rfl) (by kernel_rfl) (fun _ _ _ h => h) (Or.inl ⟨by rfl, ?_⟩) hHeld ?_
        rotate_left
        · (intro w hSw; (try dsimp only at hSw); unfold c32a32; go_simp <;> with_reducible rfl)
        try simp only [c32a32, Act.put, List.setIfInBounds_toArray, List.set_cons_zero, List.set_cons_succ]
        refine wpAnyH_take (i := 33) (oi := c32a33) (v := ?_) rfl (by kernel_rfl) (by kernel_rfl) (by kernel_rfl) (fun _ _ _ h => h) (Or.inl ⟨by rfl, ?_⟩) hHeld ?_
        rotate_left
        · (intro w hSw; (try dsimp only at hSw); unfold c32a33; go_simp <;> with_reducible rfl)
        try simp only [c32a33, Act.put, List.setIfInBounds_toArray, List.set_cons_zero, List.set_cons_succ]
        refine wpAnyH_take (i := 34) (oi := c32a34) (v := ?_) rfl (by kernel_rfl) (by kernel_rfl) (by kernel_rfl) (fun _ _ _ h => h) (Or.inl ⟨by rfl, ?_⟩) hHeld ?_
        rotate_left
        · (intro w hSw; (try dsimp only at hSw); unfold c32a34; go_simp <;> with_reducible rfl)
        try simp only [c32a34, Act.put, List.setIfInBounds_toArray, List.set_cons_zero, List.set_cons_succ]
        refine wpAnyH_ready (rs := [35]) (by kernel_rfl) (by simp) ?_
        refine AllReadyH.cons (o := c32a35) rfl (fun K hK => ?_) AllReadyH.nil
        rw [if_pos (by rfl)]
        unfold c32a35
        go_simp
        (with_reducible refine (HHD.out _ hHeld).mono ?_)
        rintro e W35 ⟨rfl, hB35⟩
        have hS35 := hHeld.next hB35
        go_wp2_with fail
        refine hK.out _ _ hS35 (fun hHeld => ?_)
        clear hK K
        try simp only [c32a35, Act.put, List.setIfInBounds_toArray, List.set_cons_zero, List.set_cons_succ]
        refine wpAnyH_take (i := 36) (oi := c32a36) (v := ?_) rfl (by kernel_rfl) (by kernel_rfl) (by kernel_rfl) (fun _ _ _ h => h) (Or.inl ⟨by rfl, ?_⟩) hHeld ?_
        rotate_left
        · (intro w hSw; have q0 := HQ.out; have f0 := P0.out w hSw; have f1 := P1.out w hSw; have f34 := P34.out w hSw; have fb := PB.out w hSw; unfold c32a36; go_simp <;> with_reducible rfl)
        try simp only [c32a36, Act.put, List.setIfInBounds_toArray, List.set_cons_zero, List.set_cons_succ]
        refine wpAnyH_take (i := 37) (oi := c32a37) (v := ?_) rfl (by kernel_rfl) (by kernel_rfl) (by kernel_rfl) (fun _ _ _ h => h) (Or.inl ⟨by rfl, ?_⟩) hHeld ?_
        rotate_left
        · (intro w hSw; (try dsimp only at hSw); unfold c32a37; go_simp <;> with_reducible rfl)
        try simp only [c32a37, Act.put, List.setIfInBounds_toArray, List.set_cons_zero, List.set_cons_succ]
        refine wpAnyH_done (by kernel_rfl) ?_ _
        have HST := Lib.hid hHeld
        clear hHeld hS35 hB35
        cases bh with
        | true =>
          go_wp2
          go_roundw
          case rel => exact ⟨t + 1, by simp, by omega, HB0.out.trans (HST.out.mono HB0.out.size), Lib.hid (fun j hj1 hj => by
            rcases Nat.lt_succ_iff_lt_or_eq.1 hj with h | rfl
            · exact HJ.out j hj1 h
            · exact HGD.out rfl)⟩
          case measure => simp [intOf]; omega
        | false =>
          have hr := HBD.out rfl
          subst hr
          go_wp2
          go_returns
          exact ⟨rfl, HB0.out.trans (HST.out.mono HB0.out.size)⟩
      · obtain rfl : t = N := by omega
        have hr := HALL.out (by rw [HN.out]; omega) (fun j hj => HJ.out j hj (by have := HN.out; omega))
        subst hr
        have e1 : decide ((t : Int) < (t : Int)) = false := by simp
        have e2 : decide (t < t) = false := by simp
        go_wp2
        go_returns
        exact ⟨rfl, HB.out⟩
end Go.Proofs.YtfmngeemhfpeiaaDoor

namespace Go.Proofs.YtfmngeemhfpeiaaDoor
open Go.RowKit

set_option maxRecDepth 100000 in
set_option maxHeartbeats 8000000 in
theorem lawSpec (w : World) (v : Value) (l : List Lk) (hv : LRow0 w w.heap.size v l) (hT : Tab w) (h0 : 0 < w.heap.size) :
    Calls Tryd.prog 10 #[v] w fun e w' => e = .returned (.bool true) ∧ Below w.heap.size w w' := by
  have HFA := Lib.hid (fun W (hW : Below w.heap.size w W) => few_any W v l (hv.at hW))
  have HSA := Lib.hid (sane_any w hT h0)
  have hv0 := hv
  obtain ⟨a, cap, rfl, h1, h2⟩ : ∃ a cap, v = .slice a l.length cap ∧ l.length ≤ cap ∧ cap ≤ maxLen := by obtain ⟨_, a, cap, h, h1, h2, _⟩ := hv; exact ⟨a, cap, h, h1, h2⟩
  unfold maxLen at h2
  cases hla : fewL l with
  | false =>
    rw [hla] at HFA
    obtain ⟨N, hN⟩ : ∃ N, l.length = N := ⟨_, rfl⟩
    rw [hN] at HFA ⊢
    clear hv hv0 hla hN h1
    go_enter Tryd.func10, Tryd.ntmps10
    go_wp2_with fail
    refine HSA.out.mono ?_
    rintro e w1 ⟨rfl, hb1⟩
    have HB1 := Lib.hid hb1
    clear hb1
    go_wp2_with (go_at_call 30; with_reducible refine (HFA.out _ HB1.out).mono ?_; rintro e w2 ⟨rfl, rfl⟩)
    go_returns
    exact ⟨rfl, HB1.out⟩
  | true =>
    obtain ⟨hl, hl16⟩ := fewL_row hv0 hla
    rw [hla] at HFA
    have hca : ∀ W, Below w.heap.size w W → Calls Tryd.prog 31 #[.slice a l.length cap] W fun e w' => e = .returned (.int .i64 (chk l)) ∧ Below W.heap.size W w' := fun W hW => check_any W _ l (hl.at hW) (by omega) (hT.below hW h0) (by have := hW.size; omega)
    have hcr : ∀ W, Below w.heap.size w W → Calls Tryd.prog 32 #[.slice a l.length cap] W fun e w' => e = .returned (.int .i64 (chk l)) ∧ Below W.heap.size W w' := fun W hW => rcheck_any W _ l (hl.at hW) (by omega)
    have hha : ∀ W, Below w.heap.size w W → Calls Tryd.prog 33 #[.slice a l.length cap] W fun e w' => e = .returned (.agg (cells8 (hd l)).toArray) ∧ Below W.heap.size W w' := fun W hW => head_any W _ l (hl.at hW) (hT.below hW h0) (by have := hW.size; omega)
    have hhr : ∀ W, Below w.heap.size w W → Calls Tryd.prog 34 #[.slice a l.length cap] W fun e w' => e = .returned (.agg (cells8 (hd l)).toArray) ∧ Below W.heap.size W w' := fun W hW => rhead_any W _ l (hl.at hW)
    have hq := fun (W : World) => dig_eq (hd l) (hd l) (hd_len _) (hd_len _) W
    simp only [decide_true, dv_eq] at hq
    obtain ⟨N, hN⟩ : ∃ N, l.length = N := ⟨_, rfl⟩
    rw [hN] at HFA hca hcr hha hhr ⊢
    generalize chk l = ea at *
    obtain ⟨c1, hc1⟩ : ∃ c, cells8 (hd l) = c := ⟨_, rfl⟩
    rw [hc1] at hha hhr
    simp only [hc1] at hq
    have HCA := Lib.hid hca
    have HCR := Lib.hid hcr
    have HHA := Lib.hid hha
    have HHR := Lib.hid hhr
    clear hca hcr hha hhr hv hv0 hla hl hN hc1 hT h1
    go_enter Tryd.func10, Tryd.ntmps10
    go_wp2_with fail
    refine HSA.out.mono ?_
    rintro e w1 ⟨rfl, hb1⟩
    have HB1 := Lib.hid hb1
    clear hb1
    go_wp2_with (first
      | (go_at_call 30; with_reducible refine (HFA.out _ HB1.out).mono ?_; rintro e w2 ⟨rfl, rfl⟩)
      | (go_at_call 31; with_reducible refine (HCA.out _ HB1.out).mono ?_; rintro e w2 ⟨rfl, hb2⟩; have HB2 := Lib.hid (HB1.out.trans (hb2.mono HB1.out.size)); clear hb2)
      | (go_at_call 32; with_reducible refine (HCR.out _ HB2.out).mono ?_; rintro e w3 ⟨rfl, hb3⟩; have HB3 := Lib.hid (HB2.out.trans (hb3.mono HB2.out.size)); clear hb3)
      | (go_at_call 33; with_reducible refine (HHA.out _ HB3.out).mono ?_; rintro e w4 ⟨rfl, hb4⟩; have HB4 := Lib.hid (HB3.out.trans (hb4.mono HB3.out.size)); clear hb4)
      | (go_at_call 34; with_reducible refine (HHR.out _ HB4.out).mono ?_; rintro e w5 ⟨rfl, hb5⟩; have HB5 := Lib.hid (HB4.out.trans (hb5.mono HB4.out.size)); clear hb5))
    go_returns
    exact ⟨rfl, HB5.out⟩
end Go.Proofs.YtfmngeemhfpeiaaDoor
