/- MerkleSplit, walked. -/
import Derived.Test.YtfmngeemhfpeiaaDoorMlv
import Derived.Test.YtfmngeemhfpeiaaDoorRmw
namespace Go.Proofs.YtfmngeemhfpeiaaDoor
open Go.RowKit

/-- A region that draws, cut at its end. -/
theorem wp_region_post {id : Nat} {P : Program} {a : Act} {w : World} {l : List Oper} {Q : Exit → Act → World → Prop} (S : World → Prop) (Post : Act → World → Prop) (hm : P.follows .mixedOrders = true) (hS : S w.drew)
    (h : S w.drew → wpAnyH P .any l.toArray (Ends Post) S l.toArray.size (Array.replicate l.toArray.size false) a w.drew) (hr : ∀ a' w', Post a' w' → Q .normal a' w') : (Code.region id l.toArray true).wp P Q a w := by
  refine Code.wp_mono (Q := Ends Post) ?_ (wp_region_held_drew (S := S) hm hS h)
  intro e a' w' h
  cases e <;> first | exact hr _ _ h | exact h.elim
theorem Tryd.elem22 : Tryd.prog.elem 22 = 34 := by simp [Program.elem, Tryd.underlying22]
theorem Tryd.slice22 : Tryd.prog.underlying 22 = some (.slice (Tryd.prog.elem 22)) := by rw [Tryd.elem22]; exact Tryd.underlying22
theorem Tryd.info34s : (Tryd.prog.info? 34).map (·.size) = some 1 := by kernel_rfl
theorem Tryd.sizeOf34 (W : World) : (sizeOf 34).run Tryd.prog W = .ok 1 W := by
  obtain ⟨i, hi, h⟩ := Option.map_eq_some_iff.1 Tryd.info34s
  simp [sizeOf, typeInfo, hi, h]
theorem slice22_h (a : Option Addr) (N cap k : Nat) (h : k ≤ cap) (W : World) : (Instr.slice 22 (.slice a N cap) none (some (.int .i64 (k : Int))) none).run Tryd.prog W = .ok (.slice a k cap) W := by
  rw [run_slice_h W 22 _ _ _ Tryd.slice22 .i64 _ (by omega) (by omega), Tryd.elem22, Tryd.sizeOf34]
  simp only [Result.andThen, sliced, Int.toNat_natCast, Nat.sub_zero]
  cases a <;> simp [Addr.add]
theorem slice22_l (b off N cap k : Nat) (h : k < N) (hc : N ≤ cap) (W : World) : (Instr.slice 22 (.slice (some ⟨b, off, none⟩) N cap) (some (.int .i64 (k : Int))) none none).run Tryd.prog W = .ok (.slice (some ⟨b, off + k, none⟩) (N - k) (cap - k)) W := by
  rw [run_slice_l W 22 _ _ _ Tryd.slice22 .i64 _ (by omega) (by omega), Tryd.elem22, Tryd.sizeOf34]
  have e : ¬ cap - k = 0 := by omega
  by_cases hk : k = 0
  · subst hk
    simp [Result.andThen, sliced, Addr.add]
  · simp [Result.andThen, sliced, Int.toNat_natCast, Addr.add, hk]
    intro e3
    omega
theorem BRows.drop {w : World} {B N cap b off : Nat} {l : List (List UInt8)} (h : BRows w B (.slice (some ⟨b, off, none⟩) N cap) l) {k : Nat} (hk : k < N) : BRows w B (.slice (some ⟨b, off + k, none⟩) (N - k) (cap - k)) (l.drop k) := by
  obtain ⟨a', c', e, h1, h2, h3⟩ := h
  injection e with e1 e2 e3
  subst e2
  subst e3
  have hl : (l.drop k).length = l.length - k := List.length_drop
  refine ⟨_, cap - k, by rw [hl], by rw [hl]; omega, by unfold maxLen at *; omega, .inr ?_⟩
  obtain ⟨b', off', h4, h5, h6⟩ := h3.resolve_left (fun e => by subst e; simp at hk)
  rw [← e1] at h4
  injection h4 with h4
  injection h4 with h7 h8
  subst h7
  subst h8
  refine ⟨_, _, rfl, h5, fun i hi => ?_⟩
  rw [hl] at hi
  obtain ⟨d, h9, h10⟩ := h6 (k + i) (by omega)
  refine ⟨d, by rw [Nat.add_assoc]; exact h9, ?_⟩
  rw [List.getElem_drop]
  exact h10

def c8a0 : Oper := { dst := some 23, op := Go.Op.move (Go.Operand.tmp 0), type := 22, pos := "law.go:117", after := #[], guard := none }
def c8a1 : Oper := { dst := some 24, op := Go.Op.move (Go.Operand.tmp 3), type := 3, pos := "law.go:117", after := #[], guard := none }
def c8a2 : Oper := { dst := some 25, op := Go.Op.slice 22 (Go.Operand.tmp 23) none (some (Go.Operand.tmp 24)) none, type := 22, pos := "law.go:117", after := #[{ on := 0, ground := Go.Ground.data }, { on := 1, ground := Go.Ground.data }], guard := none }
def c8a3 : Oper := { dst := some 26, op := Go.Op.call { callee := Go.Callee.value (Go.Operand.func 20), args := #[Go.Operand.tmp 25], argTypes := #[22] }, type := 30, pos := "law.go:117", after := #[{ on := 2, ground := Go.Ground.data }], guard := none }
def c8a4 : Oper := { dst := some 27, op := Go.Op.move (Go.Operand.tmp 0), type := 22, pos := "law.go:117", after := #[], guard := none }
def c8a5 : Oper := { dst := some 28, op := Go.Op.move (Go.Operand.tmp 3), type := 3, pos := "law.go:117", after := #[], guard := none }
def c8a6 : Oper := { dst := some 29, op := Go.Op.slice 22 (Go.Operand.tmp 27) (some (Go.Operand.tmp 28)) none none, type := 22, pos := "law.go:117", after := #[{ on := 4, ground := Go.Ground.data }, { on := 5, ground := Go.Ground.data }], guard := none }
def c8a7 : Oper := { dst := some 30, op := Go.Op.call { callee := Go.Callee.value (Go.Operand.func 20), args := #[Go.Operand.tmp 29], argTypes := #[22] }, type := 30, pos := "law.go:117", after := #[{ on := 6, ground := Go.Ground.data }, { on := 3, ground := Go.Ground.chain }], guard := none }
def c8a8 : Oper := { dst := some 4, op := Go.Op.alloc 30, type := 0, pos := "law.go:117", after := #[], guard := none }
def c8a9 : Oper := { dst := some 5, op := Go.Op.alloc 30, type := 0, pos := "law.go:117", after := #[], guard := none }
def c8a10 : Oper := { dst := none, op := Go.Op.store 30 (Go.Operand.tmp 4) (Go.Operand.tmp 26), type := 0, pos := "law.go:117", after := #[{ on := 8, ground := Go.Ground.data }, { on := 3, ground := Go.Ground.data }, { on := 7, ground := Go.Ground.chain }, { on := 0, ground := Go.Ground.phase }, { on := 1, ground := Go.Ground.phase }, { on := 2, ground := Go.Ground.phase }, { on := 3, ground := Go.Ground.phase }, { on := 4, ground := Go.Ground.textOnly Go.Departure.lateStores }, { on := 5, ground := Go.Ground.textOnly Go.Departure.lateStores }, { on := 6, ground := Go.Ground.textOnly Go.Departure.lateStoresUnsure }, { on := 7, ground := Go.Ground.phase }, { on := 8, ground := Go.Ground.phase }, { on := 9, ground := Go.Ground.phase }], guard := none }
def c8a11 : Oper := { dst := none, op := Go.Op.store 30 (Go.Operand.tmp 5) (Go.Operand.tmp 30), type := 0, pos := "law.go:117", after := #[{ on := 9, ground := Go.Ground.data }, { on := 7, ground := Go.Ground.data }, { on := 10, ground := Go.Ground.chain }, { on := 0, ground := Go.Ground.phase }, { on := 1, ground := Go.Ground.phase }, { on := 2, ground := Go.Ground.phase }, { on := 3, ground := Go.Ground.phase }, { on := 4, ground := Go.Ground.phase }, { on := 5, ground := Go.Ground.phase }, { on := 6, ground := Go.Ground.phase }, { on := 7, ground := Go.Ground.phase }, { on := 8, ground := Go.Ground.phase }, { on := 9, ground := Go.Ground.phase }, { on := 10, ground := Go.Ground.phase }], guard := none }
def c8b0 : Oper := { dst := some 31, op := Go.Op.move (Go.Operand.tmp 0), type := 22, pos := "law.go:118", after := #[], guard := none }
def c8b1 : Oper := { dst := some 32, op := Go.Op.call { callee := Go.Callee.value (Go.Operand.func 20), args := #[Go.Operand.tmp 31], argTypes := #[22] }, type := 30, pos := "law.go:118", after := #[{ on := 0, ground := Go.Ground.data }], guard := none }
def c8b2 : Oper := { dst := some 33, op := Go.Op.buildSlice 34 0 #[], type := 34, pos := "law.go:118", after := #[], guard := none }
def c8b3 : Oper := { dst := some 34, op := Go.Op.slice 30 (Go.Operand.tmp 4) none none none, type := 34, pos := "law.go:118", after := #[], guard := none }
def c8b4 : Oper := { dst := some 35, op := Go.Op.call { callee := Go.Callee.builtin Go.Builtin.append, args := #[Go.Operand.tmp 33, Go.Operand.tmp 34], argTypes := #[34, 34] }, type := 34, pos := "law.go:118", after := #[{ on := 2, ground := Go.Ground.data }, { on := 3, ground := Go.Ground.data }, { on := 1, ground := Go.Ground.chain }], guard := none }
def c8b5 : Oper := { dst := some 36, op := Go.Op.slice 30 (Go.Operand.tmp 5) none none none, type := 34, pos := "law.go:118", after := #[], guard := none }
def c8b6 : Oper := { dst := some 37, op := Go.Op.call { callee := Go.Callee.builtin Go.Builtin.append, args := #[Go.Operand.tmp 35, Go.Operand.tmp 36], argTypes := #[34, 34] }, type := 34, pos := "law.go:118", after := #[{ on := 4, ground := Go.Ground.data }, { on := 5, ground := Go.Ground.data }, { on := 4, ground := Go.Ground.chain }], guard := none }
def c8b7 : Oper := { dst := some 38, op := Go.Op.call { callee := Go.Callee.value (Go.Operand.func 28), args := #[Go.Operand.const (Go.Value.string { data := #[110, 111, 100, 101] }), Go.Operand.tmp 37], argTypes := #[9, 34] }, type := 30, pos := "law.go:118", after := #[{ on := 6, ground := Go.Ground.data }, { on := 6, ground := Go.Ground.chain }], guard := none }
def c8b8 : Oper := { dst := some 39, op := Go.Op.binOp Go.BinOp.eql 30 (Go.Operand.tmp 32) (Go.Operand.tmp 38) 30, type := 4, pos := "law.go:118", after := #[{ on := 1, ground := Go.Ground.data }, { on := 7, ground := Go.Ground.data }], guard := none }
def c8b9 : Oper := { dst := some 2, op := Go.Op.assign (Go.Operand.tmp 39), type := 4, pos := "law.go:118", after := #[{ on := 8, ground := Go.Ground.data }, { on := 7, ground := Go.Ground.chain }, { on := 0, ground := Go.Ground.phase }, { on := 1, ground := Go.Ground.phase }, { on := 2, ground := Go.Ground.phase }, { on := 3, ground := Go.Ground.phase }, { on := 4, ground := Go.Ground.phase }, { on := 5, ground := Go.Ground.phase }, { on := 6, ground := Go.Ground.phase }, { on := 7, ground := Go.Ground.phase }, { on := 8, ground := Go.Ground.phase }], guard := none }

set_option maxRecDepth 100000 in
set_option maxHeartbeats 16000000 in
theorem lawSplit (w : World) (v : Value) (l : List (List UInt8)) (hv : BRows w w.heap.size v l) (hT : Tab w) (h0 : 0 < w.heap.size) :
    Calls Tryd.prog 8 #[v] w fun e w' => e = .returned (.bool true) ∧ Below w.heap.size w w' := by
  have HS := Lib.hid (msane_any w hT h0)
  have HFE := Lib.hid (fun (W : World) (hW : Below w.heap.size w W) => mfew_any W v l (hv.at hW))
  have HRO := Lib.hid (fun (W : World) (hW : Below w.heap.size w W) (hf : fewB l) => root_any W v l (hv.at hW) (fun b hb => by have := hf.2 b hb; omega) (by have := hf.1; omega) (hT.below hW h0) (by have := hW.size; omega))
  have HTT := Lib.hid hT
  have HV := Lib.hid hv
  obtain ⟨a, cap, rfl, hNc, hcm, _⟩ := id hv
  obtain ⟨N, hN⟩ : ∃ N, l.length = N := ⟨_, rfl⟩
  rw [hN] at HFE HRO HV hNc ⊢
  have HN := Lib.hid hN
  unfold maxLen at hcm
  have HPT : Hid (0 < N → ∃ b0 off0, a = some ⟨b0, off0, none⟩) := Lib.hid fun h => by
    obtain ⟨a', c', e, _, _, h3⟩ := HV.out
    injection e with e1 e2 e3
    obtain ⟨b0, off0, h4, _⟩ := h3.resolve_left (fun e => by subst e; simp at e2; omega)
    exact ⟨b0, off0, e1.trans h4⟩
  clear hv hT hN
  go_enter Tryd.func8, Tryd.ntmps8
  go_wp2_with fail
  refine HS.out.mono ?_
  rintro e w1 ⟨rfl, hb1⟩
  have HB1 := Lib.hid hb1
  clear hb1
  go_wp2_with fail
  refine (HFE.out w1 HB1.out).mono ?_
  rintro e w1 ⟨B, rfl, hB, rfl⟩
  cases B with
  | false =>
    go_wp2
    go_returns
    exact ⟨rfl, HB1.out⟩
  | true =>
  have hfew := hB rfl
  have HFW := Lib.hid hfew
  have hN40 : N ≤ 40 := by rw [← HN.out]; exact hfew.1
  clear hB hfew
  by_cases hN2 : N < 2
  · have k1 : decide ((N : Int) < 2) = true := by simp; omega
    have k2 : decide (N < 2) = true := by simp; omega
    go_wp2
    go_returns
    exact ⟨rfl, HB1.out⟩
  have k1 : decide ((N : Int) < 2) = false := by simp; omega
  have k2 : decide (N < 2) = false := by simp; omega
  obtain ⟨b0, off0, rfl⟩ := HPT.out (by omega)
  have HRT0 := Lib.hid (fun W hW => HRO.out W hW HFW.out)
  have HLC0 : Hid ((mroot l).length = 32) := Lib.hid (mroot_len l (by intro e; have := HN.out; rw [e] at this; simp at this; omega))
  have hq := fun W : World => dig_eq (mroot l) (mroot l) HLC0.out HLC0.out W
  simp only [decide_true, dv_eq] at hq
  obtain ⟨cc, hcc⟩ : ∃ x, cells8 (mroot l) = x := ⟨_, rfl⟩
  rw [hcc] at hq
  simp only [hcc] at HRT0
  have HQ := Lib.hid hq
  have HCC := Lib.hid hcc
  clear hq hcc HRO HFE
  go_wp2
  go_loopw [3] (fun s3 wr => ∃ j k : Nat, s3 = .int .i64 (k : Int) ∧ Hid (k = 2 ^ j) ∧ k < N ∧ w1 = wr) (fun s3 _ => 64 - (intOf s3).toNat)
  case atStart => exact ⟨0, 1, rfl, Lib.hid rfl, by omega, rfl⟩
  case round =>
    obtain ⟨j, k, rfl, HKJ, hkN, rfl⟩ := hrel
    have iw : IntKind.i64.wrap (2 * (k : Int)) = 2 * (k : Int) := by rw [IntKind.wrap_i64]; omega
    have hk1 : 1 ≤ k := by rw [HKJ.out]; exact Nat.pow_pos (by omega)
    by_cases h2 : 2 * k < N
    · have f1 : decide (2 * (k : Int) < (N : Int)) = true := by simp; omega
      go_wp2
      go_roundw
      case rel => exact ⟨j + 1, 2 * k, by simp, Lib.hid (by rw [Nat.pow_succ, ← HKJ.out]; omega), h2, trivial⟩
      case measure => simp [intOf]; omega
    have f1 : decide (2 * (k : Int) < (N : Int)) = false := by simp; omega
    have HSP0 := Lib.hid (mroot_split j l (by rw [← HKJ.out, HN.out]; exact hkN) (by rw [Nat.pow_succ, ← HKJ.out, HN.out]; omega))
    rw [← HKJ.out] at HSP0
    have hs1 := fun W : World => slice22_h (some ⟨b0, off0, none⟩) N cap k (by omega) W
    have hs2 := fun W : World => slice22_l b0 off0 N cap k hkN hNc W
    have HVA := Lib.hid (HV.out.take (Nat.le_of_lt hkN))
    have HVB := Lib.hid (HV.out.drop hkN)
    have HRA := Lib.hid (fun (W : World) (hW : Kept w1 W) => root_any W _ (l.take k) (HVA.out.at (HB1.out.trans (hW.below.mono HB1.out.size))) (fun b hb => by have := HFW.out.2 b (List.mem_of_mem_take hb); omega) (by rw [List.length_take]; omega) (HTT.out.below (HB1.out.trans (hW.below.mono HB1.out.size)) h0) (by have := HB1.out.size; have := hW.below.size; omega))
    have HRB := Lib.hid (fun (W : World) (hW : Kept w1 W) => root_any W _ (l.drop k) (HVB.out.at (HB1.out.trans (hW.below.mono HB1.out.size))) (fun b hb => by have := HFW.out.2 b (List.mem_of_mem_drop hb); omega) (by rw [List.length_drop]; have := HN.out; omega) (HTT.out.below (HB1.out.trans (hW.below.mono HB1.out.size)) h0) (by have := HB1.out.size; have := hW.below.size; omega))
    have hla := mroot_len (l.take k) (by intro e; have := congrArg List.length e; rw [List.length_take, HN.out] at this; simp at this; omega)
    have hlb := mroot_len (l.drop k) (by intro e; have := congrArg List.length e; rw [List.length_drop, HN.out] at this; simp at this; omega)
    obtain ⟨RA, hRA⟩ : ∃ x, mroot (l.take k) = x := ⟨_, rfl⟩
    obtain ⟨RB, hRB⟩ : ∃ x, mroot (l.drop k) = x := ⟨_, rfl⟩
    rw [hRA] at HSP0 HRA hla
    rw [hRB] at HSP0 HRB hlb
    have HCA := Lib.hid hla
    have HCB := Lib.hid hlb
    have HLA : Hid ((cells8 RA).length = 32) := Lib.hid (by rw [cells8_len, hla])
    have HLB : Hid ((cells8 RB).length = 32) := Lib.hid (by rw [cells8_len, hlb])
    have HOA : Hid (∀ v ∈ cells8 RA, v.oneCell' = true) := Lib.hid (one_cells8 _)
    have HOB : Hid (∀ v ∈ cells8 RB, v.oneCell' = true) := Lib.hid (one_cells8 _)
    obtain ⟨ca, hca⟩ : ∃ x, cells8 RA = x := ⟨_, rfl⟩
    obtain ⟨cb, hcb⟩ : ∃ x, cells8 RB = x := ⟨_, rfl⟩
    rw [hca] at HRA HLA HOA
    rw [hcb] at HRB HLB HOB
    have HEA := Lib.hid hca
    have HEB := Lib.hid hcb
    have HEC : Hid (dv (mroot l) = .agg cc.toArray) := Lib.hid (by rw [dv_eq, HCC.out])
    have HSP : Hid (mroot l = tagged [110, 111, 100, 101] (RA ++ RB)) := Lib.hid HSP0.out
    have HZA : Hid ((Tryd.prog.info? 30).map (·.size) = some ca.length) := Lib.hid (by rw [HLA.out]; exact Tryd.info30)
    have HZB : Hid ((Tryd.prog.info? 30).map (·.size) = some cb.length) := Lib.hid (by rw [HLB.out]; exact Tryd.info30)
    clear hRA hRB hla hlb hca hcb HSP0 HVA HVB
    go_upto_region 8 with fail
    refine wp_region_post (fun W => Kept w1 W) (fun a W => ∃ g4 g5, a = { tmps := (.slice (some ⟨b0, off0, none⟩) N cap :: undef :: .bool false :: .int .i64 (k : Int) :: .pointer (some ⟨g4, 0, none⟩) :: .pointer (some ⟨g5, 0, none⟩) :: .bool true :: .bool false :: .slice (some ⟨b0, off0, none⟩) N cap :: .bool true :: .bool false :: .bool false :: .slice (some ⟨b0, off0, none⟩) N cap :: .int .i64 (N : Int) :: .bool false :: .bool false :: .int .i64 (k : Int) :: .int .i64 (2 * (k : Int)) :: .slice (some ⟨b0, off0, none⟩) N cap :: .int .i64 (N : Int) :: .bool false :: u21 :: u22 :: .slice (some ⟨b0, off0, none⟩) N cap :: .int .i64 (k : Int) :: .slice (some ⟨b0, off0, none⟩) k cap :: .agg ca.toArray :: .slice (some ⟨b0, off0, none⟩) N cap :: .int .i64 (k : Int) :: .slice (some ⟨b0, off0 + k, none⟩) (N - k) (cap - k) :: .agg cb.toArray :: undef :: undef :: undef :: undef :: undef :: undef :: undef :: undef :: undef :: [] : List Value).toArray, defers := [] } ∧ Kept w1 W ∧ Arr W g4 ca ∧ Arr W g5 cb) (by kernel_rfl) (Kept.drew (Kept.refl w1)) (fun hHeld => ?_) ?_
    rotate_left
    · rintro a3 w3 ⟨g4, g5, rfl, hk3, ha3, hb3⟩
      have HB3 := Lib.hid (HB1.out.trans (hk3.below.mono HB1.out.size))
      have hza := ha3.lt (by rw [HLA.out]; omega)
      have hzb := hb3.lt (by rw [HLB.out]; omega)
      have HA3 := Lib.hid ha3
      have HC3 := Lib.hid hb3
      clear hk3 ha3 hb3 HRA HRB
      have HBA : Hid (∀ W, Kept w3 W → BytesAt W W.heap.size (.slice (some ⟨g4, 0, none⟩) 32 32) RA) := Lib.hid fun W hW => by
        have hz := hW.below.size
        have hca := HCA.out
        refine ⟨_, 32, by rw [HCA.out], by omega, by unfold maxLen; omega, .inr ⟨g4, 0, rfl, by omega, fun j hj => ?_⟩⟩
        rw [Nat.zero_add]
        exact (HA3.out.below hW.below (by omega)).cell (by simp [← HEA.out, cells8, List.getElem?_eq_getElem hj])
      have HBB : Hid (∀ W, Kept w3 W → BytesAt W W.heap.size (.slice (some ⟨g5, 0, none⟩) 32 32) RB) := Lib.hid fun W hW => by
        have hz := hW.below.size
        have hcb := HCB.out
        refine ⟨_, 32, by rw [HCB.out], by omega, by unfold maxLen; omega, .inr ⟨g5, 0, rfl, by omega, fun j hj => ?_⟩⟩
        rw [Nat.zero_add]
        exact (HC3.out.below hW.below (by omega)).cell (by simp [← HEB.out, cells8, List.getElem?_eq_getElem hj])
      have HRT : Hid (∀ W, Kept w3 W → Calls Tryd.prog 20 #[.slice (some ⟨b0, off0, none⟩) N cap] W fun e w' => e = .returned (.agg cc.toArray) ∧ Below W.heap.size W w') := Lib.hid fun W hW => HRT0.out W (HB3.out.trans (hW.below.mono HB3.out.size))
      have HTG : Hid (∀ (W : World) (v : Value), Kept w3 W → BytesAt W W.heap.size v (RA ++ RB) → Calls Tryd.prog 28 #[.string { data := #[110, 111, 100, 101] }, v] W fun e w' => e = .returned (.agg cc.toArray) ∧ Below W.heap.size W w') := Lib.hid fun W v hW hv => by
        rw [← HEC.out, HSP.out]
        exact tagged_any W { data := #[110, 111, 100, 101] } v (RA ++ RB) hv (by decide) (by rw [List.length_append, HCA.out, HCB.out]; omega) (HTT.out.below (HB3.out.trans (hW.below.mono HB3.out.size)) h0) (by have := HB3.out.size; have := hW.below.size; omega)
      clear HA3 HC3 hza hzb
      go_upto_region 9 with fail
      refine wp_region_held_drew (S := fun W => Kept w3 W) (by kernel_rfl) (Kept.drew (Kept.refl w3)) (fun hHeld => ?_)
      refine wpAnyH_take (i := 0) (oi := c8b0) (v := ?_) rfl (by kernel_rfl) (by kernel_rfl) (by kernel_rfl) (fun _ _ _ h => h) (Or.inl ⟨by rfl, ?_⟩) hHeld ?_
      rotate_left
      · (intro w hSw; (try dsimp only at hSw); unfold c8b0; go_simp <;> with_reducible rfl)
      try simp only [c8b0, Act.put, List.setIfInBounds_toArray, List.set_cons_zero, List.set_cons_succ]
      refine wpAnyH_take (i := 3) (oi := c8b3) (v := ?_) rfl (by kernel_rfl) (by kernel_rfl) (by kernel_rfl) (fun _ _ _ h => h) (Or.inl ⟨by rfl, ?_⟩) hHeld ?_
      rotate_left
      · (intro w hSw; (try dsimp only at hSw); unfold c8b3; go_simp <;> with_reducible rfl)
      try simp only [c8b3, Act.put, List.setIfInBounds_toArray, List.set_cons_zero, List.set_cons_succ]
      refine wpAnyH_take (i := 5) (oi := c8b5) (v := ?_) rfl (by kernel_rfl) (by kernel_rfl) (by kernel_rfl) (fun _ _ _ h => h) (Or.inl ⟨by rfl, ?_⟩) hHeld ?_
      rotate_left
      · (intro w hSw; (try dsimp only at hSw); unfold c8b5; go_simp <;> with_reducible rfl)
      try simp only [c8b5, Act.put, List.setIfInBounds_toArray, List.set_cons_zero, List.set_cons_succ]
      refine wpAnyH_ready (rs := [1, 2]) (by kernel_rfl) (by simp) ?_
      refine AllReadyH.cons (o := c8b1) rfl (fun K hK => ?_) (AllReadyH.cons (o := c8b2) rfl (fun K hK => ?_) AllReadyH.nil)
      · skip
        rw [if_pos (by rfl)]
        unfold c8b1
        go_simp
        (with_reducible refine (HRT.out _ hHeld).mono ?_)
        rintro e X1 ⟨rfl, hB1⟩
        have hS1 := hHeld.next hB1
        go_wp2_with fail
        refine hK.out _ _ hS1 (fun hHeld => ?_)
        clear hK K
        try simp only [c8b1, Act.put, List.setIfInBounds_toArray, List.set_cons_zero, List.set_cons_succ]
        refine wpAnyH_ready (rs := [2]) (by kernel_rfl) (by simp) ?_
        refine AllReadyH.cons (o := c8b2) rfl (fun K hK => ?_) AllReadyH.nil
        rw [if_pos (by rfl)]
        have hG2 := gro_new X1
        have hz2 := hHeld.below.size
        refine wp_buildSlice_run 34 0 [] (by rfl) [] _ (by rfl) (bs0_22 _) ?_
        have hS2 := hHeld.next hG2.2
        generalize hX2 : World.alloc X1 (.cells #[] 5) = X2 at hG2 hS2 ⊢
        clear hX2
        refine hK.out _ _ hS2 (fun hHeld => ?_)
        clear hK K
        try simp only [c8b2, Act.put, List.setIfInBounds_toArray, List.set_cons_zero, List.set_cons_succ]
        refine wpAnyH_ready (rs := [4]) (by kernel_rfl) (by simp) ?_
        refine AllReadyH.cons (o := c8b4) rfl (fun K hK => ?_) AllReadyH.nil
        rw [if_pos (by rfl)]
        obtain ⟨v4, W4, hr4, hG4, hB4⟩ := gro_app hG2.1 hG2.2.size (HBA.out _ hHeld) (by rw [HCA.out]; simp)
        rw [List.nil_append] at hG4
        skip
        refine wp_app_run (.tmp 33) (.tmp 34) 34 34 (by rfl) _ _ _ _ (by rfl) (by rfl) hr4 ?_
        have hl4 : _ ≤ W4.heap.size := hB4.size
        have hS4 := hHeld.below.trans (hB4.mono hz2)
        refine hK.out _ _ hS4 (fun hHeld => ?_)
        clear hK K
        try simp only [c8b4, Act.put, List.setIfInBounds_toArray, List.set_cons_zero, List.set_cons_succ]
        refine wpAnyH_ready (rs := [6]) (by kernel_rfl) (by simp) ?_
        refine AllReadyH.cons (o := c8b6) rfl (fun K hK => ?_) AllReadyH.nil
        rw [if_pos (by rfl)]
        obtain ⟨v6, W6, hr6, hG6, hB6⟩ := gro_app hG4 (Nat.le_trans hG2.2.size hl4) (HBB.out _ hHeld) (by rw [HCA.out, HCB.out]; omega)
        refine wp_app_run (.tmp 35) (.tmp 36) 34 34 (by rfl) _ _ _ _ (by rfl) (by rfl) hr6 ?_
        have hS6 := hHeld.below.trans (hB6.mono hz2)
        refine hK.out _ _ hS6 (fun hHeld => ?_)
        clear hK K
        try simp only [c8b6, Act.put, List.setIfInBounds_toArray, List.set_cons_zero, List.set_cons_succ]
        refine wpAnyH_ready (rs := [7]) (by kernel_rfl) (by simp) ?_
        refine AllReadyH.cons (o := c8b7) rfl (fun K hK => ?_) AllReadyH.nil
        rw [if_pos (by rfl)]
        unfold c8b7
        go_simp
        (with_reducible refine (HTG.out _ _ hHeld hG6.bytes).mono ?_)
        rintro e X7 ⟨rfl, hB7⟩
        have hS7 := hHeld.next hB7
        go_wp2_with fail
        refine hK.out _ _ hS7 (fun hHeld => ?_)
        clear hK K
        try simp only [c8b7, Act.put, List.setIfInBounds_toArray, List.set_cons_zero, List.set_cons_succ]
        refine wpAnyH_take (i := 8) (oi := c8b8) (v := ?_) rfl (by kernel_rfl) (by kernel_rfl) (by kernel_rfl) (fun _ _ _ h => h) (Or.inl ⟨by rfl, ?_⟩) hHeld ?_
        rotate_left
        · (intro w hSw; have q5 := HQ.out; unfold c8b8; go_simp <;> with_reducible rfl)
        try simp only [c8b8, Act.put, List.setIfInBounds_toArray, List.set_cons_zero, List.set_cons_succ]
        refine wpAnyH_take (i := 9) (oi := c8b9) (v := ?_) rfl (by kernel_rfl) (by kernel_rfl) (by kernel_rfl) (fun _ _ _ h => h) (Or.inl ⟨by rfl, ?_⟩) hHeld ?_
        rotate_left
        · (intro w hSw; (try dsimp only at hSw); unfold c8b9; go_simp <;> with_reducible rfl)
        try simp only [c8b9, Act.put, List.setIfInBounds_toArray, List.set_cons_zero, List.set_cons_succ]
        refine wpAnyH_done (by kernel_rfl) ?_ _
        have HST := Lib.hid hHeld
        clear hHeld
        go_wp2
        go_returns
        exact ⟨rfl, HB3.out.trans (HST.out.below.mono HB3.out.size)⟩
      · skip
        rw [if_pos (by rfl)]
        have hG2 := gro_new w3.drew
        have hz2 := hHeld.below.size
        refine wp_buildSlice_run 34 0 [] (by rfl) [] _ (by rfl) (bs0_22 _) ?_
        have hS2 := hHeld.next hG2.2
        generalize hX2 : World.alloc w3.drew (.cells #[] 5) = X2 at hG2 hS2 ⊢
        clear hX2
        refine hK.out _ _ hS2 (fun hHeld => ?_)
        clear hK K
        try simp only [c8b2, Act.put, List.setIfInBounds_toArray, List.set_cons_zero, List.set_cons_succ]
        refine wpAnyH_ready (rs := [1]) (by kernel_rfl) (by simp) ?_
        refine AllReadyH.cons (o := c8b1) rfl (fun K hK => ?_) AllReadyH.nil
        rw [if_pos (by rfl)]
        unfold c8b1
        go_simp
        (with_reducible refine (HRT.out _ hHeld).mono ?_)
        rintro e X1 ⟨rfl, hB1⟩
        have hS1 := hHeld.next hB1
        have hGr := hG2.1.below hB1
        have hGl := Nat.le_trans hG2.2.size hB1.size
        go_wp2_with fail
        refine hK.out _ _ hS1 (fun hHeld => ?_)
        clear hK K
        try simp only [c8b1, Act.put, List.setIfInBounds_toArray, List.set_cons_zero, List.set_cons_succ]
        refine wpAnyH_ready (rs := [4]) (by kernel_rfl) (by simp) ?_
        refine AllReadyH.cons (o := c8b4) rfl (fun K hK => ?_) AllReadyH.nil
        rw [if_pos (by rfl)]
        obtain ⟨v4, W4, hr4, hG4, hB4⟩ := gro_app hGr hGl (HBA.out _ hHeld) (by rw [HCA.out]; simp)
        rw [List.nil_append] at hG4
        skip
        refine wp_app_run (.tmp 33) (.tmp 34) 34 34 (by rfl) _ _ _ _ (by rfl) (by rfl) hr4 ?_
        have hl4 : _ ≤ W4.heap.size := hB4.size
        have hS4 := hHeld.below.trans (hB4.mono hz2)
        refine hK.out _ _ hS4 (fun hHeld => ?_)
        clear hK K
        try simp only [c8b4, Act.put, List.setIfInBounds_toArray, List.set_cons_zero, List.set_cons_succ]
        refine wpAnyH_ready (rs := [6]) (by kernel_rfl) (by simp) ?_
        refine AllReadyH.cons (o := c8b6) rfl (fun K hK => ?_) AllReadyH.nil
        rw [if_pos (by rfl)]
        obtain ⟨v6, W6, hr6, hG6, hB6⟩ := gro_app hG4 (Nat.le_trans hGl hl4) (HBB.out _ hHeld) (by rw [HCA.out, HCB.out]; omega)
        refine wp_app_run (.tmp 35) (.tmp 36) 34 34 (by rfl) _ _ _ _ (by rfl) (by rfl) hr6 ?_
        have hS6 := hHeld.below.trans (hB6.mono hz2)
        refine hK.out _ _ hS6 (fun hHeld => ?_)
        clear hK K
        try simp only [c8b6, Act.put, List.setIfInBounds_toArray, List.set_cons_zero, List.set_cons_succ]
        refine wpAnyH_ready (rs := [7]) (by kernel_rfl) (by simp) ?_
        refine AllReadyH.cons (o := c8b7) rfl (fun K hK => ?_) AllReadyH.nil
        rw [if_pos (by rfl)]
        unfold c8b7
        go_simp
        (with_reducible refine (HTG.out _ _ hHeld hG6.bytes).mono ?_)
        rintro e X7 ⟨rfl, hB7⟩
        have hS7 := hHeld.next hB7
        go_wp2_with fail
        refine hK.out _ _ hS7 (fun hHeld => ?_)
        clear hK K
        try simp only [c8b7, Act.put, List.setIfInBounds_toArray, List.set_cons_zero, List.set_cons_succ]
        refine wpAnyH_take (i := 8) (oi := c8b8) (v := ?_) rfl (by kernel_rfl) (by kernel_rfl) (by kernel_rfl) (fun _ _ _ h => h) (Or.inl ⟨by rfl, ?_⟩) hHeld ?_
        rotate_left
        · (intro w hSw; have q5 := HQ.out; unfold c8b8; go_simp <;> with_reducible rfl)
        try simp only [c8b8, Act.put, List.setIfInBounds_toArray, List.set_cons_zero, List.set_cons_succ]
        refine wpAnyH_take (i := 9) (oi := c8b9) (v := ?_) rfl (by kernel_rfl) (by kernel_rfl) (by kernel_rfl) (fun _ _ _ h => h) (Or.inl ⟨by rfl, ?_⟩) hHeld ?_
        rotate_left
        · (intro w hSw; (try dsimp only at hSw); unfold c8b9; go_simp <;> with_reducible rfl)
        try simp only [c8b9, Act.put, List.setIfInBounds_toArray, List.set_cons_zero, List.set_cons_succ]
        refine wpAnyH_done (by kernel_rfl) ?_ _
        have HST := Lib.hid hHeld
        clear hHeld
        go_wp2
        go_returns
        exact ⟨rfl, HB3.out.trans (HST.out.below.mono HB3.out.size)⟩
    refine wpAnyH_take (i := 0) (oi := c8a0) (v := ?_) rfl (by kernel_rfl) (by kernel_rfl) (by kernel_rfl) (fun _ _ _ h => h) (Or.inl ⟨by rfl, ?_⟩) hHeld ?_
    rotate_left
    · (intro w hSw; (try dsimp only at hSw); unfold c8a0; go_simp <;> with_reducible rfl)
    try simp only [c8a0, Act.put, List.setIfInBounds_toArray, List.set_cons_zero, List.set_cons_succ]
    refine wpAnyH_take (i := 1) (oi := c8a1) (v := ?_) rfl (by kernel_rfl) (by kernel_rfl) (by kernel_rfl) (fun _ _ _ h => h) (Or.inl ⟨by rfl, ?_⟩) hHeld ?_
    rotate_left
    · (intro w hSw; (try dsimp only at hSw); unfold c8a1; go_simp <;> with_reducible rfl)
    try simp only [c8a1, Act.put, List.setIfInBounds_toArray, List.set_cons_zero, List.set_cons_succ]
    refine wpAnyH_take (i := 2) (oi := c8a2) (v := ?_) rfl (by kernel_rfl) (by kernel_rfl) (by kernel_rfl) (fun _ _ _ h => h) (Or.inl ⟨by rfl, ?_⟩) hHeld ?_
    rotate_left
    · (intro w hSw; (try dsimp only at hSw); unfold c8a2; go_simp <;> with_reducible rfl)
    try simp only [c8a2, Act.put, List.setIfInBounds_toArray, List.set_cons_zero, List.set_cons_succ]
    refine wpAnyH_take (i := 4) (oi := c8a4) (v := ?_) rfl (by kernel_rfl) (by kernel_rfl) (by kernel_rfl) (fun _ _ _ h => h) (Or.inl ⟨by rfl, ?_⟩) hHeld ?_
    rotate_left
    · (intro w hSw; (try dsimp only at hSw); unfold c8a4; go_simp <;> with_reducible rfl)
    try simp only [c8a4, Act.put, List.setIfInBounds_toArray, List.set_cons_zero, List.set_cons_succ]
    refine wpAnyH_take (i := 5) (oi := c8a5) (v := ?_) rfl (by kernel_rfl) (by kernel_rfl) (by kernel_rfl) (fun _ _ _ h => h) (Or.inl ⟨by rfl, ?_⟩) hHeld ?_
    rotate_left
    · (intro w hSw; (try dsimp only at hSw); unfold c8a5; go_simp <;> with_reducible rfl)
    try simp only [c8a5, Act.put, List.setIfInBounds_toArray, List.set_cons_zero, List.set_cons_succ]
    refine wpAnyH_take (i := 6) (oi := c8a6) (v := ?_) rfl (by kernel_rfl) (by kernel_rfl) (by kernel_rfl) (fun _ _ _ h => h) (Or.inl ⟨by rfl, ?_⟩) hHeld ?_
    rotate_left
    · (intro w hSw; (try dsimp only at hSw); unfold c8a6; go_simp <;> with_reducible rfl)
    try simp only [c8a6, Act.put, List.setIfInBounds_toArray, List.set_cons_zero, List.set_cons_succ]
    refine wpAnyH_ready (rs := [3, 8, 9]) (by kernel_rfl) (by simp) ?_
    refine AllReadyH.cons (o := c8a3) rfl (fun K hK => ?_) (AllReadyH.cons (o := c8a8) rfl (fun K hK => ?_) (AllReadyH.cons (o := c8a9) rfl (fun K hK => ?_) AllReadyH.nil))
    · skip
      rw [if_pos (by rfl)]
      unfold c8a3
      go_simp
      (with_reducible refine (HRA.out _ hHeld).mono ?_)
      rintro e W3 ⟨rfl, hB3⟩
      have hG3 := gbelow (row := none) hB3
      have hS3 := Kept.moved hHeld hG3 (fun _ h => by cases h)
      go_wp2_with fail
      refine hK.out _ _ hS3 (fun hHeld => ?_)
      clear hK K
      try simp only [c8a3, Act.put, List.setIfInBounds_toArray, List.set_cons_zero, List.set_cons_succ]
      refine wpAnyH_ready (rs := [7, 8, 9]) (by kernel_rfl) (by simp) ?_
      refine AllReadyH.cons (o := c8a7) rfl (fun K hK => ?_) (AllReadyH.cons (o := c8a8) rfl (fun K hK => ?_) (AllReadyH.cons (o := c8a9) rfl (fun K hK => ?_) AllReadyH.nil))
      · skip
        rw [if_pos (by rfl)]
        unfold c8a7
        go_simp
        (with_reducible refine (HRB.out _ hHeld).mono ?_)
        rintro e W7 ⟨rfl, hB7⟩
        have hG7 := gbelow (row := none) hB7
        have hS7 := Kept.moved hHeld hG7 (fun _ h => by cases h)
        go_wp2_with fail
        refine hK.out _ _ hS7 (fun hHeld => ?_)
        clear hK K
        try simp only [c8a7, Act.put, List.setIfInBounds_toArray, List.set_cons_zero, List.set_cons_succ]
        refine wpAnyH_ready (rs := [8, 9]) (by kernel_rfl) (by simp) ?_
        refine AllReadyH.cons (o := c8a8) rfl (fun K hK => ?_) (AllReadyH.cons (o := c8a9) rfl (fun K hK => ?_) AllReadyH.nil)
        · skip
          rw [if_pos (by rfl)]
          refine wp_alloc26 (by rfl) ?_
          intro g8 W8 hle8 hlt8 hG8 ka_8
          have le_g8 := Nat.le_trans hHeld.below.size hle8
          have hS8 := Kept.moved hHeld hG8 (fun _ h => by cases h)
          refine hK.out _ _ hS8 (fun hHeld => ?_)
          clear hK K
          try simp only [c8a8, Act.put, List.setIfInBounds_toArray, List.set_cons_zero, List.set_cons_succ]
          refine wpAnyH_ready (rs := [9]) (by kernel_rfl) (by simp) ?_
          refine AllReadyH.cons (o := c8a9) rfl (fun K hK => ?_) AllReadyH.nil
          rw [if_pos (by rfl)]
          refine wp_alloc26 (by rfl) ?_
          intro g9 W9 hle9 hlt9 hG9 kb_9
          have le_g9 := Nat.le_trans hHeld.below.size hle9
          have hS9 := Kept.moved hHeld hG9 (fun _ h => by cases h)
          have ne_g8_g9 : g8 ≠ g9 := by have := hlt8; have := hle9; omega
          have ka_9 := Arr.moved ka_8 hG9 hlt8 (by simp)
          have lt_ka_9 := Nat.lt_of_lt_of_le hlt8 hG9.size
          clear ka_8 hlt8
          refine hK.out _ _ hS9 (fun hHeld => ?_)
          clear hK K
          try simp only [c8a9, Act.put, List.setIfInBounds_toArray, List.set_cons_zero, List.set_cons_succ]
          refine wpAnyH_ready (rs := [10]) (by kernel_rfl) (by simp) ?_
          refine AllReadyH.cons (o := c8a10) rfl (fun K hK => ?_) AllReadyH.nil
          rw [if_pos (by rfl)]
          refine wp_st26 (.tmp 4) (.tmp 26) (by rfl) g8 ca _ (by rfl) (by rfl) ka_9 (by rw [HLA.out]; rfl) HZA.out HOA.out ?_
          intro W10 hG10 ka_10
          have hS10 := Kept.moved hHeld hG10 (fun k hk => by cases hk; exact le_g8)
          have kb_10 := Arr.moved kb_9 hG10 hlt9 (by simpa using (Ne.symm ne_g8_g9))
          have lt_kb_10 := Nat.lt_of_lt_of_le hlt9 hG10.size
          have lt_ka_10 := Nat.lt_of_lt_of_le lt_ka_9 hG10.size
          clear ka_9
          clear kb_9
          refine hK.out _ _ hS10 (fun hHeld => ?_)
          clear hK K
          try simp only [c8a10, Act.put]
          refine wpAnyH_ready (rs := [11]) (by kernel_rfl) (by simp) ?_
          refine AllReadyH.cons (o := c8a11) rfl (fun K hK => ?_) AllReadyH.nil
          rw [if_pos (by rfl)]
          refine wp_st26 (.tmp 5) (.tmp 30) (by rfl) g9 cb _ (by rfl) (by rfl) kb_10 (by rw [HLB.out]; rfl) HZB.out HOB.out ?_
          intro W11 hG11 kb_11
          have hS11 := Kept.moved hHeld hG11 (fun k hk => by cases hk; exact le_g9)
          have ka_11 := Arr.moved ka_10 hG11 lt_ka_10 (by simpa using ne_g8_g9)
          have lt_ka_11 := Nat.lt_of_lt_of_le lt_ka_10 hG11.size
          have lt_kb_11 := Nat.lt_of_lt_of_le lt_kb_10 hG11.size
          clear ka_10
          clear kb_10
          refine hK.out _ _ hS11 (fun hHeld => ?_)
          clear hK K
          try simp only [c8a11, Act.put]
          refine wpAnyH_done (by kernel_rfl) ?_ _
          exact ⟨g8, g9, rfl, hHeld, ka_11, kb_11⟩
        · skip
          rw [if_pos (by rfl)]
          refine wp_alloc26 (by rfl) ?_
          intro g9 W9 hle9 hlt9 hG9 kb_9
          have le_g9 := Nat.le_trans hHeld.below.size hle9
          have hS9 := Kept.moved hHeld hG9 (fun _ h => by cases h)
          refine hK.out _ _ hS9 (fun hHeld => ?_)
          clear hK K
          try simp only [c8a9, Act.put, List.setIfInBounds_toArray, List.set_cons_zero, List.set_cons_succ]
          refine wpAnyH_ready (rs := [8]) (by kernel_rfl) (by simp) ?_
          refine AllReadyH.cons (o := c8a8) rfl (fun K hK => ?_) AllReadyH.nil
          rw [if_pos (by rfl)]
          refine wp_alloc26 (by rfl) ?_
          intro g8 W8 hle8 hlt8 hG8 ka_8
          have le_g8 := Nat.le_trans hHeld.below.size hle8
          have hS8 := Kept.moved hHeld hG8 (fun _ h => by cases h)
          have ne_g9_g8 : g9 ≠ g8 := by have := hlt9; have := hle8; omega
          have kb_8 := Arr.moved kb_9 hG8 hlt9 (by simp)
          have lt_kb_8 := Nat.lt_of_lt_of_le hlt9 hG8.size
          clear kb_9 hlt9
          refine hK.out _ _ hS8 (fun hHeld => ?_)
          clear hK K
          try simp only [c8a8, Act.put, List.setIfInBounds_toArray, List.set_cons_zero, List.set_cons_succ]
          refine wpAnyH_ready (rs := [10]) (by kernel_rfl) (by simp) ?_
          refine AllReadyH.cons (o := c8a10) rfl (fun K hK => ?_) AllReadyH.nil
          rw [if_pos (by rfl)]
          refine wp_st26 (.tmp 4) (.tmp 26) (by rfl) g8 ca _ (by rfl) (by rfl) ka_8 (by rw [HLA.out]; rfl) HZA.out HOA.out ?_
          intro W10 hG10 ka_10
          have hS10 := Kept.moved hHeld hG10 (fun k hk => by cases hk; exact le_g8)
          have kb_10 := Arr.moved kb_8 hG10 lt_kb_8 (by simpa using ne_g9_g8)
          have lt_kb_10 := Nat.lt_of_lt_of_le lt_kb_8 hG10.size
          have lt_ka_10 := Nat.lt_of_lt_of_le hlt8 hG10.size
          clear kb_8
          clear ka_8
          refine hK.out _ _ hS10 (fun hHeld => ?_)
          clear hK K
          try simp only [c8a10, Act.put]
          refine wpAnyH_ready (rs := [11]) (by kernel_rfl) (by simp) ?_
          refine AllReadyH.cons (o := c8a11) rfl (fun K hK => ?_) AllReadyH.nil
          rw [if_pos (by rfl)]
          refine wp_st26 (.tmp 5) (.tmp 30) (by rfl) g9 cb _ (by rfl) (by rfl) kb_10 (by rw [HLB.out]; rfl) HZB.out HOB.out ?_
          intro W11 hG11 kb_11
          have hS11 := Kept.moved hHeld hG11 (fun k hk => by cases hk; exact le_g9)
          have ka_11 := Arr.moved ka_10 hG11 lt_ka_10 (by simpa using (Ne.symm ne_g9_g8))
          have lt_ka_11 := Nat.lt_of_lt_of_le lt_ka_10 hG11.size
          have lt_kb_11 := Nat.lt_of_lt_of_le lt_kb_10 hG11.size
          clear kb_10
          clear ka_10
          refine hK.out _ _ hS11 (fun hHeld => ?_)
          clear hK K
          try simp only [c8a11, Act.put]
          refine wpAnyH_done (by kernel_rfl) ?_ _
          exact ⟨g8, g9, rfl, hHeld, ka_11, kb_11⟩
      · skip
        rw [if_pos (by rfl)]
        refine wp_alloc26 (by rfl) ?_
        intro g8 W8 hle8 hlt8 hG8 ka_8
        have le_g8 := Nat.le_trans hHeld.below.size hle8
        have hS8 := Kept.moved hHeld hG8 (fun _ h => by cases h)
        refine hK.out _ _ hS8 (fun hHeld => ?_)
        clear hK K
        try simp only [c8a8, Act.put, List.setIfInBounds_toArray, List.set_cons_zero, List.set_cons_succ]
        refine wpAnyH_ready (rs := [7, 9]) (by kernel_rfl) (by simp) ?_
        refine AllReadyH.cons (o := c8a7) rfl (fun K hK => ?_) (AllReadyH.cons (o := c8a9) rfl (fun K hK => ?_) AllReadyH.nil)
        · skip
          rw [if_pos (by rfl)]
          unfold c8a7
          go_simp
          (with_reducible refine (HRB.out _ hHeld).mono ?_)
          rintro e W7 ⟨rfl, hB7⟩
          have hG7 := gbelow (row := none) hB7
          have hS7 := Kept.moved hHeld hG7 (fun _ h => by cases h)
          have ka_7 := Arr.moved ka_8 hG7 hlt8 (by simp)
          have lt_ka_7 := Nat.lt_of_lt_of_le hlt8 hG7.size
          clear ka_8 hlt8
          go_wp2_with fail
          refine hK.out _ _ hS7 (fun hHeld => ?_)
          clear hK K
          try simp only [c8a7, Act.put, List.setIfInBounds_toArray, List.set_cons_zero, List.set_cons_succ]
          refine wpAnyH_ready (rs := [9]) (by kernel_rfl) (by simp) ?_
          refine AllReadyH.cons (o := c8a9) rfl (fun K hK => ?_) AllReadyH.nil
          rw [if_pos (by rfl)]
          refine wp_alloc26 (by rfl) ?_
          intro g9 W9 hle9 hlt9 hG9 kb_9
          have le_g9 := Nat.le_trans hHeld.below.size hle9
          have hS9 := Kept.moved hHeld hG9 (fun _ h => by cases h)
          have ne_g8_g9 : g8 ≠ g9 := by have := lt_ka_7; have := hle9; omega
          have ka_9 := Arr.moved ka_7 hG9 lt_ka_7 (by simp)
          have lt_ka_9 := Nat.lt_of_lt_of_le lt_ka_7 hG9.size
          clear ka_7 lt_ka_7
          refine hK.out _ _ hS9 (fun hHeld => ?_)
          clear hK K
          try simp only [c8a9, Act.put, List.setIfInBounds_toArray, List.set_cons_zero, List.set_cons_succ]
          refine wpAnyH_ready (rs := [10]) (by kernel_rfl) (by simp) ?_
          refine AllReadyH.cons (o := c8a10) rfl (fun K hK => ?_) AllReadyH.nil
          rw [if_pos (by rfl)]
          refine wp_st26 (.tmp 4) (.tmp 26) (by rfl) g8 ca _ (by rfl) (by rfl) ka_9 (by rw [HLA.out]; rfl) HZA.out HOA.out ?_
          intro W10 hG10 ka_10
          have hS10 := Kept.moved hHeld hG10 (fun k hk => by cases hk; exact le_g8)
          have kb_10 := Arr.moved kb_9 hG10 hlt9 (by simpa using (Ne.symm ne_g8_g9))
          have lt_kb_10 := Nat.lt_of_lt_of_le hlt9 hG10.size
          have lt_ka_10 := Nat.lt_of_lt_of_le lt_ka_9 hG10.size
          clear ka_9
          clear kb_9
          refine hK.out _ _ hS10 (fun hHeld => ?_)
          clear hK K
          try simp only [c8a10, Act.put]
          refine wpAnyH_ready (rs := [11]) (by kernel_rfl) (by simp) ?_
          refine AllReadyH.cons (o := c8a11) rfl (fun K hK => ?_) AllReadyH.nil
          rw [if_pos (by rfl)]
          refine wp_st26 (.tmp 5) (.tmp 30) (by rfl) g9 cb _ (by rfl) (by rfl) kb_10 (by rw [HLB.out]; rfl) HZB.out HOB.out ?_
          intro W11 hG11 kb_11
          have hS11 := Kept.moved hHeld hG11 (fun k hk => by cases hk; exact le_g9)
          have ka_11 := Arr.moved ka_10 hG11 lt_ka_10 (by simpa using ne_g8_g9)
          have lt_ka_11 := Nat.lt_of_lt_of_le lt_ka_10 hG11.size
          have lt_kb_11 := Nat.lt_of_lt_of_le lt_kb_10 hG11.size
          clear ka_10
          clear kb_10
          refine hK.out _ _ hS11 (fun hHeld => ?_)
          clear hK K
          try simp only [c8a11, Act.put]
          refine wpAnyH_done (by kernel_rfl) ?_ _
          exact ⟨g8, g9, rfl, hHeld, ka_11, kb_11⟩
        · skip
          rw [if_pos (by rfl)]
          refine wp_alloc26 (by rfl) ?_
          intro g9 W9 hle9 hlt9 hG9 kb_9
          have le_g9 := Nat.le_trans hHeld.below.size hle9
          have hS9 := Kept.moved hHeld hG9 (fun _ h => by cases h)
          have ne_g8_g9 : g8 ≠ g9 := by have := hlt8; have := hle9; omega
          have ka_9 := Arr.moved ka_8 hG9 hlt8 (by simp)
          have lt_ka_9 := Nat.lt_of_lt_of_le hlt8 hG9.size
          clear ka_8 hlt8
          refine hK.out _ _ hS9 (fun hHeld => ?_)
          clear hK K
          try simp only [c8a9, Act.put, List.setIfInBounds_toArray, List.set_cons_zero, List.set_cons_succ]
          refine wpAnyH_ready (rs := [7]) (by kernel_rfl) (by simp) ?_
          refine AllReadyH.cons (o := c8a7) rfl (fun K hK => ?_) AllReadyH.nil
          rw [if_pos (by rfl)]
          unfold c8a7
          go_simp
          (with_reducible refine (HRB.out _ hHeld).mono ?_)
          rintro e W7 ⟨rfl, hB7⟩
          have hG7 := gbelow (row := none) hB7
          have hS7 := Kept.moved hHeld hG7 (fun _ h => by cases h)
          have ka_7 := Arr.moved ka_9 hG7 lt_ka_9 (by simp)
          have lt_ka_7 := Nat.lt_of_lt_of_le lt_ka_9 hG7.size
          clear ka_9 lt_ka_9
          have kb_7 := Arr.moved kb_9 hG7 hlt9 (by simp)
          have lt_kb_7 := Nat.lt_of_lt_of_le hlt9 hG7.size
          clear kb_9 hlt9
          go_wp2_with fail
          refine hK.out _ _ hS7 (fun hHeld => ?_)
          clear hK K
          try simp only [c8a7, Act.put, List.setIfInBounds_toArray, List.set_cons_zero, List.set_cons_succ]
          refine wpAnyH_ready (rs := [10]) (by kernel_rfl) (by simp) ?_
          refine AllReadyH.cons (o := c8a10) rfl (fun K hK => ?_) AllReadyH.nil
          rw [if_pos (by rfl)]
          refine wp_st26 (.tmp 4) (.tmp 26) (by rfl) g8 ca _ (by rfl) (by rfl) ka_7 (by rw [HLA.out]; rfl) HZA.out HOA.out ?_
          intro W10 hG10 ka_10
          have hS10 := Kept.moved hHeld hG10 (fun k hk => by cases hk; exact le_g8)
          have kb_10 := Arr.moved kb_7 hG10 lt_kb_7 (by simpa using (Ne.symm ne_g8_g9))
          have lt_kb_10 := Nat.lt_of_lt_of_le lt_kb_7 hG10.size
          have lt_ka_10 := Nat.lt_of_lt_of_le lt_ka_7 hG10.size
          clear ka_7
          clear kb_7
          refine hK.out _ _ hS10 (fun hHeld => ?_)
          clear hK K
          try simp only [c8a10, Act.put]
          refine wpAnyH_ready (rs := [11]) (by kernel_rfl) (by simp) ?_
          refine AllReadyH.cons (o := c8a11) rfl (fun K hK => ?_) AllReadyH.nil
          rw [if_pos (by rfl)]
          refine wp_st26 (.tmp 5) (.tmp 30) (by rfl) g9 cb _ (by rfl) (by rfl) kb_10 (by rw [HLB.out]; rfl) HZB.out HOB.out ?_
          intro W11 hG11 kb_11
          have hS11 := Kept.moved hHeld hG11 (fun k hk => by cases hk; exact le_g9)
          have ka_11 := Arr.moved ka_10 hG11 lt_ka_10 (by simpa using ne_g8_g9)
          have lt_ka_11 := Nat.lt_of_lt_of_le lt_ka_10 hG11.size
          have lt_kb_11 := Nat.lt_of_lt_of_le lt_kb_10 hG11.size
          clear ka_10
          clear kb_10
          refine hK.out _ _ hS11 (fun hHeld => ?_)
          clear hK K
          try simp only [c8a11, Act.put]
          refine wpAnyH_done (by kernel_rfl) ?_ _
          exact ⟨g8, g9, rfl, hHeld, ka_11, kb_11⟩
      · skip
        rw [if_pos (by rfl)]
        refine wp_alloc26 (by rfl) ?_
        intro g9 W9 hle9 hlt9 hG9 kb_9
        have le_g9 := Nat.le_trans hHeld.below.size hle9
        have hS9 := Kept.moved hHeld hG9 (fun _ h => by cases h)
        refine hK.out _ _ hS9 (fun hHeld => ?_)
        clear hK K
        try simp only [c8a9, Act.put, List.setIfInBounds_toArray, List.set_cons_zero, List.set_cons_succ]
        refine wpAnyH_ready (rs := [7, 8]) (by kernel_rfl) (by simp) ?_
        refine AllReadyH.cons (o := c8a7) rfl (fun K hK => ?_) (AllReadyH.cons (o := c8a8) rfl (fun K hK => ?_) AllReadyH.nil)
        · skip
          rw [if_pos (by rfl)]
          unfold c8a7
          go_simp
          (with_reducible refine (HRB.out _ hHeld).mono ?_)
          rintro e W7 ⟨rfl, hB7⟩
          have hG7 := gbelow (row := none) hB7
          have hS7 := Kept.moved hHeld hG7 (fun _ h => by cases h)
          have kb_7 := Arr.moved kb_9 hG7 hlt9 (by simp)
          have lt_kb_7 := Nat.lt_of_lt_of_le hlt9 hG7.size
          clear kb_9 hlt9
          go_wp2_with fail
          refine hK.out _ _ hS7 (fun hHeld => ?_)
          clear hK K
          try simp only [c8a7, Act.put, List.setIfInBounds_toArray, List.set_cons_zero, List.set_cons_succ]
          refine wpAnyH_ready (rs := [8]) (by kernel_rfl) (by simp) ?_
          refine AllReadyH.cons (o := c8a8) rfl (fun K hK => ?_) AllReadyH.nil
          rw [if_pos (by rfl)]
          refine wp_alloc26 (by rfl) ?_
          intro g8 W8 hle8 hlt8 hG8 ka_8
          have le_g8 := Nat.le_trans hHeld.below.size hle8
          have hS8 := Kept.moved hHeld hG8 (fun _ h => by cases h)
          have ne_g9_g8 : g9 ≠ g8 := by have := lt_kb_7; have := hle8; omega
          have kb_8 := Arr.moved kb_7 hG8 lt_kb_7 (by simp)
          have lt_kb_8 := Nat.lt_of_lt_of_le lt_kb_7 hG8.size
          clear kb_7 lt_kb_7
          refine hK.out _ _ hS8 (fun hHeld => ?_)
          clear hK K
          try simp only [c8a8, Act.put, List.setIfInBounds_toArray, List.set_cons_zero, List.set_cons_succ]
          refine wpAnyH_ready (rs := [10]) (by kernel_rfl) (by simp) ?_
          refine AllReadyH.cons (o := c8a10) rfl (fun K hK => ?_) AllReadyH.nil
          rw [if_pos (by rfl)]
          refine wp_st26 (.tmp 4) (.tmp 26) (by rfl) g8 ca _ (by rfl) (by rfl) ka_8 (by rw [HLA.out]; rfl) HZA.out HOA.out ?_
          intro W10 hG10 ka_10
          have hS10 := Kept.moved hHeld hG10 (fun k hk => by cases hk; exact le_g8)
          have kb_10 := Arr.moved kb_8 hG10 lt_kb_8 (by simpa using ne_g9_g8)
          have lt_kb_10 := Nat.lt_of_lt_of_le lt_kb_8 hG10.size
          have lt_ka_10 := Nat.lt_of_lt_of_le hlt8 hG10.size
          clear kb_8
          clear ka_8
          refine hK.out _ _ hS10 (fun hHeld => ?_)
          clear hK K
          try simp only [c8a10, Act.put]
          refine wpAnyH_ready (rs := [11]) (by kernel_rfl) (by simp) ?_
          refine AllReadyH.cons (o := c8a11) rfl (fun K hK => ?_) AllReadyH.nil
          rw [if_pos (by rfl)]
          refine wp_st26 (.tmp 5) (.tmp 30) (by rfl) g9 cb _ (by rfl) (by rfl) kb_10 (by rw [HLB.out]; rfl) HZB.out HOB.out ?_
          intro W11 hG11 kb_11
          have hS11 := Kept.moved hHeld hG11 (fun k hk => by cases hk; exact le_g9)
          have ka_11 := Arr.moved ka_10 hG11 lt_ka_10 (by simpa using (Ne.symm ne_g9_g8))
          have lt_ka_11 := Nat.lt_of_lt_of_le lt_ka_10 hG11.size
          have lt_kb_11 := Nat.lt_of_lt_of_le lt_kb_10 hG11.size
          clear kb_10
          clear ka_10
          refine hK.out _ _ hS11 (fun hHeld => ?_)
          clear hK K
          try simp only [c8a11, Act.put]
          refine wpAnyH_done (by kernel_rfl) ?_ _
          exact ⟨g8, g9, rfl, hHeld, ka_11, kb_11⟩
        · skip
          rw [if_pos (by rfl)]
          refine wp_alloc26 (by rfl) ?_
          intro g8 W8 hle8 hlt8 hG8 ka_8
          have le_g8 := Nat.le_trans hHeld.below.size hle8
          have hS8 := Kept.moved hHeld hG8 (fun _ h => by cases h)
          have ne_g9_g8 : g9 ≠ g8 := by have := hlt9; have := hle8; omega
          have kb_8 := Arr.moved kb_9 hG8 hlt9 (by simp)
          have lt_kb_8 := Nat.lt_of_lt_of_le hlt9 hG8.size
          clear kb_9 hlt9
          refine hK.out _ _ hS8 (fun hHeld => ?_)
          clear hK K
          try simp only [c8a8, Act.put, List.setIfInBounds_toArray, List.set_cons_zero, List.set_cons_succ]
          refine wpAnyH_ready (rs := [7]) (by kernel_rfl) (by simp) ?_
          refine AllReadyH.cons (o := c8a7) rfl (fun K hK => ?_) AllReadyH.nil
          rw [if_pos (by rfl)]
          unfold c8a7
          go_simp
          (with_reducible refine (HRB.out _ hHeld).mono ?_)
          rintro e W7 ⟨rfl, hB7⟩
          have hG7 := gbelow (row := none) hB7
          have hS7 := Kept.moved hHeld hG7 (fun _ h => by cases h)
          have kb_7 := Arr.moved kb_8 hG7 lt_kb_8 (by simp)
          have lt_kb_7 := Nat.lt_of_lt_of_le lt_kb_8 hG7.size
          clear kb_8 lt_kb_8
          have ka_7 := Arr.moved ka_8 hG7 hlt8 (by simp)
          have lt_ka_7 := Nat.lt_of_lt_of_le hlt8 hG7.size
          clear ka_8 hlt8
          go_wp2_with fail
          refine hK.out _ _ hS7 (fun hHeld => ?_)
          clear hK K
          try simp only [c8a7, Act.put, List.setIfInBounds_toArray, List.set_cons_zero, List.set_cons_succ]
          refine wpAnyH_ready (rs := [10]) (by kernel_rfl) (by simp) ?_
          refine AllReadyH.cons (o := c8a10) rfl (fun K hK => ?_) AllReadyH.nil
          rw [if_pos (by rfl)]
          refine wp_st26 (.tmp 4) (.tmp 26) (by rfl) g8 ca _ (by rfl) (by rfl) ka_7 (by rw [HLA.out]; rfl) HZA.out HOA.out ?_
          intro W10 hG10 ka_10
          have hS10 := Kept.moved hHeld hG10 (fun k hk => by cases hk; exact le_g8)
          have kb_10 := Arr.moved kb_7 hG10 lt_kb_7 (by simpa using ne_g9_g8)
          have lt_kb_10 := Nat.lt_of_lt_of_le lt_kb_7 hG10.size
          have lt_ka_10 := Nat.lt_of_lt_of_le lt_ka_7 hG10.size
          clear kb_7
          clear ka_7
          refine hK.out _ _ hS10 (fun hHeld => ?_)
          clear hK K
          try simp only [c8a10, Act.put]
          refine wpAnyH_ready (rs := [11]) (by kernel_rfl) (by simp) ?_
          refine AllReadyH.cons (o := c8a11) rfl (fun K hK => ?_) AllReadyH.nil
          rw [if_pos (by rfl)]
          refine wp_st26 (.tmp 5) (.tmp 30) (by rfl) g9 cb _ (by rfl) (by rfl) kb_10 (by rw [HLB.out]; rfl) HZB.out HOB.out ?_
          intro W11 hG11 kb_11
          have hS11 := Kept.moved hHeld hG11 (fun k hk => by cases hk; exact le_g9)
          have ka_11 := Arr.moved ka_10 hG11 lt_ka_10 (by simpa using (Ne.symm ne_g9_g8))
          have lt_ka_11 := Nat.lt_of_lt_of_le lt_ka_10 hG11.size
          have lt_kb_11 := Nat.lt_of_lt_of_le lt_kb_10 hG11.size
          clear kb_10
          clear ka_10
          refine hK.out _ _ hS11 (fun hHeld => ?_)
          clear hK K
          try simp only [c8a11, Act.put]
          refine wpAnyH_done (by kernel_rfl) ?_ _
          exact ⟨g8, g9, rfl, hHeld, ka_11, kb_11⟩
    · skip
      rw [if_pos (by rfl)]
      refine wp_alloc26 (by rfl) ?_
      intro g8 W8 hle8 hlt8 hG8 ka_8
      have le_g8 := Nat.le_trans hHeld.below.size hle8
      have hS8 := Kept.moved hHeld hG8 (fun _ h => by cases h)
      refine hK.out _ _ hS8 (fun hHeld => ?_)
      clear hK K
      try simp only [c8a8, Act.put, List.setIfInBounds_toArray, List.set_cons_zero, List.set_cons_succ]
      refine wpAnyH_ready (rs := [3, 9]) (by kernel_rfl) (by simp) ?_
      refine AllReadyH.cons (o := c8a3) rfl (fun K hK => ?_) (AllReadyH.cons (o := c8a9) rfl (fun K hK => ?_) AllReadyH.nil)
      · skip
        rw [if_pos (by rfl)]
        unfold c8a3
        go_simp
        (with_reducible refine (HRA.out _ hHeld).mono ?_)
        rintro e W3 ⟨rfl, hB3⟩
        have hG3 := gbelow (row := none) hB3
        have hS3 := Kept.moved hHeld hG3 (fun _ h => by cases h)
        have ka_3 := Arr.moved ka_8 hG3 hlt8 (by simp)
        have lt_ka_3 := Nat.lt_of_lt_of_le hlt8 hG3.size
        clear ka_8 hlt8
        go_wp2_with fail
        refine hK.out _ _ hS3 (fun hHeld => ?_)
        clear hK K
        try simp only [c8a3, Act.put, List.setIfInBounds_toArray, List.set_cons_zero, List.set_cons_succ]
        refine wpAnyH_ready (rs := [7, 9]) (by kernel_rfl) (by simp) ?_
        refine AllReadyH.cons (o := c8a7) rfl (fun K hK => ?_) (AllReadyH.cons (o := c8a9) rfl (fun K hK => ?_) AllReadyH.nil)
        · skip
          rw [if_pos (by rfl)]
          unfold c8a7
          go_simp
          (with_reducible refine (HRB.out _ hHeld).mono ?_)
          rintro e W7 ⟨rfl, hB7⟩
          have hG7 := gbelow (row := none) hB7
          have hS7 := Kept.moved hHeld hG7 (fun _ h => by cases h)
          have ka_7 := Arr.moved ka_3 hG7 lt_ka_3 (by simp)
          have lt_ka_7 := Nat.lt_of_lt_of_le lt_ka_3 hG7.size
          clear ka_3 lt_ka_3
          go_wp2_with fail
          refine hK.out _ _ hS7 (fun hHeld => ?_)
          clear hK K
          try simp only [c8a7, Act.put, List.setIfInBounds_toArray, List.set_cons_zero, List.set_cons_succ]
          refine wpAnyH_ready (rs := [9]) (by kernel_rfl) (by simp) ?_
          refine AllReadyH.cons (o := c8a9) rfl (fun K hK => ?_) AllReadyH.nil
          rw [if_pos (by rfl)]
          refine wp_alloc26 (by rfl) ?_
          intro g9 W9 hle9 hlt9 hG9 kb_9
          have le_g9 := Nat.le_trans hHeld.below.size hle9
          have hS9 := Kept.moved hHeld hG9 (fun _ h => by cases h)
          have ne_g8_g9 : g8 ≠ g9 := by have := lt_ka_7; have := hle9; omega
          have ka_9 := Arr.moved ka_7 hG9 lt_ka_7 (by simp)
          have lt_ka_9 := Nat.lt_of_lt_of_le lt_ka_7 hG9.size
          clear ka_7 lt_ka_7
          refine hK.out _ _ hS9 (fun hHeld => ?_)
          clear hK K
          try simp only [c8a9, Act.put, List.setIfInBounds_toArray, List.set_cons_zero, List.set_cons_succ]
          refine wpAnyH_ready (rs := [10]) (by kernel_rfl) (by simp) ?_
          refine AllReadyH.cons (o := c8a10) rfl (fun K hK => ?_) AllReadyH.nil
          rw [if_pos (by rfl)]
          refine wp_st26 (.tmp 4) (.tmp 26) (by rfl) g8 ca _ (by rfl) (by rfl) ka_9 (by rw [HLA.out]; rfl) HZA.out HOA.out ?_
          intro W10 hG10 ka_10
          have hS10 := Kept.moved hHeld hG10 (fun k hk => by cases hk; exact le_g8)
          have kb_10 := Arr.moved kb_9 hG10 hlt9 (by simpa using (Ne.symm ne_g8_g9))
          have lt_kb_10 := Nat.lt_of_lt_of_le hlt9 hG10.size
          have lt_ka_10 := Nat.lt_of_lt_of_le lt_ka_9 hG10.size
          clear ka_9
          clear kb_9
          refine hK.out _ _ hS10 (fun hHeld => ?_)
          clear hK K
          try simp only [c8a10, Act.put]
          refine wpAnyH_ready (rs := [11]) (by kernel_rfl) (by simp) ?_
          refine AllReadyH.cons (o := c8a11) rfl (fun K hK => ?_) AllReadyH.nil
          rw [if_pos (by rfl)]
          refine wp_st26 (.tmp 5) (.tmp 30) (by rfl) g9 cb _ (by rfl) (by rfl) kb_10 (by rw [HLB.out]; rfl) HZB.out HOB.out ?_
          intro W11 hG11 kb_11
          have hS11 := Kept.moved hHeld hG11 (fun k hk => by cases hk; exact le_g9)
          have ka_11 := Arr.moved ka_10 hG11 lt_ka_10 (by simpa using ne_g8_g9)
          have lt_ka_11 := Nat.lt_of_lt_of_le lt_ka_10 hG11.size
          have lt_kb_11 := Nat.lt_of_lt_of_le lt_kb_10 hG11.size
          clear ka_10
          clear kb_10
          refine hK.out _ _ hS11 (fun hHeld => ?_)
          clear hK K
          try simp only [c8a11, Act.put]
          refine wpAnyH_done (by kernel_rfl) ?_ _
          exact ⟨g8, g9, rfl, hHeld, ka_11, kb_11⟩
        · skip
          rw [if_pos (by rfl)]
          refine wp_alloc26 (by rfl) ?_
          intro g9 W9 hle9 hlt9 hG9 kb_9
          have le_g9 := Nat.le_trans hHeld.below.size hle9
          have hS9 := Kept.moved hHeld hG9 (fun _ h => by cases h)
          have ne_g8_g9 : g8 ≠ g9 := by have := lt_ka_3; have := hle9; omega
          have ka_9 := Arr.moved ka_3 hG9 lt_ka_3 (by simp)
          have lt_ka_9 := Nat.lt_of_lt_of_le lt_ka_3 hG9.size
          clear ka_3 lt_ka_3
          refine hK.out _ _ hS9 (fun hHeld => ?_)
          clear hK K
          try simp only [c8a9, Act.put, List.setIfInBounds_toArray, List.set_cons_zero, List.set_cons_succ]
          refine wpAnyH_ready (rs := [7]) (by kernel_rfl) (by simp) ?_
          refine AllReadyH.cons (o := c8a7) rfl (fun K hK => ?_) AllReadyH.nil
          rw [if_pos (by rfl)]
          unfold c8a7
          go_simp
          (with_reducible refine (HRB.out _ hHeld).mono ?_)
          rintro e W7 ⟨rfl, hB7⟩
          have hG7 := gbelow (row := none) hB7
          have hS7 := Kept.moved hHeld hG7 (fun _ h => by cases h)
          have ka_7 := Arr.moved ka_9 hG7 lt_ka_9 (by simp)
          have lt_ka_7 := Nat.lt_of_lt_of_le lt_ka_9 hG7.size
          clear ka_9 lt_ka_9
          have kb_7 := Arr.moved kb_9 hG7 hlt9 (by simp)
          have lt_kb_7 := Nat.lt_of_lt_of_le hlt9 hG7.size
          clear kb_9 hlt9
          go_wp2_with fail
          refine hK.out _ _ hS7 (fun hHeld => ?_)
          clear hK K
          try simp only [c8a7, Act.put, List.setIfInBounds_toArray, List.set_cons_zero, List.set_cons_succ]
          refine wpAnyH_ready (rs := [10]) (by kernel_rfl) (by simp) ?_
          refine AllReadyH.cons (o := c8a10) rfl (fun K hK => ?_) AllReadyH.nil
          rw [if_pos (by rfl)]
          refine wp_st26 (.tmp 4) (.tmp 26) (by rfl) g8 ca _ (by rfl) (by rfl) ka_7 (by rw [HLA.out]; rfl) HZA.out HOA.out ?_
          intro W10 hG10 ka_10
          have hS10 := Kept.moved hHeld hG10 (fun k hk => by cases hk; exact le_g8)
          have kb_10 := Arr.moved kb_7 hG10 lt_kb_7 (by simpa using (Ne.symm ne_g8_g9))
          have lt_kb_10 := Nat.lt_of_lt_of_le lt_kb_7 hG10.size
          have lt_ka_10 := Nat.lt_of_lt_of_le lt_ka_7 hG10.size
          clear ka_7
          clear kb_7
          refine hK.out _ _ hS10 (fun hHeld => ?_)
          clear hK K
          try simp only [c8a10, Act.put]
          refine wpAnyH_ready (rs := [11]) (by kernel_rfl) (by simp) ?_
          refine AllReadyH.cons (o := c8a11) rfl (fun K hK => ?_) AllReadyH.nil
          rw [if_pos (by rfl)]
          refine wp_st26 (.tmp 5) (.tmp 30) (by rfl) g9 cb _ (by rfl) (by rfl) kb_10 (by rw [HLB.out]; rfl) HZB.out HOB.out ?_
          intro W11 hG11 kb_11
          have hS11 := Kept.moved hHeld hG11 (fun k hk => by cases hk; exact le_g9)
          have ka_11 := Arr.moved ka_10 hG11 lt_ka_10 (by simpa using ne_g8_g9)
          have lt_ka_11 := Nat.lt_of_lt_of_le lt_ka_10 hG11.size
          have lt_kb_11 := Nat.lt_of_lt_of_le lt_kb_10 hG11.size
          clear ka_10
          clear kb_10
          refine hK.out _ _ hS11 (fun hHeld => ?_)
          clear hK K
          try simp only [c8a11, Act.put]
          refine wpAnyH_done (by kernel_rfl) ?_ _
          exact ⟨g8, g9, rfl, hHeld, ka_11, kb_11⟩
      · skip
        rw [if_pos (by rfl)]
        refine wp_alloc26 (by rfl) ?_
        intro g9 W9 hle9 hlt9 hG9 kb_9
        have le_g9 := Nat.le_trans hHeld.below.size hle9
        have hS9 := Kept.moved hHeld hG9 (fun _ h => by cases h)
        have ne_g8_g9 : g8 ≠ g9 := by have := hlt8; have := hle9; omega
        have ka_9 := Arr.moved ka_8 hG9 hlt8 (by simp)
        have lt_ka_9 := Nat.lt_of_lt_of_le hlt8 hG9.size
        clear ka_8 hlt8
        refine hK.out _ _ hS9 (fun hHeld => ?_)
        clear hK K
        try simp only [c8a9, Act.put, List.setIfInBounds_toArray, List.set_cons_zero, List.set_cons_succ]
        refine wpAnyH_ready (rs := [3]) (by kernel_rfl) (by simp) ?_
        refine AllReadyH.cons (o := c8a3) rfl (fun K hK => ?_) AllReadyH.nil
        rw [if_pos (by rfl)]
        unfold c8a3
        go_simp
        (with_reducible refine (HRA.out _ hHeld).mono ?_)
        rintro e W3 ⟨rfl, hB3⟩
        have hG3 := gbelow (row := none) hB3
        have hS3 := Kept.moved hHeld hG3 (fun _ h => by cases h)
        have ka_3 := Arr.moved ka_9 hG3 lt_ka_9 (by simp)
        have lt_ka_3 := Nat.lt_of_lt_of_le lt_ka_9 hG3.size
        clear ka_9 lt_ka_9
        have kb_3 := Arr.moved kb_9 hG3 hlt9 (by simp)
        have lt_kb_3 := Nat.lt_of_lt_of_le hlt9 hG3.size
        clear kb_9 hlt9
        go_wp2_with fail
        refine hK.out _ _ hS3 (fun hHeld => ?_)
        clear hK K
        try simp only [c8a3, Act.put, List.setIfInBounds_toArray, List.set_cons_zero, List.set_cons_succ]
        refine wpAnyH_ready (rs := [7]) (by kernel_rfl) (by simp) ?_
        refine AllReadyH.cons (o := c8a7) rfl (fun K hK => ?_) AllReadyH.nil
        rw [if_pos (by rfl)]
        unfold c8a7
        go_simp
        (with_reducible refine (HRB.out _ hHeld).mono ?_)
        rintro e W7 ⟨rfl, hB7⟩
        have hG7 := gbelow (row := none) hB7
        have hS7 := Kept.moved hHeld hG7 (fun _ h => by cases h)
        have ka_7 := Arr.moved ka_3 hG7 lt_ka_3 (by simp)
        have lt_ka_7 := Nat.lt_of_lt_of_le lt_ka_3 hG7.size
        clear ka_3 lt_ka_3
        have kb_7 := Arr.moved kb_3 hG7 lt_kb_3 (by simp)
        have lt_kb_7 := Nat.lt_of_lt_of_le lt_kb_3 hG7.size
        clear kb_3 lt_kb_3
        go_wp2_with fail
        refine hK.out _ _ hS7 (fun hHeld => ?_)
        clear hK K
        try simp only [c8a7, Act.put, List.setIfInBounds_toArray, List.set_cons_zero, List.set_cons_succ]
        refine wpAnyH_ready (rs := [10]) (by kernel_rfl) (by simp) ?_
        refine AllReadyH.cons (o := c8a10) rfl (fun K hK => ?_) AllReadyH.nil
        rw [if_pos (by rfl)]
        refine wp_st26 (.tmp 4) (.tmp 26) (by rfl) g8 ca _ (by rfl) (by rfl) ka_7 (by rw [HLA.out]; rfl) HZA.out HOA.out ?_
        intro W10 hG10 ka_10
        have hS10 := Kept.moved hHeld hG10 (fun k hk => by cases hk; exact le_g8)
        have kb_10 := Arr.moved kb_7 hG10 lt_kb_7 (by simpa using (Ne.symm ne_g8_g9))
        have lt_kb_10 := Nat.lt_of_lt_of_le lt_kb_7 hG10.size
        have lt_ka_10 := Nat.lt_of_lt_of_le lt_ka_7 hG10.size
        clear ka_7
        clear kb_7
        refine hK.out _ _ hS10 (fun hHeld => ?_)
        clear hK K
        try simp only [c8a10, Act.put]
        refine wpAnyH_ready (rs := [11]) (by kernel_rfl) (by simp) ?_
        refine AllReadyH.cons (o := c8a11) rfl (fun K hK => ?_) AllReadyH.nil
        rw [if_pos (by rfl)]
        refine wp_st26 (.tmp 5) (.tmp 30) (by rfl) g9 cb _ (by rfl) (by rfl) kb_10 (by rw [HLB.out]; rfl) HZB.out HOB.out ?_
        intro W11 hG11 kb_11
        have hS11 := Kept.moved hHeld hG11 (fun k hk => by cases hk; exact le_g9)
        have ka_11 := Arr.moved ka_10 hG11 lt_ka_10 (by simpa using ne_g8_g9)
        have lt_ka_11 := Nat.lt_of_lt_of_le lt_ka_10 hG11.size
        have lt_kb_11 := Nat.lt_of_lt_of_le lt_kb_10 hG11.size
        clear ka_10
        clear kb_10
        refine hK.out _ _ hS11 (fun hHeld => ?_)
        clear hK K
        try simp only [c8a11, Act.put]
        refine wpAnyH_done (by kernel_rfl) ?_ _
        exact ⟨g8, g9, rfl, hHeld, ka_11, kb_11⟩
    · skip
      rw [if_pos (by rfl)]
      refine wp_alloc26 (by rfl) ?_
      intro g9 W9 hle9 hlt9 hG9 kb_9
      have le_g9 := Nat.le_trans hHeld.below.size hle9
      have hS9 := Kept.moved hHeld hG9 (fun _ h => by cases h)
      refine hK.out _ _ hS9 (fun hHeld => ?_)
      clear hK K
      try simp only [c8a9, Act.put, List.setIfInBounds_toArray, List.set_cons_zero, List.set_cons_succ]
      refine wpAnyH_ready (rs := [3, 8]) (by kernel_rfl) (by simp) ?_
      refine AllReadyH.cons (o := c8a3) rfl (fun K hK => ?_) (AllReadyH.cons (o := c8a8) rfl (fun K hK => ?_) AllReadyH.nil)
      · skip
        rw [if_pos (by rfl)]
        unfold c8a3
        go_simp
        (with_reducible refine (HRA.out _ hHeld).mono ?_)
        rintro e W3 ⟨rfl, hB3⟩
        have hG3 := gbelow (row := none) hB3
        have hS3 := Kept.moved hHeld hG3 (fun _ h => by cases h)
        have kb_3 := Arr.moved kb_9 hG3 hlt9 (by simp)
        have lt_kb_3 := Nat.lt_of_lt_of_le hlt9 hG3.size
        clear kb_9 hlt9
        go_wp2_with fail
        refine hK.out _ _ hS3 (fun hHeld => ?_)
        clear hK K
        try simp only [c8a3, Act.put, List.setIfInBounds_toArray, List.set_cons_zero, List.set_cons_succ]
        refine wpAnyH_ready (rs := [7, 8]) (by kernel_rfl) (by simp) ?_
        refine AllReadyH.cons (o := c8a7) rfl (fun K hK => ?_) (AllReadyH.cons (o := c8a8) rfl (fun K hK => ?_) AllReadyH.nil)
        · skip
          rw [if_pos (by rfl)]
          unfold c8a7
          go_simp
          (with_reducible refine (HRB.out _ hHeld).mono ?_)
          rintro e W7 ⟨rfl, hB7⟩
          have hG7 := gbelow (row := none) hB7
          have hS7 := Kept.moved hHeld hG7 (fun _ h => by cases h)
          have kb_7 := Arr.moved kb_3 hG7 lt_kb_3 (by simp)
          have lt_kb_7 := Nat.lt_of_lt_of_le lt_kb_3 hG7.size
          clear kb_3 lt_kb_3
          go_wp2_with fail
          refine hK.out _ _ hS7 (fun hHeld => ?_)
          clear hK K
          try simp only [c8a7, Act.put, List.setIfInBounds_toArray, List.set_cons_zero, List.set_cons_succ]
          refine wpAnyH_ready (rs := [8]) (by kernel_rfl) (by simp) ?_
          refine AllReadyH.cons (o := c8a8) rfl (fun K hK => ?_) AllReadyH.nil
          rw [if_pos (by rfl)]
          refine wp_alloc26 (by rfl) ?_
          intro g8 W8 hle8 hlt8 hG8 ka_8
          have le_g8 := Nat.le_trans hHeld.below.size hle8
          have hS8 := Kept.moved hHeld hG8 (fun _ h => by cases h)
          have ne_g9_g8 : g9 ≠ g8 := by have := lt_kb_7; have := hle8; omega
          have kb_8 := Arr.moved kb_7 hG8 lt_kb_7 (by simp)
          have lt_kb_8 := Nat.lt_of_lt_of_le lt_kb_7 hG8.size
          clear kb_7 lt_kb_7
          refine hK.out _ _ hS8 (fun hHeld => ?_)
          clear hK K
          try simp only [c8a8, Act.put, List.setIfInBounds_toArray, List.set_cons_zero, List.set_cons_succ]
          refine wpAnyH_ready (rs := [10]) (by kernel_rfl) (by simp) ?_
          refine AllReadyH.cons (o := c8a10) rfl (fun K hK => ?_) AllReadyH.nil
          rw [if_pos (by rfl)]
          refine wp_st26 (.tmp 4) (.tmp 26) (by rfl) g8 ca _ (by rfl) (by rfl) ka_8 (by rw [HLA.out]; rfl) HZA.out HOA.out ?_
          intro W10 hG10 ka_10
          have hS10 := Kept.moved hHeld hG10 (fun k hk => by cases hk; exact le_g8)
          have kb_10 := Arr.moved kb_8 hG10 lt_kb_8 (by simpa using ne_g9_g8)
          have lt_kb_10 := Nat.lt_of_lt_of_le lt_kb_8 hG10.size
          have lt_ka_10 := Nat.lt_of_lt_of_le hlt8 hG10.size
          clear kb_8
          clear ka_8
          refine hK.out _ _ hS10 (fun hHeld => ?_)
          clear hK K
          try simp only [c8a10, Act.put]
          refine wpAnyH_ready (rs := [11]) (by kernel_rfl) (by simp) ?_
          refine AllReadyH.cons (o := c8a11) rfl (fun K hK => ?_) AllReadyH.nil
          rw [if_pos (by rfl)]
          refine wp_st26 (.tmp 5) (.tmp 30) (by rfl) g9 cb _ (by rfl) (by rfl) kb_10 (by rw [HLB.out]; rfl) HZB.out HOB.out ?_
          intro W11 hG11 kb_11
          have hS11 := Kept.moved hHeld hG11 (fun k hk => by cases hk; exact le_g9)
          have ka_11 := Arr.moved ka_10 hG11 lt_ka_10 (by simpa using (Ne.symm ne_g9_g8))
          have lt_ka_11 := Nat.lt_of_lt_of_le lt_ka_10 hG11.size
          have lt_kb_11 := Nat.lt_of_lt_of_le lt_kb_10 hG11.size
          clear kb_10
          clear ka_10
          refine hK.out _ _ hS11 (fun hHeld => ?_)
          clear hK K
          try simp only [c8a11, Act.put]
          refine wpAnyH_done (by kernel_rfl) ?_ _
          exact ⟨g8, g9, rfl, hHeld, ka_11, kb_11⟩
        · skip
          rw [if_pos (by rfl)]
          refine wp_alloc26 (by rfl) ?_
          intro g8 W8 hle8 hlt8 hG8 ka_8
          have le_g8 := Nat.le_trans hHeld.below.size hle8
          have hS8 := Kept.moved hHeld hG8 (fun _ h => by cases h)
          have ne_g9_g8 : g9 ≠ g8 := by have := lt_kb_3; have := hle8; omega
          have kb_8 := Arr.moved kb_3 hG8 lt_kb_3 (by simp)
          have lt_kb_8 := Nat.lt_of_lt_of_le lt_kb_3 hG8.size
          clear kb_3 lt_kb_3
          refine hK.out _ _ hS8 (fun hHeld => ?_)
          clear hK K
          try simp only [c8a8, Act.put, List.setIfInBounds_toArray, List.set_cons_zero, List.set_cons_succ]
          refine wpAnyH_ready (rs := [7]) (by kernel_rfl) (by simp) ?_
          refine AllReadyH.cons (o := c8a7) rfl (fun K hK => ?_) AllReadyH.nil
          rw [if_pos (by rfl)]
          unfold c8a7
          go_simp
          (with_reducible refine (HRB.out _ hHeld).mono ?_)
          rintro e W7 ⟨rfl, hB7⟩
          have hG7 := gbelow (row := none) hB7
          have hS7 := Kept.moved hHeld hG7 (fun _ h => by cases h)
          have kb_7 := Arr.moved kb_8 hG7 lt_kb_8 (by simp)
          have lt_kb_7 := Nat.lt_of_lt_of_le lt_kb_8 hG7.size
          clear kb_8 lt_kb_8
          have ka_7 := Arr.moved ka_8 hG7 hlt8 (by simp)
          have lt_ka_7 := Nat.lt_of_lt_of_le hlt8 hG7.size
          clear ka_8 hlt8
          go_wp2_with fail
          refine hK.out _ _ hS7 (fun hHeld => ?_)
          clear hK K
          try simp only [c8a7, Act.put, List.setIfInBounds_toArray, List.set_cons_zero, List.set_cons_succ]
          refine wpAnyH_ready (rs := [10]) (by kernel_rfl) (by simp) ?_
          refine AllReadyH.cons (o := c8a10) rfl (fun K hK => ?_) AllReadyH.nil
          rw [if_pos (by rfl)]
          refine wp_st26 (.tmp 4) (.tmp 26) (by rfl) g8 ca _ (by rfl) (by rfl) ka_7 (by rw [HLA.out]; rfl) HZA.out HOA.out ?_
          intro W10 hG10 ka_10
          have hS10 := Kept.moved hHeld hG10 (fun k hk => by cases hk; exact le_g8)
          have kb_10 := Arr.moved kb_7 hG10 lt_kb_7 (by simpa using ne_g9_g8)
          have lt_kb_10 := Nat.lt_of_lt_of_le lt_kb_7 hG10.size
          have lt_ka_10 := Nat.lt_of_lt_of_le lt_ka_7 hG10.size
          clear kb_7
          clear ka_7
          refine hK.out _ _ hS10 (fun hHeld => ?_)
          clear hK K
          try simp only [c8a10, Act.put]
          refine wpAnyH_ready (rs := [11]) (by kernel_rfl) (by simp) ?_
          refine AllReadyH.cons (o := c8a11) rfl (fun K hK => ?_) AllReadyH.nil
          rw [if_pos (by rfl)]
          refine wp_st26 (.tmp 5) (.tmp 30) (by rfl) g9 cb _ (by rfl) (by rfl) kb_10 (by rw [HLB.out]; rfl) HZB.out HOB.out ?_
          intro W11 hG11 kb_11
          have hS11 := Kept.moved hHeld hG11 (fun k hk => by cases hk; exact le_g9)
          have ka_11 := Arr.moved ka_10 hG11 lt_ka_10 (by simpa using (Ne.symm ne_g9_g8))
          have lt_ka_11 := Nat.lt_of_lt_of_le lt_ka_10 hG11.size
          have lt_kb_11 := Nat.lt_of_lt_of_le lt_kb_10 hG11.size
          clear kb_10
          clear ka_10
          refine hK.out _ _ hS11 (fun hHeld => ?_)
          clear hK K
          try simp only [c8a11, Act.put]
          refine wpAnyH_done (by kernel_rfl) ?_ _
          exact ⟨g8, g9, rfl, hHeld, ka_11, kb_11⟩
      · skip
        rw [if_pos (by rfl)]
        refine wp_alloc26 (by rfl) ?_
        intro g8 W8 hle8 hlt8 hG8 ka_8
        have le_g8 := Nat.le_trans hHeld.below.size hle8
        have hS8 := Kept.moved hHeld hG8 (fun _ h => by cases h)
        have ne_g9_g8 : g9 ≠ g8 := by have := hlt9; have := hle8; omega
        have kb_8 := Arr.moved kb_9 hG8 hlt9 (by simp)
        have lt_kb_8 := Nat.lt_of_lt_of_le hlt9 hG8.size
        clear kb_9 hlt9
        refine hK.out _ _ hS8 (fun hHeld => ?_)
        clear hK K
        try simp only [c8a8, Act.put, List.setIfInBounds_toArray, List.set_cons_zero, List.set_cons_succ]
        refine wpAnyH_ready (rs := [3]) (by kernel_rfl) (by simp) ?_
        refine AllReadyH.cons (o := c8a3) rfl (fun K hK => ?_) AllReadyH.nil
        rw [if_pos (by rfl)]
        unfold c8a3
        go_simp
        (with_reducible refine (HRA.out _ hHeld).mono ?_)
        rintro e W3 ⟨rfl, hB3⟩
        have hG3 := gbelow (row := none) hB3
        have hS3 := Kept.moved hHeld hG3 (fun _ h => by cases h)
        have kb_3 := Arr.moved kb_8 hG3 lt_kb_8 (by simp)
        have lt_kb_3 := Nat.lt_of_lt_of_le lt_kb_8 hG3.size
        clear kb_8 lt_kb_8
        have ka_3 := Arr.moved ka_8 hG3 hlt8 (by simp)
        have lt_ka_3 := Nat.lt_of_lt_of_le hlt8 hG3.size
        clear ka_8 hlt8
        go_wp2_with fail
        refine hK.out _ _ hS3 (fun hHeld => ?_)
        clear hK K
        try simp only [c8a3, Act.put, List.setIfInBounds_toArray, List.set_cons_zero, List.set_cons_succ]
        refine wpAnyH_ready (rs := [7]) (by kernel_rfl) (by simp) ?_
        refine AllReadyH.cons (o := c8a7) rfl (fun K hK => ?_) AllReadyH.nil
        rw [if_pos (by rfl)]
        unfold c8a7
        go_simp
        (with_reducible refine (HRB.out _ hHeld).mono ?_)
        rintro e W7 ⟨rfl, hB7⟩
        have hG7 := gbelow (row := none) hB7
        have hS7 := Kept.moved hHeld hG7 (fun _ h => by cases h)
        have kb_7 := Arr.moved kb_3 hG7 lt_kb_3 (by simp)
        have lt_kb_7 := Nat.lt_of_lt_of_le lt_kb_3 hG7.size
        clear kb_3 lt_kb_3
        have ka_7 := Arr.moved ka_3 hG7 lt_ka_3 (by simp)
        have lt_ka_7 := Nat.lt_of_lt_of_le lt_ka_3 hG7.size
        clear ka_3 lt_ka_3
        go_wp2_with fail
        refine hK.out _ _ hS7 (fun hHeld => ?_)
        clear hK K
        try simp only [c8a7, Act.put, List.setIfInBounds_toArray, List.set_cons_zero, List.set_cons_succ]
        refine wpAnyH_ready (rs := [10]) (by kernel_rfl) (by simp) ?_
        refine AllReadyH.cons (o := c8a10) rfl (fun K hK => ?_) AllReadyH.nil
        rw [if_pos (by rfl)]
        refine wp_st26 (.tmp 4) (.tmp 26) (by rfl) g8 ca _ (by rfl) (by rfl) ka_7 (by rw [HLA.out]; rfl) HZA.out HOA.out ?_
        intro W10 hG10 ka_10
        have hS10 := Kept.moved hHeld hG10 (fun k hk => by cases hk; exact le_g8)
        have kb_10 := Arr.moved kb_7 hG10 lt_kb_7 (by simpa using ne_g9_g8)
        have lt_kb_10 := Nat.lt_of_lt_of_le lt_kb_7 hG10.size
        have lt_ka_10 := Nat.lt_of_lt_of_le lt_ka_7 hG10.size
        clear kb_7
        clear ka_7
        refine hK.out _ _ hS10 (fun hHeld => ?_)
        clear hK K
        try simp only [c8a10, Act.put]
        refine wpAnyH_ready (rs := [11]) (by kernel_rfl) (by simp) ?_
        refine AllReadyH.cons (o := c8a11) rfl (fun K hK => ?_) AllReadyH.nil
        rw [if_pos (by rfl)]
        refine wp_st26 (.tmp 5) (.tmp 30) (by rfl) g9 cb _ (by rfl) (by rfl) kb_10 (by rw [HLB.out]; rfl) HZB.out HOB.out ?_
        intro W11 hG11 kb_11
        have hS11 := Kept.moved hHeld hG11 (fun k hk => by cases hk; exact le_g9)
        have ka_11 := Arr.moved ka_10 hG11 lt_ka_10 (by simpa using (Ne.symm ne_g9_g8))
        have lt_ka_11 := Nat.lt_of_lt_of_le lt_ka_10 hG11.size
        have lt_kb_11 := Nat.lt_of_lt_of_le lt_kb_10 hG11.size
        clear kb_10
        clear ka_10
        refine hK.out _ _ hS11 (fun hHeld => ?_)
        clear hK K
        try simp only [c8a11, Act.put]
        refine wpAnyH_done (by kernel_rfl) ?_ _
        exact ⟨g8, g9, rfl, hHeld, ka_11, kb_11⟩
end Go.Proofs.YtfmngeemhfpeiaaDoor
