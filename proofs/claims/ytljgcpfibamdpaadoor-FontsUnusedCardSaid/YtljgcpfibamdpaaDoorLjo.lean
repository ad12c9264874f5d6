/- The law FontsJoined, walked. -/
import Derived.Test.YtljgcpfibamdpaaDoorFcl
import Derived.Test.YtljgcpfibamdpaaDoorRfc
import Derived.Test.YtljgcpfibamdpaaDoorFsn
namespace Go.Proofs.YtljgcpfibamdpaaDoor
open Go.RowKit

theorem ints_last {l : List Int} (h : 0 < l.length) : ∃ x, l.getD (l.length - 1) 0 = x ∧ x ∈ l := by
  refine ⟨l[l.length - 1], ?_, List.getElem_mem _⟩
  simp [List.getD, List.getElem?_eq_getElem (show l.length - 1 < l.length by omega)]
theorem ints_first {l : List Int} (h : 0 < l.length) : ∃ x, l.getD 0 0 = x ∧ x ∈ l := by
  refine ⟨l[0], ?_, List.getElem_mem _⟩
  simp [List.getD, List.getElem?_eq_getElem h]
theorem irow_cell {w : World} {B : Nat} {a : Option Addr} {M c : Nat} {l : List Int} (h : IRow w B (.slice a M c) l) (hM : l.length = M) {j : Nat} (hj : j < M) : ∃ b off, a = some ⟨b, off, none⟩ ∧ w.cell? ⟨b, off + j, none⟩ = some (.int .i64 (l.getD j 0)) := by
  obtain ⟨a', c', e, h1, h2, h3⟩ := h
  injection e with e1 e2 e3
  subst e1
  rcases h3 with h3 | ⟨b, off, rfl, _, h4⟩
  · subst h3; simp at hM; omega
  · refine ⟨b, off, rfl, ?_⟩
    rw [h4 j (by omega)]
    simp [List.getD, List.getElem?_eq_getElem (show j < l.length by omega)]
def j16_0 : Oper := { dst := some 100, op := Go.Op.load 36 (Go.Operand.tmp 3), type := 36, pos := "law.go:129", after := #[], guard := none }
def j16_1 : Oper := { dst := some 101, op := Go.Op.move (Go.Operand.tmp 7), type := 26, pos := "law.go:129", after := #[], guard := none }
def j16_2 : Oper := { dst := some 102, op := Go.Op.move (Go.Operand.tmp 7), type := 26, pos := "law.go:129", after := #[], guard := none }
def j16_3 : Oper := { dst := some 103, op := Go.Op.call { callee := Go.Callee.builtin Go.Builtin.len, args := #[Go.Operand.tmp 102], argTypes := #[26] }, type := 3, pos := "law.go:129", after := #[{ on := 2, ground := Go.Ground.data }], guard := none }
def j16_4 : Oper := { dst := some 104, op := Go.Op.binOp Go.BinOp.sub 3 (Go.Operand.tmp 103) (Go.Operand.const (Go.Value.int Go.IntKind.i64 1)) 3, type := 3, pos := "law.go:129", after := #[{ on := 3, ground := Go.Ground.data }], guard := none }
def j16_5 : Oper := { dst := some 105, op := Go.Op.indexAddr 26 (Go.Operand.tmp 101) (Go.Operand.tmp 104), type := 0, pos := "law.go:129", after := #[{ on := 1, ground := Go.Ground.data }, { on := 4, ground := Go.Ground.data }], guard := none }
def j16_6 : Oper := { dst := some 106, op := Go.Op.load 3 (Go.Operand.tmp 105), type := 3, pos := "law.go:129", after := #[{ on := 5, ground := Go.Ground.data }], guard := none }
def j16_7 : Oper := { dst := some 107, op := Go.Op.move (Go.Operand.tmp 9), type := 26, pos := "law.go:129", after := #[], guard := none }
def j16_8 : Oper := { dst := some 108, op := Go.Op.indexAddr 26 (Go.Operand.tmp 107) (Go.Operand.const (Go.Value.int Go.IntKind.i64 0)), type := 0, pos := "law.go:129", after := #[{ on := 7, ground := Go.Ground.data }], guard := none }
def j16_9 : Oper := { dst := some 109, op := Go.Op.load 3 (Go.Operand.tmp 108), type := 3, pos := "law.go:129", after := #[{ on := 8, ground := Go.Ground.data }], guard := none }
def j16_10 : Oper := { dst := some 110, op := Go.Op.buildSlice 26 2 #[(0, Go.Operand.tmp 106), (1, Go.Operand.tmp 109)], type := 26, pos := "law.go:129", after := #[{ on := 6, ground := Go.Ground.data }, { on := 9, ground := Go.Ground.data }], guard := none }
def j16_11 : Oper := { dst := some 111, op := Go.Op.call { callee := Go.Callee.value (Go.Operand.func 22), args := #[Go.Operand.tmp 100, Go.Operand.tmp 110], argTypes := #[36, 26] }, type := 43, pos := "law.go:129", after := #[{ on := 0, ground := Go.Ground.data }, { on := 10, ground := Go.Ground.data }], guard := none }
def j16_12 : Oper := { dst := some 99, op := Go.Op.move (Go.Operand.tmp 111), type := 43, pos := "law.go:129", after := #[{ on := 11, ground := Go.Ground.data }], guard := none }
def j16_13 : Oper := { dst := some 112, op := Go.Op.extract (Go.Operand.tmp 99) 0, type := 3, pos := "law.go:129", after := #[{ on := 12, ground := Go.Ground.data }], guard := none }
def j16_14 : Oper := { dst := some 113, op := Go.Op.extract (Go.Operand.tmp 99) 1, type := 4, pos := "law.go:129", after := #[{ on := 12, ground := Go.Ground.data }, { on := 15, ground := Go.Ground.gcOnly Go.Departure.lateStores }], guard := none }
def j16_15 : Oper := { dst := some 17, op := Go.Op.assign (Go.Operand.tmp 112), type := 3, pos := "law.go:129", after := #[{ on := 13, ground := Go.Ground.data }, { on := 11, ground := Go.Ground.chain }, { on := 0, ground := Go.Ground.phase }, { on := 1, ground := Go.Ground.phase }, { on := 2, ground := Go.Ground.phase }, { on := 3, ground := Go.Ground.phase }, { on := 4, ground := Go.Ground.phase }, { on := 5, ground := Go.Ground.phase }, { on := 6, ground := Go.Ground.phase }, { on := 7, ground := Go.Ground.phase }, { on := 8, ground := Go.Ground.phase }, { on := 9, ground := Go.Ground.phase }, { on := 10, ground := Go.Ground.phase }, { on := 11, ground := Go.Ground.phase }, { on := 12, ground := Go.Ground.phase }, { on := 13, ground := Go.Ground.phase }, { on := 14, ground := Go.Ground.textOnly Go.Departure.lateStores }], guard := none }
def j16_16 : Oper := { dst := some 18, op := Go.Op.assign (Go.Operand.tmp 113), type := 4, pos := "law.go:129", after := #[{ on := 14, ground := Go.Ground.data }, { on := 15, ground := Go.Ground.chain }, { on := 0, ground := Go.Ground.phase }, { on := 1, ground := Go.Ground.phase }, { on := 2, ground := Go.Ground.phase }, { on := 3, ground := Go.Ground.phase }, { on := 4, ground := Go.Ground.phase }, { on := 5, ground := Go.Ground.phase }, { on := 6, ground := Go.Ground.phase }, { on := 7, ground := Go.Ground.phase }, { on := 8, ground := Go.Ground.phase }, { on := 9, ground := Go.Ground.phase }, { on := 10, ground := Go.Ground.phase }, { on := 11, ground := Go.Ground.phase }, { on := 12, ground := Go.Ground.phase }, { on := 13, ground := Go.Ground.phase }, { on := 14, ground := Go.Ground.phase }, { on := 15, ground := Go.Ground.phase }], guard := none }
def j17_0 : Oper := { dst := some 115, op := Go.Op.load 36 (Go.Operand.tmp 3), type := 36, pos := "law.go:130", after := #[], guard := none }
def j17_1 : Oper := { dst := some 116, op := Go.Op.move (Go.Operand.tmp 7), type := 26, pos := "law.go:130", after := #[], guard := none }
def j17_2 : Oper := { dst := some 117, op := Go.Op.move (Go.Operand.tmp 7), type := 26, pos := "law.go:130", after := #[], guard := none }
def j17_3 : Oper := { dst := some 118, op := Go.Op.call { callee := Go.Callee.builtin Go.Builtin.len, args := #[Go.Operand.tmp 117], argTypes := #[26] }, type := 3, pos := "law.go:130", after := #[{ on := 2, ground := Go.Ground.data }], guard := none }
def j17_4 : Oper := { dst := some 119, op := Go.Op.binOp Go.BinOp.sub 3 (Go.Operand.tmp 118) (Go.Operand.const (Go.Value.int Go.IntKind.i64 1)) 3, type := 3, pos := "law.go:130", after := #[{ on := 3, ground := Go.Ground.data }], guard := none }
def j17_5 : Oper := { dst := some 120, op := Go.Op.indexAddr 26 (Go.Operand.tmp 116) (Go.Operand.tmp 119), type := 0, pos := "law.go:130", after := #[{ on := 1, ground := Go.Ground.data }, { on := 4, ground := Go.Ground.data }], guard := none }
def j17_6 : Oper := { dst := some 121, op := Go.Op.load 3 (Go.Operand.tmp 120), type := 3, pos := "law.go:130", after := #[{ on := 5, ground := Go.Ground.data }], guard := none }
def j17_7 : Oper := { dst := some 122, op := Go.Op.buildSlice 26 1 #[(0, Go.Operand.tmp 121)], type := 26, pos := "law.go:130", after := #[{ on := 6, ground := Go.Ground.data }], guard := none }
def j17_8 : Oper := { dst := some 123, op := Go.Op.call { callee := Go.Callee.value (Go.Operand.func 22), args := #[Go.Operand.tmp 115, Go.Operand.tmp 122], argTypes := #[36, 26] }, type := 43, pos := "law.go:130", after := #[{ on := 0, ground := Go.Ground.data }, { on := 7, ground := Go.Ground.data }], guard := none }
def j17_9 : Oper := { dst := some 114, op := Go.Op.move (Go.Operand.tmp 123), type := 43, pos := "law.go:130", after := #[{ on := 8, ground := Go.Ground.data }], guard := none }
def j17_10 : Oper := { dst := some 124, op := Go.Op.extract (Go.Operand.tmp 114) 0, type := 3, pos := "law.go:130", after := #[{ on := 9, ground := Go.Ground.data }], guard := none }
def j17_11 : Oper := { dst := some 125, op := Go.Op.extract (Go.Operand.tmp 114) 1, type := 4, pos := "law.go:130", after := #[{ on := 9, ground := Go.Ground.data }, { on := 12, ground := Go.Ground.gcOnly Go.Departure.lateStores }], guard := none }
def j17_12 : Oper := { dst := some 19, op := Go.Op.assign (Go.Operand.tmp 124), type := 3, pos := "law.go:130", after := #[{ on := 10, ground := Go.Ground.data }, { on := 8, ground := Go.Ground.chain }, { on := 0, ground := Go.Ground.phase }, { on := 1, ground := Go.Ground.phase }, { on := 2, ground := Go.Ground.phase }, { on := 3, ground := Go.Ground.phase }, { on := 4, ground := Go.Ground.phase }, { on := 5, ground := Go.Ground.phase }, { on := 6, ground := Go.Ground.phase }, { on := 7, ground := Go.Ground.phase }, { on := 8, ground := Go.Ground.phase }, { on := 9, ground := Go.Ground.phase }, { on := 10, ground := Go.Ground.phase }, { on := 11, ground := Go.Ground.textOnly Go.Departure.lateStores }], guard := none }
def j17_13 : Oper := { dst := some 20, op := Go.Op.assign (Go.Operand.tmp 125), type := 4, pos := "law.go:130", after := #[{ on := 11, ground := Go.Ground.data }, { on := 12, ground := Go.Ground.chain }, { on := 0, ground := Go.Ground.phase }, { on := 1, ground := Go.Ground.phase }, { on := 2, ground := Go.Ground.phase }, { on := 3, ground := Go.Ground.phase }, { on := 4, ground := Go.Ground.phase }, { on := 5, ground := Go.Ground.phase }, { on := 6, ground := Go.Ground.phase }, { on := 7, ground := Go.Ground.phase }, { on := 8, ground := Go.Ground.phase }, { on := 9, ground := Go.Ground.phase }, { on := 10, ground := Go.Ground.phase }, { on := 11, ground := Go.Ground.phase }, { on := 12, ground := Go.Ground.phase }], guard := none }
def j18_0 : Oper := { dst := some 127, op := Go.Op.load 36 (Go.Operand.tmp 3), type := 36, pos := "law.go:131", after := #[], guard := none }
def j18_1 : Oper := { dst := some 128, op := Go.Op.move (Go.Operand.tmp 9), type := 26, pos := "law.go:131", after := #[], guard := none }
def j18_2 : Oper := { dst := some 129, op := Go.Op.indexAddr 26 (Go.Operand.tmp 128) (Go.Operand.const (Go.Value.int Go.IntKind.i64 0)), type := 0, pos := "law.go:131", after := #[{ on := 1, ground := Go.Ground.data }], guard := none }
def j18_3 : Oper := { dst := some 130, op := Go.Op.load 3 (Go.Operand.tmp 129), type := 3, pos := "law.go:131", after := #[{ on := 2, ground := Go.Ground.data }], guard := none }
def j18_4 : Oper := { dst := some 131, op := Go.Op.buildSlice 26 1 #[(0, Go.Operand.tmp 130)], type := 26, pos := "law.go:131", after := #[{ on := 3, ground := Go.Ground.data }], guard := none }
def j18_5 : Oper := { dst := some 132, op := Go.Op.call { callee := Go.Callee.value (Go.Operand.func 22), args := #[Go.Operand.tmp 127, Go.Operand.tmp 131], argTypes := #[36, 26] }, type := 43, pos := "law.go:131", after := #[{ on := 0, ground := Go.Ground.data }, { on := 4, ground := Go.Ground.data }], guard := none }
def j18_6 : Oper := { dst := some 126, op := Go.Op.move (Go.Operand.tmp 132), type := 43, pos := "law.go:131", after := #[{ on := 5, ground := Go.Ground.data }], guard := none }
def j18_7 : Oper := { dst := some 133, op := Go.Op.extract (Go.Operand.tmp 126) 0, type := 3, pos := "law.go:131", after := #[{ on := 6, ground := Go.Ground.data }], guard := none }
def j18_8 : Oper := { dst := some 134, op := Go.Op.extract (Go.Operand.tmp 126) 1, type := 4, pos := "law.go:131", after := #[{ on := 6, ground := Go.Ground.data }, { on := 9, ground := Go.Ground.gcOnly Go.Departure.lateStores }], guard := none }
def j18_9 : Oper := { dst := some 21, op := Go.Op.assign (Go.Operand.tmp 133), type := 3, pos := "law.go:131", after := #[{ on := 7, ground := Go.Ground.data }, { on := 5, ground := Go.Ground.chain }, { on := 0, ground := Go.Ground.phase }, { on := 1, ground := Go.Ground.phase }, { on := 2, ground := Go.Ground.phase }, { on := 3, ground := Go.Ground.phase }, { on := 4, ground := Go.Ground.phase }, { on := 5, ground := Go.Ground.phase }, { on := 6, ground := Go.Ground.phase }, { on := 7, ground := Go.Ground.phase }, { on := 8, ground := Go.Ground.textOnly Go.Departure.lateStores }], guard := none }
def j18_10 : Oper := { dst := some 22, op := Go.Op.assign (Go.Operand.tmp 134), type := 4, pos := "law.go:131", after := #[{ on := 8, ground := Go.Ground.data }, { on := 9, ground := Go.Ground.chain }, { on := 0, ground := Go.Ground.phase }, { on := 1, ground := Go.Ground.phase }, { on := 2, ground := Go.Ground.phase }, { on := 3, ground := Go.Ground.phase }, { on := 4, ground := Go.Ground.phase }, { on := 5, ground := Go.Ground.phase }, { on := 6, ground := Go.Ground.phase }, { on := 7, ground := Go.Ground.phase }, { on := 8, ground := Go.Ground.phase }, { on := 9, ground := Go.Ground.phase }], guard := none }

set_option maxRecDepth 100000 in
set_option maxHeartbeats 8000000 in
theorem lawJoined (w : World) (v : Value) (f : Fo) (h : FAt w w.heap.size v f) (s0 s1 : ByteArray) (hT : UTab w) : Calls Tryd.prog 7 #[v, .string s0, .string s1] w fun e w' => e = .returned (.bool true) ∧ Below w.heap.size w w' := by
  obtain ⟨xs, rfl⟩ : ∃ bs, s0 = str bs := ⟨s0.data.toList, (str_of s0).symm⟩
  obtain ⟨ys, rfl⟩ : ∃ bs, s1 = str bs := ⟨s1.data.toList, (str_of s1).symm⟩
  have HSN := Lib.hid (fun W (hW : Below w.heap.size w W) => sane_any W (hT.below hW))
  have HFX := Lib.hid (fun W (hW : Below w.heap.size w W) => rfew_any W v f (h.from hW hW.size) xs)
  have HFY := Lib.hid (fun W (hW : Below w.heap.size w W) => rfew_any W v f (h.from hW hW.size) ys)
  have HRC := Lib.hid (fun W (hW : Below w.heap.size w W) => rcheck_any W v f (h.from hW hW.size))
  have HRX := Lib.hid (fun W (hW : Below w.heap.size w W) => runes_any W xs (hT.below hW))
  have HRY := Lib.hid (fun W (hW : Below w.heap.size w W) => runes_any W ys (hT.below hW))
  have HWX := Lib.hid (fun W (hW : Below w.heap.size w W) => fwidth_text W v f (h.from hW hW.size) xs (hT.below hW))
  have HWY := Lib.hid (fun W (hW : Below w.heap.size w W) => fwidth_text W v f (h.from hW hW.size) ys (hT.below hW))
  have HWZ := Lib.hid (fun W (hW : Below w.heap.size w W) => fwidth_text W v f (h.from hW hW.size) (xs ++ ys) (hT.below hW))
  have happ := str_append xs ys
  -- what the walk needs of the numbers
  have HNUM : Hid (f.err = 0 → xs.length ≤ 200 → ys.length ≤ 200 → rnsE xs = 0 → rnsE ys = 0 → frE f xs = 0 ∧ frE f ys = 0 ∧ frE f (xs ++ ys) = 0 ∧ (rnsV xs).length ≤ 4096 ∧ (rnsV ys).length ≤ 4096 ∧
      (∀ n : Nat, -(8192 * (n : Int)) ≤ wdt f (rnsV xs) n ∧ wdt f (rnsV xs) n ≤ 8192 * n) ∧ (∀ n : Nat, -(8192 * (n : Int)) ≤ wdt f (rnsV ys) n ∧ wdt f (rnsV ys) n ≤ 8192 * n) ∧
      fwW f xs = wdt f (rnsV xs) (rnsV xs).length ∧ fwW f ys = wdt f (rnsV ys) (rnsV ys).length ∧
      fwW f (xs ++ ys) = fwW f xs + fwW f ys - (if 0 < (rnsV ys).length ∧ 0 < (rnsV xs).length then nearW f ((rnsV xs).getD ((rnsV xs).length - 1) 0) ((rnsV ys).getD 0 0) else 0)) := Lib.hid (fun h0 hlx hly hx hy => by
    obtain ⟨hr, -, -⟩ := err_ok h0
    obtain ⟨a1, a2, a3, a4⟩ := rns_ok hx
    obtain ⟨b1, b2, b3, b4⟩ := rns_ok hy
    have hl1 := (encs_len (rnsV xs)).1
    have hl2 := (encs_len (rnsV ys)).1
    have g1 := congrArg List.length a4
    have g2 := congrArg List.length b4
    have hz := rns_app (b := ys) hx (by rw [List.length_append]; omega)
    rw [hy, if_pos rfl] at hz
    have fx : frE f xs = 0 := by unfold frE; rw [if_pos h0, hx]
    have fy : frE f ys = 0 := by unfold frE; rw [if_pos h0, hy]
    have fz : frE f (xs ++ ys) = 0 := by unfold frE; rw [if_pos h0, hz.1]
    have vx : frV f xs = rnsV xs := by unfold frV; rw [if_pos h0]
    have vy : frV f ys = rnsV ys := by unfold frV; rw [if_pos h0]
    have vz : frV f (xs ++ ys) = rnsV xs ++ rnsV ys := by unfold frV; rw [if_pos h0, hz.2]
    refine ⟨fx, fy, fz, by omega, by omega, fun n => wdt_bound hr _ n, fun n => wdt_bound hr _ n, by unfold fwW; rw [if_pos fx, vx], by unfold fwW; rw [if_pos fy, vy], ?_⟩
    unfold fwW
    rw [if_pos fx, if_pos fy, if_pos fz, vx, vy, vz, List.length_append]
    exact wdt_app f (rnsV xs) (rnsV ys) (rnsV ys).length (Nat.le_refl _))
  have HOK : Hid ((rnsE xs = 0 → ∀ x ∈ rnsV xs, okPt x = true) ∧ (rnsE ys = 0 → ∀ x ∈ rnsV ys, okPt x = true)) := Lib.hid ⟨fun h => (rns_ok h).2.2.1, fun h => (rns_ok h).2.2.1⟩
  have HOB : Hid (f.err = 0 → ∀ x y, (0 ≤ oneW f x ∧ oneW f x ≤ 4096) ∧ (-4096 ≤ nearW f x y ∧ nearW f x y ≤ 4096)) := Lib.hid (fun h0 x y => ⟨oneW_bound (err_ok h0).1 x, nearW_bound (err_ok h0).1 x y⟩)
  have HO2 := Lib.hid (fun (h0 : f.err = 0) x y (hx : okPt x = true) (hy : okPt y = true) W (hW : Below w.heap.size w W) => of2_drew w v f h h0 x y hx hy hT W hW)
  have HO1 := Lib.hid (fun (h0 : f.err = 0) x (hx : okPt x = true) W (hW : Below w.heap.size w W) => of1_drew w v f h h0 x hx hT W hW)
  obtain ⟨ga, gc, ka, kc, rfl, -, -, -, -, -, -, -⟩ := h.open
  have HFXE : Hid (fewB f.gs.length f.ks.length xs.length = true → xs.length ≤ 200) := Lib.hid (fun h => (fewB_ok h).2.2)
  have HFYE : Hid (fewB f.gs.length f.ks.length ys.length = true → ys.length ≤ 200) := Lib.hid (fun h => (fewB_ok h).2.2)
  obtain ⟨qx, hqx⟩ : ∃ b, fewB f.gs.length f.ks.length xs.length = b := ⟨_, rfl⟩
  obtain ⟨qy, hqy⟩ : ∃ b, fewB f.gs.length f.ks.length ys.length = b := ⟨_, rfl⟩
  obtain ⟨z, hz⟩ : ∃ b, f.err = b := ⟨_, rfl⟩
  obtain ⟨eX, heX⟩ : ∃ b, rnsE xs = b := ⟨_, rfl⟩
  obtain ⟨eY, heY⟩ : ∃ b, rnsE ys = b := ⟨_, rfl⟩
  obtain ⟨lX, hlX⟩ : ∃ b, rnsV xs = b := ⟨_, rfl⟩
  obtain ⟨lY, hlY⟩ : ∃ b, rnsV ys = b := ⟨_, rfl⟩
  obtain ⟨fX, hfX⟩ : ∃ b, frE f xs = b := ⟨_, rfl⟩
  obtain ⟨fY, hfY⟩ : ∃ b, frE f ys = b := ⟨_, rfl⟩
  obtain ⟨fZ, hfZ⟩ : ∃ b, frE f (xs ++ ys) = b := ⟨_, rfl⟩
  obtain ⟨wX, hwX⟩ : ∃ b, fwW f xs = b := ⟨_, rfl⟩
  obtain ⟨wY, hwY⟩ : ∃ b, fwW f ys = b := ⟨_, rfl⟩
  obtain ⟨wZ, hwZ⟩ : ∃ b, fwW f (xs ++ ys) = b := ⟨_, rfl⟩
  simp only [hqx] at HFX HFXE
  simp only [hqy] at HFY HFYE
  simp only [hz] at HRC
  simp only [heX, hlX] at HRX
  simp only [heY, hlY] at HRY
  simp only [hwX, hfX] at HWX
  simp only [hwY, hfY] at HWY
  simp only [hwZ, hfZ] at HWZ
  simp only [hz, heX, heY, hlX, hlY, hfX, hfY, hfZ, hwX, hwY, hwZ] at HNUM
  simp only [heX, heY, hlX, hlY] at HOK
  simp only [hz] at HO1 HO2 HOB
  obtain ⟨nxs, hnxs⟩ : ∃ G, xs.length = G := ⟨_, rfl⟩
  obtain ⟨nys, hnys⟩ : ∃ G, ys.length = G := ⟨_, rfl⟩
  rw [hnxs, hnys] at HNUM
  rw [hnxs] at HFXE
  rw [hnys] at HFYE
  obtain ⟨G, hGe⟩ : ∃ G, f.gs.length = G := ⟨_, rfl⟩
  obtain ⟨K, hKe⟩ : ∃ G, f.ks.length = G := ⟨_, rfl⟩
  obtain ⟨o, hoe⟩ : ∃ G, f.o = G := ⟨_, rfl⟩
  obtain ⟨sx, hsx⟩ : ∃ s, str xs = s := ⟨_, rfl⟩
  obtain ⟨sy, hsy⟩ : ∃ s, str ys = s := ⟨_, rfl⟩
  obtain ⟨sz, hsz⟩ : ∃ s, str (xs ++ ys) = s := ⟨_, rfl⟩
  have hlen : sx.size + sy.size = sz.size := by rw [← hsx, ← hsy, ← hsz, str_size, str_size, str_size, List.length_append]
  rw [hsx, hsy, hsz] at happ
  rw [hGe, hKe, hoe] at HFX HFY HRC HWX HWY HWZ HO1 HO2
  simp only [hsx] at HFX HRX HWX
  simp only [hsy] at HFY HRY HWY
  simp only [hsz] at HWZ
  have HSX : Hid (sx.size = nxs) := Lib.hid (by rw [← hsx, str_size, hnxs])
  have HSY : Hid (sy.size = nys) := Lib.hid (by rw [← hsy, str_size, hnys])
  rw [hsx, hsy, hGe, hKe, hoe]
  clear h hT hqx hqy hz heX heY hlX hlY hfX hfY hfZ hwX hwY hwZ hnxs hnys hGe hKe hoe hsx hsy hsz hlen
  go_enter Tryd.func7, Tryd.ntmps7
  go_wp2_with fail
  have hA := Arr.new w #[.slice ga G gc, .int .i64 o, .slice ka K kc] 36
  have hB1 : Below w.heap.size w (w.alloc (.cells #[.slice ga G gc, .int .i64 o, .slice ka K kc] 36)) := (Below.refl _ _).alloc (Nat.le_refl _) _
  obtain ⟨w1, hw1⟩ : ∃ W, w.alloc (.cells #[.slice ga G gc, .int .i64 o, .slice ka K kc] 36) = W := ⟨_, rfl⟩
  rw [hw1] at hA hB1 ⊢
  obtain ⟨g, hg⟩ : ∃ g, w.heap.size = g := ⟨_, rfl⟩
  have HGW := Lib.hid hg
  rw [hg] at hA ⊢
  have HA1 := Lib.hid hA
  have HB1 := Lib.hid hB1
  clear hw1 hA hB1 hg
  refine (HSN.out w1 HB1.out).mono ?_
  rintro e w2 ⟨rfl, hb⟩
  have HA2 := Lib.hid (HA1.out.below hb (HA1.out.lt (by simp)))
  have HB2 := Lib.hid (HB1.out.trans (hb.mono HB1.out.size))
  clear hb
  have c0 := HA2.out.cell (i := 0) rfl
  have c1 := HA2.out.cell (i := 1) rfl
  have c2 := HA2.out.cell (i := 2) rfl
  go_wp2_with fail
  refine (HFX.out w2 HB2.out).mono ?_
  rintro e w3 ⟨rfl, hb⟩
  have HA3 := Lib.hid (HA2.out.below hb (HA2.out.lt (by simp)))
  have HB3 := Lib.hid (HB2.out.trans (hb.mono HB2.out.size))
  clear hb c0 c1 c2
  cases qx with
  | false =>
    go_wp2
    go_ret
    exact ⟨rfl, HB3.out⟩
  | true =>
    have c0 := HA3.out.cell (i := 0) rfl
    have c1 := HA3.out.cell (i := 1) rfl
    have c2 := HA3.out.cell (i := 2) rfl
    go_wp2_with fail
    refine (HFY.out w3 HB3.out).mono ?_
    rintro e w4 ⟨rfl, hb⟩
    have HA4 := Lib.hid (HA3.out.below hb (HA3.out.lt (by simp)))
    have HB4 := Lib.hid (HB3.out.trans (hb.mono HB3.out.size))
    clear hb c0 c1 c2
    cases qy with
    | false =>
      go_wp2
      go_ret
      exact ⟨rfl, HB4.out⟩
    | true =>
      clear HSN HFX HFY
      have c0 := HA4.out.cell (i := 0) rfl
      have c1 := HA4.out.cell (i := 1) rfl
      have c2 := HA4.out.cell (i := 2) rfl
      go_wp2_with fail
      refine (HRC.out w4 HB4.out).mono ?_
      rintro e w5 ⟨rfl, hb⟩
      have HA5 := Lib.hid (HA4.out.below hb (HA4.out.lt (by simp)))
      have HB5 := Lib.hid (HB4.out.trans (hb.mono HB4.out.size))
      clear hb c0 c1 c2
      by_cases hz : z = 0
      · subst hz
        have hlx := HFXE.out (by simp)
        have hly := HFYE.out (by simp)
        have HNUM2 := Lib.hid (HNUM.out rfl hlx hly)
        have HO12 := Lib.hid (HO1.out rfl)
        have HO22 := Lib.hid (HO2.out rfl)
        have HOB2 := Lib.hid (HOB.out rfl)
        clear HNUM HO1 HO2 HOB
        go_wp2_with fail
        refine (HRX.out w5 HB5.out).mono ?_
        rintro e w6 ⟨vx, rfl, ho, hb⟩
        have HA6 := Lib.hid (HA5.out.below hb (HA5.out.lt (by simp)))
        have HB6 := Lib.hid (HB5.out.trans (hb.mono HB5.out.size))
        have HIX6 := Lib.hid (IRow.of_own ho)
        clear ho hb
        go_wp2_with fail
        refine (HRY.out w6 HB6.out).mono ?_
        rintro e w7 ⟨vy, rfl, ho, hb⟩
        have HA7 := Lib.hid (HA6.out.below hb (HA6.out.lt (by simp)))
        have HB7 := Lib.hid (HB6.out.trans (hb.mono HB6.out.size))
        have HIY7 := Lib.hid (IRow.of_own ho)
        have HIX7 := Lib.hid (HIX6.out.next hb)
        clear ho hb HIX6
        by_cases hx : eX = 0
        · subst hx
          by_cases hy : eY = 0
          · subst hy
            obtain ⟨rfl, rfl, rfl, hnx, hny, hbx, hby, hwx, hwy, hwz⟩ := HNUM2.out rfl rfl
            obtain ⟨lxa, lxc, rfl, -, -, -⟩ := HIX7.out
            obtain ⟨lya, lyc, rfl, -, -, -⟩ := HIY7.out
            obtain ⟨nX, hnX⟩ : ∃ n, lX.length = n := ⟨_, rfl⟩
            obtain ⟨nY, hnY⟩ : ∃ n, lY.length = n := ⟨_, rfl⟩
            have HNX := Lib.hid hnX
            have HNY := Lib.hid hnY
            rw [hnX] at hnx hwx hwz HIX7
            rw [hnY] at hny hwy hwz HIY7
            rw [hnX, hnY]
            have b1 := hbx nX
            have b2 := hby nY
            rw [← hwx] at b1
            rw [← hwy] at b2
            have HWZE := Lib.hid hwz
            clear hnX hnY hbx hby hwx hwy hwz
            have hsx9 := HSX.out
            have hsy9 := HSY.out
            have hnm : nxs + nys ≤ maxLen := by unfold maxLen; omega
            have hnm2 : (nxs : Int) + (nys : Int) ≤ 9223372036854775807 := by omega
            skip
            have c0 := HA7.out.cell (i := 0) rfl
            have c1 := HA7.out.cell (i := 1) rfl
            have c2 := HA7.out.cell (i := 2) rfl
            go_wp2_with fail
            refine (HWX.out w7 HB7.out).mono ?_
            rintro e w8 ⟨rfl, hb⟩
            have HA8 := Lib.hid (HA7.out.below hb (HA7.out.lt (by simp)))
            have HB8 := Lib.hid (HB7.out.trans (hb.mono HB7.out.size))
            have HIX8 := Lib.hid (HIX7.out.next hb)
            have HIY8 := Lib.hid (HIY7.out.next hb)
            clear hb c0 c1 c2 HIX7 HIY7
            have c0 := HA8.out.cell (i := 0) rfl
            have c1 := HA8.out.cell (i := 1) rfl
            have c2 := HA8.out.cell (i := 2) rfl
            go_wp2_with fail
            refine (HWY.out w8 HB8.out).mono ?_
            rintro e w9 ⟨rfl, hb⟩
            have HA9 := Lib.hid (HA8.out.below hb (HA8.out.lt (by simp)))
            have HB9 := Lib.hid (HB8.out.trans (hb.mono HB8.out.size))
            have HIX9 := Lib.hid (HIX8.out.next hb)
            have HIY9 := Lib.hid (HIY8.out.next hb)
            clear hb c0 c1 c2 HIX8 HIY8
            have c0 := HA9.out.cell (i := 0) rfl
            have c1 := HA9.out.cell (i := 1) rfl
            have c2 := HA9.out.cell (i := 2) rfl
            go_wp2_with fail
            refine (HWZ.out w9 HB9.out).mono ?_
            rintro e w10 ⟨rfl, hb⟩
            have HA10 := Lib.hid (HA9.out.below hb (HA9.out.lt (by simp)))
            have HB10 := Lib.hid (HB9.out.trans (hb.mono HB9.out.size))
            have HIX10 := Lib.hid (HIX9.out.next hb)
            have HIY10 := Lib.hid (HIY9.out.next hb)
            clear hb c0 c1 c2 HIX9 HIY9
            have wr1 : IntKind.i64.wrap (wX + wY) = wX + wY := by rw [IntKind.wrap_i64]; omega
            by_cases hn0 : nX = 0 ∨ nY = 0
            · have hzz : wZ = wX + wY := by
                have := HWZE.out
                rw [if_neg (by omega)] at this
                omega
              have e9 : (wZ == wX + wY) = true := by rw [hzz]; simp
              clear hzz
              have hcs : (((nX : Int) == 0) = true ∧ (nX == 0) = true) ∨ ((((nX : Int) == 0) = false ∧ (nX == 0) = false) ∧ (((nY : Int) == 0) = true ∧ (nY == 0) = true)) := by
                by_cases h : nX = 0
                · exact .inl ⟨by simp; omega, by simp; omega⟩
                · exact .inr ⟨⟨by simp; omega, by simp; omega⟩, by simp; omega, by simp; omega⟩
              clear hn0
              rcases hcs with ⟨e1, e2⟩ | ⟨⟨e1, e2⟩, e3, e4⟩
              all_goals
                go_wp2
                go_ret
                exact ⟨by simp, HB10.out⟩
            · have e1 : ((nX : Int) == 0) = false := by simp; omega
              have e2 : (nX == 0) = false := by simp; omega
              have e3 : ((nY : Int) == 0) = false := by simp; omega
              have e4 : (nY == 0) = false := by simp; omega
              obtain ⟨x0, hx0, hmx⟩ := ints_last (l := lX) (by rw [HNX.out]; omega)
              obtain ⟨y0, hy0, hmy⟩ := ints_first (l := lY) (by rw [HNY.out]; omega)
              rw [HNX.out] at hx0
              have hwz := HWZE.out
              rw [if_pos (by omega), hx0, hy0] at hwz
              obtain ⟨xb, xo, rfl, hcx⟩ := irow_cell HIX10.out HNX.out (j := nX - 1) (by omega)
              obtain ⟨yb, yo, rfl, hcy⟩ := irow_cell HIY10.out HNY.out (j := 0) (by omega)
              rw [hx0] at hcx
              rw [hy0, Nat.add_zero] at hcy
              have HCX10 := Lib.hid hcx
              have HCY10 := Lib.hid hcy
              have hokx := (HOK.out.1 (by simp)) x0 hmx
              have hoky := (HOK.out.2 (by simp)) y0 hmy
              have H2 := Lib.hid (HO22.out x0 y0 hokx hoky)
              have HX1 := Lib.hid (HO12.out x0 hokx)
              have HY1 := Lib.hid (HO12.out y0 hoky)
              have o1 := (HOB2.out x0 y0).1
              have o2 := (HOB2.out y0 y0).1
              have o3 := (HOB2.out x0 y0).2
              have HPW : Hid (pairW f x0 y0 = oneW f x0 + oneW f y0 - nearW f x0 y0) := Lib.hid rfl
              obtain ⟨two, h2⟩ : ∃ z, pairW f x0 y0 = z := ⟨_, rfl⟩
              obtain ⟨onx, h3⟩ : ∃ z, oneW f x0 = z := ⟨_, rfl⟩
              obtain ⟨ony, h4⟩ : ∃ z, oneW f y0 = z := ⟨_, rfl⟩
              obtain ⟨nr, h5⟩ : ∃ z, nearW f x0 y0 = z := ⟨_, rfl⟩
              simp only [h2] at H2
              simp only [h3] at HX1
              simp only [h4] at HY1
              have hpw := HPW.out
              rw [h2, h3, h4, h5] at hpw
              rw [h3] at o1
              rw [h4] at o2
              rw [h5] at o3 hwz
              have wr2 : IntKind.i64.wrap (wX + wY + two) = wX + wY + two := by rw [IntKind.wrap_i64]; omega
              have wr3 : IntKind.i64.wrap (wX + wY + two - onx) = wX + wY + two - onx := by rw [IntKind.wrap_i64]; omega
              have wr4 : IntKind.i64.wrap (wX + wY + two - onx - ony) = wX + wY + two - onx - ony := by rw [IntKind.wrap_i64]; omega
              have e9 : (wZ == wX + wY + two - onx - ony) = true := by simp; omega
              have sub1 : (nX : Int) - 1 = ((nX - 1 : Nat) : Int) := by omega
              have sub2 : IntKind.i64.wrap ((nX - 1 : Nat) : Int) = ((nX - 1 : Nat) : Int) := by rw [IntKind.wrap_i64]; omega
              have sub3 : ((nX - 1 : Nat) : Int) < (nX : Int) := by omega
              have sub4 : (0 : Int) < (nY : Int) := by omega
              have sub5 : 0 < nY := by omega
              clear hn0 hx0 hy0 hmx hmy hwz hcx hcy hokx hoky o1 o2 o3 h2 h3 h4 h5 hpw HPW b1 b2
              have c0 := HA10.out.cell (i := 0) rfl
              have c1 := HA10.out.cell (i := 1) rfl
              have c2 := HA10.out.cell (i := 2) rfl
              have HLC : Hid (g < w10.heap.size) := Lib.hid (World.block_lt_of_cell? _ _ c0)
              have cx := HCX10.out
              have cy := HCY10.out
              have HLX : Hid (xb < w10.heap.size) := Lib.hid (World.block_lt_of_cell? _ _ cx)
              have HLY : Hid (yb < w10.heap.size) := Lib.hid (World.block_lt_of_cell? _ _ cy)
              go_wp2_with fail
              refine wp_region_ends (fun W => Kept w10 W) (by kernel_rfl) (Kept.drew (Kept.refl w10)) (fun KR hKR hHeld => ?_)
              refine wpAnyH_take (i := 0) (oi := j16_0) (v := ?_) rfl (by kernel_rfl) (by kernel_rfl) (by kernel_rfl) (fun _ _ _ h => h) (Or.inl ⟨by rfl, ?_⟩) hHeld ?_
              rotate_left
              · (intro w hSw; (try dsimp only at hSw); have q0 := (hSw.cell HLC.out).trans c0; have q1 := (hSw.cell HLC.out).trans c1; have q2 := (hSw.cell HLC.out).trans c2; unfold j16_0; go_simp <;> with_reducible rfl)
              try simp only [j16_0, Act.put, List.setIfInBounds_toArray, List.set_cons_zero, List.set_cons_succ]
              refine wpAnyH_take (i := 1) (oi := j16_1) (v := ?_) rfl (by kernel_rfl) (by kernel_rfl) (by kernel_rfl) (fun _ _ _ h => h) (Or.inl ⟨by rfl, ?_⟩) hHeld ?_
              rotate_left
              · (intro w hSw; (try dsimp only at hSw); unfold j16_1; go_simp <;> with_reducible rfl)
              try simp only [j16_1, Act.put, List.setIfInBounds_toArray, List.set_cons_zero, List.set_cons_succ]
              refine wpAnyH_take (i := 2) (oi := j16_2) (v := ?_) rfl (by kernel_rfl) (by kernel_rfl) (by kernel_rfl) (fun _ _ _ h => h) (Or.inl ⟨by rfl, ?_⟩) hHeld ?_
              rotate_left
              · (intro w hSw; (try dsimp only at hSw); unfold j16_2; go_simp <;> with_reducible rfl)
              try simp only [j16_2, Act.put, List.setIfInBounds_toArray, List.set_cons_zero, List.set_cons_succ]
              refine wpAnyH_take (i := 3) (oi := j16_3) (v := ?_) rfl (by kernel_rfl) (by kernel_rfl) (by kernel_rfl) (fun _ _ _ h => h) (Or.inl ⟨by rfl, ?_⟩) hHeld ?_
              rotate_left
              · (intro w hSw; (try dsimp only at hSw); unfold j16_3; go_simp <;> with_reducible rfl)
              try simp only [j16_3, Act.put, List.setIfInBounds_toArray, List.set_cons_zero, List.set_cons_succ]
              refine wpAnyH_take (i := 4) (oi := j16_4) (v := ?_) rfl (by kernel_rfl) (by kernel_rfl) (by kernel_rfl) (fun _ _ _ h => h) (Or.inl ⟨by rfl, ?_⟩) hHeld ?_
              rotate_left
              · (intro w hSw; (try dsimp only at hSw); unfold j16_4; go_simp <;> with_reducible rfl)
              try simp only [j16_4, Act.put, List.setIfInBounds_toArray, List.set_cons_zero, List.set_cons_succ]
              refine wpAnyH_take (i := 5) (oi := j16_5) (v := ?_) rfl (by kernel_rfl) (by kernel_rfl) (by kernel_rfl) (fun _ _ _ h => h) (Or.inl ⟨by rfl, ?_⟩) hHeld ?_
              rotate_left
              · (intro w hSw; (try dsimp only at hSw); unfold j16_5; go_simp <;> with_reducible rfl)
              try simp only [j16_5, Act.put, List.setIfInBounds_toArray, List.set_cons_zero, List.set_cons_succ]
              refine wpAnyH_take (i := 6) (oi := j16_6) (v := ?_) rfl (by kernel_rfl) (by kernel_rfl) (by kernel_rfl) (fun _ _ _ h => h) (Or.inl ⟨by rfl, ?_⟩) hHeld ?_
              rotate_left
              · (intro w hSw; (try dsimp only at hSw); have q3 := (hSw.cell HLX.out).trans cx; unfold j16_6; go_simp <;> with_reducible rfl)
              try simp only [j16_6, Act.put, List.setIfInBounds_toArray, List.set_cons_zero, List.set_cons_succ]
              refine wpAnyH_take (i := 7) (oi := j16_7) (v := ?_) rfl (by kernel_rfl) (by kernel_rfl) (by kernel_rfl) (fun _ _ _ h => h) (Or.inl ⟨by rfl, ?_⟩) hHeld ?_
              rotate_left
              · (intro w hSw; (try dsimp only at hSw); unfold j16_7; go_simp <;> with_reducible rfl)
              try simp only [j16_7, Act.put, List.setIfInBounds_toArray, List.set_cons_zero, List.set_cons_succ]
              refine wpAnyH_take (i := 8) (oi := j16_8) (v := ?_) rfl (by kernel_rfl) (by kernel_rfl) (by kernel_rfl) (fun _ _ _ h => h) (Or.inl ⟨by rfl, ?_⟩) hHeld ?_
              rotate_left
              · (intro w hSw; (try dsimp only at hSw); unfold j16_8; go_simp <;> with_reducible rfl)
              try simp only [j16_8, Act.put, List.setIfInBounds_toArray, List.set_cons_zero, List.set_cons_succ]
              refine wpAnyH_take (i := 9) (oi := j16_9) (v := ?_) rfl (by kernel_rfl) (by kernel_rfl) (by kernel_rfl) (fun _ _ _ h => h) (Or.inl ⟨by rfl, ?_⟩) hHeld ?_
              rotate_left
              · (intro w hSw; (try dsimp only at hSw); have q4 := (hSw.cell HLY.out).trans cy; unfold j16_9; go_simp <;> with_reducible rfl)
              try simp only [j16_9, Act.put, List.setIfInBounds_toArray, List.set_cons_zero, List.set_cons_succ]
              refine wpAnyH_ready (rs := [10]) (by kernel_rfl) (by simp) ?_
              refine AllReadyH.cons (o := j16_10) rfl (fun K hK => ?_) AllReadyH.nil
              rw [if_pos (by rfl)]
              unfold j16_10
              refine wp_buildSlice_run 26 2 [(0, .tmp 106), (1, .tmp 109)] rfl [(0, .int .i64 x0), (1, .int .i64 y0)] _ (by rfl) (bs2_26 _ _ _) ?_
              refine hK.out _ _ (hHeld.alloc _) (fun hHeld => ?_)
              clear hK K
              try simp only [Act.put, List.setIfInBounds_toArray, List.set_cons_zero, List.set_cons_succ]
              refine wpAnyH_ready (rs := [11]) (by kernel_rfl) (by simp) ?_
              refine AllReadyH.cons (o := j16_11) rfl (fun K hK => ?_) AllReadyH.nil
              rw [if_pos (by rfl)]
              unfold j16_11
              go_simp
              (with_reducible refine (H2.out _ HB10.out).mono ?_)
              rintro e w11 ⟨rfl, hbz⟩
              have hS := hHeld.next hbz
              go_wp2_with fail
              refine hK.out _ _ hS (fun hHeld => ?_)
              clear hK K
              try simp only [j16_11, Act.put, List.setIfInBounds_toArray, List.set_cons_zero, List.set_cons_succ]
              refine wpAnyH_take (i := 12) (oi := j16_12) (v := ?_) rfl (by kernel_rfl) (by kernel_rfl) (by kernel_rfl) (fun _ _ _ h => h) (Or.inl ⟨by rfl, ?_⟩) hHeld ?_
              rotate_left
              · (intro w hSw; (try dsimp only at hSw); unfold j16_12; go_simp <;> with_reducible rfl)
              try simp only [j16_12, Act.put, List.setIfInBounds_toArray, List.set_cons_zero, List.set_cons_succ]
              refine wpAnyH_take (i := 13) (oi := j16_13) (v := ?_) rfl (by kernel_rfl) (by kernel_rfl) (by kernel_rfl) (fun _ _ _ h => h) (Or.inl ⟨by rfl, ?_⟩) hHeld ?_
              rotate_left
              · (intro w hSw; (try dsimp only at hSw); unfold j16_13; go_simp <;> with_reducible rfl)
              try simp only [j16_13, Act.put, List.setIfInBounds_toArray, List.set_cons_zero, List.set_cons_succ]
              refine wpAnyH_take (i := 14) (oi := j16_14) (v := ?_) rfl (by kernel_rfl) (by kernel_rfl) (by kernel_rfl) (fun _ _ _ h => h) (Or.inl ⟨by rfl, ?_⟩) hHeld ?_
              rotate_left
              · (intro w hSw; (try dsimp only at hSw); unfold j16_14; go_simp <;> with_reducible rfl)
              try simp only [j16_14, Act.put, List.setIfInBounds_toArray, List.set_cons_zero, List.set_cons_succ]
              refine wpAnyH_take (i := 15) (oi := j16_15) (v := ?_) rfl (by kernel_rfl) (by kernel_rfl) (by kernel_rfl) (fun _ _ _ h => h) (Or.inl ⟨by rfl, ?_⟩) hHeld ?_
              rotate_left
              · (intro w hSw; (try dsimp only at hSw); unfold j16_15; go_simp <;> with_reducible rfl)
              try simp only [j16_15, Act.put, List.setIfInBounds_toArray, List.set_cons_zero, List.set_cons_succ]
              refine wpAnyH_take (i := 16) (oi := j16_16) (v := ?_) rfl (by kernel_rfl) (by kernel_rfl) (by kernel_rfl) (fun _ _ _ h => h) (Or.inl ⟨by rfl, ?_⟩) hHeld ?_
              rotate_left
              · (intro w hSw; (try dsimp only at hSw); unfold j16_16; go_simp <;> with_reducible rfl)
              try simp only [j16_16, Act.put, List.setIfInBounds_toArray, List.set_cons_zero, List.set_cons_succ]
              refine wpAnyH_done (by kernel_rfl) ?_ _
              refine hKR _ _ ?_
              have HA11 := Lib.hid (HA10.out.below hHeld.below (HA10.out.lt (by simp)))
              have HB11 := Lib.hid (HB10.out.trans (hHeld.below.mono HB10.out.size))
              have HCX11 := Lib.hid ((hHeld.cell HLX.out).trans HCX10.out)
              have HCY11 := Lib.hid ((hHeld.cell HLY.out).trans HCY10.out)
              clear hHeld hS hbz c0 c1 c2 cx cy HLC HLX HLY
              have c0 := HA11.out.cell (i := 0) rfl
              have c1 := HA11.out.cell (i := 1) rfl
              have c2 := HA11.out.cell (i := 2) rfl
              have HLC : Hid (g < w11.heap.size) := Lib.hid (World.block_lt_of_cell? _ _ c0)
              have cx := HCX11.out
              have cy := HCY11.out
              have HLX : Hid (xb < w11.heap.size) := Lib.hid (World.block_lt_of_cell? _ _ cx)
              have HLY : Hid (yb < w11.heap.size) := Lib.hid (World.block_lt_of_cell? _ _ cy)
              go_wp2_with fail
              refine wp_region_ends (fun W => Kept w11 W) (by kernel_rfl) (Kept.drew (Kept.refl w11)) (fun KR hKR hHeld => ?_)
              refine wpAnyH_take (i := 0) (oi := j17_0) (v := ?_) rfl (by kernel_rfl) (by kernel_rfl) (by kernel_rfl) (fun _ _ _ h => h) (Or.inl ⟨by rfl, ?_⟩) hHeld ?_
              rotate_left
              · (intro w hSw; (try dsimp only at hSw); have q0 := (hSw.cell HLC.out).trans c0; have q1 := (hSw.cell HLC.out).trans c1; have q2 := (hSw.cell HLC.out).trans c2; unfold j17_0; go_simp <;> with_reducible rfl)
              try simp only [j17_0, Act.put, List.setIfInBounds_toArray, List.set_cons_zero, List.set_cons_succ]
              refine wpAnyH_take (i := 1) (oi := j17_1) (v := ?_) rfl (by kernel_rfl) (by kernel_rfl) (by kernel_rfl) (fun _ _ _ h => h) (Or.inl ⟨by rfl, ?_⟩) hHeld ?_
              rotate_left
              · (intro w hSw; (try dsimp only at hSw); unfold j17_1; go_simp <;> with_reducible rfl)
              try simp only [j17_1, Act.put, List.setIfInBounds_toArray, List.set_cons_zero, List.set_cons_succ]
              refine wpAnyH_take (i := 2) (oi := j17_2) (v := ?_) rfl (by kernel_rfl) (by kernel_rfl) (by kernel_rfl) (fun _ _ _ h => h) (Or.inl ⟨by rfl, ?_⟩) hHeld ?_
              rotate_left
              · (intro w hSw; (try dsimp only at hSw); unfold j17_2; go_simp <;> with_reducible rfl)
              try simp only [j17_2, Act.put, List.setIfInBounds_toArray, List.set_cons_zero, List.set_cons_succ]
              refine wpAnyH_take (i := 3) (oi := j17_3) (v := ?_) rfl (by kernel_rfl) (by kernel_rfl) (by kernel_rfl) (fun _ _ _ h => h) (Or.inl ⟨by rfl, ?_⟩) hHeld ?_
              rotate_left
              · (intro w hSw; (try dsimp only at hSw); unfold j17_3; go_simp <;> with_reducible rfl)
              try simp only [j17_3, Act.put, List.setIfInBounds_toArray, List.set_cons_zero, List.set_cons_succ]
              refine wpAnyH_take (i := 4) (oi := j17_4) (v := ?_) rfl (by kernel_rfl) (by kernel_rfl) (by kernel_rfl) (fun _ _ _ h => h) (Or.inl ⟨by rfl, ?_⟩) hHeld ?_
              rotate_left
              · (intro w hSw; (try dsimp only at hSw); unfold j17_4; go_simp <;> with_reducible rfl)
              try simp only [j17_4, Act.put, List.setIfInBounds_toArray, List.set_cons_zero, List.set_cons_succ]
              refine wpAnyH_take (i := 5) (oi := j17_5) (v := ?_) rfl (by kernel_rfl) (by kernel_rfl) (by kernel_rfl) (fun _ _ _ h => h) (Or.inl ⟨by rfl, ?_⟩) hHeld ?_
              rotate_left
              · (intro w hSw; (try dsimp only at hSw); unfold j17_5; go_simp <;> with_reducible rfl)
              try simp only [j17_5, Act.put, List.setIfInBounds_toArray, List.set_cons_zero, List.set_cons_succ]
              refine wpAnyH_take (i := 6) (oi := j17_6) (v := ?_) rfl (by kernel_rfl) (by kernel_rfl) (by kernel_rfl) (fun _ _ _ h => h) (Or.inl ⟨by rfl, ?_⟩) hHeld ?_
              rotate_left
              · (intro w hSw; (try dsimp only at hSw); have q3 := (hSw.cell HLX.out).trans cx; unfold j17_6; go_simp <;> with_reducible rfl)
              try simp only [j17_6, Act.put, List.setIfInBounds_toArray, List.set_cons_zero, List.set_cons_succ]
              refine wpAnyH_ready (rs := [7]) (by kernel_rfl) (by simp) ?_
              refine AllReadyH.cons (o := j17_7) rfl (fun K hK => ?_) AllReadyH.nil
              rw [if_pos (by rfl)]
              unfold j17_7
              refine wp_buildSlice_run 26 1 [(0, .tmp 121)] rfl [(0, .int .i64 x0)] _ (by rfl) (bs1_26 _ _) ?_
              refine hK.out _ _ (hHeld.alloc _) (fun hHeld => ?_)
              clear hK K
              try simp only [Act.put, List.setIfInBounds_toArray, List.set_cons_zero, List.set_cons_succ]
              refine wpAnyH_ready (rs := [8]) (by kernel_rfl) (by simp) ?_
              refine AllReadyH.cons (o := j17_8) rfl (fun K hK => ?_) AllReadyH.nil
              rw [if_pos (by rfl)]
              unfold j17_8
              go_simp
              (with_reducible refine (HX1.out _ HB11.out).mono ?_)
              rintro e w12 ⟨rfl, hbz⟩
              have hS := hHeld.next hbz
              go_wp2_with fail
              refine hK.out _ _ hS (fun hHeld => ?_)
              clear hK K
              try simp only [j17_8, Act.put, List.setIfInBounds_toArray, List.set_cons_zero, List.set_cons_succ]
              refine wpAnyH_take (i := 9) (oi := j17_9) (v := ?_) rfl (by kernel_rfl) (by kernel_rfl) (by kernel_rfl) (fun _ _ _ h => h) (Or.inl ⟨by rfl, ?_⟩) hHeld ?_
              rotate_left
              · (intro w hSw; (try dsimp only at hSw); unfold j17_9; go_simp <;> with_reducible rfl)
              try simp only [j17_9, Act.put, List.setIfInBounds_toArray, List.set_cons_zero, List.set_cons_succ]
              refine wpAnyH_take (i := 10) (oi := j17_10) (v := ?_) rfl (by kernel_rfl) (by kernel_rfl) (by kernel_rfl) (fun _ _ _ h => h) (Or.inl ⟨by rfl, ?_⟩) hHeld ?_
              rotate_left
              · (intro w hSw; (try dsimp only at hSw); unfold j17_10; go_simp <;> with_reducible rfl)
              try simp only [j17_10, Act.put, List.setIfInBounds_toArray, List.set_cons_zero, List.set_cons_succ]
              refine wpAnyH_take (i := 11) (oi := j17_11) (v := ?_) rfl (by kernel_rfl) (by kernel_rfl) (by kernel_rfl) (fun _ _ _ h => h) (Or.inl ⟨by rfl, ?_⟩) hHeld ?_
              rotate_left
              · (intro w hSw; (try dsimp only at hSw); unfold j17_11; go_simp <;> with_reducible rfl)
              try simp only [j17_11, Act.put, List.setIfInBounds_toArray, List.set_cons_zero, List.set_cons_succ]
              refine wpAnyH_take (i := 12) (oi := j17_12) (v := ?_) rfl (by kernel_rfl) (by kernel_rfl) (by kernel_rfl) (fun _ _ _ h => h) (Or.inl ⟨by rfl, ?_⟩) hHeld ?_
              rotate_left
              · (intro w hSw; (try dsimp only at hSw); unfold j17_12; go_simp <;> with_reducible rfl)
              try simp only [j17_12, Act.put, List.setIfInBounds_toArray, List.set_cons_zero, List.set_cons_succ]
              refine wpAnyH_take (i := 13) (oi := j17_13) (v := ?_) rfl (by kernel_rfl) (by kernel_rfl) (by kernel_rfl) (fun _ _ _ h => h) (Or.inl ⟨by rfl, ?_⟩) hHeld ?_
              rotate_left
              · (intro w hSw; (try dsimp only at hSw); unfold j17_13; go_simp <;> with_reducible rfl)
              try simp only [j17_13, Act.put, List.setIfInBounds_toArray, List.set_cons_zero, List.set_cons_succ]
              refine wpAnyH_done (by kernel_rfl) ?_ _
              refine hKR _ _ ?_
              have HA12 := Lib.hid (HA11.out.below hHeld.below (HA11.out.lt (by simp)))
              have HB12 := Lib.hid (HB11.out.trans (hHeld.below.mono HB11.out.size))
              have HCX12 := Lib.hid ((hHeld.cell HLX.out).trans HCX11.out)
              have HCY12 := Lib.hid ((hHeld.cell HLY.out).trans HCY11.out)
              clear hHeld hS hbz c0 c1 c2 cx cy HLC HLX HLY
              have c0 := HA12.out.cell (i := 0) rfl
              have c1 := HA12.out.cell (i := 1) rfl
              have c2 := HA12.out.cell (i := 2) rfl
              have HLC : Hid (g < w12.heap.size) := Lib.hid (World.block_lt_of_cell? _ _ c0)
              have cx := HCX12.out
              have cy := HCY12.out
              have HLX : Hid (xb < w12.heap.size) := Lib.hid (World.block_lt_of_cell? _ _ cx)
              have HLY : Hid (yb < w12.heap.size) := Lib.hid (World.block_lt_of_cell? _ _ cy)
              go_wp2_with fail
              refine wp_region_ends (fun W => Kept w12 W) (by kernel_rfl) (Kept.drew (Kept.refl w12)) (fun KR hKR hHeld => ?_)
              refine wpAnyH_take (i := 0) (oi := j18_0) (v := ?_) rfl (by kernel_rfl) (by kernel_rfl) (by kernel_rfl) (fun _ _ _ h => h) (Or.inl ⟨by rfl, ?_⟩) hHeld ?_
              rotate_left
              · (intro w hSw; (try dsimp only at hSw); have q0 := (hSw.cell HLC.out).trans c0; have q1 := (hSw.cell HLC.out).trans c1; have q2 := (hSw.cell HLC.out).trans c2; unfold j18_0; go_simp <;> with_reducible rfl)
              try simp only [j18_0, Act.put, List.setIfInBounds_toArray, List.set_cons_zero, List.set_cons_succ]
              refine wpAnyH_take (i := 1) (oi := j18_1) (v := ?_) rfl (by kernel_rfl) (by kernel_rfl) (by kernel_rfl) (fun _ _ _ h => h) (Or.inl ⟨by rfl, ?_⟩) hHeld ?_
              rotate_left
              · (intro w hSw; (try dsimp only at hSw); unfold j18_1; go_simp <;> with_reducible rfl)
              try simp only [j18_1, Act.put, List.setIfInBounds_toArray, List.set_cons_zero, List.set_cons_succ]
              refine wpAnyH_take (i := 2) (oi := j18_2) (v := ?_) rfl (by kernel_rfl) (by kernel_rfl) (by kernel_rfl) (fun _ _ _ h => h) (Or.inl ⟨by rfl, ?_⟩) hHeld ?_
              rotate_left
              · (intro w hSw; (try dsimp only at hSw); unfold j18_2; go_simp <;> with_reducible rfl)
              try simp only [j18_2, Act.put, List.setIfInBounds_toArray, List.set_cons_zero, List.set_cons_succ]
              refine wpAnyH_take (i := 3) (oi := j18_3) (v := ?_) rfl (by kernel_rfl) (by kernel_rfl) (by kernel_rfl) (fun _ _ _ h => h) (Or.inl ⟨by rfl, ?_⟩) hHeld ?_
              rotate_left
              · (intro w hSw; (try dsimp only at hSw); have q4 := (hSw.cell HLY.out).trans cy; unfold j18_3; go_simp <;> with_reducible rfl)
              try simp only [j18_3, Act.put, List.setIfInBounds_toArray, List.set_cons_zero, List.set_cons_succ]
              refine wpAnyH_ready (rs := [4]) (by kernel_rfl) (by simp) ?_
              refine AllReadyH.cons (o := j18_4) rfl (fun K hK => ?_) AllReadyH.nil
              rw [if_pos (by rfl)]
              unfold j18_4
              refine wp_buildSlice_run 26 1 [(0, .tmp 130)] rfl [(0, .int .i64 y0)] _ (by rfl) (bs1_26 _ _) ?_
              refine hK.out _ _ (hHeld.alloc _) (fun hHeld => ?_)
              clear hK K
              try simp only [Act.put, List.setIfInBounds_toArray, List.set_cons_zero, List.set_cons_succ]
              refine wpAnyH_ready (rs := [5]) (by kernel_rfl) (by simp) ?_
              refine AllReadyH.cons (o := j18_5) rfl (fun K hK => ?_) AllReadyH.nil
              rw [if_pos (by rfl)]
              unfold j18_5
              go_simp
              (with_reducible refine (HY1.out _ HB12.out).mono ?_)
              rintro e w13 ⟨rfl, hbz⟩
              have hS := hHeld.next hbz
              go_wp2_with fail
              refine hK.out _ _ hS (fun hHeld => ?_)
              clear hK K
              try simp only [j18_5, Act.put, List.setIfInBounds_toArray, List.set_cons_zero, List.set_cons_succ]
              refine wpAnyH_take (i := 6) (oi := j18_6) (v := ?_) rfl (by kernel_rfl) (by kernel_rfl) (by kernel_rfl) (fun _ _ _ h => h) (Or.inl ⟨by rfl, ?_⟩) hHeld ?_
              rotate_left
              · (intro w hSw; (try dsimp only at hSw); unfold j18_6; go_simp <;> with_reducible rfl)
              try simp only [j18_6, Act.put, List.setIfInBounds_toArray, List.set_cons_zero, List.set_cons_succ]
              refine wpAnyH_take (i := 7) (oi := j18_7) (v := ?_) rfl (by kernel_rfl) (by kernel_rfl) (by kernel_rfl) (fun _ _ _ h => h) (Or.inl ⟨by rfl, ?_⟩) hHeld ?_
              rotate_left
              · (intro w hSw; (try dsimp only at hSw); unfold j18_7; go_simp <;> with_reducible rfl)
              try simp only [j18_7, Act.put, List.setIfInBounds_toArray, List.set_cons_zero, List.set_cons_succ]
              refine wpAnyH_take (i := 8) (oi := j18_8) (v := ?_) rfl (by kernel_rfl) (by kernel_rfl) (by kernel_rfl) (fun _ _ _ h => h) (Or.inl ⟨by rfl, ?_⟩) hHeld ?_
              rotate_left
              · (intro w hSw; (try dsimp only at hSw); unfold j18_8; go_simp <;> with_reducible rfl)
              try simp only [j18_8, Act.put, List.setIfInBounds_toArray, List.set_cons_zero, List.set_cons_succ]
              refine wpAnyH_take (i := 9) (oi := j18_9) (v := ?_) rfl (by kernel_rfl) (by kernel_rfl) (by kernel_rfl) (fun _ _ _ h => h) (Or.inl ⟨by rfl, ?_⟩) hHeld ?_
              rotate_left
              · (intro w hSw; (try dsimp only at hSw); unfold j18_9; go_simp <;> with_reducible rfl)
              try simp only [j18_9, Act.put, List.setIfInBounds_toArray, List.set_cons_zero, List.set_cons_succ]
              refine wpAnyH_take (i := 10) (oi := j18_10) (v := ?_) rfl (by kernel_rfl) (by kernel_rfl) (by kernel_rfl) (fun _ _ _ h => h) (Or.inl ⟨by rfl, ?_⟩) hHeld ?_
              rotate_left
              · (intro w hSw; (try dsimp only at hSw); unfold j18_10; go_simp <;> with_reducible rfl)
              try simp only [j18_10, Act.put, List.setIfInBounds_toArray, List.set_cons_zero, List.set_cons_succ]
              refine wpAnyH_done (by kernel_rfl) ?_ _
              refine hKR _ _ ?_
              have HA13 := Lib.hid (HA12.out.below hHeld.below (HA12.out.lt (by simp)))
              have HB13 := Lib.hid (HB12.out.trans (hHeld.below.mono HB12.out.size))
              have HCX13 := Lib.hid ((hHeld.cell HLX.out).trans HCX12.out)
              have HCY13 := Lib.hid ((hHeld.cell HLY.out).trans HCY12.out)
              clear hHeld hS hbz c0 c1 c2 cx cy HLC HLX HLY
              go_wp2
              go_ret
              exact ⟨by simp, HB13.out⟩
          · have d : (eY != 0) = true := by simpa using hy
            clear hy
            go_wp2
            go_ret
            exact ⟨rfl, HB7.out⟩
        · have d : (eX != 0) = true := by simpa using hx
          clear hx
          go_wp2
          go_ret
          exact ⟨rfl, HB7.out⟩
      · have d : (z != 0) = true := by simpa using hz
        clear hz
        go_wp2
        go_ret
        exact ⟨rfl, HB5.out⟩
end Go.Proofs.YtljgcpfibamdpaaDoor
