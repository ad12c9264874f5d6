/- The law DigestNext, walked. -/
import Derived.Test.YtnddejhbncgchaaDoorReg
namespace Go.Proofs.YtnddejhbncgchaaDoor
open Go.RowKit

theorem s1 {α : Type} (l : List α) (i : Nat) (a : α) : l.toArray.setIfInBounds i a = (l.set i a).toArray := List.setIfInBounds_toArray ..
theorem s2 {α : Type} (x : α) (l : List α) (a : α) : (x :: l).set 0 a = a :: l := List.set_cons_zero ..
theorem s3 {α : Type} (x : α) (l : List α) (n : Nat) (a : α) : (x :: l).set (n + 1) a = x :: l.set n a := List.set_cons_succ ..

def c8a0 : Oper := { dst := some 22, op := Go.Op.move (Go.Operand.tmp 5), type := 30, pos := "law.go:137", after := #[], guard := none }
def c8a1 : Oper := { dst := some 23, op := Go.Op.move (Go.Operand.tmp 6), type := 3, pos := "law.go:137", after := #[], guard := none }
def c8a2 : Oper := { dst := some 24, op := Go.Op.slice 30 (Go.Operand.tmp 22) none (some (Go.Operand.tmp 23)) none, type := 30, pos := "law.go:137", after := #[{ on := 0, ground := Go.Ground.data }, { on := 1, ground := Go.Ground.data }], guard := none }
def c8a3 : Oper := { dst := some 25, op := Go.Op.call { callee := Go.Callee.value (Go.Operand.func 17), args := #[Go.Operand.tmp 24], argTypes := #[30] }, type := 26, pos := "law.go:137", after := #[{ on := 2, ground := Go.Ground.data }], guard := none }
def c8a4 : Oper := { dst := some 26, op := Go.Op.load 26 (Go.Operand.tmp 3), type := 26, pos := "law.go:137", after := #[], guard := none }
def c8a5 : Oper := { dst := some 27, op := Go.Op.buildSlice 30 1 #[(0, Go.Operand.tmp 26)], type := 30, pos := "law.go:137", after := #[{ on := 4, ground := Go.Ground.data }], guard := none }
def c8a6 : Oper := { dst := some 28, op := Go.Op.call { callee := Go.Callee.value (Go.Operand.func 17), args := #[Go.Operand.tmp 27], argTypes := #[30] }, type := 26, pos := "law.go:137", after := #[{ on := 5, ground := Go.Ground.data }, { on := 3, ground := Go.Ground.chain }], guard := none }
def c8a7 : Oper := { dst := some 7, op := Go.Op.alloc 26, type := 0, pos := "law.go:137", after := #[], guard := none }
def c8a8 : Oper := { dst := some 8, op := Go.Op.alloc 26, type := 0, pos := "law.go:137", after := #[], guard := none }
def c8a9 : Oper := { dst := none, op := Go.Op.store 26 (Go.Operand.tmp 7) (Go.Operand.tmp 25), type := 0, pos := "law.go:137", after := #[{ on := 7, ground := Go.Ground.data }, { on := 3, ground := Go.Ground.data }, { on := 6, ground := Go.Ground.chain }, { on := 0, ground := Go.Ground.phase }, { on := 1, ground := Go.Ground.phase }, { on := 2, ground := Go.Ground.phase }, { on := 3, ground := Go.Ground.phase }, { on := 4, ground := Go.Ground.textOnly Go.Departure.lateStores }, { on := 5, ground := Go.Ground.textOnly Go.Departure.lateStoresUnsure }, { on := 6, ground := Go.Ground.phase }, { on := 7, ground := Go.Ground.phase }, { on := 8, ground := Go.Ground.phase }], guard := none }
def c8a10 : Oper := { dst := none, op := Go.Op.store 26 (Go.Operand.tmp 8) (Go.Operand.tmp 28), type := 0, pos := "law.go:137", after := #[{ on := 8, ground := Go.Ground.data }, { on := 6, ground := Go.Ground.data }, { on := 9, ground := Go.Ground.chain }, { on := 0, ground := Go.Ground.phase }, { on := 1, ground := Go.Ground.phase }, { on := 2, ground := Go.Ground.phase }, { on := 3, ground := Go.Ground.phase }, { on := 4, ground := Go.Ground.phase }, { on := 5, ground := Go.Ground.phase }, { on := 6, ground := Go.Ground.phase }, { on := 7, ground := Go.Ground.phase }, { on := 8, ground := Go.Ground.phase }, { on := 9, ground := Go.Ground.phase }], guard := none }
def c8b0 : Oper := { dst := some 29, op := Go.Op.buildSlice 30 0 #[], type := 30, pos := "law.go:138", after := #[], guard := none }
def c8b1 : Oper := { dst := some 30, op := Go.Op.move (Go.Operand.tmp 5), type := 30, pos := "law.go:138", after := #[], guard := none }
def c8b2 : Oper := { dst := some 31, op := Go.Op.move (Go.Operand.tmp 6), type := 3, pos := "law.go:138", after := #[], guard := none }
def c8b3 : Oper := { dst := some 32, op := Go.Op.slice 30 (Go.Operand.tmp 30) none (some (Go.Operand.tmp 31)) none, type := 30, pos := "law.go:138", after := #[{ on := 1, ground := Go.Ground.data }, { on := 2, ground := Go.Ground.data }], guard := none }
def c8b4 : Oper := { dst := some 33, op := Go.Op.call { callee := Go.Callee.builtin Go.Builtin.append, args := #[Go.Operand.tmp 29, Go.Operand.tmp 32], argTypes := #[30, 30] }, type := 30, pos := "law.go:138", after := #[{ on := 0, ground := Go.Ground.data }, { on := 3, ground := Go.Ground.data }], guard := none }
def c8b5 : Oper := { dst := some 34, op := Go.Op.load 26 (Go.Operand.tmp 3), type := 26, pos := "law.go:138", after := #[], guard := none }
def c8b6 : Oper := { dst := some 35, op := Go.Op.buildSlice 30 1 #[(0, Go.Operand.tmp 34)], type := 30, pos := "law.go:138", after := #[{ on := 5, ground := Go.Ground.data }], guard := none }
def c8b7 : Oper := { dst := some 36, op := Go.Op.call { callee := Go.Callee.builtin Go.Builtin.append, args := #[Go.Operand.tmp 33, Go.Operand.tmp 35], argTypes := #[30, 30] }, type := 30, pos := "law.go:138", after := #[{ on := 4, ground := Go.Ground.data }, { on := 6, ground := Go.Ground.data }, { on := 4, ground := Go.Ground.chain }], guard := none }
def c8b8 : Oper := { dst := some 9, op := Go.Op.assign (Go.Operand.tmp 36), type := 30, pos := "law.go:138", after := #[{ on := 7, ground := Go.Ground.data }, { on := 7, ground := Go.Ground.chain }, { on := 0, ground := Go.Ground.phase }, { on := 1, ground := Go.Ground.phase }, { on := 2, ground := Go.Ground.phase }, { on := 3, ground := Go.Ground.phase }, { on := 4, ground := Go.Ground.phase }, { on := 5, ground := Go.Ground.phase }, { on := 6, ground := Go.Ground.phase }, { on := 7, ground := Go.Ground.phase }], guard := none }
def c8c0 : Oper := { dst := some 43, op := Go.Op.move (Go.Operand.tmp 9), type := 30, pos := "law.go:140", after := #[], guard := none }
def c8c1 : Oper := { dst := some 44, op := Go.Op.call { callee := Go.Callee.value (Go.Operand.func 17), args := #[Go.Operand.tmp 43], argTypes := #[30] }, type := 26, pos := "law.go:140", after := #[{ on := 0, ground := Go.Ground.data }], guard := none }
def c8c2 : Oper := { dst := some 45, op := Go.Op.buildSlice 22 0 #[], type := 22, pos := "law.go:140", after := #[], guard := none }
def c8c3 : Oper := { dst := some 46, op := Go.Op.slice 26 (Go.Operand.tmp 7) none none none, type := 22, pos := "law.go:140", after := #[], guard := none }
def c8c4 : Oper := { dst := some 47, op := Go.Op.call { callee := Go.Callee.builtin Go.Builtin.append, args := #[Go.Operand.tmp 45, Go.Operand.tmp 46], argTypes := #[22, 22] }, type := 22, pos := "law.go:140", after := #[{ on := 2, ground := Go.Ground.data }, { on := 3, ground := Go.Ground.data }, { on := 1, ground := Go.Ground.chain }], guard := none }
def c8c5 : Oper := { dst := some 48, op := Go.Op.slice 26 (Go.Operand.tmp 8) none none none, type := 22, pos := "law.go:140", after := #[], guard := none }
def c8c6 : Oper := { dst := some 49, op := Go.Op.call { callee := Go.Callee.builtin Go.Builtin.append, args := #[Go.Operand.tmp 47, Go.Operand.tmp 48], argTypes := #[22, 22] }, type := 22, pos := "law.go:140", after := #[{ on := 4, ground := Go.Ground.data }, { on := 5, ground := Go.Ground.data }, { on := 4, ground := Go.Ground.chain }], guard := none }
def c8c7 : Oper := { dst := some 50, op := Go.Op.call { callee := Go.Callee.value (Go.Operand.func 14), args := #[Go.Operand.const (Go.Value.string { data := #[110, 111, 100, 101] }), Go.Operand.tmp 49], argTypes := #[9, 22] }, type := 26, pos := "law.go:140", after := #[{ on := 6, ground := Go.Ground.data }, { on := 6, ground := Go.Ground.chain }], guard := none }
def c8c8 : Oper := { dst := some 51, op := Go.Op.binOp Go.BinOp.neq 26 (Go.Operand.tmp 44) (Go.Operand.tmp 50) 26, type := 4, pos := "law.go:140", after := #[{ on := 1, ground := Go.Ground.data }, { on := 7, ground := Go.Ground.data }], guard := none }
def c8c9 : Oper := { dst := some 52, op := Go.Op.move (Go.Operand.tmp 51), type := 4, pos := "law.go:140", after := #[{ on := 8, ground := Go.Ground.data }, { on := 7, ground := Go.Ground.chain }], guard := none }
def c8c10 : Oper := { dst := some 53, op := Go.Op.move (Go.Operand.tmp 11), type := 34, pos := "law.go:140", after := #[{ on := 9, ground := Go.Ground.guard }], guard := some (9, false) }
def c8c11 : Oper := { dst := some 54, op := Go.Op.binOp Go.BinOp.neq 34 (Go.Operand.tmp 53) (Go.Operand.const (Go.Value.int Go.IntKind.i64 0)) 34, type := 4, pos := "law.go:140", after := #[{ on := 10, ground := Go.Ground.data }, { on := 9, ground := Go.Ground.guard }], guard := some (9, false) }
def c8c12 : Oper := { dst := some 55, op := Go.Op.pick (Go.Operand.tmp 52) (Go.Operand.const (Go.Value.bool true)) (Go.Operand.tmp 54), type := 4, pos := "law.go:140", after := #[{ on := 9, ground := Go.Ground.data }, { on := 11, ground := Go.Ground.data }], guard := none }
def c8c13 : Oper := { dst := some 56, op := Go.Op.move (Go.Operand.tmp 55), type := 4, pos := "law.go:140", after := #[{ on := 12, ground := Go.Ground.data }, { on := 9, ground := Go.Ground.chain }], guard := none }
def c8c14 : Oper := { dst := some 57, op := Go.Op.move (Go.Operand.tmp 10), type := 30, pos := "law.go:140", after := #[{ on := 13, ground := Go.Ground.guard }], guard := some (13, false) }
def c8c15 : Oper := { dst := some 58, op := Go.Op.call { callee := Go.Callee.builtin Go.Builtin.len, args := #[Go.Operand.tmp 57], argTypes := #[30] }, type := 3, pos := "law.go:140", after := #[{ on := 14, ground := Go.Ground.data }, { on := 13, ground := Go.Ground.guard }], guard := some (13, false) }
def c8c16 : Oper := { dst := some 59, op := Go.Op.binOp Go.BinOp.neq 3 (Go.Operand.tmp 58) (Go.Operand.const (Go.Value.int Go.IntKind.i64 1)) 3, type := 4, pos := "law.go:140", after := #[{ on := 15, ground := Go.Ground.data }, { on := 13, ground := Go.Ground.guard }], guard := some (13, false) }
def c8c17 : Oper := { dst := some 60, op := Go.Op.pick (Go.Operand.tmp 56) (Go.Operand.const (Go.Value.bool true)) (Go.Operand.tmp 59), type := 4, pos := "law.go:140", after := #[{ on := 13, ground := Go.Ground.data }, { on := 16, ground := Go.Ground.data }], guard := none }
def c8c18 : Oper := { dst := some 61, op := Go.Op.move (Go.Operand.tmp 60), type := 4, pos := "law.go:140", after := #[{ on := 17, ground := Go.Ground.data }, { on := 13, ground := Go.Ground.chain }], guard := none }
def c8c19 : Oper := { dst := some 62, op := Go.Op.move (Go.Operand.tmp 10), type := 30, pos := "law.go:140", after := #[{ on := 18, ground := Go.Ground.guard }], guard := some (18, false) }
def c8c20 : Oper := { dst := some 63, op := Go.Op.indexAddr 30 (Go.Operand.tmp 62) (Go.Operand.const (Go.Value.int Go.IntKind.i64 0)), type := 0, pos := "law.go:140", after := #[{ on := 19, ground := Go.Ground.data }, { on := 18, ground := Go.Ground.guard }], guard := some (18, false) }
def c8c21 : Oper := { dst := some 64, op := Go.Op.load 26 (Go.Operand.tmp 63), type := 26, pos := "law.go:140", after := #[{ on := 20, ground := Go.Ground.data }, { on := 18, ground := Go.Ground.guard }], guard := some (18, false) }
def c8c22 : Oper := { dst := some 65, op := Go.Op.load 26 (Go.Operand.tmp 7), type := 26, pos := "law.go:140", after := #[{ on := 18, ground := Go.Ground.guard }], guard := some (18, false) }
def c8c23 : Oper := { dst := some 66, op := Go.Op.binOp Go.BinOp.neq 26 (Go.Operand.tmp 64) (Go.Operand.tmp 65) 26, type := 4, pos := "law.go:140", after := #[{ on := 21, ground := Go.Ground.data }, { on := 22, ground := Go.Ground.data }, { on := 18, ground := Go.Ground.guard }], guard := some (18, false) }
def c8c24 : Oper := { dst := some 67, op := Go.Op.pick (Go.Operand.tmp 61) (Go.Operand.const (Go.Value.bool true)) (Go.Operand.tmp 66), type := 4, pos := "law.go:140", after := #[{ on := 18, ground := Go.Ground.data }, { on := 23, ground := Go.Ground.data }], guard := none }

theorem flat_len : ∀ ds : List (List UInt8), (∀ d ∈ ds, d.length = 32) → (flat ds).length = ds.length * 32
  | [], _ => rfl
  | d :: ds, h => by
    show (cells8 d ++ flat ds).length = _
    rw [List.length_append, cells8_len, h d (by simp), flat_len ds fun x hx => h x (List.mem_cons_of_mem _ hx), List.length_cons]
    omega
theorem flat_inv : ∀ (ds : List (List UInt8)), (∀ d ∈ ds, d.length = 32) → ∀ (u : Nat) (v : Value), (flat ds)[u]? = some v → ∃ (i : Nat) (hi : i < ds.length) (j : Nat), u = i * 32 + j ∧ (cells8 ds[i])[j]? = some v
  | [], _, u, v, h => by simp [flat] at h
  | d :: ds, h, u, v, hv => by
    have hl : (cells8 d).length = 32 := by rw [cells8_len]; exact h d (by simp)
    have hv' : (cells8 d ++ flat ds)[u]? = some v := hv
    by_cases hu : u < 32
    · rw [List.getElem?_append_left (by omega)] at hv'
      exact ⟨0, by simp, u, by omega, hv'⟩
    · rw [List.getElem?_append_right (by omega), hl] at hv'
      obtain ⟨i, hi, j, e, hj⟩ := flat_inv ds (fun x hx => h x (List.mem_cons_of_mem _ hx)) (u - 32) v hv'
      exact ⟨i + 1, by simpa using hi, j, by omega, by simpa using hj⟩
theorem digs_piece {W : World} {B : Nat} {v : Value} {ds : List (List UInt8)} (h : Digs W B v ds) : Piece W v ds.length (flat ds) := by
  obtain ⟨h32, a, c, rfl, _, _, h | ⟨db, off, rfl, _, hr⟩⟩ := h
  · subst h; exact ⟨a, c, rfl, .inl ⟨rfl, rfl⟩⟩
  · refine ⟨_, c, rfl, .inr ⟨_, rfl, fun u x hx => ?_⟩⟩
    obtain ⟨i, hi, j, rfl, hj⟩ := flat_inv ds h32 u x hx
    have := hr i hi j x hj
    rw [Addr.add_mid]
    rwa [show off + (i * 32 + j) = off + i * 32 + j by omega]

/-- A full list and an element more: the parts, and the path. -/
theorem next_parts (l : List (List UInt8)) (d : List UInt8) (n j : Nat) (hn : n = 2 ^ j) (hl : l.length = n) (hb : n ≤ 1000000) :
    tree (l ++ [d]) = tagged tNode (tree l ++ tree [d]) ∧ pth (l ++ [d]) n = [tree l] := by
  have h0 : 0 < n := by rw [hn]; exact Nat.two_pow_pos j
  have hl1 : (l ++ [d]).length = n + 1 := by rw [List.length_append, hl]; rfl
  have hs : spl (l ++ [d]).length = n := by rw [hl1]; exact spl_eq (n + 1) n j hn (by omega) (by omega) (by omega) (by omega)
  have ht : (l ++ [d]).take n = l := by rw [← hl]; simp
  have hd : (l ++ [d]).drop n = [d] := by rw [← hl]; simp
  constructor
  · rw [tree_more _ (by omega) (by omega), hs, ht, hd]
  · rw [pth_ge _ n (by omega) (by omega) (by rw [hs]; omega), hs, ht, hd, pth_one _ _ (by simp)]
    rfl

set_option maxRecDepth 100000 in
set_option maxHeartbeats 8000000 in
theorem lawNext (w : World) (v : Value) (b : List UInt8) (hv : BytesAt w w.heap.size v b) (d : List UInt8) (hd : d.length = 32) (hT : Tab w) (h0 : 0 < w.heap.size) :
    Calls Tryd.prog 8 #[v, dv d] w fun e w' => e = .returned (.bool true) ∧ Below w.heap.size w w' := by
  obtain ⟨i0, hi0, hz0, hz1, hz2⟩ := info_parts Tryd.info26z
  have HI := Lib.hid hi0
  have HZ0 := Lib.hid hz0
  have HZ1 := Lib.hid hz1
  have HZ2 := Lib.hid hz2
  obtain ⟨j0, hj0, hy0, hy1, hy2⟩ := info_parts Tryd.infoU8
  have HJ := Lib.hid hj0
  have HY0 := Lib.hid hy0
  have HY1 := Lib.hid hy1
  have HY2 := Lib.hid hy2
  have hv' := hv
  obtain ⟨a, cap, rfl, hnc, hcm, _⟩ := hv'
  have HV := Lib.hid hv
  have HT := Lib.hid hT
  have hlen := dsOf_len b
  obtain ⟨q, hq⟩ : ∃ q, (dsOf b).length = q := ⟨_, rfl⟩
  have HQ := Lib.hid hq
  rw [hq] at hlen
  have hq24 : q ≤ 24 := by omega
  obtain ⟨cd, hcd⟩ : ∃ cd, cells8 d = cd := ⟨_, rfl⟩
  have hld : cd.length = 32 := by rw [← hcd, cells8_len, hd]
  have HCD := Lib.hid hcd
  have HLD := Lib.hid hld
  have HZD : Hid ((Tryd.prog.info? 26).map (·.size) = some cd.length) := by show _ = _; rw [hld]; exact Tryd.info26
  have HOD : Hid (∀ v ∈ cd, v.oneCell' = true) := Lib.hid (by rw [← hcd]; exact one_cells8 _)
  obtain ⟨cb, hcb⟩ : ∃ cb, cells8 (tree [d]) = cb := ⟨_, rfl⟩
  have hlb : cb.length = 32 := by rw [← hcb, cells8_len, tree_len]
  have HCB := Lib.hid hcb
  have HLB := Lib.hid hlb
  have HZB : Hid ((Tryd.prog.info? 26).map (·.size) = some cb.length) := by show _ = _; rw [hlb]; exact Tryd.info26
  have HOB : Hid (∀ v ∈ cb, v.oneCell' = true) := Lib.hid (by rw [← hcb]; exact one_cells8 _)
  have hg26 : Tryd.prog.eqGuardType Tryd.prog.depth 26 = false := by kernel_rfl
  have HGT := Lib.hid hg26
  have HD := Lib.hid hd
  rw [dv_eq d, hcd]
  have HSN : Hid (∀ W, Below w.heap.size w W → Calls Tryd.prog 11 #[] W fun e w' => e = .returned (.bool true) ∧ Below W.heap.size W w') := Lib.hid fun W hW => sane_any W (hT.below hW h0) (by have := hW.size; omega)
  clear hv hT hq hlen hi0 hz0 hz1 hz2 hj0 hy0 hy1 hy2 hcd hld hcb hlb hg26 hd
  go_enter Tryd.func8, Tryd.ntmps8
  go_wp2_with fail
  refine calls_world (fun W => Below w.heap.size w W ∧ W.rangeAt w.heap.size 0 cd ∧ w.heap.size < W.heap.size) ⟨by go_grown, ?_, by simp⟩ ?_
  · have h := (Arr.new w cd.toArray 26).at_
    rw [List.toList_toArray] at h; exact h
  rintro Wb ⟨hBb, hRb, hzb⟩
  have HBb := Lib.hid hBb
  have HRb := Lib.hid hRb
  refine (HSN.out Wb hBb).mono ?_
  rintro e w0 ⟨rfl, hB0⟩
  have HBb0 := Lib.hid hB0
  have HB0 := Lib.hid (hBb.trans (hB0.mono hBb.size))
  clear hB0 hBb hRb
  go_wp2_with fail
  refine (digestsOf_any w0 _ b (bytesAt_any HV.out HB0.out)).mono ?_
  rintro e w1 ⟨u, rfl, hD1, hB1⟩
  have HD1 := Lib.hid hD1
  obtain ⟨h32, a1, cap1, rfl, hcap1, hcm1, h4⟩ := hD1
  rw [HQ.out] at hcap1
  have HH32 := Lib.hid h32
  have HH4 := Lib.hid h4
  have hs01 := hB1.size
  have hs0 := HBb0.out.size
  have HB1 := Lib.hid (HB0.out.trans (hB1.mono HB0.out.size))
  have HR1 : Hid (w1.rangeAt w.heap.size 0 cd) := Lib.hid fun j v hv => ((HBb0.out.trans (hB1.mono HBb0.out.size)).cell (p := ⟨w.heap.size, 0 + j, none⟩) hzb).trans (HRb.out j v hv)
  have hz1 : w.heap.size < w1.heap.size := by omega
  have HTW : Hid (∀ W, Below w1.heap.size w1 W → Tab W ∧ 0 < W.heap.size) := Lib.hid fun W hW => ⟨HT.out.below (HB1.out.trans (hW.mono HB1.out.size)) h0, by have := HB1.out.size; have := hW.size; omega⟩
  rw [HQ.out]
  clear hB1 h32 h4 hs01 hs0
  go_wp2_with fail
  go_loopw [6] (fun c W => ∃ (n j : Nat), c = .int .i64 n ∧ n = 2 ^ j ∧ Below w1.heap.size w1 W) (fun c _ => q + 1 - (intOf c).toNat)
  case atStart => exact ⟨1, 0, rfl, rfl, Below.refl _ _⟩
  case round =>
    obtain ⟨n, j, rfl, hnj, hB⟩ := hrel
    have HNJ := Lib.hid hnj
    have hn0 : 0 < n := by rw [hnj]; exact Nat.two_pow_pos j
    have HBR := Lib.hid hB
    clear hnj
    by_cases hle : n ≤ q
    · have hne : dsOf b ≠ [] := fun e => by have := HQ.out; rw [e] at this; simp at this; omega
      rcases HH4.out with h4 | ⟨db, off, rfl, hdb, hr⟩
      · exact absurd h4 hne
      obtain ⟨tk, htk⟩ : ∃ tk, (dsOf b).take n = tk := ⟨_, rfl⟩
      have htl : tk.length = n := by rw [← htk, List.length_take, HQ.out]; omega
      have ht32 : ∀ x ∈ tk, x.length = 32 := fun x hx => HH32.out x (List.mem_of_mem_take (htk ▸ hx))
      have htr : ∀ i (h : i < tk.length), w1.rangeAt db (off + i * 32) (cells8 tk[i]) := fun i h => by
        have hi : i < (dsOf b).length := by rw [htl] at h; rw [HQ.out]; omega
        have := hr i hi
        subst htk
        rwa [List.getElem_take]
      obtain ⟨hp1, hp2⟩ := next_parts tk d n j HNJ.out htl (by omega)
      obtain ⟨ta, hta⟩ : ∃ ta, tree tk = ta := ⟨_, rfl⟩
      obtain ⟨tb, htb⟩ : ∃ tb, tree [d] = tb := ⟨_, rfl⟩
      have hla : ta.length = 32 := by rw [← hta]; exact tree_len _
      have hlb : tb.length = 32 := by rw [← htb]; exact tree_len _
      rw [hta, htb] at hp1
      rw [hta] at hp2
      obtain ⟨ca, hca⟩ : ∃ ca, cells8 ta = ca := ⟨_, rfl⟩
      have hcb : cells8 tb = cb := by rw [← htb]; exact HCB.out
      have hla' : ca.length = 32 := by rw [← hca, cells8_len, hla]
      obtain ⟨ct, hct⟩ : ∃ ct, cells8 (tree (tk ++ [d])) = ct := ⟨_, rfl⟩
      have hkw : ∀ W, Kept wr W → Below w1.heap.size w1 W := fun W hW => HBR.out.trans (hW.below.mono HBR.out.size)
      have hA : ∀ W, Kept wr W → Calls Tryd.prog 17 #[.slice (some ⟨db, off, none⟩) n cap1] W fun e w' => e = .returned (.agg ca.toArray) ∧ Below W.heap.size W w' := fun W hW => by
        have h := tree_any n tk W _ htl (by omega) ⟨ht32, some ⟨db, off, none⟩, cap1, by rw [htl], by omega, hcm1, .inr ⟨db, off, rfl, by have := (hkw W hW).size; omega, fun i hi u v hv => ((hkw W hW).cell (p := ⟨db, off + i * 32 + u, none⟩) hdb).trans (htr i hi u v hv)⟩⟩ (HTW.out W (hkw W hW)).1 (HTW.out W (hkw W hW)).2
        rw [hta, dv_eq, hca] at h; exact h
      have hL : ∀ W g, Kept wr W → W.rangeAt g 0 cd → g < W.heap.size → Calls Tryd.prog 17 #[.slice (some ⟨g, 0, none⟩) 1 1] W fun e w' => e = .returned (.agg cb.toArray) ∧ Below W.heap.size W w' := fun W g hW hg hlt => by
        have h := tree_any 1 [d] W _ rfl (by omega) ⟨fun x hx => by rw [List.mem_singleton.1 hx]; exact HD.out, some ⟨g, 0, none⟩, 1, rfl, by simp, by unfold maxLen; omega, .inr ⟨g, 0, rfl, hlt, fun i hi u v hv => by
          have hi0 : i = 0 := by simpa using hi
          subst hi0
          exact (show W.cell? ⟨g, 0 + 0 * 32 + u, none⟩ = some v by have := hg u v (by rw [← HCD.out]; simpa using hv); simpa using this)⟩⟩ (HTW.out W (hkw W hW)).1 (HTW.out W (hkw W hW)).2
        rw [htb, dv_eq, hcb] at h; exact h
      have htg : ∀ W B g c, Kept wr W → W.ownsRow B 5 1 (.slice (some ⟨g, 0, none⟩) 64 c) 64 (ca ++ cb) → Calls Tryd.prog 14 #[.string { data := #[110, 111, 100, 101] }, .slice (some ⟨g, 0, none⟩) 64 c] W fun e w' => e = .returned (.agg ct.toArray) ∧ Below W.heap.size W w' := fun W B g c hW hO => by
        have hs : Spare W B g 64 c (ta ++ tb) := by unfold Spare; rw [show cells8 (ta ++ tb) = ca ++ cb by rw [← hca, ← hcb]; simp [cells8]]; exact hO
        obtain ⟨_, s1, s2, s3, s4, s5⟩ := hs.bytes
        have h := tagged_any W { data := #[110, 111, 100, 101] } (.slice (some ⟨g, 0, none⟩) 64 c) (ta ++ tb) ⟨some ⟨g, 0, none⟩, c, by rw [s4], by rw [s4]; exact s2, s3, .inr ⟨g, 0, rfl, s1, s5⟩⟩ (by decide) (by rw [s4]; omega) (HTW.out W (hkw W hW)).1 (HTW.out W (hkw W hW)).2
        rw [dv_eq, show cells8 (tagged (ByteArray.mk #[110, 111, 100, 101]).data.toList (ta ++ tb)) = ct by rw [← hct, hp1]; rfl] at h
        exact h
      have hl1 : (tk ++ [d]).length = n + 1 := by rw [List.length_append, htl]; rfl
      have hf : flat (tk ++ [d]) = flat tk ++ cd := by rw [flat_snoc, HCD.out]
      have h32' : ∀ x ∈ tk ++ [d], x.length = 32 := fun x hx => by
        rcases List.mem_append.1 hx with h | h
        · exact ht32 x h
        · rw [List.mem_singleton.1 h]; exact HD.out
      have hlong : ∀ W B g c, W.ownsRow B 26 32 (.slice (some ⟨g, 0, none⟩) (n + 1) c) (n + 1) (flat tk ++ cd) → Digs W W.heap.size (.slice (some ⟨g, 0, none⟩) (n + 1) c) (tk ++ [d]) := fun W B g c hO => own_digs' (by rw [hf]; exact hO) hl1 h32'
      have hpa : ∀ W g c, Kept wr W → Digs W W.heap.size (.slice (some ⟨g, 0, none⟩) (n + 1) c) (tk ++ [d]) → Calls Tryd.prog 19 #[.slice (some ⟨g, 0, none⟩) (n + 1) c, .int .i64 n] W fun e w' => ∃ u, e = .returned (.tuple #[u, .int .i64 0]) ∧ w'.ownsRow W.heap.size 26 32 u 1 ca ∧ Below W.heap.size W w' := fun W g c hW hD => by
        have h := path_any W (tk ++ [d]) _ n (by rw [hl1]; omega) (by rw [hl1]; omega) hD (HTW.out W (hkw W hW)).1 (HTW.out W (hkw W hW)).2
        rw [hp2] at h
        exact h.mono fun e w' ⟨u, x1, x2, x3⟩ => ⟨u, x1, by have e : flat [ta] = ca := by rw [← hca]; simp [flat]
                                                            rw [e] at x2; exact x2, x3⟩
      have htc : ∀ W g c, Kept wr W → Digs W W.heap.size (.slice (some ⟨g, 0, none⟩) (n + 1) c) (tk ++ [d]) → Calls Tryd.prog 17 #[.slice (some ⟨g, 0, none⟩) (n + 1) c] W fun e w' => e = .returned (.agg ct.toArray) ∧ Below W.heap.size W w' := fun W g c hW hD => by
        have h := tree_any (n + 1) (tk ++ [d]) W _ hl1 (by omega) hD (HTW.out W (hkw W hW)).1 (HTW.out W (hkw W hW)).2
        rw [dv_eq, hct] at h; exact h
      have HTA := Lib.hid hA
      have HTL := Lib.hid hL
      have HTN := Lib.hid htg
      have HLONG := Lib.hid hlong
      have HPA := Lib.hid hpa
      have HTCC := Lib.hid htc
      have HLA := Lib.hid hla'
      have HZA : Hid ((Tryd.prog.info? 26).map (·.size) = some ca.length) := by show _ = _; rw [hla']; exact Tryd.info26
      have HOA : Hid (∀ v ∈ ca, v.oneCell' = true) := Lib.hid (by rw [← hca]; exact one_cells8 _)
      have HEQ1 : Hid (∀ W : World, (Op.equalIn 10000 26 (.agg ct.toArray) (.agg ct.toArray)).run Tryd.prog W = .ok true W) := Lib.hid fun W => by
        have h := eq_any (tree (tk ++ [d])) (tree_len _) W
        rw [dv_eq, hct] at h; exact h
      have HEQ2 : Hid (∀ W : World, (Op.equalIn 10000 26 (.agg ca.toArray) (.agg ca.toArray)).run Tryd.prog W = .ok true W) := Lib.hid fun W => by
        have h := eq_any ta hla W
        rw [dv_eq, hca] at h; exact h
      have HRD : Hid (∀ W, Kept wr W → W.rangeAt w.heap.size 0 cd) := Lib.hid fun W hW j v hv => ((hkw W hW).cell (p := ⟨w.heap.size, 0 + j, none⟩) hz1).trans (HR1.out j v hv)
      have hdt : ∀ W, Kept wr W → Digs W W.heap.size (.slice (some ⟨db, off, none⟩) n cap1) tk := fun W hW => ⟨ht32, some ⟨db, off, none⟩, cap1, by rw [htl], by omega, hcm1, .inr ⟨db, off, rfl, by have := (hkw W hW).size; omega, fun i hi u v hv => ((hkw W hW).cell (p := ⟨db, off + i * 32 + u, none⟩) hdb).trans (htr i hi u v hv)⟩⟩
      have hpl : ∀ W, Kept wr W → Piece W (.slice (some ⟨db, off, none⟩) n cap1) n (flat tk) := fun W hW => by
        have := digs_piece (hdt W hW)
        rwa [htl] at this
      have hfl : (flat tk).length = n * 32 := by rw [flat_len tk ht32, htl]
      have hfo : ∀ u ∈ flat tk, u.oneCell' = true := fun u hu => by
        obtain ⟨x, _, hx⟩ := List.mem_flatMap.1 hu
        exact one_cells8 x u hx
      have HPLR := Lib.hid hpl
      have HFL := Lib.hid hfl
      have HFO := Lib.hid hfo
      have hd1 : decide (n ≤ q) = true := by simpa using hle
      have f1 : ((n : Nat) : Int) ≤ (q : Int) := by omega
      have f2 : ((n : Nat) : Int) ≤ (cap1 : Int) := by omega
      have f3 : ((q : Nat) : Int) ≤ (cap1 : Int) := by omega
      unfold maxLen at hcm1
      clear htk htl ht32 htr hp1 hp2 hta htb hla hlb hca hcb hla' hct hkw hA hL htg hl1 hf h32' hlong hpa htc hdt hpl hfl hfo hr hne hB
      go_wp2
      go_cut [7, 8] (fun s7 s8 wx => ∃ b7 b8 : Nat, s7 = .pointer (some ⟨b7, 0, none⟩) ∧ s8 = .pointer (some ⟨b8, 0, none⟩) ∧ Kept wr wx ∧ Arr wx b7 ca ∧ Arr wx b8 cb ∧ b7 < wx.heap.size ∧ b8 < wx.heap.size)
      case first =>
        refine wp_region_held_drew (S := fun W => Kept wr W) (by kernel_rfl) ((Kept.refl wr).drew) (fun hHeld => ?_)
        refine wpAnyH_take (i := 0) (oi := c8a0) (v := ?_) rfl (by kernel_rfl) (by kernel_rfl) (by kernel_rfl) (fun _ _ _ h => h) (Or.inl ⟨by rfl, ?_⟩) hHeld ?_
        rotate_left
        · (intro w hSw; (try dsimp only at hSw); unfold c8a0; go_simp <;> with_reducible rfl)
        try simp only [c8a0, Act.put, s1, s2, s3]
        refine wpAnyH_take (i := 1) (oi := c8a1) (v := ?_) rfl (by kernel_rfl) (by kernel_rfl) (by kernel_rfl) (fun _ _ _ h => h) (Or.inl ⟨by rfl, ?_⟩) hHeld ?_
        rotate_left
        · (intro w hSw; (try dsimp only at hSw); unfold c8a1; go_simp <;> with_reducible rfl)
        try simp only [c8a1, Act.put, s1, s2, s3]
        refine wpAnyH_take (i := 2) (oi := c8a2) (v := ?_) rfl (by kernel_rfl) (by kernel_rfl) (by kernel_rfl) (fun _ _ _ h => h) (Or.inl ⟨by rfl, ?_⟩) hHeld ?_
        rotate_left
        · (intro w hSw; (try dsimp only at hSw); unfold c8a2; go_simp <;> with_reducible rfl)
        try simp only [c8a2, Act.put, s1, s2, s3]
        refine wpAnyH_take (i := 4) (oi := c8a4) rfl (by kernel_rfl) (by kernel_rfl) (by kernel_rfl) (fun _ _ _ h => h) (yieldsIf_load_mid (by rfl) 26 (.tmp 3) (by rfl) w.heap.size 0 (by rfl) cd _ (fun W h => HRD.out W h) Tryd.underlying26 rfl HZD.out) hHeld ?_
        try simp only [c8a4, Act.put, s1, s2, s3]
        refine wpAnyH_ready (rs := [3, 5, 7, 8]) (by kernel_rfl) (by simp) ?_
        refine AllReadyH.cons (o := c8a3) rfl (fun K hK => ?_) (AllReadyH.cons (o := c8a5) rfl (fun K hK => ?_) (AllReadyH.cons (o := c8a7) rfl (fun K hK => ?_) (AllReadyH.cons (o := c8a8) rfl (fun K hK => ?_) AllReadyH.nil)))
        · skip
          rw [if_pos (by rfl)]
          unfold c8a3
          go_simp
          (with_reducible refine (HTA.out _ hHeld).mono ?_)
          rintro e W3 ⟨rfl, hB3⟩
          have hG3 := gbelow (row := none) hB3
          have hS3 := Kept.moved hHeld hG3 (fun _ h => by cases h)
          go_wp2_with fail
          refine hK.out _ _ hS3 (fun hHeld => ?_)
          clear hK K
          try simp only [c8a3, Act.put, s1, s2, s3]
          refine wpAnyH_ready (rs := [5, 7, 8]) (by kernel_rfl) (by simp) ?_
          refine AllReadyH.cons (o := c8a5) rfl (fun K hK => ?_) (AllReadyH.cons (o := c8a7) rfl (fun K hK => ?_) (AllReadyH.cons (o := c8a8) rfl (fun K hK => ?_) AllReadyH.nil))
          · skip
            rw [if_pos (by rfl)]
            refine wp_one30 (.tmp 26) (by rfl) cd (by rfl) HLD.out ?_
            intro g5 W5 hle5 hlt5 hG5 one_5
            have hS5 := Kept.moved hHeld hG5 (fun _ h => by cases h)
            refine hK.out _ _ hS5 (fun hHeld => ?_)
            clear hK K
            try simp only [c8a5, Act.put, s1, s2, s3]
            refine wpAnyH_ready (rs := [6, 7, 8]) (by kernel_rfl) (by simp) ?_
            refine AllReadyH.cons (o := c8a6) rfl (fun K hK => ?_) (AllReadyH.cons (o := c8a7) rfl (fun K hK => ?_) (AllReadyH.cons (o := c8a8) rfl (fun K hK => ?_) AllReadyH.nil))
            · skip
              rw [if_pos (by rfl)]
              unfold c8a6
              go_simp
              (with_reducible refine (HTL.out _ _ hHeld one_5 hlt5).mono ?_)
              rintro e W6 ⟨rfl, hB6⟩
              have hG6 := gbelow (row := none) hB6
              have hS6 := Kept.moved hHeld hG6 (fun _ h => by cases h)
              have one_6 := rng_moved one_5 hG6 hlt5 (by simp)
              have lt_one_6 := Nat.lt_of_lt_of_le hlt5 hG6.size
              clear one_5 hlt5
              go_wp2_with fail
              refine hK.out _ _ hS6 (fun hHeld => ?_)
              clear hK K
              try simp only [c8a6, Act.put, s1, s2, s3]
              refine wpAnyH_ready (rs := [7, 8]) (by kernel_rfl) (by simp) ?_
              refine AllReadyH.cons (o := c8a7) rfl (fun K hK => ?_) (AllReadyH.cons (o := c8a8) rfl (fun K hK => ?_) AllReadyH.nil)
              · skip
                rw [if_pos (by rfl)]
                refine wp_alloc26 (by rfl) ?_
                intro g7 W7 hle7 hlt7 hG7 va_7
                have le_g7 := Nat.le_trans hHeld.below.size hle7
                have hS7 := Kept.moved hHeld hG7 (fun _ h => by cases h)
                have ne_g5_g7 : g5 ≠ g7 := by have := lt_one_6; have := hle7; omega
                have one_7 := rng_moved one_6 hG7 lt_one_6 (by simp)
                have lt_one_7 := Nat.lt_of_lt_of_le lt_one_6 hG7.size
                clear one_6 lt_one_6
                refine hK.out _ _ hS7 (fun hHeld => ?_)
                clear hK K
                try simp only [c8a7, Act.put, s1, s2, s3]
                refine wpAnyH_ready (rs := [8]) (by kernel_rfl) (by simp) ?_
                refine AllReadyH.cons (o := c8a8) rfl (fun K hK => ?_) AllReadyH.nil
                rw [if_pos (by rfl)]
                refine wp_alloc26 (by rfl) ?_
                intro g8 W8 hle8 hlt8 hG8 vb_8
                have le_g8 := Nat.le_trans hHeld.below.size hle8
                have hS8 := Kept.moved hHeld hG8 (fun _ h => by cases h)
                have ne_g5_g8 : g5 ≠ g8 := by have := lt_one_7; have := hle8; omega
                have one_8 := rng_moved one_7 hG8 lt_one_7 (by simp)
                have lt_one_8 := Nat.lt_of_lt_of_le lt_one_7 hG8.size
                clear one_7 lt_one_7
                have ne_g7_g8 : g7 ≠ g8 := by have := hlt7; have := hle8; omega
                have va_8 := Arr.moved va_7 hG8 hlt7 (by simp)
                have lt_va_8 := Nat.lt_of_lt_of_le hlt7 hG8.size
                clear va_7 hlt7
                refine hK.out _ _ hS8 (fun hHeld => ?_)
                clear hK K
                try simp only [c8a8, Act.put, s1, s2, s3]
                refine wpAnyH_ready (rs := [9]) (by kernel_rfl) (by simp) ?_
                refine AllReadyH.cons (o := c8a9) rfl (fun K hK => ?_) AllReadyH.nil
                rw [if_pos (by rfl)]
                refine wp_st26 (.tmp 7) (.tmp 25) (by rfl) g7 ca _ (by rfl) (by rfl) va_8 (by rw [HLA.out]; rfl) HZA.out HOA.out ?_
                intro W9 hG9 va_9
                have hS9 := Kept.moved hHeld hG9 (fun k hk => by cases hk; exact le_g7)
                have one_9 := rng_moved one_8 hG9 lt_one_8 (by simpa using ne_g5_g7)
                have lt_one_9 := Nat.lt_of_lt_of_le lt_one_8 hG9.size
                have vb_9 := Arr.moved vb_8 hG9 hlt8 (by simpa using (Ne.symm ne_g7_g8))
                have lt_vb_9 := Nat.lt_of_lt_of_le hlt8 hG9.size
                have lt_va_9 := Nat.lt_of_lt_of_le lt_va_8 hG9.size
                clear one_8
                clear va_8
                clear vb_8
                refine hK.out _ _ hS9 (fun hHeld => ?_)
                clear hK K
                try simp only [c8a9, Act.put]
                refine wpAnyH_ready (rs := [10]) (by kernel_rfl) (by simp) ?_
                refine AllReadyH.cons (o := c8a10) rfl (fun K hK => ?_) AllReadyH.nil
                rw [if_pos (by rfl)]
                refine wp_st26 (.tmp 8) (.tmp 28) (by rfl) g8 cb _ (by rfl) (by rfl) vb_9 (by rw [HLB.out]; rfl) HZB.out HOB.out ?_
                intro W10 hG10 vb_10
                have hS10 := Kept.moved hHeld hG10 (fun k hk => by cases hk; exact le_g8)
                have one_10 := rng_moved one_9 hG10 lt_one_9 (by simpa using ne_g5_g8)
                have lt_one_10 := Nat.lt_of_lt_of_le lt_one_9 hG10.size
                have va_10 := Arr.moved va_9 hG10 lt_va_9 (by simpa using ne_g7_g8)
                have lt_va_10 := Nat.lt_of_lt_of_le lt_va_9 hG10.size
                have lt_vb_10 := Nat.lt_of_lt_of_le lt_vb_9 hG10.size
                clear one_9
                clear va_9
                clear vb_9
                refine hK.out _ _ hS10 (fun hHeld => ?_)
                clear hK K
                try simp only [c8a10, Act.put]
                refine wpAnyH_done (by kernel_rfl) ?_ _
                go_wp2_with fail
                go_meet
                exact ⟨_, _, rfl, rfl, hHeld, va_10, vb_10, lt_va_10, lt_vb_10⟩
              · skip
                rw [if_pos (by rfl)]
                refine wp_alloc26 (by rfl) ?_
                intro g8 W8 hle8 hlt8 hG8 vb_8
                have le_g8 := Nat.le_trans hHeld.below.size hle8
                have hS8 := Kept.moved hHeld hG8 (fun _ h => by cases h)
                have ne_g5_g8 : g5 ≠ g8 := by have := lt_one_6; have := hle8; omega
                have one_8 := rng_moved one_6 hG8 lt_one_6 (by simp)
                have lt_one_8 := Nat.lt_of_lt_of_le lt_one_6 hG8.size
                clear one_6 lt_one_6
                refine hK.out _ _ hS8 (fun hHeld => ?_)
                clear hK K
                try simp only [c8a8, Act.put, s1, s2, s3]
                refine wpAnyH_ready (rs := [7]) (by kernel_rfl) (by simp) ?_
                refine AllReadyH.cons (o := c8a7) rfl (fun K hK => ?_) AllReadyH.nil
                rw [if_pos (by rfl)]
                refine wp_alloc26 (by rfl) ?_
                intro g7 W7 hle7 hlt7 hG7 va_7
                have le_g7 := Nat.le_trans hHeld.below.size hle7
                have hS7 := Kept.moved hHeld hG7 (fun _ h => by cases h)
                have ne_g5_g7 : g5 ≠ g7 := by have := lt_one_8; have := hle7; omega
                have one_7 := rng_moved one_8 hG7 lt_one_8 (by simp)
                have lt_one_7 := Nat.lt_of_lt_of_le lt_one_8 hG7.size
                clear one_8 lt_one_8
                have ne_g8_g7 : g8 ≠ g7 := by have := hlt8; have := hle7; omega
                have vb_7 := Arr.moved vb_8 hG7 hlt8 (by simp)
                have lt_vb_7 := Nat.lt_of_lt_of_le hlt8 hG7.size
                clear vb_8 hlt8
                refine hK.out _ _ hS7 (fun hHeld => ?_)
                clear hK K
                try simp only [c8a7, Act.put, s1, s2, s3]
                refine wpAnyH_ready (rs := [9]) (by kernel_rfl) (by simp) ?_
                refine AllReadyH.cons (o := c8a9) rfl (fun K hK => ?_) AllReadyH.nil
                rw [if_pos (by rfl)]
                refine wp_st26 (.tmp 7) (.tmp 25) (by rfl) g7 ca _ (by rfl) (by rfl) va_7 (by rw [HLA.out]; rfl) HZA.out HOA.out ?_
                intro W9 hG9 va_9
                have hS9 := Kept.moved hHeld hG9 (fun k hk => by cases hk; exact le_g7)
                have one_9 := rng_moved one_7 hG9 lt_one_7 (by simpa using ne_g5_g7)
                have lt_one_9 := Nat.lt_of_lt_of_le lt_one_7 hG9.size
                have vb_9 := Arr.moved vb_7 hG9 lt_vb_7 (by simpa using ne_g8_g7)
                have lt_vb_9 := Nat.lt_of_lt_of_le lt_vb_7 hG9.size
                have lt_va_9 := Nat.lt_of_lt_of_le hlt7 hG9.size
                clear one_7
                clear vb_7
                clear va_7
                refine hK.out _ _ hS9 (fun hHeld => ?_)
                clear hK K
                try simp only [c8a9, Act.put]
                refine wpAnyH_ready (rs := [10]) (by kernel_rfl) (by simp) ?_
                refine AllReadyH.cons (o := c8a10) rfl (fun K hK => ?_) AllReadyH.nil
                rw [if_pos (by rfl)]
                refine wp_st26 (.tmp 8) (.tmp 28) (by rfl) g8 cb _ (by rfl) (by rfl) vb_9 (by rw [HLB.out]; rfl) HZB.out HOB.out ?_
                intro W10 hG10 vb_10
                have hS10 := Kept.moved hHeld hG10 (fun k hk => by cases hk; exact le_g8)
                have one_10 := rng_moved one_9 hG10 lt_one_9 (by simpa using ne_g5_g8)
                have lt_one_10 := Nat.lt_of_lt_of_le lt_one_9 hG10.size
                have va_10 := Arr.moved va_9 hG10 lt_va_9 (by simpa using (Ne.symm ne_g8_g7))
                have lt_va_10 := Nat.lt_of_lt_of_le lt_va_9 hG10.size
                have lt_vb_10 := Nat.lt_of_lt_of_le lt_vb_9 hG10.size
                clear one_9
                clear vb_9
                clear va_9
                refine hK.out _ _ hS10 (fun hHeld => ?_)
                clear hK K
                try simp only [c8a10, Act.put]
                refine wpAnyH_done (by kernel_rfl) ?_ _
                go_wp2_with fail
                go_meet
                exact ⟨_, _, rfl, rfl, hHeld, va_10, vb_10, lt_va_10, lt_vb_10⟩
            · skip
              rw [if_pos (by rfl)]
              refine wp_alloc26 (by rfl) ?_
              intro g7 W7 hle7 hlt7 hG7 va_7
              have le_g7 := Nat.le_trans hHeld.below.size hle7
              have hS7 := Kept.moved hHeld hG7 (fun _ h => by cases h)
              have ne_g5_g7 : g5 ≠ g7 := by have := hlt5; have := hle7; omega
              have one_7 := rng_moved one_5 hG7 hlt5 (by simp)
              have lt_one_7 := Nat.lt_of_lt_of_le hlt5 hG7.size
              clear one_5 hlt5
              refine hK.out _ _ hS7 (fun hHeld => ?_)
              clear hK K
              try simp only [c8a7, Act.put, s1, s2, s3]
              refine wpAnyH_ready (rs := [6, 8]) (by kernel_rfl) (by simp) ?_
              refine AllReadyH.cons (o := c8a6) rfl (fun K hK => ?_) (AllReadyH.cons (o := c8a8) rfl (fun K hK => ?_) AllReadyH.nil)
              · skip
                rw [if_pos (by rfl)]
                unfold c8a6
                go_simp
                (with_reducible refine (HTL.out _ _ hHeld one_7 lt_one_7).mono ?_)
                rintro e W6 ⟨rfl, hB6⟩
                have hG6 := gbelow (row := none) hB6
                have hS6 := Kept.moved hHeld hG6 (fun _ h => by cases h)
                have one_6 := rng_moved one_7 hG6 lt_one_7 (by simp)
                have lt_one_6 := Nat.lt_of_lt_of_le lt_one_7 hG6.size
                clear one_7 lt_one_7
                have va_6 := Arr.moved va_7 hG6 hlt7 (by simp)
                have lt_va_6 := Nat.lt_of_lt_of_le hlt7 hG6.size
                clear va_7 hlt7
                go_wp2_with fail
                refine hK.out _ _ hS6 (fun hHeld => ?_)
                clear hK K
                try simp only [c8a6, Act.put, s1, s2, s3]
                refine wpAnyH_ready (rs := [8]) (by kernel_rfl) (by simp) ?_
                refine AllReadyH.cons (o := c8a8) rfl (fun K hK => ?_) AllReadyH.nil
                rw [if_pos (by rfl)]
                refine wp_alloc26 (by rfl) ?_
                intro g8 W8 hle8 hlt8 hG8 vb_8
                have le_g8 := Nat.le_trans hHeld.below.size hle8
                have hS8 := Kept.moved hHeld hG8 (fun _ h => by cases h)
                have ne_g5_g8 : g5 ≠ g8 := by have := lt_one_6; have := hle8; omega
                have one_8 := rng_moved one_6 hG8 lt_one_6 (by simp)
                have lt_one_8 := Nat.lt_of_lt_of_le lt_one_6 hG8.size
                clear one_6 lt_one_6
                have ne_g7_g8 : g7 ≠ g8 := by have := lt_va_6; have := hle8; omega
                have va_8 := Arr.moved va_6 hG8 lt_va_6 (by simp)
                have lt_va_8 := Nat.lt_of_lt_of_le lt_va_6 hG8.size
                clear va_6 lt_va_6
                refine hK.out _ _ hS8 (fun hHeld => ?_)
                clear hK K
                try simp only [c8a8, Act.put, s1, s2, s3]
                refine wpAnyH_ready (rs := [9]) (by kernel_rfl) (by simp) ?_
                refine AllReadyH.cons (o := c8a9) rfl (fun K hK => ?_) AllReadyH.nil
                rw [if_pos (by rfl)]
                refine wp_st26 (.tmp 7) (.tmp 25) (by rfl) g7 ca _ (by rfl) (by rfl) va_8 (by rw [HLA.out]; rfl) HZA.out HOA.out ?_
                intro W9 hG9 va_9
                have hS9 := Kept.moved hHeld hG9 (fun k hk => by cases hk; exact le_g7)
                have one_9 := rng_moved one_8 hG9 lt_one_8 (by simpa using ne_g5_g7)
                have lt_one_9 := Nat.lt_of_lt_of_le lt_one_8 hG9.size
                have vb_9 := Arr.moved vb_8 hG9 hlt8 (by simpa using (Ne.symm ne_g7_g8))
                have lt_vb_9 := Nat.lt_of_lt_of_le hlt8 hG9.size
                have lt_va_9 := Nat.lt_of_lt_of_le lt_va_8 hG9.size
                clear one_8
                clear va_8
                clear vb_8
                refine hK.out _ _ hS9 (fun hHeld => ?_)
                clear hK K
                try simp only [c8a9, Act.put]
                refine wpAnyH_ready (rs := [10]) (by kernel_rfl) (by simp) ?_
                refine AllReadyH.cons (o := c8a10) rfl (fun K hK => ?_) AllReadyH.nil
                rw [if_pos (by rfl)]
                refine wp_st26 (.tmp 8) (.tmp 28) (by rfl) g8 cb _ (by rfl) (by rfl) vb_9 (by rw [HLB.out]; rfl) HZB.out HOB.out ?_
                intro W10 hG10 vb_10
                have hS10 := Kept.moved hHeld hG10 (fun k hk => by cases hk; exact le_g8)
                have one_10 := rng_moved one_9 hG10 lt_one_9 (by simpa using ne_g5_g8)
                have lt_one_10 := Nat.lt_of_lt_of_le lt_one_9 hG10.size
                have va_10 := Arr.moved va_9 hG10 lt_va_9 (by simpa using ne_g7_g8)
                have lt_va_10 := Nat.lt_of_lt_of_le lt_va_9 hG10.size
                have lt_vb_10 := Nat.lt_of_lt_of_le lt_vb_9 hG10.size
                clear one_9
                clear va_9
                clear vb_9
                refine hK.out _ _ hS10 (fun hHeld => ?_)
                clear hK K
                try simp only [c8a10, Act.put]
                refine wpAnyH_done (by kernel_rfl) ?_ _
                go_wp2_with fail
                go_meet
                exact ⟨_, _, rfl, rfl, hHeld, va_10, vb_10, lt_va_10, lt_vb_10⟩
              · skip
                rw [if_pos (by rfl)]
                refine wp_alloc26 (by rfl) ?_
                intro g8 W8 hle8 hlt8 hG8 vb_8
                have le_g8 := Nat.le_trans hHeld.below.size hle8
                have hS8 := Kept.moved hHeld hG8 (fun _ h => by cases h)
                have ne_g5_g8 : g5 ≠ g8 := by have := lt_one_7; have := hle8; omega
                have one_8 := rng_moved one_7 hG8 lt_one_7 (by simp)
                have lt_one_8 := Nat.lt_of_lt_of_le lt_one_7 hG8.size
                clear one_7 lt_one_7
                have ne_g7_g8 : g7 ≠ g8 := by have := hlt7; have := hle8; omega
                have va_8 := Arr.moved va_7 hG8 hlt7 (by simp)
                have lt_va_8 := Nat.lt_of_lt_of_le hlt7 hG8.size
                clear va_7 hlt7
                refine hK.out _ _ hS8 (fun hHeld => ?_)
                clear hK K
                try simp only [c8a8, Act.put, s1, s2, s3]
                refine wpAnyH_ready (rs := [6]) (by kernel_rfl) (by simp) ?_
                refine AllReadyH.cons (o := c8a6) rfl (fun K hK => ?_) AllReadyH.nil
                rw [if_pos (by rfl)]
                unfold c8a6
                go_simp
                (with_reducible refine (HTL.out _ _ hHeld one_8 lt_one_8).mono ?_)
                rintro e W6 ⟨rfl, hB6⟩
                have hG6 := gbelow (row := none) hB6
                have hS6 := Kept.moved hHeld hG6 (fun _ h => by cases h)
                have one_6 := rng_moved one_8 hG6 lt_one_8 (by simp)
                have lt_one_6 := Nat.lt_of_lt_of_le lt_one_8 hG6.size
                clear one_8 lt_one_8
                have va_6 := Arr.moved va_8 hG6 lt_va_8 (by simp)
                have lt_va_6 := Nat.lt_of_lt_of_le lt_va_8 hG6.size
                clear va_8 lt_va_8
                have vb_6 := Arr.moved vb_8 hG6 hlt8 (by simp)
                have lt_vb_6 := Nat.lt_of_lt_of_le hlt8 hG6.size
                clear vb_8 hlt8
                go_wp2_with fail
                refine hK.out _ _ hS6 (fun hHeld => ?_)
                clear hK K
                try simp only [c8a6, Act.put, s1, s2, s3]
                refine wpAnyH_ready (rs := [9]) (by kernel_rfl) (by simp) ?_
                refine AllReadyH.cons (o := c8a9) rfl (fun K hK => ?_) AllReadyH.nil
                rw [if_pos (by rfl)]
                refine wp_st26 (.tmp 7) (.tmp 25) (by rfl) g7 ca _ (by rfl) (by rfl) va_6 (by rw [HLA.out]; rfl) HZA.out HOA.out ?_
                intro W9 hG9 va_9
                have hS9 := Kept.moved hHeld hG9 (fun k hk => by cases hk; exact le_g7)
                have one_9 := rng_moved one_6 hG9 lt_one_6 (by simpa using ne_g5_g7)
                have lt_one_9 := Nat.lt_of_lt_of_le lt_one_6 hG9.size
                have vb_9 := Arr.moved vb_6 hG9 lt_vb_6 (by simpa using (Ne.symm ne_g7_g8))
                have lt_vb_9 := Nat.lt_of_lt_of_le lt_vb_6 hG9.size
                have lt_va_9 := Nat.lt_of_lt_of_le lt_va_6 hG9.size
                clear one_6
                clear va_6
                clear vb_6
                refine hK.out _ _ hS9 (fun hHeld => ?_)
                clear hK K
                try simp only [c8a9, Act.put]
                refine wpAnyH_ready (rs := [10]) (by kernel_rfl) (by simp) ?_
                refine AllReadyH.cons (o := c8a10) rfl (fun K hK => ?_) AllReadyH.nil
                rw [if_pos (by rfl)]
                refine wp_st26 (.tmp 8) (.tmp 28) (by rfl) g8 cb _ (by rfl) (by rfl) vb_9 (by rw [HLB.out]; rfl) HZB.out HOB.out ?_
                intro W10 hG10 vb_10
                have hS10 := Kept.moved hHeld hG10 (fun k hk => by cases hk; exact le_g8)
                have one_10 := rng_moved one_9 hG10 lt_one_9 (by simpa using ne_g5_g8)
                have lt_one_10 := Nat.lt_of_lt_of_le lt_one_9 hG10.size
                have va_10 := Arr.moved va_9 hG10 lt_va_9 (by simpa using ne_g7_g8)
                have lt_va_10 := Nat.lt_of_lt_of_le lt_va_9 hG10.size
                have lt_vb_10 := Nat.lt_of_lt_of_le lt_vb_9 hG10.size
                clear one_9
                clear va_9
                clear vb_9
                refine hK.out _ _ hS10 (fun hHeld => ?_)
                clear hK K
                try simp only [c8a10, Act.put]
                refine wpAnyH_done (by kernel_rfl) ?_ _
                go_wp2_with fail
                go_meet
                exact ⟨_, _, rfl, rfl, hHeld, va_10, vb_10, lt_va_10, lt_vb_10⟩
            · skip
              rw [if_pos (by rfl)]
              refine wp_alloc26 (by rfl) ?_
              intro g8 W8 hle8 hlt8 hG8 vb_8
              have le_g8 := Nat.le_trans hHeld.below.size hle8
              have hS8 := Kept.moved hHeld hG8 (fun _ h => by cases h)
              have ne_g5_g8 : g5 ≠ g8 := by have := hlt5; have := hle8; omega
              have one_8 := rng_moved one_5 hG8 hlt5 (by simp)
              have lt_one_8 := Nat.lt_of_lt_of_le hlt5 hG8.size
              clear one_5 hlt5
              refine hK.out _ _ hS8 (fun hHeld => ?_)
              clear hK K
              try simp only [c8a8, Act.put, s1, s2, s3]
              refine wpAnyH_ready (rs := [6, 7]) (by kernel_rfl) (by simp) ?_
              refine AllReadyH.cons (o := c8a6) rfl (fun K hK => ?_) (AllReadyH.cons (o := c8a7) rfl (fun K hK => ?_) AllReadyH.nil)
              · skip
                rw [if_pos (by rfl)]
                unfold c8a6
                go_simp
                (with_reducible refine (HTL.out _ _ hHeld one_8 lt_one_8).mono ?_)
                rintro e W6 ⟨rfl, hB6⟩
                have hG6 := gbelow (row := none) hB6
                have hS6 := Kept.moved hHeld hG6 (fun _ h => by cases h)
                have one_6 := rng_moved one_8 hG6 lt_one_8 (by simp)
                have lt_one_6 := Nat.lt_of_lt_of_le lt_one_8 hG6.size
                clear one_8 lt_one_8
                have vb_6 := Arr.moved vb_8 hG6 hlt8 (by simp)
                have lt_vb_6 := Nat.lt_of_lt_of_le hlt8 hG6.size
                clear vb_8 hlt8
                go_wp2_with fail
                refine hK.out _ _ hS6 (fun hHeld => ?_)
                clear hK K
                try simp only [c8a6, Act.put, s1, s2, s3]
                refine wpAnyH_ready (rs := [7]) (by kernel_rfl) (by simp) ?_
                refine AllReadyH.cons (o := c8a7) rfl (fun K hK => ?_) AllReadyH.nil
                rw [if_pos (by rfl)]
                refine wp_alloc26 (by rfl) ?_
                intro g7 W7 hle7 hlt7 hG7 va_7
                have le_g7 := Nat.le_trans hHeld.below.size hle7
                have hS7 := Kept.moved hHeld hG7 (fun _ h => by cases h)
                have ne_g5_g7 : g5 ≠ g7 := by have := lt_one_6; have := hle7; omega
                have one_7 := rng_moved one_6 hG7 lt_one_6 (by simp)
                have lt_one_7 := Nat.lt_of_lt_of_le lt_one_6 hG7.size
                clear one_6 lt_one_6
                have ne_g8_g7 : g8 ≠ g7 := by have := lt_vb_6; have := hle7; omega
                have vb_7 := Arr.moved vb_6 hG7 lt_vb_6 (by simp)
                have lt_vb_7 := Nat.lt_of_lt_of_le lt_vb_6 hG7.size
                clear vb_6 lt_vb_6
                refine hK.out _ _ hS7 (fun hHeld => ?_)
                clear hK K
                try simp only [c8a7, Act.put, s1, s2, s3]
                refine wpAnyH_ready (rs := [9]) (by kernel_rfl) (by simp) ?_
                refine AllReadyH.cons (o := c8a9) rfl (fun K hK => ?_) AllReadyH.nil
                rw [if_pos (by rfl)]
                refine wp_st26 (.tmp 7) (.tmp 25) (by rfl) g7 ca _ (by rfl) (by rfl) va_7 (by rw [HLA.out]; rfl) HZA.out HOA.out ?_
                intro W9 hG9 va_9
                have hS9 := Kept.moved hHeld hG9 (fun k hk => by cases hk; exact le_g7)
                have one_9 := rng_moved one_7 hG9 lt_one_7 (by simpa using ne_g5_g7)
                have lt_one_9 := Nat.lt_of_lt_of_le lt_one_7 hG9.size
                have vb_9 := Arr.moved vb_7 hG9 lt_vb_7 (by simpa using ne_g8_g7)
                have lt_vb_9 := Nat.lt_of_lt_of_le lt_vb_7 hG9.size
                have lt_va_9 := Nat.lt_of_lt_of_le hlt7 hG9.size
                clear one_7
                clear vb_7
                clear va_7
                refine hK.out _ _ hS9 (fun hHeld => ?_)
                clear hK K
                try simp only [c8a9, Act.put]
                refine wpAnyH_ready (rs := [10]) (by kernel_rfl) (by simp) ?_
                refine AllReadyH.cons (o := c8a10) rfl (fun K hK => ?_) AllReadyH.nil
                rw [if_pos (by rfl)]
                refine wp_st26 (.tmp 8) (.tmp 28) (by rfl) g8 cb _ (by rfl) (by rfl) vb_9 (by rw [HLB.out]; rfl) HZB.out HOB.out ?_
                intro W10 hG10 vb_10
                have hS10 := Kept.moved hHeld hG10 (fun k hk => by cases hk; exact le_g8)
                have one_10 := rng_moved one_9 hG10 lt_one_9 (by simpa using ne_g5_g8)
                have lt_one_10 := Nat.lt_of_lt_of_le lt_one_9 hG10.size
                have va_10 := Arr.moved va_9 hG10 lt_va_9 (by simpa using (Ne.symm ne_g8_g7))
                have lt_va_10 := Nat.lt_of_lt_of_le lt_va_9 hG10.size
                have lt_vb_10 := Nat.lt_of_lt_of_le lt_vb_9 hG10.size
                clear one_9
                clear vb_9
                clear va_9
                refine hK.out _ _ hS10 (fun hHeld => ?_)
                clear hK K
                try simp only [c8a10, Act.put]
                refine wpAnyH_done (by kernel_rfl) ?_ _
                go_wp2_with fail
                go_meet
                exact ⟨_, _, rfl, rfl, hHeld, va_10, vb_10, lt_va_10, lt_vb_10⟩
              · skip
                rw [if_pos (by rfl)]
                refine wp_alloc26 (by rfl) ?_
                intro g7 W7 hle7 hlt7 hG7 va_7
                have le_g7 := Nat.le_trans hHeld.below.size hle7
                have hS7 := Kept.moved hHeld hG7 (fun _ h => by cases h)
                have ne_g5_g7 : g5 ≠ g7 := by have := lt_one_8; have := hle7; omega
                have one_7 := rng_moved one_8 hG7 lt_one_8 (by simp)
                have lt_one_7 := Nat.lt_of_lt_of_le lt_one_8 hG7.size
                clear one_8 lt_one_8
                have ne_g8_g7 : g8 ≠ g7 := by have := hlt8; have := hle7; omega
                have vb_7 := Arr.moved vb_8 hG7 hlt8 (by simp)
                have lt_vb_7 := Nat.lt_of_lt_of_le hlt8 hG7.size
                clear vb_8 hlt8
                refine hK.out _ _ hS7 (fun hHeld => ?_)
                clear hK K
                try simp only [c8a7, Act.put, s1, s2, s3]
                refine wpAnyH_ready (rs := [6]) (by kernel_rfl) (by simp) ?_
                refine AllReadyH.cons (o := c8a6) rfl (fun K hK => ?_) AllReadyH.nil
                rw [if_pos (by rfl)]
                unfold c8a6
                go_simp
                (with_reducible refine (HTL.out _ _ hHeld one_7 lt_one_7).mono ?_)
                rintro e W6 ⟨rfl, hB6⟩
                have hG6 := gbelow (row := none) hB6
                have hS6 := Kept.moved hHeld hG6 (fun _ h => by cases h)
                have one_6 := rng_moved one_7 hG6 lt_one_7 (by simp)
                have lt_one_6 := Nat.lt_of_lt_of_le lt_one_7 hG6.size
                clear one_7 lt_one_7
                have vb_6 := Arr.moved vb_7 hG6 lt_vb_7 (by simp)
                have lt_vb_6 := Nat.lt_of_lt_of_le lt_vb_7 hG6.size
                clear vb_7 lt_vb_7
                have va_6 := Arr.moved va_7 hG6 hlt7 (by simp)
                have lt_va_6 := Nat.lt_of_lt_of_le hlt7 hG6.size
                clear va_7 hlt7
                go_wp2_with fail
                refine hK.out _ _ hS6 (fun hHeld => ?_)
                clear hK K
                try simp only [c8a6, Act.put, s1, s2, s3]
                refine wpAnyH_ready (rs := [9]) (by kernel_rfl) (by simp) ?_
                refine AllReadyH.cons (o := c8a9) rfl (fun K hK => ?_) AllReadyH.nil
                rw [if_pos (by rfl)]
                refine wp_st26 (.tmp 7) (.tmp 25) (by rfl) g7 ca _ (by rfl) (by rfl) va_6 (by rw [HLA.out]; rfl) HZA.out HOA.out ?_
                intro W9 hG9 va_9
                have hS9 := Kept.moved hHeld hG9 (fun k hk => by cases hk; exact le_g7)
                have one_9 := rng_moved one_6 hG9 lt_one_6 (by simpa using ne_g5_g7)
                have lt_one_9 := Nat.lt_of_lt_of_le lt_one_6 hG9.size
                have vb_9 := Arr.moved vb_6 hG9 lt_vb_6 (by simpa using ne_g8_g7)
                have lt_vb_9 := Nat.lt_of_lt_of_le lt_vb_6 hG9.size
                have lt_va_9 := Nat.lt_of_lt_of_le lt_va_6 hG9.size
                clear one_6
                clear vb_6
                clear va_6
                refine hK.out _ _ hS9 (fun hHeld => ?_)
                clear hK K
                try simp only [c8a9, Act.put]
                refine wpAnyH_ready (rs := [10]) (by kernel_rfl) (by simp) ?_
                refine AllReadyH.cons (o := c8a10) rfl (fun K hK => ?_) AllReadyH.nil
                rw [if_pos (by rfl)]
                refine wp_st26 (.tmp 8) (.tmp 28) (by rfl) g8 cb _ (by rfl) (by rfl) vb_9 (by rw [HLB.out]; rfl) HZB.out HOB.out ?_
                intro W10 hG10 vb_10
                have hS10 := Kept.moved hHeld hG10 (fun k hk => by cases hk; exact le_g8)
                have one_10 := rng_moved one_9 hG10 lt_one_9 (by simpa using ne_g5_g8)
                have lt_one_10 := Nat.lt_of_lt_of_le lt_one_9 hG10.size
                have va_10 := Arr.moved va_9 hG10 lt_va_9 (by simpa using (Ne.symm ne_g8_g7))
                have lt_va_10 := Nat.lt_of_lt_of_le lt_va_9 hG10.size
                have lt_vb_10 := Nat.lt_of_lt_of_le lt_vb_9 hG10.size
                clear one_9
                clear vb_9
                clear va_9
                refine hK.out _ _ hS10 (fun hHeld => ?_)
                clear hK K
                try simp only [c8a10, Act.put]
                refine wpAnyH_done (by kernel_rfl) ?_ _
                go_wp2_with fail
                go_meet
                exact ⟨_, _, rfl, rfl, hHeld, va_10, vb_10, lt_va_10, lt_vb_10⟩
          · skip
            rw [if_pos (by rfl)]
            refine wp_alloc26 (by rfl) ?_
            intro g7 W7 hle7 hlt7 hG7 va_7
            have le_g7 := Nat.le_trans hHeld.below.size hle7
            have hS7 := Kept.moved hHeld hG7 (fun _ h => by cases h)
            refine hK.out _ _ hS7 (fun hHeld => ?_)
            clear hK K
            try simp only [c8a7, Act.put, s1, s2, s3]
            refine wpAnyH_ready (rs := [5, 8]) (by kernel_rfl) (by simp) ?_
            refine AllReadyH.cons (o := c8a5) rfl (fun K hK => ?_) (AllReadyH.cons (o := c8a8) rfl (fun K hK => ?_) AllReadyH.nil)
            · skip
              rw [if_pos (by rfl)]
              refine wp_one30 (.tmp 26) (by rfl) cd (by rfl) HLD.out ?_
              intro g5 W5 hle5 hlt5 hG5 one_5
              have hS5 := Kept.moved hHeld hG5 (fun _ h => by cases h)
              have ne_g7_g5 : g7 ≠ g5 := by have := hlt7; have := hle5; omega
              have va_5 := Arr.moved va_7 hG5 hlt7 (by simp)
              have lt_va_5 := Nat.lt_of_lt_of_le hlt7 hG5.size
              clear va_7 hlt7
              refine hK.out _ _ hS5 (fun hHeld => ?_)
              clear hK K
              try simp only [c8a5, Act.put, s1, s2, s3]
              refine wpAnyH_ready (rs := [6, 8]) (by kernel_rfl) (by simp) ?_
              refine AllReadyH.cons (o := c8a6) rfl (fun K hK => ?_) (AllReadyH.cons (o := c8a8) rfl (fun K hK => ?_) AllReadyH.nil)
              · skip
                rw [if_pos (by rfl)]
                unfold c8a6
                go_simp
                (with_reducible refine (HTL.out _ _ hHeld one_5 hlt5).mono ?_)
                rintro e W6 ⟨rfl, hB6⟩
                have hG6 := gbelow (row := none) hB6
                have hS6 := Kept.moved hHeld hG6 (fun _ h => by cases h)
                have va_6 := Arr.moved va_5 hG6 lt_va_5 (by simp)
                have lt_va_6 := Nat.lt_of_lt_of_le lt_va_5 hG6.size
                clear va_5 lt_va_5
                have one_6 := rng_moved one_5 hG6 hlt5 (by simp)
                have lt_one_6 := Nat.lt_of_lt_of_le hlt5 hG6.size
                clear one_5 hlt5
                go_wp2_with fail
                refine hK.out _ _ hS6 (fun hHeld => ?_)
                clear hK K
                try simp only [c8a6, Act.put, s1, s2, s3]
                refine wpAnyH_ready (rs := [8]) (by kernel_rfl) (by simp) ?_
                refine AllReadyH.cons (o := c8a8) rfl (fun K hK => ?_) AllReadyH.nil
                rw [if_pos (by rfl)]
                refine wp_alloc26 (by rfl) ?_
                intro g8 W8 hle8 hlt8 hG8 vb_8
                have le_g8 := Nat.le_trans hHeld.below.size hle8
                have hS8 := Kept.moved hHeld hG8 (fun _ h => by cases h)
                have ne_g7_g8 : g7 ≠ g8 := by have := lt_va_6; have := hle8; omega
                have va_8 := Arr.moved va_6 hG8 lt_va_6 (by simp)
                have lt_va_8 := Nat.lt_of_lt_of_le lt_va_6 hG8.size
                clear va_6 lt_va_6
                have ne_g5_g8 : g5 ≠ g8 := by have := lt_one_6; have := hle8; omega
                have one_8 := rng_moved one_6 hG8 lt_one_6 (by simp)
                have lt_one_8 := Nat.lt_of_lt_of_le lt_one_6 hG8.size
                clear one_6 lt_one_6
                refine hK.out _ _ hS8 (fun hHeld => ?_)
                clear hK K
                try simp only [c8a8, Act.put, s1, s2, s3]
                refine wpAnyH_ready (rs := [9]) (by kernel_rfl) (by simp) ?_
                refine AllReadyH.cons (o := c8a9) rfl (fun K hK => ?_) AllReadyH.nil
                rw [if_pos (by rfl)]
                refine wp_st26 (.tmp 7) (.tmp 25) (by rfl) g7 ca _ (by rfl) (by rfl) va_8 (by rw [HLA.out]; rfl) HZA.out HOA.out ?_
                intro W9 hG9 va_9
                have hS9 := Kept.moved hHeld hG9 (fun k hk => by cases hk; exact le_g7)
                have one_9 := rng_moved one_8 hG9 lt_one_8 (by simpa using (Ne.symm ne_g7_g5))
                have lt_one_9 := Nat.lt_of_lt_of_le lt_one_8 hG9.size
                have vb_9 := Arr.moved vb_8 hG9 hlt8 (by simpa using (Ne.symm ne_g7_g8))
                have lt_vb_9 := Nat.lt_of_lt_of_le hlt8 hG9.size
                have lt_va_9 := Nat.lt_of_lt_of_le lt_va_8 hG9.size
                clear va_8
                clear one_8
                clear vb_8
                refine hK.out _ _ hS9 (fun hHeld => ?_)
                clear hK K
                try simp only [c8a9, Act.put]
                refine wpAnyH_ready (rs := [10]) (by kernel_rfl) (by simp) ?_
                refine AllReadyH.cons (o := c8a10) rfl (fun K hK => ?_) AllReadyH.nil
                rw [if_pos (by rfl)]
                refine wp_st26 (.tmp 8) (.tmp 28) (by rfl) g8 cb _ (by rfl) (by rfl) vb_9 (by rw [HLB.out]; rfl) HZB.out HOB.out ?_
                intro W10 hG10 vb_10
                have hS10 := Kept.moved hHeld hG10 (fun k hk => by cases hk; exact le_g8)
                have va_10 := Arr.moved va_9 hG10 lt_va_9 (by simpa using ne_g7_g8)
                have lt_va_10 := Nat.lt_of_lt_of_le lt_va_9 hG10.size
                have one_10 := rng_moved one_9 hG10 lt_one_9 (by simpa using ne_g5_g8)
                have lt_one_10 := Nat.lt_of_lt_of_le lt_one_9 hG10.size
                have lt_vb_10 := Nat.lt_of_lt_of_le lt_vb_9 hG10.size
                clear va_9
                clear one_9
                clear vb_9
                refine hK.out _ _ hS10 (fun hHeld => ?_)
                clear hK K
                try simp only [c8a10, Act.put]
                refine wpAnyH_done (by kernel_rfl) ?_ _
                go_wp2_with fail
                go_meet
                exact ⟨_, _, rfl, rfl, hHeld, va_10, vb_10, lt_va_10, lt_vb_10⟩
              · skip
                rw [if_pos (by rfl)]
                refine wp_alloc26 (by rfl) ?_
                intro g8 W8 hle8 hlt8 hG8 vb_8
                have le_g8 := Nat.le_trans hHeld.below.size hle8
                have hS8 := Kept.moved hHeld hG8 (fun _ h => by cases h)
                have ne_g7_g8 : g7 ≠ g8 := by have := lt_va_5; have := hle8; omega
                have va_8 := Arr.moved va_5 hG8 lt_va_5 (by simp)
                have lt_va_8 := Nat.lt_of_lt_of_le lt_va_5 hG8.size
                clear va_5 lt_va_5
                have ne_g5_g8 : g5 ≠ g8 := by have := hlt5; have := hle8; omega
                have one_8 := rng_moved one_5 hG8 hlt5 (by simp)
                have lt_one_8 := Nat.lt_of_lt_of_le hlt5 hG8.size
                clear one_5 hlt5
                refine hK.out _ _ hS8 (fun hHeld => ?_)
                clear hK K
                try simp only [c8a8, Act.put, s1, s2, s3]
                refine wpAnyH_ready (rs := [6]) (by kernel_rfl) (by simp) ?_
                refine AllReadyH.cons (o := c8a6) rfl (fun K hK => ?_) AllReadyH.nil
                rw [if_pos (by rfl)]
                unfold c8a6
                go_simp
                (with_reducible refine (HTL.out _ _ hHeld one_8 lt_one_8).mono ?_)
                rintro e W6 ⟨rfl, hB6⟩
                have hG6 := gbelow (row := none) hB6
                have hS6 := Kept.moved hHeld hG6 (fun _ h => by cases h)
                have va_6 := Arr.moved va_8 hG6 lt_va_8 (by simp)
                have lt_va_6 := Nat.lt_of_lt_of_le lt_va_8 hG6.size
                clear va_8 lt_va_8
                have one_6 := rng_moved one_8 hG6 lt_one_8 (by simp)
                have lt_one_6 := Nat.lt_of_lt_of_le lt_one_8 hG6.size
                clear one_8 lt_one_8
                have vb_6 := Arr.moved vb_8 hG6 hlt8 (by simp)
                have lt_vb_6 := Nat.lt_of_lt_of_le hlt8 hG6.size
                clear vb_8 hlt8
                go_wp2_with fail
                refine hK.out _ _ hS6 (fun hHeld => ?_)
                clear hK K
                try simp only [c8a6, Act.put, s1, s2, s3]
                refine wpAnyH_ready (rs := [9]) (by kernel_rfl) (by simp) ?_
                refine AllReadyH.cons (o := c8a9) rfl (fun K hK => ?_) AllReadyH.nil
                rw [if_pos (by rfl)]
                refine wp_st26 (.tmp 7) (.tmp 25) (by rfl) g7 ca _ (by rfl) (by rfl) va_6 (by rw [HLA.out]; rfl) HZA.out HOA.out ?_
                intro W9 hG9 va_9
                have hS9 := Kept.moved hHeld hG9 (fun k hk => by cases hk; exact le_g7)
                have one_9 := rng_moved one_6 hG9 lt_one_6 (by simpa using (Ne.symm ne_g7_g5))
                have lt_one_9 := Nat.lt_of_lt_of_le lt_one_6 hG9.size
                have vb_9 := Arr.moved vb_6 hG9 lt_vb_6 (by simpa using (Ne.symm ne_g7_g8))
                have lt_vb_9 := Nat.lt_of_lt_of_le lt_vb_6 hG9.size
                have lt_va_9 := Nat.lt_of_lt_of_le lt_va_6 hG9.size
                clear va_6
                clear one_6
                clear vb_6
                refine hK.out _ _ hS9 (fun hHeld => ?_)
                clear hK K
                try simp only [c8a9, Act.put]
                refine wpAnyH_ready (rs := [10]) (by kernel_rfl) (by simp) ?_
                refine AllReadyH.cons (o := c8a10) rfl (fun K hK => ?_) AllReadyH.nil
                rw [if_pos (by rfl)]
                refine wp_st26 (.tmp 8) (.tmp 28) (by rfl) g8 cb _ (by rfl) (by rfl) vb_9 (by rw [HLB.out]; rfl) HZB.out HOB.out ?_
                intro W10 hG10 vb_10
                have hS10 := Kept.moved hHeld hG10 (fun k hk => by cases hk; exact le_g8)
                have va_10 := Arr.moved va_9 hG10 lt_va_9 (by simpa using ne_g7_g8)
                have lt_va_10 := Nat.lt_of_lt_of_le lt_va_9 hG10.size
                have one_10 := rng_moved one_9 hG10 lt_one_9 (by simpa using ne_g5_g8)
                have lt_one_10 := Nat.lt_of_lt_of_le lt_one_9 hG10.size
                have lt_vb_10 := Nat.lt_of_lt_of_le lt_vb_9 hG10.size
                clear va_9
                clear one_9
                clear vb_9
                refine hK.out _ _ hS10 (fun hHeld => ?_)
                clear hK K
                try simp only [c8a10, Act.put]
                refine wpAnyH_done (by kernel_rfl) ?_ _
                go_wp2_with fail
                go_meet
                exact ⟨_, _, rfl, rfl, hHeld, va_10, vb_10, lt_va_10, lt_vb_10⟩
            · skip
              rw [if_pos (by rfl)]
              refine wp_alloc26 (by rfl) ?_
              intro g8 W8 hle8 hlt8 hG8 vb_8
              have le_g8 := Nat.le_trans hHeld.below.size hle8
              have hS8 := Kept.moved hHeld hG8 (fun _ h => by cases h)
              have ne_g7_g8 : g7 ≠ g8 := by have := hlt7; have := hle8; omega
              have va_8 := Arr.moved va_7 hG8 hlt7 (by simp)
              have lt_va_8 := Nat.lt_of_lt_of_le hlt7 hG8.size
              clear va_7 hlt7
              refine hK.out _ _ hS8 (fun hHeld => ?_)
              clear hK K
              try simp only [c8a8, Act.put, s1, s2, s3]
              refine wpAnyH_ready (rs := [5]) (by kernel_rfl) (by simp) ?_
              refine AllReadyH.cons (o := c8a5) rfl (fun K hK => ?_) AllReadyH.nil
              rw [if_pos (by rfl)]
              refine wp_one30 (.tmp 26) (by rfl) cd (by rfl) HLD.out ?_
              intro g5 W5 hle5 hlt5 hG5 one_5
              have hS5 := Kept.moved hHeld hG5 (fun _ h => by cases h)
              have ne_g7_g5 : g7 ≠ g5 := by have := lt_va_8; have := hle5; omega
              have va_5 := Arr.moved va_8 hG5 lt_va_8 (by simp)
              have lt_va_5 := Nat.lt_of_lt_of_le lt_va_8 hG5.size
              clear va_8 lt_va_8
              have ne_g8_g5 : g8 ≠ g5 := by have := hlt8; have := hle5; omega
              have vb_5 := Arr.moved vb_8 hG5 hlt8 (by simp)
              have lt_vb_5 := Nat.lt_of_lt_of_le hlt8 hG5.size
              clear vb_8 hlt8
              refine hK.out _ _ hS5 (fun hHeld => ?_)
              clear hK K
              try simp only [c8a5, Act.put, s1, s2, s3]
              refine wpAnyH_ready (rs := [6]) (by kernel_rfl) (by simp) ?_
              refine AllReadyH.cons (o := c8a6) rfl (fun K hK => ?_) AllReadyH.nil
              rw [if_pos (by rfl)]
              unfold c8a6
              go_simp
              (with_reducible refine (HTL.out _ _ hHeld one_5 hlt5).mono ?_)
              rintro e W6 ⟨rfl, hB6⟩
              have hG6 := gbelow (row := none) hB6
              have hS6 := Kept.moved hHeld hG6 (fun _ h => by cases h)
              have va_6 := Arr.moved va_5 hG6 lt_va_5 (by simp)
              have lt_va_6 := Nat.lt_of_lt_of_le lt_va_5 hG6.size
              clear va_5 lt_va_5
              have vb_6 := Arr.moved vb_5 hG6 lt_vb_5 (by simp)
              have lt_vb_6 := Nat.lt_of_lt_of_le lt_vb_5 hG6.size
              clear vb_5 lt_vb_5
              have one_6 := rng_moved one_5 hG6 hlt5 (by simp)
              have lt_one_6 := Nat.lt_of_lt_of_le hlt5 hG6.size
              clear one_5 hlt5
              go_wp2_with fail
              refine hK.out _ _ hS6 (fun hHeld => ?_)
              clear hK K
              try simp only [c8a6, Act.put, s1, s2, s3]
              refine wpAnyH_ready (rs := [9]) (by kernel_rfl) (by simp) ?_
              refine AllReadyH.cons (o := c8a9) rfl (fun K hK => ?_) AllReadyH.nil
              rw [if_pos (by rfl)]
              refine wp_st26 (.tmp 7) (.tmp 25) (by rfl) g7 ca _ (by rfl) (by rfl) va_6 (by rw [HLA.out]; rfl) HZA.out HOA.out ?_
              intro W9 hG9 va_9
              have hS9 := Kept.moved hHeld hG9 (fun k hk => by cases hk; exact le_g7)
              have vb_9 := Arr.moved vb_6 hG9 lt_vb_6 (by simpa using (Ne.symm ne_g7_g8))
              have lt_vb_9 := Nat.lt_of_lt_of_le lt_vb_6 hG9.size
              have one_9 := rng_moved one_6 hG9 lt_one_6 (by simpa using (Ne.symm ne_g7_g5))
              have lt_one_9 := Nat.lt_of_lt_of_le lt_one_6 hG9.size
              have lt_va_9 := Nat.lt_of_lt_of_le lt_va_6 hG9.size
              clear va_6
              clear vb_6
              clear one_6
              refine hK.out _ _ hS9 (fun hHeld => ?_)
              clear hK K
              try simp only [c8a9, Act.put]
              refine wpAnyH_ready (rs := [10]) (by kernel_rfl) (by simp) ?_
              refine AllReadyH.cons (o := c8a10) rfl (fun K hK => ?_) AllReadyH.nil
              rw [if_pos (by rfl)]
              refine wp_st26 (.tmp 8) (.tmp 28) (by rfl) g8 cb _ (by rfl) (by rfl) vb_9 (by rw [HLB.out]; rfl) HZB.out HOB.out ?_
              intro W10 hG10 vb_10
              have hS10 := Kept.moved hHeld hG10 (fun k hk => by cases hk; exact le_g8)
              have va_10 := Arr.moved va_9 hG10 lt_va_9 (by simpa using ne_g7_g8)
              have lt_va_10 := Nat.lt_of_lt_of_le lt_va_9 hG10.size
              have one_10 := rng_moved one_9 hG10 lt_one_9 (by simpa using (Ne.symm ne_g8_g5))
              have lt_one_10 := Nat.lt_of_lt_of_le lt_one_9 hG10.size
              have lt_vb_10 := Nat.lt_of_lt_of_le lt_vb_9 hG10.size
              clear va_9
              clear vb_9
              clear one_9
              refine hK.out _ _ hS10 (fun hHeld => ?_)
              clear hK K
              try simp only [c8a10, Act.put]
              refine wpAnyH_done (by kernel_rfl) ?_ _
              go_wp2_with fail
              go_meet
              exact ⟨_, _, rfl, rfl, hHeld, va_10, vb_10, lt_va_10, lt_vb_10⟩
          · skip
            rw [if_pos (by rfl)]
            refine wp_alloc26 (by rfl) ?_
            intro g8 W8 hle8 hlt8 hG8 vb_8
            have le_g8 := Nat.le_trans hHeld.below.size hle8
            have hS8 := Kept.moved hHeld hG8 (fun _ h => by cases h)
            refine hK.out _ _ hS8 (fun hHeld => ?_)
            clear hK K
            try simp only [c8a8, Act.put, s1, s2, s3]
            refine wpAnyH_ready (rs := [5, 7]) (by kernel_rfl) (by simp) ?_
            refine AllReadyH.cons (o := c8a5) rfl (fun K hK => ?_) (AllReadyH.cons (o := c8a7) rfl (fun K hK => ?_) AllReadyH.nil)
            · skip
              rw [if_pos (by rfl)]
              refine wp_one30 (.tmp 26) (by rfl) cd (by rfl) HLD.out ?_
              intro g5 W5 hle5 hlt5 hG5 one_5
              have hS5 := Kept.moved hHeld hG5 (fun _ h => by cases h)
              have ne_g8_g5 : g8 ≠ g5 := by have := hlt8; have := hle5; omega
              have vb_5 := Arr.moved vb_8 hG5 hlt8 (by simp)
              have lt_vb_5 := Nat.lt_of_lt_of_le hlt8 hG5.size
              clear vb_8 hlt8
              refine hK.out _ _ hS5 (fun hHeld => ?_)
              clear hK K
              try simp only [c8a5, Act.put, s1, s2, s3]
              refine wpAnyH_ready (rs := [6, 7]) (by kernel_rfl) (by simp) ?_
              refine AllReadyH.cons (o := c8a6) rfl (fun K hK => ?_) (AllReadyH.cons (o := c8a7) rfl (fun K hK => ?_) AllReadyH.nil)
              · skip
                rw [if_pos (by rfl)]
                unfold c8a6
                go_simp
                (with_reducible refine (HTL.out _ _ hHeld one_5 hlt5).mono ?_)
                rintro e W6 ⟨rfl, hB6⟩
                have hG6 := gbelow (row := none) hB6
                have hS6 := Kept.moved hHeld hG6 (fun _ h => by cases h)
                have vb_6 := Arr.moved vb_5 hG6 lt_vb_5 (by simp)
                have lt_vb_6 := Nat.lt_of_lt_of_le lt_vb_5 hG6.size
                clear vb_5 lt_vb_5
                have one_6 := rng_moved one_5 hG6 hlt5 (by simp)
                have lt_one_6 := Nat.lt_of_lt_of_le hlt5 hG6.size
                clear one_5 hlt5
                go_wp2_with fail
                refine hK.out _ _ hS6 (fun hHeld => ?_)
                clear hK K
                try simp only [c8a6, Act.put, s1, s2, s3]
                refine wpAnyH_ready (rs := [7]) (by kernel_rfl) (by simp) ?_
                refine AllReadyH.cons (o := c8a7) rfl (fun K hK => ?_) AllReadyH.nil
                rw [if_pos (by rfl)]
                refine wp_alloc26 (by rfl) ?_
                intro g7 W7 hle7 hlt7 hG7 va_7
                have le_g7 := Nat.le_trans hHeld.below.size hle7
                have hS7 := Kept.moved hHeld hG7 (fun _ h => by cases h)
                have ne_g8_g7 : g8 ≠ g7 := by have := lt_vb_6; have := hle7; omega
                have vb_7 := Arr.moved vb_6 hG7 lt_vb_6 (by simp)
                have lt_vb_7 := Nat.lt_of_lt_of_le lt_vb_6 hG7.size
                clear vb_6 lt_vb_6
                have ne_g5_g7 : g5 ≠ g7 := by have := lt_one_6; have := hle7; omega
                have one_7 := rng_moved one_6 hG7 lt_one_6 (by simp)
                have lt_one_7 := Nat.lt_of_lt_of_le lt_one_6 hG7.size
                clear one_6 lt_one_6
                refine hK.out _ _ hS7 (fun hHeld => ?_)
                clear hK K
                try simp only [c8a7, Act.put, s1, s2, s3]
                refine wpAnyH_ready (rs := [9]) (by kernel_rfl) (by simp) ?_
                refine AllReadyH.cons (o := c8a9) rfl (fun K hK => ?_) AllReadyH.nil
                rw [if_pos (by rfl)]
                refine wp_st26 (.tmp 7) (.tmp 25) (by rfl) g7 ca _ (by rfl) (by rfl) va_7 (by rw [HLA.out]; rfl) HZA.out HOA.out ?_
                intro W9 hG9 va_9
                have hS9 := Kept.moved hHeld hG9 (fun k hk => by cases hk; exact le_g7)
                have vb_9 := Arr.moved vb_7 hG9 lt_vb_7 (by simpa using ne_g8_g7)
                have lt_vb_9 := Nat.lt_of_lt_of_le lt_vb_7 hG9.size
                have one_9 := rng_moved one_7 hG9 lt_one_7 (by simpa using ne_g5_g7)
                have lt_one_9 := Nat.lt_of_lt_of_le lt_one_7 hG9.size
                have lt_va_9 := Nat.lt_of_lt_of_le hlt7 hG9.size
                clear vb_7
                clear one_7
                clear va_7
                refine hK.out _ _ hS9 (fun hHeld => ?_)
                clear hK K
                try simp only [c8a9, Act.put]
                refine wpAnyH_ready (rs := [10]) (by kernel_rfl) (by simp) ?_
                refine AllReadyH.cons (o := c8a10) rfl (fun K hK => ?_) AllReadyH.nil
                rw [if_pos (by rfl)]
                refine wp_st26 (.tmp 8) (.tmp 28) (by rfl) g8 cb _ (by rfl) (by rfl) vb_9 (by rw [HLB.out]; rfl) HZB.out HOB.out ?_
                intro W10 hG10 vb_10
                have hS10 := Kept.moved hHeld hG10 (fun k hk => by cases hk; exact le_g8)
                have one_10 := rng_moved one_9 hG10 lt_one_9 (by simpa using (Ne.symm ne_g8_g5))
                have lt_one_10 := Nat.lt_of_lt_of_le lt_one_9 hG10.size
                have va_10 := Arr.moved va_9 hG10 lt_va_9 (by simpa using (Ne.symm ne_g8_g7))
                have lt_va_10 := Nat.lt_of_lt_of_le lt_va_9 hG10.size
                have lt_vb_10 := Nat.lt_of_lt_of_le lt_vb_9 hG10.size
                clear vb_9
                clear one_9
                clear va_9
                refine hK.out _ _ hS10 (fun hHeld => ?_)
                clear hK K
                try simp only [c8a10, Act.put]
                refine wpAnyH_done (by kernel_rfl) ?_ _
                go_wp2_with fail
                go_meet
                exact ⟨_, _, rfl, rfl, hHeld, va_10, vb_10, lt_va_10, lt_vb_10⟩
              · skip
                rw [if_pos (by rfl)]
                refine wp_alloc26 (by rfl) ?_
                intro g7 W7 hle7 hlt7 hG7 va_7
                have le_g7 := Nat.le_trans hHeld.below.size hle7
                have hS7 := Kept.moved hHeld hG7 (fun _ h => by cases h)
                have ne_g8_g7 : g8 ≠ g7 := by have := lt_vb_5; have := hle7; omega
                have vb_7 := Arr.moved vb_5 hG7 lt_vb_5 (by simp)
                have lt_vb_7 := Nat.lt_of_lt_of_le lt_vb_5 hG7.size
                clear vb_5 lt_vb_5
                have ne_g5_g7 : g5 ≠ g7 := by have := hlt5; have := hle7; omega
                have one_7 := rng_moved one_5 hG7 hlt5 (by simp)
                have lt_one_7 := Nat.lt_of_lt_of_le hlt5 hG7.size
                clear one_5 hlt5
                refine hK.out _ _ hS7 (fun hHeld => ?_)
                clear hK K
                try simp only [c8a7, Act.put, s1, s2, s3]
                refine wpAnyH_ready (rs := [6]) (by kernel_rfl) (by simp) ?_
                refine AllReadyH.cons (o := c8a6) rfl (fun K hK => ?_) AllReadyH.nil
                rw [if_pos (by rfl)]
                unfold c8a6
                go_simp
                (with_reducible refine (HTL.out _ _ hHeld one_7 lt_one_7).mono ?_)
                rintro e W6 ⟨rfl, hB6⟩
                have hG6 := gbelow (row := none) hB6
                have hS6 := Kept.moved hHeld hG6 (fun _ h => by cases h)
                have vb_6 := Arr.moved vb_7 hG6 lt_vb_7 (by simp)
                have lt_vb_6 := Nat.lt_of_lt_of_le lt_vb_7 hG6.size
                clear vb_7 lt_vb_7
                have one_6 := rng_moved one_7 hG6 lt_one_7 (by simp)
                have lt_one_6 := Nat.lt_of_lt_of_le lt_one_7 hG6.size
                clear one_7 lt_one_7
                have va_6 := Arr.moved va_7 hG6 hlt7 (by simp)
                have lt_va_6 := Nat.lt_of_lt_of_le hlt7 hG6.size
                clear va_7 hlt7
                go_wp2_with fail
                refine hK.out _ _ hS6 (fun hHeld => ?_)
                clear hK K
                try simp only [c8a6, Act.put, s1, s2, s3]
                refine wpAnyH_ready (rs := [9]) (by kernel_rfl) (by simp) ?_
                refine AllReadyH.cons (o := c8a9) rfl (fun K hK => ?_) AllReadyH.nil
                rw [if_pos (by rfl)]
                refine wp_st26 (.tmp 7) (.tmp 25) (by rfl) g7 ca _ (by rfl) (by rfl) va_6 (by rw [HLA.out]; rfl) HZA.out HOA.out ?_
                intro W9 hG9 va_9
                have hS9 := Kept.moved hHeld hG9 (fun k hk => by cases hk; exact le_g7)
                have vb_9 := Arr.moved vb_6 hG9 lt_vb_6 (by simpa using ne_g8_g7)
                have lt_vb_9 := Nat.lt_of_lt_of_le lt_vb_6 hG9.size
                have one_9 := rng_moved one_6 hG9 lt_one_6 (by simpa using ne_g5_g7)
                have lt_one_9 := Nat.lt_of_lt_of_le lt_one_6 hG9.size
                have lt_va_9 := Nat.lt_of_lt_of_le lt_va_6 hG9.size
                clear vb_6
                clear one_6
                clear va_6
                refine hK.out _ _ hS9 (fun hHeld => ?_)
                clear hK K
                try simp only [c8a9, Act.put]
                refine wpAnyH_ready (rs := [10]) (by kernel_rfl) (by simp) ?_
                refine AllReadyH.cons (o := c8a10) rfl (fun K hK => ?_) AllReadyH.nil
                rw [if_pos (by rfl)]
                refine wp_st26 (.tmp 8) (.tmp 28) (by rfl) g8 cb _ (by rfl) (by rfl) vb_9 (by rw [HLB.out]; rfl) HZB.out HOB.out ?_
                intro W10 hG10 vb_10
                have hS10 := Kept.moved hHeld hG10 (fun k hk => by cases hk; exact le_g8)
                have one_10 := rng_moved one_9 hG10 lt_one_9 (by simpa using (Ne.symm ne_g8_g5))
                have lt_one_10 := Nat.lt_of_lt_of_le lt_one_9 hG10.size
                have va_10 := Arr.moved va_9 hG10 lt_va_9 (by simpa using (Ne.symm ne_g8_g7))
                have lt_va_10 := Nat.lt_of_lt_of_le lt_va_9 hG10.size
                have lt_vb_10 := Nat.lt_of_lt_of_le lt_vb_9 hG10.size
                clear vb_9
                clear one_9
                clear va_9
                refine hK.out _ _ hS10 (fun hHeld => ?_)
                clear hK K
                try simp only [c8a10, Act.put]
                refine wpAnyH_done (by kernel_rfl) ?_ _
                go_wp2_with fail
                go_meet
                exact ⟨_, _, rfl, rfl, hHeld, va_10, vb_10, lt_va_10, lt_vb_10⟩
            · skip
              rw [if_pos (by rfl)]
              refine wp_alloc26 (by rfl) ?_
              intro g7 W7 hle7 hlt7 hG7 va_7
              have le_g7 := Nat.le_trans hHeld.below.size hle7
              have hS7 := Kept.moved hHeld hG7 (fun _ h => by cases h)
              have ne_g8_g7 : g8 ≠ g7 := by have := hlt8; have := hle7; omega
              have vb_7 := Arr.moved vb_8 hG7 hlt8 (by simp)
              have lt_vb_7 := Nat.lt_of_lt_of_le hlt8 hG7.size
              clear vb_8 hlt8
              refine hK.out _ _ hS7 (fun hHeld => ?_)
              clear hK K
              try simp only [c8a7, Act.put, s1, s2, s3]
              refine wpAnyH_ready (rs := [5]) (by kernel_rfl) (by simp) ?_
              refine AllReadyH.cons (o := c8a5) rfl (fun K hK => ?_) AllReadyH.nil
              rw [if_pos (by rfl)]
              refine wp_one30 (.tmp 26) (by rfl) cd (by rfl) HLD.out ?_
              intro g5 W5 hle5 hlt5 hG5 one_5
              have hS5 := Kept.moved hHeld hG5 (fun _ h => by cases h)
              have ne_g8_g5 : g8 ≠ g5 := by have := lt_vb_7; have := hle5; omega
              have vb_5 := Arr.moved vb_7 hG5 lt_vb_7 (by simp)
              have lt_vb_5 := Nat.lt_of_lt_of_le lt_vb_7 hG5.size
              clear vb_7 lt_vb_7
              have ne_g7_g5 : g7 ≠ g5 := by have := hlt7; have := hle5; omega
              have va_5 := Arr.moved va_7 hG5 hlt7 (by simp)
              have lt_va_5 := Nat.lt_of_lt_of_le hlt7 hG5.size
              clear va_7 hlt7
              refine hK.out _ _ hS5 (fun hHeld => ?_)
              clear hK K
              try simp only [c8a5, Act.put, s1, s2, s3]
              refine wpAnyH_ready (rs := [6]) (by kernel_rfl) (by simp) ?_
              refine AllReadyH.cons (o := c8a6) rfl (fun K hK => ?_) AllReadyH.nil
              rw [if_pos (by rfl)]
              unfold c8a6
              go_simp
              (with_reducible refine (HTL.out _ _ hHeld one_5 hlt5).mono ?_)
              rintro e W6 ⟨rfl, hB6⟩
              have hG6 := gbelow (row := none) hB6
              have hS6 := Kept.moved hHeld hG6 (fun _ h => by cases h)
              have vb_6 := Arr.moved vb_5 hG6 lt_vb_5 (by simp)
              have lt_vb_6 := Nat.lt_of_lt_of_le lt_vb_5 hG6.size
              clear vb_5 lt_vb_5
              have va_6 := Arr.moved va_5 hG6 lt_va_5 (by simp)
              have lt_va_6 := Nat.lt_of_lt_of_le lt_va_5 hG6.size
              clear va_5 lt_va_5
              have one_6 := rng_moved one_5 hG6 hlt5 (by simp)
              have lt_one_6 := Nat.lt_of_lt_of_le hlt5 hG6.size
              clear one_5 hlt5
              go_wp2_with fail
              refine hK.out _ _ hS6 (fun hHeld => ?_)
              clear hK K
              try simp only [c8a6, Act.put, s1, s2, s3]
              refine wpAnyH_ready (rs := [9]) (by kernel_rfl) (by simp) ?_
              refine AllReadyH.cons (o := c8a9) rfl (fun K hK => ?_) AllReadyH.nil
              rw [if_pos (by rfl)]
              refine wp_st26 (.tmp 7) (.tmp 25) (by rfl) g7 ca _ (by rfl) (by rfl) va_6 (by rw [HLA.out]; rfl) HZA.out HOA.out ?_
              intro W9 hG9 va_9
              have hS9 := Kept.moved hHeld hG9 (fun k hk => by cases hk; exact le_g7)
              have vb_9 := Arr.moved vb_6 hG9 lt_vb_6 (by simpa using ne_g8_g7)
              have lt_vb_9 := Nat.lt_of_lt_of_le lt_vb_6 hG9.size
              have one_9 := rng_moved one_6 hG9 lt_one_6 (by simpa using (Ne.symm ne_g7_g5))
              have lt_one_9 := Nat.lt_of_lt_of_le lt_one_6 hG9.size
              have lt_va_9 := Nat.lt_of_lt_of_le lt_va_6 hG9.size
              clear vb_6
              clear va_6
              clear one_6
              refine hK.out _ _ hS9 (fun hHeld => ?_)
              clear hK K
              try simp only [c8a9, Act.put]
              refine wpAnyH_ready (rs := [10]) (by kernel_rfl) (by simp) ?_
              refine AllReadyH.cons (o := c8a10) rfl (fun K hK => ?_) AllReadyH.nil
              rw [if_pos (by rfl)]
              refine wp_st26 (.tmp 8) (.tmp 28) (by rfl) g8 cb _ (by rfl) (by rfl) vb_9 (by rw [HLB.out]; rfl) HZB.out HOB.out ?_
              intro W10 hG10 vb_10
              have hS10 := Kept.moved hHeld hG10 (fun k hk => by cases hk; exact le_g8)
              have va_10 := Arr.moved va_9 hG10 lt_va_9 (by simpa using (Ne.symm ne_g8_g7))
              have lt_va_10 := Nat.lt_of_lt_of_le lt_va_9 hG10.size
              have one_10 := rng_moved one_9 hG10 lt_one_9 (by simpa using (Ne.symm ne_g8_g5))
              have lt_one_10 := Nat.lt_of_lt_of_le lt_one_9 hG10.size
              have lt_vb_10 := Nat.lt_of_lt_of_le lt_vb_9 hG10.size
              clear vb_9
              clear va_9
              clear one_9
              refine hK.out _ _ hS10 (fun hHeld => ?_)
              clear hK K
              try simp only [c8a10, Act.put]
              refine wpAnyH_done (by kernel_rfl) ?_ _
              go_wp2_with fail
              go_meet
              exact ⟨_, _, rfl, rfl, hHeld, va_10, vb_10, lt_va_10, lt_vb_10⟩
        · skip
          rw [if_pos (by rfl)]
          refine wp_one30 (.tmp 26) (by rfl) cd (by rfl) HLD.out ?_
          intro g5 W5 hle5 hlt5 hG5 one_5
          have hS5 := Kept.moved hHeld hG5 (fun _ h => by cases h)
          refine hK.out _ _ hS5 (fun hHeld => ?_)
          clear hK K
          try simp only [c8a5, Act.put, s1, s2, s3]
          refine wpAnyH_ready (rs := [3, 7, 8]) (by kernel_rfl) (by simp) ?_
          refine AllReadyH.cons (o := c8a3) rfl (fun K hK => ?_) (AllReadyH.cons (o := c8a7) rfl (fun K hK => ?_) (AllReadyH.cons (o := c8a8) rfl (fun K hK => ?_) AllReadyH.nil))
          · skip
            rw [if_pos (by rfl)]
            unfold c8a3
            go_simp
            (with_reducible refine (HTA.out _ hHeld).mono ?_)
            rintro e W3 ⟨rfl, hB3⟩
            have hG3 := gbelow (row := none) hB3
            have hS3 := Kept.moved hHeld hG3 (fun _ h => by cases h)
            have one_3 := rng_moved one_5 hG3 hlt5 (by simp)
            have lt_one_3 := Nat.lt_of_lt_of_le hlt5 hG3.size
            clear one_5 hlt5
            go_wp2_with fail
            refine hK.out _ _ hS3 (fun hHeld => ?_)
            clear hK K
            try simp only [c8a3, Act.put, s1, s2, s3]
            refine wpAnyH_ready (rs := [6, 7, 8]) (by kernel_rfl) (by simp) ?_
            refine AllReadyH.cons (o := c8a6) rfl (fun K hK => ?_) (AllReadyH.cons (o := c8a7) rfl (fun K hK => ?_) (AllReadyH.cons (o := c8a8) rfl (fun K hK => ?_) AllReadyH.nil))
            · skip
              rw [if_pos (by rfl)]
              unfold c8a6
              go_simp
              (with_reducible refine (HTL.out _ _ hHeld one_3 lt_one_3).mono ?_)
              rintro e W6 ⟨rfl, hB6⟩
              have hG6 := gbelow (row := none) hB6
              have hS6 := Kept.moved hHeld hG6 (fun _ h => by cases h)
              have one_6 := rng_moved one_3 hG6 lt_one_3 (by simp)
              have lt_one_6 := Nat.lt_of_lt_of_le lt_one_3 hG6.size
              clear one_3 lt_one_3
              go_wp2_with fail
              refine hK.out _ _ hS6 (fun hHeld => ?_)
              clear hK K
              try simp only [c8a6, Act.put, s1, s2, s3]
              refine wpAnyH_ready (rs := [7, 8]) (by kernel_rfl) (by simp) ?_
              refine AllReadyH.cons (o := c8a7) rfl (fun K hK => ?_) (AllReadyH.cons (o := c8a8) rfl (fun K hK => ?_) AllReadyH.nil)
              · skip
                rw [if_pos (by rfl)]
                refine wp_alloc26 (by rfl) ?_
                intro g7 W7 hle7 hlt7 hG7 va_7
                have le_g7 := Nat.le_trans hHeld.below.size hle7
                have hS7 := Kept.moved hHeld hG7 (fun _ h => by cases h)
                have ne_g5_g7 : g5 ≠ g7 := by have := lt_one_6; have := hle7; omega
                have one_7 := rng_moved one_6 hG7 lt_one_6 (by simp)
                have lt_one_7 := Nat.lt_of_lt_of_le lt_one_6 hG7.size
                clear one_6 lt_one_6
                refine hK.out _ _ hS7 (fun hHeld => ?_)
                clear hK K
                try simp only [c8a7, Act.put, s1, s2, s3]
                refine wpAnyH_ready (rs := [8]) (by kernel_rfl) (by simp) ?_
                refine AllReadyH.cons (o := c8a8) rfl (fun K hK => ?_) AllReadyH.nil
                rw [if_pos (by rfl)]
                refine wp_alloc26 (by rfl) ?_
                intro g8 W8 hle8 hlt8 hG8 vb_8
                have le_g8 := Nat.le_trans hHeld.below.size hle8
                have hS8 := Kept.moved hHeld hG8 (fun _ h => by cases h)
                have ne_g5_g8 : g5 ≠ g8 := by have := lt_one_7; have := hle8; omega
                have one_8 := rng_moved one_7 hG8 lt_one_7 (by simp)
                have lt_one_8 := Nat.lt_of_lt_of_le lt_one_7 hG8.size
                clear one_7 lt_one_7
                have ne_g7_g8 : g7 ≠ g8 := by have := hlt7; have := hle8; omega
                have va_8 := Arr.moved va_7 hG8 hlt7 (by simp)
                have lt_va_8 := Nat.lt_of_lt_of_le hlt7 hG8.size
                clear va_7 hlt7
                refine hK.out _ _ hS8 (fun hHeld => ?_)
                clear hK K
                try simp only [c8a8, Act.put, s1, s2, s3]
                refine wpAnyH_ready (rs := [9]) (by kernel_rfl) (by simp) ?_
                refine AllReadyH.cons (o := c8a9) rfl (fun K hK => ?_) AllReadyH.nil
                rw [if_pos (by rfl)]
                refine wp_st26 (.tmp 7) (.tmp 25) (by rfl) g7 ca _ (by rfl) (by rfl) va_8 (by rw [HLA.out]; rfl) HZA.out HOA.out ?_
                intro W9 hG9 va_9
                have hS9 := Kept.moved hHeld hG9 (fun k hk => by cases hk; exact le_g7)
                have one_9 := rng_moved one_8 hG9 lt_one_8 (by simpa using ne_g5_g7)
                have lt_one_9 := Nat.lt_of_lt_of_le lt_one_8 hG9.size
                have vb_9 := Arr.moved vb_8 hG9 hlt8 (by simpa using (Ne.symm ne_g7_g8))
                have lt_vb_9 := Nat.lt_of_lt_of_le hlt8 hG9.size
                have lt_va_9 := Nat.lt_of_lt_of_le lt_va_8 hG9.size
                clear one_8
                clear va_8
                clear vb_8
                refine hK.out _ _ hS9 (fun hHeld => ?_)
                clear hK K
                try simp only [c8a9, Act.put]
                refine wpAnyH_ready (rs := [10]) (by kernel_rfl) (by simp) ?_
                refine AllReadyH.cons (o := c8a10) rfl (fun K hK => ?_) AllReadyH.nil
                rw [if_pos (by rfl)]
                refine wp_st26 (.tmp 8) (.tmp 28) (by rfl) g8 cb _ (by rfl) (by rfl) vb_9 (by rw [HLB.out]; rfl) HZB.out HOB.out ?_
                intro W10 hG10 vb_10
                have hS10 := Kept.moved hHeld hG10 (fun k hk => by cases hk; exact le_g8)
                have one_10 := rng_moved one_9 hG10 lt_one_9 (by simpa using ne_g5_g8)
                have lt_one_10 := Nat.lt_of_lt_of_le lt_one_9 hG10.size
                have va_10 := Arr.moved va_9 hG10 lt_va_9 (by simpa using ne_g7_g8)
                have lt_va_10 := Nat.lt_of_lt_of_le lt_va_9 hG10.size
                have lt_vb_10 := Nat.lt_of_lt_of_le lt_vb_9 hG10.size
                clear one_9
                clear va_9
                clear vb_9
                refine hK.out _ _ hS10 (fun hHeld => ?_)
                clear hK K
                try simp only [c8a10, Act.put]
                refine wpAnyH_done (by kernel_rfl) ?_ _
                go_wp2_with fail
                go_meet
                exact ⟨_, _, rfl, rfl, hHeld, va_10, vb_10, lt_va_10, lt_vb_10⟩
              · skip
                rw [if_pos (by rfl)]
                refine wp_alloc26 (by rfl) ?_
                intro g8 W8 hle8 hlt8 hG8 vb_8
                have le_g8 := Nat.le_trans hHeld.below.size hle8
                have hS8 := Kept.moved hHeld hG8 (fun _ h => by cases h)
                have ne_g5_g8 : g5 ≠ g8 := by have := lt_one_6; have := hle8; omega
                have one_8 := rng_moved one_6 hG8 lt_one_6 (by simp)
                have lt_one_8 := Nat.lt_of_lt_of_le lt_one_6 hG8.size
                clear one_6 lt_one_6
                refine hK.out _ _ hS8 (fun hHeld => ?_)
                clear hK K
                try simp only [c8a8, Act.put, s1, s2, s3]
                refine wpAnyH_ready (rs := [7]) (by kernel_rfl) (by simp) ?_
                refine AllReadyH.cons (o := c8a7) rfl (fun K hK => ?_) AllReadyH.nil
                rw [if_pos (by rfl)]
                refine wp_alloc26 (by rfl) ?_
                intro g7 W7 hle7 hlt7 hG7 va_7
                have le_g7 := Nat.le_trans hHeld.below.size hle7
                have hS7 := Kept.moved hHeld hG7 (fun _ h => by cases h)
                have ne_g5_g7 : g5 ≠ g7 := by have := lt_one_8; have := hle7; omega
                have one_7 := rng_moved one_8 hG7 lt_one_8 (by simp)
                have lt_one_7 := Nat.lt_of_lt_of_le lt_one_8 hG7.size
                clear one_8 lt_one_8
                have ne_g8_g7 : g8 ≠ g7 := by have := hlt8; have := hle7; omega
                have vb_7 := Arr.moved vb_8 hG7 hlt8 (by simp)
                have lt_vb_7 := Nat.lt_of_lt_of_le hlt8 hG7.size
                clear vb_8 hlt8
                refine hK.out _ _ hS7 (fun hHeld => ?_)
                clear hK K
                try simp only [c8a7, Act.put, s1, s2, s3]
                refine wpAnyH_ready (rs := [9]) (by kernel_rfl) (by simp) ?_
                refine AllReadyH.cons (o := c8a9) rfl (fun K hK => ?_) AllReadyH.nil
                rw [if_pos (by rfl)]
                refine wp_st26 (.tmp 7) (.tmp 25) (by rfl) g7 ca _ (by rfl) (by rfl) va_7 (by rw [HLA.out]; rfl) HZA.out HOA.out ?_
                intro W9 hG9 va_9
                have hS9 := Kept.moved hHeld hG9 (fun k hk => by cases hk; exact le_g7)
                have one_9 := rng_moved one_7 hG9 lt_one_7 (by simpa using ne_g5_g7)
                have lt_one_9 := Nat.lt_of_lt_of_le lt_one_7 hG9.size
                have vb_9 := Arr.moved vb_7 hG9 lt_vb_7 (by simpa using ne_g8_g7)
                have lt_vb_9 := Nat.lt_of_lt_of_le lt_vb_7 hG9.size
                have lt_va_9 := Nat.lt_of_lt_of_le hlt7 hG9.size
                clear one_7
                clear vb_7
                clear va_7
                refine hK.out _ _ hS9 (fun hHeld => ?_)
                clear hK K
                try simp only [c8a9, Act.put]
                refine wpAnyH_ready (rs := [10]) (by kernel_rfl) (by simp) ?_
                refine AllReadyH.cons (o := c8a10) rfl (fun K hK => ?_) AllReadyH.nil
                rw [if_pos (by rfl)]
                refine wp_st26 (.tmp 8) (.tmp 28) (by rfl) g8 cb _ (by rfl) (by rfl) vb_9 (by rw [HLB.out]; rfl) HZB.out HOB.out ?_
                intro W10 hG10 vb_10
                have hS10 := Kept.moved hHeld hG10 (fun k hk => by cases hk; exact le_g8)
                have one_10 := rng_moved one_9 hG10 lt_one_9 (by simpa using ne_g5_g8)
                have lt_one_10 := Nat.lt_of_lt_of_le lt_one_9 hG10.size
                have va_10 := Arr.moved va_9 hG10 lt_va_9 (by simpa using (Ne.symm ne_g8_g7))
                have lt_va_10 := Nat.lt_of_lt_of_le lt_va_9 hG10.size
                have lt_vb_10 := Nat.lt_of_lt_of_le lt_vb_9 hG10.size
                clear one_9
                clear vb_9
                clear va_9
                refine hK.out _ _ hS10 (fun hHeld => ?_)
                clear hK K
                try simp only [c8a10, Act.put]
                refine wpAnyH_done (by kernel_rfl) ?_ _
                go_wp2_with fail
                go_meet
                exact ⟨_, _, rfl, rfl, hHeld, va_10, vb_10, lt_va_10, lt_vb_10⟩
            · skip
              rw [if_pos (by rfl)]
              refine wp_alloc26 (by rfl) ?_
              intro g7 W7 hle7 hlt7 hG7 va_7
              have le_g7 := Nat.le_trans hHeld.below.size hle7
              have hS7 := Kept.moved hHeld hG7 (fun _ h => by cases h)
              have ne_g5_g7 : g5 ≠ g7 := by have := lt_one_3; have := hle7; omega
              have one_7 := rng_moved one_3 hG7 lt_one_3 (by simp)
              have lt_one_7 := Nat.lt_of_lt_of_le lt_one_3 hG7.size
              clear one_3 lt_one_3
              refine hK.out _ _ hS7 (fun hHeld => ?_)
              clear hK K
              try simp only [c8a7, Act.put, s1, s2, s3]
              refine wpAnyH_ready (rs := [6, 8]) (by kernel_rfl) (by simp) ?_
              refine AllReadyH.cons (o := c8a6) rfl (fun K hK => ?_) (AllReadyH.cons (o := c8a8) rfl (fun K hK => ?_) AllReadyH.nil)
              · skip
                rw [if_pos (by rfl)]
                unfold c8a6
                go_simp
                (with_reducible refine (HTL.out _ _ hHeld one_7 lt_one_7).mono ?_)
                rintro e W6 ⟨rfl, hB6⟩
                have hG6 := gbelow (row := none) hB6
                have hS6 := Kept.moved hHeld hG6 (fun _ h => by cases h)
                have one_6 := rng_moved one_7 hG6 lt_one_7 (by simp)
                have lt_one_6 := Nat.lt_of_lt_of_le lt_one_7 hG6.size
                clear one_7 lt_one_7
                have va_6 := Arr.moved va_7 hG6 hlt7 (by simp)
                have lt_va_6 := Nat.lt_of_lt_of_le hlt7 hG6.size
                clear va_7 hlt7
                go_wp2_with fail
                refine hK.out _ _ hS6 (fun hHeld => ?_)
                clear hK K
                try simp only [c8a6, Act.put, s1, s2, s3]
                refine wpAnyH_ready (rs := [8]) (by kernel_rfl) (by simp) ?_
                refine AllReadyH.cons (o := c8a8) rfl (fun K hK => ?_) AllReadyH.nil
                rw [if_pos (by rfl)]
                refine wp_alloc26 (by rfl) ?_
                intro g8 W8 hle8 hlt8 hG8 vb_8
                have le_g8 := Nat.le_trans hHeld.below.size hle8
                have hS8 := Kept.moved hHeld hG8 (fun _ h => by cases h)
                have ne_g5_g8 : g5 ≠ g8 := by have := lt_one_6; have := hle8; omega
                have one_8 := rng_moved one_6 hG8 lt_one_6 (by simp)
                have lt_one_8 := Nat.lt_of_lt_of_le lt_one_6 hG8.size
                clear one_6 lt_one_6
                have ne_g7_g8 : g7 ≠ g8 := by have := lt_va_6; have := hle8; omega
                have va_8 := Arr.moved va_6 hG8 lt_va_6 (by simp)
                have lt_va_8 := Nat.lt_of_lt_of_le lt_va_6 hG8.size
                clear va_6 lt_va_6
                refine hK.out _ _ hS8 (fun hHeld => ?_)
                clear hK K
                try simp only [c8a8, Act.put, s1, s2, s3]
                refine wpAnyH_ready (rs := [9]) (by kernel_rfl) (by simp) ?_
                refine AllReadyH.cons (o := c8a9) rfl (fun K hK => ?_) AllReadyH.nil
                rw [if_pos (by rfl)]
                refine wp_st26 (.tmp 7) (.tmp 25) (by rfl) g7 ca _ (by rfl) (by rfl) va_8 (by rw [HLA.out]; rfl) HZA.out HOA.out ?_
                intro W9 hG9 va_9
                have hS9 := Kept.moved hHeld hG9 (fun k hk => by cases hk; exact le_g7)
                have one_9 := rng_moved one_8 hG9 lt_one_8 (by simpa using ne_g5_g7)
                have lt_one_9 := Nat.lt_of_lt_of_le lt_one_8 hG9.size
                have vb_9 := Arr.moved vb_8 hG9 hlt8 (by simpa using (Ne.symm ne_g7_g8))
                have lt_vb_9 := Nat.lt_of_lt_of_le hlt8 hG9.size
                have lt_va_9 := Nat.lt_of_lt_of_le lt_va_8 hG9.size
                clear one_8
                clear va_8
                clear vb_8
                refine hK.out _ _ hS9 (fun hHeld => ?_)
                clear hK K
                try simp only [c8a9, Act.put]
                refine wpAnyH_ready (rs := [10]) (by kernel_rfl) (by simp) ?_
                refine AllReadyH.cons (o := c8a10) rfl (fun K hK => ?_) AllReadyH.nil
                rw [if_pos (by rfl)]
                refine wp_st26 (.tmp 8) (.tmp 28) (by rfl) g8 cb _ (by rfl) (by rfl) vb_9 (by rw [HLB.out]; rfl) HZB.out HOB.out ?_
                intro W10 hG10 vb_10
                have hS10 := Kept.moved hHeld hG10 (fun k hk => by cases hk; exact le_g8)
                have one_10 := rng_moved one_9 hG10 lt_one_9 (by simpa using ne_g5_g8)
                have lt_one_10 := Nat.lt_of_lt_of_le lt_one_9 hG10.size
                have va_10 := Arr.moved va_9 hG10 lt_va_9 (by simpa using ne_g7_g8)
                have lt_va_10 := Nat.lt_of_lt_of_le lt_va_9 hG10.size
                have lt_vb_10 := Nat.lt_of_lt_of_le lt_vb_9 hG10.size
                clear one_9
                clear va_9
                clear vb_9
                refine hK.out _ _ hS10 (fun hHeld => ?_)
                clear hK K
                try simp only [c8a10, Act.put]
                refine wpAnyH_done (by kernel_rfl) ?_ _
                go_wp2_with fail
                go_meet
                exact ⟨_, _, rfl, rfl, hHeld, va_10, vb_10, lt_va_10, lt_vb_10⟩
              · skip
                rw [if_pos (by rfl)]
                refine wp_alloc26 (by rfl) ?_
                intro g8 W8 hle8 hlt8 hG8 vb_8
                have le_g8 := Nat.le_trans hHeld.below.size hle8
                have hS8 := Kept.moved hHeld hG8 (fun _ h => by cases h)
                have ne_g5_g8 : g5 ≠ g8 := by have := lt_one_7; have := hle8; omega
                have one_8 := rng_moved one_7 hG8 lt_one_7 (by simp)
                have lt_one_8 := Nat.lt_of_lt_of_le lt_one_7 hG8.size
                clear one_7 lt_one_7
                have ne_g7_g8 : g7 ≠ g8 := by have := hlt7; have := hle8; omega
                have va_8 := Arr.moved va_7 hG8 hlt7 (by simp)
                have lt_va_8 := Nat.lt_of_lt_of_le hlt7 hG8.size
                clear va_7 hlt7
                refine hK.out _ _ hS8 (fun hHeld => ?_)
                clear hK K
                try simp only [c8a8, Act.put, s1, s2, s3]
                refine wpAnyH_ready (rs := [6]) (by kernel_rfl) (by simp) ?_
                refine AllReadyH.cons (o := c8a6) rfl (fun K hK => ?_) AllReadyH.nil
                rw [if_pos (by rfl)]
                unfold c8a6
                go_simp
                (with_reducible refine (HTL.out _ _ hHeld one_8 lt_one_8).mono ?_)
                rintro e W6 ⟨rfl, hB6⟩
                have hG6 := gbelow (row := none) hB6
                have hS6 := Kept.moved hHeld hG6 (fun _ h => by cases h)
                have one_6 := rng_moved one_8 hG6 lt_one_8 (by simp)
                have lt_one_6 := Nat.lt_of_lt_of_le lt_one_8 hG6.size
                clear one_8 lt_one_8
                have va_6 := Arr.moved va_8 hG6 lt_va_8 (by simp)
                have lt_va_6 := Nat.lt_of_lt_of_le lt_va_8 hG6.size
                clear va_8 lt_va_8
                have vb_6 := Arr.moved vb_8 hG6 hlt8 (by simp)
                have lt_vb_6 := Nat.lt_of_lt_of_le hlt8 hG6.size
                clear vb_8 hlt8
                go_wp2_with fail
                refine hK.out _ _ hS6 (fun hHeld => ?_)
                clear hK K
                try simp only [c8a6, Act.put, s1, s2, s3]
                refine wpAnyH_ready (rs := [9]) (by kernel_rfl) (by simp) ?_
                refine AllReadyH.cons (o := c8a9) rfl (fun K hK => ?_) AllReadyH.nil
                rw [if_pos (by rfl)]
                refine wp_st26 (.tmp 7) (.tmp 25) (by rfl) g7 ca _ (by rfl) (by rfl) va_6 (by rw [HLA.out]; rfl) HZA.out HOA.out ?_
                intro W9 hG9 va_9
                have hS9 := Kept.moved hHeld hG9 (fun k hk => by cases hk; exact le_g7)
                have one_9 := rng_moved one_6 hG9 lt_one_6 (by simpa using ne_g5_g7)
                have lt_one_9 := Nat.lt_of_lt_of_le lt_one_6 hG9.size
                have vb_9 := Arr.moved vb_6 hG9 lt_vb_6 (by simpa using (Ne.symm ne_g7_g8))
                have lt_vb_9 := Nat.lt_of_lt_of_le lt_vb_6 hG9.size
                have lt_va_9 := Nat.lt_of_lt_of_le lt_va_6 hG9.size
                clear one_6
                clear va_6
                clear vb_6
                refine hK.out _ _ hS9 (fun hHeld => ?_)
                clear hK K
                try simp only [c8a9, Act.put]
                refine wpAnyH_ready (rs := [10]) (by kernel_rfl) (by simp) ?_
                refine AllReadyH.cons (o := c8a10) rfl (fun K hK => ?_) AllReadyH.nil
                rw [if_pos (by rfl)]
                refine wp_st26 (.tmp 8) (.tmp 28) (by rfl) g8 cb _ (by rfl) (by rfl) vb_9 (by rw [HLB.out]; rfl) HZB.out HOB.out ?_
                intro W10 hG10 vb_10
                have hS10 := Kept.moved hHeld hG10 (fun k hk => by cases hk; exact le_g8)
                have one_10 := rng_moved one_9 hG10 lt_one_9 (by simpa using ne_g5_g8)
                have lt_one_10 := Nat.lt_of_lt_of_le lt_one_9 hG10.size
                have va_10 := Arr.moved va_9 hG10 lt_va_9 (by simpa using ne_g7_g8)
                have lt_va_10 := Nat.lt_of_lt_of_le lt_va_9 hG10.size
                have lt_vb_10 := Nat.lt_of_lt_of_le lt_vb_9 hG10.size
                clear one_9
                clear va_9
                clear vb_9
                refine hK.out _ _ hS10 (fun hHeld => ?_)
                clear hK K
                try simp only [c8a10, Act.put]
                refine wpAnyH_done (by kernel_rfl) ?_ _
                go_wp2_with fail
                go_meet
                exact ⟨_, _, rfl, rfl, hHeld, va_10, vb_10, lt_va_10, lt_vb_10⟩
            · skip
              rw [if_pos (by rfl)]
              refine wp_alloc26 (by rfl) ?_
              intro g8 W8 hle8 hlt8 hG8 vb_8
              have le_g8 := Nat.le_trans hHeld.below.size hle8
              have hS8 := Kept.moved hHeld hG8 (fun _ h => by cases h)
              have ne_g5_g8 : g5 ≠ g8 := by have := lt_one_3; have := hle8; omega
              have one_8 := rng_moved one_3 hG8 lt_one_3 (by simp)
              have lt_one_8 := Nat.lt_of_lt_of_le lt_one_3 hG8.size
              clear one_3 lt_one_3
              refine hK.out _ _ hS8 (fun hHeld => ?_)
              clear hK K
              try simp only [c8a8, Act.put, s1, s2, s3]
              refine wpAnyH_ready (rs := [6, 7]) (by kernel_rfl) (by simp) ?_
              refine AllReadyH.cons (o := c8a6) rfl (fun K hK => ?_) (AllReadyH.cons (o := c8a7) rfl (fun K hK => ?_) AllReadyH.nil)
              · skip
                rw [if_pos (by rfl)]
                unfold c8a6
                go_simp
                (with_reducible refine (HTL.out _ _ hHeld one_8 lt_one_8).mono ?_)
                rintro e W6 ⟨rfl, hB6⟩
                have hG6 := gbelow (row := none) hB6
                have hS6 := Kept.moved hHeld hG6 (fun _ h => by cases h)
                have one_6 := rng_moved one_8 hG6 lt_one_8 (by simp)
                have lt_one_6 := Nat.lt_of_lt_of_le lt_one_8 hG6.size
                clear one_8 lt_one_8
                have vb_6 := Arr.moved vb_8 hG6 hlt8 (by simp)
                have lt_vb_6 := Nat.lt_of_lt_of_le hlt8 hG6.size
                clear vb_8 hlt8
                go_wp2_with fail
                refine hK.out _ _ hS6 (fun hHeld => ?_)
                clear hK K
                try simp only [c8a6, Act.put, s1, s2, s3]
                refine wpAnyH_ready (rs := [7]) (by kernel_rfl) (by simp) ?_
                refine AllReadyH.cons (o := c8a7) rfl (fun K hK => ?_) AllReadyH.nil
                rw [if_pos (by rfl)]
                refine wp_alloc26 (by rfl) ?_
                intro g7 W7 hle7 hlt7 hG7 va_7
                have le_g7 := Nat.le_trans hHeld.below.size hle7
                have hS7 := Kept.moved hHeld hG7 (fun _ h => by cases h)
                have ne_g5_g7 : g5 ≠ g7 := by have := lt_one_6; have := hle7; omega
                have one_7 := rng_moved one_6 hG7 lt_one_6 (by simp)
                have lt_one_7 := Nat.lt_of_lt_of_le lt_one_6 hG7.size
                clear one_6 lt_one_6
                have ne_g8_g7 : g8 ≠ g7 := by have := lt_vb_6; have := hle7; omega
                have vb_7 := Arr.moved vb_6 hG7 lt_vb_6 (by simp)
                have lt_vb_7 := Nat.lt_of_lt_of_le lt_vb_6 hG7.size
                clear vb_6 lt_vb_6
                refine hK.out _ _ hS7 (fun hHeld => ?_)
                clear hK K
                try simp only [c8a7, Act.put, s1, s2, s3]
                refine wpAnyH_ready (rs := [9]) (by kernel_rfl) (by simp) ?_
                refine AllReadyH.cons (o := c8a9) rfl (fun K hK => ?_) AllReadyH.nil
                rw [if_pos (by rfl)]
                refine wp_st26 (.tmp 7) (.tmp 25) (by rfl) g7 ca _ (by rfl) (by rfl) va_7 (by rw [HLA.out]; rfl) HZA.out HOA.out ?_
                intro W9 hG9 va_9
                have hS9 := Kept.moved hHeld hG9 (fun k hk => by cases hk; exact le_g7)
                have one_9 := rng_moved one_7 hG9 lt_one_7 (by simpa using ne_g5_g7)
                have lt_one_9 := Nat.lt_of_lt_of_le lt_one_7 hG9.size
                have vb_9 := Arr.moved vb_7 hG9 lt_vb_7 (by simpa using ne_g8_g7)
                have lt_vb_9 := Nat.lt_of_lt_of_le lt_vb_7 hG9.size
                have lt_va_9 := Nat.lt_of_lt_of_le hlt7 hG9.size
                clear one_7
                clear vb_7
                clear va_7
                refine hK.out _ _ hS9 (fun hHeld => ?_)
                clear hK K
                try simp only [c8a9, Act.put]
                refine wpAnyH_ready (rs := [10]) (by kernel_rfl) (by simp) ?_
                refine AllReadyH.cons (o := c8a10) rfl (fun K hK => ?_) AllReadyH.nil
                rw [if_pos (by rfl)]
                refine wp_st26 (.tmp 8) (.tmp 28) (by rfl) g8 cb _ (by rfl) (by rfl) vb_9 (by rw [HLB.out]; rfl) HZB.out HOB.out ?_
                intro W10 hG10 vb_10
                have hS10 := Kept.moved hHeld hG10 (fun k hk => by cases hk; exact le_g8)
                have one_10 := rng_moved one_9 hG10 lt_one_9 (by simpa using ne_g5_g8)
                have lt_one_10 := Nat.lt_of_lt_of_le lt_one_9 hG10.size
                have va_10 := Arr.moved va_9 hG10 lt_va_9 (by simpa using (Ne.symm ne_g8_g7))
                have lt_va_10 := Nat.lt_of_lt_of_le lt_va_9 hG10.size
                have lt_vb_10 := Nat.lt_of_lt_of_le lt_vb_9 hG10.size
                clear one_9
                clear vb_9
                clear va_9
                refine hK.out _ _ hS10 (fun hHeld => ?_)
                clear hK K
                try simp only [c8a10, Act.put]
                refine wpAnyH_done (by kernel_rfl) ?_ _
                go_wp2_with fail
                go_meet
                exact ⟨_, _, rfl, rfl, hHeld, va_10, vb_10, lt_va_10, lt_vb_10⟩
              · skip
                rw [if_pos (by rfl)]
                refine wp_alloc26 (by rfl) ?_
                intro g7 W7 hle7 hlt7 hG7 va_7
                have le_g7 := Nat.le_trans hHeld.below.size hle7
                have hS7 := Kept.moved hHeld hG7 (fun _ h => by cases h)
                have ne_g5_g7 : g5 ≠ g7 := by have := lt_one_8; have := hle7; omega
                have one_7 := rng_moved one_8 hG7 lt_one_8 (by simp)
                have lt_one_7 := Nat.lt_of_lt_of_le lt_one_8 hG7.size
                clear one_8 lt_one_8
                have ne_g8_g7 : g8 ≠ g7 := by have := hlt8; have := hle7; omega
                have vb_7 := Arr.moved vb_8 hG7 hlt8 (by simp)
                have lt_vb_7 := Nat.lt_of_lt_of_le hlt8 hG7.size
                clear vb_8 hlt8
                refine hK.out _ _ hS7 (fun hHeld => ?_)
                clear hK K
                try simp only [c8a7, Act.put, s1, s2, s3]
                refine wpAnyH_ready (rs := [6]) (by kernel_rfl) (by simp) ?_
                refine AllReadyH.cons (o := c8a6) rfl (fun K hK => ?_) AllReadyH.nil
                rw [if_pos (by rfl)]
                unfold c8a6
                go_simp
                (with_reducible refine (HTL.out _ _ hHeld one_7 lt_one_7).mono ?_)
                rintro e W6 ⟨rfl, hB6⟩
                have hG6 := gbelow (row := none) hB6
                have hS6 := Kept.moved hHeld hG6 (fun _ h => by cases h)
                have one_6 := rng_moved one_7 hG6 lt_one_7 (by simp)
                have lt_one_6 := Nat.lt_of_lt_of_le lt_one_7 hG6.size
                clear one_7 lt_one_7
                have vb_6 := Arr.moved vb_7 hG6 lt_vb_7 (by simp)
                have lt_vb_6 := Nat.lt_of_lt_of_le lt_vb_7 hG6.size
                clear vb_7 lt_vb_7
                have va_6 := Arr.moved va_7 hG6 hlt7 (by simp)
                have lt_va_6 := Nat.lt_of_lt_of_le hlt7 hG6.size
                clear va_7 hlt7
                go_wp2_with fail
                refine hK.out _ _ hS6 (fun hHeld => ?_)
                clear hK K
                try simp only [c8a6, Act.put, s1, s2, s3]
                refine wpAnyH_ready (rs := [9]) (by kernel_rfl) (by simp) ?_
                refine AllReadyH.cons (o := c8a9) rfl (fun K hK => ?_) AllReadyH.nil
                rw [if_pos (by rfl)]
                refine wp_st26 (.tmp 7) (.tmp 25) (by rfl) g7 ca _ (by rfl) (by rfl) va_6 (by rw [HLA.out]; rfl) HZA.out HOA.out ?_
                intro W9 hG9 va_9
                have hS9 := Kept.moved hHeld hG9 (fun k hk => by cases hk; exact le_g7)
                have one_9 := rng_moved one_6 hG9 lt_one_6 (by simpa using ne_g5_g7)
                have lt_one_9 := Nat.lt_of_lt_of_le lt_one_6 hG9.size
                have vb_9 := Arr.moved vb_6 hG9 lt_vb_6 (by simpa using ne_g8_g7)
                have lt_vb_9 := Nat.lt_of_lt_of_le lt_vb_6 hG9.size
                have lt_va_9 := Nat.lt_of_lt_of_le lt_va_6 hG9.size
                clear one_6
                clear vb_6
                clear va_6
                refine hK.out _ _ hS9 (fun hHeld => ?_)
                clear hK K
                try simp only [c8a9, Act.put]
                refine wpAnyH_ready (rs := [10]) (by kernel_rfl) (by simp) ?_
                refine AllReadyH.cons (o := c8a10) rfl (fun K hK => ?_) AllReadyH.nil
                rw [if_pos (by rfl)]
                refine wp_st26 (.tmp 8) (.tmp 28) (by rfl) g8 cb _ (by rfl) (by rfl) vb_9 (by rw [HLB.out]; rfl) HZB.out HOB.out ?_
                intro W10 hG10 vb_10
                have hS10 := Kept.moved hHeld hG10 (fun k hk => by cases hk; exact le_g8)
                have one_10 := rng_moved one_9 hG10 lt_one_9 (by simpa using ne_g5_g8)
                have lt_one_10 := Nat.lt_of_lt_of_le lt_one_9 hG10.size
                have va_10 := Arr.moved va_9 hG10 lt_va_9 (by simpa using (Ne.symm ne_g8_g7))
                have lt_va_10 := Nat.lt_of_lt_of_le lt_va_9 hG10.size
                have lt_vb_10 := Nat.lt_of_lt_of_le lt_vb_9 hG10.size
                clear one_9
                clear vb_9
                clear va_9
                refine hK.out _ _ hS10 (fun hHeld => ?_)
                clear hK K
                try simp only [c8a10, Act.put]
                refine wpAnyH_done (by kernel_rfl) ?_ _
                go_wp2_with fail
                go_meet
                exact ⟨_, _, rfl, rfl, hHeld, va_10, vb_10, lt_va_10, lt_vb_10⟩
          · skip
            rw [if_pos (by rfl)]
            refine wp_alloc26 (by rfl) ?_
            intro g7 W7 hle7 hlt7 hG7 va_7
            have le_g7 := Nat.le_trans hHeld.below.size hle7
            have hS7 := Kept.moved hHeld hG7 (fun _ h => by cases h)
            have ne_g5_g7 : g5 ≠ g7 := by have := hlt5; have := hle7; omega
            have one_7 := rng_moved one_5 hG7 hlt5 (by simp)
            have lt_one_7 := Nat.lt_of_lt_of_le hlt5 hG7.size
            clear one_5 hlt5
            refine hK.out _ _ hS7 (fun hHeld => ?_)
            clear hK K
            try simp only [c8a7, Act.put, s1, s2, s3]
            refine wpAnyH_ready (rs := [3, 8]) (by kernel_rfl) (by simp) ?_
            refine AllReadyH.cons (o := c8a3) rfl (fun K hK => ?_) (AllReadyH.cons (o := c8a8) rfl (fun K hK => ?_) AllReadyH.nil)
            · skip
              rw [if_pos (by rfl)]
              unfold c8a3
              go_simp
              (with_reducible refine (HTA.out _ hHeld).mono ?_)
              rintro e W3 ⟨rfl, hB3⟩
              have hG3 := gbelow (row := none) hB3
              have hS3 := Kept.moved hHeld hG3 (fun _ h => by cases h)
              have one_3 := rng_moved one_7 hG3 lt_one_7 (by simp)
              have lt_one_3 := Nat.lt_of_lt_of_le lt_one_7 hG3.size
              clear one_7 lt_one_7
              have va_3 := Arr.moved va_7 hG3 hlt7 (by simp)
              have lt_va_3 := Nat.lt_of_lt_of_le hlt7 hG3.size
              clear va_7 hlt7
              go_wp2_with fail
              refine hK.out _ _ hS3 (fun hHeld => ?_)
              clear hK K
              try simp only [c8a3, Act.put, s1, s2, s3]
              refine wpAnyH_ready (rs := [6, 8]) (by kernel_rfl) (by simp) ?_
              refine AllReadyH.cons (o := c8a6) rfl (fun K hK => ?_) (AllReadyH.cons (o := c8a8) rfl (fun K hK => ?_) AllReadyH.nil)
              · skip
                rw [if_pos (by rfl)]
                unfold c8a6
                go_simp
                (with_reducible refine (HTL.out _ _ hHeld one_3 lt_one_3).mono ?_)
                rintro e W6 ⟨rfl, hB6⟩
                have hG6 := gbelow (row := none) hB6
                have hS6 := Kept.moved hHeld hG6 (fun _ h => by cases h)
                have one_6 := rng_moved one_3 hG6 lt_one_3 (by simp)
                have lt_one_6 := Nat.lt_of_lt_of_le lt_one_3 hG6.size
                clear one_3 lt_one_3
                have va_6 := Arr.moved va_3 hG6 lt_va_3 (by simp)
                have lt_va_6 := Nat.lt_of_lt_of_le lt_va_3 hG6.size
                clear va_3 lt_va_3
                go_wp2_with fail
                refine hK.out _ _ hS6 (fun hHeld => ?_)
                clear hK K
                try simp only [c8a6, Act.put, s1, s2, s3]
                refine wpAnyH_ready (rs := [8]) (by kernel_rfl) (by simp) ?_
                refine AllReadyH.cons (o := c8a8) rfl (fun K hK => ?_) AllReadyH.nil
                rw [if_pos (by rfl)]
                refine wp_alloc26 (by rfl) ?_
                intro g8 W8 hle8 hlt8 hG8 vb_8
                have le_g8 := Nat.le_trans hHeld.below.size hle8
                have hS8 := Kept.moved hHeld hG8 (fun _ h => by cases h)
                have ne_g5_g8 : g5 ≠ g8 := by have := lt_one_6; have := hle8; omega
                have one_8 := rng_moved one_6 hG8 lt_one_6 (by simp)
                have lt_one_8 := Nat.lt_of_lt_of_le lt_one_6 hG8.size
                clear one_6 lt_one_6
                have ne_g7_g8 : g7 ≠ g8 := by have := lt_va_6; have := hle8; omega
                have va_8 := Arr.moved va_6 hG8 lt_va_6 (by simp)
                have lt_va_8 := Nat.lt_of_lt_of_le lt_va_6 hG8.size
                clear va_6 lt_va_6
                refine hK.out _ _ hS8 (fun hHeld => ?_)
                clear hK K
                try simp only [c8a8, Act.put, s1, s2, s3]
                refine wpAnyH_ready (rs := [9]) (by kernel_rfl) (by simp) ?_
                refine AllReadyH.cons (o := c8a9) rfl (fun K hK => ?_) AllReadyH.nil
                rw [if_pos (by rfl)]
                refine wp_st26 (.tmp 7) (.tmp 25) (by rfl) g7 ca _ (by rfl) (by rfl) va_8 (by rw [HLA.out]; rfl) HZA.out HOA.out ?_
                intro W9 hG9 va_9
                have hS9 := Kept.moved hHeld hG9 (fun k hk => by cases hk; exact le_g7)
                have one_9 := rng_moved one_8 hG9 lt_one_8 (by simpa using ne_g5_g7)
                have lt_one_9 := Nat.lt_of_lt_of_le lt_one_8 hG9.size
                have vb_9 := Arr.moved vb_8 hG9 hlt8 (by simpa using (Ne.symm ne_g7_g8))
                have lt_vb_9 := Nat.lt_of_lt_of_le hlt8 hG9.size
                have lt_va_9 := Nat.lt_of_lt_of_le lt_va_8 hG9.size
                clear one_8
                clear va_8
                clear vb_8
                refine hK.out _ _ hS9 (fun hHeld => ?_)
                clear hK K
                try simp only [c8a9, Act.put]
                refine wpAnyH_ready (rs := [10]) (by kernel_rfl) (by simp) ?_
                refine AllReadyH.cons (o := c8a10) rfl (fun K hK => ?_) AllReadyH.nil
                rw [if_pos (by rfl)]
                refine wp_st26 (.tmp 8) (.tmp 28) (by rfl) g8 cb _ (by rfl) (by rfl) vb_9 (by rw [HLB.out]; rfl) HZB.out HOB.out ?_
                intro W10 hG10 vb_10
                have hS10 := Kept.moved hHeld hG10 (fun k hk => by cases hk; exact le_g8)
                have one_10 := rng_moved one_9 hG10 lt_one_9 (by simpa using ne_g5_g8)
                have lt_one_10 := Nat.lt_of_lt_of_le lt_one_9 hG10.size
                have va_10 := Arr.moved va_9 hG10 lt_va_9 (by simpa using ne_g7_g8)
                have lt_va_10 := Nat.lt_of_lt_of_le lt_va_9 hG10.size
                have lt_vb_10 := Nat.lt_of_lt_of_le lt_vb_9 hG10.size
                clear one_9
                clear va_9
                clear vb_9
                refine hK.out _ _ hS10 (fun hHeld => ?_)
                clear hK K
                try simp only [c8a10, Act.put]
                refine wpAnyH_done (by kernel_rfl) ?_ _
                go_wp2_with fail
                go_meet
                exact ⟨_, _, rfl, rfl, hHeld, va_10, vb_10, lt_va_10, lt_vb_10⟩
              · skip
                rw [if_pos (by rfl)]
                refine wp_alloc26 (by rfl) ?_
                intro g8 W8 hle8 hlt8 hG8 vb_8
                have le_g8 := Nat.le_trans hHeld.below.size hle8
                have hS8 := Kept.moved hHeld hG8 (fun _ h => by cases h)
                have ne_g5_g8 : g5 ≠ g8 := by have := lt_one_3; have := hle8; omega
                have one_8 := rng_moved one_3 hG8 lt_one_3 (by simp)
                have lt_one_8 := Nat.lt_of_lt_of_le lt_one_3 hG8.size
                clear one_3 lt_one_3
                have ne_g7_g8 : g7 ≠ g8 := by have := lt_va_3; have := hle8; omega
                have va_8 := Arr.moved va_3 hG8 lt_va_3 (by simp)
                have lt_va_8 := Nat.lt_of_lt_of_le lt_va_3 hG8.size
                clear va_3 lt_va_3
                refine hK.out _ _ hS8 (fun hHeld => ?_)
                clear hK K
                try simp only [c8a8, Act.put, s1, s2, s3]
                refine wpAnyH_ready (rs := [6]) (by kernel_rfl) (by simp) ?_
                refine AllReadyH.cons (o := c8a6) rfl (fun K hK => ?_) AllReadyH.nil
                rw [if_pos (by rfl)]
                unfold c8a6
                go_simp
                (with_reducible refine (HTL.out _ _ hHeld one_8 lt_one_8).mono ?_)
                rintro e W6 ⟨rfl, hB6⟩
                have hG6 := gbelow (row := none) hB6
                have hS6 := Kept.moved hHeld hG6 (fun _ h => by cases h)
                have one_6 := rng_moved one_8 hG6 lt_one_8 (by simp)
                have lt_one_6 := Nat.lt_of_lt_of_le lt_one_8 hG6.size
                clear one_8 lt_one_8
                have va_6 := Arr.moved va_8 hG6 lt_va_8 (by simp)
                have lt_va_6 := Nat.lt_of_lt_of_le lt_va_8 hG6.size
                clear va_8 lt_va_8
                have vb_6 := Arr.moved vb_8 hG6 hlt8 (by simp)
                have lt_vb_6 := Nat.lt_of_lt_of_le hlt8 hG6.size
                clear vb_8 hlt8
                go_wp2_with fail
                refine hK.out _ _ hS6 (fun hHeld => ?_)
                clear hK K
                try simp only [c8a6, Act.put, s1, s2, s3]
                refine wpAnyH_ready (rs := [9]) (by kernel_rfl) (by simp) ?_
                refine AllReadyH.cons (o := c8a9) rfl (fun K hK => ?_) AllReadyH.nil
                rw [if_pos (by rfl)]
                refine wp_st26 (.tmp 7) (.tmp 25) (by rfl) g7 ca _ (by rfl) (by rfl) va_6 (by rw [HLA.out]; rfl) HZA.out HOA.out ?_
                intro W9 hG9 va_9
                have hS9 := Kept.moved hHeld hG9 (fun k hk => by cases hk; exact le_g7)
                have one_9 := rng_moved one_6 hG9 lt_one_6 (by simpa using ne_g5_g7)
                have lt_one_9 := Nat.lt_of_lt_of_le lt_one_6 hG9.size
                have vb_9 := Arr.moved vb_6 hG9 lt_vb_6 (by simpa using (Ne.symm ne_g7_g8))
                have lt_vb_9 := Nat.lt_of_lt_of_le lt_vb_6 hG9.size
                have lt_va_9 := Nat.lt_of_lt_of_le lt_va_6 hG9.size
                clear one_6
                clear va_6
                clear vb_6
                refine hK.out _ _ hS9 (fun hHeld => ?_)
                clear hK K
                try simp only [c8a9, Act.put]
                refine wpAnyH_ready (rs := [10]) (by kernel_rfl) (by simp) ?_
                refine AllReadyH.cons (o := c8a10) rfl (fun K hK => ?_) AllReadyH.nil
                rw [if_pos (by rfl)]
                refine wp_st26 (.tmp 8) (.tmp 28) (by rfl) g8 cb _ (by rfl) (by rfl) vb_9 (by rw [HLB.out]; rfl) HZB.out HOB.out ?_
                intro W10 hG10 vb_10
                have hS10 := Kept.moved hHeld hG10 (fun k hk => by cases hk; exact le_g8)
                have one_10 := rng_moved one_9 hG10 lt_one_9 (by simpa using ne_g5_g8)
                have lt_one_10 := Nat.lt_of_lt_of_le lt_one_9 hG10.size
                have va_10 := Arr.moved va_9 hG10 lt_va_9 (by simpa using ne_g7_g8)
                have lt_va_10 := Nat.lt_of_lt_of_le lt_va_9 hG10.size
                have lt_vb_10 := Nat.lt_of_lt_of_le lt_vb_9 hG10.size
                clear one_9
                clear va_9
                clear vb_9
                refine hK.out _ _ hS10 (fun hHeld => ?_)
                clear hK K
                try simp only [c8a10, Act.put]
                refine wpAnyH_done (by kernel_rfl) ?_ _
                go_wp2_with fail
                go_meet
                exact ⟨_, _, rfl, rfl, hHeld, va_10, vb_10, lt_va_10, lt_vb_10⟩
            · skip
              rw [if_pos (by rfl)]
              refine wp_alloc26 (by rfl) ?_
              intro g8 W8 hle8 hlt8 hG8 vb_8
              have le_g8 := Nat.le_trans hHeld.below.size hle8
              have hS8 := Kept.moved hHeld hG8 (fun _ h => by cases h)
              have ne_g5_g8 : g5 ≠ g8 := by have := lt_one_7; have := hle8; omega
              have one_8 := rng_moved one_7 hG8 lt_one_7 (by simp)
              have lt_one_8 := Nat.lt_of_lt_of_le lt_one_7 hG8.size
              clear one_7 lt_one_7
              have ne_g7_g8 : g7 ≠ g8 := by have := hlt7; have := hle8; omega
              have va_8 := Arr.moved va_7 hG8 hlt7 (by simp)
              have lt_va_8 := Nat.lt_of_lt_of_le hlt7 hG8.size
              clear va_7 hlt7
              refine hK.out _ _ hS8 (fun hHeld => ?_)
              clear hK K
              try simp only [c8a8, Act.put, s1, s2, s3]
              refine wpAnyH_ready (rs := [3]) (by kernel_rfl) (by simp) ?_
              refine AllReadyH.cons (o := c8a3) rfl (fun K hK => ?_) AllReadyH.nil
              rw [if_pos (by rfl)]
              unfold c8a3
              go_simp
              (with_reducible refine (HTA.out _ hHeld).mono ?_)
              rintro e W3 ⟨rfl, hB3⟩
              have hG3 := gbelow (row := none) hB3
              have hS3 := Kept.moved hHeld hG3 (fun _ h => by cases h)
              have one_3 := rng_moved one_8 hG3 lt_one_8 (by simp)
              have lt_one_3 := Nat.lt_of_lt_of_le lt_one_8 hG3.size
              clear one_8 lt_one_8
              have va_3 := Arr.moved va_8 hG3 lt_va_8 (by simp)
              have lt_va_3 := Nat.lt_of_lt_of_le lt_va_8 hG3.size
              clear va_8 lt_va_8
              have vb_3 := Arr.moved vb_8 hG3 hlt8 (by simp)
              have lt_vb_3 := Nat.lt_of_lt_of_le hlt8 hG3.size
              clear vb_8 hlt8
              go_wp2_with fail
              refine hK.out _ _ hS3 (fun hHeld => ?_)
              clear hK K
              try simp only [c8a3, Act.put, s1, s2, s3]
              refine wpAnyH_ready (rs := [6]) (by kernel_rfl) (by simp) ?_
              refine AllReadyH.cons (o := c8a6) rfl (fun K hK => ?_) AllReadyH.nil
              rw [if_pos (by rfl)]
              unfold c8a6
              go_simp
              (with_reducible refine (HTL.out _ _ hHeld one_3 lt_one_3).mono ?_)
              rintro e W6 ⟨rfl, hB6⟩
              have hG6 := gbelow (row := none) hB6
              have hS6 := Kept.moved hHeld hG6 (fun _ h => by cases h)
              have one_6 := rng_moved one_3 hG6 lt_one_3 (by simp)
              have lt_one_6 := Nat.lt_of_lt_of_le lt_one_3 hG6.size
              clear one_3 lt_one_3
              have va_6 := Arr.moved va_3 hG6 lt_va_3 (by simp)
              have lt_va_6 := Nat.lt_of_lt_of_le lt_va_3 hG6.size
              clear va_3 lt_va_3
              have vb_6 := Arr.moved vb_3 hG6 lt_vb_3 (by simp)
              have lt_vb_6 := Nat.lt_of_lt_of_le lt_vb_3 hG6.size
              clear vb_3 lt_vb_3
              go_wp2_with fail
              refine hK.out _ _ hS6 (fun hHeld => ?_)
              clear hK K
              try simp only [c8a6, Act.put, s1, s2, s3]
              refine wpAnyH_ready (rs := [9]) (by kernel_rfl) (by simp) ?_
              refine AllReadyH.cons (o := c8a9) rfl (fun K hK => ?_) AllReadyH.nil
              rw [if_pos (by rfl)]
              refine wp_st26 (.tmp 7) (.tmp 25) (by rfl) g7 ca _ (by rfl) (by rfl) va_6 (by rw [HLA.out]; rfl) HZA.out HOA.out ?_
              intro W9 hG9 va_9
              have hS9 := Kept.moved hHeld hG9 (fun k hk => by cases hk; exact le_g7)
              have one_9 := rng_moved one_6 hG9 lt_one_6 (by simpa using ne_g5_g7)
              have lt_one_9 := Nat.lt_of_lt_of_le lt_one_6 hG9.size
              have vb_9 := Arr.moved vb_6 hG9 lt_vb_6 (by simpa using (Ne.symm ne_g7_g8))
              have lt_vb_9 := Nat.lt_of_lt_of_le lt_vb_6 hG9.size
              have lt_va_9 := Nat.lt_of_lt_of_le lt_va_6 hG9.size
              clear one_6
              clear va_6
              clear vb_6
              refine hK.out _ _ hS9 (fun hHeld => ?_)
              clear hK K
              try simp only [c8a9, Act.put]
              refine wpAnyH_ready (rs := [10]) (by kernel_rfl) (by simp) ?_
              refine AllReadyH.cons (o := c8a10) rfl (fun K hK => ?_) AllReadyH.nil
              rw [if_pos (by rfl)]
              refine wp_st26 (.tmp 8) (.tmp 28) (by rfl) g8 cb _ (by rfl) (by rfl) vb_9 (by rw [HLB.out]; rfl) HZB.out HOB.out ?_
              intro W10 hG10 vb_10
              have hS10 := Kept.moved hHeld hG10 (fun k hk => by cases hk; exact le_g8)
              have one_10 := rng_moved one_9 hG10 lt_one_9 (by simpa using ne_g5_g8)
              have lt_one_10 := Nat.lt_of_lt_of_le lt_one_9 hG10.size
              have va_10 := Arr.moved va_9 hG10 lt_va_9 (by simpa using ne_g7_g8)
              have lt_va_10 := Nat.lt_of_lt_of_le lt_va_9 hG10.size
              have lt_vb_10 := Nat.lt_of_lt_of_le lt_vb_9 hG10.size
              clear one_9
              clear va_9
              clear vb_9
              refine hK.out _ _ hS10 (fun hHeld => ?_)
              clear hK K
              try simp only [c8a10, Act.put]
              refine wpAnyH_done (by kernel_rfl) ?_ _
              go_wp2_with fail
              go_meet
              exact ⟨_, _, rfl, rfl, hHeld, va_10, vb_10, lt_va_10, lt_vb_10⟩
          · skip
            rw [if_pos (by rfl)]
            refine wp_alloc26 (by rfl) ?_
            intro g8 W8 hle8 hlt8 hG8 vb_8
            have le_g8 := Nat.le_trans hHeld.below.size hle8
            have hS8 := Kept.moved hHeld hG8 (fun _ h => by cases h)
            have ne_g5_g8 : g5 ≠ g8 := by have := hlt5; have := hle8; omega
            have one_8 := rng_moved one_5 hG8 hlt5 (by simp)
            have lt_one_8 := Nat.lt_of_lt_of_le hlt5 hG8.size
            clear one_5 hlt5
            refine hK.out _ _ hS8 (fun hHeld => ?_)
            clear hK K
            try simp only [c8a8, Act.put, s1, s2, s3]
            refine wpAnyH_ready (rs := [3, 7]) (by kernel_rfl) (by simp) ?_
            refine AllReadyH.cons (o := c8a3) rfl (fun K hK => ?_) (AllReadyH.cons (o := c8a7) rfl (fun K hK => ?_) AllReadyH.nil)
            · skip
              rw [if_pos (by rfl)]
              unfold c8a3
              go_simp
              (with_reducible refine (HTA.out _ hHeld).mono ?_)
              rintro e W3 ⟨rfl, hB3⟩
              have hG3 := gbelow (row := none) hB3
              have hS3 := Kept.moved hHeld hG3 (fun _ h => by cases h)
              have one_3 := rng_moved one_8 hG3 lt_one_8 (by simp)
              have lt_one_3 := Nat.lt_of_lt_of_le lt_one_8 hG3.size
              clear one_8 lt_one_8
              have vb_3 := Arr.moved vb_8 hG3 hlt8 (by simp)
              have lt_vb_3 := Nat.lt_of_lt_of_le hlt8 hG3.size
              clear vb_8 hlt8
              go_wp2_with fail
              refine hK.out _ _ hS3 (fun hHeld => ?_)
              clear hK K
              try simp only [c8a3, Act.put, s1, s2, s3]
              refine wpAnyH_ready (rs := [6, 7]) (by kernel_rfl) (by simp) ?_
              refine AllReadyH.cons (o := c8a6) rfl (fun K hK => ?_) (AllReadyH.cons (o := c8a7) rfl (fun K hK => ?_) AllReadyH.nil)
              · skip
                rw [if_pos (by rfl)]
                unfold c8a6
                go_simp
                (with_reducible refine (HTL.out _ _ hHeld one_3 lt_one_3).mono ?_)
                rintro e W6 ⟨rfl, hB6⟩
                have hG6 := gbelow (row := none) hB6
                have hS6 := Kept.moved hHeld hG6 (fun _ h => by cases h)
                have one_6 := rng_moved one_3 hG6 lt_one_3 (by simp)
                have lt_one_6 := Nat.lt_of_lt_of_le lt_one_3 hG6.size
                clear one_3 lt_one_3
                have vb_6 := Arr.moved vb_3 hG6 lt_vb_3 (by simp)
                have lt_vb_6 := Nat.lt_of_lt_of_le lt_vb_3 hG6.size
                clear vb_3 lt_vb_3
                go_wp2_with fail
                refine hK.out _ _ hS6 (fun hHeld => ?_)
                clear hK K
                try simp only [c8a6, Act.put, s1, s2, s3]
                refine wpAnyH_ready (rs := [7]) (by kernel_rfl) (by simp) ?_
                refine AllReadyH.cons (o := c8a7) rfl (fun K hK => ?_) AllReadyH.nil
                rw [if_pos (by rfl)]
                refine wp_alloc26 (by rfl) ?_
                intro g7 W7 hle7 hlt7 hG7 va_7
                have le_g7 := Nat.le_trans hHeld.below.size hle7
                have hS7 := Kept.moved hHeld hG7 (fun _ h => by cases h)
                have ne_g5_g7 : g5 ≠ g7 := by have := lt_one_6; have := hle7; omega
                have one_7 := rng_moved one_6 hG7 lt_one_6 (by simp)
                have lt_one_7 := Nat.lt_of_lt_of_le lt_one_6 hG7.size
                clear one_6 lt_one_6
                have ne_g8_g7 : g8 ≠ g7 := by have := lt_vb_6; have := hle7; omega
                have vb_7 := Arr.moved vb_6 hG7 lt_vb_6 (by simp)
                have lt_vb_7 := Nat.lt_of_lt_of_le lt_vb_6 hG7.size
                clear vb_6 lt_vb_6
                refine hK.out _ _ hS7 (fun hHeld => ?_)
                clear hK K
                try simp only [c8a7, Act.put, s1, s2, s3]
                refine wpAnyH_ready (rs := [9]) (by kernel_rfl) (by simp) ?_
                refine AllReadyH.cons (o := c8a9) rfl (fun K hK => ?_) AllReadyH.nil
                rw [if_pos (by rfl)]
                refine wp_st26 (.tmp 7) (.tmp 25) (by rfl) g7 ca _ (by rfl) (by rfl) va_7 (by rw [HLA.out]; rfl) HZA.out HOA.out ?_
                intro W9 hG9 va_9
                have hS9 := Kept.moved hHeld hG9 (fun k hk => by cases hk; exact le_g7)
                have one_9 := rng_moved one_7 hG9 lt_one_7 (by simpa using ne_g5_g7)
                have lt_one_9 := Nat.lt_of_lt_of_le lt_one_7 hG9.size
                have vb_9 := Arr.moved vb_7 hG9 lt_vb_7 (by simpa using ne_g8_g7)
                have lt_vb_9 := Nat.lt_of_lt_of_le lt_vb_7 hG9.size
                have lt_va_9 := Nat.lt_of_lt_of_le hlt7 hG9.size
                clear one_7
                clear vb_7
                clear va_7
                refine hK.out _ _ hS9 (fun hHeld => ?_)
                clear hK K
                try simp only [c8a9, Act.put]
                refine wpAnyH_ready (rs := [10]) (by kernel_rfl) (by simp) ?_
                refine AllReadyH.cons (o := c8a10) rfl (fun K hK => ?_) AllReadyH.nil
                rw [if_pos (by rfl)]
                refine wp_st26 (.tmp 8) (.tmp 28) (by rfl) g8 cb _ (by rfl) (by rfl) vb_9 (by rw [HLB.out]; rfl) HZB.out HOB.out ?_
                intro W10 hG10 vb_10
                have hS10 := Kept.moved hHeld hG10 (fun k hk => by cases hk; exact le_g8)
                have one_10 := rng_moved one_9 hG10 lt_one_9 (by simpa using ne_g5_g8)
                have lt_one_10 := Nat.lt_of_lt_of_le lt_one_9 hG10.size
                have va_10 := Arr.moved va_9 hG10 lt_va_9 (by simpa using (Ne.symm ne_g8_g7))
                have lt_va_10 := Nat.lt_of_lt_of_le lt_va_9 hG10.size
                have lt_vb_10 := Nat.lt_of_lt_of_le lt_vb_9 hG10.size
                clear one_9
                clear vb_9
                clear va_9
                refine hK.out _ _ hS10 (fun hHeld => ?_)
                clear hK K
                try simp only [c8a10, Act.put]
                refine wpAnyH_done (by kernel_rfl) ?_ _
                go_wp2_with fail
                go_meet
                exact ⟨_, _, rfl, rfl, hHeld, va_10, vb_10, lt_va_10, lt_vb_10⟩
              · skip
                rw [if_pos (by rfl)]
                refine wp_alloc26 (by rfl) ?_
                intro g7 W7 hle7 hlt7 hG7 va_7
                have le_g7 := Nat.le_trans hHeld.below.size hle7
                have hS7 := Kept.moved hHeld hG7 (fun _ h => by cases h)
                have ne_g5_g7 : g5 ≠ g7 := by have := lt_one_3; have := hle7; omega
                have one_7 := rng_moved one_3 hG7 lt_one_3 (by simp)
                have lt_one_7 := Nat.lt_of_lt_of_le lt_one_3 hG7.size
                clear one_3 lt_one_3
                have ne_g8_g7 : g8 ≠ g7 := by have := lt_vb_3; have := hle7; omega
                have vb_7 := Arr.moved vb_3 hG7 lt_vb_3 (by simp)
                have lt_vb_7 := Nat.lt_of_lt_of_le lt_vb_3 hG7.size
                clear vb_3 lt_vb_3
                refine hK.out _ _ hS7 (fun hHeld => ?_)
                clear hK K
                try simp only [c8a7, Act.put, s1, s2, s3]
                refine wpAnyH_ready (rs := [6]) (by kernel_rfl) (by simp) ?_
                refine AllReadyH.cons (o := c8a6) rfl (fun K hK => ?_) AllReadyH.nil
                rw [if_pos (by rfl)]
                unfold c8a6
                go_simp
                (with_reducible refine (HTL.out _ _ hHeld one_7 lt_one_7).mono ?_)
                rintro e W6 ⟨rfl, hB6⟩
                have hG6 := gbelow (row := none) hB6
                have hS6 := Kept.moved hHeld hG6 (fun _ h => by cases h)
                have one_6 := rng_moved one_7 hG6 lt_one_7 (by simp)
                have lt_one_6 := Nat.lt_of_lt_of_le lt_one_7 hG6.size
                clear one_7 lt_one_7
                have vb_6 := Arr.moved vb_7 hG6 lt_vb_7 (by simp)
                have lt_vb_6 := Nat.lt_of_lt_of_le lt_vb_7 hG6.size
                clear vb_7 lt_vb_7
                have va_6 := Arr.moved va_7 hG6 hlt7 (by simp)
                have lt_va_6 := Nat.lt_of_lt_of_le hlt7 hG6.size
                clear va_7 hlt7
                go_wp2_with fail
                refine hK.out _ _ hS6 (fun hHeld => ?_)
                clear hK K
                try simp only [c8a6, Act.put, s1, s2, s3]
                refine wpAnyH_ready (rs := [9]) (by kernel_rfl) (by simp) ?_
                refine AllReadyH.cons (o := c8a9) rfl (fun K hK => ?_) AllReadyH.nil
                rw [if_pos (by rfl)]
                refine wp_st26 (.tmp 7) (.tmp 25) (by rfl) g7 ca _ (by rfl) (by rfl) va_6 (by rw [HLA.out]; rfl) HZA.out HOA.out ?_
                intro W9 hG9 va_9
                have hS9 := Kept.moved hHeld hG9 (fun k hk => by cases hk; exact le_g7)
                have one_9 := rng_moved one_6 hG9 lt_one_6 (by simpa using ne_g5_g7)
                have lt_one_9 := Nat.lt_of_lt_of_le lt_one_6 hG9.size
                have vb_9 := Arr.moved vb_6 hG9 lt_vb_6 (by simpa using ne_g8_g7)
                have lt_vb_9 := Nat.lt_of_lt_of_le lt_vb_6 hG9.size
                have lt_va_9 := Nat.lt_of_lt_of_le lt_va_6 hG9.size
                clear one_6
                clear vb_6
                clear va_6
                refine hK.out _ _ hS9 (fun hHeld => ?_)
                clear hK K
                try simp only [c8a9, Act.put]
                refine wpAnyH_ready (rs := [10]) (by kernel_rfl) (by simp) ?_
                refine AllReadyH.cons (o := c8a10) rfl (fun K hK => ?_) AllReadyH.nil
                rw [if_pos (by rfl)]
                refine wp_st26 (.tmp 8) (.tmp 28) (by rfl) g8 cb _ (by rfl) (by rfl) vb_9 (by rw [HLB.out]; rfl) HZB.out HOB.out ?_
                intro W10 hG10 vb_10
                have hS10 := Kept.moved hHeld hG10 (fun k hk => by cases hk; exact le_g8)
                have one_10 := rng_moved one_9 hG10 lt_one_9 (by simpa using ne_g5_g8)
                have lt_one_10 := Nat.lt_of_lt_of_le lt_one_9 hG10.size
                have va_10 := Arr.moved va_9 hG10 lt_va_9 (by simpa using (Ne.symm ne_g8_g7))
                have lt_va_10 := Nat.lt_of_lt_of_le lt_va_9 hG10.size
                have lt_vb_10 := Nat.lt_of_lt_of_le lt_vb_9 hG10.size
                clear one_9
                clear vb_9
                clear va_9
                refine hK.out _ _ hS10 (fun hHeld => ?_)
                clear hK K
                try simp only [c8a10, Act.put]
                refine wpAnyH_done (by kernel_rfl) ?_ _
                go_wp2_with fail
                go_meet
                exact ⟨_, _, rfl, rfl, hHeld, va_10, vb_10, lt_va_10, lt_vb_10⟩
            · skip
              rw [if_pos (by rfl)]
              refine wp_alloc26 (by rfl) ?_
              intro g7 W7 hle7 hlt7 hG7 va_7
              have le_g7 := Nat.le_trans hHeld.below.size hle7
              have hS7 := Kept.moved hHeld hG7 (fun _ h => by cases h)
              have ne_g5_g7 : g5 ≠ g7 := by have := lt_one_8; have := hle7; omega
              have one_7 := rng_moved one_8 hG7 lt_one_8 (by simp)
              have lt_one_7 := Nat.lt_of_lt_of_le lt_one_8 hG7.size
              clear one_8 lt_one_8
              have ne_g8_g7 : g8 ≠ g7 := by have := hlt8; have := hle7; omega
              have vb_7 := Arr.moved vb_8 hG7 hlt8 (by simp)
              have lt_vb_7 := Nat.lt_of_lt_of_le hlt8 hG7.size
              clear vb_8 hlt8
              refine hK.out _ _ hS7 (fun hHeld => ?_)
              clear hK K
              try simp only [c8a7, Act.put, s1, s2, s3]
              refine wpAnyH_ready (rs := [3]) (by kernel_rfl) (by simp) ?_
              refine AllReadyH.cons (o := c8a3) rfl (fun K hK => ?_) AllReadyH.nil
              rw [if_pos (by rfl)]
              unfold c8a3
              go_simp
              (with_reducible refine (HTA.out _ hHeld).mono ?_)
              rintro e W3 ⟨rfl, hB3⟩
              have hG3 := gbelow (row := none) hB3
              have hS3 := Kept.moved hHeld hG3 (fun _ h => by cases h)
              have one_3 := rng_moved one_7 hG3 lt_one_7 (by simp)
              have lt_one_3 := Nat.lt_of_lt_of_le lt_one_7 hG3.size
              clear one_7 lt_one_7
              have vb_3 := Arr.moved vb_7 hG3 lt_vb_7 (by simp)
              have lt_vb_3 := Nat.lt_of_lt_of_le lt_vb_7 hG3.size
              clear vb_7 lt_vb_7
              have va_3 := Arr.moved va_7 hG3 hlt7 (by simp)
              have lt_va_3 := Nat.lt_of_lt_of_le hlt7 hG3.size
              clear va_7 hlt7
              go_wp2_with fail
              refine hK.out _ _ hS3 (fun hHeld => ?_)
              clear hK K
              try simp only [c8a3, Act.put, s1, s2, s3]
              refine wpAnyH_ready (rs := [6]) (by kernel_rfl) (by simp) ?_
              refine AllReadyH.cons (o := c8a6) rfl (fun K hK => ?_) AllReadyH.nil
              rw [if_pos (by rfl)]
              unfold c8a6
              go_simp
              (with_reducible refine (HTL.out _ _ hHeld one_3 lt_one_3).mono ?_)
              rintro e W6 ⟨rfl, hB6⟩
              have hG6 := gbelow (row := none) hB6
              have hS6 := Kept.moved hHeld hG6 (fun _ h => by cases h)
              have one_6 := rng_moved one_3 hG6 lt_one_3 (by simp)
              have lt_one_6 := Nat.lt_of_lt_of_le lt_one_3 hG6.size
              clear one_3 lt_one_3
              have vb_6 := Arr.moved vb_3 hG6 lt_vb_3 (by simp)
              have lt_vb_6 := Nat.lt_of_lt_of_le lt_vb_3 hG6.size
              clear vb_3 lt_vb_3
              have va_6 := Arr.moved va_3 hG6 lt_va_3 (by simp)
              have lt_va_6 := Nat.lt_of_lt_of_le lt_va_3 hG6.size
              clear va_3 lt_va_3
              go_wp2_with fail
              refine hK.out _ _ hS6 (fun hHeld => ?_)
              clear hK K
              try simp only [c8a6, Act.put, s1, s2, s3]
              refine wpAnyH_ready (rs := [9]) (by kernel_rfl) (by simp) ?_
              refine AllReadyH.cons (o := c8a9) rfl (fun K hK => ?_) AllReadyH.nil
              rw [if_pos (by rfl)]
              refine wp_st26 (.tmp 7) (.tmp 25) (by rfl) g7 ca _ (by rfl) (by rfl) va_6 (by rw [HLA.out]; rfl) HZA.out HOA.out ?_
              intro W9 hG9 va_9
              have hS9 := Kept.moved hHeld hG9 (fun k hk => by cases hk; exact le_g7)
              have one_9 := rng_moved one_6 hG9 lt_one_6 (by simpa using ne_g5_g7)
              have lt_one_9 := Nat.lt_of_lt_of_le lt_one_6 hG9.size
              have vb_9 := Arr.moved vb_6 hG9 lt_vb_6 (by simpa using ne_g8_g7)
              have lt_vb_9 := Nat.lt_of_lt_of_le lt_vb_6 hG9.size
              have lt_va_9 := Nat.lt_of_lt_of_le lt_va_6 hG9.size
              clear one_6
              clear vb_6
              clear va_6
              refine hK.out _ _ hS9 (fun hHeld => ?_)
              clear hK K
              try simp only [c8a9, Act.put]
              refine wpAnyH_ready (rs := [10]) (by kernel_rfl) (by simp) ?_
              refine AllReadyH.cons (o := c8a10) rfl (fun K hK => ?_) AllReadyH.nil
              rw [if_pos (by rfl)]
              refine wp_st26 (.tmp 8) (.tmp 28) (by rfl) g8 cb _ (by rfl) (by rfl) vb_9 (by rw [HLB.out]; rfl) HZB.out HOB.out ?_
              intro W10 hG10 vb_10
              have hS10 := Kept.moved hHeld hG10 (fun k hk => by cases hk; exact le_g8)
              have one_10 := rng_moved one_9 hG10 lt_one_9 (by simpa using ne_g5_g8)
              have lt_one_10 := Nat.lt_of_lt_of_le lt_one_9 hG10.size
              have va_10 := Arr.moved va_9 hG10 lt_va_9 (by simpa using (Ne.symm ne_g8_g7))
              have lt_va_10 := Nat.lt_of_lt_of_le lt_va_9 hG10.size
              have lt_vb_10 := Nat.lt_of_lt_of_le lt_vb_9 hG10.size
              clear one_9
              clear vb_9
              clear va_9
              refine hK.out _ _ hS10 (fun hHeld => ?_)
              clear hK K
              try simp only [c8a10, Act.put]
              refine wpAnyH_done (by kernel_rfl) ?_ _
              go_wp2_with fail
              go_meet
              exact ⟨_, _, rfl, rfl, hHeld, va_10, vb_10, lt_va_10, lt_vb_10⟩
        · skip
          rw [if_pos (by rfl)]
          refine wp_alloc26 (by rfl) ?_
          intro g7 W7 hle7 hlt7 hG7 va_7
          have le_g7 := Nat.le_trans hHeld.below.size hle7
          have hS7 := Kept.moved hHeld hG7 (fun _ h => by cases h)
          refine hK.out _ _ hS7 (fun hHeld => ?_)
          clear hK K
          try simp only [c8a7, Act.put, s1, s2, s3]
          refine wpAnyH_ready (rs := [3, 5, 8]) (by kernel_rfl) (by simp) ?_
          refine AllReadyH.cons (o := c8a3) rfl (fun K hK => ?_) (AllReadyH.cons (o := c8a5) rfl (fun K hK => ?_) (AllReadyH.cons (o := c8a8) rfl (fun K hK => ?_) AllReadyH.nil))
          · skip
            rw [if_pos (by rfl)]
            unfold c8a3
            go_simp
            (with_reducible refine (HTA.out _ hHeld).mono ?_)
            rintro e W3 ⟨rfl, hB3⟩
            have hG3 := gbelow (row := none) hB3
            have hS3 := Kept.moved hHeld hG3 (fun _ h => by cases h)
            have va_3 := Arr.moved va_7 hG3 hlt7 (by simp)
            have lt_va_3 := Nat.lt_of_lt_of_le hlt7 hG3.size
            clear va_7 hlt7
            go_wp2_with fail
            refine hK.out _ _ hS3 (fun hHeld => ?_)
            clear hK K
            try simp only [c8a3, Act.put, s1, s2, s3]
            refine wpAnyH_ready (rs := [5, 8]) (by kernel_rfl) (by simp) ?_
            refine AllReadyH.cons (o := c8a5) rfl (fun K hK => ?_) (AllReadyH.cons (o := c8a8) rfl (fun K hK => ?_) AllReadyH.nil)
            · skip
              rw [if_pos (by rfl)]
              refine wp_one30 (.tmp 26) (by rfl) cd (by rfl) HLD.out ?_
              intro g5 W5 hle5 hlt5 hG5 one_5
              have hS5 := Kept.moved hHeld hG5 (fun _ h => by cases h)
              have ne_g7_g5 : g7 ≠ g5 := by have := lt_va_3; have := hle5; omega
              have va_5 := Arr.moved va_3 hG5 lt_va_3 (by simp)
              have lt_va_5 := Nat.lt_of_lt_of_le lt_va_3 hG5.size
              clear va_3 lt_va_3
              refine hK.out _ _ hS5 (fun hHeld => ?_)
              clear hK K
              try simp only [c8a5, Act.put, s1, s2, s3]
              refine wpAnyH_ready (rs := [6, 8]) (by kernel_rfl) (by simp) ?_
              refine AllReadyH.cons (o := c8a6) rfl (fun K hK => ?_) (AllReadyH.cons (o := c8a8) rfl (fun K hK => ?_) AllReadyH.nil)
              · skip
                rw [if_pos (by rfl)]
                unfold c8a6
                go_simp
                (with_reducible refine (HTL.out _ _ hHeld one_5 hlt5).mono ?_)
                rintro e W6 ⟨rfl, hB6⟩
                have hG6 := gbelow (row := none) hB6
                have hS6 := Kept.moved hHeld hG6 (fun _ h => by cases h)
                have va_6 := Arr.moved va_5 hG6 lt_va_5 (by simp)
                have lt_va_6 := Nat.lt_of_lt_of_le lt_va_5 hG6.size
                clear va_5 lt_va_5
                have one_6 := rng_moved one_5 hG6 hlt5 (by simp)
                have lt_one_6 := Nat.lt_of_lt_of_le hlt5 hG6.size
                clear one_5 hlt5
                go_wp2_with fail
                refine hK.out _ _ hS6 (fun hHeld => ?_)
                clear hK K
                try simp only [c8a6, Act.put, s1, s2, s3]
                refine wpAnyH_ready (rs := [8]) (by kernel_rfl) (by simp) ?_
                refine AllReadyH.cons (o := c8a8) rfl (fun K hK => ?_) AllReadyH.nil
                rw [if_pos (by rfl)]
                refine wp_alloc26 (by rfl) ?_
                intro g8 W8 hle8 hlt8 hG8 vb_8
                have le_g8 := Nat.le_trans hHeld.below.size hle8
                have hS8 := Kept.moved hHeld hG8 (fun _ h => by cases h)
                have ne_g7_g8 : g7 ≠ g8 := by have := lt_va_6; have := hle8; omega
                have va_8 := Arr.moved va_6 hG8 lt_va_6 (by simp)
                have lt_va_8 := Nat.lt_of_lt_of_le lt_va_6 hG8.size
                clear va_6 lt_va_6
                have ne_g5_g8 : g5 ≠ g8 := by have := lt_one_6; have := hle8; omega
                have one_8 := rng_moved one_6 hG8 lt_one_6 (by simp)
                have lt_one_8 := Nat.lt_of_lt_of_le lt_one_6 hG8.size
                clear one_6 lt_one_6
                refine hK.out _ _ hS8 (fun hHeld => ?_)
                clear hK K
                try simp only [c8a8, Act.put, s1, s2, s3]
                refine wpAnyH_ready (rs := [9]) (by kernel_rfl) (by simp) ?_
                refine AllReadyH.cons (o := c8a9) rfl (fun K hK => ?_) AllReadyH.nil
                rw [if_pos (by rfl)]
                refine wp_st26 (.tmp 7) (.tmp 25) (by rfl) g7 ca _ (by rfl) (by rfl) va_8 (by rw [HLA.out]; rfl) HZA.out HOA.out ?_
                intro W9 hG9 va_9
                have hS9 := Kept.moved hHeld hG9 (fun k hk => by cases hk; exact le_g7)
                have one_9 := rng_moved one_8 hG9 lt_one_8 (by simpa using (Ne.symm ne_g7_g5))
                have lt_one_9 := Nat.lt_of_lt_of_le lt_one_8 hG9.size
                have vb_9 := Arr.moved vb_8 hG9 hlt8 (by simpa using (Ne.symm ne_g7_g8))
                have lt_vb_9 := Nat.lt_of_lt_of_le hlt8 hG9.size
                have lt_va_9 := Nat.lt_of_lt_of_le lt_va_8 hG9.size
                clear va_8
                clear one_8
                clear vb_8
                refine hK.out _ _ hS9 (fun hHeld => ?_)
                clear hK K
                try simp only [c8a9, Act.put]
                refine wpAnyH_ready (rs := [10]) (by kernel_rfl) (by simp) ?_
                refine AllReadyH.cons (o := c8a10) rfl (fun K hK => ?_) AllReadyH.nil
                rw [if_pos (by rfl)]
                refine wp_st26 (.tmp 8) (.tmp 28) (by rfl) g8 cb _ (by rfl) (by rfl) vb_9 (by rw [HLB.out]; rfl) HZB.out HOB.out ?_
                intro W10 hG10 vb_10
                have hS10 := Kept.moved hHeld hG10 (fun k hk => by cases hk; exact le_g8)
                have va_10 := Arr.moved va_9 hG10 lt_va_9 (by simpa using ne_g7_g8)
                have lt_va_10 := Nat.lt_of_lt_of_le lt_va_9 hG10.size
                have one_10 := rng_moved one_9 hG10 lt_one_9 (by simpa using ne_g5_g8)
                have lt_one_10 := Nat.lt_of_lt_of_le lt_one_9 hG10.size
                have lt_vb_10 := Nat.lt_of_lt_of_le lt_vb_9 hG10.size
                clear va_9
                clear one_9
                clear vb_9
                refine hK.out _ _ hS10 (fun hHeld => ?_)
                clear hK K
                try simp only [c8a10, Act.put]
                refine wpAnyH_done (by kernel_rfl) ?_ _
                go_wp2_with fail
                go_meet
                exact ⟨_, _, rfl, rfl, hHeld, va_10, vb_10, lt_va_10, lt_vb_10⟩
              · skip
                rw [if_pos (by rfl)]
                refine wp_alloc26 (by rfl) ?_
                intro g8 W8 hle8 hlt8 hG8 vb_8
                have le_g8 := Nat.le_trans hHeld.below.size hle8
                have hS8 := Kept.moved hHeld hG8 (fun _ h => by cases h)
                have ne_g7_g8 : g7 ≠ g8 := by have := lt_va_5; have := hle8; omega
                have va_8 := Arr.moved va_5 hG8 lt_va_5 (by simp)
                have lt_va_8 := Nat.lt_of_lt_of_le lt_va_5 hG8.size
                clear va_5 lt_va_5
                have ne_g5_g8 : g5 ≠ g8 := by have := hlt5; have := hle8; omega
                have one_8 := rng_moved one_5 hG8 hlt5 (by simp)
                have lt_one_8 := Nat.lt_of_lt_of_le hlt5 hG8.size
                clear one_5 hlt5
                refine hK.out _ _ hS8 (fun hHeld => ?_)
                clear hK K
                try simp only [c8a8, Act.put, s1, s2, s3]
                refine wpAnyH_ready (rs := [6]) (by kernel_rfl) (by simp) ?_
                refine AllReadyH.cons (o := c8a6) rfl (fun K hK => ?_) AllReadyH.nil
                rw [if_pos (by rfl)]
                unfold c8a6
                go_simp
                (with_reducible refine (HTL.out _ _ hHeld one_8 lt_one_8).mono ?_)
                rintro e W6 ⟨rfl, hB6⟩
                have hG6 := gbelow (row := none) hB6
                have hS6 := Kept.moved hHeld hG6 (fun _ h => by cases h)
                have va_6 := Arr.moved va_8 hG6 lt_va_8 (by simp)
                have lt_va_6 := Nat.lt_of_lt_of_le lt_va_8 hG6.size
                clear va_8 lt_va_8
                have one_6 := rng_moved one_8 hG6 lt_one_8 (by simp)
                have lt_one_6 := Nat.lt_of_lt_of_le lt_one_8 hG6.size
                clear one_8 lt_one_8
                have vb_6 := Arr.moved vb_8 hG6 hlt8 (by simp)
                have lt_vb_6 := Nat.lt_of_lt_of_le hlt8 hG6.size
                clear vb_8 hlt8
                go_wp2_with fail
                refine hK.out _ _ hS6 (fun hHeld => ?_)
                clear hK K
                try simp only [c8a6, Act.put, s1, s2, s3]
                refine wpAnyH_ready (rs := [9]) (by kernel_rfl) (by simp) ?_
                refine AllReadyH.cons (o := c8a9) rfl (fun K hK => ?_) AllReadyH.nil
                rw [if_pos (by rfl)]
                refine wp_st26 (.tmp 7) (.tmp 25) (by rfl) g7 ca _ (by rfl) (by rfl) va_6 (by rw [HLA.out]; rfl) HZA.out HOA.out ?_
                intro W9 hG9 va_9
                have hS9 := Kept.moved hHeld hG9 (fun k hk => by cases hk; exact le_g7)
                have one_9 := rng_moved one_6 hG9 lt_one_6 (by simpa using (Ne.symm ne_g7_g5))
                have lt_one_9 := Nat.lt_of_lt_of_le lt_one_6 hG9.size
                have vb_9 := Arr.moved vb_6 hG9 lt_vb_6 (by simpa using (Ne.symm ne_g7_g8))
                have lt_vb_9 := Nat.lt_of_lt_of_le lt_vb_6 hG9.size
                have lt_va_9 := Nat.lt_of_lt_of_le lt_va_6 hG9.size
                clear va_6
                clear one_6
                clear vb_6
                refine hK.out _ _ hS9 (fun hHeld => ?_)
                clear hK K
                try simp only [c8a9, Act.put]
                refine wpAnyH_ready (rs := [10]) (by kernel_rfl) (by simp) ?_
                refine AllReadyH.cons (o := c8a10) rfl (fun K hK => ?_) AllReadyH.nil
                rw [if_pos (by rfl)]
                refine wp_st26 (.tmp 8) (.tmp 28) (by rfl) g8 cb _ (by rfl) (by rfl) vb_9 (by rw [HLB.out]; rfl) HZB.out HOB.out ?_
                intro W10 hG10 vb_10
                have hS10 := Kept.moved hHeld hG10 (fun k hk => by cases hk; exact le_g8)
                have va_10 := Arr.moved va_9 hG10 lt_va_9 (by simpa using ne_g7_g8)
                have lt_va_10 := Nat.lt_of_lt_of_le lt_va_9 hG10.size
                have one_10 := rng_moved one_9 hG10 lt_one_9 (by simpa using ne_g5_g8)
                have lt_one_10 := Nat.lt_of_lt_of_le lt_one_9 hG10.size
                have lt_vb_10 := Nat.lt_of_lt_of_le lt_vb_9 hG10.size
                clear va_9
                clear one_9
                clear vb_9
                refine hK.out _ _ hS10 (fun hHeld => ?_)
                clear hK K
                try simp only [c8a10, Act.put]
                refine wpAnyH_done (by kernel_rfl) ?_ _
                go_wp2_with fail
                go_meet
                exact ⟨_, _, rfl, rfl, hHeld, va_10, vb_10, lt_va_10, lt_vb_10⟩
            · skip
              rw [if_pos (by rfl)]
              refine wp_alloc26 (by rfl) ?_
              intro g8 W8 hle8 hlt8 hG8 vb_8
              have le_g8 := Nat.le_trans hHeld.below.size hle8
              have hS8 := Kept.moved hHeld hG8 (fun _ h => by cases h)
              have ne_g7_g8 : g7 ≠ g8 := by have := lt_va_3; have := hle8; omega
              have va_8 := Arr.moved va_3 hG8 lt_va_3 (by simp)
              have lt_va_8 := Nat.lt_of_lt_of_le lt_va_3 hG8.size
              clear va_3 lt_va_3
              refine hK.out _ _ hS8 (fun hHeld => ?_)
              clear hK K
              try simp only [c8a8, Act.put, s1, s2, s3]
              refine wpAnyH_ready (rs := [5]) (by kernel_rfl) (by simp) ?_
              refine AllReadyH.cons (o := c8a5) rfl (fun K hK => ?_) AllReadyH.nil
              rw [if_pos (by rfl)]
              refine wp_one30 (.tmp 26) (by rfl) cd (by rfl) HLD.out ?_
              intro g5 W5 hle5 hlt5 hG5 one_5
              have hS5 := Kept.moved hHeld hG5 (fun _ h => by cases h)
              have ne_g7_g5 : g7 ≠ g5 := by have := lt_va_8; have := hle5; omega
              have va_5 := Arr.moved va_8 hG5 lt_va_8 (by simp)
              have lt_va_5 := Nat.lt_of_lt_of_le lt_va_8 hG5.size
              clear va_8 lt_va_8
              have ne_g8_g5 : g8 ≠ g5 := by have := hlt8; have := hle5; omega
              have vb_5 := Arr.moved vb_8 hG5 hlt8 (by simp)
              have lt_vb_5 := Nat.lt_of_lt_of_le hlt8 hG5.size
              clear vb_8 hlt8
              refine hK.out _ _ hS5 (fun hHeld => ?_)
              clear hK K
              try simp only [c8a5, Act.put, s1, s2, s3]
              refine wpAnyH_ready (rs := [6]) (by kernel_rfl) (by simp) ?_
              refine AllReadyH.cons (o := c8a6) rfl (fun K hK => ?_) AllReadyH.nil
              rw [if_pos (by rfl)]
              unfold c8a6
              go_simp
              (with_reducible refine (HTL.out _ _ hHeld one_5 hlt5).mono ?_)
              rintro e W6 ⟨rfl, hB6⟩
              have hG6 := gbelow (row := none) hB6
              have hS6 := Kept.moved hHeld hG6 (fun _ h => by cases h)
              have va_6 := Arr.moved va_5 hG6 lt_va_5 (by simp)
              have lt_va_6 := Nat.lt_of_lt_of_le lt_va_5 hG6.size
              clear va_5 lt_va_5
              have vb_6 := Arr.moved vb_5 hG6 lt_vb_5 (by simp)
              have lt_vb_6 := Nat.lt_of_lt_of_le lt_vb_5 hG6.size
              clear vb_5 lt_vb_5
              have one_6 := rng_moved one_5 hG6 hlt5 (by simp)
              have lt_one_6 := Nat.lt_of_lt_of_le hlt5 hG6.size
              clear one_5 hlt5
              go_wp2_with fail
              refine hK.out _ _ hS6 (fun hHeld => ?_)
              clear hK K
              try simp only [c8a6, Act.put, s1, s2, s3]
              refine wpAnyH_ready (rs := [9]) (by kernel_rfl) (by simp) ?_
              refine AllReadyH.cons (o := c8a9) rfl (fun K hK => ?_) AllReadyH.nil
              rw [if_pos (by rfl)]
              refine wp_st26 (.tmp 7) (.tmp 25) (by rfl) g7 ca _ (by rfl) (by rfl) va_6 (by rw [HLA.out]; rfl) HZA.out HOA.out ?_
              intro W9 hG9 va_9
              have hS9 := Kept.moved hHeld hG9 (fun k hk => by cases hk; exact le_g7)
              have vb_9 := Arr.moved vb_6 hG9 lt_vb_6 (by simpa using (Ne.symm ne_g7_g8))
              have lt_vb_9 := Nat.lt_of_lt_of_le lt_vb_6 hG9.size
              have one_9 := rng_moved one_6 hG9 lt_one_6 (by simpa using (Ne.symm ne_g7_g5))
              have lt_one_9 := Nat.lt_of_lt_of_le lt_one_6 hG9.size
              have lt_va_9 := Nat.lt_of_lt_of_le lt_va_6 hG9.size
              clear va_6
              clear vb_6
              clear one_6
              refine hK.out _ _ hS9 (fun hHeld => ?_)
              clear hK K
              try simp only [c8a9, Act.put]
              refine wpAnyH_ready (rs := [10]) (by kernel_rfl) (by simp) ?_
              refine AllReadyH.cons (o := c8a10) rfl (fun K hK => ?_) AllReadyH.nil
              rw [if_pos (by rfl)]
              refine wp_st26 (.tmp 8) (.tmp 28) (by rfl) g8 cb _ (by rfl) (by rfl) vb_9 (by rw [HLB.out]; rfl) HZB.out HOB.out ?_
              intro W10 hG10 vb_10
              have hS10 := Kept.moved hHeld hG10 (fun k hk => by cases hk; exact le_g8)
              have va_10 := Arr.moved va_9 hG10 lt_va_9 (by simpa using ne_g7_g8)
              have lt_va_10 := Nat.lt_of_lt_of_le lt_va_9 hG10.size
              have one_10 := rng_moved one_9 hG10 lt_one_9 (by simpa using (Ne.symm ne_g8_g5))
              have lt_one_10 := Nat.lt_of_lt_of_le lt_one_9 hG10.size
              have lt_vb_10 := Nat.lt_of_lt_of_le lt_vb_9 hG10.size
              clear va_9
              clear vb_9
              clear one_9
              refine hK.out _ _ hS10 (fun hHeld => ?_)
              clear hK K
              try simp only [c8a10, Act.put]
              refine wpAnyH_done (by kernel_rfl) ?_ _
              go_wp2_with fail
              go_meet
              exact ⟨_, _, rfl, rfl, hHeld, va_10, vb_10, lt_va_10, lt_vb_10⟩
          · skip
            rw [if_pos (by rfl)]
            refine wp_one30 (.tmp 26) (by rfl) cd (by rfl) HLD.out ?_
            intro g5 W5 hle5 hlt5 hG5 one_5
            have hS5 := Kept.moved hHeld hG5 (fun _ h => by cases h)
            have ne_g7_g5 : g7 ≠ g5 := by have := hlt7; have := hle5; omega
            have va_5 := Arr.moved va_7 hG5 hlt7 (by simp)
            have lt_va_5 := Nat.lt_of_lt_of_le hlt7 hG5.size
            clear va_7 hlt7
            refine hK.out _ _ hS5 (fun hHeld => ?_)
            clear hK K
            try simp only [c8a5, Act.put, s1, s2, s3]
            refine wpAnyH_ready (rs := [3, 8]) (by kernel_rfl) (by simp) ?_
            refine AllReadyH.cons (o := c8a3) rfl (fun K hK => ?_) (AllReadyH.cons (o := c8a8) rfl (fun K hK => ?_) AllReadyH.nil)
            · skip
              rw [if_pos (by rfl)]
              unfold c8a3
              go_simp
              (with_reducible refine (HTA.out _ hHeld).mono ?_)
              rintro e W3 ⟨rfl, hB3⟩
              have hG3 := gbelow (row := none) hB3
              have hS3 := Kept.moved hHeld hG3 (fun _ h => by cases h)
              have va_3 := Arr.moved va_5 hG3 lt_va_5 (by simp)
              have lt_va_3 := Nat.lt_of_lt_of_le lt_va_5 hG3.size
              clear va_5 lt_va_5
              have one_3 := rng_moved one_5 hG3 hlt5 (by simp)
              have lt_one_3 := Nat.lt_of_lt_of_le hlt5 hG3.size
              clear one_5 hlt5
              go_wp2_with fail
              refine hK.out _ _ hS3 (fun hHeld => ?_)
              clear hK K
              try simp only [c8a3, Act.put, s1, s2, s3]
              refine wpAnyH_ready (rs := [6, 8]) (by kernel_rfl) (by simp) ?_
              refine AllReadyH.cons (o := c8a6) rfl (fun K hK => ?_) (AllReadyH.cons (o := c8a8) rfl (fun K hK => ?_) AllReadyH.nil)
              · skip
                rw [if_pos (by rfl)]
                unfold c8a6
                go_simp
                (with_reducible refine (HTL.out _ _ hHeld one_3 lt_one_3).mono ?_)
                rintro e W6 ⟨rfl, hB6⟩
                have hG6 := gbelow (row := none) hB6
                have hS6 := Kept.moved hHeld hG6 (fun _ h => by cases h)
                have va_6 := Arr.moved va_3 hG6 lt_va_3 (by simp)
                have lt_va_6 := Nat.lt_of_lt_of_le lt_va_3 hG6.size
                clear va_3 lt_va_3
                have one_6 := rng_moved one_3 hG6 lt_one_3 (by simp)
                have lt_one_6 := Nat.lt_of_lt_of_le lt_one_3 hG6.size
                clear one_3 lt_one_3
                go_wp2_with fail
                refine hK.out _ _ hS6 (fun hHeld => ?_)
                clear hK K
                try simp only [c8a6, Act.put, s1, s2, s3]
                refine wpAnyH_ready (rs := [8]) (by kernel_rfl) (by simp) ?_
                refine AllReadyH.cons (o := c8a8) rfl (fun K hK => ?_) AllReadyH.nil
                rw [if_pos (by rfl)]
                refine wp_alloc26 (by rfl) ?_
                intro g8 W8 hle8 hlt8 hG8 vb_8
                have le_g8 := Nat.le_trans hHeld.below.size hle8
                have hS8 := Kept.moved hHeld hG8 (fun _ h => by cases h)
                have ne_g7_g8 : g7 ≠ g8 := by have := lt_va_6; have := hle8; omega
                have va_8 := Arr.moved va_6 hG8 lt_va_6 (by simp)
                have lt_va_8 := Nat.lt_of_lt_of_le lt_va_6 hG8.size
                clear va_6 lt_va_6
                have ne_g5_g8 : g5 ≠ g8 := by have := lt_one_6; have := hle8; omega
                have one_8 := rng_moved one_6 hG8 lt_one_6 (by simp)
                have lt_one_8 := Nat.lt_of_lt_of_le lt_one_6 hG8.size
                clear one_6 lt_one_6
                refine hK.out _ _ hS8 (fun hHeld => ?_)
                clear hK K
                try simp only [c8a8, Act.put, s1, s2, s3]
                refine wpAnyH_ready (rs := [9]) (by kernel_rfl) (by simp) ?_
                refine AllReadyH.cons (o := c8a9) rfl (fun K hK => ?_) AllReadyH.nil
                rw [if_pos (by rfl)]
                refine wp_st26 (.tmp 7) (.tmp 25) (by rfl) g7 ca _ (by rfl) (by rfl) va_8 (by rw [HLA.out]; rfl) HZA.out HOA.out ?_
                intro W9 hG9 va_9
                have hS9 := Kept.moved hHeld hG9 (fun k hk => by cases hk; exact le_g7)
                have one_9 := rng_moved one_8 hG9 lt_one_8 (by simpa using (Ne.symm ne_g7_g5))
                have lt_one_9 := Nat.lt_of_lt_of_le lt_one_8 hG9.size
                have vb_9 := Arr.moved vb_8 hG9 hlt8 (by simpa using (Ne.symm ne_g7_g8))
                have lt_vb_9 := Nat.lt_of_lt_of_le hlt8 hG9.size
                have lt_va_9 := Nat.lt_of_lt_of_le lt_va_8 hG9.size
                clear va_8
                clear one_8
                clear vb_8
                refine hK.out _ _ hS9 (fun hHeld => ?_)
                clear hK K
                try simp only [c8a9, Act.put]
                refine wpAnyH_ready (rs := [10]) (by kernel_rfl) (by simp) ?_
                refine AllReadyH.cons (o := c8a10) rfl (fun K hK => ?_) AllReadyH.nil
                rw [if_pos (by rfl)]
                refine wp_st26 (.tmp 8) (.tmp 28) (by rfl) g8 cb _ (by rfl) (by rfl) vb_9 (by rw [HLB.out]; rfl) HZB.out HOB.out ?_
                intro W10 hG10 vb_10
                have hS10 := Kept.moved hHeld hG10 (fun k hk => by cases hk; exact le_g8)
                have va_10 := Arr.moved va_9 hG10 lt_va_9 (by simpa using ne_g7_g8)
                have lt_va_10 := Nat.lt_of_lt_of_le lt_va_9 hG10.size
                have one_10 := rng_moved one_9 hG10 lt_one_9 (by simpa using ne_g5_g8)
                have lt_one_10 := Nat.lt_of_lt_of_le lt_one_9 hG10.size
                have lt_vb_10 := Nat.lt_of_lt_of_le lt_vb_9 hG10.size
                clear va_9
                clear one_9
                clear vb_9
                refine hK.out _ _ hS10 (fun hHeld => ?_)
                clear hK K
                try simp only [c8a10, Act.put]
                refine wpAnyH_done (by kernel_rfl) ?_ _
                go_wp2_with fail
                go_meet
                exact ⟨_, _, rfl, rfl, hHeld, va_10, vb_10, lt_va_10, lt_vb_10⟩
              · skip
                rw [if_pos (by rfl)]
                refine wp_alloc26 (by rfl) ?_
                intro g8 W8 hle8 hlt8 hG8 vb_8
                have le_g8 := Nat.le_trans hHeld.below.size hle8
                have hS8 := Kept.moved hHeld hG8 (fun _ h => by cases h)
                have ne_g7_g8 : g7 ≠ g8 := by have := lt_va_3; have := hle8; omega
                have va_8 := Arr.moved va_3 hG8 lt_va_3 (by simp)
                have lt_va_8 := Nat.lt_of_lt_of_le lt_va_3 hG8.size
                clear va_3 lt_va_3
                have ne_g5_g8 : g5 ≠ g8 := by have := lt_one_3; have := hle8; omega
                have one_8 := rng_moved one_3 hG8 lt_one_3 (by simp)
                have lt_one_8 := Nat.lt_of_lt_of_le lt_one_3 hG8.size
                clear one_3 lt_one_3
                refine hK.out _ _ hS8 (fun hHeld => ?_)
                clear hK K
                try simp only [c8a8, Act.put, s1, s2, s3]
                refine wpAnyH_ready (rs := [6]) (by kernel_rfl) (by simp) ?_
                refine AllReadyH.cons (o := c8a6) rfl (fun K hK => ?_) AllReadyH.nil
                rw [if_pos (by rfl)]
                unfold c8a6
                go_simp
                (with_reducible refine (HTL.out _ _ hHeld one_8 lt_one_8).mono ?_)
                rintro e W6 ⟨rfl, hB6⟩
                have hG6 := gbelow (row := none) hB6
                have hS6 := Kept.moved hHeld hG6 (fun _ h => by cases h)
                have va_6 := Arr.moved va_8 hG6 lt_va_8 (by simp)
                have lt_va_6 := Nat.lt_of_lt_of_le lt_va_8 hG6.size
                clear va_8 lt_va_8
                have one_6 := rng_moved one_8 hG6 lt_one_8 (by simp)
                have lt_one_6 := Nat.lt_of_lt_of_le lt_one_8 hG6.size
                clear one_8 lt_one_8
                have vb_6 := Arr.moved vb_8 hG6 hlt8 (by simp)
                have lt_vb_6 := Nat.lt_of_lt_of_le hlt8 hG6.size
                clear vb_8 hlt8
                go_wp2_with fail
                refine hK.out _ _ hS6 (fun hHeld => ?_)
                clear hK K
                try simp only [c8a6, Act.put, s1, s2, s3]
                refine wpAnyH_ready (rs := [9]) (by kernel_rfl) (by simp) ?_
                refine AllReadyH.cons (o := c8a9) rfl (fun K hK => ?_) AllReadyH.nil
                rw [if_pos (by rfl)]
                refine wp_st26 (.tmp 7) (.tmp 25) (by rfl) g7 ca _ (by rfl) (by rfl) va_6 (by rw [HLA.out]; rfl) HZA.out HOA.out ?_
                intro W9 hG9 va_9
                have hS9 := Kept.moved hHeld hG9 (fun k hk => by cases hk; exact le_g7)
                have one_9 := rng_moved one_6 hG9 lt_one_6 (by simpa using (Ne.symm ne_g7_g5))
                have lt_one_9 := Nat.lt_of_lt_of_le lt_one_6 hG9.size
                have vb_9 := Arr.moved vb_6 hG9 lt_vb_6 (by simpa using (Ne.symm ne_g7_g8))
                have lt_vb_9 := Nat.lt_of_lt_of_le lt_vb_6 hG9.size
                have lt_va_9 := Nat.lt_of_lt_of_le lt_va_6 hG9.size
                clear va_6
                clear one_6
                clear vb_6
                refine hK.out _ _ hS9 (fun hHeld => ?_)
                clear hK K
                try simp only [c8a9, Act.put]
                refine wpAnyH_ready (rs := [10]) (by kernel_rfl) (by simp) ?_
                refine AllReadyH.cons (o := c8a10) rfl (fun K hK => ?_) AllReadyH.nil
                rw [if_pos (by rfl)]
                refine wp_st26 (.tmp 8) (.tmp 28) (by rfl) g8 cb _ (by rfl) (by rfl) vb_9 (by rw [HLB.out]; rfl) HZB.out HOB.out ?_
                intro W10 hG10 vb_10
                have hS10 := Kept.moved hHeld hG10 (fun k hk => by cases hk; exact le_g8)
                have va_10 := Arr.moved va_9 hG10 lt_va_9 (by simpa using ne_g7_g8)
                have lt_va_10 := Nat.lt_of_lt_of_le lt_va_9 hG10.size
                have one_10 := rng_moved one_9 hG10 lt_one_9 (by simpa using ne_g5_g8)
                have lt_one_10 := Nat.lt_of_lt_of_le lt_one_9 hG10.size
                have lt_vb_10 := Nat.lt_of_lt_of_le lt_vb_9 hG10.size
                clear va_9
                clear one_9
                clear vb_9
                refine hK.out _ _ hS10 (fun hHeld => ?_)
                clear hK K
                try simp only [c8a10, Act.put]
                refine wpAnyH_done (by kernel_rfl) ?_ _
                go_wp2_with fail
                go_meet
                exact ⟨_, _, rfl, rfl, hHeld, va_10, vb_10, lt_va_10, lt_vb_10⟩
            · skip
              rw [if_pos (by rfl)]
              refine wp_alloc26 (by rfl) ?_
              intro g8 W8 hle8 hlt8 hG8 vb_8
              have le_g8 := Nat.le_trans hHeld.below.size hle8
              have hS8 := Kept.moved hHeld hG8 (fun _ h => by cases h)
              have ne_g7_g8 : g7 ≠ g8 := by have := lt_va_5; have := hle8; omega
              have va_8 := Arr.moved va_5 hG8 lt_va_5 (by simp)
              have lt_va_8 := Nat.lt_of_lt_of_le lt_va_5 hG8.size
              clear va_5 lt_va_5
              have ne_g5_g8 : g5 ≠ g8 := by have := hlt5; have := hle8; omega
              have one_8 := rng_moved one_5 hG8 hlt5 (by simp)
              have lt_one_8 := Nat.lt_of_lt_of_le hlt5 hG8.size
              clear one_5 hlt5
              refine hK.out _ _ hS8 (fun hHeld => ?_)
              clear hK K
              try simp only [c8a8, Act.put, s1, s2, s3]
              refine wpAnyH_ready (rs := [3]) (by kernel_rfl) (by simp) ?_
              refine AllReadyH.cons (o := c8a3) rfl (fun K hK => ?_) AllReadyH.nil
              rw [if_pos (by rfl)]
              unfold c8a3
              go_simp
              (with_reducible refine (HTA.out _ hHeld).mono ?_)
              rintro e W3 ⟨rfl, hB3⟩
              have hG3 := gbelow (row := none) hB3
              have hS3 := Kept.moved hHeld hG3 (fun _ h => by cases h)
              have va_3 := Arr.moved va_8 hG3 lt_va_8 (by simp)
              have lt_va_3 := Nat.lt_of_lt_of_le lt_va_8 hG3.size
              clear va_8 lt_va_8
              have one_3 := rng_moved one_8 hG3 lt_one_8 (by simp)
              have lt_one_3 := Nat.lt_of_lt_of_le lt_one_8 hG3.size
              clear one_8 lt_one_8
              have vb_3 := Arr.moved vb_8 hG3 hlt8 (by simp)
              have lt_vb_3 := Nat.lt_of_lt_of_le hlt8 hG3.size
              clear vb_8 hlt8
              go_wp2_with fail
              refine hK.out _ _ hS3 (fun hHeld => ?_)
              clear hK K
              try simp only [c8a3, Act.put, s1, s2, s3]
              refine wpAnyH_ready (rs := [6]) (by kernel_rfl) (by simp) ?_
              refine AllReadyH.cons (o := c8a6) rfl (fun K hK => ?_) AllReadyH.nil
              rw [if_pos (by rfl)]
              unfold c8a6
              go_simp
              (with_reducible refine (HTL.out _ _ hHeld one_3 lt_one_3).mono ?_)
              rintro e W6 ⟨rfl, hB6⟩
              have hG6 := gbelow (row := none) hB6
              have hS6 := Kept.moved hHeld hG6 (fun _ h => by cases h)
              have va_6 := Arr.moved va_3 hG6 lt_va_3 (by simp)
              have lt_va_6 := Nat.lt_of_lt_of_le lt_va_3 hG6.size
              clear va_3 lt_va_3
              have one_6 := rng_moved one_3 hG6 lt_one_3 (by simp)
              have lt_one_6 := Nat.lt_of_lt_of_le lt_one_3 hG6.size
              clear one_3 lt_one_3
              have vb_6 := Arr.moved vb_3 hG6 lt_vb_3 (by simp)
              have lt_vb_6 := Nat.lt_of_lt_of_le lt_vb_3 hG6.size
              clear vb_3 lt_vb_3
              go_wp2_with fail
              refine hK.out _ _ hS6 (fun hHeld => ?_)
              clear hK K
              try simp only [c8a6, Act.put, s1, s2, s3]
              refine wpAnyH_ready (rs := [9]) (by kernel_rfl) (by simp) ?_
              refine AllReadyH.cons (o := c8a9) rfl (fun K hK => ?_) AllReadyH.nil
              rw [if_pos (by rfl)]
              refine wp_st26 (.tmp 7) (.tmp 25) (by rfl) g7 ca _ (by rfl) (by rfl) va_6 (by rw [HLA.out]; rfl) HZA.out HOA.out ?_
              intro W9 hG9 va_9
              have hS9 := Kept.moved hHeld hG9 (fun k hk => by cases hk; exact le_g7)
              have one_9 := rng_moved one_6 hG9 lt_one_6 (by simpa using (Ne.symm ne_g7_g5))
              have lt_one_9 := Nat.lt_of_lt_of_le lt_one_6 hG9.size
              have vb_9 := Arr.moved vb_6 hG9 lt_vb_6 (by simpa using (Ne.symm ne_g7_g8))
              have lt_vb_9 := Nat.lt_of_lt_of_le lt_vb_6 hG9.size
              have lt_va_9 := Nat.lt_of_lt_of_le lt_va_6 hG9.size
              clear va_6
              clear one_6
              clear vb_6
              refine hK.out _ _ hS9 (fun hHeld => ?_)
              clear hK K
              try simp only [c8a9, Act.put]
              refine wpAnyH_ready (rs := [10]) (by kernel_rfl) (by simp) ?_
              refine AllReadyH.cons (o := c8a10) rfl (fun K hK => ?_) AllReadyH.nil
              rw [if_pos (by rfl)]
              refine wp_st26 (.tmp 8) (.tmp 28) (by rfl) g8 cb _ (by rfl) (by rfl) vb_9 (by rw [HLB.out]; rfl) HZB.out HOB.out ?_
              intro W10 hG10 vb_10
              have hS10 := Kept.moved hHeld hG10 (fun k hk => by cases hk; exact le_g8)
              have va_10 := Arr.moved va_9 hG10 lt_va_9 (by simpa using ne_g7_g8)
              have lt_va_10 := Nat.lt_of_lt_of_le lt_va_9 hG10.size
              have one_10 := rng_moved one_9 hG10 lt_one_9 (by simpa using ne_g5_g8)
              have lt_one_10 := Nat.lt_of_lt_of_le lt_one_9 hG10.size
              have lt_vb_10 := Nat.lt_of_lt_of_le lt_vb_9 hG10.size
              clear va_9
              clear one_9
              clear vb_9
              refine hK.out _ _ hS10 (fun hHeld => ?_)
              clear hK K
              try simp only [c8a10, Act.put]
              refine wpAnyH_done (by kernel_rfl) ?_ _
              go_wp2_with fail
              go_meet
              exact ⟨_, _, rfl, rfl, hHeld, va_10, vb_10, lt_va_10, lt_vb_10⟩
          · skip
            rw [if_pos (by rfl)]
            refine wp_alloc26 (by rfl) ?_
            intro g8 W8 hle8 hlt8 hG8 vb_8
            have le_g8 := Nat.le_trans hHeld.below.size hle8
            have hS8 := Kept.moved hHeld hG8 (fun _ h => by cases h)
            have ne_g7_g8 : g7 ≠ g8 := by have := hlt7; have := hle8; omega
            have va_8 := Arr.moved va_7 hG8 hlt7 (by simp)
            have lt_va_8 := Nat.lt_of_lt_of_le hlt7 hG8.size
            clear va_7 hlt7
            refine hK.out _ _ hS8 (fun hHeld => ?_)
            clear hK K
            try simp only [c8a8, Act.put, s1, s2, s3]
            refine wpAnyH_ready (rs := [3, 5]) (by kernel_rfl) (by simp) ?_
            refine AllReadyH.cons (o := c8a3) rfl (fun K hK => ?_) (AllReadyH.cons (o := c8a5) rfl (fun K hK => ?_) AllReadyH.nil)
            · skip
              rw [if_pos (by rfl)]
              unfold c8a3
              go_simp
              (with_reducible refine (HTA.out _ hHeld).mono ?_)
              rintro e W3 ⟨rfl, hB3⟩
              have hG3 := gbelow (row := none) hB3
              have hS3 := Kept.moved hHeld hG3 (fun _ h => by cases h)
              have va_3 := Arr.moved va_8 hG3 lt_va_8 (by simp)
              have lt_va_3 := Nat.lt_of_lt_of_le lt_va_8 hG3.size
              clear va_8 lt_va_8
              have vb_3 := Arr.moved vb_8 hG3 hlt8 (by simp)
              have lt_vb_3 := Nat.lt_of_lt_of_le hlt8 hG3.size
              clear vb_8 hlt8
              go_wp2_with fail
              refine hK.out _ _ hS3 (fun hHeld => ?_)
              clear hK K
              try simp only [c8a3, Act.put, s1, s2, s3]
              refine wpAnyH_ready (rs := [5]) (by kernel_rfl) (by simp) ?_
              refine AllReadyH.cons (o := c8a5) rfl (fun K hK => ?_) AllReadyH.nil
              rw [if_pos (by rfl)]
              refine wp_one30 (.tmp 26) (by rfl) cd (by rfl) HLD.out ?_
              intro g5 W5 hle5 hlt5 hG5 one_5
              have hS5 := Kept.moved hHeld hG5 (fun _ h => by cases h)
              have ne_g7_g5 : g7 ≠ g5 := by have := lt_va_3; have := hle5; omega
              have va_5 := Arr.moved va_3 hG5 lt_va_3 (by simp)
              have lt_va_5 := Nat.lt_of_lt_of_le lt_va_3 hG5.size
              clear va_3 lt_va_3
              have ne_g8_g5 : g8 ≠ g5 := by have := lt_vb_3; have := hle5; omega
              have vb_5 := Arr.moved vb_3 hG5 lt_vb_3 (by simp)
              have lt_vb_5 := Nat.lt_of_lt_of_le lt_vb_3 hG5.size
              clear vb_3 lt_vb_3
              refine hK.out _ _ hS5 (fun hHeld => ?_)
              clear hK K
              try simp only [c8a5, Act.put, s1, s2, s3]
              refine wpAnyH_ready (rs := [6]) (by kernel_rfl) (by simp) ?_
              refine AllReadyH.cons (o := c8a6) rfl (fun K hK => ?_) AllReadyH.nil
              rw [if_pos (by rfl)]
              unfold c8a6
              go_simp
              (with_reducible refine (HTL.out _ _ hHeld one_5 hlt5).mono ?_)
              rintro e W6 ⟨rfl, hB6⟩
              have hG6 := gbelow (row := none) hB6
              have hS6 := Kept.moved hHeld hG6 (fun _ h => by cases h)
              have va_6 := Arr.moved va_5 hG6 lt_va_5 (by simp)
              have lt_va_6 := Nat.lt_of_lt_of_le lt_va_5 hG6.size
              clear va_5 lt_va_5
              have vb_6 := Arr.moved vb_5 hG6 lt_vb_5 (by simp)
              have lt_vb_6 := Nat.lt_of_lt_of_le lt_vb_5 hG6.size
              clear vb_5 lt_vb_5
              have one_6 := rng_moved one_5 hG6 hlt5 (by simp)
              have lt_one_6 := Nat.lt_of_lt_of_le hlt5 hG6.size
              clear one_5 hlt5
              go_wp2_with fail
              refine hK.out _ _ hS6 (fun hHeld => ?_)
              clear hK K
              try simp only [c8a6, Act.put, s1, s2, s3]
              refine wpAnyH_ready (rs := [9]) (by kernel_rfl) (by simp) ?_
              refine AllReadyH.cons (o := c8a9) rfl (fun K hK => ?_) AllReadyH.nil
              rw [if_pos (by rfl)]
              refine wp_st26 (.tmp 7) (.tmp 25) (by rfl) g7 ca _ (by rfl) (by rfl) va_6 (by rw [HLA.out]; rfl) HZA.out HOA.out ?_
              intro W9 hG9 va_9
              have hS9 := Kept.moved hHeld hG9 (fun k hk => by cases hk; exact le_g7)
              have vb_9 := Arr.moved vb_6 hG9 lt_vb_6 (by simpa using (Ne.symm ne_g7_g8))
              have lt_vb_9 := Nat.lt_of_lt_of_le lt_vb_6 hG9.size
              have one_9 := rng_moved one_6 hG9 lt_one_6 (by simpa using (Ne.symm ne_g7_g5))
              have lt_one_9 := Nat.lt_of_lt_of_le lt_one_6 hG9.size
              have lt_va_9 := Nat.lt_of_lt_of_le lt_va_6 hG9.size
              clear va_6
              clear vb_6
              clear one_6
              refine hK.out _ _ hS9 (fun hHeld => ?_)
              clear hK K
              try simp only [c8a9, Act.put]
              refine wpAnyH_ready (rs := [10]) (by kernel_rfl) (by simp) ?_
              refine AllReadyH.cons (o := c8a10) rfl (fun K hK => ?_) AllReadyH.nil
              rw [if_pos (by rfl)]
              refine wp_st26 (.tmp 8) (.tmp 28) (by rfl) g8 cb _ (by rfl) (by rfl) vb_9 (by rw [HLB.out]; rfl) HZB.out HOB.out ?_
              intro W10 hG10 vb_10
              have hS10 := Kept.moved hHeld hG10 (fun k hk => by cases hk; exact le_g8)
              have va_10 := Arr.moved va_9 hG10 lt_va_9 (by simpa using ne_g7_g8)
              have lt_va_10 := Nat.lt_of_lt_of_le lt_va_9 hG10.size
              have one_10 := rng_moved one_9 hG10 lt_one_9 (by simpa using (Ne.symm ne_g8_g5))
              have lt_one_10 := Nat.lt_of_lt_of_le lt_one_9 hG10.size
              have lt_vb_10 := Nat.lt_of_lt_of_le lt_vb_9 hG10.size
              clear va_9
              clear vb_9
              clear one_9
              refine hK.out _ _ hS10 (fun hHeld => ?_)
              clear hK K
              try simp only [c8a10, Act.put]
              refine wpAnyH_done (by kernel_rfl) ?_ _
              go_wp2_with fail
              go_meet
              exact ⟨_, _, rfl, rfl, hHeld, va_10, vb_10, lt_va_10, lt_vb_10⟩
            · skip
              rw [if_pos (by rfl)]
              refine wp_one30 (.tmp 26) (by rfl) cd (by rfl) HLD.out ?_
              intro g5 W5 hle5 hlt5 hG5 one_5
              have hS5 := Kept.moved hHeld hG5 (fun _ h => by cases h)
              have ne_g7_g5 : g7 ≠ g5 := by have := lt_va_8; have := hle5; omega
              have va_5 := Arr.moved va_8 hG5 lt_va_8 (by simp)
              have lt_va_5 := Nat.lt_of_lt_of_le lt_va_8 hG5.size
              clear va_8 lt_va_8
              have ne_g8_g5 : g8 ≠ g5 := by have := hlt8; have := hle5; omega
              have vb_5 := Arr.moved vb_8 hG5 hlt8 (by simp)
              have lt_vb_5 := Nat.lt_of_lt_of_le hlt8 hG5.size
              clear vb_8 hlt8
              refine hK.out _ _ hS5 (fun hHeld => ?_)
              clear hK K
              try simp only [c8a5, Act.put, s1, s2, s3]
              refine wpAnyH_ready (rs := [3]) (by kernel_rfl) (by simp) ?_
              refine AllReadyH.cons (o := c8a3) rfl (fun K hK => ?_) AllReadyH.nil
              rw [if_pos (by rfl)]
              unfold c8a3
              go_simp
              (with_reducible refine (HTA.out _ hHeld).mono ?_)
              rintro e W3 ⟨rfl, hB3⟩
              have hG3 := gbelow (row := none) hB3
              have hS3 := Kept.moved hHeld hG3 (fun _ h => by cases h)
              have va_3 := Arr.moved va_5 hG3 lt_va_5 (by simp)
              have lt_va_3 := Nat.lt_of_lt_of_le lt_va_5 hG3.size
              clear va_5 lt_va_5
              have vb_3 := Arr.moved vb_5 hG3 lt_vb_5 (by simp)
              have lt_vb_3 := Nat.lt_of_lt_of_le lt_vb_5 hG3.size
              clear vb_5 lt_vb_5
              have one_3 := rng_moved one_5 hG3 hlt5 (by simp)
              have lt_one_3 := Nat.lt_of_lt_of_le hlt5 hG3.size
              clear one_5 hlt5
              go_wp2_with fail
              refine hK.out _ _ hS3 (fun hHeld => ?_)
              clear hK K
              try simp only [c8a3, Act.put, s1, s2, s3]
              refine wpAnyH_ready (rs := [6]) (by kernel_rfl) (by simp) ?_
              refine AllReadyH.cons (o := c8a6) rfl (fun K hK => ?_) AllReadyH.nil
              rw [if_pos (by rfl)]
              unfold c8a6
              go_simp
              (with_reducible refine (HTL.out _ _ hHeld one_3 lt_one_3).mono ?_)
              rintro e W6 ⟨rfl, hB6⟩
              have hG6 := gbelow (row := none) hB6
              have hS6 := Kept.moved hHeld hG6 (fun _ h => by cases h)
              have va_6 := Arr.moved va_3 hG6 lt_va_3 (by simp)
              have lt_va_6 := Nat.lt_of_lt_of_le lt_va_3 hG6.size
              clear va_3 lt_va_3
              have vb_6 := Arr.moved vb_3 hG6 lt_vb_3 (by simp)
              have lt_vb_6 := Nat.lt_of_lt_of_le lt_vb_3 hG6.size
              clear vb_3 lt_vb_3
              have one_6 := rng_moved one_3 hG6 lt_one_3 (by simp)
              have lt_one_6 := Nat.lt_of_lt_of_le lt_one_3 hG6.size
              clear one_3 lt_one_3
              go_wp2_with fail
              refine hK.out _ _ hS6 (fun hHeld => ?_)
              clear hK K
              try simp only [c8a6, Act.put, s1, s2, s3]
              refine wpAnyH_ready (rs := [9]) (by kernel_rfl) (by simp) ?_
              refine AllReadyH.cons (o := c8a9) rfl (fun K hK => ?_) AllReadyH.nil
              rw [if_pos (by rfl)]
              refine wp_st26 (.tmp 7) (.tmp 25) (by rfl) g7 ca _ (by rfl) (by rfl) va_6 (by rw [HLA.out]; rfl) HZA.out HOA.out ?_
              intro W9 hG9 va_9
              have hS9 := Kept.moved hHeld hG9 (fun k hk => by cases hk; exact le_g7)
              have vb_9 := Arr.moved vb_6 hG9 lt_vb_6 (by simpa using (Ne.symm ne_g7_g8))
              have lt_vb_9 := Nat.lt_of_lt_of_le lt_vb_6 hG9.size
              have one_9 := rng_moved one_6 hG9 lt_one_6 (by simpa using (Ne.symm ne_g7_g5))
              have lt_one_9 := Nat.lt_of_lt_of_le lt_one_6 hG9.size
              have lt_va_9 := Nat.lt_of_lt_of_le lt_va_6 hG9.size
              clear va_6
              clear vb_6
              clear one_6
              refine hK.out _ _ hS9 (fun hHeld => ?_)
              clear hK K
              try simp only [c8a9, Act.put]
              refine wpAnyH_ready (rs := [10]) (by kernel_rfl) (by simp) ?_
              refine AllReadyH.cons (o := c8a10) rfl (fun K hK => ?_) AllReadyH.nil
              rw [if_pos (by rfl)]
              refine wp_st26 (.tmp 8) (.tmp 28) (by rfl) g8 cb _ (by rfl) (by rfl) vb_9 (by rw [HLB.out]; rfl) HZB.out HOB.out ?_
              intro W10 hG10 vb_10
              have hS10 := Kept.moved hHeld hG10 (fun k hk => by cases hk; exact le_g8)
              have va_10 := Arr.moved va_9 hG10 lt_va_9 (by simpa using ne_g7_g8)
              have lt_va_10 := Nat.lt_of_lt_of_le lt_va_9 hG10.size
              have one_10 := rng_moved one_9 hG10 lt_one_9 (by simpa using (Ne.symm ne_g8_g5))
              have lt_one_10 := Nat.lt_of_lt_of_le lt_one_9 hG10.size
              have lt_vb_10 := Nat.lt_of_lt_of_le lt_vb_9 hG10.size
              clear va_9
              clear vb_9
              clear one_9
              refine hK.out _ _ hS10 (fun hHeld => ?_)
              clear hK K
              try simp only [c8a10, Act.put]
              refine wpAnyH_done (by kernel_rfl) ?_ _
              go_wp2_with fail
              go_meet
              exact ⟨_, _, rfl, rfl, hHeld, va_10, vb_10, lt_va_10, lt_vb_10⟩
        · skip
          rw [if_pos (by rfl)]
          refine wp_alloc26 (by rfl) ?_
          intro g8 W8 hle8 hlt8 hG8 vb_8
          have le_g8 := Nat.le_trans hHeld.below.size hle8
          have hS8 := Kept.moved hHeld hG8 (fun _ h => by cases h)
          refine hK.out _ _ hS8 (fun hHeld => ?_)
          clear hK K
          try simp only [c8a8, Act.put, s1, s2, s3]
          refine wpAnyH_ready (rs := [3, 5, 7]) (by kernel_rfl) (by simp) ?_
          refine AllReadyH.cons (o := c8a3) rfl (fun K hK => ?_) (AllReadyH.cons (o := c8a5) rfl (fun K hK => ?_) (AllReadyH.cons (o := c8a7) rfl (fun K hK => ?_) AllReadyH.nil))
          · skip
            rw [if_pos (by rfl)]
            unfold c8a3
            go_simp
            (with_reducible refine (HTA.out _ hHeld).mono ?_)
            rintro e W3 ⟨rfl, hB3⟩
            have hG3 := gbelow (row := none) hB3
            have hS3 := Kept.moved hHeld hG3 (fun _ h => by cases h)
            have vb_3 := Arr.moved vb_8 hG3 hlt8 (by simp)
            have lt_vb_3 := Nat.lt_of_lt_of_le hlt8 hG3.size
            clear vb_8 hlt8
            go_wp2_with fail
            refine hK.out _ _ hS3 (fun hHeld => ?_)
            clear hK K
            try simp only [c8a3, Act.put, s1, s2, s3]
            refine wpAnyH_ready (rs := [5, 7]) (by kernel_rfl) (by simp) ?_
            refine AllReadyH.cons (o := c8a5) rfl (fun K hK => ?_) (AllReadyH.cons (o := c8a7) rfl (fun K hK => ?_) AllReadyH.nil)
            · skip
              rw [if_pos (by rfl)]
              refine wp_one30 (.tmp 26) (by rfl) cd (by rfl) HLD.out ?_
              intro g5 W5 hle5 hlt5 hG5 one_5
              have hS5 := Kept.moved hHeld hG5 (fun _ h => by cases h)
              have ne_g8_g5 : g8 ≠ g5 := by have := lt_vb_3; have := hle5; omega
              have vb_5 := Arr.moved vb_3 hG5 lt_vb_3 (by simp)
              have lt_vb_5 := Nat.lt_of_lt_of_le lt_vb_3 hG5.size
              clear vb_3 lt_vb_3
              refine hK.out _ _ hS5 (fun hHeld => ?_)
              clear hK K
              try simp only [c8a5, Act.put, s1, s2, s3]
              refine wpAnyH_ready (rs := [6, 7]) (by kernel_rfl) (by simp) ?_
              refine AllReadyH.cons (o := c8a6) rfl (fun K hK => ?_) (AllReadyH.cons (o := c8a7) rfl (fun K hK => ?_) AllReadyH.nil)
              · skip
                rw [if_pos (by rfl)]
                unfold c8a6
                go_simp
                (with_reducible refine (HTL.out _ _ hHeld one_5 hlt5).mono ?_)
                rintro e W6 ⟨rfl, hB6⟩
                have hG6 := gbelow (row := none) hB6
                have hS6 := Kept.moved hHeld hG6 (fun _ h => by cases h)
                have vb_6 := Arr.moved vb_5 hG6 lt_vb_5 (by simp)
                have lt_vb_6 := Nat.lt_of_lt_of_le lt_vb_5 hG6.size
                clear vb_5 lt_vb_5
                have one_6 := rng_moved one_5 hG6 hlt5 (by simp)
                have lt_one_6 := Nat.lt_of_lt_of_le hlt5 hG6.size
                clear one_5 hlt5
                go_wp2_with fail
                refine hK.out _ _ hS6 (fun hHeld => ?_)
                clear hK K
                try simp only [c8a6, Act.put, s1, s2, s3]
                refine wpAnyH_ready (rs := [7]) (by kernel_rfl) (by simp) ?_
                refine AllReadyH.cons (o := c8a7) rfl (fun K hK => ?_) AllReadyH.nil
                rw [if_pos (by rfl)]
                refine wp_alloc26 (by rfl) ?_
                intro g7 W7 hle7 hlt7 hG7 va_7
                have le_g7 := Nat.le_trans hHeld.below.size hle7
                have hS7 := Kept.moved hHeld hG7 (fun _ h => by cases h)
                have ne_g8_g7 : g8 ≠ g7 := by have := lt_vb_6; have := hle7; omega
                have vb_7 := Arr.moved vb_6 hG7 lt_vb_6 (by simp)
                have lt_vb_7 := Nat.lt_of_lt_of_le lt_vb_6 hG7.size
                clear vb_6 lt_vb_6
                have ne_g5_g7 : g5 ≠ g7 := by have := lt_one_6; have := hle7; omega
                have one_7 := rng_moved one_6 hG7 lt_one_6 (by simp)
                have lt_one_7 := Nat.lt_of_lt_of_le lt_one_6 hG7.size
                clear one_6 lt_one_6
                refine hK.out _ _ hS7 (fun hHeld => ?_)
                clear hK K
                try simp only [c8a7, Act.put, s1, s2, s3]
                refine wpAnyH_ready (rs := [9]) (by kernel_rfl) (by simp) ?_
                refine AllReadyH.cons (o := c8a9) rfl (fun K hK => ?_) AllReadyH.nil
                rw [if_pos (by rfl)]
                refine wp_st26 (.tmp 7) (.tmp 25) (by rfl) g7 ca _ (by rfl) (by rfl) va_7 (by rw [HLA.out]; rfl) HZA.out HOA.out ?_
                intro W9 hG9 va_9
                have hS9 := Kept.moved hHeld hG9 (fun k hk => by cases hk; exact le_g7)
                have vb_9 := Arr.moved vb_7 hG9 lt_vb_7 (by simpa using ne_g8_g7)
                have lt_vb_9 := Nat.lt_of_lt_of_le lt_vb_7 hG9.size
                have one_9 := rng_moved one_7 hG9 lt_one_7 (by simpa using ne_g5_g7)
                have lt_one_9 := Nat.lt_of_lt_of_le lt_one_7 hG9.size
                have lt_va_9 := Nat.lt_of_lt_of_le hlt7 hG9.size
                clear vb_7
                clear one_7
                clear va_7
                refine hK.out _ _ hS9 (fun hHeld => ?_)
                clear hK K
                try simp only [c8a9, Act.put]
                refine wpAnyH_ready (rs := [10]) (by kernel_rfl) (by simp) ?_
                refine AllReadyH.cons (o := c8a10) rfl (fun K hK => ?_) AllReadyH.nil
                rw [if_pos (by rfl)]
                refine wp_st26 (.tmp 8) (.tmp 28) (by rfl) g8 cb _ (by rfl) (by rfl) vb_9 (by rw [HLB.out]; rfl) HZB.out HOB.out ?_
                intro W10 hG10 vb_10
                have hS10 := Kept.moved hHeld hG10 (fun k hk => by cases hk; exact le_g8)
                have one_10 := rng_moved one_9 hG10 lt_one_9 (by simpa using (Ne.symm ne_g8_g5))
                have lt_one_10 := Nat.lt_of_lt_of_le lt_one_9 hG10.size
                have va_10 := Arr.moved va_9 hG10 lt_va_9 (by simpa using (Ne.symm ne_g8_g7))
                have lt_va_10 := Nat.lt_of_lt_of_le lt_va_9 hG10.size
                have lt_vb_10 := Nat.lt_of_lt_of_le lt_vb_9 hG10.size
                clear vb_9
                clear one_9
                clear va_9
                refine hK.out _ _ hS10 (fun hHeld => ?_)
                clear hK K
                try simp only [c8a10, Act.put]
                refine wpAnyH_done (by kernel_rfl) ?_ _
                go_wp2_with fail
                go_meet
                exact ⟨_, _, rfl, rfl, hHeld, va_10, vb_10, lt_va_10, lt_vb_10⟩
              · skip
                rw [if_pos (by rfl)]
                refine wp_alloc26 (by rfl) ?_
                intro g7 W7 hle7 hlt7 hG7 va_7
                have le_g7 := Nat.le_trans hHeld.below.size hle7
                have hS7 := Kept.moved hHeld hG7 (fun _ h => by cases h)
                have ne_g8_g7 : g8 ≠ g7 := by have := lt_vb_5; have := hle7; omega
                have vb_7 := Arr.moved vb_5 hG7 lt_vb_5 (by simp)
                have lt_vb_7 := Nat.lt_of_lt_of_le lt_vb_5 hG7.size
                clear vb_5 lt_vb_5
                have ne_g5_g7 : g5 ≠ g7 := by have := hlt5; have := hle7; omega
                have one_7 := rng_moved one_5 hG7 hlt5 (by simp)
                have lt_one_7 := Nat.lt_of_lt_of_le hlt5 hG7.size
                clear one_5 hlt5
                refine hK.out _ _ hS7 (fun hHeld => ?_)
                clear hK K
                try simp only [c8a7, Act.put, s1, s2, s3]
                refine wpAnyH_ready (rs := [6]) (by kernel_rfl) (by simp) ?_
                refine AllReadyH.cons (o := c8a6) rfl (fun K hK => ?_) AllReadyH.nil
                rw [if_pos (by rfl)]
                unfold c8a6
                go_simp
                (with_reducible refine (HTL.out _ _ hHeld one_7 lt_one_7).mono ?_)
                rintro e W6 ⟨rfl, hB6⟩
                have hG6 := gbelow (row := none) hB6
                have hS6 := Kept.moved hHeld hG6 (fun _ h => by cases h)
                have vb_6 := Arr.moved vb_7 hG6 lt_vb_7 (by simp)
                have lt_vb_6 := Nat.lt_of_lt_of_le lt_vb_7 hG6.size
                clear vb_7 lt_vb_7
                have one_6 := rng_moved one_7 hG6 lt_one_7 (by simp)
                have lt_one_6 := Nat.lt_of_lt_of_le lt_one_7 hG6.size
                clear one_7 lt_one_7
                have va_6 := Arr.moved va_7 hG6 hlt7 (by simp)
                have lt_va_6 := Nat.lt_of_lt_of_le hlt7 hG6.size
                clear va_7 hlt7
                go_wp2_with fail
                refine hK.out _ _ hS6 (fun hHeld => ?_)
                clear hK K
                try simp only [c8a6, Act.put, s1, s2, s3]
                refine wpAnyH_ready (rs := [9]) (by kernel_rfl) (by simp) ?_
                refine AllReadyH.cons (o := c8a9) rfl (fun K hK => ?_) AllReadyH.nil
                rw [if_pos (by rfl)]
                refine wp_st26 (.tmp 7) (.tmp 25) (by rfl) g7 ca _ (by rfl) (by rfl) va_6 (by rw [HLA.out]; rfl) HZA.out HOA.out ?_
                intro W9 hG9 va_9
                have hS9 := Kept.moved hHeld hG9 (fun k hk => by cases hk; exact le_g7)
                have vb_9 := Arr.moved vb_6 hG9 lt_vb_6 (by simpa using ne_g8_g7)
                have lt_vb_9 := Nat.lt_of_lt_of_le lt_vb_6 hG9.size
                have one_9 := rng_moved one_6 hG9 lt_one_6 (by simpa using ne_g5_g7)
                have lt_one_9 := Nat.lt_of_lt_of_le lt_one_6 hG9.size
                have lt_va_9 := Nat.lt_of_lt_of_le lt_va_6 hG9.size
                clear vb_6
                clear one_6
                clear va_6
                refine hK.out _ _ hS9 (fun hHeld => ?_)
                clear hK K
                try simp only [c8a9, Act.put]
                refine wpAnyH_ready (rs := [10]) (by kernel_rfl) (by simp) ?_
                refine AllReadyH.cons (o := c8a10) rfl (fun K hK => ?_) AllReadyH.nil
                rw [if_pos (by rfl)]
                refine wp_st26 (.tmp 8) (.tmp 28) (by rfl) g8 cb _ (by rfl) (by rfl) vb_9 (by rw [HLB.out]; rfl) HZB.out HOB.out ?_
                intro W10 hG10 vb_10
                have hS10 := Kept.moved hHeld hG10 (fun k hk => by cases hk; exact le_g8)
                have one_10 := rng_moved one_9 hG10 lt_one_9 (by simpa using (Ne.symm ne_g8_g5))
                have lt_one_10 := Nat.lt_of_lt_of_le lt_one_9 hG10.size
                have va_10 := Arr.moved va_9 hG10 lt_va_9 (by simpa using (Ne.symm ne_g8_g7))
                have lt_va_10 := Nat.lt_of_lt_of_le lt_va_9 hG10.size
                have lt_vb_10 := Nat.lt_of_lt_of_le lt_vb_9 hG10.size
                clear vb_9
                clear one_9
                clear va_9
                refine hK.out _ _ hS10 (fun hHeld => ?_)
                clear hK K
                try simp only [c8a10, Act.put]
                refine wpAnyH_done (by kernel_rfl) ?_ _
                go_wp2_with fail
                go_meet
                exact ⟨_, _, rfl, rfl, hHeld, va_10, vb_10, lt_va_10, lt_vb_10⟩
            · skip
              rw [if_pos (by rfl)]
              refine wp_alloc26 (by rfl) ?_
              intro g7 W7 hle7 hlt7 hG7 va_7
              have le_g7 := Nat.le_trans hHeld.below.size hle7
              have hS7 := Kept.moved hHeld hG7 (fun _ h => by cases h)
              have ne_g8_g7 : g8 ≠ g7 := by have := lt_vb_3; have := hle7; omega
              have vb_7 := Arr.moved vb_3 hG7 lt_vb_3 (by simp)
              have lt_vb_7 := Nat.lt_of_lt_of_le lt_vb_3 hG7.size
              clear vb_3 lt_vb_3
              refine hK.out _ _ hS7 (fun hHeld => ?_)
              clear hK K
              try simp only [c8a7, Act.put, s1, s2, s3]
              refine wpAnyH_ready (rs := [5]) (by kernel_rfl) (by simp) ?_
              refine AllReadyH.cons (o := c8a5) rfl (fun K hK => ?_) AllReadyH.nil
              rw [if_pos (by rfl)]
              refine wp_one30 (.tmp 26) (by rfl) cd (by rfl) HLD.out ?_
              intro g5 W5 hle5 hlt5 hG5 one_5
              have hS5 := Kept.moved hHeld hG5 (fun _ h => by cases h)
              have ne_g8_g5 : g8 ≠ g5 := by have := lt_vb_7; have := hle5; omega
              have vb_5 := Arr.moved vb_7 hG5 lt_vb_7 (by simp)
              have lt_vb_5 := Nat.lt_of_lt_of_le lt_vb_7 hG5.size
              clear vb_7 lt_vb_7
              have ne_g7_g5 : g7 ≠ g5 := by have := hlt7; have := hle5; omega
              have va_5 := Arr.moved va_7 hG5 hlt7 (by simp)
              have lt_va_5 := Nat.lt_of_lt_of_le hlt7 hG5.size
              clear va_7 hlt7
              refine hK.out _ _ hS5 (fun hHeld => ?_)
              clear hK K
              try simp only [c8a5, Act.put, s1, s2, s3]
              refine wpAnyH_ready (rs := [6]) (by kernel_rfl) (by simp) ?_
              refine AllReadyH.cons (o := c8a6) rfl (fun K hK => ?_) AllReadyH.nil
              rw [if_pos (by rfl)]
              unfold c8a6
              go_simp
              (with_reducible refine (HTL.out _ _ hHeld one_5 hlt5).mono ?_)
              rintro e W6 ⟨rfl, hB6⟩
              have hG6 := gbelow (row := none) hB6
              have hS6 := Kept.moved hHeld hG6 (fun _ h => by cases h)
              have vb_6 := Arr.moved vb_5 hG6 lt_vb_5 (by simp)
              have lt_vb_6 := Nat.lt_of_lt_of_le lt_vb_5 hG6.size
              clear vb_5 lt_vb_5
              have va_6 := Arr.moved va_5 hG6 lt_va_5 (by simp)
              have lt_va_6 := Nat.lt_of_lt_of_le lt_va_5 hG6.size
              clear va_5 lt_va_5
              have one_6 := rng_moved one_5 hG6 hlt5 (by simp)
              have lt_one_6 := Nat.lt_of_lt_of_le hlt5 hG6.size
              clear one_5 hlt5
              go_wp2_with fail
              refine hK.out _ _ hS6 (fun hHeld => ?_)
              clear hK K
              try simp only [c8a6, Act.put, s1, s2, s3]
              refine wpAnyH_ready (rs := [9]) (by kernel_rfl) (by simp) ?_
              refine AllReadyH.cons (o := c8a9) rfl (fun K hK => ?_) AllReadyH.nil
              rw [if_pos (by rfl)]
              refine wp_st26 (.tmp 7) (.tmp 25) (by rfl) g7 ca _ (by rfl) (by rfl) va_6 (by rw [HLA.out]; rfl) HZA.out HOA.out ?_
              intro W9 hG9 va_9
              have hS9 := Kept.moved hHeld hG9 (fun k hk => by cases hk; exact le_g7)
              have vb_9 := Arr.moved vb_6 hG9 lt_vb_6 (by simpa using ne_g8_g7)
              have lt_vb_9 := Nat.lt_of_lt_of_le lt_vb_6 hG9.size
              have one_9 := rng_moved one_6 hG9 lt_one_6 (by simpa using (Ne.symm ne_g7_g5))
              have lt_one_9 := Nat.lt_of_lt_of_le lt_one_6 hG9.size
              have lt_va_9 := Nat.lt_of_lt_of_le lt_va_6 hG9.size
              clear vb_6
              clear va_6
              clear one_6
              refine hK.out _ _ hS9 (fun hHeld => ?_)
              clear hK K
              try simp only [c8a9, Act.put]
              refine wpAnyH_ready (rs := [10]) (by kernel_rfl) (by simp) ?_
              refine AllReadyH.cons (o := c8a10) rfl (fun K hK => ?_) AllReadyH.nil
              rw [if_pos (by rfl)]
              refine wp_st26 (.tmp 8) (.tmp 28) (by rfl) g8 cb _ (by rfl) (by rfl) vb_9 (by rw [HLB.out]; rfl) HZB.out HOB.out ?_
              intro W10 hG10 vb_10
              have hS10 := Kept.moved hHeld hG10 (fun k hk => by cases hk; exact le_g8)
              have va_10 := Arr.moved va_9 hG10 lt_va_9 (by simpa using (Ne.symm ne_g8_g7))
              have lt_va_10 := Nat.lt_of_lt_of_le lt_va_9 hG10.size
              have one_10 := rng_moved one_9 hG10 lt_one_9 (by simpa using (Ne.symm ne_g8_g5))
              have lt_one_10 := Nat.lt_of_lt_of_le lt_one_9 hG10.size
              have lt_vb_10 := Nat.lt_of_lt_of_le lt_vb_9 hG10.size
              clear vb_9
              clear va_9
              clear one_9
              refine hK.out _ _ hS10 (fun hHeld => ?_)
              clear hK K
              try simp only [c8a10, Act.put]
              refine wpAnyH_done (by kernel_rfl) ?_ _
              go_wp2_with fail
              go_meet
              exact ⟨_, _, rfl, rfl, hHeld, va_10, vb_10, lt_va_10, lt_vb_10⟩
          · skip
            rw [if_pos (by rfl)]
            refine wp_one30 (.tmp 26) (by rfl) cd (by rfl) HLD.out ?_
            intro g5 W5 hle5 hlt5 hG5 one_5
            have hS5 := Kept.moved hHeld hG5 (fun _ h => by cases h)
            have ne_g8_g5 : g8 ≠ g5 := by have := hlt8; have := hle5; omega
            have vb_5 := Arr.moved vb_8 hG5 hlt8 (by simp)
            have lt_vb_5 := Nat.lt_of_lt_of_le hlt8 hG5.size
            clear vb_8 hlt8
            refine hK.out _ _ hS5 (fun hHeld => ?_)
            clear hK K
            try simp only [c8a5, Act.put, s1, s2, s3]
            refine wpAnyH_ready (rs := [3, 7]) (by kernel_rfl) (by simp) ?_
            refine AllReadyH.cons (o := c8a3) rfl (fun K hK => ?_) (AllReadyH.cons (o := c8a7) rfl (fun K hK => ?_) AllReadyH.nil)
            · skip
              rw [if_pos (by rfl)]
              unfold c8a3
              go_simp
              (with_reducible refine (HTA.out _ hHeld).mono ?_)
              rintro e W3 ⟨rfl, hB3⟩
              have hG3 := gbelow (row := none) hB3
              have hS3 := Kept.moved hHeld hG3 (fun _ h => by cases h)
              have vb_3 := Arr.moved vb_5 hG3 lt_vb_5 (by simp)
              have lt_vb_3 := Nat.lt_of_lt_of_le lt_vb_5 hG3.size
              clear vb_5 lt_vb_5
              have one_3 := rng_moved one_5 hG3 hlt5 (by simp)
              have lt_one_3 := Nat.lt_of_lt_of_le hlt5 hG3.size
              clear one_5 hlt5
              go_wp2_with fail
              refine hK.out _ _ hS3 (fun hHeld => ?_)
              clear hK K
              try simp only [c8a3, Act.put, s1, s2, s3]
              refine wpAnyH_ready (rs := [6, 7]) (by kernel_rfl) (by simp) ?_
              refine AllReadyH.cons (o := c8a6) rfl (fun K hK => ?_) (AllReadyH.cons (o := c8a7) rfl (fun K hK => ?_) AllReadyH.nil)
              · skip
                rw [if_pos (by rfl)]
                unfold c8a6
                go_simp
                (with_reducible refine (HTL.out _ _ hHeld one_3 lt_one_3).mono ?_)
                rintro e W6 ⟨rfl, hB6⟩
                have hG6 := gbelow (row := none) hB6
                have hS6 := Kept.moved hHeld hG6 (fun _ h => by cases h)
                have vb_6 := Arr.moved vb_3 hG6 lt_vb_3 (by simp)
                have lt_vb_6 := Nat.lt_of_lt_of_le lt_vb_3 hG6.size
                clear vb_3 lt_vb_3
                have one_6 := rng_moved one_3 hG6 lt_one_3 (by simp)
                have lt_one_6 := Nat.lt_of_lt_of_le lt_one_3 hG6.size
                clear one_3 lt_one_3
                go_wp2_with fail
                refine hK.out _ _ hS6 (fun hHeld => ?_)
                clear hK K
                try simp only [c8a6, Act.put, s1, s2, s3]
                refine wpAnyH_ready (rs := [7]) (by kernel_rfl) (by simp) ?_
                refine AllReadyH.cons (o := c8a7) rfl (fun K hK => ?_) AllReadyH.nil
                rw [if_pos (by rfl)]
                refine wp_alloc26 (by rfl) ?_
                intro g7 W7 hle7 hlt7 hG7 va_7
                have le_g7 := Nat.le_trans hHeld.below.size hle7
                have hS7 := Kept.moved hHeld hG7 (fun _ h => by cases h)
                have ne_g8_g7 : g8 ≠ g7 := by have := lt_vb_6; have := hle7; omega
                have vb_7 := Arr.moved vb_6 hG7 lt_vb_6 (by simp)
                have lt_vb_7 := Nat.lt_of_lt_of_le lt_vb_6 hG7.size
                clear vb_6 lt_vb_6
                have ne_g5_g7 : g5 ≠ g7 := by have := lt_one_6; have := hle7; omega
                have one_7 := rng_moved one_6 hG7 lt_one_6 (by simp)
                have lt_one_7 := Nat.lt_of_lt_of_le lt_one_6 hG7.size
                clear one_6 lt_one_6
                refine hK.out _ _ hS7 (fun hHeld => ?_)
                clear hK K
                try simp only [c8a7, Act.put, s1, s2, s3]
                refine wpAnyH_ready (rs := [9]) (by kernel_rfl) (by simp) ?_
                refine AllReadyH.cons (o := c8a9) rfl (fun K hK => ?_) AllReadyH.nil
                rw [if_pos (by rfl)]
                refine wp_st26 (.tmp 7) (.tmp 25) (by rfl) g7 ca _ (by rfl) (by rfl) va_7 (by rw [HLA.out]; rfl) HZA.out HOA.out ?_
                intro W9 hG9 va_9
                have hS9 := Kept.moved hHeld hG9 (fun k hk => by cases hk; exact le_g7)
                have vb_9 := Arr.moved vb_7 hG9 lt_vb_7 (by simpa using ne_g8_g7)
                have lt_vb_9 := Nat.lt_of_lt_of_le lt_vb_7 hG9.size
                have one_9 := rng_moved one_7 hG9 lt_one_7 (by simpa using ne_g5_g7)
                have lt_one_9 := Nat.lt_of_lt_of_le lt_one_7 hG9.size
                have lt_va_9 := Nat.lt_of_lt_of_le hlt7 hG9.size
                clear vb_7
                clear one_7
                clear va_7
                refine hK.out _ _ hS9 (fun hHeld => ?_)
                clear hK K
                try simp only [c8a9, Act.put]
                refine wpAnyH_ready (rs := [10]) (by kernel_rfl) (by simp) ?_
                refine AllReadyH.cons (o := c8a10) rfl (fun K hK => ?_) AllReadyH.nil
                rw [if_pos (by rfl)]
                refine wp_st26 (.tmp 8) (.tmp 28) (by rfl) g8 cb _ (by rfl) (by rfl) vb_9 (by rw [HLB.out]; rfl) HZB.out HOB.out ?_
                intro W10 hG10 vb_10
                have hS10 := Kept.moved hHeld hG10 (fun k hk => by cases hk; exact le_g8)
                have one_10 := rng_moved one_9 hG10 lt_one_9 (by simpa using (Ne.symm ne_g8_g5))
                have lt_one_10 := Nat.lt_of_lt_of_le lt_one_9 hG10.size
                have va_10 := Arr.moved va_9 hG10 lt_va_9 (by simpa using (Ne.symm ne_g8_g7))
                have lt_va_10 := Nat.lt_of_lt_of_le lt_va_9 hG10.size
                have lt_vb_10 := Nat.lt_of_lt_of_le lt_vb_9 hG10.size
                clear vb_9
                clear one_9
                clear va_9
                refine hK.out _ _ hS10 (fun hHeld => ?_)
                clear hK K
                try simp only [c8a10, Act.put]
                refine wpAnyH_done (by kernel_rfl) ?_ _
                go_wp2_with fail
                go_meet
                exact ⟨_, _, rfl, rfl, hHeld, va_10, vb_10, lt_va_10, lt_vb_10⟩
              · skip
                rw [if_pos (by rfl)]
                refine wp_alloc26 (by rfl) ?_
                intro g7 W7 hle7 hlt7 hG7 va_7
                have le_g7 := Nat.le_trans hHeld.below.size hle7
                have hS7 := Kept.moved hHeld hG7 (fun _ h => by cases h)
                have ne_g8_g7 : g8 ≠ g7 := by have := lt_vb_3; have := hle7; omega
                have vb_7 := Arr.moved vb_3 hG7 lt_vb_3 (by simp)
                have lt_vb_7 := Nat.lt_of_lt_of_le lt_vb_3 hG7.size
                clear vb_3 lt_vb_3
                have ne_g5_g7 : g5 ≠ g7 := by have := lt_one_3; have := hle7; omega
                have one_7 := rng_moved one_3 hG7 lt_one_3 (by simp)
                have lt_one_7 := Nat.lt_of_lt_of_le lt_one_3 hG7.size
                clear one_3 lt_one_3
                refine hK.out _ _ hS7 (fun hHeld => ?_)
                clear hK K
                try simp only [c8a7, Act.put, s1, s2, s3]
                refine wpAnyH_ready (rs := [6]) (by kernel_rfl) (by simp) ?_
                refine AllReadyH.cons (o := c8a6) rfl (fun K hK => ?_) AllReadyH.nil
                rw [if_pos (by rfl)]
                unfold c8a6
                go_simp
                (with_reducible refine (HTL.out _ _ hHeld one_7 lt_one_7).mono ?_)
                rintro e W6 ⟨rfl, hB6⟩
                have hG6 := gbelow (row := none) hB6
                have hS6 := Kept.moved hHeld hG6 (fun _ h => by cases h)
                have vb_6 := Arr.moved vb_7 hG6 lt_vb_7 (by simp)
                have lt_vb_6 := Nat.lt_of_lt_of_le lt_vb_7 hG6.size
                clear vb_7 lt_vb_7
                have one_6 := rng_moved one_7 hG6 lt_one_7 (by simp)
                have lt_one_6 := Nat.lt_of_lt_of_le lt_one_7 hG6.size
                clear one_7 lt_one_7
                have va_6 := Arr.moved va_7 hG6 hlt7 (by simp)
                have lt_va_6 := Nat.lt_of_lt_of_le hlt7 hG6.size
                clear va_7 hlt7
                go_wp2_with fail
                refine hK.out _ _ hS6 (fun hHeld => ?_)
                clear hK K
                try simp only [c8a6, Act.put, s1, s2, s3]
                refine wpAnyH_ready (rs := [9]) (by kernel_rfl) (by simp) ?_
                refine AllReadyH.cons (o := c8a9) rfl (fun K hK => ?_) AllReadyH.nil
                rw [if_pos (by rfl)]
                refine wp_st26 (.tmp 7) (.tmp 25) (by rfl) g7 ca _ (by rfl) (by rfl) va_6 (by rw [HLA.out]; rfl) HZA.out HOA.out ?_
                intro W9 hG9 va_9
                have hS9 := Kept.moved hHeld hG9 (fun k hk => by cases hk; exact le_g7)
                have vb_9 := Arr.moved vb_6 hG9 lt_vb_6 (by simpa using ne_g8_g7)
                have lt_vb_9 := Nat.lt_of_lt_of_le lt_vb_6 hG9.size
                have one_9 := rng_moved one_6 hG9 lt_one_6 (by simpa using ne_g5_g7)
                have lt_one_9 := Nat.lt_of_lt_of_le lt_one_6 hG9.size
                have lt_va_9 := Nat.lt_of_lt_of_le lt_va_6 hG9.size
                clear vb_6
                clear one_6
                clear va_6
                refine hK.out _ _ hS9 (fun hHeld => ?_)
                clear hK K
                try simp only [c8a9, Act.put]
                refine wpAnyH_ready (rs := [10]) (by kernel_rfl) (by simp) ?_
                refine AllReadyH.cons (o := c8a10) rfl (fun K hK => ?_) AllReadyH.nil
                rw [if_pos (by rfl)]
                refine wp_st26 (.tmp 8) (.tmp 28) (by rfl) g8 cb _ (by rfl) (by rfl) vb_9 (by rw [HLB.out]; rfl) HZB.out HOB.out ?_
                intro W10 hG10 vb_10
                have hS10 := Kept.moved hHeld hG10 (fun k hk => by cases hk; exact le_g8)
                have one_10 := rng_moved one_9 hG10 lt_one_9 (by simpa using (Ne.symm ne_g8_g5))
                have lt_one_10 := Nat.lt_of_lt_of_le lt_one_9 hG10.size
                have va_10 := Arr.moved va_9 hG10 lt_va_9 (by simpa using (Ne.symm ne_g8_g7))
                have lt_va_10 := Nat.lt_of_lt_of_le lt_va_9 hG10.size
                have lt_vb_10 := Nat.lt_of_lt_of_le lt_vb_9 hG10.size
                clear vb_9
                clear one_9
                clear va_9
                refine hK.out _ _ hS10 (fun hHeld => ?_)
                clear hK K
                try simp only [c8a10, Act.put]
                refine wpAnyH_done (by kernel_rfl) ?_ _
                go_wp2_with fail
                go_meet
                exact ⟨_, _, rfl, rfl, hHeld, va_10, vb_10, lt_va_10, lt_vb_10⟩
            · skip
              rw [if_pos (by rfl)]
              refine wp_alloc26 (by rfl) ?_
              intro g7 W7 hle7 hlt7 hG7 va_7
              have le_g7 := Nat.le_trans hHeld.below.size hle7
              have hS7 := Kept.moved hHeld hG7 (fun _ h => by cases h)
              have ne_g8_g7 : g8 ≠ g7 := by have := lt_vb_5; have := hle7; omega
              have vb_7 := Arr.moved vb_5 hG7 lt_vb_5 (by simp)
              have lt_vb_7 := Nat.lt_of_lt_of_le lt_vb_5 hG7.size
              clear vb_5 lt_vb_5
              have ne_g5_g7 : g5 ≠ g7 := by have := hlt5; have := hle7; omega
              have one_7 := rng_moved one_5 hG7 hlt5 (by simp)
              have lt_one_7 := Nat.lt_of_lt_of_le hlt5 hG7.size
              clear one_5 hlt5
              refine hK.out _ _ hS7 (fun hHeld => ?_)
              clear hK K
              try simp only [c8a7, Act.put, s1, s2, s3]
              refine wpAnyH_ready (rs := [3]) (by kernel_rfl) (by simp) ?_
              refine AllReadyH.cons (o := c8a3) rfl (fun K hK => ?_) AllReadyH.nil
              rw [if_pos (by rfl)]
              unfold c8a3
              go_simp
              (with_reducible refine (HTA.out _ hHeld).mono ?_)
              rintro e W3 ⟨rfl, hB3⟩
              have hG3 := gbelow (row := none) hB3
              have hS3 := Kept.moved hHeld hG3 (fun _ h => by cases h)
              have vb_3 := Arr.moved vb_7 hG3 lt_vb_7 (by simp)
              have lt_vb_3 := Nat.lt_of_lt_of_le lt_vb_7 hG3.size
              clear vb_7 lt_vb_7
              have one_3 := rng_moved one_7 hG3 lt_one_7 (by simp)
              have lt_one_3 := Nat.lt_of_lt_of_le lt_one_7 hG3.size
              clear one_7 lt_one_7
              have va_3 := Arr.moved va_7 hG3 hlt7 (by simp)
              have lt_va_3 := Nat.lt_of_lt_of_le hlt7 hG3.size
              clear va_7 hlt7
              go_wp2_with fail
              refine hK.out _ _ hS3 (fun hHeld => ?_)
              clear hK K
              try simp only [c8a3, Act.put, s1, s2, s3]
              refine wpAnyH_ready (rs := [6]) (by kernel_rfl) (by simp) ?_
              refine AllReadyH.cons (o := c8a6) rfl (fun K hK => ?_) AllReadyH.nil
              rw [if_pos (by rfl)]
              unfold c8a6
              go_simp
              (with_reducible refine (HTL.out _ _ hHeld one_3 lt_one_3).mono ?_)
              rintro e W6 ⟨rfl, hB6⟩
              have hG6 := gbelow (row := none) hB6
              have hS6 := Kept.moved hHeld hG6 (fun _ h => by cases h)
              have vb_6 := Arr.moved vb_3 hG6 lt_vb_3 (by simp)
              have lt_vb_6 := Nat.lt_of_lt_of_le lt_vb_3 hG6.size
              clear vb_3 lt_vb_3
              have one_6 := rng_moved one_3 hG6 lt_one_3 (by simp)
              have lt_one_6 := Nat.lt_of_lt_of_le lt_one_3 hG6.size
              clear one_3 lt_one_3
              have va_6 := Arr.moved va_3 hG6 lt_va_3 (by simp)
              have lt_va_6 := Nat.lt_of_lt_of_le lt_va_3 hG6.size
              clear va_3 lt_va_3
              go_wp2_with fail
              refine hK.out _ _ hS6 (fun hHeld => ?_)
              clear hK K
              try simp only [c8a6, Act.put, s1, s2, s3]
              refine wpAnyH_ready (rs := [9]) (by kernel_rfl) (by simp) ?_
              refine AllReadyH.cons (o := c8a9) rfl (fun K hK => ?_) AllReadyH.nil
              rw [if_pos (by rfl)]
              refine wp_st26 (.tmp 7) (.tmp 25) (by rfl) g7 ca _ (by rfl) (by rfl) va_6 (by rw [HLA.out]; rfl) HZA.out HOA.out ?_
              intro W9 hG9 va_9
              have hS9 := Kept.moved hHeld hG9 (fun k hk => by cases hk; exact le_g7)
              have vb_9 := Arr.moved vb_6 hG9 lt_vb_6 (by simpa using ne_g8_g7)
              have lt_vb_9 := Nat.lt_of_lt_of_le lt_vb_6 hG9.size
              have one_9 := rng_moved one_6 hG9 lt_one_6 (by simpa using ne_g5_g7)
              have lt_one_9 := Nat.lt_of_lt_of_le lt_one_6 hG9.size
              have lt_va_9 := Nat.lt_of_lt_of_le lt_va_6 hG9.size
              clear vb_6
              clear one_6
              clear va_6
              refine hK.out _ _ hS9 (fun hHeld => ?_)
              clear hK K
              try simp only [c8a9, Act.put]
              refine wpAnyH_ready (rs := [10]) (by kernel_rfl) (by simp) ?_
              refine AllReadyH.cons (o := c8a10) rfl (fun K hK => ?_) AllReadyH.nil
              rw [if_pos (by rfl)]
              refine wp_st26 (.tmp 8) (.tmp 28) (by rfl) g8 cb _ (by rfl) (by rfl) vb_9 (by rw [HLB.out]; rfl) HZB.out HOB.out ?_
              intro W10 hG10 vb_10
              have hS10 := Kept.moved hHeld hG10 (fun k hk => by cases hk; exact le_g8)
              have one_10 := rng_moved one_9 hG10 lt_one_9 (by simpa using (Ne.symm ne_g8_g5))
              have lt_one_10 := Nat.lt_of_lt_of_le lt_one_9 hG10.size
              have va_10 := Arr.moved va_9 hG10 lt_va_9 (by simpa using (Ne.symm ne_g8_g7))
              have lt_va_10 := Nat.lt_of_lt_of_le lt_va_9 hG10.size
              have lt_vb_10 := Nat.lt_of_lt_of_le lt_vb_9 hG10.size
              clear vb_9
              clear one_9
              clear va_9
              refine hK.out _ _ hS10 (fun hHeld => ?_)
              clear hK K
              try simp only [c8a10, Act.put]
              refine wpAnyH_done (by kernel_rfl) ?_ _
              go_wp2_with fail
              go_meet
              exact ⟨_, _, rfl, rfl, hHeld, va_10, vb_10, lt_va_10, lt_vb_10⟩
          · skip
            rw [if_pos (by rfl)]
            refine wp_alloc26 (by rfl) ?_
            intro g7 W7 hle7 hlt7 hG7 va_7
            have le_g7 := Nat.le_trans hHeld.below.size hle7
            have hS7 := Kept.moved hHeld hG7 (fun _ h => by cases h)
            have ne_g8_g7 : g8 ≠ g7 := by have := hlt8; have := hle7; omega
            have vb_7 := Arr.moved vb_8 hG7 hlt8 (by simp)
            have lt_vb_7 := Nat.lt_of_lt_of_le hlt8 hG7.size
            clear vb_8 hlt8
            refine hK.out _ _ hS7 (fun hHeld => ?_)
            clear hK K
            try simp only [c8a7, Act.put, s1, s2, s3]
            refine wpAnyH_ready (rs := [3, 5]) (by kernel_rfl) (by simp) ?_
            refine AllReadyH.cons (o := c8a3) rfl (fun K hK => ?_) (AllReadyH.cons (o := c8a5) rfl (fun K hK => ?_) AllReadyH.nil)
            · skip
              rw [if_pos (by rfl)]
              unfold c8a3
              go_simp
              (with_reducible refine (HTA.out _ hHeld).mono ?_)
              rintro e W3 ⟨rfl, hB3⟩
              have hG3 := gbelow (row := none) hB3
              have hS3 := Kept.moved hHeld hG3 (fun _ h => by cases h)
              have vb_3 := Arr.moved vb_7 hG3 lt_vb_7 (by simp)
              have lt_vb_3 := Nat.lt_of_lt_of_le lt_vb_7 hG3.size
              clear vb_7 lt_vb_7
              have va_3 := Arr.moved va_7 hG3 hlt7 (by simp)
              have lt_va_3 := Nat.lt_of_lt_of_le hlt7 hG3.size
              clear va_7 hlt7
              go_wp2_with fail
              refine hK.out _ _ hS3 (fun hHeld => ?_)
              clear hK K
              try simp only [c8a3, Act.put, s1, s2, s3]
              refine wpAnyH_ready (rs := [5]) (by kernel_rfl) (by simp) ?_
              refine AllReadyH.cons (o := c8a5) rfl (fun K hK => ?_) AllReadyH.nil
              rw [if_pos (by rfl)]
              refine wp_one30 (.tmp 26) (by rfl) cd (by rfl) HLD.out ?_
              intro g5 W5 hle5 hlt5 hG5 one_5
              have hS5 := Kept.moved hHeld hG5 (fun _ h => by cases h)
              have ne_g8_g5 : g8 ≠ g5 := by have := lt_vb_3; have := hle5; omega
              have vb_5 := Arr.moved vb_3 hG5 lt_vb_3 (by simp)
              have lt_vb_5 := Nat.lt_of_lt_of_le lt_vb_3 hG5.size
              clear vb_3 lt_vb_3
              have ne_g7_g5 : g7 ≠ g5 := by have := lt_va_3; have := hle5; omega
              have va_5 := Arr.moved va_3 hG5 lt_va_3 (by simp)
              have lt_va_5 := Nat.lt_of_lt_of_le lt_va_3 hG5.size
              clear va_3 lt_va_3
              refine hK.out _ _ hS5 (fun hHeld => ?_)
              clear hK K
              try simp only [c8a5, Act.put, s1, s2, s3]
              refine wpAnyH_ready (rs := [6]) (by kernel_rfl) (by simp) ?_
              refine AllReadyH.cons (o := c8a6) rfl (fun K hK => ?_) AllReadyH.nil
              rw [if_pos (by rfl)]
              unfold c8a6
              go_simp
              (with_reducible refine (HTL.out _ _ hHeld one_5 hlt5).mono ?_)
              rintro e W6 ⟨rfl, hB6⟩
              have hG6 := gbelow (row := none) hB6
              have hS6 := Kept.moved hHeld hG6 (fun _ h => by cases h)
              have vb_6 := Arr.moved vb_5 hG6 lt_vb_5 (by simp)
              have lt_vb_6 := Nat.lt_of_lt_of_le lt_vb_5 hG6.size
              clear vb_5 lt_vb_5
              have va_6 := Arr.moved va_5 hG6 lt_va_5 (by simp)
              have lt_va_6 := Nat.lt_of_lt_of_le lt_va_5 hG6.size
              clear va_5 lt_va_5
              have one_6 := rng_moved one_5 hG6 hlt5 (by simp)
              have lt_one_6 := Nat.lt_of_lt_of_le hlt5 hG6.size
              clear one_5 hlt5
              go_wp2_with fail
              refine hK.out _ _ hS6 (fun hHeld => ?_)
              clear hK K
              try simp only [c8a6, Act.put, s1, s2, s3]
              refine wpAnyH_ready (rs := [9]) (by kernel_rfl) (by simp) ?_
              refine AllReadyH.cons (o := c8a9) rfl (fun K hK => ?_) AllReadyH.nil
              rw [if_pos (by rfl)]
              refine wp_st26 (.tmp 7) (.tmp 25) (by rfl) g7 ca _ (by rfl) (by rfl) va_6 (by rw [HLA.out]; rfl) HZA.out HOA.out ?_
              intro W9 hG9 va_9
              have hS9 := Kept.moved hHeld hG9 (fun k hk => by cases hk; exact le_g7)
              have vb_9 := Arr.moved vb_6 hG9 lt_vb_6 (by simpa using ne_g8_g7)
              have lt_vb_9 := Nat.lt_of_lt_of_le lt_vb_6 hG9.size
              have one_9 := rng_moved one_6 hG9 lt_one_6 (by simpa using (Ne.symm ne_g7_g5))
              have lt_one_9 := Nat.lt_of_lt_of_le lt_one_6 hG9.size
              have lt_va_9 := Nat.lt_of_lt_of_le lt_va_6 hG9.size
              clear vb_6
              clear va_6
              clear one_6
              refine hK.out _ _ hS9 (fun hHeld => ?_)
              clear hK K
              try simp only [c8a9, Act.put]
              refine wpAnyH_ready (rs := [10]) (by kernel_rfl) (by simp) ?_
              refine AllReadyH.cons (o := c8a10) rfl (fun K hK => ?_) AllReadyH.nil
              rw [if_pos (by rfl)]
              refine wp_st26 (.tmp 8) (.tmp 28) (by rfl) g8 cb _ (by rfl) (by rfl) vb_9 (by rw [HLB.out]; rfl) HZB.out HOB.out ?_
              intro W10 hG10 vb_10
              have hS10 := Kept.moved hHeld hG10 (fun k hk => by cases hk; exact le_g8)
              have va_10 := Arr.moved va_9 hG10 lt_va_9 (by simpa using (Ne.symm ne_g8_g7))
              have lt_va_10 := Nat.lt_of_lt_of_le lt_va_9 hG10.size
              have one_10 := rng_moved one_9 hG10 lt_one_9 (by simpa using (Ne.symm ne_g8_g5))
              have lt_one_10 := Nat.lt_of_lt_of_le lt_one_9 hG10.size
              have lt_vb_10 := Nat.lt_of_lt_of_le lt_vb_9 hG10.size
              clear vb_9
              clear va_9
              clear one_9
              refine hK.out _ _ hS10 (fun hHeld => ?_)
              clear hK K
              try simp only [c8a10, Act.put]
              refine wpAnyH_done (by kernel_rfl) ?_ _
              go_wp2_with fail
              go_meet
              exact ⟨_, _, rfl, rfl, hHeld, va_10, vb_10, lt_va_10, lt_vb_10⟩
            · skip
              rw [if_pos (by rfl)]
              refine wp_one30 (.tmp 26) (by rfl) cd (by rfl) HLD.out ?_
              intro g5 W5 hle5 hlt5 hG5 one_5
              have hS5 := Kept.moved hHeld hG5 (fun _ h => by cases h)
              have ne_g8_g5 : g8 ≠ g5 := by have := lt_vb_7; have := hle5; omega
              have vb_5 := Arr.moved vb_7 hG5 lt_vb_7 (by simp)
              have lt_vb_5 := Nat.lt_of_lt_of_le lt_vb_7 hG5.size
              clear vb_7 lt_vb_7
              have ne_g7_g5 : g7 ≠ g5 := by have := hlt7; have := hle5; omega
              have va_5 := Arr.moved va_7 hG5 hlt7 (by simp)
              have lt_va_5 := Nat.lt_of_lt_of_le hlt7 hG5.size
              clear va_7 hlt7
              refine hK.out _ _ hS5 (fun hHeld => ?_)
              clear hK K
              try simp only [c8a5, Act.put, s1, s2, s3]
              refine wpAnyH_ready (rs := [3]) (by kernel_rfl) (by simp) ?_
              refine AllReadyH.cons (o := c8a3) rfl (fun K hK => ?_) AllReadyH.nil
              rw [if_pos (by rfl)]
              unfold c8a3
              go_simp
              (with_reducible refine (HTA.out _ hHeld).mono ?_)
              rintro e W3 ⟨rfl, hB3⟩
              have hG3 := gbelow (row := none) hB3
              have hS3 := Kept.moved hHeld hG3 (fun _ h => by cases h)
              have vb_3 := Arr.moved vb_5 hG3 lt_vb_5 (by simp)
              have lt_vb_3 := Nat.lt_of_lt_of_le lt_vb_5 hG3.size
              clear vb_5 lt_vb_5
              have va_3 := Arr.moved va_5 hG3 lt_va_5 (by simp)
              have lt_va_3 := Nat.lt_of_lt_of_le lt_va_5 hG3.size
              clear va_5 lt_va_5
              have one_3 := rng_moved one_5 hG3 hlt5 (by simp)
              have lt_one_3 := Nat.lt_of_lt_of_le hlt5 hG3.size
              clear one_5 hlt5
              go_wp2_with fail
              refine hK.out _ _ hS3 (fun hHeld => ?_)
              clear hK K
              try simp only [c8a3, Act.put, s1, s2, s3]
              refine wpAnyH_ready (rs := [6]) (by kernel_rfl) (by simp) ?_
              refine AllReadyH.cons (o := c8a6) rfl (fun K hK => ?_) AllReadyH.nil
              rw [if_pos (by rfl)]
              unfold c8a6
              go_simp
              (with_reducible refine (HTL.out _ _ hHeld one_3 lt_one_3).mono ?_)
              rintro e W6 ⟨rfl, hB6⟩
              have hG6 := gbelow (row := none) hB6
              have hS6 := Kept.moved hHeld hG6 (fun _ h => by cases h)
              have vb_6 := Arr.moved vb_3 hG6 lt_vb_3 (by simp)
              have lt_vb_6 := Nat.lt_of_lt_of_le lt_vb_3 hG6.size
              clear vb_3 lt_vb_3
              have va_6 := Arr.moved va_3 hG6 lt_va_3 (by simp)
              have lt_va_6 := Nat.lt_of_lt_of_le lt_va_3 hG6.size
              clear va_3 lt_va_3
              have one_6 := rng_moved one_3 hG6 lt_one_3 (by simp)
              have lt_one_6 := Nat.lt_of_lt_of_le lt_one_3 hG6.size
              clear one_3 lt_one_3
              go_wp2_with fail
              refine hK.out _ _ hS6 (fun hHeld => ?_)
              clear hK K
              try simp only [c8a6, Act.put, s1, s2, s3]
              refine wpAnyH_ready (rs := [9]) (by kernel_rfl) (by simp) ?_
              refine AllReadyH.cons (o := c8a9) rfl (fun K hK => ?_) AllReadyH.nil
              rw [if_pos (by rfl)]
              refine wp_st26 (.tmp 7) (.tmp 25) (by rfl) g7 ca _ (by rfl) (by rfl) va_6 (by rw [HLA.out]; rfl) HZA.out HOA.out ?_
              intro W9 hG9 va_9
              have hS9 := Kept.moved hHeld hG9 (fun k hk => by cases hk; exact le_g7)
              have vb_9 := Arr.moved vb_6 hG9 lt_vb_6 (by simpa using ne_g8_g7)
              have lt_vb_9 := Nat.lt_of_lt_of_le lt_vb_6 hG9.size
              have one_9 := rng_moved one_6 hG9 lt_one_6 (by simpa using (Ne.symm ne_g7_g5))
              have lt_one_9 := Nat.lt_of_lt_of_le lt_one_6 hG9.size
              have lt_va_9 := Nat.lt_of_lt_of_le lt_va_6 hG9.size
              clear vb_6
              clear va_6
              clear one_6
              refine hK.out _ _ hS9 (fun hHeld => ?_)
              clear hK K
              try simp only [c8a9, Act.put]
              refine wpAnyH_ready (rs := [10]) (by kernel_rfl) (by simp) ?_
              refine AllReadyH.cons (o := c8a10) rfl (fun K hK => ?_) AllReadyH.nil
              rw [if_pos (by rfl)]
              refine wp_st26 (.tmp 8) (.tmp 28) (by rfl) g8 cb _ (by rfl) (by rfl) vb_9 (by rw [HLB.out]; rfl) HZB.out HOB.out ?_
              intro W10 hG10 vb_10
              have hS10 := Kept.moved hHeld hG10 (fun k hk => by cases hk; exact le_g8)
              have va_10 := Arr.moved va_9 hG10 lt_va_9 (by simpa using (Ne.symm ne_g8_g7))
              have lt_va_10 := Nat.lt_of_lt_of_le lt_va_9 hG10.size
              have one_10 := rng_moved one_9 hG10 lt_one_9 (by simpa using (Ne.symm ne_g8_g5))
              have lt_one_10 := Nat.lt_of_lt_of_le lt_one_9 hG10.size
              have lt_vb_10 := Nat.lt_of_lt_of_le lt_vb_9 hG10.size
              clear vb_9
              clear va_9
              clear one_9
              refine hK.out _ _ hS10 (fun hHeld => ?_)
              clear hK K
              try simp only [c8a10, Act.put]
              refine wpAnyH_done (by kernel_rfl) ?_ _
              go_wp2_with fail
              go_meet
              exact ⟨_, _, rfl, rfl, hHeld, va_10, vb_10, lt_va_10, lt_vb_10⟩
      case rest =>
        obtain ⟨b7, b8, rfl, rfl, hKA, hA7, hA8, hl7, hl8⟩ := hcut
        obtain ⟨wA, rfl⟩ : ∃ x : World, x = wc := ⟨_, rfl⟩
        have HKA := Lib.hid hKA
        have HA7 := Lib.hid hA7
        have HA8 := Lib.hid hA8
        have HRE := Lib.hid (fun W (hW : Kept wA W) => HRD.out W (hKA.next hW.below))
        have HPL := Lib.hid (fun W (hW : Kept wA W) => HPLR.out W (hKA.next hW.below))
        clear hKA hA7 hA8
        go_wp2_with fail
        go_cut [9] (fun s9 wx => ∃ g c : Nat, s9 = .slice (some ⟨g, 0, none⟩) (n + 1) c ∧ Kept wA wx ∧ wx.ownsRow wA.heap.size 26 32 (.slice (some ⟨g, 0, none⟩) (n + 1) c) (n + 1) (flat tk ++ cd))
        case first =>
          refine wp_region_held_drew (S := fun W => Kept wA W) (by kernel_rfl) ((Kept.refl wA).drew) (fun hHeld => ?_)
          refine wpAnyH_take (i := 1) (oi := c8b1) (v := ?_) rfl (by kernel_rfl) (by kernel_rfl) (by kernel_rfl) (fun _ _ _ h => h) (Or.inl ⟨by rfl, ?_⟩) hHeld ?_
          rotate_left
          · (intro w hSw; (try dsimp only at hSw); unfold c8b1; go_simp <;> with_reducible rfl)
          try simp only [c8b1, Act.put, s1, s2, s3]
          refine wpAnyH_take (i := 2) (oi := c8b2) (v := ?_) rfl (by kernel_rfl) (by kernel_rfl) (by kernel_rfl) (fun _ _ _ h => h) (Or.inl ⟨by rfl, ?_⟩) hHeld ?_
          rotate_left
          · (intro w hSw; (try dsimp only at hSw); unfold c8b2; go_simp <;> with_reducible rfl)
          try simp only [c8b2, Act.put, s1, s2, s3]
          refine wpAnyH_take (i := 3) (oi := c8b3) (v := ?_) rfl (by kernel_rfl) (by kernel_rfl) (by kernel_rfl) (fun _ _ _ h => h) (Or.inl ⟨by rfl, ?_⟩) hHeld ?_
          rotate_left
          · (intro w hSw; (try dsimp only at hSw); unfold c8b3; go_simp <;> with_reducible rfl)
          try simp only [c8b3, Act.put, s1, s2, s3]
          refine wpAnyH_take (i := 5) (oi := c8b5) rfl (by kernel_rfl) (by kernel_rfl) (by kernel_rfl) (fun _ _ _ h => h) (yieldsIf_load_mid (by rfl) 26 (.tmp 3) (by rfl) w.heap.size 0 (by rfl) cd _ (fun W h => HRE.out W h) Tryd.underlying26 rfl HZD.out) hHeld ?_
          try simp only [c8b5, Act.put, s1, s2, s3]
          refine wpAnyH_ready (rs := [0, 6]) (by kernel_rfl) (by simp) ?_
          refine AllReadyH.cons (o := c8b0) rfl (fun K hK => ?_) (AllReadyH.cons (o := c8b6) rfl (fun K hK => ?_) AllReadyH.nil)
          · skip
            rw [if_pos (by rfl)]
            refine wp_new30 (by rfl) ?_
            intro g0 W0 hle0 hlt0 hG0 hn0
            have row_0 := hn0 wA.heap.size hHeld.below.size
            clear hn0
            have hS0 := Kept.moved hHeld hG0 (fun _ h => by cases h)
            refine hK.out _ _ hS0 (fun hHeld => ?_)
            clear hK K
            try simp only [c8b0, Act.put, s1, s2, s3]
            refine wpAnyH_ready (rs := [4, 6]) (by kernel_rfl) (by simp) ?_
            refine AllReadyH.cons (o := c8b4) rfl (fun K hK => ?_) (AllReadyH.cons (o := c8b6) rfl (fun K hK => ?_) AllReadyH.nil)
            · skip
              rw [if_pos (by rfl)]
              refine wp_piece 30 26 i0 _ 32 32 Tryd.underlying30 HI.out HZ0.out HZ1.out HZ2.out (by simp [Value.cells]) (by omega) (.tmp 29) (.tmp 32) (by rfl) (base := wA.heap.size) (by rfl) row_0 (by rfl) (HPL.out _ hHeld) HFL.out HFO.out (by unfold maxLen; omega) (by omega) hHeld.below.size (n) (by omega) (flat tk) (by simp) ?_
              intro hb4 g4 c4 W4 row_4 hG4 hat4
              have hS4 := Kept.moved hHeld hG4 (fun k hk => by cases hk; exact hb4)
              clear row_0
              have lt_row_4 := (row_4.lt g4 rfl).2
              refine hK.out _ _ hS4 (fun hHeld => ?_)
              clear hK K
              try simp only [c8b4, Act.put, s1, s2, s3]
              refine wpAnyH_ready (rs := [6]) (by kernel_rfl) (by simp) ?_
              refine AllReadyH.cons (o := c8b6) rfl (fun K hK => ?_) AllReadyH.nil
              rw [if_pos (by rfl)]
              refine wp_one30 (.tmp 34) (by rfl) cd (by rfl) HLD.out ?_
              intro g6 W6 hle6 hlt6 hG6 one_6
              have hS6 := Kept.moved hHeld hG6 (fun _ h => by cases h)
              have ne_g4_g6 : g4 ≠ g6 := by have := lt_row_4; have := hle6; omega
              have row_6 := own_moved row_4 hG6  (by simp)
              have lt_row_6 := Nat.lt_of_lt_of_le lt_row_4 hG6.size
              clear row_4 lt_row_4
              refine hK.out _ _ hS6 (fun hHeld => ?_)
              clear hK K
              try simp only [c8b6, Act.put, s1, s2, s3]
              refine wpAnyH_ready (rs := [7]) (by kernel_rfl) (by simp) ?_
              refine AllReadyH.cons (o := c8b7) rfl (fun K hK => ?_) AllReadyH.nil
              rw [if_pos (by rfl)]
              refine wp_piece 30 26 i0 _ 32 32 Tryd.underlying30 HI.out HZ0.out HZ1.out HZ2.out (by simp [Value.cells]) (by omega) (.tmp 33) (.tmp 35) (by rfl) (base := wA.heap.size) (by rfl) row_6 (by rfl) (piece_row one_6) (by rw [HLD.out]) HOD.out (by unfold maxLen; omega) (by omega) hHeld.below.size (n + 1) (by omega) (flat tk ++ cd) (rfl) ?_
              intro hb7 g7 c7 W7 row_7 hG7 hat7
              have hS7 := Kept.moved hHeld hG7 (fun k hk => by cases hk; exact hb7)
              have one_7 := rng_moved one_6 hG7 hlt6 (by simpa using (Ne.symm ne_g4_g6))
              have lt_one_7 := Nat.lt_of_lt_of_le hlt6 hG7.size
              have ne_g6_g7 : g6 ≠ g7 := by have := (Ne.symm ne_g4_g6); have := hlt6; rcases hat7 with h | h <;> omega
              clear row_6
              clear one_6
              have lt_row_7 := (row_7.lt g7 rfl).2
              refine hK.out _ _ hS7 (fun hHeld => ?_)
              clear hK K
              try simp only [c8b7, Act.put, s1, s2, s3]
              refine wpAnyH_ready (rs := [8]) (by kernel_rfl) (by simp) ?_
              refine AllReadyH.cons (o := c8b8) rfl (fun K hK => ?_) AllReadyH.nil
              rw [if_pos (by rfl)]
              unfold c8b8
              go_simp
              refine hK.out _ _ hHeld (fun hHeld => ?_)
              clear hK K
              try simp only [c8b8, Act.put, s1, s2, s3]
              refine wpAnyH_done (by kernel_rfl) ?_ _
              go_wp2_with fail
              go_meet
              exact ⟨_, _, rfl, hHeld, row_7⟩
            · skip
              rw [if_pos (by rfl)]
              refine wp_one30 (.tmp 34) (by rfl) cd (by rfl) HLD.out ?_
              intro g6 W6 hle6 hlt6 hG6 one_6
              have hS6 := Kept.moved hHeld hG6 (fun _ h => by cases h)
              have ne_g0_g6 : g0 ≠ g6 := by have := hlt0; have := hle6; omega
              have row_6 := own_moved row_0 hG6  (by simp)
              have lt_row_6 := Nat.lt_of_lt_of_le hlt0 hG6.size
              clear row_0 hlt0
              refine hK.out _ _ hS6 (fun hHeld => ?_)
              clear hK K
              try simp only [c8b6, Act.put, s1, s2, s3]
              refine wpAnyH_ready (rs := [4]) (by kernel_rfl) (by simp) ?_
              refine AllReadyH.cons (o := c8b4) rfl (fun K hK => ?_) AllReadyH.nil
              rw [if_pos (by rfl)]
              refine wp_piece 30 26 i0 _ 32 32 Tryd.underlying30 HI.out HZ0.out HZ1.out HZ2.out (by simp [Value.cells]) (by omega) (.tmp 29) (.tmp 32) (by rfl) (base := wA.heap.size) (by rfl) row_6 (by rfl) (HPL.out _ hHeld) HFL.out HFO.out (by unfold maxLen; omega) (by omega) hHeld.below.size (n) (by omega) (flat tk) (by simp) ?_
              intro hb4 g4 c4 W4 row_4 hG4 hat4
              have hS4 := Kept.moved hHeld hG4 (fun k hk => by cases hk; exact hb4)
              have one_4 := rng_moved one_6 hG4 hlt6 (by simpa using (Ne.symm ne_g0_g6))
              have lt_one_4 := Nat.lt_of_lt_of_le hlt6 hG4.size
              have ne_g6_g4 : g6 ≠ g4 := by have := (Ne.symm ne_g0_g6); have := hlt6; rcases hat4 with h | h <;> omega
              clear row_6
              clear one_6
              have lt_row_4 := (row_4.lt g4 rfl).2
              refine hK.out _ _ hS4 (fun hHeld => ?_)
              clear hK K
              try simp only [c8b4, Act.put, s1, s2, s3]
              refine wpAnyH_ready (rs := [7]) (by kernel_rfl) (by simp) ?_
              refine AllReadyH.cons (o := c8b7) rfl (fun K hK => ?_) AllReadyH.nil
              rw [if_pos (by rfl)]
              refine wp_piece 30 26 i0 _ 32 32 Tryd.underlying30 HI.out HZ0.out HZ1.out HZ2.out (by simp [Value.cells]) (by omega) (.tmp 33) (.tmp 35) (by rfl) (base := wA.heap.size) (by rfl) row_4 (by rfl) (piece_row one_4) (by rw [HLD.out]) HOD.out (by unfold maxLen; omega) (by omega) hHeld.below.size (n + 1) (by omega) (flat tk ++ cd) (rfl) ?_
              intro hb7 g7 c7 W7 row_7 hG7 hat7
              have hS7 := Kept.moved hHeld hG7 (fun k hk => by cases hk; exact hb7)
              have one_7 := rng_moved one_4 hG7 lt_one_4 (by simpa using ne_g6_g4)
              have lt_one_7 := Nat.lt_of_lt_of_le lt_one_4 hG7.size
              have ne_g6_g7 : g6 ≠ g7 := by have := ne_g6_g4; have := lt_one_4; rcases hat7 with h | h <;> omega
              clear row_4
              clear one_4
              have lt_row_7 := (row_7.lt g7 rfl).2
              refine hK.out _ _ hS7 (fun hHeld => ?_)
              clear hK K
              try simp only [c8b7, Act.put, s1, s2, s3]
              refine wpAnyH_ready (rs := [8]) (by kernel_rfl) (by simp) ?_
              refine AllReadyH.cons (o := c8b8) rfl (fun K hK => ?_) AllReadyH.nil
              rw [if_pos (by rfl)]
              unfold c8b8
              go_simp
              refine hK.out _ _ hHeld (fun hHeld => ?_)
              clear hK K
              try simp only [c8b8, Act.put, s1, s2, s3]
              refine wpAnyH_done (by kernel_rfl) ?_ _
              go_wp2_with fail
              go_meet
              exact ⟨_, _, rfl, hHeld, row_7⟩
          · skip
            rw [if_pos (by rfl)]
            refine wp_one30 (.tmp 34) (by rfl) cd (by rfl) HLD.out ?_
            intro g6 W6 hle6 hlt6 hG6 one_6
            have hS6 := Kept.moved hHeld hG6 (fun _ h => by cases h)
            refine hK.out _ _ hS6 (fun hHeld => ?_)
            clear hK K
            try simp only [c8b6, Act.put, s1, s2, s3]
            refine wpAnyH_ready (rs := [0]) (by kernel_rfl) (by simp) ?_
            refine AllReadyH.cons (o := c8b0) rfl (fun K hK => ?_) AllReadyH.nil
            rw [if_pos (by rfl)]
            refine wp_new30 (by rfl) ?_
            intro g0 W0 hle0 hlt0 hG0 hn0
            have row_0 := hn0 wA.heap.size hHeld.below.size
            clear hn0
            have hS0 := Kept.moved hHeld hG0 (fun _ h => by cases h)
            have ne_g6_g0 : g6 ≠ g0 := by have := hlt6; have := hle0; omega
            have one_0 := rng_moved one_6 hG0 hlt6 (by simp)
            have lt_one_0 := Nat.lt_of_lt_of_le hlt6 hG0.size
            clear one_6 hlt6
            refine hK.out _ _ hS0 (fun hHeld => ?_)
            clear hK K
            try simp only [c8b0, Act.put, s1, s2, s3]
            refine wpAnyH_ready (rs := [4]) (by kernel_rfl) (by simp) ?_
            refine AllReadyH.cons (o := c8b4) rfl (fun K hK => ?_) AllReadyH.nil
            rw [if_pos (by rfl)]
            refine wp_piece 30 26 i0 _ 32 32 Tryd.underlying30 HI.out HZ0.out HZ1.out HZ2.out (by simp [Value.cells]) (by omega) (.tmp 29) (.tmp 32) (by rfl) (base := wA.heap.size) (by rfl) row_0 (by rfl) (HPL.out _ hHeld) HFL.out HFO.out (by unfold maxLen; omega) (by omega) hHeld.below.size (n) (by omega) (flat tk) (by simp) ?_
            intro hb4 g4 c4 W4 row_4 hG4 hat4
            have hS4 := Kept.moved hHeld hG4 (fun k hk => by cases hk; exact hb4)
            have one_4 := rng_moved one_0 hG4 lt_one_0 (by simpa using ne_g6_g0)
            have lt_one_4 := Nat.lt_of_lt_of_le lt_one_0 hG4.size
            have ne_g6_g4 : g6 ≠ g4 := by have := ne_g6_g0; have := lt_one_0; rcases hat4 with h | h <;> omega
            clear one_0
            clear row_0
            have lt_row_4 := (row_4.lt g4 rfl).2
            refine hK.out _ _ hS4 (fun hHeld => ?_)
            clear hK K
            try simp only [c8b4, Act.put, s1, s2, s3]
            refine wpAnyH_ready (rs := [7]) (by kernel_rfl) (by simp) ?_
            refine AllReadyH.cons (o := c8b7) rfl (fun K hK => ?_) AllReadyH.nil
            rw [if_pos (by rfl)]
            refine wp_piece 30 26 i0 _ 32 32 Tryd.underlying30 HI.out HZ0.out HZ1.out HZ2.out (by simp [Value.cells]) (by omega) (.tmp 33) (.tmp 35) (by rfl) (base := wA.heap.size) (by rfl) row_4 (by rfl) (piece_row one_4) (by rw [HLD.out]) HOD.out (by unfold maxLen; omega) (by omega) hHeld.below.size (n + 1) (by omega) (flat tk ++ cd) (rfl) ?_
            intro hb7 g7 c7 W7 row_7 hG7 hat7
            have hS7 := Kept.moved hHeld hG7 (fun k hk => by cases hk; exact hb7)
            have one_7 := rng_moved one_4 hG7 lt_one_4 (by simpa using ne_g6_g4)
            have lt_one_7 := Nat.lt_of_lt_of_le lt_one_4 hG7.size
            have ne_g6_g7 : g6 ≠ g7 := by have := ne_g6_g4; have := lt_one_4; rcases hat7 with h | h <;> omega
            clear one_4
            clear row_4
            have lt_row_7 := (row_7.lt g7 rfl).2
            refine hK.out _ _ hS7 (fun hHeld => ?_)
            clear hK K
            try simp only [c8b7, Act.put, s1, s2, s3]
            refine wpAnyH_ready (rs := [8]) (by kernel_rfl) (by simp) ?_
            refine AllReadyH.cons (o := c8b8) rfl (fun K hK => ?_) AllReadyH.nil
            rw [if_pos (by rfl)]
            unfold c8b8
            go_simp
            refine hK.out _ _ hHeld (fun hHeld => ?_)
            clear hK K
            try simp only [c8b8, Act.put, s1, s2, s3]
            refine wpAnyH_done (by kernel_rfl) ?_ _
            go_wp2_with fail
            go_meet
            exact ⟨_, _, rfl, hHeld, row_7⟩
        case rest =>
          obtain ⟨g9, c9, rfl, hKB, hO9⟩ := hcut
          obtain ⟨wB, rfl⟩ : ∃ x : World, x = wc := ⟨_, rfl⟩
          have HKB := Lib.hid (HKA.out.next hKB.below)
          have HL9 := Lib.hid (HLONG.out wB _ g9 c9 hO9)
          have hl7' : b7 < wB.heap.size := by have := hKB.below.size; omega
          have hl8' : b8 < wB.heap.size := by have := hKB.below.size; omega
          have HB7 := Lib.hid (HA7.out.below hKB.below hl7)
          have HB8 := Lib.hid (HA8.out.below hKB.below hl8)
          clear hKB hO9
          go_wp2_with fail
          refine (HPA.out wB g9 c9 HKB.out HL9.out).mono ?_
          rintro e wD ⟨pv, rfl, hO, hBD⟩
          obtain ⟨gp, cp, rfl, _, hlp⟩ := hO.form (by omega)
          have hKD : Kept wr wD := HKB.out.next hBD
          have HKD := Lib.hid hKD
          have HBB := Lib.hid (HBR.out.trans (hKD.below.mono HBR.out.size))
          have HLD2 := Lib.hid ((HL9.out.below hBD).mono hBD.size)
          have HC7 := HB7.out.below hBD hl7'
          have HC8 := HB8.out.below hBD hl8'
          have hs := hBD.size
          have HR7 := Lib.hid (fun W (hW : Kept wD W) => (HC7.below hW.below (by omega)).at_)
          have HP7 := Lib.hid (fun W (hW : Kept wD W) => (piece_row (n := 32) (c := 32) ((HC7.below hW.below (by omega)).at_) : Piece W (.slice (some ⟨b7, 0, none⟩) 32 32) 32 ca))
          have HP8 := Lib.hid (fun W (hW : Kept wD W) => (piece_row (n := 32) (c := 32) ((HC8.below hW.below (by omega)).at_) : Piece W (.slice (some ⟨b8, 0, none⟩) 32 32) 32 cb))
          have hrp : ∀ j v, ca[j]? = some v → wD.cell? ⟨gp, 0 + j, none⟩ = some v := fun j v hv => by
            have := @World.ownsRow.cells _ _ _ _ _ _ _ hO gp rfl j v hv
            rwa [Addr.add_mid] at this
          have HRP := Lib.hid (fun W (hW : Kept wD W) => (fun j v hv => (hW.below.cell (p := ⟨gp, 0 + j, none⟩) hlp).trans (hrp j v hv) : W.rangeAt gp 0 ca))
          have HTC := Lib.hid (fun W (hW : Kept wD W) => HTCC.out W g9 c9 (hKD.next hW.below) ((HLD2.out.below hW.below).mono hW.below.size))
          have HTG := Lib.hid (fun W g c (hW : Kept wD W) (hO : W.ownsRow wD.heap.size 5 1 (.slice (some ⟨g, 0, none⟩) 64 c) 64 (ca ++ cb)) => HTN.out W _ g c (hKD.next hW.below) hO)
          have hq1 := HEQ1.out
          have hq2 := HEQ2.out
          have hg26 := HGT.out
          clear hO hBD hKD HC7 HC8 hrp hs hd1 f1 f2 f3
          go_wp2_with fail
          refine wp_region_held_drew (S := fun W => Kept wD W) (by kernel_rfl) ((Kept.refl wD).drew) (fun hHeld => ?_)
          refine wpAnyH_take (i := 0) (oi := c8c0) (v := ?_) rfl (by kernel_rfl) (by kernel_rfl) (by kernel_rfl) (fun _ _ _ h => h) (Or.inl ⟨by rfl, ?_⟩) hHeld ?_
          rotate_left
          · (intro w hSw; (try dsimp only at hSw); unfold c8c0; go_simp <;> with_reducible rfl)
          try simp only [c8c0, Act.put, s1, s2, s3]
          refine wpAnyH_take (i := 3) (oi := c8c3) (v := ?_) rfl (by kernel_rfl) (by kernel_rfl) (by kernel_rfl) (fun _ _ _ h => h) (Or.inl ⟨by rfl, ?_⟩) hHeld ?_
          rotate_left
          · (intro w hSw; (try dsimp only at hSw); unfold c8c3; go_simp <;> with_reducible rfl)
          try simp only [c8c3, Act.put, s1, s2, s3]
          refine wpAnyH_take (i := 5) (oi := c8c5) (v := ?_) rfl (by kernel_rfl) (by kernel_rfl) (by kernel_rfl) (fun _ _ _ h => h) (Or.inl ⟨by rfl, ?_⟩) hHeld ?_
          rotate_left
          · (intro w hSw; (try dsimp only at hSw); unfold c8c5; go_simp <;> with_reducible rfl)
          try simp only [c8c5, Act.put, s1, s2, s3]
          refine wpAnyH_ready (rs := [1, 2]) (by kernel_rfl) (by simp) ?_
          refine AllReadyH.cons (o := c8c1) rfl (fun K hK => ?_) (AllReadyH.cons (o := c8c2) rfl (fun K hK => ?_) AllReadyH.nil)
          · skip
            rw [if_pos (by rfl)]
            unfold c8c1
            go_simp
            (with_reducible refine (HTC.out _ hHeld).mono ?_)
            rintro e W1 ⟨rfl, hB1⟩
            have hG1 := gbelow (row := none) hB1
            have hS1 := Kept.moved hHeld hG1 (fun _ h => by cases h)
            go_wp2_with fail
            refine hK.out _ _ hS1 (fun hHeld => ?_)
            clear hK K
            try simp only [c8c1, Act.put, s1, s2, s3]
            refine wpAnyH_ready (rs := [2]) (by kernel_rfl) (by simp) ?_
            refine AllReadyH.cons (o := c8c2) rfl (fun K hK => ?_) AllReadyH.nil
            rw [if_pos (by rfl)]
            refine wp_new22 (by rfl) ?_
            intro g2 W2 hle2 hlt2 hG2 hn2
            have row_2 := hn2 wD.heap.size hHeld.below.size
            clear hn2
            have hS2 := Kept.moved hHeld hG2 (fun _ h => by cases h)
            refine hK.out _ _ hS2 (fun hHeld => ?_)
            clear hK K
            try simp only [c8c2, Act.put, s1, s2, s3]
            refine wpAnyH_ready (rs := [4]) (by kernel_rfl) (by simp) ?_
            refine AllReadyH.cons (o := c8c4) rfl (fun K hK => ?_) AllReadyH.nil
            rw [if_pos (by rfl)]
            refine wp_piece 22 5 j0 _ 1 1 Tryd.underlying22 HJ.out HY0.out HY1.out HY2.out rfl (by omega) (.tmp 45) (.tmp 46) (by rfl) (base := wD.heap.size) (by rfl) row_2 (by rfl) (HP7.out _ hHeld) (by rw [HLA.out]) HOA.out (by unfold maxLen; omega) (by omega) hHeld.below.size (32) (rfl) (ca) (by simp) ?_
            intro hb4 g4 c4 W4 row_4 hG4 hat4
            have hS4 := Kept.moved hHeld hG4 (fun k hk => by cases hk; exact hb4)
            clear row_2
            have lt_row_4 := (row_4.lt g4 rfl).2
            refine hK.out _ _ hS4 (fun hHeld => ?_)
            clear hK K
            try simp only [c8c4, Act.put, s1, s2, s3]
            refine wpAnyH_ready (rs := [6]) (by kernel_rfl) (by simp) ?_
            refine AllReadyH.cons (o := c8c6) rfl (fun K hK => ?_) AllReadyH.nil
            rw [if_pos (by rfl)]
            refine wp_piece 22 5 j0 _ 1 1 Tryd.underlying22 HJ.out HY0.out HY1.out HY2.out rfl (by omega) (.tmp 47) (.tmp 48) (by rfl) (base := wD.heap.size) (by rfl) row_4 (by rfl) (HP8.out _ hHeld) (by rw [HLB.out]) HOB.out (by unfold maxLen; omega) (by omega) hHeld.below.size (64) (rfl) (ca ++ cb) (rfl) ?_
            intro hb6 g6 c6 W6 row_6 hG6 hat6
            have hS6 := Kept.moved hHeld hG6 (fun k hk => by cases hk; exact hb6)
            clear row_4
            have lt_row_6 := (row_6.lt g6 rfl).2
            refine hK.out _ _ hS6 (fun hHeld => ?_)
            clear hK K
            try simp only [c8c6, Act.put, s1, s2, s3]
            refine wpAnyH_ready (rs := [7]) (by kernel_rfl) (by simp) ?_
            refine AllReadyH.cons (o := c8c7) rfl (fun K hK => ?_) AllReadyH.nil
            rw [if_pos (by rfl)]
            unfold c8c7
            go_simp
            (with_reducible refine (HTG.out _ _ _ hHeld row_6).mono ?_)
            rintro e W7 ⟨rfl, hB7⟩
            have hG7 := gbelow (row := none) hB7
            have hS7 := Kept.moved hHeld hG7 (fun _ h => by cases h)
            have row_7 := own_moved row_6 hG7  (by simp)
            have lt_row_7 := Nat.lt_of_lt_of_le lt_row_6 hG7.size
            clear row_6 lt_row_6
            go_wp2_with fail
            refine hK.out _ _ hS7 (fun hHeld => ?_)
            clear hK K
            try simp only [c8c7, Act.put, s1, s2, s3]
            refine wpAnyH_ready (rs := [8]) (by kernel_rfl) (by simp) ?_
            refine AllReadyH.cons (o := c8c8) rfl (fun K hK => ?_) AllReadyH.nil
            rw [if_pos (by rfl)]
            unfold c8c8
            go_simp
            refine hK.out _ _ hHeld (fun hHeld => ?_)
            clear hK K
            try simp only [c8c8, Act.put, s1, s2, s3]
            refine wpAnyH_take (i := 9) (oi := c8c9) (v := ?_) rfl (by kernel_rfl) (by kernel_rfl) (by kernel_rfl) (fun _ _ _ h => h) (Or.inl ⟨by rfl, ?_⟩) hHeld ?_
            rotate_left
            · (intro w hSw; (try dsimp only at hSw); unfold c8c9; go_simp <;> with_reducible rfl)
            try simp only [c8c9, Act.put, s1, s2, s3]
            refine wpAnyH_take (i := 10) (oi := c8c10) (v := ?_) rfl (by kernel_rfl) (by kernel_rfl) (by kernel_rfl) (fun _ _ _ h => h) (Or.inl ⟨by rfl, ?_⟩) hHeld ?_
            rotate_left
            · (intro w hSw; (try dsimp only at hSw); unfold c8c10; go_simp <;> with_reducible rfl)
            try simp only [c8c10, Act.put, s1, s2, s3]
            refine wpAnyH_take (i := 11) (oi := c8c11) (v := ?_) rfl (by kernel_rfl) (by kernel_rfl) (by kernel_rfl) (fun _ _ _ h => h) (Or.inl ⟨by rfl, ?_⟩) hHeld ?_
            rotate_left
            · (intro w hSw; (try dsimp only at hSw); unfold c8c11; go_simp <;> with_reducible rfl)
            try simp only [c8c11, Act.put, s1, s2, s3]
            refine wpAnyH_take (i := 12) (oi := c8c12) (v := ?_) rfl (by kernel_rfl) (by kernel_rfl) (by kernel_rfl) (fun _ _ _ h => h) (Or.inl ⟨by rfl, ?_⟩) hHeld ?_
            rotate_left
            · (intro w hSw; (try dsimp only at hSw); unfold c8c12; go_simp <;> with_reducible rfl)
            try simp only [c8c12, Act.put, s1, s2, s3]
            refine wpAnyH_take (i := 13) (oi := c8c13) (v := ?_) rfl (by kernel_rfl) (by kernel_rfl) (by kernel_rfl) (fun _ _ _ h => h) (Or.inl ⟨by rfl, ?_⟩) hHeld ?_
            rotate_left
            · (intro w hSw; (try dsimp only at hSw); unfold c8c13; go_simp <;> with_reducible rfl)
            try simp only [c8c13, Act.put, s1, s2, s3]
            refine wpAnyH_take (i := 14) (oi := c8c14) (v := ?_) rfl (by kernel_rfl) (by kernel_rfl) (by kernel_rfl) (fun _ _ _ h => h) (Or.inl ⟨by rfl, ?_⟩) hHeld ?_
            rotate_left
            · (intro w hSw; (try dsimp only at hSw); unfold c8c14; go_simp <;> with_reducible rfl)
            try simp only [c8c14, Act.put, s1, s2, s3]
            refine wpAnyH_take (i := 15) (oi := c8c15) (v := ?_) rfl (by kernel_rfl) (by kernel_rfl) (by kernel_rfl) (fun _ _ _ h => h) (Or.inl ⟨by rfl, ?_⟩) hHeld ?_
            rotate_left
            · (intro w hSw; (try dsimp only at hSw); unfold c8c15; go_simp <;> with_reducible rfl)
            try simp only [c8c15, Act.put, s1, s2, s3]
            refine wpAnyH_take (i := 16) (oi := c8c16) (v := ?_) rfl (by kernel_rfl) (by kernel_rfl) (by kernel_rfl) (fun _ _ _ h => h) (Or.inl ⟨by rfl, ?_⟩) hHeld ?_
            rotate_left
            · (intro w hSw; (try dsimp only at hSw); unfold c8c16; go_simp <;> with_reducible rfl)
            try simp only [c8c16, Act.put, s1, s2, s3]
            refine wpAnyH_take (i := 17) (oi := c8c17) (v := ?_) rfl (by kernel_rfl) (by kernel_rfl) (by kernel_rfl) (fun _ _ _ h => h) (Or.inl ⟨by rfl, ?_⟩) hHeld ?_
            rotate_left
            · (intro w hSw; (try dsimp only at hSw); unfold c8c17; go_simp <;> with_reducible rfl)
            try simp only [c8c17, Act.put, s1, s2, s3]
            refine wpAnyH_take (i := 18) (oi := c8c18) (v := ?_) rfl (by kernel_rfl) (by kernel_rfl) (by kernel_rfl) (fun _ _ _ h => h) (Or.inl ⟨by rfl, ?_⟩) hHeld ?_
            rotate_left
            · (intro w hSw; (try dsimp only at hSw); unfold c8c18; go_simp <;> with_reducible rfl)
            try simp only [c8c18, Act.put, s1, s2, s3]
            refine wpAnyH_take (i := 19) (oi := c8c19) (v := ?_) rfl (by kernel_rfl) (by kernel_rfl) (by kernel_rfl) (fun _ _ _ h => h) (Or.inl ⟨by rfl, ?_⟩) hHeld ?_
            rotate_left
            · (intro w hSw; (try dsimp only at hSw); unfold c8c19; go_simp <;> with_reducible rfl)
            try simp only [c8c19, Act.put, s1, s2, s3]
            refine wpAnyH_take (i := 20) (oi := c8c20) (v := ?_) rfl (by kernel_rfl) (by kernel_rfl) (by kernel_rfl) (fun _ _ _ h => h) (Or.inl ⟨by rfl, ?_⟩) hHeld ?_
            rotate_left
            · (intro w hSw; (try dsimp only at hSw); unfold c8c20; go_simp <;> with_reducible rfl)
            try simp only [c8c20, Act.put, s1, s2, s3]
            refine wpAnyH_take (i := 21) (oi := c8c21) rfl (by kernel_rfl) (by kernel_rfl) (by kernel_rfl) (fun _ _ _ h => h) (yieldsIf_load_mid (by rfl) 26 (.tmp 63) (by rfl) gp 0 (by rfl) ca _ (fun W h => HRP.out W h) Tryd.underlying26 rfl HZA.out) hHeld ?_
            try simp only [c8c21, Act.put, s1, s2, s3]
            refine wpAnyH_take (i := 22) (oi := c8c22) rfl (by kernel_rfl) (by kernel_rfl) (by kernel_rfl) (fun _ _ _ h => h) (yieldsIf_load_mid (by rfl) 26 (.tmp 7) (by rfl) b7 0 (by rfl) ca _ (fun W h => HR7.out W h) Tryd.underlying26 rfl HZA.out) hHeld ?_
            try simp only [c8c22, Act.put, s1, s2, s3]
            refine wpAnyH_take (i := 23) (oi := c8c23) (v := ?_) rfl (by kernel_rfl) (by kernel_rfl) (by kernel_rfl) (fun _ _ _ h => h) (Or.inl ⟨by rfl, ?_⟩) hHeld ?_
            rotate_left
            · (intro w hSw; (try dsimp only at hSw); unfold c8c23; go_simp <;> with_reducible rfl)
            try simp only [c8c23, Act.put, s1, s2, s3]
            refine wpAnyH_take (i := 24) (oi := c8c24) (v := ?_) rfl (by kernel_rfl) (by kernel_rfl) (by kernel_rfl) (fun _ _ _ h => h) (Or.inl ⟨by rfl, ?_⟩) hHeld ?_
            rotate_left
            · (intro w hSw; (try dsimp only at hSw); unfold c8c24; go_simp <;> with_reducible rfl)
            try simp only [c8c24, Act.put, s1, s2, s3]
            refine wpAnyH_done (by kernel_rfl) ?_ _
            have HK := Lib.hid hHeld
            clear hHeld
            go_wp2
            go_roundw
            case rel => exact ⟨n * 2, j + 1, by simp, by rw [Nat.pow_succ, ← HNJ.out], HBB.out.trans (HK.out.below.mono HBB.out.size)⟩
            case measure => simp [intOf]; omega
          · skip
            rw [if_pos (by rfl)]
            refine wp_new22 (by rfl) ?_
            intro g2 W2 hle2 hlt2 hG2 hn2
            have row_2 := hn2 wD.heap.size hHeld.below.size
            clear hn2
            have hS2 := Kept.moved hHeld hG2 (fun _ h => by cases h)
            refine hK.out _ _ hS2 (fun hHeld => ?_)
            clear hK K
            try simp only [c8c2, Act.put, s1, s2, s3]
            refine wpAnyH_ready (rs := [1]) (by kernel_rfl) (by simp) ?_
            refine AllReadyH.cons (o := c8c1) rfl (fun K hK => ?_) AllReadyH.nil
            rw [if_pos (by rfl)]
            unfold c8c1
            go_simp
            (with_reducible refine (HTC.out _ hHeld).mono ?_)
            rintro e W1 ⟨rfl, hB1⟩
            have hG1 := gbelow (row := none) hB1
            have hS1 := Kept.moved hHeld hG1 (fun _ h => by cases h)
            have row_1 := own_moved row_2 hG1  (by simp)
            have lt_row_1 := Nat.lt_of_lt_of_le hlt2 hG1.size
            clear row_2 hlt2
            go_wp2_with fail
            refine hK.out _ _ hS1 (fun hHeld => ?_)
            clear hK K
            try simp only [c8c1, Act.put, s1, s2, s3]
            refine wpAnyH_ready (rs := [4]) (by kernel_rfl) (by simp) ?_
            refine AllReadyH.cons (o := c8c4) rfl (fun K hK => ?_) AllReadyH.nil
            rw [if_pos (by rfl)]
            refine wp_piece 22 5 j0 _ 1 1 Tryd.underlying22 HJ.out HY0.out HY1.out HY2.out rfl (by omega) (.tmp 45) (.tmp 46) (by rfl) (base := wD.heap.size) (by rfl) row_1 (by rfl) (HP7.out _ hHeld) (by rw [HLA.out]) HOA.out (by unfold maxLen; omega) (by omega) hHeld.below.size (32) (rfl) (ca) (by simp) ?_
            intro hb4 g4 c4 W4 row_4 hG4 hat4
            have hS4 := Kept.moved hHeld hG4 (fun k hk => by cases hk; exact hb4)
            clear row_1
            have lt_row_4 := (row_4.lt g4 rfl).2
            refine hK.out _ _ hS4 (fun hHeld => ?_)
            clear hK K
            try simp only [c8c4, Act.put, s1, s2, s3]
            refine wpAnyH_ready (rs := [6]) (by kernel_rfl) (by simp) ?_
            refine AllReadyH.cons (o := c8c6) rfl (fun K hK => ?_) AllReadyH.nil
            rw [if_pos (by rfl)]
            refine wp_piece 22 5 j0 _ 1 1 Tryd.underlying22 HJ.out HY0.out HY1.out HY2.out rfl (by omega) (.tmp 47) (.tmp 48) (by rfl) (base := wD.heap.size) (by rfl) row_4 (by rfl) (HP8.out _ hHeld) (by rw [HLB.out]) HOB.out (by unfold maxLen; omega) (by omega) hHeld.below.size (64) (rfl) (ca ++ cb) (rfl) ?_
            intro hb6 g6 c6 W6 row_6 hG6 hat6
            have hS6 := Kept.moved hHeld hG6 (fun k hk => by cases hk; exact hb6)
            clear row_4
            have lt_row_6 := (row_6.lt g6 rfl).2
            refine hK.out _ _ hS6 (fun hHeld => ?_)
            clear hK K
            try simp only [c8c6, Act.put, s1, s2, s3]
            refine wpAnyH_ready (rs := [7]) (by kernel_rfl) (by simp) ?_
            refine AllReadyH.cons (o := c8c7) rfl (fun K hK => ?_) AllReadyH.nil
            rw [if_pos (by rfl)]
            unfold c8c7
            go_simp
            (with_reducible refine (HTG.out _ _ _ hHeld row_6).mono ?_)
            rintro e W7 ⟨rfl, hB7⟩
            have hG7 := gbelow (row := none) hB7
            have hS7 := Kept.moved hHeld hG7 (fun _ h => by cases h)
            have row_7 := own_moved row_6 hG7  (by simp)
            have lt_row_7 := Nat.lt_of_lt_of_le lt_row_6 hG7.size
            clear row_6 lt_row_6
            go_wp2_with fail
            refine hK.out _ _ hS7 (fun hHeld => ?_)
            clear hK K
            try simp only [c8c7, Act.put, s1, s2, s3]
            refine wpAnyH_ready (rs := [8]) (by kernel_rfl) (by simp) ?_
            refine AllReadyH.cons (o := c8c8) rfl (fun K hK => ?_) AllReadyH.nil
            rw [if_pos (by rfl)]
            unfold c8c8
            go_simp
            refine hK.out _ _ hHeld (fun hHeld => ?_)
            clear hK K
            try simp only [c8c8, Act.put, s1, s2, s3]
            refine wpAnyH_take (i := 9) (oi := c8c9) (v := ?_) rfl (by kernel_rfl) (by kernel_rfl) (by kernel_rfl) (fun _ _ _ h => h) (Or.inl ⟨by rfl, ?_⟩) hHeld ?_
            rotate_left
            · (intro w hSw; (try dsimp only at hSw); unfold c8c9; go_simp <;> with_reducible rfl)
            try simp only [c8c9, Act.put, s1, s2, s3]
            refine wpAnyH_take (i := 10) (oi := c8c10) (v := ?_) rfl (by kernel_rfl) (by kernel_rfl) (by kernel_rfl) (fun _ _ _ h => h) (Or.inl ⟨by rfl, ?_⟩) hHeld ?_
            rotate_left
            · (intro w hSw; (try dsimp only at hSw); unfold c8c10; go_simp <;> with_reducible rfl)
            try simp only [c8c10, Act.put, s1, s2, s3]
            refine wpAnyH_take (i := 11) (oi := c8c11) (v := ?_) rfl (by kernel_rfl) (by kernel_rfl) (by kernel_rfl) (fun _ _ _ h => h) (Or.inl ⟨by rfl, ?_⟩) hHeld ?_
            rotate_left
            · (intro w hSw; (try dsimp only at hSw); unfold c8c11; go_simp <;> with_reducible rfl)
            try simp only [c8c11, Act.put, s1, s2, s3]
            refine wpAnyH_take (i := 12) (oi := c8c12) (v := ?_) rfl (by kernel_rfl) (by kernel_rfl) (by kernel_rfl) (fun _ _ _ h => h) (Or.inl ⟨by rfl, ?_⟩) hHeld ?_
            rotate_left
            · (intro w hSw; (try dsimp only at hSw); unfold c8c12; go_simp <;> with_reducible rfl)
            try simp only [c8c12, Act.put, s1, s2, s3]
            refine wpAnyH_take (i := 13) (oi := c8c13) (v := ?_) rfl (by kernel_rfl) (by kernel_rfl) (by kernel_rfl) (fun _ _ _ h => h) (Or.inl ⟨by rfl, ?_⟩) hHeld ?_
            rotate_left
            · (intro w hSw; (try dsimp only at hSw); unfold c8c13; go_simp <;> with_reducible rfl)
            try simp only [c8c13, Act.put, s1, s2, s3]
            refine wpAnyH_take (i := 14) (oi := c8c14) (v := ?_) rfl (by kernel_rfl) (by kernel_rfl) (by kernel_rfl) (fun _ _ _ h => h) (Or.inl ⟨by rfl, ?_⟩) hHeld ?_
            rotate_left
            · (intro w hSw; (try dsimp only at hSw); unfold c8c14; go_simp <;> with_reducible rfl)
            try simp only [c8c14, Act.put, s1, s2, s3]
            refine wpAnyH_take (i := 15) (oi := c8c15) (v := ?_) rfl (by kernel_rfl) (by kernel_rfl) (by kernel_rfl) (fun _ _ _ h => h) (Or.inl ⟨by rfl, ?_⟩) hHeld ?_
            rotate_left
            · (intro w hSw; (try dsimp only at hSw); unfold c8c15; go_simp <;> with_reducible rfl)
            try simp only [c8c15, Act.put, s1, s2, s3]
            refine wpAnyH_take (i := 16) (oi := c8c16) (v := ?_) rfl (by kernel_rfl) (by kernel_rfl) (by kernel_rfl) (fun _ _ _ h => h) (Or.inl ⟨by rfl, ?_⟩) hHeld ?_
            rotate_left
            · (intro w hSw; (try dsimp only at hSw); unfold c8c16; go_simp <;> with_reducible rfl)
            try simp only [c8c16, Act.put, s1, s2, s3]
            refine wpAnyH_take (i := 17) (oi := c8c17) (v := ?_) rfl (by kernel_rfl) (by kernel_rfl) (by kernel_rfl) (fun _ _ _ h => h) (Or.inl ⟨by rfl, ?_⟩) hHeld ?_
            rotate_left
            · (intro w hSw; (try dsimp only at hSw); unfold c8c17; go_simp <;> with_reducible rfl)
            try simp only [c8c17, Act.put, s1, s2, s3]
            refine wpAnyH_take (i := 18) (oi := c8c18) (v := ?_) rfl (by kernel_rfl) (by kernel_rfl) (by kernel_rfl) (fun _ _ _ h => h) (Or.inl ⟨by rfl, ?_⟩) hHeld ?_
            rotate_left
            · (intro w hSw; (try dsimp only at hSw); unfold c8c18; go_simp <;> with_reducible rfl)
            try simp only [c8c18, Act.put, s1, s2, s3]
            refine wpAnyH_take (i := 19) (oi := c8c19) (v := ?_) rfl (by kernel_rfl) (by kernel_rfl) (by kernel_rfl) (fun _ _ _ h => h) (Or.inl ⟨by rfl, ?_⟩) hHeld ?_
            rotate_left
            · (intro w hSw; (try dsimp only at hSw); unfold c8c19; go_simp <;> with_reducible rfl)
            try simp only [c8c19, Act.put, s1, s2, s3]
            refine wpAnyH_take (i := 20) (oi := c8c20) (v := ?_) rfl (by kernel_rfl) (by kernel_rfl) (by kernel_rfl) (fun _ _ _ h => h) (Or.inl ⟨by rfl, ?_⟩) hHeld ?_
            rotate_left
            · (intro w hSw; (try dsimp only at hSw); unfold c8c20; go_simp <;> with_reducible rfl)
            try simp only [c8c20, Act.put, s1, s2, s3]
            refine wpAnyH_take (i := 21) (oi := c8c21) rfl (by kernel_rfl) (by kernel_rfl) (by kernel_rfl) (fun _ _ _ h => h) (yieldsIf_load_mid (by rfl) 26 (.tmp 63) (by rfl) gp 0 (by rfl) ca _ (fun W h => HRP.out W h) Tryd.underlying26 rfl HZA.out) hHeld ?_
            try simp only [c8c21, Act.put, s1, s2, s3]
            refine wpAnyH_take (i := 22) (oi := c8c22) rfl (by kernel_rfl) (by kernel_rfl) (by kernel_rfl) (fun _ _ _ h => h) (yieldsIf_load_mid (by rfl) 26 (.tmp 7) (by rfl) b7 0 (by rfl) ca _ (fun W h => HR7.out W h) Tryd.underlying26 rfl HZA.out) hHeld ?_
            try simp only [c8c22, Act.put, s1, s2, s3]
            refine wpAnyH_take (i := 23) (oi := c8c23) (v := ?_) rfl (by kernel_rfl) (by kernel_rfl) (by kernel_rfl) (fun _ _ _ h => h) (Or.inl ⟨by rfl, ?_⟩) hHeld ?_
            rotate_left
            · (intro w hSw; (try dsimp only at hSw); unfold c8c23; go_simp <;> with_reducible rfl)
            try simp only [c8c23, Act.put, s1, s2, s3]
            refine wpAnyH_take (i := 24) (oi := c8c24) (v := ?_) rfl (by kernel_rfl) (by kernel_rfl) (by kernel_rfl) (fun _ _ _ h => h) (Or.inl ⟨by rfl, ?_⟩) hHeld ?_
            rotate_left
            · (intro w hSw; (try dsimp only at hSw); unfold c8c24; go_simp <;> with_reducible rfl)
            try simp only [c8c24, Act.put, s1, s2, s3]
            refine wpAnyH_done (by kernel_rfl) ?_ _
            have HK := Lib.hid hHeld
            clear hHeld
            go_wp2
            go_roundw
            case rel => exact ⟨n * 2, j + 1, by simp, by rw [Nat.pow_succ, ← HNJ.out], HBB.out.trans (HK.out.below.mono HBB.out.size)⟩
            case measure => simp [intOf]; omega
    · have hd1 : decide (n ≤ q) = false := by simpa using hle
      have HBW := Lib.hid (HB1.out.trans (hB.mono HB1.out.size))
      clear hB
      go_wp2
      go_ret
      exact ⟨rfl, HBW.out⟩
end Go.Proofs.YtnddejhbncgchaaDoor
