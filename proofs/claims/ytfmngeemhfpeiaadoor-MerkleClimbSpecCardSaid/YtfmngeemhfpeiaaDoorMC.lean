/- chain: links as data; number, bytesValue, text. chain: plain facts on the texts of links. No program is walked here. chain.linkText: the text of a link. chain.Head. Equality of digests; bytes.Equal; chain.isNode, belongsTo, same. -/
import Derived.Test.YtfmngeemhfpeiaaDoorMB
import Derived.Test.YtfmngeemhfpeiaaDoorML
import Derived.Lib.ConvBytes
import Derived.Lib.SlBytesRow
import Derived.DeepKeys3
namespace Go.Proofs.YtfmngeemhfpeiaaDoor
open Go.RowKit

theorem size_mk (bs : List UInt8) : (⟨bs.toArray⟩ : ByteArray).size = bs.length := by show bs.toArray.size = _; simp
theorem conv_bytes (W : World) (a : Option Addr) (bs : List UInt8) (cap : Nat) (h : bs = [] ∨ ∃ b off, a = some ⟨b, off, none⟩ ∧ ∀ i (h : i < bs.length), W.cell? ⟨b, off + i, none⟩ = some (.int .u8 (bs[i]).toNat)) :
    (convert 34 9 (.slice a bs.length cap)).run Tryd.prog W = .ok (.string ⟨bs.toArray⟩) W := by
  rcases h with h | ⟨b, off, rfl, h⟩
  · subst h
    rw [run_convert_bytes_string W 34 9 5 a _ _ Tryd.underlying34 Tryd.underlying5 Tryd.underlying9]
    cases a <;> simp [Conv.bytesToString, loadCells, loadCellsFrom] <;> rfl
  · have := Lib.run_convert_whole (P := Tryd.prog) W 34 5 9 Tryd.underlying34 Tryd.underlying5 Tryd.underlying9 b off ⟨bs.toArray⟩ (fun i hi => by rw [size_mk] at hi; exact h i hi) cap
    rw [size_mk] at this
    exact this

/-- A link. -/
structure Lk where
  node : Int
  no : Int
  prev : List UInt8
  data : List UInt8
deriving DecidableEq

def intV (n : Int) : K.V := ⟨1, n, ByteArray.empty, []⟩
def txtV (b : List UInt8) : K.V := ⟨2, 0, ⟨b.toArray⟩, []⟩
def lstV (l : List K.V) : K.V := ⟨3, 0, ByteArray.empty, l⟩
def linkV (x : Lk) : K.V := lstV [intV x.node, intV x.no, txtV x.prev, txtV x.data]
/-- The text of a link. -/
def txt (x : Lk) : List UInt8 := (linkV x).enc
def tNone : List UInt8 := [110, 111, 110, 101]
def tLink : List UInt8 := [108, 105, 110, 107]
/-- The head of a list of links. -/
def hd (l : List Lk) : List UInt8 := match l.getLast? with
  | none => tagged tNone []
  | some x => tagged tLink (txt x)
theorem hd_len (l : List Lk) : (hd l).length = 32 := by unfold hd; split <;> exact tagged_len _ _

abbrev vInt (n : Int) : Value := .agg #[.int .i64 1, .int .i64 n, .string ByteArray.empty, .slice none 0 0]
abbrev vTxt (s : ByteArray) : Value := .agg #[.int .i64 2, .int .i64 0, .string s, .slice none 0 0]

theorem number_any (n : Int) (w : World) : Calls Tryd.prog 89 #[.int .i64 n] w fun e w' => e = .returned (vInt n) ∧ Below w.heap.size w w' := by
  go_enter Tryd.func89, Tryd.ntmps89
  go_wp2
  go_returns
  exact ⟨rfl, by go_grown⟩

theorem bval_any (w : World) (v : Value) (b : List UInt8) (hv : BytesAt w w.heap.size v b) : Calls Tryd.prog 90 #[v] w fun e w' => e = .returned (vTxt ⟨b.toArray⟩) ∧ Below w.heap.size w w' := by
  obtain ⟨a, cap, rfl, h1, h2, h3⟩ := hv
  have hc := fun (W : World) (hB : Below w.heap.size w W) => conv_bytes W a b cap (by
    rcases h3 with h | ⟨db, off, rfl, h4, h5⟩
    · exact .inl h
    · exact .inr ⟨db, off, rfl, fun i hi => (hB.cell (p := ⟨db, off + i, none⟩) h4).trans (h5 i hi)⟩)
  obtain ⟨s, hs⟩ : ∃ s : ByteArray, (⟨b.toArray⟩ : ByteArray) = s := ⟨_, rfl⟩
  rw [hs] at hc ⊢
  obtain ⟨n, hn⟩ : ∃ n, b.length = n := ⟨_, rfl⟩
  rw [hn] at hc ⊢
  clear h1 h3 hs hn
  go_enter Tryd.func90, Tryd.ntmps90
  go_wp2_with (first | (rw [hc _ (by go_grown)]))
  go_returns
  exact ⟨rfl, by go_grown⟩

theorem text_any (w : World) (v : Value) (l : List K.V) (a : Option Addr) (cap : Nat) (hv : v = .slice a l.length cap) (h : K.V.At w w.heap.size (lstV l) (.agg #[.int .i64 3, .int .i64 0, .string ByteArray.empty, v])) (hk : (lstV l).chk = 0) (hd : (lstV l).dep ≤ 1000000) (hbd : (lstV l).enc.length ≤ 1000000000) :
    Calls Tryd.prog 88 #[v] w fun e w' => ∃ u, e = .returned u ∧ K.Made w (lstV l).enc u w' := by
  subst hv
  have he := K.encode_ok _ w w.heap.size _ hd (Nat.le_refl _) h hk hbd
  generalize (lstV l).enc = E at *
  clear h hk hd hbd
  go_enter Tryd.func88, Tryd.ntmps88
  go_wp2_with fail
  refine he.mono ?_
  rintro e w1 ⟨u, rfl, hM⟩
  obtain ⟨g, c, rfl, hM2⟩ := hM
  go_wp2_with fail
  go_returns
  exact ⟨_, rfl, g, c, rfl, hM2⟩
end Go.Proofs.YtfmngeemhfpeiaaDoor

namespace Go.Proofs.YtfmngeemhfpeiaaDoor
open Go.RowKit

/-- What of a link can lie in memory. -/
def Lk.ok (x : Lk) : Prop := x.prev.length = 32 ∧ K.In64 x.node ∧ K.In64 x.no ∧ x.data.length ≤ 70000

theorem toList_mk (b : List UInt8) : (⟨b.toArray⟩ : ByteArray).toList = b := by rw [ByteArray.toList_eq]
theorem txtV_inj {a b : List UInt8} (h : txtV a = txtV b) : a = b := by
  unfold txtV at h
  simpa using h
theorem linkV_formed (x : Lk) : (linkV x).formed = true := by
  simp [linkV, lstV, intV, txtV, K.V.formed, K.V.formeds, ByteArray.toList_eq]
theorem linkV_dep (x : Lk) : (linkV x).dep = 1 := by
  simp [linkV, lstV, intV, txtV, K.V.dep, K.V.deps]
theorem linkV_chk (x : Lk) : (linkV x).chk = 0 := K.chk_ok (linkV_formed x) (by rw [linkV_dep]; omega)
theorem linkV_fits (x : Lk) (h : x.ok) : K.V.fits (linkV x) := by
  obtain ⟨h1, h2, h3, h4⟩ := h
  simp [linkV, lstV, intV, txtV, K.V.fits, K.V.fitss, size_mk, h1, h2, h3]
  have i0 : K.In64 0 := by unfold K.In64; omega
  first | omega | exact ⟨i0, by omega⟩ | (refine ⟨?_, ?_⟩ <;> first | exact i0 | omega)
theorem num_small (u : Nat) (h : u < 18446744073709551616) : (K.num u).length ≤ 10 := K.num_len_le 9 u (by omega)
theorem txt_len (x : Lk) (h : x.ok) : (txt x).length ≤ 200 + x.data.length := by
  obtain ⟨h1, h2, h3, h4⟩ := h
  have a := num_small (K.zig x.node).toNat (by have := K.zig_range _ h2; omega)
  have b := num_small (K.zig x.no).toNat (by have := K.zig_range _ h3; omega)
  have c := num_small 32 (by omega)
  have d := num_small x.data.length (by omega)
  have e := num_small 4 (by omega)
  simp [txt, linkV, lstV, intV, txtV, K.V.enc, K.V.encs, size_mk, h1]
  omega
theorem txt_inj {x y : Lk} (hx : x.ok) (hy : y.ok) (h : txt x = txt y) : x = y := by
  have := K.enc_prefix (linkV_fits x hx) (linkV_fits y hy) (linkV_chk x) (linkV_chk y) [] [] (by rw [List.append_nil, List.append_nil]; exact h)
  obtain ⟨a, b, c, d⟩ := x
  obtain ⟨a', b', c', d'⟩ := y
  simp only [linkV, lstV, intV, txtV, K.V.mk.injEq, List.cons.injEq, true_and, and_true, ByteArray.mk.injEq] at this
  simp only [Lk.mk.injEq]
  simpa [and_assoc] using this
end Go.Proofs.YtfmngeemhfpeiaaDoor

namespace Go.Proofs.YtfmngeemhfpeiaaDoor
open Go.RowKit

theorem code_world {P : Program} {c : Code} {Q : Exit → Act → World → Prop} {a : Act} {w : World} (X : World → Prop) (hX : X w) (h : ∀ W, X W → c.wp P Q a W) : c.wp P Q a w := h w hX

/-- The cells of a link, whose data are the slice d. -/
def lcells (x : Lk) (d : Value) : List Value := .int .i64 x.node :: .int .i64 x.no :: (cells8 x.prev ++ [d])
/-- A value that is a link. -/
def LinkAt (w : World) (B : Nat) (v : Value) (x : Lk) : Prop := ∃ d, v = .agg (lcells x d).toArray ∧ BytesAt w B d x.data
theorem lcells_len (x : Lk) (d : Value) (h : x.prev.length = 32) : (lcells x d).length = 35 := by simp [lcells, cells8_len, h]
theorem lcells_0 (x : Lk) (d : Value) : (lcells x d)[0]? = some (.int .i64 x.node) := rfl
theorem lcells_1 (x : Lk) (d : Value) : (lcells x d)[1]? = some (.int .i64 x.no) := rfl
theorem lcells_34 (x : Lk) (d : Value) (h : x.prev.length = 32) : (lcells x d)[34]? = some d := by
  have : (cells8 x.prev).length = 32 := by rw [cells8_len, h]
  simp [lcells, this]
theorem lcells_prev (x : Lk) (d : Value) (_h : x.prev.length = 32) (j : Nat) (v : Value) (hv : (cells8 x.prev)[j]? = some v) : (lcells x d)[2 + j]? = some v := by
  have hj : j < (cells8 x.prev).length := (List.getElem?_eq_some_iff.1 hv).1
  rw [show 2 + j = j + 1 + 1 by omega]
  simp only [lcells, List.getElem?_cons_succ]
  rw [List.getElem?_append_left hj]; exact hv
theorem LinkAt.below {w w' : World} {B : Nat} {v : Value} {x : Lk} (h : LinkAt w B v x) (hb : Below B w w') : LinkAt w' B v x := by
  obtain ⟨d, h1, h2⟩ := h; exact ⟨d, h1, h2.below hb⟩
theorem LinkAt.mono {w : World} {B B' : Nat} {v : Value} {x : Lk} (h : LinkAt w B v x) (hb : B ≤ B') : LinkAt w B' v x := by
  obtain ⟨d, h1, h2⟩ := h; exact ⟨d, h1, h2.mono hb⟩

/-- Four values, side by side in a block of their own. -/
def Four (W : World) (g : Nat) (n m : Int) (s t : ByteArray) : Prop :=
  g < W.heap.size ∧ W.rangeAt g 0 [.int .i64 1, .int .i64 n, .string ByteArray.empty, .slice none 0 0, .int .i64 1, .int .i64 m, .string ByteArray.empty, .slice none 0 0, .int .i64 2, .int .i64 0, .string s, .slice none 0 0, .int .i64 2, .int .i64 0, .string t, .slice none 0 0]
theorem run_four (W : World) (n m : Int) (s t : ByteArray) : (Instr.buildSlice 113 4 #[(0, vInt n), (1, vInt m), (2, vTxt s), (3, vTxt t)]).run Tryd.prog W = .ok (.slice (some ⟨W.heap.size, 0, none⟩) 4 4)
    (W.alloc (.cells #[.int .i64 1, .int .i64 n, .string ByteArray.empty, .slice none 0 0, .int .i64 1, .int .i64 m, .string ByteArray.empty, .slice none 0 0, .int .i64 2, .int .i64 0, .string s, .slice none 0 0, .int .i64 2, .int .i64 0, .string t, .slice none 0 0] 115)) := by kernel_rfl
theorem wp_links4 {o : Oper} {a : Act} {W : World} {K : Act → World → Prop} {Q : Exit → Act → World → Prop} {x0 x1 x2 x3 : Operand} (ho : o.op = .buildSlice 113 4 #[(0, x0), (1, x1), (2, x2), (3, x3)]) (n m : Int) (s t : ByteArray)
    (h0 : a.eval x0 = vInt n) (h1 : a.eval x1 = vInt m) (h2 : a.eval x2 = vTxt s) (h3 : a.eval x3 = vTxt t)
    (h : ∀ W' g, Below W.heap.size W W' → Four W' g n m s t → K (a.put o.dst (.slice (some ⟨g, 0, none⟩) 4 4)) W') : o.wp Tryd.prog a W K Q := by
  refine wp_buildSlice_run 113 4 [(0, x0), (1, x1), (2, x2), (3, x3)] ho [(0, vInt n), (1, vInt m), (2, vTxt s), (3, vTxt t)] _ (by simp [h0, h1, h2, h3]) (run_four W n m s t) ?_
  refine h _ _ ((Below.refl _ _).alloc (Nat.le_refl _) _) ⟨by simp, ?_⟩
  exact (Arr.new W _ 115).at_
theorem Four.at_ {W : World} {g : Nat} {x : Lk} (h : Four W g x.node x.no ⟨x.prev.toArray⟩ ⟨x.data.toArray⟩) (hx : x.ok) : K.V.At W W.heap.size (linkV x) (.agg #[.int .i64 3, .int .i64 0, .string ByteArray.empty, .slice (some ⟨g, 0, none⟩) 4 4]) := by
  obtain ⟨hg, hc⟩ := h
  obtain ⟨h1, h2, h3, h4⟩ := hx
  have c := fun (i : Nat) (v : Value) hv => hc i v hv
  simp only [Nat.zero_add] at c
  have i0 : K.In64 0 := by unfold K.In64; omega
  have i1 : K.In64 1 := by unfold K.In64; omega
  have i2 : K.In64 2 := by unfold K.In64; omega
  have i3 : K.In64 3 := by unfold K.In64; omega
  have se : ByteArray.empty.size ≤ maxLen := by unfold maxLen; decide
  have sp : (⟨x.prev.toArray⟩ : ByteArray).size ≤ maxLen := by rw [size_mk]; unfold maxLen; omega
  have sd : (⟨x.data.toArray⟩ : ByteArray).size ≤ maxLen := by rw [size_mk]; unfold maxLen; omega
  have leaf : ∀ (k n : Int) (s : ByteArray), K.In64 k → K.In64 n → s.size ≤ maxLen → K.V.At W W.heap.size ⟨k, n, s, []⟩ (.agg #[.int .i64 k, .int .i64 n, .string s, .slice none 0 0]) := fun k n s hk hn hs => by
    unfold K.V.At
    exact ⟨hk, hn, hs, none, 0, rfl, by simp, by unfold maxLen; omega, .inl rfl⟩
  unfold linkV lstV K.V.At
  refine ⟨i3, i0, se, some ⟨g, 0, none⟩, 4, rfl, by simp, by unfold maxLen; omega, .inr ⟨g, 0, rfl, hg, ?_⟩⟩
  unfold K.AtL
  refine ⟨⟨_, _, _, _, c 0 _ rfl, c 1 _ rfl, c 2 _ rfl, c 3 _ rfl, leaf _ _ _ i1 h2 se⟩, ?_⟩
  unfold K.AtL
  refine ⟨⟨_, _, _, _, c 4 _ rfl, c 5 _ rfl, c 6 _ rfl, c 7 _ rfl, leaf _ _ _ i1 h3 se⟩, ?_⟩
  unfold K.AtL
  refine ⟨⟨_, _, _, _, c 8 _ rfl, c 9 _ rfl, c 10 _ rfl, c 11 _ rfl, leaf _ _ _ i2 i0 sp⟩, ?_⟩
  unfold K.AtL
  refine ⟨⟨_, _, _, _, c 12 _ rfl, c 13 _ rfl, c 14 _ rfl, c 15 _ rfl, leaf _ _ _ i2 i0 sd⟩, ?_⟩
  unfold K.AtL
  trivial
theorem made_at {w w' : World} {l : List UInt8} {u : Value} (h : K.Made w l u w') (_hl : l.length ≤ 1000000000) : BytesAt w' w'.heap.size u l := by
  obtain ⟨g, cap, rfl, hg, hs, hb⟩ := h
  have hcl := @World.ownsRow.cells _ _ _ _ _ _ _ hs
  have hglt := (World.ownsRow.lt hs g rfl).2
  obtain ⟨_, h2⟩ := hs
  rcases h2 with ⟨h0, _⟩ | ⟨g', cap', cur, h0, _, _, hn, hc, _, _⟩
  · cases h0
  · injection h0 with e1 e2 e3
    injection e1 with e1; injection e1 with e1
    subst e1; subst e3
    refine ⟨_, cap, rfl, hn, hc, .inr ⟨g, 0, rfl, hglt, fun i hi => ?_⟩⟩
    have := hcl (g := g) rfl i (.int .u8 l[i].toNat) (by simp [K.cells8, List.getElem?_eq_getElem hi])
    rw [Addr.add_mid] at this
    exact this

def c65a0 : Oper := { dst := some 3, op := Go.Op.fieldAddr 55 (Go.Operand.tmp 1) 0, type := 0, pos := "links.go:69", after := #[], guard := none }
def c65a1 : Oper := { dst := some 4, op := Go.Op.load 3 (Go.Operand.tmp 3), type := 3, pos := "links.go:69", after := #[{ on := 0, ground := Go.Ground.data }], guard := none }
def c65a2 : Oper := { dst := some 5, op := Go.Op.call { callee := Go.Callee.value (Go.Operand.func 89), args := #[Go.Operand.tmp 4], argTypes := #[3] }, type := 115, pos := "links.go:69", after := #[{ on := 1, ground := Go.Ground.data }], guard := none }
def c65a3 : Oper := { dst := some 6, op := Go.Op.fieldAddr 55 (Go.Operand.tmp 1) 1, type := 0, pos := "links.go:69", after := #[], guard := none }
def c65a4 : Oper := { dst := some 7, op := Go.Op.load 3 (Go.Operand.tmp 6), type := 3, pos := "links.go:69", after := #[{ on := 3, ground := Go.Ground.data }], guard := none }
def c65a5 : Oper := { dst := some 8, op := Go.Op.call { callee := Go.Callee.value (Go.Operand.func 89), args := #[Go.Operand.tmp 7], argTypes := #[3] }, type := 115, pos := "links.go:69", after := #[{ on := 4, ground := Go.Ground.data }, { on := 2, ground := Go.Ground.chain }], guard := none }
def c65a6 : Oper := { dst := some 9, op := Go.Op.fieldAddr 55 (Go.Operand.tmp 1) 2, type := 0, pos := "links.go:69", after := #[], guard := none }
def c65a7 : Oper := { dst := some 10, op := Go.Op.slice 30 (Go.Operand.tmp 9) none none none, type := 34, pos := "links.go:69", after := #[{ on := 6, ground := Go.Ground.data }], guard := none }
def c65a8 : Oper := { dst := some 11, op := Go.Op.call { callee := Go.Callee.value (Go.Operand.func 90), args := #[Go.Operand.tmp 10], argTypes := #[34] }, type := 115, pos := "links.go:69", after := #[{ on := 7, ground := Go.Ground.data }, { on := 5, ground := Go.Ground.chain }], guard := none }
def c65a9 : Oper := { dst := some 12, op := Go.Op.fieldAddr 55 (Go.Operand.tmp 1) 3, type := 0, pos := "links.go:69", after := #[], guard := none }
def c65a10 : Oper := { dst := some 13, op := Go.Op.load 34 (Go.Operand.tmp 12), type := 34, pos := "links.go:69", after := #[{ on := 9, ground := Go.Ground.data }], guard := none }
def c65a11 : Oper := { dst := some 14, op := Go.Op.call { callee := Go.Callee.value (Go.Operand.func 90), args := #[Go.Operand.tmp 13], argTypes := #[34] }, type := 115, pos := "links.go:69", after := #[{ on := 10, ground := Go.Ground.data }, { on := 8, ground := Go.Ground.chain }], guard := none }
def c65a12 : Oper := { dst := some 15, op := Go.Op.buildSlice 113 4 #[(0, Go.Operand.tmp 5), (1, Go.Operand.tmp 8), (2, Go.Operand.tmp 11), (3, Go.Operand.tmp 14)], type := 113, pos := "links.go:69", after := #[{ on := 2, ground := Go.Ground.data }, { on := 5, ground := Go.Ground.data }, { on := 8, ground := Go.Ground.data }, { on := 11, ground := Go.Ground.data }], guard := none }
def c65a13 : Oper := { dst := some 16, op := Go.Op.call { callee := Go.Callee.value (Go.Operand.func 88), args := #[Go.Operand.tmp 15], argTypes := #[113] }, type := 34, pos := "links.go:69", after := #[{ on := 12, ground := Go.Ground.data }, { on := 11, ground := Go.Ground.chain }], guard := none }
def c65a14 : Oper := { dst := some 2, op := Go.Op.assign (Go.Operand.tmp 16), type := 34, pos := "links.go:69", after := #[{ on := 13, ground := Go.Ground.data }, { on := 13, ground := Go.Ground.chain }, { on := 0, ground := Go.Ground.phase }, { on := 1, ground := Go.Ground.phase }, { on := 2, ground := Go.Ground.phase }, { on := 3, ground := Go.Ground.phase }, { on := 4, ground := Go.Ground.phase }, { on := 5, ground := Go.Ground.phase }, { on := 6, ground := Go.Ground.phase }, { on := 7, ground := Go.Ground.phase }, { on := 8, ground := Go.Ground.phase }, { on := 9, ground := Go.Ground.phase }, { on := 10, ground := Go.Ground.phase }, { on := 11, ground := Go.Ground.phase }, { on := 12, ground := Go.Ground.phase }, { on := 13, ground := Go.Ground.phase }], guard := none }

set_option maxRecDepth 100000 in
set_option maxHeartbeats 4000000 in
theorem linkText_any (w : World) (v : Value) (x : Lk) (hx : x.ok) (hv : LinkAt w w.heap.size v x) :
    Calls Tryd.prog 65 #[v] w fun e w' => ∃ u, e = .returned u ∧ BytesAt w' w'.heap.size u (txt x) ∧ Below w.heap.size w w' := by
  obtain ⟨d, rfl, hd⟩ := hv
  have h32 := hx.1
  have hl35 := lcells_len x d h32
  have e0 := lcells_0 x d
  have e1 := lcells_1 x d
  have e34 := lcells_34 x d h32
  have ep := lcells_prev x d h32
  obtain ⟨cs, hcs⟩ : ∃ cs, lcells x d = cs := ⟨_, rfl⟩
  rw [hcs] at hl35 e0 e1 e34 ep ⊢
  clear hcs
  have HX := Lib.hid hx
  have HD := Lib.hid hd
  have HE := Lib.hid (And.intro e0 (And.intro e1 (And.intro e34 ep)))
  clear hx hd h32 e0 e1 e34 ep
  go_enter Tryd.func65, Tryd.ntmps65
  go_upto_region 1 with fail
  refine code_world (fun W => Below w.heap.size w W ∧ Arr W w.heap.size cs ∧ w.heap.size < W.heap.size) ⟨by go_grown, by have h := Arr.new w cs.toArray 55; rw [List.toList_toArray] at h; exact h, by simp⟩ ?_
  rintro W0 ⟨hB0, hA0, hz0⟩
  have hc : ∀ (W : World), Kept W0 W → ∀ (j : Nat) (v : Value), cs[j]? = some v → W.cell? ⟨w.heap.size, j, none⟩ = some v := fun W hW j v hv => (hW.below.cell (p := ⟨w.heap.size, j, none⟩) hz0).trans (hA0.cell hv)
  have C0 : Hid (∀ W, Kept W0 W → W.cell? ⟨w.heap.size, 0, none⟩ = some (.int .i64 x.node)) := Lib.hid fun W hW => hc W hW 0 _ HE.out.1
  have C1 : Hid (∀ W, Kept W0 W → W.cell? ⟨w.heap.size, 1, none⟩ = some (.int .i64 x.no)) := Lib.hid fun W hW => hc W hW 1 _ HE.out.2.1
  have C3 : Hid (∀ W, Kept W0 W → W.cell? ⟨w.heap.size, 34, none⟩ = some d) := Lib.hid fun W hW => hc W hW 34 _ HE.out.2.2.1
  have HPV : Hid (∀ W, Kept W0 W → Calls Tryd.prog 90 #[.slice (some ⟨w.heap.size, 2, none⟩) 32 32] W fun e w' => e = .returned (vTxt ⟨x.prev.toArray⟩) ∧ Below W.heap.size W w') := Lib.hid fun W hW =>
    bval_any W _ x.prev ⟨some ⟨w.heap.size, 2, none⟩, 32, by rw [HX.out.1], by rw [HX.out.1]; omega, by unfold maxLen; omega, .inr ⟨w.heap.size, 2, rfl, by have := hW.size; omega, fun i hi => hc W hW (2 + i) _ (HE.out.2.2.2 i _ (by simp [cells8, List.getElem?_eq_getElem hi]))⟩⟩
  have HDT : Hid (∀ W, Kept W0 W → Calls Tryd.prog 90 #[d] W fun e w' => e = .returned (vTxt ⟨x.data.toArray⟩) ∧ Below W.heap.size W w') := Lib.hid fun W hW =>
    bval_any W _ x.data ((HD.out.below (hB0.trans (hW.below.mono (by omega)))).mono (by have := hW.size; omega))
  have HNN : Hid (∀ W, Kept W0 W → Calls Tryd.prog 89 #[.int .i64 x.node] W fun e w' => e = .returned (vInt x.node) ∧ Below W.heap.size W w') := Lib.hid fun W _ => number_any _ _
  have HNO : Hid (∀ W, Kept W0 W → Calls Tryd.prog 89 #[.int .i64 x.no] W fun e w' => e = .returned (vInt x.no) ∧ Below W.heap.size W w') := Lib.hid fun W _ => number_any _ _
  have HTX : Hid (∀ W g, Kept W0 W → Four W g x.node x.no ⟨x.prev.toArray⟩ ⟨x.data.toArray⟩ → Calls Tryd.prog 88 #[.slice (some ⟨g, 0, none⟩) 4 4] W fun e w' => ∃ u, e = .returned u ∧ BytesAt w' w'.heap.size u (txt x) ∧ Below W.heap.size W w') := Lib.hid fun W g _ hF => by
    have hlen := txt_len x HX.out
    have hd4 := HX.out.2.2.2
    refine (text_any W _ [intV x.node, intV x.no, txtV x.prev, txtV x.data] (some ⟨g, 0, none⟩) 4 rfl (hF.at_ HX.out) (linkV_chk x) (by show (linkV x).dep ≤ _; rw [linkV_dep]; omega) (by show (txt x).length ≤ _; omega)).mono ?_
    rintro e w' ⟨u, rfl, hM⟩
    refine ⟨u, rfl, made_at hM (by show (txt x).length ≤ _; omega), ?_⟩
    obtain ⟨_, _, _, _, _, hb⟩ := hM
    exact hb
  have HB0 := Lib.hid hB0
  clear hc hA0 hz0 hB0
  refine wp_region_held_drew (S := fun W => Kept W0 W) (by kernel_rfl) (Kept.drew (Kept.refl W0)) (fun hHeld => ?_)
  refine wpAnyH_take (i := 0) (oi := c65a0) (v := ?_) rfl (by kernel_rfl) (by kernel_rfl) (by kernel_rfl) (fun _ _ _ h => h) (Or.inl ⟨by rfl, ?_⟩) hHeld ?_
  rotate_left
  · (intro w hSw; (try dsimp only at hSw); unfold c65a0; go_simp <;> with_reducible rfl)
  try simp only [c65a0, Act.put, List.setIfInBounds_toArray, List.set_cons_zero, List.set_cons_succ]
  refine wpAnyH_take (i := 1) (oi := c65a1) (v := ?_) rfl (by kernel_rfl) (by kernel_rfl) (by kernel_rfl) (fun _ _ _ h => h) (Or.inl ⟨by rfl, ?_⟩) hHeld ?_
  rotate_left
  · (intro w hSw; have f0 := C0.out w hSw; have f1 := C1.out w hSw; have f3 := C3.out w hSw; unfold c65a1; go_simp <;> with_reducible rfl)
  try simp only [c65a1, Act.put, List.setIfInBounds_toArray, List.set_cons_zero, List.set_cons_succ]
  refine wpAnyH_take (i := 3) (oi := c65a3) (v := ?_) rfl (by kernel_rfl) (by kernel_rfl) (by kernel_rfl) (fun _ _ _ h => h) (Or.inl ⟨by rfl, ?_⟩) hHeld ?_
  rotate_left
  · (intro w hSw; (try dsimp only at hSw); unfold c65a3; go_simp <;> with_reducible rfl)
  try simp only [c65a3, Act.put, List.setIfInBounds_toArray, List.set_cons_zero, List.set_cons_succ]
  refine wpAnyH_take (i := 4) (oi := c65a4) (v := ?_) rfl (by kernel_rfl) (by kernel_rfl) (by kernel_rfl) (fun _ _ _ h => h) (Or.inl ⟨by rfl, ?_⟩) hHeld ?_
  rotate_left
  · (intro w hSw; have f0 := C0.out w hSw; have f1 := C1.out w hSw; have f3 := C3.out w hSw; unfold c65a4; go_simp <;> with_reducible rfl)
  try simp only [c65a4, Act.put, List.setIfInBounds_toArray, List.set_cons_zero, List.set_cons_succ]
  refine wpAnyH_take (i := 6) (oi := c65a6) (v := ?_) rfl (by kernel_rfl) (by kernel_rfl) (by kernel_rfl) (fun _ _ _ h => h) (Or.inl ⟨by rfl, ?_⟩) hHeld ?_
  rotate_left
  · (intro w hSw; (try dsimp only at hSw); unfold c65a6; go_simp <;> with_reducible rfl)
  try simp only [c65a6, Act.put, List.setIfInBounds_toArray, List.set_cons_zero, List.set_cons_succ]
  refine wpAnyH_take (i := 7) (oi := c65a7) (v := ?_) rfl (by kernel_rfl) (by kernel_rfl) (by kernel_rfl) (fun _ _ _ h => h) (Or.inl ⟨by rfl, ?_⟩) hHeld ?_
  rotate_left
  · (intro w hSw; (try dsimp only at hSw); unfold c65a7; go_simp <;> with_reducible rfl)
  try simp only [c65a7, Act.put, List.setIfInBounds_toArray, List.set_cons_zero, List.set_cons_succ]
  refine wpAnyH_take (i := 9) (oi := c65a9) (v := ?_) rfl (by kernel_rfl) (by kernel_rfl) (by kernel_rfl) (fun _ _ _ h => h) (Or.inl ⟨by rfl, ?_⟩) hHeld ?_
  rotate_left
  · (intro w hSw; (try dsimp only at hSw); unfold c65a9; go_simp <;> with_reducible rfl)
  try simp only [c65a9, Act.put, List.setIfInBounds_toArray, List.set_cons_zero, List.set_cons_succ]
  refine wpAnyH_take (i := 10) (oi := c65a10) (v := ?_) rfl (by kernel_rfl) (by kernel_rfl) (by kernel_rfl) (fun _ _ _ h => h) (Or.inl ⟨by rfl, ?_⟩) hHeld ?_
  rotate_left
  · (intro w hSw; have f0 := C0.out w hSw; have f1 := C1.out w hSw; have f3 := C3.out w hSw; unfold c65a10; go_simp <;> with_reducible rfl)
  try simp only [c65a10, Act.put, List.setIfInBounds_toArray, List.set_cons_zero, List.set_cons_succ]
  refine wpAnyH_ready (rs := [2]) (by kernel_rfl) (by simp) ?_
  refine AllReadyH.cons (o := c65a2) rfl (fun K hK => ?_) AllReadyH.nil
  rw [if_pos (by rfl)]
  unfold c65a2
  go_simp
  (with_reducible refine (HNN.out _ hHeld).mono ?_)
  rintro e W2 ⟨rfl, hB2⟩
  have hS2 := hHeld.next hB2
  go_wp2_with fail
  refine hK.out _ _ hS2 (fun hHeld => ?_)
  clear hK K
  try simp only [c65a2, Act.put, List.setIfInBounds_toArray, List.set_cons_zero, List.set_cons_succ]
  refine wpAnyH_ready (rs := [5]) (by kernel_rfl) (by simp) ?_
  refine AllReadyH.cons (o := c65a5) rfl (fun K hK => ?_) AllReadyH.nil
  rw [if_pos (by rfl)]
  unfold c65a5
  go_simp
  (with_reducible refine (HNO.out _ hHeld).mono ?_)
  rintro e W5 ⟨rfl, hB5⟩
  have hS5 := hHeld.next hB5
  go_wp2_with fail
  refine hK.out _ _ hS5 (fun hHeld => ?_)
  clear hK K
  try simp only [c65a5, Act.put, List.setIfInBounds_toArray, List.set_cons_zero, List.set_cons_succ]
  refine wpAnyH_ready (rs := [8]) (by kernel_rfl) (by simp) ?_
  refine AllReadyH.cons (o := c65a8) rfl (fun K hK => ?_) AllReadyH.nil
  rw [if_pos (by rfl)]
  unfold c65a8
  go_simp
  (with_reducible refine (HPV.out _ hHeld).mono ?_)
  rintro e W8 ⟨rfl, hB8⟩
  have hS8 := hHeld.next hB8
  go_wp2_with fail
  refine hK.out _ _ hS8 (fun hHeld => ?_)
  clear hK K
  try simp only [c65a8, Act.put, List.setIfInBounds_toArray, List.set_cons_zero, List.set_cons_succ]
  refine wpAnyH_ready (rs := [11]) (by kernel_rfl) (by simp) ?_
  refine AllReadyH.cons (o := c65a11) rfl (fun K hK => ?_) AllReadyH.nil
  rw [if_pos (by rfl)]
  unfold c65a11
  go_simp
  (with_reducible refine (HDT.out _ hHeld).mono ?_)
  rintro e W11 ⟨rfl, hB11⟩
  have hS11 := hHeld.next hB11
  go_wp2_with fail
  refine hK.out _ _ hS11 (fun hHeld => ?_)
  clear hK K
  try simp only [c65a11, Act.put, List.setIfInBounds_toArray, List.set_cons_zero, List.set_cons_succ]
  refine wpAnyH_ready (rs := [12]) (by kernel_rfl) (by simp) ?_
  refine AllReadyH.cons (o := c65a12) rfl (fun K hK => ?_) AllReadyH.nil
  rw [if_pos (by rfl)]
  refine wp_links4 (by rfl) _ _ _ _ (by rfl) (by rfl) (by rfl) (by rfl) ?_
  intro W12 g12 hG12 hAt12
  have hS12 := hHeld.next hG12
  refine hK.out _ _ hS12 (fun hHeld => ?_)
  clear hK K
  try simp only [c65a12, Act.put, List.setIfInBounds_toArray, List.set_cons_zero, List.set_cons_succ]
  refine wpAnyH_ready (rs := [13]) (by kernel_rfl) (by simp) ?_
  refine AllReadyH.cons (o := c65a13) rfl (fun K hK => ?_) AllReadyH.nil
  rw [if_pos (by rfl)]
  unfold c65a13
  go_simp
  (with_reducible refine (HTX.out _ _ hHeld hAt12).mono ?_)
  rintro e W13 ⟨u, rfl, hu, hB13⟩
  have hS13 := hHeld.next hB13
  go_wp2_with fail
  refine hK.out _ _ hS13 (fun hHeld => ?_)
  clear hK K
  try simp only [c65a13, Act.put, List.setIfInBounds_toArray, List.set_cons_zero, List.set_cons_succ]
  refine wpAnyH_take (i := 14) (oi := c65a14) (v := ?_) rfl (by kernel_rfl) (by kernel_rfl) (by kernel_rfl) (fun _ _ _ h => h) (Or.inl ⟨by rfl, ?_⟩) hHeld ?_
  rotate_left
  · (intro w hSw; (try dsimp only at hSw); unfold c65a14; go_simp <;> with_reducible rfl)
  try simp only [c65a14, Act.put, List.setIfInBounds_toArray, List.set_cons_zero, List.set_cons_succ]
  refine wpAnyH_done (by kernel_rfl) ?_ _
  have HST := Lib.hid hHeld
  have HU := Lib.hid hu
  clear hu hHeld
  go_wp2
  go_returns
  exact ⟨_, rfl, HU.out, HB0.out.trans (HST.out.mono HB0.out.size)⟩
end Go.Proofs.YtfmngeemhfpeiaaDoor

namespace Go.Proofs.YtfmngeemhfpeiaaDoor
open Go.RowKit

/-- Links in a slice, in memory below B. -/
def LRow (w : World) (B : Nat) (v : Value) (l : List Lk) : Prop :=
  (∀ x ∈ l, x.ok) ∧ ∃ a cap, v = .slice a l.length cap ∧ l.length ≤ cap ∧ cap ≤ maxLen ∧
    (l = [] ∨ ∃ b off, a = some ⟨b, off, none⟩ ∧ b < B ∧ ∀ i (h : i < l.length), ∃ d, w.rangeAt b (off + i * 35) (lcells l[i] d) ∧ BytesAt w B d l[i].data)
theorem LRow.below {w w' : World} {B : Nat} {v : Value} {l : List Lk} (h : LRow w B v l) (hb : Below B w w') : LRow w' B v l := by
  obtain ⟨h0, a, cap, h1, h2, h3, h4⟩ := h
  refine ⟨h0, a, cap, h1, h2, h3, ?_⟩
  rcases h4 with h4 | ⟨b, off, h4, h5, h6⟩
  · exact .inl h4
  · refine .inr ⟨b, off, h4, h5, fun i hi => ?_⟩
    obtain ⟨d, h7, h8⟩ := h6 i hi
    exact ⟨d, fun j v hv => (hb.cell (p := ⟨b, off + i * 35 + j, none⟩) h5).trans (h7 j v hv), h8.below hb⟩
theorem LRow.mono {w : World} {B B' : Nat} {v : Value} {l : List Lk} (h : LRow w B v l) (hb : B ≤ B') : LRow w B' v l := by
  obtain ⟨h0, a, cap, h1, h2, h3, h4⟩ := h
  refine ⟨h0, a, cap, h1, h2, h3, ?_⟩
  rcases h4 with h4 | ⟨b, off, h4, h5, h6⟩
  · exact .inl h4
  · refine .inr ⟨b, off, h4, by omega, fun i hi => ?_⟩
    obtain ⟨d, h7, h8⟩ := h6 i hi
    exact ⟨d, h7, h8.mono hb⟩
/-- The first links of a row, in the same memory. -/
theorem LRow.take {w : World} {B n cap : Nat} {a : Option Addr} {l : List Lk} (h : LRow w B (.slice a n cap) l) {m c : Nat} (hm : m ≤ n) (hc : c = cap) : LRow w B (.slice a m c) (l.take m) := by
  subst hc
  obtain ⟨h0, a', cap', h1, h2, h3, h4⟩ := h
  injection h1 with e1 e2 e3
  subst e1; subst e2; subst e3
  have hl : (l.take m).length = m := by rw [List.length_take]; omega
  refine ⟨fun x hx => h0 x (List.mem_of_mem_take hx), a, c, by rw [hl], by omega, h3, ?_⟩
  rcases h4 with h4 | ⟨b, off, h4, h5, h6⟩
  · exact .inl (by rw [h4]; simp)
  · refine .inr ⟨b, off, h4, h5, fun i hi => ?_⟩
    rw [hl] at hi
    obtain ⟨d, h7, h8⟩ := h6 i (by omega)
    exact ⟨d, by rw [List.getElem_take]; exact h7, by rw [List.getElem_take]; exact h8⟩
theorem LRow.nil (w : World) (B : Nat) : LRow w B (.slice none 0 0) [] := ⟨fun x hx => by (cases hx), none, 0, rfl, by simp, by unfold maxLen; omega, .inl rfl⟩
theorem Tryd.info55 : (Tryd.prog.info? 55).map (·.size) = some 35 := by kernel_rfl
theorem lcells_one (x : Lk) (d : Value) (hd : d.oneCell' = true) : ∀ v ∈ lcells x d, v.oneCell' = true := by
  intro v hv
  simp only [lcells, List.mem_cons, List.mem_append, List.not_mem_nil, or_false] at hv
  rcases hv with rfl | rfl | h | rfl
  · rfl
  · rfl
  · exact one_cells8 _ _ h
  · exact hd

theorem head_0 (w : World) (a : Option Addr) (cap : Nat) (hT : Tab w) (h0 : 0 < w.heap.size) :
    Calls Tryd.prog 33 #[.slice a 0 cap] w fun e w' => e = .returned (dv (hd [])) ∧ Below w.heap.size w w' := by
  have htg : ∀ W, Below w.heap.size w W → Calls Tryd.prog 28 #[.string { data := #[110, 111, 110, 101] }, .slice none 0 0] W fun e w' => e = .returned (dv (hd [])) ∧ Below W.heap.size W w' := fun W hW => by
    have h := tagged_any W { data := #[110, 111, 110, 101] } (.slice none 0 0) [] ⟨none, 0, rfl, by simp, by unfold maxLen; omega, .inl rfl⟩ (by decide) (by simp) (hT.below hW h0) (by have := hW.size; omega)
    exact h
  have hcl := hd_len ([] : List Lk)
  rw [dv_eq] at htg ⊢
  obtain ⟨cs, hcs⟩ : ∃ cs, cells8 (hd ([] : List Lk)) = cs := ⟨_, rfl⟩
  have ho1 := one_cells8 (hd ([] : List Lk))
  rw [← cells8_len, hcs] at hcl
  rw [hcs] at htg ho1 ⊢
  have HZ : Hid ((Tryd.prog.info? 30).map (·.size) = some cs.length) := by show _ = _; rw [hcl]; exact Tryd.info30
  have HCL := Lib.hid hcl
  have HO := Lib.hid ho1
  have HTG := Lib.hid htg
  clear hcs hcl ho1 htg hT
  go_enter Tryd.func33, Tryd.ntmps33
  go_wp2_with (refine wpList_world (fun W => Below w.heap.size w W ∧ Arr W w.heap.size (cells8 (List.replicate 32 0)) ∧ w.heap.size < W.heap.size) ⟨by go_grown, Arr.new w _ 30, by simp⟩ ?_; rintro W0 ⟨hB0, hD0, hz0⟩)
  refine (HTG.out _ hB0).mono ?_
  rintro e w2 ⟨rfl, hB2⟩
  have hB := hB0.trans (hB2.mono (by omega))
  have hD := hD0.below hB2 hz0
  have HB := Lib.hid hB
  have HD := Lib.hid hD
  clear hB0 hD0 hB2 hB hD
  go_wp2_with (refine store_new rfl 30 _ _ (by rfl) w.heap.size w.heap.size cs _ (by rfl) (by rfl) HB.out (Nat.le_refl _) HD.out (by rw [HCL.out]; rfl) HZ.out HO.out ?_; intro W7 hB7 hA7 hz7)
  refine bodyPost_ret (results_cell_mid rfl _ _ _ _ _ rfl hA7.at_ Tryd.underlying30 rfl HZ.out) rfl ?_
  exact ⟨rfl, hB7⟩

set_option maxRecDepth 100000 in
set_option maxHeartbeats 2000000 in
theorem head_s (w : World) (l : List Lk) (x : Lk) (hx : x.ok) (hl : l.getLast? = some x) (m cap b off : Nat) (d : Value) (hm : m + 1 ≤ cap) (hc : cap ≤ maxLen) (hb : b < w.heap.size) (hr : w.rangeAt b (off + m * 35) (lcells x d)) (hd1 : BytesAt w w.heap.size d x.data) (hT : Tab w) (h0 : 0 < w.heap.size) :
    Calls Tryd.prog 33 #[.slice (some ⟨b, off, none⟩) (m + 1) cap] w fun e w' => e = .returned (dv (hd l)) ∧ Below w.heap.size w w' := by
  have hlt : ∀ W, Below w.heap.size w W → Calls Tryd.prog 65 #[.agg (lcells x d).toArray] W fun e w' => ∃ u, e = .returned u ∧ BytesAt w' w'.heap.size u (txt x) ∧ Below W.heap.size W w' := fun W hW =>
    linkText_any W _ x hx ⟨d, rfl, (hd1.below hW).mono hW.size⟩
  have htg : ∀ W u, Below w.heap.size w W → BytesAt W W.heap.size u (txt x) → Calls Tryd.prog 28 #[.string { data := #[108, 105, 110, 107] }, u] W fun e w' => e = .returned (dv (hd l)) ∧ Below W.heap.size W w' := fun W u hW hu => by
    have hlen := txt_len x hx
    have hd4 := hx.2.2.2
    have h := tagged_any W { data := #[108, 105, 110, 107] } u (txt x) hu (by decide) (by omega) (hT.below hW h0) (by have := hW.size; omega)
    have e : hd l = tagged tLink (txt x) := by unfold hd; rw [hl]
    rw [e]
    exact h
  have hl35 := lcells_len x d hx.1
  have hcl := hd_len l
  rw [dv_eq] at htg ⊢
  obtain ⟨cs, hcs⟩ : ∃ cs, cells8 (hd l) = cs := ⟨_, rfl⟩
  have ho1 := one_cells8 (hd l)
  rw [← cells8_len, hcs] at hcl
  rw [hcs] at htg ho1 ⊢
  obtain ⟨ls, hls⟩ : ∃ ls, lcells x d = ls := ⟨_, rfl⟩
  rw [hls] at hlt hr hl35
  have HZ : Hid ((Tryd.prog.info? 30).map (·.size) = some cs.length) := by show _ = _; rw [hcl]; exact Tryd.info30
  have HZ5 : Hid ((Tryd.prog.info? 55).map (·.size) = some ls.length) := by show _ = _; rw [hl35]; exact Tryd.info55
  have HCL := Lib.hid hcl
  have HO := Lib.hid ho1
  have HTG := Lib.hid htg
  have HLT := Lib.hid hlt
  have HR := Lib.hid hr
  clear hcs hcl ho1 htg hT hlt hls hl35 hl hx hd1 hr
  unfold maxLen at hc
  have iw : IntKind.i64.wrap (((m + 1 : Nat) : Int) - 1) = (m : Int) := by rw [IntKind.wrap_i64]; omega
  have d0 : (((m + 1 : Nat) : Int) == 0) = false := by simp; omega
  have d1 : ¬ ((m + 1 : Nat) : Int) = 0 := by omega
  go_enter Tryd.func33, Tryd.ntmps33
  go_wp2_with (first
    | (refine wpList_world (fun W => Below w.heap.size w W ∧ Arr W w.heap.size (cells8 (List.replicate 32 0)) ∧ w.heap.size < W.heap.size) ⟨by go_grown, Arr.new w _ 30, by simp⟩ ?_; rintro W0 ⟨hB0, hD0, hz0⟩)
    | (refine wpList_load_mid rfl 55 _ (by rfl) b (off + m * 35) (by rfl) ls _ (fun j v hv => (hB0.cell (p := ⟨b, off + m * 35 + j, none⟩) hb).trans (HR.out j v hv)) Tryd.underlying55 rfl HZ5.out ?_))
  refine (HLT.out _ hB0).mono ?_
  rintro e w1 ⟨u, rfl, hu, hB1⟩
  have hBa := hB0.trans (hB1.mono (by omega))
  have hDa := hD0.below hB1 hz0
  have hza : w.heap.size < w1.heap.size := by have := hB1.size; omega
  have HBA := Lib.hid hBa
  have HDA := Lib.hid hDa
  have HU := Lib.hid hu
  clear hB0 hD0 hB1 hBa hDa hu
  go_wp2_with fail
  refine (HTG.out _ _ HBA.out HU.out).mono ?_
  rintro e w2 ⟨rfl, hB2⟩
  have hB := HBA.out.trans (hB2.mono (by omega))
  have hD := HDA.out.below hB2 hza
  have HB := Lib.hid hB
  have HD := Lib.hid hD
  clear hB2 hB hD
  go_wp2_with (refine store_new rfl 30 _ _ (by rfl) w.heap.size w.heap.size cs _ (by rfl) (by rfl) HB.out (Nat.le_refl _) HD.out (by rw [HCL.out]; rfl) HZ.out HO.out ?_; intro W7 hB7 hA7 hz7)
  refine bodyPost_ret (results_cell_mid rfl _ _ _ _ _ rfl hA7.at_ Tryd.underlying30 rfl HZ.out) rfl ?_
  exact ⟨rfl, hB7⟩

/-- chain.Head gives the head. -/
theorem head_any (w : World) (v : Value) (l : List Lk) (hv : LRow w w.heap.size v l) (hT : Tab w) (h0 : 0 < w.heap.size) :
    Calls Tryd.prog 33 #[v] w fun e w' => e = .returned (dv (hd l)) ∧ Below w.heap.size w w' := by
  obtain ⟨hok, a, cap, rfl, h1, h2, h3⟩ := hv
  rcases h3 with rfl | ⟨b, off, rfl, h4, h5⟩
  · exact head_0 w a cap hT h0
  · rcases Nat.eq_zero_or_pos l.length with hz | hp
    · have : l = [] := List.eq_nil_of_length_eq_zero hz
      subst this
      exact head_0 w _ cap hT h0
    · obtain ⟨m, hm⟩ : ∃ m, l.length = m + 1 := ⟨l.length - 1, by omega⟩
      have hi : m < l.length := by omega
      obtain ⟨d, h6, h7⟩ := h5 m hi
      rw [hm]
      have hlast : l.getLast? = some l[m] := by rw [List.getLast?_eq_getElem?, hm]; simp [List.getElem?_eq_getElem hi]
      exact head_s w l l[m] (hok _ (List.getElem_mem _)) hlast m cap b off d (by omega) h2 h4 h6 h7 hT h0
end Go.Proofs.YtfmngeemhfpeiaaDoor

namespace Go.Proofs.YtfmngeemhfpeiaaDoor
open Go.RowKit

theorem cells8_inj : ∀ {l l' : List UInt8}, cells8 l = cells8 l' → l = l'
  | [], [], _ => rfl
  | [], _ :: _, h => by simp [cells8] at h
  | _ :: _, [], h => by simp [cells8] at h
  | x :: l, y :: l', h => by
    simp only [cells8, List.map_cons, List.cons.injEq, Value.int.injEq, true_and] at h
    have e : x = y := UInt8.toNat_inj.1 (by have := h.1; omega)
    rw [e, cells8_inj (l := l) (l' := l') h.2]
theorem dv_inj {l l' : List UInt8} (h : dv l = dv l') : l = l' := by
  rw [dv_eq, dv_eq] at h
  injection h with h
  exact cells8_inj (by simpa using h)
theorem dig_eq (l l' : List UInt8) (h : l.length = 32) (h' : l'.length = 32) (W : World) : (Op.equalIn 10000 30 (dv l) (dv l')).run Tryd.prog W = .ok (decide (l = l')) W := by
  obtain ⟨k, hk⟩ := Option.isSome_iff_exists.1 (key_any l h)
  obtain ⟨k', hk'⟩ := Option.isSome_iff_exists.1 (key_any l' h')
  obtain ⟨r, hr, hi⟩ := run_equal_deep (P := Tryd.prog) W (m := 20) (by decide) (k := 30) (by kernel_rfl) (by kernel_rfl) hk hk'
  have e : r = decide (l = l') := by
    by_cases hl : l = l'
    · subst hl
      have : k = k' := Option.some.inj (hk.symm.trans hk')
      rw [hi.2 this]; simp
    · have : r ≠ true := fun hr => hl (dv_inj (keyOf_inj_deep (P := Tryd.prog) (m := 20) (k := 30) (by kernel_rfl) (by kernel_rfl) hk (by rw [hi.1 hr]; exact hk')))
      simp [hl]
      cases r <;> simp_all
  rw [← e]; exact hr

theorem isNode_any (n : Int) (w : World) : Calls Tryd.prog 67 #[.int .i64 n] w fun e w' => e = .returned (.bool (decide (0 ≤ n ∧ n < 24))) ∧ w' = w := by
  by_cases h1 : 0 ≤ n
  · by_cases h2 : n < 24
    all_goals
      have d1 : decide (n ≥ 0) = true := by simp; omega
      have d2 : decide (0 ≤ n) = true := by simp; omega
      go_enter Tryd.func67, Tryd.ntmps67
      go_wp2
      go_returns
      simp [h1, h2]
  · have d1 : decide (n ≥ 0) = false := by simp; omega
    have d2 : decide (0 ≤ n) = false := by simp; omega
    go_enter Tryd.func67, Tryd.ntmps67
    go_wp2
    go_returns
    first | (simp; done) | simp [h1]

/-- Can a chain be that of a node? -/
def bel (l : List Lk) (n : Int) : Bool := match l with
  | [] => true
  | x :: _ => decide (x.node = n)
theorem belongs_any (w : World) (v : Value) (l : List Lk) (n : Int) (hv : LRow w w.heap.size v l) : Calls Tryd.prog 68 #[v, .int .i64 n] w fun e w' => e = .returned (.bool (bel l n)) ∧ w' = w := by
  obtain ⟨hok, a, cap, rfl, h1, h2, h3⟩ := hv
  by_cases hl : l = []
  · subst hl
    clear h1 h2 h3
    go_enter Tryd.func68, Tryd.ntmps68
    go_wp2
    go_returns
    exact ⟨rfl, rfl⟩
  · obtain ⟨b, off, rfl, h4, h5⟩ := h3.resolve_left hl
    match l, hl with
    | x :: r, _ =>
      obtain ⟨d, h6, _⟩ := h5 0 (by simp)
      have c0 : w.cell? ⟨b, off, none⟩ = some (.int .i64 x.node) := by
        have := h6 0 (.int .i64 x.node) rfl
        simpa using this
      obtain ⟨m, hm⟩ : ∃ m, (x :: r).length = m + 1 := ⟨r.length, by simp⟩
      rw [hm] at h1 ⊢
      unfold maxLen at h2
      have d0 : (((m + 1 : Nat) : Int) == 0) = false := by simp; omega
      have d1 : ¬ ((m + 1 : Nat) : Int) = 0 := by omega
      have e : bel (x :: r) n = decide (x.node = n) := rfl
      rw [e]
      generalize x.node = k at *
      clear h5 h6 e hm hok
      go_enter Tryd.func68, Tryd.ntmps68
      go_wp2
      go_returns
      refine ⟨?_, rfl⟩
      first | rfl | (by_cases hk : k = n <;> simp [hk])

theorem bytesEq_any (w : World) (v u : Value) (a b : List UInt8) (hv : BytesAt w w.heap.size v a) (hu : BytesAt w w.heap.size u b) : Calls Tryd.prog 56 #[v, u] w fun e w' => e = .returned (.bool (decide (a = b))) ∧ w' = w := by
  obtain ⟨p, cap, rfl, h1, h2, h3⟩ := hv
  obtain ⟨p', cap', rfl, h1', h2', h3'⟩ := hu
  have hc := conv_bytes w p a cap (by
    rcases h3 with h | ⟨db, off, rfl, h4, h5⟩
    · exact .inl h
    · exact .inr ⟨db, off, rfl, fun i hi => h5 i hi⟩)
  have hc' := conv_bytes w p' b cap' (by
    rcases h3' with h | ⟨db, off, rfl, h4, h5⟩
    · exact .inl h
    · exact .inr ⟨db, off, rfl, fun i hi => h5 i hi⟩)
  have he2 : ((⟨a.toArray⟩ : ByteArray).toList == (⟨b.toArray⟩ : ByteArray).toList) = decide (a = b) := by
    rw [toList_mk, toList_mk]
    by_cases h : a = b <;> simp [h]
  obtain ⟨s, hs⟩ : ∃ s : ByteArray, (⟨a.toArray⟩ : ByteArray) = s := ⟨_, rfl⟩
  obtain ⟨t, ht⟩ : ∃ s : ByteArray, (⟨b.toArray⟩ : ByteArray) = s := ⟨_, rfl⟩
  rw [hs] at hc he2
  rw [ht] at hc' he2
  obtain ⟨n, hn⟩ : ∃ n, a.length = n := ⟨_, rfl⟩
  obtain ⟨n', hn'⟩ : ∃ n, b.length = n := ⟨_, rfl⟩
  rw [hn] at hc ⊢
  rw [hn'] at hc' ⊢
  have HE := Lib.hid he2
  clear h1 h2 h3 h1' h2' h3' hs ht hn hn' he2
  go_enter Tryd.func56, Tryd.ntmps56
  go_wp2_with (first | (rw [hc]) | (rw [hc']))
  go_returns
  exact ⟨(congrArg (fun x => Ending.returned (.bool x)) HE.out : Ending.returned (.bool (s.toList == t.toList)) = _), rfl⟩
end Go.Proofs.YtfmngeemhfpeiaaDoor
