/- The reference's Text. The law's clash. -/
import Derived.Test.YtfmngeemhfpeiaaDoorMH
import Derived.Test.YtfmngeemhfpeiaaDoorMJ
namespace Go.Proofs.YtfmngeemhfpeiaaDoor
open Go.RowKit

def tagS (l : List Lk) : ByteArray := match l with
  | [] => { data := #[110, 111, 110, 101] }
  | _ :: _ => { data := #[108, 105, 110, 107] }
def txtL (l : List Lk) : List UInt8 := match l.getLast? with
  | none => []
  | some x => txt x
theorem rnumber_any (n : Int) (w : World) : Calls Tryd.prog 92 #[.int .i64 n] w fun e w' => e = .returned (vInt n) ∧ Below w.heap.size w w' := by
  go_enter Tryd.func92, Tryd.ntmps92
  go_wp2
  go_returns
  exact ⟨rfl, by go_grown⟩
theorem rbval_any (w : World) (v : Value) (b : List UInt8) (hv : BytesAt w w.heap.size v b) : Calls Tryd.prog 93 #[v] w fun e w' => e = .returned (vTxt ⟨b.toArray⟩) ∧ Below w.heap.size w w' := by
  obtain ⟨a, cap, rfl, h1, h2, h3⟩ := hv
  have hc := fun (W : World) (hB : Below w.heap.size w W) => conv_bytes W a b cap (by
    rcases h3 with h | ⟨db, off, rfl, h4, h5⟩
    · exact .inl h
    · exact .inr ⟨db, off, rfl, fun i hi => (hB.cell (p := ⟨db, off + i, none⟩) h4).trans (h5 i hi)⟩)
  obtain ⟨s, hs⟩ : ∃ s : ByteArray, (⟨b.toArray⟩ : ByteArray) = s := ⟨_, rfl⟩
  rw [hs] at hc ⊢
  obtain ⟨n, hn⟩ : ∃ n, b.length = n := ⟨_, rfl⟩
  rw [hn] at hc ⊢
  clear h1 h3 hs hn
  go_enter Tryd.func93, Tryd.ntmps93
  go_wp2_with (first | (rw [hc _ (by go_grown)]))
  go_returns
  exact ⟨rfl, by go_grown⟩
theorem own_any {W : World} {B n : Nat} {v : Value} {l : List UInt8} (h : W.ownsRow B 5 1 v n (cells8 l)) (hn : l.length = n) : BytesAt W W.heap.size v l := by
  subst hn
  have hlt := h.lt
  have hcl := @World.ownsRow.cells _ _ _ _ _ _ _ h
  rcases h.2 with ⟨rfl, h0⟩ | ⟨g, cap, cur, rfl, _, _, hn1, hm, _, _⟩
  · exact ⟨none, 0, by rw [h0], by omega, by unfold maxLen; omega, .inl (List.eq_nil_of_length_eq_zero h0)⟩
  · refine ⟨_, cap, rfl, hn1, hm, .inr ⟨g, 0, rfl, (hlt g rfl).2, fun i hi => ?_⟩⟩
    have := hcl (g := g) rfl i (.int .u8 l[i].toNat) (by simp [cells8, List.getElem?_eq_getElem hi])
    rwa [Addr.add_mid] at this

def c66a0 : Oper := { dst := some 30, op := Go.Op.fieldAddr 55 (Go.Operand.tmp 4) 0, type := 0, pos := "ref.go:26", after := #[], guard := none }
def c66a1 : Oper := { dst := some 31, op := Go.Op.load 3 (Go.Operand.tmp 30), type := 3, pos := "ref.go:26", after := #[{ on := 0, ground := Go.Ground.data }], guard := none }
def c66a2 : Oper := { dst := some 32, op := Go.Op.call { callee := Go.Callee.value (Go.Operand.func 92), args := #[Go.Operand.tmp 31], argTypes := #[3] }, type := 115, pos := "ref.go:26", after := #[{ on := 1, ground := Go.Ground.data }], guard := none }
def c66a3 : Oper := { dst := some 33, op := Go.Op.fieldAddr 55 (Go.Operand.tmp 4) 1, type := 0, pos := "ref.go:26", after := #[], guard := none }
def c66a4 : Oper := { dst := some 34, op := Go.Op.load 3 (Go.Operand.tmp 33), type := 3, pos := "ref.go:26", after := #[{ on := 3, ground := Go.Ground.data }], guard := none }
def c66a5 : Oper := { dst := some 35, op := Go.Op.call { callee := Go.Callee.value (Go.Operand.func 92), args := #[Go.Operand.tmp 34], argTypes := #[3] }, type := 115, pos := "ref.go:26", after := #[{ on := 4, ground := Go.Ground.data }, { on := 2, ground := Go.Ground.chain }], guard := none }
def c66a6 : Oper := { dst := some 36, op := Go.Op.move (Go.Operand.tmp 5), type := 34, pos := "ref.go:26", after := #[], guard := none }
def c66a7 : Oper := { dst := some 37, op := Go.Op.call { callee := Go.Callee.value (Go.Operand.func 93), args := #[Go.Operand.tmp 36], argTypes := #[34] }, type := 115, pos := "ref.go:26", after := #[{ on := 6, ground := Go.Ground.data }, { on := 5, ground := Go.Ground.chain }], guard := none }
def c66a8 : Oper := { dst := some 38, op := Go.Op.fieldAddr 55 (Go.Operand.tmp 4) 3, type := 0, pos := "ref.go:26", after := #[], guard := none }
def c66a9 : Oper := { dst := some 39, op := Go.Op.load 34 (Go.Operand.tmp 38), type := 34, pos := "ref.go:26", after := #[{ on := 8, ground := Go.Ground.data }], guard := none }
def c66a10 : Oper := { dst := some 40, op := Go.Op.call { callee := Go.Callee.value (Go.Operand.func 93), args := #[Go.Operand.tmp 39], argTypes := #[34] }, type := 115, pos := "ref.go:26", after := #[{ on := 9, ground := Go.Ground.data }, { on := 7, ground := Go.Ground.chain }], guard := none }
def c66a11 : Oper := { dst := some 41, op := Go.Op.buildSlice 113 4 #[(0, Go.Operand.tmp 32), (1, Go.Operand.tmp 35), (2, Go.Operand.tmp 37), (3, Go.Operand.tmp 40)], type := 113, pos := "ref.go:26", after := #[{ on := 2, ground := Go.Ground.data }, { on := 5, ground := Go.Ground.data }, { on := 7, ground := Go.Ground.data }, { on := 10, ground := Go.Ground.data }], guard := none }
def c66a12 : Oper := { dst := some 42, op := Go.Op.build 115 #[(0, Go.Operand.const (Go.Value.int Go.IntKind.i64 3)), (3, Go.Operand.tmp 41)], type := 115, pos := "ref.go:26", after := #[{ on := 11, ground := Go.Ground.data }], guard := none }
def c66a13 : Oper := { dst := some 43, op := Go.Op.call { callee := Go.Callee.value (Go.Operand.func 91), args := #[Go.Operand.tmp 42], argTypes := #[115] }, type := 118, pos := "ref.go:26", after := #[{ on := 12, ground := Go.Ground.data }, { on := 10, ground := Go.Ground.chain }], guard := none }
def c66a14 : Oper := { dst := some 29, op := Go.Op.move (Go.Operand.tmp 43), type := 118, pos := "ref.go:26", after := #[{ on := 13, ground := Go.Ground.data }], guard := none }
def c66a15 : Oper := { dst := some 44, op := Go.Op.extract (Go.Operand.tmp 29) 0, type := 34, pos := "ref.go:26", after := #[{ on := 14, ground := Go.Ground.data }], guard := none }
def c66a16 : Oper := { dst := some 45, op := Go.Op.extract (Go.Operand.tmp 29) 1, type := 26, pos := "ref.go:26", after := #[{ on := 14, ground := Go.Ground.data }, { on := 17, ground := Go.Ground.gcOnly Go.Departure.lateStores }], guard := none }
def c66a17 : Oper := { dst := some 7, op := Go.Op.assign (Go.Operand.tmp 44), type := 34, pos := "ref.go:26", after := #[{ on := 15, ground := Go.Ground.data }, { on := 13, ground := Go.Ground.chain }, { on := 0, ground := Go.Ground.phase }, { on := 1, ground := Go.Ground.phase }, { on := 2, ground := Go.Ground.phase }, { on := 3, ground := Go.Ground.phase }, { on := 4, ground := Go.Ground.phase }, { on := 5, ground := Go.Ground.phase }, { on := 6, ground := Go.Ground.phase }, { on := 7, ground := Go.Ground.phase }, { on := 8, ground := Go.Ground.phase }, { on := 9, ground := Go.Ground.phase }, { on := 10, ground := Go.Ground.phase }, { on := 11, ground := Go.Ground.phase }, { on := 12, ground := Go.Ground.phase }, { on := 13, ground := Go.Ground.phase }, { on := 14, ground := Go.Ground.phase }, { on := 15, ground := Go.Ground.phase }, { on := 16, ground := Go.Ground.textOnly Go.Departure.lateStores }], guard := none }
def c66a18 : Oper := { dst := some 8, op := Go.Op.assign (Go.Operand.tmp 45), type := 26, pos := "ref.go:26", after := #[{ on := 16, ground := Go.Ground.data }, { on := 17, ground := Go.Ground.chain }, { on := 0, ground := Go.Ground.phase }, { on := 1, ground := Go.Ground.phase }, { on := 2, ground := Go.Ground.phase }, { on := 3, ground := Go.Ground.phase }, { on := 4, ground := Go.Ground.phase }, { on := 5, ground := Go.Ground.phase }, { on := 6, ground := Go.Ground.phase }, { on := 7, ground := Go.Ground.phase }, { on := 8, ground := Go.Ground.phase }, { on := 9, ground := Go.Ground.phase }, { on := 10, ground := Go.Ground.phase }, { on := 11, ground := Go.Ground.phase }, { on := 12, ground := Go.Ground.phase }, { on := 13, ground := Go.Ground.phase }, { on := 14, ground := Go.Ground.phase }, { on := 15, ground := Go.Ground.phase }, { on := 16, ground := Go.Ground.phase }, { on := 17, ground := Go.Ground.phase }], guard := none }

set_option maxRecDepth 100000 in
set_option maxHeartbeats 8000000 in
theorem rtext_s (w : World) (x : Lk) (hx : x.ok) (m cap b off : Nat) (d : Value) (hm : m + 1 ≤ cap) (hc : cap ≤ maxLen) (_ : b < w.heap.size) (hr : w.rangeAt b (off + m * 35) (lcells x d)) (hd1 : BytesAt w w.heap.size d x.data) :
    Calls Tryd.prog 66 #[.slice (some ⟨b, off, none⟩) (m + 1) cap] w fun e w' => ∃ u, e = .returned (.tuple #[.string { data := #[108, 105, 110, 107] }, u]) ∧ BytesAt w' w'.heap.size u (txt x) ∧ Below w.heap.size w w' := by
  have h32 := hx.1
  have hl35 := lcells_len x d h32
  have e0 := lcells_0 x d
  have e1 := lcells_1 x d
  have e34 := lcells_34 x d h32
  have ep := lcells_prev x d h32
  have ho := lcells_one x d (by obtain ⟨_, _, rfl, _⟩ := hd1; rfl)
  obtain ⟨cs, hcs⟩ : ∃ cs, lcells x d = cs := ⟨_, rfl⟩
  rw [hcs] at hl35 e0 e1 e34 ep ho hr
  obtain ⟨i0, hi, hz0, hz1, hz2⟩ := info_parts Tryd.infoU8
  have HZ5 : Hid ((Tryd.prog.info? 55).map (·.size) = some cs.length) := by show _ = _; rw [hl35]; exact Tryd.info55
  have HX := Lib.hid hx
  have HD := Lib.hid hd1
  have HE := Lib.hid (And.intro e0 (And.intro e1 (And.intro e34 ep)))
  have HR := Lib.hid hr
  have HO := Lib.hid ho
  have HL := Lib.hid hl35
  have HI := Lib.hid (And.intro hi (And.intro hz0 (And.intro hz1 hz2)))
  clear hcs hx hd1 h32 e0 e1 e34 ep hr ho hl35
  unfold maxLen at hc
  have iw : IntKind.i64.wrap (((m + 1 : Nat) : Int) - 1) = (m : Int) := by rw [IntKind.wrap_i64]; omega
  have d0 : (((m + 1 : Nat) : Int) == 0) = false := by simp; omega
  have d1 : ¬ ((m + 1 : Nat) : Int) = 0 := by omega
  go_enter Tryd.func66, Tryd.ntmps66
  go_wp2_with (first
    | (refine wpList_load_mid rfl 55 _ (by rfl) b (off + m * 35) (by rfl) cs _ HR.out Tryd.underlying55 rfl HZ5.out ?_)
    | (refine wpList_world (fun W => Below w.heap.size w W ∧ (∃ z : List Value, z.length = 35 ∧ Arr W w.heap.size z) ∧ w.heap.size < W.heap.size) ⟨by exact (Below.refl _ _).alloc (Nat.le_refl _) _, ⟨_, by rfl, Arr.new w _ 55⟩, by simp⟩ ?_
       rintro W1 ⟨hB1, ⟨z, hz35, hA1⟩, hz1'⟩
       refine store_new rfl 55 _ _ (by rfl) w.heap.size w.heap.size cs _ (by rfl) (by rfl) hB1 (Nat.le_refl _) hA1 (by rw [HL.out, hz35]) HZ5.out HO.out ?_
       intro W0 hB0 hA0 hz0'))
  have HB0 := Lib.hid hB0
  have HA0 := Lib.hid hA0
  have hz9 : w.heap.size < W0.heap.size := by omega
  clear hB1 hz35 hA1 hz1' hz0' hB0 hA0
  go_loopw [5, 6] (fun s5 i wr => ∃ (t : Nat) (sv : Value), i = .int .i64 t ∧ sv = s5 ∧ t ≤ 32 ∧ Kept W0 wr ∧ wr.ownsRow W0.heap.size 5 1 sv t (cells8 (x.prev.take t))) (fun _ i _ => 32 - (intOf i).toNat)
  case atStart => exact ⟨0, _, rfl, rfl, by omega, Kept.refl _, World.ownsRow_nil _ _ _ _⟩
  case round =>
    obtain ⟨t, sv, rfl, hsv, htn, hK, hO⟩ := hrel
    subst hsv
    have HK := Lib.hid hK
    have HOW := Lib.hid hO
    have hp32 := HX.out.1
    clear hK hO
    by_cases hlt : t < 32
    · obtain ⟨y, hy⟩ : ∃ y, x.prev[t]? = some y := ⟨_, List.getElem?_eq_getElem (by omega)⟩
      have c1 : wr.cell? ⟨w.heap.size, 2 + t, none⟩ = some (.int .u8 y.toNat) := (HK.out.below.cell (p := ⟨w.heap.size, 2 + t, none⟩) hz9).trans (HA0.out.cell (HE.out.2.2.2 t _ (by simp [cells8, hy])))
      have e1 : decide ((t : Int) < 32) = true := by simp; omega
      have e2 : (t : Int) < 32 := by omega
      have iw2 : IntKind.i64.wrap ((t : Int) + 1) = (t : Int) + 1 := by rw [IntKind.wrap_i64]; omega
      have hnx : cells8 (x.prev.take (t + 1)) = cells8 (x.prev.take t) ++ [.int .u8 y.toNat] := by
        rw [List.take_add_one, hy]; simp [cells8]
      have HNX := Lib.hid hnx
      have HY := Lib.hid hy
      have HB2 := Lib.hid (show Below wr.heap.size wr (wr.alloc (.cells #[.int .u8 y.toNat] 5)) from by go_grown)
      have HO2 := Lib.hid (HOW.out.alloc (.cells #[.int .u8 y.toNat] 5))
      have HN2 : Hid (∀ (j : Nat) (u : Value), ([.int .u8 y.toNat] : List Value)[j]? = some u → (wr.alloc (.cells #[.int .u8 y.toNat] 5)).cell? ((⟨wr.heap.size, 0, none⟩ : Addr).add j) = some u) := Lib.hid fun j u hu => by
        rw [Addr.add_mid]; exact (Arr.new wr #[.int .u8 y.toNat] 5).at_ j u hu
      have hsz2 : W0.heap.size ≤ (wr.alloc (.cells #[.int .u8 y.toNat] 5)).heap.size := by have := HK.out.size; rw [World.size_alloc]; omega
      clear hnx hy
      go_wp2_with (at_builtin; refine wpList_append_own _ rfl (.tmp 22) (.tmp 27) 34 rfl W0.heap.size 5 i0 _ 1 1 Tryd.underlying34 hi hz0 hz1 hz2 rfl (by omega) _ t _ (by rfl) HO2.out ⟨wr.heap.size, 0, none⟩ 1 1 [.int .u8 y.toNat] (by rfl) rfl HN2.out (by simp [Value.oneCell']) (by unfold maxLen; omega) (by omega) hsz2 ?_; intro v2 w2 hown2 hgr2 _)
      have HW2 := Lib.hid hown2
      have HG2 := Lib.hid hgr2
      clear hown2 hgr2
      go_wp2
      go_roundw
      case rel =>
        refine ⟨t + 1, _, by simp, rfl, by omega, ?_, by rw [HNX.out]; exact HW2.out⟩
        have h1 := HK.out.next HB2.out
        exact ⟨HG2.out.os.trans h1.os, HG2.out.tape.trans h1.tape, HG2.out.output.trans h1.output, Nat.le_trans h1.size HG2.out.size, fun i hi => (HG2.out.block i (Nat.lt_of_lt_of_le hi h1.size) (fun e => by have := (HO2.out.lt i e.symm).1; omega)).trans (h1.block i hi)⟩
      case measure => simp [intOf]; omega
    · obtain rfl : t = 32 := by omega
      have hb5 : BytesAt wr wr.heap.size sv x.prev := own_any (by have := HOW.out; rwa [List.take_of_length_le (by omega)] at this) hp32
      obtain ⟨pa, pc, rfl, _, _, _⟩ := id hb5
      rw [hp32] at hb5 ⊢
      have hB5 := Lib.hid hb5
      have HBR : Hid (Below w.heap.size w wr) := Lib.hid (HB0.out.trans (HK.out.below.mono (by omega)))
      have hcc : ∀ (W : World), Kept wr W → ∀ (j : Nat) (v : Value), cs[j]? = some v → W.cell? ⟨w.heap.size, j, none⟩ = some v := fun W hW j v hv => ((HK.out.below.trans (hW.below.mono HK.out.size)).cell (p := ⟨w.heap.size, j, none⟩) hz9).trans (HA0.out.cell hv)
      have C0 : Hid (∀ W, Kept wr W → W.cell? ⟨w.heap.size, 0, none⟩ = some (.int .i64 x.node)) := Lib.hid fun W hW => hcc W hW 0 _ HE.out.1
      have C1 : Hid (∀ W, Kept wr W → W.cell? ⟨w.heap.size, 1, none⟩ = some (.int .i64 x.no)) := Lib.hid fun W hW => hcc W hW 1 _ HE.out.2.1
      have C3 : Hid (∀ W, Kept wr W → W.cell? ⟨w.heap.size, 34, none⟩ = some d) := Lib.hid fun W hW => hcc W hW 34 _ HE.out.2.2.1
      have HPV : Hid (∀ W, Kept wr W → Calls Tryd.prog 93 #[.slice pa 32 pc] W fun e w' => e = .returned (vTxt ⟨x.prev.toArray⟩) ∧ Below W.heap.size W w') := Lib.hid fun W hW =>
        rbval_any W _ x.prev ((hB5.out.below hW.below).mono hW.size)
      have HDT : Hid (∀ W, Kept wr W → Calls Tryd.prog 93 #[d] W fun e w' => e = .returned (vTxt ⟨x.data.toArray⟩) ∧ Below W.heap.size W w') := Lib.hid fun W hW =>
        rbval_any W _ x.data ((HD.out.below (HBR.out.trans (hW.below.mono HBR.out.size))).mono (by have := hW.size; have := HBR.out.size; omega))
      have HNN : Hid (∀ W, Kept wr W → Calls Tryd.prog 92 #[.int .i64 x.node] W fun e w' => e = .returned (vInt x.node) ∧ Below W.heap.size W w') := Lib.hid fun W _ => rnumber_any _ _
      have HNO : Hid (∀ W, Kept wr W → Calls Tryd.prog 92 #[.int .i64 x.no] W fun e w' => e = .returned (vInt x.no) ∧ Below W.heap.size W w') := Lib.hid fun W _ => rnumber_any _ _
      have HTX : Hid (∀ W g, Kept wr W → Four W g x.node x.no ⟨x.prev.toArray⟩ ⟨x.data.toArray⟩ → Calls Tryd.prog 91 #[.agg #[.int .i64 3, .int .i64 0, .string { data := #[] }, .slice (some ⟨g, 0, none⟩) 4 4]] W fun e w' => ∃ u, e = .returned (.tuple #[u, .int .i64 0]) ∧ BytesAt w' w'.heap.size u (txt x) ∧ Below W.heap.size W w') := Lib.hid fun W g _ hF => by
        have hlen := txt_len x HX.out
        have hd4 := HX.out.2.2.2
        refine (K.rencode_ok (linkV x) W W.heap.size _ (by rw [linkV_dep]; omega) (Nat.le_refl _) (hF.at_ HX.out) (linkV_chk x) (by show (txt x).length ≤ _; omega)).mono ?_
        rintro e w' ⟨u, rfl, hM⟩
        refine ⟨u, rfl, made_at hM (by show (txt x).length ≤ _; omega), ?_⟩
        obtain ⟨_, _, _, _, _, hb⟩ := hM
        exact hb
      have e1 : decide ((32 : Int) < 32) = false := by decide
      clear hcc hb5 hp32
      go_upto_region 9 with fail
      refine wp_region_held_drew (S := fun W => Kept wr W) (by kernel_rfl) (Kept.drew (Kept.refl wr)) (fun hHeld => ?_)
      refine wpAnyH_take (i := 0) (oi := c66a0) (v := ?_) rfl (by kernel_rfl) (by kernel_rfl) (by kernel_rfl) (fun _ _ _ h => h) (Or.inl ⟨by rfl, ?_⟩) hHeld ?_
      rotate_left
      · (intro w hSw; (try dsimp only at hSw); unfold c66a0; go_simp <;> with_reducible rfl)
      try simp only [c66a0, Act.put, List.setIfInBounds_toArray, List.set_cons_zero, List.set_cons_succ]
      refine wpAnyH_take (i := 1) (oi := c66a1) (v := ?_) rfl (by kernel_rfl) (by kernel_rfl) (by kernel_rfl) (fun _ _ _ h => h) (Or.inl ⟨by rfl, ?_⟩) hHeld ?_
      rotate_left
      · (intro w hSw; have f0 := C0.out w hSw; have f1 := C1.out w hSw; have f3 := C3.out w hSw; unfold c66a1; go_simp <;> with_reducible rfl)
      try simp only [c66a1, Act.put, List.setIfInBounds_toArray, List.set_cons_zero, List.set_cons_succ]
      refine wpAnyH_take (i := 3) (oi := c66a3) (v := ?_) rfl (by kernel_rfl) (by kernel_rfl) (by kernel_rfl) (fun _ _ _ h => h) (Or.inl ⟨by rfl, ?_⟩) hHeld ?_
      rotate_left
      · (intro w hSw; (try dsimp only at hSw); unfold c66a3; go_simp <;> with_reducible rfl)
      try simp only [c66a3, Act.put, List.setIfInBounds_toArray, List.set_cons_zero, List.set_cons_succ]
      refine wpAnyH_take (i := 4) (oi := c66a4) (v := ?_) rfl (by kernel_rfl) (by kernel_rfl) (by kernel_rfl) (fun _ _ _ h => h) (Or.inl ⟨by rfl, ?_⟩) hHeld ?_
      rotate_left
      · (intro w hSw; have f0 := C0.out w hSw; have f1 := C1.out w hSw; have f3 := C3.out w hSw; unfold c66a4; go_simp <;> with_reducible rfl)
      try simp only [c66a4, Act.put, List.setIfInBounds_toArray, List.set_cons_zero, List.set_cons_succ]
      refine wpAnyH_take (i := 6) (oi := c66a6) (v := ?_) rfl (by kernel_rfl) (by kernel_rfl) (by kernel_rfl) (fun _ _ _ h => h) (Or.inl ⟨by rfl, ?_⟩) hHeld ?_
      rotate_left
      · (intro w hSw; (try dsimp only at hSw); unfold c66a6; go_simp <;> with_reducible rfl)
      try simp only [c66a6, Act.put, List.setIfInBounds_toArray, List.set_cons_zero, List.set_cons_succ]
      refine wpAnyH_take (i := 8) (oi := c66a8) (v := ?_) rfl (by kernel_rfl) (by kernel_rfl) (by kernel_rfl) (fun _ _ _ h => h) (Or.inl ⟨by rfl, ?_⟩) hHeld ?_
      rotate_left
      · (intro w hSw; (try dsimp only at hSw); unfold c66a8; go_simp <;> with_reducible rfl)
      try simp only [c66a8, Act.put, List.setIfInBounds_toArray, List.set_cons_zero, List.set_cons_succ]
      refine wpAnyH_take (i := 9) (oi := c66a9) (v := ?_) rfl (by kernel_rfl) (by kernel_rfl) (by kernel_rfl) (fun _ _ _ h => h) (Or.inl ⟨by rfl, ?_⟩) hHeld ?_
      rotate_left
      · (intro w hSw; have f0 := C0.out w hSw; have f1 := C1.out w hSw; have f3 := C3.out w hSw; unfold c66a9; go_simp <;> with_reducible rfl)
      try simp only [c66a9, Act.put, List.setIfInBounds_toArray, List.set_cons_zero, List.set_cons_succ]
      refine wpAnyH_ready (rs := [2]) (by kernel_rfl) (by simp) ?_
      refine AllReadyH.cons (o := c66a2) rfl (fun K hK => ?_) AllReadyH.nil
      rw [if_pos (by rfl)]
      unfold c66a2
      go_simp
      (with_reducible refine (HNN.out _ hHeld).mono ?_)
      rintro e W2 ⟨rfl, hB2⟩
      have hS2 := hHeld.next hB2
      go_wp2_with fail
      refine hK.out _ _ hS2 (fun hHeld => ?_)
      clear hK K
      try simp only [c66a2, Act.put, List.setIfInBounds_toArray, List.set_cons_zero, List.set_cons_succ]
      refine wpAnyH_ready (rs := [5]) (by kernel_rfl) (by simp) ?_
      refine AllReadyH.cons (o := c66a5) rfl (fun K hK => ?_) AllReadyH.nil
      rw [if_pos (by rfl)]
      unfold c66a5
      go_simp
      (with_reducible refine (HNO.out _ hHeld).mono ?_)
      rintro e W5 ⟨rfl, hB5⟩
      have hS5 := hHeld.next hB5
      go_wp2_with fail
      refine hK.out _ _ hS5 (fun hHeld => ?_)
      clear hK K
      try simp only [c66a5, Act.put, List.setIfInBounds_toArray, List.set_cons_zero, List.set_cons_succ]
      refine wpAnyH_ready (rs := [7]) (by kernel_rfl) (by simp) ?_
      refine AllReadyH.cons (o := c66a7) rfl (fun K hK => ?_) AllReadyH.nil
      rw [if_pos (by rfl)]
      unfold c66a7
      go_simp
      (with_reducible refine (HPV.out _ hHeld).mono ?_)
      rintro e W7 ⟨rfl, hB7⟩
      have hS7 := hHeld.next hB7
      go_wp2_with fail
      refine hK.out _ _ hS7 (fun hHeld => ?_)
      clear hK K
      try simp only [c66a7, Act.put, List.setIfInBounds_toArray, List.set_cons_zero, List.set_cons_succ]
      refine wpAnyH_ready (rs := [10]) (by kernel_rfl) (by simp) ?_
      refine AllReadyH.cons (o := c66a10) rfl (fun K hK => ?_) AllReadyH.nil
      rw [if_pos (by rfl)]
      unfold c66a10
      go_simp
      (with_reducible refine (HDT.out _ hHeld).mono ?_)
      rintro e W10 ⟨rfl, hB10⟩
      have hS10 := hHeld.next hB10
      go_wp2_with fail
      refine hK.out _ _ hS10 (fun hHeld => ?_)
      clear hK K
      try simp only [c66a10, Act.put, List.setIfInBounds_toArray, List.set_cons_zero, List.set_cons_succ]
      refine wpAnyH_ready (rs := [11]) (by kernel_rfl) (by simp) ?_
      refine AllReadyH.cons (o := c66a11) rfl (fun K hK => ?_) AllReadyH.nil
      rw [if_pos (by rfl)]
      refine wp_links4 (by rfl) _ _ _ _ (by rfl) (by rfl) (by rfl) (by rfl) ?_
      intro W11 g11 hG11 hAt11
      have hS11 := hHeld.next hG11
      refine hK.out _ _ hS11 (fun hHeld => ?_)
      clear hK K
      try simp only [c66a11, Act.put, List.setIfInBounds_toArray, List.set_cons_zero, List.set_cons_succ]
      refine wpAnyH_take (i := 12) (oi := c66a12) (v := ?_) rfl (by kernel_rfl) (by kernel_rfl) (by kernel_rfl) (fun _ _ _ h => h) (Or.inl ⟨by rfl, ?_⟩) hHeld ?_
      rotate_left
      · (intro w hSw; (try dsimp only at hSw); unfold c66a12; go_simp <;> with_reducible rfl)
      try simp only [c66a12, Act.put, List.setIfInBounds_toArray, List.set_cons_zero, List.set_cons_succ]
      refine wpAnyH_ready (rs := [13]) (by kernel_rfl) (by simp) ?_
      refine AllReadyH.cons (o := c66a13) rfl (fun K hK => ?_) AllReadyH.nil
      rw [if_pos (by rfl)]
      unfold c66a13
      go_simp
      (with_reducible refine (HTX.out _ _ hHeld hAt11).mono ?_)
      rintro e W13 ⟨u, rfl, hu, hB13⟩
      have hS13 := hHeld.next hB13
      go_wp2_with fail
      refine hK.out _ _ hS13 (fun hHeld => ?_)
      clear hK K
      try simp only [c66a13, Act.put, List.setIfInBounds_toArray, List.set_cons_zero, List.set_cons_succ]
      refine wpAnyH_take (i := 14) (oi := c66a14) (v := ?_) rfl (by kernel_rfl) (by kernel_rfl) (by kernel_rfl) (fun _ _ _ h => h) (Or.inl ⟨by rfl, ?_⟩) hHeld ?_
      rotate_left
      · (intro w hSw; (try dsimp only at hSw); unfold c66a14; go_simp <;> with_reducible rfl)
      try simp only [c66a14, Act.put, List.setIfInBounds_toArray, List.set_cons_zero, List.set_cons_succ]
      refine wpAnyH_take (i := 15) (oi := c66a15) (v := ?_) rfl (by kernel_rfl) (by kernel_rfl) (by kernel_rfl) (fun _ _ _ h => h) (Or.inl ⟨by rfl, ?_⟩) hHeld ?_
      rotate_left
      · (intro w hSw; (try dsimp only at hSw); unfold c66a15; go_simp <;> with_reducible rfl)
      try simp only [c66a15, Act.put, List.setIfInBounds_toArray, List.set_cons_zero, List.set_cons_succ]
      refine wpAnyH_take (i := 16) (oi := c66a16) (v := ?_) rfl (by kernel_rfl) (by kernel_rfl) (by kernel_rfl) (fun _ _ _ h => h) (Or.inl ⟨by rfl, ?_⟩) hHeld ?_
      rotate_left
      · (intro w hSw; (try dsimp only at hSw); unfold c66a16; go_simp <;> with_reducible rfl)
      try simp only [c66a16, Act.put, List.setIfInBounds_toArray, List.set_cons_zero, List.set_cons_succ]
      refine wpAnyH_take (i := 17) (oi := c66a17) (v := ?_) rfl (by kernel_rfl) (by kernel_rfl) (by kernel_rfl) (fun _ _ _ h => h) (Or.inl ⟨by rfl, ?_⟩) hHeld ?_
      rotate_left
      · (intro w hSw; (try dsimp only at hSw); unfold c66a17; go_simp <;> with_reducible rfl)
      try simp only [c66a17, Act.put, List.setIfInBounds_toArray, List.set_cons_zero, List.set_cons_succ]
      refine wpAnyH_take (i := 18) (oi := c66a18) (v := ?_) rfl (by kernel_rfl) (by kernel_rfl) (by kernel_rfl) (fun _ _ _ h => h) (Or.inl ⟨by rfl, ?_⟩) hHeld ?_
      rotate_left
      · (intro w hSw; (try dsimp only at hSw); unfold c66a18; go_simp <;> with_reducible rfl)
      try simp only [c66a18, Act.put, List.setIfInBounds_toArray, List.set_cons_zero, List.set_cons_succ]
      refine wpAnyH_done (by kernel_rfl) ?_ _
      have HST := Lib.hid hHeld
      have HU := Lib.hid hu
      clear hu hHeld
      go_wp2
      go_returns
      exact ⟨_, rfl, HU.out, HBR.out.trans (HST.out.mono HBR.out.size)⟩

theorem rtext_any (w : World) (v : Value) (l : List Lk) (hv : LRow w w.heap.size v l) : Calls Tryd.prog 66 #[v] w fun e w' => ∃ u, e = .returned (.tuple #[.string (tagS l), u]) ∧ BytesAt w' w'.heap.size u (txtL l) ∧ Below w.heap.size w w' := by
  obtain ⟨hok, a, cap, rfl, h1, h2, h3⟩ := hv
  rcases Nat.eq_zero_or_pos l.length with hz | hp
  · have : l = [] := List.eq_nil_of_length_eq_zero hz
    subst this
    clear h1 h3 hok hz
    go_enter Tryd.func66, Tryd.ntmps66
    go_wp2
    go_returns
    exact ⟨_, rfl, bytes_nil _ _ _, Below.refl _ _⟩
  · obtain ⟨b, off, rfl, h4, h5⟩ := h3.resolve_left (fun e => by subst e; exact absurd hp (by simp))
    obtain ⟨m, hm⟩ : ∃ m, l.length = m + 1 := ⟨l.length - 1, by omega⟩
    have hi : m < l.length := by omega
    obtain ⟨d, h6, h7⟩ := h5 m hi
    have hlast : l.getLast? = some l[m] := by rw [List.getLast?_eq_getElem?, hm]; simp [List.getElem?_eq_getElem hi]
    have ht : tagS l = { data := #[108, 105, 110, 107] } := by
      cases l with
      | nil => simp at hp
      | cons _ _ => rfl
    have hx : txtL l = txt l[m] := by unfold txtL; rw [hlast]
    rw [ht, hx, hm]
    exact rtext_s w l[m] (hok _ (List.getElem_mem hi)) m cap b off d (by omega) h2 h4 h6 h7
end Go.Proofs.YtfmngeemhfpeiaaDoor

namespace Go.Proofs.YtfmngeemhfpeiaaDoor
open Go.RowKit

/-- Have two lists of links one head although their texts are different? -/
def clashL (l m : List Lk) : Bool := (!decide (tagS l = tagS m) || !decide (txtL l = txtL m)) && decide (hd l = hd m)
theorem txtL_snoc (l : List Lk) (x : Lk) : txtL (l ++ [x]) = txt x := by unfold txtL; simp
theorem clash_found {a b : List Lk} (ha : Chn a) (hb : Chn b) (hka : ∀ x ∈ a, x.ok) (hkb : ∀ x ∈ b, x.ok) (hl : a.length = b.length) : ∀ k, k ≤ a.length → hd (a.take k) = hd (b.take k) → a.take k ≠ b.take k → ∃ i, 1 ≤ i ∧ i ≤ k ∧ clashL (a.take i) (b.take i) = true
  | 0, _, _, hne => absurd (by simp) hne
  | k + 1, hk, hh, hne => by
    have hka' : k < a.length := by omega
    have hkb' : k < b.length := by omega
    have ea : a.take (k + 1) = a.take k ++ [a[k]] := List.take_succ_eq_append_getElem hka'
    have eb : b.take (k + 1) = b.take k ++ [b[k]] := List.take_succ_eq_append_getElem hkb'
    by_cases h : a[k] = b[k]
    · have hp : hd (a.take k) = hd (b.take k) := by
        rw [← (ha.2 k hka').2.2.2.2, ← (hb.2 k hkb').2.2.2.2, h]
      obtain ⟨i, h1, h2, h3⟩ := clash_found ha hb hka hkb hl k (by omega) hp (fun e => hne (by rw [ea, eb, e, h]))
      exact ⟨i, h1, by omega, h3⟩
    · refine ⟨k + 1, by omega, Nat.le_refl _, ?_⟩
      have ht : txtL (a.take (k + 1)) ≠ txtL (b.take (k + 1)) := by
        rw [ea, eb, txtL_snoc, txtL_snoc]
        exact fun e => h (txt_inj (hka _ (List.getElem_mem hka')) (hkb _ (List.getElem_mem hkb')) e)
      unfold clashL
      rw [decide_eq_false ht, decide_eq_true hh]
      simp

set_option maxRecDepth 100000 in
set_option maxHeartbeats 4000000 in
theorem clash_any (w : World) (v u : Value) (l m : List Lk) (hv : LRow w w.heap.size v l) (hu : LRow w w.heap.size u m) (hT : Tab w) (h0 : 0 < w.heap.size) :
    Calls Tryd.prog 40 #[v, u] w fun e w' => e = .returned (.bool (clashL l m)) ∧ Below w.heap.size w w' := by
  have ht1 : ∀ W, Below w.heap.size w W → Calls Tryd.prog 66 #[v] W fun e w' => ∃ u, e = .returned (.tuple #[.string (tagS l), u]) ∧ BytesAt w' w'.heap.size u (txtL l) ∧ Below W.heap.size W w' := fun W hW => rtext_any W v l (hv.at hW)
  have ht2 : ∀ W, Below w.heap.size w W → Calls Tryd.prog 66 #[u] W fun e w' => ∃ u, e = .returned (.tuple #[.string (tagS m), u]) ∧ BytesAt w' w'.heap.size u (txtL m) ∧ Below W.heap.size W w' := fun W hW => rtext_any W u m (hu.at hW)
  have hh1 : ∀ W, Below w.heap.size w W → Calls Tryd.prog 33 #[v] W fun e w' => e = .returned (.agg (cells8 (hd l)).toArray) ∧ Below W.heap.size W w' := fun W hW => head_any W v l (hv.at hW) (hT.below hW h0) (by have := hW.size; omega)
  have hh2 : ∀ W, Below w.heap.size w W → Calls Tryd.prog 33 #[u] W fun e w' => e = .returned (.agg (cells8 (hd m)).toArray) ∧ Below W.heap.size W w' := fun W hW => head_any W u m (hu.at hW) (hT.below hW h0) (by have := hW.size; omega)
  have hq := dig_eq (hd l) (hd m) (hd_len _) (hd_len _)
  rw [dv_eq, dv_eq] at hq
  obtain ⟨a, cap, rfl, _, _⟩ := hv.shape
  obtain ⟨a', cap', rfl, _, _⟩ := hu.shape
  generalize l.length = N at *
  generalize m.length = M at *
  have hse : ∀ x y : List UInt8, ((⟨x.toArray⟩ : ByteArray).toList == (⟨y.toArray⟩ : ByteArray).toList) = decide (x = y) := fun x y => by
    rw [toList_mk, toList_mk]
    by_cases h : x = y <;> simp [h]
  have hcv : ∀ (W : World) (v : Value) (b : List UInt8), BytesAt W W.heap.size v b → ∃ s : ByteArray, s = ⟨b.toArray⟩ ∧ (convert 34 9 v).run Tryd.prog W = .ok (.string s) W := fun W v b h => by
    obtain ⟨p, c, rfl, _, _, h3⟩ := h
    exact ⟨_, rfl, conv_bytes W p b c (by
      rcases h3 with h | ⟨db, off, rfl, _, h5⟩
      · exact .inl h
      · exact .inr ⟨db, off, rfl, fun i hi => h5 i hi⟩)⟩
  have hts : ((tagS l).toList == (tagS m).toList) = decide (tagS l = tagS m) := by
    by_cases h : tagS l = tagS m
    · rw [h]; simp
    · have : (tagS l).toList ≠ (tagS m).toList := fun e => h (K.bytes_eq e)
      simp [h, this]
  unfold clashL
  generalize tagS l = s1 at *
  generalize tagS m = s2 at *
  generalize txtL l = x1 at *
  generalize txtL m = x2 at *
  generalize hbt : decide (s1 = s2) = b1 at *
  generalize hbh : decide (hd l = hd m) = b3 at *
  obtain ⟨c1, hc1⟩ : ∃ c, cells8 (hd l) = c := ⟨_, rfl⟩
  obtain ⟨c2, hc2⟩ : ∃ c, cells8 (hd m) = c := ⟨_, rfl⟩
  rw [hc1] at hh1 hq
  rw [hc2] at hh2 hq
  have HT1 := Lib.hid ht1
  have HT2 := Lib.hid ht2
  have HH1 := Lib.hid hh1
  have HH2 := Lib.hid hh2
  have HQ := Lib.hid hq
  have HCV := Lib.hid hcv
  have HTS := Lib.hid hts
  have HX := Lib.hid (hse x1 x2)
  clear ht1 ht2 hh1 hh2 hq hcv hts hse hbt hbh hc1 hc2 hv hu hT
  go_enter Tryd.func40, Tryd.ntmps40
  go_wp2_with fail
  refine (HT1.out _ (Below.refl _ _)).mono ?_
  rintro e w1 ⟨t1, rfl, hu1, hb1⟩
  have HB1 := Lib.hid hb1
  have HU1 := Lib.hid hu1
  clear hb1 hu1
  go_wp2_with fail
  refine (HT2.out _ HB1.out).mono ?_
  rintro e w2 ⟨t2, rfl, hu2, hb2⟩
  have HB2 := Lib.hid (HB1.out.trans (hb2.mono HB1.out.size))
  have hu1' := (HU1.out.below hb2).mono hb2.size
  obtain ⟨p1, q1, r1, hr1⟩ : ∃ a n c, t1 = .slice a n c := by obtain ⟨a, c, h, _⟩ := hu1'; exact ⟨a, _, c, h⟩
  obtain ⟨p2, q2, r2, hr2⟩ : ∃ a n c, t2 = .slice a n c := by obtain ⟨a, c, h, _⟩ := hu2; exact ⟨a, _, c, h⟩
  subst hr1
  subst hr2
  obtain ⟨y1, hy1, v1⟩ := HCV.out _ _ _ hu1'
  obtain ⟨y2, hy2, v2⟩ := HCV.out _ _ _ hu2
  have hxe : (y1.toList == y2.toList) = decide (x1 = x2) := by rw [hy1, hy2]; exact HX.out
  generalize hbx : decide (x1 = x2) = b2 at *
  have HXE := Lib.hid hxe
  have HBX := Lib.hid hbx
  have hts := HTS.out
  have hq := HQ.out
  clear hb2 hu1' hu2 hy1 hy2 hxe hbx
  cases b1 with
  | false =>
    go_wp2_with (first
      | (go_at_call 33; with_reducible refine (HH1.out _ HB2.out).mono ?_; rintro e w3 ⟨rfl, hb3⟩; have HB3 := Lib.hid (HB2.out.trans (hb3.mono HB2.out.size)); clear hb3)
      | (go_at_call 33; with_reducible refine (HH2.out _ HB3.out).mono ?_; rintro e w4 ⟨rfl, hb4⟩; have HB4 := Lib.hid (HB3.out.trans (hb4.mono HB3.out.size)); clear hb4))
    go_returns
    exact ⟨by simp, HB4.out⟩
  | true =>
    have hxe := HXE.out
    cases b2 with
    | false =>
      go_wp2_with (first
        | (go_at_call 33; with_reducible refine (HH1.out _ HB2.out).mono ?_; rintro e w3 ⟨rfl, hb3⟩; have HB3 := Lib.hid (HB2.out.trans (hb3.mono HB2.out.size)); clear hb3)
        | (go_at_call 33; with_reducible refine (HH2.out _ HB3.out).mono ?_; rintro e w4 ⟨rfl, hb4⟩; have HB4 := Lib.hid (HB3.out.trans (hb4.mono HB3.out.size)); clear hb4))
      go_returns
      exact ⟨by simp [of_decide_eq_false HBX.out], HB4.out⟩
    | true =>
      go_wp2
      go_returns
      exact ⟨by simp [of_decide_eq_true HBX.out], HB2.out⟩
end Go.Proofs.YtfmngeemhfpeiaaDoor
