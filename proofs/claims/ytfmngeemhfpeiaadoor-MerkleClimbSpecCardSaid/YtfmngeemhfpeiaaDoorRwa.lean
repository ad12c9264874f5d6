/- merkle's reference: way. -/
import Derived.Test.YtfmngeemhfpeiaaDoorRsc
namespace Go.Proofs.YtfmngeemhfpeiaaDoor
open Go.RowKit

/-- Texts as the values xs, in none of the blocks of two rows. -/
def TxR (W : World) (o1 o2 : Option Nat) (xs : List Value) (f : Nat → List UInt8) (n : Nat) : Prop := xs.length = n ∧ ∀ j, j < n → ∃ x, xs[j]? = some x ∧ SepB W o1 o2 x (f j)
theorem TxR.moved {W W' : World} {o1 o2 o3 o4 r : Option Nat} {xs : List Value} {f : Nat → List UInt8} {n : Nat} (h : TxR W o1 o2 xs f n) (hG : W.grownBy W' r) (hr : r = o1 ∨ r = o2 ∨ r = none)
    (h3 : o3 = o1 ∨ ∃ g, o3 = some g ∧ W.heap.size ≤ g) (h4 : o4 = o2 ∨ ∃ g, o4 = some g ∧ W.heap.size ≤ g) : TxR W' o3 o4 xs f n :=
  ⟨h.1, fun j hj => by obtain ⟨x, h1, h2⟩ := h.2 j hj; exact ⟨x, h1, h2.moved hG hr h3 h4⟩⟩
theorem TxR.below {W W' : World} {o1 o2 : Option Nat} {xs : List Value} {f : Nat → List UInt8} {n : Nat} (h : TxR W o1 o2 xs f n) (hb : Below W.heap.size W W') : TxR W' o1 o2 xs f n :=
  h.moved (gbelow (row := none) hb) (.inr (.inr rfl)) (.inl rfl) (.inl rfl)
theorem TxR.snoc {W : World} {o1 o2 : Option Nat} {xs : List Value} {f : Nat → List UInt8} {n : Nat} (h : TxR W o1 o2 xs f n) {x : Value} (hx : SepB W o1 o2 x (f n)) : TxR W o1 o2 (xs ++ [x]) f (n + 1) := by
  refine ⟨by simp [h.1], fun j hj => ?_⟩
  by_cases e : j < n
  · obtain ⟨y, h1, h2⟩ := h.2 j e
    exact ⟨y, by rw [List.getElem?_append_left (by rw [h.1]; exact e)]; exact h1, h2⟩
  · obtain rfl : j = n := by omega
    exact ⟨x, by rw [List.getElem?_append_right (by rw [h.1]; exact Nat.le_refl _), h.1]; simp, hx⟩
/-- Fresh bytes lie in no older block. -/
theorem NewB.sep {B : Nat} {W : World} {v : Value} {b : List UInt8} (h : NewB B W v b) {o1 o2 : Option Nat} (h1 : ∀ g, o1 = some g → g < B) (h2 : ∀ g, o2 = some g → g < B) : SepB W o1 o2 v b := by
  refine ⟨h.2, fun _ a n c e => ?_⟩
  subst e
  have hf := h.1
  obtain ⟨g, n', c', e2, hg⟩ := hf
  injection e2 with e2 _ _
  injection e2 with e2
  subst e2
  refine ⟨fun e => ?_, fun e => ?_⟩
  · have := h1 g e.symm; omega
  · have := h2 g e.symm; omega
theorem own_texts {W : World} {B n : Nat} {v : Value} {xs : List Value} {o1 o2 : Option Nat} {f : Nat → List UInt8} (h : W.ownsRow B 34 1 v n xs) (ht : TxR W o1 o2 xs f n) (hn : 0 < n) : BRows W W.heap.size v ((List.range n).map f) := by
  have hlt := h.lt
  have hcl := @World.ownsRow.cells _ _ _ _ _ _ _ h
  rcases h.2 with ⟨_, h0⟩ | ⟨g, cap, cur, rfl, hb, hg, hnc, hc, hcs, ht2⟩
  · omega
  · have hl : ((List.range n).map f).length = n := by simp
    refine ⟨_, cap, by rw [hl], by rw [hl]; exact hnc, hc, .inr ⟨g, 0, rfl, (hlt g rfl).2, fun j hj => ?_⟩⟩
    rw [hl] at hj
    obtain ⟨x, h1, h2⟩ := ht.2 j hj
    refine ⟨x, ?_, ?_⟩
    · have h5 := hcl (g := g) rfl j x h1
      rwa [Addr.add_mid] at h5
    · simpa using h2.1
theorem wayT_succ (i m : Nat) (b : List UInt8) (p : List (List UInt8)) (k : Nat) : wayT i m b p (k + 1) = if alone (mpos i k) (msz m k) then [] else stepT (mpos i k) (mst i m (sha (leafT b)) p k) (p.getD (mcnt i m k) []) := rfl
theorem mst_succ (i m : Nat) (D0 : List UInt8) (p : List (List UInt8)) (k : Nat) : mst i m D0 p (k + 1) = if alone (mpos i k) (msz m k) then mst i m D0 p k else sha (stepT (mpos i k) (mst i m D0 p k) (p.getD (mcnt i m k) [])) := rfl

/-- What holds between two rounds. -/
structure WayI (w : World) (i N : Nat) (b : List UInt8) (p : List (List UInt8)) (k : Nat) (W : World) (v u : Value) : Prop where
  own : W.ownsRow w.heap.size 30 32 v (k + 1) (flat (wayD i N b p k))
  txt : ∃ xs, W.ownsRow w.heap.size 34 1 u (k + 1) xs ∧ TxR W v.ownBlock u.ownBlock xs (wayT i N b p) (k + 1)
  sep : v.ownBlock ≠ u.ownBlock

def c55a0 : Oper := { dst := some 42, op := Go.Op.move (Go.Operand.tmp 3), type := 25, pos := "ref.go:96", after := #[], guard := none }
def c55a1 : Oper := { dst := some 43, op := Go.Op.move (Go.Operand.tmp 13), type := 3, pos := "ref.go:96", after := #[], guard := none }
def c55a2 : Oper := { dst := some 44, op := Go.Op.indexAddr 25 (Go.Operand.tmp 42) (Go.Operand.tmp 43), type := 0, pos := "ref.go:96", after := #[{ on := 0, ground := Go.Ground.data }, { on := 1, ground := Go.Ground.data }], guard := none }
def c55a3 : Oper := { dst := some 45, op := Go.Op.load 30 (Go.Operand.tmp 44), type := 30, pos := "ref.go:96", after := #[{ on := 2, ground := Go.Ground.data }], guard := none }
def c55a4 : Oper := { dst := some 46, op := Go.Op.load 30 (Go.Operand.tmp 14), type := 30, pos := "ref.go:96", after := #[], guard := none }
def c55a5 : Oper := { dst := some 47, op := Go.Op.call { callee := Go.Callee.value (Go.Operand.func 79), args := #[Go.Operand.tmp 45, Go.Operand.tmp 46], argTypes := #[30, 30] }, type := 34, pos := "ref.go:96", after := #[{ on := 3, ground := Go.Ground.data }, { on := 4, ground := Go.Ground.data }], guard := none }
def c55a6 : Oper := { dst := some 10, op := Go.Op.assign (Go.Operand.tmp 47), type := 34, pos := "ref.go:96", after := #[{ on := 5, ground := Go.Ground.data }, { on := 5, ground := Go.Ground.chain }, { on := 0, ground := Go.Ground.phase }, { on := 1, ground := Go.Ground.phase }, { on := 2, ground := Go.Ground.phase }, { on := 3, ground := Go.Ground.phase }, { on := 4, ground := Go.Ground.phase }, { on := 5, ground := Go.Ground.phase }], guard := none }
def c55b0 : Oper := { dst := some 48, op := Go.Op.load 30 (Go.Operand.tmp 14), type := 30, pos := "ref.go:98", after := #[], guard := none }
def c55b1 : Oper := { dst := some 49, op := Go.Op.move (Go.Operand.tmp 3), type := 25, pos := "ref.go:98", after := #[], guard := none }
def c55b2 : Oper := { dst := some 50, op := Go.Op.move (Go.Operand.tmp 13), type := 3, pos := "ref.go:98", after := #[], guard := none }
def c55b3 : Oper := { dst := some 51, op := Go.Op.indexAddr 25 (Go.Operand.tmp 49) (Go.Operand.tmp 50), type := 0, pos := "ref.go:98", after := #[{ on := 1, ground := Go.Ground.data }, { on := 2, ground := Go.Ground.data }], guard := none }
def c55b4 : Oper := { dst := some 52, op := Go.Op.load 30 (Go.Operand.tmp 51), type := 30, pos := "ref.go:98", after := #[{ on := 3, ground := Go.Ground.data }], guard := none }
def c55b5 : Oper := { dst := some 53, op := Go.Op.call { callee := Go.Callee.value (Go.Operand.func 79), args := #[Go.Operand.tmp 48, Go.Operand.tmp 52], argTypes := #[30, 30] }, type := 34, pos := "ref.go:98", after := #[{ on := 0, ground := Go.Ground.data }, { on := 4, ground := Go.Ground.data }], guard := none }
def c55b6 : Oper := { dst := some 10, op := Go.Op.assign (Go.Operand.tmp 53), type := 34, pos := "ref.go:98", after := #[{ on := 5, ground := Go.Ground.data }, { on := 5, ground := Go.Ground.chain }, { on := 0, ground := Go.Ground.phase }, { on := 1, ground := Go.Ground.phase }, { on := 2, ground := Go.Ground.phase }, { on := 3, ground := Go.Ground.phase }, { on := 4, ground := Go.Ground.phase }, { on := 5, ground := Go.Ground.phase }], guard := none }

set_option maxRecDepth 100000 in
set_option maxHeartbeats 8000000 in
theorem rway_ok (w : World) (i N : Nat) (v pv : Value) (b : List UInt8) (p : List (List UInt8)) (hv : BytesAt w w.heap.size v b) (hb : b.length ≤ 800000) (hp : Digs w w.heap.size pv p) (hi : i < N) (hq : N ≤ 65536) (hpl : p.length = mlen i N) :
    Calls Tryd.prog 55 #[.int .i64 (N : Int), .int .i64 (i : Int), v, pv] w fun e w' => ∃ vl vt, e = .returned (.tuple #[vl, vt]) ∧ Digs w' w'.heap.size vl (wayD i N b p (mrows N)) ∧ BRows w' w'.heap.size vt ((List.range (mrows N + 1)).map (wayT i N b p)) ∧ Below w.heap.size w w' := by
  have HT1 := Lib.hid (rmtext_new w { data := #[108, 101, 97, 102] } v b hv (by decide) (by omega))
  have hm16 := mrows_le 16 N (by omega)
  have HPL := Lib.hid hpl
  have HD0 : Hid (mst i N (sha (leafT b)) p 0 = sha (leafT b)) := Lib.hid rfl
  have hcl : (cells8 (sha (leafT b))).length = 32 := by rw [cells8_len, sha_len]
  have ho1 := one_cells8 (sha (leafT b))
  have HSU := Lib.hid (fun (W : World) (v' : Value) (hv' : BytesAt W W.heap.size v' (leafT b)) => rsum_any W v' (leafT b) hv' (by rw [leafT_len]; omega))
  simp only [dv_eq] at HSU
  have HW0 : Hid (wayD i N b p 0 = [sha (leafT b)]) := Lib.hid rfl
  obtain ⟨D, hD⟩ : ∃ D, cells8 (sha (leafT b)) = D := ⟨_, rfl⟩
  simp only [hD] at HSU
  rw [hD] at hcl ho1
  have HDE := Lib.hid hD
  have HCL := Lib.hid hcl
  obtain ⟨va, L, vc, rfl⟩ : ∃ a n c, v = .slice a n c := by obtain ⟨a, c, e, _⟩ := hv; exact ⟨a, _, c, e⟩
  obtain ⟨h32, pa, pc, rfl, hPc, hPm, hprow⟩ := hp
  have HPR := Lib.hid hprow
  have H32 := Lib.hid h32
  obtain ⟨P, hP⟩ : ∃ P, p.length = P := ⟨_, rfl⟩
  rw [hP] at hPc ⊢
  have HP := Lib.hid hP
  unfold maxLen at hPm
  clear hv hb hpl hcl ho1 hD hprow h32 hP
  go_enter Tryd.func55, Tryd.ntmps55
  go_wp2_with fail
  refine HT1.out.mono ?_
  rintro e w1 ⟨v1, rfl, hn1, hb1⟩
  have hlt : sha ({ data := #[108, 101, 97, 102] } : ByteArray).data.toList ++ b = leafT b := rfl
  rw [hlt] at hn1
  have HN1 := Lib.hid hn1
  have HB1 := Lib.hid hb1
  clear hb1 hn1 hlt
  go_wp2_with fail
  refine (HSU.out w1 v1 HN1.out.2).mono ?_
  rintro e w2 ⟨rfl, hb2⟩
  have HB2 := Lib.hid (HB1.out.trans (hb2.mono HB1.out.size))
  obtain ⟨g1, t1, c1, rfl, hg1⟩ := HN1.out.1
  have HN2 := Lib.hid (HN1.out.below hb2)
  clear hb2
  go_wp2_with (refine wpList_buildSlice_run rfl 25 1 [(0, .tmp 18)] (by rfl) [(0, .agg D.toArray)] _ (by rfl) (run_buildSlice1 w2 D.toArray (by simpa using HCL.out)) ?_; simp only [Act.put, List.setIfInBounds_toArray, List.set_cons_zero, List.set_cons_succ])
  have hWI : WayI w i N b p 0 ((w2.alloc (.cells D.toArray 30)).alloc (.cells #[.slice (some ⟨g1, 0, none⟩) t1 c1] 34)) (.slice (some ⟨w2.heap.size, 0, none⟩) 1 1) (.slice (some ⟨w2.heap.size + 1, 0, none⟩) 1 1) := by
    have hs2 := HB2.out.size
    have e1 : (w2.alloc (.cells D.toArray 30)).heap.size = w2.heap.size + 1 := World.size_alloc _ _
    have hb1 : Below w2.heap.size w2 (w2.alloc (.cells D.toArray 30)) := (Below.refl _ _).alloc (Nat.le_refl _) _
    have hb2 : Below (w2.alloc (.cells D.toArray 30)).heap.size (w2.alloc (.cells D.toArray 30)) ((w2.alloc (.cells D.toArray 30)).alloc (.cells #[.slice (some ⟨g1, 0, none⟩) t1 c1] 34)) := (Below.refl _ _).alloc (Nat.le_refl _) _
    have o1 := own_single (w := w2) (base := w.heap.size) (e := 30) (size := 32) D hs2 HCL.out
    have o2 := own_single (w := w2.alloc (.cells D.toArray 30)) (base := w.heap.size) (e := 34) (size := 1) [.slice (some ⟨g1, 0, none⟩) t1 c1] (by omega) rfl
    rw [e1] at o2
    have hg1 : g1 < w2.heap.size := by
      obtain ⟨a, c, e, _, _, h⟩ := HN2.out.2
      obtain ⟨g, off, h3, h4, _⟩ := h.resolve_left (leafT_ne b)
      injection e with e2 _ _
      rw [h3] at e2
      injection e2 with e2
      injection e2 with e2
      omega
    refine ⟨?_, ⟨[.slice (some ⟨g1, 0, none⟩) t1 c1], o2, ⟨rfl, fun j hj => ?_⟩⟩, by simp [Value.ownBlock]⟩
    · rw [HW0.out, show flat [sha (leafT b)] = D from by rw [← HDE.out]; simp [flat]]
      exact own_after hb2 o1
    · obtain rfl : j = 0 := by omega
      refine ⟨_, rfl, ⟨((HN2.out.below hb1).below hb2).2, fun _ a n c e => ?_⟩⟩
      injection e with e _ _
      injection e with e
      subst e
      simp [Value.ownBlock]
      omega
  have HWI := Lib.hid hWI
  clear hWI
  go_loopw [0, 1, 11, 12, 13] (fun s0 s1 s11 s12 s13 wr => ∃ k n t c : Nat, s0 = .int .i64 (n : Int) ∧ s1 = .int .i64 (t : Int) ∧ s13 = .int .i64 (c : Int) ∧ k ≤ mrows N ∧ 1 ≤ n ∧ n ≤ N ∧ t < n ∧ c ≤ k ∧ Below w.heap.size w wr ∧ Hid (msz N k = n) ∧ Hid (mpos i k = t) ∧ Hid (mcnt i N k = c) ∧ Hid (WayI w i N b p k wr s11 s12)) (fun s0 _ _ _ _ _ => (intOf s0).toNat)
  case atStart => exact ⟨0, N, i, 0, rfl, rfl, rfl, by omega, by omega, by omega, hi, by omega, (HB2.out.alloc HB2.out.size _).alloc (by rw [World.size_alloc]; have := HB2.out.size; omega) _, Lib.hid rfl, Lib.hid rfl, Lib.hid rfl, HWI⟩
  case round =>
    obtain ⟨k, n, t, c, rfl, rfl, rfl, hkm, hn1, hnN, htn, hck, hB, HMS, HMP, HMC, HI⟩ := hrel
    have HB := Lib.hid hB
    clear hB HWI
    by_cases hgt : 1 < n
    · skip
      have f1 : decide ((n : Int) > 1) = true := by simp; omega
      have f2 : decide ((1 : Int) < (n : Int)) = true := by simp; omega
      have f0 : decide (1 < n) = true := by simp; omega
      have iwc : IntKind.i64.wrap ((c : Int) + 1) = (c : Int) + 1 := by rw [IntKind.wrap_i64]; omega
      have iwn : IntKind.i64.wrap ((n : Int) + 1) = (n : Int) + 1 := by rw [IntKind.wrap_i64]; omega
      have iwt : IntKind.i64.wrap ((t : Int) + 1) = (t : Int) + 1 := by rw [IntKind.wrap_i64]; omega
      have iw8 : IntKind.i64.wrap (((n : Int) + 1).tdiv 2) = (((n + 1) / 2 : Nat) : Int) := by rw [Int.tdiv_eq_ediv_of_nonneg (by omega), IntKind.wrap_i64]; omega
      have iw9 : IntKind.i64.wrap ((t : Int).tdiv 2) = ((t / 2 : Nat) : Int) := by rw [Int.tdiv_eq_ediv_of_nonneg (by omega), IntKind.wrap_i64]; omega
      have hk2 := (mrows_iff k N).2 (by rw [HMS.out]; exact hgt)
      have hx1 : Hid (mpos i (k + 1) = t / 2) := Lib.hid (by show mpos i k / 2 = _; rw [HMP.out])
      have hx2 : Hid (msz N (k + 1) = (n + 1) / 2) := Lib.hid (by show (msz N k + 1) / 2 = _; rw [HMS.out])
      obtain ⟨ho, ⟨xs, hx, htx⟩, hsep⟩ := HI.out
      obtain ⟨g11, p11, rfl⟩ := own_head ho (by omega)
      obtain ⟨g12, p12, rfl⟩ := own_head hx (by omega)
      have hne : g11 ≠ g12 := by simpa [Value.ownBlock] using hsep
      have hg11 := (ho.lt g11 rfl).2
      have hg12 := (hx.lt g12 rfl).2
      have hdl : (mst i N (sha (leafT b)) p k).length = 32 := mst_len i N (sha_len _) p k
      have hdg := own_digs' ho (wayD_len i N b p k) (fun y hy => by
        obtain ⟨j, _, rfl⟩ := List.mem_map.1 hy
        exact mst_len i N (sha_len _) p j)
      obtain ⟨_, a', c', e', _, _, hr⟩ := hdg
      obtain ⟨b', off', e2, _, hr⟩ := hr.resolve_left (fun e => by have h := wayD_len i N b p k; rw [e] at h; simp at h)
      have hra := hr k (by rw [wayD_len]; omega)
      rw [wayD_get] at hra
      injection e' with e3 e6 e7
      rw [e2] at e3
      injection e3 with e3
      injection e3 with e4 e5
      rw [← e4, ← e5, Nat.zero_add] at hra
      clear hr e2 e4 e5 e6 e7 hsep
      have HO := Lib.hid ho
      have HX := Lib.hid hx
      have HTX : Hid (TxR wr (some g11) (some g12) xs (wayT i N b p) (k + 1)) := Lib.hid htx
      have HWS : Hid (flat (wayD i N b p (k + 1)) = flat (wayD i N b p k) ++ cells8 (mst i N (sha (leafT b)) p (k + 1))) := Lib.hid (by rw [wayD_succ, flat_snoc])
      obtain ⟨d, hd⟩ : ∃ d, mst i N (sha (leafT b)) p k = d := ⟨_, rfl⟩
      rw [hd] at hra hdl
      have HDD := Lib.hid hd
      have HDL32 := Lib.hid hdl
      have lcd : (cells8 d).length = 32 := by rw [cells8_len, hdl]
      have hd1 := one_cells8 d
      obtain ⟨cd, hcd⟩ : ∃ c, cells8 d = c := ⟨_, rfl⟩
      rw [hcd] at hra lcd hd1
      have HCD := Lib.hid hcd
      have HZD : Hid ((Tryd.prog.info? 30).map (·.size) = some cd.length) := by show _ = _; rw [lcd]; exact Tryd.info30
      have HDL := Lib.hid lcd
      have HDO := Lib.hid hd1
      have HRA := Lib.hid hra
      clear ho hx htx hd hdl lcd hd1 hra hcd HI
      obtain ⟨M, hM⟩ : ∃ M, k + 1 = M := ⟨_, rfl⟩
      have iwM : IntKind.i64.wrap ((M : Int) - 1) = (k : Int) := by rw [IntKind.wrap_i64]; omega
      have hkM : (k : Int) < (M : Int) := by omega
      rw [hM] at HO HX HTX ⊢
      have hM17 : M ≤ 17 := by omega
      have HM := Lib.hid hM
      clear hM
      go_upto_region 7 with (first
        | (refine wpList_load_mid rfl 30 (.tmp 28) (by rfl) g11 (k * 32) (by rfl) cd _ HRA.out Tryd.underlying30 rfl HZD.out ?_)
        | (refine wpList_world (fun X => Below wr.heap.size wr X ∧ Arr X wr.heap.size (cells8 (List.replicate 32 0)) ∧ wr.heap.size < X.heap.size) ⟨by go_grown, Arr.new wr _ 30, by simp⟩ ?_; rintro Xa ⟨hBa, hDa, hza⟩)
        | (refine store_new2 rfl 30 _ _ (by rfl) wr.heap.size wr.heap.size cd _ (by rfl) (by rfl) hBa (Nat.le_refl _) hDa (by rw [HDL.out]; rfl) HZD.out HDO.out ?_; intro W1 hB hA hO hz; have HB1 := Lib.hid hB; have HA1 := Lib.hid hA; have hz1 : wr.heap.size < W1.heap.size := Nat.lt_of_lt_of_le hza hz; clear hB hA hO hz hBa hDa hza))
      have HO1 := Lib.hid (own_after HB1.out HO.out)
      have HX1 := Lib.hid (own_after HB1.out HX.out)
      have HT1x := Lib.hid (HTX.out.below HB1.out)
      have HBW := Lib.hid (HB.out.trans (HB1.out.mono HB.out.size))
      by_cases hodd : t % 2 = 1
      · skip
        have m1 : (t : Int).tmod 2 = 1 := by rw [Int.tmod_eq_emod_of_nonneg (by omega)]; omega
        have m4 : (t : Int) % 2 = 1 := by omega
        have iwm : IntKind.i64.wrap ((t : Int).tmod 2) = 1 := by rw [m1]; rfl
        have ha : alone t n = false := by unfold alone; rw [oth_eq, if_neg (by omega)]; simp; omega
        have hot : oth t < t := by rw [oth_eq, if_neg (by omega)]; omega
        have HCN : Hid (mcnt i N (k + 1) = c + 1) := Lib.hid (by
          rw [mcnt_succ, HMC.out, HMS.out, HMP.out, ha]
          simp)
        have hcP : c < P := by
          have h1 := mcnt_mono i N (show k + 1 ≤ mrows N by omega)
          have h2 := HPL.out
          have h3 := HP.out
          have h4 := HCN.out
          unfold mlen at h2
          omega
        have hcl : c < p.length := by rw [HP.out]; exact hcP
        have HTK : Hid (wayT i N b p (k + 1) = nodeT p[c] d) := Lib.hid (by
          rw [wayT_succ, HMC.out, HMS.out, HMP.out, ha, if_neg (by simp), HDD.out, List.getD_eq_getElem?_getD, List.getElem?_eq_getElem hcl]
          unfold stepT
          rw [if_pos hot]
          rfl)
        have HMK : Hid (mst i N (sha (leafT b)) p (k + 1) = sha (nodeT p[c] d)) := Lib.hid (by
          rw [mst_succ, HMC.out, HMS.out, HMP.out, ha, if_neg (by simp), HDD.out, List.getD_eq_getElem?_getD, List.getElem?_eq_getElem hcl]
          unfold stepT
          rw [if_pos hot]
          rfl)
        obtain ⟨pb, poff, rfl, hpb, hpr⟩ := HPR.out.resolve_left (fun e => by rw [e] at hcl; simp at hcl)
        have hra := hpr c hcl
        have la := H32.out _ (List.getElem_mem hcl)
        obtain ⟨x, hx⟩ : ∃ x, p[c] = x := ⟨_, rfl⟩
        rw [hx] at hra la HTK HMK
        have HTW := Lib.hid (fun (W : World) => rtwo_new W x d la HDL32.out)
        have HSS := Lib.hid (fun (W : World) (v' : Value) (hv' : BytesAt W W.heap.size v' (nodeT x d)) => rsum_any W v' (nodeT x d) hv' (by rw [nodeT_len, la, HDL32.out]; omega))
        simp only [dv_eq] at HSS
        have lca : (cells8 x).length = 32 := by rw [cells8_len, la]
        have lcn : (cells8 (sha (nodeT x d))).length = 32 := by rw [cells8_len, sha_len]
        have hn1 := one_cells8 (sha (nodeT x d))
        obtain ⟨cp, hcp⟩ : ∃ c, cells8 x = c := ⟨_, rfl⟩
        rw [hcp] at hra lca HTW
        rw [HCD.out] at HTW
        obtain ⟨Tx, hTx⟩ : ∃ y, nodeT x d = y := ⟨_, rfl⟩
        rw [hTx] at HTW HSS HTK HMK lcn hn1
        obtain ⟨Dn, hDn⟩ : ∃ c, cells8 (sha Tx) = c := ⟨_, rfl⟩
        simp only [hDn] at HSS
        rw [hDn] at lcn hn1
        have HZA : Hid ((Tryd.prog.info? 30).map (·.size) = some cp.length) := by show _ = _; rw [lca]; exact Tryd.info30
        have HFD : Hid (flat (wayD i N b p (k + 1)) = flat (wayD i N b p k) ++ Dn) := Lib.hid (by rw [HWS.out, HMK.out, hDn])
        have HNL := Lib.hid lcn
        have HNO := Lib.hid hn1
        have q1 : (c : Int) < (P : Int) := by omega
        have AX : Hid (∀ W, Kept W1 W → W.rangeAt pb (poff + c * 32) cp) := Lib.hid fun W hW j v hv => ((HBW.out.trans (hW.below.mono HBW.out.size)).cell (p := ⟨pb, poff + c * 32 + j, none⟩) hpb).trans (hra j v hv)
        have AP : Hid (∀ W, Kept W1 W → W.rangeAt wr.heap.size 0 cd) := Lib.hid fun W hW => (HA1.out.below hW.below hz1).at_
        clear ha hot hcl hpr hra la hx lca lcn hn1 hcp hTx hDn HWS
        go_upto_region 9 with fail
        refine wp_region_held_drew (S := fun W => Kept W1 W) (by kernel_rfl) (Kept.drew (Kept.refl W1)) (fun hHeld => ?_)
        refine wpAnyH_take (i := 0) (oi := c55a0) (v := ?_) rfl (by kernel_rfl) (by kernel_rfl) (by kernel_rfl) (fun _ _ _ h => h) (Or.inl ⟨by rfl, ?_⟩) hHeld ?_
        rotate_left
        · (intro w hSw; (try dsimp only at hSw); unfold c55a0; go_simp <;> with_reducible rfl)
        try simp only [c55a0, Act.put, List.setIfInBounds_toArray, List.set_cons_zero, List.set_cons_succ]
        refine wpAnyH_take (i := 1) (oi := c55a1) (v := ?_) rfl (by kernel_rfl) (by kernel_rfl) (by kernel_rfl) (fun _ _ _ h => h) (Or.inl ⟨by rfl, ?_⟩) hHeld ?_
        rotate_left
        · (intro w hSw; (try dsimp only at hSw); unfold c55a1; go_simp <;> with_reducible rfl)
        try simp only [c55a1, Act.put, List.setIfInBounds_toArray, List.set_cons_zero, List.set_cons_succ]
        refine wpAnyH_take (i := 2) (oi := c55a2) (v := ?_) rfl (by kernel_rfl) (by kernel_rfl) (by kernel_rfl) (fun _ _ _ h => h) (Or.inl ⟨by rfl, ?_⟩) hHeld ?_
        rotate_left
        · (intro w hSw; (try dsimp only at hSw); unfold c55a2; go_simp <;> with_reducible rfl)
        try simp only [c55a2, Act.put, List.setIfInBounds_toArray, List.set_cons_zero, List.set_cons_succ]
        refine wpAnyH_take (i := 3) (oi := c55a3) rfl (by kernel_rfl) (by kernel_rfl) (by kernel_rfl) (fun _ _ _ h => h) (yieldsIf_load_mid (by rfl) 30 (.tmp 44) (by rfl) pb (poff + c * 32) (by rfl) cp _ (fun w hSw => AX.out w hSw) Tryd.underlying30 rfl HZA.out) hHeld ?_
        try simp only [c55a3, Act.put, List.setIfInBounds_toArray, List.set_cons_zero, List.set_cons_succ]
        refine wpAnyH_take (i := 4) (oi := c55a4) rfl (by kernel_rfl) (by kernel_rfl) (by kernel_rfl) (fun _ _ _ h => h) (yieldsIf_load_mid (by rfl) 30 (.tmp 14) (by rfl) wr.heap.size 0 (by rfl) cd _ (fun w hSw => AP.out w hSw) Tryd.underlying30 rfl HZD.out) hHeld ?_
        try simp only [c55a4, Act.put, List.setIfInBounds_toArray, List.set_cons_zero, List.set_cons_succ]
        refine wpAnyH_ready (rs := [5]) (by kernel_rfl) (by simp) ?_
        refine AllReadyH.cons (o := c55a5) rfl (fun K hK => ?_) AllReadyH.nil
        rw [if_pos (by rfl)]
        unfold c55a5
        go_simp
        (with_reducible refine (HTW.out _).mono ?_)
        rintro e W5 ⟨v5, rfl, hn5, hB5⟩
        have hSZ := hHeld.below.size
        have hn5' : NewB W1.heap.size W5 v5 Tx := ⟨hn5.1.mono hSZ, hn5.2⟩
        have hS5 := hHeld.next hB5
        go_wp2_with fail
        refine hK.out _ _ hS5 (fun hHeld => ?_)
        clear hK K
        try simp only [c55a5, Act.put, List.setIfInBounds_toArray, List.set_cons_zero, List.set_cons_succ]
        refine wpAnyH_take (i := 6) (oi := c55a6) (v := ?_) rfl (by kernel_rfl) (by kernel_rfl) (by kernel_rfl) (fun _ _ _ h => h) (Or.inl ⟨by rfl, ?_⟩) hHeld ?_
        rotate_left
        · (intro w hSw; (try dsimp only at hSw); unfold c55a6; go_simp <;> with_reducible rfl)
        try simp only [c55a6, Act.put, List.setIfInBounds_toArray, List.set_cons_zero, List.set_cons_succ]
        refine wpAnyH_done (by kernel_rfl) ?_ _
        have HK5 := Lib.hid (Kept.below hHeld)
        have HN5 := Lib.hid hn5'
        clear hHeld hn5 hn5' hS5 hB5 hSZ
        have HB5 := Lib.hid (HBW.out.trans (HK5.out.mono HBW.out.size))
        have HO5 := Lib.hid (own_after HK5.out HO1.out)
        have HX5 := Lib.hid (own_after HK5.out HX1.out)
        have HT5 := Lib.hid (HT1x.out.below HK5.out)
        clear HTW AX AP
        go_wp2_with fail
        refine (HSS.out W5 v5 HN5.out.2).mono ?_
        rintro e W6 ⟨rfl, hb6⟩
        have HB6 := Lib.hid (HB5.out.trans (hb6.mono HB5.out.size))
        have HO6 := Lib.hid (own_after hb6 HO5.out)
        have HX6 := Lib.hid (own_after hb6 HX5.out)
        have HT6 := Lib.hid (HT5.out.below hb6)
        have hsp : SepB W6 (some g11) (some g12) v5 (wayT i N b p (k + 1)) := by
          rw [HTK.out]
          refine (NewB.sep HN5.out (fun g e => ?_) (fun g e => ?_)).moved (gbelow (row := none) hb6) (.inr (.inr rfl)) (.inl rfl) (.inl rfl)
          · cases e; omega
          · cases e; omega
        obtain ⟨g5, t5, c5, rfl, _⟩ := HN5.out.1
        have HS6 := Lib.hid hsp
        clear hb6 hsp
        go_wp2_with (first
          | (refine wpList_plain rfl fun K hK => wp_one30 (.tmp 56) (by rfl) Dn (by rfl) HNL.out ?_
             intro g7 W7 hg7 hlt7 hG7 hr7
             have hB7 : Below W6.heap.size W6 W7 := (Below.refl _ _).grown hG7 (Nat.le_refl _) (fun k e => by cases e)
             obtain ⟨v8, W8, r8, hrun8, hO8, hG8, hR8, hr8, hv8⟩ := digs_app2 (own_after hB7 HO6.out) (by have := HB6.out.size; have := hB7.size; omega) g7 HNL.out HNO.out hr7 (by omega)
             have HR8 := Lib.hid hrun8
             have HO8 := Lib.hid hO8
             have hs7 := (HB6.out.trans (hB7.mono HB6.out.size)).size
             have HB8 := Lib.hid ((HB6.out.trans (hB7.mono HB6.out.size)).grown hG8 hs7 (fun k e => (hR8 k e).1))
             have hlt12 := (HX6.out.lt g12 rfl).2
             have HX8 := Lib.hid ((own_after hB7 HX6.out).kept hG8 (.inr (by rw [hr8]; simp [Value.ownBlock]; omega)))
             have hv8' : v8.ownBlock = some g11 ∨ ∃ g, v8.ownBlock = some g ∧ W7.heap.size ≤ g := by
               rcases hv8 with h | h
               · exact .inl h
               · exact .inr ⟨_, h, Nat.le_refl _⟩
             have HT8 : Hid (TxR W8 v8.ownBlock (some g12) xs (wayT i N b p) M) := Lib.hid ((HT6.out.below hB7).moved hG8 (.inl hr8) hv8' (.inl rfl))
             have HS8 : Hid (SepB W8 v8.ownBlock (some g12) (.slice (some ⟨g5, 0, none⟩) t5 c5) (wayT i N b p (k + 1))) := Lib.hid ((HS6.out.moved (gbelow (row := none) hB7) (.inr (.inr rfl)) (.inl rfl) (.inl rfl)).moved hG8 (.inl hr8) hv8' (.inl rfl))
             have HV8 : Hid (v8.ownBlock ≠ some g12 ∧ ∀ g, v8.ownBlock = some g → g < W8.heap.size) := Lib.hid ⟨by
               have hz7 := hB7.size
               rcases hv8' with h | ⟨g, h, hg⟩
               · rw [h]; simpa using hne
               · rw [h]; simp; omega, fun g h => (hO8.lt g h).2⟩
             clear hrun8 hO8 hB7 hr7 hG7 hG8 hR8 hr8 hv8 hv8' hs7 hlt12
             refine hK _ _ ?_)
          | (refine wpList_plain rfl fun K hK => wp_app_run (.tmp 54) (.tmp 57) 25 25 (by rfl) _ _ _ _ (by rfl) (by rfl) HR8.out (hK _ _ ?_))
          | (refine wpList_world (fun X => Below W8.heap.size W8 X ∧ X.cell? ⟨W8.heap.size, 0, none⟩ = some (.slice (some ⟨g5, 0, none⟩) t5 c5)) ⟨by go_grown, by simp⟩ ?_
             rintro W9 ⟨hB9, hc9⟩
             have hs9 := (HB8.out.trans (hB9.mono HB8.out.size)).size
             obtain ⟨v10, W10, hrun10, hX10, hG10, hv10⟩ := text_app (own_after hB9 HX8.out) hs9 W8.heap.size _ _ _ hc9 (by omega)
             have HR10 := Lib.hid hrun10
             have hlt10 := ((own_after hB9 HX8.out).lt g12 rfl)
             have HB10 := Lib.hid ((HB8.out.trans (hB9.mono HB8.out.size)).grown hG10 hs9 (fun k e => by simp [Value.ownBlock] at e; omega))
             have hv10' : v10.ownBlock = some g12 ∨ ∃ g, v10.ownBlock = some g ∧ W9.heap.size ≤ g := by
               rcases hv10 with h | h
               · exact .inl h
               · exact .inr ⟨_, h, Nat.le_refl _⟩
             have HWI : Hid (WayI w i N b p (k + 1) W10 v8 v10) := Lib.hid ⟨by
                 rw [HFD.out, HM.out]
                 exact (own_after hB9 HO8.out).kept hG10 (.inr HV8.out.1), ⟨_, by rw [HM.out]; exact hX10, by
                 rw [HM.out]
                 have h1 := HT8.out.below hB9
                 have h2 := HS8.out.moved (gbelow (row := none) hB9) (.inr (.inr rfl)) (.inl rfl) (.inl rfl)
                 rw [HM.out] at h2
                 exact (h1.snoc h2).moved hG10 (.inr (.inl rfl)) (.inl rfl) hv10'⟩, by
                 rcases hv10' with h | ⟨g, h, hg⟩
                 · rw [h]; exact HV8.out.1
                 · rw [h]
                   intro e
                   have h3 := HV8.out.2 g e
                   have h4 := hB9.size
                   omega⟩
             clear hrun10 hX10 hG10 hv10 hv10' hlt10 hs9 hB9 hc9
             )
          | (refine wpList_plain rfl fun K hK => wp_app_run (.tmp 59) (.tmp 61) 22 22 (by rfl) _ _ _ _ (by rfl) (by rfl) HR10.out (hK _ _ ?_)))
        go_roundw
        case rel => exact ⟨k + 1, (n + 1) / 2, t / 2, c + 1, by simp, by simp, by simp, by omega, by omega, by omega, by omega, by omega, HB10.out, hx2, hx1, HCN, HWI⟩
        case measure => simp [intOf]; omega
      have m1 : (t : Int).tmod 2 = 0 := by rw [Int.tmod_eq_emod_of_nonneg (by omega)]; omega
      have m4 : (t : Int) % 2 = 0 := by omega
      have iwm : IntKind.i64.wrap ((t : Int).tmod 2) = 0 := by rw [m1]; rfl
      by_cases hal : t + 1 < n
      · skip
        have f3 : decide ((t : Int) + 1 < (n : Int)) = true := by simp; omega
        have f4 : decide (t + 1 < n) = true := by simp; omega
        have ha : alone t n = false := by unfold alone; rw [oth_eq, if_pos (by omega)]; simp; omega
        have hot : ¬ oth t < t := by rw [oth_eq, if_pos (by omega)]; omega
        have HCN : Hid (mcnt i N (k + 1) = c + 1) := Lib.hid (by
          rw [mcnt_succ, HMC.out, HMS.out, HMP.out, ha]
          simp)
        have hcP : c < P := by
          have h1 := mcnt_mono i N (show k + 1 ≤ mrows N by omega)
          have h2 := HPL.out
          have h3 := HP.out
          have h4 := HCN.out
          unfold mlen at h2
          omega
        have hcl : c < p.length := by rw [HP.out]; exact hcP
        have HTK : Hid (wayT i N b p (k + 1) = nodeT d p[c]) := Lib.hid (by
          rw [wayT_succ, HMC.out, HMS.out, HMP.out, ha, if_neg (by simp), HDD.out, List.getD_eq_getElem?_getD, List.getElem?_eq_getElem hcl]
          unfold stepT
          rw [if_neg hot]
          rfl)
        have HMK : Hid (mst i N (sha (leafT b)) p (k + 1) = sha (nodeT d p[c])) := Lib.hid (by
          rw [mst_succ, HMC.out, HMS.out, HMP.out, ha, if_neg (by simp), HDD.out, List.getD_eq_getElem?_getD, List.getElem?_eq_getElem hcl]
          unfold stepT
          rw [if_neg hot]
          rfl)
        obtain ⟨pb, poff, rfl, hpb, hpr⟩ := HPR.out.resolve_left (fun e => by rw [e] at hcl; simp at hcl)
        have hra := hpr c hcl
        have la := H32.out _ (List.getElem_mem hcl)
        obtain ⟨x, hx⟩ : ∃ x, p[c] = x := ⟨_, rfl⟩
        rw [hx] at hra la HTK HMK
        have HTW := Lib.hid (fun (W : World) => rtwo_new W d x HDL32.out la)
        have HSS := Lib.hid (fun (W : World) (v' : Value) (hv' : BytesAt W W.heap.size v' (nodeT d x)) => rsum_any W v' (nodeT d x) hv' (by rw [nodeT_len, la, HDL32.out]; omega))
        simp only [dv_eq] at HSS
        have lca : (cells8 x).length = 32 := by rw [cells8_len, la]
        have lcn : (cells8 (sha (nodeT d x))).length = 32 := by rw [cells8_len, sha_len]
        have hn1 := one_cells8 (sha (nodeT d x))
        obtain ⟨cp, hcp⟩ : ∃ c, cells8 x = c := ⟨_, rfl⟩
        rw [hcp] at hra lca HTW
        rw [HCD.out] at HTW
        obtain ⟨Tx, hTx⟩ : ∃ y, nodeT d x = y := ⟨_, rfl⟩
        rw [hTx] at HTW HSS HTK HMK lcn hn1
        obtain ⟨Dn, hDn⟩ : ∃ c, cells8 (sha Tx) = c := ⟨_, rfl⟩
        simp only [hDn] at HSS
        rw [hDn] at lcn hn1
        have HZA : Hid ((Tryd.prog.info? 30).map (·.size) = some cp.length) := by show _ = _; rw [lca]; exact Tryd.info30
        have HFD : Hid (flat (wayD i N b p (k + 1)) = flat (wayD i N b p k) ++ Dn) := Lib.hid (by rw [HWS.out, HMK.out, hDn])
        have HNL := Lib.hid lcn
        have HNO := Lib.hid hn1
        have q1 : (c : Int) < (P : Int) := by omega
        have AX : Hid (∀ W, Kept W1 W → W.rangeAt pb (poff + c * 32) cp) := Lib.hid fun W hW j v hv => ((HBW.out.trans (hW.below.mono HBW.out.size)).cell (p := ⟨pb, poff + c * 32 + j, none⟩) hpb).trans (hra j v hv)
        have AP : Hid (∀ W, Kept W1 W → W.rangeAt wr.heap.size 0 cd) := Lib.hid fun W hW => (HA1.out.below hW.below hz1).at_
        clear ha hot hcl hpr hra la hx lca lcn hn1 hcp hTx hDn HWS
        go_upto_region 10 with fail
        refine wp_region_held_drew (S := fun W => Kept W1 W) (by kernel_rfl) (Kept.drew (Kept.refl W1)) (fun hHeld => ?_)
        refine wpAnyH_take (i := 0) (oi := c55b0) rfl (by kernel_rfl) (by kernel_rfl) (by kernel_rfl) (fun _ _ _ h => h) (yieldsIf_load_mid (by rfl) 30 (.tmp 14) (by rfl) wr.heap.size 0 (by rfl) cd _ (fun w hSw => AP.out w hSw) Tryd.underlying30 rfl HZD.out) hHeld ?_
        try simp only [c55b0, Act.put, List.setIfInBounds_toArray, List.set_cons_zero, List.set_cons_succ]
        refine wpAnyH_take (i := 1) (oi := c55b1) (v := ?_) rfl (by kernel_rfl) (by kernel_rfl) (by kernel_rfl) (fun _ _ _ h => h) (Or.inl ⟨by rfl, ?_⟩) hHeld ?_
        rotate_left
        · (intro w hSw; (try dsimp only at hSw); unfold c55b1; go_simp <;> with_reducible rfl)
        try simp only [c55b1, Act.put, List.setIfInBounds_toArray, List.set_cons_zero, List.set_cons_succ]
        refine wpAnyH_take (i := 2) (oi := c55b2) (v := ?_) rfl (by kernel_rfl) (by kernel_rfl) (by kernel_rfl) (fun _ _ _ h => h) (Or.inl ⟨by rfl, ?_⟩) hHeld ?_
        rotate_left
        · (intro w hSw; (try dsimp only at hSw); unfold c55b2; go_simp <;> with_reducible rfl)
        try simp only [c55b2, Act.put, List.setIfInBounds_toArray, List.set_cons_zero, List.set_cons_succ]
        refine wpAnyH_take (i := 3) (oi := c55b3) (v := ?_) rfl (by kernel_rfl) (by kernel_rfl) (by kernel_rfl) (fun _ _ _ h => h) (Or.inl ⟨by rfl, ?_⟩) hHeld ?_
        rotate_left
        · (intro w hSw; (try dsimp only at hSw); unfold c55b3; go_simp <;> with_reducible rfl)
        try simp only [c55b3, Act.put, List.setIfInBounds_toArray, List.set_cons_zero, List.set_cons_succ]
        refine wpAnyH_take (i := 4) (oi := c55b4) rfl (by kernel_rfl) (by kernel_rfl) (by kernel_rfl) (fun _ _ _ h => h) (yieldsIf_load_mid (by rfl) 30 (.tmp 51) (by rfl) pb (poff + c * 32) (by rfl) cp _ (fun w hSw => AX.out w hSw) Tryd.underlying30 rfl HZA.out) hHeld ?_
        try simp only [c55b4, Act.put, List.setIfInBounds_toArray, List.set_cons_zero, List.set_cons_succ]
        refine wpAnyH_ready (rs := [5]) (by kernel_rfl) (by simp) ?_
        refine AllReadyH.cons (o := c55b5) rfl (fun K hK => ?_) AllReadyH.nil
        rw [if_pos (by rfl)]
        unfold c55b5
        go_simp
        (with_reducible refine (HTW.out _).mono ?_)
        rintro e W5 ⟨v5, rfl, hn5, hB5⟩
        have hSZ := hHeld.below.size
        have hn5' : NewB W1.heap.size W5 v5 Tx := ⟨hn5.1.mono hSZ, hn5.2⟩
        have hS5 := hHeld.next hB5
        go_wp2_with fail
        refine hK.out _ _ hS5 (fun hHeld => ?_)
        clear hK K
        try simp only [c55b5, Act.put, List.setIfInBounds_toArray, List.set_cons_zero, List.set_cons_succ]
        refine wpAnyH_take (i := 6) (oi := c55b6) (v := ?_) rfl (by kernel_rfl) (by kernel_rfl) (by kernel_rfl) (fun _ _ _ h => h) (Or.inl ⟨by rfl, ?_⟩) hHeld ?_
        rotate_left
        · (intro w hSw; (try dsimp only at hSw); unfold c55b6; go_simp <;> with_reducible rfl)
        try simp only [c55b6, Act.put, List.setIfInBounds_toArray, List.set_cons_zero, List.set_cons_succ]
        refine wpAnyH_done (by kernel_rfl) ?_ _
        have HK5 := Lib.hid (Kept.below hHeld)
        have HN5 := Lib.hid hn5'
        clear hHeld hn5 hn5' hS5 hB5 hSZ
        have HB5 := Lib.hid (HBW.out.trans (HK5.out.mono HBW.out.size))
        have HO5 := Lib.hid (own_after HK5.out HO1.out)
        have HX5 := Lib.hid (own_after HK5.out HX1.out)
        have HT5 := Lib.hid (HT1x.out.below HK5.out)
        clear HTW AX AP
        go_wp2_with fail
        refine (HSS.out W5 v5 HN5.out.2).mono ?_
        rintro e W6 ⟨rfl, hb6⟩
        have HB6 := Lib.hid (HB5.out.trans (hb6.mono HB5.out.size))
        have HO6 := Lib.hid (own_after hb6 HO5.out)
        have HX6 := Lib.hid (own_after hb6 HX5.out)
        have HT6 := Lib.hid (HT5.out.below hb6)
        have hsp : SepB W6 (some g11) (some g12) v5 (wayT i N b p (k + 1)) := by
          rw [HTK.out]
          refine (NewB.sep HN5.out (fun g e => ?_) (fun g e => ?_)).moved (gbelow (row := none) hb6) (.inr (.inr rfl)) (.inl rfl) (.inl rfl)
          · cases e; omega
          · cases e; omega
        obtain ⟨g5, t5, c5, rfl, _⟩ := HN5.out.1
        have HS6 := Lib.hid hsp
        clear hb6 hsp
        go_wp2_with (first
          | (refine wpList_plain rfl fun K hK => wp_one30 (.tmp 56) (by rfl) Dn (by rfl) HNL.out ?_
             intro g7 W7 hg7 hlt7 hG7 hr7
             have hB7 : Below W6.heap.size W6 W7 := (Below.refl _ _).grown hG7 (Nat.le_refl _) (fun k e => by cases e)
             obtain ⟨v8, W8, r8, hrun8, hO8, hG8, hR8, hr8, hv8⟩ := digs_app2 (own_after hB7 HO6.out) (by have := HB6.out.size; have := hB7.size; omega) g7 HNL.out HNO.out hr7 (by omega)
             have HR8 := Lib.hid hrun8
             have HO8 := Lib.hid hO8
             have hs7 := (HB6.out.trans (hB7.mono HB6.out.size)).size
             have HB8 := Lib.hid ((HB6.out.trans (hB7.mono HB6.out.size)).grown hG8 hs7 (fun k e => (hR8 k e).1))
             have hlt12 := (HX6.out.lt g12 rfl).2
             have HX8 := Lib.hid ((own_after hB7 HX6.out).kept hG8 (.inr (by rw [hr8]; simp [Value.ownBlock]; omega)))
             have hv8' : v8.ownBlock = some g11 ∨ ∃ g, v8.ownBlock = some g ∧ W7.heap.size ≤ g := by
               rcases hv8 with h | h
               · exact .inl h
               · exact .inr ⟨_, h, Nat.le_refl _⟩
             have HT8 : Hid (TxR W8 v8.ownBlock (some g12) xs (wayT i N b p) M) := Lib.hid ((HT6.out.below hB7).moved hG8 (.inl hr8) hv8' (.inl rfl))
             have HS8 : Hid (SepB W8 v8.ownBlock (some g12) (.slice (some ⟨g5, 0, none⟩) t5 c5) (wayT i N b p (k + 1))) := Lib.hid ((HS6.out.moved (gbelow (row := none) hB7) (.inr (.inr rfl)) (.inl rfl) (.inl rfl)).moved hG8 (.inl hr8) hv8' (.inl rfl))
             have HV8 : Hid (v8.ownBlock ≠ some g12 ∧ ∀ g, v8.ownBlock = some g → g < W8.heap.size) := Lib.hid ⟨by
               have hz7 := hB7.size
               rcases hv8' with h | ⟨g, h, hg⟩
               · rw [h]; simpa using hne
               · rw [h]; simp; omega, fun g h => (hO8.lt g h).2⟩
             clear hrun8 hO8 hB7 hr7 hG7 hG8 hR8 hr8 hv8 hv8' hs7 hlt12
             refine hK _ _ ?_)
          | (refine wpList_plain rfl fun K hK => wp_app_run (.tmp 54) (.tmp 57) 25 25 (by rfl) _ _ _ _ (by rfl) (by rfl) HR8.out (hK _ _ ?_))
          | (refine wpList_world (fun X => Below W8.heap.size W8 X ∧ X.cell? ⟨W8.heap.size, 0, none⟩ = some (.slice (some ⟨g5, 0, none⟩) t5 c5)) ⟨by go_grown, by simp⟩ ?_
             rintro W9 ⟨hB9, hc9⟩
             have hs9 := (HB8.out.trans (hB9.mono HB8.out.size)).size
             obtain ⟨v10, W10, hrun10, hX10, hG10, hv10⟩ := text_app (own_after hB9 HX8.out) hs9 W8.heap.size _ _ _ hc9 (by omega)
             have HR10 := Lib.hid hrun10
             have hlt10 := ((own_after hB9 HX8.out).lt g12 rfl)
             have HB10 := Lib.hid ((HB8.out.trans (hB9.mono HB8.out.size)).grown hG10 hs9 (fun k e => by simp [Value.ownBlock] at e; omega))
             have hv10' : v10.ownBlock = some g12 ∨ ∃ g, v10.ownBlock = some g ∧ W9.heap.size ≤ g := by
               rcases hv10 with h | h
               · exact .inl h
               · exact .inr ⟨_, h, Nat.le_refl _⟩
             have HWI : Hid (WayI w i N b p (k + 1) W10 v8 v10) := Lib.hid ⟨by
                 rw [HFD.out, HM.out]
                 exact (own_after hB9 HO8.out).kept hG10 (.inr HV8.out.1), ⟨_, by rw [HM.out]; exact hX10, by
                 rw [HM.out]
                 have h1 := HT8.out.below hB9
                 have h2 := HS8.out.moved (gbelow (row := none) hB9) (.inr (.inr rfl)) (.inl rfl) (.inl rfl)
                 rw [HM.out] at h2
                 exact (h1.snoc h2).moved hG10 (.inr (.inl rfl)) (.inl rfl) hv10'⟩, by
                 rcases hv10' with h | ⟨g, h, hg⟩
                 · rw [h]; exact HV8.out.1
                 · rw [h]
                   intro e
                   have h3 := HV8.out.2 g e
                   have h4 := hB9.size
                   omega⟩
             clear hrun10 hX10 hG10 hv10 hv10' hlt10 hs9 hB9 hc9
             )
          | (refine wpList_plain rfl fun K hK => wp_app_run (.tmp 59) (.tmp 61) 22 22 (by rfl) _ _ _ _ (by rfl) (by rfl) HR10.out (hK _ _ ?_)))
        go_roundw
        case rel => exact ⟨k + 1, (n + 1) / 2, t / 2, c + 1, by simp, by simp, by simp, by omega, by omega, by omega, by omega, by omega, HB10.out, hx2, hx1, HCN, HWI⟩
        case measure => simp [intOf]; omega
      have f3 : decide ((t : Int) + 1 < (n : Int)) = false := by simp; omega
      have f4 : decide (t + 1 < n) = false := by simp; omega
      have ha : alone t n = true := by unfold alone; rw [oth_eq, if_pos (by omega)]; simp; omega
      have HCN : Hid (mcnt i N (k + 1) = c) := Lib.hid (by
        rw [mcnt_succ, HMC.out, HMS.out, HMP.out, ha]
        simp)
      have HTK : Hid (wayT i N b p (k + 1) = []) := Lib.hid (by rw [wayT_succ, HMS.out, HMP.out, ha, if_pos rfl])
      have HFD : Hid (flat (wayD i N b p (k + 1)) = flat (wayD i N b p k) ++ cd) := Lib.hid (by rw [HWS.out, mst_succ, HMS.out, HMP.out, ha, if_pos rfl, HDD.out, HCD.out])
      have HSN : Hid (SepB W1 (some g11) (some g12) (.slice none 0 0) (wayT i N b p (k + 1))) := Lib.hid (by
        rw [HTK.out]
        exact ⟨⟨none, 0, rfl, Nat.le_refl _, by unfold maxLen; omega, .inl rfl⟩, fun h => absurd rfl h⟩)
      have PA1 := HA1.out.at_
      clear ha HWS
      go_wp2_with (first
        | (refine wpList_load_mid rfl 30 (.tmp 14) (by rfl) wr.heap.size 0 (by rfl) cd _ PA1 Tryd.underlying30 rfl HZD.out ?_)
        | (refine wpList_plain rfl fun K hK => wp_one30 (.tmp 66) (by rfl) cd (by rfl) HDL.out ?_
           intro g7 W7 hg7 hlt7 hG7 hr7
           have hB7 : Below W1.heap.size W1 W7 := (Below.refl _ _).grown hG7 (Nat.le_refl _) (fun k e => by cases e)
           obtain ⟨v8, W8, r8, hrun8, hO8, hG8, hR8, hr8, hv8⟩ := digs_app2 (own_after hB7 HO1.out) (by have := HBW.out.size; have := hB7.size; omega) g7 HDL.out HDO.out hr7 (by omega)
           have HR8 := Lib.hid hrun8
           have HO8 := Lib.hid hO8
           have hs7 := (HBW.out.trans (hB7.mono HBW.out.size)).size
           have HB8 := Lib.hid ((HBW.out.trans (hB7.mono HBW.out.size)).grown hG8 hs7 (fun k e => (hR8 k e).1))
           have hlt12 := (HX1.out.lt g12 rfl).2
           have HX8 := Lib.hid ((own_after hB7 HX1.out).kept hG8 (.inr (by rw [hr8]; simp [Value.ownBlock]; omega)))
           have hv8' : v8.ownBlock = some g11 ∨ ∃ g, v8.ownBlock = some g ∧ W7.heap.size ≤ g := by
             rcases hv8 with h | h
             · exact .inl h
             · exact .inr ⟨_, h, Nat.le_refl _⟩
           have HT8 : Hid (TxR W8 v8.ownBlock (some g12) xs (wayT i N b p) M) := Lib.hid ((HT1x.out.below hB7).moved hG8 (.inl hr8) hv8' (.inl rfl))
           have HS8 : Hid (SepB W8 v8.ownBlock (some g12) (.slice none 0 0) (wayT i N b p (k + 1))) := Lib.hid ((HSN.out.moved (gbelow (row := none) hB7) (.inr (.inr rfl)) (.inl rfl) (.inl rfl)).moved hG8 (.inl hr8) hv8' (.inl rfl))
           have HV8 : Hid (v8.ownBlock ≠ some g12 ∧ ∀ g, v8.ownBlock = some g → g < W8.heap.size) := Lib.hid ⟨by
             have hz7 := hB7.size
             rcases hv8' with h | ⟨g, h, hg⟩
             · rw [h]; simpa using hne
             · rw [h]; simp; omega, fun g h => (hO8.lt g h).2⟩
           clear hrun8 hO8 hB7 hr7 hG7 hG8 hR8 hr8 hv8 hv8' hs7 hlt12
           refine hK _ _ ?_)
        | (refine wpList_plain rfl fun K hK => wp_app_run (.tmp 65) (.tmp 67) 25 25 (by rfl) _ _ _ _ (by rfl) (by rfl) HR8.out (hK _ _ ?_))
        | (refine wpList_world (fun X => Below W8.heap.size W8 X ∧ X.cell? ⟨W8.heap.size, 0, none⟩ = some (.slice none 0 0)) ⟨by go_grown, by simp⟩ ?_
           rintro W9 ⟨hB9, hc9⟩
           have hs9 := (HB8.out.trans (hB9.mono HB8.out.size)).size
           obtain ⟨v10, W10, hrun10, hX10, hG10, hv10⟩ := text_app (own_after hB9 HX8.out) hs9 W8.heap.size _ _ _ hc9 (by omega)
           have HR10 := Lib.hid hrun10
           have hlt10 := ((own_after hB9 HX8.out).lt g12 rfl)
           have HB10 := Lib.hid ((HB8.out.trans (hB9.mono HB8.out.size)).grown hG10 hs9 (fun k e => by simp [Value.ownBlock] at e; omega))
           have hv10' : v10.ownBlock = some g12 ∨ ∃ g, v10.ownBlock = some g ∧ W9.heap.size ≤ g := by
             rcases hv10 with h | h
             · exact .inl h
             · exact .inr ⟨_, h, Nat.le_refl _⟩
           have HWI : Hid (WayI w i N b p (k + 1) W10 v8 v10) := Lib.hid ⟨by
               rw [HFD.out, HM.out]
               exact (own_after hB9 HO8.out).kept hG10 (.inr HV8.out.1), ⟨_, by rw [HM.out]; exact hX10, by
               rw [HM.out]
               have h1 := HT8.out.below hB9
               have h2 := HS8.out.moved (gbelow (row := none) hB9) (.inr (.inr rfl)) (.inl rfl) (.inl rfl)
               rw [HM.out] at h2
               exact (h1.snoc h2).moved hG10 (.inr (.inl rfl)) (.inl rfl) hv10'⟩, by
               rcases hv10' with h | ⟨g, h, hg⟩
               · rw [h]; exact HV8.out.1
               · rw [h]
                 intro e
                 have h3 := HV8.out.2 g e
                 have h4 := hB9.size
                 omega⟩
           clear hrun10 hX10 hG10 hv10 hv10' hlt10 hs9 hB9 hc9
           )
        | (refine wpList_plain rfl fun K hK => wp_app_run (.tmp 69) (.tmp 70) 22 22 (by rfl) _ _ _ _ (by rfl) (by rfl) HR10.out (hK _ _ ?_)))
      go_roundw
      case rel => exact ⟨k + 1, (n + 1) / 2, t / 2, c, by simp, by simp, by simp, by omega, by omega, by omega, by omega, by omega, HB10.out, hx2, hx1, HCN, HWI⟩
      case measure => simp [intOf]; omega
    · have f1 : decide ((n : Int) > 1) = false := by simp; omega
      have f2 : decide ((1 : Int) < (n : Int)) = false := by simp; omega
      have f0 : decide (1 < n) = false := by simp; omega
      have hk : k = mrows N := by
        have h := (mrows_iff k N).1
        rw [HMS.out] at h
        omega
      subst hk
      obtain ⟨h1, ⟨xs, h2, h3⟩, _⟩ := HI.out
      have hF1 := own_digs' h1 (wayD_len i N b p _) (fun y hy => by
        obtain ⟨j, _, rfl⟩ := List.mem_map.1 hy
        exact mst_len i N (sha_len _) p j)
      have hF2 : BRows wr wr.heap.size u12 ((List.range (mrows N + 1)).map (wayT i N b p)) := by
        exact own_texts h2 h3 (by omega)
      have HF1 := Lib.hid hF1
      have HF2 := Lib.hid hF2
      clear hF1 hF2 h1 h2 h3
      go_wp2
      go_returns
      exact ⟨_, _, rfl, HF1.out, HF2.out, HB.out⟩
end Go.Proofs.YtfmngeemhfpeiaaDoor
