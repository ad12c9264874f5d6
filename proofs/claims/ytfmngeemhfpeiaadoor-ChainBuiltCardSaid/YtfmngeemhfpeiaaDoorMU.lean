/- ChainChanged: a copy of links, and one put into it. ChainChanged: the law's walk. -/
import Derived.Test.YtfmngeemhfpeiaaDoorMT
namespace Go.Proofs.YtfmngeemhfpeiaaDoor
open Go.RowKit

/-- A link of a chain in the place of which another one is put: the chain is broken behind it, or two texts have one digest. -/
theorem changed_found {l : List Lk} {k : Nat} {x : Lk} (ha : Chn l) (hk : k < l.length) (hb : Chn (l.set k x)) (hko : l[k].ok) (hx : x.ok) (hne : l[k] ≠ x) (hlast : k ≠ l.length - 1) : clashL (l.take (k + 1)) ((l.set k x).take (k + 1)) = true := by
  have hk2 : k + 1 < l.length := by omega
  have hkb : k < (l.set k x).length := by rw [List.length_set]; exact hk
  have ea : l.take (k + 1) = l.take k ++ [l[k]] := List.take_succ_eq_append_getElem hk
  have eb : (l.set k x).take (k + 1) = (l.set k x).take k ++ [x] := by
    rw [List.take_succ_eq_append_getElem hkb, List.getElem_set_self]
  have h1 := (ha.2 (k + 1) hk2).2.2.2.2
  have h2 := (hb.2 (k + 1) (by rw [List.length_set]; exact hk2)).2.2.2.2
  rw [List.getElem_set_ne (by omega)] at h2
  have hh : hd (l.take (k + 1)) = hd ((l.set k x).take (k + 1)) := by rw [← h1, ← h2]
  have ht : txtL (l.take (k + 1)) ≠ txtL ((l.set k x).take (k + 1)) := by
    rw [ea, eb, txtL_snoc, txtL_snoc]
    exact fun e => hne (txt_inj hko hx e)
  unfold clashL
  rw [decide_eq_false ht, decide_eq_true hh]
  simp

/-- Links in a block. -/
def LBlk (W : World) (B g : Nat) (l : List Lk) : Prop := ∀ i (h : i < l.length), ∃ d, W.rangeAt g (i * 35) (lcells l[i] d) ∧ W.there g (i * 35) 35 ∧ BytesAt W B d l[i].data
theorem l_copy (W : World) (a : Option Addr) (l : List Lk) (cap : Nat) (h : LRow W W.heap.size (.slice a l.length cap) l) (hne : l ≠ []) (g : Nat) (hs : l.length ≤ 100000) :
    ∃ c W', (Builtin.append_ #[44, 44] 44 #[.slice (some ⟨g, 0, none⟩) 0 0, .slice a l.length cap]).run Tryd.prog W = .ok (.slice (some ⟨W.heap.size, 0, none⟩) l.length c) W' ∧ l.length ≤ c ∧ c ≤ maxLen ∧ W.heap.size < W'.heap.size ∧ LBlk W' W.heap.size W.heap.size l ∧ Below W.heap.size W W' := by
  obtain ⟨i, hi, hz0, hz1, hz2⟩ := info_parts Tryd.info55z
  have hpos : 0 < l.length := List.length_pos_iff.2 hne
  obtain ⟨cs, h3, h4, _⟩ := h.cells
  obtain ⟨b, off, rfl, hb, h9⟩ := h4 hne
  have hcs := h3.len
  have hrun := run_append_grow (P := Tryd.prog) W 44 44 55 i _ Tryd.underlying44 hi hz0 ⟨g, 0, none⟩ 0 0 [] (by simp) (fun j v hv => by simp at hv) ⟨b, off, none⟩ l.length cap cs (by rw [hz1]; exact hcs) (fun j v hv => by rw [Addr.add_mid]; exact h9 j v hv) (by omega) (by omega) (growslice_fits (by omega) (by rw [hz2]; omega))
  have hg := grownCap_ge W (0 + l.length) 0 55
  have hgm := grownCap_le_maxLen W (0 + l.length) 0 55 (by unfold maxLen; omega)
  have hb2 : ∀ (arr : Array Value), Below W.heap.size W (W.drew.alloc (.cells arr 55)) := fun arr => (Below.drew (Below.refl _ _)).alloc (Nat.le_refl _) _
  rw [Nat.zero_add] at hrun hg hgm
  refine ⟨_, _, hrun, hg, hgm, by rw [World.size_alloc]; exact Nat.lt_succ_self _, ?_, hb2 _⟩
  intro i hil
  obtain ⟨d, a1, a2⟩ := h3.at_ i hil
  have hok := h.1 _ (List.getElem_mem hil)
  have hl35 := lcells_len l[i] d hok.1
  have hcell : ∀ (arr : Array Value) (j : Nat) (u : Value), arr[j]? = some u → (W.drew.alloc (.cells arr 55)).cell? ⟨W.heap.size, j, none⟩ = some u := fun arr j u hu => by
    have : (W.drew.alloc (.cells arr 55)).cell? ⟨W.drew.heap.size, j, none⟩ = arr[j]? := by rw [World.cell?_alloc_new]
    exact this.trans hu
  have harr : ∀ (z : Array Value) (j : Nat) (u : Value), cs[j]? = some u → (([] : List Value).toArray ++ cs.toArray ++ z)[j]? = some u := fun z j u hu => by
    have hj := (List.getElem?_eq_some_iff.1 hu).1
    rw [Array.getElem?_append_left (by simpa using hj), ← hu]
    simp
  refine ⟨d, fun j u hu => hcell _ _ _ (harr _ _ _ (a1 j u hu)), fun j hj => ⟨?_, ?_⟩, a2.below (hb2 _)⟩
  · have hjl : j < (lcells l[i] d).length := by rw [hl35]; exact hj
    rw [hcell _ _ _ (harr _ _ _ (a1 j _ (List.getElem?_eq_getElem hjl)))]; rfl
  · exact World.frozen?_alloc_new ..
theorem l_put (W : World) (B g c : Nat) (l : List Lk) (hB : B ≤ g) (hg : g < W.heap.size) (H : LBlk W B g l) (hok : ∀ y ∈ l, y.ok) (k : Nat) (hk : k < l.length) (x : Lk) (hx : x.ok) (d : Value) (hd : BytesAt W B d x.data) (h1 : l.length ≤ c) (h2 : c ≤ maxLen) :
    LRow (W.setCells g (k * 35) (lcells x d)) (W.setCells g (k * 35) (lcells x d)).heap.size (.slice (some ⟨g, 0, none⟩) l.length c) (l.set k x) := by
  have hbe : Below g W (W.setCells g (k * 35) (lcells x d)) := below_setCells (Nat.le_refl g) _ _ _ (Below.refl g W)
  have hsz := hbe.size
  have hlx := lcells_len x d hx.1
  refine ⟨fun y hy => ?_, _, c, by rw [List.length_set], by rw [List.length_set]; exact h1, h2, .inr ⟨g, 0, rfl, by omega, fun i hi => ?_⟩⟩
  · rcases List.mem_or_eq_of_mem_set hy with h | rfl
    · exact hok y h
    · exact hx
  · have hi' : i < l.length := by rw [List.length_set] at hi; exact hi
    by_cases e : i = k
    · subst e
      obtain ⟨_, _, h4, _⟩ := H i hi'
      refine ⟨d, ?_, ?_⟩
      · rw [List.getElem_set_self, Nat.zero_add]
        exact World.rangeAt_setCells_same _ _ _ _ (by rw [hlx]; exact h4)
      · rw [List.getElem_set_self]
        exact ((hd.mono hB).below hbe).mono (by omega)
    · obtain ⟨d', h3, _, h5⟩ := H i hi'
      have hli := lcells_len l[i] d' (hok _ (List.getElem_mem hi')).1
      refine ⟨d', ?_, ?_⟩
      · rw [List.getElem_set_ne (by omega), Nat.zero_add]
        refine World.rangeAt_setCells_apart h3 _ _ _ (.inr ?_)
        rw [hli, hlx]
        omega
      · rw [List.getElem_set_ne (by omega)]
        exact ((h5.mono hB).below hbe).mono (by omega)
end Go.Proofs.YtfmngeemhfpeiaaDoor

namespace Go.Proofs.YtfmngeemhfpeiaaDoor
open Go.RowKit

def l14a0 : Oper := { dst := some 35, op := Go.Op.move (Go.Operand.tmp 0), type := 44, pos := "law.go:121", after := #[], guard := none }
def l14a1 : Oper := { dst := some 36, op := Go.Op.move (Go.Operand.tmp 7), type := 3, pos := "law.go:121", after := #[], guard := none }
def l14a2 : Oper := { dst := some 37, op := Go.Op.indexAddr 44 (Go.Operand.tmp 35) (Go.Operand.tmp 36), type := 0, pos := "law.go:121", after := #[{ on := 0, ground := Go.Ground.data }, { on := 1, ground := Go.Ground.data }], guard := none }
def l14a3 : Oper := { dst := some 38, op := Go.Op.load 55 (Go.Operand.tmp 37), type := 55, pos := "law.go:121", after := #[{ on := 2, ground := Go.Ground.data }], guard := none }
def l14a4 : Oper := { dst := some 39, op := Go.Op.load 55 (Go.Operand.tmp 5), type := 55, pos := "law.go:121", after := #[], guard := none }
def l14a5 : Oper := { dst := some 40, op := Go.Op.call { callee := Go.Callee.value (Go.Operand.func 41), args := #[Go.Operand.tmp 38, Go.Operand.tmp 39], argTypes := #[55, 55] }, type := 4, pos := "law.go:121", after := #[{ on := 3, ground := Go.Ground.data }, { on := 4, ground := Go.Ground.data }], guard := none }
def l14b0 : Oper := { dst := some 58, op := Go.Op.move (Go.Operand.tmp 0), type := 44, pos := "law.go:129", after := #[], guard := none }
def l14b1 : Oper := { dst := some 59, op := Go.Op.move (Go.Operand.tmp 7), type := 3, pos := "law.go:129", after := #[], guard := none }
def l14b2 : Oper := { dst := some 60, op := Go.Op.binOp Go.BinOp.add 3 (Go.Operand.tmp 59) (Go.Operand.const (Go.Value.int Go.IntKind.i64 1)) 3, type := 3, pos := "law.go:129", after := #[{ on := 1, ground := Go.Ground.data }], guard := none }
def l14b3 : Oper := { dst := some 61, op := Go.Op.slice 44 (Go.Operand.tmp 58) none (some (Go.Operand.tmp 60)) none, type := 44, pos := "law.go:129", after := #[{ on := 0, ground := Go.Ground.data }, { on := 2, ground := Go.Ground.data }], guard := none }
def l14b4 : Oper := { dst := some 62, op := Go.Op.move (Go.Operand.tmp 8), type := 44, pos := "law.go:129", after := #[], guard := none }
def l14b5 : Oper := { dst := some 63, op := Go.Op.move (Go.Operand.tmp 7), type := 3, pos := "law.go:129", after := #[], guard := none }
def l14b6 : Oper := { dst := some 64, op := Go.Op.binOp Go.BinOp.add 3 (Go.Operand.tmp 63) (Go.Operand.const (Go.Value.int Go.IntKind.i64 1)) 3, type := 3, pos := "law.go:129", after := #[{ on := 5, ground := Go.Ground.data }], guard := none }
def l14b7 : Oper := { dst := some 65, op := Go.Op.slice 44 (Go.Operand.tmp 62) none (some (Go.Operand.tmp 64)) none, type := 44, pos := "law.go:129", after := #[{ on := 4, ground := Go.Ground.data }, { on := 6, ground := Go.Ground.data }], guard := none }
def l14b8 : Oper := { dst := some 66, op := Go.Op.call { callee := Go.Callee.value (Go.Operand.func 40), args := #[Go.Operand.tmp 61, Go.Operand.tmp 65], argTypes := #[44, 44] }, type := 4, pos := "law.go:129", after := #[{ on := 3, ground := Go.Ground.data }, { on := 7, ground := Go.Ground.data }], guard := none }
def l14b9 : Oper := { dst := some 6, op := Go.Op.assign (Go.Operand.tmp 66), type := 4, pos := "law.go:129", after := #[{ on := 8, ground := Go.Ground.data }, { on := 8, ground := Go.Ground.chain }, { on := 0, ground := Go.Ground.phase }, { on := 1, ground := Go.Ground.phase }, { on := 2, ground := Go.Ground.phase }, { on := 3, ground := Go.Ground.phase }, { on := 4, ground := Go.Ground.phase }, { on := 5, ground := Go.Ground.phase }, { on := 6, ground := Go.Ground.phase }, { on := 7, ground := Go.Ground.phase }, { on := 8, ground := Go.Ground.phase }], guard := none }

theorem store_named {ops : Array Oper} {rest : List Oper} {op : Oper} {a : Act} {w : World} {Q : Exit → Act → World → Prop} (hgd : op.guard = none) (ty : TypeId) (x y : Operand) (ho : op.op = .store ty x y)
    (b o : Nat) (cs : List Value) (hx : a.eval x = .pointer (some ⟨b, o, none⟩)) (hy : a.eval y = .agg cs.toArray) (ht : w.there b o cs.toArray.size) (hi : (Tryd.prog.info? ty).map (·.size) = some cs.toArray.size) (h1 : cs.toArray.all (·.oneCell') = true)
    (W : World) (hW : w.setCells b o cs = W) (h : wpList Tryd.prog ops Q rest (a.put op.dst undef) W) : wpList Tryd.prog ops Q (op :: rest) a w := by
  subst hW
  exact wpList_store_mid hgd ty x y ho b o cs.toArray hx hy ht hi h1 h

set_option maxRecDepth 100000 in
set_option maxHeartbeats 8000000 in
theorem lawChanged (w : World) (v : Value) (l : List Lk) (hv : LRow0 w w.heap.size v l) (y : Int) (u : Value) (x : Lk) (hx : x.ok0) (hu : LinkAt w w.heap.size u x) (hy : (Lit.int .u8 y).wf = true) (hT : Tab w) (h0 : 0 < w.heap.size) :
    Calls Tryd.prog 14 #[v, .int .u8 y, u] w fun e w' => e = .returned (.bool true) ∧ Below w.heap.size w w' := by
  have HFA := Lib.hid (fun W (hW : Below w.heap.size w W) => few_any W v l (hv.at hW))
  have HSA := Lib.hid (fun W (hW : Below w.heap.size w W) => sane_any W (hT.below hW h0) (by have := hW.size; omega))
  have hv0 := hv
  obtain ⟨a, cap, rfl, h1, h2⟩ : ∃ a cap, v = .slice a l.length cap ∧ l.length ≤ cap ∧ cap ≤ maxLen := by obtain ⟨_, a, cap, h, h1, h2, _⟩ := hv; exact ⟨a, cap, h, h1, h2⟩
  unfold maxLen at h2
  obtain ⟨d, rfl, hd⟩ := hu
  obtain ⟨da, dcap, rfl, k1, k2, k3⟩ := id hd
  unfold maxLen at k2
  have lx := lcells_len x (.slice da x.data.length dcap) hx.1
  have lx34 := lcells_34 x (.slice da x.data.length dcap) hx.1
  have lxo := lcells_one x (.slice da x.data.length dcap) rfl
  obtain ⟨cx, hcx⟩ : ∃ cs, lcells x (.slice da x.data.length dcap) = cs := ⟨_, rfl⟩
  rw [hcx] at lx lx34 lxo ⊢
  obtain ⟨M, hM⟩ : ∃ M, x.data.length = M := ⟨_, rfl⟩
  rw [hM] at k1 lx34 hcx hd
  have HCX := Lib.hid hcx
  have HM := Lib.hid hM
  have HD := Lib.hid hd
  have HLX := Lib.hid lx
  have HX34 := Lib.hid lx34
  have HOX := Lib.hid lxo
  clear hcx hM hd lx lx34 lxo k3 hv
  cases hla : fewL l with
  | false =>
    rw [hla] at HFA
    obtain ⟨N, hN⟩ : ∃ N, l.length = N := ⟨_, rfl⟩
    rw [hN] at HFA ⊢
    clear hv0 hla hN h1
    go_enter Tryd.func14, Tryd.ntmps14
    go_wp2_with fail
    have HB0 : Hid (Below w.heap.size w (w.alloc (.cells cx.toArray 55))) := Lib.hid ((Below.refl _ _).alloc (Nat.le_refl _) _)
    have HA0 : Hid (Arr (w.alloc (.cells cx.toArray 55)) w.heap.size cx) := Lib.hid (by have := Arr.new w cx.toArray 55; simpa using this)
    have HZ0 : Hid (w.heap.size < (w.alloc (.cells cx.toArray 55)).heap.size) := Lib.hid (by rw [World.size_alloc]; exact Nat.lt_succ_self _)
    refine (HSA.out _ HB0.out).mono ?_
    rintro e w1 ⟨rfl, hb1⟩
    have HB1 := Lib.hid (HB0.out.trans (hb1.mono HB0.out.size))
    have HA1 := Lib.hid (HA0.out.below hb1 HZ0.out)
    have HZ1 := Lib.hid (Nat.lt_of_lt_of_le HZ0.out hb1.size)
    clear hb1 HA0 HZ0 HB0
    go_wp2_with (go_at_call 30; with_reducible refine (HFA.out _ HB1.out).mono ?_; rintro e w2 ⟨rfl, rfl⟩)
    go_returns
    exact ⟨rfl, HB1.out⟩
  | true =>
    obtain ⟨hl, hl16⟩ := fewL_row hv0 hla
    rw [hla] at HFA
    have hca : ∀ W, Below w.heap.size w W → Calls Tryd.prog 31 #[.slice a l.length cap] W fun e w' => e = .returned (.int .i64 (chk l)) ∧ Below W.heap.size W w' := fun W hW => check_any W _ l (hl.at hW) (by omega) (hT.below hW h0) (by have := hW.size; omega)
    obtain ⟨N, hN⟩ : ∃ N, l.length = N := ⟨_, rfl⟩
    rw [hN] at HFA hca h1 hl16 ⊢
    have HN := Lib.hid hN
    have HL := Lib.hid hl
    have HCA := Lib.hid hca
    have HV := Lib.hid hv0
    have HT := Lib.hid hT
    clear hv0 hl hca hla
    by_cases hn0 : N = 0
    · subst hn0
      clear hN h1
      go_enter Tryd.func14, Tryd.ntmps14
      go_wp2_with fail
      have HB0 : Hid (Below w.heap.size w (w.alloc (.cells cx.toArray 55))) := Lib.hid ((Below.refl _ _).alloc (Nat.le_refl _) _)
      have HA0 : Hid (Arr (w.alloc (.cells cx.toArray 55)) w.heap.size cx) := Lib.hid (by have := Arr.new w cx.toArray 55; simpa using this)
      have HZ0 : Hid (w.heap.size < (w.alloc (.cells cx.toArray 55)).heap.size) := Lib.hid (by rw [World.size_alloc]; exact Nat.lt_succ_self _)
      refine (HSA.out _ HB0.out).mono ?_
      rintro e w1 ⟨rfl, hb1⟩
      have HB1 := Lib.hid (HB0.out.trans (hb1.mono HB0.out.size))
      have HA1 := Lib.hid (HA0.out.below hb1 HZ0.out)
      have HZ1 := Lib.hid (Nat.lt_of_lt_of_le HZ0.out hb1.size)
      clear hb1 HA0 HZ0 HB0
      go_wp2_with (go_at_call 30; with_reducible refine (HFA.out _ HB1.out).mono ?_; rintro e w2 ⟨rfl, rfl⟩)
      go_returns
      exact ⟨rfl, HB1.out⟩
    · have d1 : ((N : Int) == 0) = false := by simp; omega
      by_cases hm3 : 300 < M
      · have d2 : decide ((300 : Int) < (M : Int)) = true := by simp; omega
        have d3 : decide ((M : Int) > 300) = true := by simp; omega
        have d4 : decide (300 < M) = true := by simp; omega
        have hN0 : ¬ (N : Int) = 0 := by omega
        clear hN
        go_enter Tryd.func14, Tryd.ntmps14
        go_wp2_with fail
        have HB0 : Hid (Below w.heap.size w (w.alloc (.cells cx.toArray 55))) := Lib.hid ((Below.refl _ _).alloc (Nat.le_refl _) _)
        have HA0 : Hid (Arr (w.alloc (.cells cx.toArray 55)) w.heap.size cx) := Lib.hid (by have := Arr.new w cx.toArray 55; simpa using this)
        have HZ0 : Hid (w.heap.size < (w.alloc (.cells cx.toArray 55)).heap.size) := Lib.hid (by rw [World.size_alloc]; exact Nat.lt_succ_self _)
        refine (HSA.out _ HB0.out).mono ?_
        rintro e w1 ⟨rfl, hb1⟩
        have HB1 := Lib.hid (HB0.out.trans (hb1.mono HB0.out.size))
        have HA1 := Lib.hid (HA0.out.below hb1 HZ0.out)
        have HZ1 := Lib.hid (Nat.lt_of_lt_of_le HZ0.out hb1.size)
        clear hb1 HA0 HZ0 HB0
        have hc34 := HA1.out.cell HX34.out
        go_wp2_with (go_at_call 30; with_reducible refine (HFA.out _ HB1.out).mono ?_; rintro e w2 ⟨rfl, rfl⟩)
        go_returns
        exact ⟨rfl, HB1.out⟩
      · have d2 : decide ((300 : Int) < (M : Int)) = false := by simp; omega
        have d3 : decide ((M : Int) > 300) = false := by simp; omega
        have d4 : decide (300 < M) = false := by simp; omega
        have hN0 : ¬ (N : Int) = 0 := by omega
        have HM3 := Lib.hid hm3
        obtain ⟨E, hE⟩ : ∃ E, chk l = E := ⟨_, rfl⟩
        rw [hE] at HCA
        by_cases hE0 : E = 0
        · subst hE0
          have HCH := Lib.hid ((chk_iff l).1 hE)
          have hyb : 0 ≤ y ∧ y ≤ 255 := by
            have e1 : IntKind.u8.min = 0 := rfl
            have e2 : IntKind.u8.max = 255 := rfl
            simpa [Lit.wf, e1, e2] using hy
          obtain ⟨k, hk, hkN⟩ : ∃ k : Nat, y.tmod (N : Int) = (k : Int) ∧ k < N := by
            refine ⟨y.toNat % N, ?_, Nat.mod_lt _ (by omega)⟩
            rw [Int.tmod_eq_emod_of_nonneg hyb.1, Int.natCast_emod, Int.toNat_of_nonneg hyb.1]
          have iy : IntKind.i64.wrap y = y := by rw [IntKind.wrap_i64]; omega
          have ik : IntKind.i64.wrap (k : Int) = k := by rw [IntKind.wrap_i64]; omega
          have HYB := Lib.hid hyb
          have HKN := Lib.hid hkN
          clear hE hyb hkN hm3 hN hy
          go_enter Tryd.func14, Tryd.ntmps14
          go_wp2_with fail
          have HB0 : Hid (Below w.heap.size w (w.alloc (.cells cx.toArray 55))) := Lib.hid ((Below.refl _ _).alloc (Nat.le_refl _) _)
          have HA0 : Hid (Arr (w.alloc (.cells cx.toArray 55)) w.heap.size cx) := Lib.hid (by have := Arr.new w cx.toArray 55; simpa using this)
          have HZ0 : Hid (w.heap.size < (w.alloc (.cells cx.toArray 55)).heap.size) := Lib.hid (by rw [World.size_alloc]; exact Nat.lt_succ_self _)
          refine (HSA.out _ HB0.out).mono ?_
          rintro e w1 ⟨rfl, hb1⟩
          have HB1 := Lib.hid (HB0.out.trans (hb1.mono HB0.out.size))
          have HA1 := Lib.hid (HA0.out.below hb1 HZ0.out)
          have HZ1 := Lib.hid (Nat.lt_of_lt_of_le HZ0.out hb1.size)
          clear hb1 HA0 HZ0 HB0
          have hc34 := HA1.out.cell HX34.out
          go_upto_region 6 with (first
            | (go_at_call 30; with_reducible refine (HFA.out _ HB1.out).mono ?_; rintro e w2 ⟨rfl, rfl⟩)
            | (go_at_call 31; with_reducible refine (HCA.out _ HB1.out).mono ?_; rintro e w3 ⟨rfl, hb3⟩; have HB3 := Lib.hid (HB1.out.trans (hb3.mono HB1.out.size)); have HA3 := Lib.hid (HA1.out.below hb3 HZ1.out); have HZ3 := Lib.hid (Nat.lt_of_lt_of_le HZ1.out hb3.size); clear hb3))
          obtain ⟨b, off, d6, rfl, hb, hlok, hr6, hd6⟩ := HL.out.get k (by rw [HN.out]; exact HKN.out)
          have hKL : k < l.length := by rw [HN.out]; exact HKN.out
          obtain ⟨xk, hxk⟩ : ∃ xk, l[k]'hKL = xk := ⟨_, rfl⟩
          rw [hxk] at hlok hr6 hd6
          have hxok : x.ok := ⟨hx.1, hx.2.1, hx.2.2, by have := HM3.out; have := HM.out; omega⟩
          have lyk := lcells_len xk d6 hlok.1
          obtain ⟨cy, hcy⟩ : ∃ cs, lcells xk d6 = cs := ⟨_, rfl⟩
          rw [hcy] at hr6 lyk
          have HZX : Hid ((Tryd.prog.info? 55).map (·.size) = some cx.length) := by show _ = _; rw [HLX.out]; exact Tryd.info55
          have HZY : Hid ((Tryd.prog.info? 55).map (·.size) = some cy.length) := by show _ = _; rw [lyk]; exact Tryd.info55
          have AY : Hid (∀ W, Kept w3 W → W.rangeAt b (off + k * 35) cy) := Lib.hid fun W hW j v hv => ((HB3.out.trans (hW.below.mono HB3.out.size)).cell (p := ⟨b, off + k * 35 + j, none⟩) hb).trans (hr6 j v hv)
          have AX : Hid (∀ W, Kept w3 W → W.rangeAt w.heap.size 0 cx) := Lib.hid fun W hW => (HA3.out.below hW.below HZ3.out).at_
          obtain ⟨E6, hE6⟩ : ∃ E6, decide (xk = x) = E6 := ⟨_, rfl⟩
          have HSM : Hid (∀ W, Kept w3 W → Calls Tryd.prog 41 #[.agg cy.toArray, .agg cx.toArray] W fun e w' => e = .returned (.bool E6) ∧ Below W.heap.size W w') := Lib.hid fun W hW => by
            have hBW := HB3.out.trans (hW.below.mono HB3.out.size)
            have h := samelink_any W (.agg cy.toArray) (.agg cx.toArray) xk x hlok hxok ⟨d6, by rw [hcy], (hd6.below hBW).mono hBW.size⟩ ⟨.slice da M dcap, by rw [HCX.out], (HD.out.below hBW).mono hBW.size⟩
            rw [hE6] at h
            exact h
          have HE6 := Lib.hid hE6
          have HXO := Lib.hid hxok
          have HXK := Lib.hid hxk
          have HKO := Lib.hid hlok
          have hkN := HKN.out
          clear hr6 hd6 hlok hxk hxok lyk hcy hE6 hb
          refine wp_region_held_drew (S := fun W => Kept w3 W) (by kernel_rfl) (Kept.drew (Kept.refl w3)) (fun hHeld => ?_)
          refine wpAnyH_take (i := 0) (oi := l14a0) (v := ?_) rfl (by kernel_rfl) (by kernel_rfl) (by kernel_rfl) (fun _ _ _ h => h) (Or.inl ⟨by rfl, ?_⟩) hHeld ?_
          rotate_left
          · (intro w hSw; (try dsimp only at hSw); unfold l14a0; go_simp <;> with_reducible rfl)
          try simp only [l14a0, Act.put, List.setIfInBounds_toArray, List.set_cons_zero, List.set_cons_succ]
          refine wpAnyH_take (i := 1) (oi := l14a1) (v := ?_) rfl (by kernel_rfl) (by kernel_rfl) (by kernel_rfl) (fun _ _ _ h => h) (Or.inl ⟨by rfl, ?_⟩) hHeld ?_
          rotate_left
          · (intro w hSw; (try dsimp only at hSw); unfold l14a1; go_simp <;> with_reducible rfl)
          try simp only [l14a1, Act.put, List.setIfInBounds_toArray, List.set_cons_zero, List.set_cons_succ]
          refine wpAnyH_take (i := 2) (oi := l14a2) (v := ?_) rfl (by kernel_rfl) (by kernel_rfl) (by kernel_rfl) (fun _ _ _ h => h) (Or.inl ⟨by rfl, ?_⟩) hHeld ?_
          rotate_left
          · (intro w hSw; (try dsimp only at hSw); unfold l14a2; go_simp <;> with_reducible rfl)
          try simp only [l14a2, Act.put, List.setIfInBounds_toArray, List.set_cons_zero, List.set_cons_succ]
          refine wpAnyH_take (i := 3) (oi := l14a3) rfl (by kernel_rfl) (by kernel_rfl) (by kernel_rfl) (fun _ _ _ h => h) (yieldsIf_load_mid (by rfl) 55 (.tmp 37) (by rfl) b (off + k * 35) (by rfl) cy _ (fun w hSw => AY.out w hSw) Tryd.underlying55 rfl HZY.out) hHeld ?_
          try simp only [l14a3, Act.put, List.setIfInBounds_toArray, List.set_cons_zero, List.set_cons_succ]
          refine wpAnyH_take (i := 4) (oi := l14a4) rfl (by kernel_rfl) (by kernel_rfl) (by kernel_rfl) (fun _ _ _ h => h) (yieldsIf_load_mid (by rfl) 55 (.tmp 5) (by rfl) w.heap.size 0 (by rfl) cx _ (fun w hSw => AX.out w hSw) Tryd.underlying55 rfl HZX.out) hHeld ?_
          try simp only [l14a4, Act.put, List.setIfInBounds_toArray, List.set_cons_zero, List.set_cons_succ]
          refine wpAnyH_ready (rs := [5]) (by kernel_rfl) (by simp) ?_
          refine AllReadyH.cons (o := l14a5) rfl (fun K hK => ?_) AllReadyH.nil
          rw [if_pos (by rfl)]
          unfold l14a5
          go_simp
          (with_reducible refine (HSM.out _ hHeld).mono ?_)
          rintro e W5 ⟨rfl, hB5⟩
          have hS5 := hHeld.next hB5
          go_wp2_with fail
          refine hK.out _ _ hS5 (fun hHeld => ?_)
          clear hK K
          try simp only [l14a5, Act.put, List.setIfInBounds_toArray, List.set_cons_zero, List.set_cons_succ]
          refine wpAnyH_done (by kernel_rfl) ?_ _
          have HST := Lib.hid hHeld
          clear hHeld hS5 hB5
          cases E6 with
          | true =>
            go_wp2
            go_returns
            exact ⟨rfl, HB3.out.trans (HST.out.mono HB3.out.size)⟩
          | false =>
            have hA5 := HB3.out.trans (HST.out.mono HB3.out.size)
            have hBA : Below w.heap.size w (W5.alloc (.cells #[] 55)) := hA5.alloc hA5.size _
            have hLA := (HL.out.below hBA).mono hBA.size
            have hneL : l ≠ [] := fun e => by have := HN.out; rw [e] at this; exact hn0 this.symm
            obtain ⟨c8, W8, hrun8, hc8, hcm8, hz8, hblk8, hb8⟩ := l_copy (W5.alloc (.cells #[] 55)) (some ⟨b, off, none⟩) l cap (by rw [HN.out]; rw [HN.out] at hLA; exact hLA) hneL W5.heap.size (by rw [HN.out]; omega)
            rw [HN.out] at hrun8 hc8
            have hg8w : w.heap.size < (W5.alloc (.cells #[] 55)).heap.size := by rw [World.size_alloc]; have := hA5.size; omega
            have hBA8 := hBA.trans (hb8.mono hBA.size)
            have hX8 : Arr W8 w.heap.size cx := ((HA3.out.below HST.out.below HZ3.out).alloc (Nat.lt_of_lt_of_le HZ3.out HST.out.below.size) _).below hb8 hg8w
            obtain ⟨g8, hg8⟩ : ∃ g8, (W5.alloc (.cells #[] 55)).heap.size = g8 := ⟨_, rfl⟩
            rw [hg8] at hrun8 hz8 hblk8 hg8w hb8
            have hHT : W8.there g8 (k * 35) 35 := by obtain ⟨_, _, h, _⟩ := hblk8 k hKL; exact h
            have hd8 : BytesAt W8 g8 (.slice da M dcap) x.data := (HD.out.below hBA8).mono (Nat.le_of_lt hg8w)
            have hput := l_put W8 g8 g8 c8 l (Nat.le_refl _) hz8 hblk8 HL.out.1 k hKL x HXO.out (.slice da M dcap) hd8 (by rw [HN.out]; exact hc8) hcm8
            rw [HCX.out, HN.out] at hput
            have hB9 : Below w.heap.size w (W8.setCells g8 (k * 35) cx) := below_setCells (Nat.le_of_lt hg8w) _ _ _ hBA8
            obtain ⟨w9, hw9⟩ : ∃ w9, W8.setCells g8 (k * 35) cx = w9 := ⟨_, rfl⟩
            rw [hw9] at hput hB9
            have HP9 := Lib.hid hput
            have HB9 := Lib.hid hB9
            have HW9 := Lib.hid hw9
            have HX8 := Lib.hid hX8.at_
            have HTH : Hid (W8.there g8 (k * 35) cx.toArray.size) := Lib.hid (by rw [List.size_toArray, HLX.out]; exact hHT)
            have HZ9 : Hid ((Tryd.prog.info? 55).map (·.size) = some cx.toArray.size) := Lib.hid (by rw [List.size_toArray]; exact HZX.out)
            have HR8 := Lib.hid hrun8
            have hc8m : c8 ≤ 9223372036854775807 := hcm8
            clear hput hB9 hw9 hX8 hHT hd8 hrun8 hblk8 hb8 hBA8 hLA hneL hcm8 hBA hA5
            go_wp2_with (first
              | (refine wpList_plain rfl fun K hK => wp_app_run (.tmp 41) (.tmp 42) 44 44 (by rfl) _ _ _ _ (by rfl) (by rfl) HR8.out (hK _ _ ?_))
              | (refine wpList_load_mid rfl 55 (.tmp 5) (by rfl) w.heap.size 0 (by rfl) cx _ HX8.out Tryd.underlying55 rfl HZX.out ?_)
              | (refine store_named rfl 55 (.tmp 47) (.tmp 46) (by rfl) g8 (k * 35) cx (by first | rfl | (show Value.pointer _ = _; simp)) (by rfl) HTH.out HZ9.out (all_oneCell_toArray HOX.out) w9 HW9.out ?_))
            have hm : (l.set k x).length = N := by rw [List.length_set]; exact HN.out
            refine (check_any w9 _ (l.set k x) HP9.out (by rw [hm]; omega) (HT.out.below HB9.out h0) (by have := HB9.out.size; omega)).mono ?_
            rintro e w10 ⟨rfl, hb10⟩
            have HB10 := Lib.hid (HB9.out.trans (hb10.mono HB9.out.size))
            have HP10 := Lib.hid ((HP9.out.below hb10).mono hb10.size)
            clear hb10 hm
            have iwN : IntKind.i64.wrap ((N : Int) - 1) = (N : Int) - 1 := by rw [IntKind.wrap_i64]; omega
            obtain ⟨E9, hE9⟩ : ∃ E9, chk (l.set k x) = E9 := ⟨_, rfl⟩
            rw [hE9]
            by_cases hE90 : E9 = 0
            · subst hE90
              by_cases hlast : k = N - 1
              · have e1 : ((k : Int) == (N : Int) - 1) = true := by simp; omega
                have e2 : (k : Int) = (N : Int) - 1 := by omega
                clear hE9
                go_wp2
                go_returns
                exact ⟨rfl, HB10.out⟩
              · have e1 : ((k : Int) == (N : Int) - 1) = false := by simp; omega
                have e2 : ¬ (k : Int) = (N : Int) - 1 := by omega
                have hclash := changed_found HCH.out hKL ((chk_iff _).1 hE9) (by rw [HXK.out]; exact HKO.out) HXO.out (by rw [HXK.out]; exact of_decide_eq_false HE6.out) (by rw [HN.out]; exact hlast)
                have hcls : ∀ W, Kept w10 W → Calls Tryd.prog 40 #[.slice (some ⟨b, off, none⟩) (k + 1) cap, .slice (some ⟨g8, 0, none⟩) (k + 1) c8] W fun e w' => e = .returned (.bool true) ∧ Below W.heap.size W w' := fun W hW => by
                  have hBW := HB10.out.trans (hW.below.mono HB10.out.size)
                  have h := clash_any W _ _ _ _ (((HL.out.below hBW).mono hBW.size).take (m := k + 1) (by omega) rfl) (((HP10.out.below hW.below).mono hW.below.size).take (m := k + 1) (by omega) rfl) (HT.out.below hBW h0) (by have := hBW.size; omega)
                  rw [hclash] at h
                  exact h
                obtain ⟨k1, hk1⟩ : ∃ k1, k + 1 = k1 := ⟨_, rfl⟩
                rw [hk1] at hcls
                have ik1 : IntKind.i64.wrap ((k : Int) + 1) = (k1 : Int) := by rw [IntKind.wrap_i64]; omega
                have l1 : k1 ≤ cap := by omega
                have l2 : k1 ≤ c8 := by omega
                have HCLS := Lib.hid hcls
                clear hcls hclash hE9 hk1
                go_wp2_with fail
                refine wp_region_held_drew (S := fun W => Kept w10 W) (by kernel_rfl) (Kept.drew (Kept.refl w10)) (fun hHeld => ?_)
                refine wpAnyH_take (i := 0) (oi := l14b0) (v := ?_) rfl (by kernel_rfl) (by kernel_rfl) (by kernel_rfl) (fun _ _ _ h => h) (Or.inl ⟨by rfl, ?_⟩) hHeld ?_
                rotate_left
                · (intro w hSw; (try dsimp only at hSw); unfold l14b0; go_simp <;> with_reducible rfl)
                try simp only [l14b0, Act.put, List.setIfInBounds_toArray, List.set_cons_zero, List.set_cons_succ]
                refine wpAnyH_take (i := 1) (oi := l14b1) (v := ?_) rfl (by kernel_rfl) (by kernel_rfl) (by kernel_rfl) (fun _ _ _ h => h) (Or.inl ⟨by rfl, ?_⟩) hHeld ?_
                rotate_left
                · (intro w hSw; (try dsimp only at hSw); unfold l14b1; go_simp <;> with_reducible rfl)
                try simp only [l14b1, Act.put, List.setIfInBounds_toArray, List.set_cons_zero, List.set_cons_succ]
                refine wpAnyH_take (i := 2) (oi := l14b2) (v := ?_) rfl (by kernel_rfl) (by kernel_rfl) (by kernel_rfl) (fun _ _ _ h => h) (Or.inl ⟨by rfl, ?_⟩) hHeld ?_
                rotate_left
                · (intro w hSw; (try dsimp only at hSw); unfold l14b2; go_simp <;> with_reducible rfl)
                try simp only [l14b2, Act.put, List.setIfInBounds_toArray, List.set_cons_zero, List.set_cons_succ]
                refine wpAnyH_take (i := 3) (oi := l14b3) (v := ?_) rfl (by kernel_rfl) (by kernel_rfl) (by kernel_rfl) (fun _ _ _ h => h) (Or.inl ⟨by rfl, ?_⟩) hHeld ?_
                rotate_left
                · (intro w hSw; (try dsimp only at hSw); unfold l14b3; go_simp <;> with_reducible rfl)
                try simp only [l14b3, Act.put, List.setIfInBounds_toArray, List.set_cons_zero, List.set_cons_succ]
                refine wpAnyH_take (i := 4) (oi := l14b4) (v := ?_) rfl (by kernel_rfl) (by kernel_rfl) (by kernel_rfl) (fun _ _ _ h => h) (Or.inl ⟨by rfl, ?_⟩) hHeld ?_
                rotate_left
                · (intro w hSw; (try dsimp only at hSw); unfold l14b4; go_simp <;> with_reducible rfl)
                try simp only [l14b4, Act.put, List.setIfInBounds_toArray, List.set_cons_zero, List.set_cons_succ]
                refine wpAnyH_take (i := 5) (oi := l14b5) (v := ?_) rfl (by kernel_rfl) (by kernel_rfl) (by kernel_rfl) (fun _ _ _ h => h) (Or.inl ⟨by rfl, ?_⟩) hHeld ?_
                rotate_left
                · (intro w hSw; (try dsimp only at hSw); unfold l14b5; go_simp <;> with_reducible rfl)
                try simp only [l14b5, Act.put, List.setIfInBounds_toArray, List.set_cons_zero, List.set_cons_succ]
                refine wpAnyH_take (i := 6) (oi := l14b6) (v := ?_) rfl (by kernel_rfl) (by kernel_rfl) (by kernel_rfl) (fun _ _ _ h => h) (Or.inl ⟨by rfl, ?_⟩) hHeld ?_
                rotate_left
                · (intro w hSw; (try dsimp only at hSw); unfold l14b6; go_simp <;> with_reducible rfl)
                try simp only [l14b6, Act.put, List.setIfInBounds_toArray, List.set_cons_zero, List.set_cons_succ]
                refine wpAnyH_take (i := 7) (oi := l14b7) (v := ?_) rfl (by kernel_rfl) (by kernel_rfl) (by kernel_rfl) (fun _ _ _ h => h) (Or.inl ⟨by rfl, ?_⟩) hHeld ?_
                rotate_left
                · (intro w hSw; (try dsimp only at hSw); unfold l14b7; go_simp <;> with_reducible rfl)
                try simp only [l14b7, Act.put, List.setIfInBounds_toArray, List.set_cons_zero, List.set_cons_succ]
                refine wpAnyH_ready (rs := [8]) (by kernel_rfl) (by simp) ?_
                refine AllReadyH.cons (o := l14b8) rfl (fun K hK => ?_) AllReadyH.nil
                rw [if_pos (by rfl)]
                unfold l14b8
                go_simp
                (with_reducible refine (HCLS.out _ hHeld).mono ?_)
                rintro e W18 ⟨rfl, hB18⟩
                have hS18 := hHeld.next hB18
                go_wp2_with fail
                refine hK.out _ _ hS18 (fun hHeld => ?_)
                clear hK K
                try simp only [l14b8, Act.put, List.setIfInBounds_toArray, List.set_cons_zero, List.set_cons_succ]
                refine wpAnyH_take (i := 9) (oi := l14b9) (v := ?_) rfl (by kernel_rfl) (by kernel_rfl) (by kernel_rfl) (fun _ _ _ h => h) (Or.inl ⟨by rfl, ?_⟩) hHeld ?_
                rotate_left
                · (intro w hSw; (try dsimp only at hSw); unfold l14b9; go_simp <;> with_reducible rfl)
                try simp only [l14b9, Act.put, List.setIfInBounds_toArray, List.set_cons_zero, List.set_cons_succ]
                refine wpAnyH_done (by kernel_rfl) ?_ _
                have HST2 := Lib.hid hHeld
                clear hHeld hS18 hB18
                go_wp2
                go_returns
                exact ⟨rfl, HB10.out.trans (HST2.out.mono HB10.out.size)⟩
            · have e1 : (E9 == 0) = false := by simp [hE90]
              have e2 : (E9 != 0) = true := by simp [hE90]
              clear hE9
              go_wp2
              go_returns
              exact ⟨rfl, HB10.out⟩
        · have d5 : (E == 0) = false := by simp [hE0]
          have d6 : (E != 0) = true := by simp [hE0]
          clear hN hE hm3
          go_enter Tryd.func14, Tryd.ntmps14
          go_wp2_with fail
          have HB0 : Hid (Below w.heap.size w (w.alloc (.cells cx.toArray 55))) := Lib.hid ((Below.refl _ _).alloc (Nat.le_refl _) _)
          have HA0 : Hid (Arr (w.alloc (.cells cx.toArray 55)) w.heap.size cx) := Lib.hid (by have := Arr.new w cx.toArray 55; simpa using this)
          have HZ0 : Hid (w.heap.size < (w.alloc (.cells cx.toArray 55)).heap.size) := Lib.hid (by rw [World.size_alloc]; exact Nat.lt_succ_self _)
          refine (HSA.out _ HB0.out).mono ?_
          rintro e w1 ⟨rfl, hb1⟩
          have HB1 := Lib.hid (HB0.out.trans (hb1.mono HB0.out.size))
          have HA1 := Lib.hid (HA0.out.below hb1 HZ0.out)
          have HZ1 := Lib.hid (Nat.lt_of_lt_of_le HZ0.out hb1.size)
          clear hb1 HA0 HZ0 HB0
          have hc34 := HA1.out.cell HX34.out
          have hb1s := Lib.hid (Nat.le_refl w1.heap.size)
          go_wp2_with (first
            | (go_at_call 30; with_reducible refine (HFA.out _ HB1.out).mono ?_; rintro e w2 ⟨rfl, rfl⟩)
            | (go_at_call 31; with_reducible refine (HCA.out _ HB1.out).mono ?_; rintro e w3 ⟨rfl, hb3⟩; have HB3 := Lib.hid (HB1.out.trans (hb3.mono HB1.out.size)); clear hb3))
          go_returns
          exact ⟨rfl, HB3.out⟩
end Go.Proofs.YtfmngeemhfpeiaaDoor
