/- A packet waits behind the others. -/
import Derived.Test.YtjancbjjeemedaaRem
namespace Go.Proofs.Ytjancbjjeemedaa
open Go.RowKit

theorem clip_any (w : World) (a : Option Addr) (N cap : Nat) (h : N ≤ cap) : Calls Try.prog 47 #[.slice a N cap] w fun e w' => e = .returned (.slice a N N) ∧ w' = w := by
  have hs := slice_head a N cap N h
  clear h
  go_enter Try.func47, Try.ntmps47
  go_wp2
  go_ret
  exact ⟨rfl, rfl⟩

theorem wp_app_run {P : Program} {o : Oper} {a : Act} {w : World} {K : Act → World → Prop} {Q : Exit → Act → World → Prop} (s x : Operand) (t tx : TypeId)
    (ho : o.op = .call { callee := .builtin .append, args := #[s, x], argTypes := #[t, tx] }) (va vb v : Value) (w' : World) (h1 : a.eval s = va) (h2 : a.eval x = vb)
    (hrun : (Builtin.append_ #[t, tx] o.type #[va, vb]).run P w = .ok v w') (h : K (a.put o.dst v) w') : o.wp P a w K Q := by
  subst h1; subst h2
  unfold Oper.wp execOp
  simp [ho, resolve, invoke, builtin, hrun, Result.andThen]
  exact h
def q30p0 : Oper := { dst := some 11, op := Go.Op.fieldAddr 25 (Go.Operand.tmp 2) 0, type := 0, pos := "network.go:102", after := #[], guard := none }
def q30p1 : Oper := { dst := some 12, op := Go.Op.load 22 (Go.Operand.tmp 11), type := 22, pos := "network.go:102", after := #[{ on := 0, ground := Go.Ground.data }], guard := none }
def q30p2 : Oper := { dst := some 13, op := Go.Op.call { callee := Go.Callee.value (Go.Operand.func 47), args := #[Go.Operand.tmp 12], argTypes := #[22] }, type := 22, pos := "network.go:102", after := #[{ on := 1, ground := Go.Ground.data }], guard := none }
def q30p3 : Oper := { dst := some 14, op := Go.Op.load 28 (Go.Operand.tmp 3), type := 28, pos := "network.go:102", after := #[], guard := none }
def q30p4 : Oper := { dst := some 15, op := Go.Op.buildSlice 22 1 #[(0, Go.Operand.tmp 14)], type := 22, pos := "network.go:102", after := #[{ on := 3, ground := Go.Ground.data }], guard := none }
def q30p5 : Oper := { dst := some 16, op := Go.Op.call { callee := Go.Callee.builtin Go.Builtin.append, args := #[Go.Operand.tmp 13, Go.Operand.tmp 15], argTypes := #[22, 22] }, type := 22, pos := "network.go:102", after := #[{ on := 2, ground := Go.Ground.data }, { on := 4, ground := Go.Ground.data }, { on := 2, ground := Go.Ground.chain }], guard := none }
def q30p6 : Oper := { dst := some 17, op := Go.Op.fieldAddr 25 (Go.Operand.tmp 2) 0, type := 0, pos := "network.go:102", after := #[{ on := 0, ground := Go.Ground.phase }, { on := 1, ground := Go.Ground.phase }, { on := 2, ground := Go.Ground.phase }, { on := 3, ground := Go.Ground.phase }, { on := 4, ground := Go.Ground.phase }, { on := 5, ground := Go.Ground.phase }], guard := none }
def q30p7 : Oper := { dst := none, op := Go.Op.store 22 (Go.Operand.tmp 17) (Go.Operand.tmp 16), type := 0, pos := "network.go:102", after := #[{ on := 6, ground := Go.Ground.data }, { on := 5, ground := Go.Ground.data }, { on := 5, ground := Go.Ground.chain }, { on := 0, ground := Go.Ground.phase }, { on := 1, ground := Go.Ground.phase }, { on := 2, ground := Go.Ground.phase }, { on := 3, ground := Go.Ground.phase }, { on := 4, ground := Go.Ground.phase }, { on := 5, ground := Go.Ground.phase }], guard := none }
/-- Links whose rows lie below B or, the queue's, from H on. -/
def NSep (w : World) (B H : Nat) (v : Value) (n : Nt) : Prop := ∃ vq va, v = .agg #[vq, va] ∧ QSep w B H vq n.q ∧ AAt w B va n.ap
theorem NSep.at {w w' : World} {B H : Nat} {v : Value} {n : Nt} (h : NSep w B H v n) (hb : Below B w w') (hs : w.heap.size ≤ w'.heap.size) (hB : B ≤ w'.heap.size) (hc : ∀ b o, H ≤ b → b < w.heap.size → w'.cell? ⟨b, o, none⟩ = w.cell? ⟨b, o, none⟩) : NtAt w' w'.heap.size v n := by
  obtain ⟨vq, va, h1, h2, h3⟩ := h
  exact ⟨vq, va, h1, h2.at hb hs hB hc, (h3.below hb).mono hB⟩
theorem NSep.shape {w : World} {B H : Nat} {v : Value} {n : Nt} (h : NSep w B H v n) : ∃ (qa : Option Addr) (qc : Nat) (aa : Option Addr) (ac : Nat), v = .agg #[.slice qa n.q.length qc, .slice aa n.ap.length ac] := by
  obtain ⟨vq, va, rfl, ⟨a, c, rfl, _⟩, ⟨a', c', rfl, _⟩⟩ := h
  exact ⟨a, c, a', c', rfl⟩
theorem zero_sep (w : World) (B H : Nat) : NSep w B H (.agg #[.slice none 0 0, .slice none 0 0]) Nt.zero := ⟨_, _, rfl, ⟨none, 0, rfl, by simp [Nt.zero], by unfold maxLen; omega, .inl rfl⟩, a_nil _ _ _⟩
theorem QCells.qin {w : World} {B g : Nat} {l : List Pk} {cs : List Value} (h : QCells w B l cs) (hc : ∀ (j : Nat) (u : Value), cs[j]? = some u → w.cell? ⟨g, j, none⟩ = some u) : QIn w B g 0 l := fun i hi => by
  obtain ⟨a0, a1, a2, u, a3, a4⟩ := h.at_ i hi
  rw [Nat.zero_add]
  exact ⟨a0, hc _ _ a1, hc _ _ a2, u, hc _ _ a3, a4⟩
def Nt.push (n : Nt) (p : Pk) : Nt × Int := if n.q.length = 4096 then (Nt.zero, 2) else (⟨n.q ++ [p], n.ap⟩, 0)
set_option maxRecDepth 100000 in
set_option maxHeartbeats 4000000 in
theorem enq_sep (w : World) (B : Nat) (hB : B ≤ w.heap.size) (v : Value) (n : Nt) (h : NtAt w B v n) (hl : n.q.length ≤ 5000) (vp : Value) (p : Pk) (hp : PkAt w B vp p) : Calls Try.prog 30 #[v, vp] w fun e w' => ∃ v', e = .returned (.tuple #[v', .int .i64 (n.push p).2]) ∧ NSep w' B w.heap.size v' (n.push p).1 ∧ Below w.heap.size w w' := by
  obtain ⟨qa, qc, aa, ac, rfl, l1, l2, l3, l4, hq, ha⟩ := h.open
  obtain ⟨da, dc, rfl, hin, l5, l6, hd⟩ := hp.shape
  unfold Nt.push
  have HP := Lib.hid hp
  have HQ := Lib.hid hq
  have HA := Lib.hid ha
  have HCL := Lib.hid fun W => clip_any W qa n.q.length qc l1
  obtain ⟨N, hN⟩ : ∃ x, n.q.length = x := ⟨_, rfl⟩
  obtain ⟨M, hM⟩ : ∃ x, n.ap.length = x := ⟨_, rfl⟩
  obtain ⟨D, hD⟩ : ∃ x, p.data.length = x := ⟨_, rfl⟩
  have HN := Lib.hid hN
  have HD := Lib.hid hD
  have HM := Lib.hid hM
  rw [hN] at l1 hl HQ HCL ⊢
  rw [hM] at l3 HA ⊢
  rw [hD] at l5 HP ⊢
  clear h hp hq ha hd hN hM hD
  by_cases hf : N = 4096
  · rw [if_pos hf]
    subst hf
    go_enter Try.func30, Try.ntmps30
    go_wp2
    refine bodyPost_ret (v := .tuple #[.agg #[.slice none 0 0, .slice none 0 0], .int .i64 2]) (by simp [results, Try.results30, go_sem]) rfl ⟨_, rfl, zero_sep _ _ _, by go_grown⟩
  · rw [if_neg hf]
    have d0 : ((N : Int) == 4096) = false := by simp; omega
    -- <R
    obtain ⟨X0, hX0⟩ : ∃ X, X = w.alloc (Obj.cells #[.slice qa N qc, .slice aa M ac] 25) := ⟨_, rfl⟩
    obtain ⟨X1, hX1⟩ : ∃ X, X = X0.alloc (Obj.cells #[.int .i64 p.frm, .int .i64 p.to, .slice da D dc] 28) := ⟨_, rfl⟩
    obtain ⟨w3, hw3⟩ : ∃ X, X = X1.alloc (Obj.cells #[.slice none 0 0, .slice none 0 0] 25) := ⟨_, rfl⟩
    have hz0 : X0.heap.size = w.heap.size + 1 := by rw [hX0, World.size_alloc]
    have hz1 : X1.heap.size = w.heap.size + 1 + 1 := by rw [hX1, World.size_alloc, hz0]
    have hz3 : w3.heap.size = w.heap.size + 1 + 1 + 1 := by rw [hw3, World.size_alloc, hz1]
    have hb3 : Below w.heap.size w w3 := by rw [hw3, hX1, hX0]; go_grown
    have A0 : Arr w3 w.heap.size [.slice qa N qc, .slice aa M ac] := by
      have h1 : Arr X0 w.heap.size [.slice qa N qc, .slice aa M ac] := by rw [hX0]; exact Arr.new w #[.slice qa N qc, .slice aa M ac] 25
      rw [hw3, hX1]
      exact (h1.alloc (by omega) _).alloc (by rw [World.size_alloc]; omega) _
    have A1 : Arr w3 (w.heap.size + 1) [.int .i64 p.frm, .int .i64 p.to, .slice da D dc] := by
      have h1 : Arr X1 (w.heap.size + 1) [.int .i64 p.frm, .int .i64 p.to, .slice da D dc] := by rw [hX1, ← hz0]; exact Arr.new X0 #[.int .i64 p.frm, .int .i64 p.to, .slice da D dc] 28
      rw [hw3]
      exact h1.alloc (by omega) _
    have A2 : Arr w3 (w.heap.size + 1 + 1) [.slice none 0 0, .slice none 0 0] := by
      rw [hw3, ← hz1]; exact Arr.new X1 #[.slice none 0 0, .slice none 0 0] 25
    obtain ⟨X4, hX4⟩ : ∃ X, X = (w3.alloc (Obj.cells #[.int .i64 p.frm, .int .i64 p.to, .slice da D dc] 28)).drew := ⟨_, rfl⟩
    have hz4 : X4.heap.size = w3.heap.size + 1 := by rw [hX4]; exact World.size_alloc _ _
    have hb34 : Below w3.heap.size w3 X4 := by rw [hX4]; exact ((Below.refl _ _).alloc (Nat.le_refl _) _).drew
    have hw4 : Below w.heap.size w X4 := hb3.trans (hb34.mono hb3.size)
    obtain ⟨cs, hcs, hca, hcn⟩ := HQ.out.cells
    have hpq : BytesAt w B (.slice da D dc) p.data := by
      obtain ⟨_, u, h1, h2⟩ := HP.out
      injection h1 with h1
      simp at h1
      rw [h1]; exact h2
    have hone := QCells.one (w := X4) (B := B) (p := p) (u := .slice da D dc) hin (hpq.below (hw4.mono hB))
    have hA4 : Arr X4 w3.heap.size [.int .i64 p.frm, .int .i64 p.to, .slice da D dc] := by
      rw [hX4]
      have : Arr (w3.alloc (Obj.cells #[.int .i64 p.frm, .int .i64 p.to, .slice da D dc] 28)) w3.heap.size [.int .i64 p.frm, .int .i64 p.to, .slice da D dc] := Arr.new w3 #[.int .i64 p.frm, .int .i64 p.to, .slice da D dc] 28
      exact this.drew
    obtain ⟨vc', arr, hrun, harr, f1, f2⟩ := q_app2 X4 B qa n.q cs (hcs.below (hw4.mono hB)) (by
      by_cases h0 : n.q = []
      · exact .inl h0
      · obtain ⟨b, off, rfl, hb, hc⟩ := hca h0
        exact .inr ⟨_, rfl, fun j u hu => by rw [Addr.add_mid]; exact (hw4.cell (p := ⟨b, off + j, none⟩) (Nat.lt_of_lt_of_le hb hB)).trans (hc j u hu)⟩) ⟨w3.heap.size, 0, none⟩ 1 [p] [.int .i64 p.frm, .int .i64 p.to, .slice da D dc] hone (fun j u hu => by rw [Addr.add_mid, Nat.zero_add]; exact hA4.cell hu) (by simp) (by rw [HN.out]; simp; omega)
    rw [HN.out, List.length_singleton] at hrun f1
    obtain ⟨W', hW'⟩ : ∃ W', W' = X4.drew.alloc (.cells arr 28) := ⟨_, rfl⟩
    rw [← hW'] at hrun
    have hbw : Below X4.heap.size X4 W' := by rw [hW']; exact (Below.drew (Below.refl _ _)).alloc (Nat.le_refl _) _
    have hzW : W'.heap.size = X4.heap.size + 1 := by rw [hW', World.size_alloc]; rfl
    have hgc : ∀ j u, (cs ++ [.int .i64 p.frm, .int .i64 p.to, .slice da D dc])[j]? = some u → W'.cell? ⟨X4.heap.size, j, none⟩ = some u := fun j u hu => by
      have h1 : (X4.drew.alloc (.cells arr 28)).cell? ⟨X4.drew.heap.size, j, none⟩ = arr[j]? := by rw [World.cell?_alloc_new]
      rw [hW']; exact h1.trans (harr j u hu)
    obtain ⟨gq, hgq⟩ : ∃ g, X4.heap.size = g := ⟨_, rfl⟩
    have HFIN : Hid (∀ Wf : World, Below w.heap.size w Wf → (∀ j, Wf.cell? ⟨gq, j, none⟩ = W'.cell? ⟨gq, j, none⟩) → gq < Wf.heap.size → NSep Wf B w.heap.size (.agg #[.slice (some ⟨gq, 0, none⟩) (N + 1) vc', .slice aa M ac]) ⟨n.q ++ [p], n.ap⟩) := Lib.hid fun Wf hBf0 hcf hgf => by
      have hBf := hBf0.mono hB
      refine ⟨_, _, rfl, ?_, HA.out.below hBf⟩
      have hq1 := (hcs.below hBf).app (QCells.one (w := Wf) (B := B) (p := p) (u := .slice da D dc) hin (hpq.below hBf))
      have hlen : (n.q ++ [p]).length = N + 1 := by rw [List.length_append, HN.out, List.length_singleton]
      exact ⟨_, vc', by rw [hlen], by rw [hlen]; exact f1, f2, .inr ⟨gq, 0, rfl, .inr (by omega), hgf, hq1.qin (fun j u hu => (hcf j).trans (hgq ▸ hgc j u hu))⟩⟩
    rw [hgq, hz3] at hrun
    rw [hgq] at hzW
    clear hcs hca hcn hpq hone hA4 harr hgc
    have hb3W : Below w3.heap.size w3 W' := hb34.trans (hbw.mono hb34.size)
    have hwW : Below w.heap.size w W' := hb3.trans (hb3W.mono hb3.size)
    have B0 : Arr W' w.heap.size [.slice qa N qc, .slice aa M ac] := A0.below hb3W (by omega)
    have B2 : Arr W' (w.heap.size + 1 + 1) [.slice none 0 0, .slice none 0 0] := A2.below hb3W (by omega)
    have A04 : Arr X4 w.heap.size [.slice qa N qc, .slice aa M ac] := A0.below hb34 (by omega)
    have A14 : Arr X4 (w.heap.size + 1) [.int .i64 p.frm, .int .i64 p.to, .slice da D dc] := A1.below hb34 (by omega)
    have c0 : w3.cell? ⟨w.heap.size, 0, none⟩ = some (.slice qa N qc) := A0.cell rfl
    have c1 : w3.cell? ⟨w.heap.size + 1, 0, none⟩ = some (.int .i64 p.frm) := A1.cell rfl
    have c2 : w3.cell? ⟨w.heap.size + 1, 1, none⟩ = some (.int .i64 p.to) := A1.cell rfl
    have c3 : w3.cell? ⟨w.heap.size + 1, 2, none⟩ = some (.slice da D dc) := A1.cell rfl
    have d0 : X4.cell? ⟨w.heap.size, 0, none⟩ = some (.slice qa N qc) := A04.cell rfl
    have e0 : W'.cell? ⟨w.heap.size, 0, none⟩ = some (.slice qa N qc) := B0.cell rfl
    have e1 : W'.cell? ⟨w.heap.size, 1, none⟩ = some (.slice aa M ac) := B0.cell rfl
    have f0 : W'.frozen? ⟨w.heap.size, 0, none⟩ = false := B0.frozen (by simp)
    have e20 : W'.cell? ⟨w.heap.size + 1 + 1, 0, none⟩ = some (.slice none 0 0) := B2.cell rfl
    have e21 : W'.cell? ⟨w.heap.size + 1 + 1, 1, none⟩ = some (.slice none 0 0) := B2.cell rfl
    have f20 : W'.frozen? ⟨w.heap.size + 1 + 1, 0, none⟩ = false := B2.frozen (by simp)
    have f21 : W'.frozen? ⟨w.heap.size + 1 + 1, 1, none⟩ = false := B2.frozen (by simp)
    have HS0 : Hid (Below w.heap.size w w3.drew) := Lib.hid hb3.drew
    have HS4 : Hid (Below w.heap.size w X4) := Lib.hid (hb3.trans (hb34.mono hb3.size))
    have HS5 : Hid (Below w.heap.size w W') := Lib.hid hwW
    have HS7 : Hid (Below w.heap.size w (W'.setCell ⟨w.heap.size, 0, none⟩ (.slice (some ⟨gq, 0, none⟩) (N + 1) vc'))) := Lib.hid (hwW.setCell (p := ⟨w.heap.size, 0, none⟩) (Nat.le_refl _) _)
    have HRUN := Lib.hid hrun
    obtain ⟨WF, hWF⟩ : ∃ WF, ((W'.setCell ⟨w.heap.size, 0, none⟩ (.slice (some ⟨gq, 0, none⟩) (N + 1) vc')).setCell ⟨w.heap.size + 1 + 1, 0, none⟩ (.slice (some ⟨gq, 0, none⟩) (N + 1) vc')).setCell ⟨w.heap.size + 1 + 1, 1, none⟩ (.slice aa M ac) = WF := ⟨_, rfl⟩
    have C2 : Arr WF (w.heap.size + 1 + 1) [.slice (some ⟨gq, 0, none⟩) (N + 1) vc', .slice aa M ac] := by
      rw [← hWF]; exact ((B2.other (b' := w.heap.size) (by omega) 0 _).set 0 _).set 1 _
    have r0 : WF.cell? ⟨w.heap.size + 1 + 1, 0, none⟩ = some (.slice (some ⟨gq, 0, none⟩) (N + 1) vc') := C2.cell rfl
    have r1 : WF.cell? ⟨w.heap.size + 1 + 1, 1, none⟩ = some (.slice aa M ac) := C2.cell rfl
    have hBF : Below w.heap.size w WF := by
      rw [← hWF]; exact ((hwW.setCell (p := ⟨w.heap.size, 0, none⟩) (Nat.le_refl _) _).setCell (p := ⟨w.heap.size + 1 + 1, 0, none⟩) (by show w.heap.size ≤ w.heap.size + 1 + 1; omega) _).setCell (p := ⟨w.heap.size + 1 + 1, 1, none⟩) (by show w.heap.size ≤ w.heap.size + 1 + 1; omega) _
    have HBF := Lib.hid hBF
    have hgqz : w.heap.size + 1 + 1 < gq := by rw [← hgq]; omega
    have HFF := Lib.hid (HFIN.out WF hBF (fun j => by
      have n1 : ∀ b o, b < gq → (⟨b, o, none⟩ : Addr) ≠ ⟨gq, j, none⟩ := fun b o hb e => by
        have := congrArg Addr.block e
        dsimp only at this
        omega
      have n2 : ∀ b o, b < gq → (⟨gq, j, none⟩ : Addr) ≠ ⟨b, o, none⟩ := fun b o hb e => n1 b o hb e.symm
      rw [← hWF]
      refine (World.cell?_setCell_other _ _ _ _ ?_).trans ((World.cell?_setCell_other _ _ _ _ ?_).trans (World.cell?_setCell_other _ _ _ _ ?_)) <;> first | exact n1 _ _ (by omega) | exact n2 _ _ (by omega)) (by rw [← hWF]; simp; omega))
    have HWF := Lib.hid hWF
    have HX4 := Lib.hid hX4
    have HW3 : Hid (((w.alloc (Obj.cells #[.slice qa N qc, .slice aa M ac] 25)).alloc (Obj.cells #[.int .i64 p.frm, .int .i64 p.to, .slice da D dc] 28)).alloc (Obj.cells #[.slice none 0 0, .slice none 0 0] 25) = w3) := Lib.hid (by rw [hw3, hX1, hX0])
    clear hX0 hX1 hw3 hz0 hz1 hb3 A0 A1 A2 hX4 hb34 hrun hW' hbw hgq C2 hWF hBF hgqz HFIN hb3W hwW B0 B2 A04 A14
    go_enter Try.func30, Try.ntmps30
    go_wp2
    rw [HW3.out]
    refine wp_region_held_drew (S := fun W => Below w.heap.size w W) (by kernel_rfl) HS0.out (fun hHeld => ?_)
    refine wpAnyH_take (i := 0) (oi := q30p0) (v := ?_) rfl (by kernel_rfl) (by kernel_rfl) (by kernel_rfl) (fun _ _ _ h => h) (Or.inl ⟨by rfl, ?_⟩) hHeld ?_
    rotate_left
    · (intro w hSw; (try dsimp only at hSw); unfold q30p0; go_simp <;> with_reducible rfl)
    try simp only [q30p0, Act.put, List.setIfInBounds_toArray, List.set_cons_zero, List.set_cons_succ]
    refine wpAnyH_ready (rs := [1, 3]) (by kernel_rfl) (by simp) ?_
    refine AllReadyH.cons (o := q30p1) rfl (fun K hK => ?_) (AllReadyH.cons (o := q30p3) rfl (fun K hK => ?_) AllReadyH.nil)
    · skip
      rw [if_pos (by rfl)]
      unfold q30p1
      go_simp
      refine hK.out _ _ hHeld (fun hHeld => ?_)
      clear hK K
      try simp only [q30p1, Act.put, List.setIfInBounds_toArray, List.set_cons_zero, List.set_cons_succ]
      refine wpAnyH_ready (rs := [2, 3]) (by kernel_rfl) (by simp) ?_
      refine AllReadyH.cons (o := q30p2) rfl (fun K hK => ?_) (AllReadyH.cons (o := q30p3) rfl (fun K hK => ?_) AllReadyH.nil)
      · skip
        rw [if_pos (by rfl)]
        unfold q30p2
        go_simp
        go_at_call 47
        refine (HCL.out _).mono ?_
        rintro e w8 ⟨rfl, rfl⟩
        go_wp2_with fail
        refine hK.out _ _ hHeld (fun hHeld => ?_)
        clear hK K
        try simp only [q30p2, Act.put, List.setIfInBounds_toArray, List.set_cons_zero, List.set_cons_succ]
        refine wpAnyH_ready (rs := [3]) (by kernel_rfl) (by simp) ?_
        refine AllReadyH.cons (o := q30p3) rfl (fun K hK => ?_) AllReadyH.nil
        rw [if_pos (by rfl)]
        unfold q30p3
        go_simp
        refine hK.out _ _ hHeld (fun hHeld => ?_)
        clear hK K
        try simp only [q30p3, Act.put, List.setIfInBounds_toArray, List.set_cons_zero, List.set_cons_succ]
        refine wpAnyH_ready (rs := [4]) (by kernel_rfl) (by simp) ?_
        refine AllReadyH.cons (o := q30p4) rfl (fun K hK => ?_) AllReadyH.nil
        rw [if_pos (by rfl)]
        unfold q30p4
        go_simp
        rw [← HX4.out]
        refine hK.out _ _ HS4.out (fun hHeld => ?_)
        clear hK K
        try simp only [q30p4, Act.put, List.setIfInBounds_toArray, List.set_cons_zero, List.set_cons_succ]
        refine wpAnyH_ready (rs := [5]) (by kernel_rfl) (by simp) ?_
        refine AllReadyH.cons (o := q30p5) rfl (fun K hK => ?_) AllReadyH.nil
        rw [if_pos (by rfl)]
        refine wp_app_run (.tmp 13) (.tmp 15) 22 22 rfl _ _ _ W' (by rfl) (by rfl) HRUN.out ?_
        refine hK.out _ _ HS5.out (fun hHeld => ?_)
        clear hK K
        try simp only [q30p5, Act.put, List.setIfInBounds_toArray, List.set_cons_zero, List.set_cons_succ]
        refine wpAnyH_take (i := 6) (oi := q30p6) (v := ?_) rfl (by kernel_rfl) (by kernel_rfl) (by kernel_rfl) (fun _ _ _ h => h) (Or.inl ⟨by rfl, ?_⟩) hHeld ?_
        rotate_left
        · (intro w hSw; (try dsimp only at hSw); unfold q30p6; go_simp <;> with_reducible rfl)
        try simp only [q30p6, Act.put, List.setIfInBounds_toArray, List.set_cons_zero, List.set_cons_succ]
        refine wpAnyH_ready (rs := [7]) (by kernel_rfl) (by simp) ?_
        refine AllReadyH.cons (o := q30p7) rfl (fun K hK => ?_) AllReadyH.nil
        rw [if_pos (by rfl)]
        unfold q30p7
        go_simp
        refine hK.out _ _ HS7.out (fun hHeld => ?_)
        clear hK K
        try simp only [q30p7, Act.put]
        refine wpAnyH_done (by kernel_rfl) ?_ _
        clear hHeld
        go_wp2
        rw [HWF.out]
        refine bodyPost_ret (v := .tuple #[.agg #[.slice (some ⟨gq, 0, none⟩) (N + 1) vc', .slice aa M ac], .int .i64 0]) (by simp [results, Try.results30, go_sem, r0, r1]) rfl ⟨_, rfl, HFF.out, HBF.out⟩
      · skip
        rw [if_pos (by rfl)]
        unfold q30p3
        go_simp
        refine hK.out _ _ hHeld (fun hHeld => ?_)
        clear hK K
        try simp only [q30p3, Act.put, List.setIfInBounds_toArray, List.set_cons_zero, List.set_cons_succ]
        refine wpAnyH_ready (rs := [2, 4]) (by kernel_rfl) (by simp) ?_
        refine AllReadyH.cons (o := q30p2) rfl (fun K hK => ?_) (AllReadyH.cons (o := q30p4) rfl (fun K hK => ?_) AllReadyH.nil)
        · skip
          rw [if_pos (by rfl)]
          unfold q30p2
          go_simp
          go_at_call 47
          refine (HCL.out _).mono ?_
          rintro e w8 ⟨rfl, rfl⟩
          go_wp2_with fail
          refine hK.out _ _ hHeld (fun hHeld => ?_)
          clear hK K
          try simp only [q30p2, Act.put, List.setIfInBounds_toArray, List.set_cons_zero, List.set_cons_succ]
          refine wpAnyH_ready (rs := [4]) (by kernel_rfl) (by simp) ?_
          refine AllReadyH.cons (o := q30p4) rfl (fun K hK => ?_) AllReadyH.nil
          rw [if_pos (by rfl)]
          unfold q30p4
          go_simp
          rw [← HX4.out]
          refine hK.out _ _ HS4.out (fun hHeld => ?_)
          clear hK K
          try simp only [q30p4, Act.put, List.setIfInBounds_toArray, List.set_cons_zero, List.set_cons_succ]
          refine wpAnyH_ready (rs := [5]) (by kernel_rfl) (by simp) ?_
          refine AllReadyH.cons (o := q30p5) rfl (fun K hK => ?_) AllReadyH.nil
          rw [if_pos (by rfl)]
          refine wp_app_run (.tmp 13) (.tmp 15) 22 22 rfl _ _ _ W' (by rfl) (by rfl) HRUN.out ?_
          refine hK.out _ _ HS5.out (fun hHeld => ?_)
          clear hK K
          try simp only [q30p5, Act.put, List.setIfInBounds_toArray, List.set_cons_zero, List.set_cons_succ]
          refine wpAnyH_take (i := 6) (oi := q30p6) (v := ?_) rfl (by kernel_rfl) (by kernel_rfl) (by kernel_rfl) (fun _ _ _ h => h) (Or.inl ⟨by rfl, ?_⟩) hHeld ?_
          rotate_left
          · (intro w hSw; (try dsimp only at hSw); unfold q30p6; go_simp <;> with_reducible rfl)
          try simp only [q30p6, Act.put, List.setIfInBounds_toArray, List.set_cons_zero, List.set_cons_succ]
          refine wpAnyH_ready (rs := [7]) (by kernel_rfl) (by simp) ?_
          refine AllReadyH.cons (o := q30p7) rfl (fun K hK => ?_) AllReadyH.nil
          rw [if_pos (by rfl)]
          unfold q30p7
          go_simp
          refine hK.out _ _ HS7.out (fun hHeld => ?_)
          clear hK K
          try simp only [q30p7, Act.put]
          refine wpAnyH_done (by kernel_rfl) ?_ _
          clear hHeld
          go_wp2
          rw [HWF.out]
          refine bodyPost_ret (v := .tuple #[.agg #[.slice (some ⟨gq, 0, none⟩) (N + 1) vc', .slice aa M ac], .int .i64 0]) (by simp [results, Try.results30, go_sem, r0, r1]) rfl ⟨_, rfl, HFF.out, HBF.out⟩
        · skip
          rw [if_pos (by rfl)]
          unfold q30p4
          go_simp
          rw [← HX4.out]
          refine hK.out _ _ HS4.out (fun hHeld => ?_)
          clear hK K
          try simp only [q30p4, Act.put, List.setIfInBounds_toArray, List.set_cons_zero, List.set_cons_succ]
          refine wpAnyH_ready (rs := [2]) (by kernel_rfl) (by simp) ?_
          refine AllReadyH.cons (o := q30p2) rfl (fun K hK => ?_) AllReadyH.nil
          rw [if_pos (by rfl)]
          unfold q30p2
          go_simp
          go_at_call 47
          refine (HCL.out _).mono ?_
          rintro e w8 ⟨rfl, rfl⟩
          go_wp2_with fail
          refine hK.out _ _ hHeld (fun hHeld => ?_)
          clear hK K
          try simp only [q30p2, Act.put, List.setIfInBounds_toArray, List.set_cons_zero, List.set_cons_succ]
          refine wpAnyH_ready (rs := [5]) (by kernel_rfl) (by simp) ?_
          refine AllReadyH.cons (o := q30p5) rfl (fun K hK => ?_) AllReadyH.nil
          rw [if_pos (by rfl)]
          refine wp_app_run (.tmp 13) (.tmp 15) 22 22 rfl _ _ _ W' (by rfl) (by rfl) HRUN.out ?_
          refine hK.out _ _ HS5.out (fun hHeld => ?_)
          clear hK K
          try simp only [q30p5, Act.put, List.setIfInBounds_toArray, List.set_cons_zero, List.set_cons_succ]
          refine wpAnyH_take (i := 6) (oi := q30p6) (v := ?_) rfl (by kernel_rfl) (by kernel_rfl) (by kernel_rfl) (fun _ _ _ h => h) (Or.inl ⟨by rfl, ?_⟩) hHeld ?_
          rotate_left
          · (intro w hSw; (try dsimp only at hSw); unfold q30p6; go_simp <;> with_reducible rfl)
          try simp only [q30p6, Act.put, List.setIfInBounds_toArray, List.set_cons_zero, List.set_cons_succ]
          refine wpAnyH_ready (rs := [7]) (by kernel_rfl) (by simp) ?_
          refine AllReadyH.cons (o := q30p7) rfl (fun K hK => ?_) AllReadyH.nil
          rw [if_pos (by rfl)]
          unfold q30p7
          go_simp
          refine hK.out _ _ HS7.out (fun hHeld => ?_)
          clear hK K
          try simp only [q30p7, Act.put]
          refine wpAnyH_done (by kernel_rfl) ?_ _
          clear hHeld
          go_wp2
          rw [HWF.out]
          refine bodyPost_ret (v := .tuple #[.agg #[.slice (some ⟨gq, 0, none⟩) (N + 1) vc', .slice aa M ac], .int .i64 0]) (by simp [results, Try.results30, go_sem, r0, r1]) rfl ⟨_, rfl, HFF.out, HBF.out⟩
    · skip
      rw [if_pos (by rfl)]
      unfold q30p3
      go_simp
      refine hK.out _ _ hHeld (fun hHeld => ?_)
      clear hK K
      try simp only [q30p3, Act.put, List.setIfInBounds_toArray, List.set_cons_zero, List.set_cons_succ]
      refine wpAnyH_ready (rs := [1, 4]) (by kernel_rfl) (by simp) ?_
      refine AllReadyH.cons (o := q30p1) rfl (fun K hK => ?_) (AllReadyH.cons (o := q30p4) rfl (fun K hK => ?_) AllReadyH.nil)
      · skip
        rw [if_pos (by rfl)]
        unfold q30p1
        go_simp
        refine hK.out _ _ hHeld (fun hHeld => ?_)
        clear hK K
        try simp only [q30p1, Act.put, List.setIfInBounds_toArray, List.set_cons_zero, List.set_cons_succ]
        refine wpAnyH_ready (rs := [2, 4]) (by kernel_rfl) (by simp) ?_
        refine AllReadyH.cons (o := q30p2) rfl (fun K hK => ?_) (AllReadyH.cons (o := q30p4) rfl (fun K hK => ?_) AllReadyH.nil)
        · skip
          rw [if_pos (by rfl)]
          unfold q30p2
          go_simp
          go_at_call 47
          refine (HCL.out _).mono ?_
          rintro e w8 ⟨rfl, rfl⟩
          go_wp2_with fail
          refine hK.out _ _ hHeld (fun hHeld => ?_)
          clear hK K
          try simp only [q30p2, Act.put, List.setIfInBounds_toArray, List.set_cons_zero, List.set_cons_succ]
          refine wpAnyH_ready (rs := [4]) (by kernel_rfl) (by simp) ?_
          refine AllReadyH.cons (o := q30p4) rfl (fun K hK => ?_) AllReadyH.nil
          rw [if_pos (by rfl)]
          unfold q30p4
          go_simp
          rw [← HX4.out]
          refine hK.out _ _ HS4.out (fun hHeld => ?_)
          clear hK K
          try simp only [q30p4, Act.put, List.setIfInBounds_toArray, List.set_cons_zero, List.set_cons_succ]
          refine wpAnyH_ready (rs := [5]) (by kernel_rfl) (by simp) ?_
          refine AllReadyH.cons (o := q30p5) rfl (fun K hK => ?_) AllReadyH.nil
          rw [if_pos (by rfl)]
          refine wp_app_run (.tmp 13) (.tmp 15) 22 22 rfl _ _ _ W' (by rfl) (by rfl) HRUN.out ?_
          refine hK.out _ _ HS5.out (fun hHeld => ?_)
          clear hK K
          try simp only [q30p5, Act.put, List.setIfInBounds_toArray, List.set_cons_zero, List.set_cons_succ]
          refine wpAnyH_take (i := 6) (oi := q30p6) (v := ?_) rfl (by kernel_rfl) (by kernel_rfl) (by kernel_rfl) (fun _ _ _ h => h) (Or.inl ⟨by rfl, ?_⟩) hHeld ?_
          rotate_left
          · (intro w hSw; (try dsimp only at hSw); unfold q30p6; go_simp <;> with_reducible rfl)
          try simp only [q30p6, Act.put, List.setIfInBounds_toArray, List.set_cons_zero, List.set_cons_succ]
          refine wpAnyH_ready (rs := [7]) (by kernel_rfl) (by simp) ?_
          refine AllReadyH.cons (o := q30p7) rfl (fun K hK => ?_) AllReadyH.nil
          rw [if_pos (by rfl)]
          unfold q30p7
          go_simp
          refine hK.out _ _ HS7.out (fun hHeld => ?_)
          clear hK K
          try simp only [q30p7, Act.put]
          refine wpAnyH_done (by kernel_rfl) ?_ _
          clear hHeld
          go_wp2
          rw [HWF.out]
          refine bodyPost_ret (v := .tuple #[.agg #[.slice (some ⟨gq, 0, none⟩) (N + 1) vc', .slice aa M ac], .int .i64 0]) (by simp [results, Try.results30, go_sem, r0, r1]) rfl ⟨_, rfl, HFF.out, HBF.out⟩
        · skip
          rw [if_pos (by rfl)]
          unfold q30p4
          go_simp
          rw [← HX4.out]
          refine hK.out _ _ HS4.out (fun hHeld => ?_)
          clear hK K
          try simp only [q30p4, Act.put, List.setIfInBounds_toArray, List.set_cons_zero, List.set_cons_succ]
          refine wpAnyH_ready (rs := [2]) (by kernel_rfl) (by simp) ?_
          refine AllReadyH.cons (o := q30p2) rfl (fun K hK => ?_) AllReadyH.nil
          rw [if_pos (by rfl)]
          unfold q30p2
          go_simp
          go_at_call 47
          refine (HCL.out _).mono ?_
          rintro e w8 ⟨rfl, rfl⟩
          go_wp2_with fail
          refine hK.out _ _ hHeld (fun hHeld => ?_)
          clear hK K
          try simp only [q30p2, Act.put, List.setIfInBounds_toArray, List.set_cons_zero, List.set_cons_succ]
          refine wpAnyH_ready (rs := [5]) (by kernel_rfl) (by simp) ?_
          refine AllReadyH.cons (o := q30p5) rfl (fun K hK => ?_) AllReadyH.nil
          rw [if_pos (by rfl)]
          refine wp_app_run (.tmp 13) (.tmp 15) 22 22 rfl _ _ _ W' (by rfl) (by rfl) HRUN.out ?_
          refine hK.out _ _ HS5.out (fun hHeld => ?_)
          clear hK K
          try simp only [q30p5, Act.put, List.setIfInBounds_toArray, List.set_cons_zero, List.set_cons_succ]
          refine wpAnyH_take (i := 6) (oi := q30p6) (v := ?_) rfl (by kernel_rfl) (by kernel_rfl) (by kernel_rfl) (fun _ _ _ h => h) (Or.inl ⟨by rfl, ?_⟩) hHeld ?_
          rotate_left
          · (intro w hSw; (try dsimp only at hSw); unfold q30p6; go_simp <;> with_reducible rfl)
          try simp only [q30p6, Act.put, List.setIfInBounds_toArray, List.set_cons_zero, List.set_cons_succ]
          refine wpAnyH_ready (rs := [7]) (by kernel_rfl) (by simp) ?_
          refine AllReadyH.cons (o := q30p7) rfl (fun K hK => ?_) AllReadyH.nil
          rw [if_pos (by rfl)]
          unfold q30p7
          go_simp
          refine hK.out _ _ HS7.out (fun hHeld => ?_)
          clear hK K
          try simp only [q30p7, Act.put]
          refine wpAnyH_done (by kernel_rfl) ?_ _
          clear hHeld
          go_wp2
          rw [HWF.out]
          refine bodyPost_ret (v := .tuple #[.agg #[.slice (some ⟨gq, 0, none⟩) (N + 1) vc', .slice aa M ac], .int .i64 0]) (by simp [results, Try.results30, go_sem, r0, r1]) rfl ⟨_, rfl, HFF.out, HBF.out⟩
      · skip
        rw [if_pos (by rfl)]
        unfold q30p4
        go_simp
        rw [← HX4.out]
        refine hK.out _ _ HS4.out (fun hHeld => ?_)
        clear hK K
        try simp only [q30p4, Act.put, List.setIfInBounds_toArray, List.set_cons_zero, List.set_cons_succ]
        refine wpAnyH_ready (rs := [1]) (by kernel_rfl) (by simp) ?_
        refine AllReadyH.cons (o := q30p1) rfl (fun K hK => ?_) AllReadyH.nil
        rw [if_pos (by rfl)]
        unfold q30p1
        go_simp
        refine hK.out _ _ hHeld (fun hHeld => ?_)
        clear hK K
        try simp only [q30p1, Act.put, List.setIfInBounds_toArray, List.set_cons_zero, List.set_cons_succ]
        refine wpAnyH_ready (rs := [2]) (by kernel_rfl) (by simp) ?_
        refine AllReadyH.cons (o := q30p2) rfl (fun K hK => ?_) AllReadyH.nil
        rw [if_pos (by rfl)]
        unfold q30p2
        go_simp
        go_at_call 47
        refine (HCL.out _).mono ?_
        rintro e w8 ⟨rfl, rfl⟩
        go_wp2_with fail
        refine hK.out _ _ hHeld (fun hHeld => ?_)
        clear hK K
        try simp only [q30p2, Act.put, List.setIfInBounds_toArray, List.set_cons_zero, List.set_cons_succ]
        refine wpAnyH_ready (rs := [5]) (by kernel_rfl) (by simp) ?_
        refine AllReadyH.cons (o := q30p5) rfl (fun K hK => ?_) AllReadyH.nil
        rw [if_pos (by rfl)]
        refine wp_app_run (.tmp 13) (.tmp 15) 22 22 rfl _ _ _ W' (by rfl) (by rfl) HRUN.out ?_
        refine hK.out _ _ HS5.out (fun hHeld => ?_)
        clear hK K
        try simp only [q30p5, Act.put, List.setIfInBounds_toArray, List.set_cons_zero, List.set_cons_succ]
        refine wpAnyH_take (i := 6) (oi := q30p6) (v := ?_) rfl (by kernel_rfl) (by kernel_rfl) (by kernel_rfl) (fun _ _ _ h => h) (Or.inl ⟨by rfl, ?_⟩) hHeld ?_
        rotate_left
        · (intro w hSw; (try dsimp only at hSw); unfold q30p6; go_simp <;> with_reducible rfl)
        try simp only [q30p6, Act.put, List.setIfInBounds_toArray, List.set_cons_zero, List.set_cons_succ]
        refine wpAnyH_ready (rs := [7]) (by kernel_rfl) (by simp) ?_
        refine AllReadyH.cons (o := q30p7) rfl (fun K hK => ?_) AllReadyH.nil
        rw [if_pos (by rfl)]
        unfold q30p7
        go_simp
        refine hK.out _ _ HS7.out (fun hHeld => ?_)
        clear hK K
        try simp only [q30p7, Act.put]
        refine wpAnyH_done (by kernel_rfl) ?_ _
        clear hHeld
        go_wp2
        rw [HWF.out]
        refine bodyPost_ret (v := .tuple #[.agg #[.slice (some ⟨gq, 0, none⟩) (N + 1) vc', .slice aa M ac], .int .i64 0]) (by simp [results, Try.results30, go_sem, r0, r1]) rfl ⟨_, rfl, HFF.out, HBF.out⟩
end Go.Proofs.Ytjancbjjeemedaa
