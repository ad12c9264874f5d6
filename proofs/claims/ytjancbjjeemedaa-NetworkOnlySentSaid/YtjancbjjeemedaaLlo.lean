/- For every link and number NetworkLost answers true and leaves its arguments as they were: the walk. -/
import Derived.Test.YtjancbjjeemedaaSny
import Derived.Test.YtjancbjjeemedaaArg
namespace Go.Proofs.Ytjancbjjeemedaa
open Go.RowKit

theorem ok_parts {n : Nt} (h : n.ok = true) : n.q.length ≤ 4096 ∧ (∀ p ∈ n.q, okPk p = true) ∧ okA n.ap = true := by
  unfold Nt.ok okQ at h
  simp only [Bool.and_eq_true, decide_eq_true_eq, List.all_eq_true] at h
  exact ⟨h.1.1, h.1.2, h.2⟩
theorem ok_mk {q : List Pk} {ap : List (Int × Int)} (h1 : q.length ≤ 4096) (h2 : ∀ p ∈ q, okPk p = true) (h3 : okA ap = true) : Nt.ok ⟨q, ap⟩ = true := by
  unfold Nt.ok okQ
  simp only [Bool.and_eq_true, decide_eq_true_eq, List.all_eq_true]
  exact ⟨⟨h1, h2⟩, h3⟩
theorem err_in {n : Nt} (h : n.ok = true) {i : Nat} (hi : i < n.q.length) : n.err i = 0 := by
  unfold Nt.err
  rw [h, if_pos rfl, if_neg (by omega)]
theorem few_iff {n : Nt} : n.few = true ↔ n.q.length ≤ 40 ∧ n.ap.length ≤ 40 := by unfold Nt.few; simp
theorem erase_app {l : List Pk} {i : Nat} (h : i < l.length) (p : Pk) : (l ++ [p]).eraseIdx i = l.eraseIdx i ++ [p] := by
  rw [List.eraseIdx_append_of_lt_length h]
theorem lose_in {n : Nt} (h : n.ok = true) {i : Nat} (hi : i < n.q.length) : n.lose i = ⟨n.q.eraseIdx i, n.ap⟩ := by
  unfold Nt.lose
  rw [err_in h hi, if_pos rfl, Int.toNat_natCast]
theorem lose_ok {n : Nt} (h : n.ok = true) {i : Nat} (hi : i < n.q.length) : (n.lose i).ok = true := by
  obtain ⟨h1, h2, h3⟩ := ok_parts h
  rw [lose_in h hi]
  exact ok_mk (by rw [List.length_eraseIdx, if_pos hi]; omega) (fun p hp => h2 p (List.mem_of_mem_eraseIdx hp)) h3
theorem rpt_in {n : Nt} (h : n.ok = true) {i : Nat} (hi : i < n.q.length) (hl : n.q.length < 4096) : n.rpt i = (⟨n.q ++ [n.q[i]], n.ap⟩, 0) := by
  unfold Nt.rpt
  rw [err_in h hi, if_pos rfl, Int.toNat_natCast, List.getElem?_eq_getElem hi]
  show n.push _ = _
  unfold Nt.push
  rw [if_neg (by omega)]
theorem rpt_ok {n : Nt} (h : n.ok = true) {i : Nat} (hi : i < n.q.length) (hl : n.q.length < 4096) : (n.rpt i).1.ok = true := by
  obtain ⟨h1, h2, h3⟩ := ok_parts h
  rw [rpt_in h hi hl]
  refine ok_mk (by rw [List.length_append]; simp; omega) (fun p hp => ?_) h3
  rcases List.mem_append.1 hp with hp | hp
  · exact h2 p hp
  · rw [List.mem_singleton.1 hp]; exact h2 _ (List.getElem_mem hi)
theorem send_in {n : Nt} (h : n.ok = true) {p : Pk} (hp : okPk p = true) (hl : n.q.length < 4096) : n.send p = (⟨n.q ++ [p], n.ap⟩, 0) := by
  unfold Nt.send Nt.push
  rw [if_pos h, if_pos hp, if_neg (by omega)]

def q8p0 : Oper := { dst := some 66, op := Go.Op.load 25 (Go.Operand.tmp 9), type := 25, pos := "law.go:223", after := #[], guard := none }
def q8p1 : Oper := { dst := some 67, op := Go.Op.fieldAddr 25 (Go.Operand.tmp 2) 0, type := 0, pos := "law.go:223", after := #[], guard := none }
def q8p2 : Oper := { dst := some 68, op := Go.Op.load 22 (Go.Operand.tmp 67), type := 22, pos := "law.go:223", after := #[{ on := 1, ground := Go.Ground.data }], guard := none }
def q8p3 : Oper := { dst := some 69, op := Go.Op.move (Go.Operand.tmp 5), type := 3, pos := "law.go:223", after := #[], guard := none }
def q8p4 : Oper := { dst := some 70, op := Go.Op.indexAddr 22 (Go.Operand.tmp 68) (Go.Operand.tmp 69), type := 0, pos := "law.go:223", after := #[{ on := 2, ground := Go.Ground.data }, { on := 3, ground := Go.Ground.data }], guard := none }
def q8p5 : Oper := { dst := some 71, op := Go.Op.load 28 (Go.Operand.tmp 70), type := 28, pos := "law.go:223", after := #[{ on := 4, ground := Go.Ground.data }], guard := none }
def q8p6 : Oper := { dst := some 72, op := Go.Op.call { callee := Go.Callee.value (Go.Operand.func 11), args := #[Go.Operand.tmp 66, Go.Operand.tmp 71], argTypes := #[25, 28] }, type := 32, pos := "law.go:223", after := #[{ on := 0, ground := Go.Ground.data }, { on := 5, ground := Go.Ground.data }], guard := none }
def q8p7 : Oper := { dst := some 65, op := Go.Op.move (Go.Operand.tmp 72), type := 32, pos := "law.go:223", after := #[{ on := 6, ground := Go.Ground.data }], guard := none }
def q8p8 : Oper := { dst := some 73, op := Go.Op.extract (Go.Operand.tmp 65) 0, type := 25, pos := "law.go:223", after := #[{ on := 7, ground := Go.Ground.data }], guard := none }
def q8p9 : Oper := { dst := some 74, op := Go.Op.extract (Go.Operand.tmp 65) 1, type := 31, pos := "law.go:223", after := #[{ on := 7, ground := Go.Ground.data }, { on := 11, ground := Go.Ground.gcOnly Go.Departure.lateStores }], guard := none }
def q8p10 : Oper := { dst := some 15, op := Go.Op.alloc 25, type := 0, pos := "law.go:223", after := #[], guard := none }
def q8p11 : Oper := { dst := none, op := Go.Op.store 25 (Go.Operand.tmp 15) (Go.Operand.tmp 73), type := 0, pos := "law.go:223", after := #[{ on := 10, ground := Go.Ground.data }, { on := 8, ground := Go.Ground.data }, { on := 6, ground := Go.Ground.chain }, { on := 0, ground := Go.Ground.phase }, { on := 1, ground := Go.Ground.phase }, { on := 2, ground := Go.Ground.phase }, { on := 3, ground := Go.Ground.phase }, { on := 4, ground := Go.Ground.phase }, { on := 5, ground := Go.Ground.phase }, { on := 6, ground := Go.Ground.phase }, { on := 7, ground := Go.Ground.phase }, { on := 8, ground := Go.Ground.phase }, { on := 9, ground := Go.Ground.textOnly Go.Departure.lateStores }, { on := 10, ground := Go.Ground.phase }], guard := none }
def q8p12 : Oper := { dst := some 16, op := Go.Op.assign (Go.Operand.tmp 74), type := 31, pos := "law.go:223", after := #[{ on := 9, ground := Go.Ground.data }, { on := 11, ground := Go.Ground.chain }, { on := 0, ground := Go.Ground.phase }, { on := 1, ground := Go.Ground.phase }, { on := 2, ground := Go.Ground.phase }, { on := 3, ground := Go.Ground.phase }, { on := 4, ground := Go.Ground.phase }, { on := 5, ground := Go.Ground.phase }, { on := 6, ground := Go.Ground.phase }, { on := 7, ground := Go.Ground.phase }, { on := 8, ground := Go.Ground.phase }, { on := 9, ground := Go.Ground.phase }, { on := 10, ground := Go.Ground.phase }, { on := 11, ground := Go.Ground.phase }], guard := none }
set_option maxRecDepth 100000 in
set_option maxHeartbeats 16000000 in
theorem lawLost (w : World) (n : Nt) (v : Value) (z : Int) (h : NtAt w w.heap.size v n) (hz : 0 ≤ z ∧ z < 18446744073709551616) :
    Calls Try.prog 8 #[v, .int .u64 z] w fun e w' => e = .returned (.bool true) ∧ Below w.heap.size w w' := by
  obtain ⟨N, hN⟩ : ∃ x, n.q.length = x := ⟨_, rfl⟩
  obtain ⟨M, hM⟩ : ∃ x, n.ap.length = x := ⟨_, rfl⟩
  obtain ⟨O, hO⟩ : ∃ x, n.ok = x := ⟨_, rfl⟩
  have hck := fun W v h => chk_any W v n h
  rw [hO] at hck
  have hfew : n.few = true → N ≤ 40 := fun h => by rw [← hN]; exact (few_iff.1 h).1
  have hfw := fun W v h => few_any W v n h
  obtain ⟨F, hF⟩ : ∃ x, n.few = x := ⟨_, rfl⟩
  simp only [hF] at hfw
  rw [hF] at hfew
  obtain ⟨qa, qc, aa, ac, X0, rfl, hX, hB, hbX, hzX⟩ := h.box hN hM
  obtain ⟨_, _, _, _, e1, l1, l2, l3, l4, hq, _⟩ := hB.nt.parts hN hM
  injection e1 with e1
  simp only [Array.mk.injEq, List.cons.injEq, Value.slice.injEq, true_and, and_true] at e1
  obtain ⟨⟨rfl, rfl⟩, rfl, rfl⟩ := e1
  have HX0 := Lib.hid hX
  have Bn := Lib.hid hB
  have HB := Lib.hid hbX
  have HQ := Lib.hid hq
  have HN := Lib.hid hN
  have HM := Lib.hid hM
  have HO := Lib.hid hO
  have HCK := Lib.hid hck
  have HFW := Lib.hid hfw
  unfold maxLen at l2
  clear h hX hB hbX hzX hq hN hM hO hck hfw hF
  go_enter Try.func8, Try.ntmps8
  go_wp2_with fail
  rw [← HX0.out]
  refine (sane_any _).mono ?_
  rintro e w1 ⟨rfl, hb⟩
  have Bn := Lib.hid (Bn.out.next hb)
  have HQ := Lib.hid (HQ.out.next hb)
  have HB := Lib.hid (bthen HB.out hb)
  clear hb
  have c0_Bn := Bn.out.c0
  have c1_Bn := Bn.out.c1
  go_wp2_with fail
  refine (HFW.out w1 _ Bn.out.nt).mono ?_
  rintro e w2 ⟨rfl, hb⟩
  have Bn := Lib.hid (Bn.out.next hb)
  have HQ := Lib.hid (HQ.out.next hb)
  have HB := Lib.hid (bthen HB.out hb)
  clear hb
  clear c0_Bn c1_Bn
  have c0_Bn := Bn.out.c0
  have c1_Bn := Bn.out.c1
  cases F with
  | false =>
    go_wp2
    go_ret
    exact ⟨rfl, HB.out⟩
  | true =>
    have hN40 := hfew rfl
    go_wp2_with fail
    refine (HCK.out w2 _ Bn.out.nt).mono ?_
    rintro e w3 ⟨rfl, hb⟩
    have Bn := Lib.hid (Bn.out.next hb)
    have HQ := Lib.hid (HQ.out.next hb)
    have HB := Lib.hid (bthen HB.out hb)
    clear hb
    clear c0_Bn c1_Bn
    have c0_Bn := Bn.out.c0
    have c1_Bn := Bn.out.c1
    cases O with
    | false =>
      go_wp2
      go_ret
      exact ⟨rfl, HB.out⟩
    | true =>
      by_cases hN0 : N = 0
      · subst hN0
        go_wp2
        go_ret
        exact ⟨rfl, HB.out⟩
      have d1 : ((N : Int) == 0) = false := by simp; omega
      have d2 : (N == 0) = false := by simp; omega
      have d3 : ¬ (N : Int) = 0 := by omega
      obtain ⟨i, hi⟩ : ∃ i : Nat, z % (N : Int) = (i : Int) := ⟨(z % (N : Int)).toNat, (Int.toNat_of_nonneg (Int.emod_nonneg _ (by omega))).symm⟩
      have hiN : i < N := by have := Int.emod_lt_of_pos z (show 0 < (N : Int) by omega); omega
      have hil : i < n.q.length := by rw [HN.out]; exact hiN
      have ho := HO.out
      have h4 : n.q.length < 4096 := by rw [HN.out]; omega
      have hlo := lose_in ho hil
      have hlok := lose_ok ho hil
      have hrp := rpt_in ho hil h4
      have hrok := rpt_ok ho hil h4
      have her := err_in ho hil
      obtain ⟨p, hp⟩ : ∃ p, n.q[i]'hil = p := ⟨_, rfl⟩
      have hpok : okPk p = true := by rw [← hp]; exact (ok_parts ho).2.1 _ (List.getElem_mem hil)
      rw [hp] at hrp
      obtain ⟨L, hL⟩ : ∃ L, p.data.length = L := ⟨_, rfl⟩
      obtain ⟨nb, hnb⟩ : ∃ x, n.lose i = x := ⟨_, rfl⟩
      obtain ⟨nc, hnc⟩ : ∃ x : Nt, (⟨n.q ++ [p], n.ap⟩ : Nt) = x := ⟨_, rfl⟩
      rw [hrp] at hrok
      rw [hnc] at hrp hrok
      rw [hnb] at hlo hlok
      have hbl : nb.q.length = N - 1 := by rw [hlo, ← HN.out]; exact by rw [List.length_eraseIdx, if_pos hil]
      have hba : nb.ap.length = M := by rw [hlo]; exact HM.out
      have hcl : nc.q.length = N + 1 := by rw [← hnc, ← HN.out]; simp
      have hca : nc.ap.length = M := by rw [← hnc]; exact HM.out
      have hcil : i < nc.q.length := by rw [hcl]; omega
      have hcer := err_in hrok hcil
      have hclo := lose_in hrok hcil
      have hsd := send_in hlok hpok (by rw [hbl]; omega)
      have hfin : nc.lose i = (nb.send p).1 := by
        rw [hclo, hsd, hlo, ← hnc, erase_app hil]
      obtain ⟨nd, hnd⟩ : ∃ x, nc.lose i = x := ⟨_, rfl⟩
      have hsd2 : nb.send p = (nd, 0) := by rw [← hnd, hfin, hsd]
      have hdl : nd.q.length = N := by
        rw [← hnd, hclo]; show (nc.q.eraseIdx i).length = N; rw [List.length_eraseIdx, if_pos hcil, hcl]; omega
      have hda : nd.ap.length = M := by rw [← hnd, hclo]; exact hca
      obtain ⟨pd, hpd⟩ : ∃ x, n.pick i = x := ⟨_, rfl⟩
      obtain ⟨px, hpx⟩ : ∃ x, pd.frm = x := ⟨_, rfl⟩
      obtain ⟨py, hpy⟩ : ∃ x, pd.to = x := ⟨_, rfl⟩
      obtain ⟨pl, hpl⟩ : ∃ x, pd.data.length = x := ⟨_, rfl⟩
      have HDV := Lib.hid (show ∀ W v, NtAt W W.heap.size v n → Calls Try.prog 20 #[v, .int .i64 (i : Int)] W fun e w' => ∃ vp v', e = .returned (.tuple #[vp, v', .int .i64 0]) ∧ PkAt w' w'.heap.size vp pd ∧ NtAt w' w'.heap.size v' nb ∧ Below W.heap.size W w' from fun W v h => by
        have := dlv_any W v n h i
        rw [her, hpd, hnb] at this
        exact this)
      have HLO := Lib.hid (show ∀ W v, NtAt W W.heap.size v n → Calls Try.prog 23 #[v, .int .i64 (i : Int)] W fun e w' => ∃ v', e = .returned (.tuple #[v', .int .i64 0]) ∧ NtAt w' w'.heap.size v' nb ∧ Below W.heap.size W w' from fun W v h => by
        have := lose_any W v n h i
        rw [her, hnb] at this
        exact this)
      have HRP := Lib.hid (show ∀ W v, NtAt W W.heap.size v n → Calls Try.prog 25 #[v, .int .i64 (i : Int)] W fun e w' => ∃ v', e = .returned (.tuple #[v', .int .i64 0]) ∧ NtAt w' w'.heap.size v' nc ∧ Below W.heap.size W w' from fun W v h => by
        have := rpt_any W v n h i
        rw [hrp] at this
        exact this)
      have HLC := Lib.hid (show ∀ W v, NtAt W W.heap.size v nc → Calls Try.prog 23 #[v, .int .i64 (i : Int)] W fun e w' => ∃ v', e = .returned (.tuple #[v', .int .i64 0]) ∧ NtAt w' w'.heap.size v' nd ∧ Below W.heap.size W w' from fun W v h => by
        have := lose_any W v nc h i
        rw [hcer, hnd] at this
        exact this)
      have HSD := Lib.hid (show ∀ W v vp, NtAt W W.heap.size v nb → PkAt W W.heap.size vp p → Calls Try.prog 11 #[v, vp] W fun e w' => ∃ v', e = .returned (.tuple #[v', .int .i64 0]) ∧ NtAt w' w'.heap.size v' nd ∧ Below W.heap.size W w' from fun W v vp h hp => by
        have := send_any W v nb h vp p hp
        rw [hsd2] at this
        exact this)
      have HP := Lib.hid hp
      have HL := Lib.hid hL
      clear ho h4 hlo hlok hrp hrok her hp hpok hL hnb hnc hcil hcer hclo hsd hfin hnd hsd2 hpd
      go_wp2_with fail
      refine (HDV.out w3 _ Bn.out.nt).mono ?_
      rintro e w4 ⟨vp, v, rfl, hp, hu, hb⟩
      obtain ⟨pa4, pc4, Y4, rfl, hY, hP, hbY, hzY⟩ := hp.box (x := px) (y := py) (L := pl) (by first | rfl | assumption) (by first | rfl | assumption) (by first | rfl | assumption)
      obtain ⟨qa4, qc4, aa4, ac4, X4, rfl, hX, hN, hbX, hzX⟩ := (hu.next hbY).box (N := N - 1) (M := M) (by first | rfl | assumption) (by first | rfl | assumption)
      rw [hzY] at hN
      have hbb := hb.trans ((bthen hbY hbX).mono hb.size)
      have Bn := Lib.hid (Bn.out.next hbb)
      have HQ := Lib.hid (HQ.out.next hbb)
      have HB := Lib.hid (bthen HB.out hbb)
      have Bp := Lib.hid (hP.next hbX)
      have Ba := Lib.hid hN
      have HY4 := Lib.hid hY
      have HX4 := Lib.hid hX
      clear hu hb hp hY hP hbY hzY hX hN hbX hzX hbb
      clear c0_Bn c1_Bn
      have c0_Bn := Bn.out.c0
      have c1_Bn := Bn.out.c1
      rw [HX4.out, HY4.out] at c0_Bn c1_Bn
      go_wp2_with fail
      rw [← HY4.out, ← HX4.out]
      refine (HLO.out X4 _ Bn.out.nt).mono ?_
      rintro e w5 ⟨v, rfl, hu, hb⟩
      obtain ⟨qa5, qc5, aa5, ac5, X5, rfl, hX, hN, hbX, hzX⟩ := hu.box (N := N - 1) (M := M) (by first | rfl | assumption) (by first | rfl | assumption)
      have hbb := hb.trans (hbX.mono hb.size)
      have Bn := Lib.hid (Bn.out.next hbb)
      have Bp := Lib.hid (Bp.out.next hbb)
      have Ba := Lib.hid (Ba.out.next hbb)
      have HQ := Lib.hid (HQ.out.next hbb)
      have HB := Lib.hid (bthen HB.out hbb)
      have Bb := Lib.hid hN
      have HX5 := Lib.hid hX
      clear hu hb hX hN hbX hzX hbb
      clear c0_Bn c1_Bn
      have c0_Bn := Bn.out.c0
      have c1_Bn := Bn.out.c1
      rw [HX5.out] at c0_Bn c1_Bn
      go_wp2_with fail
      rw [← HX5.out]
      refine (HRP.out X5 _ Bn.out.nt).mono ?_
      rintro e w6 ⟨v, rfl, hu, hb⟩
      obtain ⟨qa6, qc6, aa6, ac6, X6, rfl, hX, hN, hbX, hzX⟩ := hu.box (N := N + 1) (M := M) (by first | rfl | assumption) (by first | rfl | assumption)
      have hbb := hb.trans (hbX.mono hb.size)
      have Bn := Lib.hid (Bn.out.next hbb)
      have Bp := Lib.hid (Bp.out.next hbb)
      have Ba := Lib.hid (Ba.out.next hbb)
      have Bb := Lib.hid (Bb.out.next hbb)
      have HQ := Lib.hid (HQ.out.next hbb)
      have HB := Lib.hid (bthen HB.out hbb)
      have Bc := Lib.hid hN
      have HX6 := Lib.hid hX
      clear hu hb hX hN hbX hzX hbb
      clear c0_Bn c1_Bn
      have c0_Bc := Bc.out.c0
      have c1_Bc := Bc.out.c1
      rw [HX6.out] at c0_Bc c1_Bc
      go_wp2_with fail
      rw [← HX6.out]
      refine (HLC.out X6 _ Bc.out.nt).mono ?_
      rintro e w7 ⟨v, rfl, hu, hb⟩
      obtain ⟨qa7, qc7, aa7, ac7, X7, rfl, hX, hN, hbX, hzX⟩ := hu.box (N := N) (M := M) (by first | rfl | assumption) (by first | rfl | assumption)
      have hbb := hb.trans (hbX.mono hb.size)
      have Bn := Lib.hid (Bn.out.next hbb)
      have Bp := Lib.hid (Bp.out.next hbb)
      have Ba := Lib.hid (Ba.out.next hbb)
      have Bb := Lib.hid (Bb.out.next hbb)
      have Bc := Lib.hid (Bc.out.next hbb)
      have HQ := Lib.hid (HQ.out.next hbb)
      have HB := Lib.hid (bthen HB.out hbb)
      have Bd := Lib.hid hN
      have HX7 := Lib.hid hX
      clear hu hb hX hN hbX hzX hbb
      clear c0_Bc c1_Bc
      go_wp2
      rw [← HX7.out]
      obtain ⟨qb, qo, rfl, hqb, hin, g0, g1, da, dc, g2, _, _, hpd⟩ := HQ.out.got i hil
      rw [HP.out] at hin g0 g1 g2 hpd
      rw [HL.out] at g2 hpd
      have ii : (i : Int) < (N : Int) := by omega
      have HSC := Lib.hid (show ∀ W, Kept X7 W → (W.cell? ⟨w.heap.size, 0, none⟩ = some (.slice (some ⟨qb, qo, none⟩) N qc) ∧ W.cell? ⟨w.heap.size, 1, none⟩ = some (.slice aa M ac)) ∧ (W.cell? ⟨w5.heap.size, 0, none⟩ = some (.slice qa5 (N - 1) qc5) ∧ W.cell? ⟨w5.heap.size, 1, none⟩ = some (.slice aa5 M ac5)) ∧
        W.cell? ⟨qb, qo + i * 3, none⟩ = some (.int .i64 p.frm) ∧ W.cell? ⟨qb, qo + i * 3 + 1, none⟩ = some (.int .i64 p.to) ∧ W.cell? ⟨qb, qo + i * 3 + 2, none⟩ = some (.slice da L dc) from fun W hW =>
        ⟨⟨(hW.cell Bn.out.lt).trans Bn.out.c0, (hW.cell Bn.out.lt).trans Bn.out.c1⟩, ⟨(hW.cell Bb.out.lt).trans Bb.out.c0, (hW.cell Bb.out.lt).trans Bb.out.c1⟩, (hW.cell hqb).trans g0, (hW.cell hqb).trans g1, (hW.cell hqb).trans g2⟩)
      have HPK := Lib.hid (show ∀ W, Kept X7 W → PkAt W W.heap.size (.agg #[.int .i64 p.frm, .int .i64 p.to, .slice da L dc]) p from fun W hW => ⟨hin, _, rfl, hpd.nxt hW.below⟩)
      have HSD2 := Lib.hid (show ∀ W, Kept X7 W → Calls Try.prog 11 #[.agg #[.slice qa5 (N - 1) qc5, .slice aa5 M ac5], .agg #[.int .i64 p.frm, .int .i64 p.to, .slice da L dc]] W fun e w' => ∃ (qa9 : Option Addr) (qc9 : Nat) (aa9 : Option Addr) (ac9 : Nat), e = .returned (.tuple #[.agg #[.slice qa9 N qc9, .slice aa9 M ac9], .int .i64 0]) ∧ NtAt w' w'.heap.size (.agg #[.slice qa9 N qc9, .slice aa9 M ac9]) nd ∧ Below W.heap.size W w' from fun W hW =>
        (HSD.out W _ _ (Bb.out.nt.next hW.below) (HPK.out W hW)).mono fun e w' ⟨v', h1, h2, h3⟩ => by
          obtain ⟨qa9, qc9, aa9, ac9, rfl, _⟩ := h2.parts hdl hda
          exact ⟨qa9, qc9, aa9, ac9, h1, h2, h3⟩)
      have hx0 : Kept X7 X7.drew := (Kept.refl _).drew
      clear hin g0 g1 g2 hpd HSD
      refine wp_region_held_drew (S := fun W => Kept X7 W) (by kernel_rfl) hx0 (fun hHeld => ?_)
      refine wpAnyH_take (i := 0) (oi := q8p0) (v := ?_) rfl (by kernel_rfl) (by kernel_rfl) (by kernel_rfl) (fun _ _ _ h => h) (Or.inl ⟨by rfl, ?_⟩) hHeld ?_
      rotate_left
      · (intro w hSw; obtain ⟨⟨n0, n1⟩, ⟨b0, b1⟩, p0, p1, p2⟩ := HSC.out _ hSw; unfold q8p0; go_simp <;> with_reducible rfl)
      try simp only [q8p0, Act.put, List.setIfInBounds_toArray, List.set_cons_zero, List.set_cons_succ]
      refine wpAnyH_take (i := 1) (oi := q8p1) (v := ?_) rfl (by kernel_rfl) (by kernel_rfl) (by kernel_rfl) (fun _ _ _ h => h) (Or.inl ⟨by rfl, ?_⟩) hHeld ?_
      rotate_left
      · (intro w hSw; (try dsimp only at hSw); unfold q8p1; go_simp <;> with_reducible rfl)
      try simp only [q8p1, Act.put, List.setIfInBounds_toArray, List.set_cons_zero, List.set_cons_succ]
      refine wpAnyH_take (i := 2) (oi := q8p2) (v := ?_) rfl (by kernel_rfl) (by kernel_rfl) (by kernel_rfl) (fun _ _ _ h => h) (Or.inl ⟨by rfl, ?_⟩) hHeld ?_
      rotate_left
      · (intro w hSw; obtain ⟨⟨n0, n1⟩, ⟨b0, b1⟩, p0, p1, p2⟩ := HSC.out _ hSw; unfold q8p2; go_simp <;> with_reducible rfl)
      try simp only [q8p2, Act.put, List.setIfInBounds_toArray, List.set_cons_zero, List.set_cons_succ]
      refine wpAnyH_take (i := 3) (oi := q8p3) (v := ?_) rfl (by kernel_rfl) (by kernel_rfl) (by kernel_rfl) (fun _ _ _ h => h) (Or.inl ⟨by rfl, ?_⟩) hHeld ?_
      rotate_left
      · (intro w hSw; (try dsimp only at hSw); unfold q8p3; go_simp <;> with_reducible rfl)
      try simp only [q8p3, Act.put, List.setIfInBounds_toArray, List.set_cons_zero, List.set_cons_succ]
      refine wpAnyH_take (i := 4) (oi := q8p4) (v := ?_) rfl (by kernel_rfl) (by kernel_rfl) (by kernel_rfl) (fun _ _ _ h => h) (Or.inl ⟨by rfl, ?_⟩) hHeld ?_
      rotate_left
      · (intro w hSw; (try dsimp only at hSw); unfold q8p4; go_simp <;> with_reducible rfl)
      try simp only [q8p4, Act.put, List.setIfInBounds_toArray, List.set_cons_zero, List.set_cons_succ]
      refine wpAnyH_take (i := 5) (oi := q8p5) (v := ?_) rfl (by kernel_rfl) (by kernel_rfl) (by kernel_rfl) (fun _ _ _ h => h) (Or.inl ⟨by rfl, ?_⟩) hHeld ?_
      rotate_left
      · (intro w hSw; obtain ⟨⟨n0, n1⟩, ⟨b0, b1⟩, p0, p1, p2⟩ := HSC.out _ hSw; unfold q8p5; go_simp <;> with_reducible rfl)
      try simp only [q8p5, Act.put, List.setIfInBounds_toArray, List.set_cons_zero, List.set_cons_succ]
      refine wpAnyH_ready (rs := [6, 10]) (by kernel_rfl) (by simp) ?_
      refine AllReadyH.cons (o := q8p6) rfl (fun K hK => ?_) (AllReadyH.cons (o := q8p10) rfl (fun K hK => ?_) AllReadyH.nil)
      · skip
        rw [if_pos (by rfl)]
        unfold q8p6
        go_simp
        go_at_call 11
        refine (HSD2.out X7.drew hHeld).mono ?_
        rintro e w9 ⟨qa9, qc9, aa9, ac9, rfl, hnt, hb9⟩
        have hk9 : Kept X7 w9 := hHeld.next hb9
        have hk9w0 : X7.heap.size ≤ w9.heap.size := hk9.below.size
        refine hK.out _ _ hk9 (fun hHeld => ?_)
        clear hK K
        try simp only [q8p6, Act.put, List.setIfInBounds_toArray, List.set_cons_zero, List.set_cons_succ]
        refine wpAnyH_take (i := 7) (oi := q8p7) (v := ?_) rfl (by kernel_rfl) (by kernel_rfl) (by kernel_rfl) (fun _ _ _ h => h) (Or.inl ⟨by rfl, ?_⟩) hHeld ?_
        rotate_left
        · (intro w hSw; (try dsimp only at hSw); unfold q8p7; go_simp <;> with_reducible rfl)
        try simp only [q8p7, Act.put, List.setIfInBounds_toArray, List.set_cons_zero, List.set_cons_succ]
        refine wpAnyH_take (i := 8) (oi := q8p8) (v := ?_) rfl (by kernel_rfl) (by kernel_rfl) (by kernel_rfl) (fun _ _ _ h => h) (Or.inl ⟨by rfl, ?_⟩) hHeld ?_
        rotate_left
        · (intro w hSw; (try dsimp only at hSw); unfold q8p8; go_simp <;> with_reducible rfl)
        try simp only [q8p8, Act.put, List.setIfInBounds_toArray, List.set_cons_zero, List.set_cons_succ]
        refine wpAnyH_take (i := 9) (oi := q8p9) (v := ?_) rfl (by kernel_rfl) (by kernel_rfl) (by kernel_rfl) (fun _ _ _ h => h) (Or.inl ⟨by rfl, ?_⟩) hHeld ?_
        rotate_left
        · (intro w hSw; (try dsimp only at hSw); unfold q8p9; go_simp <;> with_reducible rfl)
        try simp only [q8p9, Act.put, List.setIfInBounds_toArray, List.set_cons_zero, List.set_cons_succ]
        refine wpAnyH_ready (rs := [10]) (by kernel_rfl) (by simp) ?_
        refine AllReadyH.cons (o := q8p10) rfl (fun K hK => ?_) AllReadyH.nil
        rw [if_pos (by rfl)]
        unfold q8p10
        go_simp
        obtain ⟨WA, hWA⟩ : ∃ WA, WA = w9.alloc (.cells #[.slice none 0 0, .slice none 0 0] 25) := ⟨_, rfl⟩
        have hkA : Kept X7 WA := by rw [hWA]; exact hk9.alloc _
        have hzA : WA.heap.size = w9.heap.size + 1 := by rw [hWA]; simp
        have hA : Arr WA (w9.heap.size) [.slice none 0 0, .slice none 0 0] := by rw [hWA]; exact Arr.new w9 #[.slice none 0 0, .slice none 0 0] 25
        have hS : SlB WA (w9.heap.size) := by rw [hWA]; exact SlB.new w9 none none 0 0 0 0 25
        have hnt : NtAt WA WA.heap.size (.agg #[.slice qa9 N qc9, .slice aa9 M ac9]) nd := hnt.next (by rw [hWA]; go_grown)
        rw [← hWA]
        clear hWA
        refine hK.out _ _ hkA (fun hHeld => ?_)
        have hA9 := hA
        have hS9 := hS
        have hl9 : w9.heap.size < WA.heap.size := by omega
        have hk9 := hkA
        clear hA hS hzA hkA
        clear hK K
        try simp only [q8p10, Act.put, List.setIfInBounds_toArray, List.set_cons_zero, List.set_cons_succ]
        refine wpAnyH_ready (rs := [11]) (by kernel_rfl) (by simp) ?_
        refine AllReadyH.cons (o := q8p11) rfl (fun K hK => ?_) AllReadyH.nil
        rw [if_pos (by rfl)]
        unfold q8p11
        have hk9w : X7.heap.size ≤ w9.heap.size := hk9w0
        have e10 : WA.cell? ⟨w9.heap.size, 0, none⟩ = some (.slice none 0 0) := hA9.cell rfl
        have e11 : WA.cell? ⟨w9.heap.size, 1, none⟩ = some (.slice none 0 0) := hA9.cell rfl
        have f10 : WA.frozen? ⟨w9.heap.size, 0, none⟩ = false := hA9.frozen (by simp)
        have f11 : WA.frozen? ⟨w9.heap.size, 1, none⟩ = false := hA9.frozen (by simp)
        obtain ⟨WF, hWF⟩ : ∃ WF, (WA.setCell ⟨w9.heap.size, 0, none⟩ (.slice qa9 N qc9)).setCell ⟨w9.heap.size, 1, none⟩ (.slice aa9 M ac9) = WF := ⟨_, rfl⟩
        have hBx : NBox WF (w9.heap.size) qa9 N qc9 aa9 M ac9 nd := by
          have hzF : WF.heap.size = WA.heap.size := by rw [← hWF]; simp
          refine ⟨by rw [hzF]; exact hl9, by rw [← hWF]; exact (hA9.set 0 _).set 1 _, ?_⟩
          rw [hzF, ← hWF]
          exact (hnt.apart hS9 _).apart (hS9.set e10 _ _ _) _
        have hkF : Kept X7 WF := by rw [← hWF]; exact (hk9.set (p := ⟨w9.heap.size, 0, none⟩) hk9w _).set (p := ⟨w9.heap.size, 1, none⟩) hk9w _
        go_simp
        try rw [hWF]
        refine hK.out _ _ hkF (fun hHeld => ?_)
        clear e10 e11 f10 f11 hWF hA9 hS9 hl9 hnt
        clear hK K
        try simp only [q8p11, Act.put]
        refine wpAnyH_take (i := 12) (oi := q8p12) (v := ?_) rfl (by kernel_rfl) (by kernel_rfl) (by kernel_rfl) (fun _ _ _ h => h) (Or.inl ⟨by rfl, ?_⟩) hHeld ?_
        rotate_left
        · (intro w hSw; (try dsimp only at hSw); unfold q8p12; go_simp <;> with_reducible rfl)
        try simp only [q8p12, Act.put, List.setIfInBounds_toArray, List.set_cons_zero, List.set_cons_succ]
        refine wpAnyH_done (by kernel_rfl) ?_ _
        clear hHeld HSC HPK HSD2 HQ
        have hkb : Below X7.heap.size X7 WF := hkF.below
        have Bn := Lib.hid (Bn.out.next hkb)
        have Bp := Lib.hid (Bp.out.next hkb)
        have Ba := Lib.hid (Ba.out.next hkb)
        have Bb := Lib.hid (Bb.out.next hkb)
        have Bc := Lib.hid (Bc.out.next hkb)
        have Bd := Lib.hid (Bd.out.next hkb)
        have HB := Lib.hid (bthen HB.out hkb)
        have Be := Lib.hid hBx
        clear hkb hkF hBx hk9
        have c0_Ba := Ba.out.c0
        have c1_Ba := Ba.out.c1
        have c0_Bb := Bb.out.c0
        have c1_Bb := Bb.out.c1
        go_wp2_with fail
        refine (same_any WF _ _ nb Ba.out.nt Bb.out.nt).mono ?_
        rintro e w21 ⟨rfl, hb⟩
        have Bn := Lib.hid (Bn.out.next hb)
        have Bp := Lib.hid (Bp.out.next hb)
        have Ba := Lib.hid (Ba.out.next hb)
        have Bb := Lib.hid (Bb.out.next hb)
        have Bc := Lib.hid (Bc.out.next hb)
        have Bd := Lib.hid (Bd.out.next hb)
        have Be := Lib.hid (Be.out.next hb)
        have HB := Lib.hid (bthen HB.out hb)
        clear hb
        clear c0_Ba c1_Ba c0_Bb c1_Bb
        have c0_Bd := Bd.out.c0
        have c1_Bd := Bd.out.c1
        have c0_Be := Be.out.c0
        have c1_Be := Be.out.c1
        go_wp2_with fail
        refine (same_any w21 _ _ nd Bd.out.nt Be.out.nt).mono ?_
        rintro e w22 ⟨rfl, hb⟩
        have Bn := Lib.hid (Bn.out.next hb)
        have Bp := Lib.hid (Bp.out.next hb)
        have Ba := Lib.hid (Ba.out.next hb)
        have Bb := Lib.hid (Bb.out.next hb)
        have Bc := Lib.hid (Bc.out.next hb)
        have Bd := Lib.hid (Bd.out.next hb)
        have Be := Lib.hid (Be.out.next hb)
        have HB := Lib.hid (bthen HB.out hb)
        clear hb
        clear c0_Bd c1_Bd c0_Be c1_Be
        have c0_Bc := Bc.out.c0
        have c1_Bc := Bc.out.c1
        have c0_Bn := Bn.out.c0
        have c1_Bn := Bn.out.c1
        go_wp2
        go_ret
        exact ⟨rfl, HB.out⟩
      · skip
        rw [if_pos (by rfl)]
        unfold q8p10
        go_simp
        obtain ⟨WA, hWA⟩ : ∃ WA, WA = (X7.alloc (.cells #[.slice none 0 0, .slice none 0 0] 25)).drew := ⟨_, rfl⟩
        have hkA : Kept X7 WA := by rw [hWA]; exact ((Kept.refl _).alloc _).drew
        have hzA : WA.heap.size = X7.heap.size + 1 := by rw [hWA]; simp
        have hA : Arr WA (X7.heap.size) [.slice none 0 0, .slice none 0 0] := by rw [hWA]; exact (Arr.new X7 #[.slice none 0 0, .slice none 0 0] 25).drew
        have hS : SlB WA (X7.heap.size) := by rw [hWA]; exact SlB.new X7 none none 0 0 0 0 25
        rw [← hWA]
        clear hWA
        refine hK.out _ _ hkA (fun hHeld => ?_)
        clear hK K
        try simp only [q8p10, Act.put, List.setIfInBounds_toArray, List.set_cons_zero, List.set_cons_succ]
        refine wpAnyH_ready (rs := [6]) (by kernel_rfl) (by simp) ?_
        refine AllReadyH.cons (o := q8p6) rfl (fun K hK => ?_) AllReadyH.nil
        rw [if_pos (by rfl)]
        unfold q8p6
        go_simp
        go_at_call 11
        refine (HSD2.out WA hHeld).mono ?_
        rintro e w9 ⟨qa9, qc9, aa9, ac9, rfl, hnt, hb9⟩
        have hk9 : Kept X7 w9 := hHeld.next hb9
        have hk9w0 : X7.heap.size ≤ w9.heap.size := hk9.below.size
        have hA9 : Arr w9 X7.heap.size [.slice none 0 0, .slice none 0 0] := hA.below hb9 (by omega)
        have hS9 : SlB w9 X7.heap.size := hS.below hb9 (by omega)
        have hl9 : X7.heap.size < w9.heap.size := Nat.lt_of_lt_of_le (by omega) hb9.size
        clear hA hS hzA
        refine hK.out _ _ hk9 (fun hHeld => ?_)
        clear hK K
        try simp only [q8p6, Act.put, List.setIfInBounds_toArray, List.set_cons_zero, List.set_cons_succ]
        refine wpAnyH_take (i := 7) (oi := q8p7) (v := ?_) rfl (by kernel_rfl) (by kernel_rfl) (by kernel_rfl) (fun _ _ _ h => h) (Or.inl ⟨by rfl, ?_⟩) hHeld ?_
        rotate_left
        · (intro w hSw; (try dsimp only at hSw); unfold q8p7; go_simp <;> with_reducible rfl)
        try simp only [q8p7, Act.put, List.setIfInBounds_toArray, List.set_cons_zero, List.set_cons_succ]
        refine wpAnyH_take (i := 8) (oi := q8p8) (v := ?_) rfl (by kernel_rfl) (by kernel_rfl) (by kernel_rfl) (fun _ _ _ h => h) (Or.inl ⟨by rfl, ?_⟩) hHeld ?_
        rotate_left
        · (intro w hSw; (try dsimp only at hSw); unfold q8p8; go_simp <;> with_reducible rfl)
        try simp only [q8p8, Act.put, List.setIfInBounds_toArray, List.set_cons_zero, List.set_cons_succ]
        refine wpAnyH_take (i := 9) (oi := q8p9) (v := ?_) rfl (by kernel_rfl) (by kernel_rfl) (by kernel_rfl) (fun _ _ _ h => h) (Or.inl ⟨by rfl, ?_⟩) hHeld ?_
        rotate_left
        · (intro w hSw; (try dsimp only at hSw); unfold q8p9; go_simp <;> with_reducible rfl)
        try simp only [q8p9, Act.put, List.setIfInBounds_toArray, List.set_cons_zero, List.set_cons_succ]
        refine wpAnyH_ready (rs := [11]) (by kernel_rfl) (by simp) ?_
        refine AllReadyH.cons (o := q8p11) rfl (fun K hK => ?_) AllReadyH.nil
        rw [if_pos (by rfl)]
        unfold q8p11
        have e10 : w9.cell? ⟨X7.heap.size, 0, none⟩ = some (.slice none 0 0) := hA9.cell rfl
        have e11 : w9.cell? ⟨X7.heap.size, 1, none⟩ = some (.slice none 0 0) := hA9.cell rfl
        have f10 : w9.frozen? ⟨X7.heap.size, 0, none⟩ = false := hA9.frozen (by simp)
        have f11 : w9.frozen? ⟨X7.heap.size, 1, none⟩ = false := hA9.frozen (by simp)
        obtain ⟨WF, hWF⟩ : ∃ WF, (w9.setCell ⟨X7.heap.size, 0, none⟩ (.slice qa9 N qc9)).setCell ⟨X7.heap.size, 1, none⟩ (.slice aa9 M ac9) = WF := ⟨_, rfl⟩
        have hBx : NBox WF (X7.heap.size) qa9 N qc9 aa9 M ac9 nd := by
          have hzF : WF.heap.size = w9.heap.size := by rw [← hWF]; simp
          refine ⟨by rw [hzF]; exact hl9, by rw [← hWF]; exact (hA9.set 0 _).set 1 _, ?_⟩
          rw [hzF, ← hWF]
          exact (hnt.apart hS9 _).apart (hS9.set e10 _ _ _) _
        have hkF : Kept X7 WF := by rw [← hWF]; exact (hk9.set (p := ⟨X7.heap.size, 0, none⟩) (Nat.le_refl _) _).set (p := ⟨X7.heap.size, 1, none⟩) (Nat.le_refl _) _
        go_simp
        try rw [hWF]
        refine hK.out _ _ hkF (fun hHeld => ?_)
        clear e10 e11 f10 f11 hWF hA9 hS9 hl9 hnt
        clear hK K
        try simp only [q8p11, Act.put]
        refine wpAnyH_take (i := 12) (oi := q8p12) (v := ?_) rfl (by kernel_rfl) (by kernel_rfl) (by kernel_rfl) (fun _ _ _ h => h) (Or.inl ⟨by rfl, ?_⟩) hHeld ?_
        rotate_left
        · (intro w hSw; (try dsimp only at hSw); unfold q8p12; go_simp <;> with_reducible rfl)
        try simp only [q8p12, Act.put, List.setIfInBounds_toArray, List.set_cons_zero, List.set_cons_succ]
        refine wpAnyH_done (by kernel_rfl) ?_ _
        clear hHeld HSC HPK HSD2 HQ hkA
        have hkb : Below X7.heap.size X7 WF := hkF.below
        have Bn := Lib.hid (Bn.out.next hkb)
        have Bp := Lib.hid (Bp.out.next hkb)
        have Ba := Lib.hid (Ba.out.next hkb)
        have Bb := Lib.hid (Bb.out.next hkb)
        have Bc := Lib.hid (Bc.out.next hkb)
        have Bd := Lib.hid (Bd.out.next hkb)
        have HB := Lib.hid (bthen HB.out hkb)
        have Be := Lib.hid hBx
        clear hkb hkF hBx hk9
        have c0_Ba := Ba.out.c0
        have c1_Ba := Ba.out.c1
        have c0_Bb := Bb.out.c0
        have c1_Bb := Bb.out.c1
        go_wp2_with fail
        refine (same_any WF _ _ nb Ba.out.nt Bb.out.nt).mono ?_
        rintro e w21 ⟨rfl, hb⟩
        have Bn := Lib.hid (Bn.out.next hb)
        have Bp := Lib.hid (Bp.out.next hb)
        have Ba := Lib.hid (Ba.out.next hb)
        have Bb := Lib.hid (Bb.out.next hb)
        have Bc := Lib.hid (Bc.out.next hb)
        have Bd := Lib.hid (Bd.out.next hb)
        have Be := Lib.hid (Be.out.next hb)
        have HB := Lib.hid (bthen HB.out hb)
        clear hb
        clear c0_Ba c1_Ba c0_Bb c1_Bb
        have c0_Bd := Bd.out.c0
        have c1_Bd := Bd.out.c1
        have c0_Be := Be.out.c0
        have c1_Be := Be.out.c1
        go_wp2_with fail
        refine (same_any w21 _ _ nd Bd.out.nt Be.out.nt).mono ?_
        rintro e w22 ⟨rfl, hb⟩
        have Bn := Lib.hid (Bn.out.next hb)
        have Bp := Lib.hid (Bp.out.next hb)
        have Ba := Lib.hid (Ba.out.next hb)
        have Bb := Lib.hid (Bb.out.next hb)
        have Bc := Lib.hid (Bc.out.next hb)
        have Bd := Lib.hid (Bd.out.next hb)
        have Be := Lib.hid (Be.out.next hb)
        have HB := Lib.hid (bthen HB.out hb)
        clear hb
        clear c0_Bd c1_Bd c0_Be c1_Be
        have c0_Bc := Bc.out.c0
        have c1_Bc := Bc.out.c1
        have c0_Bn := Bn.out.c0
        have c1_Bn := Bn.out.c1
        go_wp2
        go_ret
        exact ⟨rfl, HB.out⟩
end Go.Proofs.Ytjancbjjeemedaa
