/- For all packets and every order NetworkAll answers true and leaves its arguments as they were: the walk. -/
import Derived.Test.YtjancbjjeemedaaLap
import Derived.StillTailTactics
import Derived.Deep.CutRange
namespace Go.Proofs.Ytjancbjjeemedaa
open Go.RowKit
theorem one_q {W : World} {b : Nat} {p : Pk} {da : Option Addr} {L dc : Nat} (hA : Arr W b [.int .i64 p.frm, .int .i64 p.to, .slice da L dc]) (hb : b < W.heap.size) (hin : In64 p.frm ∧ In64 p.to) (hd : BytesAt W W.heap.size (.slice da L dc) p.data) : QAt W W.heap.size (.slice (some ⟨b, 0, none⟩) 1 1) [p] := by
  refine ⟨_, 1, rfl, Nat.le_refl _, by unfold maxLen; omega, .inr ⟨b, 0, rfl, hb, fun i hi => ?_⟩⟩
  have : i = 0 := by simp at hi; exact hi
  subst this
  exact ⟨hin, hA.cell rfl, hA.cell rfl, _, hA.cell rfl, hd⟩
theorem slice_to (a : Option Addr) (N cap i : Nat) (h : i ≤ cap) (W : World) : (Instr.slice 22 (.slice a N cap) none (some (.int .i64 (i : Int))) none).run Try.prog W = .ok (.slice a i cap) W := by
  rw [run_slice_h W 22 _ _ _ Try.slice22 .i64 _ (by omega) (by omega), Try.elem22, Try.sizeOf28]
  simp only [Result.andThen, sliced, Int.toNat_natCast, Nat.sub_zero]
  cases a <;> simp [Addr.add]
def lenOf : Value → Nat
  | .slice _ n _ => n
  | _ => 0
def q6p0 : Oper := { dst := some 28, op := Go.Op.load 25 (Go.Operand.tmp 5), type := 25, pos := "law.go:160", after := #[], guard := none }
def q6p1 : Oper := { dst := some 29, op := Go.Op.move (Go.Operand.tmp 0), type := 22, pos := "law.go:160", after := #[], guard := none }
def q6p2 : Oper := { dst := some 30, op := Go.Op.move (Go.Operand.tmp 7), type := 3, pos := "law.go:160", after := #[], guard := none }
def q6p3 : Oper := { dst := some 31, op := Go.Op.indexAddr 22 (Go.Operand.tmp 29) (Go.Operand.tmp 30), type := 0, pos := "law.go:160", after := #[{ on := 1, ground := Go.Ground.data }, { on := 2, ground := Go.Ground.data }], guard := none }
def q6p4 : Oper := { dst := some 32, op := Go.Op.load 28 (Go.Operand.tmp 31), type := 28, pos := "law.go:160", after := #[{ on := 3, ground := Go.Ground.data }], guard := none }
def q6p5 : Oper := { dst := some 33, op := Go.Op.call { callee := Go.Callee.value (Go.Operand.func 11), args := #[Go.Operand.tmp 28, Go.Operand.tmp 32], argTypes := #[25, 28] }, type := 32, pos := "law.go:160", after := #[{ on := 0, ground := Go.Ground.data }, { on := 4, ground := Go.Ground.data }], guard := none }
def q6p6 : Oper := { dst := some 27, op := Go.Op.move (Go.Operand.tmp 33), type := 32, pos := "law.go:160", after := #[{ on := 5, ground := Go.Ground.data }], guard := none }
def q6p7 : Oper := { dst := some 34, op := Go.Op.extract (Go.Operand.tmp 27) 0, type := 25, pos := "law.go:160", after := #[{ on := 6, ground := Go.Ground.data }], guard := none }
def q6p8 : Oper := { dst := some 35, op := Go.Op.extract (Go.Operand.tmp 27) 1, type := 31, pos := "law.go:160", after := #[{ on := 6, ground := Go.Ground.data }, { on := 10, ground := Go.Ground.gcOnly Go.Departure.lateStores }], guard := none }
def q6p9 : Oper := { dst := some 8, op := Go.Op.alloc 25, type := 0, pos := "law.go:160", after := #[], guard := none }
def q6p10 : Oper := { dst := none, op := Go.Op.store 25 (Go.Operand.tmp 8) (Go.Operand.tmp 34), type := 0, pos := "law.go:160", after := #[{ on := 9, ground := Go.Ground.data }, { on := 7, ground := Go.Ground.data }, { on := 5, ground := Go.Ground.chain }, { on := 0, ground := Go.Ground.phase }, { on := 1, ground := Go.Ground.phase }, { on := 2, ground := Go.Ground.phase }, { on := 3, ground := Go.Ground.phase }, { on := 4, ground := Go.Ground.phase }, { on := 5, ground := Go.Ground.phase }, { on := 6, ground := Go.Ground.phase }, { on := 7, ground := Go.Ground.phase }, { on := 8, ground := Go.Ground.textOnly Go.Departure.lateStores }, { on := 9, ground := Go.Ground.phase }], guard := none }
def q6p11 : Oper := { dst := some 9, op := Go.Op.assign (Go.Operand.tmp 35), type := 31, pos := "law.go:160", after := #[{ on := 8, ground := Go.Ground.data }, { on := 10, ground := Go.Ground.chain }, { on := 0, ground := Go.Ground.phase }, { on := 1, ground := Go.Ground.phase }, { on := 2, ground := Go.Ground.phase }, { on := 3, ground := Go.Ground.phase }, { on := 4, ground := Go.Ground.phase }, { on := 5, ground := Go.Ground.phase }, { on := 6, ground := Go.Ground.phase }, { on := 7, ground := Go.Ground.phase }, { on := 8, ground := Go.Ground.phase }, { on := 9, ground := Go.Ground.phase }, { on := 10, ground := Go.Ground.phase }], guard := none }
def q6s0 : Oper := { dst := some 70, op := Go.Op.move (Go.Operand.tmp 14), type := 31, pos := "law.go:172", after := #[], guard := none }
def q6s1 : Oper := { dst := some 71, op := Go.Op.binOp Go.BinOp.neq 31 (Go.Operand.tmp 70) (Go.Operand.const (Go.Value.int Go.IntKind.i64 0)) 31, type := 4, pos := "law.go:172", after := #[{ on := 0, ground := Go.Ground.data }], guard := none }
def q6s2 : Oper := { dst := some 72, op := Go.Op.move (Go.Operand.tmp 71), type := 4, pos := "law.go:172", after := #[{ on := 1, ground := Go.Ground.data }], guard := none }
def q6s3 : Oper := { dst := some 73, op := Go.Op.load 28 (Go.Operand.tmp 12), type := 28, pos := "law.go:172", after := #[{ on := 2, ground := Go.Ground.guard }], guard := some (2, false) }
def q6s4 : Oper := { dst := some 74, op := Go.Op.move (Go.Operand.tmp 6), type := 22, pos := "law.go:172", after := #[{ on := 2, ground := Go.Ground.guard }], guard := some (2, false) }
def q6s5 : Oper := { dst := some 75, op := Go.Op.move (Go.Operand.tmp 11), type := 3, pos := "law.go:172", after := #[{ on := 2, ground := Go.Ground.guard }], guard := some (2, false) }
def q6s6 : Oper := { dst := some 76, op := Go.Op.indexAddr 22 (Go.Operand.tmp 74) (Go.Operand.tmp 75), type := 0, pos := "law.go:172", after := #[{ on := 4, ground := Go.Ground.data }, { on := 5, ground := Go.Ground.data }, { on := 2, ground := Go.Ground.guard }], guard := some (2, false) }
def q6s7 : Oper := { dst := some 77, op := Go.Op.load 28 (Go.Operand.tmp 76), type := 28, pos := "law.go:172", after := #[{ on := 6, ground := Go.Ground.data }, { on := 2, ground := Go.Ground.guard }], guard := some (2, false) }
def q6s8 : Oper := { dst := some 78, op := Go.Op.call { callee := Go.Callee.value (Go.Operand.func 22), args := #[Go.Operand.tmp 73, Go.Operand.tmp 77], argTypes := #[28, 28] }, type := 4, pos := "law.go:172", after := #[{ on := 3, ground := Go.Ground.data }, { on := 7, ground := Go.Ground.data }, { on := 2, ground := Go.Ground.chain }, { on := 2, ground := Go.Ground.guard }], guard := some (2, false) }
def q6s9 : Oper := { dst := some 79, op := Go.Op.unOp Go.UnOp.not 4 (Go.Operand.tmp 78), type := 4, pos := "law.go:172", after := #[{ on := 8, ground := Go.Ground.data }, { on := 2, ground := Go.Ground.guard }], guard := some (2, false) }
def q6s10 : Oper := { dst := some 80, op := Go.Op.pick (Go.Operand.tmp 72) (Go.Operand.const (Go.Value.bool true)) (Go.Operand.tmp 79), type := 4, pos := "law.go:172", after := #[{ on := 2, ground := Go.Ground.data }, { on := 9, ground := Go.Ground.data }], guard := none }
def q6t0 : Oper := { dst := some 82, op := Go.Op.buildSlice 22 0 #[], type := 22, pos := "law.go:176", after := #[], guard := none }
def q6t1 : Oper := { dst := some 83, op := Go.Op.move (Go.Operand.tmp 6), type := 22, pos := "law.go:176", after := #[], guard := none }
def q6t2 : Oper := { dst := some 84, op := Go.Op.move (Go.Operand.tmp 11), type := 3, pos := "law.go:176", after := #[], guard := none }
def q6t3 : Oper := { dst := some 85, op := Go.Op.slice 22 (Go.Operand.tmp 83) none (some (Go.Operand.tmp 84)) none, type := 22, pos := "law.go:176", after := #[{ on := 1, ground := Go.Ground.data }, { on := 2, ground := Go.Ground.data }], guard := none }
def q6t4 : Oper := { dst := some 86, op := Go.Op.call { callee := Go.Callee.builtin Go.Builtin.append, args := #[Go.Operand.tmp 82, Go.Operand.tmp 85], argTypes := #[22, 22] }, type := 22, pos := "law.go:176", after := #[{ on := 0, ground := Go.Ground.data }, { on := 3, ground := Go.Ground.data }], guard := none }
def q6t5 : Oper := { dst := some 87, op := Go.Op.move (Go.Operand.tmp 6), type := 22, pos := "law.go:176", after := #[], guard := none }
def q6t6 : Oper := { dst := some 88, op := Go.Op.move (Go.Operand.tmp 11), type := 3, pos := "law.go:176", after := #[], guard := none }
def q6t7 : Oper := { dst := some 89, op := Go.Op.binOp Go.BinOp.add 3 (Go.Operand.tmp 88) (Go.Operand.const (Go.Value.int Go.IntKind.i64 1)) 3, type := 3, pos := "law.go:176", after := #[{ on := 6, ground := Go.Ground.data }], guard := none }
def q6t8 : Oper := { dst := some 90, op := Go.Op.slice 22 (Go.Operand.tmp 87) (some (Go.Operand.tmp 89)) none none, type := 22, pos := "law.go:176", after := #[{ on := 5, ground := Go.Ground.data }, { on := 7, ground := Go.Ground.data }], guard := none }
def q6t9 : Oper := { dst := some 91, op := Go.Op.call { callee := Go.Callee.builtin Go.Builtin.append, args := #[Go.Operand.tmp 86, Go.Operand.tmp 90], argTypes := #[22, 22] }, type := 22, pos := "law.go:176", after := #[{ on := 4, ground := Go.Ground.data }, { on := 8, ground := Go.Ground.data }, { on := 4, ground := Go.Ground.chain }], guard := none }
def q6t10 : Oper := { dst := some 6, op := Go.Op.assign (Go.Operand.tmp 91), type := 22, pos := "law.go:176", after := #[{ on := 9, ground := Go.Ground.data }, { on := 9, ground := Go.Ground.chain }, { on := 0, ground := Go.Ground.phase }, { on := 1, ground := Go.Ground.phase }, { on := 2, ground := Go.Ground.phase }, { on := 3, ground := Go.Ground.phase }, { on := 4, ground := Go.Ground.phase }, { on := 5, ground := Go.Ground.phase }, { on := 6, ground := Go.Ground.phase }, { on := 7, ground := Go.Ground.phase }, { on := 8, ground := Go.Ground.phase }, { on := 9, ground := Go.Ground.phase }], guard := none }
set_option maxRecDepth 100000 in
set_option maxHeartbeats 32000000 in
theorem lawAll (w : World) (l : List Pk) (vl : Value) (os : By) (vo : Value) (h : QAt w w.heap.size vl l) (ho : BytesAt w w.heap.size vo os) :
    Calls Try.prog 6 #[vl, vo] w fun e w' => e = .returned (.bool true) ∧ Below w.heap.size w w' := by
  obtain ⟨la, lc, rfl, hl1, hl2⟩ : ∃ a c, vl = .slice a l.length c ∧ l.length ≤ c ∧ c ≤ maxLen := by obtain ⟨a, c, h1, h2, h3, _⟩ := h; exact ⟨a, c, h1, h2, h3⟩
  obtain ⟨oa, oc, rfl, ho1, ho2⟩ := bytes_shape ho
  obtain ⟨N, hN⟩ : ∃ x, l.length = x := ⟨_, rfl⟩
  obtain ⟨K, hK⟩ : ∃ x, os.length = x := ⟨_, rfl⟩
  rw [hN] at h hl1 ⊢
  rw [hK] at ho ho1 ⊢
  have HL := Lib.hid h
  have HO := Lib.hid ho
  have HN := Lib.hid hN
  have HKN := Lib.hid hK
  have HB := Lib.hid (Below.refl w.heap.size w)
  unfold maxLen at hl2 ho2
  clear h ho hN hK
  go_enter Try.func6, Try.ntmps6
  go_wp2_with fail
  refine (sane_any _).mono ?_
  rintro e w1 ⟨rfl, hb⟩
  have HB := Lib.hid (bthen HB.out hb)
  clear hb
  by_cases hsk : 12 < N
  · have dq : decide (12 < (N : Int)) = true := by simp; omega
    go_wp2
    go_ret
    exact ⟨rfl, HB.out⟩
  have dq : decide (12 < (N : Int)) = false := by simp; omega
  have hN12 : N ≤ 12 := by omega
  clear hsk
  go_wp2_with fail
  refine (new_any _).mono ?_
  rintro e w2 ⟨rfl, hb⟩
  obtain ⟨X, hX⟩ : ∃ X, X = w2.alloc (.cells #[.slice none 0 0, .slice none 0 0] 25) := ⟨_, rfl⟩
  have hbX : Below w2.heap.size w2 X := by rw [hX]; go_grown
  have HT0 : Hid (LA w w2.heap.size [] none 0 0 [] X) := Lib.hid (by
    refine ⟨bthen HB.out (hb.trans (hbX.mono hb.size)), Nat.le_trans HB.out.size hb.size, ⟨none, 0, none, 0, ?_⟩, by rw [hX]; exact SlB.new _ _ _ _ _ _ _ _, rfl, .inl ⟨rfl, rfl⟩⟩
    exact ⟨by rw [hX]; simp, by rw [hX]; exact Arr.new w2 #[.slice none 0 0, .slice none 0 0] 25, zero_at _ _⟩)
  obtain ⟨b5, hb5⟩ : ∃ b, w2.heap.size = b := ⟨_, rfl⟩
  have HX := Lib.hid hX
  rw [hb5] at HT0
  clear hb hX hbX
  go_wp2
  rw [← HX.out]
  try rw [hb5]
  clear HX hb5 HB
  go_loopw [6, 7] (fun v6 v7 wr => ∃ (m n rc : Nat) (ra : Option Addr), v6 = .slice ra n rc ∧ v7 = .int .i64 m ∧ m ≤ N ∧ LA w b5 ((l.take m).filter okPk) ra n rc ((l.take m).filter okPk) wr) (fun _ i _ => N - (intOf i).toNat)
  case atStart => exact ⟨0, 0, 0, none, rfl, rfl, Nat.zero_le _, by rw [List.take_zero]; exact HT0.out⟩
  case round =>
  clear HT0
  obtain ⟨m, n, rc, ra, rfl, rfl, hmN, hT⟩ := hrel
  have HT := Lib.hid hT
  by_cases hlt : m < N
  · have hml : m < l.length := by rw [HN.out]; exact hlt
    have ii : (m : Int) < (N : Int) := by omega
    have dm : decide ((m : Int) < (N : Int)) = true := by simp; omega
    have hfl : ((l.take m).filter okPk).length ≤ 12 := by have := List.length_filter_le okPk (l.take m); rw [List.length_take] at this; omega
    have hfo : ∀ p ∈ (l.take m).filter okPk, okPk p = true := fun p hp => filter_ok hp
    have hft := filter_take l hml
    obtain ⟨fs, hfs⟩ : ∃ x, (l.take m).filter okPk = x := ⟨_, rfl⟩
    rw [hfs] at hT HT hfl hfo hft
    obtain ⟨p, hp⟩ : ∃ p, l[m]'hml = p := ⟨_, rfl⟩
    rw [hp] at hft
    obtain ⟨qb, qo, rfl, hqb, hin, g0, g1, da, dc, g2, l5, l6, hpd⟩ := HL.out.got m hml
    rw [hp] at hin g0 g1 g2 l5 hpd
    obtain ⟨L, hL⟩ : ∃ L, p.data.length = L := ⟨_, rfl⟩
    rw [hL] at g2 l5 hpd
    obtain ⟨qa, qc, aa, ac, hx⟩ := hT.box
    obtain ⟨F, hF⟩ : ∃ x, fs.length = x := ⟨_, rfl⟩
    rw [hF] at hx hfl
    have hrn := hT.row.1
    have hlo := hT.lo
    obtain ⟨nn, hnn⟩ : ∃ x, (⟨fs, []⟩ : Nt).send p = x := ⟨_, rfl⟩
    have hcase : (okPk p = true ∧ nn = (⟨fs ++ [p], []⟩, 0)) ∨ (okPk p = false ∧ nn = (Nt.zero, 60)) := by
      cases hk : okPk p with
      | true => exact .inl ⟨rfl, by rw [← hnn, send_in (net_ok hfo (by omega)) hk (by show fs.length < 4096; omega)]⟩
      | false => exact .inr ⟨rfl, by rw [← hnn, send_no (net_ok hfo (by omega)) hk]⟩
    obtain ⟨N9, hN9⟩ : ∃ x, nn.1.q.length = x := ⟨_, rfl⟩
    have hM9 : nn.1.ap.length = 0 := by rcases hcase with ⟨_, e⟩ | ⟨_, e⟩ <;> rw [e] <;> rfl
    obtain ⟨nx, ec⟩ := nn
    have hsd : ∀ W v vp, NtAt W W.heap.size v ⟨fs, []⟩ → PkAt W W.heap.size vp p → Calls Try.prog 11 #[v, vp] W fun e w' => ∃ (qa9 : Option Addr) (qc9 : Nat) (aa9 : Option Addr) (ac9 : Nat), e = .returned (.tuple #[.agg #[.slice qa9 N9 qc9, .slice aa9 0 ac9], .int .i64 ec]) ∧ NtAt w' w'.heap.size (.agg #[.slice qa9 N9 qc9, .slice aa9 0 ac9]) nx ∧ Below W.heap.size W w' := fun W v vp h hp =>
      (send_any W v _ h vp p hp).mono fun e w' ⟨v', h1, h2, h3⟩ => by
        rw [hnn] at h1 h2
        obtain ⟨qa9, qc9, aa9, ac9, rfl, _⟩ := h2.parts hN9 hM9
        exact ⟨qa9, qc9, aa9, ac9, h1, h2, h3⟩
    have hwX : w.heap.size ≤ wr.heap.size := hT.below.size
    obtain ⟨X, hX⟩ : ∃ X, wr = X := ⟨_, rfl⟩
    subst hX
    have HX := Lib.hid hx
    have HSD := Lib.hid hsd
    have HCASE := Lib.hid hcase
    have HFO := Lib.hid hfo
    have HFT := Lib.hid hft
    have HP0 := Lib.hid hp
    have HLL := Lib.hid hL
    have HIN := Lib.hid hin
    have HPD := Lib.hid hpd
    have HN9 := Lib.hid hN9
    have HRN := Lib.hid hrn
    have HF := Lib.hid hF
    have HFS := Lib.hid hfs
    have G0 := Lib.hid g0
    have G1 := Lib.hid g1
    have G2 := Lib.hid g2
    clear hx hsd hcase hfo hft hp hL hin hpd hN9 hM9 hrn hF hfs g0 g1 g2 hnn hT
    go_wp2
    have HSC := Lib.hid (show ∀ W, Kept wr W → (W.cell? ⟨b5, 0, none⟩ = some (.slice qa F qc) ∧ W.cell? ⟨b5, 1, none⟩ = some (.slice aa 0 ac)) ∧
      W.cell? ⟨qb, qo + m * 3, none⟩ = some (.int .i64 p.frm) ∧ W.cell? ⟨qb, qo + m * 3 + 1, none⟩ = some (.int .i64 p.to) ∧ W.cell? ⟨qb, qo + m * 3 + 2, none⟩ = some (.slice da L dc) from fun W hW =>
      ⟨⟨(hW.cell HX.out.lt).trans HX.out.c0, (hW.cell HX.out.lt).trans HX.out.c1⟩, (hW.cell (by omega)).trans ((HT.out.below.cell (p := ⟨qb, qo + m * 3, none⟩) hqb).trans G0.out), (hW.cell (by omega)).trans ((HT.out.below.cell (p := ⟨qb, qo + m * 3 + 1, none⟩) hqb).trans G1.out), (hW.cell (by omega)).trans ((HT.out.below.cell (p := ⟨qb, qo + m * 3 + 2, none⟩) hqb).trans G2.out)⟩)
    have HSD2 := Lib.hid (show ∀ W, Kept wr W → Calls Try.prog 11 #[.agg #[.slice qa F qc, .slice aa 0 ac], .agg #[.int .i64 p.frm, .int .i64 p.to, .slice da L dc]] W fun e w' => ∃ (qa9 : Option Addr) (qc9 : Nat) (aa9 : Option Addr) (ac9 : Nat), e = .returned (.tuple #[.agg #[.slice qa9 N9 qc9, .slice aa9 0 ac9], .int .i64 ec]) ∧ NtAt w' w'.heap.size (.agg #[.slice qa9 N9 qc9, .slice aa9 0 ac9]) nx ∧ Below W.heap.size W w' from fun W hW =>
      HSD.out W _ _ (HX.out.nt.next hW.below) ⟨HIN.out, _, rfl, (HPD.out.nxt (bthen HT.out.below hW.below))⟩)
    have hx0 : Kept wr wr.drew := (Kept.refl _).drew
    clear HSD
    refine wp_region_held_drew (S := fun W => Kept wr W) (by kernel_rfl) hx0 (fun hHeld => ?_)
    refine wpAnyH_take (i := 0) (oi := q6p0) (v := ?_) rfl (by kernel_rfl) (by kernel_rfl) (by kernel_rfl) (fun _ _ _ h => h) (Or.inl ⟨by rfl, ?_⟩) hHeld ?_
    rotate_left
    · (intro w hSw; obtain ⟨⟨b0, b1⟩, p0, p1, p2⟩ := HSC.out _ hSw; unfold q6p0; go_simp <;> with_reducible rfl)
    try simp only [q6p0, Act.put, List.setIfInBounds_toArray, List.set_cons_zero, List.set_cons_succ]
    refine wpAnyH_take (i := 1) (oi := q6p1) (v := ?_) rfl (by kernel_rfl) (by kernel_rfl) (by kernel_rfl) (fun _ _ _ h => h) (Or.inl ⟨by rfl, ?_⟩) hHeld ?_
    rotate_left
    · (intro w hSw; (try dsimp only at hSw); unfold q6p1; go_simp <;> with_reducible rfl)
    try simp only [q6p1, Act.put, List.setIfInBounds_toArray, List.set_cons_zero, List.set_cons_succ]
    refine wpAnyH_take (i := 2) (oi := q6p2) (v := ?_) rfl (by kernel_rfl) (by kernel_rfl) (by kernel_rfl) (fun _ _ _ h => h) (Or.inl ⟨by rfl, ?_⟩) hHeld ?_
    rotate_left
    · (intro w hSw; (try dsimp only at hSw); unfold q6p2; go_simp <;> with_reducible rfl)
    try simp only [q6p2, Act.put, List.setIfInBounds_toArray, List.set_cons_zero, List.set_cons_succ]
    refine wpAnyH_take (i := 3) (oi := q6p3) (v := ?_) rfl (by kernel_rfl) (by kernel_rfl) (by kernel_rfl) (fun _ _ _ h => h) (Or.inl ⟨by rfl, ?_⟩) hHeld ?_
    rotate_left
    · (intro w hSw; (try dsimp only at hSw); unfold q6p3; go_simp <;> with_reducible rfl)
    try simp only [q6p3, Act.put, List.setIfInBounds_toArray, List.set_cons_zero, List.set_cons_succ]
    refine wpAnyH_take (i := 4) (oi := q6p4) (v := ?_) rfl (by kernel_rfl) (by kernel_rfl) (by kernel_rfl) (fun _ _ _ h => h) (Or.inl ⟨by rfl, ?_⟩) hHeld ?_
    rotate_left
    · (intro w hSw; obtain ⟨⟨b0, b1⟩, p0, p1, p2⟩ := HSC.out _ hSw; unfold q6p4; go_simp <;> with_reducible rfl)
    try simp only [q6p4, Act.put, List.setIfInBounds_toArray, List.set_cons_zero, List.set_cons_succ]
    refine wpAnyH_ready (rs := [5, 9]) (by kernel_rfl) (by simp) ?_
    refine AllReadyH.cons (o := q6p5) rfl (fun K hK => ?_) (AllReadyH.cons (o := q6p9) rfl (fun K hK => ?_) AllReadyH.nil)
    · skip
      rw [if_pos (by rfl)]
      unfold q6p5
      go_simp
      go_at_call 11
      refine (HSD2.out wr.drew hHeld).mono ?_
      rintro e w9 ⟨qa9, qc9, aa9, ac9, rfl, hnt, hb9⟩
      have hk9 : Kept wr w9 := hHeld.next hb9
      have hk9w0 : wr.heap.size ≤ w9.heap.size := hk9.below.size
      refine hK.out _ _ hk9 (fun hHeld => ?_)
      clear hK K
      try simp only [q6p5, Act.put, List.setIfInBounds_toArray, List.set_cons_zero, List.set_cons_succ]
      refine wpAnyH_take (i := 6) (oi := q6p6) (v := ?_) rfl (by kernel_rfl) (by kernel_rfl) (by kernel_rfl) (fun _ _ _ h => h) (Or.inl ⟨by rfl, ?_⟩) hHeld ?_
      rotate_left
      · (intro w hSw; (try dsimp only at hSw); unfold q6p6; go_simp <;> with_reducible rfl)
      try simp only [q6p6, Act.put, List.setIfInBounds_toArray, List.set_cons_zero, List.set_cons_succ]
      refine wpAnyH_take (i := 7) (oi := q6p7) (v := ?_) rfl (by kernel_rfl) (by kernel_rfl) (by kernel_rfl) (fun _ _ _ h => h) (Or.inl ⟨by rfl, ?_⟩) hHeld ?_
      rotate_left
      · (intro w hSw; (try dsimp only at hSw); unfold q6p7; go_simp <;> with_reducible rfl)
      try simp only [q6p7, Act.put, List.setIfInBounds_toArray, List.set_cons_zero, List.set_cons_succ]
      refine wpAnyH_take (i := 8) (oi := q6p8) (v := ?_) rfl (by kernel_rfl) (by kernel_rfl) (by kernel_rfl) (fun _ _ _ h => h) (Or.inl ⟨by rfl, ?_⟩) hHeld ?_
      rotate_left
      · (intro w hSw; (try dsimp only at hSw); unfold q6p8; go_simp <;> with_reducible rfl)
      try simp only [q6p8, Act.put, List.setIfInBounds_toArray, List.set_cons_zero, List.set_cons_succ]
      refine wpAnyH_ready (rs := [9]) (by kernel_rfl) (by simp) ?_
      refine AllReadyH.cons (o := q6p9) rfl (fun K hK => ?_) AllReadyH.nil
      rw [if_pos (by rfl)]
      unfold q6p9
      go_simp
      obtain ⟨WA, hWA⟩ : ∃ WA, WA = w9.alloc (.cells #[.slice none 0 0, .slice none 0 0] 25) := ⟨_, rfl⟩
      have hkA : Kept wr WA := by rw [hWA]; exact hk9.alloc _
      have hzA : WA.heap.size = w9.heap.size + 1 := by rw [hWA]; simp
      have hA : Arr WA (w9.heap.size) [.slice none 0 0, .slice none 0 0] := by rw [hWA]; exact Arr.new w9 #[.slice none 0 0, .slice none 0 0] 25
      have hS : SlB WA (w9.heap.size) := by rw [hWA]; exact SlB.new w9 none none 0 0 0 0 25
      have hnt : NtAt WA WA.heap.size (.agg #[.slice qa9 N9 qc9, .slice aa9 0 ac9]) nx := hnt.next (by rw [hWA]; go_grown)
      rw [← hWA]
      clear hWA
      refine hK.out _ _ hkA (fun hHeld => ?_)
      have hA9 := hA
      have hS9 := hS
      have hl9 : w9.heap.size < WA.heap.size := by omega
      have hk9 := hkA
      clear hA hS hzA hkA
      clear hK K
      try simp only [q6p9, Act.put, List.setIfInBounds_toArray, List.set_cons_zero, List.set_cons_succ]
      refine wpAnyH_ready (rs := [10]) (by kernel_rfl) (by simp) ?_
      refine AllReadyH.cons (o := q6p10) rfl (fun K hK => ?_) AllReadyH.nil
      rw [if_pos (by rfl)]
      unfold q6p10
      have e10 : WA.cell? ⟨w9.heap.size, 0, none⟩ = some (.slice none 0 0) := hA9.cell rfl
      have e11 : WA.cell? ⟨w9.heap.size, 1, none⟩ = some (.slice none 0 0) := hA9.cell rfl
      have f10 : WA.frozen? ⟨w9.heap.size, 0, none⟩ = false := hA9.frozen (by simp)
      have f11 : WA.frozen? ⟨w9.heap.size, 1, none⟩ = false := hA9.frozen (by simp)
      obtain ⟨WF, hWF⟩ : ∃ WF, (WA.setCell ⟨w9.heap.size, 0, none⟩ (.slice qa9 N9 qc9)).setCell ⟨w9.heap.size, 1, none⟩ (.slice aa9 0 ac9) = WF := ⟨_, rfl⟩
      have hBx : NBox WF (w9.heap.size) qa9 N9 qc9 aa9 0 ac9 nx := by
        have hzF : WF.heap.size = WA.heap.size := by rw [← hWF]; simp
        refine ⟨by rw [hzF]; exact hl9, by rw [← hWF]; exact (hA9.set 0 _).set 1 _, ?_⟩
        rw [hzF, ← hWF]
        exact (hnt.apart hS9 _).apart (hS9.set e10 _ _ _) _
      have hkF : Kept wr WF := by rw [← hWF]; exact (hk9.set (p := ⟨w9.heap.size, 0, none⟩) hk9w0 _).set (p := ⟨w9.heap.size, 1, none⟩) hk9w0 _
      go_simp
      try rw [hWF]
      refine hK.out _ _ hkF (fun hHeld => ?_)
      clear e10 e11 f10 f11 hWF hA9 hS9 hl9 hnt
      clear hK K
      try simp only [q6p10, Act.put]
      refine wpAnyH_take (i := 11) (oi := q6p11) (v := ?_) rfl (by kernel_rfl) (by kernel_rfl) (by kernel_rfl) (fun _ _ _ h => h) (Or.inl ⟨by rfl, ?_⟩) hHeld ?_
      rotate_left
      · (intro w hSw; (try dsimp only at hSw); unfold q6p11; go_simp <;> with_reducible rfl)
      try simp only [q6p11, Act.put, List.setIfInBounds_toArray, List.set_cons_zero, List.set_cons_succ]
      refine wpAnyH_done (by kernel_rfl) ?_ _
      have hT9 : LA w b5 fs ra n rc fs WF := HT.out.next hkF.below
      have HT9 := Lib.hid hT9
      have x0 := hBx.c0
      have x1 := hBx.c1
      have HBX := Lib.hid hBx
      clear hHeld HSC HSD2 hk9 hkF hk9w0  HT hT9 hBx
      rcases HCASE.out with ⟨hpk, e⟩ | ⟨hpk, e⟩
      · obtain ⟨rfl, rfl⟩ := Prod.mk.inj e
        obtain ⟨qa1, qc1, aa1, ac1, hy⟩ := HT9.out.box
        have y0 := hy.c0
        have y1 := hy.c1
        have z0 : WF.frozen? ⟨b5, 0, none⟩ = false := hy.arr.frozen (by simp)
        have z1 : WF.frozen? ⟨b5, 1, none⟩ = false := hy.arr.frozen (by simp)
        obtain ⟨W2, hW2⟩ : ∃ W2, (WF.setCell ⟨b5, 0, none⟩ (.slice qa9 N9 qc9)).setCell ⟨b5, 1, none⟩ (.slice aa9 0 ac9) = W2 := ⟨_, rfl⟩
        have hT2 : LA w b5 (fs ++ [p]) ra n rc fs W2 := by rw [← hW2]; exact HT9.out.over HN9.out HBX.out.nt
        have k0 := (hT2.below.cell (p := ⟨qb, qo + m * 3, none⟩) hqb).trans G0.out
        have k1 := (hT2.below.cell (p := ⟨qb, qo + m * 3 + 1, none⟩) hqb).trans G1.out
        have k2 := (hT2.below.cell (p := ⟨qb, qo + m * 3 + 2, none⟩) hqb).trans G2.out
        have hz2 : W2.heap.size = WF.heap.size := by rw [← hW2]; simp
        rw [← hW2] at k0 k1 k2
        obtain ⟨W3, hW3⟩ : ∃ W3, W2.alloc (.cells #[.int .i64 p.frm, .int .i64 p.to, .slice da L dc] 28) = W3 := ⟨_, rfl⟩
        have hb3 : Below W2.heap.size W2 W3 := by rw [← hW3]; go_grown
        have hT3 := hT2.next hb3
        have hq3 : QAt W3 W3.heap.size (.slice (some ⟨W2.heap.size, 0, none⟩) 1 1) [p] := by
          have hA : Arr W3 W2.heap.size [.int .i64 p.frm, .int .i64 p.to, .slice da L dc] := by rw [← hW3]; exact Arr.new W2 #[.int .i64 p.frm, .int .i64 p.to, .slice da L dc] 28
          exact one_q hA (by rw [← hW3]; simp) HIN.out (HPD.out.nxt hT3.below)
        have hok3 : ∀ x ∈ fs ++ [p], okPk x = true := fun x hx => by
          rcases List.mem_append.1 hx with hx | hx
          · exact HFO.out x hx
          · rw [List.mem_singleton.1 hx]; exact hpk
        obtain ⟨g', cap', W4, hrun, hT4, -⟩ := hT3.push hok3 _ _ _ [p] hq3 rfl (by simp) (by have := HRN.out; have := HF.out; omega)
        rw [hz2] at hrun
        have HW2 := Lib.hid hW2
        have HW3 := Lib.hid hW3
        have HRUN := Lib.hid hrun
        have HT4 := Lib.hid hT4
        clear hy hT2 hz2 hb3 hT3 hq3 hok3 hW2 hW3 hrun hT4
        go_wp2_with (first | (at_builtin; rw [HW2.out, HW3.out]; refine wpList_append_run rfl (.tmp 39) (.tmp 44) 22 22 rfl _ _ _ _ (by rfl) (by rfl) HRUN.out ?_))
        go_roundw
        case rel =>
          refine ⟨m + 1, n + 1, cap', some ⟨g', 0, none⟩, rfl, by go_num, by omega, ?_⟩
          rw [HFT.out, hpk]
          exact HT4.out
        case measure => simp [intOf]; omega
      · obtain ⟨rfl, rfl⟩ := Prod.mk.inj e
        go_wp2
        go_roundw
        case rel =>
          refine ⟨m + 1, n, rc, ra, rfl, by go_num, by omega, ?_⟩
          rw [HFT.out, hpk]
          simpa using HT9.out
        case measure => simp [intOf]; omega
    · skip
      rw [if_pos (by rfl)]
      unfold q6p9
      go_simp
      obtain ⟨WA, hWA⟩ : ∃ WA, WA = (wr.alloc (.cells #[.slice none 0 0, .slice none 0 0] 25)).drew := ⟨_, rfl⟩
      have hkA : Kept wr WA := by rw [hWA]; exact ((Kept.refl _).alloc _).drew
      have hzA : WA.heap.size = wr.heap.size + 1 := by rw [hWA]; simp
      have hA : Arr WA (wr.heap.size) [.slice none 0 0, .slice none 0 0] := by rw [hWA]; exact (Arr.new wr #[.slice none 0 0, .slice none 0 0] 25).drew
      have hS : SlB WA (wr.heap.size) := by rw [hWA]; exact SlB.new wr none none 0 0 0 0 25
      rw [← hWA]
      clear hWA
      refine hK.out _ _ hkA (fun hHeld => ?_)
      clear hK K
      try simp only [q6p9, Act.put, List.setIfInBounds_toArray, List.set_cons_zero, List.set_cons_succ]
      refine wpAnyH_ready (rs := [5]) (by kernel_rfl) (by simp) ?_
      refine AllReadyH.cons (o := q6p5) rfl (fun K hK => ?_) AllReadyH.nil
      rw [if_pos (by rfl)]
      unfold q6p5
      go_simp
      go_at_call 11
      refine (HSD2.out WA hHeld).mono ?_
      rintro e w9 ⟨qa9, qc9, aa9, ac9, rfl, hnt, hb9⟩
      have hk9 : Kept wr w9 := hHeld.next hb9
      have hk9w0 : wr.heap.size ≤ w9.heap.size := hk9.below.size
      have hA9 : Arr w9 wr.heap.size [.slice none 0 0, .slice none 0 0] := hA.below hb9 (by omega)
      have hS9 : SlB w9 wr.heap.size := hS.below hb9 (by omega)
      have hl9 : wr.heap.size < w9.heap.size := Nat.lt_of_lt_of_le (by omega) hb9.size
      clear hA hS hzA
      refine hK.out _ _ hk9 (fun hHeld => ?_)
      clear hK K
      try simp only [q6p5, Act.put, List.setIfInBounds_toArray, List.set_cons_zero, List.set_cons_succ]
      refine wpAnyH_take (i := 6) (oi := q6p6) (v := ?_) rfl (by kernel_rfl) (by kernel_rfl) (by kernel_rfl) (fun _ _ _ h => h) (Or.inl ⟨by rfl, ?_⟩) hHeld ?_
      rotate_left
      · (intro w hSw; (try dsimp only at hSw); unfold q6p6; go_simp <;> with_reducible rfl)
      try simp only [q6p6, Act.put, List.setIfInBounds_toArray, List.set_cons_zero, List.set_cons_succ]
      refine wpAnyH_take (i := 7) (oi := q6p7) (v := ?_) rfl (by kernel_rfl) (by kernel_rfl) (by kernel_rfl) (fun _ _ _ h => h) (Or.inl ⟨by rfl, ?_⟩) hHeld ?_
      rotate_left
      · (intro w hSw; (try dsimp only at hSw); unfold q6p7; go_simp <;> with_reducible rfl)
      try simp only [q6p7, Act.put, List.setIfInBounds_toArray, List.set_cons_zero, List.set_cons_succ]
      refine wpAnyH_take (i := 8) (oi := q6p8) (v := ?_) rfl (by kernel_rfl) (by kernel_rfl) (by kernel_rfl) (fun _ _ _ h => h) (Or.inl ⟨by rfl, ?_⟩) hHeld ?_
      rotate_left
      · (intro w hSw; (try dsimp only at hSw); unfold q6p8; go_simp <;> with_reducible rfl)
      try simp only [q6p8, Act.put, List.setIfInBounds_toArray, List.set_cons_zero, List.set_cons_succ]
      refine wpAnyH_ready (rs := [10]) (by kernel_rfl) (by simp) ?_
      refine AllReadyH.cons (o := q6p10) rfl (fun K hK => ?_) AllReadyH.nil
      rw [if_pos (by rfl)]
      unfold q6p10
      have e10 : w9.cell? ⟨wr.heap.size, 0, none⟩ = some (.slice none 0 0) := hA9.cell rfl
      have e11 : w9.cell? ⟨wr.heap.size, 1, none⟩ = some (.slice none 0 0) := hA9.cell rfl
      have f10 : w9.frozen? ⟨wr.heap.size, 0, none⟩ = false := hA9.frozen (by simp)
      have f11 : w9.frozen? ⟨wr.heap.size, 1, none⟩ = false := hA9.frozen (by simp)
      obtain ⟨WF, hWF⟩ : ∃ WF, (w9.setCell ⟨wr.heap.size, 0, none⟩ (.slice qa9 N9 qc9)).setCell ⟨wr.heap.size, 1, none⟩ (.slice aa9 0 ac9) = WF := ⟨_, rfl⟩
      have hBx : NBox WF (wr.heap.size) qa9 N9 qc9 aa9 0 ac9 nx := by
        have hzF : WF.heap.size = w9.heap.size := by rw [← hWF]; simp
        refine ⟨by rw [hzF]; exact hl9, by rw [← hWF]; exact (hA9.set 0 _).set 1 _, ?_⟩
        rw [hzF, ← hWF]
        exact (hnt.apart hS9 _).apart (hS9.set e10 _ _ _) _
      have hkF : Kept wr WF := by rw [← hWF]; exact (hk9.set (p := ⟨wr.heap.size, 0, none⟩) (Nat.le_refl _) _).set (p := ⟨wr.heap.size, 1, none⟩) (Nat.le_refl _) _
      go_simp
      try rw [hWF]
      refine hK.out _ _ hkF (fun hHeld => ?_)
      clear e10 e11 f10 f11 hWF hA9 hS9 hl9 hnt
      clear hK K
      try simp only [q6p10, Act.put]
      refine wpAnyH_take (i := 11) (oi := q6p11) (v := ?_) rfl (by kernel_rfl) (by kernel_rfl) (by kernel_rfl) (fun _ _ _ h => h) (Or.inl ⟨by rfl, ?_⟩) hHeld ?_
      rotate_left
      · (intro w hSw; (try dsimp only at hSw); unfold q6p11; go_simp <;> with_reducible rfl)
      try simp only [q6p11, Act.put, List.setIfInBounds_toArray, List.set_cons_zero, List.set_cons_succ]
      refine wpAnyH_done (by kernel_rfl) ?_ _
      have hT9 : LA w b5 fs ra n rc fs WF := HT.out.next hkF.below
      have HT9 := Lib.hid hT9
      have x0 := hBx.c0
      have x1 := hBx.c1
      have HBX := Lib.hid hBx
      clear hHeld HSC HSD2 hk9 hkF hk9w0 hkA HT hT9 hBx
      rcases HCASE.out with ⟨hpk, e⟩ | ⟨hpk, e⟩
      · obtain ⟨rfl, rfl⟩ := Prod.mk.inj e
        obtain ⟨qa1, qc1, aa1, ac1, hy⟩ := HT9.out.box
        have y0 := hy.c0
        have y1 := hy.c1
        have z0 : WF.frozen? ⟨b5, 0, none⟩ = false := hy.arr.frozen (by simp)
        have z1 : WF.frozen? ⟨b5, 1, none⟩ = false := hy.arr.frozen (by simp)
        obtain ⟨W2, hW2⟩ : ∃ W2, (WF.setCell ⟨b5, 0, none⟩ (.slice qa9 N9 qc9)).setCell ⟨b5, 1, none⟩ (.slice aa9 0 ac9) = W2 := ⟨_, rfl⟩
        have hT2 : LA w b5 (fs ++ [p]) ra n rc fs W2 := by rw [← hW2]; exact HT9.out.over HN9.out HBX.out.nt
        have k0 := (hT2.below.cell (p := ⟨qb, qo + m * 3, none⟩) hqb).trans G0.out
        have k1 := (hT2.below.cell (p := ⟨qb, qo + m * 3 + 1, none⟩) hqb).trans G1.out
        have k2 := (hT2.below.cell (p := ⟨qb, qo + m * 3 + 2, none⟩) hqb).trans G2.out
        have hz2 : W2.heap.size = WF.heap.size := by rw [← hW2]; simp
        rw [← hW2] at k0 k1 k2
        obtain ⟨W3, hW3⟩ : ∃ W3, W2.alloc (.cells #[.int .i64 p.frm, .int .i64 p.to, .slice da L dc] 28) = W3 := ⟨_, rfl⟩
        have hb3 : Below W2.heap.size W2 W3 := by rw [← hW3]; go_grown
        have hT3 := hT2.next hb3
        have hq3 : QAt W3 W3.heap.size (.slice (some ⟨W2.heap.size, 0, none⟩) 1 1) [p] := by
          have hA : Arr W3 W2.heap.size [.int .i64 p.frm, .int .i64 p.to, .slice da L dc] := by rw [← hW3]; exact Arr.new W2 #[.int .i64 p.frm, .int .i64 p.to, .slice da L dc] 28
          exact one_q hA (by rw [← hW3]; simp) HIN.out (HPD.out.nxt hT3.below)
        have hok3 : ∀ x ∈ fs ++ [p], okPk x = true := fun x hx => by
          rcases List.mem_append.1 hx with hx | hx
          · exact HFO.out x hx
          · rw [List.mem_singleton.1 hx]; exact hpk
        obtain ⟨g', cap', W4, hrun, hT4, -⟩ := hT3.push hok3 _ _ _ [p] hq3 rfl (by simp) (by have := HRN.out; have := HF.out; omega)
        rw [hz2] at hrun
        have HW2 := Lib.hid hW2
        have HW3 := Lib.hid hW3
        have HRUN := Lib.hid hrun
        have HT4 := Lib.hid hT4
        clear hy hT2 hz2 hb3 hT3 hq3 hok3 hW2 hW3 hrun hT4
        go_wp2_with (first | (at_builtin; rw [HW2.out, HW3.out]; refine wpList_append_run rfl (.tmp 39) (.tmp 44) 22 22 rfl _ _ _ _ (by rfl) (by rfl) HRUN.out ?_))
        go_roundw
        case rel =>
          refine ⟨m + 1, n + 1, cap', some ⟨g', 0, none⟩, rfl, by go_num, by omega, ?_⟩
          rw [HFT.out, hpk]
          exact HT4.out
        case measure => simp [intOf]; omega
      · obtain ⟨rfl, rfl⟩ := Prod.mk.inj e
        go_wp2
        go_roundw
        case rel =>
          refine ⟨m + 1, n, rc, ra, rfl, by go_num, by omega, ?_⟩
          rw [HFT.out, hpk]
          simpa using HT9.out
        case measure => simp [intOf]; omega
  · have dm : decide ((m : Int) < (N : Int)) = false := by simp; omega
    have hmN' : m = N := by omega
    have htk : (l.take m).filter okPk = l.filter okPk := by rw [List.take_of_length_le (by rw [HN.out]; omega)]
    have hfo : ∀ p ∈ l.filter okPk, okPk p = true := fun p hp => filter_ok hp
    have hfl : (l.filter okPk).length ≤ 12 := by have := List.length_filter_le okPk l; rw [HN.out] at this; omega
    rw [htk] at hT HT
    obtain ⟨fs, hfs⟩ : ∃ x, l.filter okPk = x := ⟨_, rfl⟩
    rw [hfs] at hT HT hfo hfl
    have hn12 : n ≤ 12 := by have := hT.row.1; omega
    have HFO := Lib.hid hfo
    clear hfs htk hfo hT hmN'
    go_wp2
    go_loopw [6, 10] (fun v6 v10 wr => ∃ (j n rc : Nat) (ra : Option Addr) (fr : List Pk), v6 = .slice ra n rc ∧ v10 = .int .i64 j ∧ j + n ≤ 12 ∧ (∀ p ∈ fr, okPk p = true) ∧ LA w b5 fr ra n rc fr wr) (fun v _ _ => lenOf v)
    case atStart => exact ⟨0, n, rc, ra, fs, rfl, rfl, by omega, HFO.out, HT.out⟩
    case round =>
    clear HT HFO
    obtain ⟨j, n, rc, ra, fr, rfl, rfl, hjn, hok, hT⟩ := hrel
    have HOK := Lib.hid hok
    have HT := Lib.hid hT
    obtain ⟨qa, qc, aa, ac, hx⟩ := hT.box
    have hfl := hT.row.1
    rw [hfl] at hx
    have HX := Lib.hid hx
    have x0 := hx.c0
    have x1 := hx.c1
    have hb := hT.below
    by_cases hn0 : n = 0
    · subst hn0
      clear hT hx hb
      go_wp2
      go_ret
      exact ⟨rfl, HT.out.below⟩
    have hnp : 0 < n := by omega
    have dn : decide ((0 : Int) < (n : Int)) = true := by simp; omega
    have dn2 : decide (0 < n) = true := by simp; omega
    have dn3 : ¬ (n : Int) = 0 := by omega
    have dn4 : ((n : Int) == 0) = false := by simp; omega
    have HFL := Lib.hid hfl
    clear hT hx hfl
    go_upto_if 54 with (fail)
    go_cut [11] from 55 to 91 (fun v11 wx => ∃ i : Nat, v11 = .int .i64 i ∧ i < n ∧ wx = wr)
    case first =>
      by_cases hjK : j < K
      · have djK : decide ((j : Int) < (K : Int)) = true := by simp; omega
        have ijK : (j : Int) < (K : Int) := by omega
        have hjo : j < os.length := by rw [HKN.out]; exact hjK
        obtain ⟨ob, oo, rfl, hob, hoc⟩ : ∃ ob oo, oa = some ⟨ob, oo, none⟩ ∧ ob < w.heap.size ∧ w.cell? ⟨ob, oo + j, none⟩ = some (.int .u8 (os[j]'hjo).toNat) := by
          obtain ⟨a', c', e1, _, _, h4⟩ := HO.out
          injection e1 with e1
          rcases h4 with h4 | ⟨db, off, h5, h6, h7⟩
          · rw [h4] at hjo; simp at hjo
          · exact ⟨db, off, by rw [e1, h5], h6, h7 j hjo⟩
        have hoc2 := (hb.cell (p := ⟨ob, oo + j, none⟩) hob).trans hoc
        obtain ⟨c, hc⟩ : ∃ c, (os[j]'hjo).toNat = c := ⟨_, rfl⟩
        rw [hc] at hoc2
        have hc256 : c < 256 := by rw [← hc]; exact UInt8.toNat_lt _
        clear hoc hc
        have hmod : (c : Int).tmod (n : Int) = ((c % n : Nat) : Int) := by rw [Int.tmod_eq_emod_of_nonneg (by omega)]; omega
        have hmod2 : (c : Int) % (n : Int) = ((c % n : Nat) : Int) := by omega
        obtain ⟨i, hi⟩ : ∃ i, c % n = i := ⟨_, rfl⟩
        have hin : i < n := by rw [← hi]; exact Nat.mod_lt _ hnp
        rw [hi] at hmod hmod2
        go_wp2
        go_meet
        case rel => exact ⟨i, rfl, hin, rfl⟩
      · have djK : decide ((j : Int) < (K : Int)) = false := by simpa using hjK
        go_wp2_with fail
        go_meet
        case rel => exact ⟨0, rfl, hnp, rfl⟩
    case rest =>
    obtain ⟨i, rfl, hin, rfl⟩ := hcut
    have hil : i < fr.length := by rw [HFL.out]; exact hin
    have hie : ((⟨fr, []⟩ : Nt).err i) = 0 := err_in (net_ok HOK.out (by rw [HFL.out]; omega)) hil
    have hip := pick_in HOK.out (by rw [HFL.out]; omega) hil
    have hio : (⟨fr, []⟩ : Nt).lose i = ⟨fr.eraseIdx i, []⟩ := lose_in (net_ok HOK.out (by rw [HFL.out]; omega)) hil
    obtain ⟨p, hp⟩ : ∃ p, fr[i]'hil = p := ⟨_, rfl⟩
    rw [hp] at hip
    obtain ⟨L, hL⟩ : ∃ L, p.data.length = L := ⟨_, rfl⟩
    have hel : (fr.eraseIdx i).length = n - 1 := by rw [List.length_eraseIdx, if_pos hil, HFL.out]
    obtain ⟨fe, hfe⟩ : ∃ x, fr.eraseIdx i = x := ⟨_, rfl⟩
    rw [hfe] at hio hel
    have hfo : ∀ x ∈ fe, okPk x = true := fun x hx => HOK.out x (List.mem_of_mem_eraseIdx (hfe ▸ hx))
    have HDV := Lib.hid (show ∀ W v, NtAt W W.heap.size v ⟨fr, []⟩ → Calls Try.prog 20 #[v, .int .i64 (i : Int)] W fun e w' => ∃ vp v', e = .returned (.tuple #[vp, v', .int .i64 0]) ∧ PkAt w' w'.heap.size vp p ∧ NtAt w' w'.heap.size v' ⟨fe, []⟩ ∧ Below W.heap.size W w' from fun W v h => by
      have := dlv_any W v _ h i
      rw [hie, hip, hio] at this
      exact this)
    have HP := Lib.hid hp
    have HL2 := Lib.hid hL
    have HFE := Lib.hid hfe
    have HFO := Lib.hid hfo
    have HEL := Lib.hid hel
    have HIN := Lib.hid hin
    have HB5 := Lib.hid (Below.refl wc.heap.size wc)
    have HB0 := Lib.hid hb
    clear hie hip hio hp hL hfe hfo hel hb
    have c0_HX := HX.out.c0
    have c1_HX := HX.out.c1
    go_wp2_with fail
    refine (HDV.out wc _ HX.out.nt).mono ?_
    rintro e w31 ⟨vp, v, rfl, hp, hu, hb⟩
    obtain ⟨pa31, pc31, Y31, rfl, hY, hP, hbY, hzY⟩ := hp.box (x := p.frm) (y := p.to) (L := L) (by first | rfl | assumption) (by first | rfl | assumption) (by first | rfl | assumption)
    obtain ⟨qa31, qc31, aa31, ac31, X31, rfl, hX, hN, hbX, hzX⟩ := (hu.next hbY).box (N := n - 1) (M := 0) (by first | rfl | assumption) (by first | rfl | assumption)
    rw [hzY] at hN
    have hbb := hb.trans ((bthen hbY hbX).mono hb.size)
    have HX := Lib.hid (HX.out.next hbb)
    have HB5 := Lib.hid (bthen HB5.out hbb)
    have Bp := Lib.hid (hP.next hbX)
    have Bq := Lib.hid hN
    have HY31 := Lib.hid hY
    have HX31 := Lib.hid hX
    clear hu hb hp hY hP hbY hzY hX hN hbX hzX hbb
    have HT1 := Lib.hid (HT.out.next HB5.out)
    have hrw := HT1.out.row.2
    rcases hrw with ⟨e, _⟩ | ⟨g, rfl, hg5, hrow⟩
    · omega
    obtain ⟨_, _, e1, _, hin2, r0, r1, ea, ec, r2, _, _, hrd⟩ := (hrow.row hrow.lt).got i hil
    cases e1
    rw [HP.out] at hin2 r0 r1 r2 hrd
    rw [HL2.out] at r2 hrd
    rw [Nat.zero_add] at r0 r1 r2
    have ii : (i : Int) < (n : Int) := by omega
    have hgl := hrow.lt
    have HPE := Lib.hid (show ∀ W, Kept X31 W → PkAt W W.heap.size (.agg #[.int .i64 p.frm, .int .i64 p.to, .slice ea L ec]) p from fun W hW => ⟨hin2, _, rfl, hrd.nxt hW.below⟩)
    have HSC := Lib.hid (show ∀ W, Kept X31 W → (W.cell? ⟨w31.heap.size, 0, none⟩ = some (.int .i64 p.frm) ∧ W.cell? ⟨w31.heap.size, 1, none⟩ = some (.int .i64 p.to) ∧ W.cell? ⟨w31.heap.size, 2, none⟩ = some (.slice pa31 L pc31)) ∧
      W.cell? ⟨g, i * 3, none⟩ = some (.int .i64 p.frm) ∧ W.cell? ⟨g, i * 3 + 1, none⟩ = some (.int .i64 p.to) ∧ W.cell? ⟨g, i * 3 + 2, none⟩ = some (.slice ea L ec) from fun W hW =>
      ⟨⟨(hW.cell Bp.out.lt).trans Bp.out.c0, (hW.cell Bp.out.lt).trans Bp.out.c1, (hW.cell Bp.out.lt).trans Bp.out.c2⟩, (hW.cell hgl).trans r0, (hW.cell hgl).trans r1, (hW.cell hgl).trans r2⟩)
    clear hrow hin2 hrd r0 r1 r2
    clear c0_HX c1_HX
    go_wp2
    rw [← HY31.out, ← HX31.out]
    have hx0 : Kept X31 X31.drew := (Kept.refl _).drew
    refine wp_region_held_drew (S := fun W => Kept X31 W) (by kernel_rfl) hx0 (fun hHeld => ?_)
    refine wpAnyH_take (i := 0) (oi := q6s0) (v := ?_) rfl (by kernel_rfl) (by kernel_rfl) (by kernel_rfl) (fun _ _ _ h => h) (Or.inl ⟨by rfl, ?_⟩) hHeld ?_
    rotate_left
    · (intro w hSw; (try dsimp only at hSw); unfold q6s0; go_simp <;> with_reducible rfl)
    try simp only [q6s0, Act.put, List.setIfInBounds_toArray, List.set_cons_zero, List.set_cons_succ]
    refine wpAnyH_take (i := 1) (oi := q6s1) (v := ?_) rfl (by kernel_rfl) (by kernel_rfl) (by kernel_rfl) (fun _ _ _ h => h) (Or.inl ⟨by rfl, ?_⟩) hHeld ?_
    rotate_left
    · (intro w hSw; (try dsimp only at hSw); unfold q6s1; go_simp <;> with_reducible rfl)
    try simp only [q6s1, Act.put, List.setIfInBounds_toArray, List.set_cons_zero, List.set_cons_succ]
    refine wpAnyH_take (i := 2) (oi := q6s2) (v := ?_) rfl (by kernel_rfl) (by kernel_rfl) (by kernel_rfl) (fun _ _ _ h => h) (Or.inl ⟨by rfl, ?_⟩) hHeld ?_
    rotate_left
    · (intro w hSw; (try dsimp only at hSw); unfold q6s2; go_simp <;> with_reducible rfl)
    try simp only [q6s2, Act.put, List.setIfInBounds_toArray, List.set_cons_zero, List.set_cons_succ]
    refine wpAnyH_take (i := 3) (oi := q6s3) (v := ?_) rfl (by kernel_rfl) (by kernel_rfl) (by kernel_rfl) (fun _ _ _ h => h) (Or.inl ⟨by rfl, ?_⟩) hHeld ?_
    rotate_left
    · (intro w hSw; obtain ⟨⟨b0, b1, b2⟩, p0, p1, p2⟩ := HSC.out _ hSw; unfold q6s3; go_simp <;> with_reducible rfl)
    try simp only [q6s3, Act.put, List.setIfInBounds_toArray, List.set_cons_zero, List.set_cons_succ]
    refine wpAnyH_take (i := 4) (oi := q6s4) (v := ?_) rfl (by kernel_rfl) (by kernel_rfl) (by kernel_rfl) (fun _ _ _ h => h) (Or.inl ⟨by rfl, ?_⟩) hHeld ?_
    rotate_left
    · (intro w hSw; (try dsimp only at hSw); unfold q6s4; go_simp <;> with_reducible rfl)
    try simp only [q6s4, Act.put, List.setIfInBounds_toArray, List.set_cons_zero, List.set_cons_succ]
    refine wpAnyH_take (i := 5) (oi := q6s5) (v := ?_) rfl (by kernel_rfl) (by kernel_rfl) (by kernel_rfl) (fun _ _ _ h => h) (Or.inl ⟨by rfl, ?_⟩) hHeld ?_
    rotate_left
    · (intro w hSw; (try dsimp only at hSw); unfold q6s5; go_simp <;> with_reducible rfl)
    try simp only [q6s5, Act.put, List.setIfInBounds_toArray, List.set_cons_zero, List.set_cons_succ]
    refine wpAnyH_take (i := 6) (oi := q6s6) (v := ?_) rfl (by kernel_rfl) (by kernel_rfl) (by kernel_rfl) (fun _ _ _ h => h) (Or.inl ⟨by rfl, ?_⟩) hHeld ?_
    rotate_left
    · (intro w hSw; (try dsimp only at hSw); unfold q6s6; go_simp <;> with_reducible rfl)
    try simp only [q6s6, Act.put, List.setIfInBounds_toArray, List.set_cons_zero, List.set_cons_succ]
    refine wpAnyH_take (i := 7) (oi := q6s7) (v := ?_) rfl (by kernel_rfl) (by kernel_rfl) (by kernel_rfl) (fun _ _ _ h => h) (Or.inl ⟨by rfl, ?_⟩) hHeld ?_
    rotate_left
    · (intro w hSw; obtain ⟨⟨b0, b1, b2⟩, p0, p1, p2⟩ := HSC.out _ hSw; unfold q6s7; go_simp <;> with_reducible rfl)
    try simp only [q6s7, Act.put, List.setIfInBounds_toArray, List.set_cons_zero, List.set_cons_succ]
    refine wpAnyH_ready (rs := [8]) (by kernel_rfl) (by simp) ?_
    refine AllReadyH.cons (o := q6s8) rfl (fun K hK => ?_) AllReadyH.nil
    rw [if_pos (by rfl)]
    unfold q6s8
    go_simp
    go_at_call 22
    refine (samePk_any X31.drew _ _ p p (Bp.out.pk.next hHeld.below) (HPE.out _ hHeld)).mono ?_
    rw [Pk.same_refl]
    rintro e w9 ⟨rfl, hb9⟩
    have hk9 : Kept X31 w9 := hHeld.next hb9
    refine hK.out _ _ hk9 (fun hHeld => ?_)
    clear hK K
    try simp only [q6s8, Act.put, List.setIfInBounds_toArray, List.set_cons_zero, List.set_cons_succ]
    refine wpAnyH_take (i := 9) (oi := q6s9) (v := ?_) rfl (by kernel_rfl) (by kernel_rfl) (by kernel_rfl) (fun _ _ _ h => h) (Or.inl ⟨by rfl, ?_⟩) hHeld ?_
    rotate_left
    · (intro w hSw; (try dsimp only at hSw); unfold q6s9; go_simp <;> with_reducible rfl)
    try simp only [q6s9, Act.put, List.setIfInBounds_toArray, List.set_cons_zero, List.set_cons_succ]
    refine wpAnyH_take (i := 10) (oi := q6s10) (v := ?_) rfl (by kernel_rfl) (by kernel_rfl) (by kernel_rfl) (fun _ _ _ h => h) (Or.inl ⟨by rfl, ?_⟩) hHeld ?_
    rotate_left
    · (intro w hSw; (try dsimp only at hSw); unfold q6s10; go_simp <;> with_reducible rfl)
    try simp only [q6s10, Act.put, List.setIfInBounds_toArray, List.set_cons_zero, List.set_cons_succ]
    refine wpAnyH_done (by kernel_rfl) ?_ _
    clear hHeld hx0 HSC HPE hb9
    have hkb := hk9.below
    have HX := Lib.hid (HX.out.next hkb)
    have Bp := Lib.hid (Bp.out.next hkb)
    have Bq := Lib.hid (Bq.out.next hkb)
    have HB5 := Lib.hid (bthen HB5.out hkb)
    clear hkb hk9
    have HT2 := Lib.hid (HT.out.next HB5.out)
    obtain ⟨qa1, qc1, aa1, ac1, hy⟩ := HT2.out.box
    rw [HFL.out] at hy
    have y0 := hy.c0
    have y1 := hy.c1
    have z0 : w9.frozen? ⟨b5, 0, none⟩ = false := hy.arr.frozen (by simp)
    have z1 : w9.frozen? ⟨b5, 1, none⟩ = false := hy.arr.frozen (by simp)
    obtain ⟨W2, hW2⟩ : ∃ W2, (w9.setCell ⟨b5, 0, none⟩ (.slice qa31 (n - 1) qc31)).setCell ⟨b5, 1, none⟩ (.slice aa31 0 ac31) = W2 := ⟨_, rfl⟩
    have hT3 : LA w b5 fe (some ⟨g, 0, none⟩) n rc fr W2 := by rw [← hW2]; exact HT2.out.over HEL.out Bq.out.nt
    have HT3 := Lib.hid hT3
    have HW2 := Lib.hid hW2
    clear hy hT3 hW2
    have c0_Bq := Bq.out.c0
    have c1_Bq := Bq.out.c1
    go_wp2
    rw [HW2.out]
    clear y0 y1 z0 z1 c0_Bq c1_Bq HW2
    have hx0 : Below w.heap.size w W2.drew := HT3.out.below.drew
    have hsl := fun W => slice_to (some ⟨g, 0, none⟩) n rc i (by have := HT3.out.le; omega) W
    have hst := fun W => slice_tail (some ⟨g, 0, none⟩) n rc i HIN.out W
    obtain ⟨A, hA⟩ : ∃ A, (if rc = i + 1 then some (⟨g, 0, none⟩ : Addr) else (some (⟨g, 0, none⟩ : Addr)).map (·.add ((i + 1) * 3))) = A := ⟨_, rfl⟩
    simp only [hA] at hst
    have wi : IntKind.i64.wrap ((i : Int) + 1) = (i : Int) + 1 := by rw [IntKind.wrap_i64]; omega
    have hrb := fun W q (hW : Below W2.heap.size W2 W) => (HT3.out.next hW).rebuild q i HIN.out (by omega) HFO.out
    simp only [hA] at hrb
    have HRB := Lib.hid hrb
    clear hrb hA
    refine wp_region_held_drew (S := fun W => Below w.heap.size w W) (by kernel_rfl) hx0 (fun hHeld => ?_)
    refine wpAnyH_take (i := 1) (oi := q6t1) (v := ?_) rfl (by kernel_rfl) (by kernel_rfl) (by kernel_rfl) (fun _ _ _ h => h) (Or.inl ⟨by rfl, ?_⟩) hHeld ?_
    rotate_left
    · (intro w hSw; (try dsimp only at hSw); unfold q6t1; go_simp <;> with_reducible rfl)
    try simp only [q6t1, Act.put, List.setIfInBounds_toArray, List.set_cons_zero, List.set_cons_succ]
    refine wpAnyH_take (i := 2) (oi := q6t2) (v := ?_) rfl (by kernel_rfl) (by kernel_rfl) (by kernel_rfl) (fun _ _ _ h => h) (Or.inl ⟨by rfl, ?_⟩) hHeld ?_
    rotate_left
    · (intro w hSw; (try dsimp only at hSw); unfold q6t2; go_simp <;> with_reducible rfl)
    try simp only [q6t2, Act.put, List.setIfInBounds_toArray, List.set_cons_zero, List.set_cons_succ]
    refine wpAnyH_take (i := 3) (oi := q6t3) (v := ?_) rfl (by kernel_rfl) (by kernel_rfl) (by kernel_rfl) (fun _ _ _ h => h) (Or.inl ⟨by rfl, ?_⟩) hHeld ?_
    rotate_left
    · (intro w hSw; (try dsimp only at hSw); unfold q6t3; go_simp <;> with_reducible rfl)
    try simp only [q6t3, Act.put, List.setIfInBounds_toArray, List.set_cons_zero, List.set_cons_succ]
    refine wpAnyH_take (i := 5) (oi := q6t5) (v := ?_) rfl (by kernel_rfl) (by kernel_rfl) (by kernel_rfl) (fun _ _ _ h => h) (Or.inl ⟨by rfl, ?_⟩) hHeld ?_
    rotate_left
    · (intro w hSw; (try dsimp only at hSw); unfold q6t5; go_simp <;> with_reducible rfl)
    try simp only [q6t5, Act.put, List.setIfInBounds_toArray, List.set_cons_zero, List.set_cons_succ]
    refine wpAnyH_take (i := 6) (oi := q6t6) (v := ?_) rfl (by kernel_rfl) (by kernel_rfl) (by kernel_rfl) (fun _ _ _ h => h) (Or.inl ⟨by rfl, ?_⟩) hHeld ?_
    rotate_left
    · (intro w hSw; (try dsimp only at hSw); unfold q6t6; go_simp <;> with_reducible rfl)
    try simp only [q6t6, Act.put, List.setIfInBounds_toArray, List.set_cons_zero, List.set_cons_succ]
    refine wpAnyH_take (i := 7) (oi := q6t7) (v := ?_) rfl (by kernel_rfl) (by kernel_rfl) (by kernel_rfl) (fun _ _ _ h => h) (Or.inl ⟨by rfl, ?_⟩) hHeld ?_
    rotate_left
    · (intro w hSw; (try dsimp only at hSw); unfold q6t7; go_simp <;> with_reducible rfl)
    try simp only [q6t7, Act.put, List.setIfInBounds_toArray, List.set_cons_zero, List.set_cons_succ]
    refine wpAnyH_take (i := 8) (oi := q6t8) (v := ?_) rfl (by kernel_rfl) (by kernel_rfl) (by kernel_rfl) (fun _ _ _ h => h) (Or.inl ⟨by rfl, ?_⟩) hHeld ?_
    rotate_left
    · (intro w hSw; (try dsimp only at hSw); unfold q6t8; go_simp <;> with_reducible rfl)
    try simp only [q6t8, Act.put, List.setIfInBounds_toArray, List.set_cons_zero, List.set_cons_succ]
    refine wpAnyH_ready (rs := [0]) (by kernel_rfl) (by simp) ?_
    refine AllReadyH.cons (o := q6t0) rfl (fun K hK => ?_) AllReadyH.nil
    rw [if_pos (by rfl)]
    refine wp_build0 22 28 (by rfl) Try.underlying22 Try.info28 ?_
    intro q W3 hb3 _
    have hw3 : Below W2.heap.size W2 W3 := (Below.drew (Below.refl _ _)).trans hb3
    obtain ⟨a1, c1, W4, hr4, hb4, a2, c2, W5, hr5, hb5w, hT5⟩ := HRB.out W3 q hw3
    have hk4 := (HT3.out.next hw3).below.trans hb4
    have hk5 := (HT3.out.next hw3).below.trans hb5w
    have HR4 := Lib.hid hr4
    have HR5 := Lib.hid hr5
    have HT5 := Lib.hid hT5
    refine hK.out _ _ (HT3.out.next hw3).below (fun hHeld => ?_)
    clear hr4 hr5 hT5 hb3 hb4 hb5w hw3
    clear hK K
    try simp only [q6t0, Act.put, List.setIfInBounds_toArray, List.set_cons_zero, List.set_cons_succ]
    refine wpAnyH_ready (rs := [4]) (by kernel_rfl) (by simp) ?_
    refine AllReadyH.cons (o := q6t4) rfl (fun K hK => ?_) AllReadyH.nil
    rw [if_pos (by rfl)]
    refine wp_app_run (.tmp 82) (.tmp 85) 22 22 rfl _ _ _ W4 (by rfl) (by rfl) HR4.out ?_
    refine hK.out _ _ hk4 (fun hHeld => ?_)
    clear hK K
    try simp only [q6t4, Act.put, List.setIfInBounds_toArray, List.set_cons_zero, List.set_cons_succ]
    refine wpAnyH_ready (rs := [9]) (by kernel_rfl) (by simp) ?_
    refine AllReadyH.cons (o := q6t9) rfl (fun K hK => ?_) AllReadyH.nil
    rw [if_pos (by rfl)]
    refine wp_app_run (.tmp 86) (.tmp 90) 22 22 rfl _ _ _ W5 (by rfl) (by rfl) HR5.out ?_
    refine hK.out _ _ hk5 (fun hHeld => ?_)
    clear hK K
    try simp only [q6t9, Act.put, List.setIfInBounds_toArray, List.set_cons_zero, List.set_cons_succ]
    refine wpAnyH_take (i := 10) (oi := q6t10) (v := ?_) rfl (by kernel_rfl) (by kernel_rfl) (by kernel_rfl) (fun _ _ _ h => h) (Or.inl ⟨by rfl, ?_⟩) hHeld ?_
    rotate_left
    · (intro w hSw; (try dsimp only at hSw); unfold q6t10; go_simp <;> with_reducible rfl)
    try simp only [q6t10, Act.put, List.setIfInBounds_toArray, List.set_cons_zero, List.set_cons_succ]
    refine wpAnyH_done (by kernel_rfl) ?_ _
    clear hHeld hx0 hk4 hk5 HRB hsl hst
    have hft := HT5.out
    rw [HFE.out] at hft
    go_wp2
    go_roundw
    case rel => exact ⟨j + 1, n - 1, c2, a2, fe, rfl, by go_num, by omega, HFO.out, hft⟩
    case measure => show n - 1 < n; omega
end Go.Proofs.Ytjancbjjeemedaa
