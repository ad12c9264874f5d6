/- What happens: one move. -/
import Derived.Test.YtjancbjjeemedaaMvs
import Derived.Test.YtjancbjjeemedaaRwp
import Derived.Deep.CutRange
import Derived.Deep.QuietTactic
namespace Go.Proofs.Ytjancbjjeemedaa
open Go.RowKit

def Nt.cutE (n : Nt) (a b : Int) (on : Bool) : Nt × Int := if okPair a b then (n.cut (lo2 a b, hi2 a b) on, 0) else (Nt.zero, 1)
theorem cutE_any (w : World) (v : Value) (n : Nt) (h : NtAt w w.heap.size v n) (hok : n.ok = true) (a b : Int) (hl : n.ap.length ≤ 900) (on : Bool) :
    Calls Try.prog 18 #[v, .int .i64 a, .int .i64 b, .bool on] w fun e w' => ∃ v', e = .returned (.tuple #[v', .int .i64 (n.cutE a b on).2]) ∧ NtAt w' w'.heap.size v' (n.cutE a b on).1 ∧ Below w.heap.size w w' := by
  unfold Nt.cutE
  cases hab : okPair a b with
  | true => rw [if_pos rfl]; exact cut_any w v n h hok a b hab hl on
  | false =>
    rw [if_neg (by simp)]
    exact (cut_bad w v n h hok a b hab on).mono fun e w' ⟨h1, h2⟩ => ⟨_, h1, zero_at _ _, h2⟩
/-- The place of a packet that a move speaks of. -/
def Nt.idx (n : Nt) (m : Mv) : Nat := if n.q.length = 0 then 0 else m.at_.toNat % n.q.length
def Nt.hap (n : Nt) (m : Mv) : (Nt × Pk) × Int :=
  match m.kind.toNat % 6 with
  | 0 => (((n.send ⟨((m.a.toNat % 24 : Nat) : Int), ((m.b.toNat % 24 : Nat) : Int), [m.data]⟩).1, Pk.zero), (n.send ⟨((m.a.toNat % 24 : Nat) : Int), ((m.b.toNat % 24 : Nat) : Int), [m.data]⟩).2)
  | 1 => ((n.lose (n.idx m : Nat), n.pick (n.idx m : Nat)), n.err (n.idx m : Nat))
  | 2 => ((n.lose (n.idx m : Nat), Pk.zero), n.err (n.idx m : Nat))
  | 3 => (((n.rpt (n.idx m : Nat)).1, Pk.zero), (n.rpt (n.idx m : Nat)).2)
  | 4 => (((n.cutE ((m.a.toNat % 24 : Nat) : Int) ((m.b.toNat % 24 : Nat) : Int) true).1, Pk.zero), (n.cutE ((m.a.toNat % 24 : Nat) : Int) ((m.b.toNat % 24 : Nat) : Int) true).2)
  | _ => (((n.cutE ((m.a.toNat % 24 : Nat) : Int) ((m.b.toNat % 24 : Nat) : Int) false).1, Pk.zero), (n.cutE ((m.a.toNat % 24 : Nat) : Int) ((m.b.toNat % 24 : Nat) : Int) false).2)

/-- What the function's own blocks hold at its end. -/
structure HEnd (w : World) (b4 b5 : Nat) (x : Nt) (p : Pk) (W : World) : Prop where
  below : Below w.heap.size w W
  net : ∃ (qa : Option Addr) (qc : Nat) (aa : Option Addr) (ac : Nat), Arr W b4 [.slice qa x.q.length qc, .slice aa x.ap.length ac] ∧ NtAt W W.heap.size (.agg #[.slice qa x.q.length qc, .slice aa x.ap.length ac]) x
  pk : ∃ (da : Option Addr) (dc : Nat), Arr W b5 [.int .i64 p.frm, .int .i64 p.to, .slice da p.data.length dc] ∧ PkAt W W.heap.size (.agg #[.int .i64 p.frm, .int .i64 p.to, .slice da p.data.length dc]) p

theorem lose_okq {n : Nt} (h : n.ok = true) (z : Int) : ∀ p ∈ (n.lose z).q, okPk p = true := fun p hp => by
  unfold Nt.lose at hp
  split at hp
  · exact (ok_parts h).2.1 p (List.mem_of_mem_eraseIdx hp)
  · simp [Nt.zero] at hp
theorem lose_oka {n : Nt} (h : n.ok = true) (z : Int) : ∀ p ∈ (n.lose z).ap, p.1 ≠ p.2 := fun p hp => by
  unfold Nt.lose at hp
  split at hp
  · have := (okA_pw (ok_parts h).2.2).2 p hp
    rw [okOne_iff] at this; omega
  · simp [Nt.zero] at hp
theorem hend_net {w W1 : World} {b4 b5 N qc M ac L dc : Nat} {qa aa da : Option Addr} {X Y : Int} {x : Nt} {p : Pk} (hw : Below w.heap.size w W1) (hlo : w.heap.size ≤ b4) (h4 : Arr W1 b4 [.slice none 0 0, .slice none 0 0]) (s4 : SlB W1 b4) (hne : b4 ≠ b5)
    (h5 : Arr W1 b5 [.int .i64 X, .int .i64 Y, .slice da L dc]) (hx : p.frm = X) (hy : p.to = Y) (hL : p.data.length = L) (hp : PkAt W1 W1.heap.size (.agg #[.int .i64 X, .int .i64 Y, .slice da L dc]) p)
    (hn : NtAt W1 W1.heap.size (.agg #[.slice qa N qc, .slice aa M ac]) x) (hN : x.q.length = N) (hM : x.ap.length = M) : HEnd w b4 b5 x p ((W1.setCell ⟨b4, 0, none⟩ (.slice qa N qc)).setCell ⟨b4, 1, none⟩ (.slice aa M ac)) := by
  subst hN; subst hM; subst hx; subst hy; subst hL
  have hz : ((W1.setCell ⟨b4, 0, none⟩ (.slice qa x.q.length qc)).setCell ⟨b4, 1, none⟩ (.slice aa x.ap.length ac)).heap.size = W1.heap.size := by simp
  have s4' := s4.set (h4.cell (i := 0) rfl) qa x.q.length qc
  refine ⟨(hw.setCell (p := ⟨b4, 0, none⟩) hlo _).setCell (p := ⟨b4, 1, none⟩) hlo _, ⟨qa, qc, aa, ac, (h4.set 0 _).set 1 _, ?_⟩, ⟨da, dc, (h5.other (fun e => hne e.symm) 0 _).other (fun e => hne e.symm) 1 _, ?_⟩⟩
  · rw [hz]; exact (hn.apart s4 _).apart s4' _
  · obtain ⟨h0, u, e, hd⟩ := hp
    refine ⟨h0, u, e, ?_⟩
    rw [hz]; exact (hd.apart s4.noU8 _).apart s4'.noU8 _

def q27p0 : Oper := { dst := some 88, op := Go.Op.load 25 (Go.Operand.tmp 4), type := 25, pos := "law.go:102", after := #[], guard := none }
def q27p1 : Oper := { dst := some 89, op := Go.Op.load 28 (Go.Operand.tmp 5), type := 28, pos := "law.go:102", after := #[{ on := 3, ground := Go.Ground.gcOnly Go.Departure.lateStores }], guard := none }
def q27p2 : Oper := { dst := some 90, op := Go.Op.move (Go.Operand.tmp 6), type := 31, pos := "law.go:102", after := #[{ on := 4, ground := Go.Ground.gcOnly Go.Departure.lateStores }], guard := none }
def q27p3 : Oper := { dst := none, op := Go.Op.store 25 (Go.Operand.tmp 4) (Go.Operand.tmp 88), type := 0, pos := "law.go:102", after := #[{ on := 0, ground := Go.Ground.data }, { on := 0, ground := Go.Ground.phase }, { on := 1, ground := Go.Ground.textOnly Go.Departure.lateStores }, { on := 2, ground := Go.Ground.textOnly Go.Departure.lateStores }], guard := none }
def q27p4 : Oper := { dst := none, op := Go.Op.store 28 (Go.Operand.tmp 5) (Go.Operand.tmp 89), type := 0, pos := "law.go:102", after := #[{ on := 1, ground := Go.Ground.data }, { on := 3, ground := Go.Ground.chain }, { on := 0, ground := Go.Ground.phase }, { on := 1, ground := Go.Ground.phase }, { on := 2, ground := Go.Ground.textOnly Go.Departure.lateStores }, { on := 3, ground := Go.Ground.phase }], guard := none }
def q27p5 : Oper := { dst := some 6, op := Go.Op.assign (Go.Operand.tmp 90), type := 31, pos := "law.go:102", after := #[{ on := 2, ground := Go.Ground.data }, { on := 4, ground := Go.Ground.chain }, { on := 0, ground := Go.Ground.phase }, { on := 1, ground := Go.Ground.phase }, { on := 2, ground := Go.Ground.phase }, { on := 3, ground := Go.Ground.phase }, { on := 4, ground := Go.Ground.phase }], guard := none }
theorem HEnd.open {w Y : World} {b4 b5 : Nat} {x : Nt} {p : Pk} (h : HEnd w b4 b5 x p Y) : ∃ (qa : Option Addr) (N qc : Nat) (aa : Option Addr) (M ac : Nat) (X Z : Int) (da : Option Addr) (L dc : Nat), ∀ W, Kept Y W →
    (W.cell? ⟨b4, 0, none⟩ = some (.slice qa N qc) ∧ W.cell? ⟨b4, 1, none⟩ = some (.slice aa M ac) ∧ W.cell? ⟨b5, 0, none⟩ = some (.int .i64 X) ∧ W.cell? ⟨b5, 1, none⟩ = some (.int .i64 Z) ∧ W.cell? ⟨b5, 2, none⟩ = some (.slice da L dc)) ∧
    (W.frozen? ⟨b4, 0, none⟩ = false ∧ W.frozen? ⟨b4, 1, none⟩ = false ∧ W.frozen? ⟨b5, 0, none⟩ = false ∧ W.frozen? ⟨b5, 1, none⟩ = false ∧ W.frozen? ⟨b5, 2, none⟩ = false) ∧
    NtAt W W.heap.size (.agg #[.slice qa N qc, .slice aa M ac]) x ∧ PkAt W W.heap.size (.agg #[.int .i64 X, .int .i64 Z, .slice da L dc]) p ∧ Below w.heap.size w W := by
  obtain ⟨h1, ⟨qa, qc, aa, ac, h4, hn⟩, da, dc, h5, hp⟩ := h
  refine ⟨qa, x.q.length, qc, aa, x.ap.length, ac, p.frm, p.to, da, p.data.length, dc, fun W hW => ?_⟩
  have k4 := h4.keep hW (h4.lt (by simp))
  have k5 := h5.keep hW (h5.lt (by simp))
  exact ⟨⟨k4.cell rfl, k4.cell rfl, k5.cell rfl, k5.cell rfl, k5.cell rfl⟩, ⟨k4.frozen (by simp), k4.frozen (by simp), k5.frozen (by simp), k5.frozen (by simp), k5.frozen (by simp)⟩, hn.next hW.below, hp.next hW.below, bthen h1 hW.below⟩

set_option maxRecDepth 100000 in
set_option maxHeartbeats 32000000 in
theorem hap_any (w : World) (v : Value) (n : Nt) (h : NtAt w w.heap.size v n) (hok : n.ok = true) (hl : n.ap.length ≤ 900) (m : Mv) : Calls Try.prog 27 #[v, .agg (mcells m).toArray] w fun e w' => ∃ v' vp, e = .returned (.tuple #[v', vp, .int .i64 (n.hap m).2]) ∧ NtAt w' w'.heap.size v' (n.hap m).1.1 ∧ PkAt w' w'.heap.size vp (n.hap m).1.2 ∧ Below w.heap.size w w' := by
  have H := Lib.hid h
  obtain ⟨qa, qc, aa, ac, rfl, l1, l2, l3, l4, hq, ha⟩ := h.open
  have hidx : n.idx m = if n.q.length = 0 then 0 else m.at_.toNat % n.q.length := rfl
  obtain ⟨N, hN⟩ : ∃ x, n.q.length = x := ⟨_, rfl⟩
  obtain ⟨M, hM⟩ : ∃ x, n.ap.length = x := ⟨_, rfl⟩
  rw [hN] at l1 H hidx ⊢
  rw [hM] at l3 H hl ⊢
  obtain ⟨I, hI⟩ : ∃ x, n.idx m = x := ⟨_, rfl⟩
  rw [hI] at hidx
  have hN4 : N ≤ 4096 := by rw [← hN]; exact (ok_parts hok).1
  unfold maxLen at l2 l4
  have HOK := Lib.hid hok
  have HMl := Lib.hid hM
  have hu : ∀ x : UInt8, x.toNat < 256 := fun x => UInt8.toNat_lt x
  obtain ⟨kk, hkk⟩ : ∃ x, m.kind.toNat = x := ⟨_, rfl⟩
  obtain ⟨ka, hka⟩ : ∃ x, m.at_.toNat = x := ⟨_, rfl⟩
  obtain ⟨kA, hkA⟩ : ∃ x, m.a.toNat = x := ⟨_, rfl⟩
  obtain ⟨kB, hkB⟩ : ∃ x, m.b.toNat = x := ⟨_, rfl⟩
  have hk1 : kk < 256 := by rw [← hkk]; exact hu _
  have hk2 : ka < 256 := by rw [← hka]; exact hu _
  have hk3 : kA < 256 := by rw [← hkA]; exact hu _
  have hk4 : kB < 256 := by rw [← hkB]; exact hu _
  have hres : n.hap m = n.hap m := rfl
  obtain ⟨R, hR⟩ : ∃ R, n.hap m = R := ⟨_, rfl⟩
  rw [hR]
  unfold Nt.hap at hR
  rw [hkk, hkA, hkB, hI] at hR
  unfold mcells
  rw [hkk, hka, hkA, hkB]
  rw [hka] at hidx
  obtain ⟨dt, hdt⟩ : ∃ x, m.data = x := ⟨_, rfl⟩
  rw [hdt] at hR ⊢
  obtain ⟨kD, hkD⟩ : ∃ x, dt.toNat = x := ⟨_, rfl⟩
  rw [hkD]
  obtain ⟨A, hA⟩ : ∃ x, kA % 24 = x := ⟨_, rfl⟩
  obtain ⟨B, hB⟩ : ∃ x, kB % 24 = x := ⟨_, rfl⟩
  rw [hA, hB] at hR
  have hA24 : A < 24 := by omega
  have hB24 : B < 24 := by omega
  have mA : (kA : Int).tmod 24 = (A : Int) := by rw [Int.tmod_eq_emod_of_nonneg (by omega)]; omega
  have mB : (kB : Int).tmod 24 = (B : Int) := by rw [Int.tmod_eq_emod_of_nonneg (by omega)]; omega
  have mA2 : (kA : Int) % 24 = (A : Int) := by omega
  have mB2 : (kB : Int) % 24 = (B : Int) := by omega
  obtain ⟨k, hk⟩ : ∃ x, kk % 6 = x := ⟨_, rfl⟩
  have mk : (kk : Int).tmod 6 = (k : Int) := by rw [Int.tmod_eq_emod_of_nonneg (by omega)]; omega
  have mk2 : (kk : Int) % 6 = (k : Int) := by omega
  have hk6 : k < 6 := by rw [← hk]; exact Nat.mod_lt _ (by omega)
  rw [hk] at hR
  clear h hq ha hok hN hM hI hkk hka hkA hkB hA hB hk hu hres hdt
  obtain ⟨w3, hw3⟩ : ∃ X, (((w.alloc (Obj.cells #[.slice qa N qc, .slice aa M ac] 25)).alloc (Obj.cells #[.int .u8 kk, .int .u8 ka, .int .u8 kA, .int .u8 kB, .int .u8 kD] 49)).alloc (Obj.cells #[.slice none 0 0, .slice none 0 0] 25)).alloc (Obj.cells #[.int .i64 0, .int .i64 0, .slice none 0 0] 28) = X := ⟨_, rfl⟩
  have hb3 : Below w.heap.size w w3 := by rw [← hw3]; go_grown
  obtain ⟨X0, hX0⟩ : ∃ X, w.alloc (Obj.cells #[.slice qa N qc, .slice aa M ac] 25) = X := ⟨_, rfl⟩
  obtain ⟨X1, hX1⟩ : ∃ X, X0.alloc (Obj.cells #[.int .u8 kk, .int .u8 ka, .int .u8 kA, .int .u8 kB, .int .u8 kD] 49) = X := ⟨_, rfl⟩
  obtain ⟨X2, hX2⟩ : ∃ X, X1.alloc (Obj.cells #[.slice none 0 0, .slice none 0 0] 25) = X := ⟨_, rfl⟩
  have hw3' : X2.alloc (Obj.cells #[.int .i64 0, .int .i64 0, .slice none 0 0] 28) = w3 := by rw [← hX2, ← hX1, ← hX0]; exact hw3
  have hz0 : X0.heap.size = w.heap.size + 1 := by rw [← hX0, World.size_alloc]
  have hz1 : X1.heap.size = w.heap.size + 1 + 1 := by rw [← hX1, World.size_alloc, hz0]
  have hz2 : X2.heap.size = w.heap.size + 1 + 1 + 1 := by rw [← hX2, World.size_alloc, hz1]
  have hz3 : w3.heap.size = w.heap.size + 1 + 1 + 1 + 1 := by rw [← hw3', World.size_alloc, hz2]
  have q23 : Below X2.heap.size X2 w3 := by rw [← hw3']; exact (Below.refl _ _).alloc (Nat.le_refl _) _
  have q12 : Below X1.heap.size X1 w3 := Below.trans (by rw [← hX2]; exact (Below.refl _ _).alloc (Nat.le_refl _) _) (q23.mono (by omega))
  have q02 : Below X0.heap.size X0 w3 := Below.trans (by rw [← hX1]; exact (Below.refl _ _).alloc (Nat.le_refl _) _) (q12.mono (by omega))
  have A2 : Arr w3 w.heap.size [.slice qa N qc, .slice aa M ac] := Arr.below (by rw [← hX0]; exact Arr.new w #[.slice qa N qc, .slice aa M ac] 25) q02 (by omega)
  have A3 : Arr w3 (w.heap.size + 1) [.int .u8 kk, .int .u8 ka, .int .u8 kA, .int .u8 kB, .int .u8 kD] := by
    have h1 : Arr X1 (w.heap.size + 1) [.int .u8 kk, .int .u8 ka, .int .u8 kA, .int .u8 kB, .int .u8 kD] := by rw [← hX1, ← hz0]; exact Arr.new X0 #[.int .u8 kk, .int .u8 ka, .int .u8 kA, .int .u8 kB, .int .u8 kD] 49
    exact h1.below q12 (by omega)
  have A4 : Arr w3 (w.heap.size + 1 + 1) [.slice none 0 0, .slice none 0 0] := by
    have h1 : Arr X2 (w.heap.size + 1 + 1) [.slice none 0 0, .slice none 0 0] := by rw [← hX2, ← hz1]; exact Arr.new X1 #[.slice none 0 0, .slice none 0 0] 25
    exact h1.below q23 (by omega)
  have S4 : SlB w3 (w.heap.size + 1 + 1) := by
    have h1 : SlB X2 (w.heap.size + 1 + 1) := by rw [← hX2, ← hz1]; exact SlB.new X1 none none 0 0 0 0 25
    exact h1.below q23 (by omega)
  have A5 : Arr w3 (w.heap.size + 1 + 1 + 1) [.int .i64 0, .int .i64 0, .slice none 0 0] := by rw [← hw3', ← hz2]; exact Arr.new X2 #[.int .i64 0, .int .i64 0, .slice none 0 0] 28
  have R5 : RowP w3 w3.heap.size (w.heap.size + 1 + 1 + 1) 0 1 [] := ⟨rfl, by omega, by unfold maxLen; omega, #[.int .i64 0, .int .i64 0, .slice none 0 0], [], by rw [← hw3', ← hz2]; exact heap_alloc_new X2 _, by simp [Builtin.zeroCells, zpk]; kernel_rfl, QCells.nil _ _⟩
  have HW3 := Lib.hid hw3
  have HA2 := Lib.hid A2
  have HA3 := Lib.hid A3
  have HA4 := Lib.hid A4
  have HA5 := Lib.hid A5
  have HS4 := Lib.hid S4
  have HR5 := Lib.hid R5
  have HB3 := Lib.hid hb3
  have HN3 : Hid (NtAt w3 w3.heap.size (.agg #[.slice qa N qc, .slice aa M ac]) n) := Lib.hid (H.out.next hb3)
  have c20 : w3.cell? ⟨w.heap.size, 0, none⟩ = some (.slice qa N qc) := A2.cell rfl
  have c21 : w3.cell? ⟨w.heap.size, 1, none⟩ = some (.slice aa M ac) := A2.cell rfl
  have c30 : w3.cell? ⟨w.heap.size + 1, 0, none⟩ = some (.int .u8 kk) := A3.cell rfl
  have c31 : w3.cell? ⟨w.heap.size + 1, 1, none⟩ = some (.int .u8 ka) := A3.cell rfl
  have c32 : w3.cell? ⟨w.heap.size + 1, 2, none⟩ = some (.int .u8 kA) := A3.cell rfl
  have c33 : w3.cell? ⟨w.heap.size + 1, 3, none⟩ = some (.int .u8 kB) := A3.cell rfl
  have c34 : w3.cell? ⟨w.heap.size + 1, 4, none⟩ = some (.int .u8 kD) := A3.cell rfl
  rw [← HW3.out] at c20 c21 c30 c31 c32 c33 c34
  clear hw3 hb3 hX0 hX1 hX2 hw3' q23 q12 q02 A2 A3 A4 A5 S4 R5 hz0 hz1 hz2 H
  go_enter Try.func27, Try.ntmps27
  go_upto_if 13 with (fail)
  rw [HW3.out] at c20 c21 c30 c31 c32 c33 c34 ⊢
  go_cut [7] from 14 (fun v7 wx => v7 = .int .i64 (I : Int) ∧ wx = w3)
  case first =>
    by_cases hN0 : N = 0
    · rw [if_pos hN0] at hidx
      subst hN0
      subst hidx
      go_wp2
      go_meet
      case rel => exact ⟨rfl, rfl⟩
    · rw [if_neg hN0] at hidx
      have d1 : ((N : Int) == 0) = false := by simp; omega
      have d2 : decide ((0 : Int) < (N : Int)) = true := by simp; omega
      have d3 : ¬ (N : Int) = 0 := by omega
      have d4 : decide (0 < N) = true := by simp; omega
      have hmod : (ka : Int).tmod (N : Int) = (I : Int) := by rw [Int.tmod_eq_emod_of_nonneg (by omega), hidx]; omega
      have hmod2 : (ka : Int) % (N : Int) = (I : Int) := by rw [hidx]; omega
      clear hidx
      go_wp2
      go_meet
      case rel => exact ⟨rfl, rfl⟩
  case rest =>
    obtain ⟨rfl, rfl⟩ := hcut
    clear hidx
    go_wp2
    go_quiet (fail)
    obtain ⟨X, hX⟩ : ∃ X, wc.drewN nq = X := ⟨_, rfl⟩
    have hbx : Below wc.heap.size wc X := by rw [← hX]; exact below_drewN (Below.refl _ _) _
    have hxs := hbx.size
    have HBX := Lib.hid (bthen HB3.out hbx)
    have HA2 := Lib.hid (HA2.out.below hbx (by omega))
    have HA3 := Lib.hid (HA3.out.below hbx (by omega))
    have HA4 := Lib.hid (HA4.out.below hbx (by omega))
    have HA5 := Lib.hid (HA5.out.below hbx (by omega))
    have HS4 := Lib.hid (HS4.out.below hbx (by omega))
    have HR5 := Lib.hid (HR5.out.next hbx)
    have HNX := Lib.hid (HN3.out.next hbx)
    have x20 : X.cell? ⟨w.heap.size, 0, none⟩ = some (.slice qa N qc) := HA2.out.cell rfl
    have x21 : X.cell? ⟨w.heap.size, 1, none⟩ = some (.slice aa M ac) := HA2.out.cell rfl
    have x30 : X.cell? ⟨w.heap.size + 1, 0, none⟩ = some (.int .u8 kk) := HA3.out.cell rfl
    have x34 : X.cell? ⟨w.heap.size + 1, 4, none⟩ = some (.int .u8 kD) := HA3.out.cell rfl
    rw [hX]
    clear hX hbx c20 c21 c30 c31 c32 c33 c34 mA mB mA2 mB2 HB3 HN3 HW3
    go_upto_if 32 with (fail)
    have h6 : k = 0 ∨ k = 1 ∨ k = 2 ∨ k = 3 ∨ k = 4 ∨ k = 5 := by omega
    clear hk6
    rcases h6 with rfl | rfl | rfl | rfl | rfl | rfl
    · have HR0 := Lib.hid hR
      clear hR
      obtain ⟨X1, hX1⟩ : ∃ Z, X.alloc (.cells #[.int .u8 kD] 5) = Z := ⟨_, rfl⟩
      have HBASE : Below X.heap.size X X1 := by rw [← hX1]; go_grown
      have HBASEs := HBASE.size
      have hby : BytesAt X1 X1.heap.size (.slice (some ⟨X.heap.size, 0, none⟩) 1 1) [dt] := by
        rw [← hX1]
        have := (Arr.new X #[.int .u8 kD] 5)
        rw [← hkD] at this ⊢
        exact Arr.bytesAt (l := [dt]) this rfl (by simp) (Nat.le_refl _) (by unfold maxLen; omega)
      have hinA : In64 (A : Int) := ⟨by omega, by omega⟩
      have hinB : In64 (B : Int) := ⟨by omega, by omega⟩
      have hpk : PkAt X1 X1.heap.size (.agg #[.int .i64 A, .int .i64 B, .slice (some ⟨X.heap.size, 0, none⟩) 1 1]) ⟨(A : Int), (B : Int), [dt]⟩ := ⟨⟨hinA, hinB⟩, _, rfl, hby⟩
      have HPK := Lib.hid hpk
      have HX1 := Lib.hid hX1
      obtain ⟨N9, hN9⟩ : ∃ x, ((n.send ⟨(A : Int), (B : Int), [dt]⟩).1).q.length = x := ⟨_, rfl⟩
      obtain ⟨M9, hM9⟩ : ∃ x, ((n.send ⟨(A : Int), (B : Int), [dt]⟩).1).ap.length = x := ⟨_, rfl⟩
      clear hX1 hby hpk
      go_wp2_with fail
      rw [HX1.out]
      refine (send_any X1 _ n (HNX.out.next HBASE) _ ⟨(A : Int), (B : Int), [dt]⟩ HPK.out).mono ?_
      rintro e W1 ⟨v', rfl, hu, hb1⟩
      obtain ⟨qa9, qc9, aa9, ac9, rfl, _⟩ := hu.parts (N := N9) (M := M9) hN9 hM9
      have hB1 : Below X.heap.size X W1 := HBASE.trans (hb1.mono HBASEs)
      have hs1 := hB1.size
      have h4 := HA4.out.below hB1 (by omega)
      have h5 := HA5.out.below hB1 (by omega)
      have e40 : W1.cell? ⟨w.heap.size + 1 + 1, 0, none⟩ = some (.slice none 0 0) := h4.cell rfl
      have e41 : W1.cell? ⟨w.heap.size + 1 + 1, 1, none⟩ = some (.slice none 0 0) := h4.cell rfl
      have f40 : W1.frozen? ⟨w.heap.size + 1 + 1, 0, none⟩ = false := h4.frozen (by simp)
      have f41 : W1.frozen? ⟨w.heap.size + 1 + 1, 1, none⟩ = false := h4.frozen (by simp)
      have HE := Lib.hid (hend_net (p := Pk.zero) (bthen HBX.out hB1) (by omega) h4 (HS4.out.below hB1 (by omega)) (by omega) h5 rfl rfl rfl (pk_zero _ _) hu hN9 hM9)
      clear hu hb1 hB1 h4 h5
      obtain ⟨Y, hY⟩ : ∃ Z, (W1.setCell ⟨w.heap.size + 1 + 1, 0, none⟩ (.slice qa9 N9 qc9)).setCell ⟨w.heap.size + 1 + 1, 1, none⟩ (.slice aa9 M9 ac9) = Z := ⟨_, rfl⟩
      have hE := HE.out
      rw [hY] at hE
      obtain ⟨qar, Nr, qcr, aar, Mr, acr, xr, zr, dar, Lr, dcr, hEO⟩ := hE.open
      have HEO := Lib.hid hEO
      have HYY := Lib.hid hY
      have hx0 : Kept Y Y.drew := (Kept.refl _).drew
      clear hE hEO hY HE
      go_wp2_with fail
      rw [HYY.out]
      refine wp_region_held_drew (S := fun W => Kept Y W) (by kernel_rfl) hx0 (fun hHeld => ?_)
      refine wpAnyH_take (i := 0) (oi := q27p0) (v := ?_) rfl (by kernel_rfl) (by kernel_rfl) (by kernel_rfl) (fun _ _ _ h => h) (Or.inl ⟨by rfl, ?_⟩) hHeld ?_
      rotate_left
      · (intro w hSw; obtain ⟨⟨s40, s41, s50, s51, s52⟩, _⟩ := HEO.out _ hSw; unfold q27p0; go_simp <;> with_reducible rfl)
      try simp only [q27p0, Act.put, List.setIfInBounds_toArray, List.set_cons_zero, List.set_cons_succ]
      refine wpAnyH_take (i := 1) (oi := q27p1) (v := ?_) rfl (by kernel_rfl) (by kernel_rfl) (by kernel_rfl) (fun _ _ _ h => h) (Or.inl ⟨by rfl, ?_⟩) hHeld ?_
      rotate_left
      · (intro w hSw; obtain ⟨⟨s40, s41, s50, s51, s52⟩, _⟩ := HEO.out _ hSw; unfold q27p1; go_simp <;> with_reducible rfl)
      try simp only [q27p1, Act.put, List.setIfInBounds_toArray, List.set_cons_zero, List.set_cons_succ]
      refine wpAnyH_take (i := 2) (oi := q27p2) (v := ?_) rfl (by kernel_rfl) (by kernel_rfl) (by kernel_rfl) (fun _ _ _ h => h) (Or.inl ⟨by rfl, ?_⟩) hHeld ?_
      rotate_left
      · (intro w hSw; (try dsimp only at hSw); unfold q27p2; go_simp <;> with_reducible rfl)
      try simp only [q27p2, Act.put, List.setIfInBounds_toArray, List.set_cons_zero, List.set_cons_succ]
      refine wpAnyH_ready (rs := [3]) (by kernel_rfl) (by simp) ?_
      refine AllReadyH.cons (o := q27p3) rfl (fun K hK => ?_) AllReadyH.nil
      rw [if_pos (by rfl)]
      unfold q27p3
      obtain ⟨⟨s40, s41, s50, s51, s52⟩, ⟨t40, t41, t50, t51, t52⟩, hntE, hpkE, hbE⟩ := HEO.out _ hHeld
      obtain ⟨⟨y40, y41, y50, y51, y52⟩, ⟨z40, z41, z50, z51, z52⟩, _⟩ := HEO.out Y (Kept.refl Y)
      go_simp
      rw [setCell_id y40, setCell_id y41]
      refine hK.out _ _ hHeld (fun hHeld => ?_)
      clear s40 s41 s50 s51 s52 t40 t41 t50 t51 t52 hntE hpkE hbE y40 y41 y50 y51 y52 z40 z41 z50 z51 z52
      clear hK K
      try simp only [q27p3, Act.put]
      refine wpAnyH_ready (rs := [4]) (by kernel_rfl) (by simp) ?_
      refine AllReadyH.cons (o := q27p4) rfl (fun K hK => ?_) AllReadyH.nil
      rw [if_pos (by rfl)]
      unfold q27p4
      obtain ⟨⟨s40, s41, s50, s51, s52⟩, ⟨t40, t41, t50, t51, t52⟩, hntE, hpkE, hbE⟩ := HEO.out _ hHeld
      obtain ⟨⟨y40, y41, y50, y51, y52⟩, ⟨z40, z41, z50, z51, z52⟩, _⟩ := HEO.out Y (Kept.refl Y)
      go_simp
      rw [setCell_id y50, setCell_id y51, setCell_id y52]
      refine hK.out _ _ hHeld (fun hHeld => ?_)
      clear s40 s41 s50 s51 s52 t40 t41 t50 t51 t52 hntE hpkE hbE y40 y41 y50 y51 y52 z40 z41 z50 z51 z52
      clear hK K
      try simp only [q27p4, Act.put]
      refine wpAnyH_take (i := 5) (oi := q27p5) (v := ?_) rfl (by kernel_rfl) (by kernel_rfl) (by kernel_rfl) (fun _ _ _ h => h) (Or.inl ⟨by rfl, ?_⟩) hHeld ?_
      rotate_left
      · (intro w hSw; (try dsimp only at hSw); unfold q27p5; go_simp <;> with_reducible rfl)
      try simp only [q27p5, Act.put, List.setIfInBounds_toArray, List.set_cons_zero, List.set_cons_succ]
      refine wpAnyH_done (by kernel_rfl) ?_ _
      obtain ⟨⟨s40, s41, s50, s51, s52⟩, ⟨t40, t41, t50, t51, t52⟩, hntE, hpkE, hbE⟩ := HEO.out _ hHeld
      obtain ⟨⟨y40, y41, y50, y51, y52⟩, ⟨z40, z41, z50, z51, z52⟩, _⟩ := HEO.out Y (Kept.refl Y)
      go_wp2_with fail
      refine bodyPost_ret (v := .tuple #[.agg #[.slice qar Nr qcr, .slice aar Mr acr], .agg #[.int .i64 xr, .int .i64 zr, .slice dar Lr dcr], .int .i64 (n.send ⟨(A : Int), (B : Int), [dt]⟩).2]) (by simp [results, Try.results27, go_sem, y40, y41, y50, y51, y52]) rfl ?_
      rw [← HR0.out]
      exact ⟨_, _, rfl, hntE, hpkE, hbE⟩
    · have HR0 := Lib.hid hR
      clear hR
      have HBASEs := Nat.le_refl X.heap.size
      have HBASE := Below.refl X.heap.size X
      obtain ⟨N9, hN9⟩ : ∃ x, (n.lose (I : Int)).q.length = x := ⟨_, rfl⟩
      obtain ⟨M9, hM9⟩ : ∃ x, (n.lose (I : Int)).ap.length = x := ⟨_, rfl⟩
      obtain ⟨px, hpx⟩ : ∃ x, (n.pick (I : Int)).frm = x := ⟨_, rfl⟩
      obtain ⟨py, hpy⟩ : ∃ x, (n.pick (I : Int)).to = x := ⟨_, rfl⟩
      obtain ⟨pl, hpl⟩ : ∃ x, (n.pick (I : Int)).data.length = x := ⟨_, rfl⟩
      go_wp2_with fail
      refine (dlv_any X _ n HNX.out (I : Int)).mono ?_
      rintro e W1 ⟨vp, v', rfl, hp, hu, hb1⟩
      obtain ⟨pa9, pc9, rfl, hin9, _, _, hpd⟩ := hp.parts hpx hpy hpl
      obtain ⟨qa9, qc9, aa9, ac9, rfl, _⟩ := hu.parts (N := N9) (M := M9) hN9 hM9
      have hB1 : Below X.heap.size X W1 := HBASE.trans (hb1.mono HBASEs)
      have hs1 := hB1.size
      have h4 := HA4.out.below hB1 (by omega)
      have h5 := HA5.out.below hB1 (by omega)
      have r5 := HR5.out.next hB1
      have e50 : W1.cell? ⟨w.heap.size + 1 + 1 + 1, 0, none⟩ = some (.int .i64 0) := h5.cell rfl
      have e51 : W1.cell? ⟨w.heap.size + 1 + 1 + 1, 1, none⟩ = some (.int .i64 0) := h5.cell rfl
      have e52 : W1.cell? ⟨w.heap.size + 1 + 1 + 1, 2, none⟩ = some (.slice none 0 0) := h5.cell rfl
      have f50 : W1.frozen? ⟨w.heap.size + 1 + 1 + 1, 0, none⟩ = false := h5.frozen (by simp)
      have f51 : W1.frozen? ⟨w.heap.size + 1 + 1 + 1, 1, none⟩ = false := h5.frozen (by simp)
      have f52 : W1.frozen? ⟨w.heap.size + 1 + 1 + 1, 2, none⟩ = false := h5.frozen (by simp)
      obtain ⟨W2, hW2⟩ : ∃ Z, ((W1.setCell ⟨w.heap.size + 1 + 1 + 1, 0, none⟩ (.int .i64 px)).setCell ⟨w.heap.size + 1 + 1 + 1, 1, none⟩ (.int .i64 py)).setCell ⟨w.heap.size + 1 + 1 + 1, 2, none⟩ (.slice pa9 pl pc9) = Z := ⟨_, rfl⟩
      have hG : W1.grownBy W2 (some (w.heap.size + 1 + 1 + 1)) := by rw [← hW2]; exact gtrans (gtrans (gset 0 _) (gset 1 _)) (gset 2 _)
      have hz2 : W2.heap.size = W1.heap.size := by rw [← hW2]; simp
      have k5 : Arr W2 (w.heap.size + 1 + 1 + 1) [.int .i64 px, .int .i64 py, .slice pa9 pl pc9] := by rw [← hW2]; exact ((h5.set 0 _).set 1 _).set 2 _
      have k4 : Arr W2 (w.heap.size + 1 + 1) [.slice none 0 0, .slice none 0 0] := by rw [← hW2]; exact ((h4.other (by omega) 0 _).other (by omega) 1 _).other (by omega) 2 _
      have hwX := HBX.out.size
      have s4 : SlB W2 (w.heap.size + 1 + 1) := (HS4.out.below hB1 (by omega)).below (B := w.heap.size + 1 + 1 + 1) (belowg hG (by omega) (by omega)) (by omega)
      have hnt2 := nt_spare r5 hG (fun j hj => by omega) hu (lose_okq HOK.out _) (lose_oka HOK.out _)
      have hpk2 : PkAt W2 W2.heap.size (.agg #[.int .i64 px, .int .i64 py, .slice pa9 pl pc9]) (n.pick (I : Int)) := ⟨by rw [hpx, hpy]; exact hin9, _, by rw [hpx, hpy], bytes_spare r5 hG hpd⟩
      have hw2 : Below w.heap.size w W2 := (bthen HBX.out hB1).trans (belowg hG (by omega) (by omega))
      have e40 : W2.cell? ⟨w.heap.size + 1 + 1, 0, none⟩ = some (.slice none 0 0) := k4.cell rfl
      have e41 : W2.cell? ⟨w.heap.size + 1 + 1, 1, none⟩ = some (.slice none 0 0) := k4.cell rfl
      have f40 : W2.frozen? ⟨w.heap.size + 1 + 1, 0, none⟩ = false := k4.frozen (by simp)
      have f41 : W2.frozen? ⟨w.heap.size + 1 + 1, 1, none⟩ = false := k4.frozen (by simp)
      have HE := Lib.hid (hend_net hw2 (by omega) k4 s4 (by omega) k5 hpx hpy hpl hpk2 hnt2 hN9 hM9)
      rw [← hW2] at e40 e41 f40 f41
      have HW2 := Lib.hid hW2
      clear hu hb1 hB1 h4 h5 r5 hG k5 k4 s4 hnt2 hpk2 hw2 hW2 hp hpd
      obtain ⟨Y, hY⟩ : ∃ Z, (W2.setCell ⟨w.heap.size + 1 + 1, 0, none⟩ (.slice qa9 N9 qc9)).setCell ⟨w.heap.size + 1 + 1, 1, none⟩ (.slice aa9 M9 ac9) = Z := ⟨_, rfl⟩
      have hE := HE.out
      rw [hY] at hE
      obtain ⟨qar, Nr, qcr, aar, Mr, acr, xr, zr, dar, Lr, dcr, hEO⟩ := hE.open
      have HEO := Lib.hid hEO
      have HYY := Lib.hid hY
      have hx0 : Kept Y Y.drew := (Kept.refl _).drew
      clear hE hEO hY HE
      go_wp2_with fail
      try rw [HW2.out]
      rw [HYY.out]
      refine wp_region_held_drew (S := fun W => Kept Y W) (by kernel_rfl) hx0 (fun hHeld => ?_)
      refine wpAnyH_take (i := 0) (oi := q27p0) (v := ?_) rfl (by kernel_rfl) (by kernel_rfl) (by kernel_rfl) (fun _ _ _ h => h) (Or.inl ⟨by rfl, ?_⟩) hHeld ?_
      rotate_left
      · (intro w hSw; obtain ⟨⟨s40, s41, s50, s51, s52⟩, _⟩ := HEO.out _ hSw; unfold q27p0; go_simp <;> with_reducible rfl)
      try simp only [q27p0, Act.put, List.setIfInBounds_toArray, List.set_cons_zero, List.set_cons_succ]
      refine wpAnyH_take (i := 1) (oi := q27p1) (v := ?_) rfl (by kernel_rfl) (by kernel_rfl) (by kernel_rfl) (fun _ _ _ h => h) (Or.inl ⟨by rfl, ?_⟩) hHeld ?_
      rotate_left
      · (intro w hSw; obtain ⟨⟨s40, s41, s50, s51, s52⟩, _⟩ := HEO.out _ hSw; unfold q27p1; go_simp <;> with_reducible rfl)
      try simp only [q27p1, Act.put, List.setIfInBounds_toArray, List.set_cons_zero, List.set_cons_succ]
      refine wpAnyH_take (i := 2) (oi := q27p2) (v := ?_) rfl (by kernel_rfl) (by kernel_rfl) (by kernel_rfl) (fun _ _ _ h => h) (Or.inl ⟨by rfl, ?_⟩) hHeld ?_
      rotate_left
      · (intro w hSw; (try dsimp only at hSw); unfold q27p2; go_simp <;> with_reducible rfl)
      try simp only [q27p2, Act.put, List.setIfInBounds_toArray, List.set_cons_zero, List.set_cons_succ]
      refine wpAnyH_ready (rs := [3]) (by kernel_rfl) (by simp) ?_
      refine AllReadyH.cons (o := q27p3) rfl (fun K hK => ?_) AllReadyH.nil
      rw [if_pos (by rfl)]
      unfold q27p3
      obtain ⟨⟨s40, s41, s50, s51, s52⟩, ⟨t40, t41, t50, t51, t52⟩, hntE, hpkE, hbE⟩ := HEO.out _ hHeld
      obtain ⟨⟨y40, y41, y50, y51, y52⟩, ⟨z40, z41, z50, z51, z52⟩, _⟩ := HEO.out Y (Kept.refl Y)
      go_simp
      rw [setCell_id y40, setCell_id y41]
      refine hK.out _ _ hHeld (fun hHeld => ?_)
      clear s40 s41 s50 s51 s52 t40 t41 t50 t51 t52 hntE hpkE hbE y40 y41 y50 y51 y52 z40 z41 z50 z51 z52
      clear hK K
      try simp only [q27p3, Act.put]
      refine wpAnyH_ready (rs := [4]) (by kernel_rfl) (by simp) ?_
      refine AllReadyH.cons (o := q27p4) rfl (fun K hK => ?_) AllReadyH.nil
      rw [if_pos (by rfl)]
      unfold q27p4
      obtain ⟨⟨s40, s41, s50, s51, s52⟩, ⟨t40, t41, t50, t51, t52⟩, hntE, hpkE, hbE⟩ := HEO.out _ hHeld
      obtain ⟨⟨y40, y41, y50, y51, y52⟩, ⟨z40, z41, z50, z51, z52⟩, _⟩ := HEO.out Y (Kept.refl Y)
      go_simp
      rw [setCell_id y50, setCell_id y51, setCell_id y52]
      refine hK.out _ _ hHeld (fun hHeld => ?_)
      clear s40 s41 s50 s51 s52 t40 t41 t50 t51 t52 hntE hpkE hbE y40 y41 y50 y51 y52 z40 z41 z50 z51 z52
      clear hK K
      try simp only [q27p4, Act.put]
      refine wpAnyH_take (i := 5) (oi := q27p5) (v := ?_) rfl (by kernel_rfl) (by kernel_rfl) (by kernel_rfl) (fun _ _ _ h => h) (Or.inl ⟨by rfl, ?_⟩) hHeld ?_
      rotate_left
      · (intro w hSw; (try dsimp only at hSw); unfold q27p5; go_simp <;> with_reducible rfl)
      try simp only [q27p5, Act.put, List.setIfInBounds_toArray, List.set_cons_zero, List.set_cons_succ]
      refine wpAnyH_done (by kernel_rfl) ?_ _
      obtain ⟨⟨s40, s41, s50, s51, s52⟩, ⟨t40, t41, t50, t51, t52⟩, hntE, hpkE, hbE⟩ := HEO.out _ hHeld
      obtain ⟨⟨y40, y41, y50, y51, y52⟩, ⟨z40, z41, z50, z51, z52⟩, _⟩ := HEO.out Y (Kept.refl Y)
      go_wp2_with fail
      refine bodyPost_ret (v := .tuple #[.agg #[.slice qar Nr qcr, .slice aar Mr acr], .agg #[.int .i64 xr, .int .i64 zr, .slice dar Lr dcr], .int .i64 (n.err (I : Int))]) (by simp [results, Try.results27, go_sem, y40, y41, y50, y51, y52]) rfl ?_
      rw [← HR0.out]
      exact ⟨_, _, rfl, hntE, hpkE, hbE⟩
    · have HR0 := Lib.hid hR
      clear hR
      have HBASEs := Nat.le_refl X.heap.size
      have HBASE := Below.refl X.heap.size X
      obtain ⟨N9, hN9⟩ : ∃ x, (n.lose (I : Int)).q.length = x := ⟨_, rfl⟩
      obtain ⟨M9, hM9⟩ : ∃ x, (n.lose (I : Int)).ap.length = x := ⟨_, rfl⟩
      go_wp2_with fail
      refine (lose_any X _ n HNX.out (I : Int)).mono ?_
      rintro e W1 ⟨v', rfl, hu, hb1⟩
      obtain ⟨qa9, qc9, aa9, ac9, rfl, _⟩ := hu.parts (N := N9) (M := M9) hN9 hM9
      have hB1 : Below X.heap.size X W1 := HBASE.trans (hb1.mono HBASEs)
      have hs1 := hB1.size
      have h4 := HA4.out.below hB1 (by omega)
      have h5 := HA5.out.below hB1 (by omega)
      have e40 : W1.cell? ⟨w.heap.size + 1 + 1, 0, none⟩ = some (.slice none 0 0) := h4.cell rfl
      have e41 : W1.cell? ⟨w.heap.size + 1 + 1, 1, none⟩ = some (.slice none 0 0) := h4.cell rfl
      have f40 : W1.frozen? ⟨w.heap.size + 1 + 1, 0, none⟩ = false := h4.frozen (by simp)
      have f41 : W1.frozen? ⟨w.heap.size + 1 + 1, 1, none⟩ = false := h4.frozen (by simp)
      have HE := Lib.hid (hend_net (p := Pk.zero) (bthen HBX.out hB1) (by omega) h4 (HS4.out.below hB1 (by omega)) (by omega) h5 rfl rfl rfl (pk_zero _ _) hu hN9 hM9)
      clear hu hb1 hB1 h4 h5
      obtain ⟨Y, hY⟩ : ∃ Z, (W1.setCell ⟨w.heap.size + 1 + 1, 0, none⟩ (.slice qa9 N9 qc9)).setCell ⟨w.heap.size + 1 + 1, 1, none⟩ (.slice aa9 M9 ac9) = Z := ⟨_, rfl⟩
      have hE := HE.out
      rw [hY] at hE
      obtain ⟨qar, Nr, qcr, aar, Mr, acr, xr, zr, dar, Lr, dcr, hEO⟩ := hE.open
      have HEO := Lib.hid hEO
      have HYY := Lib.hid hY
      have hx0 : Kept Y Y.drew := (Kept.refl _).drew
      clear hE hEO hY HE
      go_wp2_with fail
      rw [HYY.out]
      refine wp_region_held_drew (S := fun W => Kept Y W) (by kernel_rfl) hx0 (fun hHeld => ?_)
      refine wpAnyH_take (i := 0) (oi := q27p0) (v := ?_) rfl (by kernel_rfl) (by kernel_rfl) (by kernel_rfl) (fun _ _ _ h => h) (Or.inl ⟨by rfl, ?_⟩) hHeld ?_
      rotate_left
      · (intro w hSw; obtain ⟨⟨s40, s41, s50, s51, s52⟩, _⟩ := HEO.out _ hSw; unfold q27p0; go_simp <;> with_reducible rfl)
      try simp only [q27p0, Act.put, List.setIfInBounds_toArray, List.set_cons_zero, List.set_cons_succ]
      refine wpAnyH_take (i := 1) (oi := q27p1) (v := ?_) rfl (by kernel_rfl) (by kernel_rfl) (by kernel_rfl) (fun _ _ _ h => h) (Or.inl ⟨by rfl, ?_⟩) hHeld ?_
      rotate_left
      · (intro w hSw; obtain ⟨⟨s40, s41, s50, s51, s52⟩, _⟩ := HEO.out _ hSw; unfold q27p1; go_simp <;> with_reducible rfl)
      try simp only [q27p1, Act.put, List.setIfInBounds_toArray, List.set_cons_zero, List.set_cons_succ]
      refine wpAnyH_take (i := 2) (oi := q27p2) (v := ?_) rfl (by kernel_rfl) (by kernel_rfl) (by kernel_rfl) (fun _ _ _ h => h) (Or.inl ⟨by rfl, ?_⟩) hHeld ?_
      rotate_left
      · (intro w hSw; (try dsimp only at hSw); unfold q27p2; go_simp <;> with_reducible rfl)
      try simp only [q27p2, Act.put, List.setIfInBounds_toArray, List.set_cons_zero, List.set_cons_succ]
      refine wpAnyH_ready (rs := [3]) (by kernel_rfl) (by simp) ?_
      refine AllReadyH.cons (o := q27p3) rfl (fun K hK => ?_) AllReadyH.nil
      rw [if_pos (by rfl)]
      unfold q27p3
      obtain ⟨⟨s40, s41, s50, s51, s52⟩, ⟨t40, t41, t50, t51, t52⟩, hntE, hpkE, hbE⟩ := HEO.out _ hHeld
      obtain ⟨⟨y40, y41, y50, y51, y52⟩, ⟨z40, z41, z50, z51, z52⟩, _⟩ := HEO.out Y (Kept.refl Y)
      go_simp
      rw [setCell_id y40, setCell_id y41]
      refine hK.out _ _ hHeld (fun hHeld => ?_)
      clear s40 s41 s50 s51 s52 t40 t41 t50 t51 t52 hntE hpkE hbE y40 y41 y50 y51 y52 z40 z41 z50 z51 z52
      clear hK K
      try simp only [q27p3, Act.put]
      refine wpAnyH_ready (rs := [4]) (by kernel_rfl) (by simp) ?_
      refine AllReadyH.cons (o := q27p4) rfl (fun K hK => ?_) AllReadyH.nil
      rw [if_pos (by rfl)]
      unfold q27p4
      obtain ⟨⟨s40, s41, s50, s51, s52⟩, ⟨t40, t41, t50, t51, t52⟩, hntE, hpkE, hbE⟩ := HEO.out _ hHeld
      obtain ⟨⟨y40, y41, y50, y51, y52⟩, ⟨z40, z41, z50, z51, z52⟩, _⟩ := HEO.out Y (Kept.refl Y)
      go_simp
      rw [setCell_id y50, setCell_id y51, setCell_id y52]
      refine hK.out _ _ hHeld (fun hHeld => ?_)
      clear s40 s41 s50 s51 s52 t40 t41 t50 t51 t52 hntE hpkE hbE y40 y41 y50 y51 y52 z40 z41 z50 z51 z52
      clear hK K
      try simp only [q27p4, Act.put]
      refine wpAnyH_take (i := 5) (oi := q27p5) (v := ?_) rfl (by kernel_rfl) (by kernel_rfl) (by kernel_rfl) (fun _ _ _ h => h) (Or.inl ⟨by rfl, ?_⟩) hHeld ?_
      rotate_left
      · (intro w hSw; (try dsimp only at hSw); unfold q27p5; go_simp <;> with_reducible rfl)
      try simp only [q27p5, Act.put, List.setIfInBounds_toArray, List.set_cons_zero, List.set_cons_succ]
      refine wpAnyH_done (by kernel_rfl) ?_ _
      obtain ⟨⟨s40, s41, s50, s51, s52⟩, ⟨t40, t41, t50, t51, t52⟩, hntE, hpkE, hbE⟩ := HEO.out _ hHeld
      obtain ⟨⟨y40, y41, y50, y51, y52⟩, ⟨z40, z41, z50, z51, z52⟩, _⟩ := HEO.out Y (Kept.refl Y)
      go_wp2_with fail
      refine bodyPost_ret (v := .tuple #[.agg #[.slice qar Nr qcr, .slice aar Mr acr], .agg #[.int .i64 xr, .int .i64 zr, .slice dar Lr dcr], .int .i64 (n.err (I : Int))]) (by simp [results, Try.results27, go_sem, y40, y41, y50, y51, y52]) rfl ?_
      rw [← HR0.out]
      exact ⟨_, _, rfl, hntE, hpkE, hbE⟩
    · have HR0 := Lib.hid hR
      clear hR
      have HBASEs := Nat.le_refl X.heap.size
      have HBASE := Below.refl X.heap.size X
      obtain ⟨N9, hN9⟩ : ∃ x, ((n.rpt (I : Int)).1).q.length = x := ⟨_, rfl⟩
      obtain ⟨M9, hM9⟩ : ∃ x, ((n.rpt (I : Int)).1).ap.length = x := ⟨_, rfl⟩
      go_wp2_with fail
      refine (rpt_any X _ n HNX.out (I : Int)).mono ?_
      rintro e W1 ⟨v', rfl, hu, hb1⟩
      obtain ⟨qa9, qc9, aa9, ac9, rfl, _⟩ := hu.parts (N := N9) (M := M9) hN9 hM9
      have hB1 : Below X.heap.size X W1 := HBASE.trans (hb1.mono HBASEs)
      have hs1 := hB1.size
      have h4 := HA4.out.below hB1 (by omega)
      have h5 := HA5.out.below hB1 (by omega)
      have e40 : W1.cell? ⟨w.heap.size + 1 + 1, 0, none⟩ = some (.slice none 0 0) := h4.cell rfl
      have e41 : W1.cell? ⟨w.heap.size + 1 + 1, 1, none⟩ = some (.slice none 0 0) := h4.cell rfl
      have f40 : W1.frozen? ⟨w.heap.size + 1 + 1, 0, none⟩ = false := h4.frozen (by simp)
      have f41 : W1.frozen? ⟨w.heap.size + 1 + 1, 1, none⟩ = false := h4.frozen (by simp)
      have HE := Lib.hid (hend_net (p := Pk.zero) (bthen HBX.out hB1) (by omega) h4 (HS4.out.below hB1 (by omega)) (by omega) h5 rfl rfl rfl (pk_zero _ _) hu hN9 hM9)
      clear hu hb1 hB1 h4 h5
      obtain ⟨Y, hY⟩ : ∃ Z, (W1.setCell ⟨w.heap.size + 1 + 1, 0, none⟩ (.slice qa9 N9 qc9)).setCell ⟨w.heap.size + 1 + 1, 1, none⟩ (.slice aa9 M9 ac9) = Z := ⟨_, rfl⟩
      have hE := HE.out
      rw [hY] at hE
      obtain ⟨qar, Nr, qcr, aar, Mr, acr, xr, zr, dar, Lr, dcr, hEO⟩ := hE.open
      have HEO := Lib.hid hEO
      have HYY := Lib.hid hY
      have hx0 : Kept Y Y.drew := (Kept.refl _).drew
      clear hE hEO hY HE
      go_wp2_with fail
      rw [HYY.out]
      refine wp_region_held_drew (S := fun W => Kept Y W) (by kernel_rfl) hx0 (fun hHeld => ?_)
      refine wpAnyH_take (i := 0) (oi := q27p0) (v := ?_) rfl (by kernel_rfl) (by kernel_rfl) (by kernel_rfl) (fun _ _ _ h => h) (Or.inl ⟨by rfl, ?_⟩) hHeld ?_
      rotate_left
      · (intro w hSw; obtain ⟨⟨s40, s41, s50, s51, s52⟩, _⟩ := HEO.out _ hSw; unfold q27p0; go_simp <;> with_reducible rfl)
      try simp only [q27p0, Act.put, List.setIfInBounds_toArray, List.set_cons_zero, List.set_cons_succ]
      refine wpAnyH_take (i := 1) (oi := q27p1) (v := ?_) rfl (by kernel_rfl) (by kernel_rfl) (by kernel_rfl) (fun _ _ _ h => h) (Or.inl ⟨by rfl, ?_⟩) hHeld ?_
      rotate_left
      · (intro w hSw; obtain ⟨⟨s40, s41, s50, s51, s52⟩, _⟩ := HEO.out _ hSw; unfold q27p1; go_simp <;> with_reducible rfl)
      try simp only [q27p1, Act.put, List.setIfInBounds_toArray, List.set_cons_zero, List.set_cons_succ]
      refine wpAnyH_take (i := 2) (oi := q27p2) (v := ?_) rfl (by kernel_rfl) (by kernel_rfl) (by kernel_rfl) (fun _ _ _ h => h) (Or.inl ⟨by rfl, ?_⟩) hHeld ?_
      rotate_left
      · (intro w hSw; (try dsimp only at hSw); unfold q27p2; go_simp <;> with_reducible rfl)
      try simp only [q27p2, Act.put, List.setIfInBounds_toArray, List.set_cons_zero, List.set_cons_succ]
      refine wpAnyH_ready (rs := [3]) (by kernel_rfl) (by simp) ?_
      refine AllReadyH.cons (o := q27p3) rfl (fun K hK => ?_) AllReadyH.nil
      rw [if_pos (by rfl)]
      unfold q27p3
      obtain ⟨⟨s40, s41, s50, s51, s52⟩, ⟨t40, t41, t50, t51, t52⟩, hntE, hpkE, hbE⟩ := HEO.out _ hHeld
      obtain ⟨⟨y40, y41, y50, y51, y52⟩, ⟨z40, z41, z50, z51, z52⟩, _⟩ := HEO.out Y (Kept.refl Y)
      go_simp
      rw [setCell_id y40, setCell_id y41]
      refine hK.out _ _ hHeld (fun hHeld => ?_)
      clear s40 s41 s50 s51 s52 t40 t41 t50 t51 t52 hntE hpkE hbE y40 y41 y50 y51 y52 z40 z41 z50 z51 z52
      clear hK K
      try simp only [q27p3, Act.put]
      refine wpAnyH_ready (rs := [4]) (by kernel_rfl) (by simp) ?_
      refine AllReadyH.cons (o := q27p4) rfl (fun K hK => ?_) AllReadyH.nil
      rw [if_pos (by rfl)]
      unfold q27p4
      obtain ⟨⟨s40, s41, s50, s51, s52⟩, ⟨t40, t41, t50, t51, t52⟩, hntE, hpkE, hbE⟩ := HEO.out _ hHeld
      obtain ⟨⟨y40, y41, y50, y51, y52⟩, ⟨z40, z41, z50, z51, z52⟩, _⟩ := HEO.out Y (Kept.refl Y)
      go_simp
      rw [setCell_id y50, setCell_id y51, setCell_id y52]
      refine hK.out _ _ hHeld (fun hHeld => ?_)
      clear s40 s41 s50 s51 s52 t40 t41 t50 t51 t52 hntE hpkE hbE y40 y41 y50 y51 y52 z40 z41 z50 z51 z52
      clear hK K
      try simp only [q27p4, Act.put]
      refine wpAnyH_take (i := 5) (oi := q27p5) (v := ?_) rfl (by kernel_rfl) (by kernel_rfl) (by kernel_rfl) (fun _ _ _ h => h) (Or.inl ⟨by rfl, ?_⟩) hHeld ?_
      rotate_left
      · (intro w hSw; (try dsimp only at hSw); unfold q27p5; go_simp <;> with_reducible rfl)
      try simp only [q27p5, Act.put, List.setIfInBounds_toArray, List.set_cons_zero, List.set_cons_succ]
      refine wpAnyH_done (by kernel_rfl) ?_ _
      obtain ⟨⟨s40, s41, s50, s51, s52⟩, ⟨t40, t41, t50, t51, t52⟩, hntE, hpkE, hbE⟩ := HEO.out _ hHeld
      obtain ⟨⟨y40, y41, y50, y51, y52⟩, ⟨z40, z41, z50, z51, z52⟩, _⟩ := HEO.out Y (Kept.refl Y)
      go_wp2_with fail
      refine bodyPost_ret (v := .tuple #[.agg #[.slice qar Nr qcr, .slice aar Mr acr], .agg #[.int .i64 xr, .int .i64 zr, .slice dar Lr dcr], .int .i64 (n.rpt (I : Int)).2]) (by simp [results, Try.results27, go_sem, y40, y41, y50, y51, y52]) rfl ?_
      rw [← HR0.out]
      exact ⟨_, _, rfl, hntE, hpkE, hbE⟩
    · have HR0 := Lib.hid hR
      clear hR
      have HBASEs := Nat.le_refl X.heap.size
      have HBASE := Below.refl X.heap.size X
      obtain ⟨N9, hN9⟩ : ∃ x, ((n.cutE (A : Int) (B : Int) true).1).q.length = x := ⟨_, rfl⟩
      obtain ⟨M9, hM9⟩ : ∃ x, ((n.cutE (A : Int) (B : Int) true).1).ap.length = x := ⟨_, rfl⟩
      go_wp2_with fail
      refine (cutE_any X _ n HNX.out HOK.out (A : Int) (B : Int) (by rw [HMl.out]; exact hl) true).mono ?_
      rintro e W1 ⟨v', rfl, hu, hb1⟩
      obtain ⟨qa9, qc9, aa9, ac9, rfl, _⟩ := hu.parts (N := N9) (M := M9) hN9 hM9
      have hB1 : Below X.heap.size X W1 := HBASE.trans (hb1.mono HBASEs)
      have hs1 := hB1.size
      have h4 := HA4.out.below hB1 (by omega)
      have h5 := HA5.out.below hB1 (by omega)
      have e40 : W1.cell? ⟨w.heap.size + 1 + 1, 0, none⟩ = some (.slice none 0 0) := h4.cell rfl
      have e41 : W1.cell? ⟨w.heap.size + 1 + 1, 1, none⟩ = some (.slice none 0 0) := h4.cell rfl
      have f40 : W1.frozen? ⟨w.heap.size + 1 + 1, 0, none⟩ = false := h4.frozen (by simp)
      have f41 : W1.frozen? ⟨w.heap.size + 1 + 1, 1, none⟩ = false := h4.frozen (by simp)
      have HE := Lib.hid (hend_net (p := Pk.zero) (bthen HBX.out hB1) (by omega) h4 (HS4.out.below hB1 (by omega)) (by omega) h5 rfl rfl rfl (pk_zero _ _) hu hN9 hM9)
      clear hu hb1 hB1 h4 h5
      obtain ⟨Y, hY⟩ : ∃ Z, (W1.setCell ⟨w.heap.size + 1 + 1, 0, none⟩ (.slice qa9 N9 qc9)).setCell ⟨w.heap.size + 1 + 1, 1, none⟩ (.slice aa9 M9 ac9) = Z := ⟨_, rfl⟩
      have hE := HE.out
      rw [hY] at hE
      obtain ⟨qar, Nr, qcr, aar, Mr, acr, xr, zr, dar, Lr, dcr, hEO⟩ := hE.open
      have HEO := Lib.hid hEO
      have HYY := Lib.hid hY
      have hx0 : Kept Y Y.drew := (Kept.refl _).drew
      clear hE hEO hY HE
      go_wp2_with fail
      rw [HYY.out]
      refine wp_region_held_drew (S := fun W => Kept Y W) (by kernel_rfl) hx0 (fun hHeld => ?_)
      refine wpAnyH_take (i := 0) (oi := q27p0) (v := ?_) rfl (by kernel_rfl) (by kernel_rfl) (by kernel_rfl) (fun _ _ _ h => h) (Or.inl ⟨by rfl, ?_⟩) hHeld ?_
      rotate_left
      · (intro w hSw; obtain ⟨⟨s40, s41, s50, s51, s52⟩, _⟩ := HEO.out _ hSw; unfold q27p0; go_simp <;> with_reducible rfl)
      try simp only [q27p0, Act.put, List.setIfInBounds_toArray, List.set_cons_zero, List.set_cons_succ]
      refine wpAnyH_take (i := 1) (oi := q27p1) (v := ?_) rfl (by kernel_rfl) (by kernel_rfl) (by kernel_rfl) (fun _ _ _ h => h) (Or.inl ⟨by rfl, ?_⟩) hHeld ?_
      rotate_left
      · (intro w hSw; obtain ⟨⟨s40, s41, s50, s51, s52⟩, _⟩ := HEO.out _ hSw; unfold q27p1; go_simp <;> with_reducible rfl)
      try simp only [q27p1, Act.put, List.setIfInBounds_toArray, List.set_cons_zero, List.set_cons_succ]
      refine wpAnyH_take (i := 2) (oi := q27p2) (v := ?_) rfl (by kernel_rfl) (by kernel_rfl) (by kernel_rfl) (fun _ _ _ h => h) (Or.inl ⟨by rfl, ?_⟩) hHeld ?_
      rotate_left
      · (intro w hSw; (try dsimp only at hSw); unfold q27p2; go_simp <;> with_reducible rfl)
      try simp only [q27p2, Act.put, List.setIfInBounds_toArray, List.set_cons_zero, List.set_cons_succ]
      refine wpAnyH_ready (rs := [3]) (by kernel_rfl) (by simp) ?_
      refine AllReadyH.cons (o := q27p3) rfl (fun K hK => ?_) AllReadyH.nil
      rw [if_pos (by rfl)]
      unfold q27p3
      obtain ⟨⟨s40, s41, s50, s51, s52⟩, ⟨t40, t41, t50, t51, t52⟩, hntE, hpkE, hbE⟩ := HEO.out _ hHeld
      obtain ⟨⟨y40, y41, y50, y51, y52⟩, ⟨z40, z41, z50, z51, z52⟩, _⟩ := HEO.out Y (Kept.refl Y)
      go_simp
      rw [setCell_id y40, setCell_id y41]
      refine hK.out _ _ hHeld (fun hHeld => ?_)
      clear s40 s41 s50 s51 s52 t40 t41 t50 t51 t52 hntE hpkE hbE y40 y41 y50 y51 y52 z40 z41 z50 z51 z52
      clear hK K
      try simp only [q27p3, Act.put]
      refine wpAnyH_ready (rs := [4]) (by kernel_rfl) (by simp) ?_
      refine AllReadyH.cons (o := q27p4) rfl (fun K hK => ?_) AllReadyH.nil
      rw [if_pos (by rfl)]
      unfold q27p4
      obtain ⟨⟨s40, s41, s50, s51, s52⟩, ⟨t40, t41, t50, t51, t52⟩, hntE, hpkE, hbE⟩ := HEO.out _ hHeld
      obtain ⟨⟨y40, y41, y50, y51, y52⟩, ⟨z40, z41, z50, z51, z52⟩, _⟩ := HEO.out Y (Kept.refl Y)
      go_simp
      rw [setCell_id y50, setCell_id y51, setCell_id y52]
      refine hK.out _ _ hHeld (fun hHeld => ?_)
      clear s40 s41 s50 s51 s52 t40 t41 t50 t51 t52 hntE hpkE hbE y40 y41 y50 y51 y52 z40 z41 z50 z51 z52
      clear hK K
      try simp only [q27p4, Act.put]
      refine wpAnyH_take (i := 5) (oi := q27p5) (v := ?_) rfl (by kernel_rfl) (by kernel_rfl) (by kernel_rfl) (fun _ _ _ h => h) (Or.inl ⟨by rfl, ?_⟩) hHeld ?_
      rotate_left
      · (intro w hSw; (try dsimp only at hSw); unfold q27p5; go_simp <;> with_reducible rfl)
      try simp only [q27p5, Act.put, List.setIfInBounds_toArray, List.set_cons_zero, List.set_cons_succ]
      refine wpAnyH_done (by kernel_rfl) ?_ _
      obtain ⟨⟨s40, s41, s50, s51, s52⟩, ⟨t40, t41, t50, t51, t52⟩, hntE, hpkE, hbE⟩ := HEO.out _ hHeld
      obtain ⟨⟨y40, y41, y50, y51, y52⟩, ⟨z40, z41, z50, z51, z52⟩, _⟩ := HEO.out Y (Kept.refl Y)
      go_wp2_with fail
      refine bodyPost_ret (v := .tuple #[.agg #[.slice qar Nr qcr, .slice aar Mr acr], .agg #[.int .i64 xr, .int .i64 zr, .slice dar Lr dcr], .int .i64 (n.cutE (A : Int) (B : Int) true).2]) (by simp [results, Try.results27, go_sem, y40, y41, y50, y51, y52]) rfl ?_
      rw [← HR0.out]
      exact ⟨_, _, rfl, hntE, hpkE, hbE⟩
    · have HR0 := Lib.hid hR
      clear hR
      have HBASEs := Nat.le_refl X.heap.size
      have HBASE := Below.refl X.heap.size X
      obtain ⟨N9, hN9⟩ : ∃ x, ((n.cutE (A : Int) (B : Int) false).1).q.length = x := ⟨_, rfl⟩
      obtain ⟨M9, hM9⟩ : ∃ x, ((n.cutE (A : Int) (B : Int) false).1).ap.length = x := ⟨_, rfl⟩
      go_wp2_with fail
      refine (cutE_any X _ n HNX.out HOK.out (A : Int) (B : Int) (by rw [HMl.out]; exact hl) false).mono ?_
      rintro e W1 ⟨v', rfl, hu, hb1⟩
      obtain ⟨qa9, qc9, aa9, ac9, rfl, _⟩ := hu.parts (N := N9) (M := M9) hN9 hM9
      have hB1 : Below X.heap.size X W1 := HBASE.trans (hb1.mono HBASEs)
      have hs1 := hB1.size
      have h4 := HA4.out.below hB1 (by omega)
      have h5 := HA5.out.below hB1 (by omega)
      have e40 : W1.cell? ⟨w.heap.size + 1 + 1, 0, none⟩ = some (.slice none 0 0) := h4.cell rfl
      have e41 : W1.cell? ⟨w.heap.size + 1 + 1, 1, none⟩ = some (.slice none 0 0) := h4.cell rfl
      have f40 : W1.frozen? ⟨w.heap.size + 1 + 1, 0, none⟩ = false := h4.frozen (by simp)
      have f41 : W1.frozen? ⟨w.heap.size + 1 + 1, 1, none⟩ = false := h4.frozen (by simp)
      have HE := Lib.hid (hend_net (p := Pk.zero) (bthen HBX.out hB1) (by omega) h4 (HS4.out.below hB1 (by omega)) (by omega) h5 rfl rfl rfl (pk_zero _ _) hu hN9 hM9)
      clear hu hb1 hB1 h4 h5
      obtain ⟨Y, hY⟩ : ∃ Z, (W1.setCell ⟨w.heap.size + 1 + 1, 0, none⟩ (.slice qa9 N9 qc9)).setCell ⟨w.heap.size + 1 + 1, 1, none⟩ (.slice aa9 M9 ac9) = Z := ⟨_, rfl⟩
      have hE := HE.out
      rw [hY] at hE
      obtain ⟨qar, Nr, qcr, aar, Mr, acr, xr, zr, dar, Lr, dcr, hEO⟩ := hE.open
      have HEO := Lib.hid hEO
      have HYY := Lib.hid hY
      have hx0 : Kept Y Y.drew := (Kept.refl _).drew
      clear hE hEO hY HE
      go_wp2_with fail
      rw [HYY.out]
      refine wp_region_held_drew (S := fun W => Kept Y W) (by kernel_rfl) hx0 (fun hHeld => ?_)
      refine wpAnyH_take (i := 0) (oi := q27p0) (v := ?_) rfl (by kernel_rfl) (by kernel_rfl) (by kernel_rfl) (fun _ _ _ h => h) (Or.inl ⟨by rfl, ?_⟩) hHeld ?_
      rotate_left
      · (intro w hSw; obtain ⟨⟨s40, s41, s50, s51, s52⟩, _⟩ := HEO.out _ hSw; unfold q27p0; go_simp <;> with_reducible rfl)
      try simp only [q27p0, Act.put, List.setIfInBounds_toArray, List.set_cons_zero, List.set_cons_succ]
      refine wpAnyH_take (i := 1) (oi := q27p1) (v := ?_) rfl (by kernel_rfl) (by kernel_rfl) (by kernel_rfl) (fun _ _ _ h => h) (Or.inl ⟨by rfl, ?_⟩) hHeld ?_
      rotate_left
      · (intro w hSw; obtain ⟨⟨s40, s41, s50, s51, s52⟩, _⟩ := HEO.out _ hSw; unfold q27p1; go_simp <;> with_reducible rfl)
      try simp only [q27p1, Act.put, List.setIfInBounds_toArray, List.set_cons_zero, List.set_cons_succ]
      refine wpAnyH_take (i := 2) (oi := q27p2) (v := ?_) rfl (by kernel_rfl) (by kernel_rfl) (by kernel_rfl) (fun _ _ _ h => h) (Or.inl ⟨by rfl, ?_⟩) hHeld ?_
      rotate_left
      · (intro w hSw; (try dsimp only at hSw); unfold q27p2; go_simp <;> with_reducible rfl)
      try simp only [q27p2, Act.put, List.setIfInBounds_toArray, List.set_cons_zero, List.set_cons_succ]
      refine wpAnyH_ready (rs := [3]) (by kernel_rfl) (by simp) ?_
      refine AllReadyH.cons (o := q27p3) rfl (fun K hK => ?_) AllReadyH.nil
      rw [if_pos (by rfl)]
      unfold q27p3
      obtain ⟨⟨s40, s41, s50, s51, s52⟩, ⟨t40, t41, t50, t51, t52⟩, hntE, hpkE, hbE⟩ := HEO.out _ hHeld
      obtain ⟨⟨y40, y41, y50, y51, y52⟩, ⟨z40, z41, z50, z51, z52⟩, _⟩ := HEO.out Y (Kept.refl Y)
      go_simp
      rw [setCell_id y40, setCell_id y41]
      refine hK.out _ _ hHeld (fun hHeld => ?_)
      clear s40 s41 s50 s51 s52 t40 t41 t50 t51 t52 hntE hpkE hbE y40 y41 y50 y51 y52 z40 z41 z50 z51 z52
      clear hK K
      try simp only [q27p3, Act.put]
      refine wpAnyH_ready (rs := [4]) (by kernel_rfl) (by simp) ?_
      refine AllReadyH.cons (o := q27p4) rfl (fun K hK => ?_) AllReadyH.nil
      rw [if_pos (by rfl)]
      unfold q27p4
      obtain ⟨⟨s40, s41, s50, s51, s52⟩, ⟨t40, t41, t50, t51, t52⟩, hntE, hpkE, hbE⟩ := HEO.out _ hHeld
      obtain ⟨⟨y40, y41, y50, y51, y52⟩, ⟨z40, z41, z50, z51, z52⟩, _⟩ := HEO.out Y (Kept.refl Y)
      go_simp
      rw [setCell_id y50, setCell_id y51, setCell_id y52]
      refine hK.out _ _ hHeld (fun hHeld => ?_)
      clear s40 s41 s50 s51 s52 t40 t41 t50 t51 t52 hntE hpkE hbE y40 y41 y50 y51 y52 z40 z41 z50 z51 z52
      clear hK K
      try simp only [q27p4, Act.put]
      refine wpAnyH_take (i := 5) (oi := q27p5) (v := ?_) rfl (by kernel_rfl) (by kernel_rfl) (by kernel_rfl) (fun _ _ _ h => h) (Or.inl ⟨by rfl, ?_⟩) hHeld ?_
      rotate_left
      · (intro w hSw; (try dsimp only at hSw); unfold q27p5; go_simp <;> with_reducible rfl)
      try simp only [q27p5, Act.put, List.setIfInBounds_toArray, List.set_cons_zero, List.set_cons_succ]
      refine wpAnyH_done (by kernel_rfl) ?_ _
      obtain ⟨⟨s40, s41, s50, s51, s52⟩, ⟨t40, t41, t50, t51, t52⟩, hntE, hpkE, hbE⟩ := HEO.out _ hHeld
      obtain ⟨⟨y40, y41, y50, y51, y52⟩, ⟨z40, z41, z50, z51, z52⟩, _⟩ := HEO.out Y (Kept.refl Y)
      go_wp2_with fail
      refine bodyPost_ret (v := .tuple #[.agg #[.slice qar Nr qcr, .slice aar Mr acr], .agg #[.int .i64 xr, .int .i64 zr, .slice dar Lr dcr], .int .i64 (n.cutE (A : Int) (B : Int) false).2]) (by simp [results, Try.results27, go_sem, y40, y41, y50, y51, y52]) rfl ?_
      rw [← HR0.out]
      exact ⟨_, _, rfl, hntE, hpkE, hbE⟩
end Go.Proofs.Ytjancbjjeemedaa
