/- A block is absorbed. -/
import Derived.Test.YtnddejhbncgchaaDoorSched
namespace Go.Proofs.YtnddejhbncgchaaDoor
open Go.RowKit

/-- A whole array goes into a block of the call's own: the world behind it is a letter. -/
theorem store_new {P : Program} {ops : Array Oper} {rest : List Oper} {op : Oper} {a : Act} {w w0 : World} {Q : Exit → Act → World → Prop} (hgd : op.guard = none) (ty : TypeId) (x y : Operand) (ho : op.op = .store ty x y)
    (B b : Nat) (cs old : List Value) (hx : a.eval x = .pointer (some ⟨b, 0, none⟩)) (hy : a.eval y = .agg cs.toArray) (hB : Below B w0 w) (hb : B ≤ b) (ht : Arr w b old) (hl : cs.length = old.length)
    (hi : (P.info? ty).map (·.size) = some cs.length) (h1 : ∀ v ∈ cs, v.oneCell' = true) (h : ∀ W, Below B w0 W → Arr W b cs → w.heap.size ≤ W.heap.size → wpList P ops Q rest (a.put op.dst undef) W) : wpList P ops Q (op :: rest) a w := by
  refine wpList_store_mid hgd ty x y ho b 0 cs.toArray hx hy (by rw [List.size_toArray, hl]; exact ht.there) (by simpa using hi) (all_oneCell_toArray h1) ?_
  exact h _ (below_setCells hb _ _ _ hB) (ht.stored hl) (below_setCells (B := 0) (Nat.zero_le _) cs.toArray.toList 0 w (Below.refl 0 w)).size

/-- The variable of the numbers K. -/
def Tab (W : World) : Prop := ∀ i, i < 64 → W.cell? ⟨0, i, none⟩ = some (.int .u32 (ks.getD i 0).toNat)
theorem Tab.below {W W' : World} {B : Nat} (h : Tab W) (hb : Below B W W') (h0 : 0 < B) : Tab W' := fun i hi => (hb.cell (p := ⟨0, i, none⟩) h0).trans (h i hi)
theorem St.list_len (s : St) : s.list.length = 8 := rfl

theorem w_not' (x : (BitVec 32)) : bits .xor .u32 (if IntKind.u32.signed = true then -1 else IntKind.u32.max) (x.toNat : Int) = ((~~~x).toNat : Int) := by
  rw [if_neg (by decide)]; exact w_not x
def pOf (S : St) (k x : (BitVec 32)) : (BitVec 32) := S.h + (ror S.e 6 ^^^ ror S.e 11 ^^^ ror S.e 25) + ((S.e &&& S.f) ^^^ (~~~S.e &&& S.g)) + k + x
def qOf (S : St) : (BitVec 32) := (ror S.a 2 ^^^ ror S.a 13 ^^^ ror S.a 22) + ((S.a &&& S.b) ^^^ (S.a &&& S.c) ^^^ (S.b &&& S.c))
theorem p_form (S : St) (k x : (BitVec 32)) : (((S.h.toNat : Int) + bits .xor .u32 (bits .xor .u32 ((ror S.e 6).toNat : Int) ((ror S.e 11).toNat : Int)) ((ror S.e 25).toNat : Int)
      + bits .xor .u32 (bits .and .u32 (S.e.toNat : Int) (S.f.toNat : Int)) (bits .and .u32 (bits .xor .u32 (if IntKind.u32.signed = true then -1 else IntKind.u32.max) (S.e.toNat : Int)) (S.g.toNat : Int)) + (k.toNat : Int)) % (4294967296 : Int)
      + (x.toNat : Int)) % (4294967296 : Int) = ((pOf S k x).toNat : Int) := by
  simp only [w_not', w_xor, w_and, pOf, BitVec.toNat_add]
  omega
theorem q_form (S : St) : (bits .xor .u32 (bits .xor .u32 ((ror S.a 2).toNat : Int) ((ror S.a 13).toNat : Int)) ((ror S.a 22).toNat : Int)
      + bits .xor .u32 (bits .xor .u32 (bits .and .u32 (S.a.toNat : Int) (S.b.toNat : Int)) (bits .and .u32 (S.a.toNat : Int) (S.c.toNat : Int))) (bits .and .u32 (S.b.toNat : Int) (S.c.toNat : Int))) % (4294967296 : Int) = ((qOf S).toNat : Int) := by
  simp only [w_xor, w_and, qOf, BitVec.toNat_add]
  omega
theorem round_is (S : St) (k x : (BitVec 32)) : round S k x = ⟨pOf S k x + qOf S, S.a, S.b, S.c, S.d + pOf S k x, S.e, S.f, S.g⟩ := rfl
/-- The state while the sums are laid. -/
def upd (s S : St) (i : Nat) : List (BitVec 32) := (s.add S).list.take i ++ s.list.drop i
/-- Nothing has turned but block sb. -/
def But (w1 : World) (sb : Nat) (W : World) : Prop := w1.grownBy W (some sb)
theorem But.drew {w1 W : World} {sb : Nat} (h : But w1 sb W) : But w1 sb W.drew := ⟨h.os, h.tape, h.output, h.size, h.block⟩
theorem But.set {w1 W : World} {sb : Nat} (h : But w1 sb W) (i : Nat) (v : Value) : But w1 sb (W.setCell ⟨sb, i, none⟩ v) :=
  ⟨h.os, h.tape, h.output, by simpa [World.setCell] using h.size, fun k hk hne => by
    rw [← h.block k hk hne]
    exact Below.heap_setCell _ _ _ _ (by first | exact fun e => hne (congrArg some e) | exact fun e => hne (congrArg some e.symm))⟩
theorem gtrans {a b c : World} {row : Option Nat} (h : a.grownBy b row) (k : b.grownBy c row) : a.grownBy c row :=
  ⟨k.os.trans h.os, k.tape.trans h.tape, k.output.trans h.output, Nat.le_trans h.size k.size, fun i hi hne => (k.block i (Nat.lt_of_lt_of_le hi h.size) hne).trans (h.block i hi hne)⟩
theorem gbelow {a b : World} {row : Option Nat} (h : Below a.heap.size a b) : a.grownBy b row := ⟨h.os, h.tape, h.output, h.size, fun i hi _ => h.block i hi⟩
theorem vint {k : IntKind} {a b : Int} (h : a = b) : Value.int k a = .int k b := by rw [h]
theorem prorQ (x : (BitVec 32)) (n : Int) (h : n = 2 ∨ n = 6 ∨ n = 7 ∨ n = 11 ∨ n = 13 ∨ n = 17 ∨ n = 18 ∨ n = 19 ∨ n = 22 ∨ n = 25) (w : World) : Calls Tryd.prog 48 #[.int .u32 x.toNat, .int .i64 n] w fun e w' => e = .returned (.int .u32 (ror x n.toNat).toNat) ∧ ∃ q, w' = w.drewN q :=
  (pror x n h w).mono fun _ _ h => ⟨h.1, 0, h.2⟩

set_option maxRecDepth 100000 in
set_option maxHeartbeats 4000000 in
theorem absorb_any (w : World) (sb db off : Nat) (s : St) (blk : List UInt8) (hT : Tab w) (h0 : 0 < w.heap.size) (hs : Arr w sb (ws s.list)) (hsb : sb < w.heap.size) (hl : blk.length = 64) (hb : BytesIn w db off blk) (hdb : db < w.heap.size) :
    Calls Tryd.prog 28 #[.pointer (some ⟨sb, 0, none⟩), .slice (some ⟨db, off, none⟩) 64 64] w fun e w' => (∃ v, e = .returned v) ∧ Arr w' sb (ws (press s blk).list) ∧ w.grownBy w' (some sb) := by
  have HC := Lib.hid (sched_any w db off blk hl hb hdb)
  have hcl : (ws (sch blk 64)).length = 64 := by rw [ws_len, sch_len]
  have ho1 := all_oneCell_toArray (one_ws (sch blk 64))
  obtain ⟨cs, hcs⟩ : ∃ cs, ws (sch blk 64) = cs := ⟨_, rfl⟩
  rw [hcs] at hcl ho1
  have hz2 : (Tryd.prog.info? 69).map (·.size) = some cs.length := by rw [hcl]; exact Tryd.info69
  have ho2 : ∀ v ∈ cs, v.oneCell' = true := by rw [← hcs]; exact one_ws _
  have HT := Lib.hid hT
  have HS := Lib.hid hs
  have HZ2 := Lib.hid hz2
  have HO2 := Lib.hid ho2
  have HCL := Lib.hid hcl
  have HCS := Lib.hid hcs
  clear hT hs hz2 ho1 ho2 hcl hcs hb hl
  go_enter Tryd.func28, Tryd.ntmps28
  go_wp2_with fail
  refine HC.out.mono ?_
  rw [HCS.out]
  rintro e w2 ⟨rfl, hB2⟩
  have HB2 := Lib.hid hB2
  clear hB2
  go_wp2_with (refine store_new rfl 69 _ _ (by rfl) w2.heap.size w2.heap.size cs _ (by rfl) (by rfl) ((Below.refl w2.heap.size w2).alloc (Nat.le_refl _) _) (Nat.le_refl _) (Arr.new w2 _ 69) (by rw [HCL.out]; rfl) HZ2.out HO2.out ?_; intro W3 hB3 hA3 hz3)
  have hk3 : Below w.heap.size w W3 := HB2.out.trans (hB3.mono HB2.out.size)
  have hlt3 : w2.heap.size < W3.heap.size := by simp at hz3; omega
  have hS3 := HS.out.below hk3 hsb
  have hT3 := HT.out.below hk3 h0
  have c0 : W3.cell? ⟨sb, 0, none⟩ = some (.int .u32 s.a.toNat) := hS3.cell rfl
  have c1 : W3.cell? ⟨sb, 1, none⟩ = some (.int .u32 s.b.toNat) := hS3.cell rfl
  have c2 : W3.cell? ⟨sb, 2, none⟩ = some (.int .u32 s.c.toNat) := hS3.cell rfl
  have c3 : W3.cell? ⟨sb, 3, none⟩ = some (.int .u32 s.d.toNat) := hS3.cell rfl
  have c4 : W3.cell? ⟨sb, 4, none⟩ = some (.int .u32 s.e.toNat) := hS3.cell rfl
  have c5 : W3.cell? ⟨sb, 5, none⟩ = some (.int .u32 s.f.toNat) := hS3.cell rfl
  have c6 : W3.cell? ⟨sb, 6, none⟩ = some (.int .u32 s.g.toNat) := hS3.cell rfl
  have c7 : W3.cell? ⟨sb, 7, none⟩ = some (.int .u32 s.h.toNat) := hS3.cell rfl
  have HA3 := Lib.hid hA3
  have HS3 := Lib.hid hS3
  have HT3 := Lib.hid hT3
  have HK3 := Lib.hid hk3
  clear hA3 hS3 hT3 hk3 hB3 hz3
  go_wp2
  go_quiet (fail)
  obtain ⟨W4, hW4⟩ : ∃ W4, W4 = W3.drewN nq := ⟨_, rfl⟩
  rw [← hW4]
  have hK4 : Kept W3 W4 := by rw [hW4]; exact Kept.drewN (Kept.refl _) _
  have HK4 := Lib.hid hK4
  clear c0 c1 c2 c3 c4 c5 c6 c7 hW4 hK4
  go_wp2
  go_loopw [5, 6, 7, 8, 9, 10, 11, 12, 52] (fun a b c d e f g h i wr => ∃ (t : Nat) (S : St), t ≤ 64 ∧ S = rnds (sch blk 64) s t ∧ a = .int .u32 S.a.toNat ∧ b = .int .u32 S.b.toNat ∧ c = .int .u32 S.c.toNat ∧ d = .int .u32 S.d.toNat
      ∧ e = .int .u32 S.e.toNat ∧ f = .int .u32 S.f.toNat ∧ g = .int .u32 S.g.toNat ∧ h = .int .u32 S.h.toNat ∧ i = .int .i64 t ∧ Kept W3 wr)
    (fun _ _ _ _ _ _ _ _ i _ => 64 - (intOf i).toNat)
  case atStart => exact ⟨0, s, by omega, rfl, rfl, rfl, rfl, rfl, rfl, rfl, rfl, rfl, rfl, HK4.out⟩
  case round =>
    obtain ⟨t, S, ht, hS, rfl, rfl, rfl, rfl, rfl, rfl, rfl, rfl, rfl, hK⟩ := hrel
    by_cases hlt : t < 64
    · have hd : decide ((t : Int) < 64) = true := by simp; omega
      obtain ⟨k, hk⟩ : ∃ k, ks.getD t 0 = k := ⟨_, rfl⟩
      obtain ⟨x, hx⟩ : ∃ x, (sch blk 64).getD t 0 = x := ⟨_, rfl⟩
      have kt : wr.cell? ⟨0, t, none⟩ = some (.int .u32 k.toNat) := by
        rw [← hk]; exact (HT3.out.below hK.below (by omega)) t hlt
      have wt : wr.cell? ⟨w2.heap.size, t, none⟩ = some (.int .u32 x.toNat) := by
        have hg : cs[t]? = some (.int .u32 x.toNat) := by
          rw [← HCS.out, ← hx]
          have := sch_len blk 64
          simp [ws, List.getD, List.getElem?_eq_getElem (show t < (sch blk 64).length by omega)]
        exact (HA3.out.below hK.below hlt3).cell hg
      have b5 : (t : Int) < 64 := by omega
      have b6 : (0 : Int) ≤ (t : Int) := by omega
      have HSS := Lib.hid hS
      have HKK := Lib.hid hk
      have HXX := Lib.hid hx
      have HK := Lib.hid hK
      clear hS hk hx hK
      go_wp2
      go_quiet (first | (go_at_call 48; exact Calls.quiet_of (prorQ _ _ (by decide) _)))
      obtain ⟨p, hp⟩ : ∃ p, pOf S k x = p := ⟨_, rfl⟩
      rw [p_form, hp]
      have HP := Lib.hid hp
      have HQ := Lib.hid (q_form S)
      obtain ⟨W5, hW5⟩ : ∃ W5, W5 = wr.drewN nq := ⟨_, rfl⟩
      rw [← hW5]
      have HK5 : Hid (Kept W3 W5) := by show Kept W3 W5; rw [hW5]; exact Kept.drewN HK.out _
      clear hp kt wt hW5
      go_wp2_with (first | (go_at_call 48; refine (pror _ _ (by decide) _).mono ?_; rintro e w' ⟨rfl, rfl⟩))
      go_roundw
      case rel =>
        have hr : rnds (sch blk 64) s (t + 1) = round S k x := by rw [rnds, HKK.out, HXX.out, ← HSS.out]
        refine ⟨t + 1, rnds (sch blk 64) s (t + 1), by omega, rfl, ?_, ?_, ?_, ?_, ?_, ?_, ?_, ?_, by simp, HK5.out⟩ <;> rw [hr, round_is, HP.out] <;> first | rfl | (refine vint ?_; simp only [w_xor, w_and, qOf, BitVec.toNat_add]; omega)
      case measure => simp [intOf]; omega
    · obtain rfl : t = 64 := by omega
      have hS4 := HS3.out.below hK.below (by have := HK3.out.size; omega)
      have hSb : sb < wr.heap.size := by have := HK3.out.size; have := hK.size; omega
      have hG : But W3 sb wr := gbelow hK.below
      have HSS := Lib.hid hS
      clear hS hK
      go_wp2
      go_loopw [124] (fun i wr => ∃ j : Nat, i = .int .i64 j ∧ j ≤ 8 ∧ Arr wr sb (ws (upd s S j)) ∧ But W3 sb wr) (fun i _ => 8 - (intOf i).toNat)
      case atStart => exact ⟨0, rfl, by omega, hS4, hG⟩
      case round =>
        obtain ⟨j, rfl, hj, hA, hG'⟩ := hrel
        have hlt : j = 0 ∨ j = 1 ∨ j = 2 ∨ j = 3 ∨ j = 4 ∨ j = 5 ∨ j = 6 ∨ j = 7 ∨ j = 8 := by omega
        clear hS4 hG hj
        rcases hlt with rfl | rfl | rfl | rfl | rfl | rfl | rfl | rfl | rfl
        · have cj : wr.cell? ⟨sb, 0, none⟩ = some (.int .u32 s.a.toNat) := hA.cell rfl
          have ix : ∀ W : World, (Instr.index 50 (.agg #[.int .u32 S.a.toNat, .int .u32 S.b.toNat, .int .u32 S.c.toNat, .int .u32 S.d.toNat, .int .u32 S.e.toNat, .int .u32 S.f.toNat, .int .u32 S.g.toNat, .int .u32 S.h.toNat]) (.int .i64 0)).run Tryd.prog W = .ok (.int .u32 S.a.toNat) W := fun _ => by kernel_rfl
          have fj : wr.frozen? ⟨sb, 0, none⟩ = false := hA.frozen (by simp [ws, upd, St.list])
          have key : ∀ E : Int, E = ((s.a + S.a).toNat : Int) → Arr (wr.setCell ⟨sb, 0, none⟩ (.int .u32 E)) sb (ws (upd s S 1)) ∧ But W3 sb (wr.setCell ⟨sb, 0, none⟩ (.int .u32 E)) := by
            rintro _ rfl
            exact ⟨hA.set 0 _, hG'.set 0 _⟩
          have KEY := Lib.hid key
          clear key hA hG'
          go_wp2
          go_region
          go_wp2
          go_roundw
          case rel => exact ⟨1, rfl, by omega, Arr.drew (KEY.out _ (by rw [← IntKind.wrap_u32', w_add])).1, But.drew (KEY.out _ (by rw [← IntKind.wrap_u32', w_add])).2⟩
          case measure => simp [intOf]
        · have cj : wr.cell? ⟨sb, 1, none⟩ = some (.int .u32 s.b.toNat) := hA.cell rfl
          have ix : ∀ W : World, (Instr.index 50 (.agg #[.int .u32 S.a.toNat, .int .u32 S.b.toNat, .int .u32 S.c.toNat, .int .u32 S.d.toNat, .int .u32 S.e.toNat, .int .u32 S.f.toNat, .int .u32 S.g.toNat, .int .u32 S.h.toNat]) (.int .i64 1)).run Tryd.prog W = .ok (.int .u32 S.b.toNat) W := fun _ => by kernel_rfl
          have fj : wr.frozen? ⟨sb, 1, none⟩ = false := hA.frozen (by simp [ws, upd, St.list])
          have key : ∀ E : Int, E = ((s.b + S.b).toNat : Int) → Arr (wr.setCell ⟨sb, 1, none⟩ (.int .u32 E)) sb (ws (upd s S 2)) ∧ But W3 sb (wr.setCell ⟨sb, 1, none⟩ (.int .u32 E)) := by
            rintro _ rfl
            exact ⟨hA.set 1 _, hG'.set 1 _⟩
          have KEY := Lib.hid key
          clear key hA hG'
          go_wp2
          go_region
          go_wp2
          go_roundw
          case rel => exact ⟨2, rfl, by omega, Arr.drew (KEY.out _ (by rw [← IntKind.wrap_u32', w_add])).1, But.drew (KEY.out _ (by rw [← IntKind.wrap_u32', w_add])).2⟩
          case measure => simp [intOf]
        · have cj : wr.cell? ⟨sb, 2, none⟩ = some (.int .u32 s.c.toNat) := hA.cell rfl
          have ix : ∀ W : World, (Instr.index 50 (.agg #[.int .u32 S.a.toNat, .int .u32 S.b.toNat, .int .u32 S.c.toNat, .int .u32 S.d.toNat, .int .u32 S.e.toNat, .int .u32 S.f.toNat, .int .u32 S.g.toNat, .int .u32 S.h.toNat]) (.int .i64 2)).run Tryd.prog W = .ok (.int .u32 S.c.toNat) W := fun _ => by kernel_rfl
          have fj : wr.frozen? ⟨sb, 2, none⟩ = false := hA.frozen (by simp [ws, upd, St.list])
          have key : ∀ E : Int, E = ((s.c + S.c).toNat : Int) → Arr (wr.setCell ⟨sb, 2, none⟩ (.int .u32 E)) sb (ws (upd s S 3)) ∧ But W3 sb (wr.setCell ⟨sb, 2, none⟩ (.int .u32 E)) := by
            rintro _ rfl
            exact ⟨hA.set 2 _, hG'.set 2 _⟩
          have KEY := Lib.hid key
          clear key hA hG'
          go_wp2
          go_region
          go_wp2
          go_roundw
          case rel => exact ⟨3, rfl, by omega, Arr.drew (KEY.out _ (by rw [← IntKind.wrap_u32', w_add])).1, But.drew (KEY.out _ (by rw [← IntKind.wrap_u32', w_add])).2⟩
          case measure => simp [intOf]
        · have cj : wr.cell? ⟨sb, 3, none⟩ = some (.int .u32 s.d.toNat) := hA.cell rfl
          have ix : ∀ W : World, (Instr.index 50 (.agg #[.int .u32 S.a.toNat, .int .u32 S.b.toNat, .int .u32 S.c.toNat, .int .u32 S.d.toNat, .int .u32 S.e.toNat, .int .u32 S.f.toNat, .int .u32 S.g.toNat, .int .u32 S.h.toNat]) (.int .i64 3)).run Tryd.prog W = .ok (.int .u32 S.d.toNat) W := fun _ => by kernel_rfl
          have fj : wr.frozen? ⟨sb, 3, none⟩ = false := hA.frozen (by simp [ws, upd, St.list])
          have key : ∀ E : Int, E = ((s.d + S.d).toNat : Int) → Arr (wr.setCell ⟨sb, 3, none⟩ (.int .u32 E)) sb (ws (upd s S 4)) ∧ But W3 sb (wr.setCell ⟨sb, 3, none⟩ (.int .u32 E)) := by
            rintro _ rfl
            exact ⟨hA.set 3 _, hG'.set 3 _⟩
          have KEY := Lib.hid key
          clear key hA hG'
          go_wp2
          go_region
          go_wp2
          go_roundw
          case rel => exact ⟨4, rfl, by omega, Arr.drew (KEY.out _ (by rw [← IntKind.wrap_u32', w_add])).1, But.drew (KEY.out _ (by rw [← IntKind.wrap_u32', w_add])).2⟩
          case measure => simp [intOf]
        · have cj : wr.cell? ⟨sb, 4, none⟩ = some (.int .u32 s.e.toNat) := hA.cell rfl
          have ix : ∀ W : World, (Instr.index 50 (.agg #[.int .u32 S.a.toNat, .int .u32 S.b.toNat, .int .u32 S.c.toNat, .int .u32 S.d.toNat, .int .u32 S.e.toNat, .int .u32 S.f.toNat, .int .u32 S.g.toNat, .int .u32 S.h.toNat]) (.int .i64 4)).run Tryd.prog W = .ok (.int .u32 S.e.toNat) W := fun _ => by kernel_rfl
          have fj : wr.frozen? ⟨sb, 4, none⟩ = false := hA.frozen (by simp [ws, upd, St.list])
          have key : ∀ E : Int, E = ((s.e + S.e).toNat : Int) → Arr (wr.setCell ⟨sb, 4, none⟩ (.int .u32 E)) sb (ws (upd s S 5)) ∧ But W3 sb (wr.setCell ⟨sb, 4, none⟩ (.int .u32 E)) := by
            rintro _ rfl
            exact ⟨hA.set 4 _, hG'.set 4 _⟩
          have KEY := Lib.hid key
          clear key hA hG'
          go_wp2
          go_region
          go_wp2
          go_roundw
          case rel => exact ⟨5, rfl, by omega, Arr.drew (KEY.out _ (by rw [← IntKind.wrap_u32', w_add])).1, But.drew (KEY.out _ (by rw [← IntKind.wrap_u32', w_add])).2⟩
          case measure => simp [intOf]
        · have cj : wr.cell? ⟨sb, 5, none⟩ = some (.int .u32 s.f.toNat) := hA.cell rfl
          have ix : ∀ W : World, (Instr.index 50 (.agg #[.int .u32 S.a.toNat, .int .u32 S.b.toNat, .int .u32 S.c.toNat, .int .u32 S.d.toNat, .int .u32 S.e.toNat, .int .u32 S.f.toNat, .int .u32 S.g.toNat, .int .u32 S.h.toNat]) (.int .i64 5)).run Tryd.prog W = .ok (.int .u32 S.f.toNat) W := fun _ => by kernel_rfl
          have fj : wr.frozen? ⟨sb, 5, none⟩ = false := hA.frozen (by simp [ws, upd, St.list])
          have key : ∀ E : Int, E = ((s.f + S.f).toNat : Int) → Arr (wr.setCell ⟨sb, 5, none⟩ (.int .u32 E)) sb (ws (upd s S 6)) ∧ But W3 sb (wr.setCell ⟨sb, 5, none⟩ (.int .u32 E)) := by
            rintro _ rfl
            exact ⟨hA.set 5 _, hG'.set 5 _⟩
          have KEY := Lib.hid key
          clear key hA hG'
          go_wp2
          go_region
          go_wp2
          go_roundw
          case rel => exact ⟨6, rfl, by omega, Arr.drew (KEY.out _ (by rw [← IntKind.wrap_u32', w_add])).1, But.drew (KEY.out _ (by rw [← IntKind.wrap_u32', w_add])).2⟩
          case measure => simp [intOf]
        · have cj : wr.cell? ⟨sb, 6, none⟩ = some (.int .u32 s.g.toNat) := hA.cell rfl
          have ix : ∀ W : World, (Instr.index 50 (.agg #[.int .u32 S.a.toNat, .int .u32 S.b.toNat, .int .u32 S.c.toNat, .int .u32 S.d.toNat, .int .u32 S.e.toNat, .int .u32 S.f.toNat, .int .u32 S.g.toNat, .int .u32 S.h.toNat]) (.int .i64 6)).run Tryd.prog W = .ok (.int .u32 S.g.toNat) W := fun _ => by kernel_rfl
          have fj : wr.frozen? ⟨sb, 6, none⟩ = false := hA.frozen (by simp [ws, upd, St.list])
          have key : ∀ E : Int, E = ((s.g + S.g).toNat : Int) → Arr (wr.setCell ⟨sb, 6, none⟩ (.int .u32 E)) sb (ws (upd s S 7)) ∧ But W3 sb (wr.setCell ⟨sb, 6, none⟩ (.int .u32 E)) := by
            rintro _ rfl
            exact ⟨hA.set 6 _, hG'.set 6 _⟩
          have KEY := Lib.hid key
          clear key hA hG'
          go_wp2
          go_region
          go_wp2
          go_roundw
          case rel => exact ⟨7, rfl, by omega, Arr.drew (KEY.out _ (by rw [← IntKind.wrap_u32', w_add])).1, But.drew (KEY.out _ (by rw [← IntKind.wrap_u32', w_add])).2⟩
          case measure => simp [intOf]
        · have cj : wr.cell? ⟨sb, 7, none⟩ = some (.int .u32 s.h.toNat) := hA.cell rfl
          have ix : ∀ W : World, (Instr.index 50 (.agg #[.int .u32 S.a.toNat, .int .u32 S.b.toNat, .int .u32 S.c.toNat, .int .u32 S.d.toNat, .int .u32 S.e.toNat, .int .u32 S.f.toNat, .int .u32 S.g.toNat, .int .u32 S.h.toNat]) (.int .i64 7)).run Tryd.prog W = .ok (.int .u32 S.h.toNat) W := fun _ => by kernel_rfl
          have fj : wr.frozen? ⟨sb, 7, none⟩ = false := hA.frozen (by simp [ws, upd, St.list])
          have key : ∀ E : Int, E = ((s.h + S.h).toNat : Int) → Arr (wr.setCell ⟨sb, 7, none⟩ (.int .u32 E)) sb (ws (upd s S 8)) ∧ But W3 sb (wr.setCell ⟨sb, 7, none⟩ (.int .u32 E)) := by
            rintro _ rfl
            exact ⟨hA.set 7 _, hG'.set 7 _⟩
          have KEY := Lib.hid key
          clear key hA hG'
          go_wp2
          go_region
          go_wp2
          go_roundw
          case rel => exact ⟨8, rfl, by omega, Arr.drew (KEY.out _ (by rw [← IntKind.wrap_u32', w_add])).1, But.drew (KEY.out _ (by rw [← IntKind.wrap_u32', w_add])).2⟩
          case measure => simp [intOf]
        · go_wp2

          go_end0
          refine ⟨⟨_, rfl⟩, ?_, ?_⟩
          · rw [press, ← HSS.out]; exact hA
          · exact gtrans (gbelow HK3.out) hG'
end Go.Proofs.YtnddejhbncgchaaDoor
