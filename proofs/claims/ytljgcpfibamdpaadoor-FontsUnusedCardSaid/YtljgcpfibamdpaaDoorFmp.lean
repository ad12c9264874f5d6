/- Fonts: the map from pairs of code points to how much nearer they stand. -/
import Derived.Test.YtljgcpfibamdpaaDoorFwo
import Derived.Maps.OwnOps
import Derived.Maps.Views
import Derived.WideKeyPair
import Derived.DeepKeys4
namespace Go.Proofs.YtljgcpfibamdpaaDoor
open Go.RowKit Go.Maps Go.WideMaps

theorem Tryd.karr : ArrKey Tryd.prog 87 3 2 := ⟨Tryd.underlying87, by kernel_rfl, by kernel_rfl, by kernel_rfl⟩
theorem Tryd.klaw : Keyed Tryd.prog 87 := Keyed.of_law Tryd.karr.law
theorem Tryd.kzero (w : World) : (zeroValue 3).run Tryd.prog w = .ok (.int .i64 0) w := by kernel_rfl
theorem Tryd.ksz : ∃ m, Tryd.prog.types.size = m + 1 := ⟨Tryd.prog.types.size - 1, by have : 0 < Tryd.prog.types.size := of_decide_eq_true (by kernel_rfl); omega⟩
theorem in64_wf {n : Int} (h : In64 n) : (Lit.int .i64 n).wf = true := by
  have e1 : IntKind.i64.min = -9223372036854775808 := rfl
  have e2 : IntKind.i64.max = 9223372036854775807 := rfl
  simpa [Lit.wf, e1, e2, In64] using h
/-- What a pair reads as. -/
def klit (x y : Int) : Lit := .string (keyBytes [.int .i64 x, .int .i64 y])
theorem hkey {x y : Int} (hx : In64 x) (hy : In64 y) : keyOf Tryd.prog 87 (.agg #[.int .i64 x, .int .i64 y]) = some (klit x y) := keyOf_pair Tryd.karr Tryd.underlying3 Tryd.ksz (in64_wf hx) (in64_wf hy)
theorem klit_inj {x y x' y' : Int} (hx : In64 x) (hy : In64 y) (hx' : In64 x') (hy' : In64 y') (h : klit x y = klit x' y') : x = x' ∧ y = y' := by
  have := Tryd.klaw.inj (hkey hx hy) (by rw [h]; exact hkey hx' hy')
  simpa using this
theorem klit_key (x y : Int) : WideAt.IsKeyLit (klit x y) := trivial
/-- Block b is a map that says what the first k pairs say. -/
def MapK (w : World) (b : Nat) (l : List Tri) (k : Nat) : Prop :=
  ∃ D : DataW Unit, w.ownsMap Tryd.prog 87 (plainElem Tryd.prog 3) b k D ∧ IsMap D ∧ ∀ x y, In64 x → In64 y → D.atKey (klit x y) (.lit (.int .i64 0)) = .lit (.int .i64 (lastN l x y k))
theorem MapK.kept {w w' : World} {b k : Nat} {l : List Tri} {row : Option Nat} (h : MapK w b l k) (hg : w.grownBy w' row) (hne : some b ≠ row) : MapK w' b l k := by
  obtain ⟨D, h1, h2, h3⟩ := h
  exact ⟨D, h1.kept hg hne, h2, h3⟩
theorem MapK.next {w w' : World} {b k : Nat} {l : List Tri} (h : MapK w b l k) (hb : Below w.heap.size w w') : MapK w' b l k := h.kept (gbelow (row := none) hb) (by simp)
theorem MapK.lt {w : World} {b k : Nat} {l : List Tri} (h : MapK w b l k) : b < w.heap.size := by
  obtain ⟨D, h1, _⟩ := h
  exact h1.lt
theorem MapK.below {w w' : World} {B b k : Nat} {l : List Tri} (h : MapK w b l k) (hb : Below B w w') (hlt : b < B) : MapK w' b l k := by
  obtain ⟨D, ⟨es, clock, h1, h2⟩, h3⟩ := h
  exact ⟨D, ⟨es, clock, (hb.block b hlt).trans h1, h2⟩, h3⟩
theorem MapK.made (w : World) (l : List Tri) : MapK (w.alloc (.map #[] 0)) w.heap.size l 0 :=
  ⟨.map [], World.ownsMap_made _ _ _ _, ⟨[], rfl⟩, fun _ _ _ _ => rfl⟩
theorem MapK.put {w' : World} {b k : Nat} {l : List Tri} {D : DataW Unit} (hm : IsMap D) (hat : ∀ x y, In64 x → In64 y → D.atKey (klit x y) (.lit (.int .i64 0)) = .lit (.int .i64 (lastN l x y k)))
    (hi : (l.getD k tri0).in64) (hown : w'.ownsMap Tryd.prog 87 (plainElem Tryd.prog 3) b (k + 1) (D.put (klit (l.getD k tri0).a (l.getD k tri0).b) (.lit (.int .i64 (l.getD k tri0).c)))) : MapK w' b l (k + 1) := by
  refine ⟨_, hown, ?_, fun x y hx hy => ?_⟩
  · obtain ⟨es, rfl⟩ := hm
    exact ⟨_, rfl⟩
  · unfold lastN
    by_cases h : (l.getD k tri0).a = x ∧ (l.getD k tri0).b = y
    · rw [if_pos h, ← h.1, ← h.2, atKey_put_same hm (klit_key _ _)]
    · rw [if_neg h, atKey_put_other (fun e => h (by have := klit_inj hx hy hi.1 hi.2.1 e; exact ⟨this.1.symm, this.2.symm⟩)), hat x y hx hy]
theorem run_makeMap_hint (n : Int) (w : World) : (Instr.makeMap 84 (some (.int .i64 n))).run Tryd.prog w = .ok (.map (some w.heap.size)) (w.alloc (.map #[] 0)) := by
  simp [Instr.makeMap, run_underlying Tryd.underlying84, asInt]
  rfl
set_option maxRecDepth 100000 in
set_option maxHeartbeats 4000000 in
theorem kernsOf_any (w : World) (v : Value) (f : Fo) (h : FAt w w.heap.size v f) :
    Calls Tryd.prog 58 #[v] w fun e w' => ∃ b, e = .returned (.map (some b)) ∧ w.heap.size ≤ b ∧ MapK w' b f.ks f.ks.length ∧ Below w.heap.size w w' := by
  obtain ⟨ga, gc, ka, kc, rfl, -, -, hk1, hk2, -, -, hk⟩ := h.open
  unfold maxLen at hk2
  have HT := Lib.hid hk
  obtain ⟨l, hl⟩ : ∃ l, f.ks = l := ⟨_, rfl⟩
  obtain ⟨G, hG⟩ : ∃ N, f.gs.length = N := ⟨_, rfl⟩
  obtain ⟨o, ho⟩ : ∃ o, f.o = o := ⟨_, rfl⟩
  rw [hl] at HT hk1 ⊢
  obtain ⟨M, hM⟩ : ∃ N, l.length = N := ⟨_, rfl⟩
  have HM := Lib.hid hM
  rw [hM] at HT hk1 ⊢
  rw [hG, ho]
  clear hk h hl hG ho hM
  have hmm := run_makeMap_hint (M : Int)
  go_enter Tryd.func58, Tryd.ntmps58
  go_wp2_with fail
  have hm2 := MapK.made (w.alloc (.cells #[.slice ga G gc, .int .i64 o, .slice ka M kc] 36)) l
  have hB2 : Below w.heap.size w ((w.alloc (.cells #[.slice ga G gc, .int .i64 o, .slice ka M kc] 36)).alloc (.map #[] 0)) := ((Below.refl _ _).alloc (Nat.le_refl _) _).alloc (by simp) _
  simp only [World.size_alloc] at hm2
  obtain ⟨W2, hW2⟩ : ∃ W, (w.alloc (.cells #[.slice ga G gc, .int .i64 o, .slice ka M kc] 36)).alloc (.map #[] 0) = W := ⟨_, rfl⟩
  rw [hW2] at hm2 hB2 ⊢
  clear hW2 hmm
  have HM2 := Lib.hid hm2
  have HB2 := Lib.hid hB2
  clear hm2 hB2
  go_loopw [13] (fun s13 wr => ∃ j : Nat, s13 = .int .i64 j ∧ j ≤ M ∧ Hid (Below w.heap.size w wr) ∧ Hid (MapK wr (w.heap.size + 1) l j)) (fun s13 _ => M - (intOf s13).toNat)
  case atStart => exact ⟨0, rfl, by omega, HB2, HM2⟩
  case round =>
    obtain ⟨j, rfl, hj, HB, HMJ⟩ := hrel
    by_cases hlt : j < M
    · have d : decide ((j : Int) < (M : Int)) = true := by simp; omega
      have ij : (j : Int) < (M : Int) := by omega
      have hjl : j < l.length := by rw [HM.out]; exact hlt
      obtain ⟨b, off, rfl, hbl, hi, p0, p1, p2⟩ := (HT.out.below HB.out).got j hjl
      obtain ⟨D, hown, hD, hat⟩ := HMJ.out
      have HPUT : Hid (∀ w', w'.ownsMap Tryd.prog 87 (plainElem Tryd.prog 3) (w.heap.size + 1) (j + 1) (D.put (klit (l.getD j tri0).a (l.getD j tri0).b) (.lit (.int .i64 (l.getD j tri0).c))) → MapK w' (w.heap.size + 1) l (j + 1)) := Lib.hid (fun w' ho => MapK.put hD hat hi ho)
      obtain ⟨hi1, hi2, hi3⟩ := hi
      have HKEY := Lib.hid (hkey hi1 hi2)
      have HWF := Lib.hid (in64_wf hi3)
      have hlw := hown.lt
      obtain ⟨x, hx⟩ : ∃ x, (l.getD j tri0).a = x := ⟨_, rfl⟩
      obtain ⟨y, hy⟩ : ∃ x, (l.getD j tri0).b = x := ⟨_, rfl⟩
      obtain ⟨z, hz⟩ : ∃ x, (l.getD j tri0).c = x := ⟨_, rfl⟩
      rw [hx] at p0 HKEY HPUT
      rw [hy] at p1 HKEY HPUT
      rw [hz] at p2 HWF HPUT
      have HOWN := Lib.hid (hown.alloc (.cells #[.int .i64 x, .int .i64 y, .int .i64 z] 49))
      have HBA := Lib.hid (HB.out.alloc HB.out.size (.cells #[.int .i64 x, .int .i64 y, .int .i64 z] 49))
      clear hx hy hz hown hD hat hi1 hi2 hi3 hlw
      go_wp2_with (at_mapUpdate; refine wpList_mapUpdate_own _ rfl _ _ _ 84 rfl 87 3 Tryd.klaw Tryd.underlying84 _ (w.heap.size + 1) j D rfl HOWN.out (by unfold maxLen; omega) _ _ (klit x y) rfl rfl HKEY.out _ [] (plainElem_int Tryd.underlying3 HWF.out) ?_; intro w1 hown1 hgrow1; have HP1 := Lib.hid (HPUT.out w1 hown1); have HB1 : Hid (Below w.heap.size w w1) := Lib.hid (HBA.out.grown hgrow1 HBA.out.size (fun r e => by cases e; omega)); clear hown1 hgrow1)
      go_roundw
      case rel => exact ⟨j + 1, by go_num, by omega, HB1, HP1⟩
      case measure => simp [intOf]; omega
    · obtain rfl : j = M := by omega
      have d : decide ((j : Int) < (j : Int)) = false := by simp
      go_wp2
      go_ret
      exact ⟨w.heap.size + 1, rfl, by omega, HMJ.out, HB.out⟩
end Go.Proofs.YtljgcpfibamdpaaDoor
