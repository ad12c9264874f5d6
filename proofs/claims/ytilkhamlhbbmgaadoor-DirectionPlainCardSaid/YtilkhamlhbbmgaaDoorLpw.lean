/- The law DirectionPlain, walked. -/
import Derived.Test.YtilkhamlhbbmgaaDoorPlm
import Derived.Maps.OwnOps
import Derived.Maps.RangeWalk
import Derived.Maps.Views
import Derived.Test.YtilkhamlhbbmgaaDoorRtu
import Derived.Test.YtilkhamlhbbmgaaDoorWrd
import Derived.Test.YtilkhamlhbbmgaaDoorSnd
namespace Go.Proofs.YtilkhamlhbbmgaaDoor
open Go.RowKit Go.Maps Go.WideMaps

theorem Tryd.k3law : Keyed Tryd.prog 3 := int_keyed Tryd.underlying3
theorem Tryd.zero3 (w : World) : (zeroValue 3).run Tryd.prog w = .ok (.int .i64 0) w := by kernel_rfl
theorem run_makeMap54 (w : World) : (Instr.makeMap 54 none).run Tryd.prog w = .ok (.map (some w.heap.size)) (w.alloc (.map #[] 0)) := by
  simp [Instr.makeMap]
def isLR (r : Int) : Bool := decide (kindV r = 3) || decide (kindV r = 2)
def isRR (r : Int) : Bool := decide (kindV r = 4)
/-- Block b is a map that says f of each number; it has at most k keys. -/
def MapI (w : World) (b k : Nat) (f : Int → Int) : Prop :=
  ∃ D : DataW Unit, w.ownsMap Tryd.prog 3 (plainElem Tryd.prog 3) b k D ∧ IsMap D ∧ ∀ x, D.atKey (.int .i64 x) (.lit (.int .i64 0)) = .lit (.int .i64 (f x))
theorem MapI.kept {w w' : World} {b k : Nat} {f : Int → Int} {row : Option Nat} (h : MapI w b k f) (hg : w.grownBy w' row) (hne : some b ≠ row) : MapI w' b k f := by
  obtain ⟨D, h1, h2⟩ := h
  exact ⟨D, h1.kept hg hne, h2⟩
theorem MapI.next {w w' : World} {b k : Nat} {f : Int → Int} (h : MapI w b k f) (hb : Below w.heap.size w w') : MapI w' b k f := h.kept (gbelow (row := none) hb) (by simp)
theorem MapI.lt {w : World} {b k : Nat} {f : Int → Int} (h : MapI w b k f) : b < w.heap.size := by
  obtain ⟨D, h1, _⟩ := h
  exact h1.lt
theorem MapI.made (w : World) : MapI (w.alloc (.map #[] 0)) w.heap.size 0 (fun _ => 0) :=
  ⟨.map [], World.ownsMap_made _ _ _ _, ⟨[], rfl⟩, fun _ => rfl⟩
theorem MapI.put {w' : World} {b k : Nat} {f g : Int → Int} {D : DataW Unit} {y z : Int} (hm : IsMap D) (hat : ∀ x, D.atKey (.int .i64 x) (.lit (.int .i64 0)) = .lit (.int .i64 (f x)))
    (hg : ∀ x, g x = if y = x then z else f x) (hown : w'.ownsMap Tryd.prog 3 (plainElem Tryd.prog 3) b (k + 1) (D.put (.int .i64 y) (.lit (.int .i64 z)))) : MapI w' b (k + 1) g := by
  refine ⟨_, hown, ?_, fun x => ?_⟩
  · obtain ⟨es, rfl⟩ := hm
    exact ⟨_, rfl⟩
  · rw [hg]
    by_cases h : y = x
    · rw [if_pos h, ← h, atKey_put_same hm (show WideAt.IsKeyLit (.int .i64 y) from trivial)]
    · rw [if_neg h, atKey_put_other (fun e => h (by injection e with _ e; exact e.symm)), hat x]
theorem wf_small {z : Int} (h1 : -1000 ≤ z) (h2 : z ≤ 1000) : (Lit.int .i64 z).wf = true := by
  have e1 : IntKind.i64.min = -9223372036854775808 := rfl
  have e2 : IntKind.i64.max = 9223372036854775807 := rfl
  simp [Lit.wf, e1, e2]; omega
theorem cnX_fun (l m : List Int) (k : Nat) (h : k < l.length) (x : Int) : cnY l m k x = if l.getD k 0 = x then cnX l m k (l.getD k 0) + 1 else cnX l m k x := by
  rw [cnY_at l m k h]
  split
  · rename_i e; rw [e]
  · omega
theorem cnY_fun (l m : List Int) (k : Nat) (h : k < m.length) (x : Int) : cnX l m (k + 1) x = if m.getD k 0 = x then cnY l m k (m.getD k 0) - 1 else cnY l m k x := by
  rw [cnX_next l m k h]
  split
  · rename_i e; rw [e]
  · omega
theorem own_zero {l : List Int} (hok : ∀ r ∈ l, okPt r = true) (h : l.any isRR = false) (j : Nat) (hj : j < l.length) : (shL 0 l).getD j 0 = l.getD j 0 := by
  have h0 : ∀ r ∈ l, own 0 r = -1 ∨ own 0 r = 0 := fun r hr => by
    have h1 := List.any_eq_false.1 h r hr
    unfold isRR at h1
    rw [(kind_ok (hok r hr)).2] at h1
    have h2 : knd r ≠ 4 := by simpa using h1
    unfold own
    rw [if_neg h2]
    split
    · right; rfl
    · left; rfl
  have h1 := or_zero (lvL 0 l) (fun i hi => lvL_one 0 l h0 i (by rw [lvL_len] at hi; exact hi)) j (by rw [lvL_len]; exact hj)
  have e : (shL 0 l).getD j 0 = l.getD ((orL (lvL 0 l)).getD j 0).toNat 0 := by simp [shL, List.getD, hj]
  rw [e, h1]
  rfl
theorem own_one {l : List Int} (hok : ∀ r ∈ l, okPt r = true) (h : l.any isLR = false) (j : Nat) (hj : j < l.length) : (shL 1 l).getD (l.length - 1 - j) 0 = l.getD j 0 := by
  have h0 : ∀ r ∈ l, own 1 r = -1 ∨ own 1 r = 1 := fun r hr => by
    have h1 := List.any_eq_false.1 h r hr
    unfold isLR at h1
    rw [(kind_ok (hok r hr)).2] at h1
    have h2 : ¬ (knd r = 3 ∨ knd r = 2) := by simpa using h1
    unfold own
    split
    · right; rfl
    · left; first | rfl | rw [if_neg h2]
  have hj2 : l.length - 1 - j < l.length := by omega
  have h1 := or_one (lvL 1 l) (fun i hi => lvL_one 1 l h0 i (by rw [lvL_len] at hi; exact hi)) (l.length - 1 - j) (by rw [lvL_len]; exact hj2)
  have e : (shL 1 l).getD (l.length - 1 - j) 0 = l.getD ((orL (lvL 1 l)).getD (l.length - 1 - j) 0).toNat 0 := by simp [shL, List.getD, hj2]
  rw [e, h1, lvL_len]
  have : ((l.length - 1 - (l.length - 1 - j) : Nat) : Int).toNat = j := by omega
  rw [this]
theorem any_nextD {p : Int → Bool} (l : List Int) (k : Nat) (h : k < l.length) : (l.take (k + 1)).any p = ((l.take k).any p || p (l.getD k 0)) := by
  have e : l.take (k + 1) = l.take k ++ [l[k]] := by rw [List.take_succ_eq_append_getElem h]
  have e2 : l.getD k 0 = l[k] := by simp [List.getD, h]
  rw [e, List.any_append, e2]
  simp

set_option maxRecDepth 100000 in
set_option maxHeartbeats 16000000 in
theorem lawPlain (w : World) (bs : List UInt8) (x : Bool) (hT : DTab w) : Calls Tryd.prog 15 #[.string (str bs), .bool x] w fun e w' => e = .returned (.bool true) ∧ Below w.heap.size w w' := by
  have HSN := Lib.hid (sane10_any w hT)
  have HS := Lib.hid (fun W (hW : Below w.heap.size w W) => show_any W bs x (hT.below hW))
  have HR := Lib.hid (fun W (hW : Below w.heap.size w W) => runes_any W bs (hT.below hW).u)
  have hsz := str_size bs
  by_cases h300 : 300 < bs.length
  · obtain ⟨s, hs⟩ : ∃ s, str bs = s := ⟨_, rfl⟩
    obtain ⟨n, hn⟩ : ∃ n, bs.length = n := ⟨_, rfl⟩
    rw [hs, hn] at hsz
    rw [hs]
    have d1 : decide (300 < (n : Int)) = true := by rw [hn] at h300; simp; omega
    clear HS HR hs hn h300 hT
    go_enter Tryd.func15, Tryd.ntmps15
    go_wp2_with fail
    (with_reducible refine (HSN.out).mono ?_)
    rintro e w1 ⟨rfl, hb⟩
    have HB1 := Lib.hid hb
    clear hb
    go_wp2
    go_ret
    exact ⟨rfl, HB1.out⟩
  · by_cases hz : rnsE bs = 0
    · obtain ⟨e1, e2, e3, e4, e5⟩ := show_ok (b := bsOf x) hz
      obtain ⟨q1, q2, q3, q4⟩ := rns_ok hz
      have hp := shL_perm (bsOf x) (rnsV bs)
      have HR2 := Lib.hid (fun W (hW : Below w.heap.size w W) => runes_any W (encs (shL (bsOf x) (rnsV bs))) (hT.below hW).u)
      simp only [e4, e5] at HR2
      simp only [hz] at HR
      simp only [e1, e2] at HS
      have hsz2 := str_size (encs (shL (bsOf x) (rnsV bs)))
      rw [e3] at hsz2
      have hln : (rnsV bs).length ≤ 300 := by have := (encs_len (rnsV bs)).1; have h2 := congrArg List.length q4; omega
      have HOZ := Lib.hid (fun j hj h => own_zero (l := rnsV bs) q3 h j hj)
      have HOO := Lib.hid (fun j hj h => own_one (l := rnsV bs) q3 h j hj)
      have HPT : Hid (∀ (z : List Int) (k : Nat), z.Perm (rnsV bs) → k < z.length → okPt (z.getD k 0) = true) := Lib.hid (fun z k hz hk => by
        have e : z.getD k 0 = z[k] := by simp [List.getD, hk]
        rw [e]
        exact q3 _ (hz.mem_iff.1 (List.getElem_mem hk)))
      have HLM := Lib.hid hp
      have HLL := Lib.hid hp.length_eq
      obtain ⟨s, hs⟩ : ∃ s, str bs = s := ⟨_, rfl⟩
      obtain ⟨s2, hs2⟩ : ∃ s, str (encs (shL (bsOf x) (rnsV bs))) = s := ⟨_, rfl⟩
      obtain ⟨n0, hn⟩ : ∃ n, bs.length = n := ⟨_, rfl⟩
      rw [hs, hn] at hsz
      rw [hs2, hn] at hsz2
      simp only [hs, hs2] at HS
      simp only [hs] at HR
      simp only [hs2] at HR2
      rw [hs]
      rw [hn] at h300
      have HX0 : Hid (x = false → shL (bsOf x) (rnsV bs) = shL 0 (rnsV bs)) := Lib.hid (by rintro rfl; rfl)
      have HX1 : Hid (x = true → shL (bsOf x) (rnsV bs) = shL 1 (rnsV bs)) := Lib.hid (by rintro rfl; rfl)
      clear hs hs2 hn e1 e2 e3 e4 e5 q1 q2 q3 q4 hp hz hT
      obtain ⟨l, hl⟩ : ∃ l, rnsV bs = l := ⟨_, rfl⟩
      rw [hl] at HR HR2 HX0 HX1 HOZ HOO HPT HLM HLL hln
      obtain ⟨m, hm⟩ : ∃ m, shL (bsOf x) l = m := ⟨_, rfl⟩
      rw [hm] at HR2 HX0 HX1 HLM HLL
      clear hl hm
      have HM0 : Hid (x = false → l.any isRR = false → ∀ j, j < l.length → m.getD j 0 = l.getD j 0) := Lib.hid (fun hx h j hj => by rw [HX0.out hx]; exact HOZ.out j hj h)
      have HM1 : Hid (x = true → l.any isLR = false → ∀ j, j < l.length → m.getD (l.length - 1 - j) 0 = l.getD j 0) := Lib.hid (fun hx h j hj => by rw [HX1.out hx]; exact HOO.out j hj h)
      clear HX0 HX1 HOZ HOO
      obtain ⟨n, hn⟩ : ∃ n, l.length = n := ⟨_, rfl⟩
      rw [hn] at HLL HM0 HM1 hln
      have HN := Lib.hid hn
      have hmn : m.length = n := HLL.out
      clear hn hmn
      have d1 : decide (300 < (n0 : Int)) = false := by simp; omega
      have dn : (n0 != n0) = false := by simp
      have dn2 : (n != n) = false := by simp
      have hmk := fun W => run_makeMap54 W
      go_enter Tryd.func15, Tryd.ntmps15
      go_wp2_with fail
      (with_reducible refine (HSN.out).mono ?_)
      rintro e w1 ⟨rfl, hb⟩
      have HB1 := Lib.hid hb
      clear hb
      go_wp2_with fail
      (with_reducible refine (HS.out w1 HB1.out).mono ?_)
      rintro e w2 ⟨rfl, hb⟩
      have HB2 := Lib.hid (HB1.out.trans (hb.mono HB1.out.size))
      clear hb
      go_wp2_with fail
      (with_reducible refine (HR.out w2 HB2.out).mono ?_)
      rintro e w3 ⟨vl, rfl, ho, hb⟩
      have HB3 := Lib.hid (HB2.out.trans (hb.mono HB2.out.size))
      clear hb
      go_wp2_with fail
      (with_reducible refine (HR2.out w3 HB3.out).mono ?_)
      rintro e w4 ⟨vm, rfl, ho2, hb⟩
      have hr1 := IRow.of_own ho
      have hr2 := IRow.of_own ho2
      have hr1 := hr1.next hb
      obtain ⟨la, lc, rfl, -, -, HCL⟩ := hr1.laterD
      obtain ⟨ma, mc, rfl, -, -, HCM⟩ := hr2.laterD
      rw [HN.out] at HCL
      rw [HLL.out] at HCM
      rw [HN.out, HLL.out]
      have HCL := Lib.hid HCL
      have HCM := Lib.hid HCM
      have HB4 := Lib.hid (HB3.out.trans (hb.mono HB3.out.size))
      clear hb ho ho2 hr1 hr2
      go_wp2
      go_loop [11, 12, 74] (fun s11 s12 s74 => ∃ (k : Nat) (a c : Bool), k ≤ n ∧ s74 = .int .i64 (k : Int) ∧ s11 = .bool a ∧ s12 = .bool c ∧ Hid (a = (l.take k).any isLR ∧ c = (l.take k).any isRR)) (fun _ _ s74 => n - (intOf s74).toNat)
      case atStart => exact ⟨0, false, false, Nat.zero_le _, rfl, rfl, rfl, Lib.hid ⟨rfl, rfl⟩⟩
      case round =>
        obtain ⟨k, a, c, hk, rfl, rfl, rfl, HAC⟩ := hrel
        by_cases hlt : k < n
        · have d : decide (k < n) = true := by simpa using hlt
          obtain ⟨bl, ol, rfl, hck⟩ := HCL.out w4 (Below.refl _ _) k hlt
          have HNX : Hid ((l.take (k + 1)).any isLR = ((l.take k).any isLR || (decide (kindV (l.getD k 0) = 3) || decide (kindV (l.getD k 0) = 2))) ∧ (l.take (k + 1)).any isRR = ((l.take k).any isRR || decide (kindV (l.getD k 0) = 4))) := Lib.hid ⟨any_nextD l k (by rw [HN.out]; exact hlt), any_nextD l k (by rw [HN.out]; exact hlt)⟩
          have hok := HPT.out l k (List.Perm.refl _) (by rw [HN.out]; exact hlt)
          have HKD := Lib.hid (fun W => rkind_any W (l.getD k 0))
          have hke : kindE (l.getD k 0) = 0 := (kind_ok hok).1
          simp only [hke] at HKD
          obtain ⟨z, hz⟩ : ∃ z, kindV (l.getD k 0) = z := ⟨_, rfl⟩
          simp only [hz] at HKD HNX
          obtain ⟨y, hy⟩ : ∃ y, l.getD k 0 = y := ⟨_, rfl⟩
          simp only [hy] at HKD
          rw [hy] at hck
          clear hz hy hke hok
          obtain ⟨v3, hv3⟩ : ∃ v, (z == 3) = v := ⟨_, rfl⟩
          obtain ⟨v2, hv2⟩ : ∃ v, (z == 2) = v := ⟨_, rfl⟩
          obtain ⟨v4, hv4⟩ : ∃ v, (z == 4) = v := ⟨_, rfl⟩
          have HV : Hid (decide (z = 3) = v3 ∧ decide (z = 2) = v2 ∧ decide (z = 4) = v4) := Lib.hid ⟨by rw [← hv3]; exact Bool.beq_eq_decide_eq _ _ |>.symm, by rw [← hv2]; exact Bool.beq_eq_decide_eq _ _ |>.symm, by rw [← hv4]; exact Bool.beq_eq_decide_eq _ _ |>.symm⟩
          cases a <;> cases c <;> cases v3 <;> cases v2 <;> cases v4
          all_goals
            go_wp2_with fail
            (with_reducible refine (HKD.out _).mono ?_)
            rintro e w5 ⟨rfl, rfl⟩
            go_wp2
            go_round
            case rel => exact ⟨k + 1, _, _, by omega, by go_num, rfl, rfl, Lib.hid (by rw [HNX.out.1, HNX.out.2, ← HAC.out.1, ← HAC.out.2, HV.out.1, HV.out.2.1, HV.out.2.2]; exact ⟨rfl, rfl⟩)⟩
            case measure => simp [intOf]; omega
        · obtain rfl : k = n := by omega
          have d : decide (k < k) = false := by simp
          have HAC2 : Hid (a = l.any isLR ∧ c = l.any isRR) := Lib.hid (by have := HAC.out; rw [show l.take k = l from by rw [← HN.out, List.take_length]] at this; exact this)
          clear HAC
          have hlm : l.length ≤ 300 := by rw [HN.out]; omega
          have hmm : m.length ≤ 300 := by rw [HLL.out]; omega
          have HSM := Lib.hid (fun j y => cnX_small l m j y hlm hmm)
          have HF1 := Lib.hid (fun j (hj : j < k) y => cnX_fun l m j (by rw [HN.out]; exact hj) y)
          have HF2 := Lib.hid (fun j (hj : j < k) y => cnY_fun l m j (by rw [HLL.out]; exact hj) y)
          have HEND : Hid (cnX l m k = fun _ => 0) := Lib.hid (funext fun y => by have := cnX_end HLM.out y; rw [HN.out] at this; exact this)
          have HMI0 : Hid (MapI (w4.alloc (.map #[] 0)) w4.heap.size 0 (cnX l m 0)) := Lib.hid (by rw [show cnX l m 0 = fun _ => 0 from funext (cnX_zero l m)]; exact MapI.made w4)
          clear hlm hmm
          have d00 : ((0 : Int) != 0) = false := rfl
          rcases (show (x = false ∧ (c = true ∨ c = false)) ∨ (x = true ∧ (a = true ∨ a = false)) from by cases x <;> cases a <;> cases c <;> simp) with ⟨rfl, rfl | rfl⟩ | ⟨rfl, rfl | rfl⟩
          · skip
            go_wp2
            go_loopw [103] (fun s103 wr => ∃ j : Nat, j ≤ k ∧ s103 = .int .i64 (j : Int) ∧ Hid (Below w4.heap.size w4 wr) ∧ Hid (MapI wr w4.heap.size (2 * j) (cnX l m j))) (fun s103 _ => k - (intOf s103).toNat)
            case atStart => exact ⟨0, Nat.zero_le _, rfl, Lib.hid ((Below.refl _ _).alloc (Nat.le_refl _) _), HMI0⟩
            case round =>
              obtain ⟨j, hj, rfl, HB, HMI⟩ := hrel
              by_cases hlt : j < k
              · have d : decide (j < k) = true := by simpa using hlt
                obtain ⟨bl, ol, rfl, hck⟩ := HCL.out wr HB.out j hlt
                obtain ⟨bm, om, rfl, -⟩ := HCM.out wr HB.out j hlt
                have HCM2 : Hid (∀ W, Below w4.heap.size w4 W → ∀ i, i < k → W.cell? ⟨bm, om + i, none⟩ = some (.int .i64 (m.getD i 0))) := Lib.hid (fun W hW i hi => by
                  obtain ⟨b', o', e, h⟩ := HCM.out W hW i hi
                  injection e with e
                  injection e with e1 e2
                  rw [e1, e2]; exact h)
                have HCJ := Lib.hid (fun W hW => HCM2.out W hW j hlt)
                have hokl := HPT.out l j (List.Perm.refl _) (by rw [HN.out]; exact hlt)
                have hokm := HPT.out m j HLM.out (by rw [HLL.out]; exact hlt)
                have HG1 := Lib.hid (HF1.out j hlt)
                have HG2 := Lib.hid (HF2.out j hlt)
                obtain ⟨D, hown, hD, hat⟩ := HMI.out
                obtain ⟨y, hy⟩ : ∃ y, l.getD j 0 = y := ⟨_, rfl⟩
                rw [hy] at hck hokl HG1
                obtain ⟨z, hz⟩ : ∃ y, m.getD j 0 = y := ⟨_, rfl⟩
                rw [hz] at HCJ hokm HG2
                clear hy hz
                obtain ⟨hy0, hy1, -⟩ := okPt_iff.1 hokl
                obtain ⟨hz0, hz1, -⟩ := okPt_iff.1 hokm
                have HKY : Hid (keyOf Tryd.prog 3 (.int .i64 y) = some (.int .i64 y)) := Lib.hid (keyOf_int_mk Tryd.underlying3 (by have e1 : IntKind.i64.min = -9223372036854775808 := rfl; have e2 : IntKind.i64.max = 9223372036854775807 := rfl; simp [Lit.wf, e1, e2]; omega))
                have HKZ : Hid (keyOf Tryd.prog 3 (.int .i64 z) = some (.int .i64 z)) := Lib.hid (keyOf_int_mk Tryd.underlying3 (by have e1 : IntKind.i64.min = -9223372036854775808 := rfl; have e2 : IntKind.i64.max = 9223372036854775807 := rfl; simp [Lit.wf, e1, e2]; omega))
                obtain ⟨s1, s2, -, -⟩ := HSM.out j y
                obtain ⟨-, -, s3, s4⟩ := HSM.out j z
                have HQ : Hid (∀ q : Int, D.atKey (.int .i64 y) (.lit (.int .i64 0)) = .lit (.int .i64 q) → q = cnX l m j y) := Lib.hid (fun q hq => by rw [hat y] at hq; injection hq with hq; injection hq with _ hq; exact hq.symm)
                have HP1 : Hid (∀ w', w'.ownsMap Tryd.prog 3 (plainElem Tryd.prog 3) w4.heap.size (2 * j + 1) (D.put (.int .i64 y) (.lit (.int .i64 (cnX l m j y + 1)))) → MapI w' w4.heap.size (2 * j + 1) (cnY l m j)) := Lib.hid (fun w' h => MapI.put hD hat HG1.out h)
                obtain ⟨q1, hq1⟩ : ∃ q, cnX l m j y = q := ⟨_, rfl⟩
                rw [hq1] at HP1 HQ s1 s2
                have HOWN := Lib.hid hown
                have HWF1 := Lib.hid (wf_small (z := q1 + 1) (by omega) (by omega))
                clear hq1 hown hD hat hokl hokm hy0 hy1 hz0 hz1 HG1
                obtain ⟨q2, hq2⟩ : ∃ q, cnY l m j z = q := ⟨_, rfl⟩
                rw [hq2] at s3 s4
                have HWF2 := Lib.hid (wf_small (z := q2 - 1) (by omega) (by omega))
                have HQ2 := Lib.hid hq2
                clear hq2
                have hcm := HCJ.out wr HB.out
                go_wp2_with (first
                  | (at_lookup; refine wpList_lookup_own_int _ rfl (.tmp 108) (.tmp 109) 54 rfl 3 3 .i64 Tryd.k3law Tryd.underlying54 Tryd.underlying3 (Tryd.zero3 _) w4.heap.size (2 * j) D rfl HOWN.out _ _ rfl HKY.out ?_; intro c0 hc0 hwf0; obtain rfl := HQ.out c0 hc0; clear hc0 hwf0 HQ)
                  | (at_mapUpdate; refine wpList_mapUpdate_own _ rfl (.tmp 108) (.tmp 109) (.tmp 111) 54 rfl 3 3 Tryd.k3law Tryd.underlying54 _ w4.heap.size (2 * j) D rfl HOWN.out (by unfold maxLen; omega) _ _ (.int .i64 y) rfl rfl HKY.out _ [] (plainElem_int Tryd.underlying3 HWF1.out) ?_; intro w5 hown1 hgrow1; have HM5 := Lib.hid (HP1.out w5 hown1); have HB5 : Hid (Below w4.heap.size w4 w5) := Lib.hid (HB.out.grown hgrow1 HB.out.size (fun r e => by cases e; omega)); have hcm5 := HCJ.out w5 HB5.out; clear hown1 hgrow1 hck hcm; obtain ⟨D5, hown5, hD5, hat5⟩ := HM5.out; have HQ5 : Hid (∀ q : Int, D5.atKey (.int .i64 z) (.lit (.int .i64 0)) = .lit (.int .i64 q) → q = q2) := Lib.hid (fun q hq => (by rw [hat5 z, HQ2.out] at hq; injection hq with hq; injection hq with _ hq; exact hq.symm)); have HP5 : Hid (∀ w', w'.ownsMap Tryd.prog 3 (plainElem Tryd.prog 3) w4.heap.size (2 * j + 1 + 1) (D5.put (.int .i64 z) (.lit (.int .i64 (q2 - 1)))) → MapI w' w4.heap.size (2 * j + 1 + 1) (cnX l m (j + 1))) := Lib.hid (fun w' h => MapI.put hD5 hat5 (fun x => (by rw [← HQ2.out]; exact HG2.out x)) h); have HOWN5 := Lib.hid hown5; clear hown5 hD5 hat5)
                  | (at_lookup; refine wpList_lookup_own_int _ rfl (.tmp 112) (.tmp 116) 54 rfl 3 3 .i64 Tryd.k3law Tryd.underlying54 Tryd.underlying3 (Tryd.zero3 _) w4.heap.size (2 * j + 1) D5 rfl HOWN5.out _ _ rfl HKZ.out ?_; intro c0 hc0 hwf0; obtain rfl := HQ5.out c0 hc0; clear hc0 hwf0 HQ5)
                  | (at_mapUpdate; refine wpList_mapUpdate_own _ rfl (.tmp 112) (.tmp 116) (.tmp 118) 54 rfl 3 3 Tryd.k3law Tryd.underlying54 _ w4.heap.size (2 * j + 1) D5 rfl HOWN5.out (by unfold maxLen; omega) _ _ (.int .i64 z) rfl rfl HKZ.out _ [] (plainElem_int Tryd.underlying3 HWF2.out) ?_; intro w6 hown6 hgrow6; have HM6 := Lib.hid (HP5.out w6 hown6); have HB6 : Hid (Below w4.heap.size w4 w6) := Lib.hid (HB5.out.grown hgrow6 HB5.out.size (fun r e => by cases e; omega)); have hcm6 := HCJ.out w6 HB6.out; clear hown6 hgrow6 hcm5))
                go_roundw
                case rel => exact ⟨j + 1, by omega, by go_num, HB6, Lib.hid (by rw [show 2 * (j + 1) = 2 * j + 1 + 1 from by omega]; exact HM6.out)⟩
                case measure => simp [intOf]; omega
              · obtain rfl : j = k := by omega
                have d : decide (j < j) = false := by simp
                obtain ⟨wo, rfl⟩ : ∃ wo : World, wo = wr := ⟨_, rfl⟩
                have HMI2 := HMI.out
                rw [HEND.out] at HMI2
                obtain ⟨D, hown, hD, hat⟩ := HMI2
                have HAT := Lib.hid hat
                clear hD hat HMI
                have HBW := Lib.hid (HB4.out.trans (HB.out.mono HB4.out.size))
                go_wp2_with (at_range; refine wpList_range_own _ rfl _ 54 rfl 3 3 Tryd.k3law Tryd.underlying54 _ w4.heap.size (2 * j) _ rfl hown ?_; intro w7 hrg0 hg0 hs0)
                have HBR := Lib.hid (HBW.out.grown (hg0.but none) HBW.out.size (fun r e => by cases e))
                have hsz7 := HBW.out.size
                go_loopw [155] (fun _ wq => ∃ (left : Lit → Bool) (cnt : Nat), wq.ranges Tryd.prog 3 (plainElem Tryd.prog 3) w4.heap.size wo.heap.size (2 * j) D left cnt ∧ Hid (Below w.heap.size w wq))
                  (fun _ wq => wq.rangeLeft w4.heap.size wo.heap.size)
                case atStart => exact ⟨_, _, hrg0, HBR⟩
                case round =>
                  obtain ⟨left, cnt, hrg, HBQ⟩ := hrel
                  go_wp2_with (at_next; refine wpList_next_ranges_ii _ rfl _ rfl 3 3 .i64 .i64 Tryd.k3law Tryd.underlying3 Tryd.underlying3 w4.heap.size wo.heap.size (2 * j) _ _ _ rfl hrg ?_ ?_)
                  · intro _ hl0
                    go_wp2
                    go_ret
                    exact ⟨rfl, HBQ.out⟩
                  · intro xk cv w8 cnt1 hwx hwc hlx hat8 hrg1 hlt8 hg1 hs1 hen
                    have hc8 := (hat8 (.lit (.int .i64 0))).symm.trans (HAT.out xk)
                    injection hc8 with hc8
                    injection hc8 with _ hc8
                    subst hc8
                    have HB8 := Lib.hid (HBQ.out.grown hg1 HBQ.out.size (fun r e => by cases e; exact hsz7))
                    have HR8 := Lib.hid hrg1
                    clear hat8 hlx hwx hwc
                    go_wp2
                    go_roundw
                    case rel => exact ⟨_, cnt1, HR8.out, HB8⟩
                    case measure => rw [HR8.out.left_eq, hrg.left_eq]; exact hlt8
          · skip
            have HEQ := Lib.hid (HM0.out rfl HAC2.out.2.symm)
            go_wp2
            go_loopw [103] (fun s103 wr => ∃ j : Nat, j ≤ k ∧ s103 = .int .i64 (j : Int) ∧ Hid (Below w4.heap.size w4 wr) ∧ Hid (MapI wr w4.heap.size (2 * j) (cnX l m j))) (fun s103 _ => k - (intOf s103).toNat)
            case atStart => exact ⟨0, Nat.zero_le _, rfl, Lib.hid ((Below.refl _ _).alloc (Nat.le_refl _) _), HMI0⟩
            case round =>
              obtain ⟨j, hj, rfl, HB, HMI⟩ := hrel
              by_cases hlt : j < k
              · have d : decide (j < k) = true := by simpa using hlt
                obtain ⟨bl, ol, rfl, hck⟩ := HCL.out wr HB.out j hlt
                obtain ⟨bm, om, rfl, -⟩ := HCM.out wr HB.out j hlt
                have HCM2 : Hid (∀ W, Below w4.heap.size w4 W → ∀ i, i < k → W.cell? ⟨bm, om + i, none⟩ = some (.int .i64 (m.getD i 0))) := Lib.hid (fun W hW i hi => by
                  obtain ⟨b', o', e, h⟩ := HCM.out W hW i hi
                  injection e with e
                  injection e with e1 e2
                  rw [e1, e2]; exact h)
                have HCJ := Lib.hid (fun W hW => HCM2.out W hW j hlt)
                have hokl := HPT.out l j (List.Perm.refl _) (by rw [HN.out]; exact hlt)
                have hokm := HPT.out m j HLM.out (by rw [HLL.out]; exact hlt)
                have HG1 := Lib.hid (HF1.out j hlt)
                have HG2 := Lib.hid (HF2.out j hlt)
                obtain ⟨D, hown, hD, hat⟩ := HMI.out
                have hyz := HEQ.out j (by omega)
                rw [hyz] at HCJ hokm HG2
                clear hyz
                obtain ⟨y, hy⟩ : ∃ y, l.getD j 0 = y := ⟨_, rfl⟩
                rw [hy] at hck hokl HG1 HCJ hokm HG2
                clear hy
                obtain ⟨hy0, hy1, -⟩ := okPt_iff.1 hokl
                obtain ⟨hz0, hz1, -⟩ := okPt_iff.1 hokm
                have HKY : Hid (keyOf Tryd.prog 3 (.int .i64 y) = some (.int .i64 y)) := Lib.hid (keyOf_int_mk Tryd.underlying3 (by have e1 : IntKind.i64.min = -9223372036854775808 := rfl; have e2 : IntKind.i64.max = 9223372036854775807 := rfl; simp [Lit.wf, e1, e2]; omega))
                have HKZ : Hid (keyOf Tryd.prog 3 (.int .i64 y) = some (.int .i64 y)) := Lib.hid (keyOf_int_mk Tryd.underlying3 (by have e1 : IntKind.i64.min = -9223372036854775808 := rfl; have e2 : IntKind.i64.max = 9223372036854775807 := rfl; simp [Lit.wf, e1, e2]; omega))
                obtain ⟨s1, s2, -, -⟩ := HSM.out j y
                obtain ⟨-, -, s3, s4⟩ := HSM.out j y
                have HQ : Hid (∀ q : Int, D.atKey (.int .i64 y) (.lit (.int .i64 0)) = .lit (.int .i64 q) → q = cnX l m j y) := Lib.hid (fun q hq => by rw [hat y] at hq; injection hq with hq; injection hq with _ hq; exact hq.symm)
                have HP1 : Hid (∀ w', w'.ownsMap Tryd.prog 3 (plainElem Tryd.prog 3) w4.heap.size (2 * j + 1) (D.put (.int .i64 y) (.lit (.int .i64 (cnX l m j y + 1)))) → MapI w' w4.heap.size (2 * j + 1) (cnY l m j)) := Lib.hid (fun w' h => MapI.put hD hat HG1.out h)
                obtain ⟨q1, hq1⟩ : ∃ q, cnX l m j y = q := ⟨_, rfl⟩
                rw [hq1] at HP1 HQ s1 s2
                have HOWN := Lib.hid hown
                have HWF1 := Lib.hid (wf_small (z := q1 + 1) (by omega) (by omega))
                clear hq1 hown hD hat hokl hokm hy0 hy1 hz0 hz1 HG1
                obtain ⟨q2, hq2⟩ : ∃ q, cnY l m j y = q := ⟨_, rfl⟩
                rw [hq2] at s3 s4
                have HWF2 := Lib.hid (wf_small (z := q2 - 1) (by omega) (by omega))
                have HQ2 := Lib.hid hq2
                clear hq2
                have hcm := HCJ.out wr HB.out
                go_wp2_with (first
                  | (at_lookup; refine wpList_lookup_own_int _ rfl (.tmp 108) (.tmp 109) 54 rfl 3 3 .i64 Tryd.k3law Tryd.underlying54 Tryd.underlying3 (Tryd.zero3 _) w4.heap.size (2 * j) D rfl HOWN.out _ _ rfl HKY.out ?_; intro c0 hc0 hwf0; obtain rfl := HQ.out c0 hc0; clear hc0 hwf0 HQ)
                  | (at_mapUpdate; refine wpList_mapUpdate_own _ rfl (.tmp 108) (.tmp 109) (.tmp 111) 54 rfl 3 3 Tryd.k3law Tryd.underlying54 _ w4.heap.size (2 * j) D rfl HOWN.out (by unfold maxLen; omega) _ _ (.int .i64 y) rfl rfl HKY.out _ [] (plainElem_int Tryd.underlying3 HWF1.out) ?_; intro w5 hown1 hgrow1; have HM5 := Lib.hid (HP1.out w5 hown1); have HB5 : Hid (Below w4.heap.size w4 w5) := Lib.hid (HB.out.grown hgrow1 HB.out.size (fun r e => by cases e; omega)); have hcm5 := HCJ.out w5 HB5.out; clear hown1 hgrow1 hck hcm; obtain ⟨D5, hown5, hD5, hat5⟩ := HM5.out; have HQ5 : Hid (∀ q : Int, D5.atKey (.int .i64 y) (.lit (.int .i64 0)) = .lit (.int .i64 q) → q = q2) := Lib.hid (fun q hq => (by rw [hat5 y, HQ2.out] at hq; injection hq with hq; injection hq with _ hq; exact hq.symm)); have HP5 : Hid (∀ w', w'.ownsMap Tryd.prog 3 (plainElem Tryd.prog 3) w4.heap.size (2 * j + 1 + 1) (D5.put (.int .i64 y) (.lit (.int .i64 (q2 - 1)))) → MapI w' w4.heap.size (2 * j + 1 + 1) (cnX l m (j + 1))) := Lib.hid (fun w' h => MapI.put hD5 hat5 (fun x => (by rw [← HQ2.out]; exact HG2.out x)) h); have HOWN5 := Lib.hid hown5; clear hown5 hD5 hat5)
                  | (at_lookup; refine wpList_lookup_own_int _ rfl (.tmp 112) (.tmp 116) 54 rfl 3 3 .i64 Tryd.k3law Tryd.underlying54 Tryd.underlying3 (Tryd.zero3 _) w4.heap.size (2 * j + 1) D5 rfl HOWN5.out _ _ rfl HKZ.out ?_; intro c0 hc0 hwf0; obtain rfl := HQ5.out c0 hc0; clear hc0 hwf0 HQ5)
                  | (at_mapUpdate; refine wpList_mapUpdate_own _ rfl (.tmp 112) (.tmp 116) (.tmp 118) 54 rfl 3 3 Tryd.k3law Tryd.underlying54 _ w4.heap.size (2 * j + 1) D5 rfl HOWN5.out (by unfold maxLen; omega) _ _ (.int .i64 y) rfl rfl HKZ.out _ [] (plainElem_int Tryd.underlying3 HWF2.out) ?_; intro w6 hown6 hgrow6; have HM6 := Lib.hid (HP5.out w6 hown6); have HB6 : Hid (Below w4.heap.size w4 w6) := Lib.hid (HB5.out.grown hgrow6 HB5.out.size (fun r e => by cases e; omega)); have hcm6 := HCJ.out w6 HB6.out; clear hown6 hgrow6 hcm5))
                go_roundw
                case rel => exact ⟨j + 1, by omega, by go_num, HB6, Lib.hid (by rw [show 2 * (j + 1) = 2 * j + 1 + 1 from by omega]; exact HM6.out)⟩
                case measure => simp [intOf]; omega
              · obtain rfl : j = k := by omega
                have d : decide (j < j) = false := by simp
                obtain ⟨wo, rfl⟩ : ∃ wo : World, wo = wr := ⟨_, rfl⟩
                have HMI2 := HMI.out
                rw [HEND.out] at HMI2
                obtain ⟨D, hown, hD, hat⟩ := HMI2
                have HAT := Lib.hid hat
                clear hD hat HMI
                have HBW := Lib.hid (HB4.out.trans (HB.out.mono HB4.out.size))
                go_wp2_with (at_range; refine wpList_range_own _ rfl _ 54 rfl 3 3 Tryd.k3law Tryd.underlying54 _ w4.heap.size (2 * j) _ rfl hown ?_; intro w7 hrg0 hg0 hs0)
                have HBR := Lib.hid (HBW.out.grown (hg0.but none) HBW.out.size (fun r e => by cases e))
                have hsz7 := HBW.out.size
                go_loopw [155] (fun _ wq => ∃ (left : Lit → Bool) (cnt : Nat), wq.ranges Tryd.prog 3 (plainElem Tryd.prog 3) w4.heap.size wo.heap.size (2 * j) D left cnt ∧ Hid (Below w.heap.size w wq))
                  (fun _ wq => wq.rangeLeft w4.heap.size wo.heap.size)
                case atStart => exact ⟨_, _, hrg0, HBR⟩
                case round =>
                  obtain ⟨left, cnt, hrg, HBQ⟩ := hrel
                  go_wp2_with (at_next; refine wpList_next_ranges_ii _ rfl _ rfl 3 3 .i64 .i64 Tryd.k3law Tryd.underlying3 Tryd.underlying3 w4.heap.size wo.heap.size (2 * j) _ _ _ rfl hrg ?_ ?_)
                  · intro _ hl0
                    go_wp2
                    go_ret
                    exact ⟨rfl, HBQ.out⟩
                  · intro xk cv w8 cnt1 hwx hwc hlx hat8 hrg1 hlt8 hg1 hs1 hen
                    have hc8 := (hat8 (.lit (.int .i64 0))).symm.trans (HAT.out xk)
                    injection hc8 with hc8
                    injection hc8 with _ hc8
                    subst hc8
                    have HB8 := Lib.hid (HBQ.out.grown hg1 HBQ.out.size (fun r e => by cases e; exact hsz7))
                    have HR8 := Lib.hid hrg1
                    clear hat8 hlx hwx hwc
                    go_wp2
                    go_roundw
                    case rel => exact ⟨_, cnt1, HR8.out, HB8⟩
                    case measure => rw [HR8.out.left_eq, hrg.left_eq]; exact hlt8
          · skip
            go_wp2
            go_loopw [103] (fun s103 wr => ∃ j : Nat, j ≤ k ∧ s103 = .int .i64 (j : Int) ∧ Hid (Below w4.heap.size w4 wr) ∧ Hid (MapI wr w4.heap.size (2 * j) (cnX l m j))) (fun s103 _ => k - (intOf s103).toNat)
            case atStart => exact ⟨0, Nat.zero_le _, rfl, Lib.hid ((Below.refl _ _).alloc (Nat.le_refl _) _), HMI0⟩
            case round =>
              obtain ⟨j, hj, rfl, HB, HMI⟩ := hrel
              by_cases hlt : j < k
              · have d : decide (j < k) = true := by simpa using hlt
                obtain ⟨bl, ol, rfl, hck⟩ := HCL.out wr HB.out j hlt
                obtain ⟨bm, om, rfl, -⟩ := HCM.out wr HB.out j hlt
                have HCM2 : Hid (∀ W, Below w4.heap.size w4 W → ∀ i, i < k → W.cell? ⟨bm, om + i, none⟩ = some (.int .i64 (m.getD i 0))) := Lib.hid (fun W hW i hi => by
                  obtain ⟨b', o', e, h⟩ := HCM.out W hW i hi
                  injection e with e
                  injection e with e1 e2
                  rw [e1, e2]; exact h)
                have HCJ := Lib.hid (fun W hW => HCM2.out W hW j hlt)
                have hokl := HPT.out l j (List.Perm.refl _) (by rw [HN.out]; exact hlt)
                have hokm := HPT.out m j HLM.out (by rw [HLL.out]; exact hlt)
                have HG1 := Lib.hid (HF1.out j hlt)
                have HG2 := Lib.hid (HF2.out j hlt)
                obtain ⟨D, hown, hD, hat⟩ := HMI.out
                obtain ⟨y, hy⟩ : ∃ y, l.getD j 0 = y := ⟨_, rfl⟩
                rw [hy] at hck hokl HG1
                obtain ⟨z, hz⟩ : ∃ y, m.getD j 0 = y := ⟨_, rfl⟩
                rw [hz] at HCJ hokm HG2
                clear hy hz
                obtain ⟨hy0, hy1, -⟩ := okPt_iff.1 hokl
                obtain ⟨hz0, hz1, -⟩ := okPt_iff.1 hokm
                have HKY : Hid (keyOf Tryd.prog 3 (.int .i64 y) = some (.int .i64 y)) := Lib.hid (keyOf_int_mk Tryd.underlying3 (by have e1 : IntKind.i64.min = -9223372036854775808 := rfl; have e2 : IntKind.i64.max = 9223372036854775807 := rfl; simp [Lit.wf, e1, e2]; omega))
                have HKZ : Hid (keyOf Tryd.prog 3 (.int .i64 z) = some (.int .i64 z)) := Lib.hid (keyOf_int_mk Tryd.underlying3 (by have e1 : IntKind.i64.min = -9223372036854775808 := rfl; have e2 : IntKind.i64.max = 9223372036854775807 := rfl; simp [Lit.wf, e1, e2]; omega))
                obtain ⟨s1, s2, -, -⟩ := HSM.out j y
                obtain ⟨-, -, s3, s4⟩ := HSM.out j z
                have HQ : Hid (∀ q : Int, D.atKey (.int .i64 y) (.lit (.int .i64 0)) = .lit (.int .i64 q) → q = cnX l m j y) := Lib.hid (fun q hq => by rw [hat y] at hq; injection hq with hq; injection hq with _ hq; exact hq.symm)
                have HP1 : Hid (∀ w', w'.ownsMap Tryd.prog 3 (plainElem Tryd.prog 3) w4.heap.size (2 * j + 1) (D.put (.int .i64 y) (.lit (.int .i64 (cnX l m j y + 1)))) → MapI w' w4.heap.size (2 * j + 1) (cnY l m j)) := Lib.hid (fun w' h => MapI.put hD hat HG1.out h)
                obtain ⟨q1, hq1⟩ : ∃ q, cnX l m j y = q := ⟨_, rfl⟩
                rw [hq1] at HP1 HQ s1 s2
                have HOWN := Lib.hid hown
                have HWF1 := Lib.hid (wf_small (z := q1 + 1) (by omega) (by omega))
                clear hq1 hown hD hat hokl hokm hy0 hy1 hz0 hz1 HG1
                obtain ⟨q2, hq2⟩ : ∃ q, cnY l m j z = q := ⟨_, rfl⟩
                rw [hq2] at s3 s4
                have HWF2 := Lib.hid (wf_small (z := q2 - 1) (by omega) (by omega))
                have HQ2 := Lib.hid hq2
                clear hq2
                have hcm := HCJ.out wr HB.out
                go_wp2_with (first
                  | (at_lookup; refine wpList_lookup_own_int _ rfl (.tmp 108) (.tmp 109) 54 rfl 3 3 .i64 Tryd.k3law Tryd.underlying54 Tryd.underlying3 (Tryd.zero3 _) w4.heap.size (2 * j) D rfl HOWN.out _ _ rfl HKY.out ?_; intro c0 hc0 hwf0; obtain rfl := HQ.out c0 hc0; clear hc0 hwf0 HQ)
                  | (at_mapUpdate; refine wpList_mapUpdate_own _ rfl (.tmp 108) (.tmp 109) (.tmp 111) 54 rfl 3 3 Tryd.k3law Tryd.underlying54 _ w4.heap.size (2 * j) D rfl HOWN.out (by unfold maxLen; omega) _ _ (.int .i64 y) rfl rfl HKY.out _ [] (plainElem_int Tryd.underlying3 HWF1.out) ?_; intro w5 hown1 hgrow1; have HM5 := Lib.hid (HP1.out w5 hown1); have HB5 : Hid (Below w4.heap.size w4 w5) := Lib.hid (HB.out.grown hgrow1 HB.out.size (fun r e => by cases e; omega)); have hcm5 := HCJ.out w5 HB5.out; clear hown1 hgrow1 hck hcm; obtain ⟨D5, hown5, hD5, hat5⟩ := HM5.out; have HQ5 : Hid (∀ q : Int, D5.atKey (.int .i64 z) (.lit (.int .i64 0)) = .lit (.int .i64 q) → q = q2) := Lib.hid (fun q hq => (by rw [hat5 z, HQ2.out] at hq; injection hq with hq; injection hq with _ hq; exact hq.symm)); have HP5 : Hid (∀ w', w'.ownsMap Tryd.prog 3 (plainElem Tryd.prog 3) w4.heap.size (2 * j + 1 + 1) (D5.put (.int .i64 z) (.lit (.int .i64 (q2 - 1)))) → MapI w' w4.heap.size (2 * j + 1 + 1) (cnX l m (j + 1))) := Lib.hid (fun w' h => MapI.put hD5 hat5 (fun x => (by rw [← HQ2.out]; exact HG2.out x)) h); have HOWN5 := Lib.hid hown5; clear hown5 hD5 hat5)
                  | (at_lookup; refine wpList_lookup_own_int _ rfl (.tmp 112) (.tmp 116) 54 rfl 3 3 .i64 Tryd.k3law Tryd.underlying54 Tryd.underlying3 (Tryd.zero3 _) w4.heap.size (2 * j + 1) D5 rfl HOWN5.out _ _ rfl HKZ.out ?_; intro c0 hc0 hwf0; obtain rfl := HQ5.out c0 hc0; clear hc0 hwf0 HQ5)
                  | (at_mapUpdate; refine wpList_mapUpdate_own _ rfl (.tmp 112) (.tmp 116) (.tmp 118) 54 rfl 3 3 Tryd.k3law Tryd.underlying54 _ w4.heap.size (2 * j + 1) D5 rfl HOWN5.out (by unfold maxLen; omega) _ _ (.int .i64 z) rfl rfl HKZ.out _ [] (plainElem_int Tryd.underlying3 HWF2.out) ?_; intro w6 hown6 hgrow6; have HM6 := Lib.hid (HP5.out w6 hown6); have HB6 : Hid (Below w4.heap.size w4 w6) := Lib.hid (HB5.out.grown hgrow6 HB5.out.size (fun r e => by cases e; omega)); have hcm6 := HCJ.out w6 HB6.out; clear hown6 hgrow6 hcm5))
                go_roundw
                case rel => exact ⟨j + 1, by omega, by go_num, HB6, Lib.hid (by rw [show 2 * (j + 1) = 2 * j + 1 + 1 from by omega]; exact HM6.out)⟩
                case measure => simp [intOf]; omega
              · obtain rfl : j = k := by omega
                have d : decide (j < j) = false := by simp
                obtain ⟨wo, rfl⟩ : ∃ wo : World, wo = wr := ⟨_, rfl⟩
                have HMI2 := HMI.out
                rw [HEND.out] at HMI2
                obtain ⟨D, hown, hD, hat⟩ := HMI2
                have HAT := Lib.hid hat
                clear hD hat HMI
                have HBW := Lib.hid (HB4.out.trans (HB.out.mono HB4.out.size))
                go_wp2_with (at_range; refine wpList_range_own _ rfl _ 54 rfl 3 3 Tryd.k3law Tryd.underlying54 _ w4.heap.size (2 * j) _ rfl hown ?_; intro w7 hrg0 hg0 hs0)
                have HBR := Lib.hid (HBW.out.grown (hg0.but none) HBW.out.size (fun r e => by cases e))
                have hsz7 := HBW.out.size
                go_loopw [155] (fun _ wq => ∃ (left : Lit → Bool) (cnt : Nat), wq.ranges Tryd.prog 3 (plainElem Tryd.prog 3) w4.heap.size wo.heap.size (2 * j) D left cnt ∧ Hid (Below w.heap.size w wq))
                  (fun _ wq => wq.rangeLeft w4.heap.size wo.heap.size)
                case atStart => exact ⟨_, _, hrg0, HBR⟩
                case round =>
                  obtain ⟨left, cnt, hrg, HBQ⟩ := hrel
                  go_wp2_with (at_next; refine wpList_next_ranges_ii _ rfl _ rfl 3 3 .i64 .i64 Tryd.k3law Tryd.underlying3 Tryd.underlying3 w4.heap.size wo.heap.size (2 * j) _ _ _ rfl hrg ?_ ?_)
                  · intro _ hl0
                    go_wp2
                    go_ret
                    exact ⟨rfl, HBQ.out⟩
                  · intro xk cv w8 cnt1 hwx hwc hlx hat8 hrg1 hlt8 hg1 hs1 hen
                    have hc8 := (hat8 (.lit (.int .i64 0))).symm.trans (HAT.out xk)
                    injection hc8 with hc8
                    injection hc8 with _ hc8
                    subst hc8
                    have HB8 := Lib.hid (HBQ.out.grown hg1 HBQ.out.size (fun r e => by cases e; exact hsz7))
                    have HR8 := Lib.hid hrg1
                    clear hat8 hlx hwx hwc
                    go_wp2
                    go_roundw
                    case rel => exact ⟨_, cnt1, HR8.out, HB8⟩
                    case measure => rw [HR8.out.left_eq, hrg.left_eq]; exact hlt8
          · skip
            have HEQ := Lib.hid (HM1.out rfl HAC2.out.1.symm)
            go_wp2
            go_loopw [103] (fun s103 wr => ∃ j : Nat, j ≤ k ∧ s103 = .int .i64 (j : Int) ∧ Hid (Below w4.heap.size w4 wr) ∧ Hid (MapI wr w4.heap.size (2 * j) (cnX l m j))) (fun s103 _ => k - (intOf s103).toNat)
            case atStart => exact ⟨0, Nat.zero_le _, rfl, Lib.hid ((Below.refl _ _).alloc (Nat.le_refl _) _), HMI0⟩
            case round =>
              obtain ⟨j, hj, rfl, HB, HMI⟩ := hrel
              by_cases hlt : j < k
              · have d : decide (j < k) = true := by simpa using hlt
                obtain ⟨bl, ol, rfl, hck⟩ := HCL.out wr HB.out j hlt
                obtain ⟨bm, om, rfl, -⟩ := HCM.out wr HB.out j hlt
                have HCM2 : Hid (∀ W, Below w4.heap.size w4 W → ∀ i, i < k → W.cell? ⟨bm, om + i, none⟩ = some (.int .i64 (m.getD i 0))) := Lib.hid (fun W hW i hi => by
                  obtain ⟨b', o', e, h⟩ := HCM.out W hW i hi
                  injection e with e
                  injection e with e1 e2
                  rw [e1, e2]; exact h)
                have HCJ := Lib.hid (fun W hW => HCM2.out W hW j hlt)
                have hokl := HPT.out l j (List.Perm.refl _) (by rw [HN.out]; exact hlt)
                have hokm := HPT.out m j HLM.out (by rw [HLL.out]; exact hlt)
                have HG1 := Lib.hid (HF1.out j hlt)
                have HG2 := Lib.hid (HF2.out j hlt)
                obtain ⟨D, hown, hD, hat⟩ := HMI.out
                obtain ⟨p, hp⟩ : ∃ p, k = p + 1 + j := ⟨k - 1 - j, by omega⟩
                have hyz := HEQ.out j (by omega)
                rw [show k - 1 - j = p from by omega] at hyz
                have hpk : p < k := by omega
                have HCP := Lib.hid (fun W hW => HCM2.out W hW p hpk)
                rw [hyz] at HCP
                have hsub : IntKind.i64.wrap ((k : Int) - 1 - (j : Int)) = (p : Int) := by rw [IntKind.wrap_i64]; omega
                have hsub2 : (k : Int) - 1 - (j : Int) = (p : Int) := by omega
                clear hyz
                have HP := Lib.hid hp
                clear hp
                obtain ⟨y, hy⟩ : ∃ y, l.getD j 0 = y := ⟨_, rfl⟩
                rw [hy] at hck hokl HG1 HCP
                obtain ⟨z, hz⟩ : ∃ y, m.getD j 0 = y := ⟨_, rfl⟩
                rw [hz] at HCJ hokm HG2
                clear hy hz
                obtain ⟨hy0, hy1, -⟩ := okPt_iff.1 hokl
                obtain ⟨hz0, hz1, -⟩ := okPt_iff.1 hokm
                have HKY : Hid (keyOf Tryd.prog 3 (.int .i64 y) = some (.int .i64 y)) := Lib.hid (keyOf_int_mk Tryd.underlying3 (by have e1 : IntKind.i64.min = -9223372036854775808 := rfl; have e2 : IntKind.i64.max = 9223372036854775807 := rfl; simp [Lit.wf, e1, e2]; omega))
                have HKZ : Hid (keyOf Tryd.prog 3 (.int .i64 z) = some (.int .i64 z)) := Lib.hid (keyOf_int_mk Tryd.underlying3 (by have e1 : IntKind.i64.min = -9223372036854775808 := rfl; have e2 : IntKind.i64.max = 9223372036854775807 := rfl; simp [Lit.wf, e1, e2]; omega))
                obtain ⟨s1, s2, -, -⟩ := HSM.out j y
                obtain ⟨-, -, s3, s4⟩ := HSM.out j z
                have HQ : Hid (∀ q : Int, D.atKey (.int .i64 y) (.lit (.int .i64 0)) = .lit (.int .i64 q) → q = cnX l m j y) := Lib.hid (fun q hq => by rw [hat y] at hq; injection hq with hq; injection hq with _ hq; exact hq.symm)
                have HP1 : Hid (∀ w', w'.ownsMap Tryd.prog 3 (plainElem Tryd.prog 3) w4.heap.size (2 * j + 1) (D.put (.int .i64 y) (.lit (.int .i64 (cnX l m j y + 1)))) → MapI w' w4.heap.size (2 * j + 1) (cnY l m j)) := Lib.hid (fun w' h => MapI.put hD hat HG1.out h)
                obtain ⟨q1, hq1⟩ : ∃ q, cnX l m j y = q := ⟨_, rfl⟩
                rw [hq1] at HP1 HQ s1 s2
                have HOWN := Lib.hid hown
                have HWF1 := Lib.hid (wf_small (z := q1 + 1) (by omega) (by omega))
                clear hq1 hown hD hat hokl hokm hy0 hy1 hz0 hz1 HG1
                obtain ⟨q2, hq2⟩ : ∃ q, cnY l m j z = q := ⟨_, rfl⟩
                rw [hq2] at s3 s4
                have HWF2 := Lib.hid (wf_small (z := q2 - 1) (by omega) (by omega))
                have HQ2 := Lib.hid hq2
                clear hq2
                have hcm := HCJ.out wr HB.out
                go_wp2_with (first
                  | (at_lookup; refine wpList_lookup_own_int _ rfl (.tmp 108) (.tmp 109) 54 rfl 3 3 .i64 Tryd.k3law Tryd.underlying54 Tryd.underlying3 (Tryd.zero3 _) w4.heap.size (2 * j) D rfl HOWN.out _ _ rfl HKY.out ?_; intro c0 hc0 hwf0; obtain rfl := HQ.out c0 hc0; clear hc0 hwf0 HQ)
                  | (at_mapUpdate; refine wpList_mapUpdate_own _ rfl (.tmp 108) (.tmp 109) (.tmp 111) 54 rfl 3 3 Tryd.k3law Tryd.underlying54 _ w4.heap.size (2 * j) D rfl HOWN.out (by unfold maxLen; omega) _ _ (.int .i64 y) rfl rfl HKY.out _ [] (plainElem_int Tryd.underlying3 HWF1.out) ?_; intro w5 hown1 hgrow1; have HM5 := Lib.hid (HP1.out w5 hown1); have HB5 : Hid (Below w4.heap.size w4 w5) := Lib.hid (HB.out.grown hgrow1 HB.out.size (fun r e => by cases e; omega)); have hcm5 := HCJ.out w5 HB5.out; clear hown1 hgrow1 hck hcm; obtain ⟨D5, hown5, hD5, hat5⟩ := HM5.out; have HQ5 : Hid (∀ q : Int, D5.atKey (.int .i64 z) (.lit (.int .i64 0)) = .lit (.int .i64 q) → q = q2) := Lib.hid (fun q hq => (by rw [hat5 z, HQ2.out] at hq; injection hq with hq; injection hq with _ hq; exact hq.symm)); have HP5 : Hid (∀ w', w'.ownsMap Tryd.prog 3 (plainElem Tryd.prog 3) w4.heap.size (2 * j + 1 + 1) (D5.put (.int .i64 z) (.lit (.int .i64 (q2 - 1)))) → MapI w' w4.heap.size (2 * j + 1 + 1) (cnX l m (j + 1))) := Lib.hid (fun w' h => MapI.put hD5 hat5 (fun x => (by rw [← HQ2.out]; exact HG2.out x)) h); have HOWN5 := Lib.hid hown5; clear hown5 hD5 hat5)
                  | (at_lookup; refine wpList_lookup_own_int _ rfl (.tmp 112) (.tmp 116) 54 rfl 3 3 .i64 Tryd.k3law Tryd.underlying54 Tryd.underlying3 (Tryd.zero3 _) w4.heap.size (2 * j + 1) D5 rfl HOWN5.out _ _ rfl HKZ.out ?_; intro c0 hc0 hwf0; obtain rfl := HQ5.out c0 hc0; clear hc0 hwf0 HQ5)
                  | (at_mapUpdate; refine wpList_mapUpdate_own _ rfl (.tmp 112) (.tmp 116) (.tmp 118) 54 rfl 3 3 Tryd.k3law Tryd.underlying54 _ w4.heap.size (2 * j + 1) D5 rfl HOWN5.out (by unfold maxLen; omega) _ _ (.int .i64 z) rfl rfl HKZ.out _ [] (plainElem_int Tryd.underlying3 HWF2.out) ?_; intro w6 hown6 hgrow6; have HM6 := Lib.hid (HP5.out w6 hown6); have HB6 : Hid (Below w4.heap.size w4 w6) := Lib.hid (HB5.out.grown hgrow6 HB5.out.size (fun r e => by cases e; omega)); have hcm6 := HCJ.out w6 HB6.out; have hcp6 := HCP.out w6 HB6.out; clear hown6 hgrow6 hcm5))
                go_roundw
                case rel => exact ⟨j + 1, by omega, by go_num, HB6, Lib.hid (by rw [show 2 * (j + 1) = 2 * j + 1 + 1 from by omega]; exact HM6.out)⟩
                case measure => simp [intOf]; omega
              · obtain rfl : j = k := by omega
                have d : decide (j < j) = false := by simp
                obtain ⟨wo, rfl⟩ : ∃ wo : World, wo = wr := ⟨_, rfl⟩
                have HMI2 := HMI.out
                rw [HEND.out] at HMI2
                obtain ⟨D, hown, hD, hat⟩ := HMI2
                have HAT := Lib.hid hat
                clear hD hat HMI
                have HBW := Lib.hid (HB4.out.trans (HB.out.mono HB4.out.size))
                go_wp2_with (at_range; refine wpList_range_own _ rfl _ 54 rfl 3 3 Tryd.k3law Tryd.underlying54 _ w4.heap.size (2 * j) _ rfl hown ?_; intro w7 hrg0 hg0 hs0)
                have HBR := Lib.hid (HBW.out.grown (hg0.but none) HBW.out.size (fun r e => by cases e))
                have hsz7 := HBW.out.size
                go_loopw [155] (fun _ wq => ∃ (left : Lit → Bool) (cnt : Nat), wq.ranges Tryd.prog 3 (plainElem Tryd.prog 3) w4.heap.size wo.heap.size (2 * j) D left cnt ∧ Hid (Below w.heap.size w wq))
                  (fun _ wq => wq.rangeLeft w4.heap.size wo.heap.size)
                case atStart => exact ⟨_, _, hrg0, HBR⟩
                case round =>
                  obtain ⟨left, cnt, hrg, HBQ⟩ := hrel
                  go_wp2_with (at_next; refine wpList_next_ranges_ii _ rfl _ rfl 3 3 .i64 .i64 Tryd.k3law Tryd.underlying3 Tryd.underlying3 w4.heap.size wo.heap.size (2 * j) _ _ _ rfl hrg ?_ ?_)
                  · intro _ hl0
                    go_wp2
                    go_ret
                    exact ⟨rfl, HBQ.out⟩
                  · intro xk cv w8 cnt1 hwx hwc hlx hat8 hrg1 hlt8 hg1 hs1 hen
                    have hc8 := (hat8 (.lit (.int .i64 0))).symm.trans (HAT.out xk)
                    injection hc8 with hc8
                    injection hc8 with _ hc8
                    subst hc8
                    have HB8 := Lib.hid (HBQ.out.grown hg1 HBQ.out.size (fun r e => by cases e; exact hsz7))
                    have HR8 := Lib.hid hrg1
                    clear hat8 hlx hwx hwc
                    go_wp2
                    go_roundw
                    case rel => exact ⟨_, cnt1, HR8.out, HB8⟩
                    case measure => rw [HR8.out.left_eq, hrg.left_eq]; exact hlt8
    · obtain ⟨e1, e2⟩ := show_no (b := bsOf x) hz
      simp only [e1, e2] at HS
      obtain ⟨s, hs⟩ : ∃ s, str bs = s := ⟨_, rfl⟩
      obtain ⟨n, hn⟩ : ∃ n, bs.length = n := ⟨_, rfl⟩
      obtain ⟨z, hzz⟩ : ∃ z, rnsE bs = z := ⟨_, rfl⟩
      obtain ⟨l, hl⟩ : ∃ l, rnsV bs = l := ⟨_, rfl⟩
      have hse : str [] = ⟨#[]⟩ := rfl
      rw [hs, hn] at hsz
      rw [hn] at h300
      simp only [hs, hzz, hse] at HS
      simp only [hs, hzz, hl] at HR
      rw [hs]
      have d1 : decide (300 < (n : Int)) = false := by simp; omega
      have d2 : (z != 0) = true := by rw [hzz] at hz; simpa using hz
      have d3 : (z == z) = true := by simp
      clear hs hn hzz hl hz hse e1 e2 h300 hT
      go_enter Tryd.func15, Tryd.ntmps15
      go_wp2_with fail
      (with_reducible refine (HSN.out).mono ?_)
      rintro e w1 ⟨rfl, hb⟩
      have HB1 := Lib.hid hb
      clear hb
      go_wp2_with fail
      (with_reducible refine (HS.out w1 HB1.out).mono ?_)
      rintro e w2 ⟨rfl, hb⟩
      have HB2 := Lib.hid (HB1.out.trans (hb.mono HB1.out.size))
      clear hb
      go_wp2_with fail
      (with_reducible refine (HR.out w2 HB2.out).mono ?_)
      rintro e w3 ⟨vl, rfl, ho, hb⟩
      have HB3 := Lib.hid (HB2.out.trans (hb.mono HB2.out.size))
      clear hb ho
      go_wp2
      go_ret
      exact ⟨by simp, HB3.out⟩

end Go.Proofs.YtilkhamlhbbmgaaDoor
