/- lex.Lex. -/
import Derived.Test.YtdcdldjbdjochaaDoorScw
import Derived.Defers
import Derived.Recover
namespace Go.Proofs.YtdcdldjbdjochaaDoor
open Go.RowKit

theorem ta_yes (k : Int) (w : World) : (Instr.typeAssert (.iface 42 (.int .i64 k)) 20 42 true).run Tryd.prog w = .ok (.tuple #[.int .i64 k, .bool true]) w := by kernel_rfl
theorem ta_no (w : World) : (Instr.typeAssert .nilIface 20 42 true).run Tryd.prog w = .ok (.tuple #[.int .i64 0, .bool false]) w := by kernel_rfl

set_option maxRecDepth 100000 in
set_option maxHeartbeats 1000000 in
theorem catch_panic (p q r : Nat) (k : Nat) (c0 c1 c2 : Value) (older : List PanicEntry) (w : World)
    (h0 : w.cell? ⟨p, 0, none⟩ = some c0) (h1 : w.cell? ⟨q, 0, none⟩ = some c1) (h2 : w.cell? ⟨r, 0, none⟩ = some c2) (_hpq : p ≠ q) (_hpr : p ≠ r) (_hqr : q ≠ r)
    (f0 : w.frozen? ⟨p, 0, none⟩ = false) (f1 : w.frozen? ⟨q, 0, none⟩ = false) (f2 : w.frozen? ⟨r, 0, none⟩ = false) :
    CallsD Tryd.prog 23 #[.pointer (some ⟨p, 0, none⟩), .pointer (some ⟨q, 0, none⟩), .pointer (some ⟨r, 0, none⟩)] (.panicking ({ v := .iface 42 (.int .i64 k), recovered := false } :: older)) w fun e u' w' =>
      e = .returned (.tuple #[]) ∧ u' = .panicking ({ v := .iface 42 (.int .i64 k), recovered := true } :: older) ∧
        w' = ((w.setCell ⟨p, 0, none⟩ (.slice none 0 0)).setCell ⟨q, 0, none⟩ (.int .i64 k)).setCell ⟨r, 0, none⟩ (.int .i64 30) := by
  refine callsD_of_wpS Tryd.func23 rfl fun c₀ cs hu => ?_
  apply wpS_seq
  apply wpS_region
  simp [wpOpsS, ta_yes, go_sem, recoverD, hu, Tryd.ntmps23, Exit.thenS]
  apply wpS_seq
  apply wpS_region
  simp [wpOpsS, go_sem, Exit.thenS]
  refine wpS_cond (t := true) (by simp [Act.eval, Array.replicate]) ?_
  simp only [if_true]
  apply wpS_region
  simp [wpOpsS, go_sem, h0, h1, h2, f0, f1, f2, bodyPostS, results, Tryd.results23]

set_option maxRecDepth 100000 in
set_option maxHeartbeats 1000000 in
theorem catch_idle (p q r : Nat) (w : World) :
    CallsD Tryd.prog 23 #[.pointer (some ⟨p, 0, none⟩), .pointer (some ⟨q, 0, none⟩), .pointer (some ⟨r, 0, none⟩)] .returning w fun e u' w' => e = .returned (.tuple #[]) ∧ u' = .returning ∧ w' = w := by
  refine callsD_of_wpS Tryd.func23 rfl fun c₀ cs hu => ?_
  apply wpS_seq
  apply wpS_region
  simp [wpOpsS, ta_no, go_sem, recoverD, hu, Tryd.ntmps23, Exit.thenS]
  apply wpS_seq
  apply wpS_region
  simp [wpOpsS, go_sem, Exit.thenS]
  refine wpS_cond (t := false) (by simp [Act.eval, Array.replicate]) ?_
  simp only [Bool.false_eq_true, if_false]
  refine wpS_of_wp (wp_skip ?_)
  cases c₀
  simp_all [bodyPostS, results, Tryd.results23]
/-- What Lex ends in. -/
def LexPost (w : World) (o : Res) (e : Ending) (w' : World) : Prop := Below w.heap.size w w' ∧ match o with
  | .bad p => e = .returned (.tuple #[.slice none 0 0, .int .i64 p, .int .i64 30])
  | .ok l => ∃ v B, e = .returned (.tuple #[v, .int .i64 0, .int .i64 0]) ∧ w.heap.size ≤ B ∧ w'.ownsRow B 35 4 v l.length (tcells l)

theorem lex_long (w : World) (bs : List UInt8) (hl : 65536 < bs.length) : Calls Tryd.prog 11 #[.string (str bs)] w fun e w' => e = .returned (.tuple #[.slice none 0 0, .int .i64 0, .int .i64 2]) ∧ Below w.heap.size w w' := by
  have hsz := str_size bs
  obtain ⟨s, hs⟩ : ∃ s, str bs = s := ⟨_, rfl⟩
  obtain ⟨N, hN⟩ : ∃ N, bs.length = N := ⟨_, rfl⟩
  rw [hs, hN] at hsz
  rw [hs]
  rw [hN] at hl
  have d : decide (65536 < (N : Int)) = true := by simp; omega
  clear hs hN hl
  go_enter_defers Tryd.func11, Tryd.ntmps11
  go_wp2
  show Leaves _ _ _ _ [] _ _
  simp [Leaves, results, Tryd.results11, go_sem]
  go_grown

theorem own_slice {w : World} {B e size n : Nat} {v : Value} {xs : List Value} (h : w.ownsRow B e size v n xs) : ∃ a cap, v = .slice a n cap := by
  rcases h.2 with ⟨rfl, h0⟩ | ⟨g, cap, cur, rfl, _⟩
  · exact ⟨none, 0, by rw [h0]⟩
  · exact ⟨_, cap, rfl⟩
theorem ow_set {w : World} {B b : Nat} {v : Value} {n : Nat} {xs : List Value} (h : w.ownsRow B 35 4 v n xs) (hb : b < B) (u : Value) : (w.setCell ⟨b, 0, none⟩ u).ownsRow B 35 4 v n xs :=
  h.kept (row := some b) ⟨rfl, rfl, rfl, by simp, fun i hi hne => Below.heap_setCell _ _ _ _ (by simpa using fun e => hne (by rw [e]))⟩ (.inr fun e => by have := (h.lt b e).1; omega)

set_option maxRecDepth 100000 in
set_option maxHeartbeats 2000000 in
theorem lex_any (w : World) (bs : List UInt8) (hT : Tab w) (hl : bs.length ≤ 65536) : Calls Tryd.prog 11 #[.string (str bs)] w (LexPost w (lexAll bs)) := by
  have hmf : ∀ (fn : Fn) (first cap : Array Value) (w : World), (Instr.makeFunc fn first cap).run Tryd.prog w = .ok (.func fn first cap) w := fun _ _ _ _ => rfl
  have hsz := str_size bs
  obtain ⟨w1, hw1⟩ : ∃ w1, w1 = ((w.alloc (Obj.cells #[.slice none 0 0] 23)).alloc (Obj.cells #[.int .i64 0] 3)).alloc (Obj.cells #[.int .i64 0] 24) := ⟨_, rfl⟩
  have hz1 : w1.heap.size = w.heap.size + 3 := by rw [hw1]; simp
  have hB1 : Below w.heap.size w w1 := by rw [hw1]; go_grown
  have hc := scanWhole_any w1 bs (hT.below hB1) (by omega)
  obtain ⟨o, ho⟩ : ∃ o, lexAll bs = o := ⟨_, rfl⟩
  rw [ho] at hc ⊢
  obtain ⟨s, hs⟩ : ∃ s, str bs = s := ⟨_, rfl⟩
  obtain ⟨N, hN⟩ : ∃ N, bs.length = N := ⟨_, rfl⟩
  rw [hs, hN] at hsz
  rw [hs] at hc ⊢
  rw [hN] at hl
  have d : decide (65536 < (N : Int)) = false := by simp; omega
  have HC := Lib.hid hc
  have HW := Lib.hid hw1
  have hcz : ∀ w2, Below w1.heap.size w1 w2 → (w2.cell? ⟨w.heap.size, 0, none⟩ = some (.slice none 0 0) ∧ w2.cell? ⟨w.heap.size + 1, 0, none⟩ = some (.int .i64 0) ∧ w2.cell? ⟨w.heap.size + 2, 0, none⟩ = some (.int .i64 0)) ∧
      w2.frozen? ⟨w.heap.size, 0, none⟩ = false ∧ w2.frozen? ⟨w.heap.size + 1, 0, none⟩ = false ∧ w2.frozen? ⟨w.heap.size + 2, 0, none⟩ = false := fun w2 hb => by
    have hcell : ∀ k i u, k < w1.heap.size → w1.cell? ⟨k, i, none⟩ = some u → w2.cell? ⟨k, i, none⟩ = some u := fun k i u hk hu => (hb.cell (p := ⟨k, i, none⟩) hk).trans hu
    refine ⟨⟨hcell _ _ _ (by omega) (by rw [hw1]; go_cell), hcell _ _ _ (by omega) (by rw [hw1]; go_cell), hcell _ _ _ (by omega) (by rw [hw1]; go_cell)⟩, ?_, ?_, ?_⟩
    · rw [hb.frozen (p := ⟨w.heap.size, 0, none⟩) (by show w.heap.size < _; omega), hw1]; go_cell
    · rw [hb.frozen (p := ⟨w.heap.size + 1, 0, none⟩) (by show w.heap.size + 1 < _; omega), hw1]; go_cell
    · rw [hb.frozen (p := ⟨w.heap.size + 2, 0, none⟩) (by show w.heap.size + 2 < _; omega), hw1]; go_cell
  have HCZ := Lib.hid hcz
  clear hc hw1 ho hcz hT hs hN hl
  cases o with
  | bad p =>
    go_enter_defers Tryd.func11, Tryd.ntmps11
    go_wp2_with fail
    rw [← HW.out]
    refine HC.out.mono ?_
    rintro e w2 ⟨he, hb2⟩
    have he : e = .panicked [{ v := .iface 42 (.int .i64 p), recovered := false }] := he
    subst he
    obtain ⟨⟨z0, z1, z2⟩, f0, f1, f2⟩ := HCZ.out w2 hb2
    go_wp2
    refine leaves_cons (f := 23) (args := #[.pointer (some ⟨w.heap.size, 0, none⟩), .pointer (some ⟨w.heap.size + 1, 0, none⟩), .pointer (some ⟨w.heap.size + 2, 0, none⟩)]) (by simp) (by simp [go_sem]) ?_
    refine (catch_panic w.heap.size (w.heap.size + 1) (w.heap.size + 2) p _ _ _ [] _ z0 z1 z2 (by omega) (by omega) (by omega) f0 f1 f2).mono ?_
    rintro e u' w'' ⟨rfl, rfl, rfl⟩
    have k0 : (((w2.setCell ⟨w.heap.size, 0, none⟩ (.slice none 0 0)).setCell ⟨w.heap.size + 1, 0, none⟩ (.int .i64 p)).setCell ⟨w.heap.size + 2, 0, none⟩ (.int .i64 30)).cell? ⟨w.heap.size, 0, none⟩ = some (.slice none 0 0) := by simp [go_sem, z0]
    have k1 : (((w2.setCell ⟨w.heap.size, 0, none⟩ (.slice none 0 0)).setCell ⟨w.heap.size + 1, 0, none⟩ (.int .i64 p)).setCell ⟨w.heap.size + 2, 0, none⟩ (.int .i64 30)).cell? ⟨w.heap.size + 1, 0, none⟩ = some (.int .i64 p) := by simp [go_sem, z1]
    have k2 : (((w2.setCell ⟨w.heap.size, 0, none⟩ (.slice none 0 0)).setCell ⟨w.heap.size + 1, 0, none⟩ (.int .i64 p)).setCell ⟨w.heap.size + 2, 0, none⟩ (.int .i64 30)).cell? ⟨w.heap.size + 2, 0, none⟩ = some (.int .i64 30) := by simp [go_sem, z2]
    have hbf : Below w.heap.size w (((w2.setCell ⟨w.heap.size, 0, none⟩ (.slice none 0 0)).setCell ⟨w.heap.size + 1, 0, none⟩ (.int .i64 p)).setCell ⟨w.heap.size + 2, 0, none⟩ (.int .i64 30)) :=
      (((hB1.trans (hb2.mono (by omega))).setCell (Nat.le_refl _) _).setCell (by simp) _).setCell (by simp) _
    generalize (((w2.setCell ⟨w.heap.size, 0, none⟩ (.slice none 0 0)).setCell ⟨w.heap.size + 1, 0, none⟩ (.int .i64 p)).setCell ⟨w.heap.size + 2, 0, none⟩ (.int .i64 30)) = W at *
    simp [Leaves, settle, results, Tryd.results11, go_sem, k0, k1, k2, LexPost]
    exact hbf
  | ok l =>
    go_enter_defers Tryd.func11, Tryd.ntmps11
    go_wp2_with fail
    rw [← HW.out]
    refine HC.out.mono ?_
    rintro e w2 ⟨v, B, rfl, hBl, hown, hb2⟩
    obtain ⟨va, vc, rfl⟩ := own_slice hown
    obtain ⟨⟨z0, z1, z2⟩, f0, f1, f2⟩ := HCZ.out w2 hb2
    have HO := Lib.hid hown
    have hs2 := hb2.size
    clear hown
    go_wp2
    refine leaves_cons (f := 23) (args := #[.pointer (some ⟨w.heap.size, 0, none⟩), .pointer (some ⟨w.heap.size + 1, 0, none⟩), .pointer (some ⟨w.heap.size + 2, 0, none⟩)]) (by simp) (by simp [go_sem]) ?_
    refine (catch_idle w.heap.size (w.heap.size + 1) (w.heap.size + 2) _).mono ?_
    rintro e u' w'' ⟨rfl, rfl, rfl⟩
    have k0 : (((w2.setCell ⟨w.heap.size, 0, none⟩ (.slice va l.length vc)).setCell ⟨w.heap.size + 1, 0, none⟩ (.int .i64 0)).setCell ⟨w.heap.size + 2, 0, none⟩ (.int .i64 0)).cell? ⟨w.heap.size, 0, none⟩ = some (.slice va l.length vc) := by simp [go_sem, z0]
    have k1 : (((w2.setCell ⟨w.heap.size, 0, none⟩ (.slice va l.length vc)).setCell ⟨w.heap.size + 1, 0, none⟩ (.int .i64 0)).setCell ⟨w.heap.size + 2, 0, none⟩ (.int .i64 0)).cell? ⟨w.heap.size + 1, 0, none⟩ = some (.int .i64 0) := by simp [go_sem, z1]
    have k2 : (((w2.setCell ⟨w.heap.size, 0, none⟩ (.slice va l.length vc)).setCell ⟨w.heap.size + 1, 0, none⟩ (.int .i64 0)).setCell ⟨w.heap.size + 2, 0, none⟩ (.int .i64 0)).cell? ⟨w.heap.size + 2, 0, none⟩ = some (.int .i64 0) := by simp [go_sem, z2]
    have hbf : Below w.heap.size w (((w2.setCell ⟨w.heap.size, 0, none⟩ (.slice va l.length vc)).setCell ⟨w.heap.size + 1, 0, none⟩ (.int .i64 0)).setCell ⟨w.heap.size + 2, 0, none⟩ (.int .i64 0)) :=
      (((hB1.trans (hb2.mono (by omega))).setCell (Nat.le_refl _) _).setCell (by simp) _).setCell (by simp) _
    have hof : (((w2.setCell ⟨w.heap.size, 0, none⟩ (.slice va l.length vc)).setCell ⟨w.heap.size + 1, 0, none⟩ (.int .i64 0)).setCell ⟨w.heap.size + 2, 0, none⟩ (.int .i64 0)).ownsRow B 35 4 (.slice va l.length vc) l.length (tcells l) := ow_set (ow_set (ow_set HO.out (by omega) _) (by omega) _) (by omega) _
    generalize (((w2.setCell ⟨w.heap.size, 0, none⟩ (.slice va l.length vc)).setCell ⟨w.heap.size + 1, 0, none⟩ (.int .i64 0)).setCell ⟨w.heap.size + 2, 0, none⟩ (.int .i64 0)) = W at *
    simp [Leaves, settle, results, Tryd.results11, go_sem, k0, k1, k2, LexPost]
    exact ⟨hbf, B, by omega, hof⟩

end Go.Proofs.YtdcdldjbdjochaaDoor
