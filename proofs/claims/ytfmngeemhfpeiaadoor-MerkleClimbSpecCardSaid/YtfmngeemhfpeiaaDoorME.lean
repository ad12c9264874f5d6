/- chain.Part$1. chain.first, with the closure of Part. chain.Part. chain: what is appended to a row of links; bytes.Clone; slices.Clip. bytes.Clone. chain.Add. chain: plain facts on chains. No program is walked here. -/
import Derived.Test.YtfmngeemhfpeiaaDoorMD
import Derived.Deep.QuietTactic
import Derived.LoopTactic
namespace Go.Proofs.YtfmngeemhfpeiaaDoor
open Go.RowKit

def c72a0 : Oper := { dst := some 6, op := Go.Op.load 55 (Go.Operand.tmp 4), type := 55, pos := "chain.go:58", after := #[], guard := none }
def c72a1 : Oper := { dst := some 7, op := Go.Op.load 44 (Go.Operand.tmp 2), type := 44, pos := "chain.go:58", after := #[], guard := none }
def c72a2 : Oper := { dst := some 8, op := Go.Op.move (Go.Operand.tmp 0), type := 3, pos := "chain.go:58", after := #[], guard := none }
def c72a3 : Oper := { dst := some 9, op := Go.Op.indexAddr 44 (Go.Operand.tmp 7) (Go.Operand.tmp 8), type := 0, pos := "chain.go:58", after := #[{ on := 1, ground := Go.Ground.data }, { on := 2, ground := Go.Ground.data }], guard := none }
def c72a4 : Oper := { dst := some 10, op := Go.Op.load 55 (Go.Operand.tmp 9), type := 55, pos := "chain.go:58", after := #[{ on := 3, ground := Go.Ground.data }], guard := none }
def c72a5 : Oper := { dst := some 11, op := Go.Op.call { callee := Go.Callee.value (Go.Operand.func 73), args := #[Go.Operand.tmp 6, Go.Operand.tmp 10], argTypes := #[55, 55] }, type := 4, pos := "chain.go:58", after := #[{ on := 0, ground := Go.Ground.data }, { on := 4, ground := Go.Ground.data }], guard := none }
def c72a6 : Oper := { dst := some 12, op := Go.Op.unOp Go.UnOp.not 4 (Go.Operand.tmp 11), type := 4, pos := "chain.go:58", after := #[{ on := 5, ground := Go.Ground.data }], guard := none }
def c72a7 : Oper := { dst := some 5, op := Go.Op.assign (Go.Operand.tmp 12), type := 4, pos := "chain.go:58", after := #[{ on := 6, ground := Go.Ground.data }, { on := 5, ground := Go.Ground.chain }, { on := 0, ground := Go.Ground.phase }, { on := 1, ground := Go.Ground.phase }, { on := 2, ground := Go.Ground.phase }, { on := 3, ground := Go.Ground.phase }, { on := 4, ground := Go.Ground.phase }, { on := 5, ground := Go.Ground.phase }, { on := 6, ground := Go.Ground.phase }], guard := none }

set_option maxRecDepth 100000 in
set_option maxHeartbeats 4000000 in
theorem part1_any (w : World) (q : Nat) (rv : Value) (l : List Lk) (i : Nat) (hi : i < l.length) (v : Value) (x : Lk) (hq : w.cell? ⟨q, 0, none⟩ = some rv) (hqb : q < w.heap.size) (hl : LRow w w.heap.size rv l) (hx : x.ok) (hv : LinkAt w w.heap.size v x) :
    Calls Tryd.prog 72 #[.int .i64 i, v, .pointer (some ⟨q, 0, none⟩)] w fun e w' => e = .returned (.bool (!decide (x = l[i]))) ∧ Below w.heap.size w w' := by
  obtain ⟨hok, a, cap, rfl, h1, h2, h3⟩ := hl
  obtain ⟨b, off, rfl, h4, h5⟩ := h3.resolve_left (fun e => by subst e; exact absurd hi (by simp))
  obtain ⟨f, h6, h7⟩ := h5 i hi
  obtain ⟨d, rfl, hd⟩ := hv
  have hy := hok _ (List.getElem_mem hi)
  obtain ⟨y, hyy⟩ : ∃ y, l[i] = y := ⟨_, rfl⟩
  rw [hyy] at h6 h7 hy ⊢
  obtain ⟨N, hN⟩ : ∃ N, l.length = N := ⟨_, rfl⟩
  rw [hN] at h1 hi hq
  have lx := lcells_len x d hx.1
  have ly := lcells_len y f hy.1
  have hsm : ∀ W, Below w.heap.size w W → Calls Tryd.prog 73 #[.agg (lcells x d).toArray, .agg (lcells y f).toArray] W fun e w' => e = .returned (.bool (decide (x = y))) ∧ Below W.heap.size W w' := fun W hW =>
    same_any W _ _ x y hx hy ⟨d, rfl, (hd.below hW).mono hW.size⟩ ⟨f, rfl, (h7.below hW).mono hW.size⟩
  obtain ⟨cx, hcx⟩ : ∃ cs, lcells x d = cs := ⟨_, rfl⟩
  obtain ⟨cy, hcy⟩ : ∃ cs, lcells y f = cs := ⟨_, rfl⟩
  rw [hcx] at lx hsm ⊢
  rw [hcy] at ly hsm h6
  generalize decide (x = y) = B at *
  have HZX : Hid ((Tryd.prog.info? 55).map (·.size) = some cx.length) := by show _ = _; rw [lx]; exact Tryd.info55
  have HZY : Hid ((Tryd.prog.info? 55).map (·.size) = some cy.length) := by show _ = _; rw [ly]; exact Tryd.info55
  have H6 := Lib.hid h6
  have HQ := Lib.hid hq
  have HSM0 := Lib.hid hsm
  have ki : (i : Int) < (N : Int) := by omega
  have kc : i < cap := by omega
  clear hok h2 h3 h5 h7 hd hyy hN lx ly hcx hcy h6 hq hsm hx hy
  go_enter Tryd.func72, Tryd.ntmps72
  go_upto_region 1 with fail
  refine code_world (fun W => Below w.heap.size w W ∧ Arr W w.heap.size cx ∧ w.heap.size < W.heap.size) ⟨by go_grown, by have h := Arr.new w cx.toArray 55; rw [List.toList_toArray] at h; exact h, by simp⟩ ?_
  rintro W0 ⟨hB0, hA0, hz0⟩
  have C0 : Hid (∀ W, Kept W0 W → W.cell? ⟨q, 0, none⟩ = some (.slice (some ⟨b, off, none⟩) N cap)) := Lib.hid fun W hW => ((hB0.trans (hW.below.mono (by omega))).cell (p := ⟨q, 0, none⟩) hqb).trans HQ.out
  have AX : Hid (∀ W, Kept W0 W → W.rangeAt w.heap.size 0 cx) := Lib.hid fun W hW => (hA0.below hW.below hz0).at_
  have AY : Hid (∀ W, Kept W0 W → W.rangeAt b (off + i * 35) cy) := Lib.hid fun W hW j v hv => ((hB0.trans (hW.below.mono (by omega))).cell (p := ⟨b, off + i * 35 + j, none⟩) h4).trans (H6.out j v hv)
  have HSM : Hid (∀ W, Kept W0 W → Calls Tryd.prog 73 #[.agg cx.toArray, .agg cy.toArray] W fun e w' => e = .returned (.bool B) ∧ Below W.heap.size W w') := Lib.hid fun W hW => HSM0.out W (hB0.trans (hW.below.mono (by omega)))
  have HB0 := Lib.hid hB0
  clear hA0 hz0 hB0
  refine wp_region_held_drew (S := fun W => Kept W0 W) (by kernel_rfl) (Kept.drew (Kept.refl W0)) (fun hHeld => ?_)
  refine wpAnyH_take (i := 0) (oi := c72a0) rfl (by kernel_rfl) (by kernel_rfl) (by kernel_rfl) (fun _ _ _ h => h) (yieldsIf_load_mid (by rfl) 55 (.tmp 4) (by rfl) w.heap.size 0 (by rfl) cx _ (fun w hSw => AX.out w hSw) Tryd.underlying55 rfl HZX.out) hHeld ?_
  try simp only [c72a0, Act.put, List.setIfInBounds_toArray, List.set_cons_zero, List.set_cons_succ]
  refine wpAnyH_take (i := 1) (oi := c72a1) (v := ?_) rfl (by kernel_rfl) (by kernel_rfl) (by kernel_rfl) (fun _ _ _ h => h) (Or.inl ⟨by rfl, ?_⟩) hHeld ?_
  rotate_left
  · (intro w hSw; have f0 := C0.out w hSw; unfold c72a1; go_simp <;> with_reducible rfl)
  try simp only [c72a1, Act.put, List.setIfInBounds_toArray, List.set_cons_zero, List.set_cons_succ]
  refine wpAnyH_take (i := 2) (oi := c72a2) (v := ?_) rfl (by kernel_rfl) (by kernel_rfl) (by kernel_rfl) (fun _ _ _ h => h) (Or.inl ⟨by rfl, ?_⟩) hHeld ?_
  rotate_left
  · (intro w hSw; (try dsimp only at hSw); unfold c72a2; go_simp <;> with_reducible rfl)
  try simp only [c72a2, Act.put, List.setIfInBounds_toArray, List.set_cons_zero, List.set_cons_succ]
  refine wpAnyH_take (i := 3) (oi := c72a3) (v := ?_) rfl (by kernel_rfl) (by kernel_rfl) (by kernel_rfl) (fun _ _ _ h => h) (Or.inl ⟨by rfl, ?_⟩) hHeld ?_
  rotate_left
  · (intro w hSw; (try dsimp only at hSw); unfold c72a3; go_simp <;> with_reducible rfl)
  try simp only [c72a3, Act.put, List.setIfInBounds_toArray, List.set_cons_zero, List.set_cons_succ]
  refine wpAnyH_take (i := 4) (oi := c72a4) rfl (by kernel_rfl) (by kernel_rfl) (by kernel_rfl) (fun _ _ _ h => h) (yieldsIf_load_mid (by rfl) 55 (.tmp 9) (by rfl) b (off + i * 35) (by rfl) cy _ (fun w hSw => AY.out w hSw) Tryd.underlying55 rfl HZY.out) hHeld ?_
  try simp only [c72a4, Act.put, List.setIfInBounds_toArray, List.set_cons_zero, List.set_cons_succ]
  refine wpAnyH_ready (rs := [5]) (by kernel_rfl) (by simp) ?_
  refine AllReadyH.cons (o := c72a5) rfl (fun K hK => ?_) AllReadyH.nil
  rw [if_pos (by rfl)]
  unfold c72a5
  go_simp
  (with_reducible refine (HSM.out _ hHeld).mono ?_)
  rintro e W5 ⟨rfl, hB5⟩
  have hS5 := hHeld.next hB5
  go_wp2_with fail
  refine hK.out _ _ hS5 (fun hHeld => ?_)
  clear hK K
  try simp only [c72a5, Act.put, List.setIfInBounds_toArray, List.set_cons_zero, List.set_cons_succ]
  refine wpAnyH_take (i := 6) (oi := c72a6) (v := ?_) rfl (by kernel_rfl) (by kernel_rfl) (by kernel_rfl) (fun _ _ _ h => h) (Or.inl ⟨by rfl, ?_⟩) hHeld ?_
  rotate_left
  · (intro w hSw; (try dsimp only at hSw); unfold c72a6; go_simp <;> with_reducible rfl)
  try simp only [c72a6, Act.put, List.setIfInBounds_toArray, List.set_cons_zero, List.set_cons_succ]
  refine wpAnyH_take (i := 7) (oi := c72a7) (v := ?_) rfl (by kernel_rfl) (by kernel_rfl) (by kernel_rfl) (fun _ _ _ h => h) (Or.inl ⟨by rfl, ?_⟩) hHeld ?_
  rotate_left
  · (intro w hSw; (try dsimp only at hSw); unfold c72a7; go_simp <;> with_reducible rfl)
  try simp only [c72a7, Act.put, List.setIfInBounds_toArray, List.set_cons_zero, List.set_cons_succ]
  refine wpAnyH_done (by kernel_rfl) ?_ _
  have HST := Lib.hid hHeld
  clear hHeld
  go_wp2
  go_returns
  exact ⟨rfl, HB0.out.trans (HST.out.mono HB0.out.size)⟩
end Go.Proofs.YtfmngeemhfpeiaaDoor

namespace Go.Proofs.YtfmngeemhfpeiaaDoor
open Go.RowKit

set_option maxRecDepth 100000 in
set_option maxHeartbeats 4000000 in
theorem first72_any (w : World) (v : Value) (l : List Lk) (q : Nat) (p : Nat → Bool) (hv : LRow w w.heap.size v l) (hln : l.length ≤ 100000)
    (hP : ∀ W, Below w.heap.size w W → ∀ j (hj : j < l.length) u, LinkAt W W.heap.size u l[j] → Calls Tryd.prog 72 #[.int .i64 j, u, .pointer (some ⟨q, 0, none⟩)] W fun e w' => e = .returned (.bool (p j)) ∧ Below W.heap.size W w') :
    Calls Tryd.prog 71 #[v, .func (.func 72) #[] #[.pointer (some ⟨q, 0, none⟩)]] w fun e w' => e = .returned (fstV (fstOf p l.length)) ∧ Below w.heap.size w w' := by
  obtain ⟨hok, a, cap, rfl, h1, h2, h3⟩ := hv
  obtain ⟨n, hn⟩ : ∃ n, l.length = n := ⟨_, rfl⟩
  have hcell : ∀ W, Below w.heap.size w W → ∀ t, t < n → ∃ b off cs, a = some ⟨b, off, none⟩ ∧ cs.length = 35 ∧ (∀ v ∈ cs, v.oneCell' = true) ∧ W.rangeAt b (off + t * 35) cs ∧ (∀ W', Below w.heap.size w W' → Calls Tryd.prog 72 #[.int .i64 t, .agg cs.toArray, .pointer (some ⟨q, 0, none⟩)] W' fun e w' => e = .returned (.bool (p t)) ∧ Below W'.heap.size W' w') := by
    intro W hW t ht
    rw [← hn] at ht
    rcases h3 with h3 | ⟨b, off, h4, h5, h6⟩
    · subst h3; exact absurd ht (by simp)
    · obtain ⟨d, h7, h8⟩ := h6 t ht
      have hd1 : d.oneCell' = true := by obtain ⟨_, _, rfl, _⟩ := h8; rfl
      exact ⟨b, off, lcells l[t] d, h4, lcells_len _ _ (hok _ (List.getElem_mem _)).1, lcells_one _ _ hd1, fun j v hv => (hW.cell (p := ⟨b, off + t * 35 + j, none⟩) h5).trans (h7 j v hv),
        fun W' hW' => hP W' hW' t ht _ ⟨d, rfl, (h8.below hW').mono hW'.size⟩⟩
  rw [hn] at h1 hln ⊢
  have HC := Lib.hid hcell
  have HN := Lib.hid hn
  clear hcell hP h3 hn hok
  unfold maxLen at h2
  go_enter Tryd.func71, Tryd.ntmps71
  go_wp2
  go_loopw [6, 7, 10] (fun s6 s7 i wr => ∃ t : Nat, i = .int .i64 t ∧ t ≤ n ∧ Below w.heap.size w wr ∧ ∀ j, j < t → p j = false)
    (fun _ _ i _ => n - (intOf i).toNat)
  case atStart => exact ⟨0, rfl, by omega, by go_grown, fun j hj => by omega⟩
  case round =>
    obtain ⟨t, rfl, htn, hB, hpj⟩ := hrel
    have HB := Lib.hid hB
    have HPJ := Lib.hid hpj
    clear hB hpj
    by_cases hlt : t < n
    · obtain ⟨b, off, cs, rfl, hl35, ho, hr, hcall⟩ := HC.out _ HB.out t hlt
      have HL := Lib.hid hl35
      have HO := Lib.hid ho
      have HR := Lib.hid hr
      have HCALL := Lib.hid hcall
      have HZ5 : Hid ((Tryd.prog.info? 55).map (·.size) = some cs.length) := by show _ = _; rw [hl35]; exact Tryd.info55
      clear hl35 ho hr hcall
      have d1 : decide ((t : Int) < (n : Int)) = true := by simp; omega
      have d2 : decide (t < n) = true := by simp; omega
      have iw : IntKind.i64.wrap ((t : Int) + 1) = ((t + 1 : Nat) : Int) := by rw [IntKind.wrap_i64]; omega
      go_wp2_with (first
        | (refine wpList_load_mid rfl 55 _ (by rfl) wr.heap.size 0 (by rfl) cs _ hA2.at_ Tryd.underlying55 rfl HZ5.out ?_)
        | (refine wpList_load_mid rfl 55 _ (by rfl) b (off + t * 35) (by rfl) cs _ HR.out Tryd.underlying55 rfl HZ5.out ?_)
        | (refine wpList_world (fun W => Below w.heap.size w W ∧ (∃ z : List Value, z.length = 35 ∧ Arr W wr.heap.size z) ∧ wr.heap.size < W.heap.size) ⟨by exact HB.out.alloc HB.out.size _, ⟨_, by rfl, Arr.new wr _ 55⟩, by simp⟩ ?_
           rintro W1 ⟨hB1, ⟨z, hz35, hA1⟩, hz1⟩
           refine store_new rfl 55 _ _ (by rfl) w.heap.size wr.heap.size cs _ (by rfl) (by rfl) hB1 HB.out.size hA1 (by rw [HL.out, hz35]) HZ5.out HO.out ?_
           intro W2 hB2 hA2 hz2))
      refine (HCALL.out _ hB2).mono ?_
      rintro e w3 ⟨rfl, hB3⟩
      have hBn : Below w.heap.size w w3 := hB2.trans (hB3.mono hB2.size)
      have HBN := Lib.hid hBn
      clear hB1 hA1 hz1 hz35 hB2 hA2 hz2 hB3 hBn
      cases hp : p t with
      | true =>
        have HP := Lib.hid hp
        clear hp
        go_wp2
        go_returns
        exact ⟨by rw [fstOf_some hlt HPJ.out HP.out]; rfl, HBN.out⟩
      | false =>
        have HP := Lib.hid hp
        clear hp
        go_wp2
        go_roundw
        · refine ⟨t + 1, by simp, by omega, HBN.out, fun j hj => ?_⟩
          rcases Nat.lt_succ_iff_lt_or_eq.1 hj with h | rfl
          · exact HPJ.out j h
          · exact HP.out
        · simp [intOf]; omega
    · have htn2 : t = n := by omega
      subst htn2
      have d1 : decide ((t : Int) < (t : Int)) = false := by simp
      have d2 : decide (t < t) = false := by simp
      go_wp2
      go_returns
      exact ⟨by rw [fstOf_none HPJ.out]; rfl, HB.out⟩
end Go.Proofs.YtfmngeemhfpeiaaDoor

namespace Go.Proofs.YtfmngeemhfpeiaaDoor
open Go.RowKit

/-- Do the links at a place differ? -/
def diffAt (a b : List Lk) (j : Nat) : Bool := match a[j]?, b[j]? with
  | some x, some y => !decide (x = y)
  | _, _ => false
/-- Can both be chains of one node? -/
def oneNode (a b : List Lk) : Bool := match a with
  | [] => true
  | x :: _ => bel b x.node
def partV (a b : List Lk) : Value :=
  if chk a ≠ 0 then .tuple #[.int .i64 0, .bool false, .int .i64 (chk a)]
  else if chk b ≠ 0 then .tuple #[.int .i64 0, .bool false, .int .i64 (chk b)]
  else if oneNode a b = false then .tuple #[.int .i64 0, .bool false, .int .i64 80]
  else match fstOf (diffAt a b) (min a.length b.length) with
    | none => .tuple #[.int .i64 0, .bool false, .int .i64 0]
    | some i => .tuple #[.int .i64 i, .bool true, .int .i64 0]

set_option maxRecDepth 100000 in
set_option maxHeartbeats 4000000 in
theorem part_any (w : World) (v u : Value) (l m : List Lk) (hv : LRow w w.heap.size v l) (hu : LRow w w.heap.size u m) (hl : l.length ≤ 100000) (hm : m.length ≤ 100000) (hT : Tab w) (h0 : 0 < w.heap.size) :
    Calls Tryd.prog 37 #[v, u] w fun e w' => e = .returned (partV l m) ∧ Below w.heap.size w w' := by
  have hca : ∀ W, Below w.heap.size w W → Calls Tryd.prog 31 #[v] W fun e w' => e = .returned (.int .i64 (chk l)) ∧ Below W.heap.size W w' := fun W hW => check_any W v l ((hv.below hW).mono hW.size) hl (hT.below hW h0) (by have := hW.size; omega)
  have hcb : ∀ W, Below w.heap.size w W → Calls Tryd.prog 31 #[u] W fun e w' => e = .returned (.int .i64 (chk m)) ∧ Below W.heap.size W w' := fun W hW => check_any W u m ((hu.below hW).mono hW.size) hm (hT.below hW h0) (by have := hW.size; omega)
  have hbel : ∀ W, Below w.heap.size w W → ∀ n, Calls Tryd.prog 68 #[u, .int .i64 n] W fun e w' => e = .returned (.bool (bel m n)) ∧ w' = W := fun W hW n => belongs_any W u m n ((hu.below hW).mono hW.size)
  have hv0 := hv
  have hu0 := hu
  obtain ⟨hok, a, cap, rfl, h1, h2, h3⟩ := hv
  obtain ⟨hok', a', cap', rfl, h1', h2', h3'⟩ := hu
  have hfst : ∀ W n, Below w.heap.size w W → n = min l.length m.length → W.cell? ⟨w.heap.size, 0, none⟩ = some (.slice a' m.length cap') → w.heap.size < W.heap.size →
      Calls Tryd.prog 71 #[.slice a n cap, .func (.func 72) #[] #[.pointer (some ⟨w.heap.size, 0, none⟩)]] W fun e w' => e = .returned (fstV (fstOf (diffAt l m) n)) ∧ Below W.heap.size W w' := fun W n hW hn hc hlt => by
    have hlen : (l.take n).length = n := by rw [List.length_take]; omega
    have hr := ((hv0.below hW).mono hW.size).take (m := n) (c := cap) (by omega) rfl
    have h := first72_any W _ (l.take n) w.heap.size (diffAt l m) hr (by omega) fun W' hW' j hj x hx => by
      rw [hlen] at hj
      have hjl : j < l.length := by omega
      have hjm : j < m.length := by omega
      have e : diffAt l m j = !decide ((l.take n)[j] = m[j]) := by unfold diffAt; rw [List.getElem?_eq_getElem hjl, List.getElem?_eq_getElem hjm, List.getElem_take]
      rw [e]
      exact part1_any W' w.heap.size _ m j hjm x _ ((hW'.cell (p := ⟨w.heap.size, 0, none⟩) hlt).trans hc) (by have := hW'.size; omega) (((hu0.below hW).below (hW'.mono hW.size)).mono (by have := hW.size; have := hW'.size; omega)) (by rw [List.getElem_take]; exact hok _ (List.getElem_mem hjl)) hx
    rw [hlen] at h
    exact h
  have hnode : l ≠ [] → ∃ b off k, a = some ⟨b, off, none⟩ ∧ b < w.heap.size ∧ w.cell? ⟨b, off, none⟩ = some (.int .i64 k) ∧ oneNode l m = bel m k := fun hne => by
    obtain ⟨b, off, rfl, h4, h5⟩ := h3.resolve_left hne
    match l, hne with
    | x :: r, _ =>
      obtain ⟨d, h6, _⟩ := h5 0 (by simp)
      have := h6 0 (.int .i64 x.node) rfl
      exact ⟨b, off, x.node, rfl, h4, by simpa using this, rfl⟩
  have hone : l = [] → oneNode l m = true := fun h => by rw [h]; rfl
  obtain ⟨R, hR⟩ : ∃ R, partV l m = R := ⟨_, rfl⟩
  rw [hR]
  unfold partV at hR
  obtain ⟨N, hN⟩ : ∃ N, l.length = N := ⟨_, rfl⟩
  obtain ⟨M, hM⟩ : ∃ M, m.length = M := ⟨_, rfl⟩
  have hnode' : N ≠ 0 → ∃ b off k, a = some ⟨b, off, none⟩ ∧ b < w.heap.size ∧ w.cell? ⟨b, off, none⟩ = some (.int .i64 k) ∧ oneNode l m = bel m k := fun h => hnode (fun e => h (by rw [← hN, e]; rfl))
  have hone' : N = 0 → oneNode l m = true := fun h => hone (List.eq_nil_of_length_eq_zero (by rw [hN, h]))
  rw [hN, hM] at hfst hR ⊢
  rw [hN] at hca hl h1
  rw [hM] at hcb hbel hm h1'
  generalize chk l = ca at *
  generalize chk m = cb at *
  generalize oneNode l m = on at *
  generalize hFF : fstOf (diffAt l m) = FF at *
  have HCA := Lib.hid hca
  have HCB := Lib.hid hcb
  have HBEL := Lib.hid hbel
  have HF := Lib.hid hfst
  have HND := Lib.hid hnode'
  have HON := Lib.hid hone'
  have HR := Lib.hid hR
  unfold maxLen at h2 h2'
  clear hca hcb hbel hfst hnode hone hnode' hone' hv0 hu0 hok hok' h3 h3' hN hM hT hFF hR
  go_enter Tryd.func37, Tryd.ntmps37
  go_wp2
  refine code_world (fun W => Below w.heap.size w W ∧ Arr W w.heap.size [.slice a' M cap'] ∧ Arr W (w.heap.size + 1) [.slice a N cap, .slice a' M cap'] ∧ w.heap.size + 1 < W.heap.size) ⟨by go_grown, ?_, ?_, by simp⟩ ?_
  · exact (Arr.new w #[.slice a' M cap'] 44).alloc (by simp) _
  · have h := Arr.new (w.alloc (.cells #[.slice a' M cap'] 44)) #[.slice a N cap, .slice a' M cap'] 44
    rw [World.size_alloc] at h; exact h
  rintro W0 ⟨hB0, hA0, hA1, hz0⟩
  have HB0 := Lib.hid hB0
  have HA0 := Lib.hid hA0
  have HA1 := Lib.hid hA1
  clear hB0 hA0 hA1
  go_loopw [6, 8, 14] (fun s6 s8 i wr => ∃ k : Nat, i = .int .i64 k ∧ k ≤ 2 ∧ s6 = .int .i64 0 ∧ Hid (Kept W0 wr) ∧ Hid (1 ≤ k → ca = 0) ∧ Hid (2 ≤ k → cb = 0)) (fun _ _ i _ => 2 - (intOf i).toNat)
  case atStart => exact ⟨0, rfl, by omega, rfl, Lib.hid (Kept.refl _), Lib.hid (fun h => by omega), Lib.hid (fun h => by omega)⟩
  case round =>
    obtain ⟨k, rfl, hk, rfl, HK, HC1, HC2⟩ := hrel
    have hB : Below w.heap.size w wr := HB0.out.trans (HK.out.below.mono (by omega))
    have HB := Lib.hid hB
    clear hB
    have e0 : wr.cell? ⟨w.heap.size + 1, 0, none⟩ = some (.slice a N cap) := (HA1.out.below HK.out.below hz0).cell rfl
    have e1 : wr.cell? ⟨w.heap.size + 1, 1, none⟩ = some (.slice a' M cap') := (HA1.out.below HK.out.below hz0).cell rfl
    have hkc : k = 0 ∨ k = 1 ∨ k = 2 := by omega
    rcases hkc with rfl | rfl | rfl
    · go_wp2_with fail
      refine (HCA.out _ HB.out).mono ?_
      rintro e w1 ⟨rfl, hb1⟩
      have HB1 := Lib.hid hb1
      clear hb1
      by_cases hc : ca = 0
      · subst hc
        go_wp2
        go_roundw
        case rel => exact ⟨1, by simp, by omega, rfl, Lib.hid (HK.out.next HB1.out), Lib.hid (by simp), Lib.hid (by simp)⟩
        case measure => simp [intOf]
      · have d1 : (ca != 0) = true := by simp [hc]
        have d2 : (ca == 0) = false := by simp [hc]
        have HC := Lib.hid hc
        clear hc
        go_wp2
        go_returns
        exact ⟨by rw [← HR.out]; simp [HC.out], HB.out.trans (HB1.out.mono HB.out.size)⟩
    · have hca0 := HC1.out (by omega)
      subst hca0
      go_wp2_with fail
      refine (HCB.out _ HB.out).mono ?_
      rintro e w1 ⟨rfl, hb1⟩
      have HB1 := Lib.hid hb1
      clear hb1
      by_cases hc : cb = 0
      · subst hc
        go_wp2
        go_roundw
        case rel => exact ⟨2, by simp, by omega, rfl, Lib.hid (HK.out.next HB1.out), Lib.hid (by simp), Lib.hid (by simp)⟩
        case measure => simp [intOf]
      · have d1 : (cb != 0) = true := by simp [hc]
        have d2 : (cb == 0) = false := by simp [hc]
        have HC := Lib.hid hc
        clear hc
        go_wp2
        go_returns
        exact ⟨by rw [← HR.out]; simp [HC.out], HB.out.trans (HB1.out.mono HB.out.size)⟩
    · have hca0 := HC1.out (by omega)
      have hcb0 := HC2.out (by omega)
      subst hca0
      subst hcb0
      have b0 : wr.cell? ⟨w.heap.size, 0, none⟩ = some (.slice a' M cap') := (HA0.out.below HK.out.below (by omega)).cell rfl
      clear e0 e1
      have imin : (if (N : Int) ≤ (M : Int) then (N : Int) else (M : Int)) = ((min N M : Nat) : Int) := by split <;> omega
      by_cases hN0 : N = 0
      · subst hN0
        have HON2 := HON.out rfl
        subst HON2
        go_wp2_with fail
        go_quiet (fail)
        have hBq : Below w.heap.size w (wr.drewN nq) := below_drewN HB.out nq
        have b0q : (wr.drewN nq).cell? ⟨w.heap.size, 0, none⟩ = some (.slice a' M cap') := b0
        have hltq : w.heap.size < (wr.drewN nq).heap.size := by have := HK.out.size; show w.heap.size < wr.heap.size; omega
        have HBQ := Lib.hid hBq
        have HLQ := Lib.hid hltq
        clear hBq hltq
        go_wp2_with fail
        obtain ⟨o, ho⟩ : ∃ o, FF (min 0 M) = o := ⟨_, rfl⟩
        have hff := HF.out _ (min (0 : Int) (M : Int)).toNat HBQ.out (by omega) b0q HLQ.out
        rw [show (min (0 : Int) (M : Int)).toNat = min 0 M from by omega, ho] at hff
        rw [show (min (0 : Int) (M : Int)).toNat = min 0 M from by omega]
        refine hff.mono ?_
        rintro e w5 ⟨rfl, hb5⟩
        have HB5 := Lib.hid (HBQ.out.trans (hb5.mono HBQ.out.size))
        have HO := Lib.hid ho
        clear hff hb5 ho b0q
        cases o with
        | none =>
          unfold fstV
          go_wp2_with fail
          go_returns
          exact ⟨by rw [← HR.out]; have ho := HO.out; rw [Nat.zero_min] at ho; simp [ho], HB5.out⟩
        | some i =>
          unfold fstV
          go_wp2_with fail
          go_returns
          exact ⟨by rw [← HR.out]; have ho := HO.out; rw [Nat.zero_min] at ho; simp [ho], HB5.out⟩
      · obtain ⟨b, off, kn, rfl, hbl, hc, hon⟩ := HND.out hN0
        have c0 : wr.cell? ⟨b, off, none⟩ = some (.int .i64 kn) := (HB.out.cell (p := ⟨b, off, none⟩) hbl).trans hc
        have d1 : decide ((N : Int) > 0) = true := by simp; omega
        have d2 : decide ((0 : Int) < (N : Int)) = true := by simp; omega
        have d3 : decide (0 < N) = true := by simp; omega
        have d4 : (0 : Int) < (N : Int) := by omega
        have HB68 : Hid (∀ n, Calls Tryd.prog 68 #[.slice a' M cap', .int .i64 kn] (wr.drewN n) fun e w' => e = .returned (.bool on) ∧ w' = wr.drewN n) := Lib.hid fun n => by rw [hon]; exact HBEL.out _ (below_drewN HB.out n) kn
        clear hon hc
        go_wp2_with fail
        go_quiet ((go_at_call 68; exact Calls.quiet_of_same (HB68.out _)))
        cases on with
        | false =>
          go_wp2_with fail
          go_returns
          exact ⟨by rw [← HR.out]; simp, below_drewN HB.out nq⟩
        | true =>
          have hBq : Below w.heap.size w (wr.drewN nq) := below_drewN HB.out nq
          have b0q : (wr.drewN nq).cell? ⟨w.heap.size, 0, none⟩ = some (.slice a' M cap') := b0
          have hltq : w.heap.size < (wr.drewN nq).heap.size := by have := HK.out.size; show w.heap.size < wr.heap.size; omega
          have HBQ := Lib.hid hBq
          have HLQ := Lib.hid hltq
          clear hBq hltq
          go_wp2_with fail
          obtain ⟨o, ho⟩ : ∃ o, FF (min N M) = o := ⟨_, rfl⟩
          have hff := HF.out _ (min ((N : Int) : Int) (M : Int)).toNat HBQ.out (by omega) b0q HLQ.out
          rw [show (min ((N : Int) : Int) (M : Int)).toNat = min N M from by omega, ho] at hff
          rw [show (min ((N : Int) : Int) (M : Int)).toNat = min N M from by omega]
          refine hff.mono ?_
          rintro e w5 ⟨rfl, hb5⟩
          have HB5 := Lib.hid (HBQ.out.trans (hb5.mono HBQ.out.size))
          have HO := Lib.hid ho
          clear hff hb5 ho b0q
          cases o with
          | none =>
            unfold fstV
            go_wp2_with fail
            go_returns
            exact ⟨by rw [← HR.out]; simp [HO.out], HB5.out⟩
          | some i =>
            unfold fstV
            go_wp2_with fail
            go_returns
            exact ⟨by rw [← HR.out]; simp [HO.out], HB5.out⟩
end Go.Proofs.YtfmngeemhfpeiaaDoor

namespace Go.Proofs.YtfmngeemhfpeiaaDoor
open Go.RowKit

theorem Tryd.info55z : (Tryd.prog.info? 55).map (fun i => (i.zero, i.size, i.bytes)) = some (some (.agg (#[.int .i64 0, .int .i64 0] ++ Array.replicate 32 (.int .u8 0) ++ #[.slice none 0 0])), 35, 72) := by kernel_rfl
/-- The cells of links. -/
structure LCells (w : World) (B : Nat) (l : List Lk) (cs : List Value) : Prop where
  len : cs.length = l.length * 35
  at_ : ∀ i (h : i < l.length), ∃ d, (∀ (j : Nat) (u : Value), (lcells l[i] d)[j]? = some u → cs[i * 35 + j]? = some u) ∧ BytesAt w B d l[i].data
theorem LCells.nil (w : World) (B : Nat) : LCells w B [] [] := ⟨rfl, fun i h => by simp at h⟩
theorem LCells.one {w : World} {B : Nat} {x : Lk} {d : Value} (hx : x.prev.length = 32) (hd : BytesAt w B d x.data) : LCells w B [x] (lcells x d) := by
  refine ⟨by rw [lcells_len x d hx]; rfl, fun i hi => ?_⟩
  obtain rfl : i = 0 := by simp at hi; exact hi
  exact ⟨d, fun j u hu => by simpa using hu, hd⟩
theorem LCells.app {w : World} {B : Nat} {l m : List Lk} {cs ds : List Value} (h : LCells w B l cs) (k : LCells w B m ds) : LCells w B (l ++ m) (cs ++ ds) := by
  refine ⟨by rw [List.length_append, List.length_append, h.len, k.len]; omega, fun i hi => ?_⟩
  have hl := h.len
  by_cases h1 : i < l.length
  · obtain ⟨d, a1, a2⟩ := h.at_ i h1
    rw [List.getElem_append_left h1]
    refine ⟨d, fun j u hu => ?_, a2⟩
    have := a1 j u hu
    rw [List.getElem?_append_left (List.getElem?_eq_some_iff.1 this).1]; exact this
  · rw [List.length_append] at hi
    obtain ⟨d, a1, a2⟩ := k.at_ (i - l.length) (by omega)
    rw [List.getElem_append_right (by omega)]
    refine ⟨d, fun j u hu => ?_, a2⟩
    rw [List.getElem?_append_right (by omega), show i * 35 + j - cs.length = (i - l.length) * 35 + j by omega]; exact a1 j u hu
theorem LCells.below {w w' : World} {B : Nat} {l : List Lk} {cs : List Value} (h : LCells w B l cs) (hb : Below B w w') : LCells w' B l cs :=
  ⟨h.len, fun i hi => by obtain ⟨d, a1, a2⟩ := h.at_ i hi; exact ⟨d, a1, a2.below hb⟩⟩
theorem LCells.mono {w : World} {B B' : Nat} {l : List Lk} {cs : List Value} (h : LCells w B l cs) (hb : B ≤ B') : LCells w B' l cs :=
  ⟨h.len, fun i hi => by obtain ⟨d, a1, a2⟩ := h.at_ i hi; exact ⟨d, a1, a2.mono hb⟩⟩
theorem LRow.cells {w : World} {B : Nat} {a : Option Addr} {n cap : Nat} {l : List Lk} (h : LRow w B (.slice a n cap) l) : ∃ cs, LCells w B l cs ∧ (l ≠ [] → ∃ b off, a = some ⟨b, off, none⟩ ∧ b < B ∧ ∀ (j : Nat) (u : Value), cs[j]? = some u → w.cell? ⟨b, off + j, none⟩ = some u) ∧ (l = [] → cs = []) := by
  obtain ⟨hok, a', cap', e, _, _, h4⟩ := h
  injection e with e1 e2 e3
  subst e1
  by_cases hl : l = []
  · subst hl
    exact ⟨[], LCells.nil _ _, fun h => absurd rfl h, fun _ => rfl⟩
  · obtain ⟨b, off, rfl, h5, h6⟩ := h4.resolve_left hl
    refine ⟨(List.range (l.length * 35)).map fun j => (w.cell? ⟨b, off + j, none⟩).getD undef, ⟨by simp, fun i hi => ?_⟩, fun _ => ⟨b, off, rfl, h5, fun j u hu => ?_⟩, fun h => absurd h hl⟩
    · obtain ⟨d, h7, h8⟩ := h6 i hi
      refine ⟨d, fun j u hu => ?_, h8⟩
      have hj : j < 35 := by have := (List.getElem?_eq_some_iff.1 hu).1; rwa [lcells_len _ _ (hok _ (List.getElem_mem hi)).1] at this
      have := h7 j u hu
      rw [List.getElem?_map, List.getElem?_range (by omega), Option.map_some, ← Nat.add_assoc, this]; rfl
    · rw [List.getElem?_map] at hu
      obtain ⟨k, hk, rfl⟩ := Option.map_eq_some_iff.1 hu
      have hjl : j < l.length * 35 := by have := (List.getElem?_eq_some_iff.1 hk).1; simpa using this
      rw [List.getElem?_range hjl] at hk
      injection hk with hk
      subst hk
      have hi : j / 35 < l.length := by omega
      obtain ⟨d, h7, h8⟩ := h6 (j / 35) hi
      have hl35 := lcells_len l[j / 35] d (hok _ (List.getElem_mem hi)).1
      have hjm : j % 35 < (lcells l[j / 35] d).length := by rw [hl35]; omega
      have := h7 (j % 35) _ (List.getElem?_eq_getElem hjm)
      rw [show off + j / 35 * 35 + j % 35 = off + j by omega] at this
      rw [this]; rfl
/-- A block that begins with the cells of links is their row. -/
theorem LCells.row {w : World} {B g cap : Nat} {l : List Lk} {cs : List Value} (h : LCells w B l cs) (hok : ∀ x ∈ l, x.ok) (hc : ∀ (j : Nat) (u : Value), cs[j]? = some u → w.cell? ⟨g, j, none⟩ = some u) (hg : g < B) (h1 : l.length ≤ cap) (h2 : cap ≤ maxLen) : LRow w B (.slice (some ⟨g, 0, none⟩) l.length cap) l := by
  refine ⟨hok, _, cap, rfl, h1, h2, .inr ⟨g, 0, rfl, hg, fun i hi => ?_⟩⟩
  obtain ⟨d, a1, a2⟩ := h.at_ i hi
  exact ⟨d, fun j u hu => by rw [Nat.zero_add]; exact hc _ _ (a1 j u hu), a2⟩

theorem lrow_made (W : World) (B : Nat) (hB : B ≤ W.heap.size) (l : List Lk) (hok : ∀ x ∈ l, x.ok) (cs : List Value) (h : LCells W B l cs) (arr : Array Value) (ha : ∀ (j : Nat) (u : Value), cs[j]? = some u → arr[j]? = some u) (cap : Nat) (h1 : l.length ≤ cap) (h2 : cap ≤ maxLen) :
    LRow (W.drew.alloc (.cells arr 55)) (W.drew.alloc (.cells arr 55)).heap.size (.slice (some ⟨W.heap.size, 0, none⟩) l.length cap) l ∧ Below W.heap.size W (W.drew.alloc (.cells arr 55)) := by
  have hb : Below W.heap.size W (W.drew.alloc (.cells arr 55)) := (Below.drew (Below.refl _ _)).alloc (Nat.le_refl _) _
  have hz : (W.drew.alloc (.cells arr 55)).heap.size = W.heap.size + 1 := by rw [World.size_alloc]; rfl
  refine ⟨?_, hb⟩
  have hq := (h.below (hb.mono hB)).mono (show B ≤ W.heap.size + 1 by omega)
  rw [hz]
  refine hq.row hok (fun j u hu => ?_) (by omega) h1 h2
  have : (W.drew.alloc (.cells arr 55)).cell? ⟨W.drew.heap.size, j, none⟩ = arr[j]? := by rw [World.cell?_alloc_new]
  exact this.trans (ha j u hu)

/-- A link behind a row without room. -/
theorem l_append (W : World) (B : Nat) (hB : B ≤ W.heap.size) (a : Option Addr) (l : List Lk) (h : LRow W B (.slice a l.length l.length) l) (g : Nat) (x : Lk) (hx : x.ok) (d : Value) (hd : BytesAt W B d x.data) (hg : W.rangeAt g 0 (lcells x d)) (hs : l.length ≤ 100000) :
    ∃ v' W', (Builtin.append_ #[44, 44] 44 #[.slice a l.length l.length, .slice (some ⟨g, 0, none⟩) 1 1]).run Tryd.prog W = .ok v' W' ∧ LRow W' W'.heap.size v' (l ++ [x]) ∧ Below W.heap.size W W' := by
  obtain ⟨i, hi, hz0, hz1, hz2⟩ := info_parts Tryd.info55z
  have hok : ∀ y ∈ l ++ [x], y.ok := fun y hy => by
    rcases List.mem_append.1 hy with h1 | h1
    · exact h.1 y h1
    · simp only [List.mem_singleton] at h1; rw [h1]; exact hx
  obtain ⟨cs, h3, h4, h5⟩ := h.cells
  have h6 := LCells.one hx.1 hd
  have hds : (lcells x d).length = 1 * 35 := by rw [lcells_len x d hx.1]
  have hcs := h3.len
  have hnews : ∀ (j : Nat) (u : Value), (lcells x d)[j]? = some u → W.cell? ((⟨g, 0, none⟩ : Addr).add j) = some u := fun j u hu => by
    rw [Addr.add_mid]; exact hg j u hu
  have hfin : ∀ (arr : Array Value) (cap : Nat), (∀ (j : Nat) (u : Value), (cs ++ lcells x d)[j]? = some u → arr[j]? = some u) → l.length + 1 ≤ cap → cap ≤ maxLen → LRow (W.drew.alloc (.cells arr 55)) (W.drew.alloc (.cells arr 55)).heap.size (.slice (some ⟨W.heap.size, 0, none⟩) (l.length + 1) cap) (l ++ [x]) ∧ Below W.heap.size W (W.drew.alloc (.cells arr 55)) := fun arr cap h1 h2 h9 => by
    have := lrow_made W B hB (l ++ [x]) hok (cs ++ lcells x d) (h3.app h6) arr h1 cap (by rw [List.length_append]; exact h2) h9
    rw [List.length_append] at this
    exact this
  have hgrow : ∀ ad : Addr, (∀ (j : Nat) (v : Value), cs[j]? = some v → W.cell? (ad.add j) = some v) → ∃ v' W', (Builtin.append_ #[44, 44] 44 #[.slice (some ad) l.length l.length, .slice (some ⟨g, 0, none⟩) 1 1]).run Tryd.prog W = .ok v' W' ∧ LRow W' W'.heap.size v' (l ++ [x]) ∧ Below W.heap.size W W' := fun ad had => by
    have := run_append_grow (P := Tryd.prog) W 44 44 55 i _ Tryd.underlying44 hi hz0 ad l.length l.length cs (by rw [hz1]; exact hcs) had ⟨g, 0, none⟩ 1 1 (lcells x d) (by rw [hz1]; exact hds) hnews (by omega) (by omega) (growslice_fits (by omega) (by rw [hz2]; omega))
    refine ⟨_, _, this, hfin _ _ (fun j u hu => ?_) (grownCap_ge _ _ _ _) (grownCap_le_maxLen _ _ _ _ (by unfold maxLen; omega))⟩
    have hj := (List.getElem?_eq_some_iff.1 hu).1
    rw [Array.getElem?_append_left (by simpa using hj), ← hu]
    simp
  by_cases hl : l = []
  · subst hl
    obtain rfl := h5 rfl
    cases a with
    | none =>
      have := run_append_nil (P := Tryd.prog) W 44 44 55 i _ Tryd.underlying44 hi hz0 ⟨g, 0, none⟩ 1 1 (lcells x d) (by rw [hz1]; exact hds) hnews (by omega) (by omega) (by rw [hz2]; omega)
      have hf := hfin ((lcells x d).toArray ++ Builtin.zeroCells (Value.agg (#[.int .i64 0, .int .i64 0] ++ Array.replicate 32 (.int .u8 0) ++ #[.slice none 0 0])).cells (grownCap W 1 0 55 - 1)) (grownCap W 1 0 55) (fun j u hu => by
        rw [List.nil_append] at hu
        have hj := (List.getElem?_eq_some_iff.1 hu).1
        rw [Array.getElem?_append_left (by simpa using hj), ← hu]
        simp) (by simpa using grownCap_ge W 1 0 55) (grownCap_le_maxLen _ _ _ _ (by unfold maxLen; omega))
      simp only [List.length_nil, Nat.zero_add] at hf
      exact ⟨_, _, this, hf⟩
    | some ad => exact hgrow ad fun j v hv => by simp at hv
  · obtain ⟨b, off, rfl, _, h9⟩ := h4 hl
    exact hgrow _ fun j v hv => by rw [Addr.add_mid]; exact h9 j v hv
end Go.Proofs.YtfmngeemhfpeiaaDoor

namespace Go.Proofs.YtfmngeemhfpeiaaDoor
open Go.RowKit

theorem bytes_nil (w : World) (B : Nat) (a : Option Addr) : BytesAt w B (.slice a 0 0) [] := ⟨a, 0, rfl, by simp, by unfold maxLen; omega, .inl rfl⟩
theorem wp_build0 {o : Oper} {a : Act} {W : World} {K : Act → World → Prop} {Q : Exit → Act → World → Prop} (t e : TypeId) (ho : o.op = .buildSlice t 0 (List.toArray [])) (ht : Tryd.prog.underlying t = some (.slice e)) {sz by_ : Nat} {z : Value} (hi : (Tryd.prog.info? e).map (fun i => (i.zero, i.size, i.bytes)) = some (some z, sz, by_))
    (h : ∀ g W', Below W.heap.size W W' → (∀ base, base ≤ W.heap.size → W'.ownsRow base e sz (.slice (some ⟨g, 0, none⟩) 0 0) 0 []) → K (a.put o.dst (.slice (some ⟨g, 0, none⟩) 0 0)) W') : o.wp Tryd.prog a W K Q := by
  obtain ⟨i, hi1, hz0, hz1, hz2⟩ := info_parts hi
  have hn : (newRow e #[]).run Tryd.prog W = .ok ⟨W.heap.size, 0, none⟩ (W.alloc (.cells #[] e)) := rfl
  have hrun : (Instr.buildSlice t 0 #[]).run Tryd.prog W = .ok (.slice (some ⟨W.heap.size, 0, none⟩) 0 0) (W.alloc (.cells #[] e)) := by
    simp [Instr.buildSlice, run_underlying ht, sizeOf, typeInfo, hi1, Instr.fill]
    rw [show (Array.map (fun _ => (default : Value)) (Array.range 0)) = #[] by simp, hn]
    rfl
  have hk := h _ _ ((Below.refl _ _).alloc (Nat.le_refl _) _) fun base hb => World.ownsRow_made (base := base) W #[] 0 hb (by unfold maxLen; omega) (by simp)
  unfold Oper.wp execOp
  simp [ho, hrun]
  exact hk
theorem wpList_build0 {ops : Array Oper} {rest : List Oper} {o : Oper} {a : Act} {W : World} {Q : Exit → Act → World → Prop} (hgd : o.guard = none) (t e : TypeId) (ho : o.op = .buildSlice t 0 (List.toArray [])) (ht : Tryd.prog.underlying t = some (.slice e)) {sz by_ : Nat} {z : Value} (hi : (Tryd.prog.info? e).map (fun i => (i.zero, i.size, i.bytes)) = some (some z, sz, by_))
    (h : ∀ g W', Below W.heap.size W W' → (∀ base, base ≤ W.heap.size → W'.ownsRow base e sz (.slice (some ⟨g, 0, none⟩) 0 0) 0 []) → wpList Tryd.prog ops Q rest (a.put o.dst (.slice (some ⟨g, 0, none⟩) 0 0)) W') : wpList Tryd.prog ops Q (o :: rest) a W :=
  wpList_plain hgd fun _ hK => wp_build0 t e ho ht hi fun g W' h1 h2 => hK _ _ (h g W' h1 h2)
/-- Bytes against nil. -/
theorem bytes_nil_in (W : World) (d : Nat) (a : Option Addr) (n c : Nat) : (Op.equalIn (d + 1) 34 (.slice a n c) (.slice none 0 0)).run Tryd.prog W = .ok a.isNone W := by
  cases a <;> simp [Op.equalIn, run_underlying Tryd.underlying34]
theorem bytes_nil_eq (W : World) (a : Option Addr) (n c : Nat) : (binOp .eql 34 (.slice a n c) (.slice none 0 0)).run Tryd.prog W = .ok (.bool a.isNone) W := by
  simp only [binOp]
  simp [Op.equal, Op.maxDepth, bytes_nil_in W 9999 a n c]
theorem Tryd.info5 : (Tryd.prog.info? 5).map (fun i => (i.zero, i.size, i.bytes)) = some (some (.int .u8 0), 1, 1) := by kernel_rfl
theorem b_append_none (W : World) (a : Option Addr) (n c : Nat) (hc : n ≤ c) (a2 : Option Addr) (c2 : Nat) : (Builtin.append_ #[34, 34] 34 #[.slice a n c, .slice a2 0 c2]).run Tryd.prog W = .ok (.slice a n c) W := by
  obtain ⟨i, hi, _, _, _⟩ := info_parts Tryd.info5
  cases a <;> cases a2 <;> simp [Builtin.append_, run_underlying Tryd.underlying34, sizeOf, typeInfo, hi, Builtin.lenOf, hc, storeCells, Builtin.firstCells, loadCells, loadCellsFrom]

set_option maxRecDepth 100000 in
set_option maxHeartbeats 2000000 in
theorem clone_any (w : World) (a : Option Addr) (c : Nat) (bs : List UInt8) (h : BytesAt w w.heap.size (.slice a bs.length c) bs) (hl : bs.length ≤ 1048576) : Calls Tryd.prog 69 #[.slice a bs.length c] w fun e w' => ∃ v', e = .returned v' ∧ BytesAt w' w'.heap.size v' bs ∧ Below w.heap.size w w' := by
  obtain ⟨a', c', e1, hc, hm, h4⟩ := id h
  cases e1
  cases a with
  | none =>
    obtain rfl : bs = [] := by
      rcases h4 with h4 | ⟨_, _, h4, _⟩
      · exact h4
      · cases h4
    have hq : ∀ W, (binOp .eql 34 (.slice none (0 : Nat) c) (.slice none 0 0)).run Tryd.prog W = .ok (.bool true) W := fun W => bytes_nil_eq W none 0 c
    clear h h4
    go_enter Tryd.func69, Tryd.ntmps69
    go_wp2
    go_ret
    exact ⟨_, rfl, bytes_nil _ _ none, Below.refl _ _⟩
  | some ad =>
    by_cases h0 : bs = []
    · subst h0
      have hap := fun W g => b_append_none W (some ⟨g, 0, none⟩) 0 0 (Nat.le_refl _) (some ad) c
      have HAP := Lib.hid hap
      have hq : ∀ W, (binOp .eql 34 (.slice (some ad) (0 : Nat) c) (.slice none 0 0)).run Tryd.prog W = .ok (.bool false) W := fun W => bytes_nil_eq W (some ad) 0 c
      clear h h4 hap
      go_enter Tryd.func69, Tryd.ntmps69
      go_wp2_with (first | (refine wpList_build0 rfl 34 5 (by rfl) Tryd.underlying34 Tryd.info5 ?_; intro g w1 hb1 hown1; have HB1 := Lib.hid hb1; clear hb1 hown1) | (at_builtin; refine wpList_append_run rfl _ _ 34 34 rfl _ _ _ _ (by rfl) (by rfl) (HAP.out _ _) ?_))
      go_ret
      exact ⟨_, rfl, bytes_nil _ _ _, HB1.out⟩
    · obtain ⟨b, off, e2, hb, hin⟩ : ∃ b off, some ad = some (⟨b, off, none⟩ : Addr) ∧ b < w.heap.size ∧ BytesIn w b off bs := by
        rcases h4 with h4 | ⟨b, off, h4, h5, h6⟩
        · exact absurd h4 h0
        · exact ⟨b, off, h4, h5, h6⟩
      injection e2 with e2
      subst e2
      obtain ⟨i0, hi, hz0, hz1, hz2⟩ := info_parts Tryd.info5
      have HIN := Lib.hid hin
      have hcl := cells8_len bs
      obtain ⟨xs, hxs⟩ : ∃ xs, cells8 bs = xs := ⟨_, rfl⟩
      have HXS := Lib.hid hxs
      have h1c : ∀ u ∈ xs, u.oneCell' = true := by rw [← hxs]; exact one_cells8 bs
      rw [hxs] at hcl
      obtain ⟨n, hn⟩ : ∃ n, bs.length = n := ⟨_, rfl⟩
      have HN := Lib.hid hn
      rw [hn] at hcl hl hc ⊢
      have HNEW : Hid (∀ W, Below w.heap.size w W → ∀ (j : Nat) (u : Value), xs[j]? = some u → W.cell? ((⟨b, off, none⟩ : Addr).add j) = some u) := Lib.hid fun W hW j u hu => bytes_news (HIN.out.below hW hb) j u (by rw [HXS.out]; exact hu)
      have H1C := Lib.hid h1c
      have hq : ∀ W, (binOp .eql 34 (.slice (some ⟨b, off, none⟩) n c) (.slice none 0 0)).run Tryd.prog W = .ok (.bool false) W := fun W => bytes_nil_eq W (some ⟨b, off, none⟩) n c
      clear h h4 hin hxs h1c hn h0
      go_enter Tryd.func69, Tryd.ntmps69
      go_wp2_with (first | (refine wpList_build0 rfl 34 5 (by rfl) Tryd.underlying34 Tryd.info5 ?_; intro g w1 hb1 hown1; have HB1 := Lib.hid hb1; have HO1 := Lib.hid hown1; clear hb1 hown1) | (at_builtin; refine wpList_append_own _ rfl (.tmp 5) (.tmp 6) 34 rfl w.heap.size 5 i0 _ 1 1 Tryd.underlying34 hi hz0 hz1 hz2 rfl (by omega) _ 0 [] (by rfl) (HO1.out _ (Nat.le_refl _)) ⟨b, off, none⟩ n c xs (by rfl) (by rw [hcl]; omega) (HNEW.out _ HB1.out) H1C.out (by unfold maxLen; omega) (by omega) HB1.out.size ?_; intro v2 w2 hown2 hgr2 _))
      go_ret
      have hw2 : Below w.heap.size w w2 := ⟨hgr2.os.trans HB1.out.os, hgr2.tape.trans HB1.out.tape, hgr2.output.trans HB1.out.output, Nat.le_trans HB1.out.size hgr2.size, fun i hi => (hgr2.block i (Nat.lt_of_lt_of_le hi HB1.out.size) (fun e => by have := ((HO1.out _ (Nat.le_refl _)).lt i e.symm).1; omega)).trans (HB1.out.block i hi)⟩
      rw [Nat.zero_add, List.nil_append] at hown2
      have hlt := hown2.lt
      have hcc := fun g hg i u hu => World.ownsRow.cells hown2 (g := g) hg i u hu
      refine ⟨v2, rfl, ?_, hw2⟩
      have hlen : bs.length = n := HN.out
      rcases hown2.2 with ⟨rfl, h0⟩ | ⟨g2, cap, cur, rfl, _, _, hn1, hm1, _, _⟩
      · have : bs = [] := List.length_eq_zero_iff.1 (by rw [hlen]; exact h0)
        exact ⟨none, 0, by rw [hlen, h0], by rw [this]; simp, by unfold maxLen; omega, .inl this⟩
      · refine ⟨_, cap, by rw [hlen], by rw [hlen]; exact hn1, hm1, .inr ⟨g2, 0, rfl, (hlt g2 rfl).2, fun i hi => ?_⟩⟩
        have := hcc g2 rfl i (.int .u8 bs[i].toNat) (by rw [← HXS.out]; simp [cells8, List.getElem?_eq_getElem hi])
        rw [show (⟨g2, 0, none⟩ : Addr).add i = ⟨g2, 0 + i, none⟩ from Addr.add_mid g2 0 i] at this
        exact this

theorem Tryd.elem44 : Tryd.prog.elem 44 = 55 := by simp [Program.elem, Tryd.underlying44]
theorem Tryd.slice44 : Tryd.prog.underlying 44 = some (.slice (Tryd.prog.elem 44)) := by rw [Tryd.elem44]; exact Tryd.underlying44
theorem Tryd.sizeOf55 (W : World) : (sizeOf 55).run Tryd.prog W = .ok 35 W := by
  obtain ⟨i, hi, h⟩ := Option.map_eq_some_iff.1 Tryd.info55
  simp [sizeOf, typeInfo, hi, h]
theorem slice_head (a : Option Addr) (N cap i : Nat) (h : i ≤ cap) (W : World) : (Instr.slice 44 (.slice a N cap) none (some (.int .i64 (i : Int))) (some (.int .i64 (i : Int)))).run Tryd.prog W = .ok (.slice a i i) W := by
  rw [run_slice_hm W 44 _ _ _ Tryd.slice44 .i64 .i64 _ _ (by omega) (by omega) (by omega), Tryd.elem44, Tryd.sizeOf55]
  simp only [Result.andThen, sliced, Int.toNat_natCast, Nat.sub_zero]
  cases a <;> simp [Addr.add]
theorem clip_any (w : World) (a : Option Addr) (N cap : Nat) (h : N ≤ cap) : Calls Tryd.prog 70 #[.slice a N cap] w fun e w' => e = .returned (.slice a N N) ∧ w' = w := by
  have hs := slice_head a N cap N h
  clear h
  go_enter Tryd.func70, Tryd.ntmps70
  go_wp2
  go_ret
  exact ⟨rfl, rfl⟩
/-- A link is built. -/
theorem built55 (n m : Int) (da : Option Addr) (len cp : Nat) : ∀ cs : List Value, cs.length = 32 → Tryd.prog.built 55 [(0, .int .i64 n), (1, .int .i64 m), (2, .agg cs.toArray), (3, .slice da len cp)] = some ((Value.int .i64 n :: Value.int .i64 m :: (cs ++ [Value.slice da len cp])) : List Value).toArray
  | [a0, a1, a2, a3, a4, a5, a6, a7, a8, a9, a10, a11, a12, a13, a14, a15, a16, a17, a18, a19, a20, a21, a22, a23, a24, a25, a26, a27, a28, a29, a30, a31], _ => by kernel_rfl
theorem run_built55 (W : World) (n m : Int) (da : Option Addr) (len cp : Nat) (cs : List Value) (h : cs.length = 32) : (Instr.build 55 #[(0, .int .i64 n), (1, .int .i64 m), (2, .agg cs.toArray), (3, .slice da len cp)]).run Tryd.prog W = .ok (.agg ((Value.int .i64 n :: Value.int .i64 m :: (cs ++ [Value.slice da len cp])) : List Value).toArray) W :=
  run_build W 55 _ _ (built55 n m da len cp cs h)
/-- A link without anything. -/
def zlk : Array Value := #[.int .i64 0, .int .i64 0, .int .u8 0, .int .u8 0, .int .u8 0, .int .u8 0, .int .u8 0, .int .u8 0, .int .u8 0, .int .u8 0, .int .u8 0, .int .u8 0, .int .u8 0, .int .u8 0, .int .u8 0, .int .u8 0, .int .u8 0, .int .u8 0, .int .u8 0, .int .u8 0, .int .u8 0, .int .u8 0, .int .u8 0, .int .u8 0, .int .u8 0, .int .u8 0, .int .u8 0, .int .u8 0, .int .u8 0, .int .u8 0, .int .u8 0, .int .u8 0, .int .u8 0, .int .u8 0, .slice none 0 0]
theorem Tryd.info55y : (Tryd.prog.info? 55).map (fun i => (i.zero, i.size, i.bytes)) = some (some (.agg zlk), 35, 72) := by kernel_rfl
theorem fill35 : ∀ l : List Value, l.length = 35 → Instr.fill (fun i => some (i * 35, 35)) zlk [(0, .agg l.toArray)] = some l.toArray
  | a0 :: a1 :: a2 :: a3 :: a4 :: [a5, a6, a7, a8, a9, a10, a11, a12, a13, a14, a15, a16, a17, a18, a19, a20, a21, a22, a23, a24, a25, a26, a27, a28, a29, a30, a31, a32, a33, a34], _ => by kernel_rfl
theorem zero35 : (Array.range 35).map (fun k => zlk[k % zlk.size]!) = zlk := by kernel_rfl
theorem run_slice1 (W : World) (D : Array Value) (hD : D.size = 35) : (Instr.buildSlice 44 1 #[(0, .agg D)]).run Tryd.prog W = .ok (.slice (some ⟨W.heap.size, 0, none⟩) 1 1) (W.alloc (.cells D 55)) := by
  obtain ⟨i, hi, h⟩ := Option.map_eq_some_iff.1 Tryd.info55y
  simp only [Prod.mk.injEq] at h
  have hf := fill35 D.toList (by simpa using hD)
  rw [Array.toArray_toList] at hf
  have hz := zero35
  generalize zlk = Z at *
  simp [Instr.buildSlice, run_underlying Tryd.underlying44, sizeOf, typeInfo, zeroValue, hi, h.1, h.2.1, Value.cells]
  rw [hz, hf]
  have hn : (newRow 55 D).run Tryd.prog W = .ok ⟨W.heap.size, 0, none⟩ (W.alloc (.cells D 55)) := rfl
  simp only [Sem.run_map, hn]
  rfl
end Go.Proofs.YtfmngeemhfpeiaaDoor

namespace Go.Proofs.YtfmngeemhfpeiaaDoor
open Go.RowKit

theorem wp_app_run {P : Program} {o : Oper} {a : Act} {w : World} {K : Act → World → Prop} {Q : Exit → Act → World → Prop} (s x : Operand) (t tx : TypeId)
    (ho : o.op = .call { callee := .builtin .append, args := #[s, x], argTypes := #[t, tx] }) (va vb v : Value) (w' : World) (h1 : a.eval s = va) (h2 : a.eval x = vb)
    (hrun : (Builtin.append_ #[t, tx] o.type #[va, vb]).run P w = .ok v w') (h : K (a.put o.dst v) w') : o.wp P a w K Q := by
  subst h1; subst h2
  unfold Oper.wp execOp
  simp [ho, resolve, invoke, builtin, hrun, Result.andThen]
  exact h
theorem wp_one_link {o : Oper} {a : Act} {W : World} {K : Act → World → Prop} {Q : Exit → Act → World → Prop} {x : Operand} (ho : o.op = .buildSlice 44 1 #[(0, x)]) (cs : List Value) (hx : a.eval x = .agg cs.toArray) (hl : cs.length = 35)
    (h : ∀ g W', Below W.heap.size W W' → W'.rangeAt g 0 cs → K (a.put o.dst (.slice (some ⟨g, 0, none⟩) 1 1)) W') : o.wp Tryd.prog a W K Q := by
  refine wp_buildSlice_run 44 1 [(0, x)] ho [(0, .agg cs.toArray)] _ (by simp [hx]) (run_slice1 W _ (by simpa using hl)) ?_
  refine h _ _ ((Below.refl _ _).alloc (Nat.le_refl _) _) ?_
  have := (Arr.new W cs.toArray 55).at_
  rwa [List.toList_toArray] at this

theorem LRow.clip {w : World} {B n cap : Nat} {a : Option Addr} {l : List Lk} (h : LRow w B (.slice a n cap) l) : LRow w B (.slice a n n) l := by
  obtain ⟨h0, a', cap', h1, h2, h3, h4⟩ := h
  injection h1 with e1 e2 e3
  subst e1; subst e2; subst e3
  exact ⟨h0, a, l.length, rfl, Nat.le_refl _, Nat.le_trans h2 h3, h4⟩
/-- The error of Add. -/
def addErr (l : List Lk) (n : Int) (d : List UInt8) : Int :=
  if chk l ≠ 0 then chk l else if (decide (0 ≤ n ∧ n < 24) && bel l n && decide (d.length ≤ 65536)) = false then 1 else if l.length = 1024 then 2 else 0
/-- The links that Add returns. -/
def added (l : List Lk) (n : Int) (d : List UInt8) : List Lk := if addErr l n d = 0 then l ++ [⟨n, l.length, hd l, d⟩] else []

def c35a0 : Oper := { dst := some 39, op := Go.Op.move (Go.Operand.tmp 0), type := 44, pos := "chain.go:36", after := #[], guard := none }
def c35a1 : Oper := { dst := some 40, op := Go.Op.call { callee := Go.Callee.value (Go.Operand.func 70), args := #[Go.Operand.tmp 39], argTypes := #[44] }, type := 44, pos := "chain.go:36", after := #[{ on := 0, ground := Go.Ground.data }], guard := none }
def c35a2 : Oper := { dst := some 41, op := Go.Op.load 55 (Go.Operand.tmp 8), type := 55, pos := "chain.go:36", after := #[], guard := none }
def c35a3 : Oper := { dst := some 42, op := Go.Op.buildSlice 44 1 #[(0, Go.Operand.tmp 41)], type := 44, pos := "chain.go:36", after := #[{ on := 2, ground := Go.Ground.data }], guard := none }
def c35a4 : Oper := { dst := some 43, op := Go.Op.call { callee := Go.Callee.builtin Go.Builtin.append, args := #[Go.Operand.tmp 40, Go.Operand.tmp 42], argTypes := #[44, 44] }, type := 44, pos := "chain.go:36", after := #[{ on := 1, ground := Go.Ground.data }, { on := 3, ground := Go.Ground.data }, { on := 1, ground := Go.Ground.chain }], guard := none }
def c35a5 : Oper := { dst := some 6, op := Go.Op.assign (Go.Operand.tmp 43), type := 44, pos := "chain.go:36", after := #[{ on := 4, ground := Go.Ground.data }, { on := 4, ground := Go.Ground.chain }, { on := 0, ground := Go.Ground.phase }, { on := 1, ground := Go.Ground.phase }, { on := 2, ground := Go.Ground.phase }, { on := 3, ground := Go.Ground.phase }, { on := 4, ground := Go.Ground.phase }], guard := none }
def c35a6 : Oper := { dst := some 7, op := Go.Op.assign (Go.Operand.const (Go.Value.int Go.IntKind.i64 0)), type := 26, pos := "chain.go:36", after := #[{ on := 5, ground := Go.Ground.chain }, { on := 0, ground := Go.Ground.phase }, { on := 1, ground := Go.Ground.phase }, { on := 2, ground := Go.Ground.phase }, { on := 3, ground := Go.Ground.phase }, { on := 4, ground := Go.Ground.phase }, { on := 5, ground := Go.Ground.phase }], guard := none }


set_option maxRecDepth 100000 in
set_option maxHeartbeats 8000000 in
theorem add_any (w : World) (v u : Value) (l : List Lk) (n : Int) (d : List UInt8) (hn : K.In64 n) (hv : LRow w w.heap.size v l) (hq : l.length ≤ 100000) (hu : BytesAt w w.heap.size u d) (hT : Tab w) (h0 : 0 < w.heap.size) :
    Calls Tryd.prog 35 #[v, .int .i64 n, u] w fun e w' => ∃ v', e = .returned (.tuple #[v', .int .i64 (addErr l n d)]) ∧ LRow w' w'.heap.size v' (added l n d) ∧ Below w.heap.size w w' := by
  have hck : ∀ W, Below w.heap.size w W → Calls Tryd.prog 31 #[v] W fun e w' => e = .returned (.int .i64 (chk l)) ∧ Below W.heap.size W w' := fun W hW => check_any W v l ((hv.below hW).mono hW.size) hq (hT.below hW h0) (by have := hW.size; omega)
  have hnd : ∀ W : World, Calls Tryd.prog 67 #[.int .i64 n] W fun e w' => e = .returned (.bool (decide (0 ≤ n ∧ n < 24))) ∧ w' = W := fun W => isNode_any n W
  have hbl : ∀ W, Below w.heap.size w W → Calls Tryd.prog 68 #[v, .int .i64 n] W fun e w' => e = .returned (.bool (bel l n)) ∧ w' = W := fun W hW => belongs_any W v l n ((hv.below hW).mono hW.size)
  have hhd : ∀ W, Below w.heap.size w W → Calls Tryd.prog 33 #[v] W fun e w' => e = .returned (.agg (cells8 (hd l)).toArray) ∧ Below W.heap.size W w' := fun W hW => head_any W v l ((hv.below hW).mono hW.size) (hT.below hW h0) (by have := hW.size; omega)
  have hv0 := hv
  obtain ⟨hok, a, cap, rfl, h1, h2, h3⟩ := hv
  obtain ⟨da, dcap, rfl, k1, k2, k3⟩ := id hu
  have hcl : d.length ≤ 65536 → ∀ W, Below w.heap.size w W → Calls Tryd.prog 69 #[.slice da d.length dcap] W fun e w' => ∃ v', e = .returned v' ∧ BytesAt w' w'.heap.size v' d ∧ Below W.heap.size W w' := fun hl W hW => clone_any W da dcap d ((hu.below hW).mono hW.size) (by omega)
  obtain ⟨R, hR⟩ : ∃ R, addErr l n d = R := ⟨_, rfl⟩
  have hR2 := hR
  unfold addErr at hR2
  have hadd : added l n d = if R = 0 then l ++ [⟨n, l.length, hd l, d⟩] else [] := by unfold added; rw [hR]
  obtain ⟨LL, hLL⟩ : ∃ LL, added l n d = LL := ⟨_, rfl⟩
  rw [hR, hLL]
  rw [hLL] at hadd
  have hhdl := hd_len l
  have hnil : ∀ W : World, LRow W W.heap.size (.slice none 0 0) [] := fun W => LRow.nil W _
  obtain ⟨N, hN⟩ : ∃ N, l.length = N := ⟨_, rfl⟩
  obtain ⟨M, hM⟩ : ∃ M, d.length = M := ⟨_, rfl⟩
  rw [hN] at hck hbl hhd h1 hq hv0 hR2 hadd ⊢
  rw [hM] at hcl k1 hR2 ⊢
  have hxok : M ≤ 65536 → Lk.ok ⟨n, N, hd l, d⟩ := fun h => ⟨hhdl, hn, by unfold K.In64; simp only; omega, by simp only; omega⟩
  generalize chk l = E at *
  generalize decide (0 ≤ n ∧ n < 24) = b1 at *
  generalize bel l n = b2 at *
  have hcl8 : (cells8 (hd l)).length = 32 := by rw [cells8_len, hhdl]
  have HCK := Lib.hid hck
  have HND := Lib.hid hnd
  have HBL := Lib.hid hbl
  have HHD := Lib.hid hhd
  have HCN := Lib.hid hcl
  have HV := Lib.hid hv0
  have HN := Lib.hid hN
  have HM2 := Lib.hid hM
  have HXO := Lib.hid hxok
  have HR := Lib.hid hR2
  have HL8 := Lib.hid hcl8
  have HNIL := Lib.hid (fun (h : R ≠ 0) (W : World) => (show LRow W W.heap.size (.slice none 0 0) LL by rw [hadd, if_neg h]; exact hnil W))
  have HSOME := Lib.hid (fun (h : R = 0) => (show LL = l ++ [⟨n, N, hd l, d⟩] by rw [hadd, if_pos h]))
  unfold maxLen at h2 k2
  clear hck hnd hbl hhd hcl hv0 hN hxok hR2 hcl8 hnil hok h3 k3 hu hR hLL hadd hM hT hhdl hn
  go_enter Tryd.func35, Tryd.ntmps35
  go_wp2_with fail
  refine (HCK.out _ (Below.refl _ _)).mono ?_
  rintro e w1 ⟨rfl, hb1⟩
  have HB1 := Lib.hid hb1
  clear hb1
  by_cases hE : E = 0
  · subst hE
    cases b1 with
    | false =>
      have hr : 1 = R := by have := HR.out; simpa using this
      subst hr
      go_wp2_with (refine (HND.out _).mono ?_; rintro e w' ⟨rfl, rfl⟩)
      go_returns
      exact ⟨_, rfl, HNIL.out (by decide) _, HB1.out⟩
    | true =>
      cases b2 with
      | false =>
        have hr : 1 = R := by have := HR.out; simpa using this
        subst hr
        go_wp2_with (first
          | (go_at_call 67; refine (HND.out _).mono ?_; rintro e w' ⟨rfl, rfl⟩)
          | (go_at_call 68; refine (HBL.out _ HB1.out).mono ?_; rintro e w' ⟨rfl, rfl⟩))
        go_returns
        exact ⟨_, rfl, HNIL.out (by decide) _, HB1.out⟩
      | true =>
        by_cases hm : 65536 < M
        · have hr : 1 = R := by have := HR.out; rw [decide_eq_false (by omega : ¬ M ≤ 65536)] at this; simpa using this
          subst hr
          have d2 : decide ((M : Int) > 65536) = true := by simp; omega
          have d3 : decide ((65536 : Int) < (M : Int)) = true := by simp; omega
          have d4 : decide (65536 < M) = true := by simp; omega
          clear hm
          go_wp2_with (first
            | (go_at_call 67; refine (HND.out _).mono ?_; rintro e w' ⟨rfl, rfl⟩)
            | (go_at_call 68; refine (HBL.out _ HB1.out).mono ?_; rintro e w' ⟨rfl, rfl⟩))
          go_returns
          exact ⟨_, rfl, HNIL.out (by decide) _, HB1.out⟩
        · have hML : M ≤ 65536 := by omega
          have d2 : decide ((M : Int) > 65536) = false := by simp; omega
          have d3 : decide ((65536 : Int) < (M : Int)) = false := by simp; omega
          have d4 : decide (65536 < M) = false := by simp; omega
          have HML := Lib.hid hML
          clear hm hML
          by_cases hN4 : N = 1024
          · subst hN4
            have hr : 2 = R := by have := HR.out; rw [decide_eq_true HML.out] at this; simpa using this
            subst hr
            go_wp2_with (first
              | (go_at_call 67; refine (HND.out _).mono ?_; rintro e w' ⟨rfl, rfl⟩)
              | (go_at_call 68; refine (HBL.out _ HB1.out).mono ?_; rintro e w' ⟨rfl, rfl⟩))
            go_returns
            exact ⟨_, rfl, HNIL.out (by decide) _, HB1.out⟩
          · have hr : 0 = R := by have := HR.out; rw [decide_eq_true HML.out] at this; simpa [hN4] using this
            subst hr
            have d5 : ((N : Int) == 1024) = false := by simp; omega
            have d6 : ¬ (N : Int) = 1024 := by omega
            clear hN4
            go_upto_region 8 with (first
              | (go_at_call 67; refine (HND.out _).mono ?_; rintro e w' ⟨rfl, rfl⟩)
              | (go_at_call 68; refine (HBL.out _ HB1.out).mono ?_; rintro e w' ⟨rfl, rfl⟩))
            go_wp2_with fail
            refine (HHD.out _ HB1.out).mono ?_
            rintro e w2 ⟨rfl, hb2⟩
            have hB2 := HB1.out.trans (hb2.mono HB1.out.size)
            have HB2 := Lib.hid hB2
            clear hb2 hB2
            obtain ⟨c8, hc8⟩ : ∃ c8, cells8 (hd l) = c8 := ⟨_, rfl⟩
            rw [hc8] at HL8
            simp only [hc8]
            go_wp2_with fail
            refine (HCN.out HML.out _ HB2.out).mono ?_
            rintro e w3 ⟨ev, rfl, hd3, hb3⟩
            have hB3 := HB2.out.trans (hb3.mono HB2.out.size)
            have HB3 := Lib.hid hB3
            have hd3' := hd3
            obtain ⟨ea, ec, rfl, _, _, _⟩ := hd3'
            rw [HM2.out] at hd3 ⊢
            have HBU : Hid (∀ W : World, (Instr.build 55 #[(0, .int .i64 n), (1, .int .i64 N), (2, .agg c8.toArray), (3, .slice ea M ec)]).run Tryd.prog W = .ok (.agg ((Value.int .i64 n :: Value.int .i64 N :: (c8 ++ [Value.slice ea M ec])) : List Value).toArray) W) := Lib.hid fun W => run_built55 W n N ea M ec c8 HL8.out
            have hcx : lcells ⟨n, N, hd l, d⟩ (.slice ea M ec) = ((Value.int .i64 n :: Value.int .i64 N :: (c8 ++ [Value.slice ea M ec])) : List Value) := by rw [← hc8]; rfl
            obtain ⟨cx, hcx2⟩ : ∃ cx, ((Value.int .i64 n :: Value.int .i64 N :: (c8 ++ [Value.slice ea M ec])) : List Value) = cx := ⟨_, rfl⟩
            rw [hcx2] at HBU hcx
            have HL5 : Hid (cx.length = 35) := Lib.hid (by rw [← hcx]; exact lcells_len _ _ (HXO.out HML.out).1)
            have HZX : Hid ((Tryd.prog.info? 55).map (·.size) = some cx.length) := by show _ = _; rw [HL5.out]; exact Tryd.info55
            have HOX : Hid (∀ v ∈ cx, v.oneCell' = true) := Lib.hid (by rw [← hcx]; exact lcells_one _ _ rfl)
            have HCX := Lib.hid hcx
            have HD3 := Lib.hid hd3
            clear hc8 hcx hcx2 hd3 hb3 hB3
            go_wp2_with (first
              | (refine wpList_build_run rfl 55 [(0, Operand.tmp 31), (1, Operand.tmp 33), (2, Operand.tmp 35), (3, Operand.tmp 37)] (by rfl) _ _ (by rfl) (HBU.out _) ?_; simp only [Act.put, List.setIfInBounds_toArray, List.set_cons_zero, List.set_cons_succ])
              | (refine wpList_world (fun W => Below w.heap.size w W ∧ Below w3.heap.size w3 W ∧ (∃ z : List Value, z.length = 35 ∧ Arr W w3.heap.size z) ∧ w3.heap.size < W.heap.size) ⟨by exact HB3.out.alloc HB3.out.size _, by exact (Below.refl _ _).alloc (Nat.le_refl _) _, ⟨_, by rfl, Arr.new w3 _ 55⟩, by simp⟩ ?_
                 rintro W1 ⟨hBW, hB1, ⟨z, hz35, hA1⟩, hz1⟩
                 refine store_new rfl 55 _ _ (by rfl) w3.heap.size w3.heap.size cx _ (by rfl) (by rfl) hB1 (Nat.le_refl _) hA1 (by rw [HL5.out, hz35]) HZX.out HOX.out ?_
                 intro W0 hB0' hA0 hz0))
            have hB0 : Below w.heap.size w W0 := HB3.out.trans (hB0'.mono HB3.out.size)
            have AX : Hid (∀ W, Kept W0 W → W.rangeAt w3.heap.size 0 cx) := Lib.hid fun W hW => (hA0.below hW.below (by omega)).at_
            have HCL : Hid (∀ W : World, Calls Tryd.prog 70 #[.slice a N cap] W fun e w' => e = .returned (.slice a N N) ∧ w' = W) := Lib.hid fun W => clip_any W a N cap h1
            have HAP : Hid (∀ W g, Kept W0 W → W.rangeAt g 0 cx → ∃ v' W', (Builtin.append_ #[44, 44] 44 #[.slice a N N, .slice (some ⟨g, 0, none⟩) 1 1]).run Tryd.prog W = .ok v' W' ∧ LRow W' W'.heap.size v' LL ∧ Below W.heap.size W W') := Lib.hid fun W g hW hg => by
              have hWw : Below w.heap.size w W := hB0.trans (hW.below.mono hB0.size)
              have hr := ((HV.out.below hWw).mono hWw.size).clip
              have hsz := hW.size
              have hd4 : BytesAt W W.heap.size (.slice ea M ec) d := (HD3.out.below (hB0'.trans (hW.below.mono hB0'.size))).mono (by have := hB0'.size; omega)
              rw [HSOME.out (by simp)]
              rw [← HCX.out] at hg
              have h := l_append W W.heap.size (Nat.le_refl _) a l (by rw [HN.out]; exact hr) g ⟨n, N, hd l, d⟩ (HXO.out HML.out) _ hd4 hg (by rw [HN.out]; omega)
              rw [HN.out] at h
              exact h
            have HB0 := Lib.hid hB0
            clear hB0 hB0' hA0 hz0 hBW hB1 hA1 hz35 hz1
            refine wp_region_held_drew (S := fun W => Kept W0 W) (by kernel_rfl) (Kept.drew (Kept.refl W0)) (fun hHeld => ?_)
            refine wpAnyH_take (i := 0) (oi := c35a0) (v := ?_) rfl (by kernel_rfl) (by kernel_rfl) (by kernel_rfl) (fun _ _ _ h => h) (Or.inl ⟨by rfl, ?_⟩) hHeld ?_
            rotate_left
            · (intro w hSw; (try dsimp only at hSw); unfold c35a0; go_simp <;> with_reducible rfl)
            try simp only [c35a0, Act.put, List.setIfInBounds_toArray, List.set_cons_zero, List.set_cons_succ]
            refine wpAnyH_take (i := 2) (oi := c35a2) rfl (by kernel_rfl) (by kernel_rfl) (by kernel_rfl) (fun _ _ _ h => h) (yieldsIf_load_mid (by rfl) 55 (.tmp 8) (by rfl) w3.heap.size 0 (by rfl) cx _ (fun w hSw => AX.out w hSw) Tryd.underlying55 rfl HZX.out) hHeld ?_
            try simp only [c35a2, Act.put, List.setIfInBounds_toArray, List.set_cons_zero, List.set_cons_succ]
            refine wpAnyH_ready (rs := [1, 3]) (by kernel_rfl) (by simp) ?_
            refine AllReadyH.cons (o := c35a1) rfl (fun K hK => ?_) (AllReadyH.cons (o := c35a3) rfl (fun K hK => ?_) AllReadyH.nil)
            · skip
              rw [if_pos (by rfl)]
              unfold c35a1
              go_simp
              (with_reducible refine (HCL.out _).mono ?_)
              rintro e W1 ⟨rfl, rfl⟩
              go_wp2_with fail
              refine hK.out _ _ hHeld (fun hHeld => ?_)
              clear hK K
              try simp only [c35a1, Act.put, List.setIfInBounds_toArray, List.set_cons_zero, List.set_cons_succ]
              refine wpAnyH_ready (rs := [3]) (by kernel_rfl) (by simp) ?_
              refine AllReadyH.cons (o := c35a3) rfl (fun K hK => ?_) AllReadyH.nil
              rw [if_pos (by rfl)]
              refine wp_one_link (by rfl) cx (by rfl) HL5.out ?_
              intro g3 W3 hB3 hR3
              have hS3 := hHeld.next hB3
              refine hK.out _ _ hS3 (fun hHeld => ?_)
              clear hK K
              try simp only [c35a3, Act.put, List.setIfInBounds_toArray, List.set_cons_zero, List.set_cons_succ]
              refine wpAnyH_ready (rs := [4]) (by kernel_rfl) (by simp) ?_
              refine AllReadyH.cons (o := c35a4) rfl (fun K hK => ?_) AllReadyH.nil
              rw [if_pos (by rfl)]
              obtain ⟨v4, W4, hrun4, hL4, hB4⟩ := HAP.out _ _ hHeld hR3
              refine wp_app_run (.tmp 40) (.tmp 42) 44 44 (by rfl) _ _ _ _ (by rfl) (by rfl) hrun4 ?_
              have hS4 := hHeld.next hB4
              refine hK.out _ _ hS4 (fun hHeld => ?_)
              clear hK K
              try simp only [c35a4, Act.put, List.setIfInBounds_toArray, List.set_cons_zero, List.set_cons_succ]
              refine wpAnyH_take (i := 5) (oi := c35a5) (v := ?_) rfl (by kernel_rfl) (by kernel_rfl) (by kernel_rfl) (fun _ _ _ h => h) (Or.inl ⟨by rfl, ?_⟩) hHeld ?_
              rotate_left
              · (intro w hSw; (try dsimp only at hSw); unfold c35a5; go_simp <;> with_reducible rfl)
              try simp only [c35a5, Act.put, List.setIfInBounds_toArray, List.set_cons_zero, List.set_cons_succ]
              refine wpAnyH_take (i := 6) (oi := c35a6) (v := ?_) rfl (by kernel_rfl) (by kernel_rfl) (by kernel_rfl) (fun _ _ _ h => h) (Or.inl ⟨by rfl, ?_⟩) hHeld ?_
              rotate_left
              · (intro w hSw; (try dsimp only at hSw); unfold c35a6; go_simp <;> with_reducible rfl)
              try simp only [c35a6, Act.put, List.setIfInBounds_toArray, List.set_cons_zero, List.set_cons_succ]
              refine wpAnyH_done (by kernel_rfl) ?_ _
              have HST := Lib.hid hHeld
              have HL4 := Lib.hid hL4
              clear hHeld hL4 hrun4
              go_wp2
              go_returns
              exact ⟨_, rfl, HL4.out, HB0.out.trans (HST.out.mono HB0.out.size)⟩
            · skip
              rw [if_pos (by rfl)]
              refine wp_one_link (by rfl) cx (by rfl) HL5.out ?_
              intro g3 W3 hB3 hR3
              have hS3 := hHeld.next hB3
              refine hK.out _ _ hS3 (fun hHeld => ?_)
              clear hK K
              try simp only [c35a3, Act.put, List.setIfInBounds_toArray, List.set_cons_zero, List.set_cons_succ]
              refine wpAnyH_ready (rs := [1]) (by kernel_rfl) (by simp) ?_
              refine AllReadyH.cons (o := c35a1) rfl (fun K hK => ?_) AllReadyH.nil
              rw [if_pos (by rfl)]
              unfold c35a1
              go_simp
              (with_reducible refine (HCL.out _).mono ?_)
              rintro e W1 ⟨rfl, rfl⟩
              go_wp2_with fail
              refine hK.out _ _ hHeld (fun hHeld => ?_)
              clear hK K
              try simp only [c35a1, Act.put, List.setIfInBounds_toArray, List.set_cons_zero, List.set_cons_succ]
              refine wpAnyH_ready (rs := [4]) (by kernel_rfl) (by simp) ?_
              refine AllReadyH.cons (o := c35a4) rfl (fun K hK => ?_) AllReadyH.nil
              rw [if_pos (by rfl)]
              obtain ⟨v4, W4, hrun4, hL4, hB4⟩ := HAP.out _ _ hHeld hR3
              refine wp_app_run (.tmp 40) (.tmp 42) 44 44 (by rfl) _ _ _ _ (by rfl) (by rfl) hrun4 ?_
              have hS4 := hHeld.next hB4
              refine hK.out _ _ hS4 (fun hHeld => ?_)
              clear hK K
              try simp only [c35a4, Act.put, List.setIfInBounds_toArray, List.set_cons_zero, List.set_cons_succ]
              refine wpAnyH_take (i := 5) (oi := c35a5) (v := ?_) rfl (by kernel_rfl) (by kernel_rfl) (by kernel_rfl) (fun _ _ _ h => h) (Or.inl ⟨by rfl, ?_⟩) hHeld ?_
              rotate_left
              · (intro w hSw; (try dsimp only at hSw); unfold c35a5; go_simp <;> with_reducible rfl)
              try simp only [c35a5, Act.put, List.setIfInBounds_toArray, List.set_cons_zero, List.set_cons_succ]
              refine wpAnyH_take (i := 6) (oi := c35a6) (v := ?_) rfl (by kernel_rfl) (by kernel_rfl) (by kernel_rfl) (fun _ _ _ h => h) (Or.inl ⟨by rfl, ?_⟩) hHeld ?_
              rotate_left
              · (intro w hSw; (try dsimp only at hSw); unfold c35a6; go_simp <;> with_reducible rfl)
              try simp only [c35a6, Act.put, List.setIfInBounds_toArray, List.set_cons_zero, List.set_cons_succ]
              refine wpAnyH_done (by kernel_rfl) ?_ _
              have HST := Lib.hid hHeld
              have HL4 := Lib.hid hL4
              clear hHeld hL4 hrun4
              go_wp2
              go_returns
              exact ⟨_, rfl, HL4.out, HB0.out.trans (HST.out.mono HB0.out.size)⟩
  · have hr : E = R := by have := HR.out; rwa [if_pos hE] at this
    subst hr
    have d1 : (E != 0) = true := by simp [hE]
    have d2 : (E == 0) = false := by simp [hE]
    have HE := Lib.hid hE
    clear hE
    go_wp2
    go_returns
    exact ⟨_, rfl, HNIL.out HE.out _, HB1.out⟩
end Go.Proofs.YtfmngeemhfpeiaaDoor

namespace Go.Proofs.YtfmngeemhfpeiaaDoor
open Go.RowKit

/-- What a chain is. -/
def Chn (l : List Lk) : Prop := l.length ≤ 1024 ∧ ∀ i (h : i < l.length), (0 ≤ l[i].node ∧ l[i].node < 24) ∧ bel l l[i].node = true ∧ l[i].no = i ∧ l[i].data.length ≤ 65536 ∧ l[i].prev = hd (l.take i)
theorem fstOf_isNone {p : Nat → Bool} {n : Nat} : (fstOf p n).isNone = true ↔ ∀ j, j < n → p j = false := by
  constructor
  · intro h j hj
    unfold fstOf at h
    rw [Option.isNone_iff_eq_none, List.find?_eq_none] at h
    have := h j (List.mem_range.2 hj)
    simpa using this
  · intro h; rw [fstOf_none h]; rfl
theorem bad1_iff {l : List Lk} {i : Int} {x : Lk} : bad1 l i x = false ↔ (0 ≤ x.node ∧ x.node < 24) ∧ bel l x.node = true ∧ x.no = i ∧ x.data.length ≤ 65536 := by
  unfold bad1
  simp [and_assoc]
theorem chk_iff (l : List Lk) : chk l = 0 ↔ Chn l := by
  unfold chk Chn
  by_cases h : 1024 < l.length
  · rw [if_pos h]
    exact ⟨fun e => absurd e (by decide), fun e => absurd e.1 (by omega)⟩
  · rw [if_neg h]
    have hn : numbered l = true ↔ ∀ j (hj : j < l.length), bad1 l j l[j] = false := by
      unfold numbered
      rw [fstOf_isNone]
      constructor
      · intro e j hj
        have := e j hj
        unfold badAt at this
        rwa [List.getElem?_eq_getElem hj] at this
      · intro e j hj
        unfold badAt
        rw [List.getElem?_eq_getElem hj]
        exact e j hj
    have hk : lnk l = true ↔ ∀ j (hj : j < l.length), l[j].prev = hd (l.take j) := by
      unfold lnk
      rw [List.all_eq_true]
      constructor
      · intro e j hj
        have := e j (List.mem_range.2 hj)
        unfold okAt at this
        rw [List.getElem?_eq_getElem hj] at this
        simpa using this
      · intro e j hj
        unfold okAt
        have hj2 := List.mem_range.1 hj
        rw [List.getElem?_eq_getElem hj2]
        simpa using e j hj2
    constructor
    · intro e
      have hb : (numbered l && lnk l) = true := by
        cases hh : (numbered l && lnk l)
        · rw [hh] at e; exact absurd e (by decide)
        · rfl
      rw [Bool.and_eq_true] at hb
      refine ⟨by omega, fun i hi => ?_⟩
      obtain ⟨a1, a2, a3, a4⟩ := bad1_iff.1 (hn.1 hb.1 i hi)
      exact ⟨a1, a2, a3, a4, hk.1 hb.2 i hi⟩
    · rintro ⟨_, e⟩
      have h1 : numbered l = true := hn.2 fun j hj => bad1_iff.2 ⟨(e j hj).1, (e j hj).2.1, (e j hj).2.2.1, (e j hj).2.2.2.1⟩
      have h2 : lnk l = true := hk.2 fun j hj => (e j hj).2.2.2.2
      rw [h1, h2]; rfl
theorem chk_cases (l : List Lk) : chk l = 0 ∨ chk l = 80 ∨ chk l = 2 := by
  unfold chk
  split
  · exact .inr (.inr rfl)
  · split
    · exact .inl rfl
    · exact .inr (.inl rfl)
theorem chk_bad {l : List Lk} (h : ¬ Chn l) (hl : l.length ≤ 1024) : chk l = 80 := by
  rcases chk_cases l with e | e | e
  · exact absurd ((chk_iff l).1 e) h
  · exact e
  · unfold chk at e
    rw [if_neg (by omega)] at e
    split at e <;> cases e
theorem Chn.nil : Chn [] := ⟨by simp, fun i h => by simp at h⟩
theorem bel_append {l m : List Lk} (h : l ≠ []) (n : Int) : bel (l ++ m) n = bel l n := by
  match l, h with
  | x :: r, _ => rfl
theorem Chn.snoc {l : List Lk} (h : Chn l) {n : Int} {d : List UInt8} (hn : 0 ≤ n ∧ n < 24) (hb : bel l n = true) (hd : d.length ≤ 65536) (hl : l.length < 1024) : Chn (l ++ [⟨n, l.length, YtfmngeemhfpeiaaDoor.hd l, d⟩]) := by
  refine ⟨by simp; omega, fun i hi => ?_⟩
  rw [List.length_append] at hi
  by_cases hi2 : i < l.length
  · obtain ⟨a1, a2, a3, a4, a5⟩ := h.2 i hi2
    rw [List.getElem_append_left hi2]
    refine ⟨a1, ?_, a3, a4, ?_⟩
    · rw [bel_append (fun e => by subst e; exact absurd hi2 (by simp))]; exact a2
    · rw [List.take_append_of_le_length (by omega)]; exact a5
  · have hi3 : i = l.length := by simp at hi; omega
    subst hi3
    rw [List.getElem_append_right (Nat.le_refl _)]
    simp only [Nat.sub_self, List.getElem_cons_zero]
    refine ⟨hn, ?_, by first | trivial | rfl, hd, ?_⟩
    · cases l with
      | nil => simp [bel]
      | cons x r => exact hb
    · rw [List.take_left]
theorem Chn.take {l : List Lk} (h : Chn l) (k : Nat) : Chn (l.take k) := by
  refine ⟨by rw [List.length_take]; have := h.1; omega, fun i hi => ?_⟩
  rw [List.length_take] at hi
  obtain ⟨a1, a2, a3, a4, a5⟩ := h.2 i (by omega)
  rw [List.getElem_take]
  refine ⟨a1, ?_, a3, a4, ?_⟩
  · cases l with
    | nil => simp at hi
    | cons x r =>
      cases k with
      | zero => omega
      | succ k => exact a2
  · rw [List.take_take, Nat.min_eq_left (by omega)]; exact a5
theorem addErr_ok {l : List Lk} (h : Chn l) {n : Int} {d : List UInt8} (hn : 0 ≤ n ∧ n < 24) (hb : bel l n = true) (hd : d.length ≤ 65536) (hl : l.length < 1024) : addErr l n d = 0 := by
  unfold addErr
  rw [(chk_iff l).2 h, hb]
  simp [hn, hd]
  omega
theorem added_ok {l : List Lk} (h : Chn l) {n : Int} {d : List UInt8} (hn : 0 ≤ n ∧ n < 24) (hb : bel l n = true) (hd : d.length ≤ 65536) (hl : l.length < 1024) : added l n d = l ++ [⟨n, l.length, YtfmngeemhfpeiaaDoor.hd l, d⟩] := by
  unfold added; rw [if_pos (addErr_ok h hn hb hd hl)]

/-! ### The chapter's examples -/
def sx0 : Lk := ⟨3, 0, hd [], [120]⟩
def sy : Lk := ⟨3, 1, hd [sx0], [121]⟩
def sz : Lk := ⟨3, 1, hd [sx0], [122]⟩
theorem chn_a : Chn [sx0] := Chn.nil.snoc (n := 3) (d := [120]) (by decide) rfl (by decide) (by decide)
theorem chn_b : Chn [sx0, sy] := chn_a.snoc (n := 3) (d := [121]) (by decide) rfl (by decide) (by decide)
theorem chn_c : Chn [sx0, sz] := chn_a.snoc (n := 3) (d := [122]) (by decide) rfl (by decide) (by decide)
theorem add_a : addErr [] 3 [120] = 0 ∧ added [] 3 [120] = [sx0] := ⟨addErr_ok Chn.nil (by decide) rfl (by decide) (by decide), added_ok Chn.nil (by decide) rfl (by decide) (by decide)⟩
theorem add_b : addErr [sx0] 3 [121] = 0 ∧ added [sx0] 3 [121] = [sx0, sy] := ⟨addErr_ok chn_a (by decide) rfl (by decide) (by decide), added_ok chn_a (by decide) rfl (by decide) (by decide)⟩
theorem add_c : addErr [sx0] 3 [122] = 0 ∧ added [sx0] 3 [122] = [sx0, sz] := ⟨addErr_ok chn_a (by decide) rfl (by decide) (by decide), added_ok chn_a (by decide) rfl (by decide) (by decide)⟩
theorem add_h : addErr [] 24 [] = 1 := by
  unfold addErr; rw [(chk_iff []).2 Chn.nil]; rfl
theorem add_i : addErr [sx0] 4 [] = 1 := by
  unfold addErr; rw [(chk_iff [sx0]).2 chn_a]; rfl
theorem fst_bc : fstOf (diffAt [sx0, sy] [sx0, sz]) 2 = some 1 :=
  fstOf_some (by decide) (fun j hj => by
    obtain rfl : j = 0 := by omega
    simp [diffAt]) (by simp [diffAt, sy, sz])
theorem fst_ab : fstOf (diffAt [sx0] [sx0, sy]) 1 = none :=
  fstOf_none fun j hj => by
    obtain rfl : j = 0 := by omega
    simp [diffAt]
theorem part_bc : partV [sx0, sy] [sx0, sz] = .tuple #[.int .i64 1, .bool true, .int .i64 0] := by
  unfold partV
  rw [(chk_iff _).2 chn_b, (chk_iff _).2 chn_c, show oneNode [sx0, sy] [sx0, sz] = true from rfl, show min [sx0, sy].length [sx0, sz].length = 2 from rfl, fst_bc]
  rfl
theorem part_ab : partV [sx0] [sx0, sy] = .tuple #[.int .i64 0, .bool false, .int .i64 0] := by
  unfold partV
  rw [(chk_iff _).2 chn_a, (chk_iff _).2 chn_b, show oneNode [sx0] [sx0, sy] = true from rfl, show min [sx0].length [sx0, sy].length = 1 from rfl, fst_ab]
  rfl
theorem part_na : partV [] [sx0] = .tuple #[.int .i64 0, .bool false, .int .i64 0] := by
  unfold partV
  rw [(chk_iff _).2 Chn.nil, (chk_iff _).2 chn_a]
  rfl
theorem chk_no : chk [⟨0, 1, List.replicate 32 0, []⟩] = 80 := chk_bad (fun h => by
  have := (h.2 0 (by decide)).2.2.1
  simp at this) (by decide)
theorem chk_tail : chk [sy] = 80 := chk_bad (fun h => by
  have := (h.2 0 (by decide)).2.2.1
  simp [sy] at this) (by decide)
theorem txt_x0 : txt sx0 = [3, 4, 1, 6, 1, 0, 2, 32] ++ hd [] ++ [2, 1, 120] := by
  have h := hd_len []
  have n32 : K.num 32 = [32] := by rw [K.num_lt _ (by omega)]; rfl
  have n4 : K.num 4 = [4] := by rw [K.num_lt _ (by omega)]; rfl
  have n1 : K.num 1 = [1] := by rw [K.num_lt _ (by omega)]; rfl
  have z3 : K.num (K.zig 3).toNat = [6] := by rw [K.num_lt _ (by decide)]; rfl
  have z0 : K.num (K.zig 0).toNat = [0] := by rw [K.num_lt _ (by decide)]; rfl
  simp [txt, linkV, lstV, intV, txtV, sx0, K.V.enc, K.V.encs, size_mk, h, n32, n4, n1, z3, z0]
theorem ok_x0 : sx0.ok := ⟨show (hd []).length = 32 from hd_len _, by unfold K.In64 sx0; simp, by unfold K.In64 sx0; simp, by decide⟩
end Go.Proofs.YtfmngeemhfpeiaaDoor
