/- merkle: the path of a leaf (Prove). -/
import Derived.Test.YtfmngeemhfpeiaaDoorMro
namespace Go.Proofs.YtfmngeemhfpeiaaDoor
open Go.RowKit Go.Shelf
attribute [local go_sem] Oper.semAt_some

/-- The row k behind a row. -/
def rowAt (ds : List (List UInt8)) : Nat → List (List UInt8)
  | 0 => ds
  | k + 1 => nexts (rowAt ds k)
theorem rowAt_len (ds : List (List UInt8)) : ∀ k, (rowAt ds k).length = msz ds.length k
  | 0 => rfl
  | k + 1 => by show (nexts (rowAt ds k)).length = (msz ds.length k + 1) / 2; rw [nexts_len, rowAt_len ds k]
theorem rowAt_32 {ds : List (List UInt8)} (h : ∀ d ∈ ds, d.length = 32) : ∀ k, ∀ d ∈ rowAt ds k, d.length = 32
  | 0 => h
  | k + 1 => nexts_32 _ (rowAt_32 h k)
/-- The digests of the path of i ahead of the row k. -/
def mpathk (ds : List (List UInt8)) (i : Nat) : Nat → List (List UInt8)
  | 0 => []
  | k + 1 => if alone (mpos i k) (msz ds.length k) then mpathk ds i k else mpathk ds i k ++ [(rowAt ds k).getD (oth (mpos i k)) []]
/-- The path of i. -/
def mpath (ds : List (List UInt8)) (i : Nat) : List (List UInt8) := mpathk ds i (mrows ds.length)
theorem mpathk_len (ds : List (List UInt8)) (i : Nat) : ∀ k, (mpathk ds i k).length = mcnt i ds.length k
  | 0 => rfl
  | k + 1 => by
    unfold mpathk mcnt
    split
    · exact mpathk_len ds i k
    · rw [List.length_append, mpathk_len ds i k]; rfl
theorem oth_lt {t s : Nat} (h : t < s) (ha : alone t s = false) : oth t < s := by
  have h1 := oth_le t
  have h2 : oth t ≠ s := by simpa [alone] using ha
  omega
theorem getD_mem {l : List (List UInt8)} {t : Nat} (h : t < l.length) : l.getD t [] ∈ l := by
  simp [List.getD, List.getElem?_eq_getElem h]
theorem mpathk_32 {ds : List (List UInt8)} (h : ∀ d ∈ ds, d.length = 32) {i : Nat} (hi : i < ds.length) : ∀ k, ∀ d ∈ mpathk ds i k, d.length = 32
  | 0, d, hd => by cases hd
  | k + 1, d, hd => by
    unfold mpathk at hd
    split at hd
    · exact mpathk_32 h hi k d hd
    · rename_i ha
      rcases List.mem_append.1 hd with h1 | h1
      · exact mpathk_32 h hi k d h1
      · simp only [List.mem_singleton] at h1
        subst h1
        exact rowAt_32 h k _ (getD_mem (by rw [rowAt_len]; exact oth_lt (mpos_lt hi k) (by simpa using ha)))
theorem own_head {W : World} {B e size n : Nat} {v : Value} {xs : List Value} (h : W.ownsRow B e size v n xs) (hn : 0 < n) : ∃ g p, v = .slice (some ⟨g, 0, none⟩) n p := by
  rcases h.2 with ⟨_, h1⟩ | ⟨g, cap, cur, h1, _⟩
  · omega
  · exact ⟨g, cap, h1⟩
theorem Low.row {n : Nat} {ls : List Nat} {W W' : World} (h : Low n ls W W') {B e size q : Nat} {v : Value} {xs : List Value} (hr : W.ownsRow B e size v q xs) (hv : ∀ g, v.ownBlock = some g → g < n ∧ g ∉ ls) : W'.ownsRow B e size v q xs := by
  refine ⟨hr.1, ?_⟩
  rcases hr.2 with h1 | ⟨g, cap, cur, rfl, h2, h3, h4⟩
  · exact .inl h1
  · have hg := hv g rfl
    exact .inr ⟨g, cap, cur, rfl, h2, (h.block g hg.1 hg.2).trans h3, h4⟩
/-- A block of steps is no block of digests. -/
theorem own_step {W : World} {B n : Nat} {v : Value} {xs : List Value} (h : W.ownsRow B 30 32 v n xs) {g' : Nat} {cs : Array Value} {z : Nat × Nat} (hg : W.heap[g']? = some (.cells cs 65 z)) : v.ownBlock ≠ some g' := by
  rcases h.2 with ⟨rfl, _⟩ | ⟨g, cap, cur, rfl, _, h5, _⟩
  · simp [Value.ownBlock]
  · intro e
    simp [Value.ownBlock] at e
    subst e
    rw [h5] at hg
    cases hg

def c18a0 : Oper := { dst := some 23, op := Go.Op.load 25 (Go.Operand.tmp 4), type := 25, pos := "merkle.go:31", after := #[], guard := none }
def c18a1 : Oper := { dst := some 24, op := Go.Op.load 25 (Go.Operand.tmp 6), type := 25, pos := "merkle.go:31", after := #[], guard := none }
def c18a2 : Oper := { dst := some 25, op := Go.Op.load 65 (Go.Operand.tmp 7), type := 65, pos := "merkle.go:31", after := #[], guard := none }
def c18a3 : Oper := { dst := some 26, op := Go.Op.call { callee := Go.Callee.value (Go.Operand.func 46), args := #[Go.Operand.tmp 25], argTypes := #[65] }, type := 3, pos := "merkle.go:31", after := #[{ on := 2, ground := Go.Ground.data }], guard := none }
def c18a4 : Oper := { dst := some 27, op := Go.Op.indexAddr 25 (Go.Operand.tmp 24) (Go.Operand.tmp 26), type := 0, pos := "merkle.go:31", after := #[{ on := 1, ground := Go.Ground.data }, { on := 3, ground := Go.Ground.data }], guard := none }
def c18a5 : Oper := { dst := some 28, op := Go.Op.load 30 (Go.Operand.tmp 27), type := 30, pos := "merkle.go:31", after := #[{ on := 4, ground := Go.Ground.data }], guard := none }
def c18a6 : Oper := { dst := some 29, op := Go.Op.buildSlice 25 1 #[(0, Go.Operand.tmp 28)], type := 25, pos := "merkle.go:31", after := #[{ on := 5, ground := Go.Ground.data }], guard := none }
def c18a7 : Oper := { dst := some 30, op := Go.Op.call { callee := Go.Callee.builtin Go.Builtin.append, args := #[Go.Operand.tmp 23, Go.Operand.tmp 29], argTypes := #[25, 25] }, type := 25, pos := "merkle.go:31", after := #[{ on := 0, ground := Go.Ground.data }, { on := 6, ground := Go.Ground.data }, { on := 3, ground := Go.Ground.chain }], guard := none }
def c18a8 : Oper := { dst := none, op := Go.Op.store 25 (Go.Operand.tmp 4) (Go.Operand.tmp 30), type := 0, pos := "merkle.go:31", after := #[{ on := 7, ground := Go.Ground.data }, { on := 7, ground := Go.Ground.chain }, { on := 0, ground := Go.Ground.phase }, { on := 1, ground := Go.Ground.phase }, { on := 2, ground := Go.Ground.phase }, { on := 3, ground := Go.Ground.phase }, { on := 4, ground := Go.Ground.phase }, { on := 5, ground := Go.Ground.phase }, { on := 6, ground := Go.Ground.phase }, { on := 7, ground := Go.Ground.phase }], guard := none }

/-- What holds between two rounds. -/
structure PrvI (w : World) (n5 b6 i m : Nat) (F : List (List UInt8)) (k : Nat) (W : World) (v u : Value) : Prop where
  below : Below w.heap.size w W
  size : n5 ≤ W.heap.size
  b4 : Arr W w.heap.size [v]
  path : W.ownsRow n5 30 32 v (mcnt i m k) (flat (mpathk F i k))
  b6 : Arr W b6 [u]
  row : W.ownsRow (w.heap.size + 1) 30 32 u (msz m k) (flat (rowAt F k))
  sep : ∀ g, u.ownBlock = some g → v.ownBlock ≠ some g

set_option maxRecDepth 100000 in
set_option maxHeartbeats 8000000 in
theorem prove_ok (w : World) (v : Value) (l : List (List UInt8)) (i : Nat) (hv : BRows w w.heap.size v l) (hb : ∀ b ∈ l, b.length ≤ 80000000) (hi : i < l.length) (hq : l.length ≤ 65536) (hT : Tab w) (h0 : 0 < w.heap.size) :
    Calls Tryd.prog 18 #[v, .int .i64 i] w fun e w' => ∃ v', e = .returned (.tuple #[v', .int .i64 0]) ∧ Digs w' w'.heap.size v' (mpath (firsts l) i) ∧ Below w.heap.size w w' := by
  have HFR := Lib.hid (fun W (hW : Below w.heap.size w W) => firstRow_own W v l (hv.at hW) hb (by omega) (hT.below hW h0) (by have := hW.size; omega))
  obtain ⟨ra, rc, rfl⟩ : ∃ a c, v = .slice a l.length c := by obtain ⟨a, c, rfl, _⟩ := hv; exact ⟨a, c, rfl⟩
  have hF32 := firsts_32 l
  have hFl := firsts_len l
  obtain ⟨m, hm⟩ : ∃ m, l.length = m := ⟨_, rfl⟩
  obtain ⟨F, hF⟩ : ∃ F, firsts l = F := ⟨_, rfl⟩
  rw [hF, hm] at HFR
  rw [hF] at hF32 hFl ⊢
  rw [hm] at hi hq hFl ⊢
  have HFM := Lib.hid hFl
  have HF32 := Lib.hid hF32
  have HLF : Hid (∀ W, Calls Tryd.prog 42 #[.int .i64 m, .int .i64 i] W fun e w' => e = .returned (.bool true) ∧ w' = W) := Lib.hid fun W => by
    have h := isLeaf_any W m i
    rw [show (decide ((m : Int) ≤ 65536) && (decide (0 ≤ (i : Int)) && decide ((i : Int) < (m : Int)))) = true by simp; omega] at h
    exact h
  have HT := Lib.hid hT
  clear hv hb hT hm hF hFl hF32
  refine (callsIn_wide (n := 9)).1 ?_
  refine callsIn_of_wp_marks Tryd.func18 rfl trivial ?_ rfl
  simp only [Tryd.ntmps18, List.size_toArray, List.length_cons, List.length_nil, Nat.reduceAdd, Nat.reduceSub, Array.replicate_succ, Array.replicate_zero, List.push_toArray, List.append_toArray, List.nil_append, List.cons_append]
  refine wpIn_wide.2 ?_
  go_wp2_with (refine wpList_world (fun W => Below w.heap.size w W ∧ Arr W w.heap.size [.slice none 0 0] ∧ w.heap.size + 1 ≤ W.heap.size) ⟨by go_grown, Arr.new w #[.slice none 0 0] 25, by simp⟩ ?_; rintro W0 ⟨hB0, hA0, hz0⟩)
  refine (HLF.out _).mono ?_
  rintro e w1 ⟨rfl, rfl⟩
  have HB0 := Lib.hid hB0
  have HA0 := Lib.hid hA0
  clear hB0 hA0
  go_wp2_with fail
  refine (HFR.out _ HB0.out).mono ?_
  rintro e W2 ⟨v2, rfl, hO2, hb2⟩
  obtain ⟨g2, p2, rfl⟩ := own_head hO2 (by omega)
  have hs2 := hb2.size
  have HB2 := Lib.hid (HB0.out.trans (hb2.mono HB0.out.size))
  have HA2 := Lib.hid (HA0.out.below hb2 (by omega))
  have HO2 := Lib.hid (own_base hO2 (show w.heap.size + 1 ≤ w1.heap.size from hz0))
  clear hb2 hO2 HB0 HA0
  go_wp2_with (refine wpList_world (fun W => Below W2.heap.size W2 W ∧ Arr W W2.heap.size [.slice (some ⟨g2, 0, none⟩) m p2] ∧ W2.heap.size < W.heap.size) ⟨by go_grown, by first | exact Arr.new W2 #[.slice (some ⟨g2, 0, none⟩) m p2] 25 | exact (Arr.new W2 #[.slice none 0 0] 25).set 0 _, by simp⟩ ?_; rintro W3 ⟨hB3, hA3, hz3⟩)
  refine (steps_any W3 i m).mono ?_
  rintro e w5 ⟨rfl, hi5, hn5, hb5, hz5⟩
  have h25 : Below W2.heap.size W2 w5 := hB3.trans (hb5.mono hB3.size)
  have HI0 : Hid (PrvI w w5.heap.size W2.heap.size i m F 0 w5 (.slice none 0 0) (.slice (some ⟨g2, 0, none⟩) m p2)) := Lib.hid (by
    refine ⟨HB2.out.trans (h25.mono HB2.out.size), Nat.le_refl _, HA2.out.below h25 (by omega), World.ownsRow_nil w5 _ 30 32, hA3.below hb5 hz3, ?_, fun g _ => by simp [Value.ownBlock]⟩
    exact own_after h25 HO2.out)
  have HI5 := Lib.hid hi5
  have HN5 := Lib.hid hn5
  have hq5 : W3.heap.size < w5.heap.size := by omega
  have hq6 : W3.heap.size + 1 < w5.heap.size := by omega
  clear hb5 hi5 hn5 hz5 h25 hB3 hA3 HB2 HA2 HO2
  go_wp2_with fail
  refine (wpIn_wide (n := 9)).1 ?_
  refine range_in_turn (n := 9) rfl (enters_of Tryd.func74 (by kernel_rfl) rfl) (steps_turn 8 (by omega) (W3.heap.size + 1) W3.heap.size i m (by omega) (by omega) hi w5 hq6 hq5 HI5.out HN5.out) (Below.refl _ _) (fun _ => rfl)
    (fun k W => ∃ v u, PrvI w w5.heap.size W2.heap.size i m F k W v u) (fun _ _ => False)
    (by
      rintro k W W' row ⟨v, u, k1, k2, k3, k4, k5, k6, k7⟩ hg hr
      exact ⟨v, u, k1.grown hg k1.size (fun k e => by have := (hr k e).1; omega), Nat.le_trans k2 hg.size, k3.own hg (fun r e => (hr r e).2), own_own k4 hg (fun r e => (hr r e).2), k5.own hg (fun r e => (hr r e).2), own_own k6 hg (fun r e => (hr r e).2), k7⟩)
    (by rintro _ _ _ _ h; exact absurd h id)
    ⟨_, _, HI0.out⟩
    (fun k a' W => ∃ g', a' = { tmps := (.slice ra m rc :: .int .i64 i :: undef :: undef :: .pointer (some ⟨w.heap.size, 0, none⟩) :: .int .i64 0 :: .pointer (some ⟨W2.heap.size, 0, none⟩) :: .pointer (some ⟨g', 0, none⟩) :: .slice ra m rc :: .int .i64 m :: .int .i64 i :: .bool true :: .bool false :: .slice ra m rc :: .slice (some ⟨g2, 0, none⟩) m p2 :: .slice ra m rc :: .int .i64 m :: .int .i64 i :: .func (.func 74) #[] #[.pointer (some ⟨W3.heap.size + 1, 0, none⟩), .pointer (some ⟨W3.heap.size, 0, none⟩)] :: .agg #[.int .i64 (mpos i k), .int .i64 (msz m k)] :: undef :: undef :: undef :: undef :: undef :: undef :: undef :: undef :: undef :: undef :: undef :: undef :: undef :: undef :: []).toArray, defers := [] } ∧ Arr W g' [.int .i64 (mpos i k), .int .i64 (msz m k)] ∧ ∃ cs z, W.heap[g']? = some (.cells cs 65 z))
    ?hax ?assign ?body ?done ?stop
  case hax =>
    rintro k a' u W W' row ⟨g', h1, h2, cs, z, h3⟩ hg hr
    exact ⟨g', h1, h2.own hg (fun r e => (hr r e).2), cs, z, (grownBy_keeps_cells hg (fun r e => (hr r e).2) h3 rfl).trans h3⟩
  case assign =>
    intro lp k W K hk hI hK
    have HKK := Lib.hid hK
    have HI := Lib.hid hI
    clear hI hK
    unfold stpV
    gi_wp2
    obtain ⟨v, u, k1, k2, k3, k4, k5, k6, k7⟩ := HI.out
    have hb : Below W.heap.size W (W.alloc (.cells #[.int .i64 (mpos i k), .int .i64 (msz m k)] 65)) := (Below.refl _ W).alloc (Nat.le_refl _) _
    exact HKK.out _ _ ((KeepsOthers.alloc W _).from _) ⟨v, u, k1.trans (hb.mono k1.size), Nat.le_trans k2 hb.size, k3.below hb (k3.lt (by simp)), own_after hb k4, k5.below hb (k5.lt (by simp)), own_after hb k6, k7⟩ ⟨W.heap.size, rfl, Arr.new W #[.int .i64 (mpos i k), .int .i64 (msz m k)] 65, _, _, heap_alloc_new W _⟩
  case stop => intro D c W _ hf; exact absurd hf id
  case done =>
    rintro D W hD ⟨v, u, h1, h2, h3, h4, _, _, _⟩ hK
    have hDW : D < W.heap.size := (Array.getElem?_eq_some_iff.1 hK).1
    have hd0 : ∃ a0 n0 c0, v = .slice a0 n0 c0 := by
      rcases h4.2 with ⟨rfl, _⟩ | ⟨g, cp, cur, rfl, _⟩
      · exact ⟨_, _, _, rfl⟩
      · exact ⟨_, _, _, rfl⟩
    obtain ⟨a0, n0, c0, rfl⟩ := hd0
    have e0 : W.cell? ⟨w.heap.size, 0, none⟩ = some (.slice a0 n0 c0) := h3.cell rfl
    have f0 : W.frozen? ⟨w.heap.size, 0, none⟩ = false := h3.frozen (by simp)
    obtain ⟨WF, hWF⟩ : ∃ WF, W.setCell ⟨w.heap.size, 0, none⟩ (.slice a0 n0 c0) = WF := ⟨_, rfl⟩
    have hA := h3.set 0 (.slice a0 n0 c0)
    have hG := grown_setCell (W := W) (b := w.heap.size) 0 (.slice a0 n0 c0)
    rw [hWF] at hA hG
    have hsG := hG.size
    have hBF : Below w.heap.size w WF := h1.grown hG h1.size (fun k e => by cases e; omega)
    have hKF := heap_grown_other hG (by omega) hK
    have hO1 := own_grown h4 hG (fun k e => by cases e; omega)
    have hPF : Below w5.heap.size WF (WF.putObj D (.deferred none)) := (Below.refl _ WF).grown (grownBy_putObj' WF D _) (by omega) (fun k e => by cases e; omega)
    have hAF : Arr (WF.putObj D (.deferred none)) w.heap.size [.slice a0 n0 c0] := hA.below hPF (by omega)
    have hO2 := own_own hO1 (grownBy_putObj' WF D (.deferred none)) (fun r e => by cases e; exact ⟨_, hKF, rfl⟩)
    have hDG : Digs _ _ (.slice a0 n0 c0) (mpath F i) := own_digs' hO2 (by rw [mpathk_len, HFM.out]) (by rw [← HFM.out]; exact mpathk_32 HF32.out (by rw [HFM.out]; exact hi) _) |> fun h => by unfold mpath; rw [HFM.out]; exact h
    have q : (WF.putObj D (.deferred none)).cell? ⟨w.heap.size, 0, none⟩ = some (.slice a0 n0 c0) := hAF.cell rfl
    have HBP := Lib.hid (hBF.trans (hPF.mono (by omega)))
    have HKF := Lib.hid hKF
    have HQ := Lib.hid q
    have HDG := Lib.hid hDG
    have HWF := Lib.hid hWF
    clear hG hA hBF hKF hPF hAF hO1 hO2 hDG q h1 h3 h4 hK hWF
    go_wp2
    rw [HWF.out]
    have q := HQ.out
    refine ⟨by simp, .inl ⟨_, _, rfl, run_takeDeferred HKF.out, ?_⟩⟩
    exact ⟨.tuple #[.slice a0 n0 c0, .int .i64 0], by simp [results, Tryd.results18, go_sem, q], _, rfl, HDG.out, HBP.out⟩
  case body =>
    rintro lp k a' W hk ⟨v0, u0, h1, h2, h3, h4, h5, h6, h7⟩ ⟨g', rfl, h8, gcs, gz, h9⟩ hsW
    have hmp := mpos_le i k
    have hml := mpos_lt hi k
    have hmz := msz_le (show 1 ≤ m by omega) k
    have hmz1 : 1 ≤ msz m k := hmz.1
    obtain ⟨pb, up, rfl⟩ := own_head h6 hmz1
    have hpb := h6.lt pb rfl
    have hpc := fun j u hu => h6.cells (g := pb) rfl j u hu
    have hne1 := h7 pb rfl
    have hne2 := own_step h4 h9
    have hv0 : ∃ a0 n0 c0, v0 = .slice a0 n0 c0 := by
      rcases h4.2 with ⟨rfl, _⟩ | ⟨g, cp, cur, rfl, _⟩
      · exact ⟨_, _, _, rfl⟩
      · exact ⟨_, _, _, rfl⟩
    have hvo := fun g (h : v0.ownBlock = some g) => h4.lt g h
    obtain ⟨a0, n0, p0, rfl⟩ := hv0
    have g0 : W.cell? ⟨g', 0, none⟩ = some (.int .i64 (mpos i k)) := h8.cell rfl
    have g1 : W.cell? ⟨g', 1, none⟩ = some (.int .i64 (msz m k)) := h8.cell rfl
    have hgl := h8.lt (by simp)
    have hcl := mcnt_le i m k
    have hrl : mrows m ≤ 16 := mrows_le 16 m (by omega)
    have hcn : mcnt i m (k + 1) = mcnt i m k + (if alone (mpos i k) (msz m k) then 0 else 1) := rfl
    have hmk : mpathk F i (k + 1) = if alone (mpos i k) (msz m k) then mpathk F i k else mpathk F i k ++ [(rowAt F k).getD (oth (mpos i k)) []] := by
      show (if alone (mpos i k) (msz F.length k) then _ else _) = _
      rw [HFM.out]
    have hol : alone (mpos i k) (msz m k) = false → oth (mpos i k) < msz m k := oth_lt hml
    have HAL := Lib.hid (alone_any W (mpos i k) (msz m k) (by omega))
    have HOT := Lib.hid (fun W' : World => other_any W' (mpos i k) (msz m k) (by omega))
    obtain ⟨B, hB⟩ : ∃ B, alone (mpos i k) (msz m k) = B := ⟨_, rfl⟩
    rw [hB] at hcn hmk HAL hol
    have H1 := Lib.hid h1
    have H3 := Lib.hid h3
    have H4 := Lib.hid h4
    have H5 := Lib.hid h5
    have H6 := Lib.hid h6
    have H8 := Lib.hid h8
    have H9 := Lib.hid h9
    have HPC := Lib.hid hpc
    clear h1 h3 h4 h5 h6 h7 h8 h9 hB hpc
    gi_wp2_with fail
    refine ⟨trivial, ?_⟩
    refine ((callsIn_wide.2 HAL.out).inRound lp).mono ?_
    rintro e W1 ⟨rfl, hb1⟩
    have hs1 := hb1.size
    have H11 := Lib.hid (H1.out.trans (hb1.mono H1.out.size))
    have HA4 := Lib.hid (H3.out.below hb1 (by omega))
    have HP4 := Lib.hid (own_after hb1 H4.out)
    have HA6 := Lib.hid (H5.out.below hb1 (by omega))
    have HR1 := Lib.hid (own_after hb1 H6.out)
    have HA8 := Lib.hid (H8.out.below hb1 hgl)
    have HK1 := Lib.hid (KK.of (B := w5.heap.size) hb1)
    clear hb1 g0 g1 H1 H3 H4 H5 H6 H8 H9
    cases B with
    | true =>
      have HT1 := H11
      have HT2 : Hid (w5.heap.size ≤ W1.heap.size) := Lib.hid (by omega)
      have HT3 := HK1
      have HT4 := HA4
      have HT5 : Hid (W1.ownsRow w5.heap.size 30 32 (.slice a0 n0 p0) (mcnt i m (k + 1)) (flat (mpathk F i (k + 1)))) := Lib.hid (by rw [hcn, hmk]; exact HP4.out)
      have HT6 := HA6
      have HT7 := HR1
      have HT8 : Hid True := Lib.hid trivial
      clear H11 HA4 HP4 HA6 HR1 HA8 HK1 hcn hmk hol
      have hDG := own_digs' HT7.out (by rw [rowAt_len, HFM.out]) (rowAt_32 HF32.out k)
      have HNX := Lib.hid (nextRow_own _ _ (rowAt F k) hDG (by rw [rowAt_len, HFM.out]; omega) (HT.out.below HT1.out h0) (by have := HT1.out.size; omega))
      have c6 := HT6.out.cell (i := 0) rfl
      clear hDG
      gi_wp2_with fail
      refine ⟨trivial, ?_⟩
      refine ((callsIn_wide.2 HNX.out).inRound lp).mono ?_
      rintro e WY ⟨u', rfl, hU', hbY⟩
      rw [nexts_len, rowAt_len, HFM.out] at hU'
      obtain ⟨gu', pu', rfl⟩ := own_head hU' (by have := hmz1; show 0 < (msz m k + 1) / 2; omega)
      have hsY := hbY.size
      have hXn := HT2.out
      have hA6 := HT6.out.below hbY (by omega)
      have c7 := hA6.cell (i := 0) rfl
      have f7 := hA6.frozen (i := 0) (by simp)
      have hv5 := fun g (h : (Value.slice a0 n0 p0).ownBlock = some g) => (HT5.out.lt g h).2
      have hu5 := fun g h => (hU'.lt g h).1
      have HFIN : Hid (KeepsFrom w5.heap.size W (WY.setCell ⟨W2.heap.size, 0, none⟩ (.slice (some ⟨gu', 0, none⟩) ((msz m k + 1) / 2) pu')) ∧ PrvI w w5.heap.size W2.heap.size i m F (k + 1) (WY.setCell ⟨W2.heap.size, 0, none⟩ (.slice (some ⟨gu', 0, none⟩) ((msz m k + 1) / 2) pu')) (Value.slice a0 n0 p0) (.slice (some ⟨gu', 0, none⟩) ((msz m k + 1) / 2) pu')) := Lib.hid (by
        refine ⟨(HT3.out.trans (KK.of hbY)).trans ((KeepsOthers.setCell _ _ _).from _), (HT1.out.trans (hbY.mono HT1.out.size)).setCell (by show w.heap.size ≤ W2.heap.size; omega) _, by simp; omega, (HT4.out.below hbY (by omega)).other (by omega) 0 _, own_grown (own_after hbY HT5.out) (grown_setCell 0 _) (fun k e => by cases e; omega), hA6.set 0 _, ?_, ?_⟩
        · exact own_base (own_grown hU' (grown_setCell 0 _) (fun k e => by cases e; omega)) (by omega)
        · intro g h1 h2
          have := hu5 g h1
          have := hv5 g h2
          omega)
      clear hU' hbY hA6 hv5 hu5 HT1 HT2 HT3 HT4 HT5 HT6 HT7 HT8 c6 HNX
      gi_wp2_with fail
      exact ⟨HFIN.out.1, trivial, _, _, HFIN.out.2⟩
    | false =>
      have hol2 := hol rfl
      have hx := getD_mem (l := rowAt F k) (t := oth (mpos i k)) (by rw [rowAt_len, HFM.out]; exact hol2)
      have hx32 := rowAt_32 HF32.out k _ hx
      obtain ⟨O, hO⟩ : ∃ O, oth (mpos i k) = O := ⟨_, rfl⟩
      rw [hO] at hol2 hmk HOT hx32
      have hmk2 : flat (mpathk F i (k + 1)) = flat (mpathk F i k) ++ cells8 ((rowAt F k).getD O []) := by rw [hmk]; exact flat_snoc _ _
      have hDl : (cells8 ((rowAt F k).getD O [])).length = 32 := by rw [cells8_len, hx32]
      have hD1 := one_cells8 ((rowAt F k).getD O [])
      have hra : ∀ j v, (cells8 ((rowAt F k).getD O []))[j]? = some v → (flat (rowAt F k))[O * 32 + j]? = some v := fun j v hv => by
        have hol3 : O < (rowAt F k).length := by rw [rowAt_len, HFM.out]; exact hol2
        rw [show (rowAt F k).getD O [] = (rowAt F k)[O] by simp [List.getD, List.getElem?_eq_getElem hol3]] at hv
        exact flat_at _ (rowAt_32 HF32.out k) O hol3 j v hv
      obtain ⟨D, hD⟩ : ∃ D, cells8 ((rowAt F k).getD O []) = D := ⟨_, rfl⟩
      rw [hD] at hmk2 hDl hD1 hra
      have HFD := Lib.hid hmk2
      have HDL := Lib.hid hDl
      have HD1 := Lib.hid hD1
      have HZD : Hid ((Tryd.prog.info? 30).map (·.size) = some D.length) := Lib.hid (by rw [hDl]; exact Tryd.info30)
      obtain ⟨vl, hVL⟩ : ∃ vl, (Value.slice a0 n0 p0).ownBlock.toList = vl := ⟨_, rfl⟩
      have hvm : ∀ g, g ∈ vl → (Value.slice a0 n0 p0).ownBlock = some g := fun g hg => by
        rw [← hVL] at hg
        simpa using hg
      have HLS : Hid (∀ x ∈ w.heap.size :: vl, w.heap.size ≤ x) := Lib.hid fun x hx => by
        rcases List.mem_cons.1 hx with rfl | h
        · exact Nat.le_refl _
        · have := (hvo x (hvm x h)).1; omega
      have HN6 : Hid (W2.heap.size ∉ w.heap.size :: vl) := Lib.hid fun hx => by
        rcases List.mem_cons.1 hx with h | h
        · omega
        · have := (hvo _ (hvm _ h)).1; omega
      have HNG : Hid (g' ∉ w.heap.size :: vl) := Lib.hid fun hx => by
        rcases List.mem_cons.1 hx with h | h
        · subst h
          have := HA4.out.cell (i := 0) rfl
          rw [HA8.out.cell (i := 0) rfl] at this
          cases this
        · exact hne2 (hvm _ h)
      have HNP : Hid (pb ∉ w.heap.size :: vl) := Lib.hid fun hx => by
        rcases List.mem_cons.1 hx with h | h
        · omega
        · exact hne1 (hvm _ h)
      have HRW : Hid (∀ g, (Value.slice (some ⟨pb, 0, none⟩) (msz m k) up).ownBlock = some g → g < W1.heap.size ∧ g ∉ w.heap.size :: vl) := Lib.hid fun g hg => by
        have e : pb = g := by simpa [Value.ownBlock] using hg
        subst e
        exact ⟨by omega, HNP.out⟩
      have AX : Hid (∀ W', Low W1.heap.size (w.heap.size :: vl) W1 W' → W'.rangeAt g' 0 [.int .i64 (mpos i k), .int .i64 (msz m k)]) := Lib.hid fun W' hW => (hW.arr HA8.out (by omega) HNG.out).at_
      have P6 : Hid (∀ W', Low W1.heap.size (w.heap.size :: vl) W1 W' → W'.cell? ⟨W2.heap.size, 0, none⟩ = some (.slice (some ⟨pb, 0, none⟩) (msz m k) up)) := Lib.hid fun W' hW => (hW.arr HA6.out (by omega) HN6.out).cell rfl
      have AP : Hid (∀ W', Low W1.heap.size (w.heap.size :: vl) W1 W' → W'.rangeAt pb (O * 32) D) := Lib.hid fun W' hW j v hv => by
        have h := (hW.row HR1.out HRW.out).cells (g := pb) rfl (O * 32 + j) v (hra j v hv)
        rw [Addr.add_mid, Nat.zero_add] at h
        exact h
      obtain ⟨c0, hc0⟩ : ∃ c, mcnt i m k = c := ⟨_, rfl⟩
      obtain ⟨c1, hc1⟩ : ∃ c, mcnt i m (k + 1) = c := ⟨_, rfl⟩
      rw [hc0, hc1] at hcn
      have HMC := Lib.hid hc1
      have HCN : Hid (c1 = c0 + 1) := Lib.hid hcn
      have hO := own_after (Below.drew (Below.refl W1.heap.size W1)) HP4.out
      rw [hc0] at hO hcl
      have hA := HA4.out.drew
      have q1 : (O : Int) < (msz m k : Int) := by omega
      have q2 : decide ((O : Int) < (msz m k : Int)) = true := by simp; omega
      clear hol hmk hmk2 hDl hD1 hra hD hvm hc0 hc1 hcn HP4 hx hx32 hne1 hne2 hvo
      gi_wp2_with fail
      refine wpIn_region_round (Low W1.heap.size (w.heap.size :: vl) W1) (by kernel_rfl) (by kernel_rfl) (Low.drew (Low.refl _ _ _)) (fun KR hKR hHeld => ?_)
      refine wpAnyH_take (i := 1) (oi := c18a1) (v := ?_) rfl (by kernel_rfl) (by kernel_rfl) (by kernel_rfl) (fun _ _ _ h => h) (Or.inl ⟨by rfl, ?_⟩) hHeld ?_
      rotate_left
      · (intro w hSw; have f1 := P6.out w hSw; unfold c18a1; go_simp <;> with_reducible rfl)
      try simp only [c18a1, Act.put, List.setIfInBounds_toArray, List.set_cons_zero, List.set_cons_succ]
      refine wpAnyH_take (i := 2) (oi := c18a2) rfl (by kernel_rfl) (by kernel_rfl) (by kernel_rfl) (fun _ _ _ h => h) (yieldsIf_load_mid (by rfl) 65 (.tmp 7) (by rfl) g' 0 (by rfl) [.int .i64 (mpos i k), .int .i64 (msz m k)] _ (fun w hSw => AX.out w hSw) Tryd.underlying65 rfl Tryd.info65) hHeld ?_
      try simp only [c18a2, Act.put, List.setIfInBounds_toArray, List.set_cons_zero, List.set_cons_succ]
      refine wpAnyH_ready (rs := [0, 3]) (by kernel_rfl) (by simp) ?_
      refine AllReadyH.cons (o := c18a0) rfl (fun K hK => ?_) (AllReadyH.cons (o := c18a3) rfl (fun K hK => ?_) AllReadyH.nil)
      · skip
        rw [if_pos (by rfl)]
        have f1 := hA.cell (i := 0) rfl
        unfold c18a0
        go_simp
        refine hK.out _ _ hHeld (fun hHeld => ?_)
        clear hK K
        try simp only [c18a0, Act.put, List.setIfInBounds_toArray, List.set_cons_zero, List.set_cons_succ]
        refine wpAnyH_ready (rs := [3]) (by kernel_rfl) (by simp) ?_
        refine AllReadyH.cons (o := c18a3) rfl (fun K hK => ?_) AllReadyH.nil
        rw [if_pos (by rfl)]
        unfold c18a3
        go_simp
        (with_reducible refine (HOT.out _).mono ?_)
        rintro e X2 ⟨rfl, hB2⟩
        replace hO := own_after hB2 hO
        replace hA := hA.below hB2 (by have := hHeld.size; omega)
        replace hHeld := hHeld.next hB2 (Nat.le_refl _)
        go_wp2_with fail
        refine hK.out _ _ hHeld (fun hHeld => ?_)
        clear hK K
        try simp only [c18a3, Act.put, List.setIfInBounds_toArray, List.set_cons_zero, List.set_cons_succ]
        refine wpAnyH_take (i := 4) (oi := c18a4) (v := ?_) rfl (by kernel_rfl) (by kernel_rfl) (by kernel_rfl) (fun _ _ _ h => h) (Or.inl ⟨by rfl, ?_⟩) hHeld ?_
        rotate_left
        · (intro w hSw; (try dsimp only at hSw); unfold c18a4; go_simp <;> with_reducible rfl)
        try simp only [c18a4, Act.put, List.setIfInBounds_toArray, List.set_cons_zero, List.set_cons_succ]
        refine wpAnyH_take (i := 5) (oi := c18a5) rfl (by kernel_rfl) (by kernel_rfl) (by kernel_rfl) (fun _ _ _ h => h) (yieldsIf_load_mid (by rfl) 30 (.tmp 27) (by rfl) pb (O * 32) (by rfl) D _ (fun w hSw => AP.out w hSw) Tryd.underlying30 rfl HZD.out) hHeld ?_
        try simp only [c18a5, Act.put, List.setIfInBounds_toArray, List.set_cons_zero, List.set_cons_succ]
        refine wpAnyH_ready (rs := [6]) (by kernel_rfl) (by simp) ?_
        refine AllReadyH.cons (o := c18a6) rfl (fun K hK => ?_) AllReadyH.nil
        rw [if_pos (by rfl)]
        refine wp_one30 (.tmp 28) (by rfl) D (by rfl) HDL.out ?_
        intro g3 X3 hg3 hlt3 hG3 hr3
        have hB3 := gb_below hG3
        replace hO := own_after hB3 hO
        replace hA := hA.below hB3 (by have := hHeld.size; omega)
        replace hHeld := hHeld.next hB3 (Nat.le_refl _)
        refine hK.out _ _ hHeld (fun hHeld => ?_)
        clear hK K
        try simp only [c18a6, Act.put, List.setIfInBounds_toArray, List.set_cons_zero, List.set_cons_succ]
        refine wpAnyH_ready (rs := [7]) (by kernel_rfl) (by simp) ?_
        refine AllReadyH.cons (o := c18a7) rfl (fun K hK => ?_) AllReadyH.nil
        rw [if_pos (by rfl)]
        obtain ⟨v4, W4, r4, hrun4, hO4, hG4, hR4, hr4, hv4⟩ := digs_app2 hO (by have := hHeld.size; omega) g3 HDL.out HD1.out hr3 (by omega)
        obtain ⟨g4, p4, rfl⟩ := ownsRow_succ hO4
        refine wp_app_run (.tmp 23) (.tmp 29) 25 25 (by rfl) _ _ _ _ (by rfl) (by rfl) hrun4 ?_
        replace hA := hA.moved hG4 (by have := hHeld.size; omega) (fun e => by have := (hR4 _ e.symm).1; omega)
        have hsz4 := hHeld.size
        replace hHeld := hHeld.moved hG4 (Nat.le_refl _) (fun k e => ⟨.inl (List.mem_cons_of_mem _ (by rw [← hVL]; simp [← hr4, e])), (hR4 k e).2⟩)
        refine hK.out _ _ hHeld (fun hHeld => ?_)
        clear hK K
        try simp only [c18a7, Act.put, List.setIfInBounds_toArray, List.set_cons_zero, List.set_cons_succ]
        refine wpAnyH_ready (rs := [8]) (by kernel_rfl) (by simp) ?_
        refine AllReadyH.cons (o := c18a8) rfl (fun K hK => ?_) AllReadyH.nil
        rw [if_pos (by rfl)]
        have f1 := hA.cell (i := 0) rfl
        have f2 := hA.frozen (i := 0) (by simp)
        have hS5 := hHeld.set (Nat.le_refl _) List.mem_cons_self hA (by simp) 0 (.slice (some ⟨g4, 0, none⟩) (c0 + 1) p4)
        unfold c18a8
        go_simp
        refine hK.out _ _ hS5 (fun hHeld => ?_)
        clear hK K
        try simp only [c18a8, Act.put]
        refine wpAnyH_done (by kernel_rfl) ?_ _
        refine hKR _ _ ?_
        have HT1 : Hid (Below w.heap.size w (W4.setCell ⟨w.heap.size, 0, none⟩ (.slice (some ⟨g4, 0, none⟩) (c0 + 1) p4))) := Lib.hid (H11.out.trans (hHeld.below (by omega) HLS.out))
        have HT2 : Hid (w5.heap.size ≤ (W4.setCell ⟨w.heap.size, 0, none⟩ (.slice (some ⟨g4, 0, none⟩) (c0 + 1) p4)).heap.size) := Lib.hid (by have := hHeld.size; omega)
        have HT3 : Hid (KeepsFrom w5.heap.size W (W4.setCell ⟨w.heap.size, 0, none⟩ (.slice (some ⟨g4, 0, none⟩) (c0 + 1) p4))) := Lib.hid (HK1.out.trans (hHeld.keeps _))
        have HT4 : Hid (Arr (W4.setCell ⟨w.heap.size, 0, none⟩ (.slice (some ⟨g4, 0, none⟩) (c0 + 1) p4)) w.heap.size [.slice (some ⟨g4, 0, none⟩) (c0 + 1) p4]) := Lib.hid (hA.set 0 _)
        have HT5 : Hid ((W4.setCell ⟨w.heap.size, 0, none⟩ (.slice (some ⟨g4, 0, none⟩) (c0 + 1) p4)).ownsRow w5.heap.size 30 32 (.slice (some ⟨g4, 0, none⟩) (c0 + 1) p4) c1 (flat (mpathk F i (k + 1)))) := Lib.hid (by rw [HFD.out, HCN.out]; exact own_grown hO4 (grown_setCell 0 _) (fun k e => by cases e; omega))
        have HT6 : Hid (Arr (W4.setCell ⟨w.heap.size, 0, none⟩ (.slice (some ⟨g4, 0, none⟩) (c0 + 1) p4)) W2.heap.size [.slice (some ⟨pb, 0, none⟩) (msz m k) up]) := Lib.hid (hHeld.arr HA6.out (by omega) HN6.out)
        have HT7 : Hid ((W4.setCell ⟨w.heap.size, 0, none⟩ (.slice (some ⟨g4, 0, none⟩) (c0 + 1) p4)).ownsRow (w.heap.size + 1) 30 32 (.slice (some ⟨pb, 0, none⟩) (msz m k) up) (msz m k) (flat (rowAt F k))) := Lib.hid (hHeld.row HR1.out HRW.out)
        have HT8 : Hid True := Lib.hid trivial
        obtain ⟨WX, hWX⟩ : ∃ X, W4.setCell ⟨w.heap.size, 0, none⟩ (.slice (some ⟨g4, 0, none⟩) (c0 + 1) p4) = X := ⟨_, rfl⟩
        rw [hWX] at HT1 HT2 HT3 HT4 HT5 HT6 HT7 ⊢
        clear hWX hS5 hHeld hA hO hO4 hG4 hR4 hr4 hv4 hrun4 hr3 hG3 hB3 hB2 f1 f2
        rw [← HMC.out] at HT5
        have hDG := own_digs' HT7.out (by rw [rowAt_len, HFM.out]) (rowAt_32 HF32.out k)
        have HNX := Lib.hid (nextRow_own _ _ (rowAt F k) hDG (by rw [rowAt_len, HFM.out]; omega) (HT.out.below HT1.out h0) (by have := HT1.out.size; omega))
        have c6 := HT6.out.cell (i := 0) rfl
        clear hDG
        gi_wp2_with fail
        refine ⟨trivial, ?_⟩
        refine ((callsIn_wide.2 HNX.out).inRound lp).mono ?_
        rintro e WY ⟨u', rfl, hU', hbY⟩
        rw [nexts_len, rowAt_len, HFM.out] at hU'
        obtain ⟨gu', pu', rfl⟩ := own_head hU' (by have := hmz1; show 0 < (msz m k + 1) / 2; omega)
        have hsY := hbY.size
        have hXn := HT2.out
        have hA6 := HT6.out.below hbY (by omega)
        have c7 := hA6.cell (i := 0) rfl
        have f7 := hA6.frozen (i := 0) (by simp)
        have hv5 := fun g (h : (Value.slice (some ⟨g4, 0, none⟩) (c0 + 1) p4).ownBlock = some g) => (HT5.out.lt g h).2
        have hu5 := fun g h => (hU'.lt g h).1
        have HFIN : Hid (KeepsFrom w5.heap.size W (WY.setCell ⟨W2.heap.size, 0, none⟩ (.slice (some ⟨gu', 0, none⟩) ((msz m k + 1) / 2) pu')) ∧ PrvI w w5.heap.size W2.heap.size i m F (k + 1) (WY.setCell ⟨W2.heap.size, 0, none⟩ (.slice (some ⟨gu', 0, none⟩) ((msz m k + 1) / 2) pu')) (Value.slice (some ⟨g4, 0, none⟩) (c0 + 1) p4) (.slice (some ⟨gu', 0, none⟩) ((msz m k + 1) / 2) pu')) := Lib.hid (by
          refine ⟨(HT3.out.trans (KK.of hbY)).trans ((KeepsOthers.setCell _ _ _).from _), (HT1.out.trans (hbY.mono HT1.out.size)).setCell (by show w.heap.size ≤ W2.heap.size; omega) _, by simp; omega, (HT4.out.below hbY (by omega)).other (by omega) 0 _, own_grown (own_after hbY HT5.out) (grown_setCell 0 _) (fun k e => by cases e; omega), hA6.set 0 _, ?_, ?_⟩
          · exact own_base (own_grown hU' (grown_setCell 0 _) (fun k e => by cases e; omega)) (by omega)
          · intro g h1 h2
            have := hu5 g h1
            have := hv5 g h2
            omega)
        clear hU' hbY hA6 hv5 hu5 HT1 HT2 HT3 HT4 HT5 HT6 HT7 HT8 c6 HNX
        gi_wp2_with fail
        exact ⟨HFIN.out.1, trivial, _, _, HFIN.out.2⟩
      · skip
        rw [if_pos (by rfl)]
        unfold c18a3
        go_simp
        (with_reducible refine (HOT.out _).mono ?_)
        rintro e X2 ⟨rfl, hB2⟩
        replace hO := own_after hB2 hO
        replace hA := hA.below hB2 (by have := hHeld.size; omega)
        replace hHeld := hHeld.next hB2 (Nat.le_refl _)
        go_wp2_with fail
        refine hK.out _ _ hHeld (fun hHeld => ?_)
        clear hK K
        try simp only [c18a3, Act.put, List.setIfInBounds_toArray, List.set_cons_zero, List.set_cons_succ]
        refine wpAnyH_take (i := 4) (oi := c18a4) (v := ?_) rfl (by kernel_rfl) (by kernel_rfl) (by kernel_rfl) (fun _ _ _ h => h) (Or.inl ⟨by rfl, ?_⟩) hHeld ?_
        rotate_left
        · (intro w hSw; (try dsimp only at hSw); unfold c18a4; go_simp <;> with_reducible rfl)
        try simp only [c18a4, Act.put, List.setIfInBounds_toArray, List.set_cons_zero, List.set_cons_succ]
        refine wpAnyH_take (i := 5) (oi := c18a5) rfl (by kernel_rfl) (by kernel_rfl) (by kernel_rfl) (fun _ _ _ h => h) (yieldsIf_load_mid (by rfl) 30 (.tmp 27) (by rfl) pb (O * 32) (by rfl) D _ (fun w hSw => AP.out w hSw) Tryd.underlying30 rfl HZD.out) hHeld ?_
        try simp only [c18a5, Act.put, List.setIfInBounds_toArray, List.set_cons_zero, List.set_cons_succ]
        refine wpAnyH_ready (rs := [0, 6]) (by kernel_rfl) (by simp) ?_
        refine AllReadyH.cons (o := c18a0) rfl (fun K hK => ?_) (AllReadyH.cons (o := c18a6) rfl (fun K hK => ?_) AllReadyH.nil)
        · skip
          rw [if_pos (by rfl)]
          have f1 := hA.cell (i := 0) rfl
          unfold c18a0
          go_simp
          refine hK.out _ _ hHeld (fun hHeld => ?_)
          clear hK K
          try simp only [c18a0, Act.put, List.setIfInBounds_toArray, List.set_cons_zero, List.set_cons_succ]
          refine wpAnyH_ready (rs := [6]) (by kernel_rfl) (by simp) ?_
          refine AllReadyH.cons (o := c18a6) rfl (fun K hK => ?_) AllReadyH.nil
          rw [if_pos (by rfl)]
          refine wp_one30 (.tmp 28) (by rfl) D (by rfl) HDL.out ?_
          intro g3 X3 hg3 hlt3 hG3 hr3
          have hB3 := gb_below hG3
          replace hO := own_after hB3 hO
          replace hA := hA.below hB3 (by have := hHeld.size; omega)
          replace hHeld := hHeld.next hB3 (Nat.le_refl _)
          refine hK.out _ _ hHeld (fun hHeld => ?_)
          clear hK K
          try simp only [c18a6, Act.put, List.setIfInBounds_toArray, List.set_cons_zero, List.set_cons_succ]
          refine wpAnyH_ready (rs := [7]) (by kernel_rfl) (by simp) ?_
          refine AllReadyH.cons (o := c18a7) rfl (fun K hK => ?_) AllReadyH.nil
          rw [if_pos (by rfl)]
          obtain ⟨v4, W4, r4, hrun4, hO4, hG4, hR4, hr4, hv4⟩ := digs_app2 hO (by have := hHeld.size; omega) g3 HDL.out HD1.out hr3 (by omega)
          obtain ⟨g4, p4, rfl⟩ := ownsRow_succ hO4
          refine wp_app_run (.tmp 23) (.tmp 29) 25 25 (by rfl) _ _ _ _ (by rfl) (by rfl) hrun4 ?_
          replace hA := hA.moved hG4 (by have := hHeld.size; omega) (fun e => by have := (hR4 _ e.symm).1; omega)
          have hsz4 := hHeld.size
          replace hHeld := hHeld.moved hG4 (Nat.le_refl _) (fun k e => ⟨.inl (List.mem_cons_of_mem _ (by rw [← hVL]; simp [← hr4, e])), (hR4 k e).2⟩)
          refine hK.out _ _ hHeld (fun hHeld => ?_)
          clear hK K
          try simp only [c18a7, Act.put, List.setIfInBounds_toArray, List.set_cons_zero, List.set_cons_succ]
          refine wpAnyH_ready (rs := [8]) (by kernel_rfl) (by simp) ?_
          refine AllReadyH.cons (o := c18a8) rfl (fun K hK => ?_) AllReadyH.nil
          rw [if_pos (by rfl)]
          have f1 := hA.cell (i := 0) rfl
          have f2 := hA.frozen (i := 0) (by simp)
          have hS5 := hHeld.set (Nat.le_refl _) List.mem_cons_self hA (by simp) 0 (.slice (some ⟨g4, 0, none⟩) (c0 + 1) p4)
          unfold c18a8
          go_simp
          refine hK.out _ _ hS5 (fun hHeld => ?_)
          clear hK K
          try simp only [c18a8, Act.put]
          refine wpAnyH_done (by kernel_rfl) ?_ _
          refine hKR _ _ ?_
          have HT1 : Hid (Below w.heap.size w (W4.setCell ⟨w.heap.size, 0, none⟩ (.slice (some ⟨g4, 0, none⟩) (c0 + 1) p4))) := Lib.hid (H11.out.trans (hHeld.below (by omega) HLS.out))
          have HT2 : Hid (w5.heap.size ≤ (W4.setCell ⟨w.heap.size, 0, none⟩ (.slice (some ⟨g4, 0, none⟩) (c0 + 1) p4)).heap.size) := Lib.hid (by have := hHeld.size; omega)
          have HT3 : Hid (KeepsFrom w5.heap.size W (W4.setCell ⟨w.heap.size, 0, none⟩ (.slice (some ⟨g4, 0, none⟩) (c0 + 1) p4))) := Lib.hid (HK1.out.trans (hHeld.keeps _))
          have HT4 : Hid (Arr (W4.setCell ⟨w.heap.size, 0, none⟩ (.slice (some ⟨g4, 0, none⟩) (c0 + 1) p4)) w.heap.size [.slice (some ⟨g4, 0, none⟩) (c0 + 1) p4]) := Lib.hid (hA.set 0 _)
          have HT5 : Hid ((W4.setCell ⟨w.heap.size, 0, none⟩ (.slice (some ⟨g4, 0, none⟩) (c0 + 1) p4)).ownsRow w5.heap.size 30 32 (.slice (some ⟨g4, 0, none⟩) (c0 + 1) p4) c1 (flat (mpathk F i (k + 1)))) := Lib.hid (by rw [HFD.out, HCN.out]; exact own_grown hO4 (grown_setCell 0 _) (fun k e => by cases e; omega))
          have HT6 : Hid (Arr (W4.setCell ⟨w.heap.size, 0, none⟩ (.slice (some ⟨g4, 0, none⟩) (c0 + 1) p4)) W2.heap.size [.slice (some ⟨pb, 0, none⟩) (msz m k) up]) := Lib.hid (hHeld.arr HA6.out (by omega) HN6.out)
          have HT7 : Hid ((W4.setCell ⟨w.heap.size, 0, none⟩ (.slice (some ⟨g4, 0, none⟩) (c0 + 1) p4)).ownsRow (w.heap.size + 1) 30 32 (.slice (some ⟨pb, 0, none⟩) (msz m k) up) (msz m k) (flat (rowAt F k))) := Lib.hid (hHeld.row HR1.out HRW.out)
          have HT8 : Hid True := Lib.hid trivial
          obtain ⟨WX, hWX⟩ : ∃ X, W4.setCell ⟨w.heap.size, 0, none⟩ (.slice (some ⟨g4, 0, none⟩) (c0 + 1) p4) = X := ⟨_, rfl⟩
          rw [hWX] at HT1 HT2 HT3 HT4 HT5 HT6 HT7 ⊢
          clear hWX hS5 hHeld hA hO hO4 hG4 hR4 hr4 hv4 hrun4 hr3 hG3 hB3 hB2 f1 f2
          rw [← HMC.out] at HT5
          have hDG := own_digs' HT7.out (by rw [rowAt_len, HFM.out]) (rowAt_32 HF32.out k)
          have HNX := Lib.hid (nextRow_own _ _ (rowAt F k) hDG (by rw [rowAt_len, HFM.out]; omega) (HT.out.below HT1.out h0) (by have := HT1.out.size; omega))
          have c6 := HT6.out.cell (i := 0) rfl
          clear hDG
          gi_wp2_with fail
          refine ⟨trivial, ?_⟩
          refine ((callsIn_wide.2 HNX.out).inRound lp).mono ?_
          rintro e WY ⟨u', rfl, hU', hbY⟩
          rw [nexts_len, rowAt_len, HFM.out] at hU'
          obtain ⟨gu', pu', rfl⟩ := own_head hU' (by have := hmz1; show 0 < (msz m k + 1) / 2; omega)
          have hsY := hbY.size
          have hXn := HT2.out
          have hA6 := HT6.out.below hbY (by omega)
          have c7 := hA6.cell (i := 0) rfl
          have f7 := hA6.frozen (i := 0) (by simp)
          have hv5 := fun g (h : (Value.slice (some ⟨g4, 0, none⟩) (c0 + 1) p4).ownBlock = some g) => (HT5.out.lt g h).2
          have hu5 := fun g h => (hU'.lt g h).1
          have HFIN : Hid (KeepsFrom w5.heap.size W (WY.setCell ⟨W2.heap.size, 0, none⟩ (.slice (some ⟨gu', 0, none⟩) ((msz m k + 1) / 2) pu')) ∧ PrvI w w5.heap.size W2.heap.size i m F (k + 1) (WY.setCell ⟨W2.heap.size, 0, none⟩ (.slice (some ⟨gu', 0, none⟩) ((msz m k + 1) / 2) pu')) (Value.slice (some ⟨g4, 0, none⟩) (c0 + 1) p4) (.slice (some ⟨gu', 0, none⟩) ((msz m k + 1) / 2) pu')) := Lib.hid (by
            refine ⟨(HT3.out.trans (KK.of hbY)).trans ((KeepsOthers.setCell _ _ _).from _), (HT1.out.trans (hbY.mono HT1.out.size)).setCell (by show w.heap.size ≤ W2.heap.size; omega) _, by simp; omega, (HT4.out.below hbY (by omega)).other (by omega) 0 _, own_grown (own_after hbY HT5.out) (grown_setCell 0 _) (fun k e => by cases e; omega), hA6.set 0 _, ?_, ?_⟩
            · exact own_base (own_grown hU' (grown_setCell 0 _) (fun k e => by cases e; omega)) (by omega)
            · intro g h1 h2
              have := hu5 g h1
              have := hv5 g h2
              omega)
          clear hU' hbY hA6 hv5 hu5 HT1 HT2 HT3 HT4 HT5 HT6 HT7 HT8 c6 HNX
          gi_wp2_with fail
          exact ⟨HFIN.out.1, trivial, _, _, HFIN.out.2⟩
        · skip
          rw [if_pos (by rfl)]
          refine wp_one30 (.tmp 28) (by rfl) D (by rfl) HDL.out ?_
          intro g3 X3 hg3 hlt3 hG3 hr3
          have hB3 := gb_below hG3
          replace hO := own_after hB3 hO
          replace hA := hA.below hB3 (by have := hHeld.size; omega)
          replace hHeld := hHeld.next hB3 (Nat.le_refl _)
          refine hK.out _ _ hHeld (fun hHeld => ?_)
          clear hK K
          try simp only [c18a6, Act.put, List.setIfInBounds_toArray, List.set_cons_zero, List.set_cons_succ]
          refine wpAnyH_ready (rs := [0]) (by kernel_rfl) (by simp) ?_
          refine AllReadyH.cons (o := c18a0) rfl (fun K hK => ?_) AllReadyH.nil
          rw [if_pos (by rfl)]
          have f1 := hA.cell (i := 0) rfl
          unfold c18a0
          go_simp
          refine hK.out _ _ hHeld (fun hHeld => ?_)
          clear hK K
          try simp only [c18a0, Act.put, List.setIfInBounds_toArray, List.set_cons_zero, List.set_cons_succ]
          refine wpAnyH_ready (rs := [7]) (by kernel_rfl) (by simp) ?_
          refine AllReadyH.cons (o := c18a7) rfl (fun K hK => ?_) AllReadyH.nil
          rw [if_pos (by rfl)]
          obtain ⟨v4, W4, r4, hrun4, hO4, hG4, hR4, hr4, hv4⟩ := digs_app2 hO (by have := hHeld.size; omega) g3 HDL.out HD1.out hr3 (by omega)
          obtain ⟨g4, p4, rfl⟩ := ownsRow_succ hO4
          refine wp_app_run (.tmp 23) (.tmp 29) 25 25 (by rfl) _ _ _ _ (by rfl) (by rfl) hrun4 ?_
          replace hA := hA.moved hG4 (by have := hHeld.size; omega) (fun e => by have := (hR4 _ e.symm).1; omega)
          have hsz4 := hHeld.size
          replace hHeld := hHeld.moved hG4 (Nat.le_refl _) (fun k e => ⟨.inl (List.mem_cons_of_mem _ (by rw [← hVL]; simp [← hr4, e])), (hR4 k e).2⟩)
          refine hK.out _ _ hHeld (fun hHeld => ?_)
          clear hK K
          try simp only [c18a7, Act.put, List.setIfInBounds_toArray, List.set_cons_zero, List.set_cons_succ]
          refine wpAnyH_ready (rs := [8]) (by kernel_rfl) (by simp) ?_
          refine AllReadyH.cons (o := c18a8) rfl (fun K hK => ?_) AllReadyH.nil
          rw [if_pos (by rfl)]
          have f1 := hA.cell (i := 0) rfl
          have f2 := hA.frozen (i := 0) (by simp)
          have hS5 := hHeld.set (Nat.le_refl _) List.mem_cons_self hA (by simp) 0 (.slice (some ⟨g4, 0, none⟩) (c0 + 1) p4)
          unfold c18a8
          go_simp
          refine hK.out _ _ hS5 (fun hHeld => ?_)
          clear hK K
          try simp only [c18a8, Act.put]
          refine wpAnyH_done (by kernel_rfl) ?_ _
          refine hKR _ _ ?_
          have HT1 : Hid (Below w.heap.size w (W4.setCell ⟨w.heap.size, 0, none⟩ (.slice (some ⟨g4, 0, none⟩) (c0 + 1) p4))) := Lib.hid (H11.out.trans (hHeld.below (by omega) HLS.out))
          have HT2 : Hid (w5.heap.size ≤ (W4.setCell ⟨w.heap.size, 0, none⟩ (.slice (some ⟨g4, 0, none⟩) (c0 + 1) p4)).heap.size) := Lib.hid (by have := hHeld.size; omega)
          have HT3 : Hid (KeepsFrom w5.heap.size W (W4.setCell ⟨w.heap.size, 0, none⟩ (.slice (some ⟨g4, 0, none⟩) (c0 + 1) p4))) := Lib.hid (HK1.out.trans (hHeld.keeps _))
          have HT4 : Hid (Arr (W4.setCell ⟨w.heap.size, 0, none⟩ (.slice (some ⟨g4, 0, none⟩) (c0 + 1) p4)) w.heap.size [.slice (some ⟨g4, 0, none⟩) (c0 + 1) p4]) := Lib.hid (hA.set 0 _)
          have HT5 : Hid ((W4.setCell ⟨w.heap.size, 0, none⟩ (.slice (some ⟨g4, 0, none⟩) (c0 + 1) p4)).ownsRow w5.heap.size 30 32 (.slice (some ⟨g4, 0, none⟩) (c0 + 1) p4) c1 (flat (mpathk F i (k + 1)))) := Lib.hid (by rw [HFD.out, HCN.out]; exact own_grown hO4 (grown_setCell 0 _) (fun k e => by cases e; omega))
          have HT6 : Hid (Arr (W4.setCell ⟨w.heap.size, 0, none⟩ (.slice (some ⟨g4, 0, none⟩) (c0 + 1) p4)) W2.heap.size [.slice (some ⟨pb, 0, none⟩) (msz m k) up]) := Lib.hid (hHeld.arr HA6.out (by omega) HN6.out)
          have HT7 : Hid ((W4.setCell ⟨w.heap.size, 0, none⟩ (.slice (some ⟨g4, 0, none⟩) (c0 + 1) p4)).ownsRow (w.heap.size + 1) 30 32 (.slice (some ⟨pb, 0, none⟩) (msz m k) up) (msz m k) (flat (rowAt F k))) := Lib.hid (hHeld.row HR1.out HRW.out)
          have HT8 : Hid True := Lib.hid trivial
          obtain ⟨WX, hWX⟩ : ∃ X, W4.setCell ⟨w.heap.size, 0, none⟩ (.slice (some ⟨g4, 0, none⟩) (c0 + 1) p4) = X := ⟨_, rfl⟩
          rw [hWX] at HT1 HT2 HT3 HT4 HT5 HT6 HT7 ⊢
          clear hWX hS5 hHeld hA hO hO4 hG4 hR4 hr4 hv4 hrun4 hr3 hG3 hB3 hB2 f1 f2
          rw [← HMC.out] at HT5
          have hDG := own_digs' HT7.out (by rw [rowAt_len, HFM.out]) (rowAt_32 HF32.out k)
          have HNX := Lib.hid (nextRow_own _ _ (rowAt F k) hDG (by rw [rowAt_len, HFM.out]; omega) (HT.out.below HT1.out h0) (by have := HT1.out.size; omega))
          have c6 := HT6.out.cell (i := 0) rfl
          clear hDG
          gi_wp2_with fail
          refine ⟨trivial, ?_⟩
          refine ((callsIn_wide.2 HNX.out).inRound lp).mono ?_
          rintro e WY ⟨u', rfl, hU', hbY⟩
          rw [nexts_len, rowAt_len, HFM.out] at hU'
          obtain ⟨gu', pu', rfl⟩ := own_head hU' (by have := hmz1; show 0 < (msz m k + 1) / 2; omega)
          have hsY := hbY.size
          have hXn := HT2.out
          have hA6 := HT6.out.below hbY (by omega)
          have c7 := hA6.cell (i := 0) rfl
          have f7 := hA6.frozen (i := 0) (by simp)
          have hv5 := fun g (h : (Value.slice (some ⟨g4, 0, none⟩) (c0 + 1) p4).ownBlock = some g) => (HT5.out.lt g h).2
          have hu5 := fun g h => (hU'.lt g h).1
          have HFIN : Hid (KeepsFrom w5.heap.size W (WY.setCell ⟨W2.heap.size, 0, none⟩ (.slice (some ⟨gu', 0, none⟩) ((msz m k + 1) / 2) pu')) ∧ PrvI w w5.heap.size W2.heap.size i m F (k + 1) (WY.setCell ⟨W2.heap.size, 0, none⟩ (.slice (some ⟨gu', 0, none⟩) ((msz m k + 1) / 2) pu')) (Value.slice (some ⟨g4, 0, none⟩) (c0 + 1) p4) (.slice (some ⟨gu', 0, none⟩) ((msz m k + 1) / 2) pu')) := Lib.hid (by
            refine ⟨(HT3.out.trans (KK.of hbY)).trans ((KeepsOthers.setCell _ _ _).from _), (HT1.out.trans (hbY.mono HT1.out.size)).setCell (by show w.heap.size ≤ W2.heap.size; omega) _, by simp; omega, (HT4.out.below hbY (by omega)).other (by omega) 0 _, own_grown (own_after hbY HT5.out) (grown_setCell 0 _) (fun k e => by cases e; omega), hA6.set 0 _, ?_, ?_⟩
            · exact own_base (own_grown hU' (grown_setCell 0 _) (fun k e => by cases e; omega)) (by omega)
            · intro g h1 h2
              have := hu5 g h1
              have := hv5 g h2
              omega)
          clear hU' hbY hA6 hv5 hu5 HT1 HT2 HT3 HT4 HT5 HT6 HT7 HT8 c6 HNX
          gi_wp2_with fail
          exact ⟨HFIN.out.1, trivial, _, _, HFIN.out.2⟩

set_option maxRecDepth 100000 in
set_option maxHeartbeats 4000000 in
theorem prove_arg (w : World) (v : Value) (n : Nat) (i : Int) (hv : ∃ a c, v = .slice a n c) (h : leafOk n i = false) :
    Calls Tryd.prog 18 #[v, .int .i64 i] w fun e w' => e = .returned (.tuple #[.slice none 0 0, .int .i64 1]) ∧ Below w.heap.size w w' := by
  obtain ⟨va, vc, rfl⟩ := hv
  have HLF : Hid (∀ W, Calls Tryd.prog 42 #[.int .i64 n, .int .i64 i] W fun e w' => e = .returned (.bool false) ∧ w' = W) := Lib.hid fun W => by
    have h2 := isLeaf_any W n i
    unfold leafOk at h
    rw [h] at h2
    exact h2
  clear h
  go_enter Tryd.func18, Tryd.ntmps18
  go_wp2_with fail
  refine (HLF.out _).mono ?_
  rintro e w1 ⟨rfl, rfl⟩
  go_wp2
  go_returns
  exact ⟨rfl, by go_grown⟩
/-- The value that Prove returns. -/
theorem prove_any (w : World) (v : Value) (l : List (List UInt8)) (i : Int) (hv : BRows w w.heap.size v l) (hb : ∀ b ∈ l, b.length ≤ 80000000) (hT : Tab w) (h0 : 0 < w.heap.size) :
    Calls Tryd.prog 18 #[v, .int .i64 i] w fun e w' => ∃ v', Digs w' w'.heap.size v' (if leafOk l.length i then mpath (firsts l) i.toNat else []) ∧ e = .returned (.tuple #[v', .int .i64 (if leafOk l.length i then 0 else 1)]) ∧ Below w.heap.size w w' := by
  by_cases h : leafOk l.length i = false
  · simp only [h, Bool.false_eq_true, if_false]
    refine (prove_arg w v l.length i (by obtain ⟨a, c, rfl, _⟩ := hv; exact ⟨a, c, rfl⟩) h).mono ?_
    rintro e w' ⟨rfl, hb'⟩
    exact ⟨_, ⟨fun d hd => (by cases hd), none, 0, rfl, Nat.le_refl _, by unfold maxLen; omega, .inl rfl⟩, rfl, hb'⟩
  · have h2 : leafOk l.length i = true := by simpa using h
    simp only [h2, if_true]
    unfold leafOk at h2
    simp only [Bool.and_eq_true, decide_eq_true_eq] at h2
    obtain ⟨h3, h4, h5⟩ := h2
    obtain ⟨j, rfl⟩ := Int.eq_ofNat_of_zero_le h4
    refine (prove_ok w v l j hv hb (by omega) (by omega) hT h0).mono ?_
    rintro e w' ⟨v', rfl, hd, hb'⟩
    exact ⟨v', hd, rfl, hb'⟩
end Go.Proofs.YtfmngeemhfpeiaaDoor
