/- Cut of links of which none is cut; Cut that is refused. -/
import Derived.Test.YtjancbjjeemedaaOth
import Derived.Test.YtjancbjjeemedaaNil
import Derived.Test.YtjancbjjeemedaaSend
namespace Go.Proofs.Ytjancbjjeemedaa
open Go.RowKit Go.Shelf
attribute [local go_sem] Oper.semAt_some

theorem oth_stops (n : Nat) (hn : 1 ≤ n) (Bs Cs n₀ cap : Nat) (a : Option Addr) (hBs : Bs < n₀) (w : World) (hn₀ : n₀ ≤ w.heap.size) (hs : w.cell? ⟨Bs, 0, none⟩ = some (.slice a 0 cap)) :
    SeqStopsK Fence.wide n Try.prog 48 #[.pointer (some ⟨Bs, 0, none⟩), .pointer (some ⟨Cs, 0, none⟩)] (fun _ : Nat => #[.agg #[.int .i64 0, .int .i64 0]]) (Below n₀) (fun ys => ys = []) (fun _ => False) 0 w :=
  fun l J Jx W hW hJ _ hY h0 => by
    have hs' := (hW.cell (p := ⟨Bs, 0, none⟩) (by show Bs < _; omega)).trans hs
    exact oth0_in n hn l Bs Cs n₀ cap a hBs J Jx W hs' h0
def OInv (w8 : World) (_ : List Nat) (W : World) : Prop := Below w8.heap.size w8 W
theorem oinv_own {w8 : World} : OwnFrom w8.heap.size (OInv w8) := by
  rintro pre W W' row h3 hg hr
  have := Below.size h3
  exact Below.grown h3 hg this (fun k e => (hr k e).1)

theorem AAt.put {W : World} {B D : Nat} {x : List Deferred} {v : Value} {l : List (Int × Int)} (h : AAt W B v l) (hK : W.heap[D]? = some (.deferred (some x))) : AAt (W.putObj D (.deferred none)) B v l := by
  obtain ⟨a, c, rfl, h1, h2, h3⟩ := h
  refine ⟨a, c, rfl, h1, h2, h3.imp id ?_⟩
  rintro ⟨b, off, rfl, hb, hi⟩
  exact ⟨b, off, rfl, hb, fun i h => ⟨(hi i h).1, cell_kept (hi i h).2.1 (grownBy_putObj' _ _ _) (fun r e => by cases e; exact ⟨_, hK, rfl⟩), cell_kept (hi i h).2.2 (grownBy_putObj' _ _ _) (fun r e => by cases e; exact ⟨_, hK, rfl⟩)⟩⟩
theorem AAt.far {W : World} {B g i b0 o0 n c : Nat} {l : List (Int × Int)} (h : AAt W B (.slice (some ⟨b0, o0, none⟩) n c) l) (hg : b0 ≠ g) (u : Value) : AAt (W.setCell ⟨g, i, none⟩ u) B (.slice (some ⟨b0, o0, none⟩) n c) l := by
  obtain ⟨a, c', h0, h1, h2, h3⟩ := h
  injection h0 with ha hn hc
  refine ⟨a, c', by rw [ha, hn, hc], h1, h2, h3.imp id ?_⟩
  rintro ⟨b, off, rfl, hb, hi⟩
  injection ha with ha
  injection ha with ha
  subst ha
  exact ⟨b0, off, rfl, hb, fun i h => ⟨(hi i h).1, (cell_apart hg u).trans (hi i h).2.1, (cell_apart hg u).trans (hi i h).2.2⟩⟩

set_option maxRecDepth 100000 in
set_option maxHeartbeats 8000000 in
theorem cut_first (w : World) (v : Value) (n : Nt) (h : NtAt w w.heap.size v n) (hok : n.ok = true) (hap : n.ap = []) (a b : Int) (hab : okPair a b = true) (hin : In64 (lo2 a b) ∧ In64 (hi2 a b)) :
    Calls Try.prog 18 #[v, .int .i64 a, .int .i64 b, .bool true] w fun e w' => ∃ v', e = .returned (.tuple #[v', .int .i64 0]) ∧ NtAt w' w'.heap.size v' ⟨n.q, [(lo2 a b, hi2 a b)]⟩ ∧ Below w.heap.size w w' := by
  have H := Lib.hid h
  obtain ⟨qa, qc, aa, ac, rfl, l1, l2, l3, l4, hq, ha⟩ := h.open
  have hz : n.ap.length = 0 := by rw [hap]; rfl
  rw [hz] at H ⊢
  have HQ := Lib.hid hq
  obtain ⟨N, hN⟩ : ∃ x, n.q.length = x := ⟨_, rfl⟩
  have HN := Lib.hid hN
  rw [hN] at H HQ ⊢
  have hck := fun W (hW : Below w.heap.size w W) => chk_any W _ n (H.out.next hW)
  rw [hok, if_pos rfl] at hck
  have hpa := fun W => par_any W a b
  rw [hab] at hpa
  have hlk := fun W => link_any W a b
  obtain ⟨lo, hlo⟩ : ∃ x, lo2 a b = x := ⟨_, rfl⟩
  obtain ⟨hh, hhi⟩ : ∃ x, hi2 a b = x := ⟨_, rfl⟩
  rw [hlo, hhi] at hlk hin ⊢
  have HCK := Lib.hid hck
  have HPA := Lib.hid hpa
  have HLK := Lib.hid hlk
  have HIN := Lib.hid hin
  clear h hok hap hab hz hq ha hN hck hpa hlk hlo hhi hin
  refine (callsIn_wide (n := 9)).1 ?_
  refine callsIn_of_wp_marks Try.func18 rfl trivial ?_ rfl
  simp only [Try.ntmps18, List.size_toArray, List.length_cons, List.length_nil, Nat.reduceAdd, Nat.reduceSub, Array.replicate_succ, Array.replicate_zero, List.push_toArray, List.append_toArray, List.nil_append, List.cons_append]
  obtain ⟨X0, hX0⟩ : ∃ X, X = w.alloc (Obj.cells #[.slice qa N qc, .slice aa 0 ac] 25) := ⟨_, rfl⟩
  obtain ⟨w3, hw3⟩ : ∃ X, X = X0.alloc (Obj.cells #[.slice none 0 0, .slice none 0 0] 25) := ⟨_, rfl⟩
  have hz0 : X0.heap.size = w.heap.size + 1 := by rw [hX0, World.size_alloc]
  have hz3 : w3.heap.size = w.heap.size + 1 + 1 := by rw [hw3, World.size_alloc, hz0]
  have hb3 : Below w.heap.size w w3 := by rw [hw3, hX0]; go_grown
  have A0 : Arr w3 w.heap.size [.slice qa N qc, .slice aa 0 ac] := by
    have h1 : Arr X0 w.heap.size [.slice qa N qc, .slice aa 0 ac] := by rw [hX0]; exact Arr.new w #[.slice qa N qc, .slice aa 0 ac] 25
    rw [hw3]
    exact h1.alloc (by omega) _
  have A1 : Arr w3 (w.heap.size + 1) [.slice none 0 0, .slice none 0 0] := by
    rw [hw3, ← hz0]; exact Arr.new X0 #[.slice none 0 0, .slice none 0 0] 25
  have HW3 : Hid ((w.alloc (Obj.cells #[.slice qa N qc, .slice aa 0 ac] 25)).alloc (Obj.cells #[.slice none 0 0, .slice none 0 0] 25) = w3) := Lib.hid (by rw [hw3, hX0])
  have HA0 := Lib.hid A0
  have HA1 := Lib.hid A1
  have HB3 := Lib.hid hb3
  clear hX0 hw3 hz0 hb3 A0 A1
  gi_wp2_with fail
  rw [HW3.out]
  refine ⟨trivial, ?_⟩
  refine (callsIn_wide.2 (HCK.out w3 HB3.out)).mono ?_
  rintro e w4 ⟨rfl, hb4⟩
  have HB4 := Lib.hid hb4
  clear hb4
  gi_wp2_with fail
  refine ⟨trivial, ?_⟩
  refine (callsIn_wide.2 (HPA.out w4)).mono ?_
  rintro e w4 ⟨rfl, rfl⟩
  gi_wp2_with fail
  refine ⟨trivial, ?_⟩
  refine (callsIn_wide.2 (HLK.out w4)).mono ?_
  rintro e w5 ⟨rfl, hb5⟩
  have h35 : Below w3.heap.size w3 w5 := HB4.out.trans (hb5.mono HB4.out.size)
  have hs35 := h35.size
  obtain ⟨w6, hw6⟩ : ∃ X, X = w5.alloc (Obj.cells #[.int .i64 lo, .int .i64 hh] 55) := ⟨_, rfl⟩
  obtain ⟨w7, hw7⟩ : ∃ X, X = w6.alloc (Obj.cells #[.slice none 0 0] 23) := ⟨_, rfl⟩
  have hz6 : w6.heap.size = w5.heap.size + 1 := by rw [hw6, World.size_alloc]
  have hz7 : w7.heap.size = w5.heap.size + 1 + 1 := by rw [hw7, World.size_alloc, hz6]
  have h57 : Below w5.heap.size w5 w7 := by rw [hw7, hw6]; go_grown
  have A2 : Arr w7 w5.heap.size [.int .i64 lo, .int .i64 hh] := by
    have h1 : Arr w6 w5.heap.size [.int .i64 lo, .int .i64 hh] := by rw [hw6]; exact Arr.new w5 #[.int .i64 lo, .int .i64 hh] 55
    rw [hw7]
    exact h1.alloc (by omega) _
  have A3 : Arr w7 (w5.heap.size + 1) [.slice none 0 0] := by
    rw [hw7, ← hz6]; exact Arr.new w6 #[.slice none 0 0] 23
  have h37 : Below w3.heap.size w3 w7 := h35.trans (h57.mono hs35)
  have B0 : Arr w7 w.heap.size [.slice qa N qc, .slice aa 0 ac] := HA0.out.below h37 (by omega)
  have B1 : Arr w7 (w.heap.size + 1) [.slice none 0 0, .slice none 0 0] := HA1.out.below h37 (by omega)
  have HW7 : Hid ((w5.alloc (Obj.cells #[.int .i64 lo, .int .i64 hh] 55)).alloc (Obj.cells #[.slice none 0 0] 23) = w7) := Lib.hid (by rw [hw7, hw6])
  have c01 : w7.cell? ⟨w.heap.size, 1, none⟩ = some (.slice aa 0 ac) := B0.cell rfl
  have c20 : w7.cell? ⟨w5.heap.size, 0, none⟩ = some (.int .i64 lo) := A2.cell rfl
  have c21 : w7.cell? ⟨w5.heap.size, 1, none⟩ = some (.int .i64 hh) := A2.cell rfl
  have d01 : ((w5.alloc (Obj.cells #[.int .i64 lo, .int .i64 hh] 55)).alloc (Obj.cells #[.slice none 0 0] 23)).cell? ⟨w.heap.size, 1, none⟩ = some (.slice aa 0 ac) := by rw [HW7.out]; exact c01
  have HB0 := Lib.hid B0
  have HB1 := Lib.hid B1
  have HA2 := Lib.hid A2
  have HA3 := Lib.hid A3
  have H37 := Lib.hid h37
  have HB7 : Hid (Below w.heap.size w w7) := Lib.hid (HB3.out.trans (h37.mono HB3.out.size))
  clear hb5 h35 hw6 hw7 h57 A2 A3 h37 B0 B1 hz6
  gi_wp2_with fail
  rw [HW7.out]
  refine ⟨trivial, ?_⟩
  refine (callsIn_wide.2 (others_any w7 aa 0 ac lo hh)).mono ?_
  rintro e w8 ⟨rfl, hs8, hb8, hz8⟩
  have HB8 := Lib.hid hb8
  have HS8 := Lib.hid hs8
  obtain ⟨g2, hg2⟩ : ∃ g, w5.heap.size = g := ⟨_, rfl⟩
  obtain ⟨g4, hg4⟩ : ∃ g, w7.heap.size = g := ⟨_, rfl⟩
  have HG2 := Lib.hid hg2
  have HG4 := Lib.hid hg4
  rw [hg2] at HA2 HA3 hz7 hs35
  rw [hg4] at HS8 hz8 hz7
  clear hb8 hs8 c01 c20 c21 d01 hg2 hg4
  gi_wp2_with fail
  rw [HG2.out, HG4.out]
  refine wpIn_rangeFunc_ownH rfl (by omega) (gf := 48) (lb := #[.pointer (some ⟨g4, 0, none⟩), .pointer (some ⟨g4 + 1, 0, none⟩)]) rfl trivial (enters_of Try.func48 (by kernel_rfl) rfl)
    (oth_stops 8 (by omega) g4 (g4 + 1) w8.heap.size ac aa (by omega) w8 (Nat.le_refl _) HS8.out)
    Below.trans (belowK_b (Nat.le_refl _)) (Below.refl _ _) (fun _ => rfl)
    (OInv w8) (fun _ _ _ => False) oinv_own (fun _ => by rintro _ _ _ _ h; exact absurd h id) (Below.refl _ _)
    (fun _ _ _ => True) ?hax ?assign ?body ?done ?stop
  case hax =>
    rintro x a' u W W' row _ hg hr
    trivial
  case assign =>
    intro l pre x W K hI hK
    have HI := Lib.hid hI
    have HKK := Lib.hid hK
    clear hI hK
    gi_wp2
    have hsz := Below.size HI.out
    exact HKK.out _ _ ((KeepsOthers.alloc W _).from _) ((Below.refl _ _).alloc hsz _) (Below.alloc HI.out hsz _) trivial
  case body =>
    intro l pre x a' W _ _ _ _ hlen
    exact absurd hlen (Nat.not_lt_zero _)
  case stop =>
    intro D c pre W _ hf
    exact absurd hf id
  case done =>
    rintro D ys W hD rfl hI hK
    have hI : Below w8.heap.size w8 W := hI
    have hD : w8.heap.size ≤ D := hD
    have h7W : Below w7.heap.size w7 W := HB8.out.trans (hI.mono HB8.out.size)
    have hg4 := HG4.out
    have hsW := hI.size
    have B2 : Arr W g2 [.int .i64 lo, .int .i64 hh] := HA2.out.below h7W (by omega)
    have B3 : Arr W (g2 + 1) [.slice none 0 0] := HA3.out.below h7W (by omega)
    have c20 : W.cell? ⟨g2, 0, none⟩ = some (.int .i64 lo) := B2.cell rfl
    have c21 : W.cell? ⟨g2, 1, none⟩ = some (.int .i64 hh) := B2.cell rfl
    have c30 : W.cell? ⟨g2 + 1, 0, none⟩ = some (.slice none 0 0) := B3.cell rfl
    have HI := Lib.hid hI
    have HK := Lib.hid hK
    have H7W := Lib.hid h7W
    clear hI hK h7W B2 B3
    gi_wp2_with fail
    refine ⟨trivial, ?_⟩
    refine (callsIn_wide.2 (bsf_nil W lo hh _)).mono ?_
    rintro e W1 ⟨rfl, hb1⟩
    have hs1 := hb1.size
    have hDW : D < W.heap.size := by
      have := (Array.getElem?_eq_some_iff.1 HK.out).1
      exact this
    have hK1 : W1.heap[D]? = some (.deferred (some [])) := (hb1.block D hDW).trans HK.out
    have h71 : Below w7.heap.size w7 W1 := H7W.out.trans (hb1.mono H7W.out.size)
    have B2 : Arr W1 g2 [.int .i64 lo, .int .i64 hh] := HA2.out.below h71 (by omega)
    have B3 : Arr W1 (g2 + 1) [.slice none 0 0] := HA3.out.below h71 (by omega)
    have e20 : W1.cell? ⟨g2, 0, none⟩ = some (.int .i64 lo) := B2.cell rfl
    have e21 : W1.cell? ⟨g2, 1, none⟩ = some (.int .i64 hh) := B2.cell rfl
    have e30 : W1.cell? ⟨g2 + 1, 0, none⟩ = some (.slice none 0 0) := B3.cell rfl
    obtain ⟨W2, hW2⟩ : ∃ X, X = W1.alloc (Obj.cells #[.int .i64 lo, .int .i64 hh] 55) := ⟨_, rfl⟩
    have hz2 : W2.heap.size = W1.heap.size + 1 := by rw [hW2, World.size_alloc]
    have A5 : Arr W2 W1.heap.size [.int .i64 lo, .int .i64 hh] := by rw [hW2]; exact Arr.new W1 #[.int .i64 lo, .int .i64 hh] 55
    have h12 : Below W1.heap.size W1 W2 := by rw [hW2]; exact (Below.refl _ _).alloc (Nat.le_refl _) _
    have HW2 := Lib.hid hW2
    have HK1 := Lib.hid hK1
    have H71 := Lib.hid h71
    have H12 := Lib.hid h12
    have HINS := Lib.hid (insert_nil W2 W1.heap.size lo hh HIN.out (A5.cell rfl) (A5.cell rfl))
    clear hb1 hK1 h71 B2 B3 hW2 A5 h12 c20 c21 c30
    gi_wp2_with fail
    rw [← HW2.out]
    refine ⟨trivial, ?_⟩
    refine (callsIn_wide.2 HINS.out).mono ?_
    rintro e W3 ⟨vc, rfl, hat, hb3⟩
    have h73 : Below w7.heap.size w7 W3 := H71.out.trans ((H12.out.trans (hb3.mono H12.out.size)).mono H71.out.size)
    have hK3 : W3.heap[D]? = some (.deferred (some [])) := ((H12.out.trans (hb3.mono H12.out.size)).block D (by omega)).trans HK1.out
    obtain ⟨V, hV⟩ : ∃ x, (some ⟨W2.heap.size, 0, none⟩ : Option Addr) = x := ⟨_, rfl⟩
    rw [hV] at hat ⊢
    have C0 : Arr W3 w.heap.size [.slice qa N qc, .slice aa 0 ac] := HB0.out.below h73 (by omega)
    have C1 : Arr W3 (w.heap.size + 1) [.slice none 0 0, .slice none 0 0] := HB1.out.below h73 (by omega)
    have C3 : Arr W3 (g2 + 1) [.slice none 0 0] := HA3.out.below h73 (by omega)
    have k30 : W3.cell? ⟨g2 + 1, 0, none⟩ = some (.slice none 0 0) := C3.cell rfl
    have D0 : Arr (W3.setCell ⟨g2 + 1, 0, none⟩ (.slice V 1 vc)) w.heap.size [.slice qa N qc, .slice aa 0 ac] := C0.other (by omega) 0 _
    have D1 : Arr (W3.setCell ⟨g2 + 1, 0, none⟩ (.slice V 1 vc)) (w.heap.size + 1) [.slice none 0 0, .slice none 0 0] := C1.other (by omega) 0 _
    have E0 : Arr ((W3.setCell ⟨g2 + 1, 0, none⟩ (.slice V 1 vc)).setCell ⟨w.heap.size, 1, none⟩ (.slice V 1 vc)) w.heap.size [.slice qa N qc, .slice V 1 vc] := D0.set 1 _
    have E1 : Arr ((W3.setCell ⟨g2 + 1, 0, none⟩ (.slice V 1 vc)).setCell ⟨w.heap.size, 1, none⟩ (.slice V 1 vc)) (w.heap.size + 1) [.slice none 0 0, .slice none 0 0] := D1.other (by omega) 1 _
    have F1 : Arr ((((W3.setCell ⟨g2 + 1, 0, none⟩ (.slice V 1 vc)).setCell ⟨w.heap.size, 1, none⟩ (.slice V 1 vc)).setCell ⟨w.heap.size + 1, 0, none⟩ (.slice qa N qc)).setCell ⟨w.heap.size + 1, 1, none⟩ (.slice V 1 vc)) (w.heap.size + 1) [.slice qa N qc, .slice V 1 vc] := (E1.set 0 (.slice qa N qc)).set 1 (.slice V 1 vc)
    have x3 : (W3.setCell ⟨g2 + 1, 0, none⟩ (.slice V 1 vc)).cell? ⟨g2 + 1, 0, none⟩ = some (.slice V 1 vc) := (C3.set 0 (.slice V 1 vc)).cell rfl
    have x01 : (W3.setCell ⟨g2 + 1, 0, none⟩ (.slice V 1 vc)).cell? ⟨w.heap.size, 1, none⟩ = some (.slice aa 0 ac) := D0.cell rfl
    have y00 : ((W3.setCell ⟨g2 + 1, 0, none⟩ (.slice V 1 vc)).setCell ⟨w.heap.size, 1, none⟩ (.slice V 1 vc)).cell? ⟨w.heap.size, 0, none⟩ = some (.slice qa N qc) := E0.cell rfl
    have y01 : ((W3.setCell ⟨g2 + 1, 0, none⟩ (.slice V 1 vc)).setCell ⟨w.heap.size, 1, none⟩ (.slice V 1 vc)).cell? ⟨w.heap.size, 1, none⟩ = some (.slice V 1 vc) := E0.cell rfl
    have y10 : ((W3.setCell ⟨g2 + 1, 0, none⟩ (.slice V 1 vc)).setCell ⟨w.heap.size, 1, none⟩ (.slice V 1 vc)).cell? ⟨w.heap.size + 1, 0, none⟩ = some (.slice none 0 0) := E1.cell rfl
    have y11 : ((W3.setCell ⟨g2 + 1, 0, none⟩ (.slice V 1 vc)).setCell ⟨w.heap.size, 1, none⟩ (.slice V 1 vc)).cell? ⟨w.heap.size + 1, 1, none⟩ = some (.slice none 0 0) := E1.cell rfl
    have z10 : ((((W3.setCell ⟨g2 + 1, 0, none⟩ (.slice V 1 vc)).setCell ⟨w.heap.size, 1, none⟩ (.slice V 1 vc)).setCell ⟨w.heap.size + 1, 0, none⟩ (.slice qa N qc)).setCell ⟨w.heap.size + 1, 1, none⟩ (.slice V 1 vc)).cell? ⟨w.heap.size + 1, 0, none⟩ = some (.slice qa N qc) := F1.cell rfl
    have z11 : ((((W3.setCell ⟨g2 + 1, 0, none⟩ (.slice V 1 vc)).setCell ⟨w.heap.size, 1, none⟩ (.slice V 1 vc)).setCell ⟨w.heap.size + 1, 0, none⟩ (.slice qa N qc)).setCell ⟨w.heap.size + 1, 1, none⟩ (.slice V 1 vc)).cell? ⟨w.heap.size + 1, 1, none⟩ = some (.slice V 1 vc) := F1.cell rfl
    have f30 : W3.frozen? ⟨g2 + 1, 0, none⟩ = false := C3.frozen (by simp)
    have f01 : (W3.setCell ⟨g2 + 1, 0, none⟩ (.slice V 1 vc)).frozen? ⟨w.heap.size, 1, none⟩ = false := D0.frozen (by simp)
    have f10 : ((W3.setCell ⟨g2 + 1, 0, none⟩ (.slice V 1 vc)).setCell ⟨w.heap.size, 1, none⟩ (.slice V 1 vc)).frozen? ⟨w.heap.size + 1, 0, none⟩ = false := E1.frozen (by simp)
    have f11 : ((W3.setCell ⟨g2 + 1, 0, none⟩ (.slice V 1 vc)).setCell ⟨w.heap.size, 1, none⟩ (.slice V 1 vc)).frozen? ⟨w.heap.size + 1, 1, none⟩ = false := E1.frozen (by simp)
    have f21 : (((W3.setCell ⟨g2 + 1, 0, none⟩ (.slice V 1 vc)).setCell ⟨w.heap.size, 1, none⟩ (.slice V 1 vc)).setCell ⟨w.heap.size + 1, 0, none⟩ (.slice qa N qc)).frozen? ⟨w.heap.size + 1, 1, none⟩ = false := (E1.set 0 _).frozen (by simp)
    have g01 : W3.frozen? ⟨w.heap.size, 1, none⟩ = false := C0.frozen (by simp)
    have g10 : W3.frozen? ⟨w.heap.size + 1, 0, none⟩ = false := C1.frozen (by simp)
    have g11 : W3.frozen? ⟨w.heap.size + 1, 1, none⟩ = false := C1.frozen (by simp)
    have n1 : w.heap.size ≠ g2 + 1 := by omega
    have n2 : w.heap.size + 1 ≠ g2 + 1 := by omega
    have hs3 := hb3.size
    have hw3 : Below w.heap.size w W3 := HB7.out.trans (h73.mono (by have := HB7.out.size; omega))
    have HAF : Hid (AAt ((((W3.setCell ⟨g2 + 1, 0, none⟩ (.slice V 1 vc)).setCell ⟨w.heap.size, 1, none⟩ (.slice V 1 vc)).setCell ⟨w.heap.size + 1, 0, none⟩ (.slice qa N qc)).setCell ⟨w.heap.size + 1, 1, none⟩ (.slice V 1 vc)) W3.heap.size (.slice V 1 vc) [(lo, hh)]) := Lib.hid (by
      subst hV
      exact (((hat.far (by omega) _).far (by omega) _).far (by omega) _).far (by omega) _)
    have HKF : Hid (((((W3.setCell ⟨g2 + 1, 0, none⟩ (.slice V 1 vc)).setCell ⟨w.heap.size, 1, none⟩ (.slice V 1 vc)).setCell ⟨w.heap.size + 1, 0, none⟩ (.slice qa N qc)).setCell ⟨w.heap.size + 1, 1, none⟩ (.slice V 1 vc)).heap[D]? = some (.deferred (some []))) := Lib.hid ((KeepsOthers.setCell _ _ _).same D _ ((KeepsOthers.setCell _ _ _).same D _ ((KeepsOthers.setCell _ _ _).same D _ ((KeepsOthers.setCell _ _ _).same D _ hK3 rfl) rfl) rfl) rfl)
    have HBF : Hid (Below w.heap.size w ((((W3.setCell ⟨g2 + 1, 0, none⟩ (.slice V 1 vc)).setCell ⟨w.heap.size, 1, none⟩ (.slice V 1 vc)).setCell ⟨w.heap.size + 1, 0, none⟩ (.slice qa N qc)).setCell ⟨w.heap.size + 1, 1, none⟩ (.slice V 1 vc))) := Lib.hid ((((hw3.setCell (p := ⟨g2 + 1, 0, none⟩) (by show w.heap.size ≤ g2 + 1; omega) _).setCell (p := ⟨w.heap.size, 1, none⟩) (Nat.le_refl _) _).setCell (p := ⟨w.heap.size + 1, 0, none⟩) (by show w.heap.size ≤ w.heap.size + 1; omega) _).setCell (p := ⟨w.heap.size + 1, 1, none⟩) (by show w.heap.size ≤ w.heap.size + 1; omega) _)
    have H73 := Lib.hid h73
    have HK3 := Lib.hid hK3
    have HHAT := Lib.hid hat
    have HB33 := Lib.hid hb3
    have HZ2 := Lib.hid hz2
    have HV := Lib.hid hV
    clear h73 hK3 hat hb3 C0 C1 C3 hz2 e20 e21 e30 hV D0 D1 E0 E1 F1 n1 n2 hs3 hw3
    gi_wp2_with fail
    obtain ⟨WF, hWF⟩ : ∃ X, ((((W3.setCell ⟨g2 + 1, 0, none⟩ (.slice V 1 vc)).setCell ⟨w.heap.size, 1, none⟩ (.slice V 1 vc)).setCell ⟨w.heap.size + 1, 0, none⟩ (.slice qa N qc)).setCell ⟨w.heap.size + 1, 1, none⟩ (.slice V 1 vc)) = X := ⟨_, rfl⟩
    rw [hWF] at z10 z11 ⊢
    have hAF := HAF.out
    have hKF := HKF.out
    have hBF := HBF.out
    rw [hWF] at hAF hKF hBF
    have hzF : WF.heap.size = W3.heap.size := by rw [← hWF]; simp
    have hP := belowK_b (n₀ := w8.heap.size) (w := w8) (Nat.le_refl _) WF D _ (.deferred none) hD hKF rfl rfl
    have q10 := (hP.cell (p := ⟨w.heap.size + 1, 0, none⟩) (by show w.heap.size + 1 < _; omega)).trans z10
    have q11 := (hP.cell (p := ⟨w.heap.size + 1, 1, none⟩) (by show w.heap.size + 1 < _; omega)).trans z11
    have hBP := hBF.trans (hP.mono (by omega))
    refine ⟨by simp, .inl ⟨_, _, rfl, run_takeDeferred hKF, ?_⟩⟩
    refine ⟨.tuple #[.agg #[.slice qa N qc, .slice V 1 vc], .int .i64 0], by simp [results, Try.results18, go_sem, q10, q11], _, rfl, ?_, hBP⟩
    refine ⟨_, _, rfl, ?_, ?_⟩
    · exact (HQ.out.below hBP).mono hBP.size
    · exact (hAF.put hKF).mono (by rw [← hzF]; exact hP.size)
end Go.Proofs.Ytjancbjjeemedaa
