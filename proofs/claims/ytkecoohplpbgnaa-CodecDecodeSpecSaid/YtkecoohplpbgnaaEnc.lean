/- codec.Encode and codec.Size. -/
import Derived.Test.YtkecoohplpbgnaaWrite
import Derived.Laws.MakeOwn
namespace Go.Proofs.Ytkecoohplpbgnaa
open Go.RowKit

set_option maxHeartbeats 400000 in
theorem wrText (k n : Int) (s : ByteArray) (_hs : s.size ≤ maxLen) (a : Option Addr) (len cp : Nat) (w : World) (g m cap : Nat) (hc0 : 0 < cap) (l : List UInt8) (hsp : Spare w g m cap l) (hr : m + s.size ≤ cap) :
    Calls Try.prog 52 #[.slice (some ⟨g, 0, none⟩) m cap, .agg #[.int .i64 k, .int .i64 n, .string s, .slice a len cp]] w
      fun e w' => e = .returned (.slice (some ⟨g, 0, none⟩) (m + s.size) cap) ∧ Spare w' g (m + s.size) cap (l ++ s.data.toList) ∧ w.grownBy w' (some g) := by
  have HSP := Lib.hid hsp
  clear hsp
  obtain ⟨i0, hi, hz0, hz1, hz2⟩ := info_parts Try.info5
  go_enter Try.func52, Try.ntmps52
  go_wp2_with ((at_builtin; refine Lib.wpList_append_fits_string _ rfl (.tmp 5) (.tmp 7) 27 9 rfl 0 5 i0 Try.underlying27 Try.underlying9 hi hz1 (some ⟨g, 0, none⟩) m cap _ rfl (HSP.out.alloc _) s rfl hc0 hr ?_; intro w1 hown1 hgrow1))
  have HO := Lib.hid hown1
  clear hown1
  go_wp2
  go_ret
  refine ⟨rfl, ?_, gtrans (World.grownBy_alloc _ _ _) hgrow1⟩
  have := HO.out
  unfold Spare cells8 Lib.strCells at *
  rw [List.map_append]
  exact this

set_option maxHeartbeats 400000 in
theorem wrElems_0 (n : Int) (s : ByteArray) (a : Option Addr) (cp : Nat) (w : World) (g m cap : Nat) :
    Calls Try.prog 54 #[.slice (some ⟨g, 0, none⟩) m cap, .agg #[.int .i64 3, .int .i64 n, .string s, .slice a 0 cp]] w
      fun e w' => e = .returned (.slice (some ⟨g, 0, none⟩) m cap) ∧ Below w.heap.size w w' := by
  go_enter Try.func54, Try.ntmps54
  go_wp2
  go_rounds 1
  go_ret
  exact ⟨rfl, by go_grown⟩

set_option maxHeartbeats 800000 in
theorem wrElems_5 (n : Int) (s : ByteArray) (l : List V) (len : Nat) (hlen : l.length = len) (hfm : V.formeds l = true) (ih : ∀ x ∈ l, CWrite x) (b off cp : Nat) (w : World) (B : Nat) (hb : b < B) (hBw : B ≤ w.heap.size) (hcap : len ≤ cp) (hm : cp ≤ maxLen)
    (h : AtL w B l b off) (g m cap : Nat) (hBg : B ≤ g) (bs : List UInt8) (hsp : Spare w g m cap bs) (hr : m + (V.encs l).length ≤ cap) :
    Calls Try.prog 54 #[.slice (some ⟨g, 0, none⟩) m cap, .agg #[.int .i64 3, .int .i64 n, .string s, .slice (some ⟨b, off, none⟩) len cp]] w
      fun e w' => e = .returned (.slice (some ⟨g, 0, none⟩) (m + (V.encs l).length) cap) ∧ Spare w' g (m + (V.encs l).length) cap (bs ++ V.encs l) ∧ w.grownBy w' (some g) := by
  unfold maxLen at hm
  have HLEN := Lib.hid hlen; clear hlen
  have HF := Lib.hid hfm; clear hfm
  have HSP := Lib.hid hsp; clear hsp
  have HR := Lib.hid hr; clear hr
  have HG := Lib.hid HSP.out.lt
  go_enter Try.func54, Try.ntmps54
  go_wp2
  obtain ⟨w0, hw0⟩ : ∃ w0, w0 = (w.alloc (Obj.cells #[Value.int IntKind.i64 3, Value.int IntKind.i64 n, Value.string s, Value.slice (some ⟨b, off, none⟩) len cp] 24)) := ⟨_, rfl⟩
  rw [← hw0]
  have hw1 : w.grownBy w0 (some g) := by rw [hw0]; exact World.grownBy_alloc _ _ _
  have hsp0 : Spare w0 g m cap bs := by rw [hw0]; exact HSP.out.alloc _
  have HSP0 := Lib.hid hsp0
  clear hw0 hsp0
  go_loopw [0, 10] (fun d i wr => ∃ (j p : Nat) (cs : List UInt8), i = .int .i64 j ∧ d = .slice (some ⟨g, 0, none⟩) p cap ∧ j ≤ len ∧ m + (V.encs l).length = p + (V.encs (l.drop j)).length ∧ bs ++ V.encs l = cs ++ V.encs (l.drop j) ∧ V.formeds (l.drop j) = true ∧ Spare wr g p cap cs ∧ w.grownBy wr (some g)) (fun _ i _ => len - (intOf i).toNat)
  case atStart => exact ⟨0, m, bs, rfl, rfl, Nat.zero_le _, by simp, by simp, by simpa using HF.out, HSP0.out, hw1⟩
  case round =>
    obtain ⟨j, p, cs, rfl, rfl, hjle, hsm, hbs, hfo, hspr, hgr⟩ := hrel
    have HSM := Lib.hid hsm
    have HBS := Lib.hid hbs
    have HSR := Lib.hid hspr
    have hBr : Below B w wr := belowg hgr hBw hBg
    have hzr := hBr.size
    by_cases hlt : j < len
    · obtain ⟨k2, n2, s2, a2, ln, cp2, g0, g1, g2, g3, ga⟩ := AtL.got l b off j (by rw [HLEN.out]; exact hlt) (AtL.below hBr l b off hb h)
      have hdl : l.drop j = (l[j]'(by rw [HLEN.out]; exact hlt)) :: l.drop (j + 1) := List.drop_eq_getElem_cons (by rw [HLEN.out]; exact hlt)
      rw [hdl, V.formeds_cons, Bool.and_eq_true] at hfo
      rw [hdl, V.encs_cons, List.length_append] at hsm
      rw [hdl, V.encs_cons, ← List.append_assoc] at hbs
      have hrr := HR.out
      have hc : ∀ W, Below wr.heap.size wr W → Calls Try.prog 26 #[.slice (some ⟨g, 0, none⟩) p cap, .agg #[.int .i64 k2, .int .i64 n2, .string s2, .slice a2 ln cp2]] W
          fun e w' => e = .returned (.slice (some ⟨g, 0, none⟩) (p + (l[j]'(by rw [HLEN.out]; exact hlt)).enc.length) cap) ∧ Spare w' g (p + (l[j]'(by rw [HLEN.out]; exact hlt)).enc.length) cap (cs ++ (l[j]'(by rw [HLEN.out]; exact hlt)).enc) ∧ W.grownBy w' (some g) := by
        intro W hW
        exact ih _ (List.getElem_mem (by rw [HLEN.out]; exact hlt)) W B _ g p cap cs hfo.1 hBg (by have := hW.size; omega) (V.At.below (hW.mono (by omega)) _ _ ga) (HSR.out.below hW) (by omega)
      have hfo2 := hfo.2
      obtain ⟨r, hrq⟩ : ∃ r, (l[j]'(by rw [HLEN.out]; exact hlt)).enc = r := ⟨_, rfl⟩
      rw [hrq] at hc hsm hbs
      have HC := Lib.hid hc
      have HS2 := Lib.hid hsm
      have HB2 := Lib.hid hbs
      have HF3 := Lib.hid hfo2
      have HGR := Lib.hid hgr
      clear hc hrq h hdl hfo hsm hbs hfo2 ga HSM HBS HSR hspr hrr hgr
      go_wp2_with fail
      refine (HC.out _ (by go_grown)).mono ?_
      rintro e w3 ⟨rfl, hs3, hg3⟩
      have HS3 := Lib.hid hs3
      have HG3 := Lib.hid (gtrans HGR.out (gtrans (World.grownBy_alloc _ _ _) hg3))
      clear hs3 hg3
      go_wp2
      go_roundw
      case rel => exact ⟨j + 1, p + r.length, cs ++ r, by go_num, rfl, by omega, by rw [HS2.out]; omega, by rw [HB2.out], HF3.out, HS3.out, HG3.out⟩
      case measure => simp [intOf]; omega
    · have hje : j = len := by omega
      have hn : l.drop j = [] := by rw [hje]; exact List.drop_of_length_le (by rw [HLEN.out]; exact Nat.le_refl _)
      have hq : m + (V.encs l).length = p := by rw [HSM.out, hn, V.encs_nil]; simp
      have hq2 : bs ++ V.encs l = cs := by rw [HBS.out, hn, V.encs_nil]; simp
      have HQ := Lib.hid hq
      have HQ2 := Lib.hid hq2
      have HGR := Lib.hid hgr
      clear hq hq2 hn hje h hsm hbs hfo hspr hgr
      go_wp2
      go_ret
      exact ⟨by rw [HQ.out]; rfl, by rw [HQ.out, HQ2.out]; exact HSR.out, HGR.out⟩

theorem cWrite : ∀ (N : Nat) (x : V), SizeOf.sizeOf x ≤ N → CWrite x
  | 0, ⟨k, n, s, l⟩, h => by simp at h
  | N + 1, ⟨k, n, s, l⟩, h => by
    intro w B v g m cap bs hf hBg hB hx hsp hr
    have hx0 := hx
    unfold V.At at hx
    obtain ⟨h1, h2, h3, a, cp, rfl, h5, h6, h7⟩ := hx
    unfold V.formed at hf
    unfold V.enc at hr ⊢
    have hzr := zig_range n h2
    have hs0 : s.toList = [] → s.size = 0 := by
      intro e; rw [ByteArray.toList_eq] at e; have := congrArg List.length e; simpa using this
    by_cases e1 : k = 1
    · subst e1
      simp only [if_true] at hf hr ⊢
      simp at hf
      have hl : l = [] := hf.2
      subst hl
      have hN : ∀ W, Calls Try.prog 49 #[.agg #[.int .i64 1, .int .i64 n, .string s, .slice a 0 cp]] W fun e w' => e = .returned (.int .u64 ((zig n).toNat : Nat)) ∧ Below W.heap.size W w' := by
        intro W
        rw [Int.toNat_of_nonneg hzr.1]
        by_cases h : n < 0
        · exact unsF_neg 1 n s a 0 cp W h2 h
        · exact unsF_pos 1 n s a 0 cp W h2 h
      rw [List.length_cons] at hr ⊢
      have := write_1 n s a 0 cp w g m cap bs [] hsp (zig n).toNat (by omega) (by rw [List.length_nil]; omega) hN (fun W hW hS => by
        refine (wrNo 1 n s a 0 cp (some ⟨g, 0, none⟩) (m + 1 + (num (zig n).toNat).length) cap W).mono ?_
        rintro e w' ⟨rfl, hb⟩
        exact ⟨rfl, by rw [List.append_nil]; exact hS.below hb, gbelow hb⟩)
      rw [List.append_nil, List.length_nil, Nat.add_zero, List.append_assoc, Nat.add_assoc, Nat.add_comm 1] at this
      exact this
    by_cases e2 : k = 2
    · subst e2
      simp only [show ¬ ((2 : Int) = 1) by omega, if_true, if_false] at hf hr ⊢
      simp at hf
      have hl : l = [] := hf.2
      subst hl
      have e1 : s.data.toList.length = s.size := Array.length_toList
      rw [List.length_cons, List.length_append, e1] at hr ⊢
      have := write_2 n s a 0 cp w g m cap bs s.data.toList hsp s.size (by unfold maxLen at h3; omega) (by omega) (fun W => txtL 2 n s h3 a 0 cp W) (fun W hW hS => by
        rw [e1]
        exact wrText 2 n s h3 a 0 cp W g _ cap (by omega) _ hS (by omega))
      rw [e1, List.append_assoc, List.append_assoc, show m + 1 + (num s.size).length + s.size = m + ((num s.size).length + s.size + 1) by omega] at this
      exact this
    by_cases e3 : k = 3
    · subst e3
      simp only [show ¬ ((3 : Int) = 1) by omega, show ¬ ((3 : Int) = 2) by omega, if_true, if_false] at hf hr ⊢
      simp at hf
      rw [List.length_cons, List.length_append] at hr ⊢
      have := write_3 n s a l.length cp w g m cap bs (V.encs l) hsp l.length (by unfold maxLen at h6; omega) (by omega) (fun W => lstL 3 n s a _ cp (by omega) W) (fun W hW hS => by
        have hBW : Below B w W := belowg hW hB hBg
        rcases h7 with h7 | ⟨b, off, rfl, hb, h10⟩
        · subst h7
          rw [V.encs_nil, List.length_nil]
          refine (wrElems_0 n s a cp W g _ cap).mono ?_
          rintro e w' ⟨rfl, hb⟩
          exact ⟨rfl, by rw [List.append_nil]; exact hS.below hb, gbelow hb⟩
        · exact wrElems_5 n s l l.length rfl hf.2.2 (fun x hx => cWrite N x (by have := List.sizeOf_lt_of_mem hx; simp at h; omega)) b off cp W B hb (by have := hBW.size; omega) h5 h6 (AtL.below hBW _ _ _ hb h10) g _ cap hBg _ hS (by omega))
      rw [List.append_assoc, List.append_assoc, show m + 1 + (num l.length).length + (V.encs l).length = m + ((num l.length).length + (V.encs l).length + 1) by omega] at this
      exact this
    · simp only [e1, e2, e3, if_false] at hf
      simp at hf

theorem Kept.size {w1 W : World} (h : Kept w1 W) : w1.heap.size ≤ W.heap.size := Below.size h

/-- New bytes in a slice. -/
def Made (w : World) (l : List UInt8) (v : Value) (w' : World) : Prop := ∃ g cap, v = .slice (some ⟨g, 0, none⟩) l.length cap ∧ w.heap.size ≤ g ∧ Spare w' g l.length cap l ∧ Below w.heap.size w w'
/-- What Encode is to end in. -/
def EncPost (w : World) (l : List UInt8) (e : Ending) (w' : World) : Prop := ∃ v, e = .returned (.tuple #[v, .int .i64 0]) ∧ Made w l v w'

/-- The cells of a new row of bytes. -/
def mkRow (q : Nat) : Array Value := madeCells (Value.int IntKind.u8 0).cells (q * 1)
theorem run_mk (q : Nat) (hq : q ≤ 1000000000) (W : World) : (Instr.makeSlice 27 (.int .i64 0) (.int .i64 q)).run Try.prog W = .ok (.slice (some ⟨W.heap.size, 0, none⟩) 0 q) (W.alloc (.cells (mkRow q) 5)) := by
  obtain ⟨i0, hi, hz0, hz1, hz2⟩ := info_parts Try.info5
  have := run_make (P := Try.prog) W 27 5 i0 _ Try.underlying27 hi hz0 .i64 .i64 0 (q : Int) (by omega) (by omega) (by rw [hz2]; omega) (by omega)
  rw [hz1] at this
  simpa [mkRow] using this
theorem mk_spare (q : Nat) (hq : q ≤ 1000000000) (W : World) : Spare (W.alloc (.cells (mkRow q) 5)) W.heap.size 0 q [] := by
  have : World.ownsRow _ 0 5 1 _ 0 [] := World.ownsRow_made (base := 0) (e := 5) (size := 1) W (mkRow q) q (by omega) (by unfold maxLen; omega) (by unfold mkRow; rw [size_madeCells])
  exact this

set_option maxHeartbeats 400000 in
theorem encode_bad (x : V) (w : World) (B : Nat) (v : Value) (hd : V.dep x ≤ 1000000) (hB : B ≤ w.heap.size) (h : V.At w B x v) (hk : x.chk ≠ 0) :
    Calls Try.prog 12 #[v] w fun e w' => e = .returned (.tuple #[.slice none 0 0, .int .i64 x.chk]) ∧ Below w.heap.size w w' := by
  have hc : ∀ W, Below w.heap.size w W → Calls Try.prog 16 #[v] W fun e w' => e = .returned (.int .i64 x.chk) ∧ Below W.heap.size W w' :=
    fun W hW => check_any x W B v hd (by have := hW.size; omega) (V.At.below (hW.mono hB) _ _ h)
  obtain ⟨q, hq⟩ : ∃ q, x.chk = q := ⟨_, rfl⟩
  rw [hq] at hc hk ⊢
  obtain ⟨k, n, s, l⟩ := x
  unfold V.At at h
  obtain ⟨h1, h2, h3, a, cap, rfl, _⟩ := h
  have HC := Lib.hid hc
  have hk' : (q != 0) = true := by simpa using hk
  clear hc h1 h2 hq hd hk
  go_enter Try.func12, Try.ntmps12
  go_wp2_with fail
  refine (HC.out _ (by go_grown)).mono ?_
  rintro e w3 ⟨rfl, hb3⟩
  go_wp2
  go_ret2
  exact ⟨rfl, Below.trans (by go_grown) (hb3.mono (by simp))⟩

set_option maxHeartbeats 800000 in
theorem encode_ok (x : V) (w : World) (B : Nat) (v : Value) (hd : V.dep x ≤ 1000000) (hB : B ≤ w.heap.size) (h : V.At w B x v) (hk : x.chk = 0) (hbd : x.enc.length ≤ 1000000000) :
    Calls Try.prog 12 #[v] w (EncPost w x.enc) := by
  have hf : x.formed = true := by
    cases e : x.formed
    · unfold V.chk at hk; rw [e] at hk; simp at hk
    · rfl
  have hc : ∀ W, Below w.heap.size w W → Calls Try.prog 16 #[v] W fun e w' => e = .returned (.int .i64 0) ∧ Below W.heap.size W w' :=
    fun W hW => by rw [← hk]; exact check_any x W B v hd (by have := hW.size; omega) (V.At.below (hW.mono hB) _ _ h)
  have hs : ∀ W, Below w.heap.size w W → Calls Try.prog 27 #[v] W fun e w' => e = .returned (.int .i64 (x.enc.length : Nat)) ∧ Below W.heap.size W w' :=
    fun W hW => cSize _ x (Nat.le_refl _) W B v hf hbd (by have := hW.size; omega) (V.At.below (hW.mono hB) _ _ h)
  have hw : ∀ W g, Below w.heap.size w W → w.heap.size ≤ g → Spare W g 0 x.enc.length [] → Calls Try.prog 26 #[.slice (some ⟨g, 0, none⟩) 0 x.enc.length, v] W fun e w' => e = .returned (.slice (some ⟨g, 0, none⟩) x.enc.length x.enc.length) ∧ Spare w' g x.enc.length x.enc.length x.enc ∧ W.grownBy w' (some g) := by
    intro W g hW hg hS
    have := cWrite _ x (Nat.le_refl _) W B v g 0 x.enc.length [] hf (by omega) (by have := hW.size; omega) (V.At.below (hW.mono hB) _ _ h) hS (by omega)
    rw [Nat.zero_add, List.nil_append] at this
    exact this
  obtain ⟨E, hE⟩ : ∃ E, x.enc = E := ⟨_, rfl⟩
  rw [hE] at hs hw hbd ⊢
  have hmk := run_mk E.length hbd
  obtain ⟨k, n, s, l⟩ := x
  unfold V.At at h
  obtain ⟨h1, h2, h3, a, cap, rfl, _⟩ := h
  obtain ⟨w1, hw1⟩ : ∃ w1, w1 = w.alloc (Obj.cells #[Value.int IntKind.i64 k, Value.int IntKind.i64 n, Value.string s, Value.slice a l.length cap] 24) := ⟨_, rfl⟩
  have hz1 : w1.heap.size = w.heap.size + 1 := by rw [hw1]; simp
  have hB1 : Below w.heap.size w w1 := by rw [hw1]; go_grown
  have c0 : ∀ W, Kept w1 W → W.cell? ⟨w.heap.size, 0, none⟩ = some (.int .i64 k) := fun W hW => (hW.below.cell (by simp; omega)).trans (by rw [hw1]; go_cell)
  have c1 : ∀ W, Kept w1 W → W.cell? ⟨w.heap.size, 1, none⟩ = some (.int .i64 n) := fun W hW => (hW.below.cell (by simp; omega)).trans (by rw [hw1]; go_cell)
  have c2 : ∀ W, Kept w1 W → W.cell? ⟨w.heap.size, 2, none⟩ = some (.string s) := fun W hW => (hW.below.cell (by simp; omega)).trans (by rw [hw1]; go_cell)
  have c3 : ∀ W, Kept w1 W → W.cell? ⟨w.heap.size, 3, none⟩ = some (.slice a l.length cap) := fun W hW => (hW.below.cell (by simp; omega)).trans (by rw [hw1]; go_cell)
  have hkb : ∀ W, Kept w1 W → Below w.heap.size w W := fun W hW => hB1.trans (hW.below.mono (by omega))
  have hs1 : ∀ W, Kept w1 W → Calls Try.prog 27 #[.agg #[.int .i64 k, .int .i64 n, .string s, .slice a l.length cap]] W fun e w' => e = .returned (.int .i64 (E.length : Nat)) ∧ Kept w1 w' :=
    fun W hW => (hs W (hkb W hW)).mono fun e w' h => ⟨h.1, hW.next h.2⟩
  have hwr : ∀ W g, Kept w1 W → w1.heap.size ≤ g → Spare W g 0 E.length [] → Calls Try.prog 26 #[.slice (some ⟨g, 0, none⟩) 0 E.length, .agg #[.int .i64 k, .int .i64 n, .string s, .slice a l.length cap]] W fun e w' => e = .returned (.slice (some ⟨g, 0, none⟩) E.length E.length) ∧ Spare w' g E.length E.length E ∧ Kept w1 w' :=
    fun W g hW hg hS => (hw W g (hkb W hW) (by omega) hS).mono fun e w' h => ⟨h.1, h.2.1, Below.trans hW (belowg h.2.2 hW.size hg)⟩
  have hcc : ∀ W, Kept w1 W → Calls Try.prog 16 #[.agg #[.int .i64 k, .int .i64 n, .string s, .slice a l.length cap]] W fun e w' => e = .returned (.int .i64 0) ∧ Kept w1 w' :=
    fun W hW => (hc W (hkb W hW)).mono fun e w' h => ⟨h.1, hW.next h.2⟩
  have HC := Lib.hid hcc
  have HS := Lib.hid hs1
  have HWR := Lib.hid hwr
  have HW := Lib.hid hw1
  have HKB := Lib.hid hkb
  clear hc hcc hs hs1 hw hwr hw1 hkb h1 h2 h3 hE hk hf hd
  go_enter Try.func12, Try.ntmps12
  go_wp2_with fail
  rw [← HW.out]
  refine (HC.out _ (Kept.refl _)).mono ?_
  rintro e w3 ⟨rfl, hK3⟩
  go_wp2_with fail
  go_region_held3 (fun W => Kept w1 W) (first | assumption | exact Kept.drew (by assumption) | exact Kept.alloc (by assumption) _)
    (first | (go_at_call 27; refine (HS.out _ (by assumption)).mono ?_; rintro e w5 ⟨rfl, hK5⟩) | (go_at_call 26; refine (HWR.out _ _ (by assumption) (Kept.size (by assumption)) (mk_spare _ hbd _)).mono ?_; rintro e w' ⟨rfl, hS5, hK⟩))
  all_goals
    go_wp2
    go_ret2
    exact ⟨_, rfl, _, _, rfl, by have := hK5.size; omega, hS5, HKB.out _ hK⟩

set_option maxHeartbeats 400000 in
theorem size_bad (x : V) (w : World) (B : Nat) (v : Value) (hd : V.dep x ≤ 1000000) (hB : B ≤ w.heap.size) (h : V.At w B x v) (hk : x.chk ≠ 0) :
    Calls Try.prog 14 #[v] w fun e w' => e = .returned (.tuple #[.int .i64 0, .int .i64 x.chk]) ∧ Below w.heap.size w w' := by
  have hc : ∀ W, Below w.heap.size w W → Calls Try.prog 16 #[v] W fun e w' => e = .returned (.int .i64 x.chk) ∧ Below W.heap.size W w' :=
    fun W hW => check_any x W B v hd (by have := hW.size; omega) (V.At.below (hW.mono hB) _ _ h)
  obtain ⟨q, hq⟩ : ∃ q, x.chk = q := ⟨_, rfl⟩
  rw [hq] at hc hk ⊢
  obtain ⟨k, n, s, l⟩ := x
  unfold V.At at h
  obtain ⟨h1, h2, h3, a, cap, rfl, _⟩ := h
  have HC := Lib.hid hc
  have hk' : (q != 0) = true := by simpa using hk
  clear hc h1 h2 hq hd hk
  go_enter Try.func14, Try.ntmps14
  go_wp2_with fail
  refine (HC.out _ (by go_grown)).mono ?_
  rintro e w3 ⟨rfl, hb3⟩
  go_wp2
  go_ret2
  exact ⟨rfl, Below.trans (by go_grown) (hb3.mono (by simp))⟩

theorem V.chk_formed (x : V) (hk : x.chk = 0) : x.formed = true := by
  cases e : x.formed
  · unfold V.chk at hk; rw [e] at hk; simp at hk
  · rfl

set_option maxHeartbeats 800000 in
theorem size_ok (x : V) (w : World) (B : Nat) (v : Value) (hd : V.dep x ≤ 1000000) (hB : B ≤ w.heap.size) (h : V.At w B x v) (hk : x.chk = 0) (hbd : x.enc.length ≤ 1000000000) :
    Calls Try.prog 14 #[v] w fun e w' => e = .returned (.tuple #[.int .i64 (x.enc.length : Nat), .int .i64 0]) ∧ Below w.heap.size w w' := by
  have hf : x.formed = true := x.chk_formed hk
  have hc : ∀ W, Below w.heap.size w W → Calls Try.prog 16 #[v] W fun e w' => e = .returned (.int .i64 0) ∧ Below W.heap.size W w' :=
    fun W hW => by rw [← hk]; exact check_any x W B v hd (by have := hW.size; omega) (V.At.below (hW.mono hB) _ _ h)
  have hs : ∀ W, Below w.heap.size w W → Calls Try.prog 27 #[v] W fun e w' => e = .returned (.int .i64 (x.enc.length : Nat)) ∧ Below W.heap.size W w' :=
    fun W hW => cSize _ x (Nat.le_refl _) W B v hf hbd (by have := hW.size; omega) (V.At.below (hW.mono hB) _ _ h)
  obtain ⟨E, hE⟩ : ∃ E, x.enc = E := ⟨_, rfl⟩
  rw [hE] at hs hbd ⊢
  obtain ⟨k, n, s, l⟩ := x
  unfold V.At at h
  obtain ⟨h1, h2, h3, a, cap, rfl, _⟩ := h
  obtain ⟨w1, hw1⟩ : ∃ w1, w1 = w.alloc (Obj.cells #[Value.int IntKind.i64 k, Value.int IntKind.i64 n, Value.string s, Value.slice a l.length cap] 24) := ⟨_, rfl⟩
  have hz1 : w1.heap.size = w.heap.size + 1 := by rw [hw1]; simp
  have hB1 : Below w.heap.size w w1 := by rw [hw1]; go_grown
  have c0 : ∀ W, Kept w1 W → W.cell? ⟨w.heap.size, 0, none⟩ = some (.int .i64 k) := fun W hW => (hW.below.cell (by simp; omega)).trans (by rw [hw1]; go_cell)
  have c1 : ∀ W, Kept w1 W → W.cell? ⟨w.heap.size, 1, none⟩ = some (.int .i64 n) := fun W hW => (hW.below.cell (by simp; omega)).trans (by rw [hw1]; go_cell)
  have c2 : ∀ W, Kept w1 W → W.cell? ⟨w.heap.size, 2, none⟩ = some (.string s) := fun W hW => (hW.below.cell (by simp; omega)).trans (by rw [hw1]; go_cell)
  have c3 : ∀ W, Kept w1 W → W.cell? ⟨w.heap.size, 3, none⟩ = some (.slice a l.length cap) := fun W hW => (hW.below.cell (by simp; omega)).trans (by rw [hw1]; go_cell)
  have HC := Lib.hid hc
  have HS := Lib.hid hs
  have HW := Lib.hid hw1
  clear hc hs hw1 h1 h2 h3 hE hk hf hd
  go_enter Try.func14, Try.ntmps14
  go_wp2_with fail
  rw [← HW.out]
  refine (HC.out _ hB1).mono ?_
  rintro e w3 ⟨rfl, hb3⟩
  have hK3 : Kept w1 w3 := hb3
  have hB3 := hB1.trans (hb3.mono (by omega))
  clear hb3
  go_wp2_with fail
  refine (HS.out _ hB3).mono ?_
  rintro e w5 ⟨rfl, hb5⟩
  go_wp2
  go_ret2
  exact ⟨rfl, hB3.trans (hb5.mono hB3.size)⟩

end Go.Proofs.Ytkecoohplpbgnaa
