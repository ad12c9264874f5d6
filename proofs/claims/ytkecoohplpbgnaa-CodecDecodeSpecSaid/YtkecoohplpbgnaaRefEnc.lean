/- ref.encode. -/
import Derived.Test.YtkecoohplpbgnaaRefNum
import Derived.Lib.AppendStr
import Derived.Deep.RegionHeld3
namespace Go.Proofs.Ytkecoohplpbgnaa
open Go.RowKit

theorem litq (w : World) (q b : Nat) (k : Int) (hq : w.heap.size = q) (hk : k = b) (hb : b < 256) : (w.alloc (Obj.cells #[Value.int IntKind.u8 k] 5)).ownsRow q 5 1 (.slice (some ⟨q, 0, none⟩) 1 1) 1 (cells8 [UInt8.ofNat b]) := by
  subst hk; subst hq; exact lit1 w b hb
theorem own_after {W W' : World} {B e size n : Nat} {v : Value} {xs : List Value} (hb : Below W.heap.size W W') (h : W.ownsRow B e size v n xs) : W'.ownsRow B e size v n xs := own_below' h hb
theorem litB (w : World) (B q b : Nat) (k : Int) (hB : B ≤ q) (hq : w.heap.size = q) (hk : k = b) (hb : b < 256) : (w.alloc (Obj.cells #[Value.int IntKind.u8 k] 5)).ownsRow B 5 1 (.slice (some ⟨q, 0, none⟩) 1 1) 1 (cells8 [UInt8.ofNat b]) := by
  have h := litq w q b k hq hk hb
  exact ⟨h.1, h.2.imp id fun ⟨g, cap, cur, h1, h2, h3⟩ => ⟨g, cap, cur, h1, Nat.le_trans hB h2, h3⟩⟩
theorem made_ofB {w W : World} {B g n cap : Nat} {l : List UInt8} (h : W.ownsRow B 5 1 (.slice (some ⟨g, 0, none⟩) n cap) n (cells8 l)) (hB : w.heap.size ≤ B) (hn : n = l.length) (hb : Below w.heap.size w W) :
    Made w l (.slice (some ⟨g, 0, none⟩) n cap) W := by
  refine made_of ⟨h.1, ?_⟩ hn hb
  rcases h.2 with ⟨h1, _⟩ | ⟨g', cap', cur, h1, h2, h3⟩
  · cases h1
  · exact .inr ⟨g', cap', cur, h1, Nat.le_trans hB h2, h3⟩

set_option maxRecDepth 100000 in
set_option maxHeartbeats 1000000 in
theorem renc_1 (n : Int) (h : In64 n) (s : ByteArray) (a : Option Addr) (len cap : Nat) (w : World) :
    Calls Try.prog 28 #[.agg #[.int .i64 1, .int .i64 n, .string s, .slice a len cap]] w (NewPost w (1 :: num (zig n).toNat)) := by
  have hz := zig_range n h
  obtain ⟨u, hu⟩ : ∃ u : Nat, zig n = u := ⟨(zig n).toNat, by omega⟩
  have hcu := runs_any n h
  rw [hu] at hz hcu ⊢
  rw [Int.toNat_natCast]
  have hcn := rnum_any u (by omega)
  have hlen := num_len64 u (by omega)
  have hp := num_pos u
  obtain ⟨E, hE⟩ : ∃ E, num u = E := ⟨_, rfl⟩
  rw [hE] at hcn hlen hp ⊢
  have HU := Lib.hid hcu
  have HN := Lib.hid hcn
  clear hcu hcn hu hE h
  obtain ⟨i0, hi, hz0, hz2, hz3⟩ := info_parts Try.info5
  obtain ⟨w1, hw1⟩ : ∃ w1, w1 = w.alloc (Obj.cells #[.int .i64 1, .int .i64 n, .string s, .slice a len cap] 24) := ⟨_, rfl⟩
  have hs1 : w1.heap.size = w.heap.size + 1 := by rw [hw1]; simp
  have hB1 : Below w.heap.size w w1 := by rw [hw1]; go_grown
  have HW1 := Lib.hid hw1
  clear hw1
  go_enter Try.func28, Try.ntmps28
  go_wp2_with fail
  rw [← HW1.out]
  refine (HU.out _).mono ?_
  rintro e w2 ⟨rfl, hb2⟩
  have hl2 := own_below' (litq w1 (w.heap.size + 1) 1 1 hs1 rfl (by omega)) hb2
  have HL2 := Lib.hid hl2
  have hB2 : Below w.heap.size w w2 := hB1.trans (Below.trans ((Below.refl _ _).alloc (by omega) _) (hb2.mono (by simp; omega)))
  clear hb2 hl2
  go_wp2_with fail
  refine (HN.out _).mono ?_
  rintro e w3 ⟨v, rfl, g, cp, rfl, hg, hs, hb3⟩
  have HL := Lib.hid (own_below' HL2.out hb3)
  have HS := Lib.hid hs
  have hB3 := hB2.trans (hb3.mono hB2.size)
  have hsz := hB3.size
  have hsz1 : w.heap.size + 1 ≤ w3.heap.size := Nat.le_of_lt (HL.out.lt _ rfl).2
  clear hb3 hs HL2
  go_wp2_with ((at_builtin; refine wpList_append_lies _ rfl (.tmp 9) (.tmp 13) 27 rfl (w.heap.size + 1) 5 i0 _ 1 1 Try.underlying27 hi hz0 hz2 hz3 rfl (by omega) (.slice (some ⟨w.heap.size + 1, 0, none⟩) 1 1) 1 (cells8 [UInt8.ofNat 1]) rfl HL.out ⟨g, 0, none⟩ E.length cp (cells8 E) rfl (by simp [cells8]) (World.ownsRow.cells HS.out (g := g) rfl) (by simp [cells8, Value.oneCell']) hp (by unfold maxLen; omega) (by omega) hsz1 w3.heap.size rfl ?_; intro g2 cap2 w4 hown4 hgr4 hat4 hlt4))
  have hB4 : Below w.heap.size w w4 := Below.grown hB3 hgr4 hsz (fun k hk => by
    have hk : w.heap.size + 1 = k := by simpa [Value.ownBlock] using hk
    omega)
  have hm : Made w (1 :: E) _ w4 := made_ofB (l := 1 :: E) hown4 (by omega) (by simp; omega) hB4
  have HM := Lib.hid hm
  clear hgr4 hat4 hlt4 hm hown4 hB4
  go_wp2
  go_ret
  exact ⟨_, rfl, HM.out⟩

def REnc (x : V) : Prop := ∀ (w : World) (B : Nat) (v : Value), x.formed = true → x.enc.length ≤ 1000000000 → B ≤ w.heap.size → V.At w B x v → Calls Try.prog 28 #[v] w (NewPost w x.enc)

theorem enc_pos' (x : V) : 0 < x.enc.length := by
  obtain ⟨k, n, s, l⟩ := x
  unfold V.enc
  split
  · simp
  · split <;> simp

theorem encs_append' : ∀ (l m : List V), V.encs (l ++ m) = V.encs l ++ V.encs m
  | [], m => by rw [V.encs_nil]; rfl
  | x :: l, m => by rw [List.cons_append, V.encs_cons, V.encs_cons, encs_append' l m, List.append_assoc]

set_option maxRecDepth 100000 in
set_option maxHeartbeats 2000000 in
theorem renc_3 (n : Int) (s : ByteArray) (l : List V) (ih : ∀ x ∈ l, REnc x) (a : Option Addr) (cap : Nat) (w : World) (hf : V.formeds l = true) (hbd : (num l.length ++ V.encs l).length ≤ 999999999) (hcap : l.length ≤ cap) (hm : cap ≤ maxLen)
    (h : l = [] ∨ ∃ b off, a = some ⟨b, off, none⟩ ∧ b < w.heap.size ∧ AtL w w.heap.size l b off) :
    Calls Try.prog 28 #[.agg #[.int .i64 3, .int .i64 n, .string s, .slice a l.length cap]] w (NewPost w (3 :: (num l.length ++ V.encs l))) := by
  unfold maxLen at hm
  obtain ⟨len, hlen⟩ : ∃ len, l.length = len := ⟨_, rfl⟩
  rw [hlen] at hcap hbd ⊢
  have hll : len < 18446744073709551616 := by omega
  have hcn := rnum_any len hll
  have hnl := num_len64 len hll
  have hp := num_pos len
  obtain ⟨E, hE⟩ : ∃ E, num len = E := ⟨_, rfl⟩
  rw [hE] at hcn hnl hp hbd ⊢
  rw [List.length_append] at hbd
  have HLEN := Lib.hid hlen
  have HN := Lib.hid hcn
  have HSH := Lib.hid h
  have IH := Lib.hid ih
  have HF := Lib.hid hf
  have HBD := Lib.hid hbd
  clear hcn hE hlen h ih hf hbd
  obtain ⟨i0, hi, hz0, hz2, hz3⟩ := info_parts Try.info5
  obtain ⟨w1, hw1⟩ : ∃ w1, w1 = w.alloc (Obj.cells #[.int .i64 3, .int .i64 n, .string s, .slice a len cap] 24) := ⟨_, rfl⟩
  have hs1 : w1.heap.size = w.heap.size + 1 := by rw [hw1]; simp
  have hB1 : Below w.heap.size w w1 := by rw [hw1]; go_grown
  have c1 : w1.cell? ⟨w.heap.size, 3, none⟩ = some (Value.slice a len cap) := by rw [hw1]; go_cell
  have HW1 := Lib.hid hw1
  clear hw1
  go_enter Try.func28, Try.ntmps28
  go_wp2_with fail
  rw [← HW1.out]
  have f0 : IntKind.u64.wrap (len : Int) = len := by rw [IntKind.wrap_u64]; omega
  try rw [f0]
  refine (HN.out _).mono ?_
  rintro e w3 ⟨v, rfl, g, cp, rfl, hg, hs, hb3⟩
  have HL := Lib.hid (own_below' (litq w1 (w.heap.size + 1) 3 3 hs1 rfl (by omega)) hb3)
  have HS := Lib.hid hs
  have hB3 : Below (w.heap.size + 1) w1 w3 := Below.trans ((Below.refl _ _).alloc (by omega) _) (hb3.mono (by simp; omega))
  have hsz := hB3.size
  have hsz1 : w.heap.size + 1 ≤ w3.heap.size := by omega
  clear hb3 hs f0
  go_wp2_with ((at_builtin; refine wpList_append_lies _ rfl (.tmp 27) (.tmp 32) 27 rfl (w.heap.size + 1) 5 i0 _ 1 1 Try.underlying27 hi hz0 hz2 hz3 rfl (by omega) (.slice (some ⟨w.heap.size + 1, 0, none⟩) 1 1) 1 (cells8 [UInt8.ofNat 3]) rfl HL.out ⟨g, 0, none⟩ E.length cp (cells8 E) rfl (by simp [cells8]) (World.ownsRow.cells HS.out (g := g) rfl) (by simp [cells8, Value.oneCell']) hp (by unfold maxLen; omega) (by omega) hsz1 w3.heap.size rfl ?_; intro g2 cap2 w4 hown4 hgr4 hat4 hlt4))
  have hB4 : Below (w.heap.size + 1) w1 w4 := Below.grown hB3 hgr4 (by omega) (fun k hk => by
    have hk : w.heap.size + 1 = k := by simpa [Value.ownBlock] using hk
    omega)
  have HO := Lib.hid hown4
  have HB4 := Lib.hid hB4
  clear hgr4 hat4 hlt4 hown4 hB4
  go_wp2
  go_loopw [3, 4] (fun o i wr => ∃ (j N : Nat) (A : List UInt8) (g cap : Nat), i = .int .i64 j ∧ o = .slice (some ⟨g, 0, none⟩) N cap ∧ N = A.length ∧ j ≤ len ∧ A ++ V.encs (l.drop j) = 3 :: (E ++ V.encs l) ∧ V.formeds (l.drop j) = true ∧ wr.ownsRow (w.heap.size + 1) 5 1 (.slice (some ⟨g, 0, none⟩) N cap) N (cells8 A) ∧ Below (w.heap.size + 1) w1 wr) (fun _ i _ => len - (intOf i).toNat)
  case atStart => exact ⟨0, 1 + E.length, 3 :: E, g2, cap2, rfl, rfl, by simp; omega, Nat.zero_le _, by simp, by simpa using HF.out, HO.out, HB4.out⟩
  case round =>
    obtain ⟨j, N, A, gr, capr, rfl, rfl, hN, hjl, hA, hfo, hown, hBr⟩ := hrel
    subst hN
    have d1 : wr.cell? ⟨w.heap.size, 3, none⟩ = some (Value.slice a len cap) := (hBr.cell (by show w.heap.size < _; omega)).trans c1
    have hBw : Below w.heap.size w wr := hB1.trans (hBr.mono (by omega))
    have hszr := hBr.size
    have HA := Lib.hid hA
    have hal : A.length + (V.encs (l.drop j)).length ≤ 1000000000 := by
      have := congrArg List.length hA
      rw [List.length_append, List.length_cons, List.length_append] at this
      have := HBD.out
      omega
    clear hA
    by_cases hlt : j < len
    · rcases HSH.out with h0 | ⟨b, off, ha, hbl, hat⟩
      · have := HLEN.out; rw [h0] at this; simp at this; omega
      subst ha
      obtain ⟨k2, n2, s2, a2, ln, cp2, g0, g1, g2, g3, ga⟩ := AtL.got l b off j (by rw [HLEN.out]; exact hlt) (AtL.below hBw l b off hbl hat)
      have hdl : l.drop j = (l[j]'(by rw [HLEN.out]; exact hlt)) :: l.drop (j + 1) := List.drop_eq_getElem_cons (by rw [HLEN.out]; exact hlt)
      rw [hdl, V.formeds_cons, Bool.and_eq_true] at hfo
      have hfo2 := hfo.2
      have hA2 := HA.out
      rw [hdl, V.encs_cons] at hA2 hal
      rw [List.length_append] at hal
      have hc := IH.out _ (List.getElem_mem (by rw [HLEN.out]; exact hlt)) wr w.heap.size _ hfo.1 (by omega) (by have := hBw.size; omega) ga
      have hep := enc_pos' (l[j]'(by rw [HLEN.out]; exact hlt))
      obtain ⟨r, hr⟩ : ∃ r, (l[j]'(by rw [HLEN.out]; exact hlt)).enc = r := ⟨_, rfl⟩
      rw [hr] at hc hA2 hal hep
      have HC := Lib.hid hc
      have HA2 := Lib.hid hA2
      have HF2 := Lib.hid hfo2
      have HOW := Lib.hid hown
      clear hc hr hA2 hfo hfo2 hdl ga hown hat
      go_wp2_with fail
      refine HC.out.mono ?_
      rintro e w5 ⟨v, rfl, g5, cp5, rfl, hg5, hs5, hb5⟩
      have HS5 := Lib.hid hs5
      have HW5 := Lib.hid (own_below' HOW.out hb5)
      have hB5 : Below (w.heap.size + 1) w1 w5 := hBr.trans (hb5.mono (by omega))
      have hsz5 := hB5.size
      have hsz6 : w.heap.size + 1 ≤ w5.heap.size := by omega
      clear hb5 hs5
      go_wp2_with ((at_builtin; refine wpList_append_lies _ rfl (.tmp 41) (.tmp 47) 27 rfl (w.heap.size + 1) 5 i0 _ 1 1 Try.underlying27 hi hz0 hz2 hz3 rfl (by omega) (.slice (some ⟨gr, 0, none⟩) A.length capr) A.length (cells8 A) rfl HW5.out ⟨g5, 0, none⟩ r.length cp5 (cells8 r) rfl (by simp [cells8]) (World.ownsRow.cells HS5.out (g := g5) rfl) (by simp [cells8, Value.oneCell']) hep (by unfold maxLen; omega) (by omega) hsz6 w5.heap.size rfl ?_; intro g6 cap6 w6 hown6 hgr6 hat6 hlt6))
      have hlw := HW5.out.lt
      have hB6 : Below (w.heap.size + 1) w1 w6 := Below.grown hB5 hgr6 (by omega) (fun k hk => (hlw k hk).1)
      have HO6 := Lib.hid hown6
      clear hgr6 hat6 hlt6 hown6 hlw
      go_wp2
      go_roundw
      case rel => exact ⟨j + 1, A.length + r.length, A ++ r, g6, cap6, by go_num, rfl, by simp, by omega, by rw [List.append_assoc]; exact HA2.out, HF2.out, by rw [show cells8 (A ++ r) = cells8 A ++ cells8 r by unfold cells8; exact List.map_append ..]; exact HO6.out, hB6⟩
      case measure => simp [intOf]; omega
    · have hje : j = len := by omega
      have hn : l.drop j = [] := by rw [hje]; exact List.drop_of_length_le (by rw [HLEN.out]; exact Nat.le_refl _)
      have hA2 : A = 3 :: (E ++ V.encs l) := by have := HA.out; rw [hn, V.encs_nil, List.append_nil] at this; exact this
      have hmade : Made w (3 :: (E ++ V.encs l)) _ wr := made_ofB (by rw [← hA2]; exact hown) (by omega) (by rw [← hA2]) hBw
      have HM := Lib.hid hmade
      clear hje hn hA2 hmade hown hfo hal
      go_wp2
      go_ret
      exact ⟨_, rfl, HM.out⟩
/-- A text is appended to a row of the call's own, as a step of a region that draws its order. -/
theorem step_text {ops : Array Oper} {o : Oper} {a : Act} {w : World} {K : Act → World → Prop} {Q : Exit → Act → World → Prop} {E : Prop} (hgd : o.guard = none) (sl x : Operand)
    (ho : o.op = .call { callee := .builtin .append, args := #[sl, x], argTypes := #[27, 9] }) (base g n cap : Nat) (l : List UInt8) (hs : a.eval sl = .slice (some ⟨g, 0, none⟩) n cap) (hown : w.ownsRow base 5 1 (.slice (some ⟨g, 0, none⟩) n cap) n (cells8 l))
    (hn : 0 < n) (s : ByteArray) (hx : a.eval x = .string s) (hb : n + s.size ≤ 140737488355328) (hbase : base ≤ w.heap.size)
    (h : ∀ g' cap' w', w'.ownsRow base 5 1 (.slice (some ⟨g', 0, none⟩) (n + s.size) cap') (n + s.size) (cells8 (l ++ s.data.toList)) → w.grownBy w' (some g) → K (a.put o.dst (.slice (some ⟨g', 0, none⟩) (n + s.size) cap')) w') :
    if Region.wanted o (yielded ops a.tmps) = true then Oper.wp Try.prog o a w K Q else E := by
  have hw : Region.wanted o (yielded ops a.tmps) = true := by simp [Region.wanted, hgd]
  rw [if_pos hw]
  obtain ⟨i0, hi, hz0, hz1, hz2⟩ := info_parts Try.info5
  obtain ⟨v', w', hr, h2, h3, _⟩ := Lib.run_append_own_string (P := Try.prog) w base 27 9 o.type 5 i0 Try.underlying27 Try.underlying9 hi hz0 hz1 hz2 _ n _ hown s (by unfold maxLen; omega) hb hbase
  obtain ⟨g', cap', rfl⟩ : ∃ g' cap', v' = .slice (some ⟨g', 0, none⟩) (n + s.size) cap' := by
    rcases h2.2 with ⟨_, h0⟩ | ⟨g', cap', cur, hv, _⟩
    · omega
    · exact ⟨g', cap', hv⟩
  unfold Oper.wp execOp
  simp only [ho, resolve, invoke, builtin, Sem.run_bind, Sem.run_pure, Result.andThen_ok, List.map_toArray, List.map_cons, List.map_nil, hs, hx, hr]
  refine h _ _ _ ?_ h3
  have : cells8 (l ++ s.data.toList) = cells8 l ++ Lib.strCells s := by unfold cells8 Lib.strCells; exact List.map_append ..
  rw [this]; exact h2

set_option maxRecDepth 100000 in
set_option maxHeartbeats 2000000 in
theorem renc_2 (n : Int) (s : ByteArray) (hss : s.size ≤ 1000000000) (a : Option Addr) (len cap : Nat) (w : World) :
    Calls Try.prog 28 #[.agg #[.int .i64 2, .int .i64 n, .string s, .slice a len cap]] w (NewPost w (2 :: (num s.size ++ s.data.toList))) := by
  have hcn := rnum_any s.size (by omega)
  have hlen := num_len64 s.size (by omega)
  have hp := num_pos s.size
  obtain ⟨E, hE⟩ : ∃ E, num s.size = E := ⟨_, rfl⟩
  rw [hE] at hcn hlen hp ⊢
  obtain ⟨w1, hw1⟩ : ∃ w1, w1 = w.alloc (Obj.cells #[.int .i64 2, .int .i64 n, .string s, .slice a len cap] 24) := ⟨_, rfl⟩
  have hs1 : w1.heap.size = w.heap.size + 1 := by rw [hw1]; simp
  have hB1 : Below w.heap.size w w1 := by rw [hw1]; go_grown
  have c2 : ∀ W, Kept w1 W → W.cell? ⟨w.heap.size, 2, none⟩ = some (.string s) := fun W hW => (hW.below.cell (by show w.heap.size < _; omega)).trans (by rw [hw1]; go_cell)
  have hn2 : ∀ W, Kept w1 W → Calls Try.prog 41 #[.int .u64 s.size] W fun e w' => ∃ g cp, e = .returned (.slice (some ⟨g, 0, none⟩) E.length cp) ∧ Spare w' g E.length cp E ∧ Kept w1 w' ∧ Below W.heap.size W w' := fun W hW =>
    (hcn W).mono fun e w' ⟨v, h1, g, cp, h2, h3, h4, h5⟩ => ⟨g, cp, by rw [h1, h2], h4, hW.next h5, h5⟩
  have hkg : ∀ W W' k, Kept w1 W → w1.heap.size ≤ k → W.grownBy W' (some k) → Kept w1 W' := fun W W' k hW hk hg => Below.grown hW.below hg hW.below.size (fun k' hk' => by cases hk'; exact hk)
  have HN := Lib.hid hn2
  have HKG := Lib.hid hkg
  have HW1 := Lib.hid hw1
  clear hcn hn2 hkg hw1 hE
  obtain ⟨i0, hi, hz0, hz2, hz3⟩ := info_parts Try.info5
  have f0 : IntKind.u64.wrap (s.size : Int) = s.size := by rw [IntKind.wrap_u64]; omega
  go_enter Try.func28, Try.ntmps28
  go_wp2_with fail
  rw [← HW1.out]
  have HS1 := Lib.hid hs1
  clear hs1
  go_region_held3 (fun W => Kept w1 W) (first | assumption | exact Kept.drew (Kept.refl _) | exact Kept.drew (by assumption) | exact Kept.alloc (by assumption) _ | exact HKG.out _ _ _ (by assumption) (hown4.lt g4 rfl).1 hgr5 | exact HKG.out _ _ _ hK3 (Nat.le_refl _) hgr4 | exact HKG.out _ _ _ (Kept.alloc hK3 _) hK3.below.size hgr4)
    (first
      | (go_at_call 41; refine (HN.out _ (by assumption)).mono ?_; rintro e w3 ⟨g, cp, rfl, hs, hK3, hb3⟩)
      | (refine step_append_lies _ (by rfl) (.tmp 17) (.tmp 22) 27 (by rfl) w1.heap.size 5 i0 _ 1 1 Try.underlying27 hi hz0 hz2 hz3 rfl (by omega) (.slice (some ⟨w1.heap.size, 0, none⟩) 1 1) 1 (cells8 [UInt8.ofNat 2]) (by rfl) (own_after hb3 (litq w1 w1.heap.size 2 2 rfl rfl (by omega))) ⟨g, 0, none⟩ E.length cp (cells8 E) (by rfl) (by simp [cells8]) (World.ownsRow.cells hs (g := g) rfl) (by simp [cells8, Value.oneCell']) hp (by unfold maxLen; omega) (by omega) hK3.below.size _ rfl ?_; intro g4 cap4 w4 hown4 hgr4 hat4 hlt4)
      | (refine step_append_lies _ (by rfl) (.tmp 17) (.tmp 22) 27 (by rfl) w1.heap.size 5 i0 _ 1 1 Try.underlying27 hi hz0 hz2 hz3 rfl (by omega) (.slice (some ⟨w3.heap.size, 0, none⟩) 1 1) 1 (cells8 [UInt8.ofNat 2]) (by rfl) (litB w3 w1.heap.size w3.heap.size 2 2 hK3.below.size rfl rfl (by omega)) ⟨g, 0, none⟩ E.length cp (cells8 E) (by rfl) (by simp [cells8]) (World.ownsRow.cells (World.ownsRow.alloc hs (Obj.cells #[Value.int IntKind.u8 2] 5)) (g := g) rfl) (by simp [cells8, Value.oneCell']) hp (by unfold maxLen; omega) (by omega) (by have := hK3.below.size; simp; omega) _ rfl ?_; intro g4 cap4 w4 hown4 hgr4 hat4 hlt4)
      | (refine step_text (by rfl) _ _ (by rfl) w1.heap.size g4 (1 + E.length) cap4 (UInt8.ofNat 2 :: E) (by rfl) hown4 (by omega) s (by rfl) (by omega) (Nat.le_trans (hown4.lt g4 rfl).1 (Nat.le_of_lt (hown4.lt g4 rfl).2)) ?_; intro g5 cap5 w5 hown5 hgr5))
  all_goals
    have hsd : s.data.toList.length = s.size := by rw [Array.length_toList]; rfl
    have hm : Made w (2 :: (E ++ s.data.toList)) (.slice (some ⟨g5, 0, none⟩) (1 + E.length + s.size) cap5) w5 := made_ofB (l := 2 :: (E ++ s.data.toList)) hown5 (by have := HS1.out; omega) (by rw [List.length_cons, List.length_append, hsd]; omega) (hB1.trans ((‹Kept w1 w5› : Kept w1 w5).below.mono (by have := HS1.out; omega)))
    have HM := Lib.hid hm
    clear hm hown5 hgr5 hown4 hgr4 hat4 hlt4 hs hsd
    go_wp2
    go_ret
    exact ⟨_, rfl, HM.out⟩

theorem refEnc : ∀ (N : Nat) (x : V), SizeOf.sizeOf x ≤ N → REnc x
  | 0, ⟨k, n, s, l⟩, h => by simp at h
  | N + 1, ⟨k, n, s, l⟩, h => by
    intro w B v hf hb hB hx
    have hx := V.At.mono hB _ _ hx
    unfold V.At at hx
    obtain ⟨h1, h2, h3, a, cap, rfl, h5, h6, h7⟩ := hx
    unfold V.enc at hb ⊢
    unfold V.formed at hf
    by_cases e1 : k = 1
    · subst e1
      simp only [if_true]
      exact renc_1 n h2 s a _ cap w
    by_cases e2 : k = 2
    · subst e2
      simp only [show ¬ ((2 : Int) = 1) by omega, if_true, if_false] at hb ⊢
      have hsd : s.data.toList.length = s.size := by rw [Array.length_toList]; rfl
      rw [List.length_cons, List.length_append, hsd] at hb
      exact renc_2 n s (by omega) a _ cap w
    · by_cases e3 : k = 3
      · subst e3
        simp only [show ¬ ((3 : Int) = 1) by omega, show ¬ ((3 : Int) = 2) by omega, if_true, if_false] at hb hf ⊢
        simp only [Bool.and_eq_true] at hf
        rw [List.length_cons] at hb
        exact renc_3 n s l (fun x hx => refEnc N x (by have := List.sizeOf_lt_of_mem hx; simp at h; omega)) a cap w hf.2.2 (by omega) h5 h6 h7
      · simp [e1, e2, e3] at hf
end Go.Proofs.Ytkecoohplpbgnaa
