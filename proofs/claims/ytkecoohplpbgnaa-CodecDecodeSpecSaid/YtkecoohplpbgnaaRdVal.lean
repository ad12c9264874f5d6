/- The readers of lists and of values. -/
import Derived.Test.YtkecoohplpbgnaaRd
namespace Go.Proofs.Ytkecoohplpbgnaa
open Go.RowKit

/-- Elements as a row of cells. -/
def Elems (w : World) (p : Nat → Prop) : List V → List Value → Prop
  | [], xs => xs = []
  | x :: l, xs => ∃ c0 c1 c2 c3 ys, xs = c0 :: c1 :: c2 :: c3 :: ys ∧ V.Own w p x (.agg #[c0, c1, c2, c3]) ∧ Elems w p l ys

theorem Elems.keep {w w' : World} {p q : Nat → Prop} (hw : ∀ b, p b → w'.heap[b]? = w.heap[b]?) (hq : ∀ b, p b → q b) : ∀ (l : List V) (xs : List Value), Elems w p l xs → Elems w' q l xs
  | [], _, h => h
  | x :: l, _, ⟨c0, c1, c2, c3, ys, h, h1, h2⟩ => ⟨c0, c1, c2, c3, ys, h, V.Own.keep hw hq x _ h1, Elems.keep hw hq l ys h2⟩

theorem Elems.snoc {w : World} {p : Nat → Prop} {x : V} {c0 c1 c2 c3 : Value} (hx : V.Own w p x (.agg #[c0, c1, c2, c3])) : ∀ (l : List V) (xs : List Value), Elems w p l xs → Elems w p (l ++ [x]) (xs ++ [c0, c1, c2, c3])
  | [], xs, h => by
    have h : xs = [] := h
    subst h
    exact ⟨c0, c1, c2, c3, [], rfl, hx, rfl⟩
  | y :: l, _, ⟨d0, d1, d2, d3, ys, h, h1, h2⟩ => by
    subst h
    exact ⟨d0, d1, d2, d3, ys ++ [c0, c1, c2, c3], rfl, h1, Elems.snoc hx l ys h2⟩

theorem Elems.own {w : World} {p : Nat → Prop} (g : Nat) : ∀ (l : List V) (xs : List Value) (off : Nat), Elems w p l xs → (∀ i u, xs[i]? = some u → w.cell? ⟨g, off + i, none⟩ = some u) → OwnL w p l g off
  | [], _, _, _, _ => by unfold OwnL; trivial
  | x :: l, _, off, ⟨c0, c1, c2, c3, ys, h, h1, h2⟩, hc => by
    subst h
    unfold OwnL
    refine ⟨⟨c0, c1, c2, c3, hc 0 c0 rfl, hc 1 c1 rfl, hc 2 c2 rfl, hc 3 c3 rfl, h1⟩, Elems.own g l ys (off + 4) h2 fun i u hu => ?_⟩
    rw [Nat.add_assoc, Nat.add_comm 4 i]
    exact hc (i + 4) u (by simpa using hu)

/-- A slice of the call's own, with its elements. -/
def Many (w : World) (B : Nat) (v : Value) (l : List V) : Prop :=
  ∃ xs, w.ownsRow B 24 4 v l.length xs ∧ Elems w (fun b => B ≤ b ∧ b < w.heap.size ∧ v.ownBlock ≠ some b) l xs

theorem Many.nil (w : World) (B : Nat) : Many w B (.slice none 0 0) [] := ⟨[], World.ownsRow_nil _ _ _ _, rfl⟩

theorem gthen {w W w1 : World} {row row' : Option Nat} (h : w.grownBy W row) (k : W.grownBy w1 row') (hr : ∀ b, row' = some b → w.heap.size ≤ b ∨ row = some b) : w.grownBy w1 row :=
  ⟨k.os.trans h.os, k.tape.trans h.tape, k.output.trans h.output, Nat.le_trans h.size k.size, fun i hi hne => (k.block i (Nat.lt_of_lt_of_le hi h.size) (fun e => by
    rcases hr i e.symm with h1 | h1
    · omega
    · exact hne h1.symm)).trans (h.block i hi hne)⟩

theorem Rdr.of {w w' : World} {rb db : Nat} {bs : List UInt8} {dep : Int} (h : Rdr w rb db bs dep) (h1 : w'.heap[rb]? = w.heap[rb]?) (h2 : w'.heap[db]? = w.heap[db]?) (h3 : w.heap.size ≤ w'.heap.size) : Rdr w' rb db bs dep := by
  obtain ⟨⟨a, cap, h0, h4, h5, h6⟩, hd, hf0, hf1, hn, hdl⟩ := h
  have hc : ∀ o, w'.cell? ⟨rb, o, none⟩ = w.cell? ⟨rb, o, none⟩ := fun o => World.cell?_of_block (w := w) (a := ⟨rb, o, none⟩) h1
  have hc2 : ∀ o, w'.cell? ⟨db, o, none⟩ = w.cell? ⟨db, o, none⟩ := fun o => World.cell?_of_block (w := w) (a := ⟨db, o, none⟩) h2
  refine ⟨⟨a, cap, (hc _).trans h0, h4, h5, ?_⟩, (hc _).trans hd, (World.frozen?_of_block (w := w) (a := ⟨rb, 0, none⟩) h1).trans hf0, (World.frozen?_of_block (w := w) (a := ⟨rb, 1, none⟩) h1).trans hf1, hn, by omega⟩
  rcases h6 with h6 | ⟨off, h6, h7⟩
  · exact .inl h6
  · exact .inr ⟨off, h6, fun i hi => (hc2 _).trans (h7 i hi)⟩

theorem Rdr.setd {w : World} {rb db : Nat} {bs : List UInt8} {dep : Int} (h : Rdr w rb db bs dep) (d : Int) : Rdr (w.setCell ⟨rb, 1, none⟩ (.int .i64 d)) rb db bs d := by
  obtain ⟨⟨a, cap, h0, h4, h5, h6⟩, hd, hf0, hf1, hn, hdl⟩ := h
  refine ⟨⟨a, cap, (World.cell?_setCell_other _ _ _ _ (by simp)).trans h0, h4, h5, ?_⟩, World.cell?_setCell_same _ _ _ hd, by simpa using hf0, by simpa using hf1, hn, by simpa using hdl⟩
  rcases h6 with h6 | ⟨off, h6, h7⟩
  · exact .inl h6
  · exact .inr ⟨off, h6, fun i hi => (World.cell?_setCell_other _ _ _ _ (by intro hh; injection hh with e1; exact hn e1.symm)).trans (h7 i hi)⟩

/-- One element more. -/
theorem Many.next {w w' w1 : World} {B rb : Nat} {v : Value} {l : List V} {xs : List Value} {x : V} {c0 c1 c2 c3 : Value} {g cap : Nat} (o : Obj) (hown : w.ownsRow B 24 4 v l.length xs)
    (hel : Elems w (fun b => B ≤ b ∧ b < w.heap.size ∧ v.ownBlock ≠ some b) l xs) (hrb : rb < B) (hBw : B ≤ w.heap.size) (hg : w.grownBy w' (some rb)) (hx : V.Own w' (fun b => w.heap.size ≤ b ∧ b < w'.heap.size) x (.agg #[c0, c1, c2, c3]))
    (h1 : w1.ownsRow B 24 4 (.slice (some ⟨g, 0, none⟩) (l.length + 1) cap) (l.length + 1) (xs ++ [c0, c1, c2, c3])) (hgr : (w'.alloc o).grownBy w1 v.ownBlock) (hat : v.ownBlock = some g ∨ g = w'.heap.size + 1) :
    Many w1 B (.slice (some ⟨g, 0, none⟩) (l.length + 1) cap) (l ++ [x]) := by
  have hlt := hown.lt
  have hs1 := hg.size
  have hs2 := hgr.size
  simp only [World.size_alloc] at hs2
  have hb1 : ∀ b, b < w'.heap.size → v.ownBlock ≠ some b → w1.heap[b]? = w'.heap[b]? := fun b hb hne => (hgr.block b (by simp; omega) (fun e => hne e.symm)).trans (Below.heap_alloc _ _ _ hb)
  refine ⟨xs ++ [c0, c1, c2, c3], by rw [List.length_append]; exact h1, Elems.snoc ?_ l xs ?_⟩
  · refine V.Own.keep (fun b hb => hb1 b hb.2 fun e => ?_) (fun b hb => ⟨by omega, by omega, ?_⟩) x _ hx
    · have := (hlt b e).2; omega
    · intro e
      have e : g = b := by simpa [Value.ownBlock] using e
      rcases hat with hat | hat
      · have := (hlt g hat).2; omega
      · omega
  · refine Elems.keep (fun b hb => ?_) (fun b hb => ⟨hb.1, by omega, ?_⟩) l xs hel
    · rw [hb1 b (by omega) hb.2.2]
      exact hg.block b hb.2.1 (by simp; omega)
    · intro e
      have e : g = b := by simpa [Value.ownBlock] using e
      rcases hat with hat | hat
      · exact hb.2.2 (by rw [hat, e])
      · omega

/-- The reader of lists. -/
def rdLst (many : Nat → List UInt8 → Option (List V × List UInt8)) (bs : List UInt8) : Option (V × List UInt8) :=
  match rdNum 0 0 bs with | none => none | some (u, r) => match many u r with | none => none | some (l, r2) => some (⟨3, 0, ByteArray.empty, l⟩, r2)

def CVal (q : Nat) : Prop := ∀ (w : World) (rb db : Nat) (bs : List UInt8) (dep : Int), dep + q = 16 → 0 ≤ dep → bs.length ≤ 1000000000 → Rdr w rb db bs dep → Calls Try.prog 45 #[.pointer (some ⟨rb, 0, none⟩)] w (ValPost w rb db dep (rdV q bs))

set_option maxHeartbeats 1000000 in
theorem rdLst_0 (w : World) (rb db : Nat) (bs : List UInt8) (h : Rdr w rb db bs 16) :
    Calls Try.prog 61 #[.pointer (some ⟨rb, 0, none⟩)] w (ValPost w rb db 16 none) := by
  have hrl := h.lt
  have hd := h.d
  have hf := h.f1
  have hd2 : ∀ o, (w.alloc o).cell? ⟨rb, 1, none⟩ = some (.int .i64 16) := fun o => (World.cell?_alloc_lt w o ⟨rb, 1, none⟩ hrl).trans hd
  have hf2 : ∀ o, (w.alloc o).frozen? ⟨rb, 1, none⟩ = false := fun o => (World.frozen?_alloc_old w o ⟨rb, 1, none⟩ (by show rb ≠ _; omega)).trans hf
  go_enter Try.func61, Try.ntmps61
  go_wp2_with fail
  refine (need_no rb _).mono ?_
  rintro e w4 ⟨he, rfl⟩
  obtain rfl : e = _ := he
  go_wp2
  simp [bodyPost, ValPost, Pan]
  exact gtrans (gset _ _ _ _) (World.grownBy_alloc _ _ _)

theorem Try.info24 : (Try.prog.info? 24).map (fun i => (i.zero, i.size, i.bytes)) = some (some (.agg #[.int .i64 0, .int .i64 0, .string { data := #[] }, .slice none 0 0]), 4, 56) := by kernel_rfl

theorem own_shape {w : World} {p : Nat → Prop} {x : V} {v : Value} (h : V.Own w p x v) : ∃ (k n : Int) (s : ByteArray) (a : Option Addr) (len cap : Nat), v = .agg #[.int .i64 k, .int .i64 n, .string s, .slice a len cap] := by
  obtain ⟨k, n, s, l⟩ := x
  unfold V.Own at h
  obtain ⟨_, _, _, a, cap, hv, _⟩ := h
  exact ⟨k, n, s, a, l.length, cap, hv⟩

theorem rdMany_step (rd : List UInt8 → Option (V × List UInt8)) (n : Nat) (bs : List UInt8) : rdMany rd (n + 1) bs = match rd bs with
    | none => none
    | some (x, r) => match rdMany rd n r with
      | none => none
      | some (l, r2) => some (x :: l, r2) := rfl

theorem rdMany_len (rd : List UInt8 → Option (V × List UInt8)) (hrd : ∀ bs x r, rd bs = some (x, r) → r.length < bs.length) : ∀ (n : Nat) (bs : List UInt8) (l : List V) (r : List UInt8), rdMany rd n bs = some (l, r) → l.length + r.length ≤ bs.length
  | 0, bs, l, r, h => by rw [rdMany] at h; injection h with h; injection h with h1 h2; subst h1; subst h2; simp
  | n + 1, bs, l, r, h => by
    rw [rdMany_step] at h
    split at h
    · cases h
    · rename_i x r1 he
      have h1 := hrd bs x r1 he
      split at h
      · cases h
      · rename_i l2 r2 hm
        have h2 := rdMany_len rd hrd n r1 l2 r2 hm
        injection h with h; injection h with h3 h4; subst h3; subst h4
        rw [List.length_cons]; omega

theorem rdStep_len (many : Nat → List UInt8 → Option (List V × List UInt8)) (hm : ∀ n bs l r, many n bs = some (l, r) → r.length ≤ bs.length) (bs : List UInt8) (x : V) (r : List UInt8) (h : rdStep many bs = some (x, r)) : r.length < bs.length := by
  cases bs with
  | nil => rw [rdStep] at h; cases h
  | cons k bs =>
    rw [rdStep] at h
    rw [List.length_cons]
    split at h
    · split at h
      · cases h
      · rename_i u r1 he
        have := rdNum_len _ _ _ _ _ he
        injection h with h; injection h with h1 h2; subst h2; omega
    · split at h
      · split at h
        · cases h
        · rename_i u r1 he
          have := rdNum_len _ _ _ _ _ he
          split at h
          · injection h with h; injection h with h1 h2; subst h2; rw [List.length_drop]; omega
          · cases h
      · split at h
        · split at h
          · cases h
          · rename_i u r1 he
            have := rdNum_len _ _ _ _ _ he
            split at h
            · cases h
            · rename_i l r2 hmm
              have := hm _ _ _ _ hmm
              injection h with h; injection h with h1 h2; subst h2; omega
        · cases h

theorem rdV_len : ∀ (q : Nat) (bs : List UInt8) (x : V) (r : List UInt8), rdV q bs = some (x, r) → r.length < bs.length
  | 0, bs, x, r, h => by rw [rdV] at h; exact rdStep_len _ (fun _ _ _ _ h => by cases h) bs x r h
  | q + 1, bs, x, r, h => by
    rw [rdV] at h
    exact rdStep_len _ (fun n bs l r h => by have := rdMany_len _ (rdV_len q) n bs l r h; omega) bs x r h

/-- What holds at the head of a round of the list's reader. -/
def LInv (w1 : World) (rb db B : Nat) (dep : Int) (q u : Nat) (r : List UInt8) (v3 i : Value) (wr : World) : Prop :=
  ∃ (j : Nat) (l : List V) (cs : List UInt8), i = .int .u64 j ∧ j ≤ u ∧ l.length = j ∧ Many wr B v3 l ∧ Rdr wr rb db cs dep ∧ j + cs.length ≤ r.length ∧ w1.grownBy wr (some rb) ∧
    rdMany (rdV q) u r = (match rdMany (rdV q) (u - j) cs with | none => none | some (l2, r2) => some (l ++ l2, r2))

theorem Many.shape {w : World} {B : Nat} {v : Value} {l : List V} (h : Many w B v l) : ∃ a cap, v = .slice a l.length cap ∧ l.length ≤ cap ∧ cap ≤ maxLen ∧ (l = [] ∨ ∃ g, a = some ⟨g, 0, none⟩ ∧ B ≤ g ∧ g < w.heap.size ∧ OwnL w (fun b => B ≤ b ∧ b < w.heap.size) l g 0) := by
  obtain ⟨xs, hown, hel⟩ := h
  have hlt := hown.lt
  have hown' := hown
  rcases hown.2 with ⟨rfl, h0⟩ | ⟨g, cap, cur, rfl, hb, hg, hn, hc, hcs, ht⟩
  · exact ⟨none, 0, by rw [h0], by omega, by unfold maxLen; omega, .inl (List.eq_nil_of_length_eq_zero h0)⟩
  · refine ⟨_, cap, rfl, hn, hc, .inr ⟨g, rfl, hb, (hlt g rfl).2, ?_⟩⟩
    refine Elems.own g l xs 0 (Elems.keep (fun _ _ => rfl) (fun b hb => ⟨hb.1, hb.2.1⟩) l xs hel) fun i u hu => ?_
    have := hown'.cells (g := g) rfl i u hu
    rw [show (⟨g, 0, none⟩ : Addr).add i = ⟨g, 0 + i, none⟩ by unfold Addr.add; split <;> simp_all] at this
    exact this

set_option maxHeartbeats 2000000 in
theorem rdLst_5 (q : Nat) (ih : CVal q) (w : World) (rb db : Nat) (bs : List UInt8) (dep : Int) (hdep : dep + 1 + q = 16) (hd0 : 0 ≤ dep) (hbl : bs.length ≤ 1000000000) (h : Rdr w rb db bs dep) :
    Calls Try.prog 61 #[.pointer (some ⟨rb, 0, none⟩)] w (ValPost w rb db dep (rdLst (rdMany (rdV q)) bs)) := by
  have hrl := h.lt
  have hdl := h.dl
  have hd := h.d
  have hf := h.f1
  have hd2 : ∀ o, (w.alloc o).cell? ⟨rb, 1, none⟩ = some (.int .i64 dep) := fun o => (World.cell?_alloc_lt w o ⟨rb, 1, none⟩ hrl).trans hd
  have hf2 : ∀ o, (w.alloc o).frozen? ⟨rb, 1, none⟩ = false := fun o => (World.frozen?_alloc_old w o ⟨rb, 1, none⟩ (by show rb ≠ _; omega)).trans hf
  have hle : decide (dep + 1 ≤ 16) = true := by simp; omega
  have H := Lib.hid h
  have HD := Lib.hid hdep
  have hd16 : dep ≤ 15 := by omega
  obtain ⟨res, hres⟩ : ∃ res, rdLst (rdMany (rdV q)) bs = res := ⟨_, rfl⟩
  rw [hres]
  obtain ⟨o, ho⟩ : ∃ o, rdNum 0 0 bs = o := ⟨_, rfl⟩
  have hlen : ∀ u r, o = some (u, r) → r.length < bs.length := fun u r hh => rdNum_len bs 0 0 u r (ho.trans hh)
  have hc : ∀ W, Rdr W rb db bs (dep + 1) → Calls Try.prog 62 #[.pointer (some ⟨rb, 0, none⟩)] W (NumPost W rb db (dep + 1) o) := fun W hW => by rw [← ho]; exact rdNum_any W rb db (dep + 1) bs hbl hW
  unfold rdLst at hres
  rw [ho] at hres
  have HRES := Lib.hid hres
  have HC := Lib.hid hc
  have HLEN := Lib.hid hlen
  have IH := Lib.hid ih
  clear h hdep hc hlen ho ih hres
  go_enter Try.func61, Try.ntmps61
  go_wp2_with fail
  refine (need_yes rb _).mono ?_
  rintro e w4 ⟨rfl, rfl⟩
  go_wp2_with fail
  obtain ⟨w1, hw1⟩ : ∃ w1, w1 = ((w.setCell { block := rb, off := 1 } (Value.int IntKind.i64 (dep + 1))).alloc (Obj.cells #[Value.int IntKind.i64 0, Value.int IntKind.i64 0, Value.string { data := #[] }, Value.slice none 0 0] 24)) := ⟨_, rfl⟩
  rw [← hw1]
  have hz1 : w1.heap.size = w.heap.size + 1 := by rw [hw1]; simp
  have hr1 : Rdr w1 rb db bs (dep + 1) := by rw [hw1]; exact (H.out.setd _).keep ((Below.refl _ _).alloc (Nat.le_refl _) _)
  have hg1 : w.grownBy w1 (some rb) := by rw [hw1]; exact gtrans (gset _ _ _ _) (World.grownBy_alloc _ _ _)
  have hzero : ∀ W, w1.grownBy W (some rb) → (W.cell? ⟨w.heap.size, 0, none⟩ = some (.int .i64 0) ∧ W.cell? ⟨w.heap.size, 1, none⟩ = some (.int .i64 0) ∧ W.cell? ⟨w.heap.size, 2, none⟩ = some (.string { data := #[] }) ∧ W.cell? ⟨w.heap.size, 3, none⟩ = some (.slice none 0 0)) ∧
      (∀ i, W.frozen? ⟨w.heap.size, i, none⟩ = false) := fun W hW => by
    have := zero_cells (w := w.setCell { block := rb, off := 1 } (Value.int IntKind.i64 (dep + 1))) (w' := W) (rb := rb) (by simpa using hrl) (by rw [← hw1]; exact hW)
    simpa only [World.size_setCell] using this
  have HZ := Lib.hid hzero
  clear hw1 hzero hd hf hd2 hf2 hle
  refine (HC.out w1 hr1).mono ?_
  cases o with
  | none =>
    rintro e w' ⟨he, hg⟩
    obtain rfl : e = _ := he
    have hgg := gtrans hg1 hg
    have hrn : res = none := HRES.out.symm
    subst hrn
    go_wp2
    simp [bodyPost, ValPost, Pan]
    exact hgg
  | some y =>
    obtain ⟨u, r⟩ := y
    rintro e w2 ⟨rfl, hu, hr2, hg2⟩
    have hrlen := HLEN.out u r rfl
    go_wp2_with fail
    go_loopw [3, 20] (fun v3 i wr => LInv w2 rb db w2.heap.size (dep + 1) q u r v3 i wr) (fun _ i _ => u - (intOf i).toNat)
    case atStart => exact ⟨0, [], r, rfl, Nat.zero_le _, rfl, Many.nil _ _, hr2, by omega, World.grownBy.refl _ _, by
      rw [Nat.sub_zero]
      cases rdMany (rdV q) u r with
      | none => rfl
      | some y => rfl⟩
    case round =>
      obtain ⟨j, l, cs, rfl, hju, hlj, hmany, hrd, hjl, hgr, hrm⟩ := hrel
      have hgw : w.grownBy wr (some rb) := gtrans hg1 (gtrans hg2 hgr)
      have hjb : j ≤ 1000000000 := by omega
      obtain ⟨i0, hi, hz0, hz2, hz3⟩ := info_parts Try.info24
      by_cases hlt : j < u
      · have hdlt : decide (j < u) = true := by simpa using hlt
        have huj : u - j = (u - j - 1) + 1 := by omega
        rw [huj, rdMany_step] at hrm
        cases hv : rdV q cs with
        | none =>
          rw [hv] at hrm
          have HRM := Lib.hid hrm
          have hcv := IH.out wr rb db cs (dep + 1) (by have := HD.out; omega) (by omega) (by omega) hrd
          rw [hv] at hcv
          have HCV := Lib.hid hcv
          clear hrm hv hcv hmany huj
          go_wp2_with fail
          refine HCV.out.mono ?_
          rintro e w5 ⟨he, hg5⟩
          obtain rfl : e = _ := he
          have hgg := gtrans hgw hg5
          have hrn : res = none := by have := HRES.out; rw [HRM.out] at this; exact this.symm
          subst hrn
          go_wp2
          simp [bodyPost, ValPost, Pan]
          exact hgg
        | some y =>
          obtain ⟨x, r2⟩ := y
          rw [hv] at hrm
          have hvl := rdV_len q cs x r2 hv
          have HRM := Lib.hid hrm
          have hcv := IH.out wr rb db cs (dep + 1) (by have := HD.out; omega) (by omega) (by omega) hrd
          rw [hv] at hcv
          have HCV := Lib.hid hcv
          obtain ⟨xs, hown, hel⟩ := hmany
          have HOWN := Lib.hid hown
          have HEL := Lib.hid hel
          have HGR := Lib.hid hgr
          have HLJ := Lib.hid hlj
          clear hrm hv hcv huj hown hel hgr hlj
          go_wp2_with fail
          refine HCV.out.mono ?_
          rintro e w5 ⟨v, rfl, hx, hr5, hg5⟩
          obtain ⟨k, n, s, a, len, cap, rfl⟩ := own_shape hx
          have hszr := HGR.out.size
          have hsz2 := hg2.size
          have hsz5 := hg5.size
          have hown5 : w5.ownsRow w2.heap.size 24 4 u3 l.length xs := HOWN.out.kept hg5 (.inr fun e => by
            have := HOWN.out.lt rb e
            omega)
          have hob : ∀ k, u3.ownBlock = some k → w2.heap.size ≤ k := fun k e => (HOWN.out.lt k e).1
          have HOB := Lib.hid hob
          rw [HLJ.out] at hown5
          have HOWNR := Lib.hid HOWN.out
          have HOWN5 := Lib.hid hown5
          have HX := Lib.hid hx
          have HR5 := Lib.hid hr5
          have HG5 := Lib.hid hg5
          clear hown5 hx hr5 hg5 HOWN hob
          go_wp2_with ((at_builtin; refine wpList_append_lies _ rfl (.tmp 22) (.tmp 25) 22 rfl w2.heap.size 24 i0 _ 4 56 Try.underlying22 hi hz0 hz2 hz3 rfl (by omega) u3 j xs rfl (HOWN5.out.alloc _) ⟨w5.heap.size, 0, none⟩ 1 1 [.int .i64 k, .int .i64 n, .string s, .slice a len cap] rfl rfl (World.news_of_block (cs := #[.int .i64 k, .int .i64 n, .string s, .slice a len cap]) (t := 24) (fr := (0, 0)) (heap_alloc_new w5 _)) (by simp [Value.oneCell']) (by omega) (by unfold maxLen; omega) (by omega) (by simp; omega) (w5.heap.size + 1) (by simp) ?_; intro g cap2 w6 hown6 hgr6 hat6 hlt6))
          have HOWN6 := Lib.hid hown6
          have HGR6 := Lib.hid hgr6
          have HAT6 := Lib.hid hat6
          clear hown6 hgr6 hat6 hlt6
          go_wp2
          have hmn := Many.next (w := wr) (w' := w5) (w1 := w6) (rb := rb) (x := x) _ HOWNR.out HEL.out (by omega) (by omega) HG5.out HX.out (by rw [HLJ.out]; exact HOWN6.out) HGR6.out HAT6.out
          rw [HLJ.out] at hmn
          have hb6 : ∀ k, k < w2.heap.size → w6.heap[k]? = w5.heap[k]? := fun k hk => (HGR6.out.block k (by simp; omega) (fun e => by have := HOB.out k e.symm; omega)).trans (Below.heap_alloc _ _ _ (by omega))
          have hs6 := HGR6.out.size
          simp only [World.size_alloc] at hs6
          refine ⟨⟨j + 1, l ++ [x], r2, by congr 1, by omega, by rw [List.length_append, HLJ.out]; rfl, hmn, HR5.out.of (hb6 rb (by omega)) (hb6 db (by omega)) (by omega), by omega, gthen (gtrans HGR.out (gtrans HG5.out (World.grownBy_alloc _ _ _))) HGR6.out (fun b e => .inl (HOB.out b e)), ?_⟩, by simp [intOf]; omega⟩
          rw [HRM.out, show u - (j + 1) = u - j - 1 by omega]
          cases rdMany (rdV q) (u - j - 1) r2 with
          | none => rfl
          | some y => obtain ⟨l9, r9⟩ := y; simp
      · subst hlj
        have hje : l.length = u := by omega
        have hdlt : decide (l.length < u) = false := by simp; omega
        have hrm2 : rdMany (rdV q) u r = some (l, cs) := by
          rw [hrm, hje, Nat.sub_self]; simp [rdMany]
        have hrs : res = some (⟨3, 0, ByteArray.empty, l⟩, cs) := by have := HRES.out; simp only [hrm2] at this; exact this.symm
        have HRS := Lib.hid hrs
        obtain ⟨a3, cap3, rfl, hl3, hc3, hsh⟩ := hmany.shape
        have HSH := Lib.hid hsh
        have hdr := hrd.d
        have hfr := hrd.f1
        have HRD := Lib.hid hrd
        have hcl : ∀ i v, (wr.setCell ⟨rb, 1, none⟩ v).cell? ⟨w.heap.size, i, none⟩ = wr.cell? ⟨w.heap.size, i, none⟩ := fun i v => World.cell?_setCell_other _ _ _ _ (by intro hh; injection hh with e1; omega)
        obtain ⟨⟨z0, z1, z2, z3⟩, hfz⟩ := HZ.out wr (gtrans hg2 hgr)
        have y0 := hfz 0
        have y1 := hfz 1
        have y2 := hfz 2
        have y3 := hfz 3
        have hszr := hgr.size
        have hsz2 := hg2.size
        clear hrm hje hrm2 hrs hmany hrd hsh hfz
        go_wp2
        refine bodyPost_ret (v := .agg #[.int .i64 3, .int .i64 0, .string ByteArray.empty, .slice a3 l.length cap3]) (by simp [results, Try.results61, go_sem, hcl, z0, z1, z2, z3]; rfl) rfl ?_
        rw [HRS.out]
        refine ⟨_, rfl, ?_, set4_rdr (HRD.out.setd dep) w.heap.size _ _ _ _ (by omega) (by omega), set4_grown (gtrans hgw (gset _ _ _ _)) (Nat.le_refl _) _ _ _ _⟩
        have hsz4 : (set4 (wr.setCell { block := rb, off := 1 } (Value.int IntKind.i64 dep)) w.heap.size (.int .i64 3) (.int .i64 0) (.string { data := #[] }) (.slice a3 l.length cap3)).heap.size = wr.heap.size := by rw [set4_size]; simp
        have hb4 : ∀ b, w2.heap.size ≤ b → (set4 (wr.setCell { block := rb, off := 1 } (Value.int IntKind.i64 dep)) w.heap.size (.int .i64 3) (.int .i64 0) (.string { data := #[] }) (.slice a3 l.length cap3)).heap[b]? = wr.heap[b]? := fun b hb => by
          rw [set4_block b (by omega), Below.heap_setCell _ _ _ _ (by simp; omega)]
        unfold V.Own
        refine ⟨by unfold In64; omega, by unfold In64; omega, by unfold maxLen; decide, a3, cap3, rfl, hl3, hc3, ?_⟩
        rcases HSH.out with h0 | ⟨g, h0, h1, h2, h3⟩
        · exact .inl h0
        · refine .inr ⟨g, 0, h0, ⟨by omega, ?_⟩, OwnL.keep (fun b hb => hb4 b hb.1) (fun b hb => ⟨by omega, ?_⟩) l g 0 ⟨h1, h2⟩ h3⟩
          · have := hsz4; unfold set4 at this; rw [this]; exact h2
          · have := hsz4; unfold set4 at this; rw [this]; exact hb.2

/-- How lists are read. -/
def manyOf : Nat → Nat → List UInt8 → Option (List V × List UInt8)
  | 0 => fun _ _ => none
  | q + 1 => rdMany (rdV q)
theorem rdV_eq : ∀ q, rdV q = rdStep (manyOf q)
  | 0 => by rw [rdV]; rfl
  | q + 1 => by rw [rdV]; rfl

theorem rdLst_any (q : Nat) (ih : ∀ q', q = q' + 1 → CVal q') (w : World) (rb db : Nat) (bs : List UInt8) (dep : Int) (hdep : dep + q = 16) (hd0 : 0 ≤ dep) (hbl : bs.length ≤ 1000000000) (h : Rdr w rb db bs dep) :
    Calls Try.prog 61 #[.pointer (some ⟨rb, 0, none⟩)] w (ValPost w rb db dep (rdLst (manyOf q) bs)) := by
  cases q with
  | zero =>
    have : dep = 16 := by omega
    subst this
    have e : rdLst (manyOf 0) bs = none := by unfold rdLst manyOf; cases rdNum 0 0 bs <;> rfl
    rw [e]
    exact rdLst_0 w rb db bs h
  | succ q => exact rdLst_5 q (ih q rfl) w rb db bs dep (by omega) hd0 hbl h

abbrev rdArr : Value := .agg #[.nilFunc, .func (.func 59) #[] #[], .func (.func 60) #[] #[], .func (.func 61) #[] #[]]
theorem ridx_1 (w : World) : (Instr.index 76 rdArr (.int .u8 1)).run Try.prog w = .ok (.func (.func 59) #[] #[]) w := by kernel_rfl
theorem ridx_2 (w : World) : (Instr.index 76 rdArr (.int .u8 2)).run Try.prog w = .ok (.func (.func 60) #[] #[]) w := by kernel_rfl
theorem ridx_3 (w : World) : (Instr.index 76 rdArr (.int .u8 3)).run Try.prog w = .ok (.func (.func 61) #[] #[]) w := by kernel_rfl

theorem rdStep_cons (many : Nat → List UInt8 → Option (List V × List UInt8)) (k : UInt8) (bs : List UInt8) : rdStep many (k :: bs) =
    if k.toNat = 1 then rdInt bs else if k.toNat = 2 then rdText bs else if k.toNat = 3 then rdLst many bs else none := rfl

set_option maxHeartbeats 1000000 in
theorem value_none (w : World) (rb db : Nat) (dep : Int) (bs : List UInt8) (q : Nat) (h : Rdr w rb db bs dep) (hb : bs = []) :
    Calls Try.prog 45 #[.pointer (some ⟨rb, 0, none⟩)] w (ValPost w rb db dep (rdV q bs)) := by
  subst hb
  have e : rdV q [] = none := by rw [rdV_eq]; rfl
  rw [e]
  have hc : ∀ W, Below w.heap.size w W → Calls Try.prog 57 #[.pointer (some ⟨rb, 0, none⟩), .int .u64 1] W fun e w' => Pan e ∧ W.grownBy w' (some rb) := fun W hW => take_no W rb db [] dep 1 (by omega) (h.keep hW) (by simp)
  have HC := Lib.hid hc
  clear hc e h
  go_enter Try.func45, Try.ntmps45
  go_wp2_with fail
  refine (HC.out _ (by go_grown)).mono ?_
  rintro e w' ⟨he, hg⟩
  obtain rfl : e = _ := he
  have hgg := gbelow_alloc hg
  go_wp2
  simp [bodyPost, ValPost, Pan]
  exact hgg

set_option maxHeartbeats 1000000 in
theorem value_bad (w : World) (rb db : Nat) (dep : Int) (b : UInt8) (r : List UInt8) (q : Nat) (h : Rdr w rb db (b :: r) dep) (hk : b.toNat ≠ 1 ∧ b.toNat ≠ 2 ∧ b.toNat ≠ 3) :
    Calls Try.prog 45 #[.pointer (some ⟨rb, 0, none⟩)] w (ValPost w rb db dep (rdV q (b :: r))) := by
  have e : rdV q (b :: r) = none := by rw [rdV_eq, rdStep_cons, if_neg hk.1, if_neg hk.2.1, if_neg hk.2.2]
  rw [e]
  have hc : ∀ W, Below w.heap.size w W → Calls Try.prog 57 #[.pointer (some ⟨rb, 0, none⟩), .int .u64 1] W (Taken W rb db (b :: r) dep 1) := fun W hW => take_yes W rb db (b :: r) dep 1 (h.keep hW) (by simp)
  have HC := Lib.hid hc
  have hb8 : b.toNat < 256 := b.toNat_lt
  obtain ⟨K, hK⟩ : ∃ K, b.toNat = K := ⟨_, rfl⟩
  have HK := Lib.hid hK
  rw [hK] at hk hb8
  obtain ⟨hk1, hk2, hk3⟩ := hk
  clear hc e h hK
  go_enter Try.func45, Try.ntmps45
  go_wp2_with fail
  refine (HC.out _ (by go_grown)).mono ?_
  rintro e w' ⟨a, rfl, ha, hr3, hg⟩
  obtain ⟨off, rfl, hc⟩ : ∃ off, a = some ⟨db, off, none⟩ ∧ w'.cell? ⟨db, off, none⟩ = some (.int .u8 K) := by
    rcases ha with ha | ⟨off, h1, h2⟩
    · omega
    · exact ⟨off, h1, by rw [← HK.out]; exact h2 0 (by simp) (by omega)⟩
  have hgg := gbelow_alloc hg
  clear ha hr3 hg
  by_cases h0 : K = 0
  · subst h0
    go_wp2_with fail
    refine (need_no rb _).mono ?_
    rintro e w5 ⟨he, rfl⟩
    obtain rfl : e = _ := he
    go_wp2
    simp [bodyPost, ValPost, Pan]
    exact hgg
  · have e1 : decide (1 ≤ (K : Int)) = true := by simp; omega
    have e2 : decide ((K : Int) ≤ 3) = false := by simp; omega
    go_wp2_with fail
    refine (need_no rb _).mono ?_
    rintro e w5 ⟨he, rfl⟩
    obtain rfl : e = _ := he
    go_wp2
    simp [bodyPost, ValPost, Pan]
    exact hgg

set_option maxHeartbeats 1000000 in
theorem value_1 (w : World) (rb db : Nat) (dep : Int) (b : UInt8) (r : List UInt8) (hk : b.toNat = 1) (h : Rdr w rb db (b :: r) dep) (o : Option (V × List UInt8))
    (hF : ∀ W, Rdr W rb db r dep → Calls Try.prog 59 #[.pointer (some ⟨rb, 0, none⟩)] W (ValPost W rb db dep o)) :
    Calls Try.prog 45 #[.pointer (some ⟨rb, 0, none⟩)] w (ValPost w rb db dep o) := by
  have hrl := h.lt
  have hdl := h.dl
  have hc : ∀ W, Below w.heap.size w W → Calls Try.prog 57 #[.pointer (some ⟨rb, 0, none⟩), .int .u64 1] W (Taken W rb db (b :: r) dep 1) := fun W hW => take_yes W rb db (b :: r) dep 1 (h.keep hW) (by simp)
  have HC := Lib.hid hc
  have HK := Lib.hid hk
  have HF := Lib.hid hF
  clear hc h hk hF
  have i1 := ridx_1
  go_enter Try.func45, Try.ntmps45
  go_wp2_with fail
  refine (HC.out _ (by go_grown)).mono ?_
  rintro e w' ⟨a, rfl, ha, hr3, hg⟩
  obtain ⟨off, rfl, hc⟩ : ∃ off, a = some ⟨db, off, none⟩ ∧ w'.cell? ⟨db, off, none⟩ = some (.int .u8 1) := by
    rcases ha with ha | ⟨off, h1, h2⟩
    · omega
    · refine ⟨off, h1, ?_⟩
      have := h2 0 (by simp) (by omega)
      rw [List.getElem_cons_zero, HK.out] at this
      exact this
  have HR3 := Lib.hid hr3
  clear ha hr3
  go_wp2_with fail
  refine (need_yes rb _).mono ?_
  rintro e w4 ⟨rfl, rfl⟩
  go_wp2_with fail
  refine (readers_any _).mono ?_
  rintro e w5 ⟨rfl, hb5⟩
  go_wp2_with fail
  refine (HF.out w5 (HR3.out.keep hb5)).mono ?_
  cases o with
  | none =>
    rintro e w6 ⟨he, hg6⟩
    obtain rfl : e = _ := he
    have hgg := gbelow_alloc (gtrans hg (gtrans (gbelow hb5) hg6))
    go_wp2
    simp [bodyPost, ValPost, Pan]
    exact hgg
  | some y =>
    obtain ⟨x, r2⟩ := y
    rintro e w6 ⟨v, rfl, hx, hr6, hg6⟩
    obtain ⟨k, n, s, a, len, cap, rfl⟩ := own_shape hx
    have hgt := gtrans hg (gtrans (gbelow hb5) hg6)
    obtain ⟨⟨z0, z1, z2, z3⟩, hfz⟩ := zero_cells hrl hgt
    have y0 := hfz 0
    have y1 := hfz 1
    have y2 := hfz 2
    have y3 := hfz 3
    have hgg := gbelow_alloc hgt
    have hs5 := hb5.size
    have hs6 := hg6.size
    have hs0 := hg.size
    simp only [World.size_alloc] at hs0
    have HX := Lib.hid hx
    have HR6 := Lib.hid hr6
    clear hx hr6 hfz hg hgt hg6 hb5 hc
    go_wp2
    refine bodyPost_ret (v := .agg #[.int .i64 k, .int .i64 n, .string s, .slice a len cap]) (by simp [results, Try.results45, go_sem, z0, z1, z2, z3]) rfl ?_
    refine ⟨_, rfl, ?_, set4_rdr HR6.out w.heap.size _ _ _ _ (by omega) (by omega), set4_grown hgg (Nat.le_refl _) _ _ _ _⟩
    refine V.Own.keep (fun b hb => ?_) (fun b hb => ⟨by omega, ?_⟩) x _ HX.out
    · exact set4_block b (by omega)
    · have := set4_size (w := w6) (b := w.heap.size) (v0 := .int .i64 k) (v1 := .int .i64 n) (v2 := .string s) (v3 := .slice a len cap)
      unfold set4 at this; rw [this]; exact hb.2

set_option maxHeartbeats 1000000 in
theorem value_2 (w : World) (rb db : Nat) (dep : Int) (b : UInt8) (r : List UInt8) (hk : b.toNat = 2) (h : Rdr w rb db (b :: r) dep) (o : Option (V × List UInt8))
    (hF : ∀ W, Rdr W rb db r dep → Calls Try.prog 60 #[.pointer (some ⟨rb, 0, none⟩)] W (ValPost W rb db dep o)) :
    Calls Try.prog 45 #[.pointer (some ⟨rb, 0, none⟩)] w (ValPost w rb db dep o) := by
  have hrl := h.lt
  have hdl := h.dl
  have hc : ∀ W, Below w.heap.size w W → Calls Try.prog 57 #[.pointer (some ⟨rb, 0, none⟩), .int .u64 1] W (Taken W rb db (b :: r) dep 1) := fun W hW => take_yes W rb db (b :: r) dep 1 (h.keep hW) (by simp)
  have HC := Lib.hid hc
  have HK := Lib.hid hk
  have HF := Lib.hid hF
  clear hc h hk hF
  have i1 := ridx_2
  go_enter Try.func45, Try.ntmps45
  go_wp2_with fail
  refine (HC.out _ (by go_grown)).mono ?_
  rintro e w' ⟨a, rfl, ha, hr3, hg⟩
  obtain ⟨off, rfl, hc⟩ : ∃ off, a = some ⟨db, off, none⟩ ∧ w'.cell? ⟨db, off, none⟩ = some (.int .u8 2) := by
    rcases ha with ha | ⟨off, h1, h2⟩
    · omega
    · refine ⟨off, h1, ?_⟩
      have := h2 0 (by simp) (by omega)
      rw [List.getElem_cons_zero, HK.out] at this
      exact this
  have HR3 := Lib.hid hr3
  clear ha hr3
  go_wp2_with fail
  refine (need_yes rb _).mono ?_
  rintro e w4 ⟨rfl, rfl⟩
  go_wp2_with fail
  refine (readers_any _).mono ?_
  rintro e w5 ⟨rfl, hb5⟩
  go_wp2_with fail
  refine (HF.out w5 (HR3.out.keep hb5)).mono ?_
  cases o with
  | none =>
    rintro e w6 ⟨he, hg6⟩
    obtain rfl : e = _ := he
    have hgg := gbelow_alloc (gtrans hg (gtrans (gbelow hb5) hg6))
    go_wp2
    simp [bodyPost, ValPost, Pan]
    exact hgg
  | some y =>
    obtain ⟨x, r2⟩ := y
    rintro e w6 ⟨v, rfl, hx, hr6, hg6⟩
    obtain ⟨k, n, s, a, len, cap, rfl⟩ := own_shape hx
    have hgt := gtrans hg (gtrans (gbelow hb5) hg6)
    obtain ⟨⟨z0, z1, z2, z3⟩, hfz⟩ := zero_cells hrl hgt
    have y0 := hfz 0
    have y1 := hfz 1
    have y2 := hfz 2
    have y3 := hfz 3
    have hgg := gbelow_alloc hgt
    have hs5 := hb5.size
    have hs6 := hg6.size
    have hs0 := hg.size
    simp only [World.size_alloc] at hs0
    have HX := Lib.hid hx
    have HR6 := Lib.hid hr6
    clear hx hr6 hfz hg hgt hg6 hb5 hc
    go_wp2
    refine bodyPost_ret (v := .agg #[.int .i64 k, .int .i64 n, .string s, .slice a len cap]) (by simp [results, Try.results45, go_sem, z0, z1, z2, z3]) rfl ?_
    refine ⟨_, rfl, ?_, set4_rdr HR6.out w.heap.size _ _ _ _ (by omega) (by omega), set4_grown hgg (Nat.le_refl _) _ _ _ _⟩
    refine V.Own.keep (fun b hb => ?_) (fun b hb => ⟨by omega, ?_⟩) x _ HX.out
    · exact set4_block b (by omega)
    · have := set4_size (w := w6) (b := w.heap.size) (v0 := .int .i64 k) (v1 := .int .i64 n) (v2 := .string s) (v3 := .slice a len cap)
      unfold set4 at this; rw [this]; exact hb.2

set_option maxHeartbeats 1000000 in
theorem value_3 (w : World) (rb db : Nat) (dep : Int) (b : UInt8) (r : List UInt8) (hk : b.toNat = 3) (h : Rdr w rb db (b :: r) dep) (o : Option (V × List UInt8))
    (hF : ∀ W, Rdr W rb db r dep → Calls Try.prog 61 #[.pointer (some ⟨rb, 0, none⟩)] W (ValPost W rb db dep o)) :
    Calls Try.prog 45 #[.pointer (some ⟨rb, 0, none⟩)] w (ValPost w rb db dep o) := by
  have hrl := h.lt
  have hdl := h.dl
  have hc : ∀ W, Below w.heap.size w W → Calls Try.prog 57 #[.pointer (some ⟨rb, 0, none⟩), .int .u64 1] W (Taken W rb db (b :: r) dep 1) := fun W hW => take_yes W rb db (b :: r) dep 1 (h.keep hW) (by simp)
  have HC := Lib.hid hc
  have HK := Lib.hid hk
  have HF := Lib.hid hF
  clear hc h hk hF
  have i1 := ridx_3
  go_enter Try.func45, Try.ntmps45
  go_wp2_with fail
  refine (HC.out _ (by go_grown)).mono ?_
  rintro e w' ⟨a, rfl, ha, hr3, hg⟩
  obtain ⟨off, rfl, hc⟩ : ∃ off, a = some ⟨db, off, none⟩ ∧ w'.cell? ⟨db, off, none⟩ = some (.int .u8 3) := by
    rcases ha with ha | ⟨off, h1, h2⟩
    · omega
    · refine ⟨off, h1, ?_⟩
      have := h2 0 (by simp) (by omega)
      rw [List.getElem_cons_zero, HK.out] at this
      exact this
  have HR3 := Lib.hid hr3
  clear ha hr3
  go_wp2_with fail
  refine (need_yes rb _).mono ?_
  rintro e w4 ⟨rfl, rfl⟩
  go_wp2_with fail
  refine (readers_any _).mono ?_
  rintro e w5 ⟨rfl, hb5⟩
  go_wp2_with fail
  refine (HF.out w5 (HR3.out.keep hb5)).mono ?_
  cases o with
  | none =>
    rintro e w6 ⟨he, hg6⟩
    obtain rfl : e = _ := he
    have hgg := gbelow_alloc (gtrans hg (gtrans (gbelow hb5) hg6))
    go_wp2
    simp [bodyPost, ValPost, Pan]
    exact hgg
  | some y =>
    obtain ⟨x, r2⟩ := y
    rintro e w6 ⟨v, rfl, hx, hr6, hg6⟩
    obtain ⟨k, n, s, a, len, cap, rfl⟩ := own_shape hx
    have hgt := gtrans hg (gtrans (gbelow hb5) hg6)
    obtain ⟨⟨z0, z1, z2, z3⟩, hfz⟩ := zero_cells hrl hgt
    have y0 := hfz 0
    have y1 := hfz 1
    have y2 := hfz 2
    have y3 := hfz 3
    have hgg := gbelow_alloc hgt
    have hs5 := hb5.size
    have hs6 := hg6.size
    have hs0 := hg.size
    simp only [World.size_alloc] at hs0
    have HX := Lib.hid hx
    have HR6 := Lib.hid hr6
    clear hx hr6 hfz hg hgt hg6 hb5 hc
    go_wp2
    refine bodyPost_ret (v := .agg #[.int .i64 k, .int .i64 n, .string s, .slice a len cap]) (by simp [results, Try.results45, go_sem, z0, z1, z2, z3]) rfl ?_
    refine ⟨_, rfl, ?_, set4_rdr HR6.out w.heap.size _ _ _ _ (by omega) (by omega), set4_grown hgg (Nat.le_refl _) _ _ _ _⟩
    refine V.Own.keep (fun b hb => ?_) (fun b hb => ⟨by omega, ?_⟩) x _ HX.out
    · exact set4_block b (by omega)
    · have := set4_size (w := w6) (b := w.heap.size) (v0 := .int .i64 k) (v1 := .int .i64 n) (v2 := .string s) (v3 := .slice a len cap)
      unfold set4 at this; rw [this]; exact hb.2

theorem cVal : ∀ q, CVal q := by
  intro q
  induction q using Nat.strongRecOn with
  | _ q ih =>
    intro w rb db bs dep hdep hd0 hbl h
    cases bs with
    | nil => exact value_none w rb db dep [] q h rfl
    | cons b r =>
      have hrl : r.length ≤ 1000000000 := by rw [List.length_cons] at hbl; omega
      by_cases h1 : b.toNat = 1
      · have e : rdV q (b :: r) = rdInt r := by rw [rdV_eq, rdStep_cons, if_pos h1]
        rw [e]
        exact value_1 w rb db dep b r h1 h _ (fun W hW => rdInt_any W rb db dep r hrl hW)
      by_cases h2 : b.toNat = 2
      · have e : rdV q (b :: r) = rdText r := by rw [rdV_eq, rdStep_cons, if_neg h1, if_pos h2]
        rw [e]
        exact value_2 w rb db dep b r h2 h _ (fun W hW => rdText_any W rb db dep r hrl hW)
      by_cases h3 : b.toNat = 3
      · have e : rdV q (b :: r) = rdLst (manyOf q) r := by rw [rdV_eq, rdStep_cons, if_neg h1, if_neg h2, if_pos h3]
        rw [e]
        exact value_3 w rb db dep b r h3 h _ (fun W hW => rdLst_any q (fun q' e => ih q' (by omega)) W rb db r dep hdep hd0 hrl hW)
      · exact value_bad w rb db dep b r q h ⟨h1, h2, h3⟩

end Go.Proofs.Ytkecoohplpbgnaa
