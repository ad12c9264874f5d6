/- What the reader reads, as a function on bytes; the readers of integers and texts. -/
import Derived.Test.YtkecoohplpbgnaaRdNum
import Derived.Lib.SlBytesRow
import Derived.Laws.EntriesVeiled
import Derived.Deep.AppendLies
namespace Go.Proofs.Ytkecoohplpbgnaa
open Go.RowKit

mutual
/-- A value reads as a tree; all blocks that it leads to are of a kind. -/
def V.Own (w : World) (p : Nat → Prop) : V → Value → Prop
  | ⟨k, n, s, l⟩, v => In64 k ∧ In64 n ∧ s.size ≤ maxLen ∧ ∃ a cap, v = .agg #[.int .i64 k, .int .i64 n, .string s, .slice a l.length cap] ∧ l.length ≤ cap ∧ cap ≤ maxLen ∧
      (l = [] ∨ ∃ b off, a = some ⟨b, off, none⟩ ∧ p b ∧ OwnL w p l b off)
def OwnL (w : World) (p : Nat → Prop) : List V → Nat → Nat → Prop
  | [], _, _ => True
  | x :: xs, b, off => (∃ c0 c1 c2 c3, w.cell? ⟨b, off, none⟩ = some c0 ∧ w.cell? ⟨b, off + 1, none⟩ = some c1 ∧ w.cell? ⟨b, off + 2, none⟩ = some c2 ∧ w.cell? ⟨b, off + 3, none⟩ = some c3 ∧
      V.Own w p x (.agg #[c0, c1, c2, c3])) ∧ OwnL w p xs b (off + 4)
end

mutual
theorem V.Own.at {w : World} {p : Nat → Prop} {B : Nat} (hp : ∀ b, p b → b < B) : ∀ (x : V) (v : Value), V.Own w p x v → V.At w B x v
  | ⟨k, n, s, l⟩, v, h => by
    unfold V.Own at h
    unfold V.At
    obtain ⟨h1, h2, h3, a, cap, h4, h5, h6, h7⟩ := h
    refine ⟨h1, h2, h3, a, cap, h4, h5, h6, ?_⟩
    rcases h7 with h7 | ⟨b, off, h8, h9, h10⟩
    · exact .inl h7
    · exact .inr ⟨b, off, h8, hp b h9, OwnL.at hp l b off h10⟩
theorem OwnL.at {w : World} {p : Nat → Prop} {B : Nat} (hp : ∀ b, p b → b < B) : ∀ (l : List V) (b off : Nat), OwnL w p l b off → AtL w B l b off
  | [], _, _, _ => by unfold AtL; trivial
  | x :: xs, b, off, h => by
    unfold OwnL at h
    unfold AtL
    obtain ⟨⟨c0, c1, c2, c3, e0, e1, e2, e3, h0⟩, hr⟩ := h
    exact ⟨⟨c0, c1, c2, c3, e0, e1, e2, e3, V.Own.at hp x _ h0⟩, OwnL.at hp xs b _ hr⟩
end

mutual
theorem V.Own.keep {w w' : World} {p q : Nat → Prop} (hw : ∀ b, p b → w'.heap[b]? = w.heap[b]?) (hq : ∀ b, p b → q b) : ∀ (x : V) (v : Value), V.Own w p x v → V.Own w' q x v
  | ⟨k, n, s, l⟩, v, h => by
    unfold V.Own at h ⊢
    obtain ⟨h1, h2, h3, a, cap, h4, h5, h6, h7⟩ := h
    refine ⟨h1, h2, h3, a, cap, h4, h5, h6, ?_⟩
    rcases h7 with h7 | ⟨b, off, h8, h9, h10⟩
    · exact .inl h7
    · exact .inr ⟨b, off, h8, hq b h9, OwnL.keep hw hq l b off h9 h10⟩
theorem OwnL.keep {w w' : World} {p q : Nat → Prop} (hw : ∀ b, p b → w'.heap[b]? = w.heap[b]?) (hq : ∀ b, p b → q b) : ∀ (l : List V) (b off : Nat), p b → OwnL w p l b off → OwnL w' q l b off
  | [], _, _, _, _ => by unfold OwnL; trivial
  | x :: xs, b, off, hb, h => by
    unfold OwnL at h ⊢
    obtain ⟨⟨c0, c1, c2, c3, e0, e1, e2, e3, h0⟩, hr⟩ := h
    have hc : ∀ o, w'.cell? ⟨b, o, none⟩ = w.cell? ⟨b, o, none⟩ := fun o => World.cell?_of_block (w := w) (a := ⟨b, o, none⟩) (hw b hb)
    exact ⟨⟨c0, c1, c2, c3, (hc _).trans e0, (hc _).trans e1, (hc _).trans e2, (hc _).trans e3, V.Own.keep hw hq x _ h0⟩, OwnL.keep hw hq xs b _ hb hr⟩
end

/-- The integer of an unsigned form. -/
def zag (u : Nat) : Int := if u % 2 = 1 then -((u / 2 : Nat) : Int) - 1 else ((u / 2 : Nat) : Int)

def rdMany (rd : List UInt8 → Option (V × List UInt8)) : Nat → List UInt8 → Option (List V × List UInt8)
  | 0, bs => some ([], bs)
  | n + 1, bs => match rd bs with
    | none => none
    | some (x, r) => match rdMany rd n r with
      | none => none
      | some (l, r2) => some (x :: l, r2)

def rdStep (many : Nat → List UInt8 → Option (List V × List UInt8)) : List UInt8 → Option (V × List UInt8)
  | [] => none
  | k :: bs =>
    if k.toNat = 1 then match rdNum 0 0 bs with | none => none | some (u, r) => some (⟨1, zag u, ByteArray.empty, []⟩, r)
    else if k.toNat = 2 then match rdNum 0 0 bs with | none => none | some (u, r) => if u ≤ r.length then some (⟨2, 0, ⟨(r.take u).toArray⟩, []⟩, r.drop u) else none
    else if k.toNat = 3 then match rdNum 0 0 bs with | none => none | some (u, r) => match many u r with | none => none | some (l, r2) => some (⟨3, 0, ByteArray.empty, l⟩, r2)
    else none

/-- What is read, where lists may still be so deep. -/
def rdV : Nat → List UInt8 → Option (V × List UInt8)
  | 0 => rdStep fun _ _ => none
  | q + 1 => rdStep (rdMany (rdV q))

/-- What the readers end in. -/
def ValPost (w : World) (rb db : Nat) (dep : Int) (o : Option (V × List UInt8)) (e : Ending) (w' : World) : Prop :=
  match o with
  | none => Pan e ∧ w.grownBy w' (some rb)
  | some (x, r) => ∃ v, e = .returned v ∧ V.Own w' (fun b => w.heap.size ≤ b ∧ b < w'.heap.size) x v ∧ Rdr w' rb db r dep ∧ w.grownBy w' (some rb)

theorem size_mk (bs : List UInt8) : (⟨bs.toArray⟩ : ByteArray).size = bs.length := by show bs.toArray.size = _; simp

theorem conv_bytes (W : World) (a : Option Addr) (bs : List UInt8) (cap : Nat) (h : bs = [] ∨ ∃ b off, a = some ⟨b, off, none⟩ ∧ ∀ i (h : i < bs.length), W.cell? ⟨b, off + i, none⟩ = some (.int .u8 (bs[i]).toNat)) :
    (convert 27 9 (.slice a bs.length cap)).run Try.prog W = .ok (.string ⟨bs.toArray⟩) W := by
  rcases h with h | ⟨b, off, rfl, h⟩
  · subst h
    rw [run_convert_bytes_string W 27 9 5 a _ _ Try.underlying27 Try.underlying5 Try.underlying9]
    cases a <;> simp [Conv.bytesToString, loadCells, loadCellsFrom] <;> rfl
  · have := Lib.run_convert_whole (P := Try.prog) W 27 5 9 Try.underlying27 Try.underlying5 Try.underlying9 b off ⟨bs.toArray⟩ (fun i hi => by rw [size_mk] at hi; exact h i hi) cap
    rw [size_mk] at this
    exact this

theorem readers_any (w : World) :
    Calls Try.prog 58 #[] w fun e w' => e = .returned (.agg #[.nilFunc, .func (.func 59) #[] #[], .func (.func 60) #[] #[], .func (.func 61) #[] #[]]) ∧ Below w.heap.size w w' := by
  go_enter Try.func58, Try.ntmps58
  go_wp2
  go_returns
  exact ⟨rfl, by go_grown⟩

theorem zag_in (u : Nat) (hu : u < 18446744073709551616) : In64 (zag u) := by
  unfold In64 zag
  split <;> omega

theorem own_int {w : World} {p : Nat → Prop} (n : Int) (hn : In64 n) : V.Own w p ⟨1, n, ByteArray.empty, []⟩ (.agg #[.int .i64 1, .int .i64 n, .string ByteArray.empty, .slice none 0 0]) := by
  unfold V.Own
  exact ⟨by unfold In64; omega, hn, by unfold maxLen; decide, none, 0, rfl, by simp, by unfold maxLen; omega, .inl rfl⟩

theorem own_text {w : World} {p : Nat → Prop} (s : ByteArray) (hs : s.size ≤ maxLen) : V.Own w p ⟨2, 0, s, []⟩ (.agg #[.int .i64 2, .int .i64 0, .string s, .slice none 0 0]) := by
  unfold V.Own
  exact ⟨by unfold In64; omega, by unfold In64; omega, hs, none, 0, rfl, by simp, by unfold maxLen; omega, .inl rfl⟩

theorem gset_new {w w' : World} {row : Option Nat} (h : w.grownBy w' row) {b : Nat} (hb : w.heap.size ≤ b) (o : Nat) (v : Value) : w.grownBy (w'.setCell ⟨b, o, none⟩ v) row :=
  ⟨h.os, h.tape, h.output, by simpa using h.size, fun k hk hne => (Below.heap_setCell w' ⟨b, o, none⟩ v k (by simp; omega)).trans (h.block k hk hne)⟩

/-- A struct of four cells is laid. -/
def set4 (w : World) (b : Nat) (v0 v1 v2 v3 : Value) : World := (((w.setCell ⟨b, 0, none⟩ v0).setCell ⟨b, 1, none⟩ v1).setCell ⟨b, 2, none⟩ v2).setCell ⟨b, 3, none⟩ v3
theorem set4_rdr {w : World} {rb db : Nat} {bs : List UInt8} {dep : Int} (h : Rdr w rb db bs dep) (b : Nat) (v0 v1 v2 v3 : Value) (h1 : rb ≠ b) (h2 : db ≠ b) : Rdr (set4 w b v0 v1 v2 v3) rb db bs dep :=
  (((h.set b 0 v0 h1 h2).set b 1 v1 h1 h2).set b 2 v2 h1 h2).set b 3 v3 h1 h2
theorem set4_grown {w w' : World} {row : Option Nat} (h : w.grownBy w' row) {b : Nat} (hb : w.heap.size ≤ b) (v0 v1 v2 v3 : Value) : w.grownBy (set4 w' b v0 v1 v2 v3) row :=
  gset_new (gset_new (gset_new (gset_new h hb 0 v0) hb 1 v1) hb 2 v2) hb 3 v3
theorem set4_block {w : World} {b : Nat} {v0 v1 v2 v3 : Value} (k : Nat) (hk : k ≠ b) : (set4 w b v0 v1 v2 v3).heap[k]? = w.heap[k]? := by
  unfold set4
  rw [Below.heap_setCell _ _ _ _ hk, Below.heap_setCell _ _ _ _ hk, Below.heap_setCell _ _ _ _ hk, Below.heap_setCell _ _ _ _ hk]
theorem set4_size {w : World} {b : Nat} {v0 v1 v2 v3 : Value} : (set4 w b v0 v1 v2 v3).heap.size = w.heap.size := by unfold set4; simp

/-- The reader of integers. -/
def rdInt (bs : List UInt8) : Option (V × List UInt8) := match rdNum 0 0 bs with | none => none | some (u, r) => some (⟨1, zag u, ByteArray.empty, []⟩, r)
/-- The reader of texts. -/
def rdText (bs : List UInt8) : Option (V × List UInt8) := match rdNum 0 0 bs with | none => none | some (u, r) => if u ≤ r.length then some (⟨2, 0, ⟨(r.take u).toArray⟩, []⟩, r.drop u) else none

theorem gbelow_alloc {w w' : World} {o : Obj} {row : Option Nat} (h : (w.alloc o).grownBy w' row) : w.grownBy w' row := gtrans (World.grownBy_alloc _ _ _) h

set_option maxHeartbeats 1000000 in
theorem rdInt_any (w : World) (rb db : Nat) (dep : Int) (bs : List UInt8) (hbl : bs.length ≤ 1000000000) (h : Rdr w rb db bs dep) :
    Calls Try.prog 59 #[.pointer (some ⟨rb, 0, none⟩)] w (ValPost w rb db dep (rdInt bs)) := by
  have hc : ∀ W, Below w.heap.size w W → Calls Try.prog 62 #[.pointer (some ⟨rb, 0, none⟩)] W (NumPost W rb db dep (rdNum 0 0 bs)) := fun W hW => rdNum_any W rb db dep bs hbl (h.keep hW)
  have hrl := h.lt
  have hdl := h.dl
  unfold rdInt
  obtain ⟨o, ho⟩ : ∃ o, rdNum 0 0 bs = o := ⟨_, rfl⟩
  rw [ho] at hc ⊢
  have HC := Lib.hid hc
  clear hc ho h
  cases o with
  | none =>
    go_enter Try.func59, Try.ntmps59
    go_wp2_with fail
    refine (HC.out _ (by go_grown)).mono ?_
    rintro e w' ⟨he, hg⟩
    obtain rfl : e = _ := he
    have hgg := gbelow_alloc hg
    go_wp2
    simp [bodyPost, ValPost, Pan]
    exact hgg
  | some y =>
    obtain ⟨u, r⟩ := y
    go_enter Try.func59, Try.ntmps59
    go_wp2_with fail
    refine (HC.out _ (by go_grown)).mono ?_
    rintro e w' ⟨rfl, hu, hr, hg⟩
    have HU := Lib.hid hu
    have HRR := Lib.hid hr
    have hgg := gbelow_alloc hg
    have hsz := hg.size
    have hcz : ∀ i v, (w.alloc (Obj.cells #[Value.int IntKind.i64 0, Value.int IntKind.i64 0, Value.string { data := #[] }, Value.slice none 0 0] 24)).cell? ⟨w.heap.size, i, none⟩ = some v → w'.cell? ⟨w.heap.size, i, none⟩ = some v := fun i v hv => hg.cell hv (by simp; omega)
    have z0 := hcz 0 (.int .i64 0) (by go_cell)
    have z1 := hcz 1 (.int .i64 0) (by go_cell)
    have z2 := hcz 2 (.string { data := #[] }) (by go_cell)
    have z3 := hcz 3 (.slice none 0 0) (by go_cell)
    have hfz : ∀ i, w'.frozen? ⟨w.heap.size, i, none⟩ = false := fun i => by
      rw [World.frozen?_of_block (w := w.alloc (Obj.cells #[Value.int IntKind.i64 0, Value.int IntKind.i64 0, Value.string { data := #[] }, Value.slice none 0 0] 24)) (hg.block w.heap.size (by simp) (by simp; omega))]
      go_cell
    have y0 := hfz 0
    have y1 := hfz 1
    have y2 := hfz 2
    have y3 := hfz 3
    have hdn : db ≠ w.heap.size := by omega
    have hzag := zag_in u hu
    have HZAG := Lib.hid hzag
    have hq1 : (u : Int) / 2 ≤ 9223372036854775807 := by omega
    have hq0 : 0 ≤ (u : Int) / 2 := by omega
    clear hcz hfz hzag hu hr hg
    by_cases hod : u % 2 = 1
    · have hod' : ((u : Int) % 2 == 1) = true := by rw [beq_iff_eq]; omega
      have ez : zag u = -((u : Int) / 2) - 1 := by unfold zag; rw [if_pos hod]; push_cast; rfl
      have EZ := Lib.hid ez
      clear ez hod
      go_wp2
      refine bodyPost_ret (v := .agg #[.int .i64 1, .int .i64 (-((u : Int) / 2) - 1), .string ByteArray.empty, .slice none 0 0]) (by simp [results, Try.results59, go_sem, z0, z1, z2, z3]; rfl) rfl ?_
      exact ⟨_, rfl, by rw [EZ.out]; exact own_int _ (by rw [← EZ.out]; exact HZAG.out), set4_rdr HRR.out w.heap.size _ _ _ _ (by omega) hdn, set4_grown hgg (Nat.le_refl _) _ _ _ _⟩
    · have hod' : ((u : Int) % 2 == 1) = false := by rw [beq_eq_false_iff_ne]; omega
      have ez : zag u = (u : Int) / 2 := by unfold zag; rw [if_neg hod]; push_cast; rfl
      have EZ := Lib.hid ez
      clear ez hod
      go_wp2
      refine bodyPost_ret (v := .agg #[.int .i64 1, .int .i64 ((u : Int) / 2), .string ByteArray.empty, .slice none 0 0]) (by simp [results, Try.results59, go_sem, z0, z1, z2, z3]; rfl) rfl ?_
      exact ⟨_, rfl, by rw [EZ.out]; exact own_int _ (by rw [← EZ.out]; exact HZAG.out), set4_rdr HRR.out w.heap.size _ _ _ _ (by omega) hdn, set4_grown hgg (Nat.le_refl _) _ _ _ _⟩

theorem rdNum_len : ∀ (bs : List UInt8) (sh u : Nat) (v : Nat) (r : List UInt8), rdNum sh u bs = some (v, r) → r.length < bs.length
  | [], _, _, _, _, h => by simp [rdNum] at h
  | b :: bs, sh, u, v, r, h => by
    rw [rdNum_cons] at h
    rw [List.length_cons]
    split at h
    · split at h
      · split at h
        · injection h with h; injection h with h1 h2; subst h2; omega
        · cases h
      · have := rdNum_len bs _ _ _ _ h; omega
    · cases h

/-- The cells of a new zero value. -/
theorem zero_cells {w w' : World} {rb : Nat} (hrl : rb < w.heap.size) (hg : (w.alloc (Obj.cells #[Value.int IntKind.i64 0, Value.int IntKind.i64 0, Value.string { data := #[] }, Value.slice none 0 0] 24)).grownBy w' (some rb)) :
    (w'.cell? ⟨w.heap.size, 0, none⟩ = some (.int .i64 0) ∧ w'.cell? ⟨w.heap.size, 1, none⟩ = some (.int .i64 0) ∧ w'.cell? ⟨w.heap.size, 2, none⟩ = some (.string { data := #[] }) ∧ w'.cell? ⟨w.heap.size, 3, none⟩ = some (.slice none 0 0)) ∧
    (∀ i, w'.frozen? ⟨w.heap.size, i, none⟩ = false) := by
  have hcz : ∀ i v, (w.alloc (Obj.cells #[Value.int IntKind.i64 0, Value.int IntKind.i64 0, Value.string { data := #[] }, Value.slice none 0 0] 24)).cell? ⟨w.heap.size, i, none⟩ = some v → w'.cell? ⟨w.heap.size, i, none⟩ = some v := fun i v hv => hg.cell hv (by simp; omega)
  refine ⟨⟨hcz 0 (.int .i64 0) (by go_cell), hcz 1 (.int .i64 0) (by go_cell), hcz 2 (.string { data := #[] }) (by go_cell), hcz 3 (.slice none 0 0) (by go_cell)⟩, fun i => ?_⟩
  rw [World.frozen?_of_block (w := w.alloc (Obj.cells #[Value.int IntKind.i64 0, Value.int IntKind.i64 0, Value.string { data := #[] }, Value.slice none 0 0] 24)) (hg.block w.heap.size (by simp) (by simp; omega))]
  go_cell

set_option maxHeartbeats 1000000 in
theorem rdText_any (w : World) (rb db : Nat) (dep : Int) (bs : List UInt8) (hbl : bs.length ≤ 1000000000) (h : Rdr w rb db bs dep) :
    Calls Try.prog 60 #[.pointer (some ⟨rb, 0, none⟩)] w (ValPost w rb db dep (rdText bs)) := by
  have hc : ∀ W, Below w.heap.size w W → Calls Try.prog 62 #[.pointer (some ⟨rb, 0, none⟩)] W (NumPost W rb db dep (rdNum 0 0 bs)) := fun W hW => rdNum_any W rb db dep bs hbl (h.keep hW)
  have hrl := h.lt
  have hdl := h.dl
  unfold rdText
  obtain ⟨o, ho⟩ : ∃ o, rdNum 0 0 bs = o := ⟨_, rfl⟩
  have hle : ∀ u r, o = some (u, r) → r.length < bs.length := fun u r hh => rdNum_len bs 0 0 u r (ho.trans hh)
  rw [ho] at hc ⊢
  have HC := Lib.hid hc
  have HLE := Lib.hid hle
  clear hc ho h hle
  cases o with
  | none =>
    go_enter Try.func60, Try.ntmps60
    go_wp2_with fail
    refine (HC.out _ (by go_grown)).mono ?_
    rintro e w' ⟨he, hg⟩
    obtain rfl : e = _ := he
    have hgg := gbelow_alloc hg
    go_wp2
    simp [bodyPost, ValPost, Pan]
    exact hgg
  | some y =>
    obtain ⟨u, r⟩ := y
    have hrl2 := HLE.out u r rfl
    by_cases hur : u ≤ r.length
    · simp only [hur, if_true]
      go_enter Try.func60, Try.ntmps60
      go_wp2_with fail
      refine (HC.out _ (by go_grown)).mono ?_
      rintro e w' ⟨rfl, hu, hr, hg⟩
      go_wp2_with fail
      refine (take_yes w' rb db r dep u hr hur).mono ?_
      rintro e w5 ⟨a, rfl, ha, hr5, hg5⟩
      have hgt := gtrans hg hg5
      obtain ⟨⟨z0, z1, z2, z3⟩, hfz⟩ := zero_cells hrl hgt
      have y0 := hfz 0
      have y1 := hfz 1
      have y2 := hfz 2
      have y3 := hfz 3
      have hdn : db ≠ w.heap.size := by omega
      have hgg := gbelow_alloc hgt
      have hcv := conv_bytes w5 a (r.take u) u (by
        rcases ha with ha | ⟨off, h1, h2⟩
        · left; rw [ha]; rfl
        · right
          refine ⟨db, off, h1, fun i hi => ?_⟩
          rw [List.length_take] at hi
          rw [List.getElem_take]
          exact h2 i (by omega) (by omega))
      have htl : (r.take u).length = u := by rw [List.length_take]; omega
      rw [htl] at hcv
      have hsz : (⟨(r.take u).toArray⟩ : ByteArray).size ≤ maxLen := by rw [size_mk, htl]; unfold maxLen; omega
      obtain ⟨S, hS⟩ : ∃ S : ByteArray, (⟨(r.take u).toArray⟩ : ByteArray) = S := ⟨_, rfl⟩
      rw [hS] at hcv hsz
      have HS := Lib.hid hS
      have HR5 := Lib.hid hr5
      have HSZ := Lib.hid hsz
      clear hfz hS ha hr hr5 hg hg5 hgt hsz htl hu hur
      go_wp2
      refine bodyPost_ret (v := .agg #[.int .i64 2, .int .i64 0, .string S, .slice none 0 0]) (by simp [results, Try.results60, go_sem, z0, z1, z2, z3]) rfl ?_
      exact ⟨_, rfl, by rw [HS.out]; exact own_text S HSZ.out, set4_rdr HR5.out w.heap.size _ _ _ _ (by omega) hdn, set4_grown hgg (Nat.le_refl _) _ _ _ _⟩
    · simp only [hur, if_false]
      go_enter Try.func60, Try.ntmps60
      go_wp2_with fail
      refine (HC.out _ (by go_grown)).mono ?_
      rintro e w' ⟨rfl, hu, hr, hg⟩
      go_wp2_with fail
      refine (take_no w' rb db r dep u hu hr (by omega)).mono ?_
      rintro e w5 ⟨he, hg5⟩
      obtain rfl : e = _ := he
      have hgg := gbelow_alloc (gtrans hg hg5)
      clear hu
      go_wp2
      simp [bodyPost, ValPost, Pan]
      exact hgg

end Go.Proofs.Ytkecoohplpbgnaa
