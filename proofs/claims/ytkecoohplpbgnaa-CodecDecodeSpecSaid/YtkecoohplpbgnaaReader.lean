/- The reader's small parts: need, take. -/
import Derived.Test.YtkecoohplpbgnaaVal
import Derived.WalkSpells
import Derived.WalkLawsBesides
import Derived.Handy
import Derived.Lib.Hide
namespace Go.Proofs.Ytkecoohplpbgnaa
open Go.RowKit

/-- The panic of the reader. -/
def Pan (e : Ending) : Prop := e = .panicked [{ v := .iface 28 (.int .i64 10), recovered := false }]

/-- The reader at rb reads bs, out of the block db, at a depth. -/
structure Rdr (w : World) (rb db : Nat) (bs : List UInt8) (dep : Int) : Prop where
  ex : ∃ a cap, w.cell? ⟨rb, 0, none⟩ = some (.slice a bs.length cap) ∧ bs.length ≤ cap ∧ cap ≤ maxLen ∧
    (bs = [] ∨ ∃ off, a = some ⟨db, off, none⟩ ∧ ∀ i (h : i < bs.length), w.cell? ⟨db, off + i, none⟩ = some (.int .u8 (bs[i]).toNat))
  d : w.cell? ⟨rb, 1, none⟩ = some (.int .i64 dep)
  f0 : w.frozen? ⟨rb, 0, none⟩ = false
  f1 : w.frozen? ⟨rb, 1, none⟩ = false
  ne : db ≠ rb
  dl : db < w.heap.size

theorem Rdr.lt {w : World} {rb db : Nat} {bs : List UInt8} {dep : Int} (h : Rdr w rb db bs dep) : rb < w.heap.size := World.block_lt_of_cell? w ⟨rb, 1, none⟩ h.d

theorem Rdr.keep {w w' : World} {rb db : Nat} {bs : List UInt8} {dep : Int} (h : Rdr w rb db bs dep) (hb : Below w.heap.size w w') : Rdr w' rb db bs dep := by
  obtain ⟨⟨a, cap, h0, h1, h2, h3⟩, hd, hf0, hf1, hn, hdl⟩ := h
  have hl : rb < w.heap.size := World.block_lt_of_cell? w ⟨rb, 1, none⟩ hd
  refine ⟨⟨a, cap, (hb.cell (p := ⟨rb, 0, none⟩) hl).trans h0, h1, h2, ?_⟩, (hb.cell (p := ⟨rb, 1, none⟩) hl).trans hd, (hb.frozen (p := ⟨rb, 0, none⟩) hl).trans hf0, (hb.frozen (p := ⟨rb, 1, none⟩) hl).trans hf1, hn, Nat.lt_of_lt_of_le hdl hb.size⟩
  rcases h3 with h3 | ⟨off, h3, h4⟩
  · exact .inl h3
  · exact .inr ⟨off, h3, fun i hi => (hb.cell (p := ⟨db, off + i, none⟩) (World.block_lt_of_cell? w _ (h4 i hi))).trans (h4 i hi)⟩

theorem Rdr.set {w : World} {rb db : Nat} {bs : List UInt8} {dep : Int} (h : Rdr w rb db bs dep) (b o : Nat) (v : Value) (h1 : rb ≠ b) (h2 : db ≠ b) : Rdr (w.setCell ⟨b, o, none⟩ v) rb db bs dep := by
  have hc : ∀ k o', k ≠ b → (w.setCell ⟨b, o, none⟩ v).cell? ⟨k, o', none⟩ = w.cell? ⟨k, o', none⟩ := fun k o' hk => World.cell?_setCell_other _ _ _ _ (by intro hh; injection hh with e1; exact hk e1.symm)
  obtain ⟨⟨a, cap, h0, h3, h4, h5⟩, hd, hf0, hf1, hn, hdl⟩ := h
  refine ⟨⟨a, cap, (hc _ _ h1).trans h0, h3, h4, ?_⟩, (hc _ _ h1).trans hd, ?_, ?_, hn, by simpa using hdl⟩
  · rcases h5 with h5 | ⟨off, h5, h6⟩
    · exact .inl h5
    · exact .inr ⟨off, h5, fun i hi => (hc _ _ h2).trans (h6 i hi)⟩
  · simpa using hf0
  · simpa using hf1

set_option maxHeartbeats 400000 in
theorem need_yes (rb : Nat) (w : World) : Calls Try.prog 46 #[.pointer (some ⟨rb, 0, none⟩), .bool true] w fun e w' => e = .returned (.tuple #[]) ∧ w' = w := by
  go_enter Try.func46, Try.ntmps46
  go_wp2
  go_end0
  exact ⟨rfl, rfl⟩

set_option maxHeartbeats 400000 in
theorem need_no (rb : Nat) (w : World) : Calls Try.prog 46 #[.pointer (some ⟨rb, 0, none⟩), .bool false] w fun e w' => Pan e ∧ w' = w := by
  go_enter Try.func46, Try.ntmps46
  go_wp2
  simp [bodyPost, Pan]

theorem gset (w : World) (rb o : Nat) (v : Value) : w.grownBy (w.setCell ⟨rb, o, none⟩ v) (some rb) :=
  ⟨rfl, rfl, rfl, by simp, fun k hk hne => Below.heap_setCell w ⟨rb, o, none⟩ v k (by simpa using hne)⟩

theorem frozen?_set (w : World) (a b : Addr) (v : Value) : (w.setCell a v).frozen? b = w.frozen? b := by
  simp

/-- What take hands back. -/
def Taken (w : World) (rb db : Nat) (bs : List UInt8) (dep : Int) (n : Nat) (e : Ending) (w' : World) : Prop :=
  ∃ a, e = .returned (.slice a n n) ∧ (n = 0 ∨ ∃ off, a = some ⟨db, off, none⟩ ∧ ∀ i (h : i < bs.length), i < n → w'.cell? ⟨db, off + i, none⟩ = some (.int .u8 (bs[i]).toNat)) ∧ Rdr w' rb db (bs.drop n) dep ∧ w.grownBy w' (some rb)

theorem taken_mk {w : World} {rb db : Nat} {bs : List UInt8} {dep : Int} {n cap : Nat} {a X : Option Addr} (h0 : w.cell? ⟨rb, 0, none⟩ = some (.slice a bs.length cap)) (h2 : cap ≤ maxLen) (hcap : bs.length ≤ cap)
    (h3 : bs = [] ∨ ∃ off, a = some ⟨db, off, none⟩ ∧ ∀ i (h : i < bs.length), w.cell? ⟨db, off + i, none⟩ = some (.int .u8 (bs[i]).toNat))
    (hd : w.cell? ⟨rb, 1, none⟩ = some (.int .i64 dep)) (f0 : w.frozen? ⟨rb, 0, none⟩ = false) (f1 : w.frozen? ⟨rb, 1, none⟩ = false) (ne : db ≠ rb) (dl : db < w.heap.size) (hn : n ≤ bs.length) (hX : n = bs.length ∨ X = a.map fun x => x.add n) :
    Taken w rb db bs dep n (.returned (.slice a n n)) (w.setCell ⟨rb, 0, none⟩ (.slice X (bs.length - n) (bs.length - n))) := by
  have hcell : ∀ o, (w.setCell ⟨rb, 0, none⟩ (.slice X (bs.length - n) (bs.length - n))).cell? ⟨db, o, none⟩ = w.cell? ⟨db, o, none⟩ := fun o => World.cell?_setCell_other _ _ _ _ (by simp; try omega)
  refine ⟨a, rfl, ?_, ⟨⟨X, bs.length - n, ?_, ?_, ?_, ?_⟩, ?_, ?_, ?_, ne, by simpa using dl⟩, gset _ _ _ _⟩
  · rcases h3 with h3 | ⟨off, h3, h4⟩
    · left; rw [h3] at hn; simpa using hn
    · exact .inr ⟨off, h3, fun i h _ => (hcell _).trans (h4 i h)⟩
  · rw [World.cell?_setCell_same _ _ _ h0, List.length_drop]
  · rw [List.length_drop]; omega
  · omega
  · rcases hX with hX | hX
    · left; rw [hX]; simp
    · rcases h3 with h3 | ⟨off, h3, h4⟩
      · left; rw [h3]; simp
      · right
        refine ⟨off + n, by rw [hX, h3]; simp [Addr.add]; try (split <;> simp_all), fun i h => ?_⟩
        rw [List.length_drop] at h
        rw [hcell, List.getElem_drop, Nat.add_assoc]
        exact h4 (n + i) (by omega)
  · exact (World.cell?_setCell_other _ _ _ _ (by simp)).trans hd
  · rw [frozen?_set]; exact f0
  · rw [frozen?_set]; exact f1

set_option maxHeartbeats 400000 in
theorem take_no (w : World) (rb db : Nat) (bs : List UInt8) (dep : Int) (n : Nat) (_hn : n < 18446744073709551616) (h : Rdr w rb db bs dep) (hlt : bs.length < n) :
    Calls Try.prog 57 #[.pointer (some ⟨rb, 0, none⟩), .int .u64 n] w fun e w' => Pan e ∧ w.grownBy w' (some rb) := by
  obtain ⟨⟨a, cap, h0, h1, h2, h3⟩, hd, hf0, hf1, hne, hdl⟩ := h
  have hd' : decide (n ≤ bs.length) = false := by simp; omega
  obtain ⟨len, hl⟩ : ∃ len, bs.length = len := ⟨_, rfl⟩
  rw [hl] at h0 h1 hd'
  unfold maxLen at h2
  clear h3 hl hd hf0 hf1
  go_enter Try.func57, Try.ntmps57
  go_wp2_with fail
  refine (need_no rb w).mono ?_
  rintro e w' ⟨hp, rfl⟩
  obtain rfl : e = _ := hp
  go_wp2
  simp [bodyPost, Pan]
  exact World.grownBy.refl _ _

set_option maxHeartbeats 400000 in
theorem take_yes (w : World) (rb db : Nat) (bs : List UInt8) (dep : Int) (n : Nat) (h : Rdr w rb db bs dep) (hlt : n ≤ bs.length) :
    Calls Try.prog 57 #[.pointer (some ⟨rb, 0, none⟩), .int .u64 n] w (Taken w rb db bs dep n) := by
  obtain ⟨⟨a, cap, h0, h1, h2, h3⟩, hd, hf0, hf1, hne, hdl⟩ := h
  have hd' : decide (n ≤ bs.length) = true := by simp; omega
  obtain ⟨len, hl⟩ : ∃ len, bs.length = len := ⟨_, rfl⟩
  have HL := Lib.hid hl
  rw [hl] at h0 h1 hlt hd'
  unfold maxLen at h2
  have H3 := Lib.hid h3
  clear h3 hl
  go_enter Try.func57, Try.ntmps57
  go_wp2_with fail
  refine (need_yes rb w).mono ?_
  rintro e w' ⟨rfl, rfl⟩
  have hX1 : n ≤ bs.length := by rw [HL.out]; exact hlt
  have hc1 : bs.length ≤ cap := by rw [HL.out]; exact h1
  have hc0 : w'.cell? ⟨rb, 0, none⟩ = some (.slice a bs.length cap) := by rw [HL.out]; exact h0
  have HC0 := Lib.hid hc0
  clear hc0
  by_cases hnl : n = len
  · have HNL := Lib.hid hnl
    have hln : len = n := hnl.symm
    subst hln
    have hr := taken_mk (X := a) HC0.out (by unfold maxLen; exact h2) hc1 H3.out hd hf0 hf1 hne hdl hX1 (.inl (by rw [HL.out]))
    rw [HL.out, Nat.sub_self] at hr
    have HRR := Lib.hid hr
    clear hr hX1 hc1
    go_wp2
    go_ret
    exact HRR.out
  · have hr := taken_mk (X := a.map fun x => x.add n) HC0.out (by unfold maxLen; exact h2) hc1 H3.out hd hf0 hf1 hne hdl hX1 (.inr rfl)
    rw [HL.out] at hr
    have HRR := Lib.hid hr
    have hnl2 : ¬ len = n := fun h => hnl h.symm
    clear hr hX1 hc1
    go_wp2
    go_ret
    exact HRR.out

end Go.Proofs.Ytkecoohplpbgnaa
