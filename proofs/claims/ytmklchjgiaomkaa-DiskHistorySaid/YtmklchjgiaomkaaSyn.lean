/- Sync of disk. -/
import Derived.Test.YtmklchjgiaomkaaWr
namespace Go.Proofs.Ytmklchjgiaomkaa
open Go.RowKit

theorem pen_take {w : World} {B n c m : Nat} {a : Option Addr} {l : List (Int × By)} (h : PenAt w B (.slice a n c) l) (hm : m ≤ l.length) : PenAt w B (.slice a m m) (l.take m) := by
  obtain ⟨a', c', e, h1, h2, h3⟩ := h
  cases e
  have hl : (l.take m).length = m := by rw [List.length_take]; omega
  refine ⟨a, m, by rw [hl], by omega, by omega, ?_⟩
  rcases h3 with h3 | ⟨b, off, h4, h5, h6⟩
  · left; rw [h3]; simp
  · refine .inr ⟨b, off, h4, h5, fun i hi => ?_⟩
    have : i < l.length := by rw [hl] at hi; omega
    rw [List.getElem_take]; exact h6 i this
theorem okPen_take {k m : Nat} {l : List (Int × By)} (h : okPen k l = true) : okPen k (l.take m) = true := by
  unfold okPen at *; rw [List.all_eq_true] at *; exact fun x hx => h x (List.mem_of_mem_take hx)
theorem perf_128 (l : List (Int × By)) (h : ∀ x ∈ l, x.2.length = 128) : ∀ s : List By, (∀ y ∈ s, y.length = 128) → ∀ y ∈ perf s l, y.length = 128 := by
  unfold perf
  induction l with
  | nil => intro s hs; exact hs
  | cons x l ih =>
    intro s hs
    rw [List.foldl_cons]
    refine ih (fun y hy => h y (List.mem_cons_of_mem _ hy)) _ fun y hy => ?_
    rcases List.mem_or_eq_of_mem_set hy with hy | hy
    · exact hs y hy
    · rw [hy]; exact h x (by simp)
theorem tear_len {a b : By} (ha : a.length = 128) (hb : b.length = 128) : (tear a b).length = 128 := by simp [tear, ha, hb]

def four (W : World) (p : Nat) (a b c d : Value) : World := (((W.setCell ⟨p, 0, none⟩ a).setCell ⟨p, 1, none⟩ b).setCell ⟨p, 2, none⟩ c).setCell ⟨p, 3, none⟩ d
theorem four_grown (W : World) (p : Nat) (a b c d : Value) : W.grownBy (four W p a b c d) (some p) := gtrans (gtrans (gtrans (grown_setCell 0 a) (grown_setCell 1 b)) (grown_setCell 2 c)) (grown_setCell 3 d)
theorem four_arr {W : World} {p : Nat} {a b c d a' b' c' d' : Value} (h : Arr W p [a', b', c', d']) : Arr (four W p a b c d) p [a, b, c, d] := (((h.set 0 a).set 1 b).set 2 c).set 3 d

/-! The operations of a region of the program that draws its order, as printed. -/
def q23c0 : Oper := { dst := some 42, op := Go.Op.fieldAddr 25 (Go.Operand.tmp 2) 0, type := 0, pos := "disk.go:62", after := #[], guard := none }
def q23c1 : Oper := { dst := some 43, op := Go.Op.load 22 (Go.Operand.tmp 42), type := 22, pos := "disk.go:62", after := #[{ on := 0, ground := Go.Ground.data }], guard := none }
def q23c2 : Oper := { dst := some 44, op := Go.Op.fieldAddr 54 (Go.Operand.tmp 5) 0, type := 0, pos := "disk.go:62", after := #[], guard := none }
def q23c3 : Oper := { dst := some 45, op := Go.Op.load 3 (Go.Operand.tmp 44), type := 3, pos := "disk.go:62", after := #[{ on := 2, ground := Go.Ground.data }], guard := none }
def q23c4 : Oper := { dst := some 46, op := Go.Op.fieldAddr 25 (Go.Operand.tmp 2) 0, type := 0, pos := "disk.go:62", after := #[], guard := none }
def q23c5 : Oper := { dst := some 47, op := Go.Op.load 22 (Go.Operand.tmp 46), type := 22, pos := "disk.go:62", after := #[{ on := 4, ground := Go.Ground.data }], guard := none }
def q23c6 : Oper := { dst := some 48, op := Go.Op.fieldAddr 54 (Go.Operand.tmp 5) 0, type := 0, pos := "disk.go:62", after := #[], guard := none }
def q23c7 : Oper := { dst := some 49, op := Go.Op.load 3 (Go.Operand.tmp 48), type := 3, pos := "disk.go:62", after := #[{ on := 6, ground := Go.Ground.data }], guard := none }
def q23c8 : Oper := { dst := some 50, op := Go.Op.indexAddr 22 (Go.Operand.tmp 47) (Go.Operand.tmp 49), type := 0, pos := "disk.go:62", after := #[{ on := 5, ground := Go.Ground.data }, { on := 7, ground := Go.Ground.data }], guard := none }
def q23c9 : Oper := { dst := some 51, op := Go.Op.load 35 (Go.Operand.tmp 50), type := 35, pos := "disk.go:62", after := #[{ on := 8, ground := Go.Ground.data }], guard := none }
def q23c10 : Oper := { dst := some 52, op := Go.Op.fieldAddr 54 (Go.Operand.tmp 5) 1, type := 0, pos := "disk.go:62", after := #[], guard := none }
def q23c11 : Oper := { dst := some 53, op := Go.Op.load 35 (Go.Operand.tmp 52), type := 35, pos := "disk.go:62", after := #[{ on := 10, ground := Go.Ground.data }], guard := none }
def q23c12 : Oper := { dst := some 54, op := Go.Op.call { callee := Go.Callee.value (Go.Operand.func 37), args := #[Go.Operand.tmp 51, Go.Operand.tmp 53], argTypes := #[35, 35] }, type := 35, pos := "disk.go:62", after := #[{ on := 9, ground := Go.Ground.data }, { on := 11, ground := Go.Ground.data }], guard := none }
def q23c13 : Oper := { dst := some 55, op := Go.Op.indexAddr 22 (Go.Operand.tmp 43) (Go.Operand.tmp 45), type := 0, pos := "disk.go:62", after := #[{ on := 1, ground := Go.Ground.data }, { on := 3, ground := Go.Ground.data }, { on := 0, ground := Go.Ground.phase }, { on := 1, ground := Go.Ground.phase }, { on := 2, ground := Go.Ground.phase }, { on := 3, ground := Go.Ground.phase }, { on := 4, ground := Go.Ground.phase }, { on := 5, ground := Go.Ground.phase }, { on := 6, ground := Go.Ground.phase }, { on := 7, ground := Go.Ground.phase }, { on := 8, ground := Go.Ground.phase }, { on := 9, ground := Go.Ground.phase }, { on := 10, ground := Go.Ground.phase }, { on := 11, ground := Go.Ground.phase }, { on := 12, ground := Go.Ground.phase }], guard := none }
def q23c14 : Oper := { dst := none, op := Go.Op.store 35 (Go.Operand.tmp 55) (Go.Operand.tmp 54), type := 0, pos := "disk.go:62", after := #[{ on := 13, ground := Go.Ground.data }, { on := 12, ground := Go.Ground.data }, { on := 12, ground := Go.Ground.chain }, { on := 0, ground := Go.Ground.phase }, { on := 1, ground := Go.Ground.phase }, { on := 2, ground := Go.Ground.phase }, { on := 3, ground := Go.Ground.phase }, { on := 4, ground := Go.Ground.phase }, { on := 5, ground := Go.Ground.phase }, { on := 6, ground := Go.Ground.phase }, { on := 7, ground := Go.Ground.phase }, { on := 8, ground := Go.Ground.phase }, { on := 9, ground := Go.Ground.phase }, { on := 10, ground := Go.Ground.phase }, { on := 11, ground := Go.Ground.phase }, { on := 12, ground := Go.Ground.phase }], guard := none }

set_option maxHeartbeats 4000000 in
theorem sync_any (w : World) (d : Dk) (v : Value) (h : DkAt w w.heap.size v d) :
    Calls Try.prog 23 #[v] w fun e w' => ∃ u, e = .returned (.tuple #[u, .int .i64 d.sync.2]) ∧ DkAt w' w'.heap.size u d.sync.1 ∧ Below w.heap.size w w' := by
  have H := Lib.hid h
  obtain ⟨sa, cs0, ap, cp, rfl, hl64, _, _, hpc, hcp, hS, hP⟩ := h.open
  have hruns : ∀ W, Below w.heap.size w W → Calls Try.prog 31 #[.agg #[.slice sa d.sec.length cs0, .slice ap d.pen.length cp, .int .i64 d.left, .bool d.stop]] W fun e w' => e = .returned (.bool d.runs) ∧ Below W.heap.size W w' := fun W hW => runs_any W d _ (H.out.next hW)
  have hperfo : d.runs = true → ∀ W, Below w.heap.size w W → Calls Try.prog 35 #[.agg #[.slice sa d.sec.length cs0, .slice ap d.pen.length cp, .int .i64 d.left, .bool d.stop]] W fun e w' => e = .returned (.int .i64 (if d.stops then d.left.toNat else d.pen.length : Nat)) ∧ Below W.heap.size W w' := fun h1 W hW => performable_any W d _ (H.out.next hW) (ok_lens (runs_ok h1).1).2.2.2.2.2.1
  obtain ⟨m, hm⟩ : ∃ m : Nat, (if d.stops then d.left.toNat else d.pen.length) = m := ⟨_, rfl⟩
  rw [hm] at hperfo
  have hmc : (d.stops = true ∧ d.left = m ∧ m < d.pen.length) ∨ (d.stops = false ∧ m = d.pen.length ∧ (d.left < 0 ∨ (d.pen.length : Int) ≤ d.left)) := by
    unfold Dk.stops at hm ⊢
    by_cases hst : 0 ≤ d.left ∧ d.left < d.pen.length
    · rw [show decide (0 ≤ d.left ∧ d.left < d.pen.length) = true by simpa using hst] at hm ⊢
      rw [if_pos rfl] at hm
      exact .inl ⟨rfl, by omega, by omega⟩
    · rw [show decide (0 ≤ d.left ∧ d.left < d.pen.length) = false by simpa using hst] at hm ⊢
      rw [if_neg (by simp)] at hm
      exact .inr ⟨rfl, hm.symm, by omega⟩
  have hmle : m ≤ d.pen.length := by rcases hmc with h | h <;> omega
  have hperf : d.runs = true → ∀ W, Below w.heap.size w W → Calls Try.prog 36 #[.slice sa d.sec.length cs0, .slice ap m m] W fun e w' => ∃ g cap cs, e = .returned (.slice (some ⟨g, 0, none⟩) d.sec.length cap) ∧ (d.sec.length ≤ cap ∧ cap ≤ maxLen ∧ W.heap.size ≤ g ∧ g < w'.heap.size ∧ Arr w' g cs ∧ secCells w' (· < w.heap.size) (perf d.sec (d.pen.take m)) cs) ∧ Below W.heap.size W w' := fun h1 W hW => by
    obtain ⟨l1, l2, l3, l4, l5, l6, l7⟩ := ok_lens (runs_ok h1).1
    have hok := (ok_iff d).1 (runs_ok h1).1
    refine (perform_any W _ _ d.sec (d.pen.take m) d.sec.length m rfl (by omega) (by omega) (by rw [List.length_take]; omega) (by omega) (okPen_take hok.2.2.1) w.heap.size hW.size (hS.below hW) ((pen_take hP hmle).below hW)).mono ?_
    rintro e w' ⟨u, rfl, ⟨g, cap, cs, rfl, g1, g2, g3, g4, g5, g6⟩, h3⟩
    exact ⟨g, cap, cs, rfl, ⟨g1, g2, g3, g4, g5, g6⟩, h3⟩
  have hlens : d.runs = true → 1 ≤ d.sec.length ∧ d.sec.length ≤ 4096 ∧ d.pen.length ≤ 4096 ∧ -1 ≤ d.left ∧ d.left ≤ 65536 := fun h1 => by
    obtain ⟨l1, l2, l3, l4, l5, l6, l7⟩ := ok_lens (runs_ok h1).1
    exact ⟨l1, l2, l3, l6, l7⟩
  have hlast : d.runs = true → d.stops = true → ∃ (j : Nat) (y : By) (b' off' : Nat), ap = some ⟨b', off', none⟩ ∧ d.at_ = ((j : Int), y) ∧ j < d.sec.length ∧ y.length = 128 ∧ ∃ (hm : m < d.pen.length), d.pen[m] = ((j : Int), y) ∧ b' < w.heap.size ∧ w.cell? ⟨b', off' + m * 2, none⟩ = some (.int .i64 j) ∧ ∃ a c, w.cell? ⟨b', off' + m * 2 + 1, none⟩ = some (.slice a 128 c) ∧ c ≤ maxLen ∧ BytesAt w w.heap.size (.slice a 128 c) y := by
    intro h1 h2
    rcases hmc with ⟨_, hlm, hmp⟩ | ⟨h3, _⟩
    · obtain ⟨b', off', rfl, hb', hin⟩ := pen_get hP (by omega)
      obtain ⟨_, e1, a, c, e2, e3, e4, hy⟩ := hin.got m hmp
      have hx := (ok_lens (runs_ok h1).1).2.2.2.2.1 _ (List.getElem_mem hmp)
      have hat : d.at_ = d.pen[m] := by unfold Dk.at_; rw [hlm, Int.toNat_natCast, List.getD_eq_getElem?_getD, List.getElem?_eq_getElem hmp]; rfl
      obtain ⟨⟨n, y⟩, hpm⟩ : ∃ x, d.pen[m] = x := ⟨_, rfl⟩
      rw [hpm] at e1 e2 e3 hx hat hy
      simp only at e1 e2 e3 hx hat hy
      obtain ⟨j, rfl⟩ : ∃ j : Nat, n = j := ⟨n.toNat, by omega⟩
      rw [hx.2.2] at e2 hy
      exact ⟨j, y, b', off', rfl, hat, by omega, hx.2.2, hmp, hpm, hb', e1, a, c, e2, e4, hy⟩
    · rw [h2] at h3; cases h3
  have h128 : d.runs = true → ∀ y ∈ perf d.sec (d.pen.take m), y.length = 128 := fun h1 => by
    obtain ⟨l1, l2, l3, l4, l5, l6, l7⟩ := ok_lens (runs_ok h1).1
    exact perf_128 _ (fun x hx => (l5 x (List.mem_of_mem_take hx)).2.2) _ l4
  -- what the answer is
  have hans1 : d.runs = false → d.sync = (Dk.zero, 40) := fun h1 => by unfold Dk.sync; rw [h1]; rfl
  have hans2 : d.runs = true → d.stops = false → d.left < 0 → d.sync = (⟨perf d.sec (d.pen.take m), [], d.left, false⟩, 0) := fun h1 h2 h3 => by
    rcases hmc with ⟨h4, _⟩ | ⟨_, h4, _⟩
    · rw [h2] at h4; cases h4
    · unfold Dk.sync; rw [h1, h2, if_pos rfl, if_neg (by simp), if_pos h3, h4, List.take_length]
  have hans3 : d.runs = true → d.stops = false → 0 ≤ d.left → d.sync = (⟨perf d.sec (d.pen.take m), [], d.left - m, false⟩, 0) := fun h1 h2 h3 => by
    rcases hmc with ⟨h4, _⟩ | ⟨_, h4, _⟩
    · rw [h2] at h4; cases h4
    · unfold Dk.sync; rw [h1, h2, if_pos rfl, if_neg (by simp), if_neg (by omega), h4, List.take_length]
  have hans4 : d.runs = true → d.stops = true → d.sync = (⟨(perf d.sec (d.pen.take m)).set d.at_.1.toNat (tear ((perf d.sec (d.pen.take m)).getD d.at_.1.toNat []) d.at_.2), [], 0, true⟩, 40) := fun h1 h2 => by
    rcases hmc with ⟨_, h4, _⟩ | ⟨h4, _⟩
    · unfold Dk.sync; rw [h1, h2, if_pos rfl, if_pos rfl]; unfold Dk.done; rw [h4, Int.toNat_natCast]
    · rw [h2] at h4; cases h4
  obtain ⟨A, hA⟩ : ∃ A, d.sync = A := ⟨_, rfl⟩
  obtain ⟨X, hX⟩ : ∃ X, d.at_ = X := ⟨_, rfl⟩
  obtain ⟨T, hT⟩ : ∃ T, perf d.sec (d.pen.take m) = T := ⟨_, rfl⟩
  have hTl : T.length = d.sec.length := by rw [← hT, perf_len]
  obtain ⟨r, hr⟩ : ∃ r, d.runs = r := ⟨_, rfl⟩
  obtain ⟨ss, hss⟩ : ∃ r, d.stops = r := ⟨_, rfl⟩
  obtain ⟨left, hle⟩ : ∃ x, d.left = x := ⟨_, rfl⟩
  rw [hA] at hans1 hans2 hans3 hans4 ⊢
  rw [hX] at hlast hans4
  rw [hT] at hperf h128 hans2 hans3 hans4
  rw [hr] at hruns hperfo hperf hlens hlast h128 hans1 hans2 hans3 hans4
  rw [hss] at hmc hlast hans2 hans3 hans4
  rw [hle] at hruns hperfo hmc hlens hans2 hans3 hl64 ⊢
  obtain ⟨k, hk⟩ : ∃ k, d.sec.length = k := ⟨_, rfl⟩
  obtain ⟨st, hst⟩ : ∃ x, d.stop = x := ⟨_, rfl⟩
  rw [hk] at hruns hperfo hperf hlens hlast hTl ⊢
  rw [hst] at hruns hperfo ⊢
  have hlast2 : ((true : Bool) = true → True) := fun _ => trivial
  have HLA := Lib.hid hlast
  obtain ⟨p, hp⟩ : ∃ k, d.pen.length = k := ⟨_, rfl⟩
  rw [hp] at hruns hperfo hlens hmc hmle hpc ⊢
  have HPL := Lib.hid hp
  have HR := Lib.hid hruns
  have HPO := Lib.hid hperfo
  have HPF := Lib.hid hperf
  have HLE := Lib.hid hlens
  have HMC := Lib.hid hmc
  have H128 := Lib.hid h128
  have HA1 := Lib.hid hans1
  have HA2 := Lib.hid hans2
  have HA3 := Lib.hid hans3
  have HA4 := Lib.hid hans4
  have HTL := Lib.hid hTl
  unfold maxLen at hcp
  unfold In64 at hl64
  clear h H hS hP hruns hperfo hperf hlens hmc hlast hlast2 h128 hans1 hans2 hans3 hans4 hA hX hT hTl hr hss hle hk hst hp hm
  obtain ⟨w0, hw0⟩ : ∃ w0, w0 = ((w.alloc (.cells #[.slice sa k cs0, .slice ap p cp, .int .i64 left, .bool st] 25)).alloc (.cells #[.slice none 0 0, .slice none 0 0, .int .i64 0, .bool false] 25)) := ⟨_, rfl⟩
  have hz : w0.heap.size = w.heap.size + 1 + 1 := by rw [hw0]; simp
  have hX : Arr w0 w.heap.size [.slice sa k cs0, .slice ap p cp, .int .i64 left, .bool st] := by
    rw [hw0]; exact (Arr.new w #[.slice sa k cs0, .slice ap p cp, .int .i64 left, .bool st] 25).alloc (by simp) _
  have hY : Arr w0 (w.heap.size + 1) [.slice none 0 0, .slice none 0 0, .int .i64 0, .bool false] := by
    rw [hw0]
    have := Arr.new (w.alloc (.cells #[.slice sa k cs0, .slice ap p cp, .int .i64 left, .bool st] 25)) #[.slice none 0 0, .slice none 0 0, .int .i64 0, .bool false] 25
    simpa using this
  have hB0 : Below w.heap.size w w0 := by rw [hw0]; go_grown
  have HW0 := Lib.hid hw0
  have HX := Lib.hid hX
  have HY := Lib.hid hY
  have HB0 := Lib.hid hB0
  have HZ := Lib.hid hz
  clear hX hY hB0 hz hw0
  go_enter Try.func23, Try.ntmps23
  go_wp2_with fail
  rw [← HW0.out]
  refine (HR.out _ HB0.out).mono ?_
  rintro e w1 ⟨rfl, hB1⟩
  have hb1 : Below w.heap.size w w1 := HB0.out.trans (hB1.mono (by rw [HZ.out]; omega))
  have HX1 := Lib.hid (HX.out.below hB1 (by rw [HZ.out]; omega))
  have HY1 := Lib.hid (HY.out.below hB1 (by rw [HZ.out]; omega))
  obtain ⟨e0, e1, e2, e3⟩ := HX1.out.four
  have HB1 := Lib.hid hb1
  have hlt1 : w.heap.size + 1 < w1.heap.size := by have := hB1.size; rw [HZ.out] at this; omega
  clear hB1 hb1
  cases r with
  | false =>
    obtain rfl := (HA1.out (by simp)).symm
    go_wp2_with (refine store_disk rfl (.tmp 2) (.tmp 9) rfl (w.heap.size + 1) _ _ _ _ _ _ _ _ (by rfl) (by rfl) HY1.out rfl ?_; intro W3 hG3 hA3; obtain ⟨y0, y1, y2, y3⟩ := hA3.four)
    have hB3 := below_grow HB1.out hG3 (fun j hj => by cases hj; omega) (by omega)
    refine bodyPost_ret (v := .tuple #[.agg #[.slice none 0 0, .slice none 0 0, .int .i64 0, .bool false], .int .i64 40]) (by simp [results, Try.results23, go_sem, y0, y1, y2, y3]) rfl ⟨_, rfl, zero_at _ _, hB3⟩
  | true =>
    obtain ⟨l1, l2, l3, l4, l5⟩ := HLE.out (by simp)
    go_wp2_with fail
    refine (HPO.out (by simp) _ HB1.out).mono ?_
    rintro e w3 ⟨rfl, hB3⟩
    have hb3 : Below w.heap.size w w3 := HB1.out.trans (hB3.mono (by omega))
    have HX3 := Lib.hid (HX1.out.below hB3 (by omega))
    have HY3 := Lib.hid (HY1.out.below hB3 (by omega))
    have HB3 := Lib.hid hb3
    have hlt3 : w.heap.size + 1 < w3.heap.size := by have := hB3.size; omega
    clear hB3 hb3 e0 e1 e2 e3
    have k0 : ∀ W, Kept w3 W → W.cell? ⟨w.heap.size, 0, none⟩ = some (.slice sa k cs0) := fun W hW => (hW.cell (by omega)).trans HX3.out.four.1
    have k1 : ∀ W, Kept w3 W → W.cell? ⟨w.heap.size, 1, none⟩ = some (.slice ap p cp) := fun W hW => (hW.cell (by omega)).trans HX3.out.four.2.1
    have k2 : ∀ W, Kept w3 W → W.cell? ⟨w.heap.size, 2, none⟩ = some (.int .i64 left) := fun W hW => (hW.cell (by omega)).trans HX3.out.four.2.2.1
    have r0 : ∀ W, Kept w3 W → W.cell? ⟨w.heap.size + 1, 0, none⟩ = some (.slice none 0 0) := fun W hW => (hW.cell (by omega)).trans HY3.out.four.1
    have r1 : ∀ W, Kept w3 W → W.cell? ⟨w.heap.size + 1, 1, none⟩ = some (.slice none 0 0) := fun W hW => (hW.cell (by omega)).trans HY3.out.four.2.1
    have r2 : ∀ W, Kept w3 W → W.cell? ⟨w.heap.size + 1, 2, none⟩ = some (.int .i64 0) := fun W hW => (hW.cell (by omega)).trans HY3.out.four.2.2.1
    have r3 : ∀ W, Kept w3 W → W.cell? ⟨w.heap.size + 1, 3, none⟩ = some (.bool false) := fun W hW => (hW.cell (by omega)).trans HY3.out.four.2.2.2
    have f0 : ∀ W, Kept w3 W → W.frozen? ⟨w.heap.size + 1, 0, none⟩ = false := fun W hW => (hW.frozen (by omega)).trans HY3.out.free.1
    have f1 : ∀ W, Kept w3 W → W.frozen? ⟨w.heap.size + 1, 1, none⟩ = false := fun W hW => (hW.frozen (by omega)).trans HY3.out.free.2.1
    have f2 : ∀ W, Kept w3 W → W.frozen? ⟨w.heap.size + 1, 2, none⟩ = false := fun W hW => (hW.frozen (by omega)).trans HY3.out.free.2.2.1
    have f3 : ∀ W, Kept w3 W → W.frozen? ⟨w.heap.size + 1, 3, none⟩ = false := fun W hW => (hW.frozen (by omega)).trans HY3.out.free.2.2.2
    have hc : ∀ W, Kept w3 W → Calls Try.prog 36 #[.slice sa k cs0, .slice ap m m] W fun e w' => ∃ g cap cs, e = .returned (.slice (some ⟨g, 0, none⟩) k cap) ∧ (k ≤ cap ∧ cap ≤ maxLen ∧ w3.heap.size ≤ g ∧ g < w'.heap.size ∧ Arr w' g cs ∧ secCells w' (· < w.heap.size) T cs) ∧ Kept w3 w' := fun W hW =>
      (HPF.out (by simp) W (HB3.out.trans (hW.below.mono (by omega)))).mono fun e w' ⟨g, cap, cs, h1, ⟨h2, h3, h4, h5, h6, h7⟩, h8⟩ => ⟨g, cap, cs, h1, ⟨h2, h3, Nat.le_trans hW.below.size h4, h5, h6, h7⟩, hW.next h8⟩
    have hs1 : ∀ W, Kept w3 W → Below w.heap.size w W ∧ W.cell? ⟨w.heap.size, 0, none⟩ = some (.slice sa k cs0) ∧ W.cell? ⟨w.heap.size, 1, none⟩ = some (.slice ap p cp) ∧ W.cell? ⟨w.heap.size, 2, none⟩ = some (.int .i64 left) := fun W hW => ⟨HB3.out.trans (hW.below.mono (by omega)), k0 W hW, k1 W hW, k2 W hW⟩
    have hs2 : ∀ W a b c d, Kept w3 W → Below w.heap.size w (four W (w.heap.size + 1) a b c d) ∧ (four W (w.heap.size + 1) a b c d).cell? ⟨w.heap.size, 0, none⟩ = some (.slice sa k cs0) ∧ (four W (w.heap.size + 1) a b c d).cell? ⟨w.heap.size, 1, none⟩ = some (.slice ap p cp) ∧ (four W (w.heap.size + 1) a b c d).cell? ⟨w.heap.size, 2, none⟩ = some (.int .i64 left) := fun W a b c d hW => by
      have hG := four_grown W (w.heap.size + 1) a b c d
      have hlt : w.heap.size < W.heap.size := by have := hW.below.size; omega
      obtain ⟨s0, s1, s2, s3⟩ := hs1 W hW
      have hc : ∀ i, (four W (w.heap.size + 1) a b c d).cell? ⟨w.heap.size, i, none⟩ = W.cell? ⟨w.heap.size, i, none⟩ := fun i => World.cell?_of_block (a := ⟨w.heap.size, i, none⟩) (hG.block w.heap.size hlt (by simp))
      exact ⟨below_grow s0 hG (fun j hj => by cases hj; omega) (by omega), (hc 0).trans s1, (hc 1).trans s2, (hc 2).trans s3⟩
    have HC := Lib.hid hc
    have HS1 := Lib.hid hs1
    have HS2 := Lib.hid hs2
    clear hc hs1 hs2
    have q1 : (m : Int) ≤ (cp : Int) := by omega
    have q2 : m ≤ cp := by omega
    have q3 : (0 : Int) ≤ (m : Int) := by omega
    go_wp2
    go_region_held3 (fun W => Below w.heap.size w W ∧ W.cell? ⟨w.heap.size, 0, none⟩ = some (.slice sa k cs0) ∧ W.cell? ⟨w.heap.size, 1, none⟩ = some (.slice ap p cp) ∧ W.cell? ⟨w.heap.size, 2, none⟩ = some (.int .i64 left)) (first | assumption | exact HS1.out _ (Kept.refl _) | exact HS1.out _ (Kept.drew (Kept.refl _)) | exact HS1.out _ (by assumption) | exact HS2.out _ _ _ _ _ (by assumption))
      (first | ((with_reducible refine (HC.out _ (Kept.drew (Kept.refl _))).mono ?_); rintro e w' ⟨g, cap, cs, rfl, hfs, hK⟩))
    obtain ⟨W5, hW5⟩ : ∃ W5, W5 = ((((w'.setCell ⟨w.heap.size + 1, 0, none⟩ (.slice (some ⟨g, 0, none⟩) k cap)).setCell ⟨w.heap.size + 1, 1, none⟩ (.slice none 0 0)).setCell ⟨w.heap.size + 1, 2, none⟩ (.int .i64 left)).setCell ⟨w.heap.size + 1, 3, none⟩ (.bool false)) := ⟨_, rfl⟩
    rw [← hW5]
    have hK' := hK.below.size
    have hG5 : w'.grownBy W5 (some (w.heap.size + 1)) := by rw [hW5]; exact four_grown _ _ _ _ _ _
    have hY5 : Arr W5 (w.heap.size + 1) [.slice (some ⟨g, 0, none⟩) k cap, .slice none 0 0, .int .i64 left, .bool false] := by rw [hW5]; exact four_arr (HY3.out.below hK.below (by omega))
    have hX5 := (HX3.out.below hK.below (by omega)).moved hG5 (by omega) (by simp)
    obtain ⟨g1, g2, g3, g4, g5, g6⟩ := hfs
    have hA5 := g5.moved hG5 g4 (by simp; omega)
    have hcs5 : secCells W5 (· < w.heap.size) T cs := g6.keep (fun x hx hl => hG5.block x hl (by have : x < w.heap.size := hx; simp; omega)) (fun _ h _ => h) hG5.size
    have hB5 : Below w.heap.size w W5 := below_grow (HS1.out _ hK).1 hG5 (fun j hj => by cases hj; omega) (by omega)
    have hg5 : g < W5.heap.size := Nat.lt_of_lt_of_le g4 hG5.size
    have hpg : w.heap.size + 1 < g := by omega
    have HX5 := Lib.hid hX5
    have HY5 := Lib.hid hY5
    have HA5 := Lib.hid hA5
    have HCS := Lib.hid hcs5
    have HB5 := Lib.hid hB5
    have HG1 := Lib.hid g1
    have HG2 := Lib.hid g2
    obtain ⟨e0, e1, e2, e3⟩ := hX5.four
    obtain ⟨x0, x1, x2, x3⟩ := hY5.four
    obtain ⟨z0, z1, z2, z3⟩ := hY5.free
    clear hK hW5 hG5 hY5 hX5 hA5 hcs5 hB5 g1 g2 g4 g5 g6 k0 k1 k2 r0 r1 r2 r3 f0 f1 f2 f3 g3 hK'
    have hm3 := HMC.out
    have hfin : ∀ W (lf : Int) (stp : Bool), W5.grownBy W (some (w.heap.size + 1)) → In64 lf → DkAt W W.heap.size (.agg #[.slice (some ⟨g, 0, none⟩) k cap, .slice none 0 0, .int .i64 lf, .bool stp]) ⟨T, [], lf, stp⟩ ∧ Below w.heap.size w W := fun W lf stp hG h64 =>
      ⟨⟨h64, _, _, rfl, (HCS.out.keep (Q := fun _ => True) (fun x hx hl => hG.block x hl (by have : x < w.heap.size := hx; simp; omega)) (fun _ _ _ => trivial) hG.size).at (HA5.out.moved hG hg5 (by simp; omega)) (Nat.lt_of_lt_of_le hg5 hG.size) HTL.out HG1.out HG2.out, pen_nil _ _ _⟩,
        below_grow HB5.out hG (fun j hj => by cases hj; omega) (by omega)⟩
    have HFI := Lib.hid hfin
    clear hfin
    cases ss with
    | false =>
      obtain ⟨rfl, hl2⟩ : m = p ∧ (left < 0 ∨ (p : Int) ≤ left) := by rcases hm3 with ⟨h, _⟩ | ⟨_, h1, h2⟩; cases h; exact ⟨h1, h2⟩
      clear hm3
      by_cases hneg : left < 0
      · have hl1 : left = -1 := by omega
        obtain rfl := (HA2.out (by simp) (by simp) hneg).symm
        have HL1 := Lib.hid hl1
        clear hl1 hl2
        have dn : (left != -1) = false := by simpa using HL1.out
        go_wp2_with (refine store_disk rfl (.tmp 2) (.tmp 36) rfl (w.heap.size + 1) _ _ _ _ _ _ _ _ (by rfl) (by rfl) HY5.out rfl ?_; intro W6 hG6 hA6; obtain ⟨y0, y1, y2, y3⟩ := hA6.four)
        obtain ⟨o1, o2⟩ := HFI.out W6 left false hG6 (by unfold In64; omega)
        refine bodyPost_ret (v := .tuple #[.agg #[.slice (some ⟨g, 0, none⟩) k cap, .slice none 0 0, .int .i64 left, .bool false], .int .i64 0]) (by simp [results, Try.results23, go_sem, y0, y1, y2, y3]) rfl ⟨_, rfl, o1, o2⟩
      · obtain rfl := (HA3.out (by simp) (by simp) (by omega)).symm
        have dn : (left != -1) = true := by simp; omega
        have hx6 := (HY5.out.set 2 (.int .i64 (left - (m : Int))))
        have HX6 := Lib.hid hx6
        have HG6 := Lib.hid (grown_setCell (W := W5) (b := w.heap.size + 1) 2 (.int .i64 (left - (m : Int))))
        have hlo : (m : Int) ≤ left := by omega
        clear hx6 hl2
        go_wp2_with (refine store_disk rfl (.tmp 2) (.tmp 36) rfl (w.heap.size + 1) _ _ _ _ _ _ _ _ (by rfl) (by rfl) HX6.out rfl ?_; intro W6 hG6 hA6; obtain ⟨y0, y1, y2, y3⟩ := hA6.four)
        obtain ⟨o1, o2⟩ := HFI.out W6 (left - (m : Int)) false (gtrans HG6.out hG6) (by unfold In64; omega)
        refine bodyPost_ret (v := .tuple #[.agg #[.slice (some ⟨g, 0, none⟩) k cap, .slice none 0 0, .int .i64 (left - (m : Int)), .bool false], .int .i64 0]) (by simp [results, Try.results23, go_sem, y0, y1, y2, y3]) rfl ⟨_, rfl, o1, o2⟩
    | true =>
      obtain ⟨hlm, hmp⟩ : left = m ∧ m < p := by rcases hm3 with ⟨_, h1, h2⟩ | ⟨h, _⟩; exact ⟨h1, h2⟩; cases h
      subst hlm
      clear hm3
      obtain ⟨j, y, b', off', rfl, hat, hjk, hy128, hmp2, hpm, hb', c0, a, c, c1, c2, hyb⟩ := HLA.out (by simp) (by simp)
      obtain rfl := (HA4.out (by simp) (by simp)).symm
      subst hat
      have dn : ((m : Int) != -1) = true := by rw [bne_iff_ne]; omega
      have dm : (m == p) = false := by simp; omega
      have dm' : ¬ m = p := by omega
      have u0 : ∀ v, (W5.setCell ⟨w.heap.size + 1, 2, none⟩ v).cell? ⟨b', off' + m * 2, none⟩ = some (.int .i64 j) := fun v => by
        rw [World.cell?_setCell_other _ _ _ _ (by intro h; injection h; omega)]; exact (HB5.out.cell (p := ⟨b', off' + m * 2, none⟩) hb').trans c0
      have u1 : ∀ v, (W5.setCell ⟨w.heap.size + 1, 2, none⟩ v).cell? ⟨b', off' + m * 2 + 1, none⟩ = some (.slice a 128 c) := fun v => by
        rw [World.cell?_setCell_other _ _ _ _ (by intro h; injection h; omega)]; exact (HB5.out.cell (p := ⟨b', off' + m * 2 + 1, none⟩) hb').trans c1
      have HYB := Lib.hid hyb
      have HPM := Lib.hid hpm
      clear hyb hpm
      go_wp2
      obtain ⟨W7, hW7⟩ : ∃ W7, W7 = ((W5.setCell ⟨w.heap.size + 1, 2, none⟩ (.int .i64 0)).alloc (Obj.cells #[Value.int IntKind.i64 j, Value.slice a 128 c] 54)) := ⟨_, rfl⟩
      rw [← hW7]
      have hG7 : W5.grownBy W7 (some (w.heap.size + 1)) := by rw [hW7]; exact gtrans (grown_setCell 2 _) (World.grownBy_alloc _ _ _)
      have hz7 : W7.heap.size = W5.heap.size + 1 := by rw [hW7]; simp
      have hY7 : Arr W7 (w.heap.size + 1) [.slice (some ⟨g, 0, none⟩) k cap, .slice none 0 0, .int .i64 0, .bool false] := by
        rw [hW7]; exact (HY5.out.set 2 (.int .i64 0)).alloc (by simp; omega) _
      have hN7 : Arr W7 W5.heap.size [.int .i64 j, .slice a 128 c] := by
        have := Arr.new (W5.setCell ⟨w.heap.size + 1, 2, none⟩ (.int .i64 0)) #[Value.int IntKind.i64 j, Value.slice a 128 c] 54
        rw [hW7]; simpa using this
      have hA7 := HA5.out.moved hG7 hg5 (by simp; omega)
      have hcs7 : secCells W7 (· < w.heap.size) T cs := HCS.out.keep (fun x hx hl => hG7.block x hl (by have : x < w.heap.size := hx; simp; omega)) (fun _ h _ => h) hG7.size
      have hB7 : Below w.heap.size w W7 := below_grow HB5.out hG7 (fun j hj => by cases hj; omega) (by omega)
      have hjT : j < T.length := by rw [HTL.out]; exact hjk
      obtain ⟨v0, hv0, hby0⟩ := hcs7.2 j hjT
      have h0128 := H128.out (by simp) _ (List.getElem_mem hjT)
      obtain ⟨ag, cg, rfl, -, hcg⟩ := on_shape hby0
      obtain ⟨Tj, hTj⟩ : ∃ Tj, T[j] = Tj := ⟨_, rfl⟩
      have hTgd : T.getD j [] = Tj := by rw [List.getD_eq_getElem?_getD, List.getElem?_eq_getElem hjT, ← hTj]; rfl
      rw [hTj] at hv0 hby0 h0128
      rw [h0128] at hv0 hby0
      have hjc : j < cs.length := by rw [hcs7.1]; exact hjT
      have hg7 : g < W7.heap.size := by omega
      have t0 : ∀ W, Kept W7 W → W.cell? ⟨w.heap.size + 1, 0, none⟩ = some (.slice (some ⟨g, 0, none⟩) k cap) := fun W hW => (hW.cell (by omega)).trans hY7.four.1
      have t1 : ∀ W, Kept W7 W → W.cell? ⟨W5.heap.size, 0, none⟩ = some (.int .i64 j) := fun W hW => (hW.cell (by omega)).trans (hN7.cell rfl)
      have t2 : ∀ W, Kept W7 W → W.cell? ⟨W5.heap.size, 1, none⟩ = some (.slice a 128 c) := fun W hW => (hW.cell (by omega)).trans (hN7.cell rfl)
      have t3 : ∀ W, Kept W7 W → W.cell? ⟨g, j, none⟩ = some (.slice ag 128 cg) := fun W hW => (hW.cell (by omega)).trans (hA7.cell hv0)
      have t4 : ∀ W, Kept W7 W → W.frozen? ⟨g, j, none⟩ = false := fun W hW => (hW.frozen (by omega)).trans (hA7.frozen hjc)
      have t5 := t3 W7 (Kept.refl _)
      have t6 := t4 W7 (Kept.refl _)
      have hyW : ∀ W, Kept W7 W → BytesAt W W.heap.size (.slice a 128 c) y := fun W hW => (HYB.out.below (hB7.trans (hW.below.mono hB7.size))).mono (by have := hB7.size; have := hW.below.size; omega)
      have hc : ∀ W, Kept W7 W → Calls Try.prog 37 #[.slice ag 128 cg, .slice a 128 c] W fun e w' => ∃ gt, e = .returned (.slice (some ⟨gt, 0, none⟩) 128 128) ∧ (W7.heap.size ≤ gt ∧ gt < w'.heap.size ∧ Arr w' gt (cells8 (tear Tj y))) ∧ Kept W7 w' := fun W hW =>
        (torn_any W _ _ Tj y ((hby0.at.below hW.below).mono hW.below.size) (hyW W hW) h0128 hy128).mono fun e w' ⟨h1, h2, h3⟩ => ⟨_, h1, ⟨hW.below.size, h2.lt (by rw [cells8_len, tear_len h0128 hy128]; omega), h2⟩, hW.next h3⟩
      have hs1 : ∀ W, Kept W7 W → Below w.heap.size w W ∧ W.cell? ⟨w.heap.size + 1, 0, none⟩ = some (.slice (some ⟨g, 0, none⟩) k cap) ∧ W.cell? ⟨W5.heap.size, 0, none⟩ = some (.int .i64 j) ∧ W.cell? ⟨W5.heap.size, 1, none⟩ = some (.slice a 128 c) := fun W hW => ⟨hB7.trans (hW.below.mono hB7.size), t0 W hW, t1 W hW, t2 W hW⟩
      have hs2 : ∀ W u, Kept W7 W → Below w.heap.size w (W.setCell ⟨g, j, none⟩ u) ∧ (W.setCell ⟨g, j, none⟩ u).cell? ⟨w.heap.size + 1, 0, none⟩ = some (.slice (some ⟨g, 0, none⟩) k cap) ∧ (W.setCell ⟨g, j, none⟩ u).cell? ⟨W5.heap.size, 0, none⟩ = some (.int .i64 j) ∧ (W.setCell ⟨g, j, none⟩ u).cell? ⟨W5.heap.size, 1, none⟩ = some (.slice a 128 c) := fun W u hW => by
        obtain ⟨s0, s1, s2, s3⟩ := hs1 W hW
        refine ⟨s0.setCell (p := ⟨g, j, none⟩) (by show w.heap.size ≤ g; omega) _, ?_, ?_, ?_⟩
        · rw [World.cell?_setCell_other _ _ _ _ (by intro h; injection h; omega)]; exact s1
        · rw [World.cell?_setCell_other _ _ _ _ (by intro h; injection h; omega)]; exact s2
        · rw [World.cell?_setCell_other _ _ _ _ (by intro h; injection h; omega)]; exact s3
      have HC := Lib.hid hc
      have HS1 := Lib.hid hs1
      have HS2 := Lib.hid hs2
      have HY7 := Lib.hid hY7
      have HA7 := Lib.hid hA7
      have HCS7 := Lib.hid hcs7
      have HTG := Lib.hid hTgd
      have HB7 := Lib.hid hB7
      have HZ7 := Lib.hid hz7
      have HT128 := Lib.hid h0128
      have HY128 := Lib.hid hy128
      have HJT := Lib.hid hjT
      clear hc hs1 hs2 hyW hW7 hG7 hY7 hN7 hA7 hcs7 hB7 hby0 hTj hTgd hv0 h0128 hy128 hjT e0 e1 e2 e3 x0 x1 x2 x3 z0 z1 z2 z3 u0 u1 c0 c1 hz7 dn dm
      refine wp_region_held_drew (S := fun W => Below w.heap.size w W ∧ W.cell? ⟨w.heap.size + 1, 0, none⟩ = some (.slice (some ⟨g, 0, none⟩) k cap) ∧ W.cell? ⟨W5.heap.size, 0, none⟩ = some (.int .i64 j) ∧ W.cell? ⟨W5.heap.size, 1, none⟩ = some (.slice a 128 c)) (by kernel_rfl) (HS1.out _ (Kept.drew (Kept.refl _))) (fun hHeld => ?_)
      refine wpAnyH_take (i := 0) (oi := q23c0) (v := ?_) rfl (by kernel_rfl) (by kernel_rfl) (by kernel_rfl) (fun _ _ _ h => h) (Or.inl ⟨by rfl, ?_⟩) hHeld ?_
      rotate_left
      · (intro w hSw; (try dsimp only at hSw); unfold q23c0; go_simp <;> with_reducible rfl)
      try simp only [q23c0, Act.put, List.setIfInBounds_toArray, List.set_cons_zero, List.set_cons_succ]
      refine wpAnyH_take (i := 1) (oi := q23c1) (v := ?_) rfl (by kernel_rfl) (by kernel_rfl) (by kernel_rfl) (fun _ _ _ h => h) (Or.inl ⟨by rfl, ?_⟩) hHeld ?_
      rotate_left
      · (intro w hSw; (try dsimp only at hSw); unfold q23c1; go_simp <;> with_reducible rfl)
      try simp only [q23c1, Act.put, List.setIfInBounds_toArray, List.set_cons_zero, List.set_cons_succ]
      refine wpAnyH_take (i := 2) (oi := q23c2) (v := ?_) rfl (by kernel_rfl) (by kernel_rfl) (by kernel_rfl) (fun _ _ _ h => h) (Or.inl ⟨by rfl, ?_⟩) hHeld ?_
      rotate_left
      · (intro w hSw; (try dsimp only at hSw); unfold q23c2; go_simp <;> with_reducible rfl)
      try simp only [q23c2, Act.put, List.setIfInBounds_toArray, List.set_cons_zero, List.set_cons_succ]
      refine wpAnyH_take (i := 3) (oi := q23c3) (v := ?_) rfl (by kernel_rfl) (by kernel_rfl) (by kernel_rfl) (fun _ _ _ h => h) (Or.inl ⟨by rfl, ?_⟩) hHeld ?_
      rotate_left
      · (intro w hSw; (try dsimp only at hSw); unfold q23c3; go_simp <;> with_reducible rfl)
      try simp only [q23c3, Act.put, List.setIfInBounds_toArray, List.set_cons_zero, List.set_cons_succ]
      refine wpAnyH_take (i := 4) (oi := q23c4) (v := ?_) rfl (by kernel_rfl) (by kernel_rfl) (by kernel_rfl) (fun _ _ _ h => h) (Or.inl ⟨by rfl, ?_⟩) hHeld ?_
      rotate_left
      · (intro w hSw; (try dsimp only at hSw); unfold q23c4; go_simp <;> with_reducible rfl)
      try simp only [q23c4, Act.put, List.setIfInBounds_toArray, List.set_cons_zero, List.set_cons_succ]
      refine wpAnyH_take (i := 5) (oi := q23c5) (v := ?_) rfl (by kernel_rfl) (by kernel_rfl) (by kernel_rfl) (fun _ _ _ h => h) (Or.inl ⟨by rfl, ?_⟩) hHeld ?_
      rotate_left
      · (intro w hSw; (try dsimp only at hSw); unfold q23c5; go_simp <;> with_reducible rfl)
      try simp only [q23c5, Act.put, List.setIfInBounds_toArray, List.set_cons_zero, List.set_cons_succ]
      refine wpAnyH_take (i := 6) (oi := q23c6) (v := ?_) rfl (by kernel_rfl) (by kernel_rfl) (by kernel_rfl) (fun _ _ _ h => h) (Or.inl ⟨by rfl, ?_⟩) hHeld ?_
      rotate_left
      · (intro w hSw; (try dsimp only at hSw); unfold q23c6; go_simp <;> with_reducible rfl)
      try simp only [q23c6, Act.put, List.setIfInBounds_toArray, List.set_cons_zero, List.set_cons_succ]
      refine wpAnyH_take (i := 7) (oi := q23c7) (v := ?_) rfl (by kernel_rfl) (by kernel_rfl) (by kernel_rfl) (fun _ _ _ h => h) (Or.inl ⟨by rfl, ?_⟩) hHeld ?_
      rotate_left
      · (intro w hSw; (try dsimp only at hSw); unfold q23c7; go_simp <;> with_reducible rfl)
      try simp only [q23c7, Act.put, List.setIfInBounds_toArray, List.set_cons_zero, List.set_cons_succ]
      refine wpAnyH_take (i := 8) (oi := q23c8) (v := ?_) rfl (by kernel_rfl) (by kernel_rfl) (by kernel_rfl) (fun _ _ _ h => h) (Or.inl ⟨by rfl, ?_⟩) hHeld ?_
      rotate_left
      · (intro w hSw; (try dsimp only at hSw); unfold q23c8; go_simp <;> with_reducible rfl)
      try simp only [q23c8, Act.put, List.setIfInBounds_toArray, List.set_cons_zero, List.set_cons_succ]
      refine wpAnyH_take (i := 10) (oi := q23c10) (v := ?_) rfl (by kernel_rfl) (by kernel_rfl) (by kernel_rfl) (fun _ _ _ h => h) (Or.inl ⟨by rfl, ?_⟩) hHeld ?_
      rotate_left
      · (intro w hSw; (try dsimp only at hSw); unfold q23c10; go_simp <;> with_reducible rfl)
      try simp only [q23c10, Act.put, List.setIfInBounds_toArray, List.set_cons_zero, List.set_cons_succ]
      refine wpAnyH_take (i := 11) (oi := q23c11) (v := ?_) rfl (by kernel_rfl) (by kernel_rfl) (by kernel_rfl) (fun _ _ _ h => h) (Or.inl ⟨by rfl, ?_⟩) hHeld ?_
      rotate_left
      · (intro w hSw; (try dsimp only at hSw); unfold q23c11; go_simp <;> with_reducible rfl)
      try simp only [q23c11, Act.put, List.setIfInBounds_toArray, List.set_cons_zero, List.set_cons_succ]
      refine wpAnyH_ready (rs := [9]) (by kernel_rfl) (by simp) ?_
      refine AllReadyH.cons (o := q23c9) rfl (fun K hK => ?_) AllReadyH.nil
      rw [if_pos (by rfl)]
      unfold q23c9
      go_simp
      refine hK.out _ _ hHeld (fun hHeld => ?_)
      clear hK K
      try simp only [q23c9, Act.put, List.setIfInBounds_toArray, List.set_cons_zero, List.set_cons_succ]
      refine wpAnyH_ready (rs := [12]) (by kernel_rfl) (by simp) ?_
      refine AllReadyH.cons (o := q23c12) rfl (fun K hK => ?_) AllReadyH.nil
      rw [if_pos (by rfl)]
      unfold q23c12
      go_simp
      (with_reducible refine (HC.out _ (Kept.drew (Kept.refl _))).mono ?_)
      rintro e w'' ⟨gt, rfl, hft, hKr⟩
      go_wp2_with fail
      refine hK.out _ _ (HS1.out _ hKr) (fun hHeld => ?_)
      clear hK K
      try simp only [q23c12, Act.put, List.setIfInBounds_toArray, List.set_cons_zero, List.set_cons_succ]
      refine wpAnyH_take (i := 13) (oi := q23c13) (v := ?_) rfl (by kernel_rfl) (by kernel_rfl) (by kernel_rfl) (fun _ _ _ h => h) (Or.inl ⟨by rfl, ?_⟩) hHeld ?_
      rotate_left
      · (intro w hSw; (try dsimp only at hSw); unfold q23c13; go_simp <;> with_reducible rfl)
      try simp only [q23c13, Act.put, List.setIfInBounds_toArray, List.set_cons_zero, List.set_cons_succ]
      refine wpAnyH_ready (rs := [14]) (by kernel_rfl) (by simp) ?_
      refine AllReadyH.cons (o := q23c14) rfl (fun K hK => ?_) AllReadyH.nil
      rw [if_pos (by rfl)]
      unfold q23c14
      go_simp
      refine hK.out _ _ (HS2.out _ _ hKr) (fun hHeld => ?_)
      clear hK K
      try simp only [q23c14, Act.put]
      refine wpAnyH_done (by kernel_rfl) ?_ _
      clear hHeld
      have hKz := hKr.below.size
      obtain ⟨q1', q2', q3'⟩ := hft
      have hz7 := HZ7.out
      have hY8 := (HY7.out.below hKr.below (by omega)).other (b' := g) (by omega) j (.slice (some ⟨gt, 0, none⟩) 128 128)
      have hA8 := (HA7.out.below hKr.below (by omega)).set j (.slice (some ⟨gt, 0, none⟩) 128 128)
      have hG8 := grown_setCell (W := w'') (b := g) j (.slice (some ⟨gt, 0, none⟩) 128 128)
      have hT8 := q3'.moved hG8 q2' (by simp; omega)
      have hB8 := (HS2.out _ (.slice (some ⟨gt, 0, none⟩) 128 128) hKr).1
      have hcs8 : secCells (w''.setCell ⟨g, j, none⟩ (.slice (some ⟨gt, 0, none⟩) 128 128)) (fun x => x < w.heap.size ∨ x = gt) (T.set j (tear Tj y)) (cs.set j (.slice (some ⟨gt, 0, none⟩) 128 128)) :=
        (HCS7.out.keep (fun x hx hl => (hG8.block x (by omega) (by have : x < w.heap.size := hx; simp; omega)).trans (hKr.below.block x hl)) (fun x hx _ => .inl hx) (by simpa using hKz)).set j (hT8.bytesOn (tear_len HT128.out HY128.out) (by simpa using q2') (.inr rfl) (Nat.le_refl _) (by unfold maxLen; omega))
      obtain ⟨W8, hW8⟩ : ∃ W8, W8 = w''.setCell ⟨g, j, none⟩ (.slice (some ⟨gt, 0, none⟩) 128 128) := ⟨_, rfl⟩
      rw [← hW8]
      rw [← hW8] at hY8 hA8 hT8 hB8 hcs8
      have hz8 : w''.heap.size = W8.heap.size := by rw [hW8]; simp
      have hY9 := hY8.set 3 (.bool true)
      have HG9 := Lib.hid (grown_setCell (W := W8) (b := w.heap.size + 1) 3 (.bool true))
      obtain ⟨x0, x1, x2, x3⟩ := hY8.four
      obtain ⟨z0, z1, z2, z3⟩ := hY8.free
      have HY9 := Lib.hid hY9
      have HA8 := Lib.hid hA8
      have HB8 := Lib.hid hB8
      have HC8 := Lib.hid hcs8
      have hgt8 : w.heap.size + 1 < gt := by omega
      have hg8 : g < W8.heap.size := by omega
      have HZ8 := Lib.hid hz8
      clear hKr hY8 hA8 hG8 hT8 hB8 hcs8 hW8 hY9 t0 t1 t2 t3 t4 t5 t6 q1' q2' q3' hz8 hz7 hKz
      go_wp2_with (refine store_disk rfl (.tmp 2) (.tmp 57) rfl (w.heap.size + 1) _ _ _ _ _ _ _ _ (by rfl) (by rfl) HY9.out rfl ?_; intro W10 hG10 hA10; obtain ⟨y0, y1, y2, y3⟩ := hA10.four)
      have hG := gtrans HG9.out hG10
      have hfin : DkAt W10 W10.heap.size (.agg #[.slice (some ⟨g, 0, none⟩) k cap, .slice none 0 0, .int .i64 0, .bool true]) ⟨T.set j (tear Tj y), [], 0, true⟩ :=
        ⟨⟨by show (-9223372036854775808 : Int) ≤ 0; decide, by show (0 : Int) ≤ _; decide⟩, _, _, rfl, (HC8.out.keep (Q := fun _ => True) (fun x hx hl => hG.block x hl (by simp; omega)) (fun _ _ _ => trivial) hG.size).at (HA8.out.moved hG hg8 (by simp; omega)) (Nat.lt_of_lt_of_le hg8 hG.size) (by rw [List.length_set]; exact HTL.out) HG1.out HG2.out, pen_nil _ _ _⟩
      have hBf := below_grow HB8.out hG (fun j hj => by cases hj; omega) (by omega)
      refine bodyPost_ret (v := .tuple #[.agg #[.slice (some ⟨g, 0, none⟩) k cap, .slice none 0 0, .int .i64 0, .bool true], .int .i64 40]) (by simp [results, Try.results23, go_sem, y0, y1, y2, y3]) rfl ⟨_, rfl, ?_, hBf⟩
      show DkAt W10 W10.heap.size _ ⟨T.set j (tear (T.getD j []) y), [], 0, true⟩
      rw [HTG.out]
      exact hfin
end Go.Proofs.Ytmklchjgiaomkaa
