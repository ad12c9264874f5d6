/- For all moves NetworkOnlySent answers true and leaves its argument as it was: the walk. -/
import Derived.Test.YtjancbjjeemedaaOsp
import Derived.Test.YtjancbjjeemedaaOst
import Derived.Test.YtjancbjjeemedaaLal
import Derived.Deep.RegionWith
import Derived.Deep.QuietTactic
import Derived.StillTailTactics
import Derived.Deep.CutRange
namespace Go.Proofs.Ytjancbjjeemedaa
open Go.RowKit
def q5p0 : Oper := { dst := some 25, op := Go.Op.load 25 (Go.Operand.tmp 3), type := 25, pos := "law.go:117", after := #[], guard := none }
def q5p1 : Oper := { dst := some 26, op := Go.Op.move (Go.Operand.tmp 0), type := 45, pos := "law.go:117", after := #[], guard := none }
def q5p2 : Oper := { dst := some 27, op := Go.Op.move (Go.Operand.tmp 6), type := 3, pos := "law.go:117", after := #[], guard := none }
def q5p3 : Oper := { dst := some 28, op := Go.Op.indexAddr 45 (Go.Operand.tmp 26) (Go.Operand.tmp 27), type := 0, pos := "law.go:117", after := #[{ on := 1, ground := Go.Ground.data }, { on := 2, ground := Go.Ground.data }], guard := none }
def q5p4 : Oper := { dst := some 29, op := Go.Op.load 49 (Go.Operand.tmp 28), type := 49, pos := "law.go:117", after := #[{ on := 3, ground := Go.Ground.data }], guard := none }
def q5p5 : Oper := { dst := some 30, op := Go.Op.call { callee := Go.Callee.value (Go.Operand.func 27), args := #[Go.Operand.tmp 25, Go.Operand.tmp 29], argTypes := #[25, 49] }, type := 46, pos := "law.go:117", after := #[{ on := 0, ground := Go.Ground.data }, { on := 4, ground := Go.Ground.data }], guard := none }
def q5p6 : Oper := { dst := some 24, op := Go.Op.move (Go.Operand.tmp 30), type := 46, pos := "law.go:117", after := #[{ on := 5, ground := Go.Ground.data }], guard := none }
def q5p7 : Oper := { dst := some 31, op := Go.Op.extract (Go.Operand.tmp 24) 0, type := 25, pos := "law.go:117", after := #[{ on := 6, ground := Go.Ground.data }], guard := none }
def q5p8 : Oper := { dst := some 32, op := Go.Op.extract (Go.Operand.tmp 24) 1, type := 28, pos := "law.go:117", after := #[{ on := 6, ground := Go.Ground.data }, { on := 12, ground := Go.Ground.gcOnly Go.Departure.lateStores }], guard := none }
def q5p9 : Oper := { dst := some 33, op := Go.Op.extract (Go.Operand.tmp 24) 2, type := 31, pos := "law.go:117", after := #[{ on := 6, ground := Go.Ground.data }, { on := 13, ground := Go.Ground.gcOnly Go.Departure.lateStores }], guard := none }
def q5p10 : Oper := { dst := some 7, op := Go.Op.alloc 25, type := 0, pos := "law.go:117", after := #[], guard := none }
def q5p11 : Oper := { dst := some 8, op := Go.Op.alloc 28, type := 0, pos := "law.go:117", after := #[], guard := none }
def q5p12 : Oper := { dst := none, op := Go.Op.store 25 (Go.Operand.tmp 7) (Go.Operand.tmp 31), type := 0, pos := "law.go:117", after := #[{ on := 10, ground := Go.Ground.data }, { on := 7, ground := Go.Ground.data }, { on := 5, ground := Go.Ground.chain }, { on := 0, ground := Go.Ground.phase }, { on := 1, ground := Go.Ground.phase }, { on := 2, ground := Go.Ground.phase }, { on := 3, ground := Go.Ground.phase }, { on := 4, ground := Go.Ground.phase }, { on := 5, ground := Go.Ground.phase }, { on := 6, ground := Go.Ground.phase }, { on := 7, ground := Go.Ground.phase }, { on := 8, ground := Go.Ground.textOnly Go.Departure.lateStores }, { on := 9, ground := Go.Ground.textOnly Go.Departure.lateStores }, { on := 10, ground := Go.Ground.phase }, { on := 11, ground := Go.Ground.phase }], guard := none }
def q5p13 : Oper := { dst := none, op := Go.Op.store 28 (Go.Operand.tmp 8) (Go.Operand.tmp 32), type := 0, pos := "law.go:117", after := #[{ on := 11, ground := Go.Ground.data }, { on := 8, ground := Go.Ground.data }, { on := 12, ground := Go.Ground.chain }, { on := 0, ground := Go.Ground.phase }, { on := 1, ground := Go.Ground.phase }, { on := 2, ground := Go.Ground.phase }, { on := 3, ground := Go.Ground.phase }, { on := 4, ground := Go.Ground.phase }, { on := 5, ground := Go.Ground.phase }, { on := 6, ground := Go.Ground.phase }, { on := 7, ground := Go.Ground.phase }, { on := 8, ground := Go.Ground.phase }, { on := 9, ground := Go.Ground.textOnly Go.Departure.lateStores }, { on := 10, ground := Go.Ground.phase }, { on := 11, ground := Go.Ground.phase }, { on := 12, ground := Go.Ground.phase }], guard := none }
def q5p14 : Oper := { dst := some 9, op := Go.Op.assign (Go.Operand.tmp 33), type := 31, pos := "law.go:117", after := #[{ on := 9, ground := Go.Ground.data }, { on := 13, ground := Go.Ground.chain }, { on := 0, ground := Go.Ground.phase }, { on := 1, ground := Go.Ground.phase }, { on := 2, ground := Go.Ground.phase }, { on := 3, ground := Go.Ground.phase }, { on := 4, ground := Go.Ground.phase }, { on := 5, ground := Go.Ground.phase }, { on := 6, ground := Go.Ground.phase }, { on := 7, ground := Go.Ground.phase }, { on := 8, ground := Go.Ground.phase }, { on := 9, ground := Go.Ground.phase }, { on := 10, ground := Go.Ground.phase }, { on := 11, ground := Go.Ground.phase }, { on := 12, ground := Go.Ground.phase }, { on := 13, ground := Go.Ground.phase }], guard := none }
def q5q0 : Oper := { dst := some 83, op := Go.Op.move (Go.Operand.tmp 10), type := 4, pos := "law.go:133", after := #[], guard := none }
def q5q1 : Oper := { dst := some 84, op := Go.Op.move (Go.Operand.tmp 83), type := 4, pos := "law.go:133", after := #[{ on := 0, ground := Go.Ground.data }], guard := none }
def q5q2 : Oper := { dst := some 85, op := Go.Op.move (Go.Operand.tmp 4), type := 22, pos := "law.go:133", after := #[{ on := 1, ground := Go.Ground.guard }], guard := some (1, false) }
def q5q3 : Oper := { dst := some 86, op := Go.Op.move (Go.Operand.tmp 11), type := 3, pos := "law.go:133", after := #[{ on := 1, ground := Go.Ground.guard }], guard := some (1, false) }
def q5q4 : Oper := { dst := some 87, op := Go.Op.indexAddr 22 (Go.Operand.tmp 85) (Go.Operand.tmp 86), type := 0, pos := "law.go:133", after := #[{ on := 2, ground := Go.Ground.data }, { on := 3, ground := Go.Ground.data }, { on := 1, ground := Go.Ground.guard }], guard := some (1, false) }
def q5q5 : Oper := { dst := some 88, op := Go.Op.load 28 (Go.Operand.tmp 87), type := 28, pos := "law.go:133", after := #[{ on := 4, ground := Go.Ground.data }, { on := 1, ground := Go.Ground.guard }], guard := some (1, false) }
def q5q6 : Oper := { dst := some 89, op := Go.Op.load 28 (Go.Operand.tmp 8), type := 28, pos := "law.go:133", after := #[{ on := 1, ground := Go.Ground.guard }], guard := some (1, false) }
def q5q7 : Oper := { dst := some 90, op := Go.Op.call { callee := Go.Callee.value (Go.Operand.func 22), args := #[Go.Operand.tmp 88, Go.Operand.tmp 89], argTypes := #[28, 28] }, type := 4, pos := "law.go:133", after := #[{ on := 5, ground := Go.Ground.data }, { on := 6, ground := Go.Ground.data }, { on := 1, ground := Go.Ground.chain }, { on := 1, ground := Go.Ground.guard }], guard := some (1, false) }
def q5q8 : Oper := { dst := some 91, op := Go.Op.pick (Go.Operand.tmp 84) (Go.Operand.const (Go.Value.bool true)) (Go.Operand.tmp 90), type := 4, pos := "law.go:133", after := #[{ on := 1, ground := Go.Ground.data }, { on := 7, ground := Go.Ground.data }], guard := none }
def q5q9 : Oper := { dst := some 10, op := Go.Op.assign (Go.Operand.tmp 91), type := 4, pos := "law.go:133", after := #[{ on := 8, ground := Go.Ground.data }, { on := 7, ground := Go.Ground.chain }, { on := 0, ground := Go.Ground.phase }, { on := 1, ground := Go.Ground.phase }, { on := 2, ground := Go.Ground.phase }, { on := 3, ground := Go.Ground.phase }, { on := 4, ground := Go.Ground.phase }, { on := 5, ground := Go.Ground.phase }, { on := 6, ground := Go.Ground.phase }, { on := 7, ground := Go.Ground.phase }, { on := 8, ground := Go.Ground.phase }], guard := none }
theorem Arr.same {W W' : World} {b : Nat} {cs : List Value} (h : Arr W b cs) (e : W'.heap[b]? = W.heap[b]?) : Arr W' b cs :=
  ⟨fun j v hv => (World.cell?_of_block (a := ⟨b, 0 + j, none⟩) e).trans (h.at_ j v hv), fun j hj => ⟨by rw [World.cell?_of_block (a := ⟨b, 0 + j, none⟩) e]; exact (h.there j hj).1, by rw [World.frozen?_of_block (a := ⟨b, 0 + j, none⟩) e]; exact (h.there j hj).2⟩⟩
/-- What lies after a move: links and a packet in blocks of their own. -/
structure Aft (w W0 : World) (b3 : Nat) (n : Nt) (ra : Option Addr) (k rc : Nat) (sent : List Pk) (b7 b8 : Nat) (qa : Option Addr) (N qc : Nat) (aa : Option Addr) (M ac : Nat) (x : Nt) (X Y : Int) (da : Option Addr) (L dc : Nat) (p : Pk) (W : World) : Prop where
  ln : LN w b3 n ra k rc sent W
  n7 : W0.heap.size ≤ b7
  n8 : W0.heap.size ≤ b8
  bx : NBox W b7 qa N qc aa M ac x
  bp : PBox W b8 X Y da L dc p
theorem Aft.next {w W0 : World} {b3 : Nat} {n : Nt} {ra : Option Addr} {k rc : Nat} {sent : List Pk} {b7 b8 : Nat} {qa : Option Addr} {N qc : Nat} {aa : Option Addr} {M ac : Nat} {x : Nt} {X Y : Int} {da : Option Addr} {L dc : Nat} {p : Pk} {W W' : World} (h : Aft w W0 b3 n ra k rc sent b7 b8 qa N qc aa M ac x X Y da L dc p W) (hb : Below W.heap.size W W') : Aft w W0 b3 n ra k rc sent b7 b8 qa N qc aa M ac x X Y da L dc p W' :=
  ⟨h.ln.next hb, h.n7, h.n8, h.bx.next hb, h.bp.next hb⟩

set_option maxRecDepth 100000 in
set_option maxHeartbeats 32000000 in
theorem lawSent (w : World) (v : Value) (l : List Mv) (h : MAt w w.heap.size v l) : Calls Try.prog 5 #[v] w fun e w' => e = .returned (.bool true) ∧ Below w.heap.size w w' := by
  obtain ⟨N, hN⟩ : ∃ x, l.length = x := ⟨_, rfl⟩
  obtain ⟨ma, mc, rfl, hle, hmx⟩ : ∃ a c, v = .slice a l.length c ∧ l.length ≤ c ∧ c ≤ maxLen := by obtain ⟨a, c, h1, h2, h3, _⟩ := h; exact ⟨a, c, h1, h2, h3⟩
  rw [hN] at h hle ⊢
  unfold maxLen at hmx
  have HM := Lib.hid h
  have HN := Lib.hid hN
  clear h hN
  go_enter Try.func5, Try.ntmps5
  go_wp2_with fail
  refine (sane_any _).mono ?_
  rintro e w1 ⟨rfl, hb⟩
  have HB := Lib.hid hb
  clear hb
  by_cases h60 : 60 < N
  · have dq : decide (60 < (N : Int)) = true := by simp; omega
    go_wp2
    go_ret
    exact ⟨rfl, HB.out⟩
  have dq : decide (60 < (N : Int)) = false := by simp; omega
  have hN60 : N ≤ 60 := by omega
  clear h60
  go_wp2_with fail
  refine (new_any _).mono ?_
  rintro e w2 ⟨rfl, hb⟩
  obtain ⟨X, hX⟩ : ∃ X, X = w2.alloc (.cells #[.slice none 0 0, .slice none 0 0] 25) := ⟨_, rfl⟩
  have hbX : Below w2.heap.size w2 X := by rw [hX]; go_grown
  have HT0 : Hid (LN w w2.heap.size Nt.zero none 0 0 [] X) := Lib.hid (by
    refine ⟨bthen HB.out (hb.trans (hbX.mono hb.size)), Nat.le_trans HB.out.size hb.size, ⟨none, 0, none, 0, ?_⟩, by rw [hX]; exact SlB.new _ _ _ _ _ _ _ _, rfl, .inl ⟨rfl, rfl, rfl⟩⟩
    exact ⟨by rw [hX]; simp, by rw [hX]; exact Arr.new w2 #[.slice none 0 0, .slice none 0 0] 25, zero_at _ _⟩)
  obtain ⟨b3, hb3⟩ : ∃ b, w2.heap.size = b := ⟨_, rfl⟩
  have HX := Lib.hid hX
  rw [hb3] at HT0
  clear hb hX hbX
  go_wp2
  rw [← HX.out]
  try rw [hb3]
  clear HX hb3 HB
  go_loopw [4, 5, 6] (fun v4 v5 v6 wr => ∃ (i cuts k rc : Nat) (ra : Option Addr) (n : Nt) (sent : List Pk), v4 = .slice ra k rc ∧ v5 = .int .i64 cuts ∧ v6 = .int .i64 i ∧ i ≤ N ∧ k ≤ i ∧ cuts ≤ i ∧ Sn n sent cuts i ∧ LN w b3 n ra k rc sent wr) (fun _ _ i _ => N - (intOf i).toNat)
  case atStart => exact ⟨0, 0, 0, 0, none, Nt.zero, [], rfl, rfl, rfl, Nat.zero_le _, Nat.le_refl _, Nat.le_refl _, ⟨rfl, Nat.le_refl _, fun p hp => by simp [Nt.zero] at hp, fun h => absurd rfl h⟩, HT0.out⟩
  case round =>
  clear HT0
  obtain ⟨i, cuts, k, rc, ra, n, sent, rfl, rfl, rfl, hi, hk, hcu, hS, hT⟩ := hrel
  have HT := Lib.hid hT
  have HS := Lib.hid hS
  clear hT hS
  by_cases hlt : i < N
  · have ii : (i : Int) < (N : Int) := by omega
    have di : decide ((i : Int) < (N : Int)) = true := by simp; omega
    obtain ⟨m, hm⟩ : ∃ m, l[i]? = some m := ⟨_, List.getElem?_eq_getElem (by rw [HN.out]; exact hlt)⟩
    obtain ⟨mb, mo, rfl, hmc⟩ := HM.out.cells HN.out i hlt m hm
    have hsd := fun W v h => hap_any W v n h HS.out.ok (by have := HS.out.len; omega) m
    unfold mcells at hsd
    obtain ⟨kk, hkk⟩ : ∃ x, m.kind.toNat = x := ⟨_, rfl⟩
    obtain ⟨ka, hka⟩ : ∃ x, m.at_.toNat = x := ⟨_, rfl⟩
    obtain ⟨kA, hkA⟩ : ∃ x, m.a.toNat = x := ⟨_, rfl⟩
    obtain ⟨kB, hkB⟩ : ∃ x, m.b.toNat = x := ⟨_, rfl⟩
    obtain ⟨kD, hkD⟩ : ∃ x, m.data.toNat = x := ⟨_, rfl⟩
    have hk1 : kk < 256 := by rw [← hkk]; exact UInt8.toNat_lt _
    rw [hkk, hka, hkA, hkB, hkD] at hmc hsd
    obtain ⟨R, hR⟩ : ∃ R, n.hap m = R := ⟨_, rfl⟩
    simp only [hR] at hsd
    obtain ⟨⟨x, p⟩, er⟩ := R
    obtain ⟨N9, hN9⟩ : ∃ y, x.q.length = y := ⟨_, rfl⟩
    obtain ⟨M9, hM9⟩ : ∃ y, x.ap.length = y := ⟨_, rfl⟩
    obtain ⟨px, hpx⟩ : ∃ y, p.frm = y := ⟨_, rfl⟩
    obtain ⟨py, hpy⟩ : ∃ y, p.to = y := ⟨_, rfl⟩
    obtain ⟨pl, hpl⟩ : ∃ y, p.data.length = y := ⟨_, rfl⟩
    have hxo : x.ok = true := by have := hap_ok (m := m) HS.out.ok; rwa [hR] at this
    obtain ⟨qa, qc, aa, ac, hx⟩ := HT.out.box
    obtain ⟨F, hF⟩ : ∃ y, n.q.length = y := ⟨_, rfl⟩
    obtain ⟨G, hG⟩ : ∃ y, n.ap.length = y := ⟨_, rfl⟩
    rw [hF, hG] at hx
    have hsd2 : ∀ W, Kept wr W → Calls Try.prog 27 #[.agg #[.slice qa F qc, .slice aa G ac], .agg #[.int .u8 kk, .int .u8 ka, .int .u8 kA, .int .u8 kB, .int .u8 kD]] W fun e w' => ∃ (qa9 : Option Addr) (qc9 : Nat) (aa9 : Option Addr) (ac9 : Nat) (da9 : Option Addr) (dc9 : Nat), e = .returned (.tuple #[.agg #[.slice qa9 N9 qc9, .slice aa9 M9 ac9], .agg #[.int .i64 px, .int .i64 py, .slice da9 pl dc9], .int .i64 er]) ∧ NtAt w' w'.heap.size (.agg #[.slice qa9 N9 qc9, .slice aa9 M9 ac9]) x ∧ PkAt w' w'.heap.size (.agg #[.int .i64 px, .int .i64 py, .slice da9 pl dc9]) p ∧ Below W.heap.size W w' := fun W hW =>
      (hsd W _ (hx.nt.next hW.below)).mono fun e w' ⟨v', vp, h1, h2, h3, h4⟩ => by
        obtain ⟨qa9, qc9, aa9, ac9, rfl, _⟩ := h2.parts hN9 hM9
        obtain ⟨da9, dc9, rfl, _⟩ := h3.parts hpx hpy hpl
        exact ⟨qa9, qc9, aa9, ac9, da9, dc9, h1, h2, h3, h4⟩
    have HSD := Lib.hid hsd2
    have HSC := Lib.hid (show ∀ W, Kept wr W → (W.cell? ⟨b3, 0, none⟩ = some (.slice qa F qc) ∧ W.cell? ⟨b3, 1, none⟩ = some (.slice aa G ac)) ∧
      W.cell? ⟨mb, mo + i * 5, none⟩ = some (.int .u8 kk) ∧ W.cell? ⟨mb, mo + i * 5 + 1, none⟩ = some (.int .u8 ka) ∧ W.cell? ⟨mb, mo + i * 5 + 2, none⟩ = some (.int .u8 kA) ∧ W.cell? ⟨mb, mo + i * 5 + 3, none⟩ = some (.int .u8 kB) ∧ W.cell? ⟨mb, mo + i * 5 + 4, none⟩ = some (.int .u8 kD) from fun W hW =>
      ⟨⟨(hW.cell hx.lt).trans hx.c0, (hW.cell hx.lt).trans hx.c1⟩, hmc W (bthen HT.out.below hW.below)⟩)
    have hx0 : Kept wr wr.drew := (Kept.refl _).drew
    have HMC := Lib.hid hmc
    have HXO := Lib.hid hxo
    have HHM := Lib.hid hm
    have HHR := Lib.hid hR
    have HKK := Lib.hid hkk
    have HL9 := Lib.hid (And.intro hN9 hM9)
    have HPP := Lib.hid (And.intro hpx (And.intro hpy hpl))
    have HFG := Lib.hid (And.intro hF hG)
    clear hsd hsd2 hx hmc hm hkk hka hkA hkB hkD hR hN9 hM9 hpx hpy hpl hxo hF hG
    go_upto_region 11 with (fail)
    go_cut [7, 8, 9] from 18 to 101 (fun v7 v8 v9 wx => ∃ (b7 b8 : Nat) (qa9 : Option Addr) (qc9 : Nat) (aa9 : Option Addr) (ac9 : Nat) (da9 : Option Addr) (dc9 : Nat), v7 = .pointer (some ⟨b7, 0, none⟩) ∧ v8 = .pointer (some ⟨b8, 0, none⟩) ∧ v9 = .int .i64 er ∧ Aft w wr b3 n ra k rc sent b7 b8 qa9 N9 qc9 aa9 M9 ac9 x px py da9 pl dc9 p wx)
    case first =>
      refine wp_region_held_drew (S := fun W => Kept wr W) (by kernel_rfl) hx0 (fun hHeld => ?_)
      refine wpAnyH_take (i := 0) (oi := q5p0) (v := ?_) rfl (by kernel_rfl) (by kernel_rfl) (by kernel_rfl) (fun _ _ _ h => h) (Or.inl ⟨by rfl, ?_⟩) hHeld ?_
      rotate_left
      · (intro w hSw; obtain ⟨⟨b0, b1⟩, m0, m1, m2, m3, m4⟩ := HSC.out _ hSw; unfold q5p0; go_simp <;> with_reducible rfl)
      try simp only [q5p0, Act.put, List.setIfInBounds_toArray, List.set_cons_zero, List.set_cons_succ]
      refine wpAnyH_take (i := 1) (oi := q5p1) (v := ?_) rfl (by kernel_rfl) (by kernel_rfl) (by kernel_rfl) (fun _ _ _ h => h) (Or.inl ⟨by rfl, ?_⟩) hHeld ?_
      rotate_left
      · (intro w hSw; (try dsimp only at hSw); unfold q5p1; go_simp <;> with_reducible rfl)
      try simp only [q5p1, Act.put, List.setIfInBounds_toArray, List.set_cons_zero, List.set_cons_succ]
      refine wpAnyH_take (i := 2) (oi := q5p2) (v := ?_) rfl (by kernel_rfl) (by kernel_rfl) (by kernel_rfl) (fun _ _ _ h => h) (Or.inl ⟨by rfl, ?_⟩) hHeld ?_
      rotate_left
      · (intro w hSw; (try dsimp only at hSw); unfold q5p2; go_simp <;> with_reducible rfl)
      try simp only [q5p2, Act.put, List.setIfInBounds_toArray, List.set_cons_zero, List.set_cons_succ]
      refine wpAnyH_take (i := 3) (oi := q5p3) (v := ?_) rfl (by kernel_rfl) (by kernel_rfl) (by kernel_rfl) (fun _ _ _ h => h) (Or.inl ⟨by rfl, ?_⟩) hHeld ?_
      rotate_left
      · (intro w hSw; obtain ⟨⟨b0, b1⟩, m0, m1, m2, m3, m4⟩ := HSC.out _ hSw; unfold q5p3; go_simp <;> with_reducible rfl)
      try simp only [q5p3, Act.put, List.setIfInBounds_toArray, List.set_cons_zero, List.set_cons_succ]
      refine wpAnyH_take (i := 4) (oi := q5p4) (v := ?_) rfl (by kernel_rfl) (by kernel_rfl) (by kernel_rfl) (fun _ _ _ h => h) (Or.inl ⟨by rfl, ?_⟩) hHeld ?_
      rotate_left
      · (intro w hSw; obtain ⟨⟨b0, b1⟩, m0, m1, m2, m3, m4⟩ := HSC.out _ hSw; unfold q5p4; go_simp <;> with_reducible rfl)
      try simp only [q5p4, Act.put, List.setIfInBounds_toArray, List.set_cons_zero, List.set_cons_succ]
      refine wpAnyH_ready (rs := [5, 10, 11]) (by kernel_rfl) (by simp) ?_
      refine AllReadyH.cons (o := q5p5) rfl (fun K hK => ?_) (AllReadyH.cons (o := q5p10) rfl (fun K hK => ?_) (AllReadyH.cons (o := q5p11) rfl (fun K hK => ?_) AllReadyH.nil))
      · skip
        rw [if_pos (by rfl)]
        unfold q5p5
        go_simp
        go_at_call 27
        refine (HSD.out _ hHeld).mono ?_
        rintro e w9 ⟨qa9, qc9, aa9, ac9, da9, dc9, rfl, hnt, hpk, hb9⟩
        have hk9 : Kept wr w9 := hHeld.next hb9
        clear hb9
        refine hK.out _ _ hk9 (fun hHeld => ?_)
        clear hk9
        clear hK K
        try simp only [q5p5, Act.put, List.setIfInBounds_toArray, List.set_cons_zero, List.set_cons_succ]
        refine wpAnyH_take (i := 6) (oi := q5p6) (v := ?_) rfl (by kernel_rfl) (by kernel_rfl) (by kernel_rfl) (fun _ _ _ h => h) (Or.inl ⟨by rfl, ?_⟩) hHeld ?_
        rotate_left
        · (intro w hSw; (try dsimp only at hSw); unfold q5p6; go_simp <;> with_reducible rfl)
        try simp only [q5p6, Act.put, List.setIfInBounds_toArray, List.set_cons_zero, List.set_cons_succ]
        refine wpAnyH_take (i := 7) (oi := q5p7) (v := ?_) rfl (by kernel_rfl) (by kernel_rfl) (by kernel_rfl) (fun _ _ _ h => h) (Or.inl ⟨by rfl, ?_⟩) hHeld ?_
        rotate_left
        · (intro w hSw; (try dsimp only at hSw); unfold q5p7; go_simp <;> with_reducible rfl)
        try simp only [q5p7, Act.put, List.setIfInBounds_toArray, List.set_cons_zero, List.set_cons_succ]
        refine wpAnyH_take (i := 8) (oi := q5p8) (v := ?_) rfl (by kernel_rfl) (by kernel_rfl) (by kernel_rfl) (fun _ _ _ h => h) (Or.inl ⟨by rfl, ?_⟩) hHeld ?_
        rotate_left
        · (intro w hSw; (try dsimp only at hSw); unfold q5p8; go_simp <;> with_reducible rfl)
        try simp only [q5p8, Act.put, List.setIfInBounds_toArray, List.set_cons_zero, List.set_cons_succ]
        refine wpAnyH_take (i := 9) (oi := q5p9) (v := ?_) rfl (by kernel_rfl) (by kernel_rfl) (by kernel_rfl) (fun _ _ _ h => h) (Or.inl ⟨by rfl, ?_⟩) hHeld ?_
        rotate_left
        · (intro w hSw; (try dsimp only at hSw); unfold q5p9; go_simp <;> with_reducible rfl)
        try simp only [q5p9, Act.put, List.setIfInBounds_toArray, List.set_cons_zero, List.set_cons_succ]
        refine wpAnyH_ready (rs := [10, 11]) (by kernel_rfl) (by simp) ?_
        refine AllReadyH.cons (o := q5p10) rfl (fun K hK => ?_) (AllReadyH.cons (o := q5p11) rfl (fun K hK => ?_) AllReadyH.nil)
        · skip
          rw [if_pos (by rfl)]
          unfold q5p10
          go_simp
          obtain ⟨WA7, hWA7⟩ : ∃ WA, WA = w9.alloc (.cells #[.slice none 0 0, .slice none 0 0] 25) := ⟨_, rfl⟩
          have hkA : Kept wr WA7 := by rw [hWA7]; exact Kept.alloc hHeld _
          have hzA : WA7.heap.size = w9.heap.size + 1 := by rw [hWA7]; simp
          have hbA : Below w9.heap.size w9 WA7 := by rw [hWA7]; go_grown
          have n7 : wr.heap.size ≤ w9.heap.size := hHeld.below.size
          have l7 : w9.heap.size < WA7.heap.size := by omega
          clear hzA
          have h7 : Arr WA7 (w9.heap.size) [.slice none 0 0, .slice none 0 0] := by rw [hWA7]; exact (Arr.new w9 #[.slice none 0 0, .slice none 0 0] 25)
          have s7 : SlB WA7 (w9.heap.size) := by rw [hWA7]; exact SlB.new w9 none none 0 0 0 0 25
          have hnt := hnt.next hbA
          have hpk := hpk.next hbA
          rw [← hWA7]
          clear hWA7 hbA
          refine hK.out _ _ hkA (fun hHeld => ?_)
          clear hkA
          clear hK K
          try simp only [q5p10, Act.put, List.setIfInBounds_toArray, List.set_cons_zero, List.set_cons_succ]
          refine wpAnyH_ready (rs := [11]) (by kernel_rfl) (by simp) ?_
          refine AllReadyH.cons (o := q5p11) rfl (fun K hK => ?_) AllReadyH.nil
          rw [if_pos (by rfl)]
          unfold q5p11
          go_simp
          obtain ⟨WA8, hWA8⟩ : ∃ WA, WA = WA7.alloc (.cells #[.int .i64 0, .int .i64 0, .slice none 0 0] 28) := ⟨_, rfl⟩
          have hkA : Kept wr WA8 := by rw [hWA8]; exact Kept.alloc hHeld _
          have hzA : WA8.heap.size = WA7.heap.size + 1 := by rw [hWA8]; simp
          have hbA : Below WA7.heap.size WA7 WA8 := by rw [hWA8]; go_grown
          have n8 : wr.heap.size ≤ WA7.heap.size := hHeld.below.size
          have l8 : WA7.heap.size < WA8.heap.size := by omega
          clear hzA
          have h8 : Arr WA8 (WA7.heap.size) [.int .i64 0, .int .i64 0, .slice none 0 0] := by rw [hWA8]; exact (Arr.new WA7 #[.int .i64 0, .int .i64 0, .slice none 0 0] 28)
          have r8 : RowP WA8 WA8.heap.size (WA7.heap.size) 0 1 [] := by rw [hWA8]; exact (zero_row WA7)
          have h7 := h7.below hbA (h7.lt (by simp))
          have s7 := s7.below hbA l7
          have e78 : w9.heap.size ≠ WA7.heap.size := by omega
          have l7 := Nat.lt_of_lt_of_le l7 hbA.size
          have hnt := hnt.next hbA
          have hpk := hpk.next hbA
          rw [← hWA8]
          clear hWA8 hbA
          refine hK.out _ _ hkA (fun hHeld => ?_)
          clear hkA
          clear hK K
          try simp only [q5p11, Act.put, List.setIfInBounds_toArray, List.set_cons_zero, List.set_cons_succ]
          refine wpAnyH_ready (rs := [12]) (by kernel_rfl) (by simp) ?_
          refine AllReadyH.cons (o := q5p12) rfl (fun K hK => ?_) AllReadyH.nil
          rw [if_pos (by rfl)]
          unfold q5p12
          have e10 : WA8.cell? ⟨w9.heap.size, 0, none⟩ = some (.slice none 0 0) := h7.cell rfl
          have e11 : WA8.cell? ⟨w9.heap.size, 1, none⟩ = some (.slice none 0 0) := h7.cell rfl
          have f10 : WA8.frozen? ⟨w9.heap.size, 0, none⟩ = false := h7.frozen (by simp)
          have f11 : WA8.frozen? ⟨w9.heap.size, 1, none⟩ = false := h7.frozen (by simp)
          obtain ⟨WS, hWS⟩ : ∃ WS, (WA8.setCell ⟨w9.heap.size, 0, none⟩ (.slice qa9 N9 qc9)).setCell ⟨w9.heap.size, 1, none⟩ (.slice aa9 M9 ac9) = WS := ⟨_, rfl⟩
          have hrd := Rdy.first ⟨e78, h8, r8, hnt, hpk⟩ h7 s7
          rw [hWS] at hrd
          have hkS : Kept wr WS := by rw [← hWS]; exact (hHeld.set (p := ⟨w9.heap.size, 0, none⟩) n7 _).set (p := ⟨w9.heap.size, 1, none⟩) n7 _
          go_simp
          try rw [hWS]
          refine hK.out _ _ hkS (fun hHeld => ?_)
          clear e10 e11 f10 f11 hWS h7 s7 h8 r8 hnt hpk hkS
          clear hK K
          try simp only [q5p12, Act.put]
          refine wpAnyH_ready (rs := [13]) (by kernel_rfl) (by simp) ?_
          refine AllReadyH.cons (o := q5p13) rfl (fun K hK => ?_) AllReadyH.nil
          rw [if_pos (by rfl)]
          unfold q5p13
          obtain ⟨hrd, hr7⟩ := hrd
          have e10 : WS.cell? ⟨WA7.heap.size, 0, none⟩ = some (.int .i64 0) := hrd.a8.cell rfl
          have e11 : WS.cell? ⟨WA7.heap.size, 1, none⟩ = some (.int .i64 0) := hrd.a8.cell rfl
          have e12 : WS.cell? ⟨WA7.heap.size, 2, none⟩ = some (.slice none 0 0) := hrd.a8.cell rfl
          have f10 : WS.frozen? ⟨WA7.heap.size, 0, none⟩ = false := hrd.a8.frozen (by simp)
          have f11 : WS.frozen? ⟨WA7.heap.size, 1, none⟩ = false := hrd.a8.frozen (by simp)
          have f12 : WS.frozen? ⟨WA7.heap.size, 2, none⟩ = false := hrd.a8.frozen (by simp)
          obtain ⟨WT, hWT⟩ : ∃ WT, ((WS.setCell ⟨WA7.heap.size, 0, none⟩ (.int .i64 px)).setCell ⟨WA7.heap.size, 1, none⟩ (.int .i64 py)).setCell ⟨WA7.heap.size, 2, none⟩ (.slice da9 pl dc9) = WT := ⟨_, rfl⟩
          have hfin := hrd.second hr7 HXO.out
          rw [hWT] at hfin
          have hkT : Kept wr WT := by rw [← hWT]; exact ((hHeld.set (p := ⟨WA7.heap.size, 0, none⟩) n8 _).set (p := ⟨WA7.heap.size, 1, none⟩) n8 _).set (p := ⟨WA7.heap.size, 2, none⟩) n8 _
          go_simp
          try rw [hWT]
          refine hK.out _ _ hkT (fun hHeld => ?_)
          clear e10 e11 e12 f10 f11 f12 hWT hrd hr7 hkT
          clear hK K
          try simp only [q5p13, Act.put]
          refine wpAnyH_take (i := 14) (oi := q5p14) (v := ?_) rfl (by kernel_rfl) (by kernel_rfl) (by kernel_rfl) (fun _ _ _ h => h) (Or.inl ⟨by rfl, ?_⟩) hHeld ?_
          rotate_left
          · (intro w hSw; (try dsimp only at hSw); unfold q5p14; go_simp <;> with_reducible rfl)
          try simp only [q5p14, Act.put, List.setIfInBounds_toArray, List.set_cons_zero, List.set_cons_succ]
          refine wpAnyH_done (by kernel_rfl) ?_ _
          have HAF := Lib.hid (show Aft w wr b3 n ra k rc sent _ _ qa9 N9 qc9 aa9 M9 ac9 x px py da9 pl dc9 p WT from ⟨HT.out.next hHeld.below, n7, n8, hfin.1, hfin.2⟩)
          clear hfin hHeld
          go_wp2_with fail
          go_meet
          exact ⟨_, _, qa9, qc9, aa9, ac9, da9, dc9, rfl, rfl, rfl, HAF.out⟩
        · skip
          rw [if_pos (by rfl)]
          unfold q5p11
          go_simp
          obtain ⟨WA8, hWA8⟩ : ∃ WA, WA = w9.alloc (.cells #[.int .i64 0, .int .i64 0, .slice none 0 0] 28) := ⟨_, rfl⟩
          have hkA : Kept wr WA8 := by rw [hWA8]; exact Kept.alloc hHeld _
          have hzA : WA8.heap.size = w9.heap.size + 1 := by rw [hWA8]; simp
          have hbA : Below w9.heap.size w9 WA8 := by rw [hWA8]; go_grown
          have n8 : wr.heap.size ≤ w9.heap.size := hHeld.below.size
          have l8 : w9.heap.size < WA8.heap.size := by omega
          clear hzA
          have h8 : Arr WA8 (w9.heap.size) [.int .i64 0, .int .i64 0, .slice none 0 0] := by rw [hWA8]; exact (Arr.new w9 #[.int .i64 0, .int .i64 0, .slice none 0 0] 28)
          have r8 : RowP WA8 WA8.heap.size (w9.heap.size) 0 1 [] := by rw [hWA8]; exact (zero_row w9)
          have hnt := hnt.next hbA
          have hpk := hpk.next hbA
          rw [← hWA8]
          clear hWA8 hbA
          refine hK.out _ _ hkA (fun hHeld => ?_)
          clear hkA
          clear hK K
          try simp only [q5p11, Act.put, List.setIfInBounds_toArray, List.set_cons_zero, List.set_cons_succ]
          refine wpAnyH_ready (rs := [10]) (by kernel_rfl) (by simp) ?_
          refine AllReadyH.cons (o := q5p10) rfl (fun K hK => ?_) AllReadyH.nil
          rw [if_pos (by rfl)]
          unfold q5p10
          go_simp
          obtain ⟨WA7, hWA7⟩ : ∃ WA, WA = WA8.alloc (.cells #[.slice none 0 0, .slice none 0 0] 25) := ⟨_, rfl⟩
          have hkA : Kept wr WA7 := by rw [hWA7]; exact Kept.alloc hHeld _
          have hzA : WA7.heap.size = WA8.heap.size + 1 := by rw [hWA7]; simp
          have hbA : Below WA8.heap.size WA8 WA7 := by rw [hWA7]; go_grown
          have n7 : wr.heap.size ≤ WA8.heap.size := hHeld.below.size
          have l7 : WA8.heap.size < WA7.heap.size := by omega
          clear hzA
          have h7 : Arr WA7 (WA8.heap.size) [.slice none 0 0, .slice none 0 0] := by rw [hWA7]; exact (Arr.new WA8 #[.slice none 0 0, .slice none 0 0] 25)
          have s7 : SlB WA7 (WA8.heap.size) := by rw [hWA7]; exact SlB.new WA8 none none 0 0 0 0 25
          have h8 := h8.below hbA (h8.lt (by simp))
          have r8 := r8.next hbA
          have e78 : WA8.heap.size ≠ w9.heap.size := by omega
          have l8 := Nat.lt_of_lt_of_le l8 hbA.size
          have hnt := hnt.next hbA
          have hpk := hpk.next hbA
          rw [← hWA7]
          clear hWA7 hbA
          refine hK.out _ _ hkA (fun hHeld => ?_)
          clear hkA
          clear hK K
          try simp only [q5p10, Act.put, List.setIfInBounds_toArray, List.set_cons_zero, List.set_cons_succ]
          refine wpAnyH_ready (rs := [12]) (by kernel_rfl) (by simp) ?_
          refine AllReadyH.cons (o := q5p12) rfl (fun K hK => ?_) AllReadyH.nil
          rw [if_pos (by rfl)]
          unfold q5p12
          have e10 : WA7.cell? ⟨WA8.heap.size, 0, none⟩ = some (.slice none 0 0) := h7.cell rfl
          have e11 : WA7.cell? ⟨WA8.heap.size, 1, none⟩ = some (.slice none 0 0) := h7.cell rfl
          have f10 : WA7.frozen? ⟨WA8.heap.size, 0, none⟩ = false := h7.frozen (by simp)
          have f11 : WA7.frozen? ⟨WA8.heap.size, 1, none⟩ = false := h7.frozen (by simp)
          obtain ⟨WS, hWS⟩ : ∃ WS, (WA7.setCell ⟨WA8.heap.size, 0, none⟩ (.slice qa9 N9 qc9)).setCell ⟨WA8.heap.size, 1, none⟩ (.slice aa9 M9 ac9) = WS := ⟨_, rfl⟩
          have hrd := Rdy.first ⟨e78, h8, r8, hnt, hpk⟩ h7 s7
          rw [hWS] at hrd
          have hkS : Kept wr WS := by rw [← hWS]; exact (hHeld.set (p := ⟨WA8.heap.size, 0, none⟩) n7 _).set (p := ⟨WA8.heap.size, 1, none⟩) n7 _
          go_simp
          try rw [hWS]
          refine hK.out _ _ hkS (fun hHeld => ?_)
          clear e10 e11 f10 f11 hWS h7 s7 h8 r8 hnt hpk hkS
          clear hK K
          try simp only [q5p12, Act.put]
          refine wpAnyH_ready (rs := [13]) (by kernel_rfl) (by simp) ?_
          refine AllReadyH.cons (o := q5p13) rfl (fun K hK => ?_) AllReadyH.nil
          rw [if_pos (by rfl)]
          unfold q5p13
          obtain ⟨hrd, hr7⟩ := hrd
          have e10 : WS.cell? ⟨w9.heap.size, 0, none⟩ = some (.int .i64 0) := hrd.a8.cell rfl
          have e11 : WS.cell? ⟨w9.heap.size, 1, none⟩ = some (.int .i64 0) := hrd.a8.cell rfl
          have e12 : WS.cell? ⟨w9.heap.size, 2, none⟩ = some (.slice none 0 0) := hrd.a8.cell rfl
          have f10 : WS.frozen? ⟨w9.heap.size, 0, none⟩ = false := hrd.a8.frozen (by simp)
          have f11 : WS.frozen? ⟨w9.heap.size, 1, none⟩ = false := hrd.a8.frozen (by simp)
          have f12 : WS.frozen? ⟨w9.heap.size, 2, none⟩ = false := hrd.a8.frozen (by simp)
          obtain ⟨WT, hWT⟩ : ∃ WT, ((WS.setCell ⟨w9.heap.size, 0, none⟩ (.int .i64 px)).setCell ⟨w9.heap.size, 1, none⟩ (.int .i64 py)).setCell ⟨w9.heap.size, 2, none⟩ (.slice da9 pl dc9) = WT := ⟨_, rfl⟩
          have hfin := hrd.second hr7 HXO.out
          rw [hWT] at hfin
          have hkT : Kept wr WT := by rw [← hWT]; exact ((hHeld.set (p := ⟨w9.heap.size, 0, none⟩) n8 _).set (p := ⟨w9.heap.size, 1, none⟩) n8 _).set (p := ⟨w9.heap.size, 2, none⟩) n8 _
          go_simp
          try rw [hWT]
          refine hK.out _ _ hkT (fun hHeld => ?_)
          clear e10 e11 e12 f10 f11 f12 hWT hrd hr7 hkT
          clear hK K
          try simp only [q5p13, Act.put]
          refine wpAnyH_take (i := 14) (oi := q5p14) (v := ?_) rfl (by kernel_rfl) (by kernel_rfl) (by kernel_rfl) (fun _ _ _ h => h) (Or.inl ⟨by rfl, ?_⟩) hHeld ?_
          rotate_left
          · (intro w hSw; (try dsimp only at hSw); unfold q5p14; go_simp <;> with_reducible rfl)
          try simp only [q5p14, Act.put, List.setIfInBounds_toArray, List.set_cons_zero, List.set_cons_succ]
          refine wpAnyH_done (by kernel_rfl) ?_ _
          have HAF := Lib.hid (show Aft w wr b3 n ra k rc sent _ _ qa9 N9 qc9 aa9 M9 ac9 x px py da9 pl dc9 p WT from ⟨HT.out.next hHeld.below, n7, n8, hfin.1, hfin.2⟩)
          clear hfin hHeld
          go_wp2_with fail
          go_meet
          exact ⟨_, _, qa9, qc9, aa9, ac9, da9, dc9, rfl, rfl, rfl, HAF.out⟩
      · skip
        rw [if_pos (by rfl)]
        unfold q5p10
        go_simp
        obtain ⟨WA7, hWA7⟩ : ∃ WA, WA = (wr.alloc (.cells #[.slice none 0 0, .slice none 0 0] 25)).drew := ⟨_, rfl⟩
        have hkA : Kept wr WA7 := by rw [hWA7]; exact ((Kept.refl _).alloc _).drew
        have hzA : WA7.heap.size = wr.heap.size + 1 := by rw [hWA7]; simp
        have hbA : Below wr.heap.size wr WA7 := by rw [hWA7]; go_grown
        have n7 : wr.heap.size ≤ wr.heap.size := Nat.le_refl _
        have l7 : wr.heap.size < WA7.heap.size := by omega
        clear hzA
        have h7 : Arr WA7 (wr.heap.size) [.slice none 0 0, .slice none 0 0] := by rw [hWA7]; exact (Arr.new wr #[.slice none 0 0, .slice none 0 0] 25).drew
        have s7 : SlB WA7 (wr.heap.size) := by rw [hWA7]; exact SlB.new wr none none 0 0 0 0 25
        rw [← hWA7]
        clear hWA7 hbA
        refine hK.out _ _ hkA (fun hHeld => ?_)
        clear hkA
        clear hK K
        try simp only [q5p10, Act.put, List.setIfInBounds_toArray, List.set_cons_zero, List.set_cons_succ]
        refine wpAnyH_ready (rs := [5, 11]) (by kernel_rfl) (by simp) ?_
        refine AllReadyH.cons (o := q5p5) rfl (fun K hK => ?_) (AllReadyH.cons (o := q5p11) rfl (fun K hK => ?_) AllReadyH.nil)
        · skip
          rw [if_pos (by rfl)]
          unfold q5p5
          go_simp
          go_at_call 27
          refine (HSD.out _ hHeld).mono ?_
          rintro e w9 ⟨qa9, qc9, aa9, ac9, da9, dc9, rfl, hnt, hpk, hb9⟩
          have hk9 : Kept wr w9 := hHeld.next hb9
          have h7 := h7.below hb9 (h7.lt (by simp))
          have s7 := s7.below hb9 l7
          have l7 := Nat.lt_of_lt_of_le l7 hb9.size
          clear hb9
          refine hK.out _ _ hk9 (fun hHeld => ?_)
          clear hk9
          clear hK K
          try simp only [q5p5, Act.put, List.setIfInBounds_toArray, List.set_cons_zero, List.set_cons_succ]
          refine wpAnyH_take (i := 6) (oi := q5p6) (v := ?_) rfl (by kernel_rfl) (by kernel_rfl) (by kernel_rfl) (fun _ _ _ h => h) (Or.inl ⟨by rfl, ?_⟩) hHeld ?_
          rotate_left
          · (intro w hSw; (try dsimp only at hSw); unfold q5p6; go_simp <;> with_reducible rfl)
          try simp only [q5p6, Act.put, List.setIfInBounds_toArray, List.set_cons_zero, List.set_cons_succ]
          refine wpAnyH_take (i := 7) (oi := q5p7) (v := ?_) rfl (by kernel_rfl) (by kernel_rfl) (by kernel_rfl) (fun _ _ _ h => h) (Or.inl ⟨by rfl, ?_⟩) hHeld ?_
          rotate_left
          · (intro w hSw; (try dsimp only at hSw); unfold q5p7; go_simp <;> with_reducible rfl)
          try simp only [q5p7, Act.put, List.setIfInBounds_toArray, List.set_cons_zero, List.set_cons_succ]
          refine wpAnyH_take (i := 8) (oi := q5p8) (v := ?_) rfl (by kernel_rfl) (by kernel_rfl) (by kernel_rfl) (fun _ _ _ h => h) (Or.inl ⟨by rfl, ?_⟩) hHeld ?_
          rotate_left
          · (intro w hSw; (try dsimp only at hSw); unfold q5p8; go_simp <;> with_reducible rfl)
          try simp only [q5p8, Act.put, List.setIfInBounds_toArray, List.set_cons_zero, List.set_cons_succ]
          refine wpAnyH_take (i := 9) (oi := q5p9) (v := ?_) rfl (by kernel_rfl) (by kernel_rfl) (by kernel_rfl) (fun _ _ _ h => h) (Or.inl ⟨by rfl, ?_⟩) hHeld ?_
          rotate_left
          · (intro w hSw; (try dsimp only at hSw); unfold q5p9; go_simp <;> with_reducible rfl)
          try simp only [q5p9, Act.put, List.setIfInBounds_toArray, List.set_cons_zero, List.set_cons_succ]
          refine wpAnyH_ready (rs := [11]) (by kernel_rfl) (by simp) ?_
          refine AllReadyH.cons (o := q5p11) rfl (fun K hK => ?_) AllReadyH.nil
          rw [if_pos (by rfl)]
          unfold q5p11
          go_simp
          obtain ⟨WA8, hWA8⟩ : ∃ WA, WA = w9.alloc (.cells #[.int .i64 0, .int .i64 0, .slice none 0 0] 28) := ⟨_, rfl⟩
          have hkA : Kept wr WA8 := by rw [hWA8]; exact Kept.alloc hHeld _
          have hzA : WA8.heap.size = w9.heap.size + 1 := by rw [hWA8]; simp
          have hbA : Below w9.heap.size w9 WA8 := by rw [hWA8]; go_grown
          have n8 : wr.heap.size ≤ w9.heap.size := hHeld.below.size
          have l8 : w9.heap.size < WA8.heap.size := by omega
          clear hzA
          have h8 : Arr WA8 (w9.heap.size) [.int .i64 0, .int .i64 0, .slice none 0 0] := by rw [hWA8]; exact (Arr.new w9 #[.int .i64 0, .int .i64 0, .slice none 0 0] 28)
          have r8 : RowP WA8 WA8.heap.size (w9.heap.size) 0 1 [] := by rw [hWA8]; exact (zero_row w9)
          have h7 := h7.below hbA (h7.lt (by simp))
          have s7 := s7.below hbA l7
          have e78 : wr.heap.size ≠ w9.heap.size := by omega
          have l7 := Nat.lt_of_lt_of_le l7 hbA.size
          have hnt := hnt.next hbA
          have hpk := hpk.next hbA
          rw [← hWA8]
          clear hWA8 hbA
          refine hK.out _ _ hkA (fun hHeld => ?_)
          clear hkA
          clear hK K
          try simp only [q5p11, Act.put, List.setIfInBounds_toArray, List.set_cons_zero, List.set_cons_succ]
          refine wpAnyH_ready (rs := [12]) (by kernel_rfl) (by simp) ?_
          refine AllReadyH.cons (o := q5p12) rfl (fun K hK => ?_) AllReadyH.nil
          rw [if_pos (by rfl)]
          unfold q5p12
          have e10 : WA8.cell? ⟨wr.heap.size, 0, none⟩ = some (.slice none 0 0) := h7.cell rfl
          have e11 : WA8.cell? ⟨wr.heap.size, 1, none⟩ = some (.slice none 0 0) := h7.cell rfl
          have f10 : WA8.frozen? ⟨wr.heap.size, 0, none⟩ = false := h7.frozen (by simp)
          have f11 : WA8.frozen? ⟨wr.heap.size, 1, none⟩ = false := h7.frozen (by simp)
          obtain ⟨WS, hWS⟩ : ∃ WS, (WA8.setCell ⟨wr.heap.size, 0, none⟩ (.slice qa9 N9 qc9)).setCell ⟨wr.heap.size, 1, none⟩ (.slice aa9 M9 ac9) = WS := ⟨_, rfl⟩
          have hrd := Rdy.first ⟨e78, h8, r8, hnt, hpk⟩ h7 s7
          rw [hWS] at hrd
          have hkS : Kept wr WS := by rw [← hWS]; exact (hHeld.set (p := ⟨wr.heap.size, 0, none⟩) n7 _).set (p := ⟨wr.heap.size, 1, none⟩) n7 _
          go_simp
          try rw [hWS]
          refine hK.out _ _ hkS (fun hHeld => ?_)
          clear e10 e11 f10 f11 hWS h7 s7 h8 r8 hnt hpk hkS
          clear hK K
          try simp only [q5p12, Act.put]
          refine wpAnyH_ready (rs := [13]) (by kernel_rfl) (by simp) ?_
          refine AllReadyH.cons (o := q5p13) rfl (fun K hK => ?_) AllReadyH.nil
          rw [if_pos (by rfl)]
          unfold q5p13
          obtain ⟨hrd, hr7⟩ := hrd
          have e10 : WS.cell? ⟨w9.heap.size, 0, none⟩ = some (.int .i64 0) := hrd.a8.cell rfl
          have e11 : WS.cell? ⟨w9.heap.size, 1, none⟩ = some (.int .i64 0) := hrd.a8.cell rfl
          have e12 : WS.cell? ⟨w9.heap.size, 2, none⟩ = some (.slice none 0 0) := hrd.a8.cell rfl
          have f10 : WS.frozen? ⟨w9.heap.size, 0, none⟩ = false := hrd.a8.frozen (by simp)
          have f11 : WS.frozen? ⟨w9.heap.size, 1, none⟩ = false := hrd.a8.frozen (by simp)
          have f12 : WS.frozen? ⟨w9.heap.size, 2, none⟩ = false := hrd.a8.frozen (by simp)
          obtain ⟨WT, hWT⟩ : ∃ WT, ((WS.setCell ⟨w9.heap.size, 0, none⟩ (.int .i64 px)).setCell ⟨w9.heap.size, 1, none⟩ (.int .i64 py)).setCell ⟨w9.heap.size, 2, none⟩ (.slice da9 pl dc9) = WT := ⟨_, rfl⟩
          have hfin := hrd.second hr7 HXO.out
          rw [hWT] at hfin
          have hkT : Kept wr WT := by rw [← hWT]; exact ((hHeld.set (p := ⟨w9.heap.size, 0, none⟩) n8 _).set (p := ⟨w9.heap.size, 1, none⟩) n8 _).set (p := ⟨w9.heap.size, 2, none⟩) n8 _
          go_simp
          try rw [hWT]
          refine hK.out _ _ hkT (fun hHeld => ?_)
          clear e10 e11 e12 f10 f11 f12 hWT hrd hr7 hkT
          clear hK K
          try simp only [q5p13, Act.put]
          refine wpAnyH_take (i := 14) (oi := q5p14) (v := ?_) rfl (by kernel_rfl) (by kernel_rfl) (by kernel_rfl) (fun _ _ _ h => h) (Or.inl ⟨by rfl, ?_⟩) hHeld ?_
          rotate_left
          · (intro w hSw; (try dsimp only at hSw); unfold q5p14; go_simp <;> with_reducible rfl)
          try simp only [q5p14, Act.put, List.setIfInBounds_toArray, List.set_cons_zero, List.set_cons_succ]
          refine wpAnyH_done (by kernel_rfl) ?_ _
          have HAF := Lib.hid (show Aft w wr b3 n ra k rc sent _ _ qa9 N9 qc9 aa9 M9 ac9 x px py da9 pl dc9 p WT from ⟨HT.out.next hHeld.below, n7, n8, hfin.1, hfin.2⟩)
          clear hfin hHeld
          go_wp2_with fail
          go_meet
          exact ⟨_, _, qa9, qc9, aa9, ac9, da9, dc9, rfl, rfl, rfl, HAF.out⟩
        · skip
          rw [if_pos (by rfl)]
          unfold q5p11
          go_simp
          obtain ⟨WA8, hWA8⟩ : ∃ WA, WA = WA7.alloc (.cells #[.int .i64 0, .int .i64 0, .slice none 0 0] 28) := ⟨_, rfl⟩
          have hkA : Kept wr WA8 := by rw [hWA8]; exact Kept.alloc hHeld _
          have hzA : WA8.heap.size = WA7.heap.size + 1 := by rw [hWA8]; simp
          have hbA : Below WA7.heap.size WA7 WA8 := by rw [hWA8]; go_grown
          have n8 : wr.heap.size ≤ WA7.heap.size := hHeld.below.size
          have l8 : WA7.heap.size < WA8.heap.size := by omega
          clear hzA
          have h8 : Arr WA8 (WA7.heap.size) [.int .i64 0, .int .i64 0, .slice none 0 0] := by rw [hWA8]; exact (Arr.new WA7 #[.int .i64 0, .int .i64 0, .slice none 0 0] 28)
          have r8 : RowP WA8 WA8.heap.size (WA7.heap.size) 0 1 [] := by rw [hWA8]; exact (zero_row WA7)
          have h7 := h7.below hbA (h7.lt (by simp))
          have s7 := s7.below hbA l7
          have e78 : wr.heap.size ≠ WA7.heap.size := by omega
          have l7 := Nat.lt_of_lt_of_le l7 hbA.size
          rw [← hWA8]
          clear hWA8 hbA
          refine hK.out _ _ hkA (fun hHeld => ?_)
          clear hkA
          clear hK K
          try simp only [q5p11, Act.put, List.setIfInBounds_toArray, List.set_cons_zero, List.set_cons_succ]
          refine wpAnyH_ready (rs := [5]) (by kernel_rfl) (by simp) ?_
          refine AllReadyH.cons (o := q5p5) rfl (fun K hK => ?_) AllReadyH.nil
          rw [if_pos (by rfl)]
          unfold q5p5
          go_simp
          go_at_call 27
          refine (HSD.out _ hHeld).mono ?_
          rintro e w9 ⟨qa9, qc9, aa9, ac9, da9, dc9, rfl, hnt, hpk, hb9⟩
          have hk9 : Kept wr w9 := hHeld.next hb9
          have h7 := h7.below hb9 (h7.lt (by simp))
          have s7 := s7.below hb9 l7
          have l7 := Nat.lt_of_lt_of_le l7 hb9.size
          have h8 := h8.below hb9 (h8.lt (by simp))
          have r8 := r8.next hb9
          have l8 := Nat.lt_of_lt_of_le l8 hb9.size
          clear hb9
          refine hK.out _ _ hk9 (fun hHeld => ?_)
          clear hk9
          clear hK K
          try simp only [q5p5, Act.put, List.setIfInBounds_toArray, List.set_cons_zero, List.set_cons_succ]
          refine wpAnyH_take (i := 6) (oi := q5p6) (v := ?_) rfl (by kernel_rfl) (by kernel_rfl) (by kernel_rfl) (fun _ _ _ h => h) (Or.inl ⟨by rfl, ?_⟩) hHeld ?_
          rotate_left
          · (intro w hSw; (try dsimp only at hSw); unfold q5p6; go_simp <;> with_reducible rfl)
          try simp only [q5p6, Act.put, List.setIfInBounds_toArray, List.set_cons_zero, List.set_cons_succ]
          refine wpAnyH_take (i := 7) (oi := q5p7) (v := ?_) rfl (by kernel_rfl) (by kernel_rfl) (by kernel_rfl) (fun _ _ _ h => h) (Or.inl ⟨by rfl, ?_⟩) hHeld ?_
          rotate_left
          · (intro w hSw; (try dsimp only at hSw); unfold q5p7; go_simp <;> with_reducible rfl)
          try simp only [q5p7, Act.put, List.setIfInBounds_toArray, List.set_cons_zero, List.set_cons_succ]
          refine wpAnyH_take (i := 8) (oi := q5p8) (v := ?_) rfl (by kernel_rfl) (by kernel_rfl) (by kernel_rfl) (fun _ _ _ h => h) (Or.inl ⟨by rfl, ?_⟩) hHeld ?_
          rotate_left
          · (intro w hSw; (try dsimp only at hSw); unfold q5p8; go_simp <;> with_reducible rfl)
          try simp only [q5p8, Act.put, List.setIfInBounds_toArray, List.set_cons_zero, List.set_cons_succ]
          refine wpAnyH_take (i := 9) (oi := q5p9) (v := ?_) rfl (by kernel_rfl) (by kernel_rfl) (by kernel_rfl) (fun _ _ _ h => h) (Or.inl ⟨by rfl, ?_⟩) hHeld ?_
          rotate_left
          · (intro w hSw; (try dsimp only at hSw); unfold q5p9; go_simp <;> with_reducible rfl)
          try simp only [q5p9, Act.put, List.setIfInBounds_toArray, List.set_cons_zero, List.set_cons_succ]
          refine wpAnyH_ready (rs := [12]) (by kernel_rfl) (by simp) ?_
          refine AllReadyH.cons (o := q5p12) rfl (fun K hK => ?_) AllReadyH.nil
          rw [if_pos (by rfl)]
          unfold q5p12
          have e10 : w9.cell? ⟨wr.heap.size, 0, none⟩ = some (.slice none 0 0) := h7.cell rfl
          have e11 : w9.cell? ⟨wr.heap.size, 1, none⟩ = some (.slice none 0 0) := h7.cell rfl
          have f10 : w9.frozen? ⟨wr.heap.size, 0, none⟩ = false := h7.frozen (by simp)
          have f11 : w9.frozen? ⟨wr.heap.size, 1, none⟩ = false := h7.frozen (by simp)
          obtain ⟨WS, hWS⟩ : ∃ WS, (w9.setCell ⟨wr.heap.size, 0, none⟩ (.slice qa9 N9 qc9)).setCell ⟨wr.heap.size, 1, none⟩ (.slice aa9 M9 ac9) = WS := ⟨_, rfl⟩
          have hrd := Rdy.first ⟨e78, h8, r8, hnt, hpk⟩ h7 s7
          rw [hWS] at hrd
          have hkS : Kept wr WS := by rw [← hWS]; exact (hHeld.set (p := ⟨wr.heap.size, 0, none⟩) n7 _).set (p := ⟨wr.heap.size, 1, none⟩) n7 _
          go_simp
          try rw [hWS]
          refine hK.out _ _ hkS (fun hHeld => ?_)
          clear e10 e11 f10 f11 hWS h7 s7 h8 r8 hnt hpk hkS
          clear hK K
          try simp only [q5p12, Act.put]
          refine wpAnyH_ready (rs := [13]) (by kernel_rfl) (by simp) ?_
          refine AllReadyH.cons (o := q5p13) rfl (fun K hK => ?_) AllReadyH.nil
          rw [if_pos (by rfl)]
          unfold q5p13
          obtain ⟨hrd, hr7⟩ := hrd
          have e10 : WS.cell? ⟨WA7.heap.size, 0, none⟩ = some (.int .i64 0) := hrd.a8.cell rfl
          have e11 : WS.cell? ⟨WA7.heap.size, 1, none⟩ = some (.int .i64 0) := hrd.a8.cell rfl
          have e12 : WS.cell? ⟨WA7.heap.size, 2, none⟩ = some (.slice none 0 0) := hrd.a8.cell rfl
          have f10 : WS.frozen? ⟨WA7.heap.size, 0, none⟩ = false := hrd.a8.frozen (by simp)
          have f11 : WS.frozen? ⟨WA7.heap.size, 1, none⟩ = false := hrd.a8.frozen (by simp)
          have f12 : WS.frozen? ⟨WA7.heap.size, 2, none⟩ = false := hrd.a8.frozen (by simp)
          obtain ⟨WT, hWT⟩ : ∃ WT, ((WS.setCell ⟨WA7.heap.size, 0, none⟩ (.int .i64 px)).setCell ⟨WA7.heap.size, 1, none⟩ (.int .i64 py)).setCell ⟨WA7.heap.size, 2, none⟩ (.slice da9 pl dc9) = WT := ⟨_, rfl⟩
          have hfin := hrd.second hr7 HXO.out
          rw [hWT] at hfin
          have hkT : Kept wr WT := by rw [← hWT]; exact ((hHeld.set (p := ⟨WA7.heap.size, 0, none⟩) n8 _).set (p := ⟨WA7.heap.size, 1, none⟩) n8 _).set (p := ⟨WA7.heap.size, 2, none⟩) n8 _
          go_simp
          try rw [hWT]
          refine hK.out _ _ hkT (fun hHeld => ?_)
          clear e10 e11 e12 f10 f11 f12 hWT hrd hr7 hkT
          clear hK K
          try simp only [q5p13, Act.put]
          refine wpAnyH_take (i := 14) (oi := q5p14) (v := ?_) rfl (by kernel_rfl) (by kernel_rfl) (by kernel_rfl) (fun _ _ _ h => h) (Or.inl ⟨by rfl, ?_⟩) hHeld ?_
          rotate_left
          · (intro w hSw; (try dsimp only at hSw); unfold q5p14; go_simp <;> with_reducible rfl)
          try simp only [q5p14, Act.put, List.setIfInBounds_toArray, List.set_cons_zero, List.set_cons_succ]
          refine wpAnyH_done (by kernel_rfl) ?_ _
          have HAF := Lib.hid (show Aft w wr b3 n ra k rc sent _ _ qa9 N9 qc9 aa9 M9 ac9 x px py da9 pl dc9 p WT from ⟨HT.out.next hHeld.below, n7, n8, hfin.1, hfin.2⟩)
          clear hfin hHeld
          go_wp2_with fail
          go_meet
          exact ⟨_, _, qa9, qc9, aa9, ac9, da9, dc9, rfl, rfl, rfl, HAF.out⟩
      · skip
        rw [if_pos (by rfl)]
        unfold q5p11
        go_simp
        obtain ⟨WA8, hWA8⟩ : ∃ WA, WA = (wr.alloc (.cells #[.int .i64 0, .int .i64 0, .slice none 0 0] 28)).drew := ⟨_, rfl⟩
        have hkA : Kept wr WA8 := by rw [hWA8]; exact ((Kept.refl _).alloc _).drew
        have hzA : WA8.heap.size = wr.heap.size + 1 := by rw [hWA8]; simp
        have hbA : Below wr.heap.size wr WA8 := by rw [hWA8]; go_grown
        have n8 : wr.heap.size ≤ wr.heap.size := Nat.le_refl _
        have l8 : wr.heap.size < WA8.heap.size := by omega
        clear hzA
        have h8 : Arr WA8 (wr.heap.size) [.int .i64 0, .int .i64 0, .slice none 0 0] := by rw [hWA8]; exact (Arr.new wr #[.int .i64 0, .int .i64 0, .slice none 0 0] 28).drew
        have r8 : RowP WA8 WA8.heap.size (wr.heap.size) 0 1 [] := by rw [hWA8]; exact (zero_row wr).next ((Below.refl _ _).drew)
        rw [← hWA8]
        clear hWA8 hbA
        refine hK.out _ _ hkA (fun hHeld => ?_)
        clear hkA
        clear hK K
        try simp only [q5p11, Act.put, List.setIfInBounds_toArray, List.set_cons_zero, List.set_cons_succ]
        refine wpAnyH_ready (rs := [5, 10]) (by kernel_rfl) (by simp) ?_
        refine AllReadyH.cons (o := q5p5) rfl (fun K hK => ?_) (AllReadyH.cons (o := q5p10) rfl (fun K hK => ?_) AllReadyH.nil)
        · skip
          rw [if_pos (by rfl)]
          unfold q5p5
          go_simp
          go_at_call 27
          refine (HSD.out _ hHeld).mono ?_
          rintro e w9 ⟨qa9, qc9, aa9, ac9, da9, dc9, rfl, hnt, hpk, hb9⟩
          have hk9 : Kept wr w9 := hHeld.next hb9
          have h8 := h8.below hb9 (h8.lt (by simp))
          have r8 := r8.next hb9
          have l8 := Nat.lt_of_lt_of_le l8 hb9.size
          clear hb9
          refine hK.out _ _ hk9 (fun hHeld => ?_)
          clear hk9
          clear hK K
          try simp only [q5p5, Act.put, List.setIfInBounds_toArray, List.set_cons_zero, List.set_cons_succ]
          refine wpAnyH_take (i := 6) (oi := q5p6) (v := ?_) rfl (by kernel_rfl) (by kernel_rfl) (by kernel_rfl) (fun _ _ _ h => h) (Or.inl ⟨by rfl, ?_⟩) hHeld ?_
          rotate_left
          · (intro w hSw; (try dsimp only at hSw); unfold q5p6; go_simp <;> with_reducible rfl)
          try simp only [q5p6, Act.put, List.setIfInBounds_toArray, List.set_cons_zero, List.set_cons_succ]
          refine wpAnyH_take (i := 7) (oi := q5p7) (v := ?_) rfl (by kernel_rfl) (by kernel_rfl) (by kernel_rfl) (fun _ _ _ h => h) (Or.inl ⟨by rfl, ?_⟩) hHeld ?_
          rotate_left
          · (intro w hSw; (try dsimp only at hSw); unfold q5p7; go_simp <;> with_reducible rfl)
          try simp only [q5p7, Act.put, List.setIfInBounds_toArray, List.set_cons_zero, List.set_cons_succ]
          refine wpAnyH_take (i := 8) (oi := q5p8) (v := ?_) rfl (by kernel_rfl) (by kernel_rfl) (by kernel_rfl) (fun _ _ _ h => h) (Or.inl ⟨by rfl, ?_⟩) hHeld ?_
          rotate_left
          · (intro w hSw; (try dsimp only at hSw); unfold q5p8; go_simp <;> with_reducible rfl)
          try simp only [q5p8, Act.put, List.setIfInBounds_toArray, List.set_cons_zero, List.set_cons_succ]
          refine wpAnyH_take (i := 9) (oi := q5p9) (v := ?_) rfl (by kernel_rfl) (by kernel_rfl) (by kernel_rfl) (fun _ _ _ h => h) (Or.inl ⟨by rfl, ?_⟩) hHeld ?_
          rotate_left
          · (intro w hSw; (try dsimp only at hSw); unfold q5p9; go_simp <;> with_reducible rfl)
          try simp only [q5p9, Act.put, List.setIfInBounds_toArray, List.set_cons_zero, List.set_cons_succ]
          refine wpAnyH_ready (rs := [10]) (by kernel_rfl) (by simp) ?_
          refine AllReadyH.cons (o := q5p10) rfl (fun K hK => ?_) AllReadyH.nil
          rw [if_pos (by rfl)]
          unfold q5p10
          go_simp
          obtain ⟨WA7, hWA7⟩ : ∃ WA, WA = w9.alloc (.cells #[.slice none 0 0, .slice none 0 0] 25) := ⟨_, rfl⟩
          have hkA : Kept wr WA7 := by rw [hWA7]; exact Kept.alloc hHeld _
          have hzA : WA7.heap.size = w9.heap.size + 1 := by rw [hWA7]; simp
          have hbA : Below w9.heap.size w9 WA7 := by rw [hWA7]; go_grown
          have n7 : wr.heap.size ≤ w9.heap.size := hHeld.below.size
          have l7 : w9.heap.size < WA7.heap.size := by omega
          clear hzA
          have h7 : Arr WA7 (w9.heap.size) [.slice none 0 0, .slice none 0 0] := by rw [hWA7]; exact (Arr.new w9 #[.slice none 0 0, .slice none 0 0] 25)
          have s7 : SlB WA7 (w9.heap.size) := by rw [hWA7]; exact SlB.new w9 none none 0 0 0 0 25
          have h8 := h8.below hbA (h8.lt (by simp))
          have r8 := r8.next hbA
          have e78 : w9.heap.size ≠ wr.heap.size := by omega
          have l8 := Nat.lt_of_lt_of_le l8 hbA.size
          have hnt := hnt.next hbA
          have hpk := hpk.next hbA
          rw [← hWA7]
          clear hWA7 hbA
          refine hK.out _ _ hkA (fun hHeld => ?_)
          clear hkA
          clear hK K
          try simp only [q5p10, Act.put, List.setIfInBounds_toArray, List.set_cons_zero, List.set_cons_succ]
          refine wpAnyH_ready (rs := [12]) (by kernel_rfl) (by simp) ?_
          refine AllReadyH.cons (o := q5p12) rfl (fun K hK => ?_) AllReadyH.nil
          rw [if_pos (by rfl)]
          unfold q5p12
          have e10 : WA7.cell? ⟨w9.heap.size, 0, none⟩ = some (.slice none 0 0) := h7.cell rfl
          have e11 : WA7.cell? ⟨w9.heap.size, 1, none⟩ = some (.slice none 0 0) := h7.cell rfl
          have f10 : WA7.frozen? ⟨w9.heap.size, 0, none⟩ = false := h7.frozen (by simp)
          have f11 : WA7.frozen? ⟨w9.heap.size, 1, none⟩ = false := h7.frozen (by simp)
          obtain ⟨WS, hWS⟩ : ∃ WS, (WA7.setCell ⟨w9.heap.size, 0, none⟩ (.slice qa9 N9 qc9)).setCell ⟨w9.heap.size, 1, none⟩ (.slice aa9 M9 ac9) = WS := ⟨_, rfl⟩
          have hrd := Rdy.first ⟨e78, h8, r8, hnt, hpk⟩ h7 s7
          rw [hWS] at hrd
          have hkS : Kept wr WS := by rw [← hWS]; exact (hHeld.set (p := ⟨w9.heap.size, 0, none⟩) n7 _).set (p := ⟨w9.heap.size, 1, none⟩) n7 _
          go_simp
          try rw [hWS]
          refine hK.out _ _ hkS (fun hHeld => ?_)
          clear e10 e11 f10 f11 hWS h7 s7 h8 r8 hnt hpk hkS
          clear hK K
          try simp only [q5p12, Act.put]
          refine wpAnyH_ready (rs := [13]) (by kernel_rfl) (by simp) ?_
          refine AllReadyH.cons (o := q5p13) rfl (fun K hK => ?_) AllReadyH.nil
          rw [if_pos (by rfl)]
          unfold q5p13
          obtain ⟨hrd, hr7⟩ := hrd
          have e10 : WS.cell? ⟨wr.heap.size, 0, none⟩ = some (.int .i64 0) := hrd.a8.cell rfl
          have e11 : WS.cell? ⟨wr.heap.size, 1, none⟩ = some (.int .i64 0) := hrd.a8.cell rfl
          have e12 : WS.cell? ⟨wr.heap.size, 2, none⟩ = some (.slice none 0 0) := hrd.a8.cell rfl
          have f10 : WS.frozen? ⟨wr.heap.size, 0, none⟩ = false := hrd.a8.frozen (by simp)
          have f11 : WS.frozen? ⟨wr.heap.size, 1, none⟩ = false := hrd.a8.frozen (by simp)
          have f12 : WS.frozen? ⟨wr.heap.size, 2, none⟩ = false := hrd.a8.frozen (by simp)
          obtain ⟨WT, hWT⟩ : ∃ WT, ((WS.setCell ⟨wr.heap.size, 0, none⟩ (.int .i64 px)).setCell ⟨wr.heap.size, 1, none⟩ (.int .i64 py)).setCell ⟨wr.heap.size, 2, none⟩ (.slice da9 pl dc9) = WT := ⟨_, rfl⟩
          have hfin := hrd.second hr7 HXO.out
          rw [hWT] at hfin
          have hkT : Kept wr WT := by rw [← hWT]; exact ((hHeld.set (p := ⟨wr.heap.size, 0, none⟩) n8 _).set (p := ⟨wr.heap.size, 1, none⟩) n8 _).set (p := ⟨wr.heap.size, 2, none⟩) n8 _
          go_simp
          try rw [hWT]
          refine hK.out _ _ hkT (fun hHeld => ?_)
          clear e10 e11 e12 f10 f11 f12 hWT hrd hr7 hkT
          clear hK K
          try simp only [q5p13, Act.put]
          refine wpAnyH_take (i := 14) (oi := q5p14) (v := ?_) rfl (by kernel_rfl) (by kernel_rfl) (by kernel_rfl) (fun _ _ _ h => h) (Or.inl ⟨by rfl, ?_⟩) hHeld ?_
          rotate_left
          · (intro w hSw; (try dsimp only at hSw); unfold q5p14; go_simp <;> with_reducible rfl)
          try simp only [q5p14, Act.put, List.setIfInBounds_toArray, List.set_cons_zero, List.set_cons_succ]
          refine wpAnyH_done (by kernel_rfl) ?_ _
          have HAF := Lib.hid (show Aft w wr b3 n ra k rc sent _ _ qa9 N9 qc9 aa9 M9 ac9 x px py da9 pl dc9 p WT from ⟨HT.out.next hHeld.below, n7, n8, hfin.1, hfin.2⟩)
          clear hfin hHeld
          go_wp2_with fail
          go_meet
          exact ⟨_, _, qa9, qc9, aa9, ac9, da9, dc9, rfl, rfl, rfl, HAF.out⟩
        · skip
          rw [if_pos (by rfl)]
          unfold q5p10
          go_simp
          obtain ⟨WA7, hWA7⟩ : ∃ WA, WA = WA8.alloc (.cells #[.slice none 0 0, .slice none 0 0] 25) := ⟨_, rfl⟩
          have hkA : Kept wr WA7 := by rw [hWA7]; exact Kept.alloc hHeld _
          have hzA : WA7.heap.size = WA8.heap.size + 1 := by rw [hWA7]; simp
          have hbA : Below WA8.heap.size WA8 WA7 := by rw [hWA7]; go_grown
          have n7 : wr.heap.size ≤ WA8.heap.size := hHeld.below.size
          have l7 : WA8.heap.size < WA7.heap.size := by omega
          clear hzA
          have h7 : Arr WA7 (WA8.heap.size) [.slice none 0 0, .slice none 0 0] := by rw [hWA7]; exact (Arr.new WA8 #[.slice none 0 0, .slice none 0 0] 25)
          have s7 : SlB WA7 (WA8.heap.size) := by rw [hWA7]; exact SlB.new WA8 none none 0 0 0 0 25
          have h8 := h8.below hbA (h8.lt (by simp))
          have r8 := r8.next hbA
          have e78 : WA8.heap.size ≠ wr.heap.size := by omega
          have l8 := Nat.lt_of_lt_of_le l8 hbA.size
          rw [← hWA7]
          clear hWA7 hbA
          refine hK.out _ _ hkA (fun hHeld => ?_)
          clear hkA
          clear hK K
          try simp only [q5p10, Act.put, List.setIfInBounds_toArray, List.set_cons_zero, List.set_cons_succ]
          refine wpAnyH_ready (rs := [5]) (by kernel_rfl) (by simp) ?_
          refine AllReadyH.cons (o := q5p5) rfl (fun K hK => ?_) AllReadyH.nil
          rw [if_pos (by rfl)]
          unfold q5p5
          go_simp
          go_at_call 27
          refine (HSD.out _ hHeld).mono ?_
          rintro e w9 ⟨qa9, qc9, aa9, ac9, da9, dc9, rfl, hnt, hpk, hb9⟩
          have hk9 : Kept wr w9 := hHeld.next hb9
          have h7 := h7.below hb9 (h7.lt (by simp))
          have s7 := s7.below hb9 l7
          have l7 := Nat.lt_of_lt_of_le l7 hb9.size
          have h8 := h8.below hb9 (h8.lt (by simp))
          have r8 := r8.next hb9
          have l8 := Nat.lt_of_lt_of_le l8 hb9.size
          clear hb9
          refine hK.out _ _ hk9 (fun hHeld => ?_)
          clear hk9
          clear hK K
          try simp only [q5p5, Act.put, List.setIfInBounds_toArray, List.set_cons_zero, List.set_cons_succ]
          refine wpAnyH_take (i := 6) (oi := q5p6) (v := ?_) rfl (by kernel_rfl) (by kernel_rfl) (by kernel_rfl) (fun _ _ _ h => h) (Or.inl ⟨by rfl, ?_⟩) hHeld ?_
          rotate_left
          · (intro w hSw; (try dsimp only at hSw); unfold q5p6; go_simp <;> with_reducible rfl)
          try simp only [q5p6, Act.put, List.setIfInBounds_toArray, List.set_cons_zero, List.set_cons_succ]
          refine wpAnyH_take (i := 7) (oi := q5p7) (v := ?_) rfl (by kernel_rfl) (by kernel_rfl) (by kernel_rfl) (fun _ _ _ h => h) (Or.inl ⟨by rfl, ?_⟩) hHeld ?_
          rotate_left
          · (intro w hSw; (try dsimp only at hSw); unfold q5p7; go_simp <;> with_reducible rfl)
          try simp only [q5p7, Act.put, List.setIfInBounds_toArray, List.set_cons_zero, List.set_cons_succ]
          refine wpAnyH_take (i := 8) (oi := q5p8) (v := ?_) rfl (by kernel_rfl) (by kernel_rfl) (by kernel_rfl) (fun _ _ _ h => h) (Or.inl ⟨by rfl, ?_⟩) hHeld ?_
          rotate_left
          · (intro w hSw; (try dsimp only at hSw); unfold q5p8; go_simp <;> with_reducible rfl)
          try simp only [q5p8, Act.put, List.setIfInBounds_toArray, List.set_cons_zero, List.set_cons_succ]
          refine wpAnyH_take (i := 9) (oi := q5p9) (v := ?_) rfl (by kernel_rfl) (by kernel_rfl) (by kernel_rfl) (fun _ _ _ h => h) (Or.inl ⟨by rfl, ?_⟩) hHeld ?_
          rotate_left
          · (intro w hSw; (try dsimp only at hSw); unfold q5p9; go_simp <;> with_reducible rfl)
          try simp only [q5p9, Act.put, List.setIfInBounds_toArray, List.set_cons_zero, List.set_cons_succ]
          refine wpAnyH_ready (rs := [12]) (by kernel_rfl) (by simp) ?_
          refine AllReadyH.cons (o := q5p12) rfl (fun K hK => ?_) AllReadyH.nil
          rw [if_pos (by rfl)]
          unfold q5p12
          have e10 : w9.cell? ⟨WA8.heap.size, 0, none⟩ = some (.slice none 0 0) := h7.cell rfl
          have e11 : w9.cell? ⟨WA8.heap.size, 1, none⟩ = some (.slice none 0 0) := h7.cell rfl
          have f10 : w9.frozen? ⟨WA8.heap.size, 0, none⟩ = false := h7.frozen (by simp)
          have f11 : w9.frozen? ⟨WA8.heap.size, 1, none⟩ = false := h7.frozen (by simp)
          obtain ⟨WS, hWS⟩ : ∃ WS, (w9.setCell ⟨WA8.heap.size, 0, none⟩ (.slice qa9 N9 qc9)).setCell ⟨WA8.heap.size, 1, none⟩ (.slice aa9 M9 ac9) = WS := ⟨_, rfl⟩
          have hrd := Rdy.first ⟨e78, h8, r8, hnt, hpk⟩ h7 s7
          rw [hWS] at hrd
          have hkS : Kept wr WS := by rw [← hWS]; exact (hHeld.set (p := ⟨WA8.heap.size, 0, none⟩) n7 _).set (p := ⟨WA8.heap.size, 1, none⟩) n7 _
          go_simp
          try rw [hWS]
          refine hK.out _ _ hkS (fun hHeld => ?_)
          clear e10 e11 f10 f11 hWS h7 s7 h8 r8 hnt hpk hkS
          clear hK K
          try simp only [q5p12, Act.put]
          refine wpAnyH_ready (rs := [13]) (by kernel_rfl) (by simp) ?_
          refine AllReadyH.cons (o := q5p13) rfl (fun K hK => ?_) AllReadyH.nil
          rw [if_pos (by rfl)]
          unfold q5p13
          obtain ⟨hrd, hr7⟩ := hrd
          have e10 : WS.cell? ⟨wr.heap.size, 0, none⟩ = some (.int .i64 0) := hrd.a8.cell rfl
          have e11 : WS.cell? ⟨wr.heap.size, 1, none⟩ = some (.int .i64 0) := hrd.a8.cell rfl
          have e12 : WS.cell? ⟨wr.heap.size, 2, none⟩ = some (.slice none 0 0) := hrd.a8.cell rfl
          have f10 : WS.frozen? ⟨wr.heap.size, 0, none⟩ = false := hrd.a8.frozen (by simp)
          have f11 : WS.frozen? ⟨wr.heap.size, 1, none⟩ = false := hrd.a8.frozen (by simp)
          have f12 : WS.frozen? ⟨wr.heap.size, 2, none⟩ = false := hrd.a8.frozen (by simp)
          obtain ⟨WT, hWT⟩ : ∃ WT, ((WS.setCell ⟨wr.heap.size, 0, none⟩ (.int .i64 px)).setCell ⟨wr.heap.size, 1, none⟩ (.int .i64 py)).setCell ⟨wr.heap.size, 2, none⟩ (.slice da9 pl dc9) = WT := ⟨_, rfl⟩
          have hfin := hrd.second hr7 HXO.out
          rw [hWT] at hfin
          have hkT : Kept wr WT := by rw [← hWT]; exact ((hHeld.set (p := ⟨wr.heap.size, 0, none⟩) n8 _).set (p := ⟨wr.heap.size, 1, none⟩) n8 _).set (p := ⟨wr.heap.size, 2, none⟩) n8 _
          go_simp
          try rw [hWT]
          refine hK.out _ _ hkT (fun hHeld => ?_)
          clear e10 e11 e12 f10 f11 f12 hWT hrd hr7 hkT
          clear hK K
          try simp only [q5p13, Act.put]
          refine wpAnyH_take (i := 14) (oi := q5p14) (v := ?_) rfl (by kernel_rfl) (by kernel_rfl) (by kernel_rfl) (fun _ _ _ h => h) (Or.inl ⟨by rfl, ?_⟩) hHeld ?_
          rotate_left
          · (intro w hSw; (try dsimp only at hSw); unfold q5p14; go_simp <;> with_reducible rfl)
          try simp only [q5p14, Act.put, List.setIfInBounds_toArray, List.set_cons_zero, List.set_cons_succ]
          refine wpAnyH_done (by kernel_rfl) ?_ _
          have HAF := Lib.hid (show Aft w wr b3 n ra k rc sent _ _ qa9 N9 qc9 aa9 M9 ac9 x px py da9 pl dc9 p WT from ⟨HT.out.next hHeld.below, n7, n8, hfin.1, hfin.2⟩)
          clear hfin hHeld
          go_wp2_with fail
          go_meet
          exact ⟨_, _, qa9, qc9, aa9, ac9, da9, dc9, rfl, rfl, rfl, HAF.out⟩
    case rest =>
      obtain ⟨b7, b8, qa9, qc9, aa9, ac9, da9, dc9, rfl, rfl, rfl, hA⟩ := hcut
      have HA := Lib.hid hA
      clear hx0 HSD HSC hA
      by_cases he : er = 0
      · subst he
        have c3 := (HMC.out wc (HA.out.ln.below)).1
        obtain ⟨q, hq⟩ : ∃ q, kk % 6 = q := ⟨_, rfl⟩
        have mk : (kk : Int).tmod 6 = (q : Int) := by rw [Int.tmod_eq_emod_of_nonneg (by omega)]; omega
        have mk2 : (kk : Int) % 6 = (q : Int) := by omega
        have hq6 : q < 6 := by rw [← hq]; exact Nat.mod_lt _ (by omega)
        have hmq : m.kind.toNat % 6 = q := by rw [HKK.out]; exact hq
        have HMQ := Lib.hid hmq
        have h6 : q = 0 ∨ q = 1 ∨ q = 2 ∨ q = 3 ∨ q = 4 ∨ q = 5 := by omega
        clear hq hq6 hmq
        rcases h6 with rfl | rfl | rfl | rfl | rfl | rfl
        · obtain ⟨pk, hxq, hS2⟩ := hap_send HS.out HMQ.out (by rw [HHR.out])
          rw [HHR.out] at hxq hS2
          have HS2 := Lib.hid hS2
          have hxl : N9 = F + 1 := by rw [← HL9.out.1, hxq, List.length_append, HFG.out.1]; rfl
          have dn0 : ((N9 : Int) == 0) = false := by simp; omega
          have dn1 : ¬ (N9 : Int) = 0 := by omega
          have hNb : N9 ≤ 4096 := by rw [← HL9.out.1]; exact (ok_parts HXO.out).1
          have hlx : N9 - 1 < x.q.length := by rw [HL9.out.1]; omega
          obtain ⟨vq, va, e1, hQ, _⟩ := HA.out.bx.nt
          simp only [Value.agg.injEq, Array.mk.injEq, List.cons.injEq, and_true] at e1
          obtain ⟨rfl, rfl⟩ := e1
          have hgx : x.q[N9 - 1]'hlx = pk := by
            have : x.q[N9 - 1]? = some pk := by rw [hxq, hxl, Nat.add_sub_cancel, ← HFG.out.1]; simp
            rw [List.getElem?_eq_getElem hlx] at this; exact Option.some.inj this
          obtain ⟨qb, qo, rfl, hqb, hin, g0, g1, da, dc, g2, l5, l6, hpd⟩ := hQ.got (N9 - 1) hlx
          rw [hgx] at hin g0 g1 g2 l5 hpd
          obtain ⟨L, hL⟩ : ∃ L, pk.data.length = L := ⟨_, rfl⟩
          rw [hL] at g2 l5 hpd
          have c70 := HA.out.bx.c0
          have wsub : IntKind.i64.wrap ((N9 : Int) - 1) = ((N9 - 1 : Nat) : Int) := by rw [IntKind.wrap_i64]; omega
          obtain ⟨j9, hj9⟩ : ∃ j, N9 - 1 = j := ⟨_, rfl⟩
          rw [hj9] at g0 g1 g2 wsub
          have hj9l : j9 < N9 := by omega
          have hsub : (N9 : Int) - 1 = (j9 : Int) := by omega
          obtain ⟨W3, hW3⟩ : ∃ W3, wc.alloc (.cells #[.int .i64 pk.frm, .int .i64 pk.to, .slice da L dc] 28) = W3 := ⟨_, rfl⟩
          have hb3 : Below wc.heap.size wc W3 := by rw [← hW3]; go_grown
          have hA3 := HA.out.next hb3
          have hq3 : QAt W3 W3.heap.size (.slice (some ⟨wc.heap.size, 0, none⟩) 1 1) [pk] := by
            have hAr : Arr W3 wc.heap.size [.int .i64 pk.frm, .int .i64 pk.to, .slice da L dc] := by rw [← hW3]; exact Arr.new wc #[.int .i64 pk.frm, .int .i64 pk.to, .slice da L dc] 28
            exact one_q hAr (by rw [← hW3]; simp) hin (hpd.nxt hb3)
          obtain ⟨g', cap', W4, hrun, hT4, hbw, hnts, hblk⟩ := hA3.ln.push HS.out.ok _ _ pk hq3 (by omega)
          have h7g : ∀ g, ra = some ⟨g, 0, none⟩ → b7 ≠ g := fun g e => by
            rcases HT.out.row.2 with ⟨e0, _⟩ | ⟨g2, e2, _, e4⟩
            · rw [e0] at e; cases e
            · rw [e2] at e; injection e with e; injection e with e; have := e4.lt; have := HA.out.n7; omega
          have h7lt := hA3.bx.lt
          have hbb := hblk b7 h7lt h7g
          have hn4 := hnts _ x HXO.out hA3.bx.nt
          have harr := Arr.same hA3.bx.arr hbb
          have HBX := Lib.hid (show NBox W4 b7 (some ⟨qb, qo, none⟩) N9 qc9 aa9 M9 ac9 x from ⟨harr.lt (by simp), harr, hn4⟩)
          have HLN := Lib.hid hT4
          have HW3 := Lib.hid hW3
          have HRUN := Lib.hid hrun
          have HHB := Lib.hid (And.intro hxq hxl)
          have HLX := Lib.hid hL
          have HPD := Lib.hid (And.intro hpd hin)
          have HQ2 := Lib.hid hQ
          clear hA3 hbb hn4 harr hT4 hW3 hrun hxq hgx hL hpd hin hQ hb3 hq3 hbw hnts hblk h7g hS2 hj9 hxl hlx
          obtain ⟨qa1, qc1, aa1, ac1, hy⟩ := HLN.out.box
          rw [HFG.out.1, HFG.out.2] at hy
          have y0 := hy.c0
          have y1 := hy.c1
          have z0 : W4.frozen? ⟨b3, 0, none⟩ = false := hy.arr.frozen (by simp)
          have z1 : W4.frozen? ⟨b3, 1, none⟩ = false := hy.arr.frozen (by simp)
          have c70 := HBX.out.c0
          have c71 := HBX.out.c1
          obtain ⟨W2, hW2⟩ : ∃ W2, (W4.setCell ⟨b3, 0, none⟩ (.slice (some ⟨qb, qo, none⟩) N9 qc9)).setCell ⟨b3, 1, none⟩ (.slice aa9 M9 ac9) = W2 := ⟨_, rfl⟩
          have hT3 : LN w b3 x (some ⟨g', 0, none⟩) (k + 1) cap' (sent ++ [pk]) W2 := by rw [← hW2]; exact HLN.out.over HL9.out.1 HL9.out.2 HBX.out.nt
          have hz2 : W2.heap.size = W4.heap.size := by rw [← hW2]; simp
          have hnt2 : NtAt W2 W2.heap.size (.agg #[.slice (some ⟨qb, qo, none⟩) N9 qc9, .slice aa9 M9 ac9]) x := by
            rw [hz2, ← hW2]; exact (HBX.out.nt.apart HLN.out.sl _).apart (HLN.out.sl.set hy.c0 _ _ _) _
          have hck := chk_any W2 _ x hnt2
          rw [if_pos HXO.out] at hck
          have HW2 := Lib.hid hW2
          have HCK := Lib.hid hck
          have HT3 := Lib.hid hT3
          clear hy hT3 hz2 hnt2 hck hW2
          go_wp2_with (first | (at_builtin; rw [HW3.out]; refine wpList_append_run rfl (.tmp 57) (.tmp 66) 22 22 rfl _ _ _ _ (by rfl) (by rfl) HRUN.out ?_))
          rw [HW2.out]
          refine HCK.out.mono ?_
          rintro e w5 ⟨rfl, hb5⟩
          have HFIN := Lib.hid (HT3.out.next hb5)
          clear hb5 y0 y1 z0 z1 c70 c71
          go_wp2
          go_roundw
          case rel => exact ⟨i + 1, cuts, (k + 1), cap', (some ⟨g', 0, none⟩), x, (sent ++ [pk]), rfl, by first | rfl | go_num, by go_num, by omega, by omega, by omega, HS2.out, HFIN.out⟩
          case measure => simp [intOf]; omega
        · obtain ⟨hS2, hmet⟩ := hap_dlv HS.out HMQ.out (by rw [HHR.out])
          rw [HHR.out] at hS2 hmet
          have HS2 := Lib.hid hS2
          have HMT := Lib.hid hmet
          obtain ⟨s, hs⟩ : ∃ s, p.same Pk.zero = s := ⟨_, rfl⟩
          have hsz := samePk_any wc _ _ p Pk.zero HA.out.bp.pk (pk_zero _ _)
          rw [hs] at hsz
          have hss : p = Pk.zero → s = true := fun e => by rw [← hs, e]; exact Pk.same_refl _
          have HSZ := Lib.hid hsz
          have HSS := Lib.hid hss
          have c80 := HA.out.bp.c0
          have c81 := HA.out.bp.c1
          have c82 := HA.out.bp.c2
          clear hS2 hmet hs hsz hss
          go_upto_region 21 with (fail)
          go_cut [10] from 18 to 101 (fun v10 wx => ∃ b : Bool, v10 = .bool b ∧ Hid ((p = Pk.zero ∧ 0 < cuts) → b = true) ∧ Aft w wr b3 n ra k rc sent b7 b8 qa9 N9 qc9 aa9 M9 ac9 x px py da9 pl dc9 p wx)
          case first =>
            go_wp2_with fail
            refine HSZ.out.mono ?_
            rintro e w5 ⟨rfl, hb5⟩
            have HA5 := Lib.hid (HA.out.next hb5)
            clear hb5 c80 c81 c82 c3
            cases s with
            | true =>
              by_cases hc0 : 0 < cuts
              · have d0 : decide ((0 : Int) < (cuts : Int)) = true := by simp; omega
                have d00 : decide (0 < cuts) = true := by simp; omega
                go_wp2_with fail
                go_meet
                exact ⟨true, rfl, Lib.hid (fun _ => rfl), HA5.out⟩
              · have d0 : decide ((0 : Int) < (cuts : Int)) = false := by simp; omega
                have d00 : decide (0 < cuts) = false := by simp; omega
                go_wp2_with fail
                go_meet
                exact ⟨false, rfl, Lib.hid (fun h => absurd h.2 hc0), HA5.out⟩
            | false =>
              go_wp2_with fail
              go_meet
              exact ⟨false, rfl, Lib.hid (fun h => HSS.out h.1), HA5.out⟩
          case rest =>
          clear HA HSZ c80 c81 c82 c3
          obtain ⟨b, rfl, HB0, hA⟩ := hcut
          have HA := Lib.hid hA
          clear hA
          go_wp2
          go_loopw [10, 11] (fun v10 v11 wq => ∃ (j : Nat) (b : Bool), v10 = .bool b ∧ v11 = .int .i64 j ∧ j ≤ k ∧ Hid (((p = Pk.zero ∧ 0 < cuts) ∨ p ∈ sent.take j) → b = true) ∧ Aft w wr b3 n ra k rc sent b7 b8 qa9 N9 qc9 aa9 M9 ac9 x px py da9 pl dc9 p wq) (fun _ j _ => k - (intOf j).toNat)
          case atStart => exact ⟨0, b, rfl, rfl, Nat.zero_le _, Lib.hid (fun h => by rcases h with h | h; exact HB0.out h; simp at h), HA.out⟩
          case round =>
          clear HA HB0
          obtain ⟨j, b, rfl, rfl, hjk, HJ, hA⟩ := hrel
          have HA := Lib.hid hA
          clear hA
          by_cases hj : j < k
          · have jj : (j : Int) < (k : Int) := by omega
            have dj : decide ((j : Int) < (k : Int)) = true := by simp; omega
            rcases HA.out.ln.row.2 with ⟨_, e0, _⟩ | ⟨g, rfl, hg, hrow⟩
            · omega
            have hjl : j < sent.length := by rw [HA.out.ln.row.1]; exact hj
            have hkc := hrow.le
            have hcm := hrow.max
            unfold maxLen at hcm
            obtain ⟨_, _, e1, _, hin2, r0, r1, ea, ec, r2, _, _, hrd⟩ := (hrow.row hrow.lt).got j hjl
            cases e1
            obtain ⟨pj, hpj⟩ : ∃ y, sent[j]'hjl = y := ⟨_, rfl⟩
            have htk : sent.take (j + 1) = sent.take j ++ [pj] := by rw [List.take_succ_eq_append_getElem hjl, hpj]
            rw [hpj] at hin2 r0 r1 r2 hrd
            obtain ⟨L, hL⟩ : ∃ L, pj.data.length = L := ⟨_, rfl⟩
            rw [hL] at r2 hrd
            rw [Nat.zero_add] at r0 r1 r2
            have hgl := hrow.lt
            have HTK := Lib.hid htk
            clear hrow hpj hL htk
            cases b with
            | true =>
              clear r0 r1 r2 hrd hin2
              go_wp2
              go_quiet (fail)
              go_wp2
              go_roundw
              case rel => exact ⟨j + 1, true, rfl, by go_num, by omega, Lib.hid (fun _ => rfl), HA.out.next (below_drewN (Below.refl _ _) _)⟩
              case measure => simp [intOf]; omega
            | false =>
              obtain ⟨s2, hs2⟩ : ∃ s2, pj.same p = s2 := ⟨_, rfl⟩
              have HSJ : Hid (∀ W, Kept wr W → Calls Try.prog 22 #[.agg #[.int .i64 pj.frm, .int .i64 pj.to, .slice ea L ec], .agg #[.int .i64 px, .int .i64 py, .slice da9 pl dc9]] W fun e w' => e = .returned (.bool s2) ∧ Kept wr w') := Lib.hid fun W hW =>
                (samePk_any W _ _ pj p ⟨hin2, _, rfl, hrd.nxt hW.below⟩ (HA.out.bp.pk.next hW.below)).mono fun e w' h => ⟨by rw [h.1, hs2], hW.next h.2⟩
              have hps : p = pj → s2 = true := fun e => by rw [← hs2, e]; exact Pk.same_refl _
              have HPS := Lib.hid hps
              have k0 : ∀ W, Kept wr W → W.cell? ⟨g, j * 3, none⟩ = some (.int .i64 pj.frm) := fun W hW => (hW.cell hgl).trans r0
              have k1 : ∀ W, Kept wr W → W.cell? ⟨g, j * 3 + 1, none⟩ = some (.int .i64 pj.to) := fun W hW => (hW.cell hgl).trans r1
              have k2 : ∀ W, Kept wr W → W.cell? ⟨g, j * 3 + 2, none⟩ = some (.slice ea L ec) := fun W hW => (hW.cell hgl).trans r2
              have k3 : ∀ W, Kept wr W → W.cell? ⟨b8, 0, none⟩ = some (.int .i64 px) := fun W hW => (hW.cell HA.out.bp.lt).trans HA.out.bp.c0
              have k4 : ∀ W, Kept wr W → W.cell? ⟨b8, 1, none⟩ = some (.int .i64 py) := fun W hW => (hW.cell HA.out.bp.lt).trans HA.out.bp.c1
              have k5 : ∀ W, Kept wr W → W.cell? ⟨b8, 2, none⟩ = some (.slice da9 pl dc9) := fun W hW => (hW.cell HA.out.bp.lt).trans HA.out.bp.c2
              clear r0 r1 r2 hrd hin2 hs2 hps
              have s0 := k0 wr (Kept.refl _)
              have s1 := k1 wr (Kept.refl _)
              have s3 := k2 wr (Kept.refl _)
              have s4 := k3 wr (Kept.refl _)
              have s5 := k4 wr (Kept.refl _)
              have s6 := k5 wr (Kept.refl _)
              clear k0 k1 k2 k3 k4 k5
              go_wp2
              go_region_with (go_at_call 22; refine (HSJ.out _ (by first | exact Kept.drew (Kept.refl _) | exact Kept.drewN (Kept.refl _) _ | assumption)).mono ?_; rintro e w8 ⟨rfl, hK8⟩)
              all_goals
                clear s0 s1 s3 s4 s5 s6
                go_wp2
                go_roundw
                case rel =>
                  refine ⟨j + 1, s2, rfl, by go_num, by omega, Lib.hid (fun h => ?_), HA.out.next (Kept.below (by assumption))⟩
                  rcases h with h | h
                  · have := HJ.out (.inl h); simp at this
                  · rw [HTK.out] at h
                    rcases List.mem_append.1 h with h | h
                    · have := HJ.out (.inr h); simp at this
                    · exact HPS.out (List.mem_singleton.1 h)
                case measure => simp [intOf]; omega
          · have dj : decide ((j : Int) < (k : Int)) = false := by simp; omega
            have hb : b = true := HJ.out (by rw [List.take_of_length_le (by rw [HA.out.ln.row.1]; omega)]; exact HMT.out)
            subst hb
            obtain ⟨qa1, qc1, aa1, ac1, hy⟩ := HA.out.ln.box
            rw [HFG.out.1, HFG.out.2] at hy
            have y0 := hy.c0
            have y1 := hy.c1
            have z0 : wr.frozen? ⟨b3, 0, none⟩ = false := hy.arr.frozen (by simp)
            have z1 : wr.frozen? ⟨b3, 1, none⟩ = false := hy.arr.frozen (by simp)
            have c70 := HA.out.bx.c0
            have c71 := HA.out.bx.c1
            obtain ⟨W2, hW2⟩ : ∃ W2, (wr.setCell ⟨b3, 0, none⟩ (.slice qa9 N9 qc9)).setCell ⟨b3, 1, none⟩ (.slice aa9 M9 ac9) = W2 := ⟨_, rfl⟩
            have hT3 : LN w b3 x ra k rc sent W2 := by rw [← hW2]; exact HA.out.ln.over HL9.out.1 HL9.out.2 HA.out.bx.nt
            have hz2 : W2.heap.size = wr.heap.size := by rw [← hW2]; simp
            have hnt2 : NtAt W2 W2.heap.size (.agg #[.slice qa9 N9 qc9, .slice aa9 M9 ac9]) x := by
              rw [hz2, ← hW2]; exact (HA.out.bx.nt.apart HA.out.ln.sl _).apart (HA.out.ln.sl.set hy.c0 _ _ _) _
            have hck := chk_any W2 _ x hnt2
            rw [if_pos HXO.out] at hck
            have HW2 := Lib.hid hW2
            have HCK := Lib.hid hck
            have HT3 := Lib.hid hT3
            clear hy hT3 hz2 hnt2 hck hW2
            go_wp2_with fail
            rw [HW2.out]
            refine HCK.out.mono ?_
            rintro e w5 ⟨rfl, hb5⟩
            have HFIN := Lib.hid (HT3.out.next hb5)
            clear hb5 y0 y1 z0 z1 c70 c71
            go_wp2
            go_roundw
            case rel => exact ⟨i + 1, cuts, k, rc, ra, x, sent, rfl, by first | rfl | go_num, by go_num, by omega, by omega, by omega, HS2.out, HFIN.out⟩
            case measure => simp [intOf]; omega
        · have HS2 := Lib.hid (hap_lose HS.out HMQ.out (by rw [HHR.out]))
          rw [HHR.out] at HS2
          obtain ⟨qa1, qc1, aa1, ac1, hy⟩ := HA.out.ln.box
          rw [HFG.out.1, HFG.out.2] at hy
          have y0 := hy.c0
          have y1 := hy.c1
          have z0 : wc.frozen? ⟨b3, 0, none⟩ = false := hy.arr.frozen (by simp)
          have z1 : wc.frozen? ⟨b3, 1, none⟩ = false := hy.arr.frozen (by simp)
          have c70 := HA.out.bx.c0
          have c71 := HA.out.bx.c1
          obtain ⟨W2, hW2⟩ : ∃ W2, (wc.setCell ⟨b3, 0, none⟩ (.slice qa9 N9 qc9)).setCell ⟨b3, 1, none⟩ (.slice aa9 M9 ac9) = W2 := ⟨_, rfl⟩
          have hT3 : LN w b3 x ra k rc sent W2 := by rw [← hW2]; exact HA.out.ln.over HL9.out.1 HL9.out.2 HA.out.bx.nt
          have hz2 : W2.heap.size = wc.heap.size := by rw [← hW2]; simp
          have hnt2 : NtAt W2 W2.heap.size (.agg #[.slice qa9 N9 qc9, .slice aa9 M9 ac9]) x := by
            rw [hz2, ← hW2]; exact (HA.out.bx.nt.apart HA.out.ln.sl _).apart (HA.out.ln.sl.set hy.c0 _ _ _) _
          have hck := chk_any W2 _ x hnt2
          rw [if_pos HXO.out] at hck
          have HW2 := Lib.hid hW2
          have HCK := Lib.hid hck
          have HT3 := Lib.hid hT3
          clear hy hT3 hz2 hnt2 hck hW2
          go_wp2_with fail
          rw [HW2.out]
          refine HCK.out.mono ?_
          rintro e w5 ⟨rfl, hb5⟩
          have HFIN := Lib.hid (HT3.out.next hb5)
          clear hb5 y0 y1 z0 z1 c70 c71
          go_wp2
          go_roundw
          case rel => exact ⟨i + 1, cuts, k, rc, ra, x, sent, rfl, by first | rfl | go_num, by go_num, by omega, by omega, by omega, HS2.out, HFIN.out⟩
          case measure => simp [intOf]; omega
        · have HS2 := Lib.hid (hap_rpt HS.out HMQ.out (by rw [HHR.out]))
          rw [HHR.out] at HS2
          obtain ⟨qa1, qc1, aa1, ac1, hy⟩ := HA.out.ln.box
          rw [HFG.out.1, HFG.out.2] at hy
          have y0 := hy.c0
          have y1 := hy.c1
          have z0 : wc.frozen? ⟨b3, 0, none⟩ = false := hy.arr.frozen (by simp)
          have z1 : wc.frozen? ⟨b3, 1, none⟩ = false := hy.arr.frozen (by simp)
          have c70 := HA.out.bx.c0
          have c71 := HA.out.bx.c1
          obtain ⟨W2, hW2⟩ : ∃ W2, (wc.setCell ⟨b3, 0, none⟩ (.slice qa9 N9 qc9)).setCell ⟨b3, 1, none⟩ (.slice aa9 M9 ac9) = W2 := ⟨_, rfl⟩
          have hT3 : LN w b3 x ra k rc sent W2 := by rw [← hW2]; exact HA.out.ln.over HL9.out.1 HL9.out.2 HA.out.bx.nt
          have hz2 : W2.heap.size = wc.heap.size := by rw [← hW2]; simp
          have hnt2 : NtAt W2 W2.heap.size (.agg #[.slice qa9 N9 qc9, .slice aa9 M9 ac9]) x := by
            rw [hz2, ← hW2]; exact (HA.out.bx.nt.apart HA.out.ln.sl _).apart (HA.out.ln.sl.set hy.c0 _ _ _) _
          have hck := chk_any W2 _ x hnt2
          rw [if_pos HXO.out] at hck
          have HW2 := Lib.hid hW2
          have HCK := Lib.hid hck
          have HT3 := Lib.hid hT3
          clear hy hT3 hz2 hnt2 hck hW2
          go_wp2_with fail
          rw [HW2.out]
          refine HCK.out.mono ?_
          rintro e w5 ⟨rfl, hb5⟩
          have HFIN := Lib.hid (HT3.out.next hb5)
          clear hb5 y0 y1 z0 z1 c70 c71
          go_wp2
          go_roundw
          case rel => exact ⟨i + 1, cuts, k, rc, ra, x, sent, rfl, by first | rfl | go_num, by go_num, by omega, by omega, by omega, HS2.out, HFIN.out⟩
          case measure => simp [intOf]; omega
        · have HS2 := Lib.hid (hap_cut HS.out HMQ.out (by rw [HHR.out]))
          rw [HHR.out] at HS2
          obtain ⟨qa1, qc1, aa1, ac1, hy⟩ := HA.out.ln.box
          rw [HFG.out.1, HFG.out.2] at hy
          have y0 := hy.c0
          have y1 := hy.c1
          have z0 : wc.frozen? ⟨b3, 0, none⟩ = false := hy.arr.frozen (by simp)
          have z1 : wc.frozen? ⟨b3, 1, none⟩ = false := hy.arr.frozen (by simp)
          have c70 := HA.out.bx.c0
          have c71 := HA.out.bx.c1
          obtain ⟨W2, hW2⟩ : ∃ W2, (wc.setCell ⟨b3, 0, none⟩ (.slice qa9 N9 qc9)).setCell ⟨b3, 1, none⟩ (.slice aa9 M9 ac9) = W2 := ⟨_, rfl⟩
          have hT3 : LN w b3 x ra k rc sent W2 := by rw [← hW2]; exact HA.out.ln.over HL9.out.1 HL9.out.2 HA.out.bx.nt
          have hz2 : W2.heap.size = wc.heap.size := by rw [← hW2]; simp
          have hnt2 : NtAt W2 W2.heap.size (.agg #[.slice qa9 N9 qc9, .slice aa9 M9 ac9]) x := by
            rw [hz2, ← hW2]; exact (HA.out.bx.nt.apart HA.out.ln.sl _).apart (HA.out.ln.sl.set hy.c0 _ _ _) _
          have hck := chk_any W2 _ x hnt2
          rw [if_pos HXO.out] at hck
          have HW2 := Lib.hid hW2
          have HCK := Lib.hid hck
          have HT3 := Lib.hid hT3
          clear hy hT3 hz2 hnt2 hck hW2
          go_wp2_with fail
          rw [HW2.out]
          refine HCK.out.mono ?_
          rintro e w5 ⟨rfl, hb5⟩
          have HFIN := Lib.hid (HT3.out.next hb5)
          clear hb5 y0 y1 z0 z1 c70 c71
          go_wp2
          go_roundw
          case rel => exact ⟨i + 1, (cuts + 1), k, rc, ra, x, sent, rfl, by first | rfl | go_num, by go_num, by omega, by omega, by omega, HS2.out, HFIN.out⟩
          case measure => simp [intOf]; omega
        · have HS2 := Lib.hid (hap_mend HS.out HMQ.out (by rw [HHR.out]))
          rw [HHR.out] at HS2
          obtain ⟨qa1, qc1, aa1, ac1, hy⟩ := HA.out.ln.box
          rw [HFG.out.1, HFG.out.2] at hy
          have y0 := hy.c0
          have y1 := hy.c1
          have z0 : wc.frozen? ⟨b3, 0, none⟩ = false := hy.arr.frozen (by simp)
          have z1 : wc.frozen? ⟨b3, 1, none⟩ = false := hy.arr.frozen (by simp)
          have c70 := HA.out.bx.c0
          have c71 := HA.out.bx.c1
          obtain ⟨W2, hW2⟩ : ∃ W2, (wc.setCell ⟨b3, 0, none⟩ (.slice qa9 N9 qc9)).setCell ⟨b3, 1, none⟩ (.slice aa9 M9 ac9) = W2 := ⟨_, rfl⟩
          have hT3 : LN w b3 x ra k rc sent W2 := by rw [← hW2]; exact HA.out.ln.over HL9.out.1 HL9.out.2 HA.out.bx.nt
          have hz2 : W2.heap.size = wc.heap.size := by rw [← hW2]; simp
          have hnt2 : NtAt W2 W2.heap.size (.agg #[.slice qa9 N9 qc9, .slice aa9 M9 ac9]) x := by
            rw [hz2, ← hW2]; exact (HA.out.bx.nt.apart HA.out.ln.sl _).apart (HA.out.ln.sl.set hy.c0 _ _ _) _
          have hck := chk_any W2 _ x hnt2
          rw [if_pos HXO.out] at hck
          have HW2 := Lib.hid hW2
          have HCK := Lib.hid hck
          have HT3 := Lib.hid hT3
          clear hy hT3 hz2 hnt2 hck hW2
          go_wp2_with fail
          rw [HW2.out]
          refine HCK.out.mono ?_
          rintro e w5 ⟨rfl, hb5⟩
          have HFIN := Lib.hid (HT3.out.next hb5)
          clear hb5 y0 y1 z0 z1 c70 c71
          go_wp2
          go_roundw
          case rel => exact ⟨i + 1, cuts, k, rc, ra, x, sent, rfl, by first | rfl | go_num, by go_num, by omega, by omega, by omega, HS2.out, HFIN.out⟩
          case measure => simp [intOf]; omega
      · have d1 : (er != 0) = true := by simpa using he
        have d2 : (er == 0) = false := by simpa using he
        have hz : x = Nt.zero := by have := hap_zero (m := m) HS.out.ok (by rw [HHR.out]; exact he); rwa [HHR.out] at this
        obtain ⟨qa1, qc1, aa1, ac1, hy⟩ := HA.out.ln.box
        rw [HFG.out.1, HFG.out.2] at hy
        have y0 := hy.c0
        have y1 := hy.c1
        have hck := chk_any wc _ n hy.nt
        rw [if_pos HS.out.ok] at hck
        have HCK := Lib.hid hck
        have HZ := Lib.hid hz
        clear hy hck hz
        go_wp2_with fail
        refine HCK.out.mono ?_
        rintro e w5 ⟨rfl, hb5⟩
        have hA5 := HA.out.next hb5
        have HA5 := Lib.hid hA5
        have c70 := hA5.bx.c0
        have c71 := hA5.bx.c1
        clear hb5 y0 y1 hA5
        go_wp2_with fail
        refine (same_any w5 _ _ Nt.zero (HZ.out ▸ HA5.out.bx.nt) (zero_at _ _)).mono ?_
        rintro e w6 ⟨rfl, hb6⟩
        have HA6 := Lib.hid (HA5.out.ln.next hb6)
        clear hb6 c70 c71
        go_wp2
        go_roundw
        case rel => exact ⟨i + 1, cuts, k, rc, ra, n, sent, rfl, rfl, by go_num, by omega, by omega, by omega, HS.out.later, HA6.out⟩
        case measure => simp [intOf]; omega
  · have di : decide ((i : Int) < (N : Int)) = false := by simp; omega
    go_wp2
    go_ret
    exact ⟨rfl, HT.out.below⟩
end Go.Proofs.Ytjancbjjeemedaa
