/- merkle: the collision that two paths show (Collide). -/
import Derived.Test.YtfmngeemhfpeiaaDoorMnb
namespace Go.Proofs.YtfmngeemhfpeiaaDoor
open Go.RowKit Go.Shelf
attribute [local go_sem] Oper.semAt_some

def c25a0 : Oper := { dst := some 56, op := Go.Op.load 34 (Go.Operand.tmp 12), type := 34, pos := "merkle.go:64", after := #[], guard := none }
def c25a1 : Oper := { dst := some 57, op := Go.Op.call { callee := Go.Callee.value (Go.Operand.func 27), args := #[Go.Operand.tmp 56], argTypes := #[34] }, type := 30, pos := "merkle.go:64", after := #[{ on := 0, ground := Go.Ground.data }], guard := none }
def c25a2 : Oper := { dst := some 58, op := Go.Op.load 34 (Go.Operand.tmp 13), type := 34, pos := "merkle.go:64", after := #[], guard := none }
def c25a3 : Oper := { dst := some 59, op := Go.Op.call { callee := Go.Callee.value (Go.Operand.func 27), args := #[Go.Operand.tmp 58], argTypes := #[34] }, type := 30, pos := "merkle.go:64", after := #[{ on := 2, ground := Go.Ground.data }, { on := 1, ground := Go.Ground.chain }], guard := none }
def c25a4 : Oper := { dst := none, op := Go.Op.store 30 (Go.Operand.tmp 15) (Go.Operand.tmp 57), type := 0, pos := "merkle.go:64", after := #[{ on := 1, ground := Go.Ground.data }, { on := 3, ground := Go.Ground.chain }, { on := 0, ground := Go.Ground.phase }, { on := 1, ground := Go.Ground.phase }, { on := 2, ground := Go.Ground.textOnly Go.Departure.inlinedCapture }, { on := 3, ground := Go.Ground.textOnly Go.Departure.lateStoresUnsure }], guard := none }
def c25a5 : Oper := { dst := none, op := Go.Op.store 30 (Go.Operand.tmp 17) (Go.Operand.tmp 59), type := 0, pos := "merkle.go:64", after := #[{ on := 3, ground := Go.Ground.data }, { on := 4, ground := Go.Ground.chain }, { on := 0, ground := Go.Ground.phase }, { on := 1, ground := Go.Ground.phase }, { on := 2, ground := Go.Ground.phase }, { on := 3, ground := Go.Ground.phase }, { on := 4, ground := Go.Ground.phase }], guard := none }
def c25b0 : Oper := { dst := some 72, op := Go.Op.load 65 (Go.Operand.tmp 19), type := 65, pos := "merkle.go:71", after := #[], guard := none }
def c25b1 : Oper := { dst := some 73, op := Go.Op.load 30 (Go.Operand.tmp 15), type := 30, pos := "merkle.go:71", after := #[], guard := none }
def c25b2 : Oper := { dst := some 74, op := Go.Op.load 25 (Go.Operand.tmp 10), type := 25, pos := "merkle.go:71", after := #[], guard := none }
def c25b3 : Oper := { dst := some 75, op := Go.Op.indexAddr 25 (Go.Operand.tmp 74) (Go.Operand.const (Go.Value.int Go.IntKind.i64 0)), type := 0, pos := "merkle.go:71", after := #[{ on := 2, ground := Go.Ground.data }], guard := none }
def c25b4 : Oper := { dst := some 76, op := Go.Op.load 30 (Go.Operand.tmp 75), type := 30, pos := "merkle.go:71", after := #[{ on := 3, ground := Go.Ground.data }], guard := none }
def c25b5 : Oper := { dst := some 77, op := Go.Op.call { callee := Go.Callee.value (Go.Operand.func 53), args := #[Go.Operand.tmp 72, Go.Operand.tmp 73, Go.Operand.tmp 76], argTypes := #[65, 30, 30] }, type := 34, pos := "merkle.go:71", after := #[{ on := 0, ground := Go.Ground.data }, { on := 1, ground := Go.Ground.data }, { on := 4, ground := Go.Ground.data }], guard := none }
def c25b6 : Oper := { dst := some 78, op := Go.Op.load 65 (Go.Operand.tmp 19), type := 65, pos := "merkle.go:71", after := #[], guard := none }
def c25b7 : Oper := { dst := some 79, op := Go.Op.load 30 (Go.Operand.tmp 17), type := 30, pos := "merkle.go:71", after := #[], guard := none }
def c25b8 : Oper := { dst := some 80, op := Go.Op.load 25 (Go.Operand.tmp 11), type := 25, pos := "merkle.go:71", after := #[], guard := none }
def c25b9 : Oper := { dst := some 81, op := Go.Op.indexAddr 25 (Go.Operand.tmp 80) (Go.Operand.const (Go.Value.int Go.IntKind.i64 0)), type := 0, pos := "merkle.go:71", after := #[{ on := 8, ground := Go.Ground.data }], guard := none }
def c25b10 : Oper := { dst := some 82, op := Go.Op.load 30 (Go.Operand.tmp 81), type := 30, pos := "merkle.go:71", after := #[{ on := 9, ground := Go.Ground.data }], guard := none }
def c25b11 : Oper := { dst := some 83, op := Go.Op.call { callee := Go.Callee.value (Go.Operand.func 53), args := #[Go.Operand.tmp 78, Go.Operand.tmp 79, Go.Operand.tmp 82], argTypes := #[65, 30, 30] }, type := 34, pos := "merkle.go:71", after := #[{ on := 6, ground := Go.Ground.data }, { on := 7, ground := Go.Ground.data }, { on := 10, ground := Go.Ground.data }, { on := 5, ground := Go.Ground.chain }], guard := none }
def c25b12 : Oper := { dst := none, op := Go.Op.store 34 (Go.Operand.tmp 12) (Go.Operand.tmp 77), type := 0, pos := "merkle.go:71", after := #[{ on := 5, ground := Go.Ground.data }, { on := 11, ground := Go.Ground.chain }, { on := 0, ground := Go.Ground.phase }, { on := 1, ground := Go.Ground.phase }, { on := 2, ground := Go.Ground.phase }, { on := 3, ground := Go.Ground.phase }, { on := 4, ground := Go.Ground.phase }, { on := 5, ground := Go.Ground.phase }, { on := 6, ground := Go.Ground.textOnly Go.Departure.lateStores }, { on := 7, ground := Go.Ground.textOnly Go.Departure.inlinedCapture }, { on := 8, ground := Go.Ground.textOnly Go.Departure.inlinedCapture }, { on := 9, ground := Go.Ground.textOnly Go.Departure.inlinedCapture }, { on := 10, ground := Go.Ground.textOnly Go.Departure.inlinedCapture }, { on := 11, ground := Go.Ground.textOnly Go.Departure.lateStoresUnsure }], guard := none }
def c25b13 : Oper := { dst := none, op := Go.Op.store 34 (Go.Operand.tmp 13) (Go.Operand.tmp 83), type := 0, pos := "merkle.go:71", after := #[{ on := 11, ground := Go.Ground.data }, { on := 12, ground := Go.Ground.chain }, { on := 0, ground := Go.Ground.phase }, { on := 1, ground := Go.Ground.phase }, { on := 2, ground := Go.Ground.phase }, { on := 3, ground := Go.Ground.phase }, { on := 4, ground := Go.Ground.phase }, { on := 5, ground := Go.Ground.phase }, { on := 6, ground := Go.Ground.phase }, { on := 7, ground := Go.Ground.phase }, { on := 8, ground := Go.Ground.phase }, { on := 9, ground := Go.Ground.phase }, { on := 10, ground := Go.Ground.phase }, { on := 11, ground := Go.Ground.phase }, { on := 12, ground := Go.Ground.phase }], guard := none }
def c25c0 : Oper := { dst := some 84, op := Go.Op.load 34 (Go.Operand.tmp 12), type := 34, pos := "merkle.go:72", after := #[], guard := none }
def c25c1 : Oper := { dst := some 85, op := Go.Op.call { callee := Go.Callee.value (Go.Operand.func 27), args := #[Go.Operand.tmp 84], argTypes := #[34] }, type := 30, pos := "merkle.go:72", after := #[{ on := 0, ground := Go.Ground.data }], guard := none }
def c25c2 : Oper := { dst := some 86, op := Go.Op.load 34 (Go.Operand.tmp 13), type := 34, pos := "merkle.go:72", after := #[], guard := none }
def c25c3 : Oper := { dst := some 87, op := Go.Op.call { callee := Go.Callee.value (Go.Operand.func 27), args := #[Go.Operand.tmp 86], argTypes := #[34] }, type := 30, pos := "merkle.go:72", after := #[{ on := 2, ground := Go.Ground.data }, { on := 1, ground := Go.Ground.chain }], guard := none }
def c25c4 : Oper := { dst := none, op := Go.Op.store 30 (Go.Operand.tmp 15) (Go.Operand.tmp 85), type := 0, pos := "merkle.go:72", after := #[{ on := 1, ground := Go.Ground.data }, { on := 3, ground := Go.Ground.chain }, { on := 0, ground := Go.Ground.phase }, { on := 1, ground := Go.Ground.phase }, { on := 2, ground := Go.Ground.textOnly Go.Departure.inlinedCapture }, { on := 3, ground := Go.Ground.textOnly Go.Departure.lateStoresUnsure }], guard := none }
def c25c5 : Oper := { dst := none, op := Go.Op.store 30 (Go.Operand.tmp 17) (Go.Operand.tmp 87), type := 0, pos := "merkle.go:72", after := #[{ on := 3, ground := Go.Ground.data }, { on := 4, ground := Go.Ground.chain }, { on := 0, ground := Go.Ground.phase }, { on := 1, ground := Go.Ground.phase }, { on := 2, ground := Go.Ground.phase }, { on := 3, ground := Go.Ground.phase }, { on := 4, ground := Go.Ground.phase }], guard := none }
def c25d0 : Oper := { dst := some 88, op := Go.Op.load 25 (Go.Operand.tmp 10), type := 25, pos := "merkle.go:73", after := #[], guard := none }
def c25d1 : Oper := { dst := some 89, op := Go.Op.slice 25 (Go.Operand.tmp 88) (some (Go.Operand.const (Go.Value.int Go.IntKind.i64 1))) none none, type := 25, pos := "merkle.go:73", after := #[{ on := 0, ground := Go.Ground.data }], guard := none }
def c25d2 : Oper := { dst := some 90, op := Go.Op.load 25 (Go.Operand.tmp 11), type := 25, pos := "merkle.go:73", after := #[], guard := none }
def c25d3 : Oper := { dst := some 91, op := Go.Op.slice 25 (Go.Operand.tmp 90) (some (Go.Operand.const (Go.Value.int Go.IntKind.i64 1))) none none, type := 25, pos := "merkle.go:73", after := #[{ on := 2, ground := Go.Ground.data }], guard := none }
def c25d4 : Oper := { dst := none, op := Go.Op.store 25 (Go.Operand.tmp 10) (Go.Operand.tmp 89), type := 0, pos := "merkle.go:73", after := #[{ on := 1, ground := Go.Ground.data }, { on := 0, ground := Go.Ground.phase }, { on := 1, ground := Go.Ground.phase }, { on := 2, ground := Go.Ground.textOnly Go.Departure.inlinedCapture }, { on := 3, ground := Go.Ground.textOnly Go.Departure.lateStoresUnsure }], guard := none }
def c25d5 : Oper := { dst := none, op := Go.Op.store 25 (Go.Operand.tmp 11) (Go.Operand.tmp 91), type := 0, pos := "merkle.go:73", after := #[{ on := 3, ground := Go.Ground.data }, { on := 4, ground := Go.Ground.chain }, { on := 0, ground := Go.Ground.phase }, { on := 1, ground := Go.Ground.phase }, { on := 2, ground := Go.Ground.phase }, { on := 3, ground := Go.Ground.phase }, { on := 4, ground := Go.Ground.phase }], guard := none }
def c25e0 : Oper := { dst := some 92, op := Go.Op.load 34 (Go.Operand.tmp 12), type := 34, pos := "merkle.go:77", after := #[], guard := none }
def c25e1 : Oper := { dst := some 93, op := Go.Op.load 34 (Go.Operand.tmp 13), type := 34, pos := "merkle.go:77", after := #[], guard := none }
def c25e2 : Oper := { dst := none, op := Go.Op.store 34 (Go.Operand.tmp 12) (Go.Operand.tmp 92), type := 0, pos := "merkle.go:77", after := #[{ on := 0, ground := Go.Ground.data }, { on := 0, ground := Go.Ground.phase }, { on := 1, ground := Go.Ground.textOnly Go.Departure.inlinedCapture }], guard := none }
def c25e3 : Oper := { dst := none, op := Go.Op.store 34 (Go.Operand.tmp 13) (Go.Operand.tmp 93), type := 0, pos := "merkle.go:77", after := #[{ on := 1, ground := Go.Ground.data }, { on := 2, ground := Go.Ground.chain }, { on := 0, ground := Go.Ground.phase }, { on := 1, ground := Go.Ground.phase }, { on := 2, ground := Go.Ground.phase }], guard := none }
def c25e4 : Oper := { dst := some 14, op := Go.Op.assign (Go.Operand.const (Go.Value.bool true)), type := 4, pos := "merkle.go:77", after := #[{ on := 3, ground := Go.Ground.chain }, { on := 0, ground := Go.Ground.phase }, { on := 1, ground := Go.Ground.phase }, { on := 2, ground := Go.Ground.phase }, { on := 3, ground := Go.Ground.phase }], guard := none }

/-- What holds between two rounds of Collide. -/
structure ColI (w : World) (n8 n5 b15 b17 i m P pb poff qb qoff : Nat) (a b : List UInt8) (p q : List (List UInt8)) (k : Nat) (W : World) (vx vy : Value) (pa : Option Addr) (L C : Nat) (qa : Option Addr) (L' C' : Nat) : Prop where
  below : Below w.heap.size w W
  size : n8 ≤ W.heap.size
  c10 : Arr W w.heap.size [.slice pa L C]
  c11 : Arr W (w.heap.size + 1) [.slice qa L' C']
  c12 : Arr W (w.heap.size + 2) [vx]
  c13 : Arr W (w.heap.size + 3) [vy]
  c15 : Arr W b15 (cells8 (mst i m (sha (leafT a)) p k))
  c17 : Arr W b17 (cells8 (mst i m (sha (leafT b)) q k))
  x : NewB n5 W vx (mtx i m (leafT a) (sha (leafT a)) p k)
  y : NewB n5 W vy (mtx i m (leafT b) (sha (leafT b)) q k)
  p1 : L + mcnt i m k = P
  p2 : L ≤ C
  p3 : C ≤ 9223372036854775807
  p4 : 0 < L → pa = some ⟨pb, poff + mcnt i m k * 32, none⟩
  q1 : L' + mcnt i m k = P
  q2 : L' ≤ C'
  q3 : C' ≤ 9223372036854775807
  q4 : 0 < L' → qa = some ⟨qb, qoff + mcnt i m k * 32, none⟩
  ne : ∀ j, j < k → mst i m (sha (leafT a)) p j ≠ mst i m (sha (leafT b)) q j
theorem ColI.own {w : World} {n8 n5 b15 b17 i m P pb poff qb qoff : Nat} {a b : List UInt8} {p q : List (List UInt8)} {k : Nat} {W W' : World} {vx vy : Value} {pa : Option Addr} {L C : Nat} {qa : Option Addr} {L' C' : Nat} {row : Option Nat}
    (h : ColI w n8 n5 b15 b17 i m P pb poff qb qoff a b p q k W vx vy pa L C qa L' C') (hn : w.heap.size ≤ n8) (hg : W.grownBy W' row) (hr : ∀ r, row = some r → n8 ≤ r ∧ ∃ o : Obj, W.heap[r]? = some o ∧ o.isCells = false) : ColI w n8 n5 b15 b17 i m P pb poff qb qoff a b p q k W' vx vy pa L C qa L' C' :=
  have hr2 := fun r e => (hr r e).2
  ⟨h.below.grown hg h.below.size (fun k e => by have := (hr k e).1; omega), Nat.le_trans h.size hg.size, h.c10.own hg hr2, h.c11.own hg hr2, h.c12.own hg hr2, h.c13.own hg hr2, h.c15.own hg hr2, h.c17.own hg hr2,
    h.x.own (mtx_ne i m (leafT_ne a) p k) hg hr2, h.y.own (mtx_ne i m (leafT_ne b) q k) hg hr2, h.p1, h.p2, h.p3, h.p4, h.q1, h.q2, h.q3, h.q4, h.ne⟩
theorem digs_at {w W : World} {v : Value} {ds : List (List UInt8)} (h : Digs w w.heap.size v ds) (hb : Below w.heap.size w W) : Digs W W.heap.size v ds := by
  obtain ⟨h32, a, c, e, h1, h2, h3⟩ := h.below hb
  refine ⟨h32, a, c, e, h1, h2, ?_⟩
  rcases h3 with h3 | ⟨db, off, h4, h5, h6⟩
  · exact .inl h3
  · exact .inr ⟨db, off, h4, Nat.lt_of_lt_of_le h5 hb.size, h6⟩
set_option maxRecDepth 100000 in
set_option maxHeartbeats 16000000 in
theorem collide_ok (w : World) (i m : Nat) (v u pv qv : Value) (a b : List UInt8) (p q : List (List UInt8)) (hv : BytesAt w w.heap.size v a) (hu : BytesAt w w.heap.size u b) (ha : a.length ≤ 8000000) (hb : b.length ≤ 8000000) (hp : Digs w w.heap.size pv p) (hq : Digs w w.heap.size qv q)
    (him : i < m) (hm : m ≤ 65536) (hpl : p.length = mlen i m) (hql : q.length = mlen i m) (hR : mclimb i m a p = mclimb i m b q) (hab : a ≠ b) (hT : Tab w) (h0 : 0 < w.heap.size) :
    Calls Tryd.prog 25 #[.int .i64 m, .int .i64 i, v, u, pv, qv] w fun e w' => ∃ vx vy K, e = .returned (.tuple #[vx, vy, .bool true]) ∧ K ≤ mrows m ∧ mst i m (sha (leafT a)) p K = mst i m (sha (leafT b)) q K ∧ (∀ j, j < K → mst i m (sha (leafT a)) p j ≠ mst i m (sha (leafT b)) q j) ∧
      BytesAt w' w'.heap.size vx (mtx i m (leafT a) (sha (leafT a)) p K) ∧ BytesAt w' w'.heap.size vy (mtx i m (leafT b) (sha (leafT b)) q K) ∧ Below w.heap.size w w' := by
  have HC1 := Lib.hid (fun W (hW : Below w.heap.size w W) => climb_ok W i m v pv a p ((hv.below hW).mono hW.size) (by omega) (digs_at hp hW) him hm hpl (hT.below hW h0) (by have := hW.size; omega))
  have HC2 := Lib.hid (fun W (hW : Below w.heap.size w W) => climb_ok W i m u qv b q ((hu.below hW).mono hW.size) (by omega) (digs_at hq hW) him hm hql (hT.below hW h0) (by have := hW.size; omega))
  have HEQ := Lib.hid (fun W (hW : Below w.heap.size w W) => bytesEq_any W v u a b ((hv.below hW).mono hW.size) ((hu.below hW).mono hW.size))
  have HL1 := Lib.hid (fun W (hW : Below w.heap.size w W) => leafText_new W v a ((hv.below hW).mono hW.size) (by omega) (hT.below hW h0) (by have := hW.size; omega))
  have HL2 := Lib.hid (fun W (hW : Below w.heap.size w W) => leafText_new W u b ((hu.below hW).mono hW.size) (by omega) (hT.below hW h0) (by have := hW.size; omega))
  rw [← hR] at HC2
  have hRl : (mclimb i m a p).length = 32 := mst_len i m (sha_len _) p _
  have HQ := Lib.hid (fun W : World => dig_eq (mclimb i m a p) (mclimb i m a p) hRl hRl W)
  simp only [decide_true, dv_eq] at HQ
  have HAB : Hid (decide (a = b) = false) := Lib.hid (by simpa using hab)
  obtain ⟨va, vc, rfl⟩ : ∃ x c, v = .slice x a.length c := by obtain ⟨x, c, rfl, _⟩ := hv; exact ⟨x, c, rfl⟩
  obtain ⟨ua, uc, rfl⟩ : ∃ x c, u = .slice x b.length c := by obtain ⟨x, c, rfl, _⟩ := hu; exact ⟨x, c, rfl⟩
  obtain ⟨hp32, pa, pc, rfl, hpc, hpm, hpr⟩ := hp
  obtain ⟨hq32, qa, qc, rfl, hqc, hqm, hqr⟩ := hq
  obtain ⟨P, hP⟩ : ∃ P, mlen i m = P := ⟨_, rfl⟩
  have HPB : ∃ pb poff, pb < w.heap.size ∧ (0 < P → pa = some ⟨pb, poff, none⟩) ∧ ∀ c (hc : c < P), (p.getD c []).length = 32 ∧ w.rangeAt pb (poff + c * 32) (cells8 (p.getD c [])) := by
    rcases hpr with rfl | ⟨pb, poff, h4, h5, h6⟩
    · have hP0 : P = 0 := by rw [← hP, ← hpl]; rfl
      exact ⟨0, 0, h0, fun h => by omega, fun c hc => by omega⟩
    · exact ⟨pb, poff, h5, fun _ => h4, fun c hc => by
        have hc' : c < p.length := by omega
        have e : p.getD c [] = p[c] := by simp [List.getD, List.getElem?_eq_getElem hc']
        rw [e]
        exact ⟨hp32 _ (List.getElem_mem hc'), h6 c hc'⟩⟩
  have HQB : ∃ pb poff, pb < w.heap.size ∧ (0 < P → qa = some ⟨pb, poff, none⟩) ∧ ∀ c (hc : c < P), (q.getD c []).length = 32 ∧ w.rangeAt pb (poff + c * 32) (cells8 (q.getD c [])) := by
    rcases hqr with rfl | ⟨pb, poff, h4, h5, h6⟩
    · have hP0 : P = 0 := by rw [← hP, ← hql]; rfl
      exact ⟨0, 0, h0, fun h => by omega, fun c hc => by omega⟩
    · exact ⟨pb, poff, h5, fun _ => h4, fun c hc => by
        have hc' : c < q.length := by omega
        have e : q.getD c [] = q[c] := by simp [List.getD, List.getElem?_eq_getElem hc']
        rw [e]
        exact ⟨hq32 _ (List.getElem_mem hc'), h6 c hc'⟩⟩
  obtain ⟨pb, poff, hpb, hpa, hpr2⟩ := HPB
  obtain ⟨qb, qoff, hqb, hqa, hqr2⟩ := HQB
  have HPA := Lib.hid hpa
  have HPR := Lib.hid hpr2
  have HQA := Lib.hid hqa
  have HQR := Lib.hid hqr2
  have HPP := Lib.hid (show mcnt i m (mrows m) = P from hP)
  have HML := Lib.hid (show ∀ k, k < mrows m → mcnt i m (k + 1) ≤ P from fun k hk => by rw [← hP]; exact mcnt_mono i m hk)
  have HMXA := Lib.hid (fun k (hk : k ≤ mrows m) => mtx_len i m (t := leafT a) (sha_len (leafT a)) hp32 hpl k hk)
  have HMXB := Lib.hid (fun k (hk : k ≤ mrows m) => mtx_len i m (t := leafT b) (sha_len (leafT b)) hq32 hql k hk)
  have HRT : Hid (mst i m (sha (leafT a)) p (mrows m) = mst i m (sha (leafT b)) q (mrows m)) := Lib.hid hR
  have HSHA := Lib.hid (mtx_sha i m (leafT a) p)
  have HSHB := Lib.hid (mtx_sha i m (leafT b) q)
  have HNEA := Lib.hid (mtx_ne i m (d := sha (leafT a)) (leafT_ne a) p)
  have HNEB := Lib.hid (mtx_ne i m (d := sha (leafT b)) (leafT_ne b) q)
  have HLNA := Lib.hid (mst_len i m (sha_len (leafT a)) p)
  have HLNB := Lib.hid (mst_len i m (sha_len (leafT b)) q)
  have HLA0 := Lib.hid (leafT_len a)
  have HLB0 := Lib.hid (leafT_len b)
  have HAL0 := Lib.hid ha
  have HBL0 := Lib.hid hb
  have HT := Lib.hid hT
  rw [hpl, hP] at HC1 hpc
  rw [hql, hP] at HC2 hqc
  rw [hpl, hql, hP]
  obtain ⟨NA, hNA⟩ : ∃ x, a.length = x := ⟨_, rfl⟩
  obtain ⟨NB, hNB⟩ : ∃ x, b.length = x := ⟨_, rfl⟩
  rw [hNA] at HC1 HEQ HL1 ⊢
  rw [hNB] at HC2 HEQ HL2 ⊢
  obtain ⟨R, hRR⟩ : ∃ x, mclimb i m a p = x := ⟨_, rfl⟩
  rw [hRR] at HC1 HC2 HQ hRl
  have HLC : Hid ((cells8 R).length = 32) := Lib.hid (by rw [cells8_len, hRl])
  have HOC : Hid (∀ v ∈ cells8 R, v.oneCell' = true) := Lib.hid (one_cells8 R)
  obtain ⟨cc, hcc⟩ : ∃ x, cells8 R = x := ⟨_, rfl⟩
  rw [hcc] at HC1 HC2 HQ HLC HOC
  have HZC : Hid ((Tryd.prog.info? 30).map (·.size) = some cc.length) := Lib.hid (by rw [HLC.out]; exact Tryd.info30)
  have heq := HQ.out
  have hab2 := HAB.out
  rw [hab2] at HEQ
  unfold maxLen at hpm hqm
  clear hv hu ha hb hT hpl hql hR hab hp32 hq32 hpr hqr hpa hqa hpr2 hqr2 hP hNA hNB hRR hRl hcc
  refine (callsIn_wide (n := 9)).1 ?_
  refine callsIn_of_wp_marks Tryd.func25 rfl trivial ?_ rfl
  simp only [Tryd.ntmps25, List.size_toArray, List.length_cons, List.length_nil, Nat.reduceAdd, Nat.reduceSub, Array.replicate_succ, Array.replicate_zero, List.push_toArray, List.append_toArray, List.nil_append, List.cons_append]
  refine wpIn_wide.2 ?_
  have z1 : (w.alloc (.cells #[.slice pa P pc] 25)).heap.size = w.heap.size + 1 := World.size_alloc _ _
  have z2 : ((w.alloc (.cells #[.slice pa P pc] 25)).alloc (.cells #[.slice qa P qc] 25)).heap.size = w.heap.size + 2 := by rw [World.size_alloc, z1]
  have z3 : (((w.alloc (.cells #[.slice pa P pc] 25)).alloc (.cells #[.slice qa P qc] 25)).alloc (.cells #[.slice none 0 0] 34)).heap.size = w.heap.size + 3 := by rw [World.size_alloc, z2]
  have F1 : Below w.heap.size w ((((w.alloc (.cells #[.slice pa P pc] 25)).alloc (.cells #[.slice qa P qc] 25)).alloc (.cells #[.slice none 0 0] 34)).alloc (.cells #[.slice none 0 0] 34)) := by go_grown
  have F2 := (((Arr.new w #[.slice pa P pc] 25).alloc (by omega) (.cells #[.slice qa P qc] 25)).alloc (by omega) (.cells #[.slice none 0 0] 34)).alloc (by omega) (.cells #[.slice none 0 0] 34)
  have F3 := ((Arr.new (w.alloc (.cells #[.slice pa P pc] 25)) #[.slice qa P qc] 25).alloc (by omega) (.cells #[.slice none 0 0] 34)).alloc (by omega) (.cells #[.slice none 0 0] 34)
  have F4 := (Arr.new ((w.alloc (.cells #[.slice pa P pc] 25)).alloc (.cells #[.slice qa P qc] 25)) #[.slice none 0 0] 34).alloc (by omega) (.cells #[.slice none 0 0] 34)
  have F5 := Arr.new (((w.alloc (.cells #[.slice pa P pc] 25)).alloc (.cells #[.slice qa P qc] 25)).alloc (.cells #[.slice none 0 0] 34)) #[.slice none 0 0] 34
  have z4 : ((((w.alloc (.cells #[.slice pa P pc] 25)).alloc (.cells #[.slice qa P qc] 25)).alloc (.cells #[.slice none 0 0] 34)).alloc (.cells #[.slice none 0 0] 34)).heap.size = w.heap.size + 4 := by rw [World.size_alloc, z3]
  rw [z1] at F3
  rw [z2] at F4
  rw [z3] at F5
  obtain ⟨W0, hW0⟩ : ∃ X, (((w.alloc (.cells #[.slice pa P pc] 25)).alloc (.cells #[.slice qa P qc] 25)).alloc (.cells #[.slice none 0 0] 34)).alloc (.cells #[.slice none 0 0] 34) = X := ⟨_, rfl⟩
  rw [hW0] at F1 F2 F3 F4 F5 z4
  have HB0 := Lib.hid F1
  have HA10 := Lib.hid F2
  have HA11 := Lib.hid F3
  have HA12 := Lib.hid F4
  have HA13 := Lib.hid F5
  have HW0 := Lib.hid hW0
  have hz0 : w.heap.size + 4 ≤ W0.heap.size := by omega
  have c10 := F2.cell (i := 0) rfl
  have c11 := F3.cell (i := 0) rfl
  clear F1 F2 F3 F4 F5 z1 z2 z3 z4 hW0
  go_wp2_with fail
  rw [HW0.out]
  refine wp_scope_straight ?_
  go_wp2_with fail
  refine (HC1.out _ HB0.out).mono ?_
  rintro e W1 ⟨rfl, hb1⟩
  have hs1 := hb1.size
  have HG1 := Lib.hid hb1
  clear hb1 c10 c11
  go_wp2_with (first
    | (refine wpList_world (fun W => Below W1.heap.size W1 W ∧ Arr W W1.heap.size (cells8 (List.replicate 32 0)) ∧ W1.heap.size < W.heap.size) ⟨by go_grown, Arr.new W1 _ 30, by simp⟩ ?_; rintro Wa ⟨hBa, hDa, hza⟩)
    | (refine store_new2 rfl 30 _ _ (by rfl) W1.heap.size W1.heap.size cc _ (by rfl) (by rfl) hBa (Nat.le_refl _) hDa (by rw [HLC.out]; rfl) HZC.out HOC.out ?_; intro W2 hB2 hA15 hO2 hz2; have h02 := HG1.out.trans (hB2.mono hs1); have HG2 := Lib.hid h02; have HA15 := Lib.hid hA15; have c11 := (HA11.out.below h02 (by omega)).cell (i := 0) rfl; have hz15 : W1.heap.size < W2.heap.size := Nat.lt_of_lt_of_le hza hz2; clear hB2 hA15 hO2 h02 hBa hDa))
  refine (HC2.out _ (HB0.out.trans (HG2.out.mono (by omega)))).mono ?_
  rintro e W3 ⟨rfl, hb3⟩
  have hs3 := hb3.size
  have HG3 := Lib.hid (HG2.out.trans (hb3.mono HG2.out.size))
  have HA15b := Lib.hid (HA15.out.below hb3 hz15)
  clear hb3 c11 HA15
  go_wp2_with (first
    | (refine wpList_world (fun W => Below W3.heap.size W3 W ∧ Arr W W3.heap.size (cells8 (List.replicate 32 0)) ∧ W3.heap.size < W.heap.size) ⟨by go_grown, Arr.new W3 _ 30, by simp⟩ ?_; rintro Wa ⟨hBa, hDa, hza⟩)
    | (refine store_new2 rfl 30 _ _ (by rfl) W3.heap.size W3.heap.size cc _ (by rfl) (by rfl) hBa (Nat.le_refl _) hDa (by rw [HLC.out]; rfl) HZC.out HOC.out ?_; intro W4 hB4 hA17 hO4 hz4; have h04 := HG3.out.trans (hB4.mono HG3.out.size); have HB4 := Lib.hid (HB0.out.trans (h04.mono (by omega))); have HA17 := Lib.hid hA17; have HA15 := Lib.hid (HA15b.out.below hB4 (by omega)); have hz17 : W3.heap.size < W4.heap.size := Nat.lt_of_lt_of_le hza hz4; have HA10 := Lib.hid (HA10.out.below h04 (by omega)); have HA11 := Lib.hid (HA11.out.below h04 (by omega)); have HA12 := Lib.hid (HA12.out.below h04 (by omega)); have HA13 := Lib.hid (HA13.out.below h04 (by omega)); clear hB4 hA17 hO4 h04 hBa hDa)
    | (refine wpList_wanted (by rfl) ?_; refine wp_load_mid 30 (.tmp 15) (by rfl) W1.heap.size 0 (by rfl) cc _ HA15.out.at_ Tryd.underlying30 rfl HZC.out ?_; simp only [Act.put, List.setIfInBounds_toArray, List.set_cons_zero, List.set_cons_succ])
    | (refine wpList_wanted (by rfl) ?_; refine wp_load_mid 30 (.tmp 17) (by rfl) W3.heap.size 0 (by rfl) cc _ HA17.out.at_ Tryd.underlying30 rfl HZC.out ?_; simp only [Act.put, List.setIfInBounds_toArray, List.set_cons_zero, List.set_cons_succ])
    | (go_at_call 56; with_reducible refine (HEQ.out _ HB4.out).mono ?_; rintro e W5 ⟨rfl, rfl⟩))
  have hs5 := HB4.out.size
  refine (HL1.out _ HB4.out).mono ?_
  rintro e V1 ⟨x1, rfl, hx1, hb1⟩
  obtain ⟨gx, cx, rfl⟩ := hx1.head
  obtain ⟨LX, hLX⟩ : ∃ x, (leafT a).length = x := ⟨_, rfl⟩
  rw [hLX] at hx1 ⊢
  have hv1 := hb1.size
  have HVB1 := Lib.hid (HB4.out.trans (hb1.mono HB4.out.size))
  have HG5 := Lib.hid hb1
  have HX1 := Lib.hid hx1
  clear hb1 hx1
  go_wp2_with fail
  refine (HL2.out _ HVB1.out).mono ?_
  rintro e V2 ⟨y1, rfl, hy1, hb2⟩
  obtain ⟨gy, cy, rfl⟩ := hy1.head
  obtain ⟨LY, hLY⟩ : ∃ x, (leafT b).length = x := ⟨_, rfl⟩
  rw [hLY] at hy1 ⊢
  have HVB2 := Lib.hid (HVB1.out.trans (hb2.mono HVB1.out.size))
  have h52 := HG5.out.trans (hb2.mono hv1)
  have hv2 := h52.size
  have HA10 := Lib.hid (HA10.out.below h52 (by omega))
  have HA11 := Lib.hid (HA11.out.below h52 (by omega))
  have HA12 := Lib.hid (HA12.out.below h52 (by omega))
  have HA13 := Lib.hid (HA13.out.below h52 (by omega))
  have HA15 := Lib.hid (HA15.out.below h52 (by omega))
  have HA17 := Lib.hid (HA17.out.below h52 (by omega))
  have HX2 := Lib.hid ((HX1.out.below hb2).mono (show W5.heap.size ≤ W5.heap.size from Nat.le_refl _))
  have HY2 := Lib.hid (hy1.mono hv1)
  have c12 := HA12.out.cell (i := 0) rfl
  have f12 := HA12.out.frozen (i := 0) (by simp)
  have c13 := HA13.out.cell (i := 0) rfl
  have f13 := HA13.out.frozen (i := 0) (by simp)
  clear hb2 hy1 h52 HG5 HX1
  clear hLX hLY
  go_upto_region 6 with fail
  have G12 := (HA12.out.set 0 (.slice (some ⟨gx, 0, none⟩) LX cx)).other (show w.heap.size + 2 ≠ w.heap.size + 3 by omega) 0 (.slice (some ⟨gy, 0, none⟩) LY cy)
  have G13 := (HA13.out.other (show w.heap.size + 3 ≠ w.heap.size + 2 by omega) 0 (.slice (some ⟨gx, 0, none⟩) LX cx)).set 0 (.slice (some ⟨gy, 0, none⟩) LY cy)
  have G10 := (HA10.out.other (show w.heap.size ≠ w.heap.size + 2 by omega) 0 (.slice (some ⟨gx, 0, none⟩) LX cx)).other (show w.heap.size ≠ w.heap.size + 3 by omega) 0 (.slice (some ⟨gy, 0, none⟩) LY cy)
  have G11 := (HA11.out.other (show w.heap.size + 1 ≠ w.heap.size + 2 by omega) 0 (.slice (some ⟨gx, 0, none⟩) LX cx)).other (show w.heap.size + 1 ≠ w.heap.size + 3 by omega) 0 (.slice (some ⟨gy, 0, none⟩) LY cy)
  have G15 := (HA15.out.other (show W1.heap.size ≠ w.heap.size + 2 by omega) 0 (.slice (some ⟨gx, 0, none⟩) LX cx)).other (show W1.heap.size ≠ w.heap.size + 3 by omega) 0 (.slice (some ⟨gy, 0, none⟩) LY cy)
  have G17 := (HA17.out.other (show W3.heap.size ≠ w.heap.size + 2 by omega) 0 (.slice (some ⟨gx, 0, none⟩) LX cx)).other (show W3.heap.size ≠ w.heap.size + 3 by omega) 0 (.slice (some ⟨gy, 0, none⟩) LY cy)
  have GX := (HX2.out.kept (grown_setCell (b := w.heap.size + 2) 0 (.slice (some ⟨gx, 0, none⟩) LX cx)) (fun k e => by cases e; omega)).kept (grown_setCell (b := w.heap.size + 3) 0 (.slice (some ⟨gy, 0, none⟩) LY cy)) (fun k e => by cases e; omega)
  have GY := (HY2.out.kept (grown_setCell (b := w.heap.size + 2) 0 (.slice (some ⟨gx, 0, none⟩) LX cx)) (fun k e => by cases e; omega)).kept (grown_setCell (b := w.heap.size + 3) 0 (.slice (some ⟨gy, 0, none⟩) LY cy)) (fun k e => by cases e; omega)
  have GB := (HVB2.out.setCell (p := ⟨w.heap.size + 2, 0, none⟩) (by show w.heap.size ≤ w.heap.size + 2; omega) (.slice (some ⟨gx, 0, none⟩) LX cx)).setCell (p := ⟨w.heap.size + 3, 0, none⟩) (by show w.heap.size ≤ w.heap.size + 3; omega) (.slice (some ⟨gy, 0, none⟩) LY cy)
  have GS : W5.heap.size ≤ ((V2.setCell ⟨w.heap.size + 2, 0, none⟩ (.slice (some ⟨gx, 0, none⟩) LX cx)).setCell ⟨w.heap.size + 3, 0, none⟩ (.slice (some ⟨gy, 0, none⟩) LY cy)).heap.size := by simp; omega
  obtain ⟨W6, hW6⟩ : ∃ X, (V2.setCell ⟨w.heap.size + 2, 0, none⟩ (.slice (some ⟨gx, 0, none⟩) LX cx)).setCell ⟨w.heap.size + 3, 0, none⟩ (.slice (some ⟨gy, 0, none⟩) LY cy) = X := ⟨_, rfl⟩
  rw [hW6] at G10 G11 G12 G13 G15 G17 GX GY GB GS ⊢
  clear hW6 HA10 HA11 HA12 HA13 HA15 HA17 HX2 HY2 HVB2 HVB1 c12 f12 c13 f13
  have HLA : Hid ((cells8 (sha (leafT a))).length = 32) := Lib.hid (by rw [cells8_len, sha_len])
  have HLB : Hid ((cells8 (sha (leafT b))).length = 32) := Lib.hid (by rw [cells8_len, sha_len])
  have HOA : Hid (∀ v ∈ cells8 (sha (leafT a)), v.oneCell' = true) := Lib.hid (one_cells8 _)
  have HOB : Hid (∀ v ∈ cells8 (sha (leafT b)), v.oneCell' = true) := Lib.hid (one_cells8 _)
  have HSA : Hid (∀ W', Low W6.heap.size [W1.heap.size, W3.heap.size] W6 W' → Calls Tryd.prog 27 #[.slice (some ⟨gx, 0, none⟩) LX cx] W' fun e w' => e = .returned (.agg (cells8 (sha (leafT a))).toArray) ∧ Below W'.heap.size W' w') := Lib.hid fun W' hW => by
    have h := sum_any W' (.slice (some ⟨gx, 0, none⟩) LX cx) (leafT a) (row_of (GX.low hW (by simp; omega)).2 (leafT_ne a)) (by rw [HLA0.out]; have := HAL0.out; omega) (HT.out.below (GB.trans (hW.below (by omega) (by simp; omega))) h0) (by have := hW.size; omega)
    rw [← dv_eq]
    exact h
  have HSB : Hid (∀ W', Low W6.heap.size [W1.heap.size, W3.heap.size] W6 W' → Calls Tryd.prog 27 #[.slice (some ⟨gy, 0, none⟩) LY cy] W' fun e w' => e = .returned (.agg (cells8 (sha (leafT b))).toArray) ∧ Below W'.heap.size W' w') := Lib.hid fun W' hW => by
    have h := sum_any W' (.slice (some ⟨gy, 0, none⟩) LY cy) (leafT b) (row_of (GY.low hW (by simp; omega)).2 (leafT_ne b)) (by rw [HLB0.out]; have := HBL0.out; omega) (HT.out.below (GB.trans (hW.below (by omega) (by simp; omega))) h0) (by have := hW.size; omega)
    rw [← dv_eq]
    exact h
  obtain ⟨ca, hca⟩ : ∃ x, cells8 (sha (leafT a)) = x := ⟨_, rfl⟩
  obtain ⟨cb, hcb⟩ : ∃ x, cells8 (sha (leafT b)) = x := ⟨_, rfl⟩
  rw [hca] at HLA HOA HSA
  rw [hcb] at HLB HOB HSB
  have HCA := Lib.hid hca
  have HCB := Lib.hid hcb
  have HZA : Hid ((Tryd.prog.info? 30).map (·.size) = some ca.length) := Lib.hid (by rw [HLA.out]; exact Tryd.info30)
  have HZB : Hid ((Tryd.prog.info? 30).map (·.size) = some cb.length) := Lib.hid (by rw [HLB.out]; exact Tryd.info30)
  have HN57 : Hid (W3.heap.size ≠ W1.heap.size) := Lib.hid (by omega)
  have HN75 : Hid (W1.heap.size ≠ W3.heap.size) := Lib.hid (by omega)
  have P12 : Hid (∀ W', Low W6.heap.size [W1.heap.size, W3.heap.size] W6 W' → W'.cell? ⟨w.heap.size + 1 + 1, 0, none⟩ = some (.slice (some ⟨gx, 0, none⟩) LX cx)) := Lib.hid fun W' hW => (hW.arr G12 (by omega) (by simp; omega)).cell (i := 0) rfl
  have P13 : Hid (∀ W', Low W6.heap.size [W1.heap.size, W3.heap.size] W6 W' → W'.cell? ⟨w.heap.size + 1 + 1 + 1, 0, none⟩ = some (.slice (some ⟨gy, 0, none⟩) LY cy)) := Lib.hid fun W' hW => (hW.arr G13 (by omega) (by simp; omega)).cell (i := 0) rfl
  have hz15w : W1.heap.size < W6.heap.size := by omega
  have hz17w : W3.heap.size < W6.heap.size := by omega
  have hA15 := G15.drew
  have hA17 := G17.drew
  clear hca hcb
  refine wp_region_ends (Low W6.heap.size [W1.heap.size, W3.heap.size] W6) (by kernel_rfl) (Low.drew (Low.refl _ _ _)) (fun KR hKR hHeld => ?_)
  refine wpAnyH_take (i := 0) (oi := c25a0) (v := ?_) rfl (by kernel_rfl) (by kernel_rfl) (by kernel_rfl) (fun _ _ _ h => h) (Or.inl ⟨by rfl, ?_⟩) hHeld ?_
  rotate_left
  · (intro w hSw; have f1 := P12.out w hSw; have f2 := P13.out w hSw; unfold c25a0; go_simp <;> with_reducible rfl)
  try simp only [c25a0, Act.put, List.setIfInBounds_toArray, List.set_cons_zero, List.set_cons_succ]
  refine wpAnyH_take (i := 2) (oi := c25a2) (v := ?_) rfl (by kernel_rfl) (by kernel_rfl) (by kernel_rfl) (fun _ _ _ h => h) (Or.inl ⟨by rfl, ?_⟩) hHeld ?_
  rotate_left
  · (intro w hSw; have f1 := P12.out w hSw; have f2 := P13.out w hSw; unfold c25a2; go_simp <;> with_reducible rfl)
  try simp only [c25a2, Act.put, List.setIfInBounds_toArray, List.set_cons_zero, List.set_cons_succ]
  refine wpAnyH_ready (rs := [1]) (by kernel_rfl) (by simp) ?_
  refine AllReadyH.cons (o := c25a1) rfl (fun K hK => ?_) AllReadyH.nil
  rw [if_pos (by rfl)]
  unfold c25a1
  go_simp
  (with_reducible refine (HSA.out _ hHeld).mono ?_)
  rintro e X1 ⟨rfl, hb1⟩
  replace hA15 := hA15.below hb1 (by have := hHeld.size; omega)
  replace hA17 := hA17.below hb1 (by have := hHeld.size; omega)
  replace hHeld := hHeld.next hb1 (Nat.le_refl _)
  go_wp2_with fail
  refine hK.out _ _ hHeld (fun hHeld => ?_)
  clear hK K
  try simp only [c25a1, Act.put, List.setIfInBounds_toArray, List.set_cons_zero, List.set_cons_succ]
  refine wpAnyH_ready (rs := [3]) (by kernel_rfl) (by simp) ?_
  refine AllReadyH.cons (o := c25a3) rfl (fun K hK => ?_) AllReadyH.nil
  rw [if_pos (by rfl)]
  unfold c25a3
  go_simp
  (with_reducible refine (HSB.out _ hHeld).mono ?_)
  rintro e X3 ⟨rfl, hb3⟩
  replace hA15 := hA15.below hb3 (by have := hHeld.size; omega)
  replace hA17 := hA17.below hb3 (by have := hHeld.size; omega)
  replace hHeld := hHeld.next hb3 (Nat.le_refl _)
  go_wp2_with fail
  refine hK.out _ _ hHeld (fun hHeld => ?_)
  clear hK K
  try simp only [c25a3, Act.put, List.setIfInBounds_toArray, List.set_cons_zero, List.set_cons_succ]
  refine wpAnyH_ready (rs := [4]) (by kernel_rfl) (by simp) ?_
  refine AllReadyH.cons (o := c25a4) rfl (fun K hK => ?_) AllReadyH.nil
  rw [if_pos (by rfl)]
  refine wp_st26 (.tmp 15) (.tmp 57) (by rfl) W1.heap.size ca _ (by rfl) (by rfl) hA15 (by rw [HLA.out, HLC.out]) HZA.out HOA.out ?_
  intro Z4 hG4 hB4
  replace hA17 := hA17.moved hG4 (by have := hHeld.size; omega) (by simpa using HN57.out)
  have hO4 := hA15.obj (by rw [HLC.out]; omega)
  replace hHeld := hHeld.moved hG4 (Nat.le_refl _) (fun k e => by cases e; exact ⟨.inl (by simp), hO4⟩)
  refine hK.out _ _ hHeld (fun hHeld => ?_)
  clear hK K
  try simp only [c25a4, Act.put]
  refine wpAnyH_ready (rs := [5]) (by kernel_rfl) (by simp) ?_
  refine AllReadyH.cons (o := c25a5) rfl (fun K hK => ?_) AllReadyH.nil
  rw [if_pos (by rfl)]
  refine wp_st26 (.tmp 17) (.tmp 59) (by rfl) W3.heap.size cb _ (by rfl) (by rfl) hA17 (by rw [HLB.out, HLC.out]) HZB.out HOB.out ?_
  intro Z5 hG5 hB5
  replace hB4 := hB4.moved hG5 (by have := hHeld.size; omega) (by simpa using HN75.out)
  have hO5 := hA17.obj (by rw [HLC.out]; omega)
  replace hHeld := hHeld.moved hG5 (Nat.le_refl _) (fun k e => by cases e; exact ⟨.inl (by simp), hO5⟩)
  refine hK.out _ _ hHeld (fun hHeld => ?_)
  clear hK K
  try simp only [c25a5, Act.put]
  refine wpAnyH_done (by kernel_rfl) ?_ _
  refine hKR _ _ ?_
  have HW7 := Lib.hid hHeld
  have HB15 := Lib.hid hB4
  have HB17 := Lib.hid hB5
  clear hHeld hB4 hB5 hG4 hG5 hO4 hO5 hA15 hA17 hb1 hb3
  have hs7 := HW7.out.size
  have E10 := HW7.out.arr G10 (by omega) (by simp; omega)
  have E11 := HW7.out.arr G11 (by omega) (by simp; omega)
  have E12 := HW7.out.arr G12 (by omega) (by simp; omega)
  have E13 := HW7.out.arr G13 (by omega) (by simp; omega)
  have EX := GX.low HW7.out (by simp; omega)
  have EY := GY.low HW7.out (by simp; omega)
  have EB := GB.trans (HW7.out.below (by omega) (by simp; omega))
  obtain ⟨W7, hW7⟩ : ∃ X, Z5 = X := ⟨_, rfl⟩
  rw [hW7] at E10 E11 E12 E13 EX EY EB hs7 HB15 HB17 ⊢
  clear hW7 G10 G11 G12 G13 GX GY GB G15 G17 HW7 P12 P13 HSA HSB
  go_wp2_with fail
  refine wp_label ?_
  go_wp2_with fail
  refine (steps_any W7 i m).mono ?_
  rintro e w8 ⟨rfl, hi8, hn8, hb8, hz8⟩
  have HI8 := Lib.hid hi8
  have HN8 := Lib.hid hn8
  have HI0 : Hid (ColI w w8.heap.size W5.heap.size W1.heap.size W3.heap.size i m P pb poff qb qoff a b p q 0 w8 (.slice (some ⟨gx, 0, none⟩) LX cx) (.slice (some ⟨gy, 0, none⟩) LY cy) pa P pc qa P qc) := Lib.hid (by
    refine ⟨EB.trans (hb8.mono EB.size), Nat.le_refl _, E10.below hb8 (by omega), E11.below hb8 (by omega), E12.below hb8 (by omega), E13.below hb8 (by omega), ?_, ?_, EX.below hb8, EY.below hb8, rfl, hpc, hpm, fun h => ?_, rfl, hqc, hqm, fun h => ?_, fun j hj => by omega⟩
    · show Arr w8 _ (cells8 (sha (leafT a)))
      rw [HCA.out]; exact HB15.out.below hb8 (by omega)
    · show Arr w8 _ (cells8 (sha (leafT b)))
      rw [HCB.out]; exact HB17.out.below hb8 (by omega)
    · rw [show mcnt i m 0 = 0 from rfl, Nat.zero_mul]; exact HPA.out h
    · rw [show mcnt i m 0 = 0 from rfl, Nat.zero_mul]; exact HQA.out h)
  have hq8 : W7.heap.size < w8.heap.size := by omega
  have hq9 : W7.heap.size + 1 < w8.heap.size := by omega
  have hq5 : W5.heap.size < w8.heap.size := by omega
  clear hz8 hb8 hi8 hn8 E10 E11 E12 E13 EX EY EB HB15 HB17
  go_wp2_with fail
  refine (wpIn_wide (n := 9)).1 ?_
  refine range_in_turn (n := 9) rfl (enters_of Tryd.func74 (by kernel_rfl) rfl) (steps_turn 8 (by omega) (W7.heap.size + 1) W7.heap.size i m (by omega) (by omega) him w8 hq9 hq8 HI8.out HN8.out) (Below.refl _ _) (fun _ => rfl)
    (fun k W => ∃ gx cx LX gy cy LY pa L C qa L' C', ColI w w8.heap.size W5.heap.size W1.heap.size W3.heap.size i m P pb poff qb qoff a b p q k W (.slice (some ⟨gx, 0, none⟩) LX cx) (.slice (some ⟨gy, 0, none⟩) LY cy) pa L C qa L' C')
    (fun c W => c = Code.exit 0 ∧ ∃ K gx cx LX gy cy LY pa L C qa L' C', K ≤ mrows m ∧ mst i m (sha (leafT a)) p K = mst i m (sha (leafT b)) q K ∧ ColI w w8.heap.size W5.heap.size W1.heap.size W3.heap.size i m P pb poff qb qoff a b p q K W (.slice (some ⟨gx, 0, none⟩) LX cx) (.slice (some ⟨gy, 0, none⟩) LY cy) pa L C qa L' C')
    (by
      rintro k W W' row ⟨gx, cx, LX, gy, cy, LY, pa, L, C, qa, L', C', h⟩ hg hr
      exact ⟨gx, cx, LX, gy, cy, LY, pa, L, C, qa, L', C', h.own (by omega) hg hr⟩)
    (by
      rintro c W W' row ⟨hc, K, gx, cx, LX, gy, cy, LY, pa, L, C, qa, L', C', h1, h2, h⟩ hg hr
      exact ⟨hc, K, gx, cx, LX, gy, cy, LY, pa, L, C, qa, L', C', h1, h2, h.own (by omega) hg hr⟩)
    ⟨_, _, _, _, _, _, _, _, _, _, _, _, HI0.out⟩
    (fun k a' W => ∃ g', a' = { tmps := (Value.int IntKind.i64 m :: Value.int IntKind.i64 i :: Value.slice va NA vc :: Value.slice ua NB uc :: Value.slice pa P pc :: Value.slice qa P qc :: undef :: undef :: undef :: undef :: Value.pointer (some { block := w.heap.size, off := 0 }) :: Value.pointer (some { block := w.heap.size + 1, off := 0 }) :: Value.pointer (some { block := w.heap.size + 1 + 1, off := 0 }) :: Value.pointer (some { block := w.heap.size + 1 + 1 + 1, off := 0 }) :: Value.bool false :: Value.pointer (some { block := W1.heap.size, off := 0 }) :: Value.int IntKind.i64 0 :: Value.pointer (some { block := W3.heap.size, off := 0 }) :: Value.int IntKind.i64 0 :: Value.pointer (some { block := g', off := 0 }) :: Value.tuple #[Value.agg cc.toArray, Value.int IntKind.i64 0] :: Value.int IntKind.i64 m :: Value.int IntKind.i64 i :: Value.slice va NA vc :: Value.slice pa P pc :: Value.tuple #[Value.agg cc.toArray, Value.int IntKind.i64 0] :: Value.agg cc.toArray :: Value.int IntKind.i64 0 :: Value.tuple #[Value.agg cc.toArray, Value.int IntKind.i64 0] :: Value.int IntKind.i64 m :: Value.int IntKind.i64 i :: Value.slice ua NB uc :: Value.slice qa P qc :: Value.tuple #[Value.agg cc.toArray, Value.int IntKind.i64 0] :: Value.agg cc.toArray :: Value.int IntKind.i64 0 :: Value.int IntKind.i64 0 :: Value.bool false :: Value.bool false :: Value.int IntKind.i64 0 :: Value.bool false :: Value.bool false :: Value.bool false :: Value.agg cc.toArray :: Value.agg cc.toArray :: Value.bool false :: Value.bool false :: Value.bool false :: Value.slice va NA vc :: Value.slice ua NB uc :: Value.bool false :: Value.bool false :: Value.slice va NA vc :: Value.slice (some { block := gx, off := 0 }) LX cx :: Value.slice ua NB uc :: Value.slice (some { block := gy, off := 0 }) LY cy :: Value.slice (some { block := gx, off := 0 }) LX cx :: Value.agg ca.toArray :: Value.slice (some { block := gy, off := 0 }) LY cy :: Value.agg cb.toArray :: Value.int IntKind.i64 m :: Value.int IntKind.i64 i :: Value.func (Fn.func 74) #[] #[Value.pointer (some { block := W7.heap.size + 1, off := 0 }), Value.pointer (some { block := W7.heap.size, off := 0 })] :: Value.agg #[Value.int IntKind.i64 (mpos i k), Value.int IntKind.i64 (msz m k)] :: undef :: undef :: undef :: undef :: undef :: undef :: undef :: undef :: undef :: undef :: undef :: undef :: undef :: undef :: undef :: undef :: undef :: undef :: undef :: undef :: undef :: undef :: undef :: undef :: undef :: undef :: undef :: undef :: undef :: undef :: []).toArray, defers := [] } ∧ w8.heap.size ≤ g' ∧ Arr W g' [.int .i64 (mpos i k), .int .i64 (msz m k)])
    ?hax ?assign ?body ?done ?stop
  case hax =>
    rintro k a' u W W' row ⟨g', h1, h2, h3⟩ hg hr
    exact ⟨g', h1, h2, h3.own hg (fun r e => (hr r e).2)⟩
  case assign =>
    intro lp k W K hk hI hK
    have HKK := Lib.hid hK
    have HI := Lib.hid hI
    clear hI hK
    unfold stpV
    gi_wp2
    obtain ⟨gx, cx, LX, gy, cy, LY, pa, L, C, qa, L', C', h⟩ := HI.out
    have hb : Below W.heap.size W (W.alloc (.cells #[.int .i64 (mpos i k), .int .i64 (msz m k)] 65)) := (Below.refl _ W).alloc (Nat.le_refl _) _
    exact HKK.out _ _ ((KeepsOthers.alloc W _).from _) ⟨gx, cx, LX, gy, cy, LY, pa, L, C, qa, L', C', h.own (by omega) (gbelow hb) (row := none) (fun r e => by cases e)⟩ ⟨W.heap.size, rfl, h.size, Arr.new W #[.int .i64 (mpos i k), .int .i64 (msz m k)] 65⟩
  case stop =>
    rintro D c W hD ⟨rfl, K, gx, cx, LX, gy, cy, LY, pa, L, C, qa, L', C', hKm, hKe, h⟩ hK
    refine wpIn_exit ?_
    have hDW : D < W.heap.size := (Array.getElem?_eq_some_iff.1 hK).1
    have c12 := h.c12.cell (i := 0) rfl
    have f12 := h.c12.frozen (i := 0) (by simp)
    have c13 := h.c13.cell (i := 0) rfl
    have f13 := h.c13.frozen (i := 0) (by simp)
    have HH := Lib.hid h
    have HKE := Lib.hid hKe
    have HKM := Lib.hid hKm
    have HK := Lib.hid hK
    clear h hKe hKm hK
    go_wp2_with fail
    refine wp_region_ends (fun W' => Low W.heap.size [w.heap.size + 2, w.heap.size + 3] W W' ∧ Arr W' (w.heap.size + 2) [.slice (some ⟨gx, 0, none⟩) LX cx] ∧ Arr W' (w.heap.size + 3) [.slice (some ⟨gy, 0, none⟩) LY cy]) (by kernel_rfl) (⟨(Low.refl _ _ _).drew, HH.out.c12.drew, HH.out.c13.drew⟩) (fun KR hKR hHeld => ?_)
    refine wpAnyH_take (i := 0) (oi := c25e0) (v := ?_) rfl (by kernel_rfl) (by kernel_rfl) (by kernel_rfl) (fun _ _ _ h => h) (Or.inl ⟨by rfl, ?_⟩) hHeld ?_
    rotate_left
    · (intro w hSw; have f1 := hSw.2.1.cell (i := 0) rfl; have f2 := hSw.2.2.cell (i := 0) rfl; unfold c25e0; go_simp <;> with_reducible rfl)
    try simp only [c25e0, Act.put, List.setIfInBounds_toArray, List.set_cons_zero, List.set_cons_succ]
    refine wpAnyH_take (i := 1) (oi := c25e1) (v := ?_) rfl (by kernel_rfl) (by kernel_rfl) (by kernel_rfl) (fun _ _ _ h => h) (Or.inl ⟨by rfl, ?_⟩) hHeld ?_
    rotate_left
    · (intro w hSw; have f1 := hSw.2.1.cell (i := 0) rfl; have f2 := hSw.2.2.cell (i := 0) rfl; unfold c25e1; go_simp <;> with_reducible rfl)
    try simp only [c25e1, Act.put, List.setIfInBounds_toArray, List.set_cons_zero, List.set_cons_succ]
    refine wpAnyH_ready (rs := [2]) (by kernel_rfl) (by simp) ?_
    refine AllReadyH.cons (o := c25e2) rfl (fun K hK => ?_) AllReadyH.nil
    rw [if_pos (by rfl)]
    have f1 := hHeld.2.1.cell (i := 0) rfl
    have f2 := hHeld.2.1.frozen (i := 0) (by simp)
    have hS2 : _ ∧ _ ∧ _ := ⟨hHeld.1.set (Nat.le_refl _) (by simp) hHeld.2.1 (by simp) 0 (.slice (some ⟨gx, 0, none⟩) LX cx), hHeld.2.1.set 0 (.slice (some ⟨gx, 0, none⟩) LX cx), hHeld.2.2.other (show w.heap.size + 3 ≠ w.heap.size + 2 by omega) 0 (.slice (some ⟨gx, 0, none⟩) LX cx)⟩
    unfold c25e2
    go_simp
    refine hK.out _ _ hS2 (fun hHeld => ?_)
    clear hK K
    try simp only [c25e2, Act.put]
    refine wpAnyH_ready (rs := [3]) (by kernel_rfl) (by simp) ?_
    refine AllReadyH.cons (o := c25e3) rfl (fun K hK => ?_) AllReadyH.nil
    rw [if_pos (by rfl)]
    have f1 := hHeld.2.2.cell (i := 0) rfl
    have f2 := hHeld.2.2.frozen (i := 0) (by simp)
    have hS3 : _ ∧ _ ∧ _ := ⟨hHeld.1.set (Nat.le_refl _) (by simp) hHeld.2.2 (by simp) 0 (.slice (some ⟨gy, 0, none⟩) LY cy), hHeld.2.1.other (show w.heap.size + 2 ≠ w.heap.size + 3 by omega) 0 (.slice (some ⟨gy, 0, none⟩) LY cy), hHeld.2.2.set 0 (.slice (some ⟨gy, 0, none⟩) LY cy)⟩
    unfold c25e3
    go_simp
    refine hK.out _ _ hS3 (fun hHeld => ?_)
    clear hK K
    try simp only [c25e3, Act.put]
    refine wpAnyH_take (i := 4) (oi := c25e4) (v := ?_) rfl (by kernel_rfl) (by kernel_rfl) (by kernel_rfl) (fun _ _ _ h => h) (Or.inl ⟨by rfl, ?_⟩) hHeld ?_
    rotate_left
    · (intro w hSw; (try dsimp only at hSw); unfold c25e4; go_simp <;> with_reducible rfl)
    try simp only [c25e4, Act.put, List.setIfInBounds_toArray, List.set_cons_zero, List.set_cons_succ]
    refine wpAnyH_done (by kernel_rfl) ?_ _
    refine hKR _ _ ?_
    have hA12 := hHeld.2.1
    have hA13 := hHeld.2.2
    obtain ⟨WF, hWF, hL⟩ : ∃ X, X = _ ∧ Low W.heap.size [w.heap.size + 2, w.heap.size + 3] W X := ⟨_, rfl, hHeld.1⟩
    rw [← hWF] at hA12 hA13 ⊢
    clear hHeld hS2 hS3 hWF
    have hsz := hL.size
    have hX := HH.out.x.low hL (by simp; omega)
    have hY := HH.out.y.low hL (by simp; omega)
    have hKF := hL.keep D _ HK.out rfl
    have hBF := HH.out.below.trans (hL.below (by have := HH.out.below.size; omega) (by simp))
    clear hL
    have hPF : Below w8.heap.size WF (WF.putObj D (.deferred none)) := (Below.refl _ WF).grown (grownBy_putObj' WF D _) (by have := HH.out.size; omega) (fun k e => by cases e; omega)
    have q12 : (WF.putObj D (.deferred none)).cell? ⟨w.heap.size + 1 + 1, 0, none⟩ = some (.slice (some ⟨gx, 0, none⟩) LX cx) := (hA12.below hPF (by omega)).cell (i := 0) rfl
    have q13 : (WF.putObj D (.deferred none)).cell? ⟨w.heap.size + 1 + 1 + 1, 0, none⟩ = some (.slice (some ⟨gy, 0, none⟩) LY cy) := (hA13.below hPF (by omega)).cell (i := 0) rfl
    have hX2 := hX.own (mtx_ne i m (leafT_ne a) p _) (grownBy_putObj' WF D (.deferred none)) (fun r e => by cases e; exact ⟨_, hKF, rfl⟩)
    have hY2 := hY.own (mtx_ne i m (leafT_ne b) q _) (grownBy_putObj' WF D (.deferred none)) (fun r e => by cases e; exact ⟨_, hKF, rfl⟩)
    have HQ12 := Lib.hid q12
    have HQ13 := Lib.hid q13
    have HX2 := Lib.hid hX2
    have HY2 := Lib.hid hY2
    have HKF := Lib.hid hKF
    have HBP := Lib.hid (hBF.trans (hPF.mono (by omega)))
    clear q12 q13 hX hY hX2 hY2 hKF hBF hPF hA12 hA13
    go_wp2
    rw [Exit.noGoto_ret]
    refine ⟨by simp, .inl ⟨_, _, rfl, run_takeDeferred HKF.out, ?_⟩⟩
    have q12 := HQ12.out
    have q13 := HQ13.out
    exact ⟨.tuple #[.slice (some ⟨gx, 0, none⟩) LX cx, .slice (some ⟨gy, 0, none⟩) LY cy, .bool true], by simp [results, Tryd.results25, go_sem, q12, q13], _, _, _, rfl, HKM.out, HKE.out, HH.out.ne, HX2.out.2, HY2.out.2, HBP.out⟩
  case done =>
    rintro D W hD ⟨gx, cx, LX, gy, cy, LY, pa, L, C, qa, L', C', h⟩ hK
    have hKe := HRT.out
    have hKm : mrows m ≤ mrows m := Nat.le_refl _
    have hDW : D < W.heap.size := (Array.getElem?_eq_some_iff.1 hK).1
    have c12 := h.c12.cell (i := 0) rfl
    have f12 := h.c12.frozen (i := 0) (by simp)
    have c13 := h.c13.cell (i := 0) rfl
    have f13 := h.c13.frozen (i := 0) (by simp)
    have HH := Lib.hid h
    have HKE := Lib.hid hKe
    have HKM := Lib.hid hKm
    have HK := Lib.hid hK
    clear h hKe hKm hK
    go_wp2_with fail
    refine wp_region_ends (fun W' => Low W.heap.size [w.heap.size + 2, w.heap.size + 3] W W' ∧ Arr W' (w.heap.size + 2) [.slice (some ⟨gx, 0, none⟩) LX cx] ∧ Arr W' (w.heap.size + 3) [.slice (some ⟨gy, 0, none⟩) LY cy]) (by kernel_rfl) (⟨(Low.refl _ _ _).drew, HH.out.c12.drew, HH.out.c13.drew⟩) (fun KR hKR hHeld => ?_)
    refine wpAnyH_take (i := 0) (oi := c25e0) (v := ?_) rfl (by kernel_rfl) (by kernel_rfl) (by kernel_rfl) (fun _ _ _ h => h) (Or.inl ⟨by rfl, ?_⟩) hHeld ?_
    rotate_left
    · (intro w hSw; have f1 := hSw.2.1.cell (i := 0) rfl; have f2 := hSw.2.2.cell (i := 0) rfl; unfold c25e0; go_simp <;> with_reducible rfl)
    try simp only [c25e0, Act.put, List.setIfInBounds_toArray, List.set_cons_zero, List.set_cons_succ]
    refine wpAnyH_take (i := 1) (oi := c25e1) (v := ?_) rfl (by kernel_rfl) (by kernel_rfl) (by kernel_rfl) (fun _ _ _ h => h) (Or.inl ⟨by rfl, ?_⟩) hHeld ?_
    rotate_left
    · (intro w hSw; have f1 := hSw.2.1.cell (i := 0) rfl; have f2 := hSw.2.2.cell (i := 0) rfl; unfold c25e1; go_simp <;> with_reducible rfl)
    try simp only [c25e1, Act.put, List.setIfInBounds_toArray, List.set_cons_zero, List.set_cons_succ]
    refine wpAnyH_ready (rs := [2]) (by kernel_rfl) (by simp) ?_
    refine AllReadyH.cons (o := c25e2) rfl (fun K hK => ?_) AllReadyH.nil
    rw [if_pos (by rfl)]
    have f1 := hHeld.2.1.cell (i := 0) rfl
    have f2 := hHeld.2.1.frozen (i := 0) (by simp)
    have hS2 : _ ∧ _ ∧ _ := ⟨hHeld.1.set (Nat.le_refl _) (by simp) hHeld.2.1 (by simp) 0 (.slice (some ⟨gx, 0, none⟩) LX cx), hHeld.2.1.set 0 (.slice (some ⟨gx, 0, none⟩) LX cx), hHeld.2.2.other (show w.heap.size + 3 ≠ w.heap.size + 2 by omega) 0 (.slice (some ⟨gx, 0, none⟩) LX cx)⟩
    unfold c25e2
    go_simp
    refine hK.out _ _ hS2 (fun hHeld => ?_)
    clear hK K
    try simp only [c25e2, Act.put]
    refine wpAnyH_ready (rs := [3]) (by kernel_rfl) (by simp) ?_
    refine AllReadyH.cons (o := c25e3) rfl (fun K hK => ?_) AllReadyH.nil
    rw [if_pos (by rfl)]
    have f1 := hHeld.2.2.cell (i := 0) rfl
    have f2 := hHeld.2.2.frozen (i := 0) (by simp)
    have hS3 : _ ∧ _ ∧ _ := ⟨hHeld.1.set (Nat.le_refl _) (by simp) hHeld.2.2 (by simp) 0 (.slice (some ⟨gy, 0, none⟩) LY cy), hHeld.2.1.other (show w.heap.size + 2 ≠ w.heap.size + 3 by omega) 0 (.slice (some ⟨gy, 0, none⟩) LY cy), hHeld.2.2.set 0 (.slice (some ⟨gy, 0, none⟩) LY cy)⟩
    unfold c25e3
    go_simp
    refine hK.out _ _ hS3 (fun hHeld => ?_)
    clear hK K
    try simp only [c25e3, Act.put]
    refine wpAnyH_take (i := 4) (oi := c25e4) (v := ?_) rfl (by kernel_rfl) (by kernel_rfl) (by kernel_rfl) (fun _ _ _ h => h) (Or.inl ⟨by rfl, ?_⟩) hHeld ?_
    rotate_left
    · (intro w hSw; (try dsimp only at hSw); unfold c25e4; go_simp <;> with_reducible rfl)
    try simp only [c25e4, Act.put, List.setIfInBounds_toArray, List.set_cons_zero, List.set_cons_succ]
    refine wpAnyH_done (by kernel_rfl) ?_ _
    refine hKR _ _ ?_
    have hA12 := hHeld.2.1
    have hA13 := hHeld.2.2
    obtain ⟨WF, hWF, hL⟩ : ∃ X, X = _ ∧ Low W.heap.size [w.heap.size + 2, w.heap.size + 3] W X := ⟨_, rfl, hHeld.1⟩
    rw [← hWF] at hA12 hA13 ⊢
    clear hHeld hS2 hS3 hWF
    have hsz := hL.size
    have hX := HH.out.x.low hL (by simp; omega)
    have hY := HH.out.y.low hL (by simp; omega)
    have hKF := hL.keep D _ HK.out rfl
    have hBF := HH.out.below.trans (hL.below (by have := HH.out.below.size; omega) (by simp))
    clear hL
    have hPF : Below w8.heap.size WF (WF.putObj D (.deferred none)) := (Below.refl _ WF).grown (grownBy_putObj' WF D _) (by have := HH.out.size; omega) (fun k e => by cases e; omega)
    have q12 : (WF.putObj D (.deferred none)).cell? ⟨w.heap.size + 1 + 1, 0, none⟩ = some (.slice (some ⟨gx, 0, none⟩) LX cx) := (hA12.below hPF (by omega)).cell (i := 0) rfl
    have q13 : (WF.putObj D (.deferred none)).cell? ⟨w.heap.size + 1 + 1 + 1, 0, none⟩ = some (.slice (some ⟨gy, 0, none⟩) LY cy) := (hA13.below hPF (by omega)).cell (i := 0) rfl
    have hX2 := hX.own (mtx_ne i m (leafT_ne a) p _) (grownBy_putObj' WF D (.deferred none)) (fun r e => by cases e; exact ⟨_, hKF, rfl⟩)
    have hY2 := hY.own (mtx_ne i m (leafT_ne b) q _) (grownBy_putObj' WF D (.deferred none)) (fun r e => by cases e; exact ⟨_, hKF, rfl⟩)
    have HQ12 := Lib.hid q12
    have HQ13 := Lib.hid q13
    have HX2 := Lib.hid hX2
    have HY2 := Lib.hid hY2
    have HKF := Lib.hid hKF
    have HBP := Lib.hid (hBF.trans (hPF.mono (by omega)))
    clear q12 q13 hX hY hX2 hY2 hKF hBF hPF hA12 hA13
    go_wp2
    rw [Exit.noGoto_ret]
    refine ⟨by simp, .inl ⟨_, _, rfl, run_takeDeferred HKF.out, ?_⟩⟩
    have q12 := HQ12.out
    have q13 := HQ13.out
    exact ⟨.tuple #[.slice (some ⟨gx, 0, none⟩) LX cx, .slice (some ⟨gy, 0, none⟩) LY cy, .bool true], by simp [results, Tryd.results25, go_sem, q12, q13], _, _, _, rfl, HKM.out, HKE.out, HH.out.ne, HX2.out.2, HY2.out.2, HBP.out⟩
  case body =>
    rintro lp k a' W hk ⟨gx, cx, LX, gy, cy, LY, pa, L, C, qa, L', C', h⟩ ⟨g', rfl, hg', h9⟩ hsW
    have HH := Lib.hid h
    have H9 := Lib.hid h9
    have hB := h.below
    have hn8 := h.size
    have hp1 := h.p1
    have hp2 := h.p2
    have hp3 := h.p3
    have hq1 := h.q1
    have hq2 := h.q2
    have hq3 := h.q3
    have hple := mpos_le i k
    have hcl := mcnt_le i m k
    have hrl : mrows m ≤ 16 := mrows_le 16 m (by omega)
    have hml := HML.out k hk
    have hcn : mcnt i m (k + 1) = mcnt i m k + (if alone (mpos i k) (msz m k) then 0 else 1) := rfl
    have hma : mst i m (sha (leafT a)) p (k + 1) = if alone (mpos i k) (msz m k) then mst i m (sha (leafT a)) p k else sha (stepT (mpos i k) (mst i m (sha (leafT a)) p k) (p.getD (mcnt i m k) [])) := rfl
    have hmb : mst i m (sha (leafT b)) q (k + 1) = if alone (mpos i k) (msz m k) then mst i m (sha (leafT b)) q k else sha (stepT (mpos i k) (mst i m (sha (leafT b)) q k) (q.getD (mcnt i m k) [])) := rfl
    have hta : mtx i m (leafT a) (sha (leafT a)) p (k + 1) = if alone (mpos i k) (msz m k) then mtx i m (leafT a) (sha (leafT a)) p k else stepT (mpos i k) (mst i m (sha (leafT a)) p k) (p.getD (mcnt i m k) []) := rfl
    have htb : mtx i m (leafT b) (sha (leafT b)) q (k + 1) = if alone (mpos i k) (msz m k) then mtx i m (leafT b) (sha (leafT b)) q k else stepT (mpos i k) (mst i m (sha (leafT b)) q k) (q.getD (mcnt i m k) []) := rfl
    have hl1 := HLNA.out k
    have hl2 := HLNB.out k
    have hl3 := HLNA.out (k + 1)
    have hl4 := HLNB.out (k + 1)
    have heq := fun W : World => dig_eq (mst i m (sha (leafT a)) p k) (mst i m (sha (leafT b)) q k) hl1 hl2 W
    simp only [dv_eq] at heq
    have HDL1 : Hid ((cells8 (mst i m (sha (leafT a)) p k)).length = 32) := Lib.hid (by rw [cells8_len, hl1])
    have HDL2 : Hid ((cells8 (mst i m (sha (leafT b)) q k)).length = 32) := Lib.hid (by rw [cells8_len, hl2])
    have hc15 := h.c15
    have hc17 := h.c17
    have hlt9 := h9.lt (by simp)
    obtain ⟨da, hda⟩ : ∃ x, cells8 (mst i m (sha (leafT a)) p k) = x := ⟨_, rfl⟩
    obtain ⟨db, hdb⟩ : ∃ x, cells8 (mst i m (sha (leafT b)) q k) = x := ⟨_, rfl⟩
    rw [hda] at HDL1 hc15 heq
    rw [hdb] at HDL2 hc17 heq
    have HZ1 : Hid ((Tryd.prog.info? 30).map (·.size) = some da.length) := Lib.hid (by rw [HDL1.out]; exact Tryd.info30)
    have HZ2 : Hid ((Tryd.prog.info? 30).map (·.size) = some db.length) := Lib.hid (by rw [HDL2.out]; exact Tryd.info30)
    have H15 := Lib.hid hc15
    have H17 := Lib.hid hc17
    have HDA := Lib.hid hda
    have HDB := Lib.hid hdb
    have HBW := Lib.hid hB
    obtain ⟨B0, hB0⟩ : ∃ x, decide (mst i m (sha (leafT a)) p k = mst i m (sha (leafT b)) q k) = x := ⟨_, rfl⟩
    rw [hB0] at heq
    have HCN := Lib.hid hcn
    have HMA := Lib.hid hma
    have HMB := Lib.hid hmb
    have HTA := Lib.hid hta
    have HTB := Lib.hid htb
    clear h h9 hB hcn hma hmb hta htb hc15 hc17 hda hdb
    cases B0 with
    | true =>
      have hee : mst i m (sha (leafT a)) p k = mst i m (sha (leafT b)) q k := of_decide_eq_true hB0
      clear hB0
      gi_wp2_with (first
        | (refine wpListIn_load_mid rfl 30 (.tmp 15) (by rfl) W1.heap.size 0 (by rfl) da _ H15.out.at_ Tryd.underlying30 rfl HZ1.out ?_)
        | (refine wpListIn_load_mid rfl 30 (.tmp 17) (by rfl) W3.heap.size 0 (by rfl) db _ H17.out.at_ Tryd.underlying30 rfl HZ2.out ?_))
      exact ⟨KeepsFrom.refl _ _, rfl, k, _, _, _, _, _, _, _, _, _, _, _, _, Nat.le_of_lt hk, hee, HH.out⟩
    | false =>
      have hne : mst i m (sha (leafT a)) p k ≠ mst i m (sha (leafT b)) q k := of_decide_eq_false hB0
      have HNE : Hid (∀ j, j < k + 1 → mst i m (sha (leafT a)) p j ≠ mst i m (sha (leafT b)) q j) := Lib.hid fun j hj => by
        rcases Nat.lt_succ_iff_lt_or_eq.1 hj with h | rfl
        · exact HH.out.ne j h
        · exact hne
      clear hB0 hne
      have HAL := Lib.hid (alone_any W (mpos i k) (msz m k) (by omega))
      obtain ⟨B, hBB⟩ : ∃ B, alone (mpos i k) (msz m k) = B := ⟨_, rfl⟩
      rw [hBB] at HAL HCN HMA HMB HTA HTB
      have g0 : W.cell? ⟨g', 0, none⟩ = some (.int .i64 (mpos i k)) := H9.out.cell rfl
      have g1 : W.cell? ⟨g', 1, none⟩ = some (.int .i64 (msz m k)) := H9.out.cell rfl
      gi_wp2_with (first
        | (refine wpListIn_load_mid rfl 30 (.tmp 15) (by rfl) W1.heap.size 0 (by rfl) da _ H15.out.at_ Tryd.underlying30 rfl HZ1.out ?_)
        | (refine wpListIn_load_mid rfl 30 (.tmp 17) (by rfl) W3.heap.size 0 (by rfl) db _ H17.out.at_ Tryd.underlying30 rfl HZ2.out ?_))
      refine ⟨trivial, ?_⟩
      refine ((callsIn_wide.2 HAL.out).inRound lp).mono ?_
      rintro e U1 ⟨rfl, hb1⟩
      have hs1 := hb1.size
      have H11 := Lib.hid (HBW.out.trans (hb1.mono HBW.out.size))
      have HK1 := Lib.hid (KK.of (B := w8.heap.size) hb1)
      have HA10 := Lib.hid (HH.out.c10.below hb1 (by omega))
      have HA11 := Lib.hid (HH.out.c11.below hb1 (by omega))
      have HA12 := Lib.hid (HH.out.c12.below hb1 (by omega))
      have HA13 := Lib.hid (HH.out.c13.below hb1 (by omega))
      have HA15 := Lib.hid (H15.out.below hb1 (by omega))
      have HA17 := Lib.hid (H17.out.below hb1 (by omega))
      have HUX := Lib.hid (HH.out.x.below hb1)
      have HUY := Lib.hid (HH.out.y.below hb1)
      have HA9 := Lib.hid (H9.out.below hb1 hlt9)
      clear hb1 g0 g1 H15 H17 H9
      cases B with
      | true =>
        clear heq
        gi_wp2_with fail
        have e1 : mcnt i m (k + 1) = mcnt i m k := HCN.out
        refine ⟨HK1.out, trivial, _, _, _, _, _, _, _, _, _, _, _, _, H11.out, by omega, HA10.out, HA11.out, HA12.out, HA13.out, ?_, ?_, ?_, ?_, by rw [e1]; exact hp1, hp2, hp3, by rw [e1]; exact HH.out.p4, by rw [e1]; exact hq1, hq2, hq3, by rw [e1]; exact HH.out.q4, HNE.out⟩
        · rw [show mst i m (sha (leafT a)) p (k + 1) = mst i m (sha (leafT a)) p k from HMA.out, HDA.out]; exact HA15.out
        · rw [show mst i m (sha (leafT b)) q (k + 1) = mst i m (sha (leafT b)) q k from HMB.out, HDB.out]; exact HA17.out
        · rw [show mtx i m (leafT a) (sha (leafT a)) p (k + 1) = mtx i m (leafT a) (sha (leafT a)) p k from HTA.out]; exact HUX.out
        · rw [show mtx i m (leafT b) (sha (leafT b)) q (k + 1) = mtx i m (leafT b) (sha (leafT b)) q k from HTB.out]; exact HUY.out
      | false =>
        clear heq
        obtain ⟨c0, hc0⟩ : ∃ x, mcnt i m k = x := ⟨_, rfl⟩
        have e1 : mcnt i m (k + 1) = mcnt i m k + 1 := HCN.out
        have e2 : mst i m (sha (leafT a)) p (k + 1) = sha (stepT (mpos i k) (mst i m (sha (leafT a)) p k) (p.getD (mcnt i m k) [])) := HMA.out
        have e3 : mst i m (sha (leafT b)) q (k + 1) = sha (stepT (mpos i k) (mst i m (sha (leafT b)) q k) (q.getD (mcnt i m k) [])) := HMB.out
        have e4 : mtx i m (leafT a) (sha (leafT a)) p (k + 1) = stepT (mpos i k) (mst i m (sha (leafT a)) p k) (p.getD (mcnt i m k) []) := HTA.out
        have e5 : mtx i m (leafT b) (sha (leafT b)) q (k + 1) = stepT (mpos i k) (mst i m (sha (leafT b)) q k) (q.getD (mcnt i m k) []) := HTB.out
        have hp4 := HH.out.p4 (by omega)
        have hq4 := HH.out.q4 (by omega)
        rw [hc0] at e1 e2 e3 e4 e5 hp1 hq1 hp4 hq4 hcl
        rw [e1] at hml
        subst hp4
        subst hq4
        obtain ⟨hx1, hr1⟩ := HPR.out c0 (by omega)
        obtain ⟨hx2, hr2⟩ := HQR.out c0 (by omega)
        obtain ⟨xp, hxp⟩ : ∃ x, p.getD c0 [] = x := ⟨_, rfl⟩
        obtain ⟨xq, hxq⟩ : ∃ x, q.getD c0 [] = x := ⟨_, rfl⟩
        rw [hxp] at e2 e4 hx1 hr1
        rw [hxq] at e3 e5 hx2 hr2
        have HST1 : Hid (∀ W', Low U1.heap.size [w.heap.size + 2, w.heap.size + 3] U1 W' → Below w.heap.size w W') := Lib.hid fun W' hW => H11.out.trans (hW.below (by omega) (by simp))
        have HTXA := Lib.hid (fun W' (hW : Low U1.heap.size [w.heap.size + 2, w.heap.size + 3] U1 W') => stepText_new W' (mpos i k) (msz m k) (by omega) (mst i m (sha (leafT a)) p k) xp hl1 hx1 (HT.out.below (HST1.out W' hW) h0) (by have := (HST1.out W' hW).size; omega))
        have HTXB := Lib.hid (fun W' (hW : Low U1.heap.size [w.heap.size + 2, w.heap.size + 3] U1 W') => stepText_new W' (mpos i k) (msz m k) (by omega) (mst i m (sha (leafT b)) q k) xq hl2 hx2 (HT.out.below (HST1.out W' hW) h0) (by have := (HST1.out W' hW).size; omega))
        rw [HDA.out] at HTXA
        rw [HDB.out] at HTXB
        have hcp : (cells8 xp).length = 32 := by rw [cells8_len, hx1]
        have hcq : (cells8 xq).length = 32 := by rw [cells8_len, hx2]
        obtain ⟨cp, hcpe⟩ : ∃ x, cells8 xp = x := ⟨_, rfl⟩
        obtain ⟨cq, hcqe⟩ : ∃ x, cells8 xq = x := ⟨_, rfl⟩
        rw [hcpe] at HTXA hcp hr1
        rw [hcqe] at HTXB hcq hr2
        have HZP : Hid ((Tryd.prog.info? 30).map (·.size) = some cp.length) := Lib.hid (by rw [hcp]; exact Tryd.info30)
        have HZQ : Hid ((Tryd.prog.info? 30).map (·.size) = some cq.length) := Lib.hid (by rw [hcq]; exact Tryd.info30)
        have HT1L : Hid ((stepT (mpos i k) (mst i m (sha (leafT a)) p k) xp).length ≤ 1000) := Lib.hid (by rw [stepT_len, hl1, hx1]; omega)
        have HT2L : Hid ((stepT (mpos i k) (mst i m (sha (leafT b)) q k) xq).length ≤ 1000) := Lib.hid (by rw [stepT_len, hl2, hx2]; omega)
        have HT1N : Hid (stepT (mpos i k) (mst i m (sha (leafT a)) p k) xp ≠ []) := Lib.hid (stepT_ne _ _ _)
        have HT2N : Hid (stepT (mpos i k) (mst i m (sha (leafT b)) q k) xq ≠ []) := Lib.hid (stepT_ne _ _ _)
        obtain ⟨t1, ht1⟩ : ∃ x, stepT (mpos i k) (mst i m (sha (leafT a)) p k) xp = x := ⟨_, rfl⟩
        obtain ⟨t2, ht2⟩ : ∃ x, stepT (mpos i k) (mst i m (sha (leafT b)) q k) xq = x := ⟨_, rfl⟩
        rw [ht1] at e2 e4 HTXA HT1L HT1N
        rw [ht2] at e3 e5 HTXB HT2L HT2N
        obtain ⟨d1, hd1⟩ : ∃ x, mst i m (sha (leafT a)) p (k + 1) = x := ⟨_, rfl⟩
        obtain ⟨d2, hd2⟩ : ∃ x, mst i m (sha (leafT b)) q (k + 1) = x := ⟨_, rfl⟩
        have HDA1 := Lib.hid hd1
        have HDB1 := Lib.hid hd2
        have HTA1 := Lib.hid e4
        have HTB1 := Lib.hid e5
        rw [hd1] at e2 hl3
        rw [hd2] at e3 hl4
        have HD1 := Lib.hid e2
        have HD2 := Lib.hid e3
        have HD1L := Lib.hid hl3
        have HD2L := Lib.hid hl4
        have HMC1 := Lib.hid e1
        have AX : Hid (∀ W', Low U1.heap.size [w.heap.size + 2, w.heap.size + 3] U1 W' → W'.rangeAt g' 0 [.int .i64 (mpos i k), .int .i64 (msz m k)]) := Lib.hid fun W' hW => (hW.arr HA9.out (by omega) (by simp; omega)).at_
        have A15 : Hid (∀ W', Low U1.heap.size [w.heap.size + 2, w.heap.size + 3] U1 W' → W'.rangeAt W1.heap.size 0 da) := Lib.hid fun W' hW => (hW.arr HA15.out (by omega) (by simp; omega)).at_
        have A17 : Hid (∀ W', Low U1.heap.size [w.heap.size + 2, w.heap.size + 3] U1 W' → W'.rangeAt W3.heap.size 0 db) := Lib.hid fun W' hW => (hW.arr HA17.out (by omega) (by simp; omega)).at_
        have P10 : Hid (∀ W', Low U1.heap.size [w.heap.size + 2, w.heap.size + 3] U1 W' → W'.cell? ⟨w.heap.size, 0, none⟩ = some (.slice (some ⟨pb, poff + c0 * 32, none⟩) L C)) := Lib.hid fun W' hW => (hW.arr HA10.out (by omega) (by simp)).cell (i := 0) (by rw [← hc0]; rfl)
        have P11 : Hid (∀ W', Low U1.heap.size [w.heap.size + 2, w.heap.size + 3] U1 W' → W'.cell? ⟨w.heap.size + 1, 0, none⟩ = some (.slice (some ⟨qb, qoff + c0 * 32, none⟩) L' C')) := Lib.hid fun W' hW => (hW.arr HA11.out (by omega) (by simp)).cell (i := 0) (by rw [← hc0]; rfl)
        have AP : Hid (∀ W', Low U1.heap.size [w.heap.size + 2, w.heap.size + 3] U1 W' → W'.rangeAt pb (poff + c0 * 32) cp) := Lib.hid fun W' hW j v hv => ((HST1.out W' hW).cell (p := ⟨pb, poff + c0 * 32 + j, none⟩) hpb).trans (hr1 j v hv)
        have AQ : Hid (∀ W', Low U1.heap.size [w.heap.size + 2, w.heap.size + 3] U1 W' → W'.rangeAt qb (qoff + c0 * 32) cq) := Lib.hid fun W' hW j v hv => ((HST1.out W' hW).cell (p := ⟨qb, qoff + c0 * 32 + j, none⟩) hqb).trans (hr2 j v hv)
        have q1 : (0 : Int) < (L : Int) := by omega
        have q2 : decide ((0 : Int) < (L : Int)) = true := by simp; omega
        have q5 : 0 < L := by omega
        have q6 : 0 < L' := by omega
        have q3 : (0 : Int) < (L' : Int) := by omega
        have q4 : decide ((0 : Int) < (L' : Int)) = true := by simp; omega
        have hA12 := HA12.out.drew
        have hA13 := HA13.out.drew
        clear e1 e2 e3 e4 e5 hr1 hr2 hxp hxq hcp hcq hcpe hcqe ht1 ht2 hd1 hd2 hl1 hl2 hl3 hl4 hx1 hx2 HUX HUY HCN HMA HMB HTA HTB
        gi_wp2_with fail
        refine wpIn_region_round (Low U1.heap.size [w.heap.size + 2, w.heap.size + 3] U1) (by kernel_rfl) (by kernel_rfl) (Low.drew (Low.refl _ _ _)) (fun KR hKR hHeld => ?_)
        refine wpAnyH_take (i := 0) (oi := c25b0) rfl (by kernel_rfl) (by kernel_rfl) (by kernel_rfl) (fun _ _ _ h => h) (yieldsIf_load_mid (by rfl) 65 (.tmp 19) (by rfl) g' 0 (by rfl) [.int .i64 (mpos i k), .int .i64 (msz m k)] _ (fun w hSw => AX.out w hSw) Tryd.underlying65 rfl Tryd.info65) hHeld ?_
        try simp only [c25b0, Act.put, List.setIfInBounds_toArray, List.set_cons_zero, List.set_cons_succ]
        refine wpAnyH_take (i := 1) (oi := c25b1) rfl (by kernel_rfl) (by kernel_rfl) (by kernel_rfl) (fun _ _ _ h => h) (yieldsIf_load_mid (by rfl) 30 (.tmp 15) (by rfl) W1.heap.size 0 (by rfl) da _ (fun w hSw => A15.out w hSw) Tryd.underlying30 rfl HZ1.out) hHeld ?_
        try simp only [c25b1, Act.put, List.setIfInBounds_toArray, List.set_cons_zero, List.set_cons_succ]
        refine wpAnyH_take (i := 2) (oi := c25b2) (v := ?_) rfl (by kernel_rfl) (by kernel_rfl) (by kernel_rfl) (fun _ _ _ h => h) (Or.inl ⟨by rfl, ?_⟩) hHeld ?_
        rotate_left
        · (intro w hSw; have f1 := P10.out w hSw; have f2 := P11.out w hSw; unfold c25b2; go_simp <;> with_reducible rfl)
        try simp only [c25b2, Act.put, List.setIfInBounds_toArray, List.set_cons_zero, List.set_cons_succ]
        refine wpAnyH_take (i := 3) (oi := c25b3) (v := ?_) rfl (by kernel_rfl) (by kernel_rfl) (by kernel_rfl) (fun _ _ _ h => h) (Or.inl ⟨by rfl, ?_⟩) hHeld ?_
        rotate_left
        · (intro w hSw; (try dsimp only at hSw); unfold c25b3; go_simp <;> with_reducible rfl)
        try simp only [c25b3, Act.put, List.setIfInBounds_toArray, List.set_cons_zero, List.set_cons_succ]
        refine wpAnyH_take (i := 4) (oi := c25b4) rfl (by kernel_rfl) (by kernel_rfl) (by kernel_rfl) (fun _ _ _ h => h) (yieldsIf_load_mid (by rfl) 30 (.tmp 75) (by rfl) pb (poff + c0 * 32) (by rfl) cp _ (fun w hSw => AP.out w hSw) Tryd.underlying30 rfl HZP.out) hHeld ?_
        try simp only [c25b4, Act.put, List.setIfInBounds_toArray, List.set_cons_zero, List.set_cons_succ]
        refine wpAnyH_take (i := 6) (oi := c25b6) rfl (by kernel_rfl) (by kernel_rfl) (by kernel_rfl) (fun _ _ _ h => h) (yieldsIf_load_mid (by rfl) 65 (.tmp 19) (by rfl) g' 0 (by rfl) [.int .i64 (mpos i k), .int .i64 (msz m k)] _ (fun w hSw => AX.out w hSw) Tryd.underlying65 rfl Tryd.info65) hHeld ?_
        try simp only [c25b6, Act.put, List.setIfInBounds_toArray, List.set_cons_zero, List.set_cons_succ]
        refine wpAnyH_take (i := 7) (oi := c25b7) rfl (by kernel_rfl) (by kernel_rfl) (by kernel_rfl) (fun _ _ _ h => h) (yieldsIf_load_mid (by rfl) 30 (.tmp 17) (by rfl) W3.heap.size 0 (by rfl) db _ (fun w hSw => A17.out w hSw) Tryd.underlying30 rfl HZ2.out) hHeld ?_
        try simp only [c25b7, Act.put, List.setIfInBounds_toArray, List.set_cons_zero, List.set_cons_succ]
        refine wpAnyH_take (i := 8) (oi := c25b8) (v := ?_) rfl (by kernel_rfl) (by kernel_rfl) (by kernel_rfl) (fun _ _ _ h => h) (Or.inl ⟨by rfl, ?_⟩) hHeld ?_
        rotate_left
        · (intro w hSw; have f1 := P10.out w hSw; have f2 := P11.out w hSw; unfold c25b8; go_simp <;> with_reducible rfl)
        try simp only [c25b8, Act.put, List.setIfInBounds_toArray, List.set_cons_zero, List.set_cons_succ]
        refine wpAnyH_take (i := 9) (oi := c25b9) (v := ?_) rfl (by kernel_rfl) (by kernel_rfl) (by kernel_rfl) (fun _ _ _ h => h) (Or.inl ⟨by rfl, ?_⟩) hHeld ?_
        rotate_left
        · (intro w hSw; (try dsimp only at hSw); unfold c25b9; go_simp <;> with_reducible rfl)
        try simp only [c25b9, Act.put, List.setIfInBounds_toArray, List.set_cons_zero, List.set_cons_succ]
        refine wpAnyH_take (i := 10) (oi := c25b10) rfl (by kernel_rfl) (by kernel_rfl) (by kernel_rfl) (fun _ _ _ h => h) (yieldsIf_load_mid (by rfl) 30 (.tmp 81) (by rfl) qb (qoff + c0 * 32) (by rfl) cq _ (fun w hSw => AQ.out w hSw) Tryd.underlying30 rfl HZQ.out) hHeld ?_
        try simp only [c25b10, Act.put, List.setIfInBounds_toArray, List.set_cons_zero, List.set_cons_succ]
        refine wpAnyH_ready (rs := [5]) (by kernel_rfl) (by simp) ?_
        refine AllReadyH.cons (o := c25b5) rfl (fun K hK => ?_) AllReadyH.nil
        rw [if_pos (by rfl)]
        unfold c25b5
        go_simp
        (with_reducible refine (HTXA.out _ hHeld).mono ?_)
        rintro e X5 ⟨v5, rfl, hx5, hb5⟩
        obtain ⟨ghx5, chx5, rfl⟩ := hx5.head
        obtain ⟨Lhx5, hLhx5⟩ : ∃ x, t1.length = x := ⟨_, rfl⟩
        rw [hLhx5] at hx5 ⊢
        replace hx5 := hx5.mono (show W5.heap.size ≤ _ from by have := hHeld.size; omega)
        replace hA12 := hA12.below hb5 (by have := hHeld.size; omega)
        replace hA13 := hA13.below hb5 (by have := hHeld.size; omega)
        replace hHeld := hHeld.next hb5 (Nat.le_refl _)
        clear hb5 hLhx5
        go_wp2_with fail
        refine hK.out _ _ hHeld (fun hHeld => ?_)
        clear hK K
        try simp only [c25b5, Act.put, List.setIfInBounds_toArray, List.set_cons_zero, List.set_cons_succ]
        refine wpAnyH_ready (rs := [11]) (by kernel_rfl) (by simp) ?_
        refine AllReadyH.cons (o := c25b11) rfl (fun K hK => ?_) AllReadyH.nil
        rw [if_pos (by rfl)]
        unfold c25b11
        go_simp
        (with_reducible refine (HTXB.out _ hHeld).mono ?_)
        rintro e X11 ⟨v11, rfl, hy11, hb11⟩
        obtain ⟨ghy11, chy11, rfl⟩ := hy11.head
        obtain ⟨Lhy11, hLhy11⟩ : ∃ x, t2.length = x := ⟨_, rfl⟩
        rw [hLhy11] at hy11 ⊢
        replace hy11 := hy11.mono (show W5.heap.size ≤ _ from by have := hHeld.size; omega)
        replace hx5 := hx5.below hb11
        replace hA12 := hA12.below hb11 (by have := hHeld.size; omega)
        replace hA13 := hA13.below hb11 (by have := hHeld.size; omega)
        replace hHeld := hHeld.next hb11 (Nat.le_refl _)
        clear hb11 hLhy11
        go_wp2_with fail
        refine hK.out _ _ hHeld (fun hHeld => ?_)
        clear hK K
        try simp only [c25b11, Act.put, List.setIfInBounds_toArray, List.set_cons_zero, List.set_cons_succ]
        refine wpAnyH_ready (rs := [12]) (by kernel_rfl) (by simp) ?_
        refine AllReadyH.cons (o := c25b12) rfl (fun K hK => ?_) AllReadyH.nil
        rw [if_pos (by rfl)]
        have f1 := hA12.cell (i := 0) rfl
        have f2 := hA12.frozen (i := 0) (by simp)
        have hS := hHeld.set (Nat.le_refl _) (by simp) hA12 (by simp) 0 (.slice (some ⟨ghx5, 0, none⟩) Lhx5 chx5)
        have hAn := hA12.set 0 (.slice (some ⟨ghx5, 0, none⟩) Lhx5 chx5)
        have hOn := hA13.other (show w.heap.size + 3 ≠ w.heap.size + 2 by omega) 0 (.slice (some ⟨ghx5, 0, none⟩) Lhx5 chx5)
        have hxn := hx5.kept (grown_setCell (b := w.heap.size + 2) 0 (.slice (some ⟨ghx5, 0, none⟩) Lhx5 chx5)) (fun k e => by cases e; omega)
        have hyn := hy11.kept (grown_setCell (b := w.heap.size + 2) 0 (.slice (some ⟨ghx5, 0, none⟩) Lhx5 chx5)) (fun k e => by cases e; omega)
        clear hA12 hA13
        unfold c25b12
        go_simp
        refine hK.out _ _ hS (fun hHeld => ?_)
        have hA12 := hAn
        have hA13 := hOn
        clear hx5 hy11
        have hx5 := hxn
        have hy11 := hyn
        clear hxn hyn
        clear hAn hOn hS f1 f2
        clear hK K
        try simp only [c25b12, Act.put]
        refine wpAnyH_ready (rs := [13]) (by kernel_rfl) (by simp) ?_
        refine AllReadyH.cons (o := c25b13) rfl (fun K hK => ?_) AllReadyH.nil
        rw [if_pos (by rfl)]
        have f1 := hA13.cell (i := 0) rfl
        have f2 := hA13.frozen (i := 0) (by simp)
        have hS := hHeld.set (Nat.le_refl _) (by simp) hA13 (by simp) 0 (.slice (some ⟨ghy11, 0, none⟩) Lhy11 chy11)
        have hAn := hA13.set 0 (.slice (some ⟨ghy11, 0, none⟩) Lhy11 chy11)
        have hOn := hA12.other (show w.heap.size + 2 ≠ w.heap.size + 3 by omega) 0 (.slice (some ⟨ghy11, 0, none⟩) Lhy11 chy11)
        have hxn := hx5.kept (grown_setCell (b := w.heap.size + 3) 0 (.slice (some ⟨ghy11, 0, none⟩) Lhy11 chy11)) (fun k e => by cases e; omega)
        have hyn := hy11.kept (grown_setCell (b := w.heap.size + 3) 0 (.slice (some ⟨ghy11, 0, none⟩) Lhy11 chy11)) (fun k e => by cases e; omega)
        clear hA13 hA12
        unfold c25b13
        go_simp
        refine hK.out _ _ hS (fun hHeld => ?_)
        have hA13 := hAn
        have hA12 := hOn
        clear hx5 hy11
        have hx5 := hxn
        have hy11 := hyn
        clear hxn hyn
        clear hAn hOn hS f1 f2
        clear hK K
        try simp only [c25b13, Act.put]
        refine wpAnyH_done (by kernel_rfl) ?_ _
        refine hKR _ _ ?_
        obtain ⟨U2, hU2, hL2⟩ : ∃ X, X = _ ∧ Low U1.heap.size [w.heap.size + 2, w.heap.size + 3] U1 X := ⟨_, rfl, hHeld⟩
        rw [← hU2] at hA12 hA13 hx5 hy11 ⊢
        clear hHeld hU2
        have hs2 := hL2.size
        have E10 := hL2.arr HA10.out (by omega) (by simp)
        have E11 := hL2.arr HA11.out (by omega) (by simp)
        have E15 := hL2.arr HA15.out (by omega) (by simp; omega)
        have E17 := hL2.arr HA17.out (by omega) (by simp; omega)
        have EB := H11.out.trans (hL2.below (by omega) (by simp))
        have HKF2 := Lib.hid (HK1.out.trans (hL2.keeps w8.heap.size))
        have HEX := Lib.hid hx5
        have HEY := Lib.hid hy11
        have HE12 := Lib.hid hA12
        have HE13 := Lib.hid hA13
        have HE10 := Lib.hid E10
        have HE11 := Lib.hid E11
        have HEB := Lib.hid EB
        have HSA : Hid (∀ W', Low U2.heap.size [W1.heap.size, W3.heap.size] U2 W' → Calls Tryd.prog 27 #[.slice (some ⟨ghx5, 0, none⟩) Lhx5 chx5] W' fun e w' => e = .returned (.agg (cells8 d1).toArray) ∧ Below W'.heap.size W' w') := Lib.hid fun W' hW => by
          have h := sum_any W' (.slice (some ⟨ghx5, 0, none⟩) Lhx5 chx5) t1 (row_of (HEX.out.low hW (by simp; omega)).2 HT1N.out) (by have := HT1L.out; omega) (HT.out.below (HEB.out.trans (hW.below (by omega) (by simp; omega))) h0) (by have := hW.size; omega)
          rw [HD1.out, ← dv_eq]
          exact h
        have HSB : Hid (∀ W', Low U2.heap.size [W1.heap.size, W3.heap.size] U2 W' → Calls Tryd.prog 27 #[.slice (some ⟨ghy11, 0, none⟩) Lhy11 chy11] W' fun e w' => e = .returned (.agg (cells8 d2).toArray) ∧ Below W'.heap.size W' w') := Lib.hid fun W' hW => by
          have h := sum_any W' (.slice (some ⟨ghy11, 0, none⟩) Lhy11 chy11) t2 (row_of (HEY.out.low hW (by simp; omega)).2 HT2N.out) (by have := HT2L.out; omega) (HT.out.below (HEB.out.trans (hW.below (by omega) (by simp; omega))) h0) (by have := hW.size; omega)
          rw [HD2.out, ← dv_eq]
          exact h
        obtain ⟨fa, hfa⟩ : ∃ x, cells8 d1 = x := ⟨_, rfl⟩
        obtain ⟨fb, hfb⟩ : ∃ x, cells8 d2 = x := ⟨_, rfl⟩
        have HFL1 : Hid (fa.length = 32) := Lib.hid (by rw [← hfa, cells8_len, HD1L.out])
        have HFL2 : Hid (fb.length = 32) := Lib.hid (by rw [← hfb, cells8_len, HD2L.out])
        have HFO1 : Hid (∀ v ∈ fa, v.oneCell' = true) := Lib.hid (by rw [← hfa]; exact one_cells8 _)
        have HFO2 : Hid (∀ v ∈ fb, v.oneCell' = true) := Lib.hid (by rw [← hfb]; exact one_cells8 _)
        have HFZ1 : Hid ((Tryd.prog.info? 30).map (·.size) = some fa.length) := Lib.hid (by rw [HFL1.out]; exact Tryd.info30)
        have HFZ2 : Hid ((Tryd.prog.info? 30).map (·.size) = some fb.length) := Lib.hid (by rw [HFL2.out]; exact Tryd.info30)
        rw [hfa] at HSA
        rw [hfb] at HSB
        have HFA := Lib.hid hfa
        have HFB := Lib.hid hfb
        have Q12 : Hid (∀ W', Low U2.heap.size [W1.heap.size, W3.heap.size] U2 W' → W'.cell? ⟨w.heap.size + 1 + 1, 0, none⟩ = some (.slice (some ⟨ghx5, 0, none⟩) Lhx5 chx5)) := Lib.hid fun W' hW => (hW.arr HE12.out (by omega) (by simp; omega)).cell (i := 0) rfl
        have Q13 : Hid (∀ W', Low U2.heap.size [W1.heap.size, W3.heap.size] U2 W' → W'.cell? ⟨w.heap.size + 1 + 1 + 1, 0, none⟩ = some (.slice (some ⟨ghy11, 0, none⟩) Lhy11 chy11)) := Lib.hid fun W' hW => (hW.arr HE13.out (by omega) (by simp; omega)).cell (i := 0) rfl
        have hA15 := E15.drew
        have hA17 := E17.drew
        have hu15 : W1.heap.size < U2.heap.size := by omega
        have hu17 : W3.heap.size < U2.heap.size := by omega
        clear hL2 E10 E11 E15 E17 EB hx5 hy11 hA12 hA13 hfa hfb
        gi_wp2_with fail
        refine wpIn_region_round (Low U2.heap.size [W1.heap.size, W3.heap.size] U2) (by kernel_rfl) (by kernel_rfl) (Low.drew (Low.refl _ _ _)) (fun KR hKR hHeld => ?_)
        refine wpAnyH_take (i := 0) (oi := c25c0) (v := ?_) rfl (by kernel_rfl) (by kernel_rfl) (by kernel_rfl) (fun _ _ _ h => h) (Or.inl ⟨by rfl, ?_⟩) hHeld ?_
        rotate_left
        · (intro w hSw; have f1 := Q12.out w hSw; have f2 := Q13.out w hSw; unfold c25c0; go_simp <;> with_reducible rfl)
        try simp only [c25c0, Act.put, List.setIfInBounds_toArray, List.set_cons_zero, List.set_cons_succ]
        refine wpAnyH_take (i := 2) (oi := c25c2) (v := ?_) rfl (by kernel_rfl) (by kernel_rfl) (by kernel_rfl) (fun _ _ _ h => h) (Or.inl ⟨by rfl, ?_⟩) hHeld ?_
        rotate_left
        · (intro w hSw; have f1 := Q12.out w hSw; have f2 := Q13.out w hSw; unfold c25c2; go_simp <;> with_reducible rfl)
        try simp only [c25c2, Act.put, List.setIfInBounds_toArray, List.set_cons_zero, List.set_cons_succ]
        refine wpAnyH_ready (rs := [1]) (by kernel_rfl) (by simp) ?_
        refine AllReadyH.cons (o := c25c1) rfl (fun K hK => ?_) AllReadyH.nil
        rw [if_pos (by rfl)]
        unfold c25c1
        go_simp
        (with_reducible refine (HSA.out _ hHeld).mono ?_)
        rintro e Y1 ⟨rfl, hb1⟩
        replace hA15 := hA15.below hb1 (by have := hHeld.size; omega)
        replace hA17 := hA17.below hb1 (by have := hHeld.size; omega)
        replace hHeld := hHeld.next hb1 (Nat.le_refl _)
        go_wp2_with fail
        refine hK.out _ _ hHeld (fun hHeld => ?_)
        clear hK K
        try simp only [c25c1, Act.put, List.setIfInBounds_toArray, List.set_cons_zero, List.set_cons_succ]
        refine wpAnyH_ready (rs := [3]) (by kernel_rfl) (by simp) ?_
        refine AllReadyH.cons (o := c25c3) rfl (fun K hK => ?_) AllReadyH.nil
        rw [if_pos (by rfl)]
        unfold c25c3
        go_simp
        (with_reducible refine (HSB.out _ hHeld).mono ?_)
        rintro e Y3 ⟨rfl, hb3⟩
        replace hA15 := hA15.below hb3 (by have := hHeld.size; omega)
        replace hA17 := hA17.below hb3 (by have := hHeld.size; omega)
        replace hHeld := hHeld.next hb3 (Nat.le_refl _)
        go_wp2_with fail
        refine hK.out _ _ hHeld (fun hHeld => ?_)
        clear hK K
        try simp only [c25c3, Act.put, List.setIfInBounds_toArray, List.set_cons_zero, List.set_cons_succ]
        refine wpAnyH_ready (rs := [4]) (by kernel_rfl) (by simp) ?_
        refine AllReadyH.cons (o := c25c4) rfl (fun K hK => ?_) AllReadyH.nil
        rw [if_pos (by rfl)]
        refine wp_st26 (.tmp 15) (.tmp 85) (by rfl) W1.heap.size fa _ (by rfl) (by rfl) hA15 (by rw [HFL1.out, HDL1.out]) HFZ1.out HFO1.out ?_
        intro Z4 hG4 hB4
        replace hA17 := hA17.moved hG4 (by have := hHeld.size; omega) (by simpa using HN57.out)
        have hO4 := hA15.obj (by rw [HDL1.out]; omega)
        replace hHeld := hHeld.moved hG4 (Nat.le_refl _) (fun k e => by cases e; exact ⟨.inl (by simp), hO4⟩)
        refine hK.out _ _ hHeld (fun hHeld => ?_)
        clear hK K
        try simp only [c25c4, Act.put]
        refine wpAnyH_ready (rs := [5]) (by kernel_rfl) (by simp) ?_
        refine AllReadyH.cons (o := c25c5) rfl (fun K hK => ?_) AllReadyH.nil
        rw [if_pos (by rfl)]
        refine wp_st26 (.tmp 17) (.tmp 87) (by rfl) W3.heap.size fb _ (by rfl) (by rfl) hA17 (by rw [HFL2.out, HDL2.out]) HFZ2.out HFO2.out ?_
        intro Z5 hG5 hB5
        replace hB4 := hB4.moved hG5 (by have := hHeld.size; omega) (by simpa using HN75.out)
        have hO5 := hA17.obj (by rw [HDL2.out]; omega)
        replace hHeld := hHeld.moved hG5 (Nat.le_refl _) (fun k e => by cases e; exact ⟨.inl (by simp), hO5⟩)
        refine hK.out _ _ hHeld (fun hHeld => ?_)
        clear hK K
        try simp only [c25c5, Act.put]
        refine wpAnyH_done (by kernel_rfl) ?_ _
        refine hKR _ _ ?_
        obtain ⟨U3, hU3, hL3⟩ : ∃ X, X = _ ∧ Low U2.heap.size [W1.heap.size, W3.heap.size] U2 X := ⟨_, rfl, hHeld⟩
        rw [← hU3] at hB4 hB5 ⊢
        clear hHeld hU3 hG4 hG5 hO4 hO5 hA15 hA17 hb1 hb3
        have hs3 := hL3.size
        have HN12 := Lib.hid (hL3.arr HE12.out (by omega) (by simp; omega))
        have HN13 := Lib.hid (hL3.arr HE13.out (by omega) (by simp; omega))
        have HN10 := Lib.hid (hL3.arr HE10.out (by omega) (by simp; omega))
        have HN11 := Lib.hid (hL3.arr HE11.out (by omega) (by simp; omega))
        have HNX := Lib.hid (HEX.out.low hL3 (by simp; omega))
        have HNY := Lib.hid (HEY.out.low hL3 (by simp; omega))
        have HNB := Lib.hid (HEB.out.trans (hL3.below (by omega) (by simp; omega)))
        have HNK := Lib.hid (HKF2.out.trans (hL3.keeps w8.heap.size))
        have HN15 := Lib.hid hB4
        have HN17 := Lib.hid hB5
        have HFIN : Hid (∀ Z A1 X1 A2 X2, Low U3.heap.size [w.heap.size, w.heap.size + 1] U3 Z → Arr Z w.heap.size [.slice A1 (L - 1) X1] → Arr Z (w.heap.size + 1) [.slice A2 (L' - 1) X2] → L - 1 ≤ X1 → X1 ≤ 9223372036854775807 → L' - 1 ≤ X2 → X2 ≤ 9223372036854775807 → (0 < L - 1 → A1 = some ⟨pb, poff + (c0 + 1) * 32, none⟩) → (0 < L' - 1 → A2 = some ⟨qb, qoff + (c0 + 1) * 32, none⟩) →
            KeepsFrom w8.heap.size W Z ∧ True ∧ ∃ gx cx LX gy cy LY pa L C qa L' C', ColI w w8.heap.size W5.heap.size W1.heap.size W3.heap.size i m P pb poff qb qoff a b p q (k + 1) Z (.slice (some ⟨gx, 0, none⟩) LX cx) (.slice (some ⟨gy, 0, none⟩) LY cy) pa L C qa L' C') := Lib.hid (by
          intro Z A1 X1 A2 X2 hZ h1 h2 h3 h4 h5 h6 h7 h8
          have hzs := hZ.size
          have e1 := HMC1.out
          refine ⟨HNK.out.trans (hZ.keeps _), trivial, _, _, _, _, _, _, _, _, _, _, _, _, HNB.out.trans (hZ.below (by omega) (by simp)), by omega, h1, h2, hZ.arr HN12.out (by omega) (by simp), hZ.arr HN13.out (by omega) (by simp), ?_, ?_, ?_, ?_, by omega, h3, h4, fun h => by rw [e1]; exact h7 h, by omega, h5, h6, fun h => by rw [e1]; exact h8 h, HNE.out⟩
          · rw [HDA1.out, HFA.out]; exact hZ.arr HN15.out (by omega) (by simp; omega)
          · rw [HDB1.out, HFB.out]; exact hZ.arr HN17.out (by omega) (by simp; omega)
          · rw [HTA1.out]; exact HNX.out.low hZ (by simp; omega)
          · rw [HTB1.out]; exact HNY.out.low hZ (by simp; omega))
        have hA10 := HN10.out.drew
        have hA11 := HN11.out.drew
        clear hL3 hB4 hB5
        gi_wp2_with fail
        by_cases hC : C = 1
        · obtain rfl : L = 1 := by omega
          subst hC
          by_cases hC2 : C' = 1
          · obtain rfl : L' = 1 := by omega
            subst hC2
            refine wpIn_region_round (Low U3.heap.size [w.heap.size, w.heap.size + 1] U3) (by kernel_rfl) (by kernel_rfl) (Low.drew (Low.refl _ _ _)) (fun KR hKR hHeld => ?_)
            obtain ⟨Ud, hUd, hLd⟩ : ∃ X, X = U3.drew ∧ Low U3.heap.size [w.heap.size, w.heap.size + 1] U3 X := ⟨_, rfl, hHeld⟩
            rw [← hUd] at hA10 hA11 ⊢
            clear hHeld hUd
            have hHeld := hLd
            clear hLd
            refine wpAnyH_ready (rs := [0, 2]) (by kernel_rfl) (by simp) ?_
            refine AllReadyH.cons (o := c25d0) rfl (fun K hK => ?_) (AllReadyH.cons (o := c25d2) rfl (fun K hK => ?_) AllReadyH.nil)
            · skip
              rw [if_pos (by rfl)]
              have f1 := hA10.cell (i := 0) rfl
              unfold c25d0
              go_simp
              refine hK.out _ _ hHeld (fun hHeld => ?_)
              clear hK K
              try simp only [c25d0, Act.put, List.setIfInBounds_toArray, List.set_cons_zero, List.set_cons_succ]
              refine wpAnyH_take (i := 1) (oi := c25d1) (v := ?_) rfl (by kernel_rfl) (by kernel_rfl) (by kernel_rfl) (fun _ _ _ h => h) (Or.inl ⟨by rfl, ?_⟩) hHeld ?_
              rotate_left
              · (intro w hSw; (try dsimp only at hSw); unfold c25d1; go_simp <;> with_reducible rfl)
              try simp only [c25d1, Act.put, List.setIfInBounds_toArray, List.set_cons_zero, List.set_cons_succ]
              refine wpAnyH_ready (rs := [2, 4]) (by kernel_rfl) (by simp) ?_
              refine AllReadyH.cons (o := c25d2) rfl (fun K hK => ?_) (AllReadyH.cons (o := c25d4) rfl (fun K hK => ?_) AllReadyH.nil)
              · skip
                rw [if_pos (by rfl)]
                have f1 := hA11.cell (i := 0) rfl
                unfold c25d2
                go_simp
                refine hK.out _ _ hHeld (fun hHeld => ?_)
                clear hK K
                try simp only [c25d2, Act.put, List.setIfInBounds_toArray, List.set_cons_zero, List.set_cons_succ]
                refine wpAnyH_take (i := 3) (oi := c25d3) (v := ?_) rfl (by kernel_rfl) (by kernel_rfl) (by kernel_rfl) (fun _ _ _ h => h) (Or.inl ⟨by rfl, ?_⟩) hHeld ?_
                rotate_left
                · (intro w hSw; (try dsimp only at hSw); unfold c25d3; go_simp <;> with_reducible rfl)
                try simp only [c25d3, Act.put, List.setIfInBounds_toArray, List.set_cons_zero, List.set_cons_succ]
                refine wpAnyH_ready (rs := [4]) (by kernel_rfl) (by simp) ?_
                refine AllReadyH.cons (o := c25d4) rfl (fun K hK => ?_) AllReadyH.nil
                rw [if_pos (by rfl)]
                have f1 := hA10.cell (i := 0) rfl
                have f2 := hA10.frozen (i := 0) (by simp)
                have hS := hHeld.set (Nat.le_refl _) (by simp) hA10 (by simp) 0 (.slice (some ⟨pb, poff + c0 * 32, none⟩) 0 0)
                have hAn := hA10.set 0 (.slice (some ⟨pb, poff + c0 * 32, none⟩) 0 0)
                have hOn := hA11.other (show w.heap.size + 1 ≠ w.heap.size by omega) 0 (.slice (some ⟨pb, poff + c0 * 32, none⟩) 0 0)
                clear hA10 hA11
                unfold c25d4
                go_simp
                refine hK.out _ _ hS (fun hHeld => ?_)
                have hA10 := hAn
                have hA11 := hOn
                clear hAn hOn hS f1 f2
                clear hK K
                try simp only [c25d4, Act.put]
                refine wpAnyH_ready (rs := [5]) (by kernel_rfl) (by simp) ?_
                refine AllReadyH.cons (o := c25d5) rfl (fun K hK => ?_) AllReadyH.nil
                rw [if_pos (by rfl)]
                have f1 := hA11.cell (i := 0) rfl
                have f2 := hA11.frozen (i := 0) (by simp)
                have hS := hHeld.set (Nat.le_refl _) (by simp) hA11 (by simp) 0 (.slice (some ⟨qb, qoff + c0 * 32, none⟩) 0 0)
                have hAn := hA11.set 0 (.slice (some ⟨qb, qoff + c0 * 32, none⟩) 0 0)
                have hOn := hA10.other (show w.heap.size ≠ w.heap.size + 1 by omega) 0 (.slice (some ⟨qb, qoff + c0 * 32, none⟩) 0 0)
                clear hA11 hA10
                unfold c25d5
                go_simp
                refine hK.out _ _ hS (fun hHeld => ?_)
                have hA11 := hAn
                have hA10 := hOn
                clear hAn hOn hS f1 f2
                clear hK K
                try simp only [c25d5, Act.put]
                refine wpAnyH_done (by kernel_rfl) ?_ _
                refine hKR _ _ ?_
                exact HFIN.out _ _ _ _ _ hHeld hA10 hA11 (by omega) (by omega) (by omega) (by omega) (fun h => by first | omega | (congr 2; omega)) (fun h => by first | omega | (congr 2; omega))
              · skip
                rw [if_pos (by rfl)]
                have f1 := hA10.cell (i := 0) rfl
                have f2 := hA10.frozen (i := 0) (by simp)
                have hS := hHeld.set (Nat.le_refl _) (by simp) hA10 (by simp) 0 (.slice (some ⟨pb, poff + c0 * 32, none⟩) 0 0)
                have hAn := hA10.set 0 (.slice (some ⟨pb, poff + c0 * 32, none⟩) 0 0)
                have hOn := hA11.other (show w.heap.size + 1 ≠ w.heap.size by omega) 0 (.slice (some ⟨pb, poff + c0 * 32, none⟩) 0 0)
                clear hA10 hA11
                unfold c25d4
                go_simp
                refine hK.out _ _ hS (fun hHeld => ?_)
                have hA10 := hAn
                have hA11 := hOn
                clear hAn hOn hS f1 f2
                clear hK K
                try simp only [c25d4, Act.put]
                refine wpAnyH_ready (rs := [2]) (by kernel_rfl) (by simp) ?_
                refine AllReadyH.cons (o := c25d2) rfl (fun K hK => ?_) AllReadyH.nil
                rw [if_pos (by rfl)]
                have f1 := hA11.cell (i := 0) rfl
                unfold c25d2
                go_simp
                refine hK.out _ _ hHeld (fun hHeld => ?_)
                clear hK K
                try simp only [c25d2, Act.put, List.setIfInBounds_toArray, List.set_cons_zero, List.set_cons_succ]
                refine wpAnyH_take (i := 3) (oi := c25d3) (v := ?_) rfl (by kernel_rfl) (by kernel_rfl) (by kernel_rfl) (fun _ _ _ h => h) (Or.inl ⟨by rfl, ?_⟩) hHeld ?_
                rotate_left
                · (intro w hSw; (try dsimp only at hSw); unfold c25d3; go_simp <;> with_reducible rfl)
                try simp only [c25d3, Act.put, List.setIfInBounds_toArray, List.set_cons_zero, List.set_cons_succ]
                refine wpAnyH_ready (rs := [5]) (by kernel_rfl) (by simp) ?_
                refine AllReadyH.cons (o := c25d5) rfl (fun K hK => ?_) AllReadyH.nil
                rw [if_pos (by rfl)]
                have f1 := hA11.cell (i := 0) rfl
                have f2 := hA11.frozen (i := 0) (by simp)
                have hS := hHeld.set (Nat.le_refl _) (by simp) hA11 (by simp) 0 (.slice (some ⟨qb, qoff + c0 * 32, none⟩) 0 0)
                have hAn := hA11.set 0 (.slice (some ⟨qb, qoff + c0 * 32, none⟩) 0 0)
                have hOn := hA10.other (show w.heap.size ≠ w.heap.size + 1 by omega) 0 (.slice (some ⟨qb, qoff + c0 * 32, none⟩) 0 0)
                clear hA11 hA10
                unfold c25d5
                go_simp
                refine hK.out _ _ hS (fun hHeld => ?_)
                have hA11 := hAn
                have hA10 := hOn
                clear hAn hOn hS f1 f2
                clear hK K
                try simp only [c25d5, Act.put]
                refine wpAnyH_done (by kernel_rfl) ?_ _
                refine hKR _ _ ?_
                exact HFIN.out _ _ _ _ _ hHeld hA10 hA11 (by omega) (by omega) (by omega) (by omega) (fun h => by first | omega | (congr 2; omega)) (fun h => by first | omega | (congr 2; omega))
            · skip
              rw [if_pos (by rfl)]
              have f1 := hA11.cell (i := 0) rfl
              unfold c25d2
              go_simp
              refine hK.out _ _ hHeld (fun hHeld => ?_)
              clear hK K
              try simp only [c25d2, Act.put, List.setIfInBounds_toArray, List.set_cons_zero, List.set_cons_succ]
              refine wpAnyH_take (i := 3) (oi := c25d3) (v := ?_) rfl (by kernel_rfl) (by kernel_rfl) (by kernel_rfl) (fun _ _ _ h => h) (Or.inl ⟨by rfl, ?_⟩) hHeld ?_
              rotate_left
              · (intro w hSw; (try dsimp only at hSw); unfold c25d3; go_simp <;> with_reducible rfl)
              try simp only [c25d3, Act.put, List.setIfInBounds_toArray, List.set_cons_zero, List.set_cons_succ]
              refine wpAnyH_ready (rs := [0]) (by kernel_rfl) (by simp) ?_
              refine AllReadyH.cons (o := c25d0) rfl (fun K hK => ?_) AllReadyH.nil
              rw [if_pos (by rfl)]
              have f1 := hA10.cell (i := 0) rfl
              unfold c25d0
              go_simp
              refine hK.out _ _ hHeld (fun hHeld => ?_)
              clear hK K
              try simp only [c25d0, Act.put, List.setIfInBounds_toArray, List.set_cons_zero, List.set_cons_succ]
              refine wpAnyH_take (i := 1) (oi := c25d1) (v := ?_) rfl (by kernel_rfl) (by kernel_rfl) (by kernel_rfl) (fun _ _ _ h => h) (Or.inl ⟨by rfl, ?_⟩) hHeld ?_
              rotate_left
              · (intro w hSw; (try dsimp only at hSw); unfold c25d1; go_simp <;> with_reducible rfl)
              try simp only [c25d1, Act.put, List.setIfInBounds_toArray, List.set_cons_zero, List.set_cons_succ]
              refine wpAnyH_ready (rs := [4]) (by kernel_rfl) (by simp) ?_
              refine AllReadyH.cons (o := c25d4) rfl (fun K hK => ?_) AllReadyH.nil
              rw [if_pos (by rfl)]
              have f1 := hA10.cell (i := 0) rfl
              have f2 := hA10.frozen (i := 0) (by simp)
              have hS := hHeld.set (Nat.le_refl _) (by simp) hA10 (by simp) 0 (.slice (some ⟨pb, poff + c0 * 32, none⟩) 0 0)
              have hAn := hA10.set 0 (.slice (some ⟨pb, poff + c0 * 32, none⟩) 0 0)
              have hOn := hA11.other (show w.heap.size + 1 ≠ w.heap.size by omega) 0 (.slice (some ⟨pb, poff + c0 * 32, none⟩) 0 0)
              clear hA10 hA11
              unfold c25d4
              go_simp
              refine hK.out _ _ hS (fun hHeld => ?_)
              have hA10 := hAn
              have hA11 := hOn
              clear hAn hOn hS f1 f2
              clear hK K
              try simp only [c25d4, Act.put]
              refine wpAnyH_ready (rs := [5]) (by kernel_rfl) (by simp) ?_
              refine AllReadyH.cons (o := c25d5) rfl (fun K hK => ?_) AllReadyH.nil
              rw [if_pos (by rfl)]
              have f1 := hA11.cell (i := 0) rfl
              have f2 := hA11.frozen (i := 0) (by simp)
              have hS := hHeld.set (Nat.le_refl _) (by simp) hA11 (by simp) 0 (.slice (some ⟨qb, qoff + c0 * 32, none⟩) 0 0)
              have hAn := hA11.set 0 (.slice (some ⟨qb, qoff + c0 * 32, none⟩) 0 0)
              have hOn := hA10.other (show w.heap.size ≠ w.heap.size + 1 by omega) 0 (.slice (some ⟨qb, qoff + c0 * 32, none⟩) 0 0)
              clear hA11 hA10
              unfold c25d5
              go_simp
              refine hK.out _ _ hS (fun hHeld => ?_)
              have hA11 := hAn
              have hA10 := hOn
              clear hAn hOn hS f1 f2
              clear hK K
              try simp only [c25d5, Act.put]
              refine wpAnyH_done (by kernel_rfl) ?_ _
              refine hKR _ _ ?_
              exact HFIN.out _ _ _ _ _ hHeld hA10 hA11 (by omega) (by omega) (by omega) (by omega) (fun h => by first | omega | (congr 2; omega)) (fun h => by first | omega | (congr 2; omega))
          · skip
            have s1 : (1 : Int) ≤ (L' : Int) := by omega
            have s2 : (1 : Int) ≤ (C' : Int) := by omega
            have s3 : 1 ≤ L' := by omega
            have s4 : 1 ≤ C' := by omega
            have s5 : (L' : Int) ≤ (C' : Int) := by omega
            have s6 : ¬ C' - 1 = 0 := by omega
            refine wpIn_region_round (Low U3.heap.size [w.heap.size, w.heap.size + 1] U3) (by kernel_rfl) (by kernel_rfl) (Low.drew (Low.refl _ _ _)) (fun KR hKR hHeld => ?_)
            obtain ⟨Ud, hUd, hLd⟩ : ∃ X, X = U3.drew ∧ Low U3.heap.size [w.heap.size, w.heap.size + 1] U3 X := ⟨_, rfl, hHeld⟩
            rw [← hUd] at hA10 hA11 ⊢
            clear hHeld hUd
            have hHeld := hLd
            clear hLd
            refine wpAnyH_ready (rs := [0, 2]) (by kernel_rfl) (by simp) ?_
            refine AllReadyH.cons (o := c25d0) rfl (fun K hK => ?_) (AllReadyH.cons (o := c25d2) rfl (fun K hK => ?_) AllReadyH.nil)
            · skip
              rw [if_pos (by rfl)]
              have f1 := hA10.cell (i := 0) rfl
              unfold c25d0
              go_simp
              refine hK.out _ _ hHeld (fun hHeld => ?_)
              clear hK K
              try simp only [c25d0, Act.put, List.setIfInBounds_toArray, List.set_cons_zero, List.set_cons_succ]
              refine wpAnyH_take (i := 1) (oi := c25d1) (v := ?_) rfl (by kernel_rfl) (by kernel_rfl) (by kernel_rfl) (fun _ _ _ h => h) (Or.inl ⟨by rfl, ?_⟩) hHeld ?_
              rotate_left
              · (intro w hSw; (try dsimp only at hSw); unfold c25d1; go_simp <;> with_reducible rfl)
              try simp only [c25d1, Act.put, List.setIfInBounds_toArray, List.set_cons_zero, List.set_cons_succ]
              refine wpAnyH_ready (rs := [2, 4]) (by kernel_rfl) (by simp) ?_
              refine AllReadyH.cons (o := c25d2) rfl (fun K hK => ?_) (AllReadyH.cons (o := c25d4) rfl (fun K hK => ?_) AllReadyH.nil)
              · skip
                rw [if_pos (by rfl)]
                have f1 := hA11.cell (i := 0) rfl
                unfold c25d2
                go_simp
                refine hK.out _ _ hHeld (fun hHeld => ?_)
                clear hK K
                try simp only [c25d2, Act.put, List.setIfInBounds_toArray, List.set_cons_zero, List.set_cons_succ]
                refine wpAnyH_take (i := 3) (oi := c25d3) (v := ?_) rfl (by kernel_rfl) (by kernel_rfl) (by kernel_rfl) (fun _ _ _ h => h) (Or.inl ⟨by rfl, ?_⟩) hHeld ?_
                rotate_left
                · (intro w hSw; (try dsimp only at hSw); unfold c25d3; go_simp <;> with_reducible rfl)
                try simp only [c25d3, Act.put, List.setIfInBounds_toArray, List.set_cons_zero, List.set_cons_succ]
                refine wpAnyH_ready (rs := [4]) (by kernel_rfl) (by simp) ?_
                refine AllReadyH.cons (o := c25d4) rfl (fun K hK => ?_) AllReadyH.nil
                rw [if_pos (by rfl)]
                have f1 := hA10.cell (i := 0) rfl
                have f2 := hA10.frozen (i := 0) (by simp)
                have hS := hHeld.set (Nat.le_refl _) (by simp) hA10 (by simp) 0 (.slice (some ⟨pb, poff + c0 * 32, none⟩) 0 0)
                have hAn := hA10.set 0 (.slice (some ⟨pb, poff + c0 * 32, none⟩) 0 0)
                have hOn := hA11.other (show w.heap.size + 1 ≠ w.heap.size by omega) 0 (.slice (some ⟨pb, poff + c0 * 32, none⟩) 0 0)
                clear hA10 hA11
                unfold c25d4
                go_simp
                refine hK.out _ _ hS (fun hHeld => ?_)
                have hA10 := hAn
                have hA11 := hOn
                clear hAn hOn hS f1 f2
                clear hK K
                try simp only [c25d4, Act.put]
                refine wpAnyH_ready (rs := [5]) (by kernel_rfl) (by simp) ?_
                refine AllReadyH.cons (o := c25d5) rfl (fun K hK => ?_) AllReadyH.nil
                rw [if_pos (by rfl)]
                have f1 := hA11.cell (i := 0) rfl
                have f2 := hA11.frozen (i := 0) (by simp)
                have hS := hHeld.set (Nat.le_refl _) (by simp) hA11 (by simp) 0 (.slice (some ⟨qb, qoff + c0 * 32 + 32, none⟩) (L' - 1) (C' - 1))
                have hAn := hA11.set 0 (.slice (some ⟨qb, qoff + c0 * 32 + 32, none⟩) (L' - 1) (C' - 1))
                have hOn := hA10.other (show w.heap.size ≠ w.heap.size + 1 by omega) 0 (.slice (some ⟨qb, qoff + c0 * 32 + 32, none⟩) (L' - 1) (C' - 1))
                clear hA11 hA10
                unfold c25d5
                go_simp
                refine hK.out _ _ hS (fun hHeld => ?_)
                have hA11 := hAn
                have hA10 := hOn
                clear hAn hOn hS f1 f2
                clear hK K
                try simp only [c25d5, Act.put]
                refine wpAnyH_done (by kernel_rfl) ?_ _
                refine hKR _ _ ?_
                exact HFIN.out _ _ _ _ _ hHeld hA10 hA11 (by omega) (by omega) (by omega) (by omega) (fun h => by first | omega | (congr 2; omega)) (fun h => by first | omega | (congr 2; omega))
              · skip
                rw [if_pos (by rfl)]
                have f1 := hA10.cell (i := 0) rfl
                have f2 := hA10.frozen (i := 0) (by simp)
                have hS := hHeld.set (Nat.le_refl _) (by simp) hA10 (by simp) 0 (.slice (some ⟨pb, poff + c0 * 32, none⟩) 0 0)
                have hAn := hA10.set 0 (.slice (some ⟨pb, poff + c0 * 32, none⟩) 0 0)
                have hOn := hA11.other (show w.heap.size + 1 ≠ w.heap.size by omega) 0 (.slice (some ⟨pb, poff + c0 * 32, none⟩) 0 0)
                clear hA10 hA11
                unfold c25d4
                go_simp
                refine hK.out _ _ hS (fun hHeld => ?_)
                have hA10 := hAn
                have hA11 := hOn
                clear hAn hOn hS f1 f2
                clear hK K
                try simp only [c25d4, Act.put]
                refine wpAnyH_ready (rs := [2]) (by kernel_rfl) (by simp) ?_
                refine AllReadyH.cons (o := c25d2) rfl (fun K hK => ?_) AllReadyH.nil
                rw [if_pos (by rfl)]
                have f1 := hA11.cell (i := 0) rfl
                unfold c25d2
                go_simp
                refine hK.out _ _ hHeld (fun hHeld => ?_)
                clear hK K
                try simp only [c25d2, Act.put, List.setIfInBounds_toArray, List.set_cons_zero, List.set_cons_succ]
                refine wpAnyH_take (i := 3) (oi := c25d3) (v := ?_) rfl (by kernel_rfl) (by kernel_rfl) (by kernel_rfl) (fun _ _ _ h => h) (Or.inl ⟨by rfl, ?_⟩) hHeld ?_
                rotate_left
                · (intro w hSw; (try dsimp only at hSw); unfold c25d3; go_simp <;> with_reducible rfl)
                try simp only [c25d3, Act.put, List.setIfInBounds_toArray, List.set_cons_zero, List.set_cons_succ]
                refine wpAnyH_ready (rs := [5]) (by kernel_rfl) (by simp) ?_
                refine AllReadyH.cons (o := c25d5) rfl (fun K hK => ?_) AllReadyH.nil
                rw [if_pos (by rfl)]
                have f1 := hA11.cell (i := 0) rfl
                have f2 := hA11.frozen (i := 0) (by simp)
                have hS := hHeld.set (Nat.le_refl _) (by simp) hA11 (by simp) 0 (.slice (some ⟨qb, qoff + c0 * 32 + 32, none⟩) (L' - 1) (C' - 1))
                have hAn := hA11.set 0 (.slice (some ⟨qb, qoff + c0 * 32 + 32, none⟩) (L' - 1) (C' - 1))
                have hOn := hA10.other (show w.heap.size ≠ w.heap.size + 1 by omega) 0 (.slice (some ⟨qb, qoff + c0 * 32 + 32, none⟩) (L' - 1) (C' - 1))
                clear hA11 hA10
                unfold c25d5
                go_simp
                refine hK.out _ _ hS (fun hHeld => ?_)
                have hA11 := hAn
                have hA10 := hOn
                clear hAn hOn hS f1 f2
                clear hK K
                try simp only [c25d5, Act.put]
                refine wpAnyH_done (by kernel_rfl) ?_ _
                refine hKR _ _ ?_
                exact HFIN.out _ _ _ _ _ hHeld hA10 hA11 (by omega) (by omega) (by omega) (by omega) (fun h => by first | omega | (congr 2; omega)) (fun h => by first | omega | (congr 2; omega))
            · skip
              rw [if_pos (by rfl)]
              have f1 := hA11.cell (i := 0) rfl
              unfold c25d2
              go_simp
              refine hK.out _ _ hHeld (fun hHeld => ?_)
              clear hK K
              try simp only [c25d2, Act.put, List.setIfInBounds_toArray, List.set_cons_zero, List.set_cons_succ]
              refine wpAnyH_take (i := 3) (oi := c25d3) (v := ?_) rfl (by kernel_rfl) (by kernel_rfl) (by kernel_rfl) (fun _ _ _ h => h) (Or.inl ⟨by rfl, ?_⟩) hHeld ?_
              rotate_left
              · (intro w hSw; (try dsimp only at hSw); unfold c25d3; go_simp <;> with_reducible rfl)
              try simp only [c25d3, Act.put, List.setIfInBounds_toArray, List.set_cons_zero, List.set_cons_succ]
              refine wpAnyH_ready (rs := [0]) (by kernel_rfl) (by simp) ?_
              refine AllReadyH.cons (o := c25d0) rfl (fun K hK => ?_) AllReadyH.nil
              rw [if_pos (by rfl)]
              have f1 := hA10.cell (i := 0) rfl
              unfold c25d0
              go_simp
              refine hK.out _ _ hHeld (fun hHeld => ?_)
              clear hK K
              try simp only [c25d0, Act.put, List.setIfInBounds_toArray, List.set_cons_zero, List.set_cons_succ]
              refine wpAnyH_take (i := 1) (oi := c25d1) (v := ?_) rfl (by kernel_rfl) (by kernel_rfl) (by kernel_rfl) (fun _ _ _ h => h) (Or.inl ⟨by rfl, ?_⟩) hHeld ?_
              rotate_left
              · (intro w hSw; (try dsimp only at hSw); unfold c25d1; go_simp <;> with_reducible rfl)
              try simp only [c25d1, Act.put, List.setIfInBounds_toArray, List.set_cons_zero, List.set_cons_succ]
              refine wpAnyH_ready (rs := [4]) (by kernel_rfl) (by simp) ?_
              refine AllReadyH.cons (o := c25d4) rfl (fun K hK => ?_) AllReadyH.nil
              rw [if_pos (by rfl)]
              have f1 := hA10.cell (i := 0) rfl
              have f2 := hA10.frozen (i := 0) (by simp)
              have hS := hHeld.set (Nat.le_refl _) (by simp) hA10 (by simp) 0 (.slice (some ⟨pb, poff + c0 * 32, none⟩) 0 0)
              have hAn := hA10.set 0 (.slice (some ⟨pb, poff + c0 * 32, none⟩) 0 0)
              have hOn := hA11.other (show w.heap.size + 1 ≠ w.heap.size by omega) 0 (.slice (some ⟨pb, poff + c0 * 32, none⟩) 0 0)
              clear hA10 hA11
              unfold c25d4
              go_simp
              refine hK.out _ _ hS (fun hHeld => ?_)
              have hA10 := hAn
              have hA11 := hOn
              clear hAn hOn hS f1 f2
              clear hK K
              try simp only [c25d4, Act.put]
              refine wpAnyH_ready (rs := [5]) (by kernel_rfl) (by simp) ?_
              refine AllReadyH.cons (o := c25d5) rfl (fun K hK => ?_) AllReadyH.nil
              rw [if_pos (by rfl)]
              have f1 := hA11.cell (i := 0) rfl
              have f2 := hA11.frozen (i := 0) (by simp)
              have hS := hHeld.set (Nat.le_refl _) (by simp) hA11 (by simp) 0 (.slice (some ⟨qb, qoff + c0 * 32 + 32, none⟩) (L' - 1) (C' - 1))
              have hAn := hA11.set 0 (.slice (some ⟨qb, qoff + c0 * 32 + 32, none⟩) (L' - 1) (C' - 1))
              have hOn := hA10.other (show w.heap.size ≠ w.heap.size + 1 by omega) 0 (.slice (some ⟨qb, qoff + c0 * 32 + 32, none⟩) (L' - 1) (C' - 1))
              clear hA11 hA10
              unfold c25d5
              go_simp
              refine hK.out _ _ hS (fun hHeld => ?_)
              have hA11 := hAn
              have hA10 := hOn
              clear hAn hOn hS f1 f2
              clear hK K
              try simp only [c25d5, Act.put]
              refine wpAnyH_done (by kernel_rfl) ?_ _
              refine hKR _ _ ?_
              exact HFIN.out _ _ _ _ _ hHeld hA10 hA11 (by omega) (by omega) (by omega) (by omega) (fun h => by first | omega | (congr 2; omega)) (fun h => by first | omega | (congr 2; omega))
        · skip
          have r1 : (1 : Int) ≤ (L : Int) := by omega
          have r2 : (1 : Int) ≤ (C : Int) := by omega
          have r3 : 1 ≤ L := by omega
          have r4 : 1 ≤ C := by omega
          have r5 : (L : Int) ≤ (C : Int) := by omega
          have r6 : ¬ C - 1 = 0 := by omega
          by_cases hC2 : C' = 1
          · obtain rfl : L' = 1 := by omega
            subst hC2
            refine wpIn_region_round (Low U3.heap.size [w.heap.size, w.heap.size + 1] U3) (by kernel_rfl) (by kernel_rfl) (Low.drew (Low.refl _ _ _)) (fun KR hKR hHeld => ?_)
            obtain ⟨Ud, hUd, hLd⟩ : ∃ X, X = U3.drew ∧ Low U3.heap.size [w.heap.size, w.heap.size + 1] U3 X := ⟨_, rfl, hHeld⟩
            rw [← hUd] at hA10 hA11 ⊢
            clear hHeld hUd
            have hHeld := hLd
            clear hLd
            refine wpAnyH_ready (rs := [0, 2]) (by kernel_rfl) (by simp) ?_
            refine AllReadyH.cons (o := c25d0) rfl (fun K hK => ?_) (AllReadyH.cons (o := c25d2) rfl (fun K hK => ?_) AllReadyH.nil)
            · skip
              rw [if_pos (by rfl)]
              have f1 := hA10.cell (i := 0) rfl
              unfold c25d0
              go_simp
              refine hK.out _ _ hHeld (fun hHeld => ?_)
              clear hK K
              try simp only [c25d0, Act.put, List.setIfInBounds_toArray, List.set_cons_zero, List.set_cons_succ]
              refine wpAnyH_take (i := 1) (oi := c25d1) (v := ?_) rfl (by kernel_rfl) (by kernel_rfl) (by kernel_rfl) (fun _ _ _ h => h) (Or.inl ⟨by rfl, ?_⟩) hHeld ?_
              rotate_left
              · (intro w hSw; (try dsimp only at hSw); unfold c25d1; go_simp <;> with_reducible rfl)
              try simp only [c25d1, Act.put, List.setIfInBounds_toArray, List.set_cons_zero, List.set_cons_succ]
              refine wpAnyH_ready (rs := [2, 4]) (by kernel_rfl) (by simp) ?_
              refine AllReadyH.cons (o := c25d2) rfl (fun K hK => ?_) (AllReadyH.cons (o := c25d4) rfl (fun K hK => ?_) AllReadyH.nil)
              · skip
                rw [if_pos (by rfl)]
                have f1 := hA11.cell (i := 0) rfl
                unfold c25d2
                go_simp
                refine hK.out _ _ hHeld (fun hHeld => ?_)
                clear hK K
                try simp only [c25d2, Act.put, List.setIfInBounds_toArray, List.set_cons_zero, List.set_cons_succ]
                refine wpAnyH_take (i := 3) (oi := c25d3) (v := ?_) rfl (by kernel_rfl) (by kernel_rfl) (by kernel_rfl) (fun _ _ _ h => h) (Or.inl ⟨by rfl, ?_⟩) hHeld ?_
                rotate_left
                · (intro w hSw; (try dsimp only at hSw); unfold c25d3; go_simp <;> with_reducible rfl)
                try simp only [c25d3, Act.put, List.setIfInBounds_toArray, List.set_cons_zero, List.set_cons_succ]
                refine wpAnyH_ready (rs := [4]) (by kernel_rfl) (by simp) ?_
                refine AllReadyH.cons (o := c25d4) rfl (fun K hK => ?_) AllReadyH.nil
                rw [if_pos (by rfl)]
                have f1 := hA10.cell (i := 0) rfl
                have f2 := hA10.frozen (i := 0) (by simp)
                have hS := hHeld.set (Nat.le_refl _) (by simp) hA10 (by simp) 0 (.slice (some ⟨pb, poff + c0 * 32 + 32, none⟩) (L - 1) (C - 1))
                have hAn := hA10.set 0 (.slice (some ⟨pb, poff + c0 * 32 + 32, none⟩) (L - 1) (C - 1))
                have hOn := hA11.other (show w.heap.size + 1 ≠ w.heap.size by omega) 0 (.slice (some ⟨pb, poff + c0 * 32 + 32, none⟩) (L - 1) (C - 1))
                clear hA10 hA11
                unfold c25d4
                go_simp
                refine hK.out _ _ hS (fun hHeld => ?_)
                have hA10 := hAn
                have hA11 := hOn
                clear hAn hOn hS f1 f2
                clear hK K
                try simp only [c25d4, Act.put]
                refine wpAnyH_ready (rs := [5]) (by kernel_rfl) (by simp) ?_
                refine AllReadyH.cons (o := c25d5) rfl (fun K hK => ?_) AllReadyH.nil
                rw [if_pos (by rfl)]
                have f1 := hA11.cell (i := 0) rfl
                have f2 := hA11.frozen (i := 0) (by simp)
                have hS := hHeld.set (Nat.le_refl _) (by simp) hA11 (by simp) 0 (.slice (some ⟨qb, qoff + c0 * 32, none⟩) 0 0)
                have hAn := hA11.set 0 (.slice (some ⟨qb, qoff + c0 * 32, none⟩) 0 0)
                have hOn := hA10.other (show w.heap.size ≠ w.heap.size + 1 by omega) 0 (.slice (some ⟨qb, qoff + c0 * 32, none⟩) 0 0)
                clear hA11 hA10
                unfold c25d5
                go_simp
                refine hK.out _ _ hS (fun hHeld => ?_)
                have hA11 := hAn
                have hA10 := hOn
                clear hAn hOn hS f1 f2
                clear hK K
                try simp only [c25d5, Act.put]
                refine wpAnyH_done (by kernel_rfl) ?_ _
                refine hKR _ _ ?_
                exact HFIN.out _ _ _ _ _ hHeld hA10 hA11 (by omega) (by omega) (by omega) (by omega) (fun h => by first | omega | (congr 2; omega)) (fun h => by first | omega | (congr 2; omega))
              · skip
                rw [if_pos (by rfl)]
                have f1 := hA10.cell (i := 0) rfl
                have f2 := hA10.frozen (i := 0) (by simp)
                have hS := hHeld.set (Nat.le_refl _) (by simp) hA10 (by simp) 0 (.slice (some ⟨pb, poff + c0 * 32 + 32, none⟩) (L - 1) (C - 1))
                have hAn := hA10.set 0 (.slice (some ⟨pb, poff + c0 * 32 + 32, none⟩) (L - 1) (C - 1))
                have hOn := hA11.other (show w.heap.size + 1 ≠ w.heap.size by omega) 0 (.slice (some ⟨pb, poff + c0 * 32 + 32, none⟩) (L - 1) (C - 1))
                clear hA10 hA11
                unfold c25d4
                go_simp
                refine hK.out _ _ hS (fun hHeld => ?_)
                have hA10 := hAn
                have hA11 := hOn
                clear hAn hOn hS f1 f2
                clear hK K
                try simp only [c25d4, Act.put]
                refine wpAnyH_ready (rs := [2]) (by kernel_rfl) (by simp) ?_
                refine AllReadyH.cons (o := c25d2) rfl (fun K hK => ?_) AllReadyH.nil
                rw [if_pos (by rfl)]
                have f1 := hA11.cell (i := 0) rfl
                unfold c25d2
                go_simp
                refine hK.out _ _ hHeld (fun hHeld => ?_)
                clear hK K
                try simp only [c25d2, Act.put, List.setIfInBounds_toArray, List.set_cons_zero, List.set_cons_succ]
                refine wpAnyH_take (i := 3) (oi := c25d3) (v := ?_) rfl (by kernel_rfl) (by kernel_rfl) (by kernel_rfl) (fun _ _ _ h => h) (Or.inl ⟨by rfl, ?_⟩) hHeld ?_
                rotate_left
                · (intro w hSw; (try dsimp only at hSw); unfold c25d3; go_simp <;> with_reducible rfl)
                try simp only [c25d3, Act.put, List.setIfInBounds_toArray, List.set_cons_zero, List.set_cons_succ]
                refine wpAnyH_ready (rs := [5]) (by kernel_rfl) (by simp) ?_
                refine AllReadyH.cons (o := c25d5) rfl (fun K hK => ?_) AllReadyH.nil
                rw [if_pos (by rfl)]
                have f1 := hA11.cell (i := 0) rfl
                have f2 := hA11.frozen (i := 0) (by simp)
                have hS := hHeld.set (Nat.le_refl _) (by simp) hA11 (by simp) 0 (.slice (some ⟨qb, qoff + c0 * 32, none⟩) 0 0)
                have hAn := hA11.set 0 (.slice (some ⟨qb, qoff + c0 * 32, none⟩) 0 0)
                have hOn := hA10.other (show w.heap.size ≠ w.heap.size + 1 by omega) 0 (.slice (some ⟨qb, qoff + c0 * 32, none⟩) 0 0)
                clear hA11 hA10
                unfold c25d5
                go_simp
                refine hK.out _ _ hS (fun hHeld => ?_)
                have hA11 := hAn
                have hA10 := hOn
                clear hAn hOn hS f1 f2
                clear hK K
                try simp only [c25d5, Act.put]
                refine wpAnyH_done (by kernel_rfl) ?_ _
                refine hKR _ _ ?_
                exact HFIN.out _ _ _ _ _ hHeld hA10 hA11 (by omega) (by omega) (by omega) (by omega) (fun h => by first | omega | (congr 2; omega)) (fun h => by first | omega | (congr 2; omega))
            · skip
              rw [if_pos (by rfl)]
              have f1 := hA11.cell (i := 0) rfl
              unfold c25d2
              go_simp
              refine hK.out _ _ hHeld (fun hHeld => ?_)
              clear hK K
              try simp only [c25d2, Act.put, List.setIfInBounds_toArray, List.set_cons_zero, List.set_cons_succ]
              refine wpAnyH_take (i := 3) (oi := c25d3) (v := ?_) rfl (by kernel_rfl) (by kernel_rfl) (by kernel_rfl) (fun _ _ _ h => h) (Or.inl ⟨by rfl, ?_⟩) hHeld ?_
              rotate_left
              · (intro w hSw; (try dsimp only at hSw); unfold c25d3; go_simp <;> with_reducible rfl)
              try simp only [c25d3, Act.put, List.setIfInBounds_toArray, List.set_cons_zero, List.set_cons_succ]
              refine wpAnyH_ready (rs := [0]) (by kernel_rfl) (by simp) ?_
              refine AllReadyH.cons (o := c25d0) rfl (fun K hK => ?_) AllReadyH.nil
              rw [if_pos (by rfl)]
              have f1 := hA10.cell (i := 0) rfl
              unfold c25d0
              go_simp
              refine hK.out _ _ hHeld (fun hHeld => ?_)
              clear hK K
              try simp only [c25d0, Act.put, List.setIfInBounds_toArray, List.set_cons_zero, List.set_cons_succ]
              refine wpAnyH_take (i := 1) (oi := c25d1) (v := ?_) rfl (by kernel_rfl) (by kernel_rfl) (by kernel_rfl) (fun _ _ _ h => h) (Or.inl ⟨by rfl, ?_⟩) hHeld ?_
              rotate_left
              · (intro w hSw; (try dsimp only at hSw); unfold c25d1; go_simp <;> with_reducible rfl)
              try simp only [c25d1, Act.put, List.setIfInBounds_toArray, List.set_cons_zero, List.set_cons_succ]
              refine wpAnyH_ready (rs := [4]) (by kernel_rfl) (by simp) ?_
              refine AllReadyH.cons (o := c25d4) rfl (fun K hK => ?_) AllReadyH.nil
              rw [if_pos (by rfl)]
              have f1 := hA10.cell (i := 0) rfl
              have f2 := hA10.frozen (i := 0) (by simp)
              have hS := hHeld.set (Nat.le_refl _) (by simp) hA10 (by simp) 0 (.slice (some ⟨pb, poff + c0 * 32 + 32, none⟩) (L - 1) (C - 1))
              have hAn := hA10.set 0 (.slice (some ⟨pb, poff + c0 * 32 + 32, none⟩) (L - 1) (C - 1))
              have hOn := hA11.other (show w.heap.size + 1 ≠ w.heap.size by omega) 0 (.slice (some ⟨pb, poff + c0 * 32 + 32, none⟩) (L - 1) (C - 1))
              clear hA10 hA11
              unfold c25d4
              go_simp
              refine hK.out _ _ hS (fun hHeld => ?_)
              have hA10 := hAn
              have hA11 := hOn
              clear hAn hOn hS f1 f2
              clear hK K
              try simp only [c25d4, Act.put]
              refine wpAnyH_ready (rs := [5]) (by kernel_rfl) (by simp) ?_
              refine AllReadyH.cons (o := c25d5) rfl (fun K hK => ?_) AllReadyH.nil
              rw [if_pos (by rfl)]
              have f1 := hA11.cell (i := 0) rfl
              have f2 := hA11.frozen (i := 0) (by simp)
              have hS := hHeld.set (Nat.le_refl _) (by simp) hA11 (by simp) 0 (.slice (some ⟨qb, qoff + c0 * 32, none⟩) 0 0)
              have hAn := hA11.set 0 (.slice (some ⟨qb, qoff + c0 * 32, none⟩) 0 0)
              have hOn := hA10.other (show w.heap.size ≠ w.heap.size + 1 by omega) 0 (.slice (some ⟨qb, qoff + c0 * 32, none⟩) 0 0)
              clear hA11 hA10
              unfold c25d5
              go_simp
              refine hK.out _ _ hS (fun hHeld => ?_)
              have hA11 := hAn
              have hA10 := hOn
              clear hAn hOn hS f1 f2
              clear hK K
              try simp only [c25d5, Act.put]
              refine wpAnyH_done (by kernel_rfl) ?_ _
              refine hKR _ _ ?_
              exact HFIN.out _ _ _ _ _ hHeld hA10 hA11 (by omega) (by omega) (by omega) (by omega) (fun h => by first | omega | (congr 2; omega)) (fun h => by first | omega | (congr 2; omega))
          · skip
            have s1 : (1 : Int) ≤ (L' : Int) := by omega
            have s2 : (1 : Int) ≤ (C' : Int) := by omega
            have s3 : 1 ≤ L' := by omega
            have s4 : 1 ≤ C' := by omega
            have s5 : (L' : Int) ≤ (C' : Int) := by omega
            have s6 : ¬ C' - 1 = 0 := by omega
            refine wpIn_region_round (Low U3.heap.size [w.heap.size, w.heap.size + 1] U3) (by kernel_rfl) (by kernel_rfl) (Low.drew (Low.refl _ _ _)) (fun KR hKR hHeld => ?_)
            obtain ⟨Ud, hUd, hLd⟩ : ∃ X, X = U3.drew ∧ Low U3.heap.size [w.heap.size, w.heap.size + 1] U3 X := ⟨_, rfl, hHeld⟩
            rw [← hUd] at hA10 hA11 ⊢
            clear hHeld hUd
            have hHeld := hLd
            clear hLd
            refine wpAnyH_ready (rs := [0, 2]) (by kernel_rfl) (by simp) ?_
            refine AllReadyH.cons (o := c25d0) rfl (fun K hK => ?_) (AllReadyH.cons (o := c25d2) rfl (fun K hK => ?_) AllReadyH.nil)
            · skip
              rw [if_pos (by rfl)]
              have f1 := hA10.cell (i := 0) rfl
              unfold c25d0
              go_simp
              refine hK.out _ _ hHeld (fun hHeld => ?_)
              clear hK K
              try simp only [c25d0, Act.put, List.setIfInBounds_toArray, List.set_cons_zero, List.set_cons_succ]
              refine wpAnyH_take (i := 1) (oi := c25d1) (v := ?_) rfl (by kernel_rfl) (by kernel_rfl) (by kernel_rfl) (fun _ _ _ h => h) (Or.inl ⟨by rfl, ?_⟩) hHeld ?_
              rotate_left
              · (intro w hSw; (try dsimp only at hSw); unfold c25d1; go_simp <;> with_reducible rfl)
              try simp only [c25d1, Act.put, List.setIfInBounds_toArray, List.set_cons_zero, List.set_cons_succ]
              refine wpAnyH_ready (rs := [2, 4]) (by kernel_rfl) (by simp) ?_
              refine AllReadyH.cons (o := c25d2) rfl (fun K hK => ?_) (AllReadyH.cons (o := c25d4) rfl (fun K hK => ?_) AllReadyH.nil)
              · skip
                rw [if_pos (by rfl)]
                have f1 := hA11.cell (i := 0) rfl
                unfold c25d2
                go_simp
                refine hK.out _ _ hHeld (fun hHeld => ?_)
                clear hK K
                try simp only [c25d2, Act.put, List.setIfInBounds_toArray, List.set_cons_zero, List.set_cons_succ]
                refine wpAnyH_take (i := 3) (oi := c25d3) (v := ?_) rfl (by kernel_rfl) (by kernel_rfl) (by kernel_rfl) (fun _ _ _ h => h) (Or.inl ⟨by rfl, ?_⟩) hHeld ?_
                rotate_left
                · (intro w hSw; (try dsimp only at hSw); unfold c25d3; go_simp <;> with_reducible rfl)
                try simp only [c25d3, Act.put, List.setIfInBounds_toArray, List.set_cons_zero, List.set_cons_succ]
                refine wpAnyH_ready (rs := [4]) (by kernel_rfl) (by simp) ?_
                refine AllReadyH.cons (o := c25d4) rfl (fun K hK => ?_) AllReadyH.nil
                rw [if_pos (by rfl)]
                have f1 := hA10.cell (i := 0) rfl
                have f2 := hA10.frozen (i := 0) (by simp)
                have hS := hHeld.set (Nat.le_refl _) (by simp) hA10 (by simp) 0 (.slice (some ⟨pb, poff + c0 * 32 + 32, none⟩) (L - 1) (C - 1))
                have hAn := hA10.set 0 (.slice (some ⟨pb, poff + c0 * 32 + 32, none⟩) (L - 1) (C - 1))
                have hOn := hA11.other (show w.heap.size + 1 ≠ w.heap.size by omega) 0 (.slice (some ⟨pb, poff + c0 * 32 + 32, none⟩) (L - 1) (C - 1))
                clear hA10 hA11
                unfold c25d4
                go_simp
                refine hK.out _ _ hS (fun hHeld => ?_)
                have hA10 := hAn
                have hA11 := hOn
                clear hAn hOn hS f1 f2
                clear hK K
                try simp only [c25d4, Act.put]
                refine wpAnyH_ready (rs := [5]) (by kernel_rfl) (by simp) ?_
                refine AllReadyH.cons (o := c25d5) rfl (fun K hK => ?_) AllReadyH.nil
                rw [if_pos (by rfl)]
                have f1 := hA11.cell (i := 0) rfl
                have f2 := hA11.frozen (i := 0) (by simp)
                have hS := hHeld.set (Nat.le_refl _) (by simp) hA11 (by simp) 0 (.slice (some ⟨qb, qoff + c0 * 32 + 32, none⟩) (L' - 1) (C' - 1))
                have hAn := hA11.set 0 (.slice (some ⟨qb, qoff + c0 * 32 + 32, none⟩) (L' - 1) (C' - 1))
                have hOn := hA10.other (show w.heap.size ≠ w.heap.size + 1 by omega) 0 (.slice (some ⟨qb, qoff + c0 * 32 + 32, none⟩) (L' - 1) (C' - 1))
                clear hA11 hA10
                unfold c25d5
                go_simp
                refine hK.out _ _ hS (fun hHeld => ?_)
                have hA11 := hAn
                have hA10 := hOn
                clear hAn hOn hS f1 f2
                clear hK K
                try simp only [c25d5, Act.put]
                refine wpAnyH_done (by kernel_rfl) ?_ _
                refine hKR _ _ ?_
                exact HFIN.out _ _ _ _ _ hHeld hA10 hA11 (by omega) (by omega) (by omega) (by omega) (fun h => by first | omega | (congr 2; omega)) (fun h => by first | omega | (congr 2; omega))
              · skip
                rw [if_pos (by rfl)]
                have f1 := hA10.cell (i := 0) rfl
                have f2 := hA10.frozen (i := 0) (by simp)
                have hS := hHeld.set (Nat.le_refl _) (by simp) hA10 (by simp) 0 (.slice (some ⟨pb, poff + c0 * 32 + 32, none⟩) (L - 1) (C - 1))
                have hAn := hA10.set 0 (.slice (some ⟨pb, poff + c0 * 32 + 32, none⟩) (L - 1) (C - 1))
                have hOn := hA11.other (show w.heap.size + 1 ≠ w.heap.size by omega) 0 (.slice (some ⟨pb, poff + c0 * 32 + 32, none⟩) (L - 1) (C - 1))
                clear hA10 hA11
                unfold c25d4
                go_simp
                refine hK.out _ _ hS (fun hHeld => ?_)
                have hA10 := hAn
                have hA11 := hOn
                clear hAn hOn hS f1 f2
                clear hK K
                try simp only [c25d4, Act.put]
                refine wpAnyH_ready (rs := [2]) (by kernel_rfl) (by simp) ?_
                refine AllReadyH.cons (o := c25d2) rfl (fun K hK => ?_) AllReadyH.nil
                rw [if_pos (by rfl)]
                have f1 := hA11.cell (i := 0) rfl
                unfold c25d2
                go_simp
                refine hK.out _ _ hHeld (fun hHeld => ?_)
                clear hK K
                try simp only [c25d2, Act.put, List.setIfInBounds_toArray, List.set_cons_zero, List.set_cons_succ]
                refine wpAnyH_take (i := 3) (oi := c25d3) (v := ?_) rfl (by kernel_rfl) (by kernel_rfl) (by kernel_rfl) (fun _ _ _ h => h) (Or.inl ⟨by rfl, ?_⟩) hHeld ?_
                rotate_left
                · (intro w hSw; (try dsimp only at hSw); unfold c25d3; go_simp <;> with_reducible rfl)
                try simp only [c25d3, Act.put, List.setIfInBounds_toArray, List.set_cons_zero, List.set_cons_succ]
                refine wpAnyH_ready (rs := [5]) (by kernel_rfl) (by simp) ?_
                refine AllReadyH.cons (o := c25d5) rfl (fun K hK => ?_) AllReadyH.nil
                rw [if_pos (by rfl)]
                have f1 := hA11.cell (i := 0) rfl
                have f2 := hA11.frozen (i := 0) (by simp)
                have hS := hHeld.set (Nat.le_refl _) (by simp) hA11 (by simp) 0 (.slice (some ⟨qb, qoff + c0 * 32 + 32, none⟩) (L' - 1) (C' - 1))
                have hAn := hA11.set 0 (.slice (some ⟨qb, qoff + c0 * 32 + 32, none⟩) (L' - 1) (C' - 1))
                have hOn := hA10.other (show w.heap.size ≠ w.heap.size + 1 by omega) 0 (.slice (some ⟨qb, qoff + c0 * 32 + 32, none⟩) (L' - 1) (C' - 1))
                clear hA11 hA10
                unfold c25d5
                go_simp
                refine hK.out _ _ hS (fun hHeld => ?_)
                have hA11 := hAn
                have hA10 := hOn
                clear hAn hOn hS f1 f2
                clear hK K
                try simp only [c25d5, Act.put]
                refine wpAnyH_done (by kernel_rfl) ?_ _
                refine hKR _ _ ?_
                exact HFIN.out _ _ _ _ _ hHeld hA10 hA11 (by omega) (by omega) (by omega) (by omega) (fun h => by first | omega | (congr 2; omega)) (fun h => by first | omega | (congr 2; omega))
            · skip
              rw [if_pos (by rfl)]
              have f1 := hA11.cell (i := 0) rfl
              unfold c25d2
              go_simp
              refine hK.out _ _ hHeld (fun hHeld => ?_)
              clear hK K
              try simp only [c25d2, Act.put, List.setIfInBounds_toArray, List.set_cons_zero, List.set_cons_succ]
              refine wpAnyH_take (i := 3) (oi := c25d3) (v := ?_) rfl (by kernel_rfl) (by kernel_rfl) (by kernel_rfl) (fun _ _ _ h => h) (Or.inl ⟨by rfl, ?_⟩) hHeld ?_
              rotate_left
              · (intro w hSw; (try dsimp only at hSw); unfold c25d3; go_simp <;> with_reducible rfl)
              try simp only [c25d3, Act.put, List.setIfInBounds_toArray, List.set_cons_zero, List.set_cons_succ]
              refine wpAnyH_ready (rs := [0]) (by kernel_rfl) (by simp) ?_
              refine AllReadyH.cons (o := c25d0) rfl (fun K hK => ?_) AllReadyH.nil
              rw [if_pos (by rfl)]
              have f1 := hA10.cell (i := 0) rfl
              unfold c25d0
              go_simp
              refine hK.out _ _ hHeld (fun hHeld => ?_)
              clear hK K
              try simp only [c25d0, Act.put, List.setIfInBounds_toArray, List.set_cons_zero, List.set_cons_succ]
              refine wpAnyH_take (i := 1) (oi := c25d1) (v := ?_) rfl (by kernel_rfl) (by kernel_rfl) (by kernel_rfl) (fun _ _ _ h => h) (Or.inl ⟨by rfl, ?_⟩) hHeld ?_
              rotate_left
              · (intro w hSw; (try dsimp only at hSw); unfold c25d1; go_simp <;> with_reducible rfl)
              try simp only [c25d1, Act.put, List.setIfInBounds_toArray, List.set_cons_zero, List.set_cons_succ]
              refine wpAnyH_ready (rs := [4]) (by kernel_rfl) (by simp) ?_
              refine AllReadyH.cons (o := c25d4) rfl (fun K hK => ?_) AllReadyH.nil
              rw [if_pos (by rfl)]
              have f1 := hA10.cell (i := 0) rfl
              have f2 := hA10.frozen (i := 0) (by simp)
              have hS := hHeld.set (Nat.le_refl _) (by simp) hA10 (by simp) 0 (.slice (some ⟨pb, poff + c0 * 32 + 32, none⟩) (L - 1) (C - 1))
              have hAn := hA10.set 0 (.slice (some ⟨pb, poff + c0 * 32 + 32, none⟩) (L - 1) (C - 1))
              have hOn := hA11.other (show w.heap.size + 1 ≠ w.heap.size by omega) 0 (.slice (some ⟨pb, poff + c0 * 32 + 32, none⟩) (L - 1) (C - 1))
              clear hA10 hA11
              unfold c25d4
              go_simp
              refine hK.out _ _ hS (fun hHeld => ?_)
              have hA10 := hAn
              have hA11 := hOn
              clear hAn hOn hS f1 f2
              clear hK K
              try simp only [c25d4, Act.put]
              refine wpAnyH_ready (rs := [5]) (by kernel_rfl) (by simp) ?_
              refine AllReadyH.cons (o := c25d5) rfl (fun K hK => ?_) AllReadyH.nil
              rw [if_pos (by rfl)]
              have f1 := hA11.cell (i := 0) rfl
              have f2 := hA11.frozen (i := 0) (by simp)
              have hS := hHeld.set (Nat.le_refl _) (by simp) hA11 (by simp) 0 (.slice (some ⟨qb, qoff + c0 * 32 + 32, none⟩) (L' - 1) (C' - 1))
              have hAn := hA11.set 0 (.slice (some ⟨qb, qoff + c0 * 32 + 32, none⟩) (L' - 1) (C' - 1))
              have hOn := hA10.other (show w.heap.size ≠ w.heap.size + 1 by omega) 0 (.slice (some ⟨qb, qoff + c0 * 32 + 32, none⟩) (L' - 1) (C' - 1))
              clear hA11 hA10
              unfold c25d5
              go_simp
              refine hK.out _ _ hS (fun hHeld => ?_)
              have hA11 := hAn
              have hA10 := hOn
              clear hAn hOn hS f1 f2
              clear hK K
              try simp only [c25d5, Act.put]
              refine wpAnyH_done (by kernel_rfl) ?_ _
              refine hKR _ _ ?_
              exact HFIN.out _ _ _ _ _ hHeld hA10 hA11 (by omega) (by omega) (by omega) (by omega) (fun h => by first | omega | (congr 2; omega)) (fun h => by first | omega | (congr 2; omega))

end Go.Proofs.YtfmngeemhfpeiaaDoor
