/- The law DigestTreeSpec, walked. -/
import Derived.Test.YtnddejhbncgchaaDoorTpk
import Derived.Test.YtnddejhbncgchaaDoorLnx
namespace Go.Proofs.YtnddejhbncgchaaDoor
open Go.RowKit

def c4a0 : Oper := { dst := some 72, op := Go.Op.move (Go.Operand.tmp 14), type := 30, pos := "law.go:68", after := #[], guard := none }
def c4a1 : Oper := { dst := some 73, op := Go.Op.buildSlice 30 0 #[], type := 30, pos := "law.go:68", after := #[], guard := none }
def c4a2 : Oper := { dst := some 74, op := Go.Op.move (Go.Operand.tmp 14), type := 30, pos := "law.go:68", after := #[], guard := none }
def c4a3 : Oper := { dst := some 75, op := Go.Op.call { callee := Go.Callee.builtin Go.Builtin.append, args := #[Go.Operand.tmp 73, Go.Operand.tmp 74], argTypes := #[30, 30] }, type := 30, pos := "law.go:68", after := #[{ on := 1, ground := Go.Ground.data }, { on := 2, ground := Go.Ground.data }], guard := none }
def c4a4 : Oper := { dst := some 76, op := Go.Op.load 26 (Go.Operand.tmp 7), type := 26, pos := "law.go:68", after := #[], guard := none }
def c4a5 : Oper := { dst := some 77, op := Go.Op.buildSlice 30 1 #[(0, Go.Operand.tmp 76)], type := 30, pos := "law.go:68", after := #[{ on := 4, ground := Go.Ground.data }], guard := none }
def c4a6 : Oper := { dst := some 78, op := Go.Op.call { callee := Go.Callee.builtin Go.Builtin.append, args := #[Go.Operand.tmp 75, Go.Operand.tmp 77], argTypes := #[30, 30] }, type := 30, pos := "law.go:68", after := #[{ on := 3, ground := Go.Ground.data }, { on := 5, ground := Go.Ground.data }, { on := 3, ground := Go.Ground.chain }], guard := none }
def c4a7 : Oper := { dst := some 79, op := Go.Op.move (Go.Operand.tmp 14), type := 30, pos := "law.go:68", after := #[], guard := none }
def c4a8 : Oper := { dst := some 80, op := Go.Op.move (Go.Operand.tmp 14), type := 30, pos := "law.go:68", after := #[], guard := none }
def c4a9 : Oper := { dst := some 81, op := Go.Op.call { callee := Go.Callee.builtin Go.Builtin.len, args := #[Go.Operand.tmp 80], argTypes := #[30] }, type := 3, pos := "law.go:68", after := #[{ on := 8, ground := Go.Ground.data }], guard := none }
def c4a10 : Oper := { dst := some 82, op := Go.Op.binOp Go.BinOp.quo 3 (Go.Operand.tmp 81) (Go.Operand.const (Go.Value.int Go.IntKind.i64 2)) 3, type := 3, pos := "law.go:68", after := #[{ on := 9, ground := Go.Ground.data }], guard := none }
def c4a11 : Oper := { dst := some 83, op := Go.Op.slice 30 (Go.Operand.tmp 79) none (some (Go.Operand.tmp 82)) none, type := 30, pos := "law.go:68", after := #[{ on := 7, ground := Go.Ground.data }, { on := 10, ground := Go.Ground.data }], guard := none }
def c4a12 : Oper := { dst := some 84, op := Go.Op.buildSlice 38 3 #[(0, Go.Operand.tmp 72), (1, Go.Operand.tmp 78), (2, Go.Operand.tmp 83)], type := 38, pos := "law.go:68", after := #[{ on := 0, ground := Go.Ground.data }, { on := 6, ground := Go.Ground.data }, { on := 11, ground := Go.Ground.data }], guard := none }
def c4a13 : Oper := { dst := some 85, op := Go.Op.call { callee := Go.Callee.builtin Go.Builtin.len, args := #[Go.Operand.tmp 84], argTypes := #[38] }, type := 3, pos := "law.go:68", after := #[{ on := 12, ground := Go.Ground.data }], guard := none }
def c4a14 : Oper := { dst := some 86, op := Go.Op.move (Go.Operand.const (Go.Value.int Go.IntKind.i64 0)), type := 3, pos := "law.go:68", after := #[], guard := none }

theorem cell_new3 (k : Nat) (w : World) (C : Array Value) (t : TypeId) (v : Value) (h : C[k]? = some v) : (w.alloc (.cells C t)).cell? ⟨w.heap.size, k, none⟩ = some v :=
  (Arr.new w C t).cell (by simpa using h)
theorem Digs.any6 {w : World} {v : Value} {ds : List (List UInt8)} (h : Digs w w.heap.size v ds) (o : Obj) : Digs (w.alloc o) (w.alloc o).heap.size v ds := (h.below (Below.alloc (Below.refl _ _) (Nat.le_refl _) o)).mono (by simp)
theorem digs_take {W : World} {B n c : Nat} {a : Option Addr} {ds : List (List UInt8)} (h : Digs W B (.slice a n c) ds) (k : Nat) (hk : k ≤ ds.length) : Digs W B (.slice a k c) (ds.take k) := by
  obtain ⟨h32, a', c', e, h1, h2, h3⟩ := h
  injection e with e1 _ e3
  subst e1; subst e3
  have hl : (ds.take k).length = k := by rw [List.length_take]; omega
  refine ⟨fun d hd => h32 d (List.mem_of_mem_take hd), a, c, by rw [hl], by omega, h2, ?_⟩
  rcases h3 with rfl | ⟨db, off, rfl, hdb, hr⟩
  · exact .inl (by simp)
  · exact .inr ⟨db, off, rfl, hdb, fun i hi => by
      rw [List.getElem_take]
      exact hr i (by omega)⟩

set_option maxRecDepth 100000 in
set_option maxHeartbeats 8000000 in
theorem lawTree (w : World) (v : Value) (b : List UInt8) (hv : BytesAt w w.heap.size v b) (i n : Int) (d : List UInt8) (hd : d.length = 32) (hT : Tab w) (h0 : 0 < w.heap.size) :
    Calls Tryd.prog 4 #[v, .int .i64 i, .int .i64 n, dv d] w fun e w' => e = .returned (.bool true) ∧ Below w.heap.size w w' := by
  have hv' := hv
  obtain ⟨a, cap, rfl, hnc, hcm, _⟩ := hv'
  have HV := Lib.hid hv
  have HT := Lib.hid hT
  obtain ⟨q, hq⟩ : ∃ q, (dsOf b).length = q := ⟨_, rfl⟩
  have HQ := Lib.hid hq
  have hlen := dsOf_len b
  have hq24 : q ≤ 24 := by omega
  obtain ⟨cd, hcd⟩ : ∃ cd, cells8 d = cd := ⟨_, rfl⟩
  have hld : cd.length = 32 := by rw [← hcd, cells8_len, hd]
  have HCD := Lib.hid hcd
  have HLD := Lib.hid hld
  have HOD : Hid (∀ v ∈ cd, v.oneCell' = true) := Lib.hid (by rw [← hcd]; exact one_cells8 _)
  have HZD : Hid ((Tryd.prog.info? 26).map (·.size) = some cd.length) := by show _ = _; rw [hld]; exact Tryd.info26
  obtain ⟨i0, hi0, hz0, hz1, hz2⟩ := info_parts Tryd.info26z
  have HI := Lib.hid hi0
  have HZ0 := Lib.hid hz0
  have HZ1 := Lib.hid hz1
  have HZ2 := Lib.hid hz2
  clear hi0 hz0 hz1 hz2
  have hg26 : Tryd.prog.eqGuardType Tryd.prog.depth 26 = false := by kernel_rfl
  have HGT := Lib.hid hg26
  have HD := Lib.hid hd
  rw [dv_eq d, hcd]
  have HSN : Hid (∀ W, Below w.heap.size w W → Calls Tryd.prog 11 #[] W fun e w' => e = .returned (.bool true) ∧ Below W.heap.size W w') := Lib.hid fun W hW => sane_any W (hT.below hW h0) (by have := hW.size; omega)
  clear hv hT hq hlen hcd hld hg26 hd
  go_enter Tryd.func4, Tryd.ntmps4
  go_wp2_with fail
  refine calls_world (fun W => Below w.heap.size w W ∧ W.rangeAt w.heap.size 0 cd ∧ w.heap.size < W.heap.size) ⟨by go_grown, ?_, by simp⟩ ?_
  · have h := (Arr.new w cd.toArray 26).at_
    rw [List.toList_toArray] at h; exact h
  rintro Wb ⟨hBb, hRb, hzb⟩
  have HBb := Lib.hid hBb
  have HRb := Lib.hid hRb
  refine (HSN.out Wb hBb).mono ?_
  rintro e w0 ⟨rfl, hB0⟩
  have HB0 := Lib.hid (hBb.trans (hB0.mono hBb.size))
  have hs0 := hB0.size
  have HRD : Hid (∀ W, Kept w0 W → W.rangeAt w.heap.size 0 cd) := Lib.hid fun W hW j v hv => (((hB0.trans (hW.below.mono hB0.size)).cell (p := ⟨w.heap.size, 0 + j, none⟩) hzb)).trans (HRb.out j v hv)
  clear hB0 hBb hRb HRb HBb
  go_wp2_with fail
  refine (digestsOf_any w0 _ b (bytesAt_any HV.out HB0.out)).mono ?_
  rintro e w1 ⟨u, rfl, hD1, hB1⟩
  have HD1 := Lib.hid hD1
  have HK1 : Hid (Kept w0 w1) := Lib.hid hB1
  have HTW : Hid (∀ W, Kept w0 W → Tab W ∧ 0 < W.heap.size) := Lib.hid fun W hW => ⟨HT.out.below (HB0.out.trans (hW.below.mono HB0.out.size)) h0, by have := HB0.out.size; have := hW.below.size; omega⟩
  obtain ⟨h32, a1, cap1, rfl, hcap1, hcm1, h4⟩ := hD1
  obtain ⟨ct, hct⟩ : ∃ ct, cells8 (tree (dsOf b)) = ct := ⟨_, rfl⟩
  have HT17 : Hid (∀ W, Kept w1 W → Calls Tryd.prog 17 #[.slice a1 q cap1] W fun e w' => e = .returned (.agg ct.toArray) ∧ Kept w1 w') := Lib.hid fun W hW => by
    have h := tree_any q (dsOf b) W _ HQ.out (by omega) ((HD1.out.below hW.below).mono hW.below.size) (HTW.out W (HK1.out.next hW.below)).1 (HTW.out W (HK1.out.next hW.below)).2
    rw [HQ.out, dv_eq, hct] at h
    exact h.mono fun e w' h => ⟨h.1, hW.next h.2⟩
  have HT18 : Hid (∀ W, Kept w1 W → Calls Tryd.prog 18 #[.slice a1 q cap1] W fun e w' => e = .returned (.agg ct.toArray) ∧ Kept w1 w') := Lib.hid fun W hW => by
    have h := rtree_any q (dsOf b) W _ HQ.out (by omega) ((HD1.out.below hW.below).mono hW.below.size)
    rw [HQ.out, dv_eq, hct] at h
    exact h.mono fun e w' h => ⟨h.1, hW.next h.2⟩
  have hq1 : ∀ W : World, (Op.equalIn 10000 26 (.agg ct.toArray) (.agg ct.toArray)).run Tryd.prog W = .ok true W := fun W => by
    have h := eq_any (tree (dsOf b)) (tree_len _) W
    rw [dv_eq, hct] at h; exact h
  rw [HQ.out] at hcap1 ⊢
  have HD1 := Lib.hid HD1.out
  rw [HQ.out] at HD1
  have hg26 := HGT.out
  unfold maxLen at hcm1
  clear hct h32 h4 hB1
  go_wp2_with (first
    | (refine (HT17.out _ (Kept.refl _)).mono ?_; rintro e w2 ⟨rfl, hK2⟩)
    | (refine (HT18.out _ hK2).mono ?_; rintro e w3 ⟨rfl, hK3⟩))
  obtain ⟨i2, hi2⟩ : ∃ i2, bits .and .i64 i 15 = i2 := ⟨_, rfl⟩
  rw [hi2]
  obtain ⟨G1, hG1⟩ : ∃ G1, w3.heap.size = G1 := ⟨_, rfl⟩
  have har := Arr.new w3 #[.int .i64 i, .int .i64 i2] 3
  have hKA : Kept w1 (w3.alloc (.cells #[.int .i64 i, .int .i64 i2] 3)) := hK3.alloc _
  have hlA : w3.heap.size < (w3.alloc (.cells #[.int .i64 i, .int .i64 i2] 3)).heap.size := by simp
  obtain ⟨WA, hWA⟩ : ∃ WA, w3.alloc (.cells #[.int .i64 i, .int .i64 i2] 3) = WA := ⟨_, rfl⟩
  rw [hWA] at har hKA hlA ⊢
  rw [hG1] at har hlA ⊢
  have HCA : Hid (∀ W, Kept WA W → ∀ t, t < 2 → ∃ ii, W.cell? ⟨G1, t, none⟩ = some (.int .i64 ii)) := Lib.hid fun W hW t ht => by
    have h := har.below hW.below hlA
    have : t = 0 ∨ t = 1 := by omega
    rcases this with rfl | rfl
    · exact ⟨_, h.cell rfl⟩
    · exact ⟨_, h.cell rfl⟩
  have HKA := Lib.hid hKA
  clear hWA hG1 hi2 har hKA hlA hK2 hK3 hq1
  go_loopw [38] (fun j W => ∃ t : Nat, j = .int .i64 t ∧ t ≤ 2 ∧ Kept WA W) (fun j _ => 2 - (intOf j).toNat)
  case atStart => exact ⟨0, rfl, by omega, Kept.refl _⟩
  case round =>
    obtain ⟨t, rfl, ht, hKr⟩ := hrel
    have HKr := Lib.hid hKr
    have HKw : Hid (Kept w1 wr) := Lib.hid (HKA.out.next hKr.below)
    clear hKr
    by_cases hlt : t < 2
    · have hdd : decide ((t : Int) < 2) = true := by simp; omega
      have hdn : decide (t < 2) = true := by simpa using hlt
      have f1 : (t : Int) < 2 := by omega
      have f0 : (0 : Int) ≤ (t : Int) := by omega
      obtain ⟨ii, hci⟩ := HCA.out wr HKr.out t hlt
      obtain ⟨p, e0, hpl, h19, h20⟩ := paths_same wr (dsOf b) (.slice a1 q cap1) ii (by have h := HD1.out; exact (h.below HKw.out.below).mono HKw.out.below.size) (by rw [HQ.out]; omega) (HTW.out wr (HK1.out.next HKw.out.below)).1 (HTW.out wr (HK1.out.next HKw.out.below)).2
      obtain ⟨np, hnp⟩ : ∃ np, p.length = np := ⟨_, rfl⟩
      have HNP := Lib.hid hnp
      have HPL := Lib.hid hpl
      have H19 := Lib.hid h19
      have H20 := Lib.hid h20
      clear h19 h20 hnp hpl
      go_wp2_with (first
        | (refine (H19.out _ (Kept.refl _)).mono ?_; rintro e w4 ⟨u1, rfl, hD4, hK4, hB4⟩)
        | (refine (H20.out _ hK4).mono ?_; rintro e w5 ⟨u2, rfl, hD5, hK5, hB5⟩; have hD45 := (hD4.below hB5).mono hB5.size)
        | (refine (rsame_any _ p _ _ hD45 hD5 HPL.out).mono ?_; rintro e w6 ⟨rfl, hB6⟩; have HD6 := Lib.hid ((hD5.below hB6).mono hB6.size); have HK6 := Lib.hid (hK5.next hB6); obtain ⟨_, ua, uc, rfl, huc, hum, _⟩ := hD5; rw [HNP.out] at huc HD6 ⊢; clear hD4 hD45 hB4 hB5 hB6 hK4 hK5))
      obtain ⟨G2, hG2⟩ : ∃ G2, w6.heap.size = G2 := ⟨_, rfl⟩
      have har := Arr.new w6 #[.int .i64 n, .int .i64 (q : Int)] 3
      have hKB : Kept wr (w6.alloc (.cells #[.int .i64 n, .int .i64 (q : Int)] 3)) := HK6.out.alloc _
      have hlB : w6.heap.size < (w6.alloc (.cells #[.int .i64 n, .int .i64 (q : Int)] 3)).heap.size := by simp
      have hDB := HD6.out.any6 (.cells #[.int .i64 n, .int .i64 (q : Int)] 3)
      obtain ⟨WB, hWB⟩ : ∃ WB, w6.alloc (.cells #[.int .i64 n, .int .i64 (q : Int)] 3) = WB := ⟨_, rfl⟩
      obtain ⟨wO, rfl⟩ : ∃ x : World, x = wr := ⟨_, rfl⟩
      rw [hWB] at har hKB hlB hDB ⊢
      rw [hG2] at har hlB ⊢
      have HCB : Hid (∀ W, Kept WB W → ∀ t, t < 2 → ∃ mm, W.cell? ⟨G2, t, none⟩ = some (.int .i64 mm)) := Lib.hid fun W hW t ht => by
        have h := har.below hW.below hlB
        have : t = 0 ∨ t = 1 := by omega
        rcases this with rfl | rfl
        · exact ⟨_, h.cell rfl⟩
        · exact ⟨_, h.cell rfl⟩
      have HKWB : Hid (Kept w0 WB) := Lib.hid ((HK1.out.next HKA.out.below).next (HKr.out.next hKB.below).below)
      have HKB := Lib.hid hKB
      have HDB := Lib.hid hDB
      clear hWB hG2 har hKB hlB hDB hci HK6 HD6
      go_loopw [68] (fun j W => ∃ s : Nat, j = .int .i64 s ∧ s ≤ 2 ∧ Kept WB W) (fun j _ => 2 - (intOf j).toNat)
      case atStart => exact ⟨0, rfl, by omega, Kept.refl _⟩
      case round =>
        obtain ⟨s, rfl, hs, hKs⟩ := hrel
        have HKs := Lib.hid hKs
        clear hKs
        by_cases hls : s < 2
        · have hsd : decide ((s : Int) < 2) = true := by simp; omega
          have hsn : decide (s < 2) = true := by simpa using hls
          have g1 : (s : Int) < 2 := by omega
          have g0 : (0 : Int) ≤ (s : Int) := by omega
          obtain ⟨mm, hcm2⟩ := HCB.out wr HKs.out s hls
          obtain ⟨wC, rfl⟩ : ∃ x : World, x = wr := ⟨_, rfl⟩
          have HDC := Lib.hid ((HDB.out.below HKs.out.below).mono HKs.out.below.size)
          have hpl' : np ≤ 1000000 := by have := HPL.out; rw [HNP.out] at this; exact this
          have HKC : Hid (Kept w0 wC) := Lib.hid (HKWB.out.next HKs.out.below)
          have HRC : Hid (∀ W, Kept wC W → W.rangeAt w.heap.size 0 cd) := Lib.hid fun W hW => HRD.out W (HKC.out.next hW.below)
          have HPU : Hid (∀ W, Kept wC W → Piece W (.slice ua np uc) np (flat p)) := Lib.hid fun W hW => by
            have h := digs_piece (HDC.out.below hW.below)
            rwa [HNP.out] at h
          have h32p := HDC.out.1
          have HFL : Hid ((flat p).length = np * 32) := Lib.hid (by rw [flat_len p h32p, HNP.out])
          have HFO : Hid (∀ u ∈ flat p, u.oneCell' = true) := Lib.hid fun u hu => by
            obtain ⟨x, _, hx⟩ := List.mem_flatMap.1 hu
            exact one_cells8 x u hx
          have HH32 := Lib.hid h32p
          unfold maxLen at hum
          obtain ⟨h2, hh2⟩ : ∃ h2, np / 2 = h2 := ⟨_, rfl⟩
          have k1 : (np : Int) / 2 = (h2 : Int) := by omega
          have k2 : (h2 : Int) ≤ (uc : Int) := by omega
          have k3 : h2 ≤ uc := by omega
          have k4 : Int.tdiv (np : Int) 2 = (h2 : Int) := by rw [Int.tdiv_eq_ediv_of_nonneg (by omega)]; omega
          have k5 : IntKind.i64.wrap (h2 : Int) = (h2 : Int) := by rw [IntKind.wrap_i64]; omega
          have HH2 := Lib.hid hh2
          clear hh2
          clear h32p
          go_wp2_with fail
          go_cut [84, 85, 86] (fun s84 s85 s86 wx => ∃ G gl cl : Nat, s84 = .slice (some ⟨G, 0, none⟩) 3 3 ∧ s85 = .int .i64 3 ∧ s86 = .int .i64 0 ∧ Kept wC wx ∧ wx.cell? ⟨G, 0, none⟩ = some (.slice ua np uc) ∧ wx.cell? ⟨G, 1, none⟩ = some (.slice (some ⟨gl, 0, none⟩) (np + 1) cl) ∧ wx.cell? ⟨G, 2, none⟩ = some (.slice ua h2 uc) ∧ G < wx.heap.size ∧ wx.ownsRow wC.heap.size 26 32 (.slice (some ⟨gl, 0, none⟩) (np + 1) cl) (np + 1) (flat p ++ cd))
          case first =>
            refine wp_region_held_drew (S := fun W => Kept wC W) (by kernel_rfl) ((Kept.refl wC).drew) (fun hHeld => ?_)
            refine wpAnyH_take (i := 0) (oi := c4a0) (v := ?_) rfl (by kernel_rfl) (by kernel_rfl) (by kernel_rfl) (fun _ _ _ h => h) (Or.inl ⟨by rfl, ?_⟩) hHeld ?_
            rotate_left
            · (intro w hSw; (try dsimp only at hSw); unfold c4a0; go_simp <;> with_reducible rfl)
            try simp only [c4a0, Act.put, s1, s2, s3]
            refine wpAnyH_take (i := 2) (oi := c4a2) (v := ?_) rfl (by kernel_rfl) (by kernel_rfl) (by kernel_rfl) (fun _ _ _ h => h) (Or.inl ⟨by rfl, ?_⟩) hHeld ?_
            rotate_left
            · (intro w hSw; (try dsimp only at hSw); unfold c4a2; go_simp <;> with_reducible rfl)
            try simp only [c4a2, Act.put, s1, s2, s3]
            refine wpAnyH_take (i := 4) (oi := c4a4) rfl (by kernel_rfl) (by kernel_rfl) (by kernel_rfl) (fun _ _ _ h => h) (yieldsIf_load_mid (by rfl) 26 (.tmp 7) (by rfl) w.heap.size 0 (by rfl) cd _ (fun W h => HRC.out W h) Tryd.underlying26 rfl HZD.out) hHeld ?_
            try simp only [c4a4, Act.put, s1, s2, s3]
            refine wpAnyH_take (i := 7) (oi := c4a7) (v := ?_) rfl (by kernel_rfl) (by kernel_rfl) (by kernel_rfl) (fun _ _ _ h => h) (Or.inl ⟨by rfl, ?_⟩) hHeld ?_
            rotate_left
            · (intro w hSw; (try dsimp only at hSw); unfold c4a7; go_simp <;> with_reducible rfl)
            try simp only [c4a7, Act.put, s1, s2, s3]
            refine wpAnyH_take (i := 8) (oi := c4a8) (v := ?_) rfl (by kernel_rfl) (by kernel_rfl) (by kernel_rfl) (fun _ _ _ h => h) (Or.inl ⟨by rfl, ?_⟩) hHeld ?_
            rotate_left
            · (intro w hSw; (try dsimp only at hSw); unfold c4a8; go_simp <;> with_reducible rfl)
            try simp only [c4a8, Act.put, s1, s2, s3]
            refine wpAnyH_take (i := 9) (oi := c4a9) (v := ?_) rfl (by kernel_rfl) (by kernel_rfl) (by kernel_rfl) (fun _ _ _ h => h) (Or.inl ⟨by rfl, ?_⟩) hHeld ?_
            rotate_left
            · (intro w hSw; (try dsimp only at hSw); unfold c4a9; go_simp <;> with_reducible rfl)
            try simp only [c4a9, Act.put, s1, s2, s3]
            refine wpAnyH_take (i := 10) (oi := c4a10) (v := ?_) rfl (by kernel_rfl) (by kernel_rfl) (by kernel_rfl) (fun _ _ _ h => h) (Or.inl ⟨by rfl, ?_⟩) hHeld ?_
            rotate_left
            · (intro w hSw; (try dsimp only at hSw); unfold c4a10; go_simp <;> with_reducible rfl)
            try simp only [c4a10, Act.put, s1, s2, s3]
            refine wpAnyH_take (i := 11) (oi := c4a11) (v := ?_) rfl (by kernel_rfl) (by kernel_rfl) (by kernel_rfl) (fun _ _ _ h => h) (Or.inl ⟨by rfl, ?_⟩) hHeld ?_
            rotate_left
            · (intro w hSw; (try dsimp only at hSw); unfold c4a11; go_simp <;> with_reducible rfl)
            try simp only [c4a11, Act.put, s1, s2, s3]
            refine wpAnyH_take (i := 14) (oi := c4a14) (v := ?_) rfl (by kernel_rfl) (by kernel_rfl) (by kernel_rfl) (fun _ _ _ h => h) (Or.inl ⟨by rfl, ?_⟩) hHeld ?_
            rotate_left
            · (intro w hSw; (try dsimp only at hSw); unfold c4a14; go_simp <;> with_reducible rfl)
            try simp only [c4a14, Act.put, s1, s2, s3]
            refine wpAnyH_ready (rs := [1, 5]) (by kernel_rfl) (by simp) ?_
            refine AllReadyH.cons (o := c4a1) rfl (fun K hK => ?_) (AllReadyH.cons (o := c4a5) rfl (fun K hK => ?_) AllReadyH.nil)
            · skip
              rw [if_pos (by rfl)]
              refine wp_new30 (by rfl) ?_
              intro g1 W1 hle1 hlt1 hG1 hn1
              have row_1 := hn1 wC.heap.size hHeld.below.size
              clear hn1
              have hS1 := Kept.moved hHeld hG1 (fun _ h => by cases h)
              refine hK.out _ _ hS1 (fun hHeld => ?_)
              clear hK K
              try simp only [c4a1, Act.put, s1, s2, s3]
              refine wpAnyH_ready (rs := [3, 5]) (by kernel_rfl) (by simp) ?_
              refine AllReadyH.cons (o := c4a3) rfl (fun K hK => ?_) (AllReadyH.cons (o := c4a5) rfl (fun K hK => ?_) AllReadyH.nil)
              · skip
                rw [if_pos (by rfl)]
                refine wp_piece 30 26 i0 _ 32 32 Tryd.underlying30 HI.out HZ0.out HZ1.out HZ2.out (by simp [Value.cells]) (by omega) (.tmp 73) (.tmp 74) (by rfl) (base := wC.heap.size) (by rfl) row_1 (by rfl) (HPU.out _ hHeld) HFL.out HFO.out (by unfold maxLen; omega) (by omega) hHeld.below.size (np) (by omega) (flat p) (by simp) ?_
                intro hb3 g3 c3 W3 row_3 hG3 hat3
                have hS3 := Kept.moved hHeld hG3 (fun k hk => by cases hk; exact hb3)
                clear row_1
                have lt_row_3 := (row_3.lt g3 rfl).2
                refine hK.out _ _ hS3 (fun hHeld => ?_)
                clear hK K
                try simp only [c4a3, Act.put, s1, s2, s3]
                refine wpAnyH_ready (rs := [5]) (by kernel_rfl) (by simp) ?_
                refine AllReadyH.cons (o := c4a5) rfl (fun K hK => ?_) AllReadyH.nil
                rw [if_pos (by rfl)]
                refine wp_one30 (.tmp 76) (by rfl) cd (by rfl) HLD.out ?_
                intro g5 W5 hle5 hlt5 hG5 one_5
                have hS5 := Kept.moved hHeld hG5 (fun _ h => by cases h)
                have ne_g3_g5 : g3 ≠ g5 := by have := lt_row_3; have := hle5; omega
                have row_5 := own_moved row_3 hG5  (by simp)
                have lt_row_5 := Nat.lt_of_lt_of_le lt_row_3 hG5.size
                clear row_3 lt_row_3
                refine hK.out _ _ hS5 (fun hHeld => ?_)
                clear hK K
                try simp only [c4a5, Act.put, s1, s2, s3]
                refine wpAnyH_ready (rs := [6]) (by kernel_rfl) (by simp) ?_
                refine AllReadyH.cons (o := c4a6) rfl (fun K hK => ?_) AllReadyH.nil
                rw [if_pos (by rfl)]
                refine wp_piece 30 26 i0 _ 32 32 Tryd.underlying30 HI.out HZ0.out HZ1.out HZ2.out (by simp [Value.cells]) (by omega) (.tmp 75) (.tmp 77) (by rfl) (base := wC.heap.size) (by rfl) row_5 (by rfl) (piece_row one_5) (by rw [HLD.out]) HOD.out (by unfold maxLen; omega) (by omega) hHeld.below.size (np + 1) (by omega) (flat p ++ cd) (rfl) ?_
                intro hb6 g6 c6 W6 row_6 hG6 hat6
                have hS6 := Kept.moved hHeld hG6 (fun k hk => by cases hk; exact hb6)
                have one_6 := rng_moved one_5 hG6 hlt5 (by simpa using (Ne.symm ne_g3_g5))
                have lt_one_6 := Nat.lt_of_lt_of_le hlt5 hG6.size
                have ne_g5_g6 : g5 ≠ g6 := by have := (Ne.symm ne_g3_g5); have := hlt5; rcases hat6 with h | h <;> omega
                clear row_5
                clear one_5
                have lt_row_6 := (row_6.lt g6 rfl).2
                refine hK.out _ _ hS6 (fun hHeld => ?_)
                clear hK K
                try simp only [c4a6, Act.put, s1, s2, s3]
                refine wpAnyH_ready (rs := [12]) (by kernel_rfl) (by simp) ?_
                refine AllReadyH.cons (o := c4a12) rfl (fun K hK => ?_) AllReadyH.nil
                rw [if_pos (by rfl)]
                unfold c4a12
                go_simp
                have hS12 := Kept.alloc hHeld (.cells #[.slice ua np uc, .slice (some ⟨g6, 0, none⟩) (np + 1) c6, .slice ua h2 uc] 30)
                refine hK.out _ _ hS12 (fun hHeld => ?_)
                clear hK K
                try simp only [c4a12, Act.put, s1, s2, s3]
                refine wpAnyH_take (i := 13) (oi := c4a13) (v := ?_) rfl (by kernel_rfl) (by kernel_rfl) (by kernel_rfl) (fun _ _ _ h => h) (Or.inl ⟨by rfl, ?_⟩) hHeld ?_
                rotate_left
                · (intro w hSw; (try dsimp only at hSw); unfold c4a13; go_simp <;> with_reducible rfl)
                try simp only [c4a13, Act.put, s1, s2, s3]
                refine wpAnyH_done (by kernel_rfl) ?_ _
                go_wp2_with fail
                go_meet
                exact ⟨_, g6, c6, rfl, rfl, rfl, hHeld, cell_new3 0 _ _ _ _ rfl, cell_new3 1 _ _ _ _ rfl, cell_new3 2 _ _ _ _ rfl, by simp, World.ownsRow.alloc row_6 _⟩
              · skip
                rw [if_pos (by rfl)]
                refine wp_one30 (.tmp 76) (by rfl) cd (by rfl) HLD.out ?_
                intro g5 W5 hle5 hlt5 hG5 one_5
                have hS5 := Kept.moved hHeld hG5 (fun _ h => by cases h)
                have ne_g1_g5 : g1 ≠ g5 := by have := hlt1; have := hle5; omega
                have row_5 := own_moved row_1 hG5  (by simp)
                have lt_row_5 := Nat.lt_of_lt_of_le hlt1 hG5.size
                clear row_1 hlt1
                refine hK.out _ _ hS5 (fun hHeld => ?_)
                clear hK K
                try simp only [c4a5, Act.put, s1, s2, s3]
                refine wpAnyH_ready (rs := [3]) (by kernel_rfl) (by simp) ?_
                refine AllReadyH.cons (o := c4a3) rfl (fun K hK => ?_) AllReadyH.nil
                rw [if_pos (by rfl)]
                refine wp_piece 30 26 i0 _ 32 32 Tryd.underlying30 HI.out HZ0.out HZ1.out HZ2.out (by simp [Value.cells]) (by omega) (.tmp 73) (.tmp 74) (by rfl) (base := wC.heap.size) (by rfl) row_5 (by rfl) (HPU.out _ hHeld) HFL.out HFO.out (by unfold maxLen; omega) (by omega) hHeld.below.size (np) (by omega) (flat p) (by simp) ?_
                intro hb3 g3 c3 W3 row_3 hG3 hat3
                have hS3 := Kept.moved hHeld hG3 (fun k hk => by cases hk; exact hb3)
                have one_3 := rng_moved one_5 hG3 hlt5 (by simpa using (Ne.symm ne_g1_g5))
                have lt_one_3 := Nat.lt_of_lt_of_le hlt5 hG3.size
                have ne_g5_g3 : g5 ≠ g3 := by have := (Ne.symm ne_g1_g5); have := hlt5; rcases hat3 with h | h <;> omega
                clear row_5
                clear one_5
                have lt_row_3 := (row_3.lt g3 rfl).2
                refine hK.out _ _ hS3 (fun hHeld => ?_)
                clear hK K
                try simp only [c4a3, Act.put, s1, s2, s3]
                refine wpAnyH_ready (rs := [6]) (by kernel_rfl) (by simp) ?_
                refine AllReadyH.cons (o := c4a6) rfl (fun K hK => ?_) AllReadyH.nil
                rw [if_pos (by rfl)]
                refine wp_piece 30 26 i0 _ 32 32 Tryd.underlying30 HI.out HZ0.out HZ1.out HZ2.out (by simp [Value.cells]) (by omega) (.tmp 75) (.tmp 77) (by rfl) (base := wC.heap.size) (by rfl) row_3 (by rfl) (piece_row one_3) (by rw [HLD.out]) HOD.out (by unfold maxLen; omega) (by omega) hHeld.below.size (np + 1) (by omega) (flat p ++ cd) (rfl) ?_
                intro hb6 g6 c6 W6 row_6 hG6 hat6
                have hS6 := Kept.moved hHeld hG6 (fun k hk => by cases hk; exact hb6)
                have one_6 := rng_moved one_3 hG6 lt_one_3 (by simpa using ne_g5_g3)
                have lt_one_6 := Nat.lt_of_lt_of_le lt_one_3 hG6.size
                have ne_g5_g6 : g5 ≠ g6 := by have := ne_g5_g3; have := lt_one_3; rcases hat6 with h | h <;> omega
                clear row_3
                clear one_3
                have lt_row_6 := (row_6.lt g6 rfl).2
                refine hK.out _ _ hS6 (fun hHeld => ?_)
                clear hK K
                try simp only [c4a6, Act.put, s1, s2, s3]
                refine wpAnyH_ready (rs := [12]) (by kernel_rfl) (by simp) ?_
                refine AllReadyH.cons (o := c4a12) rfl (fun K hK => ?_) AllReadyH.nil
                rw [if_pos (by rfl)]
                unfold c4a12
                go_simp
                have hS12 := Kept.alloc hHeld (.cells #[.slice ua np uc, .slice (some ⟨g6, 0, none⟩) (np + 1) c6, .slice ua h2 uc] 30)
                refine hK.out _ _ hS12 (fun hHeld => ?_)
                clear hK K
                try simp only [c4a12, Act.put, s1, s2, s3]
                refine wpAnyH_take (i := 13) (oi := c4a13) (v := ?_) rfl (by kernel_rfl) (by kernel_rfl) (by kernel_rfl) (fun _ _ _ h => h) (Or.inl ⟨by rfl, ?_⟩) hHeld ?_
                rotate_left
                · (intro w hSw; (try dsimp only at hSw); unfold c4a13; go_simp <;> with_reducible rfl)
                try simp only [c4a13, Act.put, s1, s2, s3]
                refine wpAnyH_done (by kernel_rfl) ?_ _
                go_wp2_with fail
                go_meet
                exact ⟨_, g6, c6, rfl, rfl, rfl, hHeld, cell_new3 0 _ _ _ _ rfl, cell_new3 1 _ _ _ _ rfl, cell_new3 2 _ _ _ _ rfl, by simp, World.ownsRow.alloc row_6 _⟩
            · skip
              rw [if_pos (by rfl)]
              refine wp_one30 (.tmp 76) (by rfl) cd (by rfl) HLD.out ?_
              intro g5 W5 hle5 hlt5 hG5 one_5
              have hS5 := Kept.moved hHeld hG5 (fun _ h => by cases h)
              refine hK.out _ _ hS5 (fun hHeld => ?_)
              clear hK K
              try simp only [c4a5, Act.put, s1, s2, s3]
              refine wpAnyH_ready (rs := [1]) (by kernel_rfl) (by simp) ?_
              refine AllReadyH.cons (o := c4a1) rfl (fun K hK => ?_) AllReadyH.nil
              rw [if_pos (by rfl)]
              refine wp_new30 (by rfl) ?_
              intro g1 W1 hle1 hlt1 hG1 hn1
              have row_1 := hn1 wC.heap.size hHeld.below.size
              clear hn1
              have hS1 := Kept.moved hHeld hG1 (fun _ h => by cases h)
              have ne_g5_g1 : g5 ≠ g1 := by have := hlt5; have := hle1; omega
              have one_1 := rng_moved one_5 hG1 hlt5 (by simp)
              have lt_one_1 := Nat.lt_of_lt_of_le hlt5 hG1.size
              clear one_5 hlt5
              refine hK.out _ _ hS1 (fun hHeld => ?_)
              clear hK K
              try simp only [c4a1, Act.put, s1, s2, s3]
              refine wpAnyH_ready (rs := [3]) (by kernel_rfl) (by simp) ?_
              refine AllReadyH.cons (o := c4a3) rfl (fun K hK => ?_) AllReadyH.nil
              rw [if_pos (by rfl)]
              refine wp_piece 30 26 i0 _ 32 32 Tryd.underlying30 HI.out HZ0.out HZ1.out HZ2.out (by simp [Value.cells]) (by omega) (.tmp 73) (.tmp 74) (by rfl) (base := wC.heap.size) (by rfl) row_1 (by rfl) (HPU.out _ hHeld) HFL.out HFO.out (by unfold maxLen; omega) (by omega) hHeld.below.size (np) (by omega) (flat p) (by simp) ?_
              intro hb3 g3 c3 W3 row_3 hG3 hat3
              have hS3 := Kept.moved hHeld hG3 (fun k hk => by cases hk; exact hb3)
              have one_3 := rng_moved one_1 hG3 lt_one_1 (by simpa using ne_g5_g1)
              have lt_one_3 := Nat.lt_of_lt_of_le lt_one_1 hG3.size
              have ne_g5_g3 : g5 ≠ g3 := by have := ne_g5_g1; have := lt_one_1; rcases hat3 with h | h <;> omega
              clear one_1
              clear row_1
              have lt_row_3 := (row_3.lt g3 rfl).2
              refine hK.out _ _ hS3 (fun hHeld => ?_)
              clear hK K
              try simp only [c4a3, Act.put, s1, s2, s3]
              refine wpAnyH_ready (rs := [6]) (by kernel_rfl) (by simp) ?_
              refine AllReadyH.cons (o := c4a6) rfl (fun K hK => ?_) AllReadyH.nil
              rw [if_pos (by rfl)]
              refine wp_piece 30 26 i0 _ 32 32 Tryd.underlying30 HI.out HZ0.out HZ1.out HZ2.out (by simp [Value.cells]) (by omega) (.tmp 75) (.tmp 77) (by rfl) (base := wC.heap.size) (by rfl) row_3 (by rfl) (piece_row one_3) (by rw [HLD.out]) HOD.out (by unfold maxLen; omega) (by omega) hHeld.below.size (np + 1) (by omega) (flat p ++ cd) (rfl) ?_
              intro hb6 g6 c6 W6 row_6 hG6 hat6
              have hS6 := Kept.moved hHeld hG6 (fun k hk => by cases hk; exact hb6)
              have one_6 := rng_moved one_3 hG6 lt_one_3 (by simpa using ne_g5_g3)
              have lt_one_6 := Nat.lt_of_lt_of_le lt_one_3 hG6.size
              have ne_g5_g6 : g5 ≠ g6 := by have := ne_g5_g3; have := lt_one_3; rcases hat6 with h | h <;> omega
              clear one_3
              clear row_3
              have lt_row_6 := (row_6.lt g6 rfl).2
              refine hK.out _ _ hS6 (fun hHeld => ?_)
              clear hK K
              try simp only [c4a6, Act.put, s1, s2, s3]
              refine wpAnyH_ready (rs := [12]) (by kernel_rfl) (by simp) ?_
              refine AllReadyH.cons (o := c4a12) rfl (fun K hK => ?_) AllReadyH.nil
              rw [if_pos (by rfl)]
              unfold c4a12
              go_simp
              have hS12 := Kept.alloc hHeld (.cells #[.slice ua np uc, .slice (some ⟨g6, 0, none⟩) (np + 1) c6, .slice ua h2 uc] 30)
              refine hK.out _ _ hS12 (fun hHeld => ?_)
              clear hK K
              try simp only [c4a12, Act.put, s1, s2, s3]
              refine wpAnyH_take (i := 13) (oi := c4a13) (v := ?_) rfl (by kernel_rfl) (by kernel_rfl) (by kernel_rfl) (fun _ _ _ h => h) (Or.inl ⟨by rfl, ?_⟩) hHeld ?_
              rotate_left
              · (intro w hSw; (try dsimp only at hSw); unfold c4a13; go_simp <;> with_reducible rfl)
              try simp only [c4a13, Act.put, s1, s2, s3]
              refine wpAnyH_done (by kernel_rfl) ?_ _
              go_wp2_with fail
              go_meet
              exact ⟨_, g6, c6, rfl, rfl, rfl, hHeld, cell_new3 0 _ _ _ _ rfl, cell_new3 1 _ _ _ _ rfl, cell_new3 2 _ _ _ _ rfl, by simp, World.ownsRow.alloc row_6 _⟩
          case rest =>
            obtain ⟨G, gl, cl, rfl, rfl, rfl, hKD, hd0, hd1, hd2, hGl, hOl⟩ := hcut
            obtain ⟨wD, rfl⟩ : ∃ x : World, x = wc := ⟨_, rfl⟩
            have HKD := Lib.hid hKD
            have HKW0 : Hid (Kept w0 wD) := Lib.hid (HKC.out.next hKD.below)
            have hDl : Digs wD wD.heap.size (.slice (some ⟨gl, 0, none⟩) (np + 1) cl) (p ++ [d]) := own_digs' (by rw [flat_snoc, HCD.out]; exact hOl) (by rw [List.length_append, HNP.out]; rfl) (fun x hx => by
              rcases List.mem_append.1 hx with h | h
              · exact HH32.out x h
              · rw [List.mem_singleton.1 h]; exact HD.out)
            have hDq : Digs wD wD.heap.size (.slice ua np uc) p := (HDC.out.below hKD.below).mono hKD.below.size
            have hDh : Digs wD wD.heap.size (.slice ua h2 uc) (p.take h2) := digs_take hDq h2 (by rw [HNP.out]; have := HH2.out; omega)
            have HC3 : Hid (∀ W, Kept wD W → ∀ r, r < 3 → ∃ uu pp, W.cell? ⟨G, r, none⟩ = some uu ∧ Digs wD wD.heap.size uu pp ∧ pp.length ≤ 1000001) := Lib.hid fun W hW r hr => by
              have h : r = 0 ∨ r = 1 ∨ r = 2 := by omega
              rcases h with rfl | rfl | rfl
              · exact ⟨_, p, (hW.below.cell (p := ⟨G, 0, none⟩) hGl).trans hd0, hDq, by rw [HNP.out]; omega⟩
              · exact ⟨_, p ++ [d], (hW.below.cell (p := ⟨G, 1, none⟩) hGl).trans hd1, hDl, by rw [List.length_append, HNP.out]; simp; omega⟩
              · exact ⟨_, p.take h2, (hW.below.cell (p := ⟨G, 2, none⟩) hGl).trans hd2, hDh, by rw [List.length_take, HNP.out]; omega⟩
            clear hKD hd0 hd1 hd2 hGl hOl hDl hDq hDh
            go_wp2_with fail
            go_loopw [86] (fun j W => ∃ r : Nat, j = .int .i64 r ∧ r ≤ 3 ∧ Kept wD W) (fun j _ => 3 - (intOf j).toNat)
            case atStart => exact ⟨0, rfl, by omega, Kept.refl _⟩
            case round =>
              obtain ⟨r, rfl, hr, hKq⟩ := hrel
              have HKq := Lib.hid hKq
              clear hKq
              by_cases hlr : r < 3
              · have hrd : decide ((r : Int) < 3) = true := by simp; omega
                have hrn : decide (r < 3) = true := by simpa using hlr
                have r1 : (r : Int) < 3 := by omega
                have r0 : (0 : Int) ≤ (r : Int) := by omega
                obtain ⟨uu, pp, hcr, hDr, hpr⟩ := HC3.out wr HKq.out r hlr
                have hKWr : Kept w0 wr := HKW0.out.next HKq.out.below
                obtain ⟨c, e1, hcl, h22, h23⟩ := climbs_same wr d HD.out pp uu ii mm ((hDr.below HKq.out.below).mono HKq.out.below.size) (by omega) (HTW.out wr hKWr).1 (HTW.out wr hKWr).2
                obtain ⟨_, a3, c3, rfl, hc3, hm3, _⟩ := hDr
                obtain ⟨n3, hn3⟩ : ∃ n3, pp.length = n3 := ⟨_, rfl⟩
                obtain ⟨cc, hcc⟩ : ∃ cc, cells8 c = cc := ⟨_, rfl⟩
                rw [hn3] at hcr h22 h23 hc3
                rw [dv_eq d, dv_eq c, HCD.out, hcc] at h22 h23
                have HLC : Hid (cc.length = 32) := Lib.hid (by rw [← hcc, cells8_len, hcl])
                have HOC : Hid (∀ v ∈ cc, v.oneCell' = true) := Lib.hid (by rw [← hcc]; exact one_cells8 _)
                have HZC : Hid ((Tryd.prog.info? 26).map (·.size) = some cc.length) := by show _ = _; rw [HLC.out]; exact Tryd.info26
                have hq2 : ∀ W : World, (Op.equalIn 10000 26 (.agg cc.toArray) (.agg cc.toArray)).run Tryd.prog W = .ok true W := fun W => by
                  have h := eq_any c hcl W
                  rw [dv_eq, hcc] at h; exact h
                have H22 := Lib.hid h22
                have H23 := Lib.hid h23
                have HRW : Hid (∀ W, Kept wr W → W.rangeAt w.heap.size 0 cd) := Lib.hid fun W hW => HRD.out W (hKWr.next hW.below)
                unfold maxLen at hm3
                clear h22 h23 hcl hn3 hcc hpr hKWr
                go_wp2_with (first
                  | (refine wpList_load_mid rfl 26 (.tmp 7) (by rfl) w.heap.size 0 (by rfl) cd _ (HRW.out wr (Kept.refl _)) Tryd.underlying26 rfl HZD.out ?_; simp only [Act.put, s1, s2, s3])
                  | (refine (H22.out wr (Kept.refl _)).mono ?_; rintro e w8 ⟨rfl, hK8, hB8⟩)
                  | (refine store_new rfl 26 _ _ (by rfl) w8.heap.size w8.heap.size cc _ (by rfl) (by rfl) ((Below.refl w8.heap.size w8).alloc (Nat.le_refl _) _) (Nat.le_refl _) (Arr.new w8 _ 26) (by rw [HLC.out]; rfl) HZC.out HOC.out ?_; intro W9 hB9 hA9 hz9; simp only [Act.put]; have hz9' : w8.heap.size < W9.heap.size := by (simp at hz9; omega)
                     have hK9 : Kept wr W9 := hK8.next hB9)
                  | (refine wpList_load_mid rfl 26 (.tmp 7) (by rfl) w.heap.size 0 (by rfl) cd _ (HRW.out W9 hK9) Tryd.underlying26 rfl HZD.out ?_; simp only [Act.put, s1, s2, s3])
                  | (refine (H23.out W9 hK9).mono ?_; rintro e w10 ⟨rfl, hK10, hB10⟩)
                  | (refine store_new rfl 26 _ _ (by rfl) w10.heap.size w10.heap.size cc _ (by rfl) (by rfl) ((Below.refl w10.heap.size w10).alloc (Nat.le_refl _) _) (Nat.le_refl _) (Arr.new w10 _ 26) (by rw [HLC.out]; rfl) HZC.out HOC.out ?_; intro W11 hB11 hA11 hz11; simp only [Act.put]; have hA9' : Arr W11 w8.heap.size cc := (hA9.below hB10 hz9').below hB11 (by have := hB10.size; omega)
                     have HK11 := Lib.hid (hK10.next hB11))
                  | (refine wpList_load_mid rfl 26 (.tmp 20) (by rfl) w8.heap.size 0 (by rfl) cc _ hA9'.at_ Tryd.underlying26 rfl HZC.out ?_; simp only [Act.put, s1, s2, s3])
                  | (refine wpList_load_mid rfl 26 (.tmp 22) (by rfl) w10.heap.size 0 (by rfl) cc _ hA11.at_ Tryd.underlying26 rfl HZC.out ?_; simp only [Act.put, s1, s2, s3]))
                go_roundw
                case rel => exact ⟨r + 1, by simp, by omega, HKq.out.next HK11.out.below⟩
                case measure => simp [intOf]; omega
              · obtain rfl : r = 3 := by omega
                have hrd : decide (((3 : Nat) : Int) < 3) = false := by simp
                go_wp2
                go_roundw
                case rel => exact ⟨s + 1, by simp, by omega, HKs.out.next (HKD.out.next HKq.out.below).below⟩
                case measure => simp [intOf]; omega
        · obtain rfl : s = 2 := by omega
          have hsd : decide (((2 : Nat) : Int) < 2) = false := by simp
          go_wp2
          go_roundw
          case rel => exact ⟨t + 1, by simp, by omega, HKr.out.next (HKB.out.next HKs.out.below).below⟩
          case measure => simp [intOf]; omega
    · obtain rfl : t = 2 := by omega
      have hdd : decide (((2 : Nat) : Int) < 2) = false := by simp
      go_wp2
      go_ret
      exact ⟨rfl, HB0.out.trans ((HK1.out.next HKw.out.below).below.mono HB0.out.size)⟩
end Go.Proofs.YtnddejhbncgchaaDoor
