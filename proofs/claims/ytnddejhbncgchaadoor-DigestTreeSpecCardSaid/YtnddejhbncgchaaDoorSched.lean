/- The numbers w(0) to w(63) of a block. -/
import Derived.Test.YtnddejhbncgchaaDoorArr
namespace Go.Proofs.YtnddejhbncgchaaDoor
open Go.RowKit

theorem pror (x : (BitVec 32)) (n : Int) (h : n = 2 ∨ n = 6 ∨ n = 7 ∨ n = 11 ∨ n = 13 ∨ n = 17 ∨ n = 18 ∨ n = 19 ∨ n = 22 ∨ n = 25) (w : World) : Calls Tryd.prog 48 #[.int .u32 x.toNat, .int .i64 n] w fun e w' => e = .returned (.int .u32 (ror x n.toNat).toNat) ∧ w' = w := by
  rcases h with rfl | rfl | rfl | rfl | rfl | rfl | rfl | rfl | rfl | rfl
  · exact pror2 x w
  · exact pror6 x w
  · exact pror7 x w
  · exact pror11 x w
  · exact pror13 x w
  · exact pror17 x w
  · exact pror18 x w
  · exact pror19 x w
  · exact pror22 x w
  · exact pror25 x w
theorem rror (x : (BitVec 32)) (n : Int) (h : n = 2 ∨ n = 6 ∨ n = 7 ∨ n = 11 ∨ n = 13 ∨ n = 17 ∨ n = 18 ∨ n = 19 ∨ n = 22 ∨ n = 25) (w : World) : Calls Tryd.prog 51 #[.int .u32 x.toNat, .int .i64 n] w fun e w' => e = .returned (.int .u32 (ror x n.toNat).toNat) ∧ ∃ q, w' = w.drewN q := by
  rcases h with rfl | rfl | rfl | rfl | rfl | rfl | rfl | rfl | rfl | rfl
  · exact rror2 x w
  · exact rror6 x w
  · exact rror7 x w
  · exact rror11 x w
  · exact rror13 x w
  · exact rror17 x w
  · exact rror18 x w
  · exact rror19 x w
  · exact rror22 x w
  · exact rror25 x w

theorem w_shr3' (x : (BitVec 32)) : (x.toNat : Int) / (8 : Int) = ((x >>> 3).toNat : Int) := w_shr x 3
theorem w_shr10' (x : (BitVec 32)) : (x.toNat : Int) / (1024 : Int) = ((x >>> 10).toNat : Int) := w_shr x 10
/-- Nothing of wr has turned but what lies at one place. -/
def KB (wr : World) (b t : Nat) (W : World) : Prop := ∃ W', Kept wr W' ∧ (W = W' ∨ ∃ v, W = W'.setCell ⟨b, t, none⟩ v)
theorem KB.kept {wr W : World} {b t : Nat} (h : Kept wr W) : KB wr b t W := ⟨W, h, .inl rfl⟩
theorem KB.set {wr W : World} {b t : Nat} (h : Kept wr W) (v : Value) : KB wr b t (W.setCell ⟨b, t, none⟩ v) := ⟨W, h, .inr ⟨v, rfl⟩⟩
theorem KB.cell {wr W : World} {b t : Nat} (h : KB wr b t W) {i : Nat} {u : Value} (hb : b < wr.heap.size) (hi : i ≠ t) (hu : wr.cell? ⟨b, i, none⟩ = some u) : W.cell? ⟨b, i, none⟩ = some u := by
  obtain ⟨W', hk, rfl | ⟨v, rfl⟩⟩ := h
  · exact (hk.below.cell (p := ⟨b, i, none⟩) hb).trans hu
  · rw [World.cell?_setCell_other _ _ _ _ (fun h => by injection h; first | exact hi (by assumption) | exact hi (by symm; assumption))]
    exact (hk.below.cell (p := ⟨b, i, none⟩) hb).trans hu

/-- A result that is an array in a block. -/
theorem results_cell_mid {P : Program} {fn : Func} {p : Tmp} {ty : TypeId} (h : fn.results = #[.cell p ty]) (tmps : Array Value) (w : World) (b : Nat) (cs : List Value) (d : TypeDesc)
    (hp : tmps.getD p undef = .pointer (some ⟨b, 0, none⟩)) (hc : w.rangeAt b 0 cs)
    (hu : P.underlying ty = some d) (hd : d.isRow = true) (hi : (P.info? ty).map (·.size) = some cs.length) :
    (results fn tmps).run P w = .ok (.agg cs.toArray) w := by
  have hp' : tmps[p]?.getD undef = .pointer (some ⟨b, 0, none⟩) := by simpa using hp
  simp [results, h, hp', asAddr, run_loadVar_mid w b 0 ty cs d hc hu hd hi]

/-- The bytes l lie in block db from off on. -/
def BytesIn (W : World) (db off : Nat) (l : List UInt8) : Prop := ∀ i (h : i < l.length), W.cell? ⟨db, off + i, none⟩ = some (.int .u8 l[i].toNat)
theorem BytesIn.below {W W' : World} {B db off : Nat} {l : List UInt8} (h : BytesIn W db off l) (hb : Below B W W') (hlt : db < B) : BytesIn W' db off l :=
  fun i hi => (hb.cell (p := ⟨db, off + i, none⟩) hlt).trans (h i hi)
theorem BytesIn.getD {W : World} {db off : Nat} {l : List UInt8} (h : BytesIn W db off l) {i : Nat} (hi : i < l.length) : W.cell? ⟨db, off + i, none⟩ = some (.int .u8 (l.getD i 0).toNat) := by
  rw [h i hi]; simp [List.getD, List.getElem?_eq_getElem hi]

theorem sch_len (blk : List UInt8) : ∀ t, (sch blk t).length = t
  | 0 => rfl
  | t + 1 => by rw [sch, List.length_append, sch_len blk t]; rfl
/-- What the array holds when t numbers are laid. -/
def part (blk : List UInt8) (t : Nat) : List (BitVec 32) := sch blk t ++ List.replicate (64 - t) 0
theorem part_len (blk : List UInt8) {t : Nat} (h : t ≤ 64) : (part blk t).length = 64 := by simp [part, sch_len]; omega
theorem part_next (blk : List UInt8) {t : Nat} (h : t < 64) : (ws (part blk t)).set t (.int .u32 (if t < 16 then word blk (4 * t) else ext (sch blk t) t).toNat) = ws (part blk (t + 1)) := by
  have e : ws (part blk (t + 1)) = ws (sch blk t) ++ .int .u32 (if t < 16 then word blk (4 * t) else ext (sch blk t) t).toNat :: ws (List.replicate (64 - (t + 1)) 0) := by
    simp [ws, part, sch]
  have e2 : ws (part blk t) = ws (sch blk t) ++ .int .u32 (0#32).toNat :: ws (List.replicate (64 - (t + 1)) 0) := by
    have : 64 - t = (64 - (t + 1)) + 1 := by omega
    simp [ws, part, this, List.replicate_succ]
  rw [e, e2, List.set_append_right _ _ (by simp [ws, sch_len])]
  simp [ws, sch_len]
theorem part_get (blk : List UInt8) {t i : Nat} (h : i < t) : (ws (part blk t))[i]? = some (.int .u32 ((sch blk t).getD i 0).toNat) := by
  have hl := sch_len blk t
  simp [ws, part, List.getElem?_append, hl, h, List.getD]
theorem part_is (blk : List UInt8) : part blk 64 = sch blk 64 := by simp [part]

set_option maxRecDepth 100000 in
set_option maxHeartbeats 4000000 in
theorem sched_any (w : World) (db off : Nat) (blk : List UInt8) (hl : blk.length = 64) (hb : BytesIn w db off blk) (hdb : db < w.heap.size) :
    Calls Tryd.prog 47 #[.slice (some ⟨db, off, none⟩) 64 64] w fun e w' => e = .returned (.agg (ws (sch blk 64)).toArray) ∧ Below w.heap.size w w' := by
  have HB := Lib.hid hb
  have HL := Lib.hid hl
  clear hb hl
  go_enter Tryd.func47, Tryd.ntmps47
  go_wp2
  go_loopw [7] (fun i wr => ∃ t : Nat, i = .int .i64 t ∧ t ≤ 16 ∧ Below w.heap.size w wr ∧ Arr wr w.heap.size (ws (part blk t)))
    (fun i _ => 16 - (intOf i).toNat)
  case atStart => exact ⟨0, rfl, by omega, by go_grown, Arr.new w _ 69⟩
  case round =>
    obtain ⟨t, rfl, ht, hB, hA⟩ := hrel
    by_cases hlt : t < 16
    · have hd : decide ((t : Int) < 16) = true := by simp; omega
      have hbd := BytesIn.below HB.out hB hdb
      have hwd := word55 db (off + 4 * t) (64 - 4 * t) (64 - 4 * t) (blk.getD (4 * t) 0) (blk.getD (4 * t + 1) 0) (blk.getD (4 * t + 2) 0) (blk.getD (4 * t + 3) 0) wr (by omega) (hbd.getD (by rw [HL.out]; omega)) (by rw [Nat.add_assoc]; exact hbd.getD (by rw [HL.out]; omega)) (by rw [Nat.add_assoc]; exact hbd.getD (by rw [HL.out]; omega)) (by rw [Nat.add_assoc]; exact hbd.getD (by rw [HL.out]; omega))
      have hsz : w.heap.size < wr.heap.size := hA.lt (by rw [ws_len, part_len blk (by omega)]; omega)
      have hlen : t < (ws (part blk t)).length := by rw [ws_len, part_len blk (by omega)]; omega
      have hc : ∀ q, (wr.drewN q).cell? ⟨w.heap.size, t, none⟩ = some ((ws (part blk t))[t]'hlen) := fun q => (hA.drewN q).cell (List.getElem?_eq_getElem hlen)
      have hf : ∀ q, (wr.drewN q).frozen? ⟨w.heap.size, t, none⟩ = false := fun q => (hA.drewN q).frozen hlen
      obtain ⟨u, hu⟩ : ∃ u, (ws (part blk t))[t]'hlen = u := ⟨_, rfl⟩
      rw [hu] at hc
      have HWD := Lib.hid hwd
      have HA := Lib.hid hA
      have HBB := Lib.hid hB
      clear hwd hA hB hbd hu hlen
      go_wp2_with fail
      refine HWD.out.mono ?_
      rintro e w' ⟨rfl, q, rfl⟩
      have hcq := hc q
      have hfq := hf q
      have HX := Lib.hid (show (if t < 16 then word blk (4 * t) else ext (sch blk t) t) = word blk (4 * t) from if_pos hlt)
      obtain ⟨x, hx⟩ : ∃ x, (b32 (blk.getD (4 * t) 0) <<< 24 ||| b32 (blk.getD (4 * t + 1) 0) <<< 16 ||| b32 (blk.getD (4 * t + 2) 0) <<< 8 ||| b32 (blk.getD (4 * t + 3) 0)) = x := ⟨_, rfl⟩
      rw [hx]
      have HXX := Lib.hid hx
      clear hx hc hf
      go_wp2
      go_roundw
      case rel =>
        refine ⟨t + 1, by simp, by omega, (below_drewN HBB.out q).setCell (p := ⟨w.heap.size, t, none⟩) (Nat.le_refl _) _, ?_⟩
        rw [← part_next blk (by omega), HX.out, show word blk (4 * t) = x from HXX.out]
        exact (HA.out.drewN q).set t _
      case measure => simp [intOf]; omega
    · obtain rfl : t = 16 := by omega
      go_wp2
      go_loopw [4] (fun i wr => ∃ t : Nat, i = .int .i64 t ∧ 16 ≤ t ∧ t ≤ 64 ∧ Below w.heap.size w wr ∧ Arr wr w.heap.size (ws (part blk t)))
        (fun i _ => 64 - (intOf i).toNat)
      case atStart => exact ⟨16, rfl, by omega, by omega, hB, hA⟩
      case round =>
        obtain ⟨t, rfl, ht0, ht, hB, hA⟩ := hrel
        by_cases hlt : t < 64
        · have hd : decide ((t : Int) < 64) = true := by simp; omega
          have hsz : w.heap.size < wr.heap.size := hA.lt (by rw [ws_len, part_len blk (by omega)]; omega)
          have hlen : t < (ws (part blk t)).length := by rw [ws_len, part_len blk (by omega)]; omega
          obtain ⟨u, hu⟩ : ∃ u, (ws (part blk t))[t]'hlen = u := ⟨_, rfl⟩
          have hc : ∀ W, Kept wr W → W.cell? ⟨w.heap.size, t, none⟩ = some u := fun W hW => (hW.below.cell (p := ⟨w.heap.size, t, none⟩) hsz).trans (hu ▸ hA.cell (List.getElem?_eq_getElem hlen))
          have hf : ∀ W, Kept wr W → W.frozen? ⟨w.heap.size, t, none⟩ = false := fun W hW => (hW.below.frozen (p := ⟨w.heap.size, t, none⟩) hsz).trans (hA.frozen hlen)
          have hg : ∀ k, 0 < k → k ≤ 16 → ∀ W, KB wr w.heap.size t W → W.cell? ⟨w.heap.size, t - k, none⟩ = some (.int .u32 ((sch blk t).getD (t - k) 0).toNat) := fun k hk0 hk W hW => hW.cell hsz (by omega) (hA.cell (part_get blk (by omega)))
          obtain ⟨x15, h15⟩ : ∃ x, (sch blk t).getD (t - 15) 0 = x := ⟨_, rfl⟩
          obtain ⟨x2, h2⟩ : ∃ x, (sch blk t).getD (t - 2) 0 = x := ⟨_, rfl⟩
          obtain ⟨x16, h16⟩ : ∃ x, (sch blk t).getD (t - 16) 0 = x := ⟨_, rfl⟩
          obtain ⟨x7, h7⟩ : ∃ x, (sch blk t).getD (t - 7) 0 = x := ⟨_, rfl⟩
          have g15 := hg 15 (by omega) (by omega)
          have g2 := hg 2 (by omega) (by omega)
          have g16 := hg 16 (by omega) (by omega)
          have g7 := hg 7 (by omega) (by omega)
          rw [h15] at g15
          rw [h2] at g2
          rw [h16] at g16
          rw [h7] at g7
          have c15 := g15 wr (KB.kept (Kept.refl _))
          have c2 := g2 wr (KB.kept (Kept.refl _))
          have HV : Hid ((if t < 16 then word blk (4 * t) else ext (sch blk t) t) = x16 + (ror x15 7 ^^^ ror x15 18 ^^^ x15 >>> 3) + x7 + (ror x2 17 ^^^ ror x2 19 ^^^ x2 >>> 10)) := by
            show _ = _
            rw [if_neg (by omega)]
            simp only [ext, h15, h2, h16, h7]
          have HA := Lib.hid hA
          have HBB := Lib.hid hB
          clear hA hB hu hlen hg h15 h2 h16 h7
          go_wp2
          go_quiet (fail)
          clear c15 c2
          obtain ⟨n16, hn16⟩ : ∃ n : Nat, t - 16 = n := ⟨_, rfl⟩
          obtain ⟨n7, hn7⟩ : ∃ n : Nat, t - 7 = n := ⟨_, rfl⟩
          rw [hn16] at g16
          rw [hn7] at g7
          have q16 : IntKind.i64.wrap (n16 : Int) = (n16 : Int) := by rw [IntKind.wrap_i64]; omega
          have q7 : IntKind.i64.wrap (n7 : Int) = (n7 : Int) := by rw [IntKind.wrap_i64]; omega
          have r16 : (t : Int) - 16 = (n16 : Int) := by omega
          have r7 : (t : Int) - 7 = (n7 : Int) := by omega
          have b1 : (n16 : Int) < 64 := by omega
          have b2 : (n7 : Int) < 64 := by omega
          have b5 : (t : Int) < 64 := by omega
          have b6 : (0 : Int) ≤ (t : Int) := by omega
          have b7 : (0 : Int) ≤ (n16 : Int) := by omega
          have b8 : (0 : Int) ≤ (n7 : Int) := by omega
          obtain ⟨W1, hW1⟩ : ∃ W1, W1 = wr.drewN nq := ⟨_, rfl⟩
          rw [← hW1]
          have hK1 : Kept wr W1 := by rw [hW1]; exact Kept.drewN (Kept.refl _) _
          have hc1 := hc _ hK1
          have hf1 := hf _ hK1
          have hS1 : KB wr w.heap.size t W1 := KB.kept hK1
          have HW1 := Lib.hid hW1
          clear hW1
          go_wp2
          clear hc hf
          go_region_held3 (fun W => KB wr w.heap.size t W) (first | assumption | exact KB.kept (Kept.drew hK1) | exact KB.set hK1 _ | exact KB.set (Kept.drew hK1) _)
            (first | (go_at_call 48; refine (pror _ _ (by decide) _).mono ?_; rintro e w' ⟨rfl, rfl⟩))
          go_wp2
          go_roundw
          case rel =>
            iterate 44 apply Exists.intro
            refine ⟨?_, rfl⟩
            have key : ∀ E : Int, E = ((x16 + (ror x15 7 ^^^ ror x15 18 ^^^ x15 >>> 3) + x7 + (ror x2 17 ^^^ ror x2 19 ^^^ x2 >>> 10)).toNat : Int) →
                Below w.heap.size w (W1.setCell ⟨w.heap.size, t, none⟩ (.int .u32 E)) ∧ Arr (W1.setCell ⟨w.heap.size, t, none⟩ (.int .u32 E)) w.heap.size (ws (part blk (t + 1))) := by
              rintro _ rfl
              refine ⟨(HBB.out.trans (hK1.below.mono (by omega))).setCell (p := ⟨w.heap.size, t, none⟩) (Nat.le_refl _) _, ?_⟩
              rw [← part_next blk (by omega), HV.out]
              exact (HA.out.below hK1.below hsz).set t _
            refine ⟨t + 1, by simp, by omega, by omega, Below.drew (And.left (key _ ?_)), Arr.drew (And.right (key _ ?_))⟩ <;>
              simp only [← IntKind.wrap_u32', w_shr3', w_shr10', w_xor, w_add]
          case measure => simp [intOf]; omega
        · obtain rfl : t = 64 := by omega
          rw [part_is] at hA
          have hcl : (ws (sch blk 64)).length = 64 := by rw [ws_len, sch_len]
          have ho1 := all_oneCell_toArray (one_ws (sch blk 64))
          obtain ⟨cs, hcs⟩ : ∃ cs, ws (sch blk 64) = cs := ⟨_, rfl⟩
          rw [hcs] at hA hcl ho1
          have hd1 := hA.at_
          have ht1 : wr.there w.heap.size 0 cs.toArray.size := by simpa using hA.there
          have hz1 : (Tryd.prog.info? 69).map (·.size) = some cs.length := by rw [hcl]; exact Tryd.info69
          have hz2 : (Tryd.prog.info? 69).map (·.size) = some cs.toArray.size := by simpa using hz1
          have hst := hA.stored (cs' := cs) rfl
          have hbw := below_setCells (B := w.heap.size) (a := w) (b := w.heap.size) (Nat.le_refl _) cs 0 wr hB
          have HD1 := Lib.hid hd1
          have HT1 := Lib.hid ht1
          have HZ1 := Lib.hid hz1
          have HZ2 := Lib.hid hz2
          have HO1 := Lib.hid ho1
          have HST := Lib.hid hst
          have HBW := Lib.hid hbw
          have HCS := Lib.hid hcs
          clear hd1 ht1 hz1 hz2 ho1 hA hcl hB hcs hst hbw
          go_wp2_with (refine wpList_load_mid rfl 69 _ (by rfl) w.heap.size 0 (by rfl) _ _ HD1.out Tryd.underlying69 rfl HZ1.out ?_; refine wpList_store_mid rfl 69 _ _ (by rfl) w.heap.size 0 _ (by rfl) (by rfl) HT1.out HZ2.out HO1.out ?_)
          refine bodyPost_ret (results_cell_mid rfl _ _ _ _ _ rfl HST.out.at_ Tryd.underlying69 rfl HZ1.out) rfl ?_
          exact ⟨by rw [HCS.out], HBW.out⟩
end Go.Proofs.YtnddejhbncgchaaDoor
