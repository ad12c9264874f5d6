/- The reference's block: the state after 64 bytes. The reference's numbers, and its padding. The reference's padding. The reference's Sum. The reference's Tagged, and its Chain. -/
import Derived.Test.YtfmngeemhfpeiaaDoorMB
namespace Go.Proofs.YtfmngeemhfpeiaaDoor
open Go.RowKit

theorem KB.drewN {wr W : World} {b t : Nat} (h : KB wr b t W) (q : Nat) : KB wr b t (W.drewN q) := by
  obtain ⟨W', hk, rfl | ⟨v, rfl⟩⟩ := h
  · exact ⟨_, hk.drewN q, .inl rfl⟩
  · exact ⟨W'.drewN q, hk.drewN q, .inr ⟨v, rfl⟩⟩
theorem But.drewN {w1 W : World} {sb : Nat} (h : But w1 sb W) (q : Nat) : But w1 sb (W.drewN q) := ⟨h.os, h.tape, h.output, h.size, h.block⟩
theorem But.next {w1 W W' : World} {sb : Nat} (h : But w1 sb W) (k : Below W.heap.size W W') : But w1 sb W' := gtrans h (gbelow k)
theorem Tryd.built103 : Tryd.prog.built 103 [] = some (ws (List.replicate 64 (0#32))).toArray := by kernel_rfl
theorem run_build69 (W : World) : (Instr.build 103 (List.toArray ([] : List (Nat × Value)))).run Tryd.prog W = .ok (.agg (ws (List.replicate 64 (0#32))).toArray) W := run_build W 103 #[] _ Tryd.built103
theorem built50 (a b c d e f g h : (BitVec 32)) : Tryd.prog.built 75 [(0, .int .u32 a.toNat), (1, .int .u32 b.toNat), (2, .int .u32 c.toNat), (3, .int .u32 d.toNat), (4, .int .u32 e.toNat), (5, .int .u32 f.toNat), (6, .int .u32 g.toNat), (7, .int .u32 h.toNat)] = some (ws [a, b, c, d, e, f, g, h]).toArray := by kernel_rfl
theorem part_zero (blk : List UInt8) : part blk 0 = List.replicate 64 (0#32) := rfl

theorem three_a (w : World) (A B C : Array Value) (t1 t2 t3 : TypeId) : Arr (((w.alloc (.cells A t1)).alloc (.cells B t2)).alloc (.cells C t3)) w.heap.size A.toList :=
  ((Arr.new w A t1).alloc (by simp) _).alloc (by simp; omega) _
theorem three_b (w : World) (A B C : Array Value) (t1 t2 t3 : TypeId) : Arr (((w.alloc (.cells A t1)).alloc (.cells B t2)).alloc (.cells C t3)) (w.heap.size + 1) B.toList := by
  have h := (Arr.new (w.alloc (.cells A t1)) B t2).alloc (by simp) (.cells C t3)
  rwa [World.size_alloc] at h
theorem three_c (w : World) (A B C : Array Value) (t1 t2 t3 : TypeId) : Arr (((w.alloc (.cells A t1)).alloc (.cells B t2)).alloc (.cells C t3)) (w.heap.size + 2) C.toList := by
  have h := Arr.new ((w.alloc (.cells A t1)).alloc (.cells B t2)) C t3
  rwa [World.size_alloc, World.size_alloc] at h

set_option maxRecDepth 100000 in
set_option maxHeartbeats 8000000 in
theorem rblk_any (w : World) (db off cap : Nat) (s : St) (blk : List UInt8) (hl : blk.length = 64) (hb : BytesIn w db off blk) (hdb : db < w.heap.size) (hcap : 64 ≤ cap) (hcm : cap ≤ maxLen)
    (hnum : ∀ W : World, Calls Tryd.prog 105 #[] W fun e w' => e = .returned (.agg (ws ks).toArray) ∧ Below W.heap.size W w') :
    Calls Tryd.prog 96 #[.agg (ws s.list).toArray, .slice (some ⟨db, off, none⟩) 64 cap] w fun e w' => e = .returned (.agg (ws (press s blk).list).toArray) ∧ Below w.heap.size w w' := by
  have HB := Lib.hid hb
  have HL := Lib.hid hl
  have HNUM := Lib.hid hnum
  unfold maxLen at hcm
  clear hb hl hnum
  have hz64 : (ws (List.replicate 64 (0#32))).length = 64 := by simp [ws]
  obtain ⟨z64, hz⟩ : ∃ z, ws (List.replicate 64 (0#32)) = z := ⟨_, rfl⟩
  have HZ := Lib.hid hz
  have hlz : z64.length = 64 := by rw [← hz]; exact hz64
  have HLZ := Lib.hid hlz
  have HZZ : Hid ((Tryd.prog.info? 103).map (·.size) = some z64.length) := by show _ = _; rw [hlz]; exact Tryd.info103
  have HOZ : Hid (∀ v ∈ z64, v.oneCell' = true) := Lib.hid (by rw [← hz]; exact one_ws _)
  have HB69 : Hid (∀ W : World, (Instr.build 103 (List.toArray ([] : List (Nat × Value)))).run Tryd.prog W = .ok (.agg z64.toArray) W) := Lib.hid fun W => by rw [run_build69, hz]
  clear hz hlz hz64
  show Calls Tryd.prog 96 #[.agg #[.int .u32 s.a.toNat, .int .u32 s.b.toNat, .int .u32 s.c.toNat, .int .u32 s.d.toNat, .int .u32 s.e.toNat, .int .u32 s.f.toNat, .int .u32 s.g.toNat, .int .u32 s.h.toNat], .slice (some ⟨db, off, none⟩) 64 cap] w _
  go_enter Tryd.func96, Tryd.ntmps96
  go_wp2_with (first
    | (refine wpList_build_run rfl 103 [] (by rfl) [] _ (by rfl) (HB69.out _) ?_; simp only [Act.put, List.setIfInBounds_toArray, List.set_cons_zero, List.set_cons_succ])
    | (refine wpList_world (fun W => Below w.heap.size w W ∧ Arr W w.heap.size (ws s.list) ∧ Arr W (w.heap.size + 1) (ws (List.replicate 8 (0#32))) ∧ Arr W (w.heap.size + 2) (ws (List.replicate 64 (0#32))) ∧ w.heap.size + 2 < W.heap.size)
         ⟨by go_grown, three_a w _ _ _ 75 75 103, three_b w _ _ _ 75 75 103, three_c w _ _ _ 75 75 103, by simp⟩ ?_
       rintro W0 ⟨hB0, hS0, hR0, hW0, hz0⟩
       refine store_new2 rfl 103 _ _ (by rfl) w.heap.size (w.heap.size + 2) z64 _ (by rfl) (by rfl) hB0 (by omega) hW0 (by rw [HLZ.out]; rfl) HZZ.out HOZ.out ?_
       intro W1 hB1 hA1 hO1 hz1
       have hS1 := hO1 w.heap.size _ (by omega) hS0
       have hR1 := hO1 (w.heap.size + 1) _ (by omega) hR0
       have hA1' : Arr W1 (w.heap.size + 2) (ws (part blk 0)) := by rw [part_zero, HZ.out]; exact hA1
       have hz1' : w.heap.size + 2 < W1.heap.size := by omega
       have HB1 := Lib.hid hB1
       have HS1 := Lib.hid hS1
       have HR1 := Lib.hid hR1
       have HA1 := Lib.hid hA1'
       clear hB0 hS0 hR0 hW0 hz0 hB1 hA1 hO1 hz1 hS1 hR1 hA1'))
  go_loopw [6] (fun i wr => ∃ t : Nat, i = .int .i64 t ∧ t ≤ 16 ∧ But W1 (w.heap.size + 2) wr ∧ Arr wr (w.heap.size + 2) (ws (part blk t)))
    (fun i _ => 16 - (intOf i).toNat)
  case atStart => exact ⟨0, rfl, by omega, gbelow (Below.refl _ _), HA1.out⟩
  case round =>
    obtain ⟨t, rfl, ht, hG, hA⟩ := hrel
    have hbt : w.heap.size + 2 < wr.heap.size := by have := hG.size; omega
    by_cases hlt : t < 16
    · have hd : decide ((t : Int) < 16) = true := by simp; omega
      have hbd : BytesIn wr db off blk := fun i hi => by
        have h1 := (HB1.out.cell (p := ⟨db, off + i, none⟩) hdb).trans (HB.out i hi)
        exact (World.cell?_of_block (a := ⟨db, off + i, none⟩) (hG.block db (by omega) (by intro e; injection e with e; omega))).trans h1
      have hwd := word50 db (off + 4 * t) 4 (cap - 4 * t) (blk.getD (4 * t) 0) (blk.getD (4 * t + 1) 0) (blk.getD (4 * t + 2) 0) (blk.getD (4 * t + 3) 0) wr (by omega) (hbd.getD (by rw [HL.out]; omega)) (by rw [Nat.add_assoc]; exact hbd.getD (by rw [HL.out]; omega)) (by rw [Nat.add_assoc]; exact hbd.getD (by rw [HL.out]; omega)) (by rw [Nat.add_assoc]; exact hbd.getD (by rw [HL.out]; omega))
      have hlen : t < (ws (part blk t)).length := by rw [ws_len, part_len blk (by omega)]; omega
      have hc : ∀ q, (wr.drewN q).cell? ⟨w.heap.size + 2, t, none⟩ = some ((ws (part blk t))[t]'hlen) := fun q => (hA.drewN q).cell (List.getElem?_eq_getElem hlen)
      have hf : ∀ q, (wr.drewN q).frozen? ⟨w.heap.size + 2, t, none⟩ = false := fun q => (hA.drewN q).frozen hlen
      obtain ⟨u, hu⟩ : ∃ u, (ws (part blk t))[t]'hlen = u := ⟨_, rfl⟩
      rw [hu] at hc
      have HWD := Lib.hid hwd
      have HA := Lib.hid hA
      have HG := Lib.hid hG
      have f1 : (4 : Int) * (t : Int) + 4 ≤ (cap : Int) := by omega
      clear hwd hA hG hbd hu hlen
      go_wp2_with fail
      refine HWD.out.mono ?_
      rintro e w' ⟨rfl, q, rfl⟩
      have hcq := hc q
      have hfq := hf q
      have HX := Lib.hid (show (if t < 16 then word blk (4 * t) else ext (sch blk t) t) = word blk (4 * t) from if_pos hlt)
      obtain ⟨x, hx⟩ : ∃ x, (b32 (blk.getD (4 * t) 0) <<< 24 ||| b32 (blk.getD (4 * t + 1) 0) <<< 16 ||| b32 (blk.getD (4 * t + 2) 0) <<< 8 ||| b32 (blk.getD (4 * t + 3) 0)) = x := ⟨_, rfl⟩
      rw [hx]
      have HXX := Lib.hid hx
      clear hx hc hf
      go_wp2
      go_roundw
      case rel =>
        refine ⟨t + 1, by simp, by omega, (HG.out.drewN q).set _ _, ?_⟩
        rw [← part_next blk (by omega), HX.out, show word blk (4 * t) = x from HXX.out]
        exact (HA.out.drewN q).set t _
      case measure => simp [intOf]; omega
    · obtain rfl : t = 16 := by omega
      have d16 : decide (((16 : Nat) : Int) < 16) = false := by decide
      have HG := Lib.hid hG
      have HA := Lib.hid hA
      clear hG hA
      go_wp2
      go_loopw [7] (fun i wr => ∃ t : Nat, i = .int .i64 t ∧ 16 ≤ t ∧ t ≤ 64 ∧ But W1 (w.heap.size + 2) wr ∧ Arr wr (w.heap.size + 2) (ws (part blk t)))
        (fun i _ => 64 - (intOf i).toNat)
      case atStart => exact ⟨16, rfl, by omega, by omega, HG.out, HA.out⟩
      case round =>
        obtain ⟨t, rfl, ht0, ht, hB, hA⟩ := hrel
        clear hbt
        have hsz : w.heap.size + 2 < wr.heap.size := by have := hB.size; omega
        by_cases hlt : t < 64
        · have hd : decide ((t : Int) < 64) = true := by simp; omega
          have hlen : t < (ws (part blk t)).length := by rw [ws_len, part_len blk (by omega)]; omega
          obtain ⟨u, hu⟩ : ∃ u, (ws (part blk t))[t]'hlen = u := ⟨_, rfl⟩
          have hc : ∀ W, Kept wr W → W.cell? ⟨w.heap.size + 2, t, none⟩ = some u := fun W hW => (hW.below.cell (p := ⟨w.heap.size + 2, t, none⟩) hsz).trans (hu ▸ hA.cell (List.getElem?_eq_getElem hlen))
          have hf : ∀ W, Kept wr W → W.frozen? ⟨w.heap.size + 2, t, none⟩ = false := fun W hW => (hW.below.frozen (p := ⟨w.heap.size + 2, t, none⟩) hsz).trans (hA.frozen hlen)
          have hg : ∀ k, 0 < k → k ≤ 16 → ∀ W, KB wr (w.heap.size + 2) t W → W.cell? ⟨w.heap.size + 2, t - k, none⟩ = some (.int .u32 ((sch blk t).getD (t - k) 0).toNat) := fun k hk0 hk W hW => hW.cell hsz (by omega) (hA.cell (part_get blk (by omega)))
          obtain ⟨x15, h15⟩ : ∃ x, (sch blk t).getD (t - 15) 0 = x := ⟨_, rfl⟩
          obtain ⟨x2, h2⟩ : ∃ x, (sch blk t).getD (t - 2) 0 = x := ⟨_, rfl⟩
          obtain ⟨x16, h16⟩ : ∃ x, (sch blk t).getD (t - 16) 0 = x := ⟨_, rfl⟩
          obtain ⟨x7, h7⟩ : ∃ x, (sch blk t).getD (t - 7) 0 = x := ⟨_, rfl⟩
          have g15 := hg 15 (by omega) (by omega)
          have g2 := hg 2 (by omega) (by omega)
          have g16 := hg 16 (by omega) (by omega)
          have g7 := hg 7 (by omega) (by omega)
          rw [h15] at g15
          rw [h2] at g2
          rw [h16] at g16
          rw [h7] at g7
          have c15 := g15 wr (KB.kept (Kept.refl _))
          have c2 := g2 wr (KB.kept (Kept.refl _))
          have HV : Hid ((if t < 16 then word blk (4 * t) else ext (sch blk t) t) = x16 + (ror x15 7 ^^^ ror x15 18 ^^^ x15 >>> 3) + x7 + (ror x2 17 ^^^ ror x2 19 ^^^ x2 >>> 10)) := by
            show _ = _
            rw [if_neg (by omega)]
            simp only [ext, h15, h2, h16, h7]
          have HA := Lib.hid hA
          have HBB := Lib.hid hB
          obtain ⟨n16, hn16⟩ : ∃ n : Nat, t - 16 = n := ⟨_, rfl⟩
          obtain ⟨n7, hn7⟩ : ∃ n : Nat, t - 7 = n := ⟨_, rfl⟩
          rw [hn16] at g16
          rw [hn7] at g7
          have q16 : IntKind.i64.wrap (n16 : Int) = (n16 : Int) := by rw [IntKind.wrap_i64]; omega
          have q7 : IntKind.i64.wrap (n7 : Int) = (n7 : Int) := by rw [IntKind.wrap_i64]; omega
          have r16 : (t : Int) - 16 = (n16 : Int) := by omega
          have r7 : (t : Int) - 7 = (n7 : Int) := by omega
          have b1 : (n16 : Int) < 64 := by omega
          have b2 : (n7 : Int) < 64 := by omega
          have b5 : (t : Int) < 64 := by omega
          have b6 : (0 : Int) ≤ (t : Int) := by omega
          have b7 : (0 : Int) ≤ (n16 : Int) := by omega
          have b8 : (0 : Int) ≤ (n7 : Int) := by omega
          have hK1 : Kept wr wr := Kept.refl _
          have hc1 := hc _ hK1
          have hf1 := hf _ hK1
          have hS1 : KB wr (w.heap.size + 2) t wr := KB.kept hK1
          clear hA hB hu hlen hg h15 h2 h16 h7 hc hf
          go_wp2
          go_region_held3 (fun W => KB wr (w.heap.size + 2) t W) (first | assumption | exact KB.kept (Kept.drew hK1) | exact KB.drewN (by assumption) _ | exact KB.set hK1 _ | exact KB.set (Kept.drew hK1) _ | exact KB.set (Kept.drewN hK1 _) _)
            (first | (go_at_call 104; refine (rror _ _ (by decide) _).mono ?_; rintro e w' ⟨rfl, q, rfl⟩))
          go_wp2
          go_roundw
          case rel =>
            iterate 44 apply Exists.intro
            refine ⟨?_, rfl⟩
            have key : ∀ (Q : Nat) (E : Int), E = ((x16 + (ror x15 7 ^^^ ror x15 18 ^^^ x15 >>> 3) + x7 + (ror x2 17 ^^^ ror x2 19 ^^^ x2 >>> 10)).toNat : Int) →
                But W1 (w.heap.size + 2) ((wr.drewN Q).setCell ⟨w.heap.size + 2, t, none⟩ (.int .u32 E)) ∧ Arr ((wr.drewN Q).setCell ⟨w.heap.size + 2, t, none⟩ (.int .u32 E)) (w.heap.size + 2) (ws (part blk (t + 1))) := by
              rintro Q _ rfl
              refine ⟨(HBB.out.drewN Q).set _ _, ?_⟩
              rw [← part_next blk (by omega), HV.out]
              exact (HA.out.drewN Q).set t _
            refine ⟨t + 1, by simp, by omega, by omega, And.left (key _ _ ?_), And.right (key _ _ ?_)⟩ <;>
              simp only [← IntKind.wrap_u32', w_shr3', w_shr10', w_xor, w_add]
          case measure => simp [intOf]; omega
        · obtain rfl : t = 64 := by omega
          rw [part_is] at hA
          have d64 : decide (((64 : Nat) : Int) < 64) = false := by decide
          obtain ⟨cs, hcs⟩ : ∃ cs, ws (sch blk 64) = cs := ⟨_, rfl⟩
          rw [hcs] at hA
          have HCS := Lib.hid hcs
          have HA := Lib.hid hA
          have HB := Lib.hid hB
          clear hA hB hcs
          have hlk : (ws ks).length = 64 := by rw [ws_len]; decide
          obtain ⟨ck, hck⟩ : ∃ ck, ws ks = ck := ⟨_, rfl⟩
          rw [hck] at hlk
          have HLK := Lib.hid hlk
          have HCK := Lib.hid hck
          have HZK : Hid ((Tryd.prog.info? 103).map (·.size) = some ck.length) := by show _ = _; rw [hlk]; exact Tryd.info103
          have HOK : Hid (∀ v ∈ ck, v.oneCell' = true) := Lib.hid (by rw [← hck]; exact one_ws _)
          have hnum : ∀ W : World, Calls Tryd.prog 105 #[] W fun e w' => e = .returned (.agg ck.toArray) ∧ Below W.heap.size W w' := fun W => by have h := HNUM.out W; rwa [hck] at h
          have HN2 := Lib.hid hnum
          clear hlk hck hnum
          go_wp2_with fail
          refine (HN2.out wr).mono ?_
          rintro e w2 ⟨rfl, hB2⟩
          have HB2 := Lib.hid hB2
          have hs2 := hB2.size
          clear hB2
          go_wp2_with (refine store_new rfl 103 _ _ (by rfl) w2.heap.size w2.heap.size ck _ (by rfl) (by rfl) ((Below.refl w2.heap.size w2).alloc (Nat.le_refl _) _) (Nat.le_refl _) (Arr.new w2 _ 103) (by rw [HLK.out]; rfl) HZK.out HOK.out ?_; intro W3 hB3 hA3 hz3)
          have hlt3 : w2.heap.size < W3.heap.size := by simp at hz3; omega
          have hG3 : But W1 (w.heap.size + 2) W3 := (HB.out.next HB2.out).next hB3
          have hS3 : Arr W3 w.heap.size (ws s.list) := HS1.out.moved hG3 (by omega) (by intro e; injection e with e; omega)
          have hR3 : Arr W3 (w.heap.size + 1) (ws (List.replicate 8 (0#32))) := HR1.out.moved hG3 (by omega) (by intro e; injection e with e; omega)
          have hW3 : Arr W3 (w.heap.size + 2) cs := (HA.out.below HB2.out (by omega)).below hB3 (by omega)
          have hw3 : Below w.heap.size w W3 := below_grow HB1.out hG3 (fun k e => by cases e; omega) (by omega)
          have c0 : W3.cell? ⟨w.heap.size, 0, none⟩ = some (.int .u32 s.a.toNat) := hS3.cell rfl
          have c1 : W3.cell? ⟨w.heap.size, 1, none⟩ = some (.int .u32 s.b.toNat) := hS3.cell rfl
          have c2 : W3.cell? ⟨w.heap.size, 2, none⟩ = some (.int .u32 s.c.toNat) := hS3.cell rfl
          have c3 : W3.cell? ⟨w.heap.size, 3, none⟩ = some (.int .u32 s.d.toNat) := hS3.cell rfl
          have c4 : W3.cell? ⟨w.heap.size, 4, none⟩ = some (.int .u32 s.e.toNat) := hS3.cell rfl
          have c5 : W3.cell? ⟨w.heap.size, 5, none⟩ = some (.int .u32 s.f.toNat) := hS3.cell rfl
          have c6 : W3.cell? ⟨w.heap.size, 6, none⟩ = some (.int .u32 s.g.toNat) := hS3.cell rfl
          have c7 : W3.cell? ⟨w.heap.size, 7, none⟩ = some (.int .u32 s.h.toNat) := hS3.cell rfl
          have HA3 := Lib.hid hA3
          have HS3 := Lib.hid hS3
          have HR3 := Lib.hid hR3
          have HW3 := Lib.hid hW3
          have HK3 := Lib.hid hw3
          clear hA3 hS3 hR3 hW3 hw3 hB3 hz3 hG3
          go_wp2
          go_quiet (fail)
          obtain ⟨W4, hW4⟩ : ∃ W4, W4 = W3.drewN nq := ⟨_, rfl⟩
          rw [← hW4]
          have hK4 : Kept W3 W4 := by rw [hW4]; exact Kept.drewN (Kept.refl _) _
          have HK4 := Lib.hid hK4
          clear c0 c1 c2 c3 c4 c5 c6 c7 hW4 hK4
          go_wp2
          go_loopw [11, 12, 13, 14, 15, 16, 17, 18, 19] (fun a b c d e f g h i wr => ∃ (t : Nat) (S : St), t ≤ 64 ∧ S = rnds (sch blk 64) s t ∧ a = .int .u32 S.a.toNat ∧ b = .int .u32 S.b.toNat ∧ c = .int .u32 S.c.toNat ∧ d = .int .u32 S.d.toNat
              ∧ e = .int .u32 S.e.toNat ∧ f = .int .u32 S.f.toNat ∧ g = .int .u32 S.g.toNat ∧ h = .int .u32 S.h.toNat ∧ i = .int .i64 t ∧ Kept W3 wr)
            (fun _ _ _ _ _ _ _ _ i _ => 64 - (intOf i).toNat)
          case atStart => exact ⟨0, s, by omega, rfl, rfl, rfl, rfl, rfl, rfl, rfl, rfl, rfl, rfl, HK4.out⟩
          case round =>
            obtain ⟨t, S, ht, hS, rfl, rfl, rfl, rfl, rfl, rfl, rfl, rfl, rfl, hK⟩ := hrel
            by_cases hlt : t < 64
            · have hd : decide ((t : Int) < 64) = true := by simp; omega
              obtain ⟨k, hk⟩ : ∃ k, ks.getD t 0 = k := ⟨_, rfl⟩
              obtain ⟨x, hx⟩ : ∃ x, (sch blk 64).getD t 0 = x := ⟨_, rfl⟩
              have kt : wr.cell? ⟨w2.heap.size, t, none⟩ = some (.int .u32 k.toNat) := by
                have hg : ck[t]? = some (.int .u32 k.toNat) := by
                  rw [← HCK.out, ← hk]
                  have : ks.length = 64 := by decide
                  simp [ws, List.getD, List.getElem?_eq_getElem (show t < ks.length by omega)]
                exact (HA3.out.below hK.below hlt3).cell hg
              have wt : wr.cell? ⟨w.heap.size + 1 + 1, t, none⟩ = some (.int .u32 x.toNat) := by
                have hg : cs[t]? = some (.int .u32 x.toNat) := by
                  rw [← HCS.out, ← hx]
                  have := sch_len blk 64
                  simp [ws, List.getD, List.getElem?_eq_getElem (show t < (sch blk 64).length by omega)]
                exact (HW3.out.below hK.below (by omega)).cell hg
              have b5 : (t : Int) < 64 := by omega
              have b6 : (0 : Int) ≤ (t : Int) := by omega
              have HSS := Lib.hid hS
              have HKK := Lib.hid hk
              have HXX := Lib.hid hx
              have HK := Lib.hid hK
              clear hS hk hx hK
              go_wp2
              go_quiet (first | (go_at_call 104; exact Calls.quiet_of (rror _ _ (by decide) _)))
              obtain ⟨p, hp⟩ : ∃ p, pOf S k x = p := ⟨_, rfl⟩
              rw [p_form, hp]
              have HP := Lib.hid hp
              obtain ⟨W5, hW5⟩ : ∃ W5, W5 = wr.drewN nq := ⟨_, rfl⟩
              rw [← hW5]
              have HK5 : Hid (Kept W3 W5) := by show Kept W3 W5; rw [hW5]; exact Kept.drewN HK.out _
              clear hp kt wt hW5
              go_wp2_with (first | (go_at_call 104; refine (rror _ _ (by decide) _).mono ?_; rintro e w' ⟨rfl, q, rfl⟩))
              go_roundw
              case rel =>
                have hr : rnds (sch blk 64) s (t + 1) = round S k x := by rw [rnds, HKK.out, HXX.out, ← HSS.out]
                refine ⟨t + 1, rnds (sch blk 64) s (t + 1), by omega, rfl, ?_, ?_, ?_, ?_, ?_, ?_, ?_, ?_, by simp, (HK5.out.drewN _)⟩ <;> rw [hr, round_is, HP.out] <;> first | rfl | (refine vint ?_; simp only [w_xor, w_and, qOf, BitVec.toNat_add]; omega)
              case measure => simp [intOf]; omega
            · obtain rfl : t = 64 := by omega
              have d64 : decide (((64 : Nat) : Int) < 64) = false := by decide
              have hS4 := HS3.out.below hK.below (by omega)
              have hR4 := HR3.out.below hK.below (by omega)
              have hpr : press s blk = s.add S := by rw [press, ← hS]
              have HPR := Lib.hid hpr
              have HKW := Lib.hid (HK3.out.trans (hK.below.mono HK3.out.size))
              have c0 : wr.cell? ⟨w.heap.size, 0, none⟩ = some (.int .u32 s.a.toNat) := hS4.cell rfl
              have c1 : wr.cell? ⟨w.heap.size, 1, none⟩ = some (.int .u32 s.b.toNat) := hS4.cell rfl
              have c2 : wr.cell? ⟨w.heap.size, 2, none⟩ = some (.int .u32 s.c.toNat) := hS4.cell rfl
              have c3 : wr.cell? ⟨w.heap.size, 3, none⟩ = some (.int .u32 s.d.toNat) := hS4.cell rfl
              have c4 : wr.cell? ⟨w.heap.size, 4, none⟩ = some (.int .u32 s.e.toNat) := hS4.cell rfl
              have c5 : wr.cell? ⟨w.heap.size, 5, none⟩ = some (.int .u32 s.f.toNat) := hS4.cell rfl
              have c6 : wr.cell? ⟨w.heap.size, 6, none⟩ = some (.int .u32 s.g.toNat) := hS4.cell rfl
              have c7 : wr.cell? ⟨w.heap.size, 7, none⟩ = some (.int .u32 s.h.toNat) := hS4.cell rfl
              obtain ⟨c8, hc8⟩ : ∃ c8, ws (s.add S).list = c8 := ⟨_, rfl⟩
              have hl8 : c8.length = 8 := by rw [← hc8]; rfl
              have HL8 := Lib.hid hl8
              have HC8 := Lib.hid hc8
              have HZ8 : Hid ((Tryd.prog.info? 75).map (·.size) = some c8.length) := by show _ = _; rw [hl8]; kernel_rfl
              have HO8 : Hid (∀ v ∈ c8, v.oneCell' = true) := Lib.hid (by rw [← hc8]; exact one_ws _)
              have hb50 : ∀ (W : World) (e0 e1 e2 e3 e4 e5 e6 e7 : Int), e0 = ((s.a + S.a).toNat : Int) → e1 = ((s.b + S.b).toNat : Int) → e2 = ((s.c + S.c).toNat : Int) → e3 = ((s.d + S.d).toNat : Int) → e4 = ((s.e + S.e).toNat : Int) → e5 = ((s.f + S.f).toNat : Int) → e6 = ((s.g + S.g).toNat : Int) → e7 = ((s.h + S.h).toNat : Int) →
                  (Instr.build 75 (List.toArray [(0, .int .u32 e0), (1, .int .u32 e1), (2, .int .u32 e2), (3, .int .u32 e3), (4, .int .u32 e4), (5, .int .u32 e5), (6, .int .u32 e6), (7, .int .u32 e7)])).run Tryd.prog W = .ok (.agg c8.toArray) W := by
                rintro W _ _ _ _ _ _ _ _ rfl rfl rfl rfl rfl rfl rfl rfl
                rw [← hc8]
                exact run_build W 75 _ _ (built50 _ _ _ _ _ _ _ _)
              have HB50 := Lib.hid hb50
              have HR4 := Lib.hid hR4
              have hbr : w.heap.size + 1 < wr.heap.size := by have := hK.size; omega
              clear hS hS4 hR4 hpr hK hc8 hl8 hb50
              go_wp2_with (first
                | (refine wpList_build_run rfl 75 [(0, Operand.tmp 161), (1, Operand.tmp 165), (2, Operand.tmp 169), (3, Operand.tmp 173), (4, Operand.tmp 177), (5, Operand.tmp 181), (6, Operand.tmp 185), (7, Operand.tmp 189)] (by rfl) _ _ (by rfl) (HB50.out _ _ _ _ _ _ _ _ _ (by simp only [← IntKind.wrap_u32', w_add]) (by simp only [← IntKind.wrap_u32', w_add]) (by simp only [← IntKind.wrap_u32', w_add]) (by simp only [← IntKind.wrap_u32', w_add]) (by simp only [← IntKind.wrap_u32', w_add]) (by simp only [← IntKind.wrap_u32', w_add]) (by simp only [← IntKind.wrap_u32', w_add]) (by simp only [← IntKind.wrap_u32', w_add])) ?_; simp only [Act.put, List.setIfInBounds_toArray, List.set_cons_zero, List.set_cons_succ])
                | (refine store_new rfl 75 _ _ (by rfl) w.heap.size (w.heap.size + 1) c8 _ (by rfl) (by rfl) HKW.out (by omega) HR4.out (by rw [HL8.out]; rfl) HZ8.out HO8.out ?_; intro W9 hB9 hA9 hz9))
              refine bodyPost_ret (results_cell_mid rfl _ _ _ _ _ rfl hA9.at_ Tryd.underlying75 rfl HZ8.out) rfl ?_
              exact ⟨by rw [HPR.out, HC8.out], hB9⟩
end Go.Proofs.YtfmngeemhfpeiaaDoor

namespace Go.Proofs.YtfmngeemhfpeiaaDoor
open Go.RowKit

theorem builtK : Tryd.prog.built 103 [(0, .int .u32 1116352408), (1, .int .u32 1899447441), (2, .int .u32 3049323471), (3, .int .u32 3921009573), (4, .int .u32 961987163), (5, .int .u32 1508970993), (6, .int .u32 2453635748), (7, .int .u32 2870763221), (8, .int .u32 3624381080), (9, .int .u32 310598401), (10, .int .u32 607225278), (11, .int .u32 1426881987), (12, .int .u32 1925078388), (13, .int .u32 2162078206), (14, .int .u32 2614888103), (15, .int .u32 3248222580), (16, .int .u32 3835390401), (17, .int .u32 4022224774), (18, .int .u32 264347078), (19, .int .u32 604807628), (20, .int .u32 770255983), (21, .int .u32 1249150122), (22, .int .u32 1555081692), (23, .int .u32 1996064986), (24, .int .u32 2554220882), (25, .int .u32 2821834349), (26, .int .u32 2952996808), (27, .int .u32 3210313671), (28, .int .u32 3336571891), (29, .int .u32 3584528711), (30, .int .u32 113926993), (31, .int .u32 338241895), (32, .int .u32 666307205), (33, .int .u32 773529912), (34, .int .u32 1294757372), (35, .int .u32 1396182291), (36, .int .u32 1695183700), (37, .int .u32 1986661051), (38, .int .u32 2177026350), (39, .int .u32 2456956037), (40, .int .u32 2730485921), (41, .int .u32 2820302411), (42, .int .u32 3259730800), (43, .int .u32 3345764771), (44, .int .u32 3516065817), (45, .int .u32 3600352804), (46, .int .u32 4094571909), (47, .int .u32 275423344), (48, .int .u32 430227734), (49, .int .u32 506948616), (50, .int .u32 659060556), (51, .int .u32 883997877), (52, .int .u32 958139571), (53, .int .u32 1322822218), (54, .int .u32 1537002063), (55, .int .u32 1747873779), (56, .int .u32 1955562222), (57, .int .u32 2024104815), (58, .int .u32 2227730452), (59, .int .u32 2361852424), (60, .int .u32 2428436474), (61, .int .u32 2756734187), (62, .int .u32 3204031479), (63, .int .u32 3329325298)] = some (ws ks).toArray := by kernel_rfl
set_option maxRecDepth 100000 in
set_option maxHeartbeats 2000000 in
theorem numbers_any (w : World) : Calls Tryd.prog 105 #[] w fun e w' => e = .returned (.agg (ws ks).toArray) ∧ Below w.heap.size w w' := by
  have hlk : (ws ks).length = 64 := by rw [ws_len]; decide
  have hbk : ∀ W : World, (Instr.build 103 (List.toArray [(0, .int .u32 1116352408), (1, .int .u32 1899447441), (2, .int .u32 3049323471), (3, .int .u32 3921009573), (4, .int .u32 961987163), (5, .int .u32 1508970993), (6, .int .u32 2453635748), (7, .int .u32 2870763221), (8, .int .u32 3624381080), (9, .int .u32 310598401), (10, .int .u32 607225278), (11, .int .u32 1426881987), (12, .int .u32 1925078388), (13, .int .u32 2162078206), (14, .int .u32 2614888103), (15, .int .u32 3248222580), (16, .int .u32 3835390401), (17, .int .u32 4022224774), (18, .int .u32 264347078), (19, .int .u32 604807628), (20, .int .u32 770255983), (21, .int .u32 1249150122), (22, .int .u32 1555081692), (23, .int .u32 1996064986), (24, .int .u32 2554220882), (25, .int .u32 2821834349), (26, .int .u32 2952996808), (27, .int .u32 3210313671), (28, .int .u32 3336571891), (29, .int .u32 3584528711), (30, .int .u32 113926993), (31, .int .u32 338241895), (32, .int .u32 666307205), (33, .int .u32 773529912), (34, .int .u32 1294757372), (35, .int .u32 1396182291), (36, .int .u32 1695183700), (37, .int .u32 1986661051), (38, .int .u32 2177026350), (39, .int .u32 2456956037), (40, .int .u32 2730485921), (41, .int .u32 2820302411), (42, .int .u32 3259730800), (43, .int .u32 3345764771), (44, .int .u32 3516065817), (45, .int .u32 3600352804), (46, .int .u32 4094571909), (47, .int .u32 275423344), (48, .int .u32 430227734), (49, .int .u32 506948616), (50, .int .u32 659060556), (51, .int .u32 883997877), (52, .int .u32 958139571), (53, .int .u32 1322822218), (54, .int .u32 1537002063), (55, .int .u32 1747873779), (56, .int .u32 1955562222), (57, .int .u32 2024104815), (58, .int .u32 2227730452), (59, .int .u32 2361852424), (60, .int .u32 2428436474), (61, .int .u32 2756734187), (62, .int .u32 3204031479), (63, .int .u32 3329325298)])).run Tryd.prog W = .ok (.agg (ws ks).toArray) W := fun W => run_build W 103 _ _ builtK
  obtain ⟨ck, hck⟩ : ∃ ck, ws ks = ck := ⟨_, rfl⟩
  rw [hck] at hlk
  have HLK := Lib.hid hlk
  have HZK : Hid ((Tryd.prog.info? 103).map (·.size) = some ck.length) := by show _ = _; rw [hlk]; exact Tryd.info103
  have HOK : Hid (∀ v ∈ ck, v.oneCell' = true) := Lib.hid (by rw [← hck]; exact one_ws _)
  rw [hck] at hbk ⊢
  have HBK := Lib.hid hbk
  clear hlk hck hbk
  go_enter Tryd.func105, Tryd.ntmps105
  go_wp2_with (first
    | (refine wpList_build_run rfl 103 [(0, Operand.const (.int .u32 1116352408)), (1, Operand.const (.int .u32 1899447441)), (2, Operand.const (.int .u32 3049323471)), (3, Operand.const (.int .u32 3921009573)), (4, Operand.const (.int .u32 961987163)), (5, Operand.const (.int .u32 1508970993)), (6, Operand.const (.int .u32 2453635748)), (7, Operand.const (.int .u32 2870763221)), (8, Operand.const (.int .u32 3624381080)), (9, Operand.const (.int .u32 310598401)), (10, Operand.const (.int .u32 607225278)), (11, Operand.const (.int .u32 1426881987)), (12, Operand.const (.int .u32 1925078388)), (13, Operand.const (.int .u32 2162078206)), (14, Operand.const (.int .u32 2614888103)), (15, Operand.const (.int .u32 3248222580)), (16, Operand.const (.int .u32 3835390401)), (17, Operand.const (.int .u32 4022224774)), (18, Operand.const (.int .u32 264347078)), (19, Operand.const (.int .u32 604807628)), (20, Operand.const (.int .u32 770255983)), (21, Operand.const (.int .u32 1249150122)), (22, Operand.const (.int .u32 1555081692)), (23, Operand.const (.int .u32 1996064986)), (24, Operand.const (.int .u32 2554220882)), (25, Operand.const (.int .u32 2821834349)), (26, Operand.const (.int .u32 2952996808)), (27, Operand.const (.int .u32 3210313671)), (28, Operand.const (.int .u32 3336571891)), (29, Operand.const (.int .u32 3584528711)), (30, Operand.const (.int .u32 113926993)), (31, Operand.const (.int .u32 338241895)), (32, Operand.const (.int .u32 666307205)), (33, Operand.const (.int .u32 773529912)), (34, Operand.const (.int .u32 1294757372)), (35, Operand.const (.int .u32 1396182291)), (36, Operand.const (.int .u32 1695183700)), (37, Operand.const (.int .u32 1986661051)), (38, Operand.const (.int .u32 2177026350)), (39, Operand.const (.int .u32 2456956037)), (40, Operand.const (.int .u32 2730485921)), (41, Operand.const (.int .u32 2820302411)), (42, Operand.const (.int .u32 3259730800)), (43, Operand.const (.int .u32 3345764771)), (44, Operand.const (.int .u32 3516065817)), (45, Operand.const (.int .u32 3600352804)), (46, Operand.const (.int .u32 4094571909)), (47, Operand.const (.int .u32 275423344)), (48, Operand.const (.int .u32 430227734)), (49, Operand.const (.int .u32 506948616)), (50, Operand.const (.int .u32 659060556)), (51, Operand.const (.int .u32 883997877)), (52, Operand.const (.int .u32 958139571)), (53, Operand.const (.int .u32 1322822218)), (54, Operand.const (.int .u32 1537002063)), (55, Operand.const (.int .u32 1747873779)), (56, Operand.const (.int .u32 1955562222)), (57, Operand.const (.int .u32 2024104815)), (58, Operand.const (.int .u32 2227730452)), (59, Operand.const (.int .u32 2361852424)), (60, Operand.const (.int .u32 2428436474)), (61, Operand.const (.int .u32 2756734187)), (62, Operand.const (.int .u32 3204031479)), (63, Operand.const (.int .u32 3329325298))] (by rfl) _ _ (by rfl) (HBK.out _) ?_; simp only [Act.put, List.setIfInBounds_toArray])
    | (refine store_new rfl 103 _ _ (by rfl) w.heap.size w.heap.size ck _ (by rfl) (by rfl) ((Below.refl w.heap.size w).alloc (Nat.le_refl _) _) (Nat.le_refl _) (Arr.new w _ 103) (by rw [HLK.out]; rfl) HZK.out HOK.out ?_; intro W3 hB3 hA3 hz3))
  refine bodyPost_ret (results_cell_mid rfl _ _ _ _ _ rfl hA3.at_ Tryd.underlying103 rfl HZK.out) rfl ?_
  exact ⟨rfl, hB3⟩

/-- An append of whatever can be read, in a plain region. -/
theorem wpList_piece (t e : TypeId) (i : TypeInfo) (z : Value) (size bytes : Nat) (ht : Tryd.prog.underlying t = some (.slice e)) (hi : Tryd.prog.info? e = some i) (hz : i.zero = some z) (hsize : i.size = size) (hby : i.bytes = bytes) (hzs : z.cells.size = size) (hsz : 0 < size)
    {ops : Array Oper} {rest : List Oper} {o : Oper} {a : Act} {W : World} {Q : Exit → Act → World → Prop} (hgd : o.guard = none) (sl x : Operand) (ho : o.op = .call { callee := .builtin .append, args := #[sl, x], argTypes := #[t, t] })
    {base g n cap : Nat} {xs : List Value} (hs : a.eval sl = .slice (some ⟨g, 0, none⟩) n cap) (hown : W.ownsRow base e size (.slice (some ⟨g, 0, none⟩) n cap) n xs) {v : Value} {m : Nat} {news : List Value} (hx : a.eval x = v) (hv : Piece W v m news) (hl : news.length = m * size) (h1 : ∀ u ∈ news, u.oneCell' = true)
    (h63 : n + m ≤ maxLen) (hbytes : (n + m) * bytes ≤ 140737488355328) (hbase : base ≤ W.heap.size) (N : Nat) (hN : n + m = N) (ys : List Value) (hys : xs ++ news = ys)
    (h : base ≤ g → ∀ g' cap' W', W'.ownsRow base e size (.slice (some ⟨g', 0, none⟩) N cap') N ys → W.grownBy W' (some g) → (g' = g ∨ g' = W.heap.size) → wpList Tryd.prog ops Q rest (a.put o.dst (.slice (some ⟨g', 0, none⟩) N cap')) W') : wpList Tryd.prog ops Q (o :: rest) a W :=
  wpList_plain hgd fun _ hK => wp_piece t e i z size bytes ht hi hz hsize hby hzs hsz sl x ho hs hown hx hv hl h1 h63 hbytes hbase N hN ys hys fun hb g' cap' W' h2 h3 h4 => hK _ _ (h hb g' cap' W' h2 h3 h4)
end Go.Proofs.YtfmngeemhfpeiaaDoor

namespace Go.Proofs.YtfmngeemhfpeiaaDoor
open Go.RowKit

theorem be64_len (m : Nat) : (be64 m).length = 8 := rfl
/-- How many zeros there are. -/
def zs (n : Nat) : Nat := (119 - n % 64) % 64
theorem pad_eq (b : List UInt8) : pad b = (b ++ 0x80 :: List.replicate (zs b.length) 0) ++ be64 (8 * b.length) := by simp [pad, zs]
theorem cells8_append (a b : List UInt8) : cells8 a ++ cells8 b = cells8 (a ++ b) := by simp [cells8]
theorem buildOne (W : World) (x : Int) : (Instr.buildSlice 34 1 (List.toArray [(0, .int .u8 x)])).run Tryd.prog W = .ok (.slice (some ⟨W.heap.size, 0, none⟩) 1 1) (W.alloc (.cells #[.int .u8 x] 5)) := by
  obtain ⟨i, hi, h⟩ := Option.map_eq_some_iff.1 Tryd.infoU8
  simp only [Prod.mk.injEq] at h
  have hn : ∀ C, (newRow 5 C).run Tryd.prog W = .ok ⟨W.heap.size, 0, none⟩ (W.alloc (.cells C 5)) := fun _ => rfl
  simp [Instr.buildSlice, run_underlying Tryd.underlying34, sizeOf, typeInfo, zeroValue, hi, h.1, h.2.1, Value.cells]
  simp [Instr.fill, hn, Value.cells]
  have hz2 : (Array.map (fun x => [Value.int IntKind.u8 0][x % 1]?.getD default) (Array.range 1)) = #[Value.int IntKind.u8 0] := by kernel_rfl
  rw [hz2]
  rfl

set_option maxRecDepth 100000 in
set_option maxHeartbeats 4000000 in
theorem padded_any (w : World) (v : Value) (b : List UInt8) (hv : BytesAt w w.heap.size v b) (hb : b.length ≤ 1000000) :
    Calls Tryd.prog 95 #[v] w fun e w' => ∃ g c, e = .returned (.slice (some ⟨g, 0, none⟩) (pad b).length c) ∧ w'.ownsRow w.heap.size 5 1 (.slice (some ⟨g, 0, none⟩) (pad b).length c) (pad b).length (cells8 (pad b)) ∧ Below w.heap.size w w' := by
  obtain ⟨j0, hj0, hy0, hy1, hy2⟩ := info_parts Tryd.infoU8
  have HPV := Lib.hid (piece_bytes hv)
  have HPD := Lib.hid (pad_eq b)
  have hv' := hv
  obtain ⟨a, cap, rfl, hnc, hcm, _⟩ := hv'
  obtain ⟨n, hn⟩ : ∃ n, b.length = n := ⟨_, rfl⟩
  rw [hn] at hb HPV HPD ⊢
  have HN := Lib.hid hn
  have HJ := Lib.hid hj0
  have HY0 := Lib.hid hy0
  have HY1 := Lib.hid hy1
  have HY2 := Lib.hid hy2
  have hz64 : zs n < 64 := Nat.mod_lt _ (by omega)
  have hzm : (n + 1 + zs n) % 64 = 56 := by unfold zs; omega
  have hzn : ∀ z, z < zs n → (n + 1 + z) % 64 ≠ 56 := fun z hz => by unfold zs at hz; omega
  obtain ⟨Z, hZ⟩ : ∃ Z, zs n = Z := ⟨_, rfl⟩
  rw [hZ] at hz64 hzm hzn HPD
  have HZM := Lib.hid hzm
  have HZN := Lib.hid hzn
  clear hv hnc hcm hj0 hy0 hy1 hy2 hn hzm hzn hZ
  have hw0 : Below w.heap.size w w := Below.refl _ _
  go_enter Tryd.func95, Tryd.ntmps95
  go_wp2_with (first
    | (refine wpList_buildSlice_run rfl 34 0 [] (by rfl) [] _ (by rfl) (bs0_22 _) ?_; simp only [Act.put, List.setIfInBounds_toArray, List.set_cons_zero, List.set_cons_succ])
    | (refine wpList_buildSlice_run rfl 34 1 [(0, Operand.const (.int .u8 128))] (by rfl) [(0, .int .u8 128)] _ (by rfl) (buildOne _ _) ?_; simp only [Act.put, List.setIfInBounds_toArray, List.set_cons_zero, List.set_cons_succ])
    | (refine wpList_piece 34 5 j0 _ 1 1 Tryd.underlying34 HJ.out HY0.out HY1.out HY2.out rfl (by omega) (by rfl) (.tmp 6) (.tmp 7) (by rfl) (base := w.heap.size) (by rfl) (World.ownsRow_made w #[] 0 (Nat.le_refl _) (by unfold maxLen; omega) rfl) (by rfl) (HPV.out.kept ((Below.refl _ _).alloc (Nat.le_refl _) _)) (by rw [cells8_len, HN.out]; omega) (one_cells8 _) (by unfold maxLen; omega) (by omega) (by simp) n (by omega) (cells8 b) (by simp) ?_
       intro hg0 g1 c1 W1 hO1 hG1 hat1
       have hB1 : Below w.heap.size w W1 := below_grow (((Below.refl w.heap.size w)).alloc (Nat.le_refl _) _) hG1 (fun k e => by cases e; exact hg0) (by simp)
       simp only [Act.put, List.setIfInBounds_toArray, List.set_cons_zero, List.set_cons_succ])
    | (refine wpList_piece 34 5 j0 _ 1 1 Tryd.underlying34 HJ.out HY0.out HY1.out HY2.out rfl (by omega) (by rfl) (.tmp 8) (.tmp 9) (by rfl) (base := w.heap.size) (by rfl) (hO1.alloc _) (by rfl) (piece_row (n := 1) (c := 1) ((Arr.new W1 #[.int .u8 128] 5).at_)) rfl (by simp [Value.oneCell']) (by unfold maxLen; omega) (by omega) (by have := hB1.size; simp; omega) (n + 1) rfl (cells8 (b ++ [0x80])) (by rw [← cells8_append]; rfl) ?_
       intro hg1 g2 c2 W2 hO2 hG2 hat2
       have hB2 : Below w.heap.size w W2 := below_grow (hB1.alloc hB1.size _) hG2 (fun k e => by cases e; exact hg1) (by have := hB1.size; simp; omega)
       simp only [Act.put, List.setIfInBounds_toArray, List.set_cons_zero, List.set_cons_succ]))
  have HO2 := Lib.hid hO2
  have HB2 := Lib.hid hB2
  clear hO1 hG1 hat1 hB1 hO2 hG2 hat2 hB2
  have hone : ∀ (W : World) (x : Nat), x < 256 → Piece (W.alloc (.cells #[.int .u8 (x : Int)] 5)) (.slice (some ⟨W.heap.size, 0, none⟩) 1 1) 1 (cells8 [UInt8.ofNat x]) := fun W x hx => by
    have h := piece_row (n := 1) (c := 1) ((Arr.new W #[.int .u8 (x : Int)] 5).at_)
    have e : cells8 [UInt8.ofNat x] = [.int .u8 (x : Int)] := by simp [cells8]; omega
    rw [e]; exact h
  have HONE := Lib.hid hone
  clear hone
  go_loopw [3] (fun s W => ∃ z g c : Nat, s = .slice (some ⟨g, 0, none⟩) (n + 1 + z) c ∧ z ≤ Z ∧ Below w.heap.size w W ∧ W.ownsRow w.heap.size 5 1 (.slice (some ⟨g, 0, none⟩) (n + 1 + z) c) (n + 1 + z) (cells8 (b ++ 0x80 :: List.replicate z 0)))
    (fun s _ => match s with | .slice _ k _ => n + 1 + Z - k | _ => 0)
  case atStart => exact ⟨0, _, _, rfl, by omega, HB2.out, HO2.out⟩
  case round =>
    obtain ⟨z, g, c, rfl, hz, hB, hO⟩ := hrel
    have HB := Lib.hid hB
    have HO := Lib.hid hO
    clear hB hO
    by_cases hlt : z < Z
    · have hne := HZN.out z hlt
      have d1 : (((n + 1 + z : Nat) : Int) % 64 != 56) = true := by simp; omega
      have d1' : (((n : Int) + 1 + (z : Int)) % 64 != 56) = true := by simp; omega
      have d2 : ¬ ((n : Int) + 1 + (z : Int)) % 64 = 56 := by omega
      clear hne
      go_wp2_with (first
        | (refine wpList_buildSlice_run rfl 34 1 [(0, Operand.const (.int .u8 0))] (by rfl) [(0, .int .u8 0)] _ (by rfl) (buildOne _ _) ?_; simp only [Act.put, List.setIfInBounds_toArray, List.set_cons_zero, List.set_cons_succ])
        | (refine wpList_piece 34 5 j0 _ 1 1 Tryd.underlying34 HJ.out HY0.out HY1.out HY2.out rfl (by omega) (by rfl) (.tmp 15) (.tmp 16) (by rfl) (base := w.heap.size) (by rfl) (HO.out.alloc _) (by rfl) (HONE.out wr 0 (by omega)) rfl (one_cells8 _) (by unfold maxLen; omega) (by omega) (by have := HB.out.size; simp; omega) (n + 1 + (z + 1)) (by omega) (cells8 (b ++ 0x80 :: List.replicate (z + 1) 0)) (by rw [cells8_append, List.append_assoc, List.cons_append, List.replicate_succ']; rfl) ?_
           intro hg1 g2 c2 W2 hO2 hG2 hat2
           have hB2 : Below w.heap.size w W2 := below_grow (HB.out.alloc HB.out.size _) hG2 (fun k e => by cases e; exact hg1) (by have := HB.out.size; simp; omega)
           have HO3 := Lib.hid hO2
           have HB3 := Lib.hid hB2
           clear hO2 hB2 hG2 hat2
           simp only [Act.put, List.setIfInBounds_toArray, List.set_cons_zero, List.set_cons_succ]))
      go_roundw
      case rel => exact ⟨z + 1, _, _, rfl, by omega, HB3.out, HO3.out⟩
      case measure => simp; omega
    · obtain rfl : z = Z := by omega
      have hzm := HZM.out
      have d1 : (((n + 1 + z : Nat) : Int) % 64 != 56) = false := by simp; omega
      have d1' : (((n : Int) + 1 + (z : Int)) % 64 != 56) = false := by simp; omega
      have d2 : ((n : Int) + 1 + (z : Int)) % 64 = 56 := by omega
      have q1 : IntKind.u64.wrap (n : Int) = (n : Int) := by rw [IntKind.wrap_u64]; omega
      have q2 : IntKind.u64.wrap ((n : Int) * 8) = (n : Int) * 8 := by rw [IntKind.wrap_u64]; omega
      clear hzm
      obtain ⟨M, hM⟩ : ∃ M, 8 * n = M := ⟨_, rfl⟩
      have HM := Lib.hid hM
      have hMb : M ≤ 8000000 := by omega
      have m1 : (n : Int) * 8 = (M : Int) := by omega
      have HE : Hid (∀ (W : World) (e : Int) (c : UInt8), e = (c.toNat : Int) → Piece (W.alloc (.cells #[.int .u8 e] 5)) (.slice (some ⟨W.heap.size, 0, none⟩) 1 1) 1 (cells8 [c])) := Lib.hid fun W e c he => by
        subst he
        exact piece_row (n := 1) (c := 1) ((Arr.new W #[.int .u8 (c.toNat : Int)] 5).at_)
      rw [hM] at HPD
      clear hM
      go_wp2_with fail
      clear m1 q1 q2
      obtain ⟨N1, hN1⟩ : ∃ N1, n + 1 + z = N1 := ⟨_, rfl⟩
      have hNb : N1 ≤ 1000100 := by omega
      have HN1 := Lib.hid hN1
      obtain ⟨B1, hB1⟩ : ∃ B1, b ++ 0x80 :: List.replicate z 0 = B1 := ⟨_, rfl⟩
      have HBB := Lib.hid hB1
      have HO := HO
      rw [hN1, hB1] at HO
      rw [hB1] at HPD
      rw [hN1]
      clear hN1 hB1 d1 d1' d2
      go_loopw [3, 5] (fun s i W => ∃ j g c : Nat, j ≤ 8 ∧ i = .int .i64 (7 - (j : Int)) ∧ s = .slice (some ⟨g, 0, none⟩) (N1 + j) c ∧ Below w.heap.size w W ∧ W.ownsRow w.heap.size 5 1 (.slice (some ⟨g, 0, none⟩) (N1 + j) c) (N1 + j) (cells8 (B1 ++ (be64 M).take j)))
        (fun _ i _ => (intOf i + 1).toNat)
      case atStart => exact ⟨0, _, _, by omega, rfl, rfl, HB.out, by have h := HO.out; simpa using h⟩
      case round =>
        obtain ⟨j, g5, c5, hj, rfl, rfl, hB5, hO5⟩ := hrel
        have HB5 := Lib.hid hB5
        have HO5 := Lib.hid hO5
        clear hB5 hO5
        have hjj : j = 0 ∨ j = 1 ∨ j = 2 ∨ j = 3 ∨ j = 4 ∨ j = 5 ∨ j = 6 ∨ j = 7 ∨ j = 8 := by omega
        clear hj
        rcases hjj with rfl | rfl | rfl | rfl | rfl | rfl | rfl | rfl | rfl
        · go_wp2_with (first
            | (refine wpList_buildSlice_run rfl 34 1 [(0, Operand.tmp 31)] (by rfl) _ _ (by rfl) (buildOne _ _) ?_; simp only [Act.put, List.setIfInBounds_toArray, List.set_cons_zero, List.set_cons_succ])
            | (refine wpList_piece 34 5 j0 _ 1 1 Tryd.underlying34 HJ.out HY0.out HY1.out HY2.out rfl (by omega) (by rfl) (.tmp 26) (.tmp 32) (by rfl) (base := w.heap.size) (by rfl) (HO5.out.alloc _) (by rfl) (HE.out wr _ (UInt8.ofNat (M / 2^56)) (by first | (simp; done) | (simp; omega) | omega)) rfl (one_cells8 _) (by unfold maxLen; omega) (by omega) (by have := HB5.out.size; simp; omega) (N1 + 1) (by omega) (cells8 (B1 ++ (be64 M).take 1)) (by rw [cells8_append, List.append_assoc]; rfl) ?_
               intro hg1 g2 c2 W2 hO2 hG2 hat2
               have hB2 : Below w.heap.size w W2 := below_grow (HB5.out.alloc HB5.out.size _) hG2 (fun k e => by cases e; exact hg1) (by have := HB5.out.size; simp; omega)
               have HO3 := Lib.hid hO2
               have HB3 := Lib.hid hB2
               clear hO2 hB2 hG2 hat2
               simp only [Act.put, List.setIfInBounds_toArray, List.set_cons_zero, List.set_cons_succ]))
          go_roundw
          case rel => exact ⟨1, _, _, by omega, by simp, rfl, HB3.out, HO3.out⟩
          case measure => simp [intOf]
        · go_wp2_with (first
            | (refine wpList_buildSlice_run rfl 34 1 [(0, Operand.tmp 31)] (by rfl) _ _ (by rfl) (buildOne _ _) ?_; simp only [Act.put, List.setIfInBounds_toArray, List.set_cons_zero, List.set_cons_succ])
            | (refine wpList_piece 34 5 j0 _ 1 1 Tryd.underlying34 HJ.out HY0.out HY1.out HY2.out rfl (by omega) (by rfl) (.tmp 26) (.tmp 32) (by rfl) (base := w.heap.size) (by rfl) (HO5.out.alloc _) (by rfl) (HE.out wr _ (UInt8.ofNat (M / 2^48)) (by first | (simp; done) | (simp; omega) | omega)) rfl (one_cells8 _) (by unfold maxLen; omega) (by omega) (by have := HB5.out.size; simp; omega) (N1 + 2) (by omega) (cells8 (B1 ++ (be64 M).take 2)) (by rw [cells8_append, List.append_assoc]; rfl) ?_
               intro hg1 g2 c2 W2 hO2 hG2 hat2
               have hB2 : Below w.heap.size w W2 := below_grow (HB5.out.alloc HB5.out.size _) hG2 (fun k e => by cases e; exact hg1) (by have := HB5.out.size; simp; omega)
               have HO3 := Lib.hid hO2
               have HB3 := Lib.hid hB2
               clear hO2 hB2 hG2 hat2
               simp only [Act.put, List.setIfInBounds_toArray, List.set_cons_zero, List.set_cons_succ]))
          go_roundw
          case rel => exact ⟨2, _, _, by omega, by simp, rfl, HB3.out, HO3.out⟩
          case measure => simp [intOf]
        · go_wp2_with (first
            | (refine wpList_buildSlice_run rfl 34 1 [(0, Operand.tmp 31)] (by rfl) _ _ (by rfl) (buildOne _ _) ?_; simp only [Act.put, List.setIfInBounds_toArray, List.set_cons_zero, List.set_cons_succ])
            | (refine wpList_piece 34 5 j0 _ 1 1 Tryd.underlying34 HJ.out HY0.out HY1.out HY2.out rfl (by omega) (by rfl) (.tmp 26) (.tmp 32) (by rfl) (base := w.heap.size) (by rfl) (HO5.out.alloc _) (by rfl) (HE.out wr _ (UInt8.ofNat (M / 2^40)) (by first | (simp; done) | (simp; omega) | omega)) rfl (one_cells8 _) (by unfold maxLen; omega) (by omega) (by have := HB5.out.size; simp; omega) (N1 + 3) (by omega) (cells8 (B1 ++ (be64 M).take 3)) (by rw [cells8_append, List.append_assoc]; rfl) ?_
               intro hg1 g2 c2 W2 hO2 hG2 hat2
               have hB2 : Below w.heap.size w W2 := below_grow (HB5.out.alloc HB5.out.size _) hG2 (fun k e => by cases e; exact hg1) (by have := HB5.out.size; simp; omega)
               have HO3 := Lib.hid hO2
               have HB3 := Lib.hid hB2
               clear hO2 hB2 hG2 hat2
               simp only [Act.put, List.setIfInBounds_toArray, List.set_cons_zero, List.set_cons_succ]))
          go_roundw
          case rel => exact ⟨3, _, _, by omega, by simp, rfl, HB3.out, HO3.out⟩
          case measure => simp [intOf]
        · go_wp2_with (first
            | (refine wpList_buildSlice_run rfl 34 1 [(0, Operand.tmp 31)] (by rfl) _ _ (by rfl) (buildOne _ _) ?_; simp only [Act.put, List.setIfInBounds_toArray, List.set_cons_zero, List.set_cons_succ])
            | (refine wpList_piece 34 5 j0 _ 1 1 Tryd.underlying34 HJ.out HY0.out HY1.out HY2.out rfl (by omega) (by rfl) (.tmp 26) (.tmp 32) (by rfl) (base := w.heap.size) (by rfl) (HO5.out.alloc _) (by rfl) (HE.out wr _ (UInt8.ofNat (M / 2^32)) (by first | (simp; done) | (simp; omega) | omega)) rfl (one_cells8 _) (by unfold maxLen; omega) (by omega) (by have := HB5.out.size; simp; omega) (N1 + 4) (by omega) (cells8 (B1 ++ (be64 M).take 4)) (by rw [cells8_append, List.append_assoc]; rfl) ?_
               intro hg1 g2 c2 W2 hO2 hG2 hat2
               have hB2 : Below w.heap.size w W2 := below_grow (HB5.out.alloc HB5.out.size _) hG2 (fun k e => by cases e; exact hg1) (by have := HB5.out.size; simp; omega)
               have HO3 := Lib.hid hO2
               have HB3 := Lib.hid hB2
               clear hO2 hB2 hG2 hat2
               simp only [Act.put, List.setIfInBounds_toArray, List.set_cons_zero, List.set_cons_succ]))
          go_roundw
          case rel => exact ⟨4, _, _, by omega, by simp, rfl, HB3.out, HO3.out⟩
          case measure => simp [intOf]
        · go_wp2_with (first
            | (refine wpList_buildSlice_run rfl 34 1 [(0, Operand.tmp 31)] (by rfl) _ _ (by rfl) (buildOne _ _) ?_; simp only [Act.put, List.setIfInBounds_toArray, List.set_cons_zero, List.set_cons_succ])
            | (refine wpList_piece 34 5 j0 _ 1 1 Tryd.underlying34 HJ.out HY0.out HY1.out HY2.out rfl (by omega) (by rfl) (.tmp 26) (.tmp 32) (by rfl) (base := w.heap.size) (by rfl) (HO5.out.alloc _) (by rfl) (HE.out wr _ (UInt8.ofNat (M / 2^24)) (by first | (simp; done) | (simp; omega) | omega)) rfl (one_cells8 _) (by unfold maxLen; omega) (by omega) (by have := HB5.out.size; simp; omega) (N1 + 5) (by omega) (cells8 (B1 ++ (be64 M).take 5)) (by rw [cells8_append, List.append_assoc]; rfl) ?_
               intro hg1 g2 c2 W2 hO2 hG2 hat2
               have hB2 : Below w.heap.size w W2 := below_grow (HB5.out.alloc HB5.out.size _) hG2 (fun k e => by cases e; exact hg1) (by have := HB5.out.size; simp; omega)
               have HO3 := Lib.hid hO2
               have HB3 := Lib.hid hB2
               clear hO2 hB2 hG2 hat2
               simp only [Act.put, List.setIfInBounds_toArray, List.set_cons_zero, List.set_cons_succ]))
          go_roundw
          case rel => exact ⟨5, _, _, by omega, by simp, rfl, HB3.out, HO3.out⟩
          case measure => simp [intOf]
        · go_wp2_with (first
            | (refine wpList_buildSlice_run rfl 34 1 [(0, Operand.tmp 31)] (by rfl) _ _ (by rfl) (buildOne _ _) ?_; simp only [Act.put, List.setIfInBounds_toArray, List.set_cons_zero, List.set_cons_succ])
            | (refine wpList_piece 34 5 j0 _ 1 1 Tryd.underlying34 HJ.out HY0.out HY1.out HY2.out rfl (by omega) (by rfl) (.tmp 26) (.tmp 32) (by rfl) (base := w.heap.size) (by rfl) (HO5.out.alloc _) (by rfl) (HE.out wr _ (UInt8.ofNat (M / 2^16)) (by first | (simp; done) | (simp; omega) | omega)) rfl (one_cells8 _) (by unfold maxLen; omega) (by omega) (by have := HB5.out.size; simp; omega) (N1 + 6) (by omega) (cells8 (B1 ++ (be64 M).take 6)) (by rw [cells8_append, List.append_assoc]; rfl) ?_
               intro hg1 g2 c2 W2 hO2 hG2 hat2
               have hB2 : Below w.heap.size w W2 := below_grow (HB5.out.alloc HB5.out.size _) hG2 (fun k e => by cases e; exact hg1) (by have := HB5.out.size; simp; omega)
               have HO3 := Lib.hid hO2
               have HB3 := Lib.hid hB2
               clear hO2 hB2 hG2 hat2
               simp only [Act.put, List.setIfInBounds_toArray, List.set_cons_zero, List.set_cons_succ]))
          go_roundw
          case rel => exact ⟨6, _, _, by omega, by simp, rfl, HB3.out, HO3.out⟩
          case measure => simp [intOf]
        · go_wp2_with (first
            | (refine wpList_buildSlice_run rfl 34 1 [(0, Operand.tmp 31)] (by rfl) _ _ (by rfl) (buildOne _ _) ?_; simp only [Act.put, List.setIfInBounds_toArray, List.set_cons_zero, List.set_cons_succ])
            | (refine wpList_piece 34 5 j0 _ 1 1 Tryd.underlying34 HJ.out HY0.out HY1.out HY2.out rfl (by omega) (by rfl) (.tmp 26) (.tmp 32) (by rfl) (base := w.heap.size) (by rfl) (HO5.out.alloc _) (by rfl) (HE.out wr _ (UInt8.ofNat (M / 2^8)) (by first | (simp; done) | (simp; omega) | omega)) rfl (one_cells8 _) (by unfold maxLen; omega) (by omega) (by have := HB5.out.size; simp; omega) (N1 + 7) (by omega) (cells8 (B1 ++ (be64 M).take 7)) (by rw [cells8_append, List.append_assoc]; rfl) ?_
               intro hg1 g2 c2 W2 hO2 hG2 hat2
               have hB2 : Below w.heap.size w W2 := below_grow (HB5.out.alloc HB5.out.size _) hG2 (fun k e => by cases e; exact hg1) (by have := HB5.out.size; simp; omega)
               have HO3 := Lib.hid hO2
               have HB3 := Lib.hid hB2
               clear hO2 hB2 hG2 hat2
               simp only [Act.put, List.setIfInBounds_toArray, List.set_cons_zero, List.set_cons_succ]))
          go_roundw
          case rel => exact ⟨7, _, _, by omega, by simp, rfl, HB3.out, HO3.out⟩
          case measure => simp [intOf]
        · go_wp2_with (first
            | (refine wpList_buildSlice_run rfl 34 1 [(0, Operand.tmp 31)] (by rfl) _ _ (by rfl) (buildOne _ _) ?_; simp only [Act.put, List.setIfInBounds_toArray, List.set_cons_zero, List.set_cons_succ])
            | (refine wpList_piece 34 5 j0 _ 1 1 Tryd.underlying34 HJ.out HY0.out HY1.out HY2.out rfl (by omega) (by rfl) (.tmp 26) (.tmp 32) (by rfl) (base := w.heap.size) (by rfl) (HO5.out.alloc _) (by rfl) (HE.out wr _ (UInt8.ofNat M) (by first | (simp; done) | (simp; omega) | omega)) rfl (one_cells8 _) (by unfold maxLen; omega) (by omega) (by have := HB5.out.size; simp; omega) (N1 + 8) (by omega) (cells8 (B1 ++ (be64 M).take 8)) (by rw [cells8_append, List.append_assoc]; rfl) ?_
               intro hg1 g2 c2 W2 hO2 hG2 hat2
               have hB2 : Below w.heap.size w W2 := below_grow (HB5.out.alloc HB5.out.size _) hG2 (fun k e => by cases e; exact hg1) (by have := HB5.out.size; simp; omega)
               have HO3 := Lib.hid hO2
               have HB3 := Lib.hid hB2
               clear hO2 hB2 hG2 hat2
               simp only [Act.put, List.setIfInBounds_toArray, List.set_cons_zero, List.set_cons_succ]))
          go_roundw
          case rel => exact ⟨8, _, _, by omega, by simp, rfl, HB3.out, HO3.out⟩
          case measure => simp [intOf]
        · have hpl : (pad b).length = N1 + 8 := by rw [HPD.out, List.length_append, be64_len, ← HBB.out, ← HN1.out, List.length_append, HN.out]; simp; omega
          have hO9 := HO5.out
          rw [show (be64 M).take 8 = be64 M from rfl, ← HPD.out] at hO9
          have HO9 := Lib.hid hO9
          have HPL := Lib.hid hpl
          clear hO9 hpl
          go_wp2
          go_ret
          refine ⟨g5, c5, ?_, by rw [HPL.out]; exact HO9.out, HB5.out⟩
          show Ending.returned (.slice (some ⟨g5, 0, none⟩) (N1 + 8) c5) = _
          rw [HPL.out]
end Go.Proofs.YtfmngeemhfpeiaaDoor

namespace Go.Proofs.YtfmngeemhfpeiaaDoor
open Go.RowKit

theorem wp_st50 {o : Oper} {a : Act} {W : World} {K : Act → World → Prop} {Q : Exit → Act → World → Prop} (x y : Operand) (ho : o.op = .store 75 x y) (b : Nat) (cs old : List Value) (hx : a.eval x = .pointer (some ⟨b, 0, none⟩)) (hy : a.eval y = .agg cs.toArray) (hA : Arr W b old) (hl : cs.length = old.length)
    (hi : (Tryd.prog.info? 75).map (·.size) = some cs.length) (h1 : ∀ v ∈ cs, v.oneCell' = true) (h : ∀ W', W.grownBy W' (some b) → Arr W' b cs → K (a.put o.dst undef) W') : o.wp Tryd.prog a W K Q := by
  refine wp_store_mid 75 x y ho b 0 cs.toArray hx hy (by rw [List.size_toArray, hl]; exact hA.there) (by simpa using hi) (all_oneCell_toArray h1) ?_
  rw [List.toList_toArray]
  exact h _ (grown_setCells _ _ _) (hA.stored hl)
theorem runs_next (s : St) (l : List UInt8) (k : Nat) : runs s l (k + 1) = press (runs s l k) ((l.drop (64 * k)).take 64) := by
  induction k generalizing s l with
  | zero => simp [runs]
  | succ k ih =>
    rw [runs, ih, runs, List.drop_drop]
    congr 3; omega
theorem built26 : Tryd.prog.built 30 [] = some (cells8 (List.replicate 32 0)).toArray := by kernel_rfl
theorem Tryd.info75 : (Tryd.prog.info? 75).map (·.size) = some 8 := by kernel_rfl

def c13a0 : Oper := { dst := some 17, op := Go.Op.load 75 (Go.Operand.tmp 3), type := 75, pos := "ref.go:66", after := #[], guard := none }
def c13a1 : Oper := { dst := some 18, op := Go.Op.move (Go.Operand.tmp 4), type := 34, pos := "ref.go:66", after := #[], guard := none }
def c13a2 : Oper := { dst := some 19, op := Go.Op.move (Go.Operand.tmp 5), type := 3, pos := "ref.go:66", after := #[], guard := none }
def c13a3 : Oper := { dst := some 20, op := Go.Op.move (Go.Operand.tmp 5), type := 3, pos := "ref.go:66", after := #[], guard := none }
def c13a4 : Oper := { dst := some 21, op := Go.Op.binOp Go.BinOp.add 3 (Go.Operand.tmp 20) (Go.Operand.const (Go.Value.int Go.IntKind.i64 64)) 3, type := 3, pos := "ref.go:66", after := #[{ on := 3, ground := Go.Ground.data }], guard := none }
def c13a5 : Oper := { dst := some 22, op := Go.Op.slice 34 (Go.Operand.tmp 18) (some (Go.Operand.tmp 19)) (some (Go.Operand.tmp 21)) none, type := 34, pos := "ref.go:66", after := #[{ on := 1, ground := Go.Ground.data }, { on := 2, ground := Go.Ground.data }, { on := 4, ground := Go.Ground.data }], guard := none }
def c13a6 : Oper := { dst := some 23, op := Go.Op.call { callee := Go.Callee.value (Go.Operand.func 96), args := #[Go.Operand.tmp 17, Go.Operand.tmp 22], argTypes := #[75, 34] }, type := 75, pos := "ref.go:66", after := #[{ on := 0, ground := Go.Ground.data }, { on := 5, ground := Go.Ground.data }], guard := none }
def c13a7 : Oper := { dst := none, op := Go.Op.store 75 (Go.Operand.tmp 3) (Go.Operand.tmp 23), type := 0, pos := "ref.go:66", after := #[{ on := 6, ground := Go.Ground.data }, { on := 6, ground := Go.Ground.chain }, { on := 0, ground := Go.Ground.phase }, { on := 1, ground := Go.Ground.phase }, { on := 2, ground := Go.Ground.phase }, { on := 3, ground := Go.Ground.phase }, { on := 4, ground := Go.Ground.phase }, { on := 5, ground := Go.Ground.phase }, { on := 6, ground := Go.Ground.phase }], guard := none }
set_option maxRecDepth 100000 in
set_option maxHeartbeats 8000000 in
theorem rsum_any (w : World) (v : Value) (b : List UInt8) (hv : BytesAt w w.heap.size v b) (hb : b.length ≤ 1000000) :
    Calls Tryd.prog 77 #[v] w fun e w' => e = .returned (dv (sha b)) ∧ Below w.heap.size w w' := by
  have hpd : ∀ W, Below w.heap.size w W → Calls Tryd.prog 95 #[v] W fun e w' => ∃ g c, e = .returned (.slice (some ⟨g, 0, none⟩) (pad b).length c) ∧ w'.ownsRow W.heap.size 5 1 (.slice (some ⟨g, 0, none⟩) (pad b).length c) (pad b).length (cells8 (pad b)) ∧ Below W.heap.size W w' := fun W hW => padded_any W v b (bytesAt_any hv hW) hb
  have hpl : ∃ m, (pad b).length = 64 * m ∧ m ≤ 20000 := by
    refine ⟨((pad b).length) / 64, ?_, ?_⟩ <;> rw [pad_eq, List.length_append, be64_len, List.length_append, List.length_cons, List.length_replicate] <;> unfold zs <;> omega
  obtain ⟨m, hpm, hm⟩ := hpl
  have hsha : sha b = outs (runs s0 (pad b) m) := by unfold sha outs; rw [hpm, Nat.mul_div_cancel_left _ (by omega)]
  obtain ⟨P, hP⟩ : ∃ P, pad b = P := ⟨_, rfl⟩
  rw [hP] at hpd hpm hsha
  rw [hsha]
  rw [hpm] at hpd
  have HPD := Lib.hid hpd
  have HPM := Lib.hid hpm
  have HNUM := Lib.hid numbers_any
  clear hpd hpm hP hsha hv hb
  have hv0 : v = v := rfl
  clear hv0
  go_enter Tryd.func77, Tryd.ntmps77
  go_wp2_with fail
  refine calls_world (fun W => Below w.heap.size w W ∧ Arr W w.heap.size (cells8 (List.replicate 32 0)) ∧ Arr W (w.heap.size + 1) (ws s0.list) ∧ w.heap.size + 1 < W.heap.size) ⟨by go_grown, ?_, ?_, by simp⟩ ?_
  · have h := (Arr.new w (cells8 (List.replicate 32 0)).toArray 30).alloc (by simp) (.cells (ws s0.list).toArray 75)
    rw [List.toList_toArray] at h; exact h
  · have h := Arr.new (w.alloc (.cells (cells8 (List.replicate 32 0)).toArray 30)) (ws s0.list).toArray 75
    rw [World.size_alloc, List.toList_toArray] at h; exact h
  rintro W1 ⟨hB1, hD1, hS1, hz1⟩
  refine (HPD.out W1 hB1).mono ?_
  rintro e W2 ⟨gP, cP, rfl, hO2, hB2⟩
  have hs12 := hB2.size
  have hsp : Spare W2 W1.heap.size gP (64 * m) cP P := hO2
  obtain ⟨hg1, hg2, hcm1, hcm2, hPl, hby⟩ := hsp.bytes
  have HBY := Lib.hid hby
  have HD2 := Lib.hid (hD1.below hB2 (by omega))
  have HS2 := Lib.hid (hS1.below hB2 hz1)
  have HB2 := Lib.hid (hB1.trans (hB2.mono hB1.size))
  have hz2 : w.heap.size + 1 < W2.heap.size := by omega
  unfold maxLen at hcm2
  clear hB1 hD1 hS1 hB2 hO2 hsp hby
  go_wp2_with fail
  go_loopw [5] (fun i wr => ∃ k N : Nat, N = 64 * k ∧ i = .int .i64 (N : Int) ∧ k ≤ m ∧ But W2 (w.heap.size + 1) wr ∧ Arr wr (w.heap.size + 1) (ws (runs s0 P k).list)) (fun i _ => 64 * m - (intOf i).toNat)
  case atStart => exact ⟨0, 0, rfl, rfl, by omega, gbelow (Below.refl _ _), HS2.out⟩
  case round =>
    obtain ⟨k, N, hN, rfl, hk, hG, hA⟩ := hrel
    have hbt : w.heap.size + 1 < wr.heap.size := by have := hG.size; omega
    by_cases hlt : k < m
    · have d1 : decide (N < 64 * m) = true := by simp; omega
      have d2 : decide ((N : Int) < 64 * (m : Int)) = true := by simp; omega
      have d3 : (N : Int) < 64 * (m : Int) := by omega
      have f1 : (N : Int) + 64 ≤ 64 * (m : Int) := by omega
      have f2 : (N : Int) + 64 ≤ (cP : Int) := by omega
      have f0 : (0 : Int) ≤ (N : Int) + 64 := by omega
      have f4 : ¬ cP = N := by omega
      have f5 : (N : Int) ≤ max ((N : Int) + 64) 0 := by omega
      have t2 : ((N : Int) + 64).toNat = N + 64 := by omega
      have q1 : IntKind.i64.wrap ((N : Int) + 64) = (N : Int) + 64 := by rw [IntKind.wrap_i64]; omega
      have hbk : ((P.drop (64 * k)).take 64).length = 64 := by rw [List.length_take, List.length_drop, hPl]; omega
      have hgb : gP < wr.heap.size := by have := hG.size; omega
      have hbin : BytesIn wr gP (64 * k) ((P.drop (64 * k)).take 64) := fun i hi => by
        have h1 := HBY.out (64 * k + i) (by rw [hPl]; omega)
        rw [Nat.zero_add] at h1
        rw [World.cell?_of_block (a := ⟨gP, 64 * k + i, none⟩) (hG.block gP hg2 (by intro e; injection e with e; omega)), h1, List.getElem_take, List.getElem_drop]
      have hblk := rblk_any wr.drew gP (64 * k) (cP - N) (runs s0 P k) _ hbk hbin hgb (by omega) (by unfold maxLen; omega) HNUM.out
      have hrn := runs_next s0 P k
      obtain ⟨cS, hcS⟩ : ∃ cS, ws (runs s0 P k).list = cS := ⟨_, rfl⟩
      have hlS : cS.length = 8 := by rw [← hcS]; rfl
      obtain ⟨cT, hcT⟩ : ∃ cT, ws (press (runs s0 P k) ((P.drop (64 * k)).take 64)).list = cT := ⟨_, rfl⟩
      have hlT : cT.length = 8 := by rw [← hcT]; rfl
      rw [hcS, hcT, ← hN] at hblk
      rw [hcS] at hA
      have HBLK := Lib.hid hblk
      have HRN := Lib.hid hrn
      have HCT := Lib.hid hcT
      have HLS := Lib.hid hlS
      have HLT := Lib.hid hlT
      have HZS : Hid ((Tryd.prog.info? 75).map (·.size) = some cS.length) := by show _ = _; rw [hlS]; exact Tryd.info75
      have HZT : Hid ((Tryd.prog.info? 75).map (·.size) = some cT.length) := by show _ = _; rw [hlT]; exact Tryd.info75
      have HOT : Hid (∀ v ∈ cT, v.oneCell' = true) := Lib.hid (by rw [← hcT]; exact one_ws _)
      have HAS := Lib.hid hA
      have HG := Lib.hid hG
      have HNN := Lib.hid hN
      clear hN hblk hrn hcT hlS hlT hA hG hbk hbin hcS
      go_wp2
      refine wp_region_held_drew (S := fun W => But wr (w.heap.size + 1) W) (by kernel_rfl) (But.drew (gbelow (Below.refl _ _))) (fun hHeld => ?_)
      refine wpAnyH_take (i := 1) (oi := c13a1) (v := ?_) rfl (by kernel_rfl) (by kernel_rfl) (by kernel_rfl) (fun _ _ _ h => h) (Or.inl ⟨by rfl, ?_⟩) hHeld ?_
      rotate_left
      · (intro w hSw; (try dsimp only at hSw); unfold c13a1; go_simp <;> with_reducible rfl)
      try simp only [c13a1, Act.put, List.setIfInBounds_toArray, List.set_cons_zero, List.set_cons_succ]
      refine wpAnyH_take (i := 2) (oi := c13a2) (v := ?_) rfl (by kernel_rfl) (by kernel_rfl) (by kernel_rfl) (fun _ _ _ h => h) (Or.inl ⟨by rfl, ?_⟩) hHeld ?_
      rotate_left
      · (intro w hSw; (try dsimp only at hSw); unfold c13a2; go_simp <;> with_reducible rfl)
      try simp only [c13a2, Act.put, List.setIfInBounds_toArray, List.set_cons_zero, List.set_cons_succ]
      refine wpAnyH_take (i := 3) (oi := c13a3) (v := ?_) rfl (by kernel_rfl) (by kernel_rfl) (by kernel_rfl) (fun _ _ _ h => h) (Or.inl ⟨by rfl, ?_⟩) hHeld ?_
      rotate_left
      · (intro w hSw; (try dsimp only at hSw); unfold c13a3; go_simp <;> with_reducible rfl)
      try simp only [c13a3, Act.put, List.setIfInBounds_toArray, List.set_cons_zero, List.set_cons_succ]
      refine wpAnyH_take (i := 4) (oi := c13a4) (v := ?_) rfl (by kernel_rfl) (by kernel_rfl) (by kernel_rfl) (fun _ _ _ h => h) (Or.inl ⟨by rfl, ?_⟩) hHeld ?_
      rotate_left
      · (intro w hSw; (try dsimp only at hSw); unfold c13a4; go_simp <;> with_reducible rfl)
      try simp only [c13a4, Act.put, List.setIfInBounds_toArray, List.set_cons_zero, List.set_cons_succ]
      refine wpAnyH_take (i := 5) (oi := c13a5) (v := ?_) rfl (by kernel_rfl) (by kernel_rfl) (by kernel_rfl) (fun _ _ _ h => h) (Or.inl ⟨by rfl, ?_⟩) hHeld ?_
      rotate_left
      · (intro w hSw; (try dsimp only at hSw); unfold c13a5; go_simp <;> with_reducible rfl)
      try simp only [c13a5, Act.put, List.setIfInBounds_toArray, List.set_cons_zero, List.set_cons_succ]
      refine wpAnyH_ready (rs := [0]) (by kernel_rfl) (by simp) ?_
      refine AllReadyH.cons (o := c13a0) rfl (fun K hK => ?_) AllReadyH.nil
      rw [if_pos (by rfl)]
      refine wp_load_mid 75 (.tmp 3) (by rfl) (w.heap.size + 1) 0 (by rfl) cS _ HAS.out.drew.at_ Tryd.underlying75 rfl HZS.out ?_
      refine hK.out _ _ hHeld (fun hHeld => ?_)
      clear hK K
      try simp only [c13a0, Act.put, List.setIfInBounds_toArray, List.set_cons_zero, List.set_cons_succ]
      refine wpAnyH_ready (rs := [6]) (by kernel_rfl) (by simp) ?_
      refine AllReadyH.cons (o := c13a6) rfl (fun K hK => ?_) AllReadyH.nil
      rw [if_pos (by rfl)]
      unfold c13a6
      go_simp
      (with_reducible refine HBLK.out.mono ?_)
      rintro e W6 ⟨rfl, hB6⟩
      have hS6 : But wr (w.heap.size + 1) W6 := hHeld.next hB6
      have hA6 := HAS.out.drew.below hB6 hbt
      go_wp2_with fail
      refine hK.out _ _ hS6 (fun hHeld => ?_)
      clear hK K
      try simp only [c13a6, Act.put, List.setIfInBounds_toArray, List.set_cons_zero, List.set_cons_succ]
      refine wpAnyH_ready (rs := [7]) (by kernel_rfl) (by simp) ?_
      refine AllReadyH.cons (o := c13a7) rfl (fun K hK => ?_) AllReadyH.nil
      rw [if_pos (by rfl)]
      refine wp_st50 _ _ (by rfl) (w.heap.size + 1) cT _ (by rfl) (by rfl) hA6 (by rw [HLT.out, HLS.out]) HZT.out HOT.out ?_
      intro W7 hG7 hA7
      have hS7 : But wr (w.heap.size + 1) W7 := gtrans hHeld hG7
      refine hK.out _ _ hS7 (fun hHeld => ?_)
      clear hK K
      try simp only [c13a7, Act.put]
      refine wpAnyH_done (by kernel_rfl) ?_ _
      have HA7 := Lib.hid hA7
      have HS7 := Lib.hid (gtrans HG.out hS7)
      clear hA7 hS7 hS6 hA6 hHeld hG7 hB6
      go_wp2
      go_roundw
      case rel => exact ⟨k + 1, N + 64, by have := HNN.out; omega, by simp, by omega, HS7.out, by rw [HRN.out, HCT.out]; exact HA7.out⟩
      case measure => simp [intOf]; omega
    · obtain rfl : k = m := by omega
      have d1 : decide (N < 64 * k) = false := by simp; omega
      have d2 : decide ((N : Int) < 64 * (k : Int)) = false := by simp; omega
      have d3 : ¬ (N : Int) < 64 * (k : Int) := by omega
      obtain ⟨s, hs⟩ : ∃ s, runs s0 P k = s := ⟨_, rfl⟩
      rw [hs] at hA
      have HSR := Lib.hid hs
      have HD3 := Lib.hid (HD2.out.moved hG (by omega) (by intro e; injection e with e; omega))
      have HBW := Lib.hid (below_grow HB2.out hG (fun q e => by cases e; omega) (by omega))
      have HS := Lib.hid hA
      have hbw := hbt
      have HB26 : Hid (∀ W : World, (Instr.build 30 (List.toArray ([] : List (Nat × Value)))).run Tryd.prog W = .ok (.agg (cells8 (List.replicate 32 0)).toArray) W) := Lib.hid fun W => run_build W 30 #[] _ built26
      obtain ⟨z32', hz32⟩ : ∃ z, cells8 (List.replicate 32 0) = z := ⟨_, rfl⟩
      rw [hz32] at HB26
      have hlz : z32'.length = 32 := by rw [← hz32]; rfl
      have HLZ := Lib.hid hlz
      have HZZ : Hid ((Tryd.prog.info? 30).map (·.size) = some z32'.length) := by show _ = _; rw [hlz]; exact Tryd.info30
      have HOZ : Hid (∀ v ∈ z32', v.oneCell' = true) := Lib.hid (by rw [← hz32]; exact one_cells8 _)
      have HZ32 := Lib.hid hz32
      clear hs hA hG hz32 hlz hN
      go_wp2_with (first
        | (refine wpList_build_run rfl 30 [] (by rfl) [] _ (by rfl) (HB26.out _) ?_; simp only [Act.put, List.setIfInBounds_toArray, List.set_cons_zero, List.set_cons_succ])
        | (refine store_new rfl 30 _ _ (by rfl) wr.heap.size wr.heap.size z32' _ (by rfl) (by rfl) ((Below.refl wr.heap.size wr).alloc (Nat.le_refl _) _) (Nat.le_refl _) (Arr.new wr _ 30) (by rw [HLZ.out]; rfl) HZZ.out HOZ.out ?_; intro W3 hB3 hA3 hz3))
      have hlt3 : wr.heap.size < W3.heap.size := by simp at hz3; omega
      have hA3' : Arr W3 wr.heap.size (cells8 (dpart s 0)) := by rw [show dpart s 0 = List.replicate 32 0 from rfl, HZ32.out]; exact hA3
      have HB3 := Lib.hid hB3
      have HA3 := Lib.hid hA3'
      clear hB3 hA3 hA3' hz3 d1 d2 d3
      obtain ⟨wo, hwo⟩ : ∃ wo : World, wo = wr := ⟨_, rfl⟩
      rw [← hwo] at HD3 HBW HS hbw hlt3 HB3 HA3 ⊢
      clear hwo hbt
      go_loopw [7] (fun i W => ∃ t : Nat, i = .int .i64 t ∧ t ≤ 32 ∧ Below wo.heap.size wo W ∧ Arr W wo.heap.size (cells8 (dpart s t)))
        (fun i _ => 32 - (intOf i).toNat)
      case atStart => exact ⟨0, rfl, by omega, HB3.out, HA3.out⟩
      case round =>
        obtain ⟨t, rfl, ht, hB, hA⟩ := hrel
        by_cases hlt : t < 32
        · have hd : decide ((t : Int) < 32) = true := by simp; omega
          have hlen : t < (cells8 (dpart s t)).length := by rw [cells8_len, dpart_len s (by omega)]; omega
          obtain ⟨u, hu⟩ : ∃ u, (cells8 (dpart s t))[t]'hlen = u := ⟨_, rfl⟩
          have hc : wr.cell? ⟨wo.heap.size, t, none⟩ = some u := hu ▸ hA.cell (List.getElem?_eq_getElem hlen)
          have hf : wr.frozen? ⟨wo.heap.size, t, none⟩ = false := hA.frozen hlen
          obtain ⟨q, hq⟩ : ∃ q, t / 4 = q := ⟨_, rfl⟩
          obtain ⟨r, hr⟩ : ∃ r, t % 4 = r := ⟨_, rfl⟩
          have hqd : (t : Int).tdiv 4 = (q : Int) := by rw [← hq]; rfl
          have hrd : (t : Int).tmod 4 = (r : Int) := by rw [← hr]; rfl
          have hqd2 : (t : Int) / 4 = (q : Int) := by omega
          have hrd2 : (t : Int) % 4 = (r : Int) := by omega
          have hw := list_getD s q (by omega)
          obtain ⟨x, hx⟩ : ∃ x, s.list.getD q 0 = x := ⟨_, rfl⟩
          rw [hx] at hw
          have hcs := (HS.out.below hB hbw).cell hw
          have key : ∀ v : Int, v = ((outb s t).toNat : Int) → Below wo.heap.size wo (wr.setCell ⟨wo.heap.size, t, none⟩ (.int .u8 v)) ∧ Arr (wr.setCell ⟨wo.heap.size, t, none⟩ (.int .u8 v)) wo.heap.size (cells8 (dpart s (t + 1))) := by
            rintro _ rfl
            refine ⟨hB.setCell (p := ⟨wo.heap.size, t, none⟩) (Nat.le_refl _) _, ?_⟩
            rw [← dpart_next s hlt]
            exact hA.set t _
          have hval : (x.toNat : Int) / 2 ^ (24 - 8 * r) % 256 = ((outb s t).toNat : Int) := by
            rw [outb_is, hq, hr, hx]; push_cast; rfl
          have KEY := Lib.hid key
          have HVAL := Lib.hid hval
          have hr4 : r < 4 := by omega
          have hq8 : q < 8 := by omega
          clear key hval hA hB hu hw hx hlen
          go_wp2
          go_roundw
          case rel => exact ⟨t + 1, by simp, by omega, (KEY.out _ HVAL.out).1, (KEY.out _ HVAL.out).2⟩
          case measure => simp [intOf]; omega
        · obtain rfl : t = 32 := by omega
          rw [dpart_is] at hA
          have hcl : (cells8 (outs s)).length = 32 := by rw [cells8_len, outs_len]
          have ho1 := one_cells8 (outs s)
          obtain ⟨cs, hcs⟩ : ∃ cs, cells8 (outs s) = cs := ⟨_, rfl⟩
          rw [hcs] at hA hcl ho1
          have HZ1 : Hid ((Tryd.prog.info? 30).map (·.size) = some cs.length) := by show _ = _; rw [hcl]; exact Tryd.info30
          have HA := Lib.hid hA
          have HDD := Lib.hid (HD3.out.below hB (by omega))
          have HBB := Lib.hid (HBW.out.trans (hB.mono HBW.out.size))
          have HO1 := Lib.hid ho1
          have HCS := Lib.hid hcs
          have HCL := Lib.hid hcl
          have d32 : decide (((32 : Nat) : Int) < 32) = false := by decide
          clear hA hB ho1 hcs hcl
          go_wp2_with (first
            | (refine wpList_load_mid rfl 30 (.tmp 6) (by rfl) wo.heap.size 0 (by rfl) _ _ HA.out.at_ Tryd.underlying30 rfl HZ1.out ?_)
            | (refine store_new rfl 30 _ _ (by rfl) w.heap.size w.heap.size cs _ (by rfl) (by rfl) HBB.out (Nat.le_refl _) HDD.out (by rw [HCL.out]; rfl) HZ1.out HO1.out ?_; intro W9 hB9 hA9 hz9))
          refine bodyPost_ret (results_cell_mid rfl _ _ _ _ _ rfl hA9.at_ Tryd.underlying30 rfl HZ1.out) rfl ?_
          exact ⟨by rw [HSR.out, dv, HCS.out], hB9⟩
end Go.Proofs.YtfmngeemhfpeiaaDoor

namespace Go.Proofs.YtfmngeemhfpeiaaDoor
open Go.RowKit

theorem row_at {w : World} {B : Nat} {v : Value} {b : List UInt8} (h : Row w B v b) : BytesAt w B v b := by
  rcases h with ⟨rfl, rfl⟩ | ⟨db, off, cap, rfl, h1, h2, h3, h4⟩
  · exact ⟨none, 0, rfl, by simp, by unfold maxLen; omega, .inl rfl⟩
  · exact ⟨some ⟨db, off, none⟩, cap, rfl, h1, h2, .inr ⟨db, off, rfl, h3, h4⟩⟩
theorem own_at {W : World} {B g n c : Nat} {l : List UInt8} (h : W.ownsRow B 5 1 (.slice (some ⟨g, 0, none⟩) n c) n (cells8 l)) : BytesAt W W.heap.size (.slice (some ⟨g, 0, none⟩) n c) l := by
  have hs : Spare W B g n c l := h
  obtain ⟨_, s1, s2, s3, s4, s5⟩ := hs.bytes
  exact ⟨some ⟨g, 0, none⟩, c, by rw [s4], by rw [s4]; exact s2, s3, .inr ⟨g, 0, rfl, s1, s5⟩⟩

set_option maxRecDepth 100000 in
set_option maxHeartbeats 4000000 in
theorem rtagged_any (w : World) (s : ByteArray) (v : Value) (b : List UInt8) (hv : BytesAt w w.heap.size v b) (hs : s.size ≤ 900000) (hb : b.length ≤ 900000) :
    Calls Tryd.prog 50 #[.string s, v] w fun e w' => e = .returned (dv (tagged s.data.toList b)) ∧ Below w.heap.size w w' := by
  obtain ⟨j0, hj0, hy0, hy1, hy2⟩ := info_parts Tryd.infoU8
  have HJ := Lib.hid hj0
  have HY0 := Lib.hid hy0
  have HY1 := Lib.hid hy1
  have HY2 := Lib.hid hy2
  have hcv := fun (W : World) => Lib.run_convert_string_bytes (P := Tryd.prog) W 9 34 5 s Tryd.underlying9 Tryd.underlying34 Tryd.underlying5
  have HV := Lib.hid hv
  obtain ⟨n, hn⟩ : ∃ n, b.length = n := ⟨_, rfl⟩
  have HN := Lib.hid hn
  rw [hn] at hb
  have hls : s.data.toList.length = s.size := by rw [Array.length_toList]; rfl
  have HLS := Lib.hid hls
  obtain ⟨cs, hcs⟩ : ∃ cs, cells8 (sha s.data.toList) = cs := ⟨_, rfl⟩
  have hcl : cs.length = 32 := by rw [← hcs, cells8_len, sha_len]
  have HZ1 : Hid ((Tryd.prog.info? 30).map (·.size) = some cs.length) := by show _ = _; rw [hcl]; exact Tryd.info30
  have HO1 : Hid (∀ v ∈ cs, v.oneCell' = true) := Lib.hid (by rw [← hcs]; exact one_cells8 _)
  have HCL := Lib.hid hcl
  have HCS := Lib.hid hcs
  obtain ⟨cr, hcr⟩ : ∃ cr, cells8 (tagged s.data.toList b) = cr := ⟨_, rfl⟩
  have hrl : cr.length = 32 := by rw [← hcr, cells8_len, tagged_len]
  have HZR : Hid ((Tryd.prog.info? 30).map (·.size) = some cr.length) := by show _ = _; rw [hrl]; exact Tryd.info30
  have HOR : Hid (∀ v ∈ cr, v.oneCell' = true) := Lib.hid (by rw [← hcr]; exact one_cells8 _)
  have HRL := Lib.hid hrl
  have HCR := Lib.hid hcr
  have HSUM : Hid (∀ W (g c : Nat), W.ownsRow w.heap.size 5 1 (.slice (some ⟨g, 0, none⟩) (32 + n) c) (32 + n) (cs ++ cells8 b) → Calls Tryd.prog 77 #[.slice (some ⟨g, 0, none⟩) (32 + n) c] W fun e w' => e = .returned (.agg cr.toArray) ∧ Below W.heap.size W w') := Lib.hid fun W g c hO => by
    have h := rsum_any W _ (sha s.data.toList ++ b) (own_at (B := w.heap.size) (by rw [← cells8_append, hcs]; exact hO)) (by rw [List.length_append, sha_len, HN.out]; omega)
    rw [dv_eq, show cells8 (sha (sha s.data.toList ++ b)) = cr from hcr] at h
    exact h
  clear hv hn hj0 hy0 hy1 hy2 hls hcs hcl hcr hrl
  go_enter Tryd.func50, Tryd.ntmps50
  go_wp2_with (refine wpList_world (fun W => Below w.heap.size w W ∧ Arr W w.heap.size (cells8 (List.replicate 32 0)) ∧ w.heap.size < W.heap.size) ⟨by go_grown, Arr.new w _ 30, by simp⟩ ?_; rintro W0 ⟨hB0, hD0, hz0⟩)
  refine (rsum_any _ _ s.data.toList (row_at (bytesWorld_row W0 s _ (grownCap_ge _ _ _ _) (grownCap_le_maxLen _ _ _ _ (by unfold maxLen; omega)))) (by rw [HLS.out]; omega)).mono ?_
  rintro e w2 ⟨rfl, hB2⟩
  have hBw2 : Below w.heap.size w w2 := (hB0.trans ((bytesWorld_below W0 s).mono (by omega))).trans (hB2.mono (by rw [Lib.bytesWorld_size]; omega))
  have hD2 := (hD0.below (bytesWorld_below W0 s) hz0).below hB2 (by rw [Lib.bytesWorld_size]; omega)
  have hw2 : w.heap.size < w2.heap.size := by have := hB2.size; rw [Lib.bytesWorld_size] at this; omega
  rw [dv_eq, HCS.out]
  have HBW2 := Lib.hid hBw2
  have HD2 := Lib.hid hD2
  clear hB0 hD0 hB2 hBw2 hD2 hcv
  go_wp2_with (first
    | (refine store_new rfl 30 _ _ (by rfl) w2.heap.size w2.heap.size cs _ (by rfl) (by rfl) ((Below.refl w2.heap.size w2).alloc (Nat.le_refl _) _) (Nat.le_refl _) (Arr.new w2 _ 30) (by rw [HCL.out]; rfl) HZ1.out HO1.out ?_
       intro W3 hB3 hA3 hz3
       have hlt3 : w2.heap.size < W3.heap.size := by simp at hz3; omega
       have hk3 : Below w.heap.size w W3 := HBW2.out.trans (hB3.mono HBW2.out.size)
       have hD3 := HD2.out.below hB3 hw2
       have HA3 := Lib.hid hA3
       have HK3 := Lib.hid hk3
       have HD3 := Lib.hid hD3
       have hs3 := hk3.size
       clear hB3 hA3 hz3 hk3 hD3)
    | (refine wpList_buildSlice_run rfl 34 0 [] (by rfl) [] _ (by rfl) (bs0_22 _) ?_; simp only [Act.put, List.setIfInBounds_toArray, List.set_cons_zero, List.set_cons_succ])
    | (refine wpList_piece 34 5 j0 _ 1 1 Tryd.underlying34 HJ.out HY0.out HY1.out HY2.out rfl (by omega) (by rfl) (.tmp 9) (.tmp 10) (by rfl) (base := w.heap.size) (by rfl) (World.ownsRow_made W3 #[] 0 hs3 (by unfold maxLen; omega) rfl) (by rfl) (piece_row (n := 32) (c := 32) ((HA3.out.alloc hlt3 _).at_)) (by rw [HCL.out]) HO1.out (by unfold maxLen; omega) (by omega) (by have := hs3; simp; omega) 32 rfl cs (by simp) ?_
       intro hg0 g1 c1 W4 hO4 hG4 hat4
       have hB4 : Below w.heap.size w W4 := below_grow (HK3.out.alloc hs3 _) hG4 (fun k e => by cases e; exact hg0) (by have := hs3; simp; omega)
       have hD4 := (HD3.out.alloc (by omega) (.cells #[] 5)).moved hG4 (by simp; omega) (by intro e; injection e with e; have := hs3; omega)
       have hn4 : g1 ≠ w.heap.size := by rcases hat4 with h | h <;> (try simp at h) <;> omega
       have HB4 := Lib.hid hB4
       have HO4 := Lib.hid hO4
       have HD4 := Lib.hid hD4
       have hs4 := hB4.size
       have hz4 : w.heap.size < W4.heap.size := by have := hG4.size; simp at this; omega
       clear hG4 hat4 hB4 hD4 hO4
       simp only [Act.put, List.setIfInBounds_toArray, List.set_cons_zero, List.set_cons_succ])
    | (refine wpList_piece 34 5 j0 _ 1 1 Tryd.underlying34 HJ.out HY0.out HY1.out HY2.out rfl (by omega) (by rfl) (.tmp 11) (.tmp 12) (by rfl) (base := w.heap.size) (by rfl) HO4.out (by rfl) (by have := piece_bytes (HV.out.below HB4.out); rw [HN.out] at this; exact this) (by rw [cells8_len, HN.out]; omega) (one_cells8 _) (by unfold maxLen; omega) (by omega) hs4 (32 + n) rfl (cs ++ cells8 b) rfl ?_
       intro hg1 g2 c2 W5 hO5 hG5 hat5
       have hB5 : Below w.heap.size w W5 := below_grow HB4.out hG5 (fun k e => by cases e; exact hg1) hs4
       have hD5 := HD4.out.moved hG5 hz4 (by intro e; injection e with e; exact hn4 e.symm)
       have HB5 := Lib.hid hB5
       have HO5 := Lib.hid hO5
       have HD5 := Lib.hid hD5
       have hz5 : w.heap.size < W5.heap.size := by have := hG5.size; omega
       clear hG5 hat5 hB5 hD5 hO5
       simp only [Act.put, List.setIfInBounds_toArray, List.set_cons_zero, List.set_cons_succ])
    | (go_at_call 77
       refine (HSUM.out W5 g2 c2 HO5.out).mono ?_
       rintro e w6 ⟨rfl, hB6⟩
       have HB6 := Lib.hid (HB5.out.trans (hB6.mono HB5.out.size))
       have HD6 := Lib.hid (HD5.out.below hB6 hz5)
       clear hB6)
    | (refine store_new rfl 30 _ _ (by rfl) w.heap.size w.heap.size cr _ (by rfl) (by rfl) HB6.out (Nat.le_refl _) HD6.out (by rw [HRL.out]; rfl) HZR.out HOR.out ?_; intro W9 hB9 hA9 hz9))
  refine bodyPost_ret (results_cell_mid rfl _ _ _ _ _ rfl hA9.at_ Tryd.underlying30 rfl HZR.out) rfl ?_
  exact ⟨by rw [dv_eq, HCR.out], hB9⟩
end Go.Proofs.YtfmngeemhfpeiaaDoor
