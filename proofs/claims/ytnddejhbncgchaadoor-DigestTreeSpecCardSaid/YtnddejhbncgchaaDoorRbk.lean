/- The reference's block: the state after 64 bytes. -/
import Derived.Test.YtnddejhbncgchaaDoorReg
namespace Go.Proofs.YtnddejhbncgchaaDoor
open Go.RowKit

theorem KB.drewN {wr W : World} {b t : Nat} (h : KB wr b t W) (q : Nat) : KB wr b t (W.drewN q) := by
  obtain ⟨W', hk, rfl | ⟨v, rfl⟩⟩ := h
  · exact ⟨_, hk.drewN q, .inl rfl⟩
  · exact ⟨W'.drewN q, hk.drewN q, .inr ⟨v, rfl⟩⟩
theorem But.drewN {w1 W : World} {sb : Nat} (h : But w1 sb W) (q : Nat) : But w1 sb (W.drewN q) := ⟨h.os, h.tape, h.output, h.size, h.block⟩
theorem But.next {w1 W W' : World} {sb : Nat} (h : But w1 sb W) (k : Below W.heap.size W W') : But w1 sb W' := gtrans h (gbelow k)
theorem Tryd.built69 : Tryd.prog.built 69 [] = some (ws (List.replicate 64 (0#32))).toArray := by kernel_rfl
theorem run_build69 (W : World) : (Instr.build 69 (List.toArray ([] : List (Nat × Value)))).run Tryd.prog W = .ok (.agg (ws (List.replicate 64 (0#32))).toArray) W := run_build W 69 #[] _ Tryd.built69
theorem built50 (a b c d e f g h : (BitVec 32)) : Tryd.prog.built 50 [(0, .int .u32 a.toNat), (1, .int .u32 b.toNat), (2, .int .u32 c.toNat), (3, .int .u32 d.toNat), (4, .int .u32 e.toNat), (5, .int .u32 f.toNat), (6, .int .u32 g.toNat), (7, .int .u32 h.toNat)] = some (ws [a, b, c, d, e, f, g, h]).toArray := by kernel_rfl
theorem part_zero (blk : List UInt8) : part blk 0 = List.replicate 64 (0#32) := rfl

theorem three_a (w : World) (A B C : Array Value) (t1 t2 t3 : TypeId) : Arr (((w.alloc (.cells A t1)).alloc (.cells B t2)).alloc (.cells C t3)) w.heap.size A.toList :=
  ((Arr.new w A t1).alloc (by simp) _).alloc (by simp; omega) _
theorem three_b (w : World) (A B C : Array Value) (t1 t2 t3 : TypeId) : Arr (((w.alloc (.cells A t1)).alloc (.cells B t2)).alloc (.cells C t3)) (w.heap.size + 1) B.toList := by
  have h := (Arr.new (w.alloc (.cells A t1)) B t2).alloc (by simp) (.cells C t3)
  rwa [World.size_alloc] at h
theorem three_c (w : World) (A B C : Array Value) (t1 t2 t3 : TypeId) : Arr (((w.alloc (.cells A t1)).alloc (.cells B t2)).alloc (.cells C t3)) (w.heap.size + 2) C.toList := by
  have h := Arr.new ((w.alloc (.cells A t1)).alloc (.cells B t2)) C t3
  rwa [World.size_alloc, World.size_alloc] at h

set_option maxRecDepth 100000 in
set_option maxHeartbeats 8000000 in
theorem rblk_any (w : World) (db off cap : Nat) (s : St) (blk : List UInt8) (hl : blk.length = 64) (hb : BytesIn w db off blk) (hdb : db < w.heap.size) (hcap : 64 ≤ cap) (hcm : cap ≤ maxLen)
    (hnum : ∀ W : World, Calls Tryd.prog 52 #[] W fun e w' => e = .returned (.agg (ws ks).toArray) ∧ Below W.heap.size W w') :
    Calls Tryd.prog 33 #[.agg (ws s.list).toArray, .slice (some ⟨db, off, none⟩) 64 cap] w fun e w' => e = .returned (.agg (ws (press s blk).list).toArray) ∧ Below w.heap.size w w' := by
  have HB := Lib.hid hb
  have HL := Lib.hid hl
  have HNUM := Lib.hid hnum
  unfold maxLen at hcm
  clear hb hl hnum
  have hz64 : (ws (List.replicate 64 (0#32))).length = 64 := by simp [ws]
  obtain ⟨z64, hz⟩ : ∃ z, ws (List.replicate 64 (0#32)) = z := ⟨_, rfl⟩
  have HZ := Lib.hid hz
  have hlz : z64.length = 64 := by rw [← hz]; exact hz64
  have HLZ := Lib.hid hlz
  have HZZ : Hid ((Tryd.prog.info? 69).map (·.size) = some z64.length) := by show _ = _; rw [hlz]; exact Tryd.info69
  have HOZ : Hid (∀ v ∈ z64, v.oneCell' = true) := Lib.hid (by rw [← hz]; exact one_ws _)
  have HB69 : Hid (∀ W : World, (Instr.build 69 (List.toArray ([] : List (Nat × Value)))).run Tryd.prog W = .ok (.agg z64.toArray) W) := Lib.hid fun W => by rw [run_build69, hz]
  clear hz hlz hz64
  show Calls Tryd.prog 33 #[.agg #[.int .u32 s.a.toNat, .int .u32 s.b.toNat, .int .u32 s.c.toNat, .int .u32 s.d.toNat, .int .u32 s.e.toNat, .int .u32 s.f.toNat, .int .u32 s.g.toNat, .int .u32 s.h.toNat], .slice (some ⟨db, off, none⟩) 64 cap] w _
  go_enter Tryd.func33, Tryd.ntmps33
  go_wp2_with (first
    | (refine wpList_build_run rfl 69 [] (by rfl) [] _ (by rfl) (HB69.out _) ?_; simp only [Act.put, List.setIfInBounds_toArray, List.set_cons_zero, List.set_cons_succ])
    | (refine wpList_world (fun W => Below w.heap.size w W ∧ Arr W w.heap.size (ws s.list) ∧ Arr W (w.heap.size + 1) (ws (List.replicate 8 (0#32))) ∧ Arr W (w.heap.size + 2) (ws (List.replicate 64 (0#32))) ∧ w.heap.size + 2 < W.heap.size)
         ⟨by go_grown, three_a w _ _ _ 50 50 69, three_b w _ _ _ 50 50 69, three_c w _ _ _ 50 50 69, by simp⟩ ?_
       rintro W0 ⟨hB0, hS0, hR0, hW0, hz0⟩
       refine store_new2 rfl 69 _ _ (by rfl) w.heap.size (w.heap.size + 2) z64 _ (by rfl) (by rfl) hB0 (by omega) hW0 (by rw [HLZ.out]; rfl) HZZ.out HOZ.out ?_
       intro W1 hB1 hA1 hO1 hz1
       have hS1 := hO1 w.heap.size _ (by omega) hS0
       have hR1 := hO1 (w.heap.size + 1) _ (by omega) hR0
       have hA1' : Arr W1 (w.heap.size + 2) (ws (part blk 0)) := by rw [part_zero, HZ.out]; exact hA1
       have hz1' : w.heap.size + 2 < W1.heap.size := by omega
       have HB1 := Lib.hid hB1
       have HS1 := Lib.hid hS1
       have HR1 := Lib.hid hR1
       have HA1 := Lib.hid hA1'
       clear hB0 hS0 hR0 hW0 hz0 hB1 hA1 hO1 hz1 hS1 hR1 hA1'))
  go_loopw [6] (fun i wr => ∃ t : Nat, i = .int .i64 t ∧ t ≤ 16 ∧ But W1 (w.heap.size + 2) wr ∧ Arr wr (w.heap.size + 2) (ws (part blk t)))
    (fun i _ => 16 - (intOf i).toNat)
  case atStart => exact ⟨0, rfl, by omega, gbelow (Below.refl _ _), HA1.out⟩
  case round =>
    obtain ⟨t, rfl, ht, hG, hA⟩ := hrel
    have hbt : w.heap.size + 2 < wr.heap.size := by have := hG.size; omega
    by_cases hlt : t < 16
    · have hd : decide ((t : Int) < 16) = true := by simp; omega
      have hbd : BytesIn wr db off blk := fun i hi => by
        have h1 := (HB1.out.cell (p := ⟨db, off + i, none⟩) hdb).trans (HB.out i hi)
        exact (World.cell?_of_block (a := ⟨db, off + i, none⟩) (hG.block db (by omega) (by intro e; injection e with e; omega))).trans h1
      have hwd := word50 db (off + 4 * t) 4 (cap - 4 * t) (blk.getD (4 * t) 0) (blk.getD (4 * t + 1) 0) (blk.getD (4 * t + 2) 0) (blk.getD (4 * t + 3) 0) wr (by omega) (hbd.getD (by rw [HL.out]; omega)) (by rw [Nat.add_assoc]; exact hbd.getD (by rw [HL.out]; omega)) (by rw [Nat.add_assoc]; exact hbd.getD (by rw [HL.out]; omega)) (by rw [Nat.add_assoc]; exact hbd.getD (by rw [HL.out]; omega))
      have hlen : t < (ws (part blk t)).length := by rw [ws_len, part_len blk (by omega)]; omega
      have hc : ∀ q, (wr.drewN q).cell? ⟨w.heap.size + 2, t, none⟩ = some ((ws (part blk t))[t]'hlen) := fun q => (hA.drewN q).cell (List.getElem?_eq_getElem hlen)
      have hf : ∀ q, (wr.drewN q).frozen? ⟨w.heap.size + 2, t, none⟩ = false := fun q => (hA.drewN q).frozen hlen
      obtain ⟨u, hu⟩ : ∃ u, (ws (part blk t))[t]'hlen = u := ⟨_, rfl⟩
      rw [hu] at hc
      have HWD := Lib.hid hwd
      have HA := Lib.hid hA
      have HG := Lib.hid hG
      have f1 : (4 : Int) * (t : Int) + 4 ≤ (cap : Int) := by omega
      clear hwd hA hG hbd hu hlen
      go_wp2_with fail
      refine HWD.out.mono ?_
      rintro e w' ⟨rfl, q, rfl⟩
      have hcq := hc q
      have hfq := hf q
      have HX := Lib.hid (show (if t < 16 then word blk (4 * t) else ext (sch blk t) t) = word blk (4 * t) from if_pos hlt)
      obtain ⟨x, hx⟩ : ∃ x, (b32 (blk.getD (4 * t) 0) <<< 24 ||| b32 (blk.getD (4 * t + 1) 0) <<< 16 ||| b32 (blk.getD (4 * t + 2) 0) <<< 8 ||| b32 (blk.getD (4 * t + 3) 0)) = x := ⟨_, rfl⟩
      rw [hx]
      have HXX := Lib.hid hx
      clear hx hc hf
      go_wp2
      go_roundw
      case rel =>
        refine ⟨t + 1, by simp, by omega, (HG.out.drewN q).set _ _, ?_⟩
        rw [← part_next blk (by omega), HX.out, show word blk (4 * t) = x from HXX.out]
        exact (HA.out.drewN q).set t _
      case measure => simp [intOf]; omega
    · obtain rfl : t = 16 := by omega
      have d16 : decide (((16 : Nat) : Int) < 16) = false := by decide
      have HG := Lib.hid hG
      have HA := Lib.hid hA
      clear hG hA
      go_wp2
      go_loopw [7] (fun i wr => ∃ t : Nat, i = .int .i64 t ∧ 16 ≤ t ∧ t ≤ 64 ∧ But W1 (w.heap.size + 2) wr ∧ Arr wr (w.heap.size + 2) (ws (part blk t)))
        (fun i _ => 64 - (intOf i).toNat)
      case atStart => exact ⟨16, rfl, by omega, by omega, HG.out, HA.out⟩
      case round =>
        obtain ⟨t, rfl, ht0, ht, hB, hA⟩ := hrel
        clear hbt
        have hsz : w.heap.size + 2 < wr.heap.size := by have := hB.size; omega
        by_cases hlt : t < 64
        · have hd : decide ((t : Int) < 64) = true := by simp; omega
          have hlen : t < (ws (part blk t)).length := by rw [ws_len, part_len blk (by omega)]; omega
          obtain ⟨u, hu⟩ : ∃ u, (ws (part blk t))[t]'hlen = u := ⟨_, rfl⟩
          have hc : ∀ W, Kept wr W → W.cell? ⟨w.heap.size + 2, t, none⟩ = some u := fun W hW => (hW.below.cell (p := ⟨w.heap.size + 2, t, none⟩) hsz).trans (hu ▸ hA.cell (List.getElem?_eq_getElem hlen))
          have hf : ∀ W, Kept wr W → W.frozen? ⟨w.heap.size + 2, t, none⟩ = false := fun W hW => (hW.below.frozen (p := ⟨w.heap.size + 2, t, none⟩) hsz).trans (hA.frozen hlen)
          have hg : ∀ k, 0 < k → k ≤ 16 → ∀ W, KB wr (w.heap.size + 2) t W → W.cell? ⟨w.heap.size + 2, t - k, none⟩ = some (.int .u32 ((sch blk t).getD (t - k) 0).toNat) := fun k hk0 hk W hW => hW.cell hsz (by omega) (hA.cell (part_get blk (by omega)))
          obtain ⟨x15, h15⟩ : ∃ x, (sch blk t).getD (t - 15) 0 = x := ⟨_, rfl⟩
          obtain ⟨x2, h2⟩ : ∃ x, (sch blk t).getD (t - 2) 0 = x := ⟨_, rfl⟩
          obtain ⟨x16, h16⟩ : ∃ x, (sch blk t).getD (t - 16) 0 = x := ⟨_, rfl⟩
          obtain ⟨x7, h7⟩ : ∃ x, (sch blk t).getD (t - 7) 0 = x := ⟨_, rfl⟩
          have g15 := hg 15 (by omega) (by omega)
          have g2 := hg 2 (by omega) (by omega)
          have g16 := hg 16 (by omega) (by omega)
          have g7 := hg 7 (by omega) (by omega)
          rw [h15] at g15
          rw [h2] at g2
          rw [h16] at g16
          rw [h7] at g7
          have c15 := g15 wr (KB.kept (Kept.refl _))
          have c2 := g2 wr (KB.kept (Kept.refl _))
          have HV : Hid ((if t < 16 then word blk (4 * t) else ext (sch blk t) t) = x16 + (ror x15 7 ^^^ ror x15 18 ^^^ x15 >>> 3) + x7 + (ror x2 17 ^^^ ror x2 19 ^^^ x2 >>> 10)) := by
            show _ = _
            rw [if_neg (by omega)]
            simp only [ext, h15, h2, h16, h7]
          have HA := Lib.hid hA
          have HBB := Lib.hid hB
          obtain ⟨n16, hn16⟩ : ∃ n : Nat, t - 16 = n := ⟨_, rfl⟩
          obtain ⟨n7, hn7⟩ : ∃ n : Nat, t - 7 = n := ⟨_, rfl⟩
          rw [hn16] at g16
          rw [hn7] at g7
          have q16 : IntKind.i64.wrap (n16 : Int) = (n16 : Int) := by rw [IntKind.wrap_i64]; omega
          have q7 : IntKind.i64.wrap (n7 : Int) = (n7 : Int) := by rw [IntKind.wrap_i64]; omega
          have r16 : (t : Int) - 16 = (n16 : Int) := by omega
          have r7 : (t : Int) - 7 = (n7 : Int) := by omega
          have b1 : (n16 : Int) < 64 := by omega
          have b2 : (n7 : Int) < 64 := by omega
          have b5 : (t : Int) < 64 := by omega
          have b6 : (0 : Int) ≤ (t : Int) := by omega
          have b7 : (0 : Int) ≤ (n16 : Int) := by omega
          have b8 : (0 : Int) ≤ (n7 : Int) := by omega
          have hK1 : Kept wr wr := Kept.refl _
          have hc1 := hc _ hK1
          have hf1 := hf _ hK1
          have hS1 : KB wr (w.heap.size + 2) t wr := KB.kept hK1
          clear hA hB hu hlen hg h15 h2 h16 h7 hc hf
          go_wp2
          go_region_held3 (fun W => KB wr (w.heap.size + 2) t W) (first | assumption | exact KB.kept (Kept.drew hK1) | exact KB.drewN (by assumption) _ | exact KB.set hK1 _ | exact KB.set (Kept.drew hK1) _ | exact KB.set (Kept.drewN hK1 _) _)
            (first | (go_at_call 51; refine (rror _ _ (by decide) _).mono ?_; rintro e w' ⟨rfl, q, rfl⟩))
          go_wp2
          go_roundw
          case rel =>
            iterate 44 apply Exists.intro
            refine ⟨?_, rfl⟩
            have key : ∀ (Q : Nat) (E : Int), E = ((x16 + (ror x15 7 ^^^ ror x15 18 ^^^ x15 >>> 3) + x7 + (ror x2 17 ^^^ ror x2 19 ^^^ x2 >>> 10)).toNat : Int) →
                But W1 (w.heap.size + 2) ((wr.drewN Q).setCell ⟨w.heap.size + 2, t, none⟩ (.int .u32 E)) ∧ Arr ((wr.drewN Q).setCell ⟨w.heap.size + 2, t, none⟩ (.int .u32 E)) (w.heap.size + 2) (ws (part blk (t + 1))) := by
              rintro Q _ rfl
              refine ⟨(HBB.out.drewN Q).set _ _, ?_⟩
              rw [← part_next blk (by omega), HV.out]
              exact (HA.out.drewN Q).set t _
            refine ⟨t + 1, by simp, by omega, by omega, And.left (key _ _ ?_), And.right (key _ _ ?_)⟩ <;>
              simp only [← IntKind.wrap_u32', w_shr3', w_shr10', w_xor, w_add]
          case measure => simp [intOf]; omega
        · obtain rfl : t = 64 := by omega
          rw [part_is] at hA
          have d64 : decide (((64 : Nat) : Int) < 64) = false := by decide
          obtain ⟨cs, hcs⟩ : ∃ cs, ws (sch blk 64) = cs := ⟨_, rfl⟩
          rw [hcs] at hA
          have HCS := Lib.hid hcs
          have HA := Lib.hid hA
          have HB := Lib.hid hB
          clear hA hB hcs
          have hlk : (ws ks).length = 64 := by rw [ws_len]; decide
          obtain ⟨ck, hck⟩ : ∃ ck, ws ks = ck := ⟨_, rfl⟩
          rw [hck] at hlk
          have HLK := Lib.hid hlk
          have HCK := Lib.hid hck
          have HZK : Hid ((Tryd.prog.info? 69).map (·.size) = some ck.length) := by show _ = _; rw [hlk]; exact Tryd.info69
          have HOK : Hid (∀ v ∈ ck, v.oneCell' = true) := Lib.hid (by rw [← hck]; exact one_ws _)
          have hnum : ∀ W : World, Calls Tryd.prog 52 #[] W fun e w' => e = .returned (.agg ck.toArray) ∧ Below W.heap.size W w' := fun W => by have h := HNUM.out W; rwa [hck] at h
          have HN2 := Lib.hid hnum
          clear hlk hck hnum
          go_wp2_with fail
          refine (HN2.out wr).mono ?_
          rintro e w2 ⟨rfl, hB2⟩
          have HB2 := Lib.hid hB2
          have hs2 := hB2.size
          clear hB2
          go_wp2_with (refine store_new rfl 69 _ _ (by rfl) w2.heap.size w2.heap.size ck _ (by rfl) (by rfl) ((Below.refl w2.heap.size w2).alloc (Nat.le_refl _) _) (Nat.le_refl _) (Arr.new w2 _ 69) (by rw [HLK.out]; rfl) HZK.out HOK.out ?_; intro W3 hB3 hA3 hz3)
          have hlt3 : w2.heap.size < W3.heap.size := by simp at hz3; omega
          have hG3 : But W1 (w.heap.size + 2) W3 := (HB.out.next HB2.out).next hB3
          have hS3 : Arr W3 w.heap.size (ws s.list) := HS1.out.moved hG3 (by omega) (by intro e; injection e with e; omega)
          have hR3 : Arr W3 (w.heap.size + 1) (ws (List.replicate 8 (0#32))) := HR1.out.moved hG3 (by omega) (by intro e; injection e with e; omega)
          have hW3 : Arr W3 (w.heap.size + 2) cs := (HA.out.below HB2.out (by omega)).below hB3 (by omega)
          have hw3 : Below w.heap.size w W3 := below_grow HB1.out hG3 (fun k e => by cases e; omega) (by omega)
          have c0 : W3.cell? ⟨w.heap.size, 0, none⟩ = some (.int .u32 s.a.toNat) := hS3.cell rfl
          have c1 : W3.cell? ⟨w.heap.size, 1, none⟩ = some (.int .u32 s.b.toNat) := hS3.cell rfl
          have c2 : W3.cell? ⟨w.heap.size, 2, none⟩ = some (.int .u32 s.c.toNat) := hS3.cell rfl
          have c3 : W3.cell? ⟨w.heap.size, 3, none⟩ = some (.int .u32 s.d.toNat) := hS3.cell rfl
          have c4 : W3.cell? ⟨w.heap.size, 4, none⟩ = some (.int .u32 s.e.toNat) := hS3.cell rfl
          have c5 : W3.cell? ⟨w.heap.size, 5, none⟩ = some (.int .u32 s.f.toNat) := hS3.cell rfl
          have c6 : W3.cell? ⟨w.heap.size, 6, none⟩ = some (.int .u32 s.g.toNat) := hS3.cell rfl
          have c7 : W3.cell? ⟨w.heap.size, 7, none⟩ = some (.int .u32 s.h.toNat) := hS3.cell rfl
          have HA3 := Lib.hid hA3
          have HS3 := Lib.hid hS3
          have HR3 := Lib.hid hR3
          have HW3 := Lib.hid hW3
          have HK3 := Lib.hid hw3
          clear hA3 hS3 hR3 hW3 hw3 hB3 hz3 hG3
          go_wp2
          go_quiet (fail)
          obtain ⟨W4, hW4⟩ : ∃ W4, W4 = W3.drewN nq := ⟨_, rfl⟩
          rw [← hW4]
          have hK4 : Kept W3 W4 := by rw [hW4]; exact Kept.drewN (Kept.refl _) _
          have HK4 := Lib.hid hK4
          clear c0 c1 c2 c3 c4 c5 c6 c7 hW4 hK4
          go_wp2
          go_loopw [11, 12, 13, 14, 15, 16, 17, 18, 19] (fun a b c d e f g h i wr => ∃ (t : Nat) (S : St), t ≤ 64 ∧ S = rnds (sch blk 64) s t ∧ a = .int .u32 S.a.toNat ∧ b = .int .u32 S.b.toNat ∧ c = .int .u32 S.c.toNat ∧ d = .int .u32 S.d.toNat
              ∧ e = .int .u32 S.e.toNat ∧ f = .int .u32 S.f.toNat ∧ g = .int .u32 S.g.toNat ∧ h = .int .u32 S.h.toNat ∧ i = .int .i64 t ∧ Kept W3 wr)
            (fun _ _ _ _ _ _ _ _ i _ => 64 - (intOf i).toNat)
          case atStart => exact ⟨0, s, by omega, rfl, rfl, rfl, rfl, rfl, rfl, rfl, rfl, rfl, rfl, HK4.out⟩
          case round =>
            obtain ⟨t, S, ht, hS, rfl, rfl, rfl, rfl, rfl, rfl, rfl, rfl, rfl, hK⟩ := hrel
            by_cases hlt : t < 64
            · have hd : decide ((t : Int) < 64) = true := by simp; omega
              obtain ⟨k, hk⟩ : ∃ k, ks.getD t 0 = k := ⟨_, rfl⟩
              obtain ⟨x, hx⟩ : ∃ x, (sch blk 64).getD t 0 = x := ⟨_, rfl⟩
              have kt : wr.cell? ⟨w2.heap.size, t, none⟩ = some (.int .u32 k.toNat) := by
                have hg : ck[t]? = some (.int .u32 k.toNat) := by
                  rw [← HCK.out, ← hk]
                  have : ks.length = 64 := by decide
                  simp [ws, List.getD, List.getElem?_eq_getElem (show t < ks.length by omega)]
                exact (HA3.out.below hK.below hlt3).cell hg
              have wt : wr.cell? ⟨w.heap.size + 1 + 1, t, none⟩ = some (.int .u32 x.toNat) := by
                have hg : cs[t]? = some (.int .u32 x.toNat) := by
                  rw [← HCS.out, ← hx]
                  have := sch_len blk 64
                  simp [ws, List.getD, List.getElem?_eq_getElem (show t < (sch blk 64).length by omega)]
                exact (HW3.out.below hK.below (by omega)).cell hg
              have b5 : (t : Int) < 64 := by omega
              have b6 : (0 : Int) ≤ (t : Int) := by omega
              have HSS := Lib.hid hS
              have HKK := Lib.hid hk
              have HXX := Lib.hid hx
              have HK := Lib.hid hK
              clear hS hk hx hK
              go_wp2
              go_quiet (first | (go_at_call 51; exact Calls.quiet_of (rror _ _ (by decide) _)))
              obtain ⟨p, hp⟩ : ∃ p, pOf S k x = p := ⟨_, rfl⟩
              rw [p_form, hp]
              have HP := Lib.hid hp
              obtain ⟨W5, hW5⟩ : ∃ W5, W5 = wr.drewN nq := ⟨_, rfl⟩
              rw [← hW5]
              have HK5 : Hid (Kept W3 W5) := by show Kept W3 W5; rw [hW5]; exact Kept.drewN HK.out _
              clear hp kt wt hW5
              go_wp2_with (first | (go_at_call 51; refine (rror _ _ (by decide) _).mono ?_; rintro e w' ⟨rfl, q, rfl⟩))
              go_roundw
              case rel =>
                have hr : rnds (sch blk 64) s (t + 1) = round S k x := by rw [rnds, HKK.out, HXX.out, ← HSS.out]
                refine ⟨t + 1, rnds (sch blk 64) s (t + 1), by omega, rfl, ?_, ?_, ?_, ?_, ?_, ?_, ?_, ?_, by simp, (HK5.out.drewN _)⟩ <;> rw [hr, round_is, HP.out] <;> first | rfl | (refine vint ?_; simp only [w_xor, w_and, qOf, BitVec.toNat_add]; omega)
              case measure => simp [intOf]; omega
            · obtain rfl : t = 64 := by omega
              have d64 : decide (((64 : Nat) : Int) < 64) = false := by decide
              have hS4 := HS3.out.below hK.below (by omega)
              have hR4 := HR3.out.below hK.below (by omega)
              have hpr : press s blk = s.add S := by rw [press, ← hS]
              have HPR := Lib.hid hpr
              have HKW := Lib.hid (HK3.out.trans (hK.below.mono HK3.out.size))
              have c0 : wr.cell? ⟨w.heap.size, 0, none⟩ = some (.int .u32 s.a.toNat) := hS4.cell rfl
              have c1 : wr.cell? ⟨w.heap.size, 1, none⟩ = some (.int .u32 s.b.toNat) := hS4.cell rfl
              have c2 : wr.cell? ⟨w.heap.size, 2, none⟩ = some (.int .u32 s.c.toNat) := hS4.cell rfl
              have c3 : wr.cell? ⟨w.heap.size, 3, none⟩ = some (.int .u32 s.d.toNat) := hS4.cell rfl
              have c4 : wr.cell? ⟨w.heap.size, 4, none⟩ = some (.int .u32 s.e.toNat) := hS4.cell rfl
              have c5 : wr.cell? ⟨w.heap.size, 5, none⟩ = some (.int .u32 s.f.toNat) := hS4.cell rfl
              have c6 : wr.cell? ⟨w.heap.size, 6, none⟩ = some (.int .u32 s.g.toNat) := hS4.cell rfl
              have c7 : wr.cell? ⟨w.heap.size, 7, none⟩ = some (.int .u32 s.h.toNat) := hS4.cell rfl
              obtain ⟨c8, hc8⟩ : ∃ c8, ws (s.add S).list = c8 := ⟨_, rfl⟩
              have hl8 : c8.length = 8 := by rw [← hc8]; rfl
              have HL8 := Lib.hid hl8
              have HC8 := Lib.hid hc8
              have HZ8 : Hid ((Tryd.prog.info? 50).map (·.size) = some c8.length) := by show _ = _; rw [hl8]; kernel_rfl
              have HO8 : Hid (∀ v ∈ c8, v.oneCell' = true) := Lib.hid (by rw [← hc8]; exact one_ws _)
              have hb50 : ∀ (W : World) (e0 e1 e2 e3 e4 e5 e6 e7 : Int), e0 = ((s.a + S.a).toNat : Int) → e1 = ((s.b + S.b).toNat : Int) → e2 = ((s.c + S.c).toNat : Int) → e3 = ((s.d + S.d).toNat : Int) → e4 = ((s.e + S.e).toNat : Int) → e5 = ((s.f + S.f).toNat : Int) → e6 = ((s.g + S.g).toNat : Int) → e7 = ((s.h + S.h).toNat : Int) →
                  (Instr.build 50 (List.toArray [(0, .int .u32 e0), (1, .int .u32 e1), (2, .int .u32 e2), (3, .int .u32 e3), (4, .int .u32 e4), (5, .int .u32 e5), (6, .int .u32 e6), (7, .int .u32 e7)])).run Tryd.prog W = .ok (.agg c8.toArray) W := by
                rintro W _ _ _ _ _ _ _ _ rfl rfl rfl rfl rfl rfl rfl rfl
                rw [← hc8]
                exact run_build W 50 _ _ (built50 _ _ _ _ _ _ _ _)
              have HB50 := Lib.hid hb50
              have HR4 := Lib.hid hR4
              have hbr : w.heap.size + 1 < wr.heap.size := by have := hK.size; omega
              clear hS hS4 hR4 hpr hK hc8 hl8 hb50
              go_wp2_with (first
                | (refine wpList_build_run rfl 50 [(0, Operand.tmp 161), (1, Operand.tmp 165), (2, Operand.tmp 169), (3, Operand.tmp 173), (4, Operand.tmp 177), (5, Operand.tmp 181), (6, Operand.tmp 185), (7, Operand.tmp 189)] (by rfl) _ _ (by rfl) (HB50.out _ _ _ _ _ _ _ _ _ (by simp only [← IntKind.wrap_u32', w_add]) (by simp only [← IntKind.wrap_u32', w_add]) (by simp only [← IntKind.wrap_u32', w_add]) (by simp only [← IntKind.wrap_u32', w_add]) (by simp only [← IntKind.wrap_u32', w_add]) (by simp only [← IntKind.wrap_u32', w_add]) (by simp only [← IntKind.wrap_u32', w_add]) (by simp only [← IntKind.wrap_u32', w_add])) ?_; simp only [Act.put, List.setIfInBounds_toArray, List.set_cons_zero, List.set_cons_succ])
                | (refine store_new rfl 50 _ _ (by rfl) w.heap.size (w.heap.size + 1) c8 _ (by rfl) (by rfl) HKW.out (by omega) HR4.out (by rw [HL8.out]; rfl) HZ8.out HO8.out ?_; intro W9 hB9 hA9 hz9))
              refine bodyPost_ret (results_cell_mid rfl _ _ _ _ _ rfl hA9.at_ Tryd.underlying50 rfl HZ8.out) rfl ?_
              exact ⟨by rw [HPR.out, HC8.out], hB9⟩
end Go.Proofs.YtnddejhbncgchaaDoor
