/- Fonts: the examples that every law of stage 11 runs first. -/
import Derived.Test.YtljgcpfibamdpaaDoorFit
namespace Go.Proofs.YtljgcpfibamdpaaDoor
open Go.RowKit

theorem info36s : (Tryd.prog.info? 36).map (·.size) = some 3 := by kernel_rfl
/-- The font of the chapter's examples. -/
def plainF : Fo := ⟨[⟨97, 122, 10⟩], 3, [⟨97, 118, 2⟩]⟩
def wrongF : Fo := ⟨[⟨5, 4, 0⟩], 0, []⟩
def emptyF (o : Int) : Fo := ⟨[], o, []⟩
theorem s_w1 : fwW plainF [97, 118, 101, 33] = 31 ∧ frE plainF [97, 118, 101, 33] = 0 := by decide +kernel
theorem s_w2 : fwW plainF [] = 0 ∧ frE plainF [] = 0 := by decide +kernel
theorem s_w3 : fwW plainF [97] = 10 ∧ frE plainF [97] = 0 := by decide +kernel
theorem s_w4 : fwW plainF [97, 118] = 18 ∧ frE plainF [97, 118] = 0 := by decide +kernel
theorem s_w5 : fwW wrongF [] = 0 ∧ frE wrongF [] = 110 := by decide +kernel
theorem s_f1 : fitR plainF [97, 118, 101, 33] 30 = (3, 28) ∧ frE plainF [97, 118, 101, 33] = 0 := by decide +kernel
theorem s_f2 : fitR plainF [97] (-1) = (0, 0) ∧ frE plainF [97] = 0 := by decide +kernel
theorem s_c1 : plainF.err = 0 := by decide +kernel
theorem s_c2 : (emptyF 0).err = 0 := by decide +kernel
theorem s_c3 : (emptyF (-1)).err = 110 := by decide +kernel
theorem t_one {w : World} {b : Nat} {x y z : Int} (h : Arr w b [.int .i64 x, .int .i64 y, .int .i64 z]) (hi : (Tri.mk x y z).in64) (hb : b < w.heap.size) : TAt w w.heap.size (.slice (some ⟨b, 0, none⟩) 1 1) [⟨x, y, z⟩] := by
  refine ⟨_, 1, rfl, by simp, by unfold maxLen; omega, .inr ⟨b, 0, rfl, hb, fun i hi2 => ?_⟩⟩
  have : i = 0 := by simpa using hi2
  subst this
  exact ⟨hi, by simpa using h.cell (i := 0) rfl, by simpa using h.cell (i := 1) rfl, by simpa using h.cell (i := 2) rfl⟩
set_option maxRecDepth 100000 in
set_option maxHeartbeats 2000000 in
theorem plain_any (w : World) : Calls Tryd.prog 35 #[] w fun e w' => ∃ a c, e = .returned (.agg #[.slice a 1 1, .int .i64 3, .slice c 1 1]) ∧ FAt w' w'.heap.size (.agg #[.slice a 1 1, .int .i64 3, .slice c 1 1]) plainF ∧ Below w.heap.size w w' := by
  go_enter Tryd.func35, Tryd.ntmps35
  go_wp2
  obtain ⟨g1, hg1⟩ : ∃ g, w.heap.size + 1 = g := ⟨_, rfl⟩
  obtain ⟨g2, hg2⟩ : ∃ g, w.heap.size + 1 + 1 = g := ⟨_, rfl⟩
  have hA0 := ((Arr.new w #[.slice (some ⟨g1, 0, none⟩) 1 1, .int .i64 3, .slice (some ⟨g2, 0, none⟩) 1 1] 36).alloc (by simp) (.cells #[.int .i64 97, .int .i64 122, .int .i64 10] 47)).alloc (by simp <;> omega) (.cells #[.int .i64 97, .int .i64 118, .int .i64 2] 49)
  have hA1 := (Arr.new (w.alloc (.cells #[.slice (some ⟨g1, 0, none⟩) 1 1, .int .i64 3, .slice (some ⟨g2, 0, none⟩) 1 1] 36)) #[.int .i64 97, .int .i64 122, .int .i64 10] 47).alloc (by simp) (.cells #[.int .i64 97, .int .i64 118, .int .i64 2] 49)
  have hA2 := Arr.new ((w.alloc (.cells #[.slice (some ⟨g1, 0, none⟩) 1 1, .int .i64 3, .slice (some ⟨g2, 0, none⟩) 1 1] 36)).alloc (.cells #[.int .i64 97, .int .i64 122, .int .i64 10] 47)) #[.int .i64 97, .int .i64 118, .int .i64 2] 49
  have hB : Below w.heap.size w (((w.alloc (.cells #[.slice (some ⟨g1, 0, none⟩) 1 1, .int .i64 3, .slice (some ⟨g2, 0, none⟩) 1 1] 36)).alloc (.cells #[.int .i64 97, .int .i64 122, .int .i64 10] 47)).alloc (.cells #[.int .i64 97, .int .i64 118, .int .i64 2] 49)) := (((Below.refl _ _).alloc (Nat.le_refl _) _).alloc (by simp) _).alloc (by simp <;> omega) _
  have hz : (((w.alloc (.cells #[.slice (some ⟨g1, 0, none⟩) 1 1, .int .i64 3, .slice (some ⟨g2, 0, none⟩) 1 1] 36)).alloc (.cells #[.int .i64 97, .int .i64 122, .int .i64 10] 47)).alloc (.cells #[.int .i64 97, .int .i64 118, .int .i64 2] 49)).heap.size = w.heap.size + 3 := by simp
  simp only [World.size_alloc] at hA1 hA2
  rw [hg1] at hA1
  rw [hg2] at hA2
  rw [hg2, hg1]
  obtain ⟨W3, hW3⟩ : ∃ W, (((w.alloc (.cells #[.slice (some ⟨g1, 0, none⟩) 1 1, .int .i64 3, .slice (some ⟨g2, 0, none⟩) 1 1] 36)).alloc (.cells #[.int .i64 97, .int .i64 122, .int .i64 10] 47)).alloc (.cells #[.int .i64 97, .int .i64 118, .int .i64 2] 49)) = W := ⟨_, rfl⟩
  rw [hW3] at hA0 hA1 hA2 hB hz ⊢
  refine bodyPost_ret (results_cell_mid rfl _ _ w.heap.size [.slice (some ⟨g1, 0, none⟩) 1 1, .int .i64 3, .slice (some ⟨g2, 0, none⟩) 1 1] _ (by rfl) hA0.at_ Tryd.underlying36 rfl info36s) rfl ?_
  refine ⟨_, _, rfl, ⟨_, _, rfl, by unfold In64; decide, t_one hA1 ⟨?_, ?_, ?_⟩ (by omega), t_one hA2 ⟨?_, ?_, ?_⟩ (by omega)⟩, hB⟩
  all_goals (unfold In64; decide)
set_option maxRecDepth 100000 in
set_option maxHeartbeats 8000000 in
theorem sane_any (w : World) (hT : UTab w) : Calls Tryd.prog 14 #[] w fun e w' => e = .returned (.bool true) ∧ Below w.heap.size w w' := by
  have HW1 := Lib.hid (fun (W : World) (hW : Below w.heap.size w W) {v : Value} (h : FAt W W.heap.size v plainF) => (show Calls Tryd.prog 16 #[v, .string ⟨#[97, 118, 101, 33]⟩] W (fun e w' => e = .returned (.tuple #[.int .i64 31, .int .i64 0]) ∧ Below W.heap.size W w') from by have := fwidth_text W v plainF h [97, 118, 101, 33] (hT.below hW); rw [s_w1.1, s_w1.2] at this; exact this))
  have HW2 := Lib.hid (fun (W : World) (hW : Below w.heap.size w W) {v : Value} (h : FAt W W.heap.size v plainF) => (show Calls Tryd.prog 16 #[v, .string ⟨#[]⟩] W (fun e w' => e = .returned (.tuple #[.int .i64 0, .int .i64 0]) ∧ Below W.heap.size W w') from by have := fwidth_text W v plainF h [] (hT.below hW); rw [s_w2.1, s_w2.2] at this; exact this))
  have HW3 := Lib.hid (fun (W : World) (hW : Below w.heap.size w W) {v : Value} (h : FAt W W.heap.size v plainF) => (show Calls Tryd.prog 16 #[v, .string ⟨#[97]⟩] W (fun e w' => e = .returned (.tuple #[.int .i64 10, .int .i64 0]) ∧ Below W.heap.size W w') from by have := fwidth_text W v plainF h [97] (hT.below hW); rw [s_w3.1, s_w3.2] at this; exact this))
  have HW4 := Lib.hid (fun (W : World) (hW : Below w.heap.size w W) {v : Value} (h : FAt W W.heap.size v plainF) => (show Calls Tryd.prog 16 #[v, .string ⟨#[97, 118]⟩] W (fun e w' => e = .returned (.tuple #[.int .i64 18, .int .i64 0]) ∧ Below W.heap.size W w') from by have := fwidth_text W v plainF h [97, 118] (hT.below hW); rw [s_w4.1, s_w4.2] at this; exact this))
  have HW5 := Lib.hid (fun (W : World) (hW : Below w.heap.size w W) {v : Value} (h : FAt W W.heap.size v wrongF) => (show Calls Tryd.prog 16 #[v, .string ⟨#[]⟩] W (fun e w' => e = .returned (.tuple #[.int .i64 0, .int .i64 110]) ∧ Below W.heap.size W w') from by have := fwidth_text W v wrongF h [] (hT.below hW); rw [s_w5.1, s_w5.2] at this; exact this))
  have HF1 := Lib.hid (fun (W : World) (hW : Below w.heap.size w W) {v : Value} (h : FAt W W.heap.size v plainF) => (show Calls Tryd.prog 20 #[v, .string ⟨#[97, 118, 101, 33]⟩, .int .i64 30] W (fun e w' => e = .returned (.tuple #[.int .i64 3, .int .i64 28, .int .i64 0]) ∧ Below W.heap.size W w') from by have := fit_text W v plainF h [97, 118, 101, 33] 30 (hT.below hW); rw [s_f1.1, s_f1.2] at this; exact this))
  have HF2 := Lib.hid (fun (W : World) (hW : Below w.heap.size w W) {v : Value} (h : FAt W W.heap.size v plainF) => (show Calls Tryd.prog 20 #[v, .string ⟨#[97]⟩, .int .i64 (-1)] W (fun e w' => e = .returned (.tuple #[.int .i64 0, .int .i64 0, .int .i64 0]) ∧ Below W.heap.size W w') from by have := fit_text W v plainF h [97] (-1) (hT.below hW); rw [s_f2.1, s_f2.2] at this; exact this))
  have HC1 := Lib.hid (fun (W : World) {v : Value} (h : FAt W W.heap.size v plainF) => (show Calls Tryd.prog 18 #[v] W (fun e w' => e = .returned (.int .i64 0) ∧ Below W.heap.size W w') from by have := fcheck_any W v plainF h; rw [s_c1] at this; exact this))
  have HC2 := Lib.hid (fun (W : World) => (show Calls Tryd.prog 18 #[.agg #[.slice none 0 0, .int .i64 0, .slice none 0 0]] W (fun e w' => e = .returned (.int .i64 0) ∧ Below W.heap.size W w') from by have := fcheck_any W _ (emptyF 0) ⟨_, _, rfl, by unfold In64 emptyF; dsimp only; omega, t_nil _ _ none, t_nil _ _ none⟩; rw [s_c2] at this; exact this))
  have HC3 := Lib.hid (fun (W : World) => (show Calls Tryd.prog 18 #[.agg #[.slice none 0 0, .int .i64 (-1), .slice none 0 0]] W (fun e w' => e = .returned (.int .i64 110) ∧ Below W.heap.size W w') from by have := fcheck_any W _ (emptyF (-1)) ⟨_, _, rfl, by unfold In64 emptyF; dsimp only; omega, t_nil _ _ none, t_nil _ _ none⟩; rw [s_c3] at this; exact this))
  clear hT
  go_enter Tryd.func14, Tryd.ntmps14
  go_wp2_with fail
  refine (plain_any w).mono ?_
  rintro e w1 ⟨a, c, rfl, hp, hb1⟩
  have HP1 := Lib.hid hp
  have HB1 := Lib.hid hb1
  clear hp hb1
  go_wp2_with fail
  have hA := Arr.new w1 #[.slice a 1 1, .int .i64 3, .slice c 1 1] 36
  have hB2 : Below w.heap.size w (w1.alloc (.cells #[.slice a 1 1, .int .i64 3, .slice c 1 1] 36)) := HB1.out.alloc HB1.out.size _
  have hp2 := HP1.out.next ((Below.refl w1.heap.size w1).alloc (Nat.le_refl _) (.cells #[.slice a 1 1, .int .i64 3, .slice c 1 1] 36))
  have hl : w1.heap.size < (w1.alloc (.cells #[.slice a 1 1, .int .i64 3, .slice c 1 1] 36)).heap.size := by simp
  obtain ⟨w2, hw2⟩ : ∃ W, w1.alloc (.cells #[.slice a 1 1, .int .i64 3, .slice c 1 1] 36) = W := ⟨_, rfl⟩
  rw [hw2] at hA hB2 hp2 hl ⊢
  obtain ⟨g, hg⟩ : ∃ g, w1.heap.size = g := ⟨_, rfl⟩
  rw [hg] at hA hl ⊢
  have HA2 := Lib.hid hA
  have HB2 := Lib.hid hB2
  have HP2 := Lib.hid hp2
  clear hw2 hA hB2 hp2 HP1 HB1 hg
  clear hl
  have c0 := HA2.out.cell (i := 0) rfl
  have c1 := HA2.out.cell (i := 1) rfl
  have c2 := HA2.out.cell (i := 2) rfl
  go_wp2_with fail
  refine (HW1.out w2 HB2.out HP2.out).mono ?_
  rintro e w3 ⟨rfl, hb⟩
  have HA3 := Lib.hid (HA2.out.below hb (HA2.out.lt (by simp)))
  have HP3 := Lib.hid (HP2.out.next hb)
  have HB3 := Lib.hid (HB2.out.trans (hb.mono HB2.out.size))
  clear hb c0 c1 c2 HA2 HP2
  have c0 := HA3.out.cell (i := 0) rfl
  have c1 := HA3.out.cell (i := 1) rfl
  have c2 := HA3.out.cell (i := 2) rfl
  go_wp2_with fail
  refine (HW2.out w3 HB3.out HP3.out).mono ?_
  rintro e w4 ⟨rfl, hb⟩
  have HA4 := Lib.hid (HA3.out.below hb (HA3.out.lt (by simp)))
  have HP4 := Lib.hid (HP3.out.next hb)
  have HB4 := Lib.hid (HB3.out.trans (hb.mono HB3.out.size))
  clear hb c0 c1 c2 HA3 HP3
  have c0 := HA4.out.cell (i := 0) rfl
  have c1 := HA4.out.cell (i := 1) rfl
  have c2 := HA4.out.cell (i := 2) rfl
  go_wp2_with fail
  refine (HW3.out w4 HB4.out HP4.out).mono ?_
  rintro e w5 ⟨rfl, hb⟩
  have HA5 := Lib.hid (HA4.out.below hb (HA4.out.lt (by simp)))
  have HP5 := Lib.hid (HP4.out.next hb)
  have HB5 := Lib.hid (HB4.out.trans (hb.mono HB4.out.size))
  clear hb c0 c1 c2 HA4 HP4
  have c0 := HA5.out.cell (i := 0) rfl
  have c1 := HA5.out.cell (i := 1) rfl
  have c2 := HA5.out.cell (i := 2) rfl
  go_wp2_with fail
  refine (HW4.out w5 HB5.out HP5.out).mono ?_
  rintro e w6 ⟨rfl, hb⟩
  have HA6 := Lib.hid (HA5.out.below hb (HA5.out.lt (by simp)))
  have HP6 := Lib.hid (HP5.out.next hb)
  have HB6 := Lib.hid (HB5.out.trans (hb.mono HB5.out.size))
  clear hb c0 c1 c2 HA5 HP5
  have c0 := HA6.out.cell (i := 0) rfl
  have c1 := HA6.out.cell (i := 1) rfl
  have c2 := HA6.out.cell (i := 2) rfl
  go_wp2_with fail
  refine (HF1.out w6 HB6.out HP6.out).mono ?_
  rintro e w7 ⟨rfl, hb⟩
  have HA7 := Lib.hid (HA6.out.below hb (HA6.out.lt (by simp)))
  have HP7 := Lib.hid (HP6.out.next hb)
  have HB7 := Lib.hid (HB6.out.trans (hb.mono HB6.out.size))
  clear hb c0 c1 c2 HA6 HP6
  have c0 := HA7.out.cell (i := 0) rfl
  have c1 := HA7.out.cell (i := 1) rfl
  have c2 := HA7.out.cell (i := 2) rfl
  go_wp2_with fail
  refine (HF2.out w7 HB7.out HP7.out).mono ?_
  rintro e w8 ⟨rfl, hb⟩
  have HA8 := Lib.hid (HA7.out.below hb (HA7.out.lt (by simp)))
  have HP8 := Lib.hid (HP7.out.next hb)
  have HB8 := Lib.hid (HB7.out.trans (hb.mono HB7.out.size))
  clear hb c0 c1 c2 HA7 HP7
  go_wp2_with fail
  have hA9 := Arr.new w8 #[.int .i64 5, .int .i64 4, .int .i64 0] 47
  have hB9 : Below w.heap.size w (w8.alloc (.cells #[.int .i64 5, .int .i64 4, .int .i64 0] 47)) := HB8.out.alloc HB8.out.size _
  have hn9 : Below w8.heap.size w8 (w8.alloc (.cells #[.int .i64 5, .int .i64 4, .int .i64 0] 47)) := (Below.refl _ _).alloc (Nat.le_refl _) _
  have hl9 : w8.heap.size < (w8.alloc (.cells #[.int .i64 5, .int .i64 4, .int .i64 0] 47)).heap.size := by simp
  obtain ⟨w9, hw9⟩ : ∃ W, w8.alloc (.cells #[.int .i64 5, .int .i64 4, .int .i64 0] 47) = W := ⟨_, rfl⟩
  rw [hw9] at hA9 hB9 hn9 hl9 ⊢
  have hF9 : FAt w9 w9.heap.size (.agg #[.slice (some ⟨w8.heap.size, 0, none⟩) 1 1, .int .i64 0, .slice none 0 0]) wrongF := ⟨_, _, rfl, by unfold In64 wrongF; dsimp only; omega, t_one hA9 ⟨by unfold In64; decide, by unfold In64; decide, by unfold In64; decide⟩ hl9, t_nil _ _ none⟩
  have HA9 := Lib.hid (HA8.out.below hn9 (HA8.out.lt (by simp)))
  have HP9 := Lib.hid (HP8.out.next hn9)
  have HB9 := Lib.hid hB9
  clear hw9 hA9 hB9 hn9 hl9 HA8 HP8
  refine (HW5.out w9 HB9.out hF9).mono ?_
  rintro e w10 ⟨rfl, hb⟩
  have hA10 := HA9.out.below hb (HA9.out.lt (by simp))
  have c0 := hA10.cell (i := 0) rfl
  have c1 := hA10.cell (i := 1) rfl
  have c2 := hA10.cell (i := 2) rfl
  have HP10 := Lib.hid (HP9.out.next hb)
  have HB10 := Lib.hid (HB9.out.trans (hb.mono HB9.out.size))
  clear hb hF9 hA10 HA9 HP9
  go_wp2_with fail
  refine (HC1.out w10 HP10.out).mono ?_
  rintro e w11 ⟨rfl, hb⟩
  have HB11 := Lib.hid (HB10.out.trans (hb.mono HB10.out.size))
  clear hb c0 c1 c2
  go_wp2_with fail
  refine (HC2.out w11).mono ?_
  rintro e w12 ⟨rfl, hb⟩
  have HB12 := Lib.hid (HB11.out.trans (hb.mono HB11.out.size))
  clear hb
  go_wp2_with fail
  refine (HC3.out w12).mono ?_
  rintro e w13 ⟨rfl, hb⟩
  have HB13 := Lib.hid (HB12.out.trans (hb.mono HB12.out.size))
  clear hb
  go_wp2
  go_ret
  exact ⟨rfl, HB13.out⟩
end Go.Proofs.YtljgcpfibamdpaaDoor
