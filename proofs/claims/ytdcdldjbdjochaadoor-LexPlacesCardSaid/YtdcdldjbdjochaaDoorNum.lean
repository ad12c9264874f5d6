/- What the scanner of numbers adds. -/
import Derived.Test.YtdcdldjbdjochaaDoorAdd
namespace Go.Proofs.YtdcdldjbdjochaaDoor
open Go.RowKit

theorem bytesWorld_below' (w : World) (t : ByteArray) : Below w.heap.size w (Lib.bytesWorld w 5 t) := by
  exact Lib.bytesWorld_below _ _ _

/-- What Atoi says of digits. -/
theorem atoi_any (w : World) (text : List UInt8) (hT : Tab w) (b : UInt8) (r : List UInt8) (hbr : text = b :: r) (hd : Digits text) (htl : text.length ≤ 1000000000) :
    Calls Tryd.prog 62 #[.string (str text)] w fun e w' => Below w.heap.size w w' ∧
      ((val10 0 text ≤ 9223372036854775807 ∧ e = .returned (.tuple #[.int .i64 (val10 0 text : Nat), .nilIface])) ∨ (9223372036854775807 < val10 0 text ∧ ∃ z N, e = .returned (.tuple #[.int .i64 z, .iface 94 (.pointer (some ⟨N, 0, none⟩))]))) := by
  have ha := atoi_digits b r (by rw [← hbr]; exact hd)
  rw [← hbr] at ha
  have hsz := str_size text
  by_cases hv : val10 0 text ≤ 9223372036854775807
  · rw [if_pos hv] at ha
    refine (Tryd.strconv_Atoi_ok (str text) (by rw [hsz]; omega) (val10 0 text : Nat) (by rw [str_toList]; exact ha) w).mono ?_
    rintro e w' ⟨rfl, rfl | ⟨t, rfl⟩⟩
    · exact ⟨Below.refl _ _, .inl ⟨hv, rfl⟩⟩
    · exact ⟨bytesWorld_below' _ _, .inl ⟨hv, rfl⟩⟩
  · rw [if_neg hv] at ha
    obtain ⟨te, pe, he⟩ := hT.e
    refine (Tryd.strconv_Atoi_range (str text) (by rw [hsz]; omega) (by rw [str_toList]; exact ha) _ w he (.inr ⟨te, pe, rfl⟩)).mono ?_
    rintro e w' ⟨N, rfl, _, _, hb⟩
    exact ⟨hb, .inr ⟨by omega, _, N, rfl⟩⟩

set_option maxHeartbeats 2000000 in
theorem addNumber_any (w : World) (sb B : Nat) (bs : List UInt8) (k : Nat) (v : Value) (l : List Tok) (text : List UInt8) (h : Src w sb B bs k v l) (hll : l.length ≤ 1000000) (hT : Tab w) (htl : text.length ≤ 1000000000)
    (b : UInt8) (r : List UInt8) (hbr : text = b :: r) (hd : Digits text) :
    Calls Tryd.prog 52 #[.pointer (some ⟨sb, 0, none⟩), .string (str text)] w (AddPost w sb B bs k l (if numOk text then .tok 2 [] (val10 0 text) else .no)) := by
  have HA := Lib.hid (atoi_any w text hT b r hbr hd htl)
  have hsz := str_size text
  have hix := fun W => run_str text 0 (by rw [hbr]; simp) W
  have hb0 : text[0]'(by rw [hbr]; simp) = b := by subst hbr; rfl
  rw [hb0] at hix
  have hok : numOk text = (decide (val10 0 text ≤ 1099511627776) && (text.length == 1 || !(b.toNat == 48))) := by
    unfold numOk
    have e : (text.head? == some 48) = (b.toNat == 48) := by
      rw [hbr, List.head?_cons]
      by_cases hb : b = 48
      · subst hb; rfl
      · have e1 : (some b == some (48 : UInt8)) = false := beq_eq_false_iff_ne.2 (fun h => hb (Option.some.inj h))
        have e2 : (b.toNat == 48) = false := beq_eq_false_iff_ne.2 (fun h => hb (UInt8.toNat_inj.1 (by rw [h]; rfl)))
        rw [e1, e2]
    rw [e]
  rw [hok]
  obtain ⟨V, hV⟩ : ∃ V, val10 0 text = V := ⟨_, rfl⟩
  obtain ⟨c, hc⟩ : ∃ c, b.toNat = c := ⟨_, rfl⟩
  obtain ⟨tx, htx⟩ : ∃ tx, str text = tx := ⟨_, rfl⟩
  obtain ⟨N, hN⟩ : ∃ N, text.length = N := ⟨_, rfl⟩
  rw [htx, hN] at hsz
  rw [htx, hc] at hix
  rw [htx, hV] at HA
  rw [htx, hV, hc, hN]
  obtain ⟨act, hact⟩ : ∃ act, (if (decide (V ≤ 1099511627776) && (N == 1 || !(c == 48))) = true then Deed.tok 2 [] (V : Nat) else Deed.no) = act := ⟨_, rfl⟩
  rw [hact]
  have HACT := Lib.hid hact
  clear hact
  have hix' : ∀ W, (Instr.index 9 (.string tx) (.int .i64 0)).run Tryd.prog W = .ok (.int .u8 c) W := hix
  have hem : (str []) = { data := #[] } := rfl
  have HPU : Hid (∀ W, Src W sb B bs k v l → Calls Tryd.prog 60 #[.pointer (some ⟨sb, 0, none⟩), .int .i64 2, .string { data := #[] }, .int .i64 (V : Nat)] W fun e w' => e = Void ∧ ∃ v', Src w' sb B bs k v' (l ++ [⟨2, [], (V : Nat), k⟩]) ∧ Kep W w' sb B) := Lib.hid fun W hW => by
    have := push_any W sb B bs k v l 2 (V : Nat) [] hW hll
    rw [hem] at this
    exact this
  have H := Lib.hid h
  have hbl := h.bl
  clear h hT hbr hd hb0 hok hV hc htx hN hix hem hll htl
  go_enter Tryd.func52, Tryd.ntmps52
  go_wp2_with fail
  refine HA.out.mono ?_
  rintro e w1 ⟨hb1, hcase⟩
  have hs1 := H.out.below hb1
  have HS1 := Lib.hid hs1
  have HK1 : Hid (Kep w w1 sb B) := Lib.hid (Kep.of_below hb1 hbl)
  have c1 := hs1.c1
  clear hs1 hb1 HA
  have bad : ∀ Q : Prop, (∀ e w', e = Pan k ∧ w' = w1 → Q) → True := fun _ _ => trivial
  clear bad
  rcases hcase with ⟨hv, rfl⟩ | ⟨hv, z, NN, rfl⟩
  · by_cases h40 : V ≤ 1099511627776
    · have d1 : decide ((V : Int) ≤ 1099511627776) = true := by simp; omega
      have d1' : decide (V ≤ 1099511627776) = true := by simpa using h40
      clear hv
      by_cases hN1 : N = 1
      · subst hN1
        obtain rfl : Deed.tok 2 [] (V : Nat) = act := by rw [← HACT.out, d1']; rfl
        clear d1' h40
        go_wp2_with fail
        refine (need_yes sb _).mono ?_
        rintro e w4 ⟨he, rfl⟩
        have he : e = .returned (.tuple #[]) := he
        subst he
        go_wp2_with fail
        refine (HPU.out _ HS1.out).mono ?_
        rintro e w5 ⟨he, v', hs, hk⟩
        have he : e = .returned (.tuple #[]) := he
        subst he
        have HS := Lib.hid hs
        have HK := Lib.hid (HK1.out.trans hk)
        clear hs hk
        go_wp2
        go_end0
        exact ⟨rfl, ⟨_, HS.out⟩, HK.out⟩
      · have d2 : ((N : Int) == 1) = false := by simp; omega
        have d2' : (N == 1) = false := by simpa using hN1
        clear hN1
        by_cases hc48 : c = 48
        · subst hc48
          obtain rfl : Deed.no = act := by rw [← HACT.out, d1', d2']; rfl
          clear d1' d2' h40
          go_wp2_with fail
          refine (need_no sb k _ c1).mono ?_
          rintro e w5 ⟨he, rfl⟩
          have he : e = .panicked [{ v := .iface 42 (.int .i64 k), recovered := false }] := he
          subst he
          go_wp2
          simp [bodyPost, AddPost, Pan]
          exact HK1.out
        · have d3 : ((c : Int) != 48) = true := by simp; omega
          have d3' : (!(c == 48)) = true := by simpa using hc48
          obtain rfl : Deed.tok 2 [] (V : Nat) = act := by rw [← HACT.out, d1', d2', d3']; rfl
          clear d1' d2' d3' hc48 h40
          go_wp2_with fail
          refine (need_yes sb _).mono ?_
          rintro e w4 ⟨he, rfl⟩
          have he : e = .returned (.tuple #[]) := he
          subst he
          go_wp2_with fail
          refine (HPU.out _ HS1.out).mono ?_
          rintro e w5 ⟨he, v', hs, hk⟩
          have he : e = .returned (.tuple #[]) := he
          subst he
          have HS := Lib.hid hs
          have HK := Lib.hid (HK1.out.trans hk)
          clear hs hk
          go_wp2
          go_end0
          exact ⟨rfl, ⟨_, HS.out⟩, HK.out⟩
    · have d1 : decide ((V : Int) ≤ 1099511627776) = false := by simp; omega
      have d1' : decide (V ≤ 1099511627776) = false := by simpa using h40
      obtain rfl : Deed.no = act := by rw [← HACT.out, d1']; rfl
      clear d1' h40 hv
      go_wp2_with fail
      refine (need_no sb k _ c1).mono ?_
      rintro e w5 ⟨he, rfl⟩
      have he : e = .panicked [{ v := .iface 42 (.int .i64 k), recovered := false }] := he
      subst he
      go_wp2
      simp [bodyPost, AddPost, Pan]
      exact HK1.out
  · have d1' : decide (V ≤ 1099511627776) = false := by simp; omega
    obtain rfl : Deed.no = act := by rw [← HACT.out, d1']; rfl
    clear d1' hv
    go_wp2_with fail
    refine (need_no sb k _ c1).mono ?_
    rintro e w5 ⟨he, rfl⟩
    have he : e = .panicked [{ v := .iface 42 (.int .i64 k), recovered := false }] := he
    subst he
    go_wp2
    simp [bodyPost, AddPost, Pan]
    exact HK1.out
end Go.Proofs.YtdcdldjbdjochaaDoor
