/- The classes of bytes, and how far a name, a number, a comment goes. -/
import Derived.Test.YtdcdldjbdjochaaDoorLxp
import Derived.Test.YtdcdldjbdjochaaDoorShelf
import Derived.WalkKit
import Derived.ProofKit
import Derived.Lib.Hide
import Derived.Lib.SmallJoins
import Derived.Lib.AppendIntMem
namespace Go.Proofs.YtdcdldjbdjochaaDoor
open Go.RowKit

def str (bs : List UInt8) : ByteArray := ⟨bs.toArray⟩
theorem str_size (bs : List UInt8) : (str bs).size = bs.length := by show bs.toArray.size = _; simp
theorem str_toList (bs : List UInt8) : (str bs).data.toList = bs := by simp [str]
theorem str_of (s : ByteArray) : str s.data.toList = s := by simp [str]
theorem str_extract (bs : List UInt8) (a b : Nat) : (str bs).extract a b = str ((bs.drop a).take (b - a)) := by
  apply ByteArray.ext
  apply Array.toList_inj.1
  simp [str, List.extract_eq_take_drop]
theorem run_str (bs : List UInt8) (j : Nat) (h : j < bs.length) (W : World) : (Instr.index 9 (.string (str bs)) (.int .i64 (j : Int))).run Tryd.prog W = .ok (.int .u8 (bs[j]).toNat) W := by
  rw [run_index_string (P := Tryd.prog) (w := W) 9 (str bs) .i64 (j : Int) Tryd.underlying9, dif_pos (by rw [str_size]; omega)]
  rfl

/-- What the program's own variables hold. -/
structure Tab (w : World) : Prop where
  c : ∀ i, i < 128 → w.cell? ⟨0, i, none⟩ = some (.int .u8 (cls i))
  e : ∃ te pe, w.cell? ⟨4, 0, none⟩ = some (.iface te pe)
  p : Lib.TabIs Tryd.prog w "internal/strconv.uint64pow10" .u64 Lib.pow10Tab
  lt : 5 < w.heap.size
theorem Tab.below {w w' : World} (h : Tab w) (hb : Below w.heap.size w w') : Tab w' := by
  have hl := h.lt
  obtain ⟨te, pe, he⟩ := h.e
  refine ⟨fun i hi => (hb.cell (p := ⟨0, i, none⟩) (by show 0 < _; omega)).trans (h.c i hi), ⟨te, pe, (hb.cell (p := ⟨4, 0, none⟩) (by show 4 < _; omega)).trans he⟩, ?_, Nat.lt_of_lt_of_le hl hb.size⟩
  exact Lib.tabBelow_of_tabIs h.p w' hb

theorem cls_high (b : Nat) (h : 128 ≤ b) : cls b = 0 := by
  unfold cls
  rw [if_neg (by omega), if_neg (by omega), if_neg (by omega), if_neg (by omega), if_neg (by omega), if_neg (by omega)]

set_option maxHeartbeats 400000 in
theorem classOf_any (w : World) (b : Nat) (h : Tab w) (_hb : b < 256) : Calls Tryd.prog 37 #[.int .u8 (b : Nat)] w fun e w' => e = .returned (.int .u8 (cls b)) ∧ w' = w := by
  by_cases hk : 128 ≤ b
  · have d : decide (128 ≤ (b : Int)) = true := by simp; omega
    have e0 := cls_high b hk
    rw [e0]
    clear e0
    go_enter Tryd.func37, Tryd.ntmps37
    go_wp2
    go_ret
    exact ⟨rfl, rfl⟩
  · have d : decide (128 ≤ (b : Int)) = false := by simp; omega
    have hc := h.c b (by omega)
    obtain ⟨K, hK⟩ : ∃ K : Int, ((cls b : Nat) : Int) = K := ⟨_, rfl⟩
    rw [hK] at hc ⊢
    have hb1 : (b : Int) < 128 := by omega
    clear h hK
    go_enter Tryd.func37, Tryd.ntmps37
    go_wp2
    go_ret
    exact ⟨rfl, rfl⟩

theorem goesOn_any (w : World) (c : Nat) : Calls Tryd.prog 46 #[.int .u8 (c : Nat)] w fun e w' => e = .returned (.bool (c == 2 || c == 3 || c == 4)) ∧ w' = w := by
  by_cases h2 : c = 2
  · subst h2
    go_enter Tryd.func46, Tryd.ntmps46
    go_wp2
    go_ret
    exact ⟨rfl, rfl⟩
  by_cases h3 : c = 3
  · subst h3
    go_enter Tryd.func46, Tryd.ntmps46
    go_wp2
    go_ret
    exact ⟨rfl, rfl⟩
  have d2 : ((c : Int) == 2) = false := by simp; omega
  have d3 : ((c : Int) == 3) = false := by simp; omega
  have e2 : (c == 2) = false := by simpa using h2
  have e3 : (c == 3) = false := by simpa using h3
  rw [e2, e3, Bool.false_or, Bool.false_or]
  by_cases h4 : c = 4
  · subst h4
    go_enter Tryd.func46, Tryd.ntmps46
    go_wp2
    go_ret
    exact ⟨rfl, rfl⟩
  have d4 : ((c : Int) == 4) = false := by simp; omega
  have e4 : (c == 4) = false := by simpa using h4
  rw [e4]
  go_enter Tryd.func46, Tryd.ntmps46
  go_wp2
  go_ret
  exact ⟨rfl, rfl⟩

theorem isDigit_any (w : World) (c : Nat) : Calls Tryd.prog 61 #[.int .u8 (c : Nat)] w fun e w' => e = .returned (.bool (c == 3)) ∧ w' = w := by
  by_cases h3 : c = 3
  · subst h3
    go_enter Tryd.func61, Tryd.ntmps61
    go_wp2
    go_ret
    exact ⟨rfl, rfl⟩
  have d3 : ((c : Int) == 3) = false := by simp; omega
  have e3 : (c == 3) = false := by simpa using h3
  rw [e3]
  go_enter Tryd.func61, Tryd.ntmps61
  go_wp2
  go_ret
  exact ⟨rfl, rfl⟩

theorem nlen_drop (p : Nat → Bool) : ∀ (bs : List UInt8) (j : Nat), (∀ i (h : i < bs.length), i < j → p bs[i].toNat = true) → j ≤ bs.length → nlen p bs = j + nlen p (bs.drop j)
  | bs, 0, _, _ => by simp
  | [], j + 1, _, h => by simp at h
  | b :: r, j + 1, h, hl => by
    have h0 := h 0 (by simp) (by omega)
    rw [nlen, if_pos (by simpa using h0), List.drop_succ_cons, nlen_drop p r j (fun i hi hj => by have := h (i + 1) (by simpa using hi) (by omega); simpa using this) (by simpa using hl)]
    omega

set_option maxHeartbeats 1000000 in
theorem lengthOf_part (w : World) (bs : List UInt8) (h : Tab w) (hl : bs.length ≤ 1000000000) :
    Calls Tryd.prog 45 #[.string (str bs), .func (.func 46) #[] #[]] w fun e w' => e = .returned (.int .i64 (nlen isPart bs : Nat)) ∧ w' = w := by
  have hsz : (str bs).size = bs.length := str_size bs
  obtain ⟨p, hpe⟩ : ∃ p, isPart = p := ⟨_, rfl⟩
  rw [hpe]
  have HP : Hid (∀ c, p c = (cls c == 2 || cls c == 3 || cls c == 4)) := Lib.hid fun c => by rw [← hpe]; rfl
  have HT := Lib.hid h
  have HX := Lib.hid (run_str bs)
  obtain ⟨s, hs⟩ : ∃ s, str bs = s := ⟨_, rfl⟩
  rw [hs] at hsz HX ⊢
  obtain ⟨N, hN⟩ : ∃ N, bs.length = N := ⟨_, rfl⟩
  rw [hN] at hsz
  have HN := Lib.hid hN
  rw [hN] at hl
  obtain ⟨R, hR⟩ : ∃ R, nlen p bs = R := ⟨_, rfl⟩
  rw [hR]
  have HR := Lib.hid hR
  clear h hpe hs hN hR
  go_enter Tryd.func45, Tryd.ntmps45
  go_wp2_with fail
  go_loopw [5, 8] (fun _ i wr => ∃ j : Nat, i = .int .i64 j ∧ j ≤ N ∧ wr = w ∧ Hid (∀ i (h : i < bs.length), i < j → p bs[i].toNat = true)) (fun _ i _ => N - (intOf i).toNat)
  case atStart => exact ⟨0, rfl, by omega, rfl, Lib.hid fun i _ h => by omega⟩
  case round =>
    obtain ⟨j, rfl, hj, rfl, hall⟩ := hrel
    by_cases hlt : j < N
    · have d : decide ((j : Int) < (N : Int)) = true := by simp; omega
      have d' : decide (j < N) = true := by simpa using hlt
      have hjl : j < bs.length := by rw [HN.out]; exact hlt
      have hix := HX.out j hjl
      obtain ⟨c, hc⟩ : ∃ c, (bs[j]).toNat = c := ⟨_, rfl⟩
      have hc256 : c < 256 := by rw [← hc]; exact (bs[j]).toNat_lt
      rw [hc] at hix
      have HC := Lib.hid hc
      clear hc
      have hco := classOf_any wr c HT.out hc256
      obtain ⟨k, hk⟩ : ∃ k, cls c = k := ⟨_, rfl⟩
      rw [hk] at hco
      have HCO := Lib.hid hco
      obtain ⟨t, ht⟩ : ∃ t, ((k == 2 || k == 3 || k == 4)) = t := ⟨_, rfl⟩
      have hgg := goesOn_any wr k
      rw [ht] at hgg
      have HGG := Lib.hid hgg
      have HTT : Hid (p c = t) := Lib.hid (by rw [HP.out, hk, ht])
      clear ht hk hco hgg
      go_wp2_with fail
      refine HCO.out.mono ?_
      rintro e w1 ⟨rfl, rfl⟩
      go_wp2_with fail
      refine HGG.out.mono ?_
      rintro e w2 ⟨rfl, rfl⟩
      cases t with
      | true =>
        go_wp2
        go_roundw
        case rel => exact ⟨j + 1, by go_num, by omega, by first | trivial | rfl, Lib.hid fun i hi hij => by
          by_cases h1 : i < j
          · exact hall.out i hi h1
          · obtain rfl : i = j := by omega
            rw [HC.out]; exact HTT.out⟩
        case measure => simp [intOf]; omega
      | false =>
        have hres : R = j := by
          rw [← HR.out, nlen_drop p bs j hall.out (by omega), List.drop_eq_getElem_cons hjl, nlen, if_neg (by rw [HC.out, HTT.out]; simp)]; omega
        subst hres
        go_wp2
        go_ret
        exact ⟨rfl, rfl⟩
    · obtain rfl : j = N := by omega
      have d : decide ((j : Int) < (j : Int)) = false := by simp
      have hres : R = j := by
        rw [← HR.out, nlen_drop p bs j hall.out (by rw [HN.out]; omega), ← HN.out, List.drop_length]; rfl
      subst hres
      go_wp2
      go_ret
      exact ⟨rfl, rfl⟩

set_option maxHeartbeats 1000000 in
theorem lengthOf_fig (w : World) (bs : List UInt8) (h : Tab w) (hl : bs.length ≤ 1000000000) :
    Calls Tryd.prog 45 #[.string (str bs), .func (.func 61) #[] #[]] w fun e w' => e = .returned (.int .i64 (nlen isFig bs : Nat)) ∧ w' = w := by
  have hsz : (str bs).size = bs.length := str_size bs
  obtain ⟨p, hpe⟩ : ∃ p, isFig = p := ⟨_, rfl⟩
  rw [hpe]
  have HP : Hid (∀ c, p c = (cls c == 3)) := Lib.hid fun c => by rw [← hpe]; rfl
  have HT := Lib.hid h
  have HX := Lib.hid (run_str bs)
  obtain ⟨s, hs⟩ : ∃ s, str bs = s := ⟨_, rfl⟩
  rw [hs] at hsz HX ⊢
  obtain ⟨N, hN⟩ : ∃ N, bs.length = N := ⟨_, rfl⟩
  rw [hN] at hsz
  have HN := Lib.hid hN
  rw [hN] at hl
  obtain ⟨R, hR⟩ : ∃ R, nlen p bs = R := ⟨_, rfl⟩
  rw [hR]
  have HR := Lib.hid hR
  clear h hpe hs hN hR
  go_enter Tryd.func45, Tryd.ntmps45
  go_wp2_with fail
  go_loopw [5, 8] (fun _ i wr => ∃ j : Nat, i = .int .i64 j ∧ j ≤ N ∧ wr = w ∧ Hid (∀ i (h : i < bs.length), i < j → p bs[i].toNat = true)) (fun _ i _ => N - (intOf i).toNat)
  case atStart => exact ⟨0, rfl, by omega, rfl, Lib.hid fun i _ h => by omega⟩
  case round =>
    obtain ⟨j, rfl, hj, rfl, hall⟩ := hrel
    by_cases hlt : j < N
    · have d : decide ((j : Int) < (N : Int)) = true := by simp; omega
      have d' : decide (j < N) = true := by simpa using hlt
      have hjl : j < bs.length := by rw [HN.out]; exact hlt
      have hix := HX.out j hjl
      obtain ⟨c, hc⟩ : ∃ c, (bs[j]).toNat = c := ⟨_, rfl⟩
      have hc256 : c < 256 := by rw [← hc]; exact (bs[j]).toNat_lt
      rw [hc] at hix
      have HC := Lib.hid hc
      clear hc
      have hco := classOf_any wr c HT.out hc256
      obtain ⟨k, hk⟩ : ∃ k, cls c = k := ⟨_, rfl⟩
      rw [hk] at hco
      have HCO := Lib.hid hco
      obtain ⟨t, ht⟩ : ∃ t, ((k == 3)) = t := ⟨_, rfl⟩
      have hgg := isDigit_any wr k
      rw [ht] at hgg
      have HGG := Lib.hid hgg
      have HTT : Hid (p c = t) := Lib.hid (by rw [HP.out, hk, ht])
      clear ht hk hco hgg
      go_wp2_with fail
      refine HCO.out.mono ?_
      rintro e w1 ⟨rfl, rfl⟩
      go_wp2_with fail
      refine HGG.out.mono ?_
      rintro e w2 ⟨rfl, rfl⟩
      cases t with
      | true =>
        go_wp2
        go_roundw
        case rel => exact ⟨j + 1, by go_num, by omega, by first | trivial | rfl, Lib.hid fun i hi hij => by
          by_cases h1 : i < j
          · exact hall.out i hi h1
          · obtain rfl : i = j := by omega
            rw [HC.out]; exact HTT.out⟩
        case measure => simp [intOf]; omega
      | false =>
        have hres : R = j := by
          rw [← HR.out, nlen_drop p bs j hall.out (by omega), List.drop_eq_getElem_cons hjl, nlen, if_neg (by rw [HC.out, HTT.out]; simp)]; omega
        subst hres
        go_wp2
        go_ret
        exact ⟨rfl, rfl⟩
    · obtain rfl : j = N := by omega
      have d : decide ((j : Int) < (j : Int)) = false := by simp
      have hres : R = j := by
        rw [← HR.out, nlen_drop p bs j hall.out (by rw [HN.out]; omega), ← HN.out, List.drop_length]; rfl
      subst hres
      go_wp2
      go_ret
      exact ⟨rfl, rfl⟩

theorem nameLength_any (w : World) (bs : List UInt8) (h : Tab w) (hl : bs.length ≤ 1000000000) : Calls Tryd.prog 38 #[.string (str bs)] w fun e w' => e = .returned (.int .i64 (nlen isPart bs : Nat)) ∧ w' = w := by
  have HC := Lib.hid (lengthOf_part w bs h hl)
  obtain ⟨s, hs⟩ : ∃ s, str bs = s := ⟨_, rfl⟩
  obtain ⟨R, hR⟩ : ∃ R, nlen isPart bs = R := ⟨_, rfl⟩
  rw [hs, hR] at HC
  rw [hs, hR]
  clear hs hR h
  go_enter Tryd.func38, Tryd.ntmps38
  go_wp2_with fail
  refine HC.out.mono ?_
  rintro e w1 ⟨rfl, rfl⟩
  go_wp2
  go_ret
  exact ⟨rfl, rfl⟩
theorem numberLength_any (w : World) (bs : List UInt8) (h : Tab w) (hl : bs.length ≤ 1000000000) : Calls Tryd.prog 51 #[.string (str bs)] w fun e w' => e = .returned (.int .i64 (nlen isFig bs : Nat)) ∧ w' = w := by
  have HC := Lib.hid (lengthOf_fig w bs h hl)
  obtain ⟨s, hs⟩ : ∃ s, str bs = s := ⟨_, rfl⟩
  obtain ⟨R, hR⟩ : ∃ R, nlen isFig bs = R := ⟨_, rfl⟩
  rw [hs, hR] at HC
  rw [hs, hR]
  clear hs hR h
  go_enter Tryd.func51, Tryd.ntmps51
  go_wp2_with fail
  refine HC.out.mono ?_
  rintro e w1 ⟨rfl, rfl⟩
  go_wp2
  go_ret
  exact ⟨rfl, rfl⟩
theorem oneByte_any (w : World) (s : ByteArray) : Calls Tryd.prog 47 #[.string s] w fun e w' => e = .returned (.int .i64 1) ∧ w' = w := by
  go_enter Tryd.func47, Tryd.ntmps47
  go_wp2
  go_ret
  exact ⟨rfl, rfl⟩

theorem indexByte_lf : ∀ (bs : List UInt8), Lib.indexByte bs 10 = if nlen notLF bs = bs.length then -1 else (nlen notLF bs : Int)
  | [] => rfl
  | b :: r => by
    have ih := indexByte_lf r
    have hle := nlen_le notLF r
    rw [Lib.indexByte, nlen]
    by_cases hb : b = 10
    · subst hb
      have e : notLF (10 : UInt8).toNat = false := by decide
      rw [e]
      simp
    · have e : notLF b.toNat = true := by
        unfold notLF
        have : ¬ b.toNat = 10 := fun h => hb (UInt8.toNat_inj.1 (by rw [h]; rfl))
        simpa using this
      have e2 : (b == 10) = false := by simpa using hb
      rw [e, e2, ih]
      simp only [Bool.false_eq_true, if_false, if_true, List.length_cons]
      by_cases h : nlen notLF r = r.length
      · rw [if_pos h, h]; simp
      · rw [if_neg h, if_neg (show ¬ nlen notLF r + 1 = r.length + 1 from fun hh => h (by omega))]
        have h1 : ((nlen notLF r : Int) == -1) = false := by
          cases hz : (nlen notLF r : Int) == -1
          · rfl
          · have := beq_iff_eq.1 hz; omega
        rw [h1]
        simp
theorem hasPrefix_ss (b : UInt8) (r : List UInt8) : Lib.hasPrefix (b :: r) [47, 47] = (b == 47 && r.head? == some 47) := by
  unfold Lib.hasPrefix
  by_cases hb : b = 47
  · subst hb
    cases r with
    | nil => rfl
    | cons c r =>
      by_cases hc : c = 47
      · subst hc; rfl
      · have e1 : ((47 : UInt8) == c) = false := beq_eq_false_iff_ne.2 (fun h => hc h.symm)
        have e2 : (some c == some (47 : UInt8)) = false := beq_eq_false_iff_ne.2 (fun h => hc (Option.some.inj h))
        simp only [List.isPrefixOf, List.head?_cons]
        rw [e1, e2]
        simp
  · have e1 : ((47 : UInt8) == b) = false := beq_eq_false_iff_ne.2 (fun h => hb h.symm)
    have e2 : (b == (47 : UInt8)) = false := beq_eq_false_iff_ne.2 hb
    simp only [List.isPrefixOf]
    rw [e1, e2]
    simp

set_option maxHeartbeats 400000 in
theorem slashLength_any (w : World) (bs : List UInt8) (_hl : bs.length ≤ 1000000000) : Calls Tryd.prog 54 #[.string (str bs)] w fun e w' => e = .returned (.int .i64 ((if Lib.hasPrefix bs [47, 47] then nlen notLF bs else 1 : Nat))) ∧ w' = w := by
  have hpc := Tryd.strings_HasPrefix (str bs) ⟨#[47, 47]⟩
  have hic := Tryd.strings_IndexByte (str bs) 10
  rw [str_toList] at hpc hic
  have e10 : Int.toNat 10 = 10 := rfl
  rw [e10] at hic
  have e11 : (10 : Nat).toUInt8 = 10 := rfl
  rw [e11, indexByte_lf] at hic
  have hsz := str_size bs
  have hle := nlen_le notLF bs
  obtain ⟨s, hs⟩ : ∃ s, str bs = s := ⟨_, rfl⟩
  obtain ⟨R, hR⟩ : ∃ R, nlen notLF bs = R := ⟨_, rfl⟩
  obtain ⟨t, ht⟩ : ∃ t, Lib.hasPrefix bs [47, 47] = t := ⟨_, rfl⟩
  rw [ht] at hpc
  rw [hs] at hpc hic hsz
  rw [hR] at hle hic
  rw [hs, hR, ht]
  have HP := Lib.hid hpc
  clear hs hR ht hpc
  cases t with
  | false =>
    clear hic
    go_enter Tryd.func54, Tryd.ntmps54
    go_wp2_with fail
    refine (HP.out _).mono ?_
    rintro e w1 ⟨rfl, rfl⟩
    go_wp2
    go_ret
    exact ⟨rfl, rfl⟩
  | true =>
    by_cases hRl : R = bs.length
    · rw [if_pos hRl] at hic
      have HI := Lib.hid hic
      clear hic
      obtain ⟨N, hN⟩ : ∃ N, bs.length = N := ⟨_, rfl⟩
      rw [hN] at hsz hRl
      subst hRl
      clear hN hle
      go_enter Tryd.func54, Tryd.ntmps54
      go_wp2_with fail
      refine (HP.out _).mono ?_
      rintro e w1 ⟨rfl, rfl⟩
      go_wp2_with fail
      refine (HI.out _).mono ?_
      rintro e w2 ⟨rfl, rfl⟩
      go_wp2
      go_ret
      exact ⟨rfl, rfl⟩
    · rw [if_neg hRl] at hic
      have HI := Lib.hid hic
      clear hic hsz hRl hle
      go_enter Tryd.func54, Tryd.ntmps54
      go_wp2_with fail
      refine (HP.out _).mono ?_
      rintro e w1 ⟨rfl, rfl⟩
      go_wp2_with fail
      refine (HI.out _).mono ?_
      rintro e w2 ⟨rfl, rfl⟩
      go_wp2
      go_ret
      exact ⟨rfl, rfl⟩
end Go.Proofs.YtdcdldjbdjochaaDoor
