/- What the scanners add to the tokens. -/
import Derived.Test.YtdcdldjbdjochaaDoorSrc
import Derived.Lib.AtoiAllCases
import Derived.WalkLawsBesides
namespace Go.Proofs.YtdcdldjbdjochaaDoor
open Go.RowKit

def Digits (l : List UInt8) : Prop := ∀ b ∈ l, 48 ≤ b.toNat ∧ b.toNat ≤ 57
theorem val10_ge : ∀ (l : List UInt8) (n : Nat), n ≤ val10 n l
  | [], n => by rw [val10_nil]; omega
  | b :: r, n => by rw [val10_cons]; have := val10_ge r (10 * n + (b.toNat - 48)); omega
theorem parse_digits : ∀ (l : List UInt8) (acc : Nat), Digits l → acc < 18446744073709551616 → Lib.parseUint10 acc l = if val10 acc l < 18446744073709551616 then .ok (val10 acc l) else .range
  | [], acc, _, h => by rw [Lib.parseUint10, val10_nil, if_pos h]
  | b :: r, acc, hd, h => by
    have hb := hd b (by simp)
    have hge := val10_ge r (10 * acc + (b.toNat - 48))
    rw [Lib.parseUint10, if_pos hb, val10_cons]
    by_cases h1 : 1844674407370955162 ≤ acc
    · rw [if_pos h1, if_neg (by omega)]
    · rw [if_neg h1]
      by_cases h2 : 18446744073709551616 ≤ acc * 10 + (b.toNat - 48)
      · rw [if_pos h2, if_neg (by omega)]
      · rw [if_neg h2, show acc * 10 + (b.toNat - 48) = 10 * acc + (b.toNat - 48) by omega]
        exact parse_digits r _ (fun x hx => hd x (List.mem_cons_of_mem _ hx)) (by omega)
theorem atoi_digits (b : UInt8) (r : List UInt8) (hd : Digits (b :: r)) : Lib.atoiAll (b :: r) = if val10 0 (b :: r) ≤ 9223372036854775807 then .ok (val10 0 (b :: r) : Int) else .range := by
  have hb := hd b (by simp)
  rw [Lib.atoiAll_plain b r (by omega) (by omega)]
  unfold Lib.parseMag
  rw [if_neg (by simp), parse_digits _ 0 hd (by omega)]
  by_cases h1 : val10 0 (b :: r) < 18446744073709551616
  · rw [if_pos h1]
    unfold Lib.signless
    by_cases h2 : val10 0 (b :: r) ≤ 9223372036854775807
    · rw [if_pos h2]; simp; omega
    · rw [if_neg h2]; simp; omega
  · rw [if_neg h1, if_neg (by omega)]; rfl

/-- What an adder is to end in. -/
def AddPost (w : World) (sb B : Nat) (bs : List UInt8) (k : Nat) (l : List Tok) (act : Deed) (e : Ending) (w' : World) : Prop := match act with
  | .no => e = Pan k ∧ Kep w w' sb B
  | .pass => e = Void ∧ (∃ v', Src w' sb B bs k v' l) ∧ Kep w w' sb B
  | .tok c t n => e = Void ∧ (∃ v', Src w' sb B bs k v' (l ++ [⟨c, t, n, k⟩])) ∧ Kep w w' sb B

theorem need_yes (sb : Nat) (w : World) : Calls Tryd.prog 59 #[.pointer (some ⟨sb, 0, none⟩), .bool true] w fun e w' => e = Void ∧ w' = w := by
  go_enter Tryd.func59, Tryd.ntmps59
  go_wp2
  go_end0
  exact ⟨rfl, rfl⟩
theorem need_no (sb : Nat) (k : Nat) (w : World) (h : w.cell? ⟨sb, 1, none⟩ = some (.int .i64 k)) : Calls Tryd.prog 59 #[.pointer (some ⟨sb, 0, none⟩), .bool false] w fun e w' => e = Pan k ∧ w' = w := by
  go_enter Tryd.func59, Tryd.ntmps59
  go_wp2
  simp [bodyPost, Pan]

theorem refuse_any (w : World) (sb B : Nat) (bs : List UInt8) (k : Nat) (v : Value) (l : List Tok) (tx : ByteArray) (h : Src w sb B bs k v l) : Calls Tryd.prog 48 #[.pointer (some ⟨sb, 0, none⟩), .string tx] w (AddPost w sb B bs k l .no) := by
  have c1 := h.c1
  clear h
  go_enter Tryd.func48, Tryd.ntmps48
  go_wp2_with fail
  refine (need_no sb k _ c1).mono ?_
  rintro e w5 ⟨he, rfl⟩
  have he : e = .panicked [{ v := .iface 42 (.int .i64 k), recovered := false }] := he
  subst he
  go_wp2
  simp [bodyPost, AddPost, Pan]
  exact Kep.refl _ _ _

theorem pass_any (w : World) (sb B : Nat) (bs : List UInt8) (k : Nat) (v : Value) (l : List Tok) (tx : ByteArray) (h : Src w sb B bs k v l) : Calls Tryd.prog 49 #[.pointer (some ⟨sb, 0, none⟩), .string tx] w (AddPost w sb B bs k l .pass) := by
  have H := Lib.hid h
  clear h
  go_enter Tryd.func49, Tryd.ntmps49
  go_wp2
  go_end0
  exact ⟨rfl, ⟨_, H.out⟩, Kep.refl _ _ _⟩

theorem addSign_any (w : World) (sb B : Nat) (bs : List UInt8) (k : Nat) (v : Value) (l : List Tok) (text : List UInt8) (h : Src w sb B bs k v l) (hll : l.length ≤ 1000000) : Calls Tryd.prog 53 #[.pointer (some ⟨sb, 0, none⟩), .string (str text)] w (AddPost w sb B bs k l (.tok 3 text 0)) := by
  have HP := Lib.hid (push_any w sb B bs k v l 3 0 text h hll)
  obtain ⟨tx, htx⟩ : ∃ tx, str text = tx := ⟨_, rfl⟩
  rw [htx] at HP ⊢
  clear h htx
  go_enter Tryd.func53, Tryd.ntmps53
  go_wp2_with fail
  refine HP.out.mono ?_
  rintro e w5 ⟨he, v', hs, hk⟩
  have he : e = .returned (.tuple #[]) := he
  subst he
  have HS := Lib.hid hs
  have HK := Lib.hid hk
  clear hs hk
  go_wp2
  go_end0
  exact ⟨rfl, ⟨_, HS.out⟩, HK.out⟩

theorem addName_any (w : World) (sb B : Nat) (bs : List UInt8) (k : Nat) (v : Value) (l : List Tok) (text : List UInt8) (h : Src w sb B bs k v l) (hll : l.length ≤ 1000000) (hT : Tab w) (htl : text.length ≤ 1000000000) :
    Calls Tryd.prog 50 #[.pointer (some ⟨sb, 0, none⟩), .string (str text)] w (AddPost w sb B bs k l (if nameOk text then .tok 1 text 0 else .no)) := by
  have HP := Lib.hid (push_any w sb B bs k v l 1 0 text h hll)
  have hnm := name_any w text hT htl
  obtain ⟨tx, htx⟩ : ∃ tx, str text = tx := ⟨_, rfl⟩
  obtain ⟨t, ht⟩ : ∃ t, nameOk text = t := ⟨_, rfl⟩
  rw [ht, htx] at hnm
  rw [htx] at HP ⊢
  rw [ht]
  have HN := Lib.hid hnm
  have c1 := h.c1
  clear h htx hnm hT ht
  cases t with
  | true =>
    go_enter Tryd.func50, Tryd.ntmps50
    go_wp2_with fail
    refine HN.out.mono ?_
    rintro e w1 ⟨rfl, rfl⟩
    go_wp2_with fail
    refine (need_yes sb _).mono ?_
    rintro e w4 ⟨he, rfl⟩
    have he : e = .returned (.tuple #[]) := he
    subst he
    go_wp2_with fail
    refine HP.out.mono ?_
    rintro e w5 ⟨he, v', hs, hk⟩
    have he : e = .returned (.tuple #[]) := he
    subst he
    have HS := Lib.hid hs
    have HK := Lib.hid hk
    clear hs hk
    go_wp2
    go_end0
    exact ⟨rfl, ⟨_, HS.out⟩, HK.out⟩
  | false =>
    go_enter Tryd.func50, Tryd.ntmps50
    go_wp2_with fail
    refine HN.out.mono ?_
    rintro e w1 ⟨rfl, rfl⟩
    go_wp2_with fail
    refine (need_no sb k _ c1).mono ?_
    rintro e w5 ⟨he, rfl⟩
    have he : e = .panicked [{ v := .iface 42 (.int .i64 k), recovered := false }] := he
    subst he
    go_wp2
    simp [bodyPost, AddPost, Pan]
    exact Kep.refl _ _ _

theorem addSlash_any (w : World) (sb B : Nat) (bs : List UInt8) (k : Nat) (v : Value) (l : List Tok) (text : List UInt8) (h : Src w sb B bs k v l) (hll : l.length ≤ 1000000) :
    Calls Tryd.prog 55 #[.pointer (some ⟨sb, 0, none⟩), .string (str text)] w (AddPost w sb B bs k l (if text.length = 1 then .tok 3 text 0 else .pass)) := by
  have HP := Lib.hid (addSign_any w sb B bs k v l text h hll)
  have H := Lib.hid h
  have hsz := str_size text
  obtain ⟨tx, htx⟩ : ∃ tx, str text = tx := ⟨_, rfl⟩
  obtain ⟨N, hN⟩ : ∃ N, text.length = N := ⟨_, rfl⟩
  rw [htx, hN] at hsz
  rw [htx] at HP ⊢
  rw [hN]
  clear h htx hN
  by_cases h1 : N = 1
  · subst h1
    rw [if_pos rfl]
    go_enter Tryd.func55, Tryd.ntmps55
    go_wp2_with fail
    refine HP.out.mono ?_
    rintro e w5 ⟨he, hs⟩
    have he : e = .returned (.tuple #[]) := he
    subst he
    have HS := Lib.hid hs
    clear hs
    go_wp2
    go_end0
    exact ⟨rfl, HS.out⟩
  · rw [if_neg h1]
    have d : ((N : Int) == 1) = false := by simp; omega
    clear h1
    go_enter Tryd.func55, Tryd.ntmps55
    go_wp2
    go_end0
    exact ⟨rfl, ⟨_, H.out⟩, Kep.refl _ _ _⟩
end Go.Proofs.YtdcdldjbdjochaaDoor
