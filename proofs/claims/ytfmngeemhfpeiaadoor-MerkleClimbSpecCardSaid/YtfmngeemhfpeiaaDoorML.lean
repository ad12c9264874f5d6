/- Plain facts: what is read is what was written, and the other way round. No program is walked here. ref.Formed, ref.Depth and ref.Check answer what V.formed, V.dep and V.chk answer. ref.numeral and ref.unsigned. ref.encode. For every value CodecEncodeSpec answers true and leaves its argument as it was. No condition but the row's own. -/
import Derived.Test.YtfmngeemhfpeiaaDoorMK
import Derived.Deep.AppendLies
import Derived.Lib.AppendStr
import Derived.Deep.RegionHeld3
namespace Go.Proofs.YtfmngeemhfpeiaaDoor.K
open Go.RowKit

def rdNum : Nat → Nat → List UInt8 → Option (Nat × List UInt8)
  | _, _, [] => none
  | sh, u, b :: r =>
    let d := b.toNat % 128
    let x := d * 2 ^ min sh 64 % 18446744073709551616
    if x / 2 ^ min sh 64 = d then
      if b.toNat < 128 then (if 0 < d ∨ sh = 0 then some (u ||| x, r) else none) else rdNum (sh + 7) (u ||| x) r
    else none

theorem rdNum_cons (sh u : Nat) (b : UInt8) (r : List UInt8) : rdNum sh u (b :: r) =
    if b.toNat % 128 * 2 ^ min sh 64 % 18446744073709551616 / 2 ^ min sh 64 = b.toNat % 128 then
      if b.toNat < 128 then (if 0 < b.toNat % 128 ∨ sh = 0 then some (u ||| b.toNat % 128 * 2 ^ min sh 64 % 18446744073709551616, r) else none) else rdNum (sh + 7) (u ||| b.toNat % 128 * 2 ^ min sh 64 % 18446744073709551616) r
    else none := by rw [rdNum]

def zag (u : Nat) : Int := if u % 2 = 1 then -((u / 2 : Nat) : Int) - 1 else ((u / 2 : Nat) : Int)
def rdMany (rd : List UInt8 → Option (V × List UInt8)) : Nat → List UInt8 → Option (List V × List UInt8)
  | 0, bs => some ([], bs)
  | n + 1, bs => match rd bs with
    | none => none
    | some (x, r) => match rdMany rd n r with
      | none => none
      | some (l, r2) => some (x :: l, r2)

def rdStep (many : Nat → List UInt8 → Option (List V × List UInt8)) : List UInt8 → Option (V × List UInt8)
  | [] => none
  | k :: bs =>
    if k.toNat = 1 then match rdNum 0 0 bs with | none => none | some (u, r) => some (⟨1, zag u, ByteArray.empty, []⟩, r)
    else if k.toNat = 2 then match rdNum 0 0 bs with | none => none | some (u, r) => if u ≤ r.length then some (⟨2, 0, ⟨(r.take u).toArray⟩, []⟩, r.drop u) else none
    else if k.toNat = 3 then match rdNum 0 0 bs with | none => none | some (u, r) => match many u r with | none => none | some (l, r2) => some (⟨3, 0, ByteArray.empty, l⟩, r2)
    else none

def rdV : Nat → List UInt8 → Option (V × List UInt8)
  | 0 => rdStep fun _ _ => none
  | q + 1 => rdStep (rdMany (rdV q))

def decode (bs : List UInt8) : Option V := match rdV 16 bs with
  | some (x, []) => some x
  | _ => none

theorem rdMany_step (rd : List UInt8 → Option (V × List UInt8)) (n : Nat) (bs : List UInt8) : rdMany rd (n + 1) bs = match rd bs with
    | none => none
    | some (x, r) => match rdMany rd n r with
      | none => none
      | some (l, r2) => some (x :: l, r2) := rfl

def rdInt (bs : List UInt8) : Option (V × List UInt8) := match rdNum 0 0 bs with | none => none | some (u, r) => some (⟨1, zag u, ByteArray.empty, []⟩, r)

def rdText (bs : List UInt8) : Option (V × List UInt8) := match rdNum 0 0 bs with | none => none | some (u, r) => if u ≤ r.length then some (⟨2, 0, ⟨(r.take u).toArray⟩, []⟩, r.drop u) else none

def rdLst (many : Nat → List UInt8 → Option (List V × List UInt8)) (bs : List UInt8) : Option (V × List UInt8) :=
  match rdNum 0 0 bs with | none => none | some (u, r) => match many u r with | none => none | some (l, r2) => some (⟨3, 0, ByteArray.empty, l⟩, r2)

def manyOf : Nat → Nat → List UInt8 → Option (List V × List UInt8)
  | 0 => fun _ _ => none
  | q + 1 => rdMany (rdV q)

theorem rdV_eq : ∀ q, rdV q = rdStep (manyOf q)
  | 0 => by rw [rdV]; rfl
  | q + 1 => by rw [rdV]; rfl

theorem rdStep_cons (many : Nat → List UInt8 → Option (List V × List UInt8)) (k : UInt8) (bs : List UInt8) : rdStep many (k :: bs) =
    if k.toNat = 1 then rdInt bs else if k.toNat = 2 then rdText bs else if k.toNat = 3 then rdLst many bs else none := rfl

theorem size_mk (bs : List UInt8) : (⟨bs.toArray⟩ : ByteArray).size = bs.length := by show bs.toArray.size = _; simp

theorem bytes_eq {s t : ByteArray} (h : s.toList = t.toList) : s = t := by
  rw [ByteArray.toList_eq, ByteArray.toList_eq] at h
  exact ByteArray.ext (Array.toList_inj.1 h)

mutual
theorem V.same_eq : ∀ x y : V, V.same x y = true → x = y
  | ⟨k, n, s, l⟩, ⟨k', n', s', l'⟩, h => by
    unfold V.same at h
    simp only [Bool.and_eq_true, beq_iff_eq] at h
    obtain ⟨h1, h2, h3, h4⟩ := h
    rw [h1, h2, bytes_eq h3, V.sames_eq l l' h4]
theorem V.sames_eq : ∀ l l' : List V, V.sames l l' = true → l = l'
  | [], [], _ => rfl
  | [], y :: ys, h => by unfold V.sames at h; cases h
  | x :: xs, [], h => by unfold V.sames at h; cases h
  | x :: xs, y :: ys, h => by
    unfold V.sames at h
    simp only [Bool.and_eq_true] at h
    rw [V.same_eq x y h.1, V.sames_eq xs ys h.2]
end

/-! ### Numerals -/
theorem or_add (u x k : Nat) (hu : u < 2 ^ k) : u ||| x * 2 ^ k = u + x * 2 ^ k := by
  rw [Nat.mul_comm x, Nat.or_comm, ← Nat.two_pow_add_eq_or_of_lt hu, Nat.add_comm]

theorem u8_nat (n : Nat) (h : n < 256) : (UInt8.ofNat n).toNat = n := by simp; omega

theorem num_zero : num 0 = [0] := by rw [num_lt 0 (by omega)]; rfl

/-- From a digit on. -/
theorem rdNum_num : ∀ (k v u sh : Nat) (r : List UInt8), v < 128 ^ (k + 1) → sh + 7 * k ≤ 63 → v * 2 ^ sh < 18446744073709551616 → u < 2 ^ sh → (0 < v ∨ sh = 0) → rdNum sh u (num v ++ r) = some (u + v * 2 ^ sh, r)
  | k, v, u, sh, r, hv, hsh, hv2, hu, h0 => by
    have hm : min sh 64 = sh := by omega
    by_cases h : v < 128
    · rw [num_lt v h]
      show rdNum sh u (UInt8.ofNat v :: r) = _
      rw [rdNum_cons, u8_nat v (by omega), hm, Nat.mod_eq_of_lt h, Nat.mod_eq_of_lt hv2, Nat.mul_div_cancel _ (Nat.two_pow_pos sh), if_pos rfl, if_pos h, if_pos h0, or_add u v sh hu]
    · have hd : v % 128 < 128 := Nat.mod_lt _ (by omega)
      have hle : v % 128 * 2 ^ sh ≤ v * 2 ^ sh := Nat.mul_le_mul_right _ (Nat.mod_le _ _)
      rw [num_ge v h]
      show rdNum sh u (UInt8.ofNat (v % 128 + 128) :: (num (v / 128) ++ r)) = _
      rw [rdNum_cons, u8_nat _ (by omega), hm]
      have e1 : (v % 128 + 128) % 128 = v % 128 := by omega
      rw [e1, Nat.mod_eq_of_lt (by omega : v % 128 * 2 ^ sh < 18446744073709551616), Nat.mul_div_cancel _ (Nat.two_pow_pos sh), if_pos rfl, if_neg (by omega), or_add u _ sh hu]
      have hk : ∃ k', k = k' + 1 := by
        cases k with
        | zero => simp at hv; omega
        | succ k' => exact ⟨k', rfl⟩
      obtain ⟨k', rfl⟩ := hk
      have e3 : v / 128 * 2 ^ (sh + 7) = v / 128 * 128 * 2 ^ sh := by rw [Nat.pow_add, Nat.mul_assoc, Nat.mul_comm (2 ^ sh)]
      have e4 : v % 128 * 2 ^ sh + v / 128 * 128 * 2 ^ sh = v * 2 ^ sh := by rw [← Nat.add_mul]; congr 1; omega
      have hlt2 : u + v % 128 * 2 ^ sh < 2 ^ (sh + 7) := by
        have : (v % 128 + 1) * 2 ^ sh ≤ 128 * 2 ^ sh := Nat.mul_le_mul_right _ (by omega)
        rw [Nat.add_mul, Nat.one_mul] at this
        rw [Nat.pow_add, Nat.mul_comm (2 ^ sh)]
        omega
      rw [rdNum_num k' (v / 128) _ (sh + 7) r (by rw [Nat.div_lt_iff_lt_mul (by omega)]; rw [Nat.pow_succ] at hv; exact hv) (by omega) (by omega) hlt2 (by omega)]
      congr 2
      omega

theorem rdNum_of (v : Nat) (h : v < 18446744073709551616) (r : List UInt8) : rdNum 0 0 (num v ++ r) = some (v, r) := by
  have := rdNum_num 9 v 0 0 r (by omega) (by omega) (by simpa using h) (by omega) (.inr rfl)
  simpa using this

theorem rdNum_far : ∀ (bs : List UInt8) (sh u : Nat), 64 ≤ sh → rdNum sh u bs = none
  | [], _, _, _ => by simp [rdNum]
  | b :: bs, sh, u, h => by
    rw [rdNum_cons, show min sh 64 = 64 by omega]
    have e : b.toNat % 128 * 2 ^ 64 % 18446744073709551616 = 0 := Nat.mul_mod_left _ _
    rw [e, Nat.zero_div]
    split
    · rename_i h0
      split
      · rw [if_neg (by omega)]
      · exact rdNum_far bs _ _ (by omega)
    · rfl

/-- What is read as a numeral is one. -/
theorem rdNum_back : ∀ (bs : List UInt8) (sh u v : Nat) (r : List UInt8), sh ≤ 63 → u < 2 ^ sh → rdNum sh u bs = some (v, r) →
    ∃ t, bs = num t ++ r ∧ v = u + t * 2 ^ sh ∧ (t = 0 → sh = 0) ∧ t * 2 ^ sh < 18446744073709551616
  | [], sh, u, v, r, _, _, h => by simp [rdNum] at h
  | b :: bs, sh, u, v, r, h63, hu, h => by
    have hb8 : b.toNat < 256 := b.toNat_lt
    rw [rdNum_cons, show min sh 64 = sh by omega] at h
    split at h
    · rename_i ht
      have hX : b.toNat % 128 * 2 ^ sh < 18446744073709551616 := by
        apply Decidable.byContradiction
        intro hge
        have h1 : b.toNat % 128 * 2 ^ sh % 18446744073709551616 < b.toNat % 128 * 2 ^ sh := by
          have := Nat.mod_lt (b.toNat % 128 * 2 ^ sh) (show 0 < 18446744073709551616 by omega); omega
        have h2 : b.toNat % 128 * 2 ^ sh % 18446744073709551616 / 2 ^ sh < b.toNat % 128 := by
          rw [Nat.div_lt_iff_lt_mul (Nat.two_pow_pos _)]; exact h1
        omega
      rw [Nat.mod_eq_of_lt hX, or_add u _ _ hu] at h
      split at h
      · rename_i hlt
        have e : b.toNat % 128 = b.toNat := Nat.mod_eq_of_lt hlt
        split at h
        · rename_i hok
          injection h with h; injection h with h1 h2
          refine ⟨b.toNat, ?_, by rw [← h1, e], by omega, by rw [e] at hX; exact hX⟩
          rw [num_lt _ hlt, ← h2]
          simp
        · cases h
      · rename_i hge
        have hs : sh + 7 ≤ 63 := by
          apply Decidable.byContradiction
          intro hh
          rw [rdNum_far bs (sh + 7) _ (by omega)] at h
          cases h
        have hlt2 : u + b.toNat % 128 * 2 ^ sh < 2 ^ (sh + 7) := by
          have : (b.toNat % 128 + 1) * 2 ^ sh ≤ 128 * 2 ^ sh := Nat.mul_le_mul_right _ (by omega)
          rw [Nat.add_mul, Nat.one_mul] at this
          rw [Nat.pow_add, Nat.mul_comm (2 ^ sh)]
          omega
        obtain ⟨t, h1, h2, h3, h4⟩ := rdNum_back bs (sh + 7) _ v r hs hlt2 h
        have ht0 : t ≠ 0 := fun e => by have := h3 e; omega
        have e3 : t * 2 ^ (sh + 7) = t * 128 * 2 ^ sh := by rw [Nat.pow_add, Nat.mul_assoc, Nat.mul_comm (2 ^ sh)]
        have hsum : (b.toNat % 128 + t * 128) * 2 ^ sh = b.toNat % 128 * 2 ^ sh + t * 2 ^ (sh + 7) := by rw [Nat.add_mul, e3]
        refine ⟨b.toNat % 128 + t * 128, ?_, by rw [h2, hsum]; omega, by omega, ?_⟩
        · rw [num_ge _ (by omega), h1]
          have e1 : (b.toNat % 128 + t * 128) % 128 + 128 = b.toNat := by omega
          have e2 : (b.toNat % 128 + t * 128) / 128 = t := by omega
          rw [e1, e2]
          simp
        · rw [hsum]
          have hpow : (18446744073709551616 : Nat) = 2 ^ (57 - sh) * 2 ^ (sh + 7) := by rw [← Nat.pow_add, show 57 - sh + (sh + 7) = 64 by omega]
          rw [hpow] at h4 ⊢
          have h5 : t < 2 ^ (57 - sh) := Nat.lt_of_mul_lt_mul_right h4
          have h6 : (t + 1) * 2 ^ (sh + 7) ≤ 2 ^ (57 - sh) * 2 ^ (sh + 7) := Nat.mul_le_mul_right _ h5
          rw [Nat.add_mul, Nat.one_mul] at h6
          omega
    · cases h

theorem rdNum_iff {bs : List UInt8} {v : Nat} {r : List UInt8} (h : rdNum 0 0 bs = some (v, r)) : bs = num v ++ r ∧ v < 18446744073709551616 := by
  obtain ⟨t, h1, h2, _, h4⟩ := rdNum_back bs 0 0 v r (by omega) (by omega) h
  have e : v = t := by rw [h2]; simp
  rw [e]
  exact ⟨h1, by simpa using h4⟩

/-! ### Trees -/
theorem zag_zig (n : Int) (h : In64 n) : zag (zig n).toNat = n := by
  unfold In64 at h
  unfold zag zig
  split <;> split <;> omega
theorem zig_zag (u : Nat) : (zig (zag u)).toNat = u := by
  unfold zag zig
  split <;> split <;> omega

theorem empty_of {s : ByteArray} (h : s.toList = []) : s = ByteArray.empty := bytes_eq (by rw [h, ByteArray.toList_eq]; rfl)


mutual
def V.fits : V → Prop
  | ⟨_, n, s, l⟩ => In64 n ∧ s.size < 18446744073709551616 ∧ l.length < 18446744073709551616 ∧ V.fitss l
def V.fitss : List V → Prop
  | [] => True
  | x :: xs => V.fits x ∧ V.fitss xs
end

mutual
theorem V.At.fits {w : World} {B : Nat} : ∀ (x : V) (v : Value), V.At w B x v → V.fits x
  | ⟨k, n, s, l⟩, v, h => by
    unfold V.At at h
    unfold V.fits
    obtain ⟨_, h2, h3, a, cap, _, h5, h6, h7⟩ := h
    unfold maxLen at h3 h6
    refine ⟨h2, by omega, by omega, ?_⟩
    rcases h7 with h7 | ⟨b, off, _, _, h8⟩
    · subst h7; unfold V.fitss; trivial
    · exact AtL.fits l b off h8
theorem AtL.fits {w : World} {B : Nat} : ∀ (l : List V) (b off : Nat), AtL w B l b off → V.fitss l
  | [], _, _, _ => by unfold V.fitss; trivial
  | x :: xs, b, off, h => by
    unfold AtL at h
    unfold V.fitss
    obtain ⟨⟨c0, c1, c2, c3, _, _, _, _, h0⟩, hr⟩ := h
    exact ⟨V.At.fits x _ h0, AtL.fits xs b _ hr⟩
end

theorem rdMany_encs (rd : List UInt8 → Option (V × List UInt8)) : ∀ (l : List V) (r : List UInt8), (∀ x ∈ l, ∀ r, rd (x.enc ++ r) = some (x, r)) → rdMany rd l.length (V.encs l ++ r) = some (l, r)
  | [], r, _ => by rw [V.encs_nil]; rfl
  | x :: l, r, h => by
    rw [V.encs_cons, List.length_cons, rdMany_step, List.append_assoc, h x (by simp)]
    simp only []
    rw [rdMany_encs rd l r fun y hy => h y (by simp [hy])]

theorem V.fitss_mem : ∀ (l : List V) (x : V), x ∈ l → V.fitss l → V.fits x
  | y :: l, x, h, hf => by
    unfold V.fitss at hf
    rcases List.mem_cons.1 h with h | h
    · rw [h]; exact hf.1
    · exact V.fitss_mem l x h hf.2
theorem V.formeds_mem : ∀ (l : List V) (x : V), x ∈ l → V.formeds l = true → x.formed = true
  | y :: l, x, h, hf => by
    rw [V.formeds_cons, Bool.and_eq_true] at hf
    rcases List.mem_cons.1 h with h | h
    · rw [h]; exact hf.1
    · exact V.formeds_mem l x h hf.2
theorem V.deps_mem : ∀ (l : List V) (x : V), x ∈ l → x.dep ≤ V.deps l
  | y :: l, x, h => by
    unfold V.deps
    rcases List.mem_cons.1 h with h | h
    · rw [h]; omega
    · have := V.deps_mem l x h; omega

/-- What was written is read. -/
theorem rdV_enc : ∀ (q : Nat) (x : V) (r : List UInt8), x.formed = true → V.fits x → x.dep ≤ q → rdV q (x.enc ++ r) = some (x, r) := by
  intro q
  induction q using Nat.strongRecOn with
  | _ q ih =>
    intro ⟨k, n, s, l⟩ r hf hfit hd
    unfold V.formed at hf
    unfold V.fits at hfit
    unfold V.dep at hd
    obtain ⟨f1, f2, f3, f4⟩ := hfit
    rw [rdV_eq]
    unfold V.enc
    by_cases e1 : k = 1
    · subst e1
      simp only [if_true] at hf ⊢
      simp at hf
      obtain ⟨hs, rfl⟩ := hf
      rw [List.cons_append, rdStep_cons, if_pos (by decide)]
      unfold rdInt
      rw [rdNum_of _ (by have := zig_range n f1; omega)]
      simp only []
      rw [zag_zig n f1, empty_of hs]
    by_cases e2 : k = 2
    · subst e2
      simp only [show ¬ ((2 : Int) = 1) by omega, if_true, if_false] at hf ⊢
      simp at hf
      obtain ⟨rfl, rfl⟩ := hf
      have hsl : s.data.toList.length = s.size := Array.length_toList
      rw [List.cons_append, rdStep_cons, if_neg (by decide), if_pos (by decide)]
      unfold rdText
      rw [List.append_assoc, rdNum_of _ f2]
      simp only []
      rw [if_pos (by rw [List.length_append, hsl]; omega), List.take_left' hsl, List.drop_left' hsl]
    by_cases e3 : k = 3
    · subst e3
      simp only [show ¬ ((3 : Int) = 1) by omega, show ¬ ((3 : Int) = 2) by omega, if_true, if_false] at hf hd ⊢
      simp at hf
      obtain ⟨rfl, hs, hfs⟩ := hf
      cases q with
      | zero => omega
      | succ q =>
        rw [List.cons_append, rdStep_cons, if_neg (by decide), if_neg (by decide), if_pos (by decide)]
        unfold rdLst
        rw [List.append_assoc, rdNum_of _ f3]
        simp only [manyOf]
        rw [rdMany_encs (rdV q) l r fun x hx r => ih q (by omega) x r (V.formeds_mem l x hx hfs) (V.fitss_mem l x hx f4) (by have := V.deps_mem l x hx; omega)]
        simp only []
        rw [empty_of hs]
    · simp only [e1, e2, e3, if_false] at hf
      cases hf

theorem rdMany_back (rd : List UInt8 → Option (V × List UInt8)) (q : Nat) (hrd : ∀ bs x r, rd bs = some (x, r) → bs = x.enc ++ r ∧ x.formed = true ∧ x.dep ≤ q) : ∀ (n : Nat) (bs : List UInt8) (l : List V) (r : List UInt8), rdMany rd n bs = some (l, r) →
    bs = V.encs l ++ r ∧ V.formeds l = true ∧ V.deps l ≤ q ∧ l.length = n
  | 0, bs, l, r, h => by
    rw [rdMany] at h; injection h with h; injection h with h1 h2; subst h1; subst h2
    exact ⟨by rw [V.encs_nil]; rfl, by unfold V.formeds; rfl, by unfold V.deps; omega, rfl⟩
  | n + 1, bs, l, r, h => by
    rw [rdMany_step] at h
    split at h
    · cases h
    · rename_i x r1 he
      obtain ⟨g1, g2, g3⟩ := hrd bs x r1 he
      split at h
      · cases h
      · rename_i l2 r2 hm
        obtain ⟨g4, g5, g6, g7⟩ := rdMany_back rd q hrd n r1 l2 r2 hm
        injection h with h; injection h with h3 h4; subst h3; subst h4
        refine ⟨by rw [g1, g4, V.encs_cons, List.append_assoc], by rw [V.formeds_cons, g2, g5]; rfl, by unfold V.deps; omega, by rw [List.length_cons, g7]⟩

/-- What is read was written. -/
theorem rdV_back : ∀ (q : Nat) (bs : List UInt8) (x : V) (r : List UInt8), rdV q bs = some (x, r) → bs = x.enc ++ r ∧ x.formed = true ∧ x.dep ≤ q := by
  intro q
  induction q using Nat.strongRecOn with
  | _ q ih =>
    intro bs x r h
    rw [rdV_eq] at h
    cases bs with
    | nil => rw [rdStep] at h; cases h
    | cons k bs =>
      have hk : ∀ m : UInt8, k.toNat = m.toNat → k = m := fun m e => UInt8.toNat_inj.1 e
      rw [rdStep_cons] at h
      split at h
      · rename_i h1
        unfold rdInt at h
        split at h
        · cases h
        · rename_i u r1 he
          obtain ⟨g1, g2⟩ := rdNum_iff he
          injection h with h; injection h with h3 h4; subst h3; subst h4
          rw [hk 1 h1, g1]
          refine ⟨?_, ?_, ?_⟩
          · unfold V.enc; rw [if_pos rfl, zig_zag]; rfl
          · unfold V.formed; rw [if_pos rfl]; simp [ByteArray.toList_eq]
          · unfold V.dep; rw [if_neg (by decide)]; omega
      · split at h
        · rename_i h1
          unfold rdText at h
          split at h
          · cases h
          · rename_i u r1 he
            obtain ⟨g1, g2⟩ := rdNum_iff he
            split at h
            · rename_i hle
              injection h with h; injection h with h3 h4; subst h3; subst h4
              rw [hk 2 h1, g1]
              refine ⟨?_, ?_, ?_⟩
              · unfold V.enc
                rw [if_neg (by decide), if_pos rfl, size_mk, List.length_take, show min u r1.length = u by omega]
                simp
              · unfold V.formed; rw [if_neg (by decide), if_pos rfl]; simp
              · unfold V.dep; rw [if_neg (by decide)]; omega
            · cases h
        · split at h
          · rename_i h1
            unfold rdLst at h
            split at h
            · cases h
            · rename_i u r1 he
              obtain ⟨g1, g2⟩ := rdNum_iff he
              split at h
              · cases h
              · rename_i l r2 hm
                injection h with h; injection h with h3 h4; subst h3; subst h4
                cases q with
                | zero => cases hm
                | succ q =>
                  obtain ⟨g3, g4, g5, g6⟩ := rdMany_back (rdV q) q (ih q (by omega)) u r1 l r2 hm
                  rw [hk 3 h1, g1, g3]
                  refine ⟨?_, ?_, ?_⟩
                  · unfold V.enc
                    rw [if_neg (by decide), if_neg (by decide), g6, List.cons_append, List.append_assoc]
                  · unfold V.formed; rw [if_neg (by decide), if_neg (by decide), if_pos rfl, g4]; simp [ByteArray.toList_eq]
                  · unfold V.dep; rw [if_pos rfl]; omega
          · cases h

theorem chk_ok {x : V} (h1 : x.formed = true) (h2 : x.dep ≤ 16) : x.chk = 0 := by
  unfold V.chk
  rw [h1, if_neg (by simp), if_neg (by omega)]
theorem chk_dep {x : V} (h : x.chk = 0) : x.dep ≤ 16 := by
  unfold V.chk at h
  split at h
  · cases h
  · split at h
    · cases h
    · omega

theorem decode_enc (x : V) (hf : V.fits x) (h : x.chk = 0) : decode x.enc = some x := by
  have := rdV_enc 16 x [] (x.chk_formed h) hf (chk_dep h)
  rw [List.append_nil] at this
  unfold decode
  rw [this]
theorem decode_back {bs : List UInt8} {x : V} (h : decode bs = some x) : bs = x.enc ∧ x.chk = 0 := by
  unfold decode at h
  split at h
  · rename_i y he
    injection h with h; subst h
    obtain ⟨h1, h2, h3⟩ := rdV_back 16 bs _ [] he
    rw [List.append_nil] at h1
    exact ⟨h1, chk_ok h2 h3⟩
  · cases h
/-- No encoding is the beginning of another one. -/
theorem enc_prefix {x y : V} (hx : V.fits x) (hy : V.fits y) (cx : x.chk = 0) (cy : y.chk = 0) (r r' : List UInt8) (h : x.enc ++ r = y.enc ++ r') : x = y := by
  have h1 := rdV_enc 16 x r (x.chk_formed cx) hx (chk_dep cx)
  have h2 := rdV_enc 16 y r' (y.chk_formed cy) hy (chk_dep cy)
  rw [h, h2] at h1
  injection h1 with h1; injection h1 with h1 _
  exact h1.symm

end Go.Proofs.YtfmngeemhfpeiaaDoor.K

namespace Go.Proofs.YtfmngeemhfpeiaaDoor.K
open Go.RowKit

def RForm (x : V) : Prop := ∀ (w : World) (B : Nat) (v : Value), B ≤ w.heap.size → V.At w B x v →
  Calls Tryd.prog 109 #[v] w fun e w' => e = .returned (.bool x.formed) ∧ Below w.heap.size w w'

set_option maxHeartbeats 400000 in
theorem rform_1 (n : Int) (s : ByteArray) (a : Option Addr) (len cap : Nat) (w : World) :
    Calls Tryd.prog 109 #[.agg #[.int .i64 1, .int .i64 n, .string s, .slice a len cap]] w
      fun e w' => e = .returned (.bool (decide (s.toList = []) && decide (len = 0))) ∧ Below w.heap.size w w' := by
  by_cases hs : s.toList = []
  · by_cases hl : len = 0
    · subst hl
      go_enter Tryd.func109, Tryd.ntmps109
      go_wp2
      go_ret
      exact ⟨by simp [hs], by go_grown⟩
    · have hl' : ((len : Int) == 0) = false := by simpa using hl
      go_enter Tryd.func109, Tryd.ntmps109
      go_wp2
      go_ret
      exact ⟨by simp [hl], by go_grown⟩
  · go_enter Tryd.func109, Tryd.ntmps109
    go_wp2
    go_ret
    exact ⟨by simp [hs], by go_grown⟩

set_option maxHeartbeats 400000 in
theorem rform_2 (n : Int) (s : ByteArray) (a : Option Addr) (len cap : Nat) (w : World) :
    Calls Tryd.prog 109 #[.agg #[.int .i64 2, .int .i64 n, .string s, .slice a len cap]] w
      fun e w' => e = .returned (.bool (decide (n = 0) && decide (len = 0))) ∧ Below w.heap.size w w' := by
  by_cases hs : n = 0
  · subst hs
    by_cases hl : len = 0
    · subst hl
      go_enter Tryd.func109, Tryd.ntmps109
      go_wp2
      go_ret
      exact ⟨by simp, by go_grown⟩
    · have hl' : ((len : Int) == 0) = false := by simpa using hl
      go_enter Tryd.func109, Tryd.ntmps109
      go_wp2
      go_ret
      exact ⟨by simp [hl], by go_grown⟩
  · have hl' : (n == 0) = false := by simpa using hs
    go_enter Tryd.func109, Tryd.ntmps109
    go_wp2
    go_ret
    exact ⟨by simp [hs], by go_grown⟩

set_option maxHeartbeats 400000 in
theorem rform_no (k n : Int) (h1 : k ≠ 1) (h2 : k ≠ 2) (h3 : k ≠ 3) (s : ByteArray) (a : Option Addr) (len cap : Nat) (w : World) :
    Calls Tryd.prog 109 #[.agg #[.int .i64 k, .int .i64 n, .string s, .slice a len cap]] w
      fun e w' => e = .returned (.bool false) ∧ Below w.heap.size w w' := by
  have h1' : (k == 1) = false := by simpa using h1
  have h2' : (k == 2) = false := by simpa using h2
  have h3' : (k == 3) = false := by simpa using h3
  go_enter Tryd.func109, Tryd.ntmps109
  go_wp2
  go_ret
  exact ⟨by simp, by go_grown⟩

set_option maxHeartbeats 400000 in
theorem rform_30 (n : Int) (s : ByteArray) (a : Option Addr) (cap : Nat) (w : World) :
    Calls Tryd.prog 109 #[.agg #[.int .i64 3, .int .i64 n, .string s, .slice a 0 cap]] w
      fun e w' => e = .returned (.bool (decide (n = 0) && decide (s.toList = []))) ∧ Below w.heap.size w w' := by
  by_cases hn : n = 0
  · subst hn
    by_cases hs : s.toList = []
    · go_enter Tryd.func109, Tryd.ntmps109
      go_wp2
      go_rounds 1
      go_ret
      exact ⟨by simp [hs], by go_grown⟩
    · go_enter Tryd.func109, Tryd.ntmps109
      go_wp2
      go_rounds 1
      go_ret
      exact ⟨by simp [hs], by go_grown⟩
  · have hl' : (n == 0) = false := by simpa using hn
    go_enter Tryd.func109, Tryd.ntmps109
    go_wp2
    go_rounds 1
    go_ret
    exact ⟨by simp [hn], by go_grown⟩

set_option maxHeartbeats 1000000 in
theorem rform_35 (n : Int) (s : ByteArray) (l : List V) (ih : ∀ x ∈ l, RForm x) (b off cap : Nat) (w : World) (hb : b < w.heap.size) (_hcap : l.length ≤ cap) (hm : cap ≤ maxLen) (h : AtL w w.heap.size l b off) :
    Calls Tryd.prog 109 #[.agg #[.int .i64 3, .int .i64 n, .string s, .slice (some ⟨b, off, none⟩) l.length cap]] w
      fun e w' => e = .returned (.bool (V.formeds l && (decide (n = 0) && decide (s.toList = [])))) ∧ Below w.heap.size w w' := by
  unfold maxLen at hm
  obtain ⟨len, hlen⟩ : ∃ len, l.length = len := ⟨_, rfl⟩
  rw [hlen] at _hcap ⊢
  have HLEN := Lib.hid hlen; clear hlen
  go_enter Tryd.func109, Tryd.ntmps109
  go_wp2
  obtain ⟨w0, hw0⟩ : ∃ w0, w0 = (w.alloc (Obj.cells #[Value.int IntKind.i64 3, Value.int IntKind.i64 n, Value.string s, Value.slice (some ⟨b, off, none⟩) len cap] 115)) := ⟨_, rfl⟩
  rw [← hw0]
  have hz : w0.heap.size = w.heap.size + 1 := by rw [hw0]; simp
  have hB : Below w.heap.size w w0 := by rw [hw0]; go_grown
  have c1 : w0.cell? ⟨w.heap.size, 3, none⟩ = some (Value.slice (some ⟨b, off, none⟩) len cap) := by rw [hw0]; go_cell
  have c2 : w0.cell? ⟨w.heap.size, 1, none⟩ = some (Value.int .i64 n) := by rw [hw0]; go_cell
  have c3 : w0.cell? ⟨w.heap.size, 2, none⟩ = some (Value.string s) := by rw [hw0]; go_cell
  clear hw0
  go_loopw [3] (fun i wr => ∃ m : Nat, i = .int .i64 m ∧ m ≤ len ∧ V.formeds l = V.formeds (l.drop m) ∧ Below w0.heap.size w0 wr) (fun i _ => len - (intOf i).toNat)
  case atStart => exact ⟨0, rfl, Nat.zero_le _, by simp, Below.refl _ _⟩
  case round =>
    obtain ⟨m, rfl, hmle, hsm, hBr⟩ := hrel
    have HSM := Lib.hid hsm; clear hsm
    have d1 : wr.cell? ⟨w.heap.size, 3, none⟩ = some (Value.slice (some ⟨b, off, none⟩) len cap) := (hBr.cell (by simp; omega)).trans c1
    have d2 : wr.cell? ⟨w.heap.size, 1, none⟩ = some (Value.int .i64 n) := (hBr.cell (by simp; omega)).trans c2
    have d3 : wr.cell? ⟨w.heap.size, 2, none⟩ = some (Value.string s) := (hBr.cell (by simp; omega)).trans c3
    have hBw := hB.trans (hBr.mono (by omega))
    clear c1 c2 c3
    by_cases hlt : m < len
    · obtain ⟨k2, n2, s2, a2, ln, cp, g0, g1, g2, g3, ga⟩ := AtL.got l b off m (by rw [HLEN.out]; exact hlt) (AtL.below hBw l b off hb h)
      have GA := Lib.hid ga; clear ga
      have hq2 : V.formeds l = ((l[m]'(by rw [HLEN.out]; exact hlt)).formed && V.formeds (l.drop (m + 1))) := by
        rw [HSM.out, List.drop_eq_getElem_cons (by rw [HLEN.out]; exact hlt)]; simp only [V.formeds]
      have hc := ih _ (List.getElem_mem (by rw [HLEN.out]; exact hlt)) wr w.heap.size _ (by have := hBw.size; omega) GA.out
      obtain ⟨r, hr⟩ : ∃ r, (l[m]'(by rw [HLEN.out]; exact hlt)).formed = r := ⟨_, rfl⟩
      rw [hr] at hc hq2
      have HC := Lib.hid hc
      have HQ := Lib.hid hq2
      clear hc hr hq2 h d2 d3
      go_wp2_with fail
      refine HC.out.mono ?_
      rintro e w3 ⟨rfl, hb3⟩
      have hB3 := hBr.trans (hb3.mono hBr.size)
      have hB4 := hBw.trans (hb3.mono hBw.size)
      clear hb3
      cases r
      · go_wp2
        go_ret
        exact ⟨by rw [HQ.out]; rfl, hB4⟩
      · go_wp2
        go_roundw
        case rel => exact ⟨m + 1, by go_num, by omega, by rw [HQ.out]; rfl, hB3⟩
        case measure => simp [intOf]; omega
    · have hme : m = len := by omega
      have hq : V.formeds l = true := by
        rw [HSM.out, hme, List.drop_of_length_le (by rw [HLEN.out]; exact Nat.le_refl _)]; rfl
      have HQ := Lib.hid hq
      clear hq hme h
      by_cases hn : n = 0
      · subst hn
        by_cases hs : s.toList = []
        · go_wp2
          go_ret
          exact ⟨by simp [HQ.out], hBw⟩
        · go_wp2
          go_ret
          exact ⟨by simp [hs], hBw⟩
      · have hl' : (n == 0) = false := by simpa using hn
        go_wp2
        go_ret
        exact ⟨by rw [HQ.out]; simp [hn], hBw⟩

theorem refForm : ∀ (N : Nat) (x : V), SizeOf.sizeOf x ≤ N → RForm x
  | 0, ⟨k, n, s, l⟩, h => by simp at h
  | N + 1, ⟨k, n, s, l⟩, h => by
    intro w B v hB hx
    have hx := V.At.mono hB _ _ hx
    unfold V.At at hx
    obtain ⟨h1, h2, h3, a, cap, rfl, h5, h6, h7⟩ := hx
    unfold V.formed
    by_cases e1 : k = 1
    · subst e1
      simp only [if_true]
      exact rform_1 n s a _ cap w
    by_cases e2 : k = 2
    · subst e2
      simp only [show ¬ ((2 : Int) = 1) by omega, if_true, if_false]
      exact rform_2 n s a _ cap w
    by_cases e3 : k = 3
    · subst e3
      simp only [show ¬ ((3 : Int) = 1) by omega, show ¬ ((3 : Int) = 2) by omega, if_true, if_false]
      have e : (decide (n = 0) && (decide (s.toList = []) && V.formeds l)) = (V.formeds l && (decide (n = 0) && decide (s.toList = []))) := by
        cases decide (n = 0) <;> cases decide (s.toList = []) <;> cases V.formeds l <;> rfl
      rw [e]
      rcases h7 with h7 | ⟨b, off, rfl, hb, h10⟩
      · subst h7
        exact rform_30 n s a cap w
      · exact rform_35 n s l (fun x hx => refForm N x (by have := List.sizeOf_lt_of_mem hx; simp at h; omega)) b off cap w hb h5 h6 h10
    · simp only [e1, e2, e3, if_false]
      exact rform_no k n e1 e2 e3 s a _ cap w

def RDep (x : V) : Prop := ∀ (w : World) (B : Nat) (v : Value), V.dep x ≤ 1000000 → B ≤ w.heap.size → V.At w B x v →
  Calls Tryd.prog 110 #[v] w fun e w' => e = .returned (.int .i64 (x.dep : Nat)) ∧ Below w.heap.size w w'

set_option maxHeartbeats 400000 in
theorem rdep_no (k n : Int) (h1 : k ≠ 3) (s : ByteArray) (a : Option Addr) (len cap : Nat) (w : World) :
    Calls Tryd.prog 110 #[.agg #[.int .i64 k, .int .i64 n, .string s, .slice a len cap]] w
      fun e w' => e = .returned (.int .i64 0) ∧ Below w.heap.size w w' := by
  have h1' : (k != 3) = true := by simpa using h1
  go_enter Tryd.func110, Tryd.ntmps110
  go_wp2
  go_ret
  exact ⟨rfl, by go_grown⟩

set_option maxHeartbeats 400000 in
theorem rdep_0 (n : Int) (s : ByteArray) (a : Option Addr) (cap : Nat) (w : World) :
    Calls Tryd.prog 110 #[.agg #[.int .i64 3, .int .i64 n, .string s, .slice a 0 cap]] w
      fun e w' => e = .returned (.int .i64 1) ∧ Below w.heap.size w w' := by
  go_enter Tryd.func110, Tryd.ntmps110
  go_wp2
  go_rounds 1
  go_ret
  exact ⟨rfl, by go_grown⟩

set_option maxHeartbeats 1000000 in
theorem rdep_5 (n : Int) (s : ByteArray) (l : List V) (hd : V.deps l ≤ 999999) (ih : ∀ x ∈ l, RDep x) (b off cap : Nat) (w : World) (hb : b < w.heap.size) (_hcap : l.length ≤ cap) (hm : cap ≤ maxLen) (h : AtL w w.heap.size l b off) :
    Calls Tryd.prog 110 #[.agg #[.int .i64 3, .int .i64 n, .string s, .slice (some ⟨b, off, none⟩) l.length cap]] w
      fun e w' => e = .returned (.int .i64 ((V.deps l + 1 : Nat) : Int)) ∧ Below w.heap.size w w' := by
  unfold maxLen at hm
  obtain ⟨len, hlen⟩ : ∃ len, l.length = len := ⟨_, rfl⟩
  rw [hlen] at _hcap ⊢
  have HLEN := Lib.hid hlen; clear hlen
  have HD := Lib.hid hd; clear hd
  go_enter Tryd.func110, Tryd.ntmps110
  go_wp2
  obtain ⟨w0, hw0⟩ : ∃ w0, w0 = (w.alloc (Obj.cells #[Value.int IntKind.i64 3, Value.int IntKind.i64 n, Value.string s, Value.slice (some ⟨b, off, none⟩) len cap] 115)) := ⟨_, rfl⟩
  rw [← hw0]
  have hz : w0.heap.size = w.heap.size + 1 := by rw [hw0]; simp
  have hB : Below w.heap.size w w0 := by rw [hw0]; go_grown
  have c1 : w0.cell? ⟨w.heap.size, 3, none⟩ = some (Value.slice (some ⟨b, off, none⟩) len cap) := by rw [hw0]; go_cell
  clear hw0
  go_loopw [3, 4] (fun t i wr => ∃ m q : Nat, i = .int .i64 m ∧ t = .int .i64 q ∧ m ≤ len ∧ q ≤ 999999 ∧ V.deps l = max q (V.deps (l.drop m)) ∧ Below w0.heap.size w0 wr) (fun _ i _ => len - (intOf i).toNat)
  case atStart => exact ⟨0, 0, rfl, rfl, Nat.zero_le _, by omega, by simp, Below.refl _ _⟩
  case round =>
    obtain ⟨m, q, rfl, rfl, hmle, hq1, hsm, hBr⟩ := hrel
    have HSM := Lib.hid hsm; clear hsm
    have d1 : wr.cell? ⟨w.heap.size, 3, none⟩ = some (Value.slice (some ⟨b, off, none⟩) len cap) := (hBr.cell (by simp; omega)).trans c1
    have hBw := hB.trans (hBr.mono (by omega))
    clear c1
    by_cases hlt : m < len
    · obtain ⟨k2, n2, s2, a2, ln, cp, g0, g1, g2, g3, ga⟩ := AtL.got l b off m (by rw [HLEN.out]; exact hlt) (AtL.below hBw l b off hb h)
      have GA := Lib.hid ga; clear ga
      have hdl : V.deps (l.drop m) = max (V.dep (l[m]'(by rw [HLEN.out]; exact hlt))) (V.deps (l.drop (m + 1))) := by
        rw [List.drop_eq_getElem_cons (by rw [HLEN.out]; exact hlt)]; simp only [V.deps]
      have hr0 : V.dep (l[m]'(by rw [HLEN.out]; exact hlt)) ≤ 999999 := by
        have h1 := HSM.out; have h2 := HD.out; rw [hdl] at h1; omega
      have hc := ih _ (List.getElem_mem (by rw [HLEN.out]; exact hlt)) wr w.heap.size _ (by omega) (by have := hBw.size; omega) GA.out
      obtain ⟨r, hr⟩ : ∃ r, V.dep (l[m]'(by rw [HLEN.out]; exact hlt)) = r := ⟨_, rfl⟩
      rw [hr] at hdl hc hr0
      have hq2 : V.deps l = max (max q r) (V.deps (l.drop (m + 1))) := by rw [HSM.out, hdl]; omega
      have HQ := Lib.hid hq2
      have HC := Lib.hid hc
      clear hq2 hc hr h hdl
      go_wp2_with fail
      refine HC.out.mono ?_
      rintro e w3 ⟨rfl, hb3⟩
      have hB3 := hBr.trans (hb3.mono hBr.size)
      clear hb3
      go_wp2
      refine ⟨⟨m + 1, max q r, by go_num, ?_, by omega, by omega, HQ.out, hB3⟩, by simp [intOf]; omega⟩
      congr 1; first | omega | (split <;> omega) | (simp only [intOf]; omega) | (congr 1; omega)
    · have hme : m = len := by omega
      have hq : V.deps l = q := by
        rw [HSM.out, hme, List.drop_of_length_le (by rw [HLEN.out]; exact Nat.le_refl _)]; unfold V.deps; omega
      have HQ := Lib.hid hq
      clear hq hme h
      go_wp2
      go_ret
      exact ⟨ret_int (by rw [HQ.out]; push_cast; omega), hBw⟩

theorem refDep : ∀ (N : Nat) (x : V), SizeOf.sizeOf x ≤ N → RDep x
  | 0, ⟨k, n, s, l⟩, h => by simp at h
  | N + 1, ⟨k, n, s, l⟩, h => by
    intro w B v hd hB hx
    have hx := V.At.mono hB _ _ hx
    unfold V.At at hx
    obtain ⟨h1, h2, h3, a, cap, rfl, h5, h6, h7⟩ := hx
    unfold V.dep at hd ⊢
    by_cases e3 : k = 3
    · subst e3
      simp only [if_true] at hd ⊢
      rcases h7 with h7 | ⟨b, off, rfl, hb, h10⟩
      · subst h7
        unfold V.deps
        exact rdep_0 n s a cap w
      · exact rdep_5 n s l (by omega) (fun x hx => refDep N x (by have := List.sizeOf_lt_of_mem hx; simp at h; omega)) b off cap w hb h5 h6 h10
    · simp only [e3, if_false]
      exact rdep_no k n e3 s a _ cap w

set_option maxHeartbeats 400000 in
theorem rcheck_any (x : V) (w : World) (B : Nat) (v : Value) (hd : V.dep x ≤ 1000000) (hB : B ≤ w.heap.size) (h : V.At w B x v) :
    Calls Tryd.prog 101 #[v] w fun e w' => e = .returned (.int .i64 x.chk) ∧ Below w.heap.size w w' := by
  have hc : ∀ W, Below w.heap.size w W → Calls Tryd.prog 109 #[v] W fun e w' => e = .returned (.bool x.formed) ∧ Below W.heap.size W w' :=
    fun W hW => refForm _ x (Nat.le_refl _) W B v (by have := hW.size; omega) (V.At.below (hW.mono hB) _ _ h)
  have hc2 : ∀ W, Below w.heap.size w W → Calls Tryd.prog 110 #[v] W fun e w' => e = .returned (.int .i64 (x.dep : Nat)) ∧ Below W.heap.size W w' :=
    fun W hW => refDep _ x (Nat.le_refl _) W B v hd (by have := hW.size; omega) (V.At.below (hW.mono hB) _ _ h)
  unfold V.chk
  obtain ⟨q, hq⟩ : ∃ q, x.formed = q := ⟨_, rfl⟩
  obtain ⟨d, hdd⟩ : ∃ d, x.dep = d := ⟨_, rfl⟩
  rw [hq] at hc ⊢
  rw [hdd] at hc2 hd ⊢
  obtain ⟨k, n, s, l⟩ := x
  unfold V.At at h
  obtain ⟨h1, h2, h3, a, cap, rfl, _⟩ := h
  have HC := Lib.hid hc
  have HC2 := Lib.hid hc2
  clear hc hc2 h1 h2 hq hdd
  cases q
  · go_enter Tryd.func101, Tryd.ntmps101
    go_wp2_with fail
    refine (HC.out _ (by go_grown)).mono ?_
    rintro e w3 ⟨rfl, hb3⟩
    go_wp2
    go_ret
    exact ⟨rfl, Below.trans (by go_grown) (hb3.mono (by simp))⟩
  · go_enter Tryd.func101, Tryd.ntmps101
    go_wp2_with fail
    refine (HC.out _ (by go_grown)).mono ?_
    rintro e w3 ⟨rfl, hb3⟩
    have hs3 := hb3.size
    have hc0 : ∀ i v, (w.alloc (Obj.cells #[Value.int IntKind.i64 k, Value.int IntKind.i64 n, Value.string s, Value.slice a l.length cap] 115)).cell? ⟨w.heap.size, i, none⟩ = some v → w3.cell? ⟨w.heap.size, i, none⟩ = some v :=
      fun i v hv => (hb3.cell (p := ⟨w.heap.size, i, none⟩) (by simp)).trans hv
    have k0 := hc0 0 (.int .i64 k) (by go_cell)
    have k1 := hc0 1 (.int .i64 n) (by go_cell)
    have k2 := hc0 2 (.string s) (by go_cell)
    have k3 := hc0 3 (.slice a l.length cap) (by go_cell)
    have hb4 : Below w.heap.size w w3 := Below.trans (by go_grown) (hb3.mono (by simp))
    clear hc0 hb3
    by_cases h16 : 16 < d
    · have h16' : decide (16 < (d : Int)) = true := by simp; omega
      go_wp2_with fail
      refine (HC2.out _ hb4).mono ?_
      rintro e w5 ⟨rfl, hb5⟩
      go_wp2
      go_ret
      exact ⟨rfl, hb4.trans (hb5.mono hb4.size)⟩
    · have h16' : decide (16 < (d : Int)) = false := by simp; omega
      go_wp2_with fail
      refine (HC2.out _ hb4).mono ?_
      rintro e w5 ⟨rfl, hb5⟩
      go_wp2
      go_ret
      exact ⟨rfl, hb4.trans (hb5.mono hb4.size)⟩

end Go.Proofs.YtfmngeemhfpeiaaDoor.K

namespace Go.Proofs.YtfmngeemhfpeiaaDoor.K
open Go.RowKit

/-- A call that ends in a new row. -/
def NewPost (w : World) (l : List UInt8) (e : Ending) (w' : World) : Prop := ∃ v, e = .returned v ∧ Made w l v w'

theorem own_below' {W W' : World} {B e size n : Nat} {v : Value} {xs : List Value} (h : W.ownsRow B e size v n xs) (hb : Below W.heap.size W W') : W'.ownsRow B e size v n xs := by
  refine World.ownsRow.kept h (gbelow (row := none) hb) ?_
  by_cases he : v.ownBlock = none
  · exact .inl he
  · exact .inr he

theorem made_of {w W : World} {g n cap : Nat} {l : List UInt8} (h : W.ownsRow w.heap.size 5 1 (.slice (some ⟨g, 0, none⟩) n cap) n (cells8 l)) (hn : n = l.length) (hb : Below w.heap.size w W) :
    Made w l (.slice (some ⟨g, 0, none⟩) n cap) W := by
  subst hn
  have hl := h.lt g rfl
  refine ⟨g, cap, rfl, hl.1, ⟨h.1, ?_⟩, hb⟩
  rcases h.2 with ⟨h1, _⟩ | ⟨g', cap', cur, h1, h2, h3⟩
  · cases h1
  · exact .inr ⟨g', cap', cur, h1, Nat.zero_le _, h3⟩

/-- A row of one byte, written out. -/
theorem lit1 (w : World) (b : Nat) (hb : b < 256) : (w.alloc (Obj.cells #[Value.int IntKind.u8 (b : Int)] 5)).ownsRow w.heap.size 5 1 (.slice (some ⟨w.heap.size, 0, none⟩) 1 1) 1 (cells8 [UInt8.ofNat b]) := by
  have h : cells8 [UInt8.ofNat b] = [Value.int IntKind.u8 (b : Int)] := by simp [cells8, u8_nat _ hb]
  rw [h]
  exact World.ownsRow_lit w #[Value.int IntKind.u8 (b : Int)] 1 (Nat.le_refl _) (by unfold maxLen; omega) rfl

set_option maxRecDepth 100000 in
set_option maxHeartbeats 400000 in
theorem rnum_1 (u : Nat) (hu : u < 128) (w : World) : Calls Tryd.prog 111 #[.int .u64 u] w (NewPost w (num u)) := by
  have hd : decide (u < 128) = true := by simpa using hu
  go_enter Tryd.func111, Tryd.ntmps111
  go_wp2
  go_ret
  rw [num_lt u hu]
  exact ⟨_, rfl, made_of (lit1 w u (by omega)) rfl ((Below.refl _ _).alloc (Nat.le_refl _) _)⟩

set_option maxRecDepth 100000 in
set_option maxHeartbeats 400000 in
theorem rnum_2 (u : Nat) (hu : ¬ u < 128) (hu2 : u < 18446744073709551616) (ih : ∀ w, Calls Tryd.prog 111 #[.int .u64 ((u / 128 : Nat) : Int)] w (NewPost w (num (u / 128)))) (w : World) : Calls Tryd.prog 111 #[.int .u64 u] w (NewPost w (num u)) := by
  have hd : decide (u < 128) = false := by simpa using hu
  have f1 : (u : Int) / 128 = ((u / 128 : Nat) : Int) := by omega
  have f2 : (u : Int) % 128 + 128 = ((u % 128 + 128 : Nat) : Int) := by omega
  have F1 := Lib.hid f1
  have F2 := Lib.hid f2
  clear f1 f2
  have hlen := num_len64 u hu2
  have hn := num_ge u (by omega)
  rw [hn, List.length_cons] at hlen
  rw [hn]
  clear hn
  have hp := num_pos (u / 128)
  have hlit0 := fun W : World => lit1 W (u % 128 + 128) (by omega)
  obtain ⟨b0, hb0⟩ : ∃ b0, UInt8.ofNat (u % 128 + 128) = b0 := ⟨_, rfl⟩
  rw [hb0] at hlit0 ⊢
  have HL0 := Lib.hid hlit0
  clear hb0 hlit0
  obtain ⟨E, hE⟩ : ∃ E, num (u / 128) = E := ⟨_, rfl⟩
  rw [hE] at ih hlen hp ⊢
  have IH := Lib.hid ih
  clear hE ih
  obtain ⟨i0, hi, hz0, hz2, hz3⟩ := info_parts Tryd.info5
  go_enter Tryd.func111, Tryd.ntmps111
  go_wp2_with fail
  rw [F1.out, F2.out]
  refine (IH.out _).mono ?_
  rintro e w3 ⟨v, rfl, g, cap, rfl, hg, hs, hb⟩
  have HS := Lib.hid hs
  have hlit := own_below' (HL0.out w) hb
  have HL := Lib.hid hlit
  have hB : Below w.heap.size w w3 := ((Below.refl _ _).alloc (Nat.le_refl _) _).trans (hb.mono (by simp))
  have hsz := hB.size
  clear hs hlit hb hd
  go_wp2_with ((at_builtin; refine wpList_append_lies _ rfl (.tmp 12) (.tmp 15) 34 rfl w.heap.size 5 i0 _ 1 1 Tryd.underlying34 hi hz0 hz2 hz3 rfl (by omega) (.slice (some ⟨w.heap.size, 0, none⟩) 1 1) 1 (cells8 [b0]) rfl HL.out ⟨g, 0, none⟩ E.length cap (cells8 E) rfl (by simp [cells8]) (World.ownsRow.cells HS.out (g := g) rfl) (by simp [cells8, Value.oneCell']) hp (by unfold maxLen; omega) (by omega) hsz w3.heap.size rfl ?_; intro g2 cap2 w4 hown4 hgr4 hat4 hlt4))
  have hB4 : Below w.heap.size w w4 := Below.grown hB hgr4 hsz (fun k hk => Nat.le_of_eq (by simpa [Value.ownBlock] using hk))
  clear hgr4 hat4 hlt4
  go_wp2
  go_ret
  exact ⟨_, rfl, made_of (l := b0 :: E) hown4 (by simp; omega) hB4⟩

theorem rnum_any : ∀ (u : Nat), u < 18446744073709551616 → ∀ (w : World), Calls Tryd.prog 111 #[.int .u64 u] w (NewPost w (num u)) := by
  intro u
  induction u using Nat.strongRecOn with
  | _ u ih =>
    intro hu w
    by_cases h : u < 128
    · exact rnum_1 u h w
    · exact rnum_2 u h hu (ih (u / 128) (by omega) (by omega)) w

set_option maxHeartbeats 400000 in
theorem runs_any (n : Int) (h : In64 n) (w : World) : Calls Tryd.prog 112 #[.int .i64 n] w fun e w' => e = .returned (.int .u64 (zig n)) ∧ Below w.heap.size w w' := by
  by_cases hn : 0 ≤ n
  · have hd : decide (0 ≤ n) = true := by simpa using hn
    go_enter Tryd.func112, Tryd.ntmps112
    go_wp2
    go_ret
    refine ⟨ret_int ?_, Below.refl _ _⟩
    unfold In64 at h
    unfold zig
    simp only [IntKind.wrap_u64]
    split <;> omega
  · have hd : decide (0 ≤ n) = false := by simpa using hn
    go_enter Tryd.func112, Tryd.ntmps112
    go_wp2
    go_ret
    refine ⟨ret_int ?_, Below.refl _ _⟩
    unfold In64 at h
    unfold zig
    simp only [IntKind.wrap_u64, wrap64]
    split <;> omega
end Go.Proofs.YtfmngeemhfpeiaaDoor.K

namespace Go.Proofs.YtfmngeemhfpeiaaDoor.K
open Go.RowKit

theorem litq (w : World) (q b : Nat) (k : Int) (hq : w.heap.size = q) (hk : k = b) (hb : b < 256) : (w.alloc (Obj.cells #[Value.int IntKind.u8 k] 5)).ownsRow q 5 1 (.slice (some ⟨q, 0, none⟩) 1 1) 1 (cells8 [UInt8.ofNat b]) := by
  subst hk; subst hq; exact lit1 w b hb
theorem own_after {W W' : World} {B e size n : Nat} {v : Value} {xs : List Value} (hb : Below W.heap.size W W') (h : W.ownsRow B e size v n xs) : W'.ownsRow B e size v n xs := own_below' h hb
theorem litB (w : World) (B q b : Nat) (k : Int) (hB : B ≤ q) (hq : w.heap.size = q) (hk : k = b) (hb : b < 256) : (w.alloc (Obj.cells #[Value.int IntKind.u8 k] 5)).ownsRow B 5 1 (.slice (some ⟨q, 0, none⟩) 1 1) 1 (cells8 [UInt8.ofNat b]) := by
  have h := litq w q b k hq hk hb
  exact ⟨h.1, h.2.imp id fun ⟨g, cap, cur, h1, h2, h3⟩ => ⟨g, cap, cur, h1, Nat.le_trans hB h2, h3⟩⟩
theorem made_ofB {w W : World} {B g n cap : Nat} {l : List UInt8} (h : W.ownsRow B 5 1 (.slice (some ⟨g, 0, none⟩) n cap) n (cells8 l)) (hB : w.heap.size ≤ B) (hn : n = l.length) (hb : Below w.heap.size w W) :
    Made w l (.slice (some ⟨g, 0, none⟩) n cap) W := by
  refine made_of ⟨h.1, ?_⟩ hn hb
  rcases h.2 with ⟨h1, _⟩ | ⟨g', cap', cur, h1, h2, h3⟩
  · cases h1
  · exact .inr ⟨g', cap', cur, h1, Nat.le_trans hB h2, h3⟩

set_option maxRecDepth 100000 in
set_option maxHeartbeats 1000000 in
theorem renc_1 (n : Int) (h : In64 n) (s : ByteArray) (a : Option Addr) (len cap : Nat) (w : World) :
    Calls Tryd.prog 102 #[.agg #[.int .i64 1, .int .i64 n, .string s, .slice a len cap]] w (NewPost w (1 :: num (zig n).toNat)) := by
  have hz := zig_range n h
  obtain ⟨u, hu⟩ : ∃ u : Nat, zig n = u := ⟨(zig n).toNat, by omega⟩
  have hcu := runs_any n h
  rw [hu] at hz hcu ⊢
  rw [Int.toNat_natCast]
  have hcn := rnum_any u (by omega)
  have hlen := num_len64 u (by omega)
  have hp := num_pos u
  obtain ⟨E, hE⟩ : ∃ E, num u = E := ⟨_, rfl⟩
  rw [hE] at hcn hlen hp ⊢
  have HU := Lib.hid hcu
  have HN := Lib.hid hcn
  clear hcu hcn hu hE h
  obtain ⟨i0, hi, hz0, hz2, hz3⟩ := info_parts Tryd.info5
  obtain ⟨w1, hw1⟩ : ∃ w1, w1 = w.alloc (Obj.cells #[.int .i64 1, .int .i64 n, .string s, .slice a len cap] 115) := ⟨_, rfl⟩
  have hs1 : w1.heap.size = w.heap.size + 1 := by rw [hw1]; simp
  have hB1 : Below w.heap.size w w1 := by rw [hw1]; go_grown
  have HW1 := Lib.hid hw1
  clear hw1
  go_enter Tryd.func102, Tryd.ntmps102
  go_wp2_with fail
  rw [← HW1.out]
  refine (HU.out _).mono ?_
  rintro e w2 ⟨rfl, hb2⟩
  have hl2 := own_below' (litq w1 (w.heap.size + 1) 1 1 hs1 rfl (by omega)) hb2
  have HL2 := Lib.hid hl2
  have hB2 : Below w.heap.size w w2 := hB1.trans (Below.trans ((Below.refl _ _).alloc (by omega) _) (hb2.mono (by simp; omega)))
  clear hb2 hl2
  go_wp2_with fail
  refine (HN.out _).mono ?_
  rintro e w3 ⟨v, rfl, g, cp, rfl, hg, hs, hb3⟩
  have HL := Lib.hid (own_below' HL2.out hb3)
  have HS := Lib.hid hs
  have hB3 := hB2.trans (hb3.mono hB2.size)
  have hsz := hB3.size
  have hsz1 : w.heap.size + 1 ≤ w3.heap.size := Nat.le_of_lt (HL.out.lt _ rfl).2
  clear hb3 hs HL2
  go_wp2_with ((at_builtin; refine wpList_append_lies _ rfl (.tmp 9) (.tmp 13) 34 rfl (w.heap.size + 1) 5 i0 _ 1 1 Tryd.underlying34 hi hz0 hz2 hz3 rfl (by omega) (.slice (some ⟨w.heap.size + 1, 0, none⟩) 1 1) 1 (cells8 [UInt8.ofNat 1]) rfl HL.out ⟨g, 0, none⟩ E.length cp (cells8 E) rfl (by simp [cells8]) (World.ownsRow.cells HS.out (g := g) rfl) (by simp [cells8, Value.oneCell']) hp (by unfold maxLen; omega) (by omega) hsz1 w3.heap.size rfl ?_; intro g2 cap2 w4 hown4 hgr4 hat4 hlt4))
  have hB4 : Below w.heap.size w w4 := Below.grown hB3 hgr4 hsz (fun k hk => by
    have hk : w.heap.size + 1 = k := by simpa [Value.ownBlock] using hk
    omega)
  have hm : Made w (1 :: E) _ w4 := made_ofB (l := 1 :: E) hown4 (by omega) (by simp; omega) hB4
  have HM := Lib.hid hm
  clear hgr4 hat4 hlt4 hm hown4 hB4
  go_wp2
  go_ret
  exact ⟨_, rfl, HM.out⟩

def REnc (x : V) : Prop := ∀ (w : World) (B : Nat) (v : Value), x.formed = true → x.enc.length ≤ 1000000000 → B ≤ w.heap.size → V.At w B x v → Calls Tryd.prog 102 #[v] w (NewPost w x.enc)

theorem enc_pos' (x : V) : 0 < x.enc.length := by
  obtain ⟨k, n, s, l⟩ := x
  unfold V.enc
  split
  · simp
  · split <;> simp

theorem encs_append' : ∀ (l m : List V), V.encs (l ++ m) = V.encs l ++ V.encs m
  | [], m => by rw [V.encs_nil]; rfl
  | x :: l, m => by rw [List.cons_append, V.encs_cons, V.encs_cons, encs_append' l m, List.append_assoc]

set_option maxRecDepth 100000 in
set_option maxHeartbeats 2000000 in
theorem renc_3 (n : Int) (s : ByteArray) (l : List V) (ih : ∀ x ∈ l, REnc x) (a : Option Addr) (cap : Nat) (w : World) (hf : V.formeds l = true) (hbd : (num l.length ++ V.encs l).length ≤ 999999999) (hcap : l.length ≤ cap) (hm : cap ≤ maxLen)
    (h : l = [] ∨ ∃ b off, a = some ⟨b, off, none⟩ ∧ b < w.heap.size ∧ AtL w w.heap.size l b off) :
    Calls Tryd.prog 102 #[.agg #[.int .i64 3, .int .i64 n, .string s, .slice a l.length cap]] w (NewPost w (3 :: (num l.length ++ V.encs l))) := by
  unfold maxLen at hm
  obtain ⟨len, hlen⟩ : ∃ len, l.length = len := ⟨_, rfl⟩
  rw [hlen] at hcap hbd ⊢
  have hll : len < 18446744073709551616 := by omega
  have hcn := rnum_any len hll
  have hnl := num_len64 len hll
  have hp := num_pos len
  obtain ⟨E, hE⟩ : ∃ E, num len = E := ⟨_, rfl⟩
  rw [hE] at hcn hnl hp hbd ⊢
  rw [List.length_append] at hbd
  have HLEN := Lib.hid hlen
  have HN := Lib.hid hcn
  have HSH := Lib.hid h
  have IH := Lib.hid ih
  have HF := Lib.hid hf
  have HBD := Lib.hid hbd
  clear hcn hE hlen h ih hf hbd
  obtain ⟨i0, hi, hz0, hz2, hz3⟩ := info_parts Tryd.info5
  obtain ⟨w1, hw1⟩ : ∃ w1, w1 = w.alloc (Obj.cells #[.int .i64 3, .int .i64 n, .string s, .slice a len cap] 115) := ⟨_, rfl⟩
  have hs1 : w1.heap.size = w.heap.size + 1 := by rw [hw1]; simp
  have hB1 : Below w.heap.size w w1 := by rw [hw1]; go_grown
  have c1 : w1.cell? ⟨w.heap.size, 3, none⟩ = some (Value.slice a len cap) := by rw [hw1]; go_cell
  have HW1 := Lib.hid hw1
  clear hw1
  go_enter Tryd.func102, Tryd.ntmps102
  go_wp2_with fail
  rw [← HW1.out]
  have f0 : IntKind.u64.wrap (len : Int) = len := by rw [IntKind.wrap_u64]; omega
  try rw [f0]
  refine (HN.out _).mono ?_
  rintro e w3 ⟨v, rfl, g, cp, rfl, hg, hs, hb3⟩
  have HL := Lib.hid (own_below' (litq w1 (w.heap.size + 1) 3 3 hs1 rfl (by omega)) hb3)
  have HS := Lib.hid hs
  have hB3 : Below (w.heap.size + 1) w1 w3 := Below.trans ((Below.refl _ _).alloc (by omega) _) (hb3.mono (by simp; omega))
  have hsz := hB3.size
  have hsz1 : w.heap.size + 1 ≤ w3.heap.size := by omega
  clear hb3 hs f0
  go_wp2_with ((at_builtin; refine wpList_append_lies _ rfl (.tmp 27) (.tmp 32) 34 rfl (w.heap.size + 1) 5 i0 _ 1 1 Tryd.underlying34 hi hz0 hz2 hz3 rfl (by omega) (.slice (some ⟨w.heap.size + 1, 0, none⟩) 1 1) 1 (cells8 [UInt8.ofNat 3]) rfl HL.out ⟨g, 0, none⟩ E.length cp (cells8 E) rfl (by simp [cells8]) (World.ownsRow.cells HS.out (g := g) rfl) (by simp [cells8, Value.oneCell']) hp (by unfold maxLen; omega) (by omega) hsz1 w3.heap.size rfl ?_; intro g2 cap2 w4 hown4 hgr4 hat4 hlt4))
  have hB4 : Below (w.heap.size + 1) w1 w4 := Below.grown hB3 hgr4 (by omega) (fun k hk => by
    have hk : w.heap.size + 1 = k := by simpa [Value.ownBlock] using hk
    omega)
  have HO := Lib.hid hown4
  have HB4 := Lib.hid hB4
  clear hgr4 hat4 hlt4 hown4 hB4
  go_wp2
  go_loopw [3, 4] (fun o i wr => ∃ (j N : Nat) (A : List UInt8) (g cap : Nat), i = .int .i64 j ∧ o = .slice (some ⟨g, 0, none⟩) N cap ∧ N = A.length ∧ j ≤ len ∧ A ++ V.encs (l.drop j) = 3 :: (E ++ V.encs l) ∧ V.formeds (l.drop j) = true ∧ wr.ownsRow (w.heap.size + 1) 5 1 (.slice (some ⟨g, 0, none⟩) N cap) N (cells8 A) ∧ Below (w.heap.size + 1) w1 wr) (fun _ i _ => len - (intOf i).toNat)
  case atStart => exact ⟨0, 1 + E.length, 3 :: E, g2, cap2, rfl, rfl, by simp; omega, Nat.zero_le _, by simp, by simpa using HF.out, HO.out, HB4.out⟩
  case round =>
    obtain ⟨j, N, A, gr, capr, rfl, rfl, hN, hjl, hA, hfo, hown, hBr⟩ := hrel
    subst hN
    have d1 : wr.cell? ⟨w.heap.size, 3, none⟩ = some (Value.slice a len cap) := (hBr.cell (by show w.heap.size < _; omega)).trans c1
    have hBw : Below w.heap.size w wr := hB1.trans (hBr.mono (by omega))
    have hszr := hBr.size
    have HA := Lib.hid hA
    have hal : A.length + (V.encs (l.drop j)).length ≤ 1000000000 := by
      have := congrArg List.length hA
      rw [List.length_append, List.length_cons, List.length_append] at this
      have := HBD.out
      omega
    clear hA
    by_cases hlt : j < len
    · rcases HSH.out with h0 | ⟨b, off, ha, hbl, hat⟩
      · have := HLEN.out; rw [h0] at this; simp at this; omega
      subst ha
      obtain ⟨k2, n2, s2, a2, ln, cp2, g0, g1, g2, g3, ga⟩ := AtL.got l b off j (by rw [HLEN.out]; exact hlt) (AtL.below hBw l b off hbl hat)
      have hdl : l.drop j = (l[j]'(by rw [HLEN.out]; exact hlt)) :: l.drop (j + 1) := List.drop_eq_getElem_cons (by rw [HLEN.out]; exact hlt)
      rw [hdl, V.formeds_cons, Bool.and_eq_true] at hfo
      have hfo2 := hfo.2
      have hA2 := HA.out
      rw [hdl, V.encs_cons] at hA2 hal
      rw [List.length_append] at hal
      have hc := IH.out _ (List.getElem_mem (by rw [HLEN.out]; exact hlt)) wr w.heap.size _ hfo.1 (by omega) (by have := hBw.size; omega) ga
      have hep := enc_pos' (l[j]'(by rw [HLEN.out]; exact hlt))
      obtain ⟨r, hr⟩ : ∃ r, (l[j]'(by rw [HLEN.out]; exact hlt)).enc = r := ⟨_, rfl⟩
      rw [hr] at hc hA2 hal hep
      have HC := Lib.hid hc
      have HA2 := Lib.hid hA2
      have HF2 := Lib.hid hfo2
      have HOW := Lib.hid hown
      clear hc hr hA2 hfo hfo2 hdl ga hown hat
      go_wp2_with fail
      refine HC.out.mono ?_
      rintro e w5 ⟨v, rfl, g5, cp5, rfl, hg5, hs5, hb5⟩
      have HS5 := Lib.hid hs5
      have HW5 := Lib.hid (own_below' HOW.out hb5)
      have hB5 : Below (w.heap.size + 1) w1 w5 := hBr.trans (hb5.mono (by omega))
      have hsz5 := hB5.size
      have hsz6 : w.heap.size + 1 ≤ w5.heap.size := by omega
      clear hb5 hs5
      go_wp2_with ((at_builtin; refine wpList_append_lies _ rfl (.tmp 41) (.tmp 47) 34 rfl (w.heap.size + 1) 5 i0 _ 1 1 Tryd.underlying34 hi hz0 hz2 hz3 rfl (by omega) (.slice (some ⟨gr, 0, none⟩) A.length capr) A.length (cells8 A) rfl HW5.out ⟨g5, 0, none⟩ r.length cp5 (cells8 r) rfl (by simp [cells8]) (World.ownsRow.cells HS5.out (g := g5) rfl) (by simp [cells8, Value.oneCell']) hep (by unfold maxLen; omega) (by omega) hsz6 w5.heap.size rfl ?_; intro g6 cap6 w6 hown6 hgr6 hat6 hlt6))
      have hlw := HW5.out.lt
      have hB6 : Below (w.heap.size + 1) w1 w6 := Below.grown hB5 hgr6 (by omega) (fun k hk => (hlw k hk).1)
      have HO6 := Lib.hid hown6
      clear hgr6 hat6 hlt6 hown6 hlw
      go_wp2
      go_roundw
      case rel => exact ⟨j + 1, A.length + r.length, A ++ r, g6, cap6, by go_num, rfl, by simp, by omega, by rw [List.append_assoc]; exact HA2.out, HF2.out, by rw [show cells8 (A ++ r) = cells8 A ++ cells8 r by unfold cells8; exact List.map_append ..]; exact HO6.out, hB6⟩
      case measure => simp [intOf]; omega
    · have hje : j = len := by omega
      have hn : l.drop j = [] := by rw [hje]; exact List.drop_of_length_le (by rw [HLEN.out]; exact Nat.le_refl _)
      have hA2 : A = 3 :: (E ++ V.encs l) := by have := HA.out; rw [hn, V.encs_nil, List.append_nil] at this; exact this
      have hmade : Made w (3 :: (E ++ V.encs l)) _ wr := made_ofB (by rw [← hA2]; exact hown) (by omega) (by rw [← hA2]) hBw
      have HM := Lib.hid hmade
      clear hje hn hA2 hmade hown hfo hal
      go_wp2
      go_ret
      exact ⟨_, rfl, HM.out⟩
/-- A text is appended to a row of the call's own, as a step of a region that draws its order. -/
theorem step_text {ops : Array Oper} {o : Oper} {a : Act} {w : World} {K : Act → World → Prop} {Q : Exit → Act → World → Prop} {E : Prop} (hgd : o.guard = none) (sl x : Operand)
    (ho : o.op = .call { callee := .builtin .append, args := #[sl, x], argTypes := #[34, 9] }) (base g n cap : Nat) (l : List UInt8) (hs : a.eval sl = .slice (some ⟨g, 0, none⟩) n cap) (hown : w.ownsRow base 5 1 (.slice (some ⟨g, 0, none⟩) n cap) n (cells8 l))
    (hn : 0 < n) (s : ByteArray) (hx : a.eval x = .string s) (hb : n + s.size ≤ 140737488355328) (hbase : base ≤ w.heap.size)
    (h : ∀ g' cap' w', w'.ownsRow base 5 1 (.slice (some ⟨g', 0, none⟩) (n + s.size) cap') (n + s.size) (cells8 (l ++ s.data.toList)) → w.grownBy w' (some g) → K (a.put o.dst (.slice (some ⟨g', 0, none⟩) (n + s.size) cap')) w') :
    if Region.wanted o (yielded ops a.tmps) = true then Oper.wp Tryd.prog o a w K Q else E := by
  have hw : Region.wanted o (yielded ops a.tmps) = true := by simp [Region.wanted, hgd]
  rw [if_pos hw]
  obtain ⟨i0, hi, hz0, hz1, hz2⟩ := info_parts Tryd.info5
  obtain ⟨v', w', hr, h2, h3, _⟩ := Lib.run_append_own_string (P := Tryd.prog) w base 34 9 o.type 5 i0 Tryd.underlying34 Tryd.underlying9 hi hz0 hz1 hz2 _ n _ hown s (by unfold maxLen; omega) hb hbase
  obtain ⟨g', cap', rfl⟩ : ∃ g' cap', v' = .slice (some ⟨g', 0, none⟩) (n + s.size) cap' := by
    rcases h2.2 with ⟨_, h0⟩ | ⟨g', cap', cur, hv, _⟩
    · omega
    · exact ⟨g', cap', hv⟩
  unfold Oper.wp execOp
  simp only [ho, resolve, invoke, builtin, Sem.run_bind, Sem.run_pure, Result.andThen_ok, List.map_toArray, List.map_cons, List.map_nil, hs, hx, hr]
  refine h _ _ _ ?_ h3
  have : cells8 (l ++ s.data.toList) = cells8 l ++ Lib.strCells s := by unfold cells8 Lib.strCells; exact List.map_append ..
  rw [this]; exact h2

set_option maxRecDepth 100000 in
set_option maxHeartbeats 2000000 in
theorem renc_2 (n : Int) (s : ByteArray) (hss : s.size ≤ 1000000000) (a : Option Addr) (len cap : Nat) (w : World) :
    Calls Tryd.prog 102 #[.agg #[.int .i64 2, .int .i64 n, .string s, .slice a len cap]] w (NewPost w (2 :: (num s.size ++ s.data.toList))) := by
  have hcn := rnum_any s.size (by omega)
  have hlen := num_len64 s.size (by omega)
  have hp := num_pos s.size
  obtain ⟨E, hE⟩ : ∃ E, num s.size = E := ⟨_, rfl⟩
  rw [hE] at hcn hlen hp ⊢
  obtain ⟨w1, hw1⟩ : ∃ w1, w1 = w.alloc (Obj.cells #[.int .i64 2, .int .i64 n, .string s, .slice a len cap] 115) := ⟨_, rfl⟩
  have hs1 : w1.heap.size = w.heap.size + 1 := by rw [hw1]; simp
  have hB1 : Below w.heap.size w w1 := by rw [hw1]; go_grown
  have c2 : ∀ W, Kept w1 W → W.cell? ⟨w.heap.size, 2, none⟩ = some (.string s) := fun W hW => (hW.below.cell (by show w.heap.size < _; omega)).trans (by rw [hw1]; go_cell)
  have hn2 : ∀ W, Kept w1 W → Calls Tryd.prog 111 #[.int .u64 s.size] W fun e w' => ∃ g cp, e = .returned (.slice (some ⟨g, 0, none⟩) E.length cp) ∧ Spare w' g E.length cp E ∧ Kept w1 w' ∧ Below W.heap.size W w' := fun W hW =>
    (hcn W).mono fun e w' ⟨v, h1, g, cp, h2, h3, h4, h5⟩ => ⟨g, cp, by rw [h1, h2], h4, hW.next h5, h5⟩
  have hkg : ∀ W W' k, Kept w1 W → w1.heap.size ≤ k → W.grownBy W' (some k) → Kept w1 W' := fun W W' k hW hk hg => Below.grown hW.below hg hW.below.size (fun k' hk' => by cases hk'; exact hk)
  have HN := Lib.hid hn2
  have HKG := Lib.hid hkg
  have HW1 := Lib.hid hw1
  clear hcn hn2 hkg hw1 hE
  obtain ⟨i0, hi, hz0, hz2, hz3⟩ := info_parts Tryd.info5
  have f0 : IntKind.u64.wrap (s.size : Int) = s.size := by rw [IntKind.wrap_u64]; omega
  go_enter Tryd.func102, Tryd.ntmps102
  go_wp2_with fail
  rw [← HW1.out]
  have HS1 := Lib.hid hs1
  clear hs1
  go_region_held3 (fun W => Kept w1 W) (first | assumption | exact Kept.drew (Kept.refl _) | exact Kept.drew (by assumption) | exact Kept.alloc (by assumption) _ | exact HKG.out _ _ _ (by assumption) (hown4.lt g4 rfl).1 hgr5 | exact HKG.out _ _ _ hK3 (Nat.le_refl _) hgr4 | exact HKG.out _ _ _ (Kept.alloc hK3 _) hK3.below.size hgr4)
    (first
      | (go_at_call 111; refine (HN.out _ (by assumption)).mono ?_; rintro e w3 ⟨g, cp, rfl, hs, hK3, hb3⟩)
      | (refine step_append_lies _ (by rfl) (.tmp 17) (.tmp 22) 34 (by rfl) w1.heap.size 5 i0 _ 1 1 Tryd.underlying34 hi hz0 hz2 hz3 rfl (by omega) (.slice (some ⟨w1.heap.size, 0, none⟩) 1 1) 1 (cells8 [UInt8.ofNat 2]) (by rfl) (own_after hb3 (litq w1 w1.heap.size 2 2 rfl rfl (by omega))) ⟨g, 0, none⟩ E.length cp (cells8 E) (by rfl) (by simp [cells8]) (World.ownsRow.cells hs (g := g) rfl) (by simp [cells8, Value.oneCell']) hp (by unfold maxLen; omega) (by omega) hK3.below.size _ rfl ?_; intro g4 cap4 w4 hown4 hgr4 hat4 hlt4)
      | (refine step_append_lies _ (by rfl) (.tmp 17) (.tmp 22) 34 (by rfl) w1.heap.size 5 i0 _ 1 1 Tryd.underlying34 hi hz0 hz2 hz3 rfl (by omega) (.slice (some ⟨w3.heap.size, 0, none⟩) 1 1) 1 (cells8 [UInt8.ofNat 2]) (by rfl) (litB w3 w1.heap.size w3.heap.size 2 2 hK3.below.size rfl rfl (by omega)) ⟨g, 0, none⟩ E.length cp (cells8 E) (by rfl) (by simp [cells8]) (World.ownsRow.cells (World.ownsRow.alloc hs (Obj.cells #[Value.int IntKind.u8 2] 5)) (g := g) rfl) (by simp [cells8, Value.oneCell']) hp (by unfold maxLen; omega) (by omega) (by have := hK3.below.size; simp; omega) _ rfl ?_; intro g4 cap4 w4 hown4 hgr4 hat4 hlt4)
      | (refine step_text (by rfl) _ _ (by rfl) w1.heap.size g4 (1 + E.length) cap4 (UInt8.ofNat 2 :: E) (by rfl) hown4 (by omega) s (by rfl) (by omega) (Nat.le_trans (hown4.lt g4 rfl).1 (Nat.le_of_lt (hown4.lt g4 rfl).2)) ?_; intro g5 cap5 w5 hown5 hgr5))
  all_goals
    have hsd : s.data.toList.length = s.size := by rw [Array.length_toList]; rfl
    have hm : Made w (2 :: (E ++ s.data.toList)) (.slice (some ⟨g5, 0, none⟩) (1 + E.length + s.size) cap5) w5 := made_ofB (l := 2 :: (E ++ s.data.toList)) hown5 (by have := HS1.out; omega) (by rw [List.length_cons, List.length_append, hsd]; omega) (hB1.trans ((‹Kept w1 w5› : Kept w1 w5).below.mono (by have := HS1.out; omega)))
    have HM := Lib.hid hm
    clear hm hown5 hgr5 hown4 hgr4 hat4 hlt4 hs hsd
    go_wp2
    go_ret
    exact ⟨_, rfl, HM.out⟩

theorem refEnc : ∀ (N : Nat) (x : V), SizeOf.sizeOf x ≤ N → REnc x
  | 0, ⟨k, n, s, l⟩, h => by simp at h
  | N + 1, ⟨k, n, s, l⟩, h => by
    intro w B v hf hb hB hx
    have hx := V.At.mono hB _ _ hx
    unfold V.At at hx
    obtain ⟨h1, h2, h3, a, cap, rfl, h5, h6, h7⟩ := hx
    unfold V.enc at hb ⊢
    unfold V.formed at hf
    by_cases e1 : k = 1
    · subst e1
      simp only [if_true]
      exact renc_1 n h2 s a _ cap w
    by_cases e2 : k = 2
    · subst e2
      simp only [show ¬ ((2 : Int) = 1) by omega, if_true, if_false] at hb ⊢
      have hsd : s.data.toList.length = s.size := by rw [Array.length_toList]; rfl
      rw [List.length_cons, List.length_append, hsd] at hb
      exact renc_2 n s (by omega) a _ cap w
    · by_cases e3 : k = 3
      · subst e3
        simp only [show ¬ ((3 : Int) = 1) by omega, show ¬ ((3 : Int) = 2) by omega, if_true, if_false] at hb hf ⊢
        simp only [Bool.and_eq_true] at hf
        rw [List.length_cons] at hb
        exact renc_3 n s l (fun x hx => refEnc N x (by have := List.sizeOf_lt_of_mem hx; simp at h; omega)) a cap w hf.2.2 (by omega) h5 h6 h7
      · simp [e1, e2, e3] at hf
end Go.Proofs.YtfmngeemhfpeiaaDoor.K

namespace Go.Proofs.YtfmngeemhfpeiaaDoor.K
open Go.RowKit Go.ChangeShapes Go.WideShapes Go.ChangeAt

set_option maxHeartbeats 400000 in
theorem rencode_bad (x : V) (w : World) (B : Nat) (v : Value) (hd : V.dep x ≤ 1000000) (hB : B ≤ w.heap.size) (h : V.At w B x v) (hk : x.chk ≠ 0) :
    Calls Tryd.prog 91 #[v] w fun e w' => e = .returned (.tuple #[.slice none 0 0, .int .i64 x.chk]) ∧ Below w.heap.size w w' := by
  have hc : ∀ W, Below w.heap.size w W → Calls Tryd.prog 101 #[v] W fun e w' => e = .returned (.int .i64 x.chk) ∧ Below W.heap.size W w' :=
    fun W hW => rcheck_any x W B v hd (by have := hW.size; omega) (V.At.below (hW.mono hB) _ _ h)
  obtain ⟨q, hq⟩ : ∃ q, x.chk = q := ⟨_, rfl⟩
  rw [hq] at hc hk ⊢
  obtain ⟨k, n, s, l⟩ := x
  unfold V.At at h
  obtain ⟨h1, h2, h3, a, cap, rfl, _⟩ := h
  have HC := Lib.hid hc
  have hq1 : (q != 0) = true := by simpa using hk
  clear hc h1 h2 hq
  go_enter Tryd.func91, Tryd.ntmps91
  go_wp2_with fail
  refine (HC.out _ (by go_grown)).mono ?_
  rintro e w3 ⟨rfl, hb3⟩
  have hB3 : Below w.heap.size w w3 := Below.trans (B := w.heap.size) (by go_grown) (hb3.mono (by simp))
  clear hb3
  go_wp2
  go_ret2
  exact ⟨rfl, hB3⟩

set_option maxHeartbeats 400000 in
theorem rencode_ok (x : V) (w : World) (B : Nat) (v : Value) (hd : V.dep x ≤ 1000000) (hB : B ≤ w.heap.size) (h : V.At w B x v) (hk : x.chk = 0) (hbd : x.enc.length ≤ 1000000000) :
    Calls Tryd.prog 91 #[v] w (EncPost w x.enc) := by
  have hf : x.formed = true := x.chk_formed hk
  have hc : ∀ W, Below w.heap.size w W → Calls Tryd.prog 101 #[v] W fun e w' => e = .returned (.int .i64 0) ∧ Below W.heap.size W w' :=
    fun W hW => by rw [← hk]; exact rcheck_any x W B v hd (by have := hW.size; omega) (V.At.below (hW.mono hB) _ _ h)
  have he : ∀ W, Below w.heap.size w W → Calls Tryd.prog 102 #[v] W (NewPost W x.enc) :=
    fun W hW => refEnc _ x (Nat.le_refl _) W B v hf hbd (by have := hW.size; omega) (V.At.below (hW.mono hB) _ _ h)
  obtain ⟨E, hE⟩ : ∃ E, x.enc = E := ⟨_, rfl⟩
  rw [hE] at he ⊢
  obtain ⟨k, n, s, l⟩ := x
  unfold V.At at h
  obtain ⟨h1, h2, h3, a, cap, rfl, _⟩ := h
  obtain ⟨w1, hw1⟩ : ∃ w1, w1 = w.alloc (Obj.cells #[.int .i64 k, .int .i64 n, .string s, .slice a l.length cap] 115) := ⟨_, rfl⟩
  have hs1 : w1.heap.size = w.heap.size + 1 := by rw [hw1]; simp
  have hB1 : Below w.heap.size w w1 := by rw [hw1]; go_grown
  have p0 : ∀ W, Kept w1 W → W.cell? ⟨w.heap.size, 0, none⟩ = some (.int .i64 k) := fun W hW => (hW.below.cell (by show w.heap.size < _; omega)).trans (by rw [hw1]; go_cell)
  have p1 : ∀ W, Kept w1 W → W.cell? ⟨w.heap.size, 1, none⟩ = some (.int .i64 n) := fun W hW => (hW.below.cell (by show w.heap.size < _; omega)).trans (by rw [hw1]; go_cell)
  have p2 : ∀ W, Kept w1 W → W.cell? ⟨w.heap.size, 2, none⟩ = some (.string s) := fun W hW => (hW.below.cell (by show w.heap.size < _; omega)).trans (by rw [hw1]; go_cell)
  have p3 : ∀ W, Kept w1 W → W.cell? ⟨w.heap.size, 3, none⟩ = some (.slice a l.length cap) := fun W hW => (hW.below.cell (by show w.heap.size < _; omega)).trans (by rw [hw1]; go_cell)
  have HC := Lib.hid (hc w1 hB1)
  have HE := Lib.hid he
  have HW1 := Lib.hid hw1
  clear hc he h1 h2 hE hf hk hbd hd hw1
  go_enter Tryd.func91, Tryd.ntmps91
  go_wp2_with fail
  rw [← HW1.out]
  refine HC.out.mono ?_
  rintro e w3 ⟨rfl, hb3⟩
  have hK3 : Kept w1 w3 := hb3
  have s0 := p0 _ hK3
  have s1 := p1 _ hK3
  have s2 := p2 _ hK3
  have s3 := p3 _ hK3
  have hB3 : Below w.heap.size w w3 := hB1.trans (hb3.mono (by omega))
  clear hb3 hK3
  go_wp2_with fail
  refine (HE.out _ hB3).mono ?_
  rintro e w4 ⟨v, rfl, g, cp, rfl, hg, hs, hb4⟩
  have hm : Made w E (.slice (some ⟨g, 0, none⟩) E.length cp) w4 := ⟨g, cp, rfl, Nat.le_trans hB3.size hg, hs, hB3.trans (hb4.mono hB3.size)⟩
  have HM := Lib.hid hm
  clear hg hs hb4 hm s0 s1 s2 s3
  go_wp2
  go_ret2
  exact ⟨_, rfl, HM.out⟩

end Go.Proofs.YtfmngeemhfpeiaaDoor.K
